/-
  For every catalog and command of bulk at most 1048576 together, FindTable, FindCol, GoodTable, Good, Bind and With answer exactly what P4.1 to P4.9 say, errors too. The condition is the bulk; the card ties the listed tables of the library.
-/
import Derived.Test.YtmgkcjiejmhgcaaGreatDoorJ50
import Derived.Test.YtmgkcjiejmhgcaaGreatDoorJ53
import Derived.Test.YtmgkcjiejmhgcaaGreatDoorRows
import Derived.Test.YtmgkcjiejmhgcaaGreatDoorCards
import Derived.Test.YtmgkcjiejmhgcaaGreatDoorTie
import Derived.WalkKit
import Derived.WalkSpells
import Derived.WalkLawsBesides
import Derived.Deep.RegionHeld3
import Derived.ProofKit
import Derived.OpenShut
import Derived.ChangeOld
import Derived.JoinedCond
import Derived.Lib.SmallJoins
import Derived.Deep.DeepHandedRow
import Derived.Lib.LaidTab
import Derived.LaidMore
set_option linter.unusedSimpArgs false
set_option linter.unusedVariables false
namespace Go.Proofs.YtmgkcjiejmhgcaaGreatDoor
open Go.ChangeShapes Go.WideShapes Go.ChangeAt Go.RowKit
theorem Aae {W :World} (h :W.ShapedOpen Tryz.prog) :EnvM W :=by
 obtain ⟨m,hm⟩ :=Tryz.laysM144.s1_3 W h
 exact ⟨⟨m,hm⟩,block_lt_of_cell hm⟩
theorem schemaBinds_own :ownKnob Tryz.prog.godebug=none :=by kernel_rfl
theorem schemaBinds_laidOut :laidOutB Tryz.prog=true :=by kernel_rfl
theorem schemaBinds_small {H :Type} {d0 d1 :DataW H} (hk :Rows.uptoSmall H [d0,d1] =true) :Rows.uptoBulk d0≤16777216∧Rows.uptoBulk d1≤16777216 :=by
 have h :Rows.uptoBulkAll [d0,d1] ≤1048576 :=of_decide_eq_true hk
 simp only [Rows.uptoBulkAll] at h
 omega
set_option maxRecDepth 100000 in
theorem schemaBinds_contract (H :Type) (enc :TypeId×Value→H) (W :World) (base :Nat) (args :Array Value) (ds gs :List (DataW H)) (before :List MemPlace)
  (hval : ∀ (j :Nat) t v,Tryz.f3.params[j]? =some t→args[j]? =some v→Value.okWide Tryz.prog W .any base t v)
  (hW :DataW.Whole enc Tryz.prog Tryz.f3.params.toList Rows.schemaBindsSpec.vars false W args.toList ds gs before) (hk :Rows.uptoSmall H (ds++gs) =true) (hsh :W.ShapedOpen Tryz.prog) :
  Calls Tryz.prog 3 args W fun e W'=> ∃v,e= .returned v∧Rows.schemaBindsSpec.post enc Tryz.prog Tryz.f3 false true false false W args v W' :=by
 have hW' :=hW
 obtain ⟨p,q,hA0,hV,rfl,_,_⟩ :=hW
 have hA :DataW.TrodAll enc Tryz.prog W 0 (fun _=>true) true Tryz.f3.params.toList args.toList ds p :=hA0
 rw [Tryz.params3] at hA hval
 obtain ⟨v0,v1,d0,d1,p0,p1,rfl,rfl,rfl,h0,h1⟩ :=trodAll_two hA
 obtain ⟨rfl,rfl⟩ :=trodVars_none hV
 obtain ⟨cs0,rfl,hsz0⟩ :=okWide_struct Tryz.underlying25 (hval 0 25 v0 rfl rfl)
 obtain ⟨cs1,rfl,hsz1⟩ :=okWide_struct Tryz.underlying36 (hval 1 36 v1 rfl rfl)
 have k0 :=h0
 have k1 :=h1
 have lt0 : ∀x∈p0,x.block<W.heap.size :=by obtain ⟨m,hm⟩ :=k0;exact DataW.trod_lt m _ _ _ hm
 have lt1 : ∀x∈p1,x.block<W.heap.size :=by obtain ⟨m,hm⟩ :=k1;exact DataW.trod_lt m _ _ _ hm
 obtain ⟨n0,f0⟩ :=h0
 obtain ⟨n1,f1⟩ :=h1
 simp only [List.append_nil] at hk
 obtain ⟨hb0,hb1⟩ :=schemaBinds_small hk
 obtain ⟨c,hc,hfc,hl1,hl2,hl3⟩ :=Xi hb0 f0
 have hc' :Bh (fun k=>k<W.heap.size) W c (.agg cs0) :=by simpa [Value.cells] using hc
 obtain ⟨st,hst,hfb,hfp,hfl,_,_⟩ :=Xg hb1 f1
 have hst' :Abs.R (fun k=>k<W.heap.size) W st cs1.toList :=by simpa [Value.cells] using hst
 clear hA0
 obtain ⟨tv,iv,he0,_,_⟩ :=id hc'
 obtain rfl :=Value.agg.inj he0
 refine (Yv c st tv iv cs1 W hc' hst' ⟨hfc,hfb,hfp,hfl,hl1,hl2,hl3⟩ (Aae hsh)).mono fun e W' ⟨he,bel⟩ => ?_
 subst he
 exact ⟨_,rfl,_,_,_,[],_,[],hW',trodAll_mk1 (shut_bool Tryz.underlying4 _),(trodAll_cons_mk (Below.trod schemaBinds_laidOut (by kernel_rfl) (of_decide_eq_true (by kernel_rfl)) k0 bel lt0) (trodAll_cons_mk (Below.trod schemaBinds_laidOut (by kernel_rfl) (of_decide_eq_true (by kernel_rfl)) k1 bel lt1) trodAll_mk0)),rfl,bel.frame _,fun h=>by cases h⟩
def Abq :DataW Unit→Value
 | .lit (.int k n) => .int k n
 | _=>undef
def Ko :DataW Unit→List Value
 | .agg l=>l.map Abq
 | _=> []
def L8 :DataW Unit→List Value
 | .agg l=>l.flatMap Ko
 | _=> []
theorem Aa0 (os :Os) :laidMet Tryz.prog Rows.schemaBindsUptoRow.laid (({World.holding Tryz.prog os ⟨#[],#[],[]⟩ with heap := ((World.holding Tryz.prog os ⟨#[],#[],[]⟩).heap.modify 1 fun | .cells _ t frozen=> .cells (Ko Go.Pinned.utf8First).toArray t frozen | o=>o).modify 2 fun | .cells _ t frozen=> .cells (L8 Rows.laid_unicode_utf8_acceptRanges).toArray t frozen | o=>o} :World).forCall (fun _ _=>0) ⟨#[],#[.agg #[.slice none 0 0, .slice none 0 0], .agg #[.int .i64 0, .string .empty, .string .empty, .string .empty, .slice none 0 0, .slice none 0 0, .slice none 0 0, .slice none 0 0, .slice none 0 0, .int .i64 0, .int .i64 0, .int .i64 0, .string .empty, .string .empty, .string .empty, .int .i64 0, .slice none 0 0, .slice none 0 0, .bool false, .int .i64 0]],[]⟩).memory :=
 laidMet_of_run' 8 (by kernel_rfl) (by kernel_rfl)
theorem Y2 (os :Os) {H :Type} (enc :TypeId×Value→H) : ∃places,DataW.whole enc Tryz.prog (({World.holding Tryz.prog os ⟨#[],#[],[]⟩ with heap := ((World.holding Tryz.prog os ⟨#[],#[],[]⟩).heap.modify 1 fun | .cells _ t frozen=> .cells (Ko Go.Pinned.utf8First).toArray t frozen | o=>o).modify 2 fun | .cells _ t frozen=> .cells (L8 Rows.laid_unicode_utf8_acceptRanges).toArray t frozen | o=>o} :World).forCall (fun _ _=>0) ⟨#[],#[.agg #[.slice none 0 0, .slice none 0 0], .agg #[.int .i64 0, .string .empty, .string .empty, .string .empty, .slice none 0 0, .slice none 0 0, .slice none 0 0, .slice none 0 0, .slice none 0 0, .int .i64 0, .int .i64 0, .int .i64 0, .string .empty, .string .empty, .string .empty, .int .i64 0, .slice none 0 0, .slice none 0 0, .bool false, .int .i64 0]],[]⟩).memory Tryz.f3.params.toList Rows.schemaBindsSpec.vars false (#[.agg #[.slice none 0 0, .slice none 0 0], .agg #[.int .i64 0, .string .empty, .string .empty, .string .empty, .slice none 0 0, .slice none 0 0, .slice none 0 0, .slice none 0 0, .slice none 0 0, .int .i64 0, .int .i64 0, .int .i64 0, .string .empty, .string .empty, .string .empty, .int .i64 0, .slice none 0 0, .slice none 0 0, .bool false, .int .i64 0]] :Array Value).toList 8=some ([.agg [.nil, .nil], .agg [.lit (.int .i64 0), .lit (.string []), .lit (.string []), .lit (.string []), .nil, .nil, .nil, .nil, .nil, .agg [.lit (.int .i64 0), .agg [.lit (.int .i64 0), .lit (.int .i64 0), .lit (.string [])], .lit (.string []), .lit (.string []), .lit (.int .i64 0), .nil], .nil, .lit (.bool false), .lit (.int .i64 0)]],[],places) :=
 ⟨[],by kernel_rfl⟩
set_option maxRecDepth 100000 in
theorem schemaBinds_lifted (os :Os) (started :os.Started) (H :Type) (enc :TypeId×Value→H) (F :Stop.Interp) :
  ReturnsInHanded {} Tryz.checked os 3 .any ((Rows.OpenSpec.upto Rows.schemaBindsSpec).preRow enc Tryz.prog Tryz.f3 Rows.schemaBindsUptoRow.domain false Rows.schemaBindsUptoRow.laid) (((Rows.OpenSpec.upto Rows.schemaBindsSpec).at F).post enc Tryz.prog Tryz.f3 false true false false) :=by
 obtain ⟨places,hx⟩ :=Y2 os enc
 refine returnsInHanded_of_row (C :=Tryz.checked) (s := (Rows.OpenSpec.upto Rows.schemaBindsSpec)) schemaBinds_own started (by kernel_rfl) Tryz.func3
  (witness_row_at (enc :=enc) (C :=Tryz.checked) false ({World.holding Tryz.prog os ⟨#[],#[],[]⟩ with heap := ((World.holding Tryz.prog os ⟨#[],#[],[]⟩).heap.modify 1 fun | .cells _ t frozen=> .cells (Ko Go.Pinned.utf8First).toArray t frozen | o=>o).modify 2 fun | .cells _ t frozen=> .cells (L8 Rows.laid_unicode_utf8_acceptRanges).toArray t frozen | o=>o} :World) #[.agg #[.slice none 0 0, .slice none 0 0], .agg #[.int .i64 0, .string .empty, .string .empty, .string .empty, .slice none 0 0, .slice none 0 0, .slice none 0 0, .slice none 0 0, .slice none 0 0, .int .i64 0, .int .i64 0, .int .i64 0, .string .empty, .string .empty, .string .empty, .int .i64 0, .slice none 0 0, .slice none 0 0, .bool false, .int .i64 0]] rfl (by kernel_rfl) (by kernel_rfl) (by kernel_rfl)
   (OpenSpec.preRow_of_cond 8 hx (by kernel_rfl) (fun k hk=>by cases hk;kernel_rfl) (by kernel_rfl) (Aa0 os))) ?_
 intro W base args ds gs before hval hW _ hk _ _ hsh _
 exact schemaBinds_contract H enc W base args ds gs before hval hW (hk _ rfl) hsh
theorem schemaBinds_said :Rows.SchemaBindsUptoSaid :=
 OpenClaim.holds_of_cond 3 Tryz.f3 rfl rfl rfl rfl rfl rfl rfl ⟨rfl,rfl,rfl,rfl,rfl⟩ rfl rfl rfl rfl rfl (by kernel_rfl) Tryz.func3 (by kernel_rfl)
  (of_decide_eq_true (by kernel_rfl)) (by unfold Func.isWrapper;first | (rw [if_pos (by decide+kernel)];kernel_rfl) | (rw [if_neg (by decide+kernel)];exact ⟨rfl,rfl⟩))
  (fun os started H enc _ F=>by rw [OpenClaim.pre_eq_preRow];exact schemaBinds_lifted os started H enc F)
theorem schemaBinds_plain (f :FuncId) (fn :Func) (hf :Tryz.pinned.checked.prog.funcNamed "askance/askancelaw.SchemaBinds" =some f) (hfn :Tryz.pinned.checked.prog.funcs[f]? =some fn) :
  false=Tryz.pinned.checked.prog.looks [] ∧ ∀ (j :Nat) t,fn.params[j]? =some t→Tryz.pinned.checked.prog.wantsStandIn t=false :=by
 obtain rfl :f=3 :=Option.some.inj ((show Tryz.prog.funcNamed "askance/askancelaw.SchemaBinds" =some 3 by kernel_rfl).symm.trans hf) |>.symm
 obtain rfl :fn=Tryz.f3 := (Option.some.inj (Tryz.func3.symm.trans hfn)).symm
 refine ⟨by kernel_rfl,fun j t ht=> ?_⟩
 rw [Tryz.params3] at ht
 have h1 :t=25∨t=36 :=by have :=Array.mem_of_getElem? ht;simp at this;omega
 rcases h1 with rfl | rfl
 ·exact (show Tryz.prog.wantsStandIn 25=false by kernel_rfl)
 ·exact (show Tryz.prog.wantsStandIn 36=false by kernel_rfl)
theorem schemaBinds_card :Rows.SchemaBindsUptoCardSaid :=
 Claim7.holds_tied_plain_at .later [] _ _ _ _ schemaBinds_said (fun _ h=>by cases h) (by kernel_rfl) (fun _ h=>by cases h) schemaBindsUpto_row_tie rfl ⟨rfl,rfl⟩ (by kernel_rfl) rfl schemaBinds_plain (by kernel_rfl)
#print axioms schemaBinds_card
end Go.Proofs.YtmgkcjiejmhgcaaGreatDoor
