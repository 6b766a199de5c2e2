/-
  For every catalog, command and rows of bulk at most 1048576, if the command is a bound deletion, then of a tree that has just those of the rows that fit its table (each key once, twenty at most) the chosen way leads to each row for which the condition holds, to none twice, and to no more than there are (P6.2). The condition is the bulk.
-/
import Derived.Test.YthehiijgnepcfaaGreatJ31
import Derived.Test.YthehiijgnepcfaaGreatJ32
import Derived.ProofKit
import Derived.OpenShut
import Derived.ChangeOld
import Derived.JoinedCond
set_option linter.unusedSimpArgs false
set_option linter.unusedVariables false
namespace Go.Proofs.YthehiijgnepcfaaGreat
open Go.ChangeShapes Go.WideShapes Go.ChangeAt Go.RowKit
theorem planWays_own :ownKnob Tryz.prog.godebug=none :=by kernel_rfl
theorem planWays_laidOut :laidOutB Tryz.prog=true :=by kernel_rfl
theorem planWays_small {H :Type} {d0 d1 d :DataW H} (hk :Rows.uptoSmall H [d0,d1,d] =true) :Rows.uptoBulk d1≤16777216 :=by
 have h :Rows.uptoBulkAll [d0,d1,d] ≤1048576 :=of_decide_eq_true hk
 simp only [Rows.uptoBulkAll] at h
 omega
set_option maxRecDepth 100000 in
theorem planWays_contract (H :Type) (enc :TypeId×Value→H) (W :World) (base :Nat) (args :Array Value) (ds gs :List (DataW H)) (before :List MemPlace)
  (hval : ∀ (j :Nat) t v,Tryz.f3.params[j]? =some t→args[j]? =some v→Value.okWide Tryz.prog W .any base t v)
  (hW :DataW.Whole enc Tryz.prog Tryz.f3.params.toList Rows.planWaysSpec.vars false W args.toList ds gs before) (hk :Rows.uptoSmall H (ds++gs) =true) :
  Calls Tryz.prog 3 args W fun e W'=> ∃v,e= .returned v∧Rows.planWaysSpec.post enc Tryz.prog Tryz.f3 false true false false W args v W' :=by
 have hW' :=hW
 obtain ⟨p,q,hA0,hV,rfl,_,_⟩ :=hW
 have hA :DataW.TrodAll enc Tryz.prog W 0 (fun _=>true) true Tryz.f3.params.toList args.toList ds p :=hA0
 rw [Tryz.params3] at hA hval
 obtain ⟨v0,v1,v2,d0,d1,d2,p0,p1,p2,rfl,rfl,rfl,h0,h1,h2⟩ :=trodAll_three hA
 obtain ⟨rfl,rfl⟩ :=trodVars_none hV
 obtain ⟨cs0,rfl,hsz0⟩ :=okWide_struct Tryz.underlying25 (hval 0 25 v0 rfl rfl)
 obtain ⟨cs1,rfl,hsz1⟩ :=okWide_struct Tryz.underlying36 (hval 1 36 v1 rfl rfl)
 obtain ⟨a2,Aam,cap2,rfl⟩ :=okWide_slice Tryz.underlying37 (hval 2 37 v2 rfl rfl)
 have k0 :=h0
 have k1 :=h1
 have k2 :=h2
 have lt0 : ∀x∈p0,x.block<W.heap.size :=by obtain ⟨m,hm⟩ :=k0;exact DataW.trod_lt m _ _ _ hm
 have lt1 : ∀x∈p1,x.block<W.heap.size :=by obtain ⟨m,hm⟩ :=k1;exact DataW.trod_lt m _ _ _ hm
 have lt2 : ∀x∈p2,x.block<W.heap.size :=by obtain ⟨m,hm⟩ :=k2;exact DataW.trod_lt m _ _ _ hm
 obtain ⟨n0,f0⟩ :=h0
 obtain ⟨n1,f1⟩ :=h1
 obtain ⟨n2,f2⟩ :=h2
 obtain ⟨rows,hr,hrs,_⟩ :=Ads (sv := .slice a2 Aam cap2) f2
 simp only [List.append_nil] at hk
 have hbe :=planWays_small hk
 obtain ⟨c,hc,hfc⟩ :=Afp f0
 have hc' :Cz (fun k=>k<W.heap.size) W c (.agg cs0) :=by simpa [Value.cells] using hc
 obtain ⟨st,hst,hfb,_,hn2⟩ :=Afu hbe f1
 have hst' :Akj.R (fun k=>k<W.heap.size) W st cs1.toList :=by simpa [Value.cells] using hst
 clear hA0
 have HW :=planWays_walk c _ st cs1.toList rows _ W hc' hst' hfc hfb hr (fun r hr=> (hrs r hr).1) hn2
 rw [Array.toArray_toList] at HW
 refine HW.mono fun e W' ⟨he,bel⟩ => ?_
 subst he
 exact ⟨_,rfl,_,_,_,[],_,[],hW',trodAll_mk1 (shut_bool Tryz.underlying4 _),(trodAll_cons_mk (Below.trod planWays_laidOut (by kernel_rfl) (of_decide_eq_true (by kernel_rfl)) k0 bel lt0) (trodAll_cons_mk (Below.trod planWays_laidOut (by kernel_rfl) (of_decide_eq_true (by kernel_rfl)) k1 bel lt1) (trodAll_cons_mk (Below.trod planWays_laidOut (by kernel_rfl) (of_decide_eq_true (by kernel_rfl)) k2 bel lt2) trodAll_mk0))),rfl,bel.frame _,fun h=>by cases h⟩
set_option maxRecDepth 100000 in
theorem planWays_lifted (os :Os) (started :os.Started) (H :Type) (enc :TypeId×Value→H) (F :Stop.Interp) :
  ReturnsInHanded {} Tryz.checked os 3 .any ((Rows.OpenSpec.upto Rows.planWaysSpec).pre6 enc Tryz.prog Tryz.f3 Rows.planWaysUptoRow.domain false) (((Rows.OpenSpec.upto Rows.planWaysSpec).at F).post enc Tryz.prog Tryz.f3 false true false false) :=by
 refine returnsInHanded_of_cond (C :=Tryz.checked) (s :=Rows.OpenSpec.upto Rows.planWaysSpec) (k :=Rows.uptoSmall) rfl planWays_own started (by kernel_rfl) Tryz.func3
  (OpenSpec.witness (enc :=enc) (C :=Tryz.checked) (s :=Rows.OpenSpec.upto Rows.planWaysSpec) (k :=Rows.uptoSmall) rfl false ⟨#[],#[.agg #[.slice none 0 0, .slice none 0 0], .agg #[.int .i64 0, .string .empty, .string .empty, .string .empty, .slice none 0 0, .slice none 0 0, .slice none 0 0, .slice none 0 0, .slice none 0 0, .int .i64 0, .int .i64 0, .int .i64 0, .string .empty, .string .empty, .string .empty, .int .i64 0, .slice none 0 0, .slice none 0 0, .bool false, .int .i64 0], .slice none 0 0],[]⟩ 8 (by kernel_rfl) (by kernel_rfl) (by kernel_rfl)
   (x := ([.agg [.nil, .nil], .agg [.lit (.int .i64 0), .lit (.string []), .lit (.string []), .lit (.string []), .nil, .nil, .nil, .nil, .nil, .agg [.lit (.int .i64 0), .agg [.lit (.int .i64 0), .lit (.int .i64 0), .lit (.string [])], .lit (.string []), .lit (.string []), .lit (.int .i64 0), .nil], .nil, .lit (.bool false), .lit (.int .i64 0)], .nil],[],[])) (by kernel_rfl) rfl (by kernel_rfl)) ?_
 intro W base args ds gs before hval hW _ hk _
 exact planWays_contract H enc W base args ds gs before hval hW hk
theorem planWays_holds :Rows.PlanWaysUptoSaid :=
 OpenClaim.holds_of_cond 3 Tryz.f3 rfl rfl rfl rfl rfl rfl rfl ⟨rfl,rfl,rfl,rfl,rfl⟩ rfl rfl rfl rfl rfl (by kernel_rfl) Tryz.func3 (by kernel_rfl)
  (of_decide_eq_true (by kernel_rfl)) (by unfold Func.isWrapper;first | (rw [if_pos (by decide+kernel)];kernel_rfl) | (rw [if_neg (by decide+kernel)];exact ⟨rfl,rfl⟩))
  (fun os started H enc _ F=>planWays_lifted os started H enc F)
#print axioms planWays_holds
end Go.Proofs.YthehiijgnepcfaaGreat
