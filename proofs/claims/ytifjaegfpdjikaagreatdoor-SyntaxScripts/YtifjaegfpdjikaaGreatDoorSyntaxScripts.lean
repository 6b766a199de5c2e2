/-
  For every text: Named and Script answer just what the document's own reading answers, errors too (P3.1 to P3.5). No condition; the card ties the listed tables and errors of the library.
-/
import Derived.Test.YtifjaegfpdjikaaGreatDoorJ24
import Derived.Test.YtifjaegfpdjikaaGreatDoorJ25
import Derived.Test.YtifjaegfpdjikaaGreatDoorJ26
import Derived.Test.YtifjaegfpdjikaaGreatDoorRows
import Derived.Test.YtifjaegfpdjikaaGreatDoorCards
import Derived.Test.YtifjaegfpdjikaaGreatDoorTie
import Derived.WalkKit
import Derived.WalkSpells
import Derived.WalkLawsBesides
import Derived.Deep.RegionHeld3
import Derived.ProofKit
import Derived.OpenShut
import Derived.Lib.SmallJoins
import Derived.Deep.DeepHandedRow
import Derived.Lib.LaidTab
import Derived.LaidMore
import Derived.Lib.LaidIn
import Derived.ChangeSame
import Derived.LaidLaws
import Derived.Clock
import Derived.Deep.DeepWitnessRowRef
import Derived.ChangeMaps5
set_option linter.unusedSimpArgs false
set_option linter.unusedVariables false
namespace Go.Proofs.YtifjaegfpdjikaaGreatDoor
open Go.ChangeShapes Go.WideShapes Go.ChangeAt Go.RowKit Go.Joins
set_option maxRecDepth 100000 in
theorem U9 {w :World} {g :Nat} {t :TypeId} {zero :Array Value} (h :w.ShapedOpen Tryz.prog) (hg :g<Tryz.prog.globals.size)
  (h0 : ((begin Tryz.prog (fun _ _=>0) default).world.heap[g]?).bind Obj.row? =some (zero,t)) (hz :zero.size=1)
  (hb :Tryz.prog.buildable t=true) (hc :Tryz.prog.cellTypes Tryz.prog.depth t=some [t]) (hu :Tryz.prog.underlying t=some (.int .i64)) : ∃m,w.cell? ⟨g,0,none⟩ =some (.int .i64 m) :=by
 obtain ⟨cs,hh,hs,hr⟩ :=h.1 g zero t hg h0
 obtain ⟨ts,hts,_,hall⟩ :=hr hb
 rw [hc] at hts
 cases hts
 have h1 :0<cs.size :=by omega
 obtain ⟨u,hu',hok⟩ :=hall 0 cs[0] (by simp [h1])
 have :u=t :=by simpa using hu'.symm
 subst this
 have hcell :w.cell? ⟨g,0,none⟩ =some cs[0] :=by simp [World.cell?,hh,h1]
 rw [hcell]
 unfold Cell.ok at hok
 rw [hu] at hok
 cases hv :cs[0] <;>rw [hv] at hok<;>first | (simp at hok;obtain ⟨rfl,_⟩ :=hok;exact ⟨_,rfl⟩) | simp at hok
theorem Ri {W :World} {n :String} {nm :String} {d :DataW Unit} {g :Nat} {t :TypeId} {ms :Array (String×TypeId)} {cs :Array Value} {fuel :Nat} {p :List MemPlace} (hg :Tryz.prog.globalNamed n=some g) (hi :Tryz.prog.underlying t=some (.interface ms))
  (hvar :W.var? Tryz.prog n=some cs) (hd :DataW.trod (fun _=> ()) Tryz.prog W 0 (fun _=>true) false fuel t cs.toList=some (.iface nm d,p)) : ∃u v,W.cell? ⟨g,0,none⟩ =some (.iface u v) :=by
 obtain ⟨f',u,v,e,_⟩ :=iface_of_trod hi hd
 have hc :=World.var?_cell hg hvar 0
 have :cs[0]? =some (.iface u v) :=by rw [←Array.getElem?_toList,e];rfl
 rw [this] at hc
 exact ⟨u,v,hc⟩
theorem Ac4 : (Rows.laid_strings_asciiSpace :DataW Unit) =Lib.tabData .u8 Lib.asciiSpaceTab :=by kernel_rfl
set_option maxRecDepth 100000 in
theorem Ac5 {W :World} (hsh :W.ShapedOpen Tryz.prog) (hl :laidMetH Tryz.prog Rows.syntaxScriptsRow.laid W) :Env W :=by
 have hm :laidMet Tryz.prog Rows.syntaxScriptsRow.laid W :=by
  unfold laidMetH at hl
  rw [show (Rows.syntaxScriptsRow.laid.filter fun x=>x.2.handleName?.isSome) = [] by kernel_rfl] at hl
  exact hl
 obtain ⟨ps,hV,_⟩ :=hm
 unfold Rows.syntaxScriptsRow at hV
 obtain ⟨_,_,_,_,_,_,_,_,_,_,hV,_⟩ :=hV
 obtain ⟨_,_,_,_,_,_,_,_,_,_,hV,_⟩ :=hV
 obtain ⟨_,_,_,_,_,_,_,_,_,_,hV,_⟩ :=hV
 obtain ⟨_,_,_,_,_,_,_,_,_,_,hV,_⟩ :=hV
 obtain ⟨g1,t1,cs1,f1,p1,q1,hg1,ht1,hv1,hd1,hV,_⟩ :=hV
 obtain ⟨g2,t2,cs2,f2,p2,q2,hg2,ht2,hv2,hd2,hV,_⟩ :=hV
 obtain ⟨_,_,_,_,_,_,_,_,_,_,hV,_⟩ :=hV
 obtain ⟨g3,t3,cs3,f3,p3,q3,hg3,ht3,hv3,hd3,_,_⟩ :=hV
 obtain rfl :=Option.some.inj ((show Tryz.prog.globalNamed "strconv.ErrRange" =some 6 by kernel_rfl).symm.trans hg1)
 obtain rfl :=Option.some.inj ((show (Tryz.prog.globals[6]?).map (·.type) =some 91 by kernel_rfl).symm.trans ht1)
 obtain rfl :=Option.some.inj ((show Tryz.prog.globalNamed "strconv.ErrSyntax" =some 5 by kernel_rfl).symm.trans hg2)
 obtain rfl :=Option.some.inj ((show (Tryz.prog.globals[5]?).map (·.type) =some 91 by kernel_rfl).symm.trans ht2)
 obtain rfl :=Option.some.inj ((show Tryz.prog.globalNamed "strings.asciiSpace" =some 0 by kernel_rfl).symm.trans hg3)
 obtain rfl :=Option.some.inj ((show (Tryz.prog.globals[0]?).map (·.type) =some 82 by kernel_rfl).symm.trans ht3)
 obtain ⟨u1,w1,c1⟩ :=Ri (by kernel_rfl) Tryz.underlying91 hv1 hd1
 obtain ⟨u2,w2,c2⟩ :=Ri (by kernel_rfl) Tryz.underlying91 hv2 hd2
 rw [Ac4] at hd3
 have h3 :=Lib.cells_of_tab (n :=256) (e :=5) Tryz.underlying82 Tryz.underlying5 (by kernel_rfl) (by kernel_rfl) hd3
 refine ⟨U9 (t :=3) (zero := #[.int .i64 0]) hsh (of_decide_eq_true (by kernel_rfl)) (by kernel_rfl) rfl (by kernel_rfl) (by kernel_rfl) Tryz.underlying3,⟨u2,w2,c2⟩,⟨u1,w1,c1⟩, ?_, ?_⟩
 ·unfold Lib.TabIs
  rw [hv3,←h3]
 obtain ⟨o,o0,ho,_⟩ :=hsh.2 15 (of_decide_eq_true (by kernel_rfl)) (of_decide_eq_true (by kernel_rfl))
 have := (Array.getElem?_eq_some_iff.1 ho).1
 omega
theorem syntaxScripts_own :ownKnob Tryz.prog.godebug=none :=by kernel_rfl
theorem Yu :Oh :=fun sl L M h1 h2 w h3 h4 h5 k0 k1 k2 k3 k4 k5 k6 h6=>O7 sl L M h1 h2 w h3 h4 h5 k0 k1 k2 k3 k4 k5 k6 h6
set_option maxRecDepth 100000 in
theorem syntaxScripts_contract (H :Type) (enc :TypeId×Value→H) (W :World) (base :Nat) (args :Array Value) (ds gs :List (DataW H)) (before :List MemPlace)
  (hval : ∀ (j :Nat) t v,Tryz.f3.params[j]? =some t→args[j]? =some v→Value.okWide Tryz.prog W .any base t v)
  (hW :DataW.Whole enc Tryz.prog Tryz.f3.params.toList Rows.syntaxScriptsSpec.vars false W args.toList ds gs before) (hen :Env W) :
  Calls Tryz.prog 3 args W fun e W'=> ∃v,e= .returned v∧Rows.syntaxScriptsSpec.post enc Tryz.prog Tryz.f3 false true false false W args v W' :=by
 have hW' :=hW
 obtain ⟨p,q,hA0,hV,rfl,_,_⟩ :=hW
 have hA :DataW.TrodAll enc Tryz.prog W 0 (fun _=>true) true Tryz.f3.params.toList args.toList ds p :=hA0
 rw [Tryz.params3] at hA hval
 obtain ⟨v0,d0,rfl,rfl,h0⟩ :=trodAll_one hA
 obtain ⟨rfl,rfl⟩ :=trodVars_none hV
 obtain ⟨t,rfl,rfl,rfl,hs⟩ :=Go.ChangeMaps.open_string Tryz.underlying9 (hval 0 9 v0 rfl rfl) h0
 clear hA0
 refine (syntaxScripts_any Yu t W hen hs).mono fun e W' ⟨he,bel⟩ => ?_
 subst he
 exact ⟨_,rfl,_,_,_,[],_,[],hW',trodAll_mk1 (shut_bool Tryz.underlying4 _),(trodAll_cons_mk (Go.ChangeMaps.shut_string Tryz.underlying9 hs) trodAll_mk0),rfl,bel.frame _,fun h=>by cases h⟩
def Ady :DataW Unit→Value
 | .lit (.int k n) => .int k n
 | _=>undef
def Ee :DataW Unit→List Value
 | .agg l=>l.map Ady
 | _=> []
def Ol :DataW Unit→List Value
 | .agg l=>l.flatMap Ee
 | _=> []
theorem Ac6 (os :Os) :laidMet Tryz.prog Rows.syntaxScriptsRow.laid (({World.holding Tryz.prog os ⟨#[.cells #[.string ⟨#[105,110,118,97,108,105,100,32,115,121,110,116,97,120]⟩] 172, .cells #[.string ⟨#[118,97,108,117,101,32,111,117,116,32,111,102,32,114,97,110,103,101]⟩] 172, .cells #[.slice (some ⟨19,0,none⟩) 7 7, .slice none 0 0, .int .i64 2] 127, .cells #[.int .u16 9, .int .u16 13, .int .u16 1, .int .u16 32, .int .u16 133, .int .u16 101, .int .u16 160, .int .u16 5760, .int .u16 5600, .int .u16 8192, .int .u16 8202, .int .u16 1, .int .u16 8232, .int .u16 8233, .int .u16 1, .int .u16 8239, .int .u16 8287, .int .u16 48, .int .u16 12288, .int .u16 12288, .int .u16 1] 130],#[],[]⟩ with heap := (((((((((((World.holding Tryz.prog os ⟨#[.cells #[.string ⟨#[105,110,118,97,108,105,100,32,115,121,110,116,97,120]⟩] 172, .cells #[.string ⟨#[118,97,108,117,101,32,111,117,116,32,111,102,32,114,97,110,103,101]⟩] 172, .cells #[.slice (some ⟨19,0,none⟩) 7 7, .slice none 0 0, .int .i64 2] 127, .cells #[.int .u16 9, .int .u16 13, .int .u16 1, .int .u16 32, .int .u16 133, .int .u16 101, .int .u16 160, .int .u16 5760, .int .u16 5600, .int .u16 8192, .int .u16 8202, .int .u16 1, .int .u16 8232, .int .u16 8233, .int .u16 1, .int .u16 8239, .int .u16 8287, .int .u16 48, .int .u16 12288, .int .u16 12288, .int .u16 1] 130],#[],[]⟩).heap).modify 3 fun | .cells _ t frozen=> .cells (Ee Go.Pinned.utf8First).toArray t frozen | o=>o).modify 4 fun | .cells _ t frozen=> .cells (Ol Rows.laid_unicode_utf8_acceptRanges).toArray t frozen | o=>o).modify 5 fun | .cells _ t frozen=> .cells #[.iface 170 (.pointer (some ⟨16,0,none⟩))] t frozen | o=>o).modify 6 fun | .cells _ t frozen=> .cells #[.iface 170 (.pointer (some ⟨17,0,none⟩))] t frozen | o=>o).modify 7 fun | .cells _ t frozen=> .cells (Ee Rows.laid_internal_strconv_uint64pow10).toArray t frozen | o=>o).modify 8 fun | .cells _ t frozen=> .cells (Ee Rows.laid_math_bits_deBruijn32tab).toArray t frozen | o=>o).modify 9 fun | .cells _ t frozen=> .cells (Ee Rows.laid_math_bits_deBruijn64tab).toArray t frozen | o=>o).modify 0 fun | .cells _ t frozen=> .cells (Ee Rows.laid_strings_asciiSpace).toArray t frozen | o=>o).modify 1 fun | .cells _ t frozen=> .cells #[.pointer (some ⟨18,0,none⟩)] t frozen | o=>o)} :World).forCall (fun _ _=>0) ⟨#[],#[.string .empty],[]⟩).memory :=
 (LaidIn.of_run [0,1,2,3,4,5,6,7,8,9,10,16,17,18,19] 12 (by kernel_rfl) (by kernel_rfl) (by kernel_rfl) (by kernel_rfl)).met
theorem Abu (os :Os) {H :Type} (enc :TypeId×Value→H) : ∃places,DataW.whole enc Tryz.prog (({World.holding Tryz.prog os ⟨#[.cells #[.string ⟨#[105,110,118,97,108,105,100,32,115,121,110,116,97,120]⟩] 172, .cells #[.string ⟨#[118,97,108,117,101,32,111,117,116,32,111,102,32,114,97,110,103,101]⟩] 172, .cells #[.slice (some ⟨19,0,none⟩) 7 7, .slice none 0 0, .int .i64 2] 127, .cells #[.int .u16 9, .int .u16 13, .int .u16 1, .int .u16 32, .int .u16 133, .int .u16 101, .int .u16 160, .int .u16 5760, .int .u16 5600, .int .u16 8192, .int .u16 8202, .int .u16 1, .int .u16 8232, .int .u16 8233, .int .u16 1, .int .u16 8239, .int .u16 8287, .int .u16 48, .int .u16 12288, .int .u16 12288, .int .u16 1] 130],#[],[]⟩ with heap := (((((((((((World.holding Tryz.prog os ⟨#[.cells #[.string ⟨#[105,110,118,97,108,105,100,32,115,121,110,116,97,120]⟩] 172, .cells #[.string ⟨#[118,97,108,117,101,32,111,117,116,32,111,102,32,114,97,110,103,101]⟩] 172, .cells #[.slice (some ⟨19,0,none⟩) 7 7, .slice none 0 0, .int .i64 2] 127, .cells #[.int .u16 9, .int .u16 13, .int .u16 1, .int .u16 32, .int .u16 133, .int .u16 101, .int .u16 160, .int .u16 5760, .int .u16 5600, .int .u16 8192, .int .u16 8202, .int .u16 1, .int .u16 8232, .int .u16 8233, .int .u16 1, .int .u16 8239, .int .u16 8287, .int .u16 48, .int .u16 12288, .int .u16 12288, .int .u16 1] 130],#[],[]⟩).heap).modify 3 fun | .cells _ t frozen=> .cells (Ee Go.Pinned.utf8First).toArray t frozen | o=>o).modify 4 fun | .cells _ t frozen=> .cells (Ol Rows.laid_unicode_utf8_acceptRanges).toArray t frozen | o=>o).modify 5 fun | .cells _ t frozen=> .cells #[.iface 170 (.pointer (some ⟨16,0,none⟩))] t frozen | o=>o).modify 6 fun | .cells _ t frozen=> .cells #[.iface 170 (.pointer (some ⟨17,0,none⟩))] t frozen | o=>o).modify 7 fun | .cells _ t frozen=> .cells (Ee Rows.laid_internal_strconv_uint64pow10).toArray t frozen | o=>o).modify 8 fun | .cells _ t frozen=> .cells (Ee Rows.laid_math_bits_deBruijn32tab).toArray t frozen | o=>o).modify 9 fun | .cells _ t frozen=> .cells (Ee Rows.laid_math_bits_deBruijn64tab).toArray t frozen | o=>o).modify 0 fun | .cells _ t frozen=> .cells (Ee Rows.laid_strings_asciiSpace).toArray t frozen | o=>o).modify 1 fun | .cells _ t frozen=> .cells #[.pointer (some ⟨18,0,none⟩)] t frozen | o=>o)} :World).forCall (fun _ _=>0) ⟨#[],#[.string .empty],[]⟩).memory Tryz.f3.params.toList Rows.syntaxScriptsSpec.vars false (#[.string .empty] :Array Value).toList 8=some ([.lit (.string [])],[],places) :=
 ⟨[],by kernel_rfl⟩
set_option maxRecDepth 100000 in
theorem syntaxScripts_lifted (os :Os) (started :os.Started) (H :Type) (enc :TypeId×Value→H) (F :Stop.Interp) :
  ReturnsInHanded {} Tryz.checked os 3 .any ((OpenSpec.ofChange Rows.syntaxScriptsSpec).preRow enc Tryz.prog Tryz.f3 Rows.syntaxScriptsRow.domain false Rows.syntaxScriptsRow.laid) (((OpenSpec.ofChange Rows.syntaxScriptsSpec).at F).post enc Tryz.prog Tryz.f3 false true false false) :=by
 obtain ⟨places,hx⟩ :=Abu os enc
 refine returnsInHanded_of_row (C :=Tryz.checked) (s :=OpenSpec.ofChange Rows.syntaxScriptsSpec) syntaxScripts_own started (by kernel_rfl) Tryz.func3
  (witness_row_atRef (enc :=enc) (C :=Tryz.checked) false ({World.holding Tryz.prog os ⟨#[.cells #[.string ⟨#[105,110,118,97,108,105,100,32,115,121,110,116,97,120]⟩] 172, .cells #[.string ⟨#[118,97,108,117,101,32,111,117,116,32,111,102,32,114,97,110,103,101]⟩] 172, .cells #[.slice (some ⟨19,0,none⟩) 7 7, .slice none 0 0, .int .i64 2] 127, .cells #[.int .u16 9, .int .u16 13, .int .u16 1, .int .u16 32, .int .u16 133, .int .u16 101, .int .u16 160, .int .u16 5760, .int .u16 5600, .int .u16 8192, .int .u16 8202, .int .u16 1, .int .u16 8232, .int .u16 8233, .int .u16 1, .int .u16 8239, .int .u16 8287, .int .u16 48, .int .u16 12288, .int .u16 12288, .int .u16 1] 130],#[],[]⟩ with heap := (((((((((((World.holding Tryz.prog os ⟨#[.cells #[.string ⟨#[105,110,118,97,108,105,100,32,115,121,110,116,97,120]⟩] 172, .cells #[.string ⟨#[118,97,108,117,101,32,111,117,116,32,111,102,32,114,97,110,103,101]⟩] 172, .cells #[.slice (some ⟨19,0,none⟩) 7 7, .slice none 0 0, .int .i64 2] 127, .cells #[.int .u16 9, .int .u16 13, .int .u16 1, .int .u16 32, .int .u16 133, .int .u16 101, .int .u16 160, .int .u16 5760, .int .u16 5600, .int .u16 8192, .int .u16 8202, .int .u16 1, .int .u16 8232, .int .u16 8233, .int .u16 1, .int .u16 8239, .int .u16 8287, .int .u16 48, .int .u16 12288, .int .u16 12288, .int .u16 1] 130],#[],[]⟩).heap).modify 3 fun | .cells _ t frozen=> .cells (Ee Go.Pinned.utf8First).toArray t frozen | o=>o).modify 4 fun | .cells _ t frozen=> .cells (Ol Rows.laid_unicode_utf8_acceptRanges).toArray t frozen | o=>o).modify 5 fun | .cells _ t frozen=> .cells #[.iface 170 (.pointer (some ⟨16,0,none⟩))] t frozen | o=>o).modify 6 fun | .cells _ t frozen=> .cells #[.iface 170 (.pointer (some ⟨17,0,none⟩))] t frozen | o=>o).modify 7 fun | .cells _ t frozen=> .cells (Ee Rows.laid_internal_strconv_uint64pow10).toArray t frozen | o=>o).modify 8 fun | .cells _ t frozen=> .cells (Ee Rows.laid_math_bits_deBruijn32tab).toArray t frozen | o=>o).modify 9 fun | .cells _ t frozen=> .cells (Ee Rows.laid_math_bits_deBruijn64tab).toArray t frozen | o=>o).modify 0 fun | .cells _ t frozen=> .cells (Ee Rows.laid_strings_asciiSpace).toArray t frozen | o=>o).modify 1 fun | .cells _ t frozen=> .cells #[.pointer (some ⟨18,0,none⟩)] t frozen | o=>o)} :World) #[.string .empty] rfl (by kernel_rfl) (by kernel_rfl) (by kernel_rfl)
   (OpenSpec.preRow_of_cond 8 hx (by kernel_rfl) (fun k hk=>by cases hk) (by kernel_rfl) (Ac6 os))) ?_
 intro W base args ds gs before hval hW _ _ _ hlm hsh _
 exact syntaxScripts_contract H enc W base args ds gs before hval hW (Ac5 hsh hlm)
theorem syntaxScripts_said :Rows.SyntaxScriptsSaid :=
 OpenClaim.holds_of_cond 3 Tryz.f3 rfl rfl rfl rfl rfl rfl rfl ⟨rfl,rfl,rfl,rfl,rfl⟩ rfl rfl rfl rfl rfl (by kernel_rfl) Tryz.func3 syntaxScripts_closed
  (of_decide_eq_true (by kernel_rfl)) (by unfold Func.isWrapper;first | (rw [if_pos (by decide+kernel)];kernel_rfl) | (rw [if_neg (by decide+kernel)];exact ⟨rfl,rfl⟩))
  (fun os started H enc _ F=>by rw [OpenClaim.pre_eq_preRow];exact syntaxScripts_lifted os started H enc F)
theorem syntaxScripts_plain (f :FuncId) (fn :Func) (hf :Tryz.pinned.checked.prog.funcNamed "askance/askancelaw.SyntaxScripts" =some f) (hfn :Tryz.pinned.checked.prog.funcs[f]? =some fn) :
  true=Tryz.pinned.checked.prog.looks [] ∧ ∀ (j :Nat) t,fn.params[j]? =some t→Tryz.pinned.checked.prog.wantsStandIn t=false :=by
 obtain rfl :f=3 :=Option.some.inj ((show Tryz.prog.funcNamed "askance/askancelaw.SyntaxScripts" =some 3 by kernel_rfl).symm.trans hf) |>.symm
 obtain rfl :fn=Tryz.f3 := (Option.some.inj (Tryz.func3.symm.trans hfn)).symm
 refine ⟨by kernel_rfl,fun j t ht=> ?_⟩
 rw [Tryz.params3] at ht
 have h1 :t=9 :=by have :=Array.mem_of_getElem? ht;simp at this;omega
 subst h1
 exact (show Tryz.prog.wantsStandIn 9=false by kernel_rfl)
theorem syntaxScripts_card :Rows.SyntaxScriptsCardSaid :=
 Claim7.holds_tied_plain_at .later [] _ _ _ _ syntaxScripts_said (fun _ h=>by cases h) (by kernel_rfl) (fun _ h=>by cases h) syntaxScripts_row_tie rfl ⟨rfl,rfl⟩ (by kernel_rfl) rfl syntaxScripts_plain (by kernel_rfl)
#print axioms syntaxScripts_card
end Go.Proofs.YtifjaegfpdjikaaGreatDoor
