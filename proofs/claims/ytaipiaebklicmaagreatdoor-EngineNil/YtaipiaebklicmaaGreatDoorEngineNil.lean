/-
  For every script, an engine that is nil answers ErrNone, no tables and no pages (P7.1). No condition; the card ties the listed tables of the library.
-/
import Derived.Test.YtaipiaebklicmaaGreatDoorENilFacts
import Derived.Test.YtaipiaebklicmaaGreatDoorRows
import Derived.Test.YtaipiaebklicmaaGreatDoorCards
import Derived.Test.YtaipiaebklicmaaGreatDoorTie
import Derived.WalkKit
import Derived.WalkSpells
import Derived.WalkLawsBesides
import Derived.Deep.RegionHeld3
import Derived.ProofKit
import Derived.OpenShut
import Derived.Lib.SmallJoins
import Derived.Deep.DeepHandedRow
import Derived.Lib.LaidTab
import Derived.LaidMore
import Derived.ChangeSame
namespace Go.Proofs.YtaipiaebklicmaaGreatDoor
open Go.ChangeShapes Go.WideShapes Go.ChangeAt Go.RowKit Go.Joins

theorem cells_act : Tryz.prog.cellsOf 23 = 1 := by kernel_rfl
theorem cells_text : Tryz.prog.cellsOf 9 = 1 := by kernel_rfl
theorem und_act : ∃ f0 : Field, Tryz.prog.underlying 23 = some (.struct #[f0]) ∧ f0.offset = 0 ∧ f0.type = 9 :=
  ⟨_, Tryz.underlying23, rfl, rfl⟩
set_option maxRecDepth 100000 in
theorem open_act {H : Type} {enc : TypeId × Value → H} {w : World} {base : Nat} {spare : Nat → Bool} {held : Bool} {r : Reach} {b0 : Nat} {v : Value} {d : DataW H} {p : List MemPlace}
    (hv : Value.okWide Tryz.prog w r b0 23 v) (h : DataW.Trod enc Tryz.prog w base spare held 23 v d p) : ∃ t : ByteArray, v = .agg #[.string t] := by
  obtain ⟨cs, rfl, hsz⟩ := okWide_struct Tryz.underlying23 hv
  obtain ⟨fuel, hf⟩ := h
  obtain ⟨f0, hu, o0, t0⟩ := und_act
  obtain ⟨y0, n, _, hl, h0⟩ := trod_struct1 hu hf
  rw [cells_act] at hsz
  rw [o0, t0, cells_text] at h0
  obtain ⟨c0, rfl⟩ : ∃ c0, cs = #[c0] := Array.size_eq_one_iff.1 hsz
  simp only [Value.cells, List.drop_zero, List.take_succ_cons, List.take_zero] at h0
  obtain ⟨s, e2, _, hs⟩ := DataW.trod_string Tryz.underlying9 h0
  simp only [List.cons.injEq, and_true] at e2
  subst e2
  exact ⟨s, rfl⟩

theorem engineNil_own : ownKnob Tryz.prog.godebug = none := by kernel_rfl

set_option maxRecDepth 100000 in
theorem engineNil_contract (H : Type) (enc : TypeId × Value → H) (W : World) (base : Nat) (args : Array Value) (ds gs : List (DataW H)) (before : List MemPlace)
    (hval : ∀ (j : Nat) t v, Tryz.f3.params[j]? = some t → args[j]? = some v → Value.okWide Tryz.prog W .any base t v)
    (hW : DataW.Whole enc Tryz.prog Tryz.f3.params.toList Rows.engineNilSpec.vars false W args.toList ds gs before) :
    Calls Tryz.prog 3 args W fun e W' => ∃ v, e = .returned v ∧ Rows.engineNilSpec.post enc Tryz.prog Tryz.f3 false true false false W args v W' := by
  have hW' := hW
  obtain ⟨p, q, hA0, hV, rfl, _, _⟩ := hW
  have hA : DataW.TrodAll enc Tryz.prog W 0 (fun _ => true) true Tryz.f3.params.toList args.toList ds p := hA0
  rw [Tryz.params3] at hA hval
  obtain ⟨v0, d0, rfl, rfl, h0⟩ := trodAll_one hA
  obtain ⟨rfl, rfl⟩ := trodVars_none hV
  have k0 := h0
  have lt0 : ∀ x ∈ p, x.block < W.heap.size := by obtain ⟨m, hm⟩ := k0; exact DataW.trod_lt m _ _ _ hm
  obtain ⟨t, rfl⟩ := open_act (hval 0 23 v0 rfl rfl) h0
  clear hA0
  refine (engineNil_walk t W).mono fun e W' ⟨he, bel⟩ => ?_
  subst he
  exact ⟨_, rfl, _, _, _, [], _, [], hW', trodAll_mk1 (shut_bool Tryz.underlying4 _), (trodAll_cons_mk (Below.trod engineNil_laidOut (by kernel_rfl) (of_decide_eq_true (by kernel_rfl)) k0 bel lt0) trodAll_mk0), rfl, bel.frame _, fun h => by cases h⟩

/-- Tables as cells. -/
def litV : DataW Unit → Value
  | .lit (.int k n) => .int k n
  | _ => undef
def tabCells : DataW Unit → List Value
  | .agg l => l.map litV
  | _ => []
def pairCells : DataW Unit → List Value
  | .agg l => l.flatMap tabCells
  | _ => []
theorem en_met (os : Os) : laidMet Tryz.prog Rows.engineNilRow.laid (({ World.holding Tryz.prog os ⟨#[.cells #[.string ⟨#[105, 110, 118, 97, 108, 105, 100, 32, 115, 121, 110, 116, 97, 120]⟩] 381, .cells #[.string ⟨#[118, 97, 108, 117, 101, 32, 111, 117, 116, 32, 111, 102, 32, 114, 97, 110, 103, 101]⟩] 381], #[], []⟩ with heap := ((((((((World.holding Tryz.prog os ⟨#[.cells #[.string ⟨#[105, 110, 118, 97, 108, 105, 100, 32, 115, 121, 110, 116, 97, 120]⟩] 381, .cells #[.string ⟨#[118, 97, 108, 117, 101, 32, 111, 117, 116, 32, 111, 102, 32, 114, 97, 110, 103, 101]⟩] 381], #[], []⟩).heap).modify 0 fun | .cells _ t frozen => .cells (tabCells Go.Pinned.utf8First).toArray t frozen | o => o).modify 1 fun | .cells _ t frozen => .cells (pairCells Rows.laid_unicode_utf8_acceptRanges).toArray t frozen | o => o).modify 3 fun | .cells _ t frozen => .cells #[.iface 379 (.pointer (some ⟨13, 0, none⟩))] t frozen | o => o).modify 4 fun | .cells _ t frozen => .cells #[.iface 379 (.pointer (some ⟨14, 0, none⟩))] t frozen | o => o).modify 5 fun | .cells _ t frozen => .cells (tabCells Rows.laid_internal_strconv_uint64pow10).toArray t frozen | o => o).modify 6 fun | .cells _ t frozen => .cells (tabCells Rows.laid_math_bits_deBruijn32tab).toArray t frozen | o => o).modify 7 fun | .cells _ t frozen => .cells (tabCells Rows.laid_math_bits_deBruijn64tab).toArray t frozen | o => o } : World).forCall (fun _ _ => 0) ⟨#[], #[.agg #[.string .empty]], []⟩).memory :=
  laidMet_of_run' 8 (by kernel_rfl) (by kernel_rfl)
theorem en_reads (os : Os) {H : Type} (enc : TypeId × Value → H) : ∃ places, DataW.whole enc Tryz.prog (({ World.holding Tryz.prog os ⟨#[.cells #[.string ⟨#[105, 110, 118, 97, 108, 105, 100, 32, 115, 121, 110, 116, 97, 120]⟩] 381, .cells #[.string ⟨#[118, 97, 108, 117, 101, 32, 111, 117, 116, 32, 111, 102, 32, 114, 97, 110, 103, 101]⟩] 381], #[], []⟩ with heap := ((((((((World.holding Tryz.prog os ⟨#[.cells #[.string ⟨#[105, 110, 118, 97, 108, 105, 100, 32, 115, 121, 110, 116, 97, 120]⟩] 381, .cells #[.string ⟨#[118, 97, 108, 117, 101, 32, 111, 117, 116, 32, 111, 102, 32, 114, 97, 110, 103, 101]⟩] 381], #[], []⟩).heap).modify 0 fun | .cells _ t frozen => .cells (tabCells Go.Pinned.utf8First).toArray t frozen | o => o).modify 1 fun | .cells _ t frozen => .cells (pairCells Rows.laid_unicode_utf8_acceptRanges).toArray t frozen | o => o).modify 3 fun | .cells _ t frozen => .cells #[.iface 379 (.pointer (some ⟨13, 0, none⟩))] t frozen | o => o).modify 4 fun | .cells _ t frozen => .cells #[.iface 379 (.pointer (some ⟨14, 0, none⟩))] t frozen | o => o).modify 5 fun | .cells _ t frozen => .cells (tabCells Rows.laid_internal_strconv_uint64pow10).toArray t frozen | o => o).modify 6 fun | .cells _ t frozen => .cells (tabCells Rows.laid_math_bits_deBruijn32tab).toArray t frozen | o => o).modify 7 fun | .cells _ t frozen => .cells (tabCells Rows.laid_math_bits_deBruijn64tab).toArray t frozen | o => o } : World).forCall (fun _ _ => 0) ⟨#[], #[.agg #[.string .empty]], []⟩).memory Tryz.f3.params.toList Rows.engineNilSpec.vars false (#[.agg #[.string .empty]] : Array Value).toList 8 = some ([.agg [.lit (.string [])]], [], places) :=
  ⟨[], by kernel_rfl⟩

set_option maxRecDepth 100000 in
theorem engineNil_lifted (os : Os) (started : os.Started) (H : Type) (enc : TypeId × Value → H) (F : Stop.Interp) :
    ReturnsInHanded {} Tryz.checked os 3 .any ((OpenSpec.ofChange Rows.engineNilSpec).preRow enc Tryz.prog Tryz.f3 Rows.engineNilRow.domain false Rows.engineNilRow.laid) (((OpenSpec.ofChange Rows.engineNilSpec).at F).post enc Tryz.prog Tryz.f3 false true false false) := by
  obtain ⟨places, hx⟩ := en_reads os enc
  refine returnsInHanded_of_row (C := Tryz.checked) (s := OpenSpec.ofChange Rows.engineNilSpec) engineNil_own started (by kernel_rfl) Tryz.func3
    (witness_row_at (enc := enc) (C := Tryz.checked) false ({ World.holding Tryz.prog os ⟨#[.cells #[.string ⟨#[105, 110, 118, 97, 108, 105, 100, 32, 115, 121, 110, 116, 97, 120]⟩] 381, .cells #[.string ⟨#[118, 97, 108, 117, 101, 32, 111, 117, 116, 32, 111, 102, 32, 114, 97, 110, 103, 101]⟩] 381], #[], []⟩ with heap := ((((((((World.holding Tryz.prog os ⟨#[.cells #[.string ⟨#[105, 110, 118, 97, 108, 105, 100, 32, 115, 121, 110, 116, 97, 120]⟩] 381, .cells #[.string ⟨#[118, 97, 108, 117, 101, 32, 111, 117, 116, 32, 111, 102, 32, 114, 97, 110, 103, 101]⟩] 381], #[], []⟩).heap).modify 0 fun | .cells _ t frozen => .cells (tabCells Go.Pinned.utf8First).toArray t frozen | o => o).modify 1 fun | .cells _ t frozen => .cells (pairCells Rows.laid_unicode_utf8_acceptRanges).toArray t frozen | o => o).modify 3 fun | .cells _ t frozen => .cells #[.iface 379 (.pointer (some ⟨13, 0, none⟩))] t frozen | o => o).modify 4 fun | .cells _ t frozen => .cells #[.iface 379 (.pointer (some ⟨14, 0, none⟩))] t frozen | o => o).modify 5 fun | .cells _ t frozen => .cells (tabCells Rows.laid_internal_strconv_uint64pow10).toArray t frozen | o => o).modify 6 fun | .cells _ t frozen => .cells (tabCells Rows.laid_math_bits_deBruijn32tab).toArray t frozen | o => o).modify 7 fun | .cells _ t frozen => .cells (tabCells Rows.laid_math_bits_deBruijn64tab).toArray t frozen | o => o } : World) #[.agg #[.string .empty]] rfl (by kernel_rfl) (by kernel_rfl) (by kernel_rfl)
      (OpenSpec.preRow_of_cond 8 hx (by kernel_rfl) (fun k hk => by cases hk) (by kernel_rfl) (en_met os))) ?_
  intro W base args ds gs before hval hW _ _ _ _ hsh _
  exact engineNil_contract H enc W base args ds gs before hval hW

theorem engineNil_said : Rows.EngineNilSaid :=
  OpenClaim.holds_of_cond 3 Tryz.f3 rfl rfl rfl rfl rfl rfl rfl ⟨rfl, rfl, rfl, rfl, rfl⟩ rfl rfl rfl rfl rfl (by kernel_rfl) Tryz.func3 engineNil_closed
    (of_decide_eq_true (by kernel_rfl)) (by unfold Func.isWrapper; first | (rw [if_pos (by decide +kernel)]; kernel_rfl) | (rw [if_neg (by decide +kernel)]; exact ⟨rfl, rfl⟩))
    (fun os started H enc _ F => by rw [OpenClaim.pre_eq_preRow]; exact engineNil_lifted os started H enc F)

/-- No parameter wants a stand-in; the program's own looks are off: what the card asks. -/
theorem engineNil_plain (f : FuncId) (fn : Func) (hf : Tryz.pinned.checked.prog.funcNamed "askance/askancelaw.EngineNil" = some f) (hfn : Tryz.pinned.checked.prog.funcs[f]? = some fn) :
    true = Tryz.pinned.checked.prog.looks [] ∧ ∀ (j : Nat) t, fn.params[j]? = some t → Tryz.pinned.checked.prog.wantsStandIn t = false := by
  obtain rfl : f = 3 := Option.some.inj ((show Tryz.prog.funcNamed "askance/askancelaw.EngineNil" = some 3 by kernel_rfl).symm.trans hf) |>.symm
  obtain rfl : fn = Tryz.f3 := (Option.some.inj (Tryz.func3.symm.trans hfn)).symm
  refine ⟨by kernel_rfl, fun j t ht => ?_⟩
  rw [Tryz.params3] at ht
  have h1 : t = 23 := by have := Array.mem_of_getElem? ht; simp at this; omega
  subst h1
  exact (show Tryz.prog.wantsStandIn 23 = false by kernel_rfl)

/-- THE CARD. -/
theorem engineNil_card : Rows.EngineNilCardSaid :=
  Claim7.holds_tied_plain_at .later [] _ _ _ _ engineNil_said (fun _ h => by cases h) (by kernel_rfl) (fun _ h => by cases h) engineNil_row_tie rfl ⟨rfl, rfl⟩ (by kernel_rfl) rfl engineNil_plain (by kernel_rfl)

#print axioms engineNil_card
end Go.Proofs.YtaipiaebklicmaaGreatDoor
