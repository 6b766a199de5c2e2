/-
  For every catalog, table and row, if the catalog is good, has the table, and the row is of good values, as many as it has columns, then RowKey, IndexKey, Put and Drop answer exactly what P6.1 says. No condition; the card ties the listed tables of the library.
-/
import Derived.Test.YtkncamggdfmlnaaGreatDoorJ20
import Derived.Test.YtkncamggdfmlnaaGreatDoorJ21
import Derived.Test.YtkncamggdfmlnaaGreatDoorRows
import Derived.Test.YtkncamggdfmlnaaGreatDoorCards
import Derived.Test.YtkncamggdfmlnaaGreatDoorTie
import Derived.WalkKit
import Derived.WalkSpells
import Derived.WalkLawsBesides
import Derived.Deep.RegionHeld3
import Derived.ProofKit
import Derived.OpenShut
import Derived.Lib.SmallJoins
import Derived.Deep.DeepHandedRow
import Derived.Lib.LaidTab
import Derived.LaidMore
namespace Go.Proofs.YtkncamggdfmlnaaGreatDoor
open Go.ChangeShapes Go.WideShapes Go.ChangeAt Go.RowKit

theorem planKeys_walk (c : CatD) (t : TabD) (r : List V) (cv sv rv : Value) (w : World) (hc : IsCat (fun k => k < w.heap.size) w c cv) (ht : IsL kCol (fun k => k < w.heap.size) w sv t.cols) (hr : IsL kVal (fun k => k < w.heap.size) w rv r) (hs : ∀ v ∈ r, v.s.size ≤ maxLen) (he : EnvM w) :
    Calls Tryz.prog 3 #[cv, .agg #[.string t.name, sv], rv] w fun e w' => e = .returned (.bool true) ∧ Below w.heap.size w w' := by
  cases hcb : isCatR c with
  | false => exact planKeys_out c t r cv sv rv w hc ht (isL_vals hr) he (.inl hcb)
  | true =>
    by_cases hl : r.length = t.cols.length
    · by_cases h0 : r.length = 0
      · exact planKeys_out c t r cv sv rv w hc ht (isL_vals hr) he (.inr (.inr h0))
      · exact planKeys_in c t r cv sv rv w hc ht hr hs he hcb hl (by omega)
    · exact planKeys_out c t r cv sv rv w hc ht (isL_vals hr) he (.inr (.inl hl))

/-- What the reading of the program's variables gives. -/
theorem envM_of {W : World} (h : W.ShapedOpen Tryz.prog) : EnvM W := by
  obtain ⟨m, hm⟩ := Tryz.laysM144.s1_3 W h
  exact ⟨⟨m, hm⟩, block_lt_of_cell hm⟩

theorem planKeys_own : ownKnob Tryz.prog.godebug = none := by kernel_rfl
theorem planKeys_laidOut : laidOutB Tryz.prog = true := by kernel_rfl

set_option maxRecDepth 100000 in
theorem planKeys_contract (H : Type) (enc : TypeId × Value → H) (W : World) (base : Nat) (args : Array Value) (ds gs : List (DataW H)) (before : List MemPlace)
    (hval : ∀ (j : Nat) t v, Tryz.f3.params[j]? = some t → args[j]? = some v → Value.okWide Tryz.prog W .any base t v)
    (hW : DataW.Whole enc Tryz.prog Tryz.f3.params.toList Rows.planKeysSpec.vars false W args.toList ds gs before) (hsh : W.ShapedOpen Tryz.prog) :
    Calls Tryz.prog 3 args W fun e W' => ∃ v, e = .returned v ∧ Rows.planKeysSpec.post enc Tryz.prog Tryz.f3 false true false false W args v W' := by
  have hW' := hW
  obtain ⟨p, q, hA0, hV, rfl, _, _⟩ := hW
  have hA : DataW.TrodAll enc Tryz.prog W 0 (fun _ => true) true Tryz.f3.params.toList args.toList ds p := hA0
  rw [Tryz.params3] at hA hval
  obtain ⟨v0, v1, v2, d0, d1, d2, p0, p1, p2, rfl, rfl, rfl, h0, h1, h2⟩ := trodAll_three hA
  obtain ⟨rfl, rfl⟩ := trodVars_none hV
  obtain ⟨cs0, rfl, hsz0⟩ := okWide_struct Tryz.underlying25 (hval 0 25 v0 rfl rfl)
  obtain ⟨cs1, rfl, hsz1⟩ := okWide_struct Tryz.underlying28 (hval 1 28 v1 rfl rfl)
  obtain ⟨a2, len2, cap2, rfl⟩ := okWide_slice Tryz.underlying29 (hval 2 29 v2 rfl rfl)
  have k0 := h0
  have k1 := h1
  have k2 := h2
  have lt0 : ∀ x ∈ p0, x.block < W.heap.size := by obtain ⟨m, hm⟩ := k0; exact DataW.trod_lt m _ _ _ hm
  have lt1 : ∀ x ∈ p1, x.block < W.heap.size := by obtain ⟨m, hm⟩ := k1; exact DataW.trod_lt m _ _ _ hm
  have lt2 : ∀ x ∈ p2, x.block < W.heap.size := by obtain ⟨m, hm⟩ := k2; exact DataW.trod_lt m _ _ _ hm
  obtain ⟨n0, f0⟩ := h0
  obtain ⟨n1, f1⟩ := h1
  obtain ⟨n2, f2⟩ := h2
  obtain ⟨c, hc, hfc⟩ := open_cat f0
  have hc' : IsCat (fun k => k < W.heap.size) W c (.agg cs0) := by simpa [Value.cells] using hc
  obtain ⟨t, ⟨tsv, htc, htl⟩, hft⟩ := open_tab f1
  have hcs1 : cs1 = #[.string t.name, tsv] := Array.toList_inj.1 (by simpa [Value.cells] using htc)
  subst hcs1
  obtain ⟨r, ⟨rsv, hrc, hrl⟩, hfr⟩ := open_row (B := Rows.uptoBulk d2) (Nat.le_refl _) f2
  have hrs : rsv = .slice a2 len2 cap2 := by simpa [Value.cells] using hrc.symm
  subst hrs
  clear hA0
  refine (planKeys_walk c t r _ _ _ W hc' htl hrl hfr.1 (envM_of hsh)).mono fun e W' ⟨he, bel⟩ => ?_
  subst he
  exact ⟨_, rfl, _, _, _, [], _, [], hW', trodAll_mk1 (shut_bool Tryz.underlying4 _), (trodAll_cons_mk (Below.trod planKeys_laidOut (by kernel_rfl) (of_decide_eq_true (by kernel_rfl)) k0 bel lt0) (trodAll_cons_mk (Below.trod planKeys_laidOut (by kernel_rfl) (of_decide_eq_true (by kernel_rfl)) k1 bel lt1) (trodAll_cons_mk (Below.trod planKeys_laidOut (by kernel_rfl) (of_decide_eq_true (by kernel_rfl)) k2 bel lt2) trodAll_mk0))), rfl, bel.frame _, fun h => by cases h⟩

/-- Tables as cells. -/
def litV : DataW Unit → Value
  | .lit (.int k n) => .int k n
  | _ => undef
def tabCells : DataW Unit → List Value
  | .agg l => l.map litV
  | _ => []
def pairCells : DataW Unit → List Value
  | .agg l => l.flatMap tabCells
  | _ => []
theorem pk_met (os : Os) : laidMet Tryz.prog Rows.planKeysRow.laid (({ World.holding Tryz.prog os ⟨#[], #[], []⟩ with heap := ((World.holding Tryz.prog os ⟨#[], #[], []⟩).heap.modify 1 fun | .cells _ t frozen => .cells (tabCells Go.Pinned.utf8First).toArray t frozen | o => o).modify 2 fun | .cells _ t frozen => .cells (pairCells Rows.laid_unicode_utf8_acceptRanges).toArray t frozen | o => o } : World).forCall (fun _ _ => 0) ⟨#[], #[.agg #[.slice none 0 0, .slice none 0 0], .agg #[.string .empty, .slice none 0 0], .slice none 0 0], []⟩).memory :=
  laidMet_of_run' 8 (by kernel_rfl) (by kernel_rfl)
theorem pk_reads (os : Os) {H : Type} (enc : TypeId × Value → H) : ∃ places, DataW.whole enc Tryz.prog (({ World.holding Tryz.prog os ⟨#[], #[], []⟩ with heap := ((World.holding Tryz.prog os ⟨#[], #[], []⟩).heap.modify 1 fun | .cells _ t frozen => .cells (tabCells Go.Pinned.utf8First).toArray t frozen | o => o).modify 2 fun | .cells _ t frozen => .cells (pairCells Rows.laid_unicode_utf8_acceptRanges).toArray t frozen | o => o } : World).forCall (fun _ _ => 0) ⟨#[], #[.agg #[.slice none 0 0, .slice none 0 0], .agg #[.string .empty, .slice none 0 0], .slice none 0 0], []⟩).memory Tryz.f3.params.toList Rows.planKeysSpec.vars false (#[.agg #[.slice none 0 0, .slice none 0 0], .agg #[.string .empty, .slice none 0 0], .slice none 0 0] : Array Value).toList 8 = some ([.agg [.nil, .nil], .agg [.lit (.string []), .nil], .nil], [], places) :=
  ⟨[], by kernel_rfl⟩

set_option maxRecDepth 100000 in
theorem planKeys_lifted (os : Os) (started : os.Started) (H : Type) (enc : TypeId × Value → H) (F : Stop.Interp) :
    ReturnsInHanded {} Tryz.checked os 3 .any ((OpenSpec.ofChange Rows.planKeysSpec).preRow enc Tryz.prog Tryz.f3 Rows.planKeysRow.domain false Rows.planKeysRow.laid) (((OpenSpec.ofChange Rows.planKeysSpec).at F).post enc Tryz.prog Tryz.f3 false true false false) := by
  obtain ⟨places, hx⟩ := pk_reads os enc
  refine returnsInHanded_of_row (C := Tryz.checked) (s := OpenSpec.ofChange Rows.planKeysSpec) planKeys_own started (by kernel_rfl) Tryz.func3
    (witness_row_at (enc := enc) (C := Tryz.checked) false ({ World.holding Tryz.prog os ⟨#[], #[], []⟩ with heap := ((World.holding Tryz.prog os ⟨#[], #[], []⟩).heap.modify 1 fun | .cells _ t frozen => .cells (tabCells Go.Pinned.utf8First).toArray t frozen | o => o).modify 2 fun | .cells _ t frozen => .cells (pairCells Rows.laid_unicode_utf8_acceptRanges).toArray t frozen | o => o } : World) #[.agg #[.slice none 0 0, .slice none 0 0], .agg #[.string .empty, .slice none 0 0], .slice none 0 0] rfl (by kernel_rfl) (by kernel_rfl) (by kernel_rfl)
      (OpenSpec.preRow_of_cond 8 hx (by kernel_rfl) (fun k hk => by cases hk) (by kernel_rfl) (pk_met os))) ?_
  intro W base args ds gs before hval hW _ _ _ _ hsh _
  exact planKeys_contract H enc W base args ds gs before hval hW hsh

theorem planKeys_said : Rows.PlanKeysSaid :=
  OpenClaim.holds_of_cond 3 Tryz.f3 rfl rfl rfl rfl rfl rfl rfl ⟨rfl, rfl, rfl, rfl, rfl⟩ rfl rfl rfl rfl rfl (by kernel_rfl) Tryz.func3 (by kernel_rfl)
    (of_decide_eq_true (by kernel_rfl)) (by unfold Func.isWrapper; first | (rw [if_pos (by decide +kernel)]; kernel_rfl) | (rw [if_neg (by decide +kernel)]; exact ⟨rfl, rfl⟩))
    (fun os started H enc _ F => by rw [OpenClaim.pre_eq_preRow]; exact planKeys_lifted os started H enc F)

/-- No parameter wants a stand-in; the program's own looks are off: what the card asks. -/
theorem planKeys_plain (f : FuncId) (fn : Func) (hf : Tryz.pinned.checked.prog.funcNamed "askance/askancelaw.PlanKeys" = some f) (hfn : Tryz.pinned.checked.prog.funcs[f]? = some fn) :
    false = Tryz.pinned.checked.prog.looks [] ∧ ∀ (j : Nat) t, fn.params[j]? = some t → Tryz.pinned.checked.prog.wantsStandIn t = false := by
  obtain rfl : f = 3 := Option.some.inj ((show Tryz.prog.funcNamed "askance/askancelaw.PlanKeys" = some 3 by kernel_rfl).symm.trans hf) |>.symm
  obtain rfl : fn = Tryz.f3 := (Option.some.inj (Tryz.func3.symm.trans hfn)).symm
  refine ⟨by kernel_rfl, fun j t ht => ?_⟩
  rw [Tryz.params3] at ht
  have h1 : t = 25 ∨ t = 28 ∨ t = 29 := by have := Array.mem_of_getElem? ht; simp at this; omega
  rcases h1 with rfl | rfl | rfl
  · exact (show Tryz.prog.wantsStandIn 25 = false by kernel_rfl)
  · exact (show Tryz.prog.wantsStandIn 28 = false by kernel_rfl)
  · exact (show Tryz.prog.wantsStandIn 29 = false by kernel_rfl)

/-- THE CARD. -/
theorem planKeys_card : Rows.PlanKeysCardSaid :=
  Claim7.holds_tied_plain_at .later [] _ _ _ _ planKeys_said (fun _ h => by cases h) (by kernel_rfl) (fun _ h => by cases h) planKeys_row_tie rfl ⟨rfl, rfl⟩ (by kernel_rfl) rfl planKeys_plain (by kernel_rfl)

#print axioms planKeys_card
end Go.Proofs.YtkncamggdfmlnaaGreatDoor
