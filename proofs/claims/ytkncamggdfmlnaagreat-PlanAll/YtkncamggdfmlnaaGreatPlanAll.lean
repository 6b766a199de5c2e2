/-
  For every catalog, name and rows, if the catalog is good and has a table of that name, then of a tree that has just those of the rows that fit it (each key once, twenty at most) the way to all rows leads to all, by their first values, and dropped one by one nothing is left (P6.1, P6.2). No condition.
-/
import Derived.Test.YtkncamggdfmlnaaGreatJ16
import Derived.ProofKit
import Derived.OpenShut
import Derived.ChangeOld
namespace Go.Proofs.YtkncamggdfmlnaaGreat
open Go.ChangeShapes Go.WideShapes Go.ChangeAt Go.RowKit
open Go.ChangeMaps (open_string shut_string)

theorem planAll_walk (c : CatD) (name : Wd) (cv rv : Value) (rows : List (List V)) (w : World) (hc : IsCat (fun k => k < w.heap.size) w c cv) (hf : fitCat c) (hr : IsL kVals (fun k => k < w.heap.size) w rv rows) (hrs : ∀ r ∈ rows, ∀ v ∈ r, v.s.size ≤ maxLen) :
    Calls Tryz.prog 3 #[cv, .string name, rv] w fun e w' => e = .returned (.bool true) ∧ Below w.heap.size w w' := by
  cases hg : catB c with
  | false => exact planAll_out c name cv rv w hc hf (isL_one hr) (.inl hg)
  | true =>
    cases ht : tabOf c.tables name with
    | none => exact planAll_out c name cv rv w hc hf (isL_one hr) (.inr ht)
    | some t =>
      obtain ⟨_, h⟩ := tabOf_some ht
      subst h
      exact planAll_in c t cv rv rows w hc hf hr hrs hg ht

theorem planAll_own : ownKnob Tryz.prog.godebug = none := by kernel_rfl
theorem planAll_laidOut : laidOutB Tryz.prog = true := by kernel_rfl

set_option maxRecDepth 100000 in
theorem planAll_lifted (os : Os) (started : os.Started) (H : Type) (enc : TypeId × Value → H) :
    ReturnsInHanded {} Tryz.checked os 3 .any (Rows.planAllSpec.pre6 enc Tryz.prog Tryz.f3 Rows.planAllRow.domain false) (Rows.planAllSpec.post enc Tryz.prog Tryz.f3 false true false false) := by
  refine returnsInHanded_of_change_sized (C := Tryz.checked) planAll_own started (by kernel_rfl) Tryz.func3
    (ChangeSpec.witness6 (enc := enc) (C := Tryz.checked) false ⟨#[], #[.agg #[.slice none 0 0, .slice none 0 0], .string .empty, .slice none 0 0], []⟩ 8 (by kernel_rfl) (by kernel_rfl) (by kernel_rfl) (by kernel_rfl)) ?_
  intro W base args ds gs before hval0 hW _ _ _
  have hval : ∀ (j : Nat) t v, Tryz.f3.params[j]? = some t → args[j]? = some v → Value.okWide Tryz.prog W .any base t v := hval0
  have hW' := hW
  obtain ⟨p, q, hA0, hV, rfl, _, _⟩ := hW
  have hA : DataW.TrodAll enc Tryz.prog W 0 (fun _ => true) true Tryz.f3.params.toList args.toList ds p := hA0
  rw [Tryz.params3] at hA hval
  obtain ⟨v0, v1, v2, d0, d1, d2, p0, p1, p2, rfl, rfl, rfl, h0, h1, h2⟩ := trodAll_three hA
  obtain ⟨rfl, rfl⟩ := trodVars_none hV
  obtain ⟨cs0, rfl, hsz0⟩ := okWide_struct Tryz.underlying25 (hval 0 25 v0 rfl rfl)
  obtain ⟨s1, rfl, rfl, rfl, hm1⟩ := open_string Tryz.underlying9 (hval 1 9 v1 rfl rfl) h1
  obtain ⟨a2, len2, cap2, rfl⟩ := okWide_slice Tryz.underlying26 (hval 2 26 v2 rfl rfl)
  have k0 := h0
  have k2 := h2
  have lt0 : ∀ x ∈ p0, x.block < W.heap.size := by obtain ⟨m, hm⟩ := k0; exact DataW.trod_lt m _ _ _ hm
  have lt2 : ∀ x ∈ p2, x.block < W.heap.size := by obtain ⟨m, hm⟩ := k2; exact DataW.trod_lt m _ _ _ hm
  obtain ⟨n0, f0⟩ := h0
  obtain ⟨n2, f2⟩ := h2
  obtain ⟨c, hc, hfc⟩ := open_cat f0
  have hc' : IsCat (fun k => k < W.heap.size) W c (.agg cs0) := by simpa [Value.cells] using hc
  obtain ⟨rows, hr, hrs, _⟩ := open_rows (sv := .slice a2 len2 cap2) f2
  clear hA0 hval0
  refine (planAll_walk c s1 _ _ rows W hc' hfc hr (fun r hr => (hrs r hr).1)).mono fun e W' ⟨he, bel⟩ => ?_
  subst he
  exact ⟨_, rfl, _, _, _, [], _, [], hW', trodAll_mk1 (shut_bool Tryz.underlying4 _), (trodAll_cons_mk (Below.trod planAll_laidOut (by kernel_rfl) (of_decide_eq_true (by kernel_rfl)) k0 bel lt0) (trodAll_cons_mk (shut_string Tryz.underlying9 hm1) (trodAll_cons_mk (Below.trod planAll_laidOut (by kernel_rfl) (of_decide_eq_true (by kernel_rfl)) k2 bel lt2) trodAll_mk0))), rfl, bel.frame _, fun h => by cases h⟩

theorem planAll_holds : Rows.PlanAllSaid :=
  OpenClaim.holds_of_wide 3 Tryz.f3 rfl rfl rfl rfl rfl rfl rfl ⟨rfl, rfl, rfl, rfl, rfl⟩ rfl rfl rfl rfl rfl (by kernel_rfl) Tryz.func3 (by kernel_rfl)
    (of_decide_eq_true (by kernel_rfl)) (by unfold Func.isWrapper; first | (rw [if_pos (by decide +kernel)]; kernel_rfl) | (rw [if_neg (by decide +kernel)]; exact ⟨rfl, rfl⟩))
    (fun os started H enc _ => planAll_lifted os started H enc)

#print axioms planAll_holds
end Go.Proofs.YtkncamggdfmlnaaGreat
