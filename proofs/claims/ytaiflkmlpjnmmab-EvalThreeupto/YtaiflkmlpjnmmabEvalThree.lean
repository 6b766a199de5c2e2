/-
  For every expression and row of bulk at most 1048576, if the expression comes to a truth or nothing, just one is so: it, its contrary, or that nobody knows (P5.1, P5.2, P5.3). The condition is the bulk.
-/
import Derived.Test.YtaiflkmlpjnmmabXThree
import Derived.Test.YtaiflkmlpjnmmabXOpen
import Derived.ProofKit
import Derived.OpenShut
import Derived.ChangeOld
import Derived.JoinedCond
namespace Go.Proofs.Ytaiflkmlpjnmmab
open Go.ChangeShapes Go.WideShapes Go.ChangeAt Go.RowKit

theorem evalThree_own : ownKnob Try.prog.godebug = none := by kernel_rfl
theorem evalThree_laidOut : laidOutB Try.prog = true := by kernel_rfl

theorem evalThree_small {H : Type} {L : List V} {d0 d : DataW H} (hd : (d = .nil ∧ L = []) ∨ ∃ sp, d = .slice (L.map V.datum) sp) (hk : Rows.uptoSmall H [d0, d] = true) : Rows.uptoBulk d0 ≤ 1048576 ∧ L.length ≤ 1048576 := by
  have h : Rows.uptoBulkAll [d0, d] ≤ 1048576 := of_decide_eq_true hk
  simp only [Rows.uptoBulkAll] at h
  rcases hd with ⟨rfl, rfl⟩ | ⟨sp, rfl⟩
  · exact ⟨by omega, by simp⟩
  · have := slice_bulk (L.map V.datum) sp
    rw [List.length_map] at this
    exact ⟨by omega, by omega⟩

set_option maxRecDepth 100000 in
theorem evalThree_contract (H : Type) (enc : TypeId × Value → H) (W : World) (base : Nat) (args : Array Value) (ds gs : List (DataW H)) (before : List MemPlace)
    (hval : ∀ (j : Nat) t v, Try.f3.params[j]? = some t → args[j]? = some v → Value.okWide Try.prog W .any base t v)
    (hW : DataW.Whole enc Try.prog Try.f3.params.toList Rows.evalThreeSpec.vars false W args.toList ds gs before) (hk : Rows.uptoSmall H (ds ++ gs) = true) :
    Calls Try.prog 3 args W fun e W' => ∃ v, e = .returned v ∧ Rows.evalThreeSpec.post enc Try.prog Try.f3 false true false false W args v W' := by
  have hW' := hW
  obtain ⟨p, q, hA0, hV, rfl, _, _⟩ := hW
  have hA : DataW.TrodAll enc Try.prog W 0 (fun _ => true) true Try.f3.params.toList args.toList ds p := hA0
  rw [Try.params3] at hA hval
  obtain ⟨v0, v1, d0, d1, p0, p1, rfl, rfl, rfl, h0, h1⟩ := trodAll_two hA
  obtain ⟨rfl, rfl⟩ := trodVars_none hV
  obtain ⟨cs, rfl, hsz⟩ := okWide_struct Try.underlying26 (hval 0 26 v0 rfl rfl)
  obtain ⟨a1, len1, cap1, rfl⟩ := okWide_slice Try.underlying27 (hval 1 27 v1 rfl rfl)
  have k0 := h0
  have k1 := h1
  have lt0 : ∀ x ∈ p0, x.block < W.heap.size := by obtain ⟨m, hm⟩ := k0; exact DataW.trod_lt m _ _ _ hm
  have lt1 : ∀ x ∈ p1, x.block < W.heap.size := by obtain ⟨m, hm⟩ := k1; exact DataW.trod_lt m _ _ _ hm
  obtain ⟨n0, f0⟩ := h0
  obtain ⟨n1, f1⟩ := h1
  obtain ⟨A, ha, hsa, hda⟩ := open_vals (sv := .slice a1 len1 cap1) f1
  simp only [List.append_nil] at hk
  obtain ⟨hbe, hla⟩ := evalThree_small hda hk
  obtain ⟨e, _, he, hfe, hne⟩ := open_expr _ n0 _ _ (Nat.le_refl _) f0
  have he' : IsE (fun k => k < W.heap.size) W e (.agg cs) := by simpa [Value.cells] using he
  clear hA0
  refine (evalThree_walk e _ _ A W.heap.size W he' (Nat.le_refl _) (Nat.le_trans hne hbe) hfe ha hsa (Nat.le_trans hla (by decide))).mono fun e W' ⟨he, bel⟩ => ?_
  subst he
  exact ⟨_, rfl, _, _, _, [], _, [], hW', trodAll_mk1 (shut_bool Try.underlying4 _), (trodAll_cons_mk (Below.trod evalThree_laidOut (by kernel_rfl) (of_decide_eq_true (by kernel_rfl)) k0 bel lt0) (trodAll_cons_mk (Below.trod evalThree_laidOut (by kernel_rfl) (of_decide_eq_true (by kernel_rfl)) k1 bel lt1) trodAll_mk0)), rfl, bel.frame _, fun h => by cases h⟩

set_option maxRecDepth 100000 in
theorem evalThree_lifted (os : Os) (started : os.Started) (H : Type) (enc : TypeId × Value → H) (F : Stop.Interp) :
    ReturnsInHanded {} Try.checked os 3 .any ((Rows.OpenSpec.upto Rows.evalThreeSpec).pre6 enc Try.prog Try.f3 Rows.evalThreeUptoRow.domain false) (((Rows.OpenSpec.upto Rows.evalThreeSpec).at F).post enc Try.prog Try.f3 false true false false) := by
  refine returnsInHanded_of_cond (C := Try.checked) (s := Rows.OpenSpec.upto Rows.evalThreeSpec) (k := Rows.uptoSmall) rfl evalThree_own started (by kernel_rfl) Try.func3
    (OpenSpec.witness (enc := enc) (C := Try.checked) (s := Rows.OpenSpec.upto Rows.evalThreeSpec) (k := Rows.uptoSmall) rfl false ⟨#[], #[.agg #[.int .i64 0, .int .i64 0, .int .i64 0, .string .empty, .string .empty, .string .empty, .int .i64 0, .slice none 0 0], .slice none 0 0], []⟩ 8 (by kernel_rfl) (by kernel_rfl) (by kernel_rfl)
      (x := ([.agg [.lit (.int .i64 0), .agg [.lit (.int .i64 0), .lit (.int .i64 0), .lit (.string [])], .lit (.string []), .lit (.string []), .lit (.int .i64 0), .nil], .nil], [], [])) (by kernel_rfl) rfl (by kernel_rfl)) ?_
  intro W base args ds gs before hval hW _ hk _
  exact evalThree_contract H enc W base args ds gs before hval hW hk

theorem evalThree_holds : Rows.EvalThreeUptoSaid :=
  OpenClaim.holds_of_cond 3 Try.f3 rfl rfl rfl rfl rfl rfl rfl ⟨rfl, rfl, rfl, rfl, rfl⟩ rfl rfl rfl rfl rfl (by kernel_rfl) Try.func3 (by kernel_rfl)
    (of_decide_eq_true (by kernel_rfl)) (by unfold Func.isWrapper; first | (rw [if_pos (by decide +kernel)]; kernel_rfl) | (rw [if_neg (by decide +kernel)]; exact ⟨rfl, rfl⟩))
    (fun os started H enc _ F => evalThree_lifted os started H enc F)

#print axioms evalThree_holds
end Go.Proofs.Ytaiflkmlpjnmmab
