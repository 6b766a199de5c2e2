/-
  For all integers, both and one of both are as they are elsewhere, also where nobody knows (P1.3: value.And, Or, Not). No condition.
-/
import Derived.Test.YtgemcbnaamcfcaaRows
import Derived.WalkKit
import Derived.ProofKit
import Derived.OpenShut
import Derived.Test.YtgemcbnaamcfcaaTruth
import Derived.Test.YtgemcbnaamcfcaaAnswers
namespace Go.Proofs.Ytgemcbnaamcfcaa
open Go.ChangeShapes Go.WideShapes Go.ChangeAt Go.RowKit
set_option linter.unusedVariables false      -- a walk need not use every 'w<i>' (that an integer argument fits its kind)

theorem valueTruths_own : ownKnob Try.prog.godebug = none := by kernel_rfl

theorem t1 (a b : Int) : (tNot (tAnd a b) == tOr (tNot a) (tNot b)) = true := by
  unfold tNot tAnd tOr; by_cases h1 : a = 0 <;> by_cases h2 : b = 0 <;> by_cases h3 : a = 1 <;> by_cases h4 : b = 1 <;> simp_all
theorem t2 (a b : Int) : (tAnd a b == tAnd b a) = true := by
  unfold tAnd; by_cases h1 : a = 0 <;> by_cases h2 : b = 0 <;> by_cases h3 : a = 1 <;> by_cases h4 : b = 1 <;> simp_all
theorem t3 (a b c : Int) : (tAnd a (tAnd b c) == tAnd (tAnd a b) c) = true := by
  unfold tAnd; by_cases h1 : a = 0 <;> by_cases h2 : b = 0 <;> by_cases h3 : a = 1 <;> by_cases h4 : b = 1 <;> by_cases h5 : c = 0 <;> by_cases h6 : c = 1 <;> simp_all
theorem t4 (a b c : Int) : (tAnd a (tOr b c) == tOr (tAnd a b) (tAnd a c)) = true := by
  unfold tAnd tOr; by_cases h1 : a = 0 <;> by_cases h2 : b = 0 <;> by_cases h3 : a = 1 <;> by_cases h4 : b = 1 <;> by_cases h5 : c = 0 <;> by_cases h6 : c = 1 <;> simp_all
theorem t5 (a : Int) : (tNot (tNot a) == tAnd a a) = true := by
  unfold tAnd tNot; by_cases h1 : a = 0 <;> by_cases h3 : a = 1 <;> simp_all

set_option maxHeartbeats 1000000 in
theorem valueTruths_walk (a b c : Int) (w : World) :
    Calls Try.prog 6 #[.int .i64 a, .int .i64 b, .int .i64 c] w fun e w' => e = .returned (.bool true) ∧ Below w.heap.size w w' := by
  have h1 := t1 a b
  have h2 := t2 a b
  have h3 := t3 a b c
  have h4 := t4 a b c
  have h5 := t5 a
  go_enter Try.func6, Try.ntmps6
  go_wp2_with (first | (go_at_call 17; go_must (refine (and_any _ _ _).mono ?_; rintro e w3 ⟨rfl, rfl⟩)) | (go_at_call 18; go_must (refine (or_any _ _ _).mono ?_; rintro e w3 ⟨rfl, rfl⟩)) | (go_at_call 16; go_must (refine (not_any _ _).mono ?_; rintro e w3 ⟨rfl, rfl⟩)) | (go_at_call 14; go_must (refine (answers_any _).mono ?_; rintro e w3 ⟨rfl, hb⟩)))
  go_ret
  exact ⟨rfl, hb⟩

/-! ### THE ROW's STEP: WRITTEN OUT: LEAVE IT -/
set_option maxRecDepth 100000 in
theorem valueTruths_lifted (os : Os) (started : os.Started) (H : Type) (enc : TypeId × Value → H) :
    ReturnsInHanded {} Try.checked os 6 .any (Rows.valueTruthsSpec.pre6 enc Try.prog Try.f6 Rows.valueTruthsRow.domain false) (Rows.valueTruthsSpec.post enc Try.prog Try.f6 false true false false) := by
  refine returnsInHanded_of_change (C := Try.checked) valueTruths_own started (by kernel_rfl) Try.func6
    (ChangeSpec.witness6 (enc := enc) (C := Try.checked) false ⟨#[], #[.int .i64 0, .int .i64 0, .int .i64 0], []⟩ 8 (by kernel_rfl) (by kernel_rfl) (by kernel_rfl) (by kernel_rfl)) ?_
  intro W base args ds gs before hval0 hW hcnd _
  have hval : ∀ (j : Nat) t v, Try.f6.params[j]? = some t → args[j]? = some v → Value.okWide Try.prog W .any base t v := hval0
  have hW' := hW
  obtain ⟨p, q, hA0, hV, rfl, hfz, hnd⟩ := hW
  have hA : DataW.TrodAll enc Try.prog W 0 (fun _ => true) true Try.f6.params.toList args.toList ds p := hA0
  rw [Try.params6] at hA hval
  obtain ⟨v0, vs0, d0, ds0, p0, q0, hargs, rfl, rfl, h0, r0⟩ := trodAll_cons hA
  obtain ⟨v1, vs1, d1, ds1, p1, q1, rfl, rfl, rfl, h1, r1⟩ := trodAll_cons r0
  obtain ⟨v2, vs2, d2, ds2, p2, q2, rfl, rfl, rfl, h2, r2⟩ := trodAll_cons r1
  obtain ⟨rfl, rfl, rfl⟩ := trodAll_nil r2
  obtain rfl : args = #[v0, v1, v2] := by cases args; simp_all
  obtain ⟨rfl, rfl⟩ := trodVars_none hV
  obtain ⟨a0, rfl, rfl, rfl, w0⟩ := open_int Try.underlying3 (hval 0 3 v0 rfl rfl) h0
  obtain ⟨a1, rfl, rfl, rfl, w1⟩ := open_int Try.underlying3 (hval 1 3 v1 rfl rfl) h1
  obtain ⟨a2, rfl, rfl, rfl, w2⟩ := open_int Try.underlying3 (hval 2 3 v2 rfl rfl) h2
  clear hA0 hval0
  simp only [List.append_nil] at hW'
  refine (valueTruths_walk a0 a1 a2 W).mono fun e W' ⟨he, hg⟩ => ?_
  subst he
  exact ⟨_, rfl, _, _, _, [], _, [], hW', trodAll_mk1 (shut_bool Try.underlying4 _), (trodAll_cons_mk (shut_int Try.underlying3 w0) (trodAll_cons_mk (shut_int Try.underlying3 w1) (trodAll_cons_mk (shut_int Try.underlying3 w2) trodAll_mk0))), rfl, hg.frame _, fun h => by cases h⟩

theorem valueTruths_holds : Rows.ValueTruthsSaid :=
  OpenClaim.holds_of_wide 6 Try.f6 rfl rfl rfl rfl rfl rfl rfl ⟨rfl, rfl, rfl, rfl, rfl⟩ rfl rfl rfl rfl rfl (by kernel_rfl) Try.func6 (by kernel_rfl)
    (of_decide_eq_true (by kernel_rfl)) (by unfold Func.isWrapper; first | (rw [if_pos (by decide +kernel)]; kernel_rfl) | (rw [if_neg (by decide +kernel)]; exact ⟨rfl, rfl⟩))
    (fun os started H enc _ => valueTruths_lifted os started H enc)

#print axioms valueTruths_holds
end Go.Proofs.Ytgemcbnaamcfcaa
