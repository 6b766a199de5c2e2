/-
  Contract of the statements' own 'values' (it asks whether package value answers at all): true. Nothing that was there turns.
-/
import Derived.Test.YtgemcbnaamcfcaaDoorTruth
import Derived.Test.YtgemcbnaamcfcaaDoorAnswers
import Derived.WalkKit
import Derived.WalkSpells
import Derived.WalkLawsBesides
namespace Go.Proofs.YtgemcbnaamcfcaaDoor
open Go.RowKit

set_option maxHeartbeats 400000 in
theorem answersLaw_any (w : World) : Calls Tryd.prog 14 #[] w fun e w' => e = .returned (.bool true) ∧ Below w.heap.size w w' := by
  have hbk := block_alloc_at w (.cells #[.int .i64 1, .int .i64 1, .string ⟨#[]⟩, .int .i64 0, .int .i64 0, .string ⟨#[]⟩] 23)
  go_enter Tryd.func14, Tryd.ntmps14
  go_wp2_with (first | (go_at_call 20; go_must (refine (key_two _ _ hbk).mono ?_; rintro e w1 ⟨rfl, hb1⟩)) | (go_at_call 21; go_must (refine (values_two _).mono ?_; rintro e w2 ⟨a, c, rfl, hb2⟩)) | (go_at_call 6; go_must (refine (and_any _ _ _).mono ?_; rintro e w3 ⟨rfl, rfl⟩)))
  go_ret
  refine ⟨ret_bool (by decide), ?_⟩
  exact (((Below.refl _ _).alloc (Nat.le_refl _) _).trans (hb1.mono (by simp))).trans (hb2.mono (by have := hb1.size; simp at this; omega))

end Go.Proofs.YtgemcbnaamcfcaaDoor
