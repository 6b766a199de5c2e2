/-
  Key and Values at the one list that the statements' own 'values' asks of.
-/
import Derived.Test.YtgemcbnaamcfcaaDoorPlain
import Derived.Test.YtgemcbnaamcfcaaDoorMem
import Derived.Test.YtgemcbnaamcfcaaDoorKey
import Derived.Test.YtgemcbnaamcfcaaDoorValues
import Derived.Test.YtgemcbnaamcfcaaDoorRows
import Derived.WalkKit
import Derived.WalkSpells
import Derived.WalkLawsBesides
namespace Go.Proofs.YtgemcbnaamcfcaaDoor
open Go.RowKit

def two : List V := [⟨1, 1, ⟨#[]⟩⟩, ⟨0, 0, ⟨#[]⟩⟩]
theorem two_key : keyAns two = ([2, 64, 0, 0, 1, 1], 0) := by decide
theorem two_vals : vals [2, 64, 0, 0, 1, 1] = some two := by kernel_rfl

theorem key_two (b : Nat) (w : World) (hb : w.heap[b]? = some (.cells #[.int .i64 1, .int .i64 1, .string ⟨#[]⟩, .int .i64 0, .int .i64 0, .string ⟨#[]⟩] 23 (0, 0))) :
    Calls Tryd.prog 20 #[.slice (some ⟨b, 0, none⟩) 2 2] w fun e w' => e = .returned (.tuple #[.string ⟨#[2, 64, 0, 0, 1, 1]⟩, .int .i64 0]) ∧ Below w.heap.size w w' := by
  have := key_some two b 0 2 w ?_ (lt_of_block hb) (by decide) (by decide)
  · rw [two_key] at this; exact this
  · intro i v hi
    match i, hi with
    | 0, hi => simp [two] at hi; subst hi; exact ⟨cell_of_block hb rfl, cell_of_block hb rfl, cell_of_block hb rfl⟩
    | 1, hi => simp [two] at hi; subst hi; exact ⟨cell_of_block hb rfl, cell_of_block hb rfl, cell_of_block hb rfl⟩
    | i + 2, hi => simp [two] at hi

theorem values_two (w : World) :
    Calls Tryd.prog 21 #[.string ⟨#[2, 64, 0, 0, 1, 1]⟩] w fun e w' => ∃ a c, e = .returned (.tuple #[.slice a 2 c, .int .i64 0]) ∧ Below w.heap.size w w' := by
  refine (values_any ⟨#[2, 64, 0, 0, 1, 1]⟩ w (by decide)).mono ?_
  rintro e w' ⟨h, hb⟩
  unfold ValuesSays at h
  rw [show vals (⟨#[2, 64, 0, 0, 1, 1]⟩ : ByteArray).data.toList = some two from two_vals] at h
  obtain ⟨lv, rfl, h⟩ := h
  rcases h.2 with ⟨_, h0⟩ | ⟨g, cap, cur, rfl, _⟩
  · simp [two] at h0
  · exact ⟨_, _, rfl, hb⟩
end Go.Proofs.YtgemcbnaamcfcaaDoor
