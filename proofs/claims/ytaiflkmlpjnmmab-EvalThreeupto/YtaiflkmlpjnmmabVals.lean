/-
  A list of values, as it lies in memory. Nothing of the program.
-/
import Derived.Test.YtaiflkmlpjnmmabPlain
import Derived.Test.YtaiflkmlpjnmmabMem
namespace Go.Proofs.Ytaiflkmlpjnmmab
open Go.RowKit

/-- The slice v has the values L. -/
def IsVals (w : World) (v : Value) (L : List V) : Prop :=
  ((∃ ao cap, v = .slice ao 0 cap ∧ (ao = none → cap = 0)) ∧ L = []) ∨ ∃ b off cap, v = .slice (some ⟨b, off, none⟩) L.length cap ∧ b < w.heap.size ∧ HoldsV w b off L

theorem IsVals.below {w w' : World} {v : Value} {L : List V} (h : IsVals w v L) (hb : Below w.heap.size w w') : IsVals w' v L := by
  rcases h with h | ⟨b, off, cap, h1, h2, h3⟩
  · exact .inl h
  · exact .inr ⟨b, off, cap, h1, Nat.lt_of_lt_of_le h2 hb.size, h3.below hb h2⟩

theorem IsVals.shape {w : World} {v : Value} {L : List V} (h : IsVals w v L) : ∃ ao cap, v = .slice ao L.length cap := by
  rcases h with ⟨⟨ao, cap, rfl, _⟩, rfl⟩ | ⟨b, off, cap, rfl, _, _⟩
  · exact ⟨ao, cap, rfl⟩
  · exact ⟨_, cap, rfl⟩

end Go.Proofs.Ytaiflkmlpjnmmab
