/-
  A list of values that came in, as the program has it; Key of it.
-/
import Derived.Test.YtgemcbnaamcfcaaKey
namespace Go.Proofs.Ytgemcbnaamcfcaa
open Go.RowKit

/-- The slice v has the values L. -/
def IsVals (w : World) (v : Value) (L : List V) : Prop :=
  ((∃ ao cap, v = .slice ao 0 cap) ∧ L = []) ∨ ∃ b off cap, v = .slice (some ⟨b, off, none⟩) L.length cap ∧ b < w.heap.size ∧ HoldsV w b off L

theorem IsVals.below {w w' : World} {v : Value} {L : List V} (h : IsVals w v L) (hb : Below w.heap.size w w') : IsVals w' v L := by
  rcases h with h | ⟨b, off, cap, h1, h2, h3⟩
  · exact .inl h
  · exact .inr ⟨b, off, cap, h1, Nat.lt_of_lt_of_le h2 hb.size, h3.below hb h2⟩

theorem IsVals.shape {w : World} {v : Value} {L : List V} (h : IsVals w v L) : ∃ ao cap, v = .slice ao L.length cap := by
  rcases h with ⟨⟨ao, cap, rfl⟩, rfl⟩ | ⟨b, off, cap, rfl, _, _⟩
  · exact ⟨ao, cap, rfl⟩
  · exact ⟨_, cap, rfl⟩

theorem key_any (L : List V) (v : Value) (w : World) (hv : IsVals w v L) (hlen : L.length * 32 ≤ 140737488351232) (hss : ∀ v ∈ L, v.s.size ≤ maxLen) :
    Calls Try.prog 7 #[v] w fun e w' => e = .returned (.tuple #[.string (str (keyAns L).1), .int .i64 (keyAns L).2]) ∧ Below w.heap.size w w' := by
  rcases hv with ⟨⟨ao, cap, rfl⟩, rfl⟩ | ⟨b, off, cap, rfl, hb, hL⟩
  · exact key_none ao cap w
  · exact key_some L b off cap w hL hb hlen hss

end Go.Proofs.Ytgemcbnaamcfcaa
