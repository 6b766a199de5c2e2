/-
  Rows of cells and lists of texts, as they lie in memory. Nothing of the program.
-/
import Derived.Test.YtaiflkmlpjnmmaaDoorMem
import Derived.Laws.AppendOwn
namespace Go.Proofs.YtaiflkmlpjnmmaaDoor
open Go.RowKit

/-- The slice sv has n elements of 'size' cells; its cells are cs. -/
def IsRow (size : Nat) (w : World) (sv : Value) (n : Nat) (cs : List Value) : Prop :=
  cs.length = n * size ∧
  ((n = 0 ∧ ∃ ao cap, sv = .slice ao 0 cap ∧ (ao = none → cap = 0)) ∨
   (0 < n ∧ ∃ b off cap, sv = .slice (some ⟨b, off, none⟩) n cap ∧ b < w.heap.size ∧ n ≤ cap ∧ cap ≤ maxLen ∧ ∀ j u, cs[j]? = some u → w.cell? ⟨b, off + j, none⟩ = some u))

theorem IsRow.keep {size : Nat} {w w' : World} {B : Nat} {sv : Value} {n : Nat} {cs : List Value} (h : IsRow size w sv n cs) (hb : Below B w w') (hB : w.heap.size ≤ B) : IsRow size w' sv n cs := by
  obtain ⟨h1, h2⟩ := h
  refine ⟨h1, ?_⟩
  rcases h2 with h2 | ⟨h0, b, off, cap, rfl, hlt, hc, hm, hcell⟩
  · exact .inl h2
  · exact .inr ⟨h0, b, off, cap, rfl, Nat.lt_of_lt_of_le hlt (hb.size), hc, hm, fun j u hj => by rw [hb.cell (p := ⟨b, off + j, none⟩) (Nat.lt_of_lt_of_le hlt hB)]; exact hcell j u hj⟩

theorem IsRow.below {size : Nat} {w w' : World} {sv : Value} {n : Nat} {cs : List Value} (h : IsRow size w sv n cs) (hb : Below w.heap.size w w') : IsRow size w' sv n cs := h.keep hb (Nat.le_refl _)

theorem IsRow.shape {size : Nat} {w : World} {sv : Value} {n : Nat} {cs : List Value} (h : IsRow size w sv n cs) : ∃ ao cap, sv = .slice ao n cap := by
  rcases h.2 with ⟨rfl, ao, cap, rfl, _⟩ | ⟨_, b, off, cap, rfl, _⟩
  · exact ⟨ao, cap, rfl⟩
  · exact ⟨_, cap, rfl⟩

theorem IsRow.nil (size : Nat) (w : World) : IsRow size w (.slice none 0 0) 0 [] := ⟨by simp, .inl ⟨rfl, none, 0, rfl, fun _ => rfl⟩⟩

theorem IsRow.of_own {size : Nat} {w : World} {base : Nat} {e : TypeId} {v : Value} {n : Nat} {cs : List Value} (h : w.ownsRow base e size v n cs) : IsRow size w v n cs := by
  refine ⟨h.1, ?_⟩
  rcases h.2 with ⟨rfl, rfl⟩ | ⟨g, cap, cur, rfl, hg, hh, hn, hm, _⟩
  · exact .inl ⟨rfl, none, 0, rfl, fun _ => rfl⟩
  · rcases Nat.eq_zero_or_pos n with rfl | h0
    · exact .inl ⟨rfl, _, cap, rfl, fun h => by cases h⟩
    · refine .inr ⟨h0, g, 0, cap, rfl, lt_of_block hh, hn, hm, fun j u hj => ?_⟩
      have := h.cells (g := g) rfl j u hj
      rwa [Addr.add_lit] at this

/-- A list of texts. -/
def IsStrs (w : World) (sv : Value) (L : List ByteArray) : Prop := IsRow 1 w sv L.length (L.map .string)

theorem IsStrs.below {w w' : World} {sv : Value} {L : List ByteArray} (h : IsStrs w sv L) (hb : Below w.heap.size w w') : IsStrs w' sv L := IsRow.below h hb
theorem IsStrs.keep {w w' : World} {B : Nat} {sv : Value} {L : List ByteArray} (h : IsStrs w sv L) (hb : Below B w w') (hB : w.heap.size ≤ B) : IsStrs w' sv L := IsRow.keep h hb hB

theorem IsStrs.at {w : World} {sv : Value} {L : List ByteArray} (h : IsStrs w sv L) (h0 : 0 < L.length) : ∃ b off cap, sv = .slice (some ⟨b, off, none⟩) L.length cap ∧ b < w.heap.size ∧ L.length ≤ cap ∧ cap ≤ maxLen ∧ ∀ i s, L[i]? = some s → w.cell? ⟨b, off + i, none⟩ = some (.string s) := by
  rcases h.2 with ⟨h1, _⟩ | ⟨_, b, off, cap, rfl, hb, hc, hm, hcell⟩
  · omega
  · exact ⟨b, off, cap, rfl, hb, hc, hm, fun i s hi => hcell i _ (by rw [List.getElem?_map, hi]; rfl)⟩

end Go.Proofs.YtaiflkmlpjnmmaaDoor
