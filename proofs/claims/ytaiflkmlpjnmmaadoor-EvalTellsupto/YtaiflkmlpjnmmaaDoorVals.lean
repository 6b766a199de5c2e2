/-
  A list of values, as it lies in memory. Nothing of the program.
-/
import Derived.Test.YtaiflkmlpjnmmaaDoorPlain
import Derived.Test.YtaiflkmlpjnmmaaDoorMem
import Derived.Test.YtaiflkmlpjnmmaaDoorRows
import Derived.Laws.AppendOwn
namespace Go.Proofs.YtaiflkmlpjnmmaaDoor
open Go.RowKit

/-- The slice v has the values L. -/
def IsVals (w : World) (v : Value) (L : List V) : Prop :=
  ((∃ ao cap, v = .slice ao 0 cap ∧ (ao = none → cap = 0)) ∧ L = []) ∨ ∃ b off cap, v = .slice (some ⟨b, off, none⟩) L.length cap ∧ b < w.heap.size ∧ HoldsV w b off L

theorem IsVals.below {w w' : World} {v : Value} {L : List V} (h : IsVals w v L) (hb : Below w.heap.size w w') : IsVals w' v L := by
  rcases h with h | ⟨b, off, cap, h1, h2, h3⟩
  · exact .inl h
  · exact .inr ⟨b, off, cap, h1, Nat.lt_of_lt_of_le h2 hb.size, h3.below hb h2⟩

theorem IsVals.shape {w : World} {v : Value} {L : List V} (h : IsVals w v L) : ∃ ao cap, v = .slice ao L.length cap := by
  rcases h with ⟨⟨ao, cap, rfl, _⟩, rfl⟩ | ⟨b, off, cap, rfl, _, _⟩
  · exact ⟨ao, cap, rfl⟩
  · exact ⟨_, cap, rfl⟩

/-- Values as cells. -/
def vcells (L : List V) : List Value := L.flatMap V.cells
theorem vcells_snoc (L : List V) (v : V) : vcells (L ++ [v]) = vcells L ++ v.cells := by simp [vcells]
theorem vcells_at : ∀ (L : List V) (i : Nat) (v : V), L[i]? = some v → (vcells L)[i * 3]? = some (.int .i64 v.k) ∧ (vcells L)[i * 3 + 1]? = some (.int .i64 v.n) ∧ (vcells L)[i * 3 + 2]? = some (.string v.s)
  | x :: L, 0, v, h => by
    simp at h; subst h
    simp [vcells, V.cells]
  | x :: L, i + 1, v, h => by
    have := vcells_at L i v (by simpa using h)
    have e : vcells (x :: L) = .int .i64 x.k :: .int .i64 x.n :: .string x.s :: vcells L := by simp [vcells, V.cells]
    rw [e, show (i + 1) * 3 = i * 3 + 1 + 1 + 1 from by omega]
    exact this

/-- What Values has made is a list of values. -/
theorem IsVals.of_own {w : World} {base : Nat} {lv : Value} {L : List V} (h : w.ownsRow base 23 3 lv L.length (vcells L)) : IsVals w lv L := by
  rcases h.2 with ⟨rfl, h0⟩ | ⟨g, cap, cur, rfl, _, hg, _⟩
  · exact .inl ⟨⟨none, 0, rfl, fun _ => rfl⟩, List.eq_nil_of_length_eq_zero h0⟩
  · refine .inr ⟨g, 0, cap, rfl, lt_of_block hg, fun i v hi => ?_⟩
    obtain ⟨h0, h1, h2⟩ := vcells_at L i v hi
    have c0 := h.cells (g := g) rfl _ _ h0
    have c1 := h.cells (g := g) rfl _ _ h1
    have c2 := h.cells (g := g) rfl _ _ h2
    rw [Addr.add_lit] at c0 c1 c2
    exact ⟨c0, by rw [Nat.add_assoc]; exact c1, by rw [Nat.add_assoc]; exact c2⟩

theorem HoldsV.cells {w : World} {b off : Nat} : ∀ {L : List V}, HoldsV w b off L → ∀ j u, (vcells L)[j]? = some u → w.cell? ((⟨b, off, none⟩ : Addr).add j) = some u := by
  intro L h j u hj
  have hl : (vcells L).length = L.length * 3 := by
    clear h hj
    induction L with
    | nil => rfl
    | cons x L ih => simp [vcells, V.cells] at ih ⊢; omega
  have hjl := (List.getElem?_eq_some_iff.1 hj).1
  obtain ⟨v, hv⟩ : ∃ v, L[j / 3]? = some v := ⟨_, List.getElem?_eq_getElem (by omega)⟩
  obtain ⟨a0, a1, a2⟩ := vcells_at L _ _ hv
  obtain ⟨c0, c1, c2⟩ := h _ _ hv
  rw [Addr.add_lit]
  rcases (show j = j / 3 * 3 ∨ j = j / 3 * 3 + 1 ∨ j = j / 3 * 3 + 2 from by omega) with e | e | e
  · rw [e] at hj ⊢
    rw [a0] at hj; simp at hj; subst hj; exact c0
  · rw [e] at hj ⊢
    rw [a1] at hj; simp at hj; subst hj; rw [← Nat.add_assoc]; exact c1
  · rw [e] at hj ⊢
    rw [a2] at hj; simp at hj; subst hj; rw [← Nat.add_assoc]; exact c2
theorem vcells_length (L : List V) : (vcells L).length = L.length * 3 := by
  induction L with
  | nil => rfl
  | cons x L ih => simp [vcells, V.cells] at ih ⊢; omega
theorem vcells_one (L : List V) : ∀ u ∈ vcells L, u.oneCell' = true := by
  intro u hu
  simp only [vcells, List.mem_flatMap] at hu
  obtain ⟨v, _, hu⟩ := hu
  simp [V.cells] at hu
  rcases hu with rfl | rfl | rfl <;> rfl

end Go.Proofs.YtaiflkmlpjnmmaaDoor
