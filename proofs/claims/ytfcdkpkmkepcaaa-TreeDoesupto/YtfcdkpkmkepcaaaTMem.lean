/-
  Rows of cells, lists of texts, pages and trees, as they lie in memory. Nothing of the program but its types' numbers.
-/
import Derived.Test.YtfcdkpkmkepcaaaMem
import Derived.Test.YtfcdkpkmkepcaaaTMath
import Derived.Laws.AppendOwn
namespace Go.Proofs.Ytfcdkpkmkepcaaa
open Go.RowKit

/-- The slice sv has n elements of 'size' cells; its cells are cs. -/
def IsRow (size : Nat) (w : World) (sv : Value) (n : Nat) (cs : List Value) : Prop :=
  cs.length = n * size ∧
  ((n = 0 ∧ ∃ ao cap, sv = .slice ao 0 cap ∧ (ao = none → cap = 0)) ∨
   (0 < n ∧ ∃ b off cap, sv = .slice (some ⟨b, off, none⟩) n cap ∧ b < w.heap.size ∧ n ≤ cap ∧ cap ≤ maxLen ∧ ∀ j u, cs[j]? = some u → w.cell? ⟨b, off + j, none⟩ = some u))

theorem IsRow.keep {size : Nat} {w w' : World} {B : Nat} {sv : Value} {n : Nat} {cs : List Value} (h : IsRow size w sv n cs) (hb : Below B w w') (hB : w.heap.size ≤ B) : IsRow size w' sv n cs := by
  obtain ⟨h1, h2⟩ := h
  refine ⟨h1, ?_⟩
  rcases h2 with h2 | ⟨h0, b, off, cap, rfl, hlt, hc, hm, hcell⟩
  · exact .inl h2
  · exact .inr ⟨h0, b, off, cap, rfl, Nat.lt_of_lt_of_le hlt (hb.size), hc, hm, fun j u hj => by rw [hb.cell (p := ⟨b, off + j, none⟩) (Nat.lt_of_lt_of_le hlt hB)]; exact hcell j u hj⟩

theorem IsRow.below {size : Nat} {w w' : World} {sv : Value} {n : Nat} {cs : List Value} (h : IsRow size w sv n cs) (hb : Below w.heap.size w w') : IsRow size w' sv n cs := h.keep hb (Nat.le_refl _)

theorem IsRow.shape {size : Nat} {w : World} {sv : Value} {n : Nat} {cs : List Value} (h : IsRow size w sv n cs) : ∃ ao cap, sv = .slice ao n cap := by
  rcases h.2 with ⟨rfl, ao, cap, rfl, _⟩ | ⟨_, b, off, cap, rfl, _⟩
  · exact ⟨ao, cap, rfl⟩
  · exact ⟨_, cap, rfl⟩

theorem IsRow.nil (size : Nat) (w : World) : IsRow size w (.slice none 0 0) 0 [] := ⟨by simp, .inl ⟨rfl, none, 0, rfl, fun _ => rfl⟩⟩

theorem IsRow.of_own {size : Nat} {w : World} {base : Nat} {e : TypeId} {v : Value} {n : Nat} {cs : List Value} (h : w.ownsRow base e size v n cs) : IsRow size w v n cs := by
  refine ⟨h.1, ?_⟩
  rcases h.2 with ⟨rfl, rfl⟩ | ⟨g, cap, cur, rfl, hg, hh, hn, hm, _⟩
  · exact .inl ⟨rfl, none, 0, rfl, fun _ => rfl⟩
  · rcases Nat.eq_zero_or_pos n with rfl | h0
    · exact .inl ⟨rfl, _, cap, rfl, fun h => by cases h⟩
    · refine .inr ⟨h0, g, 0, cap, rfl, lt_of_block hh, hn, hm, fun j u hj => ?_⟩
      have := h.cells (g := g) rfl j u hj
      rwa [Addr.add_lit] at this

/-- A list of texts. -/
def IsStrs (w : World) (sv : Value) (L : List ByteArray) : Prop := IsRow 1 w sv L.length (L.map .string)

theorem IsStrs.below {w w' : World} {sv : Value} {L : List ByteArray} (h : IsStrs w sv L) (hb : Below w.heap.size w w') : IsStrs w' sv L := IsRow.below h hb
theorem IsStrs.keep {w w' : World} {B : Nat} {sv : Value} {L : List ByteArray} (h : IsStrs w sv L) (hb : Below B w w') (hB : w.heap.size ≤ B) : IsStrs w' sv L := IsRow.keep h hb hB

theorem IsStrs.at {w : World} {sv : Value} {L : List ByteArray} (h : IsStrs w sv L) (h0 : 0 < L.length) : ∃ b off cap, sv = .slice (some ⟨b, off, none⟩) L.length cap ∧ b < w.heap.size ∧ L.length ≤ cap ∧ cap ≤ maxLen ∧ ∀ i s, L[i]? = some s → w.cell? ⟨b, off + i, none⟩ = some (.string s) := by
  rcases h.2 with ⟨h1, _⟩ | ⟨_, b, off, cap, rfl, hb, hc, hm, hcell⟩
  · omega
  · exact ⟨b, off, cap, rfl, hb, hc, hm, fun i s hi => hcell i _ (by rw [List.getElem?_map, hi]; rfl)⟩

def pcells (rows : List (Value × Value)) : List Value := rows.flatMap fun r => [r.1, r.2]

theorem pcells_length : ∀ rows : List (Value × Value), (pcells rows).length = rows.length * 2
  | [] => rfl
  | r :: rows => by
    have := pcells_length rows
    simp only [pcells, List.flatMap_cons, List.length_append, List.length_cons, List.length_nil] at this ⊢
    omega
theorem pcells_append (a b : List (Value × Value)) : pcells (a ++ b) = pcells a ++ pcells b := by simp [pcells]

theorem pcells_at : ∀ (rows : List (Value × Value)) (i : Nat) (r : Value × Value), rows[i]? = some r → (pcells rows)[i * 2]? = some r.1 ∧ (pcells rows)[i * 2 + 1]? = some r.2
  | x :: rows, 0, r, h => by
    simp at h; subst h
    simp [pcells]
  | x :: rows, i + 1, r, h => by
    have := pcells_at rows i r (by simpa using h)
    have e : pcells (x :: rows) = x.1 :: x.2 :: pcells rows := by simp [pcells]
    rw [e, show (i + 1) * 2 = i * 2 + 1 + 1 from by omega]
    exact this

/-- Pages, each by its two slices. -/
def Pgs (w : World) : List (Value × Value) → List Pg → Prop
  | [], [] => True
  | r :: rs, p :: ps => IsStrs w r.1 p.K ∧ IsStrs w r.2 p.V ∧ Pgs w rs ps
  | _, _ => False

theorem Pgs.length {w : World} : ∀ {rs : List (Value × Value)} {T : List Pg}, Pgs w rs T → rs.length = T.length
  | [], [], _ => rfl
  | _ :: _, _ :: _, h => by rw [List.length_cons, List.length_cons, Pgs.length h.2.2]

theorem Pgs.keep {w w' : World} {B : Nat} (hb : Below B w w') (hB : w.heap.size ≤ B) : ∀ {rs : List (Value × Value)} {T : List Pg}, Pgs w rs T → Pgs w' rs T
  | [], [], _ => trivial
  | _ :: _, _ :: _, h => ⟨h.1.keep hb hB, h.2.1.keep hb hB, Pgs.keep hb hB h.2.2⟩

theorem Pgs.append {w : World} : ∀ {rs rs' : List (Value × Value)} {T T' : List Pg}, Pgs w rs T → Pgs w rs' T' → Pgs w (rs ++ rs') (T ++ T')
  | [], _, [], _, _, h => h
  | _ :: _, _, _ :: _, _, h, k => ⟨h.1, h.2.1, Pgs.append h.2.2 k⟩

theorem Pgs.part {w : World} : ∀ {rs : List (Value × Value)} {A B : List Pg}, Pgs w rs (A ++ B) → Pgs w (rs.take A.length) A ∧ Pgs w (rs.drop A.length) B
  | rs, [], B, h => ⟨by rw [List.length_nil, List.take_zero]; trivial, by simpa using h⟩
  | r :: rs, p :: A, B, h => by
    have := Pgs.part (A := A) h.2.2
    exact ⟨⟨h.1, h.2.1, this.1⟩, this.2⟩

theorem Pgs.at {w : World} : ∀ {rs : List (Value × Value)} {T : List Pg}, Pgs w rs T → ∀ {i : Nat} {p : Pg}, T[i]? = some p → ∃ r, rs[i]? = some r ∧ IsStrs w r.1 p.K ∧ IsStrs w r.2 p.V
  | [], [], _, i, p, hi => by simp at hi
  | r :: _, _ :: _, h, 0, p, hi => by simp at hi; subst hi; exact ⟨r, rfl, h.1, h.2.1⟩
  | _ :: _, _ :: _, h, i + 1, p, hi => by
    obtain ⟨r, h1, h2⟩ := Pgs.at h.2.2 (i := i) (by simpa using hi)
    exact ⟨r, by simpa using h1, h2⟩

/-- A slice of pages. -/
def IsPages (w : World) (sv : Value) (T : List Pg) : Prop := ∃ rows, IsRow 2 w sv T.length (pcells rows) ∧ Pgs w rows T
def IsTree (w : World) (tv : Value) (T : List Pg) : Prop := ∃ sv, tv = .agg #[sv] ∧ IsPages w sv T

theorem IsPages.keep {w w' : World} {B : Nat} {sv : Value} {T : List Pg} (h : IsPages w sv T) (hb : Below B w w') (hB : w.heap.size ≤ B) : IsPages w' sv T := by
  obtain ⟨rows, h1, h2⟩ := h
  exact ⟨rows, h1.keep hb hB, Pgs.keep hb hB h2⟩
theorem IsPages.below {w w' : World} {sv : Value} {T : List Pg} (h : IsPages w sv T) (hb : Below w.heap.size w w') : IsPages w' sv T := h.keep hb (Nat.le_refl _)
theorem IsTree.keep {w w' : World} {B : Nat} {tv : Value} {T : List Pg} (h : IsTree w tv T) (hb : Below B w w') (hB : w.heap.size ≤ B) : IsTree w' tv T := by
  obtain ⟨sv, rfl, h⟩ := h
  exact ⟨sv, rfl, h.keep hb hB⟩
theorem IsTree.below {w w' : World} {tv : Value} {T : List Pg} (h : IsTree w tv T) (hb : Below w.heap.size w w') : IsTree w' tv T := h.keep hb (Nat.le_refl _)

/-- The pages' cells. -/
def HoldsP (w : World) (b off : Nat) (T : List Pg) : Prop := ∀ i p, T[i]? = some p → ∃ kv vv, w.cell? ⟨b, off + i * 2, none⟩ = some kv ∧ w.cell? ⟨b, off + i * 2 + 1, none⟩ = some vv ∧ IsStrs w kv p.K ∧ IsStrs w vv p.V

theorem HoldsP.below {w w' : World} {b off : Nat} {T : List Pg} (h : HoldsP w b off T) (hb : Below w.heap.size w w') (hlt : b < w.heap.size) : HoldsP w' b off T := by
  intro i p hi
  obtain ⟨kv, vv, h1, h2, h3, h4⟩ := h i p hi
  exact ⟨kv, vv, by rw [hb.cell (p := ⟨b, off + i * 2, none⟩) hlt]; exact h1, by rw [hb.cell (p := ⟨b, off + i * 2 + 1, none⟩) hlt]; exact h2, h3.below hb, h4.below hb⟩

theorem IsPages.at {w : World} {sv : Value} {T : List Pg} (h : IsPages w sv T) (h0 : 0 < T.length) : ∃ b off cap, sv = .slice (some ⟨b, off, none⟩) T.length cap ∧ b < w.heap.size ∧ T.length ≤ cap ∧ cap ≤ maxLen ∧ HoldsP w b off T := by
  obtain ⟨rows, h1, h2⟩ := h
  rcases h1.2 with ⟨h3, _⟩ | ⟨_, b, off, cap, rfl, hb, hc, hm, hcell⟩
  · omega
  · refine ⟨b, off, cap, rfl, hb, hc, hm, fun i p hi => ?_⟩
    obtain ⟨r, hr, hk, hv⟩ := h2.at hi
    obtain ⟨c1, c2⟩ := pcells_at rows i r hr
    exact ⟨r.1, r.2, hcell _ _ c1, by rw [Nat.add_assoc]; exact hcell _ _ c2, hk, hv⟩

theorem IsPages.empty {w : World} {sv : Value} {T : List Pg} (h : IsPages w sv T) (h0 : T.length = 0) : ∃ ao cap, sv = .slice ao 0 cap ∧ (ao = none → cap = 0) := by
  obtain ⟨rows, h1, h2⟩ := h
  rcases h1.2 with ⟨_, ao, cap, rfl, hc⟩ | ⟨h3, _⟩
  · exact ⟨ao, cap, rfl, hc⟩
  · omega

theorem IsPages.nil (w : World) : IsPages w (.slice none 0 0) [] := ⟨[], IsRow.nil 2 w, trivial⟩

/-- A truth is told. -/
def SaysB (e : Ending) (p : Prop) : Prop := ∃ r, e = .returned (.bool r) ∧ (r = true ↔ p)
theorem says_true {p : Prop} (h : p) : SaysB (.returned (.bool true)) p := ⟨true, rfl, fun _ => h, fun _ => rfl⟩
theorem says_false {p : Prop} (h : ¬ p) : SaysB (.returned (.bool false)) p := ⟨false, rfl, fun x => (by cases x), fun x => absurd x h⟩

theorem SaysB.yes {e : Ending} {p : Prop} (h : SaysB e p) (k : p) : e = .returned (.bool true) := by
  obtain ⟨r, rfl, hr⟩ := h
  rw [hr.2 k]
theorem SaysB.no {e : Ending} {p : Prop} (h : SaysB e p) (k : ¬ p) : e = .returned (.bool false) := by
  obtain ⟨r, rfl, hr⟩ := h
  cases r with
  | false => rfl
  | true => exact absurd (hr.1 rfl) k

theorem hid {p : Prop} (h : p) : Hid p := h

theorem below_drew {B : Nat} {w w' : World} (h : Below B w w') : Below B w w'.drew := h.drew

end Go.Proofs.Ytfcdkpkmkepcaaa
