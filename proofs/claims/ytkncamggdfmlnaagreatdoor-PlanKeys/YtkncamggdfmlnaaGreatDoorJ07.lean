/-
  6 texts of this proof in one, in build order: XMem, StmPlain, Elems, YIndex, YMap, NPlain.
-/
import Derived.Test.YtkncamggdfmlnaaGreatDoorRows
import Derived.Maps.AppendAt
import Derived.OwnWalk
import Derived.Laws.Rows
import Derived.Laws.Tables
import Derived.WalkKit
import Derived.WalkSpells
import Derived.WalkLawsBesides
import Derived.Maps.Own
import Derived.Maps.OwnOps
import Derived.Maps.Views
import Derived.StringKeys
import Derived.Test.YtkncamggdfmlnaaGreatDoorJ01
import Derived.Test.YtkncamggdfmlnaaGreatDoorJ06
namespace Go.Proofs.YtkncamggdfmlnaaGreatDoor
open Go.RowKit

/-- What lies in certain blocks stays. -/
structure Keeps (F : Nat → Prop) (w w' : World) : Prop where
  size : w.heap.size ≤ w'.heap.size
  block : ∀ k, F k → k < w.heap.size → w'.heap[k]? = w.heap[k]?
theorem Keeps.refl (F : Nat → Prop) (w : World) : Keeps F w w := ⟨Nat.le_refl _, fun _ _ _ => rfl⟩
theorem Keeps.trans {F : Nat → Prop} {u v w : World} (h : Keeps F u v) (k : Keeps F v w) : Keeps F u w :=
  ⟨Nat.le_trans h.size k.size, fun i h1 h2 => (k.block i h1 (Nat.lt_of_lt_of_le h2 h.size)).trans (h.block i h1 h2)⟩
theorem keepsB {F : Nat → Prop} {w w' : World} (h : Below w.heap.size w w') : Keeps F w w' := ⟨h.size, fun k _ hk => h.block k hk⟩
theorem Keeps.set {F : Nat → Prop} {w w' : World} (h : Keeps F w w') {b : Nat} (hb : ¬ F b) (o : Nat) (u : Value) : Keeps F w (w'.setCell ⟨b, o, none⟩ u) :=
  ⟨by simp [World.setCell]; exact h.size, fun k hk hl => (Below.heap_setCell w' ⟨b, o, none⟩ u k (show k ≠ b by rintro rfl; exact hb hk)).trans (h.block k hk hl)⟩
theorem Keeps.alloc {F : Nat → Prop} {w w' : World} (h : Keeps F w w') (o : Obj) : Keeps F w (w'.alloc o) := h.trans (keepsB ((Below.refl _ _).alloc (Nat.le_refl _) o))
theorem Keeps.drew {F : Nat → Prop} {w w' : World} (h : Keeps F w w') : Keeps F w w'.drew := ⟨h.size, h.block⟩
theorem Keeps.below {F : Nat → Prop} {w v v' : World} (h : Keeps F w v) (hb : Below v.heap.size v v') : Keeps F w v' := h.trans (keepsB hb)
theorem Keeps.mono {F F' : Nat → Prop} {w w' : World} (h : Keeps F w w') (hF : ∀ k, F' k → F k) : Keeps F' w w' := ⟨h.size, fun k hk => h.block k (hF k hk)⟩
/-- Blocks from one on. -/
abbrev Fr (n : Nat) : Nat → Prop := fun k => n ≤ k

/-- As IsRow, in certain blocks. -/
def IsRowB (F : Nat → Prop) (size : Nat) (w : World) (sv : Value) (n : Nat) (cs : List Value) : Prop :=
  cs.length = n * size ∧
  ((n = 0 ∧ ∃ ao cap, sv = .slice ao 0 cap ∧ (ao = none → cap = 0)) ∨
   (0 < n ∧ ∃ b off cap, sv = .slice (some ⟨b, off, none⟩) n cap ∧ F b ∧ b < w.heap.size ∧ n ≤ cap ∧ cap ≤ maxLen ∧ ∀ j u, cs[j]? = some u → w.cell? ⟨b, off + j, none⟩ = some u))
theorem IsRowB.keep {F : Nat → Prop} {size : Nat} {w w' : World} {sv : Value} {n : Nat} {cs : List Value} (h : IsRowB F size w sv n cs) (hk : Keeps F w w') : IsRowB F size w' sv n cs := by
  obtain ⟨h1, h2⟩ := h
  refine ⟨h1, ?_⟩
  rcases h2 with h2 | ⟨h0, b, off, cap, rfl, hB, hlt, hc, hm, hcell⟩
  · exact .inl h2
  · refine .inr ⟨h0, b, off, cap, rfl, hB, Nat.lt_of_lt_of_le hlt hk.size, hc, hm, fun j u hj => ?_⟩
    rw [World.cell?_of_block (w := w) (hk.block b hB hlt)]
    exact hcell j u hj
theorem IsRowB.mono {F F' : Nat → Prop} {size : Nat} {w : World} {sv : Value} {n : Nat} {cs : List Value} (h : IsRowB F size w sv n cs) (hB : ∀ k, k < w.heap.size → F k → F' k) : IsRowB F' size w sv n cs := by
  obtain ⟨h1, h2⟩ := h
  refine ⟨h1, ?_⟩
  rcases h2 with h2 | ⟨h0, b, off, cap, h3, h4, h5⟩
  · exact .inl h2
  · exact .inr ⟨h0, b, off, cap, h3, hB _ h5.1 h4, h5⟩
theorem IsRowB.row {F : Nat → Prop} {size : Nat} {w : World} {sv : Value} {n : Nat} {cs : List Value} (h : IsRowB F size w sv n cs) : IsRow size w sv n cs := by
  obtain ⟨h1, h2⟩ := h
  refine ⟨h1, ?_⟩
  rcases h2 with h2 | ⟨h0, b, off, cap, h3, _, h5⟩
  · exact .inl h2
  · exact .inr ⟨h0, b, off, cap, h3, h5⟩
theorem IsRowB.shape {F : Nat → Prop} {size : Nat} {w : World} {sv : Value} {n : Nat} {cs : List Value} (h : IsRowB F size w sv n cs) : ∃ ao cap, sv = .slice ao n cap := h.row.shape
theorem IsRowB.nil (F : Nat → Prop) (size : Nat) (w : World) : IsRowB F size w (.slice none 0 0) 0 [] := ⟨by simp, .inl ⟨rfl, none, 0, rfl, fun _ => rfl⟩⟩
theorem IsRowB.of_own {F : Nat → Prop} {size : Nat} {w : World} {base : Nat} {e : TypeId} {v : Value} {n : Nat} {cs : List Value} (h : w.ownsRow base e size v n cs) (hB : ∀ k, base ≤ k → F k) : IsRowB F size w v n cs := by
  refine ⟨h.1, ?_⟩
  rcases h.2 with ⟨rfl, rfl⟩ | ⟨g, cap, cur, rfl, hg, hh, hn, hm, _⟩
  · exact .inl ⟨rfl, none, 0, rfl, fun _ => rfl⟩
  · rcases Nat.eq_zero_or_pos n with rfl | h0
    · exact .inl ⟨rfl, _, cap, rfl, fun h => by cases h⟩
    · refine .inr ⟨h0, g, 0, cap, rfl, hB g hg, lt_of_block hh, hn, hm, fun j u hj => ?_⟩
      have := h.cells (g := g) rfl j u hj
      rwa [Addr.add_lit] at this
/-- A new block's cells. -/
theorem IsRowB.new {F : Nat → Prop} {size n : Nat} {w : World} (l : List Value) (t : TypeId) (hl : l.length = n * size) (hB : F w.heap.size) (hn : 0 < n) (hm : n ≤ maxLen) : IsRowB F size (w.alloc (.cells l.toArray t)) (.slice (some ⟨w.heap.size, 0, none⟩) n n) n l :=
  ⟨hl, .inr ⟨hn, w.heap.size, 0, n, rfl, hB, by simp, Nat.le_refl _, hm, fun j u hj => by
    have := cells_new w l t j u hj
    rwa [Addr.add_lit] at this⟩⟩

/-- An expression's eight cells. -/
abbrev eArr (op : Int) (x : V) (s name : Wd) (n : Int) (sv : Value) : Array Value := #[.int .i64 op, .int .i64 x.k, .int .i64 x.n, .string x.s, .string s, .string name, .int .i64 n, sv]
mutual
/-- An expression in memory. -/
def IsE (F : Nat → Prop) (w : World) : E → Value → Prop
  | .mk op x s name n l, v => ∃ sv cs, v = .agg (eArr op x s name n sv) ∧ IsRowB F 8 w sv l.length cs ∧ AllE F w l cs
def AllE (F : Nat → Prop) (w : World) : List E → List Value → Prop
  | [], cs => cs = []
  | e :: l, cs => ∃ c rest, cs = c ++ rest ∧ c.length = 8 ∧ IsE F w e (.agg c.toArray) ∧ AllE F w l rest
end
mutual
theorem IsE.keep {F : Nat → Prop} {w w' : World} (hk : Keeps F w w') : ∀ (e : E) (v : Value), IsE F w e v → IsE F w' e v
  | .mk op x s name n l, v, h => by
    rw [IsE] at h ⊢
    obtain ⟨sv, cs, h1, h2, h3⟩ := h
    exact ⟨sv, cs, h1, h2.keep hk, AllE.keep hk l cs h3⟩
theorem AllE.keep {F : Nat → Prop} {w w' : World} (hk : Keeps F w w') : ∀ (l : List E) (cs : List Value), AllE F w l cs → AllE F w' l cs
  | [], cs, h => by rw [AllE] at h ⊢; exact h
  | e :: l, cs, h => by
    rw [AllE] at h ⊢
    obtain ⟨c, rest, h1, h2, h3, h4⟩ := h
    exact ⟨c, rest, h1, h2, IsE.keep hk e _ h3, AllE.keep hk l rest h4⟩
end
mutual
theorem IsE.mono {F F' : Nat → Prop} {w : World} (hk : ∀ k, k < w.heap.size → F k → F' k) : ∀ (e : E) (v : Value), IsE F w e v → IsE F' w e v
  | .mk op x s name n l, v, h => by
    rw [IsE] at h ⊢
    obtain ⟨sv, cs, h1, h2, h3⟩ := h
    exact ⟨sv, cs, h1, h2.mono hk, AllE.mono hk l cs h3⟩
theorem AllE.mono {F F' : Nat → Prop} {w : World} (hk : ∀ k, k < w.heap.size → F k → F' k) : ∀ (l : List E) (cs : List Value), AllE F w l cs → AllE F' w l cs
  | [], cs, h => by rw [AllE] at h ⊢; exact h
  | e :: l, cs, h => by
    rw [AllE] at h ⊢
    obtain ⟨c, rest, h1, h2, h3, h4⟩ := h
    exact ⟨c, rest, h1, h2, IsE.mono hk e _ h3, AllE.mono hk l rest h4⟩
end
/-- A list of expressions. -/
def IsEs (F : Nat → Prop) (w : World) (sv : Value) (l : List E) : Prop := ∃ cs, IsRowB F 8 w sv l.length cs ∧ AllE F w l cs
theorem IsEs.keep {F : Nat → Prop} {w w' : World} {sv : Value} {l : List E} (h : IsEs F w sv l) (hk : Keeps F w w') : IsEs F w' sv l := by
  obtain ⟨cs, h1, h2⟩ := h
  exact ⟨cs, h1.keep hk, AllE.keep hk l cs h2⟩
theorem IsEs.mono {F F' : Nat → Prop} {w : World} {sv : Value} {l : List E} (h : IsEs F w sv l) (hk : ∀ k, k < w.heap.size → F k → F' k) : IsEs F' w sv l := by
  obtain ⟨cs, h1, h2⟩ := h
  exact ⟨cs, h1.mono hk, AllE.mono hk l cs h2⟩
theorem IsEs.nil (F : Nat → Prop) (w : World) : IsEs F w (.slice none 0 0) [] := ⟨[], IsRowB.nil F 8 w, by rw [AllE]⟩
theorem IsEs.shape {F : Nat → Prop} {w : World} {sv : Value} {l : List E} (h : IsEs F w sv l) : ∃ ao cap, sv = .slice ao l.length cap := by
  obtain ⟨cs, h1, _⟩ := h; exact h1.shape
theorem isE_mk {F : Nat → Prop} {w : World} {op : Int} {x : V} {s name : Wd} {n : Int} {l : List E} {sv : Value} (h : IsEs F w sv l) : IsE F w (.mk op x s name n l) (.agg (eArr op x s name n sv)) := by
  obtain ⟨cs, h1, h2⟩ := h
  rw [IsE]
  exact ⟨sv, cs, rfl, h1, h2⟩
theorem IsE.open {F : Nat → Prop} {w : World} {op : Int} {x : V} {s name : Wd} {n : Int} {l : List E} {v : Value} (h : IsE F w (.mk op x s name n l) v) : ∃ sv, v = .agg (eArr op x s name n sv) ∧ IsEs F w sv l := by
  rw [IsE] at h
  obtain ⟨sv, cs, h1, h2, h3⟩ := h
  exact ⟨sv, h1, cs, h2, h3⟩
theorem isE_nil (F : Nat → Prop) (w : World) : IsE F w E.nil (.agg (eArr 0 zero noW noW 0 (.slice none 0 0))) := isE_mk (IsEs.nil F w)
theorem isE_lit (F : Nat → Prop) (w : World) (v : V) : IsE F w (litE v) (.agg (eArr 1 v noW noW 0 (.slice none 0 0))) := isE_mk (IsEs.nil F w)
theorem isE_ref (F : Nat → Prop) (w : World) (s name : Wd) : IsE F w (refE s name) (.agg (eArr 2 zero s name 0 (.slice none 0 0))) := isE_mk (IsEs.nil F w)
/-- An expression's value, written out. -/
theorem IsE.shape {F : Nat → Prop} {w : World} {e : E} {v : Value} (h : IsE F w e v) : ∃ op x s name n ao k c, v = .agg (eArr op x s name n (.slice ao k c)) := by
  cases e with
  | mk op x s name n l =>
    obtain ⟨sv, h1, h2⟩ := h.open
    obtain ⟨ao, c, rfl⟩ := h2.shape
    exact ⟨op, x, s, name, n, ao, _, c, h1⟩
theorem allE_append {F : Nat → Prop} {w : World} : ∀ {l m : List E} {cs ds : List Value}, AllE F w l cs → AllE F w m ds → AllE F w (l ++ m) (cs ++ ds)
  | [], m, cs, ds, h, k => by rw [AllE] at h; subst h; exact k
  | e :: l, m, cs, ds, h, k => by
    rw [AllE] at h
    obtain ⟨c, rest, rfl, h2, h3, h4⟩ := h
    rw [List.cons_append, AllE]
    exact ⟨c, rest ++ ds, by simp, h2, h3, allE_append h4 k⟩
theorem allE_one {F : Nat → Prop} {w : World} {e : E} {c : List Value} (hc : c.length = 8) (h : IsE F w e (.agg c.toArray)) : AllE F w [e] c := by
  rw [AllE]; exact ⟨c, [], by simp, hc, h, by rw [AllE]⟩
theorem allE_length {F : Nat → Prop} {w : World} : ∀ {l : List E} {cs : List Value}, AllE F w l cs → cs.length = l.length * 8
  | [], cs, h => by rw [AllE] at h; subst h; rfl
  | e :: l, cs, h => by
    rw [AllE] at h
    obtain ⟨c, rest, rfl, h2, _, h4⟩ := h
    have := allE_length h4
    simp; omega

theorem allE_get {F : Nat → Prop} {w : World} : ∀ {l : List E} {cs : List Value} {k : Nat} {e : E}, AllE F w l cs → l[k]? = some e → ∃ c : List Value, c.length = 8 ∧ IsE F w e (.agg c.toArray) ∧ ∀ j u, c[j]? = some u → cs[k * 8 + j]? = some u
  | e :: l, cs, 0, x, h, hk => by
    rw [AllE] at h
    obtain ⟨c, rest, rfl, h2, h3, _⟩ := h
    simp at hk; subst hk
    refine ⟨c, h2, h3, fun j u hj => ?_⟩
    rw [List.getElem?_append_left (by have := (List.getElem?_eq_some_iff.1 hj).1; omega)]
    simpa using hj
  | e :: l, cs, k + 1, x, h, hk => by
    rw [AllE] at h
    obtain ⟨c, rest, rfl, h2, _, h4⟩ := h
    simp only [List.getElem?_cons_succ] at hk
    obtain ⟨d, d1, d2, d3⟩ := allE_get h4 hk
    refine ⟨d, d1, d2, fun j u hj => ?_⟩
    rw [List.getElem?_append_right (by omega), h2, show (k + 1) * 8 + j - 8 = k * 8 + j from by omega]
    exact d3 j u hj
  | [], _, _, _, _, hk => by simp at hk

/-- An element of a row of expressions: its cells, in every later world. -/
theorem row_elem {F : Nat → Prop} {w : World} {b off n cap : Nat} {l : List E} {cs : List Value} (hr : IsRowB F 8 w (.slice (some ⟨b, off, none⟩) n cap) l.length cs) (ha : AllE F w l cs) {k : Nat} {e : E} (hk : l[k]? = some e) :
    ∃ xo xk xn xs2 xs xm xi xa xl xc, IsE F w e (.agg #[.int .i64 xo, .int .i64 xk, .int .i64 xn, .string xs2, .string xs, .string xm, .int .i64 xi, .slice xa xl xc]) ∧ ∀ V, Below w.heap.size w V → V.cell? ⟨b, off + k * 8, none⟩ = some (.int .i64 xo) ∧ V.cell? ⟨b, off + k * 8 + 1, none⟩ = some (.int .i64 xk) ∧ V.cell? ⟨b, off + k * 8 + 2, none⟩ = some (.int .i64 xn) ∧ V.cell? ⟨b, off + k * 8 + 3, none⟩ = some (.string xs2) ∧ V.cell? ⟨b, off + k * 8 + 4, none⟩ = some (.string xs) ∧ V.cell? ⟨b, off + k * 8 + 5, none⟩ = some (.string xm) ∧ V.cell? ⟨b, off + k * 8 + 6, none⟩ = some (.int .i64 xi) ∧ V.cell? ⟨b, off + k * 8 + 7, none⟩ = some (.slice xa xl xc) := by
  obtain ⟨c, c1, c2, c3⟩ := allE_get ha hk
  obtain ⟨xo, ⟨xk, xn, xs2⟩, xs, xm, xi, xa, xl, xc, h⟩ := c2.shape
  have hc : c = [.int .i64 xo, .int .i64 xk, .int .i64 xn, .string xs2, .string xs, .string xm, .int .i64 xi, .slice xa xl xc] := by
    have := congrArg Array.toList (Value.agg.inj h)
    simpa using this
  subst hc
  refine ⟨xo, xk, xn, xs2, xs, xm, xi, xa, xl, xc, c2, fun V hV => ?_⟩
  have h0 : 0 < l.length := by have := (List.getElem?_eq_some_iff.1 hk).1; omega
  rcases hr.2 with ⟨h1, _⟩ | ⟨_, b', o', c', he, _, hlt, _, _, hcell⟩
  · omega
  · cases he
    have g : ∀ j u, ([.int .i64 xo, .int .i64 xk, .int .i64 xn, .string xs2, .string xs, .string xm, .int .i64 xi, .slice xa xl xc] : List Value)[j]? = some u → V.cell? ⟨b, off + k * 8 + j, none⟩ = some u := fun j u hj => by
      rw [Nat.add_assoc]
      exact (hV.cell (p := ⟨b, off + (k * 8 + j), none⟩) hlt).trans (hcell _ u (c3 j u hj))
    exact ⟨g 0 _ rfl, g 1 _ rfl, g 2 _ rfl, g 3 _ rfl, g 4 _ rfl, g 5 _ rfl, g 6 _ rfl, g 7 _ rfl⟩

theorem set_at {w : World} {g : Nat} {arr : Array Value} {t : TypeId} {fr : Nat × Nat} (h : w.heap[g]? = some (.cells arr t fr)) (j : Nat) (x : Value) : (w.setCell ⟨g, j, none⟩ x).heap[g]? = some (.cells (arr.setIfInBounds j x) t fr) := by
  simp only [World.setCell, Array.getElem?_modify, if_true, h, Option.map_some]
  rfl
theorem set3 {w : World} {g : Nat} {a b c x y z : Value} {t : TypeId} {fr : Nat × Nat} (h : w.heap[g]? = some (.cells #[a, b, c] t fr)) :
    (((w.setCell ⟨g, 0, none⟩ x).setCell ⟨g, 1, none⟩ y).setCell ⟨g, 2, none⟩ z).heap[g]? = some (.cells #[x, y, z] t fr) := set_at (set_at (set_at h 0 x) 1 y) 2 z
theorem block2 (w : World) (o1 o2 : Obj) : ((w.alloc o1).alloc o2).heap[w.heap.size + 1]? = some o2 := by
  have := block_alloc_at (w.alloc o1) o2
  rwa [show (w.alloc o1).heap.size = w.heap.size + 1 from by simp] at this
theorem block3 (w : World) (o1 o2 o3 : Obj) : (((w.alloc o1).alloc o2).alloc o3).heap[w.heap.size + 2]? = some o3 := by
  have := block_alloc_at ((w.alloc o1).alloc o2) o3
  rwa [show ((w.alloc o1).alloc o2).heap.size = w.heap.size + 2 from by simp] at this
theorem bel1 (w : World) (o1 : Obj) : Below w.heap.size w (w.alloc o1) := (Below.refl _ _).alloc (Nat.le_refl _) _
theorem bel2 (w : World) (o1 o2 : Obj) : Below w.heap.size w ((w.alloc o1).alloc o2) := (bel1 w o1).alloc (by simp) _
theorem bel3 (w : World) (o1 o2 o3 : Obj) : Below w.heap.size w (((w.alloc o1).alloc o2).alloc o3) := (bel2 w o1 o2).alloc (by simp; omega) _
theorem cell_set_ne {w : World} {b g : Nat} (h : b ≠ g) (o j : Nat) (x : Value) : (w.setCell ⟨g, j, none⟩ x).cell? ⟨b, o, none⟩ = w.cell? ⟨b, o, none⟩ := World.cell?_of_block (Below.heap_setCell w ⟨g, j, none⟩ x b h)
/-- Three blocks that stay. -/
theorem three {W w1 : World} {g : Nat} (h : Below W.heap.size W w1) (hg : g + 3 ≤ W.heap.size) :
    g + 3 ≤ w1.heap.size ∧ (∀ o, w1.cell? ⟨g, o, none⟩ = W.cell? ⟨g, o, none⟩) ∧ (∀ o, w1.cell? ⟨g + 1, o, none⟩ = W.cell? ⟨g + 1, o, none⟩) ∧ (∀ o, w1.cell? ⟨g + 2, o, none⟩ = W.cell? ⟨g + 2, o, none⟩) ∧ (∀ o, w1.frozen? ⟨g + 2, o, none⟩ = W.frozen? ⟨g + 2, o, none⟩) :=
  ⟨Nat.le_trans hg h.size, fun o => h.cell (p := ⟨g, o, none⟩) (by show g < _; omega), fun o => h.cell (p := ⟨g + 1, o, none⟩) (by show g + 1 < _; omega), fun o => h.cell (p := ⟨g + 2, o, none⟩) (by show g + 2 < _; omega), fun o => h.frozen (p := ⟨g + 2, o, none⟩) (by show g + 2 < _; omega)⟩
/-- Two blocks that stay, and one from below. -/
theorem two_of {W w1 : World} {g b : Nat} (h : Below W.heap.size W w1) (hg : g + 2 ≤ W.heap.size) (hb : b < g) :
    g + 2 ≤ w1.heap.size ∧ (∀ o, w1.cell? ⟨g, o, none⟩ = W.cell? ⟨g, o, none⟩) ∧ (∀ o, w1.cell? ⟨g + 1, o, none⟩ = W.cell? ⟨g + 1, o, none⟩) ∧ (∀ o, w1.frozen? ⟨g + 1, o, none⟩ = W.frozen? ⟨g + 1, o, none⟩) ∧ (∀ o, w1.cell? ⟨b, o, none⟩ = W.cell? ⟨b, o, none⟩) :=
  ⟨Nat.le_trans hg h.size, fun o => h.cell (p := ⟨g, o, none⟩) (by show g < _; omega), fun o => h.cell (p := ⟨g + 1, o, none⟩) (by show g + 1 < _; omega), fun o => h.frozen (p := ⟨g + 1, o, none⟩) (by show g + 1 < _; omega), fun o => h.cell (p := ⟨b, o, none⟩) (by show b < _; omega)⟩
/-- Three blocks that stay. -/
theorem four {W w1 : World} {a b g : Nat} (h : Below W.heap.size W w1) (ha : a < W.heap.size) (hb : b < W.heap.size) (hg : g < W.heap.size) :
    (∀ o, w1.cell? ⟨a, o, none⟩ = W.cell? ⟨a, o, none⟩) ∧ (∀ o, w1.cell? ⟨b, o, none⟩ = W.cell? ⟨b, o, none⟩) ∧ (∀ o, w1.cell? ⟨g, o, none⟩ = W.cell? ⟨g, o, none⟩) ∧ (∀ o, w1.frozen? ⟨g, o, none⟩ = W.frozen? ⟨g, o, none⟩) :=
  ⟨fun o => h.cell (p := ⟨a, o, none⟩) ha, fun o => h.cell (p := ⟨b, o, none⟩) hb, fun o => h.cell (p := ⟨g, o, none⟩) hg, fun o => h.frozen (p := ⟨g, o, none⟩) hg⟩
/-- Below a block all stays. -/
theorem keepsC {C : Nat} {w w' : World} (h : Below C w w') : Keeps (fun k => k < C) w w' := ⟨h.size, fun k hk _ => h.block k hk⟩

end Go.Proofs.YtkncamggdfmlnaaGreatDoor

namespace Go.Proofs.YtkncamggdfmlnaaGreatDoor

/-- A column: api.Col. -/
structure ColD where
  name : Wd
  ty : Int
  must : Bool
/-- A command: api.Stmt. -/
structure Stm where
  kind : Int
  name : Wd
  table : Wd
  col : Wd
  cols : List ColD
  rows : List (List E)
  sets : List (Wd × E)
  frm : List Wd
  out : List E
  wher : E
  order : List E
  down : Bool
  n : Int
def Stm.nil : Stm := ⟨0, noW, noW, noW, [], [], [], [], [], E.nil, [], false, 0⟩
def begunS (k : Int) : Stm := ⟨k, noW, noW, noW, [], [], [], [], [], E.nil, [], false, -1⟩

end Go.Proofs.YtkncamggdfmlnaaGreatDoor

namespace Go.Proofs.YtkncamggdfmlnaaGreatDoor
open Go.RowKit

/-- A kind of element: how it lies in memory, in how many cells. -/
structure Elem (α : Type) where
  size : Nat
  R : (Nat → Prop) → World → α → List Value → Prop
  len : ∀ {F w a c}, R F w a c → c.length = size
  keep : ∀ {F w w' a c}, Keeps F w w' → R F w a c → R F w' a c
  mono : ∀ {F F' : Nat → Prop} {w a c}, (∀ k, k < w.heap.size → F k → F' k) → R F w a c → R F' w a c
/-- Elements one behind the other. -/
def All {α : Type} (K : Elem α) (F : Nat → Prop) (w : World) : List α → List Value → Prop
  | [], cs => cs = []
  | a :: l, cs => ∃ c rest, cs = c ++ rest ∧ K.R F w a c ∧ All K F w l rest
theorem All.keep {α : Type} {K : Elem α} {F : Nat → Prop} {w w' : World} (hk : Keeps F w w') : ∀ {l : List α} {cs : List Value}, All K F w l cs → All K F w' l cs
  | [], cs, h => h
  | a :: l, cs, h => by
    obtain ⟨c, rest, h1, h2, h3⟩ := h
    exact ⟨c, rest, h1, K.keep hk h2, All.keep hk h3⟩
theorem All.mono {α : Type} {K : Elem α} {F F' : Nat → Prop} {w : World} (hk : ∀ k, k < w.heap.size → F k → F' k) : ∀ {l : List α} {cs : List Value}, All K F w l cs → All K F' w l cs
  | [], cs, h => h
  | a :: l, cs, h => by
    obtain ⟨c, rest, h1, h2, h3⟩ := h
    exact ⟨c, rest, h1, K.mono hk h2, All.mono hk h3⟩
theorem All.append {α : Type} {K : Elem α} {F : Nat → Prop} {w : World} : ∀ {l m : List α} {cs ds : List Value}, All K F w l cs → All K F w m ds → All K F w (l ++ m) (cs ++ ds)
  | [], m, cs, ds, h, k => by have : cs = [] := h; subst this; exact k
  | a :: l, m, cs, ds, h, k => by
    obtain ⟨c, rest, rfl, h2, h3⟩ := h
    exact ⟨c, rest ++ ds, by simp, h2, All.append h3 k⟩
theorem All.one {α : Type} {K : Elem α} {F : Nat → Prop} {w : World} {a : α} {c : List Value} (h : K.R F w a c) : All K F w [a] c := ⟨c, [], by simp, h, rfl⟩
theorem All.length {α : Type} {K : Elem α} {F : Nat → Prop} {w : World} : ∀ {l : List α} {cs : List Value}, All K F w l cs → cs.length = l.length * K.size
  | [], cs, h => by have : cs = [] := h; subst this; simp
  | a :: l, cs, h => by
    obtain ⟨c, rest, rfl, h2, h3⟩ := h
    have e1 := K.len h2
    have e2 := All.length h3
    rw [List.length_append, List.length_cons, e1, e2, Nat.add_mul]; omega
/-- A list in memory. -/
def IsL {α : Type} (K : Elem α) (F : Nat → Prop) (w : World) (sv : Value) (l : List α) : Prop := ∃ cs, IsRowB F K.size w sv l.length cs ∧ All K F w l cs
theorem IsL.keep {α : Type} {K : Elem α} {F : Nat → Prop} {w w' : World} {sv : Value} {l : List α} (h : IsL K F w sv l) (hk : Keeps F w w') : IsL K F w' sv l := by
  obtain ⟨cs, h1, h2⟩ := h
  exact ⟨cs, h1.keep hk, h2.keep hk⟩
theorem IsL.mono {α : Type} {K : Elem α} {F F' : Nat → Prop} {w : World} {sv : Value} {l : List α} (h : IsL K F w sv l) (hk : ∀ k, k < w.heap.size → F k → F' k) : IsL K F' w sv l := by
  obtain ⟨cs, h1, h2⟩ := h
  exact ⟨cs, h1.mono hk, h2.mono hk⟩
theorem IsL.shape {α : Type} {K : Elem α} {F : Nat → Prop} {w : World} {sv : Value} {l : List α} (h : IsL K F w sv l) : ∃ ao c, sv = .slice ao l.length c := by
  obtain ⟨cs, h1, _⟩ := h; exact h1.shape
theorem IsL.nil {α : Type} (K : Elem α) (F : Nat → Prop) (w : World) : IsL K F w (.slice none 0 0) ([] : List α) := ⟨[], IsRowB.nil F _ w, rfl⟩

theorem allE_iff {F : Nat → Prop} {w : World} {K : Elem E} (hK : ∀ F w e c, K.R F w e c ↔ c.length = 8 ∧ IsE F w e (.agg c.toArray)) : ∀ {l : List E} {cs : List Value}, All K F w l cs ↔ AllE F w l cs
  | [], cs => by rw [AllE]; rfl
  | e :: l, cs => by
    rw [AllE]
    constructor
    · rintro ⟨c, rest, h1, h2, h3⟩
      exact ⟨c, rest, h1, ((hK _ _ _ _).1 h2).1, ((hK _ _ _ _).1 h2).2, (allE_iff hK).1 h3⟩
    · rintro ⟨c, rest, h1, h2, h3, h4⟩
      exact ⟨c, rest, h1, (hK _ _ _ _).2 ⟨h2, h3⟩, (allE_iff hK).2 h4⟩

/-- Expressions, lists of them, changes, texts, columns. -/
def kExpr : Elem E where
  size := 8
  R F w e c := c.length = 8 ∧ IsE F w e (.agg c.toArray)
  len h := h.1
  keep hk h := ⟨h.1, IsE.keep hk _ _ h.2⟩
  mono hk h := ⟨h.1, IsE.mono hk _ _ h.2⟩
theorem isEs_iff {F : Nat → Prop} {w : World} {sv : Value} {l : List E} : IsL kExpr F w sv l ↔ IsEs F w sv l :=
  ⟨fun ⟨cs, h1, h2⟩ => ⟨cs, h1, (allE_iff fun _ _ _ _ => Iff.rfl).1 h2⟩, fun ⟨cs, h1, h2⟩ => ⟨cs, h1, (allE_iff fun _ _ _ _ => Iff.rfl).2 h2⟩⟩
def kRow : Elem (List E) where
  size := 1
  R F w l c := ∃ sv, c = [sv] ∧ IsL kExpr F w sv l
  len h := by obtain ⟨sv, rfl, _⟩ := h; rfl
  keep hk h := by obtain ⟨sv, h1, h2⟩ := h; exact ⟨sv, h1, h2.keep hk⟩
  mono hk h := by obtain ⟨sv, h1, h2⟩ := h; exact ⟨sv, h1, h2.mono hk⟩
def kSetE : Elem (Wd × E) where
  size := 9
  R F w s c := ∃ d, c = .string s.1 :: d ∧ d.length = 8 ∧ IsE F w s.2 (.agg d.toArray)
  len h := by obtain ⟨d, rfl, h, _⟩ := h; simp [h]
  keep hk h := by obtain ⟨d, h1, h2, h3⟩ := h; exact ⟨d, h1, h2, IsE.keep hk _ _ h3⟩
  mono hk h := by obtain ⟨d, h1, h2, h3⟩ := h; exact ⟨d, h1, h2, IsE.mono hk _ _ h3⟩
def kStr : Elem Wd where
  size := 1
  R _ _ s c := c = [.string s]
  len h := by subst h; rfl
  keep _ h := h
  mono _ h := h
def kCol : Elem ColD where
  size := 3
  R _ _ x c := c = [.string x.name, .int .i64 x.ty, .bool x.must]
  len h := by subst h; rfl
  keep _ h := h
  mono _ h := h
/-- How an element is handed back. -/
def aggV (c : List Value) : Value := .agg c.toArray
def oneV (c : List Value) : Value := c.headD (.bool false)
theorem shape_Expr {F : Nat → Prop} {w : World} {e : E} {c : List Value} (h : kExpr.R F w e c) : ∃ op xk xn xs s name n ao k cap, c = [.int .i64 op, .int .i64 xk, .int .i64 xn, .string xs, .string s, .string name, .int .i64 n, .slice ao k cap] := by
  obtain ⟨op, ⟨xk, xn, xs⟩, s, name, n, ao, k, cap, h1⟩ := h.2.shape
  refine ⟨op, xk, xn, xs, s, name, n, ao, k, cap, ?_⟩
  have := congrArg Array.toList (Value.agg.inj h1)
  simpa using this
theorem shape_Row {F : Nat → Prop} {w : World} {l : List E} {c : List Value} (h : kRow.R F w l c) : ∃ ao k cap, c = [.slice ao k cap] := by
  obtain ⟨sv, rfl, h⟩ := h
  obtain ⟨ao, cap, rfl⟩ := h.shape
  exact ⟨_, _, _, rfl⟩
theorem shape_Set {F : Nat → Prop} {w : World} {e : Wd × E} {c : List Value} (h : kSetE.R F w e c) : ∃ cn op xk xn xs s name n ao k cap, c = [.string cn, .int .i64 op, .int .i64 xk, .int .i64 xn, .string xs, .string s, .string name, .int .i64 n, .slice ao k cap] := by
  obtain ⟨d, rfl, h1, h2⟩ := h
  obtain ⟨op, xk, xn, xs, s, name, n, ao, k, cap, rfl⟩ := shape_Expr (w := w) (F := F) (e := e.2) ⟨h1, h2⟩
  exact ⟨e.1, op, xk, xn, xs, s, name, n, ao, k, cap, rfl⟩
theorem shape_Str {F : Nat → Prop} {w : World} {e : Wd} {c : List Value} (h : kStr.R F w e c) : ∃ s, c = [.string s] := ⟨e, h⟩
theorem shape_Col {F : Nat → Prop} {w : World} {e : ColD} {c : List Value} (h : kCol.R F w e c) : ∃ s t m, c = [.string s, .int .i64 t, .bool m] := ⟨e.name, e.ty, e.must, h⟩

/-- A row of one, in a block of its own. -/
theorem own_one (w : World) (base : Nat) (t : TypeId) (l : List Value) (size : Nat) (hl : l.length = size) (hb : base ≤ w.heap.size) : (w.alloc (.cells l.toArray t)).ownsRow base t size (.slice (some ⟨w.heap.size, 0, none⟩) 1 1) 1 l :=
  by subst hl; exact ⟨by simp, .inr ⟨w.heap.size, 1, l.toArray, rfl, hb, block_alloc_at w _, Nat.le_refl _, by decide, by simp, by simp⟩⟩

/-- Blocks from one on, but for a row's own. -/
abbrev FO (n : Nat) (z : Value) : Nat → Prop := fun k => n ≤ k ∧ some k ≠ z.ownBlock

/-- An append: what is not in the row stays. -/
theorem keeps_grown {n : Nat} {z : Value} {w w' : World} (hg : w.grownBy w' z.ownBlock) : Keeps (FO n z) w w' := ⟨hg.size, fun k hk hl => hg.block k hl hk.2⟩
theorem fo_next {n : Nat} {z z' : Value} {w : World} (h : z'.ownBlock = z.ownBlock ∨ z'.ownBlock = some w.heap.size) : ∀ k, k < w.heap.size → FO n z k → FO n z' k := by
  intro k hk hf
  refine ⟨hf.1, fun e => ?_⟩
  rcases h with h | h
  · rw [h] at e; exact hf.2 e
  · rw [h] at e; simp at e; omega

/-- A command's twenty cells. -/
def sList (kind : Int) (name table col : Wd) (cols rows sets frm out : Value) (w8 : List Value) (order : Value) (down : Bool) (n : Int) : List Value :=
  [.int .i64 kind, .string name, .string table, .string col, cols, rows, sets, frm, out] ++ w8 ++ [order, .bool down, .int .i64 n]
/-- A command in memory. -/
structure IsS (F : Nat → Prop) (w : World) (s : Stm) (c : List Value) : Prop where
  is : ∃ cols rows sets frm out w8 order, c = sList s.kind s.name s.table s.col cols rows sets frm out w8 order s.down s.n ∧ w8.length = 8 ∧ IsL kCol F w cols s.cols ∧ IsL kRow F w rows s.rows ∧ IsL kSetE F w sets s.sets ∧ IsL kStr F w frm s.frm ∧ IsL kExpr F w out s.out ∧ IsE F w s.wher (.agg w8.toArray) ∧ IsL kExpr F w order s.order
def kStm : Elem Stm where
  size := 20
  R := IsS
  len h := by obtain ⟨cols, rows, sets, frm, out, w8, order, rfl, h8, _⟩ := h.is; simp [sList, h8]
  keep hk h := by
    obtain ⟨cols, rows, sets, frm, out, w8, order, h1, h2, h3, h4, h5, h6, h7, h8, h9⟩ := h.is
    exact ⟨cols, rows, sets, frm, out, w8, order, h1, h2, h3.keep hk, h4.keep hk, h5.keep hk, h6.keep hk, h7.keep hk, IsE.keep hk _ _ h8, h9.keep hk⟩
  mono hk h := by
    obtain ⟨cols, rows, sets, frm, out, w8, order, h1, h2, h3, h4, h5, h6, h7, h8, h9⟩ := h.is
    exact ⟨cols, rows, sets, frm, out, w8, order, h1, h2, h3.mono hk, h4.mono hk, h5.mono hk, h6.mono hk, h7.mono hk, IsE.mono hk _ _ h8, h9.mono hk⟩
/-- A command's cells, written out. -/
abbrev sA (kind : Int) (name table col : Wd) (cols rows sets frm out : Value) (op xk xn : Int) (xs s nmv : Wd) (n8 : Int) (sl order : Value) (down : Bool) (n : Int) : Array Value :=
  #[.int .i64 kind, .string name, .string table, .string col, cols, rows, sets, frm, out, .int .i64 op, .int .i64 xk, .int .i64 xn, .string xs, .string s, .string nmv, .int .i64 n8, sl, order, .bool down, .int .i64 n]
/-- The zero of a command; one of which nothing is said yet. -/
abbrev sZero : Array Value := sA 0 noW noW noW (.slice none 0 0) (.slice none 0 0) (.slice none 0 0) (.slice none 0 0) (.slice none 0 0) 0 0 0 noW noW noW 0 (.slice none 0 0) (.slice none 0 0) false 0
abbrev sBegun (k : Int) : Array Value := sA k noW noW noW (.slice none 0 0) (.slice none 0 0) (.slice none 0 0) (.slice none 0 0) (.slice none 0 0) 0 0 0 noW noW noW 0 (.slice none 0 0) (.slice none 0 0) false (-1)
def IsSl (v : Value) : Prop := ∃ ao n c, v = .slice ao n c
theorem isSl (ao : Option Addr) (n c : Nat) : IsSl (.slice ao n c) := ⟨ao, n, c, rfl⟩
theorem one_sA {kind : Int} {name table col : Wd} {cols rows sets frm out : Value} {op xk xn : Int} {xs s nmv : Wd} {n8 : Int} {sl order : Value} {down : Bool} {n : Int} (h1 : IsSl cols) (h2 : IsSl rows) (h3 : IsSl sets) (h4 : IsSl frm) (h5 : IsSl out) (h6 : IsSl sl) (h7 : IsSl order) :
    (sA kind name table col cols rows sets frm out op xk xn xs s nmv n8 sl order down n).all (·.oneCell') = true := by
  obtain ⟨_, _, _, rfl⟩ := h1
  obtain ⟨_, _, _, rfl⟩ := h2
  obtain ⟨_, _, _, rfl⟩ := h3
  obtain ⟨_, _, _, rfl⟩ := h4
  obtain ⟨_, _, _, rfl⟩ := h5
  obtain ⟨_, _, _, rfl⟩ := h6
  obtain ⟨_, _, _, rfl⟩ := h7
  simp [Value.oneCell']
theorem isL_one {α : Type} {K : Elem α} {F : Nat → Prop} {w : World} {sv : Value} {l : List α} (h : IsL K F w sv l) : IsSl sv := by obtain ⟨ao, c, rfl⟩ := h.shape; exact isSl _ _ _
theorem isS_mk {F : Nat → Prop} {w : World} {kind : Int} {name table col : Wd} {cols rows sets frm out : Value} {op xk xn : Int} {xs s nmv : Wd} {n8 : Int} {sl order : Value} {down : Bool} {n : Int} {lc : List ColD} {lr : List (List E)} {ls : List (Wd × E)} {lf : List Wd} {lo : List E} {e : E} {ld : List E}
    (h1 : IsL kCol F w cols lc) (h2 : IsL kRow F w rows lr) (h3 : IsL kSetE F w sets ls) (h4 : IsL kStr F w frm lf) (h5 : IsL kExpr F w out lo) (h6 : IsE F w e (.agg (eArr op ⟨xk, xn, xs⟩ s nmv n8 sl))) (h7 : IsL kExpr F w order ld) :
    kStm.R F w ⟨kind, name, table, col, lc, lr, ls, lf, lo, e, ld, down, n⟩ (sA kind name table col cols rows sets frm out op xk xn xs s nmv n8 sl order down n).toList :=
  ⟨cols, rows, sets, frm, out, (eArr op ⟨xk, xn, xs⟩ s nmv n8 sl).toList, order, rfl, rfl, h1, h2, h3, h4, h5, h6, h7⟩
/-- A block behind a store. -/
theorem upd {w : World} {b : Nat} {arr : Array Value} {t : TypeId} (h : w.heap[b]? = some (.cells arr t)) (i : Nat) (v : Value) : (w.setCell ⟨b, i, none⟩ v).heap[b]? = some (.cells (arr.setIfInBounds i v) t) := by
  simp only [World.setCell, Array.getElem?_modify, if_true, h]; rfl

/-- A row stored whole. -/
theorem block_row {w : World} {g : Nat} {old cells : Array Value} {t : TypeId} (h : w.heap[g]? = some (.cells old t)) : (w.setRow g cells).heap[g]? = some (.cells cells t) := by
  simp only [World.setRow, Array.getElem?_modify, if_true, h]; rfl
theorem block_row_other {w : World} {g b : Nat} {x : Obj} (h : w.heap[b]? = some x) (hn : b ≠ g) (cells : Array Value) : (w.setRow g cells).heap[b]? = some x := by
  simp only [World.setRow, Array.getElem?_modify]
  rw [if_neg (fun e => hn e.symm)]; exact h
theorem Below.row {B : Nat} {w w' : World} (h : Below B w w') {b : Nat} (hb : B ≤ b) (cells : Array Value) : Below B w (w'.setRow b cells) :=
  ⟨h.os, h.tape, h.output, by simp [World.setRow]; exact h.size, fun k hk => by
    have := h.block k hk
    simp only [World.setRow, Array.getElem?_modify]
    rw [if_neg (by omega)]; exact this⟩
theorem Keeps.row {F : Nat → Prop} {w w' : World} (h : Keeps F w w') {b : Nat} (hb : ¬ F b) (cells : Array Value) : Keeps F w (w'.setRow b cells) :=
  ⟨by simp [World.setRow]; exact h.size, fun k hk hl => by
    have := h.block k hk hl
    simp only [World.setRow, Array.getElem?_modify]
    rw [if_neg (by rintro rfl; exact hb hk)]; exact this⟩

/-- Two results, of which the first lies in a block. -/
theorem results_two {P : Program} {fn : Func} {p q : Tmp} {ty : TypeId} (h : fn.results = #[.cell p ty, .tmp q]) (tmps : Array Value) (w : World) (g : Nat) (t : TypeId) (cs : Array Value) (fr : Nat × Nat) (d : TypeDesc) (v : Value)
    (hp : tmps.getD p undef = .pointer (some ⟨g, 0, none⟩)) (hq : tmps.getD q undef = v) (hg : w.heap[g]? = some (.cells cs t fr))
    (hu : P.underlying ty = some d) (hd : (match d with | .struct _ | .array _ _ => true | _ => false) = true) (hi : (P.info? ty).map (·.size) = some cs.size) :
    (results fn tmps).run P w = .ok (.tuple #[.agg cs, v]) w := by
  have hp' : tmps[p]?.getD undef = .pointer (some ⟨g, 0, none⟩) := by simpa using hp
  have hq' : tmps[q]?.getD undef = v := by simpa using hq
  simp [results, h, hp', hq', asAddr, run_loadVar_row w g t ty cs fr d hg hu hd hi]

end Go.Proofs.YtkncamggdfmlnaaGreatDoor

namespace Go.Proofs.YtkncamggdfmlnaaGreatDoor
open Go.RowKit

/-- The first number below n for which p is; -1: none. -/
def firstI (p : Nat → Bool) : Nat → Nat → Int
  | _, 0 => -1
  | i, n + 1 => if p i then (i : Int) else firstI p (i + 1) n

/-- Is there one below n for which p is? -/
def anyI (p : Nat → Bool) : Nat → Nat → Bool
  | _, 0 => false
  | i, n + 1 => p i || anyI p (i + 1) n
theorem anyI_eq (p : Nat → Bool) : ∀ (n i : Nat), anyI p i n = decide (0 ≤ firstI p i n)
  | 0, i => by simp [anyI, firstI]
  | n + 1, i => by
    rw [anyI, firstI, anyI_eq p n (i + 1)]
    cases p i
    · simp
    · simp
theorem firstI_step (p : Nat → Bool) (k n : Nat) (h : k < n) : firstI p k (n - k) = if p k then (k : Int) else firstI p (k + 1) (n - (k + 1)) := by
  rw [show n - k = (n - (k + 1)) + 1 from by omega, firstI]
/-- An index: api.Index. -/
structure IdxD where
  name : Wd
  table : Wd
  col : Wd
def kIdx : Elem IdxD where
  size := 3
  R _ _ x c := c = [.string x.name, .string x.table, .string x.col]
  len h := by subst h; rfl
  keep _ h := h
  mono _ h := h
def kNum : Elem Int where
  size := 1
  R _ _ x c := c = [.int .i64 x]
  len h := by subst h; rfl
  keep _ h := h
  mono _ h := h
/-- A table: api.Table. -/
structure TabD where
  name : Wd
  cols : List ColD
def kTab : Elem TabD where
  size := 2
  R F w x c := ∃ sv, c = [.string x.name, sv] ∧ IsL kCol F w sv x.cols
  len h := by obtain ⟨sv, rfl, _⟩ := h; rfl
  keep hk h := by obtain ⟨sv, h1, h2⟩ := h; exact ⟨sv, h1, h2.keep hk⟩
  mono hk h := by obtain ⟨sv, h1, h2⟩ := h; exact ⟨sv, h1, h2.mono hk⟩

theorem all_get {α : Type} {K : Elem α} {F : Nat → Prop} {w : World} : ∀ {l : List α} {cs : List Value} {i : Nat} {x : α}, All K F w l cs → l[i]? = some x → ∃ c, K.R F w x c ∧ ∀ j u, c[j]? = some u → cs[i * K.size + j]? = some u
  | a :: l, cs, 0, x, h, hx => by
    obtain ⟨c, rest, rfl, h2, _⟩ := h
    simp at hx; subst hx
    refine ⟨c, h2, fun j u hj => ?_⟩
    rw [List.getElem?_append_left (by have := (List.getElem?_eq_some_iff.1 hj).1; omega)]
    simpa using hj
  | a :: l, cs, i + 1, x, h, hx => by
    obtain ⟨c, rest, rfl, h2, h3⟩ := h
    simp only [List.getElem?_cons_succ] at hx
    obtain ⟨d, d1, d2⟩ := all_get h3 hx
    refine ⟨d, d1, fun j u hj => ?_⟩
    have := K.len h2
    rw [List.getElem?_append_right (by rw [this, Nat.add_mul]; omega), this, show (i + 1) * K.size + j - K.size = i * K.size + j from by rw [Nat.add_mul]; omega]
    exact d2 j u hj
  | [], _, _, _, _, hx => by simp at hx
/-- An element of a list: where it lies. -/
theorem isL_get {α : Type} {K : Elem α} {F : Nat → Prop} {w : World} {ao : Option Addr} {n c : Nat} {l : List α} (h : IsL K F w (.slice ao n c) l) {i : Nat} {x : α} (hx : l[i]? = some x) :
    ∃ b off cs, ao = some ⟨b, off, none⟩ ∧ F b ∧ b < w.heap.size ∧ K.R F w x cs ∧ ∀ j u, cs[j]? = some u → w.cell? ⟨b, off + i * K.size + j, none⟩ = some u := by
  obtain ⟨cs, hr, ha⟩ := h
  obtain ⟨d, d1, d2⟩ := all_get ha hx
  have hi : i < l.length := (List.getElem?_eq_some_iff.1 hx).1
  rcases hr.2 with ⟨h0, _⟩ | ⟨_, b, off, cap, he, hF, hb, _, _, hc⟩
  · omega
  · cases he
    exact ⟨b, off, d, rfl, hF, hb, d1, fun j u hj => by rw [Nat.add_assoc]; exact hc _ u (d2 j u hj)⟩
theorem isL_len {α : Type} {K : Elem α} {F : Nat → Prop} {w : World} {ao : Option Addr} {n c : Nat} {l : List α} (h : IsL K F w (.slice ao n c) l) : n = l.length ∧ l.length ≤ maxLen := by
  obtain ⟨cs, hr, _⟩ := h
  rcases hr.2 with ⟨h0, ao', c', he, _⟩ | ⟨_, b, off, cap, he, _, _, h1, h2, _⟩
  · cases he; exact ⟨h0.symm, by rw [h0]; exact Nat.zero_le _⟩
  · cases he; exact ⟨rfl, by omega⟩

end Go.Proofs.YtkncamggdfmlnaaGreatDoor

namespace Go.Proofs.YtkncamggdfmlnaaGreatDoor
open Go.RowKit Go.Maps

theorem strKeyed : Keyed Tryz.prog 9 := string_keyed Tryz.underlying9
theorem zeroInt (w : World) : (zeroValue 3).run Tryz.prog w = .ok (.int .i64 0) w := by kernel_rfl
/-- How often a name has come up. -/
def cntW (N : List Wd) (s : Wd) : Nat := N.countP fun x => decide (x = s)
theorem cntW_snoc (N : List Wd) (s t : Wd) : cntW (N ++ [s]) t = cntW N t + if s = t then 1 else 0 := by
  unfold cntW
  rw [List.countP_append]
  by_cases h : s = t <;> simp [h]
theorem cntW_le (N : List Wd) (s : Wd) : cntW N s ≤ N.length := List.countP_le_length
theorem cntW_pos (N : List Wd) (s : Wd) : 0 < cntW N s ↔ s ∈ N := by
  unfold cntW
  rw [List.countP_pos_iff]
  constructor
  · rintro ⟨x, hx, h⟩; simp at h; subst h; exact hx
  · intro h; exact ⟨s, h, by simp⟩
def memW (N : List Wd) (s : Wd) : Bool := N.any fun x => decide (x = s)
theorem memW_iff (N : List Wd) (s : Wd) : memW N s = true ↔ s ∈ N := by simp [memW]
/-- Block b counts the names N. -/
def Cnt (w : World) (b : Nat) (N : List Wd) : Prop :=
  ∃ (D : DataW Unit), w.ownsMap Tryz.prog 9 (plainElem Tryz.prog 3) b N.length D ∧ IsMap D ∧ ∀ s : Wd, s.size ≤ maxLen → D.atKey (.string s.data.toList) (.lit (.int .i64 0)) = .lit (.int .i64 (cntW N s : Nat))
theorem cnt_made (w : World) : Cnt (w.alloc (.map #[] 0)) w.heap.size [] :=
  ⟨.map [], World.ownsMap_made _ _ _ _, isMap_empty, fun _ _ => rfl⟩
theorem Cnt.lt {w : World} {b : Nat} {N : List Wd} (h : Cnt w b N) : b < w.heap.size := by obtain ⟨D, h1, _⟩ := h; exact h1.lt
theorem Cnt.kept {w w' : World} {b : Nat} {N : List Wd} {row : Option Nat} (h : Cnt w b N) (hg : w.grownBy w' row) (hne : some b ≠ row) : Cnt w' b N := by
  obtain ⟨D, h1, h2⟩ := h
  exact ⟨D, h1.kept hg hne, h2⟩
theorem grown_none {w w' : World} (h : Below w.heap.size w w') : w.grownBy w' none := ⟨h.os, h.tape, h.output, h.size, fun k hk _ => h.block k hk⟩
theorem Cnt.below {w w' : World} {b : Nat} {N : List Wd} (h : Cnt w b N) (hb : Below w.heap.size w w') : Cnt w' b N := h.kept (grown_none hb) (by simp)

end Go.Proofs.YtkncamggdfmlnaaGreatDoor

namespace Go.Proofs.YtkncamggdfmlnaaGreatDoor

abbrev kAnd : Wd := ⟨#[97, 110, 100]⟩
abbrev kBy : Wd := ⟨#[98, 121]⟩
abbrev kCreate : Wd := ⟨#[99, 114, 101, 97, 116, 101]⟩
abbrev kDelete : Wd := ⟨#[100, 101, 108, 101, 116, 101]⟩
abbrev kDesc : Wd := ⟨#[100, 101, 115, 99]⟩
abbrev kDrop : Wd := ⟨#[100, 114, 111, 112]⟩
abbrev kFrom : Wd := ⟨#[102, 114, 111, 109]⟩
abbrev kIndex : Wd := ⟨#[105, 110, 100, 101, 120]⟩
abbrev kInsert : Wd := ⟨#[105, 110, 115, 101, 114, 116]⟩
abbrev kInt : Wd := ⟨#[105, 110, 116]⟩
abbrev kInto : Wd := ⟨#[105, 110, 116, 111]⟩
abbrev kIs : Wd := ⟨#[105, 115]⟩
abbrev kLimit : Wd := ⟨#[108, 105, 109, 105, 116]⟩
abbrev kMust : Wd := ⟨#[109, 117, 115, 116]⟩
abbrev kNot : Wd := ⟨#[110, 111, 116]⟩
abbrev kNull : Wd := ⟨#[110, 117, 108, 108]⟩
abbrev kOn : Wd := ⟨#[111, 110]⟩
abbrev kOr : Wd := ⟨#[111, 114]⟩
abbrev kOrder : Wd := ⟨#[111, 114, 100, 101, 114]⟩
abbrev kSelect : Wd := ⟨#[115, 101, 108, 101, 99, 116]⟩
abbrev kSet : Wd := ⟨#[115, 101, 116]⟩
abbrev kTable : Wd := ⟨#[116, 97, 98, 108, 101]⟩
abbrev kText : Wd := ⟨#[116, 101, 120, 116]⟩
abbrev kUpdate : Wd := ⟨#[117, 112, 100, 97, 116, 101]⟩
abbrev kValues : Wd := ⟨#[118, 97, 108, 117, 101, 115]⟩
abbrev kWhere : Wd := ⟨#[119, 104, 101, 114, 101]⟩
abbrev kOpen : Wd := ⟨#[40]⟩
abbrev kClose : Wd := ⟨#[41]⟩
abbrev kStar : Wd := ⟨#[42]⟩
abbrev kPlus : Wd := ⟨#[43]⟩
abbrev kComma : Wd := ⟨#[44]⟩
abbrev kMinus : Wd := ⟨#[45]⟩
abbrev kDot : Wd := ⟨#[46]⟩
abbrev kSemi : Wd := ⟨#[59]⟩
abbrev kLt : Wd := ⟨#[60]⟩
abbrev kEq : Wd := ⟨#[61]⟩

def letterB (c : UInt8) : Bool := decide (97 ≤ c.toNat) && decide (c.toNat ≤ 122)
def digitB (c : UInt8) : Bool := decide (48 ≤ c.toNat) && decide (c.toNat ≤ 57)
/-- Words that mean something of their own. -/
def reservedB (w : Wd) : Bool :=
  decide (w = kAnd) || decide (w = kBy) || decide (w = kCreate) || decide (w = kDelete) || decide (w = kDesc) || decide (w = kDrop) || decide (w = kFrom) || decide (w = kIndex) || decide (w = kInsert) || decide (w = kInt) || decide (w = kInto) || decide (w = kIs) || decide (w = kLimit) || decide (w = kMust) || decide (w = kNot) || decide (w = kNull) || decide (w = kOn) || decide (w = kOr) || decide (w = kOrder) || decide (w = kSelect) || decide (w = kSet) || decide (w = kTable) || decide (w = kText) || decide (w = kUpdate) || decide (w = kValues) || decide (w = kWhere)
/-- P3.1 -/
def nm (w : Wd) : Bool := decide (1 ≤ w.size) && decide (w.size ≤ 8) && w.data.toList.all letterB && !reservedB w

/-- How many bytes of one kind a text begins with. -/
def runB (f : UInt8 → Bool) (l : List UInt8) : Nat := (l.takeWhile f).length
theorem runB_end {f : UInt8 → Bool} : ∀ {l : List UInt8} {k : Nat}, (l.take k).all f = true → (∀ c, l[k]? = some c → f c = false) → k ≤ l.length → runB f l = k
  | [], k, _, _, h => by simp at h; subst h; rfl
  | c :: l, 0, _, h, _ => by have := h c rfl; simp [runB, this]
  | c :: l, k + 1, h1, h2, h3 => by
    simp at h1
    have := runB_end (f := f) (l := l) (k := k) (by simpa using h1.2) (fun x hx => h2 x (by simpa using hx)) (by simpa using h3)
    simp only [runB, List.takeWhile_cons, h1.1, if_true, List.length_cons] at this ⊢
    omega
theorem runB_le (f : UInt8 → Bool) (l : List UInt8) : runB f l ≤ l.length := (List.takeWhile_prefix f).length_le
theorem runB_take (f : UInt8 → Bool) (l : List UInt8) : (l.take (runB f l)).all f = true := by
  induction l with
  | nil => rfl
  | cons c l ih =>
    unfold runB at ih ⊢
    cases h : f c
    · simp [h]
    · simp only [List.takeWhile_cons, h, if_true, List.length_cons, List.take_succ_cons, List.all_cons, Bool.true_and]; exact ih
theorem runB_pos {f : UInt8 → Bool} {c : UInt8} {l : List UInt8} (h : f c = true) : runB f (c :: l) = runB f l + 1 := by simp [runB, h]


end Go.Proofs.YtkncamggdfmlnaaGreatDoor

