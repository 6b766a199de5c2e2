/-
  Expressions as they lie in memory: in certain blocks. Nothing of the program but its types' numbers.
-/
import Derived.Test.YtaiflkmlpjnmmaaDoorXPlain
import Derived.Test.YtaiflkmlpjnmmaaDoorRow
namespace Go.Proofs.YtaiflkmlpjnmmaaDoor
open Go.RowKit

/-- What lies in certain blocks stays. -/
structure Keeps (F : Nat → Prop) (w w' : World) : Prop where
  size : w.heap.size ≤ w'.heap.size
  block : ∀ k, F k → k < w.heap.size → w'.heap[k]? = w.heap[k]?
theorem Keeps.refl (F : Nat → Prop) (w : World) : Keeps F w w := ⟨Nat.le_refl _, fun _ _ _ => rfl⟩
theorem Keeps.trans {F : Nat → Prop} {u v w : World} (h : Keeps F u v) (k : Keeps F v w) : Keeps F u w :=
  ⟨Nat.le_trans h.size k.size, fun i h1 h2 => (k.block i h1 (Nat.lt_of_lt_of_le h2 h.size)).trans (h.block i h1 h2)⟩
theorem keepsB {F : Nat → Prop} {w w' : World} (h : Below w.heap.size w w') : Keeps F w w' := ⟨h.size, fun k _ hk => h.block k hk⟩
theorem Keeps.set {F : Nat → Prop} {w w' : World} (h : Keeps F w w') {b : Nat} (hb : ¬ F b) (o : Nat) (u : Value) : Keeps F w (w'.setCell ⟨b, o, none⟩ u) :=
  ⟨by simp [World.setCell]; exact h.size, fun k hk hl => (Below.heap_setCell w' ⟨b, o, none⟩ u k (show k ≠ b by rintro rfl; exact hb hk)).trans (h.block k hk hl)⟩
theorem Keeps.alloc {F : Nat → Prop} {w w' : World} (h : Keeps F w w') (o : Obj) : Keeps F w (w'.alloc o) := h.trans (keepsB ((Below.refl _ _).alloc (Nat.le_refl _) o))
theorem Keeps.drew {F : Nat → Prop} {w w' : World} (h : Keeps F w w') : Keeps F w w'.drew := ⟨h.size, h.block⟩
theorem Keeps.below {F : Nat → Prop} {w v v' : World} (h : Keeps F w v) (hb : Below v.heap.size v v') : Keeps F w v' := h.trans (keepsB hb)
theorem Keeps.mono {F F' : Nat → Prop} {w w' : World} (h : Keeps F w w') (hF : ∀ k, F' k → F k) : Keeps F' w w' := ⟨h.size, fun k hk => h.block k (hF k hk)⟩
/-- Blocks from one on. -/
abbrev Fr (n : Nat) : Nat → Prop := fun k => n ≤ k

/-- As IsRow, in certain blocks. -/
def IsRowB (F : Nat → Prop) (size : Nat) (w : World) (sv : Value) (n : Nat) (cs : List Value) : Prop :=
  cs.length = n * size ∧
  ((n = 0 ∧ ∃ ao cap, sv = .slice ao 0 cap ∧ (ao = none → cap = 0)) ∨
   (0 < n ∧ ∃ b off cap, sv = .slice (some ⟨b, off, none⟩) n cap ∧ F b ∧ b < w.heap.size ∧ n ≤ cap ∧ cap ≤ maxLen ∧ ∀ j u, cs[j]? = some u → w.cell? ⟨b, off + j, none⟩ = some u))
theorem IsRowB.keep {F : Nat → Prop} {size : Nat} {w w' : World} {sv : Value} {n : Nat} {cs : List Value} (h : IsRowB F size w sv n cs) (hk : Keeps F w w') : IsRowB F size w' sv n cs := by
  obtain ⟨h1, h2⟩ := h
  refine ⟨h1, ?_⟩
  rcases h2 with h2 | ⟨h0, b, off, cap, rfl, hB, hlt, hc, hm, hcell⟩
  · exact .inl h2
  · refine .inr ⟨h0, b, off, cap, rfl, hB, Nat.lt_of_lt_of_le hlt hk.size, hc, hm, fun j u hj => ?_⟩
    rw [World.cell?_of_block (w := w) (hk.block b hB hlt)]
    exact hcell j u hj
theorem IsRowB.mono {F F' : Nat → Prop} {size : Nat} {w : World} {sv : Value} {n : Nat} {cs : List Value} (h : IsRowB F size w sv n cs) (hB : ∀ k, k < w.heap.size → F k → F' k) : IsRowB F' size w sv n cs := by
  obtain ⟨h1, h2⟩ := h
  refine ⟨h1, ?_⟩
  rcases h2 with h2 | ⟨h0, b, off, cap, h3, h4, h5⟩
  · exact .inl h2
  · exact .inr ⟨h0, b, off, cap, h3, hB _ h5.1 h4, h5⟩
theorem IsRowB.row {F : Nat → Prop} {size : Nat} {w : World} {sv : Value} {n : Nat} {cs : List Value} (h : IsRowB F size w sv n cs) : IsRow size w sv n cs := by
  obtain ⟨h1, h2⟩ := h
  refine ⟨h1, ?_⟩
  rcases h2 with h2 | ⟨h0, b, off, cap, h3, _, h5⟩
  · exact .inl h2
  · exact .inr ⟨h0, b, off, cap, h3, h5⟩
theorem IsRowB.shape {F : Nat → Prop} {size : Nat} {w : World} {sv : Value} {n : Nat} {cs : List Value} (h : IsRowB F size w sv n cs) : ∃ ao cap, sv = .slice ao n cap := h.row.shape
theorem IsRowB.nil (F : Nat → Prop) (size : Nat) (w : World) : IsRowB F size w (.slice none 0 0) 0 [] := ⟨by simp, .inl ⟨rfl, none, 0, rfl, fun _ => rfl⟩⟩
theorem IsRowB.of_own {F : Nat → Prop} {size : Nat} {w : World} {base : Nat} {e : TypeId} {v : Value} {n : Nat} {cs : List Value} (h : w.ownsRow base e size v n cs) (hB : ∀ k, base ≤ k → F k) : IsRowB F size w v n cs := by
  refine ⟨h.1, ?_⟩
  rcases h.2 with ⟨rfl, rfl⟩ | ⟨g, cap, cur, rfl, hg, hh, hn, hm, _⟩
  · exact .inl ⟨rfl, none, 0, rfl, fun _ => rfl⟩
  · rcases Nat.eq_zero_or_pos n with rfl | h0
    · exact .inl ⟨rfl, _, cap, rfl, fun h => by cases h⟩
    · refine .inr ⟨h0, g, 0, cap, rfl, hB g hg, lt_of_block hh, hn, hm, fun j u hj => ?_⟩
      have := h.cells (g := g) rfl j u hj
      rwa [Addr.add_lit] at this
/-- A new block's cells. -/
theorem IsRowB.new {F : Nat → Prop} {size n : Nat} {w : World} (l : List Value) (t : TypeId) (hl : l.length = n * size) (hB : F w.heap.size) (hn : 0 < n) (hm : n ≤ maxLen) : IsRowB F size (w.alloc (.cells l.toArray t)) (.slice (some ⟨w.heap.size, 0, none⟩) n n) n l :=
  ⟨hl, .inr ⟨hn, w.heap.size, 0, n, rfl, hB, by simp, Nat.le_refl _, hm, fun j u hj => by
    have := cells_new w l t j u hj
    rwa [Addr.add_lit] at this⟩⟩

/-- An expression's eight cells. -/
abbrev eArr (op : Int) (x : V) (s name : Wd) (n : Int) (sv : Value) : Array Value := #[.int .i64 op, .int .i64 x.k, .int .i64 x.n, .string x.s, .string s, .string name, .int .i64 n, sv]
mutual
/-- An expression in memory. -/
def IsE (F : Nat → Prop) (w : World) : E → Value → Prop
  | .mk op x s name n l, v => ∃ sv cs, v = .agg (eArr op x s name n sv) ∧ IsRowB F 8 w sv l.length cs ∧ AllE F w l cs
def AllE (F : Nat → Prop) (w : World) : List E → List Value → Prop
  | [], cs => cs = []
  | e :: l, cs => ∃ c rest, cs = c ++ rest ∧ c.length = 8 ∧ IsE F w e (.agg c.toArray) ∧ AllE F w l rest
end
mutual
theorem IsE.keep {F : Nat → Prop} {w w' : World} (hk : Keeps F w w') : ∀ (e : E) (v : Value), IsE F w e v → IsE F w' e v
  | .mk op x s name n l, v, h => by
    rw [IsE] at h ⊢
    obtain ⟨sv, cs, h1, h2, h3⟩ := h
    exact ⟨sv, cs, h1, h2.keep hk, AllE.keep hk l cs h3⟩
theorem AllE.keep {F : Nat → Prop} {w w' : World} (hk : Keeps F w w') : ∀ (l : List E) (cs : List Value), AllE F w l cs → AllE F w' l cs
  | [], cs, h => by rw [AllE] at h ⊢; exact h
  | e :: l, cs, h => by
    rw [AllE] at h ⊢
    obtain ⟨c, rest, h1, h2, h3, h4⟩ := h
    exact ⟨c, rest, h1, h2, IsE.keep hk e _ h3, AllE.keep hk l rest h4⟩
end
mutual
theorem IsE.mono {F F' : Nat → Prop} {w : World} (hk : ∀ k, k < w.heap.size → F k → F' k) : ∀ (e : E) (v : Value), IsE F w e v → IsE F' w e v
  | .mk op x s name n l, v, h => by
    rw [IsE] at h ⊢
    obtain ⟨sv, cs, h1, h2, h3⟩ := h
    exact ⟨sv, cs, h1, h2.mono hk, AllE.mono hk l cs h3⟩
theorem AllE.mono {F F' : Nat → Prop} {w : World} (hk : ∀ k, k < w.heap.size → F k → F' k) : ∀ (l : List E) (cs : List Value), AllE F w l cs → AllE F' w l cs
  | [], cs, h => by rw [AllE] at h ⊢; exact h
  | e :: l, cs, h => by
    rw [AllE] at h ⊢
    obtain ⟨c, rest, h1, h2, h3, h4⟩ := h
    exact ⟨c, rest, h1, h2, IsE.mono hk e _ h3, AllE.mono hk l rest h4⟩
end
/-- A list of expressions. -/
def IsEs (F : Nat → Prop) (w : World) (sv : Value) (l : List E) : Prop := ∃ cs, IsRowB F 8 w sv l.length cs ∧ AllE F w l cs
theorem IsEs.keep {F : Nat → Prop} {w w' : World} {sv : Value} {l : List E} (h : IsEs F w sv l) (hk : Keeps F w w') : IsEs F w' sv l := by
  obtain ⟨cs, h1, h2⟩ := h
  exact ⟨cs, h1.keep hk, AllE.keep hk l cs h2⟩
theorem IsEs.mono {F F' : Nat → Prop} {w : World} {sv : Value} {l : List E} (h : IsEs F w sv l) (hk : ∀ k, k < w.heap.size → F k → F' k) : IsEs F' w sv l := by
  obtain ⟨cs, h1, h2⟩ := h
  exact ⟨cs, h1.mono hk, AllE.mono hk l cs h2⟩
theorem IsEs.nil (F : Nat → Prop) (w : World) : IsEs F w (.slice none 0 0) [] := ⟨[], IsRowB.nil F 8 w, by rw [AllE]⟩
theorem IsEs.shape {F : Nat → Prop} {w : World} {sv : Value} {l : List E} (h : IsEs F w sv l) : ∃ ao cap, sv = .slice ao l.length cap := by
  obtain ⟨cs, h1, _⟩ := h; exact h1.shape
theorem isE_mk {F : Nat → Prop} {w : World} {op : Int} {x : V} {s name : Wd} {n : Int} {l : List E} {sv : Value} (h : IsEs F w sv l) : IsE F w (.mk op x s name n l) (.agg (eArr op x s name n sv)) := by
  obtain ⟨cs, h1, h2⟩ := h
  rw [IsE]
  exact ⟨sv, cs, rfl, h1, h2⟩
theorem IsE.open {F : Nat → Prop} {w : World} {op : Int} {x : V} {s name : Wd} {n : Int} {l : List E} {v : Value} (h : IsE F w (.mk op x s name n l) v) : ∃ sv, v = .agg (eArr op x s name n sv) ∧ IsEs F w sv l := by
  rw [IsE] at h
  obtain ⟨sv, cs, h1, h2, h3⟩ := h
  exact ⟨sv, h1, cs, h2, h3⟩
theorem isE_nil (F : Nat → Prop) (w : World) : IsE F w E.nil (.agg (eArr 0 zero noW noW 0 (.slice none 0 0))) := isE_mk (IsEs.nil F w)
theorem isE_lit (F : Nat → Prop) (w : World) (v : V) : IsE F w (litE v) (.agg (eArr 1 v noW noW 0 (.slice none 0 0))) := isE_mk (IsEs.nil F w)
theorem isE_ref (F : Nat → Prop) (w : World) (s name : Wd) : IsE F w (refE s name) (.agg (eArr 2 zero s name 0 (.slice none 0 0))) := isE_mk (IsEs.nil F w)
/-- An expression's value, written out. -/
theorem IsE.shape {F : Nat → Prop} {w : World} {e : E} {v : Value} (h : IsE F w e v) : ∃ op x s name n ao k c, v = .agg (eArr op x s name n (.slice ao k c)) := by
  cases e with
  | mk op x s name n l =>
    obtain ⟨sv, h1, h2⟩ := h.open
    obtain ⟨ao, c, rfl⟩ := h2.shape
    exact ⟨op, x, s, name, n, ao, _, c, h1⟩
theorem allE_append {F : Nat → Prop} {w : World} : ∀ {l m : List E} {cs ds : List Value}, AllE F w l cs → AllE F w m ds → AllE F w (l ++ m) (cs ++ ds)
  | [], m, cs, ds, h, k => by rw [AllE] at h; subst h; exact k
  | e :: l, m, cs, ds, h, k => by
    rw [AllE] at h
    obtain ⟨c, rest, rfl, h2, h3, h4⟩ := h
    rw [List.cons_append, AllE]
    exact ⟨c, rest ++ ds, by simp, h2, h3, allE_append h4 k⟩
theorem allE_one {F : Nat → Prop} {w : World} {e : E} {c : List Value} (hc : c.length = 8) (h : IsE F w e (.agg c.toArray)) : AllE F w [e] c := by
  rw [AllE]; exact ⟨c, [], by simp, hc, h, by rw [AllE]⟩
theorem allE_length {F : Nat → Prop} {w : World} : ∀ {l : List E} {cs : List Value}, AllE F w l cs → cs.length = l.length * 8
  | [], cs, h => by rw [AllE] at h; subst h; rfl
  | e :: l, cs, h => by
    rw [AllE] at h
    obtain ⟨c, rest, rfl, h2, _, h4⟩ := h
    have := allE_length h4
    simp; omega

/-- One expression in a new block; two. -/
theorem isEs_one {F : Nat → Prop} {w : World} {e : E} {op : Int} {x : V} {s name : Wd} {n : Int} {sv : Value} (h : IsE F w e (.agg (eArr op x s name n sv))) (hB : F w.heap.size) :
    IsEs F (w.alloc (.cells (eArr op x s name n sv) 32)) (.slice (some ⟨w.heap.size, 0, none⟩) 1 1) [e] := by
  have hb : Below w.heap.size w (w.alloc (.cells (eArr op x s name n sv) 32)) := (Below.refl _ _).alloc (Nat.le_refl _) _
  exact ⟨(eArr op x s name n sv).toList, IsRowB.new (eArr op x s name n sv).toList _ rfl hB (by decide) (by decide), allE_one rfl (IsE.keep (keepsB hb) e _ h)⟩
theorem isEs_two {F : Nat → Prop} {w : World} {e e' : E} {op op' : Int} {x x' : V} {s name s' name' : Wd} {n n' : Int} {sv sv' : Value} (h : IsE F w e (.agg (eArr op x s name n sv))) (h' : IsE F w e' (.agg (eArr op' x' s' name' n' sv'))) (hB : F w.heap.size) :
    IsEs F (w.alloc (.cells (eArr op x s name n sv ++ eArr op' x' s' name' n' sv') 32)) (.slice (some ⟨w.heap.size, 0, none⟩) 2 2) [e, e'] := by
  have hb : Below w.heap.size w (w.alloc (.cells (eArr op x s name n sv ++ eArr op' x' s' name' n' sv') 32)) := (Below.refl _ _).alloc (Nat.le_refl _) _
  refine ⟨(eArr op x s name n sv ++ eArr op' x' s' name' n' sv').toList, IsRowB.new (eArr op x s name n sv ++ eArr op' x' s' name' n' sv').toList _ rfl hB (by decide) (by decide), ?_⟩
  exact allE_append (allE_one rfl (IsE.keep (keepsB hb) e _ h)) (allE_one rfl (IsE.keep (keepsB hb) e' _ h'))

theorem allE_get {F : Nat → Prop} {w : World} : ∀ {l : List E} {cs : List Value} {k : Nat} {e : E}, AllE F w l cs → l[k]? = some e → ∃ c : List Value, c.length = 8 ∧ IsE F w e (.agg c.toArray) ∧ ∀ j u, c[j]? = some u → cs[k * 8 + j]? = some u
  | e :: l, cs, 0, x, h, hk => by
    rw [AllE] at h
    obtain ⟨c, rest, rfl, h2, h3, _⟩ := h
    simp at hk; subst hk
    refine ⟨c, h2, h3, fun j u hj => ?_⟩
    rw [List.getElem?_append_left (by have := (List.getElem?_eq_some_iff.1 hj).1; omega)]
    simpa using hj
  | e :: l, cs, k + 1, x, h, hk => by
    rw [AllE] at h
    obtain ⟨c, rest, rfl, h2, _, h4⟩ := h
    simp only [List.getElem?_cons_succ] at hk
    obtain ⟨d, d1, d2, d3⟩ := allE_get h4 hk
    refine ⟨d, d1, d2, fun j u hj => ?_⟩
    rw [List.getElem?_append_right (by omega), h2, show (k + 1) * 8 + j - 8 = k * 8 + j from by omega]
    exact d3 j u hj
  | [], _, _, _, _, hk => by simp at hk

/-- An element of a row of expressions: its cells, in every later world. -/
theorem row_elem {F : Nat → Prop} {w : World} {b off n cap : Nat} {l : List E} {cs : List Value} (hr : IsRowB F 8 w (.slice (some ⟨b, off, none⟩) n cap) l.length cs) (ha : AllE F w l cs) {k : Nat} {e : E} (hk : l[k]? = some e) :
    ∃ xo xk xn xs2 xs xm xi xa xl xc, IsE F w e (.agg #[.int .i64 xo, .int .i64 xk, .int .i64 xn, .string xs2, .string xs, .string xm, .int .i64 xi, .slice xa xl xc]) ∧ ∀ V, Below w.heap.size w V → V.cell? ⟨b, off + k * 8, none⟩ = some (.int .i64 xo) ∧ V.cell? ⟨b, off + k * 8 + 1, none⟩ = some (.int .i64 xk) ∧ V.cell? ⟨b, off + k * 8 + 2, none⟩ = some (.int .i64 xn) ∧ V.cell? ⟨b, off + k * 8 + 3, none⟩ = some (.string xs2) ∧ V.cell? ⟨b, off + k * 8 + 4, none⟩ = some (.string xs) ∧ V.cell? ⟨b, off + k * 8 + 5, none⟩ = some (.string xm) ∧ V.cell? ⟨b, off + k * 8 + 6, none⟩ = some (.int .i64 xi) ∧ V.cell? ⟨b, off + k * 8 + 7, none⟩ = some (.slice xa xl xc) := by
  obtain ⟨c, c1, c2, c3⟩ := allE_get ha hk
  obtain ⟨xo, ⟨xk, xn, xs2⟩, xs, xm, xi, xa, xl, xc, h⟩ := c2.shape
  have hc : c = [.int .i64 xo, .int .i64 xk, .int .i64 xn, .string xs2, .string xs, .string xm, .int .i64 xi, .slice xa xl xc] := by
    have := congrArg Array.toList (Value.agg.inj h)
    simpa using this
  subst hc
  refine ⟨xo, xk, xn, xs2, xs, xm, xi, xa, xl, xc, c2, fun V hV => ?_⟩
  have h0 : 0 < l.length := by have := (List.getElem?_eq_some_iff.1 hk).1; omega
  rcases hr.2 with ⟨h1, _⟩ | ⟨_, b', o', c', he, _, hlt, _, _, hcell⟩
  · omega
  · cases he
    have g : ∀ j u, ([.int .i64 xo, .int .i64 xk, .int .i64 xn, .string xs2, .string xs, .string xm, .int .i64 xi, .slice xa xl xc] : List Value)[j]? = some u → V.cell? ⟨b, off + k * 8 + j, none⟩ = some u := fun j u hj => by
      rw [Nat.add_assoc]
      exact (hV.cell (p := ⟨b, off + (k * 8 + j), none⟩) hlt).trans (hcell _ u (c3 j u hj))
    exact ⟨g 0 _ rfl, g 1 _ rfl, g 2 _ rfl, g 3 _ rfl, g 4 _ rfl, g 5 _ rfl, g 6 _ rfl, g 7 _ rfl⟩

end Go.Proofs.YtaiflkmlpjnmmaaDoor
