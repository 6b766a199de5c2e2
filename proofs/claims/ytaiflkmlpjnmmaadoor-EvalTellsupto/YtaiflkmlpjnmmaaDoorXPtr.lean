/-
  Places that hold expressions: as they lie in memory. Nothing of the program but its types' numbers.
-/
import Derived.Test.YtaiflkmlpjnmmaaDoorXOps
import Derived.OwnWalk
namespace Go.Proofs.YtaiflkmlpjnmmaaDoor
open Go.RowKit

/-- Below a block all stays. -/
theorem keepsC {C : Nat} {w w' : World} (h : Below C w w') : Keeps (fun k => k < C) w w' := ⟨h.size, fun k hk _ => h.block k hk⟩
/-- A place that holds an expression, all of it in blocks below C. -/
def IsPtr (C : Nat) (w : World) (e : E) (p : Value) : Prop :=
  ∃ (b o : Nat) (op xk xn : Int) (xs s name : Wd) (n : Int) (ao : Option Addr) (c : Nat) (l : List E), p = .pointer (some ⟨b, o, none⟩) ∧ b < C ∧ e = .mk op ⟨xk, xn, xs⟩ s name n l ∧
    (w.cell? ⟨b, o, none⟩ = some (.int .i64 op) ∧ w.cell? ⟨b, o + 1, none⟩ = some (.int .i64 xk) ∧ w.cell? ⟨b, o + 2, none⟩ = some (.int .i64 xn) ∧ w.cell? ⟨b, o + 3, none⟩ = some (.string xs) ∧ w.cell? ⟨b, o + 4, none⟩ = some (.string s) ∧ w.cell? ⟨b, o + 5, none⟩ = some (.string name) ∧ w.cell? ⟨b, o + 6, none⟩ = some (.int .i64 n) ∧ w.cell? ⟨b, o + 7, none⟩ = some (.slice ao l.length c)) ∧
    IsEs (fun k => k < C) w (.slice ao l.length c) l
theorem IsPtr.keep {C : Nat} {w w' : World} {e : E} {p : Value} (h : IsPtr C w e p) (hb : Below C w w') : IsPtr C w' e p := by
  obtain ⟨b, o, op, xk, xn, xs, s, name, n, ao, c, l, h1, h2, h3, ⟨c0, c1, c2, c3, c4, c5, c6, c7⟩, h4⟩ := h
  have g : ∀ o, w'.cell? ⟨b, o, none⟩ = w.cell? ⟨b, o, none⟩ := fun o => hb.cell (p := ⟨b, o, none⟩) h2
  exact ⟨b, o, op, xk, xn, xs, s, name, n, ao, c, l, h1, h2, h3, ⟨(g _).trans c0, (g _).trans c1, (g _).trans c2, (g _).trans c3, (g _).trans c4, (g _).trans c5, (g _).trans c6, (g _).trans c7⟩, h4.keep (keepsC hb)⟩
/-- Places that hold expressions. -/
def Ptrs (C : Nat) (w : World) (L : List E) (P : List Value) : Prop := ∀ (i : Nat) (e : E), L[i]? = some e → ∃ p, P[i]? = some p ∧ IsPtr C w e p
theorem Ptrs.keep {C : Nat} {w w' : World} {L : List E} {P : List Value} (h : Ptrs C w L P) (hb : Below C w w') : Ptrs C w' L P := fun i e hi => by
  obtain ⟨p, h1, h2⟩ := h i e hi
  exact ⟨p, h1, h2.keep hb⟩
theorem Ptrs.snoc {C : Nat} {w : World} {L : List E} {P : List Value} (h : Ptrs C w L P) (hl : P.length = L.length) {e : E} {p : Value} (hp : IsPtr C w e p) : Ptrs C w (L ++ [e]) (P ++ [p]) := fun i x hi => by
  rcases Nat.lt_trichotomy i L.length with h1 | h1 | h1
  · rw [List.getElem?_append_left h1] at hi
    obtain ⟨q, h2, h3⟩ := h i x hi
    exact ⟨q, by rw [List.getElem?_append_left (by omega)]; exact h2, h3⟩
  · subst h1
    rw [List.getElem?_append_right (Nat.le_refl _)] at hi
    simp at hi
    subst hi
    exact ⟨p, by rw [← hl, List.getElem?_append_right (Nat.le_refl _)]; simp, hp⟩
  · rw [List.getElem?_eq_none (by simp; omega)] at hi; cases hi
/-- An element's place. -/
theorem ptr_elem {C : Nat} {w : World} {b off cap : Nat} {l : List E} (h : IsEs (fun k => k < C) w (.slice (some ⟨b, off, none⟩) l.length cap) l) {k : Nat} {e : E} (hk : l[k]? = some e) : IsPtr C w e (.pointer (some ⟨b, off + k * 8, none⟩)) := by
  obtain ⟨cs, hr, ha⟩ := h
  obtain ⟨xo, xk, xn, xs2, xs, xm, xi, xa, xl, xc, he, hc⟩ := row_elem hr ha hk
  have h0 : 0 < l.length := by have := (List.getElem?_eq_some_iff.1 hk).1; omega
  have hb : b < C := by
    rcases hr.2 with ⟨h1, _⟩ | ⟨_, b', o', c', hh, hF, _⟩
    · omega
    · cases hh; exact hF
  cases e with
  | mk op x s name n l' =>
    obtain ⟨sv, h1, h2⟩ := he.open
    obtain ⟨ao, c, rfl⟩ := h2.shape
    obtain ⟨yk, yn, ys⟩ := x
    simp only [eArr, Value.agg.injEq, Array.mk.injEq, List.cons.injEq, Value.int.injEq, Value.string.injEq, Value.slice.injEq, true_and, and_true] at h1
    obtain ⟨rfl, rfl, rfl, rfl, rfl, rfl, rfl, rfl, rfl, rfl⟩ := h1
    exact ⟨b, off + k * 8, xo, xk, xn, xs2, xs, xm, xi, xa, xc, l', rfl, hb, rfl, hc w (Below.refl _ _), h2⟩
/-- The arguments that count. -/
theorem arguments_kids {C : Nat} (op : Int) (x : V) (s name : Wd) (n : Int) (ao : Option Addr) (c : Nat) (l : List E) (w : World) (h : IsEs (fun k => k < C) w (.slice ao l.length c) l) (hC : C ≤ w.heap.size) :
    Calls Tryd.prog 38 #[.agg (eArr op x s name n (.slice ao l.length c))] w fun e w' => ∃ ko kc, e = .returned (.slice ko (kidsOf op l).length kc) ∧ IsEs (fun k => k < C) w' (.slice ko (kidsOf op l).length kc) (kidsOf op l) ∧ Below w.heap.size w w' := by
  refine (arguments_any op x s name n ao l.length c w).mono ?_
  rintro e w' ⟨rfl, hb⟩
  unfold kidsOf
  split
  · exact ⟨ao, c, rfl, h.keep (keepsC (hb.mono hC)), hb⟩
  · exact ⟨none, 0, rfl, IsEs.nil _ _, hb⟩
theorem info_ptr : (Tryd.prog.info? 62).map (fun i => (i.zero, i.size, i.bytes)) = some (some (.pointer none), 1, 8) := by kernel_rfl

end Go.Proofs.YtaiflkmlpjnmmaaDoor
