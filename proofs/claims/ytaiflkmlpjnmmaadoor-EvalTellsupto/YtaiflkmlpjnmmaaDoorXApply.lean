/-
  Contract of package eval's apply: what an expression comes to, by what its arguments came to.
-/
import Derived.Test.YtaiflkmlpjnmmaaDoorXOps3
namespace Go.Proofs.YtaiflkmlpjnmmaaDoor
open Go.RowKit

/-- Two blocks that stay, and one from below. -/
theorem two_of {W w1 : World} {g b : Nat} (h : Below W.heap.size W w1) (hg : g + 2 ≤ W.heap.size) (hb : b < g) :
    g + 2 ≤ w1.heap.size ∧ (∀ o, w1.cell? ⟨g, o, none⟩ = W.cell? ⟨g, o, none⟩) ∧ (∀ o, w1.cell? ⟨g + 1, o, none⟩ = W.cell? ⟨g + 1, o, none⟩) ∧ (∀ o, w1.frozen? ⟨g + 1, o, none⟩ = W.frozen? ⟨g + 1, o, none⟩) ∧ (∀ o, w1.cell? ⟨b, o, none⟩ = W.cell? ⟨b, o, none⟩) :=
  ⟨Nat.le_trans hg h.size, fun o => h.cell (p := ⟨g, o, none⟩) (by show g < _; omega), fun o => h.cell (p := ⟨g + 1, o, none⟩) (by show g + 1 < _; omega), fun o => h.frozen (p := ⟨g + 1, o, none⟩) (by show g + 1 < _; omega), fun o => h.cell (p := ⟨b, o, none⟩) (by show b < _; omega)⟩

set_option maxRecDepth 100000 in
set_option maxHeartbeats 2000000 in
theorem apply_one (op : Int) (x : V) (s name : Wd) (n : Int) (ao : Option Addr) (k c : Nat) (a : V) (b off cap : Nat) (ro : Option Addr) (rl rc : Nat) (w : World) (hb : b < w.heap.size) (hh : HoldsV w b off [a]) :
    Calls Tryd.prog 39 #[.agg (eArr op x s name n (.slice ao k c)), .slice (some ⟨b, off, none⟩) 1 cap, .slice ro rl rc] w fun e w' => e = .returned (oneV op a).val ∧ Below w.heap.size w w' := by
  obtain ⟨c0, c1, c2⟩ := hh 0 a rfl
  clear hh
  simp only [Nat.zero_mul, Nat.add_zero] at c0 c1 c2
  have ho := fun w => ofOne_any op a w
  generalize oneV op a = r at ho
  obtain ⟨ak, an, at_⟩ := a
  obtain ⟨xk, xn, xs⟩ := x
  simp only [V.val] at ho
  have hne : b ≠ w.heap.size + 1 := by omega
  have hne0 : b ≠ w.heap.size := by omega
  go_enter Tryd.func39, Tryd.ntmps39
  go_wp2_with fail
  go_region_held3 (fun w' => w'.cell? ⟨w.heap.size, 0, none⟩ = some (.int .i64 op) ∧ w'.cell? ⟨b, off, none⟩ = some (.int .i64 ak) ∧ w'.cell? ⟨b, off + 1, none⟩ = some (.int .i64 an) ∧ w'.cell? ⟨b, off + 2, none⟩ = some (.string at_)) (first | (go_keep; done) | ((try dsimp only); (repeat' apply And.intro) <;> (rw [cell_set_ne (by omega), cell_set_ne (by omega), cell_set_ne (by omega)]; first | assumption | go_keep | simp_all)))
    (first | (go_at_call 44; refine (ho _).mono ?_; rintro e w1 ⟨rfl, hb1⟩; obtain ⟨z1, q1, r1, t1, s1⟩ := two_of hb1 (g := w.heap.size) (b := b) (by first | (simp; done) | assumption | (simp; omega) | omega) hb))
  go_wp2
  exact end_val _ Tryd.results39 rfl rfl ((hb1.block _ (by simp)).trans (block2 _ _ _)) (bthen (bel2 _ _ _).drew hb1) (by omega)

set_option maxRecDepth 100000 in
set_option maxHeartbeats 2000000 in
theorem apply_two (op : Int) (x : V) (s name : Wd) (n : Int) (ao : Option Addr) (k c : Nat) (a a' : V) (b off cap : Nat) (ro : Option Addr) (rl rc : Nat) (w : World) (hb : b < w.heap.size) (hh : HoldsV w b off [a, a']) (hs : a.s.size ≤ maxLen) (hs' : a'.s.size ≤ maxLen) :
    Calls Tryd.prog 39 #[.agg (eArr op x s name n (.slice ao k c)), .slice (some ⟨b, off, none⟩) 2 cap, .slice ro rl rc] w fun e w' => e = .returned (twoV op a a').val ∧ Below w.heap.size w w' := by
  obtain ⟨c0, c1, c2⟩ := hh 0 a rfl
  obtain ⟨d0, d1, d2⟩ := hh 1 a' rfl
  clear hh
  simp only [Nat.zero_mul, Nat.add_zero, Nat.one_mul] at c0 c1 c2 d0 d1 d2
  have ho := fun w => ofTwo_any op a a' w hs hs'
  generalize twoV op a a' = r at ho
  clear hs hs'
  obtain ⟨ak, an, at_⟩ := a
  obtain ⟨bk, bn, bt⟩ := a'
  obtain ⟨xk, xn, xs⟩ := x
  simp only [V.val] at ho
  have hne : b ≠ w.heap.size + 1 := by omega
  have hne0 : b ≠ w.heap.size := by omega
  go_enter Tryd.func39, Tryd.ntmps39
  go_wp2_with fail
  go_region_held3 (fun w' => w'.cell? ⟨w.heap.size, 0, none⟩ = some (.int .i64 op) ∧ w'.cell? ⟨b, off, none⟩ = some (.int .i64 ak) ∧ w'.cell? ⟨b, off + 1, none⟩ = some (.int .i64 an) ∧ w'.cell? ⟨b, off + 2, none⟩ = some (.string at_) ∧ w'.cell? ⟨b, off + 3, none⟩ = some (.int .i64 bk) ∧ w'.cell? ⟨b, off + 3 + 1, none⟩ = some (.int .i64 bn) ∧ w'.cell? ⟨b, off + 3 + 2, none⟩ = some (.string bt)) (first | (go_keep; done) | ((try dsimp only); (repeat' apply And.intro) <;> (rw [cell_set_ne (by omega), cell_set_ne (by omega), cell_set_ne (by omega)]; first | assumption | go_keep | simp_all)))
    (first | (go_at_call 45; refine (ho _).mono ?_; rintro e w1 ⟨rfl, hb1⟩; obtain ⟨z1, q1, r1, t1, s1⟩ := two_of hb1 (g := w.heap.size) (b := b) (by first | (simp; done) | assumption | (simp; omega) | omega) hb))
  go_wp2
  exact end_val _ Tryd.results39 rfl rfl ((hb1.block _ (by simp)).trans (block2 _ _ _)) (bthen (bel2 _ _ _).drew hb1) (by omega)

set_option maxRecDepth 100000 in
set_option maxHeartbeats 2000000 in
theorem apply_none (op : Int) (x : V) (s name : Wd) (n : Int) (ao : Option Addr) (k c : Nat) (av : Option Addr) (al ac : Nat) (rv : Value) (row : List V) (w : World) (hr : IsVals w rv row) (hn : row.length ≤ maxLen) (h1 : al ≠ 1) (h2 : al ≠ 2) :
    Calls Tryd.prog 39 #[.agg (eArr op x s name n (.slice ao k c)), .slice av al ac, rv] w fun e w' => e = .returned (noneV op x n row).val ∧ Below w.heap.size w w' := by
  have ho := fun w' (h : Below w.heap.size w w') => ofNone_any op x s name n (.slice ao k c) rv row w' (hr.below h) hn ⟨_, _, _, rfl⟩
  obtain ⟨ro, rc, rfl⟩ := hr.shape
  generalize noneV op x n row = r at ho
  obtain ⟨xk, xn, xs⟩ := x
  simp only [V.val] at ho
  have e1 : ((al : Int) == 1) = false := by simp; omega
  have e2 : ((al : Int) == 2) = false := by simp; omega
  go_enter Tryd.func39, Tryd.ntmps39
  go_wp2_with (first | (go_at_call 46; refine (ho _ (bel2 _ _ _)).mono ?_; rintro e w1 ⟨rfl, hb1⟩; obtain ⟨hcc, hff⟩ := bcell hb1))
  exact end_val _ Tryd.results39 rfl rfl ((hb1.block _ (by simp)).trans (block2 _ _ _)) (bthen (bel2 _ _ _) hb1) (by omega)

/-- What an expression comes to, by what its arguments came to. -/
theorem apply_any (op : Int) (x : V) (s name : Wd) (n : Int) (ao : Option Addr) (k c : Nat) (av rv : Value) (cs row : List V) (w : World) (ha : IsVals w av cs) (hs : ∀ v ∈ cs, v.s.size ≤ maxLen) (hr : IsVals w rv row) (hn : row.length ≤ maxLen) :
    Calls Tryd.prog 39 #[.agg (eArr op x s name n (.slice ao k c)), av, rv] w fun e w' => e = .returned (appV op x n cs row).val ∧ Below w.heap.size w w' := by
  match cs, ha, hs with
  | [], ha, _ =>
    obtain ⟨xo, xc, rfl⟩ := ha.shape
    exact apply_none op x s name n ao k c xo _ xc rv row w hr hn (by simp) (by simp)
  | [a], ha, _ =>
    obtain ⟨ro, rc, rfl⟩ := hr.shape
    rcases ha with ⟨_, h⟩ | ⟨b, off, cap, rfl, hb, hh⟩
    · cases h
    · exact apply_one op x s name n ao k c a b off cap ro _ rc w hb hh
  | [a, a'], ha, hs =>
    obtain ⟨ro, rc, rfl⟩ := hr.shape
    rcases ha with ⟨_, h⟩ | ⟨b, off, cap, rfl, hb, hh⟩
    · cases h
    · exact apply_two op x s name n ao k c a a' b off cap ro _ rc w hb hh (hs a (by simp)) (hs a' (by simp))
  | a :: b :: d :: r, ha, _ =>
    obtain ⟨xo, xc, rfl⟩ := ha.shape
    exact apply_none op x s name n ao k c xo _ xc rv row w hr hn (by simp) (by simp)

end Go.Proofs.YtaiflkmlpjnmmaaDoor
