/-
  Contracts of package eval's ofTwo, apply: what an expression comes to, by what its arguments came to.
-/
import Derived.Test.YtaiflkmlpjnmmaaDoorXOps2
namespace Go.Proofs.YtaiflkmlpjnmmaaDoor
open Go.RowKit

theorem cell_set_ne {w : World} {b g : Nat} (h : b ≠ g) (o j : Nat) (x : Value) : (w.setCell ⟨g, j, none⟩ x).cell? ⟨b, o, none⟩ = w.cell? ⟨b, o, none⟩ := World.cell?_of_block (Below.heap_setCell w ⟨g, j, none⟩ x b h)
/-- Three blocks that stay. -/
theorem three {W w1 : World} {g : Nat} (h : Below W.heap.size W w1) (hg : g + 3 ≤ W.heap.size) :
    g + 3 ≤ w1.heap.size ∧ (∀ o, w1.cell? ⟨g, o, none⟩ = W.cell? ⟨g, o, none⟩) ∧ (∀ o, w1.cell? ⟨g + 1, o, none⟩ = W.cell? ⟨g + 1, o, none⟩) ∧ (∀ o, w1.cell? ⟨g + 2, o, none⟩ = W.cell? ⟨g + 2, o, none⟩) ∧ (∀ o, w1.frozen? ⟨g + 2, o, none⟩ = W.frozen? ⟨g + 2, o, none⟩) :=
  ⟨Nat.le_trans hg h.size, fun o => h.cell (p := ⟨g, o, none⟩) (by show g < _; omega), fun o => h.cell (p := ⟨g + 1, o, none⟩) (by show g + 1 < _; omega), fun o => h.cell (p := ⟨g + 2, o, none⟩) (by show g + 2 < _; omega), fun o => h.frozen (p := ⟨g + 2, o, none⟩) (by show g + 2 < _; omega)⟩
set_option maxRecDepth 100000 in
set_option maxHeartbeats 2000000 in
theorem ofTwo_and (a b : V) (w : World) : Calls Tryd.prog 45 #[.int .i64 7, a.val, b.val] w fun e w' => e = .returned (twoV 7 a b).val ∧ Below w.heap.size w w' := by
  have ho := fun w => of_any a w
  have ho' := fun w => of_any b w
  have E : Hid (twoV 7 a b = truthV (tAnd (ofV a) (ofV b))) := rfl
  generalize ofV a = o at E ho
  generalize ofV b = o' at E ho'
  generalize twoV 7 a b = r at E
  obtain ⟨k, n, s⟩ := a
  obtain ⟨k', n', s'⟩ := b
  simp only [V.val] at ho ho'
  show Calls Tryd.prog 45 #[.int .i64 7, .agg #[.int .i64 k, .int .i64 n, .string s], .agg #[.int .i64 k', .int .i64 n', .string s']] w _
  go_enter Tryd.func45, Tryd.ntmps45
  go_wp2_with fail
  go_region_held3 (fun w' => w'.cell? ⟨w.heap.size, 0, none⟩ = some (.int .i64 k) ∧ w'.cell? ⟨w.heap.size, 1, none⟩ = some (.int .i64 n) ∧ w'.cell? ⟨w.heap.size, 2, none⟩ = some (.string s) ∧ w'.cell? ⟨w.heap.size + 1, 0, none⟩ = some (.int .i64 k') ∧ w'.cell? ⟨w.heap.size + 1, 1, none⟩ = some (.int .i64 n') ∧ w'.cell? ⟨w.heap.size + 1, 2, none⟩ = some (.string s')) (first | (go_keep; done) | ((try dsimp only); (repeat' apply And.intro) <;> (rw [cell_set_ne (by omega), cell_set_ne (by omega), cell_set_ne (by omega)]; first | assumption | go_keep | simp_all)))
    (first | (go_at_call_of 18 (Value.agg #[.int .i64 k, .int .i64 n, .string s]); refine (ho _).mono ?_; rintro e w1 ⟨rfl, hb1⟩; obtain ⟨z1, q1, r1, s1, t1⟩ := three hb1 (g := w.heap.size) (by first | (simp; done) | assumption | (simp; omega) | omega)) | (go_at_call_of 18 (Value.agg #[.int .i64 k', .int .i64 n', .string s']); refine (ho' _).mono ?_; rintro e w2 ⟨rfl, hb2⟩; obtain ⟨z2, q2, r2, s2, t2⟩ := three hb2 (g := w.heap.size) (by first | (simp; done) | assumption | (simp; omega) | omega)) | (go_at_call 7; refine (and_any _ _ _).mono ?_; rintro e w' ⟨rfl, rfl⟩) | (go_at_call 20; refine (truth_any _ _).mono ?_; rintro e w3 ⟨rfl, hb3⟩; simp only [V.val]; obtain ⟨z3, q3, r3, s3, t3⟩ := three hb3 (g := w.heap.size) (by first | (simp; done) | assumption | (simp; omega) | omega)))
  go_wp2
  rw [E.out]
  exact end_val _ Tryd.results45 rfl rfl (((bthen hb1 (bthen hb2 hb3)).block _ (by simp)).trans (block3 _ _ _ _)) (bthen (bel3 _ _ _ _).drew (bthen hb1 (bthen hb2 hb3))) (by omega)

set_option maxRecDepth 100000 in
set_option maxHeartbeats 2000000 in
theorem ofTwo_or (a b : V) (w : World) : Calls Tryd.prog 45 #[.int .i64 8, a.val, b.val] w fun e w' => e = .returned (twoV 8 a b).val ∧ Below w.heap.size w w' := by
  have ho := fun w => of_any a w
  have ho' := fun w => of_any b w
  have E : Hid (twoV 8 a b = truthV (tOr (ofV a) (ofV b))) := rfl
  generalize ofV a = o at E ho
  generalize ofV b = o' at E ho'
  generalize twoV 8 a b = r at E
  obtain ⟨k, n, s⟩ := a
  obtain ⟨k', n', s'⟩ := b
  simp only [V.val] at ho ho'
  show Calls Tryd.prog 45 #[.int .i64 8, .agg #[.int .i64 k, .int .i64 n, .string s], .agg #[.int .i64 k', .int .i64 n', .string s']] w _
  go_enter Tryd.func45, Tryd.ntmps45
  go_wp2_with fail
  go_region_held3 (fun w' => w'.cell? ⟨w.heap.size, 0, none⟩ = some (.int .i64 k) ∧ w'.cell? ⟨w.heap.size, 1, none⟩ = some (.int .i64 n) ∧ w'.cell? ⟨w.heap.size, 2, none⟩ = some (.string s) ∧ w'.cell? ⟨w.heap.size + 1, 0, none⟩ = some (.int .i64 k') ∧ w'.cell? ⟨w.heap.size + 1, 1, none⟩ = some (.int .i64 n') ∧ w'.cell? ⟨w.heap.size + 1, 2, none⟩ = some (.string s')) (first | (go_keep; done) | ((try dsimp only); (repeat' apply And.intro) <;> (rw [cell_set_ne (by omega), cell_set_ne (by omega), cell_set_ne (by omega)]; first | assumption | go_keep | simp_all)))
    (first | (go_at_call_of 18 (Value.agg #[.int .i64 k, .int .i64 n, .string s]); refine (ho _).mono ?_; rintro e w1 ⟨rfl, hb1⟩; obtain ⟨z1, q1, r1, s1, t1⟩ := three hb1 (g := w.heap.size) (by first | (simp; done) | assumption | (simp; omega) | omega)) | (go_at_call_of 18 (Value.agg #[.int .i64 k', .int .i64 n', .string s']); refine (ho' _).mono ?_; rintro e w2 ⟨rfl, hb2⟩; obtain ⟨z2, q2, r2, s2, t2⟩ := three hb2 (g := w.heap.size) (by first | (simp; done) | assumption | (simp; omega) | omega)) | (go_at_call 9; refine (or_any _ _ _).mono ?_; rintro e w' ⟨rfl, rfl⟩) | (go_at_call 20; refine (truth_any _ _).mono ?_; rintro e w3 ⟨rfl, hb3⟩; simp only [V.val]; obtain ⟨z3, q3, r3, s3, t3⟩ := three hb3 (g := w.heap.size) (by first | (simp; done) | assumption | (simp; omega) | omega)))
  go_wp2
  rw [E.out]
  exact end_val _ Tryd.results45 rfl rfl (((bthen hb1 (bthen hb2 hb3)).block _ (by simp)).trans (block3 _ _ _ _)) (bthen (bel3 _ _ _ _).drew (bthen hb1 (bthen hb2 hb3))) (by omega)

set_option maxRecDepth 100000 in
set_option maxHeartbeats 2000000 in
theorem ofTwo_any (op : Int) (a b : V) (w : World) (ha : a.s.size ≤ maxLen) (hb : b.s.size ≤ maxLen) : Calls Tryd.prog 45 #[.int .i64 op, a.val, b.val] w fun e w' => e = .returned (twoV op a b).val ∧ Below w.heap.size w w' := by
  by_cases h7 : op = 7
  · subst h7; exact ofTwo_and a b w
  by_cases h8 : op = 8
  · subst h8; exact ofTwo_or a b w
  have ho := fun w => known_any a w ha
  have ho' := fun w => known_any b w hb
  clear ha hb
  by_cases h : knownV a = true ∧ knownV b = true ∧ a.k = b.k
  · have E : Hid (twoV op a b = knV op a b) := by show _ = _; simp only [twoV, h7, h8, if_false]; rw [if_pos h]
    have hk := fun w => ofKnown_any op a b w h.1 h.2.1 h.2.2
    generalize twoV op a b = r at E
    generalize knV op a b = q at E hk
    obtain ⟨h1, h2, h3⟩ := h
    rw [h1] at ho
    rw [h2] at ho'
    clear h1 h2
    obtain ⟨k, n, s⟩ := a
    obtain ⟨k', n', s'⟩ := b
    simp only at h3
    subst h3
    simp only [V.val] at ho ho' hk
    show Calls Tryd.prog 45 #[.int .i64 op, .agg #[.int .i64 k, .int .i64 n, .string s], .agg #[.int .i64 k, .int .i64 n', .string s']] w _
    go_enter Tryd.func45, Tryd.ntmps45
    go_wp2_with (first | (go_at_call_of 49 (Value.agg #[.int .i64 k, .int .i64 n, .string s]); refine (ho _).mono ?_; rintro e w1 ⟨rfl, hb1⟩; obtain ⟨z1, q1, r1, s1, t1⟩ := three hb1 (g := w.heap.size) (by first | (simp; done) | assumption | (simp; omega) | omega)) | (go_at_call_of 49 (Value.agg #[.int .i64 k, .int .i64 n', .string s']); refine (ho' _).mono ?_; rintro e w2 ⟨rfl, hb2⟩; obtain ⟨z2, q2, r2, s2, t2⟩ := three hb2 (g := w.heap.size) (by first | (simp; done) | assumption | (simp; omega) | omega)) | (go_at_call 50; refine (hk _).mono ?_; rintro e w3 ⟨rfl, hb3⟩; obtain ⟨z3, q3, r3, s3, t3⟩ := three hb3 (g := w.heap.size) (by first | (simp; done) | assumption | (simp; omega) | omega)))
    rw [E.out]
    exact end_val _ Tryd.results45 rfl rfl (((bthen hb1 (bthen hb2 hb3)).block _ (by simp)).trans (block3 _ _ _ _)) (bthen (bel3 _ _ _ _) (bthen hb1 (bthen hb2 hb3))) (by omega)
  have E : Hid (twoV op a b = zero) := by show _ = _; simp only [twoV, h7, h8, if_false]; rw [if_neg h]
  generalize twoV op a b = r at E
  cases h1 : knownV a
  · rw [h1] at ho
    clear h1 h ho'
    obtain ⟨k, n, s⟩ := a
    obtain ⟨k', n', s'⟩ := b
    simp only [V.val] at ho
    show Calls Tryd.prog 45 #[.int .i64 op, .agg #[.int .i64 k, .int .i64 n, .string s], .agg #[.int .i64 k', .int .i64 n', .string s']] w _
    go_enter Tryd.func45, Tryd.ntmps45
    go_wp2_with (first | (go_at_call_of 49 (Value.agg #[.int .i64 k, .int .i64 n, .string s]); refine (ho _).mono ?_; rintro e w1 ⟨rfl, hb1⟩; obtain ⟨z1, q1, r1, s1, t1⟩ := three hb1 (g := w.heap.size) (by first | (simp; done) | assumption | (simp; omega) | omega)))
    rw [E.out]
    exact end_val zero Tryd.results45 rfl rfl ((hb1.block _ (by simp)).trans (block3 _ _ _ _)) (bthen (bel3 _ _ _ _) hb1) (by omega)
  rw [h1] at ho
  cases h2 : knownV b
  · rw [h2] at ho'
    clear h1 h2 h
    obtain ⟨k, n, s⟩ := a
    obtain ⟨k', n', s'⟩ := b
    simp only [V.val] at ho ho'
    show Calls Tryd.prog 45 #[.int .i64 op, .agg #[.int .i64 k, .int .i64 n, .string s], .agg #[.int .i64 k', .int .i64 n', .string s']] w _
    go_enter Tryd.func45, Tryd.ntmps45
    go_wp2_with (first | (go_at_call_of 49 (Value.agg #[.int .i64 k, .int .i64 n, .string s]); refine (ho _).mono ?_; rintro e w1 ⟨rfl, hb1⟩; obtain ⟨z1, q1, r1, s1, t1⟩ := three hb1 (g := w.heap.size) (by first | (simp; done) | assumption | (simp; omega) | omega)) | (go_at_call_of 49 (Value.agg #[.int .i64 k', .int .i64 n', .string s']); refine (ho' _).mono ?_; rintro e w2 ⟨rfl, hb2⟩; obtain ⟨z2, q2, r2, s2, t2⟩ := three hb2 (g := w.heap.size) (by first | (simp; done) | assumption | (simp; omega) | omega)))
    rw [E.out]
    exact end_val zero Tryd.results45 rfl rfl (((bthen hb1 hb2).block _ (by simp)).trans (block3 _ _ _ _)) (bthen (bel3 _ _ _ _) (bthen hb1 hb2)) (by omega)
  rw [h2] at ho'
  have h3 : a.k ≠ b.k := fun e => h ⟨h1, h2, e⟩
  clear h1 h2 h
  obtain ⟨k, n, s⟩ := a
  obtain ⟨k', n', s'⟩ := b
  simp only at h3
  have h3' : (k != k') = true := by simpa using h3
  simp only [V.val] at ho ho'
  show Calls Tryd.prog 45 #[.int .i64 op, .agg #[.int .i64 k, .int .i64 n, .string s], .agg #[.int .i64 k', .int .i64 n', .string s']] w _
  go_enter Tryd.func45, Tryd.ntmps45
  go_wp2_with (first | (go_at_call_of 49 (Value.agg #[.int .i64 k, .int .i64 n, .string s]); refine (ho _).mono ?_; rintro e w1 ⟨rfl, hb1⟩; obtain ⟨z1, q1, r1, s1, t1⟩ := three hb1 (g := w.heap.size) (by first | (simp; done) | assumption | (simp; omega) | omega)) | (go_at_call_of 49 (Value.agg #[.int .i64 k', .int .i64 n', .string s']); refine (ho' _).mono ?_; rintro e w2 ⟨rfl, hb2⟩; obtain ⟨z2, q2, r2, s2, t2⟩ := three hb2 (g := w.heap.size) (by first | (simp; done) | assumption | (simp; omega) | omega)))
  rw [E.out]
  exact end_val zero Tryd.results45 rfl rfl (((bthen hb1 hb2).block _ (by simp)).trans (block3 _ _ _ _)) (bthen (bel3 _ _ _ _) (bthen hb1 hb2)) (by omega)

end Go.Proofs.YtaiflkmlpjnmmaaDoor
