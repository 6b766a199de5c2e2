/-
  Contracts of package eval's ofNone, ofOne, ofKnown, ofTwo, apply: what an expression comes to, by what its arguments came to.
-/
import Derived.Test.YtaiflkmlpjnmmaaDoorXOps
namespace Go.Proofs.YtaiflkmlpjnmmaaDoor
open Go.RowKit

set_option maxRecDepth 100000 in
set_option maxHeartbeats 1000000 in
theorem ofNone_any (op : Int) (x : V) (s name : Wd) (n : Int) (sv rv : Value) (row : List V) (w : World) (hr : IsVals w rv row) (hn : row.length ≤ maxLen) (hsv : ∃ ao k c, sv = .slice ao k c) :
    Calls Tryd.prog 46 #[.agg (eArr op x s name n sv), rv] w fun e w' => e = .returned (noneV op x n row).val ∧ Below w.heap.size w w' := by
  obtain ⟨ao, k, c, rfl⟩ := hsv
  by_cases h1 : op = 1
  · subst h1
    obtain ⟨ro, rc, rfl⟩ := hr.shape
    obtain ⟨xk, xn, xs⟩ := x
    go_enter Tryd.func46, Tryd.ntmps46
    go_wp2
    exact bodyPost_ret (v := .agg #[.int .i64 xk, .int .i64 xn, .string xs]) (by simp [results, Tryd.results46, go_sem]) rfl ⟨rfl, ((Below.refl _ _).alloc (Nat.le_refl _) _).alloc (by simp) _⟩
  by_cases h2 : op = 2
  · subst h2
    by_cases h0 : 0 ≤ n
    · obtain ⟨m, rfl⟩ : ∃ m : Nat, n = m := ⟨n.toNat, by omega⟩
      by_cases hm : m < row.length
      · obtain ⟨v, hv⟩ : ∃ v, row[m]? = some v := ⟨_, List.getElem?_eq_getElem hm⟩
        have E : Hid (noneV 2 x m row = v) := by show _ = _; simp [noneV, rowV, hv]
        rcases hr with ⟨_, rfl⟩ | ⟨b, off, cap, rfl, hb, hh⟩
        · simp at hm
        obtain ⟨c0, c1, c2⟩ := hh m v hv
        clear hh hv
        obtain ⟨vk, vn, vs⟩ := v
        obtain ⟨xk, xn, xs⟩ := x
        go_enter Tryd.func46, Tryd.ntmps46
        go_wp2
        rw [E.out]
        exact bodyPost_ret (v := .agg #[.int .i64 vk, .int .i64 vn, .string vs]) (by simp [results, Tryd.results46, go_sem]) rfl ⟨rfl, ((Below.refl _ _).alloc (Nat.le_refl _) _).alloc (by simp) _⟩
      · have E : Hid (noneV 2 x m row = zero) := by show _ = _; simp [noneV, rowV, List.getElem?_eq_none (by omega : row.length ≤ m)]
        obtain ⟨ro, rc, rfl⟩ := hr.shape
        obtain ⟨xk, xn, xs⟩ := x
        go_enter Tryd.func46, Tryd.ntmps46
        go_wp2
        rw [E.out]
        exact bodyPost_ret (v := .agg #[.int .i64 0, .int .i64 0, .string noW]) (by simp [results, Tryd.results46, go_sem]) rfl ⟨rfl, ((Below.refl _ _).alloc (Nat.le_refl _) _).alloc (by simp) _⟩
    · have E : Hid (noneV 2 x n row = zero) := by show _ = _; simp [noneV, rowV, h0]
      obtain ⟨ro, rc, rfl⟩ := hr.shape
      obtain ⟨xk, xn, xs⟩ := x
      go_enter Tryd.func46, Tryd.ntmps46
      go_wp2
      rw [E.out]
      exact bodyPost_ret (v := .agg #[.int .i64 0, .int .i64 0, .string noW]) (by simp [results, Tryd.results46, go_sem]) rfl ⟨rfl, ((Below.refl _ _).alloc (Nat.le_refl _) _).alloc (by simp) _⟩
  have E : Hid (noneV op x n row = zero) := by show _ = _; simp [noneV, h1, h2]
  obtain ⟨ro, rc, rfl⟩ := hr.shape
  obtain ⟨xk, xn, xs⟩ := x
  go_enter Tryd.func46, Tryd.ntmps46
  go_wp2
  rw [E.out]
  exact bodyPost_ret (v := .agg #[.int .i64 0, .int .i64 0, .string noW]) (by simp [results, Tryd.results46, go_sem]) rfl ⟨rfl, ((Below.refl _ _).alloc (Nat.le_refl _) _).alloc (by simp) _⟩

theorem block2 (w : World) (o1 o2 : Obj) : ((w.alloc o1).alloc o2).heap[w.heap.size + 1]? = some o2 := by
  have := block_alloc_at (w.alloc o1) o2
  rwa [show (w.alloc o1).heap.size = w.heap.size + 1 from by simp] at this
theorem block3 (w : World) (o1 o2 o3 : Obj) : (((w.alloc o1).alloc o2).alloc o3).heap[w.heap.size + 2]? = some o3 := by
  have := block_alloc_at ((w.alloc o1).alloc o2) o3
  rwa [show ((w.alloc o1).alloc o2).heap.size = w.heap.size + 2 from by simp] at this
theorem bel1 (w : World) (o1 : Obj) : Below w.heap.size w (w.alloc o1) := (Below.refl _ _).alloc (Nat.le_refl _) _
theorem bel2 (w : World) (o1 o2 : Obj) : Below w.heap.size w ((w.alloc o1).alloc o2) := (bel1 w o1).alloc (by simp) _
theorem bel3 (w : World) (o1 o2 o3 : Obj) : Below w.heap.size w (((w.alloc o1).alloc o2).alloc o3) := (bel2 w o1 o2).alloc (by simp; omega) _

set_option maxRecDepth 100000 in
set_option maxHeartbeats 1000000 in
theorem ofOne_any (op : Int) (a : V) (w : World) : Calls Tryd.prog 44 #[.int .i64 op, a.val] w fun e w' => e = .returned (oneV op a).val ∧ Below w.heap.size w w' := by
  have ho := fun w => of_any a w
  by_cases h9 : op = 9
  · subst h9
    have E : Hid (oneV 9 a = truthV (tNot (ofV a))) := rfl
    generalize ofV a = o at E ho
    generalize oneV 9 a = r at E
    obtain ⟨k, n, s⟩ := a
    simp only [V.val] at ho
    show Calls Tryd.prog 44 #[.int .i64 9, .agg #[.int .i64 k, .int .i64 n, .string s]] w _
    go_enter Tryd.func44, Tryd.ntmps44
    go_wp2_with (first | (go_at_call 18; refine (ho _).mono ?_; rintro e w1 ⟨rfl, hb1⟩) | (go_at_call 11; refine (not_any _ _).mono ?_; rintro e w2 ⟨rfl, rfl⟩) | (go_at_call 20; refine (truth_any _ _).mono ?_; rintro e w3 ⟨rfl, hb3⟩; simp only [V.val]; obtain ⟨hcc, hff⟩ := bcell (bthen hb1 hb3)))
    rw [E.out]
    exact end_val _ Tryd.results44 rfl rfl (((bthen hb1 hb3).block _ (by simp)).trans (block2 _ _ _)) (bthen (bel2 _ _ _) (bthen hb1 hb3)) (Nat.le_succ _)
  by_cases h10 : op = 10
  · subst h10
    have E : Hid (oneV 10 a = whV (decide (a.k = 0))) := rfl
    generalize oneV 10 a = r at E
    clear ho
    obtain ⟨k, n, s⟩ := a
    show Calls Tryd.prog 44 #[.int .i64 10, .agg #[.int .i64 k, .int .i64 n, .string s]] w _
    go_enter Tryd.func44, Tryd.ntmps44
    go_wp2_with (first | (go_at_call 48; refine (whether_any _ _).mono ?_; rintro e w3 ⟨rfl, hb3⟩; simp only [V.val]; obtain ⟨hcc, hff⟩ := bcell hb3))
    rw [E.out]
    exact end_val _ Tryd.results44 rfl rfl ((hb3.block _ (by simp)).trans (block2 _ _ _)) (bthen (bel2 _ _ _) hb3) (Nat.le_succ _)
  have E : Hid (oneV op a = zero) := by show _ = _; simp [oneV, h9, h10]
  generalize oneV op a = r at E
  clear ho
  obtain ⟨k, n, s⟩ := a
  show Calls Tryd.prog 44 #[.int .i64 op, .agg #[.int .i64 k, .int .i64 n, .string s]] w _
  go_enter Tryd.func44, Tryd.ntmps44
  go_wp2
  rw [E.out]
  exact bodyPost_ret (v := .agg #[.int .i64 0, .int .i64 0, .string noW]) (by simp [results, Tryd.results44, go_sem]) rfl ⟨rfl, bel2 _ _ _⟩

/-- Of numbers that a row may have. -/
theorem add_fits {a b : Int} (h1 : -1000000 ≤ a) (h2 : a ≤ 1000000) (h3 : -1000000 ≤ b) (h4 : b ≤ 1000000) : IntKind.i64.wrap (a + b) = a + b ∧ IntKind.i64.wrap (a - b) = a - b := by
  rw [IntKind.wrap_i64, IntKind.wrap_i64]
  omega

set_option maxRecDepth 100000 in
set_option maxHeartbeats 1000000 in
theorem ofKnown_any (op : Int) (a b : V) (w : World) (ha : knownV a = true) (hb : knownV b = true) (hk : a.k = b.k) : Calls Tryd.prog 50 #[.int .i64 op, a.val, b.val] w fun e w' => e = .returned (knV op a b).val ∧ Below w.heap.size w w' := by
  have hc := fun w => compare_any a b w
  by_cases h5 : op = 5
  · subst h5
    have E : Hid (knV 5 a b = whV (decide (cmpV a b = 0))) := rfl
    generalize cmpV a b = c at E hc
    generalize knV 5 a b = r at E
    clear ha hb hk
    obtain ⟨k, n, s⟩ := a
    obtain ⟨k', n', s'⟩ := b
    simp only [V.val] at hc
    show Calls Tryd.prog 50 #[.int .i64 5, .agg #[.int .i64 k, .int .i64 n, .string s], .agg #[.int .i64 k', .int .i64 n', .string s']] w _
    go_enter Tryd.func50, Tryd.ntmps50
    go_wp2_with (first | (go_at_call 13; refine (hc _).mono ?_; rintro e w1 ⟨rfl, hb1⟩) | (go_at_call 48; refine (whether_any _ _).mono ?_; rintro e w3 ⟨rfl, hb3⟩; simp only [V.val]; obtain ⟨hcc, hff⟩ := bcell (bthen hb1 hb3)))
    rw [E.out]
    exact end_val _ Tryd.results50 rfl rfl (((bthen hb1 hb3).block _ (by simp)).trans (block3 _ _ _ _)) (bthen (bel3 _ _ _ _) (bthen hb1 hb3)) (by omega)
  by_cases h6 : op = 6
  · subst h6
    have E : Hid (knV 6 a b = whV (decide (cmpV a b < 0))) := rfl
    generalize cmpV a b = c at E hc
    generalize knV 6 a b = r at E
    clear ha hb hk
    obtain ⟨k, n, s⟩ := a
    obtain ⟨k', n', s'⟩ := b
    simp only [V.val] at hc
    show Calls Tryd.prog 50 #[.int .i64 6, .agg #[.int .i64 k, .int .i64 n, .string s], .agg #[.int .i64 k', .int .i64 n', .string s']] w _
    go_enter Tryd.func50, Tryd.ntmps50
    go_wp2_with (first | (go_at_call 13; refine (hc _).mono ?_; rintro e w1 ⟨rfl, hb1⟩) | (go_at_call 48; refine (whether_any _ _).mono ?_; rintro e w3 ⟨rfl, hb3⟩; simp only [V.val]; obtain ⟨hcc, hff⟩ := bcell (bthen hb1 hb3)))
    rw [E.out]
    exact end_val _ Tryd.results50 rfl rfl (((bthen hb1 hb3).block _ (by simp)).trans (block3 _ _ _ _)) (bthen (bel3 _ _ _ _) (bthen hb1 hb3)) (by omega)
  clear hc
  by_cases h1 : a.k = 1
  · have hn : -1000000 ≤ a.n ∧ a.n ≤ 1000000 := by have := ha; simp [knownV, good, h1] at this; exact ⟨this.1.1, this.1.2⟩
    have hn' : -1000000 ≤ b.n ∧ b.n ≤ 1000000 := by have := hb; rw [h1] at hk; simp [knownV, good, ← hk] at this; exact ⟨this.1.1, this.1.2⟩
    obtain ⟨e1, e2⟩ := add_fits hn.1 hn.2 hn'.1 hn'.2
    clear hn hn' ha hb hk
    by_cases h3 : op = 3
    · subst h3
      have E : Hid (knV 3 a b = numV (a.n + b.n)) := by show _ = _; simp [knV, h1]
      generalize knV 3 a b = r at E
      obtain ⟨k, n, s⟩ := a
      obtain ⟨k', n', s'⟩ := b
      simp only at h1 e1 e2
      subst h1
      show Calls Tryd.prog 50 #[.int .i64 3, .agg #[.int .i64 1, .int .i64 n, .string s], .agg #[.int .i64 k', .int .i64 n', .string s']] w _
      go_enter Tryd.func50, Tryd.ntmps50
      go_wp2_with (first | (go_at_call 52; refine (number_any _ _).mono ?_; rintro e w3 ⟨rfl, hb3⟩; simp only [V.val]; obtain ⟨hcc, hff⟩ := bcell hb3))
      rw [E.out]
      exact end_val _ Tryd.results50 rfl rfl ((hb3.block _ (by simp)).trans (block3 _ _ _ _)) (bthen (bel3 _ _ _ _) hb3) (by omega)
    by_cases h4 : op = 4
    · subst h4
      have E : Hid (knV 4 a b = numV (a.n - b.n)) := by show _ = _; simp [knV, h1]
      generalize knV 4 a b = r at E
      obtain ⟨k, n, s⟩ := a
      obtain ⟨k', n', s'⟩ := b
      simp only at h1 e1 e2
      subst h1
      show Calls Tryd.prog 50 #[.int .i64 4, .agg #[.int .i64 1, .int .i64 n, .string s], .agg #[.int .i64 k', .int .i64 n', .string s']] w _
      go_enter Tryd.func50, Tryd.ntmps50
      go_wp2_with (first | (go_at_call 52; refine (number_any _ _).mono ?_; rintro e w3 ⟨rfl, hb3⟩; simp only [V.val]; obtain ⟨hcc, hff⟩ := bcell hb3))
      rw [E.out]
      exact end_val _ Tryd.results50 rfl rfl ((hb3.block _ (by simp)).trans (block3 _ _ _ _)) (bthen (bel3 _ _ _ _) hb3) (by omega)
    have E : Hid (knV op a b = zero) := by show _ = _; simp [knV, h3, h4, h5, h6]
    generalize knV op a b = r at E
    obtain ⟨k, n, s⟩ := a
    obtain ⟨k', n', s'⟩ := b
    simp only at h1
    subst h1
    show Calls Tryd.prog 50 #[.int .i64 op, .agg #[.int .i64 1, .int .i64 n, .string s], .agg #[.int .i64 k', .int .i64 n', .string s']] w _
    go_enter Tryd.func50, Tryd.ntmps50
    go_wp2
    rw [E.out]
    exact bodyPost_ret (v := .agg #[.int .i64 0, .int .i64 0, .string noW]) (by simp [results, Tryd.results50, go_sem]) rfl ⟨rfl, bel3 _ _ _ _⟩
  have E : Hid (knV op a b = zero) := by show _ = _; simp [knV, h1, h5, h6]
  generalize knV op a b = r at E
  clear ha hb hk
  obtain ⟨k, n, s⟩ := a
  obtain ⟨k', n', s'⟩ := b
  simp only at h1
  have h1' : (k != 1) = true := by simpa using h1
  show Calls Tryd.prog 50 #[.int .i64 op, .agg #[.int .i64 k, .int .i64 n, .string s], .agg #[.int .i64 k', .int .i64 n', .string s']] w _
  go_enter Tryd.func50, Tryd.ntmps50
  go_wp2
  rw [E.out]
  exact bodyPost_ret (v := .agg #[.int .i64 0, .int .i64 0, .string noW]) (by simp [results, Tryd.results50, go_sem]) rfl ⟨rfl, bel3 _ _ _ _⟩

end Go.Proofs.YtaiflkmlpjnmmaaDoor
