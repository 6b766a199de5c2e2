/-
  4 texts of this proof in one, in build order: XOps3, XApply, XFlat, XOpen.
-/
import Derived.Laws.MakeOwn
import Derived.ProofKit
import Derived.ChangeSame
import Derived.Test.YtabanbpnghidhaaJ01
import Derived.Test.YtabanbpnghidhaaJ16
import Derived.Test.YtabanbpnghidhaaJ17
namespace Go.Proofs.Ytabanbpnghidhaa
open Go.RowKit

set_option maxRecDepth 100000 in
set_option maxHeartbeats 2000000 in
theorem ofTwo_and (a b : V) (w : World) : Calls Try.prog 94 #[.int .i64 7, a.val, b.val] w fun e w' => e = .returned (twoV 7 a b).val ∧ Below w.heap.size w w' := by
  have ho := fun w => of_any a w
  have ho' := fun w => of_any b w
  have E : Hid (twoV 7 a b = truthV (tAnd (ofV a) (ofV b))) := rfl
  generalize ofV a = o at E ho
  generalize ofV b = o' at E ho'
  generalize twoV 7 a b = r at E
  obtain ⟨k, n, s⟩ := a
  obtain ⟨k', n', s'⟩ := b
  simp only [V.val] at ho ho'
  show Calls Try.prog 94 #[.int .i64 7, .agg #[.int .i64 k, .int .i64 n, .string s], .agg #[.int .i64 k', .int .i64 n', .string s']] w _
  go_enter Try.func94, Try.ntmps94
  go_wp2_with fail
  go_region_held3 (fun w' => w'.cell? ⟨w.heap.size, 0, none⟩ = some (.int .i64 k) ∧ w'.cell? ⟨w.heap.size, 1, none⟩ = some (.int .i64 n) ∧ w'.cell? ⟨w.heap.size, 2, none⟩ = some (.string s) ∧ w'.cell? ⟨w.heap.size + 1, 0, none⟩ = some (.int .i64 k') ∧ w'.cell? ⟨w.heap.size + 1, 1, none⟩ = some (.int .i64 n') ∧ w'.cell? ⟨w.heap.size + 1, 2, none⟩ = some (.string s')) (first | (go_keep; done) | ((try dsimp only); (repeat' apply And.intro) <;> (rw [cell_set_ne (by omega), cell_set_ne (by omega), cell_set_ne (by omega)]; first | assumption | go_keep | simp_all)))
    (first | (go_at_call_of 108 (Value.agg #[.int .i64 k, .int .i64 n, .string s]); refine (ho _).mono ?_; rintro e w1 ⟨rfl, hb1⟩; obtain ⟨z1, q1, r1, s1, t1⟩ := three hb1 (g := w.heap.size) (by first | (simp; done) | assumption | (simp; omega) | omega)) | (go_at_call_of 108 (Value.agg #[.int .i64 k', .int .i64 n', .string s']); refine (ho' _).mono ?_; rintro e w2 ⟨rfl, hb2⟩; obtain ⟨z2, q2, r2, s2, t2⟩ := three hb2 (g := w.heap.size) (by first | (simp; done) | assumption | (simp; omega) | omega)) | (go_at_call 110; refine (and_any _ _ _).mono ?_; rintro e w' ⟨rfl, rfl⟩) | (go_at_call 106; refine (truth_any _ _).mono ?_; rintro e w3 ⟨rfl, hb3⟩; simp only [V.val]; obtain ⟨z3, q3, r3, s3, t3⟩ := three hb3 (g := w.heap.size) (by first | (simp; done) | assumption | (simp; omega) | omega)))
  go_wp2
  rw [E.out]
  exact end_val _ Try.results94 rfl rfl (((bthen hb1 (bthen hb2 hb3)).block _ (by simp)).trans (block3 _ _ _ _)) (bthen (bel3 _ _ _ _).drew (bthen hb1 (bthen hb2 hb3))) (by omega)

set_option maxRecDepth 100000 in
set_option maxHeartbeats 2000000 in
theorem ofTwo_or (a b : V) (w : World) : Calls Try.prog 94 #[.int .i64 8, a.val, b.val] w fun e w' => e = .returned (twoV 8 a b).val ∧ Below w.heap.size w w' := by
  have ho := fun w => of_any a w
  have ho' := fun w => of_any b w
  have E : Hid (twoV 8 a b = truthV (tOr (ofV a) (ofV b))) := rfl
  generalize ofV a = o at E ho
  generalize ofV b = o' at E ho'
  generalize twoV 8 a b = r at E
  obtain ⟨k, n, s⟩ := a
  obtain ⟨k', n', s'⟩ := b
  simp only [V.val] at ho ho'
  show Calls Try.prog 94 #[.int .i64 8, .agg #[.int .i64 k, .int .i64 n, .string s], .agg #[.int .i64 k', .int .i64 n', .string s']] w _
  go_enter Try.func94, Try.ntmps94
  go_wp2_with fail
  go_region_held3 (fun w' => w'.cell? ⟨w.heap.size, 0, none⟩ = some (.int .i64 k) ∧ w'.cell? ⟨w.heap.size, 1, none⟩ = some (.int .i64 n) ∧ w'.cell? ⟨w.heap.size, 2, none⟩ = some (.string s) ∧ w'.cell? ⟨w.heap.size + 1, 0, none⟩ = some (.int .i64 k') ∧ w'.cell? ⟨w.heap.size + 1, 1, none⟩ = some (.int .i64 n') ∧ w'.cell? ⟨w.heap.size + 1, 2, none⟩ = some (.string s')) (first | (go_keep; done) | ((try dsimp only); (repeat' apply And.intro) <;> (rw [cell_set_ne (by omega), cell_set_ne (by omega), cell_set_ne (by omega)]; first | assumption | go_keep | simp_all)))
    (first | (go_at_call_of 108 (Value.agg #[.int .i64 k, .int .i64 n, .string s]); refine (ho _).mono ?_; rintro e w1 ⟨rfl, hb1⟩; obtain ⟨z1, q1, r1, s1, t1⟩ := three hb1 (g := w.heap.size) (by first | (simp; done) | assumption | (simp; omega) | omega)) | (go_at_call_of 108 (Value.agg #[.int .i64 k', .int .i64 n', .string s']); refine (ho' _).mono ?_; rintro e w2 ⟨rfl, hb2⟩; obtain ⟨z2, q2, r2, s2, t2⟩ := three hb2 (g := w.heap.size) (by first | (simp; done) | assumption | (simp; omega) | omega)) | (go_at_call 111; refine (or_any _ _ _).mono ?_; rintro e w' ⟨rfl, rfl⟩) | (go_at_call 106; refine (truth_any _ _).mono ?_; rintro e w3 ⟨rfl, hb3⟩; simp only [V.val]; obtain ⟨z3, q3, r3, s3, t3⟩ := three hb3 (g := w.heap.size) (by first | (simp; done) | assumption | (simp; omega) | omega)))
  go_wp2
  rw [E.out]
  exact end_val _ Try.results94 rfl rfl (((bthen hb1 (bthen hb2 hb3)).block _ (by simp)).trans (block3 _ _ _ _)) (bthen (bel3 _ _ _ _).drew (bthen hb1 (bthen hb2 hb3))) (by omega)

set_option maxRecDepth 100000 in
set_option maxHeartbeats 2000000 in
theorem ofTwo_any (op : Int) (a b : V) (w : World) (ha : a.s.size ≤ maxLen) (hb : b.s.size ≤ maxLen) : Calls Try.prog 94 #[.int .i64 op, a.val, b.val] w fun e w' => e = .returned (twoV op a b).val ∧ Below w.heap.size w w' := by
  by_cases h7 : op = 7
  · subst h7; exact ofTwo_and a b w
  by_cases h8 : op = 8
  · subst h8; exact ofTwo_or a b w
  have ho := fun w => known_any a w ha
  have ho' := fun w => known_any b w hb
  clear ha hb
  by_cases h : knownV a = true ∧ knownV b = true ∧ a.k = b.k
  · have E : Hid (twoV op a b = knV op a b) := by show _ = _; simp only [twoV, h7, h8, if_false]; rw [if_pos h]
    have hk := fun w => ofKnown_any op a b w h.1 h.2.1 h.2.2
    generalize twoV op a b = r at E
    generalize knV op a b = q at E hk
    obtain ⟨h1, h2, h3⟩ := h
    rw [h1] at ho
    rw [h2] at ho'
    clear h1 h2
    obtain ⟨k, n, s⟩ := a
    obtain ⟨k', n', s'⟩ := b
    simp only at h3
    subst h3
    simp only [V.val] at ho ho' hk
    show Calls Try.prog 94 #[.int .i64 op, .agg #[.int .i64 k, .int .i64 n, .string s], .agg #[.int .i64 k, .int .i64 n', .string s']] w _
    go_enter Try.func94, Try.ntmps94
    go_wp2_with (first | (go_at_call_of 112 (Value.agg #[.int .i64 k, .int .i64 n, .string s]); refine (ho _).mono ?_; rintro e w1 ⟨rfl, hb1⟩; obtain ⟨z1, q1, r1, s1, t1⟩ := three hb1 (g := w.heap.size) (by first | (simp; done) | assumption | (simp; omega) | omega)) | (go_at_call_of 112 (Value.agg #[.int .i64 k, .int .i64 n', .string s']); refine (ho' _).mono ?_; rintro e w2 ⟨rfl, hb2⟩; obtain ⟨z2, q2, r2, s2, t2⟩ := three hb2 (g := w.heap.size) (by first | (simp; done) | assumption | (simp; omega) | omega)) | (go_at_call 113; refine (hk _).mono ?_; rintro e w3 ⟨rfl, hb3⟩; obtain ⟨z3, q3, r3, s3, t3⟩ := three hb3 (g := w.heap.size) (by first | (simp; done) | assumption | (simp; omega) | omega)))
    rw [E.out]
    exact end_val _ Try.results94 rfl rfl (((bthen hb1 (bthen hb2 hb3)).block _ (by simp)).trans (block3 _ _ _ _)) (bthen (bel3 _ _ _ _) (bthen hb1 (bthen hb2 hb3))) (by omega)
  have E : Hid (twoV op a b = zero) := by show _ = _; simp only [twoV, h7, h8, if_false]; rw [if_neg h]
  generalize twoV op a b = r at E
  cases h1 : knownV a
  · rw [h1] at ho
    clear h1 h ho'
    obtain ⟨k, n, s⟩ := a
    obtain ⟨k', n', s'⟩ := b
    simp only [V.val] at ho
    show Calls Try.prog 94 #[.int .i64 op, .agg #[.int .i64 k, .int .i64 n, .string s], .agg #[.int .i64 k', .int .i64 n', .string s']] w _
    go_enter Try.func94, Try.ntmps94
    go_wp2_with (first | (go_at_call_of 112 (Value.agg #[.int .i64 k, .int .i64 n, .string s]); refine (ho _).mono ?_; rintro e w1 ⟨rfl, hb1⟩; obtain ⟨z1, q1, r1, s1, t1⟩ := three hb1 (g := w.heap.size) (by first | (simp; done) | assumption | (simp; omega) | omega)))
    rw [E.out]
    exact end_val zero Try.results94 rfl rfl ((hb1.block _ (by simp)).trans (block3 _ _ _ _)) (bthen (bel3 _ _ _ _) hb1) (by omega)
  rw [h1] at ho
  cases h2 : knownV b
  · rw [h2] at ho'
    clear h1 h2 h
    obtain ⟨k, n, s⟩ := a
    obtain ⟨k', n', s'⟩ := b
    simp only [V.val] at ho ho'
    show Calls Try.prog 94 #[.int .i64 op, .agg #[.int .i64 k, .int .i64 n, .string s], .agg #[.int .i64 k', .int .i64 n', .string s']] w _
    go_enter Try.func94, Try.ntmps94
    go_wp2_with (first | (go_at_call_of 112 (Value.agg #[.int .i64 k, .int .i64 n, .string s]); refine (ho _).mono ?_; rintro e w1 ⟨rfl, hb1⟩; obtain ⟨z1, q1, r1, s1, t1⟩ := three hb1 (g := w.heap.size) (by first | (simp; done) | assumption | (simp; omega) | omega)) | (go_at_call_of 112 (Value.agg #[.int .i64 k', .int .i64 n', .string s']); refine (ho' _).mono ?_; rintro e w2 ⟨rfl, hb2⟩; obtain ⟨z2, q2, r2, s2, t2⟩ := three hb2 (g := w.heap.size) (by first | (simp; done) | assumption | (simp; omega) | omega)))
    rw [E.out]
    exact end_val zero Try.results94 rfl rfl (((bthen hb1 hb2).block _ (by simp)).trans (block3 _ _ _ _)) (bthen (bel3 _ _ _ _) (bthen hb1 hb2)) (by omega)
  rw [h2] at ho'
  have h3 : a.k ≠ b.k := fun e => h ⟨h1, h2, e⟩
  clear h1 h2 h
  obtain ⟨k, n, s⟩ := a
  obtain ⟨k', n', s'⟩ := b
  simp only at h3
  have h3' : (k != k') = true := by simpa using h3
  simp only [V.val] at ho ho'
  show Calls Try.prog 94 #[.int .i64 op, .agg #[.int .i64 k, .int .i64 n, .string s], .agg #[.int .i64 k', .int .i64 n', .string s']] w _
  go_enter Try.func94, Try.ntmps94
  go_wp2_with (first | (go_at_call_of 112 (Value.agg #[.int .i64 k, .int .i64 n, .string s]); refine (ho _).mono ?_; rintro e w1 ⟨rfl, hb1⟩; obtain ⟨z1, q1, r1, s1, t1⟩ := three hb1 (g := w.heap.size) (by first | (simp; done) | assumption | (simp; omega) | omega)) | (go_at_call_of 112 (Value.agg #[.int .i64 k', .int .i64 n', .string s']); refine (ho' _).mono ?_; rintro e w2 ⟨rfl, hb2⟩; obtain ⟨z2, q2, r2, s2, t2⟩ := three hb2 (g := w.heap.size) (by first | (simp; done) | assumption | (simp; omega) | omega)))
  rw [E.out]
  exact end_val zero Try.results94 rfl rfl (((bthen hb1 hb2).block _ (by simp)).trans (block3 _ _ _ _)) (bthen (bel3 _ _ _ _) (bthen hb1 hb2)) (by omega)

end Go.Proofs.Ytabanbpnghidhaa

namespace Go.Proofs.Ytabanbpnghidhaa
open Go.RowKit

set_option maxRecDepth 100000 in
set_option maxHeartbeats 2000000 in
theorem apply_one (op : Int) (x : V) (s name : Wd) (n : Int) (ao : Option Addr) (k c : Nat) (a : V) (b off cap : Nat) (ro : Option Addr) (rl rc : Nat) (w : World) (hb : b < w.heap.size) (hh : HoldsV w b off [a]) :
    Calls Try.prog 66 #[.agg (eArr op x s name n (.slice ao k c)), .slice (some ⟨b, off, none⟩) 1 cap, .slice ro rl rc] w fun e w' => e = .returned (uniV op a).val ∧ Below w.heap.size w w' := by
  obtain ⟨c0, c1, c2⟩ := hh 0 a rfl
  clear hh
  simp only [Nat.zero_mul, Nat.add_zero] at c0 c1 c2
  have ho := fun w => ofOne_any op a w
  generalize uniV op a = r at ho
  obtain ⟨ak, an, at_⟩ := a
  obtain ⟨xk, xn, xs⟩ := x
  simp only [V.val] at ho
  have hne : b ≠ w.heap.size + 1 := by omega
  have hne0 : b ≠ w.heap.size := by omega
  go_enter Try.func66, Try.ntmps66
  go_wp2_with fail
  go_region_held3 (fun w' => w'.cell? ⟨w.heap.size, 0, none⟩ = some (.int .i64 op) ∧ w'.cell? ⟨b, off, none⟩ = some (.int .i64 ak) ∧ w'.cell? ⟨b, off + 1, none⟩ = some (.int .i64 an) ∧ w'.cell? ⟨b, off + 2, none⟩ = some (.string at_)) (first | (go_keep; done) | ((try dsimp only); (repeat' apply And.intro) <;> (rw [cell_set_ne (by omega), cell_set_ne (by omega), cell_set_ne (by omega)]; first | assumption | go_keep | simp_all)))
    (first | (go_at_call 93; refine (ho _).mono ?_; rintro e w1 ⟨rfl, hb1⟩; obtain ⟨z1, q1, r1, t1, s1⟩ := two_of hb1 (g := w.heap.size) (b := b) (by first | (simp; done) | assumption | (simp; omega) | omega) hb))
  go_wp2
  exact end_val _ Try.results66 rfl rfl ((hb1.block _ (by simp)).trans (block2 _ _ _)) (bthen (bel2 _ _ _).drew hb1) (by omega)

set_option maxRecDepth 100000 in
set_option maxHeartbeats 2000000 in
theorem apply_two (op : Int) (x : V) (s name : Wd) (n : Int) (ao : Option Addr) (k c : Nat) (a a' : V) (b off cap : Nat) (ro : Option Addr) (rl rc : Nat) (w : World) (hb : b < w.heap.size) (hh : HoldsV w b off [a, a']) (hs : a.s.size ≤ maxLen) (hs' : a'.s.size ≤ maxLen) :
    Calls Try.prog 66 #[.agg (eArr op x s name n (.slice ao k c)), .slice (some ⟨b, off, none⟩) 2 cap, .slice ro rl rc] w fun e w' => e = .returned (twoV op a a').val ∧ Below w.heap.size w w' := by
  obtain ⟨c0, c1, c2⟩ := hh 0 a rfl
  obtain ⟨d0, d1, d2⟩ := hh 1 a' rfl
  clear hh
  simp only [Nat.zero_mul, Nat.add_zero, Nat.one_mul] at c0 c1 c2 d0 d1 d2
  have ho := fun w => ofTwo_any op a a' w hs hs'
  generalize twoV op a a' = r at ho
  clear hs hs'
  obtain ⟨ak, an, at_⟩ := a
  obtain ⟨bk, bn, bt⟩ := a'
  obtain ⟨xk, xn, xs⟩ := x
  simp only [V.val] at ho
  have hne : b ≠ w.heap.size + 1 := by omega
  have hne0 : b ≠ w.heap.size := by omega
  go_enter Try.func66, Try.ntmps66
  go_wp2_with fail
  go_region_held3 (fun w' => w'.cell? ⟨w.heap.size, 0, none⟩ = some (.int .i64 op) ∧ w'.cell? ⟨b, off, none⟩ = some (.int .i64 ak) ∧ w'.cell? ⟨b, off + 1, none⟩ = some (.int .i64 an) ∧ w'.cell? ⟨b, off + 2, none⟩ = some (.string at_) ∧ w'.cell? ⟨b, off + 3, none⟩ = some (.int .i64 bk) ∧ w'.cell? ⟨b, off + 3 + 1, none⟩ = some (.int .i64 bn) ∧ w'.cell? ⟨b, off + 3 + 2, none⟩ = some (.string bt)) (first | (go_keep; done) | ((try dsimp only); (repeat' apply And.intro) <;> (rw [cell_set_ne (by omega), cell_set_ne (by omega), cell_set_ne (by omega)]; first | assumption | go_keep | simp_all)))
    (first | (go_at_call 94; refine (ho _).mono ?_; rintro e w1 ⟨rfl, hb1⟩; obtain ⟨z1, q1, r1, t1, s1⟩ := two_of hb1 (g := w.heap.size) (b := b) (by first | (simp; done) | assumption | (simp; omega) | omega) hb))
  go_wp2
  exact end_val _ Try.results66 rfl rfl ((hb1.block _ (by simp)).trans (block2 _ _ _)) (bthen (bel2 _ _ _).drew hb1) (by omega)

set_option maxRecDepth 100000 in
set_option maxHeartbeats 2000000 in
theorem apply_none (op : Int) (x : V) (s name : Wd) (n : Int) (ao : Option Addr) (k c : Nat) (av : Option Addr) (al ac : Nat) (rv : Value) (row : List V) (w : World) (hr : IsVals w rv row) (hn : row.length ≤ maxLen) (h1 : al ≠ 1) (h2 : al ≠ 2) :
    Calls Try.prog 66 #[.agg (eArr op x s name n (.slice ao k c)), .slice av al ac, rv] w fun e w' => e = .returned (noneV op x n row).val ∧ Below w.heap.size w w' := by
  have ho := fun w' (h : Below w.heap.size w w') => ofNone_any op x s name n (.slice ao k c) rv row w' (hr.below h) hn ⟨_, _, _, rfl⟩
  obtain ⟨ro, rc, rfl⟩ := hr.shape
  generalize noneV op x n row = r at ho
  obtain ⟨xk, xn, xs⟩ := x
  simp only [V.val] at ho
  have e1 : ((al : Int) == 1) = false := by simp; omega
  have e2 : ((al : Int) == 2) = false := by simp; omega
  go_enter Try.func66, Try.ntmps66
  go_wp2_with (first | (go_at_call 95; refine (ho _ (bel2 _ _ _)).mono ?_; rintro e w1 ⟨rfl, hb1⟩; obtain ⟨hcc, hff⟩ := bcell hb1))
  exact end_val _ Try.results66 rfl rfl ((hb1.block _ (by simp)).trans (block2 _ _ _)) (bthen (bel2 _ _ _) hb1) (by omega)

/-- What an expression comes to, by what its arguments came to. -/
theorem apply_any (op : Int) (x : V) (s name : Wd) (n : Int) (ao : Option Addr) (k c : Nat) (av rv : Value) (cs row : List V) (w : World) (ha : IsVals w av cs) (hs : ∀ v ∈ cs, v.s.size ≤ maxLen) (hr : IsVals w rv row) (hn : row.length ≤ maxLen) :
    Calls Try.prog 66 #[.agg (eArr op x s name n (.slice ao k c)), av, rv] w fun e w' => e = .returned (appV op x n cs row).val ∧ Below w.heap.size w w' := by
  match cs, ha, hs with
  | [], ha, _ =>
    obtain ⟨xo, xc, rfl⟩ := ha.shape
    exact apply_none op x s name n ao k c xo _ xc rv row w hr hn (by simp) (by simp)
  | [a], ha, _ =>
    obtain ⟨ro, rc, rfl⟩ := hr.shape
    rcases ha with ⟨_, h⟩ | ⟨b, off, cap, rfl, hb, hh⟩
    · cases h
    · exact apply_one op x s name n ao k c a b off cap ro _ rc w hb hh
  | [a, a'], ha, hs =>
    obtain ⟨ro, rc, rfl⟩ := hr.shape
    rcases ha with ⟨_, h⟩ | ⟨b, off, cap, rfl, hb, hh⟩
    · cases h
    · exact apply_two op x s name n ao k c a a' b off cap ro _ rc w hb hh (hs a (by simp)) (hs a' (by simp))
  | a :: b :: d :: r, ha, _ =>
    obtain ⟨xo, xc, rfl⟩ := ha.shape
    exact apply_none op x s name n ao k c xo _ xc rv row w hr hn (by simp) (by simp)

end Go.Proofs.Ytabanbpnghidhaa

namespace Go.Proofs.Ytabanbpnghidhaa
open Go.RowKit

mutual
/-- Texts that fit. -/
def fitE : E → Prop
  | .mk _ x _ _ _ l => x.s.size ≤ maxLen ∧ fitL l
def fitL : List E → Prop
  | [] => True
  | e :: l => fitE e ∧ fitL l
end
theorem fitL_mem : ∀ {l : List E} {e : E}, fitL l → e ∈ l → fitE e
  | [], _, _, h => by cases h
  | x :: l, e, h, he => by
    rw [fitL] at h
    rcases List.mem_cons.1 he with rfl | he
    · exact h.1
    · exact fitL_mem h.2 he
theorem fitE_kids {e : E} (h : fitE e) : ∀ x ∈ e.kids, fitE x := by
  cases e with
  | mk op x s name n l =>
    rw [fitE] at h
    intro y hy
    simp only [E.kids, kidsOf] at hy
    split at hy
    · exact fitL_mem h.2 hy
    · cases hy
theorem small_zero : zero.s.size ≤ maxLen := by simp [zero, ByteArray.size]
theorem small_truth (n : Int) : (truthV n).s.size ≤ maxLen := by unfold truthV; split <;> simp [zero, ByteArray.size]
theorem small_wh (b : Bool) : (whV b).s.size ≤ maxLen := by simp [whV, ByteArray.size]
theorem small_num (n : Int) : (numV n).s.size ≤ maxLen := by unfold numV; split <;> simp [zero, ByteArray.size]
theorem small_uni (op : Int) (a : V) : (uniV op a).s.size ≤ maxLen := by
  unfold uniV
  split
  · exact small_truth _
  · split
    · exact small_wh _
    · exact small_zero
theorem small_kn (op : Int) (a b : V) : (knV op a b).s.size ≤ maxLen := by
  unfold knV
  split
  · exact small_wh _
  · split
    · exact small_wh _
    · split
      · split
        · exact small_num _
        · split
          · exact small_num _
          · exact small_zero
      · exact small_zero
theorem small_two (op : Int) (a b : V) : (twoV op a b).s.size ≤ maxLen := by
  unfold twoV
  split
  · exact small_truth _
  · split
    · exact small_truth _
    · split
      · exact small_kn _ _ _
      · exact small_zero
theorem small_none (op : Int) (x : V) (n : Int) (row : List V) (hx : x.s.size ≤ maxLen) (hr : ∀ v ∈ row, v.s.size ≤ maxLen) : (noneV op x n row).s.size ≤ maxLen := by
  unfold noneV rowV
  split
  · exact hx
  · split
    · split
      · cases h : row[n.toNat]? with
        | none => exact small_zero
        | some v => exact hr v (List.mem_of_getElem? h)
      · exact small_zero
    · exact small_zero
theorem small_ev (row : List V) (hr : ∀ v ∈ row, v.s.size ≤ maxLen) (e : E) (h : fitE e) : (ev row e).s.size ≤ maxLen := by
  cases e with
  | mk op x s name n l =>
    rw [fitE] at h
    rw [ev_kids]
    unfold appV
    split
    · exact small_uni _ _
    · exact small_two _ _ _
    · exact small_none op x n row h.1 hr

/-- What the last ones came to. -/
def Came (row : List V) (L : List E) (r : Nat) (w : World) (g : Nat) : Prop :=
  ∃ arr : Array Value, w.heap[g]? = some (.cells arr 32 (0, 0)) ∧ arr.size = L.length * 3 ∧
    ∀ (j : Nat) (x : E), r ≤ j → L[j]? = some x → arr[j * 3]? = some (.int .i64 (ev row x).k) ∧ arr[j * 3 + 1]? = some (.int .i64 (ev row x).n) ∧ arr[j * 3 + 2]? = some (.string (ev row x).s)
theorem Came.keep {row : List V} {L : List E} {r : Nat} {w w' : World} {g : Nat} (h : Came row L r w g) (hb : w'.heap[g]? = w.heap[g]?) : Came row L r w' g := by
  obtain ⟨arr, h1, h2⟩ := h
  exact ⟨arr, hb.trans h1, h2⟩
theorem Came.cell {row : List V} {L : List E} {r : Nat} {w : World} {g : Nat} (h : Came row L r w g) {j : Nat} (hj : j < L.length * 3) : ∃ u, w.cell? ⟨g, j, none⟩ = some u := by
  obtain ⟨arr, h1, h2, _⟩ := h
  exact ⟨_, cell_of_block h1 (Array.getElem?_eq_getElem (by omega : j < arr.size))⟩
theorem Came.free {row : List V} {L : List E} {r : Nat} {w : World} {g : Nat} (h : Came row L r w g) (o : Nat) : w.frozen? ⟨g, o, none⟩ = false := by
  obtain ⟨arr, h1, _⟩ := h
  simp [World.frozen?, h1]
theorem Came.set {row : List V} {L : List E} {r : Nat} {w : World} {g : Nat} (h : Came row L (r + 1) w g) {x : E} (hx : L[r]? = some x) (v : V) (hv : v = ev row x) :
    Came row L r (((w.setCell ⟨g, r * 3, none⟩ (.int .i64 v.k)).setCell ⟨g, r * 3 + 1, none⟩ (.int .i64 v.n)).setCell ⟨g, r * 3 + 2, none⟩ (.string v.s)) g := by
  obtain ⟨arr, h1, h2, h3⟩ := h
  have hr : r < L.length := (List.getElem?_eq_some_iff.1 hx).1
  refine ⟨_, set_at (set_at (set_at h1 _ _) _ _) _ _, by simp [h2], fun j y hj hy => ?_⟩
  by_cases hjr : j = r
  · subst hjr
    rw [hx] at hy
    cases hy
    subst hv
    refine ⟨?_, ?_, ?_⟩
    all_goals simp [Array.getElem?_setIfInBounds, h2]; try omega
  · obtain ⟨a0, a1, a2⟩ := h3 j y (by omega) hy
    have n0 : r * 3 ≠ j * 3 := by omega
    have n1 : r * 3 + 1 ≠ j * 3 := by omega
    have n2 : r * 3 + 2 ≠ j * 3 := by omega
    have n3 : r * 3 ≠ j * 3 + 1 := by omega
    have n4 : r * 3 + 1 ≠ j * 3 + 1 := by omega
    have n5 : r * 3 + 2 ≠ j * 3 + 1 := by omega
    have n6 : r * 3 ≠ j * 3 + 2 := by omega
    have n7 : r * 3 + 1 ≠ j * 3 + 2 := by omega
    have n8 : r * 3 + 2 ≠ j * 3 + 2 := by omega
    refine ⟨?_, ?_, ?_⟩
    · rw [Array.getElem?_setIfInBounds_ne n2, Array.getElem?_setIfInBounds_ne n1, Array.getElem?_setIfInBounds_ne n0]; exact a0
    · rw [Array.getElem?_setIfInBounds_ne n5, Array.getElem?_setIfInBounds_ne n4, Array.getElem?_setIfInBounds_ne n3]; exact a1
    · rw [Array.getElem?_setIfInBounds_ne n8, Array.getElem?_setIfInBounds_ne n7, Array.getElem?_setIfInBounds_ne n6]; exact a2
theorem Came.holds {row : List V} {e : E} {L : List E} {r : Nat} {w : World} {g : Nat} (h : Came row L (r + 1) w g) (hQ : Queue e L L.length) {x : E} (hx : L[r]? = some x) : HoldsV w g (beg L r * 3) (x.kids.map (ev row)) := by
  obtain ⟨arr, h1, h2, h3⟩ := h
  intro i v hi
  rw [List.getElem?_map] at hi
  cases hk : x.kids[i]? with
  | none => rw [hk] at hi; cases hi
  | some y =>
    rw [hk] at hi
    simp at hi
    subst hi
    have hr : r < L.length := (List.getElem?_eq_some_iff.1 hx).1
    have hb := hQ.behind hr
    obtain ⟨a0, a1, a2⟩ := h3 (beg L r + i) y (by omega) (hQ.at hx hk)
    have e0 : beg L r * 3 + i * 3 = (beg L r + i) * 3 := by omega
    rw [e0]
    exact ⟨cell_of_block h1 a0, cell_of_block h1 a1, cell_of_block h1 a2⟩

theorem info_val : (Try.prog.info? 32).map (fun i => (i.zero, i.size, i.bytes)) = some (some (.agg #[.int .i64 0, .int .i64 0, .string ⟨#[]⟩]), 3, 32) := by kernel_rfl
set_option maxRecDepth 100000 in
set_option maxHeartbeats 4000000 in
theorem evalFlat_any (e : E) (v rv : Value) (row : List V) (C : Nat) (w : World) (he : IsE (fun k => k < C) w e v) (hC : C ≤ w.heap.size) (hn : e.nodes ≤ 16777216) (hf : fitE e) (hr : IsVals w rv row) (hrs : ∀ v ∈ row, v.s.size ≤ maxLen) (hrl : row.length ≤ maxLen) :
    Calls Try.prog 64 #[v, rv] w fun r w' => r = .returned (ev row e).val ∧ Below w.heap.size w w' := by
  obtain ⟨op, ⟨xk, xn, xs⟩, s, name, n, ao, k, c, rfl⟩ := he.shape
  obtain ⟨ro, rc, rfl⟩ := hr.shape
  have hb2 : Below w.heap.size w ((w.alloc (.cells (eArr op ⟨xk, xn, xs⟩ s name n (.slice ao k c)) 34)).alloc (.cells #[.int .i64 0, .int .i64 0, .string noW] 32)) := bel2 _ _ _
  have hW := withArguments_any e _ C _ (IsE.keep (keepsC (hb2.mono hC)) e _ he) (Nat.le_trans hC hb2.size) hn
  go_enter Try.func64, Try.ntmps64
  go_wp2_with (first | (go_at_call 91; refine hW.mono ?_; rintro r1 w1 ⟨zv, L, P, rfl, hrow, hP, hQ, hb1, hsz1⟩; obtain ⟨zo, zc, rfl⟩ := hrow.shape))
  obtain ⟨i0, hi, hz0, hz1, hz2⟩ := info_parts info_val
  have hlen : L.length ≤ e.nodes := hQ.len
  have hmk := run_make (P := Try.prog) w1 48 32 i0 (.agg #[.int .i64 0, .int .i64 0, .string ⟨#[]⟩]) Try.underlying48 hi hz0 .i64 .i64 L.length L.length (by omega) (Int.le_refl _) (by rw [hz2]; omega) (by omega)
  rw [hz1, Int.toNat_natCast] at hmk
  rw [hmk]
  have hmade : (madeCells (Value.agg #[.int .i64 0, .int .i64 0, .string ⟨#[]⟩]).cells (L.length * 3)).size = L.length * 3 := size_madeCells _ _
  generalize madeCells (Value.agg #[.int .i64 0, .int .i64 0, .string ⟨#[]⟩]).cells (L.length * 3) = arr0 at hmade
  have hcame0 : Came row L L.length (w1.alloc (.cells arr0 32)) w1.heap.size := ⟨arr0, block_alloc_at _ _, hmade, fun j x hj hx => by rw [List.getElem?_eq_none hj] at hx; cases hx⟩
  clear hmk hi hz0 hz1 hz2 hmade
  have hbw : Below w.heap.size w w1 := bthen hb2 hb1
  have hres : w1.heap[w.heap.size + 1]? = some (.cells #[.int .i64 0, .int .i64 0, .string noW] 32) := (hb1.block _ (by simp)).trans (block2 _ _ _)
  have hr1 := hr.below hbw
  have hfL : Hid (∀ x ∈ L, fitE x) := hQ.all fitE hf fun y hy => fitE_kids hy
  have HQ : Hid (Queue e L L.length) := hQ
  have HW : Hid (beg L L.length = L.length) := hQ.whole
  have H1 : 0 < L.length := by rw [hQ.eq]; simp
  have H2 : L.length ≤ 16777216 := by omega
  generalize hC1 : ((w.alloc (.cells (eArr op ⟨xk, xn, xs⟩ s name n (.slice ao k c)) 34)).alloc (.cells #[.int .i64 0, .int .i64 0, .string noW] 32)).heap.size + 1 = C1 at hP hsz1
  clear hC1 hb1 hW hb2 he hr hQ hn hf
  go_wp2
  go_loopw [7, 8] (fun en i wr => ∃ r : Nat, r ≤ L.length ∧ en = .int .i64 (beg L r : Nat) ∧ i = .int .i64 ((r : Int) - 1) ∧ Came row L r wr w1.heap.size ∧ Below w1.heap.size w1 wr) (fun _ i _ => (intOf i + 1).toNat)
  case atStart => exact ⟨L.length, Nat.le_refl _, by rw [HW.out], rfl, hcame0, (Below.refl _ _).alloc (Nat.le_refl _) _⟩
  case round =>
    obtain ⟨r, hrL, rfl, rfl, hcame, hbel⟩ := hrel
    match r, hrL, hcame with
    | 0, hrL, hcame =>
      have hfst := HQ.out.first
      obtain ⟨arr, a1, a2, a3⟩ := hcame
      obtain ⟨g0, g1, g2⟩ := a3 0 e (Nat.le_refl _) hfst
      have c0 := cell_of_block a1 g0
      have c1 := cell_of_block a1 g1
      have c2 := cell_of_block a1 g2
      clear hfst a1 a2 a3 g0 g1 g2 HQ HW hfL
      generalize hz : ev row e = z at *
      obtain ⟨zk, zn, zs⟩ := z
      simp only [Nat.zero_mul, Nat.zero_add] at c0 c1 c2
      have hlt1 : w.heap.size + 1 < w1.heap.size := lt_of_block hres
      have hres' := (hbel.block _ hlt1).trans hres
      have k0 := cell_of_block hres' (j := 0) rfl
      have k1 := cell_of_block hres' (j := 1) rfl
      have k2 := cell_of_block hres' (j := 2) rfl
      have kf : ∀ o, wr.frozen? ⟨w.heap.size + 1, o, none⟩ = false := fun o => by simp [World.frozen?, hres']
      go_wp2
      rw [hz]
      exact end_val ⟨zk, zn, zs⟩ Try.results64 rfl rfl hres' (hbw.trans (hbel.mono hbw.size)) (by omega)
    | r + 1, hrL, hcame =>
      obtain ⟨x, hx⟩ : ∃ x, L[r]? = some x := ⟨_, List.getElem?_eq_getElem (by omega)⟩
      have hfx := hfL.out x (List.mem_of_getElem? hx)
      obtain ⟨p, hp, hptr⟩ := hP r x hx
      have hptr := hptr.keep (hbel.mono hsz1)
      have HHV : Hid (HoldsV wr w1.heap.size (beg L r * 3) (x.kids.map (ev row))) := hcame.holds HQ.out hx
      have HBS : Hid (beg L (r + 1) = beg L r + x.kids.length) := beg_succ hx
      have hble := HQ.out.beg_le (r + 1)
      rw [HBS.out] at hble ⊢
      obtain ⟨b, o, op, xk, xn, xs, s, name, n, ao, c, l, rfl, hbC, rfl, ⟨c0, c1, c2, c3, c4, c5, c6, c7⟩, hes⟩ := hptr
      have HX : Hid (L[r]? = some (.mk op ⟨xk, xn, xs⟩ s name n l)) := hx
      clear hx
      rcases hrow.2 with ⟨h1, _⟩ | ⟨_, zb, zf, zc', h2, hzlt, _, _, h3⟩
      · omega
      cases h2
      have hzb := (hbel.cell (p := ⟨zb, zf + r, none⟩) hzlt).trans (h3 r _ hp)
      clear h3 hp
      have r0 : (0 : Int) ≤ (r : Int) := by omega
      have r1 : (r : Int) < (L.length : Int) := by omega
      have ha := arguments_kids op ⟨xk, xn, xs⟩ s name n ao c l wr hes (Nat.le_trans hsz1 hbel.size)
      rw [show (((r + 1 : Nat) : Int) - 1) = (r : Int) from by omega]
      simp only [E.kids] at HHV hble ⊢
      generalize hK : kidsOf op l = K at HHV hble ha ⊢
      generalize hbg0 : beg L r = bg at HHV hble ⊢
      have HBG : Hid (beg L r = bg) := hbg0
      clear hbg0
      go_wp2_with (first | (go_at_call 65; refine ha.mono ?_; rintro e1 w2 ⟨ko, kc, rfl, hk1, hbk⟩))
      have hgr : w1.heap.size < wr.heap.size := by obtain ⟨arr, a1, _⟩ := hcame; exact lt_of_block a1
      have hcame2 : Came row L (r + 1) w2 w1.heap.size := hcame.keep (hbk.block _ (by obtain ⟨arr, a1, _⟩ := hcame; exact lt_of_block a1))
      have hg2 : w1.heap.size < w2.heap.size := by obtain ⟨arr, a1, _⟩ := hcame2; exact lt_of_block a1
      have hbel2 : Below w1.heap.size w1 w2 := hbel.trans (hbk.mono hbel.size)
      obtain ⟨p1, p2, p3, p4⟩ := four (a := zb) (b := b) (g := w1.heap.size) hbk (by omega) (by omega) (by omega)
      obtain ⟨u0, hu0⟩ := hcame2.cell (j := r * 3) (by omega)
      obtain ⟨u1, hu1⟩ := hcame2.cell (j := r * 3 + 1) (by omega)
      obtain ⟨u2, hu2⟩ := hcame2.cell (j := r * 3 + 2) (by omega)
      have huf := hcame2.free
      have d := fun o => (p1 o)
      have hcs : IsVals w2 (.slice (if L.length = bg then some ⟨w1.heap.size, 0, none⟩ else some ⟨w1.heap.size, bg * 3, none⟩) K.length (L.length - bg)) (K.map (ev row)) := by
        split
        · have hK0 : K = [] := List.eq_nil_of_length_eq_zero (by omega)
          subst hK0
          exact .inl ⟨⟨_, _, rfl, fun h => by cases h⟩, rfl⟩
        · exact .inr ⟨w1.heap.size, bg * 3, L.length - bg, by rw [List.length_map], hg2, HHV.out.below (hbk.mono (Nat.le_refl _)) (by omega)⟩
      have hsm : ∀ v ∈ K.map (ev row), v.s.size ≤ maxLen := by
        intro v hv
        obtain ⟨y, hy, rfl⟩ := List.mem_map.1 hv
        exact small_ev row hrs y (fitE_kids hfx y (by simp only [E.kids]; rw [hK]; exact hy))
      have hap := fun W (hW : Below w2.heap.size w2 W) => apply_any op ⟨xk, xn, xs⟩ s name n ao l.length c _ (.slice ro row.length rc) _ row W (hcs.below hW) hsm ((hr1.below hbel2).below hW) hrl
      have HEV : Hid (appV op ⟨xk, xn, xs⟩ n (K.map (ev row)) row = ev row (.mk op ⟨xk, xn, xs⟩ s name n l)) := by show _ = _; rw [ev_kids, hK]
      rw [HEV.out] at hap
      generalize hz : ev row (.mk op ⟨xk, xn, xs⟩ s name n l) = z at hap
      obtain ⟨zk, zn, zs⟩ := z
      simp only [V.val] at hap
      rw [← p2] at c0 c1 c2 c3 c4 c5 c6 c7
      rw [← p1] at hzb
      clear p1 p2 p3 p4 d hsm hcs HEV HHV ha hk1 hes
      have s0 : (0 : Int) ≤ (bg : Int) := by omega
      have s1 : (bg : Int) ≤ (bg : Int) + (K.length : Int) := by omega
      have s2 : (bg : Int) + (K.length : Int) ≤ (L.length : Int) := by omega
      have s3 : (0 : Int) ≤ (bg : Int) + (K.length : Int) := by omega
      have s4 : ((bg : Int) + (K.length : Int)).toNat = bg + K.length := by omega
      by_cases hcb : L.length = bg
      · subst hcb
        have hK0 : K.length = 0 := by omega
        rw [if_pos (rfl : L.length = L.length), Nat.sub_self, hK0] at hap
        go_region_held3 (fun w' => w'.cell? ⟨zb, zf + r, none⟩ = some (.pointer (some ⟨b, o, none⟩)) ∧ w'.cell? ⟨b, o, none⟩ = some (.int .i64 op) ∧ w'.cell? ⟨b, o + 1, none⟩ = some (.int .i64 xk) ∧ w'.cell? ⟨b, o + 2, none⟩ = some (.int .i64 xn) ∧ w'.cell? ⟨b, o + 3, none⟩ = some (.string xs) ∧ w'.cell? ⟨b, o + 4, none⟩ = some (.string s) ∧ w'.cell? ⟨b, o + 5, none⟩ = some (.string name) ∧ w'.cell? ⟨b, o + 6, none⟩ = some (.int .i64 n) ∧ w'.cell? ⟨b, o + 7, none⟩ = some (.slice ao l.length c)) (first | (go_keep; done) | ((try dsimp only); (repeat' apply And.intro) <;> (rw [cell_set_ne (by omega), cell_set_ne (by omega), cell_set_ne (by omega)]; first | assumption | go_keep | simp_all)))
          (first | (go_at_call 66; refine (hap _ (Below.refl _ _).drew).mono ?_; rintro e2 w3 ⟨rfl, hb3⟩; obtain ⟨q1, q2, q3, q4⟩ := four (a := zb) (b := b) (g := w1.heap.size) hb3 (show zb < w2.heap.size by omega) (show b < w2.heap.size by omega) hg2))
        go_wp2
        go_roundw
        case rel =>
          refine ⟨r, by omega, by rw [HBG.out], by go_num, ?_, ?_⟩
          · exact (hcame2.keep (hb3.block _ hg2)).set HX.out ⟨zk, zn, zs⟩ hz.symm
          · exact (((hbel2.drew.trans (hb3.mono (Nat.le_of_lt hg2))).setCell (Nat.le_refl _) _).setCell (Nat.le_refl _) _).setCell (Nat.le_refl _) _
        case measure => simp [intOf]
      · rw [if_neg hcb] at hap
        go_region_held3 (fun w' => w'.cell? ⟨zb, zf + r, none⟩ = some (.pointer (some ⟨b, o, none⟩)) ∧ w'.cell? ⟨b, o, none⟩ = some (.int .i64 op) ∧ w'.cell? ⟨b, o + 1, none⟩ = some (.int .i64 xk) ∧ w'.cell? ⟨b, o + 2, none⟩ = some (.int .i64 xn) ∧ w'.cell? ⟨b, o + 3, none⟩ = some (.string xs) ∧ w'.cell? ⟨b, o + 4, none⟩ = some (.string s) ∧ w'.cell? ⟨b, o + 5, none⟩ = some (.string name) ∧ w'.cell? ⟨b, o + 6, none⟩ = some (.int .i64 n) ∧ w'.cell? ⟨b, o + 7, none⟩ = some (.slice ao l.length c)) (first | (go_keep; done) | ((try dsimp only); (repeat' apply And.intro) <;> (rw [cell_set_ne (by omega), cell_set_ne (by omega), cell_set_ne (by omega)]; first | assumption | go_keep | simp_all)))
          (first | (go_at_call 66; refine (hap _ (Below.refl _ _).drew).mono ?_; rintro e2 w3 ⟨rfl, hb3⟩; obtain ⟨q1, q2, q3, q4⟩ := four (a := zb) (b := b) (g := w1.heap.size) hb3 (show zb < w2.heap.size by omega) (show b < w2.heap.size by omega) hg2))
        go_wp2
        go_roundw
        case rel =>
          refine ⟨r, by omega, by rw [HBG.out], by go_num, ?_, ?_⟩
          · exact (hcame2.keep (hb3.block _ hg2)).set HX.out ⟨zk, zn, zs⟩ hz.symm
          · exact (((hbel2.drew.trans (hb3.mono (Nat.le_of_lt hg2))).setCell (Nat.le_refl _) _).setCell (Nat.le_refl _) _).setCell (Nat.le_refl _) _
        case measure => simp [intOf]

end Go.Proofs.Ytabanbpnghidhaa

namespace Go.Proofs.Ytabanbpnghidhaa
open Go.RowKit Go.Deep Go.ChangeShapes

theorem cells_expr : Try.prog.cellsOf 34 = 8 := by kernel_rfl
theorem cells_exprs : Try.prog.cellsOf 30 = 1 := by kernel_rfl
theorem und_expr : ∃ f0 f1 f2 f3 f4 f5 : Field, Try.prog.underlying 34 = some (.struct #[f0, f1, f2, f3, f4, f5]) ∧ (f0.offset = 0 ∧ f1.offset = 1 ∧ f2.offset = 4 ∧ f3.offset = 5 ∧ f4.offset = 6 ∧ f5.offset = 7) ∧
    (f0.type = 3 ∧ f1.type = 32 ∧ f2.type = 9 ∧ f3.type = 9 ∧ f4.type = 3 ∧ f5.type = 30) :=
  ⟨_, _, _, _, _, _, Try.underlying34, ⟨rfl, rfl, rfl, rfl, rfl, rfl⟩, ⟨rfl, rfl, rfl, rfl, rfl, rfl⟩⟩

section
variable {H : Type} {enc : TypeId × Value → H} {w : World} {base : Nat} {spare : Nat → Bool} {held : Bool}

theorem six_fields {t : TypeId} {f0 f1 f2 f3 f4 f5 : Field} {fuel : Nat} {cs : List Value} {x : DataW H × List MemPlace} (ht : Try.prog.underlying t = some (.struct #[f0, f1, f2, f3, f4, f5])) (h : DataW.trod enc Try.prog w base spare held fuel t cs = some x) :
    ∃ y0 y1 y2 y3 y4 y5 n, x.1 = .agg [y0.1, y1.1, y2.1, y3.1, y4.1, y5.1] ∧ cs.length = Try.prog.cellsOf t ∧
      DataW.trod enc Try.prog w base spare held n f0.type ((cs.drop f0.offset).take (Try.prog.cellsOf f0.type)) = some y0 ∧ DataW.trod enc Try.prog w base spare held n f1.type ((cs.drop f1.offset).take (Try.prog.cellsOf f1.type)) = some y1 ∧
      DataW.trod enc Try.prog w base spare held n f2.type ((cs.drop f2.offset).take (Try.prog.cellsOf f2.type)) = some y2 ∧ DataW.trod enc Try.prog w base spare held n f3.type ((cs.drop f3.offset).take (Try.prog.cellsOf f3.type)) = some y3 ∧
      DataW.trod enc Try.prog w base spare held n f4.type ((cs.drop f4.offset).take (Try.prog.cellsOf f4.type)) = some y4 ∧ DataW.trod enc Try.prog w base spare held n f5.type ((cs.drop f5.offset).take (Try.prog.cellsOf f5.type)) = some y5 := by
  obtain ⟨xs, n, _, rfl, hl, hlen, hf⟩ := DataW.trod_struct ht h
  match xs, hlen with
  | [y0, y1, y2, y3, y4, y5], _ => exact ⟨y0, y1, y2, y3, y4, y5, n, by simp, hl, by simpa using hf 0 f0 rfl, by simpa using hf 1 f1 rfl, by simpa using hf 2 f2 rfl, by simpa using hf 3 f3 rfl, by simpa using hf 4 f4 rfl, by simpa using hf 5 f5 rfl⟩

theorem bulk_at {D : Nat → DataW H} : ∀ (n i : Nat), i < n → Rows.uptoBulk (D i) ≤ Rows.uptoBulkAll ((List.range n).map D)
  | n + 1, i, h => by
    rw [List.range_succ, List.map_append]
    have app : ∀ a b : List (DataW H), Rows.uptoBulkAll (a ++ b) = Rows.uptoBulkAll a + Rows.uptoBulkAll b := fun a b => by
      induction a with
      | nil => simp [Rows.uptoBulkAll]
      | cons x r ih => simp only [List.cons_append, Rows.uptoBulkAll, ih]; omega
    rw [app]
    rcases Nat.lt_or_eq_of_le (Nat.lt_succ_iff.1 h) with h1 | h1
    · have := bulk_at (D := D) n i h1; omega
    · subst h1; simp [Rows.uptoBulkAll]
theorem bulk_nodes {D : Nat → DataW H} {f : Nat → E} : ∀ n : Nat, (∀ i, i < n → (f i).nodes ≤ Rows.uptoBulk (D i)) → nodesL ((List.range n).map f) ≤ Rows.uptoBulkAll ((List.range n).map D)
  | 0, _ => by simp [nodesL]
  | n + 1, h => by
    rw [List.range_succ, List.map_append, List.map_append]
    have app : ∀ a b : List (DataW H), Rows.uptoBulkAll (a ++ b) = Rows.uptoBulkAll a + Rows.uptoBulkAll b := fun a b => by
      induction a with
      | nil => simp [Rows.uptoBulkAll]
      | cons x r ih => simp only [List.cons_append, Rows.uptoBulkAll, ih]; omega
    rw [app, nodesL_append]
    have h1 := bulk_nodes n fun i hi => h i (by omega)
    have h2 := h n (by omega)
    simp only [List.map_cons, List.map_nil, nodesL, Rows.uptoBulkAll]
    omega
theorem fit_range {f : Nat → E} : ∀ n : Nat, (∀ i, i < n → fitE (f i)) → fitL ((List.range n).map f) := fun n h => by
  have : ∀ l : List E, (∀ e ∈ l, fitE e) → fitL l := fun l => by
    induction l with
    | nil => intro _; rw [fitL]; trivial
    | cons e l ih => intro h; rw [fitL]; exact ⟨h e (by simp), ih fun x hx => h x (by simp [hx])⟩
  refine this _ fun e he => ?_
  obtain ⟨i, hi, rfl⟩ := List.mem_map.1 he
  exact h i (List.mem_range.1 hi)
theorem allE_range {F : Nat → Prop} {f : Nat → E} {g : Nat → List Value} : ∀ n : Nat, (∀ i, i < n → (g i).length = 8 ∧ IsE F w (f i) (.agg (g i).toArray)) → AllE F w ((List.range n).map f) ((List.range n).flatMap g)
  | 0, _ => by rw [List.range_zero, List.map_nil, AllE]; rfl
  | n + 1, h => by
    rw [List.range_succ, List.map_append, List.flatMap_append]
    exact allE_append (allE_range n fun i hi => h i (by omega)) (by simpa using allE_one (h n (by omega)).1 (h n (by omega)).2)
theorem flat_eight {g : Nat → List Value} : ∀ (n i : Nat), (∀ i, i < n → (g i).length = 8) → i < n → ∀ j, j < 8 → ((List.range n).flatMap g)[i * 8 + j]? = (g i)[j]?
  | n + 1, i, h, hi, j, hj => by
    have hl : ∀ m, m ≤ n + 1 → ((List.range m).flatMap g).length = m * 8 := fun m => by
      induction m with
      | zero => intro _; rfl
      | succ m ih => intro hm; rw [List.range_succ, List.flatMap_append, List.length_append, ih (by omega)]; simp [h m (by omega)]; omega
    rw [List.range_succ, List.flatMap_append]
    rcases Nat.lt_or_eq_of_le (Nat.lt_succ_iff.1 hi) with h1 | h1
    · rw [List.getElem?_append_left (by rw [hl n (by omega)]; omega)]
      exact flat_eight n i (fun i hi => h i (by omega)) h1 j hj
    · subst h1
      rw [List.getElem?_append_right (by rw [hl i (by omega)]; omega), hl i (by omega)]
      simp

set_option maxHeartbeats 1000000 in
theorem open_expr : ∀ (N fuel : Nat) (cs : List Value) (x : DataW H × List MemPlace), Rows.uptoBulk x.1 ≤ N → DataW.trod enc Try.prog w base spare held fuel 34 cs = some x →
    ∃ e : E, cs.length = 8 ∧ IsE (fun k => k < w.heap.size) w e (.agg cs.toArray) ∧ fitE e ∧ e.nodes ≤ Rows.uptoBulk x.1 := by
  intro N
  induction N with
  | zero => intro fuel cs x h; have := bulk_pos x.1; omega
  | succ N ih =>
    intro fuel cs x hN h
    obtain ⟨f0, f1, f2, f3, f4, f5, hu, ⟨o0, o1, o2, o3, o4, o5⟩, ⟨t0, t1, t2, t3, t4, t5⟩⟩ := und_expr
    obtain ⟨y0, y1, y2, y3, y4, y5, n, hx, hl, h0, h1, h2, h3, h4, h5⟩ := six_fields hu h
    rw [cells_expr] at hl
    rw [o0, t0, cells_int] at h0
    rw [o1, t1, cells_value] at h1
    rw [o2, t2, cells_string] at h2
    rw [o3, t3, cells_string] at h3
    rw [o4, t4, cells_int] at h4
    rw [o5, t5, cells_exprs] at h5
    match cs, hl with
    | [c0, c1, c2, c3, c4, c5, c6, c7], _ =>
      simp only [List.drop_zero, List.take_succ_cons, List.take_zero, List.drop_succ_cons] at h0 h1 h2 h3 h4 h5
      obtain ⟨a, e0, _, _⟩ := DataW.trod_int Try.underlying3 h0
      obtain ⟨v, e1, hvs, _⟩ := open_value h1
      obtain ⟨s, e2, _, _⟩ := DataW.trod_string Try.underlying9 h2
      obtain ⟨nm, e3, _, _⟩ := DataW.trod_string Try.underlying9 h3
      obtain ⟨q, e4, _, _⟩ := DataW.trod_int Try.underlying3 h4
      obtain ⟨vk, vn, vs⟩ := v
      simp only [V.cells, List.cons.injEq, and_true] at e0 e1 e2 e3 e4
      obtain ⟨e10, e11, e12⟩ := e1
      subst e0 e10 e11 e12 e2 e3 e4
      have hb5 : Rows.uptoBulk y5.1 + 1 ≤ Rows.uptoBulk x.1 := by rw [hx]; simp only [Rows.uptoBulk, Rows.uptoBulkAll]; omega
      rcases open_slice Try.underlying30 h5 with ⟨hcs, rfl⟩ | ⟨ad, len, cap, m, n5, D, Pl, hcs, hb, hlc, hm, hmm, rfl, hxx⟩
      · simp only [List.cons.injEq, and_true] at hcs
        subst hcs
        exact ⟨.mk a ⟨vk, vn, vs⟩ s nm q [], rfl, isE_mk (x := ⟨vk, vn, vs⟩) (IsEs.nil _ _), by rw [fitE, fitL]; exact ⟨hvs, trivial⟩, by simp only [E.nodes, nodesL]; have := bulk_pos x.1; omega⟩
      · simp only [List.cons.injEq, and_true] at hcs
        subst hcs
        have hlm : len ≤ m := by rw [hmm]; split <;> omega
        have hbD : Rows.uptoBulkAll ((List.range len).map D) + 2 ≤ Rows.uptoBulk x.1 := by simp only [Rows.uptoBulk] at hb5; omega
        have each : ∀ i, i < len → ∃ r : E × List Value, r.2.length = 8 ∧ IsE (fun k => k < w.heap.size) w r.1 (.agg r.2.toArray) ∧ fitE r.1 ∧ r.1.nodes ≤ Rows.uptoBulk (D i) ∧ ∀ j u, r.2[j]? = some u → w.cell? (ad.add (i * 8 + j)) = some u := by
          intro i hi
          obtain ⟨cs', k1, k2⟩ := hxx i (by omega)
          rw [cells_expr] at k1
          obtain ⟨_, hlen, hcell⟩ := World.cells?_some k1
          have hbi := bulk_at (D := D) len i hi
          obtain ⟨e, r1, r2, r3, r4⟩ := ih n5 cs' (D i, Pl i) (by simp only; omega) k2
          refine ⟨(e, cs'), r1, r2, r3, r4, fun j u hj => ?_⟩
          have hj8 : j < 8 := by have := (List.getElem?_eq_some_iff.1 hj).1; simp only at this; omega
          have := hcell j (by omega)
          rw [add_add] at this
          rw [this]; exact hj
        have : Inhabited (E × List Value) := ⟨(E.nil, [])⟩
        obtain ⟨f, hf⟩ := choose_lt each
        refine ⟨.mk a ⟨vk, vn, vs⟩ s nm q ((List.range len).map fun i => (f i).1), rfl, ?_, ?_, ?_⟩
        · refine isE_mk (x := ⟨vk, vn, vs⟩) ⟨(List.range len).flatMap fun i => (f i).2, ?_, allE_range len fun i hi => ⟨(hf i hi).1, (hf i hi).2.1⟩⟩
          have hall := allE_length (allE_range (w := w) (F := fun k => k < w.heap.size) (f := fun i => (f i).1) (g := fun i => (f i).2) len fun i hi => ⟨(hf i hi).1, (hf i hi).2.1⟩)
          refine ⟨hall, ?_⟩
          rcases Nat.eq_zero_or_pos len with rfl | hpos
          · exact .inl ⟨by simp, some ad, cap, rfl, fun h => by cases h⟩
          · obtain ⟨b, off, spot⟩ := ad
            obtain ⟨u0, hu0⟩ : ∃ u, (f 0).2[0]? = some u := ⟨_, List.getElem?_eq_getElem (by rw [(hf 0 hpos).1]; omega)⟩
            have hc := (hf 0 hpos).2.2.2.2 0 u0 hu0
            have hspot : spot = none := by simpa [Addr.add] using World.cell?_spot hc
            subst hspot
            have hblt : b < w.heap.size := by have := lt_of_cell hc; simpa [Addr.add] using this
            refine .inr ⟨by simpa using hpos, b, off, cap, by simp, hblt, hblt, by simpa using hlc, hm, fun j u hj => ?_⟩
            have hjl : j < len * 8 := by
              have := (List.getElem?_eq_some_iff.1 hj).1
              rw [hall] at this; simpa using this
            have hfe := flat_eight (g := fun i => (f i).2) len (j / 8) (fun i hi => (hf i hi).1) (by omega) (j % 8) (by omega)
            rw [show j / 8 * 8 + j % 8 = j from by omega] at hfe
            rw [hfe] at hj
            have := (hf (j / 8) (by omega)).2.2.2.2 (j % 8) u hj
            rw [show j / 8 * 8 + j % 8 = j from by omega, Addr.add_lit] at this
            exact this
        · rw [fitE]
          exact ⟨hvs, fit_range len fun i hi => (hf i hi).2.2.1⟩
        · have := bulk_nodes (D := D) (f := fun i => (f i).1) len fun i hi => (hf i hi).2.2.2.1
          simp only [E.nodes]
          omega

end
end Go.Proofs.Ytabanbpnghidhaa

