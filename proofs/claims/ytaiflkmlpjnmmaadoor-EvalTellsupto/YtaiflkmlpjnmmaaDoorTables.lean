/-
  Contracts of the statements' own AndOf, OrOf, NotOf (P1.3, by a table) and CompareOf (P1.2).
-/
import Derived.Test.YtaiflkmlpjnmmaaDoorTruth
import Derived.Test.YtaiflkmlpjnmmaaDoorCompare
import Derived.Test.YtaiflkmlpjnmmaaDoorOrderMath
import Derived.WalkKit
import Derived.WalkSpells
import Derived.WalkLawsBesides
namespace Go.Proofs.YtaiflkmlpjnmmaaDoor
open Go.RowKit

/-- The table of truths lies where it was laid. -/
def TruthsLie (w : World) : Prop := w.cell? ⟨0, 0, none⟩ = some (.int .i64 0) ∧ w.cell? ⟨0, 1, none⟩ = some (.int .i64 2) ∧ w.cell? ⟨0, 2, none⟩ = some (.int .i64 1)

set_option maxHeartbeats 1000000 in
theorem andOf_any (a b : Int) (w : World) (hw : TruthsLie w) : Calls Tryd.prog 8 #[.int .i64 a, .int .i64 b] w fun e w' => e = .returned (.int .i64 (tAnd a b)) ∧ w' = w := by
  obtain ⟨c0, c1, c2⟩ := hw
  by_cases ha0 : a = 0 <;> by_cases hb0 : b = 0 <;> by_cases ha1 : a = 1 <;> by_cases hb1 : b = 1
  all_goals
    go_enter Tryd.func8, Tryd.ntmps8
    go_wp2
    all_goals
      go_ret
      exact ⟨ret_int (by simp_all [tAnd]), rfl⟩

set_option maxHeartbeats 1000000 in
theorem orOf_any (a b : Int) (w : World) (hw : TruthsLie w) : Calls Tryd.prog 10 #[.int .i64 a, .int .i64 b] w fun e w' => e = .returned (.int .i64 (tOr a b)) ∧ w' = w := by
  obtain ⟨c0, c1, c2⟩ := hw
  by_cases ha0 : a = 0 <;> by_cases hb0 : b = 0 <;> by_cases ha1 : a = 1 <;> by_cases hb1 : b = 1
  all_goals
    go_enter Tryd.func10, Tryd.ntmps10
    go_wp2
    all_goals
      go_ret
      exact ⟨ret_int (by simp_all [tOr]), rfl⟩

set_option maxHeartbeats 1000000 in
theorem notOf_any (a : Int) (w : World) (hw : TruthsLie w) : Calls Tryd.prog 12 #[.int .i64 a] w fun e w' => e = .returned (.int .i64 (tNot a)) ∧ w' = w := by
  obtain ⟨c0, c1, c2⟩ := hw
  by_cases ha0 : a = 0 <;> by_cases ha1 : a = 1
  all_goals
    go_enter Tryd.func12, Tryd.ntmps12
    go_wp2
    all_goals
      go_ret
      exact ⟨ret_int (by simp_all [tNot]), rfl⟩

theorem cmpV_of {k1 n1 k2 n2 : Int} {s1 s2 : ByteArray} : cmpV ⟨k1, n1, s1⟩ ⟨k2, n2, s2⟩ = or3 (cmpI k1 k2) (cmpI n1 n2) (cmpS s1 s2) := rfl

set_option maxHeartbeats 2000000 in
theorem compareOf_any (a b : V) (w : World) (ha : good a = true) (hb : good b = true) :
    Calls Tryd.prog 14 #[a.val, b.val] w fun e w' => e = .returned (.int .i64 (cmpV a b)) ∧ Below w.heap.size w w' := by
  obtain ⟨k1, n1, s1⟩ := a
  obtain ⟨k2, n2, s2⟩ := b
  show Calls Tryd.prog 14 #[.agg #[.int .i64 k1, .int .i64 n1, .string s1], .agg #[.int .i64 k2, .int .i64 n2, .string s2]] w _
  have HC : Hid (cmpV ⟨k1, n1, s1⟩ ⟨k2, n2, s2⟩ = or3 (cmpI k1 k2) (cmpI n1 n2) (cmpS s1 s2)) := rfl
  generalize cmpV ⟨k1, n1, s1⟩ ⟨k2, n2, s2⟩ = C at HC ⊢
  rcases cmpI_cases k1 k2 with ⟨h, e⟩ | ⟨h, e⟩ | ⟨h, e⟩
  · have HE : Hid (C = -1) := by show _ = _; rw [HC.out, e]; rfl
    clear e ha hb HC
    go_enter Tryd.func14, Tryd.ntmps14
    go_wp2
    go_ret
    exact ⟨ret_int HE.out.symm, by repeat first | exact Below.refl _ _ | apply Below.drew | refine Below.alloc ?_ (by simp; try omega) _⟩
  · subst h
    rcases cmpI_cases n1 n2 with ⟨h2, e2⟩ | ⟨h2, e2⟩ | ⟨h2, e2⟩
    · have HE : Hid (C = -1) := by show _ = _; rw [HC.out, e, e2]; rfl
      clear e e2 ha hb HC
      go_enter Tryd.func14, Tryd.ntmps14
      go_wp2
      go_ret
      exact ⟨ret_int HE.out.symm, by repeat first | exact Below.refl _ _ | apply Below.drew | refine Below.alloc ?_ (by simp; try omega) _⟩
    · subst h2
      rcases cmpS_cases s1 s2 with ⟨h3, e3⟩ | ⟨h3, e3⟩ | ⟨h3, e3⟩
      · have HE : Hid (C = -1) := by show _ = _; rw [HC.out, e, e2, e3]; rfl
        have hl : Op.bytesLess s1.toList s2.toList = true := by rw [ByteArray.toList_eq, ByteArray.toList_eq]; exact h3
        clear e e2 e3 ha hb HC h3
        go_enter Tryd.func14, Tryd.ntmps14
        go_wp2
        go_ret
        exact ⟨ret_int HE.out.symm, by repeat first | exact Below.refl _ _ | apply Below.drew | refine Below.alloc ?_ (by simp; try omega) _⟩
      · have HE : Hid (C = 0) := by show _ = _; rw [HC.out, e, e2, e3]; rfl
        have hs : s1 = s2 := by rw [← str_toList s1, ← str_toList s2, h3]
        subst hs
        have hl : Op.bytesLess s1.toList s1.toList = false := less_irrefl _
        clear e e2 e3 ha hb HC h3
        go_enter Tryd.func14, Tryd.ntmps14
        go_wp2
        go_ret
        exact ⟨ret_int HE.out.symm, by repeat first | exact Below.refl _ _ | apply Below.drew | refine Below.alloc ?_ (by simp; try omega) _⟩
      · have HE : Hid (C = 1) := by show _ = _; rw [HC.out, e, e2, e3]; rfl
        have hl : Op.bytesLess s1.toList s2.toList = false := by rw [ByteArray.toList_eq, ByteArray.toList_eq]; exact less_asymm _ _ h3
        have hn : ¬ s1.toList = s2.toList := by
          rw [ByteArray.toList_eq, ByteArray.toList_eq]; intro x; rw [x, less_irrefl] at h3; exact absurd h3 (by decide)
        clear e e2 e3 ha hb HC h3
        go_enter Tryd.func14, Tryd.ntmps14
        go_wp2
        go_ret
        exact ⟨ret_int HE.out.symm, by repeat first | exact Below.refl _ _ | apply Below.drew | refine Below.alloc ?_ (by simp; try omega) _⟩
    · have HE : Hid (C = 1) := by show _ = _; rw [HC.out, e, e2]; rfl
      have hk1 : k1 = 1 := by
        rcases good_kind ha with x | x | x
        · simp only at x; subst x; simp [good] at ha hb; omega
        · exact x
        · simp only at x; subst x; simp [good] at ha hb; omega
      subst hk1
      have hl : Op.bytesLess s1.toList s2.toList = false := by
        simp [good] at ha hb
        rw [ha.2, hb.2]; exact less_irrefl _
      clear e e2 ha hb HC
      go_enter Tryd.func14, Tryd.ntmps14
      go_wp2
      go_ret
      exact ⟨ret_int HE.out.symm, by repeat first | exact Below.refl _ _ | apply Below.drew | refine Below.alloc ?_ (by simp; try omega) _⟩
  · have HE : Hid (C = 1) := by show _ = _; rw [HC.out, e]; rfl
    clear e ha hb HC
    go_enter Tryd.func14, Tryd.ntmps14
    go_wp2
    go_ret
    exact ⟨ret_int HE.out.symm, by repeat first | exact Below.refl _ _ | apply Below.drew | refine Below.alloc ?_ (by simp; try omega) _⟩

end Go.Proofs.YtaiflkmlpjnmmaaDoor
