/-
  Contracts of value.goodByte, value.goodText, value.Good: for every value, Good returns whether it is good (P1.1); nothing that was there turns.
-/
import Derived.Test.YtaiflkmlpjnmmaaDoorPlain
import Derived.Test.YtaiflkmlpjnmmaaDoorRows
import Derived.WalkKit
import Derived.WalkSpells
import Derived.WalkLawsBesides
namespace Go.Proofs.YtaiflkmlpjnmmaaDoor
open Go.RowKit

set_option maxHeartbeats 400000 in
theorem goodByte_any (c : Int) (w : World) : Calls Tryd.prog 32 #[.int .u8 c] w fun e w' => e = .returned (.bool (goodb c)) ∧ w' = w := by
  by_cases h1 : 32 ≤ c <;> by_cases h2 : c ≤ 126 <;> by_cases h3 : c = 39
  all_goals
    go_enter Tryd.func32, Tryd.ntmps32
    go_wp2
    all_goals
      go_ret
      exact ⟨ret_bool (by simp_all [goodb]), rfl⟩

set_option maxHeartbeats 400000 in
theorem goodText_long (s : ByteArray) (w : World) (h : 8 < s.size) (hs : s.size ≤ maxLen) :
    Calls Tryd.prog 22 #[.string s] w fun e w' => e = .returned (.bool false) ∧ w' = w := by
  unfold maxLen at hs
  go_enter Tryd.func22, Tryd.ntmps22
  go_wp2
  go_ret
  exact ⟨rfl, rfl⟩

set_option maxHeartbeats 400000 in
theorem goodText_short (s : ByteArray) (w : World) (h : s.size ≤ 8) :
    Calls Tryd.prog 22 #[.string s] w fun e w' => e = .returned (.bool (gtext s.data.toList)) ∧ w' = w := by
  go_enter Tryd.func22, Tryd.ntmps22
  go_wp2
  go_loop [9] (fun i => ∃ k : Nat, k ≤ s.size ∧ i = .int .i64 k ∧ gtext (s.data.toList.take k) = true) (fun i => s.size - (intOf i).toNat)
  case atStart => exact ⟨0, Nat.zero_le _, rfl, rfl⟩
  case round =>
    obtain ⟨k, hk, rfl, hg0⟩ := hrel
    have hg : Hid (gtext (s.data.toList.take k) = true) := hg0
    clear hg0
    by_cases hlt : k < s.size
    · have hsn : Hid (gtext (s.data.toList.take (k + 1)) = (gtext (s.data.toList.take k) && goodb (s[k].toNat : Int))) := by rw [take_snoc s k hlt, gtext_snoc]; rfl
      have hbad : Hid (goodb (s[k].toNat : Int) = false → gtext s.data.toList = false) := gtext_bad s k hlt
      cases hb : goodb (s[k].toNat : Int)
      all_goals
        go_wp2_with (go_at_call 32; refine (goodByte_any _ _).mono ?_; rintro e w' ⟨rfl, rfl⟩)
      · go_ret
        exact ⟨ret_bool (hbad.out hb).symm, rfl⟩
      · go_round
        case rel => exact ⟨k + 1, by omega, by go_num, by rw [hsn.out, hg.out, hb]; rfl⟩
        case measure => simp [intOf]; omega
    · go_wp2
      go_ret
      exact ⟨ret_bool (by have := hg.out; rw [take_all s k (by omega)] at this; exact this.symm), rfl⟩

theorem empty_iff (s : ByteArray) : s.toList.isEmpty = decide (s.size = 0) := by
  rw [ByteArray.toList_eq, show s.size = s.data.toList.length from by simp]; cases s.data.toList <;> simp

set_option maxHeartbeats 1000000 in
theorem good_any (v : V) (w : World) (hs : v.s.size ≤ maxLen) :
    Calls Tryd.prog 5 #[v.val] w fun e w' => e = .returned (.bool (good v)) ∧ w' = w.alloc (.cells #[.int .i64 v.k, .int .i64 v.n, .string v.s] 23) := by
  obtain ⟨k, n, s⟩ := v
  show Calls Tryd.prog 5 #[.agg #[.int .i64 k, .int .i64 n, .string s]] w _
  by_cases h0 : k = 0
  · subst h0
    by_cases hn : n = 0
    all_goals
      go_enter Tryd.func5, Tryd.ntmps5
      go_wp2
      go_ret
      exact ⟨ret_bool (by simp [good, hn, empty_iff]), rfl⟩
  by_cases h1 : k = 1
  · subst h1
    rcases (show n < -1000000 ∨ 1000000 < n ∨ (-1000000 ≤ n ∧ n ≤ 1000000) from by omega) with hn | hn | ⟨hn, hm⟩
    · have e : decide (-1000000 ≤ n) = false := by simp; omega
      go_enter Tryd.func5, Tryd.ntmps5
      go_wp2
      go_ret
      exact ⟨ret_bool (by simp [good, e]), rfl⟩
    · have e : decide (n ≤ 1000000) = false := by simp; omega
      go_enter Tryd.func5, Tryd.ntmps5
      go_wp2
      go_ret
      exact ⟨ret_bool (by simp [good, e]), rfl⟩
    · go_enter Tryd.func5, Tryd.ntmps5
      go_wp2
      go_ret
      exact ⟨ret_bool (by simp [good, hn, hm, empty_iff]), rfl⟩
  by_cases h2 : k = 2
  · subst h2
    by_cases hn : n = 0
    · subst hn
      by_cases h8 : s.size ≤ 8
      · go_enter Tryd.func5, Tryd.ntmps5
        go_wp2_with (go_at_call 22; refine (goodText_short _ _ h8).mono ?_; rintro e w' ⟨rfl, rfl⟩)
        go_ret
        exact ⟨ret_bool (by simp [good, h8]), rfl⟩
      · have h9 : 8 < s.size := by omega
        have e : decide (s.size ≤ 8) = false := by simp; omega
        have E : Hid (decide (s.size ≤ 8) = false) := e
        clear e h8
        go_enter Tryd.func5, Tryd.ntmps5
        go_wp2_with (go_at_call 22; refine (goodText_long s _ h9 hs).mono ?_; rintro e w' ⟨rfl, rfl⟩)
        go_ret
        exact ⟨ret_bool (by have := E.out; simp [good, this]), rfl⟩
    · go_enter Tryd.func5, Tryd.ntmps5
      go_wp2
      go_ret
      exact ⟨ret_bool (by simp [good, hn]), rfl⟩
  go_enter Tryd.func5, Tryd.ntmps5
  go_wp2
  go_ret
  exact ⟨ret_bool (by simp [good, h0, h1, h2]), rfl⟩

end Go.Proofs.YtaiflkmlpjnmmaaDoor
