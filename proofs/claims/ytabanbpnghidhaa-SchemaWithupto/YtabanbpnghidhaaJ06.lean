/-
  5 texts of this proof in one, in build order: YIndexC, Good, YExpr, YIndexD, YExprs.
-/
import Derived.Test.YtabanbpnghidhaaRows
import Derived.WalkKit
import Derived.WalkSpells
import Derived.WalkLawsBesides
import Derived.BigRegion
import Derived.Deep.QuietTactic
import Derived.BigQuiet
import Derived.Deep.RegionHeld3
import Derived.Deep.Cut
import Derived.Deep.LoopGhost
import Derived.Deep.CutRange
import Derived.Laws.EntriesVeiled
import Derived.Test.YtabanbpnghidhaaJ01
import Derived.Test.YtabanbpnghidhaaJ05
namespace Go.Proofs.Ytabanbpnghidhaa
open Go.RowKit

set_option maxRecDepth 100000 in
set_option maxHeartbeats 2000000 in
theorem index_goodExpr (l : List (E)) (F : Nat → Prop) (ao : Option Addr) (n c : Nat) (f0 : Value) (p : Nat → Bool) (St : Nat → World → Prop) (En : World → Prop) (w : World) (hEn : ∀ i W, St i W → En W) (hIs : ∀ i W, St i W → IsL kExpr F W (.slice ao n c) l)
    (hcall : ∀ i x cs W, l[i]? = some x → St i W → kExpr.R F W x cs → Calls Try.prog 70 #[.agg cs.toArray, f0] W fun e W' => e = .returned (.bool (p i)) ∧ En W' ∧ (p i = false → St (i + 1) W')) (h0 : St 0 w) :
    Calls Try.prog 71 #[.slice ao n c, .func (.func 70) #[] #[f0]] w fun e W' => e = .returned (.int .i64 (firstI p 0 l.length)) ∧ En W' := by
  obtain ⟨hn, hlm⟩ := isL_len (hIs 0 w h0)
  subst hn
  unfold maxLen at hlm
  go_enter Try.func71, Try.ntmps71
  go_wp2
  go_loopw [8] (fun i wr => ∃ k : Nat, k ≤ l.length ∧ i = .int .i64 k ∧ St k wr ∧ Hid (firstI p 0 l.length = firstI p k (l.length - k))) (fun i _ => l.length - (intOf i).toNat)
  case atStart => exact ⟨0, Nat.zero_le _, rfl, h0, rfl⟩
  case round =>
    obtain ⟨k, hk, rfl, hSt, HP⟩ := hrel
    by_cases hlt : k < l.length
    · obtain ⟨x, hx⟩ : ∃ x, l[k]? = some x := ⟨_, List.getElem?_eq_getElem hlt⟩
      obtain ⟨b, off, cs, rfl, _, hb, hR, hcell⟩ := isL_get (hIs k wr hSt) hx
      have HC := hcall k x cs wr hx hSt hR
      obtain ⟨xo, xk, xn, xs2, xs, xm, xi, xa, xl, xc, rfl⟩ := shape_Expr hR
      have d0 := hcell 0 _ rfl
      have d1 := hcell 1 _ rfl
      have d2 := hcell 2 _ rfl
      have d3 := hcell 3 _ rfl
      have d4 := hcell 4 _ rfl
      have d5 := hcell 5 _ rfl
      have d6 := hcell 6 _ rfl
      have d7 := hcell 7 _ rfl
      simp only [kExpr, Nat.add_zero] at d0 d1 d2 d3 d4 d5 d6 d7
      have k0 : (0 : Int) ≤ (k : Int) := by omega
      have k1 : (k : Int) < (l.length : Int) := by omega
      have hst : Hid (firstI p k (l.length - k) = if p k then (k : Int) else firstI p (k + 1) (l.length - (k + 1))) := firstI_step p k l.length hlt
      clear hcell hx
      generalize hq : p k = q at HC hst
      clear hq
      cases q
      · go_wp2_with (go_at_call 70; go_must (go_fit HC; rintro e W' ⟨rfl, _, hS1⟩))
        go_roundw
        case rel => exact ⟨k + 1, by omega, by go_num, hS1 (by first | rfl | trivial), by rw [HP.out, hst.out]; rfl⟩
        case measure => simp [intOf]; omega
      · go_wp2_with (go_at_call 70; go_must (go_fit HC; rintro e W' ⟨rfl, hS1, _⟩))
        go_ret
        exact ⟨ret_int (by rw [HP.out, hst.out]; rfl), hS1⟩
    · have HE : Hid (firstI p k (l.length - k) = -1) := by show _ = _; rw [show l.length - k = 0 from by omega, firstI]
      go_wp2
      go_ret
      exact ⟨ret_int (by rw [HP.out, HE.out]), hEn k _ hSt⟩

set_option maxHeartbeats 2000000 in
theorem contains_goodExpr (l : List (E)) (F : Nat → Prop) (ao : Option Addr) (n c : Nat) (f0 : Value) (p : Nat → Bool) (St : Nat → World → Prop) (En : World → Prop) (w : World) (hEn : ∀ i W, St i W → En W) (hIs : ∀ i W, St i W → IsL kExpr F W (.slice ao n c) l)
    (hcall : ∀ i x cs W, l[i]? = some x → St i W → kExpr.R F W x cs → Calls Try.prog 70 #[.agg cs.toArray, f0] W fun e W' => e = .returned (.bool (p i)) ∧ En W' ∧ (p i = false → St (i + 1) W')) (h0 : St 0 w) :
    Calls Try.prog 35 #[.slice ao n c, .func (.func 70) #[] #[f0]] w fun e W' => e = .returned (.bool (anyI p 0 l.length)) ∧ En W' := by
  have HI := index_goodExpr l F ao n c f0 p St En w hEn hIs hcall h0
  have HA : Hid (anyI p 0 l.length = decide (0 ≤ firstI p 0 l.length)) := anyI_eq p l.length 0
  generalize anyI p 0 l.length = r at HA
  generalize firstI p 0 l.length = q at HI HA
  clear hIs hcall h0 hEn
  go_enter Try.func35, Try.ntmps35
  go_wp2_with (go_at_call 71; go_must (go_fit HI; rintro e W' ⟨rfl, hS1⟩))
  go_ret
  exact ⟨ret_bool (by rw [HA.out]), hS1⟩

set_option maxRecDepth 100000 in
set_option maxHeartbeats 2000000 in
theorem index_goodExprs1 (l : List (E)) (F : Nat → Prop) (ao : Option Addr) (n c : Nat) (p : Nat → Bool) (St : Nat → World → Prop) (En : World → Prop) (w : World) (hEn : ∀ i W, St i W → En W) (hIs : ∀ i W, St i W → IsL kExpr F W (.slice ao n c) l)
    (hcall : ∀ i x cs W, l[i]? = some x → St i W → kExpr.R F W x cs → Calls Try.prog 32 #[.agg cs.toArray] W fun e W' => e = .returned (.bool (p i)) ∧ En W' ∧ (p i = false → St (i + 1) W')) (h0 : St 0 w) :
    Calls Try.prog 71 #[.slice ao n c, .func (.func 32) #[] #[]] w fun e W' => e = .returned (.int .i64 (firstI p 0 l.length)) ∧ En W' := by
  obtain ⟨hn, hlm⟩ := isL_len (hIs 0 w h0)
  subst hn
  unfold maxLen at hlm
  go_enter Try.func71, Try.ntmps71
  go_wp2
  go_loopw [8] (fun i wr => ∃ k : Nat, k ≤ l.length ∧ i = .int .i64 k ∧ St k wr ∧ Hid (firstI p 0 l.length = firstI p k (l.length - k))) (fun i _ => l.length - (intOf i).toNat)
  case atStart => exact ⟨0, Nat.zero_le _, rfl, h0, rfl⟩
  case round =>
    obtain ⟨k, hk, rfl, hSt, HP⟩ := hrel
    by_cases hlt : k < l.length
    · obtain ⟨x, hx⟩ : ∃ x, l[k]? = some x := ⟨_, List.getElem?_eq_getElem hlt⟩
      obtain ⟨b, off, cs, rfl, _, hb, hR, hcell⟩ := isL_get (hIs k wr hSt) hx
      have HC := hcall k x cs wr hx hSt hR
      obtain ⟨xo, xk, xn, xs2, xs, xm, xi, xa, xl, xc, rfl⟩ := shape_Expr hR
      have d0 := hcell 0 _ rfl
      have d1 := hcell 1 _ rfl
      have d2 := hcell 2 _ rfl
      have d3 := hcell 3 _ rfl
      have d4 := hcell 4 _ rfl
      have d5 := hcell 5 _ rfl
      have d6 := hcell 6 _ rfl
      have d7 := hcell 7 _ rfl
      simp only [kExpr, Nat.add_zero] at d0 d1 d2 d3 d4 d5 d6 d7
      have k0 : (0 : Int) ≤ (k : Int) := by omega
      have k1 : (k : Int) < (l.length : Int) := by omega
      have hst : Hid (firstI p k (l.length - k) = if p k then (k : Int) else firstI p (k + 1) (l.length - (k + 1))) := firstI_step p k l.length hlt
      clear hcell hx
      generalize hq : p k = q at HC hst
      clear hq
      cases q
      · go_wp2_with (go_at_call 32; go_must (go_fit HC; rintro e W' ⟨rfl, _, hS1⟩))
        go_roundw
        case rel => exact ⟨k + 1, by omega, by go_num, hS1 (by first | rfl | trivial), by rw [HP.out, hst.out]; rfl⟩
        case measure => simp [intOf]; omega
      · go_wp2_with (go_at_call 32; go_must (go_fit HC; rintro e W' ⟨rfl, hS1, _⟩))
        go_ret
        exact ⟨ret_int (by rw [HP.out, hst.out]; rfl), hS1⟩
    · have HE : Hid (firstI p k (l.length - k) = -1) := by show _ = _; rw [show l.length - k = 0 from by omega, firstI]
      go_wp2
      go_ret
      exact ⟨ret_int (by rw [HP.out, HE.out]), hEn k _ hSt⟩

set_option maxHeartbeats 2000000 in
theorem contains_goodExprs1 (l : List (E)) (F : Nat → Prop) (ao : Option Addr) (n c : Nat) (p : Nat → Bool) (St : Nat → World → Prop) (En : World → Prop) (w : World) (hEn : ∀ i W, St i W → En W) (hIs : ∀ i W, St i W → IsL kExpr F W (.slice ao n c) l)
    (hcall : ∀ i x cs W, l[i]? = some x → St i W → kExpr.R F W x cs → Calls Try.prog 32 #[.agg cs.toArray] W fun e W' => e = .returned (.bool (p i)) ∧ En W' ∧ (p i = false → St (i + 1) W')) (h0 : St 0 w) :
    Calls Try.prog 35 #[.slice ao n c, .func (.func 32) #[] #[]] w fun e W' => e = .returned (.bool (anyI p 0 l.length)) ∧ En W' := by
  have HI := index_goodExprs1 l F ao n c p St En w hEn hIs hcall h0
  have HA : Hid (anyI p 0 l.length = decide (0 ≤ firstI p 0 l.length)) := anyI_eq p l.length 0
  generalize anyI p 0 l.length = r at HA
  generalize firstI p 0 l.length = q at HI HA
  clear hIs hcall h0 hEn
  go_enter Try.func35, Try.ntmps35
  go_wp2_with (go_at_call 71; go_must (go_fit HI; rintro e W' ⟨rfl, hS1⟩))
  go_ret
  exact ⟨ret_bool (by rw [HA.out]), hS1⟩

set_option maxRecDepth 100000 in
set_option maxHeartbeats 2000000 in
theorem index_fit (l : List (Int)) (F : Nat → Prop) (ao : Option Addr) (n c : Nat) (f0 : Value) (p : Nat → Bool) (St : Nat → World → Prop) (En : World → Prop) (w : World) (hEn : ∀ i W, St i W → En W) (hIs : ∀ i W, St i W → IsL kNum F W (.slice ao n c) l)
    (hcall : ∀ i x cs W, l[i]? = some x → St i W → kNum.R F W x cs → Calls Try.prog 124 #[cs.headD (.bool false), f0] W fun e W' => e = .returned (.bool (p i)) ∧ En W' ∧ (p i = false → St (i + 1) W')) (h0 : St 0 w) :
    Calls Try.prog 127 #[.slice ao n c, .func (.func 124) #[] #[f0]] w fun e W' => e = .returned (.int .i64 (firstI p 0 l.length)) ∧ En W' := by
  obtain ⟨hn, hlm⟩ := isL_len (hIs 0 w h0)
  subst hn
  unfold maxLen at hlm
  go_enter Try.func127, Try.ntmps127
  go_wp2
  go_loopw [8] (fun i wr => ∃ k : Nat, k ≤ l.length ∧ i = .int .i64 k ∧ St k wr ∧ Hid (firstI p 0 l.length = firstI p k (l.length - k))) (fun i _ => l.length - (intOf i).toNat)
  case atStart => exact ⟨0, Nat.zero_le _, rfl, h0, rfl⟩
  case round =>
    obtain ⟨k, hk, rfl, hSt, HP⟩ := hrel
    by_cases hlt : k < l.length
    · obtain ⟨x, hx⟩ : ∃ x, l[k]? = some x := ⟨_, List.getElem?_eq_getElem hlt⟩
      obtain ⟨b, off, cs, rfl, _, hb, hR, hcell⟩ := isL_get (hIs k wr hSt) hx
      have HC := hcall k x cs wr hx hSt hR
      obtain rfl := hR
      have d0 := hcell 0 _ rfl
      simp only [kNum, Nat.add_zero, Nat.mul_one] at d0
      have k0 : (0 : Int) ≤ (k : Int) := by omega
      have k1 : (k : Int) < (l.length : Int) := by omega
      have hst : Hid (firstI p k (l.length - k) = if p k then (k : Int) else firstI p (k + 1) (l.length - (k + 1))) := firstI_step p k l.length hlt
      clear hcell hx
      generalize hq : p k = q at HC hst
      clear hq
      cases q
      · go_wp2_with (go_at_call 124; go_must (go_fit HC; rintro e W' ⟨rfl, _, hS1⟩))
        go_roundw
        case rel => exact ⟨k + 1, by omega, by go_num, hS1 (by first | rfl | trivial), by rw [HP.out, hst.out]; rfl⟩
        case measure => simp [intOf]; omega
      · go_wp2_with (go_at_call 124; go_must (go_fit HC; rintro e W' ⟨rfl, hS1, _⟩))
        go_ret
        exact ⟨ret_int (by rw [HP.out, hst.out]; rfl), hS1⟩
    · have HE : Hid (firstI p k (l.length - k) = -1) := by show _ = _; rw [show l.length - k = 0 from by omega, firstI]
      go_wp2
      go_ret
      exact ⟨ret_int (by rw [HP.out, HE.out]), hEn k _ hSt⟩

set_option maxHeartbeats 2000000 in
theorem contains_fit (l : List (Int)) (F : Nat → Prop) (ao : Option Addr) (n c : Nat) (f0 : Value) (p : Nat → Bool) (St : Nat → World → Prop) (En : World → Prop) (w : World) (hEn : ∀ i W, St i W → En W) (hIs : ∀ i W, St i W → IsL kNum F W (.slice ao n c) l)
    (hcall : ∀ i x cs W, l[i]? = some x → St i W → kNum.R F W x cs → Calls Try.prog 124 #[cs.headD (.bool false), f0] W fun e W' => e = .returned (.bool (p i)) ∧ En W' ∧ (p i = false → St (i + 1) W')) (h0 : St 0 w) :
    Calls Try.prog 123 #[.slice ao n c, .func (.func 124) #[] #[f0]] w fun e W' => e = .returned (.bool (anyI p 0 l.length)) ∧ En W' := by
  have HI := index_fit l F ao n c f0 p St En w hEn hIs hcall h0
  have HA : Hid (anyI p 0 l.length = decide (0 ≤ firstI p 0 l.length)) := anyI_eq p l.length 0
  generalize anyI p 0 l.length = r at HA
  generalize firstI p 0 l.length = q at HI HA
  clear hIs hcall h0 hEn
  go_enter Try.func123, Try.ntmps123
  go_wp2_with (go_at_call 127; go_must (go_fit HI; rintro e W' ⟨rfl, hS1⟩))
  go_ret
  exact ⟨ret_bool (by rw [HA.out]), hS1⟩

end Go.Proofs.Ytabanbpnghidhaa

namespace Go.Proofs.Ytabanbpnghidhaa
open Go.RowKit

set_option maxHeartbeats 400000 in
theorem goodByte_any (c : Int) (w : World) : Calls Try.prog 67 #[.int .u8 c] w fun e w' => e = .returned (.bool (goodb c)) ∧ w' = w := by
  by_cases h1 : 32 ≤ c <;> by_cases h2 : c ≤ 126 <;> by_cases h3 : c = 39
  all_goals
    go_enter Try.func67, Try.ntmps67
    go_wp2
    all_goals
      go_ret
      exact ⟨ret_bool (by simp_all [goodb]), rfl⟩

set_option maxHeartbeats 400000 in
theorem goodText_long (s : ByteArray) (w : World) (h : 8 < s.size) (hs : s.size ≤ maxLen) :
    Calls Try.prog 31 #[.string s] w fun e w' => e = .returned (.bool false) ∧ w' = w := by
  unfold maxLen at hs
  go_enter Try.func31, Try.ntmps31
  go_wp2
  go_ret
  exact ⟨rfl, rfl⟩

set_option maxHeartbeats 400000 in
theorem goodText_short (s : ByteArray) (w : World) (h : s.size ≤ 8) :
    Calls Try.prog 31 #[.string s] w fun e w' => e = .returned (.bool (gtext s.data.toList)) ∧ w' = w := by
  go_enter Try.func31, Try.ntmps31
  go_wp2
  go_loop [9] (fun i => ∃ k : Nat, k ≤ s.size ∧ i = .int .i64 k ∧ gtext (s.data.toList.take k) = true) (fun i => s.size - (intOf i).toNat)
  case atStart => exact ⟨0, Nat.zero_le _, rfl, rfl⟩
  case round =>
    obtain ⟨k, hk, rfl, hg0⟩ := hrel
    have hg : Hid (gtext (s.data.toList.take k) = true) := hg0
    clear hg0
    by_cases hlt : k < s.size
    · have hsn : Hid (gtext (s.data.toList.take (k + 1)) = (gtext (s.data.toList.take k) && goodb (s[k].toNat : Int))) := by rw [take_snoc s k hlt, gtext_snoc]; rfl
      have hbad : Hid (goodb (s[k].toNat : Int) = false → gtext s.data.toList = false) := gtext_bad s k hlt
      cases hb : goodb (s[k].toNat : Int)
      all_goals
        go_wp2_with (go_at_call 67; refine (goodByte_any _ _).mono ?_; rintro e w' ⟨rfl, rfl⟩)
      · go_ret
        exact ⟨ret_bool (hbad.out hb).symm, rfl⟩
      · go_round
        case rel => exact ⟨k + 1, by omega, by go_num, by rw [hsn.out, hg.out, hb]; rfl⟩
        case measure => simp [intOf]; omega
    · go_wp2
      go_ret
      exact ⟨ret_bool (by have := hg.out; rw [take_all s k (by omega)] at this; exact this.symm), rfl⟩

theorem empty_iff (s : ByteArray) : s.toList.isEmpty = decide (s.size = 0) := by
  rw [ByteArray.toList_eq, show s.size = s.data.toList.length from by simp]; cases s.data.toList <;> simp

set_option maxHeartbeats 1000000 in
theorem good_any (v : V) (w : World) (hs : v.s.size ≤ maxLen) :
    Calls Try.prog 13 #[v.val] w fun e w' => e = .returned (.bool (good v)) ∧ w' = w.alloc (.cells #[.int .i64 v.k, .int .i64 v.n, .string v.s] 32) := by
  obtain ⟨k, n, s⟩ := v
  show Calls Try.prog 13 #[.agg #[.int .i64 k, .int .i64 n, .string s]] w _
  by_cases h0 : k = 0
  · subst h0
    by_cases hn : n = 0
    all_goals
      go_enter Try.func13, Try.ntmps13
      go_wp2
      go_ret
      exact ⟨ret_bool (by simp [good, hn, empty_iff]), rfl⟩
  by_cases h1 : k = 1
  · subst h1
    rcases (show n < -1000000 ∨ 1000000 < n ∨ (-1000000 ≤ n ∧ n ≤ 1000000) from by omega) with hn | hn | ⟨hn, hm⟩
    · have e : decide (-1000000 ≤ n) = false := by simp; omega
      go_enter Try.func13, Try.ntmps13
      go_wp2
      go_ret
      exact ⟨ret_bool (by simp [good, e]), rfl⟩
    · have e : decide (n ≤ 1000000) = false := by simp; omega
      go_enter Try.func13, Try.ntmps13
      go_wp2
      go_ret
      exact ⟨ret_bool (by simp [good, e]), rfl⟩
    · go_enter Try.func13, Try.ntmps13
      go_wp2
      go_ret
      exact ⟨ret_bool (by simp [good, hn, hm, empty_iff]), rfl⟩
  by_cases h2 : k = 2
  · subst h2
    by_cases hn : n = 0
    · subst hn
      by_cases h8 : s.size ≤ 8
      · go_enter Try.func13, Try.ntmps13
        go_wp2_with (go_at_call 31; refine (goodText_short _ _ h8).mono ?_; rintro e w' ⟨rfl, rfl⟩)
        go_ret
        exact ⟨ret_bool (by simp [good, h8]), rfl⟩
      · have h9 : 8 < s.size := by omega
        have e : decide (s.size ≤ 8) = false := by simp; omega
        have E : Hid (decide (s.size ≤ 8) = false) := e
        clear e h8
        go_enter Try.func13, Try.ntmps13
        go_wp2_with (go_at_call 31; refine (goodText_long s _ h9 hs).mono ?_; rintro e w' ⟨rfl, rfl⟩)
        go_ret
        exact ⟨ret_bool (by have := E.out; simp [good, this]), rfl⟩
    · go_enter Try.func13, Try.ntmps13
      go_wp2
      go_ret
      exact ⟨ret_bool (by simp [good, hn]), rfl⟩
  go_enter Try.func13, Try.ntmps13
  go_wp2
  go_ret
  exact ⟨ret_bool (by simp [good, h0, h1, h2]), rfl⟩

end Go.Proofs.Ytabanbpnghidhaa

namespace Go.Proofs.Ytabanbpnghidhaa
open Go.RowKit Go.Maps

theorem anyI_list {α : Type} (l : List α) (q : α → Bool) : anyI (atI l q) 0 l.length = l.any q := by
  rw [anyI_eq]
  rcases find_cases l q with ⟨h1, h2⟩ | ⟨k, x, h1, h2, h3, _⟩
  · rw [h1]
    rw [List.find?_eq_none] at h2
    have : l.any q = false := by rw [List.any_eq_false]; intro x hx; simpa using h2 x hx
    rw [this]; rfl
  · rw [h1]
    have : l.any q = true := List.any_eq_true.2 ⟨x, List.mem_of_getElem? h2, h3⟩
    rw [this]; simp
/-- How many arguments an operation has; -1: it is none. -/
def argS (op : Int) : Int := if op = 1 ∨ op = 2 then 0 else if op = 9 ∨ op = 10 then 1 else if 3 ≤ op ∧ op ≤ 8 then 2 else -1
def leafB (op : Int) (x : V) (s name : Wd) : Bool := if op = 1 then good x else if op = 2 then nm name && (decide (s.size = 0) || nm s) else true
/-- P4.4: a good expression, at most so deep. -/
def geB : Nat → E → Bool
  | 0, _ => false
  | d + 1, .mk op x s name _ l => decide ((l.length : Int) = argS op) && leafB op x s name && l.all (geB d)
mutual
/-- Texts that fit. -/
def fitX : E → Prop
  | .mk _ x s name _ l => x.s.size ≤ maxLen ∧ s.size ≤ maxLen ∧ name.size ≤ maxLen ∧ fitXs l
def fitXs : List E → Prop
  | [] => True
  | e :: l => fitX e ∧ fitXs l
end
theorem fitXs_mem : ∀ {l : List E} {e : E}, fitXs l → e ∈ l → fitX e
  | [], _, _, h => by cases h
  | x :: l, e, h, he => by
    rw [fitXs] at h
    rcases List.mem_cons.1 he with rfl | he
    · exact h.1
    · exact fitXs_mem h.2 he

set_option maxHeartbeats 400000 in
theorem argumentsS_any (op : Int) (w : World) : Calls Try.prog 68 #[.int .i64 op] w fun e w' => e = .returned (.int .i64 (argS op)) ∧ w' = w := by
  by_cases g1 : op = 1 <;> by_cases g2 : op = 2 <;> by_cases h9 : op = 9 <;> by_cases h10 : op = 10 <;> by_cases h3 : op = 3 <;> by_cases h4 : op = 4 <;> by_cases h5 : op = 5 <;> by_cases h6 : op = 6 <;> by_cases h7 : op = 7 <;> by_cases h8 : op = 8
  all_goals (try omega)
  all_goals
    have E : Hid (argS op = if op = 1 ∨ op = 2 then 0 else if op = 9 ∨ op = 10 then 1 else if 3 ≤ op ∧ op ≤ 8 then 2 else -1) := rfl
    go_enter Try.func68, Try.ntmps68
    go_wp2
    go_ret
    refine ⟨ret_int ?_, rfl⟩
    rw [E.out]
    first | (rw [if_pos (by omega)]; done) | (rw [if_neg (by omega), if_pos (by omega)]; done) | (rw [if_neg (by omega), if_neg (by omega), if_pos (by omega)]; done) | (rw [if_neg (by omega), if_neg (by omega), if_neg (by omega)]; done)

set_option maxRecDepth 100000 in
set_option maxHeartbeats 1000000 in
theorem goodLeaf_any (op : Int) (x : V) (s name : Wd) (n : Int) (ao : Option Addr) (k c : Nat) (w : World) (hx : x.s.size ≤ maxLen) (hs : s.size ≤ maxLen) (hn : name.size ≤ maxLen) :
    Calls Try.prog 69 #[.agg (eArr op x s name n (.slice ao k c))] w fun e w' => e = .returned (.bool (leafB op x s name)) ∧ Below w.heap.size w w' := by
  have hG := fun w => good_any x w hx
  have hN := fun w => named_any name w hn
  have hS := fun w => named_any s w hs
  have hbx := bel1 w (.cells (eArr op x s name n (.slice ao k c)) 34)
  have E : Hid (leafB op x s name = if op = 1 then good x else if op = 2 then nm name && (decide (s.size = 0) || nm s) else true) := rfl
  generalize leafB op x s name = r at E
  generalize good x = g at hG E
  obtain ⟨xk, xn, xs⟩ := x
  simp only [V.val] at hG
  by_cases h1 : op = 1
  · subst h1
    clear hN hS
    go_enter Try.func69, Try.ntmps69
    go_wp2_with (go_at_call 13; go_fit (hG _); rintro e w1 ⟨rfl, rfl⟩)
    go_ret
    exact ⟨ret_bool (by rw [E.out]; rfl), hbx.alloc hbx.size _⟩
  by_cases h2 : op = 2
  · subst h2
    have E2 : Hid (r = (nm name && (s.toList.isEmpty || nm s))) := by show _ = _; rw [E.out, empty_iff]; rfl
    clear hG E
    generalize nm name = b at hN E2
    generalize nm s = b2 at hS E2
    cases b
    · go_enter Try.func69, Try.ntmps69
      go_wp2_with (go_at_call 60; first | (go_fit (hN _); rintro e w1 ⟨rfl, rfl⟩))
      go_ret
      exact ⟨ret_bool (by rw [E2.out]; rfl), hbx⟩
    · cases he : s.toList.isEmpty
      · go_enter Try.func69, Try.ntmps69
        go_wp2_with (first | (go_at_call_of 60 (Value.string name); go_fit (hN _); rintro e w1 ⟨rfl, rfl⟩) | (go_at_call_of 60 (Value.string s); go_fit (hS _); rintro e w2 ⟨rfl, rfl⟩))
        go_ret
        exact ⟨ret_bool (by rw [E2.out, he]; simp), hbx⟩
      · go_enter Try.func69, Try.ntmps69
        go_wp2_with (first | (go_at_call_of 60 (Value.string name); go_fit (hN _); rintro e w1 ⟨rfl, rfl⟩))
        go_ret
        exact ⟨ret_bool (by rw [E2.out, he]; simp), hbx⟩
  have E2 : Hid (r = true) := by show _ = _; rw [E.out, if_neg h1, if_neg h2]
  clear hG hN hS E
  go_enter Try.func69, Try.ntmps69
  go_wp2_with fail
  go_ret
  exact ⟨ret_bool (by rw [E2.out]), hbx⟩

/-- What GoodExpr promises, so deep. -/
def GoodSays (d : Nat) : Prop := ∀ (e : E) (v : Value) (C : Nat) (w : World), IsE (fun k => k < C) w e v → C ≤ w.heap.size → fitX e →
    Calls Try.prog 33 #[v, .int .i64 (d : Int)] w fun r w' => r = .returned (.bool (geB d e)) ∧ Below w.heap.size w w'

set_option maxRecDepth 100000 in
set_option maxHeartbeats 2000000 in
theorem goodSays_zero : GoodSays 0 := by
  intro e v C w he hC hf
  obtain ⟨op, ⟨xk, xn, xs⟩, s, name, n, ao, k, c, rfl⟩ := he.shape
  have hb2 := bel2 w (.cells (eArr op ⟨xk, xn, xs⟩ s name n (.slice ao k c)) 34) (.cells #[.int .i64 0] 3)
  show Calls Try.prog 33 #[_, .int .i64 0] w _
  clear he hf
  go_enter Try.func33, Try.ntmps33
  go_wp2_with fail
  go_quiet (fail)
  go_wp2
  go_ret
  exact ⟨ret_bool (by cases e; rfl), below_drewN hb2 _⟩

set_option maxRecDepth 100000 in
set_option maxHeartbeats 2000000 in
theorem goodExpr1_any (d : Nat) (hd : d + 1 ≤ 40) (ih : GoodSays d) (e : E) (v : Value) (pb C : Nat) (w : World) (he : IsE (fun k => k < C) w e v) (hC : C ≤ w.heap.size) (hf : fitX e) (hp : w.cell? ⟨pb, 0, none⟩ = some (.int .i64 ((d : Int) + 1))) (hpb : pb < w.heap.size) :
    Calls Try.prog 70 #[v, .pointer (some ⟨pb, 0, none⟩)] w fun r w' => r = .returned (.bool (!geB d e)) ∧ Below w.heap.size w w' := by
  obtain ⟨op, ⟨xk, xn, xs⟩, s, name, n, ao, k, c, rfl⟩ := he.shape
  have hbx := bel1 w (.cells (eArr op ⟨xk, xn, xs⟩ s name n (.slice ao k c)) 34)
  have HG := ih e _ C _ (IsE.keep (keepsC (hbx.mono hC)) e _ he) (Nat.le_trans hC hbx.size) hf
  generalize geB d e = r at HG
  have hp1 := (hbx.cell (p := ⟨pb, 0, none⟩) hpb).trans hp
  have q1 : (d : Int) + 1 ≤ 40 := by omega
  have q2 : min ((d : Int) + 1) 40 = (d : Int) + 1 := by omega
  have q3 : wrap64 ((d : Int) + 1 - 1) = (d : Int) := by unfold wrap64; omega
  clear he hf
  go_enter Try.func70, Try.ntmps70
  go_wp2_with (go_at_call 33; go_fit HG; rintro e w1 ⟨rfl, hb1⟩)
  go_ret
  exact ⟨rfl, bthen hbx hb1⟩

theorem ge_keep {W W' : World} {g : Nat} {a0 a1 a2 a3 a4 a5 a6 a7 a8 : Value} (h : W.cell? ⟨g, 0, none⟩ = some a0 ∧ W.cell? ⟨g, 1, none⟩ = some a1 ∧ W.cell? ⟨g, 2, none⟩ = some a2 ∧ W.cell? ⟨g, 3, none⟩ = some a3 ∧ W.cell? ⟨g, 4, none⟩ = some a4 ∧ W.cell? ⟨g, 5, none⟩ = some a5 ∧ W.cell? ⟨g, 6, none⟩ = some a6 ∧ W.cell? ⟨g, 7, none⟩ = some a7 ∧ W.cell? ⟨g + 1, 0, none⟩ = some a8) (hb : Below W.heap.size W W') (hg : g + 2 ≤ W.heap.size) : W'.cell? ⟨g, 0, none⟩ = some a0 ∧ W'.cell? ⟨g, 1, none⟩ = some a1 ∧ W'.cell? ⟨g, 2, none⟩ = some a2 ∧ W'.cell? ⟨g, 3, none⟩ = some a3 ∧ W'.cell? ⟨g, 4, none⟩ = some a4 ∧ W'.cell? ⟨g, 5, none⟩ = some a5 ∧ W'.cell? ⟨g, 6, none⟩ = some a6 ∧ W'.cell? ⟨g, 7, none⟩ = some a7 ∧ W'.cell? ⟨g + 1, 0, none⟩ = some a8 := by
  have kc : ∀ b o, b < W.heap.size → W'.cell? ⟨b, o, none⟩ = W.cell? ⟨b, o, none⟩ := fun b o hh => hb.cell (p := ⟨b, o, none⟩) hh
  obtain ⟨h0, h1, h2, h3, h4, h5, h6, h7, h8⟩ := h
  exact ⟨(kc _ _ (by omega)).trans h0, (kc _ _ (by omega)).trans h1, (kc _ _ (by omega)).trans h2, (kc _ _ (by omega)).trans h3, (kc _ _ (by omega)).trans h4, (kc _ _ (by omega)).trans h5, (kc _ _ (by omega)).trans h6, (kc _ _ (by omega)).trans h7, (kc _ _ (by omega)).trans h8⟩
theorem ge_start (w : World) (op xk xn : Int) (xs s name : Wd) (n : Int) (ao : Option Addr) (k c : Nat) (d : Int) (W : World) (hW : (w.alloc (.cells (eArr op ⟨xk, xn, xs⟩ s name n (.slice ao k c)) 34)).alloc (.cells #[.int .i64 d] 3) = W) :
    (W.cell? ⟨w.heap.size, 0, none⟩ = some (.int .i64 op) ∧ W.cell? ⟨w.heap.size, 1, none⟩ = some (.int .i64 xk) ∧ W.cell? ⟨w.heap.size, 2, none⟩ = some (.int .i64 xn) ∧ W.cell? ⟨w.heap.size, 3, none⟩ = some (.string xs) ∧ W.cell? ⟨w.heap.size, 4, none⟩ = some (.string s) ∧ W.cell? ⟨w.heap.size, 5, none⟩ = some (.string name) ∧ W.cell? ⟨w.heap.size, 6, none⟩ = some (.int .i64 n) ∧ W.cell? ⟨w.heap.size, 7, none⟩ = some (.slice ao k c) ∧ W.cell? ⟨w.heap.size + 1, 0, none⟩ = some (.int .i64 d)) ∧ w.heap.size + 2 ≤ W.heap.size := by
  have b0 : W.heap[w.heap.size]? = some (.cells (eArr op ⟨xk, xn, xs⟩ s name n (.slice ao k c)) 34) := by rw [← hW]; exact block_alloc_of (block_alloc_at _ _) _
  have b1 : W.heap[w.heap.size + 1]? = some (.cells #[.int .i64 d] 3) := by rw [← hW]; exact block2 _ _ _
  exact ⟨⟨cell_of_block b0 rfl, cell_of_block b0 rfl, cell_of_block b0 rfl, cell_of_block b0 rfl, cell_of_block b0 rfl, cell_of_block b0 rfl, cell_of_block b0 rfl, cell_of_block b0 rfl, cell_of_block b1 rfl⟩, lt_of_block b1⟩
set_option maxRecDepth 100000 in
set_option maxHeartbeats 4000000 in
theorem goodSays_succ (d : Nat) (hd : d + 1 ≤ 40) (ih : GoodSays d) : GoodSays (d + 1) := by
  intro e v C w he hC hf
  cases e with
  | mk op x s name n l =>
    obtain ⟨sv, rfl, hes⟩ := he.open
    obtain ⟨ao, c, rfl⟩ := hes.shape
    obtain ⟨xk, xn, xs⟩ := x
    rw [fitX] at hf
    obtain ⟨hfx, hfs, hfn, hfl⟩ := hf
    simp only at hfx
    have hb2 := bel2 w (.cells (eArr op ⟨xk, xn, xs⟩ s name n (.slice ao l.length c)) 34) (.cells #[.int .i64 ((d : Int) + 1)] 3)
    have HL := fun w => goodLeaf_any op ⟨xk, xn, xs⟩ s name n ao l.length c w hfx hfs hfn
    have HA := fun w => argumentsS_any op w
    have E : Hid (geB (d + 1) (.mk op ⟨xk, xn, xs⟩ s name n l) = (decide ((l.length : Int) = argS op) && leafB op ⟨xk, xn, xs⟩ s name && l.all (geB d))) := rfl
    generalize geB (d + 1) (.mk op ⟨xk, xn, xs⟩ s name n l) = r at E
    generalize leafB op ⟨xk, xn, xs⟩ s name = lf at HL E
    generalize argS op = ar at HA E
    rw [show ((d + 1 : Nat) : Int) = (d : Int) + 1 from by omega]
    have q0 : ¬ (d : Int) + 1 < 1 := by omega
    clear he
    by_cases hla : (l.length : Int) = ar
    rotate_left
    · have q1 : ((l.length : Int) != ar) = true := by simpa using hla
      have E2 : Hid (r = false) := by show _ = _; rw [E.out]; simp [hla]
      clear E hes HL
      go_enter Try.func33, Try.ntmps33
      go_wp2_with fail
      go_quiet (first | (go_at_call 68; refine Calls.quiet_of_same (HA _)))
      go_wp2
      go_ret
      exact ⟨ret_bool (by rw [E2.out]), below_drewN hb2 _⟩
    have E2 : Hid (r = (lf && l.all (geB d))) := by show _ = _; rw [E.out]; simp [hla]
    have q1 : ((l.length : Int) != ar) = false := by simpa using hla
    obtain ⟨S0, z0⟩ := ge_start w op xk xn xs s name n ao l.length c ((d : Int) + 1) _ rfl
    clear E
    cases lf
    · clear hes
      go_enter Try.func33, Try.ntmps33
      go_wp2_with fail
      generalize hW0 : (w.alloc (.cells (eArr op ⟨xk, xn, xs⟩ s name n (.slice ao l.length c)) 34)).alloc (.cells #[.int .i64 ((d : Int) + 1)] 3) = W0 at hb2 S0 z0 ⊢
      go_region_held3 (fun w' => w'.cell? ⟨w.heap.size, 0, none⟩ = some (.int .i64 op) ∧ w'.cell? ⟨w.heap.size, 1, none⟩ = some (.int .i64 xk) ∧ w'.cell? ⟨w.heap.size, 2, none⟩ = some (.int .i64 xn) ∧ w'.cell? ⟨w.heap.size, 3, none⟩ = some (.string xs) ∧ w'.cell? ⟨w.heap.size, 4, none⟩ = some (.string s) ∧ w'.cell? ⟨w.heap.size, 5, none⟩ = some (.string name) ∧ w'.cell? ⟨w.heap.size, 6, none⟩ = some (.int .i64 n) ∧ w'.cell? ⟨w.heap.size, 7, none⟩ = some (.slice ao l.length c) ∧ w'.cell? ⟨w.heap.size + 1, 0, none⟩ = some (.int .i64 ((d : Int) + 1))) (first | assumption | exact S0)
        (first | (go_at_call 68; go_fit (HA _); rintro e w' ⟨rfl, rfl⟩) | (go_at_call 69; go_fit (HL _); rintro e w2 ⟨rfl, hb3⟩; have S1 := ge_keep (W := W0.drew) S0 hb3 z0))
      go_wp2
      go_ret
      exact ⟨ret_bool (by rw [E2.out]; rfl), hb2.drew.trans (hb3.mono hb2.size)⟩
    · have HC := fun (W1 : World) (hbW : Below (w.heap.size + 2) ((w.alloc (.cells (eArr op ⟨xk, xn, xs⟩ s name n (.slice ao l.length c)) 34)).alloc (.cells #[.int .i64 ((d : Int) + 1)] 3)) W1) =>
        contains_goodExpr l (fun k => k < C) ao l.length c (.pointer (some ⟨w.heap.size + 1, 0, none⟩)) (atI l fun a => !geB d a)
          (fun _ W => Below (w.heap.size + 2) ((w.alloc (.cells (eArr op ⟨xk, xn, xs⟩ s name n (.slice ao l.length c)) 34)).alloc (.cells #[.int .i64 ((d : Int) + 1)] 3)) W) (fun W => Below (w.heap.size + 2) ((w.alloc (.cells (eArr op ⟨xk, xn, xs⟩ s name n (.slice ao l.length c)) 34)).alloc (.cells #[.int .i64 ((d : Int) + 1)] 3)) W)
          W1 (fun i W h => h) (fun i W h => (isEs_iff.2 hes).keep (keepsC ((hb2.mono hC).trans (h.mono (by omega)))))
          (by
            rintro i x cs W hx h1 hR
            have hsz := h1.size
            rw [show ((w.alloc (.cells (eArr op ⟨xk, xn, xs⟩ s name n (.slice ao l.length c)) 34)).alloc (.cells #[.int .i64 ((d : Int) + 1)] 3)).heap.size = w.heap.size + 2 from by simp] at hsz
            have hbW : Below w.heap.size w W := hb2.trans (h1.mono (by omega))
            refine (goodExpr1_any d hd ih x (.agg cs.toArray) (w.heap.size + 1) C W hR.2 (Nat.le_trans hC hbW.size) (fitXs_mem hfl (List.mem_of_getElem? hx)) ((h1.cell (p := ⟨w.heap.size + 1, 0, none⟩) (show w.heap.size + 1 < w.heap.size + 2 by omega)).trans (cell_of_block (block2 _ _ _) rfl)) (by omega)).mono ?_
            rintro e W' ⟨rfl, hb⟩
            have hT := h1.trans (hb.mono hsz)
            exact ⟨by rw [atI_get hx], hT, fun _ => hT⟩)
          hbW
      have HAL : Hid (l.all (geB d) = !anyI (atI l fun a => !geB d a) 0 l.length) := by
        show _ = _
        rw [anyI_list, List.all_eq_not_any_not]
      have hq2 : (w.alloc (.cells (eArr op ⟨xk, xn, xs⟩ s name n (.slice ao l.length c)) 34) |>.alloc (.cells #[.int .i64 ((d : Int) + 1)] 3)).heap.size = w.heap.size + 2 := by simp
      generalize anyI (atI l fun a => !geB d a) 0 l.length = q at HC HAL
      clear hes
      go_enter Try.func33, Try.ntmps33
      go_wp2_with fail
      generalize hW0 : (w.alloc (.cells (eArr op ⟨xk, xn, xs⟩ s name n (.slice ao l.length c)) 34)).alloc (.cells #[.int .i64 ((d : Int) + 1)] 3) = W0 at hb2 S0 z0 HC hq2 ⊢
      go_region_held3 (fun w' => w'.cell? ⟨w.heap.size, 0, none⟩ = some (.int .i64 op) ∧ w'.cell? ⟨w.heap.size, 1, none⟩ = some (.int .i64 xk) ∧ w'.cell? ⟨w.heap.size, 2, none⟩ = some (.int .i64 xn) ∧ w'.cell? ⟨w.heap.size, 3, none⟩ = some (.string xs) ∧ w'.cell? ⟨w.heap.size, 4, none⟩ = some (.string s) ∧ w'.cell? ⟨w.heap.size, 5, none⟩ = some (.string name) ∧ w'.cell? ⟨w.heap.size, 6, none⟩ = some (.int .i64 n) ∧ w'.cell? ⟨w.heap.size, 7, none⟩ = some (.slice ao l.length c) ∧ w'.cell? ⟨w.heap.size + 1, 0, none⟩ = some (.int .i64 ((d : Int) + 1))) (first | assumption | exact S0)
        (first | (go_at_call 68; go_fit (HA _); rintro e w' ⟨rfl, rfl⟩) | (go_at_call 69; go_fit (HL _); rintro e w2 ⟨rfl, hb3⟩; have S1 := ge_keep (W := W0.drew) S0 hb3 z0))
      have hb4 : Below (w.heap.size + 2) W0 w2 := (Below.refl _ _).drew.trans (hb3.mono (by rw [← hq2]; exact Nat.le_refl _))
      obtain ⟨_, _, _, _, _, _, _, g7, _⟩ := S1
      go_wp2_with (go_at_call 35; go_fit (HC _ hb4); rintro e w3 ⟨rfl, hb5⟩)
      go_ret
      exact ⟨ret_bool (by rw [E2.out, HAL.out]; rfl), hb2.trans (hb5.mono (by omega))⟩

/-- P4.4: GoodExpr, down to forty. -/
theorem goodExpr_any : ∀ d : Nat, d ≤ 40 → GoodSays d
  | 0, _ => goodSays_zero
  | d + 1, h => goodSays_succ d h (goodExpr_any d (by omega))

end Go.Proofs.Ytabanbpnghidhaa

namespace Go.Proofs.Ytabanbpnghidhaa
open Go.RowKit

set_option maxRecDepth 100000 in
set_option maxHeartbeats 2000000 in
theorem index_goodExprs2 (l : List (List E)) (F : Nat → Prop) (ao : Option Addr) (n c : Nat) (f0 : Value) (p : Nat → Bool) (St : Nat → World → Prop) (En : World → Prop) (w : World) (hEn : ∀ i W, St i W → En W) (hIs : ∀ i W, St i W → IsL kRow F W (.slice ao n c) l)
    (hcall : ∀ i x cs W, l[i]? = some x → St i W → kRow.R F W x cs → Calls Try.prog 34 #[cs.headD (.bool false), f0] W fun e W' => e = .returned (.bool (p i)) ∧ En W' ∧ (p i = false → St (i + 1) W')) (h0 : St 0 w) :
    Calls Try.prog 72 #[.slice ao n c, .func (.func 34) #[] #[f0]] w fun e W' => e = .returned (.int .i64 (firstI p 0 l.length)) ∧ En W' := by
  obtain ⟨hn, hlm⟩ := isL_len (hIs 0 w h0)
  subst hn
  unfold maxLen at hlm
  go_enter Try.func72, Try.ntmps72
  go_wp2
  go_loopw [8] (fun i wr => ∃ k : Nat, k ≤ l.length ∧ i = .int .i64 k ∧ St k wr ∧ Hid (firstI p 0 l.length = firstI p k (l.length - k))) (fun i _ => l.length - (intOf i).toNat)
  case atStart => exact ⟨0, Nat.zero_le _, rfl, h0, rfl⟩
  case round =>
    obtain ⟨k, hk, rfl, hSt, HP⟩ := hrel
    by_cases hlt : k < l.length
    · obtain ⟨x, hx⟩ : ∃ x, l[k]? = some x := ⟨_, List.getElem?_eq_getElem hlt⟩
      obtain ⟨b, off, cs, rfl, _, hb, hR, hcell⟩ := isL_get (hIs k wr hSt) hx
      have HC := hcall k x cs wr hx hSt hR
      obtain ⟨xa, xl, xc, rfl⟩ := shape_Row hR
      have d0 := hcell 0 _ rfl
      simp only [kRow, Nat.add_zero, Nat.mul_one] at d0
      have k0 : (0 : Int) ≤ (k : Int) := by omega
      have k1 : (k : Int) < (l.length : Int) := by omega
      have hst : Hid (firstI p k (l.length - k) = if p k then (k : Int) else firstI p (k + 1) (l.length - (k + 1))) := firstI_step p k l.length hlt
      clear hcell hx
      generalize hq : p k = q at HC hst
      clear hq
      cases q
      · go_wp2_with (go_at_call 34; go_must (go_fit HC; rintro e W' ⟨rfl, _, hS1⟩))
        go_roundw
        case rel => exact ⟨k + 1, by omega, by go_num, hS1 (by first | rfl | trivial), by rw [HP.out, hst.out]; rfl⟩
        case measure => simp [intOf]; omega
      · go_wp2_with (go_at_call 34; go_must (go_fit HC; rintro e W' ⟨rfl, hS1, _⟩))
        go_ret
        exact ⟨ret_int (by rw [HP.out, hst.out]; rfl), hS1⟩
    · have HE : Hid (firstI p k (l.length - k) = -1) := by show _ = _; rw [show l.length - k = 0 from by omega, firstI]
      go_wp2
      go_ret
      exact ⟨ret_int (by rw [HP.out, HE.out]), hEn k _ hSt⟩

set_option maxHeartbeats 2000000 in
theorem contains_goodExprs2 (l : List (List E)) (F : Nat → Prop) (ao : Option Addr) (n c : Nat) (f0 : Value) (p : Nat → Bool) (St : Nat → World → Prop) (En : World → Prop) (w : World) (hEn : ∀ i W, St i W → En W) (hIs : ∀ i W, St i W → IsL kRow F W (.slice ao n c) l)
    (hcall : ∀ i x cs W, l[i]? = some x → St i W → kRow.R F W x cs → Calls Try.prog 34 #[cs.headD (.bool false), f0] W fun e W' => e = .returned (.bool (p i)) ∧ En W' ∧ (p i = false → St (i + 1) W')) (h0 : St 0 w) :
    Calls Try.prog 37 #[.slice ao n c, .func (.func 34) #[] #[f0]] w fun e W' => e = .returned (.bool (anyI p 0 l.length)) ∧ En W' := by
  have HI := index_goodExprs2 l F ao n c f0 p St En w hEn hIs hcall h0
  have HA : Hid (anyI p 0 l.length = decide (0 ≤ firstI p 0 l.length)) := anyI_eq p l.length 0
  generalize anyI p 0 l.length = r at HA
  generalize firstI p 0 l.length = q at HI HA
  clear hIs hcall h0 hEn
  go_enter Try.func37, Try.ntmps37
  go_wp2_with (go_at_call 72; go_must (go_fit HI; rintro e W' ⟨rfl, hS1⟩))
  go_ret
  exact ⟨ret_bool (by rw [HA.out]), hS1⟩

set_option maxRecDepth 100000 in
set_option maxHeartbeats 2000000 in
theorem index_goodExprs3 (l : List (Wd × E)) (F : Nat → Prop) (ao : Option Addr) (n c : Nat) (f0 : Value) (p : Nat → Bool) (St : Nat → World → Prop) (En : World → Prop) (w : World) (hEn : ∀ i W, St i W → En W) (hIs : ∀ i W, St i W → IsL kSetE F W (.slice ao n c) l)
    (hcall : ∀ i x cs W, l[i]? = some x → St i W → kSetE.R F W x cs → Calls Try.prog 36 #[.agg cs.toArray, f0] W fun e W' => e = .returned (.bool (p i)) ∧ En W' ∧ (p i = false → St (i + 1) W')) (h0 : St 0 w) :
    Calls Try.prog 73 #[.slice ao n c, .func (.func 36) #[] #[f0]] w fun e W' => e = .returned (.int .i64 (firstI p 0 l.length)) ∧ En W' := by
  obtain ⟨hn, hlm⟩ := isL_len (hIs 0 w h0)
  subst hn
  unfold maxLen at hlm
  go_enter Try.func73, Try.ntmps73
  go_wp2
  go_loopw [8] (fun i wr => ∃ k : Nat, k ≤ l.length ∧ i = .int .i64 k ∧ St k wr ∧ Hid (firstI p 0 l.length = firstI p k (l.length - k))) (fun i _ => l.length - (intOf i).toNat)
  case atStart => exact ⟨0, Nat.zero_le _, rfl, h0, rfl⟩
  case round =>
    obtain ⟨k, hk, rfl, hSt, HP⟩ := hrel
    by_cases hlt : k < l.length
    · obtain ⟨x, hx⟩ : ∃ x, l[k]? = some x := ⟨_, List.getElem?_eq_getElem hlt⟩
      obtain ⟨b, off, cs, rfl, _, hb, hR, hcell⟩ := isL_get (hIs k wr hSt) hx
      have HC := hcall k x cs wr hx hSt hR
      obtain ⟨cn, xo, xk, xn, xs2, xs, xm, xi, xa, xl, xc, rfl⟩ := shape_Set hR
      have d0 := hcell 0 _ rfl
      have d1 := hcell 1 _ rfl
      have d2 := hcell 2 _ rfl
      have d3 := hcell 3 _ rfl
      have d4 := hcell 4 _ rfl
      have d5 := hcell 5 _ rfl
      have d6 := hcell 6 _ rfl
      have d7 := hcell 7 _ rfl
      have d8 := hcell 8 _ rfl
      simp only [kSetE, Nat.add_zero] at d0 d1 d2 d3 d4 d5 d6 d7 d8
      have k0 : (0 : Int) ≤ (k : Int) := by omega
      have k1 : (k : Int) < (l.length : Int) := by omega
      have hst : Hid (firstI p k (l.length - k) = if p k then (k : Int) else firstI p (k + 1) (l.length - (k + 1))) := firstI_step p k l.length hlt
      clear hcell hx
      generalize hq : p k = q at HC hst
      clear hq
      cases q
      · go_wp2_with (go_at_call 36; go_must (go_fit HC; rintro e W' ⟨rfl, _, hS1⟩))
        go_roundw
        case rel => exact ⟨k + 1, by omega, by go_num, hS1 (by first | rfl | trivial), by rw [HP.out, hst.out]; rfl⟩
        case measure => simp [intOf]; omega
      · go_wp2_with (go_at_call 36; go_must (go_fit HC; rintro e W' ⟨rfl, hS1, _⟩))
        go_ret
        exact ⟨ret_int (by rw [HP.out, hst.out]; rfl), hS1⟩
    · have HE : Hid (firstI p k (l.length - k) = -1) := by show _ = _; rw [show l.length - k = 0 from by omega, firstI]
      go_wp2
      go_ret
      exact ⟨ret_int (by rw [HP.out, HE.out]), hEn k _ hSt⟩

set_option maxHeartbeats 2000000 in
theorem contains_goodExprs3 (l : List (Wd × E)) (F : Nat → Prop) (ao : Option Addr) (n c : Nat) (f0 : Value) (p : Nat → Bool) (St : Nat → World → Prop) (En : World → Prop) (w : World) (hEn : ∀ i W, St i W → En W) (hIs : ∀ i W, St i W → IsL kSetE F W (.slice ao n c) l)
    (hcall : ∀ i x cs W, l[i]? = some x → St i W → kSetE.R F W x cs → Calls Try.prog 36 #[.agg cs.toArray, f0] W fun e W' => e = .returned (.bool (p i)) ∧ En W' ∧ (p i = false → St (i + 1) W')) (h0 : St 0 w) :
    Calls Try.prog 38 #[.slice ao n c, .func (.func 36) #[] #[f0]] w fun e W' => e = .returned (.bool (anyI p 0 l.length)) ∧ En W' := by
  have HI := index_goodExprs3 l F ao n c f0 p St En w hEn hIs hcall h0
  have HA : Hid (anyI p 0 l.length = decide (0 ≤ firstI p 0 l.length)) := anyI_eq p l.length 0
  generalize anyI p 0 l.length = r at HA
  generalize firstI p 0 l.length = q at HI HA
  clear hIs hcall h0 hEn
  go_enter Try.func38, Try.ntmps38
  go_wp2_with (go_at_call 73; go_must (go_fit HI; rintro e W' ⟨rfl, hS1⟩))
  go_ret
  exact ⟨ret_bool (by rw [HA.out]), hS1⟩

end Go.Proofs.Ytabanbpnghidhaa

namespace Go.Proofs.Ytabanbpnghidhaa
open Go.RowKit Go.Maps

def E.opn : E → Int
  | .mk op _ _ _ _ _ => op
def badE (e : E) : Bool := !geB 40 e
def badEs (l : List E) : Bool := l.any badE
/-- All expressions of a command are good. -/
def exprsB (st : Stm) : Bool := !st.rows.any badEs && !st.sets.any (fun t => badE t.2) && !badEs st.out && !badEs st.order && (decide (st.wher.opn = 0) || !badE st.wher)
structure FitS (st : Stm) : Prop where
  rows : ∀ r ∈ st.rows, fitXs r
  sets : ∀ t ∈ st.sets, fitX t.2 ∧ t.1.size ≤ maxLen
  out : fitXs st.out
  order : fitXs st.order
  wher : fitX st.wher
  name : st.name.size ≤ maxLen
  table : st.table.size ≤ maxLen
  col : st.col.size ≤ maxLen
  cols : fitCols st.cols
  frm : ∀ s ∈ st.frm, s.size ≤ maxLen

set_option maxRecDepth 100000 in
set_option maxHeartbeats 1000000 in
theorem goodExprs1_any (e : E) (v : Value) (C : Nat) (w : World) (he : IsE (fun k => k < C) w e v) (hC : C ≤ w.heap.size) (hf : fitX e) :
    Calls Try.prog 32 #[v] w fun r w' => r = .returned (.bool (badE e)) ∧ Below w.heap.size w w' := by
  obtain ⟨op, ⟨xk, xn, xs⟩, s, name, n, ao, k, c, rfl⟩ := he.shape
  have hbx := bel1 w (.cells (eArr op ⟨xk, xn, xs⟩ s name n (.slice ao k c)) 34)
  have HG : Calls Try.prog 33 #[.agg (eArr op ⟨xk, xn, xs⟩ s name n (.slice ao k c)), .int .i64 40] _ _ := goodExpr_any 40 (Nat.le_refl _) e _ C _ (IsE.keep (keepsC (hbx.mono hC)) e _ he) (Nat.le_trans hC hbx.size) hf
  have E : Hid (badE e = !geB 40 e) := rfl
  generalize badE e = r at E
  generalize geB 40 e = g at HG E
  clear he hf
  go_enter Try.func32, Try.ntmps32
  go_wp2_with (go_at_call 33; go_fit HG; rintro e w1 ⟨rfl, hb1⟩)
  go_ret
  exact ⟨ret_bool (by rw [E.out]), bthen hbx hb1⟩

/-- ContainsFunc with it. -/
theorem contains_bad (l : List E) (sv : Value) (C : Nat) (w : World) (hl : IsL kExpr (fun k => k < C) w sv l) (hC : C ≤ w.heap.size) (hf : fitXs l) :
    Calls Try.prog 35 #[sv, .func (.func 32) #[] #[]] w fun e w' => e = .returned (.bool (badEs l)) ∧ Below w.heap.size w w' := by
  obtain ⟨ao, c, rfl⟩ := hl.shape
  have := contains_goodExprs1 l (fun k => k < C) ao l.length c (atI l badE) (fun _ W => Below w.heap.size w W) (fun W => Below w.heap.size w W) w (fun i W h => h) (fun i W h => hl.keep (keepsC (h.mono hC)))
    (by
      rintro i x cs W hx h1 hR
      refine (goodExprs1_any x (.agg cs.toArray) C W hR.2 (Nat.le_trans hC h1.size) (fitXs_mem hf (List.mem_of_getElem? hx))).mono ?_
      rintro e W' ⟨rfl, hb⟩
      exact ⟨by rw [atI_get hx], h1.trans (hb.mono h1.size), fun _ => h1.trans (hb.mono h1.size)⟩)
    (Below.refl _ _)
  rw [anyI_list] at this
  exact this

set_option maxRecDepth 100000 in
set_option maxHeartbeats 1000000 in
theorem goodExprs2_any (l : List E) (sv : Value) (pb C : Nat) (w : World) (hl : IsL kExpr (fun k => k < C) w sv l) (hC : C ≤ w.heap.size) (hf : fitXs l) (hp : w.cell? ⟨pb, 0, none⟩ = some (.func (.func 32) #[] #[])) :
    Calls Try.prog 34 #[sv, .pointer (some ⟨pb, 0, none⟩)] w fun r w' => r = .returned (.bool (badEs l)) ∧ Below w.heap.size w w' := by
  obtain ⟨ao, c, rfl⟩ := hl.shape
  have HC := contains_bad l _ C w hl hC hf
  generalize badEs l = r at HC
  clear hl hf
  go_enter Try.func34, Try.ntmps34
  go_wp2_with (go_at_call 35; go_fit HC; rintro e w1 ⟨rfl, hb1⟩)
  go_ret
  exact ⟨rfl, hb1⟩

set_option maxRecDepth 100000 in
set_option maxHeartbeats 1000000 in
theorem goodExprs3_any (t : Wd × E) (cs : List Value) (pb C : Nat) (w : World) (hR : kSetE.R (fun k => k < C) w t cs) (hC : C ≤ w.heap.size) (hf : fitX t.2) (hp : w.cell? ⟨pb, 0, none⟩ = some (.func (.func 32) #[] #[])) (hpb : pb < w.heap.size) :
    Calls Try.prog 36 #[.agg cs.toArray, .pointer (some ⟨pb, 0, none⟩)] w fun r w' => r = .returned (.bool (badE t.2)) ∧ Below w.heap.size w w' := by
  obtain ⟨d, rfl, hd, he⟩ := hR
  obtain ⟨xo, xk, xn, xs2, xs, xm, xi, xa, xl, xc, rfl⟩ := shape_Expr (F := fun k => k < C) (w := w) (e := t.2) ⟨hd, he⟩
  have hbx := bel1 w (.cells #[.string t.1, .int .i64 xo, .int .i64 xk, .int .i64 xn, .string xs2, .string xs, .string xm, .int .i64 xi, .slice xa xl xc] 51)
  have HG := goodExprs1_any t.2 _ C _ (IsE.keep (keepsC (hbx.mono hC)) t.2 _ he) (Nat.le_trans hC hbx.size) hf
  have hp1 := (hbx.cell (p := ⟨pb, 0, none⟩) hpb).trans hp
  generalize badE t.2 = r at HG
  clear he hf hd
  go_enter Try.func36, Try.ntmps36
  go_wp2_with (go_at_call 32; go_fit HG; rintro e w1 ⟨rfl, hb1⟩)
  go_ret
  exact ⟨rfl, bthen hbx hb1⟩

/-- A command's value, written out. -/
theorem stm_shape {F : Nat → Prop} {w : World} {st : Stm} {c : List Value} (h : kStm.R F w st c) : ∃ o1 c1 o2 c2 o3 c3 o4 c4 o5 c5 op xk xn xs s nmv n8 o6 k6 c6 o7 c7,
    c = (sA st.kind st.name st.table st.col (.slice o1 st.cols.length c1) (.slice o2 st.rows.length c2) (.slice o3 st.sets.length c3) (.slice o4 st.frm.length c4) (.slice o5 st.out.length c5) op xk xn xs s nmv n8 (.slice o6 k6 c6) (.slice o7 st.order.length c7) st.down st.n).toList ∧
    IsL kCol F w (.slice o1 st.cols.length c1) st.cols ∧ IsL kRow F w (.slice o2 st.rows.length c2) st.rows ∧ IsL kSetE F w (.slice o3 st.sets.length c3) st.sets ∧ IsL kStr F w (.slice o4 st.frm.length c4) st.frm ∧ IsL kExpr F w (.slice o5 st.out.length c5) st.out ∧ IsE F w st.wher (.agg (eArr op ⟨xk, xn, xs⟩ s nmv n8 (.slice o6 k6 c6))) ∧ IsL kExpr F w (.slice o7 st.order.length c7) st.order := by
  obtain ⟨cols, rows, sets, frm, out, w8, order, hc, h8, h1, h2, h3, h4, h5, h6, h7⟩ := h.is
  obtain ⟨o1, c1, rfl⟩ := h1.shape
  obtain ⟨o2, c2, rfl⟩ := h2.shape
  obtain ⟨o3, c3, rfl⟩ := h3.shape
  obtain ⟨o4, c4, rfl⟩ := h4.shape
  obtain ⟨o5, c5, rfl⟩ := h5.shape
  obtain ⟨o7, c7, rfl⟩ := h7.shape
  obtain ⟨op, xk, xn, xs, s, nmv, n8, o6, k6, c6, rfl⟩ := shape_Expr (F := F) (w := w) (e := st.wher) ⟨h8, h6⟩
  exact ⟨o1, c1, o2, c2, o3, c3, o4, c4, o5, c5, op, xk, xn, xs, s, nmv, n8, o6, k6, c6, o7, c7, hc, h1, h2, h3, h4, h5, h6, h7⟩

set_option maxRecDepth 100000 in
set_option maxHeartbeats 4000000 in
theorem goodExprs_any (st : Stm) (cs : List Value) (C : Nat) (w : World) (hR : kStm.R (fun k => k < C) w st cs) (hC : C ≤ w.heap.size) (hf : FitS st) :
    Calls Try.prog 14 #[.agg cs.toArray] w fun r w' => r = .returned (.bool (exprsB st)) ∧ Below w.heap.size w w' := by
  obtain ⟨o1, c1, o2, c2, o3, c3, o4, c4, o5, c5, op, xk, xn, xs, s, nmv, n8, o6, k6, c6, o7, c7, rfl, _, h2, h3, _, h5, h6, h7⟩ := stm_shape hR
  have hb2 := bel2 w (.cells (sA st.kind st.name st.table st.col (.slice o1 st.cols.length c1) (.slice o2 st.rows.length c2) (.slice o3 st.sets.length c3) (.slice o4 st.frm.length c4) (.slice o5 st.out.length c5) op xk xn xs s nmv n8 (.slice o6 k6 c6) (.slice o7 st.order.length c7) st.down st.n) 36) (.cells #[.func (.func 32) #[] #[]] 76)
  have hbl0 : ((w.alloc (.cells (sA st.kind st.name st.table st.col (.slice o1 st.cols.length c1) (.slice o2 st.rows.length c2) (.slice o3 st.sets.length c3) (.slice o4 st.frm.length c4) (.slice o5 st.out.length c5) op xk xn xs s nmv n8 (.slice o6 k6 c6) (.slice o7 st.order.length c7) st.down st.n) 36)).alloc (.cells #[.func (.func 32) #[] #[]] 76)).heap[w.heap.size]? = some (.cells (sA st.kind st.name st.table st.col (.slice o1 st.cols.length c1) (.slice o2 st.rows.length c2) (.slice o3 st.sets.length c3) (.slice o4 st.frm.length c4) (.slice o5 st.out.length c5) op xk xn xs s nmv n8 (.slice o6 k6 c6) (.slice o7 st.order.length c7) st.down st.n) 36) := block_alloc_of (block_alloc_at _ _) _
  have hbl1 : ((w.alloc (.cells (sA st.kind st.name st.table st.col (.slice o1 st.cols.length c1) (.slice o2 st.rows.length c2) (.slice o3 st.sets.length c3) (.slice o4 st.frm.length c4) (.slice o5 st.out.length c5) op xk xn xs s nmv n8 (.slice o6 k6 c6) (.slice o7 st.order.length c7) st.down st.n) 36)).alloc (.cells #[.func (.func 32) #[] #[]] 76)).heap[w.heap.size + 1]? = some (.cells #[.func (.func 32) #[] #[]] 76) := block2 _ _ _
  have hsz0 : ((w.alloc (.cells (sA st.kind st.name st.table st.col (.slice o1 st.cols.length c1) (.slice o2 st.rows.length c2) (.slice o3 st.sets.length c3) (.slice o4 st.frm.length c4) (.slice o5 st.out.length c5) op xk xn xs s nmv n8 (.slice o6 k6 c6) (.slice o7 st.order.length c7) st.down st.n) 36)).alloc (.cells #[.func (.func 32) #[] #[]] 76)).heap.size = w.heap.size + 2 := by simp
  generalize hW0 : ((w.alloc (.cells (sA st.kind st.name st.table st.col (.slice o1 st.cols.length c1) (.slice o2 st.rows.length c2) (.slice o3 st.sets.length c3) (.slice o4 st.frm.length c4) (.slice o5 st.out.length c5) op xk xn xs s nmv n8 (.slice o6 k6 c6) (.slice o7 st.order.length c7) st.down st.n) 36)).alloc (.cells #[.func (.func 32) #[] #[]] 76)) = W0 at hb2 hbl0 hbl1 hsz0
  have HW0 : Hid _ := hW0
  clear hW0 hR
  have hz0 : W0.heap.size ≤ W0.heap.size := Nat.le_refl _
  have KB : ∀ W, Below W0.heap.size W0 W → Below w.heap.size w W := fun W h => bthen hb2 h
  have KP : ∀ W, Below W0.heap.size W0 W → W.cell? ⟨w.heap.size + 1, 0, none⟩ = some (.func (.func 32) #[] #[]) := fun W h => (h.cell (p := ⟨w.heap.size + 1, 0, none⟩) (show w.heap.size + 1 < W0.heap.size by omega)).trans (cell_of_block hbl1 rfl)
  have KL : ∀ W, Below W0.heap.size W0 W → w.heap.size + 1 < W.heap.size := fun W h => Nat.lt_of_lt_of_le (show w.heap.size + 1 < W0.heap.size by omega) h.size
  have KC : ∀ W, Below W0.heap.size W0 W → C ≤ W.heap.size := fun W h => Nat.le_trans hC (KB W h).size
  have H1 := contains_goodExprs2 st.rows (fun k => k < C) o2 st.rows.length c2 (.pointer (some ⟨w.heap.size + 1, 0, none⟩)) (atI st.rows badEs) (fun _ W => Below W0.heap.size W0 W) (fun W => Below W0.heap.size W0 W) W0 (fun i W h => h) (fun i W h => h2.keep (keepsC ((KB W h).mono hC)))
    (by
      rintro i x cs W hx h1 ⟨sv, rfl, hsv⟩
      refine (goodExprs2_any x sv (w.heap.size + 1) C W hsv (KC W h1) (hf.rows x (List.mem_of_getElem? hx)) (KP W h1)).mono ?_
      rintro e W' ⟨rfl, hb⟩
      exact ⟨by rw [atI_get hx], bthen h1 hb, fun _ => bthen h1 hb⟩)
    (Below.refl _ _)
  have H2 := fun (W1 : World) (hW1 : Below W0.heap.size W0 W1) => contains_goodExprs3 st.sets (fun k => k < C) o3 st.sets.length c3 (.pointer (some ⟨w.heap.size + 1, 0, none⟩)) (atI st.sets fun t => badE t.2) (fun _ W => Below W0.heap.size W0 W) (fun W => Below W0.heap.size W0 W) W1 (fun i W h => h) (fun i W h => h3.keep (keepsC ((KB W h).mono hC)))
    (by
      rintro i x cs W hx h1 hR
      refine (goodExprs3_any x cs (w.heap.size + 1) C W hR (KC W h1) (hf.sets x (List.mem_of_getElem? hx)).1 (KP W h1) (KL W h1)).mono ?_
      rintro e W' ⟨rfl, hb⟩
      exact ⟨by rw [atI_get hx], bthen h1 hb, fun _ => bthen h1 hb⟩)
    hW1
  have H3 := fun (W1 : World) (hW1 : Below W0.heap.size W0 W1) => goodExprs2_any st.out (.slice o5 st.out.length c5) (w.heap.size + 1) C W1 (h5.keep (keepsC ((KB W1 hW1).mono hC))) (KC W1 hW1) hf.out (KP W1 hW1)
  have H4 := fun (W1 : World) (hW1 : Below W0.heap.size W0 W1) => goodExprs2_any st.order (.slice o7 st.order.length c7) (w.heap.size + 1) C W1 (h7.keep (keepsC ((KB W1 hW1).mono hC))) (KC W1 hW1) hf.order (KP W1 hW1)
  have H5 := fun (W1 : World) (hW1 : Below W0.heap.size W0 W1) => goodExprs1_any st.wher (.agg (eArr op ⟨xk, xn, xs⟩ s nmv n8 (.slice o6 k6 c6))) C W1 (IsE.keep (keepsC ((KB W1 hW1).mono hC)) _ _ h6) (KC W1 hW1) hf.wher
  have hop : st.wher.opn = op := by
    cases hw : st.wher with
    | mk op' x' s' nm' n' l' =>
      rw [hw] at h6
      obtain ⟨sv, he, _⟩ := h6.open
      simp only [Value.agg.injEq, Array.mk.injEq, List.cons.injEq, Value.int.injEq, true_and] at he
      exact he.1.symm
  have E : Hid (exprsB st = (!st.rows.any badEs && !st.sets.any (fun t => badE t.2) && !badEs st.out && !badEs st.order && (decide (op = 0) || !badE st.wher))) := by show _ = _; rw [exprsB, hop]
  rw [anyI_list] at H1
  simp only [anyI_list] at H2
  generalize exprsB st = r at E
  generalize st.rows.any badEs = b1 at H1 E
  generalize st.sets.any (fun t => badE t.2) = b2 at H2 E
  generalize badEs st.out = b3 at H3 E
  generalize badEs st.order = b4 at H4 E
  generalize badE st.wher = b5 at H5 E
  clear h2 h3 h5 h6 h7 hop hf
  have KS : Hid (∀ W, Below W0.heap.size W0 W → W.heap[w.heap.size]? = some (.cells (sA st.kind st.name st.table st.col (.slice o1 st.cols.length c1) (.slice o2 st.rows.length c2) (.slice o3 st.sets.length c3) (.slice o4 st.frm.length c4) (.slice o5 st.out.length c5) op xk xn xs s nmv n8 (.slice o6 k6 c6) (.slice o7 st.order.length c7) st.down st.n) 36)) := fun W h => (h.block _ (show w.heap.size < W0.heap.size by omega)).trans hbl0
  cases b1
  rotate_left
  · go_enter Try.func14, Try.ntmps14
    go_upto_region 4 with fail
    rw [HW0.out]
    have g5 := cell_of_block hbl0 (j := 5) rfl
    go_wp2_with (first | (go_at_call 37; go_fit H1; rintro e w1 ⟨rfl, B1⟩; have S1 := KS.out _ B1; have g6 := cell_of_block S1 (j := 6) rfl; have g8 := cell_of_block S1 (j := 8) rfl))
    go_ret
    exact ⟨ret_bool (by rw [E.out]; rfl), KB _ B1⟩
  cases b2
  rotate_left
  · go_enter Try.func14, Try.ntmps14
    go_upto_region 4 with fail
    rw [HW0.out]
    have g5 := cell_of_block hbl0 (j := 5) rfl
    go_wp2_with (first | (go_at_call 37; go_fit H1; rintro e w1 ⟨rfl, B1⟩; have S1 := KS.out _ B1; have g6 := cell_of_block S1 (j := 6) rfl; have g8 := cell_of_block S1 (j := 8) rfl) | (go_at_call 38; go_fit (H2 _ B1); rintro e w2 ⟨rfl, B2⟩; have S2 := KS.out _ B2; have g8 := cell_of_block S2 (j := 8) rfl))
    go_ret
    exact ⟨ret_bool (by rw [E.out]; rfl), KB _ B2⟩
  cases b3
  rotate_left
  · go_enter Try.func14, Try.ntmps14
    go_upto_region 4 with fail
    rw [HW0.out]
    have g5 := cell_of_block hbl0 (j := 5) rfl
    go_wp2_with (first | (go_at_call 37; go_fit H1; rintro e w1 ⟨rfl, B1⟩; have S1 := KS.out _ B1; have g6 := cell_of_block S1 (j := 6) rfl; have g8 := cell_of_block S1 (j := 8) rfl) | (go_at_call 38; go_fit (H2 _ B1); rintro e w2 ⟨rfl, B2⟩; have S2 := KS.out _ B2; have g8 := cell_of_block S2 (j := 8) rfl) | (go_at_call_of 34 (Value.slice o5 st.out.length c5); go_fit (H3 _ B2); rintro e w3 ⟨rfl, hb3⟩; have B3 := bthen B2 hb3; have S3' := KS.out _ B3; have g17 := cell_of_block S3' (j := 17) rfl))
    go_ret
    exact ⟨ret_bool (by rw [E.out]; rfl), KB _ B3⟩
  cases b4
  rotate_left
  · go_enter Try.func14, Try.ntmps14
    go_upto_region 4 with fail
    rw [HW0.out]
    have g5 := cell_of_block hbl0 (j := 5) rfl
    go_wp2_with (first | (go_at_call 37; go_fit H1; rintro e w1 ⟨rfl, B1⟩; have S1 := KS.out _ B1; have g6 := cell_of_block S1 (j := 6) rfl; have g8 := cell_of_block S1 (j := 8) rfl) | (go_at_call 38; go_fit (H2 _ B1); rintro e w2 ⟨rfl, B2⟩; have S2 := KS.out _ B2; have g8 := cell_of_block S2 (j := 8) rfl) | (go_at_call_of 34 (Value.slice o5 st.out.length c5); go_fit (H3 _ B2); rintro e w3 ⟨rfl, hb3⟩; have B3 := bthen B2 hb3; have S3' := KS.out _ B3; have g17 := cell_of_block S3' (j := 17) rfl) | (go_at_call_of 34 (Value.slice o7 st.order.length c7); go_fit (H4 _ B3); rintro e w4 ⟨rfl, hb4⟩; have B4 := bthen B3 hb4; have S4 := KS.out _ B4; have gp := KP _ B4; have g9 := cell_of_block S4 (j := 9) rfl; have g10 := cell_of_block S4 (j := 10) rfl; have g11 := cell_of_block S4 (j := 11) rfl; have g12 := cell_of_block S4 (j := 12) rfl; have g13 := cell_of_block S4 (j := 13) rfl; have g14 := cell_of_block S4 (j := 14) rfl; have g15 := cell_of_block S4 (j := 15) rfl; have g16 := cell_of_block S4 (j := 16) rfl))
    go_ret
    exact ⟨ret_bool (by rw [E.out]; rfl), KB _ B4⟩
  by_cases h0 : op = 0
  · subst h0
    go_enter Try.func14, Try.ntmps14
    go_upto_region 4 with fail
    rw [HW0.out]
    have g5 := cell_of_block hbl0 (j := 5) rfl
    go_wp2_with (first | (go_at_call 37; go_fit H1; rintro e w1 ⟨rfl, B1⟩; have S1 := KS.out _ B1; have g6 := cell_of_block S1 (j := 6) rfl; have g8 := cell_of_block S1 (j := 8) rfl) | (go_at_call 38; go_fit (H2 _ B1); rintro e w2 ⟨rfl, B2⟩; have S2 := KS.out _ B2; have g8 := cell_of_block S2 (j := 8) rfl) | (go_at_call_of 34 (Value.slice o5 st.out.length c5); go_fit (H3 _ B2); rintro e w3 ⟨rfl, hb3⟩; have B3 := bthen B2 hb3; have S3' := KS.out _ B3; have g17 := cell_of_block S3' (j := 17) rfl) | (go_at_call_of 34 (Value.slice o7 st.order.length c7); go_fit (H4 _ B3); rintro e w4 ⟨rfl, hb4⟩; have B4 := bthen B3 hb4; have S4 := KS.out _ B4; have gp := KP _ B4; have g9 := cell_of_block S4 (j := 9) rfl; have g10 := cell_of_block S4 (j := 10) rfl; have g11 := cell_of_block S4 (j := 11) rfl; have g12 := cell_of_block S4 (j := 12) rfl; have g13 := cell_of_block S4 (j := 13) rfl; have g14 := cell_of_block S4 (j := 14) rfl; have g15 := cell_of_block S4 (j := 15) rfl; have g16 := cell_of_block S4 (j := 16) rfl))
    go_ret
    exact ⟨ret_bool (by rw [E.out]; rfl), KB _ B4⟩
  · have h0' : (op == 0) = false := by simpa using h0
    have E2 : Hid (r = !b5) := by show _ = _; rw [E.out]; simp [h0]
    go_enter Try.func14, Try.ntmps14
    go_upto_region 4 with fail
    rw [HW0.out]
    have g5 := cell_of_block hbl0 (j := 5) rfl
    go_wp2_with (first | (go_at_call 37; go_fit H1; rintro e w1 ⟨rfl, B1⟩; have S1 := KS.out _ B1; have g6 := cell_of_block S1 (j := 6) rfl; have g8 := cell_of_block S1 (j := 8) rfl) | (go_at_call 38; go_fit (H2 _ B1); rintro e w2 ⟨rfl, B2⟩; have S2 := KS.out _ B2; have g8 := cell_of_block S2 (j := 8) rfl) | (go_at_call_of 34 (Value.slice o5 st.out.length c5); go_fit (H3 _ B2); rintro e w3 ⟨rfl, hb3⟩; have B3 := bthen B2 hb3; have S3' := KS.out _ B3; have g17 := cell_of_block S3' (j := 17) rfl) | (go_at_call_of 34 (Value.slice o7 st.order.length c7); go_fit (H4 _ B3); rintro e w4 ⟨rfl, hb4⟩; have B4 := bthen B3 hb4; have S4 := KS.out _ B4; have gp := KP _ B4; have g9 := cell_of_block S4 (j := 9) rfl; have g10 := cell_of_block S4 (j := 10) rfl; have g11 := cell_of_block S4 (j := 11) rfl; have g12 := cell_of_block S4 (j := 12) rfl; have g13 := cell_of_block S4 (j := 13) rfl; have g14 := cell_of_block S4 (j := 14) rfl; have g15 := cell_of_block S4 (j := 15) rfl; have g16 := cell_of_block S4 (j := 16) rfl) | (go_at_call 32; go_fit (H5 _ B4); rintro e w5 ⟨rfl, hb5⟩; have B5 := bthen B4 hb5))
    go_ret
    exact ⟨ret_bool (by rw [E2.out]), KB _ B5⟩

end Go.Proofs.Ytabanbpnghidhaa

