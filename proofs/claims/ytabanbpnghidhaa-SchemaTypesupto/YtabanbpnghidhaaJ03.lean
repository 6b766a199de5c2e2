/-
  5 texts of this proof in one, in build order: YIndexB, YCat, YCat2, YIndexC, Good.
-/
import Derived.Test.YtabanbpnghidhaaRows
import Derived.WalkKit
import Derived.WalkSpells
import Derived.WalkLawsBesides
import Derived.Test.YtabanbpnghidhaaJ01
import Derived.Test.YtabanbpnghidhaaJ02
namespace Go.Proofs.Ytabanbpnghidhaa
open Go.RowKit

set_option maxRecDepth 100000 in
set_option maxHeartbeats 2000000 in
theorem index_goodTables (l : List (TabD)) (F : Nat → Prop) (ao : Option Addr) (n c : Nat) (p : Nat → Bool) (St : Nat → World → Prop) (En : World → Prop) (w : World) (hEn : ∀ i W, St i W → En W) (hIs : ∀ i W, St i W → IsL kTab F W (.slice ao n c) l)
    (hcall : ∀ i x cs W, l[i]? = some x → St i W → kTab.R F W x cs → Calls Try.prog 55 #[.agg cs.toArray] W fun e W' => e = .returned (.bool (p i)) ∧ En W' ∧ (p i = false → St (i + 1) W')) (h0 : St 0 w) :
    Calls Try.prog 24 #[.slice ao n c, .func (.func 55) #[] #[]] w fun e W' => e = .returned (.int .i64 (firstI p 0 l.length)) ∧ En W' := by
  obtain ⟨hn, hlm⟩ := isL_len (hIs 0 w h0)
  subst hn
  unfold maxLen at hlm
  go_enter Try.func24, Try.ntmps24
  go_wp2
  go_loopw [8] (fun i wr => ∃ k : Nat, k ≤ l.length ∧ i = .int .i64 k ∧ St k wr ∧ Hid (firstI p 0 l.length = firstI p k (l.length - k))) (fun i _ => l.length - (intOf i).toNat)
  case atStart => exact ⟨0, Nat.zero_le _, rfl, h0, rfl⟩
  case round =>
    obtain ⟨k, hk, rfl, hSt, HP⟩ := hrel
    by_cases hlt : k < l.length
    · obtain ⟨x, hx⟩ : ∃ x, l[k]? = some x := ⟨_, List.getElem?_eq_getElem hlt⟩
      obtain ⟨b, off, cs, rfl, _, hb, hR, hcell⟩ := isL_get (hIs k wr hSt) hx
      have HC := hcall k x cs wr hx hSt hR
      obtain ⟨sv, rfl, hsv⟩ := hR
      obtain ⟨ao1, c1, rfl⟩ := hsv.shape
      have d0 := hcell 0 _ rfl
      have d1 := hcell 1 _ rfl
      simp only [kTab, Nat.add_zero] at d0 d1
      have k0 : (0 : Int) ≤ (k : Int) := by omega
      have k1 : (k : Int) < (l.length : Int) := by omega
      have hst : Hid (firstI p k (l.length - k) = if p k then (k : Int) else firstI p (k + 1) (l.length - (k + 1))) := firstI_step p k l.length hlt
      clear hcell hx
      generalize hq : p k = q at HC hst
      clear hq
      cases q
      · go_wp2_with (go_at_call 55; go_must (go_fit HC; rintro e W' ⟨rfl, _, hS1⟩))
        go_roundw
        case rel => exact ⟨k + 1, by omega, by go_num, hS1 (by first | rfl | trivial), by rw [HP.out, hst.out]; rfl⟩
        case measure => simp [intOf]; omega
      · go_wp2_with (go_at_call 55; go_must (go_fit HC; rintro e W' ⟨rfl, hS1, _⟩))
        go_ret
        exact ⟨ret_int (by rw [HP.out, hst.out]; rfl), hS1⟩
    · have HE : Hid (firstI p k (l.length - k) = -1) := by show _ = _; rw [show l.length - k = 0 from by omega, firstI]
      go_wp2
      go_ret
      exact ⟨ret_int (by rw [HP.out, HE.out]), hEn k _ hSt⟩

set_option maxHeartbeats 2000000 in
theorem contains_goodTables (l : List (TabD)) (F : Nat → Prop) (ao : Option Addr) (n c : Nat) (p : Nat → Bool) (St : Nat → World → Prop) (En : World → Prop) (w : World) (hEn : ∀ i W, St i W → En W) (hIs : ∀ i W, St i W → IsL kTab F W (.slice ao n c) l)
    (hcall : ∀ i x cs W, l[i]? = some x → St i W → kTab.R F W x cs → Calls Try.prog 55 #[.agg cs.toArray] W fun e W' => e = .returned (.bool (p i)) ∧ En W' ∧ (p i = false → St (i + 1) W')) (h0 : St 0 w) :
    Calls Try.prog 57 #[.slice ao n c, .func (.func 55) #[] #[]] w fun e W' => e = .returned (.bool (anyI p 0 l.length)) ∧ En W' := by
  have HI := index_goodTables l F ao n c p St En w hEn hIs hcall h0
  have HA : Hid (anyI p 0 l.length = decide (0 ≤ firstI p 0 l.length)) := anyI_eq p l.length 0
  generalize anyI p 0 l.length = r at HA
  generalize firstI p 0 l.length = q at HI HA
  clear hIs hcall h0 hEn
  go_enter Try.func57, Try.ntmps57
  go_wp2_with (go_at_call 24; go_must (go_fit HI; rintro e W' ⟨rfl, hS1⟩))
  go_ret
  exact ⟨ret_bool (by rw [HA.out]), hS1⟩

set_option maxRecDepth 100000 in
set_option maxHeartbeats 2000000 in
theorem index_goodIndexes (l : List (IdxD)) (F : Nat → Prop) (ao : Option Addr) (n c : Nat) (f0 : Value) (p : Nat → Bool) (St : Nat → World → Prop) (En : World → Prop) (w : World) (hEn : ∀ i W, St i W → En W) (hIs : ∀ i W, St i W → IsL kIdx F W (.slice ao n c) l)
    (hcall : ∀ i x cs W, l[i]? = some x → St i W → kIdx.R F W x cs → Calls Try.prog 59 #[.agg cs.toArray, f0] W fun e W' => e = .returned (.bool (p i)) ∧ En W' ∧ (p i = false → St (i + 1) W')) (h0 : St 0 w) :
    Calls Try.prog 86 #[.slice ao n c, .func (.func 59) #[] #[f0]] w fun e W' => e = .returned (.int .i64 (firstI p 0 l.length)) ∧ En W' := by
  obtain ⟨hn, hlm⟩ := isL_len (hIs 0 w h0)
  subst hn
  unfold maxLen at hlm
  go_enter Try.func86, Try.ntmps86
  go_wp2
  go_loopw [8] (fun i wr => ∃ k : Nat, k ≤ l.length ∧ i = .int .i64 k ∧ St k wr ∧ Hid (firstI p 0 l.length = firstI p k (l.length - k))) (fun i _ => l.length - (intOf i).toNat)
  case atStart => exact ⟨0, Nat.zero_le _, rfl, h0, rfl⟩
  case round =>
    obtain ⟨k, hk, rfl, hSt, HP⟩ := hrel
    by_cases hlt : k < l.length
    · obtain ⟨x, hx⟩ : ∃ x, l[k]? = some x := ⟨_, List.getElem?_eq_getElem hlt⟩
      obtain ⟨b, off, cs, rfl, _, hb, hR, hcell⟩ := isL_get (hIs k wr hSt) hx
      have HC := hcall k x cs wr hx hSt hR
      obtain rfl := hR
      have d0 := hcell 0 _ rfl
      have d1 := hcell 1 _ rfl
      have d2 := hcell 2 _ rfl
      simp only [kIdx, Nat.add_zero] at d0 d1 d2
      have k0 : (0 : Int) ≤ (k : Int) := by omega
      have k1 : (k : Int) < (l.length : Int) := by omega
      have hst : Hid (firstI p k (l.length - k) = if p k then (k : Int) else firstI p (k + 1) (l.length - (k + 1))) := firstI_step p k l.length hlt
      clear hcell hx
      generalize hq : p k = q at HC hst
      clear hq
      cases q
      · go_wp2_with (go_at_call 59; go_must (go_fit HC; rintro e W' ⟨rfl, _, hS1⟩))
        go_roundw
        case rel => exact ⟨k + 1, by omega, by go_num, hS1 (by first | rfl | trivial), by rw [HP.out, hst.out]; rfl⟩
        case measure => simp [intOf]; omega
      · go_wp2_with (go_at_call 59; go_must (go_fit HC; rintro e W' ⟨rfl, hS1, _⟩))
        go_ret
        exact ⟨ret_int (by rw [HP.out, hst.out]; rfl), hS1⟩
    · have HE : Hid (firstI p k (l.length - k) = -1) := by show _ = _; rw [show l.length - k = 0 from by omega, firstI]
      go_wp2
      go_ret
      exact ⟨ret_int (by rw [HP.out, HE.out]), hEn k _ hSt⟩

set_option maxHeartbeats 2000000 in
theorem contains_goodIndexes (l : List (IdxD)) (F : Nat → Prop) (ao : Option Addr) (n c : Nat) (f0 : Value) (p : Nat → Bool) (St : Nat → World → Prop) (En : World → Prop) (w : World) (hEn : ∀ i W, St i W → En W) (hIs : ∀ i W, St i W → IsL kIdx F W (.slice ao n c) l)
    (hcall : ∀ i x cs W, l[i]? = some x → St i W → kIdx.R F W x cs → Calls Try.prog 59 #[.agg cs.toArray, f0] W fun e W' => e = .returned (.bool (p i)) ∧ En W' ∧ (p i = false → St (i + 1) W')) (h0 : St 0 w) :
    Calls Try.prog 62 #[.slice ao n c, .func (.func 59) #[] #[f0]] w fun e W' => e = .returned (.bool (anyI p 0 l.length)) ∧ En W' := by
  have HI := index_goodIndexes l F ao n c f0 p St En w hEn hIs hcall h0
  have HA : Hid (anyI p 0 l.length = decide (0 ≤ firstI p 0 l.length)) := anyI_eq p l.length 0
  generalize anyI p 0 l.length = r at HA
  generalize firstI p 0 l.length = q at HI HA
  clear hIs hcall h0 hEn
  go_enter Try.func62, Try.ntmps62
  go_wp2_with (go_at_call 86; go_must (go_fit HI; rintro e W' ⟨rfl, hS1⟩))
  go_ret
  exact ⟨ret_bool (by rw [HA.out]), hS1⟩

set_option maxRecDepth 100000 in
set_option maxHeartbeats 2000000 in
theorem index_mayMark (l : List (IdxD)) (F : Nat → Prop) (ao : Option Addr) (n c : Nat) (f0 : Value) (p : Nat → Bool) (St : Nat → World → Prop) (En : World → Prop) (w : World) (hEn : ∀ i W, St i W → En W) (hIs : ∀ i W, St i W → IsL kIdx F W (.slice ao n c) l)
    (hcall : ∀ i x cs W, l[i]? = some x → St i W → kIdx.R F W x cs → Calls Try.prog 74 #[.agg cs.toArray, f0] W fun e W' => e = .returned (.bool (p i)) ∧ En W' ∧ (p i = false → St (i + 1) W')) (h0 : St 0 w) :
    Calls Try.prog 86 #[.slice ao n c, .func (.func 74) #[] #[f0]] w fun e W' => e = .returned (.int .i64 (firstI p 0 l.length)) ∧ En W' := by
  obtain ⟨hn, hlm⟩ := isL_len (hIs 0 w h0)
  subst hn
  unfold maxLen at hlm
  go_enter Try.func86, Try.ntmps86
  go_wp2
  go_loopw [8] (fun i wr => ∃ k : Nat, k ≤ l.length ∧ i = .int .i64 k ∧ St k wr ∧ Hid (firstI p 0 l.length = firstI p k (l.length - k))) (fun i _ => l.length - (intOf i).toNat)
  case atStart => exact ⟨0, Nat.zero_le _, rfl, h0, rfl⟩
  case round =>
    obtain ⟨k, hk, rfl, hSt, HP⟩ := hrel
    by_cases hlt : k < l.length
    · obtain ⟨x, hx⟩ : ∃ x, l[k]? = some x := ⟨_, List.getElem?_eq_getElem hlt⟩
      obtain ⟨b, off, cs, rfl, _, hb, hR, hcell⟩ := isL_get (hIs k wr hSt) hx
      have HC := hcall k x cs wr hx hSt hR
      obtain rfl := hR
      have d0 := hcell 0 _ rfl
      have d1 := hcell 1 _ rfl
      have d2 := hcell 2 _ rfl
      simp only [kIdx, Nat.add_zero] at d0 d1 d2
      have k0 : (0 : Int) ≤ (k : Int) := by omega
      have k1 : (k : Int) < (l.length : Int) := by omega
      have hst : Hid (firstI p k (l.length - k) = if p k then (k : Int) else firstI p (k + 1) (l.length - (k + 1))) := firstI_step p k l.length hlt
      clear hcell hx
      generalize hq : p k = q at HC hst
      clear hq
      cases q
      · go_wp2_with (go_at_call 74; go_must (go_fit HC; rintro e W' ⟨rfl, _, hS1⟩))
        go_roundw
        case rel => exact ⟨k + 1, by omega, by go_num, hS1 (by first | rfl | trivial), by rw [HP.out, hst.out]; rfl⟩
        case measure => simp [intOf]; omega
      · go_wp2_with (go_at_call 74; go_must (go_fit HC; rintro e W' ⟨rfl, hS1, _⟩))
        go_ret
        exact ⟨ret_int (by rw [HP.out, hst.out]; rfl), hS1⟩
    · have HE : Hid (firstI p k (l.length - k) = -1) := by show _ = _; rw [show l.length - k = 0 from by omega, firstI]
      go_wp2
      go_ret
      exact ⟨ret_int (by rw [HP.out, HE.out]), hEn k _ hSt⟩

set_option maxHeartbeats 2000000 in
theorem contains_mayMark (l : List (IdxD)) (F : Nat → Prop) (ao : Option Addr) (n c : Nat) (f0 : Value) (p : Nat → Bool) (St : Nat → World → Prop) (En : World → Prop) (w : World) (hEn : ∀ i W, St i W → En W) (hIs : ∀ i W, St i W → IsL kIdx F W (.slice ao n c) l)
    (hcall : ∀ i x cs W, l[i]? = some x → St i W → kIdx.R F W x cs → Calls Try.prog 74 #[.agg cs.toArray, f0] W fun e W' => e = .returned (.bool (p i)) ∧ En W' ∧ (p i = false → St (i + 1) W')) (h0 : St 0 w) :
    Calls Try.prog 62 #[.slice ao n c, .func (.func 74) #[] #[f0]] w fun e W' => e = .returned (.bool (anyI p 0 l.length)) ∧ En W' := by
  have HI := index_mayMark l F ao n c f0 p St En w hEn hIs hcall h0
  have HA : Hid (anyI p 0 l.length = decide (0 ≤ firstI p 0 l.length)) := anyI_eq p l.length 0
  generalize anyI p 0 l.length = r at HA
  generalize firstI p 0 l.length = q at HI HA
  clear hIs hcall h0 hEn
  go_enter Try.func62, Try.ntmps62
  go_wp2_with (go_at_call 86; go_must (go_fit HI; rintro e W' ⟨rfl, hS1⟩))
  go_ret
  exact ⟨ret_bool (by rw [HA.out]), hS1⟩

end Go.Proofs.Ytabanbpnghidhaa

namespace Go.Proofs.Ytabanbpnghidhaa
open Go.RowKit Go.Maps

def firstMust : List ColD → Bool
  | x :: _ => x.must
  | [] => false
/-- P4.1: a table. -/
def tabB (t : TabD) : Bool := nm t.name && decide (1 ≤ t.cols.length) && decide (t.cols.length ≤ 4) && firstMust t.cols && colsB t.cols
def fitTab (t : TabD) : Prop := t.name.size ≤ maxLen ∧ fitCols t.cols

set_option maxRecDepth 100000 in
set_option maxHeartbeats 4000000 in
theorem goodTable_any (t : TabD) (sv : Value) (C : Nat) (w : World) (hl : IsL kCol (fun k => k < C) w sv t.cols) (hC : C ≤ w.heap.size) (hf : fitTab t) :
    Calls Try.prog 56 #[.agg #[.string t.name, sv]] w fun e w' => e = .returned (.bool (tabB t)) ∧ Below w.heap.size w w' := by
  obtain ⟨name, cols⟩ := t
  simp only at hl ⊢
  obtain ⟨ao, c, rfl⟩ := hl.shape
  have hN := fun w => named_any name w hf.1
  have hbx := bel1 w (.cells #[.string name, .slice ao cols.length c] 43)
  have hG := fun (h : cols.length ≤ 16777215) => goodCols_any cols (.slice ao cols.length c) C (w.alloc (.cells #[.string name, .slice ao cols.length c] 43)) (hl.keep (keepsC (hbx.mono hC))) (Nat.le_trans hC hbx.size) hf.2 h
  have E : Hid (tabB ⟨name, cols⟩ = (nm name && decide (1 ≤ cols.length) && decide (cols.length ≤ 4) && firstMust cols && colsB cols)) := rfl
  generalize tabB ⟨name, cols⟩ = r at E
  generalize nm name = b at hN E
  generalize colsB cols = g at hG E
  have hlm := (isL_len hl).2
  cases b
  · clear hl hG hf
    go_enter Try.func56, Try.ntmps56
    go_wp2_with (go_at_call 60; go_fit (hN _); rintro e w1 ⟨rfl, rfl⟩)
    go_ret
    exact ⟨ret_bool (by rw [E.out]; rfl), hbx⟩
  by_cases h1 : 1 ≤ cols.length
  rotate_left
  · have q1 : ¬ (1 : Int) ≤ (cols.length : Int) := by omega
    have E2 : Hid (r = false) := by show _ = _; rw [E.out]; simp [h1]
    clear hl hG hf E
    go_enter Try.func56, Try.ntmps56
    go_wp2_with (go_at_call 60; go_fit (hN _); rintro e w1 ⟨rfl, rfl⟩)
    go_ret
    exact ⟨ret_bool (by rw [E2.out]), hbx⟩
  by_cases h4 : cols.length ≤ 4
  rotate_left
  · have q1 : (1 : Int) ≤ (cols.length : Int) := by omega
    have q2 : ¬ (cols.length : Int) ≤ 4 := by omega
    have E2 : Hid (r = false) := by show _ = _; rw [E.out]; simp [h4]
    clear hl hG hf E
    go_enter Try.func56, Try.ntmps56
    go_wp2_with (go_at_call 60; go_fit (hN _); rintro e w1 ⟨rfl, rfl⟩)
    go_ret
    exact ⟨ret_bool (by rw [E2.out]), hbx⟩
  obtain ⟨x, hx⟩ : ∃ x, cols[0]? = some x := ⟨_, List.getElem?_eq_getElem (by omega)⟩
  obtain ⟨b, off, cs, rfl, _, hb, hR, hcell⟩ := isL_get (hl.keep (keepsC (hbx.mono hC))) hx
  obtain rfl := hR
  have d2 := hcell 2 _ rfl
  simp only [kCol, Nat.zero_mul, Nat.add_zero] at d2
  have hm : firstMust cols = x.must := by
    match cols, hx with
    | y :: r, hx => simp at hx; subst hx; rfl
  have q1 : (1 : Int) ≤ (cols.length : Int) := by omega
  have q2 : (cols.length : Int) ≤ 4 := by omega
  have q3 : (0 : Int) < (cols.length : Int) := by omega
  have HG := hG (by omega)
  have E2 : Hid (r = (x.must && g)) := by show _ = _; rw [E.out, hm]; simp [h1, h4]
  clear hl hG hf E hm hx hcell
  generalize x.must = m at d2 E2
  cases m
  · go_enter Try.func56, Try.ntmps56
    go_wp2_with (go_at_call 60; go_fit (hN _); rintro e w1 ⟨rfl, rfl⟩)
    go_ret
    exact ⟨ret_bool (by rw [E2.out]; rfl), hbx⟩
  · go_enter Try.func56, Try.ntmps56
    go_wp2_with (first | (go_at_call 60; go_fit (hN _); rintro e w1 ⟨rfl, rfl⟩) | (go_at_call 87; go_fit HG; rintro e w2 ⟨rfl, hb2⟩))
    go_ret
    exact ⟨ret_bool (by rw [E2.out]; simp), bthen hbx hb2⟩

set_option maxHeartbeats 1000000 in
theorem goodTables1_any (t : TabD) (sv : Value) (C : Nat) (w : World) (hl : IsL kCol (fun k => k < C) w sv t.cols) (hC : C ≤ w.heap.size) (hf : fitTab t) :
    Calls Try.prog 55 #[.agg #[.string t.name, sv]] w fun e w' => e = .returned (.bool (!tabB t)) ∧ Below w.heap.size w w' := by
  obtain ⟨ao, c, rfl⟩ := hl.shape
  have hbx := bel1 w (.cells #[.string t.name, .slice ao t.cols.length c] 43)
  have HG := goodTable_any t (.slice ao t.cols.length c) C _ (hl.keep (keepsC (hbx.mono hC))) (Nat.le_trans hC hbx.size) hf
  generalize tabB t = r at HG
  clear hl hf
  go_enter Try.func55, Try.ntmps55
  go_wp2_with (go_at_call 56; go_fit HG; rintro e w2 ⟨rfl, hb2⟩)
  go_ret
  exact ⟨rfl, bthen hbx hb2⟩

/-- P4.3: tables. -/
def tabsB (T : List TabD) : Bool := !anyI (atI T fun t => !tabB t) 0 T.length && riseB (T.map TabD.name)
def fitTabs (T : List TabD) : Prop := ∀ t ∈ T, fitTab t

set_option maxRecDepth 100000 in
set_option maxHeartbeats 2000000 in
theorem goodTables_any (T : List TabD) (sv : Value) (C : Nat) (w : World) (hl : IsL kTab (fun k => k < C) w sv T) (hC : C ≤ w.heap.size) (hf : fitTabs T) :
    Calls Try.prog 26 #[sv] w fun e w' => e = .returned (.bool (tabsB T)) ∧ Below w.heap.size w w' := by
  obtain ⟨ao, c, rfl⟩ := hl.shape
  have HC := contains_goodTables T (fun k => k < C) ao T.length c (atI T fun t => !tabB t) (fun _ W => Below w.heap.size w W) (fun W => Below w.heap.size w W) w (fun i W h => h) (fun i W h => hl.keep (keepsC (h.mono hC)))
    (by
      rintro i x cs W hx h1 ⟨sv, rfl, hsv⟩
      refine (goodTables1_any x sv C W hsv (Nat.le_trans hC h1.size) (hf x (List.mem_of_getElem? hx))).mono ?_
      rintro e W' ⟨rfl, hb⟩
      exact ⟨by rw [atI_get hx], h1.trans (hb.mono h1.size), fun _ => h1.trans (hb.mono h1.size)⟩)
    (Below.refl _ _)
  have HR := fun w' (h : Below w.heap.size w w') => rise_tab T (.slice ao T.length c) C w' (hl.keep (keepsC (h.mono hC))) (Nat.le_trans hC h.size)
  have E : Hid (tabsB T = (!anyI (atI T fun t => !tabB t) 0 T.length && riseB (T.map TabD.name))) := rfl
  generalize tabsB T = r at E
  generalize anyI (atI T fun t => !tabB t) 0 T.length = q at E HC
  generalize riseB (T.map TabD.name) = r2 at E HR
  clear hl hf
  cases q
  · go_enter Try.func26, Try.ntmps26
    go_wp2_with (first | (go_at_call 57; go_fit HC; rintro e w1 ⟨rfl, hb1⟩) | (go_at_call 58; go_fit (HR _ hb1); rintro e w2 ⟨rfl, hb2⟩))
    go_ret
    exact ⟨ret_bool (by rw [E.out]; rfl), bthen hb1 hb2⟩
  · go_enter Try.func26, Try.ntmps26
    go_wp2_with (first | (go_at_call 57; go_fit HC; rintro e w1 ⟨rfl, hb1⟩))
    go_ret
    exact ⟨ret_bool (by rw [E.out]; rfl), hb1⟩

end Go.Proofs.Ytabanbpnghidhaa

namespace Go.Proofs.Ytabanbpnghidhaa
open Go.RowKit Go.Maps

theorem findTable_some {T : List TabD} {t : TabD} {s : Wd} (h : tabOf T s = some t) (tv iv : Value) (hiv : IsSl iv) (C : Nat) (w : World) (hl : IsL kTab (fun k => k < C) w tv T) (hC : C ≤ w.heap.size) :
    Calls Try.prog 8 #[.agg #[tv, iv], .string s] w fun e w' => ∃ ao n c, e = .returned (.tuple #[.agg #[.string t.name, .slice ao n c], .bool true]) ∧ IsL kCol (fun k => k < C) w' (.slice ao n c) t.cols ∧ Below w.heap.size w w' := by
  refine (findTable_any T tv iv hiv s C w hl hC).mono ?_
  rintro e w' ⟨nmv, ao, n, c, there, rfl, hm, hb⟩
  rw [h] at hm
  obtain ⟨rfl, rfl, hL⟩ := hm
  exact ⟨ao, n, c, rfl, hL, hb⟩
theorem findTable_none {T : List TabD} {s : Wd} (h : tabOf T s = none) (tv iv : Value) (hiv : IsSl iv) (C : Nat) (w : World) (hl : IsL kTab (fun k => k < C) w tv T) (hC : C ≤ w.heap.size) :
    Calls Try.prog 8 #[.agg #[tv, iv], .string s] w fun e w' => e = .returned (.tuple #[.agg #[.string noW, .slice none 0 0], .bool false]) ∧ Below w.heap.size w w' := by
  refine (findTable_any T tv iv hiv s C w hl hC).mono ?_
  rintro e w' ⟨nmv, ao, n, c, there, rfl, hm, hb⟩
  rw [h] at hm
  obtain ⟨rfl, rfl, rfl, rfl, rfl⟩ := hm
  exact ⟨rfl, hb⟩

/-- Is there such a table, with such a column? -/
def hasB (T : List TabD) (tb cl : Wd) : Bool := match tabOf T tb with
  | some t => decide (0 ≤ colAt t.cols cl)
  | none => false

set_option maxRecDepth 100000 in
set_option maxHeartbeats 2000000 in
theorem hasCol_any (T : List TabD) (tv iv : Value) (hiv : IsSl iv) (tb cl : Wd) (C : Nat) (w : World) (hl : IsL kTab (fun k => k < C) w tv T) (hC : C ≤ w.heap.size) :
    Calls Try.prog 61 #[.agg #[tv, iv], .string tb, .string cl] w fun e w' => e = .returned (.bool (hasB T tb cl)) ∧ Below w.heap.size w w' := by
  obtain ⟨ao, c, rfl⟩ := hl.shape
  have hbx := bel1 w (.cells #[.slice ao T.length c, iv] 25)
  have hl1 := hl.keep (keepsC (hbx.mono hC))
  have hC1 := Nat.le_trans hC hbx.size
  cases h : tabOf T tb with
  | none =>
    have HF := findTable_none h (.slice ao T.length c) iv hiv C _ hl1 hC1
    have E : Hid (hasB T tb cl = false) := by show _ = _; simp [hasB, h]
    generalize hasB T tb cl = r at E
    obtain ⟨io, il, ic, rfl⟩ := hiv
    clear hl hl1 h
    go_enter Try.func61, Try.ntmps61
    go_wp2_with (go_at_call 8; go_fit HF; rintro e w1 ⟨rfl, hb1⟩)
    go_ret
    exact ⟨ret_bool (by rw [E.out]), (bthen hbx hb1).alloc (Nat.le_trans hbx.size hb1.size) _⟩
  | some t =>
    have HF := findTable_some h (.slice ao T.length c) iv hiv C _ hl1 hC1
    have E : Hid (hasB T tb cl = decide (0 ≤ colAt t.cols cl)) := by show _ = _; simp [hasB, h]
    generalize hasB T tb cl = r at E
    have HCo := fun w' sv (h : IsL kCol (fun k => k < C) w' sv t.cols) (hh : C ≤ w'.heap.size) => findCol_any t.cols t.name sv cl C w' h hh
    generalize colAt t.cols cl = q at E HCo
    obtain ⟨io, il, ic, rfl⟩ := hiv
    clear hl hl1 h
    go_enter Try.func61, Try.ntmps61
    go_wp2_with (first | (go_at_call 8; go_fit HF; rintro e w1 ⟨so, sn, sc, rfl, hL, hb1⟩; have hb2 := bel1 w1 (.cells #[.string t.name, .slice so sn sc] 43); have hC2 := Nat.le_trans hC1 hb1.size) | (go_at_call 11; go_fit (HCo _ _ (hL.keep (keepsC (hb2.mono hC2))) (Nat.le_trans hC2 hb2.size)); rintro e w2 ⟨rfl, hb3⟩))
    go_ret
    exact ⟨ret_bool (by rw [E.out]), bthen (bthen hbx hb1) (bthen hb2 hb3)⟩

def idxBad (T : List TabD) (x : IdxD) : Bool := !nm x.name || !hasB T x.table x.col

set_option maxRecDepth 100000 in
set_option maxHeartbeats 2000000 in
theorem goodIndexes1_any (T : List TabD) (x : IdxD) (tv iv : Value) (hiv : IsSl iv) (pb C : Nat) (w : World) (hl : IsL kTab (fun k => k < C) w tv T) (hC : C ≤ w.heap.size) (hs : x.name.size ≤ maxLen) (p0 : w.cell? ⟨pb, 0, none⟩ = some tv) (p1 : w.cell? ⟨pb, 1, none⟩ = some iv) (hpb : pb < w.heap.size) :
    Calls Try.prog 59 #[.agg #[.string x.name, .string x.table, .string x.col], .pointer (some ⟨pb, 0, none⟩)] w fun e w' => e = .returned (.bool (idxBad T x)) ∧ Below w.heap.size w w' := by
  obtain ⟨name, tb, cl⟩ := x
  obtain ⟨ao, c, rfl⟩ := hl.shape
  simp only at hs ⊢
  have hbx := bel1 w (.cells #[.string name, .string tb, .string cl] 63)
  have hN := fun w => named_any name w hs
  have HH := hasCol_any T (.slice ao T.length c) iv hiv tb cl C _ (hl.keep (keepsC (hbx.mono hC))) (Nat.le_trans hC hbx.size)
  have E : Hid (idxBad T ⟨name, tb, cl⟩ = (!nm name || !hasB T tb cl)) := rfl
  generalize idxBad T ⟨name, tb, cl⟩ = r at E
  generalize nm name = b at hN E
  generalize hasB T tb cl = h at HH E
  obtain ⟨io, il, ic, rfl⟩ := hiv
  have p0' := (hbx.cell (p := ⟨pb, 0, none⟩) hpb).trans p0
  have p1' := (hbx.cell (p := ⟨pb, 1, none⟩) hpb).trans p1
  clear hl hs
  cases b
  · go_enter Try.func59, Try.ntmps59
    go_wp2_with (go_at_call 60; go_fit (hN _); rintro e w1 ⟨rfl, rfl⟩)
    go_ret
    exact ⟨ret_bool (by rw [E.out]; rfl), hbx⟩
  · go_enter Try.func59, Try.ntmps59
    go_wp2_with (first | (go_at_call 60; go_fit (hN _); rintro e w1 ⟨rfl, rfl⟩) | (go_at_call 61; go_fit HH; rintro e w2 ⟨rfl, hb2⟩))
    go_ret
    exact ⟨ret_bool (by rw [E.out]; rfl), bthen hbx hb2⟩

/-- P4.3: indexes. -/
def idxsB (T : List TabD) (I : List IdxD) : Bool := !anyI (atI I (idxBad T)) 0 I.length && riseB (I.map IdxD.name)
def fitIdxs (I : List IdxD) : Prop := ∀ x ∈ I, x.name.size ≤ maxLen ∧ x.table.size ≤ maxLen ∧ x.col.size ≤ maxLen

set_option maxRecDepth 100000 in
set_option maxHeartbeats 2000000 in
theorem goodIndexes_any (T : List TabD) (I : List IdxD) (tv iv : Value) (C : Nat) (w : World) (hl : IsL kTab (fun k => k < C) w tv T) (hi : IsL kIdx (fun k => k < C) w iv I) (hC : C ≤ w.heap.size) (hf : fitIdxs I) :
    Calls Try.prog 27 #[.agg #[tv, iv]] w fun e w' => e = .returned (.bool (idxsB T I)) ∧ Below w.heap.size w w' := by
  obtain ⟨to', tc, rfl⟩ := hl.shape
  obtain ⟨ao, c, rfl⟩ := hi.shape
  have hbx := bel1 w (.cells #[.slice to' T.length tc, .slice ao I.length c] 25)
  have hbl : (w.alloc (.cells #[.slice to' T.length tc, .slice ao I.length c] 25)).heap[w.heap.size]? = some (.cells #[.slice to' T.length tc, .slice ao I.length c] 25) := block_alloc_at _ _
  have HC := contains_goodIndexes I (fun k => k < C) ao I.length c (.pointer (some ⟨w.heap.size, 0, none⟩)) (atI I (idxBad T))
    (fun _ W => Below (w.heap.size + 1) (w.alloc (.cells #[.slice to' T.length tc, .slice ao I.length c] 25)) W) (fun W => Below (w.heap.size + 1) (w.alloc (.cells #[.slice to' T.length tc, .slice ao I.length c] 25)) W)
    (w.alloc (.cells #[.slice to' T.length tc, .slice ao I.length c] 25)) (fun i W h => h) (fun i W h => hi.keep (keepsC ((hbx.mono hC).trans (h.mono (by omega)))))
    (by
      rintro i x cs W hx h1 rfl
      have hsz := h1.size
      rw [World.size_alloc] at hsz
      have hbW : Below w.heap.size w W := hbx.trans (h1.mono (by omega))
      have hB := (h1.block w.heap.size (by omega)).trans hbl
      refine (goodIndexes1_any T x (.slice to' T.length tc) (.slice ao I.length c) (isSl _ _ _) w.heap.size C W (hl.keep (keepsC (hbW.mono hC))) (Nat.le_trans hC hbW.size) (hf x (List.mem_of_getElem? hx)).1 (cell_of_block hB rfl) (cell_of_block hB rfl) (by omega)).mono ?_
      rintro e W' ⟨rfl, hb⟩
      have hT := h1.trans (hb.mono hsz)
      exact ⟨by rw [atI_get hx], hT, fun _ => hT⟩)
    (Below.refl _ _)
  have HR := fun w' (h : Below w.heap.size w w') => rise_idx I (.slice ao I.length c) C w' (hi.keep (keepsC (h.mono hC))) (Nat.le_trans hC h.size)
  have E : Hid (idxsB T I = (!anyI (atI I (idxBad T)) 0 I.length && riseB (I.map IdxD.name))) := rfl
  generalize idxsB T I = r at E
  generalize anyI (atI I (idxBad T)) 0 I.length = q at E HC
  generalize riseB (I.map IdxD.name) = r2 at E HR
  clear hl hi hf
  cases q
  · go_enter Try.func27, Try.ntmps27
    go_wp2_with (first | (go_at_call 62; go_fit HC; rintro e w1 ⟨rfl, hb1⟩; have hbw : Below w.heap.size w w1 := hbx.trans (hb1.mono (by omega)); have g1 := (hb1.cell (p := ⟨w.heap.size, 1, none⟩) (show w.heap.size < w.heap.size + 1 by omega)).trans (cell_of_block hbl rfl)) | (go_at_call 63; go_fit (HR _ hbw); rintro e w2 ⟨rfl, hb2⟩))
    go_ret
    exact ⟨ret_bool (by rw [E.out]; rfl), bthen hbw hb2⟩
  · go_enter Try.func27, Try.ntmps27
    go_wp2_with (first | (go_at_call 62; go_fit HC; rintro e w1 ⟨rfl, hb1⟩; have hbw : Below w.heap.size w w1 := hbx.trans (hb1.mono (by omega))))
    go_ret
    exact ⟨ret_bool (by rw [E.out]; rfl), hbw⟩

/-- A catalog: api.Catalog; P4.3. -/
structure CatD where
  tables : List TabD
  indexes : List IdxD
def catB (c : CatD) : Bool := decide (c.tables.length ≤ 3) && decide (c.indexes.length ≤ 4) && tabsB c.tables && idxsB c.tables c.indexes
/-- A catalog in memory. -/
def IsCat (F : Nat → Prop) (w : World) (c : CatD) (v : Value) : Prop := ∃ tv iv, v = .agg #[tv, iv] ∧ IsL kTab F w tv c.tables ∧ IsL kIdx F w iv c.indexes
def fitCat (c : CatD) : Prop := fitTabs c.tables ∧ fitIdxs c.indexes
theorem IsCat.keep {F : Nat → Prop} {w w' : World} {c : CatD} {v : Value} (h : IsCat F w c v) (hk : Keeps F w w') : IsCat F w' c v := by
  obtain ⟨tv, iv, h1, h2, h3⟩ := h
  exact ⟨tv, iv, h1, h2.keep hk, h3.keep hk⟩

set_option maxRecDepth 100000 in
set_option maxHeartbeats 2000000 in
theorem good_cat (ct : CatD) (v : Value) (C : Nat) (w : World) (h : IsCat (fun k => k < C) w ct v) (hC : C ≤ w.heap.size) (hf : fitCat ct) :
    Calls Try.prog 9 #[v] w fun e w' => e = .returned (.bool (catB ct)) ∧ Below w.heap.size w w' := by
  obtain ⟨T, I⟩ := ct
  obtain ⟨tv, iv, rfl, hl, hi⟩ := h
  simp only at hl hi
  obtain ⟨to', tc, rfl⟩ := hl.shape
  obtain ⟨ao, c, rfl⟩ := hi.shape
  have hbx := bel1 w (.cells #[.slice to' T.length tc, .slice ao I.length c] 25)
  have HT := goodTables_any T (.slice to' T.length tc) C _ (hl.keep (keepsC (hbx.mono hC))) (Nat.le_trans hC hbx.size) hf.1
  have HI := fun w' (h : Below w.heap.size w w') => goodIndexes_any T I (.slice to' T.length tc) (.slice ao I.length c) C w' (hl.keep (keepsC (h.mono hC))) (hi.keep (keepsC (h.mono hC))) (Nat.le_trans hC h.size) hf.2
  have E : Hid (catB ⟨T, I⟩ = (decide (T.length ≤ 3) && decide (I.length ≤ 4) && tabsB T && idxsB T I)) := rfl
  generalize catB ⟨T, I⟩ = r at E
  generalize tabsB T = g at HT E
  generalize idxsB T I = g2 at HI E
  have hlm := (isL_len hl).2
  have hlm2 := (isL_len hi).2
  unfold maxLen at hlm hlm2
  clear hl hi hf
  by_cases h3 : T.length ≤ 3
  rotate_left
  · have q1 : ¬ (T.length : Int) ≤ 3 := by omega
    have E2 : Hid (r = false) := by show _ = _; rw [E.out]; simp [h3]
    clear HT HI E
    go_enter Try.func9, Try.ntmps9
    go_wp2_with fail
    go_ret
    exact ⟨ret_bool (by rw [E2.out]), hbx⟩
  have q1 : (T.length : Int) ≤ 3 := by omega
  by_cases h4 : I.length ≤ 4
  rotate_left
  · have q2 : ¬ (I.length : Int) ≤ 4 := by omega
    have E2 : Hid (r = false) := by show _ = _; rw [E.out]; simp [h4]
    clear HT HI E
    go_enter Try.func9, Try.ntmps9
    go_wp2_with fail
    go_ret
    exact ⟨ret_bool (by rw [E2.out]), hbx⟩
  have q2 : (I.length : Int) ≤ 4 := by omega
  have E2 : Hid (r = (g && g2)) := by show _ = _; rw [E.out]; simp [h3, h4]
  clear E
  cases g
  · go_enter Try.func9, Try.ntmps9
    go_wp2_with (go_at_call 26; go_fit HT; rintro e w1 ⟨rfl, hb1⟩)
    go_ret
    exact ⟨ret_bool (by rw [E2.out]; rfl), bthen hbx hb1⟩
  · go_enter Try.func9, Try.ntmps9
    go_wp2_with (first | (go_at_call 26; go_fit HT; rintro e w1 ⟨rfl, hb1⟩; obtain ⟨hcc, hff⟩ := bcell hb1) | (go_at_call 27; go_fit (HI _ (bthen hbx hb1)); rintro e w2 ⟨rfl, hb2⟩))
    go_ret
    exact ⟨ret_bool (by rw [E2.out]; rfl), bthen (bthen hbx hb1) hb2⟩

end Go.Proofs.Ytabanbpnghidhaa

namespace Go.Proofs.Ytabanbpnghidhaa
open Go.RowKit

set_option maxRecDepth 100000 in
set_option maxHeartbeats 2000000 in
theorem index_goodExpr (l : List (E)) (F : Nat → Prop) (ao : Option Addr) (n c : Nat) (f0 : Value) (p : Nat → Bool) (St : Nat → World → Prop) (En : World → Prop) (w : World) (hEn : ∀ i W, St i W → En W) (hIs : ∀ i W, St i W → IsL kExpr F W (.slice ao n c) l)
    (hcall : ∀ i x cs W, l[i]? = some x → St i W → kExpr.R F W x cs → Calls Try.prog 70 #[.agg cs.toArray, f0] W fun e W' => e = .returned (.bool (p i)) ∧ En W' ∧ (p i = false → St (i + 1) W')) (h0 : St 0 w) :
    Calls Try.prog 71 #[.slice ao n c, .func (.func 70) #[] #[f0]] w fun e W' => e = .returned (.int .i64 (firstI p 0 l.length)) ∧ En W' := by
  obtain ⟨hn, hlm⟩ := isL_len (hIs 0 w h0)
  subst hn
  unfold maxLen at hlm
  go_enter Try.func71, Try.ntmps71
  go_wp2
  go_loopw [8] (fun i wr => ∃ k : Nat, k ≤ l.length ∧ i = .int .i64 k ∧ St k wr ∧ Hid (firstI p 0 l.length = firstI p k (l.length - k))) (fun i _ => l.length - (intOf i).toNat)
  case atStart => exact ⟨0, Nat.zero_le _, rfl, h0, rfl⟩
  case round =>
    obtain ⟨k, hk, rfl, hSt, HP⟩ := hrel
    by_cases hlt : k < l.length
    · obtain ⟨x, hx⟩ : ∃ x, l[k]? = some x := ⟨_, List.getElem?_eq_getElem hlt⟩
      obtain ⟨b, off, cs, rfl, _, hb, hR, hcell⟩ := isL_get (hIs k wr hSt) hx
      have HC := hcall k x cs wr hx hSt hR
      obtain ⟨xo, xk, xn, xs2, xs, xm, xi, xa, xl, xc, rfl⟩ := shape_Expr hR
      have d0 := hcell 0 _ rfl
      have d1 := hcell 1 _ rfl
      have d2 := hcell 2 _ rfl
      have d3 := hcell 3 _ rfl
      have d4 := hcell 4 _ rfl
      have d5 := hcell 5 _ rfl
      have d6 := hcell 6 _ rfl
      have d7 := hcell 7 _ rfl
      simp only [kExpr, Nat.add_zero] at d0 d1 d2 d3 d4 d5 d6 d7
      have k0 : (0 : Int) ≤ (k : Int) := by omega
      have k1 : (k : Int) < (l.length : Int) := by omega
      have hst : Hid (firstI p k (l.length - k) = if p k then (k : Int) else firstI p (k + 1) (l.length - (k + 1))) := firstI_step p k l.length hlt
      clear hcell hx
      generalize hq : p k = q at HC hst
      clear hq
      cases q
      · go_wp2_with (go_at_call 70; go_must (go_fit HC; rintro e W' ⟨rfl, _, hS1⟩))
        go_roundw
        case rel => exact ⟨k + 1, by omega, by go_num, hS1 (by first | rfl | trivial), by rw [HP.out, hst.out]; rfl⟩
        case measure => simp [intOf]; omega
      · go_wp2_with (go_at_call 70; go_must (go_fit HC; rintro e W' ⟨rfl, hS1, _⟩))
        go_ret
        exact ⟨ret_int (by rw [HP.out, hst.out]; rfl), hS1⟩
    · have HE : Hid (firstI p k (l.length - k) = -1) := by show _ = _; rw [show l.length - k = 0 from by omega, firstI]
      go_wp2
      go_ret
      exact ⟨ret_int (by rw [HP.out, HE.out]), hEn k _ hSt⟩

set_option maxHeartbeats 2000000 in
theorem contains_goodExpr (l : List (E)) (F : Nat → Prop) (ao : Option Addr) (n c : Nat) (f0 : Value) (p : Nat → Bool) (St : Nat → World → Prop) (En : World → Prop) (w : World) (hEn : ∀ i W, St i W → En W) (hIs : ∀ i W, St i W → IsL kExpr F W (.slice ao n c) l)
    (hcall : ∀ i x cs W, l[i]? = some x → St i W → kExpr.R F W x cs → Calls Try.prog 70 #[.agg cs.toArray, f0] W fun e W' => e = .returned (.bool (p i)) ∧ En W' ∧ (p i = false → St (i + 1) W')) (h0 : St 0 w) :
    Calls Try.prog 35 #[.slice ao n c, .func (.func 70) #[] #[f0]] w fun e W' => e = .returned (.bool (anyI p 0 l.length)) ∧ En W' := by
  have HI := index_goodExpr l F ao n c f0 p St En w hEn hIs hcall h0
  have HA : Hid (anyI p 0 l.length = decide (0 ≤ firstI p 0 l.length)) := anyI_eq p l.length 0
  generalize anyI p 0 l.length = r at HA
  generalize firstI p 0 l.length = q at HI HA
  clear hIs hcall h0 hEn
  go_enter Try.func35, Try.ntmps35
  go_wp2_with (go_at_call 71; go_must (go_fit HI; rintro e W' ⟨rfl, hS1⟩))
  go_ret
  exact ⟨ret_bool (by rw [HA.out]), hS1⟩

set_option maxRecDepth 100000 in
set_option maxHeartbeats 2000000 in
theorem index_goodExprs1 (l : List (E)) (F : Nat → Prop) (ao : Option Addr) (n c : Nat) (p : Nat → Bool) (St : Nat → World → Prop) (En : World → Prop) (w : World) (hEn : ∀ i W, St i W → En W) (hIs : ∀ i W, St i W → IsL kExpr F W (.slice ao n c) l)
    (hcall : ∀ i x cs W, l[i]? = some x → St i W → kExpr.R F W x cs → Calls Try.prog 32 #[.agg cs.toArray] W fun e W' => e = .returned (.bool (p i)) ∧ En W' ∧ (p i = false → St (i + 1) W')) (h0 : St 0 w) :
    Calls Try.prog 71 #[.slice ao n c, .func (.func 32) #[] #[]] w fun e W' => e = .returned (.int .i64 (firstI p 0 l.length)) ∧ En W' := by
  obtain ⟨hn, hlm⟩ := isL_len (hIs 0 w h0)
  subst hn
  unfold maxLen at hlm
  go_enter Try.func71, Try.ntmps71
  go_wp2
  go_loopw [8] (fun i wr => ∃ k : Nat, k ≤ l.length ∧ i = .int .i64 k ∧ St k wr ∧ Hid (firstI p 0 l.length = firstI p k (l.length - k))) (fun i _ => l.length - (intOf i).toNat)
  case atStart => exact ⟨0, Nat.zero_le _, rfl, h0, rfl⟩
  case round =>
    obtain ⟨k, hk, rfl, hSt, HP⟩ := hrel
    by_cases hlt : k < l.length
    · obtain ⟨x, hx⟩ : ∃ x, l[k]? = some x := ⟨_, List.getElem?_eq_getElem hlt⟩
      obtain ⟨b, off, cs, rfl, _, hb, hR, hcell⟩ := isL_get (hIs k wr hSt) hx
      have HC := hcall k x cs wr hx hSt hR
      obtain ⟨xo, xk, xn, xs2, xs, xm, xi, xa, xl, xc, rfl⟩ := shape_Expr hR
      have d0 := hcell 0 _ rfl
      have d1 := hcell 1 _ rfl
      have d2 := hcell 2 _ rfl
      have d3 := hcell 3 _ rfl
      have d4 := hcell 4 _ rfl
      have d5 := hcell 5 _ rfl
      have d6 := hcell 6 _ rfl
      have d7 := hcell 7 _ rfl
      simp only [kExpr, Nat.add_zero] at d0 d1 d2 d3 d4 d5 d6 d7
      have k0 : (0 : Int) ≤ (k : Int) := by omega
      have k1 : (k : Int) < (l.length : Int) := by omega
      have hst : Hid (firstI p k (l.length - k) = if p k then (k : Int) else firstI p (k + 1) (l.length - (k + 1))) := firstI_step p k l.length hlt
      clear hcell hx
      generalize hq : p k = q at HC hst
      clear hq
      cases q
      · go_wp2_with (go_at_call 32; go_must (go_fit HC; rintro e W' ⟨rfl, _, hS1⟩))
        go_roundw
        case rel => exact ⟨k + 1, by omega, by go_num, hS1 (by first | rfl | trivial), by rw [HP.out, hst.out]; rfl⟩
        case measure => simp [intOf]; omega
      · go_wp2_with (go_at_call 32; go_must (go_fit HC; rintro e W' ⟨rfl, hS1, _⟩))
        go_ret
        exact ⟨ret_int (by rw [HP.out, hst.out]; rfl), hS1⟩
    · have HE : Hid (firstI p k (l.length - k) = -1) := by show _ = _; rw [show l.length - k = 0 from by omega, firstI]
      go_wp2
      go_ret
      exact ⟨ret_int (by rw [HP.out, HE.out]), hEn k _ hSt⟩

set_option maxHeartbeats 2000000 in
theorem contains_goodExprs1 (l : List (E)) (F : Nat → Prop) (ao : Option Addr) (n c : Nat) (p : Nat → Bool) (St : Nat → World → Prop) (En : World → Prop) (w : World) (hEn : ∀ i W, St i W → En W) (hIs : ∀ i W, St i W → IsL kExpr F W (.slice ao n c) l)
    (hcall : ∀ i x cs W, l[i]? = some x → St i W → kExpr.R F W x cs → Calls Try.prog 32 #[.agg cs.toArray] W fun e W' => e = .returned (.bool (p i)) ∧ En W' ∧ (p i = false → St (i + 1) W')) (h0 : St 0 w) :
    Calls Try.prog 35 #[.slice ao n c, .func (.func 32) #[] #[]] w fun e W' => e = .returned (.bool (anyI p 0 l.length)) ∧ En W' := by
  have HI := index_goodExprs1 l F ao n c p St En w hEn hIs hcall h0
  have HA : Hid (anyI p 0 l.length = decide (0 ≤ firstI p 0 l.length)) := anyI_eq p l.length 0
  generalize anyI p 0 l.length = r at HA
  generalize firstI p 0 l.length = q at HI HA
  clear hIs hcall h0 hEn
  go_enter Try.func35, Try.ntmps35
  go_wp2_with (go_at_call 71; go_must (go_fit HI; rintro e W' ⟨rfl, hS1⟩))
  go_ret
  exact ⟨ret_bool (by rw [HA.out]), hS1⟩

set_option maxRecDepth 100000 in
set_option maxHeartbeats 2000000 in
theorem index_fit (l : List (Int)) (F : Nat → Prop) (ao : Option Addr) (n c : Nat) (f0 : Value) (p : Nat → Bool) (St : Nat → World → Prop) (En : World → Prop) (w : World) (hEn : ∀ i W, St i W → En W) (hIs : ∀ i W, St i W → IsL kNum F W (.slice ao n c) l)
    (hcall : ∀ i x cs W, l[i]? = some x → St i W → kNum.R F W x cs → Calls Try.prog 124 #[cs.headD (.bool false), f0] W fun e W' => e = .returned (.bool (p i)) ∧ En W' ∧ (p i = false → St (i + 1) W')) (h0 : St 0 w) :
    Calls Try.prog 127 #[.slice ao n c, .func (.func 124) #[] #[f0]] w fun e W' => e = .returned (.int .i64 (firstI p 0 l.length)) ∧ En W' := by
  obtain ⟨hn, hlm⟩ := isL_len (hIs 0 w h0)
  subst hn
  unfold maxLen at hlm
  go_enter Try.func127, Try.ntmps127
  go_wp2
  go_loopw [8] (fun i wr => ∃ k : Nat, k ≤ l.length ∧ i = .int .i64 k ∧ St k wr ∧ Hid (firstI p 0 l.length = firstI p k (l.length - k))) (fun i _ => l.length - (intOf i).toNat)
  case atStart => exact ⟨0, Nat.zero_le _, rfl, h0, rfl⟩
  case round =>
    obtain ⟨k, hk, rfl, hSt, HP⟩ := hrel
    by_cases hlt : k < l.length
    · obtain ⟨x, hx⟩ : ∃ x, l[k]? = some x := ⟨_, List.getElem?_eq_getElem hlt⟩
      obtain ⟨b, off, cs, rfl, _, hb, hR, hcell⟩ := isL_get (hIs k wr hSt) hx
      have HC := hcall k x cs wr hx hSt hR
      obtain rfl := hR
      have d0 := hcell 0 _ rfl
      simp only [kNum, Nat.add_zero, Nat.mul_one] at d0
      have k0 : (0 : Int) ≤ (k : Int) := by omega
      have k1 : (k : Int) < (l.length : Int) := by omega
      have hst : Hid (firstI p k (l.length - k) = if p k then (k : Int) else firstI p (k + 1) (l.length - (k + 1))) := firstI_step p k l.length hlt
      clear hcell hx
      generalize hq : p k = q at HC hst
      clear hq
      cases q
      · go_wp2_with (go_at_call 124; go_must (go_fit HC; rintro e W' ⟨rfl, _, hS1⟩))
        go_roundw
        case rel => exact ⟨k + 1, by omega, by go_num, hS1 (by first | rfl | trivial), by rw [HP.out, hst.out]; rfl⟩
        case measure => simp [intOf]; omega
      · go_wp2_with (go_at_call 124; go_must (go_fit HC; rintro e W' ⟨rfl, hS1, _⟩))
        go_ret
        exact ⟨ret_int (by rw [HP.out, hst.out]; rfl), hS1⟩
    · have HE : Hid (firstI p k (l.length - k) = -1) := by show _ = _; rw [show l.length - k = 0 from by omega, firstI]
      go_wp2
      go_ret
      exact ⟨ret_int (by rw [HP.out, HE.out]), hEn k _ hSt⟩

set_option maxHeartbeats 2000000 in
theorem contains_fit (l : List (Int)) (F : Nat → Prop) (ao : Option Addr) (n c : Nat) (f0 : Value) (p : Nat → Bool) (St : Nat → World → Prop) (En : World → Prop) (w : World) (hEn : ∀ i W, St i W → En W) (hIs : ∀ i W, St i W → IsL kNum F W (.slice ao n c) l)
    (hcall : ∀ i x cs W, l[i]? = some x → St i W → kNum.R F W x cs → Calls Try.prog 124 #[cs.headD (.bool false), f0] W fun e W' => e = .returned (.bool (p i)) ∧ En W' ∧ (p i = false → St (i + 1) W')) (h0 : St 0 w) :
    Calls Try.prog 123 #[.slice ao n c, .func (.func 124) #[] #[f0]] w fun e W' => e = .returned (.bool (anyI p 0 l.length)) ∧ En W' := by
  have HI := index_fit l F ao n c f0 p St En w hEn hIs hcall h0
  have HA : Hid (anyI p 0 l.length = decide (0 ≤ firstI p 0 l.length)) := anyI_eq p l.length 0
  generalize anyI p 0 l.length = r at HA
  generalize firstI p 0 l.length = q at HI HA
  clear hIs hcall h0 hEn
  go_enter Try.func123, Try.ntmps123
  go_wp2_with (go_at_call 127; go_must (go_fit HI; rintro e W' ⟨rfl, hS1⟩))
  go_ret
  exact ⟨ret_bool (by rw [HA.out]), hS1⟩

end Go.Proofs.Ytabanbpnghidhaa

namespace Go.Proofs.Ytabanbpnghidhaa
open Go.RowKit

set_option maxHeartbeats 400000 in
theorem goodByte_any (c : Int) (w : World) : Calls Try.prog 67 #[.int .u8 c] w fun e w' => e = .returned (.bool (goodb c)) ∧ w' = w := by
  by_cases h1 : 32 ≤ c <;> by_cases h2 : c ≤ 126 <;> by_cases h3 : c = 39
  all_goals
    go_enter Try.func67, Try.ntmps67
    go_wp2
    all_goals
      go_ret
      exact ⟨ret_bool (by simp_all [goodb]), rfl⟩

set_option maxHeartbeats 400000 in
theorem goodText_long (s : ByteArray) (w : World) (h : 8 < s.size) (hs : s.size ≤ maxLen) :
    Calls Try.prog 31 #[.string s] w fun e w' => e = .returned (.bool false) ∧ w' = w := by
  unfold maxLen at hs
  go_enter Try.func31, Try.ntmps31
  go_wp2
  go_ret
  exact ⟨rfl, rfl⟩

set_option maxHeartbeats 400000 in
theorem goodText_short (s : ByteArray) (w : World) (h : s.size ≤ 8) :
    Calls Try.prog 31 #[.string s] w fun e w' => e = .returned (.bool (gtext s.data.toList)) ∧ w' = w := by
  go_enter Try.func31, Try.ntmps31
  go_wp2
  go_loop [9] (fun i => ∃ k : Nat, k ≤ s.size ∧ i = .int .i64 k ∧ gtext (s.data.toList.take k) = true) (fun i => s.size - (intOf i).toNat)
  case atStart => exact ⟨0, Nat.zero_le _, rfl, rfl⟩
  case round =>
    obtain ⟨k, hk, rfl, hg0⟩ := hrel
    have hg : Hid (gtext (s.data.toList.take k) = true) := hg0
    clear hg0
    by_cases hlt : k < s.size
    · have hsn : Hid (gtext (s.data.toList.take (k + 1)) = (gtext (s.data.toList.take k) && goodb (s[k].toNat : Int))) := by rw [take_snoc s k hlt, gtext_snoc]; rfl
      have hbad : Hid (goodb (s[k].toNat : Int) = false → gtext s.data.toList = false) := gtext_bad s k hlt
      cases hb : goodb (s[k].toNat : Int)
      all_goals
        go_wp2_with (go_at_call 67; refine (goodByte_any _ _).mono ?_; rintro e w' ⟨rfl, rfl⟩)
      · go_ret
        exact ⟨ret_bool (hbad.out hb).symm, rfl⟩
      · go_round
        case rel => exact ⟨k + 1, by omega, by go_num, by rw [hsn.out, hg.out, hb]; rfl⟩
        case measure => simp [intOf]; omega
    · go_wp2
      go_ret
      exact ⟨ret_bool (by have := hg.out; rw [take_all s k (by omega)] at this; exact this.symm), rfl⟩

theorem empty_iff (s : ByteArray) : s.toList.isEmpty = decide (s.size = 0) := by
  rw [ByteArray.toList_eq, show s.size = s.data.toList.length from by simp]; cases s.data.toList <;> simp

set_option maxHeartbeats 1000000 in
theorem good_any (v : V) (w : World) (hs : v.s.size ≤ maxLen) :
    Calls Try.prog 13 #[v.val] w fun e w' => e = .returned (.bool (good v)) ∧ w' = w.alloc (.cells #[.int .i64 v.k, .int .i64 v.n, .string v.s] 32) := by
  obtain ⟨k, n, s⟩ := v
  show Calls Try.prog 13 #[.agg #[.int .i64 k, .int .i64 n, .string s]] w _
  by_cases h0 : k = 0
  · subst h0
    by_cases hn : n = 0
    all_goals
      go_enter Try.func13, Try.ntmps13
      go_wp2
      go_ret
      exact ⟨ret_bool (by simp [good, hn, empty_iff]), rfl⟩
  by_cases h1 : k = 1
  · subst h1
    rcases (show n < -1000000 ∨ 1000000 < n ∨ (-1000000 ≤ n ∧ n ≤ 1000000) from by omega) with hn | hn | ⟨hn, hm⟩
    · have e : decide (-1000000 ≤ n) = false := by simp; omega
      go_enter Try.func13, Try.ntmps13
      go_wp2
      go_ret
      exact ⟨ret_bool (by simp [good, e]), rfl⟩
    · have e : decide (n ≤ 1000000) = false := by simp; omega
      go_enter Try.func13, Try.ntmps13
      go_wp2
      go_ret
      exact ⟨ret_bool (by simp [good, e]), rfl⟩
    · go_enter Try.func13, Try.ntmps13
      go_wp2
      go_ret
      exact ⟨ret_bool (by simp [good, hn, hm, empty_iff]), rfl⟩
  by_cases h2 : k = 2
  · subst h2
    by_cases hn : n = 0
    · subst hn
      by_cases h8 : s.size ≤ 8
      · go_enter Try.func13, Try.ntmps13
        go_wp2_with (go_at_call 31; refine (goodText_short _ _ h8).mono ?_; rintro e w' ⟨rfl, rfl⟩)
        go_ret
        exact ⟨ret_bool (by simp [good, h8]), rfl⟩
      · have h9 : 8 < s.size := by omega
        have e : decide (s.size ≤ 8) = false := by simp; omega
        have E : Hid (decide (s.size ≤ 8) = false) := e
        clear e h8
        go_enter Try.func13, Try.ntmps13
        go_wp2_with (go_at_call 31; refine (goodText_long s _ h9 hs).mono ?_; rintro e w' ⟨rfl, rfl⟩)
        go_ret
        exact ⟨ret_bool (by have := E.out; simp [good, this]), rfl⟩
    · go_enter Try.func13, Try.ntmps13
      go_wp2
      go_ret
      exact ⟨ret_bool (by simp [good, hn]), rfl⟩
  go_enter Try.func13, Try.ntmps13
  go_wp2
  go_ret
  exact ⟨ret_bool (by simp [good, h0, h1, h2]), rfl⟩

end Go.Proofs.Ytabanbpnghidhaa

