/-
  Contracts of slices.Concat of pages and of texts: a row of the call's own.
-/
import Derived.Test.YtfcdkpkmkepcaaaTLib
namespace Go.Proofs.Ytfcdkpkmkepcaaa
open Go.RowKit

/-- Slices, each with what it has. -/
abbrev Parts := List (Value × Nat × List Value)
def Parts.sum (X : Parts) : Nat := (X.map fun x => x.2.1).sum
def Parts.all (X : Parts) : List Value := X.flatMap fun x => x.2.2

theorem Parts.sum_take (X : Parts) (i : Nat) (x : Value × Nat × List Value) (h : X[i]? = some x) : Parts.sum (X.take (i + 1)) = Parts.sum (X.take i) + x.2.1 := by
  unfold Parts.sum
  rw [List.take_add_one, h]
  simp
theorem Parts.all_take (X : Parts) (i : Nat) (x : Value × Nat × List Value) (h : X[i]? = some x) : Parts.all (X.take (i + 1)) = Parts.all (X.take i) ++ x.2.2 := by
  unfold Parts.all
  rw [List.take_add_one, h]
  simp
theorem Parts.sum_le (X : Parts) (i : Nat) : Parts.sum (X.take i) ≤ Parts.sum X := by
  unfold Parts.sum
  conv => rhs; rw [← List.take_append_drop i X]
  rw [List.map_append, List.sum_append]
  omega


set_option maxHeartbeats 2000000 in
/-- slices.Concat of pages. -/
theorem concatP (X : Parts) (g : Nat) (cap : Nat) (w : World) (hg : g < w.heap.size) (hc : ∀ i x, X[i]? = some x → w.cell? ⟨g, i, none⟩ = some x.1) (hX : ∀ x ∈ X, IsRow 2 w x.1 x.2.1 x.2.2 ∧ ∀ u ∈ x.2.2, u.oneCell' = true)
    (hlen : X.length ≤ 3) (hs : Parts.sum X * 48 ≤ 140737488355328) :
    Calls Try.prog 66 #[.slice (some ⟨g, 0, none⟩) X.length cap] w fun e w' => ∃ v, e = .returned v ∧ IsRow 2 w' v (Parts.sum X) (Parts.all X) ∧ Below w.heap.size w w' := by
  obtain ⟨i0, hi, hz0, hz1, hz2⟩ := info_parts info_page
  have HX := hid hX
  have HC := hid hc
  clear hX hc
  generalize hsum : Parts.sum X = S at hs ⊢
  have HS := hid hsum
  clear hsum
  go_enter Try.func66, Try.ntmps66
  go_wp2
  go_loopw [3, 11] (fun z i wr => ∃ k s : Nat, k ≤ X.length ∧ s ≤ S ∧ i = .int .i64 k ∧ z = .int .i64 s ∧ w = wr ∧ Hid (s = Parts.sum (X.take k))) (fun _ i _ => X.length - (intOf i).toNat)
  case atStart => exact ⟨0, 0, Nat.zero_le _, Nat.zero_le _, rfl, rfl, rfl, hid (by simp [Parts.sum])⟩
  case round =>
    obtain ⟨k, s, hk, hsS, rfl, rfl, rfl, HT⟩ := hrel
    by_cases hlt : k < X.length
    · obtain ⟨x, hx⟩ : ∃ x, X[k]? = some x := ⟨_, List.getElem?_eq_getElem hlt⟩
      have c0 := HC.out k x hx
      obtain ⟨ao, c, hsv⟩ := (HX.out x (List.mem_of_getElem? hx)).1.shape
      have hT1 := Parts.sum_take X k x hx
      have hT2 := Parts.sum_le X (k + 1)
      rw [HS.out, hT1, ← HT.out] at hT2
      rw [← HT.out] at hT1
      have HT1 := hid hT1
      clear hx hT1
      rw [hsv] at c0
      generalize x.2.1 = m at *
      clear hsv
      have i0' : (0 : Int) ≤ (k : Int) := by omega
      have i1' : (k : Int) < (X.length : Int) := by omega
      have hnn : ¬ ((s : Int) + (m : Int) < 0) := by omega
      go_wp2
      go_roundw
      case rel => exact ⟨k + 1, s + m, by omega, by omega, by go_num, by go_num, by first | trivial | rfl, hid (by rw [HT1.out])⟩
      case measure => simp [intOf]; omega
    · have hkX : k = X.length := by omega
      have hsS' : s = S := by rw [HT.out, hkX, List.take_length, HS.out]
      subst hsS'
      go_wp2_with (go_at_call 72; go_must (refine (growP s w hs).mono ?_; rintro e w1 ⟨v, rfl, hv, hb1⟩))
      go_loopw [6, 27] (fun z i wr => ∃ k : Nat, k ≤ X.length ∧ i = .int .i64 k ∧ wr.ownsRow w.heap.size 69 2 z (Parts.sum (X.take k)) (Parts.all (X.take k)) ∧ Below w.heap.size w wr) (fun _ i _ => X.length - (intOf i).toNat)
      case atStart => exact ⟨0, Nat.zero_le _, rfl, by simpa [Parts.sum, Parts.all] using hv, hb1⟩
      case round =>
        obtain ⟨k, hk, rfl, hown, hbel⟩ := hrel
        by_cases hlt : k < X.length
        · obtain ⟨x, hx⟩ : ∃ x, X[k]? = some x := ⟨_, List.getElem?_eq_getElem hlt⟩
          have c0 := HC.out k x hx
          rw [← hbel.cell (p := ⟨g, k, none⟩) hg] at c0
          obtain ⟨hr, h1⟩ := HX.out x (List.mem_of_getElem? hx)
          replace hr := hr.below hbel
          have hT1 := Parts.sum_take X k x hx
          have hA1 := Parts.all_take X k x hx
          have hT2 := Parts.sum_le X (k + 1)
          rw [HS.out, hT1] at hT2
          obtain ⟨sv, m, cs⟩ := x
          simp only at c0 hr h1 hT1 hA1 hT2
          have HT1 := hid hT1
          have HA1 := hid hA1
          clear hx hT1 hA1
          generalize Parts.sum (X.take k) = s1 at *
          generalize Parts.all (X.take k) = a1 at *
          have i0' : (0 : Int) ≤ (k : Int) := by omega
          have i1' : (k : Int) < (X.length : Int) := by omega
          rcases hr.2 with ⟨rfl, ao, c, rfl, hnil⟩ | ⟨hm0, b, off, c, rfl, hb, hmc, hcm, hcell⟩
          · obtain rfl : cs = [] := List.eq_nil_of_length_eq_zero (by simpa using hr.1)
            rcases ao with _ | ad
            · obtain rfl := hnil rfl
              go_wp2_with (at_builtin; go_must (refine wpList_append_own_none rfl _ _ 37 rfl w.heap.size 69 i0 2 Try.underlying37 hi _ _ _ rfl hown rfl ?_))
              go_roundw
              case rel => exact ⟨k + 1, by omega, by go_num, by rw [HT1.out, HA1.out, Nat.add_zero, List.append_nil]; exact hown, hbel⟩
              case measure => simp [intOf]; omega
            · have hcl : ∀ j u, ([] : List Value)[j]? = some u → wr.cell? (ad.add j) = some u := fun j u h => by simp at h
              go_wp2_with (at_builtin; go_must (refine wpList_append_own _ rfl _ _ 37 rfl w.heap.size 69 i0 (.agg #[.slice none 0 0, .slice none 0 0]) 2 48 Try.underlying37 hi hz0 hz1 hz2 rfl (by decide) _ _ _ rfl hown ad 0 c [] rfl (by simp) hcl (by simp) (by simp only [maxLen]; omega) (by omega) hbel.size ?_))
              intro v2 w2 hown2 hg2 _
              go_wp2
              go_roundw
              case rel => exact ⟨k + 1, by omega, by go_num, by rw [HT1.out, HA1.out]; first | exact hown2 | (rw [Nat.add_zero, List.append_nil]; exact hown2), hbel.grown hg2 hbel.size (fun j hj => (hown.lt j hj).1)⟩
              case measure => simp [intOf]; omega
          · have hcl : ∀ j u, cs[j]? = some u → wr.cell? ((⟨b, off, none⟩ : Addr).add j) = some u := fun j u h => by rw [Addr.add_lit]; exact hcell j u h
            go_wp2_with (at_builtin; go_must (refine wpList_append_own _ rfl _ _ 37 rfl w.heap.size 69 i0 (.agg #[.slice none 0 0, .slice none 0 0]) 2 48 Try.underlying37 hi hz0 hz1 hz2 rfl (by decide) _ _ _ rfl hown ⟨b, off, none⟩ m c cs rfl hr.1 hcl h1 (by simp only [maxLen]; omega) (by omega) hbel.size ?_))
            intro v2 w2 hown2 hg2 _
            go_wp2
            go_roundw
            case rel => exact ⟨k + 1, by omega, by go_num, by rw [HT1.out, HA1.out]; first | exact hown2 | (rw [Nat.add_zero, List.append_nil]; exact hown2), hbel.grown hg2 hbel.size (fun j hj => (hown.lt j hj).1)⟩
            case measure => simp [intOf]; omega
        · have hkX : k = X.length := by omega
          subst hkX
          rw [List.take_length, HS.out] at hown
          go_wp2
          go_ret
          exact ⟨_, rfl, .of_own hown, hbel⟩

set_option maxHeartbeats 2000000 in
/-- slices.Concat of texts. -/
theorem concatS (X : Parts) (g : Nat) (cap : Nat) (w : World) (hg : g < w.heap.size) (hc : ∀ i x, X[i]? = some x → w.cell? ⟨g, i, none⟩ = some x.1) (hX : ∀ x ∈ X, IsRow 1 w x.1 x.2.1 x.2.2 ∧ ∀ u ∈ x.2.2, u.oneCell' = true)
    (hlen : X.length ≤ 3) (hs : Parts.sum X * 16 ≤ 140737488355328) :
    Calls Try.prog 69 #[.slice (some ⟨g, 0, none⟩) X.length cap] w fun e w' => ∃ v, e = .returned v ∧ IsRow 1 w' v (Parts.sum X) (Parts.all X) ∧ Below w.heap.size w w' := by
  obtain ⟨i0, hi, hz0, hz1, hz2⟩ := info_parts info_string
  have HX := hid hX
  have HC := hid hc
  clear hX hc
  generalize hsum : Parts.sum X = S at hs ⊢
  have HS := hid hsum
  clear hsum
  go_enter Try.func69, Try.ntmps69
  go_wp2
  go_loopw [3, 11] (fun z i wr => ∃ k s : Nat, k ≤ X.length ∧ s ≤ S ∧ i = .int .i64 k ∧ z = .int .i64 s ∧ w = wr ∧ Hid (s = Parts.sum (X.take k))) (fun _ i _ => X.length - (intOf i).toNat)
  case atStart => exact ⟨0, 0, Nat.zero_le _, Nat.zero_le _, rfl, rfl, rfl, hid (by simp [Parts.sum])⟩
  case round =>
    obtain ⟨k, s, hk, hsS, rfl, rfl, rfl, HT⟩ := hrel
    by_cases hlt : k < X.length
    · obtain ⟨x, hx⟩ : ∃ x, X[k]? = some x := ⟨_, List.getElem?_eq_getElem hlt⟩
      have c0 := HC.out k x hx
      obtain ⟨ao, c, hsv⟩ := (HX.out x (List.mem_of_getElem? hx)).1.shape
      have hT1 := Parts.sum_take X k x hx
      have hT2 := Parts.sum_le X (k + 1)
      rw [HS.out, hT1, ← HT.out] at hT2
      rw [← HT.out] at hT1
      have HT1 := hid hT1
      clear hx hT1
      rw [hsv] at c0
      generalize x.2.1 = m at *
      clear hsv
      have i0' : (0 : Int) ≤ (k : Int) := by omega
      have i1' : (k : Int) < (X.length : Int) := by omega
      have hnn : ¬ ((s : Int) + (m : Int) < 0) := by omega
      go_wp2
      go_roundw
      case rel => exact ⟨k + 1, s + m, by omega, by omega, by go_num, by go_num, by first | trivial | rfl, hid (by rw [HT1.out])⟩
      case measure => simp [intOf]; omega
    · have hkX : k = X.length := by omega
      have hsS' : s = S := by rw [HT.out, hkX, List.take_length, HS.out]
      subst hsS'
      go_wp2_with (go_at_call 74; go_must (refine (growS s w hs).mono ?_; rintro e w1 ⟨v, rfl, hv, hb1⟩))
      go_loopw [6, 27] (fun z i wr => ∃ k : Nat, k ≤ X.length ∧ i = .int .i64 k ∧ wr.ownsRow w.heap.size 9 1 z (Parts.sum (X.take k)) (Parts.all (X.take k)) ∧ Below w.heap.size w wr) (fun _ i _ => X.length - (intOf i).toNat)
      case atStart => exact ⟨0, Nat.zero_le _, rfl, by simpa [Parts.sum, Parts.all] using hv, hb1⟩
      case round =>
        obtain ⟨k, hk, rfl, hown, hbel⟩ := hrel
        by_cases hlt : k < X.length
        · obtain ⟨x, hx⟩ : ∃ x, X[k]? = some x := ⟨_, List.getElem?_eq_getElem hlt⟩
          have c0 := HC.out k x hx
          rw [← hbel.cell (p := ⟨g, k, none⟩) hg] at c0
          obtain ⟨hr, h1⟩ := HX.out x (List.mem_of_getElem? hx)
          replace hr := hr.below hbel
          have hT1 := Parts.sum_take X k x hx
          have hA1 := Parts.all_take X k x hx
          have hT2 := Parts.sum_le X (k + 1)
          rw [HS.out, hT1] at hT2
          obtain ⟨sv, m, cs⟩ := x
          simp only at c0 hr h1 hT1 hA1 hT2
          have HT1 := hid hT1
          have HA1 := hid hA1
          clear hx hT1 hA1
          generalize Parts.sum (X.take k) = s1 at *
          generalize Parts.all (X.take k) = a1 at *
          have i0' : (0 : Int) ≤ (k : Int) := by omega
          have i1' : (k : Int) < (X.length : Int) := by omega
          rcases hr.2 with ⟨rfl, ao, c, rfl, hnil⟩ | ⟨hm0, b, off, c, rfl, hb, hmc, hcm, hcell⟩
          · obtain rfl : cs = [] := List.eq_nil_of_length_eq_zero (by simpa using hr.1)
            rcases ao with _ | ad
            · obtain rfl := hnil rfl
              go_wp2_with (at_builtin; go_must (refine wpList_append_own_none rfl _ _ 46 rfl w.heap.size 9 i0 1 Try.underlying46 hi _ _ _ rfl hown rfl ?_))
              go_roundw
              case rel => exact ⟨k + 1, by omega, by go_num, by rw [HT1.out, HA1.out, Nat.add_zero, List.append_nil]; exact hown, hbel⟩
              case measure => simp [intOf]; omega
            · have hcl : ∀ j u, ([] : List Value)[j]? = some u → wr.cell? (ad.add j) = some u := fun j u h => by simp at h
              go_wp2_with (at_builtin; go_must (refine wpList_append_own _ rfl _ _ 46 rfl w.heap.size 9 i0 (.string ⟨#[]⟩) 1 16 Try.underlying46 hi hz0 hz1 hz2 rfl (by decide) _ _ _ rfl hown ad 0 c [] rfl (by simp) hcl (by simp) (by simp only [maxLen]; omega) (by omega) hbel.size ?_))
              intro v2 w2 hown2 hg2 _
              go_wp2
              go_roundw
              case rel => exact ⟨k + 1, by omega, by go_num, by rw [HT1.out, HA1.out]; first | exact hown2 | (rw [Nat.add_zero, List.append_nil]; exact hown2), hbel.grown hg2 hbel.size (fun j hj => (hown.lt j hj).1)⟩
              case measure => simp [intOf]; omega
          · have hcl : ∀ j u, cs[j]? = some u → wr.cell? ((⟨b, off, none⟩ : Addr).add j) = some u := fun j u h => by rw [Addr.add_lit]; exact hcell j u h
            go_wp2_with (at_builtin; go_must (refine wpList_append_own _ rfl _ _ 46 rfl w.heap.size 9 i0 (.string ⟨#[]⟩) 1 16 Try.underlying46 hi hz0 hz1 hz2 rfl (by decide) _ _ _ rfl hown ⟨b, off, none⟩ m c cs rfl hr.1 hcl h1 (by simp only [maxLen]; omega) (by omega) hbel.size ?_))
            intro v2 w2 hown2 hg2 _
            go_wp2
            go_roundw
            case rel => exact ⟨k + 1, by omega, by go_num, by rw [HT1.out, HA1.out]; first | exact hown2 | (rw [Nat.add_zero, List.append_nil]; exact hown2), hbel.grown hg2 hbel.size (fun j hj => (hown.lt j hj).1)⟩
            case measure => simp [intOf]; omega
        · have hkX : k = X.length := by omega
          subst hkX
          rw [List.take_length, HS.out] at hown
          go_wp2
          go_ret
          exact ⟨_, rfl, .of_own hown, hbel⟩

end Go.Proofs.Ytfcdkpkmkepcaaa
