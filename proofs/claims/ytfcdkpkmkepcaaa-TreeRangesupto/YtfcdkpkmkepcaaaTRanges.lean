/-
  The walk of the statement TreeRanges: two ranges that meet are one.
-/
import Derived.Test.YtfcdkpkmkepcaaaTRange
import Derived.Test.YtfcdkpkmkepcaaaTTrees
import Derived.Deep.QuietTactic
import Derived.BigQuiet
namespace Go.Proofs.Ytfcdkpkmkepcaaa
open Go.RowKit

theorem strs_at {w : World} {ao : Option Addr} {n c i : Nat} {L : List ByteArray} {s : ByteArray} (h : IsStrs w (.slice ao n c) L) (hi : L[i]? = some s) : ∃ b off, ao = some ⟨b, off, none⟩ ∧ b < w.heap.size ∧ w.cell? ⟨b, off + i, none⟩ = some (.string s) := by
  obtain ⟨b, off, cap, e, hb, _, _, hc⟩ := h.at (by have := (List.getElem?_eq_some_iff.1 hi).1; omega)
  simp only [Value.slice.injEq] at e
  exact ⟨b, off, e.1, hb, hc i s hi⟩

set_option maxHeartbeats 2000000 in
set_option maxRecDepth 100000 in
theorem treeRanges_out (tv : Value) (sv : Value) (so : Option Addr) (n c : Nat) (lo mid hi : ByteArray) (w : World) (he : tv = .agg #[sv]) (hs : sv = .slice so n c)
    (hbad : (Op.bytesLess lo.toList mid.toList = false ∧ (lo.toList == mid.toList) = false) ∨ ((Op.bytesLess lo.toList mid.toList = true ∨ (Op.bytesLess lo.toList mid.toList = false ∧ (lo.toList == mid.toList) = true)) ∧ Op.bytesLess mid.toList hi.toList = false ∧ (mid.toList == hi.toList) = false)) :
    Calls Try.prog 9 #[tv, .string lo, .string mid, .string hi] w fun e w' => e = .returned (.bool true) ∧ Below w.heap.size w w' := by
  subst he
  subst hs
  have hB0 : Below w.heap.size w (w.alloc (.cells #[.slice so n c] 39)) := (Below.refl _ w).alloc (Nat.le_refl _) _
  rcases hbad with ⟨h1, h2⟩ | ⟨h1 | ⟨h1, h1'⟩, h2, h3⟩
  · go_enter Try.func9, Try.ntmps9
    go_wp2_with (go_at_call 35; go_must (go_fit (treesKeep_any _); rintro e w1 ⟨rfl, hb1⟩))
    go_ret
    exact ⟨rfl, bthen hB0 hb1⟩
  · go_enter Try.func9, Try.ntmps9
    go_wp2_with (go_at_call 35; go_must (go_fit (treesKeep_any _); rintro e w1 ⟨rfl, hb1⟩))
    go_ret
    exact ⟨rfl, bthen hB0 hb1⟩
  · go_enter Try.func9, Try.ntmps9
    go_wp2_with (go_at_call 35; go_must (go_fit (treesKeep_any _); rintro e w1 ⟨rfl, hb1⟩))
    go_ret
    exact ⟨rfl, bthen hB0 hb1⟩

set_option maxHeartbeats 4000000 in
set_option maxRecDepth 100000 in
theorem treeRanges_ll (g : Bool) (T : List Pg) (hgb : g = true ↔ GoodT T) (tv : Value) (lo mid hi : ByteArray) (w : World) (h : IsTree w tv T) (hn : T.length ≤ 1048576) (h1 : (Op.bytesLess lo.toList mid.toList || lo.toList == mid.toList) = true) (h2 : (Op.bytesLess mid.toList hi.toList || mid.toList == hi.toList) = true) (m1 : klt mid lo = false) (m2 : klt hi mid = false) :
    Calls Try.prog 9 #[tv, .string lo, .string mid, .string hi] w fun e w' => e = .returned (.bool true) ∧ Below w.heap.size w w' := by
  have ra := fun W (hW : Below w.heap.size w W) => range_any g T hgb tv lo mid W (h.below hW) hn
  have rb := fun W (hW : Below w.heap.size w W) => range_any g T hgb tv mid hi W (h.below hW) hn
  have rc := fun W (hW : Below w.heap.size w W) => range_any g T hgb tv lo hi W (h.below hW) hn
  obtain ⟨sv, rfl, hs⟩ := h
  obtain ⟨so, sc, rfl⟩ : ∃ ao c, sv = .slice ao T.length c := by obtain ⟨rows, h1, _⟩ := hs; exact h1.shape
  have hl3 := rans_length g T hgb (lo := lo) (hi := hi)
  have HIN := hid (rans_in g T (lo := lo) (hi := hi))
  have hM := rans_meet g T hgb m1 m2
  rw [hM] at hl3 rc HIN
  generalize rans g T lo mid = R1 at *
  generalize rans g T mid hi = R2 at *
  have hb4 : R1.length + R2.length ≤ 4194304 := by rw [List.length_append] at hl3; omega
  clear hs hM hl3 m1 m2 hgb
  generalize T.length = n at *
  obtain ⟨W0, hW0⟩ : ∃ W0, w.alloc (.cells #[.slice so n sc] 39) = W0 := ⟨_, rfl⟩
  have hB0 : Below w.heap.size w W0 := by rw [← hW0]; exact (Below.refl _ w).alloc (Nat.le_refl _) _
  have b0 : W0.heap[w.heap.size]? = some (.cells #[.slice so n sc] 39) := by rw [← hW0]; exact block_alloc_at w _
  have cb0 : W0.cell? ⟨w.heap.size, 0, none⟩ = some (.slice so n sc) := cell_of_block b0 rfl
  have hA0 := lt_of_block b0
  have HE1 := hid (show ((R1 ++ R2).map Prod.fst).length = R1.length + R2.length by simp)
  have HE2 := hid (show ((R1 ++ R2).map Prod.snd).length = R1.length + R2.length by simp)
  go_enter Try.func9, Try.ntmps9
  go_upto_region 6 with (first
    | (go_at_call 25; go_fit (ra W0 hB0); rintro e w1 ⟨av, xv, rfl, ha, hx, hb1⟩; obtain ⟨aa, ac, ea⟩ := ha.shape; obtain ⟨xa, xc, ex⟩ := hx.shape; rw [List.length_map] at ea ex; subst ea; subst ex; have hz1 := hB0.trans (hb1.mono hB0.size); have cb1 := (hb1.cell (p := ⟨w.heap.size, 0, none⟩) hA0).trans cb0; have l1 := Nat.lt_of_lt_of_le hA0 hb1.size)
    | (go_at_call 25; go_fit (rb w1 hz1); rintro e w2 ⟨bv, yv, rfl, hb, hy, hb2⟩; obtain ⟨ba, bc, eb⟩ := hb.shape; obtain ⟨ya, yc, ey⟩ := hy.shape; rw [List.length_map] at eb ey; subst eb; subst ey; have hz2 := hz1.trans (hb2.mono hz1.size); have cb2 := (hb2.cell (p := ⟨w.heap.size, 0, none⟩) l1).trans cb1; have l2 := Nat.lt_of_lt_of_le l1 hb2.size)
    | (go_at_call 25; go_fit (rc w2 hz2); rintro e w3 ⟨cv, zv, rfl, hc, hz, hb3⟩; obtain ⟨ca, cc, ec⟩ := hc.shape; obtain ⟨za, zc, ez⟩ := hz.shape; rw [HE1.out] at ec; rw [HE2.out] at ez; subst ec; subst ez; have hz3 := hz2.trans (hb3.mono hz2.size)))
  have ha3 := (ha.below hb2).below hb3
  have hx3 := (hx.below hb2).below hb3
  have hb3' := hb.below hb3
  have hy3 := hy.below hb3
  clear ra rb rc ha hx hb hy cb1 cb2 cb0
  have HA := hid ha3
  have HX := hid hx3
  have HB := hid hb3'
  have HY := hid hy3
  have HC := hid hc
  have HZ := hid hz
  clear ha3 hx3 hb3' hy3 hc hz
  generalize hn1 : R1.length = n1 at *
  generalize hn2 : R2.length = n2 at *
  have HNN := hid (And.intro hn1 hn2)
  clear hn1 hn2
  go_wp2_with fail
  go_loopw [78] (fun i wr => ∃ k : Nat, k ≤ n1 + n2 ∧ i = .int .i64 k ∧ Below w3.heap.size w3 wr) (fun i _ => n1 + n2 - (intOf i).toNat)
  case atStart => exact ⟨0, Nat.zero_le _, rfl, Below.refl _ _⟩
  case round =>
    obtain ⟨k, hk, rfl, hbel⟩ := hrel
    by_cases hlt : k < n1 + n2
    · obtain ⟨⟨s, v⟩, hsv⟩ : ∃ x, (R1 ++ R2)[k]? = some x := ⟨_, List.getElem?_eq_getElem (by rw [List.length_append, HNN.out.1, HNN.out.2]; omega)⟩
      obtain ⟨hin1, hin2⟩ := HIN.out (s, v) (List.mem_of_getElem? hsv)
      have hs1 : Op.bytesLess s.toList lo.toList = false := hin1
      have hs2 : Op.bytesLess s.toList hi.toList = true := hin2
      clear hin1 hin2
      obtain ⟨cb, co, rfl, hcb, c0⟩ := strs_at (HC.out.below hbel) (i := k) (s := s) (by rw [List.getElem?_map, hsv]; rfl)
      obtain ⟨zb, zo, rfl, hzb, c1⟩ := strs_at (HZ.out.below hbel) (i := k) (s := v) (by rw [List.getElem?_map, hsv]; rfl)
      have j0 : (0 : Int) ≤ (k : Int) := by omega
      have j1 : (k : Int) < (n1 : Int) + (n2 : Int) := by omega
      have j1' : (k : Int) < ((n1 + n2 : Nat) : Int) := by omega
      have hss : (s.toList == s.toList) = true := by simp
      have hvv : (v.toList == v.toList) = true := by simp
      by_cases hk1 : k < n1
      · have hr : R1[k]? = some (s, v) := by rwa [List.getElem?_append_left (by rw [HNN.out.1]; exact hk1)] at hsv
        obtain ⟨ab, ao, rfl, hab, c2⟩ := strs_at (HA.out.below hbel) (i := k) (s := s) (by rw [List.getElem?_map, hr]; rfl)
        obtain ⟨xb, xo, rfl, hxb, c3⟩ := strs_at (HX.out.below hbel) (i := k) (s := v) (by rw [List.getElem?_map, hr]; rfl)
        have j2 : (k : Int) < (n1 : Int) := by omega
        have j3 : decide ((n1 : Int) ≤ (k : Int)) = false := by simp; omega
        have j3' : decide ((k : Int) ≥ (n1 : Int)) = false := by simp; omega
        have j3n : decide (n1 ≤ k) = false := by simp; omega
        clear hr hsv
        go_wp2
        go_quiet (fail)
        go_wp2
        go_roundw
        case rel => exact ⟨k + 1, by omega, by go_num, by first | exact below_drewN hbel _ | exact hbel.drew⟩
        case measure => simp [intOf]; omega
      · obtain ⟨j, hj⟩ : ∃ j, k = n1 + j := ⟨k - n1, by omega⟩
        have hr : R2[j]? = some (s, v) := by rw [List.getElem?_append_right (by rw [HNN.out.1]; omega), HNN.out.1] at hsv; rwa [hj, Nat.add_sub_cancel_left] at hsv
        obtain ⟨bb, bo, rfl, hbb, c2⟩ := strs_at (HB.out.below hbel) (i := j) (s := s) (by rw [List.getElem?_map, hr]; rfl)
        obtain ⟨yb, yo, rfl, hyb, c3⟩ := strs_at (HY.out.below hbel) (i := j) (s := v) (by rw [List.getElem?_map, hr]; rfl)
        have j2 : decide ((k : Int) < (n1 : Int)) = false := by simp; omega
        have j2' : ¬ ((k : Int) < (n1 : Int)) := by omega
        have j2n : decide (k < n1) = false := by simp; omega
        have j3n : n1 ≤ k := by omega
        have j3 : (n1 : Int) ≤ (k : Int) := by omega
        have j3' : (k : Int) ≥ (n1 : Int) := by omega
        have j4 : (k : Int) - (n1 : Int) = (j : Int) := by omega
        have j5 : (0 : Int) ≤ (j : Int) := by omega
        have j6 : (j : Int) < (n2 : Int) := by omega
        have j7 : IntKind.i64.wrap (j : Int) = (j : Int) := by rw [IntKind.wrap_i64]; omega
        have j8 : (j : Int) ≤ 4194304 := by omega
        have j9 : (k : Int) ≤ 4194304 := by omega
        clear hr hsv hj
        go_wp2
        go_quiet (fail)
        go_wp2
        go_roundw
        case rel => exact ⟨k + 1, by omega, by go_num, by first | exact below_drewN hbel _ | exact hbel.drew⟩
        case measure => simp [intOf]; omega
    · have hkn : k = n1 + n2 := by omega
      subst hkn
      have v1 : ¬ (((n1 + n2 : Nat) : Int) < (n1 : Int) + (n2 : Int)) := by omega
      go_wp2_with (go_at_call 35; go_must (go_fit (treesKeep_any _); rintro e w4 ⟨rfl, hb4'⟩))
      go_ret
      exact ⟨rfl, bthen (hz3.trans (hbel.mono hz3.size)) hb4'⟩

theorem str_eq_of {a b : ByteArray} (h : (a.toList == b.toList) = true) : a = b := by
  have := eq_of_beq h
  rw [Lib.toList_data, Lib.toList_data] at this
  exact bytes_ext this

theorem le_of_or {a b : ByteArray} (h : (Op.bytesLess a.toList b.toList || a.toList == b.toList) = true) : klt b a = false := by
  rcases Bool.or_eq_true_iff.1 h with h | h
  · exact klt_asymm h
  · rw [str_eq_of h]; exact klt_irrefl _

open Classical in
theorem treeRanges_walk (T : List Pg) (tv : Value) (lo mid hi : ByteArray) (w : World) (h : IsTree w tv T) (hn : T.length ≤ 1048576) :
    Calls Try.prog 9 #[tv, .string lo, .string mid, .string hi] w fun e w' => e = .returned (.bool true) ∧ Below w.heap.size w w' := by
  have h' := h
  obtain ⟨sv, he, hs⟩ := h'
  obtain ⟨so, c, hsv⟩ := hs.shape
  cases h1 : (Op.bytesLess lo.toList mid.toList || lo.toList == mid.toList) with
  | false =>
    rw [Bool.or_eq_false_iff] at h1
    exact treeRanges_out tv sv so _ c lo mid hi w he hsv (.inl h1)
  | true =>
    cases h2 : (Op.bytesLess mid.toList hi.toList || mid.toList == hi.toList) with
    | true => exact treeRanges_ll (decide (GoodT T)) T decide_eq_true_iff tv lo mid hi w h hn h1 h2 (le_of_or h1) (le_of_or h2)
    | false =>
      rw [Bool.or_eq_false_iff] at h2
      refine treeRanges_out tv sv so _ c lo mid hi w he hsv (.inr ⟨?_, h2⟩)
      cases h3 : Op.bytesLess lo.toList mid.toList with
      | true => exact .inl rfl
      | false => rw [h3, Bool.false_or] at h1; exact .inr ⟨rfl, h1⟩

end Go.Proofs.Ytfcdkpkmkepcaaa
