/-
  5 texts of this proof in one, in build order: PKept2, TTrees, PPlans, PDrop, PAll.
-/
import Derived.Test.YtkncamggdfmlnaaGreatJ04
import Derived.Test.YtkncamggdfmlnaaGreatJ10
import Derived.Test.YtkncamggdfmlnaaGreatJ11
import Derived.Test.YtkncamggdfmlnaaGreatJ14
namespace Go.Proofs.YtkncamggdfmlnaaGreat
open Go.RowKit

theorem numRows_below {w W : World} {xs : List Value} (h : NumRows w xs) (hb : Below w.heap.size w W) : NumRows W xs := fun u hu => by
  obtain ⟨a, n, c, k, i, h1, h2⟩ := h u hu
  exact ⟨a, n, c, k, i, h1, (hb.cell (p := a) (block_lt_of_cell h2)).trans h2⟩
theorem spareZ_below {w W : World} {base : Nat} {e : TypeId} {v : Value} {n : Nat} {xs : List Value} (hown : w.ownsRow base e 1 v n xs) (h : SpareZ w v n) (hb : Below w.heap.size w W) : SpareZ W v n := by
  intro g cap cur t fr hv hg j u hj hu
  rcases hown.2 with ⟨rfl, _⟩ | ⟨g', cap', cur', rfl, _, hh, _⟩
  · cases hv
  · simp only [Value.slice.injEq, Option.some.injEq, Addr.mk.injEq] at hv
    obtain ⟨⟨rfl, _⟩, _, rfl⟩ := hv
    have h2 := (hb.block g' (lt_of_block hh)).symm.trans hg
    rw [hh] at h2
    simp only [Option.some.injEq, Obj.cells.injEq] at h2
    obtain ⟨rfl, _⟩ := h2
    exact h g' cap' cur' e (0, 0) rfl hh j u hj hu
theorem spareZ_set {w : World} {base g0 : Nat} {e : TypeId} {v x : Value} {n : Nat} {xs : List Value} (hown : w.ownsRow base e 1 v n xs) (h : SpareZ w v n) (hg0 : g0 < base) : SpareZ (w.setCell ⟨g0, 0, none⟩ x) v n := by
  intro g cap cur t fr hv hg j u hj hu
  have hlt := hown.lt g (by rw [hv]; rfl)
  rw [block_set_ne (by omega)] at hg
  exact h g cap cur t fr hv hg j u hj hu
theorem ownsRow_set {w : World} {base g0 : Nat} {e : TypeId} {v x : Value} {n : Nat} {xs : List Value} (hown : w.ownsRow base e 1 v n xs) (hg0 : g0 < base) : (w.setCell ⟨g0, 0, none⟩ x).ownsRow base e 1 v n xs := by
  refine ⟨hown.1, ?_⟩
  rcases hown.2 with h | ⟨g, cap, cur, hv, hg, hh, r⟩
  · exact .inl h
  · exact .inr ⟨g, cap, cur, hv, hg, by rw [block_set_ne (by omega)]; exact hh, r⟩
/-- What kept answers. -/
def KeptAns (I : List IdxD) (t : TabD) (w w' : World) (e : Ending) : Prop := ∃ ao pk pc T oo oc O, e = .returned (.tuple #[.agg #[.slice ao pk pc], .slice oo O.length oc]) ∧ IsPages w' (.slice ao pk pc) T ∧ GoodT T ∧ Kept I t (flat T) O ∧ T.length ≤ 100 ∧ Below w.heap.size w w'

set_option maxRecDepth 100000 in
set_option maxHeartbeats 8000000 in
theorem kept_any (I : List IdxD) (t : TabD) (rows : List (List V)) (tv iv sv rv : Value) (C : Nat) (w : World) (htv : IsSl tv) (hi : IsL kIdx (fun k => k < C) w iv I) (hl : IsL kCol (fun k => k < C) w sv t.cols) (hr : IsL kVals (fun k => k < C) w rv rows) (hC : C ≤ w.heap.size)
    (hI : I.length ≤ 4) (hin : ∀ x ∈ I, x.name.size ≤ 1000000) (htn : t.name.size ≤ 1000000) (hc0 : 0 < t.cols.length) (hc4 : t.cols.length ≤ 4) (hrs : ∀ r ∈ rows, ∀ v ∈ r, v.s.size ≤ maxLen) :
    Calls Tryz.prog 7 #[.agg #[tv, iv], .agg #[.string t.name, sv], rv] w fun e w' => KeptAns I t w w' e := by
  have HPut := fun T pv r xv W (h : Below w.heap.size w W) => putRow_any I t r T pv tv iv sv xv C W
  have HFt0 := fun r xv W (h : Below w.heap.size w W) => keepFits_any t r sv xv C W (hl.keep (keepsC (h.mono hC)))
  have HI : Hid _ := hi
  have HL : Hid _ := hl
  obtain ⟨to', tn, tc, rfl⟩ := htv
  obtain ⟨io, ic, rfl⟩ := hi.shape
  obtain ⟨so, sc, rfl⟩ := hl.shape
  obtain ⟨ro, rc, rfl⟩ := hr.shape
  have hlm := (isL_len hr).2
  unfold maxLen at hlm
  obtain ⟨i0, hi0, hz0, hz1, hz2⟩ := info_parts info_vals
  have HRS : Hid _ := hrs
  have HIN : Hid _ := hin
  clear hrs hin hi hl
  have hbW := bel3 w (.cells #[.slice to' tn tc, .slice io I.length ic] 25) (.cells #[.string t.name, .slice so t.cols.length sc] 29) (.cells #[.slice none 0 0] 36)
  have tg0 : TrG w (w.heap.size + 3) [(w.heap.size, .cells #[.slice to' tn tc, .slice io I.length ic] 25), (w.heap.size + 1, .cells #[.string t.name, .slice so t.cols.length sc] 29), (w.heap.size + 2, .cells #[.slice none 0 0] 36)] none 0 0 [] ((((w.alloc (.cells #[.slice to' tn tc, .slice io I.length ic] 25)).alloc (.cells #[.string t.name, .slice so t.cols.length sc] 29)).alloc (.cells #[.slice none 0 0] 36)).alloc (.cells #[.slice none 0 0] 36)) := by
    refine ⟨?_, IsPages.nil _, ⟨by simp, by simp [keysT, Rise]⟩, ?_, hbW.alloc hbW.size _, by omega⟩
    · have := block_alloc_at (((w.alloc (.cells #[.slice to' tn tc, .slice io I.length ic] 25)).alloc (.cells #[.string t.name, .slice so t.cols.length sc] 29)).alloc (.cells #[.slice none 0 0] 36)) (.cells #[.slice none 0 0] 36)
      rwa [show (((w.alloc (.cells #[.slice to' tn tc, .slice io I.length ic] 25)).alloc (.cells #[.string t.name, .slice so t.cols.length sc] 29)).alloc (.cells #[.slice none 0 0] 36)).heap.size = w.heap.size + 3 from by simp] at this
    · intro p hp
      simp only [List.mem_cons, List.not_mem_nil, or_false] at hp
      rcases hp with rfl | rfl | rfl
      · exact ⟨block_alloc_of (block_alloc_of (block_alloc_of (block_alloc_at w _) _) _) _, by simp⟩
      · exact ⟨block_alloc_of (block_alloc_of (block2 _ _ _) _) _, by simp⟩
      · exact ⟨block_alloc_of (block3 _ _ _ _) _, by simp⟩
  have hW4s : ((((w.alloc (.cells #[.slice to' tn tc, .slice io I.length ic] 25)).alloc (.cells #[.string t.name, .slice so t.cols.length sc] 29)).alloc (.cells #[.slice none 0 0] 36)).alloc (.cells #[.slice none 0 0] 36)).heap.size = w.heap.size + 4 := by simp
  generalize hW : (((w.alloc (.cells #[.slice to' tn tc, .slice io I.length ic] 25)).alloc (.cells #[.string t.name, .slice so t.cols.length sc] 29)).alloc (.cells #[.slice none 0 0] 36)).alloc (.cells #[.slice none 0 0] 36) = W4 at tg0 hW4s
  have HW : Hid _ := hW
  have HW4s : Hid _ := hW4s
  clear hW hW4s hbW
  have HR : Hid _ := hr
  clear hr
  go_enter Tryz.func7, Tryz.ntmps7
  go_upto_region 2 with fail
  rw [HW.out]
  go_wp2
  go_loopw [9, 16] (fun ov i wr => ∃ (k : Nat) (O : List (List V)) (ao : Option Addr) (pk pc : Nat) (T : List Pg) (cs : List Value), k ≤ rows.length ∧ i = .int .i64 k ∧ TrG w (w.heap.size + 3) [(w.heap.size, .cells #[.slice to' tn tc, .slice io I.length ic] 25), (w.heap.size + 1, .cells #[.string t.name, .slice so t.cols.length sc] 29), (w.heap.size + 2, .cells #[.slice none 0 0] 36)] ao pk pc T wr ∧ Hid (Kept I t (flat T) O ∧ T.length ≤ O.length * 5) ∧ wr.ownsRow (w.heap.size + 4) 44 1 ov O.length cs ∧ SpareZ wr ov O.length ∧ NumRows w cs) (fun _ i _ => rows.length - (intOf i).toNat)
  case atStart => exact ⟨0, [], none, 0, 0, [], [], Nat.zero_le _, rfl, tg0, hid ⟨kept_nil I t, by simp⟩, World.ownsRow_nil _ _ _ _, spareZ_nil _, fun u hu => by simp at hu⟩
  case round =>
    obtain ⟨k, O, ao, pk, pc, T, cs, hk, rfl, tg, HK, hown, hsp, hnum⟩ := hrel
    have hbw := tg.bel
    by_cases hlt : k < rows.length
    · obtain ⟨r, hx⟩ : ∃ r, rows[k]? = some r := ⟨_, List.getElem?_eq_getElem hlt⟩
      obtain ⟨b, off, cs', hro, hbC, hbl, ⟨xv, rfl, hrow⟩, hcell⟩ := isL_get HR.out hx
      cases hro
      obtain ⟨xo, xc, rfl⟩ := hrow.shape
      have hv := isL_vals hrow
      have hss := HRS.out r (List.mem_of_getElem? hx)
      have d0 : wr.cell? ⟨b, off + k, none⟩ = some (.slice xo r.length xc) := (hbw.cell (p := ⟨b, off + k, none⟩) hbl).trans (by have := hcell 0 _ rfl; simpa [kVals] using this)
      have hhs : (r.headD zero).s.size ≤ maxLen := by
        cases r with
        | nil => exact Nat.zero_le _
        | cons u r => exact hss u (by simp)
      have hTl : T.length ≤ 100 := by have h1 := HK.out.2; have h2 := HK.out.1.len; omega
      have HFi := fun W (h : Below w.heap.size w W) => first_any r _ W (hv.below h)
      have HRk := fun W => rowKey_any t.name (r.headD zero) W htn hhs
      rw [show rkey t.name (r.headD zero) = rk t r from rfl] at HRk
      generalize r.headD zero = hd at HFi HRk hhs
      obtain ⟨hdk, hdn, hds⟩ := hd
      simp only [V.val] at HFi HRk
      have HGt := fun W (h : Below wr.heap.size wr W) => get_good T (.agg #[.slice ao pk pc]) (rk t r) W ⟨_, rfl, tg.pgs.below h⟩ tg.good (by omega)
      have HFt := fun W (h : Below w.heap.size w W) => HFt0 r (.slice xo r.length xc) W h (hv.below h) hss
      have HPt := fun W (h1 : Below wr.heap.size wr W) (hg : GoodT T) => HPut T (.agg #[.slice ao pk pc]) r (.slice xo r.length xc) W (hbw.trans (h1.mono hbw.size)) ⟨_, rfl, tg.pgs.below h1⟩ hg (by omega) (isSl _ _ _) (IsL.keep HI.out (keepsC ((hbw.trans (h1.mono hbw.size)).mono hC))) (IsL.keep HL.out (keepsC ((hbw.trans (h1.mono hbw.size)).mono hC))) (Nat.le_trans hC (hbw.trans (h1.mono hbw.size)).size) (hv.below (hbw.trans (h1.mono hbw.size)))
      have HPt2 : Hid _ := HPt
      clear HPt
      obtain ⟨gs, gb, hgb⟩ : ∃ gs gb, getAns (getF (flat T) (rk t r)) = .tuple #[.string gs, .bool gb] ∧ gb = (getF (flat T) (rk t r)).isSome := ⟨_, _, rfl, rfl⟩
      rw [hgb.1] at HGt
      have HGB : Hid _ := hgb.2
      clear hgb
      have HFG : Hid (fitsRow t r = true → r.length = t.cols.length) := fun h => (fitsRow_good h).1
      obtain ⟨fb, hfb⟩ : ∃ fb, fitsRow t r = fb := ⟨_, rfl⟩
      rw [hfb] at HFt
      have HFB : Hid _ := hfb
      clear hfb
      have hnumr : Hid (0 < r.length → ∃ a k i, xo = some a ∧ w.cell? a = some (.int k i)) := fun h0 => by
        obtain ⟨u, hu⟩ : ∃ u, r[0]? = some u := ⟨_, List.getElem?_eq_getElem h0⟩
        rcases hv with ⟨_, h1⟩ | ⟨b', off', cap', h1, _, hR⟩
        · rw [h1] at h0; simp at h0
        · cases h1
          exact ⟨_, _, _, rfl, by have := (hR 0 u hu).1; simpa using this⟩
      have KS : Hid _ := fun W (h : Below wr.heap.size wr W) => And.intro (show W.cell? ⟨w.heap.size + 3, 0, none⟩ = some (.slice ao pk pc) from cell_of_block (tg.below h).blk (j := 0) rfl) (show W.cell? ⟨w.heap.size + 1, 0, none⟩ = some (.string t.name) from cell_of_block (tg.below h).snd (j := 0) rfl)
      have s0 := KS.out wr.drew (Below.refl _ _).drew
      have v0 : (0 : Int) ≤ (k : Int) := by omega
      have v1 : (k : Int) < (rows.length : Int) := by omega
      clear hx hcell hrow HFt0 HPut
      by_cases hO : O.length < 20
      rotate_left
      · have hq : ¬ (O.length : Int) < 20 := by omega
        clear HFt
        obtain ⟨oo, oc, hov⟩ := IsRow.shape (IsRow.of_own hown)
        subst hov
        ·
          go_wp2_with fail
          go_region_held3 (fun W => W.cell? ⟨w.heap.size + 3, 0, none⟩ = some (.slice ao pk pc) ∧ W.cell? ⟨w.heap.size + 1, 0, none⟩ = some (.string t.name)) (with_reducible first | exact s3 | exact s2 | exact s1 | exact s0)
          (first
            | (go_at_call 21; go_fit (HFi _ hbw.drew); rintro e w1 ⟨rfl, hb1⟩; have hB1 : Below wr.heap.size wr w1 := bthen (Below.refl _ _).drew hb1; have s1 := KS.out w1 hB1)
            | (go_at_call 20; go_fit (HRk _); rintro e w2 ⟨rfl, hb2⟩; have hB2 : Below wr.heap.size wr w2 := bthen hB1 hb2; have s2 := KS.out w2 hB2)
            | (go_at_call 19; go_fit (HGt _ hB2); rintro e w3 ⟨rfl, hb3⟩; have hB3 : Below wr.heap.size wr w3 := bthen hB2 hb3; have s3 := KS.out w3 hB3; have tb3 := (tg.below hB3).snd; have y0 := cell_of_block tb3 (j := 0) rfl; have y1 := cell_of_block tb3 (j := 1) rfl))
          go_wp2
          go_roundw
          case rel => exact ⟨k + 1, O, ao, pk, pc, T, cs, by omega, by go_num, tg.below hB3, HK, ownsRow_below hown hB3, spareZ_below hown hsp hB3, hnum⟩
          case measure => simp [intOf]; omega
      · have hq : (O.length : Int) < 20 := by omega
        obtain ⟨oo, oc, hov⟩ := IsRow.shape (IsRow.of_own hown)
        subst hov
        cases fb
        ·
          go_wp2_with fail
          go_region_held3 (fun W => W.cell? ⟨w.heap.size + 3, 0, none⟩ = some (.slice ao pk pc) ∧ W.cell? ⟨w.heap.size + 1, 0, none⟩ = some (.string t.name)) (with_reducible first | exact s3 | exact s2 | exact s1 | exact s0)
          (first
            | (go_at_call 21; go_fit (HFi _ hbw.drew); rintro e w1 ⟨rfl, hb1⟩; have hB1 : Below wr.heap.size wr w1 := bthen (Below.refl _ _).drew hb1; have s1 := KS.out w1 hB1)
            | (go_at_call 20; go_fit (HRk _); rintro e w2 ⟨rfl, hb2⟩; have hB2 : Below wr.heap.size wr w2 := bthen hB1 hb2; have s2 := KS.out w2 hB2)
            | (go_at_call 19; go_fit (HGt _ hB2); rintro e w3 ⟨rfl, hb3⟩; have hB3 : Below wr.heap.size wr w3 := bthen hB2 hb3; have s3 := KS.out w3 hB3; have tb3 := (tg.below hB3).snd; have y0 := cell_of_block tb3 (j := 0) rfl; have y1 := cell_of_block tb3 (j := 1) rfl))
          go_wp2_with (go_at_call 22; go_fit (HFt _ (hbw.trans (hB3.mono hbw.size))); rintro e w4 ⟨rfl, hb4⟩; have hB4 : Below wr.heap.size wr w4 := bthen hB3 hb4)
          go_roundw
          case rel => exact ⟨k + 1, O, ao, pk, pc, T, cs, by omega, by go_num, tg.below hB4, HK, ownsRow_below hown hB4, spareZ_below hown hsp hB4, hnum⟩
          case measure => simp [intOf]; omega
        cases gb
        rotate_left
        ·
          go_wp2_with fail
          go_region_held3 (fun W => W.cell? ⟨w.heap.size + 3, 0, none⟩ = some (.slice ao pk pc) ∧ W.cell? ⟨w.heap.size + 1, 0, none⟩ = some (.string t.name)) (with_reducible first | exact s3 | exact s2 | exact s1 | exact s0)
          (first
            | (go_at_call 21; go_fit (HFi _ hbw.drew); rintro e w1 ⟨rfl, hb1⟩; have hB1 : Below wr.heap.size wr w1 := bthen (Below.refl _ _).drew hb1; have s1 := KS.out w1 hB1)
            | (go_at_call 20; go_fit (HRk _); rintro e w2 ⟨rfl, hb2⟩; have hB2 : Below wr.heap.size wr w2 := bthen hB1 hb2; have s2 := KS.out w2 hB2)
            | (go_at_call 19; go_fit (HGt _ hB2); rintro e w3 ⟨rfl, hb3⟩; have hB3 : Below wr.heap.size wr w3 := bthen hB2 hb3; have s3 := KS.out w3 hB3; have tb3 := (tg.below hB3).snd; have y0 := cell_of_block tb3 (j := 0) rfl; have y1 := cell_of_block tb3 (j := 1) rfl))
          go_wp2_with (go_at_call 22; go_fit (HFt _ (hbw.trans (hB3.mono hbw.size))); rintro e w4 ⟨rfl, hb4⟩; have hB4 : Below wr.heap.size wr w4 := bthen hB3 hb4)
          go_roundw
          case rel => exact ⟨k + 1, O, ao, pk, pc, T, cs, by omega, by go_num, tg.below hB4, HK, ownsRow_below hown hB4, spareZ_below hown hsp hB4, hnum⟩
          case measure => simp [intOf]; omega
        ·
          have hgn : Hid (getF (flat T) (rk t r) = none) := by
            show _ = _
            have := HGB.out
            cases h : getF (flat T) (rk t r) with
            | none => rfl
            | some x => rw [h] at this; cases this
          have hrl := HFG.out HFB.out
          have HP := fun W (h1 : Below wr.heap.size wr W) => HPt2.out W h1 tg.good hrl (by omega) (by omega) hss HIN.out htn (by omega)
          clear HPt2 hrl
          go_wp2_with fail
          go_region_held3 (fun W => W.cell? ⟨w.heap.size + 3, 0, none⟩ = some (.slice ao pk pc) ∧ W.cell? ⟨w.heap.size + 1, 0, none⟩ = some (.string t.name)) (with_reducible first | exact s3 | exact s2 | exact s1 | exact s0)
          (first
            | (go_at_call 21; go_fit (HFi _ hbw.drew); rintro e w1 ⟨rfl, hb1⟩; have hB1 : Below wr.heap.size wr w1 := bthen (Below.refl _ _).drew hb1; have s1 := KS.out w1 hB1)
            | (go_at_call 20; go_fit (HRk _); rintro e w2 ⟨rfl, hb2⟩; have hB2 : Below wr.heap.size wr w2 := bthen hB1 hb2; have s2 := KS.out w2 hB2)
            | (go_at_call 19; go_fit (HGt _ hB2); rintro e w3 ⟨rfl, hb3⟩; have hB3 : Below wr.heap.size wr w3 := bthen hB2 hb3; have s3 := KS.out w3 hB3; have tb3 := (tg.below hB3).snd; have y0 := cell_of_block tb3 (j := 0) rfl; have y1 := cell_of_block tb3 (j := 1) rfl))
          go_wp2_with (first
            | (go_at_call 22; go_fit (HFt _ (hbw.trans (hB3.mono hbw.size))); rintro e w4 ⟨rfl, hb4⟩; have hB4 : Below wr.heap.size wr w4 := bthen hB3 hb4; have tg4 := tg.below hB4; have z0 := cell_of_block tg4.blk (j := 0) rfl; have z1 := cell_of_block tg4.fst (j := 0) rfl; have z2 := cell_of_block tg4.fst (j := 1) rfl; have z3 := cell_of_block tg4.snd (j := 0) rfl; have z4 := cell_of_block tg4.snd (j := 1) rfl)
            | (go_at_call 18; go_fit (HP _ hB4); rintro e w5 ⟨pv5, T5, rfl, hp5, hg5, hf5, hl5, hb5⟩; obtain ⟨sv5, rfl, hp5⟩ := hp5; obtain ⟨ao5, c5, rfl⟩ := pages_shape hp5; have hB5 : Below wr.heap.size wr w5 := bthen hB4 hb5; have tg5 := tg.below hB5; have z5 := cell_of_block tg5.blk (j := 0) rfl; have z6 : w5.frozen? ⟨w.heap.size + 3, 0, none⟩ = false := (by simp [World.frozen?, tg5.blk]); have tg6 := tg.store hB5 hp5 hg5; have own6 := ownsRow_set (x := .slice ao5 T5.length c5) (ownsRow_below hown hB5) (show w.heap.size + 3 < w.heap.size + 4 by omega); have sp6 := spareZ_set (x := .slice ao5 T5.length c5) (ownsRow_below hown hB5) (spareZ_below hown hsp hB5) (show w.heap.size + 3 < w.heap.size + 4 by omega); generalize hW6 : w5.setCell ⟨w.heap.size + 3, 0, none⟩ (.slice ao5 T5.length c5) = w6 at tg6 own6 sp6; have tg7 := tg6.below (bel1 w6 (.cells #[.slice xo r.length xc] 44)); have own7 := ownsRow_below own6 (bel1 w6 (.cells #[.slice xo r.length xc] 44)); have sp7 := spareZ_below own6 sp6 (bel1 w6 (.cells #[.slice xo r.length xc] 44)); have hy7 : (w6.alloc (.cells #[.slice xo r.length xc] 44)).cell? ⟨w6.heap.size, 0, none⟩ = some (.slice xo r.length xc) := cell_of_block (block_alloc_at w6 _) rfl; have hba7 : w.heap.size + 4 ≤ (w6.alloc (.cells #[.slice xo r.length xc] 44)).heap.size := (by have := lt_of_block tg7.blk; omega))
            | (at_builtin; go_must (refine wpList_append_spare rfl _ _ 26 rfl (w.heap.size + 4) 44 i0 Tryz.underlying26 hi0 hz0 hz1 _ _ _ rfl own7 sp7 ⟨w6.heap.size, 0, none⟩ 1 (.slice xo r.length xc) rfl hy7 rfl (by simp only [maxLen]; omega) (by rw [hz2]; omega) hba7 ?h2)))
          case h2 =>
            intro v8 w8 own8 sp8 gr8 at8
            have hpg := pages_grown tg7.pgs tg7.good own7 sp7 (numRows_below hnum tg7.bel) gr8
            have tg8 := tg7.grown gr8 (fun j hj => (own7.lt j hj).1) hpg (by omega) (by intro p hp; simp only [List.mem_cons, List.not_mem_nil, or_false] at hp; rcases hp with rfl | rfl | rfl <;> simp) (by omega)
            have hnr : 0 < r.length := by rw [HFG.out HFB.out]; exact hc0
            have hnum8 : NumRows w (cs ++ [.slice xo r.length xc]) := by
              intro u hu
              rcases List.mem_append.1 hu with hu | hu
              · exact hnum u hu
              · obtain rfl : u = .slice xo r.length xc := by simpa using hu
                obtain ⟨a, k', i', h1, h2⟩ := hnumr.out hnr
                exact ⟨a, _, _, k', i', by rw [h1], h2⟩
            clear hnr
            go_wp2
            go_roundw
            case rel => exact ⟨k + 1, O ++ [r], ao5, T5.length, c5, T5, cs ++ [.slice xo r.length xc], by omega, by go_num, tg8, hid ⟨by rw [hf5]; exact kept_step HK.out.1 hgn.out HFB.out hO, by have h1 := HK.out.2; rw [List.length_append]; simp; omega⟩, by rw [List.length_append]; exact own8, by rw [List.length_append]; exact sp8, hnum8⟩
            case measure => simp [intOf]; omega
    · have hkn : k = rows.length := by omega
      subst hkn
      have v1 : ¬ ((rows.length : Int) < (rows.length : Int)) := by omega
      obtain ⟨oo, oc, hov⟩ := IsRow.shape (IsRow.of_own hown)
      subst hov
      have bR := tg.trd
      have z0 := cell_of_block tg.blk (j := 0) rfl
      have z1 := cell_of_block bR (j := 0) rfl
      have z2 : wr.frozen? ⟨w.heap.size + 2, 0, none⟩ = false := by simp [World.frozen?, bR]
      go_wp2
      have hfin := set_at bR 0 (.slice ao pk pc)
      refine bodyPost_ret (v := .tuple #[.agg #[.slice ao pk pc], .slice oo O.length oc]) (results_two Tryz.results7 _ _ (w.heap.size + 2) 36 #[.slice ao pk pc] _ _ _ rfl rfl hfin Tryz.underlying36 rfl (by kernel_rfl)) rfl ?_
      exact ⟨ao, pk, pc, T, oo, oc, O, rfl, pages_set2 tg.pgs bR _, tg.good, HK.out.1, by have h1 := HK.out.2; have h2 := HK.out.1.len; omega, tg.bel.setCell (show w.heap.size ≤ w.heap.size + 2 by omega) _⟩

end Go.Proofs.YtkncamggdfmlnaaGreat

namespace Go.Proofs.YtkncamggdfmlnaaGreat
open Go.RowKit

theorem tree_zero (w : World) : IsTree w (.agg #[.slice none 0 0]) [] := ⟨_, rfl, IsPages.nil w⟩

theorem trees_flat {T1 T2 : List Pg} (h1 : flat T1 = putF (flat []) ⟨#[98]⟩ ⟨#[49]⟩) (h2 : flat T2 = putF (flat T1) ⟨#[97]⟩ ⟨#[50]⟩) : flat T2 = [(⟨#[97]⟩, ⟨#[50]⟩), (⟨#[98]⟩, ⟨#[49]⟩)] := by
  have e1 : flat T1 = [(⟨#[98]⟩, ⟨#[49]⟩)] := by rw [h1]; rfl
  rw [h2, e1]
  have a1 : klt ⟨#[98]⟩ ⟨#[97]⟩ = false := by rw [klt, Lib.toList_data, Lib.toList_data]; decide
  have a2 : klt ⟨#[97]⟩ ⟨#[98]⟩ = true := by rw [klt, Lib.toList_data, Lib.toList_data]; decide
  simp [putF, a1, a2]

theorem trees_get : getAns (getF [(⟨#[97]⟩, ⟨#[50]⟩), (⟨#[98]⟩, ⟨#[49]⟩)] ⟨#[97]⟩) = .tuple #[.string ⟨#[50]⟩, .bool true] := by simp [getF, getAns]

end Go.Proofs.YtkncamggdfmlnaaGreat

namespace Go.Proofs.YtkncamggdfmlnaaGreat
open Go.RowKit

def pTab : TabD := ⟨⟨#[116]⟩, [⟨⟨#[97]⟩, 1, true⟩]⟩
def pRow : List V := [⟨1, 3, noW⟩]
theorem pFits : fitsRow pTab pRow = true := by decide
theorem pKept {T : List Pg} (h : flat T = putRow (flat []) [] pTab pRow) : Kept [] pTab (flat T) [pRow] := by
  rw [h]
  exact kept_step (O := []) (kept_nil [] pTab) (by simp [getF, flat]) pFits (by decide)
/-- The rows of a tree that was made so. -/
theorem kept_rng {I : List IdxD} {t : TabD} {T : List Pg} {O : List (List V)} (hT : GoodT T) (h : Kept I t (flat T) O) (h0 : 0 < t.cols.length) (h4 : t.cols.length ≤ 4) : ∀ x ∈ rng T (allLo t.name) (allHi t.name), x.2.size ≤ 1000000 := by
  obtain ⟨A, _, _, hm, he⟩ := all_rows hT h h0
  intro x hx
  rw [he] at hx
  obtain ⟨r, hr, rfl⟩ := List.mem_map.1 hx
  have h1 := keyAns_size r
  have h2 := (fitsRow_good (h.fit r ((hm r).1 hr))).1
  show (str (keyAns r).1).size ≤ _
  omega
theorem pRows {T : List Pg} (hT : GoodT T) (h : flat T = putRow (flat []) [] pTab pRow) : rowsOf 1 (rng T (allLo pTab.name) (allHi pTab.name)) = [pRow] := by
  obtain ⟨A, hl, he, hm, _⟩ := all_rows hT (pKept h) (by decide)
  rw [show pTab.cols.length = 1 from rfl] at he
  rw [he]
  match A, hl with
  | [a], _ => have := (hm a).1 (by simp); simp at this; rw [this]
theorem isL_col1 {F : Nat → Prop} {W : World} {b : Nat} {x : ColD} {t : TypeId} {fr : Nat × Nat} (h : W.heap[b]? = some (.cells #[.string x.name, .int .i64 x.ty, .bool x.must] t fr)) (hF : F b) : IsL kCol F W (.slice (some ⟨b, 0, none⟩) 1 1) [x] :=
  ⟨[.string x.name, .int .i64 x.ty, .bool x.must], ⟨rfl, .inr ⟨by simp, b, 0, 1, rfl, hF, lt_of_block h, Nat.le_refl _, by decide, fun j u hj => by rw [Nat.zero_add]; exact cell_of_block h (by simpa using hj)⟩⟩, All.one rfl⟩

set_option maxRecDepth 100000 in
set_option maxHeartbeats 4000000 in
theorem plans_any (w : World) : Calls Tryz.prog 6 #[] w fun e w' => e = .returned (.bool true) ∧ Below w.heap.size w w' := by
  have hb2 := bel2 w (.cells #[.string ⟨#[97]⟩, .int .i64 1, .bool true] 55) (.cells #[.string ⟨#[116]⟩, .slice (some ⟨w.heap.size, 0, none⟩) 1 1] 29)
  have bC := block_alloc_of (block_alloc_at w (.cells #[.string ⟨#[97]⟩, .int .i64 1, .bool true] 55)) (.cells #[.string ⟨#[116]⟩, .slice (some ⟨w.heap.size, 0, none⟩) 1 1] 29)
  have bT := block2 w (.cells #[.string ⟨#[97]⟩, .int .i64 1, .bool true] 55) (.cells #[.string ⟨#[116]⟩, .slice (some ⟨w.heap.size, 0, none⟩) 1 1] 29)
  have hs2 : ((w.alloc (.cells #[.string ⟨#[97]⟩, .int .i64 1, .bool true] 55)).alloc (.cells #[.string ⟨#[116]⟩, .slice (some ⟨w.heap.size, 0, none⟩) 1 1] 29)).heap.size = w.heap.size + 2 := by simp
  generalize hW : (w.alloc (.cells #[.string ⟨#[97]⟩, .int .i64 1, .bool true] 55)).alloc (.cells #[.string ⟨#[116]⟩, .slice (some ⟨w.heap.size, 0, none⟩) 1 1] 29) = W2 at hb2 bC bT hs2
  have HW : Hid _ := hW
  clear hW
  have hb4 := bel2 W2 (.cells #[.string ⟨#[116]⟩, .slice (some ⟨w.heap.size, 0, none⟩) 1 1] 29) (.cells #[.int .i64 1, .int .i64 3, .string noW] 47)
  have bV := block2 W2 (.cells #[.string ⟨#[116]⟩, .slice (some ⟨w.heap.size, 0, none⟩) 1 1] 29) (.cells #[.int .i64 1, .int .i64 3, .string noW] 47)
  have bC4 := (hb4.block _ (lt_of_block bC)).trans bC
  have bT4 := (hb4.block _ (lt_of_block bT)).trans bT
  have HP := putRow_any [] pTab pRow [] (.agg #[.slice none 0 0]) (.slice (some ⟨W2.heap.size, 0, none⟩) 1 1) (.slice none 0 0) (.slice (some ⟨w.heap.size, 0, none⟩) 1 1) (.slice (some ⟨W2.heap.size + 1, 0, none⟩) 1 1) ((W2.alloc (.cells #[.string ⟨#[116]⟩, .slice (some ⟨w.heap.size, 0, none⟩) 1 1] 29)).alloc (.cells #[.int .i64 1, .int .i64 3, .string noW] 47)).heap.size _
    (tree_zero _) ⟨by simp, by simp [keysT, Rise]⟩ (by simp) (isSl _ _ _) (IsL.nil _ _ _) (isL_col1 bC4 (lt_of_block bC4)) (Nat.le_refl _)
    (.inr ⟨_, _, _, rfl, lt_of_block bV, fun i v hi => by
      match i, hi with
      | 0, hi => simp [pRow] at hi; subst hi; exact ⟨cell_of_block bV rfl, cell_of_block bV rfl, cell_of_block bV rfl⟩⟩) rfl (by decide) (by decide) (by intro v hv; simp [pRow] at hv; subst hv; exact Nat.zero_le _) (by simp) (by decide) (by simp)
  have HA := fun W => all_any pTab.name W (by decide)
  have HR := fun T pv W (h1 : IsTree W pv T) (h2 : GoodT T) (h3 : T.length ≤ 2) (h4 : flat T = putRow (flat []) [] pTab pRow) => rowsAll_any pTab.name T pv (some ⟨w.heap.size, 0, none⟩) 1 1 (allLo pTab.name) (allHi pTab.name) W h1 h2 (by omega) (kept_rng h2 (pKept h4) (by decide) (by decide))
  have t0 := cell_of_block bT (j := 0) rfl
  have t1 := cell_of_block bT (j := 1) rfl
  have hb3 := bel1 W2 (.cells #[.string ⟨#[116]⟩, .slice (some ⟨w.heap.size, 0, none⟩) 1 1] 29)
  have t0a := (hb3.cell (p := ⟨w.heap.size + 1, 0, none⟩) (lt_of_block bT)).trans t0
  have t1a := (hb3.cell (p := ⟨w.heap.size + 1, 1, none⟩) (lt_of_block bT)).trans t1
  have hbw4 : Below w.heap.size w ((W2.alloc (.cells #[.string ⟨#[116]⟩, .slice (some ⟨w.heap.size, 0, none⟩) 1 1] 29)).alloc (.cells #[.int .i64 1, .int .i64 3, .string noW] 47)) := hb2.trans (hb4.mono hb2.size)
  have EP : Hid (pTab.name = ⟨#[116]⟩) := rfl
  simp only [EP.out] at HP HA HR
  have ER : Hid (∀ T, GoodT T → flat T = putRow (flat []) [] pTab pRow → rowsOf 1 (rng T (allLo ⟨#[116]⟩) (allHi ⟨#[116]⟩)) = [pRow]) := fun T h1 h2 => pRows h1 h2
  go_enter Tryz.func6, Tryz.ntmps6
  go_upto_region 2 with fail
  rw [HW.out]
  clear hs2
  go_wp2_with (go_at_call 18; go_fit HP; rintro e w5 ⟨pv5, T5, rfl, hp5, hg5, hf5, hl5, hb5⟩; obtain ⟨sv5, rfl, hp5⟩ := hp5; obtain ⟨ao5, c5, rfl⟩ := pages_shape hp5)
  have bT5 := (hb5.block _ (lt_of_block bT4)).trans bT4
  have hbw5 : Below w.heap.size w w5 := hbw4.trans (hb5.mono hbw4.size)
  have hb6 := bel1 w5 (.cells #[.slice ao5 T5.length c5] 36)
  have bP6 := block_alloc_at w5 (.cells #[.slice ao5 T5.length c5] 36)
  have bT6 := block_alloc_of bT5 (.cells #[.slice ao5 T5.length c5] 36)
  have hp6 := hp5.below hb6
  have hbw6 : Below w.heap.size w (w5.alloc (.cells #[.slice ao5 T5.length c5] 36)) := hbw5.trans (hb6.mono hbw5.size)
  generalize hW6 : w5.alloc (.cells #[.slice ao5 T5.length c5] 36) = W6 at hb6 bP6 bT6 hp6 hbw6 ⊢
  have HR2 := fun W (h : Below W6.heap.size W6 W) => HR T5 (.agg #[.slice ao5 T5.length c5]) W ⟨_, rfl, hp6.below h⟩ hg5 (Nat.le_trans hl5 (by simp)) hf5
  simp only [ER.out T5 hg5 hf5] at HR2
  have KS : Hid _ := fun W (h : Below W6.heap.size W6 W) => And.intro (show W.cell? ⟨w5.heap.size, 0, none⟩ = some (.slice ao5 T5.length c5) from cell_of_block ((h.block _ (lt_of_block bP6)).trans bP6) (j := 0) rfl) (And.intro (show W.cell? ⟨w.heap.size + 1, 0, none⟩ = some (.string ⟨#[116]⟩) from cell_of_block ((h.block _ (lt_of_block bT6)).trans bT6) (j := 0) rfl) (show W.cell? ⟨w.heap.size + 1, 1, none⟩ = some (.slice (some ⟨w.heap.size, 0, none⟩) 1 1) from cell_of_block ((h.block _ (lt_of_block bT6)).trans bT6) (j := 1) rfl))
  have s0 := KS.out W6.drew (Below.refl _ _).drew
  clear HR HP hW6 t0 t1 t0a t1a
  generalize allLo ⟨#[116]⟩ = lo at HA HR2
  generalize allHi ⟨#[116]⟩ = hi at HA HR2
  unfold wayV at HA HR2
  go_region_held3 (fun W => W.cell? ⟨w5.heap.size, 0, none⟩ = some (.slice ao5 T5.length c5) ∧ W.cell? ⟨w.heap.size + 1, 0, none⟩ = some (.string ⟨#[116]⟩) ∧ W.cell? ⟨w.heap.size + 1, 1, none⟩ = some (.slice (some ⟨w.heap.size, 0, none⟩) 1 1)) (with_reducible first | exact s2 | exact s1 | exact s0)
    (first
      | (go_at_call 9; go_fit (HA _); rintro e w7 ⟨rfl, hb7⟩; have hB7 : Below W6.heap.size W6 w7 := bthen (Below.refl _ _).drew hb7; have s1 := KS.out w7 hB7)
      | (go_at_call 8; go_fit (HR2 _ hB7); rintro e w8 ⟨rv8, rfl, hrv8, hb8⟩; have hB8 : Below W6.heap.size W6 w8 := bthen hB7 hb8; have s2 := KS.out w8 hB8))
  obtain ⟨ro8, rc8, rfl⟩ := hrv8.shape
  obtain ⟨b, off, cs', hro, _, hbl, ⟨xv, rfl, hrow⟩, hcell⟩ := isL_get hrv8 (i := 0) (x := pRow) rfl
  cases hro
  obtain ⟨xo, xc, rfl⟩ := hrow.shape
  have d0 : w8.cell? ⟨b, off, none⟩ = some (.slice xo 1 xc) := by have := hcell 0 _ rfl; simpa [kVals, pRow] using this
  rcases isL_vals hrow with ⟨_, h1⟩ | ⟨b', off', cap', h1, _, hR⟩
  · cases h1
  cases h1
  have d1 : w8.cell? ⟨b', off' + 1, none⟩ = some (.int .i64 3) := by have := (hR 0 _ rfl).2.1; simpa using this
  simp only [List.length_cons, List.length_nil, Nat.zero_add]
  go_wp2
  go_ret
  exact ⟨rfl, hbw6.trans (hB8.mono hbw6.size)⟩

end Go.Proofs.YtkncamggdfmlnaaGreat

namespace Go.Proofs.YtkncamggdfmlnaaGreat
open Go.RowKit

set_option maxRecDepth 100000 in
set_option maxHeartbeats 4000000 in
theorem dropRow_any (I : List IdxD) (t : TabD) (r : List V) (T : List Pg) (pv tv iv sv rv : Value) (C : Nat) (w : World) (hp : IsTree w pv T) (hg : GoodT T) (hT : T.length ≤ 1000000) (htv : IsSl tv)
    (hi : IsL kIdx (fun k => k < C) w iv I) (hl : IsL kCol (fun k => k < C) w sv t.cols) (hC : C ≤ w.heap.size) (hr : IsVals w rv r) (hrl : r.length = t.cols.length) (h0 : 0 < r.length) (hr4 : r.length ≤ 1000000) (hs : ∀ v ∈ r, v.s.size ≤ maxLen) (hin : ∀ x ∈ I, x.name.size ≤ 1000000) (htn : t.name.size ≤ 1000000) (hn : I.length ≤ 1000000) :
    Calls Tryz.prog 12 #[pv, .agg #[tv, iv], .agg #[.string t.name, sv], rv] w fun e w' => TreeAns w w' e (dropRow (flat T) I t r) (T.length) := by
  obtain ⟨to', tn, tc, rfl⟩ := htv
  obtain ⟨psv, rfl, hpp⟩ := hp
  obtain ⟨po, pc, rfl⟩ := pages_shape hpp
  have hIK := fun W (h : Below w.heap.size w W) => indexKeys_any I t r (.slice to' tn tc) iv sv rv C W (isSl _ _ _) (hi.keep (keepsC (h.mono hC))) (hl.keep (keepsC (h.mono hC))) (Nat.le_trans hC h.size) (hr.below h) hrl h0 hs hin hn
  obtain ⟨io, ic, rfl⟩ := hi.shape
  obtain ⟨so, sc, rfl⟩ := hl.shape
  rcases hr with ⟨_, rfl⟩ | ⟨rb, ro, rcap, rfl, hrb, hR⟩
  · simp at h0
  have st := trSt_start (.slice to' tn tc) (.slice io I.length ic) (.string t.name) (.slice so t.cols.length sc) hpp hg
  generalize hW : (((w.alloc (.cells #[.slice po T.length pc] 36)).alloc (.cells #[.slice to' tn tc, .slice io I.length ic] 25)).alloc (.cells #[.string t.name, .slice so t.cols.length sc] 29)).alloc (.cells #[.slice none 0 0] 36) = W4 at st
  have HW : Hid _ := hW
  clear hW hi hl
  have e0 := cell_of_block st.tab (j := 0) rfl
  have e1 := cell_of_block st.tab (j := 1) rfl
  have HF := planFits_any t.name so t.cols.length sc (some ⟨rb, ro, none⟩) r.length rcap W4
  rw [show (decide (0 < r.length) && decide (r.length = t.cols.length)) = true by rw [decide_eq_true h0, decide_eq_true hrl]; rfl] at HF
  obtain ⟨u, hu⟩ : ∃ u, r[0]? = some u := ⟨_, List.getElem?_eq_getElem h0⟩
  have hhd : r.headD zero = u := by rw [List.headD_eq_head?_getD, List.head?_eq_getElem?, hu]; rfl
  have HR := fun W => rowKey_any t.name u W htn (hs u (List.mem_of_getElem? hu))
  rw [show rkey t.name u = rk t r by rw [rk, hhd]] at HR
  obtain ⟨f0, f1, f2⟩ := hR 0 u hu
  simp only [Nat.zero_mul, Nat.add_zero] at f0 f1 f2
  have HS : Hid _ := hs
  have HIK : Hid _ := hIK
  have p2 : (0 : Int) < (r.length : Int) := by omega
  have hrl2 : Hid _ := hrl
  clear hs hIK hu hhd hrl
  obtain ⟨uk, un, us⟩ := u
  simp only [V.val] at HR
  simp only at f0 f1 f2
  go_enter Tryz.func12, Tryz.ntmps12
  go_upto_region 1 with fail
  rw [HW.out]
  go_wp2_with (go_at_call 27; go_fit HF; rintro e w1 ⟨rfl, hb1⟩)
  have st1 := st.below hb1
  have hbw1 := st1.bel
  have KS : Hid _ := fun W (h : Below w1.heap.size w1 W) => put_cells (W := W) (show W.cell? ⟨w.heap.size + 2, 0, none⟩ = some (.string t.name) from cell_of_block (st1.below h).tab (j := 0) rfl) (((hbw1.trans (h.mono hbw1.size)).cell (p := ⟨rb, ro, none⟩) hrb).trans f0) (((hbw1.trans (h.mono hbw1.size)).cell (p := ⟨rb, ro + 1, none⟩) hrb).trans f1) (((hbw1.trans (h.mono hbw1.size)).cell (p := ⟨rb, ro + 2, none⟩) hrb).trans f2)
  have KT : Hid _ := fun W (h : Below w1.heap.size w1 W) (x : Value) => put_cells_set (W := W) (g := w.heap.size) (x := x) (KS.out W h) (show w.heap.size + 2 ≠ w.heap.size by omega) (show rb ≠ w.heap.size by omega)
  have q0 := cell_of_block st1.blk (j := 0) rfl
  have HP := fun W (h : Below w1.heap.size w1 W) => drop_any T (.agg #[.slice po T.length pc]) (rk t r) W ⟨_, rfl, st1.pgs.below h⟩ hg (by omega)
  have EF : Hid (dropRow (flat T) I t r = dropsE (dropF (flat T) (rk t r)) (iks I t r)) := rfl
  go_cut [4] from 16 (fun s4 wx => s4 = .pointer (some ⟨w.heap.size, 0, none⟩) ∧ ∃ ao k c T1, TrSt w #[.slice to' tn tc, .slice io I.length ic] #[.string t.name, .slice so t.cols.length sc] (dropF (flat T) (rk t r)) (T.length) ao k c T1 wx)
  case first =>
    refine wp_region_held_drew (S := (fun W => W.cell? ⟨w.heap.size + 2, 0, none⟩ = some (.string t.name) ∧ W.cell? ⟨rb, ro, none⟩ = some (.int .i64 uk) ∧ W.cell? ⟨rb, ro + 1, none⟩ = some (.int .i64 un) ∧ W.cell? ⟨rb, ro + 2, none⟩ = some (.string us))) (by kernel_rfl) ?_ (fun hHeld => ?_)
    · exact KS.out _ (Below.refl _ _).drew
    refine wpAnyH_take (i := 1) (oi := { dst := some 17, op := Go.Op.fieldAddr 29 (Go.Operand.tmp 6) 0, type := 0, pos := "plan.go:112", after := #[], guard := none }) (v := ?_) rfl (by kernel_rfl) (by kernel_rfl) (by kernel_rfl) (fun _ _ _ h => h) (Or.inl ⟨by rfl, ?_⟩) (by assumption) ?_
    rotate_left
    · intro w hSw; (try dsimp only at hSw); go_simp; all_goals (with_reducible rfl)
    try simp only [Act.put, List.setIfInBounds_toArray, List.set_cons_zero, List.set_cons_succ]
    refine wpAnyH_take (i := 2) (oi := { dst := some 18, op := Go.Op.load 9 (Go.Operand.tmp 17), type := 9, pos := "plan.go:112", after := #[{ on := 1, ground := Go.Ground.data }], guard := none }) (v := ?_) rfl (by kernel_rfl) (by kernel_rfl) (by kernel_rfl) (fun _ _ _ h => h) (Or.inl ⟨by rfl, ?_⟩) (by assumption) ?_
    rotate_left
    · intro w hSw; (try dsimp only at hSw); go_simp; all_goals (with_reducible rfl)
    try simp only [Act.put, List.setIfInBounds_toArray, List.set_cons_zero, List.set_cons_succ]
    refine wpAnyH_take (i := 3) (oi := { dst := some 19, op := Go.Op.move (Go.Operand.tmp 3), type := 44, pos := "plan.go:112", after := #[], guard := none }) (v := ?_) rfl (by kernel_rfl) (by kernel_rfl) (by kernel_rfl) (fun _ _ _ h => h) (Or.inl ⟨by rfl, ?_⟩) (by assumption) ?_
    rotate_left
    · intro w hSw; (try dsimp only at hSw); go_simp; all_goals (with_reducible rfl)
    try simp only [Act.put, List.setIfInBounds_toArray, List.set_cons_zero, List.set_cons_succ]
    refine wpAnyH_take (i := 4) (oi := { dst := some 20, op := Go.Op.indexAddr 44 (Go.Operand.tmp 19) (Go.Operand.const (Go.Value.int Go.IntKind.i64 0)), type := 0, pos := "plan.go:112", after := #[{ on := 3, ground := Go.Ground.data }], guard := none }) (v := ?_) rfl (by kernel_rfl) (by kernel_rfl) (by kernel_rfl) (fun _ _ _ h => h) (Or.inl ⟨by rfl, ?_⟩) (by assumption) ?_
    rotate_left
    · intro w hSw; (try dsimp only at hSw); go_simp; all_goals (with_reducible rfl)
    try simp only [Act.put, List.setIfInBounds_toArray, List.set_cons_zero, List.set_cons_succ]
    refine wpAnyH_take (i := 5) (oi := { dst := some 21, op := Go.Op.load 47 (Go.Operand.tmp 20), type := 47, pos := "plan.go:112", after := #[{ on := 4, ground := Go.Ground.data }], guard := none }) (v := ?_) rfl (by kernel_rfl) (by kernel_rfl) (by kernel_rfl) (fun _ _ _ h => h) (Or.inl ⟨by rfl, ?_⟩) (by assumption) ?_
    rotate_left
    · intro w hSw; (try dsimp only at hSw); go_simp; all_goals (with_reducible rfl)
    try simp only [Act.put, List.setIfInBounds_toArray, List.set_cons_zero, List.set_cons_succ]
    refine wpAnyH_ready (rs := [0, 6]) (by kernel_rfl) (by simp) ?_
    refine (AllReadyH.cons (o := { dst := some 16, op := Go.Op.load 36 (Go.Operand.tmp 4), type := 36, pos := "plan.go:112", after := #[], guard := none }) rfl (fun K hK => ?_) (AllReadyH.cons (o := { dst := some 22, op := Go.Op.call { callee := Go.Callee.value (Go.Operand.func 20), args := #[Go.Operand.tmp 18, Go.Operand.tmp 21], argTypes := #[9, 47] }, type := 9, pos := "plan.go:112", after := #[{ on := 2, ground := Go.Ground.data }, { on := 5, ground := Go.Ground.data }], guard := none }) rfl (fun K hK => ?_) AllReadyH.nil))
    · go_simp
      go_wp2_with fail
      refine hK.out _ _ ?_ (fun hHeld => ?_)
      · exact KS.out _ (Below.refl _ _).drew
      clear hK K
      try simp only [Act.put, List.setIfInBounds_toArray, List.set_cons_zero, List.set_cons_succ]
      refine wpAnyH_ready (rs := [6]) (by kernel_rfl) (by simp) ?_
      refine (AllReadyH.cons (o := { dst := some 22, op := Go.Op.call { callee := Go.Callee.value (Go.Operand.func 20), args := #[Go.Operand.tmp 18, Go.Operand.tmp 21], argTypes := #[9, 47] }, type := 9, pos := "plan.go:112", after := #[{ on := 2, ground := Go.Ground.data }, { on := 5, ground := Go.Ground.data }], guard := none }) rfl (fun K hK => ?_) AllReadyH.nil)
      go_simp
      (go_at_call 20; go_fit (HR _); rintro e w2 ⟨rfl, hb2⟩; have hB2 : Below w1.heap.size w1 w2 := bthen (Below.refl _ _).drew hb2; have q2 := cell_of_block (st1.below hB2).blk (j := 0) rfl)
      go_wp2_with fail
      refine hK.out _ _ ?_ (fun hHeld => ?_)
      · exact KS.out _ hB2
      clear hK K
      try simp only [Act.put, List.setIfInBounds_toArray, List.set_cons_zero, List.set_cons_succ]
      refine wpAnyH_ready (rs := [7]) (by kernel_rfl) (by simp) ?_
      refine (AllReadyH.cons (o := { dst := some 23, op := Go.Op.call { callee := Go.Callee.value (Go.Operand.func 36), args := #[Go.Operand.tmp 16, Go.Operand.tmp 22], argTypes := #[36, 9] }, type := 36, pos := "plan.go:112", after := #[{ on := 0, ground := Go.Ground.data }, { on := 6, ground := Go.Ground.data }, { on := 6, ground := Go.Ground.chain }], guard := none }) rfl (fun K hK => ?_) AllReadyH.nil)
      go_simp
      (go_at_call 36; go_fit (HP _ hB2); rintro e w4 ⟨pv4, T4, rfl, hp4, hb4, hg4, hf4, hl4⟩; obtain ⟨sv4, rfl, hp4⟩ := hp4; obtain ⟨ao4, c4, rfl⟩ := pages_shape hp4; have hB4 : Below w1.heap.size w1 w4 := bthen hB2 hb4; have q4 := cell_of_block (st1.below hB4).blk (j := 0) rfl; have z4 : w4.frozen? ⟨w.heap.size, 0, none⟩ = false := (by simp [World.frozen?, (st1.below hB4).blk]))
      go_wp2_with fail
      refine hK.out _ _ ?_ (fun hHeld => ?_)
      · exact KS.out _ hB4
      clear hK K
      try simp only [Act.put, List.setIfInBounds_toArray, List.set_cons_zero, List.set_cons_succ]
      refine wpAnyH_ready (rs := [8]) (by kernel_rfl) (by simp) ?_
      refine (AllReadyH.cons (o := { dst := none, op := Go.Op.store 36 (Go.Operand.tmp 4) (Go.Operand.tmp 23), type := 0, pos := "plan.go:112", after := #[{ on := 7, ground := Go.Ground.data }, { on := 7, ground := Go.Ground.chain }, { on := 0, ground := Go.Ground.phase }, { on := 1, ground := Go.Ground.phase }, { on := 2, ground := Go.Ground.phase }, { on := 3, ground := Go.Ground.phase }, { on := 4, ground := Go.Ground.phase }, { on := 5, ground := Go.Ground.phase }, { on := 6, ground := Go.Ground.phase }, { on := 7, ground := Go.Ground.phase }], guard := none }) rfl (fun K hK => ?_) AllReadyH.nil)
      go_simp
      go_wp2_with fail
      refine hK.out _ _ ?_ (fun hHeld => ?_)
      · exact KT.out _ hB4 _
      clear hK K
      try simp only [Act.put, List.setIfInBounds_toArray, List.set_cons_zero, List.set_cons_succ]
      refine wpAnyH_done (by kernel_rfl) ?_ _
      go_wp2_with fail
      go_meet
      case rel => exact ⟨rfl, ao4, T4.length, c4, T4, st1.store hB4 hp4 hg4 hf4 hl4⟩
    · go_simp
      (go_at_call 20; go_fit (HR _); rintro e w2 ⟨rfl, hb2⟩; have hB2 : Below w1.heap.size w1 w2 := bthen (Below.refl _ _).drew hb2; have q2 := cell_of_block (st1.below hB2).blk (j := 0) rfl)
      go_wp2_with fail
      refine hK.out _ _ ?_ (fun hHeld => ?_)
      · exact KS.out _ hB2
      clear hK K
      try simp only [Act.put, List.setIfInBounds_toArray, List.set_cons_zero, List.set_cons_succ]
      refine wpAnyH_ready (rs := [0]) (by kernel_rfl) (by simp) ?_
      refine (AllReadyH.cons (o := { dst := some 16, op := Go.Op.load 36 (Go.Operand.tmp 4), type := 36, pos := "plan.go:112", after := #[], guard := none }) rfl (fun K hK => ?_) AllReadyH.nil)
      go_simp
      go_wp2_with fail
      refine hK.out _ _ ?_ (fun hHeld => ?_)
      · exact KS.out _ hB2
      clear hK K
      try simp only [Act.put, List.setIfInBounds_toArray, List.set_cons_zero, List.set_cons_succ]
      refine wpAnyH_ready (rs := [7]) (by kernel_rfl) (by simp) ?_
      refine (AllReadyH.cons (o := { dst := some 23, op := Go.Op.call { callee := Go.Callee.value (Go.Operand.func 36), args := #[Go.Operand.tmp 16, Go.Operand.tmp 22], argTypes := #[36, 9] }, type := 36, pos := "plan.go:112", after := #[{ on := 0, ground := Go.Ground.data }, { on := 6, ground := Go.Ground.data }, { on := 6, ground := Go.Ground.chain }], guard := none }) rfl (fun K hK => ?_) AllReadyH.nil)
      go_simp
      (go_at_call 36; go_fit (HP _ hB2); rintro e w4 ⟨pv4, T4, rfl, hp4, hb4, hg4, hf4, hl4⟩; obtain ⟨sv4, rfl, hp4⟩ := hp4; obtain ⟨ao4, c4, rfl⟩ := pages_shape hp4; have hB4 : Below w1.heap.size w1 w4 := bthen hB2 hb4; have q4 := cell_of_block (st1.below hB4).blk (j := 0) rfl; have z4 : w4.frozen? ⟨w.heap.size, 0, none⟩ = false := (by simp [World.frozen?, (st1.below hB4).blk]))
      go_wp2_with fail
      refine hK.out _ _ ?_ (fun hHeld => ?_)
      · exact KS.out _ hB4
      clear hK K
      try simp only [Act.put, List.setIfInBounds_toArray, List.set_cons_zero, List.set_cons_succ]
      refine wpAnyH_ready (rs := [8]) (by kernel_rfl) (by simp) ?_
      refine (AllReadyH.cons (o := { dst := none, op := Go.Op.store 36 (Go.Operand.tmp 4) (Go.Operand.tmp 23), type := 0, pos := "plan.go:112", after := #[{ on := 7, ground := Go.Ground.data }, { on := 7, ground := Go.Ground.chain }, { on := 0, ground := Go.Ground.phase }, { on := 1, ground := Go.Ground.phase }, { on := 2, ground := Go.Ground.phase }, { on := 3, ground := Go.Ground.phase }, { on := 4, ground := Go.Ground.phase }, { on := 5, ground := Go.Ground.phase }, { on := 6, ground := Go.Ground.phase }, { on := 7, ground := Go.Ground.phase }], guard := none }) rfl (fun K hK => ?_) AllReadyH.nil)
      go_simp
      go_wp2_with fail
      refine hK.out _ _ ?_ (fun hHeld => ?_)
      · exact KT.out _ hB4 _
      clear hK K
      try simp only [Act.put, List.setIfInBounds_toArray, List.set_cons_zero, List.set_cons_succ]
      refine wpAnyH_done (by kernel_rfl) ?_ _
      go_wp2_with fail
      go_meet
      case rel => exact ⟨rfl, ao4, T4.length, c4, T4, st1.store hB4 hp4 hg4 hf4 hl4⟩
  case rest =>
    obtain ⟨rfl, ao5, k5, c5, T5, st5⟩ := hcut
    have x0 := cell_of_block st5.cat (j := 0) rfl
    have x1 := cell_of_block st5.cat (j := 1) rfl
    have x2 := cell_of_block st5.tab (j := 0) rfl
    have x3 := cell_of_block st5.tab (j := 1) rfl
    have HX := HIK.out wc st5.bel
    have HKL : Hid ((iks I t r).length ≤ I.length) := iks_length I t r
    generalize iks I t r = K at HX EF HKL
    have hKb : K.length ≤ 1000000 := Nat.le_trans HKL.out hn
    clear HP HR HF KS KT q0
    go_wp2_with (go_at_call 37; go_fit HX; rintro e w6 ⟨kv, rfl, hkv, hb6⟩; obtain ⟨ko, kc, rfl⟩ := IsRow.shape hkv)
    go_loopw [29] (fun i wr => ∃ k : Nat, k ≤ K.length ∧ i = .int .i64 k ∧ IsStrs wr (.slice ko K.length kc) K ∧ ∃ ao2 k2 c2 T2, TrSt w #[.slice to' tn tc, .slice io I.length ic] #[.string t.name, .slice so t.cols.length sc] (dropsE (dropF (flat T) (rk t r)) (K.take k)) (T.length) ao2 k2 c2 T2 wr) (fun i _ => K.length - (intOf i).toNat)
    case atStart => exact ⟨0, Nat.zero_le _, rfl, hkv, ao5, k5, c5, T5, st5.below hb6⟩
    case round =>
      obtain ⟨k, hk, rfl, hks, ao2, k2, c2, T2, st2⟩ := hrel
      by_cases hlt : k < K.length
      · obtain ⟨key, hx⟩ : ∃ x, K[k]? = some x := ⟨_, List.getElem?_eq_getElem hlt⟩
        obtain ⟨b, off, cap, hsl, hb, _, _, hcell⟩ := hks.at (by omega)
        cases hsl
        have d0 := hcell k key hx
        have y0 := cell_of_block st2.blk (j := 0) rfl
        have HT2 := drop_any T2 (.agg #[.slice ao2 k2 c2]) key _ ⟨_, rfl, st2.pgs⟩ st2.good (by have := st2.len; have := HKL.out; omega)
        have E2 : Hid (dropsE (dropF (flat T) (rk t r)) (K.take (k + 1)) = dropF (dropsE (dropF (flat T) (rk t r)) (K.take k)) key) := dropsE_take hx
        have v0 : (0 : Int) ≤ (k : Int) := by omega
        have v1 : (k : Int) < (K.length : Int) := by omega
        clear hx hcell
        go_wp2_with (go_at_call 36; go_fit HT2; rintro e w7 ⟨pv7, T7, rfl, hp7, hb7, hg7, hf7, hl7⟩; obtain ⟨sv7, rfl, hp7⟩ := hp7; obtain ⟨ao7, c7, rfl⟩ := pages_shape hp7; have z7 : w7.frozen? ⟨w.heap.size, 0, none⟩ = false := (by simp [World.frozen?, (st2.below hb7).blk]); have y7 := cell_of_block (st2.below hb7).blk (j := 0) rfl)
        go_roundw
        case rel => exact ⟨k + 1, by omega, by go_num, strs_set2 (hks.below hb7) (st2.below hb7).blk _, ao7, T7.length, c7, T7, st2.store hb7 hp7 hg7 (by rw [hf7, st2.flat, E2.out]) (Nat.le_trans hl7 st2.len)⟩
        case measure => simp [intOf]; omega
      · have hkn : k = K.length := by omega
        subst hkn
        have v1 : ¬ ((K.length : Int) < (K.length : Int)) := by omega
        have y0 := cell_of_block st2.blk (j := 0) rfl
        have y1 := cell_of_block st2.res (j := 0) rfl
        have y2 : wr.frozen? ⟨w.heap.size + 3, 0, none⟩ = false := by simp [World.frozen?, st2.res]
        rw [List.take_length] at st2
        go_wp2
        have hfin := set_at st2.res 0 (.slice ao2 k2 c2)
        refine bodyPost_ret (v := .agg #[.slice ao2 k2 c2]) (results_cell_row Tryz.results12 _ _ (w.heap.size + 3) 36 #[.slice ao2 k2 c2] _ _ rfl hfin Tryz.underlying36 rfl (by kernel_rfl)) rfl ?_
        exact ⟨_, T2, rfl, ⟨_, rfl, pages_set2 st2.pgs st2.res _⟩, st2.good, by rw [st2.flat, EF.out], st2.len, st2.bel.setCell (show w.heap.size ≤ w.heap.size + 3 by omega) _⟩

end Go.Proofs.YtkncamggdfmlnaaGreat

namespace Go.Proofs.YtkncamggdfmlnaaGreat
open Go.RowKit

theorem all_anyI {α : Type} {l : List α} {p : α → Bool} (h : anyI (atI l p) 0 l.length = false) : ∀ x ∈ l, p x = false := by
  intro x hx
  obtain ⟨i, hi, rfl⟩ := List.getElem_of_mem hx
  have := anyI_false h i (Nat.zero_le _) (by omega)
  rwa [atI_get (List.getElem?_eq_getElem hi)] at this
theorem nm_size {s : Wd} (h : nm s = true) : s.size ≤ 8 := by
  simp only [nm, Bool.and_eq_true, decide_eq_true_eq] at h
  exact h.1.1.2
theorem catB_facts {c : CatD} (h : catB c = true) : c.indexes.length ≤ 4 ∧ (∀ x ∈ c.indexes, x.name.size ≤ 8) ∧ ∀ t ∈ c.tables, t.name.size ≤ 8 ∧ 0 < t.cols.length ∧ t.cols.length ≤ 4 := by
  simp only [catB, Bool.and_eq_true, decide_eq_true_eq] at h
  obtain ⟨⟨⟨_, h2⟩, h3⟩, h4⟩ := h
  simp only [tabsB, idxsB, Bool.and_eq_true, Bool.not_eq_true'] at h3 h4
  refine ⟨h2, fun x hx => ?_, fun t ht => ?_⟩
  · have := all_anyI h4.1 x hx
    simp only [idxBad, Bool.or_eq_false_iff, Bool.not_eq_false'] at this
    exact nm_size this.1
  · have := all_anyI h3.1 t ht
    simp only [Bool.not_eq_false', tabB, Bool.and_eq_true, decide_eq_true_eq] at this
    obtain ⟨⟨⟨⟨h5, h6⟩, h7⟩, _⟩, _⟩ := this
    exact ⟨nm_size h5, h6, h7⟩
theorem tabOf_some {T : List TabD} {t : TabD} {s : Wd} (h : tabOf T s = some t) : t ∈ T ∧ t.name = s := by
  refine ⟨List.mem_of_find?_eq_some h, ?_⟩
  have := List.find?_some h
  exact of_decide_eq_true this
theorem dropsR_take {F : PL} {I : List IdxD} {t : TabD} {A : List (List V)} {k : Nat} {r : List V} (h : A[k]? = some r) : dropsR F I t (A.take (k + 1)) = dropRow (dropsR F I t (A.take k)) I t r := by
  rw [List.take_add_one, h, Option.toList_some, dropsR_snoc]

set_option maxRecDepth 100000 in
set_option maxHeartbeats 4000000 in
theorem planAll_out (c : CatD) (name : Wd) (cv rv : Value) (w : World) (hc : IsCat (fun k => k < w.heap.size) w c cv) (hf : fitCat c) (hrv : IsSl rv) (hno : catB c = false ∨ tabOf c.tables name = none) :
    Calls Tryz.prog 3 #[cv, .string name, rv] w fun e w' => e = .returned (.bool true) ∧ Below w.heap.size w w' := by
  obtain ⟨tv, iv, rfl, ht, hi⟩ := hc
  obtain ⟨ro, rn, rc, rfl⟩ := hrv
  obtain ⟨to', tc, rfl⟩ := ht.shape
  obtain ⟨io, ic, rfl⟩ := hi.shape
  have hb1 := bel1 w (.cells #[.slice to' c.tables.length tc, .slice io c.indexes.length ic] 25)
  have bC := block_alloc_at w (.cells #[.slice to' c.tables.length tc, .slice io c.indexes.length ic] 25)
  have HG := fun W (h : Below w.heap.size w W) => good_cat c (.agg #[.slice to' c.tables.length tc, .slice io c.indexes.length ic]) w.heap.size W ⟨_, _, rfl, ht.keep (keepsC h), hi.keep (keepsC h)⟩ h.size hf
  have HP := fun W => plans_any W
  have HF := findTable_any c.tables (.slice to' c.tables.length tc) (.slice io c.indexes.length ic) (isSl _ _ _) name w.heap.size _ (ht.keep (keepsC hb1)) hb1.size
  generalize hW : w.alloc (.cells #[.slice to' c.tables.length tc, .slice io c.indexes.length ic] 25) = W1 at hb1 bC HF
  have HW : Hid _ := hW
  clear hW
  have c0 := cell_of_block bC (j := 0) rfl
  have c1 := cell_of_block bC (j := 1) rfl
  have hno' : Hid _ := hno
  clear ht hi hf hno
  generalize catB c = gb at HG hno'
  cases gb
  · go_enter Tryz.func3, Tryz.ntmps3
    go_upto_region 1 with fail
    rw [HW.out]
    go_wp2_with (first
      | (go_at_call 4; go_fit HF; rintro e w2 ⟨nmv, so, sn, sc, th, rfl, _, hb2⟩; have hB2 : Below w.heap.size w (w2.alloc (.cells #[.string nmv, .slice so sn sc] 29)) := (hb1.trans (hb2.mono hb1.size)).alloc (hb1.trans (hb2.mono hb1.size)).size _; have bC2 := block_alloc_of ((hb2.block _ (lt_of_block bC)).trans bC) (.cells #[.string nmv, .slice so sn sc] 29); have d0 := cell_of_block bC2 (j := 0) rfl; have d1 := cell_of_block bC2 (j := 1) rfl)
      | (go_at_call 5; go_fit (HG _ hB2); rintro e w3 ⟨rfl, hb3⟩; have hB3 := hB2.trans (hb3.mono hB2.size))
      | (go_at_call 6; go_fit (HP _); rintro e w4 ⟨rfl, hb4⟩))
    go_ret
    exact ⟨rfl, hB3.trans (hb4.mono hB3.size)⟩
  · have hn : tabOf c.tables name = none := by
      rcases hno'.out with h | h
      · cases h
      · exact h
    unfold FindPost at HF
    rw [hn] at HF
    simp only at HF
    clear hn hno'
    go_enter Tryz.func3, Tryz.ntmps3
    go_upto_region 1 with fail
    rw [HW.out]
    go_wp2_with (first
      | (go_at_call 4; go_fit HF; rintro e w2 ⟨nmv, so, sn, sc, th, rfl, ⟨rfl, rfl, rfl, rfl, rfl⟩, hb2⟩; have hB2 : Below w.heap.size w (w2.alloc (.cells #[.string noW, .slice none 0 0] 29)) := (hb1.trans (hb2.mono hb1.size)).alloc (hb1.trans (hb2.mono hb1.size)).size _; have bC2 := block_alloc_of ((hb2.block _ (lt_of_block bC)).trans bC) (.cells #[.string noW, .slice none 0 0] 29); have d0 := cell_of_block bC2 (j := 0) rfl; have d1 := cell_of_block bC2 (j := 1) rfl)
      | (go_at_call 5; go_fit (HG _ hB2); rintro e w3 ⟨rfl, hb3⟩; have hB3 := hB2.trans (hb3.mono hB2.size))
      | (go_at_call 6; go_fit (HP _); rintro e w4 ⟨rfl, hb4⟩))
    go_ret
    exact ⟨rfl, hB3.trans (hb4.mono hB3.size)⟩

end Go.Proofs.YtkncamggdfmlnaaGreat

