/-
  4 texts of this proof in one, in build order: PAll2, OpenVals, Bulk, OpenL.
-/
import Derived.Test.YtkncamggdfmlnaaGreatRows
import Derived.ProofKit
import Derived.Deep.Slices
import Derived.Deep.SlicePairs
import Derived.Deep.Strs
import Derived.SizedLaws
import Derived.ChangeSame
import Derived.Test.YtkncamggdfmlnaaGreatJ07
import Derived.Test.YtkncamggdfmlnaaGreatJ14
import Derived.Test.YtkncamggdfmlnaaGreatJ15
namespace Go.Proofs.YtkncamggdfmlnaaGreat
open Go.RowKit

/-- What is told of rows that a tree has just. -/
theorem all_told {I : List IdxD} {t : TabD} {T : List Pg} {O : List (List V)} (hT : GoodT T) (h : Kept I t (flat T) O) (h0 : 0 < t.cols.length) :
    ∃ A : List (List V), A.length = O.length ∧ rowsOf t.cols.length (rng T (allLo t.name) (allHi t.name)) = A ∧ (∀ r ∈ A, fitsRow t r = true) ∧ dropsR (flat T) I t A = [] ∧ ∀ k a b, A[k]? = some a → A[k + 1]? = some b → cmpV (a.headD zero) (b.headD zero) < 0 := by
  obtain ⟨A, hl, he, hm, hr⟩ := all_rows hT h h0
  have hfit : ∀ r ∈ A, fitsRow t r = true := fun r hx => h.fit r ((hm r).1 hx)
  have hgood : ∀ r ∈ A, good (r.headD zero) = true := fun r hx => by
    obtain ⟨h1, h2⟩ := fitsRow_good (hfit r hx)
    cases r with
    | nil => simp at h1; omega
    | cons u r => exact h2 u (by simp)
  refine ⟨A, hl, he, hfit, drops_all h hm, fun k a b ha hb => ?_⟩
  have hrise : Rise (A.map (rk t)) := by
    have h1 : Rise ((rng T (allLo t.name) (allHi t.name)).map Prod.fst) := hT.rise.sublist ((List.filter_sublist).map _)
    rw [hr, List.map_map] at h1
    exact h1
  have h1 := List.pairwise_iff_getElem.1 hrise k (k + 1) (by rw [List.length_map]; have := (List.getElem?_eq_some_iff.1 hb).1; omega) (by rw [List.length_map]; exact (List.getElem?_eq_some_iff.1 hb).1) (by omega)
  obtain ⟨_, ea⟩ := List.getElem?_eq_some_iff.1 ha
  obtain ⟨_, eb⟩ := List.getElem?_eq_some_iff.1 hb
  simp only [List.getElem_map, ea, eb] at h1
  exact rk_less (hgood a (List.mem_of_getElem? ha)) (hgood b (List.mem_of_getElem? hb)) h1

theorem good_small {v : V} (h : good v = true) : v.s.size ≤ maxLen := by
  have h8 : v.s.size ≤ 8 := by
    unfold good at h
    split at h
    · simp only [Bool.and_eq_true, decide_eq_true_eq] at h; omega
    · split at h
      · simp only [Bool.and_eq_true, decide_eq_true_eq] at h; omega
      · split at h
        · simp only [Bool.and_eq_true, decide_eq_true_eq] at h; omega
        · cases h
  exact Nat.le_trans h8 (by decide)

/-- Where the first value of a row lies. -/
theorem row_first {F : Nat → Prop} {w : World} {av : Value} {A : List (List V)} (h : IsL kVals F w av A) {k : Nat} {r : List V} (hr : A[k]? = some r) (h0 : 0 < r.length) :
    ∃ b off n c b' off' c', av = .slice (some ⟨b, off, none⟩) n c ∧ b < w.heap.size ∧ b' < w.heap.size ∧ w.cell? ⟨b, off + k, none⟩ = some (.slice (some ⟨b', off', none⟩) r.length c') ∧ w.cell? ⟨b', off', none⟩ = some (.int .i64 (r.headD zero).k) ∧ w.cell? ⟨b', off' + 1, none⟩ = some (.int .i64 (r.headD zero).n) ∧ w.cell? ⟨b', off' + 2, none⟩ = some (.string (r.headD zero).s) ∧ IsVals w (.slice (some ⟨b', off', none⟩) r.length c') r := by
  obtain ⟨ao, c, rfl⟩ := h.shape
  obtain ⟨b, off, cs', rfl, _, hbl, ⟨xv, rfl, hrow⟩, hcell⟩ := isL_get h hr
  have d0 : w.cell? ⟨b, off + k, none⟩ = some xv := by have := hcell 0 _ rfl; simpa [kVals] using this
  have hv := isL_vals hrow
  obtain ⟨u, hu⟩ : ∃ u, r[0]? = some u := ⟨_, List.getElem?_eq_getElem h0⟩
  have hhd : r.headD zero = u := by rw [List.headD_eq_head?_getD, List.head?_eq_getElem?, hu]; rfl
  rcases isL_vals hrow with ⟨_, h1⟩ | ⟨b', off', cap', rfl, hb', hR⟩
  · rw [h1] at h0; simp at h0
  · obtain ⟨e0, e1, e2⟩ := hR 0 u hu
    simp only [Nat.zero_mul, Nat.add_zero] at e0 e1 e2
    rw [hhd]
    exact ⟨b, off, _, c, b', off', cap', rfl, hbl, hb', d0, e0, e1, e2, hv⟩

/-- Eight cells, in four blocks. -/
theorem cmp_cells {G W : World} {a b c o1 o2 o3 : Nat} {x0 x1 x2 x3 x4 x5 x6 : Value}
    (h : G.cell? ⟨a, o1, none⟩ = some x0 ∧ G.cell? ⟨b, o2, none⟩ = some x1 ∧ G.cell? ⟨b, o2 + 1, none⟩ = some x2 ∧ G.cell? ⟨b, o2 + 2, none⟩ = some x3 ∧ G.cell? ⟨c, o3, none⟩ = some x4 ∧ G.cell? ⟨c, o3 + 1, none⟩ = some x5 ∧ G.cell? ⟨c, o3 + 2, none⟩ = some x6) (hb : Below G.heap.size G W) (ha : a < G.heap.size) (hb' : b < G.heap.size) (hc : c < G.heap.size) :
    W.cell? ⟨a, o1, none⟩ = some x0 ∧ W.cell? ⟨b, o2, none⟩ = some x1 ∧ W.cell? ⟨b, o2 + 1, none⟩ = some x2 ∧ W.cell? ⟨b, o2 + 2, none⟩ = some x3 ∧ W.cell? ⟨c, o3, none⟩ = some x4 ∧ W.cell? ⟨c, o3 + 1, none⟩ = some x5 ∧ W.cell? ⟨c, o3 + 2, none⟩ = some x6 := by
  have k := (bcell hb).1
  obtain ⟨c0, c1, c2, c3, c4, c5, c6⟩ := h
  exact ⟨(k _ _ ha).trans c0, (k _ _ hb').trans c1, (k _ _ hb').trans c2, (k _ _ hb').trans c3, (k _ _ hc).trans c4, (k _ _ hc).trans c5, (k _ _ hc).trans c6⟩

set_option maxRecDepth 100000 in
set_option maxHeartbeats 8000000 in
theorem planAll_in (c : CatD) (t : TabD) (cv rv : Value) (rows : List (List V)) (w : World) (hc : IsCat (fun k => k < w.heap.size) w c cv) (hf : fitCat c) (hr : IsL kVals (fun k => k < w.heap.size) w rv rows) (hrs : ∀ r ∈ rows, ∀ v ∈ r, v.s.size ≤ maxLen) (hg : catB c = true) (ht : tabOf c.tables t.name = some t) :
    Calls Tryz.prog 3 #[cv, .string t.name, rv] w fun e w' => e = .returned (.bool true) ∧ Below w.heap.size w w' := by
  obtain ⟨tv, iv, rfl, htb, hi⟩ := hc
  obtain ⟨hI4, hIn, hTn⟩ := catB_facts hg
  obtain ⟨htn, hc0, hc4⟩ := hTn t (tabOf_some ht).1
  have HK0 := fun W (h : Below w.heap.size w W) sv (hl : IsL kCol (fun k => k < w.heap.size) W sv t.cols) => kept_any c.indexes t rows tv iv sv rv w.heap.size W (isL_one htb) (hi.keep (keepsC h)) hl (hr.keep (keepsC h)) h.size hI4 (fun x hx => Nat.le_trans (hIn x hx) (by decide)) (Nat.le_trans htn (by decide)) hc0 hc4 hrs
  have HD0 := fun r T pv sv xv W (h : Below w.heap.size w W) (hl : IsL kCol (fun k => k < w.heap.size) W sv t.cols) (hp : IsTree W pv T) (hgT : GoodT T) (hT : T.length ≤ 1000000) => dropRow_any c.indexes t r T pv tv iv sv xv w.heap.size W hp hgT hT (isL_one htb) (hi.keep (keepsC h)) hl h.size
  obtain ⟨ro, rc, rfl⟩ := hr.shape
  obtain ⟨to', tc, rfl⟩ := htb.shape
  obtain ⟨io, ic, rfl⟩ := hi.shape
  have hb1 := bel1 w (.cells #[.slice to' c.tables.length tc, .slice io c.indexes.length ic] 25)
  have bC := block_alloc_at w (.cells #[.slice to' c.tables.length tc, .slice io c.indexes.length ic] 25)
  have HG := fun W (h : Below w.heap.size w W) => good_cat c (.agg #[.slice to' c.tables.length tc, .slice io c.indexes.length ic]) w.heap.size W ⟨_, _, rfl, htb.keep (keepsC h), hi.keep (keepsC h)⟩ h.size hf
  rw [hg] at HG
  have HP := fun W => plans_any W
  have HF := findTable_some ht (.slice to' c.tables.length tc) (.slice io c.indexes.length ic) (isSl _ _ _) w.heap.size _ (htb.keep (keepsC hb1)) hb1.size
  have HIn : Hid _ := hIn
  have HA := fun W => all_any t.name W (Nat.le_trans htn (by decide))
  generalize hW : w.alloc (.cells #[.slice to' c.tables.length tc, .slice io c.indexes.length ic] 25) = W1 at hb1 bC HF
  have HW : Hid _ := hW
  clear hW
  have c0 := cell_of_block bC (j := 0) rfl
  have c1 := cell_of_block bC (j := 1) rfl
  have HK : Hid _ := HK0
  have HD : Hid _ := HD0
  clear htb hi hf hg ht hIn hTn hr hrs HK0 HD0
  go_enter Tryz.func3, Tryz.ntmps3
  go_upto_region 1 with fail
  rw [HW.out]
  go_wp2_with (first
    | (go_at_call 4; go_fit HF; rintro e w2 ⟨so, sn, sc, rfl, hl2, hb2⟩; obtain ⟨hsn, _⟩ := isL_len hl2; subst hsn; have hB2 : Below w.heap.size w (w2.alloc (.cells #[.string t.name, .slice so t.cols.length sc] 29)) := (hb1.trans (hb2.mono hb1.size)).alloc (hb1.trans (hb2.mono hb1.size)).size _; have bC2 := block_alloc_of ((hb2.block _ (lt_of_block bC)).trans bC) (.cells #[.string t.name, .slice so t.cols.length sc] 29); have bT2 := block_alloc_at w2 (.cells #[.string t.name, .slice so t.cols.length sc] 29); have hl2' := hl2.keep (keepsB (bel1 w2 (.cells #[.string t.name, .slice so t.cols.length sc] 29))); have d0 := cell_of_block bC2 (j := 0) rfl; have d1 := cell_of_block bC2 (j := 1) rfl)
    | (go_at_call 5; go_fit (HG _ hB2); rintro e w3 ⟨rfl, hb3⟩; have hB3 := hB2.trans (hb3.mono hB2.size); have bC3 := (hb3.block _ (lt_of_block bC2)).trans bC2; have bT3 := (hb3.block _ (lt_of_block bT2)).trans bT2; have hl3 := hl2'.keep (keepsB hb3))
    | (go_at_call 6; go_fit (HP _); rintro e w4 ⟨rfl, hb4⟩; have hB4 := hB3.trans (hb4.mono hB3.size); have bC4 := (hb4.block _ (lt_of_block bC3)).trans bC3; have bT4 := (hb4.block _ (lt_of_block bT3)).trans bT3; have hl4 := hl3.keep (keepsB hb4); have e0 := cell_of_block bC4 (j := 0) rfl; have e1 := cell_of_block bC4 (j := 1) rfl; have e2 := cell_of_block bT4 (j := 0) rfl; have e3 := cell_of_block bT4 (j := 1) rfl)
    | (go_at_call 7; go_fit (HK.out _ hB4 _ hl4); rintro e w5 ⟨ao, pk, pc, T, oo, oc, O, rfl, hp5, hg5, hk5, hl5, hb5⟩))
  have hB5 := hB4.trans (hb5.mono hB4.size)
  have tg0 : TrG w w5.heap.size [(w.heap.size, .cells #[.slice to' c.tables.length tc, .slice io c.indexes.length ic] 25), (w2.heap.size, .cells #[.string t.name, .slice so t.cols.length sc] 29)] ao pk pc T (w5.alloc (.cells #[.slice ao pk pc] 36)) := by
    have q1 := (hb5.block _ (lt_of_block bC4)).trans bC4
    have q2 := (hb5.block _ (lt_of_block bT4)).trans bT4
    refine ⟨block_alloc_at w5 _, hp5.below (bel1 _ _), hg5, ?_, hB5.alloc hB5.size _, hB5.size⟩
    intro p hp
    simp only [List.mem_cons, List.not_mem_nil, or_false] at hp
    rcases hp with rfl | rfl
    · exact ⟨block_alloc_of q1 _, Nat.ne_of_lt (lt_of_block q1)⟩
    · exact ⟨block_alloc_of q2 _, Nat.ne_of_lt (lt_of_block q2)⟩
  have hl5' := (hl4.keep (keepsB hb5)).keep (keepsB (bel1 w5 (.cells #[.slice ao pk pc] 36)))
  have hG5 : w5.heap.size < (w5.alloc (.cells #[.slice ao pk pc] 36)).heap.size := by simp
  generalize hW6 : w5.alloc (.cells #[.slice ao pk pc] 36) = W6 at tg0 hl5' hG5 ⊢
  obtain ⟨A, hAl, hAe, hAf, hAd, hAc⟩ := all_told hg5 hk5 hc0
  have HR := fun W (h : Below W6.heap.size W6 W) => rowsAll_any t.name T (.agg #[.slice ao pk pc]) so t.cols.length sc (allLo t.name) (allHi t.name) W ⟨_, rfl, tg0.pgs.below h⟩ hg5 (by omega) (kept_rng hg5 hk5 hc0 hc4)
  simp only [hAe] at HR
  have HGd := fun W (h : Below W6.heap.size W6 W) => good_yes T (.agg #[.slice ao pk pc]) W ⟨_, rfl, tg0.pgs.below h⟩ hg5
  have KS : Hid _ := fun W (h : Below W6.heap.size W6 W) => And.intro (show W.cell? ⟨w5.heap.size, 0, none⟩ = some (.slice ao pk pc) from cell_of_block (tg0.below h).blk (j := 0) rfl) (And.intro (show W.cell? ⟨w2.heap.size, 0, none⟩ = some (.string t.name) from cell_of_block (tg0.below h).snd (j := 0) rfl) (show W.cell? ⟨w2.heap.size, 1, none⟩ = some (.slice so t.cols.length sc) from cell_of_block (tg0.below h).snd (j := 1) rfl))
  have s0 := KS.out W6.drew (Below.refl _ _).drew
  have HKp : Hid _ := hk5
  have HAf : Hid _ := hAf
  have HAd : Hid _ := hAd
  have HAc : Hid _ := hAc
  have hO := hk5.len
  clear HF HG HP c0 c1 d0 d1 e0 e1 e2 e3 bC4 bT4 hp5 hk5 hAe hW6 hAf hAd hAc
  generalize allLo t.name = lo at HA HR
  generalize allHi t.name = hi at HA HR
  unfold wayV at HA HR
  generalize hOl : O.length = m at *
  have HAl : Hid _ := hAl
  clear hAl hOl
  go_region_held3 (fun W => W.cell? ⟨w5.heap.size, 0, none⟩ = some (.slice ao pk pc) ∧ W.cell? ⟨w2.heap.size, 0, none⟩ = some (.string t.name) ∧ W.cell? ⟨w2.heap.size, 1, none⟩ = some (.slice so t.cols.length sc)) (with_reducible first | exact s2 | exact s1 | exact s0)
    (first
      | (go_at_call 9; go_fit (HA _); rintro e w7 ⟨rfl, hb7⟩; have hB7 : Below W6.heap.size W6 w7 := bthen (Below.refl _ _).drew hb7; have s1 := KS.out w7 hB7)
      | (go_at_call 8; go_fit (HR _ hB7); rintro e w8 ⟨rv8, rfl, hrv8, hb8⟩; have hB8 : Below W6.heap.size W6 w8 := bthen hB7 hb8; have s2 := KS.out w8 hB8))
  obtain ⟨xo, xc, rfl⟩ := hrv8.shape
  have hq : ((A.length : Int) != (m : Int)) = false := by rw [HAl.out]; simp
  have u0 := s2.1
  have hAb : A.length ≤ 20 := by rw [HAl.out]; exact hO
  go_wp2_with (go_at_call 10; go_fit (HGd _ hB8); rintro e w9 ⟨rfl, hb9⟩)
  have tg9 := tg0.below (bthen hB8 hb9)
  have hl9 := hl5'.keep (keepsB (bthen hB8 hb9))
  have hA9 := hrv8.keep (keepsB hb9)
  have hnF : ¬ (fun k => w7.heap.size ≤ k) w5.heap.size := by have := hB7.size; simp only; omega
  have HTL : Hid (T.length ≤ 100) := hl5
  clear HR HA HGd KS s0 s1 s2 hrv8 hl5' hb9 hb8 hb7 hq
  go_loopw [56] (fun i wr => ∃ (k : Nat) (ao2 : Option Addr) (pk2 pc2 : Nat) (T2 : List Pg), k ≤ A.length ∧ i = .int .i64 k ∧ TrG w w5.heap.size [(w.heap.size, .cells #[.slice to' c.tables.length tc, .slice io c.indexes.length ic] 25), (w2.heap.size, .cells #[.string t.name, .slice so t.cols.length sc] 29)] ao2 pk2 pc2 T2 wr ∧ Hid (flat T2 = dropsR (flat T) c.indexes t (A.take k) ∧ T2.length ≤ 100) ∧ IsL kVals (fun k => w7.heap.size ≤ k) wr (.slice xo A.length xc) A ∧ IsL kCol (fun k => k < w.heap.size) wr (.slice so t.cols.length sc) t.cols) (fun i _ => A.length - (intOf i).toNat)
  case atStart => exact ⟨0, ao, pk, pc, T, Nat.zero_le _, rfl, tg9, hid ⟨rfl, HTL.out⟩, hA9, hl9⟩
  case round =>
    obtain ⟨k, ao2, pk2, pc2, T2, hk, rfl, tg, HFL, hA, hlc⟩ := hrel
    by_cases hlt : k < A.length
    · obtain ⟨r, hx⟩ : ∃ r, A[k]? = some r := ⟨_, List.getElem?_eq_getElem hlt⟩
      have hfr := fitsRow_good (HAf.out r (List.mem_of_getElem? hx))
      have hrl := hfr.1
      have hr0 : 0 < r.length := by omega
      obtain ⟨b, off, n', c', b', off', cr, hsl, hbl, hbl', d0, d1, d2, d3, hvr⟩ := row_first hA hx hr0
      cases hsl
      have HTK : Hid (dropsR (flat T) c.indexes t (A.take (k + 1)) = dropRow (dropsR (flat T) c.indexes t (A.take k)) c.indexes t r) := dropsR_take hx
      have hss : ∀ v ∈ r, v.s.size ≤ maxLen := fun v hv => good_small (hfr.2 v hv)
      have HDr := fun W (h : Below wr.heap.size wr W) => HD.out r T2 (.agg #[.slice ao2 pk2 pc2]) (.slice so t.cols.length sc) (.slice (some ⟨b', off', none⟩) r.length cr) W (tg.bel.trans (h.mono tg.bel.size)) (IsL.keep hlc (keepsB h)) ⟨_, rfl, tg.pgs.below h⟩ tg.good (by have := HFL.out.2; omega) (hvr.below h) hrl hr0 (by omega) hss (fun x hx => Nat.le_trans (HIn.out x hx) (by decide)) (Nat.le_trans htn (by decide)) (by omega)
      have y0 := cell_of_block tg.blk (j := 0) rfl
      have y1 := cell_of_block tg.fst (j := 0) rfl
      have y2 := cell_of_block tg.fst (j := 1) rfl
      have y3 := cell_of_block tg.snd (j := 0) rfl
      have y4 := cell_of_block tg.snd (j := 1) rfl
      have v0 : (0 : Int) ≤ (k : Int) := by omega
      have v1 : (k : Int) < (A.length : Int) := by omega
      have v2 : (0 : Int) < (r.length : Int) := by omega
      have HXk : Hid _ := hx
      clear hfr hss hrl hx
      rcases Nat.eq_zero_or_pos k with hk0 | hk0
      · have hq : ¬ (0 : Int) < (k : Int) := by omega
        have hqn : ¬ 0 < k := by omega
        clear hk0
        go_wp2_with fail
        go_quiet (fail)
        go_wp2_with (go_at_call 12; go_fit (HDr _ (below_drewN (Below.refl _ _) nq)); rintro e w11 ⟨pv11, T11, rfl, hp11, hg11, hf11, hl11, hb11⟩; obtain ⟨sv11, rfl, hp11⟩ := hp11; obtain ⟨ao11, c11, rfl⟩ := pages_shape hp11; have hB11 : Below wr.heap.size wr w11 := bthen (below_drewN (Below.refl _ _) nq) hb11; have tg11 := tg.below hB11; have z5 := cell_of_block tg11.blk (j := 0) rfl; have z6 : w11.frozen? ⟨w5.heap.size, 0, none⟩ = false := (by simp [World.frozen?, tg11.blk]))
        go_roundw
        case rel => exact ⟨k + 1, ao11, T11.length, c11, T11, by omega, by go_num, tg.store hB11 hp11 hg11, hid ⟨by rw [hf11, HFL.out.1, HTK.out], Nat.le_trans hl11 HFL.out.2⟩, hA.keep ((keepsB hB11).set hnF _ _), hlc.keep (keepsC ((hB11.mono tg.bel.size).setCell tg.le _))⟩
        case measure => simp [intOf]; omega
      · obtain ⟨j, hj⟩ : ∃ j, k = j + 1 := ⟨k - 1, by omega⟩
        obtain ⟨q, hxq⟩ : ∃ q, A[j]? = some q := ⟨_, List.getElem?_eq_getElem (by omega)⟩
        have hfq := fitsRow_good (HAf.out q (List.mem_of_getElem? hxq))
        have hq0 : 0 < q.length := by omega
        obtain ⟨b2, off2, n2, c2, b3, off3, c3, hsl, _, hbl3, f0, f1, f2, f3, _⟩ := row_first hA hxq hq0
        cases hsl
        have hcm : cmpV (q.headD zero) (r.headD zero) < 0 := HAc.out j q r hxq (by rw [← hj]; exact HXk.out)
        have HC := fun W => compare_any (q.headD zero) (r.headD zero) W
        generalize cmpV (q.headD zero) (r.headD zero) = cm at hcm HC
        generalize q.headD zero = qh at HC f1 f2 f3
        generalize r.headD zero = rh at HC d1 d2 d3
        obtain ⟨qk, qn, qs⟩ := qh
        obtain ⟨rk', rn', rs'⟩ := rh
        simp only [V.val] at HC
        simp only at d1 d2 d3 f1 f2 f3
        have hq : (0 : Int) < (k : Int) := by omega
        have hq2 : ¬ (0 : Int) ≤ cm := by omega
        have hj1 : IntKind.i64.wrap ((k : Int) - 1) = (j : Int) := by rw [IntKind.wrap_i64]; omega
        have w0 : (0 : Int) ≤ (j : Int) := by omega
        have w1 : (j : Int) < (A.length : Int) := by omega
        have w2' : (0 : Int) < (q.length : Int) := by omega
        have KC : Hid _ := fun W (h : Below wr.heap.size wr W) => cmp_cells (W := W) ⟨f0, f1, f2, f3, d1, d2, d3⟩ h hbl hbl3 hbl'
        have s0 := KC.out wr.drew (Below.refl _ _).drew
        clear hfq hcm hxq hj
        go_wp2_with fail
        go_region_held3 (fun W => W.cell? ⟨b, off + j, none⟩ = some (.slice (some ⟨b3, off3, none⟩) q.length c3) ∧ W.cell? ⟨b3, off3, none⟩ = some (.int .i64 qk) ∧ W.cell? ⟨b3, off3 + 1, none⟩ = some (.int .i64 qn) ∧ W.cell? ⟨b3, off3 + 2, none⟩ = some (.string qs) ∧ W.cell? ⟨b', off', none⟩ = some (.int .i64 rk') ∧ W.cell? ⟨b', off' + 1, none⟩ = some (.int .i64 rn') ∧ W.cell? ⟨b', off' + 2, none⟩ = some (.string rs')) (with_reducible first | exact s1 | exact s0)
          (first | (go_at_call 11; go_fit (HC _); rintro e w10 ⟨rfl, hb10⟩; have hB10 : Below wr.heap.size wr w10 := bthen (Below.refl _ _).drew hb10; have s1 := KC.out w10 hB10; have y5 := cell_of_block (tg.below hB10).blk (j := 0) rfl; have y6 := cell_of_block (tg.below hB10).fst (j := 0) rfl; have y7 := cell_of_block (tg.below hB10).fst (j := 1) rfl; have y8 := cell_of_block (tg.below hB10).snd (j := 0) rfl; have y9 := cell_of_block (tg.below hB10).snd (j := 1) rfl))
        go_wp2_with (go_at_call 12; go_fit (HDr _ hB10); rintro e w11 ⟨pv11, T11, rfl, hp11, hg11, hf11, hl11, hb11⟩; obtain ⟨sv11, rfl, hp11⟩ := hp11; obtain ⟨ao11, c11, rfl⟩ := pages_shape hp11; have hB11 : Below wr.heap.size wr w11 := bthen hB10 hb11; have tg11 := tg.below hB11; have z5 := cell_of_block tg11.blk (j := 0) rfl; have z6 : w11.frozen? ⟨w5.heap.size, 0, none⟩ = false := (by simp [World.frozen?, tg11.blk]))
        go_roundw
        case rel => exact ⟨k + 1, ao11, T11.length, c11, T11, by omega, by go_num, tg.store hB11 hp11 hg11, hid ⟨by rw [hf11, HFL.out.1, HTK.out], Nat.le_trans hl11 HFL.out.2⟩, hA.keep ((keepsB hB11).set hnF _ _), hlc.keep (keepsC ((hB11.mono tg.bel.size).setCell tg.le _))⟩
        case measure => simp [intOf]; omega
    · have hkn : k = A.length := by omega
      subst hkn
      have v1 : ¬ ((A.length : Int) < (A.length : Int)) := by omega
      have hz : (keysT T2).length = 0 := by rw [← length_flat tg.good.1, HFL.out.1, List.take_length, HAd.out]; rfl
      have HS := size_any T2 (.agg #[.slice ao2 pk2 pc2]) wr ⟨_, rfl, tg.pgs⟩ (by omega)
      rw [hz] at HS
      have y0 := cell_of_block tg.blk (j := 0) rfl
      clear hz
      go_wp2_with (go_at_call 13; go_fit HS; rintro e w12 ⟨rfl, hb12⟩)
      go_ret
      exact ⟨rfl, tg.bel.trans (hb12.mono tg.bel.size)⟩

end Go.Proofs.YtkncamggdfmlnaaGreat

namespace Go.Proofs.YtkncamggdfmlnaaGreat
open Go.RowKit Go.Deep

theorem cells_value : Tryz.prog.cellsOf 47 = 3 := by kernel_rfl
theorem cells_int : Tryz.prog.cellsOf 3 = 1 := by kernel_rfl
theorem cells_string : Tryz.prog.cellsOf 9 = 1 := by kernel_rfl
theorem bytes_value : Tryz.prog.bytesOf 47 = 32 := by kernel_rfl

/-- A value as data. -/
def V.datum {H : Type} (v : V) : DataW H := .agg [.lit (.int .i64 v.k), .lit (.int .i64 v.n), .lit (.string v.s.data.toList)]

theorem und_value : ∃ f0 f1 f2 : Field, Tryz.prog.underlying 47 = some (.struct #[f0, f1, f2]) ∧ f0.offset = 0 ∧ f1.offset = 1 ∧ f2.offset = 2 ∧ f0.type = 3 ∧ f1.type = 3 ∧ f2.type = 9 :=
  ⟨_, _, _, Tryz.underlying47, rfl, rfl, rfl, rfl, rfl, rfl⟩

section
variable {H : Type} {enc : TypeId × Value → H} {w : World} {base : Nat} {spare : Nat → Bool} {held : Bool}

theorem open_value {fuel : Nat} {cs : List Value} {x : DataW H × List MemPlace} (h : DataW.trod enc Tryz.prog w base spare held fuel 47 cs = some x) :
    ∃ v : V, cs = v.cells ∧ v.s.size ≤ maxLen ∧ x.1 = v.datum := by
  obtain ⟨f0, f1, f2, hu, o0, o1, o2, t0, t1, t2⟩ := und_value
  obtain ⟨y0, y1, y2, n, rfl, hl, h0, h1, h2⟩ := trod_struct3 hu h
  rw [cells_value] at hl
  rw [o0, t0, cells_int] at h0
  rw [o1, t1, cells_int] at h1
  rw [o2, t2, cells_string] at h2
  match cs, hl with
  | [c0, c1, c2], _ =>
    simp only [List.drop_zero, List.take_succ_cons, List.take_zero, List.drop_succ_cons] at h0 h1 h2
    obtain ⟨a, e0, rfl, _⟩ := DataW.trod_int Tryz.underlying3 h0
    obtain ⟨b, e1, rfl, _⟩ := DataW.trod_int Tryz.underlying3 h1
    obtain ⟨s, e2, rfl, hs⟩ := DataW.trod_string Tryz.underlying9 h2
    simp only [List.cons.injEq, and_true] at e0 e1 e2
    subst e0 e1 e2
    exact ⟨⟨a, b, s⟩, rfl, hs, rfl⟩

theorem lt_of_cell {w : World} {a : Addr} {v : Value} (h : w.cell? a = some v) : a.block < w.heap.size := by
  rcases Nat.lt_or_ge a.block w.heap.size with h' | h'
  · exact h'
  · simp [World.cell?, Array.getElem?_eq_none h'] at h

theorem open_vals {fuel : Nat} {sv : Value} {x : DataW H × List MemPlace} (h : DataW.trod enc Tryz.prog w base spare held fuel 44 [sv] = some x) :
    ∃ L : List V, IsVals w sv L ∧ (∀ v ∈ L, v.s.size ≤ maxLen) ∧ ((x.1 = .nil ∧ L = []) ∨ ∃ sp, x.1 = .slice (L.map V.datum) sp) := by
  rcases open_slice Tryz.underlying44 h with ⟨hcs, rfl⟩ | ⟨a, len, cap, m, n, D, Pl, hcs, hb, hl, hm, hmm, rfl, hx⟩
  · simp only [List.cons.injEq, and_true] at hcs
    subst hcs
    exact ⟨[], .inl ⟨⟨none, 0, rfl, fun _ => rfl⟩, rfl⟩, by simp, .inl ⟨rfl, rfl⟩⟩
  · simp only [List.cons.injEq, and_true] at hcs
    subst hcs
    have hlm : len ≤ m := by rw [hmm]; split <;> omega
    have each : ∀ i, i < len → ∃ v : V, w.cell? (a.add (i * 3)) = some (.int .i64 v.k) ∧ w.cell? (a.add (i * 3 + 1)) = some (.int .i64 v.n) ∧ w.cell? (a.add (i * 3 + 2)) = some (.string v.s) ∧ v.s.size ≤ maxLen ∧ D i = v.datum := by
      intro i hi
      obtain ⟨cs', h1, h2⟩ := hx i (by omega)
      rw [cells_value] at h1
      obtain ⟨_, hlen, hcell⟩ := World.cells?_some h1
      obtain ⟨v, rfl, hs, hd⟩ := open_value h2
      have e0 := hcell 0 (by omega)
      have e1 := hcell 1 (by omega)
      have e2 := hcell 2 (by omega)
      rw [add_add] at e0 e1 e2
      exact ⟨v, by simpa [V.cells] using e0, by simpa [V.cells] using e1, by simpa [V.cells] using e2, hs, hd⟩
    have : Inhabited V := ⟨zero⟩
    obtain ⟨f, hf⟩ := choose_lt each
    refine ⟨(List.range len).map f, ?_, ?_, .inr ⟨(List.range (m - len)).map fun j => D (len + j), ?_⟩⟩
    · rcases Nat.eq_zero_or_pos len with rfl | hpos
      · exact .inl ⟨⟨_, _, rfl, fun h => by cases h⟩, by simp⟩
      · obtain ⟨b, off, spot⟩ := a
        have hc := (hf 0 hpos).1
        have hspot : spot = none := by simpa [Addr.add] using World.cell?_spot hc
        subst hspot
        refine .inr ⟨b, off, cap, by simp, ?_, ?_⟩
        · have := lt_of_cell hc
          simpa [Addr.add] using this
        · intro i v hi
          have hil : i < len := by
            have := (List.getElem?_eq_some_iff.1 hi).1
            simpa using this
          have hv : v = f i := by
            rw [List.getElem?_map, List.getElem?_range hil] at hi
            simpa using hi.symm
          subst hv
          obtain ⟨g0, g1, g2, _⟩ := hf i hil
          rw [Addr.add_lit] at g0 g1 g2
          exact ⟨g0, by rw [Nat.add_assoc]; exact g1, by rw [Nat.add_assoc]; exact g2⟩
    · intro v hv
      obtain ⟨i, hi, rfl⟩ := List.mem_map.1 hv
      exact (hf i (List.mem_range.1 hi)).2.2.2.1
    · have e : (List.range len).map D = ((List.range len).map f).map V.datum := by
        rw [List.map_map]
        exact List.map_congr_left fun i hi => (hf i (List.mem_range.1 hi)).2.2.2.2
      show DataW.slice _ _ = _
      rw [e]

end
end Go.Proofs.YtkncamggdfmlnaaGreat

namespace Go.Proofs.YtkncamggdfmlnaaGreat

theorem bulk_pos {H : Type} (d : DataW H) : 1 ≤ Rows.uptoBulk d := by
  cases d with
  | lit l => cases l <;> simp [Rows.uptoBulk]
  | nil => simp [Rows.uptoBulk]
  | ptr d => simp [Rows.uptoBulk]
  | slice elems spare => simp [Rows.uptoBulk]
  | agg parts => simp [Rows.uptoBulk]
  | iface t d => simp [Rows.uptoBulk]
  | map entries => simp [Rows.uptoBulk]
  | held h => simp [Rows.uptoBulk]

theorem bulk_length {H : Type} (l : List (DataW H)) : l.length ≤ Rows.uptoBulkAll l := by
  induction l with
  | nil => simp [Rows.uptoBulkAll]
  | cons x r ih => have := bulk_pos x; simp only [Rows.uptoBulkAll, List.length_cons]; omega

theorem slice_bulk {H : Type} (elems spare : List (DataW H)) : elems.length ≤ Rows.uptoBulk (.slice elems spare) := by
  have h1 := bulk_length elems
  simp only [Rows.uptoBulk]
  omega

end Go.Proofs.YtkncamggdfmlnaaGreat

namespace Go.Proofs.YtkncamggdfmlnaaGreat
open Go.RowKit Go.Deep Go.ChangeShapes

section
variable {H : Type} {enc : TypeId × Value → H} {w : World} {base : Nat} {spare : Nat → Bool} {held : Bool}

theorem bulk_app (a b : List (DataW H)) : Rows.uptoBulkAll (a ++ b) = Rows.uptoBulkAll a + Rows.uptoBulkAll b := by
  induction a with
  | nil => simp [Rows.uptoBulkAll]
  | cons x r ih => simp only [List.cons_append, Rows.uptoBulkAll, ih]; omega
theorem bulk_el {D : Nat → DataW H} : ∀ (n i : Nat), i < n → Rows.uptoBulk (D i) ≤ Rows.uptoBulkAll ((List.range n).map D)
  | n + 1, i, h => by
    rw [List.range_succ, List.map_append, bulk_app]
    rcases Nat.lt_or_eq_of_le (Nat.lt_succ_iff.1 h) with h1 | h1
    · have := bulk_el (D := D) n i h1; omega
    · subst h1; simp [Rows.uptoBulkAll]
theorem all_range {α : Type} {K : Elem α} {F : Nat → Prop} {f : Nat → α} {g : Nat → List Value} : ∀ n : Nat, (∀ i, i < n → K.R F w (f i) (g i)) → All K F w ((List.range n).map f) ((List.range n).flatMap g)
  | 0, _ => rfl
  | n + 1, h => by
    rw [List.range_succ, List.map_append, List.flatMap_append]
    refine All.append (all_range n fun i hi => h i (by omega)) ?_
    have := All.one (h n (by omega))
    simpa using this
theorem flat_len {g : Nat → List Value} {s : Nat} : ∀ (n : Nat), (∀ i, i < n → (g i).length = s) → ((List.range n).flatMap g).length = n * s
  | 0, _ => by simp
  | n + 1, h => by
    rw [List.range_succ, List.flatMap_append, List.length_append, flat_len n fun i hi => h i (by omega)]
    simp [h n (by omega), Nat.add_mul]
theorem flat_get {g : Nat → List Value} {s : Nat} : ∀ (n i : Nat), (∀ i, i < n → (g i).length = s) → i < n → ∀ j, j < s → ((List.range n).flatMap g)[i * s + j]? = (g i)[j]?
  | n + 1, i, h, hi, j, hj => by
    have hl := flat_len (g := g) n fun i hi => h i (by omega)
    rw [List.range_succ, List.flatMap_append]
    rcases Nat.lt_or_eq_of_le (Nat.lt_succ_iff.1 hi) with h1 | h1
    · rw [List.getElem?_append_left (by rw [hl]; have := Nat.mul_le_mul_right s (show i + 1 ≤ n from h1); rw [Nat.add_mul] at this; omega)]
      exact flat_get n i (fun i hi => h i (by omega)) h1 j hj
    · subst h1
      rw [List.getElem?_append_right (by rw [hl]; omega), hl]
      simp

theorem open_list {α : Type} (d0 : α) (K : Elem α) (t et : TypeId) (hu : Tryz.prog.underlying t = some (.slice et)) (hc : Tryz.prog.cellsOf et = K.size) (hK : 0 < K.size) (B : Nat) (Q : α → Prop)
    (each : ∀ (fuel : Nat) (cs : List Value) (x : DataW H × List MemPlace), Rows.uptoBulk x.1 ≤ B → DataW.trod enc Tryz.prog w base spare held fuel et cs = some x → ∃ a, K.R (fun k => k < w.heap.size) w a cs ∧ Q a)
    {fuel : Nat} {sv : Value} {x : DataW H × List MemPlace} (hB : Rows.uptoBulk x.1 ≤ B) (h : DataW.trod enc Tryz.prog w base spare held fuel t [sv] = some x) :
    ∃ l : List α, IsL K (fun k => k < w.heap.size) w sv l ∧ (∀ a ∈ l, Q a) ∧ l.length ≤ Rows.uptoBulk x.1 := by
  rcases open_slice hu h with ⟨hcs, rfl⟩ | ⟨ad, len, cap, m, n5, D, Pl, hcs, hb, hlc, hm, hmm, rfl, hxx⟩
  · simp only [List.cons.injEq, and_true] at hcs
    subst hcs
    exact ⟨[], IsL.nil K _ w, by simp, Nat.zero_le _⟩
  · simp only [List.cons.injEq, and_true] at hcs
    subst hcs
    have hlm : len ≤ m := by rw [hmm]; split <;> omega
    have hbD : Rows.uptoBulkAll ((List.range len).map D) ≤ B := by simp only [Rows.uptoBulk] at hB; omega
    have hll : len ≤ Rows.uptoBulkAll ((List.range len).map D) := by have := bulk_length ((List.range len).map D); simpa using this
    have e1 : ∀ i, i < len → ∃ r : α × List Value, K.R (fun k => k < w.heap.size) w r.1 r.2 ∧ Q r.1 ∧ ∀ j u, r.2[j]? = some u → w.cell? (ad.add (i * K.size + j)) = some u := by
      intro i hi
      obtain ⟨cs', h1, h2⟩ := hxx i (by omega)
      rw [hc] at h1
      obtain ⟨_, hlen, hcell⟩ := World.cells?_some h1
      obtain ⟨a, ha, hq⟩ := each n5 cs' (D i, Pl i) (Nat.le_trans (bulk_el len i hi) hbD) h2
      refine ⟨(a, cs'), ha, hq, fun j u hj => ?_⟩
      have hjl := (List.getElem?_eq_some_iff.1 hj).1
      simp only at hjl
      have := hcell j (by omega)
      rw [add_add] at this
      rw [this]
      exact hj
    have : Inhabited (α × List Value) := ⟨(d0, [])⟩
    obtain ⟨f, hf⟩ := choose_lt e1
    refine ⟨(List.range len).map fun i => (f i).1, ⟨(List.range len).flatMap fun i => (f i).2, ?_, all_range len fun i hi => (hf i hi).1⟩, ?_, ?_⟩
    · have hle : ∀ i, i < len → (f i).2.length = K.size := fun i hi => K.len (hf i hi).1
      refine ⟨by rw [flat_len len hle]; simp, ?_⟩
      rcases Nat.eq_zero_or_pos len with rfl | hpos
      · exact .inl ⟨by simp, _, cap, rfl, fun h => by cases h⟩
      · obtain ⟨b, off, spot⟩ := ad
        obtain ⟨u0, hu0⟩ : ∃ u, (f 0).2[0]? = some u := ⟨_, List.getElem?_eq_getElem (by rw [hle 0 hpos]; exact hK)⟩
        have hc0 := (hf 0 hpos).2.2 0 u0 hu0
        have hspot : spot = none := by simpa [Addr.add] using World.cell?_spot hc0
        subst hspot
        have hlt : b < w.heap.size := by have := block_lt_of_cell hc0; simpa [Addr.add] using this
        refine .inr ⟨by simpa using hpos, b, off, cap, by simp, hlt, hlt, by simpa using hlc, hm, fun j u hj => ?_⟩
        have hjl := (List.getElem?_eq_some_iff.1 hj).1
        rw [flat_len len hle] at hjl
        have hi : j / K.size < len := Nat.div_lt_of_lt_mul (by rw [Nat.mul_comm]; exact hjl)
        have hj2 : j % K.size < K.size := Nat.mod_lt _ hK
        have ej : j / K.size * K.size + j % K.size = j := by rw [Nat.mul_comm]; exact Nat.div_add_mod j K.size
        rw [← ej, flat_get len _ hle hi _ hj2] at hj
        have := (hf _ hi).2.2 _ u hj
        rw [Addr.add_lit, ej] at this
        exact this
    · intro a ha
      obtain ⟨i, hi, rfl⟩ := List.mem_map.1 ha
      exact (hf i (List.mem_range.1 hi)).2.1
    · simp only [Rows.uptoBulk, List.length_map, List.length_range]; omega

theorem cells_slice1 : Tryz.prog.cellsOf 44 = 1 := by kernel_rfl
theorem cells_bool : Tryz.prog.cellsOf 4 = 1 := by kernel_rfl
theorem cells_col : Tryz.prog.cellsOf 55 = 3 := by kernel_rfl
theorem cells_cols : Tryz.prog.cellsOf 27 = 1 := by kernel_rfl
theorem cells_tab : Tryz.prog.cellsOf 29 = 2 := by kernel_rfl
theorem cells_tabs : Tryz.prog.cellsOf 22 = 1 := by kernel_rfl
theorem cells_idx : Tryz.prog.cellsOf 87 = 3 := by kernel_rfl
theorem cells_idxs : Tryz.prog.cellsOf 23 = 1 := by kernel_rfl
theorem cells_cat : Tryz.prog.cellsOf 25 = 2 := by kernel_rfl
theorem und_col : ∃ f0 f1 f2 : Field, Tryz.prog.underlying 55 = some (.struct #[f0, f1, f2]) ∧ f0.offset = 0 ∧ f1.offset = 1 ∧ f2.offset = 2 ∧ f0.type = 9 ∧ f1.type = 3 ∧ f2.type = 4 :=
  ⟨_, _, _, Tryz.underlying55, rfl, rfl, rfl, rfl, rfl, rfl⟩
theorem und_idx : ∃ f0 f1 f2 : Field, Tryz.prog.underlying 87 = some (.struct #[f0, f1, f2]) ∧ f0.offset = 0 ∧ f1.offset = 1 ∧ f2.offset = 2 ∧ f0.type = 9 ∧ f1.type = 9 ∧ f2.type = 9 :=
  ⟨_, _, _, Tryz.underlying87, rfl, rfl, rfl, rfl, rfl, rfl⟩
theorem und_tab : ∃ f0 f1 : Field, Tryz.prog.underlying 29 = some (.struct #[f0, f1]) ∧ f0.offset = 0 ∧ f1.offset = 1 ∧ f0.type = 9 ∧ f1.type = 27 :=
  ⟨_, _, Tryz.underlying29, rfl, rfl, rfl, rfl⟩
theorem und_cat : ∃ f0 f1 : Field, Tryz.prog.underlying 25 = some (.struct #[f0, f1]) ∧ f0.offset = 0 ∧ f1.offset = 1 ∧ f0.type = 22 ∧ f1.type = 23 :=
  ⟨_, _, Tryz.underlying25, rfl, rfl, rfl, rfl⟩

theorem open_col {fuel : Nat} {cs : List Value} {x : DataW H × List MemPlace} (h : DataW.trod enc Tryz.prog w base spare held fuel 55 cs = some x) (F : Nat → Prop) : ∃ a : ColD, kCol.R F w a cs ∧ a.name.size ≤ maxLen := by
  obtain ⟨f0, f1, f2, hu, o0, o1, o2, t0, t1, t2⟩ := und_col
  obtain ⟨y0, y1, y2, n, rfl, hl, h0, h1, h2⟩ := trod_struct3 hu h
  rw [cells_col] at hl
  rw [o0, t0, cells_string] at h0
  rw [o1, t1, cells_int] at h1
  rw [o2, t2, cells_bool] at h2
  match cs, hl with
  | [c0, c1, c2], _ =>
    simp only [List.drop_zero, List.take_succ_cons, List.take_zero, List.drop_succ_cons] at h0 h1 h2
    obtain ⟨s, e0, _, hs⟩ := DataW.trod_string Tryz.underlying9 h0
    obtain ⟨b, e1, _, _⟩ := DataW.trod_int Tryz.underlying3 h1
    obtain ⟨m, e2, _⟩ := DataW.trod_bool Tryz.underlying4 h2
    simp only [List.cons.injEq, and_true] at e0 e1 e2
    subst e0 e1 e2
    exact ⟨⟨s, b, m⟩, rfl, hs⟩

theorem open_idx {fuel : Nat} {cs : List Value} {x : DataW H × List MemPlace} (h : DataW.trod enc Tryz.prog w base spare held fuel 87 cs = some x) (F : Nat → Prop) : ∃ a : IdxD, kIdx.R F w a cs ∧ a.name.size ≤ maxLen ∧ a.table.size ≤ maxLen ∧ a.col.size ≤ maxLen := by
  obtain ⟨f0, f1, f2, hu, o0, o1, o2, t0, t1, t2⟩ := und_idx
  obtain ⟨y0, y1, y2, n, rfl, hl, h0, h1, h2⟩ := trod_struct3 hu h
  rw [cells_idx] at hl
  rw [o0, t0, cells_string] at h0
  rw [o1, t1, cells_string] at h1
  rw [o2, t2, cells_string] at h2
  match cs, hl with
  | [c0, c1, c2], _ =>
    simp only [List.drop_zero, List.take_succ_cons, List.take_zero, List.drop_succ_cons] at h0 h1 h2
    obtain ⟨s, e0, _, hs⟩ := DataW.trod_string Tryz.underlying9 h0
    obtain ⟨b, e1, _, hb⟩ := DataW.trod_string Tryz.underlying9 h1
    obtain ⟨m, e2, _, hm⟩ := DataW.trod_string Tryz.underlying9 h2
    simp only [List.cons.injEq, and_true] at e0 e1 e2
    subst e0 e1 e2
    exact ⟨⟨s, b, m⟩, rfl, hs, hb, hm⟩

theorem open_tab {fuel : Nat} {cs : List Value} {x : DataW H × List MemPlace} (h : DataW.trod enc Tryz.prog w base spare held fuel 29 cs = some x) : ∃ a : TabD, kTab.R (fun k => k < w.heap.size) w a cs ∧ fitTab a := by
  obtain ⟨f0, f1, hu, o0, o1, t0, t1⟩ := und_tab
  obtain ⟨y0, y1, n, rfl, hl, h0, h1⟩ := trod_struct2 hu h
  rw [cells_tab] at hl
  rw [o0, t0, cells_string] at h0
  rw [o1, t1, cells_cols] at h1
  match cs, hl with
  | [c0, c1], _ =>
    simp only [List.drop_zero, List.take_succ_cons, List.take_zero, List.drop_succ_cons] at h0 h1
    obtain ⟨s, e0, _, hs⟩ := DataW.trod_string Tryz.underlying9 h0
    obtain ⟨l, hl, hq, _⟩ := open_list (⟨noW, 0, false⟩ : ColD) kCol 27 55 Tryz.underlying27 cells_col (by decide) _ (fun a => a.name.size ≤ maxLen) (fun fuel cs x _ hx => open_col hx _) (Nat.le_refl _) h1
    simp only [List.cons.injEq, and_true] at e0
    subst e0
    exact ⟨⟨s, l⟩, ⟨c1, rfl, hl⟩, hs, hq⟩

theorem open_cat {fuel : Nat} {cs : List Value} {x : DataW H × List MemPlace} (h : DataW.trod enc Tryz.prog w base spare held fuel 25 cs = some x) : ∃ c : CatD, IsCat (fun k => k < w.heap.size) w c (.agg cs.toArray) ∧ fitCat c := by
  obtain ⟨f0, f1, hu, o0, o1, t0, t1⟩ := und_cat
  obtain ⟨y0, y1, n, rfl, hl, h0, h1⟩ := trod_struct2 hu h
  rw [cells_cat] at hl
  rw [o0, t0, cells_tabs] at h0
  rw [o1, t1, cells_idxs] at h1
  match cs, hl with
  | [c0, c1], _ =>
    simp only [List.drop_zero, List.take_succ_cons, List.take_zero, List.drop_succ_cons] at h0 h1
    obtain ⟨l, hl, hq, _⟩ := open_list (⟨noW, []⟩ : TabD) kTab 22 29 Tryz.underlying22 cells_tab (by decide) _ fitTab (fun fuel cs x _ hx => open_tab hx) (Nat.le_refl _) h0
    obtain ⟨m, hm, hr, _⟩ := open_list (⟨noW, noW, noW⟩ : IdxD) kIdx 23 87 Tryz.underlying23 cells_idx (by decide) _ (fun a => a.name.size ≤ maxLen ∧ a.table.size ≤ maxLen ∧ a.col.size ≤ maxLen) (fun fuel cs x _ hx => open_idx hx _) (Nat.le_refl _) h1
    exact ⟨⟨l, m⟩, ⟨c0, c1, rfl, hl, hm⟩, hq, hr⟩

/-- Rows: their texts fit, and none is long. -/
def fitRow (B : Nat) (r : List V) : Prop := (∀ v ∈ r, v.s.size ≤ maxLen) ∧ r.length ≤ B
theorem open_row {B fuel : Nat} {cs : List Value} {x : DataW H × List MemPlace} (hB : Rows.uptoBulk x.1 ≤ B) (h : DataW.trod enc Tryz.prog w base spare held fuel 44 cs = some x) : ∃ r : List V, kVals.R (fun k => k < w.heap.size) w r cs ∧ fitRow B r := by
  obtain ⟨sv, rfl⟩ : ∃ sv, cs = [sv] := by
    rcases open_slice Tryz.underlying44 h with ⟨hcs, _⟩ | ⟨ad, len, cap, m, n5, D, Pl, hcs, _⟩
    · exact ⟨_, hcs⟩
    · exact ⟨_, hcs⟩
  obtain ⟨l, hl, hq, hn⟩ := open_list zero kVal 44 47 Tryz.underlying44 cells_value (by decide) _ (fun v => v.s.size ≤ maxLen) (fun fuel cs x _ hx => by
    obtain ⟨v, h1, h2, _⟩ := open_value hx
    exact ⟨v, h1, h2⟩) (Nat.le_refl _) h
  exact ⟨l, ⟨sv, rfl, hl⟩, hq, Nat.le_trans hn hB⟩
theorem open_rows {fuel : Nat} {sv : Value} {x : DataW H × List MemPlace} (h : DataW.trod enc Tryz.prog w base spare held fuel 26 [sv] = some x) : ∃ l : List (List V), IsL kVals (fun k => k < w.heap.size) w sv l ∧ (∀ r ∈ l, fitRow (Rows.uptoBulk x.1) r) ∧ l.length ≤ Rows.uptoBulk x.1 :=
  open_list ([] : List V) kVals 26 44 Tryz.underlying26 cells_slice1 (by decide) _ (fitRow (Rows.uptoBulk x.1)) (fun fuel cs y hy hx => open_row hy hx) (Nat.le_refl _) h

end
end Go.Proofs.YtkncamggdfmlnaaGreat

