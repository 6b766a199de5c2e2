/-
  1 texts of this proof in one, in build order: YTypesW.
-/
import Derived.Test.YtabanbpnghidhaaJ14
import Derived.Test.YtabanbpnghidhaaJ15
namespace Go.Proofs.Ytabanbpnghidhaa
open Go.RowKit Go.Maps

theorem good_size {v : V} (h : good v = true) : v.s.size ≤ 8 := by
  unfold good at h
  split at h
  · simp only [Bool.and_eq_true, decide_eq_true_eq] at h; omega
  · split at h
    · simp only [Bool.and_eq_true, decide_eq_true_eq] at h; omega
    · split at h
      · simp only [Bool.and_eq_true, decide_eq_true_eq] at h; omega
      · cases h
theorem setsR_len {t : TabD} : ∀ {seen : List Wd} {l rs : List (Wd × E)}, setsR t seen l = .ok rs → rs.length = l.length
  | seen, [], rs, h => by
    simp only [setsR, Except.ok.injEq] at h
    subst h
    rfl
  | seen, x :: l, rs, h => by
    simp only [setsR] at h
    cases hx : setR t seen x with
    | error j => rw [hx] at h; cases h
    | ok r =>
      rw [hx] at h
      simp only at h
      cases hl : setsR t (seen ++ [x.1]) l with
      | error j => rw [hl] at h; cases h
      | ok rs' =>
        rw [hl] at h
        simp only [Except.ok.injEq] at h
        subst h
        simp [setsR_len hl]
/-- What a round leans on: the value, the table's columns, the column's type. -/
def TyS (w' : World) (pv pT cb o : Nat) (vk vn : Int) (vs : Wd) (cv : Value) (ty : Int) : Prop :=
  w'.cell? ⟨pv, 0, none⟩ = some (.int .i64 vk) ∧ w'.cell? ⟨pv, 1, none⟩ = some (.int .i64 vn) ∧ w'.cell? ⟨pv, 2, none⟩ = some (.string vs) ∧ w'.cell? ⟨pT, 1, none⟩ = some cv ∧ w'.cell? ⟨cb, o, none⟩ = some (.int .i64 ty)
theorem TyS.below {w w' : World} {B pv pT cb o : Nat} {vk vn : Int} {vs : Wd} {cv : Value} {ty : Int} (h : TyS w pv pT cb o vk vn vs cv ty) (hb : Below B w w') (h1 : pv < B) (h2 : pT < B) (h3 : cb < B) : TyS w' pv pT cb o vk vn vs cv ty := by
  obtain ⟨a, b, c, d, e⟩ := h
  exact ⟨(hb.cell (p := ⟨pv, 0, none⟩) h1).trans a, (hb.cell (p := ⟨pv, 1, none⟩) h1).trans b, (hb.cell (p := ⟨pv, 2, none⟩) h1).trans c, (hb.cell (p := ⟨pT, 1, none⟩) h2).trans d, (hb.cell (p := ⟨cb, o, none⟩) h3).trans e⟩

set_option maxRecDepth 100000 in
set_option maxHeartbeats 8000000 in
theorem schemaTypes_walk (ct : CatD) (cv : Value) (st : Stm) (cs : List Value) (row : List V) (rv : Value) (C : Nat) (w : World) (hc : IsCat (fun k => k < C) w ct cv) (hR : kStm.R (fun k => k < C) w st cs) (hC : C ≤ w.heap.size) (hfc : fitCat ct) (hf : FitB st)
    (hr : IsVals w rv row) (hrs : ∀ v ∈ row, v.s.size ≤ maxLen) (hrl : row.length ≤ maxLen) (hn1 : ∀ p ∈ st.sets, p.2.nodes ≤ 16777216 ∧ fitE p.2) (hn2 : st.wher.nodes ≤ 16777216 ∧ fitE st.wher) :
    Calls Try.prog 4 #[cv, .agg cs.toArray, rv] w fun r w' => r = .returned (.bool true) ∧ Below w.heap.size w w' := by
  obtain ⟨o1, c1, o2, c2, o3, c3, o4, c4, o5, c5, op, xk, xn, xs, s, nmv, n8, o6, k6, c6, o7, c7, rfl, i1, i2, i3, i4, i5, i6, i7⟩ := stm_shape hR
  obtain ⟨ro, rc, hrsh⟩ := hr.shape
  subst hrsh
  obtain ⟨tv, iv, rfl, htl, hil⟩ := hc
  have hb2 := bel2 w (.cells #[tv, iv] 25) (.cells (sA st.kind st.name st.table st.col (.slice o1 st.cols.length c1) (.slice o2 st.rows.length c2) (.slice o3 st.sets.length c3) (.slice o4 st.frm.length c4) (.slice o5 st.out.length c5) op xk xn xs s nmv n8 (.slice o6 k6 c6) (.slice o7 st.order.length c7) st.down st.n) 36)
  have B0 : ((w.alloc (.cells #[tv, iv] 25)).alloc (.cells (sA st.kind st.name st.table st.col (.slice o1 st.cols.length c1) (.slice o2 st.rows.length c2) (.slice o3 st.sets.length c3) (.slice o4 st.frm.length c4) (.slice o5 st.out.length c5) op xk xn xs s nmv n8 (.slice o6 k6 c6) (.slice o7 st.order.length c7) st.down st.n) 36)).heap[w.heap.size]? = some (.cells #[tv, iv] 25) := block_alloc_of (block_alloc_at _ _) _
  have B1 := block2 w (.cells #[tv, iv] 25) (.cells (sA st.kind st.name st.table st.col (.slice o1 st.cols.length c1) (.slice o2 st.rows.length c2) (.slice o3 st.sets.length c3) (.slice o4 st.frm.length c4) (.slice o5 st.out.length c5) op xk xn xs s nmv n8 (.slice o6 k6 c6) (.slice o7 st.order.length c7) st.down st.n) 36)
  have hCW : C ≤ ((w.alloc (.cells #[tv, iv] 25)).alloc (.cells (sA st.kind st.name st.table st.col (.slice o1 st.cols.length c1) (.slice o2 st.rows.length c2) (.slice o3 st.sets.length c3) (.slice o4 st.frm.length c4) (.slice o5 st.out.length c5) op xk xn xs s nmv n8 (.slice o6 k6 c6) (.slice o7 st.order.length c7) st.down st.n) 36)).heap.size := Nat.le_trans hC hb2.size
  have hcW : IsCat (fun k => k < C) ((w.alloc (.cells #[tv, iv] 25)).alloc (.cells (sA st.kind st.name st.table st.col (.slice o1 st.cols.length c1) (.slice o2 st.rows.length c2) (.slice o3 st.sets.length c3) (.slice o4 st.frm.length c4) (.slice o5 st.out.length c5) op xk xn xs s nmv n8 (.slice o6 k6 c6) (.slice o7 st.order.length c7) st.down st.n) 36)) ct (.agg #[tv, iv]) := ⟨tv, iv, rfl, htl.keep (keepsC (hb2.mono hC)), hil.keep (keepsC (hb2.mono hC))⟩
  have hRW := kStm.keep (keepsC (hb2.mono hC)) hR
  have HB := bindS_any ct (.agg #[tv, iv]) st (sA st.kind st.name st.table st.col (.slice o1 st.cols.length c1) (.slice o2 st.rows.length c2) (.slice o3 st.sets.length c3) (.slice o4 st.frm.length c4) (.slice o5 st.out.length c5) op xk xn xs s nmv n8 (.slice o6 k6 c6) (.slice o7 st.order.length c7) st.down st.n).toList C ((w.alloc (.cells #[tv, iv] 25)).alloc (.cells (sA st.kind st.name st.table st.col (.slice o1 st.cols.length c1) (.slice o2 st.rows.length c2) (.slice o3 st.sets.length c3) (.slice o4 st.frm.length c4) (.slice o5 st.out.length c5) op xk xn xs s nmv n8 (.slice o6 k6 c6) (.slice o7 st.order.length c7) st.down st.n) 36)) hcW hRW hCW hfc hf
  have HSc := fun W => schemas_any W
  have z0 := cell_of_block B0 (j := 0) rfl
  have z1 := cell_of_block B0 (j := 1) rfl
  have hlt0 := lt_of_block B0
  have hlt1 := lt_of_block B1
  have ab0 := cell_of_block B1 (j := 0) rfl
  have ab2 := cell_of_block B1 (j := 2) rfl
  have hsl1 := isL_one htl
  have hsl2 := isL_one hil
  rcases hbr : bindStm ct st with m | st2
  · have hm := bindStm_err hbr
    have HB2 := HB.mono (R' := fun r w' => r = .returned (.tuple #[.agg sZero, .int .i64 m]) ∧ Below ((w.alloc (.cells #[tv, iv] 25)).alloc (.cells (sA st.kind st.name st.table st.col (.slice o1 st.cols.length c1) (.slice o2 st.rows.length c2) (.slice o3 st.sets.length c3) (.slice o4 st.frm.length c4) (.slice o5 st.out.length c5) op xk xn xs s nmv n8 (.slice o6 k6 c6) (.slice o7 st.order.length c7) st.down st.n) 36)).heap.size ((w.alloc (.cells #[tv, iv] 25)).alloc (.cells (sA st.kind st.name st.table st.col (.slice o1 st.cols.length c1) (.slice o2 st.rows.length c2) (.slice o3 st.sets.length c3) (.slice o4 st.frm.length c4) (.slice o5 st.out.length c5) op xk xn xs s nmv n8 (.slice o6 k6 c6) (.slice o7 st.order.length c7) st.down st.n) 36)) w') (by
      rintro r w' ⟨⟨v, rfl, hv⟩, hb'⟩
      rw [hbr] at hv
      obtain rfl := hv
      exact ⟨rfl, hb'⟩)
    have hz : sZero.all (·.oneCell') = true := one_sA (isSl _ _ _) (isSl _ _ _) (isSl _ _ _) (isSl _ _ _) (isSl _ _ _) (isSl _ _ _) (isSl _ _ _)
    clear HB hbr hcW hRW htl hil hR i1 i2 i3 i4 i5 i6 i7 hr hn1 hn2
    rcases hm with rfl | rfl | rfl | rfl | rfl
    all_goals
      go_enter Try.func4, Try.ntmps4
      go_wp2_with (first | (go_at_call 5; refine HB2.mono ?_; rintro r w1 ⟨rfl, hb1⟩; have hnew := block_alloc_at w1 (.cells sZero 36); have hbV : Below w.heap.size w ((w1.alloc (.cells sZero 36)).setRow w1.heap.size sZero) := Below.row ((bthen hb2 hb1).alloc (bthen hb2 hb1).size _) (bthen hb2 hb1).size _) | (refine wpList_store_row rfl 36 _ _ rfl w1.heap.size sZero ?_ ?_ 36 sZero ?_ ?_ ?_ ?_ ?_; exact rfl; exact rfl; exact hnew; exact size_stm; exact rfl; exact hz) | (go_at_call 6; go_fit (HSc _); rintro e w3 ⟨rfl, hb3⟩) | (refine wpList_load_row rfl 36 _ rfl (w.heap.size + 1) ?_ 36 _ (0, 0) _ B1 Try.underlying36 ?_ ?_ ?_; exact rfl; exact rfl; exact size_stm))
      go_ret
      exact ⟨rfl, bthen hbV hb3⟩
  · have HB2 := HB.mono (R' := fun r w' => ∃ q1 d1 q2 d2 q3 d3 q4 d4 q5 d5 pop pxk pxn pxs ps pnm pn8 q6 e6 d6 q7 d7, r = .returned (.tuple #[.agg (sA st2.kind st2.name st2.table st2.col (.slice q1 st2.cols.length d1) (.slice q2 st2.rows.length d2) (.slice q3 st2.sets.length d3) (.slice q4 st2.frm.length d4) (.slice q5 st2.out.length d5) pop pxk pxn pxs ps pnm pn8 (.slice q6 e6 d6) (.slice q7 st2.order.length d7) st2.down st2.n), .int .i64 0]) ∧ IsL kSetE (fun k => k < w'.heap.size) w' (.slice q3 st2.sets.length d3) st2.sets ∧ IsE (fun k => k < w'.heap.size) w' st2.wher (.agg (eArr pop ⟨pxk, pxn, pxs⟩ ps pnm pn8 (.slice q6 e6 d6))) ∧ Below ((w.alloc (.cells #[tv, iv] 25)).alloc (.cells (sA st.kind st.name st.table st.col (.slice o1 st.cols.length c1) (.slice o2 st.rows.length c2) (.slice o3 st.sets.length c3) (.slice o4 st.frm.length c4) (.slice o5 st.out.length c5) op xk xn xs s nmv n8 (.slice o6 k6 c6) (.slice o7 st.order.length c7) st.down st.n) 36)).heap.size ((w.alloc (.cells #[tv, iv] 25)).alloc (.cells (sA st.kind st.name st.table st.col (.slice o1 st.cols.length c1) (.slice o2 st.rows.length c2) (.slice o3 st.sets.length c3) (.slice o4 st.frm.length c4) (.slice o5 st.out.length c5) op xk xn xs s nmv n8 (.slice o6 k6 c6) (.slice o7 st.order.length c7) st.down st.n) 36)) w') (by
      rintro r w' ⟨⟨v, rfl, hv⟩, hb'⟩
      rw [hbr] at hv
      obtain ⟨arr, rfl, ha1, ha2, hR2⟩ := hv
      obtain ⟨q1, d1, q2, d2, q3, d3, q4, d4, q5, d5, pop, pxk, pxn, pxs, ps, pnm, pn8, q6, e6, d6, q7, d7, harr, j1, j2, j3, j4, j5, j6, j7⟩ := stm_shape hR2
      obtain rfl := Array.toList_inj.1 harr
      exact ⟨q1, d1, q2, d2, q3, d3, q4, d4, q5, d5, pop, pxk, pxn, pxs, ps, pnm, pn8, q6, e6, d6, q7, d7, rfl, j3.mono (fun k hk _ => hk), IsE.mono (fun k hk _ => hk) _ _ j6, hb'⟩)
    clear HB hcW hRW hR i1 i2 i3 i4 i5 i6 i7
    by_cases hk6 : st.kind = 6
    rotate_left
    · have hk : (st.kind != 6) = true := by simpa using hk6
      clear hn1 hn2 hr hbr htl hil
      go_enter Try.func4, Try.ntmps4
      go_wp2_with (first | (go_at_call 5; refine HB2.mono ?_; rintro r w1 ⟨q1, d1, q2, d2, q3, d3, q4, d4, q5, d5, pop, pxk, pxn, pxs, ps, pnm, pn8, q6, e6, d6, q7, d7, rfl, hLs, hEw, hb1⟩; have hnew := block_alloc_at w1 (.cells sZero 36); have hone : (sA st2.kind st2.name st2.table st2.col (.slice q1 st2.cols.length d1) (.slice q2 st2.rows.length d2) (.slice q3 st2.sets.length d3) (.slice q4 st2.frm.length d4) (.slice q5 st2.out.length d5) pop pxk pxn pxs ps pnm pn8 (.slice q6 e6 d6) (.slice q7 st2.order.length d7) st2.down st2.n).all (·.oneCell') = true := one_sA (isSl _ _ _) (isSl _ _ _) (isSl _ _ _) (isSl _ _ _) (isSl _ _ _) (isSl _ _ _) (isSl _ _ _); have hbV0 : Below ((w.alloc (.cells #[tv, iv] 25)).alloc (.cells (sA st.kind st.name st.table st.col (.slice o1 st.cols.length c1) (.slice o2 st.rows.length c2) (.slice o3 st.sets.length c3) (.slice o4 st.frm.length c4) (.slice o5 st.out.length c5) op xk xn xs s nmv n8 (.slice o6 k6 c6) (.slice o7 st.order.length c7) st.down st.n) 36)).heap.size ((w.alloc (.cells #[tv, iv] 25)).alloc (.cells (sA st.kind st.name st.table st.col (.slice o1 st.cols.length c1) (.slice o2 st.rows.length c2) (.slice o3 st.sets.length c3) (.slice o4 st.frm.length c4) (.slice o5 st.out.length c5) op xk xn xs s nmv n8 (.slice o6 k6 c6) (.slice o7 st.order.length c7) st.down st.n) 36)) ((w1.alloc (.cells sZero 36)).setRow w1.heap.size (sA st2.kind st2.name st2.table st2.col (.slice q1 st2.cols.length d1) (.slice q2 st2.rows.length d2) (.slice q3 st2.sets.length d3) (.slice q4 st2.frm.length d4) (.slice q5 st2.out.length d5) pop pxk pxn pxs ps pnm pn8 (.slice q6 e6 d6) (.slice q7 st2.order.length d7) st2.down st2.n)) := Below.row (hb1.alloc hb1.size _) hb1.size _; have hbV := bthen hb2 hbV0; have hb1V : Below w1.heap.size w1 ((w1.alloc (.cells sZero 36)).setRow w1.heap.size (sA st2.kind st2.name st2.table st2.col (.slice q1 st2.cols.length d1) (.slice q2 st2.rows.length d2) (.slice q3 st2.sets.length d3) (.slice q4 st2.frm.length d4) (.slice q5 st2.out.length d5) pop pxk pxn pxs ps pnm pn8 (.slice q6 e6 d6) (.slice q7 st2.order.length d7) st2.down st2.n)) := Below.row (bel1 _ _) (Nat.le_refl _) _; have hbox := block_row (cells := (sA st2.kind st2.name st2.table st2.col (.slice q1 st2.cols.length d1) (.slice q2 st2.rows.length d2) (.slice q3 st2.sets.length d3) (.slice q4 st2.frm.length d4) (.slice q5 st2.out.length d5) pop pxk pxn pxs ps pnm pn8 (.slice q6 e6 d6) (.slice q7 st2.order.length d7) st2.down st2.n)) hnew; have yb0 := (hbV0.cell (p := ⟨w.heap.size + 1, 0, none⟩) hlt1).trans ab0; have yb2 := (hbV0.cell (p := ⟨w.heap.size + 1, 2, none⟩) hlt1).trans ab2; have y0 := (hbV0.cell (p := ⟨w.heap.size, 0, none⟩) hlt0).trans z0; have y1 := (hbV0.cell (p := ⟨w.heap.size, 1, none⟩) hlt0).trans z1) | (refine wpList_store_row rfl 36 _ _ rfl w1.heap.size (sA st2.kind st2.name st2.table st2.col (.slice q1 st2.cols.length d1) (.slice q2 st2.rows.length d2) (.slice q3 st2.sets.length d3) (.slice q4 st2.frm.length d4) (.slice q5 st2.out.length d5) pop pxk pxn pxs ps pnm pn8 (.slice q6 e6 d6) (.slice q7 st2.order.length d7) st2.down st2.n) ?_ ?_ 36 sZero ?_ ?_ ?_ ?_ ?_; exact rfl; exact rfl; exact hnew; exact size_stm; exact rfl; exact hone) | (go_at_call 6; go_fit (HSc _); rintro e w3 ⟨rfl, hb3⟩) | (refine wpList_load_row rfl 36 _ rfl (w.heap.size + 1) ?_ 36 _ (0, 0) _ B1 Try.underlying36 ?_ ?_ ?_; exact rfl; exact rfl; exact size_stm))
      go_ret
      exact ⟨rfl, bthen hbV hb3⟩
    obtain ⟨g1, g2, t, htab, hsets, hwh⟩ := bound_update hbr hk6
    obtain ⟨_, e2, _, _, e5⟩ := exprs_parts g2
    have HF := fun (W : World) (h : Below w.heap.size w W) => findTable_some htab tv iv hsl2 C W (htl.keep (keepsC (h.mono hC))) (Nat.le_trans hC h.size)
    have ab06 : _ = some (Value.int .i64 6) := ab0.trans (by rw [hk6]; rfl)
    clear ab0
    have ab0 := ab06
    clear ab06
    have HSE : Hid _ := hsets
    have HWH : Hid _ := hwh
    have HCT : Hid _ := cat_types g1 htab
    have HG2 : Hid (∀ p ∈ st.sets, geB 40 p.2 = true) := e2
    have HG5 : Hid (st.wher.opn ≠ 0 → geB 40 st.wher = true) := e5
    have HN1 : Hid (∀ p ∈ st.sets, p.2.nodes ≤ 16777216 ∧ fitE p.2) := hn1
    have HN2 : Hid (st.wher.nodes ≤ 16777216 ∧ fitE st.wher) := hn2
    clear htl hil hbr hk6 hsets hwh htab g1 g2 e2 e5 hn1 hn2
    go_enter Try.func4, Try.ntmps4
    go_upto_region 5 with (first | (go_at_call 5; refine HB2.mono ?_; rintro r w1 ⟨q1, d1, q2, d2, q3, d3, q4, d4, q5, d5, pop, pxk, pxn, pxs, ps, pnm, pn8, q6, e6, d6, q7, d7, rfl, hLs, hEw, hb1⟩; have hnew := block_alloc_at w1 (.cells sZero 36); have hone : (sA st2.kind st2.name st2.table st2.col (.slice q1 st2.cols.length d1) (.slice q2 st2.rows.length d2) (.slice q3 st2.sets.length d3) (.slice q4 st2.frm.length d4) (.slice q5 st2.out.length d5) pop pxk pxn pxs ps pnm pn8 (.slice q6 e6 d6) (.slice q7 st2.order.length d7) st2.down st2.n).all (·.oneCell') = true := one_sA (isSl _ _ _) (isSl _ _ _) (isSl _ _ _) (isSl _ _ _) (isSl _ _ _) (isSl _ _ _) (isSl _ _ _); have hbV0 : Below ((w.alloc (.cells #[tv, iv] 25)).alloc (.cells (sA st.kind st.name st.table st.col (.slice o1 st.cols.length c1) (.slice o2 st.rows.length c2) (.slice o3 st.sets.length c3) (.slice o4 st.frm.length c4) (.slice o5 st.out.length c5) op xk xn xs s nmv n8 (.slice o6 k6 c6) (.slice o7 st.order.length c7) st.down st.n) 36)).heap.size ((w.alloc (.cells #[tv, iv] 25)).alloc (.cells (sA st.kind st.name st.table st.col (.slice o1 st.cols.length c1) (.slice o2 st.rows.length c2) (.slice o3 st.sets.length c3) (.slice o4 st.frm.length c4) (.slice o5 st.out.length c5) op xk xn xs s nmv n8 (.slice o6 k6 c6) (.slice o7 st.order.length c7) st.down st.n) 36)) ((w1.alloc (.cells sZero 36)).setRow w1.heap.size (sA st2.kind st2.name st2.table st2.col (.slice q1 st2.cols.length d1) (.slice q2 st2.rows.length d2) (.slice q3 st2.sets.length d3) (.slice q4 st2.frm.length d4) (.slice q5 st2.out.length d5) pop pxk pxn pxs ps pnm pn8 (.slice q6 e6 d6) (.slice q7 st2.order.length d7) st2.down st2.n)) := Below.row (hb1.alloc hb1.size _) hb1.size _; have hbV := bthen hb2 hbV0; have hb1V : Below w1.heap.size w1 ((w1.alloc (.cells sZero 36)).setRow w1.heap.size (sA st2.kind st2.name st2.table st2.col (.slice q1 st2.cols.length d1) (.slice q2 st2.rows.length d2) (.slice q3 st2.sets.length d3) (.slice q4 st2.frm.length d4) (.slice q5 st2.out.length d5) pop pxk pxn pxs ps pnm pn8 (.slice q6 e6 d6) (.slice q7 st2.order.length d7) st2.down st2.n)) := Below.row (bel1 _ _) (Nat.le_refl _) _; have hbox := block_row (cells := (sA st2.kind st2.name st2.table st2.col (.slice q1 st2.cols.length d1) (.slice q2 st2.rows.length d2) (.slice q3 st2.sets.length d3) (.slice q4 st2.frm.length d4) (.slice q5 st2.out.length d5) pop pxk pxn pxs ps pnm pn8 (.slice q6 e6 d6) (.slice q7 st2.order.length d7) st2.down st2.n)) hnew; have yb0 := (hbV0.cell (p := ⟨w.heap.size + 1, 0, none⟩) hlt1).trans ab0; have yb2 := (hbV0.cell (p := ⟨w.heap.size + 1, 2, none⟩) hlt1).trans ab2; have y0 := (hbV0.cell (p := ⟨w.heap.size, 0, none⟩) hlt0).trans z0; have y1 := (hbV0.cell (p := ⟨w.heap.size, 1, none⟩) hlt0).trans z1) | (refine wpList_store_row rfl 36 _ _ rfl w1.heap.size (sA st2.kind st2.name st2.table st2.col (.slice q1 st2.cols.length d1) (.slice q2 st2.rows.length d2) (.slice q3 st2.sets.length d3) (.slice q4 st2.frm.length d4) (.slice q5 st2.out.length d5) pop pxk pxn pxs ps pnm pn8 (.slice q6 e6 d6) (.slice q7 st2.order.length d7) st2.down st2.n) ?_ ?_ 36 sZero ?_ ?_ ?_ ?_ ?_; exact rfl; exact rfl; exact hnew; exact size_stm; exact rfl; exact hone) | (go_at_call 6; go_fit (HSc _); rintro e w3 ⟨rfl, hb3⟩; have hb3w : Below w.heap.size w w3 := bthen hbV hb3; have x0 := (hb3.cell (p := ⟨w.heap.size, 0, none⟩) (Nat.lt_of_lt_of_le hlt0 hbV0.size)).trans y0; have x1 := (hb3.cell (p := ⟨w.heap.size, 1, none⟩) (Nat.lt_of_lt_of_le hlt0 hbV0.size)).trans y1; have x2 := (hb3.cell (p := ⟨w.heap.size + 1, 2, none⟩) (Nat.lt_of_lt_of_le hlt1 hbV0.size)).trans yb2; have HF1 := HF _ hb3w) | (go_at_call 8; go_fit HF1; rintro e w4 ⟨ao, nt, cc, rfl, hcL, hb4⟩) | (refine wpList_load_row rfl 36 _ rfl (w.heap.size + 1) ?_ 36 _ (0, 0) _ B1 Try.underlying36 ?_ ?_ ?_; exact rfl; exact rfl; exact size_stm))
    have hbV5 : Below ((w1.alloc (.cells sZero 36)).setRow w1.heap.size (sA st2.kind st2.name st2.table st2.col (.slice q1 st2.cols.length d1) (.slice q2 st2.rows.length d2) (.slice q3 st2.sets.length d3) (.slice q4 st2.frm.length d4) (.slice q5 st2.out.length d5) pop pxk pxn pxs ps pnm pn8 (.slice q6 e6 d6) (.slice q7 st2.order.length d7) st2.down st2.n)).heap.size ((w1.alloc (.cells sZero 36)).setRow w1.heap.size (sA st2.kind st2.name st2.table st2.col (.slice q1 st2.cols.length d1) (.slice q2 st2.rows.length d2) (.slice q3 st2.sets.length d3) (.slice q4 st2.frm.length d4) (.slice q5 st2.out.length d5) pop pxk pxn pxs ps pnm pn8 (.slice q6 e6 d6) (.slice q7 st2.order.length d7) st2.down st2.n)) (w4.alloc (.cells #[.string t.name, .slice ao nt cc] 43)) := bthen (bthen hb3 hb4) (bel1 _ _)
    have hS5 := (hbV5.block _ (lt_of_block hbox)).trans hbox
    have hT5 := block_alloc_at w4 (.cells #[.string t.name, .slice ao nt cc] 43)
    have hb15 := hb1V.trans (hbV5.mono hb1V.size)
    have hL5 := (hLs.keep (keepsC hb15)).mono (F' := fun k => k < (w4.alloc (.cells #[.string t.name, .slice ao nt cc] 43)).heap.size) (fun k hk _ => hk)
    have hE5 := IsE.mono (F' := fun k => k < (w4.alloc (.cells #[.string t.name, .slice ao nt cc] 43)).heap.size) (fun k hk _ => hk) _ _ (IsE.keep (keepsC hb15) _ _ hEw)
    have hcL5 := hcL.keep (keepsB (bel1 w4 (.cells #[.string t.name, .slice ao nt cc] 43)))
    have hbw5 := bthen hbV hbV5
    have hr5 := hr.below hbw5
    generalize w4.alloc (.cells #[.string t.name, .slice ao nt cc] 43) = W5 at hbV5 hS5 hT5 hb15 hL5 hE5 hcL5 hbw5 hr5 ⊢
    generalize w4.heap.size = pT at hT5 ⊢
    generalize w1.heap.size = pS at hS5 ⊢
    clear hbV5 hb15 hLs hEw hcL hr hbox hb3 hb4 HF HF1 hb1 hbV hbV0 hb1V yb0 yb2 y0 y1 x0 x1 x2 hb3w hnew hone HB2 HSc z0 z1 ab0 ab2 hlt0 hlt1 B0 B1 hb2 hCW
    have HFit := keepFits_any t row (.slice ao nt cc) (.slice ro row.length rc) C W5 hcL5 hr5 hrs
    have p0 := cell_of_block hT5 (j := 0) rfl
    have p1 := cell_of_block hT5 (j := 1) rfl
    cases hfit : fitsRow t row
    · rw [hfit] at HFit
      go_wp2_with (go_at_call 10; go_fit HFit; rintro e w6 ⟨rfl, hb6⟩)
      go_ret
      exact ⟨rfl, hbw5.trans (hb6.mono hbw5.size)⟩
    rw [hfit] at HFit
    have HRO : Hid (RowOf t.cols row) := fitsRow_of hfit
    clear hfit
    have hltT := lt_of_block hT5
    have hltS := lt_of_block hS5
    go_wp2_with (go_at_call 10; go_fit HFit; rintro e w6 ⟨rfl, hb6⟩; have sv6 := cell_of_block ((hb6.block _ hltS).trans hS5) (j := 6) rfl)
    have hS6 := (hb6.block _ hltS).trans hS5
    have hT6 := (hb6.block _ hltT).trans hT5
    have hL6 := (hL5.keep (keepsC hb6)).mono (F' := fun k => k < w6.heap.size) (fun k hk _ => hk)
    have hE6 := IsE.mono (F' := fun k => k < w6.heap.size) (fun k hk _ => hk) _ _ (IsE.keep (keepsC hb6) _ _ hE5)
    have hcL6 := hcL5.keep (keepsB hb6)
    have hr6 := hr5.below hb6
    have hbw6 := hbw5.trans (hb6.mono hbw5.size)
    have hltT6 := lt_of_block hT6
    have hltS6 := lt_of_block hS6
    have hC6 : C ≤ w6.heap.size := Nat.le_trans hC hbw6.size
    clear hS5 hT5 hL5 hE5 hcL5 hr5 hbw5 hb6 HFit p0 p1 hltT hltS sv6
    have hln : st2.sets.length ≤ 16777216 := by rw [setsR_len HSE.out]; exact hf.sets
    go_loopw [48] (fun i wr => ∃ j : Nat, j ≤ st2.sets.length ∧ i = .int .i64 j ∧ Below w6.heap.size w6 wr) (fun i _ => st2.sets.length - (intOf i).toNat)
    case atStart => exact ⟨0, Nat.zero_le _, rfl, Below.refl _ _⟩
    case round =>
      obtain ⟨j, hj, rfl, hbel⟩ := hrel
      by_cases hjl : j < st2.sets.length
      · obtain ⟨⟨cw, e'⟩, hq⟩ : ∃ q, st2.sets[j]? = some q := ⟨_, List.getElem?_eq_getElem hjl⟩
        obtain ⟨p, hp, _, hk0, has⟩ := setsR_mem HSE.out (cw, e') (List.mem_of_getElem? hq)
        obtain ⟨hty, hnod, hfe⟩ := asR_sound HRO.out has (HG2.out p hp)
        have hN := HN1.out p hp
        simp only at hk0 hty hnod hfe
        obtain ⟨kk, ⟨cn, cty, cm⟩, hk1, hk2, _⟩ : ∃ (k : Nat) (x : ColD), colAt t.cols cw = (k : Int) ∧ t.cols[k]? = some x ∧ x.name = cw := by
          rcases colAt_cases t.cols cw with h | h
          · rw [h] at hk0; omega
          · exact h
        have hct := HCT.out _ (List.mem_of_getElem? hk2)
        rw [show tyAt t.cols cw = cty by unfold tyAt; rw [hk1]; simp [hk2]] at hty
        simp only at hct
        obtain ⟨b, off, cs, rfl, hbC, hb, ⟨d8, rfl, hd8, hRE⟩, hcell⟩ := isL_get (hL6.keep (keepsC hbel)) hq
        obtain ⟨op', ⟨xk', xn', xs'⟩, s', name', n', ao', k', c', hq8, _⟩ := e_shape hRE
        obtain rfl : d8 = [.int .i64 op', .int .i64 xk', .int .i64 xn', .string xs', .string s', .string name', .int .i64 n', .slice ao' k' c'] := by have := congrArg Array.toList (Value.agg.inj hq8); simpa using this
        have hnt := (isL_len hcL6).1
        subst hnt
        obtain ⟨cb, cof, ccs, rfl, hcbC, hcb, hcR, hccell⟩ := isL_get (hcL6.keep (keepsB hbel)) hk2
        obtain rfl := hcR
        have c1' := hccell 1 _ rfl
        have d0 := hcell 0 _ rfl
        have d1 := hcell 1 _ rfl
        have d2 := hcell 2 _ rfl
        have d3 := hcell 3 _ rfl
        have d4 := hcell 4 _ rfl
        have d5 := hcell 5 _ rfl
        have d6 := hcell 6 _ rfl
        have d7 := hcell 7 _ rfl
        have d8 := hcell 8 _ rfl
        simp only [kSetE, kCol, Nat.add_zero] at c1' d0 d1 d2 d3 d4 d5 d6 d7 d8
        have j0 : (0 : Int) ≤ (j : Int) := by omega
        have j1 : (j : Int) < (st2.sets.length : Int) := by omega
        have HJ : Hid (j + 1 ≤ st2.sets.length) := hjl
        have k0 : (0 : Int) ≤ (kk : Int) := by omega
        have k1 : (kk : Int) < (t.cols.length : Int) := by have := (List.getElem?_eq_some_iff.1 hk2).1; omega
        have k2 : ¬ ((kk : Int) < 0) := by omega
        have hbx := bel1 wr (.cells (setArr cw op' xk' xn' xs' s' name' n' (.slice ao' k' c')) 51)
        have hTr := (hbel.block _ hltT6).trans hT6
        have hltTr := lt_of_block hTr
        have hTx := (hbx.block _ hltTr).trans hTr
        have p0 := cell_of_block hTx (j := 0) rfl
        have p1 := cell_of_block hTx (j := 1) rfl
        have HFc := findCol_any t.cols t.name (.slice (some ⟨cb, cof, none⟩) t.cols.length cc) cw C _ ((hcL6.keep (keepsB hbel)).keep (keepsB hbx)) (Nat.le_trans (Nat.le_trans hC6 hbel.size) hbx.size)
        rw [hk1] at HFc
        have HEv := fun (W : World) (h : Below wr.heap.size wr W) => eval_any e' (.agg (eArr op' ⟨xk', xn', xs'⟩ s' name' n' (.slice ao' k' c'))) (.slice ro row.length rc) row w6.heap.size W (IsE.keep (keepsC (h.mono hbel.size)) _ _ hRE) (Nat.le_trans hbel.size h.size) (by rw [hnod]; exact hN.1) (hfe hN.2) ((hr6.below hbel).below h) hrs hrl
        have HGd := fun W (hs : (ev row e').s.size ≤ maxLen) => good_any (ev row e') W hs
        generalize ev row e' = v at HEv HGd hty
        obtain ⟨vk, vn, vs⟩ := v
        simp only [V.val, OfTy] at HEv HGd hty
        have hgv : good ⟨vk, vn, vs⟩ = true := hty.2 (by rcases hty.1 with h | h <;> rcases hct with h2 | h2 <;> omega)
        have hvs : vs.size ≤ maxLen := by have := good_size hgv; exact Nat.le_trans this (by decide)
        have HGd2 : ∀ W : World, Calls Try.prog 13 #[.agg #[.int .i64 vk, .int .i64 vn, .string vs]] W fun e w' => e = .returned (.bool true) ∧ Below W.heap.size W w' := fun W => (HGd W hvs).mono fun e w' ⟨h1, h2⟩ => ⟨by rw [h1, hgv], by rw [h2]; exact bel1 _ _⟩
        have hv2 := hty.1
        clear HGd hgv hvs hty hq8 hd8 hRE hcell hccell hk1 hk2 hq hp has hnod hfe hN hk0 hL6 hE6 hcL6 hr6 HSE HWH HG2 HG5 HN1 HN2 HRO HCT
        rcases hv2 with rfl | rfl
        · go_wp2_with (first | (go_at_call 11; go_fit HFc; rintro e w7 ⟨rfl, hb7⟩; have hb7' := bthen hbx hb7; have HEv1 := HEv _ hb7'; have hX := (hb7.block _ (show wr.heap.size < _ by simp)).trans (block_alloc_at wr _); have m1 := cell_of_block hX (j := 1) rfl; have m2 := cell_of_block hX (j := 2) rfl; have m3 := cell_of_block hX (j := 3) rfl; have m4 := cell_of_block hX (j := 4) rfl; have m5 := cell_of_block hX (j := 5) rfl; have m6 := cell_of_block hX (j := 6) rfl; have m7 := cell_of_block hX (j := 7) rfl; have m8 := cell_of_block hX (j := 8) rfl) | (go_at_call 12; go_fit HEv1; rintro e w8 ⟨rfl, hb8⟩))
          have hb78 := bthen hb7' hb8
          have hT8 := (hb78.block _ hltTr).trans hTr
          have hbz := bel1 w8 (.cells #[.int .i64 0, .int .i64 vn, .string vs] 32)
          have S0 : TyS (w8.alloc (.cells #[.int .i64 0, .int .i64 vn, .string vs] 32)).drew w8.heap.size pT cb (cof + kk * 3 + 1) 0 vn vs (.slice (some ⟨cb, cof, none⟩) t.cols.length cc) cty := ⟨cell_of_block (block_alloc_at w8 _) rfl, cell_of_block (block_alloc_at w8 _) rfl, cell_of_block (block_alloc_at w8 _) rfl, cell_of_block ((hbz.block _ (lt_of_block hT8)).trans hT8) rfl, (hbz.cell (p := ⟨cb, cof + kk * 3 + 1, none⟩) (Nat.lt_of_lt_of_le hcb hb78.size)).trans ((hb78.cell (p := ⟨cb, cof + kk * 3 + 1, none⟩) hcb).trans c1')⟩
          have hlt8 := lt_of_block hT8
          refine wp_region_held_drew (S := (fun W' => TyS W' w8.heap.size pT cb (cof + kk * 3 + 1) 0 vn vs (.slice (some ⟨cb, cof, none⟩) t.cols.length cc) cty)) (by kernel_rfl) ?_ (fun hHeld => ?_)
          · exact S0
          refine wpAnyH_take (i := 0) (oi := { dst := some 60, op := Go.Op.move (Go.Operand.tmp 13), type := 3, pos := "keep.go:173", after := #[], guard := none }) (v := ?_) rfl (by kernel_rfl) (by kernel_rfl) (by kernel_rfl) (fun _ _ _ h => h) (Or.inl ⟨by rfl, ?_⟩) (by assumption) ?_
          rotate_left
          · intro W' hSw; obtain ⟨s0, s1, s2, s3, s4⟩ := hSw; go_simp; all_goals (with_reducible rfl)
          try simp only [Act.put, List.setIfInBounds_toArray, List.set_cons_zero, List.set_cons_succ]
          refine wpAnyH_take (i := 1) (oi := { dst := some 61, op := Go.Op.binOp Go.BinOp.lss 3 (Go.Operand.tmp 60) (Go.Operand.const (Go.Value.int Go.IntKind.i64 0)) 3, type := 4, pos := "keep.go:173", after := #[{ on := 0, ground := Go.Ground.data }], guard := none }) (v := ?_) rfl (by kernel_rfl) (by kernel_rfl) (by kernel_rfl) (fun _ _ _ h => h) (Or.inl ⟨by rfl, ?_⟩) (by assumption) ?_
          rotate_left
          · intro W' hSw; obtain ⟨s0, s1, s2, s3, s4⟩ := hSw; go_simp; all_goals (with_reducible rfl)
          try simp only [Act.put, List.setIfInBounds_toArray, List.set_cons_zero, List.set_cons_succ]
          refine wpAnyH_take (i := 2) (oi := { dst := some 62, op := Go.Op.move (Go.Operand.tmp 61), type := 4, pos := "keep.go:173", after := #[{ on := 1, ground := Go.Ground.data }], guard := none }) (v := ?_) rfl (by kernel_rfl) (by kernel_rfl) (by kernel_rfl) (fun _ _ _ h => h) (Or.inl ⟨by rfl, ?_⟩) (by assumption) ?_
          rotate_left
          · intro W' hSw; obtain ⟨s0, s1, s2, s3, s4⟩ := hSw; go_simp; all_goals (with_reducible rfl)
          try simp only [Act.put, List.setIfInBounds_toArray, List.set_cons_zero, List.set_cons_succ]
          refine wpAnyH_take (i := 3) (oi := { dst := some 63, op := Go.Op.load 32 (Go.Operand.tmp 14), type := 32, pos := "keep.go:173", after := #[{ on := 2, ground := Go.Ground.guard }], guard := some (2, false) }) (v := ?_) rfl (by kernel_rfl) (by kernel_rfl) (by kernel_rfl) (fun _ _ _ h => h) (Or.inl ⟨by rfl, ?_⟩) (by assumption) ?_
          rotate_left
          · intro W' hSw; obtain ⟨s0, s1, s2, s3, s4⟩ := hSw; go_simp; all_goals (with_reducible rfl)
          try simp only [Act.put, List.setIfInBounds_toArray, List.set_cons_zero, List.set_cons_succ]
          refine wpAnyH_ready (rs := [4]) (by kernel_rfl) (by simp) ?_
          refine AllReadyH.cons (o := { dst := some 64, op := Go.Op.call { callee := Go.Callee.value (Go.Operand.func 13), args := #[Go.Operand.tmp 63], argTypes := #[32] }, type := 4, pos := "keep.go:173", after := #[{ on := 3, ground := Go.Ground.data }, { on := 2, ground := Go.Ground.chain }, { on := 2, ground := Go.Ground.guard }], guard := some (2, false) }) rfl (fun K hK => ?_) AllReadyH.nil
          go_simp
          (go_at_call 13; go_fit (HGd2 _); rintro e w9 ⟨rfl, hb9⟩; have S9 := S0.below hb9 (by simp [World.drew]) (by simp [World.drew]; omega) (by have := hb78.size; simp [World.drew]; omega))
          go_wp2_with fail
          refine hK.out _ _ ?_ (fun hHeld => ?_)
          · exact S9
          clear hK K
          try simp only [Act.put, List.setIfInBounds_toArray, List.set_cons_zero, List.set_cons_succ]
          refine wpAnyH_take (i := 5) (oi := { dst := some 65, op := Go.Op.unOp Go.UnOp.not 4 (Go.Operand.tmp 64), type := 4, pos := "keep.go:173", after := #[{ on := 4, ground := Go.Ground.data }, { on := 2, ground := Go.Ground.guard }], guard := some (2, false) }) (v := ?_) rfl (by kernel_rfl) (by kernel_rfl) (by kernel_rfl) (fun _ _ _ h => h) (Or.inl ⟨by rfl, ?_⟩) (by assumption) ?_
          rotate_left
          · intro W' hSw; obtain ⟨s0, s1, s2, s3, s4⟩ := hSw; go_simp; all_goals (with_reducible rfl)
          try simp only [Act.put, List.setIfInBounds_toArray, List.set_cons_zero, List.set_cons_succ]
          refine wpAnyH_take (i := 6) (oi := { dst := some 66, op := Go.Op.pick (Go.Operand.tmp 62) (Go.Operand.const (Go.Value.bool true)) (Go.Operand.tmp 65), type := 4, pos := "keep.go:173", after := #[{ on := 2, ground := Go.Ground.data }, { on := 5, ground := Go.Ground.data }], guard := none }) (v := ?_) rfl (by kernel_rfl) (by kernel_rfl) (by kernel_rfl) (fun _ _ _ h => h) (Or.inl ⟨by rfl, ?_⟩) (by assumption) ?_
          rotate_left
          · intro W' hSw; obtain ⟨s0, s1, s2, s3, s4⟩ := hSw; go_simp; all_goals (with_reducible rfl)
          try simp only [Act.put, List.setIfInBounds_toArray, List.set_cons_zero, List.set_cons_succ]
          refine wpAnyH_take (i := 7) (oi := { dst := some 67, op := Go.Op.move (Go.Operand.tmp 66), type := 4, pos := "keep.go:173", after := #[{ on := 6, ground := Go.Ground.data }, { on := 4, ground := Go.Ground.chain }], guard := none }) (v := ?_) rfl (by kernel_rfl) (by kernel_rfl) (by kernel_rfl) (fun _ _ _ h => h) (Or.inl ⟨by rfl, ?_⟩) (by assumption) ?_
          rotate_left
          · intro W' hSw; obtain ⟨s0, s1, s2, s3, s4⟩ := hSw; go_simp; all_goals (with_reducible rfl)
          try simp only [Act.put, List.setIfInBounds_toArray, List.set_cons_zero, List.set_cons_succ]
          refine wpAnyH_take (i := 8) (oi := { dst := some 68, op := Go.Op.fieldAddr 32 (Go.Operand.tmp 14) 0, type := 0, pos := "keep.go:173", after := #[{ on := 7, ground := Go.Ground.guard }], guard := some (7, false) }) (v := ?_) rfl (by kernel_rfl) (by kernel_rfl) (by kernel_rfl) (fun _ _ _ h => h) (Or.inl ⟨by rfl, ?_⟩) (by assumption) ?_
          rotate_left
          · intro W' hSw; obtain ⟨s0, s1, s2, s3, s4⟩ := hSw; go_simp; all_goals (with_reducible rfl)
          try simp only [Act.put, List.setIfInBounds_toArray, List.set_cons_zero, List.set_cons_succ]
          refine wpAnyH_take (i := 9) (oi := { dst := some 69, op := Go.Op.load 3 (Go.Operand.tmp 68), type := 3, pos := "keep.go:173", after := #[{ on := 8, ground := Go.Ground.data }, { on := 7, ground := Go.Ground.guard }], guard := some (7, false) }) (v := ?_) rfl (by kernel_rfl) (by kernel_rfl) (by kernel_rfl) (fun _ _ _ h => h) (Or.inl ⟨by rfl, ?_⟩) (by assumption) ?_
          rotate_left
          · intro W' hSw; obtain ⟨s0, s1, s2, s3, s4⟩ := hSw; go_simp; all_goals (with_reducible rfl)
          try simp only [Act.put, List.setIfInBounds_toArray, List.set_cons_zero, List.set_cons_succ]
          refine wpAnyH_take (i := 10) (oi := { dst := some 70, op := Go.Op.binOp Go.BinOp.neq 3 (Go.Operand.tmp 69) (Go.Operand.const (Go.Value.int Go.IntKind.i64 0)) 3, type := 4, pos := "keep.go:173", after := #[{ on := 9, ground := Go.Ground.data }, { on := 7, ground := Go.Ground.guard }], guard := some (7, false) }) (v := ?_) rfl (by kernel_rfl) (by kernel_rfl) (by kernel_rfl) (fun _ _ _ h => h) (Or.inl ⟨by rfl, ?_⟩) (by assumption) ?_
          rotate_left
          · intro W' hSw; obtain ⟨s0, s1, s2, s3, s4⟩ := hSw; go_simp; all_goals (with_reducible rfl)
          try simp only [Act.put, List.setIfInBounds_toArray, List.set_cons_zero, List.set_cons_succ]
          refine wpAnyH_take (i := 11) (oi := { dst := some 71, op := Go.Op.move (Go.Operand.tmp 70), type := 4, pos := "keep.go:173", after := #[{ on := 10, ground := Go.Ground.data }, { on := 7, ground := Go.Ground.chain }, { on := 7, ground := Go.Ground.guard }], guard := some (7, false) }) (v := ?_) rfl (by kernel_rfl) (by kernel_rfl) (by kernel_rfl) (fun _ _ _ h => h) (Or.inl ⟨by rfl, ?_⟩) (by assumption) ?_
          rotate_left
          · intro W' hSw; obtain ⟨s0, s1, s2, s3, s4⟩ := hSw; go_simp; all_goals (with_reducible rfl)
          try simp only [Act.put, List.setIfInBounds_toArray, List.set_cons_zero, List.set_cons_succ]
          refine wpAnyH_take (i := 12) (oi := { dst := some 72, op := Go.Op.fieldAddr 32 (Go.Operand.tmp 14) 0, type := 0, pos := "keep.go:173", after := #[{ on := 11, ground := Go.Ground.guard }], guard := some (11, true) }) (v := undef) rfl (by kernel_rfl) (by kernel_rfl) (by kernel_rfl) (fun _ _ _ h => h) (Or.inr ⟨by rfl, rfl⟩) (by assumption) ?_
          try simp only [Act.put, List.setIfInBounds_toArray, List.set_cons_zero, List.set_cons_succ]
          refine wpAnyH_take (i := 13) (oi := { dst := some 73, op := Go.Op.load 3 (Go.Operand.tmp 72), type := 3, pos := "keep.go:173", after := #[{ on := 12, ground := Go.Ground.data }, { on := 11, ground := Go.Ground.guard }], guard := some (11, true) }) (v := undef) rfl (by kernel_rfl) (by kernel_rfl) (by kernel_rfl) (fun _ _ _ h => h) (Or.inr ⟨by rfl, rfl⟩) (by assumption) ?_
          try simp only [Act.put, List.setIfInBounds_toArray, List.set_cons_zero, List.set_cons_succ]
          refine wpAnyH_take (i := 14) (oi := { dst := some 74, op := Go.Op.fieldAddr 43 (Go.Operand.tmp 9) 1, type := 0, pos := "keep.go:173", after := #[{ on := 11, ground := Go.Ground.guard }], guard := some (11, true) }) (v := undef) rfl (by kernel_rfl) (by kernel_rfl) (by kernel_rfl) (fun _ _ _ h => h) (Or.inr ⟨by rfl, rfl⟩) (by assumption) ?_
          try simp only [Act.put, List.setIfInBounds_toArray, List.set_cons_zero, List.set_cons_succ]
          refine wpAnyH_take (i := 15) (oi := { dst := some 75, op := Go.Op.load 26 (Go.Operand.tmp 74), type := 26, pos := "keep.go:173", after := #[{ on := 14, ground := Go.Ground.data }, { on := 11, ground := Go.Ground.guard }], guard := some (11, true) }) (v := undef) rfl (by kernel_rfl) (by kernel_rfl) (by kernel_rfl) (fun _ _ _ h => h) (Or.inr ⟨by rfl, rfl⟩) (by assumption) ?_
          try simp only [Act.put, List.setIfInBounds_toArray, List.set_cons_zero, List.set_cons_succ]
          refine wpAnyH_take (i := 16) (oi := { dst := some 76, op := Go.Op.move (Go.Operand.tmp 13), type := 3, pos := "keep.go:173", after := #[{ on := 11, ground := Go.Ground.guard }], guard := some (11, true) }) (v := undef) rfl (by kernel_rfl) (by kernel_rfl) (by kernel_rfl) (fun _ _ _ h => h) (Or.inr ⟨by rfl, rfl⟩) (by assumption) ?_
          try simp only [Act.put, List.setIfInBounds_toArray, List.set_cons_zero, List.set_cons_succ]
          refine wpAnyH_take (i := 17) (oi := { dst := some 77, op := Go.Op.indexAddr 26 (Go.Operand.tmp 75) (Go.Operand.tmp 76), type := 0, pos := "keep.go:173", after := #[{ on := 15, ground := Go.Ground.data }, { on := 16, ground := Go.Ground.data }, { on := 11, ground := Go.Ground.guard }], guard := some (11, true) }) (v := undef) rfl (by kernel_rfl) (by kernel_rfl) (by kernel_rfl) (fun _ _ _ h => h) (Or.inr ⟨by rfl, rfl⟩) (by assumption) ?_
          try simp only [Act.put, List.setIfInBounds_toArray, List.set_cons_zero, List.set_cons_succ]
          refine wpAnyH_take (i := 18) (oi := { dst := some 78, op := Go.Op.fieldAddr 56 (Go.Operand.tmp 77) 1, type := 0, pos := "keep.go:173", after := #[{ on := 17, ground := Go.Ground.data }, { on := 11, ground := Go.Ground.guard }], guard := some (11, true) }) (v := undef) rfl (by kernel_rfl) (by kernel_rfl) (by kernel_rfl) (fun _ _ _ h => h) (Or.inr ⟨by rfl, rfl⟩) (by assumption) ?_
          try simp only [Act.put, List.setIfInBounds_toArray, List.set_cons_zero, List.set_cons_succ]
          refine wpAnyH_take (i := 19) (oi := { dst := some 79, op := Go.Op.load 3 (Go.Operand.tmp 78), type := 3, pos := "keep.go:173", after := #[{ on := 18, ground := Go.Ground.data }, { on := 11, ground := Go.Ground.guard }], guard := some (11, true) }) (v := undef) rfl (by kernel_rfl) (by kernel_rfl) (by kernel_rfl) (fun _ _ _ h => h) (Or.inr ⟨by rfl, rfl⟩) (by assumption) ?_
          try simp only [Act.put, List.setIfInBounds_toArray, List.set_cons_zero, List.set_cons_succ]
          refine wpAnyH_take (i := 20) (oi := { dst := some 80, op := Go.Op.binOp Go.BinOp.neq 3 (Go.Operand.tmp 73) (Go.Operand.tmp 79) 3, type := 4, pos := "keep.go:173", after := #[{ on := 13, ground := Go.Ground.data }, { on := 19, ground := Go.Ground.data }, { on := 11, ground := Go.Ground.guard }], guard := some (11, true) }) (v := undef) rfl (by kernel_rfl) (by kernel_rfl) (by kernel_rfl) (fun _ _ _ h => h) (Or.inr ⟨by rfl, rfl⟩) (by assumption) ?_
          try simp only [Act.put, List.setIfInBounds_toArray, List.set_cons_zero, List.set_cons_succ]
          refine wpAnyH_take (i := 21) (oi := { dst := some 81, op := Go.Op.pick (Go.Operand.tmp 71) (Go.Operand.tmp 80) (Go.Operand.const (Go.Value.bool false)), type := 4, pos := "keep.go:173", after := #[{ on := 11, ground := Go.Ground.data }, { on := 20, ground := Go.Ground.data }, { on := 7, ground := Go.Ground.guard }], guard := some (7, false) }) (v := ?_) rfl (by kernel_rfl) (by kernel_rfl) (by kernel_rfl) (fun _ _ _ h => h) (Or.inl ⟨by rfl, ?_⟩) (by assumption) ?_
          rotate_left
          · intro W' hSw; obtain ⟨s0, s1, s2, s3, s4⟩ := hSw; go_simp; all_goals (with_reducible rfl)
          try simp only [Act.put, List.setIfInBounds_toArray, List.set_cons_zero, List.set_cons_succ]
          refine wpAnyH_take (i := 22) (oi := { dst := some 82, op := Go.Op.pick (Go.Operand.tmp 67) (Go.Operand.const (Go.Value.bool true)) (Go.Operand.tmp 81), type := 4, pos := "keep.go:173", after := #[{ on := 7, ground := Go.Ground.data }, { on := 21, ground := Go.Ground.data }], guard := none }) (v := ?_) rfl (by kernel_rfl) (by kernel_rfl) (by kernel_rfl) (fun _ _ _ h => h) (Or.inl ⟨by rfl, ?_⟩) (by assumption) ?_
          rotate_left
          · intro W' hSw; obtain ⟨s0, s1, s2, s3, s4⟩ := hSw; go_simp; all_goals (with_reducible rfl)
          try simp only [Act.put, List.setIfInBounds_toArray, List.set_cons_zero, List.set_cons_succ]
          refine wpAnyH_done (by kernel_rfl) ?_ _
          go_wp2_with fail
          go_roundw
          case rel => exact ⟨j + 1, HJ.out, by go_num, (hbel.trans (hb78.mono hbel.size)).trans (((hbz.drew).trans (hb9.mono hbz.size)).mono (Nat.le_trans hbel.size hb78.size))⟩
          case measure => have := HJ.out; simp [intOf]; omega
        · rcases hct with rfl | rfl
          · go_wp2_with (first | (go_at_call 11; go_fit HFc; rintro e w7 ⟨rfl, hb7⟩; have hb7' := bthen hbx hb7; have HEv1 := HEv _ hb7'; have hX := (hb7.block _ (show wr.heap.size < _ by simp)).trans (block_alloc_at wr _); have m1 := cell_of_block hX (j := 1) rfl; have m2 := cell_of_block hX (j := 2) rfl; have m3 := cell_of_block hX (j := 3) rfl; have m4 := cell_of_block hX (j := 4) rfl; have m5 := cell_of_block hX (j := 5) rfl; have m6 := cell_of_block hX (j := 6) rfl; have m7 := cell_of_block hX (j := 7) rfl; have m8 := cell_of_block hX (j := 8) rfl) | (go_at_call 12; go_fit HEv1; rintro e w8 ⟨rfl, hb8⟩))
            have hb78 := bthen hb7' hb8
            have hT8 := (hb78.block _ hltTr).trans hTr
            have hbz := bel1 w8 (.cells #[.int .i64 1, .int .i64 vn, .string vs] 32)
            have S0 : TyS (w8.alloc (.cells #[.int .i64 1, .int .i64 vn, .string vs] 32)).drew w8.heap.size pT cb (cof + kk * 3 + 1) 1 vn vs (.slice (some ⟨cb, cof, none⟩) t.cols.length cc) 1 := ⟨cell_of_block (block_alloc_at w8 _) rfl, cell_of_block (block_alloc_at w8 _) rfl, cell_of_block (block_alloc_at w8 _) rfl, cell_of_block ((hbz.block _ (lt_of_block hT8)).trans hT8) rfl, (hbz.cell (p := ⟨cb, cof + kk * 3 + 1, none⟩) (Nat.lt_of_lt_of_le hcb hb78.size)).trans ((hb78.cell (p := ⟨cb, cof + kk * 3 + 1, none⟩) hcb).trans c1')⟩
            have hlt8 := lt_of_block hT8
            refine wp_region_held_drew (S := (fun W' => TyS W' w8.heap.size pT cb (cof + kk * 3 + 1) 1 vn vs (.slice (some ⟨cb, cof, none⟩) t.cols.length cc) 1)) (by kernel_rfl) ?_ (fun hHeld => ?_)
            · exact S0
            refine wpAnyH_take (i := 0) (oi := { dst := some 60, op := Go.Op.move (Go.Operand.tmp 13), type := 3, pos := "keep.go:173", after := #[], guard := none }) (v := ?_) rfl (by kernel_rfl) (by kernel_rfl) (by kernel_rfl) (fun _ _ _ h => h) (Or.inl ⟨by rfl, ?_⟩) (by assumption) ?_
            rotate_left
            · intro W' hSw; obtain ⟨s0, s1, s2, s3, s4⟩ := hSw; go_simp; all_goals (with_reducible rfl)
            try simp only [Act.put, List.setIfInBounds_toArray, List.set_cons_zero, List.set_cons_succ]
            refine wpAnyH_take (i := 1) (oi := { dst := some 61, op := Go.Op.binOp Go.BinOp.lss 3 (Go.Operand.tmp 60) (Go.Operand.const (Go.Value.int Go.IntKind.i64 0)) 3, type := 4, pos := "keep.go:173", after := #[{ on := 0, ground := Go.Ground.data }], guard := none }) (v := ?_) rfl (by kernel_rfl) (by kernel_rfl) (by kernel_rfl) (fun _ _ _ h => h) (Or.inl ⟨by rfl, ?_⟩) (by assumption) ?_
            rotate_left
            · intro W' hSw; obtain ⟨s0, s1, s2, s3, s4⟩ := hSw; go_simp; all_goals (with_reducible rfl)
            try simp only [Act.put, List.setIfInBounds_toArray, List.set_cons_zero, List.set_cons_succ]
            refine wpAnyH_take (i := 2) (oi := { dst := some 62, op := Go.Op.move (Go.Operand.tmp 61), type := 4, pos := "keep.go:173", after := #[{ on := 1, ground := Go.Ground.data }], guard := none }) (v := ?_) rfl (by kernel_rfl) (by kernel_rfl) (by kernel_rfl) (fun _ _ _ h => h) (Or.inl ⟨by rfl, ?_⟩) (by assumption) ?_
            rotate_left
            · intro W' hSw; obtain ⟨s0, s1, s2, s3, s4⟩ := hSw; go_simp; all_goals (with_reducible rfl)
            try simp only [Act.put, List.setIfInBounds_toArray, List.set_cons_zero, List.set_cons_succ]
            refine wpAnyH_take (i := 3) (oi := { dst := some 63, op := Go.Op.load 32 (Go.Operand.tmp 14), type := 32, pos := "keep.go:173", after := #[{ on := 2, ground := Go.Ground.guard }], guard := some (2, false) }) (v := ?_) rfl (by kernel_rfl) (by kernel_rfl) (by kernel_rfl) (fun _ _ _ h => h) (Or.inl ⟨by rfl, ?_⟩) (by assumption) ?_
            rotate_left
            · intro W' hSw; obtain ⟨s0, s1, s2, s3, s4⟩ := hSw; go_simp; all_goals (with_reducible rfl)
            try simp only [Act.put, List.setIfInBounds_toArray, List.set_cons_zero, List.set_cons_succ]
            refine wpAnyH_ready (rs := [4]) (by kernel_rfl) (by simp) ?_
            refine AllReadyH.cons (o := { dst := some 64, op := Go.Op.call { callee := Go.Callee.value (Go.Operand.func 13), args := #[Go.Operand.tmp 63], argTypes := #[32] }, type := 4, pos := "keep.go:173", after := #[{ on := 3, ground := Go.Ground.data }, { on := 2, ground := Go.Ground.chain }, { on := 2, ground := Go.Ground.guard }], guard := some (2, false) }) rfl (fun K hK => ?_) AllReadyH.nil
            go_simp
            (go_at_call 13; go_fit (HGd2 _); rintro e w9 ⟨rfl, hb9⟩; have S9 := S0.below hb9 (by simp [World.drew]) (by simp [World.drew]; omega) (by have := hb78.size; simp [World.drew]; omega))
            go_wp2_with fail
            refine hK.out _ _ ?_ (fun hHeld => ?_)
            · exact S9
            clear hK K
            try simp only [Act.put, List.setIfInBounds_toArray, List.set_cons_zero, List.set_cons_succ]
            refine wpAnyH_take (i := 5) (oi := { dst := some 65, op := Go.Op.unOp Go.UnOp.not 4 (Go.Operand.tmp 64), type := 4, pos := "keep.go:173", after := #[{ on := 4, ground := Go.Ground.data }, { on := 2, ground := Go.Ground.guard }], guard := some (2, false) }) (v := ?_) rfl (by kernel_rfl) (by kernel_rfl) (by kernel_rfl) (fun _ _ _ h => h) (Or.inl ⟨by rfl, ?_⟩) (by assumption) ?_
            rotate_left
            · intro W' hSw; obtain ⟨s0, s1, s2, s3, s4⟩ := hSw; go_simp; all_goals (with_reducible rfl)
            try simp only [Act.put, List.setIfInBounds_toArray, List.set_cons_zero, List.set_cons_succ]
            refine wpAnyH_take (i := 6) (oi := { dst := some 66, op := Go.Op.pick (Go.Operand.tmp 62) (Go.Operand.const (Go.Value.bool true)) (Go.Operand.tmp 65), type := 4, pos := "keep.go:173", after := #[{ on := 2, ground := Go.Ground.data }, { on := 5, ground := Go.Ground.data }], guard := none }) (v := ?_) rfl (by kernel_rfl) (by kernel_rfl) (by kernel_rfl) (fun _ _ _ h => h) (Or.inl ⟨by rfl, ?_⟩) (by assumption) ?_
            rotate_left
            · intro W' hSw; obtain ⟨s0, s1, s2, s3, s4⟩ := hSw; go_simp; all_goals (with_reducible rfl)
            try simp only [Act.put, List.setIfInBounds_toArray, List.set_cons_zero, List.set_cons_succ]
            refine wpAnyH_take (i := 7) (oi := { dst := some 67, op := Go.Op.move (Go.Operand.tmp 66), type := 4, pos := "keep.go:173", after := #[{ on := 6, ground := Go.Ground.data }, { on := 4, ground := Go.Ground.chain }], guard := none }) (v := ?_) rfl (by kernel_rfl) (by kernel_rfl) (by kernel_rfl) (fun _ _ _ h => h) (Or.inl ⟨by rfl, ?_⟩) (by assumption) ?_
            rotate_left
            · intro W' hSw; obtain ⟨s0, s1, s2, s3, s4⟩ := hSw; go_simp; all_goals (with_reducible rfl)
            try simp only [Act.put, List.setIfInBounds_toArray, List.set_cons_zero, List.set_cons_succ]
            refine wpAnyH_take (i := 8) (oi := { dst := some 68, op := Go.Op.fieldAddr 32 (Go.Operand.tmp 14) 0, type := 0, pos := "keep.go:173", after := #[{ on := 7, ground := Go.Ground.guard }], guard := some (7, false) }) (v := ?_) rfl (by kernel_rfl) (by kernel_rfl) (by kernel_rfl) (fun _ _ _ h => h) (Or.inl ⟨by rfl, ?_⟩) (by assumption) ?_
            rotate_left
            · intro W' hSw; obtain ⟨s0, s1, s2, s3, s4⟩ := hSw; go_simp; all_goals (with_reducible rfl)
            try simp only [Act.put, List.setIfInBounds_toArray, List.set_cons_zero, List.set_cons_succ]
            refine wpAnyH_take (i := 9) (oi := { dst := some 69, op := Go.Op.load 3 (Go.Operand.tmp 68), type := 3, pos := "keep.go:173", after := #[{ on := 8, ground := Go.Ground.data }, { on := 7, ground := Go.Ground.guard }], guard := some (7, false) }) (v := ?_) rfl (by kernel_rfl) (by kernel_rfl) (by kernel_rfl) (fun _ _ _ h => h) (Or.inl ⟨by rfl, ?_⟩) (by assumption) ?_
            rotate_left
            · intro W' hSw; obtain ⟨s0, s1, s2, s3, s4⟩ := hSw; go_simp; all_goals (with_reducible rfl)
            try simp only [Act.put, List.setIfInBounds_toArray, List.set_cons_zero, List.set_cons_succ]
            refine wpAnyH_take (i := 10) (oi := { dst := some 70, op := Go.Op.binOp Go.BinOp.neq 3 (Go.Operand.tmp 69) (Go.Operand.const (Go.Value.int Go.IntKind.i64 0)) 3, type := 4, pos := "keep.go:173", after := #[{ on := 9, ground := Go.Ground.data }, { on := 7, ground := Go.Ground.guard }], guard := some (7, false) }) (v := ?_) rfl (by kernel_rfl) (by kernel_rfl) (by kernel_rfl) (fun _ _ _ h => h) (Or.inl ⟨by rfl, ?_⟩) (by assumption) ?_
            rotate_left
            · intro W' hSw; obtain ⟨s0, s1, s2, s3, s4⟩ := hSw; go_simp; all_goals (with_reducible rfl)
            try simp only [Act.put, List.setIfInBounds_toArray, List.set_cons_zero, List.set_cons_succ]
            refine wpAnyH_take (i := 11) (oi := { dst := some 71, op := Go.Op.move (Go.Operand.tmp 70), type := 4, pos := "keep.go:173", after := #[{ on := 10, ground := Go.Ground.data }, { on := 7, ground := Go.Ground.chain }, { on := 7, ground := Go.Ground.guard }], guard := some (7, false) }) (v := ?_) rfl (by kernel_rfl) (by kernel_rfl) (by kernel_rfl) (fun _ _ _ h => h) (Or.inl ⟨by rfl, ?_⟩) (by assumption) ?_
            rotate_left
            · intro W' hSw; obtain ⟨s0, s1, s2, s3, s4⟩ := hSw; go_simp; all_goals (with_reducible rfl)
            try simp only [Act.put, List.setIfInBounds_toArray, List.set_cons_zero, List.set_cons_succ]
            refine wpAnyH_take (i := 12) (oi := { dst := some 72, op := Go.Op.fieldAddr 32 (Go.Operand.tmp 14) 0, type := 0, pos := "keep.go:173", after := #[{ on := 11, ground := Go.Ground.guard }], guard := some (11, true) }) (v := ?_) rfl (by kernel_rfl) (by kernel_rfl) (by kernel_rfl) (fun _ _ _ h => h) (Or.inl ⟨by rfl, ?_⟩) (by assumption) ?_
            rotate_left
            · intro W' hSw; obtain ⟨s0, s1, s2, s3, s4⟩ := hSw; go_simp; all_goals (with_reducible rfl)
            try simp only [Act.put, List.setIfInBounds_toArray, List.set_cons_zero, List.set_cons_succ]
            refine wpAnyH_take (i := 13) (oi := { dst := some 73, op := Go.Op.load 3 (Go.Operand.tmp 72), type := 3, pos := "keep.go:173", after := #[{ on := 12, ground := Go.Ground.data }, { on := 11, ground := Go.Ground.guard }], guard := some (11, true) }) (v := ?_) rfl (by kernel_rfl) (by kernel_rfl) (by kernel_rfl) (fun _ _ _ h => h) (Or.inl ⟨by rfl, ?_⟩) (by assumption) ?_
            rotate_left
            · intro W' hSw; obtain ⟨s0, s1, s2, s3, s4⟩ := hSw; go_simp; all_goals (with_reducible rfl)
            try simp only [Act.put, List.setIfInBounds_toArray, List.set_cons_zero, List.set_cons_succ]
            refine wpAnyH_take (i := 14) (oi := { dst := some 74, op := Go.Op.fieldAddr 43 (Go.Operand.tmp 9) 1, type := 0, pos := "keep.go:173", after := #[{ on := 11, ground := Go.Ground.guard }], guard := some (11, true) }) (v := ?_) rfl (by kernel_rfl) (by kernel_rfl) (by kernel_rfl) (fun _ _ _ h => h) (Or.inl ⟨by rfl, ?_⟩) (by assumption) ?_
            rotate_left
            · intro W' hSw; obtain ⟨s0, s1, s2, s3, s4⟩ := hSw; go_simp; all_goals (with_reducible rfl)
            try simp only [Act.put, List.setIfInBounds_toArray, List.set_cons_zero, List.set_cons_succ]
            refine wpAnyH_take (i := 15) (oi := { dst := some 75, op := Go.Op.load 26 (Go.Operand.tmp 74), type := 26, pos := "keep.go:173", after := #[{ on := 14, ground := Go.Ground.data }, { on := 11, ground := Go.Ground.guard }], guard := some (11, true) }) (v := ?_) rfl (by kernel_rfl) (by kernel_rfl) (by kernel_rfl) (fun _ _ _ h => h) (Or.inl ⟨by rfl, ?_⟩) (by assumption) ?_
            rotate_left
            · intro W' hSw; obtain ⟨s0, s1, s2, s3, s4⟩ := hSw; go_simp; all_goals (with_reducible rfl)
            try simp only [Act.put, List.setIfInBounds_toArray, List.set_cons_zero, List.set_cons_succ]
            refine wpAnyH_take (i := 16) (oi := { dst := some 76, op := Go.Op.move (Go.Operand.tmp 13), type := 3, pos := "keep.go:173", after := #[{ on := 11, ground := Go.Ground.guard }], guard := some (11, true) }) (v := ?_) rfl (by kernel_rfl) (by kernel_rfl) (by kernel_rfl) (fun _ _ _ h => h) (Or.inl ⟨by rfl, ?_⟩) (by assumption) ?_
            rotate_left
            · intro W' hSw; obtain ⟨s0, s1, s2, s3, s4⟩ := hSw; go_simp; all_goals (with_reducible rfl)
            try simp only [Act.put, List.setIfInBounds_toArray, List.set_cons_zero, List.set_cons_succ]
            refine wpAnyH_take (i := 17) (oi := { dst := some 77, op := Go.Op.indexAddr 26 (Go.Operand.tmp 75) (Go.Operand.tmp 76), type := 0, pos := "keep.go:173", after := #[{ on := 15, ground := Go.Ground.data }, { on := 16, ground := Go.Ground.data }, { on := 11, ground := Go.Ground.guard }], guard := some (11, true) }) (v := ?_) rfl (by kernel_rfl) (by kernel_rfl) (by kernel_rfl) (fun _ _ _ h => h) (Or.inl ⟨by rfl, ?_⟩) (by assumption) ?_
            rotate_left
            · intro W' hSw; obtain ⟨s0, s1, s2, s3, s4⟩ := hSw; go_simp; all_goals (with_reducible rfl)
            try simp only [Act.put, List.setIfInBounds_toArray, List.set_cons_zero, List.set_cons_succ]
            refine wpAnyH_take (i := 18) (oi := { dst := some 78, op := Go.Op.fieldAddr 56 (Go.Operand.tmp 77) 1, type := 0, pos := "keep.go:173", after := #[{ on := 17, ground := Go.Ground.data }, { on := 11, ground := Go.Ground.guard }], guard := some (11, true) }) (v := ?_) rfl (by kernel_rfl) (by kernel_rfl) (by kernel_rfl) (fun _ _ _ h => h) (Or.inl ⟨by rfl, ?_⟩) (by assumption) ?_
            rotate_left
            · intro W' hSw; obtain ⟨s0, s1, s2, s3, s4⟩ := hSw; go_simp; all_goals (with_reducible rfl)
            try simp only [Act.put, List.setIfInBounds_toArray, List.set_cons_zero, List.set_cons_succ]
            refine wpAnyH_take (i := 19) (oi := { dst := some 79, op := Go.Op.load 3 (Go.Operand.tmp 78), type := 3, pos := "keep.go:173", after := #[{ on := 18, ground := Go.Ground.data }, { on := 11, ground := Go.Ground.guard }], guard := some (11, true) }) (v := ?_) rfl (by kernel_rfl) (by kernel_rfl) (by kernel_rfl) (fun _ _ _ h => h) (Or.inl ⟨by rfl, ?_⟩) (by assumption) ?_
            rotate_left
            · intro W' hSw; obtain ⟨s0, s1, s2, s3, s4⟩ := hSw; go_simp; all_goals (with_reducible rfl)
            try simp only [Act.put, List.setIfInBounds_toArray, List.set_cons_zero, List.set_cons_succ]
            refine wpAnyH_take (i := 20) (oi := { dst := some 80, op := Go.Op.binOp Go.BinOp.neq 3 (Go.Operand.tmp 73) (Go.Operand.tmp 79) 3, type := 4, pos := "keep.go:173", after := #[{ on := 13, ground := Go.Ground.data }, { on := 19, ground := Go.Ground.data }, { on := 11, ground := Go.Ground.guard }], guard := some (11, true) }) (v := ?_) rfl (by kernel_rfl) (by kernel_rfl) (by kernel_rfl) (fun _ _ _ h => h) (Or.inl ⟨by rfl, ?_⟩) (by assumption) ?_
            rotate_left
            · intro W' hSw; obtain ⟨s0, s1, s2, s3, s4⟩ := hSw; go_simp; all_goals (with_reducible rfl)
            try simp only [Act.put, List.setIfInBounds_toArray, List.set_cons_zero, List.set_cons_succ]
            refine wpAnyH_take (i := 21) (oi := { dst := some 81, op := Go.Op.pick (Go.Operand.tmp 71) (Go.Operand.tmp 80) (Go.Operand.const (Go.Value.bool false)), type := 4, pos := "keep.go:173", after := #[{ on := 11, ground := Go.Ground.data }, { on := 20, ground := Go.Ground.data }, { on := 7, ground := Go.Ground.guard }], guard := some (7, false) }) (v := ?_) rfl (by kernel_rfl) (by kernel_rfl) (by kernel_rfl) (fun _ _ _ h => h) (Or.inl ⟨by rfl, ?_⟩) (by assumption) ?_
            rotate_left
            · intro W' hSw; obtain ⟨s0, s1, s2, s3, s4⟩ := hSw; go_simp; all_goals (with_reducible rfl)
            try simp only [Act.put, List.setIfInBounds_toArray, List.set_cons_zero, List.set_cons_succ]
            refine wpAnyH_take (i := 22) (oi := { dst := some 82, op := Go.Op.pick (Go.Operand.tmp 67) (Go.Operand.const (Go.Value.bool true)) (Go.Operand.tmp 81), type := 4, pos := "keep.go:173", after := #[{ on := 7, ground := Go.Ground.data }, { on := 21, ground := Go.Ground.data }], guard := none }) (v := ?_) rfl (by kernel_rfl) (by kernel_rfl) (by kernel_rfl) (fun _ _ _ h => h) (Or.inl ⟨by rfl, ?_⟩) (by assumption) ?_
            rotate_left
            · intro W' hSw; obtain ⟨s0, s1, s2, s3, s4⟩ := hSw; go_simp; all_goals (with_reducible rfl)
            try simp only [Act.put, List.setIfInBounds_toArray, List.set_cons_zero, List.set_cons_succ]
            refine wpAnyH_done (by kernel_rfl) ?_ _
            go_wp2_with fail
            go_roundw
            case rel => exact ⟨j + 1, HJ.out, by go_num, (hbel.trans (hb78.mono hbel.size)).trans (((hbz.drew).trans (hb9.mono hbz.size)).mono (Nat.le_trans hbel.size hb78.size))⟩
            case measure => have := HJ.out; simp [intOf]; omega
          · go_wp2_with (first | (go_at_call 11; go_fit HFc; rintro e w7 ⟨rfl, hb7⟩; have hb7' := bthen hbx hb7; have HEv1 := HEv _ hb7'; have hX := (hb7.block _ (show wr.heap.size < _ by simp)).trans (block_alloc_at wr _); have m1 := cell_of_block hX (j := 1) rfl; have m2 := cell_of_block hX (j := 2) rfl; have m3 := cell_of_block hX (j := 3) rfl; have m4 := cell_of_block hX (j := 4) rfl; have m5 := cell_of_block hX (j := 5) rfl; have m6 := cell_of_block hX (j := 6) rfl; have m7 := cell_of_block hX (j := 7) rfl; have m8 := cell_of_block hX (j := 8) rfl) | (go_at_call 12; go_fit HEv1; rintro e w8 ⟨rfl, hb8⟩))
            have hb78 := bthen hb7' hb8
            have hT8 := (hb78.block _ hltTr).trans hTr
            have hbz := bel1 w8 (.cells #[.int .i64 2, .int .i64 vn, .string vs] 32)
            have S0 : TyS (w8.alloc (.cells #[.int .i64 2, .int .i64 vn, .string vs] 32)).drew w8.heap.size pT cb (cof + kk * 3 + 1) 2 vn vs (.slice (some ⟨cb, cof, none⟩) t.cols.length cc) 2 := ⟨cell_of_block (block_alloc_at w8 _) rfl, cell_of_block (block_alloc_at w8 _) rfl, cell_of_block (block_alloc_at w8 _) rfl, cell_of_block ((hbz.block _ (lt_of_block hT8)).trans hT8) rfl, (hbz.cell (p := ⟨cb, cof + kk * 3 + 1, none⟩) (Nat.lt_of_lt_of_le hcb hb78.size)).trans ((hb78.cell (p := ⟨cb, cof + kk * 3 + 1, none⟩) hcb).trans c1')⟩
            have hlt8 := lt_of_block hT8
            refine wp_region_held_drew (S := (fun W' => TyS W' w8.heap.size pT cb (cof + kk * 3 + 1) 2 vn vs (.slice (some ⟨cb, cof, none⟩) t.cols.length cc) 2)) (by kernel_rfl) ?_ (fun hHeld => ?_)
            · exact S0
            refine wpAnyH_take (i := 0) (oi := { dst := some 60, op := Go.Op.move (Go.Operand.tmp 13), type := 3, pos := "keep.go:173", after := #[], guard := none }) (v := ?_) rfl (by kernel_rfl) (by kernel_rfl) (by kernel_rfl) (fun _ _ _ h => h) (Or.inl ⟨by rfl, ?_⟩) (by assumption) ?_
            rotate_left
            · intro W' hSw; obtain ⟨s0, s1, s2, s3, s4⟩ := hSw; go_simp; all_goals (with_reducible rfl)
            try simp only [Act.put, List.setIfInBounds_toArray, List.set_cons_zero, List.set_cons_succ]
            refine wpAnyH_take (i := 1) (oi := { dst := some 61, op := Go.Op.binOp Go.BinOp.lss 3 (Go.Operand.tmp 60) (Go.Operand.const (Go.Value.int Go.IntKind.i64 0)) 3, type := 4, pos := "keep.go:173", after := #[{ on := 0, ground := Go.Ground.data }], guard := none }) (v := ?_) rfl (by kernel_rfl) (by kernel_rfl) (by kernel_rfl) (fun _ _ _ h => h) (Or.inl ⟨by rfl, ?_⟩) (by assumption) ?_
            rotate_left
            · intro W' hSw; obtain ⟨s0, s1, s2, s3, s4⟩ := hSw; go_simp; all_goals (with_reducible rfl)
            try simp only [Act.put, List.setIfInBounds_toArray, List.set_cons_zero, List.set_cons_succ]
            refine wpAnyH_take (i := 2) (oi := { dst := some 62, op := Go.Op.move (Go.Operand.tmp 61), type := 4, pos := "keep.go:173", after := #[{ on := 1, ground := Go.Ground.data }], guard := none }) (v := ?_) rfl (by kernel_rfl) (by kernel_rfl) (by kernel_rfl) (fun _ _ _ h => h) (Or.inl ⟨by rfl, ?_⟩) (by assumption) ?_
            rotate_left
            · intro W' hSw; obtain ⟨s0, s1, s2, s3, s4⟩ := hSw; go_simp; all_goals (with_reducible rfl)
            try simp only [Act.put, List.setIfInBounds_toArray, List.set_cons_zero, List.set_cons_succ]
            refine wpAnyH_take (i := 3) (oi := { dst := some 63, op := Go.Op.load 32 (Go.Operand.tmp 14), type := 32, pos := "keep.go:173", after := #[{ on := 2, ground := Go.Ground.guard }], guard := some (2, false) }) (v := ?_) rfl (by kernel_rfl) (by kernel_rfl) (by kernel_rfl) (fun _ _ _ h => h) (Or.inl ⟨by rfl, ?_⟩) (by assumption) ?_
            rotate_left
            · intro W' hSw; obtain ⟨s0, s1, s2, s3, s4⟩ := hSw; go_simp; all_goals (with_reducible rfl)
            try simp only [Act.put, List.setIfInBounds_toArray, List.set_cons_zero, List.set_cons_succ]
            refine wpAnyH_ready (rs := [4]) (by kernel_rfl) (by simp) ?_
            refine AllReadyH.cons (o := { dst := some 64, op := Go.Op.call { callee := Go.Callee.value (Go.Operand.func 13), args := #[Go.Operand.tmp 63], argTypes := #[32] }, type := 4, pos := "keep.go:173", after := #[{ on := 3, ground := Go.Ground.data }, { on := 2, ground := Go.Ground.chain }, { on := 2, ground := Go.Ground.guard }], guard := some (2, false) }) rfl (fun K hK => ?_) AllReadyH.nil
            go_simp
            (go_at_call 13; go_fit (HGd2 _); rintro e w9 ⟨rfl, hb9⟩; have S9 := S0.below hb9 (by simp [World.drew]) (by simp [World.drew]; omega) (by have := hb78.size; simp [World.drew]; omega))
            go_wp2_with fail
            refine hK.out _ _ ?_ (fun hHeld => ?_)
            · exact S9
            clear hK K
            try simp only [Act.put, List.setIfInBounds_toArray, List.set_cons_zero, List.set_cons_succ]
            refine wpAnyH_take (i := 5) (oi := { dst := some 65, op := Go.Op.unOp Go.UnOp.not 4 (Go.Operand.tmp 64), type := 4, pos := "keep.go:173", after := #[{ on := 4, ground := Go.Ground.data }, { on := 2, ground := Go.Ground.guard }], guard := some (2, false) }) (v := ?_) rfl (by kernel_rfl) (by kernel_rfl) (by kernel_rfl) (fun _ _ _ h => h) (Or.inl ⟨by rfl, ?_⟩) (by assumption) ?_
            rotate_left
            · intro W' hSw; obtain ⟨s0, s1, s2, s3, s4⟩ := hSw; go_simp; all_goals (with_reducible rfl)
            try simp only [Act.put, List.setIfInBounds_toArray, List.set_cons_zero, List.set_cons_succ]
            refine wpAnyH_take (i := 6) (oi := { dst := some 66, op := Go.Op.pick (Go.Operand.tmp 62) (Go.Operand.const (Go.Value.bool true)) (Go.Operand.tmp 65), type := 4, pos := "keep.go:173", after := #[{ on := 2, ground := Go.Ground.data }, { on := 5, ground := Go.Ground.data }], guard := none }) (v := ?_) rfl (by kernel_rfl) (by kernel_rfl) (by kernel_rfl) (fun _ _ _ h => h) (Or.inl ⟨by rfl, ?_⟩) (by assumption) ?_
            rotate_left
            · intro W' hSw; obtain ⟨s0, s1, s2, s3, s4⟩ := hSw; go_simp; all_goals (with_reducible rfl)
            try simp only [Act.put, List.setIfInBounds_toArray, List.set_cons_zero, List.set_cons_succ]
            refine wpAnyH_take (i := 7) (oi := { dst := some 67, op := Go.Op.move (Go.Operand.tmp 66), type := 4, pos := "keep.go:173", after := #[{ on := 6, ground := Go.Ground.data }, { on := 4, ground := Go.Ground.chain }], guard := none }) (v := ?_) rfl (by kernel_rfl) (by kernel_rfl) (by kernel_rfl) (fun _ _ _ h => h) (Or.inl ⟨by rfl, ?_⟩) (by assumption) ?_
            rotate_left
            · intro W' hSw; obtain ⟨s0, s1, s2, s3, s4⟩ := hSw; go_simp; all_goals (with_reducible rfl)
            try simp only [Act.put, List.setIfInBounds_toArray, List.set_cons_zero, List.set_cons_succ]
            refine wpAnyH_take (i := 8) (oi := { dst := some 68, op := Go.Op.fieldAddr 32 (Go.Operand.tmp 14) 0, type := 0, pos := "keep.go:173", after := #[{ on := 7, ground := Go.Ground.guard }], guard := some (7, false) }) (v := ?_) rfl (by kernel_rfl) (by kernel_rfl) (by kernel_rfl) (fun _ _ _ h => h) (Or.inl ⟨by rfl, ?_⟩) (by assumption) ?_
            rotate_left
            · intro W' hSw; obtain ⟨s0, s1, s2, s3, s4⟩ := hSw; go_simp; all_goals (with_reducible rfl)
            try simp only [Act.put, List.setIfInBounds_toArray, List.set_cons_zero, List.set_cons_succ]
            refine wpAnyH_take (i := 9) (oi := { dst := some 69, op := Go.Op.load 3 (Go.Operand.tmp 68), type := 3, pos := "keep.go:173", after := #[{ on := 8, ground := Go.Ground.data }, { on := 7, ground := Go.Ground.guard }], guard := some (7, false) }) (v := ?_) rfl (by kernel_rfl) (by kernel_rfl) (by kernel_rfl) (fun _ _ _ h => h) (Or.inl ⟨by rfl, ?_⟩) (by assumption) ?_
            rotate_left
            · intro W' hSw; obtain ⟨s0, s1, s2, s3, s4⟩ := hSw; go_simp; all_goals (with_reducible rfl)
            try simp only [Act.put, List.setIfInBounds_toArray, List.set_cons_zero, List.set_cons_succ]
            refine wpAnyH_take (i := 10) (oi := { dst := some 70, op := Go.Op.binOp Go.BinOp.neq 3 (Go.Operand.tmp 69) (Go.Operand.const (Go.Value.int Go.IntKind.i64 0)) 3, type := 4, pos := "keep.go:173", after := #[{ on := 9, ground := Go.Ground.data }, { on := 7, ground := Go.Ground.guard }], guard := some (7, false) }) (v := ?_) rfl (by kernel_rfl) (by kernel_rfl) (by kernel_rfl) (fun _ _ _ h => h) (Or.inl ⟨by rfl, ?_⟩) (by assumption) ?_
            rotate_left
            · intro W' hSw; obtain ⟨s0, s1, s2, s3, s4⟩ := hSw; go_simp; all_goals (with_reducible rfl)
            try simp only [Act.put, List.setIfInBounds_toArray, List.set_cons_zero, List.set_cons_succ]
            refine wpAnyH_take (i := 11) (oi := { dst := some 71, op := Go.Op.move (Go.Operand.tmp 70), type := 4, pos := "keep.go:173", after := #[{ on := 10, ground := Go.Ground.data }, { on := 7, ground := Go.Ground.chain }, { on := 7, ground := Go.Ground.guard }], guard := some (7, false) }) (v := ?_) rfl (by kernel_rfl) (by kernel_rfl) (by kernel_rfl) (fun _ _ _ h => h) (Or.inl ⟨by rfl, ?_⟩) (by assumption) ?_
            rotate_left
            · intro W' hSw; obtain ⟨s0, s1, s2, s3, s4⟩ := hSw; go_simp; all_goals (with_reducible rfl)
            try simp only [Act.put, List.setIfInBounds_toArray, List.set_cons_zero, List.set_cons_succ]
            refine wpAnyH_take (i := 12) (oi := { dst := some 72, op := Go.Op.fieldAddr 32 (Go.Operand.tmp 14) 0, type := 0, pos := "keep.go:173", after := #[{ on := 11, ground := Go.Ground.guard }], guard := some (11, true) }) (v := ?_) rfl (by kernel_rfl) (by kernel_rfl) (by kernel_rfl) (fun _ _ _ h => h) (Or.inl ⟨by rfl, ?_⟩) (by assumption) ?_
            rotate_left
            · intro W' hSw; obtain ⟨s0, s1, s2, s3, s4⟩ := hSw; go_simp; all_goals (with_reducible rfl)
            try simp only [Act.put, List.setIfInBounds_toArray, List.set_cons_zero, List.set_cons_succ]
            refine wpAnyH_take (i := 13) (oi := { dst := some 73, op := Go.Op.load 3 (Go.Operand.tmp 72), type := 3, pos := "keep.go:173", after := #[{ on := 12, ground := Go.Ground.data }, { on := 11, ground := Go.Ground.guard }], guard := some (11, true) }) (v := ?_) rfl (by kernel_rfl) (by kernel_rfl) (by kernel_rfl) (fun _ _ _ h => h) (Or.inl ⟨by rfl, ?_⟩) (by assumption) ?_
            rotate_left
            · intro W' hSw; obtain ⟨s0, s1, s2, s3, s4⟩ := hSw; go_simp; all_goals (with_reducible rfl)
            try simp only [Act.put, List.setIfInBounds_toArray, List.set_cons_zero, List.set_cons_succ]
            refine wpAnyH_take (i := 14) (oi := { dst := some 74, op := Go.Op.fieldAddr 43 (Go.Operand.tmp 9) 1, type := 0, pos := "keep.go:173", after := #[{ on := 11, ground := Go.Ground.guard }], guard := some (11, true) }) (v := ?_) rfl (by kernel_rfl) (by kernel_rfl) (by kernel_rfl) (fun _ _ _ h => h) (Or.inl ⟨by rfl, ?_⟩) (by assumption) ?_
            rotate_left
            · intro W' hSw; obtain ⟨s0, s1, s2, s3, s4⟩ := hSw; go_simp; all_goals (with_reducible rfl)
            try simp only [Act.put, List.setIfInBounds_toArray, List.set_cons_zero, List.set_cons_succ]
            refine wpAnyH_take (i := 15) (oi := { dst := some 75, op := Go.Op.load 26 (Go.Operand.tmp 74), type := 26, pos := "keep.go:173", after := #[{ on := 14, ground := Go.Ground.data }, { on := 11, ground := Go.Ground.guard }], guard := some (11, true) }) (v := ?_) rfl (by kernel_rfl) (by kernel_rfl) (by kernel_rfl) (fun _ _ _ h => h) (Or.inl ⟨by rfl, ?_⟩) (by assumption) ?_
            rotate_left
            · intro W' hSw; obtain ⟨s0, s1, s2, s3, s4⟩ := hSw; go_simp; all_goals (with_reducible rfl)
            try simp only [Act.put, List.setIfInBounds_toArray, List.set_cons_zero, List.set_cons_succ]
            refine wpAnyH_take (i := 16) (oi := { dst := some 76, op := Go.Op.move (Go.Operand.tmp 13), type := 3, pos := "keep.go:173", after := #[{ on := 11, ground := Go.Ground.guard }], guard := some (11, true) }) (v := ?_) rfl (by kernel_rfl) (by kernel_rfl) (by kernel_rfl) (fun _ _ _ h => h) (Or.inl ⟨by rfl, ?_⟩) (by assumption) ?_
            rotate_left
            · intro W' hSw; obtain ⟨s0, s1, s2, s3, s4⟩ := hSw; go_simp; all_goals (with_reducible rfl)
            try simp only [Act.put, List.setIfInBounds_toArray, List.set_cons_zero, List.set_cons_succ]
            refine wpAnyH_take (i := 17) (oi := { dst := some 77, op := Go.Op.indexAddr 26 (Go.Operand.tmp 75) (Go.Operand.tmp 76), type := 0, pos := "keep.go:173", after := #[{ on := 15, ground := Go.Ground.data }, { on := 16, ground := Go.Ground.data }, { on := 11, ground := Go.Ground.guard }], guard := some (11, true) }) (v := ?_) rfl (by kernel_rfl) (by kernel_rfl) (by kernel_rfl) (fun _ _ _ h => h) (Or.inl ⟨by rfl, ?_⟩) (by assumption) ?_
            rotate_left
            · intro W' hSw; obtain ⟨s0, s1, s2, s3, s4⟩ := hSw; go_simp; all_goals (with_reducible rfl)
            try simp only [Act.put, List.setIfInBounds_toArray, List.set_cons_zero, List.set_cons_succ]
            refine wpAnyH_take (i := 18) (oi := { dst := some 78, op := Go.Op.fieldAddr 56 (Go.Operand.tmp 77) 1, type := 0, pos := "keep.go:173", after := #[{ on := 17, ground := Go.Ground.data }, { on := 11, ground := Go.Ground.guard }], guard := some (11, true) }) (v := ?_) rfl (by kernel_rfl) (by kernel_rfl) (by kernel_rfl) (fun _ _ _ h => h) (Or.inl ⟨by rfl, ?_⟩) (by assumption) ?_
            rotate_left
            · intro W' hSw; obtain ⟨s0, s1, s2, s3, s4⟩ := hSw; go_simp; all_goals (with_reducible rfl)
            try simp only [Act.put, List.setIfInBounds_toArray, List.set_cons_zero, List.set_cons_succ]
            refine wpAnyH_take (i := 19) (oi := { dst := some 79, op := Go.Op.load 3 (Go.Operand.tmp 78), type := 3, pos := "keep.go:173", after := #[{ on := 18, ground := Go.Ground.data }, { on := 11, ground := Go.Ground.guard }], guard := some (11, true) }) (v := ?_) rfl (by kernel_rfl) (by kernel_rfl) (by kernel_rfl) (fun _ _ _ h => h) (Or.inl ⟨by rfl, ?_⟩) (by assumption) ?_
            rotate_left
            · intro W' hSw; obtain ⟨s0, s1, s2, s3, s4⟩ := hSw; go_simp; all_goals (with_reducible rfl)
            try simp only [Act.put, List.setIfInBounds_toArray, List.set_cons_zero, List.set_cons_succ]
            refine wpAnyH_take (i := 20) (oi := { dst := some 80, op := Go.Op.binOp Go.BinOp.neq 3 (Go.Operand.tmp 73) (Go.Operand.tmp 79) 3, type := 4, pos := "keep.go:173", after := #[{ on := 13, ground := Go.Ground.data }, { on := 19, ground := Go.Ground.data }, { on := 11, ground := Go.Ground.guard }], guard := some (11, true) }) (v := ?_) rfl (by kernel_rfl) (by kernel_rfl) (by kernel_rfl) (fun _ _ _ h => h) (Or.inl ⟨by rfl, ?_⟩) (by assumption) ?_
            rotate_left
            · intro W' hSw; obtain ⟨s0, s1, s2, s3, s4⟩ := hSw; go_simp; all_goals (with_reducible rfl)
            try simp only [Act.put, List.setIfInBounds_toArray, List.set_cons_zero, List.set_cons_succ]
            refine wpAnyH_take (i := 21) (oi := { dst := some 81, op := Go.Op.pick (Go.Operand.tmp 71) (Go.Operand.tmp 80) (Go.Operand.const (Go.Value.bool false)), type := 4, pos := "keep.go:173", after := #[{ on := 11, ground := Go.Ground.data }, { on := 20, ground := Go.Ground.data }, { on := 7, ground := Go.Ground.guard }], guard := some (7, false) }) (v := ?_) rfl (by kernel_rfl) (by kernel_rfl) (by kernel_rfl) (fun _ _ _ h => h) (Or.inl ⟨by rfl, ?_⟩) (by assumption) ?_
            rotate_left
            · intro W' hSw; obtain ⟨s0, s1, s2, s3, s4⟩ := hSw; go_simp; all_goals (with_reducible rfl)
            try simp only [Act.put, List.setIfInBounds_toArray, List.set_cons_zero, List.set_cons_succ]
            refine wpAnyH_take (i := 22) (oi := { dst := some 82, op := Go.Op.pick (Go.Operand.tmp 67) (Go.Operand.const (Go.Value.bool true)) (Go.Operand.tmp 81), type := 4, pos := "keep.go:173", after := #[{ on := 7, ground := Go.Ground.data }, { on := 21, ground := Go.Ground.data }], guard := none }) (v := ?_) rfl (by kernel_rfl) (by kernel_rfl) (by kernel_rfl) (fun _ _ _ h => h) (Or.inl ⟨by rfl, ?_⟩) (by assumption) ?_
            rotate_left
            · intro W' hSw; obtain ⟨s0, s1, s2, s3, s4⟩ := hSw; go_simp; all_goals (with_reducible rfl)
            try simp only [Act.put, List.setIfInBounds_toArray, List.set_cons_zero, List.set_cons_succ]
            refine wpAnyH_done (by kernel_rfl) ?_ _
            go_wp2_with fail
            go_roundw
            case rel => exact ⟨j + 1, HJ.out, by go_num, (hbel.trans (hb78.mono hbel.size)).trans (((hbz.drew).trans (hb9.mono hbz.size)).mono (Nat.le_trans hbel.size hb78.size))⟩
            case measure => have := HJ.out; simp [intOf]; omega
      · obtain ⟨hw1, hw2, hw3⟩ := wh_sound HRO.out HWH.out HG5.out
        have HEv := eval_any st2.wher _ (.slice ro row.length rc) row w6.heap.size wr (IsE.keep (keepsC hbel) _ _ hE6) hbel.size (by rw [hw2]; exact HN2.out.1) (hw3 HN2.out.2) (hr6.below hbel) hrs hrl
        have hSw := (hbel.block _ hltS6).trans hS6
        have a9 := cell_of_block hSw (j := 9) rfl
        have a10 := cell_of_block hSw (j := 10) rfl
        have a11 := cell_of_block hSw (j := 11) rfl
        have a12 := cell_of_block hSw (j := 12) rfl
        have a13 := cell_of_block hSw (j := 13) rfl
        have a14 := cell_of_block hSw (j := 14) rfl
        have a15 := cell_of_block hSw (j := 15) rfl
        have a16 := cell_of_block hSw (j := 16) rfl
        generalize ev row st2.wher = v at HEv hw1
        obtain ⟨vk, vn, vs⟩ := v
        simp only [V.val] at HEv hw1
        clear hL6 hE6 hcL6 hr6 HSE HWH HG2 HG5 HN1 HN2 HRO HCT hw2 hw3
        rcases hw1 with rfl | rfl
        all_goals
          go_wp2_with (go_at_call 12; go_fit HEv; rintro e w7 ⟨rfl, hb7⟩)
          go_ret
          exact ⟨rfl, (hbw6.trans ((hbel.trans (hb7.mono hbel.size)).mono hbw6.size)).alloc (Nat.le_trans hbw6.size (Nat.le_trans hbel.size hb7.size)) _⟩

end Go.Proofs.Ytabanbpnghidhaa

