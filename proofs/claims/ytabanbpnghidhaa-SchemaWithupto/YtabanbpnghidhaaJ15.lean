/-
  2 texts of this proof in one, in build order: YBindS, YSchemas.
-/
import Derived.Test.YtabanbpnghidhaaJ13
namespace Go.Proofs.Ytabanbpnghidhaa
open Go.RowKit Go.Maps

/-- What Bind answers. -/
def BindPost (R : Except Int Stm) (F : Nat → Prop) (w' : World) (v : Value) : Prop :=
  match R with
  | .error m => v = .tuple #[.agg sZero, .int .i64 m]
  | .ok st => ∃ arr : Array Value, v = .tuple #[.agg arr, .int .i64 0] ∧ arr.size = 20 ∧ arr.all (·.oneCell') = true ∧ kStm.R F w' st arr.toList

theorem info_of {arr : Array Value} (h : arr.size = 20) : (Try.prog.info? 36).map (·.size) = some arr.size := by rw [h]; exact size_stm
theorem SeSt.row {w W : World} {arr : Array Value} (h : SeSt w W arr) {b : Nat} (hb : w.heap.size + 3 ≤ b) (cells : Array Value) : SeSt w (W.setRow b cells) arr :=
  ⟨block_row_other h.stm (by omega) _, block_row_other h.room (by omega) _, Below.row h.bel (by omega) _, Nat.le_trans h.big (by simp [World.setRow])⟩
theorem wpList_load_row_g {P : Program} {ops : Array Oper} {rest : List Oper} {o : Oper} {a : Act} {w : World} {Q : Exit → Act → World → Prop} (hw : Region.wanted o (yielded ops a.tmps) = true) (ty : TypeId) (x : Operand) (ho : o.op = .load ty x)
    (g : Nat) (hx : a.eval x = .pointer (some ⟨g, 0, none⟩)) (t : TypeId) (cs : Array Value) (fr : Nat × Nat) (d : TypeDesc) (hg : w.heap[g]? = some (.cells cs t fr))
    (hu : P.underlying ty = some d) (hd : (match d with | .struct _ | .array _ _ => true | _ => false) = true) (hi : (P.info? ty).map (·.size) = some cs.size)
    (h : wpList P ops Q rest (a.put o.dst (.agg cs)) w) : wpList P ops Q (o :: rest) a w :=
  wpList_step fun K hK => by rw [if_pos hw]; exact wp_load_row ty x ho g hx t cs fr d hg hu hd hi (hK _ _ h)

set_option maxRecDepth 100000 in
set_option maxHeartbeats 8000000 in
theorem bindS_badCat (ct : CatD) (cv : Value) (st : Stm) (cs : List Value) (C : Nat) (w : World) (hc : IsCat (fun k => k < C) w ct cv) (hR : kStm.R (fun k => k < C) w st cs) (hC : C ≤ w.heap.size) (hfc : fitCat ct) (hf : FitB st) (hcb : catB ct = false) :
    Calls Try.prog 5 #[cv, .agg cs.toArray] w fun r w' => (∃ u, r = .returned u ∧ BindPost (bindStm ct st) (Fx C w.heap.size) w' u) ∧ Below w.heap.size w w' := by
  obtain ⟨o1, c1, o2, c2, o3, c3, o4, c4, o5, c5, op, xk, xn, xs, s, nmv, n8, o6, k6, c6, o7, c7, rfl, i1, i2, i3, i4, i5, i6, i7⟩ := stm_shape hR
  obtain ⟨tv, iv, rfl, htl, hil⟩ := hc
  have hb3 := bel3 w (.cells #[tv, iv] 25) (.cells (sA st.kind st.name st.table st.col (.slice o1 st.cols.length c1) (.slice o2 st.rows.length c2) (.slice o3 st.sets.length c3) (.slice o4 st.frm.length c4) (.slice o5 st.out.length c5) op xk xn xs s nmv n8 (.slice o6 k6 c6) (.slice o7 st.order.length c7) st.down st.n) 36) (.cells sZero 36)
  have S0 : SeSt w (((w.alloc (.cells #[tv, iv] 25)).alloc (.cells (sA st.kind st.name st.table st.col (.slice o1 st.cols.length c1) (.slice o2 st.rows.length c2) (.slice o3 st.sets.length c3) (.slice o4 st.frm.length c4) (.slice o5 st.out.length c5) op xk xn xs s nmv n8 (.slice o6 k6 c6) (.slice o7 st.order.length c7) st.down st.n) 36)).alloc (.cells sZero 36)) (sA st.kind st.name st.table st.col (.slice o1 st.cols.length c1) (.slice o2 st.rows.length c2) (.slice o3 st.sets.length c3) (.slice o4 st.frm.length c4) (.slice o5 st.out.length c5) op xk xn xs s nmv n8 (.slice o6 k6 c6) (.slice o7 st.order.length c7) st.down st.n) := ⟨block_alloc_of (block2 w (.cells #[tv, iv] 25) (.cells (sA st.kind st.name st.table st.col (.slice o1 st.cols.length c1) (.slice o2 st.rows.length c2) (.slice o3 st.sets.length c3) (.slice o4 st.frm.length c4) (.slice o5 st.out.length c5) op xk xn xs s nmv n8 (.slice o6 k6 c6) (.slice o7 st.order.length c7) st.down st.n) 36)) _, block3 w (.cells #[tv, iv] 25) (.cells (sA st.kind st.name st.table st.col (.slice o1 st.cols.length c1) (.slice o2 st.rows.length c2) (.slice o3 st.sets.length c3) (.slice o4 st.frm.length c4) (.slice o5 st.out.length c5) op xk xn xs s nmv n8 (.slice o6 k6 c6) (.slice o7 st.order.length c7) st.down st.n) 36) (.cells sZero 36), hb3, by simp⟩
  have hcat : (((w.alloc (.cells #[tv, iv] 25)).alloc (.cells (sA st.kind st.name st.table st.col (.slice o1 st.cols.length c1) (.slice o2 st.rows.length c2) (.slice o3 st.sets.length c3) (.slice o4 st.frm.length c4) (.slice o5 st.out.length c5) op xk xn xs s nmv n8 (.slice o6 k6 c6) (.slice o7 st.order.length c7) st.down st.n) 36)).alloc (.cells sZero 36)).heap[w.heap.size]? = some (.cells #[tv, iv] 25) := block_alloc_of (block_alloc_of (block_alloc_at _ _) _) _
  have hz : sZero.all (·.oneCell') = true := one_sA (isSl _ _ _) (isSl _ _ _) (isSl _ _ _) (isSl _ _ _) (isSl _ _ _) (isSl _ _ _) (isSl _ _ _)
  have hCW : C ≤ (((w.alloc (.cells #[tv, iv] 25)).alloc (.cells (sA st.kind st.name st.table st.col (.slice o1 st.cols.length c1) (.slice o2 st.rows.length c2) (.slice o3 st.sets.length c3) (.slice o4 st.frm.length c4) (.slice o5 st.out.length c5) op xk xn xs s nmv n8 (.slice o6 k6 c6) (.slice o7 st.order.length c7) st.down st.n) 36)).alloc (.cells sZero 36)).heap.size := Nat.le_trans hC hb3.size
  have hcW : IsCat (fun k => k < C) (((w.alloc (.cells #[tv, iv] 25)).alloc (.cells (sA st.kind st.name st.table st.col (.slice o1 st.cols.length c1) (.slice o2 st.rows.length c2) (.slice o3 st.sets.length c3) (.slice o4 st.frm.length c4) (.slice o5 st.out.length c5) op xk xn xs s nmv n8 (.slice o6 k6 c6) (.slice o7 st.order.length c7) st.down st.n) 36)).alloc (.cells sZero 36)) ct (.agg #[tv, iv]) := ⟨tv, iv, rfl, htl.keep (keepsC (hb3.mono hC)), hil.keep (keepsC (hb3.mono hC))⟩
  have hRW := kStm.keep (keepsC (hb3.mono hC)) hR
  have ct0 := cell_of_block hcat (j := 0) rfl
  have ct1 := cell_of_block hcat (j := 1) rfl
  have hlc := lt_of_block hcat
  have HG := good_cat ct (.agg #[tv, iv]) C (((w.alloc (.cells #[tv, iv] 25)).alloc (.cells (sA st.kind st.name st.table st.col (.slice o1 st.cols.length c1) (.slice o2 st.rows.length c2) (.slice o3 st.sets.length c3) (.slice o4 st.frm.length c4) (.slice o5 st.out.length c5) op xk xn xs s nmv n8 (.slice o6 k6 c6) (.slice o7 st.order.length c7) st.down st.n) 36)).alloc (.cells sZero 36)) hcW hCW hfc
  have HX := fun (W : World) (h : Below (((w.alloc (.cells #[tv, iv] 25)).alloc (.cells (sA st.kind st.name st.table st.col (.slice o1 st.cols.length c1) (.slice o2 st.rows.length c2) (.slice o3 st.sets.length c3) (.slice o4 st.frm.length c4) (.slice o5 st.out.length c5) op xk xn xs s nmv n8 (.slice o6 k6 c6) (.slice o7 st.order.length c7) st.down st.n) 36)).alloc (.cells sZero 36)).heap.size (((w.alloc (.cells #[tv, iv] 25)).alloc (.cells (sA st.kind st.name st.table st.col (.slice o1 st.cols.length c1) (.slice o2 st.rows.length c2) (.slice o3 st.sets.length c3) (.slice o4 st.frm.length c4) (.slice o5 st.out.length c5) op xk xn xs s nmv n8 (.slice o6 k6 c6) (.slice o7 st.order.length c7) st.down st.n) 36)).alloc (.cells sZero 36)) W) => goodExprs_any st (sA st.kind st.name st.table st.col (.slice o1 st.cols.length c1) (.slice o2 st.rows.length c2) (.slice o3 st.sets.length c3) (.slice o4 st.frm.length c4) (.slice o5 st.out.length c5) op xk xn xs s nmv n8 (.slice o6 k6 c6) (.slice o7 st.order.length c7) st.down st.n).toList C W (kStm.keep (keepsC (h.mono hCW)) hRW) (Nat.le_trans hCW h.size) hf.fs
  have HE : Hid (bindStm ct st = .error 1) := if_pos (.inl hcb)
  rw [hcb] at HG
  clear hcW hRW htl hil hR i1 i2 i3 i4 i5 i6 i7 HX hcb
  go_enter Try.func5, Try.ntmps5
  go_wp2_with (first | (go_at_call 9; go_fit HG; rintro e w1 ⟨rfl, hb1⟩; have S1 := S0.below hb1) | (refine wpList_store_row rfl 36 _ _ rfl (w.heap.size + 1 + 1) sZero ?_ ?_ 36 sZero ?_ ?_ ?_ ?_ ?_; exact rfl; exact rfl; exact S1.room; exact size_stm; exact rfl; exact hz))
  refine bodyPost_ret (results_two Try.results5 _ _ (w.heap.size + 1 + 1) 36 sZero _ _ _ rfl rfl (block_row S1.room) Try.underlying36 rfl size_stm) rfl ⟨⟨_, rfl, ?_⟩, Below.row S1.bel (by omega) _⟩
  rw [HE.out]
  rfl

set_option maxRecDepth 100000 in
set_option maxHeartbeats 8000000 in
theorem bindS_badExpr (ct : CatD) (cv : Value) (st : Stm) (cs : List Value) (C : Nat) (w : World) (hc : IsCat (fun k => k < C) w ct cv) (hR : kStm.R (fun k => k < C) w st cs) (hC : C ≤ w.heap.size) (hfc : fitCat ct) (hf : FitB st) (hcb : catB ct = true) (hxb : exprsB st = false) :
    Calls Try.prog 5 #[cv, .agg cs.toArray] w fun r w' => (∃ u, r = .returned u ∧ BindPost (bindStm ct st) (Fx C w.heap.size) w' u) ∧ Below w.heap.size w w' := by
  obtain ⟨o1, c1, o2, c2, o3, c3, o4, c4, o5, c5, op, xk, xn, xs, s, nmv, n8, o6, k6, c6, o7, c7, rfl, i1, i2, i3, i4, i5, i6, i7⟩ := stm_shape hR
  obtain ⟨tv, iv, rfl, htl, hil⟩ := hc
  have hb3 := bel3 w (.cells #[tv, iv] 25) (.cells (sA st.kind st.name st.table st.col (.slice o1 st.cols.length c1) (.slice o2 st.rows.length c2) (.slice o3 st.sets.length c3) (.slice o4 st.frm.length c4) (.slice o5 st.out.length c5) op xk xn xs s nmv n8 (.slice o6 k6 c6) (.slice o7 st.order.length c7) st.down st.n) 36) (.cells sZero 36)
  have S0 : SeSt w (((w.alloc (.cells #[tv, iv] 25)).alloc (.cells (sA st.kind st.name st.table st.col (.slice o1 st.cols.length c1) (.slice o2 st.rows.length c2) (.slice o3 st.sets.length c3) (.slice o4 st.frm.length c4) (.slice o5 st.out.length c5) op xk xn xs s nmv n8 (.slice o6 k6 c6) (.slice o7 st.order.length c7) st.down st.n) 36)).alloc (.cells sZero 36)) (sA st.kind st.name st.table st.col (.slice o1 st.cols.length c1) (.slice o2 st.rows.length c2) (.slice o3 st.sets.length c3) (.slice o4 st.frm.length c4) (.slice o5 st.out.length c5) op xk xn xs s nmv n8 (.slice o6 k6 c6) (.slice o7 st.order.length c7) st.down st.n) := ⟨block_alloc_of (block2 w (.cells #[tv, iv] 25) (.cells (sA st.kind st.name st.table st.col (.slice o1 st.cols.length c1) (.slice o2 st.rows.length c2) (.slice o3 st.sets.length c3) (.slice o4 st.frm.length c4) (.slice o5 st.out.length c5) op xk xn xs s nmv n8 (.slice o6 k6 c6) (.slice o7 st.order.length c7) st.down st.n) 36)) _, block3 w (.cells #[tv, iv] 25) (.cells (sA st.kind st.name st.table st.col (.slice o1 st.cols.length c1) (.slice o2 st.rows.length c2) (.slice o3 st.sets.length c3) (.slice o4 st.frm.length c4) (.slice o5 st.out.length c5) op xk xn xs s nmv n8 (.slice o6 k6 c6) (.slice o7 st.order.length c7) st.down st.n) 36) (.cells sZero 36), hb3, by simp⟩
  have hcat : (((w.alloc (.cells #[tv, iv] 25)).alloc (.cells (sA st.kind st.name st.table st.col (.slice o1 st.cols.length c1) (.slice o2 st.rows.length c2) (.slice o3 st.sets.length c3) (.slice o4 st.frm.length c4) (.slice o5 st.out.length c5) op xk xn xs s nmv n8 (.slice o6 k6 c6) (.slice o7 st.order.length c7) st.down st.n) 36)).alloc (.cells sZero 36)).heap[w.heap.size]? = some (.cells #[tv, iv] 25) := block_alloc_of (block_alloc_of (block_alloc_at _ _) _) _
  have hz : sZero.all (·.oneCell') = true := one_sA (isSl _ _ _) (isSl _ _ _) (isSl _ _ _) (isSl _ _ _) (isSl _ _ _) (isSl _ _ _) (isSl _ _ _)
  have hCW : C ≤ (((w.alloc (.cells #[tv, iv] 25)).alloc (.cells (sA st.kind st.name st.table st.col (.slice o1 st.cols.length c1) (.slice o2 st.rows.length c2) (.slice o3 st.sets.length c3) (.slice o4 st.frm.length c4) (.slice o5 st.out.length c5) op xk xn xs s nmv n8 (.slice o6 k6 c6) (.slice o7 st.order.length c7) st.down st.n) 36)).alloc (.cells sZero 36)).heap.size := Nat.le_trans hC hb3.size
  have hcW : IsCat (fun k => k < C) (((w.alloc (.cells #[tv, iv] 25)).alloc (.cells (sA st.kind st.name st.table st.col (.slice o1 st.cols.length c1) (.slice o2 st.rows.length c2) (.slice o3 st.sets.length c3) (.slice o4 st.frm.length c4) (.slice o5 st.out.length c5) op xk xn xs s nmv n8 (.slice o6 k6 c6) (.slice o7 st.order.length c7) st.down st.n) 36)).alloc (.cells sZero 36)) ct (.agg #[tv, iv]) := ⟨tv, iv, rfl, htl.keep (keepsC (hb3.mono hC)), hil.keep (keepsC (hb3.mono hC))⟩
  have hRW := kStm.keep (keepsC (hb3.mono hC)) hR
  have ct0 := cell_of_block hcat (j := 0) rfl
  have ct1 := cell_of_block hcat (j := 1) rfl
  have hlc := lt_of_block hcat
  have HG := good_cat ct (.agg #[tv, iv]) C (((w.alloc (.cells #[tv, iv] 25)).alloc (.cells (sA st.kind st.name st.table st.col (.slice o1 st.cols.length c1) (.slice o2 st.rows.length c2) (.slice o3 st.sets.length c3) (.slice o4 st.frm.length c4) (.slice o5 st.out.length c5) op xk xn xs s nmv n8 (.slice o6 k6 c6) (.slice o7 st.order.length c7) st.down st.n) 36)).alloc (.cells sZero 36)) hcW hCW hfc
  have HX := fun (W : World) (h : Below (((w.alloc (.cells #[tv, iv] 25)).alloc (.cells (sA st.kind st.name st.table st.col (.slice o1 st.cols.length c1) (.slice o2 st.rows.length c2) (.slice o3 st.sets.length c3) (.slice o4 st.frm.length c4) (.slice o5 st.out.length c5) op xk xn xs s nmv n8 (.slice o6 k6 c6) (.slice o7 st.order.length c7) st.down st.n) 36)).alloc (.cells sZero 36)).heap.size (((w.alloc (.cells #[tv, iv] 25)).alloc (.cells (sA st.kind st.name st.table st.col (.slice o1 st.cols.length c1) (.slice o2 st.rows.length c2) (.slice o3 st.sets.length c3) (.slice o4 st.frm.length c4) (.slice o5 st.out.length c5) op xk xn xs s nmv n8 (.slice o6 k6 c6) (.slice o7 st.order.length c7) st.down st.n) 36)).alloc (.cells sZero 36)) W) => goodExprs_any st (sA st.kind st.name st.table st.col (.slice o1 st.cols.length c1) (.slice o2 st.rows.length c2) (.slice o3 st.sets.length c3) (.slice o4 st.frm.length c4) (.slice o5 st.out.length c5) op xk xn xs s nmv n8 (.slice o6 k6 c6) (.slice o7 st.order.length c7) st.down st.n).toList C W (kStm.keep (keepsC (h.mono hCW)) hRW) (Nat.le_trans hCW h.size) hf.fs
  rw [hcb] at HG
  have HE : Hid (bindStm ct st = .error 1) := if_pos (.inr hxb)
  rw [hxb] at HX
  clear hcW hRW htl hil hR i1 i2 i3 i4 i5 i6 i7 hcb hxb
  go_enter Try.func5, Try.ntmps5
  go_wp2_with (first | (go_at_call 9; go_fit HG; rintro e w1 ⟨rfl, hb1⟩; have S1 := S0.below hb1; have HX1 := HX _ hb1) | (go_at_call 14; go_fit HX1; rintro e w2 ⟨rfl, hb2⟩; have S2 := S1.below hb2) | (refine wpList_load_row_g ?_ 36 _ rfl (w.heap.size + 1) ?_ 36 _ (0, 0) _ S1.stm Try.underlying36 ?_ ?_ ?_; exact rfl; exact rfl; exact rfl; exact size_stm) | (refine wpList_store_row rfl 36 _ _ rfl (w.heap.size + 1 + 1) sZero ?_ ?_ 36 sZero ?_ ?_ ?_ ?_ ?_; exact rfl; exact rfl; exact S2.room; exact size_stm; exact rfl; exact hz))
  refine bodyPost_ret (results_two Try.results5 _ _ (w.heap.size + 1 + 1) 36 sZero _ _ _ rfl rfl (block_row S2.room) Try.underlying36 rfl size_stm) rfl ⟨⟨_, rfl, ?_⟩, Below.row S2.bel (by omega) _⟩
  rw [HE.out]
  rfl

set_option maxRecDepth 100000 in
set_option maxHeartbeats 8000000 in
theorem bindS_err (ct : CatD) (cv : Value) (st : Stm) (cs : List Value) (C : Nat) (w : World) (hc : IsCat (fun k => k < C) w ct cv) (hR : kStm.R (fun k => k < C) w st cs) (hC : C ≤ w.heap.size) (hfc : fitCat ct) (hf : FitB st) (hcb : catB ct = true) (hxb : exprsB st = true) (m : Int) (hkr : kindR ct st = .error m) :
    Calls Try.prog 5 #[cv, .agg cs.toArray] w fun r w' => (∃ u, r = .returned u ∧ BindPost (bindStm ct st) (Fx C w.heap.size) w' u) ∧ Below w.heap.size w w' := by
  obtain ⟨o1, c1, o2, c2, o3, c3, o4, c4, o5, c5, op, xk, xn, xs, s, nmv, n8, o6, k6, c6, o7, c7, rfl, i1, i2, i3, i4, i5, i6, i7⟩ := stm_shape hR
  obtain ⟨tv, iv, rfl, htl, hil⟩ := hc
  have hb3 := bel3 w (.cells #[tv, iv] 25) (.cells (sA st.kind st.name st.table st.col (.slice o1 st.cols.length c1) (.slice o2 st.rows.length c2) (.slice o3 st.sets.length c3) (.slice o4 st.frm.length c4) (.slice o5 st.out.length c5) op xk xn xs s nmv n8 (.slice o6 k6 c6) (.slice o7 st.order.length c7) st.down st.n) 36) (.cells sZero 36)
  have S0 : SeSt w (((w.alloc (.cells #[tv, iv] 25)).alloc (.cells (sA st.kind st.name st.table st.col (.slice o1 st.cols.length c1) (.slice o2 st.rows.length c2) (.slice o3 st.sets.length c3) (.slice o4 st.frm.length c4) (.slice o5 st.out.length c5) op xk xn xs s nmv n8 (.slice o6 k6 c6) (.slice o7 st.order.length c7) st.down st.n) 36)).alloc (.cells sZero 36)) (sA st.kind st.name st.table st.col (.slice o1 st.cols.length c1) (.slice o2 st.rows.length c2) (.slice o3 st.sets.length c3) (.slice o4 st.frm.length c4) (.slice o5 st.out.length c5) op xk xn xs s nmv n8 (.slice o6 k6 c6) (.slice o7 st.order.length c7) st.down st.n) := ⟨block_alloc_of (block2 w (.cells #[tv, iv] 25) (.cells (sA st.kind st.name st.table st.col (.slice o1 st.cols.length c1) (.slice o2 st.rows.length c2) (.slice o3 st.sets.length c3) (.slice o4 st.frm.length c4) (.slice o5 st.out.length c5) op xk xn xs s nmv n8 (.slice o6 k6 c6) (.slice o7 st.order.length c7) st.down st.n) 36)) _, block3 w (.cells #[tv, iv] 25) (.cells (sA st.kind st.name st.table st.col (.slice o1 st.cols.length c1) (.slice o2 st.rows.length c2) (.slice o3 st.sets.length c3) (.slice o4 st.frm.length c4) (.slice o5 st.out.length c5) op xk xn xs s nmv n8 (.slice o6 k6 c6) (.slice o7 st.order.length c7) st.down st.n) 36) (.cells sZero 36), hb3, by simp⟩
  have hcat : (((w.alloc (.cells #[tv, iv] 25)).alloc (.cells (sA st.kind st.name st.table st.col (.slice o1 st.cols.length c1) (.slice o2 st.rows.length c2) (.slice o3 st.sets.length c3) (.slice o4 st.frm.length c4) (.slice o5 st.out.length c5) op xk xn xs s nmv n8 (.slice o6 k6 c6) (.slice o7 st.order.length c7) st.down st.n) 36)).alloc (.cells sZero 36)).heap[w.heap.size]? = some (.cells #[tv, iv] 25) := block_alloc_of (block_alloc_of (block_alloc_at _ _) _) _
  have hz : sZero.all (·.oneCell') = true := one_sA (isSl _ _ _) (isSl _ _ _) (isSl _ _ _) (isSl _ _ _) (isSl _ _ _) (isSl _ _ _) (isSl _ _ _)
  have hCW : C ≤ (((w.alloc (.cells #[tv, iv] 25)).alloc (.cells (sA st.kind st.name st.table st.col (.slice o1 st.cols.length c1) (.slice o2 st.rows.length c2) (.slice o3 st.sets.length c3) (.slice o4 st.frm.length c4) (.slice o5 st.out.length c5) op xk xn xs s nmv n8 (.slice o6 k6 c6) (.slice o7 st.order.length c7) st.down st.n) 36)).alloc (.cells sZero 36)).heap.size := Nat.le_trans hC hb3.size
  have hcW : IsCat (fun k => k < C) (((w.alloc (.cells #[tv, iv] 25)).alloc (.cells (sA st.kind st.name st.table st.col (.slice o1 st.cols.length c1) (.slice o2 st.rows.length c2) (.slice o3 st.sets.length c3) (.slice o4 st.frm.length c4) (.slice o5 st.out.length c5) op xk xn xs s nmv n8 (.slice o6 k6 c6) (.slice o7 st.order.length c7) st.down st.n) 36)).alloc (.cells sZero 36)) ct (.agg #[tv, iv]) := ⟨tv, iv, rfl, htl.keep (keepsC (hb3.mono hC)), hil.keep (keepsC (hb3.mono hC))⟩
  have hRW := kStm.keep (keepsC (hb3.mono hC)) hR
  have ct0 := cell_of_block hcat (j := 0) rfl
  have ct1 := cell_of_block hcat (j := 1) rfl
  have hlc := lt_of_block hcat
  have HG := good_cat ct (.agg #[tv, iv]) C (((w.alloc (.cells #[tv, iv] 25)).alloc (.cells (sA st.kind st.name st.table st.col (.slice o1 st.cols.length c1) (.slice o2 st.rows.length c2) (.slice o3 st.sets.length c3) (.slice o4 st.frm.length c4) (.slice o5 st.out.length c5) op xk xn xs s nmv n8 (.slice o6 k6 c6) (.slice o7 st.order.length c7) st.down st.n) 36)).alloc (.cells sZero 36)) hcW hCW hfc
  have HX := fun (W : World) (h : Below (((w.alloc (.cells #[tv, iv] 25)).alloc (.cells (sA st.kind st.name st.table st.col (.slice o1 st.cols.length c1) (.slice o2 st.rows.length c2) (.slice o3 st.sets.length c3) (.slice o4 st.frm.length c4) (.slice o5 st.out.length c5) op xk xn xs s nmv n8 (.slice o6 k6 c6) (.slice o7 st.order.length c7) st.down st.n) 36)).alloc (.cells sZero 36)).heap.size (((w.alloc (.cells #[tv, iv] 25)).alloc (.cells (sA st.kind st.name st.table st.col (.slice o1 st.cols.length c1) (.slice o2 st.rows.length c2) (.slice o3 st.sets.length c3) (.slice o4 st.frm.length c4) (.slice o5 st.out.length c5) op xk xn xs s nmv n8 (.slice o6 k6 c6) (.slice o7 st.order.length c7) st.down st.n) 36)).alloc (.cells sZero 36)) W) => goodExprs_any st (sA st.kind st.name st.table st.col (.slice o1 st.cols.length c1) (.slice o2 st.rows.length c2) (.slice o3 st.sets.length c3) (.slice o4 st.frm.length c4) (.slice o5 st.out.length c5) op xk xn xs s nmv n8 (.slice o6 k6 c6) (.slice o7 st.order.length c7) st.down st.n).toList C W (kStm.keep (keepsC (h.mono hCW)) hRW) (Nat.le_trans hCW h.size) hf.fs
  rw [hcb] at HG
  have HE0 : Hid (bindStm ct st = kindR ct st) := if_neg (by rw [hcb, hxb]; simp)
  rw [hxb] at HX
  have HK : ∀ (W : World), Below (((w.alloc (.cells #[tv, iv] 25)).alloc (.cells (sA st.kind st.name st.table st.col (.slice o1 st.cols.length c1) (.slice o2 st.rows.length c2) (.slice o3 st.sets.length c3) (.slice o4 st.frm.length c4) (.slice o5 st.out.length c5) op xk xn xs s nmv n8 (.slice o6 k6 c6) (.slice o7 st.order.length c7) st.down st.n) 36)).alloc (.cells sZero 36)).heap.size (((w.alloc (.cells #[tv, iv] 25)).alloc (.cells (sA st.kind st.name st.table st.col (.slice o1 st.cols.length c1) (.slice o2 st.rows.length c2) (.slice o3 st.sets.length c3) (.slice o4 st.frm.length c4) (.slice o5 st.out.length c5) op xk xn xs s nmv n8 (.slice o6 k6 c6) (.slice o7 st.order.length c7) st.down st.n) 36)).alloc (.cells sZero 36)) W → Calls Try.prog 15 #[.agg #[tv, iv], .agg (sA st.kind st.name st.table st.col (.slice o1 st.cols.length c1) (.slice o2 st.rows.length c2) (.slice o3 st.sets.length c3) (.slice o4 st.frm.length c4) (.slice o5 st.out.length c5) op xk xn xs s nmv n8 (.slice o6 k6 c6) (.slice o7 st.order.length c7) st.down st.n)] W fun r w' => ∃ (arr : Array Value) (z : Int), r = .returned (.tuple #[.agg arr, .int .i64 z]) ∧ arr.size = 20 ∧ arr.all (·.oneCell') = true ∧ (match kindR ct st with | .error m => z = m | .ok st => z = 0 ∧ kStm.R (Fx C (w.heap.size + 3)) w' st arr.toList) ∧ Below W.heap.size W w' := fun W h => (bindKind_any ct (.agg #[tv, iv]) st (sA st.kind st.name st.table st.col (.slice o1 st.cols.length c1) (.slice o2 st.rows.length c2) (.slice o3 st.sets.length c3) (.slice o4 st.frm.length c4) (.slice o5 st.out.length c5) op xk xn xs s nmv n8 (.slice o6 k6 c6) (.slice o7 st.order.length c7) st.down st.n).toList C W (hcW.keep (keepsC (h.mono hCW))) (kStm.keep (keepsC (h.mono hCW)) hRW) (Nat.le_trans hCW h.size) hf hxb (cat_cols hcb)).mono (by
    rintro r w' ⟨⟨v, rfl, arr, ha1, ha2, hv⟩, hb'⟩
    cases hr : kindR ct st with
    | error m =>
      rw [hr] at hv
      obtain rfl := hv
      exact ⟨arr, m, rfl, ha1, ha2, rfl, hb'⟩
    | ok e2 =>
      rw [hr] at hv
      obtain ⟨rfl, hE'⟩ := hv
      exact ⟨arr, 0, rfl, ha1, ha2, ⟨rfl, kStm.mono (fun k _ hk => hk.imp id (fun h2 => Nat.le_trans (Nat.le_trans S0.big h.size) h2)) hE'⟩, hb'⟩)
  have h12 : (1 : Nat) = 1 := rfl
  have hm := kindR_err hkr
  have HE : Hid (bindStm ct st = .error m) := HE0.out.trans hkr
  rw [hkr] at HK
  simp only at HK
  clear hcW hRW htl hil hR i1 i2 i3 i4 i5 i6 i7 hcb hxb HE0 hkr h12
  rcases hm with rfl | rfl | rfl | rfl | rfl
  all_goals
    go_enter Try.func5, Try.ntmps5
    go_wp2_with (first | (go_at_call 9; go_fit HG; rintro e w1 ⟨rfl, hb1⟩; have S1 := S0.below hb1; have HX1 := HX _ hb1; have y0 := (hb1.cell (p := ⟨w.heap.size, 0, none⟩) hlc).trans ct0; have y1 := (hb1.cell (p := ⟨w.heap.size, 1, none⟩) hlc).trans ct1) | (go_at_call 14; go_fit HX1; rintro e w2 ⟨rfl, hb2⟩; have S2 := S1.below hb2; have hb12 := bthen hb1 hb2; have z0 := (hb2.cell (p := ⟨w.heap.size, 0, none⟩) (Nat.lt_of_lt_of_le hlc hb1.size)).trans y0; have z1 := (hb2.cell (p := ⟨w.heap.size, 1, none⟩) (Nat.lt_of_lt_of_le hlc hb1.size)).trans y1; have HK1 := HK _ hb12) | (go_at_call 15; refine HK1.mono ?_; rintro r w3 ⟨arr, z, rfl, ha1, ha2, rfl, hb3'⟩; have S3 := (S2.below hb3').below (bel1 w3 (.cells sZero 36)); have hnew := block_alloc_at w3 (.cells sZero 36); have hi1 := info_of ha1; have S4 : SeSt w ((w3.alloc (.cells sZero 36)).setRow w3.heap.size arr) (sA st.kind st.name st.table st.col (.slice o1 st.cols.length c1) (.slice o2 st.rows.length c2) (.slice o3 st.sets.length c3) (.slice o4 st.frm.length c4) (.slice o5 st.out.length c5) op xk xn xs s nmv n8 (.slice o6 k6 c6) (.slice o7 st.order.length c7) st.down st.n) := S3.row (S2.below hb3').big _; have hbox : ((w3.alloc (.cells sZero 36)).setRow w3.heap.size arr).heap[w3.heap.size]? = some (.cells arr 36) := block_row hnew) | (refine wpList_store_row rfl 36 _ _ rfl w3.heap.size arr ?_ ?_ 36 sZero ?_ ?_ ?_ ?_ ?_; exact rfl; exact rfl; exact hnew; exact hi1; exact ha1.symm; exact ha2) | (refine wpList_load_row rfl 36 _ rfl (w.heap.size + 1) ?_ 36 _ (0, 0) _ S2.stm Try.underlying36 ?_ ?_ ?_; exact rfl; exact rfl; exact size_stm) | (refine wpList_load_row_g ?_ 36 _ rfl (w.heap.size + 1) ?_ 36 _ (0, 0) _ S1.stm Try.underlying36 ?_ ?_ ?_; exact rfl; exact rfl; exact rfl; exact size_stm) | (refine wpList_store_row rfl 36 _ _ rfl (w.heap.size + 1 + 1) sZero ?_ ?_ 36 sZero ?_ ?_ ?_ ?_ ?_; exact rfl; exact rfl; exact S4.room; exact size_stm; exact rfl; exact hz))
    refine bodyPost_ret (results_two Try.results5 _ _ (w.heap.size + 1 + 1) 36 sZero _ _ _ rfl rfl (block_row S4.room) Try.underlying36 rfl size_stm) rfl ⟨⟨_, rfl, ?_⟩, Below.row S4.bel (by omega) _⟩
    rw [HE.out]
    rfl

set_option maxRecDepth 100000 in
set_option maxHeartbeats 8000000 in
theorem bindS_ok (ct : CatD) (cv : Value) (st : Stm) (cs : List Value) (C : Nat) (w : World) (hc : IsCat (fun k => k < C) w ct cv) (hR : kStm.R (fun k => k < C) w st cs) (hC : C ≤ w.heap.size) (hfc : fitCat ct) (hf : FitB st) (hcb : catB ct = true) (hxb : exprsB st = true) (st2 : Stm) (hkr : kindR ct st = .ok st2) :
    Calls Try.prog 5 #[cv, .agg cs.toArray] w fun r w' => (∃ u, r = .returned u ∧ BindPost (bindStm ct st) (Fx C w.heap.size) w' u) ∧ Below w.heap.size w w' := by
  obtain ⟨o1, c1, o2, c2, o3, c3, o4, c4, o5, c5, op, xk, xn, xs, s, nmv, n8, o6, k6, c6, o7, c7, rfl, i1, i2, i3, i4, i5, i6, i7⟩ := stm_shape hR
  obtain ⟨tv, iv, rfl, htl, hil⟩ := hc
  have hb3 := bel3 w (.cells #[tv, iv] 25) (.cells (sA st.kind st.name st.table st.col (.slice o1 st.cols.length c1) (.slice o2 st.rows.length c2) (.slice o3 st.sets.length c3) (.slice o4 st.frm.length c4) (.slice o5 st.out.length c5) op xk xn xs s nmv n8 (.slice o6 k6 c6) (.slice o7 st.order.length c7) st.down st.n) 36) (.cells sZero 36)
  have S0 : SeSt w (((w.alloc (.cells #[tv, iv] 25)).alloc (.cells (sA st.kind st.name st.table st.col (.slice o1 st.cols.length c1) (.slice o2 st.rows.length c2) (.slice o3 st.sets.length c3) (.slice o4 st.frm.length c4) (.slice o5 st.out.length c5) op xk xn xs s nmv n8 (.slice o6 k6 c6) (.slice o7 st.order.length c7) st.down st.n) 36)).alloc (.cells sZero 36)) (sA st.kind st.name st.table st.col (.slice o1 st.cols.length c1) (.slice o2 st.rows.length c2) (.slice o3 st.sets.length c3) (.slice o4 st.frm.length c4) (.slice o5 st.out.length c5) op xk xn xs s nmv n8 (.slice o6 k6 c6) (.slice o7 st.order.length c7) st.down st.n) := ⟨block_alloc_of (block2 w (.cells #[tv, iv] 25) (.cells (sA st.kind st.name st.table st.col (.slice o1 st.cols.length c1) (.slice o2 st.rows.length c2) (.slice o3 st.sets.length c3) (.slice o4 st.frm.length c4) (.slice o5 st.out.length c5) op xk xn xs s nmv n8 (.slice o6 k6 c6) (.slice o7 st.order.length c7) st.down st.n) 36)) _, block3 w (.cells #[tv, iv] 25) (.cells (sA st.kind st.name st.table st.col (.slice o1 st.cols.length c1) (.slice o2 st.rows.length c2) (.slice o3 st.sets.length c3) (.slice o4 st.frm.length c4) (.slice o5 st.out.length c5) op xk xn xs s nmv n8 (.slice o6 k6 c6) (.slice o7 st.order.length c7) st.down st.n) 36) (.cells sZero 36), hb3, by simp⟩
  have hcat : (((w.alloc (.cells #[tv, iv] 25)).alloc (.cells (sA st.kind st.name st.table st.col (.slice o1 st.cols.length c1) (.slice o2 st.rows.length c2) (.slice o3 st.sets.length c3) (.slice o4 st.frm.length c4) (.slice o5 st.out.length c5) op xk xn xs s nmv n8 (.slice o6 k6 c6) (.slice o7 st.order.length c7) st.down st.n) 36)).alloc (.cells sZero 36)).heap[w.heap.size]? = some (.cells #[tv, iv] 25) := block_alloc_of (block_alloc_of (block_alloc_at _ _) _) _
  have hz : sZero.all (·.oneCell') = true := one_sA (isSl _ _ _) (isSl _ _ _) (isSl _ _ _) (isSl _ _ _) (isSl _ _ _) (isSl _ _ _) (isSl _ _ _)
  have hCW : C ≤ (((w.alloc (.cells #[tv, iv] 25)).alloc (.cells (sA st.kind st.name st.table st.col (.slice o1 st.cols.length c1) (.slice o2 st.rows.length c2) (.slice o3 st.sets.length c3) (.slice o4 st.frm.length c4) (.slice o5 st.out.length c5) op xk xn xs s nmv n8 (.slice o6 k6 c6) (.slice o7 st.order.length c7) st.down st.n) 36)).alloc (.cells sZero 36)).heap.size := Nat.le_trans hC hb3.size
  have hcW : IsCat (fun k => k < C) (((w.alloc (.cells #[tv, iv] 25)).alloc (.cells (sA st.kind st.name st.table st.col (.slice o1 st.cols.length c1) (.slice o2 st.rows.length c2) (.slice o3 st.sets.length c3) (.slice o4 st.frm.length c4) (.slice o5 st.out.length c5) op xk xn xs s nmv n8 (.slice o6 k6 c6) (.slice o7 st.order.length c7) st.down st.n) 36)).alloc (.cells sZero 36)) ct (.agg #[tv, iv]) := ⟨tv, iv, rfl, htl.keep (keepsC (hb3.mono hC)), hil.keep (keepsC (hb3.mono hC))⟩
  have hRW := kStm.keep (keepsC (hb3.mono hC)) hR
  have ct0 := cell_of_block hcat (j := 0) rfl
  have ct1 := cell_of_block hcat (j := 1) rfl
  have hlc := lt_of_block hcat
  have HG := good_cat ct (.agg #[tv, iv]) C (((w.alloc (.cells #[tv, iv] 25)).alloc (.cells (sA st.kind st.name st.table st.col (.slice o1 st.cols.length c1) (.slice o2 st.rows.length c2) (.slice o3 st.sets.length c3) (.slice o4 st.frm.length c4) (.slice o5 st.out.length c5) op xk xn xs s nmv n8 (.slice o6 k6 c6) (.slice o7 st.order.length c7) st.down st.n) 36)).alloc (.cells sZero 36)) hcW hCW hfc
  have HX := fun (W : World) (h : Below (((w.alloc (.cells #[tv, iv] 25)).alloc (.cells (sA st.kind st.name st.table st.col (.slice o1 st.cols.length c1) (.slice o2 st.rows.length c2) (.slice o3 st.sets.length c3) (.slice o4 st.frm.length c4) (.slice o5 st.out.length c5) op xk xn xs s nmv n8 (.slice o6 k6 c6) (.slice o7 st.order.length c7) st.down st.n) 36)).alloc (.cells sZero 36)).heap.size (((w.alloc (.cells #[tv, iv] 25)).alloc (.cells (sA st.kind st.name st.table st.col (.slice o1 st.cols.length c1) (.slice o2 st.rows.length c2) (.slice o3 st.sets.length c3) (.slice o4 st.frm.length c4) (.slice o5 st.out.length c5) op xk xn xs s nmv n8 (.slice o6 k6 c6) (.slice o7 st.order.length c7) st.down st.n) 36)).alloc (.cells sZero 36)) W) => goodExprs_any st (sA st.kind st.name st.table st.col (.slice o1 st.cols.length c1) (.slice o2 st.rows.length c2) (.slice o3 st.sets.length c3) (.slice o4 st.frm.length c4) (.slice o5 st.out.length c5) op xk xn xs s nmv n8 (.slice o6 k6 c6) (.slice o7 st.order.length c7) st.down st.n).toList C W (kStm.keep (keepsC (h.mono hCW)) hRW) (Nat.le_trans hCW h.size) hf.fs
  rw [hcb] at HG
  have HE0 : Hid (bindStm ct st = kindR ct st) := if_neg (by rw [hcb, hxb]; simp)
  rw [hxb] at HX
  have HK : ∀ (W : World), Below (((w.alloc (.cells #[tv, iv] 25)).alloc (.cells (sA st.kind st.name st.table st.col (.slice o1 st.cols.length c1) (.slice o2 st.rows.length c2) (.slice o3 st.sets.length c3) (.slice o4 st.frm.length c4) (.slice o5 st.out.length c5) op xk xn xs s nmv n8 (.slice o6 k6 c6) (.slice o7 st.order.length c7) st.down st.n) 36)).alloc (.cells sZero 36)).heap.size (((w.alloc (.cells #[tv, iv] 25)).alloc (.cells (sA st.kind st.name st.table st.col (.slice o1 st.cols.length c1) (.slice o2 st.rows.length c2) (.slice o3 st.sets.length c3) (.slice o4 st.frm.length c4) (.slice o5 st.out.length c5) op xk xn xs s nmv n8 (.slice o6 k6 c6) (.slice o7 st.order.length c7) st.down st.n) 36)).alloc (.cells sZero 36)) W → Calls Try.prog 15 #[.agg #[tv, iv], .agg (sA st.kind st.name st.table st.col (.slice o1 st.cols.length c1) (.slice o2 st.rows.length c2) (.slice o3 st.sets.length c3) (.slice o4 st.frm.length c4) (.slice o5 st.out.length c5) op xk xn xs s nmv n8 (.slice o6 k6 c6) (.slice o7 st.order.length c7) st.down st.n)] W fun r w' => ∃ (arr : Array Value) (z : Int), r = .returned (.tuple #[.agg arr, .int .i64 z]) ∧ arr.size = 20 ∧ arr.all (·.oneCell') = true ∧ (match kindR ct st with | .error m => z = m | .ok st => z = 0 ∧ kStm.R (Fx C (w.heap.size + 3)) w' st arr.toList) ∧ Below W.heap.size W w' := fun W h => (bindKind_any ct (.agg #[tv, iv]) st (sA st.kind st.name st.table st.col (.slice o1 st.cols.length c1) (.slice o2 st.rows.length c2) (.slice o3 st.sets.length c3) (.slice o4 st.frm.length c4) (.slice o5 st.out.length c5) op xk xn xs s nmv n8 (.slice o6 k6 c6) (.slice o7 st.order.length c7) st.down st.n).toList C W (hcW.keep (keepsC (h.mono hCW))) (kStm.keep (keepsC (h.mono hCW)) hRW) (Nat.le_trans hCW h.size) hf hxb (cat_cols hcb)).mono (by
    rintro r w' ⟨⟨v, rfl, arr, ha1, ha2, hv⟩, hb'⟩
    cases hr : kindR ct st with
    | error m =>
      rw [hr] at hv
      obtain rfl := hv
      exact ⟨arr, m, rfl, ha1, ha2, rfl, hb'⟩
    | ok e2 =>
      rw [hr] at hv
      obtain ⟨rfl, hE'⟩ := hv
      exact ⟨arr, 0, rfl, ha1, ha2, ⟨rfl, kStm.mono (fun k _ hk => hk.imp id (fun h2 => Nat.le_trans (Nat.le_trans S0.big h.size) h2)) hE'⟩, hb'⟩)
  have h12 : (1 : Nat) = 1 := rfl
  have HE : Hid (bindStm ct st = .ok st2) := HE0.out.trans hkr
  rw [hkr] at HK
  simp only at HK
  clear hcW hRW htl hil hR i1 i2 i3 i4 i5 i6 i7 hcb hxb HE0 hkr h12
  go_enter Try.func5, Try.ntmps5
  go_wp2_with (first | (go_at_call 9; go_fit HG; rintro e w1 ⟨rfl, hb1⟩; have S1 := S0.below hb1; have HX1 := HX _ hb1; have y0 := (hb1.cell (p := ⟨w.heap.size, 0, none⟩) hlc).trans ct0; have y1 := (hb1.cell (p := ⟨w.heap.size, 1, none⟩) hlc).trans ct1) | (go_at_call 14; go_fit HX1; rintro e w2 ⟨rfl, hb2⟩; have S2 := S1.below hb2; have hb12 := bthen hb1 hb2; have z0 := (hb2.cell (p := ⟨w.heap.size, 0, none⟩) (Nat.lt_of_lt_of_le hlc hb1.size)).trans y0; have z1 := (hb2.cell (p := ⟨w.heap.size, 1, none⟩) (Nat.lt_of_lt_of_le hlc hb1.size)).trans y1; have HK1 := HK _ hb12) | (go_at_call 15; refine HK1.mono ?_; rintro r w3 ⟨arr, z, rfl, ha1, ha2, ⟨rfl, hE6⟩, hb3'⟩; have S3 := (S2.below hb3').below (bel1 w3 (.cells sZero 36)); have hnew := block_alloc_at w3 (.cells sZero 36); have hi1 := info_of ha1; have S4 : SeSt w ((w3.alloc (.cells sZero 36)).setRow w3.heap.size arr) (sA st.kind st.name st.table st.col (.slice o1 st.cols.length c1) (.slice o2 st.rows.length c2) (.slice o3 st.sets.length c3) (.slice o4 st.frm.length c4) (.slice o5 st.out.length c5) op xk xn xs s nmv n8 (.slice o6 k6 c6) (.slice o7 st.order.length c7) st.down st.n) := S3.row (S2.below hb3').big _; have hbox : ((w3.alloc (.cells sZero 36)).setRow w3.heap.size arr).heap[w3.heap.size]? = some (.cells arr 36) := block_row hnew) | (refine wpList_store_row rfl 36 _ _ rfl w3.heap.size arr ?_ ?_ 36 sZero ?_ ?_ ?_ ?_ ?_; exact rfl; exact rfl; exact hnew; exact hi1; exact ha1.symm; exact ha2) | (refine wpList_load_row rfl 36 _ rfl (w.heap.size + 1) ?_ 36 _ (0, 0) _ S2.stm Try.underlying36 ?_ ?_ ?_; exact rfl; exact rfl; exact size_stm) | (refine wpList_load_row_g ?_ 36 _ rfl (w.heap.size + 1) ?_ 36 _ (0, 0) _ S1.stm Try.underlying36 ?_ ?_ ?_; exact rfl; exact rfl; exact rfl; exact size_stm) | (refine wpList_load_row rfl 36 _ rfl w3.heap.size ?_ 36 _ (0, 0) _ hbox Try.underlying36 ?_ ?_ ?_; exact rfl; exact rfl; exact hi1) | (refine wpList_store_row rfl 36 _ _ rfl (w.heap.size + 1 + 1) arr ?_ ?_ 36 sZero ?_ ?_ ?_ ?_ ?_; exact rfl; exact rfl; exact S4.room; exact hi1; exact ha1.symm; exact ha2))
  refine bodyPost_ret (results_two Try.results5 _ _ (w.heap.size + 1 + 1) 36 arr _ _ _ rfl rfl (block_row S4.room) Try.underlying36 rfl hi1) rfl ⟨⟨_, rfl, ?_⟩, Below.row S4.bel (by omega) _⟩
  rw [HE.out]
  have hF2 : ¬ Fx C (w.heap.size + 3) (w.heap.size + 1 + 1) := by intro h; rcases h with h | h <;> omega
  have hp : ¬ (fun k => Fx C (w.heap.size + 3) k ∧ k ≠ w3.heap.size) w3.heap.size := fun h => h.2 rfl
  have hE7 : kStm.R (fun k => Fx C (w.heap.size + 3) k ∧ k ≠ w3.heap.size) w3 st2 arr.toList := kStm.mono (fun k hk h => ⟨h, Nat.ne_of_lt hk⟩) hE6
  exact ⟨arr, rfl, ha1, ha2, kStm.mono (fun k _ h => h.1.imp id (fun h => Nat.le_trans (by omega) h)) (kStm.keep ((((keepsB (bel1 w3 _)).row hp _)).row (fun h => hF2 h.1) _) hE7)⟩

set_option maxRecDepth 100000 in
set_option maxHeartbeats 8000000 in
theorem bindS_any (ct : CatD) (cv : Value) (st : Stm) (cs : List Value) (C : Nat) (w : World) (hc : IsCat (fun k => k < C) w ct cv) (hR : kStm.R (fun k => k < C) w st cs) (hC : C ≤ w.heap.size) (hfc : fitCat ct) (hf : FitB st) :
    Calls Try.prog 5 #[cv, .agg cs.toArray] w fun r w' => (∃ u, r = .returned u ∧ BindPost (bindStm ct st) (Fx C w.heap.size) w' u) ∧ Below w.heap.size w w' := by
  cases hcb : catB ct
  · exact bindS_badCat ct cv st cs C w hc hR hC hfc hf hcb
  · cases hxb : exprsB st
    · exact bindS_badExpr ct cv st cs C w hc hR hC hfc hf hcb hxb
    · cases hkr : kindR ct st with
      | error m => exact bindS_err ct cv st cs C w hc hR hC hfc hf hcb hxb m hkr
      | ok st2 => exact bindS_ok ct cv st cs C w hc hR hC hfc hf hcb hxb st2 hkr

end Go.Proofs.Ytabanbpnghidhaa

namespace Go.Proofs.Ytabanbpnghidhaa
open Go.RowKit Go.Maps

abbrev wA : Wd := ⟨#[97]⟩
abbrev wT : Wd := ⟨#[116]⟩
def tT : TabD := ⟨wT, [⟨wA, 1, true⟩]⟩
def cT : CatD := ⟨[tT], []⟩
def sT : Stm := ⟨7, noW, noW, noW, [], [], [], [wT], [], .mk 0 zero noW noW 0 [], [], false, -1⟩
theorem good_cT : catB cT = true := by kernel_rfl
theorem bind_sT : bindStm cT sT = .ok { sT with out := [.mk 2 zero wT wA 0 []] } := by kernel_rfl
theorem one_cols {W : World} {q : Nat} {x : ColD} {ty : TypeId} (hq : W.heap[q]? = some (.cells #[.string x.name, .int .i64 x.ty, .bool x.must] ty)) : IsL kCol (fun k => k < W.heap.size) W (.slice (some ⟨q, 0, none⟩) 1 1) [x] := by
  refine ⟨[.string x.name, .int .i64 x.ty, .bool x.must], ⟨rfl, .inr ⟨Nat.one_pos, q, 0, 1, rfl, lt_of_block hq, lt_of_block hq, Nat.le_refl _, by decide, fun j u hj => ?_⟩⟩, All.one rfl⟩
  rw [Nat.zero_add]
  exact cell_of_block hq (by simpa using hj)
theorem one_strs {W : World} {q : Nat} {x : Wd} {ty : TypeId} (hq : W.heap[q]? = some (.cells #[.string x] ty)) : IsL kStr (fun k => k < W.heap.size) W (.slice (some ⟨q, 0, none⟩) 1 1) [x] := by
  refine ⟨[.string x], ⟨rfl, .inr ⟨Nat.one_pos, q, 0, 1, rfl, lt_of_block hq, lt_of_block hq, Nat.le_refl _, by decide, fun j u hj => ?_⟩⟩, All.one rfl⟩
  rw [Nat.zero_add]
  exact cell_of_block hq (by simpa using hj)
theorem fit_cT : fitCat cT := by
  refine ⟨fun t ht => ?_, fun x hx => by cases hx⟩
  obtain rfl : t = tT := by simpa [cT] using ht
  exact ⟨by decide, fun x hx => by
    obtain rfl : x = ⟨wA, 1, true⟩ := by simpa [tT] using hx
    decide⟩
theorem frm_sT : ∀ x ∈ sT.frm, x.size ≤ maxLen := by
  intro x hx
  obtain rfl : x = wT := by simpa [sT] using hx
  decide
theorem fit_sT : FitB sT where
  fs := ⟨fun r hr => (by cases hr), fun r hr => (by cases hr), trivial, trivial, ⟨by decide, by decide, by decide, trivial⟩, by decide, by decide, by decide, fun x hx => (by cases hx), frm_sT⟩
  nm := by decide
  cols := fun x hx => by cases hx
  rows := by decide
  row := fun r hr => by cases hr
  sets := by decide
  set := fun r hr => by cases hr
  out := by decide
  order := by decide
  frm := frm_sT

set_option maxRecDepth 100000 in
set_option maxHeartbeats 8000000 in
theorem schemas_any (w : World) : Calls Try.prog 6 #[] w fun e w' => e = .returned (.bool true) ∧ Below w.heap.size w w' := by
  have hb4 : Below w.heap.size w ((((w.alloc (.cells #[.string wA, .int .i64 1, .bool true] 56)).alloc (.cells #[.string wT, .slice (some ⟨w.heap.size, 0, none⟩) 1 1] 43)).alloc (.cells #[.slice (some ⟨w.heap.size + 1, 0, none⟩) 1 1, .slice none 0 0] 25)).alloc (.cells #[.string wT] 9)) := (bel3 w _ _ _).alloc (by simp; omega) _
  have B0 : ((((w.alloc (.cells #[.string wA, .int .i64 1, .bool true] 56)).alloc (.cells #[.string wT, .slice (some ⟨w.heap.size, 0, none⟩) 1 1] 43)).alloc (.cells #[.slice (some ⟨w.heap.size + 1, 0, none⟩) 1 1, .slice none 0 0] 25)).alloc (.cells #[.string wT] 9)).heap[w.heap.size]? = some (.cells #[.string wA, .int .i64 1, .bool true] 56) := block_alloc_of (block_alloc_of (block_alloc_of (block_alloc_at _ _) _) _) _
  have B1 : ((((w.alloc (.cells #[.string wA, .int .i64 1, .bool true] 56)).alloc (.cells #[.string wT, .slice (some ⟨w.heap.size, 0, none⟩) 1 1] 43)).alloc (.cells #[.slice (some ⟨w.heap.size + 1, 0, none⟩) 1 1, .slice none 0 0] 25)).alloc (.cells #[.string wT] 9)).heap[w.heap.size + 1]? = some (.cells #[.string wT, .slice (some ⟨w.heap.size, 0, none⟩) 1 1] 43) := block_alloc_of (block_alloc_of (block2 _ _ _) _) _
  have B2 : ((((w.alloc (.cells #[.string wA, .int .i64 1, .bool true] 56)).alloc (.cells #[.string wT, .slice (some ⟨w.heap.size, 0, none⟩) 1 1] 43)).alloc (.cells #[.slice (some ⟨w.heap.size + 1, 0, none⟩) 1 1, .slice none 0 0] 25)).alloc (.cells #[.string wT] 9)).heap[w.heap.size + 1 + 1]? = some (.cells #[.slice (some ⟨w.heap.size + 1, 0, none⟩) 1 1, .slice none 0 0] 25) := block_alloc_of (block3 _ _ _ _) _
  have B3 : ((((w.alloc (.cells #[.string wA, .int .i64 1, .bool true] 56)).alloc (.cells #[.string wT, .slice (some ⟨w.heap.size, 0, none⟩) 1 1] 43)).alloc (.cells #[.slice (some ⟨w.heap.size + 1, 0, none⟩) 1 1, .slice none 0 0] 25)).alloc (.cells #[.string wT] 9)).heap[w.heap.size + 1 + 1 + 1]? = some (.cells #[.string wT] 9) := by
    have h := block_alloc_at (((w.alloc (.cells #[.string wA, .int .i64 1, .bool true] 56)).alloc (.cells #[.string wT, .slice (some ⟨w.heap.size, 0, none⟩) 1 1] 43)).alloc (.cells #[.slice (some ⟨w.heap.size + 1, 0, none⟩) 1 1, .slice none 0 0] 25)) (.cells #[.string wT] 9)
    rwa [show (((w.alloc (.cells #[.string wA, .int .i64 1, .bool true] 56)).alloc (.cells #[.string wT, .slice (some ⟨w.heap.size, 0, none⟩) 1 1] 43)).alloc (.cells #[.slice (some ⟨w.heap.size + 1, 0, none⟩) 1 1, .slice none 0 0] 25)).heap.size = w.heap.size + 1 + 1 + 1 by simp] at h
  generalize hW : ((((w.alloc (.cells #[.string wA, .int .i64 1, .bool true] 56)).alloc (.cells #[.string wT, .slice (some ⟨w.heap.size, 0, none⟩) 1 1] 43)).alloc (.cells #[.slice (some ⟨w.heap.size + 1, 0, none⟩) 1 1, .slice none 0 0] 25)).alloc (.cells #[.string wT] 9)) = W at hb4 B0 B1 B2 B3
  have hcat : IsCat (fun k => k < W.heap.size) W cT (.agg #[.slice (some ⟨w.heap.size + 1, 0, none⟩) 1 1, .slice none 0 0]) := ⟨_, _, rfl, one_tab B1 (one_cols (x := ⟨wA, 1, true⟩) B0), IsL.nil _ _ _⟩
  have hstm : kStm.R (fun k => k < W.heap.size) W sT (sA 7 noW noW noW (.slice none 0 0) (.slice none 0 0) (.slice none 0 0) (.slice (some ⟨w.heap.size + 1 + 1 + 1, 0, none⟩) 1 1) (.slice none 0 0) 0 0 0 noW noW noW 0 (.slice none 0 0) (.slice none 0 0) false (-1)).toList := isS_mk (IsL.nil _ _ _) (IsL.nil _ _ _) (IsL.nil _ _ _) (one_strs B3) (IsL.nil _ _ _) (isE_leaf (op := 0) (x := zero) (s := noW) (name := noW) (n := 0) (ao := none) (c := 0) fun _ => rfl) (IsL.nil _ _ _)
  have HB := bindS_any cT _ sT _ W.heap.size W hcat hstm (Nat.le_refl _) fit_cT fit_sT
  have HG := fun (V : World) (h : Below W.heap.size W V) => good_cat cT _ W.heap.size V (hcat.keep (keepsC h)) h.size fit_cT
  rw [good_cT] at HG
  rw [bind_sT] at HB
  have HB2 := HB.mono (R' := fun r w' => ∃ o1 k1 c1 o2 k2 c2 o3 k3 c3 o4 k4 c4 b5 off5 c5 op xk xn xs s nmv n8 o6 k6 c6 o7 k7 c7 d n, r = .returned (.tuple #[.agg (sA 7 noW noW noW (.slice o1 k1 c1) (.slice o2 k2 c2) (.slice o3 k3 c3) (.slice o4 k4 c4) (.slice (some ⟨b5, off5, none⟩) 1 c5) op xk xn xs s nmv n8 (.slice o6 k6 c6) (.slice o7 k7 c7) d n), .int .i64 0]) ∧ w'.cell? ⟨b5, off5 + 5, none⟩ = some (.string wA) ∧ b5 < w'.heap.size ∧ Below W.heap.size W w') (by
    rintro r w' ⟨⟨v, rfl, arr, rfl, ha1, ha2, hR⟩, hb'⟩
    obtain ⟨o1, c1, o2, c2, o3, c3, o4, c4, o5, c5, op, xk, xn, xs, s, nmv, n8, o6, k6, c6, o7, c7, harr, i1, i2, i3, i4, i5, i6, i7⟩ := stm_shape hR
    obtain rfl := Array.toList_inj.1 harr
    obtain ⟨b, off, cs, rfl, hbC, hb, hRe, hcell⟩ := isL_get i5 (i := 0) rfl
    obtain ⟨hl8, hE⟩ := hRe
    obtain ⟨op', x', s', name', n', ao', k', c', hq, _⟩ := e_shape hE
    obtain ⟨sv, hq2, _⟩ := hE.open
    have hcs : cs = (eArr 2 zero wT wA 0 sv).toList := by
      have := congrArg Array.toList (Value.agg.inj hq2)
      simpa using this
    subst hcs
    have h5 := hcell 5 _ rfl
    simp only [kExpr, Nat.zero_mul, Nat.add_zero] at h5
    exact ⟨o1, _, c1, o2, _, c2, o3, _, c3, o4, _, c4, b, off, c5, op, xk, xn, xs, s, nmv, n8, o6, k6, c6, o7, _, c7, _, _, rfl, h5, hb, hb'⟩)
  have HW : Hid _ := hW
  clear hW HB hcat hstm
  have c20 := cell_of_block B2 (j := 0) rfl
  have c21 := cell_of_block B2 (j := 1) rfl
  have hlt2 := lt_of_block B2
  go_enter Try.func6, Try.ntmps6
  go_wp2_with (first
    | (go_at_call 5; rw [HW.out]; refine HB2.mono ?_; rintro r w1 ⟨o1, k1, c1, o2, k2, c2, o3, k3, c3, o4, k4, c4, b5, off5, c5, op, xk, xn, xs, s, nmv, n8, o6, k6, c6, o7, k7, c7, d, n, rfl, h5, hb5, hb1⟩; have hnew := block_alloc_at w1 (.cells sZero 36); have hone : (sA 7 noW noW noW (.slice o1 k1 c1) (.slice o2 k2 c2) (.slice o3 k3 c3) (.slice o4 k4 c4) (.slice (some ⟨b5, off5, none⟩) 1 c5) op xk xn xs s nmv n8 (.slice o6 k6 c6) (.slice o7 k7 c7) d n).all (·.oneCell') = true := one_sA (isSl _ _ _) (isSl _ _ _) (isSl _ _ _) (isSl _ _ _) (isSl _ _ _) (isSl _ _ _) (isSl _ _ _); have hbV : Below W.heap.size W ((w1.alloc (.cells sZero 36)).setRow w1.heap.size (sA 7 noW noW noW (.slice o1 k1 c1) (.slice o2 k2 c2) (.slice o3 k3 c3) (.slice o4 k4 c4) (.slice (some ⟨b5, off5, none⟩) 1 c5) op xk xn xs s nmv n8 (.slice o6 k6 c6) (.slice o7 k7 c7) d n)) := Below.row (hb1.alloc hb1.size _) hb1.size _; have y0 := (hbV.cell (p := ⟨w.heap.size + 1 + 1, 0, none⟩) hlt2).trans c20; have y1 := (hbV.cell (p := ⟨w.heap.size + 1 + 1, 1, none⟩) hlt2).trans c21; have hbox := block_row (cells := (sA 7 noW noW noW (.slice o1 k1 c1) (.slice o2 k2 c2) (.slice o3 k3 c3) (.slice o4 k4 c4) (.slice (some ⟨b5, off5, none⟩) 1 c5) op xk xn xs s nmv n8 (.slice o6 k6 c6) (.slice o7 k7 c7) d n)) hnew; have hb5' : ((w1.alloc (.cells sZero 36)).setRow w1.heap.size (sA 7 noW noW noW (.slice o1 k1 c1) (.slice o2 k2 c2) (.slice o3 k3 c3) (.slice o4 k4 c4) (.slice (some ⟨b5, off5, none⟩) 1 c5) op xk xn xs s nmv n8 (.slice o6 k6 c6) (.slice o7 k7 c7) d n)).cell? ⟨b5, off5 + 5, none⟩ = some (.string wA) := ((Below.row ((Below.refl w1.heap.size w1).alloc (Nat.le_refl _) _) (Nat.le_refl _) _).cell (p := ⟨b5, off5 + 5, none⟩) hb5).trans h5; have HG1 := HG _ hbV)
    | (refine wpList_store_row rfl 36 _ _ rfl w1.heap.size (sA 7 noW noW noW (.slice o1 k1 c1) (.slice o2 k2 c2) (.slice o3 k3 c3) (.slice o4 k4 c4) (.slice (some ⟨b5, off5, none⟩) 1 c5) op xk xn xs s nmv n8 (.slice o6 k6 c6) (.slice o7 k7 c7) d n) ?_ ?_ 36 sZero ?_ ?_ ?_ ?_ ?_; exact rfl; exact rfl; exact hnew; exact size_stm; exact rfl; exact hone)
    | (go_at_call 9; go_fit HG1; rintro e w3 ⟨rfl, hb3⟩; have z8 := cell_of_block ((hb3.block _ (lt_of_block hbox)).trans hbox) (j := 8) rfl; have z5 := (hb3.cell (p := ⟨b5, off5 + 5, none⟩) (Nat.lt_of_lt_of_le hb5 (by simp [World.setRow]))).trans hb5'))
  go_ret
  exact ⟨rfl, bthen hb4 (bthen hbV hb3)⟩

end Go.Proofs.Ytabanbpnghidhaa

