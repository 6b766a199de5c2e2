/-
  5 texts of this proof in one, in build order: WLaw, Vals, PMem, OpenVals, Bulk.
-/
import Derived.Test.YtabanbpnghidhaaRows
import Derived.Laws.AppendOwn
import Derived.ProofKit
import Derived.Deep.Slices
import Derived.Deep.SlicePairs
import Derived.Deep.Strs
import Derived.SizedLaws
import Derived.Test.YtabanbpnghidhaaJ01
import Derived.Test.YtabanbpnghidhaaJ13
import Derived.Test.YtabanbpnghidhaaJ14
import Derived.Test.YtabanbpnghidhaaJ15
namespace Go.Proofs.Ytabanbpnghidhaa
open Go.RowKit Go.Maps

theorem fit_with {ct : CatD} {st b : Stm} (hfc : fitCat ct) (hf : FitB st) (h : bindStm ct st = .ok b) : fitCat (withC ct b) := by
  obtain ⟨hk, hnm, htb, hcl, hco, _, _⟩ := bind_kind h
  unfold withC
  rw [hnm, htb, hcl, hco]
  split
  · exact ⟨fun t ht => by
      rcases mem_insN.1 ht with rfl | ht
      · exact ⟨hf.nm, hf.cols⟩
      · exact hfc.1 t ht, hfc.2⟩
  split
  · exact ⟨hfc.1, fun x hx => by
      rcases mem_insN.1 hx with rfl | hx
      · exact ⟨hf.nm, hf.fs.table, hf.fs.col⟩
      · exact hfc.2 x hx⟩
  split
  · exact ⟨fun t ht => hfc.1 t (List.mem_filter.1 ht).1, fun x hx => hfc.2 x (List.mem_filter.1 hx).1⟩
  · exact hfc
theorem toArr {P : Program} {f : Nat} {v : Value} {arr : Array Value} {w : World} {R : Ending → World → Prop} (h : Calls P f #[v, .agg arr.toList.toArray] w R) : Calls P f #[v, .agg arr] w R := by rw [Array.toArray_toList] at h; exact h
/-- FindTable, of whether there is one alone. -/
theorem find_is (T : List TabD) (tx ix : Value) (hiv : IsSl ix) (s : Wd) (is : Bool) (his : (tabOf T s).isSome = is) (w : World) {F : Nat → Prop} (hl : IsL kTab F w tx T) :
    Calls Try.prog 8 #[.agg #[tx, ix], .string s] w fun e w' => ∃ nmv ao n c, e = .returned (.tuple #[.agg #[.string nmv, .slice ao n c], .bool is]) ∧ Below w.heap.size w w' := by
  refine (findTable_any T tx ix hiv s w.heap.size w (hl.mono fun k hk _ => hk) (Nat.le_refl _)).mono ?_
  rintro e w' ⟨nmv, ao, n, c, there, rfl, hm, hb⟩
  refine ⟨nmv, ao, n, c, ?_, hb⟩
  cases ht : tabOf T s with
  | none => rw [ht] at hm his; obtain ⟨rfl, _⟩ := hm; subst his; rfl
  | some t => rw [ht] at hm his; obtain ⟨rfl, _⟩ := hm; subst his; rfl

set_option maxRecDepth 100000 in
set_option maxHeartbeats 8000000 in
theorem schemaWith_walk (ct : CatD) (cv : Value) (st : Stm) (cs : List Value) (C : Nat) (w : World) (hc : IsCat (fun k => k < C) w ct cv) (hR : kStm.R (fun k => k < C) w st cs) (hC : C ≤ w.heap.size) (hfc : fitCat ct) (hf : FitB st) :
    Calls Try.prog 3 #[cv, .agg cs.toArray] w fun r w' => r = .returned (.bool true) ∧ Below w.heap.size w w' := by
  obtain ⟨o1, c1, o2, c2, o3, c3, o4, c4, o5, c5, op, xk, xn, xs, s, nmv, n8, o6, k6, c6, o7, c7, rfl, i1, i2, i3, i4, i5, i6, i7⟩ := stm_shape hR
  obtain ⟨_, _, rfl, htl, hil⟩ := hc
  obtain ⟨to', tc, hts⟩ := htl.shape
  obtain ⟨io, ic, his⟩ := hil.shape
  obtain rfl := hts
  obtain rfl := his
  have hb2 := bel2 w (.cells #[.slice to' ct.tables.length tc, .slice io ct.indexes.length ic] 25) (.cells (sA st.kind st.name st.table st.col (.slice o1 st.cols.length c1) (.slice o2 st.rows.length c2) (.slice o3 st.sets.length c3) (.slice o4 st.frm.length c4) (.slice o5 st.out.length c5) op xk xn xs s nmv n8 (.slice o6 k6 c6) (.slice o7 st.order.length c7) st.down st.n) 36)
  have B0 : ((w.alloc (.cells #[.slice to' ct.tables.length tc, .slice io ct.indexes.length ic] 25)).alloc (.cells (sA st.kind st.name st.table st.col (.slice o1 st.cols.length c1) (.slice o2 st.rows.length c2) (.slice o3 st.sets.length c3) (.slice o4 st.frm.length c4) (.slice o5 st.out.length c5) op xk xn xs s nmv n8 (.slice o6 k6 c6) (.slice o7 st.order.length c7) st.down st.n) 36)).heap[w.heap.size]? = some (.cells #[.slice to' ct.tables.length tc, .slice io ct.indexes.length ic] 25) := block_alloc_of (block_alloc_at _ _) _
  have B1 := block2 w (.cells #[.slice to' ct.tables.length tc, .slice io ct.indexes.length ic] 25) (.cells (sA st.kind st.name st.table st.col (.slice o1 st.cols.length c1) (.slice o2 st.rows.length c2) (.slice o3 st.sets.length c3) (.slice o4 st.frm.length c4) (.slice o5 st.out.length c5) op xk xn xs s nmv n8 (.slice o6 k6 c6) (.slice o7 st.order.length c7) st.down st.n) 36)
  have hCW : C ≤ ((w.alloc (.cells #[.slice to' ct.tables.length tc, .slice io ct.indexes.length ic] 25)).alloc (.cells (sA st.kind st.name st.table st.col (.slice o1 st.cols.length c1) (.slice o2 st.rows.length c2) (.slice o3 st.sets.length c3) (.slice o4 st.frm.length c4) (.slice o5 st.out.length c5) op xk xn xs s nmv n8 (.slice o6 k6 c6) (.slice o7 st.order.length c7) st.down st.n) 36)).heap.size := Nat.le_trans hC hb2.size
  have hcW : IsCat (fun k => k < C) ((w.alloc (.cells #[.slice to' ct.tables.length tc, .slice io ct.indexes.length ic] 25)).alloc (.cells (sA st.kind st.name st.table st.col (.slice o1 st.cols.length c1) (.slice o2 st.rows.length c2) (.slice o3 st.sets.length c3) (.slice o4 st.frm.length c4) (.slice o5 st.out.length c5) op xk xn xs s nmv n8 (.slice o6 k6 c6) (.slice o7 st.order.length c7) st.down st.n) 36)) ct (.agg #[.slice to' ct.tables.length tc, .slice io ct.indexes.length ic]) := ⟨_, _, rfl, htl.keep (keepsC (hb2.mono hC)), hil.keep (keepsC (hb2.mono hC))⟩
  have hRW := kStm.keep (keepsC (hb2.mono hC)) hR
  have HB := bindS_any ct (.agg #[.slice to' ct.tables.length tc, .slice io ct.indexes.length ic]) st (sA st.kind st.name st.table st.col (.slice o1 st.cols.length c1) (.slice o2 st.rows.length c2) (.slice o3 st.sets.length c3) (.slice o4 st.frm.length c4) (.slice o5 st.out.length c5) op xk xn xs s nmv n8 (.slice o6 k6 c6) (.slice o7 st.order.length c7) st.down st.n).toList C ((w.alloc (.cells #[.slice to' ct.tables.length tc, .slice io ct.indexes.length ic] 25)).alloc (.cells (sA st.kind st.name st.table st.col (.slice o1 st.cols.length c1) (.slice o2 st.rows.length c2) (.slice o3 st.sets.length c3) (.slice o4 st.frm.length c4) (.slice o5 st.out.length c5) op xk xn xs s nmv n8 (.slice o6 k6 c6) (.slice o7 st.order.length c7) st.down st.n) 36)) hcW hRW hCW hfc hf
  have HSc := fun W => schemas_any W
  have z0 := cell_of_block B0 (j := 0) (u := .slice to' ct.tables.length tc) rfl
  have z1 := cell_of_block B0 (j := 1) (u := .slice io ct.indexes.length ic) rfl
  have hlt0 := lt_of_block B0
  have hlt1 := lt_of_block B1
  have ab0 := cell_of_block B1 (j := 0) (u := .int .i64 st.kind) rfl
  have ab1 := cell_of_block B1 (j := 1) (u := .string st.name) rfl
  rcases hbr : bindStm ct st with m | st2
  · have hm := bindStm_err hbr
    have HB2 := HB.mono (R' := fun r w' => r = .returned (.tuple #[.agg sZero, .int .i64 m]) ∧ Below ((w.alloc (.cells #[.slice to' ct.tables.length tc, .slice io ct.indexes.length ic] 25)).alloc (.cells (sA st.kind st.name st.table st.col (.slice o1 st.cols.length c1) (.slice o2 st.rows.length c2) (.slice o3 st.sets.length c3) (.slice o4 st.frm.length c4) (.slice o5 st.out.length c5) op xk xn xs s nmv n8 (.slice o6 k6 c6) (.slice o7 st.order.length c7) st.down st.n) 36)).heap.size ((w.alloc (.cells #[.slice to' ct.tables.length tc, .slice io ct.indexes.length ic] 25)).alloc (.cells (sA st.kind st.name st.table st.col (.slice o1 st.cols.length c1) (.slice o2 st.rows.length c2) (.slice o3 st.sets.length c3) (.slice o4 st.frm.length c4) (.slice o5 st.out.length c5) op xk xn xs s nmv n8 (.slice o6 k6 c6) (.slice o7 st.order.length c7) st.down st.n) 36)) w') (by
      rintro r w' ⟨⟨v, rfl, hv⟩, hb'⟩
      rw [hbr] at hv
      obtain rfl := hv
      exact ⟨rfl, hb'⟩)
    have hz : sZero.all (·.oneCell') = true := one_sA (isSl _ _ _) (isSl _ _ _) (isSl _ _ _) (isSl _ _ _) (isSl _ _ _) (isSl _ _ _) (isSl _ _ _)
    clear HB hbr hcW hRW htl hil hR i1 i2 i3 i4 i5 i6 i7
    rcases hm with rfl | rfl | rfl | rfl | rfl
    all_goals
      go_enter Try.func3, Try.ntmps3
      go_wp2_with (first | (go_at_call 5; refine HB2.mono ?_; rintro r w1 ⟨rfl, hb1⟩; have hnew := block_alloc_at w1 (.cells sZero 36); have hbV : Below w.heap.size w ((w1.alloc (.cells sZero 36)).setRow w1.heap.size sZero) := Below.row ((bthen hb2 hb1).alloc (bthen hb2 hb1).size _) (bthen hb2 hb1).size _) | (refine wpList_store_row rfl 36 _ _ rfl w1.heap.size sZero ?_ ?_ 36 sZero ?_ ?_ ?_ ?_ ?_; exact rfl; exact rfl; exact hnew; exact size_stm; exact rfl; exact hz) | (go_at_call 6; go_fit (HSc _); rintro e w3 ⟨rfl, hb3⟩) | (refine wpList_load_row rfl 36 _ rfl (w.heap.size + 1) ?_ 36 _ (0, 0) _ B1 Try.underlying36 ?_ ?_ ?_; exact rfl; exact rfl; exact size_stm))
      go_ret
      exact ⟨rfl, bthen hbV hb3⟩
  have HB2 := HB.mono (R' := fun r w' => ∃ arr : Array Value, r = .returned (.tuple #[.agg arr, .int .i64 0]) ∧ arr.size = 20 ∧ arr.all (·.oneCell') = true ∧ kStm.R (Fx C ((w.alloc (.cells #[.slice to' ct.tables.length tc, .slice io ct.indexes.length ic] 25)).alloc (.cells (sA st.kind st.name st.table st.col (.slice o1 st.cols.length c1) (.slice o2 st.rows.length c2) (.slice o3 st.sets.length c3) (.slice o4 st.frm.length c4) (.slice o5 st.out.length c5) op xk xn xs s nmv n8 (.slice o6 k6 c6) (.slice o7 st.order.length c7) st.down st.n) 36)).heap.size) w' st2 arr.toList ∧ Below ((w.alloc (.cells #[.slice to' ct.tables.length tc, .slice io ct.indexes.length ic] 25)).alloc (.cells (sA st.kind st.name st.table st.col (.slice o1 st.cols.length c1) (.slice o2 st.rows.length c2) (.slice o3 st.sets.length c3) (.slice o4 st.frm.length c4) (.slice o5 st.out.length c5) op xk xn xs s nmv n8 (.slice o6 k6 c6) (.slice o7 st.order.length c7) st.down st.n) 36)).heap.size ((w.alloc (.cells #[.slice to' ct.tables.length tc, .slice io ct.indexes.length ic] 25)).alloc (.cells (sA st.kind st.name st.table st.col (.slice o1 st.cols.length c1) (.slice o2 st.rows.length c2) (.slice o3 st.sets.length c3) (.slice o4 st.frm.length c4) (.slice o5 st.out.length c5) op xk xn xs s nmv n8 (.slice o6 k6 c6) (.slice o7 st.order.length c7) st.down st.n) 36)) w') (by
    rintro r w' ⟨⟨v, rfl, hv⟩, hb'⟩
    rw [hbr] at hv
    obtain ⟨arr, rfl, ha1, ha2, hR2⟩ := hv
    exact ⟨arr, rfl, ha1, ha2, hR2, hb'⟩)
  obtain ⟨G1, G2, G3, G4, G5, G6, G7⟩ := with_good hbr
  obtain ⟨hkk, _, _, _, _, hk1, hk7⟩ := bind_kind hbr
  have hgood := (catB_iff ct).1 (bind_good hbr).1
  have hfit := fit_with hfc hf hbr
  have HWi := fun W (hW : Below w.heap.size w W) c2 (h : kStm.R (fun k => k < W.heap.size) W st2 c2) => (with_any ct (.agg #[.slice to' ct.tables.length tc, .slice io ct.indexes.length ic]) st2 c2 W.heap.size W ⟨_, _, rfl, (htl.keep (keepsC (hW.mono hC))).mono (fun k hk _ => hk), (hil.keep (keepsC (hW.mono hC))).mono (fun k hk _ => hk)⟩ h (Nat.le_refl _) (by omega) (by omega) hgood.2.2.2.1 hgood.2.2.2.2.2).mono (R' := fun e w' => ∃ tv2 iv2, e = .returned (.agg #[tv2, iv2]) ∧ IsL kTab (Fx W.heap.size W.heap.size) w' tv2 (withC ct st2).tables ∧ IsL kIdx (Fx W.heap.size W.heap.size) w' iv2 (withC ct st2).indexes ∧ Below W.heap.size W w') (by
    rintro e w' ⟨v, rfl, ⟨tv2, iv2, rfl, h1, h2⟩, hb⟩
    exact ⟨tv2, iv2, rfl, h1, h2, hb⟩)
  have HGo := fun v W (h : IsCat (fun k => k < W.heap.size) W (withC ct st2) v) => good_cat (withC ct st2) v W.heap.size W h (Nat.le_refl _) hfit
  rw [G1] at HGo
  clear HB hcW hRW hR i1 i2 i3 i4 i5 i6 i7 hbr hgood hfit htl hil
  generalize withC ct st2 = CT at G2 G3 G4 G5 G6 G7 HWi HGo
  obtain ⟨is, HIS⟩ : ∃ is, Hid ((tabOf CT.tables st.name).isSome = is) := ⟨_, rfl⟩
  replace G2 : st.kind = 1 → is = true := fun h => by rw [← HIS.out]; exact G2 h
  replace G3 : st.kind = 3 → is = false := fun h => by rw [← HIS.out, G3 h]; rfl
  clear hkk
  rcases (show st.kind = 1 ∨ st.kind = 2 ∨ st.kind = 3 ∨ 4 ≤ st.kind by omega) with hk | hk | hk | hk
  all_goals have hkr := hk
  · have q1 : ¬ (ct.tables.length : Int) = (CT.tables.length : Int) := fun e => G4 hk (by omega)
    obtain rfl : is = true := G2 hk
    have abk : _ = some (Value.int .i64 1) := ab0.trans (by rw [hk])
    clear ab0
    have ab0 := abk
    clear abk
    clear G2 G3 G4 G5 G6 G7 hk hkr
    go_enter Try.func3, Try.ntmps3
    go_wp2_with (first
      | (go_at_call 5; refine HB2.mono ?_; rintro r w1 ⟨arr, rfl, ha1, ha2, hR2, hb1⟩; have hnew := block_alloc_at w1 (.cells sZero 36); have hb1V : Below w1.heap.size w1 ((w1.alloc (.cells sZero 36)).setRow w1.heap.size arr) := Below.row ((Below.refl w1.heap.size w1).alloc (Nat.le_refl _) _) (Nat.le_refl _) _; have hbV : Below w.heap.size w ((w1.alloc (.cells sZero 36)).setRow w1.heap.size arr) := (bthen hb2 hb1).trans (hb1V.mono (bthen hb2 hb1).size); have hbV0 : Below ((w.alloc (.cells #[.slice to' ct.tables.length tc, .slice io ct.indexes.length ic] 25)).alloc (.cells (sA st.kind st.name st.table st.col (.slice o1 st.cols.length c1) (.slice o2 st.rows.length c2) (.slice o3 st.sets.length c3) (.slice o4 st.frm.length c4) (.slice o5 st.out.length c5) op xk xn xs s nmv n8 (.slice o6 k6 c6) (.slice o7 st.order.length c7) st.down st.n) 36)).heap.size ((w.alloc (.cells #[.slice to' ct.tables.length tc, .slice io ct.indexes.length ic] 25)).alloc (.cells (sA st.kind st.name st.table st.col (.slice o1 st.cols.length c1) (.slice o2 st.rows.length c2) (.slice o3 st.sets.length c3) (.slice o4 st.frm.length c4) (.slice o5 st.out.length c5) op xk xn xs s nmv n8 (.slice o6 k6 c6) (.slice o7 st.order.length c7) st.down st.n) 36)) ((w1.alloc (.cells sZero 36)).setRow w1.heap.size arr) := hb1.trans (hb1V.mono hb1.size); have hbox := block_row (cells := arr) hnew)
      | (refine wpList_store_row rfl 36 _ _ rfl w1.heap.size arr ?_ ?_ 36 sZero ?_ ?_ ?_ ?_ ?_; exact rfl; exact rfl; exact hnew; exact info_of ha1; exact ha1.symm; exact ha2)
      | (go_at_call 6; go_fit (HSc _); rintro e w3 ⟨rfl, hb3⟩; have hb3w : Below w.heap.size w w3 := bthen hbV hb3; have hbox3 := (hb3.block _ (lt_of_block hbox)).trans hbox; have x0 := (hb3.cell (p := ⟨w.heap.size, 0, none⟩) (Nat.lt_of_lt_of_le hlt0 hbV0.size)).trans ((hbV0.cell (p := ⟨w.heap.size, 0, none⟩) hlt0).trans z0); have x1 := (hb3.cell (p := ⟨w.heap.size, 1, none⟩) (Nat.lt_of_lt_of_le hlt0 hbV0.size)).trans ((hbV0.cell (p := ⟨w.heap.size, 1, none⟩) hlt0).trans z1); have HW1 := HWi w3 hb3w arr.toList (kStm.mono (fun k hk _ => hk) (kStm.keep (keepsB (bthen hb1V hb3)) hR2)))
      | (go_at_call 7; refine (toArr HW1).mono ?_; rintro e w4 ⟨tv2, iv2, rfl, htl2, hil2, hb4⟩; obtain ⟨to2, tc2, rfl⟩ := htl2.shape; obtain ⟨io2, ic2, rfl⟩ := hil2.shape; have hD := block_alloc_at w4 (.cells #[.slice to2 CT.tables.length tc2, .slice io2 CT.indexes.length ic2] 25); have hbD : Below w4.heap.size w4 (w4.alloc (.cells #[.slice to2 CT.tables.length tc2, .slice io2 CT.indexes.length ic2] 25)) := bel1 _ _; have hb04 : Below ((w.alloc (.cells #[.slice to' ct.tables.length tc, .slice io ct.indexes.length ic] 25)).alloc (.cells (sA st.kind st.name st.table st.col (.slice o1 st.cols.length c1) (.slice o2 st.rows.length c2) (.slice o3 st.sets.length c3) (.slice o4 st.frm.length c4) (.slice o5 st.out.length c5) op xk xn xs s nmv n8 (.slice o6 k6 c6) (.slice o7 st.order.length c7) st.down st.n) 36)).heap.size ((w.alloc (.cells #[.slice to' ct.tables.length tc, .slice io ct.indexes.length ic] 25)).alloc (.cells (sA st.kind st.name st.table st.col (.slice o1 st.cols.length c1) (.slice o2 st.rows.length c2) (.slice o3 st.sets.length c3) (.slice o4 st.frm.length c4) (.slice o5 st.out.length c5) op xk xn xs s nmv n8 (.slice o6 k6 c6) (.slice o7 st.order.length c7) st.down st.n) 36)) (w4.alloc (.cells #[.slice to2 CT.tables.length tc2, .slice io2 CT.indexes.length ic2] 25)) := ((hbV0.trans (hb3.mono hbV0.size)).trans (hb4.mono (hbV0.trans (hb3.mono hbV0.size)).size)).alloc ((hbV0.trans (hb3.mono hbV0.size)).trans (hb4.mono (hbV0.trans (hb3.mono hbV0.size)).size)).size _; have hw04 : Below w.heap.size w (w4.alloc (.cells #[.slice to2 CT.tables.length tc2, .slice io2 CT.indexes.length ic2] 25)) := hb2.trans (hb04.mono hb2.size); have u0 := cell_of_block hD (j := 0) (u := .slice to2 CT.tables.length tc2) rfl; have u1 := cell_of_block hD (j := 1) (u := .slice io2 CT.indexes.length ic2) rfl; have u2 := (hb04.cell (p := ⟨w.heap.size + 1, 1, none⟩) hlt1).trans ab1; have HFi := find_is CT.tables (.slice to2 CT.tables.length tc2) (.slice io2 CT.indexes.length ic2) (isSl _ _ _) st.name _ HIS.out _ (htl2.keep (keepsB hbD)))
      | (go_at_call 8; refine HFi.mono ?_; rintro e w5 ⟨fn, fo, fl, fc, rfl, hb5⟩; have hT5 := bel1 w5 (.cells #[.string fn, .slice fo fl fc] 43); have hb5' := bthen hb5 hT5; have lD := lt_of_block hD; have t0 := (hb5'.cell (p := ⟨w4.heap.size, 0, none⟩) lD).trans u0; have t1 := (hb5'.cell (p := ⟨w4.heap.size, 1, none⟩) lD).trans u1; have HGd := HGo (.agg #[.slice to2 CT.tables.length tc2, .slice io2 CT.indexes.length ic2]) (w5.alloc (.cells #[.string fn, .slice fo fl fc] 43)) ⟨_, _, rfl, (htl2.keep (keepsB (bthen hbD hb5'))).mono (fun k hk _ => hk), (hil2.keep (keepsB (bthen hbD hb5'))).mono (fun k hk _ => hk)⟩)
      | (go_at_call 9; go_fit HGd; rintro e w6 ⟨rfl, hb6⟩; have hb56 := bthen hb5' hb6; have v0 := (hb56.cell (p := ⟨w4.heap.size, 0, none⟩) lD).trans u0; have v1 := (hb56.cell (p := ⟨w4.heap.size, 1, none⟩) lD).trans u1; have l04 := Nat.lt_of_lt_of_le hlt0 hb04.size; have l14 := Nat.lt_of_lt_of_le hlt1 hb04.size; have v2 := (hb56.cell (p := ⟨w.heap.size, 0, none⟩) l04).trans ((hb04.cell (p := ⟨w.heap.size, 0, none⟩) hlt0).trans z0); have v3 := (hb56.cell (p := ⟨w.heap.size, 1, none⟩) l04).trans ((hb04.cell (p := ⟨w.heap.size, 1, none⟩) hlt0).trans z1); have v4 := (hb56.cell (p := ⟨w.heap.size + 1, 0, none⟩) l14).trans ((hb04.cell (p := ⟨w.heap.size + 1, 0, none⟩) hlt1).trans ab0))
      | (refine wpList_load_row rfl 36 _ rfl (w.heap.size + 1) ?_ 36 _ (0, 0) _ B1 Try.underlying36 ?_ ?_ ?_; exact rfl; exact rfl; exact size_stm)
      | (refine wpList_load_row rfl 36 _ rfl w1.heap.size ?_ 36 _ (0, 0) _ hbox3 Try.underlying36 ?_ ?_ ?_; exact rfl; exact rfl; exact info_of ha1))
    go_ret
    exact ⟨rfl, hw04.trans ((hb56).mono (Nat.le_trans hw04.size (Nat.le_refl _)))⟩
  · have q1 : (ct.tables.length : Int) = (CT.tables.length : Int) := by rw [(G5 hk).1]
    have q2 : ¬ (ct.indexes.length : Int) = (CT.indexes.length : Int) := fun e => (G5 hk).2 (by omega)
    have QQ : Hid (¬ (ct.indexes.length : Int) = (CT.indexes.length : Int)) := q2
    have abk : _ = some (Value.int .i64 2) := ab0.trans (by rw [hk])
    clear ab0
    have ab0 := abk
    clear abk
    clear G2 G3 G4 G5 G6 G7 hk hkr
    go_enter Try.func3, Try.ntmps3
    go_wp2_with (first
      | (go_at_call 5; refine HB2.mono ?_; rintro r w1 ⟨arr, rfl, ha1, ha2, hR2, hb1⟩; have hnew := block_alloc_at w1 (.cells sZero 36); have hb1V : Below w1.heap.size w1 ((w1.alloc (.cells sZero 36)).setRow w1.heap.size arr) := Below.row ((Below.refl w1.heap.size w1).alloc (Nat.le_refl _) _) (Nat.le_refl _) _; have hbV : Below w.heap.size w ((w1.alloc (.cells sZero 36)).setRow w1.heap.size arr) := (bthen hb2 hb1).trans (hb1V.mono (bthen hb2 hb1).size); have hbV0 : Below ((w.alloc (.cells #[.slice to' ct.tables.length tc, .slice io ct.indexes.length ic] 25)).alloc (.cells (sA st.kind st.name st.table st.col (.slice o1 st.cols.length c1) (.slice o2 st.rows.length c2) (.slice o3 st.sets.length c3) (.slice o4 st.frm.length c4) (.slice o5 st.out.length c5) op xk xn xs s nmv n8 (.slice o6 k6 c6) (.slice o7 st.order.length c7) st.down st.n) 36)).heap.size ((w.alloc (.cells #[.slice to' ct.tables.length tc, .slice io ct.indexes.length ic] 25)).alloc (.cells (sA st.kind st.name st.table st.col (.slice o1 st.cols.length c1) (.slice o2 st.rows.length c2) (.slice o3 st.sets.length c3) (.slice o4 st.frm.length c4) (.slice o5 st.out.length c5) op xk xn xs s nmv n8 (.slice o6 k6 c6) (.slice o7 st.order.length c7) st.down st.n) 36)) ((w1.alloc (.cells sZero 36)).setRow w1.heap.size arr) := hb1.trans (hb1V.mono hb1.size); have hbox := block_row (cells := arr) hnew)
      | (refine wpList_store_row rfl 36 _ _ rfl w1.heap.size arr ?_ ?_ 36 sZero ?_ ?_ ?_ ?_ ?_; exact rfl; exact rfl; exact hnew; exact info_of ha1; exact ha1.symm; exact ha2)
      | (go_at_call 6; go_fit (HSc _); rintro e w3 ⟨rfl, hb3⟩; have hb3w : Below w.heap.size w w3 := bthen hbV hb3; have hbox3 := (hb3.block _ (lt_of_block hbox)).trans hbox; have x0 := (hb3.cell (p := ⟨w.heap.size, 0, none⟩) (Nat.lt_of_lt_of_le hlt0 hbV0.size)).trans ((hbV0.cell (p := ⟨w.heap.size, 0, none⟩) hlt0).trans z0); have x1 := (hb3.cell (p := ⟨w.heap.size, 1, none⟩) (Nat.lt_of_lt_of_le hlt0 hbV0.size)).trans ((hbV0.cell (p := ⟨w.heap.size, 1, none⟩) hlt0).trans z1); have HW1 := HWi w3 hb3w arr.toList (kStm.mono (fun k hk _ => hk) (kStm.keep (keepsB (bthen hb1V hb3)) hR2)))
      | (go_at_call 7; refine (toArr HW1).mono ?_; rintro e w4 ⟨tv2, iv2, rfl, htl2, hil2, hb4⟩; obtain ⟨to2, tc2, rfl⟩ := htl2.shape; obtain ⟨io2, ic2, rfl⟩ := hil2.shape; have hD := block_alloc_at w4 (.cells #[.slice to2 CT.tables.length tc2, .slice io2 CT.indexes.length ic2] 25); have hbD : Below w4.heap.size w4 (w4.alloc (.cells #[.slice to2 CT.tables.length tc2, .slice io2 CT.indexes.length ic2] 25)) := bel1 _ _; have hb04 : Below ((w.alloc (.cells #[.slice to' ct.tables.length tc, .slice io ct.indexes.length ic] 25)).alloc (.cells (sA st.kind st.name st.table st.col (.slice o1 st.cols.length c1) (.slice o2 st.rows.length c2) (.slice o3 st.sets.length c3) (.slice o4 st.frm.length c4) (.slice o5 st.out.length c5) op xk xn xs s nmv n8 (.slice o6 k6 c6) (.slice o7 st.order.length c7) st.down st.n) 36)).heap.size ((w.alloc (.cells #[.slice to' ct.tables.length tc, .slice io ct.indexes.length ic] 25)).alloc (.cells (sA st.kind st.name st.table st.col (.slice o1 st.cols.length c1) (.slice o2 st.rows.length c2) (.slice o3 st.sets.length c3) (.slice o4 st.frm.length c4) (.slice o5 st.out.length c5) op xk xn xs s nmv n8 (.slice o6 k6 c6) (.slice o7 st.order.length c7) st.down st.n) 36)) (w4.alloc (.cells #[.slice to2 CT.tables.length tc2, .slice io2 CT.indexes.length ic2] 25)) := ((hbV0.trans (hb3.mono hbV0.size)).trans (hb4.mono (hbV0.trans (hb3.mono hbV0.size)).size)).alloc ((hbV0.trans (hb3.mono hbV0.size)).trans (hb4.mono (hbV0.trans (hb3.mono hbV0.size)).size)).size _; have hw04 : Below w.heap.size w (w4.alloc (.cells #[.slice to2 CT.tables.length tc2, .slice io2 CT.indexes.length ic2] 25)) := hb2.trans (hb04.mono hb2.size); have u0 := cell_of_block hD (j := 0) (u := .slice to2 CT.tables.length tc2) rfl; have u1 := cell_of_block hD (j := 1) (u := .slice io2 CT.indexes.length ic2) rfl; have u2 := (hb04.cell (p := ⟨w.heap.size + 1, 1, none⟩) hlt1).trans ab1; have HFi := find_is CT.tables (.slice to2 CT.tables.length tc2) (.slice io2 CT.indexes.length ic2) (isSl _ _ _) st.name _ HIS.out _ (htl2.keep (keepsB hbD)))
      | (go_at_call 8; refine HFi.mono ?_; rintro e w5 ⟨fn, fo, fl, fc, rfl, hb5⟩; have hT5 := bel1 w5 (.cells #[.string fn, .slice fo fl fc] 43); have hb5' := bthen hb5 hT5; have lD := lt_of_block hD; have t0 := (hb5'.cell (p := ⟨w4.heap.size, 0, none⟩) lD).trans u0; have t1 := (hb5'.cell (p := ⟨w4.heap.size, 1, none⟩) lD).trans u1; have HGd := HGo (.agg #[.slice to2 CT.tables.length tc2, .slice io2 CT.indexes.length ic2]) (w5.alloc (.cells #[.string fn, .slice fo fl fc] 43)) ⟨_, _, rfl, (htl2.keep (keepsB (bthen hbD hb5'))).mono (fun k hk _ => hk), (hil2.keep (keepsB (bthen hbD hb5'))).mono (fun k hk _ => hk)⟩)
      | (go_at_call 9; go_fit HGd; rintro e w6 ⟨rfl, hb6⟩; have hb56 := bthen hb5' hb6; have v0 := (hb56.cell (p := ⟨w4.heap.size, 0, none⟩) lD).trans u0; have v1 := (hb56.cell (p := ⟨w4.heap.size, 1, none⟩) lD).trans u1; have l04 := Nat.lt_of_lt_of_le hlt0 hb04.size; have l14 := Nat.lt_of_lt_of_le hlt1 hb04.size; have v2 := (hb56.cell (p := ⟨w.heap.size, 0, none⟩) l04).trans ((hb04.cell (p := ⟨w.heap.size, 0, none⟩) hlt0).trans z0); have v3 := (hb56.cell (p := ⟨w.heap.size, 1, none⟩) l04).trans ((hb04.cell (p := ⟨w.heap.size, 1, none⟩) hlt0).trans z1); have v4 := (hb56.cell (p := ⟨w.heap.size + 1, 0, none⟩) l14).trans ((hb04.cell (p := ⟨w.heap.size + 1, 0, none⟩) hlt1).trans ab0))
      | (refine wpList_load_row rfl 36 _ rfl (w.heap.size + 1) ?_ 36 _ (0, 0) _ B1 Try.underlying36 ?_ ?_ ?_; exact rfl; exact rfl; exact size_stm)
      | (refine wpList_load_row rfl 36 _ rfl w1.heap.size ?_ 36 _ (0, 0) _ hbox3 Try.underlying36 ?_ ?_ ?_; exact rfl; exact rfl; exact info_of ha1))
    go_ret
    exact ⟨ret_bool (by rw [Bool.not_eq_true', beq_eq_false_iff_ne]; exact QQ.out), hw04.trans ((hb56).mono (Nat.le_trans hw04.size (Nat.le_refl _)))⟩
  · have q1 : ¬ (ct.tables.length : Int) = (CT.tables.length : Int) := fun e => G6 hk (by omega)
    obtain rfl : is = false := G3 hk
    have abk : _ = some (Value.int .i64 3) := ab0.trans (by rw [hk])
    clear ab0
    have ab0 := abk
    clear abk
    clear G2 G3 G4 G5 G6 G7 hk hkr
    go_enter Try.func3, Try.ntmps3
    go_wp2_with (first
      | (go_at_call 5; refine HB2.mono ?_; rintro r w1 ⟨arr, rfl, ha1, ha2, hR2, hb1⟩; have hnew := block_alloc_at w1 (.cells sZero 36); have hb1V : Below w1.heap.size w1 ((w1.alloc (.cells sZero 36)).setRow w1.heap.size arr) := Below.row ((Below.refl w1.heap.size w1).alloc (Nat.le_refl _) _) (Nat.le_refl _) _; have hbV : Below w.heap.size w ((w1.alloc (.cells sZero 36)).setRow w1.heap.size arr) := (bthen hb2 hb1).trans (hb1V.mono (bthen hb2 hb1).size); have hbV0 : Below ((w.alloc (.cells #[.slice to' ct.tables.length tc, .slice io ct.indexes.length ic] 25)).alloc (.cells (sA st.kind st.name st.table st.col (.slice o1 st.cols.length c1) (.slice o2 st.rows.length c2) (.slice o3 st.sets.length c3) (.slice o4 st.frm.length c4) (.slice o5 st.out.length c5) op xk xn xs s nmv n8 (.slice o6 k6 c6) (.slice o7 st.order.length c7) st.down st.n) 36)).heap.size ((w.alloc (.cells #[.slice to' ct.tables.length tc, .slice io ct.indexes.length ic] 25)).alloc (.cells (sA st.kind st.name st.table st.col (.slice o1 st.cols.length c1) (.slice o2 st.rows.length c2) (.slice o3 st.sets.length c3) (.slice o4 st.frm.length c4) (.slice o5 st.out.length c5) op xk xn xs s nmv n8 (.slice o6 k6 c6) (.slice o7 st.order.length c7) st.down st.n) 36)) ((w1.alloc (.cells sZero 36)).setRow w1.heap.size arr) := hb1.trans (hb1V.mono hb1.size); have hbox := block_row (cells := arr) hnew)
      | (refine wpList_store_row rfl 36 _ _ rfl w1.heap.size arr ?_ ?_ 36 sZero ?_ ?_ ?_ ?_ ?_; exact rfl; exact rfl; exact hnew; exact info_of ha1; exact ha1.symm; exact ha2)
      | (go_at_call 6; go_fit (HSc _); rintro e w3 ⟨rfl, hb3⟩; have hb3w : Below w.heap.size w w3 := bthen hbV hb3; have hbox3 := (hb3.block _ (lt_of_block hbox)).trans hbox; have x0 := (hb3.cell (p := ⟨w.heap.size, 0, none⟩) (Nat.lt_of_lt_of_le hlt0 hbV0.size)).trans ((hbV0.cell (p := ⟨w.heap.size, 0, none⟩) hlt0).trans z0); have x1 := (hb3.cell (p := ⟨w.heap.size, 1, none⟩) (Nat.lt_of_lt_of_le hlt0 hbV0.size)).trans ((hbV0.cell (p := ⟨w.heap.size, 1, none⟩) hlt0).trans z1); have HW1 := HWi w3 hb3w arr.toList (kStm.mono (fun k hk _ => hk) (kStm.keep (keepsB (bthen hb1V hb3)) hR2)))
      | (go_at_call 7; refine (toArr HW1).mono ?_; rintro e w4 ⟨tv2, iv2, rfl, htl2, hil2, hb4⟩; obtain ⟨to2, tc2, rfl⟩ := htl2.shape; obtain ⟨io2, ic2, rfl⟩ := hil2.shape; have hD := block_alloc_at w4 (.cells #[.slice to2 CT.tables.length tc2, .slice io2 CT.indexes.length ic2] 25); have hbD : Below w4.heap.size w4 (w4.alloc (.cells #[.slice to2 CT.tables.length tc2, .slice io2 CT.indexes.length ic2] 25)) := bel1 _ _; have hb04 : Below ((w.alloc (.cells #[.slice to' ct.tables.length tc, .slice io ct.indexes.length ic] 25)).alloc (.cells (sA st.kind st.name st.table st.col (.slice o1 st.cols.length c1) (.slice o2 st.rows.length c2) (.slice o3 st.sets.length c3) (.slice o4 st.frm.length c4) (.slice o5 st.out.length c5) op xk xn xs s nmv n8 (.slice o6 k6 c6) (.slice o7 st.order.length c7) st.down st.n) 36)).heap.size ((w.alloc (.cells #[.slice to' ct.tables.length tc, .slice io ct.indexes.length ic] 25)).alloc (.cells (sA st.kind st.name st.table st.col (.slice o1 st.cols.length c1) (.slice o2 st.rows.length c2) (.slice o3 st.sets.length c3) (.slice o4 st.frm.length c4) (.slice o5 st.out.length c5) op xk xn xs s nmv n8 (.slice o6 k6 c6) (.slice o7 st.order.length c7) st.down st.n) 36)) (w4.alloc (.cells #[.slice to2 CT.tables.length tc2, .slice io2 CT.indexes.length ic2] 25)) := ((hbV0.trans (hb3.mono hbV0.size)).trans (hb4.mono (hbV0.trans (hb3.mono hbV0.size)).size)).alloc ((hbV0.trans (hb3.mono hbV0.size)).trans (hb4.mono (hbV0.trans (hb3.mono hbV0.size)).size)).size _; have hw04 : Below w.heap.size w (w4.alloc (.cells #[.slice to2 CT.tables.length tc2, .slice io2 CT.indexes.length ic2] 25)) := hb2.trans (hb04.mono hb2.size); have u0 := cell_of_block hD (j := 0) (u := .slice to2 CT.tables.length tc2) rfl; have u1 := cell_of_block hD (j := 1) (u := .slice io2 CT.indexes.length ic2) rfl; have u2 := (hb04.cell (p := ⟨w.heap.size + 1, 1, none⟩) hlt1).trans ab1; have HFi := find_is CT.tables (.slice to2 CT.tables.length tc2) (.slice io2 CT.indexes.length ic2) (isSl _ _ _) st.name _ HIS.out _ (htl2.keep (keepsB hbD)))
      | (go_at_call 8; refine HFi.mono ?_; rintro e w5 ⟨fn, fo, fl, fc, rfl, hb5⟩; have hT5 := bel1 w5 (.cells #[.string fn, .slice fo fl fc] 43); have hb5' := bthen hb5 hT5; have lD := lt_of_block hD; have t0 := (hb5'.cell (p := ⟨w4.heap.size, 0, none⟩) lD).trans u0; have t1 := (hb5'.cell (p := ⟨w4.heap.size, 1, none⟩) lD).trans u1; have HGd := HGo (.agg #[.slice to2 CT.tables.length tc2, .slice io2 CT.indexes.length ic2]) (w5.alloc (.cells #[.string fn, .slice fo fl fc] 43)) ⟨_, _, rfl, (htl2.keep (keepsB (bthen hbD hb5'))).mono (fun k hk _ => hk), (hil2.keep (keepsB (bthen hbD hb5'))).mono (fun k hk _ => hk)⟩)
      | (go_at_call 9; go_fit HGd; rintro e w6 ⟨rfl, hb6⟩; have hb56 := bthen hb5' hb6; have v0 := (hb56.cell (p := ⟨w4.heap.size, 0, none⟩) lD).trans u0; have v1 := (hb56.cell (p := ⟨w4.heap.size, 1, none⟩) lD).trans u1; have l04 := Nat.lt_of_lt_of_le hlt0 hb04.size; have l14 := Nat.lt_of_lt_of_le hlt1 hb04.size; have v2 := (hb56.cell (p := ⟨w.heap.size, 0, none⟩) l04).trans ((hb04.cell (p := ⟨w.heap.size, 0, none⟩) hlt0).trans z0); have v3 := (hb56.cell (p := ⟨w.heap.size, 1, none⟩) l04).trans ((hb04.cell (p := ⟨w.heap.size, 1, none⟩) hlt0).trans z1); have v4 := (hb56.cell (p := ⟨w.heap.size + 1, 0, none⟩) l14).trans ((hb04.cell (p := ⟨w.heap.size + 1, 0, none⟩) hlt1).trans ab0))
      | (refine wpList_load_row rfl 36 _ rfl (w.heap.size + 1) ?_ 36 _ (0, 0) _ B1 Try.underlying36 ?_ ?_ ?_; exact rfl; exact rfl; exact size_stm)
      | (refine wpList_load_row rfl 36 _ rfl w1.heap.size ?_ 36 _ (0, 0) _ hbox3 Try.underlying36 ?_ ?_ ?_; exact rfl; exact rfl; exact info_of ha1))
    go_ret
    exact ⟨rfl, hw04.trans ((hb56).mono (Nat.le_trans hw04.size (Nat.le_refl _)))⟩
  · have q1 : (ct.tables.length : Int) = (CT.tables.length : Int) := by rw [(G7 (by omega)).1]
    have q2 : (ct.indexes.length : Int) = (CT.indexes.length : Int) := by rw [(G7 (by omega)).2]
    have r1 : (st.kind != 1) = true := by simp; omega
    have r3 : (st.kind != 3) = true := by simp; omega
    have r4 : (3 : Int) < st.kind := by omega
    skip
    clear G2 G3 G4 G5 G6 G7 hk hkr
    go_enter Try.func3, Try.ntmps3
    go_wp2_with (first
      | (go_at_call 5; refine HB2.mono ?_; rintro r w1 ⟨arr, rfl, ha1, ha2, hR2, hb1⟩; have hnew := block_alloc_at w1 (.cells sZero 36); have hb1V : Below w1.heap.size w1 ((w1.alloc (.cells sZero 36)).setRow w1.heap.size arr) := Below.row ((Below.refl w1.heap.size w1).alloc (Nat.le_refl _) _) (Nat.le_refl _) _; have hbV : Below w.heap.size w ((w1.alloc (.cells sZero 36)).setRow w1.heap.size arr) := (bthen hb2 hb1).trans (hb1V.mono (bthen hb2 hb1).size); have hbV0 : Below ((w.alloc (.cells #[.slice to' ct.tables.length tc, .slice io ct.indexes.length ic] 25)).alloc (.cells (sA st.kind st.name st.table st.col (.slice o1 st.cols.length c1) (.slice o2 st.rows.length c2) (.slice o3 st.sets.length c3) (.slice o4 st.frm.length c4) (.slice o5 st.out.length c5) op xk xn xs s nmv n8 (.slice o6 k6 c6) (.slice o7 st.order.length c7) st.down st.n) 36)).heap.size ((w.alloc (.cells #[.slice to' ct.tables.length tc, .slice io ct.indexes.length ic] 25)).alloc (.cells (sA st.kind st.name st.table st.col (.slice o1 st.cols.length c1) (.slice o2 st.rows.length c2) (.slice o3 st.sets.length c3) (.slice o4 st.frm.length c4) (.slice o5 st.out.length c5) op xk xn xs s nmv n8 (.slice o6 k6 c6) (.slice o7 st.order.length c7) st.down st.n) 36)) ((w1.alloc (.cells sZero 36)).setRow w1.heap.size arr) := hb1.trans (hb1V.mono hb1.size); have hbox := block_row (cells := arr) hnew)
      | (refine wpList_store_row rfl 36 _ _ rfl w1.heap.size arr ?_ ?_ 36 sZero ?_ ?_ ?_ ?_ ?_; exact rfl; exact rfl; exact hnew; exact info_of ha1; exact ha1.symm; exact ha2)
      | (go_at_call 6; go_fit (HSc _); rintro e w3 ⟨rfl, hb3⟩; have hb3w : Below w.heap.size w w3 := bthen hbV hb3; have hbox3 := (hb3.block _ (lt_of_block hbox)).trans hbox; have x0 := (hb3.cell (p := ⟨w.heap.size, 0, none⟩) (Nat.lt_of_lt_of_le hlt0 hbV0.size)).trans ((hbV0.cell (p := ⟨w.heap.size, 0, none⟩) hlt0).trans z0); have x1 := (hb3.cell (p := ⟨w.heap.size, 1, none⟩) (Nat.lt_of_lt_of_le hlt0 hbV0.size)).trans ((hbV0.cell (p := ⟨w.heap.size, 1, none⟩) hlt0).trans z1); have HW1 := HWi w3 hb3w arr.toList (kStm.mono (fun k hk _ => hk) (kStm.keep (keepsB (bthen hb1V hb3)) hR2)))
      | (go_at_call 7; refine (toArr HW1).mono ?_; rintro e w4 ⟨tv2, iv2, rfl, htl2, hil2, hb4⟩; obtain ⟨to2, tc2, rfl⟩ := htl2.shape; obtain ⟨io2, ic2, rfl⟩ := hil2.shape; have hD := block_alloc_at w4 (.cells #[.slice to2 CT.tables.length tc2, .slice io2 CT.indexes.length ic2] 25); have hbD : Below w4.heap.size w4 (w4.alloc (.cells #[.slice to2 CT.tables.length tc2, .slice io2 CT.indexes.length ic2] 25)) := bel1 _ _; have hb04 : Below ((w.alloc (.cells #[.slice to' ct.tables.length tc, .slice io ct.indexes.length ic] 25)).alloc (.cells (sA st.kind st.name st.table st.col (.slice o1 st.cols.length c1) (.slice o2 st.rows.length c2) (.slice o3 st.sets.length c3) (.slice o4 st.frm.length c4) (.slice o5 st.out.length c5) op xk xn xs s nmv n8 (.slice o6 k6 c6) (.slice o7 st.order.length c7) st.down st.n) 36)).heap.size ((w.alloc (.cells #[.slice to' ct.tables.length tc, .slice io ct.indexes.length ic] 25)).alloc (.cells (sA st.kind st.name st.table st.col (.slice o1 st.cols.length c1) (.slice o2 st.rows.length c2) (.slice o3 st.sets.length c3) (.slice o4 st.frm.length c4) (.slice o5 st.out.length c5) op xk xn xs s nmv n8 (.slice o6 k6 c6) (.slice o7 st.order.length c7) st.down st.n) 36)) (w4.alloc (.cells #[.slice to2 CT.tables.length tc2, .slice io2 CT.indexes.length ic2] 25)) := ((hbV0.trans (hb3.mono hbV0.size)).trans (hb4.mono (hbV0.trans (hb3.mono hbV0.size)).size)).alloc ((hbV0.trans (hb3.mono hbV0.size)).trans (hb4.mono (hbV0.trans (hb3.mono hbV0.size)).size)).size _; have hw04 : Below w.heap.size w (w4.alloc (.cells #[.slice to2 CT.tables.length tc2, .slice io2 CT.indexes.length ic2] 25)) := hb2.trans (hb04.mono hb2.size); have u0 := cell_of_block hD (j := 0) (u := .slice to2 CT.tables.length tc2) rfl; have u1 := cell_of_block hD (j := 1) (u := .slice io2 CT.indexes.length ic2) rfl; have u2 := (hb04.cell (p := ⟨w.heap.size + 1, 1, none⟩) hlt1).trans ab1; have HFi := find_is CT.tables (.slice to2 CT.tables.length tc2) (.slice io2 CT.indexes.length ic2) (isSl _ _ _) st.name _ HIS.out _ (htl2.keep (keepsB hbD)))
      | (go_at_call 8; refine HFi.mono ?_; rintro e w5 ⟨fn, fo, fl, fc, rfl, hb5⟩; have hT5 := bel1 w5 (.cells #[.string fn, .slice fo fl fc] 43); have hb5' := bthen hb5 hT5; have lD := lt_of_block hD; have t0 := (hb5'.cell (p := ⟨w4.heap.size, 0, none⟩) lD).trans u0; have t1 := (hb5'.cell (p := ⟨w4.heap.size, 1, none⟩) lD).trans u1; have HGd := HGo (.agg #[.slice to2 CT.tables.length tc2, .slice io2 CT.indexes.length ic2]) (w5.alloc (.cells #[.string fn, .slice fo fl fc] 43)) ⟨_, _, rfl, (htl2.keep (keepsB (bthen hbD hb5'))).mono (fun k hk _ => hk), (hil2.keep (keepsB (bthen hbD hb5'))).mono (fun k hk _ => hk)⟩)
      | (go_at_call 9; go_fit HGd; rintro e w6 ⟨rfl, hb6⟩; have hb56 := bthen hb5' hb6; have v0 := (hb56.cell (p := ⟨w4.heap.size, 0, none⟩) lD).trans u0; have v1 := (hb56.cell (p := ⟨w4.heap.size, 1, none⟩) lD).trans u1; have l04 := Nat.lt_of_lt_of_le hlt0 hb04.size; have l14 := Nat.lt_of_lt_of_le hlt1 hb04.size; have v2 := (hb56.cell (p := ⟨w.heap.size, 0, none⟩) l04).trans ((hb04.cell (p := ⟨w.heap.size, 0, none⟩) hlt0).trans z0); have v3 := (hb56.cell (p := ⟨w.heap.size, 1, none⟩) l04).trans ((hb04.cell (p := ⟨w.heap.size, 1, none⟩) hlt0).trans z1); have v4 := (hb56.cell (p := ⟨w.heap.size + 1, 0, none⟩) l14).trans ((hb04.cell (p := ⟨w.heap.size + 1, 0, none⟩) hlt1).trans ab0))
      | (refine wpList_load_row rfl 36 _ rfl (w.heap.size + 1) ?_ 36 _ (0, 0) _ B1 Try.underlying36 ?_ ?_ ?_; exact rfl; exact rfl; exact size_stm)
      | (refine wpList_load_row rfl 36 _ rfl w1.heap.size ?_ 36 _ (0, 0) _ hbox3 Try.underlying36 ?_ ?_ ?_; exact rfl; exact rfl; exact info_of ha1))
    go_ret
    exact ⟨rfl, hw04.trans ((hb56).mono (Nat.le_trans hw04.size (Nat.le_refl _)))⟩

end Go.Proofs.Ytabanbpnghidhaa

namespace Go.Proofs.Ytabanbpnghidhaa
open Go.RowKit

/-- The slice v has the values L. -/
def IsVals (w : World) (v : Value) (L : List V) : Prop :=
  ((∃ ao cap, v = .slice ao 0 cap ∧ (ao = none → cap = 0)) ∧ L = []) ∨ ∃ b off cap, v = .slice (some ⟨b, off, none⟩) L.length cap ∧ b < w.heap.size ∧ HoldsV w b off L

theorem IsVals.below {w w' : World} {v : Value} {L : List V} (h : IsVals w v L) (hb : Below w.heap.size w w') : IsVals w' v L := by
  rcases h with h | ⟨b, off, cap, h1, h2, h3⟩
  · exact .inl h
  · exact .inr ⟨b, off, cap, h1, Nat.lt_of_lt_of_le h2 hb.size, h3.below hb h2⟩

theorem IsVals.shape {w : World} {v : Value} {L : List V} (h : IsVals w v L) : ∃ ao cap, v = .slice ao L.length cap := by
  rcases h with ⟨⟨ao, cap, rfl, _⟩, rfl⟩ | ⟨b, off, cap, rfl, _, _⟩
  · exact ⟨ao, cap, rfl⟩
  · exact ⟨_, cap, rfl⟩

/-- Values as cells. -/
def vcells (L : List V) : List Value := L.flatMap V.cells
theorem vcells_snoc (L : List V) (v : V) : vcells (L ++ [v]) = vcells L ++ v.cells := by simp [vcells]
theorem vcells_at : ∀ (L : List V) (i : Nat) (v : V), L[i]? = some v → (vcells L)[i * 3]? = some (.int .i64 v.k) ∧ (vcells L)[i * 3 + 1]? = some (.int .i64 v.n) ∧ (vcells L)[i * 3 + 2]? = some (.string v.s)
  | x :: L, 0, v, h => by
    simp at h; subst h
    simp [vcells, V.cells]
  | x :: L, i + 1, v, h => by
    have := vcells_at L i v (by simpa using h)
    have e : vcells (x :: L) = .int .i64 x.k :: .int .i64 x.n :: .string x.s :: vcells L := by simp [vcells, V.cells]
    rw [e, show (i + 1) * 3 = i * 3 + 1 + 1 + 1 from by omega]
    exact this

/-- What Values has made is a list of values. -/
theorem IsVals.of_own {w : World} {base : Nat} {lv : Value} {L : List V} (h : w.ownsRow base 32 3 lv L.length (vcells L)) : IsVals w lv L := by
  rcases h.2 with ⟨rfl, h0⟩ | ⟨g, cap, cur, rfl, _, hg, _⟩
  · exact .inl ⟨⟨none, 0, rfl, fun _ => rfl⟩, List.eq_nil_of_length_eq_zero h0⟩
  · refine .inr ⟨g, 0, cap, rfl, lt_of_block hg, fun i v hi => ?_⟩
    obtain ⟨h0, h1, h2⟩ := vcells_at L i v hi
    have c0 := h.cells (g := g) rfl _ _ h0
    have c1 := h.cells (g := g) rfl _ _ h1
    have c2 := h.cells (g := g) rfl _ _ h2
    rw [Addr.add_lit] at c0 c1 c2
    exact ⟨c0, by rw [Nat.add_assoc]; exact c1, by rw [Nat.add_assoc]; exact c2⟩

theorem HoldsV.cells {w : World} {b off : Nat} : ∀ {L : List V}, HoldsV w b off L → ∀ j u, (vcells L)[j]? = some u → w.cell? ((⟨b, off, none⟩ : Addr).add j) = some u := by
  intro L h j u hj
  have hl : (vcells L).length = L.length * 3 := by
    clear h hj
    induction L with
    | nil => rfl
    | cons x L ih => simp [vcells, V.cells] at ih ⊢; omega
  have hjl := (List.getElem?_eq_some_iff.1 hj).1
  obtain ⟨v, hv⟩ : ∃ v, L[j / 3]? = some v := ⟨_, List.getElem?_eq_getElem (by omega)⟩
  obtain ⟨a0, a1, a2⟩ := vcells_at L _ _ hv
  obtain ⟨c0, c1, c2⟩ := h _ _ hv
  rw [Addr.add_lit]
  rcases (show j = j / 3 * 3 ∨ j = j / 3 * 3 + 1 ∨ j = j / 3 * 3 + 2 from by omega) with e | e | e
  · rw [e] at hj ⊢
    rw [a0] at hj; simp at hj; subst hj; exact c0
  · rw [e] at hj ⊢
    rw [a1] at hj; simp at hj; subst hj; rw [← Nat.add_assoc]; exact c1
  · rw [e] at hj ⊢
    rw [a2] at hj; simp at hj; subst hj; rw [← Nat.add_assoc]; exact c2
theorem vcells_length (L : List V) : (vcells L).length = L.length * 3 := by
  induction L with
  | nil => rfl
  | cons x L ih => simp [vcells, V.cells] at ih ⊢; omega
theorem vcells_one (L : List V) : ∀ u ∈ vcells L, u.oneCell' = true := by
  intro u hu
  simp only [vcells, List.mem_flatMap] at hu
  obtain ⟨v, _, hu⟩ := hu
  simp [V.cells] at hu
  rcases hu with rfl | rfl | rfl <;> rfl

end Go.Proofs.Ytabanbpnghidhaa

namespace Go.Proofs.Ytabanbpnghidhaa
open Go.RowKit

/-- A value; a row of values. -/
def kVal : Elem V where
  size := 3
  R _ _ v c := c = v.cells
  len h := by subst h; rfl
  keep _ h := h
  mono _ h := h
def kVals : Elem (List V) where
  size := 1
  R F w l c := ∃ sv, c = [sv] ∧ IsL kVal F w sv l
  len h := by obtain ⟨sv, rfl, _⟩ := h; rfl
  keep hk h := by obtain ⟨sv, h1, h2⟩ := h; exact ⟨sv, h1, h2.keep hk⟩
  mono hk h := by obtain ⟨sv, h1, h2⟩ := h; exact ⟨sv, h1, h2.mono hk⟩
theorem all_vals {F : Nat → Prop} {w : World} : ∀ {l : List V} {cs : List Value}, All kVal F w l cs ↔ cs = vcells l
  | [], cs => Iff.rfl
  | v :: l, cs => by
    have e : vcells (v :: l) = v.cells ++ vcells l := by simp [vcells]
    rw [e]
    constructor
    · rintro ⟨c, rest, rfl, h2, h3⟩
      rw [all_vals.1 h3, show c = v.cells from h2]
    · rintro rfl
      exact ⟨v.cells, vcells l, rfl, rfl, all_vals.2 rfl⟩
theorem isL_vals {F : Nat → Prop} {w : World} {sv : Value} {l : List V} (h : IsL kVal F w sv l) : IsVals w sv l := by
  obtain ⟨cs, h1, h2⟩ := h
  have := all_vals.1 h2
  subst this
  rcases h1.2 with ⟨h0, ao, cap, rfl, hc⟩ | ⟨h0, b, off, cap, rfl, _, hb, _, _, hcell⟩
  · exact .inl ⟨⟨ao, cap, rfl, hc⟩, List.eq_nil_of_length_eq_zero h0⟩
  · refine .inr ⟨b, off, cap, rfl, hb, fun i v hi => ?_⟩
    obtain ⟨a0, a1, a2⟩ := vcells_at l i v hi
    exact ⟨hcell _ _ a0, by rw [Nat.add_assoc]; exact hcell _ _ a1, by rw [Nat.add_assoc]; exact hcell _ _ a2⟩
theorem isL_own {F : Nat → Prop} {w : World} {base : Nat} {lv : Value} {L : List V} (h : w.ownsRow base 32 3 lv L.length (vcells L)) (hF : ∀ k, base ≤ k → F k) : IsL kVal F w lv L :=
  ⟨vcells L, IsRowB.of_own h hF, all_vals.2 rfl⟩

end Go.Proofs.Ytabanbpnghidhaa

namespace Go.Proofs.Ytabanbpnghidhaa
open Go.RowKit Go.Deep

theorem cells_value : Try.prog.cellsOf 32 = 3 := by kernel_rfl
theorem cells_int : Try.prog.cellsOf 3 = 1 := by kernel_rfl
theorem cells_string : Try.prog.cellsOf 9 = 1 := by kernel_rfl
theorem bytes_value : Try.prog.bytesOf 32 = 32 := by kernel_rfl

/-- A value as data. -/
def V.datum {H : Type} (v : V) : DataW H := .agg [.lit (.int .i64 v.k), .lit (.int .i64 v.n), .lit (.string v.s.data.toList)]

theorem und_value : ∃ f0 f1 f2 : Field, Try.prog.underlying 32 = some (.struct #[f0, f1, f2]) ∧ f0.offset = 0 ∧ f1.offset = 1 ∧ f2.offset = 2 ∧ f0.type = 3 ∧ f1.type = 3 ∧ f2.type = 9 :=
  ⟨_, _, _, Try.underlying32, rfl, rfl, rfl, rfl, rfl, rfl⟩

section
variable {H : Type} {enc : TypeId × Value → H} {w : World} {base : Nat} {spare : Nat → Bool} {held : Bool}

theorem open_value {fuel : Nat} {cs : List Value} {x : DataW H × List MemPlace} (h : DataW.trod enc Try.prog w base spare held fuel 32 cs = some x) :
    ∃ v : V, cs = v.cells ∧ v.s.size ≤ maxLen ∧ x.1 = v.datum := by
  obtain ⟨f0, f1, f2, hu, o0, o1, o2, t0, t1, t2⟩ := und_value
  obtain ⟨y0, y1, y2, n, rfl, hl, h0, h1, h2⟩ := trod_struct3 hu h
  rw [cells_value] at hl
  rw [o0, t0, cells_int] at h0
  rw [o1, t1, cells_int] at h1
  rw [o2, t2, cells_string] at h2
  match cs, hl with
  | [c0, c1, c2], _ =>
    simp only [List.drop_zero, List.take_succ_cons, List.take_zero, List.drop_succ_cons] at h0 h1 h2
    obtain ⟨a, e0, rfl, _⟩ := DataW.trod_int Try.underlying3 h0
    obtain ⟨b, e1, rfl, _⟩ := DataW.trod_int Try.underlying3 h1
    obtain ⟨s, e2, rfl, hs⟩ := DataW.trod_string Try.underlying9 h2
    simp only [List.cons.injEq, and_true] at e0 e1 e2
    subst e0 e1 e2
    exact ⟨⟨a, b, s⟩, rfl, hs, rfl⟩

theorem lt_of_cell {w : World} {a : Addr} {v : Value} (h : w.cell? a = some v) : a.block < w.heap.size := by
  rcases Nat.lt_or_ge a.block w.heap.size with h' | h'
  · exact h'
  · simp [World.cell?, Array.getElem?_eq_none h'] at h

theorem open_vals {fuel : Nat} {sv : Value} {x : DataW H × List MemPlace} (h : DataW.trod enc Try.prog w base spare held fuel 48 [sv] = some x) :
    ∃ L : List V, IsVals w sv L ∧ (∀ v ∈ L, v.s.size ≤ maxLen) ∧ ((x.1 = .nil ∧ L = []) ∨ ∃ sp, x.1 = .slice (L.map V.datum) sp) := by
  rcases open_slice Try.underlying48 h with ⟨hcs, rfl⟩ | ⟨a, len, cap, m, n, D, Pl, hcs, hb, hl, hm, hmm, rfl, hx⟩
  · simp only [List.cons.injEq, and_true] at hcs
    subst hcs
    exact ⟨[], .inl ⟨⟨none, 0, rfl, fun _ => rfl⟩, rfl⟩, by simp, .inl ⟨rfl, rfl⟩⟩
  · simp only [List.cons.injEq, and_true] at hcs
    subst hcs
    have hlm : len ≤ m := by rw [hmm]; split <;> omega
    have each : ∀ i, i < len → ∃ v : V, w.cell? (a.add (i * 3)) = some (.int .i64 v.k) ∧ w.cell? (a.add (i * 3 + 1)) = some (.int .i64 v.n) ∧ w.cell? (a.add (i * 3 + 2)) = some (.string v.s) ∧ v.s.size ≤ maxLen ∧ D i = v.datum := by
      intro i hi
      obtain ⟨cs', h1, h2⟩ := hx i (by omega)
      rw [cells_value] at h1
      obtain ⟨_, hlen, hcell⟩ := World.cells?_some h1
      obtain ⟨v, rfl, hs, hd⟩ := open_value h2
      have e0 := hcell 0 (by omega)
      have e1 := hcell 1 (by omega)
      have e2 := hcell 2 (by omega)
      rw [add_add] at e0 e1 e2
      exact ⟨v, by simpa [V.cells] using e0, by simpa [V.cells] using e1, by simpa [V.cells] using e2, hs, hd⟩
    have : Inhabited V := ⟨zero⟩
    obtain ⟨f, hf⟩ := choose_lt each
    refine ⟨(List.range len).map f, ?_, ?_, .inr ⟨(List.range (m - len)).map fun j => D (len + j), ?_⟩⟩
    · rcases Nat.eq_zero_or_pos len with rfl | hpos
      · exact .inl ⟨⟨_, _, rfl, fun h => by cases h⟩, by simp⟩
      · obtain ⟨b, off, spot⟩ := a
        have hc := (hf 0 hpos).1
        have hspot : spot = none := by simpa [Addr.add] using World.cell?_spot hc
        subst hspot
        refine .inr ⟨b, off, cap, by simp, ?_, ?_⟩
        · have := lt_of_cell hc
          simpa [Addr.add] using this
        · intro i v hi
          have hil : i < len := by
            have := (List.getElem?_eq_some_iff.1 hi).1
            simpa using this
          have hv : v = f i := by
            rw [List.getElem?_map, List.getElem?_range hil] at hi
            simpa using hi.symm
          subst hv
          obtain ⟨g0, g1, g2, _⟩ := hf i hil
          rw [Addr.add_lit] at g0 g1 g2
          exact ⟨g0, by rw [Nat.add_assoc]; exact g1, by rw [Nat.add_assoc]; exact g2⟩
    · intro v hv
      obtain ⟨i, hi, rfl⟩ := List.mem_map.1 hv
      exact (hf i (List.mem_range.1 hi)).2.2.2.1
    · have e : (List.range len).map D = ((List.range len).map f).map V.datum := by
        rw [List.map_map]
        exact List.map_congr_left fun i hi => (hf i (List.mem_range.1 hi)).2.2.2.2
      show DataW.slice _ _ = _
      rw [e]

end
end Go.Proofs.Ytabanbpnghidhaa

namespace Go.Proofs.Ytabanbpnghidhaa

theorem bulk_pos {H : Type} (d : DataW H) : 1 ≤ Rows.uptoBulk d := by
  cases d with
  | lit l => cases l <;> simp [Rows.uptoBulk]
  | nil => simp [Rows.uptoBulk]
  | ptr d => simp [Rows.uptoBulk]
  | slice elems spare => simp [Rows.uptoBulk]
  | agg parts => simp [Rows.uptoBulk]
  | iface t d => simp [Rows.uptoBulk]
  | map entries => simp [Rows.uptoBulk]
  | held h => simp [Rows.uptoBulk]

theorem bulk_length {H : Type} (l : List (DataW H)) : l.length ≤ Rows.uptoBulkAll l := by
  induction l with
  | nil => simp [Rows.uptoBulkAll]
  | cons x r ih => have := bulk_pos x; simp only [Rows.uptoBulkAll, List.length_cons]; omega

theorem slice_bulk {H : Type} (elems spare : List (DataW H)) : elems.length ≤ Rows.uptoBulk (.slice elems spare) := by
  have h1 := bulk_length elems
  simp only [Rows.uptoBulk]
  omega

end Go.Proofs.Ytabanbpnghidhaa

