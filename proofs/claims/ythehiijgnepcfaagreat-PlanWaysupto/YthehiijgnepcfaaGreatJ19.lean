/-
  6 texts of this proof in one, in build order: YIndexD, YExprs, YFit, YRef, YBindM, YMade.
-/
import Derived.Deep.Cut
import Derived.Deep.LoopGhost
import Derived.Deep.CutRange
import Derived.Laws.EntriesVeiled
import Derived.Deep.MidRow
import Derived.Laws.MakeOwn
import Derived.Test.YthehiijgnepcfaaGreatJ06
import Derived.Test.YthehiijgnepcfaaGreatJ12
namespace Go.Proofs.YthehiijgnepcfaaGreat
open Go.RowKit

set_option maxRecDepth 100000 in
set_option maxHeartbeats 2000000 in
theorem index_goodExprs2 (l : List (List E)) (F : Nat → Prop) (ao : Option Addr) (n c : Nat) (f0 : Value) (p : Nat → Bool) (St : Nat → World → Prop) (En : World → Prop) (w : World) (hEn : ∀ i W, St i W → En W) (hIs : ∀ i W, St i W → IsL kRow F W (.slice ao n c) l)
    (hcall : ∀ i x cs W, l[i]? = some x → St i W → kRow.R F W x cs → Calls Tryz.prog 41 #[cs.headD (.bool false), f0] W fun e W' => e = .returned (.bool (p i)) ∧ En W' ∧ (p i = false → St (i + 1) W')) (h0 : St 0 w) :
    Calls Tryz.prog 88 #[.slice ao n c, .func (.func 41) #[] #[f0]] w fun e W' => e = .returned (.int .i64 (firstI p 0 l.length)) ∧ En W' := by
  obtain ⟨hn, hlm⟩ := isL_len (hIs 0 w h0)
  subst hn
  unfold maxLen at hlm
  go_enter Tryz.func88, Tryz.ntmps88
  go_wp2
  go_loopw [8] (fun i wr => ∃ k : Nat, k ≤ l.length ∧ i = .int .i64 k ∧ St k wr ∧ Hid (firstI p 0 l.length = firstI p k (l.length - k))) (fun i _ => l.length - (intOf i).toNat)
  case atStart => exact ⟨0, Nat.zero_le _, rfl, h0, rfl⟩
  case round =>
    obtain ⟨k, hk, rfl, hSt, HP⟩ := hrel
    by_cases hlt : k < l.length
    · obtain ⟨x, hx⟩ : ∃ x, l[k]? = some x := ⟨_, List.getElem?_eq_getElem hlt⟩
      obtain ⟨b, off, cs, rfl, _, hb, hR, hcell⟩ := isL_get (hIs k wr hSt) hx
      have HC := hcall k x cs wr hx hSt hR
      obtain ⟨xa, xl, xc, rfl⟩ := shape_Row hR
      have d0 := hcell 0 _ rfl
      simp only [kRow, Nat.add_zero, Nat.mul_one] at d0
      have k0 : (0 : Int) ≤ (k : Int) := by omega
      have k1 : (k : Int) < (l.length : Int) := by omega
      have hst : Hid (firstI p k (l.length - k) = if p k then (k : Int) else firstI p (k + 1) (l.length - (k + 1))) := firstI_step p k l.length hlt
      clear hcell hx
      generalize hq : p k = q at HC hst
      clear hq
      cases q
      · go_wp2_with (go_at_call 41; go_must (go_fit HC; rintro e W' ⟨rfl, _, hS1⟩))
        go_roundw
        case rel => exact ⟨k + 1, by omega, by go_num, hS1 (by first | rfl | trivial), by rw [HP.out, hst.out]; rfl⟩
        case measure => simp [intOf]; omega
      · go_wp2_with (go_at_call 41; go_must (go_fit HC; rintro e W' ⟨rfl, hS1, _⟩))
        go_ret
        exact ⟨ret_int (by rw [HP.out, hst.out]; rfl), hS1⟩
    · have HE : Hid (firstI p k (l.length - k) = -1) := by show _ = _; rw [show l.length - k = 0 from by omega, firstI]
      go_wp2
      go_ret
      exact ⟨ret_int (by rw [HP.out, HE.out]), hEn k _ hSt⟩

set_option maxHeartbeats 2000000 in
theorem contains_goodExprs2 (l : List (List E)) (F : Nat → Prop) (ao : Option Addr) (n c : Nat) (f0 : Value) (p : Nat → Bool) (St : Nat → World → Prop) (En : World → Prop) (w : World) (hEn : ∀ i W, St i W → En W) (hIs : ∀ i W, St i W → IsL kRow F W (.slice ao n c) l)
    (hcall : ∀ i x cs W, l[i]? = some x → St i W → kRow.R F W x cs → Calls Tryz.prog 41 #[cs.headD (.bool false), f0] W fun e W' => e = .returned (.bool (p i)) ∧ En W' ∧ (p i = false → St (i + 1) W')) (h0 : St 0 w) :
    Calls Tryz.prog 44 #[.slice ao n c, .func (.func 41) #[] #[f0]] w fun e W' => e = .returned (.bool (anyI p 0 l.length)) ∧ En W' := by
  have HI := index_goodExprs2 l F ao n c f0 p St En w hEn hIs hcall h0
  have HA : Hid (anyI p 0 l.length = decide (0 ≤ firstI p 0 l.length)) := anyI_eq p l.length 0
  generalize anyI p 0 l.length = r at HA
  generalize firstI p 0 l.length = q at HI HA
  clear hIs hcall h0 hEn
  go_enter Tryz.func44, Tryz.ntmps44
  go_wp2_with (go_at_call 88; go_must (go_fit HI; rintro e W' ⟨rfl, hS1⟩))
  go_ret
  exact ⟨ret_bool (by rw [HA.out]), hS1⟩

set_option maxRecDepth 100000 in
set_option maxHeartbeats 2000000 in
theorem index_goodExprs3 (l : List (Wd × E)) (F : Nat → Prop) (ao : Option Addr) (n c : Nat) (f0 : Value) (p : Nat → Bool) (St : Nat → World → Prop) (En : World → Prop) (w : World) (hEn : ∀ i W, St i W → En W) (hIs : ∀ i W, St i W → IsL kSetE F W (.slice ao n c) l)
    (hcall : ∀ i x cs W, l[i]? = some x → St i W → kSetE.R F W x cs → Calls Tryz.prog 43 #[.agg cs.toArray, f0] W fun e W' => e = .returned (.bool (p i)) ∧ En W' ∧ (p i = false → St (i + 1) W')) (h0 : St 0 w) :
    Calls Tryz.prog 89 #[.slice ao n c, .func (.func 43) #[] #[f0]] w fun e W' => e = .returned (.int .i64 (firstI p 0 l.length)) ∧ En W' := by
  obtain ⟨hn, hlm⟩ := isL_len (hIs 0 w h0)
  subst hn
  unfold maxLen at hlm
  go_enter Tryz.func89, Tryz.ntmps89
  go_wp2
  go_loopw [8] (fun i wr => ∃ k : Nat, k ≤ l.length ∧ i = .int .i64 k ∧ St k wr ∧ Hid (firstI p 0 l.length = firstI p k (l.length - k))) (fun i _ => l.length - (intOf i).toNat)
  case atStart => exact ⟨0, Nat.zero_le _, rfl, h0, rfl⟩
  case round =>
    obtain ⟨k, hk, rfl, hSt, HP⟩ := hrel
    by_cases hlt : k < l.length
    · obtain ⟨x, hx⟩ : ∃ x, l[k]? = some x := ⟨_, List.getElem?_eq_getElem hlt⟩
      obtain ⟨b, off, cs, rfl, _, hb, hR, hcell⟩ := isL_get (hIs k wr hSt) hx
      have HC := hcall k x cs wr hx hSt hR
      obtain ⟨cn, xo, xk, xn, xs2, xs, xm, xi, xa, xl, xc, rfl⟩ := shape_Set hR
      have d0 := hcell 0 _ rfl
      have d1 := hcell 1 _ rfl
      have d2 := hcell 2 _ rfl
      have d3 := hcell 3 _ rfl
      have d4 := hcell 4 _ rfl
      have d5 := hcell 5 _ rfl
      have d6 := hcell 6 _ rfl
      have d7 := hcell 7 _ rfl
      have d8 := hcell 8 _ rfl
      simp only [kSetE, Nat.add_zero] at d0 d1 d2 d3 d4 d5 d6 d7 d8
      have k0 : (0 : Int) ≤ (k : Int) := by omega
      have k1 : (k : Int) < (l.length : Int) := by omega
      have hst : Hid (firstI p k (l.length - k) = if p k then (k : Int) else firstI p (k + 1) (l.length - (k + 1))) := firstI_step p k l.length hlt
      clear hcell hx
      generalize hq : p k = q at HC hst
      clear hq
      cases q
      · go_wp2_with (go_at_call 43; go_must (go_fit HC; rintro e W' ⟨rfl, _, hS1⟩))
        go_roundw
        case rel => exact ⟨k + 1, by omega, by go_num, hS1 (by first | rfl | trivial), by rw [HP.out, hst.out]; rfl⟩
        case measure => simp [intOf]; omega
      · go_wp2_with (go_at_call 43; go_must (go_fit HC; rintro e W' ⟨rfl, hS1, _⟩))
        go_ret
        exact ⟨ret_int (by rw [HP.out, hst.out]; rfl), hS1⟩
    · have HE : Hid (firstI p k (l.length - k) = -1) := by show _ = _; rw [show l.length - k = 0 from by omega, firstI]
      go_wp2
      go_ret
      exact ⟨ret_int (by rw [HP.out, HE.out]), hEn k _ hSt⟩

set_option maxHeartbeats 2000000 in
theorem contains_goodExprs3 (l : List (Wd × E)) (F : Nat → Prop) (ao : Option Addr) (n c : Nat) (f0 : Value) (p : Nat → Bool) (St : Nat → World → Prop) (En : World → Prop) (w : World) (hEn : ∀ i W, St i W → En W) (hIs : ∀ i W, St i W → IsL kSetE F W (.slice ao n c) l)
    (hcall : ∀ i x cs W, l[i]? = some x → St i W → kSetE.R F W x cs → Calls Tryz.prog 43 #[.agg cs.toArray, f0] W fun e W' => e = .returned (.bool (p i)) ∧ En W' ∧ (p i = false → St (i + 1) W')) (h0 : St 0 w) :
    Calls Tryz.prog 45 #[.slice ao n c, .func (.func 43) #[] #[f0]] w fun e W' => e = .returned (.bool (anyI p 0 l.length)) ∧ En W' := by
  have HI := index_goodExprs3 l F ao n c f0 p St En w hEn hIs hcall h0
  have HA : Hid (anyI p 0 l.length = decide (0 ≤ firstI p 0 l.length)) := anyI_eq p l.length 0
  generalize anyI p 0 l.length = r at HA
  generalize firstI p 0 l.length = q at HI HA
  clear hIs hcall h0 hEn
  go_enter Tryz.func45, Tryz.ntmps45
  go_wp2_with (go_at_call 89; go_must (go_fit HI; rintro e W' ⟨rfl, hS1⟩))
  go_ret
  exact ⟨ret_bool (by rw [HA.out]), hS1⟩

end Go.Proofs.YthehiijgnepcfaaGreat

namespace Go.Proofs.YthehiijgnepcfaaGreat
open Go.RowKit Go.Maps

def E.opn : E → Int
  | .mk op _ _ _ _ _ => op
def badE (e : E) : Bool := !geB 40 e
def badEs (l : List E) : Bool := l.any badE
/-- All expressions of a command are good. -/
def exprsB (st : Stm) : Bool := !st.rows.any badEs && !st.sets.any (fun t => badE t.2) && !badEs st.out && !badEs st.order && (decide (st.wher.opn = 0) || !badE st.wher)
structure FitS (st : Stm) : Prop where
  rows : ∀ r ∈ st.rows, fitXs r
  sets : ∀ t ∈ st.sets, fitX t.2 ∧ t.1.size ≤ maxLen
  out : fitXs st.out
  order : fitXs st.order
  wher : fitX st.wher
  name : st.name.size ≤ maxLen
  table : st.table.size ≤ maxLen
  col : st.col.size ≤ maxLen
  cols : fitCols st.cols
  frm : ∀ s ∈ st.frm, s.size ≤ maxLen

set_option maxRecDepth 100000 in
set_option maxHeartbeats 1000000 in
theorem goodExprs1_any (e : E) (v : Value) (C : Nat) (w : World) (he : IsE (fun k => k < C) w e v) (hC : C ≤ w.heap.size) (hf : fitX e) :
    Calls Tryz.prog 40 #[v] w fun r w' => r = .returned (.bool (badE e)) ∧ Below w.heap.size w w' := by
  obtain ⟨op, ⟨xk, xn, xs⟩, s, name, n, ao, k, c, rfl⟩ := he.shape
  have hbx := bel1 w (.cells (eArr op ⟨xk, xn, xs⟩ s name n (.slice ao k c)) 34)
  have HG : Calls Tryz.prog 29 #[.agg (eArr op ⟨xk, xn, xs⟩ s name n (.slice ao k c)), .int .i64 40] _ _ := goodExpr_any 40 (Nat.le_refl _) e _ C _ (IsE.keep (keepsC (hbx.mono hC)) e _ he) (Nat.le_trans hC hbx.size) hf
  have E : Hid (badE e = !geB 40 e) := rfl
  generalize badE e = r at E
  generalize geB 40 e = g at HG E
  clear he hf
  go_enter Tryz.func40, Tryz.ntmps40
  go_wp2_with (go_at_call 29; go_fit HG; rintro e w1 ⟨rfl, hb1⟩)
  go_ret
  exact ⟨ret_bool (by rw [E.out]), bthen hbx hb1⟩

/-- ContainsFunc with it. -/
theorem contains_bad (l : List E) (sv : Value) (C : Nat) (w : World) (hl : IsL kExpr (fun k => k < C) w sv l) (hC : C ≤ w.heap.size) (hf : fitXs l) :
    Calls Tryz.prog 42 #[sv, .func (.func 40) #[] #[]] w fun e w' => e = .returned (.bool (badEs l)) ∧ Below w.heap.size w w' := by
  obtain ⟨ao, c, rfl⟩ := hl.shape
  have := contains_goodExprs1 l (fun k => k < C) ao l.length c (atI l badE) (fun _ W => Below w.heap.size w W) (fun W => Below w.heap.size w W) w (fun i W h => h) (fun i W h => hl.keep (keepsC (h.mono hC)))
    (by
      rintro i x cs W hx h1 hR
      refine (goodExprs1_any x (.agg cs.toArray) C W hR.2 (Nat.le_trans hC h1.size) (fitXs_mem hf (List.mem_of_getElem? hx))).mono ?_
      rintro e W' ⟨rfl, hb⟩
      exact ⟨by rw [atI_get hx], h1.trans (hb.mono h1.size), fun _ => h1.trans (hb.mono h1.size)⟩)
    (Below.refl _ _)
  rw [anyI_list] at this
  exact this

set_option maxRecDepth 100000 in
set_option maxHeartbeats 1000000 in
theorem goodExprs2_any (l : List E) (sv : Value) (pb C : Nat) (w : World) (hl : IsL kExpr (fun k => k < C) w sv l) (hC : C ≤ w.heap.size) (hf : fitXs l) (hp : w.cell? ⟨pb, 0, none⟩ = some (.func (.func 40) #[] #[])) :
    Calls Tryz.prog 41 #[sv, .pointer (some ⟨pb, 0, none⟩)] w fun r w' => r = .returned (.bool (badEs l)) ∧ Below w.heap.size w w' := by
  obtain ⟨ao, c, rfl⟩ := hl.shape
  have HC := contains_bad l _ C w hl hC hf
  generalize badEs l = r at HC
  clear hl hf
  go_enter Tryz.func41, Tryz.ntmps41
  go_wp2_with (go_at_call 42; go_fit HC; rintro e w1 ⟨rfl, hb1⟩)
  go_ret
  exact ⟨rfl, hb1⟩

set_option maxRecDepth 100000 in
set_option maxHeartbeats 1000000 in
theorem goodExprs3_any (t : Wd × E) (cs : List Value) (pb C : Nat) (w : World) (hR : kSetE.R (fun k => k < C) w t cs) (hC : C ≤ w.heap.size) (hf : fitX t.2) (hp : w.cell? ⟨pb, 0, none⟩ = some (.func (.func 40) #[] #[])) (hpb : pb < w.heap.size) :
    Calls Tryz.prog 43 #[.agg cs.toArray, .pointer (some ⟨pb, 0, none⟩)] w fun r w' => r = .returned (.bool (badE t.2)) ∧ Below w.heap.size w w' := by
  obtain ⟨d, rfl, hd, he⟩ := hR
  obtain ⟨xo, xk, xn, xs2, xs, xm, xi, xa, xl, xc, rfl⟩ := shape_Expr (F := fun k => k < C) (w := w) (e := t.2) ⟨hd, he⟩
  have hbx := bel1 w (.cells #[.string t.1, .int .i64 xo, .int .i64 xk, .int .i64 xn, .string xs2, .string xs, .string xm, .int .i64 xi, .slice xa xl xc] 98)
  have HG := goodExprs1_any t.2 _ C _ (IsE.keep (keepsC (hbx.mono hC)) t.2 _ he) (Nat.le_trans hC hbx.size) hf
  have hp1 := (hbx.cell (p := ⟨pb, 0, none⟩) hpb).trans hp
  generalize badE t.2 = r at HG
  clear he hf hd
  go_enter Tryz.func43, Tryz.ntmps43
  go_wp2_with (go_at_call 40; go_fit HG; rintro e w1 ⟨rfl, hb1⟩)
  go_ret
  exact ⟨rfl, bthen hbx hb1⟩

/-- A command's value, written out. -/
theorem stm_shape {F : Nat → Prop} {w : World} {st : Stm} {c : List Value} (h : kStm.R F w st c) : ∃ o1 c1 o2 c2 o3 c3 o4 c4 o5 c5 op xk xn xs s nmv n8 o6 k6 c6 o7 c7,
    c = (sA st.kind st.name st.table st.col (.slice o1 st.cols.length c1) (.slice o2 st.rows.length c2) (.slice o3 st.sets.length c3) (.slice o4 st.frm.length c4) (.slice o5 st.out.length c5) op xk xn xs s nmv n8 (.slice o6 k6 c6) (.slice o7 st.order.length c7) st.down st.n).toList ∧
    IsL kCol F w (.slice o1 st.cols.length c1) st.cols ∧ IsL kRow F w (.slice o2 st.rows.length c2) st.rows ∧ IsL kSetE F w (.slice o3 st.sets.length c3) st.sets ∧ IsL kStr F w (.slice o4 st.frm.length c4) st.frm ∧ IsL kExpr F w (.slice o5 st.out.length c5) st.out ∧ IsE F w st.wher (.agg (eArr op ⟨xk, xn, xs⟩ s nmv n8 (.slice o6 k6 c6))) ∧ IsL kExpr F w (.slice o7 st.order.length c7) st.order := by
  obtain ⟨cols, rows, sets, frm, out, w8, order, hc, h8, h1, h2, h3, h4, h5, h6, h7⟩ := h.is
  obtain ⟨o1, c1, rfl⟩ := h1.shape
  obtain ⟨o2, c2, rfl⟩ := h2.shape
  obtain ⟨o3, c3, rfl⟩ := h3.shape
  obtain ⟨o4, c4, rfl⟩ := h4.shape
  obtain ⟨o5, c5, rfl⟩ := h5.shape
  obtain ⟨o7, c7, rfl⟩ := h7.shape
  obtain ⟨op, xk, xn, xs, s, nmv, n8, o6, k6, c6, rfl⟩ := shape_Expr (F := F) (w := w) (e := st.wher) ⟨h8, h6⟩
  exact ⟨o1, c1, o2, c2, o3, c3, o4, c4, o5, c5, op, xk, xn, xs, s, nmv, n8, o6, k6, c6, o7, c7, hc, h1, h2, h3, h4, h5, h6, h7⟩

set_option maxRecDepth 100000 in
set_option maxHeartbeats 4000000 in
theorem goodExprs_any (st : Stm) (cs : List Value) (C : Nat) (w : World) (hR : kStm.R (fun k => k < C) w st cs) (hC : C ≤ w.heap.size) (hf : FitS st) :
    Calls Tryz.prog 14 #[.agg cs.toArray] w fun r w' => r = .returned (.bool (exprsB st)) ∧ Below w.heap.size w w' := by
  obtain ⟨o1, c1, o2, c2, o3, c3, o4, c4, o5, c5, op, xk, xn, xs, s, nmv, n8, o6, k6, c6, o7, c7, rfl, _, h2, h3, _, h5, h6, h7⟩ := stm_shape hR
  have hb2 := bel2 w (.cells (sA st.kind st.name st.table st.col (.slice o1 st.cols.length c1) (.slice o2 st.rows.length c2) (.slice o3 st.sets.length c3) (.slice o4 st.frm.length c4) (.slice o5 st.out.length c5) op xk xn xs s nmv n8 (.slice o6 k6 c6) (.slice o7 st.order.length c7) st.down st.n) 36) (.cells #[.func (.func 40) #[] #[]] 94)
  have hbl0 : ((w.alloc (.cells (sA st.kind st.name st.table st.col (.slice o1 st.cols.length c1) (.slice o2 st.rows.length c2) (.slice o3 st.sets.length c3) (.slice o4 st.frm.length c4) (.slice o5 st.out.length c5) op xk xn xs s nmv n8 (.slice o6 k6 c6) (.slice o7 st.order.length c7) st.down st.n) 36)).alloc (.cells #[.func (.func 40) #[] #[]] 94)).heap[w.heap.size]? = some (.cells (sA st.kind st.name st.table st.col (.slice o1 st.cols.length c1) (.slice o2 st.rows.length c2) (.slice o3 st.sets.length c3) (.slice o4 st.frm.length c4) (.slice o5 st.out.length c5) op xk xn xs s nmv n8 (.slice o6 k6 c6) (.slice o7 st.order.length c7) st.down st.n) 36) := block_alloc_of (block_alloc_at _ _) _
  have hbl1 : ((w.alloc (.cells (sA st.kind st.name st.table st.col (.slice o1 st.cols.length c1) (.slice o2 st.rows.length c2) (.slice o3 st.sets.length c3) (.slice o4 st.frm.length c4) (.slice o5 st.out.length c5) op xk xn xs s nmv n8 (.slice o6 k6 c6) (.slice o7 st.order.length c7) st.down st.n) 36)).alloc (.cells #[.func (.func 40) #[] #[]] 94)).heap[w.heap.size + 1]? = some (.cells #[.func (.func 40) #[] #[]] 94) := block2 _ _ _
  have hsz0 : ((w.alloc (.cells (sA st.kind st.name st.table st.col (.slice o1 st.cols.length c1) (.slice o2 st.rows.length c2) (.slice o3 st.sets.length c3) (.slice o4 st.frm.length c4) (.slice o5 st.out.length c5) op xk xn xs s nmv n8 (.slice o6 k6 c6) (.slice o7 st.order.length c7) st.down st.n) 36)).alloc (.cells #[.func (.func 40) #[] #[]] 94)).heap.size = w.heap.size + 2 := by simp
  generalize hW0 : ((w.alloc (.cells (sA st.kind st.name st.table st.col (.slice o1 st.cols.length c1) (.slice o2 st.rows.length c2) (.slice o3 st.sets.length c3) (.slice o4 st.frm.length c4) (.slice o5 st.out.length c5) op xk xn xs s nmv n8 (.slice o6 k6 c6) (.slice o7 st.order.length c7) st.down st.n) 36)).alloc (.cells #[.func (.func 40) #[] #[]] 94)) = W0 at hb2 hbl0 hbl1 hsz0
  have HW0 : Hid _ := hW0
  clear hW0 hR
  have hz0 : W0.heap.size ≤ W0.heap.size := Nat.le_refl _
  have KB : ∀ W, Below W0.heap.size W0 W → Below w.heap.size w W := fun W h => bthen hb2 h
  have KP : ∀ W, Below W0.heap.size W0 W → W.cell? ⟨w.heap.size + 1, 0, none⟩ = some (.func (.func 40) #[] #[]) := fun W h => (h.cell (p := ⟨w.heap.size + 1, 0, none⟩) (show w.heap.size + 1 < W0.heap.size by omega)).trans (cell_of_block hbl1 rfl)
  have KL : ∀ W, Below W0.heap.size W0 W → w.heap.size + 1 < W.heap.size := fun W h => Nat.lt_of_lt_of_le (show w.heap.size + 1 < W0.heap.size by omega) h.size
  have KC : ∀ W, Below W0.heap.size W0 W → C ≤ W.heap.size := fun W h => Nat.le_trans hC (KB W h).size
  have H1 := contains_goodExprs2 st.rows (fun k => k < C) o2 st.rows.length c2 (.pointer (some ⟨w.heap.size + 1, 0, none⟩)) (atI st.rows badEs) (fun _ W => Below W0.heap.size W0 W) (fun W => Below W0.heap.size W0 W) W0 (fun i W h => h) (fun i W h => h2.keep (keepsC ((KB W h).mono hC)))
    (by
      rintro i x cs W hx h1 ⟨sv, rfl, hsv⟩
      refine (goodExprs2_any x sv (w.heap.size + 1) C W hsv (KC W h1) (hf.rows x (List.mem_of_getElem? hx)) (KP W h1)).mono ?_
      rintro e W' ⟨rfl, hb⟩
      exact ⟨by rw [atI_get hx], bthen h1 hb, fun _ => bthen h1 hb⟩)
    (Below.refl _ _)
  have H2 := fun (W1 : World) (hW1 : Below W0.heap.size W0 W1) => contains_goodExprs3 st.sets (fun k => k < C) o3 st.sets.length c3 (.pointer (some ⟨w.heap.size + 1, 0, none⟩)) (atI st.sets fun t => badE t.2) (fun _ W => Below W0.heap.size W0 W) (fun W => Below W0.heap.size W0 W) W1 (fun i W h => h) (fun i W h => h3.keep (keepsC ((KB W h).mono hC)))
    (by
      rintro i x cs W hx h1 hR
      refine (goodExprs3_any x cs (w.heap.size + 1) C W hR (KC W h1) (hf.sets x (List.mem_of_getElem? hx)).1 (KP W h1) (KL W h1)).mono ?_
      rintro e W' ⟨rfl, hb⟩
      exact ⟨by rw [atI_get hx], bthen h1 hb, fun _ => bthen h1 hb⟩)
    hW1
  have H3 := fun (W1 : World) (hW1 : Below W0.heap.size W0 W1) => goodExprs2_any st.out (.slice o5 st.out.length c5) (w.heap.size + 1) C W1 (h5.keep (keepsC ((KB W1 hW1).mono hC))) (KC W1 hW1) hf.out (KP W1 hW1)
  have H4 := fun (W1 : World) (hW1 : Below W0.heap.size W0 W1) => goodExprs2_any st.order (.slice o7 st.order.length c7) (w.heap.size + 1) C W1 (h7.keep (keepsC ((KB W1 hW1).mono hC))) (KC W1 hW1) hf.order (KP W1 hW1)
  have H5 := fun (W1 : World) (hW1 : Below W0.heap.size W0 W1) => goodExprs1_any st.wher (.agg (eArr op ⟨xk, xn, xs⟩ s nmv n8 (.slice o6 k6 c6))) C W1 (IsE.keep (keepsC ((KB W1 hW1).mono hC)) _ _ h6) (KC W1 hW1) hf.wher
  have hop : st.wher.opn = op := by
    cases hw : st.wher with
    | mk op' x' s' nm' n' l' =>
      rw [hw] at h6
      obtain ⟨sv, he, _⟩ := h6.open
      simp only [Value.agg.injEq, Array.mk.injEq, List.cons.injEq, Value.int.injEq, true_and] at he
      exact he.1.symm
  have E : Hid (exprsB st = (!st.rows.any badEs && !st.sets.any (fun t => badE t.2) && !badEs st.out && !badEs st.order && (decide (op = 0) || !badE st.wher))) := by show _ = _; rw [exprsB, hop]
  rw [anyI_list] at H1
  simp only [anyI_list] at H2
  generalize exprsB st = r at E
  generalize st.rows.any badEs = b1 at H1 E
  generalize st.sets.any (fun t => badE t.2) = b2 at H2 E
  generalize badEs st.out = b3 at H3 E
  generalize badEs st.order = b4 at H4 E
  generalize badE st.wher = b5 at H5 E
  clear h2 h3 h5 h6 h7 hop hf
  have KS : Hid (∀ W, Below W0.heap.size W0 W → W.heap[w.heap.size]? = some (.cells (sA st.kind st.name st.table st.col (.slice o1 st.cols.length c1) (.slice o2 st.rows.length c2) (.slice o3 st.sets.length c3) (.slice o4 st.frm.length c4) (.slice o5 st.out.length c5) op xk xn xs s nmv n8 (.slice o6 k6 c6) (.slice o7 st.order.length c7) st.down st.n) 36)) := fun W h => (h.block _ (show w.heap.size < W0.heap.size by omega)).trans hbl0
  cases b1
  rotate_left
  · go_enter Tryz.func14, Tryz.ntmps14
    go_upto_region 4 with fail
    rw [HW0.out]
    have g5 := cell_of_block hbl0 (j := 5) rfl
    go_wp2_with (first | (go_at_call 44; go_fit H1; rintro e w1 ⟨rfl, B1⟩; have S1 := KS.out _ B1; have g6 := cell_of_block S1 (j := 6) rfl; have g8 := cell_of_block S1 (j := 8) rfl))
    go_ret
    exact ⟨ret_bool (by rw [E.out]; rfl), KB _ B1⟩
  cases b2
  rotate_left
  · go_enter Tryz.func14, Tryz.ntmps14
    go_upto_region 4 with fail
    rw [HW0.out]
    have g5 := cell_of_block hbl0 (j := 5) rfl
    go_wp2_with (first | (go_at_call 44; go_fit H1; rintro e w1 ⟨rfl, B1⟩; have S1 := KS.out _ B1; have g6 := cell_of_block S1 (j := 6) rfl; have g8 := cell_of_block S1 (j := 8) rfl) | (go_at_call 45; go_fit (H2 _ B1); rintro e w2 ⟨rfl, B2⟩; have S2 := KS.out _ B2; have g8 := cell_of_block S2 (j := 8) rfl))
    go_ret
    exact ⟨ret_bool (by rw [E.out]; rfl), KB _ B2⟩
  cases b3
  rotate_left
  · go_enter Tryz.func14, Tryz.ntmps14
    go_upto_region 4 with fail
    rw [HW0.out]
    have g5 := cell_of_block hbl0 (j := 5) rfl
    go_wp2_with (first | (go_at_call 44; go_fit H1; rintro e w1 ⟨rfl, B1⟩; have S1 := KS.out _ B1; have g6 := cell_of_block S1 (j := 6) rfl; have g8 := cell_of_block S1 (j := 8) rfl) | (go_at_call 45; go_fit (H2 _ B1); rintro e w2 ⟨rfl, B2⟩; have S2 := KS.out _ B2; have g8 := cell_of_block S2 (j := 8) rfl) | (go_at_call_of 41 (Value.slice o5 st.out.length c5); go_fit (H3 _ B2); rintro e w3 ⟨rfl, hb3⟩; have B3 := bthen B2 hb3; have S3' := KS.out _ B3; have g17 := cell_of_block S3' (j := 17) rfl))
    go_ret
    exact ⟨ret_bool (by rw [E.out]; rfl), KB _ B3⟩
  cases b4
  rotate_left
  · go_enter Tryz.func14, Tryz.ntmps14
    go_upto_region 4 with fail
    rw [HW0.out]
    have g5 := cell_of_block hbl0 (j := 5) rfl
    go_wp2_with (first | (go_at_call 44; go_fit H1; rintro e w1 ⟨rfl, B1⟩; have S1 := KS.out _ B1; have g6 := cell_of_block S1 (j := 6) rfl; have g8 := cell_of_block S1 (j := 8) rfl) | (go_at_call 45; go_fit (H2 _ B1); rintro e w2 ⟨rfl, B2⟩; have S2 := KS.out _ B2; have g8 := cell_of_block S2 (j := 8) rfl) | (go_at_call_of 41 (Value.slice o5 st.out.length c5); go_fit (H3 _ B2); rintro e w3 ⟨rfl, hb3⟩; have B3 := bthen B2 hb3; have S3' := KS.out _ B3; have g17 := cell_of_block S3' (j := 17) rfl) | (go_at_call_of 41 (Value.slice o7 st.order.length c7); go_fit (H4 _ B3); rintro e w4 ⟨rfl, hb4⟩; have B4 := bthen B3 hb4; have S4 := KS.out _ B4; have gp := KP _ B4; have g9 := cell_of_block S4 (j := 9) rfl; have g10 := cell_of_block S4 (j := 10) rfl; have g11 := cell_of_block S4 (j := 11) rfl; have g12 := cell_of_block S4 (j := 12) rfl; have g13 := cell_of_block S4 (j := 13) rfl; have g14 := cell_of_block S4 (j := 14) rfl; have g15 := cell_of_block S4 (j := 15) rfl; have g16 := cell_of_block S4 (j := 16) rfl))
    go_ret
    exact ⟨ret_bool (by rw [E.out]; rfl), KB _ B4⟩
  by_cases h0 : op = 0
  · subst h0
    go_enter Tryz.func14, Tryz.ntmps14
    go_upto_region 4 with fail
    rw [HW0.out]
    have g5 := cell_of_block hbl0 (j := 5) rfl
    go_wp2_with (first | (go_at_call 44; go_fit H1; rintro e w1 ⟨rfl, B1⟩; have S1 := KS.out _ B1; have g6 := cell_of_block S1 (j := 6) rfl; have g8 := cell_of_block S1 (j := 8) rfl) | (go_at_call 45; go_fit (H2 _ B1); rintro e w2 ⟨rfl, B2⟩; have S2 := KS.out _ B2; have g8 := cell_of_block S2 (j := 8) rfl) | (go_at_call_of 41 (Value.slice o5 st.out.length c5); go_fit (H3 _ B2); rintro e w3 ⟨rfl, hb3⟩; have B3 := bthen B2 hb3; have S3' := KS.out _ B3; have g17 := cell_of_block S3' (j := 17) rfl) | (go_at_call_of 41 (Value.slice o7 st.order.length c7); go_fit (H4 _ B3); rintro e w4 ⟨rfl, hb4⟩; have B4 := bthen B3 hb4; have S4 := KS.out _ B4; have gp := KP _ B4; have g9 := cell_of_block S4 (j := 9) rfl; have g10 := cell_of_block S4 (j := 10) rfl; have g11 := cell_of_block S4 (j := 11) rfl; have g12 := cell_of_block S4 (j := 12) rfl; have g13 := cell_of_block S4 (j := 13) rfl; have g14 := cell_of_block S4 (j := 14) rfl; have g15 := cell_of_block S4 (j := 15) rfl; have g16 := cell_of_block S4 (j := 16) rfl))
    go_ret
    exact ⟨ret_bool (by rw [E.out]; rfl), KB _ B4⟩
  · have h0' : (op == 0) = false := by simpa using h0
    have E2 : Hid (r = !b5) := by show _ = _; rw [E.out]; simp [h0]
    go_enter Tryz.func14, Tryz.ntmps14
    go_upto_region 4 with fail
    rw [HW0.out]
    have g5 := cell_of_block hbl0 (j := 5) rfl
    go_wp2_with (first | (go_at_call 44; go_fit H1; rintro e w1 ⟨rfl, B1⟩; have S1 := KS.out _ B1; have g6 := cell_of_block S1 (j := 6) rfl; have g8 := cell_of_block S1 (j := 8) rfl) | (go_at_call 45; go_fit (H2 _ B1); rintro e w2 ⟨rfl, B2⟩; have S2 := KS.out _ B2; have g8 := cell_of_block S2 (j := 8) rfl) | (go_at_call_of 41 (Value.slice o5 st.out.length c5); go_fit (H3 _ B2); rintro e w3 ⟨rfl, hb3⟩; have B3 := bthen B2 hb3; have S3' := KS.out _ B3; have g17 := cell_of_block S3' (j := 17) rfl) | (go_at_call_of 41 (Value.slice o7 st.order.length c7); go_fit (H4 _ B3); rintro e w4 ⟨rfl, hb4⟩; have B4 := bthen B3 hb4; have S4 := KS.out _ B4; have gp := KP _ B4; have g9 := cell_of_block S4 (j := 9) rfl; have g10 := cell_of_block S4 (j := 10) rfl; have g11 := cell_of_block S4 (j := 11) rfl; have g12 := cell_of_block S4 (j := 12) rfl; have g13 := cell_of_block S4 (j := 13) rfl; have g14 := cell_of_block S4 (j := 14) rfl; have g15 := cell_of_block S4 (j := 15) rfl; have g16 := cell_of_block S4 (j := 16) rfl) | (go_at_call 40; go_fit (H5 _ B4); rintro e w5 ⟨rfl, hb5⟩; have B5 := bthen B4 hb5))
    go_ret
    exact ⟨ret_bool (by rw [E2.out]), KB _ B5⟩

end Go.Proofs.YthehiijgnepcfaaGreat

namespace Go.Proofs.YthehiijgnepcfaaGreat
open Go.RowKit Go.Maps

def countsB (k want : Int) : Bool := decide (k = want) || decide (k = 0)
def typeI (op : Int) : Int := if op = 3 ∨ op = 4 then 1 else 3
def allB (ts : List Int) (want : Int) : Bool := ts.all fun k => countsB k want
/-- May an operation have arguments of such types? -/
def fitB (op : Int) (ts : List Int) : Bool :=
  if op = 3 ∨ op = 4 then allB ts 1 else if op = 5 ∨ op = 6 then allB ts 1 || allB ts 2 else if op = 7 ∨ op = 8 ∨ op = 9 then allB ts 3 else true

set_option maxHeartbeats 400000 in
theorem countsAs_any (k want : Int) (w : World) : Calls Tryz.prog 167 #[.int .i64 k, .int .i64 want] w fun e w' => e = .returned (.bool (countsB k want)) ∧ w' = w := by
  by_cases h1 : k = want <;> by_cases h2 : k = 0
  all_goals
    go_enter Tryz.func167, Tryz.ntmps167
    go_wp2
    go_ret
    exact ⟨ret_bool (by simp_all [countsB]), rfl⟩
set_option maxHeartbeats 400000 in
theorem typeOf_any (op : Int) (w : World) : Calls Tryz.prog 170 #[.int .i64 op] w fun e w' => e = .returned (.int .i64 (typeI op)) ∧ w' = w := by
  by_cases h1 : op = 3
  · subst h1
    go_enter Tryz.func170, Tryz.ntmps170
    go_wp2
    go_ret
    exact ⟨rfl, rfl⟩
  by_cases h2 : op = 4
  · subst h2
    go_enter Tryz.func170, Tryz.ntmps170
    go_wp2
    go_ret
    exact ⟨rfl, rfl⟩
  have E : Hid (typeI op = 3) := by show _ = _; simp [typeI, h1, h2]
  have e3 : (op == 3) = false := by simpa using h1
  have e4 : (op == 4) = false := by simpa using h2
  go_enter Tryz.func170, Tryz.ntmps170
  go_wp2
  go_ret
  exact ⟨ret_int (by rw [E.out]), rfl⟩

set_option maxHeartbeats 1000000 in
theorem fit11_any (k want : Int) (pb : Nat) (w : World) (hp : w.cell? ⟨pb, 0, none⟩ = some (.int .i64 want)) : Calls Tryz.prog 183 #[.int .i64 k, .pointer (some ⟨pb, 0, none⟩)] w fun e w' => e = .returned (.bool (!countsB k want)) ∧ w' = w := by
  have HC := fun w => countsAs_any k want w
  generalize countsB k want = b at HC
  go_enter Tryz.func183, Tryz.ntmps183
  go_wp2_with (go_at_call 167; go_fit (HC _); rintro e w1 ⟨rfl, rfl⟩)
  go_ret
  exact ⟨rfl, rfl⟩

set_option maxRecDepth 100000 in
set_option maxHeartbeats 1000000 in
theorem fit1_any (ts : List Int) (tv : Value) (want : Int) (pb : Nat) (F : Nat → Prop) (w : World) (hl : IsL kNum F w tv ts) (hp : w.cell? ⟨pb, 0, none⟩ = some tv) (hpb : pb < w.heap.size) :
    Calls Tryz.prog 181 #[.int .i64 want, .pointer (some ⟨pb, 0, none⟩)] w fun e w' => e = .returned (.bool (allB ts want)) ∧ Below w.heap.size w w' := by
  obtain ⟨ao, c, rfl⟩ := hl.shape
  have hbx := bel1 w (.cells #[.int .i64 want] 3)
  have hp1 := (hbx.cell (p := ⟨pb, 0, none⟩) hpb).trans hp
  have hbl : (w.alloc (.cells #[.int .i64 want] 3)).heap[w.heap.size]? = some (.cells #[.int .i64 want] 3) := block_alloc_at _ _
  have HC := contains_fit ts F ao ts.length c (.pointer (some ⟨w.heap.size, 0, none⟩)) (atI ts fun k => !countsB k want) (fun _ W => W = w.alloc (.cells #[.int .i64 want] 3)) (fun W => W = w.alloc (.cells #[.int .i64 want] 3)) _ (fun i W h => h)
    (fun i W h => by rw [h]; exact hl.keep (keepsB hbx))
    (by
      rintro i x cs W hx rfl rfl
      refine (fit11_any x want w.heap.size _ (cell_of_block hbl rfl)).mono ?_
      rintro e W' ⟨rfl, rfl⟩
      exact ⟨by rw [atI_get hx], rfl, fun _ => rfl⟩)
    rfl
  rw [anyI_list] at HC
  have E : Hid (allB ts want = !ts.any fun k => !countsB k want) := by show _ = _; rw [allB, List.all_eq_not_any_not]
  generalize allB ts want = r at E
  generalize (ts.any fun k => !countsB k want) = q at HC E
  clear hl
  go_enter Tryz.func181, Tryz.ntmps181
  go_wp2_with (go_at_call 182; go_fit HC; rintro e w1 ⟨rfl, rfl⟩)
  go_ret
  exact ⟨ret_bool (by rw [E.out]), hbx⟩

set_option maxRecDepth 100000 in
set_option maxHeartbeats 2000000 in
theorem fit_any (op : Int) (ts : List Int) (tv : Value) (F : Nat → Prop) (w : World) (hl : IsL kNum F w tv ts) :
    Calls Tryz.prog 169 #[.int .i64 op, tv] w fun e w' => e = .returned (.bool (fitB op ts)) ∧ Below w.heap.size w w' := by
  obtain ⟨ao, c, rfl⟩ := hl.shape
  have hbx := bel1 w (.cells #[.slice ao ts.length c] 208)
  have hbl : (w.alloc (.cells #[.slice ao ts.length c] 208)).heap[w.heap.size]? = some (.cells #[.slice ao ts.length c] 208) := block_alloc_at _ _
  have H := fun (want : Int) (W : World) (h : Below (w.alloc (.cells #[.slice ao ts.length c] 208)).heap.size (w.alloc (.cells #[.slice ao ts.length c] 208)) W) => fit1_any ts (.slice ao ts.length c) want w.heap.size F W ((hl.keep (keepsB hbx)).keep (keepsB h)) ((h.cell (p := ⟨w.heap.size, 0, none⟩) (by simp)).trans (cell_of_block hbl rfl)) (Nat.lt_of_lt_of_le (by simp) h.size)
  have E : Hid (fitB op ts = if op = 3 ∨ op = 4 then allB ts 1 else if op = 5 ∨ op = 6 then allB ts 1 || allB ts 2 else if op = 7 ∨ op = 8 ∨ op = 9 then allB ts 3 else true) := rfl
  generalize fitB op ts = r at E
  have H1 := H 1
  have H2 := H 2
  have H3 := H 3
  clear H hl
  generalize allB ts 1 = b1 at H1 E
  generalize allB ts 2 = b2 at H2 E
  generalize allB ts 3 = b3 at H3 E
  by_cases h34 : op = 3 ∨ op = 4
  · have E2 : Hid (r = b1) := by show _ = _; rw [E.out, if_pos h34]
    clear E
    rcases h34 with rfl | rfl
    all_goals
      go_enter Tryz.func169, Tryz.ntmps169
      go_wp2_with (go_at_call_of 181 (Value.int .i64 1); go_fit (H1 _ (Below.refl _ _)); rintro e w1 ⟨rfl, hb1⟩)
      go_ret
      exact ⟨ret_bool (by rw [E2.out]), bthen hbx hb1⟩
  by_cases h56 : op = 5 ∨ op = 6
  · have E2 : Hid (r = (b1 || b2)) := by show _ = _; rw [E.out, if_neg h34, if_pos h56]
    clear E h34
    cases b1
    · rcases h56 with rfl | rfl
      all_goals
        go_enter Tryz.func169, Tryz.ntmps169
        go_wp2_with (first | (go_at_call_of 181 (Value.int .i64 1); go_fit (H1 _ (Below.refl _ _)); rintro e w1 ⟨rfl, hb1⟩) | (go_at_call_of 181 (Value.int .i64 2); go_fit (H2 _ hb1); rintro e w2 ⟨rfl, hb2⟩))
        go_ret
        exact ⟨ret_bool (by rw [E2.out]; rfl), bthen hbx (bthen hb1 hb2)⟩
    · rcases h56 with rfl | rfl
      all_goals
        go_enter Tryz.func169, Tryz.ntmps169
        go_wp2_with (go_at_call_of 181 (Value.int .i64 1); go_fit (H1 _ (Below.refl _ _)); rintro e w1 ⟨rfl, hb1⟩)
        go_ret
        exact ⟨ret_bool (by rw [E2.out]; rfl), bthen hbx hb1⟩
  by_cases h79 : op = 7 ∨ op = 8 ∨ op = 9
  · have E2 : Hid (r = b3) := by show _ = _; rw [E.out, if_neg h34, if_neg h56, if_pos h79]
    clear E h34 h56
    rcases h79 with rfl | rfl | rfl
    all_goals
      go_enter Tryz.func169, Tryz.ntmps169
      go_wp2_with (go_at_call_of 181 (Value.int .i64 3); go_fit (H3 _ (Below.refl _ _)); rintro e w1 ⟨rfl, hb1⟩)
      go_ret
      exact ⟨ret_bool (by rw [E2.out]), bthen hbx hb1⟩
  have E2 : Hid (r = true) := by show _ = _; rw [E.out, if_neg h34, if_neg h56, if_neg h79]
  have e3 : (op == 3) = false := by simp; omega
  have e4 : (op == 4) = false := by simp; omega
  have e5 : (op == 5) = false := by simp; omega
  have e6 : (op == 6) = false := by simp; omega
  have e7 : (op == 7) = false := by simp; omega
  have e8 : (op == 8) = false := by simp; omega
  have e9 : (op == 9) = false := by simp; omega
  clear H1 H2 H3 E h34 h56 h79
  go_enter Tryz.func169, Tryz.ntmps169
  go_wp2_with fail
  go_ret
  exact ⟨ret_bool (by rw [E2.out]), hbx⟩

end Go.Proofs.YthehiijgnepcfaaGreat

namespace Go.Proofs.YthehiijgnepcfaaGreat
open Go.RowKit Go.Maps

/-- What has been found of a column: how many, its type, its place, how many columns there were. -/
structure RefS where
  found : Nat
  kind : Int
  n : Int
  ahead : Nat
def hitB (t : TabD) (s name : Wd) : Bool := decide (0 ≤ colAt t.cols name) && (decide (s.size = 0) || decide (s = t.name))
def refStep (s name : Wd) (r : RefS) (t : TabD) : RefS :=
  ⟨if hitB t s name then r.found + 1 else r.found, if hitB t s name then ((t.cols[(colAt t.cols name).toNat]?).map ColD.ty).getD 0 else r.kind, if hitB t s name then (r.ahead : Int) + colAt t.cols name else r.n, r.ahead + t.cols.length⟩
def refAll (S : List TabD) (s name : Wd) (n : Int) : RefS := S.foldl (refStep s name) ⟨0, 0, n, 0⟩
theorem refAll_snoc (S : List TabD) (t : TabD) (s name : Wd) (n : Int) : refAll (S ++ [t]) s name n = refStep s name (refAll S s name n) t := by simp [refAll]
theorem colAt_cases (l : List ColD) (s : Wd) : colAt l s = -1 ∨ ∃ (k : Nat) (x : ColD), colAt l s = (k : Int) ∧ l[k]? = some x ∧ x.name = s := by
  rcases find_cases l (fun x => decide (x.name = s)) with ⟨h1, _⟩ | ⟨k, x, h1, h2, h3, _⟩
  · exact .inl h1
  · exact .inr ⟨k, x, h1, h2, by simpa using h3⟩

theorem wrap_small {a : Int} (h : 0 ≤ a) (h2 : a ≤ 4000000000) : IntKind.i64.wrap a = a := by rw [IntKind.wrap_i64]; omega
theorem wrap64_small {a : Int} (h : 0 ≤ a) (h2 : a ≤ 4000000000) : wrap64 a = a := by unfold wrap64; omega
/-- Three results, of which the first lies in a block. -/
theorem results_three {P : Program} {fn : Func} {p q r : Tmp} {ty : TypeId} (h : fn.results = #[.cell p ty, .tmp q, .tmp r]) (tmps : Array Value) (w : World) (g : Nat) (t : TypeId) (cs : Array Value) (fr : Nat × Nat) (d : TypeDesc) (v u : Value)
    (hp : tmps.getD p undef = .pointer (some ⟨g, 0, none⟩)) (hq : tmps.getD q undef = v) (hr : tmps.getD r undef = u) (hg : w.heap[g]? = some (.cells cs t fr))
    (hu : P.underlying ty = some d) (hd : (match d with | .struct _ | .array _ _ => true | _ => false) = true) (hi : (P.info? ty).map (·.size) = some cs.size) :
    (results fn tmps).run P w = .ok (.tuple #[.agg cs, v, u]) w := by
  have hp' : tmps[p]?.getD undef = .pointer (some ⟨g, 0, none⟩) := by simpa using hp
  have hq' : tmps[q]?.getD undef = v := by simpa using hq
  have hr' : tmps[r]?.getD undef = u := by simpa using hr
  simp [results, h, hp', hq', hr', asAddr, run_loadVar_row w g t ty cs fr d hg hu hd hi]
theorem size_expr : (Tryz.prog.info? 34).map (·.size) = some 8 := by kernel_rfl
theorem one_eArr (op : Int) (x : V) (s name : Wd) (n : Int) (ao : Option Addr) (k c : Nat) : (eArr op x s name n (.slice ao k c)).all (·.oneCell') = true := by simp [Value.oneCell']

/-- What bindRef answers. -/
def refAns (op : Int) (x : V) (s name : Wd) (ao : Option Addr) (k c : Nat) (r : RefS) : Value :=
  if r.found = 1 then .tuple #[.agg (eArr op x s name r.n (.slice ao k c)), .int .i64 r.kind, .int .i64 0] else .tuple #[.agg (eArr 0 zero noW noW 0 (.slice none 0 0)), .int .i64 0, .int .i64 3]
theorem refAns_one {op : Int} {x : V} {s name : Wd} {ao : Option Addr} {k c : Nat} {r : RefS} (h : r.found = 1) : refAns op x s name ao k c r = .tuple #[.agg (eArr op x s name r.n (.slice ao k c)), .int .i64 r.kind, .int .i64 0] := if_pos h
theorem refAns_not {op : Int} {x : V} {s name : Wd} {ao : Option Addr} {k c : Nat} {r : RefS} (h : ¬ r.found = 1) : refAns op x s name ao k c r = .tuple #[.agg (eArr 0 zero noW noW 0 (.slice none 0 0)), .int .i64 0, .int .i64 3] := if_neg h

set_option maxRecDepth 100000 in
set_option maxHeartbeats 4000000 in
theorem bindRef_any (S : List TabD) (sv : Value) (op : Int) (x : V) (s name : Wd) (n : Int) (ao : Option Addr) (k c : Nat) (C : Nat) (w : World) (hl : IsL kTab (fun k => k < C) w sv S) (hC : C ≤ w.heap.size) (hS : S.length ≤ 1000) (hsc : ∀ t ∈ S, t.cols.length ≤ 1000000) :
    Calls Tryz.prog 168 #[sv, .agg (eArr op x s name n (.slice ao k c))] w fun e w' => e = .returned (refAns op x s name ao k c (refAll S s name n)) ∧ Below w.heap.size w w' := by
  obtain ⟨so, sc, rfl⟩ := hl.shape
  obtain ⟨xk, xn, xs⟩ := x
  have hb2 := bel2 w (.cells (eArr op ⟨xk, xn, xs⟩ s name n (.slice ao k c)) 34) (.cells (eArr 0 zero noW noW 0 (.slice none 0 0)) 34)
  have hB0 : ((w.alloc (.cells (eArr op ⟨xk, xn, xs⟩ s name n (.slice ao k c)) 34)).alloc (.cells (eArr 0 zero noW noW 0 (.slice none 0 0)) 34)).heap[w.heap.size]? = some (.cells (eArr op ⟨xk, xn, xs⟩ s name n (.slice ao k c)) 34) := block_alloc_of (block_alloc_at _ _) _
  have hB1 : ((w.alloc (.cells (eArr op ⟨xk, xn, xs⟩ s name n (.slice ao k c)) 34)).alloc (.cells (eArr 0 zero noW noW 0 (.slice none 0 0)) 34)).heap[w.heap.size + 1]? = some (.cells (eArr 0 zero noW noW 0 (.slice none 0 0)) 34) := block2 _ _ _
  generalize hr : refAns op ⟨xk, xn, xs⟩ s name ao k c (refAll S s name n) = R
  have HR : Hid (refAns op ⟨xk, xn, xs⟩ s name ao k c (refAll S s name n) = R) := hr
  clear hr
  go_enter Tryz.func168, Tryz.ntmps168
  go_wp2
  go_loopw [7, 8, 9, 15] (fun fv kv av i wr => ∃ (j : Nat) (q : RefS), j ≤ S.length ∧ i = .int .i64 j ∧ fv = .int .i64 (q.found : Nat) ∧ kv = .int .i64 q.kind ∧ av = .int .i64 (q.ahead : Nat) ∧ Hid (refAll (S.take j) s name n = q) ∧ q.found ≤ j ∧ q.ahead ≤ j * 1000000 ∧ wr.heap[w.heap.size]? = some (.cells (eArr op ⟨xk, xn, xs⟩ s name q.n (.slice ao k c)) 34) ∧ wr.heap[w.heap.size + 1]? = some (.cells (eArr 0 zero noW noW 0 (.slice none 0 0)) 34) ∧ Below w.heap.size w wr) (fun _ _ _ i _ => S.length - (intOf i).toNat)
  case atStart => exact ⟨0, ⟨0, 0, n, 0⟩, Nat.zero_le _, rfl, rfl, rfl, rfl, rfl, Nat.le_refl _, by simp, hB0, hB1, hb2⟩
  case round =>
    obtain ⟨j, q, hj, rfl, rfl, rfl, rfl, HQ, hq1, hq2, hE, hZ, hbel⟩ := hrel
    clear hB0 hB1
    have hlt0 := lt_of_block hE
    have hlt1 := lt_of_block hZ
    by_cases hjl : j < S.length
    · obtain ⟨t, ht⟩ : ∃ t, S[j]? = some t := ⟨_, List.getElem?_eq_getElem hjl⟩
      have hst : Hid (refAll (S.take (j + 1)) s name n = refStep s name q t) := by
        show _ = _
        rw [List.take_add_one, ht]
        exact (refAll_snoc _ _ _ _ _).trans (by rw [HQ.out])
      have htc := hsc t (List.mem_of_getElem? ht)
      obtain ⟨b, off, cs, rfl, hbC, hb, ⟨cv, rfl, hcv⟩, hcell⟩ := isL_get (hl.keep (keepsC (hbel.mono hC))) ht
      obtain ⟨co, cc, rfl⟩ := hcv.shape
      have d0 := hcell 0 _ rfl
      have d1 := hcell 1 _ rfl
      simp only [kTab, Nat.add_zero] at d0 d1
      have j0 : (0 : Int) ≤ (j : Int) := by omega
      have j1 : (j : Int) < (S.length : Int) := by omega
      have e2 := cell_of_block hE (j := 4) rfl
      have e3 := cell_of_block hE (j := 5) rfl
      have hbx := bel1 wr (.cells #[.string t.name, .slice co t.cols.length cc] 43)
      have HF := findCol_any t.cols t.name (.slice co t.cols.length cc) name C _ (hcv.keep (keepsC (hbx.mono (Nat.le_trans hC hbel.size)))) (Nat.le_trans (Nat.le_trans hC hbel.size) hbx.size)
      clear hcell ht
      go_upto_region 6 with (go_at_call 71; go_fit HF; rintro e w1 ⟨rfl, hb1⟩)
      have hbT := bthen hbx hb1
      have hbw1 : Below w.heap.size w w1 := hbel.trans (hbT.mono hbel.size)
      have hE1 := (hbT.block _ hlt0).trans hE
      have hZ1 := (hbT.block _ hlt1).trans hZ
      have hT1 : w1.heap[wr.heap.size]? = some (.cells #[.string t.name, .slice co t.cols.length cc] 43) := (hb1.block _ (by simp)).trans (block_alloc_at _ _)
      have g4 := cell_of_block hE1 (j := 4) rfl
      have t0 := cell_of_block hT1 (j := 0) rfl
      have t1 := cell_of_block hT1 (j := 1) rfl
      have w3 : wrap64 ((q.ahead : Int) + (t.cols.length : Int)) = (q.ahead : Int) + (t.cols.length : Int) := by unfold wrap64; omega
      have HST0 : Hid (refStep s name q t = ⟨if hitB t s name then q.found + 1 else q.found, if hitB t s name then ((t.cols[(colAt t.cols name).toNat]?).map ColD.ty).getD 0 else q.kind, if hitB t s name then (q.ahead : Int) + colAt t.cols name else q.n, q.ahead + t.cols.length⟩) := rfl
      have HIT : Hid (hitB t s name = (decide (0 ≤ colAt t.cols name) && (s.toList.isEmpty || (s.toList == t.name.toList)))) := by show _ = _; rw [hitB, empty_iff, beq_str]
      have HM : hitB t s name = false → refStep s name q t = ⟨q.found, q.kind, q.n, q.ahead + t.cols.length⟩ := fun h => by rw [HST0.out, h]; rfl
      by_cases hneg : colAt t.cols name = -1
      · have HST : Hid (refStep s name q t = ⟨q.found, q.kind, q.n, q.ahead + t.cols.length⟩) := HM (by rw [HIT.out, hneg]; rfl)
        rw [hneg]
        clear HF HM HIT HST0 hneg
        generalize refStep s name q t = q' at hst HST
        have hst2 : Hid (refAll (S.take (j + 1)) s name n = ⟨q.found, q.kind, q.n, q.ahead + t.cols.length⟩) := hst.out.trans HST.out
        go_wp2_with fail
        go_roundw
        case rel => exact ⟨j + 1, ⟨q.found, q.kind, q.n, q.ahead + t.cols.length⟩, by omega, by go_num, rfl, rfl, by simp, hst2, by simp only; omega, by simp only; omega, hE1, hZ1, hbw1⟩
        case measure => (try clear q4); (try clear w3); simp [intOf]; omega
      · obtain ⟨kk, x, hk1, hk2, _⟩ : ∃ (k : Nat) (x : ColD), colAt t.cols name = (k : Int) ∧ t.cols[k]? = some x ∧ x.name = name := by
          rcases colAt_cases t.cols name with h | h
          · exact absurd h hneg
          · exact h
        rw [hk1]
        rw [hk1] at HIT
        have hkl : kk < t.cols.length := (List.getElem?_eq_some_iff.1 hk2).1
        obtain ⟨cb, cof, ccs, rfl, hcbC, hcb, hcR, hccell⟩ := isL_get (hcv.keep (keepsC (hbT.mono (Nat.le_trans hC hbel.size)))) hk2
        obtain rfl := hcR
        have c1 := hccell 1 _ rfl
        simp only [kCol] at c1
        have q0 : (0 : Int) ≤ (kk : Int) := by omega
        have q1 : (kk : Int) < (t.cols.length : Int) := by omega
        have q4 : IntKind.i64.wrap ((q.ahead : Int) + (kk : Int)) = (q.ahead : Int) + (kk : Int) := wrap_small (by omega) (by omega)
        have HH : hitB t s name = true → refStep s name q t = ⟨q.found + 1, x.ty, (q.ahead : Int) + (kk : Int), q.ahead + t.cols.length⟩ := fun h => by
          rw [HST0.out, h, hk1]
          simp [hk2]
        have g6 := cell_of_block hE1 (j := 6) rfl
        have f6 : ∀ o, w1.frozen? ⟨w.heap.size, o, none⟩ = false := fun o => by simp [World.frozen?, hE1]
        have hcw : cb < w.heap.size := Nat.lt_of_lt_of_le hcbC hC
        clear HF HST0 hneg hk1 hk2 hccell
        cases hem : s.toList.isEmpty
        · cases heq : (s.toList == t.name.toList)
          · have HST : Hid (refStep s name q t = ⟨q.found, q.kind, q.n, q.ahead + t.cols.length⟩) := HM (by rw [HIT.out, hem, heq]; simp)
            clear HM HIT HH
            generalize refStep s name q t = q' at hst HST
            have hst2 : Hid (refAll (S.take (j + 1)) s name n = ⟨q.found, q.kind, q.n, q.ahead + t.cols.length⟩) := hst.out.trans HST.out
            clear hst HST
            go_wp2_with fail
            go_roundw
            case rel => clear q4 w3; exact ⟨j + 1, ⟨q.found, q.kind, q.n, q.ahead + t.cols.length⟩, by omega, by go_num, rfl, rfl, by simp, hst2, by simp only; omega, by simp only; omega, hE1, hZ1, hbw1⟩
            case measure => (try clear q4); (try clear w3); simp [intOf]; omega
          · have HST : Hid (refStep s name q t = ⟨q.found + 1, x.ty, (q.ahead : Int) + (kk : Int), q.ahead + t.cols.length⟩) := HH (by rw [HIT.out, hem, heq]; simp)
            clear HM HIT HH
            generalize refStep s name q t = q' at hst HST
            have hst2 : Hid (refAll (S.take (j + 1)) s name n = ⟨q.found + 1, x.ty, (q.ahead : Int) + (kk : Int), q.ahead + t.cols.length⟩) := hst.out.trans HST.out
            clear hst HST
            go_wp2_with fail
            go_region_held3 (fun w' => w'.cell? ⟨wr.heap.size, 1, none⟩ = some (.slice (some ⟨cb, cof, none⟩) t.cols.length cc) ∧ w'.cell? ⟨cb, cof + kk * 3 + 1, none⟩ = some (.int .i64 x.ty)) (first | exact ⟨t1, c1⟩ | exact ⟨(cell_set_ne (by omega) _ _ _).trans t1, (cell_set_ne (by omega) _ _ _).trans c1⟩)
              (first | fail)
            go_wp2
            go_roundw
            case rel => clear q4 w3; exact ⟨j + 1, ⟨q.found + 1, x.ty, (q.ahead : Int) + (kk : Int), q.ahead + t.cols.length⟩, by omega, by go_num, by simp, rfl, by simp, hst2, by simp only; omega, by simp only; omega, set_at hE1 6 _, (Below.heap_setCell _ _ _ _ (show w.heap.size + 1 ≠ w.heap.size by omega)).trans hZ1, hbw1.drew.setCell (show w.heap.size ≤ w.heap.size from Nat.le_refl _) _⟩
            case measure => (try clear q4); (try clear w3); simp [intOf]; omega
        · have HST : Hid (refStep s name q t = ⟨q.found + 1, x.ty, (q.ahead : Int) + (kk : Int), q.ahead + t.cols.length⟩) := HH (by rw [HIT.out, hem]; simp)
          clear HM HIT HH
          generalize refStep s name q t = q' at hst HST
          have hst2 : Hid (refAll (S.take (j + 1)) s name n = ⟨q.found + 1, x.ty, (q.ahead : Int) + (kk : Int), q.ahead + t.cols.length⟩) := hst.out.trans HST.out
          clear hst HST
          go_wp2_with fail
          go_region_held3 (fun w' => w'.cell? ⟨wr.heap.size, 1, none⟩ = some (.slice (some ⟨cb, cof, none⟩) t.cols.length cc) ∧ w'.cell? ⟨cb, cof + kk * 3 + 1, none⟩ = some (.int .i64 x.ty)) (first | exact ⟨t1, c1⟩ | exact ⟨(cell_set_ne (by omega) _ _ _).trans t1, (cell_set_ne (by omega) _ _ _).trans c1⟩)
            (first | fail)
          go_wp2
          go_roundw
          case rel => clear q4 w3; exact ⟨j + 1, ⟨q.found + 1, x.ty, (q.ahead : Int) + (kk : Int), q.ahead + t.cols.length⟩, by omega, by go_num, by simp, rfl, by simp, hst2, by simp only; omega, by simp only; omega, set_at hE1 6 _, (Below.heap_setCell _ _ _ _ (show w.heap.size + 1 ≠ w.heap.size by omega)).trans hZ1, hbw1.drew.setCell (show w.heap.size ≤ w.heap.size from Nat.le_refl _) _⟩
          case measure => (try clear q4); (try clear w3); simp [intOf]; omega
    · have hjj : j = S.length := by omega
      subst hjj
      have HQ2 : Hid (R = refAns op ⟨xk, xn, xs⟩ s name ao k c q) := by show _ = _; rw [← HR.out, ← HQ.out, List.take_length]
      have j1 : ¬ (S.length : Int) < (S.length : Int) := by omega
      clear HQ HR
      by_cases hf1 : q.found = 1
      · have hf2 : ((q.found : Int) != 1) = false := by rw [hf1]; rfl
        have HF1 : Hid (q.found = 1) := hf1
        clear hf1
        have hone := one_eArr op ⟨xk, xn, xs⟩ s name q.n ao k c
        go_wp2_with (first | refine wpList_load_row rfl 34 _ rfl w.heap.size rfl 34 _ _ _ hE Tryz.underlying34 rfl size_expr ?_ | refine wpList_store_row rfl 34 _ _ rfl (w.heap.size + 1) _ rfl rfl 34 _ hZ size_expr rfl hone ?_)
        exact bodyPost_ret (v := .tuple #[.agg (eArr op ⟨xk, xn, xs⟩ s name q.n (.slice ao k c)), .int .i64 q.kind, .int .i64 0]) (results_three Tryz.results168 _ _ (w.heap.size + 1) 34 _ _ _ _ _ rfl rfl rfl (block_row hZ) Tryz.underlying34 rfl size_expr) rfl ⟨by rw [HQ2.out, refAns_one HF1.out], Below.row hbel (by omega) _⟩
      · have hf2 : ((q.found : Int) != 1) = true := by simp; omega
        have HF1 : Hid (¬ q.found = 1) := hf1
        clear hf1
        have hone := one_eArr 0 zero noW noW 0 none 0 0
        go_wp2_with (first | refine wpList_store_row rfl 34 _ _ rfl (w.heap.size + 1) _ rfl rfl 34 _ hZ size_expr rfl hone ?_)
        exact bodyPost_ret (v := .tuple #[.agg (eArr 0 zero noW noW 0 (.slice none 0 0)), .int .i64 0, .int .i64 3]) (results_three Tryz.results168 _ _ (w.heap.size + 1) 34 _ _ _ _ _ rfl rfl rfl (block_row hZ) Tryz.underlying34 rfl size_expr) rfl ⟨by rw [HQ2.out, refAns_not HF1.out], Below.row hbel (by omega) _⟩

end Go.Proofs.YthehiijgnepcfaaGreat

namespace Go.Proofs.YthehiijgnepcfaaGreat

mutual
/-- An expression bound: it and its type, or what is wrong. -/
def bindR (S : List TabD) : E → Except Int (E × Int)
  | .mk op x s name n l =>
    if op = 1 then .ok (.mk op x s name n l, x.k)
    else if op = 2 then
      if (refAll S s name n).found = 1 then .ok (.mk op x s name (refAll S s name n).n l, (refAll S s name n).kind) else .error 3
    else match bindsR S l with
      | .error m => .error m
      | .ok r => if fitB op (r.map Prod.snd) then .ok (.mk op x s name n (r.map Prod.fst), typeI op) else .error 5
def bindsR (S : List TabD) : List E → Except Int (List (E × Int))
  | [] => .ok []
  | e :: l => match bindR S e with
    | .error m => .error m
    | .ok r => match bindsR S l with
      | .error m => .error m
      | .ok rs => .ok (r :: rs)
end
theorem bindsR_snoc (S : List TabD) : ∀ (l : List E) (e : E), bindsR S (l ++ [e]) = match bindsR S l with
    | .error m => .error m
    | .ok rs => match bindR S e with
      | .error m => .error m
      | .ok r => .ok (rs ++ [r])
  | [], e => by
    simp only [List.nil_append, bindsR]
  | x :: l, e => by
    simp only [List.cons_append, bindsR, bindsR_snoc S l e]
    cases bindR S x with
    | error m => rfl
    | ok r =>
      cases bindsR S l with
      | error m => rfl
      | ok rs => cases bindR S e <;> rfl
theorem bindsR_append (S : List TabD) : ∀ (l m : List E), (∀ k, bindsR S l = .error k → bindsR S (l ++ m) = .error k)
  | [], m, k, h => by simp [bindsR] at h
  | x :: l, m, k, h => by
    simp only [List.cons_append, bindsR] at h ⊢
    cases hx : bindR S x with
    | error j => rw [hx] at h; exact h
    | ok r =>
      rw [hx] at h
      simp only at h ⊢
      cases hl : bindsR S l with
      | error j =>
        rw [hl] at h
        rw [bindsR_append S l m j hl]
        exact h
      | ok rs => rw [hl] at h; cases h
theorem bindsR_len (S : List TabD) : ∀ (l : List E) (rs : List (E × Int)), bindsR S l = .ok rs → rs.length = l.length
  | [], rs, h => by simp [bindsR] at h; subst h; rfl
  | x :: l, rs, h => by
    simp only [bindsR] at h
    cases hx : bindR S x with
    | error j => rw [hx] at h; cases h
    | ok r =>
      rw [hx] at h
      simp only at h
      cases hl : bindsR S l with
      | error j => rw [hl] at h; cases h
      | ok rs' =>
        rw [hl] at h
        simp only [Except.ok.injEq] at h
        subst h
        simp [bindsR_len S l rs' hl]

end Go.Proofs.YthehiijgnepcfaaGreat

namespace Go.Proofs.YthehiijgnepcfaaGreat
open Go.RowKit

theorem heap_setCells {b : Nat} {t : TypeId} {fr : Nat × Nat} : ∀ (vs old pre post : List Value) (w : World), w.heap[b]? = some (.cells (pre ++ old ++ post).toArray t fr) → old.length = vs.length → (w.setCells b pre.length vs).heap[b]? = some (.cells (pre ++ vs ++ post).toArray t fr)
  | [], old, pre, post, w, h, hl => by
    have : old = [] := List.eq_nil_of_length_eq_zero (by simpa using hl)
    subst this
    simpa [World.setCells] using h
  | v :: vs, [], pre, post, w, h, hl => by simp at hl
  | v :: vs, y :: old, pre, post, w, h, hl => by
    have h1 := set_at h pre.length v
    have e : (pre ++ (y :: old) ++ post).toArray.setIfInBounds pre.length v = ((pre ++ [v]) ++ old ++ post).toArray := by simp
    rw [e] at h1
    have := heap_setCells vs old (pre ++ [v]) post _ h1 (by simpa using hl)
    rw [World.setCells]
    simpa using this
theorem below_setCells {B g : Nat} (hB : B ≤ g) {a : World} : ∀ (vs : List Value) (o : Nat) (w : World), Below B a w → Below B a (w.setCells g o vs)
  | [], _, _, h => h
  | v :: vs, o, _, h => below_setCells hB vs (o + 1) _ (h.setCell (p := ⟨g, o, none⟩) hB v)
theorem setCells_size (g : Nat) : ∀ (vs : List Value) (o : Nat) (w : World), (w.setCells g o vs).heap.size = w.heap.size
  | [], _, _ => rfl
  | v :: vs, o, w => by rw [World.setCells, setCells_size g vs]; simp [World.setCell]
theorem setCells_block {g k : Nat} (hne : k ≠ g) : ∀ (vs : List Value) (o : Nat) (w : World), (w.setCells g o vs).heap[k]? = w.heap[k]?
  | [], _, _ => rfl
  | v :: vs, o, w => by rw [World.setCells, setCells_block hne vs, Below.heap_setCell w ⟨g, o, none⟩ v k hne]
theorem keeps_setCells {F : Nat → Prop} {g : Nat} (hg : ¬ F g) (vs : List Value) (o : Nat) (w : World) : Keeps F w (w.setCells g o vs) :=
  ⟨by rw [setCells_size]; exact Nat.le_refl _, fun k hk _ => setCells_block (by rintro rfl; exact hg hk) vs o w⟩

/-- In block g a list of n places, of which the first ones are filled. -/
def Made {α : Type} (K : Elem α) (F : Nat → Prop) (w : World) (g n : Nat) (l : List α) : Prop :=
  ∃ cs rest t, w.heap[g]? = some (.cells (cs ++ rest).toArray t) ∧ (cs ++ rest).length = n * K.size ∧ All K F w l cs
theorem made_new {α : Type} (K : Elem α) (F : Nat → Prop) {w : World} {arr : Array Value} {t : TypeId} {n : Nat} (h : arr.size = n * K.size) : Made K F (w.alloc (.cells arr t)) w.heap.size n [] :=
  ⟨[], arr.toList, t, by simpa using block_alloc_at w _, by simpa using h, rfl⟩
theorem Made.keep {α : Type} {K : Elem α} {F : Nat → Prop} {w w' : World} {g n : Nat} {l : List α} (h : Made K F w g n l) (hk : Keeps F w w') (hg : w'.heap[g]? = w.heap[g]?) : Made K F w' g n l := by
  obtain ⟨cs, rest, t, h1, h2, h3⟩ := h
  exact ⟨cs, rest, t, hg.trans h1, h2, h3.keep hk⟩
theorem Made.lt {α : Type} {K : Elem α} {F : Nat → Prop} {w : World} {g n : Nat} {l : List α} (h : Made K F w g n l) : g < w.heap.size := by
  obtain ⟨cs, rest, t, h1, _⟩ := h
  exact lt_of_block h1
theorem Made.below {α : Type} {K : Elem α} {F : Nat → Prop} {w w' : World} {g n : Nat} {l : List α} (h : Made K F w g n l) (hb : Below w.heap.size w w') : Made K F w' g n l := h.keep (keepsB hb) (hb.block g h.lt)
theorem Made.there {α : Type} {K : Elem α} {F : Nat → Prop} {w : World} {g n : Nat} {l : List α} (h : Made K F w g n l) {i : Nat} (hi : i < n) : w.there g (i * K.size) K.size := by
  obtain ⟨cs, rest, t, h1, h2, _⟩ := h
  intro j hj
  have hlt : i * K.size + j < (cs ++ rest).length := by
    rw [h2]
    have : (i + 1) * K.size ≤ n * K.size := Nat.mul_le_mul_right _ hi
    rw [Nat.add_mul] at this
    omega
  refine ⟨?_, by simp [World.frozen?, h1]⟩
  rw [cell_of_block h1 (j := i * K.size + j) (u := (cs ++ rest)[i * K.size + j]) (by simp)]
  rfl
/-- The next place is filled. -/
theorem Made.set {α : Type} {K : Elem α} {F : Nat → Prop} {w : World} {g n : Nat} {l : List α} (h : Made K F w g n l) (hl : l.length < n) (hg : ¬ F g) {a : α} {c : List Value} (hc : K.R F w a c) : Made K F (w.setCells g (l.length * K.size) c) g n (l ++ [a]) := by
  obtain ⟨cs, rest, t, h1, h2, h3⟩ := h
  have e1 := h3.length
  have e2 := K.len hc
  have hle : K.size ≤ rest.length := by
    rw [List.length_append] at h2
    have : (l.length + 1) * K.size ≤ n * K.size := Nat.mul_le_mul_right _ hl
    rw [Nat.add_mul] at this
    omega
  have hk := keeps_setCells hg c (l.length * K.size) w
  refine ⟨cs ++ c, rest.drop K.size, t, ?_, ?_, (h3.keep hk).append (All.one (K.keep hk hc))⟩
  · have h1' : w.heap[g]? = some (.cells (cs ++ rest.take K.size ++ rest.drop K.size).toArray t) := by rw [List.append_assoc, List.take_append_drop]; exact h1
    have := heap_setCells c (rest.take K.size) cs (rest.drop K.size) w h1' (by rw [List.length_take, e2]; omega)
    rwa [e1] at this
  · simp only [List.length_append, List.length_drop] at h2 ⊢
    omega
/-- A single cell. -/
theorem Made.set1 {α : Type} {K : Elem α} {F : Nat → Prop} {w : World} {g n : Nat} {l : List α} (h : Made K F w g n l) (hl : l.length < n) (hg : ¬ F g) (hK : K.size = 1) {a : α} {v : Value} (hc : K.R F w a [v]) : Made K F (w.setCell ⟨g, l.length, none⟩ v) g n (l ++ [a]) := by
  have := h.set hl hg hc
  rw [hK, Nat.mul_one] at this
  exact this
/-- All places are filled. -/
theorem Made.whole {α : Type} {K : Elem α} {F F' : Nat → Prop} {w : World} {g n : Nat} {l : List α} (h : Made K F w g n l) (hl : l.length = n) (hF : ∀ k, F k → F' k) (hg : F' g) (hn : n ≤ maxLen) : IsL K F' w (.slice (some ⟨g, 0, none⟩) n n) l := by
  obtain ⟨cs, rest, t, h1, h2, h3⟩ := h
  subst hl
  have e1 := h3.length
  have hr : rest = [] := List.eq_nil_of_length_eq_zero (by rw [List.length_append] at h2; omega)
  subst hr
  refine ⟨cs, ⟨e1, ?_⟩, h3.mono fun k _ => hF k⟩
  by_cases h0 : l.length = 0
  · exact .inl ⟨h0, _, _, by rw [h0], fun h => by cases h⟩
  · refine .inr ⟨by omega, g, 0, l.length, rfl, hg, lt_of_block h1, Nat.le_refl _, hn, fun j u hj => ?_⟩
    rw [Nat.zero_add]
    exact cell_of_block h1 (by simpa using hj)
/-- A list of whatever, made and not yet filled, has its places. -/
theorem there_cells {w : World} {g o n : Nat} (h : w.there g o n) {j : Nat} (hj : j < n) : (∃ u, w.cell? ⟨g, o + j, none⟩ = some u) ∧ w.frozen? ⟨g, o + j, none⟩ = false :=
  ⟨Option.isSome_iff_exists.1 (h j hj).1, (h j hj).2⟩

end Go.Proofs.YthehiijgnepcfaaGreat

