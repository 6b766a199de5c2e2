/-
  6 texts of this proof in one, in build order: LPlans, PDrop, TRanges, DPairs, DSame, DPages.
-/
import Derived.Deep.QuietTactic
import Derived.BigQuiet
import Derived.Deep.DrawnRows
import Derived.Test.YtkncamggdfmlnaaGreatDoorJ01
import Derived.Test.YtkncamggdfmlnaaGreatDoorJ05
import Derived.Test.YtkncamggdfmlnaaGreatDoorJ12
import Derived.Test.YtkncamggdfmlnaaGreatDoorJ15
import Derived.Test.YtkncamggdfmlnaaGreatDoorJ16
import Derived.Test.YtkncamggdfmlnaaGreatDoorJ17
namespace Go.Proofs.YtkncamggdfmlnaaGreatDoor
open Go.RowKit

def pTab : TabD := ⟨⟨#[116]⟩, [⟨⟨#[97]⟩, 1, true⟩]⟩
def pRow : List V := [⟨1, 3, noW⟩]
theorem pFits : fitsRow pTab pRow = true := by decide
theorem pKept {T : List Pg} (h : flat T = putRow (flat []) [] pTab pRow) : Kept [] pTab (flat T) [pRow] := by
  rw [h]
  exact kept_step (O := []) (kept_nil [] pTab) (by simp [getF, flat]) pFits (by decide)
/-- The rows of a tree that was made so. -/
theorem kept_rng {I : List IdxD} {t : TabD} {T : List Pg} {O : List (List V)} (hT : GoodT T) (h : Kept I t (flat T) O) (h0 : 0 < t.cols.length) (h4 : t.cols.length ≤ 4) : ∀ x ∈ rng T (allLo t.name) (allHi t.name), x.2.size ≤ 1000000 := by
  obtain ⟨A, _, _, hm, he⟩ := all_rows hT h h0
  intro x hx
  rw [he] at hx
  obtain ⟨r, hr, rfl⟩ := List.mem_map.1 hx
  have h1 := keyAns_size r
  have h2 := (fitsRow_good (h.fit r ((hm r).1 hr))).1
  show (str (keyAns r).1).size ≤ _
  omega
theorem pRows {T : List Pg} (hT : GoodT T) (h : flat T = putRow (flat []) [] pTab pRow) : rowsOf 1 (rng T (allLo pTab.name) (allHi pTab.name)) = [pRow] := by
  obtain ⟨A, hl, he, hm, _⟩ := all_rows hT (pKept h) (by decide)
  rw [show pTab.cols.length = 1 from rfl] at he
  rw [he]
  match A, hl with
  | [a], _ => have := (hm a).1 (by simp); simp at this; rw [this]
theorem isL_col1 {F : Nat → Prop} {W : World} {b : Nat} {x : ColD} {t : TypeId} {fr : Nat × Nat} (h : W.heap[b]? = some (.cells #[.string x.name, .int .i64 x.ty, .bool x.must] t fr)) (hF : F b) : IsL kCol F W (.slice (some ⟨b, 0, none⟩) 1 1) [x] :=
  ⟨[.string x.name, .int .i64 x.ty, .bool x.must], ⟨rfl, .inr ⟨by simp, b, 0, 1, rfl, hF, lt_of_block h, Nat.le_refl _, by decide, fun j u hj => by rw [Nat.zero_add]; exact cell_of_block h (by simpa using hj)⟩⟩, All.one rfl⟩

set_option maxRecDepth 100000 in
set_option maxHeartbeats 4000000 in
theorem plans_any (w : World) : Calls Tryz.prog 5 #[] w fun e w' => e = .returned (.bool true) ∧ Below w.heap.size w w' := by
  have hb2 := bel2 w (.cells #[.string ⟨#[97]⟩, .int .i64 1, .bool true] 62) (.cells #[.string ⟨#[116]⟩, .slice (some ⟨w.heap.size, 0, none⟩) 1 1] 28)
  have bC := block_alloc_of (block_alloc_at w (.cells #[.string ⟨#[97]⟩, .int .i64 1, .bool true] 62)) (.cells #[.string ⟨#[116]⟩, .slice (some ⟨w.heap.size, 0, none⟩) 1 1] 28)
  have bT := block2 w (.cells #[.string ⟨#[97]⟩, .int .i64 1, .bool true] 62) (.cells #[.string ⟨#[116]⟩, .slice (some ⟨w.heap.size, 0, none⟩) 1 1] 28)
  have hs2 : ((w.alloc (.cells #[.string ⟨#[97]⟩, .int .i64 1, .bool true] 62)).alloc (.cells #[.string ⟨#[116]⟩, .slice (some ⟨w.heap.size, 0, none⟩) 1 1] 28)).heap.size = w.heap.size + 2 := by simp
  generalize hW : (w.alloc (.cells #[.string ⟨#[97]⟩, .int .i64 1, .bool true] 62)).alloc (.cells #[.string ⟨#[116]⟩, .slice (some ⟨w.heap.size, 0, none⟩) 1 1] 28) = W2 at hb2 bC bT hs2
  have HW : Hid _ := hW
  clear hW
  have hb4 := bel2 W2 (.cells #[.string ⟨#[116]⟩, .slice (some ⟨w.heap.size, 0, none⟩) 1 1] 28) (.cells #[.int .i64 1, .int .i64 3, .string noW] 36)
  have bV := block2 W2 (.cells #[.string ⟨#[116]⟩, .slice (some ⟨w.heap.size, 0, none⟩) 1 1] 28) (.cells #[.int .i64 1, .int .i64 3, .string noW] 36)
  have bC4 := (hb4.block _ (lt_of_block bC)).trans bC
  have bT4 := (hb4.block _ (lt_of_block bT)).trans bT
  have HP := putRow_any [] pTab pRow [] (.agg #[.slice none 0 0]) (.slice (some ⟨W2.heap.size, 0, none⟩) 1 1) (.slice none 0 0) (.slice (some ⟨w.heap.size, 0, none⟩) 1 1) (.slice (some ⟨W2.heap.size + 1, 0, none⟩) 1 1) ((W2.alloc (.cells #[.string ⟨#[116]⟩, .slice (some ⟨w.heap.size, 0, none⟩) 1 1] 28)).alloc (.cells #[.int .i64 1, .int .i64 3, .string noW] 36)).heap.size _
    (tree_zero _) ⟨by simp, by simp [keysT, Rise]⟩ (by simp) (isSl _ _ _) (IsL.nil _ _ _) (isL_col1 bC4 (lt_of_block bC4)) (Nat.le_refl _)
    (.inr ⟨_, _, _, rfl, lt_of_block bV, fun i v hi => by
      match i, hi with
      | 0, hi => simp [pRow] at hi; subst hi; exact ⟨cell_of_block bV rfl, cell_of_block bV rfl, cell_of_block bV rfl⟩⟩) rfl (by decide) (by decide) (by intro v hv; simp [pRow] at hv; subst hv; exact Nat.zero_le _) (by simp) (by decide) (by simp)
  have HA := fun W => all_any pTab.name W (by decide)
  have HR := fun T pv W (h1 : IsTree W pv T) (h2 : GoodT T) (h3 : T.length ≤ 2) (h4 : flat T = putRow (flat []) [] pTab pRow) => rowsAll_any pTab.name T pv (some ⟨w.heap.size, 0, none⟩) 1 1 (allLo pTab.name) (allHi pTab.name) W h1 h2 (by omega) (kept_rng h2 (pKept h4) (by decide) (by decide))
  have t0 := cell_of_block bT (j := 0) rfl
  have t1 := cell_of_block bT (j := 1) rfl
  have hb3 := bel1 W2 (.cells #[.string ⟨#[116]⟩, .slice (some ⟨w.heap.size, 0, none⟩) 1 1] 28)
  have t0a := (hb3.cell (p := ⟨w.heap.size + 1, 0, none⟩) (lt_of_block bT)).trans t0
  have t1a := (hb3.cell (p := ⟨w.heap.size + 1, 1, none⟩) (lt_of_block bT)).trans t1
  have hbw4 : Below w.heap.size w ((W2.alloc (.cells #[.string ⟨#[116]⟩, .slice (some ⟨w.heap.size, 0, none⟩) 1 1] 28)).alloc (.cells #[.int .i64 1, .int .i64 3, .string noW] 36)) := hb2.trans (hb4.mono hb2.size)
  have EP : Hid (pTab.name = ⟨#[116]⟩) := rfl
  simp only [EP.out] at HP HA HR
  have ER : Hid (∀ T, GoodT T → flat T = putRow (flat []) [] pTab pRow → rowsOf 1 (rng T (allLo ⟨#[116]⟩) (allHi ⟨#[116]⟩)) = [pRow]) := fun T h1 h2 => pRows h1 h2
  go_enter Tryz.func5, Tryz.ntmps5
  go_upto_region 2 with fail
  rw [HW.out]
  clear hs2
  go_wp2_with (go_at_call 14; go_fit HP; rintro e w5 ⟨pv5, T5, rfl, hp5, hg5, hf5, hl5, hb5⟩; obtain ⟨sv5, rfl, hp5⟩ := hp5; obtain ⟨ao5, c5, rfl⟩ := pages_shape hp5)
  have bT5 := (hb5.block _ (lt_of_block bT4)).trans bT4
  have hbw5 : Below w.heap.size w w5 := hbw4.trans (hb5.mono hbw4.size)
  have hb6 := bel1 w5 (.cells #[.slice ao5 T5.length c5] 52)
  have bP6 := block_alloc_at w5 (.cells #[.slice ao5 T5.length c5] 52)
  have bT6 := block_alloc_of bT5 (.cells #[.slice ao5 T5.length c5] 52)
  have hp6 := hp5.below hb6
  have hbw6 : Below w.heap.size w (w5.alloc (.cells #[.slice ao5 T5.length c5] 52)) := hbw5.trans (hb6.mono hbw5.size)
  generalize hW6 : w5.alloc (.cells #[.slice ao5 T5.length c5] 52) = W6 at hb6 bP6 bT6 hp6 hbw6 ⊢
  have HR2 := fun W (h : Below W6.heap.size W6 W) => HR T5 (.agg #[.slice ao5 T5.length c5]) W ⟨_, rfl, hp6.below h⟩ hg5 (Nat.le_trans hl5 (by simp)) hf5
  simp only [ER.out T5 hg5 hf5] at HR2
  have KS : Hid _ := fun W (h : Below W6.heap.size W6 W) => And.intro (show W.cell? ⟨w5.heap.size, 0, none⟩ = some (.slice ao5 T5.length c5) from cell_of_block ((h.block _ (lt_of_block bP6)).trans bP6) (j := 0) rfl) (And.intro (show W.cell? ⟨w.heap.size + 1, 0, none⟩ = some (.string ⟨#[116]⟩) from cell_of_block ((h.block _ (lt_of_block bT6)).trans bT6) (j := 0) rfl) (show W.cell? ⟨w.heap.size + 1, 1, none⟩ = some (.slice (some ⟨w.heap.size, 0, none⟩) 1 1) from cell_of_block ((h.block _ (lt_of_block bT6)).trans bT6) (j := 1) rfl))
  have s0 := KS.out W6.drew (Below.refl _ _).drew
  clear HR HP hW6 t0 t1 t0a t1a
  generalize allLo ⟨#[116]⟩ = lo at HA HR2
  generalize allHi ⟨#[116]⟩ = hi at HA HR2
  unfold wayV at HA HR2
  go_region_held3 (fun W => W.cell? ⟨w5.heap.size, 0, none⟩ = some (.slice ao5 T5.length c5) ∧ W.cell? ⟨w.heap.size + 1, 0, none⟩ = some (.string ⟨#[116]⟩) ∧ W.cell? ⟨w.heap.size + 1, 1, none⟩ = some (.slice (some ⟨w.heap.size, 0, none⟩) 1 1)) (with_reducible first | exact s2 | exact s1 | exact s0)
    (first
      | (go_at_call 22; go_fit (HA _); rintro e w7 ⟨rfl, hb7⟩; have hB7 : Below W6.heap.size W6 w7 := bthen (Below.refl _ _).drew hb7; have s1 := KS.out w7 hB7)
      | (go_at_call 21; go_fit (HR2 _ hB7); rintro e w8 ⟨rv8, rfl, hrv8, hb8⟩; have hB8 : Below W6.heap.size W6 w8 := bthen hB7 hb8; have s2 := KS.out w8 hB8))
  obtain ⟨ro8, rc8, rfl⟩ := hrv8.shape
  obtain ⟨b, off, cs', hro, _, hbl, ⟨xv, rfl, hrow⟩, hcell⟩ := isL_get hrv8 (i := 0) (x := pRow) rfl
  cases hro
  obtain ⟨xo, xc, rfl⟩ := hrow.shape
  have d0 : w8.cell? ⟨b, off, none⟩ = some (.slice xo 1 xc) := by have := hcell 0 _ rfl; simpa [kVals, pRow] using this
  rcases isL_vals hrow with ⟨_, h1⟩ | ⟨b', off', cap', h1, _, hR⟩
  · cases h1
  cases h1
  have d1 : w8.cell? ⟨b', off' + 1, none⟩ = some (.int .i64 3) := by have := (hR 0 _ rfl).2.1; simpa using this
  simp only [List.length_cons, List.length_nil, Nat.zero_add]
  go_wp2
  go_ret
  exact ⟨rfl, hbw6.trans (hB8.mono hbw6.size)⟩

end Go.Proofs.YtkncamggdfmlnaaGreatDoor

namespace Go.Proofs.YtkncamggdfmlnaaGreatDoor
open Go.RowKit

set_option maxRecDepth 100000 in
set_option maxHeartbeats 4000000 in
theorem dropRow_any (I : List IdxD) (t : TabD) (r : List V) (T : List Pg) (pv tv iv sv rv : Value) (C : Nat) (w : World) (hp : IsTree w pv T) (hg : GoodT T) (hT : T.length ≤ 1000000) (htv : IsSl tv)
    (hi : IsL kIdx (fun k => k < C) w iv I) (hl : IsL kCol (fun k => k < C) w sv t.cols) (hC : C ≤ w.heap.size) (hr : IsVals w rv r) (hrl : r.length = t.cols.length) (h0 : 0 < r.length) (hr4 : r.length ≤ 1000000) (hs : ∀ v ∈ r, v.s.size ≤ maxLen) (hin : ∀ x ∈ I, x.name.size ≤ 1000000) (htn : t.name.size ≤ 1000000) (hn : I.length ≤ 1000000) :
    Calls Tryz.prog 18 #[pv, .agg #[tv, iv], .agg #[.string t.name, sv], rv] w fun e w' => TreeAns w w' e (dropRow (flat T) I t r) (T.length) := by
  obtain ⟨to', tn, tc, rfl⟩ := htv
  obtain ⟨psv, rfl, hpp⟩ := hp
  obtain ⟨po, pc, rfl⟩ := pages_shape hpp
  have hIK := fun W (h : Below w.heap.size w W) => indexKeys_any I t r (.slice to' tn tc) iv sv rv C W (isSl _ _ _) (hi.keep (keepsC (h.mono hC))) (hl.keep (keepsC (h.mono hC))) (Nat.le_trans hC h.size) (hr.below h) hrl h0 hs hin hn
  obtain ⟨io, ic, rfl⟩ := hi.shape
  obtain ⟨so, sc, rfl⟩ := hl.shape
  rcases hr with ⟨_, rfl⟩ | ⟨rb, ro, rcap, rfl, hrb, hR⟩
  · simp at h0
  have st := trSt_start (.slice to' tn tc) (.slice io I.length ic) (.string t.name) (.slice so t.cols.length sc) hpp hg
  generalize hW : (((w.alloc (.cells #[.slice po T.length pc] 52)).alloc (.cells #[.slice to' tn tc, .slice io I.length ic] 25)).alloc (.cells #[.string t.name, .slice so t.cols.length sc] 28)).alloc (.cells #[.slice none 0 0] 52) = W4 at st
  have HW : Hid _ := hW
  clear hW hi hl
  have e0 := cell_of_block st.tab (j := 0) rfl
  have e1 := cell_of_block st.tab (j := 1) rfl
  have HF := planFits_any t.name so t.cols.length sc (some ⟨rb, ro, none⟩) r.length rcap W4
  rw [show (decide (0 < r.length) && decide (r.length = t.cols.length)) = true by rw [decide_eq_true h0, decide_eq_true hrl]; rfl] at HF
  obtain ⟨u, hu⟩ : ∃ u, r[0]? = some u := ⟨_, List.getElem?_eq_getElem h0⟩
  have hhd : r.headD zero = u := by rw [List.headD_eq_head?_getD, List.head?_eq_getElem?, hu]; rfl
  have HR := fun W => rowKey_any t.name u W htn (hs u (List.mem_of_getElem? hu))
  rw [show rkey t.name u = rk t r by rw [rk, hhd]] at HR
  obtain ⟨f0, f1, f2⟩ := hR 0 u hu
  simp only [Nat.zero_mul, Nat.add_zero] at f0 f1 f2
  have HS : Hid _ := hs
  have HIK : Hid _ := hIK
  have p2 : (0 : Int) < (r.length : Int) := by omega
  have hrl2 : Hid _ := hrl
  clear hs hIK hu hhd hrl
  obtain ⟨uk, un, us⟩ := u
  simp only [V.val] at HR
  simp only at f0 f1 f2
  go_enter Tryz.func18, Tryz.ntmps18
  go_upto_region 1 with fail
  rw [HW.out]
  go_wp2_with (go_at_call 26; go_fit HF; rintro e w1 ⟨rfl, hb1⟩)
  have st1 := st.below hb1
  have hbw1 := st1.bel
  have KS : Hid _ := fun W (h : Below w1.heap.size w1 W) => put_cells (W := W) (show W.cell? ⟨w.heap.size + 2, 0, none⟩ = some (.string t.name) from cell_of_block (st1.below h).tab (j := 0) rfl) (((hbw1.trans (h.mono hbw1.size)).cell (p := ⟨rb, ro, none⟩) hrb).trans f0) (((hbw1.trans (h.mono hbw1.size)).cell (p := ⟨rb, ro + 1, none⟩) hrb).trans f1) (((hbw1.trans (h.mono hbw1.size)).cell (p := ⟨rb, ro + 2, none⟩) hrb).trans f2)
  have KT : Hid _ := fun W (h : Below w1.heap.size w1 W) (x : Value) => put_cells_set (W := W) (g := w.heap.size) (x := x) (KS.out W h) (show w.heap.size + 2 ≠ w.heap.size by omega) (show rb ≠ w.heap.size by omega)
  have q0 := cell_of_block st1.blk (j := 0) rfl
  have HP := fun W (h : Below w1.heap.size w1 W) => drop_any T (.agg #[.slice po T.length pc]) (rk t r) W ⟨_, rfl, st1.pgs.below h⟩ hg (by omega)
  have EF : Hid (dropRow (flat T) I t r = dropsE (dropF (flat T) (rk t r)) (iks I t r)) := rfl
  go_cut [4] from 16 (fun s4 wx => s4 = .pointer (some ⟨w.heap.size, 0, none⟩) ∧ ∃ ao k c T1, TrSt w #[.slice to' tn tc, .slice io I.length ic] #[.string t.name, .slice so t.cols.length sc] (dropF (flat T) (rk t r)) (T.length) ao k c T1 wx)
  case first =>
    refine wp_region_held_drew (S := (fun W => W.cell? ⟨w.heap.size + 2, 0, none⟩ = some (.string t.name) ∧ W.cell? ⟨rb, ro, none⟩ = some (.int .i64 uk) ∧ W.cell? ⟨rb, ro + 1, none⟩ = some (.int .i64 un) ∧ W.cell? ⟨rb, ro + 2, none⟩ = some (.string us))) (by kernel_rfl) ?_ (fun hHeld => ?_)
    · exact KS.out _ (Below.refl _ _).drew
    refine wpAnyH_take (i := 1) (oi := { dst := some 17, op := Go.Op.fieldAddr 28 (Go.Operand.tmp 6) 0, type := 0, pos := "plan.go:112", after := #[], guard := none }) (v := ?_) rfl (by kernel_rfl) (by kernel_rfl) (by kernel_rfl) (fun _ _ _ h => h) (Or.inl ⟨by rfl, ?_⟩) (by assumption) ?_
    rotate_left
    · intro w hSw; (try dsimp only at hSw); go_simp; all_goals (with_reducible rfl)
    try simp only [Act.put, List.setIfInBounds_toArray, List.set_cons_zero, List.set_cons_succ]
    refine wpAnyH_take (i := 2) (oi := { dst := some 18, op := Go.Op.load 9 (Go.Operand.tmp 17), type := 9, pos := "plan.go:112", after := #[{ on := 1, ground := Go.Ground.data }], guard := none }) (v := ?_) rfl (by kernel_rfl) (by kernel_rfl) (by kernel_rfl) (fun _ _ _ h => h) (Or.inl ⟨by rfl, ?_⟩) (by assumption) ?_
    rotate_left
    · intro w hSw; (try dsimp only at hSw); go_simp; all_goals (with_reducible rfl)
    try simp only [Act.put, List.setIfInBounds_toArray, List.set_cons_zero, List.set_cons_succ]
    refine wpAnyH_take (i := 3) (oi := { dst := some 19, op := Go.Op.move (Go.Operand.tmp 3), type := 29, pos := "plan.go:112", after := #[], guard := none }) (v := ?_) rfl (by kernel_rfl) (by kernel_rfl) (by kernel_rfl) (fun _ _ _ h => h) (Or.inl ⟨by rfl, ?_⟩) (by assumption) ?_
    rotate_left
    · intro w hSw; (try dsimp only at hSw); go_simp; all_goals (with_reducible rfl)
    try simp only [Act.put, List.setIfInBounds_toArray, List.set_cons_zero, List.set_cons_succ]
    refine wpAnyH_take (i := 4) (oi := { dst := some 20, op := Go.Op.indexAddr 29 (Go.Operand.tmp 19) (Go.Operand.const (Go.Value.int Go.IntKind.i64 0)), type := 0, pos := "plan.go:112", after := #[{ on := 3, ground := Go.Ground.data }], guard := none }) (v := ?_) rfl (by kernel_rfl) (by kernel_rfl) (by kernel_rfl) (fun _ _ _ h => h) (Or.inl ⟨by rfl, ?_⟩) (by assumption) ?_
    rotate_left
    · intro w hSw; (try dsimp only at hSw); go_simp; all_goals (with_reducible rfl)
    try simp only [Act.put, List.setIfInBounds_toArray, List.set_cons_zero, List.set_cons_succ]
    refine wpAnyH_take (i := 5) (oi := { dst := some 21, op := Go.Op.load 36 (Go.Operand.tmp 20), type := 36, pos := "plan.go:112", after := #[{ on := 4, ground := Go.Ground.data }], guard := none }) (v := ?_) rfl (by kernel_rfl) (by kernel_rfl) (by kernel_rfl) (fun _ _ _ h => h) (Or.inl ⟨by rfl, ?_⟩) (by assumption) ?_
    rotate_left
    · intro w hSw; (try dsimp only at hSw); go_simp; all_goals (with_reducible rfl)
    try simp only [Act.put, List.setIfInBounds_toArray, List.set_cons_zero, List.set_cons_succ]
    refine wpAnyH_ready (rs := [0, 6]) (by kernel_rfl) (by simp) ?_
    refine (AllReadyH.cons (o := { dst := some 16, op := Go.Op.load 52 (Go.Operand.tmp 4), type := 52, pos := "plan.go:112", after := #[], guard := none }) rfl (fun K hK => ?_) (AllReadyH.cons (o := { dst := some 22, op := Go.Op.call { callee := Go.Callee.value (Go.Operand.func 10), args := #[Go.Operand.tmp 18, Go.Operand.tmp 21], argTypes := #[9, 36] }, type := 9, pos := "plan.go:112", after := #[{ on := 2, ground := Go.Ground.data }, { on := 5, ground := Go.Ground.data }], guard := none }) rfl (fun K hK => ?_) AllReadyH.nil))
    · go_simp
      go_wp2_with fail
      refine hK.out _ _ ?_ (fun hHeld => ?_)
      · exact KS.out _ (Below.refl _ _).drew
      clear hK K
      try simp only [Act.put, List.setIfInBounds_toArray, List.set_cons_zero, List.set_cons_succ]
      refine wpAnyH_ready (rs := [6]) (by kernel_rfl) (by simp) ?_
      refine (AllReadyH.cons (o := { dst := some 22, op := Go.Op.call { callee := Go.Callee.value (Go.Operand.func 10), args := #[Go.Operand.tmp 18, Go.Operand.tmp 21], argTypes := #[9, 36] }, type := 9, pos := "plan.go:112", after := #[{ on := 2, ground := Go.Ground.data }, { on := 5, ground := Go.Ground.data }], guard := none }) rfl (fun K hK => ?_) AllReadyH.nil)
      go_simp
      (go_at_call 10; go_fit (HR _); rintro e w2 ⟨rfl, hb2⟩; have hB2 : Below w1.heap.size w1 w2 := bthen (Below.refl _ _).drew hb2; have q2 := cell_of_block (st1.below hB2).blk (j := 0) rfl)
      go_wp2_with fail
      refine hK.out _ _ ?_ (fun hHeld => ?_)
      · exact KS.out _ hB2
      clear hK K
      try simp only [Act.put, List.setIfInBounds_toArray, List.set_cons_zero, List.set_cons_succ]
      refine wpAnyH_ready (rs := [7]) (by kernel_rfl) (by simp) ?_
      refine (AllReadyH.cons (o := { dst := some 23, op := Go.Op.call { callee := Go.Callee.value (Go.Operand.func 29), args := #[Go.Operand.tmp 16, Go.Operand.tmp 22], argTypes := #[52, 9] }, type := 52, pos := "plan.go:112", after := #[{ on := 0, ground := Go.Ground.data }, { on := 6, ground := Go.Ground.data }, { on := 6, ground := Go.Ground.chain }], guard := none }) rfl (fun K hK => ?_) AllReadyH.nil)
      go_simp
      (go_at_call 29; go_fit (HP _ hB2); rintro e w4 ⟨pv4, T4, rfl, hp4, hb4, hg4, hf4, hl4⟩; obtain ⟨sv4, rfl, hp4⟩ := hp4; obtain ⟨ao4, c4, rfl⟩ := pages_shape hp4; have hB4 : Below w1.heap.size w1 w4 := bthen hB2 hb4; have q4 := cell_of_block (st1.below hB4).blk (j := 0) rfl; have z4 : w4.frozen? ⟨w.heap.size, 0, none⟩ = false := (by simp [World.frozen?, (st1.below hB4).blk]))
      go_wp2_with fail
      refine hK.out _ _ ?_ (fun hHeld => ?_)
      · exact KS.out _ hB4
      clear hK K
      try simp only [Act.put, List.setIfInBounds_toArray, List.set_cons_zero, List.set_cons_succ]
      refine wpAnyH_ready (rs := [8]) (by kernel_rfl) (by simp) ?_
      refine (AllReadyH.cons (o := { dst := none, op := Go.Op.store 52 (Go.Operand.tmp 4) (Go.Operand.tmp 23), type := 0, pos := "plan.go:112", after := #[{ on := 7, ground := Go.Ground.data }, { on := 7, ground := Go.Ground.chain }, { on := 0, ground := Go.Ground.phase }, { on := 1, ground := Go.Ground.phase }, { on := 2, ground := Go.Ground.phase }, { on := 3, ground := Go.Ground.phase }, { on := 4, ground := Go.Ground.phase }, { on := 5, ground := Go.Ground.phase }, { on := 6, ground := Go.Ground.phase }, { on := 7, ground := Go.Ground.phase }], guard := none }) rfl (fun K hK => ?_) AllReadyH.nil)
      go_simp
      go_wp2_with fail
      refine hK.out _ _ ?_ (fun hHeld => ?_)
      · exact KT.out _ hB4 _
      clear hK K
      try simp only [Act.put, List.setIfInBounds_toArray, List.set_cons_zero, List.set_cons_succ]
      refine wpAnyH_done (by kernel_rfl) ?_ _
      go_wp2_with fail
      go_meet
      case rel => exact ⟨rfl, ao4, T4.length, c4, T4, st1.store hB4 hp4 hg4 hf4 hl4⟩
    · go_simp
      (go_at_call 10; go_fit (HR _); rintro e w2 ⟨rfl, hb2⟩; have hB2 : Below w1.heap.size w1 w2 := bthen (Below.refl _ _).drew hb2; have q2 := cell_of_block (st1.below hB2).blk (j := 0) rfl)
      go_wp2_with fail
      refine hK.out _ _ ?_ (fun hHeld => ?_)
      · exact KS.out _ hB2
      clear hK K
      try simp only [Act.put, List.setIfInBounds_toArray, List.set_cons_zero, List.set_cons_succ]
      refine wpAnyH_ready (rs := [0]) (by kernel_rfl) (by simp) ?_
      refine (AllReadyH.cons (o := { dst := some 16, op := Go.Op.load 52 (Go.Operand.tmp 4), type := 52, pos := "plan.go:112", after := #[], guard := none }) rfl (fun K hK => ?_) AllReadyH.nil)
      go_simp
      go_wp2_with fail
      refine hK.out _ _ ?_ (fun hHeld => ?_)
      · exact KS.out _ hB2
      clear hK K
      try simp only [Act.put, List.setIfInBounds_toArray, List.set_cons_zero, List.set_cons_succ]
      refine wpAnyH_ready (rs := [7]) (by kernel_rfl) (by simp) ?_
      refine (AllReadyH.cons (o := { dst := some 23, op := Go.Op.call { callee := Go.Callee.value (Go.Operand.func 29), args := #[Go.Operand.tmp 16, Go.Operand.tmp 22], argTypes := #[52, 9] }, type := 52, pos := "plan.go:112", after := #[{ on := 0, ground := Go.Ground.data }, { on := 6, ground := Go.Ground.data }, { on := 6, ground := Go.Ground.chain }], guard := none }) rfl (fun K hK => ?_) AllReadyH.nil)
      go_simp
      (go_at_call 29; go_fit (HP _ hB2); rintro e w4 ⟨pv4, T4, rfl, hp4, hb4, hg4, hf4, hl4⟩; obtain ⟨sv4, rfl, hp4⟩ := hp4; obtain ⟨ao4, c4, rfl⟩ := pages_shape hp4; have hB4 : Below w1.heap.size w1 w4 := bthen hB2 hb4; have q4 := cell_of_block (st1.below hB4).blk (j := 0) rfl; have z4 : w4.frozen? ⟨w.heap.size, 0, none⟩ = false := (by simp [World.frozen?, (st1.below hB4).blk]))
      go_wp2_with fail
      refine hK.out _ _ ?_ (fun hHeld => ?_)
      · exact KS.out _ hB4
      clear hK K
      try simp only [Act.put, List.setIfInBounds_toArray, List.set_cons_zero, List.set_cons_succ]
      refine wpAnyH_ready (rs := [8]) (by kernel_rfl) (by simp) ?_
      refine (AllReadyH.cons (o := { dst := none, op := Go.Op.store 52 (Go.Operand.tmp 4) (Go.Operand.tmp 23), type := 0, pos := "plan.go:112", after := #[{ on := 7, ground := Go.Ground.data }, { on := 7, ground := Go.Ground.chain }, { on := 0, ground := Go.Ground.phase }, { on := 1, ground := Go.Ground.phase }, { on := 2, ground := Go.Ground.phase }, { on := 3, ground := Go.Ground.phase }, { on := 4, ground := Go.Ground.phase }, { on := 5, ground := Go.Ground.phase }, { on := 6, ground := Go.Ground.phase }, { on := 7, ground := Go.Ground.phase }], guard := none }) rfl (fun K hK => ?_) AllReadyH.nil)
      go_simp
      go_wp2_with fail
      refine hK.out _ _ ?_ (fun hHeld => ?_)
      · exact KT.out _ hB4 _
      clear hK K
      try simp only [Act.put, List.setIfInBounds_toArray, List.set_cons_zero, List.set_cons_succ]
      refine wpAnyH_done (by kernel_rfl) ?_ _
      go_wp2_with fail
      go_meet
      case rel => exact ⟨rfl, ao4, T4.length, c4, T4, st1.store hB4 hp4 hg4 hf4 hl4⟩
  case rest =>
    obtain ⟨rfl, ao5, k5, c5, T5, st5⟩ := hcut
    have x0 := cell_of_block st5.cat (j := 0) rfl
    have x1 := cell_of_block st5.cat (j := 1) rfl
    have x2 := cell_of_block st5.tab (j := 0) rfl
    have x3 := cell_of_block st5.tab (j := 1) rfl
    have HX := HIK.out wc st5.bel
    have HKL : Hid ((iks I t r).length ≤ I.length) := iks_length I t r
    generalize iks I t r = K at HX EF HKL
    have hKb : K.length ≤ 1000000 := Nat.le_trans HKL.out hn
    clear HP HR HF KS KT q0
    go_wp2_with (go_at_call 28; go_fit HX; rintro e w6 ⟨kv, rfl, hkv, hb6⟩; obtain ⟨ko, kc, rfl⟩ := IsRow.shape hkv)
    go_loopw [29] (fun i wr => ∃ k : Nat, k ≤ K.length ∧ i = .int .i64 k ∧ IsStrs wr (.slice ko K.length kc) K ∧ ∃ ao2 k2 c2 T2, TrSt w #[.slice to' tn tc, .slice io I.length ic] #[.string t.name, .slice so t.cols.length sc] (dropsE (dropF (flat T) (rk t r)) (K.take k)) (T.length) ao2 k2 c2 T2 wr) (fun i _ => K.length - (intOf i).toNat)
    case atStart => exact ⟨0, Nat.zero_le _, rfl, hkv, ao5, k5, c5, T5, st5.below hb6⟩
    case round =>
      obtain ⟨k, hk, rfl, hks, ao2, k2, c2, T2, st2⟩ := hrel
      by_cases hlt : k < K.length
      · obtain ⟨key, hx⟩ : ∃ x, K[k]? = some x := ⟨_, List.getElem?_eq_getElem hlt⟩
        obtain ⟨b, off, cap, hsl, hb, _, _, hcell⟩ := hks.at (by omega)
        cases hsl
        have d0 := hcell k key hx
        have y0 := cell_of_block st2.blk (j := 0) rfl
        have HT2 := drop_any T2 (.agg #[.slice ao2 k2 c2]) key _ ⟨_, rfl, st2.pgs⟩ st2.good (by have := st2.len; have := HKL.out; omega)
        have E2 : Hid (dropsE (dropF (flat T) (rk t r)) (K.take (k + 1)) = dropF (dropsE (dropF (flat T) (rk t r)) (K.take k)) key) := dropsE_take hx
        have v0 : (0 : Int) ≤ (k : Int) := by omega
        have v1 : (k : Int) < (K.length : Int) := by omega
        clear hx hcell
        go_wp2_with (go_at_call 29; go_fit HT2; rintro e w7 ⟨pv7, T7, rfl, hp7, hb7, hg7, hf7, hl7⟩; obtain ⟨sv7, rfl, hp7⟩ := hp7; obtain ⟨ao7, c7, rfl⟩ := pages_shape hp7; have z7 : w7.frozen? ⟨w.heap.size, 0, none⟩ = false := (by simp [World.frozen?, (st2.below hb7).blk]); have y7 := cell_of_block (st2.below hb7).blk (j := 0) rfl)
        go_roundw
        case rel => exact ⟨k + 1, by omega, by go_num, strs_set2 (hks.below hb7) (st2.below hb7).blk _, ao7, T7.length, c7, T7, st2.store hb7 hp7 hg7 (by rw [hf7, st2.flat, E2.out]) (Nat.le_trans hl7 st2.len)⟩
        case measure => simp [intOf]; omega
      · have hkn : k = K.length := by omega
        subst hkn
        have v1 : ¬ ((K.length : Int) < (K.length : Int)) := by omega
        have y0 := cell_of_block st2.blk (j := 0) rfl
        have y1 := cell_of_block st2.res (j := 0) rfl
        have y2 : wr.frozen? ⟨w.heap.size + 3, 0, none⟩ = false := by simp [World.frozen?, st2.res]
        rw [List.take_length] at st2
        go_wp2
        have hfin := set_at st2.res 0 (.slice ao2 k2 c2)
        refine bodyPost_ret (v := .agg #[.slice ao2 k2 c2]) (results_cell_row Tryz.results18 _ _ (w.heap.size + 3) 52 #[.slice ao2 k2 c2] _ _ rfl hfin Tryz.underlying52 rfl (by kernel_rfl)) rfl ?_
        exact ⟨_, T2, rfl, ⟨_, rfl, pages_set2 st2.pgs st2.res _⟩, st2.good, by rw [st2.flat, EF.out], st2.len, st2.bel.setCell (show w.heap.size ≤ w.heap.size + 3 by omega) _⟩

end Go.Proofs.YtkncamggdfmlnaaGreatDoor

namespace Go.Proofs.YtkncamggdfmlnaaGreatDoor
open Go.RowKit

theorem strs_at {w : World} {ao : Option Addr} {n c i : Nat} {L : List ByteArray} {s : ByteArray} (h : IsStrs w (.slice ao n c) L) (hi : L[i]? = some s) : ∃ b off, ao = some ⟨b, off, none⟩ ∧ b < w.heap.size ∧ w.cell? ⟨b, off + i, none⟩ = some (.string s) := by
  obtain ⟨b, off, cap, e, hb, _, _, hc⟩ := h.at (by have := (List.getElem?_eq_some_iff.1 hi).1; omega)
  simp only [Value.slice.injEq] at e
  exact ⟨b, off, e.1, hb, hc i s hi⟩

theorem str_eq_of {a b : ByteArray} (h : (a.toList == b.toList) = true) : a = b := by
  have := eq_of_beq h
  rw [Lib.toList_data, Lib.toList_data] at this
  exact bytes_ext this

theorem le_of_or {a b : ByteArray} (h : (Op.bytesLess a.toList b.toList || a.toList == b.toList) = true) : klt b a = false := by
  rcases Bool.or_eq_true_iff.1 h with h | h
  · exact klt_asymm h
  · rw [str_eq_of h]; exact klt_irrefl _

end Go.Proofs.YtkncamggdfmlnaaGreatDoor

namespace Go.Proofs.YtkncamggdfmlnaaGreatDoor
open Go.RowKit

abbrev Prs := List (ByteArray × ByteArray)
def prcells (F : Prs) : List Value := F.flatMap fun x => [.string x.1, .string x.2]

theorem prcells_length : ∀ F : Prs, (prcells F).length = F.length * 2
  | [] => rfl
  | r :: F => by
    have := prcells_length F
    simp only [prcells, List.flatMap_cons, List.length_append, List.length_cons, List.length_nil] at this ⊢
    omega
theorem prcells_append (a b : Prs) : prcells (a ++ b) = prcells a ++ prcells b := by simp [prcells]
theorem prcells_one : ∀ F : Prs, ∀ u ∈ prcells F, u.oneCell' = true := by
  intro F u hu
  simp only [prcells, List.mem_flatMap] at hu
  obtain ⟨x, _, hx⟩ := hu
  simp at hx
  rcases hx with rfl | rfl <;> rfl

theorem prcells_at : ∀ (F : Prs) (i : Nat) (r : ByteArray × ByteArray), F[i]? = some r → (prcells F)[i * 2]? = some (.string r.1) ∧ (prcells F)[i * 2 + 1]? = some (.string r.2)
  | x :: F, 0, r, h => by
    simp at h; subst h
    simp [prcells]
  | x :: F, i + 1, r, h => by
    have := prcells_at F i r (by simpa using h)
    have e : prcells (x :: F) = .string x.1 :: .string x.2 :: prcells F := by simp [prcells]
    rw [e, show (i + 1) * 2 = i * 2 + 1 + 1 from by omega]
    exact this

/-- A list of pairs. -/
def IsPairs (w : World) (sv : Value) (F : Prs) : Prop := IsRow 2 w sv F.length (prcells F)

theorem IsPairs.below {w w' : World} {sv : Value} {F : Prs} (h : IsPairs w sv F) (hb : Below w.heap.size w w') : IsPairs w' sv F := IsRow.below h hb
theorem IsPairs.nil (w : World) : IsPairs w (.slice none 0 0) [] := IsRow.nil 2 w

theorem pairs_at {w : World} {ao : Option Addr} {n c i : Nat} {F : Prs} {r : ByteArray × ByteArray} (h : IsPairs w (.slice ao n c) F) (hi : F[i]? = some r) : ∃ b off, ao = some ⟨b, off, none⟩ ∧ b < w.heap.size ∧ w.cell? ⟨b, off + i * 2, none⟩ = some (.string r.1) ∧ w.cell? ⟨b, off + i * 2 + 1, none⟩ = some (.string r.2) := by
  rcases h.2 with ⟨h1, _⟩ | ⟨_, b, off, cap, e, hb, hc, hm, hcell⟩
  · rw [List.eq_nil_of_length_eq_zero h1] at hi; simp at hi
  · simp only [Value.slice.injEq] at e
    obtain ⟨c1, c2⟩ := prcells_at F i r hi
    exact ⟨b, off, e.1, hb, hcell _ _ c1, by rw [Nat.add_assoc]; exact hcell _ _ c2⟩

theorem info_pair : (Tryz.prog.info? 42).map (fun i => (i.zero, i.size, i.bytes)) = some (some (.agg #[.string ⟨#[]⟩, .string ⟨#[]⟩]), 2, 32) := by kernel_rfl

set_option maxHeartbeats 2000000 in
/-- SamePairs of two lists that are alike. -/
theorem samePairs_any (F : Prs) (av bv : Value) (w : World) (ha : IsPairs w av F) (hb : IsPairs w bv F) (hl : F.length ≤ 1073741824) :
    Calls Tryz.prog 16 #[av, bv] w fun e w' => e = .returned (.bool true) ∧ Below w.heap.size w w' := by
  obtain ⟨ao, ac, rfl⟩ := IsRow.shape ha
  obtain ⟨bo, bc, rfl⟩ := IsRow.shape hb
  have HA := hid ha
  have HB := hid hb
  clear ha hb
  generalize hn : F.length = n at *
  have HN := hid hn
  clear hn
  go_enter Tryz.func16, Tryz.ntmps16
  go_wp2
  go_loopw [13] (fun i wr => ∃ k : Nat, k ≤ n ∧ i = .int .i64 k ∧ Below w.heap.size w wr) (fun i _ => n - (intOf i).toNat)
  case atStart => exact ⟨0, Nat.zero_le _, rfl, Below.refl _ _⟩
  case round =>
    obtain ⟨k, hk, rfl, hbel⟩ := hrel
    by_cases hlt : k < n
    · obtain ⟨⟨s, v⟩, hsv⟩ : ∃ x, F[k]? = some x := ⟨_, List.getElem?_eq_getElem (by rw [HN.out]; omega)⟩
      obtain ⟨ba, oa, rfl, _, a0, a1⟩ := pairs_at (HA.out.below hbel) hsv
      obtain ⟨bb, ob, rfl, _, b0, b1⟩ := pairs_at (HB.out.below hbel) hsv
      have i0 : (0 : Int) ≤ (k : Int) := by omega
      have i1 : (k : Int) < (n : Int) := by omega
      simp only at a0 a1 b0 b1
      have hss : (s.toList == s.toList) = true := by simp
      have hvv : (v.toList == v.toList) = true := by simp
      clear hsv
      go_wp2
      go_quiet (fail)
      go_wp2
      go_roundw
      case rel => exact ⟨k + 1, by omega, by go_num, below_drewN hbel _⟩
      case measure => simp [intOf]; omega
    · go_wp2
      go_ret
      exact ⟨rfl, hbel⟩

theorem drop_take {F : Prs} {j : Nat} {x : ByteArray × ByteArray} (q : ByteArray × ByteArray → Bool) (h : F[j]? = some x) : (F.take (j + 1)).filter q = (F.take j).filter q ++ (if q x then [x] else []) := by
  rw [List.take_add_one, h, List.filter_append]
  cases hq : q x <;> simp [hq]

end Go.Proofs.YtkncamggdfmlnaaGreatDoor

namespace Go.Proofs.YtkncamggdfmlnaaGreatDoor
open Go.RowKit

/-- No page has more keys or texts than may be counted. -/
def Short (T : List Pg) : Prop := ∀ p ∈ T, p.K.length ≤ 1048576 ∧ p.V.length ≤ 1048576

theorem pages_at {w : World} {ao : Option Addr} {n c i : Nat} {T : List Pg} {p : Pg} (h : IsPages w (.slice ao n c) T) (hi : T[i]? = some p) : ∃ b off ka kc va vc, ao = some ⟨b, off, none⟩ ∧ b < w.heap.size ∧ w.cell? ⟨b, off + i * 2, none⟩ = some (.slice ka p.K.length kc) ∧ w.cell? ⟨b, off + i * 2 + 1, none⟩ = some (.slice va p.V.length vc) ∧ IsStrs w (.slice ka p.K.length kc) p.K ∧ IsStrs w (.slice va p.V.length vc) p.V := by
  obtain ⟨b, off, cap, e, hb, _, _, hT⟩ := h.at (by have := (List.getElem?_eq_some_iff.1 hi).1; omega)
  simp only [Value.slice.injEq] at e
  obtain ⟨kv, vv, c0, c1, hk, hv⟩ := hT i p hi
  obtain ⟨ka, kc, rfl⟩ := hk.shape
  obtain ⟨va, vc, rfl⟩ := hv.shape
  exact ⟨b, off, ka, kc, va, vc, e.1, hb, c0, c1, hk, hv⟩

end Go.Proofs.YtkncamggdfmlnaaGreatDoor

namespace Go.Proofs.YtkncamggdfmlnaaGreatDoor
open Go.RowKit

def AllFar (B : Nat) (w : World) (z : Value) (rows : List (Value × Value)) : Prop := ∀ r ∈ rows, Far B w z r.1 ∧ Far B w z r.2

theorem Far.mono {B : Nat} {w w' : World} {z v : Value} (h : Far B w z v) (hs : w.heap.size ≤ w'.heap.size) : Far B w' z v := ⟨fun j hj => ⟨(h.1 j hj).1, Nat.lt_of_lt_of_le (h.1 j hj).2 hs⟩, h.2⟩
theorem AllFar.mono {B : Nat} {w w' : World} {z : Value} {rows : List (Value × Value)} (h : AllFar B w z rows) (hs : w.heap.size ≤ w'.heap.size) : AllFar B w' z rows := fun r hr => ⟨(h r hr).1.mono hs, (h r hr).2.mono hs⟩

theorem Far.turn {B : Nat} {w : World} {z z' v : Value} (h : Far B w z v) (hz : z'.ownBlock = z.ownBlock ∨ z'.ownBlock = some w.heap.size) : Far B w z' v := by
  refine ⟨h.1, ?_⟩
  rcases hz with e | e
  · rw [e]; exact h.2
  · right
    rw [e]
    intro hv
    have := (h.1 _ hv).2
    omega
theorem AllFar.turn {B : Nat} {w : World} {z z' : Value} {rows : List (Value × Value)} (h : AllFar B w z rows) (hz : z'.ownBlock = z.ownBlock ∨ z'.ownBlock = some w.heap.size) : AllFar B w z' rows := fun r hr => ⟨(h r hr).1.turn hz, (h r hr).2.turn hz⟩

theorem Pgs.grown {B : Nat} {w w' : World} {z : Value} (hg : w.grownBy w' z.ownBlock) : ∀ {rs : List (Value × Value)} {T : List Pg}, AllFar B w z rs → Pgs w rs T → Pgs w' rs T
  | [], [], _, _ => trivial
  | r :: _, _ :: _, hf, h => ⟨h.1.grown hg (hf r (by simp)).1.2, h.2.1.grown hg (hf r (by simp)).2.2, Pgs.grown hg (fun q hq => hf q (by simp [hq])) h.2.2⟩

theorem Pgs.setOther {B : Nat} {w : World} {z : Value} {g i : Nat} (hB : g < B) (v : Value) : ∀ {rs : List (Value × Value)} {T : List Pg}, AllFar B w z rs → Pgs w rs T → Pgs (w.setCell ⟨g, i, none⟩ v) rs T
  | [], [], _, _ => trivial
  | r :: _, _ :: _, hf, h => by
    have ne : ∀ {u : Value}, Far B w z u → u.ownBlock ≠ some g := fun hu e => by have := (hu.1 _ e).1; omega
    exact ⟨row_set h.1 v (ne (hf r (by simp)).1), row_set h.2.1 v (ne (hf r (by simp)).2), Pgs.setOther hB v (fun q hq => hf q (by simp [hq])) h.2.2⟩

theorem AllFar.snoc {B : Nat} {w : World} {z : Value} {rs : List (Value × Value)} {r : Value × Value} (h : AllFar B w z rs) (h1 : Far B w z r.1) (h2 : Far B w z r.2) : AllFar B w z (rs ++ [r]) := by
  intro q hq
  rcases List.mem_append.1 hq with hq | hq
  · exact h q hq
  · obtain rfl : q = r := by simpa using hq
    exact ⟨h1, h2⟩

theorem pages_ob {w Wo w2 w3 : World} {k : Nat} {cs : List Value} {z v1 v2 : Value} (hB2 : Below Wo.heap.size Wo w2) (ob : Wo.heap[w.heap.size + 1 + 1]? = some (.cells #[z] 52))
    (own : Wo.ownsRow (w.heap.size + 3) 76 2 z k cs) (gr3 : (w2.alloc (.cells #[v1, v2] 76)).grownBy w3 z.ownBlock) : w3.heap[w.heap.size + 1 + 1]? = some (.cells #[z] 52) := by
  have hB2' : Below Wo.heap.size Wo (w2.alloc (.cells #[v1, v2] 76)) := balloc hB2 _
  have lo := lt_of_block ob
  have s2' := hB2'.size
  exact (gr3.block _ (by omega) (fun e => by have := own.lt _ e.symm; omega)).trans ((hB2'.block _ lo).trans ob)

/-- One page more. -/
theorem pages_step {w Wo w2 w3 : World} {T : List Pg} {k : Nat} {p : Pg} {rows : List (Value × Value)} {z z' v1 v2 : Value} (hbel : Below w.heap.size w Wo) (hB2 : Below Wo.heap.size Wo w2)
    (rb : Wo.heap[w.heap.size + 1]? = some (.cells #[.slice none 0 0] 52)) (ob : Wo.heap[w.heap.size + 1 + 1]? = some (.cells #[z] 52))
    (own : Wo.ownsRow (w.heap.size + 3) 76 2 z k (pcells rows)) (HP : Pgs Wo rows (T.take k) ∧ AllFar (w.heap.size + 3) Wo z rows)
    (hk2 : IsStrs w2 v1 p.K) (hv2 : IsStrs w2 v2 p.V) (f1 : ∀ j, v1.ownBlock = some j → Wo.heap.size ≤ j ∧ j < w2.heap.size) (f2 : ∀ j, v2.ownBlock = some j → Wo.heap.size ≤ j ∧ j < w2.heap.size)
    (gr3 : (w2.alloc (.cells #[v1, v2] 76)).grownBy w3 z.ownBlock) (own3 : w3.ownsRow (w.heap.size + 3) 76 2 z' (k + 1) (pcells rows ++ [v1, v2]))
    (at3 : z'.ownBlock = z.ownBlock ∨ z'.ownBlock = some (w2.alloc (.cells #[v1, v2] 76)).heap.size) (htk : T.take (k + 1) = T.take k ++ [p]) :
    Below w.heap.size w (w3.setCell ⟨w.heap.size + 1 + 1, 0, none⟩ z') ∧ (w3.setCell ⟨w.heap.size + 1 + 1, 0, none⟩ z').heap[w.heap.size + 1]? = some (.cells #[.slice none 0 0] 52) ∧ (w3.setCell ⟨w.heap.size + 1 + 1, 0, none⟩ z').heap[w.heap.size + 1 + 1]? = some (.cells #[z'] 52) ∧
    (w3.setCell ⟨w.heap.size + 1 + 1, 0, none⟩ z').ownsRow (w.heap.size + 3) 76 2 z' (k + 1) (pcells (rows ++ [(v1, v2)])) ∧
    Pgs (w3.setCell ⟨w.heap.size + 1 + 1, 0, none⟩ z') (rows ++ [(v1, v2)]) (T.take (k + 1)) ∧ AllFar (w.heap.size + 3) (w3.setCell ⟨w.heap.size + 1 + 1, 0, none⟩ z') z' (rows ++ [(v1, v2)]) := by
  have lo := lt_of_block ob
  have hB2' : Below Wo.heap.size Wo (w2.alloc (.cells #[v1, v2] 76)) := balloc hB2 _
  have s2 := hB2.size
  have s2' := hB2'.size
  have s3 := gr3.size
  have sa := World.size_alloc w2 (.cells #[v1, v2] 76)
  have hzb : ∀ j, z.ownBlock = some j → w.heap.size + 3 ≤ j ∧ j < Wo.heap.size := fun j hj => own.lt j hj
  have near : ∀ j, j ≤ w.heap.size + 1 + 1 → some j ≠ z.ownBlock := fun j hj e => by have := hzb j e.symm; omega
  have rb3 := (gr3.block _ (by omega) (near _ (by omega))).trans ((hB2'.block _ (by omega)).trans rb)
  have ob3 := (gr3.block _ (by omega) (near _ (Nat.le_refl _))).trans ((hB2'.block _ lo).trans ob)
  have hb3 : Below w.heap.size w w3 := (hbel.trans (hB2'.mono hbel.size)).grown gr3 (by have := hbel.size; omega) (fun j hj => by have := hzb j hj; omega)
  have new : ∀ v : Value, (∀ j, v.ownBlock = some j → Wo.heap.size ≤ j ∧ j < w2.heap.size) → Far (w.heap.size + 3) (w2.alloc (.cells #[v1, v2] 76)) z v := by
    intro v hv
    refine ⟨fun j hj => ⟨by have := (hv j hj).1; omega, by have := (hv j hj).2; omega⟩, ?_⟩
    cases hz : z.ownBlock with
    | none => exact .inl rfl
    | some g =>
      right
      intro e
      have h1 := (hv g e).1
      have h2 := (hzb g hz).2
      omega
  have far2 : AllFar (w.heap.size + 3) (w2.alloc (.cells #[v1, v2] 76)) z (rows ++ [(v1, v2)]) := (HP.2.mono s2').snoc (new v1 f1) (new v2 f2)
  have pg2 : Pgs (w2.alloc (.cells #[v1, v2] 76)) (rows ++ [(v1, v2)]) (T.take (k + 1)) := by
    rw [htk]
    exact Pgs.append (Pgs.keep hB2' (Nat.le_refl _) HP.1) ⟨hk2.below (balloc (Below.refl _ _) _), hv2.below (balloc (Below.refl _ _) _), trivial⟩
  have far3 : AllFar (w.heap.size + 3) w3 z' (rows ++ [(v1, v2)]) := (far2.turn at3).mono s3
  have pg3 := Pgs.grown gr3 far2 pg2
  refine ⟨hb3.setCell (by simp only; omega) _, ?_, set_block ob3 0 _, ?_, Pgs.setOther (by omega) _ far3 pg3, far3.mono (by rw [show (w3.setCell ⟨w.heap.size + 1 + 1, 0, none⟩ z').heap.size = w3.heap.size by simp [World.setCell]]; exact Nat.le_refl _)⟩
  · rw [Below.heap_setCell _ _ _ _ (by simp only; omega)]; exact rb3
  · rw [pcells_append]
    exact ownsRow_setCell_below own3 (by simp only; omega) _

end Go.Proofs.YtkncamggdfmlnaaGreatDoor

