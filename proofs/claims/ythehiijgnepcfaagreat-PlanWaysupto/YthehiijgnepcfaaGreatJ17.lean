/-
  4 texts of this proof in one, in build order: QWhere8, QWhere9, QRank, QChoose.
-/
import Derived.Deep.Cut
import Derived.Deep.QuietTactic
import Derived.Deep.CutRange
import Derived.Test.YthehiijgnepcfaaGreatJ12
import Derived.Test.YthehiijgnepcfaaGreatJ13
import Derived.Test.YthehiijgnepcfaaGreatJ15
import Derived.Test.YthehiijgnepcfaaGreatJ16
namespace Go.Proofs.YthehiijgnepcfaaGreat
open Go.RowKit

set_option maxRecDepth 100000 in
set_option maxHeartbeats 8000000 in
theorem where_not (at' col : Int) (pk pn : Int) (px ps pm : Wd) (pi : Int) (b off pc : Nat) (pl : Nat) (qop qk qn : Int) (qx qs qm : Wd) (qi : Int) (qa : Option Addr) (ql qc : Nat) (yes : Bool) (s1 : Sp) (w : World) (hl : 1 ≤ pl) (hb : b < w.heap.size)
    (h1 : w.cell? ⟨b, off, none⟩ = some (.int .i64 qop) ∧ w.cell? ⟨b, off + 1, none⟩ = some (.int .i64 qk) ∧ w.cell? ⟨b, off + 2, none⟩ = some (.int .i64 qn) ∧ w.cell? ⟨b, off + 3, none⟩ = some (.string qx) ∧ w.cell? ⟨b, off + 4, none⟩ = some (.string qs) ∧ w.cell? ⟨b, off + 5, none⟩ = some (.string qm) ∧ w.cell? ⟨b, off + 6, none⟩ = some (.int .i64 qi) ∧ w.cell? ⟨b, off + 7, none⟩ = some (.slice qa ql qc))
    (HA : ∀ W, Below w.heap.size w W → Calls Tryz.prog 30 #[.agg #[.int .i64 at', .int .i64 col], .agg #[.int .i64 qop, .int .i64 qk, .int .i64 qn, .string qx, .string qs, .string qm, .int .i64 qi, .slice qa ql qc], .bool (!yes)] W fun e w' => e = .returned s1.val ∧ Below W.heap.size W w') :
    Calls Tryz.prog 30 #[.agg #[.int .i64 at', .int .i64 col], .agg #[.int .i64 9, .int .i64 pk, .int .i64 pn, .string px, .string ps, .string pm, .int .i64 pi, .slice (some ⟨b, off, none⟩) pl pc], .bool yes] w fun e w' => e = .returned s1.val ∧ Below w.heap.size w w' := by
  have l0 : (0 : Int) < (pl : Int) := by omega
  have n0 : 0 < pl := by omega
  have B0 : (((w.alloc (.cells #[.int .i64 at', .int .i64 col] 83)).alloc (.cells #[.int .i64 9, .int .i64 pk, .int .i64 pn, .string px, .string ps, .string pm, .int .i64 pi, .slice (some ⟨b, off, none⟩) pl pc] 34)).alloc (.cells #[.string noW, .string noW] 81)).heap[w.heap.size]? = some (.cells #[.int .i64 at', .int .i64 col] 83) := block_alloc_of (block_alloc_of (block_alloc_at _ _) _) _
  have B1 : (((w.alloc (.cells #[.int .i64 at', .int .i64 col] 83)).alloc (.cells #[.int .i64 9, .int .i64 pk, .int .i64 pn, .string px, .string ps, .string pm, .int .i64 pi, .slice (some ⟨b, off, none⟩) pl pc] 34)).alloc (.cells #[.string noW, .string noW] 81)).heap[w.heap.size + 1]? = some (.cells #[.int .i64 9, .int .i64 pk, .int .i64 pn, .string px, .string ps, .string pm, .int .i64 pi, .slice (some ⟨b, off, none⟩) pl pc] 34) := block_alloc_of (block2 _ _ _) _
  have B2 : (((w.alloc (.cells #[.int .i64 at', .int .i64 col] 83)).alloc (.cells #[.int .i64 9, .int .i64 pk, .int .i64 pn, .string px, .string ps, .string pm, .int .i64 pi, .slice (some ⟨b, off, none⟩) pl pc] 34)).alloc (.cells #[.string noW, .string noW] 81)).heap[w.heap.size + 2]? = some (.cells #[.string noW, .string noW] 81) := block3 _ _ _ _
  have hb3 := bel3 w (.cells #[.int .i64 at', .int .i64 col] 83) (.cells #[.int .i64 9, .int .i64 pk, .int .i64 pn, .string px, .string ps, .string pm, .int .i64 pi, .slice (some ⟨b, off, none⟩) pl pc] 34) (.cells #[.string noW, .string noW] 81)
  generalize hW : ((w.alloc (.cells #[.int .i64 at', .int .i64 col] 83)).alloc (.cells #[.int .i64 9, .int .i64 pk, .int .i64 pn, .string px, .string ps, .string pm, .int .i64 pi, .slice (some ⟨b, off, none⟩) pl pc] 34)).alloc (.cells #[.string noW, .string noW] 81) = V at B0 B1 B2 hb3
  have HW : Hid _ := hW
  clear hW
  have cop := cell_of_block B1 (j := 0) (u := .int .i64 9) rfl
  have KS : Hid (∀ W, Below (w.heap.size + 2) V W → (W.cell? ⟨w.heap.size, 0, none⟩ = some (.int .i64 at') ∧ W.cell? ⟨w.heap.size, 1, none⟩ = some (.int .i64 col) ∧ W.cell? ⟨w.heap.size + 1, 7, none⟩ = some (.slice (some ⟨b, off, none⟩) pl pc) ∧ W.cell? ⟨b, off, none⟩ = some (.int .i64 qop) ∧ W.cell? ⟨b, off + 1, none⟩ = some (.int .i64 qk) ∧ W.cell? ⟨b, off + 2, none⟩ = some (.int .i64 qn) ∧ W.cell? ⟨b, off + 3, none⟩ = some (.string qx) ∧ W.cell? ⟨b, off + 4, none⟩ = some (.string qs) ∧ W.cell? ⟨b, off + 5, none⟩ = some (.string qm) ∧ W.cell? ⟨b, off + 6, none⟩ = some (.int .i64 qi) ∧ W.cell? ⟨b, off + 7, none⟩ = some (.slice qa ql qc))) := fun W hW => by
    have D0 := (hW.block _ (by omega)).trans B0
    have D1 := (hW.block _ (by omega)).trans B1
    have hbw : Below w.heap.size w W := hb3.trans (hW.mono (by omega))
    have kc : ∀ o, W.cell? ⟨b, o, none⟩ = w.cell? ⟨b, o, none⟩ := fun o => hbw.cell (p := ⟨b, o, none⟩) hb
    obtain ⟨x0, x1, x2, x3, x4, x5, x6, x7⟩ := h1
    exact ⟨cell_of_block D0 (j := 0) rfl, cell_of_block D0 (j := 1) rfl, cell_of_block D1 (j := 7) rfl, (kc _).trans x0, (kc _).trans x1, (kc _).trans x2, (kc _).trans x3, (kc _).trans x4, (kc _).trans x5, (kc _).trans x6, (kc _).trans x7⟩
  have lV : w.heap.size + 2 < V.heap.size := lt_of_block B2
  have HC := fun W (hW : Below V.heap.size V W) => HA W (bthen hb3 hW)
  have y0 := KS.out V.drew ((Below.refl _ V).drew)
  clear HA h1 B0
  obtain ⟨lo1, hi1⟩ := s1
  simp only [Sp.val] at HC ⊢
  go_enter Tryz.func30, Tryz.ntmps30
  go_upto_region 3 with fail
  rw [HW.out]
  go_region_held3 (fun W => (W.cell? ⟨w.heap.size, 0, none⟩ = some (.int .i64 at') ∧ W.cell? ⟨w.heap.size, 1, none⟩ = some (.int .i64 col) ∧ W.cell? ⟨w.heap.size + 1, 7, none⟩ = some (.slice (some ⟨b, off, none⟩) pl pc) ∧ W.cell? ⟨b, off, none⟩ = some (.int .i64 qop) ∧ W.cell? ⟨b, off + 1, none⟩ = some (.int .i64 qk) ∧ W.cell? ⟨b, off + 2, none⟩ = some (.int .i64 qn) ∧ W.cell? ⟨b, off + 3, none⟩ = some (.string qx) ∧ W.cell? ⟨b, off + 4, none⟩ = some (.string qs) ∧ W.cell? ⟨b, off + 5, none⟩ = some (.string qm) ∧ W.cell? ⟨b, off + 6, none⟩ = some (.int .i64 qi) ∧ W.cell? ⟨b, off + 7, none⟩ = some (.slice qa ql qc)))
    (with_reducible first | exact y0 | exact y1 | exact KS.out _ ((zz.mono (Nat.le_of_lt lV)).setCell (Nat.le_refl _) _ |>.setCell (Nat.le_refl _) _))
    (first | (go_at_call 30; refine (HC _ ((Below.refl _ V).drew)).mono ?_; rintro e w1 ⟨rfl, hb1⟩; have zz : Below V.heap.size V w1 := bthen (Below.refl _ V).drew hb1; have y1 := KS.out _ (zz.mono (Nat.le_of_lt lV)); obtain ⟨r0, r1, r2, r3, r4⟩ := two_ready B2 zz))
  go_wp2
  exact end_two _ _ Tryz.results30 rfl rfl r0 (bthen hb3 zz) (by omega) Tryz.underlying81 (by kernel_rfl)

set_option maxRecDepth 100000 in
set_option maxHeartbeats 8000000 in
theorem where_is (at' col : Int) (pk pn : Int) (px ps pm : Wd) (pi : Int) (b off pc : Nat) (pl : Nat) (qop qk qn : Int) (qx qs qm : Wd) (qi : Int) (qa : Option Addr) (ql qc : Nat) (yes : Bool) (s1 : Sp) (w : World) (hl : 1 ≤ pl) (hb : b < w.heap.size)
    (h1 : w.cell? ⟨b, off, none⟩ = some (.int .i64 qop) ∧ w.cell? ⟨b, off + 1, none⟩ = some (.int .i64 qk) ∧ w.cell? ⟨b, off + 2, none⟩ = some (.int .i64 qn) ∧ w.cell? ⟨b, off + 3, none⟩ = some (.string qx) ∧ w.cell? ⟨b, off + 4, none⟩ = some (.string qs) ∧ w.cell? ⟨b, off + 5, none⟩ = some (.string qm) ∧ w.cell? ⟨b, off + 6, none⟩ = some (.int .i64 qi) ∧ w.cell? ⟨b, off + 7, none⟩ = some (.slice qa ql qc))
    (HA : ∀ W, Below w.heap.size w W → Calls Tryz.prog 69 #[.agg #[.int .i64 at', .int .i64 col], .agg #[.int .i64 qop, .int .i64 qk, .int .i64 qn, .string qx, .string qs, .string qm, .int .i64 qi, .slice qa ql qc], .bool (yes)] W fun e w' => e = .returned s1.val ∧ Below W.heap.size W w') :
    Calls Tryz.prog 30 #[.agg #[.int .i64 at', .int .i64 col], .agg #[.int .i64 10, .int .i64 pk, .int .i64 pn, .string px, .string ps, .string pm, .int .i64 pi, .slice (some ⟨b, off, none⟩) pl pc], .bool yes] w fun e w' => e = .returned s1.val ∧ Below w.heap.size w w' := by
  have l0 : (0 : Int) < (pl : Int) := by omega
  have n0 : 0 < pl := by omega
  have B0 : (((w.alloc (.cells #[.int .i64 at', .int .i64 col] 83)).alloc (.cells #[.int .i64 10, .int .i64 pk, .int .i64 pn, .string px, .string ps, .string pm, .int .i64 pi, .slice (some ⟨b, off, none⟩) pl pc] 34)).alloc (.cells #[.string noW, .string noW] 81)).heap[w.heap.size]? = some (.cells #[.int .i64 at', .int .i64 col] 83) := block_alloc_of (block_alloc_of (block_alloc_at _ _) _) _
  have B1 : (((w.alloc (.cells #[.int .i64 at', .int .i64 col] 83)).alloc (.cells #[.int .i64 10, .int .i64 pk, .int .i64 pn, .string px, .string ps, .string pm, .int .i64 pi, .slice (some ⟨b, off, none⟩) pl pc] 34)).alloc (.cells #[.string noW, .string noW] 81)).heap[w.heap.size + 1]? = some (.cells #[.int .i64 10, .int .i64 pk, .int .i64 pn, .string px, .string ps, .string pm, .int .i64 pi, .slice (some ⟨b, off, none⟩) pl pc] 34) := block_alloc_of (block2 _ _ _) _
  have B2 : (((w.alloc (.cells #[.int .i64 at', .int .i64 col] 83)).alloc (.cells #[.int .i64 10, .int .i64 pk, .int .i64 pn, .string px, .string ps, .string pm, .int .i64 pi, .slice (some ⟨b, off, none⟩) pl pc] 34)).alloc (.cells #[.string noW, .string noW] 81)).heap[w.heap.size + 2]? = some (.cells #[.string noW, .string noW] 81) := block3 _ _ _ _
  have hb3 := bel3 w (.cells #[.int .i64 at', .int .i64 col] 83) (.cells #[.int .i64 10, .int .i64 pk, .int .i64 pn, .string px, .string ps, .string pm, .int .i64 pi, .slice (some ⟨b, off, none⟩) pl pc] 34) (.cells #[.string noW, .string noW] 81)
  generalize hW : ((w.alloc (.cells #[.int .i64 at', .int .i64 col] 83)).alloc (.cells #[.int .i64 10, .int .i64 pk, .int .i64 pn, .string px, .string ps, .string pm, .int .i64 pi, .slice (some ⟨b, off, none⟩) pl pc] 34)).alloc (.cells #[.string noW, .string noW] 81) = V at B0 B1 B2 hb3
  have HW : Hid _ := hW
  clear hW
  have cop := cell_of_block B1 (j := 0) (u := .int .i64 10) rfl
  have KS : Hid (∀ W, Below (w.heap.size + 2) V W → (W.cell? ⟨w.heap.size, 0, none⟩ = some (.int .i64 at') ∧ W.cell? ⟨w.heap.size, 1, none⟩ = some (.int .i64 col) ∧ W.cell? ⟨w.heap.size + 1, 7, none⟩ = some (.slice (some ⟨b, off, none⟩) pl pc) ∧ W.cell? ⟨b, off, none⟩ = some (.int .i64 qop) ∧ W.cell? ⟨b, off + 1, none⟩ = some (.int .i64 qk) ∧ W.cell? ⟨b, off + 2, none⟩ = some (.int .i64 qn) ∧ W.cell? ⟨b, off + 3, none⟩ = some (.string qx) ∧ W.cell? ⟨b, off + 4, none⟩ = some (.string qs) ∧ W.cell? ⟨b, off + 5, none⟩ = some (.string qm) ∧ W.cell? ⟨b, off + 6, none⟩ = some (.int .i64 qi) ∧ W.cell? ⟨b, off + 7, none⟩ = some (.slice qa ql qc))) := fun W hW => by
    have D0 := (hW.block _ (by omega)).trans B0
    have D1 := (hW.block _ (by omega)).trans B1
    have hbw : Below w.heap.size w W := hb3.trans (hW.mono (by omega))
    have kc : ∀ o, W.cell? ⟨b, o, none⟩ = w.cell? ⟨b, o, none⟩ := fun o => hbw.cell (p := ⟨b, o, none⟩) hb
    obtain ⟨x0, x1, x2, x3, x4, x5, x6, x7⟩ := h1
    exact ⟨cell_of_block D0 (j := 0) rfl, cell_of_block D0 (j := 1) rfl, cell_of_block D1 (j := 7) rfl, (kc _).trans x0, (kc _).trans x1, (kc _).trans x2, (kc _).trans x3, (kc _).trans x4, (kc _).trans x5, (kc _).trans x6, (kc _).trans x7⟩
  have lV : w.heap.size + 2 < V.heap.size := lt_of_block B2
  have HC := fun W (hW : Below V.heap.size V W) => HA W (bthen hb3 hW)
  have y0 := KS.out V.drew ((Below.refl _ V).drew)
  clear HA h1 B0
  obtain ⟨lo1, hi1⟩ := s1
  simp only [Sp.val] at HC ⊢
  go_enter Tryz.func30, Tryz.ntmps30
  go_upto_region 11 with fail
  rw [HW.out]
  go_region_held3 (fun W => (W.cell? ⟨w.heap.size, 0, none⟩ = some (.int .i64 at') ∧ W.cell? ⟨w.heap.size, 1, none⟩ = some (.int .i64 col) ∧ W.cell? ⟨w.heap.size + 1, 7, none⟩ = some (.slice (some ⟨b, off, none⟩) pl pc) ∧ W.cell? ⟨b, off, none⟩ = some (.int .i64 qop) ∧ W.cell? ⟨b, off + 1, none⟩ = some (.int .i64 qk) ∧ W.cell? ⟨b, off + 2, none⟩ = some (.int .i64 qn) ∧ W.cell? ⟨b, off + 3, none⟩ = some (.string qx) ∧ W.cell? ⟨b, off + 4, none⟩ = some (.string qs) ∧ W.cell? ⟨b, off + 5, none⟩ = some (.string qm) ∧ W.cell? ⟨b, off + 6, none⟩ = some (.int .i64 qi) ∧ W.cell? ⟨b, off + 7, none⟩ = some (.slice qa ql qc)))
    (with_reducible first | exact y0 | exact y1 | exact KS.out _ ((zz.mono (Nat.le_of_lt lV)).setCell (Nat.le_refl _) _ |>.setCell (Nat.le_refl _) _))
    (first | (go_at_call 69; refine (HC _ ((Below.refl _ V).drew)).mono ?_; rintro e w1 ⟨rfl, hb1⟩; have zz : Below V.heap.size V w1 := bthen (Below.refl _ V).drew hb1; have y1 := KS.out _ (zz.mono (Nat.le_of_lt lV)); obtain ⟨r0, r1, r2, r3, r4⟩ := two_ready B2 zz))
  go_wp2
  exact end_two _ _ Tryz.results30 rfl rfl r0 (bthen hb3 zz) (by omega) Tryz.underlying81 (by kernel_rfl)

set_option maxRecDepth 100000 in
set_option maxHeartbeats 8000000 in
theorem where_cmp5 (at' col : Int) (pk pn : Int) (px ps pm : Wd) (pi : Int) (b off pc : Nat) (pl : Nat) (qop qk qn : Int) (qx qs qm : Wd) (qi : Int) (qa : Option Addr) (ql qc : Nat) (top tk tn : Int) (tx ts tm : Wd) (ti : Int) (ta : Option Addr) (tl tc : Nat) (yes : Bool) (s1 : Sp) (w : World) (hl : 2 ≤ pl) (hb : b < w.heap.size)
    (h1 : w.cell? ⟨b, off, none⟩ = some (.int .i64 qop) ∧ w.cell? ⟨b, off + 1, none⟩ = some (.int .i64 qk) ∧ w.cell? ⟨b, off + 2, none⟩ = some (.int .i64 qn) ∧ w.cell? ⟨b, off + 3, none⟩ = some (.string qx) ∧ w.cell? ⟨b, off + 4, none⟩ = some (.string qs) ∧ w.cell? ⟨b, off + 5, none⟩ = some (.string qm) ∧ w.cell? ⟨b, off + 6, none⟩ = some (.int .i64 qi) ∧ w.cell? ⟨b, off + 7, none⟩ = some (.slice qa ql qc)) (h2 : w.cell? ⟨b, off + 8, none⟩ = some (.int .i64 top) ∧ w.cell? ⟨b, off + 8 + 1, none⟩ = some (.int .i64 tk) ∧ w.cell? ⟨b, off + 8 + 2, none⟩ = some (.int .i64 tn) ∧ w.cell? ⟨b, off + 8 + 3, none⟩ = some (.string tx) ∧ w.cell? ⟨b, off + 8 + 4, none⟩ = some (.string ts) ∧ w.cell? ⟨b, off + 8 + 5, none⟩ = some (.string tm) ∧ w.cell? ⟨b, off + 8 + 6, none⟩ = some (.int .i64 ti) ∧ w.cell? ⟨b, off + 8 + 7, none⟩ = some (.slice ta tl tc))
    (HA : ∀ W, Below w.heap.size w W → Calls Tryz.prog 70 #[.agg #[.int .i64 at', .int .i64 col], .int .i64 5, .agg #[.int .i64 qop, .int .i64 qk, .int .i64 qn, .string qx, .string qs, .string qm, .int .i64 qi, .slice qa ql qc], .agg #[.int .i64 top, .int .i64 tk, .int .i64 tn, .string tx, .string ts, .string tm, .int .i64 ti, .slice ta tl tc], .bool yes] W fun e w' => e = .returned s1.val ∧ Below W.heap.size W w') :
    Calls Tryz.prog 30 #[.agg #[.int .i64 at', .int .i64 col], .agg #[.int .i64 5, .int .i64 pk, .int .i64 pn, .string px, .string ps, .string pm, .int .i64 pi, .slice (some ⟨b, off, none⟩) pl pc], .bool yes] w fun e w' => e = .returned s1.val ∧ Below w.heap.size w w' := by
  have l0 : (0 : Int) < (pl : Int) := by omega
  have n0 : 0 < pl := by omega
  have l1 : (1 : Int) < (pl : Int) := by omega
  have n1 : 1 < pl := by omega
  have B0 : (((w.alloc (.cells #[.int .i64 at', .int .i64 col] 83)).alloc (.cells #[.int .i64 5, .int .i64 pk, .int .i64 pn, .string px, .string ps, .string pm, .int .i64 pi, .slice (some ⟨b, off, none⟩) pl pc] 34)).alloc (.cells #[.string noW, .string noW] 81)).heap[w.heap.size]? = some (.cells #[.int .i64 at', .int .i64 col] 83) := block_alloc_of (block_alloc_of (block_alloc_at _ _) _) _
  have B1 : (((w.alloc (.cells #[.int .i64 at', .int .i64 col] 83)).alloc (.cells #[.int .i64 5, .int .i64 pk, .int .i64 pn, .string px, .string ps, .string pm, .int .i64 pi, .slice (some ⟨b, off, none⟩) pl pc] 34)).alloc (.cells #[.string noW, .string noW] 81)).heap[w.heap.size + 1]? = some (.cells #[.int .i64 5, .int .i64 pk, .int .i64 pn, .string px, .string ps, .string pm, .int .i64 pi, .slice (some ⟨b, off, none⟩) pl pc] 34) := block_alloc_of (block2 _ _ _) _
  have B2 : (((w.alloc (.cells #[.int .i64 at', .int .i64 col] 83)).alloc (.cells #[.int .i64 5, .int .i64 pk, .int .i64 pn, .string px, .string ps, .string pm, .int .i64 pi, .slice (some ⟨b, off, none⟩) pl pc] 34)).alloc (.cells #[.string noW, .string noW] 81)).heap[w.heap.size + 2]? = some (.cells #[.string noW, .string noW] 81) := block3 _ _ _ _
  have hb3 := bel3 w (.cells #[.int .i64 at', .int .i64 col] 83) (.cells #[.int .i64 5, .int .i64 pk, .int .i64 pn, .string px, .string ps, .string pm, .int .i64 pi, .slice (some ⟨b, off, none⟩) pl pc] 34) (.cells #[.string noW, .string noW] 81)
  generalize hW : ((w.alloc (.cells #[.int .i64 at', .int .i64 col] 83)).alloc (.cells #[.int .i64 5, .int .i64 pk, .int .i64 pn, .string px, .string ps, .string pm, .int .i64 pi, .slice (some ⟨b, off, none⟩) pl pc] 34)).alloc (.cells #[.string noW, .string noW] 81) = V at B0 B1 B2 hb3
  have HW : Hid _ := hW
  clear hW
  have cop := cell_of_block B1 (j := 0) (u := .int .i64 5) rfl
  have KS : Hid (∀ W, Below (w.heap.size + 2) V W → (W.cell? ⟨w.heap.size, 0, none⟩ = some (.int .i64 at') ∧ W.cell? ⟨w.heap.size, 1, none⟩ = some (.int .i64 col) ∧ W.cell? ⟨w.heap.size + 1, 0, none⟩ = some (.int .i64 5) ∧ W.cell? ⟨w.heap.size + 1, 7, none⟩ = some (.slice (some ⟨b, off, none⟩) pl pc) ∧ W.cell? ⟨b, off, none⟩ = some (.int .i64 qop) ∧ W.cell? ⟨b, off + 1, none⟩ = some (.int .i64 qk) ∧ W.cell? ⟨b, off + 2, none⟩ = some (.int .i64 qn) ∧ W.cell? ⟨b, off + 3, none⟩ = some (.string qx) ∧ W.cell? ⟨b, off + 4, none⟩ = some (.string qs) ∧ W.cell? ⟨b, off + 5, none⟩ = some (.string qm) ∧ W.cell? ⟨b, off + 6, none⟩ = some (.int .i64 qi) ∧ W.cell? ⟨b, off + 7, none⟩ = some (.slice qa ql qc) ∧ W.cell? ⟨b, off + 8, none⟩ = some (.int .i64 top) ∧ W.cell? ⟨b, off + 8 + 1, none⟩ = some (.int .i64 tk) ∧ W.cell? ⟨b, off + 8 + 2, none⟩ = some (.int .i64 tn) ∧ W.cell? ⟨b, off + 8 + 3, none⟩ = some (.string tx) ∧ W.cell? ⟨b, off + 8 + 4, none⟩ = some (.string ts) ∧ W.cell? ⟨b, off + 8 + 5, none⟩ = some (.string tm) ∧ W.cell? ⟨b, off + 8 + 6, none⟩ = some (.int .i64 ti) ∧ W.cell? ⟨b, off + 8 + 7, none⟩ = some (.slice ta tl tc))) := fun W hW => by
    have D0 := (hW.block _ (by omega)).trans B0
    have D1 := (hW.block _ (by omega)).trans B1
    have hbw : Below w.heap.size w W := hb3.trans (hW.mono (by omega))
    have kc : ∀ o, W.cell? ⟨b, o, none⟩ = w.cell? ⟨b, o, none⟩ := fun o => hbw.cell (p := ⟨b, o, none⟩) hb
    obtain ⟨x0, x1, x2, x3, x4, x5, x6, x7⟩ := h1
    obtain ⟨y0, y1, y2, y3, y4, y5, y6, y7⟩ := h2
    exact ⟨cell_of_block D0 (j := 0) rfl, cell_of_block D0 (j := 1) rfl, cell_of_block D1 (j := 0) rfl, cell_of_block D1 (j := 7) rfl, (kc _).trans x0, (kc _).trans x1, (kc _).trans x2, (kc _).trans x3, (kc _).trans x4, (kc _).trans x5, (kc _).trans x6, (kc _).trans x7, (kc _).trans y0, (kc _).trans y1, (kc _).trans y2, (kc _).trans y3, (kc _).trans y4, (kc _).trans y5, (kc _).trans y6, (kc _).trans y7⟩
  have lV : w.heap.size + 2 < V.heap.size := lt_of_block B2
  have HC := fun W (hW : Below V.heap.size V W) => HA W (bthen hb3 hW)
  have y0 := KS.out V.drew ((Below.refl _ V).drew)
  clear HA h1 h2 B0
  obtain ⟨lo1, hi1⟩ := s1
  simp only [Sp.val] at HC ⊢
  go_enter Tryz.func30, Tryz.ntmps30
  go_upto_region 14 with fail
  rw [HW.out]
  go_region_held3 (fun W => (W.cell? ⟨w.heap.size, 0, none⟩ = some (.int .i64 at') ∧ W.cell? ⟨w.heap.size, 1, none⟩ = some (.int .i64 col) ∧ W.cell? ⟨w.heap.size + 1, 0, none⟩ = some (.int .i64 5) ∧ W.cell? ⟨w.heap.size + 1, 7, none⟩ = some (.slice (some ⟨b, off, none⟩) pl pc) ∧ W.cell? ⟨b, off, none⟩ = some (.int .i64 qop) ∧ W.cell? ⟨b, off + 1, none⟩ = some (.int .i64 qk) ∧ W.cell? ⟨b, off + 2, none⟩ = some (.int .i64 qn) ∧ W.cell? ⟨b, off + 3, none⟩ = some (.string qx) ∧ W.cell? ⟨b, off + 4, none⟩ = some (.string qs) ∧ W.cell? ⟨b, off + 5, none⟩ = some (.string qm) ∧ W.cell? ⟨b, off + 6, none⟩ = some (.int .i64 qi) ∧ W.cell? ⟨b, off + 7, none⟩ = some (.slice qa ql qc) ∧ W.cell? ⟨b, off + 8, none⟩ = some (.int .i64 top) ∧ W.cell? ⟨b, off + 8 + 1, none⟩ = some (.int .i64 tk) ∧ W.cell? ⟨b, off + 8 + 2, none⟩ = some (.int .i64 tn) ∧ W.cell? ⟨b, off + 8 + 3, none⟩ = some (.string tx) ∧ W.cell? ⟨b, off + 8 + 4, none⟩ = some (.string ts) ∧ W.cell? ⟨b, off + 8 + 5, none⟩ = some (.string tm) ∧ W.cell? ⟨b, off + 8 + 6, none⟩ = some (.int .i64 ti) ∧ W.cell? ⟨b, off + 8 + 7, none⟩ = some (.slice ta tl tc)))
    (with_reducible first | exact y0 | exact y1 | exact KS.out _ ((zz.mono (Nat.le_of_lt lV)).setCell (Nat.le_refl _) _ |>.setCell (Nat.le_refl _) _))
    (first | (go_at_call 70; refine (HC _ ((Below.refl _ V).drew)).mono ?_; rintro e w1 ⟨rfl, hb1⟩; have zz : Below V.heap.size V w1 := bthen (Below.refl _ V).drew hb1; have y1 := KS.out _ (zz.mono (Nat.le_of_lt lV)); obtain ⟨r0, r1, r2, r3, r4⟩ := two_ready B2 zz))
  go_wp2
  exact end_two _ _ Tryz.results30 rfl rfl r0 (bthen hb3 zz) (by omega) Tryz.underlying81 (by kernel_rfl)

set_option maxRecDepth 100000 in
set_option maxHeartbeats 8000000 in
theorem where_cmp6 (at' col : Int) (pk pn : Int) (px ps pm : Wd) (pi : Int) (b off pc : Nat) (pl : Nat) (qop qk qn : Int) (qx qs qm : Wd) (qi : Int) (qa : Option Addr) (ql qc : Nat) (top tk tn : Int) (tx ts tm : Wd) (ti : Int) (ta : Option Addr) (tl tc : Nat) (yes : Bool) (s1 : Sp) (w : World) (hl : 2 ≤ pl) (hb : b < w.heap.size)
    (h1 : w.cell? ⟨b, off, none⟩ = some (.int .i64 qop) ∧ w.cell? ⟨b, off + 1, none⟩ = some (.int .i64 qk) ∧ w.cell? ⟨b, off + 2, none⟩ = some (.int .i64 qn) ∧ w.cell? ⟨b, off + 3, none⟩ = some (.string qx) ∧ w.cell? ⟨b, off + 4, none⟩ = some (.string qs) ∧ w.cell? ⟨b, off + 5, none⟩ = some (.string qm) ∧ w.cell? ⟨b, off + 6, none⟩ = some (.int .i64 qi) ∧ w.cell? ⟨b, off + 7, none⟩ = some (.slice qa ql qc)) (h2 : w.cell? ⟨b, off + 8, none⟩ = some (.int .i64 top) ∧ w.cell? ⟨b, off + 8 + 1, none⟩ = some (.int .i64 tk) ∧ w.cell? ⟨b, off + 8 + 2, none⟩ = some (.int .i64 tn) ∧ w.cell? ⟨b, off + 8 + 3, none⟩ = some (.string tx) ∧ w.cell? ⟨b, off + 8 + 4, none⟩ = some (.string ts) ∧ w.cell? ⟨b, off + 8 + 5, none⟩ = some (.string tm) ∧ w.cell? ⟨b, off + 8 + 6, none⟩ = some (.int .i64 ti) ∧ w.cell? ⟨b, off + 8 + 7, none⟩ = some (.slice ta tl tc))
    (HA : ∀ W, Below w.heap.size w W → Calls Tryz.prog 70 #[.agg #[.int .i64 at', .int .i64 col], .int .i64 6, .agg #[.int .i64 qop, .int .i64 qk, .int .i64 qn, .string qx, .string qs, .string qm, .int .i64 qi, .slice qa ql qc], .agg #[.int .i64 top, .int .i64 tk, .int .i64 tn, .string tx, .string ts, .string tm, .int .i64 ti, .slice ta tl tc], .bool yes] W fun e w' => e = .returned s1.val ∧ Below W.heap.size W w') :
    Calls Tryz.prog 30 #[.agg #[.int .i64 at', .int .i64 col], .agg #[.int .i64 6, .int .i64 pk, .int .i64 pn, .string px, .string ps, .string pm, .int .i64 pi, .slice (some ⟨b, off, none⟩) pl pc], .bool yes] w fun e w' => e = .returned s1.val ∧ Below w.heap.size w w' := by
  have l0 : (0 : Int) < (pl : Int) := by omega
  have n0 : 0 < pl := by omega
  have l1 : (1 : Int) < (pl : Int) := by omega
  have n1 : 1 < pl := by omega
  have B0 : (((w.alloc (.cells #[.int .i64 at', .int .i64 col] 83)).alloc (.cells #[.int .i64 6, .int .i64 pk, .int .i64 pn, .string px, .string ps, .string pm, .int .i64 pi, .slice (some ⟨b, off, none⟩) pl pc] 34)).alloc (.cells #[.string noW, .string noW] 81)).heap[w.heap.size]? = some (.cells #[.int .i64 at', .int .i64 col] 83) := block_alloc_of (block_alloc_of (block_alloc_at _ _) _) _
  have B1 : (((w.alloc (.cells #[.int .i64 at', .int .i64 col] 83)).alloc (.cells #[.int .i64 6, .int .i64 pk, .int .i64 pn, .string px, .string ps, .string pm, .int .i64 pi, .slice (some ⟨b, off, none⟩) pl pc] 34)).alloc (.cells #[.string noW, .string noW] 81)).heap[w.heap.size + 1]? = some (.cells #[.int .i64 6, .int .i64 pk, .int .i64 pn, .string px, .string ps, .string pm, .int .i64 pi, .slice (some ⟨b, off, none⟩) pl pc] 34) := block_alloc_of (block2 _ _ _) _
  have B2 : (((w.alloc (.cells #[.int .i64 at', .int .i64 col] 83)).alloc (.cells #[.int .i64 6, .int .i64 pk, .int .i64 pn, .string px, .string ps, .string pm, .int .i64 pi, .slice (some ⟨b, off, none⟩) pl pc] 34)).alloc (.cells #[.string noW, .string noW] 81)).heap[w.heap.size + 2]? = some (.cells #[.string noW, .string noW] 81) := block3 _ _ _ _
  have hb3 := bel3 w (.cells #[.int .i64 at', .int .i64 col] 83) (.cells #[.int .i64 6, .int .i64 pk, .int .i64 pn, .string px, .string ps, .string pm, .int .i64 pi, .slice (some ⟨b, off, none⟩) pl pc] 34) (.cells #[.string noW, .string noW] 81)
  generalize hW : ((w.alloc (.cells #[.int .i64 at', .int .i64 col] 83)).alloc (.cells #[.int .i64 6, .int .i64 pk, .int .i64 pn, .string px, .string ps, .string pm, .int .i64 pi, .slice (some ⟨b, off, none⟩) pl pc] 34)).alloc (.cells #[.string noW, .string noW] 81) = V at B0 B1 B2 hb3
  have HW : Hid _ := hW
  clear hW
  have cop := cell_of_block B1 (j := 0) (u := .int .i64 6) rfl
  have KS : Hid (∀ W, Below (w.heap.size + 2) V W → (W.cell? ⟨w.heap.size, 0, none⟩ = some (.int .i64 at') ∧ W.cell? ⟨w.heap.size, 1, none⟩ = some (.int .i64 col) ∧ W.cell? ⟨w.heap.size + 1, 0, none⟩ = some (.int .i64 6) ∧ W.cell? ⟨w.heap.size + 1, 7, none⟩ = some (.slice (some ⟨b, off, none⟩) pl pc) ∧ W.cell? ⟨b, off, none⟩ = some (.int .i64 qop) ∧ W.cell? ⟨b, off + 1, none⟩ = some (.int .i64 qk) ∧ W.cell? ⟨b, off + 2, none⟩ = some (.int .i64 qn) ∧ W.cell? ⟨b, off + 3, none⟩ = some (.string qx) ∧ W.cell? ⟨b, off + 4, none⟩ = some (.string qs) ∧ W.cell? ⟨b, off + 5, none⟩ = some (.string qm) ∧ W.cell? ⟨b, off + 6, none⟩ = some (.int .i64 qi) ∧ W.cell? ⟨b, off + 7, none⟩ = some (.slice qa ql qc) ∧ W.cell? ⟨b, off + 8, none⟩ = some (.int .i64 top) ∧ W.cell? ⟨b, off + 8 + 1, none⟩ = some (.int .i64 tk) ∧ W.cell? ⟨b, off + 8 + 2, none⟩ = some (.int .i64 tn) ∧ W.cell? ⟨b, off + 8 + 3, none⟩ = some (.string tx) ∧ W.cell? ⟨b, off + 8 + 4, none⟩ = some (.string ts) ∧ W.cell? ⟨b, off + 8 + 5, none⟩ = some (.string tm) ∧ W.cell? ⟨b, off + 8 + 6, none⟩ = some (.int .i64 ti) ∧ W.cell? ⟨b, off + 8 + 7, none⟩ = some (.slice ta tl tc))) := fun W hW => by
    have D0 := (hW.block _ (by omega)).trans B0
    have D1 := (hW.block _ (by omega)).trans B1
    have hbw : Below w.heap.size w W := hb3.trans (hW.mono (by omega))
    have kc : ∀ o, W.cell? ⟨b, o, none⟩ = w.cell? ⟨b, o, none⟩ := fun o => hbw.cell (p := ⟨b, o, none⟩) hb
    obtain ⟨x0, x1, x2, x3, x4, x5, x6, x7⟩ := h1
    obtain ⟨y0, y1, y2, y3, y4, y5, y6, y7⟩ := h2
    exact ⟨cell_of_block D0 (j := 0) rfl, cell_of_block D0 (j := 1) rfl, cell_of_block D1 (j := 0) rfl, cell_of_block D1 (j := 7) rfl, (kc _).trans x0, (kc _).trans x1, (kc _).trans x2, (kc _).trans x3, (kc _).trans x4, (kc _).trans x5, (kc _).trans x6, (kc _).trans x7, (kc _).trans y0, (kc _).trans y1, (kc _).trans y2, (kc _).trans y3, (kc _).trans y4, (kc _).trans y5, (kc _).trans y6, (kc _).trans y7⟩
  have lV : w.heap.size + 2 < V.heap.size := lt_of_block B2
  have HC := fun W (hW : Below V.heap.size V W) => HA W (bthen hb3 hW)
  have y0 := KS.out V.drew ((Below.refl _ V).drew)
  clear HA h1 h2 B0
  obtain ⟨lo1, hi1⟩ := s1
  simp only [Sp.val] at HC ⊢
  go_enter Tryz.func30, Tryz.ntmps30
  go_upto_region 14 with fail
  rw [HW.out]
  go_region_held3 (fun W => (W.cell? ⟨w.heap.size, 0, none⟩ = some (.int .i64 at') ∧ W.cell? ⟨w.heap.size, 1, none⟩ = some (.int .i64 col) ∧ W.cell? ⟨w.heap.size + 1, 0, none⟩ = some (.int .i64 6) ∧ W.cell? ⟨w.heap.size + 1, 7, none⟩ = some (.slice (some ⟨b, off, none⟩) pl pc) ∧ W.cell? ⟨b, off, none⟩ = some (.int .i64 qop) ∧ W.cell? ⟨b, off + 1, none⟩ = some (.int .i64 qk) ∧ W.cell? ⟨b, off + 2, none⟩ = some (.int .i64 qn) ∧ W.cell? ⟨b, off + 3, none⟩ = some (.string qx) ∧ W.cell? ⟨b, off + 4, none⟩ = some (.string qs) ∧ W.cell? ⟨b, off + 5, none⟩ = some (.string qm) ∧ W.cell? ⟨b, off + 6, none⟩ = some (.int .i64 qi) ∧ W.cell? ⟨b, off + 7, none⟩ = some (.slice qa ql qc) ∧ W.cell? ⟨b, off + 8, none⟩ = some (.int .i64 top) ∧ W.cell? ⟨b, off + 8 + 1, none⟩ = some (.int .i64 tk) ∧ W.cell? ⟨b, off + 8 + 2, none⟩ = some (.int .i64 tn) ∧ W.cell? ⟨b, off + 8 + 3, none⟩ = some (.string tx) ∧ W.cell? ⟨b, off + 8 + 4, none⟩ = some (.string ts) ∧ W.cell? ⟨b, off + 8 + 5, none⟩ = some (.string tm) ∧ W.cell? ⟨b, off + 8 + 6, none⟩ = some (.int .i64 ti) ∧ W.cell? ⟨b, off + 8 + 7, none⟩ = some (.slice ta tl tc)))
    (with_reducible first | exact y0 | exact y1 | exact KS.out _ ((zz.mono (Nat.le_of_lt lV)).setCell (Nat.le_refl _) _ |>.setCell (Nat.le_refl _) _))
    (first | (go_at_call 70; refine (HC _ ((Below.refl _ V).drew)).mono ?_; rintro e w1 ⟨rfl, hb1⟩; have zz : Below V.heap.size V w1 := bthen (Below.refl _ V).drew hb1; have y1 := KS.out _ (zz.mono (Nat.le_of_lt lV)); obtain ⟨r0, r1, r2, r3, r4⟩ := two_ready B2 zz))
  go_wp2
  exact end_two _ _ Tryz.results30 rfl rfl r0 (bthen hb3 zz) (by omega) Tryz.underlying81 (by kernel_rfl)

set_option maxRecDepth 100000 in
set_option maxHeartbeats 4000000 in
theorem where_lit (at' col : Int) (pk pn : Int) (px ps pm : Wd) (pi : Int) (pa : Option Addr) (pl pc : Nat) (yes : Bool) (w : World) :
    Calls Tryz.prog 30 #[.agg #[.int .i64 at', .int .i64 col], .agg #[.int .i64 1, .int .i64 pk, .int .i64 pn, .string px, .string ps, .string pm, .int .i64 pi, .slice pa pl pc], .bool yes] w fun e w' => e = .returned noS.val ∧ Below w.heap.size w w' := by
  simp only [Sp.val, noS]
  go_enter Tryz.func30, Tryz.ntmps30
  go_wp2
  exact bodyPost_ret (results_cell_row Tryz.results30 _ _ (w.heap.size + 2) 81 #[.string noW, .string noW] (0, 0) _ rfl (block3 w _ _ _) Tryz.underlying81 rfl (by kernel_rfl)) rfl ⟨rfl, bel3 w _ _ _⟩

set_option maxRecDepth 100000 in
set_option maxHeartbeats 4000000 in
theorem where_else (at' col : Int) (pop pk pn : Int) (px ps pm : Wd) (pi : Int) (pa : Option Addr) (pl pc : Nat) (yes : Bool) (w : World) (h1 : ¬ pop = 1) (h5 : ¬ pop = 5) (h6 : ¬ pop = 6) (h7 : ¬ pop = 7) (h8 : ¬ pop = 8) (h9 : ¬ pop = 9) (h10 : ¬ pop = 10) :
    Calls Tryz.prog 30 #[.agg #[.int .i64 at', .int .i64 col], .agg #[.int .i64 pop, .int .i64 pk, .int .i64 pn, .string px, .string ps, .string pm, .int .i64 pi, .slice pa pl pc], .bool yes] w fun e w' => e = .returned (begS noW).val ∧ Below w.heap.size w w' := by
  have H0 := begun0_any
  simp only [Sp.val, begS]
  generalize (noW ++ ffW : Wd) = f1 at H0
  have B2 : (((w.alloc (.cells #[.int .i64 at', .int .i64 col] 83)).alloc (.cells #[.int .i64 pop, .int .i64 pk, .int .i64 pn, .string px, .string ps, .string pm, .int .i64 pi, .slice pa pl pc] 34)).alloc (.cells #[.string noW, .string noW] 81)).heap[w.heap.size + 2]? = some (.cells #[.string noW, .string noW] 81) := block3 _ _ _ _
  have hb3 := bel3 w (.cells #[.int .i64 at', .int .i64 col] 83) (.cells #[.int .i64 pop, .int .i64 pk, .int .i64 pn, .string px, .string ps, .string pm, .int .i64 pi, .slice pa pl pc] 34) (.cells #[.string noW, .string noW] 81)
  go_enter Tryz.func30, Tryz.ntmps30
  go_wp2_with (go_at_call 54; go_must (go_fit (H0 _); rintro e w1 ⟨rfl, hb1⟩; obtain ⟨r0, r1, r2, r3, r4⟩ := two_ready B2 hb1))
  exact end_two _ _ Tryz.results30 rfl rfl r0 (bthen hb3 hb1) (by omega) Tryz.underlying81 (by kernel_rfl)

end Go.Proofs.YthehiijgnepcfaaGreat

namespace Go.Proofs.YthehiijgnepcfaaGreat
open Go.RowKit

/-- Places that are no greater than an int. -/
def refN : Nat → E → Prop
  | 0, _ => True
  | d + 1, .mk op _ _ _ n l => (op = 2 → n ≤ 9223372036854775807) ∧ ∀ a ∈ l, refN d a

theorem elem8_0 {F : Nat → Prop} {w : World} {ao : Option Addr} {k c : Nat} {l : List E} (h : IsEs F w (.slice ao k c) l) {op : Int} {x : V} {s name : Wd} {n : Int} {l' : List E} (hx : l[0]? = some (.mk op x s name n l')) :
    ∃ b off, ao = some ⟨b, off, none⟩ ∧ b < w.heap.size ∧ ∃ a8 k8 c8, IsE F w (.mk op x s name n l') (.agg (eArr op x s name n (.slice a8 k8 c8))) ∧ w.cell? ⟨b, off, none⟩ = some (.int .i64 op) ∧ w.cell? ⟨b, off + 1, none⟩ = some (.int .i64 x.k) ∧ w.cell? ⟨b, off + 2, none⟩ = some (.int .i64 x.n) ∧ w.cell? ⟨b, off + 3, none⟩ = some (.string x.s) ∧ w.cell? ⟨b, off + 4, none⟩ = some (.string s) ∧ w.cell? ⟨b, off + 5, none⟩ = some (.string name) ∧ w.cell? ⟨b, off + 6, none⟩ = some (.int .i64 n) ∧ w.cell? ⟨b, off + 7, none⟩ = some (.slice a8 k8 c8) := by
  obtain ⟨b, off, cs, h1, _, h2, hR, hc⟩ := isL_get (isEs_iff.2 h) hx
  obtain ⟨hl, hE⟩ := hR
  obtain ⟨sv, he, hEs⟩ := hE.open
  obtain ⟨a8, c8, rfl⟩ := hEs.shape
  have hcs : cs = (eArr op x s name n (.slice a8 l'.length c8)).toList := by
    have := congrArg Array.toList (Value.agg.inj he)
    simpa using this
  subst hcs
  refine ⟨b, off, h1, h2, a8, l'.length, c8, by simpa using hE, ?_⟩
  have g : ∀ j u, (eArr op x s name n (.slice a8 l'.length c8)).toList[j]? = some u → w.cell? ⟨b, off + 0 * 8 + j, none⟩ = some u := hc
  exact ⟨g 0 _ rfl, g 1 _ rfl, g 2 _ rfl, g 3 _ rfl, g 4 _ rfl, g 5 _ rfl, g 6 _ rfl, g 7 _ rfl⟩
theorem elem8_1 {F : Nat → Prop} {w : World} {ao : Option Addr} {k c : Nat} {l : List E} (h : IsEs F w (.slice ao k c) l) {op : Int} {x : V} {s name : Wd} {n : Int} {l' : List E} (hx : l[1]? = some (.mk op x s name n l')) :
    ∃ b off, ao = some ⟨b, off, none⟩ ∧ b < w.heap.size ∧ ∃ a8 k8 c8, IsE F w (.mk op x s name n l') (.agg (eArr op x s name n (.slice a8 k8 c8))) ∧ w.cell? ⟨b, off + 8, none⟩ = some (.int .i64 op) ∧ w.cell? ⟨b, off + 8 + 1, none⟩ = some (.int .i64 x.k) ∧ w.cell? ⟨b, off + 8 + 2, none⟩ = some (.int .i64 x.n) ∧ w.cell? ⟨b, off + 8 + 3, none⟩ = some (.string x.s) ∧ w.cell? ⟨b, off + 8 + 4, none⟩ = some (.string s) ∧ w.cell? ⟨b, off + 8 + 5, none⟩ = some (.string name) ∧ w.cell? ⟨b, off + 8 + 6, none⟩ = some (.int .i64 n) ∧ w.cell? ⟨b, off + 8 + 7, none⟩ = some (.slice a8 k8 c8) := by
  obtain ⟨b, off, cs, h1, _, h2, hR, hc⟩ := isL_get (isEs_iff.2 h) hx
  obtain ⟨hl, hE⟩ := hR
  obtain ⟨sv, he, hEs⟩ := hE.open
  obtain ⟨a8, c8, rfl⟩ := hEs.shape
  have hcs : cs = (eArr op x s name n (.slice a8 l'.length c8)).toList := by
    have := congrArg Array.toList (Value.agg.inj he)
    simpa using this
  subst hcs
  refine ⟨b, off, h1, h2, a8, l'.length, c8, by simpa using hE, ?_⟩
  have g : ∀ j u, (eArr op x s name n (.slice a8 l'.length c8)).toList[j]? = some u → w.cell? ⟨b, off + 1 * 8 + j, none⟩ = some u := hc
  exact ⟨g 0 _ rfl, g 1 _ rfl, g 2 _ rfl, g 3 _ rfl, g 4 _ rfl, g 5 _ rfl, g 6 _ rfl, g 7 _ rfl⟩
theorem leaf_ok {d : Nat} {op : Int} {x : V} {s name : Wd} {n : Int} {l : List E} (h : geB (d + 1) (.mk op x s name n l) = true) (hf : fitX (.mk op x s name n l)) (hr : refN (d + 1) (.mk op x s name n l)) : LeafOK op x n := by
  rw [fitX] at hf
  rw [refN] at hr
  refine ⟨fun h1 => ?_, hf.1, hr.1⟩
  subst h1
  simp only [geB, leafB, Bool.and_eq_true, if_true] at h
  exact h.1.2
theorem list_two {α : Type} : ∀ {l : List α}, l.length = 2 → ∃ a b, l = [a, b]
  | [a, b], _ => ⟨a, b, rfl⟩
theorem geB_pos {d : Nat} {e : E} (h : geB d e = true) : ∃ d', d = d' + 1 := by
  cases d with
  | zero => simp [geB] at h
  | succ d => exact ⟨d, rfl⟩

theorem where_any (at' col : Int) : ∀ (d : Nat) (e : E) (v : Value) (yes : Bool) (C : Nat) (w : World), IsE (fun k => k < C) w e v → C ≤ w.heap.size → geB d e = true → fitX e → refN d e →
    Calls Tryz.prog 30 #[.agg #[.int .i64 at', .int .i64 col], v, .bool yes] w fun r w' => r = .returned (whereS at' col d e yes).val ∧ Below w.heap.size w w' := by
  intro d
  induction d with
  | zero => intro e v yes C w _ _ h; simp [geB] at h
  | succ d ih =>
    intro e v yes C w he hC hg hf hr
    obtain ⟨op, x, s, name, n, l⟩ := e
    obtain ⟨sv, rfl, hEs⟩ := he.open
    obtain ⟨ao, c, rfl⟩ := hEs.shape
    obtain ⟨xk, xn, xs⟩ := x
    have hg' := hg
    simp only [geB, Bool.and_eq_true, decide_eq_true_eq, List.all_eq_true] at hg'
    obtain ⟨⟨hlen, hleaf⟩, hkids⟩ := hg'
    rw [fitX] at hf
    have hfl := hf.2.2.2
    rw [refN] at hr
    have IH : ∀ a ∈ l, ∀ va yes' W, Below w.heap.size w W → IsE (fun k => k < C) w a va → Calls Tryz.prog 30 #[.agg #[.int .i64 at', .int .i64 col], va, .bool yes'] W fun r w' => r = .returned (whereS at' col d a yes').val ∧ Below W.heap.size W w' :=
      fun a ha va yes' W hW hE => ih a va yes' C W (IsE.keep (keepsC (hW.mono hC)) _ _ hE) (Nat.le_trans hC hW.size) (hkids a ha) (fitXs_mem hfl ha) (hr.2 a ha)
    by_cases h9 : op = 9
    · subst h9
      have hl1 : l.length = 1 := by simp [argS] at hlen; omega
      obtain ⟨a, rfl⟩ := List.length_eq_one_iff.1 hl1
      obtain ⟨aop, ⟨ak, an, ax⟩, as1, am, ai, al⟩ := a
      obtain ⟨b, off, rfl, hb, a8, k8, c8, hE, hc⟩ := elem8_0 hEs rfl
      exact where_not at' col xk xn xs s name n b off c _ aop ak an ax as1 am ai a8 k8 c8 yes _ w (by simp) hb hc (fun W hW => IH _ (by simp) _ _ W hW hE)
    by_cases h7 : op = 7
    · subst h7
      have hl1 : l.length = 2 := by simp [argS] at hlen; omega
      obtain ⟨a, a', rfl⟩ := list_two hl1
      obtain ⟨aop, ⟨ak, an, ax⟩, as1, am, ai, al⟩ := a
      obtain ⟨bop, ⟨bk, bn, bx⟩, bs, bm, bi, bl⟩ := a'
      obtain ⟨b, off, rfl, hb, a8, k8, c8, hE, hc⟩ := elem8_0 hEs rfl
      obtain ⟨b', off', e', _, a9, k9, c9, hE', hc'⟩ := elem8_1 hEs rfl
      simp only [Option.some.injEq, Addr.mk.injEq, and_true] at e'
      obtain ⟨rfl, rfl⟩ := e'
      have := where_two7 at' col xk xn xs s name n b off c 2 aop ak an ax as1 am ai a8 k8 c8 bop bk bn bx bs bm bi a9 k9 c9 yes _ _ w (Nat.le_refl _) hb hc hc' (fun W hW => IH _ (by simp) _ _ W hW hE) (fun W hW => IH _ (by simp) _ _ W hW hE')
      have e2 : whereS at' col (d + 1) (.mk 7 ⟨xk, xn, xs⟩ s name n [.mk aop ⟨ak, an, ax⟩ as1 am ai al, .mk bop ⟨bk, bn, bx⟩ bs bm bi bl]) yes = if yes then (whereS at' col d (.mk aop ⟨ak, an, ax⟩ as1 am ai al) yes).both (whereS at' col d (.mk bop ⟨bk, bn, bx⟩ bs bm bi bl) yes) else (whereS at' col d (.mk aop ⟨ak, an, ax⟩ as1 am ai al) yes).either (whereS at' col d (.mk bop ⟨bk, bn, bx⟩ bs bm bi bl) yes) := by
        cases yes <;> simp [whereS]
      rw [e2]
      exact this
    by_cases h8 : op = 8
    · subst h8
      have hl1 : l.length = 2 := by simp [argS] at hlen; omega
      obtain ⟨a, a', rfl⟩ := list_two hl1
      obtain ⟨aop, ⟨ak, an, ax⟩, as1, am, ai, al⟩ := a
      obtain ⟨bop, ⟨bk, bn, bx⟩, bs, bm, bi, bl⟩ := a'
      obtain ⟨b, off, rfl, hb, a8, k8, c8, hE, hc⟩ := elem8_0 hEs rfl
      obtain ⟨b', off', e', _, a9, k9, c9, hE', hc'⟩ := elem8_1 hEs rfl
      simp only [Option.some.injEq, Addr.mk.injEq, and_true] at e'
      obtain ⟨rfl, rfl⟩ := e'
      have := where_two8 at' col xk xn xs s name n b off c 2 aop ak an ax as1 am ai a8 k8 c8 bop bk bn bx bs bm bi a9 k9 c9 yes _ _ w (Nat.le_refl _) hb hc hc' (fun W hW => IH _ (by simp) _ _ W hW hE) (fun W hW => IH _ (by simp) _ _ W hW hE')
      have e2 : whereS at' col (d + 1) (.mk 8 ⟨xk, xn, xs⟩ s name n [.mk aop ⟨ak, an, ax⟩ as1 am ai al, .mk bop ⟨bk, bn, bx⟩ bs bm bi bl]) yes = if yes then (whereS at' col d (.mk aop ⟨ak, an, ax⟩ as1 am ai al) yes).either (whereS at' col d (.mk bop ⟨bk, bn, bx⟩ bs bm bi bl) yes) else (whereS at' col d (.mk aop ⟨ak, an, ax⟩ as1 am ai al) yes).both (whereS at' col d (.mk bop ⟨bk, bn, bx⟩ bs bm bi bl) yes) := by
        cases yes <;> simp [whereS]
      rw [e2]
      exact this
    by_cases h10 : op = 10
    · subst h10
      have hl1 : l.length = 1 := by simp [argS] at hlen; omega
      obtain ⟨a, rfl⟩ := List.length_eq_one_iff.1 hl1
      obtain ⟨d', rfl⟩ := geB_pos (hkids a (by simp))
      obtain ⟨aop, ⟨ak, an, ax⟩, as1, am, ai, al⟩ := a
      have hok := leaf_ok (hkids (.mk aop ⟨ak, an, ax⟩ as1 am ai al) (by simp)) (fitXs_mem hfl (by simp)) (hr.2 _ (by simp))
      obtain ⟨b, off, rfl, hb, a8, k8, c8, hE, hc⟩ := elem8_0 hEs rfl
      exact where_is at' col xk xn xs s name n b off c _ aop ak an ax as1 am ai a8 k8 c8 yes _ w (by simp) hb hc (fun W _ => whereIs_any at' col aop ak an ax as1 am ai a8 k8 c8 yes W hok.2.2)
    by_cases h5 : op = 5
    · subst h5
      have hl1 : l.length = 2 := by simp [argS] at hlen; omega
      obtain ⟨a, a', rfl⟩ := list_two hl1
      obtain ⟨d', rfl⟩ := geB_pos (hkids a (by simp))
      obtain ⟨aop, ⟨ak, an, ax⟩, as1, am, ai, al⟩ := a
      obtain ⟨bop, ⟨bk, bn, bx⟩, bs, bm, bi, bl⟩ := a'
      have hok := leaf_ok (hkids (.mk aop ⟨ak, an, ax⟩ as1 am ai al) (by simp)) (fitXs_mem hfl (by simp)) (hr.2 _ (by simp))
      have hok' := leaf_ok (hkids (.mk bop ⟨bk, bn, bx⟩ bs bm bi bl) (by simp)) (fitXs_mem hfl (by simp)) (hr.2 _ (by simp))
      obtain ⟨b, off, rfl, hb, a8, k8, c8, hE, hc⟩ := elem8_0 hEs rfl
      obtain ⟨b', off', e', _, a9, k9, c9, hE', hc'⟩ := elem8_1 hEs rfl
      simp only [Option.some.injEq, Addr.mk.injEq, and_true] at e'
      obtain ⟨rfl, rfl⟩ := e'
      exact where_cmp5 at' col xk xn xs s name n b off c _ aop ak an ax as1 am ai a8 k8 c8 bop bk bn bx bs bm bi a9 k9 c9 yes _ w (by simp) hb hc hc' (fun W _ => whereCompared_any at' col 5 aop ak an ax as1 am ai a8 k8 c8 bop bk bn bx bs bm bi a9 k9 c9 yes W (.inl rfl) hok hok')
    by_cases h6 : op = 6
    · subst h6
      have hl1 : l.length = 2 := by simp [argS] at hlen; omega
      obtain ⟨a, a', rfl⟩ := list_two hl1
      obtain ⟨d', rfl⟩ := geB_pos (hkids a (by simp))
      obtain ⟨aop, ⟨ak, an, ax⟩, as1, am, ai, al⟩ := a
      obtain ⟨bop, ⟨bk, bn, bx⟩, bs, bm, bi, bl⟩ := a'
      have hok := leaf_ok (hkids (.mk aop ⟨ak, an, ax⟩ as1 am ai al) (by simp)) (fitXs_mem hfl (by simp)) (hr.2 _ (by simp))
      have hok' := leaf_ok (hkids (.mk bop ⟨bk, bn, bx⟩ bs bm bi bl) (by simp)) (fitXs_mem hfl (by simp)) (hr.2 _ (by simp))
      obtain ⟨b, off, rfl, hb, a8, k8, c8, hE, hc⟩ := elem8_0 hEs rfl
      obtain ⟨b', off', e', _, a9, k9, c9, hE', hc'⟩ := elem8_1 hEs rfl
      simp only [Option.some.injEq, Addr.mk.injEq, and_true] at e'
      obtain ⟨rfl, rfl⟩ := e'
      exact where_cmp6 at' col xk xn xs s name n b off c _ aop ak an ax as1 am ai a8 k8 c8 bop bk bn bx bs bm bi a9 k9 c9 yes _ w (by simp) hb hc hc' (fun W _ => whereCompared_any at' col 6 aop ak an ax as1 am ai a8 k8 c8 bop bk bn bx bs bm bi a9 k9 c9 yes W (.inr rfl) hok hok')
    by_cases h1 : op = 1
    · subst h1
      exact where_lit at' col xk xn xs s name n ao _ c yes w
    · have e2 : whereS at' col (d + 1) (.mk op ⟨xk, xn, xs⟩ s name n l) yes = begS noW := by simp [whereS, h1, h5, h6, h7, h8, h9, h10]
      rw [e2]
      exact where_else at' col op xk xn xs s name n ao _ c yes w h1 h5 h6 h7 h8 h9 h10

end Go.Proofs.YthehiijgnepcfaaGreat

namespace Go.Proofs.YthehiijgnepcfaaGreat
open Go.RowKit

theorem equal_sp (a b c d : Wd) (w : World) : (Op.equalIn 10000 81 (.agg #[.string a, .string b]) (.agg #[.string c, .string d])).run Tryz.prog w = .ok (decide (a = c ∧ b = d)) w := by
  have u3 := Tryz.underlying9
  have a3 := Tryz.isAgg9
  have z3 := Tryz.sizeOf9
  have hS : Tryz.prog.underlying 81 = some (.struct (Tryz.prog.fieldsOf 81)) := by kernel_rfl
  have hp : Tryz.prog.stoodInHeld 81 = false := by kernel_rfl
  rw [show (10000 : Nat) = 9999 + 1 from rfl, run_equalIn_agg w 9999 81 _ _ hS hp]
  simp only [Program.fieldsOf, Tryz.underlying81]
  go_simp
  by_cases h1 : a = c
  · by_cases h2 : b = d
    · simp [h1, h2]
    · have h3 : ¬ b.toList = d.toList := by
        have := beq_str b d
        rw [decide_eq_false h2, beq_eq_false_iff_ne] at this
        exact this
      simp [h1, h2, h3]
  · have h3 : ¬ a.toList = c.toList := by
      have := beq_str a c
      rw [decide_eq_false h1, beq_eq_false_iff_ne] at this
      exact this
    simp [h1, h3]
theorem eq_sp (a b c d : Wd) (w : World) : (binOp .eql 81 (.agg #[.string a, .string b]) (.agg #[.string c, .string d])).run Tryz.prog w = .ok (.bool (decide (a = c ∧ b = d))) w := by
  rw [run_eql_struct, equal_sp]; rfl
theorem neq_sp (a b c d : Wd) (w : World) : (binOp .neq 81 (.agg #[.string a, .string b]) (.agg #[.string c, .string d])).run Tryz.prog w = .ok (.bool (!decide (a = c ∧ b = d))) w := by
  rw [run_neq_struct, equal_sp]; rfl
/-- What Values answers, of how many alone. -/
theorem valuesLen_any (s : Wd) (w : World) (hs : s.size ≤ 1000000) : Calls Tryz.prog 27 #[.string s] w fun e w' => ∃ ao c m, e = .returned (.tuple #[.slice ao (lenV (vals s.data.toList)) c, .int .i64 m]) ∧ Below w.heap.size w w' := by
  refine (values_any s w (by omega)).mono ?_
  rintro e w' ⟨h, hb⟩
  unfold ValuesSays at h
  cases hv : vals s.data.toList with
  | none => rw [hv] at h; exact ⟨none, 0, 1, h, hb⟩
  | some L =>
    rw [hv] at h
    obtain ⟨lv, rfl, hown⟩ := h
    obtain ⟨ao, c, rfl⟩ := IsRow.shape (IsRow.of_own hown)
    exact ⟨ao, c, 0, rfl, hb⟩

set_option maxRecDepth 100000 in
set_option maxHeartbeats 4000000 in
theorem rank_any (s : Sp) (w : World) (hs : s.lo.size ≤ 1000000) : Calls Tryz.prog 35 #[s.val] w fun e w' => e = .returned (.int .i64 s.rank) ∧ Below w.heap.size w w' := by
  have HV := fun W => valuesLen_any s.lo W hs
  have HE := fun W => spEmpty_any s W
  have HB := fun W => begun_any s.lo W (by omega)
  have H0 := fun W => begun_any noW W (by decide)
  have E : Hid (s.rank = if s.empty then 0 else if lenV (vals s.lo.data.toList) = 1 ∧ s.hi = s.lo ++ ffW then 1 else if s.lo = noW ∧ s.hi = ffW then 3 else 2) := rfl
  generalize s.rank = r at E
  generalize s.empty = em at HE E
  generalize hln : lenV (vals s.lo.data.toList) = ln at HV E
  clear hln
  obtain ⟨lo, hi⟩ := s
  simp only at HV HB E hs
  simp only [Sp.val] at HE ⊢
  have Q1 := fun W => eq_sp lo hi lo (lo ++ ⟨#[255]⟩) W
  have Q2 := fun W => neq_sp lo hi noW (noW ++ ⟨#[255]⟩) W
  have E2 : Hid (r = if em then 0 else if decide (ln = 1) && decide (lo = lo ∧ hi = lo ++ ⟨#[255]⟩) then 1 else if decide (lo = noW ∧ hi = noW ++ ⟨#[255]⟩) then 3 else 2) := by
    show _ = _
    rw [E.out]
    have e1 : (noW ++ ⟨#[255]⟩ : Wd) = ffW := rfl
    have e2 : (⟨#[255]⟩ : Wd) = ffW := rfl
    rw [e1, e2]
    cases em
    · simp only [Bool.false_eq_true, if_false, Bool.and_eq_true, decide_eq_true_eq, true_and]
    · rfl
  clear E
  generalize decide (lo = lo ∧ hi = lo ++ ⟨#[255]⟩) = q1 at Q1 E2
  generalize decide (lo = noW ∧ hi = noW ++ ⟨#[255]⟩) = q2 at Q2 E2
  have B := block_alloc_at w (.cells #[.string lo, .string hi] 81)
  have hb0 := bel1 w (.cells #[.string lo, .string hi] 81)
  generalize hW : w.alloc (.cells #[.string lo, .string hi] 81) = V at B hb0
  have HW : Hid _ := hW
  clear hW
  have KS : Hid (∀ W, Below V.heap.size V W → W.cell? ⟨w.heap.size, 0, none⟩ = some (.string lo) ∧ W.cell? ⟨w.heap.size, 1, none⟩ = some (.string hi)) := fun W hW => by
    have D := (hW.block _ (lt_of_block B)).trans B
    exact ⟨cell_of_block D (j := 0) rfl, cell_of_block D (j := 1) rfl⟩
  obtain ⟨a0, a1⟩ := KS.out V (Below.refl _ _)
  cases em
  rotate_left
  · go_enter Tryz.func35, Tryz.ntmps35
    go_upto_region 1 with fail
    rw [HW.out]
    go_wp2_with (first
      | (go_at_call 27; go_must (go_fit (HV _); rintro e w1 ⟨vo, vc, vm, rfl, hb1⟩; obtain ⟨b0, b1⟩ := KS.out _ hb1))
      | (go_at_call 72; go_must (go_fit (HE _); rintro e w2 ⟨rfl, hb2⟩)))
    go_ret
    exact ⟨ret_int (by rw [E2.out]; rfl), bthen hb0 (bthen hb1 hb2)⟩
  by_cases h1 : ln = 1
  · subst h1
    go_enter Tryz.func35, Tryz.ntmps35
    go_upto_region 1 with fail
    rw [HW.out]
    go_upto_region 4 with (first
      | (go_at_call 27; go_must (go_fit (HV _); rintro e w1 ⟨vo, vc, vm, rfl, hb1⟩; obtain ⟨b0, b1⟩ := KS.out _ hb1))
      | (go_at_call 72; go_must (go_fit (HE _); rintro e w2 ⟨rfl, hb2⟩; have z2 : Below V.heap.size V w2 := bthen hb1 hb2; obtain ⟨c0, c1⟩ := KS.out _ z2)))
    go_region_held3 (fun W => W.cell? ⟨w.heap.size, 0, none⟩ = some (.string lo) ∧ W.cell? ⟨w.heap.size, 1, none⟩ = some (.string hi))
      (with_reducible first | exact KS.out _ (z2.drew) | exact KS.out _ z3)
      (first | (go_at_call 54; refine (HB _).mono ?_; rintro e w3 ⟨rfl, hb3⟩; have z3 : Below V.heap.size V w3 := z2.drew.trans (hb3.mono z2.size)))
    cases q1
    · go_upto_region 6 with fail
      go_region_held3 (fun W => W.cell? ⟨w.heap.size, 0, none⟩ = some (.string lo) ∧ W.cell? ⟨w.heap.size, 1, none⟩ = some (.string hi))
      (with_reducible first | exact KS.out _ (z3.drew) | exact KS.out _ z4)
      (first | (go_at_call 54; refine (H0 _).mono ?_; rintro e w4 ⟨rfl, hb4⟩; have z4 : Below V.heap.size V w4 := z3.drew.trans (hb4.mono z3.size)))
      cases q2
      · go_wp2
        go_ret
        exact ⟨ret_int (by rw [E2.out]; first | rfl | simp_all), bthen hb0 z4⟩
      · go_wp2
        go_ret
        exact ⟨ret_int (by rw [E2.out]; first | rfl | simp_all), bthen hb0 z4⟩
    · go_wp2
      go_ret
      exact ⟨ret_int (by rw [E2.out]; rfl), bthen hb0 z3⟩
  · have v1 : ¬ (ln : Int) = 1 := by omega
    go_enter Tryz.func35, Tryz.ntmps35
    go_upto_region 1 with fail
    rw [HW.out]
    go_upto_region 4 with (first
      | (go_at_call 27; go_must (go_fit (HV _); rintro e w1 ⟨vo, vc, vm, rfl, hb1⟩; obtain ⟨b0, b1⟩ := KS.out _ hb1))
      | (go_at_call 72; go_must (go_fit (HE _); rintro e w2 ⟨rfl, hb2⟩; have z2 : Below V.heap.size V w2 := bthen hb1 hb2; obtain ⟨c0, c1⟩ := KS.out _ z2)))
    go_quiet (fail)
    · go_upto_region 6 with fail
      go_region_held3 (fun W => W.cell? ⟨w.heap.size, 0, none⟩ = some (.string lo) ∧ W.cell? ⟨w.heap.size, 1, none⟩ = some (.string hi))
      (with_reducible first | exact KS.out _ (below_drewN z2 _) | exact KS.out _ (below_drewN z2 _).drew | exact KS.out _ z4)
      (first | (go_at_call 54; refine (H0 _).mono ?_; rintro e w4 ⟨rfl, hb4⟩; have z4 : Below V.heap.size V w4 := (by first | exact (below_drewN z2 _).trans (hb4.mono z2.size) | exact (below_drewN z2 _).drew.trans (hb4.mono z2.size))))
      cases q2
      · go_wp2
        go_ret
        exact ⟨ret_int (by rw [E2.out]; first | rfl | simp_all), bthen hb0 z4⟩
      · go_wp2
        go_ret
        exact ⟨ret_int (by rw [E2.out]; first | rfl | simp_all), bthen hb0 z4⟩

end Go.Proofs.YthehiijgnepcfaaGreat

namespace Go.Proofs.YthehiijgnepcfaaGreat
open Go.RowKit Go.Maps

/-- A way: by which index, from where, up to where. -/
structure Wy where
  x : Wd
  lo : Wd
  hi : Wd
/-- One more index looked at. -/
def chooseStep (at' : Int) (e : E) (t : TabD) (p : Sp × Wy) (x : IdxD) : Sp × Wy :=
  if idxAt t x < 0 then p
  else if (whereS at' (idxAt t x) 40 e true).rank < p.1.rank then (whereS at' (idxAt t x) 40 e true, ⟨x.name, ibeg x.name ++ (whereS at' (idxAt t x) 40 e true).lo, ibeg x.name ++ (whereS at' (idxAt t x) 40 e true).hi⟩)
  else p
def chooseBeg (at' : Int) (e : E) (t : TabD) : Sp × Wy := (whereS at' 0 40 e true, ⟨noW, rbeg t.name ++ (whereS at' 0 40 e true).lo, rbeg t.name ++ (whereS at' 0 40 e true).hi⟩)
/-- P6.2: the way that is chosen. -/
def chooseS (ct : CatD) (t : TabD) (at' : Int) (e : E) : Wy :=
  if geB 40 e then ((if catB ct then ct.indexes else []).foldl (chooseStep at' e t) (chooseBeg at' e t)).2
  else ⟨noW, allLo t.name, allHi t.name⟩

set_option maxHeartbeats 1000000 in
theorem planIndexes_any (ct : CatD) (to1 : Option Addr) (tl1 tc1 : Nat) (io : Option Addr) (il ic : Nat) (C : Nat) (w : World) (hc : IsCat (fun k => k < C) w ct (.agg #[.slice to1 tl1 tc1, .slice io il ic])) (hC : C ≤ w.heap.size) (hf : fitCat ct) :
    Calls Tryz.prog 33 #[.agg #[.slice to1 tl1 tc1, .slice io il ic]] w fun e w' => e = .returned (if catB ct then .slice io il ic else .slice none 0 0) ∧ Below w.heap.size w w' := by
  have B := block_alloc_at w (.cells #[.slice to1 tl1 tc1, .slice io il ic] 25)
  have hb0 := bel1 w (.cells #[.slice to1 tl1 tc1, .slice io il ic] 25)
  have HG := good_cat ct _ C (w.alloc (.cells #[.slice to1 tl1 tc1, .slice io il ic] 25)) (hc.keep (keepsC (hb0.mono hC))) (Nat.le_trans hC hb0.size) hf
  generalize catB ct = g at HG
  generalize hW : w.alloc (.cells #[.slice to1 tl1 tc1, .slice io il ic] 25) = V at B hb0 HG
  have HW : Hid _ := hW
  clear hW hc
  have a0 := cell_of_block B (j := 0) (u := .slice to1 tl1 tc1) rfl
  have a1 := cell_of_block B (j := 1) (u := .slice io il ic) rfl
  cases g
  · go_enter Tryz.func33, Tryz.ntmps33
    go_upto_region 1 with fail
    rw [HW.out]
    go_wp2_with (go_at_call 13; go_must (go_fit HG; rintro e w1 ⟨rfl, hb1⟩))
    go_ret
    exact ⟨rfl, bthen hb0 hb1⟩
  · go_enter Tryz.func33, Tryz.ntmps33
    go_upto_region 1 with fail
    rw [HW.out]
    go_wp2_with (go_at_call 13; go_must (go_fit HG; rintro e w1 ⟨rfl, hb1⟩; have b1 := cell_of_block ((hb1.block _ (lt_of_block B)).trans B) (j := 1) (u := .slice io il ic) rfl))
    go_ret
    exact ⟨rfl, bthen hb0 hb1⟩

set_option maxRecDepth 100000 in
set_option maxHeartbeats 4000000 in
theorem choose_no (t : TabD) (at' : Int) (eop ek en : Int) (ex es em : Wd) (ei : Int) (ea : Option Addr) (el ec : Nat) (e0 : E) (to1 : Option Addr) (tl1 tc1 : Nat) (io : Option Addr) (il ic : Nat) (co : Option Addr) (cc : Nat) (C : Nat) (w : World) (he : IsE (fun k => k < C) w e0 (.agg #[.int .i64 eop, .int .i64 ek, .int .i64 en, .string ex, .string es, .string em, .int .i64 ei, .slice ea el ec])) (hC : C ≤ w.heap.size) (hx : fitX e0) (hg : geB 40 e0 = false) (ht : t.name.size ≤ 100000) :
    Calls Tryz.prog 9 #[.agg #[.slice to1 tl1 tc1, .slice io il ic], .agg #[.string t.name, .slice co t.cols.length cc], .int .i64 at', .agg #[.int .i64 eop, .int .i64 ek, .int .i64 en, .string ex, .string es, .string em, .int .i64 ei, .slice ea el ec]] w fun e w' => e = .returned (wayV noW (allLo t.name) (allHi t.name)) ∧ Below w.heap.size w w' := by
  have B0 : ((((w.alloc (.cells #[.slice to1 tl1 tc1, .slice io il ic] 25)).alloc (.cells #[.string t.name, .slice co t.cols.length cc] 43)).alloc (.cells #[.int .i64 eop, .int .i64 ek, .int .i64 en, .string ex, .string es, .string em, .int .i64 ei, .slice ea el ec] 34)).alloc (.cells #[.string noW, .string noW, .string noW] 53)).heap[w.heap.size]? = some (.cells #[.slice to1 tl1 tc1, .slice io il ic] 25) := block_alloc_of (block_alloc_of (block_alloc_of (block_alloc_at _ _) _) _) _
  have B1 : ((((w.alloc (.cells #[.slice to1 tl1 tc1, .slice io il ic] 25)).alloc (.cells #[.string t.name, .slice co t.cols.length cc] 43)).alloc (.cells #[.int .i64 eop, .int .i64 ek, .int .i64 en, .string ex, .string es, .string em, .int .i64 ei, .slice ea el ec] 34)).alloc (.cells #[.string noW, .string noW, .string noW] 53)).heap[w.heap.size + 1]? = some (.cells #[.string t.name, .slice co t.cols.length cc] 43) := block_alloc_of (block_alloc_of (block2 _ _ _) _) _
  have B2 : ((((w.alloc (.cells #[.slice to1 tl1 tc1, .slice io il ic] 25)).alloc (.cells #[.string t.name, .slice co t.cols.length cc] 43)).alloc (.cells #[.int .i64 eop, .int .i64 ek, .int .i64 en, .string ex, .string es, .string em, .int .i64 ei, .slice ea el ec] 34)).alloc (.cells #[.string noW, .string noW, .string noW] 53)).heap[w.heap.size + 2]? = some (.cells #[.int .i64 eop, .int .i64 ek, .int .i64 en, .string ex, .string es, .string em, .int .i64 ei, .slice ea el ec] 34) := block_alloc_of (block3 _ _ _ _) _
  have B3 : ((((w.alloc (.cells #[.slice to1 tl1 tc1, .slice io il ic] 25)).alloc (.cells #[.string t.name, .slice co t.cols.length cc] 43)).alloc (.cells #[.int .i64 eop, .int .i64 ek, .int .i64 en, .string ex, .string es, .string em, .int .i64 ei, .slice ea el ec] 34)).alloc (.cells #[.string noW, .string noW, .string noW] 53)).heap[w.heap.size + 3]? = some (.cells #[.string noW, .string noW, .string noW] 53) := block4 _ _ _ _ _
  have hbW := bel4 w (.cells #[.slice to1 tl1 tc1, .slice io il ic] 25) (.cells #[.string t.name, .slice co t.cols.length cc] 43) (.cells #[.int .i64 eop, .int .i64 ek, .int .i64 en, .string ex, .string es, .string em, .int .i64 ei, .slice ea el ec] 34) (.cells #[.string noW, .string noW, .string noW] 53)
  generalize hW : (((w.alloc (.cells #[.slice to1 tl1 tc1, .slice io il ic] 25)).alloc (.cells #[.string t.name, .slice co t.cols.length cc] 43)).alloc (.cells #[.int .i64 eop, .int .i64 ek, .int .i64 en, .string ex, .string es, .string em, .int .i64 ei, .slice ea el ec] 34)).alloc (.cells #[.string noW, .string noW, .string noW] 53) = V at B0 B1 B2 B3 hbW
  have HW : Hid _ := hW
  clear hW
  have HG := fun W (hW : Below V.heap.size V W) => goodExpr_any 40 (Nat.le_refl _) e0 (.agg #[.int .i64 eop, .int .i64 ek, .int .i64 en, .string ex, .string es, .string em, .int .i64 ei, .slice ea el ec]) C W (IsE.keep (keepsC ((bthen hbW hW).mono hC)) _ _ he) (Nat.le_trans hC (bthen hbW hW).size) hx
  rw [hg] at HG
  have HG1 := HG V (Below.refl _ _)
  have HA := fun W => all_any t.name W ht
  generalize allLo t.name = lo at HA ⊢
  generalize allHi t.name = hi at HA ⊢
  unfold wayV at HA ⊢
  have a0 := cell_of_block B2 (j := 0) (u := .int .i64 eop) rfl
  have a1 := cell_of_block B2 (j := 1) (u := .int .i64 ek) rfl
  have a2 := cell_of_block B2 (j := 2) (u := .int .i64 en) rfl
  have a3 := cell_of_block B2 (j := 3) (u := .string ex) rfl
  have a4 := cell_of_block B2 (j := 4) (u := .string es) rfl
  have a5 := cell_of_block B2 (j := 5) (u := .string em) rfl
  have a6 := cell_of_block B2 (j := 6) (u := .int .i64 ei) rfl
  have a7 := cell_of_block B2 (j := 7) (u := .slice ea el ec) rfl
  have n0 := cell_of_block B1 (j := 0) (u := .string t.name) rfl
  clear HG
  go_enter Tryz.func9, Tryz.ntmps9
  go_upto_region 1 with fail
  rw [HW.out]
  go_wp2_with (first
    | (go_at_call 29; go_must (go_fit HG1; rintro e w1 ⟨rfl, hb1⟩; have m0 := cell_of_block ((hb1.block _ (lt_of_block B1)).trans B1) (j := 0) (u := .string t.name) rfl))
    | (go_at_call 17; go_must (go_fit (HA _); rintro e w2 ⟨rfl, hb2⟩; have D3 := ((bthen hb1 hb2).block _ (lt_of_block B3)).trans B3; have r0 := cell_of_block D3 (j := 0) (u := .string noW) rfl; have r1 := cell_of_block D3 (j := 1) (u := .string noW) rfl; have r2 := cell_of_block D3 (j := 2) (u := .string noW) rfl; have f0 : w2.frozen? ⟨w.heap.size + 3, 0, none⟩ = false := (by simp [World.frozen?, D3]); have f1 : w2.frozen? ⟨w.heap.size + 3, 1, none⟩ = false := (by simp [World.frozen?, D3]); have f2 : w2.frozen? ⟨w.heap.size + 3, 2, none⟩ = false := (by simp [World.frozen?, D3]))))
  exact end_three _ _ _ Tryz.results9 rfl rfl D3 (bthen hbW (bthen hb1 hb2)) (by omega) Tryz.underlying53 (by kernel_rfl)

end Go.Proofs.YthehiijgnepcfaaGreat

