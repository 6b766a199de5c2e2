/-
  3 texts of this proof in one, in build order: PPut, PRows, TTrees.
-/
import Derived.Test.YtkncamggdfmlnaaGreatDoorJ14
import Derived.Test.YtkncamggdfmlnaaGreatDoorJ16
namespace Go.Proofs.YtkncamggdfmlnaaGreatDoor
open Go.RowKit

set_option maxRecDepth 100000 in
set_option maxHeartbeats 4000000 in
theorem putRow_any (I : List IdxD) (t : TabD) (r : List V) (T : List Pg) (pv tv iv sv rv : Value) (C : Nat) (w : World) (hp : IsTree w pv T) (hg : GoodT T) (hT : T.length ≤ 1000000) (htv : IsSl tv)
    (hi : IsL kIdx (fun k => k < C) w iv I) (hl : IsL kCol (fun k => k < C) w sv t.cols) (hC : C ≤ w.heap.size) (hr : IsVals w rv r) (hrl : r.length = t.cols.length) (h0 : 0 < r.length) (hr4 : r.length ≤ 1000000) (hs : ∀ v ∈ r, v.s.size ≤ maxLen) (hin : ∀ x ∈ I, x.name.size ≤ 1000000) (htn : t.name.size ≤ 1000000) (hn : I.length ≤ 1000000) :
    Calls Tryz.prog 14 #[pv, .agg #[tv, iv], .agg #[.string t.name, sv], rv] w fun e w' => TreeAns w w' e (putRow (flat T) I t r) (T.length + 1 + I.length) := by
  obtain ⟨to', tn, tc, rfl⟩ := htv
  obtain ⟨psv, rfl, hpp⟩ := hp
  obtain ⟨po, pc, rfl⟩ := pages_shape hpp
  have hIK := fun W (h : Below w.heap.size w W) => indexKeys_any I t r (.slice to' tn tc) iv sv rv C W (isSl _ _ _) (hi.keep (keepsC (h.mono hC))) (hl.keep (keepsC (h.mono hC))) (Nat.le_trans hC h.size) (hr.below h) hrl h0 hs hin hn
  obtain ⟨io, ic, rfl⟩ := hi.shape
  obtain ⟨so, sc, rfl⟩ := hl.shape
  rcases hr with ⟨_, rfl⟩ | ⟨rb, ro, rcap, rfl, hrb, hR⟩
  · simp at h0
  have st := trSt_start (.slice to' tn tc) (.slice io I.length ic) (.string t.name) (.slice so t.cols.length sc) hpp hg
  generalize hW : (((w.alloc (.cells #[.slice po T.length pc] 52)).alloc (.cells #[.slice to' tn tc, .slice io I.length ic] 25)).alloc (.cells #[.string t.name, .slice so t.cols.length sc] 28)).alloc (.cells #[.slice none 0 0] 52) = W4 at st
  have HW : Hid _ := hW
  clear hW hi hl
  have e0 := cell_of_block st.tab (j := 0) rfl
  have e1 := cell_of_block st.tab (j := 1) rfl
  have HF := planFits_any t.name so t.cols.length sc (some ⟨rb, ro, none⟩) r.length rcap W4
  rw [show (decide (0 < r.length) && decide (r.length = t.cols.length)) = true by rw [decide_eq_true h0, decide_eq_true hrl]; rfl] at HF
  obtain ⟨u, hu⟩ : ∃ u, r[0]? = some u := ⟨_, List.getElem?_eq_getElem h0⟩
  have hhd : r.headD zero = u := by rw [List.headD_eq_head?_getD, List.head?_eq_getElem?, hu]; rfl
  have HR := fun W => rowKey_any t.name u W htn (hs u (List.mem_of_getElem? hu))
  rw [show rkey t.name u = rk t r by rw [rk, hhd]] at HR
  obtain ⟨f0, f1, f2⟩ := hR 0 u hu
  simp only [Nat.zero_mul, Nat.add_zero] at f0 f1 f2
  have HS : Hid _ := hs
  have HIK : Hid _ := hIK
  have p2 : (0 : Int) < (r.length : Int) := by omega
  have hrl2 : Hid _ := hrl
  clear hs hIK hu hhd hrl
  obtain ⟨uk, un, us⟩ := u
  simp only [V.val] at HR
  simp only at f0 f1 f2
  go_enter Tryz.func14, Tryz.ntmps14
  go_upto_region 1 with fail
  rw [HW.out]
  go_wp2_with (go_at_call 26; go_fit HF; rintro e w1 ⟨rfl, hb1⟩)
  have st1 := st.below hb1
  have hbw1 := st1.bel
  have KS : Hid _ := fun W (h : Below w1.heap.size w1 W) => put_cells (W := W) (show W.cell? ⟨w.heap.size + 2, 0, none⟩ = some (.string t.name) from cell_of_block (st1.below h).tab (j := 0) rfl) (((hbw1.trans (h.mono hbw1.size)).cell (p := ⟨rb, ro, none⟩) hrb).trans f0) (((hbw1.trans (h.mono hbw1.size)).cell (p := ⟨rb, ro + 1, none⟩) hrb).trans f1) (((hbw1.trans (h.mono hbw1.size)).cell (p := ⟨rb, ro + 2, none⟩) hrb).trans f2)
  have KT : Hid _ := fun W (h : Below w1.heap.size w1 W) (x : Value) => put_cells_set (W := W) (g := w.heap.size) (x := x) (KS.out W h) (show w.heap.size + 2 ≠ w.heap.size by omega) (show rb ≠ w.heap.size by omega)
  have q0 := cell_of_block st1.blk (j := 0) rfl
  have HK := fun W (h : Below w1.heap.size w1 W) => pkeyOf_any r (.slice (some ⟨rb, ro, none⟩) r.length rcap) W (.inr ⟨rb, ro, rcap, rfl, Nat.lt_of_lt_of_le hrb (hbw1.trans (h.mono hbw1.size)).size, hR.below (hbw1.trans (h.mono hbw1.size)) hrb⟩) (by omega) HS.out
  have HP := fun W (h : Below w1.heap.size w1 W) => put_any T (.agg #[.slice po T.length pc]) (rk t r) (str (keyAns r).1) W ⟨_, rfl, st1.pgs.below h⟩ hg (by omega)
  have EF : Hid (putRow (flat T) I t r = putsE (putF (flat T) (rk t r) (str (keyAns r).1)) (iks I t r)) := rfl
  go_cut [4] from 16 (fun s4 wx => s4 = .pointer (some ⟨w.heap.size, 0, none⟩) ∧ ∃ ao k c T1, TrSt w #[.slice to' tn tc, .slice io I.length ic] #[.string t.name, .slice so t.cols.length sc] (putF (flat T) (rk t r) (str (keyAns r).1)) (T.length + 1) ao k c T1 wx)
  case first =>
    refine wp_region_held_drew (S := (fun W => W.cell? ⟨w.heap.size + 2, 0, none⟩ = some (.string t.name) ∧ W.cell? ⟨rb, ro, none⟩ = some (.int .i64 uk) ∧ W.cell? ⟨rb, ro + 1, none⟩ = some (.int .i64 un) ∧ W.cell? ⟨rb, ro + 2, none⟩ = some (.string us))) (by kernel_rfl) ?_ (fun hHeld => ?_)
    · exact KS.out _ (Below.refl _ _).drew
    refine wpAnyH_take (i := 1) (oi := { dst := some 17, op := Go.Op.fieldAddr 28 (Go.Operand.tmp 6) 0, type := 0, pos := "plan.go:100", after := #[], guard := none }) (v := ?_) rfl (by kernel_rfl) (by kernel_rfl) (by kernel_rfl) (fun _ _ _ h => h) (Or.inl ⟨by rfl, ?_⟩) (by assumption) ?_
    rotate_left
    · intro w hSw; (try dsimp only at hSw); go_simp; all_goals (with_reducible rfl)
    try simp only [Act.put, List.setIfInBounds_toArray, List.set_cons_zero, List.set_cons_succ]
    refine wpAnyH_take (i := 2) (oi := { dst := some 18, op := Go.Op.load 9 (Go.Operand.tmp 17), type := 9, pos := "plan.go:100", after := #[{ on := 1, ground := Go.Ground.data }], guard := none }) (v := ?_) rfl (by kernel_rfl) (by kernel_rfl) (by kernel_rfl) (fun _ _ _ h => h) (Or.inl ⟨by rfl, ?_⟩) (by assumption) ?_
    rotate_left
    · intro w hSw; (try dsimp only at hSw); go_simp; all_goals (with_reducible rfl)
    try simp only [Act.put, List.setIfInBounds_toArray, List.set_cons_zero, List.set_cons_succ]
    refine wpAnyH_take (i := 3) (oi := { dst := some 19, op := Go.Op.move (Go.Operand.tmp 3), type := 29, pos := "plan.go:100", after := #[], guard := none }) (v := ?_) rfl (by kernel_rfl) (by kernel_rfl) (by kernel_rfl) (fun _ _ _ h => h) (Or.inl ⟨by rfl, ?_⟩) (by assumption) ?_
    rotate_left
    · intro w hSw; (try dsimp only at hSw); go_simp; all_goals (with_reducible rfl)
    try simp only [Act.put, List.setIfInBounds_toArray, List.set_cons_zero, List.set_cons_succ]
    refine wpAnyH_take (i := 4) (oi := { dst := some 20, op := Go.Op.indexAddr 29 (Go.Operand.tmp 19) (Go.Operand.const (Go.Value.int Go.IntKind.i64 0)), type := 0, pos := "plan.go:100", after := #[{ on := 3, ground := Go.Ground.data }], guard := none }) (v := ?_) rfl (by kernel_rfl) (by kernel_rfl) (by kernel_rfl) (fun _ _ _ h => h) (Or.inl ⟨by rfl, ?_⟩) (by assumption) ?_
    rotate_left
    · intro w hSw; (try dsimp only at hSw); go_simp; all_goals (with_reducible rfl)
    try simp only [Act.put, List.setIfInBounds_toArray, List.set_cons_zero, List.set_cons_succ]
    refine wpAnyH_take (i := 5) (oi := { dst := some 21, op := Go.Op.load 36 (Go.Operand.tmp 20), type := 36, pos := "plan.go:100", after := #[{ on := 4, ground := Go.Ground.data }], guard := none }) (v := ?_) rfl (by kernel_rfl) (by kernel_rfl) (by kernel_rfl) (fun _ _ _ h => h) (Or.inl ⟨by rfl, ?_⟩) (by assumption) ?_
    rotate_left
    · intro w hSw; (try dsimp only at hSw); go_simp; all_goals (with_reducible rfl)
    try simp only [Act.put, List.setIfInBounds_toArray, List.set_cons_zero, List.set_cons_succ]
    refine wpAnyH_take (i := 7) (oi := { dst := some 23, op := Go.Op.move (Go.Operand.tmp 3), type := 29, pos := "plan.go:100", after := #[], guard := none }) (v := ?_) rfl (by kernel_rfl) (by kernel_rfl) (by kernel_rfl) (fun _ _ _ h => h) (Or.inl ⟨by rfl, ?_⟩) (by assumption) ?_
    rotate_left
    · intro w hSw; (try dsimp only at hSw); go_simp; all_goals (with_reducible rfl)
    try simp only [Act.put, List.setIfInBounds_toArray, List.set_cons_zero, List.set_cons_succ]
    refine wpAnyH_ready (rs := [0, 6]) (by kernel_rfl) (by simp) ?_
    refine (AllReadyH.cons (o := { dst := some 16, op := Go.Op.load 52 (Go.Operand.tmp 4), type := 52, pos := "plan.go:100", after := #[], guard := none }) rfl (fun K hK => ?_) (AllReadyH.cons (o := { dst := some 22, op := Go.Op.call { callee := Go.Callee.value (Go.Operand.func 10), args := #[Go.Operand.tmp 18, Go.Operand.tmp 21], argTypes := #[9, 36] }, type := 9, pos := "plan.go:100", after := #[{ on := 2, ground := Go.Ground.data }, { on := 5, ground := Go.Ground.data }], guard := none }) rfl (fun K hK => ?_) AllReadyH.nil))
    · go_simp
      go_wp2_with fail
      refine hK.out _ _ ?_ (fun hHeld => ?_)
      · exact KS.out _ (Below.refl _ _).drew
      clear hK K
      try simp only [Act.put, List.setIfInBounds_toArray, List.set_cons_zero, List.set_cons_succ]
      refine wpAnyH_ready (rs := [6]) (by kernel_rfl) (by simp) ?_
      refine (AllReadyH.cons (o := { dst := some 22, op := Go.Op.call { callee := Go.Callee.value (Go.Operand.func 10), args := #[Go.Operand.tmp 18, Go.Operand.tmp 21], argTypes := #[9, 36] }, type := 9, pos := "plan.go:100", after := #[{ on := 2, ground := Go.Ground.data }, { on := 5, ground := Go.Ground.data }], guard := none }) rfl (fun K hK => ?_) AllReadyH.nil)
      go_simp
      (go_at_call 10; go_fit (HR _); rintro e w2 ⟨rfl, hb2⟩; have hB2 : Below w1.heap.size w1 w2 := bthen (Below.refl _ _).drew hb2; have q2 := cell_of_block (st1.below hB2).blk (j := 0) rfl)
      go_wp2_with fail
      refine hK.out _ _ ?_ (fun hHeld => ?_)
      · exact KS.out _ hB2
      clear hK K
      try simp only [Act.put, List.setIfInBounds_toArray, List.set_cons_zero, List.set_cons_succ]
      refine wpAnyH_ready (rs := [8]) (by kernel_rfl) (by simp) ?_
      refine (AllReadyH.cons (o := { dst := some 24, op := Go.Op.call { callee := Go.Callee.value (Go.Operand.func 24), args := #[Go.Operand.tmp 23], argTypes := #[29] }, type := 9, pos := "plan.go:100", after := #[{ on := 7, ground := Go.Ground.data }, { on := 6, ground := Go.Ground.chain }], guard := none }) rfl (fun K hK => ?_) AllReadyH.nil)
      go_simp
      (go_at_call 24; go_fit (HK _ hB2); rintro e w3 ⟨rfl, hb3⟩; have hB3 : Below w1.heap.size w1 w3 := bthen hB2 hb3; have q3 := cell_of_block (st1.below hB3).blk (j := 0) rfl)
      go_wp2_with fail
      refine hK.out _ _ ?_ (fun hHeld => ?_)
      · exact KS.out _ hB3
      clear hK K
      try simp only [Act.put, List.setIfInBounds_toArray, List.set_cons_zero, List.set_cons_succ]
      refine wpAnyH_ready (rs := [9]) (by kernel_rfl) (by simp) ?_
      refine (AllReadyH.cons (o := { dst := some 25, op := Go.Op.call { callee := Go.Callee.value (Go.Operand.func 27), args := #[Go.Operand.tmp 16, Go.Operand.tmp 22, Go.Operand.tmp 24], argTypes := #[52, 9, 9] }, type := 52, pos := "plan.go:100", after := #[{ on := 0, ground := Go.Ground.data }, { on := 6, ground := Go.Ground.data }, { on := 8, ground := Go.Ground.data }, { on := 8, ground := Go.Ground.chain }], guard := none }) rfl (fun K hK => ?_) AllReadyH.nil)
      go_simp
      (go_at_call 27; go_fit (HP _ hB3); rintro e w4 ⟨pv4, T4, rfl, hp4, hb4, hg4, hf4, hl4⟩; obtain ⟨sv4, rfl, hp4⟩ := hp4; obtain ⟨ao4, c4, rfl⟩ := pages_shape hp4; have hB4 : Below w1.heap.size w1 w4 := bthen hB3 hb4; have q4 := cell_of_block (st1.below hB4).blk (j := 0) rfl; have z4 : w4.frozen? ⟨w.heap.size, 0, none⟩ = false := (by simp [World.frozen?, (st1.below hB4).blk]))
      go_wp2_with fail
      refine hK.out _ _ ?_ (fun hHeld => ?_)
      · exact KS.out _ hB4
      clear hK K
      try simp only [Act.put, List.setIfInBounds_toArray, List.set_cons_zero, List.set_cons_succ]
      refine wpAnyH_ready (rs := [10]) (by kernel_rfl) (by simp) ?_
      refine (AllReadyH.cons (o := { dst := none, op := Go.Op.store 52 (Go.Operand.tmp 4) (Go.Operand.tmp 25), type := 0, pos := "plan.go:100", after := #[{ on := 9, ground := Go.Ground.data }, { on := 9, ground := Go.Ground.chain }, { on := 0, ground := Go.Ground.phase }, { on := 1, ground := Go.Ground.phase }, { on := 2, ground := Go.Ground.phase }, { on := 3, ground := Go.Ground.phase }, { on := 4, ground := Go.Ground.phase }, { on := 5, ground := Go.Ground.phase }, { on := 6, ground := Go.Ground.phase }, { on := 7, ground := Go.Ground.phase }, { on := 8, ground := Go.Ground.phase }, { on := 9, ground := Go.Ground.phase }], guard := none }) rfl (fun K hK => ?_) AllReadyH.nil)
      go_simp
      go_wp2_with fail
      refine hK.out _ _ ?_ (fun hHeld => ?_)
      · exact KT.out _ hB4 _
      clear hK K
      try simp only [Act.put, List.setIfInBounds_toArray, List.set_cons_zero, List.set_cons_succ]
      refine wpAnyH_done (by kernel_rfl) ?_ _
      go_wp2_with fail
      go_meet
      case rel => exact ⟨rfl, ao4, T4.length, c4, T4, st1.store hB4 hp4 hg4 hf4 hl4⟩
    · go_simp
      (go_at_call 10; go_fit (HR _); rintro e w2 ⟨rfl, hb2⟩; have hB2 : Below w1.heap.size w1 w2 := bthen (Below.refl _ _).drew hb2; have q2 := cell_of_block (st1.below hB2).blk (j := 0) rfl)
      go_wp2_with fail
      refine hK.out _ _ ?_ (fun hHeld => ?_)
      · exact KS.out _ hB2
      clear hK K
      try simp only [Act.put, List.setIfInBounds_toArray, List.set_cons_zero, List.set_cons_succ]
      refine wpAnyH_ready (rs := [0, 8]) (by kernel_rfl) (by simp) ?_
      refine (AllReadyH.cons (o := { dst := some 16, op := Go.Op.load 52 (Go.Operand.tmp 4), type := 52, pos := "plan.go:100", after := #[], guard := none }) rfl (fun K hK => ?_) (AllReadyH.cons (o := { dst := some 24, op := Go.Op.call { callee := Go.Callee.value (Go.Operand.func 24), args := #[Go.Operand.tmp 23], argTypes := #[29] }, type := 9, pos := "plan.go:100", after := #[{ on := 7, ground := Go.Ground.data }, { on := 6, ground := Go.Ground.chain }], guard := none }) rfl (fun K hK => ?_) AllReadyH.nil))
      · go_simp
        go_wp2_with fail
        refine hK.out _ _ ?_ (fun hHeld => ?_)
        · exact KS.out _ hB2
        clear hK K
        try simp only [Act.put, List.setIfInBounds_toArray, List.set_cons_zero, List.set_cons_succ]
        refine wpAnyH_ready (rs := [8]) (by kernel_rfl) (by simp) ?_
        refine (AllReadyH.cons (o := { dst := some 24, op := Go.Op.call { callee := Go.Callee.value (Go.Operand.func 24), args := #[Go.Operand.tmp 23], argTypes := #[29] }, type := 9, pos := "plan.go:100", after := #[{ on := 7, ground := Go.Ground.data }, { on := 6, ground := Go.Ground.chain }], guard := none }) rfl (fun K hK => ?_) AllReadyH.nil)
        go_simp
        (go_at_call 24; go_fit (HK _ hB2); rintro e w3 ⟨rfl, hb3⟩; have hB3 : Below w1.heap.size w1 w3 := bthen hB2 hb3; have q3 := cell_of_block (st1.below hB3).blk (j := 0) rfl)
        go_wp2_with fail
        refine hK.out _ _ ?_ (fun hHeld => ?_)
        · exact KS.out _ hB3
        clear hK K
        try simp only [Act.put, List.setIfInBounds_toArray, List.set_cons_zero, List.set_cons_succ]
        refine wpAnyH_ready (rs := [9]) (by kernel_rfl) (by simp) ?_
        refine (AllReadyH.cons (o := { dst := some 25, op := Go.Op.call { callee := Go.Callee.value (Go.Operand.func 27), args := #[Go.Operand.tmp 16, Go.Operand.tmp 22, Go.Operand.tmp 24], argTypes := #[52, 9, 9] }, type := 52, pos := "plan.go:100", after := #[{ on := 0, ground := Go.Ground.data }, { on := 6, ground := Go.Ground.data }, { on := 8, ground := Go.Ground.data }, { on := 8, ground := Go.Ground.chain }], guard := none }) rfl (fun K hK => ?_) AllReadyH.nil)
        go_simp
        (go_at_call 27; go_fit (HP _ hB3); rintro e w4 ⟨pv4, T4, rfl, hp4, hb4, hg4, hf4, hl4⟩; obtain ⟨sv4, rfl, hp4⟩ := hp4; obtain ⟨ao4, c4, rfl⟩ := pages_shape hp4; have hB4 : Below w1.heap.size w1 w4 := bthen hB3 hb4; have q4 := cell_of_block (st1.below hB4).blk (j := 0) rfl; have z4 : w4.frozen? ⟨w.heap.size, 0, none⟩ = false := (by simp [World.frozen?, (st1.below hB4).blk]))
        go_wp2_with fail
        refine hK.out _ _ ?_ (fun hHeld => ?_)
        · exact KS.out _ hB4
        clear hK K
        try simp only [Act.put, List.setIfInBounds_toArray, List.set_cons_zero, List.set_cons_succ]
        refine wpAnyH_ready (rs := [10]) (by kernel_rfl) (by simp) ?_
        refine (AllReadyH.cons (o := { dst := none, op := Go.Op.store 52 (Go.Operand.tmp 4) (Go.Operand.tmp 25), type := 0, pos := "plan.go:100", after := #[{ on := 9, ground := Go.Ground.data }, { on := 9, ground := Go.Ground.chain }, { on := 0, ground := Go.Ground.phase }, { on := 1, ground := Go.Ground.phase }, { on := 2, ground := Go.Ground.phase }, { on := 3, ground := Go.Ground.phase }, { on := 4, ground := Go.Ground.phase }, { on := 5, ground := Go.Ground.phase }, { on := 6, ground := Go.Ground.phase }, { on := 7, ground := Go.Ground.phase }, { on := 8, ground := Go.Ground.phase }, { on := 9, ground := Go.Ground.phase }], guard := none }) rfl (fun K hK => ?_) AllReadyH.nil)
        go_simp
        go_wp2_with fail
        refine hK.out _ _ ?_ (fun hHeld => ?_)
        · exact KT.out _ hB4 _
        clear hK K
        try simp only [Act.put, List.setIfInBounds_toArray, List.set_cons_zero, List.set_cons_succ]
        refine wpAnyH_done (by kernel_rfl) ?_ _
        go_wp2_with fail
        go_meet
        case rel => exact ⟨rfl, ao4, T4.length, c4, T4, st1.store hB4 hp4 hg4 hf4 hl4⟩
      · go_simp
        (go_at_call 24; go_fit (HK _ hB2); rintro e w3 ⟨rfl, hb3⟩; have hB3 : Below w1.heap.size w1 w3 := bthen hB2 hb3; have q3 := cell_of_block (st1.below hB3).blk (j := 0) rfl)
        go_wp2_with fail
        refine hK.out _ _ ?_ (fun hHeld => ?_)
        · exact KS.out _ hB3
        clear hK K
        try simp only [Act.put, List.setIfInBounds_toArray, List.set_cons_zero, List.set_cons_succ]
        refine wpAnyH_ready (rs := [0]) (by kernel_rfl) (by simp) ?_
        refine (AllReadyH.cons (o := { dst := some 16, op := Go.Op.load 52 (Go.Operand.tmp 4), type := 52, pos := "plan.go:100", after := #[], guard := none }) rfl (fun K hK => ?_) AllReadyH.nil)
        go_simp
        go_wp2_with fail
        refine hK.out _ _ ?_ (fun hHeld => ?_)
        · exact KS.out _ hB3
        clear hK K
        try simp only [Act.put, List.setIfInBounds_toArray, List.set_cons_zero, List.set_cons_succ]
        refine wpAnyH_ready (rs := [9]) (by kernel_rfl) (by simp) ?_
        refine (AllReadyH.cons (o := { dst := some 25, op := Go.Op.call { callee := Go.Callee.value (Go.Operand.func 27), args := #[Go.Operand.tmp 16, Go.Operand.tmp 22, Go.Operand.tmp 24], argTypes := #[52, 9, 9] }, type := 52, pos := "plan.go:100", after := #[{ on := 0, ground := Go.Ground.data }, { on := 6, ground := Go.Ground.data }, { on := 8, ground := Go.Ground.data }, { on := 8, ground := Go.Ground.chain }], guard := none }) rfl (fun K hK => ?_) AllReadyH.nil)
        go_simp
        (go_at_call 27; go_fit (HP _ hB3); rintro e w4 ⟨pv4, T4, rfl, hp4, hb4, hg4, hf4, hl4⟩; obtain ⟨sv4, rfl, hp4⟩ := hp4; obtain ⟨ao4, c4, rfl⟩ := pages_shape hp4; have hB4 : Below w1.heap.size w1 w4 := bthen hB3 hb4; have q4 := cell_of_block (st1.below hB4).blk (j := 0) rfl; have z4 : w4.frozen? ⟨w.heap.size, 0, none⟩ = false := (by simp [World.frozen?, (st1.below hB4).blk]))
        go_wp2_with fail
        refine hK.out _ _ ?_ (fun hHeld => ?_)
        · exact KS.out _ hB4
        clear hK K
        try simp only [Act.put, List.setIfInBounds_toArray, List.set_cons_zero, List.set_cons_succ]
        refine wpAnyH_ready (rs := [10]) (by kernel_rfl) (by simp) ?_
        refine (AllReadyH.cons (o := { dst := none, op := Go.Op.store 52 (Go.Operand.tmp 4) (Go.Operand.tmp 25), type := 0, pos := "plan.go:100", after := #[{ on := 9, ground := Go.Ground.data }, { on := 9, ground := Go.Ground.chain }, { on := 0, ground := Go.Ground.phase }, { on := 1, ground := Go.Ground.phase }, { on := 2, ground := Go.Ground.phase }, { on := 3, ground := Go.Ground.phase }, { on := 4, ground := Go.Ground.phase }, { on := 5, ground := Go.Ground.phase }, { on := 6, ground := Go.Ground.phase }, { on := 7, ground := Go.Ground.phase }, { on := 8, ground := Go.Ground.phase }, { on := 9, ground := Go.Ground.phase }], guard := none }) rfl (fun K hK => ?_) AllReadyH.nil)
        go_simp
        go_wp2_with fail
        refine hK.out _ _ ?_ (fun hHeld => ?_)
        · exact KT.out _ hB4 _
        clear hK K
        try simp only [Act.put, List.setIfInBounds_toArray, List.set_cons_zero, List.set_cons_succ]
        refine wpAnyH_done (by kernel_rfl) ?_ _
        go_wp2_with fail
        go_meet
        case rel => exact ⟨rfl, ao4, T4.length, c4, T4, st1.store hB4 hp4 hg4 hf4 hl4⟩
  case rest =>
    obtain ⟨rfl, ao5, k5, c5, T5, st5⟩ := hcut
    have x0 := cell_of_block st5.cat (j := 0) rfl
    have x1 := cell_of_block st5.cat (j := 1) rfl
    have x2 := cell_of_block st5.tab (j := 0) rfl
    have x3 := cell_of_block st5.tab (j := 1) rfl
    have HX := HIK.out wc st5.bel
    have HKL : Hid ((iks I t r).length ≤ I.length) := iks_length I t r
    generalize iks I t r = K at HX EF HKL
    have hKb : K.length ≤ 1000000 := Nat.le_trans HKL.out hn
    clear HK HP HR HF KS KT q0
    go_wp2_with (go_at_call 28; go_fit HX; rintro e w6 ⟨kv, rfl, hkv, hb6⟩; obtain ⟨ko, kc, rfl⟩ := IsRow.shape hkv)
    go_loopw [31] (fun i wr => ∃ k : Nat, k ≤ K.length ∧ i = .int .i64 k ∧ IsStrs wr (.slice ko K.length kc) K ∧ ∃ ao2 k2 c2 T2, TrSt w #[.slice to' tn tc, .slice io I.length ic] #[.string t.name, .slice so t.cols.length sc] (putsE (putF (flat T) (rk t r) (str (keyAns r).1)) (K.take k)) (T.length + 1 + k) ao2 k2 c2 T2 wr) (fun i _ => K.length - (intOf i).toNat)
    case atStart => exact ⟨0, Nat.zero_le _, rfl, hkv, ao5, k5, c5, T5, st5.below hb6⟩
    case round =>
      obtain ⟨k, hk, rfl, hks, ao2, k2, c2, T2, st2⟩ := hrel
      by_cases hlt : k < K.length
      · obtain ⟨key, hx⟩ : ∃ x, K[k]? = some x := ⟨_, List.getElem?_eq_getElem hlt⟩
        obtain ⟨b, off, cap, hsl, hb, _, _, hcell⟩ := hks.at (by omega)
        cases hsl
        have d0 := hcell k key hx
        have y0 := cell_of_block st2.blk (j := 0) rfl
        have HT2 := put_any T2 (.agg #[.slice ao2 k2 c2]) key noW _ ⟨_, rfl, st2.pgs⟩ st2.good (by have := st2.len; have := HKL.out; omega)
        have E2 : Hid (putsE (putF (flat T) (rk t r) (str (keyAns r).1)) (K.take (k + 1)) = putF (putsE (putF (flat T) (rk t r) (str (keyAns r).1)) (K.take k)) key noW) := putsE_take hx
        have v0 : (0 : Int) ≤ (k : Int) := by omega
        have v1 : (k : Int) < (K.length : Int) := by omega
        clear hx hcell
        go_wp2_with (go_at_call 27; go_fit HT2; rintro e w7 ⟨pv7, T7, rfl, hp7, hb7, hg7, hf7, hl7⟩; obtain ⟨sv7, rfl, hp7⟩ := hp7; obtain ⟨ao7, c7, rfl⟩ := pages_shape hp7; have z7 : w7.frozen? ⟨w.heap.size, 0, none⟩ = false := (by simp [World.frozen?, (st2.below hb7).blk]); have y7 := cell_of_block (st2.below hb7).blk (j := 0) rfl)
        go_roundw
        case rel => exact ⟨k + 1, by omega, by go_num, strs_set2 (hks.below hb7) (st2.below hb7).blk _, ao7, T7.length, c7, T7, st2.store hb7 hp7 hg7 (by rw [hf7, st2.flat, E2.out]) (Nat.le_trans hl7 (by have := st2.len; omega))⟩
        case measure => simp [intOf]; omega
      · have hkn : k = K.length := by omega
        subst hkn
        have v1 : ¬ ((K.length : Int) < (K.length : Int)) := by omega
        have y0 := cell_of_block st2.blk (j := 0) rfl
        have y1 := cell_of_block st2.res (j := 0) rfl
        have y2 : wr.frozen? ⟨w.heap.size + 3, 0, none⟩ = false := by simp [World.frozen?, st2.res]
        rw [List.take_length] at st2
        go_wp2
        have hfin := set_at st2.res 0 (.slice ao2 k2 c2)
        refine bodyPost_ret (v := .agg #[.slice ao2 k2 c2]) (results_cell_row Tryz.results14 _ _ (w.heap.size + 3) 52 #[.slice ao2 k2 c2] _ _ rfl hfin Tryz.underlying52 rfl (by kernel_rfl)) rfl ?_
        exact ⟨_, T2, rfl, ⟨_, rfl, pages_set2 st2.pgs st2.res _⟩, st2.good, by rw [st2.flat, EF.out], Nat.le_trans st2.len (by have := HKL.out; omega), st2.bel.setCell (show w.heap.size ≤ w.heap.size + 3 by omega) _⟩

end Go.Proofs.YtkncamggdfmlnaaGreatDoor

namespace Go.Proofs.YtkncamggdfmlnaaGreatDoor
open Go.RowKit

theorem info_vals : (Tryz.prog.info? 29).map (fun i => (i.zero, i.size, i.bytes)) = some (some (.slice none 0 0), 1, 24) := by kernel_rfl

/-- Rows that are gathered, in a row of the call's own. -/
def RowsAt (base : Nat) (z : Value) (A : List (List V)) (w : World) : Prop := ∃ cs, w.ownsRow base 29 1 z A.length cs ∧ All kVals (FO base z) w A cs
theorem rowsAt_nil (base : Nat) (w : World) : RowsAt base (.slice none 0 0) [] w := ⟨[], World.ownsRow_nil _ _ _ _, rfl⟩
theorem rowsAt_push {base : Nat} {z z' sv : Value} {A : List (List V)} {cs : List Value} {L : List V} {W w3 : World} (own3 : w3.ownsRow base 29 1 z' (A.length + 1) (cs ++ [sv])) (hall : All kVals (FO base z) W A cs) (hL : IsL kVal (FO base z) W sv L) (gr : W.grownBy w3 z.ownBlock) (at3 : z'.ownBlock = z.ownBlock ∨ z'.ownBlock = some W.heap.size) :
    RowsAt base z' (A ++ [L]) w3 := by
  have h1 : All kVals (fun k => FO base z k ∧ k < W.heap.size) W (A ++ [L]) (cs ++ [sv]) := All.append (hall.mono fun k hk h => ⟨h, hk⟩) (All.one ⟨sv, rfl, hL.mono fun k hk h => ⟨h, hk⟩⟩)
  have h2 := h1.keep ((keeps_grown (n := base) gr).mono fun k h => h.1)
  refine ⟨cs ++ [sv], by rw [List.length_append]; exact own3, h2.mono fun k _ h => fo_next at3 k h.2 h.1⟩
theorem RowsAt.isL {base : Nat} {z : Value} {A : List (List V)} {w : World} (h : RowsAt base z A w) {F : Nat → Prop} (hF : ∀ k, base ≤ k → F k) : IsL kVals F w z A := by
  obtain ⟨cs, h1, h2⟩ := h
  exact ⟨cs, IsRowB.of_own h1 hF, h2.mono fun k _ h => hF k h.1⟩
theorem RowsAt.below {base : Nat} {z : Value} {A : List (List V)} {w w' : World} (h : RowsAt base z A w) (hb : Below w.heap.size w w') : RowsAt base z A w' := by
  obtain ⟨cs, h1, h2⟩ := h
  exact ⟨cs, ownsRow_below h1 hb, h2.keep (keepsB hb)⟩

/-- The rows that texts are. -/
def textsR (n : Nat) (X : List Wd) : List (List V) := X.filterMap (rowOf n)
theorem textsR_take {n : Nat} {X : List Wd} {k : Nat} {x : Wd} (h : X[k]? = some x) : textsR n (X.take (k + 1)) = textsR n (X.take k) ++ (rowOf n x).toList := by
  rw [List.take_add_one, h]
  simp only [textsR, List.filterMap_append, Option.toList_some]
  cases hx : rowOf n x <;> simp [hx]
theorem textsR_length (n : Nat) (X : List Wd) : (textsR n X).length ≤ X.length := List.length_filterMap_le _ _

/-- Rows are answered. -/
def RowsAns (w w' : World) (e : Ending) (A : List (List V)) : Prop := ∃ rv, e = .returned rv ∧ IsL kVals (fun k => w.heap.size ≤ k) w' rv A ∧ Below w.heap.size w w'

set_option maxRecDepth 100000 in
set_option maxHeartbeats 4000000 in
theorem rowsAll_any (nmv : Wd) (T : List Pg) (pv : Value) (so : Option Addr) (n sc : Nat) (lo hi : Wd) (w : World) (hp : IsTree w pv T) (hg : GoodT T) (hT : T.length ≤ 100000) (hx : ∀ x ∈ rng T lo hi, x.2.size ≤ 1000000) :
    Calls Tryz.prog 21 #[pv, .agg #[.string nmv, .slice so n sc], wayV noW lo hi] w fun e w' => RowsAns w w' e (rowsOf n (rng T lo hi)) := by
  obtain ⟨psv, rfl, hpp⟩ := hp
  obtain ⟨po, pc, rfl⟩ := pages_shape hpp
  obtain ⟨i0, hi0, hz0, hz1, hz2⟩ := info_parts info_vals
  have hb3 := bel3 w (.cells #[.slice po T.length pc] 52) (.cells #[.string nmv, .slice so n sc] 28) (.cells #[.string noW, .string lo, .string hi] 66)
  have bT := block_alloc_of (block2 w (.cells #[.slice po T.length pc] 52) (.cells #[.string nmv, .slice so n sc] 28)) (.cells #[.string noW, .string lo, .string hi] 66)
  have bW := block3 w (.cells #[.slice po T.length pc] 52) (.cells #[.string nmv, .slice so n sc] 28) (.cells #[.string noW, .string lo, .string hi] 66)
  have HR := range_any true T ⟨fun _ => hg, fun _ => rfl⟩ (.agg #[.slice po T.length pc]) lo hi _ ⟨_, rfl, hpp.below hb3⟩ (by omega)
  rw [show rans true T lo hi = rng T lo hi from rfl] at HR
  have hrl : (rng T lo hi).length ≤ 400000 := by
    have h1 := rans_length true T ⟨fun _ => hg, fun _ => rfl⟩ (lo := lo) (hi := hi)
    rw [show rans true T lo hi = rng T lo hi from rfl] at h1
    omega
  have ER : Hid (rowsOf n (rng T lo hi) = textsR n ((rng T lo hi).map Prod.snd)) := rfl
  rw [ER.out]
  clear ER
  have hxl : ((rng T lo hi).map Prod.snd).length ≤ 400000 := by rw [List.length_map]; exact hrl
  have HX : Hid (∀ x ∈ (rng T lo hi).map Prod.snd, x.size ≤ 1000000) := fun x hh => by obtain ⟨y, hy, rfl⟩ := List.mem_map.1 hh; exact hx y hy
  clear hx hrl
  unfold RangeSays at HR
  generalize (rng T lo hi).map Prod.fst = Y at HR
  generalize (rng T lo hi).map Prod.snd = X at HR hxl HX ⊢
  generalize hW : ((w.alloc (.cells #[.slice po T.length pc] 52)).alloc (.cells #[.string nmv, .slice so n sc] 28)).alloc (.cells #[.string noW, .string lo, .string hi] 66) = W3 at hb3 HR bT bW
  have bP : W3.heap[w.heap.size]? = some (.cells #[.slice po T.length pc] 52) := by rw [← hW]; exact block_alloc_of (block_alloc_of (block_alloc_at w _) _) _
  have HW : Hid _ := hW
  clear hW
  have c0 := cell_of_block bP (j := 0) rfl
  have c1 := cell_of_block bW (j := 0) rfl
  have c2 := cell_of_block bW (j := 1) rfl
  have c3 := cell_of_block bW (j := 2) rfl
  unfold wayV
  go_enter Tryz.func21, Tryz.ntmps21
  go_upto_region 1 with fail
  rw [HW.out]
  go_wp2_with (go_at_call 32; go_fit HR; rintro e w1 ⟨kv, vv, rfl, hk1, hv1, hb1⟩; obtain ⟨vo, vc, rfl⟩ := IsRow.shape hv1; have c1' := cell_of_block ((hb1.block _ (lt_of_block bW)).trans bW) (j := 0) rfl)
  have bT1 := (hb1.block _ (lt_of_block bT)).trans bT
  have hW1 : Below w.heap.size w w1 := hb3.trans (hb1.mono hb3.size)
  clear hk1 HR hpp
  go_loopw [9, 36] (fun zv i wr => ∃ k : Nat, k ≤ X.length ∧ i = .int .i64 k ∧ RowsAt w1.heap.size zv (textsR n (X.take k)) wr ∧ Below w1.heap.size w1 wr) (fun _ i _ => X.length - (intOf i).toNat)
  case atStart => exact ⟨0, Nat.zero_le _, rfl, rowsAt_nil _ _, Below.refl _ _⟩
  case round =>
    obtain ⟨k, hk, rfl, ⟨cs, hown, hall⟩, hbel⟩ := hrel
    by_cases hlt : k < X.length
    · obtain ⟨x, hx⟩ : ∃ x, X[k]? = some x := ⟨_, List.getElem?_eq_getElem hlt⟩
      obtain ⟨b, off, cap, hsl, hb, _, _, hcell⟩ := hv1.at (by omega)
      cases hsl
      have d0 := (hbel.cell (p := ⟨b, off + k, none⟩) hb).trans (hcell k x hx)
      have HV := fun W => values_any x W (by have := HX.out x (List.mem_of_getElem? hx); omega)
      have HXI : Hid (textsR n (X.take (k + 1)) = textsR n (X.take k) ++ (rowOf n x).toList) := textsR_take hx
      have v0 : (0 : Int) ≤ (k : Int) := by omega
      have v1 : (k : Int) < (X.length : Int) := by omega
      have hsz := hbel.size
      have ho0 := hown.lt
      have bT2 := (hbel.block _ (lt_of_block bT1)).trans bT1
      have hal : (textsR n (X.take k)).length ≤ 400000 := Nat.le_trans (textsR_length _ _) (by simp; omega)
      clear hx hcell
      unfold ValuesSays at HV
      cases hvx : vals x.data.toList with
      | none =>
        have E2 : Hid (textsR n (X.take (k + 1)) = textsR n (X.take k)) := by show _ = _; rw [HXI.out, rowOf, hvx]; simp
        rw [hvx] at HV
        simp only at HV
        go_wp2_with (go_at_call 35; go_fit (HV _); rintro e w2 ⟨rfl, hb2⟩)
        go_roundw
        case rel => exact ⟨k + 1, by omega, by go_num, by rw [E2.out]; exact RowsAt.below ⟨cs, hown, hall⟩ hb2, hbel.trans (hb2.mono hsz)⟩
        case measure => simp [intOf]; omega
      | some L =>
        rw [hvx] at HV
        simp only at HV
        have t0 := cell_of_block bT2 (j := 0) rfl
        have t1 := cell_of_block bT2 (j := 1) rfl
        have HF := fun ao c W => planFits_any nmv so n sc ao L.length c W
        by_cases hf : 0 < L.length ∧ L.length = n
        · have E2 : Hid (textsR n (X.take (k + 1)) = textsR n (X.take k) ++ [L]) := by show _ = _; rw [HXI.out, rowOf, hvx]; simp only; rw [if_pos hf]; rfl
          rw [show (decide (0 < L.length) && decide (L.length = n)) = true by rw [decide_eq_true hf.1, decide_eq_true hf.2]; rfl] at HF
          clear hf HXI
          go_wp2_with (first
            | (go_at_call 35; go_fit (HV _); rintro e w2 ⟨⟨lv, rfl, hl2⟩, hb2⟩; obtain ⟨lo2, lc2, rfl⟩ := IsRow.shape (IsRow.of_own hl2); have t2 := cell_of_block ((hb2.block _ (lt_of_block bT2)).trans bT2) (j := 0) rfl; have t3 := cell_of_block ((hb2.block _ (lt_of_block bT2)).trans bT2) (j := 1) rfl)
            | (go_at_call 26; go_fit (HF _ _ _); rintro e w3 ⟨rfl, hb3'⟩; have hB3 : Below wr.heap.size wr (w3.alloc (.cells [.slice lo2 L.length lc2].toArray 29)) := (bthen hb2 hb3').alloc (bthen hb2 hb3').size _; have hown3 := ownsRow_below hown hB3; have hnew := cells_new w3 [.slice lo2 L.length lc2] 29; have hbase : w1.heap.size ≤ (w3.alloc (.cells [.slice lo2 L.length lc2].toArray 29)).heap.size := Nat.le_trans hsz hB3.size)
            | (at_builtin; go_must (refine wpList_append_own_at _ rfl _ _ 63 rfl w1.heap.size 29 i0 (.slice none 0 0) 1 24 Tryz.underlying63 hi0 hz0 hz1 hz2 rfl (by decide) _ _ _ rfl hown3 ⟨w3.heap.size, 0, none⟩ 1 1 [.slice lo2 L.length lc2] rfl rfl hnew ?h1 (by simp only [maxLen]; omega) (by omega) hbase ?h2)))
          case h1 => simp only [List.forall_mem_cons]; repeat (first | exact fun _ h => absurd h List.not_mem_nil | refine ⟨rfl, ?_⟩)
          case h2 =>
            intro z2 w4 hown4 hg4 _ hat
            have hat' : z2.ownBlock = u9.ownBlock ∨ z2.ownBlock = some (w3.alloc (.cells [.slice lo2 L.length lc2].toArray 29)).heap.size := by rw [World.size_alloc]; exact hat
            have hLf : IsL kVal (FO w1.heap.size u9) (w3.alloc (.cells [.slice lo2 L.length lc2].toArray 29)) (.slice lo2 L.length lc2) L :=
              (isL_own hl2 fun k hk => ⟨Nat.le_trans hsz hk, fun e => by have := (ho0 k e.symm).2; omega⟩).keep (keepsB ((bthen hb3' (bel1 _ _))))
            have hst := rowsAt_push hown4 (hall.keep (keepsB hB3)) hLf hg4 hat'
            have hbb : Below w1.heap.size w1 w4 := (hbel.trans (hB3.mono hsz)).grown hg4 hbase fun k hk => (ho0 k hk).1
            go_wp2_with fail
            go_roundw
            case rel => exact ⟨k + 1, by omega, by go_num, by rw [E2.out]; exact hst, hbb⟩
            case measure => simp [intOf]; omega
        · have E2 : Hid (textsR n (X.take (k + 1)) = textsR n (X.take k)) := by show _ = _; rw [HXI.out, rowOf, hvx]; simp only; rw [if_neg hf]; simp
          rw [show (decide (0 < L.length) && decide (L.length = n)) = false by rw [Bool.and_eq_false_iff, decide_eq_false_iff_not, decide_eq_false_iff_not]; omega] at HF
          go_wp2_with (first | (go_at_call 35; go_fit (HV _); rintro e w2 ⟨⟨lv, rfl, hl2⟩, hb2⟩; obtain ⟨lo2, lc2, rfl⟩ := IsRow.shape (IsRow.of_own hl2); have t2 := cell_of_block ((hb2.block _ (lt_of_block bT2)).trans bT2) (j := 0) rfl; have t3 := cell_of_block ((hb2.block _ (lt_of_block bT2)).trans bT2) (j := 1) rfl) | (go_at_call 26; go_fit (HF _ _ _); rintro e w3 ⟨rfl, hb3'⟩))
          go_roundw
          case rel => exact ⟨k + 1, by omega, by go_num, by rw [E2.out]; exact RowsAt.below (RowsAt.below ⟨cs, hown, hall⟩ hb2) hb3', (hbel.trans (hb2.mono hsz)).trans (hb3'.mono (by have := hb2.size; omega))⟩
          case measure => simp [intOf]; omega
    · have hkn : k = X.length := by omega
      subst hkn
      have v1 : ¬ ((X.length : Int) < (X.length : Int)) := by omega
      rw [List.take_length] at hown hall
      go_wp2
      go_ret
      exact ⟨_, rfl, RowsAt.isL ⟨cs, hown, hall⟩ fun k hk => Nat.le_trans hW1.size hk, hW1.trans (hbel.mono hW1.size)⟩

end Go.Proofs.YtkncamggdfmlnaaGreatDoor

namespace Go.Proofs.YtkncamggdfmlnaaGreatDoor
open Go.RowKit

theorem tree_zero (w : World) : IsTree w (.agg #[.slice none 0 0]) [] := ⟨_, rfl, IsPages.nil w⟩

theorem trees_flat {T1 T2 : List Pg} (h1 : flat T1 = putF (flat []) ⟨#[98]⟩ ⟨#[49]⟩) (h2 : flat T2 = putF (flat T1) ⟨#[97]⟩ ⟨#[50]⟩) : flat T2 = [(⟨#[97]⟩, ⟨#[50]⟩), (⟨#[98]⟩, ⟨#[49]⟩)] := by
  have e1 : flat T1 = [(⟨#[98]⟩, ⟨#[49]⟩)] := by rw [h1]; rfl
  rw [h2, e1]
  have a1 : klt ⟨#[98]⟩ ⟨#[97]⟩ = false := by rw [klt, Lib.toList_data, Lib.toList_data]; decide
  have a2 : klt ⟨#[97]⟩ ⟨#[98]⟩ = true := by rw [klt, Lib.toList_data, Lib.toList_data]; decide
  simp [putF, a1, a2]

theorem trees_get : getAns (getF [(⟨#[97]⟩, ⟨#[50]⟩), (⟨#[98]⟩, ⟨#[49]⟩)] ⟨#[97]⟩) = .tuple #[.string ⟨#[50]⟩, .bool true] := by simp [getF, getAns]

end Go.Proofs.YtkncamggdfmlnaaGreatDoor

