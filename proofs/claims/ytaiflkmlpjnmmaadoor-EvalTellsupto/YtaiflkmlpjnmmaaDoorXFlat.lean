/-
  Contract of package eval's evalFlat: what an expression comes to, without calls within each other.
-/
import Derived.Test.YtaiflkmlpjnmmaaDoorXWith
import Derived.Test.YtaiflkmlpjnmmaaDoorXApply
import Derived.Laws.MakeOwn
namespace Go.Proofs.YtaiflkmlpjnmmaaDoor
open Go.RowKit

mutual
/-- Texts that fit. -/
def fitE : E → Prop
  | .mk _ x _ _ _ l => x.s.size ≤ maxLen ∧ fitL l
def fitL : List E → Prop
  | [] => True
  | e :: l => fitE e ∧ fitL l
end
theorem fitL_mem : ∀ {l : List E} {e : E}, fitL l → e ∈ l → fitE e
  | [], _, _, h => by cases h
  | x :: l, e, h, he => by
    rw [fitL] at h
    rcases List.mem_cons.1 he with rfl | he
    · exact h.1
    · exact fitL_mem h.2 he
theorem fitE_kids {e : E} (h : fitE e) : ∀ x ∈ e.kids, fitE x := by
  cases e with
  | mk op x s name n l =>
    rw [fitE] at h
    intro y hy
    simp only [E.kids, kidsOf] at hy
    split at hy
    · exact fitL_mem h.2 hy
    · cases hy
theorem small_zero : zero.s.size ≤ maxLen := by simp [zero, ByteArray.size]
theorem small_truth (n : Int) : (truthV n).s.size ≤ maxLen := by unfold truthV; split <;> simp [zero, ByteArray.size]
theorem small_wh (b : Bool) : (whV b).s.size ≤ maxLen := by simp [whV, ByteArray.size]
theorem small_num (n : Int) : (numV n).s.size ≤ maxLen := by unfold numV; split <;> simp [zero, ByteArray.size]
theorem small_one (op : Int) (a : V) : (oneV op a).s.size ≤ maxLen := by
  unfold oneV
  split
  · exact small_truth _
  · split
    · exact small_wh _
    · exact small_zero
theorem small_kn (op : Int) (a b : V) : (knV op a b).s.size ≤ maxLen := by
  unfold knV
  split
  · exact small_wh _
  · split
    · exact small_wh _
    · split
      · split
        · exact small_num _
        · split
          · exact small_num _
          · exact small_zero
      · exact small_zero
theorem small_two (op : Int) (a b : V) : (twoV op a b).s.size ≤ maxLen := by
  unfold twoV
  split
  · exact small_truth _
  · split
    · exact small_truth _
    · split
      · exact small_kn _ _ _
      · exact small_zero
theorem small_none (op : Int) (x : V) (n : Int) (row : List V) (hx : x.s.size ≤ maxLen) (hr : ∀ v ∈ row, v.s.size ≤ maxLen) : (noneV op x n row).s.size ≤ maxLen := by
  unfold noneV rowV
  split
  · exact hx
  · split
    · split
      · cases h : row[n.toNat]? with
        | none => exact small_zero
        | some v => exact hr v (List.mem_of_getElem? h)
      · exact small_zero
    · exact small_zero
theorem small_ev (row : List V) (hr : ∀ v ∈ row, v.s.size ≤ maxLen) (e : E) (h : fitE e) : (ev row e).s.size ≤ maxLen := by
  cases e with
  | mk op x s name n l =>
    rw [fitE] at h
    rw [ev_kids]
    unfold appV
    split
    · exact small_one _ _
    · exact small_two _ _ _
    · exact small_none op x n row h.1 hr

/-- What the last ones came to. -/
def Came (row : List V) (L : List E) (r : Nat) (w : World) (g : Nat) : Prop :=
  ∃ arr : Array Value, w.heap[g]? = some (.cells arr 23 (0, 0)) ∧ arr.size = L.length * 3 ∧
    ∀ (j : Nat) (x : E), r ≤ j → L[j]? = some x → arr[j * 3]? = some (.int .i64 (ev row x).k) ∧ arr[j * 3 + 1]? = some (.int .i64 (ev row x).n) ∧ arr[j * 3 + 2]? = some (.string (ev row x).s)
theorem Came.keep {row : List V} {L : List E} {r : Nat} {w w' : World} {g : Nat} (h : Came row L r w g) (hb : w'.heap[g]? = w.heap[g]?) : Came row L r w' g := by
  obtain ⟨arr, h1, h2⟩ := h
  exact ⟨arr, hb.trans h1, h2⟩
theorem Came.cell {row : List V} {L : List E} {r : Nat} {w : World} {g : Nat} (h : Came row L r w g) {j : Nat} (hj : j < L.length * 3) : ∃ u, w.cell? ⟨g, j, none⟩ = some u := by
  obtain ⟨arr, h1, h2, _⟩ := h
  exact ⟨_, cell_of_block h1 (Array.getElem?_eq_getElem (by omega : j < arr.size))⟩
theorem Came.free {row : List V} {L : List E} {r : Nat} {w : World} {g : Nat} (h : Came row L r w g) (o : Nat) : w.frozen? ⟨g, o, none⟩ = false := by
  obtain ⟨arr, h1, _⟩ := h
  simp [World.frozen?, h1]
theorem Came.set {row : List V} {L : List E} {r : Nat} {w : World} {g : Nat} (h : Came row L (r + 1) w g) {x : E} (hx : L[r]? = some x) (v : V) (hv : v = ev row x) :
    Came row L r (((w.setCell ⟨g, r * 3, none⟩ (.int .i64 v.k)).setCell ⟨g, r * 3 + 1, none⟩ (.int .i64 v.n)).setCell ⟨g, r * 3 + 2, none⟩ (.string v.s)) g := by
  obtain ⟨arr, h1, h2, h3⟩ := h
  have hr : r < L.length := (List.getElem?_eq_some_iff.1 hx).1
  refine ⟨_, set_at (set_at (set_at h1 _ _) _ _) _ _, by simp [h2], fun j y hj hy => ?_⟩
  by_cases hjr : j = r
  · subst hjr
    rw [hx] at hy
    cases hy
    subst hv
    refine ⟨?_, ?_, ?_⟩
    all_goals simp [Array.getElem?_setIfInBounds, h2]; try omega
  · obtain ⟨a0, a1, a2⟩ := h3 j y (by omega) hy
    have n0 : r * 3 ≠ j * 3 := by omega
    have n1 : r * 3 + 1 ≠ j * 3 := by omega
    have n2 : r * 3 + 2 ≠ j * 3 := by omega
    have n3 : r * 3 ≠ j * 3 + 1 := by omega
    have n4 : r * 3 + 1 ≠ j * 3 + 1 := by omega
    have n5 : r * 3 + 2 ≠ j * 3 + 1 := by omega
    have n6 : r * 3 ≠ j * 3 + 2 := by omega
    have n7 : r * 3 + 1 ≠ j * 3 + 2 := by omega
    have n8 : r * 3 + 2 ≠ j * 3 + 2 := by omega
    refine ⟨?_, ?_, ?_⟩
    · rw [Array.getElem?_setIfInBounds_ne n2, Array.getElem?_setIfInBounds_ne n1, Array.getElem?_setIfInBounds_ne n0]; exact a0
    · rw [Array.getElem?_setIfInBounds_ne n5, Array.getElem?_setIfInBounds_ne n4, Array.getElem?_setIfInBounds_ne n3]; exact a1
    · rw [Array.getElem?_setIfInBounds_ne n8, Array.getElem?_setIfInBounds_ne n7, Array.getElem?_setIfInBounds_ne n6]; exact a2
theorem Came.holds {row : List V} {e : E} {L : List E} {r : Nat} {w : World} {g : Nat} (h : Came row L (r + 1) w g) (hQ : Queue e L L.length) {x : E} (hx : L[r]? = some x) : HoldsV w g (beg L r * 3) (x.kids.map (ev row)) := by
  obtain ⟨arr, h1, h2, h3⟩ := h
  intro i v hi
  rw [List.getElem?_map] at hi
  cases hk : x.kids[i]? with
  | none => rw [hk] at hi; cases hi
  | some y =>
    rw [hk] at hi
    simp at hi
    subst hi
    have hr : r < L.length := (List.getElem?_eq_some_iff.1 hx).1
    have hb := hQ.behind hr
    obtain ⟨a0, a1, a2⟩ := h3 (beg L r + i) y (by omega) (hQ.at hx hk)
    have e0 : beg L r * 3 + i * 3 = (beg L r + i) * 3 := by omega
    rw [e0]
    exact ⟨cell_of_block h1 a0, cell_of_block h1 a1, cell_of_block h1 a2⟩

/-- Three blocks that stay. -/
theorem four {W w1 : World} {a b g : Nat} (h : Below W.heap.size W w1) (ha : a < W.heap.size) (hb : b < W.heap.size) (hg : g < W.heap.size) :
    (∀ o, w1.cell? ⟨a, o, none⟩ = W.cell? ⟨a, o, none⟩) ∧ (∀ o, w1.cell? ⟨b, o, none⟩ = W.cell? ⟨b, o, none⟩) ∧ (∀ o, w1.cell? ⟨g, o, none⟩ = W.cell? ⟨g, o, none⟩) ∧ (∀ o, w1.frozen? ⟨g, o, none⟩ = W.frozen? ⟨g, o, none⟩) :=
  ⟨fun o => h.cell (p := ⟨a, o, none⟩) ha, fun o => h.cell (p := ⟨b, o, none⟩) hb, fun o => h.cell (p := ⟨g, o, none⟩) hg, fun o => h.frozen (p := ⟨g, o, none⟩) hg⟩
theorem info_val : (Tryd.prog.info? 23).map (fun i => (i.zero, i.size, i.bytes)) = some (some (.agg #[.int .i64 0, .int .i64 0, .string ⟨#[]⟩]), 3, 32) := by kernel_rfl
set_option maxRecDepth 100000 in
set_option maxHeartbeats 4000000 in
theorem evalFlat_any (e : E) (v rv : Value) (row : List V) (C : Nat) (w : World) (he : IsE (fun k => k < C) w e v) (hC : C ≤ w.heap.size) (hn : e.nodes ≤ 16777216) (hf : fitE e) (hr : IsVals w rv row) (hrs : ∀ v ∈ row, v.s.size ≤ maxLen) (hrl : row.length ≤ maxLen) :
    Calls Tryd.prog 37 #[v, rv] w fun r w' => r = .returned (ev row e).val ∧ Below w.heap.size w w' := by
  obtain ⟨op, ⟨xk, xn, xs⟩, s, name, n, ao, k, c, rfl⟩ := he.shape
  obtain ⟨ro, rc, rfl⟩ := hr.shape
  have hb2 : Below w.heap.size w ((w.alloc (.cells (eArr op ⟨xk, xn, xs⟩ s name n (.slice ao k c)) 32)).alloc (.cells #[.int .i64 0, .int .i64 0, .string noW] 23)) := bel2 _ _ _
  have hW := withArguments_any e _ C _ (IsE.keep (keepsC (hb2.mono hC)) e _ he) (Nat.le_trans hC hb2.size) hn
  go_enter Tryd.func37, Tryd.ntmps37
  go_wp2_with (first | (go_at_call 42; refine hW.mono ?_; rintro r1 w1 ⟨zv, L, P, rfl, hrow, hP, hQ, hb1, hsz1⟩; obtain ⟨zo, zc, rfl⟩ := hrow.shape))
  obtain ⟨i0, hi, hz0, hz1, hz2⟩ := info_parts info_val
  have hlen : L.length ≤ e.nodes := hQ.len
  have hmk := run_make (P := Tryd.prog) w1 33 23 i0 (.agg #[.int .i64 0, .int .i64 0, .string ⟨#[]⟩]) Tryd.underlying33 hi hz0 .i64 .i64 L.length L.length (by omega) (Int.le_refl _) (by rw [hz2]; omega) (by omega)
  rw [hz1, Int.toNat_natCast] at hmk
  rw [hmk]
  have hmade : (madeCells (Value.agg #[.int .i64 0, .int .i64 0, .string ⟨#[]⟩]).cells (L.length * 3)).size = L.length * 3 := size_madeCells _ _
  generalize madeCells (Value.agg #[.int .i64 0, .int .i64 0, .string ⟨#[]⟩]).cells (L.length * 3) = arr0 at hmade
  have hcame0 : Came row L L.length (w1.alloc (.cells arr0 23)) w1.heap.size := ⟨arr0, block_alloc_at _ _, hmade, fun j x hj hx => by rw [List.getElem?_eq_none hj] at hx; cases hx⟩
  clear hmk hi hz0 hz1 hz2 hmade
  have hbw : Below w.heap.size w w1 := bthen hb2 hb1
  have hres : w1.heap[w.heap.size + 1]? = some (.cells #[.int .i64 0, .int .i64 0, .string noW] 23) := (hb1.block _ (by simp)).trans (block2 _ _ _)
  have hr1 := hr.below hbw
  have hfL : Hid (∀ x ∈ L, fitE x) := hQ.all fitE hf fun y hy => fitE_kids hy
  have HQ : Hid (Queue e L L.length) := hQ
  have HW : Hid (beg L L.length = L.length) := hQ.whole
  have H1 : 0 < L.length := by rw [hQ.eq]; simp
  have H2 : L.length ≤ 16777216 := by omega
  generalize hC1 : ((w.alloc (.cells (eArr op ⟨xk, xn, xs⟩ s name n (.slice ao k c)) 32)).alloc (.cells #[.int .i64 0, .int .i64 0, .string noW] 23)).heap.size + 1 = C1 at hP hsz1
  clear hC1 hb1 hW hb2 he hr hQ hn hf
  go_wp2
  go_loopw [7, 8] (fun en i wr => ∃ r : Nat, r ≤ L.length ∧ en = .int .i64 (beg L r : Nat) ∧ i = .int .i64 ((r : Int) - 1) ∧ Came row L r wr w1.heap.size ∧ Below w1.heap.size w1 wr) (fun _ i _ => (intOf i + 1).toNat)
  case atStart => exact ⟨L.length, Nat.le_refl _, by rw [HW.out], rfl, hcame0, (Below.refl _ _).alloc (Nat.le_refl _) _⟩
  case round =>
    obtain ⟨r, hrL, rfl, rfl, hcame, hbel⟩ := hrel
    match r, hrL, hcame with
    | 0, hrL, hcame =>
      have hfst := HQ.out.first
      obtain ⟨arr, a1, a2, a3⟩ := hcame
      obtain ⟨g0, g1, g2⟩ := a3 0 e (Nat.le_refl _) hfst
      have c0 := cell_of_block a1 g0
      have c1 := cell_of_block a1 g1
      have c2 := cell_of_block a1 g2
      clear hfst a1 a2 a3 g0 g1 g2 HQ HW hfL
      generalize hz : ev row e = z at *
      obtain ⟨zk, zn, zs⟩ := z
      simp only [Nat.zero_mul, Nat.zero_add] at c0 c1 c2
      have hlt1 : w.heap.size + 1 < w1.heap.size := lt_of_block hres
      have hres' := (hbel.block _ hlt1).trans hres
      have k0 := cell_of_block hres' (j := 0) rfl
      have k1 := cell_of_block hres' (j := 1) rfl
      have k2 := cell_of_block hres' (j := 2) rfl
      have kf : ∀ o, wr.frozen? ⟨w.heap.size + 1, o, none⟩ = false := fun o => by simp [World.frozen?, hres']
      go_wp2
      rw [hz]
      exact end_val ⟨zk, zn, zs⟩ Tryd.results37 rfl rfl hres' (hbw.trans (hbel.mono hbw.size)) (by omega)
    | r + 1, hrL, hcame =>
      obtain ⟨x, hx⟩ : ∃ x, L[r]? = some x := ⟨_, List.getElem?_eq_getElem (by omega)⟩
      have hfx := hfL.out x (List.mem_of_getElem? hx)
      obtain ⟨p, hp, hptr⟩ := hP r x hx
      have hptr := hptr.keep (hbel.mono hsz1)
      have HHV : Hid (HoldsV wr w1.heap.size (beg L r * 3) (x.kids.map (ev row))) := hcame.holds HQ.out hx
      have HBS : Hid (beg L (r + 1) = beg L r + x.kids.length) := beg_succ hx
      have hble := HQ.out.beg_le (r + 1)
      rw [HBS.out] at hble ⊢
      obtain ⟨b, o, op, xk, xn, xs, s, name, n, ao, c, l, rfl, hbC, rfl, ⟨c0, c1, c2, c3, c4, c5, c6, c7⟩, hes⟩ := hptr
      have HX : Hid (L[r]? = some (.mk op ⟨xk, xn, xs⟩ s name n l)) := hx
      clear hx
      rcases hrow.2 with ⟨h1, _⟩ | ⟨_, zb, zf, zc', h2, hzlt, _, _, h3⟩
      · omega
      cases h2
      have hzb := (hbel.cell (p := ⟨zb, zf + r, none⟩) hzlt).trans (h3 r _ hp)
      clear h3 hp
      have r0 : (0 : Int) ≤ (r : Int) := by omega
      have r1 : (r : Int) < (L.length : Int) := by omega
      have ha := arguments_kids op ⟨xk, xn, xs⟩ s name n ao c l wr hes (Nat.le_trans hsz1 hbel.size)
      rw [show (((r + 1 : Nat) : Int) - 1) = (r : Int) from by omega]
      simp only [E.kids] at HHV hble ⊢
      generalize hK : kidsOf op l = K at HHV hble ha ⊢
      generalize hbg0 : beg L r = bg at HHV hble ⊢
      have HBG : Hid (beg L r = bg) := hbg0
      clear hbg0
      go_wp2_with (first | (go_at_call 38; refine ha.mono ?_; rintro e1 w2 ⟨ko, kc, rfl, hk1, hbk⟩))
      have hgr : w1.heap.size < wr.heap.size := by obtain ⟨arr, a1, _⟩ := hcame; exact lt_of_block a1
      have hcame2 : Came row L (r + 1) w2 w1.heap.size := hcame.keep (hbk.block _ (by obtain ⟨arr, a1, _⟩ := hcame; exact lt_of_block a1))
      have hg2 : w1.heap.size < w2.heap.size := by obtain ⟨arr, a1, _⟩ := hcame2; exact lt_of_block a1
      have hbel2 : Below w1.heap.size w1 w2 := hbel.trans (hbk.mono hbel.size)
      obtain ⟨p1, p2, p3, p4⟩ := four (a := zb) (b := b) (g := w1.heap.size) hbk (by omega) (by omega) (by omega)
      obtain ⟨u0, hu0⟩ := hcame2.cell (j := r * 3) (by omega)
      obtain ⟨u1, hu1⟩ := hcame2.cell (j := r * 3 + 1) (by omega)
      obtain ⟨u2, hu2⟩ := hcame2.cell (j := r * 3 + 2) (by omega)
      have huf := hcame2.free
      have d := fun o => (p1 o)
      have hcs : IsVals w2 (.slice (if L.length = bg then some ⟨w1.heap.size, 0, none⟩ else some ⟨w1.heap.size, bg * 3, none⟩) K.length (L.length - bg)) (K.map (ev row)) := by
        split
        · have hK0 : K = [] := List.eq_nil_of_length_eq_zero (by omega)
          subst hK0
          exact .inl ⟨⟨_, _, rfl, fun h => by cases h⟩, rfl⟩
        · exact .inr ⟨w1.heap.size, bg * 3, L.length - bg, by rw [List.length_map], hg2, HHV.out.below (hbk.mono (Nat.le_refl _)) (by omega)⟩
      have hsm : ∀ v ∈ K.map (ev row), v.s.size ≤ maxLen := by
        intro v hv
        obtain ⟨y, hy, rfl⟩ := List.mem_map.1 hv
        exact small_ev row hrs y (fitE_kids hfx y (by simp only [E.kids]; rw [hK]; exact hy))
      have hap := fun W (hW : Below w2.heap.size w2 W) => apply_any op ⟨xk, xn, xs⟩ s name n ao l.length c _ (.slice ro row.length rc) _ row W (hcs.below hW) hsm ((hr1.below hbel2).below hW) hrl
      have HEV : Hid (appV op ⟨xk, xn, xs⟩ n (K.map (ev row)) row = ev row (.mk op ⟨xk, xn, xs⟩ s name n l)) := by show _ = _; rw [ev_kids, hK]
      rw [HEV.out] at hap
      generalize hz : ev row (.mk op ⟨xk, xn, xs⟩ s name n l) = z at hap
      obtain ⟨zk, zn, zs⟩ := z
      simp only [V.val] at hap
      rw [← p2] at c0 c1 c2 c3 c4 c5 c6 c7
      rw [← p1] at hzb
      clear p1 p2 p3 p4 d hsm hcs HEV HHV ha hk1 hes
      have s0 : (0 : Int) ≤ (bg : Int) := by omega
      have s1 : (bg : Int) ≤ (bg : Int) + (K.length : Int) := by omega
      have s2 : (bg : Int) + (K.length : Int) ≤ (L.length : Int) := by omega
      have s3 : (0 : Int) ≤ (bg : Int) + (K.length : Int) := by omega
      have s4 : ((bg : Int) + (K.length : Int)).toNat = bg + K.length := by omega
      by_cases hcb : L.length = bg
      · subst hcb
        have hK0 : K.length = 0 := by omega
        rw [if_pos (rfl : L.length = L.length), Nat.sub_self, hK0] at hap
        go_region_held3 (fun w' => w'.cell? ⟨zb, zf + r, none⟩ = some (.pointer (some ⟨b, o, none⟩)) ∧ w'.cell? ⟨b, o, none⟩ = some (.int .i64 op) ∧ w'.cell? ⟨b, o + 1, none⟩ = some (.int .i64 xk) ∧ w'.cell? ⟨b, o + 2, none⟩ = some (.int .i64 xn) ∧ w'.cell? ⟨b, o + 3, none⟩ = some (.string xs) ∧ w'.cell? ⟨b, o + 4, none⟩ = some (.string s) ∧ w'.cell? ⟨b, o + 5, none⟩ = some (.string name) ∧ w'.cell? ⟨b, o + 6, none⟩ = some (.int .i64 n) ∧ w'.cell? ⟨b, o + 7, none⟩ = some (.slice ao l.length c)) (first | (go_keep; done) | ((try dsimp only); (repeat' apply And.intro) <;> (rw [cell_set_ne (by omega), cell_set_ne (by omega), cell_set_ne (by omega)]; first | assumption | go_keep | simp_all)))
          (first | (go_at_call 39; refine (hap _ (Below.refl _ _).drew).mono ?_; rintro e2 w3 ⟨rfl, hb3⟩; obtain ⟨q1, q2, q3, q4⟩ := four (a := zb) (b := b) (g := w1.heap.size) hb3 (show zb < w2.heap.size by omega) (show b < w2.heap.size by omega) hg2))
        go_wp2
        go_roundw
        case rel =>
          refine ⟨r, by omega, by rw [HBG.out], by go_num, ?_, ?_⟩
          · exact (hcame2.keep (hb3.block _ hg2)).set HX.out ⟨zk, zn, zs⟩ hz.symm
          · exact (((hbel2.drew.trans (hb3.mono (Nat.le_of_lt hg2))).setCell (Nat.le_refl _) _).setCell (Nat.le_refl _) _).setCell (Nat.le_refl _) _
        case measure => simp [intOf]
      · rw [if_neg hcb] at hap
        go_region_held3 (fun w' => w'.cell? ⟨zb, zf + r, none⟩ = some (.pointer (some ⟨b, o, none⟩)) ∧ w'.cell? ⟨b, o, none⟩ = some (.int .i64 op) ∧ w'.cell? ⟨b, o + 1, none⟩ = some (.int .i64 xk) ∧ w'.cell? ⟨b, o + 2, none⟩ = some (.int .i64 xn) ∧ w'.cell? ⟨b, o + 3, none⟩ = some (.string xs) ∧ w'.cell? ⟨b, o + 4, none⟩ = some (.string s) ∧ w'.cell? ⟨b, o + 5, none⟩ = some (.string name) ∧ w'.cell? ⟨b, o + 6, none⟩ = some (.int .i64 n) ∧ w'.cell? ⟨b, o + 7, none⟩ = some (.slice ao l.length c)) (first | (go_keep; done) | ((try dsimp only); (repeat' apply And.intro) <;> (rw [cell_set_ne (by omega), cell_set_ne (by omega), cell_set_ne (by omega)]; first | assumption | go_keep | simp_all)))
          (first | (go_at_call 39; refine (hap _ (Below.refl _ _).drew).mono ?_; rintro e2 w3 ⟨rfl, hb3⟩; obtain ⟨q1, q2, q3, q4⟩ := four (a := zb) (b := b) (g := w1.heap.size) hb3 (show zb < w2.heap.size by omega) (show b < w2.heap.size by omega) hg2))
        go_wp2
        go_roundw
        case rel =>
          refine ⟨r, by omega, by rw [HBG.out], by go_num, ?_, ?_⟩
          · exact (hcame2.keep (hb3.block _ hg2)).set HX.out ⟨zk, zn, zs⟩ hz.symm
          · exact (((hbel2.drew.trans (hb3.mono (Nat.le_of_lt hg2))).setCell (Nat.le_refl _) _).setCell (Nat.le_refl _) _).setCell (Nat.le_refl _) _
        case measure => simp [intOf]

end Go.Proofs.YtaiflkmlpjnmmaaDoor
