/-
  Contract of package eval's evalWithin and Eval: what an expression comes to in a row.
-/
import Derived.Test.YtaiflkmlpjnmmaaDoorXFlat
namespace Go.Proofs.YtaiflkmlpjnmmaaDoor
open Go.RowKit

/-- What the first arguments came to. -/
def Had (row : List V) (K : List E) (r : Nat) (w : World) (g : Nat) : Prop :=
  ∃ arr : Array Value, w.heap[g]? = some (.cells arr 55 (0, 0)) ∧ arr.size = 6 ∧
    ∀ (j : Nat) (x : E), j < r → K[j]? = some x → arr[j * 3]? = some (.int .i64 (ev row x).k) ∧ arr[j * 3 + 1]? = some (.int .i64 (ev row x).n) ∧ arr[j * 3 + 2]? = some (.string (ev row x).s)
theorem Had.keep {row : List V} {K : List E} {r : Nat} {w w' : World} {g : Nat} (h : Had row K r w g) (hb : w'.heap[g]? = w.heap[g]?) : Had row K r w' g := by
  obtain ⟨arr, h1, h2⟩ := h
  exact ⟨arr, hb.trans h1, h2⟩
theorem Had.lt {row : List V} {K : List E} {r : Nat} {w : World} {g : Nat} (h : Had row K r w g) : g < w.heap.size := by
  obtain ⟨arr, h1, _⟩ := h
  exact lt_of_block h1
theorem Had.cell {row : List V} {K : List E} {r : Nat} {w : World} {g : Nat} (h : Had row K r w g) {j : Nat} (hj : j < 6) : ∃ u, w.cell? ⟨g, j, none⟩ = some u := by
  obtain ⟨arr, h1, h2, _⟩ := h
  exact ⟨_, cell_of_block h1 (Array.getElem?_eq_getElem (by omega : j < arr.size))⟩
theorem Had.free {row : List V} {K : List E} {r : Nat} {w : World} {g : Nat} (h : Had row K r w g) (o : Nat) : w.frozen? ⟨g, o, none⟩ = false := by
  obtain ⟨arr, h1, _⟩ := h
  simp [World.frozen?, h1]
theorem Had.set {row : List V} {K : List E} {r : Nat} {w : World} {g : Nat} (h : Had row K r w g) {x : E} (hx : K[r]? = some x) (hr : r < 2) (v : V) (hv : v = ev row x) :
    Had row K (r + 1) (((w.setCell ⟨g, r * 3, none⟩ (.int .i64 v.k)).setCell ⟨g, r * 3 + 1, none⟩ (.int .i64 v.n)).setCell ⟨g, r * 3 + 2, none⟩ (.string v.s)) g := by
  obtain ⟨arr, h1, h2, h3⟩ := h
  refine ⟨_, set_at (set_at (set_at h1 _ _) _ _) _ _, by simp [h2], fun j y hj hy => ?_⟩
  by_cases hjr : j = r
  · subst hjr
    rw [hx] at hy
    cases hy
    subst hv
    refine ⟨?_, ?_, ?_⟩
    all_goals simp [Array.getElem?_setIfInBounds, h2]; try omega
  · obtain ⟨a0, a1, a2⟩ := h3 j y (by omega) hy
    have n0 : r * 3 ≠ j * 3 := by omega
    have n1 : r * 3 + 1 ≠ j * 3 := by omega
    have n2 : r * 3 + 2 ≠ j * 3 := by omega
    have n3 : r * 3 ≠ j * 3 + 1 := by omega
    have n4 : r * 3 + 1 ≠ j * 3 + 1 := by omega
    have n5 : r * 3 + 2 ≠ j * 3 + 1 := by omega
    have n6 : r * 3 ≠ j * 3 + 2 := by omega
    have n7 : r * 3 + 1 ≠ j * 3 + 2 := by omega
    have n8 : r * 3 + 2 ≠ j * 3 + 2 := by omega
    refine ⟨?_, ?_, ?_⟩
    · rw [Array.getElem?_setIfInBounds_ne n2, Array.getElem?_setIfInBounds_ne n1, Array.getElem?_setIfInBounds_ne n0]; exact a0
    · rw [Array.getElem?_setIfInBounds_ne n5, Array.getElem?_setIfInBounds_ne n4, Array.getElem?_setIfInBounds_ne n3]; exact a1
    · rw [Array.getElem?_setIfInBounds_ne n8, Array.getElem?_setIfInBounds_ne n7, Array.getElem?_setIfInBounds_ne n6]; exact a2
theorem Had.vals {row : List V} {K : List E} {w : World} {g : Nat} (h : Had row K K.length w g) : IsVals w (.slice (some ⟨g, 0, none⟩) K.length 2) (K.map (ev row)) := by
  refine .inr ⟨g, 0, 2, by rw [List.length_map], h.lt, fun i v hi => ?_⟩
  obtain ⟨arr, h1, h2, h3⟩ := h
  rw [List.getElem?_map] at hi
  cases hk : K[i]? with
  | none => rw [hk] at hi; cases hi
  | some y =>
    rw [hk] at hi
    simp at hi
    subst hi
    obtain ⟨a0, a1, a2⟩ := h3 i y (List.getElem?_eq_some_iff.1 hk).1 hk
    rw [Nat.zero_add]
    exact ⟨cell_of_block h1 a0, cell_of_block h1 a1, cell_of_block h1 a2⟩
theorem heap_set3 {w : World} {g k : Nat} (h : k ≠ g) (a b c : Nat) (x y z : Value) : (((w.setCell ⟨g, a, none⟩ x).setCell ⟨g, b, none⟩ y).setCell ⟨g, c, none⟩ z).heap[k]? = w.heap[k]? := by
  rw [Below.heap_setCell _ _ _ _ h, Below.heap_setCell _ _ _ _ h, Below.heap_setCell _ _ _ _ h]
theorem size_set3 (w : World) (g a b c : Nat) (x y z : Value) : (((w.setCell ⟨g, a, none⟩ x).setCell ⟨g, b, none⟩ y).setCell ⟨g, c, none⟩ z).heap.size = w.heap.size := by simp [World.setCell]
theorem nodesL_mem : ∀ {l : List E} {x : E}, x ∈ l → x.nodes ≤ nodesL l
  | y :: l, x, h => by
    rw [nodesL]
    rcases List.mem_cons.1 h with rfl | h
    · omega
    · have := nodesL_mem h; omega
theorem nodes_mem {e x : E} (h : x ∈ e.kids) : x.nodes ≤ e.nodes := by
  have := nodesL_mem h
  have := nodes_kids e
  omega

/-- What evalWithin promises, with so many calls within each other. -/
def WithinSays (m : Nat) : Prop := ∀ (e : E) (v rv : Value) (row : List V) (C : Nat) (w : World), IsE (fun k => k < C) w e v → C ≤ w.heap.size → e.nodes ≤ 16777216 → fitE e → IsVals w rv row → (∀ v ∈ row, v.s.size ≤ maxLen) → row.length ≤ maxLen →
    Calls Tryd.prog 29 #[v, rv, .int .i64 (m : Int)] w fun r w' => r = .returned (ev row e).val ∧ Below w.heap.size w w'

set_option maxRecDepth 100000 in
set_option maxHeartbeats 4000000 in
theorem within_zero : WithinSays 0 := by
  intro e v rv row C w he hC hn hf hr hrs hrl
  obtain ⟨op, ⟨xk, xn, xs⟩, s, name, n, ao, k, c, rfl⟩ := he.shape
  obtain ⟨ro, rc, rfl⟩ := hr.shape
  have hb2 : Below w.heap.size w ((w.alloc (.cells (eArr op ⟨xk, xn, xs⟩ s name n (.slice ao k c)) 32)).alloc (.cells #[.int .i64 0, .int .i64 0, .string noW] 23)) := bel2 _ _ _
  have hW := evalFlat_any e _ _ row C _ (IsE.keep (keepsC (hb2.mono hC)) e _ he) (Nat.le_trans hC hb2.size) hn hf (hr.below hb2) hrs hrl
  generalize ev row e = z at hW ⊢
  obtain ⟨zk, zn, zs⟩ := z
  simp only [V.val] at hW
  show Calls Tryd.prog 29 #[_, _, .int .i64 0] w _
  go_enter Tryd.func29, Tryd.ntmps29
  go_wp2_with (first | (go_at_call 37; refine hW.mono ?_; rintro r1 w1 ⟨rfl, hb1⟩; obtain ⟨hcc, hff⟩ := bcell hb1))
  exact end_val ⟨zk, zn, zs⟩ Tryd.results29 rfl rfl ((hb1.block _ (by simp)).trans (block2 _ _ _)) (bthen (bel2 _ _ _) hb1) (by omega)

set_option maxRecDepth 100000 in
set_option maxHeartbeats 4000000 in
theorem within_succ (m : Nat) (hm : m < 1000) (ih : WithinSays m) : WithinSays (m + 1) := by
  intro e v rv row C w he hC hn hf hr hrs hrl
  have H0 : ∃ op xk xn xs s name n ao c l, e = .mk op ⟨xk, xn, xs⟩ s name n l ∧ v = .agg (eArr op ⟨xk, xn, xs⟩ s name n (.slice ao l.length c)) ∧ IsEs (fun k => k < C) w (.slice ao l.length c) l := by
    cases e with
    | mk op x s name n l =>
      obtain ⟨sv, h1, h2⟩ := he.open
      obtain ⟨ao, c, rfl⟩ := h2.shape
      obtain ⟨xk, xn, xs⟩ := x
      exact ⟨op, xk, xn, xs, s, name, n, ao, c, l, rfl, h1, h2⟩
  obtain ⟨op, xk, xn, xs, s, name, n, ao, c, l, rfl, rfl, hes⟩ := H0
  obtain ⟨ro, rc, rfl⟩ := hr.shape
  clear he
  have hb3 : Below w.heap.size w (((w.alloc (.cells (eArr op ⟨xk, xn, xs⟩ s name n (.slice ao l.length c)) 32)).alloc (.cells #[.int .i64 0, .int .i64 0, .string noW] 23)).alloc (.cells #[.int .i64 0, .int .i64 0, .string noW, .int .i64 0, .int .i64 0, .string noW] 55)) := bel3 _ _ _ _
  have ha := arguments_kids op ⟨xk, xn, xs⟩ s name n ao c l _ (hes.keep (keepsC (hb3.mono hC))) (Nat.le_trans hC hb3.size)
  have hkl : (kidsOf op l).length ≤ 2 := kids_le (.mk op ⟨xk, xn, xs⟩ s name n l)
  have hkn : Hid (∀ x ∈ kidsOf op l, x.nodes ≤ 16777216 ∧ fitE x) := fun x hx => ⟨Nat.le_trans (nodes_mem (e := .mk op ⟨xk, xn, xs⟩ s name n l) hx) hn, fitE_kids hf x hx⟩
  have HEV : Hid (ev row (.mk op ⟨xk, xn, xs⟩ s name n l) = appV op ⟨xk, xn, xs⟩ n ((kidsOf op l).map (ev row)) row) := ev_kids _ _ _ _ _ _ _
  generalize kidsOf op l = K at ha hkl hkn HEV
  have m0 : (0 : Int) < (m : Int) + 1 := by omega
  have m1 : IntKind.i64.wrap ((m : Int) + 1 - 1) = (m : Int) := by rw [IntKind.wrap_i64]; omega
  rw [show ((m + 1 : Nat) : Int) = (m : Int) + 1 from by omega]
  go_enter Tryd.func29, Tryd.ntmps29
  go_wp2_with (first | (go_at_call 38; refine ha.mono ?_; rintro e1 w1 ⟨ko, kc, rfl, hk1, hb1⟩))
  have hbw : Below w.heap.size w w1 := bthen hb3 hb1
  have hE1 : w1.heap[w.heap.size]? = some (.cells (eArr op ⟨xk, xn, xs⟩ s name n (.slice ao l.length c)) 32) := (hb1.block _ (by simp; omega)).trans (block_alloc_of (block_alloc_of (block_alloc_at _ _) _) _)
  have hR1 : w1.heap[w.heap.size + 1]? = some (.cells #[.int .i64 0, .int .i64 0, .string noW] 23) := (hb1.block _ (by simp)).trans (block_alloc_of (block2 _ _ _) _)
  have hG1 : Had row K 0 w1 (w.heap.size + 1 + 1) := ⟨_, (hb1.block _ (by simp)).trans (block3 _ _ _ _), rfl, fun j x hj => absurd hj (by omega)⟩
  clear hb1 ha hb3 hes
  go_loopw [20] (fun i wr => ∃ j : Nat, j ≤ K.length ∧ i = .int .i64 j ∧ Had row K j wr (w.heap.size + 1 + 1) ∧ wr.heap[w.heap.size]? = some (.cells (eArr op ⟨xk, xn, xs⟩ s name n (.slice ao l.length c)) 32) ∧ wr.heap[w.heap.size + 1]? = some (.cells #[.int .i64 0, .int .i64 0, .string noW] 23) ∧ Below w.heap.size w wr ∧ w1.heap.size ≤ wr.heap.size) (fun i _ => K.length - (intOf i).toNat)
  case atStart => exact ⟨0, Nat.zero_le _, rfl, hG1, hE1, hR1, hbw, Nat.le_refl _⟩
  case round =>
    obtain ⟨j, hj, rfl, hG, hE, hR, hbel, hsz⟩ := hrel
    have hkr : IsEs (fun k => k < C) wr (.slice ko K.length kc) K := hk1.keep ⟨hsz, fun k hk _ => (hbel.block k (by omega)).trans (hbw.block k (by omega)).symm⟩
    clear hE1 hR1 hG1
    by_cases hjk : j < K.length
    · obtain ⟨y, hy⟩ : ∃ y, K[j]? = some y := ⟨_, List.getElem?_eq_getElem hjk⟩
      obtain ⟨hyn, hyf⟩ := hkn.out y (List.mem_of_getElem? hy)
      obtain ⟨cs, hrB, haE⟩ := hkr
      obtain ⟨kb, kf, rfl⟩ : ∃ kb kf, ko = some ⟨kb, kf, none⟩ := by
        rcases hrB.2 with ⟨h1, _⟩ | ⟨_, kb, kf, kc', h2, _⟩
        · omega
        · cases h2; exact ⟨kb, kf, rfl⟩
      obtain ⟨yo, yk, yn, yt, ys, ym, yi, ya, yl, yc, hye, hyc⟩ := row_elem hrB haE hy
      obtain ⟨c0, c1, c2, c3, c4, c5, c6, c7⟩ := hyc wr (Below.refl _ _)
      have j0 : (0 : Int) ≤ (j : Int) := by omega
      have j1 : (j : Int) < (K.length : Int) := by omega
      have j2 : (j : Int) < 2 := by omega
      have HY : Hid (K[j]? = some y) := hy
      clear hy hyc hrB haE
      have hba : Below wr.heap.size wr (wr.alloc (.cells #[.int .i64 yo, .int .i64 yk, .int .i64 yn, .string yt, .string ys, .string ym, .int .i64 yi, .slice ya yl yc] 32)) := bel1 _ _
      have hW := ih y _ _ row C _ (IsE.keep (keepsC (hba.mono (Nat.le_trans hC hbel.size))) y _ hye) (Nat.le_trans (Nat.le_trans hC hbel.size) hba.size) hyn hyf ((hr.below hbel).below hba) hrs hrl
      generalize hz : ev row y = z at hW
      obtain ⟨zk, zn, zs⟩ := z
      simp only [V.val] at hW
      have hglt := hG.lt
      have hG2 := hG.keep (hba.block _ hglt)
      obtain ⟨u0, hu0⟩ := hG2.cell (j := j * 3) (by omega)
      obtain ⟨u1, hu1⟩ := hG2.cell (j := j * 3 + 1) (by omega)
      obtain ⟨u2, hu2⟩ := hG2.cell (j := j * 3 + 2) (by omega)
      have huf := hG2.free
      have hglt2 := hG2.lt
      go_wp2_with (first | (go_at_call 29; refine hW.mono ?_; rintro r1 w2 ⟨rfl, hb2⟩; have q1 := (fun o => hb2.cell (p := ⟨w.heap.size + 1 + 1, o, none⟩) hglt2); have q2 := (fun o => hb2.frozen (p := ⟨w.heap.size + 1 + 1, o, none⟩) hglt2)))
      have hbw2 : Below w.heap.size w w2 := hbel.trans ((bthen hba hb2).mono hbel.size)
      have hlt0 := lt_of_block hE
      have hlt1 := lt_of_block hR
      go_roundw
      case rel =>
        refine ⟨j + 1, by omega, by go_num, (hG2.keep (hb2.block _ hglt2)).set HY.out (by omega) ⟨zk, zn, zs⟩ hz.symm, ?_, ?_, ?_, ?_⟩
        · rw [heap_set3 (by omega)]; exact ((bthen hba hb2).block _ hlt0).trans hE
        · rw [heap_set3 (by omega)]; exact ((bthen hba hb2).block _ hlt1).trans hR
        · exact ((hbw2.setCell (show w.heap.size ≤ w.heap.size + 1 + 1 by omega) _).setCell (show w.heap.size ≤ w.heap.size + 1 + 1 by omega) _).setCell (show w.heap.size ≤ w.heap.size + 1 + 1 by omega) _
        · rw [size_set3]; exact Nat.le_trans hsz (bthen hba hb2).size
      case measure => simp [intOf]; omega
    · have hjK : j = K.length := by omega
      subst hjK
      have hcs := hG.vals
      have hsm : ∀ v ∈ K.map (ev row), v.s.size ≤ maxLen := by
        intro v hv
        obtain ⟨y, hy, rfl⟩ := List.mem_map.1 hv
        exact small_ev row hrs y (hkn.out y hy).2
      have hap := fun W (hW : Below wr.heap.size wr W) => apply_any op ⟨xk, xn, xs⟩ s name n ao l.length c _ (.slice ro row.length rc) _ row W (hcs.below hW) hsm ((hr.below hbel).below hW) hrl
      rw [← HEV.out] at hap
      have c0 := cell_of_block hE (j := 0) rfl
      have c1 := cell_of_block hE (j := 1) rfl
      have c2 := cell_of_block hE (j := 2) rfl
      have c3 := cell_of_block hE (j := 3) rfl
      have c4 := cell_of_block hE (j := 4) rfl
      have c5 := cell_of_block hE (j := 5) rfl
      have c6 := cell_of_block hE (j := 6) rfl
      have c7 := cell_of_block hE (j := 7) rfl
      have r0 := cell_of_block hR (j := 0) rfl
      have r1 := cell_of_block hR (j := 1) rfl
      have r2 := cell_of_block hR (j := 2) rfl
      have rf : ∀ o, wr.frozen? ⟨w.heap.size + 1, o, none⟩ = false := fun o => by simp [World.frozen?, hR]
      have hlt0 := lt_of_block hE
      have hlt1 := lt_of_block hR
      have s0 : (0 : Int) ≤ (K.length : Int) := by omega
      have s1 : (K.length : Int) ≤ 2 := by omega
      generalize hz : ev row (.mk op ⟨xk, xn, xs⟩ s name n l) = z at hap
      obtain ⟨zk, zn, zs⟩ := z
      simp only [V.val] at hap
      clear hcs hsm hkr hk1 HEV hE
      go_wp2
      go_region_held3 (fun w' => w'.cell? ⟨w.heap.size, 0, none⟩ = some (.int .i64 op) ∧ w'.cell? ⟨w.heap.size, 1, none⟩ = some (.int .i64 xk) ∧ w'.cell? ⟨w.heap.size, 2, none⟩ = some (.int .i64 xn) ∧ w'.cell? ⟨w.heap.size, 3, none⟩ = some (.string xs) ∧ w'.cell? ⟨w.heap.size, 4, none⟩ = some (.string s) ∧ w'.cell? ⟨w.heap.size, 5, none⟩ = some (.string name) ∧ w'.cell? ⟨w.heap.size, 6, none⟩ = some (.int .i64 n) ∧ w'.cell? ⟨w.heap.size, 7, none⟩ = some (.slice ao l.length c)) (first | (go_keep; done) | ((try dsimp only); (repeat' apply And.intro) <;> (rw [cell_set_ne (by omega), cell_set_ne (by omega), cell_set_ne (by omega)]; first | assumption | go_keep | simp_all)))
        (first | (go_at_call 39; go_fit (hap _ (Below.refl _ _).drew); rintro e2 w3 ⟨rfl, hb3⟩; obtain ⟨q1, q2, q3, q4⟩ := four (a := w.heap.size) (b := w.heap.size) (g := w.heap.size + 1) hb3 hlt0 hlt0 hlt1))
      go_wp2
      rw [hz]
      exact end_val ⟨zk, zn, zs⟩ Tryd.results29 rfl rfl ((hb3.block _ hlt1).trans hR) (hbel.drew.trans (hb3.mono hbel.size)) (by omega)

theorem within_any : ∀ m : Nat, m ≤ 1000 → WithinSays m
  | 0, _ => within_zero
  | m + 1, h => within_succ m (by omega) (within_any m (by omega))

set_option maxRecDepth 100000 in
set_option maxHeartbeats 4000000 in
/-- P5.2, P5.3: Eval. -/
theorem eval_any (e : E) (v rv : Value) (row : List V) (C : Nat) (w : World) (he : IsE (fun k => k < C) w e v) (hC : C ≤ w.heap.size) (hn : e.nodes ≤ 16777216) (hf : fitE e) (hr : IsVals w rv row) (hrs : ∀ v ∈ row, v.s.size ≤ maxLen) (hrl : row.length ≤ maxLen) :
    Calls Tryd.prog 16 #[v, rv] w fun r w' => r = .returned (ev row e).val ∧ Below w.heap.size w w' := by
  obtain ⟨op, ⟨xk, xn, xs⟩, s, name, n, ao, k, c, rfl⟩ := he.shape
  obtain ⟨ro, rc, rfl⟩ := hr.shape
  have hb2 : Below w.heap.size w ((w.alloc (.cells (eArr op ⟨xk, xn, xs⟩ s name n (.slice ao k c)) 32)).alloc (.cells #[.int .i64 0, .int .i64 0, .string noW] 23)) := bel2 _ _ _
  have hW : Calls Tryd.prog 29 #[.agg (eArr op ⟨xk, xn, xs⟩ s name n (.slice ao k c)), .slice ro row.length rc, .int .i64 1000] _ _ := within_any 1000 (Nat.le_refl _) e _ _ row C _ (IsE.keep (keepsC (hb2.mono hC)) e _ he) (Nat.le_trans hC hb2.size) hn hf (hr.below hb2) hrs hrl
  generalize ev row e = z at hW ⊢
  obtain ⟨zk, zn, zs⟩ := z
  simp only [V.val] at hW
  go_enter Tryd.func16, Tryd.ntmps16
  go_wp2_with (first | (go_at_call 29; refine hW.mono ?_; rintro r1 w1 ⟨rfl, hb1⟩; obtain ⟨hcc, hff⟩ := bcell hb1))
  exact end_val ⟨zk, zn, zs⟩ Tryd.results16 rfl rfl ((hb1.block _ (by simp)).trans (block2 _ _ _)) (bthen (bel2 _ _ _) hb1) (by omega)

end Go.Proofs.YtaiflkmlpjnmmaaDoor
