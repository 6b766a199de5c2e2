/-
  Contract of the statements' own EvalOf: Plus, Minus, Eq, Lt.
-/
import Derived.Test.YtaiflkmlpjnmmaaDoorXRef2
namespace Go.Proofs.YtaiflkmlpjnmmaaDoor
open Go.RowKit

/-- What is known while two values are looked at. -/
def Kn (W : World) (g h : Nat) (op zk zn : Int) (zs : ByteArray) (zk' zn' : Int) (zs' : ByteArray) : Prop :=
  g + 1 + 1 < h ∧ h + 1 < W.heap.size ∧ W.cell? ⟨g, 0, none⟩ = some (.int .i64 op) ∧ W.cell? ⟨g + 1 + 1, 0, none⟩ = some (.int .i64 0) ∧ W.cell? ⟨g + 1 + 1, 1, none⟩ = some (.int .i64 0) ∧ W.cell? ⟨g + 1 + 1, 2, none⟩ = some (.string noW) ∧ (∀ o, W.frozen? ⟨g + 1 + 1, o, none⟩ = false) ∧
    W.cell? ⟨h, 0, none⟩ = some (.int .i64 zk) ∧ W.cell? ⟨h, 1, none⟩ = some (.int .i64 zn) ∧ W.cell? ⟨h, 2, none⟩ = some (.string zs) ∧ W.cell? ⟨h + 1, 0, none⟩ = some (.int .i64 zk') ∧ W.cell? ⟨h + 1, 1, none⟩ = some (.int .i64 zn') ∧ W.cell? ⟨h + 1, 2, none⟩ = some (.string zs')
theorem Kn.step {W W' : World} {g h : Nat} {op zk zn : Int} {zs : ByteArray} {zk' zn' : Int} {zs' : ByteArray} (k : Kn W g h op zk zn zs zk' zn' zs') (hb : Below W.heap.size W W') : Kn W' g h op zk zn zs zk' zn' zs' := by
  obtain ⟨h1, h2, c0, c1, c2, c3, cf, a0, a1, a2, b0, b1, b2⟩ := k
  have kc : ∀ b o, b < W.heap.size → W'.cell? ⟨b, o, none⟩ = W.cell? ⟨b, o, none⟩ := fun b o hh => hb.cell (p := ⟨b, o, none⟩) hh
  exact ⟨h1, Nat.lt_of_lt_of_le h2 hb.size, (kc _ _ (by omega)).trans c0, (kc _ _ (by omega)).trans c1, (kc _ _ (by omega)).trans c2, (kc _ _ (by omega)).trans c3, fun o => (hb.frozen (p := ⟨g + 1 + 1, o, none⟩) (show g + 1 + 1 < _ by omega)).trans (cf o),
    (kc _ _ (by omega)).trans a0, (kc _ _ (by omega)).trans a1, (kc _ _ (by omega)).trans a2, (kc _ _ (by omega)).trans b0, (kc _ _ (by omega)).trans b1, (kc _ _ (by omega)).trans b2⟩
theorem Kn.start {w w3 : World} {op : Int} {x : V} {s name : Wd} {n : Int} {sv rv : Value} (hb : Below (ofW w op x s name n sv rv).heap.size (ofW w op x s name n sv rv) w3) (zk zn : Int) (zs : ByteArray) (zk' zn' : Int) (zs' : ByteArray) :
    Kn ((w3.alloc (.cells #[.int .i64 zk, .int .i64 zn, .string zs] 23)).alloc (.cells #[.int .i64 zk', .int .i64 zn', .string zs'] 23)) w.heap.size w3.heap.size op zk zn zs zk' zn' zs' := by
  have hsz := hb.size
  rw [show (ofW w op x s name n sv rv).heap.size = w.heap.size + 3 from by simp [ofW]] at hsz
  have hb2 := bel2 w3 (.cells #[.int .i64 zk, .int .i64 zn, .string zs] 23) (.cells #[.int .i64 zk', .int .i64 zn', .string zs'] 23)
  have hT := bthen hb hb2
  have B0 := (hT.block w.heap.size (by simp [ofW]; omega)).trans (block_alloc_of (block_alloc_of (block_alloc_at w (.cells (eArr op x s name n sv) 32)) (.cells #[rv] 33)) (.cells #[.int .i64 0, .int .i64 0, .string noW] 23))
  have B2 := (hT.block (w.heap.size + 2) (by simp [ofW])).trans (block3 w (.cells (eArr op x s name n sv) 32) (.cells #[rv] 33) (.cells #[.int .i64 0, .int .i64 0, .string noW] 23))
  have BA := block_alloc_of (block_alloc_at w3 (.cells #[.int .i64 zk, .int .i64 zn, .string zs] 23)) (.cells #[.int .i64 zk', .int .i64 zn', .string zs'] 23)
  have BB := block2 w3 (.cells #[.int .i64 zk, .int .i64 zn, .string zs] 23) (.cells #[.int .i64 zk', .int .i64 zn', .string zs'] 23)
  exact ⟨by omega, by simp, cell_of_block B0 rfl, cell_of_block B2 rfl, cell_of_block B2 rfl, cell_of_block B2 rfl, fun o => by simp [World.frozen?, B2], cell_of_block BA rfl, cell_of_block BA rfl, cell_of_block BA rfl, cell_of_block BB rfl, cell_of_block BB rfl, cell_of_block BB rfl⟩
theorem cmpV_eq (a b : V) : decide (cmpV a b = 0) = (a.k == b.k && a.n == b.n && a.s.toList == b.s.toList) := by
  have hI : ∀ x y : Int, cmpI x y = 0 ↔ x = y := fun x y => by unfold cmpI; repeat' split <;> omega
  have hS : ∀ x y : ByteArray, cmpS x y = 0 ↔ x.toList = y.toList := fun x y => by
    unfold cmpS
    by_cases h : x.toList = y.toList
    · have : Op.bytesLess x.toList y.toList = false := by rw [h]; exact less_irrefl _
      rw [this]; simp [h]
    · have hb : (x.toList == y.toList) = false := by simpa using h
      simp only [hb]
      repeat' split <;> simp_all
  rw [Bool.eq_iff_iff]
  simp only [decide_eq_true_eq, Bool.and_eq_true, beq_iff_eq]
  unfold cmpV or3
  rw [← hI a.k b.k, ← hI a.n b.n, ← hS a.s b.s]
  by_cases h1 : cmpI a.k b.k = 0 <;> by_cases h2 : cmpI a.n b.n = 0 <;> simp [h1, h2]

set_option maxRecDepth 100000 in
set_option maxHeartbeats 4000000 in
theorem known_bad (op : Int) (hop : 3 ≤ op ∧ op ≤ 6) (x : V) (s name : Wd) (n : Int) (y y' : E) (hs0 : OfSays y) (hs1 : OfSays y') (v rv : Value) (row : List V) (C : Nat) (w : World) (he : IsE (fun k => k < C) w (.mk op x s name n [y, y']) v) (hC : C ≤ w.heap.size) (hf : fitE (.mk op x s name n [y, y'])) (hr : IsVals w rv row) (hrs : ∀ v ∈ row, v.s.size ≤ maxLen) (hrl : row.length ≤ maxLen) (ht : TruthsLie w) (hg : 0 < w.heap.size)
    (hcase : good (ev row y) = false ∨ (good (ev row y) = true ∧ good (ev row y') = false) ∨ (good (ev row y) = true ∧ good (ev row y') = true ∧ (ev row y).k ≠ (ev row y').k) ∨ (good (ev row y) = true ∧ good (ev row y') = true ∧ (ev row y).k = 0 ∧ (ev row y').k = 0)) :
    Calls Tryd.prog 17 #[v, rv] w fun r w' => r = .returned (zero).val ∧ Below w.heap.size w w' := by
  obtain ⟨sv, rfl, hes⟩ := he.open
  obtain ⟨ao, c, rfl⟩ := hes.shape
  obtain ⟨xk, xn, xs⟩ := x
  have hf0 : fitE y := by rw [fitE] at hf; exact fitL_mem hf.2 (by simp)
  have hA0 := arg_later 0 op xk xn xs s name n ao c [y, y'] y rv row C w rfl hs0 hes hC hf0 hr hrs hrl ht hg
  have hf1 : fitE y' := by rw [fitE] at hf; exact fitL_mem hf.2 (by simp)
  have hA1 := arg_later 1 op xk xn xs s name n ao c [y, y'] y' rv row C w rfl hs1 hes hC hf1 hr hrs hrl ht hg
  obtain ⟨ro, rc, rfl⟩ := hr.shape
  have hb0 := bel3 w (.cells (eArr op ⟨xk, xn, xs⟩ s name n (.slice ao [y, y'].length c)) 32) (.cells #[.slice ro row.length rc] 33) (.cells #[.int .i64 0, .int .i64 0, .string noW] 23)
  have htL := ht.later hg hb0
  have hgL := Nat.lt_of_lt_of_le hg hb0.size
  have IA := fun w => isValue_any (ev row y) w (small_ev row hrs y hf0)
  have IB := fun w => isValue_any (ev row y') w (small_ev row hrs y' hf1)
  generalize good (ev row y) = Ga at hcase IA
  generalize good (ev row y') = Gb at hcase IB
  generalize ev row y = z at hA0 IA hcase
  generalize ev row y' = z' at hA1 IB hcase
  obtain ⟨zk, zn, zs⟩ := z
  obtain ⟨zk', zn', zs'⟩ := z'
  simp only [V.val] at hA0 hA1 IA IB hcase
  clear hes he hf hs0 hs1 ht htL
  have e1 : (op == 1) = false := by simp; omega
  have e2 : (op == 2) = false := by simp; omega
  have e9 : (op == 9) = false := by simp; omega
  have e10 : (op == 10) = false := by simp; omega
  have e7 : (op == 7) = false := by simp; omega
  have e8 : (op == 8) = false := by simp; omega
  have h3 : ¬ op < 3 := by omega
  have h6 : ¬ 6 < op := by omega
  rcases hcase with rfl | ⟨rfl, rfl⟩ | ⟨rfl, rfl, hk⟩ | ⟨rfl, rfl, rfl, rfl⟩
  · go_enter Tryd.func17, Tryd.ntmps17
    go_wp2_with (first | (go_at_call_of 30 (Value.int .i64 0); go_fit (hA0 _ (Below.refl _ _)); rintro r1 w1 ⟨rfl, hb1⟩) | (go_at_call_of 30 (Value.int .i64 1); go_fit (hA1 _ hb1); rintro r3 w3 ⟨rfl, hb3⟩; have K4 := Kn.start (bthen hb1 hb3) zk zn zs zk' zn' zs') | (go_at_call_of 6 (Value.agg #[.int .i64 zk, .int .i64 zn, .string zs]); go_fit (IA _); rintro r5 w5 ⟨rfl, hb5⟩; have K5 := Kn.step K4 hb5; obtain ⟨k5a, k5b, k5c, k5d, k5e, k5f, k5g, k5h, k5i, k5j, k5k, k5l, k5m⟩ := K5; have K5 := Kn.step K4 hb5) | (go_at_call_of 6 (Value.agg #[.int .i64 zk', .int .i64 zn', .string zs']); go_fit (IB _); rintro r6 w6 ⟨rfl, hb6⟩; have K6 := Kn.step K5 hb6; obtain ⟨k6a, k6b, k6c, k6d, k6e, k6f, k6g, k6h, k6i, k6j, k6k, k6l, k6m⟩ := K6; have K6 := Kn.step K5 hb6))
    exact end_val zero Tryd.results17 rfl rfl (((bthen (bthen hb1 hb3) (bthen (bel2 _ _ _) hb5)).block _ (by simp)).trans (block3 _ _ _ _)) (bthen hb0 (bthen (bthen hb1 hb3) (bthen (bel2 _ _ _) hb5))) (by omega)
  · go_enter Tryd.func17, Tryd.ntmps17
    go_wp2_with (first | (go_at_call_of 30 (Value.int .i64 0); go_fit (hA0 _ (Below.refl _ _)); rintro r1 w1 ⟨rfl, hb1⟩) | (go_at_call_of 30 (Value.int .i64 1); go_fit (hA1 _ hb1); rintro r3 w3 ⟨rfl, hb3⟩; have K4 := Kn.start (bthen hb1 hb3) zk zn zs zk' zn' zs') | (go_at_call_of 6 (Value.agg #[.int .i64 zk, .int .i64 zn, .string zs]); go_fit (IA _); rintro r5 w5 ⟨rfl, hb5⟩; have K5 := Kn.step K4 hb5; obtain ⟨k5a, k5b, k5c, k5d, k5e, k5f, k5g, k5h, k5i, k5j, k5k, k5l, k5m⟩ := K5; have K5 := Kn.step K4 hb5) | (go_at_call_of 6 (Value.agg #[.int .i64 zk', .int .i64 zn', .string zs']); go_fit (IB _); rintro r6 w6 ⟨rfl, hb6⟩; have K6 := Kn.step K5 hb6; obtain ⟨k6a, k6b, k6c, k6d, k6e, k6f, k6g, k6h, k6i, k6j, k6k, k6l, k6m⟩ := K6; have K6 := Kn.step K5 hb6))
    exact end_val zero Tryd.results17 rfl rfl (((bthen (bthen hb1 hb3) (bthen (bel2 _ _ _) (bthen hb5 hb6))).block _ (by simp)).trans (block3 _ _ _ _)) (bthen hb0 (bthen (bthen hb1 hb3) (bthen (bel2 _ _ _) (bthen hb5 hb6)))) (by omega)
  · have hk' : (zk != zk') = true := by simpa using hk
    go_enter Tryd.func17, Tryd.ntmps17
    go_wp2_with (first | (go_at_call_of 30 (Value.int .i64 0); go_fit (hA0 _ (Below.refl _ _)); rintro r1 w1 ⟨rfl, hb1⟩) | (go_at_call_of 30 (Value.int .i64 1); go_fit (hA1 _ hb1); rintro r3 w3 ⟨rfl, hb3⟩; have K4 := Kn.start (bthen hb1 hb3) zk zn zs zk' zn' zs') | (go_at_call_of 6 (Value.agg #[.int .i64 zk, .int .i64 zn, .string zs]); go_fit (IA _); rintro r5 w5 ⟨rfl, hb5⟩; have K5 := Kn.step K4 hb5; obtain ⟨k5a, k5b, k5c, k5d, k5e, k5f, k5g, k5h, k5i, k5j, k5k, k5l, k5m⟩ := K5; have K5 := Kn.step K4 hb5) | (go_at_call_of 6 (Value.agg #[.int .i64 zk', .int .i64 zn', .string zs']); go_fit (IB _); rintro r6 w6 ⟨rfl, hb6⟩; have K6 := Kn.step K5 hb6; obtain ⟨k6a, k6b, k6c, k6d, k6e, k6f, k6g, k6h, k6i, k6j, k6k, k6l, k6m⟩ := K6; have K6 := Kn.step K5 hb6))
    exact end_val zero Tryd.results17 rfl rfl (((bthen (bthen hb1 hb3) (bthen (bel2 _ _ _) (bthen hb5 hb6))).block _ (by simp)).trans (block3 _ _ _ _)) (bthen hb0 (bthen (bthen hb1 hb3) (bthen (bel2 _ _ _) (bthen hb5 hb6)))) (by omega)
  · go_enter Tryd.func17, Tryd.ntmps17
    go_wp2_with (first | (go_at_call_of 30 (Value.int .i64 0); go_fit (hA0 _ (Below.refl _ _)); rintro r1 w1 ⟨rfl, hb1⟩) | (go_at_call_of 30 (Value.int .i64 1); go_fit (hA1 _ hb1); rintro r3 w3 ⟨rfl, hb3⟩; have K4 := Kn.start (bthen hb1 hb3) 0 zn zs 0 zn' zs') | (go_at_call_of 6 (Value.agg #[.int .i64 0, .int .i64 zn, .string zs]); go_fit (IA _); rintro r5 w5 ⟨rfl, hb5⟩; have K5 := Kn.step K4 hb5; obtain ⟨k5a, k5b, k5c, k5d, k5e, k5f, k5g, k5h, k5i, k5j, k5k, k5l, k5m⟩ := K5; have K5 := Kn.step K4 hb5) | (go_at_call_of 6 (Value.agg #[.int .i64 0, .int .i64 zn', .string zs']); go_fit (IB _); rintro r6 w6 ⟨rfl, hb6⟩; have K6 := Kn.step K5 hb6; obtain ⟨k6a, k6b, k6c, k6d, k6e, k6f, k6g, k6h, k6i, k6j, k6k, k6l, k6m⟩ := K6; have K6 := Kn.step K5 hb6))
    exact end_val zero Tryd.results17 rfl rfl (((bthen (bthen hb1 hb3) (bthen (bel2 _ _ _) (bthen hb5 hb6))).block _ (by simp)).trans (block3 _ _ _ _)) (bthen hb0 (bthen (bthen hb1 hb3) (bthen (bel2 _ _ _) (bthen hb5 hb6)))) (by omega)

end Go.Proofs.YtaiflkmlpjnmmaaDoor
