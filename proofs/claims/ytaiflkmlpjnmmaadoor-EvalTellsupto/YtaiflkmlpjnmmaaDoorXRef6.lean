/-
  Contract of the statements' own EvalOf: Plus, Minus, Eq, Lt of known values.
-/
import Derived.Test.YtaiflkmlpjnmmaaDoorXRef4
namespace Go.Proofs.YtaiflkmlpjnmmaaDoor
open Go.RowKit

set_option maxRecDepth 100000 in
set_option maxHeartbeats 4000000 in
theorem known_eq (x : V) (s name : Wd) (n : Int) (y y' : E) (hs0 : OfSays y) (hs1 : OfSays y') (v rv : Value) (row : List V) (C : Nat) (w : World) (he : IsE (fun k => k < C) w (.mk 5 x s name n [y, y']) v) (hC : C ≤ w.heap.size) (hf : fitE (.mk 5 x s name n [y, y'])) (hr : IsVals w rv row) (hrs : ∀ v ∈ row, v.s.size ≤ maxLen) (hrl : row.length ≤ maxLen) (ht : TruthsLie w) (hg : 0 < w.heap.size) (ga : good (ev row y) = true) (gb : good (ev row y') = true) (hk : (ev row y).k = (ev row y').k) (h0 : (ev row y).k ≠ 0) :
    Calls Tryd.prog 17 #[v, rv] w fun r w' => r = .returned (whV ((ev row y).k == (ev row y').k && (ev row y).n == (ev row y').n && (ev row y).s.toList == (ev row y').s.toList)).val ∧ Below w.heap.size w w' := by
  obtain ⟨sv, rfl, hes⟩ := he.open
  obtain ⟨ao, c, rfl⟩ := hes.shape
  obtain ⟨xk, xn, xs⟩ := x
  have hf0 : fitE y := by rw [fitE] at hf; exact fitL_mem hf.2 (by simp)
  have hA0 := arg_later 0 5 xk xn xs s name n ao c [y, y'] y rv row C w rfl hs0 hes hC hf0 hr hrs hrl ht hg
  have hf1 : fitE y' := by rw [fitE] at hf; exact fitL_mem hf.2 (by simp)
  have hA1 := arg_later 1 5 xk xn xs s name n ao c [y, y'] y' rv row C w rfl hs1 hes hC hf1 hr hrs hrl ht hg
  obtain ⟨ro, rc, rfl⟩ := hr.shape
  have hb0 := bel3 w (.cells (eArr 5 ⟨xk, xn, xs⟩ s name n (.slice ao [y, y'].length c)) 32) (.cells #[.slice ro row.length rc] 33) (.cells #[.int .i64 0, .int .i64 0, .string noW] 23)
  have htL := ht.later hg hb0
  have hgL := Nat.lt_of_lt_of_le hg hb0.size
  have IA := fun w => isValue_any (ev row y) w (small_ev row hrs y hf0)
  have IB := fun w => isValue_any (ev row y') w (small_ev row hrs y' hf1)
  have v1 := fun w => valueOf_any 1 (by decide) w
  have v0 := fun w => valueOf_any 0 (by decide) w
  rw [ga] at IA
  rw [gb] at IB
  generalize ev row y = z at hA0 IA hk h0 ga ⊢
  generalize ev row y' = z' at hA1 IB hk gb ⊢
  obtain ⟨zk, zn, zs⟩ := z
  obtain ⟨zk', zn', zs'⟩ := z'
  simp only [V.val] at hA0 hA1 IA IB hk h0
  subst hk
  clear hes he hf hs0 hs1 ht htL
  have h0' : (zk == 0) = false := by simpa using h0
  clear ga gb
  by_cases hn' : zn = zn'
  · subst hn'
    by_cases hs' : zs.toList = zs'.toList
    · have E : Hid ((zk == zk && zn == zn && zs.toList == zs'.toList) = true) := by show _ = _; simp [hs']
      go_enter Tryd.func17, Tryd.ntmps17
      go_wp2_with (first | (go_at_call_of 30 (Value.int .i64 0); go_fit (hA0 _ (Below.refl _ _)); rintro r1 w1 ⟨rfl, hb1⟩) | (go_at_call_of 30 (Value.int .i64 1); go_fit (hA1 _ hb1); rintro r3 w3 ⟨rfl, hb3⟩; have K4 := Kn.start (bthen hb1 hb3) zk zn zs zk zn zs') | (go_at_call_of 6 (Value.agg #[.int .i64 zk, .int .i64 zn, .string zs]); go_fit (IA _); rintro r5 w5 ⟨rfl, hb5⟩; have K5 := Kn.step K4 hb5; obtain ⟨k5a, k5b, k5c, k5d, k5e, k5f, k5g, k5h, k5i, k5j, k5k, k5l, k5m⟩ := K5; have K5 := Kn.step K4 hb5) | (go_at_call_of 6 (Value.agg #[.int .i64 zk, .int .i64 zn, .string zs']); go_fit (IB _); rintro r6 w6 ⟨rfl, hb6⟩; have K6 := Kn.step K5 hb6; obtain ⟨k6a, k6b, k6c, k6d, k6e, k6f, k6g, k6h, k6i, k6j, k6k, k6l, k6m⟩ := K6; have K6 := Kn.step K5 hb6) | (go_at_call 31; first | (go_fit (v1 _); rintro r8 w8 ⟨rfl, hb8⟩; simp only [V.val]; have K8 := Kn.step K6 hb8; obtain ⟨k8a, k8b, k8c, k8d, k8e, k8f, k8g, k8h, k8i, k8j, k8k, k8l, k8m⟩ := K8; have K8 := Kn.step K6 hb8) | (go_fit (v0 _); rintro r8 w8 ⟨rfl, hb8⟩; simp only [V.val]; have K8 := Kn.step K6 hb8; obtain ⟨k8a, k8b, k8c, k8d, k8e, k8f, k8g, k8h, k8i, k8j, k8k, k8l, k8m⟩ := K8; have K8 := Kn.step K6 hb8)))
      rw [E.out]
      exact end_val _ Tryd.results17 rfl rfl (((bthen (bthen hb1 hb3) (bthen (bel2 _ _ _) (bthen (bthen hb5 hb6) hb8))).block _ (by simp)).trans (block3 _ _ _ _)) (bthen hb0 (bthen (bthen hb1 hb3) (bthen (bel2 _ _ _) (bthen (bthen hb5 hb6) hb8)))) (by omega)
    · have E : Hid ((zk == zk && zn == zn && zs.toList == zs'.toList) = false) := by show _ = _; simp [hs']
      go_enter Tryd.func17, Tryd.ntmps17
      go_wp2_with (first | (go_at_call_of 30 (Value.int .i64 0); go_fit (hA0 _ (Below.refl _ _)); rintro r1 w1 ⟨rfl, hb1⟩) | (go_at_call_of 30 (Value.int .i64 1); go_fit (hA1 _ hb1); rintro r3 w3 ⟨rfl, hb3⟩; have K4 := Kn.start (bthen hb1 hb3) zk zn zs zk zn zs') | (go_at_call_of 6 (Value.agg #[.int .i64 zk, .int .i64 zn, .string zs]); go_fit (IA _); rintro r5 w5 ⟨rfl, hb5⟩; have K5 := Kn.step K4 hb5; obtain ⟨k5a, k5b, k5c, k5d, k5e, k5f, k5g, k5h, k5i, k5j, k5k, k5l, k5m⟩ := K5; have K5 := Kn.step K4 hb5) | (go_at_call_of 6 (Value.agg #[.int .i64 zk, .int .i64 zn, .string zs']); go_fit (IB _); rintro r6 w6 ⟨rfl, hb6⟩; have K6 := Kn.step K5 hb6; obtain ⟨k6a, k6b, k6c, k6d, k6e, k6f, k6g, k6h, k6i, k6j, k6k, k6l, k6m⟩ := K6; have K6 := Kn.step K5 hb6) | (go_at_call 31; first | (go_fit (v1 _); rintro r8 w8 ⟨rfl, hb8⟩; simp only [V.val]; have K8 := Kn.step K6 hb8; obtain ⟨k8a, k8b, k8c, k8d, k8e, k8f, k8g, k8h, k8i, k8j, k8k, k8l, k8m⟩ := K8; have K8 := Kn.step K6 hb8) | (go_fit (v0 _); rintro r8 w8 ⟨rfl, hb8⟩; simp only [V.val]; have K8 := Kn.step K6 hb8; obtain ⟨k8a, k8b, k8c, k8d, k8e, k8f, k8g, k8h, k8i, k8j, k8k, k8l, k8m⟩ := K8; have K8 := Kn.step K6 hb8)))
      rw [E.out]
      exact end_val _ Tryd.results17 rfl rfl (((bthen (bthen hb1 hb3) (bthen (bel2 _ _ _) (bthen (bthen hb5 hb6) hb8))).block _ (by simp)).trans (block3 _ _ _ _)) (bthen hb0 (bthen (bthen hb1 hb3) (bthen (bel2 _ _ _) (bthen (bthen hb5 hb6) hb8)))) (by omega)
  · have E : Hid ((zk == zk && zn == zn' && zs.toList == zs'.toList) = false) := by show _ = _; simp [hn']
    go_enter Tryd.func17, Tryd.ntmps17
    go_wp2_with (first | (go_at_call_of 30 (Value.int .i64 0); go_fit (hA0 _ (Below.refl _ _)); rintro r1 w1 ⟨rfl, hb1⟩) | (go_at_call_of 30 (Value.int .i64 1); go_fit (hA1 _ hb1); rintro r3 w3 ⟨rfl, hb3⟩; have K4 := Kn.start (bthen hb1 hb3) zk zn zs zk zn' zs') | (go_at_call_of 6 (Value.agg #[.int .i64 zk, .int .i64 zn, .string zs]); go_fit (IA _); rintro r5 w5 ⟨rfl, hb5⟩; have K5 := Kn.step K4 hb5; obtain ⟨k5a, k5b, k5c, k5d, k5e, k5f, k5g, k5h, k5i, k5j, k5k, k5l, k5m⟩ := K5; have K5 := Kn.step K4 hb5) | (go_at_call_of 6 (Value.agg #[.int .i64 zk, .int .i64 zn', .string zs']); go_fit (IB _); rintro r6 w6 ⟨rfl, hb6⟩; have K6 := Kn.step K5 hb6; obtain ⟨k6a, k6b, k6c, k6d, k6e, k6f, k6g, k6h, k6i, k6j, k6k, k6l, k6m⟩ := K6; have K6 := Kn.step K5 hb6) | (go_at_call 31; first | (go_fit (v1 _); rintro r8 w8 ⟨rfl, hb8⟩; simp only [V.val]; have K8 := Kn.step K6 hb8; obtain ⟨k8a, k8b, k8c, k8d, k8e, k8f, k8g, k8h, k8i, k8j, k8k, k8l, k8m⟩ := K8; have K8 := Kn.step K6 hb8) | (go_fit (v0 _); rintro r8 w8 ⟨rfl, hb8⟩; simp only [V.val]; have K8 := Kn.step K6 hb8; obtain ⟨k8a, k8b, k8c, k8d, k8e, k8f, k8g, k8h, k8i, k8j, k8k, k8l, k8m⟩ := K8; have K8 := Kn.step K6 hb8)))
    rw [E.out]
    exact end_val _ Tryd.results17 rfl rfl (((bthen (bthen hb1 hb3) (bthen (bel2 _ _ _) (bthen (bthen hb5 hb6) hb8))).block _ (by simp)).trans (block3 _ _ _ _)) (bthen hb0 (bthen (bthen hb1 hb3) (bthen (bel2 _ _ _) (bthen (bthen hb5 hb6) hb8)))) (by omega)

set_option maxRecDepth 100000 in
set_option maxHeartbeats 4000000 in
theorem known_lt (x : V) (s name : Wd) (n : Int) (y y' : E) (hs0 : OfSays y) (hs1 : OfSays y') (v rv : Value) (row : List V) (C : Nat) (w : World) (he : IsE (fun k => k < C) w (.mk 6 x s name n [y, y']) v) (hC : C ≤ w.heap.size) (hf : fitE (.mk 6 x s name n [y, y'])) (hr : IsVals w rv row) (hrs : ∀ v ∈ row, v.s.size ≤ maxLen) (hrl : row.length ≤ maxLen) (ht : TruthsLie w) (hg : 0 < w.heap.size) (ga : good (ev row y) = true) (gb : good (ev row y') = true) (hk : (ev row y).k = (ev row y').k) (h0 : (ev row y).k ≠ 0) :
    Calls Tryd.prog 17 #[v, rv] w fun r w' => r = .returned (whV (decide (cmpV (ev row y) (ev row y') < 0))).val ∧ Below w.heap.size w w' := by
  obtain ⟨sv, rfl, hes⟩ := he.open
  obtain ⟨ao, c, rfl⟩ := hes.shape
  obtain ⟨xk, xn, xs⟩ := x
  have hf0 : fitE y := by rw [fitE] at hf; exact fitL_mem hf.2 (by simp)
  have hA0 := arg_later 0 6 xk xn xs s name n ao c [y, y'] y rv row C w rfl hs0 hes hC hf0 hr hrs hrl ht hg
  have hf1 : fitE y' := by rw [fitE] at hf; exact fitL_mem hf.2 (by simp)
  have hA1 := arg_later 1 6 xk xn xs s name n ao c [y, y'] y' rv row C w rfl hs1 hes hC hf1 hr hrs hrl ht hg
  obtain ⟨ro, rc, rfl⟩ := hr.shape
  have hb0 := bel3 w (.cells (eArr 6 ⟨xk, xn, xs⟩ s name n (.slice ao [y, y'].length c)) 32) (.cells #[.slice ro row.length rc] 33) (.cells #[.int .i64 0, .int .i64 0, .string noW] 23)
  have htL := ht.later hg hb0
  have hgL := Nat.lt_of_lt_of_le hg hb0.size
  have IA := fun w => isValue_any (ev row y) w (small_ev row hrs y hf0)
  have IB := fun w => isValue_any (ev row y') w (small_ev row hrs y' hf1)
  have v1 := fun w => valueOf_any 1 (by decide) w
  have v0 := fun w => valueOf_any 0 (by decide) w
  have CO := fun w => compareOf_any (ev row y) (ev row y') w ga gb
  generalize cmpV (ev row y) (ev row y') = cc at CO ⊢
  rw [ga] at IA
  rw [gb] at IB
  generalize ev row y = z at hA0 IA CO hk h0 ga
  generalize ev row y' = z' at hA1 IB CO hk gb
  obtain ⟨zk, zn, zs⟩ := z
  obtain ⟨zk', zn', zs'⟩ := z'
  simp only [V.val] at hA0 hA1 IA IB CO hk h0
  subst hk
  clear hes he hf hs0 hs1 ht htL
  have h0' : (zk == 0) = false := by simpa using h0
  clear ga gb
  by_cases hc : cc < 0
  · have E : Hid (decide (cc < 0) = true) := by show _ = _; simp [hc]
    go_enter Tryd.func17, Tryd.ntmps17
    go_wp2_with (first | (go_at_call_of 30 (Value.int .i64 0); go_fit (hA0 _ (Below.refl _ _)); rintro r1 w1 ⟨rfl, hb1⟩) | (go_at_call_of 30 (Value.int .i64 1); go_fit (hA1 _ hb1); rintro r3 w3 ⟨rfl, hb3⟩; have K4 := Kn.start (bthen hb1 hb3) zk zn zs zk zn' zs') | (go_at_call_of 6 (Value.agg #[.int .i64 zk, .int .i64 zn, .string zs]); go_fit (IA _); rintro r5 w5 ⟨rfl, hb5⟩; have K5 := Kn.step K4 hb5; obtain ⟨k5a, k5b, k5c, k5d, k5e, k5f, k5g, k5h, k5i, k5j, k5k, k5l, k5m⟩ := K5; have K5 := Kn.step K4 hb5) | (go_at_call_of 6 (Value.agg #[.int .i64 zk, .int .i64 zn', .string zs']); go_fit (IB _); rintro r6 w6 ⟨rfl, hb6⟩; have K6 := Kn.step K5 hb6; obtain ⟨k6a, k6b, k6c, k6d, k6e, k6f, k6g, k6h, k6i, k6j, k6k, k6l, k6m⟩ := K6; have K6 := Kn.step K5 hb6) | (go_at_call 14; go_fit (CO _); rintro r7 w7 ⟨rfl, hb7⟩; have K7 := Kn.step K6 hb7; obtain ⟨k7a, k7b, k7c, k7d, k7e, k7f, k7g, k7h, k7i, k7j, k7k, k7l, k7m⟩ := K7; have K7 := Kn.step K6 hb7) | (go_at_call 31; first | (go_fit (v1 _); rintro r8 w8 ⟨rfl, hb8⟩; simp only [V.val]; have K8 := Kn.step K7 hb8; obtain ⟨k8a, k8b, k8c, k8d, k8e, k8f, k8g, k8h, k8i, k8j, k8k, k8l, k8m⟩ := K8; have K8 := Kn.step K7 hb8) | (go_fit (v0 _); rintro r8 w8 ⟨rfl, hb8⟩; simp only [V.val]; have K8 := Kn.step K7 hb8; obtain ⟨k8a, k8b, k8c, k8d, k8e, k8f, k8g, k8h, k8i, k8j, k8k, k8l, k8m⟩ := K8; have K8 := Kn.step K7 hb8)))
    rw [E.out]
    exact end_val _ Tryd.results17 rfl rfl (((bthen (bthen hb1 hb3) (bthen (bel2 _ _ _) (bthen (bthen (bthen hb5 hb6) hb7) hb8))).block _ (by simp)).trans (block3 _ _ _ _)) (bthen hb0 (bthen (bthen hb1 hb3) (bthen (bel2 _ _ _) (bthen (bthen (bthen hb5 hb6) hb7) hb8)))) (by omega)
  · have E : Hid (decide (cc < 0) = false) := by show _ = _; simp [hc]
    go_enter Tryd.func17, Tryd.ntmps17
    go_wp2_with (first | (go_at_call_of 30 (Value.int .i64 0); go_fit (hA0 _ (Below.refl _ _)); rintro r1 w1 ⟨rfl, hb1⟩) | (go_at_call_of 30 (Value.int .i64 1); go_fit (hA1 _ hb1); rintro r3 w3 ⟨rfl, hb3⟩; have K4 := Kn.start (bthen hb1 hb3) zk zn zs zk zn' zs') | (go_at_call_of 6 (Value.agg #[.int .i64 zk, .int .i64 zn, .string zs]); go_fit (IA _); rintro r5 w5 ⟨rfl, hb5⟩; have K5 := Kn.step K4 hb5; obtain ⟨k5a, k5b, k5c, k5d, k5e, k5f, k5g, k5h, k5i, k5j, k5k, k5l, k5m⟩ := K5; have K5 := Kn.step K4 hb5) | (go_at_call_of 6 (Value.agg #[.int .i64 zk, .int .i64 zn', .string zs']); go_fit (IB _); rintro r6 w6 ⟨rfl, hb6⟩; have K6 := Kn.step K5 hb6; obtain ⟨k6a, k6b, k6c, k6d, k6e, k6f, k6g, k6h, k6i, k6j, k6k, k6l, k6m⟩ := K6; have K6 := Kn.step K5 hb6) | (go_at_call 14; go_fit (CO _); rintro r7 w7 ⟨rfl, hb7⟩; have K7 := Kn.step K6 hb7; obtain ⟨k7a, k7b, k7c, k7d, k7e, k7f, k7g, k7h, k7i, k7j, k7k, k7l, k7m⟩ := K7; have K7 := Kn.step K6 hb7) | (go_at_call 31; first | (go_fit (v1 _); rintro r8 w8 ⟨rfl, hb8⟩; simp only [V.val]; have K8 := Kn.step K7 hb8; obtain ⟨k8a, k8b, k8c, k8d, k8e, k8f, k8g, k8h, k8i, k8j, k8k, k8l, k8m⟩ := K8; have K8 := Kn.step K7 hb8) | (go_fit (v0 _); rintro r8 w8 ⟨rfl, hb8⟩; simp only [V.val]; have K8 := Kn.step K7 hb8; obtain ⟨k8a, k8b, k8c, k8d, k8e, k8f, k8g, k8h, k8i, k8j, k8k, k8l, k8m⟩ := K8; have K8 := Kn.step K7 hb8)))
    rw [E.out]
    exact end_val _ Tryd.results17 rfl rfl (((bthen (bthen hb1 hb3) (bthen (bel2 _ _ _) (bthen (bthen (bthen hb5 hb6) hb7) hb8))).block _ (by simp)).trans (block3 _ _ _ _)) (bthen hb0 (bthen (bthen hb1 hb3) (bthen (bel2 _ _ _) (bthen (bthen (bthen hb5 hb6) hb7) hb8)))) (by omega)

end Go.Proofs.YtaiflkmlpjnmmaaDoor
