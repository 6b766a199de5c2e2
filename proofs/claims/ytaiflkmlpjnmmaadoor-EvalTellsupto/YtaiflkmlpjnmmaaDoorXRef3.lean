/-
  Contract of the statements' own EvalOf: whether it is nothing; both, one of both.
-/
import Derived.Test.YtaiflkmlpjnmmaaDoorXRef2
namespace Go.Proofs.YtaiflkmlpjnmmaaDoor
open Go.RowKit

set_option maxRecDepth 100000 in
set_option maxHeartbeats 4000000 in
theorem evalOf_is (x : V) (s name : Wd) (n : Int) (y : E) (hs0 : OfSays y) : OfSays (.mk 10 x s name n [y]) := by
  intro v rv row C w he hC hf hr hrs hrl ht hg
  obtain ⟨sv, rfl, hes⟩ := he.open
  obtain ⟨ao, c, rfl⟩ := hes.shape
  obtain ⟨xk, xn, xs⟩ := x
  have hf0 : fitE y := by rw [fitE] at hf; exact fitL_mem hf.2 (by simp)
  have hA0 := arg_later 0 10 xk xn xs s name n ao c [y] y rv row C w rfl hs0 hes hC hf0 hr hrs hrl ht hg
  obtain ⟨ro, rc, rfl⟩ := hr.shape
  have hb0 := bel3 w (.cells (eArr 10 ⟨xk, xn, xs⟩ s name n (.slice ao [y].length c)) 32) (.cells #[.slice ro row.length rc] 33) (.cells #[.int .i64 0, .int .i64 0, .string noW] 23)
  have htL := ht.later hg hb0
  have hgL := Nat.lt_of_lt_of_le hg hb0.size
  have E : Hid (ev row (.mk 10 ⟨xk, xn, xs⟩ s name n [y]) = whV (decide ((ev row y).k = 0))) := by show _ = _; rw [ev_kids]; rfl
  generalize ev row (.mk 10 ⟨xk, xn, xs⟩ s name n [y]) = r at E
  generalize ev row y = z at hA0 E
  obtain ⟨zk, zn, zs⟩ := z
  simp only at hA0 E
  clear hes he hf
  have hfd : ∀ w : World, (Instr.field 23 (.agg #[.int .i64 zk, .int .i64 zn, .string zs]) 0).run Tryd.prog w = .ok (.int .i64 zk) w := fun _ => by kernel_rfl
  have v1 := fun w => valueOf_any 1 (by decide) w
  have v0 := fun w => valueOf_any 0 (by decide) w
  by_cases hz : zk = 0
  · subst hz
    go_enter Tryd.func17, Tryd.ntmps17
    go_wp2_with (first | (go_at_call_of 30 (Value.int .i64 0); go_fit (hA0 _ (Below.refl _ _)); rintro r1 w1 ⟨rfl, hb1⟩; obtain ⟨hcc1, hff1⟩ := bcell hb1) | (go_at_call 31; go_fit (v1 _); rintro r4 w4 ⟨rfl, hb4⟩; simp only [V.val]; obtain ⟨hcc, hff⟩ := bcell (bthen hb1 hb4)))
    rw [E.out]
    exact end_val _ Tryd.results17 rfl rfl (((bthen hb1 hb4).block _ (by simp)).trans (block3 _ _ _ _)) (bthen hb0 (bthen hb1 hb4)) (by omega)
  · have hz' : (zk == 0) = false := by simpa using hz
    go_enter Tryd.func17, Tryd.ntmps17
    go_wp2_with (first | (go_at_call_of 30 (Value.int .i64 0); go_fit (hA0 _ (Below.refl _ _)); rintro r1 w1 ⟨rfl, hb1⟩; obtain ⟨z1, q1, r1, s1, t1⟩ := three hb1 (g := w.heap.size) (by simp)) | (go_at_call 31; go_fit (v0 _); rintro r4 w4 ⟨rfl, hb4⟩; simp only [V.val]; obtain ⟨hcc, hff⟩ := bcell (bthen hb1 hb4)))
    rw [E.out, decide_eq_false hz]
    exact end_val _ Tryd.results17 rfl rfl (((bthen hb1 hb4).block _ (by simp)).trans (block3 _ _ _ _)) (bthen hb0 (bthen hb1 hb4)) (by omega)

set_option maxRecDepth 100000 in
set_option maxHeartbeats 4000000 in
theorem evalOf_and (x : V) (s name : Wd) (n : Int) (y y' : E) (hs0 : OfSays y) (hs1 : OfSays y') : OfSays (.mk 7 x s name n [y, y']) := by
  intro v rv row C w he hC hf hr hrs hrl ht hg
  obtain ⟨sv, rfl, hes⟩ := he.open
  obtain ⟨ao, c, rfl⟩ := hes.shape
  obtain ⟨xk, xn, xs⟩ := x
  have hf0 : fitE y := by rw [fitE] at hf; exact fitL_mem hf.2 (by simp)
  have hA0 := arg_later 0 7 xk xn xs s name n ao c [y, y'] y rv row C w rfl hs0 hes hC hf0 hr hrs hrl ht hg
  have hf1 : fitE y' := by rw [fitE] at hf; exact fitL_mem hf.2 (by simp)
  have hA1 := arg_later 1 7 xk xn xs s name n ao c [y, y'] y' rv row C w rfl hs1 hes hC hf1 hr hrs hrl ht hg
  obtain ⟨ro, rc, rfl⟩ := hr.shape
  have hb0 := bel3 w (.cells (eArr 7 ⟨xk, xn, xs⟩ s name n (.slice ao [y, y'].length c)) 32) (.cells #[.slice ro row.length rc] 33) (.cells #[.int .i64 0, .int .i64 0, .string noW] 23)
  have htL := ht.later hg hb0
  have hgL := Nat.lt_of_lt_of_le hg hb0.size
  have E : Hid (ev row (.mk 7 ⟨xk, xn, xs⟩ s name n [y, y']) = truthV (tAnd (ofV (ev row y)) (ofV (ev row y')))) := by show _ = _; rw [ev_kids]; rfl
  generalize ev row (.mk 7 ⟨xk, xn, xs⟩ s name n [y, y']) = r at E
  have hO := fun w => truthOf_any (ev row y) w
  have hO' := fun w => truthOf_any (ev row y') w
  generalize ofV (ev row y) = o at E hO
  generalize ofV (ev row y') = o' at E hO'
  generalize ev row y = z at hA0 hO
  generalize ev row y' = z' at hA1 hO'
  obtain ⟨zk, zn, zs⟩ := z
  obtain ⟨zk', zn', zs'⟩ := z'
  simp only [V.val] at hA0 hA1 hO hO'
  clear hes he hf
  go_enter Tryd.func17, Tryd.ntmps17
  go_wp2_with (first | (go_at_call_of 30 (Value.int .i64 0); go_fit (hA0 _ (Below.refl _ _)); rintro r1 w1 ⟨rfl, hb1⟩) | (go_at_call_of 30 (Value.int .i64 1); go_fit (hA1 _ (bthen hb1 hb2)); rintro r3 w3 ⟨rfl, hb3⟩) | (go_at_call 8; go_fit (andOf_any _ _ _ (htL.later hgL (bthen (bthen hb1 hb2) (bthen hb3 hb4)))); rintro r5 w5 ⟨rfl, rfl⟩) | (go_at_call 19; first | (go_fit (hO _); rintro r2 w2 ⟨rfl, hb2⟩) | (go_fit (hO' _); rintro r4 w4 ⟨rfl, hb4⟩)) | (go_at_call 31; go_fit (valueOf_any _ (three_and _ _) _); rintro r6 w6 ⟨rfl, hb6⟩; simp only [V.val]; obtain ⟨hcc, hff⟩ := bcell (bthen (bthen (bthen hb1 hb2) (bthen hb3 hb4)) hb6)))
  rw [E.out]
  exact end_val _ Tryd.results17 rfl rfl (((bthen (bthen (bthen hb1 hb2) (bthen hb3 hb4)) hb6).block _ (by simp)).trans (block3 _ _ _ _)) (bthen hb0 (bthen (bthen (bthen hb1 hb2) (bthen hb3 hb4)) hb6)) (by omega)

set_option maxRecDepth 100000 in
set_option maxHeartbeats 4000000 in
theorem evalOf_or (x : V) (s name : Wd) (n : Int) (y y' : E) (hs0 : OfSays y) (hs1 : OfSays y') : OfSays (.mk 8 x s name n [y, y']) := by
  intro v rv row C w he hC hf hr hrs hrl ht hg
  obtain ⟨sv, rfl, hes⟩ := he.open
  obtain ⟨ao, c, rfl⟩ := hes.shape
  obtain ⟨xk, xn, xs⟩ := x
  have hf0 : fitE y := by rw [fitE] at hf; exact fitL_mem hf.2 (by simp)
  have hA0 := arg_later 0 8 xk xn xs s name n ao c [y, y'] y rv row C w rfl hs0 hes hC hf0 hr hrs hrl ht hg
  have hf1 : fitE y' := by rw [fitE] at hf; exact fitL_mem hf.2 (by simp)
  have hA1 := arg_later 1 8 xk xn xs s name n ao c [y, y'] y' rv row C w rfl hs1 hes hC hf1 hr hrs hrl ht hg
  obtain ⟨ro, rc, rfl⟩ := hr.shape
  have hb0 := bel3 w (.cells (eArr 8 ⟨xk, xn, xs⟩ s name n (.slice ao [y, y'].length c)) 32) (.cells #[.slice ro row.length rc] 33) (.cells #[.int .i64 0, .int .i64 0, .string noW] 23)
  have htL := ht.later hg hb0
  have hgL := Nat.lt_of_lt_of_le hg hb0.size
  have E : Hid (ev row (.mk 8 ⟨xk, xn, xs⟩ s name n [y, y']) = truthV (tOr (ofV (ev row y)) (ofV (ev row y')))) := by show _ = _; rw [ev_kids]; rfl
  generalize ev row (.mk 8 ⟨xk, xn, xs⟩ s name n [y, y']) = r at E
  have hO := fun w => truthOf_any (ev row y) w
  have hO' := fun w => truthOf_any (ev row y') w
  generalize ofV (ev row y) = o at E hO
  generalize ofV (ev row y') = o' at E hO'
  generalize ev row y = z at hA0 hO
  generalize ev row y' = z' at hA1 hO'
  obtain ⟨zk, zn, zs⟩ := z
  obtain ⟨zk', zn', zs'⟩ := z'
  simp only [V.val] at hA0 hA1 hO hO'
  clear hes he hf
  go_enter Tryd.func17, Tryd.ntmps17
  go_wp2_with (first | (go_at_call_of 30 (Value.int .i64 0); go_fit (hA0 _ (Below.refl _ _)); rintro r1 w1 ⟨rfl, hb1⟩) | (go_at_call_of 30 (Value.int .i64 1); go_fit (hA1 _ (bthen hb1 hb2)); rintro r3 w3 ⟨rfl, hb3⟩) | (go_at_call 10; go_fit (orOf_any _ _ _ (htL.later hgL (bthen (bthen hb1 hb2) (bthen hb3 hb4)))); rintro r5 w5 ⟨rfl, rfl⟩) | (go_at_call 19; first | (go_fit (hO _); rintro r2 w2 ⟨rfl, hb2⟩) | (go_fit (hO' _); rintro r4 w4 ⟨rfl, hb4⟩)) | (go_at_call 31; go_fit (valueOf_any _ (three_or _ _) _); rintro r6 w6 ⟨rfl, hb6⟩; simp only [V.val]; obtain ⟨hcc, hff⟩ := bcell (bthen (bthen (bthen hb1 hb2) (bthen hb3 hb4)) hb6)))
  rw [E.out]
  exact end_val _ Tryd.results17 rfl rfl (((bthen (bthen (bthen hb1 hb2) (bthen hb3 hb4)) hb6).block _ (by simp)).trans (block3 _ _ _ _)) (bthen hb0 (bthen (bthen (bthen hb1 hb2) (bthen hb3 hb4)) hb6)) (by omega)

end Go.Proofs.YtaiflkmlpjnmmaaDoor
