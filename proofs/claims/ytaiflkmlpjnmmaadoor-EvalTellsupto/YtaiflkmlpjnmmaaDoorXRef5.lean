/-
  Contract of the statements' own EvalOf: what has no use for arguments, or not as many.
-/
import Derived.Test.YtaiflkmlpjnmmaaDoorXRef2
namespace Go.Proofs.YtaiflkmlpjnmmaaDoor
open Go.RowKit

set_option maxRecDepth 100000 in
set_option maxHeartbeats 4000000 in
theorem evalOf_lit (x : V) (s name : Wd) (n : Int) (l : List E) (v rv : Value) (row : List V) (C : Nat) (w : World) (he : IsE (fun k => k < C) w (.mk 1 x s name n l) v) (hr : IsVals w rv row) (_hrl : row.length ≤ maxLen) :
    Calls Tryd.prog 17 #[v, rv] w fun r w' => r = .returned (x).val ∧ Below w.heap.size w w' := by
  obtain ⟨sv, rfl, hes⟩ := he.open
  obtain ⟨ao, c, rfl⟩ := hes.shape
  obtain ⟨xk, xn, xs⟩ := x
  obtain ⟨ro, rc, rfl⟩ := hr.shape
  clear hes he hr
  go_enter Tryd.func17, Tryd.ntmps17
  go_wp2
  exact bodyPost_ret (v := .agg #[.int .i64 xk, .int .i64 xn, .string xs]) (by simp [results, Tryd.results17, go_sem]) rfl ⟨rfl, bel3 _ _ _ _⟩

set_option maxRecDepth 100000 in
set_option maxHeartbeats 4000000 in
theorem evalOf_ref (x : V) (s name : Wd) (n : Int) (l : List E) (v rv : Value) (row : List V) (C : Nat) (w : World) (he : IsE (fun k => k < C) w (.mk 2 x s name n l) v) (hr : IsVals w rv row) (hrl : row.length ≤ maxLen) (_hl : l.length ≤ maxLen) :
    Calls Tryd.prog 17 #[v, rv] w fun r w' => r = .returned (rowV row n).val ∧ Below w.heap.size w w' := by
  obtain ⟨sv, rfl, hes⟩ := he.open
  obtain ⟨ao, c, rfl⟩ := hes.shape
  obtain ⟨xk, xn, xs⟩ := x
  by_cases h0 : 0 ≤ n
  · obtain ⟨m, rfl⟩ : ∃ m : Nat, n = m := ⟨n.toNat, by omega⟩
    by_cases hm : m < row.length
    · obtain ⟨u, hu⟩ : ∃ v, row[m]? = some v := ⟨_, List.getElem?_eq_getElem hm⟩
      have E : Hid (rowV row m = u) := by show _ = _; simp [rowV, hu]
      rcases hr with ⟨_, rfl⟩ | ⟨b, off, cap, rfl, hb, hh⟩
      · simp at hm
      have hb0 := bel3 w (.cells (eArr 2 ⟨xk, xn, xs⟩ s name m (.slice ao l.length c)) 32) (.cells #[.slice (some ⟨b, off, none⟩) row.length cap] 33) (.cells #[.int .i64 0, .int .i64 0, .string noW] 23)
      obtain ⟨c0, c1, c2⟩ := hh.below hb0 hb m u hu
      clear hh hu hes he hb0
      obtain ⟨vk, vn, vs⟩ := u
      go_enter Tryd.func17, Tryd.ntmps17
      go_wp2
      rw [E.out]
      exact bodyPost_ret (v := .agg #[.int .i64 vk, .int .i64 vn, .string vs]) (by simp [results, Tryd.results17, go_sem]) rfl ⟨rfl, bel3 _ _ _ _⟩
    · have E : Hid (rowV row m = zero) := by show _ = _; simp [rowV, List.getElem?_eq_none (by omega : row.length ≤ m)]
      obtain ⟨ro, rc, rfl⟩ := hr.shape
      clear hes he hr
      go_enter Tryd.func17, Tryd.ntmps17
      go_wp2
      rw [E.out]
      exact bodyPost_ret (v := .agg #[.int .i64 0, .int .i64 0, .string noW]) (by simp [results, Tryd.results17, go_sem]) rfl ⟨rfl, bel3 _ _ _ _⟩
  · have E : Hid (rowV row n = zero) := by show _ = _; simp [rowV, h0]
    obtain ⟨ro, rc, rfl⟩ := hr.shape
    clear hes he hr
    go_enter Tryd.func17, Tryd.ntmps17
    go_wp2
    rw [E.out]
    exact bodyPost_ret (v := .agg #[.int .i64 0, .int .i64 0, .string noW]) (by simp [results, Tryd.results17, go_sem]) rfl ⟨rfl, bel3 _ _ _ _⟩

set_option maxRecDepth 100000 in
set_option maxHeartbeats 4000000 in
theorem evalOf_few (op : Int) (x : V) (s name : Wd) (n : Int) (l : List E) (v rv : Value) (row : List V) (C : Nat) (w : World) (he : IsE (fun k => k < C) w (.mk op x s name n l) v) (hr : IsVals w rv row) (_hrl : row.length ≤ maxLen) (_hl : l.length ≤ maxLen) (hop : 3 ≤ op ∧ op ≤ 10) (hk : l.length ≠ argc op) :
    Calls Tryd.prog 17 #[v, rv] w fun r w' => r = .returned (zero).val ∧ Below w.heap.size w w' := by
  obtain ⟨sv, rfl, hes⟩ := he.open
  obtain ⟨ao, c, rfl⟩ := hes.shape
  obtain ⟨xk, xn, xs⟩ := x
  obtain ⟨ro, rc, rfl⟩ := hr.shape
  clear hes he hr
  rcases (show op = 9 ∨ op = 10 ∨ op = 7 ∨ op = 8 ∨ op = 3 ∨ op = 4 ∨ op = 5 ∨ op = 6 from by omega) with rfl | rfl | rfl | rfl | rfl | rfl | rfl | rfl
  · have h1 : l.length ≠ 1 := hk
    have h2 : ((l.length : Int) == 1) = false := by simp; omega
    clear hk hop
    go_enter Tryd.func17, Tryd.ntmps17
    go_wp2
    exact bodyPost_ret (v := .agg #[.int .i64 0, .int .i64 0, .string noW]) (by simp [results, Tryd.results17, go_sem]) rfl ⟨rfl, bel3 _ _ _ _⟩
  · have h1 : l.length ≠ 1 := hk
    have h2 : ((l.length : Int) == 1) = false := by simp; omega
    clear hk hop
    go_enter Tryd.func17, Tryd.ntmps17
    go_wp2
    exact bodyPost_ret (v := .agg #[.int .i64 0, .int .i64 0, .string noW]) (by simp [results, Tryd.results17, go_sem]) rfl ⟨rfl, bel3 _ _ _ _⟩
  · have h1 : l.length ≠ 2 := hk
    have h2 : ((l.length : Int) == 2) = false := by simp; omega
    have h3 : ((l.length : Int) != 2) = true := by simp; omega
    clear hk hop
    go_enter Tryd.func17, Tryd.ntmps17
    go_wp2
    exact bodyPost_ret (v := .agg #[.int .i64 0, .int .i64 0, .string noW]) (by simp [results, Tryd.results17, go_sem]) rfl ⟨rfl, bel3 _ _ _ _⟩
  · have h1 : l.length ≠ 2 := hk
    have h2 : ((l.length : Int) == 2) = false := by simp; omega
    have h3 : ((l.length : Int) != 2) = true := by simp; omega
    clear hk hop
    go_enter Tryd.func17, Tryd.ntmps17
    go_wp2
    exact bodyPost_ret (v := .agg #[.int .i64 0, .int .i64 0, .string noW]) (by simp [results, Tryd.results17, go_sem]) rfl ⟨rfl, bel3 _ _ _ _⟩
  · have h1 : l.length ≠ 2 := hk
    have h2 : ((l.length : Int) == 2) = false := by simp; omega
    have h3 : ((l.length : Int) != 2) = true := by simp; omega
    clear hk hop
    go_enter Tryd.func17, Tryd.ntmps17
    go_wp2
    exact bodyPost_ret (v := .agg #[.int .i64 0, .int .i64 0, .string noW]) (by simp [results, Tryd.results17, go_sem]) rfl ⟨rfl, bel3 _ _ _ _⟩
  · have h1 : l.length ≠ 2 := hk
    have h2 : ((l.length : Int) == 2) = false := by simp; omega
    have h3 : ((l.length : Int) != 2) = true := by simp; omega
    clear hk hop
    go_enter Tryd.func17, Tryd.ntmps17
    go_wp2
    exact bodyPost_ret (v := .agg #[.int .i64 0, .int .i64 0, .string noW]) (by simp [results, Tryd.results17, go_sem]) rfl ⟨rfl, bel3 _ _ _ _⟩
  · have h1 : l.length ≠ 2 := hk
    have h2 : ((l.length : Int) == 2) = false := by simp; omega
    have h3 : ((l.length : Int) != 2) = true := by simp; omega
    clear hk hop
    go_enter Tryd.func17, Tryd.ntmps17
    go_wp2
    exact bodyPost_ret (v := .agg #[.int .i64 0, .int .i64 0, .string noW]) (by simp [results, Tryd.results17, go_sem]) rfl ⟨rfl, bel3 _ _ _ _⟩
  · have h1 : l.length ≠ 2 := hk
    have h2 : ((l.length : Int) == 2) = false := by simp; omega
    have h3 : ((l.length : Int) != 2) = true := by simp; omega
    clear hk hop
    go_enter Tryd.func17, Tryd.ntmps17
    go_wp2
    exact bodyPost_ret (v := .agg #[.int .i64 0, .int .i64 0, .string noW]) (by simp [results, Tryd.results17, go_sem]) rfl ⟨rfl, bel3 _ _ _ _⟩

set_option maxRecDepth 100000 in
set_option maxHeartbeats 4000000 in
theorem evalOf_other (op : Int) (x : V) (s name : Wd) (n : Int) (l : List E) (v rv : Value) (row : List V) (C : Nat) (w : World) (he : IsE (fun k => k < C) w (.mk op x s name n l) v) (hr : IsVals w rv row) (_hrl : row.length ≤ maxLen) (_hl : l.length ≤ maxLen) (hop : op < 1 ∨ 10 < op) :
    Calls Tryd.prog 17 #[v, rv] w fun r w' => r = .returned (zero).val ∧ Below w.heap.size w w' := by
  obtain ⟨sv, rfl, hes⟩ := he.open
  obtain ⟨ao, c, rfl⟩ := hes.shape
  obtain ⟨xk, xn, xs⟩ := x
  obtain ⟨ro, rc, rfl⟩ := hr.shape
  clear hes he hr
  have e1 : (op == 1) = false := by simp; omega
  have e2 : (op == 2) = false := by simp; omega
  have e9 : (op == 9) = false := by simp; omega
  have e10 : (op == 10) = false := by simp; omega
  have e7 : (op == 7) = false := by simp; omega
  have e8 : (op == 8) = false := by simp; omega
  rcases hop with hop | hop
  · have h3 : op < 3 := by omega
    go_enter Tryd.func17, Tryd.ntmps17
    go_wp2
    exact bodyPost_ret (v := .agg #[.int .i64 0, .int .i64 0, .string noW]) (by simp [results, Tryd.results17, go_sem]) rfl ⟨rfl, bel3 _ _ _ _⟩
  · have h3 : ¬ op < 3 := by omega
    have h6 : 6 < op := by omega
    go_enter Tryd.func17, Tryd.ntmps17
    go_wp2
    exact bodyPost_ret (v := .agg #[.int .i64 0, .int .i64 0, .string noW]) (by simp [results, Tryd.results17, go_sem]) rfl ⟨rfl, bel3 _ _ _ _⟩

/-- What has no use for arguments, or not as many. -/
theorem evalOf_none (op : Int) (x : V) (s name : Wd) (n : Int) (l : List E) (hk : kidsOf op l = []) : OfSays (.mk op x s name n l) := by
  intro v rv row C w he _ _ hr _ hrl _ _
  have hl : l.length ≤ maxLen := by
    obtain ⟨sv, _, ⟨cs, hes, _⟩⟩ := he.open
    rcases hes.2 with ⟨h1, _⟩ | ⟨_, kb, kf, kc', h2, _, _, h4, h5, _⟩
    · rw [h1]; exact Nat.zero_le _
    · omega
  have E : ev row (.mk op x s name n l) = noneV op x n row := by rw [ev_kids, hk]; rfl
  rw [E]
  by_cases h1 : op = 1
  · subst h1
    exact evalOf_lit x s name n l v rv row C w he hr hrl
  by_cases h2 : op = 2
  · subst h2
    exact evalOf_ref x s name n l v rv row C w he hr hrl hl
  have E2 : noneV op x n row = zero := by simp [noneV, h1, h2]
  rw [E2]
  by_cases hop : 3 ≤ op ∧ op ≤ 10
  · refine evalOf_few op x s name n l v rv row C w he hr hrl hl hop ?_
    intro h
    rw [kidsOf, if_pos h] at hk
    subst hk
    have : 0 < argc op := by
      unfold argc
      repeat' split
      all_goals omega
    simp at h
    omega
  · exact evalOf_other op x s name n l v rv row C w he hr hrl hl (by omega)

end Go.Proofs.YtaiflkmlpjnmmaaDoor
