/-
  The walk of EvalThree: of what is asked, what is not, and whether it is nothing, just one is so.
-/
import Derived.Test.YtaiflkmlpjnmmabXEvalsK
namespace Go.Proofs.Ytaiflkmlpjnmmab
open Go.RowKit

/-- What is asked, its contrary, and whether nobody knows. -/
def asked (e : E) : List E := [e, .mk 9 zero noW noW 0 [e], .mk 10 zero noW noW 0 [e]]
/-- How many of the first ones are so. -/
def soMany (row : List V) (e : E) (j : Nat) : Int := ((asked e).take j).foldl (fun n x => if ofV (ev row x) = 1 then n + 1 else n) 0
theorem soMany_succ (row : List V) (e x : E) (j : Nat) (h : (asked e)[j]? = some x) : soMany row e (j + 1) = if ofV (ev row x) = 1 then soMany row e j + 1 else soMany row e j := by
  unfold soMany
  rw [List.take_add_one, h, List.foldl_append]
  rfl
theorem soMany_le (row : List V) (e : E) : ∀ j, j ≤ 3 → 0 ≤ soMany row e j ∧ soMany row e j ≤ j
  | 0, _ => by simp [soMany]
  | j + 1, h => by
    obtain ⟨h1, h2⟩ := soMany_le row e j (by omega)
    obtain ⟨x, hx⟩ : ∃ x, (asked e)[j]? = some x := ⟨_, List.getElem?_eq_getElem (by simp [asked]; omega)⟩
    rw [soMany_succ row e x j hx]
    split <;> omega
theorem just_one (row : List V) (e : E) (h : (ev row e).k = 0 ∨ (ev row e).k = 3) : soMany row e 3 = 1 := by
  have e1 : ev row (.mk 9 zero noW noW 0 [e]) = truthV (tNot (ofV (ev row e))) := by rw [ev_kids]; rfl
  have e2 : ev row (.mk 10 zero noW noW 0 [e]) = whV (decide ((ev row e).k = 0)) := by rw [ev_kids]; rfl
  unfold soMany
  simp only [asked, List.take_succ_cons, List.take_zero, List.foldl_cons, List.foldl_nil]
  rw [e1, e2]
  generalize ev row e = v at h
  obtain ⟨k, n, s⟩ := v
  simp only at h
  rcases h with rfl | rfl
  · simp [ofV, tNot, truthV, whV, zero]
  · rcases (show n % 2 = 0 ∨ n % 2 = 1 from by omega) with h | h <;> simp [ofV, tNot, truthV, whV, h]

set_option maxRecDepth 100000 in
set_option maxHeartbeats 4000000 in
theorem evalThree_other (e : E) (v rv : Value) (row : List V) (C : Nat) (w : World) (he : IsE (fun k => k < C) w e v) (hC : C ≤ w.heap.size) (hn : e.nodes ≤ 1048576) (hf : fitE e) (hr : IsVals w rv row) (hrs : ∀ v ∈ row, v.s.size ≤ maxLen) (hrl : row.length ≤ maxLen)
    (h0 : (ev row e).k ≠ 0) (h3 : (ev row e).k ≠ 3) :
    Calls Try.prog 3 #[v, rv] w fun r w' => r = .returned (.bool true) ∧ Below w.heap.size w w' := by
  obtain ⟨op, ⟨xk, xn, xs⟩, s, name, n, ao, k, c, rfl⟩ := he.shape
  obtain ⟨ro, rc, rfl⟩ := hr.shape
  have hb1 : Below w.heap.size w (w.alloc (.cells (eArr op ⟨xk, xn, xs⟩ s name n (.slice ao k c)) 26)) := bel1 _ _
  have hW := eval_any e _ _ row C _ (IsE.keep (keepsC (hb1.mono hC)) e _ he) (Nat.le_trans hC hb1.size) (by omega) hf (hr.below hb1) hrs hrl
  generalize ev row e = z at hW h0 h3
  obtain ⟨zk, zn, zs⟩ := z
  simp only [V.val] at hW h0 h3
  have h0' : (zk != 0) = true := by simpa using h0
  have h3' : (zk != 3) = true := by simpa using h3
  go_enter Try.func3, Try.ntmps3
  go_wp2_with (first | (go_at_call 5; go_fit hW; rintro r1 w1 ⟨rfl, hb2⟩) | (go_at_call 6; go_fit (evals_any _); rintro r2 w2 ⟨rfl, hb3⟩))
  go_ret
  exact ⟨rfl, bthen (bthen hb1 hb2) (bthen (bel1 _ _) hb3)⟩

/-- The three in memory. -/
theorem asked_mem {w1 W : World} {e : E} {op xk xn : Int} {xs s name : Wd} {n : Int} {ao : Option Addr} {k c C : Nat} (he : IsE (fun k => k < C) w1 e (.agg (eArr op ⟨xk, xn, xs⟩ s name n (.slice ao k c)))) (hC : C ≤ w1.heap.size) (o1 : Obj)
    (hW : W = (((w1.alloc o1).alloc (.cells (eArr op ⟨xk, xn, xs⟩ s name n (.slice ao k c)) 26)).alloc (.cells (eArr op ⟨xk, xn, xs⟩ s name n (.slice ao k c)) 26)).alloc (.cells #[.int .i64 op, .int .i64 xk, .int .i64 xn, .string xs, .string s, .string name, .int .i64 n, .slice ao k c, .int .i64 9, .int .i64 0, .int .i64 0, .string noW, .string noW, .string noW, .int .i64 0, .slice (some ⟨w1.heap.size + 1, 0, none⟩) 1 1, .int .i64 10, .int .i64 0, .int .i64 0, .string noW, .string noW, .string noW, .int .i64 0, .slice (some ⟨w1.heap.size + 2, 0, none⟩) 1 1] 26)) :
    IsEs (fun k => k < W.heap.size) W (.slice (some ⟨w1.heap.size + 3, 0, none⟩) 3 3) (asked e) ∧ Below w1.heap.size w1 W := by
  have hb : Below w1.heap.size w1 W := by rw [hW]; exact (bel3 _ _ _ _).alloc (by simp; omega) _
  have b1 : W.heap[w1.heap.size + 1]? = some (.cells (eArr op ⟨xk, xn, xs⟩ s name n (.slice ao k c)) 26) := by rw [hW]; exact block_alloc_of (block_alloc_of (block2 _ _ _) _) _
  have b2 : W.heap[w1.heap.size + 2]? = some (.cells (eArr op ⟨xk, xn, xs⟩ s name n (.slice ao k c)) 26) := by rw [hW]; exact block_alloc_of (block3 _ _ _ _) _
  have b3 : W.heap[w1.heap.size + 3]? = some (.cells #[.int .i64 op, .int .i64 xk, .int .i64 xn, .string xs, .string s, .string name, .int .i64 n, .slice ao k c, .int .i64 9, .int .i64 0, .int .i64 0, .string noW, .string noW, .string noW, .int .i64 0, .slice (some ⟨w1.heap.size + 1, 0, none⟩) 1 1, .int .i64 10, .int .i64 0, .int .i64 0, .string noW, .string noW, .string noW, .int .i64 0, .slice (some ⟨w1.heap.size + 2, 0, none⟩) 1 1] 26) := by
    rw [hW]
    have := block_alloc_at (((w1.alloc o1).alloc (.cells (eArr op ⟨xk, xn, xs⟩ s name n (.slice ao k c)) 26)).alloc (.cells (eArr op ⟨xk, xn, xs⟩ s name n (.slice ao k c)) 26)) (.cells #[.int .i64 op, .int .i64 xk, .int .i64 xn, .string xs, .string s, .string name, .int .i64 n, .slice ao k c, .int .i64 9, .int .i64 0, .int .i64 0, .string noW, .string noW, .string noW, .int .i64 0, .slice (some ⟨w1.heap.size + 1, 0, none⟩) 1 1, .int .i64 10, .int .i64 0, .int .i64 0, .string noW, .string noW, .string noW, .int .i64 0, .slice (some ⟨w1.heap.size + 2, 0, none⟩) 1 1] 26)
    rwa [show (((w1.alloc o1).alloc (.cells (eArr op ⟨xk, xn, xs⟩ s name n (.slice ao k c)) 26)).alloc (.cells (eArr op ⟨xk, xn, xs⟩ s name n (.slice ao k c)) 26)).heap.size = w1.heap.size + 3 from by simp] at this
  clear hW
  have heW : IsE (fun k => k < W.heap.size) W e (.agg (eArr op ⟨xk, xn, xs⟩ s name n (.slice ao k c))) := IsE.mono (fun k h _ => h) e _ (IsE.keep (keepsC (hb.mono hC)) e _ he)
  have one : ∀ g, W.heap[g]? = some (.cells (eArr op ⟨xk, xn, xs⟩ s name n (.slice ao k c)) 26) → IsEs (fun k => k < W.heap.size) W (.slice (some ⟨g, 0, none⟩) 1 1) [e] := fun g hg =>
    ⟨[.int .i64 op, .int .i64 xk, .int .i64 xn, .string xs, .string s, .string name, .int .i64 n, .slice ao k c], ⟨rfl, .inr ⟨by simp, g, 0, 1, rfl, lt_of_block hg, lt_of_block hg, Nat.le_refl _, by decide, fun j u hj => cell_of_block hg (by simpa using hj)⟩⟩, allE_one rfl heW⟩
  refine ⟨⟨[.int .i64 op, .int .i64 xk, .int .i64 xn, .string xs, .string s, .string name, .int .i64 n, .slice ao k c] ++ ([.int .i64 9, .int .i64 0, .int .i64 0, .string noW, .string noW, .string noW, .int .i64 0, .slice (some ⟨w1.heap.size + 1, 0, none⟩) 1 1] ++ [.int .i64 10, .int .i64 0, .int .i64 0, .string noW, .string noW, .string noW, .int .i64 0, .slice (some ⟨w1.heap.size + 2, 0, none⟩) 1 1]), ⟨rfl, .inr ⟨by simp [asked], w1.heap.size + 3, 0, 3, rfl, lt_of_block b3, lt_of_block b3, Nat.le_refl _, by decide, fun j u hj => cell_of_block b3 (by simpa using hj)⟩⟩, ?_⟩, hb⟩
  exact allE_append (l := [e]) (allE_one rfl heW) (allE_append (l := [.mk 9 zero noW noW 0 [e]]) (allE_one rfl (isE_mk (x := zero) (one _ b1))) (allE_one rfl (isE_mk (x := zero) (one _ b2))))
theorem asked_fit {e : E} (h : fitE e) (hn : e.nodes ≤ 1048576) : ∀ x ∈ asked e, fitE x ∧ x.nodes ≤ 16777216 := by
  intro x hx
  rcases List.mem_cons.1 hx with rfl | hx
  · exact ⟨h, by omega⟩
  · rcases List.mem_cons.1 hx with rfl | hx
    · exact ⟨by simp [fitE, fitL, h, small_zero], by simp [E.nodes, nodesL]; omega⟩
    · rcases List.mem_cons.1 hx with rfl | hx
      · exact ⟨by simp [fitE, fitL, h, small_zero], by simp [E.nodes, nodesL]; omega⟩
      · cases hx

set_option maxRecDepth 100000 in
set_option maxHeartbeats 4000000 in
theorem evalThree_truth (e : E) (v rv : Value) (row : List V) (C : Nat) (w : World) (he : IsE (fun k => k < C) w e v) (hC : C ≤ w.heap.size) (hn : e.nodes ≤ 1048576) (hf : fitE e) (hr : IsVals w rv row) (hrs : ∀ v ∈ row, v.s.size ≤ maxLen) (hrl : row.length ≤ maxLen)
    (h03 : (ev row e).k = 0 ∨ (ev row e).k = 3) :
    Calls Try.prog 3 #[v, rv] w fun r w' => r = .returned (.bool true) ∧ Below w.heap.size w w' := by
  obtain ⟨op, ⟨xk, xn, xs⟩, s, name, n, ao, k, c, rfl⟩ := he.shape
  obtain ⟨ro, rc, rfl⟩ := hr.shape
  have hb1 : Below w.heap.size w (w.alloc (.cells (eArr op ⟨xk, xn, xs⟩ s name n (.slice ao k c)) 26)) := bel1 _ _
  have hW := eval_any e _ _ row C _ (IsE.keep (keepsC (hb1.mono hC)) e _ he) (Nat.le_trans hC hb1.size) (by omega) hf (hr.below hb1) hrs hrl
  have H3 : Hid (soMany row e 3 = 1) := just_one row e h03
  have hbx : (w.alloc (.cells (eArr op ⟨xk, xn, xs⟩ s name n (.slice ao k c)) 26)).heap[w.heap.size]? = some (.cells (eArr op ⟨xk, xn, xs⟩ s name n (.slice ao k c)) 26) := block_alloc_at _ _
  generalize hz : ev row e = z at hW h03
  obtain ⟨zk, zn, zs⟩ := z
  simp only [V.val] at hW h03
  have h03' : (if zk != 0 then zk != 3 else false) = false := by rcases h03 with rfl | rfl <;> rfl
  rcases h03 with rfl | rfl
  all_goals
    go_enter Try.func3, Try.ntmps3
    go_wp2_with (first | (go_at_call 5; go_fit hW; rintro r1 w1 ⟨rfl, hb2⟩; have hbx1 := (hb2.block _ (by simp)).trans hbx; have hlt1 := lt_of_block hbx1; have d0 := cell_of_block hbx1 (j := 0) rfl; have d1 := cell_of_block hbx1 (j := 1) rfl; have d2 := cell_of_block hbx1 (j := 2) rfl; have d3 := cell_of_block hbx1 (j := 3) rfl; have d4 := cell_of_block hbx1 (j := 4) rfl; have d5 := cell_of_block hbx1 (j := 5) rfl; have d6 := cell_of_block hbx1 (j := 6) rfl; have d7 := cell_of_block hbx1 (j := 7) rfl))
    have hbw1 : Below w.heap.size w w1 := bthen hb1 hb2
    have he1 := IsE.keep (keepsC (hbw1.mono hC)) e _ he
    have hask := fun q : Int => asked_mem he1 (Nat.le_trans hC hbw1.size) (.cells #[.int .i64 q, .int .i64 zn, .string zs] 23) rfl
    clear he1 d0 d1 d2 d3 d4 d5 d6 d7 hlt1 hbx1 hbx hb2 hW he h03'
    go_loopw [6, 30] (fun nv i wr => ∃ (j D : Nat), j ≤ 3 ∧ i = .int .i64 j ∧ nv = .int .i64 (soMany row e j) ∧ IsEs (fun k => k < D) wr (.slice (some ⟨w1.heap.size + 1 + 1 + 1, 0, none⟩) 3 3) (asked e) ∧ D ≤ wr.heap.size ∧ Below w.heap.size w wr) (fun _ i _ => 3 - (intOf i).toNat)
    case atStart => exact ⟨0, _, Nat.zero_le _, rfl, rfl, (hask _).1, Nat.le_refl _, bthen hbw1 (hask _).2⟩
    case round =>
      obtain ⟨j, D, hj, rfl, rfl, hes, hD, hbel⟩ := hrel
      obtain ⟨hs0, hs1⟩ := soMany_le row e j hj
      clear hask
      by_cases hj3 : j < 3
      · obtain ⟨y, hy⟩ : ∃ y, (asked e)[j]? = some y := ⟨_, List.getElem?_eq_getElem (by simpa [asked] using hj3)⟩
        obtain ⟨hyf, hyn⟩ := asked_fit hf hn y (List.mem_of_getElem? hy)
        have HS : Hid (soMany row e (j + 1) = if ofV (ev row y) = 1 then soMany row e j + 1 else soMany row e j) := soMany_succ row e y j hy
        have hesC := hes
        obtain ⟨cs, hrB, haE⟩ := hes
        obtain ⟨yo, yk, yn, yt, ys, ym, yi, ya, yl, yc, hye, hyc⟩ := row_elem hrB haE hy
        obtain ⟨c0, c1, c2, c3, c4, c5, c6, c7⟩ := hyc wr (Below.refl _ _)
        clear hy hyc hrB haE
        simp only [Nat.zero_add] at c0 c1 c2 c3 c4 c5 c6 c7
        have j0 : (0 : Int) ≤ (j : Int) := by omega
        have j1 : (j : Int) < 3 := by omega
        have hba : Below wr.heap.size wr (wr.alloc (.cells #[.int .i64 yo, .int .i64 yk, .int .i64 yn, .string yt, .string ys, .string ym, .int .i64 yi, .slice ya yl yc] 26)) := bel1 _ _
        have hW := eval_any y _ _ row D _ (IsE.keep (keepsC (hba.mono hD)) y _ hye) (Nat.le_trans hD hba.size) hyn hyf ((hr.below hbel).below hba) hrs hrl
        have hO := fun w => of_any (ev row y) w
        generalize ofV (ev row y) = o at HS hO
        generalize ev row y = z at hW hO
        obtain ⟨yzk, yzn, yzs⟩ := z
        simp only [V.val] at hW hO
        generalize hsm : soMany row e j = q at hs0 hs1 HS ⊢
        have hq : IntKind.i64.wrap (q + 1) = q + 1 := by rw [IntKind.wrap_i64]; omega
        clear hsm
        by_cases ho : o = 1
        · subst ho
          go_wp2_with (first | (go_at_call 5; go_fit hW; rintro r1 w2 ⟨rfl, hb2⟩) | (go_at_call 7; go_fit (hO _); rintro r2 w3 ⟨rfl, hb3⟩))
          have hb4 : Below wr.heap.size wr w3 := bthen (bthen hba hb2) hb3
          go_roundw
          case rel => exact ⟨j + 1, D, by omega, by go_num, by rw [HS.out]; rfl, hesC.keep (keepsC (hb4.mono hD)), Nat.le_trans hD hb4.size, hbel.trans (hb4.mono hbel.size)⟩
          case measure => simp [intOf]; omega
        · go_wp2_with (first | (go_at_call 5; go_fit hW; rintro r1 w2 ⟨rfl, hb2⟩) | (go_at_call 7; go_fit (hO _); rintro r2 w3 ⟨rfl, hb3⟩))
          have hb4 : Below wr.heap.size wr w3 := bthen (bthen hba hb2) hb3
          go_roundw
          case rel => exact ⟨j + 1, D, by omega, by go_num, by rw [HS.out, if_neg ho], hesC.keep (keepsC (hb4.mono hD)), Nat.le_trans hD hb4.size, hbel.trans (hb4.mono hbel.size)⟩
          case measure => simp [intOf]; omega
      · have hj33 : j = 3 := by omega
        subst hj33
        rw [H3.out]
        go_wp2_with (first | (go_at_call 6; go_fit (evals_any _); rintro r2 w2 ⟨rfl, hb3⟩))
        go_ret
        exact ⟨rfl, hbel.trans (hb3.mono hbel.size)⟩

/-- THE WALK. -/
theorem evalThree_walk (e : E) (v rv : Value) (row : List V) (C : Nat) (w : World) (he : IsE (fun k => k < C) w e v) (hC : C ≤ w.heap.size) (hn : e.nodes ≤ 1048576) (hf : fitE e) (hr : IsVals w rv row) (hrs : ∀ v ∈ row, v.s.size ≤ maxLen) (hrl : row.length ≤ maxLen) :
    Calls Try.prog 3 #[v, rv] w fun r w' => r = .returned (.bool true) ∧ Below w.heap.size w w' := by
  by_cases h : (ev row e).k = 0 ∨ (ev row e).k = 3
  · exact evalThree_truth e v rv row C w he hC hn hf hr hrs hrl h
  · exact evalThree_other e v rv row C w he hC hn hf hr hrs hrl (fun x => h (.inl x)) (fun x => h (.inr x))

end Go.Proofs.Ytaiflkmlpjnmmab
