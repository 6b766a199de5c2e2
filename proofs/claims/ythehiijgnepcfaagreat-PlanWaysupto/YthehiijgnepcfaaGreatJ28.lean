/-
  5 texts of this proof in one, in build order: XWith, XOps2, XOps3, XApply, XFlat.
-/
import Derived.Laws.MakeOwn
import Derived.Test.YthehiijgnepcfaaGreatJ27
namespace Go.Proofs.YthehiijgnepcfaaGreat
open Go.RowKit

theorem take_snoc' {α : Type} {L : List α} {i : Nat} {x : α} (h : L[i]? = some x) : L.take (i + 1) = L.take i ++ [x] := by rw [List.take_add_one, h]; rfl
theorem bel_grow {w0 w w' : World} {z : Value} {n : Nat} {xs : List Value} {C : Nat} (h : Below C w0 w) (hown : w.ownsRow C 171 1 z n xs) (hC : C ≤ w.heap.size) (hg : w.grownBy w' z.ownBlock) : Below C w0 w' := h.trans (below_append hown hC hg)

set_option maxRecDepth 100000 in
set_option maxHeartbeats 4000000 in
theorem withArguments_any (e : E) (v : Value) (C : Nat) (w : World) (he : IsE (fun k => k < C) w e v) (hC : C ≤ w.heap.size) (hn : e.nodes ≤ 16777216) :
    Calls Tryz.prog 122 #[v] w fun r w' => ∃ zv L P, r = .returned zv ∧ IsRow 1 w' zv L.length P ∧ Ptrs (w.heap.size + 1) w' L P ∧ Queue e L L.length ∧ Below w.heap.size w w' ∧ w.heap.size + 1 ≤ w'.heap.size := by
  obtain ⟨i0, hi, hz0, hz1, hz2⟩ := info_parts info_ptr
  have H0 : ∃ op xk xn xs s name n ao c l, e = .mk op ⟨xk, xn, xs⟩ s name n l ∧ v = .agg (eArr op ⟨xk, xn, xs⟩ s name n (.slice ao l.length c)) ∧ IsEs (fun k => k < C) w (.slice ao l.length c) l := by
    cases e with
    | mk op x s name n l =>
      obtain ⟨sv, h1, h2⟩ := he.open
      obtain ⟨ao, c, rfl⟩ := h2.shape
      obtain ⟨xk, xn, xs⟩ := x
      exact ⟨op, xk, xn, xs, s, name, n, ao, c, l, rfl, h1, h2⟩
  obtain ⟨op, xk, xn, xs, s, name, n, ao, c, l, rfl, rfl, hes⟩ := H0
  clear he
  have hb1 : Below w.heap.size w (w.alloc (.cells (eArr op ⟨xk, xn, xs⟩ s name n (.slice ao l.length c)) 34)) := (Below.refl _ _).alloc (Nat.le_refl _) _
  have hb2 : Below w.heap.size w ((w.alloc (.cells (eArr op ⟨xk, xn, xs⟩ s name n (.slice ao l.length c)) 34)).alloc (.cells #[.pointer (some ⟨w.heap.size, 0, none⟩)] 171)) := hb1.alloc (by simp) _
  have hp0 : IsPtr (w.heap.size + 1) ((w.alloc (.cells (eArr op ⟨xk, xn, xs⟩ s name n (.slice ao l.length c)) 34)).alloc (.cells #[.pointer (some ⟨w.heap.size, 0, none⟩)] 171)) (.mk op ⟨xk, xn, xs⟩ s name n l) (.pointer (some ⟨w.heap.size, 0, none⟩)) := by
    have hbl : ((w.alloc (.cells (eArr op ⟨xk, xn, xs⟩ s name n (.slice ao l.length c)) 34)).alloc (.cells #[.pointer (some ⟨w.heap.size, 0, none⟩)] 171)).heap[w.heap.size]? = some (.cells (eArr op ⟨xk, xn, xs⟩ s name n (.slice ao l.length c)) 34) := block_alloc_of (block_alloc_at w _) _
    refine ⟨w.heap.size, 0, op, xk, xn, xs, s, name, n, ao, c, l, rfl, by omega, rfl, ⟨cell_of_block hbl rfl, cell_of_block hbl rfl, cell_of_block hbl rfl, cell_of_block hbl rfl, cell_of_block hbl rfl, cell_of_block hbl rfl, cell_of_block hbl rfl, cell_of_block hbl rfl⟩, ?_⟩
    exact (hes.keep (keepsC (hb2.mono hC))).mono fun k _ hk => by omega
  have hown0 : ((w.alloc (.cells (eArr op ⟨xk, xn, xs⟩ s name n (.slice ao l.length c)) 34)).alloc (.cells #[.pointer (some ⟨w.heap.size, 0, none⟩)] 171)).ownsRow (w.heap.size + 1) 171 1 (.slice (some ⟨w.heap.size + 1, 0, none⟩) 1 1) 1 [.pointer (some ⟨w.heap.size, 0, none⟩)] := by
    refine ⟨rfl, .inr ⟨w.heap.size + 1, 1, #[.pointer (some ⟨w.heap.size, 0, none⟩)], rfl, Nat.le_refl _, ?_, Nat.le_refl _, by decide, rfl, rfl⟩⟩
    have := block_alloc_at (w.alloc (.cells (eArr op ⟨xk, xn, xs⟩ s name n (.slice ao l.length c)) 34)) (.cells #[.pointer (some ⟨w.heap.size, 0, none⟩)] 171)
    rwa [World.size_alloc] at this
  have HQ := queue_start (.mk op ⟨xk, xn, xs⟩ s name n l)
  generalize hE : E.mk op ⟨xk, xn, xs⟩ s name n l = e at hp0 HQ hn ⊢
  clear hE
  go_enter Tryz.func122, Tryz.ntmps122
  go_wp2
  go_loopw [3, 4] (fun z i wr => ∃ (j : Nat) (L : List E) (P : List Value), i = .int .i64 j ∧ wr.ownsRow (w.heap.size + 1) 171 1 z L.length P ∧ Hid (Queue e L j) ∧ Ptrs (w.heap.size + 1) wr L P ∧ Below w.heap.size w wr ∧ w.heap.size + 1 ≤ wr.heap.size) (fun _ i _ => e.nodes - (intOf i).toNat)
  case atStart => exact ⟨0, [e], [.pointer (some ⟨w.heap.size, 0, none⟩)], rfl, hown0, HQ, fun i x hi => by
      match i, hi with
      | 0, hi => simp at hi; subst hi; exact ⟨_, rfl, hp0⟩
      | i + 1, hi => simp at hi, hb2, by simp⟩
  case round =>
    obtain ⟨j, L, P, rfl, hown, HQj, hP, hbel, hsz⟩ := hrel
    have hrow := IsRow.of_own hown
    have hlen := HQj.out.len
    have hPl : P.length = L.length := by have := hown.1; omega
    by_cases hlt : j < L.length
    · obtain ⟨x, hx⟩ : ∃ x, L[j]? = some x := ⟨_, List.getElem?_eq_getElem hlt⟩
      obtain ⟨p, hp, hptr⟩ := hP j x hx
      obtain ⟨b, o, op, xk, xn, xs, s, name, n, ao, c, l, rfl, hbC, rfl, ⟨c0, c1, c2, c3, c4, c5, c6, c7⟩, hes⟩ := hptr
      have HX : Hid (L[j]? = some (.mk op ⟨xk, xn, xs⟩ s name n l)) := hx
      clear hx
      rcases hrow.2 with ⟨h1, _⟩ | ⟨_, zb, zo, zc, rfl, _, _, _, h3⟩
      · omega
      have hzb := h3 j _ hp
      clear h3
      have j0 : (0 : Int) ≤ (j : Int) := by omega
      have j1 : (j : Int) < (L.length : Int) := by omega
      have ha := arguments_kids op ⟨xk, xn, xs⟩ s name n ao c l wr hes hsz
      clear hp
      go_wp2_with (first | (go_at_call 74; refine ha.mono ?_; rintro e1 w1 ⟨ko, kc, rfl, hk1, hbk⟩))
      have hbw : Below w.heap.size w w1 := hbel.trans (hbk.mono hbel.size)
      have hsz1 : w.heap.size + 1 ≤ w1.heap.size := Nat.le_trans hsz hbk.size
      have hown1 := ownsRow_below hown hbk
      have hP1 := hP.keep (hbk.mono hsz)
      have hKl : (kidsOf op l).length ≤ 2 := kids_le (.mk op ⟨xk, xn, xs⟩ s name n l)
      have HS : Hid (Queue e (L ++ kidsOf op l) (j + 1)) := HQj.out.step HX.out
      have hlen2 : (L ++ kidsOf op l).length ≤ e.nodes := HS.out.len
      rw [List.length_append] at hlen2
      clear hown hP hes ha hbk hbel hsz HX HQj c0 c1 c2 c3 c4 c5 c6 c7 hrow hzb hb1 hb2 hown0 hp0 HQ hbC
      generalize kidsOf op l = K at hk1 HS hlen2 hKl
      go_loopw [3, 23] (fun z k wr => ∃ (m : Nat) (P' : List Value), m ≤ K.length ∧ k = .int .i64 m ∧ wr.ownsRow (w.heap.size + 1) 171 1 z (L ++ K.take m).length P' ∧ Ptrs (w.heap.size + 1) wr (L ++ K.take m) P' ∧ Below w.heap.size w wr ∧ w.heap.size + 1 ≤ wr.heap.size ∧ IsEs (fun k => k < w.heap.size + 1) wr (.slice ko K.length kc) K) (fun _ k _ => K.length - (intOf k).toNat)
      case atStart => exact ⟨0, P, Nat.zero_le _, rfl, by simpa using hown1, by simpa using hP1, hbw, hsz1, hk1⟩
      case round =>
        obtain ⟨m, P', hm, rfl, hown, hP, hbel, hsz, hk⟩ := hrel
        have hPl' : Hid (P'.length = (L ++ K.take m).length) := by show _ = _; have := hown.1; omega
        have hLm : Hid ((L ++ K.take m).length = L.length + m) := by show _ = _; rw [List.length_append, List.length_take, Nat.min_eq_left hm]
        rw [hLm.out] at hown
        by_cases hmk : m < K.length
        · obtain ⟨y, hy⟩ : ∃ y, K[m]? = some y := ⟨_, List.getElem?_eq_getElem hmk⟩
          obtain ⟨kb, kf, rfl⟩ : ∃ kb kf, ko = some ⟨kb, kf, none⟩ := by
            obtain ⟨cs, hr, _⟩ := hk
            rcases hr.2 with ⟨h1, _⟩ | ⟨_, kb, kf, kc', h2, _⟩
            · omega
            · cases h2; exact ⟨kb, kf, rfl⟩
          have hptr := ptr_elem hk hy
          have HY : Hid (L ++ K.take (m + 1) = (L ++ K.take m) ++ [y]) := by show _ = _; rw [take_snoc' hy, List.append_assoc]
          have m0 : (0 : Int) ≤ (m : Int) := by omega
          have m1 : (m : Int) < (K.length : Int) := by omega
          obtain ⟨zo, zc, rfl⟩ := (IsRow.of_own hown).shape
          have hown2 := hown.alloc (.cells #[.pointer (some ⟨kb, kf + m * 8, none⟩)] 171)
          have hB1 : Below w.heap.size w (wr.alloc (.cells #[.pointer (some ⟨kb, kf + m * 8, none⟩)] 171)) := hbel.alloc hbel.size _
          have hB2 : Below (w.heap.size + 1) wr (wr.alloc (.cells #[.pointer (some ⟨kb, kf + m * 8, none⟩)] 171)) := (Below.refl _ _).alloc hsz _
          have hbase : w.heap.size + 1 ≤ (wr.alloc (.cells #[.pointer (some ⟨kb, kf + m * 8, none⟩)] 171)).heap.size := by rw [World.size_alloc]; omega
          have hnew := cells_new wr [.pointer (some ⟨kb, kf + m * 8, none⟩)] 171
          clear hy
          go_wp2_with (at_builtin; go_must (refine wpList_append_own _ rfl _ _ 169 rfl (w.heap.size + 1) 171 i0 (.pointer none) 1 8 Tryz.underlying169 hi hz0 hz1 hz2 rfl (by decide) _ _ _ rfl hown2 ⟨wr.heap.size, 0, none⟩ 1 1 [.pointer (some ⟨kb, kf + m * 8, none⟩)] rfl rfl hnew (by simp; rfl) (by simp only [maxLen]; omega) (by omega) hbase ?_))
          intro z2 w2 hown3 hg2 _
          have hap := below_append hown2 hbase hg2
          have hb3 : Below (w.heap.size + 1) wr w2 := hB2.trans hap
          go_wp2
          go_roundw
          case rel =>
            refine ⟨m + 1, P' ++ [.pointer (some ⟨kb, kf + m * 8, none⟩)], by omega, by go_num, ?_, ?_, hbel.trans (hb3.mono (by omega)), Nat.le_trans hbase hap.size, hk.keep (keepsC hb3)⟩
            · rw [HY.out, List.length_append, hLm.out]; exact hown3
            · rw [HY.out]; exact (hP.snoc hPl'.out hptr).keep hb3
          case measure => simp [intOf]; omega
        · have hmK : m = K.length := by omega
          subst hmK
          rw [← hLm.out, List.take_length] at hown
          rw [List.take_length] at hP
          go_wp2
          go_roundw
          case rel => exact ⟨j + 1, L ++ K, P', by go_num, hown, HS, hP, hbel, hsz⟩
          case measure => simp [intOf]; omega
    · obtain ⟨zo, zc, rfl⟩ := hrow.shape
      have hle := HQj.out.le
      have hj : j = L.length := by omega
      subst hj
      go_wp2
      go_ret
      exact ⟨_, L, P, rfl, hrow, hP, HQj.out, hbel, hsz⟩

end Go.Proofs.YthehiijgnepcfaaGreat

namespace Go.Proofs.YthehiijgnepcfaaGreat
open Go.RowKit

set_option maxRecDepth 100000 in
set_option maxHeartbeats 1000000 in
theorem ofNone_any (op : Int) (x : V) (s name : Wd) (n : Int) (sv rv : Value) (row : List V) (w : World) (hr : IsVals w rv row) (hn : row.length ≤ maxLen) (hsv : ∃ ao k c, sv = .slice ao k c) :
    Calls Tryz.prog 126 #[.agg (eArr op x s name n sv), rv] w fun e w' => e = .returned (noneV op x n row).val ∧ Below w.heap.size w w' := by
  obtain ⟨ao, k, c, rfl⟩ := hsv
  by_cases h1 : op = 1
  · subst h1
    obtain ⟨ro, rc, rfl⟩ := hr.shape
    obtain ⟨xk, xn, xs⟩ := x
    go_enter Tryz.func126, Tryz.ntmps126
    go_wp2
    exact bodyPost_ret (v := .agg #[.int .i64 xk, .int .i64 xn, .string xs]) (by simp [results, Tryz.results126, go_sem]) rfl ⟨rfl, ((Below.refl _ _).alloc (Nat.le_refl _) _).alloc (by simp) _⟩
  by_cases h2 : op = 2
  · subst h2
    by_cases h0 : 0 ≤ n
    · obtain ⟨m, rfl⟩ : ∃ m : Nat, n = m := ⟨n.toNat, by omega⟩
      by_cases hm : m < row.length
      · obtain ⟨v, hv⟩ : ∃ v, row[m]? = some v := ⟨_, List.getElem?_eq_getElem hm⟩
        have E : Hid (noneV 2 x m row = v) := by show _ = _; simp [noneV, rowV, hv]
        rcases hr with ⟨_, rfl⟩ | ⟨b, off, cap, rfl, hb, hh⟩
        · simp at hm
        obtain ⟨c0, c1, c2⟩ := hh m v hv
        clear hh hv
        obtain ⟨vk, vn, vs⟩ := v
        obtain ⟨xk, xn, xs⟩ := x
        go_enter Tryz.func126, Tryz.ntmps126
        go_wp2
        rw [E.out]
        exact bodyPost_ret (v := .agg #[.int .i64 vk, .int .i64 vn, .string vs]) (by simp [results, Tryz.results126, go_sem]) rfl ⟨rfl, ((Below.refl _ _).alloc (Nat.le_refl _) _).alloc (by simp) _⟩
      · have E : Hid (noneV 2 x m row = zero) := by show _ = _; simp [noneV, rowV, List.getElem?_eq_none (by omega : row.length ≤ m)]
        obtain ⟨ro, rc, rfl⟩ := hr.shape
        obtain ⟨xk, xn, xs⟩ := x
        go_enter Tryz.func126, Tryz.ntmps126
        go_wp2
        rw [E.out]
        exact bodyPost_ret (v := .agg #[.int .i64 0, .int .i64 0, .string noW]) (by simp [results, Tryz.results126, go_sem]) rfl ⟨rfl, ((Below.refl _ _).alloc (Nat.le_refl _) _).alloc (by simp) _⟩
    · have E : Hid (noneV 2 x n row = zero) := by show _ = _; simp [noneV, rowV, h0]
      obtain ⟨ro, rc, rfl⟩ := hr.shape
      obtain ⟨xk, xn, xs⟩ := x
      go_enter Tryz.func126, Tryz.ntmps126
      go_wp2
      rw [E.out]
      exact bodyPost_ret (v := .agg #[.int .i64 0, .int .i64 0, .string noW]) (by simp [results, Tryz.results126, go_sem]) rfl ⟨rfl, ((Below.refl _ _).alloc (Nat.le_refl _) _).alloc (by simp) _⟩
  have E : Hid (noneV op x n row = zero) := by show _ = _; simp [noneV, h1, h2]
  obtain ⟨ro, rc, rfl⟩ := hr.shape
  obtain ⟨xk, xn, xs⟩ := x
  go_enter Tryz.func126, Tryz.ntmps126
  go_wp2
  rw [E.out]
  exact bodyPost_ret (v := .agg #[.int .i64 0, .int .i64 0, .string noW]) (by simp [results, Tryz.results126, go_sem]) rfl ⟨rfl, ((Below.refl _ _).alloc (Nat.le_refl _) _).alloc (by simp) _⟩

set_option maxRecDepth 100000 in
set_option maxHeartbeats 1000000 in
theorem ofOne_any (op : Int) (a : V) (w : World) : Calls Tryz.prog 124 #[.int .i64 op, a.val] w fun e w' => e = .returned (uniV op a).val ∧ Below w.heap.size w w' := by
  have ho := fun w => of_any a w
  by_cases h9 : op = 9
  · subst h9
    have E : Hid (uniV 9 a = truthV (tNot (ofV a))) := rfl
    generalize ofV a = o at E ho
    generalize uniV 9 a = r at E
    obtain ⟨k, n, s⟩ := a
    simp only [V.val] at ho
    show Calls Tryz.prog 124 #[.int .i64 9, .agg #[.int .i64 k, .int .i64 n, .string s]] w _
    go_enter Tryz.func124, Tryz.ntmps124
    go_wp2_with (first | (go_at_call 11; refine (ho _).mono ?_; rintro e w1 ⟨rfl, hb1⟩) | (go_at_call 158; refine (not_any _ _).mono ?_; rintro e w2 ⟨rfl, rfl⟩) | (go_at_call 157; refine (truth_any _ _).mono ?_; rintro e w3 ⟨rfl, hb3⟩; simp only [V.val]; obtain ⟨hcc, hff⟩ := bcell (bthen hb1 hb3)))
    rw [E.out]
    exact end_val _ Tryz.results124 rfl rfl (((bthen hb1 hb3).block _ (by simp)).trans (block2 _ _ _)) (bthen (bel2 _ _ _) (bthen hb1 hb3)) (Nat.le_succ _)
  by_cases h10 : op = 10
  · subst h10
    have E : Hid (uniV 10 a = whV (decide (a.k = 0))) := rfl
    generalize uniV 10 a = r at E
    clear ho
    obtain ⟨k, n, s⟩ := a
    show Calls Tryz.prog 124 #[.int .i64 10, .agg #[.int .i64 k, .int .i64 n, .string s]] w _
    go_enter Tryz.func124, Tryz.ntmps124
    go_wp2_with (first | (go_at_call 159; refine (whether_any _ _).mono ?_; rintro e w3 ⟨rfl, hb3⟩; simp only [V.val]; obtain ⟨hcc, hff⟩ := bcell hb3))
    rw [E.out]
    exact end_val _ Tryz.results124 rfl rfl ((hb3.block _ (by simp)).trans (block2 _ _ _)) (bthen (bel2 _ _ _) hb3) (Nat.le_succ _)
  have E : Hid (uniV op a = zero) := by show _ = _; simp [uniV, h9, h10]
  generalize uniV op a = r at E
  clear ho
  obtain ⟨k, n, s⟩ := a
  show Calls Tryz.prog 124 #[.int .i64 op, .agg #[.int .i64 k, .int .i64 n, .string s]] w _
  go_enter Tryz.func124, Tryz.ntmps124
  go_wp2
  rw [E.out]
  exact bodyPost_ret (v := .agg #[.int .i64 0, .int .i64 0, .string noW]) (by simp [results, Tryz.results124, go_sem]) rfl ⟨rfl, bel2 _ _ _⟩

/-- Of numbers that a row may have. -/
theorem add_fits {a b : Int} (h1 : -1000000 ≤ a) (h2 : a ≤ 1000000) (h3 : -1000000 ≤ b) (h4 : b ≤ 1000000) : IntKind.i64.wrap (a + b) = a + b ∧ IntKind.i64.wrap (a - b) = a - b := by
  rw [IntKind.wrap_i64, IntKind.wrap_i64]
  omega

set_option maxRecDepth 100000 in
set_option maxHeartbeats 1000000 in
theorem ofKnown_any (op : Int) (a b : V) (w : World) (ha : knownV a = true) (hb : knownV b = true) (hk : a.k = b.k) : Calls Tryz.prog 163 #[.int .i64 op, a.val, b.val] w fun e w' => e = .returned (knV op a b).val ∧ Below w.heap.size w w' := by
  have hc := fun w => compare_any a b w
  by_cases h5 : op = 5
  · subst h5
    have E : Hid (knV 5 a b = whV (decide (cmpV a b = 0))) := rfl
    generalize cmpV a b = c at E hc
    generalize knV 5 a b = r at E
    clear ha hb hk
    obtain ⟨k, n, s⟩ := a
    obtain ⟨k', n', s'⟩ := b
    simp only [V.val] at hc
    show Calls Tryz.prog 163 #[.int .i64 5, .agg #[.int .i64 k, .int .i64 n, .string s], .agg #[.int .i64 k', .int .i64 n', .string s']] w _
    go_enter Tryz.func163, Tryz.ntmps163
    go_wp2_with (first | (go_at_call 179; refine (hc _).mono ?_; rintro e w1 ⟨rfl, hb1⟩) | (go_at_call 159; refine (whether_any _ _).mono ?_; rintro e w3 ⟨rfl, hb3⟩; simp only [V.val]; obtain ⟨hcc, hff⟩ := bcell (bthen hb1 hb3)))
    rw [E.out]
    exact end_val _ Tryz.results163 rfl rfl (((bthen hb1 hb3).block _ (by simp)).trans (block3 _ _ _ _)) (bthen (bel3 _ _ _ _) (bthen hb1 hb3)) (by omega)
  by_cases h6 : op = 6
  · subst h6
    have E : Hid (knV 6 a b = whV (decide (cmpV a b < 0))) := rfl
    generalize cmpV a b = c at E hc
    generalize knV 6 a b = r at E
    clear ha hb hk
    obtain ⟨k, n, s⟩ := a
    obtain ⟨k', n', s'⟩ := b
    simp only [V.val] at hc
    show Calls Tryz.prog 163 #[.int .i64 6, .agg #[.int .i64 k, .int .i64 n, .string s], .agg #[.int .i64 k', .int .i64 n', .string s']] w _
    go_enter Tryz.func163, Tryz.ntmps163
    go_wp2_with (first | (go_at_call 179; refine (hc _).mono ?_; rintro e w1 ⟨rfl, hb1⟩) | (go_at_call 159; refine (whether_any _ _).mono ?_; rintro e w3 ⟨rfl, hb3⟩; simp only [V.val]; obtain ⟨hcc, hff⟩ := bcell (bthen hb1 hb3)))
    rw [E.out]
    exact end_val _ Tryz.results163 rfl rfl (((bthen hb1 hb3).block _ (by simp)).trans (block3 _ _ _ _)) (bthen (bel3 _ _ _ _) (bthen hb1 hb3)) (by omega)
  clear hc
  by_cases h1 : a.k = 1
  · have hn : -1000000 ≤ a.n ∧ a.n ≤ 1000000 := by have := ha; simp [knownV, good, h1] at this; exact ⟨this.1.1, this.1.2⟩
    have hn' : -1000000 ≤ b.n ∧ b.n ≤ 1000000 := by have := hb; rw [h1] at hk; simp [knownV, good, ← hk] at this; exact ⟨this.1.1, this.1.2⟩
    obtain ⟨e1, e2⟩ := add_fits hn.1 hn.2 hn'.1 hn'.2
    clear hn hn' ha hb hk
    by_cases h3 : op = 3
    · subst h3
      have E : Hid (knV 3 a b = numV (a.n + b.n)) := by show _ = _; simp [knV, h1]
      generalize knV 3 a b = r at E
      obtain ⟨k, n, s⟩ := a
      obtain ⟨k', n', s'⟩ := b
      simp only at h1 e1 e2
      subst h1
      show Calls Tryz.prog 163 #[.int .i64 3, .agg #[.int .i64 1, .int .i64 n, .string s], .agg #[.int .i64 k', .int .i64 n', .string s']] w _
      go_enter Tryz.func163, Tryz.ntmps163
      go_wp2_with (first | (go_at_call 180; refine (numberV_any _ _).mono ?_; rintro e w3 ⟨rfl, hb3⟩; simp only [V.val]; obtain ⟨hcc, hff⟩ := bcell hb3))
      rw [E.out]
      exact end_val _ Tryz.results163 rfl rfl ((hb3.block _ (by simp)).trans (block3 _ _ _ _)) (bthen (bel3 _ _ _ _) hb3) (by omega)
    by_cases h4 : op = 4
    · subst h4
      have E : Hid (knV 4 a b = numV (a.n - b.n)) := by show _ = _; simp [knV, h1]
      generalize knV 4 a b = r at E
      obtain ⟨k, n, s⟩ := a
      obtain ⟨k', n', s'⟩ := b
      simp only at h1 e1 e2
      subst h1
      show Calls Tryz.prog 163 #[.int .i64 4, .agg #[.int .i64 1, .int .i64 n, .string s], .agg #[.int .i64 k', .int .i64 n', .string s']] w _
      go_enter Tryz.func163, Tryz.ntmps163
      go_wp2_with (first | (go_at_call 180; refine (numberV_any _ _).mono ?_; rintro e w3 ⟨rfl, hb3⟩; simp only [V.val]; obtain ⟨hcc, hff⟩ := bcell hb3))
      rw [E.out]
      exact end_val _ Tryz.results163 rfl rfl ((hb3.block _ (by simp)).trans (block3 _ _ _ _)) (bthen (bel3 _ _ _ _) hb3) (by omega)
    have E : Hid (knV op a b = zero) := by show _ = _; simp [knV, h3, h4, h5, h6]
    generalize knV op a b = r at E
    obtain ⟨k, n, s⟩ := a
    obtain ⟨k', n', s'⟩ := b
    simp only at h1
    subst h1
    show Calls Tryz.prog 163 #[.int .i64 op, .agg #[.int .i64 1, .int .i64 n, .string s], .agg #[.int .i64 k', .int .i64 n', .string s']] w _
    go_enter Tryz.func163, Tryz.ntmps163
    go_wp2
    rw [E.out]
    exact bodyPost_ret (v := .agg #[.int .i64 0, .int .i64 0, .string noW]) (by simp [results, Tryz.results163, go_sem]) rfl ⟨rfl, bel3 _ _ _ _⟩
  have E : Hid (knV op a b = zero) := by show _ = _; simp [knV, h1, h5, h6]
  generalize knV op a b = r at E
  clear ha hb hk
  obtain ⟨k, n, s⟩ := a
  obtain ⟨k', n', s'⟩ := b
  simp only at h1
  have h1' : (k != 1) = true := by simpa using h1
  show Calls Tryz.prog 163 #[.int .i64 op, .agg #[.int .i64 k, .int .i64 n, .string s], .agg #[.int .i64 k', .int .i64 n', .string s']] w _
  go_enter Tryz.func163, Tryz.ntmps163
  go_wp2
  rw [E.out]
  exact bodyPost_ret (v := .agg #[.int .i64 0, .int .i64 0, .string noW]) (by simp [results, Tryz.results163, go_sem]) rfl ⟨rfl, bel3 _ _ _ _⟩

end Go.Proofs.YthehiijgnepcfaaGreat

namespace Go.Proofs.YthehiijgnepcfaaGreat
open Go.RowKit

set_option maxRecDepth 100000 in
set_option maxHeartbeats 2000000 in
theorem ofTwo_and (a b : V) (w : World) : Calls Tryz.prog 125 #[.int .i64 7, a.val, b.val] w fun e w' => e = .returned (twoV 7 a b).val ∧ Below w.heap.size w w' := by
  have ho := fun w => of_any a w
  have ho' := fun w => of_any b w
  have E : Hid (twoV 7 a b = truthV (tAnd (ofV a) (ofV b))) := rfl
  generalize ofV a = o at E ho
  generalize ofV b = o' at E ho'
  generalize twoV 7 a b = r at E
  obtain ⟨k, n, s⟩ := a
  obtain ⟨k', n', s'⟩ := b
  simp only [V.val] at ho ho'
  show Calls Tryz.prog 125 #[.int .i64 7, .agg #[.int .i64 k, .int .i64 n, .string s], .agg #[.int .i64 k', .int .i64 n', .string s']] w _
  go_enter Tryz.func125, Tryz.ntmps125
  go_wp2_with fail
  go_region_held3 (fun w' => w'.cell? ⟨w.heap.size, 0, none⟩ = some (.int .i64 k) ∧ w'.cell? ⟨w.heap.size, 1, none⟩ = some (.int .i64 n) ∧ w'.cell? ⟨w.heap.size, 2, none⟩ = some (.string s) ∧ w'.cell? ⟨w.heap.size + 1, 0, none⟩ = some (.int .i64 k') ∧ w'.cell? ⟨w.heap.size + 1, 1, none⟩ = some (.int .i64 n') ∧ w'.cell? ⟨w.heap.size + 1, 2, none⟩ = some (.string s')) (first | (go_keep; done) | ((try dsimp only); (repeat' apply And.intro) <;> (rw [cell_set_ne (by omega), cell_set_ne (by omega), cell_set_ne (by omega)]; first | assumption | go_keep | simp_all)))
    (first | (go_at_call_of 11 (Value.agg #[.int .i64 k, .int .i64 n, .string s]); refine (ho _).mono ?_; rintro e w1 ⟨rfl, hb1⟩; obtain ⟨z1, q1, r1, s1, t1⟩ := three hb1 (g := w.heap.size) (by first | (simp; done) | assumption | (simp; omega) | omega)) | (go_at_call_of 11 (Value.agg #[.int .i64 k', .int .i64 n', .string s']); refine (ho' _).mono ?_; rintro e w2 ⟨rfl, hb2⟩; obtain ⟨z2, q2, r2, s2, t2⟩ := three hb2 (g := w.heap.size) (by first | (simp; done) | assumption | (simp; omega) | omega)) | (go_at_call 160; refine (and_any _ _ _).mono ?_; rintro e w' ⟨rfl, rfl⟩) | (go_at_call 157; refine (truth_any _ _).mono ?_; rintro e w3 ⟨rfl, hb3⟩; simp only [V.val]; obtain ⟨z3, q3, r3, s3, t3⟩ := three hb3 (g := w.heap.size) (by first | (simp; done) | assumption | (simp; omega) | omega)))
  go_wp2
  rw [E.out]
  exact end_val _ Tryz.results125 rfl rfl (((bthen hb1 (bthen hb2 hb3)).block _ (by simp)).trans (block3 _ _ _ _)) (bthen (bel3 _ _ _ _).drew (bthen hb1 (bthen hb2 hb3))) (by omega)

set_option maxRecDepth 100000 in
set_option maxHeartbeats 2000000 in
theorem ofTwo_or (a b : V) (w : World) : Calls Tryz.prog 125 #[.int .i64 8, a.val, b.val] w fun e w' => e = .returned (twoV 8 a b).val ∧ Below w.heap.size w w' := by
  have ho := fun w => of_any a w
  have ho' := fun w => of_any b w
  have E : Hid (twoV 8 a b = truthV (tOr (ofV a) (ofV b))) := rfl
  generalize ofV a = o at E ho
  generalize ofV b = o' at E ho'
  generalize twoV 8 a b = r at E
  obtain ⟨k, n, s⟩ := a
  obtain ⟨k', n', s'⟩ := b
  simp only [V.val] at ho ho'
  show Calls Tryz.prog 125 #[.int .i64 8, .agg #[.int .i64 k, .int .i64 n, .string s], .agg #[.int .i64 k', .int .i64 n', .string s']] w _
  go_enter Tryz.func125, Tryz.ntmps125
  go_wp2_with fail
  go_region_held3 (fun w' => w'.cell? ⟨w.heap.size, 0, none⟩ = some (.int .i64 k) ∧ w'.cell? ⟨w.heap.size, 1, none⟩ = some (.int .i64 n) ∧ w'.cell? ⟨w.heap.size, 2, none⟩ = some (.string s) ∧ w'.cell? ⟨w.heap.size + 1, 0, none⟩ = some (.int .i64 k') ∧ w'.cell? ⟨w.heap.size + 1, 1, none⟩ = some (.int .i64 n') ∧ w'.cell? ⟨w.heap.size + 1, 2, none⟩ = some (.string s')) (first | (go_keep; done) | ((try dsimp only); (repeat' apply And.intro) <;> (rw [cell_set_ne (by omega), cell_set_ne (by omega), cell_set_ne (by omega)]; first | assumption | go_keep | simp_all)))
    (first | (go_at_call_of 11 (Value.agg #[.int .i64 k, .int .i64 n, .string s]); refine (ho _).mono ?_; rintro e w1 ⟨rfl, hb1⟩; obtain ⟨z1, q1, r1, s1, t1⟩ := three hb1 (g := w.heap.size) (by first | (simp; done) | assumption | (simp; omega) | omega)) | (go_at_call_of 11 (Value.agg #[.int .i64 k', .int .i64 n', .string s']); refine (ho' _).mono ?_; rintro e w2 ⟨rfl, hb2⟩; obtain ⟨z2, q2, r2, s2, t2⟩ := three hb2 (g := w.heap.size) (by first | (simp; done) | assumption | (simp; omega) | omega)) | (go_at_call 161; refine (or_any _ _ _).mono ?_; rintro e w' ⟨rfl, rfl⟩) | (go_at_call 157; refine (truth_any _ _).mono ?_; rintro e w3 ⟨rfl, hb3⟩; simp only [V.val]; obtain ⟨z3, q3, r3, s3, t3⟩ := three hb3 (g := w.heap.size) (by first | (simp; done) | assumption | (simp; omega) | omega)))
  go_wp2
  rw [E.out]
  exact end_val _ Tryz.results125 rfl rfl (((bthen hb1 (bthen hb2 hb3)).block _ (by simp)).trans (block3 _ _ _ _)) (bthen (bel3 _ _ _ _).drew (bthen hb1 (bthen hb2 hb3))) (by omega)

set_option maxRecDepth 100000 in
set_option maxHeartbeats 2000000 in
theorem ofTwo_any (op : Int) (a b : V) (w : World) (ha : a.s.size ≤ maxLen) (hb : b.s.size ≤ maxLen) : Calls Tryz.prog 125 #[.int .i64 op, a.val, b.val] w fun e w' => e = .returned (twoV op a b).val ∧ Below w.heap.size w w' := by
  by_cases h7 : op = 7
  · subst h7; exact ofTwo_and a b w
  by_cases h8 : op = 8
  · subst h8; exact ofTwo_or a b w
  have ho := fun w => known_any a w ha
  have ho' := fun w => known_any b w hb
  clear ha hb
  by_cases h : knownV a = true ∧ knownV b = true ∧ a.k = b.k
  · have E : Hid (twoV op a b = knV op a b) := by show _ = _; simp only [twoV, h7, h8, if_false]; rw [if_pos h]
    have hk := fun w => ofKnown_any op a b w h.1 h.2.1 h.2.2
    generalize twoV op a b = r at E
    generalize knV op a b = q at E hk
    obtain ⟨h1, h2, h3⟩ := h
    rw [h1] at ho
    rw [h2] at ho'
    clear h1 h2
    obtain ⟨k, n, s⟩ := a
    obtain ⟨k', n', s'⟩ := b
    simp only at h3
    subst h3
    simp only [V.val] at ho ho' hk
    show Calls Tryz.prog 125 #[.int .i64 op, .agg #[.int .i64 k, .int .i64 n, .string s], .agg #[.int .i64 k, .int .i64 n', .string s']] w _
    go_enter Tryz.func125, Tryz.ntmps125
    go_wp2_with (first | (go_at_call_of 162 (Value.agg #[.int .i64 k, .int .i64 n, .string s]); refine (ho _).mono ?_; rintro e w1 ⟨rfl, hb1⟩; obtain ⟨z1, q1, r1, s1, t1⟩ := three hb1 (g := w.heap.size) (by first | (simp; done) | assumption | (simp; omega) | omega)) | (go_at_call_of 162 (Value.agg #[.int .i64 k, .int .i64 n', .string s']); refine (ho' _).mono ?_; rintro e w2 ⟨rfl, hb2⟩; obtain ⟨z2, q2, r2, s2, t2⟩ := three hb2 (g := w.heap.size) (by first | (simp; done) | assumption | (simp; omega) | omega)) | (go_at_call 163; refine (hk _).mono ?_; rintro e w3 ⟨rfl, hb3⟩; obtain ⟨z3, q3, r3, s3, t3⟩ := three hb3 (g := w.heap.size) (by first | (simp; done) | assumption | (simp; omega) | omega)))
    rw [E.out]
    exact end_val _ Tryz.results125 rfl rfl (((bthen hb1 (bthen hb2 hb3)).block _ (by simp)).trans (block3 _ _ _ _)) (bthen (bel3 _ _ _ _) (bthen hb1 (bthen hb2 hb3))) (by omega)
  have E : Hid (twoV op a b = zero) := by show _ = _; simp only [twoV, h7, h8, if_false]; rw [if_neg h]
  generalize twoV op a b = r at E
  cases h1 : knownV a
  · rw [h1] at ho
    clear h1 h ho'
    obtain ⟨k, n, s⟩ := a
    obtain ⟨k', n', s'⟩ := b
    simp only [V.val] at ho
    show Calls Tryz.prog 125 #[.int .i64 op, .agg #[.int .i64 k, .int .i64 n, .string s], .agg #[.int .i64 k', .int .i64 n', .string s']] w _
    go_enter Tryz.func125, Tryz.ntmps125
    go_wp2_with (first | (go_at_call_of 162 (Value.agg #[.int .i64 k, .int .i64 n, .string s]); refine (ho _).mono ?_; rintro e w1 ⟨rfl, hb1⟩; obtain ⟨z1, q1, r1, s1, t1⟩ := three hb1 (g := w.heap.size) (by first | (simp; done) | assumption | (simp; omega) | omega)))
    rw [E.out]
    exact end_val zero Tryz.results125 rfl rfl ((hb1.block _ (by simp)).trans (block3 _ _ _ _)) (bthen (bel3 _ _ _ _) hb1) (by omega)
  rw [h1] at ho
  cases h2 : knownV b
  · rw [h2] at ho'
    clear h1 h2 h
    obtain ⟨k, n, s⟩ := a
    obtain ⟨k', n', s'⟩ := b
    simp only [V.val] at ho ho'
    show Calls Tryz.prog 125 #[.int .i64 op, .agg #[.int .i64 k, .int .i64 n, .string s], .agg #[.int .i64 k', .int .i64 n', .string s']] w _
    go_enter Tryz.func125, Tryz.ntmps125
    go_wp2_with (first | (go_at_call_of 162 (Value.agg #[.int .i64 k, .int .i64 n, .string s]); refine (ho _).mono ?_; rintro e w1 ⟨rfl, hb1⟩; obtain ⟨z1, q1, r1, s1, t1⟩ := three hb1 (g := w.heap.size) (by first | (simp; done) | assumption | (simp; omega) | omega)) | (go_at_call_of 162 (Value.agg #[.int .i64 k', .int .i64 n', .string s']); refine (ho' _).mono ?_; rintro e w2 ⟨rfl, hb2⟩; obtain ⟨z2, q2, r2, s2, t2⟩ := three hb2 (g := w.heap.size) (by first | (simp; done) | assumption | (simp; omega) | omega)))
    rw [E.out]
    exact end_val zero Tryz.results125 rfl rfl (((bthen hb1 hb2).block _ (by simp)).trans (block3 _ _ _ _)) (bthen (bel3 _ _ _ _) (bthen hb1 hb2)) (by omega)
  rw [h2] at ho'
  have h3 : a.k ≠ b.k := fun e => h ⟨h1, h2, e⟩
  clear h1 h2 h
  obtain ⟨k, n, s⟩ := a
  obtain ⟨k', n', s'⟩ := b
  simp only at h3
  have h3' : (k != k') = true := by simpa using h3
  simp only [V.val] at ho ho'
  show Calls Tryz.prog 125 #[.int .i64 op, .agg #[.int .i64 k, .int .i64 n, .string s], .agg #[.int .i64 k', .int .i64 n', .string s']] w _
  go_enter Tryz.func125, Tryz.ntmps125
  go_wp2_with (first | (go_at_call_of 162 (Value.agg #[.int .i64 k, .int .i64 n, .string s]); refine (ho _).mono ?_; rintro e w1 ⟨rfl, hb1⟩; obtain ⟨z1, q1, r1, s1, t1⟩ := three hb1 (g := w.heap.size) (by first | (simp; done) | assumption | (simp; omega) | omega)) | (go_at_call_of 162 (Value.agg #[.int .i64 k', .int .i64 n', .string s']); refine (ho' _).mono ?_; rintro e w2 ⟨rfl, hb2⟩; obtain ⟨z2, q2, r2, s2, t2⟩ := three hb2 (g := w.heap.size) (by first | (simp; done) | assumption | (simp; omega) | omega)))
  rw [E.out]
  exact end_val zero Tryz.results125 rfl rfl (((bthen hb1 hb2).block _ (by simp)).trans (block3 _ _ _ _)) (bthen (bel3 _ _ _ _) (bthen hb1 hb2)) (by omega)

end Go.Proofs.YthehiijgnepcfaaGreat

namespace Go.Proofs.YthehiijgnepcfaaGreat
open Go.RowKit

set_option maxRecDepth 100000 in
set_option maxHeartbeats 2000000 in
theorem apply_one (op : Int) (x : V) (s name : Wd) (n : Int) (ao : Option Addr) (k c : Nat) (a : V) (b off cap : Nat) (ro : Option Addr) (rl rc : Nat) (w : World) (hb : b < w.heap.size) (hh : HoldsV w b off [a]) :
    Calls Tryz.prog 75 #[.agg (eArr op x s name n (.slice ao k c)), .slice (some ⟨b, off, none⟩) 1 cap, .slice ro rl rc] w fun e w' => e = .returned (uniV op a).val ∧ Below w.heap.size w w' := by
  obtain ⟨c0, c1, c2⟩ := hh 0 a rfl
  clear hh
  simp only [Nat.zero_mul, Nat.add_zero] at c0 c1 c2
  have ho := fun w => ofOne_any op a w
  generalize uniV op a = r at ho
  obtain ⟨ak, an, at_⟩ := a
  obtain ⟨xk, xn, xs⟩ := x
  simp only [V.val] at ho
  have hne : b ≠ w.heap.size + 1 := by omega
  have hne0 : b ≠ w.heap.size := by omega
  go_enter Tryz.func75, Tryz.ntmps75
  go_wp2_with fail
  go_region_held3 (fun w' => w'.cell? ⟨w.heap.size, 0, none⟩ = some (.int .i64 op) ∧ w'.cell? ⟨b, off, none⟩ = some (.int .i64 ak) ∧ w'.cell? ⟨b, off + 1, none⟩ = some (.int .i64 an) ∧ w'.cell? ⟨b, off + 2, none⟩ = some (.string at_)) (first | (go_keep; done) | ((try dsimp only); (repeat' apply And.intro) <;> (rw [cell_set_ne (by omega), cell_set_ne (by omega), cell_set_ne (by omega)]; first | assumption | go_keep | simp_all)))
    (first | (go_at_call 124; refine (ho _).mono ?_; rintro e w1 ⟨rfl, hb1⟩; obtain ⟨z1, q1, r1, t1, s1⟩ := two_of hb1 (g := w.heap.size) (b := b) (by first | (simp; done) | assumption | (simp; omega) | omega) hb))
  go_wp2
  exact end_val _ Tryz.results75 rfl rfl ((hb1.block _ (by simp)).trans (block2 _ _ _)) (bthen (bel2 _ _ _).drew hb1) (by omega)

set_option maxRecDepth 100000 in
set_option maxHeartbeats 2000000 in
theorem apply_two (op : Int) (x : V) (s name : Wd) (n : Int) (ao : Option Addr) (k c : Nat) (a a' : V) (b off cap : Nat) (ro : Option Addr) (rl rc : Nat) (w : World) (hb : b < w.heap.size) (hh : HoldsV w b off [a, a']) (hs : a.s.size ≤ maxLen) (hs' : a'.s.size ≤ maxLen) :
    Calls Tryz.prog 75 #[.agg (eArr op x s name n (.slice ao k c)), .slice (some ⟨b, off, none⟩) 2 cap, .slice ro rl rc] w fun e w' => e = .returned (twoV op a a').val ∧ Below w.heap.size w w' := by
  obtain ⟨c0, c1, c2⟩ := hh 0 a rfl
  obtain ⟨d0, d1, d2⟩ := hh 1 a' rfl
  clear hh
  simp only [Nat.zero_mul, Nat.add_zero, Nat.one_mul] at c0 c1 c2 d0 d1 d2
  have ho := fun w => ofTwo_any op a a' w hs hs'
  generalize twoV op a a' = r at ho
  clear hs hs'
  obtain ⟨ak, an, at_⟩ := a
  obtain ⟨bk, bn, bt⟩ := a'
  obtain ⟨xk, xn, xs⟩ := x
  simp only [V.val] at ho
  have hne : b ≠ w.heap.size + 1 := by omega
  have hne0 : b ≠ w.heap.size := by omega
  go_enter Tryz.func75, Tryz.ntmps75
  go_wp2_with fail
  go_region_held3 (fun w' => w'.cell? ⟨w.heap.size, 0, none⟩ = some (.int .i64 op) ∧ w'.cell? ⟨b, off, none⟩ = some (.int .i64 ak) ∧ w'.cell? ⟨b, off + 1, none⟩ = some (.int .i64 an) ∧ w'.cell? ⟨b, off + 2, none⟩ = some (.string at_) ∧ w'.cell? ⟨b, off + 3, none⟩ = some (.int .i64 bk) ∧ w'.cell? ⟨b, off + 3 + 1, none⟩ = some (.int .i64 bn) ∧ w'.cell? ⟨b, off + 3 + 2, none⟩ = some (.string bt)) (first | (go_keep; done) | ((try dsimp only); (repeat' apply And.intro) <;> (rw [cell_set_ne (by omega), cell_set_ne (by omega), cell_set_ne (by omega)]; first | assumption | go_keep | simp_all)))
    (first | (go_at_call 125; refine (ho _).mono ?_; rintro e w1 ⟨rfl, hb1⟩; obtain ⟨z1, q1, r1, t1, s1⟩ := two_of hb1 (g := w.heap.size) (b := b) (by first | (simp; done) | assumption | (simp; omega) | omega) hb))
  go_wp2
  exact end_val _ Tryz.results75 rfl rfl ((hb1.block _ (by simp)).trans (block2 _ _ _)) (bthen (bel2 _ _ _).drew hb1) (by omega)

set_option maxRecDepth 100000 in
set_option maxHeartbeats 2000000 in
theorem apply_none (op : Int) (x : V) (s name : Wd) (n : Int) (ao : Option Addr) (k c : Nat) (av : Option Addr) (al ac : Nat) (rv : Value) (row : List V) (w : World) (hr : IsVals w rv row) (hn : row.length ≤ maxLen) (h1 : al ≠ 1) (h2 : al ≠ 2) :
    Calls Tryz.prog 75 #[.agg (eArr op x s name n (.slice ao k c)), .slice av al ac, rv] w fun e w' => e = .returned (noneV op x n row).val ∧ Below w.heap.size w w' := by
  have ho := fun w' (h : Below w.heap.size w w') => ofNone_any op x s name n (.slice ao k c) rv row w' (hr.below h) hn ⟨_, _, _, rfl⟩
  obtain ⟨ro, rc, rfl⟩ := hr.shape
  generalize noneV op x n row = r at ho
  obtain ⟨xk, xn, xs⟩ := x
  simp only [V.val] at ho
  have e1 : ((al : Int) == 1) = false := by simp; omega
  have e2 : ((al : Int) == 2) = false := by simp; omega
  go_enter Tryz.func75, Tryz.ntmps75
  go_wp2_with (first | (go_at_call 126; refine (ho _ (bel2 _ _ _)).mono ?_; rintro e w1 ⟨rfl, hb1⟩; obtain ⟨hcc, hff⟩ := bcell hb1))
  exact end_val _ Tryz.results75 rfl rfl ((hb1.block _ (by simp)).trans (block2 _ _ _)) (bthen (bel2 _ _ _) hb1) (by omega)

/-- What an expression comes to, by what its arguments came to. -/
theorem apply_any (op : Int) (x : V) (s name : Wd) (n : Int) (ao : Option Addr) (k c : Nat) (av rv : Value) (cs row : List V) (w : World) (ha : IsVals w av cs) (hs : ∀ v ∈ cs, v.s.size ≤ maxLen) (hr : IsVals w rv row) (hn : row.length ≤ maxLen) :
    Calls Tryz.prog 75 #[.agg (eArr op x s name n (.slice ao k c)), av, rv] w fun e w' => e = .returned (appV op x n cs row).val ∧ Below w.heap.size w w' := by
  match cs, ha, hs with
  | [], ha, _ =>
    obtain ⟨xo, xc, rfl⟩ := ha.shape
    exact apply_none op x s name n ao k c xo _ xc rv row w hr hn (by simp) (by simp)
  | [a], ha, _ =>
    obtain ⟨ro, rc, rfl⟩ := hr.shape
    rcases ha with ⟨_, h⟩ | ⟨b, off, cap, rfl, hb, hh⟩
    · cases h
    · exact apply_one op x s name n ao k c a b off cap ro _ rc w hb hh
  | [a, a'], ha, hs =>
    obtain ⟨ro, rc, rfl⟩ := hr.shape
    rcases ha with ⟨_, h⟩ | ⟨b, off, cap, rfl, hb, hh⟩
    · cases h
    · exact apply_two op x s name n ao k c a a' b off cap ro _ rc w hb hh (hs a (by simp)) (hs a' (by simp))
  | a :: b :: d :: r, ha, _ =>
    obtain ⟨xo, xc, rfl⟩ := ha.shape
    exact apply_none op x s name n ao k c xo _ xc rv row w hr hn (by simp) (by simp)

end Go.Proofs.YthehiijgnepcfaaGreat

namespace Go.Proofs.YthehiijgnepcfaaGreat
open Go.RowKit

mutual
/-- Texts that fit. -/
def fitE : E → Prop
  | .mk _ x _ _ _ l => x.s.size ≤ maxLen ∧ fitL l
def fitL : List E → Prop
  | [] => True
  | e :: l => fitE e ∧ fitL l
end
theorem fitL_mem : ∀ {l : List E} {e : E}, fitL l → e ∈ l → fitE e
  | [], _, _, h => by cases h
  | x :: l, e, h, he => by
    rw [fitL] at h
    rcases List.mem_cons.1 he with rfl | he
    · exact h.1
    · exact fitL_mem h.2 he
theorem fitE_kids {e : E} (h : fitE e) : ∀ x ∈ e.kids, fitE x := by
  cases e with
  | mk op x s name n l =>
    rw [fitE] at h
    intro y hy
    simp only [E.kids, kidsOf] at hy
    split at hy
    · exact fitL_mem h.2 hy
    · cases hy
theorem small_zero : zero.s.size ≤ maxLen := by simp [zero, ByteArray.size]
theorem small_truth (n : Int) : (truthV n).s.size ≤ maxLen := by unfold truthV; split <;> simp [zero, ByteArray.size]
theorem small_wh (b : Bool) : (whV b).s.size ≤ maxLen := by simp [whV, ByteArray.size]
theorem small_num (n : Int) : (numV n).s.size ≤ maxLen := by unfold numV; split <;> simp [zero, ByteArray.size]
theorem small_uni (op : Int) (a : V) : (uniV op a).s.size ≤ maxLen := by
  unfold uniV
  split
  · exact small_truth _
  · split
    · exact small_wh _
    · exact small_zero
theorem small_kn (op : Int) (a b : V) : (knV op a b).s.size ≤ maxLen := by
  unfold knV
  split
  · exact small_wh _
  · split
    · exact small_wh _
    · split
      · split
        · exact small_num _
        · split
          · exact small_num _
          · exact small_zero
      · exact small_zero
theorem small_two (op : Int) (a b : V) : (twoV op a b).s.size ≤ maxLen := by
  unfold twoV
  split
  · exact small_truth _
  · split
    · exact small_truth _
    · split
      · exact small_kn _ _ _
      · exact small_zero
theorem small_none (op : Int) (x : V) (n : Int) (row : List V) (hx : x.s.size ≤ maxLen) (hr : ∀ v ∈ row, v.s.size ≤ maxLen) : (noneV op x n row).s.size ≤ maxLen := by
  unfold noneV rowV
  split
  · exact hx
  · split
    · split
      · cases h : row[n.toNat]? with
        | none => exact small_zero
        | some v => exact hr v (List.mem_of_getElem? h)
      · exact small_zero
    · exact small_zero
theorem small_ev (row : List V) (hr : ∀ v ∈ row, v.s.size ≤ maxLen) (e : E) (h : fitE e) : (ev row e).s.size ≤ maxLen := by
  cases e with
  | mk op x s name n l =>
    rw [fitE] at h
    rw [ev_kids]
    unfold appV
    split
    · exact small_uni _ _
    · exact small_two _ _ _
    · exact small_none op x n row h.1 hr

/-- What the last ones came to. -/
def Came (row : List V) (L : List E) (r : Nat) (w : World) (g : Nat) : Prop :=
  ∃ arr : Array Value, w.heap[g]? = some (.cells arr 32 (0, 0)) ∧ arr.size = L.length * 3 ∧
    ∀ (j : Nat) (x : E), r ≤ j → L[j]? = some x → arr[j * 3]? = some (.int .i64 (ev row x).k) ∧ arr[j * 3 + 1]? = some (.int .i64 (ev row x).n) ∧ arr[j * 3 + 2]? = some (.string (ev row x).s)
theorem Came.keep {row : List V} {L : List E} {r : Nat} {w w' : World} {g : Nat} (h : Came row L r w g) (hb : w'.heap[g]? = w.heap[g]?) : Came row L r w' g := by
  obtain ⟨arr, h1, h2⟩ := h
  exact ⟨arr, hb.trans h1, h2⟩
theorem Came.cell {row : List V} {L : List E} {r : Nat} {w : World} {g : Nat} (h : Came row L r w g) {j : Nat} (hj : j < L.length * 3) : ∃ u, w.cell? ⟨g, j, none⟩ = some u := by
  obtain ⟨arr, h1, h2, _⟩ := h
  exact ⟨_, cell_of_block h1 (Array.getElem?_eq_getElem (by omega : j < arr.size))⟩
theorem Came.free {row : List V} {L : List E} {r : Nat} {w : World} {g : Nat} (h : Came row L r w g) (o : Nat) : w.frozen? ⟨g, o, none⟩ = false := by
  obtain ⟨arr, h1, _⟩ := h
  simp [World.frozen?, h1]
theorem Came.set {row : List V} {L : List E} {r : Nat} {w : World} {g : Nat} (h : Came row L (r + 1) w g) {x : E} (hx : L[r]? = some x) (v : V) (hv : v = ev row x) :
    Came row L r (((w.setCell ⟨g, r * 3, none⟩ (.int .i64 v.k)).setCell ⟨g, r * 3 + 1, none⟩ (.int .i64 v.n)).setCell ⟨g, r * 3 + 2, none⟩ (.string v.s)) g := by
  obtain ⟨arr, h1, h2, h3⟩ := h
  have hr : r < L.length := (List.getElem?_eq_some_iff.1 hx).1
  refine ⟨_, set_at (set_at (set_at h1 _ _) _ _) _ _, by simp [h2], fun j y hj hy => ?_⟩
  by_cases hjr : j = r
  · subst hjr
    rw [hx] at hy
    cases hy
    subst hv
    refine ⟨?_, ?_, ?_⟩
    all_goals simp [Array.getElem?_setIfInBounds, h2]; try omega
  · obtain ⟨a0, a1, a2⟩ := h3 j y (by omega) hy
    have n0 : r * 3 ≠ j * 3 := by omega
    have n1 : r * 3 + 1 ≠ j * 3 := by omega
    have n2 : r * 3 + 2 ≠ j * 3 := by omega
    have n3 : r * 3 ≠ j * 3 + 1 := by omega
    have n4 : r * 3 + 1 ≠ j * 3 + 1 := by omega
    have n5 : r * 3 + 2 ≠ j * 3 + 1 := by omega
    have n6 : r * 3 ≠ j * 3 + 2 := by omega
    have n7 : r * 3 + 1 ≠ j * 3 + 2 := by omega
    have n8 : r * 3 + 2 ≠ j * 3 + 2 := by omega
    refine ⟨?_, ?_, ?_⟩
    · rw [Array.getElem?_setIfInBounds_ne n2, Array.getElem?_setIfInBounds_ne n1, Array.getElem?_setIfInBounds_ne n0]; exact a0
    · rw [Array.getElem?_setIfInBounds_ne n5, Array.getElem?_setIfInBounds_ne n4, Array.getElem?_setIfInBounds_ne n3]; exact a1
    · rw [Array.getElem?_setIfInBounds_ne n8, Array.getElem?_setIfInBounds_ne n7, Array.getElem?_setIfInBounds_ne n6]; exact a2
theorem Came.holds {row : List V} {e : E} {L : List E} {r : Nat} {w : World} {g : Nat} (h : Came row L (r + 1) w g) (hQ : Queue e L L.length) {x : E} (hx : L[r]? = some x) : HoldsV w g (beg L r * 3) (x.kids.map (ev row)) := by
  obtain ⟨arr, h1, h2, h3⟩ := h
  intro i v hi
  rw [List.getElem?_map] at hi
  cases hk : x.kids[i]? with
  | none => rw [hk] at hi; cases hi
  | some y =>
    rw [hk] at hi
    simp at hi
    subst hi
    have hr : r < L.length := (List.getElem?_eq_some_iff.1 hx).1
    have hb := hQ.behind hr
    obtain ⟨a0, a1, a2⟩ := h3 (beg L r + i) y (by omega) (hQ.at hx hk)
    have e0 : beg L r * 3 + i * 3 = (beg L r + i) * 3 := by omega
    rw [e0]
    exact ⟨cell_of_block h1 a0, cell_of_block h1 a1, cell_of_block h1 a2⟩

theorem info_val : (Tryz.prog.info? 32).map (fun i => (i.zero, i.size, i.bytes)) = some (some (.agg #[.int .i64 0, .int .i64 0, .string ⟨#[]⟩]), 3, 32) := by kernel_rfl
set_option maxRecDepth 100000 in
set_option maxHeartbeats 4000000 in
theorem evalFlat_any (e : E) (v rv : Value) (row : List V) (C : Nat) (w : World) (he : IsE (fun k => k < C) w e v) (hC : C ≤ w.heap.size) (hn : e.nodes ≤ 16777216) (hf : fitE e) (hr : IsVals w rv row) (hrs : ∀ v ∈ row, v.s.size ≤ maxLen) (hrl : row.length ≤ maxLen) :
    Calls Tryz.prog 73 #[v, rv] w fun r w' => r = .returned (ev row e).val ∧ Below w.heap.size w w' := by
  obtain ⟨op, ⟨xk, xn, xs⟩, s, name, n, ao, k, c, rfl⟩ := he.shape
  obtain ⟨ro, rc, rfl⟩ := hr.shape
  have hb2 : Below w.heap.size w ((w.alloc (.cells (eArr op ⟨xk, xn, xs⟩ s name n (.slice ao k c)) 34)).alloc (.cells #[.int .i64 0, .int .i64 0, .string noW] 32)) := bel2 _ _ _
  have hW := withArguments_any e _ C _ (IsE.keep (keepsC (hb2.mono hC)) e _ he) (Nat.le_trans hC hb2.size) hn
  go_enter Tryz.func73, Tryz.ntmps73
  go_wp2_with (first | (go_at_call 122; refine hW.mono ?_; rintro r1 w1 ⟨zv, L, P, rfl, hrow, hP, hQ, hb1, hsz1⟩; obtain ⟨zo, zc, rfl⟩ := hrow.shape))
  obtain ⟨i0, hi, hz0, hz1, hz2⟩ := info_parts info_val
  have hlen : L.length ≤ e.nodes := hQ.len
  have hmk := run_make (P := Tryz.prog) w1 55 32 i0 (.agg #[.int .i64 0, .int .i64 0, .string ⟨#[]⟩]) Tryz.underlying55 hi hz0 .i64 .i64 L.length L.length (by omega) (Int.le_refl _) (by rw [hz2]; omega) (by omega)
  rw [hz1, Int.toNat_natCast] at hmk
  rw [hmk]
  have hmade : (madeCells (Value.agg #[.int .i64 0, .int .i64 0, .string ⟨#[]⟩]).cells (L.length * 3)).size = L.length * 3 := size_madeCells _ _
  generalize madeCells (Value.agg #[.int .i64 0, .int .i64 0, .string ⟨#[]⟩]).cells (L.length * 3) = arr0 at hmade
  have hcame0 : Came row L L.length (w1.alloc (.cells arr0 32)) w1.heap.size := ⟨arr0, block_alloc_at _ _, hmade, fun j x hj hx => by rw [List.getElem?_eq_none hj] at hx; cases hx⟩
  clear hmk hi hz0 hz1 hz2 hmade
  have hbw : Below w.heap.size w w1 := bthen hb2 hb1
  have hres : w1.heap[w.heap.size + 1]? = some (.cells #[.int .i64 0, .int .i64 0, .string noW] 32) := (hb1.block _ (by simp)).trans (block2 _ _ _)
  have hr1 := hr.below hbw
  have hfL : Hid (∀ x ∈ L, fitE x) := hQ.all fitE hf fun y hy => fitE_kids hy
  have HQ : Hid (Queue e L L.length) := hQ
  have HW : Hid (beg L L.length = L.length) := hQ.whole
  have H1 : 0 < L.length := by rw [hQ.eq]; simp
  have H2 : L.length ≤ 16777216 := by omega
  generalize hC1 : ((w.alloc (.cells (eArr op ⟨xk, xn, xs⟩ s name n (.slice ao k c)) 34)).alloc (.cells #[.int .i64 0, .int .i64 0, .string noW] 32)).heap.size + 1 = C1 at hP hsz1
  clear hC1 hb1 hW hb2 he hr hQ hn hf
  go_wp2
  go_loopw [7, 8] (fun en i wr => ∃ r : Nat, r ≤ L.length ∧ en = .int .i64 (beg L r : Nat) ∧ i = .int .i64 ((r : Int) - 1) ∧ Came row L r wr w1.heap.size ∧ Below w1.heap.size w1 wr) (fun _ i _ => (intOf i + 1).toNat)
  case atStart => exact ⟨L.length, Nat.le_refl _, by rw [HW.out], rfl, hcame0, (Below.refl _ _).alloc (Nat.le_refl _) _⟩
  case round =>
    obtain ⟨r, hrL, rfl, rfl, hcame, hbel⟩ := hrel
    match r, hrL, hcame with
    | 0, hrL, hcame =>
      have hfst := HQ.out.first
      obtain ⟨arr, a1, a2, a3⟩ := hcame
      obtain ⟨g0, g1, g2⟩ := a3 0 e (Nat.le_refl _) hfst
      have c0 := cell_of_block a1 g0
      have c1 := cell_of_block a1 g1
      have c2 := cell_of_block a1 g2
      clear hfst a1 a2 a3 g0 g1 g2 HQ HW hfL
      generalize hz : ev row e = z at *
      obtain ⟨zk, zn, zs⟩ := z
      simp only [Nat.zero_mul, Nat.zero_add] at c0 c1 c2
      have hlt1 : w.heap.size + 1 < w1.heap.size := lt_of_block hres
      have hres' := (hbel.block _ hlt1).trans hres
      have k0 := cell_of_block hres' (j := 0) rfl
      have k1 := cell_of_block hres' (j := 1) rfl
      have k2 := cell_of_block hres' (j := 2) rfl
      have kf : ∀ o, wr.frozen? ⟨w.heap.size + 1, o, none⟩ = false := fun o => by simp [World.frozen?, hres']
      go_wp2
      rw [hz]
      exact end_val ⟨zk, zn, zs⟩ Tryz.results73 rfl rfl hres' (hbw.trans (hbel.mono hbw.size)) (by omega)
    | r + 1, hrL, hcame =>
      obtain ⟨x, hx⟩ : ∃ x, L[r]? = some x := ⟨_, List.getElem?_eq_getElem (by omega)⟩
      have hfx := hfL.out x (List.mem_of_getElem? hx)
      obtain ⟨p, hp, hptr⟩ := hP r x hx
      have hptr := hptr.keep (hbel.mono hsz1)
      have HHV : Hid (HoldsV wr w1.heap.size (beg L r * 3) (x.kids.map (ev row))) := hcame.holds HQ.out hx
      have HBS : Hid (beg L (r + 1) = beg L r + x.kids.length) := beg_succ hx
      have hble := HQ.out.beg_le (r + 1)
      rw [HBS.out] at hble ⊢
      obtain ⟨b, o, op, xk, xn, xs, s, name, n, ao, c, l, rfl, hbC, rfl, ⟨c0, c1, c2, c3, c4, c5, c6, c7⟩, hes⟩ := hptr
      have HX : Hid (L[r]? = some (.mk op ⟨xk, xn, xs⟩ s name n l)) := hx
      clear hx
      rcases hrow.2 with ⟨h1, _⟩ | ⟨_, zb, zf, zc', h2, hzlt, _, _, h3⟩
      · omega
      cases h2
      have hzb := (hbel.cell (p := ⟨zb, zf + r, none⟩) hzlt).trans (h3 r _ hp)
      clear h3 hp
      have r0 : (0 : Int) ≤ (r : Int) := by omega
      have r1 : (r : Int) < (L.length : Int) := by omega
      have ha := arguments_kids op ⟨xk, xn, xs⟩ s name n ao c l wr hes (Nat.le_trans hsz1 hbel.size)
      rw [show (((r + 1 : Nat) : Int) - 1) = (r : Int) from by omega]
      simp only [E.kids] at HHV hble ⊢
      generalize hK : kidsOf op l = K at HHV hble ha ⊢
      generalize hbg0 : beg L r = bg at HHV hble ⊢
      have HBG : Hid (beg L r = bg) := hbg0
      clear hbg0
      go_wp2_with (first | (go_at_call 74; refine ha.mono ?_; rintro e1 w2 ⟨ko, kc, rfl, hk1, hbk⟩))
      have hgr : w1.heap.size < wr.heap.size := by obtain ⟨arr, a1, _⟩ := hcame; exact lt_of_block a1
      have hcame2 : Came row L (r + 1) w2 w1.heap.size := hcame.keep (hbk.block _ (by obtain ⟨arr, a1, _⟩ := hcame; exact lt_of_block a1))
      have hg2 : w1.heap.size < w2.heap.size := by obtain ⟨arr, a1, _⟩ := hcame2; exact lt_of_block a1
      have hbel2 : Below w1.heap.size w1 w2 := hbel.trans (hbk.mono hbel.size)
      obtain ⟨p1, p2, p3, p4⟩ := four (a := zb) (b := b) (g := w1.heap.size) hbk (by omega) (by omega) (by omega)
      obtain ⟨u0, hu0⟩ := hcame2.cell (j := r * 3) (by omega)
      obtain ⟨u1, hu1⟩ := hcame2.cell (j := r * 3 + 1) (by omega)
      obtain ⟨u2, hu2⟩ := hcame2.cell (j := r * 3 + 2) (by omega)
      have huf := hcame2.free
      have d := fun o => (p1 o)
      have hcs : IsVals w2 (.slice (if L.length = bg then some ⟨w1.heap.size, 0, none⟩ else some ⟨w1.heap.size, bg * 3, none⟩) K.length (L.length - bg)) (K.map (ev row)) := by
        split
        · have hK0 : K = [] := List.eq_nil_of_length_eq_zero (by omega)
          subst hK0
          exact .inl ⟨⟨_, _, rfl, fun h => by cases h⟩, rfl⟩
        · exact .inr ⟨w1.heap.size, bg * 3, L.length - bg, by rw [List.length_map], hg2, HHV.out.below (hbk.mono (Nat.le_refl _)) (by omega)⟩
      have hsm : ∀ v ∈ K.map (ev row), v.s.size ≤ maxLen := by
        intro v hv
        obtain ⟨y, hy, rfl⟩ := List.mem_map.1 hv
        exact small_ev row hrs y (fitE_kids hfx y (by simp only [E.kids]; rw [hK]; exact hy))
      have hap := fun W (hW : Below w2.heap.size w2 W) => apply_any op ⟨xk, xn, xs⟩ s name n ao l.length c _ (.slice ro row.length rc) _ row W (hcs.below hW) hsm ((hr1.below hbel2).below hW) hrl
      have HEV : Hid (appV op ⟨xk, xn, xs⟩ n (K.map (ev row)) row = ev row (.mk op ⟨xk, xn, xs⟩ s name n l)) := by show _ = _; rw [ev_kids, hK]
      rw [HEV.out] at hap
      generalize hz : ev row (.mk op ⟨xk, xn, xs⟩ s name n l) = z at hap
      obtain ⟨zk, zn, zs⟩ := z
      simp only [V.val] at hap
      rw [← p2] at c0 c1 c2 c3 c4 c5 c6 c7
      rw [← p1] at hzb
      clear p1 p2 p3 p4 d hsm hcs HEV HHV ha hk1 hes
      have s0 : (0 : Int) ≤ (bg : Int) := by omega
      have s1 : (bg : Int) ≤ (bg : Int) + (K.length : Int) := by omega
      have s2 : (bg : Int) + (K.length : Int) ≤ (L.length : Int) := by omega
      have s3 : (0 : Int) ≤ (bg : Int) + (K.length : Int) := by omega
      have s4 : ((bg : Int) + (K.length : Int)).toNat = bg + K.length := by omega
      by_cases hcb : L.length = bg
      · subst hcb
        have hK0 : K.length = 0 := by omega
        rw [if_pos (rfl : L.length = L.length), Nat.sub_self, hK0] at hap
        go_region_held3 (fun w' => w'.cell? ⟨zb, zf + r, none⟩ = some (.pointer (some ⟨b, o, none⟩)) ∧ w'.cell? ⟨b, o, none⟩ = some (.int .i64 op) ∧ w'.cell? ⟨b, o + 1, none⟩ = some (.int .i64 xk) ∧ w'.cell? ⟨b, o + 2, none⟩ = some (.int .i64 xn) ∧ w'.cell? ⟨b, o + 3, none⟩ = some (.string xs) ∧ w'.cell? ⟨b, o + 4, none⟩ = some (.string s) ∧ w'.cell? ⟨b, o + 5, none⟩ = some (.string name) ∧ w'.cell? ⟨b, o + 6, none⟩ = some (.int .i64 n) ∧ w'.cell? ⟨b, o + 7, none⟩ = some (.slice ao l.length c)) (first | (go_keep; done) | ((try dsimp only); (repeat' apply And.intro) <;> (rw [cell_set_ne (by omega), cell_set_ne (by omega), cell_set_ne (by omega)]; first | assumption | go_keep | simp_all)))
          (first | (go_at_call 75; refine (hap _ (Below.refl _ _).drew).mono ?_; rintro e2 w3 ⟨rfl, hb3⟩; obtain ⟨q1, q2, q3, q4⟩ := four (a := zb) (b := b) (g := w1.heap.size) hb3 (show zb < w2.heap.size by omega) (show b < w2.heap.size by omega) hg2))
        go_wp2
        go_roundw
        case rel =>
          refine ⟨r, by omega, by rw [HBG.out], by go_num, ?_, ?_⟩
          · exact (hcame2.keep (hb3.block _ hg2)).set HX.out ⟨zk, zn, zs⟩ hz.symm
          · exact (((hbel2.drew.trans (hb3.mono (Nat.le_of_lt hg2))).setCell (Nat.le_refl _) _).setCell (Nat.le_refl _) _).setCell (Nat.le_refl _) _
        case measure => simp [intOf]
      · rw [if_neg hcb] at hap
        go_region_held3 (fun w' => w'.cell? ⟨zb, zf + r, none⟩ = some (.pointer (some ⟨b, o, none⟩)) ∧ w'.cell? ⟨b, o, none⟩ = some (.int .i64 op) ∧ w'.cell? ⟨b, o + 1, none⟩ = some (.int .i64 xk) ∧ w'.cell? ⟨b, o + 2, none⟩ = some (.int .i64 xn) ∧ w'.cell? ⟨b, o + 3, none⟩ = some (.string xs) ∧ w'.cell? ⟨b, o + 4, none⟩ = some (.string s) ∧ w'.cell? ⟨b, o + 5, none⟩ = some (.string name) ∧ w'.cell? ⟨b, o + 6, none⟩ = some (.int .i64 n) ∧ w'.cell? ⟨b, o + 7, none⟩ = some (.slice ao l.length c)) (first | (go_keep; done) | ((try dsimp only); (repeat' apply And.intro) <;> (rw [cell_set_ne (by omega), cell_set_ne (by omega), cell_set_ne (by omega)]; first | assumption | go_keep | simp_all)))
          (first | (go_at_call 75; refine (hap _ (Below.refl _ _).drew).mono ?_; rintro e2 w3 ⟨rfl, hb3⟩; obtain ⟨q1, q2, q3, q4⟩ := four (a := zb) (b := b) (g := w1.heap.size) hb3 (show zb < w2.heap.size by omega) (show b < w2.heap.size by omega) hg2))
        go_wp2
        go_roundw
        case rel =>
          refine ⟨r, by omega, by rw [HBG.out], by go_num, ?_, ?_⟩
          · exact (hcame2.keep (hb3.block _ hg2)).set HX.out ⟨zk, zn, zs⟩ hz.symm
          · exact (((hbel2.drew.trans (hb3.mono (Nat.le_of_lt hg2))).setCell (Nat.le_refl _) _).setCell (Nat.le_refl _) _).setCell (Nat.le_refl _) _
        case measure => simp [intOf]

end Go.Proofs.YthehiijgnepcfaaGreat

