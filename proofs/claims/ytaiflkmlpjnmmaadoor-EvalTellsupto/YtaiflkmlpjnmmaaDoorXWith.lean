/-
  Contract of package eval's withArguments: an expression, then its arguments, then theirs, and so on: their places.
-/
import Derived.Test.YtaiflkmlpjnmmaaDoorXPtr
namespace Go.Proofs.YtaiflkmlpjnmmaaDoor
open Go.RowKit

theorem take_snoc' {α : Type} {L : List α} {i : Nat} {x : α} (h : L[i]? = some x) : L.take (i + 1) = L.take i ++ [x] := by rw [List.take_add_one, h]; rfl
theorem bel_grow {w0 w w' : World} {z : Value} {n : Nat} {xs : List Value} {C : Nat} (h : Below C w0 w) (hown : w.ownsRow C 62 1 z n xs) (hC : C ≤ w.heap.size) (hg : w.grownBy w' z.ownBlock) : Below C w0 w' := h.trans (below_append hown hC hg)

set_option maxRecDepth 100000 in
set_option maxHeartbeats 4000000 in
theorem withArguments_any (e : E) (v : Value) (C : Nat) (w : World) (he : IsE (fun k => k < C) w e v) (hC : C ≤ w.heap.size) (hn : e.nodes ≤ 16777216) :
    Calls Tryd.prog 42 #[v] w fun r w' => ∃ zv L P, r = .returned zv ∧ IsRow 1 w' zv L.length P ∧ Ptrs (w.heap.size + 1) w' L P ∧ Queue e L L.length ∧ Below w.heap.size w w' ∧ w.heap.size + 1 ≤ w'.heap.size := by
  obtain ⟨i0, hi, hz0, hz1, hz2⟩ := info_parts info_ptr
  have H0 : ∃ op xk xn xs s name n ao c l, e = .mk op ⟨xk, xn, xs⟩ s name n l ∧ v = .agg (eArr op ⟨xk, xn, xs⟩ s name n (.slice ao l.length c)) ∧ IsEs (fun k => k < C) w (.slice ao l.length c) l := by
    cases e with
    | mk op x s name n l =>
      obtain ⟨sv, h1, h2⟩ := he.open
      obtain ⟨ao, c, rfl⟩ := h2.shape
      obtain ⟨xk, xn, xs⟩ := x
      exact ⟨op, xk, xn, xs, s, name, n, ao, c, l, rfl, h1, h2⟩
  obtain ⟨op, xk, xn, xs, s, name, n, ao, c, l, rfl, rfl, hes⟩ := H0
  clear he
  have hb1 : Below w.heap.size w (w.alloc (.cells (eArr op ⟨xk, xn, xs⟩ s name n (.slice ao l.length c)) 32)) := (Below.refl _ _).alloc (Nat.le_refl _) _
  have hb2 : Below w.heap.size w ((w.alloc (.cells (eArr op ⟨xk, xn, xs⟩ s name n (.slice ao l.length c)) 32)).alloc (.cells #[.pointer (some ⟨w.heap.size, 0, none⟩)] 62)) := hb1.alloc (by simp) _
  have hp0 : IsPtr (w.heap.size + 1) ((w.alloc (.cells (eArr op ⟨xk, xn, xs⟩ s name n (.slice ao l.length c)) 32)).alloc (.cells #[.pointer (some ⟨w.heap.size, 0, none⟩)] 62)) (.mk op ⟨xk, xn, xs⟩ s name n l) (.pointer (some ⟨w.heap.size, 0, none⟩)) := by
    have hbl : ((w.alloc (.cells (eArr op ⟨xk, xn, xs⟩ s name n (.slice ao l.length c)) 32)).alloc (.cells #[.pointer (some ⟨w.heap.size, 0, none⟩)] 62)).heap[w.heap.size]? = some (.cells (eArr op ⟨xk, xn, xs⟩ s name n (.slice ao l.length c)) 32) := block_alloc_of (block_alloc_at w _) _
    refine ⟨w.heap.size, 0, op, xk, xn, xs, s, name, n, ao, c, l, rfl, by omega, rfl, ⟨cell_of_block hbl rfl, cell_of_block hbl rfl, cell_of_block hbl rfl, cell_of_block hbl rfl, cell_of_block hbl rfl, cell_of_block hbl rfl, cell_of_block hbl rfl, cell_of_block hbl rfl⟩, ?_⟩
    exact (hes.keep (keepsC (hb2.mono hC))).mono fun k _ hk => by omega
  have hown0 : ((w.alloc (.cells (eArr op ⟨xk, xn, xs⟩ s name n (.slice ao l.length c)) 32)).alloc (.cells #[.pointer (some ⟨w.heap.size, 0, none⟩)] 62)).ownsRow (w.heap.size + 1) 62 1 (.slice (some ⟨w.heap.size + 1, 0, none⟩) 1 1) 1 [.pointer (some ⟨w.heap.size, 0, none⟩)] := by
    refine ⟨rfl, .inr ⟨w.heap.size + 1, 1, #[.pointer (some ⟨w.heap.size, 0, none⟩)], rfl, Nat.le_refl _, ?_, Nat.le_refl _, by decide, rfl, rfl⟩⟩
    have := block_alloc_at (w.alloc (.cells (eArr op ⟨xk, xn, xs⟩ s name n (.slice ao l.length c)) 32)) (.cells #[.pointer (some ⟨w.heap.size, 0, none⟩)] 62)
    rwa [World.size_alloc] at this
  have HQ := queue_start (.mk op ⟨xk, xn, xs⟩ s name n l)
  generalize hE : E.mk op ⟨xk, xn, xs⟩ s name n l = e at hp0 HQ hn ⊢
  clear hE
  go_enter Tryd.func42, Tryd.ntmps42
  go_wp2
  go_loopw [3, 4] (fun z i wr => ∃ (j : Nat) (L : List E) (P : List Value), i = .int .i64 j ∧ wr.ownsRow (w.heap.size + 1) 62 1 z L.length P ∧ Hid (Queue e L j) ∧ Ptrs (w.heap.size + 1) wr L P ∧ Below w.heap.size w wr ∧ w.heap.size + 1 ≤ wr.heap.size) (fun _ i _ => e.nodes - (intOf i).toNat)
  case atStart => exact ⟨0, [e], [.pointer (some ⟨w.heap.size, 0, none⟩)], rfl, hown0, HQ, fun i x hi => by
      match i, hi with
      | 0, hi => simp at hi; subst hi; exact ⟨_, rfl, hp0⟩
      | i + 1, hi => simp at hi, hb2, by simp⟩
  case round =>
    obtain ⟨j, L, P, rfl, hown, HQj, hP, hbel, hsz⟩ := hrel
    have hrow := IsRow.of_own hown
    have hlen := HQj.out.len
    have hPl : P.length = L.length := by have := hown.1; omega
    by_cases hlt : j < L.length
    · obtain ⟨x, hx⟩ : ∃ x, L[j]? = some x := ⟨_, List.getElem?_eq_getElem hlt⟩
      obtain ⟨p, hp, hptr⟩ := hP j x hx
      obtain ⟨b, o, op, xk, xn, xs, s, name, n, ao, c, l, rfl, hbC, rfl, ⟨c0, c1, c2, c3, c4, c5, c6, c7⟩, hes⟩ := hptr
      have HX : Hid (L[j]? = some (.mk op ⟨xk, xn, xs⟩ s name n l)) := hx
      clear hx
      rcases hrow.2 with ⟨h1, _⟩ | ⟨_, zb, zo, zc, rfl, _, _, _, h3⟩
      · omega
      have hzb := h3 j _ hp
      clear h3
      have j0 : (0 : Int) ≤ (j : Int) := by omega
      have j1 : (j : Int) < (L.length : Int) := by omega
      have ha := arguments_kids op ⟨xk, xn, xs⟩ s name n ao c l wr hes hsz
      clear hp
      go_wp2_with (first | (go_at_call 38; refine ha.mono ?_; rintro e1 w1 ⟨ko, kc, rfl, hk1, hbk⟩))
      have hbw : Below w.heap.size w w1 := hbel.trans (hbk.mono hbel.size)
      have hsz1 : w.heap.size + 1 ≤ w1.heap.size := Nat.le_trans hsz hbk.size
      have hown1 := ownsRow_below hown hbk
      have hP1 := hP.keep (hbk.mono hsz)
      have hKl : (kidsOf op l).length ≤ 2 := kids_le (.mk op ⟨xk, xn, xs⟩ s name n l)
      have HS : Hid (Queue e (L ++ kidsOf op l) (j + 1)) := HQj.out.step HX.out
      have hlen2 : (L ++ kidsOf op l).length ≤ e.nodes := HS.out.len
      rw [List.length_append] at hlen2
      clear hown hP hes ha hbk hbel hsz HX HQj c0 c1 c2 c3 c4 c5 c6 c7 hrow hzb hb1 hb2 hown0 hp0 HQ hbC
      generalize kidsOf op l = K at hk1 HS hlen2 hKl
      go_loopw [3, 23] (fun z k wr => ∃ (m : Nat) (P' : List Value), m ≤ K.length ∧ k = .int .i64 m ∧ wr.ownsRow (w.heap.size + 1) 62 1 z (L ++ K.take m).length P' ∧ Ptrs (w.heap.size + 1) wr (L ++ K.take m) P' ∧ Below w.heap.size w wr ∧ w.heap.size + 1 ≤ wr.heap.size ∧ IsEs (fun k => k < w.heap.size + 1) wr (.slice ko K.length kc) K) (fun _ k _ => K.length - (intOf k).toNat)
      case atStart => exact ⟨0, P, Nat.zero_le _, rfl, by simpa using hown1, by simpa using hP1, hbw, hsz1, hk1⟩
      case round =>
        obtain ⟨m, P', hm, rfl, hown, hP, hbel, hsz, hk⟩ := hrel
        have hPl' : Hid (P'.length = (L ++ K.take m).length) := by show _ = _; have := hown.1; omega
        have hLm : Hid ((L ++ K.take m).length = L.length + m) := by show _ = _; rw [List.length_append, List.length_take, Nat.min_eq_left hm]
        rw [hLm.out] at hown
        by_cases hmk : m < K.length
        · obtain ⟨y, hy⟩ : ∃ y, K[m]? = some y := ⟨_, List.getElem?_eq_getElem hmk⟩
          obtain ⟨kb, kf, rfl⟩ : ∃ kb kf, ko = some ⟨kb, kf, none⟩ := by
            obtain ⟨cs, hr, _⟩ := hk
            rcases hr.2 with ⟨h1, _⟩ | ⟨_, kb, kf, kc', h2, _⟩
            · omega
            · cases h2; exact ⟨kb, kf, rfl⟩
          have hptr := ptr_elem hk hy
          have HY : Hid (L ++ K.take (m + 1) = (L ++ K.take m) ++ [y]) := by show _ = _; rw [take_snoc' hy, List.append_assoc]
          have m0 : (0 : Int) ≤ (m : Int) := by omega
          have m1 : (m : Int) < (K.length : Int) := by omega
          obtain ⟨zo, zc, rfl⟩ := (IsRow.of_own hown).shape
          have hown2 := hown.alloc (.cells #[.pointer (some ⟨kb, kf + m * 8, none⟩)] 62)
          have hB1 : Below w.heap.size w (wr.alloc (.cells #[.pointer (some ⟨kb, kf + m * 8, none⟩)] 62)) := hbel.alloc hbel.size _
          have hB2 : Below (w.heap.size + 1) wr (wr.alloc (.cells #[.pointer (some ⟨kb, kf + m * 8, none⟩)] 62)) := (Below.refl _ _).alloc hsz _
          have hbase : w.heap.size + 1 ≤ (wr.alloc (.cells #[.pointer (some ⟨kb, kf + m * 8, none⟩)] 62)).heap.size := by rw [World.size_alloc]; omega
          have hnew := cells_new wr [.pointer (some ⟨kb, kf + m * 8, none⟩)] 62
          clear hy
          go_wp2_with (at_builtin; go_must (refine wpList_append_own _ rfl _ _ 60 rfl (w.heap.size + 1) 62 i0 (.pointer none) 1 8 Tryd.underlying60 hi hz0 hz1 hz2 rfl (by decide) _ _ _ rfl hown2 ⟨wr.heap.size, 0, none⟩ 1 1 [.pointer (some ⟨kb, kf + m * 8, none⟩)] rfl rfl hnew (by simp; rfl) (by simp only [maxLen]; omega) (by omega) hbase ?_))
          intro z2 w2 hown3 hg2 _
          have hap := below_append hown2 hbase hg2
          have hb3 : Below (w.heap.size + 1) wr w2 := hB2.trans hap
          go_wp2
          go_roundw
          case rel =>
            refine ⟨m + 1, P' ++ [.pointer (some ⟨kb, kf + m * 8, none⟩)], by omega, by go_num, ?_, ?_, hbel.trans (hb3.mono (by omega)), Nat.le_trans hbase hap.size, hk.keep (keepsC hb3)⟩
            · rw [HY.out, List.length_append, hLm.out]; exact hown3
            · rw [HY.out]; exact (hP.snoc hPl'.out hptr).keep hb3
          case measure => simp [intOf]; omega
        · have hmK : m = K.length := by omega
          subst hmK
          rw [← hLm.out, List.take_length] at hown
          rw [List.take_length] at hP
          go_wp2
          go_roundw
          case rel => exact ⟨j + 1, L ++ K, P', by go_num, hown, HS, hP, hbel, hsz⟩
          case measure => simp [intOf]; omega
    · obtain ⟨zo, zc, rfl⟩ := hrow.shape
      have hle := HQj.out.le
      have hj : j = L.length := by omega
      subst hj
      go_wp2
      go_ret
      exact ⟨_, L, P, rfl, hrow, hP, HQj.out, hbel, hsz⟩

end Go.Proofs.YtaiflkmlpjnmmaaDoor
