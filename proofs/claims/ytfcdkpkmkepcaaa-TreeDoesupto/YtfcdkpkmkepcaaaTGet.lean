/-
  Contracts of tree.Good (of every tree), tree.Get and tree.Size.
-/
import Derived.Test.YtfcdkpkmkepcaaaTFind
namespace Go.Proofs.Ytfcdkpkmkepcaaa
open Go.RowKit

theorem IsTree.keysLen {w : World} {tv : Value} {T : List Pg} (h : IsTree w tv T) : ∀ p ∈ T, p.K.length ≤ maxLen := by
  intro p hp
  obtain ⟨sv, _, rows, _, hr⟩ := h
  obtain ⟨i, hi⟩ := List.getElem?_of_mem hp
  obtain ⟨r, _, hk, _⟩ := hr.at hi
  rcases Nat.eq_zero_or_pos p.K.length with h0 | h0
  · omega
  · obtain ⟨b, off, cap, _, _, h1, h2, _⟩ := hk.at h0
    omega

/-- tree.Good. -/
theorem good_any (T : List Pg) (tv : Value) (w : World) (h : IsTree w tv T) :
    Calls Try.prog 28 #[tv] w fun e w' => SaysB e (GoodT T) ∧ Below w.heap.size w w' := by
  have hl := h.keysLen
  obtain ⟨sv, rfl, hs⟩ := h
  rcases Nat.eq_zero_or_pos T.length with h0 | h0
  · obtain ⟨ao, cap, rfl, _⟩ := hs.empty h0
    obtain rfl := List.eq_nil_of_length_eq_zero h0
    exact good_empty ao cap w
  · obtain ⟨b, off, cap, rfl, hb, hc, hm, hT⟩ := hs.at h0
    exact good_some T b off cap w hb hT hc hm hl

theorem good_yes (T : List Pg) (tv : Value) (w : World) (h : IsTree w tv T) (hg : GoodT T) :
    Calls Try.prog 28 #[tv] w fun e w' => e = .returned (.bool true) ∧ Below w.heap.size w w' :=
  (good_any T tv w h).mono fun _ _ h => ⟨h.1.yes hg, h.2⟩
theorem good_no (T : List Pg) (tv : Value) (w : World) (h : IsTree w tv T) (hg : ¬ GoodT T) :
    Calls Try.prog 28 #[tv] w fun e w' => e = .returned (.bool false) ∧ Below w.heap.size w w' :=
  (good_any T tv w h).mono fun _ _ h => ⟨h.1.no hg, h.2⟩

/-- What Get tells: the text that stands at a key. -/
def getAns (o : Option ByteArray) : Value := .tuple #[.string (o.getD ⟨#[]⟩), .bool o.isSome]

theorem zip_at {K1 K3 V : List ByteArray} {y : ByteArray} (h : V.length = (K1 ++ y :: K3).length) : ∃ V1 v V3, V = V1 ++ v :: V3 ∧ V1.length = K1.length ∧ V3.length = K3.length ∧ (K1 ++ y :: K3).zip V = K1.zip V1 ++ (y, v) :: K3.zip V3 := by
  have hl : K1.length < V.length := by rw [h]; simp
  refine ⟨V.take K1.length, V[K1.length], V.drop (K1.length + 1), ?_, ?_, ?_, ?_⟩
  · rw [← List.drop_eq_getElem_cons hl, List.take_append_drop]
  · simp; omega
  · simp at h ⊢; omega
  · have e : V = V.take K1.length ++ V[K1.length] :: V.drop (K1.length + 1) := by rw [← List.drop_eq_getElem_cons hl, List.take_append_drop]
    conv => lhs; rw [e]
    rw [List.zip_append (by simp; omega)]
    rfl

/-- A key that is there: what stands around it. -/
theorem found_there {A B : List Pg} {p : Pg} {K1 K3 : List ByteArray} {k : ByteArray} (hg : GoodT (A ++ p :: B)) (hp : p.K = K1 ++ k :: K3) (hA : ∀ x ∈ keysT A, klt x k = true) (hK : ∀ x ∈ K1, klt x k = true) :
    ∃ V1 v V3, p.V = V1 ++ v :: V3 ∧ V1.length = K1.length ∧ V3.length = K3.length ∧ Cut (flat (A ++ p :: B)) k (flat A ++ K1.zip V1) (some v) (K3.zip V3 ++ flat B) := by
  have hok := hg.1 p (by simp)
  have hpv := hok.2.2
  rw [hp] at hpv
  obtain ⟨V1, v, V3, e, h1, h3, hz⟩ := zip_at hpv
  have hAo : ∀ q ∈ A, q.ok := fun q hq => hg.1 q (by simp [hq])
  have hBo : ∀ q ∈ B, q.ok := fun q hq => hg.1 q (by simp [hq])
  have hr := hg.2
  rw [keysT_append, keysT_cons, hp] at hr
  have hr2 := (rise_append.1 hr).2.1
  rw [List.append_assoc] at hr2
  have hr3 := (rise_append.1 hr2).2.1
  rw [Rise, List.cons_append, List.pairwise_cons] at hr3
  refine ⟨V1, v, V3, e, h1, h3, ?_, ?_, ?_⟩
  · rw [flat_append, flat_cons, hp, hz]
    simp
  · intro x hx
    rcases List.mem_append.1 hx with hx | hx
    · exact hA _ (by rw [← keys_flat hAo]; exact List.mem_map.2 ⟨x, hx, rfl⟩)
    · exact hK _ (List.of_mem_zip hx).1
  · intro x hx
    rcases List.mem_append.1 hx with hx | hx
    · exact hr3.1 _ (List.mem_append_left _ (List.of_mem_zip hx).1)
    · exact hr3.1 _ (List.mem_append_right _ (by rw [← keys_flat hBo]; exact List.mem_map.2 ⟨x, hx, rfl⟩))

set_option maxHeartbeats 2000000 in
theorem get_good (T : List Pg) (tv : Value) (k : ByteArray) (w : World) (h : IsTree w tv T) (hg : GoodT T) (hn : T.length * 48 ≤ 140737488355328) :
    Calls Try.prog 24 #[tv, .string k] w fun e w' => e = .returned (getAns (getF (flat T) k)) ∧ Below w.heap.size w w' := by
  obtain ⟨pg, pl, th, hF, fi⟩ := find_any T k hg hn
  have gc := fun W (hW : Below w.heap.size w W) => good_yes T tv W (h.below hW) hg
  have fc := fun W (hW : Below w.heap.size w W) => fi tv W (h.below hW)
  obtain ⟨sv, rfl, hs⟩ := h
  have hs2 := hs
  obtain ⟨so, scap, rfl⟩ : ∃ so scap, sv = .slice so T.length scap := by obtain ⟨rows, h1, _⟩ := hs; exact h1.shape
  have hB0 : Below w.heap.size w (w.alloc (.cells #[.slice so T.length scap] 39)) := (Below.refl _ w).alloc (Nat.le_refl _) _
  have cbox : (w.alloc (.cells #[.slice so T.length scap] 39)).cell? ⟨w.heap.size, 0, none⟩ = some (.slice so T.length scap) := cell_of_block (block_alloc_at w _) rfl
  have g0 := gc _ hB0
  have hsz : w.heap.size < (w.alloc (.cells #[.slice so T.length scap] 39)).heap.size := by simp
  cases th with
  | false =>
    obtain ⟨F1, o, F2, c, ho⟩ := hF.cut hg
    have hon : o = none := by
      cases o with
      | none => rfl
      | some v => have := ho.2 rfl; cases this
    rw [c.get, hon]
    clear c ho hon hF fi hg hs hs2 gc
    generalize T.length = n at *
    go_enter Try.func24, Try.ntmps24
    go_wp2_with (first
      | (go_at_call 28; go_must (refine g0.mono ?_; rintro e w1 ⟨rfl, hb1⟩; have cb1 := (hb1.cell (p := ⟨w.heap.size, 0, none⟩) hsz).trans cbox; have hbz := hB0.trans (hb1.mono hB0.size)))
      | (go_at_call 44; go_must (refine (fc _ hbz).mono ?_; rintro e w2 ⟨rfl, hb2⟩)))
    go_ret2
    exact ⟨rfl, hbz.trans (hb2.mono hbz.size)⟩
  | true =>
    rcases hF with ⟨_, _, h, _⟩ | ⟨A, p, B, K1, y, K3, rfl, hp, rfl, rfl, hA, hK, hy, hth⟩
    · cases h
    have hyk : y = k := of_decide_eq_true hth.symm
    subst hyk
    obtain ⟨V1, v, V3, hV, hl1, hl3, c⟩ := found_there hg hp hA hK
    rw [c.get]
    have hpi : (A ++ p :: B)[A.length]? = some p := by simp
    have hlt : A.length < (A ++ p :: B).length := by simp
    obtain ⟨b, off, cap, hsv, hbl, _, _, hT⟩ := hs.at (by omega)
    simp only [Value.slice.injEq] at hsv
    obtain ⟨rfl, _, rfl⟩ := hsv
    obtain ⟨kv, vv, c0, c1, hk, hv⟩ := hT _ p hpi
    have hvl : K1.length < p.V.length := by rw [hV, List.length_append, List.length_cons]; omega
    obtain ⟨vb, vo, vc, rfl, hvb, hvc, _, hvcell⟩ := hv.at (by omega)
    have cv := hvcell K1.length v (by rw [hV, ← hl1]; simp)
    clear c hs hs2 gc fi hg hT hvcell hk hv hp hA hK hy hth hV hl1 hl3 hpi
    generalize A.length = a at *
    generalize K1.length = kl at *
    generalize p.V.length = vl at *
    generalize (A ++ p :: B).length = n at *
    have i0 : (0 : Int) ≤ (a : Int) := by omega
    have i1 : (a : Int) < (n : Int) := by omega
    have i2 : (0 : Int) ≤ (kl : Int) := by omega
    have i3 : (kl : Int) < (vl : Int) := by omega
    go_enter Try.func24, Try.ntmps24
    go_wp2_with (first
      | (go_at_call 28; go_must (refine g0.mono ?_; rintro e w1 ⟨rfl, hb1⟩; have cb1 := (hb1.cell (p := ⟨w.heap.size, 0, none⟩) hsz).trans cbox; have hbz := hB0.trans (hb1.mono hB0.size); have hsz1 := Nat.lt_of_lt_of_le hsz hb1.size))
      | (go_at_call 44; go_must (refine (fc _ hbz).mono ?_; rintro e w2 ⟨rfl, hb2⟩; have cb2 := (hb2.cell (p := ⟨w.heap.size, 0, none⟩) hsz1).trans cb1; have hbz2 := hbz.trans (hb2.mono hbz.size); have c12 := (hbz2.cell (p := ⟨b, off + a * 2 + 1, none⟩) hbl).trans c1; have cv2 := (hbz2.cell (p := ⟨vb, vo + kl, none⟩) hvb).trans cv)))
    go_ret2
    exact ⟨rfl, hbz2⟩

set_option maxHeartbeats 1000000 in
theorem get_not (T : List Pg) (tv : Value) (k : ByteArray) (w : World) (h : IsTree w tv T) (hg : ¬ GoodT T) :
    Calls Try.prog 24 #[tv, .string k] w fun e w' => e = .returned (getAns none) ∧ Below w.heap.size w w' := by
  have gc := fun W (hW : Below w.heap.size w W) => good_no T tv W (h.below hW) hg
  obtain ⟨sv, rfl, hs⟩ := h
  obtain ⟨so, scap, rfl⟩ : ∃ so scap, sv = .slice so T.length scap := by obtain ⟨rows, h1, _⟩ := hs; exact h1.shape
  have hB0 : Below w.heap.size w (w.alloc (.cells #[.slice so T.length scap] 39)) := (Below.refl _ w).alloc (Nat.le_refl _) _
  have g0 := gc _ hB0
  clear gc hs hg
  generalize T.length = n at *
  go_enter Try.func24, Try.ntmps24
  go_wp2_with (go_at_call 28; go_must (refine g0.mono ?_; rintro e w1 ⟨rfl, hb1⟩))
  go_ret2
  exact ⟨rfl, hB0.trans (hb1.mono hB0.size)⟩

theorem keys_take (T : List Pg) (k : Nat) (p : Pg) (h : T[k]? = some p) : (keysT (T.take (k + 1))).length = (keysT (T.take k)).length + p.K.length := by
  rw [List.take_add_one, h, keysT_append, List.length_append]
  simp [keysT]
theorem keys_take_le (T : List Pg) (k : Nat) : (keysT (T.take k)).length ≤ (keysT T).length := by
  conv => rhs; rw [← List.take_append_drop k T]
  rw [keysT_append, List.length_append]; omega

set_option maxHeartbeats 2000000 in
/-- tree.Size. -/
theorem size_any (T : List Pg) (tv : Value) (w : World) (h : IsTree w tv T) (hn : (keysT T).length ≤ 4611686018427387904) :
    Calls Try.prog 34 #[tv] w fun e w' => e = .returned (.int .i64 (keysT T).length) ∧ Below w.heap.size w w' := by
  obtain ⟨sv, rfl, hs⟩ := h
  rcases Nat.eq_zero_or_pos T.length with h0 | h0
  · obtain ⟨ao, cap, rfl, _⟩ := hs.empty h0
    obtain rfl := List.eq_nil_of_length_eq_zero h0
    go_enter Try.func34, Try.ntmps34
    go_wp2
    refine wp_loop_rounds 1 ?_
    rw [rounds_succ]
    go_wp2
    go_ret
    exact ⟨rfl, (Below.refl _ _).alloc (Nat.le_refl _) _⟩
  · obtain ⟨b, off, cap, rfl, hb, hc, hm, hT⟩ := hs.at h0
    have HT := hid hT
    have HK := hid (keys_take T)
    have HL := hid (keys_take_le T)
    generalize hS : (keysT T).length = S at *
    have HS := hid hS
    clear hS hT hs
    generalize hN : T.length = n at *
    have HN := hid hN
    clear hN
    unfold maxLen at hm
    go_enter Try.func34, Try.ntmps34
    go_wp2
    go_loopw [3, 9] (fun z i wr => ∃ k s : Nat, k ≤ n ∧ s ≤ S ∧ i = .int .i64 k ∧ z = .int .i64 s ∧ Below w.heap.size w wr ∧ Hid (s = (keysT (T.take k)).length)) (fun _ i _ => n - (intOf i).toNat)
    case atStart => exact ⟨0, 0, Nat.zero_le _, Nat.zero_le _, rfl, rfl, (Below.refl _ _).alloc (Nat.le_refl _) _, hid (by simp [keysT])⟩
    case round =>
      obtain ⟨k, s, hk, hs, rfl, rfl, hbel, HE⟩ := hrel
      by_cases hlt : k < n
      · obtain ⟨p, hp⟩ : ∃ p, T[k]? = some p := ⟨_, List.getElem?_eq_getElem (by rw [HN.out]; omega)⟩
        obtain ⟨kv, vv, d0, d1, hk1, hv1⟩ := HT.out k p hp
        have c0 := (hbel.cell (p := ⟨b, off + k * 2, none⟩) hb).trans d0
        have c1 := (hbel.cell (p := ⟨b, off + k * 2 + 1, none⟩) hb).trans d1
        obtain ⟨va, vc, rfl⟩ := hv1.shape
        obtain ⟨ka, kc, rfl⟩ := hk1.shape
        have hbr : b < wr.heap.size := Nat.lt_of_lt_of_le hb hbel.size
        have h1 := HK.out k p hp
        have h2 := HL.out (k + 1)
        rw [h1, ← HE.out] at h2
        rw [← HE.out] at h1
        have H1 := hid h1
        clear h1 hp d0 d1 hk1 hv1
        generalize p.K.length = pl at *
        have i0 : (0 : Int) ≤ (k : Int) := by omega
        have i1 : (k : Int) < (n : Int) := by omega
        go_wp2
        go_roundw
        case rel => exact ⟨k + 1, s + pl, by omega, by omega, by go_num, by go_num, hbel.alloc hbel.size _, hid H1.out.symm⟩
        case measure => simp [intOf]; omega
      · have hkn : k = n := by omega
        have he : s = S := by rw [HE.out, hkn, ← HN.out, List.take_length, HS.out]
        subst he
        go_wp2
        go_ret
        exact ⟨rfl, hbel⟩

end Go.Proofs.Ytfcdkpkmkepcaaa
