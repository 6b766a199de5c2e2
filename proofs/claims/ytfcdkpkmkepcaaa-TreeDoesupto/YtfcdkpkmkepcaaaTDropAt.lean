/-
  tree.Drop of a key that is there.
-/
import Derived.Test.YtfcdkpkmkepcaaaTDrop
namespace Go.Proofs.Ytfcdkpkmkepcaaa
open Go.RowKit

set_option maxHeartbeats 8000000 in
theorem drop_there (A B : List Pg) (p : Pg) (K1 K3 V1 V3 : List ByteArray) (y k : ByteArray) (tv : Value) (w : World) (h : IsTree w tv (A ++ p :: B)) (hg : GoodT (A ++ p :: B)) (hK : p.K = K1 ++ k :: K3) (hV : p.V = V1 ++ y :: V3) (hl : V1.length = K1.length)
    (fi : FindIs (A ++ p :: B) k A.length K1.length true) (hn : ((A ++ p :: B).length + 1) * 48 ≤ 140737488355328) :
    Calls Try.prog 27 #[tv, .string k] w fun e w' => JoinSays w w' e (A ++ (if (K1 ++ K3).length = 0 then [] else [⟨K1 ++ K3, V1 ++ V3⟩]) ++ B) := by
  have gc := fun W (hW : Below w.heap.size w W) => good_yes (A ++ p :: B) tv W (h.below hW) hg
  have fc := fun W (hW : Below w.heap.size w W) => fi tv W (h.below hW)
  have ht0 := h
  obtain ⟨sv, rfl, hs⟩ := h
  have hpi : (A ++ p :: B)[A.length]? = some p := by simp
  obtain ⟨b, off, cap, rfl, hbl, hcap, hcm, hT⟩ := hs.at (by simp <;> omega)
  obtain ⟨kv, vv, c0, c1, hk, hv⟩ := hT _ p hpi
  have hpk := hg.1 p (by simp)
  have cp := fun W (hW : Below w.heap.size w W) => copied_any p kv vv W (hk.below hW) (hv.below hW) (by have := hpk.1; omega) (by have := hpk.2.1; omega) hpk.2.2
  obtain ⟨ka, kc, rfl⟩ := hk.shape
  obtain ⟨va, vc, rfl⟩ := hv.shape
  have hlt : A.length < (A ++ p :: B).length := by simp
  have hlB : (A ++ p :: B).length = A.length + 1 + B.length := by simp; omega
  generalize hW0 : (w.alloc (.cells #[.slice (some ⟨b, off, none⟩) (A ++ p :: B).length cap] 39)).alloc (.cells #[.slice none 0 0] 39) = W0
  have hB0 : Below w.heap.size w W0 := by rw [← hW0]; exact ((Below.refl _ w).alloc (Nat.le_refl _) _).alloc (by simp) _
  have hs0 : W0.heap.size = w.heap.size + 1 + 1 := by rw [← hW0]; simp
  have b0 : W0.heap[w.heap.size]? = some (.cells #[.slice (some ⟨b, off, none⟩) (A ++ p :: B).length cap] 39) := by rw [← hW0]; exact block_alloc_of (block_alloc_at w _) _
  have r0 : W0.heap[w.heap.size + 1]? = some (.cells #[.slice none 0 0] 39) := by rw [← hW0]; exact block_alloc_is (size_a1 _ _) _
  have cb0 := cell_of_block b0 (j := 0) rfl
  have hA : w.heap.size < W0.heap.size := by omega
  have hA' : w.heap.size + 1 < W0.heap.size := by omega
  have g0 := gc _ hB0
  have rp := fun P W pv (hW : Below w.heap.size w W) (hp : IsPages W pv P) (hP : P.length ≤ 1) => replaced_any A [p] B P _ pv (A.length + 1) W (ht0.below hW) hp (by simp) (by simp) (by omega)
  have hokA : ∀ q ∈ A, q.ok := fun q hq => hg.1 q (by simp [hq])
  have hokB : ∀ q ∈ B, q.ok := fun q hq => hg.1 q (by simp [hq])
  have hvk := hpk.2.2
  have HV := hid hV
  have HK := hid hK
  have HL := hid hl
  have HOK := hid (And.intro hokA hokB)
  clear hV hK hT hs gc fi hg ht0 hk hv hpi hcap hokA hokB
  generalize hal : A.length = a at *
  generalize hnl : (A ++ p :: B).length = n at *
  rw [← hl] at fc
  generalize hkl : V1.length = pl at *
  generalize hpl : p.K.length = m at *
  generalize hml : p.V.length = mv at *
  unfold maxLen at hcm
  have hm4 : m ≤ 4 := by have := hpk.2.1; omega
  have hlen : m = K1.length + 1 + K3.length := by rw [← hpl, HK.out]; simp; omega
  have hplm : pl < m := by omega
  have i0 : (0 : Int) ≤ (a : Int) := by omega
  have i1 : (a : Int) < (n : Int) := by omega
  have i4 : (0 : Int) ≤ (pl : Int) := by omega
  have i5 : (pl : Int) ≤ 4 := by omega
  have i6 : IntKind.i64.wrap ((a : Int) + 1) = ((a + 1 : Nat) : Int) := by rw [IntKind.wrap_i64]; omega
  have i7 : IntKind.i64.wrap ((a : Int) - 1) = (a : Int) - 1 := by rw [IntKind.wrap_i64]; omega
  obtain ⟨TT, hTT⟩ : ∃ TT, A ++ (if (K1 ++ K3).length = 0 then [] else [⟨K1 ++ K3, V1 ++ V3⟩]) ++ B = TT := ⟨_, rfl⟩
  rw [hTT]
  have HTT := hid hTT
  have HPL := hid hkl
  have HVK := hid hvk
  have HN := hid hn
  have HLen := hid (And.intro hlen hplm)
  have HB := hid hlB
  have HLs := hid (And.intro hal (And.intro hnl (And.intro hl (And.intro hpl hml))))
  clear hlB hal hnl hpl hml hn hlt hvk hkl hl hlen hTT
  go_enter Try.func27, Try.ntmps27
  go_upto_region 7 with (first
    | (go_at_call 28; go_must (refine g0.mono ?_; rintro e w1 ⟨rfl, hb1⟩; have cb1 := (hb1.cell (p := ⟨w.heap.size, 0, none⟩) hA).trans cb0; have hbz := hB0.trans (hb1.mono hB0.size); have hZ1 := Nat.lt_of_lt_of_le hA hb1.size; have hZ1' := Nat.lt_of_lt_of_le hA' hb1.size; have bb1 := (hb1.block _ hA).trans b0; have r1 := (hb1.block _ hA').trans r0))
    | (go_at_call 44; go_must (refine (fc _ hbz).mono ?_; rintro e w2 ⟨rfl, hb2⟩; have cb2 := (hb2.cell (p := ⟨w.heap.size, 0, none⟩) hZ1).trans cb1; have hbz2 := hbz.trans (hb2.mono hbz.size); have c02 := (hbz2.cell (p := ⟨b, off + a * 2, none⟩) hbl).trans c0; have c12 := (hbz2.cell (p := ⟨b, off + a * 2 + 1, none⟩) hbl).trans c1; have hZ2 := Nat.lt_of_lt_of_le hZ1 hb2.size; have hZ2' := Nat.lt_of_lt_of_le hZ1' hb2.size; have bb2 := (hb2.block _ hZ1).trans bb1; have r2 := (hb2.block _ hZ1').trans r1))
    | (go_at_call 47; go_must (refine (cp _ hbz2).mono ?_; rintro e w3 ⟨g1, d1, g2, d2, rfl, ho1, ho2, hgg, hb3⟩; have cb3 := (hb3.cell (p := ⟨w.heap.size, 0, none⟩) hZ2).trans cb2; have hbz3 := hbz2.trans (hb3.mono hbz2.size); have hZ3 := Nat.lt_of_lt_of_le hZ2 hb3.size; have hZ3' := Nat.lt_of_lt_of_le hZ2' hb3.size; have bb3 := (hb3.block _ hZ2).trans bb2; have r3 := (hb3.block _ hZ2').trans r2)))
  have hg1B : w.heap.size + 1 < g1 := Nat.lt_of_lt_of_le hZ2' ho1.1
  have hg1l := ho1.lt
  have hg2l := ho2.lt
  obtain ⟨X1, hX1⟩ : ∃ X1, w3.alloc (.cells #[.slice (some ⟨g1, 0, none⟩) m d1, .slice (some ⟨g2, 0, none⟩) mv d2] 69) = X1 := ⟨_, rfl⟩
  have hx1 : Below w3.heap.size w3 X1 := by rw [← hX1]; exact (Below.refl _ _).alloc (Nat.le_refl _) _
  have hxs : X1.heap.size = w3.heap.size + 1 := by rw [← hX1]; simp
  have xq : X1.heap[w3.heap.size]? = some (.cells #[.slice (some ⟨g1, 0, none⟩) m d1, .slice (some ⟨g2, 0, none⟩) mv d2] 69) := by rw [← hX1]; exact block_alloc_at w3 _
  have oK : OwnStrs X1 w2.heap.size g1 d1 (K1 ++ k :: K3) := by have := ho1.below hx1; rwa [HK.out] at this
  have oV : OwnStrs X1 w2.heap.size g2 d2 (V1 ++ y :: V3) := by have := ho2.below hx1; rwa [HV.out] at this
  have hm1 : (K1 ++ k :: K3).length = m := by rw [← HK.out]; exact HLs.out.2.2.2.1
  have hm2 : (V1 ++ y :: V3).length = mv := by rw [← HV.out]; exact HLs.out.2.2.2.2
  have in1 := delete_any K1 K3 k (.slice (some ⟨g1, 0, none⟩) (K1 ++ k :: K3).length d1) w2.heap.size X1 oK.2
  rw [hm1, ← HLs.out.2.2.1] at in1
  obtain ⟨m', hm'⟩ : ∃ m', (K1 ++ K3).length = m' := ⟨_, rfl⟩
  have hmm : m = m' + 1 := by rw [← hm1, ← hm']; simp <;> omega
  have HM3 := hid hm'
  have HM4 := hid (show (V1 ++ V3).length = m' by have := HVK.out; rw [← hm2] at this; simp at this hm1 hm' ⊢; omega)
  have HM1 := hid hm1
  have HM2 := hid hm2
  have HMM := hid hmm
  clear hm1 hm2 hm' hmm
  have bbx := (hx1.block _ hZ3).trans bb3
  have rx := (hx1.block _ hZ3').trans r3
  have xc0 : X1.cell? ⟨w3.heap.size, 0, none⟩ = some (.slice (some ⟨g1, 0, none⟩) m d1) := cell_of_block xq rfl
  clear cb3
  go_upto_region 8 with (go_at_call 51; go_must (go_fit in1; rintro e w4 ⟨v1, rfl, hs1, gr1, own1⟩; obtain ⟨ao1, cc1, e1⟩ := hs1.shape; rw [HM3.out] at e1; subst e1; have q4 : w4.heap[w3.heap.size]? = some (.cells #[.slice (some ⟨g1, 0, none⟩) m d1, .slice (some ⟨g2, 0, none⟩) mv d2] 69) := (gr1.block _ (by omega) (by simp [Value.ownBlock]; omega)).trans xq; have q40 := cell_of_block q4 (j := 0) rfl; have f40 : w4.frozen? ⟨w3.heap.size, 0, none⟩ = false := (by simp [World.frozen?, q4])))
  have bb4 : w4.heap[w.heap.size]? = some (.cells #[.slice (some ⟨b, off, none⟩) n cap] 39) := (gr1.block _ (by omega) (by simp [Value.ownBlock]; omega)).trans bbx
  have r4 : w4.heap[w.heap.size + 1]? = some (.cells #[.slice none 0 0] 39) := (gr1.block _ (by omega) (by simp [Value.ownBlock]; omega)).trans rx
  have oV4 : OwnStrs w4 w2.heap.size g2 d2 (V1 ++ y :: V3) := oV.grown (r := g1) gr1 (by omega)
  have own1' : (Value.slice ao1 m' cc1).ownBlock = some g1 := own1
  obtain ⟨Y, hY⟩ : ∃ Y, w4.setCell ⟨w3.heap.size, 0, none⟩ (.slice ao1 m' cc1) = Y := ⟨_, rfl⟩
  have yq : Y.heap[w3.heap.size]? = some (.cells #[.slice ao1 m' cc1, .slice (some ⟨g2, 0, none⟩) mv d2] 69) := by rw [← hY]; exact set_block q4 0 _
  have yb : Y.heap[w.heap.size]? = some (.cells #[.slice (some ⟨b, off, none⟩) n cap] 39) := by rw [← hY, Below.heap_setCell _ _ _ _ (by simp only; omega)]; exact bb4
  have yr : Y.heap[w.heap.size + 1]? = some (.cells #[.slice none 0 0] 39) := by rw [← hY, Below.heap_setCell _ _ _ _ (by simp only; omega)]; exact r4
  have ysz : Y.heap.size = w4.heap.size := by rw [← hY]; simp [World.setCell]
  have oVY : OwnStrs Y w2.heap.size g2 d2 (V1 ++ y :: V3) := by rw [← hY]; exact oV4.setOther (by omega) _
  have hs1Y : IsStrs Y (.slice ao1 m' cc1) (K1 ++ K3) := by rw [← hY]; exact strs_setOther hs1 (by rw [own1']; simp only [ne_eq, Option.some.injEq]; omega) _
  have w4sz := gr1.size
  have hzY : Below w.heap.size w Y := by
    have hzx : Below w.heap.size w X1 := hbz3.trans (hx1.mono hbz3.size)
    have hz4 : Below w.heap.size w w4 := hzx.grown gr1 hzx.size (fun j hj => by simp [Value.ownBlock] at hj; omega)
    rw [← hY]; exact hz4.setCell (by simp only; omega) _
  have in2 := delete_any V1 V3 y (.slice (some ⟨g2, 0, none⟩) (V1 ++ y :: V3).length d2) w2.heap.size Y oVY.2
  rw [HM2.out, HPL.out] at in2
  have yc1 : Y.cell? ⟨w3.heap.size, 1, none⟩ = some (.slice (some ⟨g2, 0, none⟩) mv d2) := cell_of_block yq rfl
  clear q40 f40 xc0
  go_upto_region 9 with (go_at_call 51; go_must (go_fit in2; rintro e w5 ⟨v2, rfl, hs2, gr2, own2⟩; obtain ⟨ao2, cc2, e2⟩ := hs2.shape; rw [HM4.out] at e2; subst e2; have q5 := (gr2.block _ (by omega) (by simp [Value.ownBlock]; omega)).trans yq; have q50 := cell_of_block q5 (j := 1) rfl; have f50 : w5.frozen? ⟨w3.heap.size, 1, none⟩ = false := (by simp [World.frozen?, q5])))
  have w5sz := gr2.size
  have own2' : (Value.slice ao2 m' cc2).ownBlock = some g2 := own2
  have hs15 : IsStrs w5 (.slice ao1 m' cc1) (K1 ++ K3) := hs1Y.grown gr2 (.inr (by rw [own1']; simp [Value.ownBlock]; omega))
  have b5 := (gr2.block _ (by omega) (by simp [Value.ownBlock]; omega)).trans yb
  have r5 := (gr2.block _ (by omega) (by simp [Value.ownBlock]; omega)).trans yr
  have hz5 : Below w.heap.size w w5 := hzY.grown gr2 hzY.size (fun j hj => by simp [Value.ownBlock] at hj; omega)
  obtain ⟨Z, hZ⟩ : ∃ Z, w5.setCell ⟨w3.heap.size, 1, none⟩ (.slice ao2 m' cc2) = Z := ⟨_, rfl⟩
  have zq : Z.heap[w3.heap.size]? = some (.cells #[.slice ao1 m' cc1, .slice ao2 m' cc2] 69) := by rw [← hZ]; exact set_block q5 1 _
  have zb : Z.heap[w.heap.size]? = some (.cells #[.slice (some ⟨b, off, none⟩) n cap] 39) := by rw [← hZ, Below.heap_setCell _ _ _ _ (by simp only; omega)]; exact b5
  have zr : Z.heap[w.heap.size + 1]? = some (.cells #[.slice none 0 0] 39) := by rw [← hZ, Below.heap_setCell _ _ _ _ (by simp only; omega)]; exact r5
  have hzZ : Below w.heap.size w Z := by rw [← hZ]; exact hz5.setCell (by simp only; omega) _
  have hk1 : IsStrs Z (.slice ao1 m' cc1) (K1 ++ K3) := by rw [← hZ]; exact strs_setOther hs15 (by rw [own1']; simp only [ne_eq, Option.some.injEq]; omega) _
  have hv1 : IsStrs Z (.slice ao2 m' cc2) (V1 ++ V3) := by rw [← hZ]; exact strs_setOther hs2 (by rw [own2']; simp only [ne_eq, Option.some.injEq]; omega) _
  have zlt := lt_of_block zr
  have z0 : Z.cell? ⟨w.heap.size, 0, none⟩ = some (.slice (some ⟨b, off, none⟩) n cap) := cell_of_block zb rfl
  have z1 : Z.cell? ⟨w3.heap.size, 0, none⟩ = some (.slice ao1 m' cc1) := cell_of_block zq rfl
  have z2 : Z.cell? ⟨w3.heap.size, 1, none⟩ = some (.slice ao2 m' cc2) := cell_of_block zq rfl
  clear q50 f50 fc cp g0 in1 in2 yc1 c02 c12 own1 own2 own1' own2' gr1 gr2 q4 q5 yq yb yr b5 r5 xq bb1 bb2 bb3 bb4 bbx r0 r1 r2 r3 r4 rx b0 cb0 cb1 cb2 hs1 hs2 hs15 hs1Y oK oV oV4 oVY ho1 ho2
  rw [hZ]
  by_cases h0 : m' = 0
  · subst h0
    have rw6 := rp [] Z (.slice none 0 0) hzZ (IsPages.nil Z) (by simp)
    generalize hres : A ++ [] ++ B = R at rw6
    have HRT := hid (show TT = R by rw [← HTT.out, if_pos HM3.out, hres])
    have HRR := hid hres
    clear rp hZ hres
    go_wp2_with (go_at_call 48; go_must (refine rw6.mono ?_; rintro e w6 ⟨tv', rfl, ⟨sv', rfl, hP⟩, hb6⟩; obtain ⟨ao, cc, rfl⟩ := hP.shape; have r6 := (hb6.block _ zlt).trans zr; have q6 : w6.cell? ⟨w.heap.size + 1, 0, none⟩ = some (.slice none 0 0) := cell_of_block r6 rfl; have f6 : w6.frozen? ⟨w.heap.size + 1, 0, none⟩ = false := (by simp [World.frozen?, r6])))
    refine bodyPost_ret (v := .agg #[.slice ao R.length cc]) (by simp [results, Try.results27, go_sem, *]) rfl ?_
    have hz : Below w.heap.size w w6 := hzZ.trans (hb6.mono hzZ.size)
    rw [HRT.out]
    refine ⟨_, R, rfl, ⟨_, rfl, pages_set hP r6 _⟩, hz.setCell (by simp) _, ?_, rfl, Nat.le_refl _⟩
    rw [← HRR.out]
    intro q hq
    simp only [List.append_nil, List.mem_append] at hq
    rcases hq with hq | hq
    · exact HOK.out.1 q hq
    · exact HOK.out.2 q hq
  · have j0 : ¬ ((m' : Int) = 0) := by omega
    obtain ⟨W5, hW5⟩ : ∃ W5, Z.alloc (.cells #[.slice ao1 m' cc1, .slice ao2 m' cc2] 69) = W5 := ⟨_, rfl⟩
    have hz5' : Below Z.heap.size Z W5 := by rw [← hW5]; exact balloc (Below.refl _ _) _
    have b5' : W5.heap[Z.heap.size]? = some (.cells #[.slice ao1 m' cc1, .slice ao2 m' cc2] 69) := by rw [← hW5]; exact block_alloc_at Z _
    have hz45 : Below w.heap.size w W5 := hzZ.trans (hz5'.mono hzZ.size)
    have rw6 := rp [⟨K1 ++ K3, V1 ++ V3⟩] W5 (.slice (some ⟨Z.heap.size, 0, none⟩) 1 1) hz45 (pages_one b5' (hk1.below hz5') (hv1.below hz5') (by decide) (by decide)) (by simp)
    generalize hres : A ++ [⟨K1 ++ K3, V1 ++ V3⟩] ++ B = R at rw6
    have HRT := hid (show TT = R by rw [← HTT.out, if_neg (by rw [HM3.out]; exact h0), hres])
    have hok : ∀ q ∈ R, q.ok := by
      rw [← hres]
      intro q hq
      simp only [List.mem_append, List.mem_cons, List.not_mem_nil, or_false] at hq
      rcases hq with (hq | rfl) | hq
      · exact HOK.out.1 q hq
      · refine ⟨?_, ?_, ?_⟩
        · simp only [HM3.out]; omega
        · simp only [HM3.out]; have := HMM.out; omega
        · simp only [HM3.out, HM4.out]
      · exact HOK.out.2 q hq
    have hRl : R.length * 48 ≤ 140737488355328 := by
      rw [← hres]; have h1 := HN.out; have h2 := HB.out; have h3 := HLs.out.1; simp only [List.length_append, List.length_cons, List.length_nil]; omega
    have ha62 : (a : Int) ≤ 4611686018427387904 := by have h1 := HN.out; omega
    have jn1 := fun tv' W (hW : IsTree W tv' R) => joined_any R tv' (a : Int) W hW hok (by omega) ha62 hRl
    have jn2 := fun T2 tv' W (hW : IsTree W tv' T2) ok2 (hle : T2.length ≤ R.length) => joined_any T2 tv' ((a : Int) - 1) W hW ok2 (by omega) (by omega) (by omega)
    have r5' := (hz5'.block _ zlt).trans zr
    have hlast5 := Nat.lt_of_lt_of_le zlt hz5'.size
    clear rp hZ hres hk1 hv1 hok
    subst hW5
    go_wp2_with (first
      | (go_at_call 48; go_must (refine rw6.mono ?_; rintro e w6 ⟨tv', rfl, ⟨sv', rfl, hP⟩, hb6⟩; obtain ⟨ao, cc, rfl⟩ := hP.shape; have r6 := (hb6.block _ hlast5).trans r5'; have l6 := Nat.lt_of_lt_of_le hlast5 hb6.size))
      | (go_at_call_of 52 (Value.agg #[.slice ao R.length cc]); go_must (refine (jn1 _ _ ⟨_, rfl, hP⟩).mono ?_; rintro e w7 ⟨tv7, T2, rfl, ⟨sv7, rfl, hP7⟩, hb7, ok7, fl7, le7⟩; obtain ⟨ao7, cc7, rfl⟩ := hP7.shape; have r7 := (hb7.block _ l6).trans r6; have l7 := Nat.lt_of_lt_of_le l6 hb7.size))
      | (go_at_call 52; go_must (refine (jn2 T2 _ _ ⟨_, rfl, hP7⟩ ok7 le7).mono ?_; rintro e w8 ⟨tv8, T3, rfl, ⟨sv8, rfl, hP8⟩, hb8, ok8, fl8, le8⟩; obtain ⟨ao8, cc8, rfl⟩ := hP8.shape; have r8 := (hb8.block _ l7).trans r7; have q8 : w8.cell? ⟨w.heap.size + 1, 0, none⟩ = some (.slice none 0 0) := cell_of_block r8 rfl; have f8 : w8.frozen? ⟨w.heap.size + 1, 0, none⟩ = false := (by simp [World.frozen?, r8]); have HFL := hid (And.intro fl7 fl8); clear fl7 fl8)))
    refine bodyPost_ret (v := .agg #[.slice ao8 T3.length cc8]) (by simp [results, Try.results27, go_sem, *]) rfl ?_
    have hz : Below w.heap.size w w8 := bthen (bthen (hz45.trans (hb6.mono hz45.size)) hb7) hb8
    rw [HRT.out]
    exact ⟨_, T3, rfl, ⟨_, rfl, pages_set hP8 r8 _⟩, hz.setCell (by simp) _, ok8, HFL.out.2.trans HFL.out.1, Nat.le_trans le8 le7⟩

end Go.Proofs.Ytfcdkpkmkepcaaa
