/-
  3 texts of this proof in one, in build order: TDropAt, TDropAny, PTree.
-/
import Derived.Test.YtkncamggdfmlnaaGreatDoorJ12
import Derived.Test.YtkncamggdfmlnaaGreatDoorJ14
import Derived.Test.YtkncamggdfmlnaaGreatDoorJ15
namespace Go.Proofs.YtkncamggdfmlnaaGreatDoor
open Go.RowKit

set_option maxHeartbeats 8000000 in
theorem drop_there (A B : List Pg) (p : Pg) (K1 K3 V1 V3 : List ByteArray) (y k : ByteArray) (tv : Value) (w : World) (h : IsTree w tv (A ++ p :: B)) (hg : GoodT (A ++ p :: B)) (hK : p.K = K1 ++ k :: K3) (hV : p.V = V1 ++ y :: V3) (hl : V1.length = K1.length)
    (fi : FindIs (A ++ p :: B) k A.length K1.length true) (hn : ((A ++ p :: B).length + 1) * 48 ≤ 140737488355328) :
    Calls Tryz.prog 29 #[tv, .string k] w fun e w' => JoinSays w w' e (A ++ (if (K1 ++ K3).length = 0 then [] else [⟨K1 ++ K3, V1 ++ V3⟩]) ++ B) := by
  have gc := fun W (hW : Below w.heap.size w W) => good_yes (A ++ p :: B) tv W (h.below hW) hg
  have fc := fun W (hW : Below w.heap.size w W) => fi tv W (h.below hW)
  have ht0 := h
  obtain ⟨sv, rfl, hs⟩ := h
  have hpi : (A ++ p :: B)[A.length]? = some p := by simp
  obtain ⟨b, off, cap, rfl, hbl, hcap, hcm, hT⟩ := hs.at (by simp <;> omega)
  obtain ⟨kv, vv, c0, c1, hk, hv⟩ := hT _ p hpi
  have hpk := hg.1 p (by simp)
  have cp := fun W (hW : Below w.heap.size w W) => copied_any p kv vv W (hk.below hW) (hv.below hW) (by have := hpk.1; omega) (by have := hpk.2.1; omega) hpk.2.2
  obtain ⟨ka, kc, rfl⟩ := hk.shape
  obtain ⟨va, vc, rfl⟩ := hv.shape
  have hlt : A.length < (A ++ p :: B).length := by simp
  have hlB : (A ++ p :: B).length = A.length + 1 + B.length := by simp; omega
  generalize hW0 : (w.alloc (.cells #[.slice (some ⟨b, off, none⟩) (A ++ p :: B).length cap] 52)).alloc (.cells #[.slice none 0 0] 52) = W0
  have hB0 : Below w.heap.size w W0 := by rw [← hW0]; exact ((Below.refl _ w).alloc (Nat.le_refl _) _).alloc (by simp) _
  have hs0 : W0.heap.size = w.heap.size + 1 + 1 := by rw [← hW0]; simp
  have b0 : W0.heap[w.heap.size]? = some (.cells #[.slice (some ⟨b, off, none⟩) (A ++ p :: B).length cap] 52) := by rw [← hW0]; exact block_alloc_of (block_alloc_at w _) _
  have r0 : W0.heap[w.heap.size + 1]? = some (.cells #[.slice none 0 0] 52) := by rw [← hW0]; exact block_alloc_is (size_a1 _ _) _
  have cb0 := cell_of_block b0 (j := 0) rfl
  have hA : w.heap.size < W0.heap.size := by omega
  have hA' : w.heap.size + 1 < W0.heap.size := by omega
  have g0 := gc _ hB0
  have rp := fun P W pv (hW : Below w.heap.size w W) (hp : IsPages W pv P) (hP : P.length ≤ 1) => replaced_any A [p] B P _ pv (A.length + 1) W (ht0.below hW) hp (by simp) (by simp) (by omega)
  have hokA : ∀ q ∈ A, q.ok := fun q hq => hg.1 q (by simp [hq])
  have hokB : ∀ q ∈ B, q.ok := fun q hq => hg.1 q (by simp [hq])
  have hvk := hpk.2.2
  have HV := hid hV
  have HK := hid hK
  have HL := hid hl
  have HOK := hid (And.intro hokA hokB)
  clear hV hK hT hs gc fi hg ht0 hk hv hpi hcap hokA hokB
  generalize hal : A.length = a at *
  generalize hnl : (A ++ p :: B).length = n at *
  rw [← hl] at fc
  generalize hkl : V1.length = pl at *
  generalize hpl : p.K.length = m at *
  generalize hml : p.V.length = mv at *
  unfold maxLen at hcm
  have hm4 : m ≤ 4 := by have := hpk.2.1; omega
  have hlen : m = K1.length + 1 + K3.length := by rw [← hpl, HK.out]; simp; omega
  have hplm : pl < m := by omega
  have i0 : (0 : Int) ≤ (a : Int) := by omega
  have i1 : (a : Int) < (n : Int) := by omega
  have i4 : (0 : Int) ≤ (pl : Int) := by omega
  have i5 : (pl : Int) ≤ 4 := by omega
  have i6 : IntKind.i64.wrap ((a : Int) + 1) = ((a + 1 : Nat) : Int) := by rw [IntKind.wrap_i64]; omega
  have i7 : IntKind.i64.wrap ((a : Int) - 1) = (a : Int) - 1 := by rw [IntKind.wrap_i64]; omega
  obtain ⟨TT, hTT⟩ : ∃ TT, A ++ (if (K1 ++ K3).length = 0 then [] else [⟨K1 ++ K3, V1 ++ V3⟩]) ++ B = TT := ⟨_, rfl⟩
  rw [hTT]
  have HTT := hid hTT
  have HPL := hid hkl
  have HVK := hid hvk
  have HN := hid hn
  have HLen := hid (And.intro hlen hplm)
  have HB := hid hlB
  have HLs := hid (And.intro hal (And.intro hnl (And.intro hl (And.intro hpl hml))))
  clear hlB hal hnl hpl hml hn hlt hvk hkl hl hlen hTT
  go_enter Tryz.func29, Tryz.ntmps29
  go_upto_region 7 with (first
    | (go_at_call 39; go_must (refine g0.mono ?_; rintro e w1 ⟨rfl, hb1⟩; have cb1 := (hb1.cell (p := ⟨w.heap.size, 0, none⟩) hA).trans cb0; have hbz := hB0.trans (hb1.mono hB0.size); have hZ1 := Nat.lt_of_lt_of_le hA hb1.size; have hZ1' := Nat.lt_of_lt_of_le hA' hb1.size; have bb1 := (hb1.block _ hA).trans b0; have r1 := (hb1.block _ hA').trans r0))
    | (go_at_call 40; go_must (refine (fc _ hbz).mono ?_; rintro e w2 ⟨rfl, hb2⟩; have cb2 := (hb2.cell (p := ⟨w.heap.size, 0, none⟩) hZ1).trans cb1; have hbz2 := hbz.trans (hb2.mono hbz.size); have c02 := (hbz2.cell (p := ⟨b, off + a * 2, none⟩) hbl).trans c0; have c12 := (hbz2.cell (p := ⟨b, off + a * 2 + 1, none⟩) hbl).trans c1; have hZ2 := Nat.lt_of_lt_of_le hZ1 hb2.size; have hZ2' := Nat.lt_of_lt_of_le hZ1' hb2.size; have bb2 := (hb2.block _ hZ1).trans bb1; have r2 := (hb2.block _ hZ1').trans r1))
    | (go_at_call 41; go_must (refine (cp _ hbz2).mono ?_; rintro e w3 ⟨g1, d1, g2, d2, rfl, ho1, ho2, hgg, hb3⟩; have cb3 := (hb3.cell (p := ⟨w.heap.size, 0, none⟩) hZ2).trans cb2; have hbz3 := hbz2.trans (hb3.mono hbz2.size); have hZ3 := Nat.lt_of_lt_of_le hZ2 hb3.size; have hZ3' := Nat.lt_of_lt_of_le hZ2' hb3.size; have bb3 := (hb3.block _ hZ2).trans bb2; have r3 := (hb3.block _ hZ2').trans r2)))
  have hg1B : w.heap.size + 1 < g1 := Nat.lt_of_lt_of_le hZ2' ho1.1
  have hg1l := ho1.lt
  have hg2l := ho2.lt
  obtain ⟨X1, hX1⟩ : ∃ X1, w3.alloc (.cells #[.slice (some ⟨g1, 0, none⟩) m d1, .slice (some ⟨g2, 0, none⟩) mv d2] 76) = X1 := ⟨_, rfl⟩
  have hx1 : Below w3.heap.size w3 X1 := by rw [← hX1]; exact (Below.refl _ _).alloc (Nat.le_refl _) _
  have hxs : X1.heap.size = w3.heap.size + 1 := by rw [← hX1]; simp
  have xq : X1.heap[w3.heap.size]? = some (.cells #[.slice (some ⟨g1, 0, none⟩) m d1, .slice (some ⟨g2, 0, none⟩) mv d2] 76) := by rw [← hX1]; exact block_alloc_at w3 _
  have oK : OwnStrs X1 w2.heap.size g1 d1 (K1 ++ k :: K3) := by have := ho1.below hx1; rwa [HK.out] at this
  have oV : OwnStrs X1 w2.heap.size g2 d2 (V1 ++ y :: V3) := by have := ho2.below hx1; rwa [HV.out] at this
  have hm1 : (K1 ++ k :: K3).length = m := by rw [← HK.out]; exact HLs.out.2.2.2.1
  have hm2 : (V1 ++ y :: V3).length = mv := by rw [← HV.out]; exact HLs.out.2.2.2.2
  have in1 := delete_any K1 K3 k (.slice (some ⟨g1, 0, none⟩) (K1 ++ k :: K3).length d1) w2.heap.size X1 oK.2
  rw [hm1, ← HLs.out.2.2.1] at in1
  obtain ⟨m', hm'⟩ : ∃ m', (K1 ++ K3).length = m' := ⟨_, rfl⟩
  have hmm : m = m' + 1 := by rw [← hm1, ← hm']; simp <;> omega
  have HM3 := hid hm'
  have HM4 := hid (show (V1 ++ V3).length = m' by have := HVK.out; rw [← hm2] at this; simp at this hm1 hm' ⊢; omega)
  have HM1 := hid hm1
  have HM2 := hid hm2
  have HMM := hid hmm
  clear hm1 hm2 hm' hmm
  have bbx := (hx1.block _ hZ3).trans bb3
  have rx := (hx1.block _ hZ3').trans r3
  have xc0 : X1.cell? ⟨w3.heap.size, 0, none⟩ = some (.slice (some ⟨g1, 0, none⟩) m d1) := cell_of_block xq rfl
  clear cb3
  go_upto_region 8 with (go_at_call 46; go_must (go_fit in1; rintro e w4 ⟨v1, rfl, hs1, gr1, own1⟩; obtain ⟨ao1, cc1, e1⟩ := hs1.shape; rw [HM3.out] at e1; subst e1; have q4 : w4.heap[w3.heap.size]? = some (.cells #[.slice (some ⟨g1, 0, none⟩) m d1, .slice (some ⟨g2, 0, none⟩) mv d2] 76) := (gr1.block _ (by omega) (by simp [Value.ownBlock]; omega)).trans xq; have q40 := cell_of_block q4 (j := 0) rfl; have f40 : w4.frozen? ⟨w3.heap.size, 0, none⟩ = false := (by simp [World.frozen?, q4])))
  have bb4 : w4.heap[w.heap.size]? = some (.cells #[.slice (some ⟨b, off, none⟩) n cap] 52) := (gr1.block _ (by omega) (by simp [Value.ownBlock]; omega)).trans bbx
  have r4 : w4.heap[w.heap.size + 1]? = some (.cells #[.slice none 0 0] 52) := (gr1.block _ (by omega) (by simp [Value.ownBlock]; omega)).trans rx
  have oV4 : OwnStrs w4 w2.heap.size g2 d2 (V1 ++ y :: V3) := oV.grown (r := g1) gr1 (by omega)
  have own1' : (Value.slice ao1 m' cc1).ownBlock = some g1 := own1
  obtain ⟨Y, hY⟩ : ∃ Y, w4.setCell ⟨w3.heap.size, 0, none⟩ (.slice ao1 m' cc1) = Y := ⟨_, rfl⟩
  have yq : Y.heap[w3.heap.size]? = some (.cells #[.slice ao1 m' cc1, .slice (some ⟨g2, 0, none⟩) mv d2] 76) := by rw [← hY]; exact set_block q4 0 _
  have yb : Y.heap[w.heap.size]? = some (.cells #[.slice (some ⟨b, off, none⟩) n cap] 52) := by rw [← hY, Below.heap_setCell _ _ _ _ (by simp only; omega)]; exact bb4
  have yr : Y.heap[w.heap.size + 1]? = some (.cells #[.slice none 0 0] 52) := by rw [← hY, Below.heap_setCell _ _ _ _ (by simp only; omega)]; exact r4
  have ysz : Y.heap.size = w4.heap.size := by rw [← hY]; simp [World.setCell]
  have oVY : OwnStrs Y w2.heap.size g2 d2 (V1 ++ y :: V3) := by rw [← hY]; exact oV4.setOther (by omega) _
  have hs1Y : IsStrs Y (.slice ao1 m' cc1) (K1 ++ K3) := by rw [← hY]; exact strs_setOther hs1 (by rw [own1']; simp only [ne_eq, Option.some.injEq]; omega) _
  have w4sz := gr1.size
  have hzY : Below w.heap.size w Y := by
    have hzx : Below w.heap.size w X1 := hbz3.trans (hx1.mono hbz3.size)
    have hz4 : Below w.heap.size w w4 := hzx.grown gr1 hzx.size (fun j hj => by simp [Value.ownBlock] at hj; omega)
    rw [← hY]; exact hz4.setCell (by simp only; omega) _
  have in2 := delete_any V1 V3 y (.slice (some ⟨g2, 0, none⟩) (V1 ++ y :: V3).length d2) w2.heap.size Y oVY.2
  rw [HM2.out, HPL.out] at in2
  have yc1 : Y.cell? ⟨w3.heap.size, 1, none⟩ = some (.slice (some ⟨g2, 0, none⟩) mv d2) := cell_of_block yq rfl
  clear q40 f40 xc0
  go_upto_region 9 with (go_at_call 46; go_must (go_fit in2; rintro e w5 ⟨v2, rfl, hs2, gr2, own2⟩; obtain ⟨ao2, cc2, e2⟩ := hs2.shape; rw [HM4.out] at e2; subst e2; have q5 := (gr2.block _ (by omega) (by simp [Value.ownBlock]; omega)).trans yq; have q50 := cell_of_block q5 (j := 1) rfl; have f50 : w5.frozen? ⟨w3.heap.size, 1, none⟩ = false := (by simp [World.frozen?, q5])))
  have w5sz := gr2.size
  have own2' : (Value.slice ao2 m' cc2).ownBlock = some g2 := own2
  have hs15 : IsStrs w5 (.slice ao1 m' cc1) (K1 ++ K3) := hs1Y.grown gr2 (.inr (by rw [own1']; simp [Value.ownBlock]; omega))
  have b5 := (gr2.block _ (by omega) (by simp [Value.ownBlock]; omega)).trans yb
  have r5 := (gr2.block _ (by omega) (by simp [Value.ownBlock]; omega)).trans yr
  have hz5 : Below w.heap.size w w5 := hzY.grown gr2 hzY.size (fun j hj => by simp [Value.ownBlock] at hj; omega)
  obtain ⟨Z, hZ⟩ : ∃ Z, w5.setCell ⟨w3.heap.size, 1, none⟩ (.slice ao2 m' cc2) = Z := ⟨_, rfl⟩
  have zq : Z.heap[w3.heap.size]? = some (.cells #[.slice ao1 m' cc1, .slice ao2 m' cc2] 76) := by rw [← hZ]; exact set_block q5 1 _
  have zb : Z.heap[w.heap.size]? = some (.cells #[.slice (some ⟨b, off, none⟩) n cap] 52) := by rw [← hZ, Below.heap_setCell _ _ _ _ (by simp only; omega)]; exact b5
  have zr : Z.heap[w.heap.size + 1]? = some (.cells #[.slice none 0 0] 52) := by rw [← hZ, Below.heap_setCell _ _ _ _ (by simp only; omega)]; exact r5
  have hzZ : Below w.heap.size w Z := by rw [← hZ]; exact hz5.setCell (by simp only; omega) _
  have hk1 : IsStrs Z (.slice ao1 m' cc1) (K1 ++ K3) := by rw [← hZ]; exact strs_setOther hs15 (by rw [own1']; simp only [ne_eq, Option.some.injEq]; omega) _
  have hv1 : IsStrs Z (.slice ao2 m' cc2) (V1 ++ V3) := by rw [← hZ]; exact strs_setOther hs2 (by rw [own2']; simp only [ne_eq, Option.some.injEq]; omega) _
  have zlt := lt_of_block zr
  have z0 : Z.cell? ⟨w.heap.size, 0, none⟩ = some (.slice (some ⟨b, off, none⟩) n cap) := cell_of_block zb rfl
  have z1 : Z.cell? ⟨w3.heap.size, 0, none⟩ = some (.slice ao1 m' cc1) := cell_of_block zq rfl
  have z2 : Z.cell? ⟨w3.heap.size, 1, none⟩ = some (.slice ao2 m' cc2) := cell_of_block zq rfl
  clear q50 f50 fc cp g0 in1 in2 yc1 c02 c12 own1 own2 own1' own2' gr1 gr2 q4 q5 yq yb yr b5 r5 xq bb1 bb2 bb3 bb4 bbx r0 r1 r2 r3 r4 rx b0 cb0 cb1 cb2 hs1 hs2 hs15 hs1Y oK oV oV4 oVY ho1 ho2
  rw [hZ]
  by_cases h0 : m' = 0
  · subst h0
    have rw6 := rp [] Z (.slice none 0 0) hzZ (IsPages.nil Z) (by simp)
    generalize hres : A ++ [] ++ B = R at rw6
    have HRT := hid (show TT = R by rw [← HTT.out, if_pos HM3.out, hres])
    have HRR := hid hres
    clear rp hZ hres
    go_wp2_with (go_at_call 42; go_must (refine rw6.mono ?_; rintro e w6 ⟨tv', rfl, ⟨sv', rfl, hP⟩, hb6⟩; obtain ⟨ao, cc, rfl⟩ := hP.shape; have r6 := (hb6.block _ zlt).trans zr; have q6 : w6.cell? ⟨w.heap.size + 1, 0, none⟩ = some (.slice none 0 0) := cell_of_block r6 rfl; have f6 : w6.frozen? ⟨w.heap.size + 1, 0, none⟩ = false := (by simp [World.frozen?, r6])))
    refine bodyPost_ret (v := .agg #[.slice ao R.length cc]) (by simp [results, Tryz.results29, go_sem, *]) rfl ?_
    have hz : Below w.heap.size w w6 := hzZ.trans (hb6.mono hzZ.size)
    rw [HRT.out]
    refine ⟨_, R, rfl, ⟨_, rfl, pages_set hP r6 _⟩, hz.setCell (by simp) _, ?_, rfl, Nat.le_refl _⟩
    rw [← HRR.out]
    intro q hq
    simp only [List.append_nil, List.mem_append] at hq
    rcases hq with hq | hq
    · exact HOK.out.1 q hq
    · exact HOK.out.2 q hq
  · have j0 : ¬ ((m' : Int) = 0) := by omega
    obtain ⟨W5, hW5⟩ : ∃ W5, Z.alloc (.cells #[.slice ao1 m' cc1, .slice ao2 m' cc2] 76) = W5 := ⟨_, rfl⟩
    have hz5' : Below Z.heap.size Z W5 := by rw [← hW5]; exact balloc (Below.refl _ _) _
    have b5' : W5.heap[Z.heap.size]? = some (.cells #[.slice ao1 m' cc1, .slice ao2 m' cc2] 76) := by rw [← hW5]; exact block_alloc_at Z _
    have hz45 : Below w.heap.size w W5 := hzZ.trans (hz5'.mono hzZ.size)
    have rw6 := rp [⟨K1 ++ K3, V1 ++ V3⟩] W5 (.slice (some ⟨Z.heap.size, 0, none⟩) 1 1) hz45 (pages_one b5' (hk1.below hz5') (hv1.below hz5') (by decide) (by decide)) (by simp)
    generalize hres : A ++ [⟨K1 ++ K3, V1 ++ V3⟩] ++ B = R at rw6
    have HRT := hid (show TT = R by rw [← HTT.out, if_neg (by rw [HM3.out]; exact h0), hres])
    have hok : ∀ q ∈ R, q.ok := by
      rw [← hres]
      intro q hq
      simp only [List.mem_append, List.mem_cons, List.not_mem_nil, or_false] at hq
      rcases hq with (hq | rfl) | hq
      · exact HOK.out.1 q hq
      · refine ⟨?_, ?_, ?_⟩
        · simp only [HM3.out]; omega
        · simp only [HM3.out]; have := HMM.out; omega
        · simp only [HM3.out, HM4.out]
      · exact HOK.out.2 q hq
    have hRl : R.length * 48 ≤ 140737488355328 := by
      rw [← hres]; have h1 := HN.out; have h2 := HB.out; have h3 := HLs.out.1; simp only [List.length_append, List.length_cons, List.length_nil]; omega
    have ha62 : (a : Int) ≤ 4611686018427387904 := by have h1 := HN.out; omega
    have jn1 := fun tv' W (hW : IsTree W tv' R) => joined_any R tv' (a : Int) W hW hok (by omega) ha62 hRl
    have jn2 := fun T2 tv' W (hW : IsTree W tv' T2) ok2 (hle : T2.length ≤ R.length) => joined_any T2 tv' ((a : Int) - 1) W hW ok2 (by omega) (by omega) (by omega)
    have r5' := (hz5'.block _ zlt).trans zr
    have hlast5 := Nat.lt_of_lt_of_le zlt hz5'.size
    clear rp hZ hres hk1 hv1 hok
    subst hW5
    go_wp2_with (first
      | (go_at_call 42; go_must (refine rw6.mono ?_; rintro e w6 ⟨tv', rfl, ⟨sv', rfl, hP⟩, hb6⟩; obtain ⟨ao, cc, rfl⟩ := hP.shape; have r6 := (hb6.block _ hlast5).trans r5'; have l6 := Nat.lt_of_lt_of_le hlast5 hb6.size))
      | (go_at_call_of 47 (Value.agg #[.slice ao R.length cc]); go_must (refine (jn1 _ _ ⟨_, rfl, hP⟩).mono ?_; rintro e w7 ⟨tv7, T2, rfl, ⟨sv7, rfl, hP7⟩, hb7, ok7, fl7, le7⟩; obtain ⟨ao7, cc7, rfl⟩ := hP7.shape; have r7 := (hb7.block _ l6).trans r6; have l7 := Nat.lt_of_lt_of_le l6 hb7.size))
      | (go_at_call 47; go_must (refine (jn2 T2 _ _ ⟨_, rfl, hP7⟩ ok7 le7).mono ?_; rintro e w8 ⟨tv8, T3, rfl, ⟨sv8, rfl, hP8⟩, hb8, ok8, fl8, le8⟩; obtain ⟨ao8, cc8, rfl⟩ := hP8.shape; have r8 := (hb8.block _ l7).trans r7; have q8 : w8.cell? ⟨w.heap.size + 1, 0, none⟩ = some (.slice none 0 0) := cell_of_block r8 rfl; have f8 : w8.frozen? ⟨w.heap.size + 1, 0, none⟩ = false := (by simp [World.frozen?, r8]); have HFL := hid (And.intro fl7 fl8); clear fl7 fl8)))
    refine bodyPost_ret (v := .agg #[.slice ao8 T3.length cc8]) (by simp [results, Tryz.results29, go_sem, *]) rfl ?_
    have hz : Below w.heap.size w w8 := bthen (bthen (hz45.trans (hb6.mono hz45.size)) hb7) hb8
    rw [HRT.out]
    exact ⟨_, T3, rfl, ⟨_, rfl, pages_set hP8 r8 _⟩, hz.setCell (by simp) _, ok8, HFL.out.2.trans HFL.out.1, Nat.le_trans le8 le7⟩

end Go.Proofs.YtkncamggdfmlnaaGreatDoor

namespace Go.Proofs.YtkncamggdfmlnaaGreatDoor
open Go.RowKit

def DropSays (w w' : World) (e : Ending) (T : List Pg) (k : ByteArray) : Prop :=
  ∃ tv' T', e = .returned tv' ∧ IsTree w' tv' T' ∧ Below w.heap.size w w' ∧ GoodT T' ∧ flat T' = dropF (flat T) k ∧ T'.length ≤ T.length

theorem drop_none {T : List Pg} {k : ByteArray} {pg pl : Nat} (hg : GoodT T) (f : Found T k pg pl false) : dropF (flat T) k = flat T := by
  obtain ⟨F1, o, F2, c, ho⟩ := f.cut hg
  cases o with
  | some v => have := ho.2 rfl; cases this
  | none => rw [c.drop, c.eq]; simp

theorem drop_any (T : List Pg) (tv : Value) (k : ByteArray) (w : World) (h : IsTree w tv T) (hg : GoodT T) (hn : (T.length + 1) * 48 ≤ 140737488355328) :
    Calls Tryz.prog 29 #[tv, .string k] w fun e w' => DropSays w w' e T k := by
  obtain ⟨pg, pl, th, hF, fi⟩ := find_any T k hg (by omega)
  cases th with
  | false =>
    refine (drop_absent T tv k pg pl w h hg fi).mono ?_
    rintro e w' ⟨tv', he, ht, hb⟩
    exact ⟨tv', T, he, ht, hb, hg, (drop_none hg hF).symm, Nat.le_refl _⟩
  | true =>
    rcases hF with ⟨_, _, hc, _⟩ | ⟨A, p, B, K1, y, K3, rfl, hp, rfl, rfl, hA, hK, hy, hth⟩
    · cases hc
    · have hyk : y = k := of_decide_eq_true hth.symm
      subst hyk
      obtain ⟨V1, v0, V3, hV, hl1, hl3, c⟩ := found_there hg hp hA hK
      refine (drop_there A B p K1 K3 V1 V3 v0 y tv w h hg hp hV hl1 fi hn).mono ?_
      rintro e w' ⟨tv', T', he, ht, hb, ok, fl, le⟩
      have hfl : flat T' = dropF (flat (A ++ p :: B)) y := by
        rw [fl, c.drop]
        split
        · rename_i h0
          have hK1 : K1 = [] := List.eq_nil_of_length_eq_zero (by simp only [List.length_append] at h0; omega)
          have hK3 : K3 = [] := List.eq_nil_of_length_eq_zero (by simp only [List.length_append] at h0; omega)
          subst hK1
          subst hK3
          have hV1 : V1 = [] := List.eq_nil_of_length_eq_zero (by simpa using hl1)
          have hV3 : V3 = [] := List.eq_nil_of_length_eq_zero (by simpa using hl3)
          subst hV1
          subst hV3
          simp [flat_append]
        · rw [flat_append, flat_append, flat_cons, flat_nil]
          simp only
          rw [List.zip_append hl1.symm]
          simp
      refine ⟨tv', T', he, ht, hb, good_of_flat ok ?_, hfl, ?_⟩
      · rw [hfl, c.drop]
        exact c.rise_drop hg.rise
      · refine Nat.le_trans le ?_
        simp only [List.length_append, List.length_cons]
        split <;> simp <;> omega

end Go.Proofs.YtkncamggdfmlnaaGreatDoor

namespace Go.Proofs.YtkncamggdfmlnaaGreatDoor
open Go.RowKit

theorem strs_set2 {w : World} {sv : Value} {L : List ByteArray} (h : IsStrs w sv L) {g : Nat} {t : TypeId} {ao : Option Addr} {n c : Nat} (hb : w.heap[g]? = some (.cells #[.slice ao n c] t)) (v : Value) : IsStrs (w.setCell ⟨g, 0, none⟩ v) sv L := by
  rcases Nat.eq_zero_or_pos L.length with h0 | h0
  · refine ⟨h.1, ?_⟩
    rcases h.2 with h2 | ⟨h1, _⟩
    · exact .inl h2
    · omega
  · obtain ⟨b, off, cap, rfl, _, _, _, hc⟩ := h.at h0
    refine row_set h v fun e => ?_
    obtain rfl : b = g := by simpa [Value.ownBlock] using e
    obtain ⟨x, hx⟩ : ∃ x, L[0]? = some x := ⟨_, List.getElem?_eq_getElem h0⟩
    have := hc 0 x hx
    simp only [World.cell?, hb, Nat.add_zero] at this
    cases off with
    | zero => simp at this
    | succ k => simp at this
theorem Pgs.set2 {w : World} {g : Nat} {t : TypeId} {ao : Option Addr} {n c : Nat} (hb : w.heap[g]? = some (.cells #[.slice ao n c] t)) (v : Value) : ∀ {rs : List (Value × Value)} {T : List Pg}, Pgs w rs T → Pgs (w.setCell ⟨g, 0, none⟩ v) rs T
  | [], [], _ => trivial
  | _ :: _, _ :: _, h => ⟨strs_set2 h.1 hb v, strs_set2 h.2.1 hb v, Pgs.set2 hb v h.2.2⟩
theorem pages_set2 {w : World} {sv : Value} {T : List Pg} (h : IsPages w sv T) {g : Nat} {t : TypeId} {ao : Option Addr} {n c : Nat} (hb : w.heap[g]? = some (.cells #[.slice ao n c] t)) (v : Value) : IsPages (w.setCell ⟨g, 0, none⟩ v) sv T := by
  obtain ⟨rows, h1, h2⟩ := h
  refine ⟨rows, ?_, Pgs.set2 hb v h2⟩
  rcases Nat.eq_zero_or_pos T.length with h0 | h0
  · refine ⟨h1.1, ?_⟩
    rcases h1.2 with h3 | ⟨h3, _⟩
    · exact .inl h3
    · omega
  · have h1' := h1
    rcases h1.2 with ⟨h3, _⟩ | ⟨_, b, off, cap, rfl, _, _, _, hc⟩
    · omega
    · refine row_set h1' v fun e => ?_
      obtain rfl : b = g := by simpa [Value.ownBlock] using e
      have hl := h1'.1
      obtain ⟨x, hx⟩ : ∃ x, (pcells rows)[1]? = some x := ⟨_, List.getElem?_eq_getElem (by omega)⟩
      have := hc 1 x hx
      simp only [World.cell?, hb] at this
      simp at this

/-- A variable with a tree, ahead of a catalog's, a table's and a result's. -/
structure TrSt (w : World) (cv tb : Array Value) (F : PL) (n : Nat) (ao : Option Addr) (k c : Nat) (T : List Pg) (wx : World) : Prop where
  blk : wx.heap[w.heap.size]? = some (.cells #[.slice ao k c] 52)
  pgs : IsPages wx (.slice ao k c) T
  good : GoodT T
  flat : flat T = F
  len : T.length ≤ n
  cat : wx.heap[w.heap.size + 1]? = some (.cells cv 25)
  tab : wx.heap[w.heap.size + 2]? = some (.cells tb 28)
  res : wx.heap[w.heap.size + 3]? = some (.cells #[.slice none 0 0] 52)
  bel : Below w.heap.size w wx

theorem TrSt.below {w : World} {cv tb : Array Value} {F : PL} {n : Nat} {ao : Option Addr} {k c : Nat} {T : List Pg} {W V : World} (h : TrSt w cv tb F n ao k c T W) (hb : Below W.heap.size W V) : TrSt w cv tb F n ao k c T V :=
  ⟨(hb.block _ (lt_of_block h.blk)).trans h.blk, h.pgs.below hb, h.good, h.flat, h.len, (hb.block _ (lt_of_block h.cat)).trans h.cat, (hb.block _ (lt_of_block h.tab)).trans h.tab, (hb.block _ (lt_of_block h.res)).trans h.res, h.bel.trans (hb.mono h.bel.size)⟩
theorem block_set_ne {w : World} {b g : Nat} (h : b ≠ g) (j : Nat) (x : Value) : (w.setCell ⟨g, j, none⟩ x).heap[b]? = w.heap[b]? := Below.heap_setCell w ⟨g, j, none⟩ x b h
theorem TrSt.store {w : World} {cv tb : Array Value} {F F' : PL} {n n' : Nat} {ao ao' : Option Addr} {k c k' c' : Nat} {T T' : List Pg} {W V : World} (h : TrSt w cv tb F n ao k c T W) (hb : Below W.heap.size W V) (hp : IsPages V (.slice ao' k' c') T') (hg : GoodT T') (hf : Go.Proofs.YtkncamggdfmlnaaGreatDoor.flat T' = F') (hl : T'.length ≤ n') :
    TrSt w cv tb F' n' ao' k' c' T' (V.setCell ⟨w.heap.size, 0, none⟩ (.slice ao' k' c')) := by
  have hV := h.below hb
  exact ⟨by have := set_at hV.blk 0 (.slice ao' k' c'); simpa using this, pages_set2 hp hV.blk _, hg, hf, hl, (block_set_ne (by omega) _ _).trans hV.cat, (block_set_ne (by omega) _ _).trans hV.tab, (block_set_ne (by omega) _ _).trans hV.res, hV.bel.setCell (Nat.le_refl _) _⟩

/-- Four variables are laid. -/
theorem trSt_start {w : World} {ao : Option Addr} {k c : Nat} {T : List Pg} (a b d e : Value) (hp : IsPages w (.slice ao k c) T) (hg : GoodT T) :
    TrSt w #[a, b] #[d, e] (flat T) T.length ao k c T ((((w.alloc (.cells #[.slice ao k c] 52)).alloc (.cells #[a, b] 25)).alloc (.cells #[d, e] 28)).alloc (.cells #[.slice none 0 0] 52)) := by
  have b3 := (bel3 w (.cells #[.slice ao k c] 52) (.cells #[a, b] 25) (.cells #[d, e] 28))
  have b4 := b3.alloc (o := .cells #[.slice none 0 0] 52) (by simp; omega)
  refine ⟨block_alloc_of (block_alloc_of (block_alloc_of (block_alloc_at w _) _) _) _, hp.below b4, hg, rfl, Nat.le_refl _, block_alloc_of (block_alloc_of (block2 _ _ _) _) _, block_alloc_of (block3 _ _ _ _) _, ?_, b4⟩
  have := block_alloc_at (((w.alloc (.cells #[.slice ao k c] 52)).alloc (.cells #[a, b] 25)).alloc (.cells #[d, e] 28)) (.cells #[.slice none 0 0] 52)
  rwa [show (((w.alloc (.cells #[.slice ao k c] 52)).alloc (.cells #[a, b] 25)).alloc (.cells #[d, e] 28)).heap.size = w.heap.size + 3 from by simp] at this

/-- A tree is answered. -/
def TreeAns (w w' : World) (e : Ending) (F : PL) (n : Nat) : Prop := ∃ pv T, e = .returned pv ∧ IsTree w' pv T ∧ GoodT T ∧ flat T = F ∧ T.length ≤ n ∧ Below w.heap.size w w'
theorem putsE_take {F : PL} {K : List Wd} {k : Nat} {x : Wd} (h : K[k]? = some x) : putsE F (K.take (k + 1)) = putF (putsE F (K.take k)) x noW := by
  rw [List.take_add_one, h]; simp [putsE]
theorem dropsE_take {F : PL} {K : List Wd} {k : Nat} {x : Wd} (h : K[k]? = some x) : dropsE F (K.take (k + 1)) = dropF (dropsE F (K.take k)) x := by
  rw [List.take_add_one, h]; simp [dropsE]
theorem pages_shape {w : World} {sv : Value} {T : List Pg} (h : IsPages w sv T) : ∃ ao c, sv = .slice ao T.length c := by
  obtain ⟨rows, h1, _⟩ := h
  exact h1.shape
/-- Four cells, of a table's name and of a row's first value. -/
theorem put_cells {W : World} {a b o : Nat} {x0 x1 x2 x3 : Value} (h0 : W.cell? ⟨a, 0, none⟩ = some x0) (h1 : W.cell? ⟨b, o, none⟩ = some x1) (h2 : W.cell? ⟨b, o + 1, none⟩ = some x2) (h3 : W.cell? ⟨b, o + 2, none⟩ = some x3) :
    W.cell? ⟨a, 0, none⟩ = some x0 ∧ W.cell? ⟨b, o, none⟩ = some x1 ∧ W.cell? ⟨b, o + 1, none⟩ = some x2 ∧ W.cell? ⟨b, o + 2, none⟩ = some x3 := ⟨h0, h1, h2, h3⟩
theorem put_cells_set {W : World} {a b o g : Nat} {x x0 x1 x2 x3 : Value} (h : W.cell? ⟨a, 0, none⟩ = some x0 ∧ W.cell? ⟨b, o, none⟩ = some x1 ∧ W.cell? ⟨b, o + 1, none⟩ = some x2 ∧ W.cell? ⟨b, o + 2, none⟩ = some x3) (ha : a ≠ g) (hb : b ≠ g) :
    (W.setCell ⟨g, 0, none⟩ x).cell? ⟨a, 0, none⟩ = some x0 ∧ (W.setCell ⟨g, 0, none⟩ x).cell? ⟨b, o, none⟩ = some x1 ∧ (W.setCell ⟨g, 0, none⟩ x).cell? ⟨b, o + 1, none⟩ = some x2 ∧ (W.setCell ⟨g, 0, none⟩ x).cell? ⟨b, o + 2, none⟩ = some x3 :=
  ⟨(cell_set_ne ha _ _ _).trans h.1, (cell_set_ne hb _ _ _).trans h.2.1, (cell_set_ne hb _ _ _).trans h.2.2.1, (cell_set_ne hb _ _ _).trans h.2.2.2⟩

end Go.Proofs.YtkncamggdfmlnaaGreatDoor

