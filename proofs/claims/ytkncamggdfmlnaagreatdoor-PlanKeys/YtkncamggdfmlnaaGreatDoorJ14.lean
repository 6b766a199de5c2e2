/-
  2 texts of this proof in one, in build order: TPutEnd, TPutAny.
-/
import Derived.Test.YtkncamggdfmlnaaGreatDoorJ13
attribute [local go_sem ↓] Go.wp_at_zero Go.wp_at_succ
namespace Go.Proofs.YtkncamggdfmlnaaGreatDoor
open Go.RowKit

set_option maxHeartbeats 4000000 in
/-- A key behind all others. -/
theorem put_end (A B : List Pg) (p : Pg) (K1 K2 V1 V2 : List ByteArray) (k v : ByteArray) (tv : Value) (w : World) (h : IsTree w tv (A ++ p :: B)) (hg : GoodT (A ++ p :: B)) (hK : p.K = K1 ++ K2) (hV : p.V = V1 ++ V2) (hl : V1.length = K1.length)
    (fi : FindIs (A ++ p :: B) k (A ++ p :: B).length 0 false) (hB : B = []) (hK2 : K2 = []) (hn : ((A ++ p :: B).length + 1) * 48 ≤ 140737488355328) :
    Calls Tryz.prog 27 #[tv, .string k, .string v] w fun e w' => ∃ tv', e = .returned tv' ∧ IsTree w' tv' (A ++ halfs ⟨K1 ++ k :: K2, V1 ++ v :: V2⟩ ++ B) ∧ Below w.heap.size w w' := by
  have gc := fun W (hW : Below w.heap.size w W) => good_yes (A ++ p :: B) tv W (h.below hW) hg
  have fc := fun W (hW : Below w.heap.size w W) => fi tv W (h.below hW)
  have ht0 := h
  obtain ⟨sv, rfl, hs⟩ := h
  have hpi : (A ++ p :: B)[A.length]? = some p := by simp
  obtain ⟨b, off, cap, rfl, hbl, hcap, hcm, hT⟩ := hs.at (by simp <;> omega)
  obtain ⟨kv, vv, c0, c1, hk, hv⟩ := hT _ p hpi
  have hpk := hg.1 p (by simp)
  have cp := fun W (hW : Below w.heap.size w W) => copied_any p kv vv W (hk.below hW) (hv.below hW) (by have := hpk.1; omega) (by have := hpk.2.1; omega) hpk.2.2
  obtain ⟨ka, kc, rfl⟩ := hk.shape
  obtain ⟨va, vc, rfl⟩ := hv.shape
  have hlt : A.length < (A ++ p :: B).length := by simp
  have hlB : (A ++ p :: B).length = A.length + 1 + B.length := by simp; omega
  generalize hW0 : (w.alloc (.cells #[.slice (some ⟨b, off, none⟩) (A ++ p :: B).length cap] 52)).alloc (.cells #[.slice none 0 0] 52) = W0
  have hB0 : Below w.heap.size w W0 := by rw [← hW0]; exact ((Below.refl _ w).alloc (Nat.le_refl _) _).alloc (by simp) _
  have hs0 : W0.heap.size = w.heap.size + 1 + 1 := by rw [← hW0]; simp
  have b0 : W0.heap[w.heap.size]? = some (.cells #[.slice (some ⟨b, off, none⟩) (A ++ p :: B).length cap] 52) := by rw [← hW0]; exact block_alloc_of (block_alloc_at w _) _
  have r0 : W0.heap[w.heap.size + 1]? = some (.cells #[.slice none 0 0] 52) := by
    rw [← hW0]; have := block_alloc_at (w.alloc (.cells #[.slice (some ⟨b, off, none⟩) (A ++ p :: B).length cap] 52)) (.cells #[.slice none 0 0] 52)
    rwa [World.size_alloc] at this
  have cb0 := cell_of_block b0 (j := 0) rfl
  have hA : w.heap.size < W0.heap.size := by omega
  have hA' : w.heap.size + 1 < W0.heap.size := by omega
  have g0 := gc _ hB0
  have hBl : B.length = 0 := by rw [hB]; rfl
  clear hB
  have hPl : (halfs ⟨K1 ++ k :: K2, V1 ++ v :: V2⟩).length ≤ 2 := by unfold halfs; split <;> simp
  have rp := fun W pv (hW : Below w.heap.size w W) (hp : IsPages W pv (halfs ⟨K1 ++ k :: K2, V1 ++ v :: V2⟩)) => replaced_any A [p] B (halfs ⟨K1 ++ k :: K2, V1 ++ v :: V2⟩) _ pv (A.length + 1) W (ht0.below hW) hp (by simp) (by simp) (by omega)
  have hvk := hpk.2.2
  have HV := hid hV
  have HK := hid hK
  have HL := hid hl
  clear hV hK hT hs gc fi hg ht0 hk hv hpi hcap
  generalize hHf : halfs ⟨K1 ++ k :: K2, V1 ++ v :: V2⟩ = HP at *
  generalize hres : A ++ HP ++ B = R at *
  generalize hal : A.length = a at *
  generalize hnl : (A ++ p :: B).length = n at *
  generalize hkl : V1.length = pl at *
  generalize hpl : p.K.length = m at *
  generalize hml : p.V.length = mv at *
  unfold maxLen at hcm
  have i0 : (0 : Int) ≤ (a : Int) := by omega
  have i1 : (a : Int) < (n : Int) := by omega
  have i2 : ¬ ((n : Int) = 0) := by omega
  have i3 : (n : Int) - 1 = (a : Int) := by omega
  have i9 : (n : Int) ≤ 1000000000000000 := by omega
  have i10 : (1 : Int) ≤ (n : Int) := by omega
  have HME := hid (show pl = m by have := hpl; rw [HK.out, hK2, List.append_nil] at this; omega)
  clear hK2 hBl
  have i4 : (0 : Int) ≤ (pl : Int) := by omega
  have i6 : IntKind.i64.wrap ((a : Int) + 1) = ((a + 1 : Nat) : Int) := by rw [IntKind.wrap_i64]; omega
  have HPL := hid hkl
  have HVK := hid hvk
  have HR := hid hres
  have HLs := hid (And.intro hal (And.intro hnl (And.intro hl (And.intro hpl hml))))
  clear hlB hres hal hnl hpl hml hn hlt hvk hPl hkl hl
  go_enter Tryz.func27, Tryz.ntmps27
  go_upto_region 13 with (first
    | (go_at_call 39; go_must (go_fit g0; rintro e w1 ⟨rfl, hb1⟩; have cb1 := (hb1.cell (p := ⟨w.heap.size, 0, none⟩) hA).trans cb0; have hbz := hB0.trans (hb1.mono hB0.size); have hZ1 := Nat.lt_of_lt_of_le hA hb1.size; have hZ1' := Nat.lt_of_lt_of_le hA' hb1.size; have bb1 := (hb1.block _ hA).trans b0; have r1 := (hb1.block _ hA').trans r0))
    | (go_at_call 40; go_must (go_fit (fc _ hbz); rintro e w2 ⟨rfl, hb2⟩; have cb2 := (hb2.cell (p := ⟨w.heap.size, 0, none⟩) hZ1).trans cb1; have hbz2 := hbz.trans (hb2.mono hbz.size); have c02 := (hbz2.cell (p := ⟨b, off + a * 2, none⟩) hbl).trans c0; have c12 := (hbz2.cell (p := ⟨b, off + a * 2 + 1, none⟩) hbl).trans c1; have hZ2 := Nat.lt_of_lt_of_le hZ1 hb2.size; have hZ2' := Nat.lt_of_lt_of_le hZ1' hb2.size; have bb2 := (hb2.block _ hZ1).trans bb1; have r2 := (hb2.block _ hZ1').trans r1))
    | (go_at_call 41; go_must (go_fit (cp _ hbz2); rintro e w3 ⟨g1, d1, g2, d2, rfl, ho1, ho2, hgg, hb3⟩; have cb3 := (hb3.cell (p := ⟨w.heap.size, 0, none⟩) hZ2).trans cb2; have hbz3 := hbz2.trans (hb3.mono hbz2.size); have hZ3 := Nat.lt_of_lt_of_le hZ2 hb3.size; have hZ3' := Nat.lt_of_lt_of_le hZ2' hb3.size; have bb3 := (hb3.block _ hZ2).trans bb2; have r3 := (hb3.block _ hZ2').trans r2)))
  have hg1B : w.heap.size + 1 < g1 := Nat.lt_of_lt_of_le hZ2' ho1.1
  have hg1l := ho1.lt
  have hg2l := ho2.lt
  obtain ⟨X1, hX1⟩ : ∃ X1, (w3.alloc (.cells #[.slice (some ⟨g1, 0, none⟩) m d1, .slice (some ⟨g2, 0, none⟩) mv d2] 76)).alloc (.cells #[.string k] 9) = X1 := ⟨_, rfl⟩
  have hx1 : Below w3.heap.size w3 X1 := by rw [← hX1]; exact ((Below.refl _ _).alloc (Nat.le_refl _) _).alloc (by simp) _
  have hxs : X1.heap.size = w3.heap.size + 1 + 1 := by rw [← hX1]; simp
  have xq : X1.heap[w3.heap.size]? = some (.cells #[.slice (some ⟨g1, 0, none⟩) m d1, .slice (some ⟨g2, 0, none⟩) mv d2] 76) := by rw [← hX1]; exact block_alloc_of (block_alloc_at w3 _) _
  have xk : X1.heap[w3.heap.size + 1]? = some (.cells #[.string k] 9) := by
    rw [← hX1]; have := block_alloc_at (w3.alloc (.cells #[.slice (some ⟨g1, 0, none⟩) m d1, .slice (some ⟨g2, 0, none⟩) mv d2] 76)) (.cells #[.string k] 9)
    rwa [World.size_alloc] at this
  have oK : OwnStrs X1 w2.heap.size g1 d1 (K1 ++ K2) := by have := ho1.below hx1; rwa [HK.out] at this
  have oV : OwnStrs X1 w2.heap.size g2 d2 (V1 ++ V2) := by have := ho2.below hx1; rwa [HV.out] at this
  have hm1 : (K1 ++ K2).length = m := by rw [← HK.out]; exact HLs.out.2.2.2.1
  have hm2 : (V1 ++ V2).length = mv := by rw [← HV.out]; exact HLs.out.2.2.2.2
  have in1 := insert_any K1 K2 k (.slice (some ⟨g1, 0, none⟩) (K1 ++ K2).length d1) w2.heap.size (w3.heap.size + 1) 1 X1 oK.2 (by have := hpk.1; rw [HK.out] at this; omega) (by have := hpk.2.1; rw [HK.out] at this; omega) xk (by simp [Value.ownBlock]; omega)
  rw [hm1, ← HLs.out.2.2.1, HME.out] at in1
  have HM3 := hid (show (K1 ++ k :: K2).length = m + 1 by rw [← hm1]; simp <;> omega)
  have HM4 := hid (show (V1 ++ v :: V2).length = mv + 1 by rw [← hm2]; simp <;> omega)
  have HM1 := hid hm1
  have HM2 := hid hm2
  clear hm1 hm2
  have bbx := (hx1.block _ hZ3).trans bb3
  have rx := (hx1.block _ hZ3').trans r3
  clear cb3
  go_upto_region 14 with (go_at_call 43; go_must (go_fit in1; rintro e w4 ⟨v1, rfl, hs1, gr1, own1⟩; obtain ⟨ao1, cc1, e1⟩ := hs1.shape; rw [HM3.out] at e1; subst e1; have q4 : w4.heap[w3.heap.size]? = some (.cells #[.slice (some ⟨g1, 0, none⟩) m d1, .slice (some ⟨g2, 0, none⟩) mv d2] 76) := (gr1.block _ (by omega) (by simp [Value.ownBlock]; omega)).trans xq; have q40 := cell_of_block q4 (j := 0) rfl; have f40 : w4.frozen? ⟨w3.heap.size, 0, none⟩ = false := (by simp [World.frozen?, q4])))
  have bb4 : w4.heap[w.heap.size]? = some (.cells #[.slice (some ⟨b, off, none⟩) n cap] 52) := (gr1.block _ (by omega) (by simp [Value.ownBlock]; omega)).trans bbx
  have r4 : w4.heap[w.heap.size + 1]? = some (.cells #[.slice none 0 0] 52) := (gr1.block _ (by omega) (by simp [Value.ownBlock]; omega)).trans rx
  have oV4 : OwnStrs w4 w2.heap.size g2 d2 (V1 ++ V2) := oV.grown (r := g1) gr1 (by omega)
  obtain ⟨Y, hY⟩ : ∃ Y, w4.setCell ⟨w3.heap.size, 0, none⟩ (.slice ao1 (m + 1) cc1) = Y := ⟨_, rfl⟩
  have yq : Y.heap[w3.heap.size]? = some (.cells #[.slice ao1 (m + 1) cc1, .slice (some ⟨g2, 0, none⟩) mv d2] 76) := by rw [← hY]; exact set_block q4 0 _
  have yb : Y.heap[w.heap.size]? = some (.cells #[.slice (some ⟨b, off, none⟩) n cap] 52) := by rw [← hY, Below.heap_setCell _ _ _ _ (by simp only; omega)]; exact bb4
  have yr : Y.heap[w.heap.size + 1]? = some (.cells #[.slice none 0 0] 52) := by rw [← hY, Below.heap_setCell _ _ _ _ (by simp only; omega)]; exact r4
  have ysz : Y.heap.size = w4.heap.size := by rw [← hY]; simp [World.setCell]
  have oVY : OwnStrs Y w2.heap.size g2 d2 (V1 ++ V2) := by rw [← hY]; exact oV4.setOther (by omega) _
  have hs1Y : IsStrs Y (.slice ao1 (m + 1) cc1) (K1 ++ k :: K2) := by rw [← hY]; exact strs_setOther hs1 (strs_ne hs1 (by rw [HM3.out]; omega) q4) _
  have w4sz := gr1.size
  have hzY : Below w.heap.size w Y := by
    have hzx : Below w.heap.size w X1 := hbz3.trans (hx1.mono hbz3.size)
    have hz4 : Below w.heap.size w w4 := hzx.grown gr1 hzx.size (fun j hj => by simp [Value.ownBlock] at hj; omega)
    rw [← hY]; exact hz4.setCell (by simp only; omega) _
  have hb2' : v1ne ao1 (m + 1) cc1 g2 := by
    unfold v1ne
    rcases own1 with e | ⟨bb, e, hbb⟩
    · rw [e]; simp [Value.ownBlock]; omega
    · rw [e]; simp; omega
  obtain ⟨X2, hX2⟩ : ∃ X2, Y.alloc (.cells #[.string v] 9) = X2 := ⟨_, rfl⟩
  have hx2 : Below Y.heap.size Y X2 := by rw [← hX2]; exact (Below.refl _ _).alloc (Nat.le_refl _) _
  have x2s : X2.heap.size = w4.heap.size + 1 := by rw [← hX2, World.size_alloc, ysz]
  have xv : X2.heap[w4.heap.size]? = some (.cells #[.string v] 9) := by rw [← hX2, ← ysz]; exact block_alloc_at Y _
  have in2 := insert_any V1 V2 v (.slice (some ⟨g2, 0, none⟩) (V1 ++ V2).length d2) w2.heap.size w4.heap.size 1 X2 (oVY.below hx2).2 (by rw [HM2.out, HVK.out]; have := hpk.1; rw [HLs.out.2.2.2.1] at this; omega) (by rw [HM2.out, HVK.out]; have := hpk.2.1; rw [HLs.out.2.2.2.1] at this; omega) xv (by simp [Value.ownBlock]; omega)
  rw [HM2.out, HPL.out, HME.out] at in2
  have x2q := (hx2.block _ (by omega)).trans yq
  have x2b := (hx2.block _ (by omega)).trans yb
  have x2r := (hx2.block _ (by omega)).trans yr
  have yc1 := cell_of_block yq (j := 1) rfl
  clear q40 f40
  go_upto_region 15 with (go_at_call 43; go_must (go_fit in2; rintro e w5 ⟨v2, rfl, hs2, gr2, own2⟩; obtain ⟨ao2, cc2, e2⟩ := hs2.shape; rw [HM4.out] at e2; subst e2; have q5 := (gr2.block _ (by omega) (by simp [Value.ownBlock]; omega)).trans x2q; have q50 := cell_of_block q5 (j := 1) rfl; have f50 : w5.frozen? ⟨w3.heap.size, 1, none⟩ = false := (by simp [World.frozen?, q5])))
  have w5sz := gr2.size
  have hs15 : IsStrs w5 (.slice ao1 (m + 1) cc1) (K1 ++ k :: K2) := (hs1Y.below hx2).grown gr2 (.inr hb2')
  have b5 := (gr2.block _ (by omega) (by simp [Value.ownBlock]; omega)).trans x2b
  have r5 := (gr2.block _ (by omega) (by simp [Value.ownBlock]; omega)).trans x2r
  have hz5 : Below w.heap.size w w5 := (hzY.trans (hx2.mono hzY.size)).grown gr2 (by have := hzY.size; omega) (fun j hj => by simp [Value.ownBlock] at hj; omega)
  generalize hZ : w5.setCell ⟨w3.heap.size, 1, none⟩ (.slice ao2 (mv + 1) cc2) = Z
  have zq : Z.heap[w3.heap.size]? = some (.cells #[.slice ao1 (m + 1) cc1, .slice ao2 (mv + 1) cc2] 76) := by rw [← hZ]; exact set_block q5 1 _
  have zb : Z.heap[w.heap.size]? = some (.cells #[.slice (some ⟨b, off, none⟩) n cap] 52) := by rw [← hZ, Below.heap_setCell _ _ _ _ (by simp only; omega)]; exact b5
  have zr : Z.heap[w.heap.size + 1]? = some (.cells #[.slice none 0 0] 52) := by rw [← hZ, Below.heap_setCell _ _ _ _ (by simp only; omega)]; exact r5
  have hzZ : Below w.heap.size w Z := by rw [← hZ]; exact hz5.setCell (by simp only; omega) _
  have hk1 : IsStrs Z (.slice ao1 (m + 1) cc1) (K1 ++ k :: K2) := by rw [← hZ]; exact strs_setOther hs15 (strs_ne hs15 (by rw [HM3.out]; omega) q5) _
  have hv1 : IsStrs Z (.slice ao2 (mv + 1) cc2) (V1 ++ v :: V2) := by rw [← hZ]; exact strs_setOther hs2 (strs_ne hs2 (by rw [HM4.out]; omega) q5) _
  have zlt := lt_of_block zr
  have zltq := lt_of_block zq
  have hvw := halves_any ⟨K1 ++ k :: K2, V1 ++ v :: V2⟩ _ _ Z.drew (hk1.below (Below.refl _ _).drew) (hv1.below (Below.refl _ _).drew) (by simp only; rw [HM3.out]; have := hpk.2.1; rw [HLs.out.2.2.2.1] at this; omega) (by simp only; rw [HM3.out, HM4.out, HVK.out])
  rw [hHf] at hvw
  have z0 := cell_of_block zb (j := 0) rfl
  have z1 := cell_of_block zq (j := 0) rfl
  have z2 := cell_of_block zq (j := 1) rfl
  have hne1 : ∀ i j, (⟨w.heap.size + 1, i, none⟩ : Addr) ≠ ⟨w.heap.size, j, none⟩ := fun i j h => by simp at h
  have hne2 : ∀ i j, (⟨w.heap.size + 1, i, none⟩ : Addr) ≠ ⟨w3.heap.size, j, none⟩ := fun i j h => by simp only [Addr.mk.injEq] at h; omega
  have zz0 : w.heap.size < Z.drew.heap.size := Nat.lt_of_succ_lt zlt
  have zz1 : w3.heap.size < Z.drew.heap.size := zltq
  have zz2 : w.heap.size + 1 < Z.drew.heap.size := zlt
  clear hZ q50 f50 fc cp g0 in1 in2 yc1 c02 c12 hHf own1 own2 gr1 gr2 q4 q5 yq yb yr x2q x2b x2r b5 r5 xq xk xv bb1 bb2 bb3 bb4 bbx r0 r1 r2 r3 r4 rx b0 cb0 cb1 cb2 hs1 hs2 hs15 hs1Y oK oV oV4 oVY ho1 ho2
  go_region_held3 (fun w' => w'.cell? ⟨w.heap.size, 0, none⟩ = some (.slice (some ⟨b, off, none⟩) n cap) ∧ w'.cell? ⟨w3.heap.size, 0, none⟩ = some (.slice ao1 (m + 1) cc1) ∧ w'.cell? ⟨w3.heap.size, 1, none⟩ = some (.slice ao2 (mv + 1) cc2))
    (first | exact ⟨(World.cell?_setCell_other _ _ _ _ (hne1 _ _)).trans s02, (World.cell?_setCell_other _ _ _ _ (hne2 _ _)).trans s12, (World.cell?_setCell_other _ _ _ _ (hne2 _ _)).trans s22⟩ | exact ⟨s02, s12, s22⟩ | exact ⟨s01, s11, s21⟩ | exact ⟨z0, z1, z2⟩)
    (first
      | (go_at_call 44; refine hvw.mono ?_; rintro e w6 ⟨pv, rfl, hP6, hb6⟩; obtain ⟨po, pc, rfl⟩ := hP6.shape; obtain ⟨hcc, hff⟩ := bcell hb6; have s01 := (hcc _ _ zz0).trans z0; have s11 := (hcc _ _ zz1).trans z1; have s21 := (hcc _ _ zz1).trans z2; have hz6 : Below w.heap.size w w6 := hzZ.drew.trans (hb6.mono (show w.heap.size ≤ Z.drew.heap.size from hzZ.size)); have r6 : w6.heap[w.heap.size + 1]? = some (.cells #[.slice none 0 0] 52) := (hb6.block _ zz2).trans zr; have y0 := Nat.lt_of_lt_of_le zz0 hb6.size; have y1 := Nat.lt_of_lt_of_le zz1 hb6.size; have y2 := Nat.lt_of_lt_of_le zz2 hb6.size; clear hcc hff)
      | (go_at_call 42; refine (rp _ _ hz6 hP6).mono ?_; rintro e w7 ⟨tv', rfl, ⟨sv', rfl, hP⟩, hb7⟩; obtain ⟨ao, cc, rfl⟩ := hP.shape; obtain ⟨hcc, hff⟩ := bcell hb7; have s02 := (hcc _ _ y0).trans s01; have s12 := (hcc _ _ y1).trans s11; have s22 := (hcc _ _ y1).trans s21; have r7 := (hb7.block _ y2).trans r6; have q7 : w7.cell? ⟨w.heap.size + 1, 0, none⟩ = some (.slice none 0 0) := cell_of_block r7 rfl; have f7 : w7.frozen? ⟨w.heap.size + 1, 0, none⟩ = false := (by simp [World.frozen?, r7]); clear hcc hff))
  go_wp2
  refine bodyPost_ret (v := .agg #[.slice ao R.length cc]) (by simp [results, Tryz.results27, go_sem, *]) rfl ?_
  have hz : Below w.heap.size w w7 := hz6.trans (hb7.mono hz6.size)
  exact ⟨_, rfl, ⟨_, rfl, pages_set hP r7 _⟩, hz.setCell (by simp) _⟩

end Go.Proofs.YtkncamggdfmlnaaGreatDoor

namespace Go.Proofs.YtkncamggdfmlnaaGreatDoor
open Go.RowKit

set_option maxHeartbeats 2000000 in
theorem put_not (T : List Pg) (tv : Value) (k v : ByteArray) (w : World) (h : IsTree w tv T) (hg : ¬ GoodT T) :
    Calls Tryz.prog 27 #[tv, .string k, .string v] w fun e w' => ∃ tv', e = .returned tv' ∧ IsTree w' tv' T ∧ Below w.heap.size w w' := by
  have gc := fun W (hW : Below w.heap.size w W) => good_no T tv W (h.below hW) hg
  obtain ⟨sv, rfl, hs⟩ := h
  obtain ⟨so, scap, rfl⟩ := hs.shape
  have HS := hid hs
  clear hs hg
  generalize T.length = n at *
  generalize hW0 : (w.alloc (.cells #[.slice so n scap] 52)).alloc (.cells #[.slice none 0 0] 52) = W0
  have hB0 : Below w.heap.size w W0 := by rw [← hW0]; exact ((Below.refl _ w).alloc (Nat.le_refl _) _).alloc (by simp) _
  have hs0 : W0.heap.size = w.heap.size + 1 + 1 := by rw [← hW0]; simp
  have b0 : W0.heap[w.heap.size]? = some (.cells #[.slice so n scap] 52) := by rw [← hW0]; exact block_alloc_of (block_alloc_at w _) _
  have r0 : W0.heap[w.heap.size + 1]? = some (.cells #[.slice none 0 0] 52) := by
    rw [← hW0]; have := block_alloc_at (w.alloc (.cells #[.slice so n scap] 52)) (.cells #[.slice none 0 0] 52)
    rwa [World.size_alloc] at this
  have cb0 := cell_of_block b0 (j := 0) rfl
  have hA : w.heap.size < W0.heap.size := by omega
  have hA' : w.heap.size + 1 < W0.heap.size := by omega
  have g0 := gc _ hB0
  go_enter Tryz.func27, Tryz.ntmps27
  go_wp2_with (go_at_call 39; go_must (go_fit g0; rintro e w1 ⟨rfl, hb1⟩; have cb1 : w1.cell? ⟨w.heap.size, 0, none⟩ = some (.slice so n scap) := cell_of_block ((hb1.block _ hA).trans b0) rfl; have r1 := (hb1.block _ hA').trans r0; have q1 : w1.cell? ⟨w.heap.size + 1, 0, none⟩ = some (.slice none 0 0) := cell_of_block r1 rfl; have f1 : w1.frozen? ⟨w.heap.size + 1, 0, none⟩ = false := (by simp [World.frozen?, r1])))
  refine bodyPost_ret (v := .agg #[.slice so n scap]) (by simp [results, Tryz.results27, go_sem, *]) rfl ?_
  have hz : Below w.heap.size w w1 := hB0.trans (hb1.mono hB0.size)
  exact ⟨_, rfl, ⟨_, rfl, pages_set (HS.out.below hz) r1 _⟩, hz.setCell (by simp) _⟩

set_option maxHeartbeats 2000000 in
theorem put_empty (tv : Value) (k v : ByteArray) (w : World) (h : IsTree w tv []) :
    Calls Tryz.prog 27 #[tv, .string k, .string v] w fun e w' => ∃ tv', e = .returned tv' ∧ IsTree w' tv' [⟨[k], [v]⟩] ∧ Below w.heap.size w w' := by
  have gc := fun W (hW : Below w.heap.size w W) => good_yes [] tv W (h.below hW) ⟨by simp, by simp [keysT, Rise]⟩
  obtain ⟨sv, rfl, hs⟩ := h
  obtain ⟨so, scap, rfl⟩ := hs.shape
  change ∀ W, Below w.heap.size w W → Calls Tryz.prog 39 #[.agg #[.slice so 0 scap]] W _ at gc
  clear hs
  generalize hW0 : (w.alloc (.cells #[.slice so 0 scap] 52)).alloc (.cells #[.slice none 0 0] 52) = W0
  have hB0 : Below w.heap.size w W0 := by rw [← hW0]; exact ((Below.refl _ w).alloc (Nat.le_refl _) _).alloc (by simp) _
  have hs0 : W0.heap.size = w.heap.size + 1 + 1 := by rw [← hW0]; simp
  have b0 : W0.heap[w.heap.size]? = some (.cells #[.slice so 0 scap] 52) := by rw [← hW0]; exact block_alloc_of (block_alloc_at w _) _
  have r0 : W0.heap[w.heap.size + 1]? = some (.cells #[.slice none 0 0] 52) := by
    rw [← hW0]; have := block_alloc_at (w.alloc (.cells #[.slice so 0 scap] 52)) (.cells #[.slice none 0 0] 52)
    rwa [World.size_alloc] at this
  have cb0 := cell_of_block b0 (j := 0) rfl
  have hA : w.heap.size < W0.heap.size := by omega
  have hA' : w.heap.size + 1 < W0.heap.size := by omega
  have g0 := gc _ hB0
  go_enter Tryz.func27, Tryz.ntmps27
  go_wp2_with (go_at_call 39; go_must (go_fit g0; rintro e w1 ⟨rfl, hb1⟩; have cb1 : w1.cell? ⟨w.heap.size, 0, none⟩ = some (.slice so 0 scap) := cell_of_block ((hb1.block _ hA).trans b0) rfl; have r1 := (hb1.block _ hA').trans r0; have q1 : w1.cell? ⟨w.heap.size + 1, 0, none⟩ = some (.slice none 0 0) := cell_of_block r1 rfl; have f1 : w1.frozen? ⟨w.heap.size + 1, 0, none⟩ = false := (by simp [World.frozen?, r1]); have hl1 := lt_of_block r1; obtain ⟨W2, hW2⟩ : ∃ W2, ((w1.alloc (.cells #[.string k] 9)).alloc (.cells #[.string v] 9)).alloc (.cells #[.slice (some ⟨w1.heap.size, 0, none⟩) 1 1, .slice (some ⟨w1.heap.size + 1, 0, none⟩) 1 1] 76) = W2 := ⟨_, rfl⟩; have hz2 : Below w1.heap.size w1 W2 := (by rw [← hW2]; exact (((Below.refl _ w1).alloc (Nat.le_refl _) _).alloc (by simp) _).alloc (by simp; omega) _); have r2 := (hz2.block _ hl1).trans r1; have q2 : W2.cell? ⟨w.heap.size + 1, 0, none⟩ = some (.slice none 0 0) := cell_of_block r2 rfl; have f2 : W2.frozen? ⟨w.heap.size + 1, 0, none⟩ = false := (by simp [World.frozen?, r2])))
  have hz : Below w.heap.size w w1 := hB0.trans (hb1.mono hB0.size)
  have hzz : Below w.heap.size w W2 := hz.trans (hz2.mono hz.size)
  have e1 : W2.heap[w1.heap.size]? = some (.cells #[.string k] 9) := by rw [← hW2]; exact block_alloc_of (block_alloc_of (block_alloc_at w1 _) _) _
  have e2 : W2.heap[w1.heap.size + 1]? = some (.cells #[.string v] 9) := by
    rw [← hW2]; refine block_alloc_of ?_ _
    have := block_alloc_at (w1.alloc (.cells #[.string k] 9)) (.cells #[.string v] 9)
    rwa [World.size_alloc] at this
  have e3 : W2.heap[w1.heap.size + 1 + 1]? = some (.cells #[.slice (some ⟨w1.heap.size, 0, none⟩) 1 1, .slice (some ⟨w1.heap.size + 1, 0, none⟩) 1 1] 76) := by
    rw [← hW2]
    have := block_alloc_at ((w1.alloc (.cells #[.string k] 9)).alloc (.cells #[.string v] 9)) (.cells #[.slice (some ⟨w1.heap.size, 0, none⟩) 1 1, .slice (some ⟨w1.heap.size + 1, 0, none⟩) 1 1] 76)
    rwa [World.size_alloc, World.size_alloc] at this
  have one : ∀ {g : Nat} {x : ByteArray}, W2.heap[g]? = some (.cells #[.string x] 9) → IsStrs W2 (.slice (some ⟨g, 0, none⟩) 1 1) [x] := fun {g x} hb =>
    ⟨by simp, .inr ⟨by simp, g, 0, 1, rfl, lt_of_block hb, by simp, by decide, fun j u hj => by rw [Nat.zero_add]; exact cell_of_block hb (by simpa using hj)⟩⟩
  refine bodyPost_ret (v := .agg #[.slice (some ⟨w1.heap.size + 1 + 1, 0, none⟩) 1 1]) (by simp [results, Tryz.results27, go_sem, *]) rfl ?_
  exact ⟨_, rfl, ⟨_, rfl, pages_set (pages_one (p := ⟨[k], [v]⟩) e3 (one e1) (one e2) (by decide) (by decide)) r2 _⟩, hzz.setCell (by simp) _⟩

theorem halfs_flat (p : Pg) (hl : p.V.length = p.K.length) : flat (halfs p) = p.K.zip p.V := by
  unfold halfs
  split
  · simp [flat]
  · rw [flat_cons, flat_cons, flat_nil, List.append_nil]
    simp only
    rw [← List.zip_append (by simp; omega), List.take_append_drop, List.take_append_drop]

theorem halfs_ok (p : Pg) (h1 : 1 ≤ p.K.length) (h5 : p.K.length ≤ 5) (hl : p.V.length = p.K.length) : ∀ q ∈ halfs p, q.ok := by
  unfold halfs
  intro q hq
  split at hq
  · rename_i h4
    obtain rfl : q = p := by simpa using hq
    exact ⟨h1, h4, hl⟩
  · rename_i h4
    simp only [List.mem_cons, List.not_mem_nil, or_false] at hq
    rcases hq with rfl | rfl
    · refine ⟨?_, ?_, ?_⟩ <;> simp <;> omega
    · refine ⟨?_, ?_, ?_⟩ <;> simp <;> omega

/-- A key that is not there: what stands around it. -/
theorem cut_not {A B : List Pg} {p : Pg} {K1 K2 V1 V2 : List ByteArray} {k : ByteArray} (hg : GoodT (A ++ p :: B)) (hp : p.K = K1 ++ K2) (hv : p.V = V1 ++ V2) (hl : V1.length = K1.length) (hA : ∀ x ∈ keysT A, klt x k = true) (hK : ∀ x ∈ K1, klt x k = true) (hK2 : ∀ x ∈ K2, klt k x = true) (hB : ∀ x ∈ keysT B, klt k x = true) :
    Cut (flat (A ++ p :: B)) k (flat A ++ K1.zip V1) none (K2.zip V2 ++ flat B) := by
  have hAo : ∀ q ∈ A, q.ok := fun q hq => hg.1 q (by simp [hq])
  have hBo : ∀ q ∈ B, q.ok := fun q hq => hg.1 q (by simp [hq])
  refine ⟨?_, ?_, ?_⟩
  · rw [flat_append, flat_cons, hp, hv, List.zip_append hl.symm]
    simp
  · intro x hx
    rcases List.mem_append.1 hx with hx | hx
    · exact hA _ (by rw [← keys_flat hAo]; exact List.mem_map.2 ⟨x, hx, rfl⟩)
    · exact hK _ (List.of_mem_zip hx).1
  · intro x hx
    rcases List.mem_append.1 hx with hx | hx
    · exact hK2 _ (List.of_mem_zip hx).1
    · exact hB _ (by rw [← keys_flat hBo]; exact List.mem_map.2 ⟨x, hx, rfl⟩)

/-- What Put has made is good, and has what it must. -/
theorem put_good {A B M : List Pg} {p : Pg} {k v : ByteArray} {F1 F2 : List (ByteArray × ByteArray)} {o : Option ByteArray} (hg : GoodT (A ++ p :: B)) (c : Cut (flat (A ++ p :: B)) k F1 o F2) (hM : ∀ q ∈ M, q.ok) (hf : flat (A ++ M ++ B) = F1 ++ (k, v) :: F2) : GoodT (A ++ M ++ B) ∧ flat (A ++ M ++ B) = putF (flat (A ++ p :: B)) k v := by
  refine ⟨good_of_flat ?_ (by rw [hf]; exact c.rise_put hg.rise v), by rw [hf, c.put]⟩
  intro q hq
  simp only [List.append_assoc, List.mem_append] at hq
  rcases hq with hq | hq | hq
  · exact hg.1 q (by simp [hq])
  · exact hM q hq
  · exact hg.1 q (by simp [hq])

/-- What is told of Put. -/
def PutSays (w w' : World) (e : Ending) (T : List Pg) (k v : ByteArray) : Prop :=
  ∃ tv' T', e = .returned tv' ∧ IsTree w' tv' T' ∧ Below w.heap.size w w' ∧ GoodT T' ∧ flat T' = putF (flat T) k v ∧ T'.length ≤ T.length + 1

/-- tree.Put of a good tree. -/
theorem put_any (T : List Pg) (tv : Value) (k v : ByteArray) (w : World) (h : IsTree w tv T) (hg : GoodT T) (hn : (T.length + 1) * 48 ≤ 140737488355328) :
    Calls Tryz.prog 27 #[tv, .string k, .string v] w fun e w' => PutSays w w' e T k v := by
  rcases Nat.eq_zero_or_pos T.length with h0 | h0
  · obtain rfl := List.eq_nil_of_length_eq_zero h0
    refine (put_empty tv k v w h).mono ?_
    rintro e w' ⟨tv', he, ht, hb⟩
    have h1 : ∀ q ∈ ([⟨[k], [v]⟩] : List Pg), q.ok := by
      intro q hq
      obtain rfl : q = _ := List.mem_singleton.1 hq
      exact ⟨by simp, by simp, rfl⟩
    exact ⟨tv', _, he, ht, hb, ⟨h1, by simp [keysT, Rise]⟩, by simp [flat, putF], by simp⟩
  · obtain ⟨pg, pl, th, hF, fi⟩ := find_any T k hg (by omega)
    rcases hF with ⟨rfl, rfl, rfl, hall⟩ | ⟨A, p, B, K1, y, K3, rfl, hp, rfl, rfl, hA, hK, hy, rfl⟩
    · obtain ⟨A, p, rfl⟩ : ∃ A p, T = A ++ [p] := ⟨T.dropLast, T.getLast (by rintro rfl; simp at h0), (List.dropLast_concat_getLast _).symm⟩
      have hok := hg.1 p (by simp)
      have hkk : ∀ x ∈ keysT A, klt x k = true := fun x hx => hall x (by rw [keysT_append]; exact List.mem_append_left _ hx)
      have hkp : ∀ x ∈ p.K, klt x k = true := fun x hx => hall x (by rw [keysT_append]; exact List.mem_append_right _ (by simpa [keysT] using hx))
      have c := cut_not (B := []) (K2 := []) (V2 := []) (V1 := p.V) hg (List.append_nil _).symm (List.append_nil _).symm hok.2.2 hkk hkp (by simp) (by simp [keysT])
      refine (put_end A [] p p.K [] p.V [] k v tv w h hg (List.append_nil _).symm (List.append_nil _).symm hok.2.2 fi rfl rfl hn).mono ?_
      rintro e w' ⟨tv', he, ht, hb⟩
      have hM := halfs_ok ⟨p.K ++ [k], p.V ++ [v]⟩ (by simp) (by simp; exact hok.2.1) (by simp; exact hok.2.2)
      have hq := put_good (M := halfs ⟨p.K ++ [k], p.V ++ [v]⟩) (v := v) hg c hM (by
        rw [flat_append, flat_append, halfs_flat _ (by simp; exact hok.2.2)]
        simp only
        rw [List.zip_append hok.2.2.symm]
        simp [flat])
      refine ⟨tv', _, he, ht, hb, hq.1, hq.2, ?_⟩
      have : (halfs ⟨p.K ++ [k], p.V ++ [v]⟩).length ≤ 2 := by unfold halfs; split <;> simp
      simp only [List.length_append, List.length_cons, List.length_nil]
      omega
    · have hok := hg.1 p (by simp)
      by_cases hyk : y = k
      · subst hyk
        obtain ⟨V1, v0, V3, hV, hl1, hl3, c⟩ := found_there hg hp hA hK
        have fi' : FindIs (A ++ p :: B) y A.length K1.length true := by simpa using fi
        refine (put_there A B p K1 K3 V1 V3 v0 y v tv w h hg (by rw [hp]; simp; omega) hV hl1 fi' hn).mono ?_
        rintro e w' ⟨tv', he, ht, hb⟩
        have hq := put_good (M := [⟨p.K, V1 ++ v :: V3⟩]) (v := v) hg c (by
          intro q hq
          obtain rfl : q = _ := by simpa using hq
          refine ⟨hok.1, hok.2.1, ?_⟩
          have := hok.2.2
          rw [hV] at this
          simpa using this) (by
          rw [flat_append, flat_append, flat_cons, flat_nil, hp]
          simp only
          rw [List.zip_append hl1.symm]
          simp)
        exact ⟨tv', _, he, ht, hb, hq.1, hq.2, by simp⟩
      · have hky : klt k y = true := by
          rcases klt_tri hy with e | e
          · exact absurd e hyk
          · exact e
        have fi' : FindIs (A ++ p :: B) k A.length K1.length false := by simpa [hyk] using fi
        have hr := hg.2
        rw [keysT_append, keysT_cons, hp] at hr
        have hr2 := (rise_append.1 hr).2.1
        rw [List.append_assoc] at hr2
        have hr3 := (rise_append.1 hr2).2.1
        rw [Rise, List.cons_append, List.pairwise_cons] at hr3
        have hk2 : ∀ x ∈ y :: K3, klt k x = true := by
          intro x hx
          rcases List.mem_cons.1 hx with rfl | hx
          · exact hky
          · exact klt_trans hky (hr3.1 x (List.mem_append_left _ hx))
        have hkB : ∀ x ∈ keysT B, klt k x = true := fun x hx => klt_trans hky (hr3.1 x (List.mem_append_right _ hx))
        have hvl := hok.2.2
        have hlv : K1.length ≤ p.V.length := by rw [hvl, hp]; simp
        have hV : p.V = p.V.take K1.length ++ p.V.drop K1.length := (List.take_append_drop _ _).symm
        have hl1 : (p.V.take K1.length).length = K1.length := by simp; omega
        have c := cut_not hg hp hV hl1 hA hK hk2 hkB
        refine (put_insert A B p K1 (y :: K3) (p.V.take K1.length) (p.V.drop K1.length) k v tv w h hg hp hV hl1 fi' hn).mono ?_
        rintro e w' ⟨tv', he, ht, hb⟩
        have hkl : (K1 ++ k :: y :: K3).length = p.K.length + 1 := by rw [hp]; simp; omega
        have hvl2 : (p.V.take K1.length ++ v :: p.V.drop K1.length).length = p.V.length + 1 := by simp; omega
        have hM := halfs_ok ⟨K1 ++ k :: y :: K3, p.V.take K1.length ++ v :: p.V.drop K1.length⟩ (by simp only; omega) (by simp only; have := hok.2.1; omega) (by simp only; omega)
        have hq := put_good (M := halfs ⟨K1 ++ k :: y :: K3, p.V.take K1.length ++ v :: p.V.drop K1.length⟩) (v := v) hg c hM (by
          rw [flat_append, flat_append, halfs_flat _ (by simp only; omega)]
          simp only
          rw [List.zip_append hl1.symm]
          simp)
        refine ⟨tv', _, he, ht, hb, hq.1, hq.2, ?_⟩
        have : (halfs ⟨K1 ++ k :: y :: K3, p.V.take K1.length ++ v :: p.V.drop K1.length⟩).length ≤ 2 := by unfold halfs; split <;> simp
        simp only [List.length_append, List.length_cons]
        omega

end Go.Proofs.YtkncamggdfmlnaaGreatDoor

