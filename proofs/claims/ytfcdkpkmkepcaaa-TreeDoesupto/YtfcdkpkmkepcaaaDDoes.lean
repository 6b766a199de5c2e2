/-
  The walk of the statement TreeDoes: tree's answers are the document's.
-/
import Derived.Test.YtfcdkpkmkepcaaaDGen
namespace Go.Proofs.Ytfcdkpkmkepcaaa
open Go.RowKit

set_option maxHeartbeats 40000000 in
set_option maxRecDepth 100000 in
theorem treeDoes_gen (gb : Bool) (T : List Pg) (tv : Value) (k v hi : ByteArray) (w : World) (hgb : gb = true ↔ GoodT T) (h : IsTree w tv T) (hn : T.length ≤ 1048576) (hsh : Short T) :
    Calls Try.prog 7 #[tv, .string k, .string v, .string hi] w fun e w' => e = .returned (.bool true) ∧ Below w.heap.size w w' := by
  have pgc := fun W (hW : Below w.heap.size w W) => pages_any T tv W (h.below hW) hn hsh
  have flt := fun W (hW : Below w.heap.size w W) => flatOf_gen hgb tv W (h.below hW) (by omega)
  have ht0 := hid h
  have HSH := hid hsh
  have HGB := hid hgb
  obtain ⟨sv, rfl, hs⟩ := h
  obtain ⟨so, sc, rfl⟩ := hs.shape
  have HS := hid hs
  clear hs hsh hgb
  have HTL := hid (rfl : T.length = T.length)
  have gtc := fun W tvc (hW : IsTree W tvc T) => get_gen HGB.out tvc k W hW (by omega)
  have rgc := fun W tvc (hW : IsTree W tvc T) => range_gen HGB.out tvc k hi W hW hn
  have ptc := fun W tvc (hW : IsTree W tvc T) => put_gen HGB.out tvc k v W hW hn
  have dpc := fun W tvc (hW : IsTree W tvc T) => drop_gen HGB.out tvc k W hW hn
  generalize hnl : T.length = n at *
  have HNL := hid hnl
  clear hnl HTL
  obtain ⟨W0, hW0⟩ : ∃ W0, w.alloc (.cells #[.slice so n sc] 39) = W0 := ⟨_, rfl⟩
  have hB0 : Below w.heap.size w W0 := by rw [← hW0]; exact balloc (Below.refl _ _) _
  have b0 : W0.heap[w.heap.size]? = some (.cells #[.slice so n sc] 39) := by rw [← hW0]; exact block_alloc_at w _
  have ct0 : W0.cell? ⟨w.heap.size, 0, none⟩ = some (.slice so n sc) := cell_of_block b0 rfl
  have l0 := lt_of_block b0
  go_enter Try.func7, Try.ntmps7
  go_upto_region 5 with (first
    | (go_at_call 22; go_must (refine (pgc _ hB0).mono ?_; rintro e wa ⟨tvc, rfl, ⟨svc, rfl, hPc0⟩, hba⟩; obtain ⟨co, cc, ec⟩ := hPc0.shape; rw [HNL.out] at ec; subst ec; obtain ⟨Wb, hWb⟩ : ∃ Wb, wa.alloc (.cells #[.slice co n cc] 39) = Wb := ⟨_, rfl⟩; have hbb : Below wa.heap.size wa Wb := (by rw [← hWb]; exact balloc (Below.refl _ _) _); have bc : Wb.heap[wa.heap.size]? = some (.cells #[.slice co n cc] 39) := (by rw [← hWb]; exact block_alloc_at wa _); have hPc : IsPages Wb (.slice co n cc) T := hPc0.below hbb; have ctb : Wb.cell? ⟨w.heap.size, 0, none⟩ = some (.slice so n sc) := cell_of_block ((hbb.block _ (Nat.lt_of_lt_of_le l0 hba.size)).trans ((hba.block _ l0).trans b0)) rfl; have bt : Wb.heap[w.heap.size]? = some (.cells #[.slice so n sc] 39) := (hbb.block _ (Nat.lt_of_lt_of_le l0 hba.size)).trans ((hba.block _ l0).trans b0); have ccb : Wb.cell? ⟨wa.heap.size, 0, none⟩ = some (.slice co n cc) := cell_of_block bc rfl; have hzb : Below w.heap.size w Wb := (hB0.trans (hba.mono hB0.size)).trans (hbb.mono (Nat.le_trans hB0.size hba.size)); have lc := lt_of_block bc; have lt := lt_of_block bt; have kb : ∀ W, Below Wb.heap.size Wb W → (W.cell? ⟨wa.heap.size, 0, none⟩ = some (.slice co n cc) ∧ W.cell? ⟨w.heap.size, 0, none⟩ = some (.slice so n sc)) := (fun W hW => ⟨(hW.cell (p := ⟨wa.heap.size, 0, none⟩) lc).trans ccb, (hW.cell (p := ⟨w.heap.size, 0, none⟩) lt).trans ctb⟩); have tc : ∀ W, Below Wb.heap.size Wb W → IsTree W (.agg #[.slice co n cc]) T := (fun W hW => ⟨_, rfl, hPc.below hW⟩)))
    | (go_at_call 23; go_must (refine (flt _ hzb).mono ?_; rintro e wf ⟨fo, fn, fc, rfl, hbf, HF⟩; obtain ⟨ccf, ctf⟩ := kb _ hbf))
    | (go_at_call 24; go_must (refine (gtc _ _ (tc _ hbf)).mono ?_; rintro e wg ⟨gs, gi, rfl, hbg0, HGT⟩; have hbg := bthen hbf hbg0; obtain ⟨ccg, ctg⟩ := kb _ hbg))
    | (go_at_call 25; go_must (refine (rgc _ _ (tc _ hbg)).mono ?_; rintro e Wd ⟨ko, kc, vo, vc, rl, rfl, hbd0, HRG⟩; have hbd := bthen hbg hbd0; obtain ⟨cd, ctd⟩ := kb _ hbd)))
  have ks : ∀ W, Below Wd.heap.size Wd W → W.cell? ⟨wa.heap.size, 0, none⟩ = some (.slice co n cc) := fun W hW => (kb _ (bthen hbd hW)).1
  have pc := fun W (hW : Below Wd.heap.size Wd W) => ptc W _ (tc W (bthen hbd hW))
  have dc := fun W (hW : Below Wd.heap.size Wd W) => dpc W _ (tc W (bthen hbd hW))
  clear ccf ctf ccg ctg ccb ctb ct0 hWb hW0 pgc flt gtc rgc ptc dpc
  go_cut [16, 17] from 29 (fun s16 s17 wx => ∃ pa pb x1 c1 T1 x2 c2 T2, s16 = .pointer (some ⟨pa, 0, none⟩) ∧ s17 = .pointer (some ⟨pb, 0, none⟩) ∧ TwoTrees Wd wx pa pb (.slice x1 T1.length c1) T1 (.slice x2 T2.length c2) T2 ∧ Hid (((gb = true → GoodT T1 ∧ flat T1 = putF (flat T) k v ∧ T1.length ≤ n + 1) ∧ (gb = false → T1 = T)) ∧ ((gb = true → GoodT T2 ∧ flat T2 = dropF (flat T) k ∧ T2.length ≤ n) ∧ (gb = false → T2 = T))))
  case first =>
    clear cd hPc HS
    go_region_held3 (fun w' => w'.cell? ⟨wa.heap.size, 0, none⟩ = some (.slice co n cc))
      (with_reducible first | exact ks _ (hz2) | exact ks _ (balloc hz2 _) | exact ks _ (balloc (balloc hz2 _) _) | exact ks _ (hz1) | exact ks _ (balloc hz1 _) | exact ks _ (balloc (balloc hz1 _) _) | exact ks _ ((Below.refl _ _).drew) | exact ks _ ((balloc (Below.refl _ _) _).drew) | exact ks _ ((balloc (balloc (Below.refl _ _) _) _).drew) | exact ks _ (bset hz2 (by simp only; omega) _) | exact ks _ (bset (bset hz2 (by simp only; omega) _) (by simp only; omega) _) | exact ks _ (bset (balloc hz2 _) (by simp only; omega) _) | exact ks _ (bset (balloc (balloc hz2 _) _) (by simp only; omega) _) | exact ks _ (balloc (bset hz2 (by simp only; omega) _) _) | go_keep)
      (first
        | (go_at_call 26; refine (pc _ (by with_reducible first | exact (Below.refl _ _).drew | exact (balloc (Below.refl _ _) _).drew | exact (balloc (balloc (Below.refl _ _) _) _).drew)).mono ?_; rintro e w1 ⟨tv1, T1, rfl, ⟨sv1, rfl, hP1⟩, hb1, H1⟩; obtain ⟨x1, c1, rfl⟩ := hP1.shape; have hz1 : Below Wd.heap.size Wd w1 := bthen (by with_reducible first | exact (Below.refl _ _).drew | exact (balloc (Below.refl _ _) _).drew | exact (balloc (balloc (Below.refl _ _) _) _).drew) hb1; have hs1 := hb1.size; simp only [World.size_alloc, size_drew] at hs1; have hs1l := hz1.size)
        | (go_at_call 27; refine (dc _ (by with_reducible first | exact hz1 | exact balloc hz1 _ | exact balloc (balloc hz1 _) _)).mono ?_; rintro e w2 ⟨tv2, T2, rfl, ⟨sv2, rfl, hP2⟩, hb2, H2⟩; obtain ⟨x2, c2, rfl⟩ := hP2.shape; have hz2 : Below Wd.heap.size Wd w2 := bthen (by with_reducible first | exact hz1 | exact balloc hz1 _ | exact balloc (balloc hz1 _) _) hb2; have hP1' : IsPages w2 (.slice x1 T1.length c1) T1 := (by with_reducible first | exact hP1.below hb2 | exact (hP1.below (balloc (Below.refl _ _) _)).below hb2 | exact (hP1.below (balloc (balloc (Below.refl _ _) _) _)).below hb2); have hs2 := hb2.size; (try simp only [World.size_alloc] at hs2); (first | (have pA : w2.heap[Wd.heap.size]? = some (.cells #[.slice none 0 0] 39) := (by with_reducible first | exact (hb2.block _ (by first | omega | (simp only [World.size_alloc]; omega))).trans ((hb1.block _ (by first | (rw [size_drew, size_a2]; omega) | (rw [size_drew, size_a1]; omega))).trans (block_drew (block_alloc_is (by with_reducible first | exact rfl | exact size_a1 _ _ | exact size_a2 _ _ _) _))) | exact (hb2.block _ (by first | omega | (simp only [World.size_alloc]; omega))).trans ((hb1.block _ (by first | (rw [size_drew, size_a2]; omega) | (rw [size_drew, size_a1]; omega))).trans (block_drew (block_alloc_of (block_alloc_is (by with_reducible first | exact rfl | exact size_a1 _ _ | exact size_a2 _ _ _) _) _))) | exact (hb2.block _ (by first | omega | (simp only [World.size_alloc]; omega))).trans (block_alloc_of ((hb1.block _ (by first | (rw [size_drew, size_a2]; omega) | (rw [size_drew, size_a1]; omega))).trans (block_drew (block_alloc_is (by with_reducible first | exact rfl | exact size_a1 _ _ | exact size_a2 _ _ _) _))) _) | exact (hb2.block _ (by first | omega | (simp only [World.size_alloc]; omega))).trans (block_alloc_of ((hb1.block _ (by first | (rw [size_drew, size_a2]; omega) | (rw [size_drew, size_a1]; omega))).trans (block_drew (block_alloc_of (block_alloc_is (by with_reducible first | exact rfl | exact size_a1 _ _ | exact size_a2 _ _ _) _) _))) _)); have pA0 : w2.cell? ⟨Wd.heap.size, 0, none⟩ = some (.slice none 0 0) := cell_of_block pA rfl; have pAf : w2.frozen? ⟨Wd.heap.size, 0, none⟩ = false := (by simp [World.frozen?, pA]); have pAl : Wd.heap.size < w2.heap.size := lt_of_block pA) | skip); (first | (have pB : w2.heap[Wd.heap.size + 1]? = some (.cells #[.slice none 0 0] 39) := (by with_reducible first | exact (hb2.block _ (by first | omega | (simp only [World.size_alloc]; omega))).trans ((hb1.block _ (by first | (rw [size_drew, size_a2]; omega) | (rw [size_drew, size_a1]; omega))).trans (block_drew (block_alloc_is (by with_reducible first | exact rfl | exact size_a1 _ _ | exact size_a2 _ _ _) _))) | exact (hb2.block _ (by first | omega | (simp only [World.size_alloc]; omega))).trans (block_alloc_of ((hb1.block _ (by first | (rw [size_drew, size_a2]; omega) | (rw [size_drew, size_a1]; omega))).trans (block_drew (block_alloc_is (by with_reducible first | exact rfl | exact size_a1 _ _ | exact size_a2 _ _ _) _))) _)); have pB0 : w2.cell? ⟨Wd.heap.size + 1, 0, none⟩ = some (.slice none 0 0) := cell_of_block pB rfl; have pBf : w2.frozen? ⟨Wd.heap.size + 1, 0, none⟩ = false := (by simp [World.frozen?, pB]); have pBl : Wd.heap.size + 1 < w2.heap.size := lt_of_block pB) | skip); (first | (have pC : w2.heap[w1.heap.size]? = some (.cells #[.slice none 0 0] 39) := (by with_reducible first | exact (hb2.block _ (by first | omega | (simp only [World.size_alloc]; omega))).trans (block_alloc_is (by with_reducible first | exact rfl | exact size_a1 _ _ | exact size_a2 _ _ _) _) | exact (hb2.block _ (by first | omega | (simp only [World.size_alloc]; omega))).trans (block_alloc_of (block_alloc_is (by with_reducible first | exact rfl | exact size_a1 _ _ | exact size_a2 _ _ _) _) _)); have pC0 : w2.cell? ⟨w1.heap.size, 0, none⟩ = some (.slice none 0 0) := cell_of_block pC rfl; have pCf : w2.frozen? ⟨w1.heap.size, 0, none⟩ = false := (by simp [World.frozen?, pC]); have pCl : w1.heap.size < w2.heap.size := lt_of_block pC) | skip); (first | (have pD : w2.heap[w1.heap.size + 1]? = some (.cells #[.slice none 0 0] 39) := (by with_reducible first | exact (hb2.block _ (by first | omega | (simp only [World.size_alloc]; omega))).trans (block_alloc_is (by with_reducible first | exact rfl | exact size_a1 _ _ | exact size_a2 _ _ _) _)); have pD0 : w2.cell? ⟨w1.heap.size + 1, 0, none⟩ = some (.slice none 0 0) := cell_of_block pD rfl; have pDf : w2.frozen? ⟨w1.heap.size + 1, 0, none⟩ = false := (by simp [World.frozen?, pD]); have pDl : w1.heap.size + 1 < w2.heap.size := lt_of_block pD) | skip); (try have hne1 : ¬ (w1.heap.size = Wd.heap.size) := (by omega)); (try have hne2 : ¬ (Wd.heap.size = w1.heap.size) := (by omega))))
    all_goals go_wp2_with fail
    all_goals go_meet
    all_goals
      refine ⟨_, _, x1, c1, T1, x2, c2, T2, rfl, rfl, ?_, hid ⟨H1.out, H2.out⟩⟩
      with_reducible first
        | exact tt_new hP1' hP2 hz2
        | exact tt_new' hP1' hP2 hz2
        | exact tt_half hP1' hP2 hz2 pA (by omega)
        | exact tt_half hP1' hP2 hz2 pB (by omega)
        | exact tt_half hP1' hP2 hz2 pC (by omega)
        | exact tt_half hP1' hP2 hz2 pD (by omega)
        | exact tt_half' hP1' hP2 hz2 pA (by omega)
        | exact tt_half' hP1' hP2 hz2 pB (by omega)
        | exact tt_half' hP1' hP2 hz2 pC (by omega)
        | exact tt_half' hP1' hP2 hz2 pD (by omega)
        | exact tt_both hP1' hP2 hz2 pA pB (by omega) (by omega) (by omega)
        | exact tt_both hP1' hP2 hz2 pA pC (by omega) (by omega) (by omega)
        | exact tt_both hP1' hP2 hz2 pA pD (by omega) (by omega) (by omega)
        | exact tt_both hP1' hP2 hz2 pB pA (by omega) (by omega) (by omega)
        | exact tt_both hP1' hP2 hz2 pB pC (by omega) (by omega) (by omega)
        | exact tt_both hP1' hP2 hz2 pB pD (by omega) (by omega) (by omega)
        | exact tt_both hP1' hP2 hz2 pC pA (by omega) (by omega) (by omega)
        | exact tt_both hP1' hP2 hz2 pC pB (by omega) (by omega) (by omega)
        | exact tt_both hP1' hP2 hz2 pC pD (by omega) (by omega) (by omega)
        | exact tt_both hP1' hP2 hz2 pD pA (by omega) (by omega) (by omega)
        | exact tt_both hP1' hP2 hz2 pD pB (by omega) (by omega) (by omega)
        | exact tt_both hP1' hP2 hz2 pD pC (by omega) (by omega) (by omega)
  case rest =>
    obtain ⟨pa, pb, x1, c1, T1, x2, c2, T2, rfl, rfl, ⟨hpa, hpb, hP1, hP2, hbx⟩, HH⟩ := hcut
    have hzx : Below Wb.heap.size Wb wc := bthen hbd hbx
    have hzw : Below w.heap.size w wc := hzb.trans (hzx.mono hzb.size)
    obtain ⟨ccx, ctx⟩ := kb _ hzx
    have lpa := lt_of_block hpa
    have lpb := lt_of_block hpb
    have lcx := Nat.lt_of_lt_of_le lc hzx.size
    have ltx := Nat.lt_of_lt_of_le lt hzx.size
    have cax : wc.cell? ⟨pa, 0, none⟩ = some (.slice x1 T1.length c1) := cell_of_block hpa rfl
    have cbx : wc.cell? ⟨pb, 0, none⟩ = some (.slice x2 T2.length c2) := cell_of_block hpb rfl
    have kx : ∀ W, Below wc.heap.size wc W → (W.cell? ⟨pa, 0, none⟩ = some (.slice x1 T1.length c1) ∧ W.cell? ⟨pb, 0, none⟩ = some (.slice x2 T2.length c2) ∧ W.cell? ⟨wa.heap.size, 0, none⟩ = some (.slice co n cc) ∧ W.cell? ⟨w.heap.size, 0, none⟩ = some (.slice so n sc)) := fun W hW =>
      ⟨(hW.cell (p := ⟨pa, 0, none⟩) lpa).trans cax, (hW.cell (p := ⟨pb, 0, none⟩) lpb).trans cbx, (hW.cell (p := ⟨wa.heap.size, 0, none⟩) lcx).trans ccx, (hW.cell (p := ⟨w.heap.size, 0, none⟩) ltx).trans ctx⟩
    have tcx : ∀ W, Below wc.heap.size wc W → IsTree W (.agg #[.slice co n cc]) T := fun W hW => tc W (bthen hzx hW)
    have ttx : ∀ W, Below wc.heap.size wc W → IsTree W (.agg #[.slice so n sc]) T := fun W hW => ht0.out.below (hzw.trans (hW.mono hzw.size))
    have gdc := fun W hW => good_gen HGB.out (.agg #[.slice co n cc]) W (tcx W hW)
    have smc := fun W hW => sameTree_any T (.agg #[.slice co n cc]) (.agg #[.slice so n sc]) W (tcx W hW) (ttx W hW) (by rw [HNL.out]; omega) HSH.out
    have z0 := Below.refl wc.heap.size wc
    clear pc dc ks cd ctd kb tc hPc hba hbb bt bc b0 hPc0
    cases gb with
    | false =>
      have e1 : T1 = T := HH.out.1.2 rfl
      have e2 : T2 = T := HH.out.2.2 rfl
      have e3 : gi = false := HGT.out.2 rfl
      have e4 : rl = 0 := HRG.out.2 rfl
      subst e1
      subst e2
      subst e3
      subst e4
      rw [HNL.out] at hP1 hP2 cax cbx kx
      have smx := fun W (hW : Below wc.heap.size wc W) => sameTree_any _ (.agg #[.slice x1 n c1]) (.agg #[.slice so n sc]) W ⟨_, rfl, hP1.below hW⟩ (ttx W hW) (by rw [HNL.out]; omega) HSH.out
      have smy := fun W (hW : Below wc.heap.size wc W) => sameTree_any _ (.agg #[.slice x2 n c2]) (.agg #[.slice so n sc]) W ⟨_, rfl, hP2.below hW⟩ (ttx W hW) (by rw [HNL.out]; omega) HSH.out
      clear hP1 hP2 HH
      go_wp2_with (first
        | (go_at_call 28; go_fit (gdc _ z0); rintro e q1 ⟨rfl, b1⟩; have z1 : Below wc.heap.size wc q1 := bthen z0 b1; obtain ⟨ca1, cb1, cc1, ct1⟩ := kx _ z1)
        | (go_at_call 29; go_fit (smc _ z1); rintro e q2 ⟨rfl, b2⟩; have z2 : Below wc.heap.size wc q2 := bthen z1 b2; obtain ⟨ca2, cb2, cc2, ct2⟩ := kx _ z2)
        | (go_at_call 30; go_fit (treesLaw_any _); rintro e q3 ⟨rfl, b3⟩; have z3 : Below wc.heap.size wc q3 := bthen z2 b3; obtain ⟨ca3, cb3, cc3, ct3⟩ := kx _ z3)
        | (go_at_call 29; go_fit (smx _ z3); rintro e q4 ⟨rfl, b4⟩; have z4 : Below wc.heap.size wc q4 := bthen z3 b4; obtain ⟨ca4, cb4, cc4, ct4⟩ := kx _ z4)
        | (go_at_call 29; go_fit (smy _ z4); rintro e q5 ⟨rfl, b5⟩; have z5 : Below wc.heap.size wc q5 := bthen z4 b5))
      go_ret
      exact ⟨rfl, hzw.trans (z5.mono hzw.size)⟩
    | true =>
      have hg : GoodT T := HGB.out.1 rfl
      obtain ⟨⟨hg1, hf1, hl1⟩, ⟨hg2, hf2, hl2⟩⟩ := And.intro (HH.out.1.1 rfl) (HH.out.2.1 rfl)
      obtain ⟨efn, hpf⟩ := HF.out rfl
      obtain ⟨egs, egi⟩ := HGT.out.1 rfl
      obtain ⟨erl, hrk, hrv⟩ := HRG.out.1 rfl
      have fx := fun W (hW : Below wc.heap.size wc W) => flatOf_gen (gb := true) (T := T1) ⟨fun _ => hg1, fun _ => rfl⟩ (.agg #[.slice x1 T1.length c1]) W ⟨_, rfl, hP1.below hW⟩ (by omega)
      have fy := fun W (hW : Below wc.heap.size wc W) => flatOf_gen (gb := true) (T := T2) ⟨fun _ => hg2, fun _ => rfl⟩ (.agg #[.slice x2 T2.length c2]) W ⟨_, rfl, hP2.below hW⟩ (by omega)
      have szc := fun W (hW : Below wc.heap.size wc W) => size_any T (.agg #[.slice co n cc]) W (tcx W hW) (by have := length_keys hg.1; have := HNL.out; omega)
      have hNb : (flat T).length ≤ 4194304 := by have h1 := length_flat hg.1; have h2 := length_keys hg.1; have h3 := HNL.out; omega
      rw [← length_flat hg.1] at szc
      have hpfd : IsPairs wc (.slice fo fn fc) (flat T) := ((hpf.below hbg0).below hbd0).below hbx
      have HRK := hid (hrk.below hbx)
      have HRV := hid (hrv.below hbx)
      have HRI := hid hg.rise
      have HPF := hid hpfd
      have hrn : rng T k hi = (flat T).filter (rq k hi) := rfl
      rw [hrn] at erl HRK HRV
      have HEL := hid erl
      have HEG := hid (And.intro egs egi)
      have HF12 := hid (And.intro hf1 hf2)
      clear hrn hpf hpfd hrk hrv hg1 hg2 hf1 hf2 hl1 hl2 hP1 hP2 HH HF HGT HRG hg tcx ttx erl egs egi
      generalize hFl : flat T = F at *
      clear hFl
      subst efn
      generalize hFN : F.length = N at *
      have HFN := hid hFN
      clear hFN
      generalize T1.length = n1 at *
      generalize T2.length = n2 at *
      go_wp2_with (first
        | (go_at_call 28; go_fit (gdc _ z0); rintro e q1 ⟨rfl, b1⟩; have z1 : Below wc.heap.size wc q1 := bthen z0 b1; obtain ⟨ca1, cb1, cc1, ct1⟩ := kx _ z1)
        | (go_at_call 29; go_fit (smc _ z1); rintro e q2 ⟨rfl, b2⟩; have z2 : Below wc.heap.size wc q2 := bthen z1 b2; obtain ⟨ca2, cb2, cc2, ct2⟩ := kx _ z2)
        | (go_at_call 30; go_fit (treesLaw_any _); rintro e q3 ⟨rfl, b3⟩; have z3 : Below wc.heap.size wc q3 := bthen z2 b3; obtain ⟨ca3, cb3, cc3, ct3⟩ := kx _ z3)
        | (go_at_call 23; go_fit (fx _ z3); rintro e q4 ⟨ao, an, ac, rfl, b4, HA⟩; have z4 : Below wc.heap.size wc q4 := bthen z3 b4; obtain ⟨ca4, cb4, cc4, ct4⟩ := kx _ z4)
        | (go_at_call 23; go_fit (fy _ z4); rintro e q5 ⟨bo, bn, bc, rfl, b5, HB⟩; have z5 : Below wc.heap.size wc q5 := bthen z4 b5))
      obtain ⟨i0, hii, hz0', hz1', hz2'⟩ := info_parts info_pair
      have HPF5 := hid (HPF.out.below z5)
      go_loopw [22, 23, 24, 101] (fun a b z i wr => ∃ (j : Nat) (Rs : Prs) (ws : ByteArray) (wt : Bool), j ≤ N ∧ a = .string ws ∧ b = .bool wt ∧ i = .int .i64 j ∧ Rs.length ≤ j ∧ wr.ownsRow q5.heap.size 54 2 z Rs.length (prcells Rs) ∧ Below q5.heap.size q5 wr ∧ Hid (ws = (getF (F.take j) k).getD ⟨#[]⟩ ∧ wt = (getF (F.take j) k).isSome ∧ Rs = (F.take j).filter (rq k hi))) (fun _ _ _ i _ => N - (intOf i).toNat)
      case atStart => exact ⟨0, [], ⟨#[]⟩, false, Nat.zero_le _, rfl, rfl, rfl, by simp, World.ownsRow_nil _ _ _ _, Below.refl _ _, hid ⟨by simp [getF], by simp [getF], by simp⟩⟩
      case round =>
        obtain ⟨j, Rs, ws, wt, hj, rfl, rfl, rfl, hRl, hown, hbel, HW⟩ := hrel
        have hsz := hbel.size
        by_cases hlt : j < N
        · obtain ⟨⟨s, u⟩, hsu⟩ : ∃ x, F[j]? = some x := ⟨_, List.getElem?_eq_getElem (by rw [HFN.out]; omega)⟩
          obtain ⟨fb, ff, rfl, _, a0, a1⟩ := pairs_at (HPF5.out.below hbel) hsu
          have j0 : (0 : Int) ≤ (j : Int) := by omega
          have j1 : (j : Int) < (N : Int) := by omega
          simp only at a0 a1
          have HGT2 := hid (get_take (k := k) HRI.out hsu)
          have HST := hid (drop_take (rq k hi) hsu)
          clear hsu
          cases he : (s.toList == k.toList)
          · have hne : s ≠ k := by rintro rfl; simp at he
            have HNE := hid hne
            clear hne
            cases hc : klt s k
            · have hc' : Op.bytesLess s.toList k.toList = false := hc
              cases hd : klt s hi
              · have hd' : Op.bytesLess s.toList hi.toList = false := hd
                have HX := hid (show ws = (getF (F.take (j + 1)) k).getD ⟨#[]⟩ ∧ wt = (getF (F.take (j + 1)) k).isSome ∧ Rs = (F.take (j + 1)).filter (rq k hi) from by
                  rw [HGT2.out, if_neg HNE.out, HST.out]; simp only [rq, hd, Bool.and_false]; exact ⟨HW.out.1, HW.out.2.1, by rw [HW.out.2.2]; simp⟩)
                clear hc hd
                go_wp2
                go_roundw
                case rel => exact ⟨j + 1, Rs, ws, wt, by omega, rfl, rfl, by go_num, by omega, hown.alloc _, hbel.alloc hsz _, HX⟩
                case measure => simp [intOf]; omega
              · have hd' : Op.bytesLess s.toList hi.toList = true := hd
                have HX := hid (show ws = (getF (F.take (j + 1)) k).getD ⟨#[]⟩ ∧ wt = (getF (F.take (j + 1)) k).isSome ∧ Rs ++ [(s, u)] = (F.take (j + 1)).filter (rq k hi) from by
                  rw [HGT2.out, if_neg HNE.out, HST.out]; simp only [rq, hc, hd, Bool.not_false, Bool.and_self, if_true]; exact ⟨HW.out.1, HW.out.2.1, by rw [HW.out.2.2]⟩)
                clear hc hd
                have hB1 : Below q5.heap.size q5 ((wr.alloc (.cells #[.string s, .string u] 54)).alloc (.cells #[.string s, .string u] 54)) := (hbel.alloc hsz _).alloc (by rw [World.size_alloc]; omega) _
                have hown2 := (hown.alloc (.cells #[.string s, .string u] 54)).alloc (.cells #[.string s, .string u] 54)
                have hbase : q5.heap.size ≤ ((wr.alloc (.cells #[.string s, .string u] 54)).alloc (.cells #[.string s, .string u] 54)).heap.size := hB1.size
                have hnew := cells_new (wr.alloc (.cells #[.string s, .string u] 54)) [.string s, .string u] 54
                rw [World.size_alloc] at hnew
                go_wp2_with (at_builtin; go_must (refine wpList_append_own _ rfl _ _ 41 rfl q5.heap.size 54 i0 (.agg #[.string ⟨#[]⟩, .string ⟨#[]⟩]) 2 32 Try.underlying41 hii hz0' hz1' hz2' rfl (by decide) _ _ _ rfl hown2 ⟨wr.heap.size + 1, 0, none⟩ 1 1 [.string s, .string u] rfl rfl hnew (by simp; constructor <;> rfl) (by simp only [maxLen]; omega) (by omega) hbase ?_))
                intro z2' w2' hown3 hg2' _
                have hb2' := hB1.trans (below_append hown2 hbase hg2')
                go_wp2
                go_roundw
                case rel =>
                  refine ⟨j + 1, Rs ++ [(s, u)], ws, wt, by omega, rfl, rfl, by go_num, by simp; omega, ?_, hb2', hid ?_⟩
                  · rw [List.length_append, prcells_append]; exact hown3
                  · exact HX.out
                case measure => simp [intOf]; omega
            · have hc' : Op.bytesLess s.toList k.toList = true := hc
              have HX := hid (show ws = (getF (F.take (j + 1)) k).getD ⟨#[]⟩ ∧ wt = (getF (F.take (j + 1)) k).isSome ∧ Rs = (F.take (j + 1)).filter (rq k hi) from by
                rw [HGT2.out, if_neg HNE.out, HST.out]; simp only [rq, hc, Bool.not_true, Bool.false_and]; exact ⟨HW.out.1, HW.out.2.1, by rw [HW.out.2.2]; simp⟩)
              clear hc
              go_wp2
              go_roundw
              case rel => exact ⟨j + 1, Rs, ws, wt, by omega, rfl, rfl, by go_num, by omega, hown.alloc _, hbel.alloc hsz _, HX⟩
              case measure => simp [intOf]; omega
          · have heq : s = k := str_eq_of he
            have hc : klt s k = false := by rw [heq]; exact klt_irrefl _
            have hc' : Op.bytesLess s.toList k.toList = false := hc
            have HEQ := hid heq
            clear heq
            cases hd : klt s hi
            · have hd' : Op.bytesLess s.toList hi.toList = false := hd
              have HX := hid (show u = (getF (F.take (j + 1)) k).getD ⟨#[]⟩ ∧ true = (getF (F.take (j + 1)) k).isSome ∧ Rs = (F.take (j + 1)).filter (rq k hi) from by
                rw [HGT2.out, if_pos HEQ.out, HST.out]; simp only [rq, hd, Bool.and_false]; exact ⟨rfl, rfl, by rw [HW.out.2.2]; simp⟩)
              clear hc hd
              go_wp2
              go_roundw
              case rel => exact ⟨j + 1, Rs, u, true, by omega, rfl, rfl, by go_num, by omega, hown.alloc _, hbel.alloc hsz _, HX⟩
              case measure => simp [intOf]; omega
            · have hd' : Op.bytesLess s.toList hi.toList = true := hd
              have HX := hid (show u = (getF (F.take (j + 1)) k).getD ⟨#[]⟩ ∧ true = (getF (F.take (j + 1)) k).isSome ∧ Rs ++ [(s, u)] = (F.take (j + 1)).filter (rq k hi) from by
                rw [HGT2.out, if_pos HEQ.out, HST.out]; simp only [rq, hc, hd, Bool.not_false, Bool.and_self, if_true]; exact ⟨rfl, rfl, by rw [HW.out.2.2]⟩)
              clear hc hd
              have hB1 : Below q5.heap.size q5 ((wr.alloc (.cells #[.string s, .string u] 54)).alloc (.cells #[.string s, .string u] 54)) := (hbel.alloc hsz _).alloc (by rw [World.size_alloc]; omega) _
              have hown2 := (hown.alloc (.cells #[.string s, .string u] 54)).alloc (.cells #[.string s, .string u] 54)
              have hbase : q5.heap.size ≤ ((wr.alloc (.cells #[.string s, .string u] 54)).alloc (.cells #[.string s, .string u] 54)).heap.size := hB1.size
              have hnew := cells_new (wr.alloc (.cells #[.string s, .string u] 54)) [.string s, .string u] 54
              rw [World.size_alloc] at hnew
              go_wp2_with (at_builtin; go_must (refine wpList_append_own _ rfl _ _ 41 rfl q5.heap.size 54 i0 (.agg #[.string ⟨#[]⟩, .string ⟨#[]⟩]) 2 32 Try.underlying41 hii hz0' hz1' hz2' rfl (by decide) _ _ _ rfl hown2 ⟨wr.heap.size + 1, 0, none⟩ 1 1 [.string s, .string u] rfl rfl hnew (by simp; constructor <;> rfl) (by simp only [maxLen]; omega) (by omega) hbase ?_))
              intro z2' w2' hown3 hg2' _
              have hb2' := hB1.trans (below_append hown2 hbase hg2')
              go_wp2
              go_roundw
              case rel =>
                refine ⟨j + 1, Rs ++ [(s, u)], u, true, by omega, rfl, rfl, by go_num, by simp; omega, ?_, hb2', hid ?_⟩
                · rw [List.length_append, prcells_append]; exact hown3
                · exact HX.out
              case measure => simp [intOf]; omega
        · have hjN : j = N := by omega
          have HWE := hid (show ws = gs ∧ wt = gi ∧ Rs = F.filter (rq k hi) from by
            have h1 := HW.out
            rw [hjN, ← HFN.out, List.take_length] at h1
            have h2 := HEG.out
            exact ⟨h1.1.trans h2.1.symm, h1.2.1.trans h2.2.symm, h1.2.2⟩)
          have ew : ws = gs := HWE.out.1
          have et : wt = gi := HWE.out.2.1
          have er : rl = Rs.length := by rw [HWE.out.2.2]; exact HEL.out
          subst ew
          subst et
          subst er
          subst hjN
          have v1 : ¬ ((j : Int) < (j : Int)) := by omega
          obtain ⟨zo, zc, ez⟩ := (IsRow.of_own hown).shape
          subst ez
          have hRsP : IsPairs wr (.slice zo Rs.length zc) Rs := IsRow.of_own hown
          have HRP := hid hRsP
          obtain ⟨W6, hW6⟩ : ∃ W, W = wr := ⟨_, rfl⟩
          subst hW6
          have hz6 : Below wc.heap.size wc W6 := bthen z5 hbel
          have HRK6 := hid (show IsStrs W6 (.slice ko Rs.length kc) (Rs.map Prod.fst) from by have := HRK.out.below hz6; rw [← HWE.out.2.2] at this; exact this)
          have HRV6 := hid (show IsStrs W6 (.slice vo Rs.length vc) (Rs.map Prod.snd) from by have := HRV.out.below hz6; rw [← HWE.out.2.2] at this; exact this)
          have hRb : Rs.length ≤ 4194304 := by omega
          clear hown hRsP HW
          generalize hRn : Rs.length = m at *
          have HRN := hid hRn
          clear hRn
          have bmm : ((m : Int) != (m : Int)) = false := by simp
          go_wp2
          go_loopw [140] (fun i wr => ∃ q : Nat, q ≤ m ∧ i = .int .i64 q ∧ Below W6.heap.size W6 wr) (fun i _ => m - (intOf i).toNat)
          case atStart => exact ⟨0, Nat.zero_le _, rfl, Below.refl _ _⟩
          case round =>
            obtain ⟨q, hq, rfl, hbq⟩ := hrel
            by_cases hqlt : q < m
            · obtain ⟨⟨s, u⟩, hsu⟩ : ∃ x, Rs[q]? = some x := ⟨_, List.getElem?_eq_getElem (by rw [HRN.out]; omega)⟩
              obtain ⟨zb, zf, rfl, hzbl, a0, a1⟩ := pairs_at (HRP.out.below hbq) hsu
              obtain ⟨kb', kf, rfl, hkbl, k0⟩ := strs_at (HRK6.out.below hbq) (i := q) (s := s) (by rw [List.getElem?_map, hsu]; rfl)
              obtain ⟨vb', vf, rfl, hvbl, v0⟩ := strs_at (HRV6.out.below hbq) (i := q) (s := u) (by rw [List.getElem?_map, hsu]; rfl)
              have j0 : (0 : Int) ≤ (q : Int) := by omega
              have j1 : (q : Int) < (m : Int) := by omega
              simp only at a0 a1
              have hss : (s.toList == s.toList) = true := by simp
              have huu : (u.toList == u.toList) = true := by simp
              have hsq := hbq.size
              obtain ⟨W7, hW7⟩ : ∃ W7, wr.alloc (.cells #[.string s, .string u] 54) = W7 := ⟨_, rfl⟩
              have hB7 : Below wr.heap.size wr W7 := by rw [← hW7]; exact balloc (Below.refl _ _) _
              have b7 : W7.heap[wr.heap.size]? = some (.cells #[.string s, .string u] 54) := by rw [← hW7]; exact block_alloc_at wr _
              have d0 : W7.cell? ⟨wr.heap.size, 0, none⟩ = some (.string s) := cell_of_block b7 rfl
              have d1 : W7.cell? ⟨wr.heap.size, 1, none⟩ = some (.string u) := cell_of_block b7 rfl
              have k7 : W7.cell? ⟨kb', kf + q, none⟩ = some (.string s) := (hB7.cell (p := ⟨kb', kf + q, none⟩) hkbl).trans k0
              have v7 : W7.cell? ⟨vb', vf + q, none⟩ = some (.string u) := (hB7.cell (p := ⟨vb', vf + q, none⟩) hvbl).trans v0
              clear hsu
              go_wp2
              go_quiet (fail)
              go_wp2
              go_roundw
              case rel => exact ⟨q + 1, by omega, by go_num, below_drewN (hbq.trans (hB7.mono hsq)) _⟩
              case measure => simp [intOf]; omega
            · have hqm : q = m := by omega
              subst hqm
              have v2 : ¬ ((q : Int) < (q : Int)) := by omega
              have y0 : Below wc.heap.size wc wr := bthen hz6 hbq
              have HAW := hid (show IsPairs wr (.slice ao an ac) (putF F k v) from by
                have h1 := (HA.out (by trivial)).2
                rw [HF12.out.1] at h1
                exact ((h1.below b5).below hbel).below hbq)
              have HBW := hid (show IsPairs wr (.slice bo bn bc) (dropF F k) from by
                have h1 := (HB.out (by trivial)).2
                rw [HF12.out.2] at h1
                exact (h1.below hbel).below hbq)
              have hfw := HPF.out.below y0
              have hpl : (putF F k v).length ≤ 8388609 := by
                unfold putF; have h1 := List.length_filter_le (fun x => klt x.1 k) F; have h2 := List.length_filter_le (fun x => klt k x.1) F; have h3 := HFN.out
                simp only [List.length_append, List.length_cons]; omega
              have hdl : (dropF F k).length ≤ 4194304 := by unfold dropF; have h1 := List.length_filter_le (fun x => decide (x.1 ≠ k)) F; have h3 := HFN.out; omega
              have pp := fun W (hW : Below wr.heap.size wr W) => putPair_any F _ k v W (hfw.below hW) (by rw [HFN.out]; omega)
              have dp := fun W (hW : Below wr.heap.size wr W) => dropPair_any F _ k W (hfw.below hW) (by rw [HFN.out]; omega)
              have sp := fun W pv (hW : Below wr.heap.size wr W) hp => samePairs_any (putF F k v) _ pv W (HAW.out.below hW) hp (by omega)
              have sd := fun W pv (hW : Below wr.heap.size wr W) hp => samePairs_any (dropF F k) _ pv W (HBW.out.below hW) hp (by omega)
              have szw := fun W (hW : Below wr.heap.size wr W) => szc W (bthen y0 hW)
              have hgg : (ws.toList == ws.toList) = true := by simp
              have t0 := Below.refl wr.heap.size wr
              have kw : ∀ W, Below wr.heap.size wr W → W.cell? ⟨wa.heap.size, 0, none⟩ = some (.slice co n cc) := fun W hW => (kx _ (bthen y0 hW)).2.2.1
              cases wt
              all_goals
                go_wp2_with (first
                  | (go_at_call 32; go_fit (pp _ t0); rintro e r1 ⟨pv, rfl, hpv, m1⟩; have t1 : Below wr.heap.size wr r1 := bthen t0 m1)
                  | (go_at_call 31; go_fit (sp _ _ t1 hpv); rintro e r2 ⟨rfl, m2⟩; have t2 : Below wr.heap.size wr r2 := bthen t1 m2)
                  | (go_at_call 33; go_fit (dp _ t2); rintro e r3 ⟨dv, rfl, hdv, m3⟩; have t3 : Below wr.heap.size wr r3 := bthen t2 m3)
                  | (go_at_call 31; go_fit (sd _ _ t3 hdv); rintro e r4 ⟨rfl, m4⟩; have t4 : Below wr.heap.size wr r4 := bthen t3 m4; have cc4' := kw _ t4)
                  | (go_at_call 34; go_fit (szw _ t4); rintro e r5 ⟨rfl, m5⟩; have t5 : Below wr.heap.size wr r5 := bthen t4 m5))
                go_ret
                exact ⟨rfl, hzw.trans ((bthen y0 t5).mono hzw.size)⟩

open Classical in
theorem treeDoes_walk (T : List Pg) (tv : Value) (k v hi : ByteArray) (w : World) (h : IsTree w tv T) (hn : T.length ≤ 1048576) (hsh : Short T) :
    Calls Try.prog 7 #[tv, .string k, .string v, .string hi] w fun e w' => e = .returned (.bool true) ∧ Below w.heap.size w w' :=
  treeDoes_gen (decide (GoodT T)) T tv k v hi w decide_eq_true_iff h hn hsh

end Go.Proofs.Ytfcdkpkmkepcaaa
