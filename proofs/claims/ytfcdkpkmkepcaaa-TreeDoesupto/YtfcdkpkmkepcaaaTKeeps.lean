/-
  The walk of the statement TreeKeeps: what is put is there, what is dropped is not, all else is as it was.
-/
import Derived.Test.YtfcdkpkmkepcaaaTDropAny
import Derived.Test.YtfcdkpkmkepcaaaTTrees
import Derived.Test.YtfcdkpkmkepcaaaTKeepMath
import Derived.Deep.Cut
import Derived.Deep.CutRange
import Derived.Deep.DeepCutAuto
namespace Go.Proofs.Ytfcdkpkmkepcaaa
open Go.RowKit

/-- Two trees in memory, each in a block of its own. -/
def TwoTrees (Wd wx : World) (pa pb : Nat) (s1 : Value) (T1 : List Pg) (s2 : Value) (T2 : List Pg) : Prop :=
  wx.heap[pa]? = some (.cells #[s1] 39) ∧ wx.heap[pb]? = some (.cells #[s2] 39) ∧ IsPages wx s1 T1 ∧ IsPages wx s2 T2 ∧ Below Wd.heap.size Wd wx

theorem tt_new {Wd w2 : World} {s1 s2 : Value} {T1 T2 : List Pg} (h1 : IsPages w2 s1 T1) (h2 : IsPages w2 s2 T2) (hz : Below Wd.heap.size Wd w2) :
    TwoTrees Wd ((w2.alloc (.cells #[s1] 39)).alloc (.cells #[s2] 39)) w2.heap.size (w2.heap.size + 1) s1 T1 s2 T2 :=
  ⟨block_alloc_of (block_alloc_at _ _) _, block_alloc_is (size_a1 _ _) _, h1.below (balloc (balloc (Below.refl _ _) _) _), h2.below (balloc (balloc (Below.refl _ _) _) _), balloc (balloc hz _) _⟩
theorem tt_new' {Wd w2 : World} {s1 s2 : Value} {T1 T2 : List Pg} (h1 : IsPages w2 s1 T1) (h2 : IsPages w2 s2 T2) (hz : Below Wd.heap.size Wd w2) :
    TwoTrees Wd ((w2.alloc (.cells #[s2] 39)).alloc (.cells #[s1] 39)) (w2.heap.size + 1) w2.heap.size s1 T1 s2 T2 := by
  obtain ⟨a, b, c, d, e⟩ := tt_new h2 h1 hz
  exact ⟨b, a, d, c, e⟩

theorem size_set (w : World) (p : Addr) (v : Value) : (w.setCell p v).heap.size = w.heap.size := by simp [World.setCell]

theorem tt_half {Wd w2 : World} {s1 s2 : Value} {T1 T2 : List Pg} {g : Nat} (h1 : IsPages w2 s1 T1) (h2 : IsPages w2 s2 T2) (hz : Below Wd.heap.size Wd w2) (p : w2.heap[g]? = some (.cells #[.slice none 0 0] 39)) (hg : Wd.heap.size ≤ g) :
    TwoTrees Wd ((w2.setCell ⟨g, 0, none⟩ s1).alloc (.cells #[s2] 39)) g w2.heap.size s1 T1 s2 T2 :=
  ⟨block_alloc_of (set_block p 0 _) _, block_alloc_is (size_set _ _ _) _, (pages_set h1 p _).below (balloc (Below.refl _ _) _), (pages_set h2 p _).below (balloc (Below.refl _ _) _), balloc (bset hz hg _) _⟩
theorem tt_half' {Wd w2 : World} {s1 s2 : Value} {T1 T2 : List Pg} {g : Nat} (h1 : IsPages w2 s1 T1) (h2 : IsPages w2 s2 T2) (hz : Below Wd.heap.size Wd w2) (p : w2.heap[g]? = some (.cells #[.slice none 0 0] 39)) (hg : Wd.heap.size ≤ g) :
    TwoTrees Wd ((w2.setCell ⟨g, 0, none⟩ s2).alloc (.cells #[s1] 39)) w2.heap.size g s1 T1 s2 T2 := by
  obtain ⟨a, b, c, d, e⟩ := tt_half h2 h1 hz p hg
  exact ⟨b, a, d, c, e⟩

theorem tt_both {Wd w2 : World} {s1 s2 : Value} {T1 T2 : List Pg} {g g' : Nat} (h1 : IsPages w2 s1 T1) (h2 : IsPages w2 s2 T2) (hz : Below Wd.heap.size Wd w2) (p : w2.heap[g]? = some (.cells #[.slice none 0 0] 39)) (p' : w2.heap[g']? = some (.cells #[.slice none 0 0] 39)) (hg : Wd.heap.size ≤ g) (hg' : Wd.heap.size ≤ g') (hne : g ≠ g') :
    TwoTrees Wd ((w2.setCell ⟨g, 0, none⟩ s1).setCell ⟨g', 0, none⟩ s2) g g' s1 T1 s2 T2 := by
  have q : (w2.setCell ⟨g, 0, none⟩ s1).heap[g]? = some (.cells #[s1] 39) := set_block p 0 _
  have q' : (w2.setCell ⟨g, 0, none⟩ s1).heap[g']? = some (.cells #[.slice none 0 0] 39) := by
    simp [World.setCell, Array.getElem?_modify, hne, p']
  have q2 : ((w2.setCell ⟨g, 0, none⟩ s1).setCell ⟨g', 0, none⟩ s2).heap[g]? = (w2.setCell ⟨g, 0, none⟩ s1).heap[g]? := by
    simp [World.setCell, Array.getElem?_modify, Ne.symm hne]
  exact ⟨q2.trans q, set_block q' 0 _, pages_set (pages_set h1 p _) q' _, pages_set (pages_set h2 p _) q' _, bset (bset hz hg _) hg' _⟩

set_option maxHeartbeats 20000000 in
set_option maxRecDepth 100000 in
theorem treeKeeps_good (T : List Pg) (tv : Value) (k v other : ByteArray) (w : World) (h : IsTree w tv T) (hg : GoodT T) (hn : T.length ≤ 1048576) :
    Calls Try.prog 8 #[tv, .string k, .string v, .string other] w fun e w' => e = .returned (.bool true) ∧ Below w.heap.size w w' := by
  have gc := fun W (hW : Below w.heap.size w W) => good_yes T tv W (h.below hW) hg
  have pc := fun W (hW : Below w.heap.size w W) => put_any T tv k v W (h.below hW) hg (by omega)
  have dc := fun W (hW : Below w.heap.size w W) => drop_any T tv k W (h.below hW) hg (by omega)
  have ht0 := hid h
  obtain ⟨sv, rfl, hs⟩ := h
  obtain ⟨so, sc, rfl⟩ := hs.shape
  clear hs
  have HG := hid hg
  clear hg
  generalize hnl : T.length = n at *
  have HNL := hid hnl
  clear hnl
  generalize hW0 : w.alloc (.cells #[.slice so n sc] 39) = W0
  have hB0 : Below w.heap.size w W0 := by rw [← hW0]; exact balloc (Below.refl _ _) _
  have hs0 : W0.heap.size = w.heap.size + 1 := by rw [← hW0]; simp
  have b0 : W0.heap[w.heap.size]? = some (.cells #[.slice so n sc] 39) := by rw [← hW0]; exact block_alloc_at w _
  have cb0 : W0.cell? ⟨w.heap.size, 0, none⟩ = some (.slice so n sc) := cell_of_block b0 rfl
  have hA : w.heap.size < W0.heap.size := by omega
  have g0 := gc _ hB0
  go_enter Try.func8, Try.ntmps8
  go_upto_region 3 with (go_at_call 28; go_must (refine g0.mono ?_; rintro e Wd ⟨rfl, hb1⟩; have bd := (hb1.block _ hA).trans b0; have cd : Wd.cell? ⟨w.heap.size, 0, none⟩ = some (.slice so n sc) := cell_of_block bd rfl; have hbd := hB0.trans (hb1.mono hB0.size); have hAd := Nat.lt_of_lt_of_le hA hb1.size))
  have hbd' : ∀ W, Below Wd.heap.size Wd W → Below w.heap.size w W := fun W hW => hbd.trans (hW.mono hbd.size)
  have ks : ∀ W, Below Wd.heap.size Wd W → (W.cell? ⟨w.heap.size, 0, none⟩ = some (.slice so n sc)) := fun W hW => (hW.cell (p := ⟨w.heap.size, 0, none⟩) hAd).trans cd
  go_cut [9, 10] from 26 (fun s9 s10 wx => ∃ pa pb x1 c1 T1 x2 c2 T2, s9 = .pointer (some ⟨pa, 0, none⟩) ∧ s10 = .pointer (some ⟨pb, 0, none⟩) ∧ TwoTrees Wd wx pa pb (.slice x1 T1.length c1) T1 (.slice x2 T2.length c2) T2 ∧ Hid (GoodT T1 ∧ flat T1 = putF (flat T) k v ∧ T1.length ≤ n + 1 ∧ GoodT T2 ∧ flat T2 = dropF (flat T) k ∧ T2.length ≤ n))
  case first =>
    clear cd cb0 g0 gc hW0 b0
    go_region_held3 (fun w' => w'.cell? ⟨w.heap.size, 0, none⟩ = some (.slice so n sc))
      (with_reducible first | exact ks _ (hz2) | exact ks _ (balloc hz2 _) | exact ks _ (balloc (balloc hz2 _) _) | exact ks _ (hz1) | exact ks _ (balloc hz1 _) | exact ks _ (balloc (balloc hz1 _) _) | exact ks _ ((Below.refl _ _).drew) | exact ks _ ((balloc (Below.refl _ _) _).drew) | exact ks _ ((balloc (balloc (Below.refl _ _) _) _).drew) | exact ks _ (bset hz2 (by simp only; omega) _) | exact ks _ (bset (bset hz2 (by simp only; omega) _) (by simp only; omega) _) | exact ks _ (bset (balloc hz2 _) (by simp only; omega) _) | exact ks _ (bset (balloc (balloc hz2 _) _) (by simp only; omega) _) | exact ks _ (balloc (bset hz2 (by simp only; omega) _) _) | go_keep)
      (first
        | (go_at_call 26; refine (pc _ (hbd' _ (by with_reducible first | exact (Below.refl _ _).drew | exact (balloc (Below.refl _ _) _).drew | exact (balloc (balloc (Below.refl _ _) _) _).drew))).mono ?_; rintro e w1 ⟨tv1, T1, rfl, ⟨sv1, rfl, hP1⟩, hb1, hg1, hf1, hl1⟩; obtain ⟨x1, c1, rfl⟩ := hP1.shape; have H1 := hid (And.intro hg1 (And.intro hf1 hl1)); clear hg1 hf1 hl1; have hz1 : Below Wd.heap.size Wd w1 := bthen (by with_reducible first | exact (Below.refl _ _).drew | exact (balloc (Below.refl _ _) _).drew | exact (balloc (balloc (Below.refl _ _) _) _).drew) hb1; have hs1 := hb1.size; simp only [World.size_alloc, size_drew] at hs1; have hs1l := hz1.size)
        | (go_at_call 27; refine (dc _ (hbd' _ (by with_reducible first | exact hz1 | exact balloc hz1 _ | exact balloc (balloc hz1 _) _))).mono ?_; rintro e w2 ⟨tv2, T2, rfl, ⟨sv2, rfl, hP2⟩, hb2, hg2, hf2, hl2⟩; obtain ⟨x2, c2, rfl⟩ := hP2.shape; have H2 := hid (And.intro hg2 (And.intro hf2 hl2)); clear hg2 hf2 hl2; have hz2 : Below Wd.heap.size Wd w2 := bthen (by with_reducible first | exact hz1 | exact balloc hz1 _ | exact balloc (balloc hz1 _) _) hb2; have hP1' : IsPages w2 (.slice x1 T1.length c1) T1 := (by with_reducible first | exact hP1.below hb2 | exact (hP1.below (balloc (Below.refl _ _) _)).below hb2 | exact (hP1.below (balloc (balloc (Below.refl _ _) _) _)).below hb2); have hs2 := hb2.size; (try simp only [World.size_alloc] at hs2); (first | (have pA : w2.heap[Wd.heap.size]? = some (.cells #[.slice none 0 0] 39) := (by with_reducible first | exact (hb2.block _ (by first | omega | (simp only [World.size_alloc]; omega))).trans ((hb1.block _ (by first | (rw [size_drew, size_a2]; omega) | (rw [size_drew, size_a1]; omega))).trans (block_drew (block_alloc_is (by with_reducible first | exact rfl | exact size_a1 _ _ | exact size_a2 _ _ _) _))) | exact (hb2.block _ (by first | omega | (simp only [World.size_alloc]; omega))).trans ((hb1.block _ (by first | (rw [size_drew, size_a2]; omega) | (rw [size_drew, size_a1]; omega))).trans (block_drew (block_alloc_of (block_alloc_is (by with_reducible first | exact rfl | exact size_a1 _ _ | exact size_a2 _ _ _) _) _))) | exact (hb2.block _ (by first | omega | (simp only [World.size_alloc]; omega))).trans (block_alloc_of ((hb1.block _ (by first | (rw [size_drew, size_a2]; omega) | (rw [size_drew, size_a1]; omega))).trans (block_drew (block_alloc_is (by with_reducible first | exact rfl | exact size_a1 _ _ | exact size_a2 _ _ _) _))) _) | exact (hb2.block _ (by first | omega | (simp only [World.size_alloc]; omega))).trans (block_alloc_of ((hb1.block _ (by first | (rw [size_drew, size_a2]; omega) | (rw [size_drew, size_a1]; omega))).trans (block_drew (block_alloc_of (block_alloc_is (by with_reducible first | exact rfl | exact size_a1 _ _ | exact size_a2 _ _ _) _) _))) _)); have pA0 : w2.cell? ⟨Wd.heap.size, 0, none⟩ = some (.slice none 0 0) := cell_of_block pA rfl; have pAf : w2.frozen? ⟨Wd.heap.size, 0, none⟩ = false := (by simp [World.frozen?, pA]); have pAl : Wd.heap.size < w2.heap.size := lt_of_block pA) | skip); (first | (have pB : w2.heap[Wd.heap.size + 1]? = some (.cells #[.slice none 0 0] 39) := (by with_reducible first | exact (hb2.block _ (by first | omega | (simp only [World.size_alloc]; omega))).trans ((hb1.block _ (by first | (rw [size_drew, size_a2]; omega) | (rw [size_drew, size_a1]; omega))).trans (block_drew (block_alloc_is (by with_reducible first | exact rfl | exact size_a1 _ _ | exact size_a2 _ _ _) _))) | exact (hb2.block _ (by first | omega | (simp only [World.size_alloc]; omega))).trans (block_alloc_of ((hb1.block _ (by first | (rw [size_drew, size_a2]; omega) | (rw [size_drew, size_a1]; omega))).trans (block_drew (block_alloc_is (by with_reducible first | exact rfl | exact size_a1 _ _ | exact size_a2 _ _ _) _))) _)); have pB0 : w2.cell? ⟨Wd.heap.size + 1, 0, none⟩ = some (.slice none 0 0) := cell_of_block pB rfl; have pBf : w2.frozen? ⟨Wd.heap.size + 1, 0, none⟩ = false := (by simp [World.frozen?, pB]); have pBl : Wd.heap.size + 1 < w2.heap.size := lt_of_block pB) | skip); (first | (have pC : w2.heap[w1.heap.size]? = some (.cells #[.slice none 0 0] 39) := (by with_reducible first | exact (hb2.block _ (by first | omega | (simp only [World.size_alloc]; omega))).trans (block_alloc_is (by with_reducible first | exact rfl | exact size_a1 _ _ | exact size_a2 _ _ _) _) | exact (hb2.block _ (by first | omega | (simp only [World.size_alloc]; omega))).trans (block_alloc_of (block_alloc_is (by with_reducible first | exact rfl | exact size_a1 _ _ | exact size_a2 _ _ _) _) _)); have pC0 : w2.cell? ⟨w1.heap.size, 0, none⟩ = some (.slice none 0 0) := cell_of_block pC rfl; have pCf : w2.frozen? ⟨w1.heap.size, 0, none⟩ = false := (by simp [World.frozen?, pC]); have pCl : w1.heap.size < w2.heap.size := lt_of_block pC) | skip); (first | (have pD : w2.heap[w1.heap.size + 1]? = some (.cells #[.slice none 0 0] 39) := (by with_reducible first | exact (hb2.block _ (by first | omega | (simp only [World.size_alloc]; omega))).trans (block_alloc_is (by with_reducible first | exact rfl | exact size_a1 _ _ | exact size_a2 _ _ _) _)); have pD0 : w2.cell? ⟨w1.heap.size + 1, 0, none⟩ = some (.slice none 0 0) := cell_of_block pD rfl; have pDf : w2.frozen? ⟨w1.heap.size + 1, 0, none⟩ = false := (by simp [World.frozen?, pD]); have pDl : w1.heap.size + 1 < w2.heap.size := lt_of_block pD) | skip); (try have hne1 : ¬ (w1.heap.size = Wd.heap.size) := (by omega)); (try have hne2 : ¬ (Wd.heap.size = w1.heap.size) := (by omega))))
    all_goals go_wp2_with fail
    all_goals go_meet
    all_goals
      have HH := hid (show GoodT T1 ∧ flat T1 = putF (flat T) k v ∧ T1.length ≤ n + 1 ∧ GoodT T2 ∧ flat T2 = dropF (flat T) k ∧ T2.length ≤ n from by
        have h1 := H1.out
        have h2 := H2.out
        rw [HNL.out] at h1 h2
        exact ⟨h1.1, h1.2.1, h1.2.2, h2.1, h2.2.1, h2.2.2⟩)
      refine ⟨_, _, x1, c1, T1, x2, c2, T2, rfl, rfl, ?_, HH⟩
      with_reducible first
        | exact tt_new hP1' hP2 hz2
        | exact tt_new' hP1' hP2 hz2
        | exact tt_half hP1' hP2 hz2 pA (by omega)
        | exact tt_half hP1' hP2 hz2 pB (by omega)
        | exact tt_half hP1' hP2 hz2 pC (by omega)
        | exact tt_half hP1' hP2 hz2 pD (by omega)
        | exact tt_half' hP1' hP2 hz2 pA (by omega)
        | exact tt_half' hP1' hP2 hz2 pB (by omega)
        | exact tt_half' hP1' hP2 hz2 pC (by omega)
        | exact tt_half' hP1' hP2 hz2 pD (by omega)
        | exact tt_both hP1' hP2 hz2 pA pB (by omega) (by omega) (by omega)
        | exact tt_both hP1' hP2 hz2 pA pC (by omega) (by omega) (by omega)
        | exact tt_both hP1' hP2 hz2 pA pD (by omega) (by omega) (by omega)
        | exact tt_both hP1' hP2 hz2 pB pA (by omega) (by omega) (by omega)
        | exact tt_both hP1' hP2 hz2 pB pC (by omega) (by omega) (by omega)
        | exact tt_both hP1' hP2 hz2 pB pD (by omega) (by omega) (by omega)
        | exact tt_both hP1' hP2 hz2 pC pA (by omega) (by omega) (by omega)
        | exact tt_both hP1' hP2 hz2 pC pB (by omega) (by omega) (by omega)
        | exact tt_both hP1' hP2 hz2 pC pD (by omega) (by omega) (by omega)
        | exact tt_both hP1' hP2 hz2 pD pA (by omega) (by omega) (by omega)
        | exact tt_both hP1' hP2 hz2 pD pB (by omega) (by omega) (by omega)
        | exact tt_both hP1' hP2 hz2 pD pC (by omega) (by omega) (by omega)
  case rest =>
    obtain ⟨pa, pb, x1, c1, T1, x2, c2, T2, rfl, rfl, ⟨hpa, hpb, hP1, hP2, hbx⟩, HH⟩ := hcut
    obtain ⟨hg1, hf1, hl1, hg2, hf2, hl2⟩ := HH.out
    have hbw : Below w.heap.size w wc := hbd' _ hbx
    have hAx := Nat.lt_of_lt_of_le hAd hbx.size
    have cax : wc.cell? ⟨pa, 0, none⟩ = some (.slice x1 T1.length c1) := cell_of_block hpa rfl
    have cbx : wc.cell? ⟨pb, 0, none⟩ = some (.slice x2 T2.length c2) := cell_of_block hpb rfl
    have ctx : wc.cell? ⟨w.heap.size, 0, none⟩ = some (.slice so n sc) := (hbx.cell (p := ⟨w.heap.size, 0, none⟩) hAd).trans cd
    have lpa := lt_of_block hpa
    have lpb := lt_of_block hpb
    have kc : ∀ W, Below wc.heap.size wc W → (W.cell? ⟨pa, 0, none⟩ = some (.slice x1 T1.length c1) ∧ W.cell? ⟨pb, 0, none⟩ = some (.slice x2 T2.length c2) ∧ W.cell? ⟨w.heap.size, 0, none⟩ = some (.slice so n sc)) := fun W hW =>
      ⟨(hW.cell (p := ⟨pa, 0, none⟩) lpa).trans cax, (hW.cell (p := ⟨pb, 0, none⟩) lpb).trans cbx, (hW.cell (p := ⟨w.heap.size, 0, none⟩) hAx).trans ctx⟩
    have tx : ∀ W, Below wc.heap.size wc W → IsTree W (.agg #[.slice x1 T1.length c1]) T1 := fun W hW => ⟨_, rfl, hP1.below hW⟩
    have ty : ∀ W, Below wc.heap.size wc W → IsTree W (.agg #[.slice x2 T2.length c2]) T2 := fun W hW => ⟨_, rfl, hP2.below hW⟩
    have tt : ∀ W, Below wc.heap.size wc W → IsTree W (.agg #[.slice so n sc]) T := fun W hW => ht0.out.below (hbw.trans (hW.mono hbw.size))
    have hg := HG.out
    have hTn := HNL.out
    have L0 := length_keys hg.1
    have L1 := length_keys hg1.1
    have L2 := length_keys hg2.1
    have E0 := length_flat hg.1
    have E1 := length_flat hg1.1
    have E2 := length_flat hg2.1
    have gxk := fun W hW => get_good T1 _ k W (tx W hW) hg1 (by omega)
    have gyk := fun W hW => get_good T2 _ k W (ty W hW) hg2 (by omega)
    have gtk := fun W hW => get_good T _ k W (tt W hW) hg (by omega)
    have gxo := fun W hW => get_good T1 _ other W (tx W hW) hg1 (by omega)
    have gyo := fun W hW => get_good T2 _ other W (ty W hW) hg2 (by omega)
    have gto := fun W hW => get_good T _ other W (tt W hW) hg (by omega)
    have szt := fun W hW => size_any T _ W (tt W hW) (by omega)
    have szx := fun W hW => size_any T1 _ W (tx W hW) (by omega)
    have szy := fun W hW => size_any T2 _ W (ty W hW) (by omega)
    have gdx := fun W hW => good_yes T1 _ W (tx W hW) hg1
    have gdy := fun W hW => good_yes T2 _ W (ty W hW) hg2
    obtain ⟨F1, o, F2, c⟩ := cut_of_rise (flat T) hg.rise k
    rw [hf1, c.get_put] at gxk
    rw [hf2, c.get_drop] at gyk
    rw [c.get] at gtk
    rw [← E0] at szt
    rw [← E1, hf1] at szx
    rw [← E2, hf2] at szy
    rw [hf1] at gxo
    rw [hf2] at gyo
    have z0 := Below.refl wc.heap.size wc
    have hvv : (v.toList == v.toList) = true := by simp
    have hF : (flat T).length ≤ 4194304 := by omega
    have hab : (other.toList == k.toList) = false → getF (putF (flat T) k v) other = getF (flat T) other ∧ getF (dropF (flat T) k) other = getF (flat T) other := by
      intro e
      have hne : other ≠ k := by rintro rfl; simp at e
      exact ⟨c.get_put_other v hne, c.get_drop_other hne⟩
    have hc := c
    clear L0 L1 L2 E0 E1 E2 hl1 hl2 hg1 hg2 tx ty tt hP1 hP2 hpa hpb HH hf1 hf2 hg hTn pc dc ks hbd' cd c
    generalize hFn : (flat T).length = N at *
    generalize hgo : getF (flat T) other = P at *
    generalize hg1o : getF (putF (flat T) k v) other = P1 at *
    generalize hg2o : getF (dropF (flat T) k) other = P2 at *
    generalize T1.length = n1 at *
    generalize T2.length = n2 at *
    unfold getAns at *
    clear hgo hg1o hg2o
    cases o with
    | some u =>
      obtain ⟨m1, m2⟩ := hc.length_some v
      rw [hFn] at m1 m2
      rw [m1] at szx
      obtain ⟨N', hN'⟩ : ∃ N', N = N' + 1 := ⟨N - 1, by omega⟩
      have m2' : (dropF (flat T) k).length = N' := by omega
      rw [m2'] at szy
      subst hN'
      clear m1 m2 m2' hc hFn
      simp only [Option.getD_some, Option.isSome_some, Option.getD_none, Option.isSome_none] at gxk gyk gtk
      cases hok : (other.toList == k.toList) with
      | false =>
        obtain ⟨q1, q2⟩ := hab hok
        subst q1
        subst q2
        clear hab
        have hss : ((P2.getD ⟨#[]⟩).toList == (P2.getD ⟨#[]⟩).toList) = true := by simp
        generalize P2.getD ⟨#[]⟩ = s at *
        generalize P2.isSome = bs at *
        cases bs
        all_goals
          go_wp2_with (first
            | (go_at_call 24; go_fit (gxk _ z0); rintro e v1 ⟨rfl, b1⟩; have z1 : Below wc.heap.size wc v1 := bthen z0 b1; obtain ⟨ca1, cb1, ct1⟩ := kc _ z1)
            | (go_at_call 24; go_fit (gyk _ z1); rintro e v2 ⟨rfl, b2⟩; have z2 : Below wc.heap.size wc v2 := bthen z1 b2; obtain ⟨ca2, cb2, ct2⟩ := kc _ z2)
            | (go_at_call 24; go_fit (gtk _ z2); rintro e v3 ⟨rfl, b3⟩; have z3 : Below wc.heap.size wc v3 := bthen z2 b3; obtain ⟨ca3, cb3, ct3⟩ := kc _ z3)
            | (go_at_call 34; go_fit (szt _ z3); rintro e v4 ⟨rfl, b4⟩; have z4 : Below wc.heap.size wc v4 := bthen z3 b4; obtain ⟨ca4, cb4, ct4⟩ := kc _ z4)
            | (go_at_call 28; go_fit (gdx _ z4); rintro e v5 ⟨rfl, b5⟩; have z5 : Below wc.heap.size wc v5 := bthen z4 b5; obtain ⟨ca5, cb5, ct5⟩ := kc _ z5)
            | (go_at_call 28; go_fit (gdy _ z5); rintro e v6 ⟨rfl, b6⟩; have z6 : Below wc.heap.size wc v6 := bthen z5 b6; obtain ⟨ca6, cb6, ct6⟩ := kc _ z6)
            | (go_at_call 34; go_fit (szx _ z6); rintro e v7 ⟨rfl, b7⟩; have z7 : Below wc.heap.size wc v7 := bthen z6 b7; obtain ⟨ca7, cb7, ct7⟩ := kc _ z7)
            | (go_at_call 34; go_fit (szy _ z7); rintro e v8 ⟨rfl, b8⟩; have z8 : Below wc.heap.size wc v8 := bthen z7 b8; obtain ⟨ca8, cb8, ct8⟩ := kc _ z8)
            | (go_at_call 24; go_fit (gto _ z8); rintro e v9 ⟨rfl, b9⟩; have z9 : Below wc.heap.size wc v9 := bthen z8 b9; obtain ⟨ca9, cb9, ct9⟩ := kc _ z9)
            | (go_at_call 24; go_fit (gxo _ z9); rintro e v10 ⟨rfl, b10⟩; have z10 : Below wc.heap.size wc v10 := bthen z9 b10; obtain ⟨ca10, cb10, ct10⟩ := kc _ z10)
            | (go_at_call 24; go_fit (gyo _ z10); rintro e v11 ⟨rfl, b11⟩; have z11 : Below wc.heap.size wc v11 := bthen z10 b11; obtain ⟨ca11, cb11, ct11⟩ := kc _ z11)
            | (go_at_call 35; go_fit (treesKeep_any _); rintro e v12 ⟨rfl, b12⟩))
          go_ret
          exact ⟨rfl, bthen (hbw.trans (z11.mono hbw.size)) b12⟩
      | true =>
        clear hab
        generalize P.getD ⟨#[]⟩ = s0 at *
        generalize P.isSome = bs0 at *
        generalize P1.getD ⟨#[]⟩ = s1 at *
        generalize P1.isSome = bs1 at *
        generalize P2.getD ⟨#[]⟩ = s2 at *
        generalize P2.isSome = bs2 at *
        go_wp2_with (first
          | (go_at_call 24; go_fit (gxk _ z0); rintro e v1 ⟨rfl, b1⟩; have z1 : Below wc.heap.size wc v1 := bthen z0 b1; obtain ⟨ca1, cb1, ct1⟩ := kc _ z1)
          | (go_at_call 24; go_fit (gyk _ z1); rintro e v2 ⟨rfl, b2⟩; have z2 : Below wc.heap.size wc v2 := bthen z1 b2; obtain ⟨ca2, cb2, ct2⟩ := kc _ z2)
          | (go_at_call 24; go_fit (gtk _ z2); rintro e v3 ⟨rfl, b3⟩; have z3 : Below wc.heap.size wc v3 := bthen z2 b3; obtain ⟨ca3, cb3, ct3⟩ := kc _ z3)
          | (go_at_call 34; go_fit (szt _ z3); rintro e v4 ⟨rfl, b4⟩; have z4 : Below wc.heap.size wc v4 := bthen z3 b4; obtain ⟨ca4, cb4, ct4⟩ := kc _ z4)
          | (go_at_call 28; go_fit (gdx _ z4); rintro e v5 ⟨rfl, b5⟩; have z5 : Below wc.heap.size wc v5 := bthen z4 b5; obtain ⟨ca5, cb5, ct5⟩ := kc _ z5)
          | (go_at_call 28; go_fit (gdy _ z5); rintro e v6 ⟨rfl, b6⟩; have z6 : Below wc.heap.size wc v6 := bthen z5 b6; obtain ⟨ca6, cb6, ct6⟩ := kc _ z6)
          | (go_at_call 34; go_fit (szx _ z6); rintro e v7 ⟨rfl, b7⟩; have z7 : Below wc.heap.size wc v7 := bthen z6 b7; obtain ⟨ca7, cb7, ct7⟩ := kc _ z7)
          | (go_at_call 34; go_fit (szy _ z7); rintro e v8 ⟨rfl, b8⟩; have z8 : Below wc.heap.size wc v8 := bthen z7 b8; obtain ⟨ca8, cb8, ct8⟩ := kc _ z8)
          | (go_at_call 24; go_fit (gto _ z8); rintro e v9 ⟨rfl, b9⟩; have z9 : Below wc.heap.size wc v9 := bthen z8 b9; obtain ⟨ca9, cb9, ct9⟩ := kc _ z9)
          | (go_at_call 24; go_fit (gxo _ z9); rintro e v10 ⟨rfl, b10⟩; have z10 : Below wc.heap.size wc v10 := bthen z9 b10; obtain ⟨ca10, cb10, ct10⟩ := kc _ z10)
          | (go_at_call 24; go_fit (gyo _ z10); rintro e v11 ⟨rfl, b11⟩; have z11 : Below wc.heap.size wc v11 := bthen z10 b11; obtain ⟨ca11, cb11, ct11⟩ := kc _ z11)
          | (go_at_call 35; go_fit (treesKeep_any _); rintro e v12 ⟨rfl, b12⟩))
        go_ret
        exact ⟨rfl, bthen (hbw.trans (z11.mono hbw.size)) b12⟩
    | none =>
      obtain ⟨m1, m2⟩ := hc.length_none v
      rw [hFn] at m1 m2
      rw [m1] at szx
      rw [m2] at szy
      clear m1 m2 hc hFn
      simp only [Option.getD_some, Option.isSome_some, Option.getD_none, Option.isSome_none] at gxk gyk gtk
      cases hok : (other.toList == k.toList) with
      | false =>
        obtain ⟨q1, q2⟩ := hab hok
        subst q1
        subst q2
        clear hab
        have hss : ((P2.getD ⟨#[]⟩).toList == (P2.getD ⟨#[]⟩).toList) = true := by simp
        generalize P2.getD ⟨#[]⟩ = s at *
        generalize P2.isSome = bs at *
        cases bs
        all_goals
          go_wp2_with (first
            | (go_at_call 24; go_fit (gxk _ z0); rintro e v1 ⟨rfl, b1⟩; have z1 : Below wc.heap.size wc v1 := bthen z0 b1; obtain ⟨ca1, cb1, ct1⟩ := kc _ z1)
            | (go_at_call 24; go_fit (gyk _ z1); rintro e v2 ⟨rfl, b2⟩; have z2 : Below wc.heap.size wc v2 := bthen z1 b2; obtain ⟨ca2, cb2, ct2⟩ := kc _ z2)
            | (go_at_call 24; go_fit (gtk _ z2); rintro e v3 ⟨rfl, b3⟩; have z3 : Below wc.heap.size wc v3 := bthen z2 b3; obtain ⟨ca3, cb3, ct3⟩ := kc _ z3)
            | (go_at_call 34; go_fit (szt _ z3); rintro e v4 ⟨rfl, b4⟩; have z4 : Below wc.heap.size wc v4 := bthen z3 b4; obtain ⟨ca4, cb4, ct4⟩ := kc _ z4)
            | (go_at_call 28; go_fit (gdx _ z4); rintro e v5 ⟨rfl, b5⟩; have z5 : Below wc.heap.size wc v5 := bthen z4 b5; obtain ⟨ca5, cb5, ct5⟩ := kc _ z5)
            | (go_at_call 28; go_fit (gdy _ z5); rintro e v6 ⟨rfl, b6⟩; have z6 : Below wc.heap.size wc v6 := bthen z5 b6; obtain ⟨ca6, cb6, ct6⟩ := kc _ z6)
            | (go_at_call 34; go_fit (szx _ z6); rintro e v7 ⟨rfl, b7⟩; have z7 : Below wc.heap.size wc v7 := bthen z6 b7; obtain ⟨ca7, cb7, ct7⟩ := kc _ z7)
            | (go_at_call 34; go_fit (szy _ z7); rintro e v8 ⟨rfl, b8⟩; have z8 : Below wc.heap.size wc v8 := bthen z7 b8; obtain ⟨ca8, cb8, ct8⟩ := kc _ z8)
            | (go_at_call 24; go_fit (gto _ z8); rintro e v9 ⟨rfl, b9⟩; have z9 : Below wc.heap.size wc v9 := bthen z8 b9; obtain ⟨ca9, cb9, ct9⟩ := kc _ z9)
            | (go_at_call 24; go_fit (gxo _ z9); rintro e v10 ⟨rfl, b10⟩; have z10 : Below wc.heap.size wc v10 := bthen z9 b10; obtain ⟨ca10, cb10, ct10⟩ := kc _ z10)
            | (go_at_call 24; go_fit (gyo _ z10); rintro e v11 ⟨rfl, b11⟩; have z11 : Below wc.heap.size wc v11 := bthen z10 b11; obtain ⟨ca11, cb11, ct11⟩ := kc _ z11)
            | (go_at_call 35; go_fit (treesKeep_any _); rintro e v12 ⟨rfl, b12⟩))
          go_ret
          exact ⟨rfl, bthen (hbw.trans (z11.mono hbw.size)) b12⟩
      | true =>
        clear hab
        generalize P.getD ⟨#[]⟩ = s0 at *
        generalize P.isSome = bs0 at *
        generalize P1.getD ⟨#[]⟩ = s1 at *
        generalize P1.isSome = bs1 at *
        generalize P2.getD ⟨#[]⟩ = s2 at *
        generalize P2.isSome = bs2 at *
        go_wp2_with (first
          | (go_at_call 24; go_fit (gxk _ z0); rintro e v1 ⟨rfl, b1⟩; have z1 : Below wc.heap.size wc v1 := bthen z0 b1; obtain ⟨ca1, cb1, ct1⟩ := kc _ z1)
          | (go_at_call 24; go_fit (gyk _ z1); rintro e v2 ⟨rfl, b2⟩; have z2 : Below wc.heap.size wc v2 := bthen z1 b2; obtain ⟨ca2, cb2, ct2⟩ := kc _ z2)
          | (go_at_call 24; go_fit (gtk _ z2); rintro e v3 ⟨rfl, b3⟩; have z3 : Below wc.heap.size wc v3 := bthen z2 b3; obtain ⟨ca3, cb3, ct3⟩ := kc _ z3)
          | (go_at_call 34; go_fit (szt _ z3); rintro e v4 ⟨rfl, b4⟩; have z4 : Below wc.heap.size wc v4 := bthen z3 b4; obtain ⟨ca4, cb4, ct4⟩ := kc _ z4)
          | (go_at_call 28; go_fit (gdx _ z4); rintro e v5 ⟨rfl, b5⟩; have z5 : Below wc.heap.size wc v5 := bthen z4 b5; obtain ⟨ca5, cb5, ct5⟩ := kc _ z5)
          | (go_at_call 28; go_fit (gdy _ z5); rintro e v6 ⟨rfl, b6⟩; have z6 : Below wc.heap.size wc v6 := bthen z5 b6; obtain ⟨ca6, cb6, ct6⟩ := kc _ z6)
          | (go_at_call 34; go_fit (szx _ z6); rintro e v7 ⟨rfl, b7⟩; have z7 : Below wc.heap.size wc v7 := bthen z6 b7; obtain ⟨ca7, cb7, ct7⟩ := kc _ z7)
          | (go_at_call 34; go_fit (szy _ z7); rintro e v8 ⟨rfl, b8⟩; have z8 : Below wc.heap.size wc v8 := bthen z7 b8; obtain ⟨ca8, cb8, ct8⟩ := kc _ z8)
          | (go_at_call 24; go_fit (gto _ z8); rintro e v9 ⟨rfl, b9⟩; have z9 : Below wc.heap.size wc v9 := bthen z8 b9; obtain ⟨ca9, cb9, ct9⟩ := kc _ z9)
          | (go_at_call 24; go_fit (gxo _ z9); rintro e v10 ⟨rfl, b10⟩; have z10 : Below wc.heap.size wc v10 := bthen z9 b10; obtain ⟨ca10, cb10, ct10⟩ := kc _ z10)
          | (go_at_call 24; go_fit (gyo _ z10); rintro e v11 ⟨rfl, b11⟩; have z11 : Below wc.heap.size wc v11 := bthen z10 b11; obtain ⟨ca11, cb11, ct11⟩ := kc _ z11)
          | (go_at_call 35; go_fit (treesKeep_any _); rintro e v12 ⟨rfl, b12⟩))
        go_ret
        exact ⟨rfl, bthen (hbw.trans (z11.mono hbw.size)) b12⟩

set_option maxHeartbeats 2000000 in
set_option maxRecDepth 100000 in
theorem treeKeeps_not (T : List Pg) (tv : Value) (k v other : ByteArray) (w : World) (h : IsTree w tv T) (hg : ¬ GoodT T) :
    Calls Try.prog 8 #[tv, .string k, .string v, .string other] w fun e w' => e = .returned (.bool true) ∧ Below w.heap.size w w' := by
  have gc := fun W (hW : Below w.heap.size w W) => good_no T tv W (h.below hW) hg
  obtain ⟨sv, rfl, hs⟩ := h
  obtain ⟨so, sc, rfl⟩ := hs.shape
  clear hs hg
  generalize T.length = n at *
  have hB0 : Below w.heap.size w (w.alloc (.cells #[.slice so n sc] 39)) := balloc (Below.refl _ _) _
  have g0 := gc _ hB0
  go_enter Try.func8, Try.ntmps8
  go_wp2_with (first
    | (go_at_call 28; go_must (refine g0.mono ?_; rintro e w1 ⟨rfl, hb1⟩))
    | (go_at_call 35; go_must (go_fit (treesKeep_any _); rintro e w2 ⟨rfl, hb2⟩)))
  go_ret
  exact ⟨rfl, bthen (bthen hB0 hb1) hb2⟩

theorem treeKeeps_walk (T : List Pg) (tv : Value) (k v other : ByteArray) (w : World) (h : IsTree w tv T) (hn : T.length ≤ 1048576) :
    Calls Try.prog 8 #[tv, .string k, .string v, .string other] w fun e w' => e = .returned (.bool true) ∧ Below w.heap.size w w' := by
  by_cases hg : GoodT T
  · exact treeKeeps_good T tv k v other w h hg hn
  · exact treeKeeps_not T tv k v other w h hg

end Go.Proofs.Ytfcdkpkmkepcaaa
