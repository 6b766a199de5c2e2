/-
  2 texts of this proof in one, in build order: TJoin, TDrop.
-/
import Derived.Deep.Cut
import Derived.Deep.CutRange
import Derived.Deep.DeepCutAuto
import Derived.Test.YtkncamggdfmlnaaGreatDoorJ14
namespace Go.Proofs.YtkncamggdfmlnaaGreatDoor
open Go.RowKit

set_option maxHeartbeats 2000000 in
theorem joined_out (T : List Pg) (tv : Value) (i : Int) (w : World) (h : IsTree w tv T) (hbad : i < 0 ∨ (T.length : Int) ≤ i + 1) (hlo : -1 ≤ i) (hi : i ≤ 4611686018427387904) :
    Calls Tryz.prog 47 #[tv, .int .i64 i] w fun e w' => ∃ tv', e = .returned tv' ∧ IsTree w' tv' T ∧ Below w.heap.size w w' := by
  obtain ⟨sv, rfl, hs⟩ := h
  obtain ⟨so, scap, rfl⟩ := hs.shape
  have HS := hid hs
  clear hs
  generalize T.length = n at *
  have hB0 : Below w.heap.size w ((w.alloc (.cells #[.slice so n scap] 52)).alloc (.cells #[.slice so n scap] 52)) := ((Below.refl _ w).alloc (Nat.le_refl _) _).alloc (by simp) _
  by_cases hneg : i < 0
  · clear hbad
    go_enter Tryz.func47, Tryz.ntmps47
    go_wp2
    refine bodyPost_ret (v := .agg #[.slice so n scap]) (by simp [results, Tryz.results47, go_sem]) rfl ?_
    exact ⟨_, rfl, ⟨_, rfl, HS.out.below hB0⟩, hB0⟩
  · have hge : (n : Int) ≤ i + 1 := by omega
    clear hbad
    go_enter Tryz.func47, Tryz.ntmps47
    go_wp2
    refine bodyPost_ret (v := .agg #[.slice so n scap]) (by simp [results, Tryz.results47, go_sem]) rfl ?_
    exact ⟨_, rfl, ⟨_, rfl, HS.out.below hB0⟩, hB0⟩

theorem balloc {w W : World} (h : Below w.heap.size w W) (o : Obj) : Below w.heap.size w (W.alloc o) := h.alloc h.size o
theorem bset {w W : World} (h : Below w.heap.size w W) {p : Addr} (hp : w.heap.size ≤ p.block) (v : Value) : Below w.heap.size w (W.setCell p v) := h.setCell hp v
theorem block_alloc_is {W : World} {g : Nat} (h : W.heap.size = g) (o : Obj) : (W.alloc o).heap[g]? = some o := by rw [← h]; exact block_alloc_at W o
theorem size_a1 (W : World) (o : Obj) : (W.alloc o).heap.size = W.heap.size + 1 := World.size_alloc _ _
theorem size_a2 (W : World) (o p : Obj) : ((W.alloc o).alloc p).heap.size = W.heap.size + 1 + 1 := by rw [World.size_alloc, World.size_alloc]
theorem size_drew (W : World) : W.drew.heap.size = W.heap.size := rfl
theorem block_drew {W : World} {g : Nat} {x : Obj} (h : W.heap[g]? = some x) : W.drew.heap[g]? = some x := h

/-- slices.Concat of two lists of texts. -/
theorem concat2 (K L : List ByteArray) (s1 s2 : Value) (g cap : Nat) (w : World) (hb : w.heap[g]? = some (.cells #[s1, s2] 73)) (h1 : IsStrs w s1 K) (h2 : IsStrs w s2 L) (hl : K.length + L.length ≤ 8) :
    Calls Tryz.prog 72 #[.slice (some ⟨g, 0, none⟩) 2 cap] w fun e w' => ∃ ao c, e = .returned (.slice ao (K.length + L.length) c) ∧ IsStrs w' (.slice ao (K.length + L.length) c) (K ++ L) ∧ Below w.heap.size w w' := by
  have key := concatS [(s1, K.length, K.map .string), (s2, L.length, L.map .string)] g cap w (lt_of_block hb) (by
      intro i x hx
      match i, hx with
      | 0, hx => simp at hx; subst hx; exact cell_of_block hb rfl
      | 1, hx => simp at hx; subst hx; exact cell_of_block hb rfl
      | n + 2, hx => simp at hx) (by
      intro x hx
      simp only [List.mem_cons, List.not_mem_nil, or_false] at hx
      rcases hx with rfl | rfl
      · exact ⟨h1, strs_one K⟩
      · exact ⟨h2, strs_one L⟩) (by simp) (by simp [Parts.sum]; omega)
  refine key.mono ?_
  rintro e w' ⟨v, rfl, hr, hbl⟩
  have hsum : Parts.sum [(s1, K.length, K.map .string), (s2, L.length, L.map .string)] = K.length + L.length := by simp [Parts.sum]
  have hall : Parts.all [(s1, K.length, K.map .string), (s2, L.length, L.map .string)] = (K ++ L).map .string := by simp [Parts.all]
  rw [hsum, hall] at hr
  obtain ⟨ao, c, rfl⟩ := hr.shape
  refine ⟨ao, c, rfl, ?_, hbl⟩
  have e : (K ++ L).length = K.length + L.length := by simp
  unfold IsStrs
  rw [e]
  exact hr

/-- A page that is laid anew, or stored into a page that was laid. -/
theorem page_new {Wd w2 : World} {ko vo : Option Addr} {n kc vc : Nat} {K V : List ByteArray} (hk : IsStrs w2 (.slice ko n kc) K) (hv : IsStrs w2 (.slice vo n vc) V) (hz : Below Wd.heap.size Wd w2) :
    (w2.alloc (.cells #[.slice ko n kc, .slice vo n vc] 76)).heap[w2.heap.size]? = some (.cells #[.slice ko n kc, .slice vo n vc] 76) ∧ IsStrs (w2.alloc (.cells #[.slice ko n kc, .slice vo n vc] 76)) (.slice ko n kc) K ∧ IsStrs (w2.alloc (.cells #[.slice ko n kc, .slice vo n vc] 76)) (.slice vo n vc) V ∧ Below Wd.heap.size Wd (w2.alloc (.cells #[.slice ko n kc, .slice vo n vc] 76)) :=
  ⟨block_alloc_at _ _, hk.below (balloc (Below.refl _ _) _), hv.below (balloc (Below.refl _ _) _), balloc hz _⟩

theorem page_set {Wd w2 : World} {ko vo : Option Addr} {g n kc vc : Nat} {K V : List ByteArray} (hk : IsStrs w2 (.slice ko n kc) K) (hv : IsStrs w2 (.slice vo n vc) V) (hk0 : 0 < K.length) (hv0 : 0 < V.length) (hz : Below Wd.heap.size Wd w2) (hg : Wd.heap.size ≤ g) (p7 : w2.heap[g]? = some (.cells #[.slice none 0 0, .slice none 0 0] 76)) :
    ((w2.setCell ⟨g, 0, none⟩ (.slice ko n kc)).setCell ⟨g, 1, none⟩ (.slice vo n vc)).heap[g]? = some (.cells #[.slice ko n kc, .slice vo n vc] 76) ∧ IsStrs ((w2.setCell ⟨g, 0, none⟩ (.slice ko n kc)).setCell ⟨g, 1, none⟩ (.slice vo n vc)) (.slice ko n kc) K ∧ IsStrs ((w2.setCell ⟨g, 0, none⟩ (.slice ko n kc)).setCell ⟨g, 1, none⟩ (.slice vo n vc)) (.slice vo n vc) V ∧ Below Wd.heap.size Wd ((w2.setCell ⟨g, 0, none⟩ (.slice ko n kc)).setCell ⟨g, 1, none⟩ (.slice vo n vc)) := by
  have b1 : (w2.setCell ⟨g, 0, none⟩ (.slice ko n kc)).heap[g]? = some (.cells #[.slice ko n kc, .slice none 0 0] 76) := set_block p7 0 _
  have k1 := strs_setOther hk (strs_ne hk hk0 p7) (i := 0) (.slice ko n kc)
  have v1 := strs_setOther hv (strs_ne hv hv0 p7) (i := 0) (.slice ko n kc)
  exact ⟨set_block b1 1 _, strs_setOther k1 (strs_ne k1 hk0 b1) _, strs_setOther v1 (strs_ne v1 hv0 b1) _, bset (bset hz hg _) hg _⟩

set_option maxHeartbeats 20000000 in
theorem joined_two (A B : List Pg) (a b : Pg) (tv : Value) (w : World) (h : IsTree w tv (A ++ a :: b :: B)) (ha : a.ok) (hb : b.ok) (hn : (A ++ a :: b :: B).length * 48 ≤ 140737488355328) :
    Calls Tryz.prog 47 #[tv, .int .i64 A.length] w fun e w' => ∃ tv', e = .returned tv' ∧ IsTree w' tv' (if a.K.length + b.K.length ≤ 4 then A ++ [⟨a.K ++ b.K, a.V ++ b.V⟩] ++ B else A ++ a :: b :: B) ∧ Below w.heap.size w w' := by
  have ht0 := h
  obtain ⟨sv, rfl, hs⟩ := h
  obtain ⟨bb, off, cap, rfl, hbl, hcap, hcm, hT⟩ := hs.at (by simp <;> omega)
  obtain ⟨ak, av, c0, c1, hak, hav⟩ := hT A.length a (by simp)
  obtain ⟨bk, bv, c2, c3, hbk, hbv⟩ := hT (A.length + 1) b (by simp)
  obtain ⟨aka, akc, rfl⟩ := hak.shape
  obtain ⟨ava, avc, rfl⟩ := hav.shape
  obtain ⟨bka, bkc, rfl⟩ := hbk.shape
  obtain ⟨bva, bvc, rfl⟩ := hbv.shape
  have hlen : (A ++ a :: b :: B).length = A.length + B.length + 2 := by simp; omega
  obtain ⟨a1, a4, avl⟩ := ha
  obtain ⟨b1, b4, bvl⟩ := hb
  rw [avl] at c1 hav
  rw [bvl] at c3 hbv
  have HS := hid hs
  have HAK := hid hak
  have HAV := hid hav
  have HBK := hid hbk
  have HBV := hid hbv
  have HVL := hid (And.intro avl bvl)
  clear hs hak hav hbk hbv hT
  generalize hAl : A.length = x at *
  generalize hNl : (A ++ a :: b :: B).length = n at *
  generalize hKa : a.K.length = ka at *
  generalize hKb : b.K.length = kb at *
  clear avl bvl
  unfold maxLen at hcm
  have i0 : (0 : Int) ≤ (x : Int) := by omega
  have i1 : (x : Int) < (n : Int) := by omega
  have i2 : (x : Int) + 1 < (n : Int) := by omega
  have i3 : (0 : Int) ≤ (x : Int) + 1 := by omega
  have i4 : ((x : Int) + 1).toNat = x + 1 := by omega
  have i5 : IntKind.i64.wrap ((x : Int) + 1) = (x : Int) + 1 := by rw [IntKind.wrap_i64]; omega
  generalize hW0 : (w.alloc (.cells #[.slice (some ⟨bb, off, none⟩) n cap] 52)).alloc (.cells #[.slice none 0 0] 52) = W0
  have hB0 : Below w.heap.size w W0 := by rw [← hW0]; exact ((Below.refl _ w).alloc (Nat.le_refl _) _).alloc (by simp) _
  have hs0 : W0.heap.size = w.heap.size + 1 + 1 := by rw [← hW0]; simp
  have b0 : W0.heap[w.heap.size]? = some (.cells #[.slice (some ⟨bb, off, none⟩) n cap] 52) := by rw [← hW0]; exact block_alloc_of (block_alloc_at w _) _
  have r0 : W0.heap[w.heap.size + 1]? = some (.cells #[.slice none 0 0] 52) := by
    rw [← hW0]; have := block_alloc_at (w.alloc (.cells #[.slice (some ⟨bb, off, none⟩) n cap] 52)) (.cells #[.slice none 0 0] 52)
    rwa [World.size_alloc] at this
  have t0 := cell_of_block b0 (j := 0) rfl
  have d0 := (hB0.cell (p := ⟨bb, off + x * 2, none⟩) hbl).trans c0
  have d1 := (hB0.cell (p := ⟨bb, off + x * 2 + 1, none⟩) hbl).trans c1
  have d2 := (hB0.cell (p := ⟨bb, off + (x + 1) * 2, none⟩) hbl).trans c2
  have d3 := (hB0.cell (p := ⟨bb, off + (x + 1) * 2 + 1, none⟩) hbl).trans c3
  have hbz : bb < W0.heap.size := Nat.lt_of_lt_of_le hbl hB0.size
  clear c0 c1 c2 c3 hlen
  have ks : ∀ W, Below W0.heap.size W0 W → (W.cell? ⟨w.heap.size, 0, none⟩ = some (.slice (some ⟨bb, off, none⟩) n cap) ∧ W.cell? ⟨bb, off + x * 2, none⟩ = some (.slice aka ka akc) ∧ W.cell? ⟨bb, off + x * 2 + 1, none⟩ = some (.slice ava ka avc) ∧ W.cell? ⟨bb, off + (x + 1) * 2, none⟩ = some (.slice bka kb bkc) ∧ W.cell? ⟨bb, off + (x + 1) * 2 + 1, none⟩ = some (.slice bva kb bvc)) := fun W hW =>
    ⟨(hW.cell (p := ⟨w.heap.size, 0, none⟩) (by simp only; omega)).trans t0, (hW.cell (p := ⟨bb, off + x * 2, none⟩) hbz).trans d0, (hW.cell (p := ⟨bb, off + x * 2 + 1, none⟩) hbz).trans d1, (hW.cell (p := ⟨bb, off + (x + 1) * 2, none⟩) hbz).trans d2, (hW.cell (p := ⟨bb, off + (x + 1) * 2 + 1, none⟩) hbz).trans d3⟩
  have hA0 : w.heap.size < W0.heap.size := by omega
  have hA1 : w.heap.size + 1 < W0.heap.size := by omega
  go_enter Tryz.func47, Tryz.ntmps47
  go_upto_region 3 with fail
  clear hW0
  go_cut [5, 6] from 18 (fun s5 s6 wx => ∃ pa pb, s5 = .pointer (some ⟨pa, 0, none⟩) ∧ s6 = .pointer (some ⟨pb, 0, none⟩) ∧ wx.heap[pa]? = some (.cells #[.slice aka ka akc, .slice ava ka avc] 76) ∧ wx.heap[pb]? = some (.cells #[.slice bka kb bkc, .slice bva kb bvc] 76) ∧ Below W0.heap.size W0 wx)
  case first =>
    go_region_held3 (fun w' => w'.cell? ⟨w.heap.size, 0, none⟩ = some (.slice (some ⟨bb, off, none⟩) n cap) ∧ w'.cell? ⟨bb, off + x * 2, none⟩ = some (.slice aka ka akc) ∧ w'.cell? ⟨bb, off + x * 2 + 1, none⟩ = some (.slice ava ka avc) ∧ w'.cell? ⟨bb, off + (x + 1) * 2, none⟩ = some (.slice bka kb bkc) ∧ w'.cell? ⟨bb, off + (x + 1) * 2 + 1, none⟩ = some (.slice bva kb bvc))
      (first | exact ks _ (Below.refl _ _).drew | exact ks _ (balloc (Below.refl _ _) _).drew | exact ks _ (balloc (balloc (Below.refl _ _) _) _).drew | go_keep)
      (fail)
    all_goals
      go_wp2_with fail
      go_meet
      case rel =>
        first
          | exact ⟨_, _, rfl, rfl, block_drew (block_alloc_of (block_alloc_is hs0 _) _), block_drew (block_alloc_is (by rw [World.size_alloc, hs0]) _), (balloc (balloc (Below.refl _ _) _) _).drew⟩
          | exact ⟨_, _, rfl, rfl, block_drew (block_alloc_is (by rw [World.size_alloc, hs0]) _), block_drew (block_alloc_of (block_alloc_is hs0 _) _), (balloc (balloc (Below.refl _ _) _) _).drew⟩
  case rest =>
    obtain ⟨pa, pb, rfl, rfl, hpa, hpb, hbc⟩ := hcut
    obtain ⟨Wd, hWd⟩ : ∃ W, W = wc := ⟨_, rfl⟩
    subst hWd
    have ca0 : Wd.cell? ⟨pa, 0, none⟩ = some (.slice aka ka akc) := cell_of_block hpa rfl
    have ca1 : Wd.cell? ⟨pa, 1, none⟩ = some (.slice ava ka avc) := cell_of_block hpa rfl
    have cb0 : Wd.cell? ⟨pb, 0, none⟩ = some (.slice bka kb bkc) := cell_of_block hpb rfl
    have cb1 : Wd.cell? ⟨pb, 1, none⟩ = some (.slice bva kb bvc) := cell_of_block hpb rfl
    have ct : Wd.cell? ⟨w.heap.size, 0, none⟩ = some (.slice (some ⟨bb, off, none⟩) n cap) := (hbc.cell (p := ⟨w.heap.size, 0, none⟩) hA0).trans t0
    have cr := (hbc.block _ hA1).trans r0
    have cr0 : Wd.cell? ⟨w.heap.size + 1, 0, none⟩ = some (.slice none 0 0) := cell_of_block cr rfl
    have crf : Wd.frozen? ⟨w.heap.size + 1, 0, none⟩ = false := by simp [World.frozen?, cr]
    have hbd : Below w.heap.size w Wd := hB0.trans (hbc.mono hB0.size)
    have hA0d : w.heap.size < Wd.heap.size := Nat.lt_of_lt_of_le hA0 hbc.size
    have hA1d : w.heap.size + 1 < Wd.heap.size := Nat.lt_of_lt_of_le hA1 hbc.size
    have hpal := lt_of_block hpa
    have hpbl := lt_of_block hpb
    clear ks d0 d1 d2 d3 t0 b0 r0 hs0 hbc
    by_cases hsum : ka + kb ≤ 4
    · have j0 : (ka : Int) + (kb : Int) ≤ 4 := by omega
      have ck := fun W g (hW : Below Wd.heap.size Wd W) hb => concat2 a.K b.K (.slice aka ka akc) (.slice bka kb bkc) g 2 W hb (HAK.out.below (hbd.trans (hW.mono hbd.size))) (HBK.out.below (hbd.trans (hW.mono hbd.size))) (by omega)
      have cv := fun W g (hW : Below Wd.heap.size Wd W) hb => concat2 a.V b.V (.slice ava ka avc) (.slice bva kb bvc) g 2 W hb (HAV.out.below (hbd.trans (hW.mono hbd.size))) (HBV.out.below (hbd.trans (hW.mono hbd.size))) (by rw [HVL.out.1, HVL.out.2]; omega)
      rw [hKa, hKb] at ck
      rw [HVL.out.1, HVL.out.2] at cv
      have ks2 : ∀ W, Below Wd.heap.size Wd W → (W.cell? ⟨pa, 0, none⟩ = some (.slice aka ka akc) ∧ W.cell? ⟨pa, 1, none⟩ = some (.slice ava ka avc) ∧ W.cell? ⟨pb, 0, none⟩ = some (.slice bka kb bkc) ∧ W.cell? ⟨pb, 1, none⟩ = some (.slice bva kb bvc)) := fun W hW =>
        ⟨(hW.cell (p := ⟨pa, 0, none⟩) hpal).trans ca0, (hW.cell (p := ⟨pa, 1, none⟩) hpal).trans ca1, (hW.cell (p := ⟨pb, 0, none⟩) hpbl).trans cb0, (hW.cell (p := ⟨pb, 1, none⟩) hpbl).trans cb1⟩
      go_upto_region 6 with fail
      go_cut [7] from 18 (fun s7 wx => ∃ pc ko kc vo vc, s7 = .pointer (some ⟨pc, 0, none⟩) ∧ wx.heap[pc]? = some (.cells #[.slice ko (ka + kb) kc, .slice vo (ka + kb) vc] 76) ∧ IsStrs wx (.slice ko (ka + kb) kc) (a.K ++ b.K) ∧ IsStrs wx (.slice vo (ka + kb) vc) (a.V ++ b.V) ∧ Below Wd.heap.size Wd wx)
      case first =>
        go_region_held3 (fun w' => w'.cell? ⟨pa, 0, none⟩ = some (.slice aka ka akc) ∧ w'.cell? ⟨pa, 1, none⟩ = some (.slice ava ka avc) ∧ w'.cell? ⟨pb, 0, none⟩ = some (.slice bka kb bkc) ∧ w'.cell? ⟨pb, 1, none⟩ = some (.slice bva kb bvc))
          (with_reducible first | exact ks2 _ hz2 | exact ks2 _ (balloc hz2 _) | exact ks2 _ hz1 | exact ks2 _ (balloc hz1 _) | exact ks2 _ (balloc (balloc hz1 _) _) | exact ks2 _ (Below.refl _ _).drew | exact ks2 _ (balloc (Below.refl _ _) _).drew | exact ks2 _ (balloc (balloc (Below.refl _ _) _) _).drew | exact ks2 _ (balloc (balloc (balloc (Below.refl _ _) _) _) _).drew | exact ks2 _ (bset (bset hz2 (by simp only; omega) _) (by simp only; omega) _))
          (first
            | (go_at_call 72; refine (ck _ _ (by with_reducible first | exact (Below.refl _ _).drew | exact (balloc (Below.refl _ _) _).drew | exact (balloc (balloc (Below.refl _ _) _) _).drew | exact (balloc (balloc (balloc (Below.refl _ _) _) _) _).drew) (by with_reducible first | exact block_drew (block_alloc_is (by with_reducible first | exact rfl | exact size_a1 _ _ | exact size_a2 _ _ _) _) | exact block_drew (block_alloc_of (block_alloc_is (by with_reducible first | exact rfl | exact size_a1 _ _ | exact size_a2 _ _ _) _) _) | exact block_drew (block_alloc_of (block_alloc_of (block_alloc_is (by with_reducible first | exact rfl | exact size_a1 _ _ | exact size_a2 _ _ _) _) _) _))).mono ?_; rintro e w1 ⟨ko, kc, rfl, hk1, hb1⟩; have hz1 : Below Wd.heap.size Wd w1 := bthen (by with_reducible first | exact (Below.refl _ _).drew | exact (balloc (Below.refl _ _) _).drew | exact (balloc (balloc (Below.refl _ _) _) _).drew | exact (balloc (balloc (balloc (Below.refl _ _) _) _) _).drew) hb1; have hs1 := hb1.size; simp only [World.size_alloc, size_drew] at hs1)
            | (go_at_call 72; refine (cv _ _ (by with_reducible first | exact hz1 | exact balloc hz1 _ | exact balloc (balloc hz1 _) _) (by with_reducible first | exact block_alloc_is (by with_reducible first | exact rfl | exact size_a1 _ _ | exact size_a2 _ _ _) _ | exact block_alloc_of (block_alloc_is (by with_reducible first | exact rfl | exact size_a1 _ _ | exact size_a2 _ _ _) _) _ | exact (hb1.block _ (by simp only [World.size_alloc, size_drew]; omega)).trans (block_drew (block_alloc_is (by with_reducible first | exact rfl | exact size_a1 _ _ | exact size_a2 _ _ _) _)) | exact block_alloc_of ((hb1.block _ (by simp only [World.size_alloc, size_drew]; omega)).trans (block_drew (block_alloc_is (by with_reducible first | exact rfl | exact size_a1 _ _ | exact size_a2 _ _ _) _))) _ | exact block_alloc_of (block_alloc_of ((hb1.block _ (by simp only [World.size_alloc, size_drew]; omega)).trans (block_drew (block_alloc_is (by with_reducible first | exact rfl | exact size_a1 _ _ | exact size_a2 _ _ _) _))) _) _ | exact (hb1.block _ (by simp only [World.size_alloc, size_drew]; omega)).trans (block_drew (block_alloc_of (block_alloc_is (by with_reducible first | exact rfl | exact size_a1 _ _ | exact size_a2 _ _ _) _) _)) | exact block_alloc_of ((hb1.block _ (by simp only [World.size_alloc, size_drew]; omega)).trans (block_drew (block_alloc_of (block_alloc_is (by with_reducible first | exact rfl | exact size_a1 _ _ | exact size_a2 _ _ _) _) _))) _ | exact block_alloc_of (block_alloc_of ((hb1.block _ (by simp only [World.size_alloc, size_drew]; omega)).trans (block_drew (block_alloc_of (block_alloc_is (by with_reducible first | exact rfl | exact size_a1 _ _ | exact size_a2 _ _ _) _) _))) _) _ | exact (hb1.block _ (by simp only [World.size_alloc, size_drew]; omega)).trans (block_drew (block_alloc_of (block_alloc_of (block_alloc_is (by with_reducible first | exact rfl | exact size_a1 _ _ | exact size_a2 _ _ _) _) _) _)) | exact block_alloc_of ((hb1.block _ (by simp only [World.size_alloc, size_drew]; omega)).trans (block_drew (block_alloc_of (block_alloc_of (block_alloc_is (by with_reducible first | exact rfl | exact size_a1 _ _ | exact size_a2 _ _ _) _) _) _))) _ | exact block_alloc_of (block_alloc_of ((hb1.block _ (by simp only [World.size_alloc, size_drew]; omega)).trans (block_drew (block_alloc_of (block_alloc_of (block_alloc_is (by with_reducible first | exact rfl | exact size_a1 _ _ | exact size_a2 _ _ _) _) _) _))) _) _)).mono ?_; rintro e w2 ⟨vo, vc, rfl, hv2, hb2⟩; have hz2 : Below Wd.heap.size Wd w2 := bthen (by with_reducible first | exact hz1 | exact balloc hz1 _ | exact balloc (balloc hz1 _) _) hb2; have hk2 : IsStrs w2 (.slice ko (ka + kb) kc) (a.K ++ b.K) := (by with_reducible first | exact hk1.below hb2 | exact (hk1.below (balloc (Below.refl _ _) _)).below hb2 | exact (hk1.below (balloc (balloc (Below.refl _ _) _) _)).below hb2); have hs2 := hb2.size; (try simp only [World.size_alloc] at hs2); (first | (have p7 : w2.heap[Wd.heap.size]? = some (.cells #[.slice none 0 0, .slice none 0 0] 76) := (by with_reducible first | exact (hb2.block _ (by first | omega | (simp only [World.size_alloc]; omega))).trans ((hb1.block _ (by simp only [World.size_alloc, size_drew]; omega)).trans (block_drew (block_alloc_of (block_alloc_is (by with_reducible first | exact rfl | exact size_a1 _ _ | exact size_a2 _ _ _) _) _))) | exact (hb2.block _ (by first | omega | (simp only [World.size_alloc]; omega))).trans (block_alloc_of ((hb1.block _ (by simp only [World.size_alloc, size_drew]; omega)).trans (block_drew (block_alloc_of (block_alloc_is (by with_reducible first | exact rfl | exact size_a1 _ _ | exact size_a2 _ _ _) _) _))) _) | exact (hb2.block _ (by first | omega | (simp only [World.size_alloc]; omega))).trans ((hb1.block _ (by simp only [World.size_alloc, size_drew]; omega)).trans (block_drew (block_alloc_of (block_alloc_of (block_alloc_is (by with_reducible first | exact rfl | exact size_a1 _ _ | exact size_a2 _ _ _) _) _) _))) | exact (hb2.block _ (by first | omega | (simp only [World.size_alloc]; omega))).trans (block_alloc_of ((hb1.block _ (by simp only [World.size_alloc, size_drew]; omega)).trans (block_drew (block_alloc_of (block_alloc_of (block_alloc_is (by with_reducible first | exact rfl | exact size_a1 _ _ | exact size_a2 _ _ _) _) _) _))) _)); have p70 : w2.cell? ⟨Wd.heap.size, 0, none⟩ = some (.slice none 0 0) := cell_of_block p7 rfl; have p71 : w2.cell? ⟨Wd.heap.size, 1, none⟩ = some (.slice none 0 0) := cell_of_block p7 rfl; have p7f : w2.frozen? ⟨Wd.heap.size, 0, none⟩ = false := (by simp [World.frozen?, p7]); have p7g : w2.frozen? ⟨Wd.heap.size, 1, none⟩ = false := (by simp [World.frozen?, p7])) | (have p7 : w2.heap[Wd.heap.size + 1]? = some (.cells #[.slice none 0 0, .slice none 0 0] 76) := (by with_reducible first | exact (hb2.block _ (by first | omega | (simp only [World.size_alloc]; omega))).trans ((hb1.block _ (by simp only [World.size_alloc, size_drew]; omega)).trans (block_drew (block_alloc_is (by with_reducible first | exact rfl | exact size_a1 _ _ | exact size_a2 _ _ _) _))) | exact (hb2.block _ (by first | omega | (simp only [World.size_alloc]; omega))).trans (block_alloc_of ((hb1.block _ (by simp only [World.size_alloc, size_drew]; omega)).trans (block_drew (block_alloc_is (by with_reducible first | exact rfl | exact size_a1 _ _ | exact size_a2 _ _ _) _))) _) | exact (hb2.block _ (by first | omega | (simp only [World.size_alloc]; omega))).trans ((hb1.block _ (by simp only [World.size_alloc, size_drew]; omega)).trans (block_drew (block_alloc_of (block_alloc_is (by with_reducible first | exact rfl | exact size_a1 _ _ | exact size_a2 _ _ _) _) _))) | exact (hb2.block _ (by first | omega | (simp only [World.size_alloc]; omega))).trans (block_alloc_of ((hb1.block _ (by simp only [World.size_alloc, size_drew]; omega)).trans (block_drew (block_alloc_of (block_alloc_is (by with_reducible first | exact rfl | exact size_a1 _ _ | exact size_a2 _ _ _) _) _))) _)); have p70 : w2.cell? ⟨Wd.heap.size + 1, 0, none⟩ = some (.slice none 0 0) := cell_of_block p7 rfl; have p71 : w2.cell? ⟨Wd.heap.size + 1, 1, none⟩ = some (.slice none 0 0) := cell_of_block p7 rfl; have p7f : w2.frozen? ⟨Wd.heap.size + 1, 0, none⟩ = false := (by simp [World.frozen?, p7]); have p7g : w2.frozen? ⟨Wd.heap.size + 1, 1, none⟩ = false := (by simp [World.frozen?, p7])) | (have p7 : w2.heap[Wd.heap.size + 1 + 1]? = some (.cells #[.slice none 0 0, .slice none 0 0] 76) := (by with_reducible first | exact (hb2.block _ (by first | omega | (simp only [World.size_alloc]; omega))).trans ((hb1.block _ (by simp only [World.size_alloc, size_drew]; omega)).trans (block_drew (block_alloc_is (by with_reducible first | exact rfl | exact size_a1 _ _ | exact size_a2 _ _ _) _))) | exact (hb2.block _ (by first | omega | (simp only [World.size_alloc]; omega))).trans (block_alloc_of ((hb1.block _ (by simp only [World.size_alloc, size_drew]; omega)).trans (block_drew (block_alloc_is (by with_reducible first | exact rfl | exact size_a1 _ _ | exact size_a2 _ _ _) _))) _)); have p70 : w2.cell? ⟨Wd.heap.size + 1 + 1, 0, none⟩ = some (.slice none 0 0) := cell_of_block p7 rfl; have p71 : w2.cell? ⟨Wd.heap.size + 1 + 1, 1, none⟩ = some (.slice none 0 0) := cell_of_block p7 rfl; have p7f : w2.frozen? ⟨Wd.heap.size + 1 + 1, 0, none⟩ = false := (by simp [World.frozen?, p7]); have p7g : w2.frozen? ⟨Wd.heap.size + 1 + 1, 1, none⟩ = false := (by simp [World.frozen?, p7])) | (have p7 : w2.heap[w1.heap.size]? = some (.cells #[.slice none 0 0, .slice none 0 0] 76) := (by with_reducible first | exact (hb2.block _ (by first | omega | (simp only [World.size_alloc]; omega))).trans (block_alloc_is (by with_reducible first | exact rfl | exact size_a1 _ _ | exact size_a2 _ _ _) _) | exact (hb2.block _ (by first | omega | (simp only [World.size_alloc]; omega))).trans (block_alloc_of (block_alloc_is (by with_reducible first | exact rfl | exact size_a1 _ _ | exact size_a2 _ _ _) _) _)); have p70 : w2.cell? ⟨w1.heap.size, 0, none⟩ = some (.slice none 0 0) := cell_of_block p7 rfl; have p71 : w2.cell? ⟨w1.heap.size, 1, none⟩ = some (.slice none 0 0) := cell_of_block p7 rfl; have p7f : w2.frozen? ⟨w1.heap.size, 0, none⟩ = false := (by simp [World.frozen?, p7]); have p7g : w2.frozen? ⟨w1.heap.size, 1, none⟩ = false := (by simp [World.frozen?, p7])) | (have p7 : w2.heap[w1.heap.size + 1]? = some (.cells #[.slice none 0 0, .slice none 0 0] 76) := (by with_reducible first | exact (hb2.block _ (by first | omega | (simp only [World.size_alloc]; omega))).trans (block_alloc_is (by with_reducible first | exact rfl | exact size_a1 _ _ | exact size_a2 _ _ _) _)); have p70 : w2.cell? ⟨w1.heap.size + 1, 0, none⟩ = some (.slice none 0 0) := cell_of_block p7 rfl; have p71 : w2.cell? ⟨w1.heap.size + 1, 1, none⟩ = some (.slice none 0 0) := cell_of_block p7 rfl; have p7f : w2.frozen? ⟨w1.heap.size + 1, 0, none⟩ = false := (by simp [World.frozen?, p7]); have p7g : w2.frozen? ⟨w1.heap.size + 1, 1, none⟩ = false := (by simp [World.frozen?, p7])) | skip)))
        all_goals go_wp2_with fail
        all_goals go_meet
        all_goals
          have hK0 : 0 < (a.K ++ b.K).length := by rw [List.length_append, hKa]; omega
          have hV0 : 0 < (a.V ++ b.V).length := by rw [List.length_append, HVL.out.1]; omega
          have hsz := hz1.size
          first
            | exact ⟨_, _, _, _, _, rfl, page_new hk2 hv2 hz2⟩
            | exact ⟨_, _, _, _, _, rfl, page_set hk2 hv2 hK0 hV0 hz2 (by omega) p7⟩
      case rest =>
        obtain ⟨pc, ko, kc, vo, vc, rfl, hpc, hko, hvo, hbx⟩ := hcut
        have hbx' : Below w.heap.size w wc := hbd.trans (hbx.mono hbd.size)
        have cp0 : wc.cell? ⟨pc, 0, none⟩ = some (.slice ko (ka + kb) kc) := cell_of_block hpc rfl
        have cp1 : wc.cell? ⟨pc, 1, none⟩ = some (.slice vo (ka + kb) vc) := cell_of_block hpc rfl
        have ctx : wc.cell? ⟨w.heap.size, 0, none⟩ = some (.slice (some ⟨bb, off, none⟩) n cap) := (hbx.cell (p := ⟨w.heap.size, 0, none⟩) hA0d).trans ct
        have crx := (hbx.block _ hA1d).trans cr
        have hA1x := Nat.lt_of_lt_of_le hA1d hbx.size
        obtain ⟨W5, hW5⟩ : ∃ W5, wc.alloc (.cells #[.slice ko (ka + kb) kc, .slice vo (ka + kb) vc] 76) = W5 := ⟨_, rfl⟩
        have hz5 : Below wc.heap.size wc W5 := by rw [← hW5]; exact balloc (Below.refl _ _) _
        have b5 : W5.heap[wc.heap.size]? = some (.cells #[.slice ko (ka + kb) kc, .slice vo (ka + kb) vc] 76) := by rw [← hW5]; exact block_alloc_at wc _
        have hz45 : Below w.heap.size w W5 := hbx'.trans (hz5.mono hbx'.size)
        have rw5 := replaced_any A [a, b] B [⟨a.K ++ b.K, a.V ++ b.V⟩] _ (.slice (some ⟨wc.heap.size, 0, none⟩) 1 1) (x + 2) W5 (ht0.below hz45) (pages_one b5 (hko.below hz5) (hvo.below hz5) (by decide) (by decide)) (by simp) (by rw [hAl]; rfl) (by simp only [List.length_cons, List.length_nil]; simp only [List.length_append, List.length_cons] at hNl; omega)
        rw [hAl] at rw5
        generalize hres : A ++ [⟨a.K ++ b.K, a.V ++ b.V⟩] ++ B = R at rw5
        have r5 := (hz5.block _ hA1x).trans crx
        have hlast5 := Nat.lt_of_lt_of_le hA1x hz5.size
        have i6 : IntKind.i64.wrap ((x : Int) + 2) = ((x + 2 : Nat) : Int) := by rw [IntKind.wrap_i64]; omega
        have HRR := hid hres
        clear ck cv ks2 hpa hpb ca0 ca1 cb0 cb1 ct cr cr0 crf hko hvo hpc hres ht0
        subst hW5
        go_wp2_with (go_at_call 42; go_must (refine rw5.mono ?_; rintro e w6 ⟨tv', rfl, ⟨sv', rfl, hP⟩, hb6⟩; obtain ⟨ao, cc, rfl⟩ := hP.shape; have r6 := (hb6.block _ hlast5).trans r5; have q6 : w6.cell? ⟨w.heap.size + 1, 0, none⟩ = some (.slice none 0 0) := cell_of_block r6 rfl; have f6 : w6.frozen? ⟨w.heap.size + 1, 0, none⟩ = false := (by simp [World.frozen?, r6])))
        refine bodyPost_ret (v := .agg #[.slice ao R.length cc]) (by simp [results, Tryz.results47, go_sem, *]) rfl ?_
        have hz : Below w.heap.size w w6 := hz45.trans (hb6.mono hz45.size)
        refine ⟨_, rfl, ?_, hz.setCell (by simp) _⟩
        first | rw [if_pos hsum] | skip
        have hR : A ++ ⟨a.K ++ b.K, a.V ++ b.V⟩ :: B = R := by rw [← HRR.out]; simp
        first | rw [HRR.out] | rw [hR]
        exact ⟨_, rfl, pages_set hP r6 _⟩
    · have j0 : ¬ ((ka : Int) + (kb : Int) ≤ 4) := by omega
      have j1 : (4 : Int) < (ka : Int) + (kb : Int) := by omega
      go_wp2
      refine bodyPost_ret (v := .agg #[.slice (some ⟨bb, off, none⟩) n cap]) (by simp [results, Tryz.results47, go_sem, *]) rfl ?_
      refine ⟨_, rfl, ?_, hbd.setCell (by simp) _⟩
      first | rw [if_neg hsum] | skip
      exact ⟨_, rfl, pages_set (HS.out.below hbd) cr _⟩

end Go.Proofs.YtkncamggdfmlnaaGreatDoor

namespace Go.Proofs.YtkncamggdfmlnaaGreatDoor
open Go.RowKit

def JoinSays (w w' : World) (e : Ending) (T : List Pg) : Prop :=
  ∃ tv' T', e = .returned tv' ∧ IsTree w' tv' T' ∧ Below w.heap.size w w' ∧ (∀ p ∈ T', p.ok) ∧ flat T' = flat T ∧ T'.length ≤ T.length

/-- tree.joined: what the tree has stays. -/
theorem joined_any (T : List Pg) (tv : Value) (i : Int) (w : World) (h : IsTree w tv T) (hok : ∀ p ∈ T, p.ok) (hlo : -1 ≤ i) (hi : i ≤ 4611686018427387904) (hn : T.length * 48 ≤ 140737488355328) :
    Calls Tryz.prog 47 #[tv, .int .i64 i] w fun e w' => JoinSays w w' e T := by
  by_cases hbad : i < 0 ∨ (T.length : Int) ≤ i + 1
  · refine (joined_out T tv i w h hbad hlo hi).mono ?_
    rintro e w' ⟨tv', he, ht, hb⟩
    exact ⟨tv', T, he, ht, hb, hok, rfl, Nat.le_refl _⟩
  · obtain ⟨k, rfl⟩ : ∃ k : Nat, i = k := ⟨i.toNat, by omega⟩
    obtain ⟨a, ha⟩ : ∃ a, T[k]? = some a := ⟨_, List.getElem?_eq_getElem (by omega)⟩
    obtain ⟨b, hb⟩ : ∃ b, T[k + 1]? = some b := ⟨_, List.getElem?_eq_getElem (by omega)⟩
    have hT := split_two ha hb
    have hl : (T.take k).length = k := by rw [List.length_take]; omega
    generalize T.take k = A at hT hl
    generalize T.drop (k + 2) = B at hT
    subst hT
    subst hl
    have oa := hok a (by simp)
    have ob := hok b (by simp)
    refine (joined_two A B a b tv w h oa ob hn).mono ?_
    rintro e w' ⟨tv', he, ht, hbl⟩
    refine ⟨tv', _, he, ht, hbl, ?_⟩
    split
    · rename_i h4
      refine ⟨?_, ?_, ?_⟩
      · intro q hq
        simp only [List.mem_append, List.mem_cons, List.not_mem_nil, or_false] at hq
        rcases hq with (hq | rfl) | hq
        · exact hok q (by simp [hq])
        · refine ⟨?_, ?_, ?_⟩
          · have := oa.1; simp only [List.length_append]; omega
          · simp only [List.length_append]; exact h4
          · simp only [List.length_append, oa.2.2, ob.2.2]
        · exact hok q (by simp [hq])
      · rw [flat_append, flat_append, flat_append, flat_cons, flat_cons, flat_cons, flat_nil]
        simp only
        rw [List.zip_append oa.2.2.symm]
        simp
      · simp only [List.length_append, List.length_cons, List.length_nil]; omega
    · exact ⟨hok, rfl, Nat.le_refl _⟩

set_option maxHeartbeats 2000000 in
theorem drop_not (T : List Pg) (tv : Value) (k : ByteArray) (w : World) (h : IsTree w tv T) (hg : ¬ GoodT T) :
    Calls Tryz.prog 29 #[tv, .string k] w fun e w' => ∃ tv', e = .returned tv' ∧ IsTree w' tv' T ∧ Below w.heap.size w w' := by
  have gc := fun W (hW : Below w.heap.size w W) => good_no T tv W (h.below hW) hg
  obtain ⟨sv, rfl, hs⟩ := h
  obtain ⟨so, scap, rfl⟩ := hs.shape
  have HS := hid hs
  clear hs hg
  generalize T.length = n at *
  generalize hW0 : (w.alloc (.cells #[.slice so n scap] 52)).alloc (.cells #[.slice none 0 0] 52) = W0
  have hB0 : Below w.heap.size w W0 := by rw [← hW0]; exact ((Below.refl _ w).alloc (Nat.le_refl _) _).alloc (by simp) _
  have hs0 : W0.heap.size = w.heap.size + 1 + 1 := by rw [← hW0]; simp
  have b0 : W0.heap[w.heap.size]? = some (.cells #[.slice so n scap] 52) := by rw [← hW0]; exact block_alloc_of (block_alloc_at w _) _
  have r0 : W0.heap[w.heap.size + 1]? = some (.cells #[.slice none 0 0] 52) := by rw [← hW0]; exact block_alloc_is (size_a1 _ _) _
  have cb0 := cell_of_block b0 (j := 0) rfl
  have hA : w.heap.size < W0.heap.size := by omega
  have hA' : w.heap.size + 1 < W0.heap.size := by omega
  have g0 := gc _ hB0
  go_enter Tryz.func29, Tryz.ntmps29
  go_wp2_with (go_at_call 39; go_must (go_fit g0; rintro e w1 ⟨rfl, hb1⟩; have cb1 : w1.cell? ⟨w.heap.size, 0, none⟩ = some (.slice so n scap) := cell_of_block ((hb1.block _ hA).trans b0) rfl; have r1 := (hb1.block _ hA').trans r0; have q1 : w1.cell? ⟨w.heap.size + 1, 0, none⟩ = some (.slice none 0 0) := cell_of_block r1 rfl; have f1 : w1.frozen? ⟨w.heap.size + 1, 0, none⟩ = false := (by simp [World.frozen?, r1])))
  refine bodyPost_ret (v := .agg #[.slice so n scap]) (by simp [results, Tryz.results29, go_sem, *]) rfl ?_
  have hz : Below w.heap.size w w1 := hB0.trans (hb1.mono hB0.size)
  exact ⟨_, rfl, ⟨_, rfl, pages_set (HS.out.below hz) r1 _⟩, hz.setCell (by simp) _⟩

set_option maxHeartbeats 2000000 in
theorem drop_absent (T : List Pg) (tv : Value) (k : ByteArray) (pg pl : Nat) (w : World) (h : IsTree w tv T) (hg : GoodT T) (fi : FindIs T k pg pl false) :
    Calls Tryz.prog 29 #[tv, .string k] w fun e w' => ∃ tv', e = .returned tv' ∧ IsTree w' tv' T ∧ Below w.heap.size w w' := by
  have gc := fun W (hW : Below w.heap.size w W) => good_yes T tv W (h.below hW) hg
  have fc := fun W (hW : Below w.heap.size w W) => fi tv W (h.below hW)
  obtain ⟨sv, rfl, hs⟩ := h
  obtain ⟨so, scap, rfl⟩ := hs.shape
  have HS := hid hs
  clear hs hg fi
  generalize T.length = n at *
  generalize hW0 : (w.alloc (.cells #[.slice so n scap] 52)).alloc (.cells #[.slice none 0 0] 52) = W0
  have hB0 : Below w.heap.size w W0 := by rw [← hW0]; exact ((Below.refl _ w).alloc (Nat.le_refl _) _).alloc (by simp) _
  have hs0 : W0.heap.size = w.heap.size + 1 + 1 := by rw [← hW0]; simp
  have b0 : W0.heap[w.heap.size]? = some (.cells #[.slice so n scap] 52) := by rw [← hW0]; exact block_alloc_of (block_alloc_at w _) _
  have r0 : W0.heap[w.heap.size + 1]? = some (.cells #[.slice none 0 0] 52) := by rw [← hW0]; exact block_alloc_is (size_a1 _ _) _
  have cb0 := cell_of_block b0 (j := 0) rfl
  have hA : w.heap.size < W0.heap.size := by omega
  have hA' : w.heap.size + 1 < W0.heap.size := by omega
  have g0 := gc _ hB0
  go_enter Tryz.func29, Tryz.ntmps29
  go_wp2_with (first
    | (go_at_call 39; go_must (go_fit g0; rintro e w1 ⟨rfl, hb1⟩; have bb1 := (hb1.block _ hA).trans b0; have cb1 : w1.cell? ⟨w.heap.size, 0, none⟩ = some (.slice so n scap) := cell_of_block bb1 rfl; have r1 := (hb1.block _ hA').trans r0; have hz1 := hB0.trans (hb1.mono hB0.size)))
    | (go_at_call 40; go_must (go_fit (fc _ hz1); rintro e w2 ⟨rfl, hb2⟩; have cb2 : w2.cell? ⟨w.heap.size, 0, none⟩ = some (.slice so n scap) := cell_of_block ((hb2.block _ (lt_of_block bb1)).trans bb1) rfl; have r2 := (hb2.block _ (lt_of_block r1)).trans r1; have q2 : w2.cell? ⟨w.heap.size + 1, 0, none⟩ = some (.slice none 0 0) := cell_of_block r2 rfl; have f2 : w2.frozen? ⟨w.heap.size + 1, 0, none⟩ = false := (by simp [World.frozen?, r2]))))
  refine bodyPost_ret (v := .agg #[.slice so n scap]) (by simp [results, Tryz.results29, go_sem, *]) rfl ?_
  have hz : Below w.heap.size w w2 := hz1.trans (hb2.mono hz1.size)
  exact ⟨_, rfl, ⟨_, rfl, pages_set (HS.out.below hz) r2 _⟩, hz.setCell (by simp) _⟩

end Go.Proofs.YtkncamggdfmlnaaGreatDoor

