/-
  3 texts of this proof in one, in build order: TRange, Plain, Compare.
-/
import Derived.Maps.AppendAt
import Derived.Deep.Cut
import Derived.Deep.DeepFit
import Derived.WalkKit
import Derived.Lib.Bytealg
import Derived.Lib.IndexLaws
import Derived.Test.YtkncamggdfmlnaaGreatDoorRows
import Derived.WalkSpells
import Derived.WalkLawsBesides
import Derived.Deep.RegionHeld3
import Derived.Test.YtkncamggdfmlnaaGreatDoorJ01
import Derived.Test.YtkncamggdfmlnaaGreatDoorJ04
namespace Go.Proofs.YtkncamggdfmlnaaGreatDoor
open Go.RowKit

/-- Is a key between two? -/
def rq (lo hi : ByteArray) (x : ByteArray × ByteArray) : Bool := !klt x.1 lo && klt x.1 hi
def rng (T : List Pg) (lo hi : ByteArray) : List (ByteArray × ByteArray) := (flat T).filter (rq lo hi)

theorem flat_take {T : List Pg} {k : Nat} {p : Pg} (h : T[k]? = some p) : flat (T.take (k + 1)) = flat (T.take k) ++ p.K.zip p.V := by
  rw [List.take_add_one, h, flat_append]
  simp [flat]

theorem rng_none {T : List Pg} {lo hi : ByteArray} (h : ∀ p ∈ T, p.ok) (hk : ∀ x ∈ keysT T, klt x lo = true ∨ klt x hi = false) : rng T lo hi = [] := by
  refine filter_none fun x hx => ?_
  have : x.1 ∈ keysT T := by rw [← keys_flat h]; exact List.mem_map.2 ⟨x, hx, rfl⟩
  unfold rq
  rcases hk _ this with e | e <;> simp [e]

/-- A page between two keys. -/
theorem page_parts {p : Pg} (hok : p.ok) (hr : Rise p.K) {lo hi : ByteArray} (hlh : klt lo hi = true) (hl : klt (lastK p) lo = false) :
    ∃ K1 M K4 V1 MV V4, p.K = K1 ++ (M ++ K4) ∧ p.V = V1 ++ (MV ++ V4) ∧ V1.length = K1.length ∧ MV.length = M.length ∧ (∀ x ∈ K1, klt x lo = true) ∧ (∀ x ∈ M ++ K4, klt x lo = false) ∧ (∀ x ∈ K1 ++ M, klt x hi = true) ∧ (∀ x ∈ K4, klt x hi = false) ∧ 0 < (M ++ K4).length ∧ (p.K.zip p.V).filter (rq lo hi) = M.zip MV := by
  obtain ⟨K1, K2, e, h1, h2⟩ := split_rise p.K hr lo
  have hr2 : Rise K2 := by rw [e] at hr; exact (rise_append.1 hr).2.1
  obtain ⟨M, K4, rfl, h3, h4⟩ := split_rise K2 hr2 hi
  have hvl := hok.2.2
  rw [e] at hvl
  simp only [List.length_append] at hvl
  refine ⟨K1, M, K4, p.V.take K1.length, (p.V.drop K1.length).take M.length, (p.V.drop K1.length).drop M.length, e, ?_, by simp; omega, by simp; omega, h1, h2, ?_, h4, ?_, ?_⟩
  · rw [List.take_append_drop, List.take_append_drop]
  · intro x hx
    rcases List.mem_append.1 hx with hx | hx
    · exact klt_trans (h1 x hx) hlh
    · exact h3 x hx
  · rcases Nat.eq_zero_or_pos (M ++ K4).length with h0 | h0
    · exfalso
      have := List.eq_nil_of_length_eq_zero h0
      rw [this, List.append_nil] at e
      have := h1 (lastK p) (by have := lastK_mem hok; rw [e] at this; exact this)
      rw [hl] at this; cases this
    · exact h0
  · have ev : p.V = p.V.take K1.length ++ ((p.V.drop K1.length).take M.length ++ (p.V.drop K1.length).drop M.length) := by rw [List.take_append_drop, List.take_append_drop]
    conv => lhs; rw [e, ev]
    rw [List.zip_append (by simp; omega), List.zip_append (by simp; omega), List.filter_append, List.filter_append]
    rw [filter_none (l := K1.zip _) fun x hx => by unfold rq; rw [h1 _ (List.of_mem_zip hx).1]; rfl]
    rw [filter_none (l := K4.zip _) fun x hx => by unfold rq; rw [h4 _ (List.of_mem_zip hx).1]; simp]
    rw [filter_all (l := M.zip _) fun x hx => by unfold rq; rw [h2 _ (List.mem_append_left _ (List.of_mem_zip hx).1), h3 _ (List.of_mem_zip hx).1]; rfl]
    simp

theorem strs_mid {w : World} {b off cap : Nat} {A M B : List ByteArray} (h : IsStrs w (.slice (some ⟨b, off, none⟩) (A ++ (M ++ B)).length cap) (A ++ (M ++ B))) : ∀ j u, (M.map Value.string)[j]? = some u → w.cell? ((⟨b, off + A.length, none⟩ : Addr).add j) = some u := by
  intro j u hj
  have hjl := (List.getElem?_eq_some_iff.1 hj).1
  simp only [List.length_map] at hjl
  obtain ⟨b', off', c, e, _, _, _, hc⟩ := h.at (by simp; omega)
  simp only [Value.slice.injEq, Option.some.injEq, Addr.mk.injEq] at e
  obtain ⟨⟨rfl, rfl, _⟩, _, rfl⟩ := e
  rw [Addr.add_lit, Nat.add_assoc]
  rw [List.getElem?_map] at hj
  cases hx : M[j]? with
  | none => rw [hx] at hj; cases hj
  | some s =>
    rw [hx] at hj
    have := hc (A.length + j) s (by rw [List.getElem?_append_right (by omega), Nat.add_sub_cancel_left, List.getElem?_append_left hjl]; exact hx)
    rw [this]; exact hj

theorem own_grown {w w' : World} {base : Nat} {e : TypeId} {size : Nat} {v : Value} {n : Nat} {xs : List Value} {r : Option Nat} (h : w.ownsRow base e size v n xs) (hg : w.grownBy w' r) (hne : r = none ∨ v.ownBlock ≠ r) : w'.ownsRow base e size v n xs := by
  obtain ⟨h1, h2⟩ := h
  refine ⟨h1, ?_⟩
  rcases h2 with h2 | ⟨g, cap, cur, hv, hgb, hh, rest⟩
  · exact .inl h2
  · refine .inr ⟨g, cap, cur, hv, hgb, (hg.block g (lt_of_block hh) ?_).trans hh, rest⟩
    rcases hne with rfl | hne
    · simp
    · rw [hv] at hne; simpa [Value.ownBlock] using hne

theorem own_apart {a8 a9 b8 b9 : Option Nat} {h4 h5 : Nat} (h : a8 = none ∨ a8 ≠ a9) (e8 : b8 = a8 ∨ b8 = some h4) (e9 : b9 = a9 ∨ b9 = some h5) (l8 : ∀ k, b8 = some k → k < h5) (l9 : ∀ k, a9 = some k → k < h4) : (b8 = none ∨ b8 ≠ b9) ∧ (a9 = none ∨ b8 ≠ a9) := by
  have hb : b8 = none ∨ b8 ≠ a9 := by
    rcases e8 with rfl | rfl
    · exact h
    · right; intro e; have := l9 _ e.symm; omega
  refine ⟨?_, ?_⟩
  · rcases e9 with rfl | rfl
    · exact hb
    · right; intro e; have := l8 _ e; omega
  · rcases hb with e | e
    · cases a9 with
      | none => exact .inl rfl
      | some k => right; rw [e]; simp
    · exact .inr e

/-- What is told of Range. -/
def RangeSays (w w' : World) (e : Ending) (R : List (ByteArray × ByteArray)) : Prop :=
  ∃ kv vv, e = .returned (.tuple #[kv, vv]) ∧ IsStrs w' kv (R.map Prod.fst) ∧ IsStrs w' vv (R.map Prod.snd) ∧ Below w.heap.size w w'

set_option maxHeartbeats 4000000 in
theorem range_good (T : List Pg) (tv : Value) (lo hi : ByteArray) (w : World) (h : IsTree w tv T) (hg : GoodT T) (hlh : klt lo hi = true) (hn : T.length ≤ 1048576) (h0 : 0 < T.length) :
    Calls Tryz.prog 32 #[tv, .string lo, .string hi] w fun e w' => RangeSays w w' e (rng T lo hi) := by
  obtain ⟨i0, hi0, hz0, hz1, hz2⟩ := info_parts info_string
  have gc := fun W (hW : Below w.heap.size w W) => good_yes T tv W (h.below hW) hg
  have pc := fun W (hW : Below w.heap.size w W) => pageFrom_any T tv lo W (h.below hW) hg (by omega)
  obtain ⟨A, B, eT, hcA, hA, hB⟩ := split_pages T hg lo
  change pf T lo = A.length at hcA
  rw [hcA] at pc
  obtain ⟨sv, rfl, hs⟩ := h
  obtain ⟨b, off, cap, rfl, hbl, hcap, hcm, hT⟩ := hs.at h0
  have hlh' : Op.bytesLess lo.toList hi.toList = true := hlh
  generalize hW0 : w.alloc (.cells #[.slice (some ⟨b, off, none⟩) T.length cap] 52) = W0
  have hB0 : Below w.heap.size w W0 := by rw [← hW0]; exact (Below.refl _ w).alloc (Nat.le_refl _) _
  have b0 : W0.heap[w.heap.size]? = some (.cells #[.slice (some ⟨b, off, none⟩) T.length cap] 52) := by rw [← hW0]; exact block_alloc_at w _
  have cb0 : W0.cell? ⟨w.heap.size, 0, none⟩ = some (.slice (some ⟨b, off, none⟩) T.length cap) := cell_of_block b0 rfl
  have hA0 := lt_of_block b0
  have g0 := gc _ hB0
  have hAT : A.length ≤ T.length := by rw [eT]; simp
  have hstart : rng (T.take A.length) lo hi = [] := by
    have e : T.take A.length = A := by rw [eT]; simp
    rw [e]
    exact rng_none (fun q hq => hg.1 q (by rw [eT]; simp [hq])) fun x hx => .inl (hA x hx)
  have hpage : ∀ k p, A.length ≤ k → T[k]? = some p → klt (lastK p) lo = false := by
    intro k p hk hp
    rw [eT, List.getElem?_append_right hk] at hp
    exact hB p (List.mem_of_getElem? hp)
  have HPg := hid hpage
  have HSt := hid hstart
  have HG := hid hg
  have HT := hid hT
  have HLH := hid hlh
  clear hpage hstart hg hT hs gc eT hA hB hcA
  generalize hN : T.length = n at *
  have HN := hid hN
  clear hN
  generalize A.length = a at *
  unfold maxLen at hcm
  go_enter Tryz.func32, Tryz.ntmps32
  go_wp2_with (first
    | (go_at_call 39; go_must (go_fit g0; rintro e w1 ⟨rfl, hb1⟩; have cb1 := (hb1.cell (p := ⟨w.heap.size, 0, none⟩) hA0).trans cb0; have hbz := hB0.trans (hb1.mono hB0.size); have hZ1 := Nat.lt_of_lt_of_le hA0 hb1.size))
    | (go_at_call 56; go_must (go_fit (pc _ hbz); rintro e w2 ⟨rfl, hb2⟩; have cb2 := (hb2.cell (p := ⟨w.heap.size, 0, none⟩) hZ1).trans cb1; have hbz2 := hbz.trans (hb2.mono hbz.size); have hZ2 := Nat.lt_of_lt_of_le hZ1 hb2.size)))
  go_loopw [8, 9, 10] (fun z8 z9 i wr => ∃ (k : Nat) (KL VL : List ByteArray), a ≤ k ∧ k ≤ n ∧ i = .int .i64 k ∧ KL.length ≤ 4 * k ∧ VL.length = KL.length ∧ wr.ownsRow w2.heap.size 9 1 z8 KL.length (KL.map .string) ∧ wr.ownsRow w2.heap.size 9 1 z9 VL.length (VL.map .string) ∧ (z8.ownBlock = none ∨ z8.ownBlock ≠ z9.ownBlock) ∧ Below w2.heap.size w2 wr ∧ Hid (KL = (rng (T.take k) lo hi).map Prod.fst ∧ VL = (rng (T.take k) lo hi).map Prod.snd)) (fun _ _ i _ => n - (intOf i).toNat)
  case atStart => exact ⟨a, [], [], Nat.le_refl _, hAT, rfl, by simp, rfl, World.ownsRow_nil _ _ _ _, World.ownsRow_nil _ _ _ _, .inl rfl, Below.refl _ _, hid (by rw [HSt.out]; exact ⟨rfl, rfl⟩)⟩
  case round =>
    obtain ⟨k, KL, VL, hak, hkn, rfl, h4k, hvl, own8, own9, hdis, hbel, HR⟩ := hrel
    have hbw : Below w.heap.size w wr := hbz2.trans (hbel.mono hbz2.size)
    have cbr : wr.cell? ⟨w.heap.size, 0, none⟩ = some (.slice (some ⟨b, off, none⟩) n cap) := (hbel.cell (p := ⟨w.heap.size, 0, none⟩) hZ2).trans cb2
    have hbr : b < wr.heap.size := Nat.lt_of_lt_of_le hbl hbw.size
    by_cases hlt : k < n
    · obtain ⟨p, hp⟩ : ∃ p, T[k]? = some p := ⟨_, List.getElem?_eq_getElem (by rw [HN.out]; omega)⟩
      obtain ⟨hok, hrise⟩ := HG.out.page hp
      obtain ⟨kv, vv, d0, d1, hk1, hv1⟩ := HT.out k p hp
      have hk := hk1.below hbw
      have hv := hv1.below hbw
      have c0 := (hbw.cell (p := ⟨b, off + k * 2, none⟩) hbl).trans d0
      have c1 := (hbw.cell (p := ⟨b, off + k * 2 + 1, none⟩) hbl).trans d1
      clear hk1 d0 d1
      obtain ⟨kb, ko, kc, rfl, hkb, hkc, hkm, hkcell⟩ := hk.at hok.1
      obtain ⟨vb, vo, vc, rfl, hvb, hvc, hvm, hvcell⟩ := hv.at (by rw [hok.2.2]; exact hok.1)
      have cf : wr.cell? ⟨kb, ko, none⟩ = some (.string (firstK p)) := by have := hkcell 0 _ (firstK_at hok.1); rwa [Nat.add_zero] at this
      have g0' : (0 : Int) < (p.K.length : Int) := by have := hok.1; omega
      have j0 : (0 : Int) ≤ (k : Int) := by omega
      have j1 : (k : Int) < (n : Int) := by omega
      clear hkcell hvcell
      cases hf : klt (firstK p) hi
      · have hf' : Op.bytesLess (firstK p).toList hi.toList = false := hf
        have hend : rng T lo hi = rng (T.take k) lo hi := by
          have hd : rng (T.drop k) lo hi = [] := by
            have hgd : GoodT (T.take k ++ T.drop k) := by rw [List.take_append_drop]; exact HG.out
            refine rng_none (hgd.part.2.1) fun x hx => .inr ?_
            have hkT : k < T.length := by rw [HN.out]; omega
            have hpe : T[k] = p := by rw [List.getElem?_eq_getElem hkT] at hp; simpa using hp
            rw [List.drop_eq_getElem_cons hkT, hpe] at hx
            have hr := hgd.part.2.2
            rw [List.drop_eq_getElem_cons hkT, hpe, keysT_cons] at hr
            rw [keysT_cons] at hx
            have hge : x = firstK p ∨ klt (firstK p) x = true := by
              rcases List.mem_append.1 hx with hx | hx
              · exact firstK_min hrise hx
              · exact .inr ((rise_append.1 hr).2.2 _ (firstK_mem hok) x hx)
            rcases hge with rfl | hge
            · exact hf
            · cases hxh : klt x hi with
              | false => rfl
              | true => have := klt_trans hge hxh; rw [hf] at this; cases this
          have e : rng T lo hi = rng (T.take k ++ T.drop k) lo hi := by rw [List.take_append_drop]
          rw [e, rng, flat_append, List.filter_append]
          show _ ++ rng (T.drop k) lo hi = _
          rw [hd, List.append_nil]; rfl
        have HE := hid hend
        clear hend
        go_wp2
        go_ret2
        refine ⟨_, _, rfl, ?_, ?_, hbw⟩
        · rw [HE.out, ← HR.out.1]; exact IsRow.of_own own8
        · rw [HE.out, ← HR.out.2]; exact IsRow.of_own own9
      · have hf' : Op.bytesLess (firstK p).toList hi.toList = true := hf
        obtain ⟨K1, M, K4, V1, MV, V4, eK, eV, l1, lM, q1, q2, q3, q4, q5, hfil⟩ := page_parts hok hrise HLH.out (HPg.out k p hak hp)
        have sr1 := fun W (hW : Below wr.heap.size wr W) => search_any K1 (M ++ K4) lo _ W (by rw [← eK]; exact hk.below hW) q1 q2 (by rw [← eK]; exact hok.2.1)
        have sr2 := fun W (hW : Below wr.heap.size wr W) => search_any (K1 ++ M) K4 hi _ W (by rw [List.append_assoc, ← eK]; exact hk.below hW) q3 q4 (by rw [List.append_assoc, ← eK]; exact hok.2.1)
        have nk := fun W (hW : Below wr.heap.size wr W) => strs_mid (A := K1) (M := M) (B := K4) (b := kb) (off := ko) (cap := kc) (w := W) (by rw [← eK]; exact hk.below hW)
        have nv := fun W (hW : Below w.heap.size w W) => strs_mid (A := V1) (M := MV) (B := V4) (b := vb) (off := vo) (cap := vc) (w := W) (by rw [← eV]; exact hv1.below hW)
        rw [l1] at nv
        have hkl : p.K.length = K1.length + M.length + K4.length := by rw [eK]; simp; omega
        have hlen4 := hok.2.1
        have hvk := hok.2.2
        have q5' : 0 < M.length + K4.length := by simpa using q5
        have HN1 := hid (show (rng (T.take (k + 1)) lo hi).map Prod.fst = KL ++ M ∧ (rng (T.take (k + 1)) lo hi).map Prod.snd = VL ++ MV by
          rw [HR.out.1, HR.out.2, rng, flat_take hp, List.filter_append, hfil, List.map_append, List.map_append, List.map_fst_zip (by omega), List.map_snd_zip (by omega)]
          exact ⟨rfl, rfl⟩)
        have tl : (K1 ++ M).length = K1.length + M.length := by simp
        rw [tl] at sr2
        clear eK eV q1 q2 q3 q4 q5 hfil hp hk hv hv1 hrise l1 tl
        have HMV := hid lM
        generalize hpl : p.K.length = pl at *
        generalize hpv : p.V.length = pv at *
        generalize K1.length = f at *
        generalize hml : M.length = ml at *
        generalize K4.length = x4 at *
        generalize decide ((M ++ K4).head? = some lo) = t1 at sr1
        generalize decide (K4.head? = some hi) = t2 at sr2
        unfold maxLen at hkm hvm
        have u0 : (0 : Int) ≤ (f : Int) := by omega
        have u1 : (f : Int) ≤ (f : Int) + (ml : Int) := by omega
        have u2 : (f : Int) + (ml : Int) ≤ (kc : Int) := by omega
        have u3 : (f : Int) + (ml : Int) ≤ (vc : Int) := by omega
        have u6 : ((f : Int) + (ml : Int)).toNat = f + ml := by omega
        have u7 : (0 : Int) ≤ (f : Int) + (ml : Int) := by omega
        have u4 : ¬ (kc = f) := by omega
        have u5 : ¬ (vc = f) := by omega
        have HKS := hid (And.intro hkl (And.intro hvk hml))
        have hfm : f + ml - f = ml := by omega
        have hmv : MV.length = ml := lM
        have hk4 : KL.length + ml ≤ 4 * (k + 1) := by omega
        clear hkl hvk lM hml hpl hpv
        obtain ⟨W1, hW1⟩ : ∃ W1, wr.alloc (.cells #[.slice (some ⟨kb, ko, none⟩) pl kc, .slice (some ⟨vb, vo, none⟩) pv vc] 76) = W1 := ⟨_, rfl⟩
        have hy1 : Below wr.heap.size wr W1 := by rw [← hW1]; exact (Below.refl _ _).alloc (Nat.le_refl _) _
        have w1b : W1.heap[wr.heap.size]? = some (.cells #[.slice (some ⟨kb, ko, none⟩) pl kc, .slice (some ⟨vb, vo, none⟩) pv vc] 76) := by rw [← hW1]; exact block_alloc_at wr _
        have w1k : W1.cell? ⟨wr.heap.size, 0, none⟩ = some (.slice (some ⟨kb, ko, none⟩) pl kc) := cell_of_block w1b rfl
        have w1l := lt_of_block w1b
        go_upto_region 10 with (first
          | (go_at_call 57; go_fit (sr1 W1 hy1); rintro e w3 ⟨rfl, hb3⟩; have b3 := (hb3.block _ w1l).trans w1b; have k3 : w3.cell? ⟨wr.heap.size, 0, none⟩ = some (.slice (some ⟨kb, ko, none⟩) pl kc) := cell_of_block b3 rfl; have hy3 := hy1.trans (hb3.mono hy1.size); have l3 := lt_of_block b3)
          | (go_at_call 57; go_fit (sr2 w3 hy3); rintro e w4 ⟨rfl, hb4⟩; have b4 := (hb4.block _ l3).trans b3; have k4 : w4.cell? ⟨wr.heap.size, 0, none⟩ = some (.slice (some ⟨kb, ko, none⟩) pl kc) := cell_of_block b4 rfl; have hy4 := hy3.trans (hb4.mono hy3.size)))
        have o84 : w4.ownsRow w2.heap.size 9 1 u8 KL.length (KL.map .string) := ownsRow_below own8 hy4
        have o94 : w4.ownsRow w2.heap.size 9 1 u9 VL.length (VL.map .string) := ownsRow_below own9 hy4
        have nk4 := nk w4 hy4
        have hw24 : w2.heap.size ≤ w4.heap.size := Nat.le_trans hbel.size hy4.size
        clear sr1 sr2 nk hcap
        go_wp2_with (at_builtin; go_must (refine wpList_append_own_at _ rfl _ _ 73 rfl w2.heap.size 9 i0 (.string ⟨#[]⟩) 1 16 Tryz.underlying73 hi0 hz0 hz1 hz2 rfl (by decide) _ _ _ rfl o84 ⟨kb, ko + f, none⟩ ml (kc - f) (M.map .string) (by first | rfl | (simp; done)) (by simp; exact HKS.out.2.2) nk4 (strs_one _) (by simp only [maxLen]; omega) (by omega) hw24 ?_))
        intro z8 w5 o85 gr8 _ at8
        have h5l : ∀ j, z8.ownBlock = some j → j < w5.heap.size := fun j hj => (o85.lt j hj).2
        have h4l : ∀ j, u9.ownBlock = some j → j < w4.heap.size := fun j hj => (o94.lt j hj).2
        have o95 : w5.ownsRow w2.heap.size 9 1 u9 VL.length (VL.map .string) := own_grown o94 gr8 (by rcases hdis with e | e; exact .inl e; exact .inr (Ne.symm e))
        have b5 : w5.heap[wr.heap.size]? = some (.cells #[.slice (some ⟨kb, ko, none⟩) pl kc, .slice (some ⟨vb, vo, none⟩) pv vc] 76) := (gr8.block _ (lt_of_block b4) (own_ne o84 b4 (by decide))).trans b4
        have v5 : w5.cell? ⟨wr.heap.size, 1, none⟩ = some (.slice (some ⟨vb, vo, none⟩) pv vc) := cell_of_block b5 rfl
        have hz5 : Below w2.heap.size w2 w5 := (hbel.trans (hy4.mono hbel.size)).grown gr8 hw24 (fun j hj => (o84.lt j hj).1)
        have hz05 : Below w.heap.size w w5 := hbz2.trans (hz5.mono hbz2.size)
        have nv5 := nv w5 hz05
        have hw25 : w2.heap.size ≤ w5.heap.size := hz5.size
        clear nv nk4 o84 w1k k3 k4 hW1
        go_wp2_with (at_builtin; go_must (refine wpList_append_own_at _ rfl _ _ 73 rfl w2.heap.size 9 i0 (.string ⟨#[]⟩) 1 16 Tryz.underlying73 hi0 hz0 hz1 hz2 rfl (by decide) _ _ _ rfl o95 ⟨vb, vo + f, none⟩ ml (vc - f) (MV.map .string) (by first | rfl | (simp; done)) (by simp; exact hmv) nv5 (strs_one _) (by simp only [maxLen]; omega) (by omega) hw25 ?_))
        intro z9 w6 o96 gr9 _ at9
        obtain ⟨ap1, ap2⟩ := own_apart hdis at8 at9 h5l h4l
        have o86 := own_grown o85 gr9 ap2
        have hz6 : Below w2.heap.size w2 w6 := hz5.grown gr9 hw25 (fun j hj => (o95.lt j hj).1)
        go_wp2
        go_roundw
        case rel =>
          refine ⟨k + 1, KL ++ M, VL ++ MV, by omega, by omega, by go_num, ?_, ?_, ?_, ?_, ap1, hz6, hid ⟨HN1.out.1.symm, HN1.out.2.symm⟩⟩
          · rw [List.length_append, HKS.out.2.2]; exact hk4
          · rw [List.length_append, List.length_append, HKS.out.2.2, hmv, hvl]
          · rw [List.length_append, List.map_append, HKS.out.2.2]; exact o86
          · rw [List.length_append, List.map_append, hmv]; first | exact o96 | (rw [hvl]; exact o96)
        case measure => simp [intOf]; omega
    · have hkn' : k = n := by omega
      subst hkn'
      have hend : rng T lo hi = rng (T.take k) lo hi := by rw [← HN.out, List.take_length]
      have HE := hid hend
      clear hend
      go_wp2
      go_ret2
      refine ⟨_, _, rfl, ?_, ?_, hbw⟩
      · rw [HE.out, ← HR.out.1]; exact IsRow.of_own own8
      · rw [HE.out, ← HR.out.2]; exact IsRow.of_own own9

set_option maxHeartbeats 1000000 in
theorem range_not (n : Nat) (so : Option Addr) (sc : Nat) (lo hi : ByteArray) (w : World) (bad : Bool) (g0 : Calls Tryz.prog 39 #[.agg #[.slice so n sc]] (w.alloc (.cells #[.slice so n sc] 52)) fun e w' => e = .returned (.bool bad) ∧ Below (w.alloc (.cells #[.slice so n sc] 52)).heap.size (w.alloc (.cells #[.slice so n sc] 52)) w') (hb : bad = false ∨ klt lo hi = false) :
    Calls Tryz.prog 32 #[.agg #[.slice so n sc], .string lo, .string hi] w fun e w' => RangeSays w w' e [] := by
  have hB0 : Below w.heap.size w (w.alloc (.cells #[.slice so n sc] 52)) := (Below.refl _ w).alloc (Nat.le_refl _) _
  cases bad
  · go_enter Tryz.func32, Tryz.ntmps32
    go_wp2_with (go_at_call 39; go_must (go_fit g0; rintro e w1 ⟨rfl, hb1⟩))
    go_ret2
    exact ⟨_, _, rfl, IsRow.nil 1 _, IsRow.nil 1 _, hB0.trans (hb1.mono hB0.size)⟩
  · have hl : Op.bytesLess lo.toList hi.toList = false := by rcases hb with h | h; cases h; exact h
    go_enter Tryz.func32, Tryz.ntmps32
    go_wp2_with (go_at_call 39; go_must (go_fit g0; rintro e w1 ⟨rfl, hb1⟩))
    go_ret2
    exact ⟨_, _, rfl, IsRow.nil 1 _, IsRow.nil 1 _, hB0.trans (hb1.mono hB0.size)⟩

set_option maxHeartbeats 1000000 in
theorem range_empty (so : Option Addr) (sc : Nat) (lo hi : ByteArray) (w : World) (h : IsTree w (.agg #[.slice so 0 sc]) []) (hlh : klt lo hi = true) :
    Calls Tryz.prog 32 #[.agg #[.slice so 0 sc], .string lo, .string hi] w fun e w' => RangeSays w w' e [] := by
  have hl : Op.bytesLess lo.toList hi.toList = true := hlh
  have hge : GoodT [] := ⟨by simp, by simp [keysT, Rise]⟩
  have hB0 : Below w.heap.size w (w.alloc (.cells #[.slice so 0 sc] 52)) := (Below.refl _ w).alloc (Nat.le_refl _) _
  have g0 := good_yes [] _ _ (h.below hB0) hge
  have pc := fun W (hW : Below w.heap.size w W) => pageFrom_any [] _ lo W (h.below hW) hge (by decide)
  change ∀ W, _ → Calls Tryz.prog 56 _ W fun e w' => e = .returned (.int .i64 ((0 : Nat) : Int)) ∧ _ at pc
  go_enter Tryz.func32, Tryz.ntmps32
  go_wp2_with (first
    | (go_at_call 39; go_must (go_fit g0; rintro e w1 ⟨rfl, hb1⟩; have cb1 : w1.cell? ⟨w.heap.size, 0, none⟩ = some (.slice so 0 sc) := cell_of_block ((hb1.block _ (by simp)).trans (block_alloc_at w _)) rfl; have hbz := hB0.trans (hb1.mono hB0.size); have hZ1 : w.heap.size < w1.heap.size := block_lt_of_cell cb1))
    | (go_at_call 56; go_must (go_fit (pc _ hbz); rintro e w2 ⟨rfl, hb2⟩; have cb2 := (hb2.cell (p := ⟨w.heap.size, 0, none⟩) hZ1).trans cb1)))
  refine wp_loop_rounds 1 ?_
  rw [rounds_succ]
  go_wp2
  go_ret2
  exact ⟨_, _, rfl, IsRow.nil 1 _, IsRow.nil 1 _, hbz.trans (hb2.mono hbz.size)⟩

/-- What Range has. -/
def rans (g : Bool) (T : List Pg) (lo hi : ByteArray) : List (ByteArray × ByteArray) := if g then rng T lo hi else []

theorem rng_le (T : List Pg) (lo hi : ByteArray) (h : klt lo hi = false) : rng T lo hi = [] := by
  refine filter_none fun x _ => ?_
  unfold rq
  cases h1 : klt x.1 hi with
  | false => simp
  | true =>
    have : klt x.1 lo = true := by
      rcases klt_tri h with rfl | h2
      · exact h1
      · exact klt_trans h1 h2
    simp [this]

/-- tree.Range. -/
theorem range_any (g : Bool) (T : List Pg) (hgb : g = true ↔ GoodT T) (tv : Value) (lo hi : ByteArray) (w : World) (h : IsTree w tv T) (hn : T.length ≤ 1048576) :
    Calls Tryz.prog 32 #[tv, .string lo, .string hi] w fun e w' => RangeSays w w' e (rans g T lo hi) := by
  have h' := h
  obtain ⟨sv, rfl, hs⟩ := h'
  obtain ⟨so, sc, rfl⟩ : ∃ ao c, sv = .slice ao T.length c := by obtain ⟨rows, h1, _⟩ := hs; exact h1.shape
  have hB0 : Below w.heap.size w (w.alloc (.cells #[.slice so T.length sc] 52)) := (Below.refl _ w).alloc (Nat.le_refl _) _
  by_cases hg : GoodT T
  · rw [rans, if_pos (hgb.2 hg)]
    cases hlh : klt lo hi with
    | false => rw [rng_le T lo hi hlh]; exact range_not _ _ _ _ _ _ true (good_yes T _ _ (h.below hB0) hg) (.inr hlh)
    | true =>
      rcases Nat.eq_zero_or_pos T.length with h0 | h0
      · obtain rfl := List.eq_nil_of_length_eq_zero h0
        exact range_empty so sc lo hi w h hlh
      · exact range_good T _ lo hi w h hg hlh hn h0
  · rw [rans, if_neg (fun e => hg (hgb.1 e))]
    exact range_not _ _ _ _ _ _ false (good_no T _ _ (h.below hB0) hg) (.inl rfl)

/-- Two ranges that meet are one. -/
theorem rng_meet (T : List Pg) (hg : GoodT T) {lo mid hi : ByteArray} (h1 : klt mid lo = false) (h2 : klt hi mid = false) : rng T lo hi = rng T lo mid ++ rng T mid hi := by
  have hr := hg.rise
  unfold rng
  generalize flat T = F at hr
  induction F with
  | nil => rfl
  | cons x F ih =>
    rw [List.map_cons, Rise, List.pairwise_cons] at hr
    have ih' := ih hr.2
    have le_lo : ∀ y : ByteArray, klt y mid = false → klt y lo = false := fun y hy => by
      cases h : klt y lo with
      | false => rfl
      | true => have := klt_of_lt_le h h1; rw [hy] at this; cases this
    have lt_hi : ∀ y : ByteArray, klt y mid = true → klt y hi = true := fun y hy => klt_of_lt_le hy h2
    cases hm : klt x.1 mid with
    | true =>
      have q2 : rq mid hi x = false := by simp [rq, hm]
      have e : rq lo hi x = rq lo mid x := by simp [rq, hm, lt_hi _ hm]
      rw [List.filter_cons, List.filter_cons, List.filter_cons, q2, e, ih']
      cases rq lo mid x <;> simp
    | false =>
      have hall : ∀ y ∈ F, klt y.1 mid = false := fun y hy => by
        have := hr.1 y.1 (List.mem_map.2 ⟨y, hy, rfl⟩)
        cases h : klt y.1 mid with
        | false => rfl
        | true => have := klt_trans this h; rw [hm] at this; cases this
      have q1 : rq lo mid x = false := by simp [rq, hm]
      have n1 : F.filter (rq lo mid) = [] := filter_none fun y hy => by simp [rq, hall y hy]
      have e : rq lo hi x = rq mid hi x := by simp [rq, hm, le_lo _ hm]
      rw [n1, List.nil_append] at ih'
      rw [List.filter_cons, List.filter_cons, List.filter_cons, q1, e, ih', n1]
      cases rq mid hi x <;> simp

theorem rans_meet (g : Bool) (T : List Pg) (hgb : g = true ↔ GoodT T) {lo mid hi : ByteArray} (h1 : klt mid lo = false) (h2 : klt hi mid = false) : rans g T lo hi = rans g T lo mid ++ rans g T mid hi := by
  unfold rans
  split
  · rename_i e
    exact rng_meet T (hgb.1 e) h1 h2
  · rfl

theorem rans_in (g : Bool) (T : List Pg) {lo hi : ByteArray} : ∀ x ∈ rans g T lo hi, klt x.1 lo = false ∧ klt x.1 hi = true := by
  unfold rans
  split
  · intro x hx
    have := (List.mem_filter.1 hx).2
    simpa [rq] using this
  · intro x hx; cases hx

theorem rans_length (g : Bool) (T : List Pg) (hgb : g = true ↔ GoodT T) {lo hi : ByteArray} : (rans g T lo hi).length ≤ 4 * T.length := by
  unfold rans
  split
  · rename_i e
    have h := hgb.1 e
    have h1 := List.length_filter_le (rq lo hi) (flat T)
    have h2 := length_flat h.1
    have h3 := length_keys h.1
    unfold rng; omega
  · simp

end Go.Proofs.YtkncamggdfmlnaaGreatDoor

namespace Go.Proofs.YtkncamggdfmlnaaGreatDoor
open Go.RowKit

/-- A value of the document: its kind, its number, its text. -/
structure V where
  k : Int
  n : Int
  s : ByteArray

/-- A value as the program has it. -/
def V.val (v : V) : Value := .agg #[.int .i64 v.k, .int .i64 v.n, .string v.s]
/-- Its three cells. -/
def V.cells (v : V) : List Value := [.int .i64 v.k, .int .i64 v.n, .string v.s]

/-- A byte that may stand in a text. -/
def goodb (c : Int) : Bool := decide (32 ≤ c) && decide (c ≤ 126) && (c != 39)
def gtext (l : List UInt8) : Bool := l.all fun c => goodb (c.toNat : Int)
/-- P1.1 -/
def good (v : V) : Bool :=
  if v.k = 0 then decide (v.n = 0) && decide (v.s.size = 0)
  else if v.k = 1 then decide (-1000000 ≤ v.n) && decide (v.n ≤ 1000000) && decide (v.s.size = 0)
  else if v.k = 2 then decide (v.n = 0) && decide (v.s.size ≤ 8) && gtext v.s.data.toList
  else false

theorem ret_int {k : IntKind} {a b : Int} (h : a = b) : Ending.returned (.int k a) = .returned (.int k b) := by rw [h]
theorem ret_bool {a b : Bool} (h : a = b) : Ending.returned (.bool a) = .returned (.bool b) := by rw [h]

theorem take_snoc (s : ByteArray) (k : Nat) (h : k < s.size) : s.data.toList.take (k + 1) = s.data.toList.take k ++ [s[k]] := by
  rw [List.take_succ_eq_append_getElem (by simpa using h)]; rfl
theorem take_all (s : ByteArray) (k : Nat) (h : s.size ≤ k) : s.data.toList.take k = s.data.toList :=
  List.take_of_length_le (by simpa using h)
theorem gtext_snoc (l : List UInt8) (c : UInt8) : gtext (l ++ [c]) = (gtext l && goodb (c.toNat : Int)) := by
  simp [gtext]
theorem gtext_bad (s : ByteArray) (k : Nat) (h : k < s.size) (hb : goodb (s[k].toNat : Int) = false) : gtext s.data.toList = false := by
  unfold gtext
  rw [List.all_eq_false]
  refine ⟨s[k], ?_, by simp [hb]⟩
  have : s[k] = s.data.toList[k]'(by simpa using h) := rfl
  rw [this]; exact List.getElem_mem _

/-- Four bytes of a number, the highest first. -/
def be4 (m : Nat) : List UInt8 := [UInt8.ofNat (m / 16777216), UInt8.ofNat (m / 65536), UInt8.ofNat (m / 256), UInt8.ofNat m]
/-- P1.4, of one value. -/
def keyOf (v : V) : List UInt8 :=
  if v.k = 0 then [1] else if v.k = 1 then 2 :: be4 (v.n + 1073741824).toNat else 3 :: (v.s.data.toList ++ [0])
/-- Bytes as cells. -/
def bytesV (l : List UInt8) : List Value := l.map fun b => Value.int .u8 (b.toNat : Int)
theorem bytesV_append (a b : List UInt8) : bytesV (a ++ b) = bytesV a ++ bytesV b := by simp [bytesV]
theorem bytesV_length (a : List UInt8) : (bytesV a).length = a.length := by simp [bytesV]

theorem be4V (m : Int) (h0 : 0 ≤ m) (h1 : m < 4294967296) :
    bytesV (be4 m.toNat) = [.int .u8 (m / 16777216), .int .u8 (m / 65536 % 256), .int .u8 (m / 256 % 256), .int .u8 (m % 256)] := by
  simp only [bytesV, be4, List.map_cons, List.map_nil, UInt8.toNat_ofNat', List.cons.injEq, Value.int.injEq, true_and, and_true]
  omega
theorem be4_length (m : Nat) : (be4 m).length = 4 := rfl

theorem keyOf_nothing {v : V} (h : v.k = 0) : keyOf v = [1] := by simp [keyOf, h]
theorem keyOf_number {v : V} (h : v.k = 1) : keyOf v = 2 :: be4 (v.n + 1073741824).toNat := by simp [keyOf, h]
theorem keyOf_text {v : V} (h : v.k = 2) : keyOf v = 3 :: (v.s.data.toList ++ [0]) := by simp [keyOf, h]
theorem size_toList (s : ByteArray) : s.data.toList.length = s.size := by simp

/-- Bytes as a text. -/
def str (l : List UInt8) : ByteArray := ⟨l.toArray⟩
theorem str_data (l : List UInt8) : (str l).data.toList = l := by simp [str]
theorem str_size (l : List UInt8) : (str l).size = l.length := by simp [str, ByteArray.size]
theorem str_toList (s : ByteArray) : str s.data.toList = s := by cases s; simp [str]
/-- P1.4: the key of values. -/
def keys (L : List V) : List UInt8 := L.flatMap keyOf
theorem keys_snoc (L : List V) (v : V) : keys (L ++ [v]) = keys L ++ keyOf v := by simp [keys]
theorem keyOf_le (v : V) (h : good v = true) : (keyOf v).length ≤ 10 := by
  by_cases h0 : v.k = 0
  · rw [keyOf_nothing h0]; simp
  by_cases h1 : v.k = 1
  · rw [keyOf_number h1]; simp [be4]
  by_cases h2 : v.k = 2
  · rw [keyOf_text h2, List.length_cons, List.length_append, size_toList]
    simp [good, h2] at h
    simp; omega
  · simp [good, h0, h1, h2] at h
theorem keys_le (L : List V) (h : ∀ v ∈ L, good v = true) : (keys L).length ≤ 10 * L.length := by
  induction L with
  | nil => simp [keys]
  | cons v L ih =>
    have a := keyOf_le v (h v (by simp))
    have b := ih fun x hx => h x (by simp [hx])
    simp [keys] at b ⊢
    omega
/-- Values in memory, one behind the other. -/
def HoldsV (w : World) (b off : Nat) (L : List V) : Prop :=
  ∀ i v, L[i]? = some v → w.cell? ⟨b, off + i * 3, none⟩ = some (.int .i64 v.k) ∧ w.cell? ⟨b, off + i * 3 + 1, none⟩ = some (.int .i64 v.n) ∧ w.cell? ⟨b, off + i * 3 + 2, none⟩ = some (.string v.s)
theorem HoldsV.below {w w' : World} {b off B : Nat} {L : List V} (h : HoldsV w b off L) (hb : Below B w w') (hlt : b < B) : HoldsV w' b off L := by
  intro i v hi
  obtain ⟨h1, h2, h3⟩ := h i v hi
  exact ⟨(hb.cell hlt).trans h1, (hb.cell hlt).trans h2, (hb.cell hlt).trans h3⟩

/-- The value nothing. -/
def zero : V := ⟨0, 0, ⟨#[]⟩⟩
/-- Four bytes behind the first, as a number. -/
def n4 (l : List UInt8) : Int := ((l.getD 1 0).toNat : Int) * 16777216 + ((l.getD 2 0).toNat : Int) * 65536 + ((l.getD 3 0).toNat : Int) * 256 + ((l.getD 4 0).toNat : Int)
/-- The value with which bytes begin, and how many it takes. -/
def fv (l : List UInt8) : V × Nat :=
  if l.getD 0 0 = 1 then (zero, 1)
  else if l.getD 0 0 = 2 then (if l.length < 5 then (zero, 0) else (⟨1, n4 l - 1073741824, ⟨#[]⟩⟩, 5))
  else if l.getD 0 0 = 3 then (if Lib.indexByte l 0 < 0 then (zero, 0) else (⟨2, 0, str ((l.drop 1).take ((Lib.indexByte l 0).toNat - 1))⟩, (Lib.indexByte l 0).toNat + 1))
  else (zero, 0)
theorem getD_byte (s : ByteArray) (i : Nat) (h : i < s.size) : s.data.toList.getD i 0 = s[i] := by
  have h' : i < s.data.toList.length := by simpa using h
  rw [List.getD_eq_getElem?_getD, List.getElem?_eq_getElem h']
  rfl

/-- P1.5: the values that bytes are the key of, if there are any. -/
def dec : Nat → List UInt8 → Option (List V)
  | 0, l => if l = [] then some [] else none
  | f + 1, l => if l = [] then some [] else if (fv l).2 = 0 ∨ good (fv l).1 = false then none else (dec f (l.drop (fv l).2)).map ((fv l).1 :: ·)
def vals (l : List UInt8) : Option (List V) := dec l.length l
theorem dec_nil (f : Nat) : dec f [] = some [] := by cases f <;> simp [dec]
theorem dec_fuel : ∀ (f : Nat) (l : List UInt8), l.length ≤ f → dec f l = dec l.length l := by
  intro f
  induction f using Nat.strongRecOn with
  | ind f ih =>
    intro l hl
    match l, f with
    | [], f => rw [dec_nil, dec_nil]
    | c :: l, 0 => simp at hl
    | c :: l, f + 1 =>
      simp only [List.length_cons] at hl ⊢
      simp only [dec]
      by_cases h : (fv (c :: l)).2 = 0 ∨ good (fv (c :: l)).1 = false
      · simp [h]
      · simp only [h, if_false]
        have hz : 0 < (fv (c :: l)).2 := by omega
        have hd : ((c :: l).drop (fv (c :: l)).2).length ≤ l.length := by rw [List.length_drop, List.length_cons]; omega
        rw [ih f (by omega) _ (by omega)]
        by_cases hf : l.length = f
        · rw [hf, ih f (by omega) _ (by omega)]
        · rw [ih l.length (by omega) _ hd]
theorem vals_nil : vals [] = some [] := rfl
theorem vals_bad {l : List UInt8} (hl : l ≠ []) (h : (fv l).2 = 0 ∨ good (fv l).1 = false) : vals l = none := by
  unfold vals
  match l, hl with
  | c :: l, _ => simp only [List.length_cons, dec]; rw [if_neg (by simp), if_pos h]
theorem vals_step {l : List UInt8} (hl : l ≠ []) (h : (fv l).2 ≠ 0) (hg : good (fv l).1 = true) : vals l = (vals (l.drop (fv l).2)).map ((fv l).1 :: ·) := by
  unfold vals
  match l, hl with
  | c :: l, _ =>
    simp only [List.length_cons, dec]
    rw [if_neg (by simp), if_neg (by simp [h, hg]), dec_fuel l.length _ (by rw [List.length_drop, List.length_cons]; omega)]
theorem fv_le (l : List UInt8) (hl : l ≠ []) : (fv l).2 ≤ l.length := by
  have h1 : 1 ≤ l.length := by cases l <;> simp_all
  unfold fv
  split
  · exact h1
  · split
    · split
      · simp
      · simp; omega
    · split
      · split
        · simp
        · rename_i hi
          obtain ⟨i, hi'⟩ : ∃ i : Nat, Lib.indexByte l 0 = i := ⟨(Lib.indexByte l 0).toNat, by omega⟩
          have := (List.getElem?_eq_some_iff.1 (Lib.indexByte_some hi').1).1
          rw [hi']
          simp; omega
      · simp

theorem extract_end (t : ByteArray) (z : Nat) : (t.extract z t.size).data.toList = t.data.toList.drop z := by
  rw [Lib.extract_data, List.take_of_length_le]
  rw [List.length_drop, size_toList]
  exact Nat.le_refl _
theorem fv_text_le (l : List UInt8) : (fv l).1.s.size ≤ l.length := by
  unfold fv
  split
  · exact Nat.zero_le _
  · split
    · split <;> exact Nat.zero_le _
    · split
      · split
        · exact Nat.zero_le _
        · simp only [str_size]
          have h1 := List.length_take_le ((Lib.indexByte l 0).toNat - 1) (l.drop 1)
          have h2 : ((l.drop 1).take ((Lib.indexByte l 0).toNat - 1)).length ≤ (l.drop 1).length := by simp; omega
          simp only [List.length_drop] at h2
          omega
      · exact Nat.zero_le _

theorem str_append (a b : List UInt8) : str a ++ str b = str (a ++ b) := by
  apply ByteArray.ext
  rw [ByteArray.data_append]
  simp [str]

end Go.Proofs.YtkncamggdfmlnaaGreatDoor

namespace Go.Proofs.YtkncamggdfmlnaaGreatDoor
open Go.RowKit

def cmpI (a b : Int) : Int := if a < b then -1 else if b < a then 1 else 0
def cmpS (a b : ByteArray) : Int := if Op.bytesLess a.toList b.toList then -1 else if a.toList == b.toList then 0 else 1
def or3 (x y z : Int) : Int := if x = 0 then if y = 0 then z else y else x
def cmpV (a b : V) : Int := or3 (cmpI a.k b.k) (cmpI a.n b.n) (cmpS a.s b.s)

end Go.Proofs.YtkncamggdfmlnaaGreatDoor

