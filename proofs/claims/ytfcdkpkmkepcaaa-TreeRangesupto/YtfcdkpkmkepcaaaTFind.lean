/-
  Contracts of tree.pageFrom and tree.find: where a key stands, or could be put.
-/
import Derived.Test.YtfcdkpkmkepcaaaTGood
import Derived.Test.YtfcdkpkmkepcaaaTLib
import Derived.Shelf.SlSorted.Search
attribute [local go_sem ↓] Go.wp_at_zero Go.wp_at_succ
namespace Go.Proofs.Ytfcdkpkmkepcaaa
open Go.RowKit Go.Sort

set_option maxHeartbeats 2000000 in
theorem pageFrom1 (T : List Pg) (tb xb b off cap i : Nat) (p : Pg) (k : ByteArray) (W : World) (hp : T[i]? = some p) (hok : p.ok) (hT : HoldsP W b off T)
    (ht : W.cell? ⟨tb, 0, none⟩ = some (.slice (some ⟨b, off, none⟩) T.length cap)) (hx : W.cell? ⟨xb, 0, none⟩ = some (.string k)) :
    Calls Try.prog 62 (#[.int .i64 i] ++ #[.pointer (some ⟨tb, 0, none⟩), .pointer (some ⟨xb, 0, none⟩)]) W fun e w' => e = .returned (.bool (!klt (lastK p) k)) ∧ ∃ q os, w' = grow (W.drewN q) os := by
  obtain ⟨kv, vv, c0, c1, hk, hv⟩ := hT i p hp
  have hin : i < T.length := (List.getElem?_eq_some_iff.1 hp).1
  have lk := fun W' (h : Below W.heap.size W W') => lastKey_any p kv vv W' (hk.below h) hok.1 hok.2.1
  obtain ⟨va, vc, rfl⟩ := hv.shape
  obtain ⟨ka, kc, rfl⟩ := hk.shape
  unfold klt
  generalize lastK p = lq at lk ⊢
  generalize T.length = n at *
  have i0 : (0 : Int) ≤ (i : Int) := by omega
  have i1 : (i : Int) < (n : Int) := by omega
  clear hT hk hv hp hok
  generalize hbl : Op.bytesLess lq.toList k.toList = bl
  go_enter Try.func62, Try.ntmps62
  go_wp2
  go_region_held3 (fun w' => w'.cell? ⟨tb, 0, none⟩ = some (.slice (some ⟨b, off, none⟩) n cap) ∧ w'.cell? ⟨b, off + i * 2, none⟩ = some (.slice ka p.K.length kc) ∧ w'.cell? ⟨b, off + i * 2 + 1, none⟩ = some (.slice va p.V.length vc) ∧ w'.cell? ⟨xb, 0, none⟩ = some (.string k)) (first | go_keep | skip)
    (first | (go_at_call 54; refine (lk _ ((Below.refl _ _).drew)).mono ?_; rintro e w3 ⟨rfl, rfl⟩))
  all_goals go_wp2
  all_goals go_ret
  all_goals exact ⟨by first | rfl | simp [*], 1, #[.cells #[.slice ka p.K.length kc, .slice va p.V.length vc] 69], alloc_eq_grow W.drew _⟩

theorem count_range (T : List Pg) (f : Pg → Bool) : (List.range T.length).countP (fun i => f (T.getD i pg0)) = T.countP f := by
  induction T with
  | nil => rfl
  | cons x T ih =>
    rw [List.length_cons, List.range_succ_eq_map, List.countP_cons, List.countP_map, List.countP_cons]
    congr 1

theorem last_mono {T : List Pg} (h : GoodT T) (k : ByteArray) : ∀ a b, a ≤ b → b < T.length → (!klt (lastK (T.getD a pg0)) k) = true → (!klt (lastK (T.getD b pg0)) k) = true := by
  obtain ⟨A, B, e, hc, ha, hb⟩ := split_pages T h k
  intro a b hab hbl h1
  have hA : A.length ≤ a := by
    rcases Nat.lt_or_ge a A.length with hlt | hge
    · exfalso
      have hg : T.getD a pg0 = A[a] := by rw [e, List.getD_eq_getElem?_getD, List.getElem?_append_left hlt, List.getElem?_eq_getElem hlt]; rfl
      rw [hg] at h1
      have hm : A[a] ∈ A := List.getElem_mem hlt
      have hok : A[a].ok := h.1 _ (by rw [e]; exact List.mem_append_left _ hm)
      have := ha (lastK A[a]) (List.mem_flatMap.2 ⟨A[a], hm, lastK_mem hok⟩)
      rw [this] at h1
      cases h1
    · exact hge
  have hbt : b - A.length < B.length := by rw [e, List.length_append] at hbl; omega
  have hg : T.getD b pg0 = B[b - A.length] := by rw [e, List.getD_eq_getElem?_getD, List.getElem?_append_right (by omega), List.getElem?_eq_getElem hbt]; rfl
  rw [hg, hb _ (List.getElem_mem hbt)]; rfl

/-- How many pages are ahead of a key's. -/
def pf (T : List Pg) (k : ByteArray) : Nat := T.countP fun p => klt (lastK p) k

set_option maxHeartbeats 2000000 in
theorem pageFrom_any (T : List Pg) (tv : Value) (k : ByteArray) (w : World) (ht : IsTree w tv T) (hg : GoodT T) (hn : T.length * 48 ≤ 140737488355328) :
    Calls Try.prog 45 #[tv, .string k] w fun e w' => e = .returned (.int .i64 (pf T k)) ∧ Below w.heap.size w w' := by
  obtain ⟨sv, rfl, hs⟩ := ht
  obtain ⟨so, scap, rfl⟩ : ∃ so scap, sv = .slice so T.length scap := by obtain ⟨rows, h1, _⟩ := hs; exact h1.shape
  obtain ⟨W0, hW0⟩ : ∃ W0, W0 = (w.alloc (.cells #[.slice so T.length scap] 39)).alloc (.cells #[.string k] 9) := ⟨_, rfl⟩
  have hsize : W0.heap.size = w.heap.size + 1 + 1 := by rw [hW0]; simp
  have hB0 : Below w.heap.size w W0 := by rw [hW0]; exact ((Below.refl _ w).alloc (Nat.le_refl _) _).alloc (by simp) _
  have ca : W0.cell? ⟨w.heap.size, 0, none⟩ = some (.slice so T.length scap) := by
    rw [hW0]; exact cell_of_block (block_alloc_of (block_alloc_at w _) _) rfl
  have cx : W0.cell? ⟨w.heap.size + 1, 0, none⟩ = some (.string k) := by
    rw [hW0]; have := block_alloc_at (w.alloc (.cells #[.slice so T.length scap] 39)) (.cells #[.string k] 9)
    rw [World.size_alloc] at this
    exact cell_of_block this rfl
  have eg : ∀ args w, (callFunc 62 args).run Try.prog w = .ok (.enter 62 args) w := enters_of Try.func62 (by kernel_rfl) rfl
  have hS := Any.sort_Search Try.laysSearch 62 #[.pointer (some ⟨w.heap.size, 0, none⟩), .pointer (some ⟨w.heap.size + 1, 0, none⟩)] T.length (fun i => !klt (lastK (T.getD i pg0)) k) W0 eg (by omega)
    (fun m os i hi => by
      have hbl : Below W0.heap.size W0 (grow (W0.drewN m) os) := below_grown_sl W0.heap.size W0 m os (Nat.le_refl _)
      obtain ⟨b, off, cap, hsv, hb, _, _, hT⟩ := hs.at (by omega)
      have hpi : T[i]? = some (T.getD i pg0) := by rw [List.getD_eq_getElem?_getD, List.getElem?_eq_getElem hi]; rfl
      have hb0 : b < W0.heap.size := by omega
      refine pageFrom1 T w.heap.size (w.heap.size + 1) b off scap i (T.getD i pg0) k _ hpi (hg.1 _ (List.mem_of_getElem? hpi)) ((hT.below hB0 hb).below hbl hb0) ?_ ?_
      · rw [hbl.cell (p := ⟨w.heap.size, 0, none⟩) (by simp only; omega), ca]
        simp only [Value.slice.injEq] at hsv
        rw [hsv.1]
      · rw [hbl.cell (p := ⟨w.heap.size + 1, 0, none⟩) (by simp only; omega), cx])
    (last_mono hg k)
  have hcnt : (List.range T.length).countP (fun i => !(!klt (lastK (T.getD i pg0)) k)) = pf T k := by
    simp only [Bool.not_not]
    exact count_range T fun p => klt (lastK p) k
  rw [hcnt] at hS
  clear ca cx hcnt
  generalize pf T k = r at hS ⊢
  generalize T.length = n at *
  go_enter Try.func45, Try.ntmps45
  go_wp2_with (go_at_call 61; go_must (rw [← hW0]; refine hS.mono ?_; rintro e w' ⟨rfl, q, os, rfl⟩))
  go_ret
  refine ⟨rfl, ?_⟩
  rw [← hW0]
  exact hB0.trans (below_grown_sl w.heap.size W0 q os (by omega))

/-- tree.find, whatever the memory: where a key stands, or could be put. -/
def FindIs (T : List Pg) (k : ByteArray) (pg pl : Nat) (th : Bool) : Prop :=
  ∀ (tv : Value) (w : World), IsTree w tv T → Calls Try.prog 44 #[tv, .string k] w fun e w' => e = .returned (.tuple #[.int .i64 pg, .int .i64 pl, .bool th]) ∧ Below w.heap.size w w'

set_option maxHeartbeats 2000000 in
theorem find_any (T : List Pg) (k : ByteArray) (hg : GoodT T) (hn : T.length * 48 ≤ 140737488355328) : ∃ (pg pl : Nat) (th : Bool), Found T k pg pl th ∧ FindIs T k pg pl th := by
  obtain ⟨A, B, e, hc, ha, hb⟩ := split_pages T hg k
  change pf T k = A.length at hc
  cases B with
  | nil =>
    refine ⟨T.length, 0, false, .inl ⟨rfl, rfl, rfl, by rw [e, List.append_nil]; exact ha⟩, fun tv w ht => ?_⟩
    have pfc := fun W (h : Below w.heap.size w W) => pageFrom_any T tv k W (ht.below h) hg hn
    obtain ⟨sv, rfl, hs⟩ := ht
    rw [hc] at pfc
    obtain ⟨so, scap, rfl⟩ : ∃ so scap, sv = .slice so T.length scap := by obtain ⟨rows, h1, _⟩ := hs; exact h1.shape
    have hB0 : Below w.heap.size w (w.alloc (.cells #[.slice so T.length scap] 39)) := (Below.refl _ w).alloc (Nat.le_refl _) _
    have cbox : (w.alloc (.cells #[.slice so T.length scap] 39)).cell? ⟨w.heap.size, 0, none⟩ = some (.slice so T.length scap) := cell_of_block (block_alloc_at w _) rfl
    have pf0 := pfc _ hB0
    have hsz : w.heap.size < (w.alloc (.cells #[.slice so T.length scap] 39)).heap.size := by simp
    have hl : A.length = T.length := by rw [e, List.append_nil]
    clear e ha hb hs hg pfc
    rw [hl] at pf0
    generalize T.length = n at *
    go_enter Try.func44, Try.ntmps44
    go_wp2_with (go_at_call 45; go_must (refine pf0.mono ?_; rintro e w1 ⟨rfl, hb1⟩; have cb1 : w1.cell? ⟨w.heap.size, 0, none⟩ = some (.slice so n scap) := (hb1.cell (p := ⟨w.heap.size, 0, none⟩) hsz).trans cbox))
    refine bodyPost_ret (v := .tuple #[.int .i64 n, .int .i64 0, .bool false]) (by simp [results, Try.results44, go_sem]) rfl ?_
    exact ⟨rfl, hB0.trans (hb1.mono hB0.size)⟩
  | cons p B =>
    have hlt : A.length < T.length := by rw [e]; simp
    have hpi : T[A.length]? = some p := by rw [e]; simp
    have hpg := hg.page hpi
    obtain ⟨K1, K2, hK, hK1, hK2⟩ := split_rise p.K hpg.2 k
    cases hK2e : K2 with
    | nil =>
      exfalso
      subst hK2e
      have := hK1 (lastK p) (by have := lastK_mem hpg.1; rw [hK, List.append_nil] at this; exact this)
      rw [hb p (by simp)] at this
      cases this
    | cons y K3 =>
      subst hK2e
      refine ⟨A.length, K1.length, decide (y = k), .inr ⟨A, p, B, K1, y, K3, e, hK, rfl, rfl, ha, hK1, hK2 y (by simp), rfl⟩, fun tv w ht => ?_⟩
      have pfc := fun W (h : Below w.heap.size w W) => pageFrom_any T tv k W (ht.below h) hg hn
      obtain ⟨sv, rfl, hs⟩ := ht
      rw [hc] at pfc
      obtain ⟨so, scap, rfl⟩ : ∃ so scap, sv = .slice so T.length scap := by obtain ⟨rows, h1, _⟩ := hs; exact h1.shape
      have hB0 : Below w.heap.size w (w.alloc (.cells #[.slice so T.length scap] 39)) := (Below.refl _ w).alloc (Nat.le_refl _) _
      have cbox : (w.alloc (.cells #[.slice so T.length scap] 39)).cell? ⟨w.heap.size, 0, none⟩ = some (.slice so T.length scap) := cell_of_block (block_alloc_at w _) rfl
      have pf0 := pfc _ hB0
      have hsz : w.heap.size < (w.alloc (.cells #[.slice so T.length scap] 39)).heap.size := by simp
      obtain ⟨b, off, cap, hsv, hbl, _, _, hT⟩ := hs.at (by omega)
      simp only [Value.slice.injEq] at hsv
      obtain ⟨rfl, _, rfl⟩ := hsv
      obtain ⟨kv, vv, c0, c1, hk, hv⟩ := hT _ p hpi
      have hk2 := hk
      rw [hK] at hk2
      have sr := fun W (h : Below w.heap.size w W) => search_any K1 (y :: K3) k kv W (hk2.below h) hK1 hK2 (by rw [← hK]; exact hpg.1.2.1)
      obtain ⟨ka, kc, rfl⟩ := hk.shape
      have hyk : (decide ((y :: K3).head? = some k)) = decide (y = k) := by simp
      rw [hyk] at sr
      generalize decide (y = k) = th at sr ⊢
      clear e ha hb hs hg pfc hK hk2 hpg hT hpi hv hK1 hK2 hyk
      generalize hal : A.length = a at *
      generalize hkl : K1.length = kl at *
      have i0 : (0 : Int) ≤ (a : Int) := by omega
      have i1 : (a : Int) < (T.length : Int) := by omega
      generalize hnl : T.length = n at *
      go_enter Try.func44, Try.ntmps44
      go_wp2_with (first
        | (go_at_call 45; go_must (refine pf0.mono ?_; rintro e w1 ⟨rfl, hb1⟩; have cb1 : w1.cell? ⟨w.heap.size, 0, none⟩ = some (.slice (some ⟨b, off, none⟩) n scap) := (hb1.cell (p := ⟨w.heap.size, 0, none⟩) hsz).trans cbox; have hbz := hB0.trans (hb1.mono hB0.size); have ck := (hbz.cell (p := ⟨b, off + a * 2, none⟩) hbl).trans c0))
        | (go_at_call 46; go_must (refine (sr _ hbz).mono ?_; rintro e w2 ⟨rfl, hb2⟩)))
      refine bodyPost_ret (v := .tuple #[.int .i64 a, .int .i64 kl, .bool th]) (by simp [results, Try.results44, go_sem]) rfl ?_
      exact ⟨rfl, hbz.trans (hb2.mono hbz.size)⟩

end Go.Proofs.Ytfcdkpkmkepcaaa
