/-
  4 texts of this proof in one, in build order: TLib, TFind, TGet, TConcat.
-/
import Derived.WalkKit
import Derived.WalkSpells
import Derived.WalkLawsBesides
import Derived.Laws.AppendOwnNone
import Derived.Shelf.SlSorted.Search
import Derived.Test.YtkncamggdfmlnaaGreatJ01
namespace Go.Proofs.YtkncamggdfmlnaaGreat
open Go.RowKit

theorem zeroCells_size (z : Value) (n : Nat) : (Builtin.zeroCells z.cells n).size = n * z.cells.size := by
  simp [Builtin.zeroCells]

theorem grow_own {w : World} {t : TypeId} {z : Value} {size n G : Nat} (hz : z.cells.size = size) (hn : n ≤ G) (hG : G ≤ maxLen) :
    (w.drew.alloc (.cells (([] : List Value).toArray ++ Builtin.zeroCells z.cells n ++ Builtin.zeroCells z.cells (G - n)) t)).ownsRow w.heap.size t size (.slice (some ⟨w.heap.size, 0, none⟩) 0 G) 0 [] := by
  refine ⟨by simp, .inr ⟨w.heap.size, G, _, rfl, Nat.le_refl _, block_alloc_at w.drew _, Nat.zero_le _, hG, ?_, by simp⟩⟩
  rw [Array.size_append, Array.size_append, zeroCells_size, zeroCells_size, hz]
  simp only [List.size_toArray, List.length_nil, Nat.zero_add]
  rw [← Nat.add_mul]
  congr 1
  omega

theorem info_page : (Tryz.prog.info? 75).map (fun i => (i.zero, i.size, i.bytes)) = some (some (.agg #[.slice none 0 0, .slice none 0 0]), 2, 48) := by kernel_rfl
theorem info_string : (Tryz.prog.info? 9).map (fun i => (i.zero, i.size, i.bytes)) = some (some (.string ⟨#[]⟩), 1, 16) := by kernel_rfl

theorem growP (n : Nat) (w : World) (hn : n * 48 ≤ 140737488355328) :
    Calls Tryz.prog 112 #[.slice none 0 0, .int .i64 n] w fun e w' => ∃ v, e = .returned v ∧ w'.ownsRow w.heap.size 75 2 v 0 [] ∧ Below w.heap.size w w' := by
  obtain ⟨i0, hi, hz0, hz1, hz2⟩ := info_parts info_page
  rcases Nat.eq_zero_or_pos n with rfl | h0
  · refine (Any8.slices_Grow_room Tryz.laysGrowP none 0 0 0 w (Nat.le_refl _) (by omega) (by omega) (by omega)).mono ?_
    rintro e w' ⟨rfl, rfl⟩
    exact ⟨_, rfl, World.ownsRow_nil _ _ _ _, Below.refl _ _⟩
  · refine (Any8.slices_Grow_grow Tryz.laysGrowP i0 _ hi hz0 (by omega) none 0 0 n [] w (by omega) (by omega) (by rw [hz2]; omega) (by omega) (by simp) (fun _ => rfl) (fun a h => by cases h)).mono ?_
    rintro e w' ⟨rfl, rfl⟩
    rw [Nat.zero_add]
    have hG : grownCap w n 0 75 ≤ maxLen := grownCap_le_maxLen w n 0 _ (by unfold maxLen; omega)
    have hg := grownCap_ge w n 0 75
    exact ⟨_, rfl, grow_own rfl hg hG, ((Below.refl _ w).drew).alloc (Nat.le_refl _) _⟩

theorem growS (n : Nat) (w : World) (hn : n * 16 ≤ 140737488355328) :
    Calls Tryz.prog 113 #[.slice none 0 0, .int .i64 n] w fun e w' => ∃ v, e = .returned v ∧ w'.ownsRow w.heap.size 9 1 v 0 [] ∧ Below w.heap.size w w' := by
  obtain ⟨i0, hi, hz0, hz1, hz2⟩ := info_parts info_string
  rcases Nat.eq_zero_or_pos n with rfl | h0
  · refine (Any8.slices_Grow_room Tryz.laysGrowS none 0 0 0 w (Nat.le_refl _) (by omega) (by omega) (by omega)).mono ?_
    rintro e w' ⟨rfl, rfl⟩
    exact ⟨_, rfl, World.ownsRow_nil _ _ _ _, Below.refl _ _⟩
  · refine (Any8.slices_Grow_grow Tryz.laysGrowS i0 _ hi hz0 (by omega) none 0 0 n [] w (by omega) (by omega) (by rw [hz2]; omega) (by omega) (by simp) (fun _ => rfl) (fun a h => by cases h)).mono ?_
    rintro e w' ⟨rfl, rfl⟩
    rw [Nat.zero_add]
    have hG : grownCap w n 0 9 ≤ maxLen := grownCap_le_maxLen w n 0 _ (by unfold maxLen; omega)
    have hg := grownCap_ge w n 0 9
    exact ⟨_, rfl, grow_own rfl hg hG, ((Below.refl _ w).drew).alloc (Nat.le_refl _) _⟩

theorem bs_spec (K1 K2 : List ByteArray) (k : ByteArray) (h1 : ∀ x ∈ K1, klt x k = true) (h2 : ∀ x ∈ K2, klt x k = false) :
    Lib.bsGo (fun t => Op.bytesLess ((K1 ++ K2).getD t k).toList k.toList) (K1 ++ K2).length 0 (K1 ++ K2).length = K1.length := by
  refine Lib.bsGo_spec _ K1.length ?_ ?_ _ _ _ (by omega) (by omega) (by simp)
  · intro t ht
    show klt ((K1 ++ K2).getD t k) k = true
    rw [List.getD_eq_getElem?_getD, List.getElem?_append_left ht, List.getElem?_eq_getElem ht]
    exact h1 _ (List.getElem_mem ht)
  · intro t ht
    show klt ((K1 ++ K2).getD t k) k = false
    rw [List.getD_eq_getElem?_getD, List.getElem?_append_right ht]
    cases hg : K2[t - K1.length]? with
    | none => exact klt_irrefl k
    | some x => exact h2 x (List.mem_of_getElem? hg)

/-- slices.BinarySearch of texts that rise. -/
theorem search_any (K1 K2 : List ByteArray) (k : ByteArray) (kv : Value) (w : World) (hk : IsStrs w kv (K1 ++ K2)) (h1 : ∀ x ∈ K1, klt x k = true) (h2 : ∀ x ∈ K2, klt x k = false) (hlen : (K1 ++ K2).length ≤ 4) :
    Calls Tryz.prog 54 #[kv, .string k] w fun e w' => e = .returned (.tuple #[.int .i64 K1.length, .bool (decide (K2.head? = some k))]) ∧ Below w.heap.size w w' := by
  rcases Nat.eq_zero_or_pos (K1 ++ K2).length with h0 | h0
  · have he := List.eq_nil_of_length_eq_zero h0
    obtain ⟨rfl, rfl⟩ := List.append_eq_nil_iff.1 he
    obtain ⟨ao, cap, rfl⟩ := hk.shape
    refine (Any2.slices_BinarySearch_string_empty Tryz.laysFind ao cap k w).mono ?_
    rintro e w' ⟨rfl, rfl⟩
    exact ⟨rfl, Below.refl _ _⟩
  · obtain ⟨b, off, cap, rfl, hb, _, _, hc⟩ := hk.at h0
    refine (Any2.slices_BinarySearch_string Tryz.laysFind b off (K1 ++ K2).length cap (fun t => (K1 ++ K2).getD t k) k w (by omega) ?_).mono ?_
    · intro j hj
      exact hc j _ (by rw [List.getD_eq_getElem?_getD, List.getElem?_eq_getElem hj]; rfl)
    · rintro e w' ⟨rfl, q, rfl⟩
      rw [bs_spec K1 K2 k h1 h2]
      refine ⟨?_, below_drewN (Below.refl _ _) q⟩
      have hd : (K1.length < (K1 ++ K2).length ∧ (K1 ++ K2).getD K1.length k = k) ↔ K2.head? = some k := by
        cases K2 with
        | nil => simp
        | cons y K => simp [List.getD_eq_getElem?_getD]
      rw [decide_eq_decide.2 hd]

/-- A row of the caller's own that is not empty. -/
def OwnStrs (w : World) (B g cap : Nat) (L : List ByteArray) : Prop := B ≤ g ∧ w.ownsRow B 9 1 (.slice (some ⟨g, 0, none⟩) L.length cap) L.length (L.map .string)

/-- slices.Clone of some texts: a row of the call's own. -/
theorem clone_any (L : List ByteArray) (sv : Value) (w : World) (h : IsStrs w sv L) (h0 : 0 < L.length) (hl : L.length ≤ 8) :
    Calls Tryz.prog 87 #[sv] w fun e w' => ∃ g cap, e = .returned (.slice (some ⟨g, 0, none⟩) L.length cap) ∧ OwnStrs w' w.heap.size g cap L ∧ Below w.heap.size w w' := by
  obtain ⟨b, off, cap, rfl, hb, _, _, hc⟩ := h.at h0
  refine (Any.slices_Clone_string Tryz.laysClone b off L.length cap L w (Nat.le_refl _) (by omega) ?_).mono ?_
  · intro j hj
    exact hc j _ (by rw [List.getD_eq_getElem?_getD, List.getElem?_eq_getElem hj]; rfl)
  · rintro e w' ⟨v, rfl, ho, _, hb⟩
    rw [List.take_length] at ho
    rcases ho.2 with ⟨_, hz⟩ | ⟨g, c, cur, rfl, hg, _⟩
    · omega
    · exact ⟨g, c, rfl, ⟨hg, ho⟩, hb⟩

end Go.Proofs.YtkncamggdfmlnaaGreat

attribute [local go_sem ↓] Go.wp_at_zero Go.wp_at_succ
namespace Go.Proofs.YtkncamggdfmlnaaGreat
open Go.RowKit Go.Sort

set_option maxHeartbeats 2000000 in
theorem pageFrom1 (T : List Pg) (tb xb b off cap i : Nat) (p : Pg) (k : ByteArray) (W : World) (hp : T[i]? = some p) (hok : p.ok) (hT : HoldsP W b off T)
    (ht : W.cell? ⟨tb, 0, none⟩ = some (.slice (some ⟨b, off, none⟩) T.length cap)) (hx : W.cell? ⟨xb, 0, none⟩ = some (.string k)) :
    Calls Tryz.prog 79 (#[.int .i64 i] ++ #[.pointer (some ⟨tb, 0, none⟩), .pointer (some ⟨xb, 0, none⟩)]) W fun e w' => e = .returned (.bool (!klt (lastK p) k)) ∧ ∃ q os, w' = grow (W.drewN q) os := by
  obtain ⟨kv, vv, c0, c1, hk, hv⟩ := hT i p hp
  have hin : i < T.length := (List.getElem?_eq_some_iff.1 hp).1
  have lk := fun W' (h : Below W.heap.size W W') => lastKey_any p kv vv W' (hk.below h) hok.1 hok.2.1
  obtain ⟨va, vc, rfl⟩ := hv.shape
  obtain ⟨ka, kc, rfl⟩ := hk.shape
  unfold klt
  generalize lastK p = lq at lk ⊢
  generalize T.length = n at *
  have i0 : (0 : Int) ≤ (i : Int) := by omega
  have i1 : (i : Int) < (n : Int) := by omega
  clear hT hk hv hp hok
  generalize hbl : Op.bytesLess lq.toList k.toList = bl
  go_enter Tryz.func79, Tryz.ntmps79
  go_wp2
  go_region_held3 (fun w' => w'.cell? ⟨tb, 0, none⟩ = some (.slice (some ⟨b, off, none⟩) n cap) ∧ w'.cell? ⟨b, off + i * 2, none⟩ = some (.slice ka p.K.length kc) ∧ w'.cell? ⟨b, off + i * 2 + 1, none⟩ = some (.slice va p.V.length vc) ∧ w'.cell? ⟨xb, 0, none⟩ = some (.string k)) (first | go_keep | skip)
    (first | (go_at_call 32; refine (lk _ ((Below.refl _ _).drew)).mono ?_; rintro e w3 ⟨rfl, rfl⟩))
  all_goals go_wp2
  all_goals go_ret
  all_goals exact ⟨by first | rfl | simp [*], 1, #[.cells #[.slice ka p.K.length kc, .slice va p.V.length vc] 75], alloc_eq_grow W.drew _⟩

theorem count_range (T : List Pg) (f : Pg → Bool) : (List.range T.length).countP (fun i => f (T.getD i pg0)) = T.countP f := by
  induction T with
  | nil => rfl
  | cons x T ih =>
    rw [List.length_cons, List.range_succ_eq_map, List.countP_cons, List.countP_map, List.countP_cons]
    congr 1

theorem last_mono {T : List Pg} (h : GoodT T) (k : ByteArray) : ∀ a b, a ≤ b → b < T.length → (!klt (lastK (T.getD a pg0)) k) = true → (!klt (lastK (T.getD b pg0)) k) = true := by
  obtain ⟨A, B, e, hc, ha, hb⟩ := split_pages T h k
  intro a b hab hbl h1
  have hA : A.length ≤ a := by
    rcases Nat.lt_or_ge a A.length with hlt | hge
    · exfalso
      have hg : T.getD a pg0 = A[a] := by rw [e, List.getD_eq_getElem?_getD, List.getElem?_append_left hlt, List.getElem?_eq_getElem hlt]; rfl
      rw [hg] at h1
      have hm : A[a] ∈ A := List.getElem_mem hlt
      have hok : A[a].ok := h.1 _ (by rw [e]; exact List.mem_append_left _ hm)
      have := ha (lastK A[a]) (List.mem_flatMap.2 ⟨A[a], hm, lastK_mem hok⟩)
      rw [this] at h1
      cases h1
    · exact hge
  have hbt : b - A.length < B.length := by rw [e, List.length_append] at hbl; omega
  have hg : T.getD b pg0 = B[b - A.length] := by rw [e, List.getD_eq_getElem?_getD, List.getElem?_append_right (by omega), List.getElem?_eq_getElem hbt]; rfl
  rw [hg, hb _ (List.getElem_mem hbt)]; rfl

/-- How many pages are ahead of a key's. -/
def pf (T : List Pg) (k : ByteArray) : Nat := T.countP fun p => klt (lastK p) k

set_option maxHeartbeats 2000000 in
theorem pageFrom_any (T : List Pg) (tv : Value) (k : ByteArray) (w : World) (ht : IsTree w tv T) (hg : GoodT T) (hn : T.length * 48 ≤ 140737488355328) :
    Calls Tryz.prog 53 #[tv, .string k] w fun e w' => e = .returned (.int .i64 (pf T k)) ∧ Below w.heap.size w w' := by
  obtain ⟨sv, rfl, hs⟩ := ht
  obtain ⟨so, scap, rfl⟩ : ∃ so scap, sv = .slice so T.length scap := by obtain ⟨rows, h1, _⟩ := hs; exact h1.shape
  obtain ⟨W0, hW0⟩ : ∃ W0, W0 = (w.alloc (.cells #[.slice so T.length scap] 36)).alloc (.cells #[.string k] 9) := ⟨_, rfl⟩
  have hsize : W0.heap.size = w.heap.size + 1 + 1 := by rw [hW0]; simp
  have hB0 : Below w.heap.size w W0 := by rw [hW0]; exact ((Below.refl _ w).alloc (Nat.le_refl _) _).alloc (by simp) _
  have ca : W0.cell? ⟨w.heap.size, 0, none⟩ = some (.slice so T.length scap) := by
    rw [hW0]; exact cell_of_block (block_alloc_of (block_alloc_at w _) _) rfl
  have cx : W0.cell? ⟨w.heap.size + 1, 0, none⟩ = some (.string k) := by
    rw [hW0]; have := block_alloc_at (w.alloc (.cells #[.slice so T.length scap] 36)) (.cells #[.string k] 9)
    rw [World.size_alloc] at this
    exact cell_of_block this rfl
  have eg : ∀ args w, (callFunc 79 args).run Tryz.prog w = .ok (.enter 79 args) w := enters_of Tryz.func79 (by kernel_rfl) rfl
  have hS := Any.sort_Search Tryz.laysSearch 79 #[.pointer (some ⟨w.heap.size, 0, none⟩), .pointer (some ⟨w.heap.size + 1, 0, none⟩)] T.length (fun i => !klt (lastK (T.getD i pg0)) k) W0 eg (by omega)
    (fun m os i hi => by
      have hbl : Below W0.heap.size W0 (grow (W0.drewN m) os) := below_grown_sl W0.heap.size W0 m os (Nat.le_refl _)
      obtain ⟨b, off, cap, hsv, hb, _, _, hT⟩ := hs.at (by omega)
      have hpi : T[i]? = some (T.getD i pg0) := by rw [List.getD_eq_getElem?_getD, List.getElem?_eq_getElem hi]; rfl
      have hb0 : b < W0.heap.size := by omega
      refine pageFrom1 T w.heap.size (w.heap.size + 1) b off scap i (T.getD i pg0) k _ hpi (hg.1 _ (List.mem_of_getElem? hpi)) ((hT.below hB0 hb).below hbl hb0) ?_ ?_
      · rw [hbl.cell (p := ⟨w.heap.size, 0, none⟩) (by simp only; omega), ca]
        simp only [Value.slice.injEq] at hsv
        rw [hsv.1]
      · rw [hbl.cell (p := ⟨w.heap.size + 1, 0, none⟩) (by simp only; omega), cx])
    (last_mono hg k)
  have hcnt : (List.range T.length).countP (fun i => !(!klt (lastK (T.getD i pg0)) k)) = pf T k := by
    simp only [Bool.not_not]
    exact count_range T fun p => klt (lastK p) k
  rw [hcnt] at hS
  clear ca cx hcnt
  generalize pf T k = r at hS ⊢
  generalize T.length = n at *
  go_enter Tryz.func53, Tryz.ntmps53
  go_wp2_with (go_at_call 78; go_must (rw [← hW0]; refine hS.mono ?_; rintro e w' ⟨rfl, q, os, rfl⟩))
  go_ret
  refine ⟨rfl, ?_⟩
  rw [← hW0]
  exact hB0.trans (below_grown_sl w.heap.size W0 q os (by omega))

/-- tree.find, whatever the memory: where a key stands, or could be put. -/
def FindIs (T : List Pg) (k : ByteArray) (pg pl : Nat) (th : Bool) : Prop :=
  ∀ (tv : Value) (w : World), IsTree w tv T → Calls Tryz.prog 51 #[tv, .string k] w fun e w' => e = .returned (.tuple #[.int .i64 pg, .int .i64 pl, .bool th]) ∧ Below w.heap.size w w'

set_option maxHeartbeats 2000000 in
theorem find_any (T : List Pg) (k : ByteArray) (hg : GoodT T) (hn : T.length * 48 ≤ 140737488355328) : ∃ (pg pl : Nat) (th : Bool), Found T k pg pl th ∧ FindIs T k pg pl th := by
  obtain ⟨A, B, e, hc, ha, hb⟩ := split_pages T hg k
  change pf T k = A.length at hc
  cases B with
  | nil =>
    refine ⟨T.length, 0, false, .inl ⟨rfl, rfl, rfl, by rw [e, List.append_nil]; exact ha⟩, fun tv w ht => ?_⟩
    have pfc := fun W (h : Below w.heap.size w W) => pageFrom_any T tv k W (ht.below h) hg hn
    obtain ⟨sv, rfl, hs⟩ := ht
    rw [hc] at pfc
    obtain ⟨so, scap, rfl⟩ : ∃ so scap, sv = .slice so T.length scap := by obtain ⟨rows, h1, _⟩ := hs; exact h1.shape
    have hB0 : Below w.heap.size w (w.alloc (.cells #[.slice so T.length scap] 36)) := (Below.refl _ w).alloc (Nat.le_refl _) _
    have cbox : (w.alloc (.cells #[.slice so T.length scap] 36)).cell? ⟨w.heap.size, 0, none⟩ = some (.slice so T.length scap) := cell_of_block (block_alloc_at w _) rfl
    have pf0 := pfc _ hB0
    have hsz : w.heap.size < (w.alloc (.cells #[.slice so T.length scap] 36)).heap.size := by simp
    have hl : A.length = T.length := by rw [e, List.append_nil]
    clear e ha hb hs hg pfc
    rw [hl] at pf0
    generalize T.length = n at *
    go_enter Tryz.func51, Tryz.ntmps51
    go_wp2_with (go_at_call 53; go_must (refine pf0.mono ?_; rintro e w1 ⟨rfl, hb1⟩; have cb1 : w1.cell? ⟨w.heap.size, 0, none⟩ = some (.slice so n scap) := (hb1.cell (p := ⟨w.heap.size, 0, none⟩) hsz).trans cbox))
    refine bodyPost_ret (v := .tuple #[.int .i64 n, .int .i64 0, .bool false]) (by simp [results, Tryz.results51, go_sem]) rfl ?_
    exact ⟨rfl, hB0.trans (hb1.mono hB0.size)⟩
  | cons p B =>
    have hlt : A.length < T.length := by rw [e]; simp
    have hpi : T[A.length]? = some p := by rw [e]; simp
    have hpg := hg.page hpi
    obtain ⟨K1, K2, hK, hK1, hK2⟩ := split_rise p.K hpg.2 k
    cases hK2e : K2 with
    | nil =>
      exfalso
      subst hK2e
      have := hK1 (lastK p) (by have := lastK_mem hpg.1; rw [hK, List.append_nil] at this; exact this)
      rw [hb p (by simp)] at this
      cases this
    | cons y K3 =>
      subst hK2e
      refine ⟨A.length, K1.length, decide (y = k), .inr ⟨A, p, B, K1, y, K3, e, hK, rfl, rfl, ha, hK1, hK2 y (by simp), rfl⟩, fun tv w ht => ?_⟩
      have pfc := fun W (h : Below w.heap.size w W) => pageFrom_any T tv k W (ht.below h) hg hn
      obtain ⟨sv, rfl, hs⟩ := ht
      rw [hc] at pfc
      obtain ⟨so, scap, rfl⟩ : ∃ so scap, sv = .slice so T.length scap := by obtain ⟨rows, h1, _⟩ := hs; exact h1.shape
      have hB0 : Below w.heap.size w (w.alloc (.cells #[.slice so T.length scap] 36)) := (Below.refl _ w).alloc (Nat.le_refl _) _
      have cbox : (w.alloc (.cells #[.slice so T.length scap] 36)).cell? ⟨w.heap.size, 0, none⟩ = some (.slice so T.length scap) := cell_of_block (block_alloc_at w _) rfl
      have pf0 := pfc _ hB0
      have hsz : w.heap.size < (w.alloc (.cells #[.slice so T.length scap] 36)).heap.size := by simp
      obtain ⟨b, off, cap, hsv, hbl, _, _, hT⟩ := hs.at (by omega)
      simp only [Value.slice.injEq] at hsv
      obtain ⟨rfl, _, rfl⟩ := hsv
      obtain ⟨kv, vv, c0, c1, hk, hv⟩ := hT _ p hpi
      have hk2 := hk
      rw [hK] at hk2
      have sr := fun W (h : Below w.heap.size w W) => search_any K1 (y :: K3) k kv W (hk2.below h) hK1 hK2 (by rw [← hK]; exact hpg.1.2.1)
      obtain ⟨ka, kc, rfl⟩ := hk.shape
      have hyk : (decide ((y :: K3).head? = some k)) = decide (y = k) := by simp
      rw [hyk] at sr
      generalize decide (y = k) = th at sr ⊢
      clear e ha hb hs hg pfc hK hk2 hpg hT hpi hv hK1 hK2 hyk
      generalize hal : A.length = a at *
      generalize hkl : K1.length = kl at *
      have i0 : (0 : Int) ≤ (a : Int) := by omega
      have i1 : (a : Int) < (T.length : Int) := by omega
      generalize hnl : T.length = n at *
      go_enter Tryz.func51, Tryz.ntmps51
      go_wp2_with (first
        | (go_at_call 53; go_must (refine pf0.mono ?_; rintro e w1 ⟨rfl, hb1⟩; have cb1 : w1.cell? ⟨w.heap.size, 0, none⟩ = some (.slice (some ⟨b, off, none⟩) n scap) := (hb1.cell (p := ⟨w.heap.size, 0, none⟩) hsz).trans cbox; have hbz := hB0.trans (hb1.mono hB0.size); have ck := (hbz.cell (p := ⟨b, off + a * 2, none⟩) hbl).trans c0))
        | (go_at_call 54; go_must (refine (sr _ hbz).mono ?_; rintro e w2 ⟨rfl, hb2⟩)))
      refine bodyPost_ret (v := .tuple #[.int .i64 a, .int .i64 kl, .bool th]) (by simp [results, Tryz.results51, go_sem]) rfl ?_
      exact ⟨rfl, hbz.trans (hb2.mono hbz.size)⟩

end Go.Proofs.YtkncamggdfmlnaaGreat

namespace Go.Proofs.YtkncamggdfmlnaaGreat
open Go.RowKit

theorem IsTree.keysLen {w : World} {tv : Value} {T : List Pg} (h : IsTree w tv T) : ∀ p ∈ T, p.K.length ≤ maxLen := by
  intro p hp
  obtain ⟨sv, _, rows, _, hr⟩ := h
  obtain ⟨i, hi⟩ := List.getElem?_of_mem hp
  obtain ⟨r, _, hk, _⟩ := hr.at hi
  rcases Nat.eq_zero_or_pos p.K.length with h0 | h0
  · omega
  · obtain ⟨b, off, cap, _, _, h1, h2, _⟩ := hk.at h0
    omega

/-- tree.Good. -/
theorem tgood_any (T : List Pg) (tv : Value) (w : World) (h : IsTree w tv T) :
    Calls Tryz.prog 10 #[tv] w fun e w' => SaysB e (GoodT T) ∧ Below w.heap.size w w' := by
  have hl := h.keysLen
  obtain ⟨sv, rfl, hs⟩ := h
  rcases Nat.eq_zero_or_pos T.length with h0 | h0
  · obtain ⟨ao, cap, rfl, _⟩ := hs.empty h0
    obtain rfl := List.eq_nil_of_length_eq_zero h0
    exact good_empty ao cap w
  · obtain ⟨b, off, cap, rfl, hb, hc, hm, hT⟩ := hs.at h0
    exact good_some T b off cap w hb hT hc hm hl

theorem good_yes (T : List Pg) (tv : Value) (w : World) (h : IsTree w tv T) (hg : GoodT T) :
    Calls Tryz.prog 10 #[tv] w fun e w' => e = .returned (.bool true) ∧ Below w.heap.size w w' :=
  (tgood_any T tv w h).mono fun _ _ h => ⟨h.1.yes hg, h.2⟩
theorem good_no (T : List Pg) (tv : Value) (w : World) (h : IsTree w tv T) (hg : ¬ GoodT T) :
    Calls Tryz.prog 10 #[tv] w fun e w' => e = .returned (.bool false) ∧ Below w.heap.size w w' :=
  (tgood_any T tv w h).mono fun _ _ h => ⟨h.1.no hg, h.2⟩

/-- What Get tells: the text that stands at a key. -/
def getAns (o : Option ByteArray) : Value := .tuple #[.string (o.getD ⟨#[]⟩), .bool o.isSome]

theorem zip_at {K1 K3 V : List ByteArray} {y : ByteArray} (h : V.length = (K1 ++ y :: K3).length) : ∃ V1 v V3, V = V1 ++ v :: V3 ∧ V1.length = K1.length ∧ V3.length = K3.length ∧ (K1 ++ y :: K3).zip V = K1.zip V1 ++ (y, v) :: K3.zip V3 := by
  have hl : K1.length < V.length := by rw [h]; simp
  refine ⟨V.take K1.length, V[K1.length], V.drop (K1.length + 1), ?_, ?_, ?_, ?_⟩
  · rw [← List.drop_eq_getElem_cons hl, List.take_append_drop]
  · simp; omega
  · simp at h ⊢; omega
  · have e : V = V.take K1.length ++ V[K1.length] :: V.drop (K1.length + 1) := by rw [← List.drop_eq_getElem_cons hl, List.take_append_drop]
    conv => lhs; rw [e]
    rw [List.zip_append (by simp; omega)]
    rfl

/-- A key that is there: what stands around it. -/
theorem found_there {A B : List Pg} {p : Pg} {K1 K3 : List ByteArray} {k : ByteArray} (hg : GoodT (A ++ p :: B)) (hp : p.K = K1 ++ k :: K3) (hA : ∀ x ∈ keysT A, klt x k = true) (hK : ∀ x ∈ K1, klt x k = true) :
    ∃ V1 v V3, p.V = V1 ++ v :: V3 ∧ V1.length = K1.length ∧ V3.length = K3.length ∧ Cut (flat (A ++ p :: B)) k (flat A ++ K1.zip V1) (some v) (K3.zip V3 ++ flat B) := by
  have hok := hg.1 p (by simp)
  have hpv := hok.2.2
  rw [hp] at hpv
  obtain ⟨V1, v, V3, e, h1, h3, hz⟩ := zip_at hpv
  have hAo : ∀ q ∈ A, q.ok := fun q hq => hg.1 q (by simp [hq])
  have hBo : ∀ q ∈ B, q.ok := fun q hq => hg.1 q (by simp [hq])
  have hr := hg.2
  rw [keysT_append, keysT_cons, hp] at hr
  have hr2 := (rise_append.1 hr).2.1
  rw [List.append_assoc] at hr2
  have hr3 := (rise_append.1 hr2).2.1
  rw [Rise, List.cons_append, List.pairwise_cons] at hr3
  refine ⟨V1, v, V3, e, h1, h3, ?_, ?_, ?_⟩
  · rw [flat_append, flat_cons, hp, hz]
    simp
  · intro x hx
    rcases List.mem_append.1 hx with hx | hx
    · exact hA _ (by rw [← keys_flat hAo]; exact List.mem_map.2 ⟨x, hx, rfl⟩)
    · exact hK _ (List.of_mem_zip hx).1
  · intro x hx
    rcases List.mem_append.1 hx with hx | hx
    · exact hr3.1 _ (List.mem_append_left _ (List.of_mem_zip hx).1)
    · exact hr3.1 _ (List.mem_append_right _ (by rw [← keys_flat hBo]; exact List.mem_map.2 ⟨x, hx, rfl⟩))

set_option maxHeartbeats 2000000 in
theorem get_good (T : List Pg) (tv : Value) (k : ByteArray) (w : World) (h : IsTree w tv T) (hg : GoodT T) (hn : T.length * 48 ≤ 140737488355328) :
    Calls Tryz.prog 19 #[tv, .string k] w fun e w' => e = .returned (getAns (getF (flat T) k)) ∧ Below w.heap.size w w' := by
  obtain ⟨pg, pl, th, hF, fi⟩ := find_any T k hg hn
  have gc := fun W (hW : Below w.heap.size w W) => good_yes T tv W (h.below hW) hg
  have fc := fun W (hW : Below w.heap.size w W) => fi tv W (h.below hW)
  obtain ⟨sv, rfl, hs⟩ := h
  have hs2 := hs
  obtain ⟨so, scap, rfl⟩ : ∃ so scap, sv = .slice so T.length scap := by obtain ⟨rows, h1, _⟩ := hs; exact h1.shape
  have hB0 : Below w.heap.size w (w.alloc (.cells #[.slice so T.length scap] 36)) := (Below.refl _ w).alloc (Nat.le_refl _) _
  have cbox : (w.alloc (.cells #[.slice so T.length scap] 36)).cell? ⟨w.heap.size, 0, none⟩ = some (.slice so T.length scap) := cell_of_block (block_alloc_at w _) rfl
  have g0 := gc _ hB0
  have hsz : w.heap.size < (w.alloc (.cells #[.slice so T.length scap] 36)).heap.size := by simp
  cases th with
  | false =>
    obtain ⟨F1, o, F2, c, ho⟩ := hF.cut hg
    have hon : o = none := by
      cases o with
      | none => rfl
      | some v => have := ho.2 rfl; cases this
    rw [c.get, hon]
    clear c ho hon hF fi hg hs hs2 gc
    generalize T.length = n at *
    go_enter Tryz.func19, Tryz.ntmps19
    go_wp2_with (first
      | (go_at_call 10; go_must (refine g0.mono ?_; rintro e w1 ⟨rfl, hb1⟩; have cb1 := (hb1.cell (p := ⟨w.heap.size, 0, none⟩) hsz).trans cbox; have hbz := hB0.trans (hb1.mono hB0.size)))
      | (go_at_call 51; go_must (refine (fc _ hbz).mono ?_; rintro e w2 ⟨rfl, hb2⟩)))
    go_ret2
    exact ⟨rfl, hbz.trans (hb2.mono hbz.size)⟩
  | true =>
    rcases hF with ⟨_, _, h, _⟩ | ⟨A, p, B, K1, y, K3, rfl, hp, rfl, rfl, hA, hK, hy, hth⟩
    · cases h
    have hyk : y = k := of_decide_eq_true hth.symm
    subst hyk
    obtain ⟨V1, v, V3, hV, hl1, hl3, c⟩ := found_there hg hp hA hK
    rw [c.get]
    have hpi : (A ++ p :: B)[A.length]? = some p := by simp
    have hlt : A.length < (A ++ p :: B).length := by simp
    obtain ⟨b, off, cap, hsv, hbl, _, _, hT⟩ := hs.at (by omega)
    simp only [Value.slice.injEq] at hsv
    obtain ⟨rfl, _, rfl⟩ := hsv
    obtain ⟨kv, vv, c0, c1, hk, hv⟩ := hT _ p hpi
    have hvl : K1.length < p.V.length := by rw [hV, List.length_append, List.length_cons]; omega
    obtain ⟨vb, vo, vc, rfl, hvb, hvc, _, hvcell⟩ := hv.at (by omega)
    have cv := hvcell K1.length v (by rw [hV, ← hl1]; simp)
    clear c hs hs2 gc fi hg hT hvcell hk hv hp hA hK hy hth hV hl1 hl3 hpi
    generalize A.length = a at *
    generalize K1.length = kl at *
    generalize p.V.length = vl at *
    generalize (A ++ p :: B).length = n at *
    have i0 : (0 : Int) ≤ (a : Int) := by omega
    have i1 : (a : Int) < (n : Int) := by omega
    have i2 : (0 : Int) ≤ (kl : Int) := by omega
    have i3 : (kl : Int) < (vl : Int) := by omega
    go_enter Tryz.func19, Tryz.ntmps19
    go_wp2_with (first
      | (go_at_call 10; go_must (refine g0.mono ?_; rintro e w1 ⟨rfl, hb1⟩; have cb1 := (hb1.cell (p := ⟨w.heap.size, 0, none⟩) hsz).trans cbox; have hbz := hB0.trans (hb1.mono hB0.size); have hsz1 := Nat.lt_of_lt_of_le hsz hb1.size))
      | (go_at_call 51; go_must (refine (fc _ hbz).mono ?_; rintro e w2 ⟨rfl, hb2⟩; have cb2 := (hb2.cell (p := ⟨w.heap.size, 0, none⟩) hsz1).trans cb1; have hbz2 := hbz.trans (hb2.mono hbz.size); have c12 := (hbz2.cell (p := ⟨b, off + a * 2 + 1, none⟩) hbl).trans c1; have cv2 := (hbz2.cell (p := ⟨vb, vo + kl, none⟩) hvb).trans cv)))
    go_ret2
    exact ⟨rfl, hbz2⟩

set_option maxHeartbeats 1000000 in
theorem get_not (T : List Pg) (tv : Value) (k : ByteArray) (w : World) (h : IsTree w tv T) (hg : ¬ GoodT T) :
    Calls Tryz.prog 19 #[tv, .string k] w fun e w' => e = .returned (getAns none) ∧ Below w.heap.size w w' := by
  have gc := fun W (hW : Below w.heap.size w W) => good_no T tv W (h.below hW) hg
  obtain ⟨sv, rfl, hs⟩ := h
  obtain ⟨so, scap, rfl⟩ : ∃ so scap, sv = .slice so T.length scap := by obtain ⟨rows, h1, _⟩ := hs; exact h1.shape
  have hB0 : Below w.heap.size w (w.alloc (.cells #[.slice so T.length scap] 36)) := (Below.refl _ w).alloc (Nat.le_refl _) _
  have g0 := gc _ hB0
  clear gc hs hg
  generalize T.length = n at *
  go_enter Tryz.func19, Tryz.ntmps19
  go_wp2_with (go_at_call 10; go_must (refine g0.mono ?_; rintro e w1 ⟨rfl, hb1⟩))
  go_ret2
  exact ⟨rfl, hB0.trans (hb1.mono hB0.size)⟩

theorem keys_take (T : List Pg) (k : Nat) (p : Pg) (h : T[k]? = some p) : (keysT (T.take (k + 1))).length = (keysT (T.take k)).length + p.K.length := by
  rw [List.take_add_one, h, keysT_append, List.length_append]
  simp [keysT]
theorem keys_take_le (T : List Pg) (k : Nat) : (keysT (T.take k)).length ≤ (keysT T).length := by
  conv => rhs; rw [← List.take_append_drop k T]
  rw [keysT_append, List.length_append]; omega

set_option maxHeartbeats 2000000 in
/-- tree.Size. -/
theorem size_any (T : List Pg) (tv : Value) (w : World) (h : IsTree w tv T) (hn : (keysT T).length ≤ 4611686018427387904) :
    Calls Tryz.prog 13 #[tv] w fun e w' => e = .returned (.int .i64 (keysT T).length) ∧ Below w.heap.size w w' := by
  obtain ⟨sv, rfl, hs⟩ := h
  rcases Nat.eq_zero_or_pos T.length with h0 | h0
  · obtain ⟨ao, cap, rfl, _⟩ := hs.empty h0
    obtain rfl := List.eq_nil_of_length_eq_zero h0
    go_enter Tryz.func13, Tryz.ntmps13
    go_wp2
    refine wp_loop_rounds 1 ?_
    rw [rounds_succ]
    go_wp2
    go_ret
    exact ⟨rfl, (Below.refl _ _).alloc (Nat.le_refl _) _⟩
  · obtain ⟨b, off, cap, rfl, hb, hc, hm, hT⟩ := hs.at h0
    have HT := hid hT
    have HK := hid (keys_take T)
    have HL := hid (keys_take_le T)
    generalize hS : (keysT T).length = S at *
    have HS := hid hS
    clear hS hT hs
    generalize hN : T.length = n at *
    have HN := hid hN
    clear hN
    unfold maxLen at hm
    go_enter Tryz.func13, Tryz.ntmps13
    go_wp2
    go_loopw [3, 9] (fun z i wr => ∃ k s : Nat, k ≤ n ∧ s ≤ S ∧ i = .int .i64 k ∧ z = .int .i64 s ∧ Below w.heap.size w wr ∧ Hid (s = (keysT (T.take k)).length)) (fun _ i _ => n - (intOf i).toNat)
    case atStart => exact ⟨0, 0, Nat.zero_le _, Nat.zero_le _, rfl, rfl, (Below.refl _ _).alloc (Nat.le_refl _) _, hid (by simp [keysT])⟩
    case round =>
      obtain ⟨k, s, hk, hs, rfl, rfl, hbel, HE⟩ := hrel
      by_cases hlt : k < n
      · obtain ⟨p, hp⟩ : ∃ p, T[k]? = some p := ⟨_, List.getElem?_eq_getElem (by rw [HN.out]; omega)⟩
        obtain ⟨kv, vv, d0, d1, hk1, hv1⟩ := HT.out k p hp
        have c0 := (hbel.cell (p := ⟨b, off + k * 2, none⟩) hb).trans d0
        have c1 := (hbel.cell (p := ⟨b, off + k * 2 + 1, none⟩) hb).trans d1
        obtain ⟨va, vc, rfl⟩ := hv1.shape
        obtain ⟨ka, kc, rfl⟩ := hk1.shape
        have hbr : b < wr.heap.size := Nat.lt_of_lt_of_le hb hbel.size
        have h1 := HK.out k p hp
        have h2 := HL.out (k + 1)
        rw [h1, ← HE.out] at h2
        rw [← HE.out] at h1
        have H1 := hid h1
        clear h1 hp d0 d1 hk1 hv1
        generalize p.K.length = pl at *
        have i0 : (0 : Int) ≤ (k : Int) := by omega
        have i1 : (k : Int) < (n : Int) := by omega
        go_wp2
        go_roundw
        case rel => exact ⟨k + 1, s + pl, by omega, by omega, by go_num, by go_num, hbel.alloc hbel.size _, hid H1.out.symm⟩
        case measure => simp [intOf]; omega
      · have hkn : k = n := by omega
        have he : s = S := by rw [HE.out, hkn, ← HN.out, List.take_length, HS.out]
        subst he
        go_wp2
        go_ret
        exact ⟨rfl, hbel⟩

end Go.Proofs.YtkncamggdfmlnaaGreat

namespace Go.Proofs.YtkncamggdfmlnaaGreat
open Go.RowKit

/-- Slices, each with what it has. -/
abbrev Parts := List (Value × Nat × List Value)
def Parts.sum (X : Parts) : Nat := (X.map fun x => x.2.1).sum
def Parts.all (X : Parts) : List Value := X.flatMap fun x => x.2.2

theorem Parts.sum_take (X : Parts) (i : Nat) (x : Value × Nat × List Value) (h : X[i]? = some x) : Parts.sum (X.take (i + 1)) = Parts.sum (X.take i) + x.2.1 := by
  unfold Parts.sum
  rw [List.take_add_one, h]
  simp
theorem Parts.all_take (X : Parts) (i : Nat) (x : Value × Nat × List Value) (h : X[i]? = some x) : Parts.all (X.take (i + 1)) = Parts.all (X.take i) ++ x.2.2 := by
  unfold Parts.all
  rw [List.take_add_one, h]
  simp
theorem Parts.sum_le (X : Parts) (i : Nat) : Parts.sum (X.take i) ≤ Parts.sum X := by
  unfold Parts.sum
  conv => rhs; rw [← List.take_append_drop i X]
  rw [List.map_append, List.sum_append]
  omega


set_option maxHeartbeats 2000000 in
/-- slices.Concat of pages. -/
theorem concatP (X : Parts) (g : Nat) (cap : Nat) (w : World) (hg : g < w.heap.size) (hc : ∀ i x, X[i]? = some x → w.cell? ⟨g, i, none⟩ = some x.1) (hX : ∀ x ∈ X, IsRow 2 w x.1 x.2.1 x.2.2 ∧ ∀ u ∈ x.2.2, u.oneCell' = true)
    (hlen : X.length ≤ 3) (hs : Parts.sum X * 48 ≤ 140737488355328) :
    Calls Tryz.prog 88 #[.slice (some ⟨g, 0, none⟩) X.length cap] w fun e w' => ∃ v, e = .returned v ∧ IsRow 2 w' v (Parts.sum X) (Parts.all X) ∧ Below w.heap.size w w' := by
  obtain ⟨i0, hi, hz0, hz1, hz2⟩ := info_parts info_page
  have HX := hid hX
  have HC := hid hc
  clear hX hc
  generalize hsum : Parts.sum X = S at hs ⊢
  have HS := hid hsum
  clear hsum
  go_enter Tryz.func88, Tryz.ntmps88
  go_wp2
  go_loopw [3, 11] (fun z i wr => ∃ k s : Nat, k ≤ X.length ∧ s ≤ S ∧ i = .int .i64 k ∧ z = .int .i64 s ∧ w = wr ∧ Hid (s = Parts.sum (X.take k))) (fun _ i _ => X.length - (intOf i).toNat)
  case atStart => exact ⟨0, 0, Nat.zero_le _, Nat.zero_le _, rfl, rfl, rfl, hid (by simp [Parts.sum])⟩
  case round =>
    obtain ⟨k, s, hk, hsS, rfl, rfl, rfl, HT⟩ := hrel
    by_cases hlt : k < X.length
    · obtain ⟨x, hx⟩ : ∃ x, X[k]? = some x := ⟨_, List.getElem?_eq_getElem hlt⟩
      have c0 := HC.out k x hx
      obtain ⟨ao, c, hsv⟩ := (HX.out x (List.mem_of_getElem? hx)).1.shape
      have hT1 := Parts.sum_take X k x hx
      have hT2 := Parts.sum_le X (k + 1)
      rw [HS.out, hT1, ← HT.out] at hT2
      rw [← HT.out] at hT1
      have HT1 := hid hT1
      clear hx hT1
      rw [hsv] at c0
      generalize x.2.1 = m at *
      clear hsv
      have i0' : (0 : Int) ≤ (k : Int) := by omega
      have i1' : (k : Int) < (X.length : Int) := by omega
      have hnn : ¬ ((s : Int) + (m : Int) < 0) := by omega
      go_wp2
      go_roundw
      case rel => exact ⟨k + 1, s + m, by omega, by omega, by go_num, by go_num, by first | trivial | rfl, hid (by rw [HT1.out])⟩
      case measure => simp [intOf]; omega
    · have hkX : k = X.length := by omega
      have hsS' : s = S := by rw [HT.out, hkX, List.take_length, HS.out]
      subst hsS'
      go_wp2_with (go_at_call 112; go_must (refine (growP s w hs).mono ?_; rintro e w1 ⟨v, rfl, hv, hb1⟩))
      go_loopw [6, 27] (fun z i wr => ∃ k : Nat, k ≤ X.length ∧ i = .int .i64 k ∧ wr.ownsRow w.heap.size 75 2 z (Parts.sum (X.take k)) (Parts.all (X.take k)) ∧ Below w.heap.size w wr) (fun _ i _ => X.length - (intOf i).toNat)
      case atStart => exact ⟨0, Nat.zero_le _, rfl, by simpa [Parts.sum, Parts.all] using hv, hb1⟩
      case round =>
        obtain ⟨k, hk, rfl, hown, hbel⟩ := hrel
        by_cases hlt : k < X.length
        · obtain ⟨x, hx⟩ : ∃ x, X[k]? = some x := ⟨_, List.getElem?_eq_getElem hlt⟩
          have c0 := HC.out k x hx
          rw [← hbel.cell (p := ⟨g, k, none⟩) hg] at c0
          obtain ⟨hr, h1⟩ := HX.out x (List.mem_of_getElem? hx)
          replace hr := hr.below hbel
          have hT1 := Parts.sum_take X k x hx
          have hA1 := Parts.all_take X k x hx
          have hT2 := Parts.sum_le X (k + 1)
          rw [HS.out, hT1] at hT2
          obtain ⟨sv, m, cs⟩ := x
          simp only at c0 hr h1 hT1 hA1 hT2
          have HT1 := hid hT1
          have HA1 := hid hA1
          clear hx hT1 hA1
          generalize Parts.sum (X.take k) = s1 at *
          generalize Parts.all (X.take k) = a1 at *
          have i0' : (0 : Int) ≤ (k : Int) := by omega
          have i1' : (k : Int) < (X.length : Int) := by omega
          rcases hr.2 with ⟨rfl, ao, c, rfl, hnil⟩ | ⟨hm0, b, off, c, rfl, hb, hmc, hcm, hcell⟩
          · obtain rfl : cs = [] := List.eq_nil_of_length_eq_zero (by simpa using hr.1)
            rcases ao with _ | ad
            · obtain rfl := hnil rfl
              go_wp2_with (at_builtin; go_must (refine wpList_append_own_none rfl _ _ 34 rfl w.heap.size 75 i0 2 Tryz.underlying34 hi _ _ _ rfl hown rfl ?_))
              go_roundw
              case rel => exact ⟨k + 1, by omega, by go_num, by rw [HT1.out, HA1.out, Nat.add_zero, List.append_nil]; exact hown, hbel⟩
              case measure => simp [intOf]; omega
            · have hcl : ∀ j u, ([] : List Value)[j]? = some u → wr.cell? (ad.add j) = some u := fun j u h => by simp at h
              go_wp2_with (at_builtin; go_must (refine wpList_append_own _ rfl _ _ 34 rfl w.heap.size 75 i0 (.agg #[.slice none 0 0, .slice none 0 0]) 2 48 Tryz.underlying34 hi hz0 hz1 hz2 rfl (by decide) _ _ _ rfl hown ad 0 c [] rfl (by simp) hcl (by simp) (by simp only [maxLen]; omega) (by omega) hbel.size ?_))
              intro v2 w2 hown2 hg2 _
              go_wp2
              go_roundw
              case rel => exact ⟨k + 1, by omega, by go_num, by rw [HT1.out, HA1.out]; first | exact hown2 | (rw [Nat.add_zero, List.append_nil]; exact hown2), hbel.grown hg2 hbel.size (fun j hj => (hown.lt j hj).1)⟩
              case measure => simp [intOf]; omega
          · have hcl : ∀ j u, cs[j]? = some u → wr.cell? ((⟨b, off, none⟩ : Addr).add j) = some u := fun j u h => by rw [Addr.add_lit]; exact hcell j u h
            go_wp2_with (at_builtin; go_must (refine wpList_append_own _ rfl _ _ 34 rfl w.heap.size 75 i0 (.agg #[.slice none 0 0, .slice none 0 0]) 2 48 Tryz.underlying34 hi hz0 hz1 hz2 rfl (by decide) _ _ _ rfl hown ⟨b, off, none⟩ m c cs rfl hr.1 hcl h1 (by simp only [maxLen]; omega) (by omega) hbel.size ?_))
            intro v2 w2 hown2 hg2 _
            go_wp2
            go_roundw
            case rel => exact ⟨k + 1, by omega, by go_num, by rw [HT1.out, HA1.out]; first | exact hown2 | (rw [Nat.add_zero, List.append_nil]; exact hown2), hbel.grown hg2 hbel.size (fun j hj => (hown.lt j hj).1)⟩
            case measure => simp [intOf]; omega
        · have hkX : k = X.length := by omega
          subst hkX
          rw [List.take_length, HS.out] at hown
          go_wp2
          go_ret
          exact ⟨_, rfl, .of_own hown, hbel⟩

set_option maxHeartbeats 2000000 in
/-- slices.Concat of texts. -/
theorem concatS (X : Parts) (g : Nat) (cap : Nat) (w : World) (hg : g < w.heap.size) (hc : ∀ i x, X[i]? = some x → w.cell? ⟨g, i, none⟩ = some x.1) (hX : ∀ x ∈ X, IsRow 1 w x.1 x.2.1 x.2.2 ∧ ∀ u ∈ x.2.2, u.oneCell' = true)
    (hlen : X.length ≤ 3) (hs : Parts.sum X * 16 ≤ 140737488355328) :
    Calls Tryz.prog 89 #[.slice (some ⟨g, 0, none⟩) X.length cap] w fun e w' => ∃ v, e = .returned v ∧ IsRow 1 w' v (Parts.sum X) (Parts.all X) ∧ Below w.heap.size w w' := by
  obtain ⟨i0, hi, hz0, hz1, hz2⟩ := info_parts info_string
  have HX := hid hX
  have HC := hid hc
  clear hX hc
  generalize hsum : Parts.sum X = S at hs ⊢
  have HS := hid hsum
  clear hsum
  go_enter Tryz.func89, Tryz.ntmps89
  go_wp2
  go_loopw [3, 11] (fun z i wr => ∃ k s : Nat, k ≤ X.length ∧ s ≤ S ∧ i = .int .i64 k ∧ z = .int .i64 s ∧ w = wr ∧ Hid (s = Parts.sum (X.take k))) (fun _ i _ => X.length - (intOf i).toNat)
  case atStart => exact ⟨0, 0, Nat.zero_le _, Nat.zero_le _, rfl, rfl, rfl, hid (by simp [Parts.sum])⟩
  case round =>
    obtain ⟨k, s, hk, hsS, rfl, rfl, rfl, HT⟩ := hrel
    by_cases hlt : k < X.length
    · obtain ⟨x, hx⟩ : ∃ x, X[k]? = some x := ⟨_, List.getElem?_eq_getElem hlt⟩
      have c0 := HC.out k x hx
      obtain ⟨ao, c, hsv⟩ := (HX.out x (List.mem_of_getElem? hx)).1.shape
      have hT1 := Parts.sum_take X k x hx
      have hT2 := Parts.sum_le X (k + 1)
      rw [HS.out, hT1, ← HT.out] at hT2
      rw [← HT.out] at hT1
      have HT1 := hid hT1
      clear hx hT1
      rw [hsv] at c0
      generalize x.2.1 = m at *
      clear hsv
      have i0' : (0 : Int) ≤ (k : Int) := by omega
      have i1' : (k : Int) < (X.length : Int) := by omega
      have hnn : ¬ ((s : Int) + (m : Int) < 0) := by omega
      go_wp2
      go_roundw
      case rel => exact ⟨k + 1, s + m, by omega, by omega, by go_num, by go_num, by first | trivial | rfl, hid (by rw [HT1.out])⟩
      case measure => simp [intOf]; omega
    · have hkX : k = X.length := by omega
      have hsS' : s = S := by rw [HT.out, hkX, List.take_length, HS.out]
      subst hsS'
      go_wp2_with (go_at_call 113; go_must (refine (growS s w hs).mono ?_; rintro e w1 ⟨v, rfl, hv, hb1⟩))
      go_loopw [6, 27] (fun z i wr => ∃ k : Nat, k ≤ X.length ∧ i = .int .i64 k ∧ wr.ownsRow w.heap.size 9 1 z (Parts.sum (X.take k)) (Parts.all (X.take k)) ∧ Below w.heap.size w wr) (fun _ i _ => X.length - (intOf i).toNat)
      case atStart => exact ⟨0, Nat.zero_le _, rfl, by simpa [Parts.sum, Parts.all] using hv, hb1⟩
      case round =>
        obtain ⟨k, hk, rfl, hown, hbel⟩ := hrel
        by_cases hlt : k < X.length
        · obtain ⟨x, hx⟩ : ∃ x, X[k]? = some x := ⟨_, List.getElem?_eq_getElem hlt⟩
          have c0 := HC.out k x hx
          rw [← hbel.cell (p := ⟨g, k, none⟩) hg] at c0
          obtain ⟨hr, h1⟩ := HX.out x (List.mem_of_getElem? hx)
          replace hr := hr.below hbel
          have hT1 := Parts.sum_take X k x hx
          have hA1 := Parts.all_take X k x hx
          have hT2 := Parts.sum_le X (k + 1)
          rw [HS.out, hT1] at hT2
          obtain ⟨sv, m, cs⟩ := x
          simp only at c0 hr h1 hT1 hA1 hT2
          have HT1 := hid hT1
          have HA1 := hid hA1
          clear hx hT1 hA1
          generalize Parts.sum (X.take k) = s1 at *
          generalize Parts.all (X.take k) = a1 at *
          have i0' : (0 : Int) ≤ (k : Int) := by omega
          have i1' : (k : Int) < (X.length : Int) := by omega
          rcases hr.2 with ⟨rfl, ao, c, rfl, hnil⟩ | ⟨hm0, b, off, c, rfl, hb, hmc, hcm, hcell⟩
          · obtain rfl : cs = [] := List.eq_nil_of_length_eq_zero (by simpa using hr.1)
            rcases ao with _ | ad
            · obtain rfl := hnil rfl
              go_wp2_with (at_builtin; go_must (refine wpList_append_own_none rfl _ _ 61 rfl w.heap.size 9 i0 1 Tryz.underlying61 hi _ _ _ rfl hown rfl ?_))
              go_roundw
              case rel => exact ⟨k + 1, by omega, by go_num, by rw [HT1.out, HA1.out, Nat.add_zero, List.append_nil]; exact hown, hbel⟩
              case measure => simp [intOf]; omega
            · have hcl : ∀ j u, ([] : List Value)[j]? = some u → wr.cell? (ad.add j) = some u := fun j u h => by simp at h
              go_wp2_with (at_builtin; go_must (refine wpList_append_own _ rfl _ _ 61 rfl w.heap.size 9 i0 (.string ⟨#[]⟩) 1 16 Tryz.underlying61 hi hz0 hz1 hz2 rfl (by decide) _ _ _ rfl hown ad 0 c [] rfl (by simp) hcl (by simp) (by simp only [maxLen]; omega) (by omega) hbel.size ?_))
              intro v2 w2 hown2 hg2 _
              go_wp2
              go_roundw
              case rel => exact ⟨k + 1, by omega, by go_num, by rw [HT1.out, HA1.out]; first | exact hown2 | (rw [Nat.add_zero, List.append_nil]; exact hown2), hbel.grown hg2 hbel.size (fun j hj => (hown.lt j hj).1)⟩
              case measure => simp [intOf]; omega
          · have hcl : ∀ j u, cs[j]? = some u → wr.cell? ((⟨b, off, none⟩ : Addr).add j) = some u := fun j u h => by rw [Addr.add_lit]; exact hcell j u h
            go_wp2_with (at_builtin; go_must (refine wpList_append_own _ rfl _ _ 61 rfl w.heap.size 9 i0 (.string ⟨#[]⟩) 1 16 Tryz.underlying61 hi hz0 hz1 hz2 rfl (by decide) _ _ _ rfl hown ⟨b, off, none⟩ m c cs rfl hr.1 hcl h1 (by simp only [maxLen]; omega) (by omega) hbel.size ?_))
            intro v2 w2 hown2 hg2 _
            go_wp2
            go_roundw
            case rel => exact ⟨k + 1, by omega, by go_num, by rw [HT1.out, HA1.out]; first | exact hown2 | (rw [Nat.add_zero, List.append_nil]; exact hown2), hbel.grown hg2 hbel.size (fun j hj => (hown.lt j hj).1)⟩
            case measure => simp [intOf]; omega
        · have hkX : k = X.length := by omega
          subst hkX
          rw [List.take_length, HS.out] at hown
          go_wp2
          go_ret
          exact ⟨_, rfl, .of_own hown, hbel⟩

end Go.Proofs.YtkncamggdfmlnaaGreat

