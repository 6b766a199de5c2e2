/-
  5 texts of this proof in one, in build order: WWith, YFind, YIndexB, YCat, YCat2.
-/
import Derived.Deep.RegionHeld3
import Derived.Deep.Cut
import Derived.Test.YtabanbpnghidhaaJ01
import Derived.Test.YtabanbpnghidhaaJ03
import Derived.Test.YtabanbpnghidhaaJ04
namespace Go.Proofs.Ytabanbpnghidhaa
open Go.RowKit
open Go.Maps
theorem owns_base {w : World} {B base : Nat} {e : TypeId} {k n : Nat} {v : Value} {xs : List Value} (h : w.ownsRow B e k v n xs) (hb : base ≤ B) : w.ownsRow base e k v n xs := by
  refine ⟨h.1, ?_⟩
  rcases h.2 with h | ⟨g, cap, cur, h1, h2, h3⟩
  · exact .inl h
  · exact .inr ⟨g, cap, cur, h1, Nat.le_trans hb h2, h3⟩

set_option maxRecDepth 100000 in
set_option maxHeartbeats 8000000 in
/-- schema.insert: one more, by its name, in a list of the call's own. -/
theorem sInsertTab (CS1 CS2 : List (List Value)) (nm : List Value → Wd) (sv : Value) (s0 : Wd) (a1 : Option Addr) (n1 c1 : Nat) (w : World) (h : IsL kRawTab (fun _ => True) w sv (CS1 ++ CS2)) (hsh : ∀ c ∈ CS1 ++ CS2, shTab c) (hnm : ∀ c ∈ CS1 ++ CS2, ∀ s r, c = .string s :: r → nm c = s)
    (h1 : ∀ c ∈ CS1, Op.bytesLess (nm c).toList s0.toList = true) (h2 : ∀ c ∈ CS2, Op.bytesLess (nm c).toList s0.toList = false) (hl : (CS1 ++ CS2).length ≤ 1000000) :
    Calls Try.prog 16 #[sv, .agg [.string s0, .slice a1 n1 c1].toArray, .func (.func 17) #[] #[]] w fun e w' => ∃ v, e = .returned v ∧ w'.ownsRow w.heap.size 43 2 v (CS1.length + CS2.length + 1) (CS1.flatten ++ ([.string s0, .slice a1 n1 c1] ++ CS2.flatten)) ∧ Below w.heap.size w w' := by
  obtain ⟨ao, c, rfl⟩ := h.shape
  have hb2 := bel2 w (.cells [.string s0, .slice a1 n1 c1].toArray 43) (.cells #[.func (.func 17) #[] #[]] 60)
  have B4 : ((w.alloc (.cells [.string s0, .slice a1 n1 c1].toArray 43)).alloc (.cells #[.func (.func 17) #[] #[]] 60)).heap[w.heap.size]? = some (.cells [.string s0, .slice a1 n1 c1].toArray 43) := block_alloc_of (block_alloc_at _ _) _
  have B5 : ((w.alloc (.cells [.string s0, .slice a1 n1 c1].toArray 43)).alloc (.cells #[.func (.func 17) #[] #[]] 60)).heap[w.heap.size + 1]? = some (.cells #[.func (.func 17) #[] #[]] 60) := block2 _ _ _
  generalize hW : (w.alloc (.cells [.string s0, .slice a1 n1 c1].toArray 43)).alloc (.cells #[.func (.func 17) #[] #[]] 60) = W at hb2 B4 B5
  have hflat : (CS1 ++ CS2).flatten = CS1.flatten ++ CS2.flatten := List.flatten_append
  have hlk : ∀ c ∈ CS1 ++ CS2, c.length = 2 := fun c hc => len_shTab (hsh c hc)
  have hl1 : CS1.flatten.length = CS1.length * 2 := rawflat_len fun c hc => hlk c (by simp [hc])
  have hl2 : CS2.flatten.length = CS2.length * 2 := rawflat_len fun c hc => hlk c (by simp [hc])
  have hone : ∀ u ∈ CS1.flatten ++ CS2.flatten, u.oneCell' = true := fun u hu => by
    rw [← hflat] at hu
    obtain ⟨c, hc, hu⟩ := List.mem_flatten.1 hu
    exact one_shTab (hsh c hc) u hu
  have hrow : ∀ V, Below w.heap.size w V → IsRowB (fun _ => True) 2 V (.slice ao (CS1 ++ CS2).length c) (CS1 ++ CS2).length (CS1.flatten ++ CS2.flatten) := fun V hV => by
    obtain ⟨cs, hr, ha⟩ := h.keep (keepsB hV)
    obtain ⟨CS, rfl, he, hR⟩ := all_raw ha
    have hCS : CS = CS1 ++ CS2 := by
      apply List.ext_getElem he
      intro i q1 q2
      exact (hR i _ _ (List.getElem?_eq_getElem q2) (List.getElem?_eq_getElem q1)).1
    rw [hCS, hflat] at hr; exact hr
  have HS := fun V (hV : Below w.heap.size w V) (hc : V.cell? ⟨w.heap.size + 1, 0, none⟩ = some (.func (.func 17) #[] #[])) (hlt : w.heap.size + 1 < V.heap.size) => searchTab (CS1 ++ CS2) ao (CS1 ++ CS2).length c (.pointer (some ⟨w.heap.size + 1, 0, none⟩)) s0 (fun i => cmpS (nm ((CS1 ++ CS2).getD i [])) s0) CS1.length V (fun V' hV' => h.keep (keepsB (hV.trans (hV'.mono hV.size)))) (by simp)
    (fun t ht => by
      have hm : (CS1 ++ CS2).getD t [] ∈ CS1 := by rw [List.getD_eq_getElem?_getD, List.getElem?_append_left ht, List.getElem?_eq_getElem ht]; exact List.getElem_mem ht
      show cmpS _ _ < 0
      unfold cmpS
      rw [if_pos (h1 _ hm)]; decide)
    (fun t ht htl => by
      have htl' : t - CS1.length < CS2.length := by rw [List.length_append] at htl; omega
      have hm : (CS1 ++ CS2).getD t [] ∈ CS2 := by rw [List.getD_eq_getElem?_getD, List.getElem?_append_right ht, List.getElem?_eq_getElem htl']; exact List.getElem_mem htl'
      show ¬ cmpS _ _ < 0
      unfold cmpS
      rw [if_neg (by rw [h2 _ hm]; decide)]
      split <;> decide) hl
    (fun i cs V' hi hV' => by
      obtain ⟨r0, a1, n1, c1, rfl⟩ := hsh cs (List.mem_of_getElem? hi)
      refine (insert1_Tab r0 s0 a1 n1 c1 (w.heap.size + 1) V' ((hV'.cell (p := ⟨w.heap.size + 1, 0, none⟩) hlt).trans hc) (Nat.lt_of_lt_of_le hlt hV'.size)).mono ?_
      rintro e V'' ⟨rfl, hb⟩
      refine ⟨?_, hb⟩
      simp only [List.getD_eq_getElem?_getD, hi, Option.getD_some]
      rw [hnm _ (List.mem_of_getElem? hi) r0 _ rfl])
  have HCl := fun V (hV : Below w.heap.size w V) => cloneTab_any (CS1.flatten ++ CS2.flatten) (CS1 ++ CS2).length (.slice ao (CS1 ++ CS2).length c) (fun _ => True) V (hrow V hV) hone (by omega)
  have hlen2 : (CS1 ++ CS2).length = CS1.length + CS2.length := List.length_append
  have HIn := fun (v : Value) (B vb : Nat) (V : World) ho hv hne hB => insTab CS1.flatten CS2.flatten [.string s0, .slice a1 n1 c1] CS1.length CS2.length v B vb V ho hl1 hl2 rfl hone (by simp [Value.oneCell']) (by omega) hv hne hB
  rw [hlen2] at HS HCl ⊢
  have HW : Hid _ := hW
  have hWl : w.heap.size + 1 < W.heap.size := lt_of_block B5
  clear hW hrow h hflat hone hsh hnm h1 h2 hlk
  have cB := cell_of_block B5 (j := 0) (u := .func (.func 17) #[] #[]) rfl
  have d0 := cell_of_block B4 (j := 0) (u := .string s0) rfl
  have d1 := cell_of_block B4 (j := 1) (u := .slice a1 n1 c1) rfl
  go_enter Try.func16, Try.ntmps16
  go_upto_region 1 with fail
  rw [HW.out]
  go_wp2_with (first
    | (go_at_call 17; go_must (go_fit (tableName_any s0 a1 n1 c1 _); rintro e W1 ⟨rfl, hbW⟩; have HSx := HS W1 (bthen hb2 hbW) ((hbW.cell (p := ⟨w.heap.size + 1, 0, none⟩) hWl).trans cB) (Nat.lt_of_lt_of_le hWl hbW.size)))
    | (go_at_call 46; go_must (go_fit HSx; rintro e V1 ⟨fnd, rfl, hbS⟩)))
  have hbV : Below w.heap.size w V1 := bthen hb2 (bthen hbW hbS)
  have BV := (hbS.block _ (Nat.lt_of_lt_of_le (lt_of_block B4) hbW.size)).trans ((hbW.block _ (lt_of_block B4)).trans B4)
  have KS : Hid (∀ V, Below V1.heap.size V1 V → V.cell? ⟨w.heap.size, 0, none⟩ = some (.string s0) ∧ V.cell? ⟨w.heap.size, 1, none⟩ = some (.slice a1 n1 c1)) := fun V hV => by
    have B := (hV.block _ (lt_of_block BV)).trans BV
    exact ⟨cell_of_block B (j := 0) rfl, cell_of_block B (j := 1) rfl⟩
  have y0 := KS.out V1.drew (Below.refl _ _).drew
  have y4 := KS.out (V1.drew.alloc (.cells [.string s0, .slice a1 n1 c1].toArray 43)) ((Below.refl _ V1).drew.alloc (Nat.le_refl _) _)
  have y5 := KS.out (V1.alloc (.cells [.string s0, .slice a1 n1 c1].toArray 43)).drew ((Below.refl _ V1).alloc (Nat.le_refl _) _).drew
  have hA : Below w.heap.size w V1.drew := hbV.drew
  have hBw : Below w.heap.size w (V1.alloc (.cells [.string s0, .slice a1 n1 c1].toArray 43)).drew := (hbV.alloc hbV.size _).drew
  have HCA := HCl _ hA
  have HCB := HCl _ hBw
  have hVs : V1.drew.heap.size = V1.heap.size := rfl
  have hVs2 : (V1.alloc (.cells [.string s0, .slice a1 n1 c1].toArray 43)).drew.heap.size = V1.heap.size + 1 := World.size_alloc _ _
  rw [hVs] at HCA
  rw [hVs2] at HCB
  have bVB : (V1.alloc (.cells [.string s0, .slice a1 n1 c1].toArray 43)).drew.heap[V1.heap.size]? = some (.cells [.string s0, .slice a1 n1 c1].toArray 43) := block_alloc_at V1 _
  clear HCl HS HSx
  go_region_held3 (fun V => V.cell? ⟨w.heap.size, 0, none⟩ = some (.string s0) ∧ V.cell? ⟨w.heap.size, 1, none⟩ = some (.slice a1 n1 c1))
    (with_reducible first | exact y0 | exact y4 | exact y5 | exact y1 | exact y2 | exact y3)
    (first
      | (go_at_call 48; refine HCA.mono ?_; rintro e w2 ⟨v, rfl, own2, bel2'⟩; have hz : Below V1.heap.size V1 w2 := (Below.refl _ _).drew.trans bel2'; have y1 := KS.out _ hz; have y2 := KS.out _ (hz.alloc hz.size (.cells [.string s0, .slice a1 n1 c1].toArray 43)); have HI := HIn v V1.heap.size w2.heap.size (w2.alloc (.cells [.string s0, .slice a1 n1 c1].toArray 43)) (ownsRow_below own2 (bel1 _ _)) (block_alloc_at _ _) (fun hh => by have := (own2.lt _ hh).2; omega) (Nat.le_trans hz.size (by simp)))
      | (go_at_call 48; refine HCB.mono ?_; rintro e w2 ⟨v, rfl, own2, bel2'⟩; have hz : Below V1.heap.size V1 w2 := ((Below.refl _ _).alloc (Nat.le_refl _) _).drew.trans (bel2'.mono (Nat.le_succ _)); have y1 := KS.out _ hz; have HI := HIn v (V1.heap.size + 1) V1.heap.size w2 own2 ((bel2'.block _ (Nat.lt_succ_self _)).trans bVB) (fun hh => by have := (own2.lt _ hh).1; omega) (by have := bel2'.size; rw [hVs2] at this; exact this))
      | (go_at_call 47; refine HI.mono ?_; rintro e w3 ⟨v3, rfl, own3, bel3'⟩; have hz3 : Below V1.heap.size V1 w3 := (hz.alloc hz.size (.cells [.string s0, .slice a1 n1 c1].toArray 43)).trans (bel3'.mono (Nat.le_refl _)); have y3 := KS.out _ hz3)
      | (go_at_call 47; refine HI.mono ?_; rintro e w3 ⟨v3, rfl, own3, bel3'⟩; have hz3 : Below V1.heap.size V1 w3 := hz.trans (bel3'.mono (Nat.le_succ _)); have y3 := KS.out _ hz3))
  · go_wp2
    go_ret
    exact ⟨_, rfl, owns_base own3 hbV.size, hbV.trans (hz3.mono hbV.size)⟩
  · go_wp2
    go_ret
    exact ⟨_, rfl, owns_base own3 (Nat.le_succ_of_le hbV.size), hbV.trans (hz3.mono hbV.size)⟩

set_option maxRecDepth 100000 in
set_option maxHeartbeats 8000000 in
/-- schema.insert: one more, by its name, in a list of the call's own. -/
theorem sInsertIdx (CS1 CS2 : List (List Value)) (nm : List Value → Wd) (sv : Value) (s0 : Wd) (s1 s2 : Wd) (w : World) (h : IsL kRawIdx (fun _ => True) w sv (CS1 ++ CS2)) (hsh : ∀ c ∈ CS1 ++ CS2, shIdx c) (hnm : ∀ c ∈ CS1 ++ CS2, ∀ s r, c = .string s :: r → nm c = s)
    (h1 : ∀ c ∈ CS1, Op.bytesLess (nm c).toList s0.toList = true) (h2 : ∀ c ∈ CS2, Op.bytesLess (nm c).toList s0.toList = false) (hl : (CS1 ++ CS2).length ≤ 1000000) :
    Calls Try.prog 18 #[sv, .agg [.string s0, .string s1, .string s2].toArray, .func (.func 19) #[] #[]] w fun e w' => ∃ v, e = .returned v ∧ w'.ownsRow w.heap.size 63 3 v (CS1.length + CS2.length + 1) (CS1.flatten ++ ([.string s0, .string s1, .string s2] ++ CS2.flatten)) ∧ Below w.heap.size w w' := by
  obtain ⟨ao, c, rfl⟩ := h.shape
  have hb2 := bel2 w (.cells [.string s0, .string s1, .string s2].toArray 63) (.cells #[.func (.func 19) #[] #[]] 64)
  have B4 : ((w.alloc (.cells [.string s0, .string s1, .string s2].toArray 63)).alloc (.cells #[.func (.func 19) #[] #[]] 64)).heap[w.heap.size]? = some (.cells [.string s0, .string s1, .string s2].toArray 63) := block_alloc_of (block_alloc_at _ _) _
  have B5 : ((w.alloc (.cells [.string s0, .string s1, .string s2].toArray 63)).alloc (.cells #[.func (.func 19) #[] #[]] 64)).heap[w.heap.size + 1]? = some (.cells #[.func (.func 19) #[] #[]] 64) := block2 _ _ _
  generalize hW : (w.alloc (.cells [.string s0, .string s1, .string s2].toArray 63)).alloc (.cells #[.func (.func 19) #[] #[]] 64) = W at hb2 B4 B5
  have hflat : (CS1 ++ CS2).flatten = CS1.flatten ++ CS2.flatten := List.flatten_append
  have hlk : ∀ c ∈ CS1 ++ CS2, c.length = 3 := fun c hc => len_shIdx (hsh c hc)
  have hl1 : CS1.flatten.length = CS1.length * 3 := rawflat_len fun c hc => hlk c (by simp [hc])
  have hl2 : CS2.flatten.length = CS2.length * 3 := rawflat_len fun c hc => hlk c (by simp [hc])
  have hone : ∀ u ∈ CS1.flatten ++ CS2.flatten, u.oneCell' = true := fun u hu => by
    rw [← hflat] at hu
    obtain ⟨c, hc, hu⟩ := List.mem_flatten.1 hu
    exact one_shIdx (hsh c hc) u hu
  have hrow : ∀ V, Below w.heap.size w V → IsRowB (fun _ => True) 3 V (.slice ao (CS1 ++ CS2).length c) (CS1 ++ CS2).length (CS1.flatten ++ CS2.flatten) := fun V hV => by
    obtain ⟨cs, hr, ha⟩ := h.keep (keepsB hV)
    obtain ⟨CS, rfl, he, hR⟩ := all_raw ha
    have hCS : CS = CS1 ++ CS2 := by
      apply List.ext_getElem he
      intro i q1 q2
      exact (hR i _ _ (List.getElem?_eq_getElem q2) (List.getElem?_eq_getElem q1)).1
    rw [hCS, hflat] at hr; exact hr
  have HS := fun V (hV : Below w.heap.size w V) (hc : V.cell? ⟨w.heap.size + 1, 0, none⟩ = some (.func (.func 19) #[] #[])) (hlt : w.heap.size + 1 < V.heap.size) => searchIdx (CS1 ++ CS2) ao (CS1 ++ CS2).length c (.pointer (some ⟨w.heap.size + 1, 0, none⟩)) s0 (fun i => cmpS (nm ((CS1 ++ CS2).getD i [])) s0) CS1.length V (fun V' hV' => h.keep (keepsB (hV.trans (hV'.mono hV.size)))) (by simp)
    (fun t ht => by
      have hm : (CS1 ++ CS2).getD t [] ∈ CS1 := by rw [List.getD_eq_getElem?_getD, List.getElem?_append_left ht, List.getElem?_eq_getElem ht]; exact List.getElem_mem ht
      show cmpS _ _ < 0
      unfold cmpS
      rw [if_pos (h1 _ hm)]; decide)
    (fun t ht htl => by
      have htl' : t - CS1.length < CS2.length := by rw [List.length_append] at htl; omega
      have hm : (CS1 ++ CS2).getD t [] ∈ CS2 := by rw [List.getD_eq_getElem?_getD, List.getElem?_append_right ht, List.getElem?_eq_getElem htl']; exact List.getElem_mem htl'
      show ¬ cmpS _ _ < 0
      unfold cmpS
      rw [if_neg (by rw [h2 _ hm]; decide)]
      split <;> decide) hl
    (fun i cs V' hi hV' => by
      obtain ⟨r0, s1, s2, rfl⟩ := hsh cs (List.mem_of_getElem? hi)
      refine (insert1_Idx r0 s0 s1 s2 (w.heap.size + 1) V' ((hV'.cell (p := ⟨w.heap.size + 1, 0, none⟩) hlt).trans hc) (Nat.lt_of_lt_of_le hlt hV'.size)).mono ?_
      rintro e V'' ⟨rfl, hb⟩
      refine ⟨?_, hb⟩
      simp only [List.getD_eq_getElem?_getD, hi, Option.getD_some]
      rw [hnm _ (List.mem_of_getElem? hi) r0 _ rfl])
  have HCl := fun V (hV : Below w.heap.size w V) => cloneIdx_any (CS1.flatten ++ CS2.flatten) (CS1 ++ CS2).length (.slice ao (CS1 ++ CS2).length c) (fun _ => True) V (hrow V hV) hone (by omega)
  have hlen2 : (CS1 ++ CS2).length = CS1.length + CS2.length := List.length_append
  have HIn := fun (v : Value) (B vb : Nat) (V : World) ho hv hne hB => insIdx CS1.flatten CS2.flatten [.string s0, .string s1, .string s2] CS1.length CS2.length v B vb V ho hl1 hl2 rfl hone (by simp [Value.oneCell']) (by omega) hv hne hB
  rw [hlen2] at HS HCl ⊢
  have HW : Hid _ := hW
  have hWl : w.heap.size + 1 < W.heap.size := lt_of_block B5
  clear hW hrow h hflat hone hsh hnm h1 h2 hlk
  have cB := cell_of_block B5 (j := 0) (u := .func (.func 19) #[] #[]) rfl
  have d0 := cell_of_block B4 (j := 0) (u := .string s0) rfl
  have d1 := cell_of_block B4 (j := 1) (u := .string s1) rfl
  have d2 := cell_of_block B4 (j := 2) (u := .string s2) rfl
  go_enter Try.func18, Try.ntmps18
  go_upto_region 1 with fail
  rw [HW.out]
  go_wp2_with (first
    | (go_at_call 19; go_must (go_fit (indexName_any s0 s1 s2 _); rintro e W1 ⟨rfl, hbW⟩; have HSx := HS W1 (bthen hb2 hbW) ((hbW.cell (p := ⟨w.heap.size + 1, 0, none⟩) hWl).trans cB) (Nat.lt_of_lt_of_le hWl hbW.size)))
    | (go_at_call 50; go_must (go_fit HSx; rintro e V1 ⟨fnd, rfl, hbS⟩)))
  have hbV : Below w.heap.size w V1 := bthen hb2 (bthen hbW hbS)
  have BV := (hbS.block _ (Nat.lt_of_lt_of_le (lt_of_block B4) hbW.size)).trans ((hbW.block _ (lt_of_block B4)).trans B4)
  have KS : Hid (∀ V, Below V1.heap.size V1 V → V.cell? ⟨w.heap.size, 0, none⟩ = some (.string s0) ∧ V.cell? ⟨w.heap.size, 1, none⟩ = some (.string s1) ∧ V.cell? ⟨w.heap.size, 2, none⟩ = some (.string s2)) := fun V hV => by
    have B := (hV.block _ (lt_of_block BV)).trans BV
    exact ⟨cell_of_block B (j := 0) rfl, cell_of_block B (j := 1) rfl, cell_of_block B (j := 2) rfl⟩
  have y0 := KS.out V1.drew (Below.refl _ _).drew
  have y4 := KS.out (V1.drew.alloc (.cells [.string s0, .string s1, .string s2].toArray 63)) ((Below.refl _ V1).drew.alloc (Nat.le_refl _) _)
  have y5 := KS.out (V1.alloc (.cells [.string s0, .string s1, .string s2].toArray 63)).drew ((Below.refl _ V1).alloc (Nat.le_refl _) _).drew
  have hA : Below w.heap.size w V1.drew := hbV.drew
  have hBw : Below w.heap.size w (V1.alloc (.cells [.string s0, .string s1, .string s2].toArray 63)).drew := (hbV.alloc hbV.size _).drew
  have HCA := HCl _ hA
  have HCB := HCl _ hBw
  have hVs : V1.drew.heap.size = V1.heap.size := rfl
  have hVs2 : (V1.alloc (.cells [.string s0, .string s1, .string s2].toArray 63)).drew.heap.size = V1.heap.size + 1 := World.size_alloc _ _
  rw [hVs] at HCA
  rw [hVs2] at HCB
  have bVB : (V1.alloc (.cells [.string s0, .string s1, .string s2].toArray 63)).drew.heap[V1.heap.size]? = some (.cells [.string s0, .string s1, .string s2].toArray 63) := block_alloc_at V1 _
  clear HCl HS HSx
  go_region_held3 (fun V => V.cell? ⟨w.heap.size, 0, none⟩ = some (.string s0) ∧ V.cell? ⟨w.heap.size, 1, none⟩ = some (.string s1) ∧ V.cell? ⟨w.heap.size, 2, none⟩ = some (.string s2))
    (with_reducible first | exact y0 | exact y4 | exact y5 | exact y1 | exact y2 | exact y3)
    (first
      | (go_at_call 52; refine HCA.mono ?_; rintro e w2 ⟨v, rfl, own2, bel2'⟩; have hz : Below V1.heap.size V1 w2 := (Below.refl _ _).drew.trans bel2'; have y1 := KS.out _ hz; have y2 := KS.out _ (hz.alloc hz.size (.cells [.string s0, .string s1, .string s2].toArray 63)); have HI := HIn v V1.heap.size w2.heap.size (w2.alloc (.cells [.string s0, .string s1, .string s2].toArray 63)) (ownsRow_below own2 (bel1 _ _)) (block_alloc_at _ _) (fun hh => by have := (own2.lt _ hh).2; omega) (Nat.le_trans hz.size (by simp)))
      | (go_at_call 52; refine HCB.mono ?_; rintro e w2 ⟨v, rfl, own2, bel2'⟩; have hz : Below V1.heap.size V1 w2 := ((Below.refl _ _).alloc (Nat.le_refl _) _).drew.trans (bel2'.mono (Nat.le_succ _)); have y1 := KS.out _ hz; have HI := HIn v (V1.heap.size + 1) V1.heap.size w2 own2 ((bel2'.block _ (Nat.lt_succ_self _)).trans bVB) (fun hh => by have := (own2.lt _ hh).1; omega) (by have := bel2'.size; rw [hVs2] at this; exact this))
      | (go_at_call 51; refine HI.mono ?_; rintro e w3 ⟨v3, rfl, own3, bel3'⟩; have hz3 : Below V1.heap.size V1 w3 := (hz.alloc hz.size (.cells [.string s0, .string s1, .string s2].toArray 63)).trans (bel3'.mono (Nat.le_refl _)); have y3 := KS.out _ hz3)
      | (go_at_call 51; refine HI.mono ?_; rintro e w3 ⟨v3, rfl, own3, bel3'⟩; have hz3 : Below V1.heap.size V1 w3 := hz.trans (bel3'.mono (Nat.le_succ _)); have y3 := KS.out _ hz3))
  · go_wp2
    go_ret
    exact ⟨_, rfl, owns_base own3 hbV.size, hbV.trans (hz3.mono hbV.size)⟩
  · go_wp2
    go_ret
    exact ⟨_, rfl, owns_base own3 (Nat.le_succ_of_le hbV.size), hbV.trans (hz3.mono hbV.size)⟩

end Go.Proofs.Ytabanbpnghidhaa

namespace Go.Proofs.Ytabanbpnghidhaa
open Go.RowKit Go.Maps

theorem beq_str (a b : Wd) : (a.toList == b.toList) = decide (a = b) := by
  rw [Bool.eq_iff_iff, beq_iff_eq, decide_eq_true_eq, ByteArray.toList_eq, ByteArray.toList_eq]
  constructor
  · intro h; exact ByteArray.ext (Array.toList_inj.1 h)
  · rintro rfl; rfl
/-- The place of a column; -1: there is none. -/
def colAt (l : List ColD) (s : Wd) : Int := firstI (atI l fun x => decide (x.name = s)) 0 l.length
/-- The table of a name. -/
def tabOf (T : List TabD) (s : Wd) : Option TabD := T.find? fun x => decide (x.name = s)

set_option maxHeartbeats 1000000 in
theorem findCol1_any (x : ColD) (pb : Nat) (s : Wd) (w : World) (hp : w.cell? ⟨pb, 0, none⟩ = some (.string s)) (hpb : pb < w.heap.size) :
    Calls Try.prog 29 #[.agg #[.string x.name, .int .i64 x.ty, .bool x.must], .pointer (some ⟨pb, 0, none⟩)] w fun e w' => e = .returned (.bool (decide (x.name = s))) ∧ Below w.heap.size w w' := by
  obtain ⟨name, ty, must⟩ := x
  simp only
  have E : Hid (decide (name = s) = (name.toList == s.toList)) := (beq_str _ _).symm
  generalize decide (name = s) = r at E
  have hp1 := ((bel1 w (.cells #[.string name, .int .i64 ty, .bool must] 56)).cell (p := ⟨pb, 0, none⟩) hpb).trans hp
  go_enter Try.func29, Try.ntmps29
  go_wp2
  go_ret
  exact ⟨ret_bool (by rw [E.out]), bel1 _ _⟩

set_option maxHeartbeats 1000000 in
theorem findTable1_any (x : TabD) (sv : Value) (hsv : IsSl sv) (pb : Nat) (s : Wd) (w : World) (hp : w.cell? ⟨pb, 0, none⟩ = some (.string s)) (hpb : pb < w.heap.size) :
    Calls Try.prog 25 #[.agg #[.string x.name, sv], .pointer (some ⟨pb, 0, none⟩)] w fun e w' => e = .returned (.bool (decide (x.name = s))) ∧ Below w.heap.size w w' := by
  obtain ⟨name, cols⟩ := x
  obtain ⟨ao, n, c, rfl⟩ := hsv
  simp only
  have E : Hid (decide (name = s) = (name.toList == s.toList)) := (beq_str _ _).symm
  generalize decide (name = s) = r at E
  have hp1 := ((bel1 w (.cells #[.string name, .slice ao n c] 43)).cell (p := ⟨pb, 0, none⟩) hpb).trans hp
  go_enter Try.func25, Try.ntmps25
  go_wp2
  go_ret
  exact ⟨ret_bool (by rw [E.out]), bel1 _ _⟩

set_option maxHeartbeats 2000000 in
theorem findCol_any (l : List ColD) (nmv : Wd) (sv : Value) (s : Wd) (C : Nat) (w : World) (hl : IsL kCol (fun k => k < C) w sv l) (hC : C ≤ w.heap.size) :
    Calls Try.prog 11 #[.agg #[.string nmv, sv], .string s] w fun e w' => e = .returned (.int .i64 (colAt l s)) ∧ Below w.heap.size w w' := by
  obtain ⟨ao, c, rfl⟩ := hl.shape
  have hb2 := bel2 w (.cells #[.string nmv, .slice ao l.length c] 43) (.cells #[.string s] 9)
  have HC := index_findCol l (fun k => k < C) ao l.length c (.pointer (some ⟨w.heap.size + 1, 0, none⟩)) (atI l fun x => decide (x.name = s))
    (fun _ W => W.cell? ⟨w.heap.size + 1, 0, none⟩ = some (.string s) ∧ Below w.heap.size w W ∧ w.heap.size + 2 ≤ W.heap.size) (fun W => Below w.heap.size w W)
    ((w.alloc (.cells #[.string nmv, .slice ao l.length c] 43)).alloc (.cells #[.string s] 9)) (fun i W h => h.2.1) (fun i W h => hl.keep (keepsC (h.2.1.mono hC)))
    (by
      rintro i x cs W hx ⟨h1, h2, h3⟩ rfl
      refine (findCol1_any x (w.heap.size + 1) s W h1 (by omega)).mono ?_
      rintro e W' ⟨rfl, hb⟩
      have hbW : Below w.heap.size w W' := h2.trans (hb.mono h2.size)
      exact ⟨by rw [atI_get hx], hbW, fun _ => ⟨(hb.cell (p := ⟨w.heap.size + 1, 0, none⟩) (show w.heap.size + 1 < W.heap.size by omega)).trans h1, hbW, Nat.le_trans h3 hb.size⟩⟩)
    ⟨cell_of_block (block2 _ _ _) rfl, hb2, by simp⟩
  have E : Hid (colAt l s = firstI (atI l fun x => decide (x.name = s)) 0 l.length) := rfl
  generalize colAt l s = r at E
  generalize firstI (atI l fun x => decide (x.name = s)) 0 l.length = q at E HC
  clear hl
  go_enter Try.func11, Try.ntmps11
  go_wp2_with (go_at_call 28; go_fit HC; rintro e w1 ⟨rfl, hb1⟩)
  go_ret
  exact ⟨ret_int (by rw [E.out]), hb1⟩

/-- A table and whether it is there are answered. -/
theorem end_tab {fn : Func} {p q : Tmp} {w : World} {g : Nat} {a : Act} {c0 c1 : Value} {t : TypeId} {fr : Nat × Nat} {R : Ending → World → Prop} (nmv : Wd) (sv : Value) (there : Bool) (hr : fn.results = #[.cell p 43, .tmp q]) (hp : a.tmps.getD p undef = .pointer (some ⟨g, 0, none⟩)) (hq : a.tmps.getD q undef = .bool there) (hd : a.defers = [])
    (hg : w.heap[g]? = some (.cells #[c0, c1] t fr)) (hR : R (.returned (.tuple #[.agg #[.string nmv, sv], .bool there])) ((w.setCell ⟨g, 0, none⟩ (.string nmv)).setCell ⟨g, 1, none⟩ sv)) :
    bodyPost Try.prog fn R .ret a ((w.setCell ⟨g, 0, none⟩ (.string nmv)).setCell ⟨g, 1, none⟩ sv) :=
  bodyPost_ret (results_two hr a.tmps _ g t _ fr _ _ hp hq (set_at (set_at hg 0 _) 1 _) Try.underlying43 rfl (by kernel_rfl)) hd hR
/-- What FindTable answers. -/
def FindPost (T : List TabD) (s : Wd) (F : Nat → Prop) (w : World) (e : Ending) (w' : World) : Prop :=
  ∃ nmv ao n c there, e = .returned (.tuple #[.agg #[.string nmv, .slice ao n c], .bool there]) ∧ (match tabOf T s with | some t => there = true ∧ nmv = t.name ∧ IsL kCol F w' (.slice ao n c) t.cols | none => there = false ∧ nmv = noW ∧ ao = none ∧ n = 0 ∧ c = 0) ∧ Below w.heap.size w w'

set_option maxHeartbeats 2000000 in
theorem findTable_any (T : List TabD) (tv iv : Value) (hiv : IsSl iv) (s : Wd) (C : Nat) (w : World) (hl : IsL kTab (fun k => k < C) w tv T) (hC : C ≤ w.heap.size) :
    Calls Try.prog 8 #[.agg #[tv, iv], .string s] w (FindPost T s (fun k => k < C) w) := by
  obtain ⟨ao, c, rfl⟩ := hl.shape
  obtain ⟨io, il, ic, rfl⟩ := hiv
  have hb3 := bel3 w (.cells #[.slice ao T.length c, .slice io il ic] 25) (.cells #[.string s] 9) (.cells #[.string noW, .slice none 0 0] 43)
  have HC := index_findTable T (fun k => k < C) ao T.length c (.pointer (some ⟨w.heap.size + 1, 0, none⟩)) (atI T fun x => decide (x.name = s))
    (fun _ W => W.cell? ⟨w.heap.size + 1, 0, none⟩ = some (.string s) ∧ Below (w.heap.size + 3) (((w.alloc (.cells #[.slice ao T.length c, .slice io il ic] 25)).alloc (.cells #[.string s] 9)).alloc (.cells #[.string noW, .slice none 0 0] 43)) W) (fun W => Below (w.heap.size + 3) (((w.alloc (.cells #[.slice ao T.length c, .slice io il ic] 25)).alloc (.cells #[.string s] 9)).alloc (.cells #[.string noW, .slice none 0 0] 43)) W)
    (((w.alloc (.cells #[.slice ao T.length c, .slice io il ic] 25)).alloc (.cells #[.string s] 9)).alloc (.cells #[.string noW, .slice none 0 0] 43)) (fun i W h => h.2) (fun i W h => hl.keep (keepsC ((hb3.mono hC).trans (h.2.mono (by omega)))))
    (by
      rintro i x cs W hx ⟨h1, h2⟩ ⟨sv, rfl, hsv⟩
      have hsz := h2.size
      rw [show (((w.alloc (.cells #[.slice ao T.length c, .slice io il ic] 25)).alloc (.cells #[.string s] 9)).alloc (.cells #[.string noW, .slice none 0 0] 43)).heap.size = w.heap.size + 3 from by simp] at hsz
      refine (findTable1_any x sv (isL_one hsv) (w.heap.size + 1) s W h1 (by omega)).mono ?_
      rintro e W' ⟨rfl, hb⟩
      have hbW := h2.trans (hb.mono hsz)
      exact ⟨by rw [atI_get hx], hbW, fun _ => ⟨(hb.cell (p := ⟨w.heap.size + 1, 0, none⟩) (show w.heap.size + 1 < W.heap.size by omega)).trans h1, hbW⟩⟩)
    ⟨cell_of_block (block_alloc_of (block2 _ _ _) _) rfl, Below.refl _ _⟩
  rcases find_cases T (fun x => decide (x.name = s)) with ⟨h1, h2⟩ | ⟨k, t, h1, h2, h3, h4⟩
  · rw [h1] at HC
    have HP : Hid (tabOf T s = none) := h2
    clear h1 h2
    go_enter Try.func8, Try.ntmps8
    go_wp2_with (go_at_call 24; go_fit HC; rintro e w1 ⟨rfl, hb1⟩; obtain ⟨z1, q1, r1, s1, t1⟩ := three (g := w.heap.size) (hb1.mono (by simp)) (by simp))
    have hbl := (hb1.block (w.heap.size + 2) (by omega)).trans (block3 w (.cells #[.slice ao T.length c, .slice io il ic] 25) (.cells #[.string s] 9) (.cells #[.string noW, .slice none 0 0] 43))
    have hbw : Below w.heap.size w w1 := hb3.trans (hb1.mono (by omega))
    exact end_tab noW (.slice none 0 0) false Try.results8 rfl rfl rfl hbl ⟨noW, none, 0, 0, false, rfl, by rw [HP.out]; exact ⟨rfl, rfl, rfl, rfl, rfl⟩, (hbw.setCell (show w.heap.size ≤ w.heap.size + 2 by omega) _).setCell (show w.heap.size ≤ w.heap.size + 2 by omega) _⟩
  · rw [h1] at HC
    have HP : Hid (tabOf T s = some t) := h4
    obtain ⟨b, off, cs, rfl, hbC, hbl, ⟨sv, rfl, hsv⟩, hcell⟩ := isL_get hl h2
    obtain ⟨so, sc, rfl⟩ := hsv.shape
    have d0 := hcell 0 _ rfl
    have d1 := hcell 1 _ rfl
    simp only [kTab, Nat.add_zero] at d0 d1
    have hk : k < T.length := (List.getElem?_eq_some_iff.1 h2).1
    have k0 : (0 : Int) ≤ (k : Int) := by omega
    have k1 : (k : Int) < (T.length : Int) := by omega
    have k2 : ¬ (k : Int) < 0 := by omega
    clear h1 h2 h3 h4 hcell
    go_enter Try.func8, Try.ntmps8
    go_wp2_with (go_at_call 24; go_fit HC; rintro e w1 ⟨rfl, hb1⟩; obtain ⟨z1, q1, r1, s1, t1⟩ := three (g := w.heap.size) (hb1.mono (by simp)) (by simp); have hbw : Below w.heap.size w w1 := hb3.trans (hb1.mono (by omega)); have d2 := (hbw.cell (p := ⟨b, off + k * 2, none⟩) hbl).trans d0; have d3 := (hbw.cell (p := ⟨b, off + k * 2 + 1, none⟩) hbl).trans d1)
    have hbl2 := (hb1.block (w.heap.size + 2) (by omega)).trans (block3 w (.cells #[.slice (some ⟨b, off, none⟩) T.length c, .slice io il ic] 25) (.cells #[.string s] 9) (.cells #[.string noW, .slice none 0 0] 43))
    have hbF : Below w.heap.size w ((w1.setCell ⟨w.heap.size + 2, 0, none⟩ (.string t.name)).setCell ⟨w.heap.size + 2, 1, none⟩ (.slice so t.cols.length sc)) := (hbw.setCell (show w.heap.size ≤ w.heap.size + 2 by omega) _).setCell (show w.heap.size ≤ w.heap.size + 2 by omega) _
    exact end_tab t.name (.slice so t.cols.length sc) true Try.results8 rfl rfl rfl hbl2 ⟨t.name, so, t.cols.length, sc, true, rfl, by rw [HP.out]; exact ⟨rfl, rfl, hsv.keep (keepsC (hbF.mono hC))⟩, hbF⟩

end Go.Proofs.Ytabanbpnghidhaa

namespace Go.Proofs.Ytabanbpnghidhaa
open Go.RowKit

set_option maxRecDepth 100000 in
set_option maxHeartbeats 2000000 in
theorem index_goodTables (l : List (TabD)) (F : Nat → Prop) (ao : Option Addr) (n c : Nat) (p : Nat → Bool) (St : Nat → World → Prop) (En : World → Prop) (w : World) (hEn : ∀ i W, St i W → En W) (hIs : ∀ i W, St i W → IsL kTab F W (.slice ao n c) l)
    (hcall : ∀ i x cs W, l[i]? = some x → St i W → kTab.R F W x cs → Calls Try.prog 55 #[.agg cs.toArray] W fun e W' => e = .returned (.bool (p i)) ∧ En W' ∧ (p i = false → St (i + 1) W')) (h0 : St 0 w) :
    Calls Try.prog 24 #[.slice ao n c, .func (.func 55) #[] #[]] w fun e W' => e = .returned (.int .i64 (firstI p 0 l.length)) ∧ En W' := by
  obtain ⟨hn, hlm⟩ := isL_len (hIs 0 w h0)
  subst hn
  unfold maxLen at hlm
  go_enter Try.func24, Try.ntmps24
  go_wp2
  go_loopw [8] (fun i wr => ∃ k : Nat, k ≤ l.length ∧ i = .int .i64 k ∧ St k wr ∧ Hid (firstI p 0 l.length = firstI p k (l.length - k))) (fun i _ => l.length - (intOf i).toNat)
  case atStart => exact ⟨0, Nat.zero_le _, rfl, h0, rfl⟩
  case round =>
    obtain ⟨k, hk, rfl, hSt, HP⟩ := hrel
    by_cases hlt : k < l.length
    · obtain ⟨x, hx⟩ : ∃ x, l[k]? = some x := ⟨_, List.getElem?_eq_getElem hlt⟩
      obtain ⟨b, off, cs, rfl, _, hb, hR, hcell⟩ := isL_get (hIs k wr hSt) hx
      have HC := hcall k x cs wr hx hSt hR
      obtain ⟨sv, rfl, hsv⟩ := hR
      obtain ⟨ao1, c1, rfl⟩ := hsv.shape
      have d0 := hcell 0 _ rfl
      have d1 := hcell 1 _ rfl
      simp only [kTab, Nat.add_zero] at d0 d1
      have k0 : (0 : Int) ≤ (k : Int) := by omega
      have k1 : (k : Int) < (l.length : Int) := by omega
      have hst : Hid (firstI p k (l.length - k) = if p k then (k : Int) else firstI p (k + 1) (l.length - (k + 1))) := firstI_step p k l.length hlt
      clear hcell hx
      generalize hq : p k = q at HC hst
      clear hq
      cases q
      · go_wp2_with (go_at_call 55; go_must (go_fit HC; rintro e W' ⟨rfl, _, hS1⟩))
        go_roundw
        case rel => exact ⟨k + 1, by omega, by go_num, hS1 (by first | rfl | trivial), by rw [HP.out, hst.out]; rfl⟩
        case measure => simp [intOf]; omega
      · go_wp2_with (go_at_call 55; go_must (go_fit HC; rintro e W' ⟨rfl, hS1, _⟩))
        go_ret
        exact ⟨ret_int (by rw [HP.out, hst.out]; rfl), hS1⟩
    · have HE : Hid (firstI p k (l.length - k) = -1) := by show _ = _; rw [show l.length - k = 0 from by omega, firstI]
      go_wp2
      go_ret
      exact ⟨ret_int (by rw [HP.out, HE.out]), hEn k _ hSt⟩

set_option maxHeartbeats 2000000 in
theorem contains_goodTables (l : List (TabD)) (F : Nat → Prop) (ao : Option Addr) (n c : Nat) (p : Nat → Bool) (St : Nat → World → Prop) (En : World → Prop) (w : World) (hEn : ∀ i W, St i W → En W) (hIs : ∀ i W, St i W → IsL kTab F W (.slice ao n c) l)
    (hcall : ∀ i x cs W, l[i]? = some x → St i W → kTab.R F W x cs → Calls Try.prog 55 #[.agg cs.toArray] W fun e W' => e = .returned (.bool (p i)) ∧ En W' ∧ (p i = false → St (i + 1) W')) (h0 : St 0 w) :
    Calls Try.prog 57 #[.slice ao n c, .func (.func 55) #[] #[]] w fun e W' => e = .returned (.bool (anyI p 0 l.length)) ∧ En W' := by
  have HI := index_goodTables l F ao n c p St En w hEn hIs hcall h0
  have HA : Hid (anyI p 0 l.length = decide (0 ≤ firstI p 0 l.length)) := anyI_eq p l.length 0
  generalize anyI p 0 l.length = r at HA
  generalize firstI p 0 l.length = q at HI HA
  clear hIs hcall h0 hEn
  go_enter Try.func57, Try.ntmps57
  go_wp2_with (go_at_call 24; go_must (go_fit HI; rintro e W' ⟨rfl, hS1⟩))
  go_ret
  exact ⟨ret_bool (by rw [HA.out]), hS1⟩

set_option maxRecDepth 100000 in
set_option maxHeartbeats 2000000 in
theorem index_goodIndexes (l : List (IdxD)) (F : Nat → Prop) (ao : Option Addr) (n c : Nat) (f0 : Value) (p : Nat → Bool) (St : Nat → World → Prop) (En : World → Prop) (w : World) (hEn : ∀ i W, St i W → En W) (hIs : ∀ i W, St i W → IsL kIdx F W (.slice ao n c) l)
    (hcall : ∀ i x cs W, l[i]? = some x → St i W → kIdx.R F W x cs → Calls Try.prog 59 #[.agg cs.toArray, f0] W fun e W' => e = .returned (.bool (p i)) ∧ En W' ∧ (p i = false → St (i + 1) W')) (h0 : St 0 w) :
    Calls Try.prog 86 #[.slice ao n c, .func (.func 59) #[] #[f0]] w fun e W' => e = .returned (.int .i64 (firstI p 0 l.length)) ∧ En W' := by
  obtain ⟨hn, hlm⟩ := isL_len (hIs 0 w h0)
  subst hn
  unfold maxLen at hlm
  go_enter Try.func86, Try.ntmps86
  go_wp2
  go_loopw [8] (fun i wr => ∃ k : Nat, k ≤ l.length ∧ i = .int .i64 k ∧ St k wr ∧ Hid (firstI p 0 l.length = firstI p k (l.length - k))) (fun i _ => l.length - (intOf i).toNat)
  case atStart => exact ⟨0, Nat.zero_le _, rfl, h0, rfl⟩
  case round =>
    obtain ⟨k, hk, rfl, hSt, HP⟩ := hrel
    by_cases hlt : k < l.length
    · obtain ⟨x, hx⟩ : ∃ x, l[k]? = some x := ⟨_, List.getElem?_eq_getElem hlt⟩
      obtain ⟨b, off, cs, rfl, _, hb, hR, hcell⟩ := isL_get (hIs k wr hSt) hx
      have HC := hcall k x cs wr hx hSt hR
      obtain rfl := hR
      have d0 := hcell 0 _ rfl
      have d1 := hcell 1 _ rfl
      have d2 := hcell 2 _ rfl
      simp only [kIdx, Nat.add_zero] at d0 d1 d2
      have k0 : (0 : Int) ≤ (k : Int) := by omega
      have k1 : (k : Int) < (l.length : Int) := by omega
      have hst : Hid (firstI p k (l.length - k) = if p k then (k : Int) else firstI p (k + 1) (l.length - (k + 1))) := firstI_step p k l.length hlt
      clear hcell hx
      generalize hq : p k = q at HC hst
      clear hq
      cases q
      · go_wp2_with (go_at_call 59; go_must (go_fit HC; rintro e W' ⟨rfl, _, hS1⟩))
        go_roundw
        case rel => exact ⟨k + 1, by omega, by go_num, hS1 (by first | rfl | trivial), by rw [HP.out, hst.out]; rfl⟩
        case measure => simp [intOf]; omega
      · go_wp2_with (go_at_call 59; go_must (go_fit HC; rintro e W' ⟨rfl, hS1, _⟩))
        go_ret
        exact ⟨ret_int (by rw [HP.out, hst.out]; rfl), hS1⟩
    · have HE : Hid (firstI p k (l.length - k) = -1) := by show _ = _; rw [show l.length - k = 0 from by omega, firstI]
      go_wp2
      go_ret
      exact ⟨ret_int (by rw [HP.out, HE.out]), hEn k _ hSt⟩

set_option maxHeartbeats 2000000 in
theorem contains_goodIndexes (l : List (IdxD)) (F : Nat → Prop) (ao : Option Addr) (n c : Nat) (f0 : Value) (p : Nat → Bool) (St : Nat → World → Prop) (En : World → Prop) (w : World) (hEn : ∀ i W, St i W → En W) (hIs : ∀ i W, St i W → IsL kIdx F W (.slice ao n c) l)
    (hcall : ∀ i x cs W, l[i]? = some x → St i W → kIdx.R F W x cs → Calls Try.prog 59 #[.agg cs.toArray, f0] W fun e W' => e = .returned (.bool (p i)) ∧ En W' ∧ (p i = false → St (i + 1) W')) (h0 : St 0 w) :
    Calls Try.prog 62 #[.slice ao n c, .func (.func 59) #[] #[f0]] w fun e W' => e = .returned (.bool (anyI p 0 l.length)) ∧ En W' := by
  have HI := index_goodIndexes l F ao n c f0 p St En w hEn hIs hcall h0
  have HA : Hid (anyI p 0 l.length = decide (0 ≤ firstI p 0 l.length)) := anyI_eq p l.length 0
  generalize anyI p 0 l.length = r at HA
  generalize firstI p 0 l.length = q at HI HA
  clear hIs hcall h0 hEn
  go_enter Try.func62, Try.ntmps62
  go_wp2_with (go_at_call 86; go_must (go_fit HI; rintro e W' ⟨rfl, hS1⟩))
  go_ret
  exact ⟨ret_bool (by rw [HA.out]), hS1⟩

set_option maxRecDepth 100000 in
set_option maxHeartbeats 2000000 in
theorem index_mayMark (l : List (IdxD)) (F : Nat → Prop) (ao : Option Addr) (n c : Nat) (f0 : Value) (p : Nat → Bool) (St : Nat → World → Prop) (En : World → Prop) (w : World) (hEn : ∀ i W, St i W → En W) (hIs : ∀ i W, St i W → IsL kIdx F W (.slice ao n c) l)
    (hcall : ∀ i x cs W, l[i]? = some x → St i W → kIdx.R F W x cs → Calls Try.prog 74 #[.agg cs.toArray, f0] W fun e W' => e = .returned (.bool (p i)) ∧ En W' ∧ (p i = false → St (i + 1) W')) (h0 : St 0 w) :
    Calls Try.prog 86 #[.slice ao n c, .func (.func 74) #[] #[f0]] w fun e W' => e = .returned (.int .i64 (firstI p 0 l.length)) ∧ En W' := by
  obtain ⟨hn, hlm⟩ := isL_len (hIs 0 w h0)
  subst hn
  unfold maxLen at hlm
  go_enter Try.func86, Try.ntmps86
  go_wp2
  go_loopw [8] (fun i wr => ∃ k : Nat, k ≤ l.length ∧ i = .int .i64 k ∧ St k wr ∧ Hid (firstI p 0 l.length = firstI p k (l.length - k))) (fun i _ => l.length - (intOf i).toNat)
  case atStart => exact ⟨0, Nat.zero_le _, rfl, h0, rfl⟩
  case round =>
    obtain ⟨k, hk, rfl, hSt, HP⟩ := hrel
    by_cases hlt : k < l.length
    · obtain ⟨x, hx⟩ : ∃ x, l[k]? = some x := ⟨_, List.getElem?_eq_getElem hlt⟩
      obtain ⟨b, off, cs, rfl, _, hb, hR, hcell⟩ := isL_get (hIs k wr hSt) hx
      have HC := hcall k x cs wr hx hSt hR
      obtain rfl := hR
      have d0 := hcell 0 _ rfl
      have d1 := hcell 1 _ rfl
      have d2 := hcell 2 _ rfl
      simp only [kIdx, Nat.add_zero] at d0 d1 d2
      have k0 : (0 : Int) ≤ (k : Int) := by omega
      have k1 : (k : Int) < (l.length : Int) := by omega
      have hst : Hid (firstI p k (l.length - k) = if p k then (k : Int) else firstI p (k + 1) (l.length - (k + 1))) := firstI_step p k l.length hlt
      clear hcell hx
      generalize hq : p k = q at HC hst
      clear hq
      cases q
      · go_wp2_with (go_at_call 74; go_must (go_fit HC; rintro e W' ⟨rfl, _, hS1⟩))
        go_roundw
        case rel => exact ⟨k + 1, by omega, by go_num, hS1 (by first | rfl | trivial), by rw [HP.out, hst.out]; rfl⟩
        case measure => simp [intOf]; omega
      · go_wp2_with (go_at_call 74; go_must (go_fit HC; rintro e W' ⟨rfl, hS1, _⟩))
        go_ret
        exact ⟨ret_int (by rw [HP.out, hst.out]; rfl), hS1⟩
    · have HE : Hid (firstI p k (l.length - k) = -1) := by show _ = _; rw [show l.length - k = 0 from by omega, firstI]
      go_wp2
      go_ret
      exact ⟨ret_int (by rw [HP.out, HE.out]), hEn k _ hSt⟩

set_option maxHeartbeats 2000000 in
theorem contains_mayMark (l : List (IdxD)) (F : Nat → Prop) (ao : Option Addr) (n c : Nat) (f0 : Value) (p : Nat → Bool) (St : Nat → World → Prop) (En : World → Prop) (w : World) (hEn : ∀ i W, St i W → En W) (hIs : ∀ i W, St i W → IsL kIdx F W (.slice ao n c) l)
    (hcall : ∀ i x cs W, l[i]? = some x → St i W → kIdx.R F W x cs → Calls Try.prog 74 #[.agg cs.toArray, f0] W fun e W' => e = .returned (.bool (p i)) ∧ En W' ∧ (p i = false → St (i + 1) W')) (h0 : St 0 w) :
    Calls Try.prog 62 #[.slice ao n c, .func (.func 74) #[] #[f0]] w fun e W' => e = .returned (.bool (anyI p 0 l.length)) ∧ En W' := by
  have HI := index_mayMark l F ao n c f0 p St En w hEn hIs hcall h0
  have HA : Hid (anyI p 0 l.length = decide (0 ≤ firstI p 0 l.length)) := anyI_eq p l.length 0
  generalize anyI p 0 l.length = r at HA
  generalize firstI p 0 l.length = q at HI HA
  clear hIs hcall h0 hEn
  go_enter Try.func62, Try.ntmps62
  go_wp2_with (go_at_call 86; go_must (go_fit HI; rintro e W' ⟨rfl, hS1⟩))
  go_ret
  exact ⟨ret_bool (by rw [HA.out]), hS1⟩

end Go.Proofs.Ytabanbpnghidhaa

namespace Go.Proofs.Ytabanbpnghidhaa
open Go.RowKit Go.Maps

def firstMust : List ColD → Bool
  | x :: _ => x.must
  | [] => false
/-- P4.1: a table. -/
def tabB (t : TabD) : Bool := nm t.name && decide (1 ≤ t.cols.length) && decide (t.cols.length ≤ 4) && firstMust t.cols && colsB t.cols
def fitTab (t : TabD) : Prop := t.name.size ≤ maxLen ∧ fitCols t.cols

set_option maxRecDepth 100000 in
set_option maxHeartbeats 4000000 in
theorem goodTable_any (t : TabD) (sv : Value) (C : Nat) (w : World) (hl : IsL kCol (fun k => k < C) w sv t.cols) (hC : C ≤ w.heap.size) (hf : fitTab t) :
    Calls Try.prog 56 #[.agg #[.string t.name, sv]] w fun e w' => e = .returned (.bool (tabB t)) ∧ Below w.heap.size w w' := by
  obtain ⟨name, cols⟩ := t
  simp only at hl ⊢
  obtain ⟨ao, c, rfl⟩ := hl.shape
  have hN := fun w => named_any name w hf.1
  have hbx := bel1 w (.cells #[.string name, .slice ao cols.length c] 43)
  have hG := fun (h : cols.length ≤ 16777215) => goodCols_any cols (.slice ao cols.length c) C (w.alloc (.cells #[.string name, .slice ao cols.length c] 43)) (hl.keep (keepsC (hbx.mono hC))) (Nat.le_trans hC hbx.size) hf.2 h
  have E : Hid (tabB ⟨name, cols⟩ = (nm name && decide (1 ≤ cols.length) && decide (cols.length ≤ 4) && firstMust cols && colsB cols)) := rfl
  generalize tabB ⟨name, cols⟩ = r at E
  generalize nm name = b at hN E
  generalize colsB cols = g at hG E
  have hlm := (isL_len hl).2
  cases b
  · clear hl hG hf
    go_enter Try.func56, Try.ntmps56
    go_wp2_with (go_at_call 60; go_fit (hN _); rintro e w1 ⟨rfl, rfl⟩)
    go_ret
    exact ⟨ret_bool (by rw [E.out]; rfl), hbx⟩
  by_cases h1 : 1 ≤ cols.length
  rotate_left
  · have q1 : ¬ (1 : Int) ≤ (cols.length : Int) := by omega
    have E2 : Hid (r = false) := by show _ = _; rw [E.out]; simp [h1]
    clear hl hG hf E
    go_enter Try.func56, Try.ntmps56
    go_wp2_with (go_at_call 60; go_fit (hN _); rintro e w1 ⟨rfl, rfl⟩)
    go_ret
    exact ⟨ret_bool (by rw [E2.out]), hbx⟩
  by_cases h4 : cols.length ≤ 4
  rotate_left
  · have q1 : (1 : Int) ≤ (cols.length : Int) := by omega
    have q2 : ¬ (cols.length : Int) ≤ 4 := by omega
    have E2 : Hid (r = false) := by show _ = _; rw [E.out]; simp [h4]
    clear hl hG hf E
    go_enter Try.func56, Try.ntmps56
    go_wp2_with (go_at_call 60; go_fit (hN _); rintro e w1 ⟨rfl, rfl⟩)
    go_ret
    exact ⟨ret_bool (by rw [E2.out]), hbx⟩
  obtain ⟨x, hx⟩ : ∃ x, cols[0]? = some x := ⟨_, List.getElem?_eq_getElem (by omega)⟩
  obtain ⟨b, off, cs, rfl, _, hb, hR, hcell⟩ := isL_get (hl.keep (keepsC (hbx.mono hC))) hx
  obtain rfl := hR
  have d2 := hcell 2 _ rfl
  simp only [kCol, Nat.zero_mul, Nat.add_zero] at d2
  have hm : firstMust cols = x.must := by
    match cols, hx with
    | y :: r, hx => simp at hx; subst hx; rfl
  have q1 : (1 : Int) ≤ (cols.length : Int) := by omega
  have q2 : (cols.length : Int) ≤ 4 := by omega
  have q3 : (0 : Int) < (cols.length : Int) := by omega
  have HG := hG (by omega)
  have E2 : Hid (r = (x.must && g)) := by show _ = _; rw [E.out, hm]; simp [h1, h4]
  clear hl hG hf E hm hx hcell
  generalize x.must = m at d2 E2
  cases m
  · go_enter Try.func56, Try.ntmps56
    go_wp2_with (go_at_call 60; go_fit (hN _); rintro e w1 ⟨rfl, rfl⟩)
    go_ret
    exact ⟨ret_bool (by rw [E2.out]; rfl), hbx⟩
  · go_enter Try.func56, Try.ntmps56
    go_wp2_with (first | (go_at_call 60; go_fit (hN _); rintro e w1 ⟨rfl, rfl⟩) | (go_at_call 87; go_fit HG; rintro e w2 ⟨rfl, hb2⟩))
    go_ret
    exact ⟨ret_bool (by rw [E2.out]; simp), bthen hbx hb2⟩

set_option maxHeartbeats 1000000 in
theorem goodTables1_any (t : TabD) (sv : Value) (C : Nat) (w : World) (hl : IsL kCol (fun k => k < C) w sv t.cols) (hC : C ≤ w.heap.size) (hf : fitTab t) :
    Calls Try.prog 55 #[.agg #[.string t.name, sv]] w fun e w' => e = .returned (.bool (!tabB t)) ∧ Below w.heap.size w w' := by
  obtain ⟨ao, c, rfl⟩ := hl.shape
  have hbx := bel1 w (.cells #[.string t.name, .slice ao t.cols.length c] 43)
  have HG := goodTable_any t (.slice ao t.cols.length c) C _ (hl.keep (keepsC (hbx.mono hC))) (Nat.le_trans hC hbx.size) hf
  generalize tabB t = r at HG
  clear hl hf
  go_enter Try.func55, Try.ntmps55
  go_wp2_with (go_at_call 56; go_fit HG; rintro e w2 ⟨rfl, hb2⟩)
  go_ret
  exact ⟨rfl, bthen hbx hb2⟩

/-- P4.3: tables. -/
def tabsB (T : List TabD) : Bool := !anyI (atI T fun t => !tabB t) 0 T.length && riseB (T.map TabD.name)
def fitTabs (T : List TabD) : Prop := ∀ t ∈ T, fitTab t

set_option maxRecDepth 100000 in
set_option maxHeartbeats 2000000 in
theorem goodTables_any (T : List TabD) (sv : Value) (C : Nat) (w : World) (hl : IsL kTab (fun k => k < C) w sv T) (hC : C ≤ w.heap.size) (hf : fitTabs T) :
    Calls Try.prog 26 #[sv] w fun e w' => e = .returned (.bool (tabsB T)) ∧ Below w.heap.size w w' := by
  obtain ⟨ao, c, rfl⟩ := hl.shape
  have HC := contains_goodTables T (fun k => k < C) ao T.length c (atI T fun t => !tabB t) (fun _ W => Below w.heap.size w W) (fun W => Below w.heap.size w W) w (fun i W h => h) (fun i W h => hl.keep (keepsC (h.mono hC)))
    (by
      rintro i x cs W hx h1 ⟨sv, rfl, hsv⟩
      refine (goodTables1_any x sv C W hsv (Nat.le_trans hC h1.size) (hf x (List.mem_of_getElem? hx))).mono ?_
      rintro e W' ⟨rfl, hb⟩
      exact ⟨by rw [atI_get hx], h1.trans (hb.mono h1.size), fun _ => h1.trans (hb.mono h1.size)⟩)
    (Below.refl _ _)
  have HR := fun w' (h : Below w.heap.size w w') => rise_tab T (.slice ao T.length c) C w' (hl.keep (keepsC (h.mono hC))) (Nat.le_trans hC h.size)
  have E : Hid (tabsB T = (!anyI (atI T fun t => !tabB t) 0 T.length && riseB (T.map TabD.name))) := rfl
  generalize tabsB T = r at E
  generalize anyI (atI T fun t => !tabB t) 0 T.length = q at E HC
  generalize riseB (T.map TabD.name) = r2 at E HR
  clear hl hf
  cases q
  · go_enter Try.func26, Try.ntmps26
    go_wp2_with (first | (go_at_call 57; go_fit HC; rintro e w1 ⟨rfl, hb1⟩) | (go_at_call 58; go_fit (HR _ hb1); rintro e w2 ⟨rfl, hb2⟩))
    go_ret
    exact ⟨ret_bool (by rw [E.out]; rfl), bthen hb1 hb2⟩
  · go_enter Try.func26, Try.ntmps26
    go_wp2_with (first | (go_at_call 57; go_fit HC; rintro e w1 ⟨rfl, hb1⟩))
    go_ret
    exact ⟨ret_bool (by rw [E.out]; rfl), hb1⟩

end Go.Proofs.Ytabanbpnghidhaa

namespace Go.Proofs.Ytabanbpnghidhaa
open Go.RowKit Go.Maps

theorem findTable_some {T : List TabD} {t : TabD} {s : Wd} (h : tabOf T s = some t) (tv iv : Value) (hiv : IsSl iv) (C : Nat) (w : World) (hl : IsL kTab (fun k => k < C) w tv T) (hC : C ≤ w.heap.size) :
    Calls Try.prog 8 #[.agg #[tv, iv], .string s] w fun e w' => ∃ ao n c, e = .returned (.tuple #[.agg #[.string t.name, .slice ao n c], .bool true]) ∧ IsL kCol (fun k => k < C) w' (.slice ao n c) t.cols ∧ Below w.heap.size w w' := by
  refine (findTable_any T tv iv hiv s C w hl hC).mono ?_
  rintro e w' ⟨nmv, ao, n, c, there, rfl, hm, hb⟩
  rw [h] at hm
  obtain ⟨rfl, rfl, hL⟩ := hm
  exact ⟨ao, n, c, rfl, hL, hb⟩
theorem findTable_none {T : List TabD} {s : Wd} (h : tabOf T s = none) (tv iv : Value) (hiv : IsSl iv) (C : Nat) (w : World) (hl : IsL kTab (fun k => k < C) w tv T) (hC : C ≤ w.heap.size) :
    Calls Try.prog 8 #[.agg #[tv, iv], .string s] w fun e w' => e = .returned (.tuple #[.agg #[.string noW, .slice none 0 0], .bool false]) ∧ Below w.heap.size w w' := by
  refine (findTable_any T tv iv hiv s C w hl hC).mono ?_
  rintro e w' ⟨nmv, ao, n, c, there, rfl, hm, hb⟩
  rw [h] at hm
  obtain ⟨rfl, rfl, rfl, rfl, rfl⟩ := hm
  exact ⟨rfl, hb⟩

/-- Is there such a table, with such a column? -/
def hasB (T : List TabD) (tb cl : Wd) : Bool := match tabOf T tb with
  | some t => decide (0 ≤ colAt t.cols cl)
  | none => false

set_option maxRecDepth 100000 in
set_option maxHeartbeats 2000000 in
theorem hasCol_any (T : List TabD) (tv iv : Value) (hiv : IsSl iv) (tb cl : Wd) (C : Nat) (w : World) (hl : IsL kTab (fun k => k < C) w tv T) (hC : C ≤ w.heap.size) :
    Calls Try.prog 61 #[.agg #[tv, iv], .string tb, .string cl] w fun e w' => e = .returned (.bool (hasB T tb cl)) ∧ Below w.heap.size w w' := by
  obtain ⟨ao, c, rfl⟩ := hl.shape
  have hbx := bel1 w (.cells #[.slice ao T.length c, iv] 25)
  have hl1 := hl.keep (keepsC (hbx.mono hC))
  have hC1 := Nat.le_trans hC hbx.size
  cases h : tabOf T tb with
  | none =>
    have HF := findTable_none h (.slice ao T.length c) iv hiv C _ hl1 hC1
    have E : Hid (hasB T tb cl = false) := by show _ = _; simp [hasB, h]
    generalize hasB T tb cl = r at E
    obtain ⟨io, il, ic, rfl⟩ := hiv
    clear hl hl1 h
    go_enter Try.func61, Try.ntmps61
    go_wp2_with (go_at_call 8; go_fit HF; rintro e w1 ⟨rfl, hb1⟩)
    go_ret
    exact ⟨ret_bool (by rw [E.out]), (bthen hbx hb1).alloc (Nat.le_trans hbx.size hb1.size) _⟩
  | some t =>
    have HF := findTable_some h (.slice ao T.length c) iv hiv C _ hl1 hC1
    have E : Hid (hasB T tb cl = decide (0 ≤ colAt t.cols cl)) := by show _ = _; simp [hasB, h]
    generalize hasB T tb cl = r at E
    have HCo := fun w' sv (h : IsL kCol (fun k => k < C) w' sv t.cols) (hh : C ≤ w'.heap.size) => findCol_any t.cols t.name sv cl C w' h hh
    generalize colAt t.cols cl = q at E HCo
    obtain ⟨io, il, ic, rfl⟩ := hiv
    clear hl hl1 h
    go_enter Try.func61, Try.ntmps61
    go_wp2_with (first | (go_at_call 8; go_fit HF; rintro e w1 ⟨so, sn, sc, rfl, hL, hb1⟩; have hb2 := bel1 w1 (.cells #[.string t.name, .slice so sn sc] 43); have hC2 := Nat.le_trans hC1 hb1.size) | (go_at_call 11; go_fit (HCo _ _ (hL.keep (keepsC (hb2.mono hC2))) (Nat.le_trans hC2 hb2.size)); rintro e w2 ⟨rfl, hb3⟩))
    go_ret
    exact ⟨ret_bool (by rw [E.out]), bthen (bthen hbx hb1) (bthen hb2 hb3)⟩

def idxBad (T : List TabD) (x : IdxD) : Bool := !nm x.name || !hasB T x.table x.col

set_option maxRecDepth 100000 in
set_option maxHeartbeats 2000000 in
theorem goodIndexes1_any (T : List TabD) (x : IdxD) (tv iv : Value) (hiv : IsSl iv) (pb C : Nat) (w : World) (hl : IsL kTab (fun k => k < C) w tv T) (hC : C ≤ w.heap.size) (hs : x.name.size ≤ maxLen) (p0 : w.cell? ⟨pb, 0, none⟩ = some tv) (p1 : w.cell? ⟨pb, 1, none⟩ = some iv) (hpb : pb < w.heap.size) :
    Calls Try.prog 59 #[.agg #[.string x.name, .string x.table, .string x.col], .pointer (some ⟨pb, 0, none⟩)] w fun e w' => e = .returned (.bool (idxBad T x)) ∧ Below w.heap.size w w' := by
  obtain ⟨name, tb, cl⟩ := x
  obtain ⟨ao, c, rfl⟩ := hl.shape
  simp only at hs ⊢
  have hbx := bel1 w (.cells #[.string name, .string tb, .string cl] 63)
  have hN := fun w => named_any name w hs
  have HH := hasCol_any T (.slice ao T.length c) iv hiv tb cl C _ (hl.keep (keepsC (hbx.mono hC))) (Nat.le_trans hC hbx.size)
  have E : Hid (idxBad T ⟨name, tb, cl⟩ = (!nm name || !hasB T tb cl)) := rfl
  generalize idxBad T ⟨name, tb, cl⟩ = r at E
  generalize nm name = b at hN E
  generalize hasB T tb cl = h at HH E
  obtain ⟨io, il, ic, rfl⟩ := hiv
  have p0' := (hbx.cell (p := ⟨pb, 0, none⟩) hpb).trans p0
  have p1' := (hbx.cell (p := ⟨pb, 1, none⟩) hpb).trans p1
  clear hl hs
  cases b
  · go_enter Try.func59, Try.ntmps59
    go_wp2_with (go_at_call 60; go_fit (hN _); rintro e w1 ⟨rfl, rfl⟩)
    go_ret
    exact ⟨ret_bool (by rw [E.out]; rfl), hbx⟩
  · go_enter Try.func59, Try.ntmps59
    go_wp2_with (first | (go_at_call 60; go_fit (hN _); rintro e w1 ⟨rfl, rfl⟩) | (go_at_call 61; go_fit HH; rintro e w2 ⟨rfl, hb2⟩))
    go_ret
    exact ⟨ret_bool (by rw [E.out]; rfl), bthen hbx hb2⟩

/-- P4.3: indexes. -/
def idxsB (T : List TabD) (I : List IdxD) : Bool := !anyI (atI I (idxBad T)) 0 I.length && riseB (I.map IdxD.name)
def fitIdxs (I : List IdxD) : Prop := ∀ x ∈ I, x.name.size ≤ maxLen ∧ x.table.size ≤ maxLen ∧ x.col.size ≤ maxLen

set_option maxRecDepth 100000 in
set_option maxHeartbeats 2000000 in
theorem goodIndexes_any (T : List TabD) (I : List IdxD) (tv iv : Value) (C : Nat) (w : World) (hl : IsL kTab (fun k => k < C) w tv T) (hi : IsL kIdx (fun k => k < C) w iv I) (hC : C ≤ w.heap.size) (hf : fitIdxs I) :
    Calls Try.prog 27 #[.agg #[tv, iv]] w fun e w' => e = .returned (.bool (idxsB T I)) ∧ Below w.heap.size w w' := by
  obtain ⟨to', tc, rfl⟩ := hl.shape
  obtain ⟨ao, c, rfl⟩ := hi.shape
  have hbx := bel1 w (.cells #[.slice to' T.length tc, .slice ao I.length c] 25)
  have hbl : (w.alloc (.cells #[.slice to' T.length tc, .slice ao I.length c] 25)).heap[w.heap.size]? = some (.cells #[.slice to' T.length tc, .slice ao I.length c] 25) := block_alloc_at _ _
  have HC := contains_goodIndexes I (fun k => k < C) ao I.length c (.pointer (some ⟨w.heap.size, 0, none⟩)) (atI I (idxBad T))
    (fun _ W => Below (w.heap.size + 1) (w.alloc (.cells #[.slice to' T.length tc, .slice ao I.length c] 25)) W) (fun W => Below (w.heap.size + 1) (w.alloc (.cells #[.slice to' T.length tc, .slice ao I.length c] 25)) W)
    (w.alloc (.cells #[.slice to' T.length tc, .slice ao I.length c] 25)) (fun i W h => h) (fun i W h => hi.keep (keepsC ((hbx.mono hC).trans (h.mono (by omega)))))
    (by
      rintro i x cs W hx h1 rfl
      have hsz := h1.size
      rw [World.size_alloc] at hsz
      have hbW : Below w.heap.size w W := hbx.trans (h1.mono (by omega))
      have hB := (h1.block w.heap.size (by omega)).trans hbl
      refine (goodIndexes1_any T x (.slice to' T.length tc) (.slice ao I.length c) (isSl _ _ _) w.heap.size C W (hl.keep (keepsC (hbW.mono hC))) (Nat.le_trans hC hbW.size) (hf x (List.mem_of_getElem? hx)).1 (cell_of_block hB rfl) (cell_of_block hB rfl) (by omega)).mono ?_
      rintro e W' ⟨rfl, hb⟩
      have hT := h1.trans (hb.mono hsz)
      exact ⟨by rw [atI_get hx], hT, fun _ => hT⟩)
    (Below.refl _ _)
  have HR := fun w' (h : Below w.heap.size w w') => rise_idx I (.slice ao I.length c) C w' (hi.keep (keepsC (h.mono hC))) (Nat.le_trans hC h.size)
  have E : Hid (idxsB T I = (!anyI (atI I (idxBad T)) 0 I.length && riseB (I.map IdxD.name))) := rfl
  generalize idxsB T I = r at E
  generalize anyI (atI I (idxBad T)) 0 I.length = q at E HC
  generalize riseB (I.map IdxD.name) = r2 at E HR
  clear hl hi hf
  cases q
  · go_enter Try.func27, Try.ntmps27
    go_wp2_with (first | (go_at_call 62; go_fit HC; rintro e w1 ⟨rfl, hb1⟩; have hbw : Below w.heap.size w w1 := hbx.trans (hb1.mono (by omega)); have g1 := (hb1.cell (p := ⟨w.heap.size, 1, none⟩) (show w.heap.size < w.heap.size + 1 by omega)).trans (cell_of_block hbl rfl)) | (go_at_call 63; go_fit (HR _ hbw); rintro e w2 ⟨rfl, hb2⟩))
    go_ret
    exact ⟨ret_bool (by rw [E.out]; rfl), bthen hbw hb2⟩
  · go_enter Try.func27, Try.ntmps27
    go_wp2_with (first | (go_at_call 62; go_fit HC; rintro e w1 ⟨rfl, hb1⟩; have hbw : Below w.heap.size w w1 := hbx.trans (hb1.mono (by omega))))
    go_ret
    exact ⟨ret_bool (by rw [E.out]; rfl), hbw⟩

/-- A catalog: api.Catalog; P4.3. -/
structure CatD where
  tables : List TabD
  indexes : List IdxD
def catB (c : CatD) : Bool := decide (c.tables.length ≤ 3) && decide (c.indexes.length ≤ 4) && tabsB c.tables && idxsB c.tables c.indexes
/-- A catalog in memory. -/
def IsCat (F : Nat → Prop) (w : World) (c : CatD) (v : Value) : Prop := ∃ tv iv, v = .agg #[tv, iv] ∧ IsL kTab F w tv c.tables ∧ IsL kIdx F w iv c.indexes
def fitCat (c : CatD) : Prop := fitTabs c.tables ∧ fitIdxs c.indexes
theorem IsCat.keep {F : Nat → Prop} {w w' : World} {c : CatD} {v : Value} (h : IsCat F w c v) (hk : Keeps F w w') : IsCat F w' c v := by
  obtain ⟨tv, iv, h1, h2, h3⟩ := h
  exact ⟨tv, iv, h1, h2.keep hk, h3.keep hk⟩

set_option maxRecDepth 100000 in
set_option maxHeartbeats 2000000 in
theorem good_cat (ct : CatD) (v : Value) (C : Nat) (w : World) (h : IsCat (fun k => k < C) w ct v) (hC : C ≤ w.heap.size) (hf : fitCat ct) :
    Calls Try.prog 9 #[v] w fun e w' => e = .returned (.bool (catB ct)) ∧ Below w.heap.size w w' := by
  obtain ⟨T, I⟩ := ct
  obtain ⟨tv, iv, rfl, hl, hi⟩ := h
  simp only at hl hi
  obtain ⟨to', tc, rfl⟩ := hl.shape
  obtain ⟨ao, c, rfl⟩ := hi.shape
  have hbx := bel1 w (.cells #[.slice to' T.length tc, .slice ao I.length c] 25)
  have HT := goodTables_any T (.slice to' T.length tc) C _ (hl.keep (keepsC (hbx.mono hC))) (Nat.le_trans hC hbx.size) hf.1
  have HI := fun w' (h : Below w.heap.size w w') => goodIndexes_any T I (.slice to' T.length tc) (.slice ao I.length c) C w' (hl.keep (keepsC (h.mono hC))) (hi.keep (keepsC (h.mono hC))) (Nat.le_trans hC h.size) hf.2
  have E : Hid (catB ⟨T, I⟩ = (decide (T.length ≤ 3) && decide (I.length ≤ 4) && tabsB T && idxsB T I)) := rfl
  generalize catB ⟨T, I⟩ = r at E
  generalize tabsB T = g at HT E
  generalize idxsB T I = g2 at HI E
  have hlm := (isL_len hl).2
  have hlm2 := (isL_len hi).2
  unfold maxLen at hlm hlm2
  clear hl hi hf
  by_cases h3 : T.length ≤ 3
  rotate_left
  · have q1 : ¬ (T.length : Int) ≤ 3 := by omega
    have E2 : Hid (r = false) := by show _ = _; rw [E.out]; simp [h3]
    clear HT HI E
    go_enter Try.func9, Try.ntmps9
    go_wp2_with fail
    go_ret
    exact ⟨ret_bool (by rw [E2.out]), hbx⟩
  have q1 : (T.length : Int) ≤ 3 := by omega
  by_cases h4 : I.length ≤ 4
  rotate_left
  · have q2 : ¬ (I.length : Int) ≤ 4 := by omega
    have E2 : Hid (r = false) := by show _ = _; rw [E.out]; simp [h4]
    clear HT HI E
    go_enter Try.func9, Try.ntmps9
    go_wp2_with fail
    go_ret
    exact ⟨ret_bool (by rw [E2.out]), hbx⟩
  have q2 : (I.length : Int) ≤ 4 := by omega
  have E2 : Hid (r = (g && g2)) := by show _ = _; rw [E.out]; simp [h3, h4]
  clear E
  cases g
  · go_enter Try.func9, Try.ntmps9
    go_wp2_with (go_at_call 26; go_fit HT; rintro e w1 ⟨rfl, hb1⟩)
    go_ret
    exact ⟨ret_bool (by rw [E2.out]; rfl), bthen hbx hb1⟩
  · go_enter Try.func9, Try.ntmps9
    go_wp2_with (first | (go_at_call 26; go_fit HT; rintro e w1 ⟨rfl, hb1⟩; obtain ⟨hcc, hff⟩ := bcell hb1) | (go_at_call 27; go_fit (HI _ (bthen hbx hb1)); rintro e w2 ⟨rfl, hb2⟩))
    go_ret
    exact ⟨ret_bool (by rw [E2.out]; rfl), bthen (bthen hbx hb1) hb2⟩

end Go.Proofs.Ytabanbpnghidhaa

