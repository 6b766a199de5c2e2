/-
  4 texts of this proof in one, in build order: LKeys, LKeys2, OpenVals, Bulk.
-/
import Derived.Test.YtkncamggdfmlnaaGreatDoorRows
import Derived.ProofKit
import Derived.Deep.Slices
import Derived.Deep.SlicePairs
import Derived.Deep.Strs
import Derived.SizedLaws
import Derived.Test.YtkncamggdfmlnaaGreatDoorJ10
import Derived.Test.YtkncamggdfmlnaaGreatDoorJ18
import Derived.Test.YtkncamggdfmlnaaGreatDoorJ19
namespace Go.Proofs.YtkncamggdfmlnaaGreatDoor
open Go.RowKit

theorem isL_tab1 {F : Nat → Prop} {W : World} {b : Nat} {x : TabD} {sv : Value} {t : TypeId} {fr : Nat × Nat} (h : W.heap[b]? = some (.cells #[.string x.name, sv] t fr)) (hF : F b) (hs : IsL kCol F W sv x.cols) : IsL kTab F W (.slice (some ⟨b, 0, none⟩) 1 1) [x] :=
  ⟨[.string x.name, sv], ⟨rfl, .inr ⟨by simp, b, 0, 1, rfl, hF, lt_of_block h, Nat.le_refl _, by decide, fun j u hj => by rw [Nat.zero_add]; exact cell_of_block h (by simpa using hj)⟩⟩, All.one ⟨sv, rfl, hs⟩⟩

theorem tabOf_some' {T : List TabD} {t : TabD} {s : Wd} (h : tabOf T s = some t) : t ∈ T ∧ t.name = s := by
  refine ⟨List.mem_of_find?_eq_some h, ?_⟩
  have := List.find?_some h
  exact of_decide_eq_true this

/-- What is put into nothing, and dropped again. -/
theorem drop_put_nil (I : List IdxD) (t : TabD) (r : List V) : dropRow (putRow [] I t r) I t r = [] := by
  rw [List.eq_nil_iff_forall_not_mem]
  intro x hx
  unfold dropRow at hx
  rw [mem_dropsE, mem_dropF] at hx
  obtain ⟨⟨h1, h2⟩, h3⟩ := hx
  unfold putRow at h1
  rw [mem_putsE] at h1
  · rcases h1 with h1 | h1
    · rw [mem_putF] at h1
      rcases h1 with e | ⟨h1, _⟩
      · rw [e] at h2; exact h2 rfl
      · simp at h1
    · exact h3 h1.1
  · intro y hy hk
    obtain ⟨a, v, id, hk⟩ := mem_iks hk
    rcases mem_putF.1 hy with e | ⟨h1, _⟩
    · rw [e] at hk
      exact absurd hk (rkey_ne_ikey _ _ _ _ _)
    · simp at h1

set_option maxRecDepth 100000 in
set_option maxHeartbeats 4000000 in
theorem planKeys_out (c : CatD) (t : TabD) (r : List V) (cv sv rv : Value) (w : World) (hc : IsCat (fun k => k < w.heap.size) w c cv) (ht : IsL kCol (fun k => k < w.heap.size) w sv t.cols) (hr : IsVals w rv r) (he : EnvM w) (hno : isCatR c = false ∨ r.length ≠ t.cols.length ∨ r.length = 0) :
    Calls Tryz.prog 3 #[cv, .agg #[.string t.name, sv], rv] w fun e w' => e = .returned (.bool true) ∧ Below w.heap.size w w' := by
  have HC0 := fun W (h : Below w.heap.size w W) => isCatalog_any c cv w.heap.size W (hc.keep (keepsC h)) h.size (he.next h)
  obtain ⟨tv, iv, rfl, htb, hi⟩ := hc
  obtain ⟨to', tc, rfl⟩ := htb.shape
  obtain ⟨io, ic, rfl⟩ := hi.shape
  obtain ⟨so, sc, rfl⟩ := ht.shape
  obtain ⟨ro, rc, rfl⟩ := hr.shape
  have hb2 := bel2 w (.cells #[.slice to' c.tables.length tc, .slice io c.indexes.length ic] 25) (.cells #[.string t.name, .slice so t.cols.length sc] 28)
  have bC := block_alloc_of (block_alloc_at w (.cells #[.slice to' c.tables.length tc, .slice io c.indexes.length ic] 25)) (.cells #[.string t.name, .slice so t.cols.length sc] 28)
  have bT := block2 w (.cells #[.slice to' c.tables.length tc, .slice io c.indexes.length ic] 25) (.cells #[.string t.name, .slice so t.cols.length sc] 28)
  generalize hW : (w.alloc (.cells #[.slice to' c.tables.length tc, .slice io c.indexes.length ic] 25)).alloc (.cells #[.string t.name, .slice so t.cols.length sc] 28) = W2 at hb2 bC bT
  have HW : Hid _ := hW
  have HC := HC0 W2 hb2
  have HP := fun W => plans_any W
  have c0 := cell_of_block bC (j := 0) rfl
  have c1 := cell_of_block bC (j := 1) rfl
  clear hW htb hi ht hr HC0
  cases hcb : isCatR c with
  | false =>
    rw [hcb] at HC
    clear hno hcb
    go_enter Tryz.func3, Tryz.ntmps3
    go_upto_region 1 with fail
    rw [HW.out]
    go_wp2_with (first | (go_at_call 4; go_fit HC; rintro e w3 ⟨rfl, hb3⟩) | (go_at_call 5; go_fit (HP _); rintro e w4 ⟨rfl, hb4⟩))
    go_ret
    exact ⟨rfl, (hb2.trans (hb3.mono hb2.size)).trans (hb4.mono (hb2.trans (hb3.mono hb2.size)).size)⟩
  | true =>
    rw [hcb] at HC
    rw [hcb] at hno
    clear hcb
    by_cases hl : r.length = t.cols.length
    · have h0 : r.length = 0 := by
        rcases hno with h | h | h
        · cases h
        · exact absurd hl h
        · exact h
      have q0 : ((r.length : Int) != (t.cols.length : Int)) = false := by simp; omega
      have q1 : ((r.length : Int) == 0) = true := by rw [h0]; rfl
      clear hno hl h0
      go_enter Tryz.func3, Tryz.ntmps3
      go_upto_region 1 with fail
      rw [HW.out]
      go_wp2_with (first | (go_at_call 4; go_fit HC; rintro e w3 ⟨rfl, hb3⟩; have d1 := cell_of_block ((hb3.block _ (lt_of_block bT)).trans bT) (j := 1) rfl) | (go_at_call 5; go_fit (HP _); rintro e w4 ⟨rfl, hb4⟩))
      go_ret
      exact ⟨rfl, (hb2.trans (hb3.mono hb2.size)).trans (hb4.mono (hb2.trans (hb3.mono hb2.size)).size)⟩
    · have q0 : ((r.length : Int) != (t.cols.length : Int)) = true := by simp; omega
      clear hno hl
      go_enter Tryz.func3, Tryz.ntmps3
      go_upto_region 1 with fail
      rw [HW.out]
      go_wp2_with (first | (go_at_call 4; go_fit HC; rintro e w3 ⟨rfl, hb3⟩; have d1 := cell_of_block ((hb3.block _ (lt_of_block bT)).trans bT) (j := 1) rfl) | (go_at_call 5; go_fit (HP _); rintro e w4 ⟨rfl, hb4⟩))
      go_ret
      exact ⟨rfl, (hb2.trans (hb3.mono hb2.size)).trans (hb4.mono (hb2.trans (hb3.mono hb2.size)).size)⟩

end Go.Proofs.YtkncamggdfmlnaaGreatDoor

namespace Go.Proofs.YtkncamggdfmlnaaGreatDoor
open Go.RowKit

/-- What the statement's two variables hold, while the walk goes on. -/
structure LSt (w : World) (cv tb : Array Value) (wx : World) : Prop where
  cat : wx.heap[w.heap.size]? = some (.cells cv 25)
  tab : wx.heap[w.heap.size + 1]? = some (.cells tb 28)
  bel : Below w.heap.size w wx
theorem LSt.below {w : World} {cv tb : Array Value} {W V : World} (h : LSt w cv tb W) (hb : Below W.heap.size W V) : LSt w cv tb V :=
  ⟨(hb.block _ (lt_of_block h.cat)).trans h.cat, (hb.block _ (lt_of_block h.tab)).trans h.tab, h.bel.trans (hb.mono h.bel.size)⟩

theorem isCat1 {W : World} {b : Nat} {x : TabD} {F : Nat → Prop} {so : Option Addr} {n c : Nat} {t : TypeId} {fr : Nat × Nat} (h : W.heap[b]? = some (.cells #[.string x.name, .slice so n c] t fr)) (hs : IsL kCol F W (.slice so n c) x.cols) : IsCat (fun _ => True) W ⟨[x], []⟩ (.agg #[.slice (some ⟨b, 0, none⟩) 1 1, .slice none 0 0]) :=
  ⟨_, _, rfl, isL_tab1 h trivial (hs.mono fun _ _ _ => trivial), IsL.nil _ _ _⟩

theorem putF_le (F : PL) (k v : ByteArray) : (putF F k v).length ≤ 2 * F.length + 1 := by
  have h1 := List.length_filter_le (fun x : ByteArray × ByteArray => klt x.1 k) F
  have h2 := List.length_filter_le (fun x : ByteArray × ByteArray => klt k x.1) F
  simp only [putF, List.length_append, List.length_cons]
  omega
theorem flat_good (T : List Pg) (tv : Value) (w : World) (h : IsTree w tv T) (hg : GoodT T) (hn : T.length ≤ 1048577) :
    Calls Tryz.prog 15 #[tv] w fun e w' => ∃ fo fc, e = .returned (.tuple #[.slice fo (flat T).length fc, .bool true]) ∧ IsPairs w' (.slice fo (flat T).length fc) (flat T) ∧ Below w.heap.size w w' := by
  refine (flatOf_any T tv w h hn).mono ?_
  rintro e w' ⟨⟨_, v, rfl, hp⟩ | ⟨hn, rfl⟩, hb⟩
  · obtain ⟨fo, fc, rfl⟩ := IsRow.shape hp
    exact ⟨fo, fc, rfl, hp, hb⟩
  · exact absurd hg hn

set_option maxRecDepth 100000 in
set_option maxHeartbeats 16000000 in
theorem planKeys_in (c : CatD) (t : TabD) (r : List V) (cv sv rv : Value) (w : World) (hc : IsCat (fun k => k < w.heap.size) w c cv) (ht : IsL kCol (fun k => k < w.heap.size) w sv t.cols) (hr' : IsL kVal (fun k => k < w.heap.size) w rv r) (hs : ∀ v ∈ r, v.s.size ≤ maxLen) (he : EnvM w) (hcb : isCatR c = true) (hrl : r.length = t.cols.length) (h0 : 0 < r.length) :
    Calls Tryz.prog 3 #[cv, .agg #[.string t.name, sv], rv] w fun e w' => e = .returned (.bool true) ∧ Below w.heap.size w w' := by
  obtain ⟨hI4, hIn, hTn⟩ := isCatR_facts hcb
  have hr := isL_vals hr'
  have hcap : Hid (∀ ao n cap, rv = .slice ao n cap → 1 ≤ cap) := fun ao n cap hv => by
    obtain ⟨cs, hrow, _⟩ := hr'
    rcases hrow.2 with ⟨h, _⟩ | ⟨_, _, _, cap', hv', _, _, hle, _⟩
    · omega
    · rw [hv] at hv'
      cases hv'
      omega
  clear hr'
  have HC0 := fun W (h : Below w.heap.size w W) => isCatalog_any c cv w.heap.size W (hc.keep (keepsC h)) h.size (he.next h)
  rw [hcb] at HC0
  obtain ⟨tv, iv, rfl, htb, hi⟩ := hc
  have HTo0 := fun W (h : Below w.heap.size w W) => tableOf_any c.tables tv iv (isL_one hi) t.name w.heap.size W (htb.keep (keepsC h)) h.size
  have HPt0 := fun W (h : Below w.heap.size w W) => putRow_any c.indexes t r [] (.agg #[.slice none 0 0]) tv iv sv rv w.heap.size W (tree_zero _) ⟨by simp, by simp [keysT, Rise]⟩ (by simp) (isL_one htb) (hi.keep (keepsC h)) (ht.keep (keepsC h)) h.size (hr.below h) hrl h0
  have HDr0 := fun T pv W (h : Below w.heap.size w W) hp hg hT => dropRow_any c.indexes t r T pv tv iv sv rv w.heap.size W hp hg hT (isL_one htb) (hi.keep (keepsC h)) (ht.keep (keepsC h)) h.size (hr.below h) hrl h0
  have HCo0 := fun s W (h : Below w.heap.size w W) => colOf_any t.cols t.name sv s w.heap.size W (ht.keep (keepsC h))
  have HIX : Hid (∀ (k : Nat) (x : IdxD), c.indexes[k]? = some x → ∃ b off n cap, iv = .slice (some ⟨b, off, none⟩) n cap ∧ b < w.heap.size ∧ w.cell? ⟨b, off + k * 3, none⟩ = some (.string x.name) ∧ w.cell? ⟨b, off + k * 3 + 1, none⟩ = some (.string x.table) ∧ w.cell? ⟨b, off + k * 3 + 2, none⟩ = some (.string x.col)) := fun k x hx => by
    obtain ⟨ao, cap, rfl⟩ := hi.shape
    obtain ⟨b, off, cs, rfl, hbC, hbl, hR1, hcell⟩ := isL_get hi hx
    obtain rfl := hR1
    exact ⟨b, off, _, cap, rfl, hbl, hcell 0 _ rfl, hcell 1 _ rfl, hcell 2 _ rfl⟩
  have HTC : Hid _ := ht
  obtain ⟨to', tc, rfl⟩ := htb.shape
  obtain ⟨io, ic, rfl⟩ := hi.shape
  obtain ⟨so, sc, rfl⟩ := ht.shape
  rcases hr with ⟨_, rfl⟩ | ⟨rb, ro, rcap, rfl, hrb, hR⟩
  · simp at h0
  have hc1 : 1 ≤ rcap := hcap.out _ _ _ rfl
  clear hcap
  have hb2 := bel2 w (.cells #[.slice to' c.tables.length tc, .slice io c.indexes.length ic] 25) (.cells #[.string t.name, .slice so t.cols.length sc] 28)
  have st2 : LSt w #[.slice to' c.tables.length tc, .slice io c.indexes.length ic] #[.string t.name, .slice so t.cols.length sc] ((w.alloc (.cells #[.slice to' c.tables.length tc, .slice io c.indexes.length ic] 25)).alloc (.cells #[.string t.name, .slice so t.cols.length sc] 28)) :=
    ⟨block_alloc_of (block_alloc_at w _) _, block2 _ _ _, hb2⟩
  generalize hW : (w.alloc (.cells #[.slice to' c.tables.length tc, .slice io c.indexes.length ic] 25)).alloc (.cells #[.string t.name, .slice so t.cols.length sc] 28) = W2 at hb2 st2
  have HW : Hid _ := hW
  have HC := HC0 W2 hb2
  have HP := fun W => plans_any W
  have c0 := cell_of_block st2.cat (j := 0) rfl
  have c1 := cell_of_block st2.cat (j := 1) rfl
  have q0 : ((r.length : Int) != (t.cols.length : Int)) = false := by simp; omega
  have q1 : ((r.length : Int) == 0) = false := by rw [beq_eq_false_iff_ne]; omega
  have HTo : Hid _ := HTo0
  have HPt : Hid _ := HPt0
  have HDr : Hid _ := HDr0
  have HCo : Hid _ := HCo0
  have HS : Hid _ := hs
  have HR : Hid _ := hR
  have HRL : Hid _ := hrl
  have HIn : Hid _ := hIn
  have HTn : Hid _ := hTn
  clear hW htb hi ht HC0 HTo0 HPt0 HDr0 HCo0 hs hR hrl hIn hTn hcb
  go_enter Tryz.func3, Tryz.ntmps3
  go_upto_region 1 with fail
  rw [HW.out]
  cases hto : tabOf c.tables t.name with
  | none =>
    have HT2 := fun W h => HTo.out W h
    unfold FindPost at HT2
    simp only [hto] at HT2
    clear hto
    go_wp2_with (first
      | (go_at_call 4; go_fit HC; rintro e w3 ⟨rfl, hb3⟩; have st3 := st2.below hb3; have d1 := cell_of_block st3.tab (j := 1) rfl; have d0 := cell_of_block st3.tab (j := 0) rfl; have d2 := cell_of_block st3.cat (j := 0) rfl; have d3 := cell_of_block st3.cat (j := 1) rfl)
      | (go_at_call 6; go_fit (HT2 _ st3.bel); rintro e w4 ⟨nmv, ao, n, cc, th, rfl, ⟨rfl, rfl, rfl, rfl, rfl⟩, hb4⟩; have st5 := (st3.below hb4).below (bel1 w4 (.cells #[.string noW, .slice none 0 0] 28)))
      | (go_at_call 5; go_fit (HP _); rintro e w6 ⟨rfl, hb6⟩))
    go_ret
    exact ⟨rfl, (st5.below hb6).bel⟩
  | some own =>
    have HT2 := fun W h => HTo.out W h
    unfold FindPost at HT2
    simp only [hto] at HT2
    have hot := tabOf_some' hto
    obtain ⟨_, _, ho4⟩ := HTn.out own hot.1
    have htn : t.name.size ≤ 8 := by rw [← hot.2]; exact (HTn.out own hot.1).1
    clear hto hot
    go_upto_region 4 with (first
      | (go_at_call 4; go_fit HC; rintro e w3 ⟨rfl, hb3⟩; have st3 := st2.below hb3; have d1 := cell_of_block st3.tab (j := 1) rfl; have d0 := cell_of_block st3.tab (j := 0) rfl; have d2 := cell_of_block st3.cat (j := 0) rfl; have d3 := cell_of_block st3.cat (j := 1) rfl)
      | (go_at_call 6; go_fit (HT2 _ st3.bel); rintro e w4 ⟨nmv, ao, n, cc, th, rfl, ⟨rfl, rfl, hl4⟩, hb4⟩))
    obtain ⟨hn, _⟩ := isL_len hl4
    subst hn
    have st4 := st3.below hb4
    have st5 := st4.below (bel1 w4 (.cells #[.string own.name, .slice ao own.cols.length cc] 28))
    have bO5 := block_alloc_at w4 (.cells #[.string own.name, .slice ao own.cols.length cc] 28)
    have hl5 := hl4.keep (keepsB (bel1 w4 (.cells #[.string own.name, .slice ao own.cols.length cc] 28)))
    generalize hW5 : w4.alloc (.cells #[.string own.name, .slice ao own.cols.length cc] 28) = W5 at st5 bO5 hl5 ⊢
    have hb7 := bel2 W5 (.cells #[.string own.name, .slice ao own.cols.length cc] 28) (.cells #[.string t.name, .slice so t.cols.length sc] 28)
    have HSa := sameCat_any ⟨[own], []⟩ ⟨[t], []⟩ _ _ _ _ _ (isCat1 (block_alloc_of (block_alloc_at W5 (.cells #[.string own.name, .slice ao own.cols.length cc] 28)) (.cells #[.string t.name, .slice so t.cols.length sc] 28)) (hl5.keep (keepsB hb7))) (isCat1 (block2 W5 (.cells #[.string own.name, .slice ao own.cols.length cc] 28) (.cells #[.string t.name, .slice so t.cols.length sc] 28)) (IsL.keep HTC.out (keepsC (st5.below hb7).bel)))
    have o0 := cell_of_block bO5 (j := 0) rfl
    have o1 := cell_of_block bO5 (j := 1) rfl
    have hb6 := bel1 W5 (.cells #[.string own.name, .slice ao own.cols.length cc] 28)
    have e0 := cell_of_block (st5.below hb6).tab (j := 0) rfl
    have e1 := cell_of_block (st5.below hb6).tab (j := 1) rfl
    clear hW5 d0 d1 d2 d3 HT2 HC c0 c1
    go_cut [59] from 48 (fun s59 wx => ∃ b, s59 = .bool (!b) ∧ Hid (b = true → t.cols.length ≤ 4) ∧ LSt w #[.slice to' c.tables.length tc, .slice io c.indexes.length ic] #[.string t.name, .slice so t.cols.length sc] wx)
    case first =>
      go_wp2_with (go_at_call 7; go_fit HSa; rintro e w8 ⟨b, rfl, hbs, hb8⟩)
      go_meet
      case rel => exact ⟨b, rfl, hid (fun h => by have := hbs h 0 own t rfl rfl; omega), (st5.below hb7).below hb8⟩
    case rest =>
      obtain ⟨b, rfl, hb4', st8⟩ := hcut
      clear HSa o0 o1 e0 e1
      cases b
      · go_wp2_with (go_at_call 5; go_fit (HP _); rintro e w6 ⟨rfl, hb6⟩)
        go_ret
        exact ⟨rfl, (st8.below hb6).bel⟩
      have htc4 := hb4'.out rfl
      have hr4 : r.length ≤ 4 := by rw [HRL.out]; exact htc4
      clear hb4'
      have HRb : Hid _ := hr4
      go_wp2
      go_loopw [63] (fun i wr => ∃ k : Nat, k ≤ r.length ∧ i = .int .i64 k ∧ Hid (∀ j v, j < k → r[j]? = some v → good v = true) ∧ LSt w #[.slice to' c.tables.length tc, .slice io c.indexes.length ic] #[.string t.name, .slice so t.cols.length sc] wr) (fun i _ => r.length - (intOf i).toNat)
      case atStart => exact ⟨0, Nat.zero_le _, rfl, hid (fun j v h => absurd h (Nat.not_lt_zero _)), st8⟩
      case round =>
        obtain ⟨k, hk, rfl, HGD, st⟩ := hrel
        by_cases hlt : k < r.length
        · obtain ⟨v, hv⟩ : ∃ v, r[k]? = some v := ⟨_, List.getElem?_eq_getElem hlt⟩
          obtain ⟨g0, g1, g2⟩ := HR.out k v hv
          have d0 := (st.bel.cell (p := ⟨rb, ro + k * 3, none⟩) hrb).trans g0
          have d1 := (st.bel.cell (p := ⟨rb, ro + k * 3 + 1, none⟩) hrb).trans g1
          have d2 := (st.bel.cell (p := ⟨rb, ro + k * 3 + 2, none⟩) hrb).trans g2
          have HIV := fun W => isValue_any v W (HS.out v (List.mem_of_getElem? hv))
          have v0 : (0 : Int) ≤ (k : Int) := by omega
          have v1 : (k : Int) < (r.length : Int) := by omega
          have HVV : Hid _ := hv
          clear g0 g1 g2 hv
          have st' := st.below (bel1 wr (.cells #[.int .i64 v.k, .int .i64 v.n, .string v.s] 36))
          cases hg : good v
          · rw [hg] at HIV
            clear hg
            obtain ⟨vk, vn, vs⟩ := v
            simp only [V.val] at HIV
            simp only at d0 d1 d2 st'
            go_wp2_with (first | (go_at_call 8; go_fit (HIV _); rintro e w9 ⟨rfl, hb9⟩) | (go_at_call 5; go_fit (HP _); rintro e w6 ⟨rfl, hb6⟩))
            go_ret
            exact ⟨rfl, ((st'.below hb9).below hb6).bel⟩
          · rw [hg] at HIV
            have HGG : Hid _ := hg
            clear hg
            obtain ⟨vk, vn, vs⟩ := v
            simp only [V.val] at HIV
            simp only at d0 d1 d2 st'
            go_wp2_with (first | (go_at_call 8; go_fit (HIV _); rintro e w9 ⟨rfl, hb9⟩))
            go_roundw
            case rel => exact ⟨_, _, _, _, _, _, _, _, _, _, _, ⟨k + 1, by omega, by go_num, hid (fun j u hj hu => by
              rcases Nat.lt_succ_iff_lt_or_eq.1 hj with h | h
              · exact HGD.out j u h hu
              · rw [h, HVV.out] at hu; cases hu; exact HGG.out), st'.below hb9⟩, rfl⟩
            case measure => simp [intOf]; omega
        · have hkn : k = r.length := by omega
          subst hkn
          have v1 : ¬ ((r.length : Int) < (r.length : Int)) := by omega
          have HGA : Hid (∀ v ∈ r, good v = true) := fun v hv => by
            obtain ⟨j, hj, rfl⟩ := List.getElem_of_mem hv
            exact HGD.out j _ hj (List.getElem?_eq_getElem hj)
          clear HGD
          have hc2 : (1 : Int) ≤ (rcap : Int) := by omega
          have hc3 : (1 : Int) ≤ (r.length : Int) := by omega
          obtain ⟨u, hu⟩ : ∃ u, r[0]? = some u := ⟨_, List.getElem?_eq_getElem h0⟩
          have hhd : r.headD zero = u := by rw [List.headD_eq_head?_getD, List.head?_eq_getElem?, hu]; rfl
          obtain ⟨g0, g1, g2⟩ := HR.out 0 u hu
          simp only [Nat.zero_mul, Nat.add_zero] at g0 g1 g2
          have hus := HS.out u (List.mem_of_getElem? hu)
          have HK1 := fun W (h : Below w.heap.size w W) => keyOf_any [u] (.slice (some ⟨rb, ro, none⟩) 1 rcap) W (.inr ⟨rb, ro, rcap, rfl, Nat.lt_of_lt_of_le hrb h.size, fun i v hi => by
            match i, hi with
            | 0, hi => simp at hi; subst hi; simp only [Nat.zero_mul, Nat.add_zero]; exact ⟨(h.cell (p := ⟨rb, ro, none⟩) hrb).trans g0, (h.cell (p := ⟨rb, ro + 1, none⟩) hrb).trans g1, (h.cell (p := ⟨rb, ro + 2, none⟩) hrb).trans g2⟩⟩) (by simp) (by simpa using hus)
          have HK2 := fun W (h : Below w.heap.size w W) => keyOf_any r (.slice (some ⟨rb, ro, none⟩) r.length rcap) W (.inr ⟨rb, ro, rcap, rfl, Nat.lt_of_lt_of_le hrb h.size, HoldsV.below HR.out h hrb⟩) (by omega) HS.out
          have HRK := fun W => rowKey_any t.name u W (by omega) hus
          have ERK : Hid (rkey t.name u = (⟨#[114]⟩ ++ t.name ++ ⟨#[0]⟩) ++ str (keyAns [u]).1) := rfl
          have ERT : Hid (rkey t.name u = rk t r) := by show _ = _; rw [rk, hhd]
          have z1 : (str (keyAns [u]).1).size ≤ 10 := keyAns_size [u]
          generalize str (keyAns [u]).1 = ks at HK1 ERK z1
          generalize (keyAns [u]).2 = ke at HK1
          have EKT : Hid (str (keyAns r).1 = str (keyAns r).1) := rfl
          generalize hkt : str (keyAns r).1 = kt at HK2
          have HKT : Hid _ := hkt
          generalize (keyAns r).2 = kf at HK2
          clear hkt EKT hhd
          generalize rkey t.name u = key at HRK ERK ERT
          have hrk : (⟨#[114]⟩ ++ t.name ++ ⟨#[0]⟩ ++ ks : Wd) = key := ERK.out.symm
          obtain ⟨uk, un, us⟩ := u
          simp only [V.val] at HRK
          simp only at g0 g1 g2
          have z2 : ¬ 9223372036854775807 < 1 + t.name.size := by omega
          have z3 : ¬ 9223372036854775807 < 1 + t.name.size + 1 := by omega
          have z4 : ¬ 9223372036854775807 < 1 + t.name.size + 1 + ks.size := by omega
          go_upto_region 15 with (first
            | (go_at_call 9; go_fit (HK1 _ st.bel); rintro e w9 ⟨rfl, hb9⟩; have st9 := st.below hb9)
            | (go_at_call 9; go_fit (HK2 _ st9.bel); rintro e w10 ⟨rfl, hb10⟩; have st10 := st9.below hb10; have d0 := cell_of_block st10.tab (j := 0) rfl))
          have st11 := st10.below (bel1 w10 (.cells #[.string key, .string kt] 42))
          have bP := block_alloc_at w10 (.cells #[.string key, .string kt] 42)
          generalize hW11 : w10.alloc (.cells #[.string key, .string kt] 42) = W11 at st11 bP ⊢
          have KS : Hid _ := fun W (h : Below W11.heap.size W11 W) => And.intro (show W.cell? ⟨w.heap.size + 1, 0, none⟩ = some (.string t.name) from cell_of_block (st11.below h).tab (j := 0) rfl) (And.intro (((st11.below h).bel.cell (p := ⟨rb, ro, none⟩) hrb).trans g0) (And.intro (((st11.below h).bel.cell (p := ⟨rb, ro + 1, none⟩) hrb).trans g1) (And.intro (((st11.below h).bel.cell (p := ⟨rb, ro + 2, none⟩) hrb).trans g2) (show W.cell? ⟨w10.heap.size, 0, none⟩ = some (.string key) from cell_of_block ((h.block _ (lt_of_block bP)).trans bP) (j := 0) rfl))))
          have s0 := KS.out W11.drew (Below.refl _ _).drew
          clear hW11
          go_region_held3 (fun W => W.cell? ⟨w.heap.size + 1, 0, none⟩ = some (.string t.name) ∧ W.cell? ⟨rb, ro, none⟩ = some (.int .i64 uk) ∧ W.cell? ⟨rb, ro + 1, none⟩ = some (.int .i64 un) ∧ W.cell? ⟨rb, ro + 2, none⟩ = some (.string us) ∧ W.cell? ⟨w10.heap.size, 0, none⟩ = some (.string key)) (with_reducible first | exact s1 | exact s0)
            (first | (go_at_call 10; go_fit (HRK _); rintro e w12 ⟨rfl, hb12⟩; have hB12 : Below W11.heap.size W11 w12 := bthen (Below.refl _ _).drew hb12; have s1 := KS.out w12 hB12))
          have st12 := st11.below hB12
          have hP12 : IsPairs w12 (.slice (some ⟨w10.heap.size, 0, none⟩) 1 1) [(key, kt)] := by
            have bP2 := (hB12.block _ (lt_of_block bP)).trans bP
            exact ⟨rfl, .inr ⟨by simp, w10.heap.size, 0, 1, rfl, lt_of_block bP2, Nat.le_refl _, by decide, fun j x hj => by rw [Nat.zero_add]; exact cell_of_block bP2 (by simpa [prcells] using hj)⟩⟩
          have e1 := cell_of_block st12.cat (j := 1) rfl
          clear HK1 HK2 HRK KS s0 s1 hrk z1 z2 z3 z4 bP
          go_wp2
          go_loopw [15, 106] (fun wv i wr => ∃ k : Nat, k ≤ c.indexes.length ∧ i = .int .i64 k ∧ IsPairs wr wv (putsE [(key, kt)] (iks (c.indexes.take k) t r)) ∧ Hid ((putsE [(key, kt)] (iks (c.indexes.take k) t r)).length + 1 ≤ 2 * 2 ^ k) ∧ LSt w #[.slice to' c.tables.length tc, .slice io c.indexes.length ic] #[.string t.name, .slice so t.cols.length sc] wr) (fun _ i _ => c.indexes.length - (intOf i).toNat)
          case atStart => exact ⟨0, Nat.zero_le _, rfl, hP12, hid (by simp [iks, putsE]), st12⟩
          case round =>
            obtain ⟨k, hk, rfl, hPr, HLn, st⟩ := hrel
            by_cases hlt : k < c.indexes.length
            · obtain ⟨x, hx⟩ : ∃ x, c.indexes[k]? = some x := ⟨_, List.getElem?_eq_getElem hlt⟩
              obtain ⟨b, off, n', cap', hsl, hbl, p0, p1, p2⟩ := HIX.out k x hx
              cases hsl
              have d0 := (st.bel.cell (p := ⟨b, off + k * 3, none⟩) hbl).trans p0
              have d1 := (st.bel.cell (p := ⟨b, off + k * 3 + 1, none⟩) hbl).trans p1
              have d2 := (st.bel.cell (p := ⟨b, off + k * 3 + 2, none⟩) hbl).trans p2
              have hbx := bel1 wr (.cells #[.string x.name, .string x.table, .string x.col] 46)
              have bX := block_alloc_at wr (.cells #[.string x.name, .string x.table, .string x.col] 46)
              have stx := st.below hbx
              have f0 := cell_of_block stx.tab (j := 0) rfl
              have f1 := cell_of_block stx.tab (j := 1) rfl
              have f2 := cell_of_block bX (j := 2) rfl
              have HCx := HCo.out x.col _ stx.bel
              have v0 : (0 : Int) ≤ (k : Int) := by omega
              have v1 : (k : Int) < (c.indexes.length : Int) := by omega
              have hxn := HIn.out x (List.mem_of_getElem? hx)
              have HXI : Hid (iks (c.indexes.take (k + 1)) t r = iks (c.indexes.take k) t r ++ (ikOf t r x).toList) := iks_take hx
              have hsz1 : wr.heap.size < (wr.alloc (.cells #[.string x.name, .string x.table, .string x.col] 46)).heap.size := by simp
              clear p0 p1 p2 hx
              by_cases htab : x.table = t.name
              rotate_left
              · have hq : (x.table.toList == t.name.toList) = false := by rw [beq_str]; simp [htab]
                have E2 : Hid (iks (c.indexes.take (k + 1)) t r = iks (c.indexes.take k) t r) := by show _ = _; rw [HXI.out, ikOf, idxAt, if_neg htab]; simp
                clear htab
                generalize colAt t.cols x.col = ca at HCx
                go_wp2_with (go_at_call 11; go_fit HCx; rintro e w13 ⟨rfl, hb13⟩; have st13 := stx.below hb13; have bX13 := (hb13.block _ (lt_of_block bX)).trans bX; have x1 := cell_of_block bX13 (j := 1) rfl; have x2 := cell_of_block st13.tab (j := 0) rfl)
                go_roundw
                case rel => exact ⟨k + 1, by omega, by go_num, by rw [E2.out]; exact (hPr.below hbx).below hb13, hid (by rw [E2.out]; have := HLn.out; rw [Nat.pow_succ]; omega), st13⟩
                case measure => simp [intOf]; omega
              have hq : (x.table.toList == t.name.toList) = true := by rw [beq_str]; simp [htab]
              rcases colAt_lt (l := t.cols) (s := x.col) with hca | ⟨p, hca, hp⟩
              · have E2 : Hid (iks (c.indexes.take (k + 1)) t r = iks (c.indexes.take k) t r) := by show _ = _; rw [HXI.out, ikOf, idxAt, if_pos htab, hca]; simp
                rw [hca] at HCx
                clear htab hca
                go_wp2_with (go_at_call 11; go_fit HCx; rintro e w13 ⟨rfl, hb13⟩; have st13 := stx.below hb13; have bX13 := (hb13.block _ (lt_of_block bX)).trans bX; have x1 := cell_of_block bX13 (j := 1) rfl; have x2 := cell_of_block st13.tab (j := 0) rfl)
                go_roundw
                case rel => exact ⟨k + 1, by omega, by go_num, by rw [E2.out]; exact (hPr.below hbx).below hb13, hid (by rw [E2.out]; have := HLn.out; rw [Nat.pow_succ]; omega), st13⟩
                case measure => simp [intOf]; omega
              · have hpr : p < r.length := by rw [HRL.out]; exact hp
                obtain ⟨v, hv⟩ : ∃ v, r[p]? = some v := ⟨_, List.getElem?_eq_getElem hpr⟩
                have E2 : Hid (iks (c.indexes.take (k + 1)) t r = iks (c.indexes.take k) t r ++ [ikey x.name v ⟨uk, un, us⟩]) := by
                  show _ = _
                  rw [HXI.out, ikOf, idxAt, if_pos htab, hca, if_pos (by omega)]
                  simp only [Int.toNat_natCast, Option.toList_some]
                  rw [List.getD_eq_getElem?_getD, hv, show r.headD zero = ⟨uk, un, us⟩ from by rw [List.headD_eq_head?_getD, List.head?_eq_getElem?, hu]; rfl]
                  rfl
                rw [hca] at HCx
                obtain ⟨h0', h1', h2'⟩ := HR.out p v hv
                have hvs := HS.out v (List.mem_of_getElem? hv)
                have HIK := fun W => indexKey_any x.name v ⟨uk, un, us⟩ W (by omega) hvs hus
                have HK3 := fun (W : World) => keyOf_any [v, ⟨uk, un, us⟩] (.slice (some ⟨W.heap.size, 0, none⟩) 2 2) (W.alloc (.cells #[.int .i64 v.k, .int .i64 v.n, .string v.s, .int .i64 uk, .int .i64 un, .string us] 36))
                  (.inr ⟨_, _, _, rfl, by simp, fun i z hi => by
                    match i, hi with
                    | 0, hi => simp at hi; subst hi; exact ⟨cell_of_block (block_alloc_at W _) rfl, cell_of_block (block_alloc_at W _) rfl, cell_of_block (block_alloc_at W _) rfl⟩
                    | 1, hi => simp at hi; subst hi; exact ⟨cell_of_block (block_alloc_at W _) rfl, cell_of_block (block_alloc_at W _) rfl, cell_of_block (block_alloc_at W _) rfl⟩⟩) (by simp) (by simpa using ⟨hvs, hus⟩)
                have z1 : (str (keyAns [v, ⟨uk, un, us⟩]).1).size ≤ 20 := keyAns_size [v, ⟨uk, un, us⟩]
                have EIK : Hid (ikey x.name v ⟨uk, un, us⟩ = (⟨#[120]⟩ ++ x.name ++ ⟨#[0]⟩) ++ str (keyAns [v, ⟨uk, un, us⟩]).1) := rfl
                generalize str (keyAns [v, ⟨uk, un, us⟩]).1 = k2 at HK3 EIK z1
                generalize (keyAns [v, ⟨uk, un, us⟩]).2 = ke2 at HK3
                generalize ikey x.name v ⟨uk, un, us⟩ = ik at HIK EIK E2
                have hik : (⟨#[120]⟩ ++ x.name ++ ⟨#[0]⟩ ++ k2 : Wd) = ik := EIK.out.symm
                have z2 : ¬ 9223372036854775807 < 1 + x.name.size := by omega
                have z3 : ¬ 9223372036854775807 < 1 + x.name.size + 1 := by omega
                have z4 : ¬ 9223372036854775807 < 1 + x.name.size + 1 + k2.size := by omega
                have u0 : (0 : Int) ≤ (p : Int) := by omega
                have u1 : (p : Int) < (r.length : Int) := by omega
                have u2 : (0 : Int) < (r.length : Int) := by omega
                have u3 : p < r.length := hpr
                clear htab hca hv hp
                obtain ⟨vk, vn, vs⟩ := v
                simp only [V.val] at HIK
                simp only at h0' h1' h2' HK3
                go_wp2_with (go_at_call 11; go_fit HCx; rintro e w13 ⟨rfl, hb13⟩; have st13 := stx.below hb13; have bX13 := (hb13.block _ (lt_of_block bX)).trans bX; have x1 := cell_of_block bX13 (j := 1) rfl; have x2 := cell_of_block st13.tab (j := 0) rfl)
                have KR : Hid _ := fun W (h : Below w13.heap.size w13 W) => idx_cells (G := w13) (W := W) (g := wr.heap.size) (rb := rb) (o1 := ro + p * 3) (o2 := ro) ⟨cell_of_block bX13 (j := 0) (u := .string x.name) rfl, (st13.bel.cell (p := ⟨rb, ro + p * 3, none⟩) hrb).trans h0', (st13.bel.cell (p := ⟨rb, ro + p * 3 + 1, none⟩) hrb).trans h1', (st13.bel.cell (p := ⟨rb, ro + p * 3 + 2, none⟩) hrb).trans h2', (st13.bel.cell (p := ⟨rb, ro, none⟩) hrb).trans g0, (st13.bel.cell (p := ⟨rb, ro + 1, none⟩) hrb).trans g1, (st13.bel.cell (p := ⟨rb, ro + 2, none⟩) hrb).trans g2⟩ (h.block _ (lt_of_block bX13)) (h.block _ (Nat.lt_of_lt_of_le hrb st13.bel.size))
                have s0 := KR.out w13.drew (Below.refl _ _).drew
                have HK4 : Calls Tryz.prog 9 #[.slice (some ⟨w13.heap.size, 0, none⟩) 2 2] (w13.alloc (.cells #[.int .i64 vk, .int .i64 vn, .string vs, .int .i64 uk, .int .i64 un, .string us] 36)).drew fun e w' => e = .returned (.tuple #[.string k2, .int .i64 ke2]) ∧ Below (w13.alloc (.cells #[.int .i64 vk, .int .i64 vn, .string vs, .int .i64 uk, .int .i64 un, .string us] 36)).drew.heap.size (w13.alloc (.cells #[.int .i64 vk, .int .i64 vn, .string vs, .int .i64 uk, .int .i64 un, .string us] 36)).drew w' := HK3 w13.drew
                have s1 := KR.out (w13.alloc (.cells #[.int .i64 vk, .int .i64 vn, .string vs, .int .i64 uk, .int .i64 un, .string us] 36)).drew (bel1 w13 _).drew
                go_region_held3 (fun W => W.cell? ⟨wr.heap.size, 0, none⟩ = some (.string x.name) ∧ W.cell? ⟨rb, ro + p * 3, none⟩ = some (.int .i64 vk) ∧ W.cell? ⟨rb, ro + p * 3 + 1, none⟩ = some (.int .i64 vn) ∧ W.cell? ⟨rb, ro + p * 3 + 2, none⟩ = some (.string vs) ∧ W.cell? ⟨rb, ro, none⟩ = some (.int .i64 uk) ∧ W.cell? ⟨rb, ro + 1, none⟩ = some (.int .i64 un) ∧ W.cell? ⟨rb, ro + 2, none⟩ = some (.string us)) (with_reducible first | exact s2 | exact s1 | exact s0)
                  (first | (go_at_call 9; go_fit HK4; rintro e w14 ⟨rfl, hb14⟩; have hB14 : Below w13.heap.size w13 w14 := bthen (bel1 w13 _).drew hb14; have s2 := KR.out w14 hB14))
                have st14 := st13.below hB14
                have bX14 := (hB14.block _ (lt_of_block bX13)).trans bX13
                have y0 := cell_of_block bX14 (j := 0) rfl
                have HPP := putPair_any _ _ ik noW w14 (((hPr.below hbx).below hb13).below hB14) (by have h1 := HLn.out; have h2 : 2 ^ k ≤ 2 ^ 4 := Nat.pow_le_pow_right (by decide) (by omega); omega)
                go_wp2_with (go_at_call 12; go_fit HPP; rintro e w15 ⟨wv, rfl, hP15, hb15⟩)
                have hB15 := bthen hB14 hb15
                have s3 := KR.out w15.drew hB15.drew
                have st15 := st14.below hb15
                go_region_held3 (fun W => W.cell? ⟨wr.heap.size, 0, none⟩ = some (.string x.name) ∧ W.cell? ⟨rb, ro + p * 3, none⟩ = some (.int .i64 vk) ∧ W.cell? ⟨rb, ro + p * 3 + 1, none⟩ = some (.int .i64 vn) ∧ W.cell? ⟨rb, ro + p * 3 + 2, none⟩ = some (.string vs) ∧ W.cell? ⟨rb, ro, none⟩ = some (.int .i64 uk) ∧ W.cell? ⟨rb, ro + 1, none⟩ = some (.int .i64 un) ∧ W.cell? ⟨rb, ro + 2, none⟩ = some (.string us)) (with_reducible first | exact s4 | exact s3)
                  (first | (go_at_call 13; go_fit (HIK _); rintro e w16 ⟨rfl, hb16⟩; have hB16 : Below w15.heap.size w15 w16 := bthen (Below.refl _ _).drew hb16; have s4 := KR.out w16 (bthen hB15 hB16)))
                have E3 : Hid (putsE [(key, kt)] (iks (c.indexes.take (k + 1)) t r) = putF (putsE [(key, kt)] (iks (c.indexes.take k) t r)) ik noW) := by show _ = _; rw [E2.out]; simp [putsE]
                go_wp2
                go_roundw
                case rel => exact ⟨k + 1, by omega, by go_num, by rw [E3.out]; exact hP15.below hB16, hid (by rw [E3.out]; have h1 := HLn.out; have h2 := putF_le (putsE [(key, kt)] (iks (c.indexes.take k) t r)) ik noW; rw [Nat.pow_succ]; omega), st15.below hB16⟩
                case measure => simp [intOf]; omega
            · have hkn : k = c.indexes.length := by omega
              subst hkn
              have v1 : ¬ ((c.indexes.length : Int) < (c.indexes.length : Int)) := by omega
              rw [List.take_length] at hPr HLn
              have d0 := cell_of_block st.cat (j := 0) rfl
              have d1 := cell_of_block st.cat (j := 1) rfl
              have d2 := cell_of_block st.tab (j := 0) rfl
              have d3 := cell_of_block st.tab (j := 1) rfl
              have HPu := HPt.out wr st.bel (by omega) HS.out (fun x hx => Nat.le_trans (HIn.out x hx) (by decide)) (by omega) (by omega)
              have EF : Hid (putRow (flat []) c.indexes t r = putsE [(key, kt)] (iks c.indexes t r)) := by show _ = _; rw [putRow, ← ERT.out, HKT.out]; simp [putF, flat]
              go_upto_region 28 with (first
                | (go_at_call 14; go_fit HPu; rintro e w20 ⟨pv, T, rfl, hp20, hg20, hf20, hl20, hb20⟩; obtain ⟨psv, rfl, hp20⟩ := hp20; obtain ⟨po, pc, rfl⟩ := pages_shape hp20))
              have hTl : T.length ≤ 5 := Nat.le_trans hl20 (by simp; omega)
              have st20 := st.below hb20
              have st21 := st20.below (bel1 w20 (.cells #[.slice po T.length pc] 52))
              have bP := block_alloc_at w20 (.cells #[.slice po T.length pc] 52)
              have hp21 := hp20.below (bel1 w20 (.cells #[.slice po T.length pc] 52))
              have hPr21 := (hPr.below hb20).below (bel1 w20 (.cells #[.slice po T.length pc] 52))
              generalize hW21 : w20.alloc (.cells #[.slice po T.length pc] 52) = W21 at st21 bP hp21 hPr21 ⊢
              have HFl := flat_good T (.agg #[.slice po T.length pc]) W21 ⟨_, rfl, hp21⟩ hg20 (by omega)
              have hfl : (flat T).length ≤ 1073741824 := by have := length_flat hg20.1; have := length_keys hg20.1; omega
              have hPrF : IsPairs W21 u15 (flat T) := by rw [hf20, EF.out]; exact hPr21
              have HSm := fun fo fc W (h : Below W21.heap.size W21 W) (hf : IsPairs W (.slice fo (flat T).length fc) (flat T)) => samePairs_any (flat T) _ u15 W hf (hPrF.below h) hfl
              have HDp := fun W (h : Below W21.heap.size W21 W) => HDr.out T (.agg #[.slice po T.length pc]) W (st21.below h).bel ⟨_, rfl, hp21.below h⟩ hg20 (by omega) (by omega) HS.out (fun x hx => Nat.le_trans (HIn.out x hx) (by decide)) (by omega) (by omega)
              have EZ : Hid (dropRow (flat T) c.indexes t r = []) := by show _ = _; rw [hf20]; exact drop_put_nil _ _ _
              rw [EZ.out] at HDp
              have e0 := cell_of_block bP (j := 0) rfl
              clear hW21 d0 d1 d2 d3 HPu hf20
              go_wp2_with (first
                | (go_at_call 15; go_fit HFl; rintro e w22 ⟨fo, fc, rfl, hp22, hb22⟩)
                | (go_at_call 16; go_fit (HSm _ _ _ hb22 hp22); rintro e w23 ⟨rfl, hb23⟩; have hB23 := bthen hb22 hb23; have st23 := st21.below hB23; have f0 := cell_of_block ((hB23.block _ (lt_of_block bP)).trans bP) (j := 0) rfl; have f1 := cell_of_block st23.cat (j := 0) rfl; have f2 := cell_of_block st23.cat (j := 1) rfl; have f3 := cell_of_block st23.tab (j := 0) rfl; have f4 := cell_of_block st23.tab (j := 1) rfl)
                | (go_at_call 18; go_fit (HDp _ hB23); rintro e w24 ⟨pv4, T4, rfl, hp24, hg24, hf24, hl24, hb24⟩; have hz4 : (keysT T4).length = 0 := (by rw [← length_flat hg24.1, hf24]; rfl); have HSz := size_any T4 pv4 w24 hp24 (by omega); rw [hz4] at HSz; obtain ⟨sv24, rfl, _⟩ := hp24; clear hz4)
                | (go_at_call 17; go_fit HSz; rintro e w25 ⟨rfl, hb25⟩)
                | (go_at_call 5; go_fit (HP _); rintro e w26 ⟨rfl, hb26⟩))
              go_ret
              exact ⟨rfl, (((st23.below hb24).below hb25).below hb26).bel⟩

end Go.Proofs.YtkncamggdfmlnaaGreatDoor

namespace Go.Proofs.YtkncamggdfmlnaaGreatDoor
open Go.RowKit Go.Deep

theorem cells_value : Tryz.prog.cellsOf 36 = 3 := by kernel_rfl
theorem cells_int : Tryz.prog.cellsOf 3 = 1 := by kernel_rfl
theorem cells_string : Tryz.prog.cellsOf 9 = 1 := by kernel_rfl
theorem bytes_value : Tryz.prog.bytesOf 36 = 32 := by kernel_rfl

/-- A value as data. -/
def V.datum {H : Type} (v : V) : DataW H := .agg [.lit (.int .i64 v.k), .lit (.int .i64 v.n), .lit (.string v.s.data.toList)]

theorem und_value : ∃ f0 f1 f2 : Field, Tryz.prog.underlying 36 = some (.struct #[f0, f1, f2]) ∧ f0.offset = 0 ∧ f1.offset = 1 ∧ f2.offset = 2 ∧ f0.type = 3 ∧ f1.type = 3 ∧ f2.type = 9 :=
  ⟨_, _, _, Tryz.underlying36, rfl, rfl, rfl, rfl, rfl, rfl⟩

section
variable {H : Type} {enc : TypeId × Value → H} {w : World} {base : Nat} {spare : Nat → Bool} {held : Bool}

theorem open_value {fuel : Nat} {cs : List Value} {x : DataW H × List MemPlace} (h : DataW.trod enc Tryz.prog w base spare held fuel 36 cs = some x) :
    ∃ v : V, cs = v.cells ∧ v.s.size ≤ maxLen ∧ x.1 = v.datum := by
  obtain ⟨f0, f1, f2, hu, o0, o1, o2, t0, t1, t2⟩ := und_value
  obtain ⟨y0, y1, y2, n, rfl, hl, h0, h1, h2⟩ := trod_struct3 hu h
  rw [cells_value] at hl
  rw [o0, t0, cells_int] at h0
  rw [o1, t1, cells_int] at h1
  rw [o2, t2, cells_string] at h2
  match cs, hl with
  | [c0, c1, c2], _ =>
    simp only [List.drop_zero, List.take_succ_cons, List.take_zero, List.drop_succ_cons] at h0 h1 h2
    obtain ⟨a, e0, rfl, _⟩ := DataW.trod_int Tryz.underlying3 h0
    obtain ⟨b, e1, rfl, _⟩ := DataW.trod_int Tryz.underlying3 h1
    obtain ⟨s, e2, rfl, hs⟩ := DataW.trod_string Tryz.underlying9 h2
    simp only [List.cons.injEq, and_true] at e0 e1 e2
    subst e0 e1 e2
    exact ⟨⟨a, b, s⟩, rfl, hs, rfl⟩

theorem lt_of_cell {w : World} {a : Addr} {v : Value} (h : w.cell? a = some v) : a.block < w.heap.size := by
  rcases Nat.lt_or_ge a.block w.heap.size with h' | h'
  · exact h'
  · simp [World.cell?, Array.getElem?_eq_none h'] at h

theorem open_vals {fuel : Nat} {sv : Value} {x : DataW H × List MemPlace} (h : DataW.trod enc Tryz.prog w base spare held fuel 29 [sv] = some x) :
    ∃ L : List V, IsVals w sv L ∧ (∀ v ∈ L, v.s.size ≤ maxLen) ∧ ((x.1 = .nil ∧ L = []) ∨ ∃ sp, x.1 = .slice (L.map V.datum) sp) := by
  rcases open_slice Tryz.underlying29 h with ⟨hcs, rfl⟩ | ⟨a, len, cap, m, n, D, Pl, hcs, hb, hl, hm, hmm, rfl, hx⟩
  · simp only [List.cons.injEq, and_true] at hcs
    subst hcs
    exact ⟨[], .inl ⟨⟨none, 0, rfl, fun _ => rfl⟩, rfl⟩, by simp, .inl ⟨rfl, rfl⟩⟩
  · simp only [List.cons.injEq, and_true] at hcs
    subst hcs
    have hlm : len ≤ m := by rw [hmm]; split <;> omega
    have each : ∀ i, i < len → ∃ v : V, w.cell? (a.add (i * 3)) = some (.int .i64 v.k) ∧ w.cell? (a.add (i * 3 + 1)) = some (.int .i64 v.n) ∧ w.cell? (a.add (i * 3 + 2)) = some (.string v.s) ∧ v.s.size ≤ maxLen ∧ D i = v.datum := by
      intro i hi
      obtain ⟨cs', h1, h2⟩ := hx i (by omega)
      rw [cells_value] at h1
      obtain ⟨_, hlen, hcell⟩ := World.cells?_some h1
      obtain ⟨v, rfl, hs, hd⟩ := open_value h2
      have e0 := hcell 0 (by omega)
      have e1 := hcell 1 (by omega)
      have e2 := hcell 2 (by omega)
      rw [add_add] at e0 e1 e2
      exact ⟨v, by simpa [V.cells] using e0, by simpa [V.cells] using e1, by simpa [V.cells] using e2, hs, hd⟩
    have : Inhabited V := ⟨zero⟩
    obtain ⟨f, hf⟩ := choose_lt each
    refine ⟨(List.range len).map f, ?_, ?_, .inr ⟨(List.range (m - len)).map fun j => D (len + j), ?_⟩⟩
    · rcases Nat.eq_zero_or_pos len with rfl | hpos
      · exact .inl ⟨⟨_, _, rfl, fun h => by cases h⟩, by simp⟩
      · obtain ⟨b, off, spot⟩ := a
        have hc := (hf 0 hpos).1
        have hspot : spot = none := by simpa [Addr.add] using World.cell?_spot hc
        subst hspot
        refine .inr ⟨b, off, cap, by simp, ?_, ?_⟩
        · have := lt_of_cell hc
          simpa [Addr.add] using this
        · intro i v hi
          have hil : i < len := by
            have := (List.getElem?_eq_some_iff.1 hi).1
            simpa using this
          have hv : v = f i := by
            rw [List.getElem?_map, List.getElem?_range hil] at hi
            simpa using hi.symm
          subst hv
          obtain ⟨g0, g1, g2, _⟩ := hf i hil
          rw [Addr.add_lit] at g0 g1 g2
          exact ⟨g0, by rw [Nat.add_assoc]; exact g1, by rw [Nat.add_assoc]; exact g2⟩
    · intro v hv
      obtain ⟨i, hi, rfl⟩ := List.mem_map.1 hv
      exact (hf i (List.mem_range.1 hi)).2.2.2.1
    · have e : (List.range len).map D = ((List.range len).map f).map V.datum := by
        rw [List.map_map]
        exact List.map_congr_left fun i hi => (hf i (List.mem_range.1 hi)).2.2.2.2
      show DataW.slice _ _ = _
      rw [e]

end
end Go.Proofs.YtkncamggdfmlnaaGreatDoor

namespace Go.Proofs.YtkncamggdfmlnaaGreatDoor

theorem bulk_pos {H : Type} (d : DataW H) : 1 ≤ Rows.uptoBulk d := by
  cases d with
  | lit l => cases l <;> simp [Rows.uptoBulk]
  | nil => simp [Rows.uptoBulk]
  | ptr d => simp [Rows.uptoBulk]
  | slice elems spare => simp [Rows.uptoBulk]
  | agg parts => simp [Rows.uptoBulk]
  | iface t d => simp [Rows.uptoBulk]
  | map entries => simp [Rows.uptoBulk]
  | held h => simp [Rows.uptoBulk]

theorem bulk_length {H : Type} (l : List (DataW H)) : l.length ≤ Rows.uptoBulkAll l := by
  induction l with
  | nil => simp [Rows.uptoBulkAll]
  | cons x r ih => have := bulk_pos x; simp only [Rows.uptoBulkAll, List.length_cons]; omega

theorem slice_bulk {H : Type} (elems spare : List (DataW H)) : elems.length ≤ Rows.uptoBulk (.slice elems spare) := by
  have h1 := bulk_length elems
  simp only [Rows.uptoBulk]
  omega

end Go.Proofs.YtkncamggdfmlnaaGreatDoor

