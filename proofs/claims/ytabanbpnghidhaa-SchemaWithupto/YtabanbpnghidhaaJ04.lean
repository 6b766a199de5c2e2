/-
  2 texts of this proof in one, in build order: WIns, TMath.
-/
import Derived.WalkKit
import Derived.WalkSpells
import Derived.Lib.Strings
import Derived.Lib.Walk
import Derived.Sort.Walk0
import Derived.Test.YtabanbpnghidhaaJ03
namespace Go.Proofs.Ytabanbpnghidhaa
open Go.RowKit
open Go.Maps

theorem ins_room {α : Type} (X cs1 cs2 cx : List α) (hX : X.take (cs1.length + cs2.length) = cs1 ++ cs2) (hl : cs1.length + cx.length + cs2.length ≤ X.length) :
    (splice (splice X (cs1.length + cx.length) cs2) cs1.length cx).take (cs1.length + (cx.length + cs2.length)) = cs1 ++ (cx ++ cs2) := by
  have e1 : X.take cs1.length = cs1 := by
    have := congrArg (List.take cs1.length) hX
    rw [List.take_take, Nat.min_eq_left (by omega), List.take_left] at this
    exact this
  have hL : (splice X (cs1.length + cx.length) cs2).length = X.length := length_splice _ _ _ hl
  have e2 : (splice X (cs1.length + cx.length) cs2).take cs1.length = cs1 := by
    have := congrArg (List.take cs1.length) (take_splice X (cs1.length + cx.length) cs2 (by omega))
    rw [List.take_take, Nat.min_eq_left (by omega), List.take_take, Nat.min_eq_left (by omega), e1] at this
    exact this
  have e3 : ((splice X (cs1.length + cx.length) cs2).drop (cs1.length + cx.length)).take cs2.length = cs2 := by
    have := take_splice_all X (cs1.length + cx.length) cs2 (by omega)
    rw [← List.take_append_drop (cs1.length + cx.length) (splice X (cs1.length + cx.length) cs2), take_splice X _ _ (by omega)] at this
    generalize (splice X (cs1.length + cx.length) cs2).drop (cs1.length + cx.length) = D at this ⊢
    have h3 := congrArg (List.drop (cs1.length + cx.length)) this
    rw [List.drop_left' (by simp; omega), List.take_append] at h3
    rw [List.take_of_length_le (l := X.take _) (by simp; omega), List.drop_left' (by simp; omega)] at h3
    rw [show cs1.length + cx.length + cs2.length - (X.take (cs1.length + cx.length)).length = cs2.length by simp; omega] at h3
    exact h3
  rw [splice, e2, List.take_append, List.take_of_length_le (l := cs1) (by omega), show cs1.length + (cx.length + cs2.length) - cs1.length = cx.length + cs2.length by omega, List.take_append, List.take_of_length_le (l := cx) (by omega), show cx.length + cs2.length - cx.length = cs2.length by omega, e3]
theorem ins_grow {α : Type} (X cs1 cs2 cx : List α) (hX : X.take cs1.length = cs1) (hl : cs1.length + cx.length + cs2.length ≤ X.length) :
    (splice (splice X cs1.length cx) (cs1.length + cx.length) cs2).take (cs1.length + (cx.length + cs2.length)) = cs1 ++ (cx ++ cs2) := by
  have hL : (splice X cs1.length cx).length = X.length := length_splice _ _ _ (by omega)
  rw [← Nat.add_assoc, take_splice_all _ _ _ (by omega), take_splice_all _ _ _ (by omega), hX]
  simp

set_option maxRecDepth 100000 in
set_option maxHeartbeats 8000000 in
/-- slices.Insert of one, in a row of the caller's own. -/
theorem insTab (cs1 cs2 cx : List Value) (n1 n2 : Nat) (v : Value) (B vb : Nat) (w : World) (ho : w.ownsRow B 43 2 v (n1 + n2) (cs1 ++ cs2)) (h1 : cs1.length = n1 * 2) (h2 : cs2.length = n2 * 2) (hx : cx.length = 2)
    (one : ∀ u ∈ cs1 ++ cs2, u.oneCell' = true) (onex : ∀ u ∈ cx, u.oneCell' = true) (hn : n1 + n2 ≤ 1000000) (hv : w.heap[vb]? = some (.cells cx.toArray 43)) (hne : v.ownBlock ≠ some vb) (hB : B ≤ w.heap.size) :
    Calls Try.prog 47 #[v, .int .i64 n1, .slice (some ⟨vb, 0, none⟩) 1 1] w fun e w' => ∃ v', e = .returned v' ∧ w'.ownsRow B 43 2 v' (n1 + n2 + 1) (cs1 ++ (cx ++ cs2)) ∧ Below B w w' := by
  obtain ⟨i0, hi0, hz0, hz1, hz2⟩ := info_parts info_Tab
  have hvw := lt_of_block hv
  have hvc : ∀ j u, cx[j]? = some u → w.cell? ((⟨vb, 0, none⟩ : Addr).add j) = some u := fun j u hj => by
    rw [Addr.add_lit, Nat.zero_add]; exact cell_of_block hv (by simpa using hj)
  rcases Nat.eq_zero_or_pos n2 with rfl | h0
  · obtain rfl : cs2 = [] := List.eq_nil_of_length_eq_zero (by omega)
    simp only [List.append_nil, Nat.add_zero] at ho hn ⊢
    have HV : Hid _ := hvc
    have hgo : ∀ ao cap, v = .slice ao n1 cap → (ao = none → n1 = 0 ∧ cap = 0) → (∀ a, ao = some a → ∃ g, a = ⟨g, 0, none⟩) → Calls Try.prog 47 #[v, .int .i64 n1, .slice (some ⟨vb, 0, none⟩) 1 1] w fun e w' => ∃ v', e = .returned v' ∧ w'.ownsRow B 43 2 v' (n1 + 1) (cs1 ++ cx) ∧ Below B w w' := by
      intro ao cap hve hnil hsome
      subst hve
      have HO : Hid _ := ho
      have fin : ∀ v' w', w'.ownsRow B 43 2 v' (n1 + 1) (cs1 ++ cx) → w.grownBy w' (Value.slice ao n1 cap).ownBlock → Below B w w' := fun v' w' _ hg => (Below.refl _ _).grown hg hB fun k hk => (ho.lt k hk).1
      clear ho hvc
      cases ao with
      | none =>
        obtain ⟨rfl, rfl⟩ := hnil rfl
        go_enter Try.func47, Try.ntmps47
        go_wp2_with (at_builtin; refine wpList_append_own_at _ rfl _ _ 22 rfl B 43 i0 (.agg #[.string ⟨#[]⟩, .slice none 0 0]) 2 40 Try.underlying22 hi0 hz0 hz1 hz2 rfl (by decide) _ _ _ rfl HO.out ⟨vb, 0, none⟩ 1 1 cx rfl hx HV.out onex (by decide) (by decide) hB ?_)
        intro v' w1 hown hgrow _ _
        go_wp2
        go_ret
        exact ⟨v', rfl, hown, fin _ _ hown hgrow⟩
      | some a =>
        obtain ⟨g, rfl⟩ := hsome a rfl
        by_cases hcn : cap = n1
        all_goals
          go_enter Try.func47, Try.ntmps47
          go_wp2_with (at_builtin; refine wpList_append_own_at _ rfl _ _ 22 rfl B 43 i0 (.agg #[.string ⟨#[]⟩, .slice none 0 0]) 2 40 Try.underlying22 hi0 hz0 hz1 hz2 rfl (by decide) _ _ _ rfl HO.out ⟨vb, 0, none⟩ 1 1 cx rfl hx HV.out onex (by simp only [maxLen]; omega) (by omega) hB ?_)
          intro v' w1 hown hgrow _ _
          go_wp2
          go_ret
          exact ⟨v', rfl, hown, fin _ _ hown hgrow⟩
    rcases owns_open ho with ⟨rfl, rfl⟩ | ⟨g, cap, X, rfl, _, _, _, _, _, _⟩
    · exact hgo none 0 rfl (fun _ => ⟨rfl, rfl⟩) (fun a h => by cases h)
    · exact hgo _ cap rfl (fun h => by cases h) (fun a h => by cases h; exact ⟨_, rfl⟩)
  · rcases owns_open ho with ⟨rfl, hz⟩ | ⟨g, cap, X, rfl, hBg, hX, hncap, hcapm, hXl, hXt⟩
    · omega
    have hgw := lt_of_block hX
    have hvb : vb ≠ g := by rintro rfl; exact hne rfl
    have hlen : X.length = cap * 2 := hXl
    have one1 : ∀ u ∈ cs2, u.oneCell' = true := fun u hu => one u (by simp [hu])
    have hsrc2 : ∀ j u, cs2[j]? = some u → X[n1 * 2 + j]? = some u := fun j u hj => by
      have hjl := (List.getElem?_eq_some_iff.1 hj).1
      have : (cs1 ++ cs2)[n1 * 2 + j]? = some u := by rw [← h1, List.getElem?_append_right (by omega), Nat.add_sub_cancel_left]; exact hj
      rw [← hXt, List.getElem?_take_of_lt (by omega)] at this
      exact this
    simp only [maxLen] at hcapm
    have q1 : ¬ ((n1 : Int) = ((n1 + n2 : Nat) : Int)) := by omega
    have q2 : ¬ (cap = n1) := by omega
    have q3 : (n1 : Int) ≤ ((n1 + n2 : Nat) : Int) := by omega
    by_cases hroom : n1 + n2 + 1 ≤ cap
    · have hov : ∀ o lb cb, (callFunc 82 #[.slice (some ⟨vb, 0, none⟩) 1 1, .slice (some ⟨g, o, none⟩) lb cb]).run Try.prog w = .ok (.value (.bool false)) w := fun o lb cb => by
        rw [run_callFunc_extern Try.func82 (by kernel_rfl) (by kernel_rfl) (by kernel_rfl) (e := Extern.SlicesOverlaps.overlaps #[22, 22] #[4]) (by kernel_rfl),
          Lib.run_overlaps_apart w 22 4 43 Try.underlying22 2 Try.sizeOf43 ⟨vb, 0, none⟩ ⟨g, o, none⟩ 1 1 lb cb hvb 43 43 2 X.length (by simp [World.shape?, hv, hx]) (by simp [World.shape?, hX]) (by omega) (by simp [World.frozen?, hv]) (by simp [World.frozen?, hv])]
        rfl
      have r1 : ((n1 + n2 : Nat) : Int) + 1 ≤ (cap : Int) := by omega
      have r2 : ¬ (cap = n1 + 1) := by omega
      have r3 : ¬ ((cap : Int) < ((n1 + n2 : Nat) : Int) + 1) := by omega
      have r4 : (n1 : Int) + 1 ≤ ((n1 + n2 : Nat) : Int) + 1 := by omega
      have r5 : (n1 : Int) ≤ ((n1 + n2 : Nat) : Int) + 1 := by omega
      have hw1 : IntKind.i64.wrap ((n1 : Int) + 1) = (n1 : Int) + 1 := by rw [IntKind.wrap_i64]; omega
      have hb1 : (0 : Int) ≤ (n1 : Int) + 1 := by omega
      have htn : ((n1 : Int) + 1).toNat = n1 + 1 := by omega
      have HXT : Hid (X.take ((n1 + n2) * 2) = cs1 ++ cs2) := hXt
      have HS2 : Hid _ := hsrc2
      have HOV : Hid _ := hov
      have hm1 : cs2.length = Nat.min (n1 + n2 + 1 - n1) (n1 + n2 + 1 - (n1 + 1)) * 2 := by simp only [Nat.min_def]; split <;> omega
      have hm2 : cs2.length = Nat.min (n1 + n2 + 1 - n1) (n1 + n2 - n1) * 2 := by simp only [Nat.min_def]; split <;> omega
      have hm3 : cx.length = Nat.min 1 (n1 + n2 + 1 - n1) * 2 := by simp only [Nat.min_def]; split <;> omega
      have hf1 : (n1 + 1) * 2 + cs2.length ≤ X.length := by omega
      have HF2 : Hid (n1 * 2 + cx.length ≤ X.length) := (by omega : _ ≤ _)
      have HM : Hid _ := And.intro hm1 hm2
      have HM3 : Hid _ := hm3
      have HEND : Hid _ := ins_room X cs1 cs2 cx (by rw [h1, h2, ← Nat.add_mul]; exact hXt) (by omega)
      have HL2 : Hid _ := length_splice X ((n1 + 1) * 2) cs2 hf1
      clear hm1 hm2 hm3
      generalize hnn : n1 + n2 = n at *
      have HNN : Hid _ := hnn
      clear hXt hsrc2 ho hov hnn
      go_enter Try.func47, Try.ntmps47
      go_wp2_with (simp only [HOV.out])
      go_region_law (refine step_copy_k (by rfl) _ _ 22 22 (by rfl) 43 2 Try.underlying22 size_Tab g ((n1 + 1) * 2) (n - n1) (cap - (n1 + 1)) ⟨g, n1 * 2, none⟩ (n + 1 - n1) (cap - n1) (by simp [Act.eval, Act.put]) (by simp [Act.eval, Act.put]) X 43 (by exact hX) cs2 HM.out.2 (fun j u hj => by rw [Addr.add_lit]; exact cell_of_block (w := w) hX (by have := HS2.out j u hj; simpa using this)) hf1 one1 ?_; intro w2 hX2 hg2)
      have hv2 := (hg2.block vb hvw (fun e => hvb (by cases e; rfl))).trans hv
      have HV2 : Hid (∀ j u, cx[j]? = some u → w2.cell? ((⟨vb, 0, none⟩ : Addr).add j) = some u) := fun j u hj => by rw [Addr.add_lit, Nat.zero_add]; exact cell_of_block hv2 (by simpa using hj)
      have HX2 : Hid _ := hX2
      clear hX2
      obtain ⟨w3, hrun, hX3, hg3⟩ := run_copy_ex (P := Try.prog) (w := w2) 22 22 43 2 Try.underlying22 size_Tab g (n1 * 2) (n + 1 - n1) (cap - n1) ⟨vb, 0, none⟩ 1 1 _ 43 HX2.out cx HM3.out HV2.out (by rw [HL2.out]; exact HF2.out) onex
      have HX3 : Hid _ := hX3
      clear hX3
      go_wp2
      go_ret
      have hgg : w.grownBy w3 (some g) := gr_trans (gr_below _ ((Below.refl _ w).drew)) (gr_trans hg2 hg3)
      refine ⟨_, rfl, ?_, below_gr hgg hBg hB⟩
      have e1 := HEND.out
      rw [h1, hx, h2] at e1
      rw [show n1 * 2 + 2 = (n1 + 1) * 2 by omega] at e1
      refine owns_mk hBg HX3.out hroom (by simp only [maxLen]; exact hcapm) ?_ ?_
      · rw [length_splice _ _ _ (by rw [HL2.out]; exact HF2.out), HL2.out]; exact hXl
      · rw [← e1, show n1 * 2 + (2 + n2 * 2) = (n + 1) * 2 by have := HNN.out; omega]
    · obtain rfl : cap = n1 + n2 := by omega
      have hkk : ((n1 + n2 : Nat) : Int) + 1 - (n1 : Int) = ((n2 + 1 : Nat) : Int) := by omega
      have hG : grownCap w (n1 + (n2 + 1)) (n1 + n2) 43 ≤ maxLen := grownCap_le_maxLen w (n1 + (n2 + 1)) (n1 + n2) _ (by unfold maxLen; omega)
      have hGe := grownCap_ge w (n1 + (n2 + 1)) (n1 + n2) 43
      have hold : (Builtin.firstCells i0.size n1 (.slice (some ⟨g, 0, none⟩) n1 (n1 + n2))).run Try.prog w.drew = .ok cs1.toArray w.drew := by
        rw [hz1]
        exact run_firstCells_some w.drew 2 n1 ⟨g, 0, none⟩ n1 (n1 + n2) cs1 h1 (fun j u hj => by
          rw [Addr.add_lit, Nat.zero_add]
          have hjl := (List.getElem?_eq_some_iff.1 hj).1
          refine cell_of_block (w := w) hX ?_
          have : (cs1 ++ cs2)[j]? = some u := by rw [List.getElem?_append_left hjl]; exact hj
          rw [← hXt, List.getElem?_take_of_lt (by omega)] at this
          simpa using this)
      have hrz : ∀ ty, (Builtin.append_ #[22, 3] ty #[.slice (some ⟨g, 0, none⟩) n1 (n1 + n2), .int .i64 (((n1 + n2 : Nat) : Int) + 1 - (n1 : Int))]).run Try.prog w = .ok (.slice (some ⟨w.heap.size, 0, none⟩) (n1 + (n2 + 1)) (grownCap w (n1 + (n2 + 1)) (n1 + n2) 43)) (w.drew.alloc (.cells (cs1.toArray ++ Builtin.zeroCells ((.agg #[.string ⟨#[]⟩, .slice none 0 0]) : Value).cells (n2 + 1) ++ Builtin.zeroCells ((.agg #[.string ⟨#[]⟩, .slice none 0 0]) : Value).cells (grownCap w (n1 + (n2 + 1)) (n1 + n2) 43 - (n1 + (n2 + 1)))) 43)) := fun ty => by
        rw [hkk]
        exact Lib.run_append_grow_zeros w 22 3 ty 43 i0 _ .i64 .i64 Try.underlying22 Try.underlying3 hi0 hz0 (some ⟨g, 0, none⟩) n1 (n1 + n2) cs1 hold (n2 + 1) (by omega) (by rw [hz1]; decide) (by omega) (by omega) (by simp only [hz2]; exact Nat.le_trans (Nat.mul_le_mul_right 40 (show n2 + 1 ≤ 1000001 by omega)) (by decide)) (by simp only [hz2]; exact growslice_fits (by omega) (Nat.le_trans (Nat.mul_le_mul_right 40 (show n1 + (n2 + 1) ≤ 1000001 by omega)) (by decide)))
      generalize hGG : grownCap w (n1 + (n2 + 1)) (n1 + n2) 43 = G at *
      obtain ⟨Y, hY⟩ : ∃ Y : List Value, Y.toArray = cs1.toArray ++ Builtin.zeroCells ((.agg #[.string ⟨#[]⟩, .slice none 0 0]) : Value).cells (n2 + 1) ++ Builtin.zeroCells ((.agg #[.string ⟨#[]⟩, .slice none 0 0]) : Value).cells (G - (n1 + (n2 + 1))) := ⟨_, Array.toArray_toList⟩
      rw [← hY] at hrz
      have hYl : Y.length = G * 2 := by
        have := congrArg Array.size hY
        rw [List.size_toArray, Array.size_append, Array.size_append] at this
        simp only [Builtin.zeroCells, Array.size_map, Array.size_range, List.size_toArray, Value.cells] at this
        rw [this, h1]
        simp
        try omega
      have hYt : Y.take cs1.length = cs1 := by
        have := congrArg Array.toList hY
        simp only [Array.toList_append] at this
        rw [this, List.append_assoc, List.take_left]
      generalize hW1 : (w.drew.alloc (.cells Y.toArray 43)) = W1 at hrz
      have hb1 : W1.heap[w.heap.size]? = some (.cells Y.toArray 43) := by rw [← hW1]; exact block_alloc_at w.drew _
      have hbl : Below w.heap.size w W1 := by rw [← hW1]; exact ((Below.refl _ w).drew).alloc (Nat.le_refl _) _
      have hv2 := (hbl.block vb hvw).trans hv
      have HV2 : ∀ j u, cx[j]? = some u → W1.cell? ((⟨vb, 0, none⟩ : Addr).add j) = some u := fun j u hj => by rw [Addr.add_lit, Nat.zero_add]; exact cell_of_block hv2 (by simpa using hj)
      have hm3 : cx.length = Nat.min 1 (n1 + (n2 + 1) - n1) * 2 := by simp only [Nat.min_def]; split <;> omega
      obtain ⟨w3, hrun3, hX3, hg3⟩ := run_copy_ex (P := Try.prog) (w := W1) 22 22 43 2 Try.underlying22 size_Tab w.heap.size (n1 * 2) (n1 + (n2 + 1) - n1) (G - n1) ⟨vb, 0, none⟩ 1 1 _ 43 hb1 cx hm3 HV2 (by omega) onex
      have hL3 : (splice Y (n1 * 2) cx).length = Y.length := length_splice _ _ _ (by omega)
      have hXg : w3.heap[g]? = some (.cells X.toArray 43) := ((hg3.block g (Nat.lt_of_lt_of_le hgw hbl.size) (fun e => by cases e; omega)).trans (hbl.block g hgw)).trans hX
      have hm4 : cs2.length = Nat.min (n1 + n2 - n1) (n1 + (n2 + 1) - (n1 + 1)) * 2 := by simp only [Nat.min_def]; split <;> omega
      have HEND : Hid _ := ins_grow Y cs1 cs2 cx hYt (by omega)
      have hw1 : IntKind.i64.wrap ((n1 : Int) + 1) = (n1 : Int) + 1 := by rw [IntKind.wrap_i64]; omega
      have hbb1 : (0 : Int) ≤ (n1 : Int) + 1 := by omega
      have htn : ((n1 : Int) + 1).toNat = n1 + 1 := by omega
      have s1 : ((n1 + n2 : Nat) : Int) < ((n1 + n2 : Nat) : Int) + 1 := by omega
      have s2 : ¬ (G = n1) := by omega
      have s3 : ¬ (G = n1 + 1) := by omega
      have s4 : (n1 : Int) ≤ ((n1 + (n2 + 1) : Nat) : Int) := by omega
      have s5 : (n1 : Int) + 1 ≤ ((n1 + (n2 + 1) : Nat) : Int) := by omega
      have hfit4 : (n1 + 1) * 2 + cs2.length ≤ (splice Y (n1 * 2) cx).length := by omega
      have HS2 : Hid _ := hsrc2
      have HM4 : Hid _ := hm4
      have HF4 : Hid _ := hfit4
      have HX3 : Hid _ := hX3
      have hnn : Hid (n1 + (n2 + 1) = n1 + n2 + 1) := (by omega : _ = _)
      have hG1 : Hid (n1 + n2 + 1 ≤ G) := (by omega : _ ≤ _)
      have HYL : Hid _ := hL3.trans hYl
      clear hm3 hm4 hfit4 hsrc2 hX3 hXt hYt hold ho hW1 hY hL3 hYl hGe
      generalize hn1 : n1 + (n2 + 1) = N1 at *
      generalize hn0 : n1 + n2 = n at *
      have HN0 : Hid _ := hn0
      have HN1 : Hid _ := hn1
      clear hn0 hn1 hkk
      go_enter Try.func47, Try.ntmps47
      go_wp2_with (at_builtin; refine Lib.wpList_append_run _ rfl _ _ _ _ rfl _ _ rfl rfl _ _ (hrz _) ?_)
      go_region_law (refine step_copy_k (by rfl) _ _ 22 22 (by rfl) 43 2 Try.underlying22 size_Tab w.heap.size ((n1 + 1) * 2) (N1 - (n1 + 1)) (G - (n1 + 1)) ⟨g, n1 * 2, none⟩ (n - n1) (n - n1) (by simp [Act.eval, Act.put]) (by simp [Act.eval, Act.put]) _ 43 (by exact HX3.out) cs2 HM4.out (fun j u hj => by rw [Addr.add_lit]; exact cell_of_block (w := w3) hXg (by have := HS2.out j u hj; simpa using this)) HF4.out one1 ?_; intro w4 hX4 hg4)
      have HX4 : Hid _ := hX4
      clear hX4
      go_wp2
      go_ret
      have hgg : W1.grownBy w4 (some w.heap.size) := gr_trans hg3 (gr_trans (gr_below _ ((Below.refl _ w3).drew)) hg4)
      have hbb : Below w.heap.size w w4 := hbl.trans (below_gr hgg (Nat.le_refl _) hbl.size)
      refine ⟨_, rfl, ?_, hbb.mono hB⟩
      have e1 := HEND.out
      rw [h1, hx, h2] at e1
      rw [show n1 * 2 + 2 = (n1 + 1) * 2 by omega] at e1
      have hN : N1 = n + 1 := by have a1 := HN0.out; have a2 := HN1.out; omega
      subst hN
      refine owns_mk hB HX4.out hG1.out hG ?_ ?_
      · rw [length_splice _ _ _ HF4.out]; exact HYL.out
      · rw [← e1, show n1 * 2 + (2 + n2 * 2) = (n + 1) * 2 by have := HN0.out; omega]

set_option maxRecDepth 100000 in
set_option maxHeartbeats 8000000 in
/-- slices.Insert of one, in a row of the caller's own. -/
theorem insIdx (cs1 cs2 cx : List Value) (n1 n2 : Nat) (v : Value) (B vb : Nat) (w : World) (ho : w.ownsRow B 63 3 v (n1 + n2) (cs1 ++ cs2)) (h1 : cs1.length = n1 * 3) (h2 : cs2.length = n2 * 3) (hx : cx.length = 3)
    (one : ∀ u ∈ cs1 ++ cs2, u.oneCell' = true) (onex : ∀ u ∈ cx, u.oneCell' = true) (hn : n1 + n2 ≤ 1000000) (hv : w.heap[vb]? = some (.cells cx.toArray 63)) (hne : v.ownBlock ≠ some vb) (hB : B ≤ w.heap.size) :
    Calls Try.prog 51 #[v, .int .i64 n1, .slice (some ⟨vb, 0, none⟩) 1 1] w fun e w' => ∃ v', e = .returned v' ∧ w'.ownsRow B 63 3 v' (n1 + n2 + 1) (cs1 ++ (cx ++ cs2)) ∧ Below B w w' := by
  obtain ⟨i0, hi0, hz0, hz1, hz2⟩ := info_parts info_Idx
  have hvw := lt_of_block hv
  have hvc : ∀ j u, cx[j]? = some u → w.cell? ((⟨vb, 0, none⟩ : Addr).add j) = some u := fun j u hj => by
    rw [Addr.add_lit, Nat.zero_add]; exact cell_of_block hv (by simpa using hj)
  rcases Nat.eq_zero_or_pos n2 with rfl | h0
  · obtain rfl : cs2 = [] := List.eq_nil_of_length_eq_zero (by omega)
    simp only [List.append_nil, Nat.add_zero] at ho hn ⊢
    have HV : Hid _ := hvc
    have hgo : ∀ ao cap, v = .slice ao n1 cap → (ao = none → n1 = 0 ∧ cap = 0) → (∀ a, ao = some a → ∃ g, a = ⟨g, 0, none⟩) → Calls Try.prog 51 #[v, .int .i64 n1, .slice (some ⟨vb, 0, none⟩) 1 1] w fun e w' => ∃ v', e = .returned v' ∧ w'.ownsRow B 63 3 v' (n1 + 1) (cs1 ++ cx) ∧ Below B w w' := by
      intro ao cap hve hnil hsome
      subst hve
      have HO : Hid _ := ho
      have fin : ∀ v' w', w'.ownsRow B 63 3 v' (n1 + 1) (cs1 ++ cx) → w.grownBy w' (Value.slice ao n1 cap).ownBlock → Below B w w' := fun v' w' _ hg => (Below.refl _ _).grown hg hB fun k hk => (ho.lt k hk).1
      clear ho hvc
      cases ao with
      | none =>
        obtain ⟨rfl, rfl⟩ := hnil rfl
        go_enter Try.func51, Try.ntmps51
        go_wp2_with (at_builtin; refine wpList_append_own_at _ rfl _ _ 23 rfl B 63 i0 (.agg #[.string ⟨#[]⟩, .string ⟨#[]⟩, .string ⟨#[]⟩]) 3 48 Try.underlying23 hi0 hz0 hz1 hz2 rfl (by decide) _ _ _ rfl HO.out ⟨vb, 0, none⟩ 1 1 cx rfl hx HV.out onex (by decide) (by decide) hB ?_)
        intro v' w1 hown hgrow _ _
        go_wp2
        go_ret
        exact ⟨v', rfl, hown, fin _ _ hown hgrow⟩
      | some a =>
        obtain ⟨g, rfl⟩ := hsome a rfl
        by_cases hcn : cap = n1
        all_goals
          go_enter Try.func51, Try.ntmps51
          go_wp2_with (at_builtin; refine wpList_append_own_at _ rfl _ _ 23 rfl B 63 i0 (.agg #[.string ⟨#[]⟩, .string ⟨#[]⟩, .string ⟨#[]⟩]) 3 48 Try.underlying23 hi0 hz0 hz1 hz2 rfl (by decide) _ _ _ rfl HO.out ⟨vb, 0, none⟩ 1 1 cx rfl hx HV.out onex (by simp only [maxLen]; omega) (by omega) hB ?_)
          intro v' w1 hown hgrow _ _
          go_wp2
          go_ret
          exact ⟨v', rfl, hown, fin _ _ hown hgrow⟩
    rcases owns_open ho with ⟨rfl, rfl⟩ | ⟨g, cap, X, rfl, _, _, _, _, _, _⟩
    · exact hgo none 0 rfl (fun _ => ⟨rfl, rfl⟩) (fun a h => by cases h)
    · exact hgo _ cap rfl (fun h => by cases h) (fun a h => by cases h; exact ⟨_, rfl⟩)
  · rcases owns_open ho with ⟨rfl, hz⟩ | ⟨g, cap, X, rfl, hBg, hX, hncap, hcapm, hXl, hXt⟩
    · omega
    have hgw := lt_of_block hX
    have hvb : vb ≠ g := by rintro rfl; exact hne rfl
    have hlen : X.length = cap * 3 := hXl
    have one1 : ∀ u ∈ cs2, u.oneCell' = true := fun u hu => one u (by simp [hu])
    have hsrc2 : ∀ j u, cs2[j]? = some u → X[n1 * 3 + j]? = some u := fun j u hj => by
      have hjl := (List.getElem?_eq_some_iff.1 hj).1
      have : (cs1 ++ cs2)[n1 * 3 + j]? = some u := by rw [← h1, List.getElem?_append_right (by omega), Nat.add_sub_cancel_left]; exact hj
      rw [← hXt, List.getElem?_take_of_lt (by omega)] at this
      exact this
    simp only [maxLen] at hcapm
    have q1 : ¬ ((n1 : Int) = ((n1 + n2 : Nat) : Int)) := by omega
    have q2 : ¬ (cap = n1) := by omega
    have q3 : (n1 : Int) ≤ ((n1 + n2 : Nat) : Int) := by omega
    by_cases hroom : n1 + n2 + 1 ≤ cap
    · have hov : ∀ o lb cb, (callFunc 84 #[.slice (some ⟨vb, 0, none⟩) 1 1, .slice (some ⟨g, o, none⟩) lb cb]).run Try.prog w = .ok (.value (.bool false)) w := fun o lb cb => by
        rw [run_callFunc_extern Try.func84 (by kernel_rfl) (by kernel_rfl) (by kernel_rfl) (e := Extern.SlicesOverlaps.overlaps #[23, 23] #[4]) (by kernel_rfl),
          Lib.run_overlaps_apart w 23 4 63 Try.underlying23 3 Try.sizeOf63 ⟨vb, 0, none⟩ ⟨g, o, none⟩ 1 1 lb cb hvb 63 63 3 X.length (by simp [World.shape?, hv, hx]) (by simp [World.shape?, hX]) (by omega) (by simp [World.frozen?, hv]) (by simp [World.frozen?, hv])]
        rfl
      have r1 : ((n1 + n2 : Nat) : Int) + 1 ≤ (cap : Int) := by omega
      have r2 : ¬ (cap = n1 + 1) := by omega
      have r3 : ¬ ((cap : Int) < ((n1 + n2 : Nat) : Int) + 1) := by omega
      have r4 : (n1 : Int) + 1 ≤ ((n1 + n2 : Nat) : Int) + 1 := by omega
      have r5 : (n1 : Int) ≤ ((n1 + n2 : Nat) : Int) + 1 := by omega
      have hw1 : IntKind.i64.wrap ((n1 : Int) + 1) = (n1 : Int) + 1 := by rw [IntKind.wrap_i64]; omega
      have hb1 : (0 : Int) ≤ (n1 : Int) + 1 := by omega
      have htn : ((n1 : Int) + 1).toNat = n1 + 1 := by omega
      have HXT : Hid (X.take ((n1 + n2) * 3) = cs1 ++ cs2) := hXt
      have HS2 : Hid _ := hsrc2
      have HOV : Hid _ := hov
      have hm1 : cs2.length = Nat.min (n1 + n2 + 1 - n1) (n1 + n2 + 1 - (n1 + 1)) * 3 := by simp only [Nat.min_def]; split <;> omega
      have hm2 : cs2.length = Nat.min (n1 + n2 + 1 - n1) (n1 + n2 - n1) * 3 := by simp only [Nat.min_def]; split <;> omega
      have hm3 : cx.length = Nat.min 1 (n1 + n2 + 1 - n1) * 3 := by simp only [Nat.min_def]; split <;> omega
      have hf1 : (n1 + 1) * 3 + cs2.length ≤ X.length := by omega
      have HF2 : Hid (n1 * 3 + cx.length ≤ X.length) := (by omega : _ ≤ _)
      have HM : Hid _ := And.intro hm1 hm2
      have HM3 : Hid _ := hm3
      have HEND : Hid _ := ins_room X cs1 cs2 cx (by rw [h1, h2, ← Nat.add_mul]; exact hXt) (by omega)
      have HL2 : Hid _ := length_splice X ((n1 + 1) * 3) cs2 hf1
      clear hm1 hm2 hm3
      generalize hnn : n1 + n2 = n at *
      have HNN : Hid _ := hnn
      clear hXt hsrc2 ho hov hnn
      go_enter Try.func51, Try.ntmps51
      go_wp2_with (simp only [HOV.out])
      go_region_law (refine step_copy_k (by rfl) _ _ 23 23 (by rfl) 63 3 Try.underlying23 size_Idx g ((n1 + 1) * 3) (n - n1) (cap - (n1 + 1)) ⟨g, n1 * 3, none⟩ (n + 1 - n1) (cap - n1) (by simp [Act.eval, Act.put]) (by simp [Act.eval, Act.put]) X 63 (by exact hX) cs2 HM.out.2 (fun j u hj => by rw [Addr.add_lit]; exact cell_of_block (w := w) hX (by have := HS2.out j u hj; simpa using this)) hf1 one1 ?_; intro w2 hX2 hg2)
      have hv2 := (hg2.block vb hvw (fun e => hvb (by cases e; rfl))).trans hv
      have HV2 : Hid (∀ j u, cx[j]? = some u → w2.cell? ((⟨vb, 0, none⟩ : Addr).add j) = some u) := fun j u hj => by rw [Addr.add_lit, Nat.zero_add]; exact cell_of_block hv2 (by simpa using hj)
      have HX2 : Hid _ := hX2
      clear hX2
      obtain ⟨w3, hrun, hX3, hg3⟩ := run_copy_ex (P := Try.prog) (w := w2) 23 23 63 3 Try.underlying23 size_Idx g (n1 * 3) (n + 1 - n1) (cap - n1) ⟨vb, 0, none⟩ 1 1 _ 63 HX2.out cx HM3.out HV2.out (by rw [HL2.out]; exact HF2.out) onex
      have HX3 : Hid _ := hX3
      clear hX3
      go_wp2
      go_ret
      have hgg : w.grownBy w3 (some g) := gr_trans (gr_below _ ((Below.refl _ w).drew)) (gr_trans hg2 hg3)
      refine ⟨_, rfl, ?_, below_gr hgg hBg hB⟩
      have e1 := HEND.out
      rw [h1, hx, h2] at e1
      rw [show n1 * 3 + 3 = (n1 + 1) * 3 by omega] at e1
      refine owns_mk hBg HX3.out hroom (by simp only [maxLen]; exact hcapm) ?_ ?_
      · rw [length_splice _ _ _ (by rw [HL2.out]; exact HF2.out), HL2.out]; exact hXl
      · rw [← e1, show n1 * 3 + (3 + n2 * 3) = (n + 1) * 3 by have := HNN.out; omega]
    · obtain rfl : cap = n1 + n2 := by omega
      have hkk : ((n1 + n2 : Nat) : Int) + 1 - (n1 : Int) = ((n2 + 1 : Nat) : Int) := by omega
      have hG : grownCap w (n1 + (n2 + 1)) (n1 + n2) 63 ≤ maxLen := grownCap_le_maxLen w (n1 + (n2 + 1)) (n1 + n2) _ (by unfold maxLen; omega)
      have hGe := grownCap_ge w (n1 + (n2 + 1)) (n1 + n2) 63
      have hold : (Builtin.firstCells i0.size n1 (.slice (some ⟨g, 0, none⟩) n1 (n1 + n2))).run Try.prog w.drew = .ok cs1.toArray w.drew := by
        rw [hz1]
        exact run_firstCells_some w.drew 3 n1 ⟨g, 0, none⟩ n1 (n1 + n2) cs1 h1 (fun j u hj => by
          rw [Addr.add_lit, Nat.zero_add]
          have hjl := (List.getElem?_eq_some_iff.1 hj).1
          refine cell_of_block (w := w) hX ?_
          have : (cs1 ++ cs2)[j]? = some u := by rw [List.getElem?_append_left hjl]; exact hj
          rw [← hXt, List.getElem?_take_of_lt (by omega)] at this
          simpa using this)
      have hrz : ∀ ty, (Builtin.append_ #[23, 3] ty #[.slice (some ⟨g, 0, none⟩) n1 (n1 + n2), .int .i64 (((n1 + n2 : Nat) : Int) + 1 - (n1 : Int))]).run Try.prog w = .ok (.slice (some ⟨w.heap.size, 0, none⟩) (n1 + (n2 + 1)) (grownCap w (n1 + (n2 + 1)) (n1 + n2) 63)) (w.drew.alloc (.cells (cs1.toArray ++ Builtin.zeroCells ((.agg #[.string ⟨#[]⟩, .string ⟨#[]⟩, .string ⟨#[]⟩]) : Value).cells (n2 + 1) ++ Builtin.zeroCells ((.agg #[.string ⟨#[]⟩, .string ⟨#[]⟩, .string ⟨#[]⟩]) : Value).cells (grownCap w (n1 + (n2 + 1)) (n1 + n2) 63 - (n1 + (n2 + 1)))) 63)) := fun ty => by
        rw [hkk]
        exact Lib.run_append_grow_zeros w 23 3 ty 63 i0 _ .i64 .i64 Try.underlying23 Try.underlying3 hi0 hz0 (some ⟨g, 0, none⟩) n1 (n1 + n2) cs1 hold (n2 + 1) (by omega) (by rw [hz1]; decide) (by omega) (by omega) (by simp only [hz2]; exact Nat.le_trans (Nat.mul_le_mul_right 48 (show n2 + 1 ≤ 1000001 by omega)) (by decide)) (by simp only [hz2]; exact growslice_fits (by omega) (Nat.le_trans (Nat.mul_le_mul_right 48 (show n1 + (n2 + 1) ≤ 1000001 by omega)) (by decide)))
      generalize hGG : grownCap w (n1 + (n2 + 1)) (n1 + n2) 63 = G at *
      obtain ⟨Y, hY⟩ : ∃ Y : List Value, Y.toArray = cs1.toArray ++ Builtin.zeroCells ((.agg #[.string ⟨#[]⟩, .string ⟨#[]⟩, .string ⟨#[]⟩]) : Value).cells (n2 + 1) ++ Builtin.zeroCells ((.agg #[.string ⟨#[]⟩, .string ⟨#[]⟩, .string ⟨#[]⟩]) : Value).cells (G - (n1 + (n2 + 1))) := ⟨_, Array.toArray_toList⟩
      rw [← hY] at hrz
      have hYl : Y.length = G * 3 := by
        have := congrArg Array.size hY
        rw [List.size_toArray, Array.size_append, Array.size_append] at this
        simp only [Builtin.zeroCells, Array.size_map, Array.size_range, List.size_toArray, Value.cells] at this
        rw [this, h1]
        simp
        try omega
      have hYt : Y.take cs1.length = cs1 := by
        have := congrArg Array.toList hY
        simp only [Array.toList_append] at this
        rw [this, List.append_assoc, List.take_left]
      generalize hW1 : (w.drew.alloc (.cells Y.toArray 63)) = W1 at hrz
      have hb1 : W1.heap[w.heap.size]? = some (.cells Y.toArray 63) := by rw [← hW1]; exact block_alloc_at w.drew _
      have hbl : Below w.heap.size w W1 := by rw [← hW1]; exact ((Below.refl _ w).drew).alloc (Nat.le_refl _) _
      have hv2 := (hbl.block vb hvw).trans hv
      have HV2 : ∀ j u, cx[j]? = some u → W1.cell? ((⟨vb, 0, none⟩ : Addr).add j) = some u := fun j u hj => by rw [Addr.add_lit, Nat.zero_add]; exact cell_of_block hv2 (by simpa using hj)
      have hm3 : cx.length = Nat.min 1 (n1 + (n2 + 1) - n1) * 3 := by simp only [Nat.min_def]; split <;> omega
      obtain ⟨w3, hrun3, hX3, hg3⟩ := run_copy_ex (P := Try.prog) (w := W1) 23 23 63 3 Try.underlying23 size_Idx w.heap.size (n1 * 3) (n1 + (n2 + 1) - n1) (G - n1) ⟨vb, 0, none⟩ 1 1 _ 63 hb1 cx hm3 HV2 (by omega) onex
      have hL3 : (splice Y (n1 * 3) cx).length = Y.length := length_splice _ _ _ (by omega)
      have hXg : w3.heap[g]? = some (.cells X.toArray 63) := ((hg3.block g (Nat.lt_of_lt_of_le hgw hbl.size) (fun e => by cases e; omega)).trans (hbl.block g hgw)).trans hX
      have hm4 : cs2.length = Nat.min (n1 + n2 - n1) (n1 + (n2 + 1) - (n1 + 1)) * 3 := by simp only [Nat.min_def]; split <;> omega
      have HEND : Hid _ := ins_grow Y cs1 cs2 cx hYt (by omega)
      have hw1 : IntKind.i64.wrap ((n1 : Int) + 1) = (n1 : Int) + 1 := by rw [IntKind.wrap_i64]; omega
      have hbb1 : (0 : Int) ≤ (n1 : Int) + 1 := by omega
      have htn : ((n1 : Int) + 1).toNat = n1 + 1 := by omega
      have s1 : ((n1 + n2 : Nat) : Int) < ((n1 + n2 : Nat) : Int) + 1 := by omega
      have s2 : ¬ (G = n1) := by omega
      have s3 : ¬ (G = n1 + 1) := by omega
      have s4 : (n1 : Int) ≤ ((n1 + (n2 + 1) : Nat) : Int) := by omega
      have s5 : (n1 : Int) + 1 ≤ ((n1 + (n2 + 1) : Nat) : Int) := by omega
      have hfit4 : (n1 + 1) * 3 + cs2.length ≤ (splice Y (n1 * 3) cx).length := by omega
      have HS2 : Hid _ := hsrc2
      have HM4 : Hid _ := hm4
      have HF4 : Hid _ := hfit4
      have HX3 : Hid _ := hX3
      have hnn : Hid (n1 + (n2 + 1) = n1 + n2 + 1) := (by omega : _ = _)
      have hG1 : Hid (n1 + n2 + 1 ≤ G) := (by omega : _ ≤ _)
      have HYL : Hid _ := hL3.trans hYl
      clear hm3 hm4 hfit4 hsrc2 hX3 hXt hYt hold ho hW1 hY hL3 hYl hGe
      generalize hn1 : n1 + (n2 + 1) = N1 at *
      generalize hn0 : n1 + n2 = n at *
      have HN0 : Hid _ := hn0
      have HN1 : Hid _ := hn1
      clear hn0 hn1 hkk
      go_enter Try.func51, Try.ntmps51
      go_wp2_with (at_builtin; refine Lib.wpList_append_run _ rfl _ _ _ _ rfl _ _ rfl rfl _ _ (hrz _) ?_)
      go_region_law (refine step_copy_k (by rfl) _ _ 23 23 (by rfl) 63 3 Try.underlying23 size_Idx w.heap.size ((n1 + 1) * 3) (N1 - (n1 + 1)) (G - (n1 + 1)) ⟨g, n1 * 3, none⟩ (n - n1) (n - n1) (by simp [Act.eval, Act.put]) (by simp [Act.eval, Act.put]) _ 63 (by exact HX3.out) cs2 HM4.out (fun j u hj => by rw [Addr.add_lit]; exact cell_of_block (w := w3) hXg (by have := HS2.out j u hj; simpa using this)) HF4.out one1 ?_; intro w4 hX4 hg4)
      have HX4 : Hid _ := hX4
      clear hX4
      go_wp2
      go_ret
      have hgg : W1.grownBy w4 (some w.heap.size) := gr_trans hg3 (gr_trans (gr_below _ ((Below.refl _ w3).drew)) hg4)
      have hbb : Below w.heap.size w w4 := hbl.trans (below_gr hgg (Nat.le_refl _) hbl.size)
      refine ⟨_, rfl, ?_, hbb.mono hB⟩
      have e1 := HEND.out
      rw [h1, hx, h2] at e1
      rw [show n1 * 3 + 3 = (n1 + 1) * 3 by omega] at e1
      have hN : N1 = n + 1 := by have a1 := HN0.out; have a2 := HN1.out; omega
      subst hN
      refine owns_mk hB HX4.out hG1.out hG ?_ ?_
      · rw [length_splice _ _ _ HF4.out]; exact HYL.out
      · rw [← e1, show n1 * 3 + (3 + n2 * 3) = (n + 1) * 3 by have := HN0.out; omega]

end Go.Proofs.Ytabanbpnghidhaa

namespace Go.Proofs.Ytabanbpnghidhaa

/-- Is a key ahead of another one? -/
def klt (a b : ByteArray) : Bool := Op.bytesLess a.toList b.toList

theorem klt_iff (a b : ByteArray) : klt a b = true ↔ a.data.toList < b.data.toList := by
  unfold klt
  rw [Go.Proofs.bytesLess_eq, Lib.toList_data, Lib.toList_data]
  exact decide_eq_true_iff

theorem klt_irrefl (a : ByteArray) : klt a a = false := by
  cases h : klt a a with
  | false => rfl
  | true => exact absurd ((klt_iff a a).1 h) (List.lt_irrefl _)

theorem klt_trans {a b c : ByteArray} (h : klt a b = true) (k : klt b c = true) : klt a c = true :=
  (klt_iff _ _).2 (List.lt_trans ((klt_iff _ _).1 h) ((klt_iff _ _).1 k))

theorem klt_asymm {a b : ByteArray} (h : klt a b = true) : klt b a = false := by
  cases k : klt b a with
  | false => rfl
  | true => have := klt_trans h k; rw [klt_irrefl] at this; cases this

theorem bytes_ext {a b : ByteArray} (h : a.data.toList = b.data.toList) : a = b := by
  cases a with
  | mk x => cases b with
    | mk y => exact congrArg ByteArray.mk (Array.toList_inj.1 h)

theorem klt_tri {a b : ByteArray} (h : klt a b = false) : a = b ∨ klt b a = true := by
  by_cases e : a = b
  · exact .inl e
  · right
    have h' : ¬ a.data.toList < b.data.toList := fun k => by rw [(klt_iff a b).2 k] at h; cases h
    rw [klt_iff]
    rcases Decidable.em (b.data.toList < a.data.toList) with g | g
    · exact g
    · exact absurd (bytes_ext (List.le_antisymm (show a.data.toList ≤ b.data.toList from g) h')) e

theorem klt_ne {a b : ByteArray} (h : klt a b = true) : a ≠ b := by
  rintro rfl; rw [klt_irrefl] at h; cases h

/-- x ≤ y < z. -/
theorem klt_of_le_lt {a b c : ByteArray} (h : klt b a = false) (k : klt b c = true) : klt a c = true := by
  rcases klt_tri h with rfl | h
  · exact k
  · exact klt_trans h k

theorem klt_of_lt_le {a b c : ByteArray} (h : klt a b = true) (k : klt c b = false) : klt a c = true := by
  rcases klt_tri k with rfl | k
  · exact h
  · exact klt_trans h k

/-- A page. -/
structure Pg where
  K : List ByteArray
  V : List ByteArray

def pg0 : Pg := ⟨[], []⟩

def Pg.ok (p : Pg) : Prop := 1 ≤ p.K.length ∧ p.K.length ≤ 4 ∧ p.V.length = p.K.length
abbrev Rise (l : List ByteArray) : Prop := l.Pairwise (fun a b => klt a b = true)
def keysT (T : List Pg) : List ByteArray := T.flatMap Pg.K
def flat (T : List Pg) : List (ByteArray × ByteArray) := T.flatMap fun p => p.K.zip p.V
def GoodT (T : List Pg) : Prop := (∀ p ∈ T, p.ok) ∧ Rise (keysT T)

theorem keysT_cons (p : Pg) (T : List Pg) : keysT (p :: T) = p.K ++ keysT T := by simp [keysT]
theorem keysT_append (A B : List Pg) : keysT (A ++ B) = keysT A ++ keysT B := by simp [keysT]
theorem flat_cons (p : Pg) (T : List Pg) : flat (p :: T) = p.K.zip p.V ++ flat T := by simp [flat]
theorem flat_append (A B : List Pg) : flat (A ++ B) = flat A ++ flat B := by simp [flat]
theorem flat_nil : flat [] = [] := rfl

theorem zip_keys {K V : List ByteArray} (h : V.length = K.length) : (K.zip V).map Prod.fst = K := by
  rw [List.map_fst_zip (by omega)]

theorem keys_flat : ∀ {T : List Pg}, (∀ p ∈ T, p.ok) → (flat T).map Prod.fst = keysT T
  | [], _ => rfl
  | p :: T, h => by
    rw [flat_cons, keysT_cons, List.map_append, zip_keys (h p (by simp)).2.2, keys_flat fun q hq => h q (by simp [hq])]

theorem length_flat : ∀ {T : List Pg}, (∀ p ∈ T, p.ok) → (flat T).length = (keysT T).length := by
  intro T h
  rw [← keys_flat h, List.length_map]

theorem length_keys : ∀ {T : List Pg}, (∀ p ∈ T, p.ok) → (keysT T).length ≤ 4 * T.length
  | [], _ => by simp [keysT]
  | p :: T, h => by
    have := length_keys fun q hq => h q (List.mem_cons_of_mem _ hq)
    have := (h p (by simp)).2.1
    rw [keysT_cons, List.length_append, List.length_cons]
    omega

/-- What stands at a key: F is F1, perhaps the key, and F2. -/
structure Cut (F : List (ByteArray × ByteArray)) (k : ByteArray) (F1 : List (ByteArray × ByteArray)) (o : Option ByteArray) (F2 : List (ByteArray × ByteArray)) : Prop where
  eq : F = F1 ++ ((o.toList.map fun v => (k, v)) ++ F2)
  lo : ∀ x ∈ F1, klt x.1 k = true
  hi : ∀ x ∈ F2, klt k x.1 = true

def getF (F : List (ByteArray × ByteArray)) (k : ByteArray) : Option ByteArray := (F.find? fun x => decide (x.1 = k)).map Prod.snd
def putF (F : List (ByteArray × ByteArray)) (k v : ByteArray) : List (ByteArray × ByteArray) := (F.filter fun x => klt x.1 k) ++ (k, v) :: (F.filter fun x => klt k x.1)
def dropF (F : List (ByteArray × ByteArray)) (k : ByteArray) : List (ByteArray × ByteArray) := F.filter fun x => decide (x.1 ≠ k)

theorem filter_all {α : Type} {p : α → Bool} {l : List α} (h : ∀ x ∈ l, p x = true) : l.filter p = l := List.filter_eq_self.2 h
theorem filter_none {α : Type} {p : α → Bool} {l : List α} (h : ∀ x ∈ l, p x = false) : l.filter p = [] := by
  rw [List.filter_eq_nil_iff]; intro x hx; rw [h x hx]; simp

theorem Cut.get {F k F1 o F2} (c : Cut F k F1 o F2) : getF F k = o := by
  have h1 : F1.find? (fun x => decide (x.1 = k)) = none := by
    rw [List.find?_eq_none]; intro x hx; simpa using klt_ne (c.lo x hx)
  have h2 : F2.find? (fun x => decide (x.1 = k)) = none := by
    rw [List.find?_eq_none]; intro x hx; simpa using (klt_ne (c.hi x hx)).symm
  unfold getF
  rw [c.eq, List.find?_append, h1]
  cases o with
  | none => simp [h2]
  | some v => simp

theorem Cut.put {F k F1 o F2} (c : Cut F k F1 o F2) (v : ByteArray) : putF F k v = F1 ++ (k, v) :: F2 := by
  unfold putF
  rw [c.eq, List.filter_append, List.filter_append, List.filter_append, List.filter_append, filter_all c.lo, filter_none (l := F2) fun x hx => klt_asymm (c.hi x hx),
    filter_none (l := F1) fun x hx => klt_asymm (c.lo x hx), filter_all c.hi]
  have : ∀ q : (ByteArray × ByteArray) → Bool, (∀ v, q (k, v) = false) → (o.toList.map fun v => (k, v)).filter q = [] := by
    intro q hq; apply filter_none; intro x hx; simp at hx; obtain ⟨v, _, rfl⟩ := hx; exact hq v
  rw [this _ fun v => klt_irrefl k, this _ fun v => klt_irrefl k]
  simp

theorem Cut.drop {F k F1 o F2} (c : Cut F k F1 o F2) : dropF F k = F1 ++ F2 := by
  unfold dropF
  rw [c.eq, List.filter_append, List.filter_append, filter_all fun x hx => by simpa using klt_ne (c.lo x hx), filter_all (l := F2) fun x hx => by simpa using (klt_ne (c.hi x hx)).symm]
  have : (o.toList.map fun v => (k, v)).filter (fun x => decide (x.1 ≠ k)) = [] := by
    apply filter_none; intro x hx; simp at hx; obtain ⟨v, _, rfl⟩ := hx; simp
  rw [this]; simp

/-- A list that rises is cut at each key. -/
theorem cut_of_rise (F : List (ByteArray × ByteArray)) (h : Rise (F.map Prod.fst)) (k : ByteArray) : ∃ F1 o F2, Cut F k F1 o F2 := by
  induction F with
  | nil => exact ⟨[], none, [], rfl, by simp, by simp⟩
  | cons x F ih =>
    rw [List.map_cons, Rise, List.pairwise_cons] at h
    by_cases h1 : klt x.1 k = true
    · obtain ⟨F1, o, F2, c⟩ := ih h.2
      exact ⟨x :: F1, o, F2, by rw [c.eq]; rfl, by intro y hy; rcases List.mem_cons.1 hy with rfl | hy; exact h1; exact c.lo y hy, c.hi⟩
    · have hall : ∀ y ∈ F, klt x.1 y.1 = true := fun y hy => h.1 _ (List.mem_map.2 ⟨y, hy, rfl⟩)
      rcases klt_tri (by simpa using h1) with e | h2
      · exact ⟨[], some x.2, F, by rw [← e]; simp, by simp, fun y hy => by rw [← e]; exact hall y hy⟩
      · exact ⟨[], none, x :: F, by simp, by simp, fun y hy => by
          rcases List.mem_cons.1 hy with rfl | hy
          · exact h2
          · exact klt_trans h2 (hall y hy)⟩

theorem rise_append {A B : List ByteArray} : Rise (A ++ B) ↔ Rise A ∧ Rise B ∧ ∀ a ∈ A, ∀ b ∈ B, klt a b = true := List.pairwise_append

theorem Cut.rise_put {F k F1 o F2} (c : Cut F k F1 o F2) (h : Rise (F.map Prod.fst)) (v : ByteArray) : Rise ((F1 ++ (k, v) :: F2).map Prod.fst) := by
  rw [c.eq] at h
  simp only [List.map_append, List.map_cons] at h ⊢
  rw [rise_append] at h ⊢
  obtain ⟨h1, h2, h3⟩ := h
  rw [rise_append] at h2
  refine ⟨h1, ?_, ?_⟩
  · rw [Rise, List.pairwise_cons]
    refine ⟨?_, h2.2.1⟩
    intro a ha; obtain ⟨x, hx, rfl⟩ := List.mem_map.1 ha; exact c.hi x hx
  · intro a ha b hb
    rcases List.mem_cons.1 hb with rfl | hb
    · obtain ⟨x, hx, rfl⟩ := List.mem_map.1 ha; exact c.lo x hx
    · exact h3 a ha b (by simp at hb ⊢; exact .inr hb)

theorem Cut.rise_drop {F k F1 o F2} (c : Cut F k F1 o F2) (h : Rise (F.map Prod.fst)) : Rise ((F1 ++ F2).map Prod.fst) := by
  refine List.Pairwise.sublist ?_ h
  rw [c.eq]
  exact (List.Sublist.append_left (List.sublist_append_right _ _) F1).map _

/-- What is told of a changed tree, out of its pages and what it has. -/
theorem good_of_flat {T : List Pg} (h : ∀ p ∈ T, p.ok) (k : Rise ((flat T).map Prod.fst)) : GoodT T := ⟨h, by rw [← keys_flat h]; exact k⟩

theorem GoodT.rise {T : List Pg} (h : GoodT T) : Rise ((flat T).map Prod.fst) := by rw [keys_flat h.1]; exact h.2

theorem GoodT.part {A B : List Pg} (h : GoodT (A ++ B)) : GoodT A ∧ GoodT B := by
  obtain ⟨h1, h2⟩ := h
  rw [keysT_append, rise_append] at h2
  exact ⟨⟨fun p hp => h1 p (by simp [hp]), h2.1⟩, ⟨fun p hp => h1 p (by simp [hp]), h2.2.1⟩⟩

/-- A list that rises, parted at a key. -/
theorem split_rise (l : List ByteArray) (h : Rise l) (k : ByteArray) : ∃ a b, l = a ++ b ∧ (∀ x ∈ a, klt x k = true) ∧ (∀ x ∈ b, klt x k = false) := by
  induction l with
  | nil => exact ⟨[], [], rfl, by simp, by simp⟩
  | cons x l ih =>
    rw [Rise, List.pairwise_cons] at h
    cases h1 : klt x k with
    | true =>
      obtain ⟨a, b, rfl, ha, hb⟩ := ih h.2
      exact ⟨x :: a, b, rfl, by intro y hy; rcases List.mem_cons.1 hy with rfl | hy; exact h1; exact ha y hy, hb⟩
    | false =>
      refine ⟨[], x :: l, rfl, by simp, ?_⟩
      intro y hy
      rcases List.mem_cons.1 hy with rfl | hy
      · exact h1
      · cases h2 : klt y k with
        | false => rfl
        | true => have := klt_trans (h.1 y hy) h2; rw [h1] at this; cases this

def lastK (p : Pg) : ByteArray := p.K.getLastD ByteArray.empty

theorem lastK_mem {p : Pg} (h : p.ok) : lastK p ∈ p.K := by
  obtain ⟨h1, _⟩ := h
  unfold lastK
  cases hk : p.K with
  | nil => rw [hk] at h1; simp at h1
  | cons a l => rw [List.getLastD_cons]; exact List.getLastD_mem_cons

/-- The key behind all others of a page. -/
theorem lastK_max {p : Pg} (hr : Rise p.K) {x : ByteArray} (hx : x ∈ p.K) : x = lastK p ∨ klt x (lastK p) = true := by
  obtain ⟨l, hl⟩ : ∃ l, p.K = l ++ [lastK p] := by
    unfold lastK
    cases hk : p.K with
    | nil => rw [hk] at hx; cases hx
    | cons a l => exact ⟨(a :: l).dropLast, by rw [← List.dropLast_concat_getLast (l := a :: l) (by simp)]; simp [List.getLastD_eq_getLast?, List.getLast?_eq_some_getLast]⟩
  rw [hl] at hx hr
  rcases List.mem_append.1 hx with h | h
  · exact .inr ((rise_append.1 hr).2.2 x h _ (by simp))
  · exact .inl (by simpa using h)

/-- Where a key stands, or could be put. -/
def Found (T : List Pg) (k : ByteArray) (pg pl : Nat) (th : Bool) : Prop :=
  (pg = T.length ∧ pl = 0 ∧ th = false ∧ ∀ x ∈ keysT T, klt x k = true) ∨
  ∃ A p B K1 y K3, T = A ++ p :: B ∧ p.K = K1 ++ y :: K3 ∧ pg = A.length ∧ pl = K1.length ∧ (∀ x ∈ keysT A, klt x k = true) ∧ (∀ x ∈ K1, klt x k = true) ∧ klt y k = false ∧ th = decide (y = k)

/-- The pages ahead of a key's. -/
theorem split_pages (T : List Pg) (h : GoodT T) (k : ByteArray) : ∃ A B, T = A ++ B ∧ T.countP (fun p => klt (lastK p) k) = A.length ∧ (∀ x ∈ keysT A, klt x k = true) ∧ (∀ p ∈ B, klt (lastK p) k = false) := by
  induction T with
  | nil => exact ⟨[], [], rfl, rfl, by simp [keysT], by simp⟩
  | cons p T ih =>
    obtain ⟨h1, h2⟩ := h
    rw [keysT_cons, rise_append] at h2
    obtain ⟨A, B, e, hc, ha, hb⟩ := ih ⟨fun q hq => h1 q (by simp [hq]), h2.2.1⟩
    cases hl : klt (lastK p) k with
    | true =>
      refine ⟨p :: A, B, by rw [e]; rfl, by rw [List.countP_cons, hc, hl]; simp, ?_, hb⟩
      intro x hx
      rw [keysT_cons] at hx
      rcases List.mem_append.1 hx with hx | hx
      · rcases lastK_max h2.1 hx with rfl | hx
        · exact hl
        · exact klt_trans hx hl
      · exact ha x hx
    | false =>
      have hall : ∀ q ∈ p :: T, klt (lastK q) k = false := by
        intro q hq
        rcases List.mem_cons.1 hq with rfl | hq
        · exact hl
        · cases h3 : klt (lastK q) k with
          | false => rfl
          | true =>
            have := h2.2.2 (lastK p) (lastK_mem (h1 p (by simp))) (lastK q) (List.mem_flatMap.2 ⟨q, hq, lastK_mem (h1 q (by simp [hq]))⟩)
            have := klt_trans this h3; rw [hl] at this; cases this
      refine ⟨[], p :: T, rfl, ?_, by simp [keysT], hall⟩
      rw [List.countP_eq_zero.2 (fun q hq => by rw [hall q hq]; simp)]; rfl

/-- What Found tells of what the tree has. -/
theorem Found.cut {T k pg pl th} (h : GoodT T) (f : Found T k pg pl th) : ∃ F1 o F2, Cut (flat T) k F1 o F2 ∧ (th = true ↔ o.isSome = true) := by
  obtain ⟨F1, o, F2, c⟩ := cut_of_rise (flat T) h.rise k
  refine ⟨F1, o, F2, c, ?_⟩
  have hk : k ∈ keysT T ↔ o.isSome = true := by
    rw [← keys_flat h.1, c.eq]
    constructor
    · intro hk
      cases o with
      | some v => rfl
      | none =>
        simp at hk
        rcases hk with ⟨x, hx⟩ | ⟨x, hx⟩
        · exact absurd rfl (klt_ne (c.lo _ hx))
        · exact absurd rfl (klt_ne (c.hi _ hx))
    · intro ho
      obtain ⟨v, rfl⟩ := Option.isSome_iff_exists.1 ho
      simp
  rw [← hk]
  rcases f with ⟨_, _, rfl, hlt⟩ | ⟨A, p, B, K1, y, K3, rfl, hp, _, _, hA, hK, hy, rfl⟩
  · constructor
    · intro h; cases h
    · intro h; exact absurd rfl (klt_ne (hlt _ h))
  · have hr := h.2
    rw [keysT_append, keysT_cons, hp] at hr ⊢
    constructor
    · intro h; have := of_decide_eq_true h; subst this; simp
    · intro hm
      refine decide_eq_true ?_
      rcases List.mem_append.1 hm with hm | hm
      · exact absurd rfl (klt_ne (hA _ hm))
      · rw [List.append_assoc] at hm
        rcases List.mem_append.1 hm with hm | hm
        · exact absurd rfl (klt_ne (hK _ hm))
        · rcases List.mem_cons.1 hm with hm | hm
          · exact hm.symm
          · have hr' := (rise_append.1 hr).2.1
            rw [List.append_assoc] at hr'
            have hr2 := (rise_append.1 hr').2.1
            rw [Rise, List.cons_append, List.pairwise_cons] at hr2
            have := hr2.1 k hm
            rw [hy] at this; cases this

end Go.Proofs.Ytabanbpnghidhaa

