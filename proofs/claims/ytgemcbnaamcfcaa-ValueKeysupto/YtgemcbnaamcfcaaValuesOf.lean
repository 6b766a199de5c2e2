/-
  Contract of the statements' own ValuesOf: the document's answer to Values (P1.5). Nothing that was there turns.
-/
import Derived.Test.YtgemcbnaamcfcaaPlain
import Derived.Test.YtgemcbnaamcfcaaMem
import Derived.Test.YtgemcbnaamcfcaaIsValue
import Derived.Test.YtgemcbnaamcfcaaValues
import Derived.Test.YtgemcbnaamcfcaaFirst
import Derived.Test.YtgemcbnaamcfcaaRows
import Derived.WalkKit
import Derived.WalkSpells
import Derived.WalkLawsBesides
import Derived.BigRegion
import Derived.Deep.RegionHeld3
namespace Go.Proofs.Ytgemcbnaamcfcaa
open Go.RowKit

theorem drop_getD (s : ByteArray) (i j : Nat) (h : i + j < s.size) : (s.data.toList.drop i).getD j 0 = s[i + j] := by
  rw [← getD_byte s (i + j) h, List.getD_eq_getElem?_getD, List.getD_eq_getElem?_getD, List.getElem?_drop]

/-- What holds at each round's head. -/
def VoInv (w : World) (s : ByteArray) (i : Nat) (L : List V) (lv : Value) (wr : World) : Prop :=
  i ≤ s.size ∧ L.length ≤ i ∧ vals s.data.toList = (vals (s.data.toList.drop i)).map (L ++ ·) ∧ wr.ownsRow w.heap.size 33 3 lv L.length (vcells L) ∧ Below w.heap.size w wr

theorem voInv_bad {w wr : World} {s : ByteArray} {i : Nat} {L : List V} {lv : Value} (h : VoInv w s i L lv wr) (hi : i < s.size) (hb : (fv (s.data.toList.drop i)).2 = 0 ∨ good (fv (s.data.toList.drop i)).1 = false) : vals s.data.toList = none := by
  rw [h.2.2.1, vals_bad (by intro e; have := congrArg List.length e; rw [List.length_drop, size_toList] at this; simp at this; omega) hb]; rfl

theorem voInv_step {w wr w2 : World} {s : ByteArray} {i z : Nat} {L : List V} {lv lv2 : Value} {v : V} (h : VoInv w s i L lv wr) (hi : i < s.size) (hf : fv (s.data.toList.drop i) = (v, z)) (hz : z ≠ 0) (hg : good v = true)
    (ho : w2.ownsRow w.heap.size 33 3 lv2 (L.length + 1) (vcells L ++ v.cells)) (hb : Below w.heap.size w w2) : VoInv w s (i + z) (L ++ [v]) lv2 w2 := by
  have hne : s.data.toList.drop i ≠ [] := by intro e; have := congrArg List.length e; rw [List.length_drop, size_toList] at this; simp at this; omega
  have hle := fv_le _ hne
  rw [hf, List.length_drop, size_toList] at hle
  simp only at hle
  refine ⟨by omega, by have := h.2.1; rw [List.length_append]; simp; omega, ?_, by rw [vcells_snoc, List.length_append]; exact ho, hb⟩
  have h2 := vals_step hne (by rw [hf]; exact hz) (by rw [hf]; exact hg)
  rw [hf, List.drop_drop] at h2
  simp only at h2
  rw [h.2.2.1, h2]
  cases vals (s.data.toList.drop (i + z)) <;> simp

set_option maxRecDepth 100000 in
set_option maxHeartbeats 8000000 in
theorem valuesOf_any (s : ByteArray) (w : World) (hs : s.size ≤ 1048576) :
    Calls Try.prog 10 #[.string s] w fun e w' => ValuesSays w.heap.size s.data.toList e w' ∧ Below w.heap.size w w' := by
  obtain ⟨i0, hi, hz0, hz1, hz2⟩ := info_parts info_value
  go_enter Try.func10, Try.ntmps10
  go_wp2
  go_loopw [4, 5] (fun lv iv wr => ∃ (i : Nat) (L : List V), iv = .int .i64 i ∧ VoInv w s i L lv wr) (fun _ iv _ => s.size - (intOf iv).toNat)
  case atStart => exact ⟨0, [], rfl, Nat.zero_le _, Nat.le_refl _, by simp, World.ownsRow_nil _ _ _ _, Below.refl _ _⟩
  case round =>
    obtain ⟨i, L, rfl, hinv⟩ := hrel
    have hile := hinv.1
    have hown := hinv.2.2.2.1
    have hbel := hinv.2.2.2.2
    have hsz := hbel.size
    have hLi := hinv.2.1
    by_cases hlt : i < s.size
    · have hb0 : s[i].toNat < 256 := s[i].toNat_lt
      have g0 : (s.data.toList.drop i).getD 0 0 = s[i] := drop_getD s i 0 (by omega)
      have G0 : Hid ((s.data.toList.drop i).getD 0 0 = s[i]) := g0
      clear g0
      have q1 : s[i] = 1 ↔ s[i].toNat = 1 := byte_eq s[i] 1 (by omega)
      have q2 : s[i] = 2 ↔ s[i].toNat = 2 := byte_eq s[i] 2 (by omega)
      have q3 : s[i] = 3 ↔ s[i].toNat = 3 := byte_eq s[i] 3 (by omega)
      have hdl : (s.data.toList.drop i).length = s.size - i := by rw [List.length_drop, size_toList]
      by_cases h1 : s[i].toNat = 1
      · have HF : Hid (fv (s.data.toList.drop i) = (⟨0, 0, ⟨#[]⟩⟩, 1)) := by
          show _ = _; unfold fv; rw [G0.out, if_pos (q1.2 h1)]; rfl
        have e1 : (s[i].toNat : Int) = 1 := by omega
        have hgd : good ⟨0, 0, ⟨#[]⟩⟩ = true := rfl
        have hiv := fun w => isValue_any ⟨0, 0, ⟨#[]⟩⟩ w (Nat.zero_le _)
        rw [hgd] at hiv
        clear q1 q2 q3 hdl
        go_wp2_with (first | (go_at_call 21; go_must (refine (hiv _).mono ?_; rintro e w1 ⟨rfl, hb1⟩; obtain ⟨hcc, hff⟩ := bcell hb1)) | (at_builtin; go_must (refine wpList_append_own _ rfl (.tmp 92) (.tmp 94) 22 rfl w.heap.size 33 i0 (.agg #[.int .i64 0, .int .i64 0, .string ⟨#[]⟩]) 3 32 Try.underlying22 hi hz0 hz1 hz2 rfl (by decide) _ _ _ rfl ((ownsRow_below (hown.alloc _) hb1).alloc _) ⟨w1.heap.size, 0, none⟩ 1 1 [.int .i64 0, .int .i64 0, .string ⟨#[]⟩] rfl rfl ?_ ?_ ?_ ?_ ?_ ?_)))
        · have N := cells_new w1 [.int .i64 0, .int .i64 0, .string ⟨#[]⟩] 33
          exact N
        · intro u hu; simp at hu; rcases hu with rfl | rfl | rfl <;> rfl
        · show L.length + 1 ≤ 2 ^ 63 - 1; omega
        · omega
        · have := hb1.size; simp at this ⊢; omega
        · intro lv1 w2 hown2 hg2 _
          have hs1 := hb1.size
          have Hown := (ownsRow_below (hown.alloc (Obj.cells #[Value.int IntKind.i64 0, Value.int IntKind.i64 0, Value.string ⟨#[]⟩] 33)) hb1).alloc (Obj.cells #[Value.int IntKind.i64 0, Value.int IntKind.i64 0, Value.string ⟨#[]⟩] 33)
          have hb2 : Below w.heap.size w w2 := ((bthen (hbel.alloc hsz _) hb1).alloc (by simp at hs1; omega) _).trans (below_append Hown (by simp at hs1 ⊢; omega) hg2)
          have hst : Hid (VoInv w s (i + 1) (L ++ [⟨0, 0, ⟨#[]⟩⟩]) lv1 w2) := voInv_step hinv hlt HF.out (by omega) hgd hown2 hb2
          clear Hown hown2 hg2 hown hbel hb1 hb2 hiv hinv hcc hff hs1 hgd
          go_wp2
          go_roundw
          case rel => exact ⟨i + 1, _, by go_num, hst.out⟩
          case measure => have := hst.out.1; simp [intOf]; omega
      have n1 : ¬ s[i] = 1 := fun h => h1 (q1.1 h)
      by_cases h2 : s[i].toNat = 2
      · have e2 : (s[i].toNat : Int) = 2 := by omega
        by_cases h5 : 5 ≤ s.size - i
        · have HF0 : fv (s.data.toList.drop i) = (⟨1, n4 (s.data.toList.drop i) - 1073741824, ⟨#[]⟩⟩, 5) := by
            unfold fv; rw [G0.out, if_neg n1, if_pos (q2.2 h2), if_neg (by rw [hdl]; omega)]
          have d5 : (5 : Int) ≤ (s.size : Int) - (i : Int) := by omega
          have y1 : i + 1 < s.size := by omega
          have y2 : i + 2 < s.size := by omega
          have y3 : i + 3 < s.size := by omega
          have y4 : i + 4 < s.size := by omega
          have x1 : (i : Int) + 1 < (s.size : Int) := by omega
          have x2 : (i : Int) + 2 < (s.size : Int) := by omega
          have x3 : (i : Int) + 3 < (s.size : Int) := by omega
          have x4 : (i : Int) + 4 < (s.size : Int) := by omega
          have z1 : (0 : Int) ≤ (i : Int) + 1 := by omega
          have z2 : (0 : Int) ≤ (i : Int) + 2 := by omega
          have z3 : (0 : Int) ≤ (i : Int) + 3 := by omega
          have z4 : (0 : Int) ≤ (i : Int) + 4 := by omega
          have t1 : ((i : Int) + 1).toNat = i + 1 := by omega
          have t2 : ((i : Int) + 2).toNat = i + 2 := by omega
          have t3 : ((i : Int) + 3).toNat = i + 3 := by omega
          have t4 : ((i : Int) + 4).toNat = i + 4 := by omega
          have b1 : s[i + 1].toNat < 256 := s[i + 1].toNat_lt
          have b2 : s[i + 2].toNat < 256 := s[i + 2].toNat_lt
          have b3 : s[i + 3].toNat < 256 := s[i + 3].toNat_lt
          have b4 : s[i + 4].toNat < 256 := s[i + 4].toNat_lt
          have hn : (16777216 : Int) * (s[i + 1].toNat : Int) + (65536 : Int) * (s[i + 2].toNat : Int) + (256 : Int) * (s[i + 3].toNat : Int) + (s[i + 4].toNat : Int) = n4 (s.data.toList.drop i) := by
            unfold n4; rw [drop_getD s i 1 y1, drop_getD s i 2 y2, drop_getD s i 3 y3, drop_getD s i 4 y4]; omega
          have hm0 : 0 ≤ n4 (s.data.toList.drop i) := by omega
          have hm1 : n4 (s.data.toList.drop i) < 4294967296 := by omega
          generalize n4 (s.data.toList.drop i) = m at HF0 hn hm0 hm1
          have HF : Hid (fv (s.data.toList.drop i) = (⟨1, m - 1073741824, ⟨#[]⟩⟩, 5)) := HF0
          clear HF0 q1 q2 q3 hdl n1 h1
          have hiv := fun w => isValue_any ⟨1, m - 1073741824, ⟨#[]⟩⟩ w (Nat.zero_le _)
          cases hgd : good ⟨1, m - 1073741824, ⟨#[]⟩⟩
          · rw [hgd] at hiv
            have HN : Hid (vals s.data.toList = none) := voInv_bad hinv hlt (by rw [HF.out]; exact .inr hgd)
            go_wp2_with fail
            go_region
            go_wp2_with (go_at_call 21; go_must (refine (hiv _).mono ?_; rintro e w1 ⟨rfl, hb1⟩; obtain ⟨hcc, hff⟩ := bcell hb1))
            go_ret2
            refine ⟨by unfold ValuesSays; rw [HN.out]; rfl, bthen (hbel.alloc hsz _).drew hb1⟩
          · rw [hgd] at hiv
            go_wp2_with fail
            go_region
            go_wp2_with (first | (go_at_call 21; go_must (refine (hiv _).mono ?_; rintro e w1 ⟨rfl, hb1⟩; obtain ⟨hcc, hff⟩ := bcell hb1)) | (at_builtin; go_must (refine wpList_append_own _ rfl (.tmp 92) (.tmp 94) 22 rfl w.heap.size 33 i0 (.agg #[.int .i64 0, .int .i64 0, .string ⟨#[]⟩]) 3 32 Try.underlying22 hi hz0 hz1 hz2 rfl (by decide) _ _ _ rfl ((ownsRow_below (hown.alloc _).drew hb1).alloc _) ⟨w1.heap.size, 0, none⟩ 1 1 [.int .i64 1, .int .i64 (m - 1073741824), .string ⟨#[]⟩] rfl rfl ?_ ?_ ?_ ?_ ?_ ?_)))
            · have N := cells_new w1 [.int .i64 1, .int .i64 (m - 1073741824), .string ⟨#[]⟩] 33
              exact N
            · intro u hu; simp at hu; rcases hu with rfl | rfl | rfl <;> rfl
            · show L.length + 1 ≤ 2 ^ 63 - 1; omega
            · omega
            · have := hb1.size; simp at this ⊢; omega
            · intro lv1 w2 hown2 hg2 _
              have hs1 := hb1.size
              have Hown := (ownsRow_below (hown.alloc (Obj.cells #[Value.int IntKind.i64 1, Value.int IntKind.i64 (m - 1073741824), Value.string ⟨#[]⟩] 33)).drew hb1).alloc (Obj.cells #[Value.int IntKind.i64 1, Value.int IntKind.i64 (m - 1073741824), Value.string ⟨#[]⟩] 33)
              have hb2 : Below w.heap.size w w2 := ((bthen (hbel.alloc hsz _).drew hb1).alloc (by simp at hs1; omega) _).trans (below_append Hown (by simp at hs1 ⊢; omega) hg2)
              have hst : Hid (VoInv w s (i + 5) (L ++ [⟨1, (m - 1073741824), ⟨#[]⟩⟩]) lv1 w2) := voInv_step hinv hlt HF.out (by omega) hgd hown2 hb2
              clear Hown hown2 hg2 hown hbel hb1 hb2 hiv hinv hcc hff hs1 hgd
              go_wp2
              go_roundw
              case rel => exact ⟨i + 5, _, by go_num, hst.out⟩
              case measure => have := hst.out.1; simp [intOf]; omega
        · have HN : Hid (vals s.data.toList = none) := voInv_bad hinv hlt (by left; unfold fv; rw [G0.out, if_neg n1, if_pos (q2.2 h2), if_pos (by rw [hdl]; omega)])
          have d5 : (s.size : Int) - (i : Int) < 5 := by omega
          clear q1 q2 q3 hdl n1 h1
          go_wp2
          go_ret2
          refine ⟨by unfold ValuesSays; rw [HN.out]; rfl, hbel.alloc hsz _⟩
      have n2 : ¬ s[i] = 2 := fun h => h2 (q2.1 h)
      by_cases h3 : s[i].toNat = 3
      · have e3 : (s[i].toNat : Int) = 3 := by omega
        have hex : (s.extract i s.size).data.toList = s.data.toList.drop i := extract_end s i
        by_cases hq : Lib.indexByte (s.data.toList.drop i) 0 < 0
        · have HN : Hid (vals s.data.toList = none) := voInv_bad hinv hlt (by left; unfold fv; rw [G0.out, if_neg n1, if_neg n2, if_pos (q3.2 h3), if_pos hq])
          obtain ⟨q, hq'⟩ : ∃ q, Lib.indexByte (s.data.toList.drop i) 0 = q := ⟨_, rfl⟩
          rw [hq'] at hq
          have HQ : Hid (Lib.indexByte (s.extract i s.size).data.toList 0 = q) := by show _ = _; rw [hex]; exact hq'
          clear q1 q2 q3 hdl n1 n2 h1 h2 hex hq'
          go_wp2_with (go_at_call 23; go_must (refine (indexByte_any _ _ _).mono ?_; rintro e w' ⟨rfl, rfl⟩; rw [show Lib.indexByte (s.extract i s.size).data.toList (0 : Int).toNat.toUInt8 = q from HQ.out]))
          go_ret2
          refine ⟨by unfold ValuesSays; rw [HN.out]; rfl, hbel.alloc hsz _⟩
        · obtain ⟨p, hp⟩ : ∃ p : Nat, Lib.indexByte (s.data.toList.drop i) 0 = p := ⟨(Lib.indexByte (s.data.toList.drop i) 0).toNat, by omega⟩
          have hsome := (Lib.indexByte_some hp).1
          have hplt : i + p < s.size := by
            have := (List.getElem?_eq_some_iff.1 hsome).1
            rw [hdl] at this; omega
          have hpos : 1 ≤ p := by
            rcases Nat.eq_zero_or_pos p with rfl | h
            · have g := G0.out
              rw [List.getD_eq_getElem?_getD, hsome] at g
              simp at g
              rw [← g] at h3
              simp at h3
            · exact h
          have hxx : s.extract (i + 1) (i + p) = str (((s.data.toList.drop i).drop 1).take (p - 1)) := by
            have := Lib.extract_eq s (i + 1) (i + p)
            rw [this, List.drop_drop, show i + p - (i + 1) = p - 1 from by omega]; rfl
          have HF0 : fv (s.data.toList.drop i) = (⟨2, 0, s.extract (i + 1) (i + p)⟩, p + 1) := by
            unfold fv; rw [G0.out, if_neg n1, if_neg n2, if_pos (q3.2 h3), if_neg hq, hp, hxx]; simp
          have hxs : (s.extract (i + 1) (i + p)).size ≤ maxLen := by simp only [maxLen, ByteArray.size_extract]; omega
          obtain ⟨q, hq'⟩ : ∃ q : Int, (p : Int) = q := ⟨_, rfl⟩
          have HQ : Hid (Lib.indexByte (s.extract i s.size).data.toList 0 = (p : Int)) := by show _ = _; rw [hex]; exact hp
          have HF : Hid (fv (s.data.toList.drop i) = (⟨2, 0, s.extract (i + 1) (i + p)⟩, p + 1)) := HF0
          have hiv := fun w => isValue_any ⟨2, 0, s.extract (i + 1) (i + p)⟩ w hxs
          clear q1 q2 q3 hdl n1 n2 h1 h2 hex hq' hsome hxx HF0 hp hq hxs
          have x1 : (i : Int) + 1 ≤ (i : Int) + (p : Int) := by omega
          have x2 : (i : Int) + (p : Int) ≤ (s.size : Int) := by omega
          cases hgd : good ⟨2, 0, s.extract (i + 1) (i + p)⟩
          · rw [hgd] at hiv
            have HN : Hid (vals s.data.toList = none) := voInv_bad hinv hlt (by rw [HF.out]; exact .inr hgd)
            go_wp2_with (first | (go_at_call 23; go_must (refine (indexByte_any _ _ _).mono ?_; rintro e w' ⟨rfl, rfl⟩; rw [show Lib.indexByte (s.extract i s.size).data.toList (0 : Int).toNat.toUInt8 = (p : Int) from HQ.out])) | (go_at_call 21; go_must (refine (hiv _).mono ?_; rintro e w1 ⟨rfl, hb1⟩; obtain ⟨hcc, hff⟩ := bcell hb1)))
            go_ret2
            refine ⟨by unfold ValuesSays; rw [HN.out]; rfl, bthen (hbel.alloc hsz _) hb1⟩
          · rw [hgd] at hiv
            go_wp2_with (first | (go_at_call 23; go_must (refine (indexByte_any _ _ _).mono ?_; rintro e w' ⟨rfl, rfl⟩; rw [show Lib.indexByte (s.extract i s.size).data.toList (0 : Int).toNat.toUInt8 = (p : Int) from HQ.out])) | (go_at_call 21; go_must (refine (hiv _).mono ?_; rintro e w1 ⟨rfl, hb1⟩; obtain ⟨hcc, hff⟩ := bcell hb1)) | (at_builtin; go_must (refine wpList_append_own _ rfl (.tmp 92) (.tmp 94) 22 rfl w.heap.size 33 i0 (.agg #[.int .i64 0, .int .i64 0, .string ⟨#[]⟩]) 3 32 Try.underlying22 hi hz0 hz1 hz2 rfl (by decide) _ _ _ rfl ((ownsRow_below (hown.alloc _) hb1).alloc _) ⟨w1.heap.size, 0, none⟩ 1 1 [.int .i64 2, .int .i64 0, .string (s.extract (i + 1) (i + p))] rfl rfl ?_ ?_ ?_ ?_ ?_ ?_)))
            · have N := cells_new w1 [.int .i64 2, .int .i64 0, .string (s.extract (i + 1) (i + p))] 33
              exact N
            · intro u hu; simp at hu; rcases hu with rfl | rfl | rfl <;> rfl
            · show L.length + 1 ≤ 2 ^ 63 - 1; omega
            · omega
            · have := hb1.size; simp at this ⊢; omega
            · intro lv1 w2 hown2 hg2 _
              have hs1 := hb1.size
              have Hown := (ownsRow_below (hown.alloc (Obj.cells #[Value.int IntKind.i64 2, Value.int IntKind.i64 0, Value.string (s.extract (i + 1) (i + p))] 33)) hb1).alloc (Obj.cells #[Value.int IntKind.i64 2, Value.int IntKind.i64 0, Value.string (s.extract (i + 1) (i + p))] 33)
              have hb2 : Below w.heap.size w w2 := ((bthen (hbel.alloc hsz _) hb1).alloc (by simp at hs1; omega) _).trans (below_append Hown (by simp at hs1 ⊢; omega) hg2)
              have hst : Hid (VoInv w s (i + (p + 1)) (L ++ [⟨2, 0, (s.extract (i + 1) (i + p))⟩]) lv1 w2) := voInv_step hinv hlt HF.out (by omega) hgd hown2 hb2
              clear Hown hown2 hg2 hown hbel hb1 hb2 hiv hinv hcc hff hs1 hgd
              go_wp2
              go_roundw
              case rel => exact ⟨i + (p + 1), _, by go_num, hst.out⟩
              case measure => have := hst.out.1; simp [intOf]; omega
      have n3 : ¬ s[i] = 3 := fun h => h3 (q3.1 h)
      have HN : Hid (vals s.data.toList = none) := voInv_bad hinv hlt (by left; unfold fv; rw [G0.out, if_neg n1, if_neg n2, if_neg n3])
      clear q1 q2 q3 hdl n1 n2 n3
      go_wp2
      go_ret2
      refine ⟨by unfold ValuesSays; rw [HN.out]; rfl, hbel.alloc hsz _⟩
    · have e : i = s.size := by omega
      have hv := hinv.2.2.1
      have hnil : s.data.toList.drop i = [] := List.drop_of_length_le (by rw [size_toList]; omega)
      rw [hnil, vals_nil] at hv
      have HL : Hid (vals s.data.toList = some L) := by show _ = _; rw [hv]; simp
      clear hv hnil e
      go_wp2
      go_ret2
      refine ⟨?_, hbel⟩
      unfold ValuesSays
      rw [HL.out]
      exact ⟨_, rfl, hown⟩

end Go.Proofs.Ytgemcbnaamcfcaa
