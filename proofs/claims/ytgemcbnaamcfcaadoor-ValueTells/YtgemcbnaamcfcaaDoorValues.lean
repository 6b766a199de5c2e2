/-
  Contract of value.Values: of a text that is a key the good values whose key it is, and no error; of another one nothing, and ErrForm (P1.5). Nothing that was there turns.
-/
import Derived.Test.YtgemcbnaamcfcaaDoorPlain
import Derived.Test.YtgemcbnaamcfcaaDoorMem
import Derived.Test.YtgemcbnaamcfcaaDoorGood
import Derived.Test.YtgemcbnaamcfcaaDoorFirst
import Derived.Test.YtgemcbnaamcfcaaDoorRows
import Derived.WalkKit
import Derived.WalkSpells
import Derived.WalkLawsBesides
namespace Go.Proofs.YtgemcbnaamcfcaaDoor
open Go.RowKit

theorem info_value : (Tryd.prog.info? 23).map (fun i => (i.zero, i.size, i.bytes)) = some (some (.agg #[.int .i64 0, .int .i64 0, .string ⟨#[]⟩]), 3, 32) := by kernel_rfl

/-- Values as cells. -/
def vcells (L : List V) : List Value := L.flatMap V.cells
theorem vcells_snoc (L : List V) (v : V) : vcells (L ++ [v]) = vcells L ++ v.cells := by simp [vcells]

/-- What Values answers: a slice of the call's own that has the values, and no error; or nil and ErrForm. -/
def ValuesSays (base : Nat) (l : List UInt8) (e : Ending) (w' : World) : Prop :=
  match vals l with
  | some L => ∃ lv, e = .returned (.tuple #[lv, .int .i64 0]) ∧ w'.ownsRow base 23 3 lv L.length (vcells L)
  | none => e = .returned (.tuple #[.slice none 0 0, .int .i64 1])

set_option maxHeartbeats 2000000 in
theorem values_any (s : ByteArray) (w : World) (hs : s.size * 32 ≤ 140737488355328) :
    Calls Tryd.prog 21 #[.string s] w fun e w' => ValuesSays w.heap.size s.data.toList e w' ∧ Below w.heap.size w w' := by
  obtain ⟨i0, hi, hz0, hz1, hz2⟩ := info_parts info_value
  go_enter Tryd.func21, Tryd.ntmps21
  go_wp2
  go_loopw [0, 4] (fun sv lv wr => ∃ (t : ByteArray) (L : List V), sv = .string t ∧ L.length + t.size ≤ s.size ∧ vals s.data.toList = (vals t.data.toList).map (L ++ ·) ∧ wr.ownsRow w.heap.size 23 3 lv L.length (vcells L) ∧ Below w.heap.size w wr) (fun sv _ _ => match sv with | .string t => t.size | _ => 0)
  case atStart => exact ⟨s, [], rfl, by simp, by simp, World.ownsRow_nil _ _ _ _, Below.refl _ _⟩
  case round =>
    obtain ⟨t, L, rfl, hlen, hv, hown, hbel⟩ := hrel
    have HV : Hid (vals s.data.toList = (vals t.data.toList).map (L ++ ·)) := hv
    clear hv
    have hsz := hbel.size
    by_cases ht : t.size = 0
    · have hemp : t.toList.isEmpty = true := by rw [empty_iff]; simp [ht]
      have hnil : t.data.toList = [] := by have := size_toList t; rw [ht] at this; exact List.eq_nil_of_length_eq_zero this
      have HL : Hid (vals s.data.toList = some L) := by show vals s.data.toList = some L; have := HV.out; rw [hnil, vals_nil] at this; simpa using this
      clear hnil ht
      go_wp2
      go_ret2
      refine ⟨?_, hbel⟩
      unfold ValuesSays
      rw [HL.out]
      exact ⟨_, rfl, hown⟩
    · have hpos : 0 < t.size := by omega
      have hmax : t.size ≤ maxLen := by simp only [maxLen]; omega
      have hne : t.data.toList ≠ [] := by intro h; have := size_toList t; rw [h] at this; simp at this; omega
      have hle := fv_le t.data.toList hne
      rw [size_toList] at hle
      have hemp : t.toList.isEmpty = false := by rw [empty_iff]; exact decide_eq_false ht
      have hfv0 := fun w => firstValue_any t w hmax hpos
      obtain ⟨⟨k, n, x⟩, z, hvz⟩ : ∃ v z, fv t.data.toList = (v, z) := ⟨_, _, rfl⟩
      rw [hvz] at hle hfv0
      simp only at hle
      have hfv : ∀ w : World, Calls Tryd.prog 26 #[.string t] w fun e w' => e = .returned (.tuple #[.agg #[.int .i64 k, .int .i64 n, .string x], .int .i64 (z : Int)]) ∧ Below w.heap.size w w' := hfv0
      clear hfv0
      have HVZ : Hid (fv t.data.toList = (⟨k, n, x⟩, z)) := hvz
      have HNE : Hid (t.data.toList ≠ []) := hne
      have hx : x.size ≤ maxLen := by
        have := fv_text_le t.data.toList
        rw [hvz, size_toList] at this
        exact Nat.le_trans this hmax
      clear hvz hne
      unfold maxLen at hmax
      have hgood := fun w => good_any ⟨k, n, x⟩ w hx
      by_cases hz : z = 0
      · subst hz
        have HN : Hid (vals s.data.toList = none) := by show vals s.data.toList = none; have := HV.out; rw [vals_bad HNE.out (by rw [HVZ.out]; exact .inl rfl)] at this; simpa using this
        go_wp2_with (go_at_call 26; go_must (refine (hfv _).mono ?_; rintro e w1 ⟨rfl, hb1⟩))
        go_ret2
        have hs1 := hb1.size
        refine ⟨by unfold ValuesSays; rw [HN.out]; rfl, (hbel.trans (hb1.mono hsz)).alloc (by omega) _⟩
      · have hzz : (z : Int) ≠ 0 := by omega
        cases hg : good ⟨k, n, x⟩
        · have HN : Hid (vals s.data.toList = none) := by show vals s.data.toList = none; have := HV.out; rw [vals_bad HNE.out (by rw [HVZ.out]; exact .inr hg)] at this; simpa using this
          rw [hg] at hgood
          have hd : ((z : Int) == 0) = false := by simp; omega
          go_wp2_with (first | (go_at_call 26; go_must (refine (hfv _).mono ?_; rintro e w1 ⟨rfl, hb1⟩)) | (go_at_call 4; go_must (refine (hgood _).mono ?_; rintro e w2 ⟨rfl, rfl⟩)))
          go_ret2
          have hs1 := hb1.size
          refine ⟨by unfold ValuesSays; rw [HN.out]; rfl, ((hbel.trans (hb1.mono hsz)).alloc (by omega) _).alloc (by simp; omega) _⟩
        · have HS : Hid (vals s.data.toList = (vals (t.extract z t.size).data.toList).map ((L ++ [⟨k, n, x⟩]) ++ ·)) := by
            have h1 := HV.out
            have h2 := vals_step HNE.out (by rw [HVZ.out]; exact hz) (by rw [HVZ.out]; exact hg)
            rw [HVZ.out] at h2
            rw [h2] at h1
            show _ = _
            rw [h1, extract_end]
            cases vals (t.data.toList.drop z) <;> simp
          rw [hg] at hgood
          have hd : ((z : Int) == 0) = false := by simp; omega
          go_wp2_with (first | (go_at_call 26; go_must (refine (hfv _).mono ?_; rintro e w1 ⟨rfl, hb1⟩)) | (go_at_call 4; go_must (refine (hgood _).mono ?_; rintro e w2 ⟨rfl, rfl⟩)) | (at_builtin; go_must (refine wpList_append_own _ rfl (.tmp 21) (.tmp 23) 38 rfl w.heap.size 23 i0 (.agg #[.int .i64 0, .int .i64 0, .string ⟨#[]⟩]) 3 32 Tryd.underlying38 hi hz0 hz1 hz2 rfl (by decide) _ _ _ rfl ((((ownsRow_below hown hb1).alloc _).alloc _).alloc _) ⟨w1.heap.size + 1 + 1, 0, none⟩ 1 1 [.int .i64 k, .int .i64 n, .string x] rfl rfl ?_ ?_ ?_ ?_ ?_ ?_)))
          · have N := cells_new ((w1.alloc (Obj.cells #[Value.int IntKind.i64 k, Value.int IntKind.i64 n, Value.string x] 23)).alloc (Obj.cells #[Value.int IntKind.i64 k, Value.int IntKind.i64 n, Value.string x] 23)) [.int .i64 k, .int .i64 n, .string x] 23
            simpa using N
          · intro u hu; simp at hu; rcases hu with rfl | rfl | rfl <;> rfl
          · simp only [maxLen]; omega
          · omega
          · have := hb1.size; simp; omega
          · intro lv1 w2 hown2 hg2 _
            have hs1 := hb1.size
            have Hown := (((ownsRow_below hown hb1).alloc (Obj.cells #[Value.int IntKind.i64 k, Value.int IntKind.i64 n, Value.string x] 23)).alloc (Obj.cells #[Value.int IntKind.i64 k, Value.int IntKind.i64 n, Value.string x] 23)).alloc (Obj.cells #[Value.int IntKind.i64 k, Value.int IntKind.i64 n, Value.string x] 23)
            have hb2 : Below w.heap.size w w2 := ((((hbel.trans (hb1.mono hsz)).alloc (by omega) _).alloc (by simp; omega) _).alloc (by simp; omega) _).trans (below_append Hown (by simp; omega) hg2)
            have ho2 : w2.ownsRow w.heap.size 23 3 lv1 (L ++ [(⟨k, n, x⟩ : V)]).length (vcells (L ++ [⟨k, n, x⟩])) := by rw [vcells_snoc, List.length_append]; exact hown2
            clear Hown hown2 hg2 hown hbel hb1 hfv hgood
            go_wp2
            go_roundw
            case rel => exact ⟨_, _, rfl, by simp; omega, HS.out, ho2, hb2⟩
            case measure => simp; omega

end Go.Proofs.YtgemcbnaamcfcaaDoor
