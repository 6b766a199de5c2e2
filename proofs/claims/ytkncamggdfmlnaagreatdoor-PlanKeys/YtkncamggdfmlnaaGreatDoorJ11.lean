/-
  5 texts of this proof in one, in build order: First, Values, Args, PMem, PKeys.
-/
import Derived.Test.YtkncamggdfmlnaaGreatDoorRows
import Derived.WalkKit
import Derived.WalkSpells
import Derived.WalkLawsBesides
import Derived.Lib.Bytealg
import Derived.Lib.IndexLaws
import Derived.Lib.EndianBits
import Derived.Deep.QuietTactic
import Derived.BigQuiet
import Derived.Deep.RegionHeld3
import Derived.Test.YtkncamggdfmlnaaGreatDoorJ01
import Derived.Test.YtkncamggdfmlnaaGreatDoorJ05
import Derived.Test.YtkncamggdfmlnaaGreatDoorJ06
import Derived.Test.YtkncamggdfmlnaaGreatDoorJ07
import Derived.Test.YtkncamggdfmlnaaGreatDoorJ08
import Derived.Test.YtkncamggdfmlnaaGreatDoorJ10
namespace Go.Proofs.YtkncamggdfmlnaaGreatDoor
open Go.RowKit

set_option maxRecDepth 100000 in
set_option maxHeartbeats 400000 in
theorem sliteIndexByte_any (s : ByteArray) (c : Int) (w : World) :
    Calls Tryz.prog 96 #[.string s, .int .u8 c] w fun e w' => e = .returned (.int .i64 (Lib.indexByte s.data.toList c.toNat.toUInt8)) ∧ w' = w := by
  go_enter Tryz.func96, Tryz.ntmps96
  go_wp2
  rw [run_callFunc_extern Tryz.func116 (by kernel_rfl) (by kernel_rfl) (by kernel_rfl) (e := Extern.BytealgIndexByte.indexByte) (by kernel_rfl), Lib.run_indexByteString]
  simp only [Result.andThen]
  rw [Oper.upon_value]
  go_wp2
  go_ret
  exact ⟨rfl, rfl⟩

set_option maxHeartbeats 400000 in
theorem indexByte_any (s : ByteArray) (c : Int) (w : World) :
    Calls Tryz.prog 112 #[.string s, .int .u8 c] w fun e w' => e = .returned (.int .i64 (Lib.indexByte s.data.toList c.toNat.toUInt8)) ∧ w' = w := by
  go_enter Tryz.func112, Tryz.ntmps112
  go_wp2_with (go_at_call 96; refine (sliteIndexByte_any _ _ _).mono ?_; rintro e w' ⟨rfl, rfl⟩)
  go_ret
  exact ⟨rfl, rfl⟩

set_option maxHeartbeats 400000 in
theorem firstNumber_short (s : ByteArray) (w : World) (h : s.size < 5) :
    Calls Tryz.prog 85 #[.string s] w fun e w' => e = .returned (.tuple #[.agg #[.int .i64 0, .int .i64 0, .string ⟨#[]⟩], .int .i64 0]) ∧ Below w.heap.size w w' := by
  go_enter Tryz.func85, Tryz.ntmps85
  go_wp2
  exact bodyPost_ret (v := .tuple #[.agg #[.int .i64 0, .int .i64 0, .string ⟨#[]⟩], .int .i64 0]) (by simp [results, Tryz.results85, go_sem]) rfl ⟨rfl, (Below.refl _ _).alloc (Nat.le_refl _) _⟩

theorem or4 (a b c d : Nat) (ha : a < 256) (hb : b < 256) (hc : c < 256) (hd : d < 256) :
    bits BinOp.or IntKind.u32 (bits BinOp.or IntKind.u32 (bits BinOp.or IntKind.u32 ((a : Int) * 16777216) ((b : Int) * 65536)) ((c : Int) * 256)) (d : Int) = (a : Int) * 16777216 + (b : Int) * 65536 + (c : Int) * 256 + (d : Int) := by
  have e1 := bits_join .u32 32 (by decide) wraps_u32 24 ((a : Int) * 16777216) ((b : Int) * 65536) (by omega) (by omega) (by omega) (by omega) (by omega) (by omega)
  have e2 := bits_join .u32 32 (by decide) wraps_u32 16 ((a : Int) * 16777216 + (b : Int) * 65536) ((c : Int) * 256) (by omega) (by omega) (by omega) (by omega) (by omega) (by omega)
  have e3 := bits_join .u32 32 (by decide) wraps_u32 8 ((a : Int) * 16777216 + (b : Int) * 65536 + (c : Int) * 256) (d : Int) (by omega) (by omega) (by omega) (by omega) (by omega) (by omega)
  rw [e1, e2, e3]

set_option maxHeartbeats 400000 in
theorem firstNumber_long (s : ByteArray) (w : World) (h : 5 ≤ s.size) (hs : s.size ≤ maxLen) :
    Calls Tryz.prog 85 #[.string s] w fun e w' => e = .returned (.tuple #[.agg #[.int .i64 1, .int .i64 (n4 s.data.toList - 1073741824), .string ⟨#[]⟩], .int .i64 5]) ∧ Below w.heap.size w w' := by
  unfold maxLen at hs
  have h1 : (1 : Int) < (s.size : Int) := by omega
  have h2 : (2 : Int) < (s.size : Int) := by omega
  have h3 : (3 : Int) < (s.size : Int) := by omega
  have h4 : (4 : Int) < (s.size : Int) := by omega
  have b1 : s[1].toNat < 256 := s[1].toNat_lt
  have b2 : s[2].toNat < 256 := s[2].toNat_lt
  have b3 : s[3].toNat < 256 := s[3].toNat_lt
  have b4 : s[4].toNat < 256 := s[4].toNat_lt
  have ho := or4 s[1].toNat s[2].toNat s[3].toNat s[4].toNat b1 b2 b3 b4
  have hn : n4 s.data.toList = (s[1].toNat : Int) * (16777216 : Int) + (s[2].toNat : Int) * (65536 : Int) + (s[3].toNat : Int) * (256 : Int) + (s[4].toNat : Int) := by
    unfold n4; rw [getD_byte s 1 (by omega), getD_byte s 2 (by omega), getD_byte s 3 (by omega), getD_byte s 4 (by omega)]
  rw [← hn] at ho
  have hm0 : 0 ≤ n4 s.data.toList := by omega
  have hm1 : n4 s.data.toList < 4294967296 := by omega
  clear hn
  generalize n4 s.data.toList = m at ho hm0 hm1 ⊢
  go_enter Tryz.func85, Tryz.ntmps85
  go_wp2
  go_quiet (fail)
  go_wp2
  refine bodyPost_ret (v := .tuple #[.agg #[.int .i64 1, .int .i64 (m - 1073741824), .string ⟨#[]⟩], .int .i64 5]) (by simp [results, Tryz.results85, go_sem]) rfl ⟨rfl, ?_⟩
  exact (((below_drewN ((Below.refl _ _).alloc (Nat.le_refl _) _) _).setCell (Nat.le_refl _) _).setCell (Nat.le_refl _) _).setCell (Nat.le_refl _) _

set_option maxHeartbeats 400000 in
theorem firstText_none (s : ByteArray) (w : World) (h : Lib.indexByte s.data.toList 0 < 0) :
    Calls Tryz.prog 86 #[.string s] w fun e w' => e = .returned (.tuple #[.agg #[.int .i64 0, .int .i64 0, .string ⟨#[]⟩], .int .i64 0]) ∧ Below w.heap.size w w' := by
  generalize hi : Lib.indexByte s.data.toList 0 = i at h
  have HI : Hid (Lib.indexByte s.data.toList 0 = i) := hi
  clear hi
  go_enter Tryz.func86, Tryz.ntmps86
  go_wp2_with (go_at_call 112; go_must (refine (indexByte_any _ _ _).mono ?_; rintro e w' ⟨rfl, rfl⟩; rw [show Lib.indexByte s.data.toList (0 : Int).toNat.toUInt8 = i from HI.out]))
  exact bodyPost_ret (v := .tuple #[.agg #[.int .i64 0, .int .i64 0, .string ⟨#[]⟩], .int .i64 0]) (by simp [results, Tryz.results86, go_sem]) rfl ⟨rfl, (Below.refl _ _).alloc (Nat.le_refl _) _⟩

set_option maxHeartbeats 400000 in
theorem firstText_some (s : ByteArray) (w : World) (i : Nat) (hi : Lib.indexByte s.data.toList 0 = i) (h1 : 1 ≤ i) (h2 : i < s.size) (hs : s.size ≤ maxLen) :
    Calls Tryz.prog 86 #[.string s] w fun e w' => e = .returned (.tuple #[.agg #[.int .i64 2, .int .i64 0, .string (s.extract 1 i)], .int .i64 (i + 1)]) ∧ Below w.heap.size w w' := by
  unfold maxLen at hs
  have HI : Hid (Lib.indexByte s.data.toList 0 = i) := hi
  clear hi
  go_enter Tryz.func86, Tryz.ntmps86
  go_wp2_with (go_at_call 112; go_must (refine (indexByte_any _ _ _).mono ?_; rintro e w' ⟨rfl, rfl⟩; rw [show Lib.indexByte s.data.toList (0 : Int).toNat.toUInt8 = i from HI.out]))
  refine bodyPost_ret (v := .tuple #[.agg #[.int .i64 2, .int .i64 0, .string (s.extract 1 i)], .int .i64 (i + 1)]) (by simp [results, Tryz.results86, go_sem]) rfl ⟨rfl, ?_⟩
  exact (Below.refl _ _).alloc (Nat.le_refl _) _

set_option maxHeartbeats 1000000 in
theorem firstValue_call (s : ByteArray) (w : World) (f : Nat) (h0 : 0 < s.size) (k n : Int) (t : ByteArray) (sz : Int)
    (hf : (f = 85 ∧ s[0].toNat = 2) ∨ (f = 86 ∧ s[0].toNat = 3))
    (hc : ∀ w : World, Calls Tryz.prog f #[.string s] w fun e w' => e = .returned (.tuple #[.agg #[.int .i64 k, .int .i64 n, .string t], .int .i64 sz]) ∧ Below w.heap.size w w') :
    Calls Tryz.prog 62 #[.string s] w fun e w' => e = .returned (.tuple #[.agg #[.int .i64 k, .int .i64 n, .string t], .int .i64 sz]) ∧ Below w.heap.size w w' := by
  rcases hf with ⟨rfl, hb⟩ | ⟨rfl, hb⟩
  · have h1 : (s[0].toNat : Int) = 2 := by omega
    go_enter Tryz.func62, Tryz.ntmps62
    go_wp2_with (go_at_call 85; go_must (refine (hc _).mono ?_; rintro e w1 ⟨rfl, hb1⟩; obtain ⟨hcc, hff⟩ := bcell hb1))
    refine bodyPost_ret (v := .tuple #[.agg #[.int .i64 k, .int .i64 n, .string t], .int .i64 sz]) (by simp [results, Tryz.results62, go_sem, hcc]) rfl ⟨rfl, ?_⟩
    exact (((((Below.refl _ _).alloc (Nat.le_refl _) _).trans (hb1.mono (by simp))).setCell (Nat.le_refl _) _).setCell (Nat.le_refl _) _).setCell (Nat.le_refl _) _
  · have h1 : (s[0].toNat : Int) = 3 := by omega
    go_enter Tryz.func62, Tryz.ntmps62
    go_wp2_with (go_at_call 86; go_must (refine (hc _).mono ?_; rintro e w1 ⟨rfl, hb1⟩; obtain ⟨hcc, hff⟩ := bcell hb1))
    refine bodyPost_ret (v := .tuple #[.agg #[.int .i64 k, .int .i64 n, .string t], .int .i64 sz]) (by simp [results, Tryz.results62, go_sem, hcc]) rfl ⟨rfl, ?_⟩
    exact (((((Below.refl _ _).alloc (Nat.le_refl _) _).trans (hb1.mono (by simp))).setCell (Nat.le_refl _) _).setCell (Nat.le_refl _) _).setCell (Nat.le_refl _) _

set_option maxHeartbeats 1000000 in
theorem firstValue_one (s : ByteArray) (w : World) (h0 : 0 < s.size) (hb : s[0].toNat = 1) :
    Calls Tryz.prog 62 #[.string s] w fun e w' => e = .returned (.tuple #[.agg #[.int .i64 0, .int .i64 0, .string ⟨#[]⟩], .int .i64 1]) ∧ Below w.heap.size w w' := by
  have h1 : (s[0].toNat : Int) = 1 := by omega
  go_enter Tryz.func62, Tryz.ntmps62
  go_wp2
  exact bodyPost_ret (v := .tuple #[.agg #[.int .i64 0, .int .i64 0, .string ⟨#[]⟩], .int .i64 1]) (by simp [results, Tryz.results62, go_sem]) rfl ⟨rfl, (Below.refl _ _).alloc (Nat.le_refl _) _⟩

set_option maxHeartbeats 1000000 in
theorem firstValue_other (s : ByteArray) (w : World) (h0 : 0 < s.size) (hb1 : ¬ s[0].toNat = 1) (hb2 : ¬ s[0].toNat = 2) (hb3 : ¬ s[0].toNat = 3) :
    Calls Tryz.prog 62 #[.string s] w fun e w' => e = .returned (.tuple #[.agg #[.int .i64 0, .int .i64 0, .string ⟨#[]⟩], .int .i64 0]) ∧ Below w.heap.size w w' := by
  have hlt : s[0].toNat < 256 := s[0].toNat_lt
  go_enter Tryz.func62, Tryz.ntmps62
  go_wp2
  exact bodyPost_ret (v := .tuple #[.agg #[.int .i64 0, .int .i64 0, .string ⟨#[]⟩], .int .i64 0]) (by simp [results, Tryz.results62, go_sem]) rfl ⟨rfl, (Below.refl _ _).alloc (Nat.le_refl _) _⟩

theorem byte_eq (c : UInt8) (n : Nat) (hn : n < 256) : c = UInt8.ofNat n ↔ c.toNat = n := by
  constructor
  · rintro rfl; simp; omega
  · intro h; rw [← h]; simp

/-- THE FIRST VALUE of a text that is not empty. -/
theorem firstValue_any (s : ByteArray) (w : World) (hs : s.size ≤ maxLen) (h0 : 0 < s.size) :
    Calls Tryz.prog 62 #[.string s] w fun e w' => e = .returned (.tuple #[(fv s.data.toList).1.val, .int .i64 (fv s.data.toList).2]) ∧ Below w.heap.size w w' := by
  have g0 : s.data.toList.getD 0 0 = s[0] := getD_byte s 0 h0
  have q1 : s[0] = 1 ↔ s[0].toNat = 1 := byte_eq s[0] 1 (by omega)
  have q2 : s[0] = 2 ↔ s[0].toNat = 2 := byte_eq s[0] 2 (by omega)
  have q3 : s[0] = 3 ↔ s[0].toNat = 3 := byte_eq s[0] 3 (by omega)
  by_cases h1 : s[0].toNat = 1
  · have e : fv s.data.toList = (zero, 1) := by unfold fv; rw [g0, if_pos (q1.2 h1)]
    rw [e]; exact firstValue_one s w h0 h1
  have n1 : ¬ s[0] = 1 := fun h => h1 (q1.1 h)
  by_cases h2 : s[0].toNat = 2
  · by_cases hl : s.size < 5
    · have e : fv s.data.toList = (zero, 0) := by unfold fv; rw [g0, if_neg n1, if_pos (q2.2 h2), if_pos (by rw [size_toList]; exact hl)]
      rw [e]; exact firstValue_call s w 85 h0 0 0 ⟨#[]⟩ 0 (.inl ⟨rfl, h2⟩) fun w => firstNumber_short s w hl
    · have e : fv s.data.toList = (⟨1, n4 s.data.toList - 1073741824, ⟨#[]⟩⟩, 5) := by unfold fv; rw [g0, if_neg n1, if_pos (q2.2 h2), if_neg (by rw [size_toList]; exact hl)]
      rw [e]; exact firstValue_call s w 85 h0 1 _ ⟨#[]⟩ 5 (.inl ⟨rfl, h2⟩) fun w => firstNumber_long s w (by omega) hs
  have n2 : ¬ s[0] = 2 := fun h => h2 (q2.1 h)
  by_cases h3 : s[0].toNat = 3
  · by_cases hl : Lib.indexByte s.data.toList 0 < 0
    · have e : fv s.data.toList = (zero, 0) := by unfold fv; rw [g0, if_neg n1, if_neg n2, if_pos (q3.2 h3), if_pos hl]
      rw [e]; exact firstValue_call s w 86 h0 0 0 ⟨#[]⟩ 0 (.inr ⟨rfl, h3⟩) fun w => firstText_none s w hl
    · obtain ⟨i, hi⟩ : ∃ i : Nat, Lib.indexByte s.data.toList 0 = i := ⟨(Lib.indexByte s.data.toList 0).toNat, by omega⟩
      have hsome := (Lib.indexByte_some hi).1
      have hlt : i < s.size := by rw [← size_toList]; exact (List.getElem?_eq_some_iff.1 hsome).1
      have hpos : 1 ≤ i := by
        rcases Nat.eq_zero_or_pos i with rfl | h
        · rw [List.getD_eq_getElem?_getD, hsome] at g0
          simp at g0
          rw [← g0] at h3
          simp at h3
        · exact h
      have e : fv s.data.toList = (⟨2, 0, str ((s.data.toList.drop 1).take (i - 1))⟩, i + 1) := by
        unfold fv; rw [g0, if_neg n1, if_neg n2, if_pos (q3.2 h3), if_neg hl, hi]; simp
      have e2 : s.extract 1 i = str ((s.data.toList.drop 1).take (i - 1)) := Lib.extract_eq s 1 i
      rw [e]
      refine firstValue_call s w 86 h0 2 0 _ _ (.inr ⟨rfl, h3⟩) fun w => ?_
      rw [← e2]
      exact firstText_some s w i hi hpos hlt hs
  have n3 : ¬ s[0] = 3 := fun h => h3 (q3.1 h)
  have e : fv s.data.toList = (zero, 0) := by unfold fv; rw [g0, if_neg n1, if_neg n2, if_neg n3]
  rw [e]; exact firstValue_other s w h0 h1 h2 h3

end Go.Proofs.YtkncamggdfmlnaaGreatDoor

namespace Go.Proofs.YtkncamggdfmlnaaGreatDoor
open Go.RowKit

theorem info_value : (Tryz.prog.info? 36).map (fun i => (i.zero, i.size, i.bytes)) = some (some (.agg #[.int .i64 0, .int .i64 0, .string ⟨#[]⟩]), 3, 32) := by kernel_rfl


/-- What Values answers: a slice of the call's own that has the values, and no error; or nil and ErrForm. -/
def ValuesSays (base : Nat) (l : List UInt8) (e : Ending) (w' : World) : Prop :=
  match vals l with
  | some L => ∃ lv, e = .returned (.tuple #[lv, .int .i64 0]) ∧ w'.ownsRow base 36 3 lv L.length (vcells L)
  | none => e = .returned (.tuple #[.slice none 0 0, .int .i64 1])

set_option maxHeartbeats 2000000 in
theorem values_any (s : ByteArray) (w : World) (hs : s.size * 32 ≤ 140737488355328) :
    Calls Tryz.prog 35 #[.string s] w fun e w' => ValuesSays w.heap.size s.data.toList e w' ∧ Below w.heap.size w w' := by
  obtain ⟨i0, hi, hz0, hz1, hz2⟩ := info_parts info_value
  go_enter Tryz.func35, Tryz.ntmps35
  go_wp2
  go_loopw [0, 4] (fun sv lv wr => ∃ (t : ByteArray) (L : List V), sv = .string t ∧ L.length + t.size ≤ s.size ∧ vals s.data.toList = (vals t.data.toList).map (L ++ ·) ∧ wr.ownsRow w.heap.size 36 3 lv L.length (vcells L) ∧ Below w.heap.size w wr) (fun sv _ _ => match sv with | .string t => t.size | _ => 0)
  case atStart => exact ⟨s, [], rfl, by simp, by simp, World.ownsRow_nil _ _ _ _, Below.refl _ _⟩
  case round =>
    obtain ⟨t, L, rfl, hlen, hv, hown, hbel⟩ := hrel
    have HV : Hid (vals s.data.toList = (vals t.data.toList).map (L ++ ·)) := hv
    clear hv
    have hsz := hbel.size
    by_cases ht : t.size = 0
    · have hemp : t.toList.isEmpty = true := by rw [empty_iff]; simp [ht]
      have hnil : t.data.toList = [] := by have := size_toList t; rw [ht] at this; exact List.eq_nil_of_length_eq_zero this
      have HL : Hid (vals s.data.toList = some L) := by show vals s.data.toList = some L; have := HV.out; rw [hnil, vals_nil] at this; simpa using this
      clear hnil ht
      go_wp2
      go_ret2
      refine ⟨?_, hbel⟩
      unfold ValuesSays
      rw [HL.out]
      exact ⟨_, rfl, hown⟩
    · have hpos : 0 < t.size := by omega
      have hmax : t.size ≤ maxLen := by simp only [maxLen]; omega
      have hne : t.data.toList ≠ [] := by intro h; have := size_toList t; rw [h] at this; simp at this; omega
      have hle := fv_le t.data.toList hne
      rw [size_toList] at hle
      have hemp : t.toList.isEmpty = false := by rw [empty_iff]; exact decide_eq_false ht
      have hfv0 := fun w => firstValue_any t w hmax hpos
      obtain ⟨⟨k, n, x⟩, z, hvz⟩ : ∃ v z, fv t.data.toList = (v, z) := ⟨_, _, rfl⟩
      rw [hvz] at hle hfv0
      simp only at hle
      have hfv : ∀ w : World, Calls Tryz.prog 62 #[.string t] w fun e w' => e = .returned (.tuple #[.agg #[.int .i64 k, .int .i64 n, .string x], .int .i64 (z : Int)]) ∧ Below w.heap.size w w' := hfv0
      clear hfv0
      have HVZ : Hid (fv t.data.toList = (⟨k, n, x⟩, z)) := hvz
      have HNE : Hid (t.data.toList ≠ []) := hne
      have hx : x.size ≤ maxLen := by
        have := fv_text_le t.data.toList
        rw [hvz, size_toList] at this
        exact Nat.le_trans this hmax
      clear hvz hne
      unfold maxLen at hmax
      have hgood := fun w => good_any ⟨k, n, x⟩ w hx
      by_cases hz : z = 0
      · subst hz
        have HN : Hid (vals s.data.toList = none) := by show vals s.data.toList = none; have := HV.out; rw [vals_bad HNE.out (by rw [HVZ.out]; exact .inl rfl)] at this; simpa using this
        go_wp2_with (go_at_call 62; go_must (refine (hfv _).mono ?_; rintro e w1 ⟨rfl, hb1⟩))
        go_ret2
        have hs1 := hb1.size
        refine ⟨by unfold ValuesSays; rw [HN.out]; rfl, (hbel.trans (hb1.mono hsz)).alloc (by omega) _⟩
      · have hzz : (z : Int) ≠ 0 := by omega
        cases hg : good ⟨k, n, x⟩
        · have HN : Hid (vals s.data.toList = none) := by show vals s.data.toList = none; have := HV.out; rw [vals_bad HNE.out (by rw [HVZ.out]; exact .inr hg)] at this; simpa using this
          rw [hg] at hgood
          have hd : ((z : Int) == 0) = false := by simp; omega
          go_wp2_with (first | (go_at_call 62; go_must (refine (hfv _).mono ?_; rintro e w1 ⟨rfl, hb1⟩)) | (go_at_call 63; go_must (refine (hgood _).mono ?_; rintro e w2 ⟨rfl, rfl⟩)))
          go_ret2
          have hs1 := hb1.size
          refine ⟨by unfold ValuesSays; rw [HN.out]; rfl, ((hbel.trans (hb1.mono hsz)).alloc (by omega) _).alloc (by simp; omega) _⟩
        · have HS : Hid (vals s.data.toList = (vals (t.extract z t.size).data.toList).map ((L ++ [⟨k, n, x⟩]) ++ ·)) := by
            have h1 := HV.out
            have h2 := vals_step HNE.out (by rw [HVZ.out]; exact hz) (by rw [HVZ.out]; exact hg)
            rw [HVZ.out] at h2
            rw [h2] at h1
            show _ = _
            rw [h1, extract_end]
            cases vals (t.data.toList.drop z) <;> simp
          rw [hg] at hgood
          have hd : ((z : Int) == 0) = false := by simp; omega
          go_wp2_with (first | (go_at_call 62; go_must (refine (hfv _).mono ?_; rintro e w1 ⟨rfl, hb1⟩)) | (go_at_call 63; go_must (refine (hgood _).mono ?_; rintro e w2 ⟨rfl, rfl⟩)) | (at_builtin; go_must (refine wpList_append_own _ rfl (.tmp 21) (.tmp 23) 29 rfl w.heap.size 36 i0 (.agg #[.int .i64 0, .int .i64 0, .string ⟨#[]⟩]) 3 32 Tryz.underlying29 hi hz0 hz1 hz2 rfl (by decide) _ _ _ rfl ((((ownsRow_below hown hb1).alloc _).alloc _).alloc _) ⟨w1.heap.size + 1 + 1, 0, none⟩ 1 1 [.int .i64 k, .int .i64 n, .string x] rfl rfl ?_ ?_ ?_ ?_ ?_ ?_)))
          · have N := cells_new ((w1.alloc (Obj.cells #[Value.int IntKind.i64 k, Value.int IntKind.i64 n, Value.string x] 36)).alloc (Obj.cells #[Value.int IntKind.i64 k, Value.int IntKind.i64 n, Value.string x] 36)) [.int .i64 k, .int .i64 n, .string x] 36
            simpa using N
          · intro u hu; simp at hu; rcases hu with rfl | rfl | rfl <;> rfl
          · simp only [maxLen]; omega
          · omega
          · have := hb1.size; simp; omega
          · intro lv1 w2 hown2 hg2 _
            have hs1 := hb1.size
            have Hown := (((ownsRow_below hown hb1).alloc (Obj.cells #[Value.int IntKind.i64 k, Value.int IntKind.i64 n, Value.string x] 36)).alloc (Obj.cells #[Value.int IntKind.i64 k, Value.int IntKind.i64 n, Value.string x] 36)).alloc (Obj.cells #[Value.int IntKind.i64 k, Value.int IntKind.i64 n, Value.string x] 36)
            have hb2 : Below w.heap.size w w2 := ((((hbel.trans (hb1.mono hsz)).alloc (by omega) _).alloc (by simp; omega) _).alloc (by simp; omega) _).trans (below_append Hown (by simp; omega) hg2)
            have ho2 : w2.ownsRow w.heap.size 36 3 lv1 (L ++ [(⟨k, n, x⟩ : V)]).length (vcells (L ++ [⟨k, n, x⟩])) := by rw [vcells_snoc, List.length_append]; exact hown2
            clear Hown hown2 hg2 hown hbel hb1 hfv hgood
            go_wp2
            go_roundw
            case rel => exact ⟨_, _, rfl, by simp; omega, HS.out, ho2, hb2⟩
            case measure => simp; omega

end Go.Proofs.YtkncamggdfmlnaaGreatDoor

namespace Go.Proofs.YtkncamggdfmlnaaGreatDoor
open Go.RowKit


theorem key_any (L : List V) (v : Value) (w : World) (hv : IsVals w v L) (hlen : L.length * 32 ≤ 140737488351232) (hss : ∀ v ∈ L, v.s.size ≤ maxLen) :
    Calls Tryz.prog 38 #[v] w fun e w' => e = .returned (.tuple #[.string (str (keyAns L).1), .int .i64 (keyAns L).2]) ∧ Below w.heap.size w w' := by
  rcases hv with ⟨⟨ao, cap, rfl, _⟩, rfl⟩ | ⟨b, off, cap, rfl, hb, hL⟩
  · exact key_none ao cap w
  · exact key_some L b off cap w hL hb hlen hss

end Go.Proofs.YtkncamggdfmlnaaGreatDoor

namespace Go.Proofs.YtkncamggdfmlnaaGreatDoor
open Go.RowKit

/-- A value; a row of values. -/
def kVal : Elem V where
  size := 3
  R _ _ v c := c = v.cells
  len h := by subst h; rfl
  keep _ h := h
  mono _ h := h
def kVals : Elem (List V) where
  size := 1
  R F w l c := ∃ sv, c = [sv] ∧ IsL kVal F w sv l
  len h := by obtain ⟨sv, rfl, _⟩ := h; rfl
  keep hk h := by obtain ⟨sv, h1, h2⟩ := h; exact ⟨sv, h1, h2.keep hk⟩
  mono hk h := by obtain ⟨sv, h1, h2⟩ := h; exact ⟨sv, h1, h2.mono hk⟩
theorem all_vals {F : Nat → Prop} {w : World} : ∀ {l : List V} {cs : List Value}, All kVal F w l cs ↔ cs = vcells l
  | [], cs => Iff.rfl
  | v :: l, cs => by
    have e : vcells (v :: l) = v.cells ++ vcells l := by simp [vcells]
    rw [e]
    constructor
    · rintro ⟨c, rest, rfl, h2, h3⟩
      rw [all_vals.1 h3, show c = v.cells from h2]
    · rintro rfl
      exact ⟨v.cells, vcells l, rfl, rfl, all_vals.2 rfl⟩
theorem isL_vals {F : Nat → Prop} {w : World} {sv : Value} {l : List V} (h : IsL kVal F w sv l) : IsVals w sv l := by
  obtain ⟨cs, h1, h2⟩ := h
  have := all_vals.1 h2
  subst this
  rcases h1.2 with ⟨h0, ao, cap, rfl, hc⟩ | ⟨h0, b, off, cap, rfl, _, hb, _, _, hcell⟩
  · exact .inl ⟨⟨ao, cap, rfl, hc⟩, List.eq_nil_of_length_eq_zero h0⟩
  · refine .inr ⟨b, off, cap, rfl, hb, fun i v hi => ?_⟩
    obtain ⟨a0, a1, a2⟩ := vcells_at l i v hi
    exact ⟨hcell _ _ a0, by rw [Nat.add_assoc]; exact hcell _ _ a1, by rw [Nat.add_assoc]; exact hcell _ _ a2⟩
theorem isL_own {F : Nat → Prop} {w : World} {base : Nat} {lv : Value} {L : List V} (h : w.ownsRow base 36 3 lv L.length (vcells L)) (hF : ∀ k, base ≤ k → F k) : IsL kVal F w lv L :=
  ⟨vcells L, IsRowB.of_own h hF, all_vals.2 rfl⟩

end Go.Proofs.YtkncamggdfmlnaaGreatDoor

namespace Go.Proofs.YtkncamggdfmlnaaGreatDoor
open Go.RowKit

theorem size_app (a b : ByteArray) : (a ++ b).size = a.size + b.size := ByteArray.size_append

set_option maxHeartbeats 1000000 in
theorem rowsBegin_any (t : Wd) (w : World) (ht : t.size ≤ 1000000) : Calls Tryz.prog 23 #[.string t] w fun e w' => e = .returned (.string (rbeg t)) ∧ w' = w := by
  have E : Hid (rbeg t = (⟨#[114]⟩ ++ t) ++ ⟨#[0]⟩) := rfl
  generalize rbeg t = r at E
  go_enter Tryz.func23, Tryz.ntmps23
  go_wp2
  go_ret
  exact ⟨by rw [E.out]; rfl, rfl⟩

set_option maxHeartbeats 1000000 in
theorem indexBegin_any (t : Wd) (w : World) (ht : t.size ≤ 1000000) : Calls Tryz.prog 25 #[.string t] w fun e w' => e = .returned (.string (ibeg t)) ∧ w' = w := by
  have E : Hid (ibeg t = (⟨#[120]⟩ ++ t) ++ ⟨#[0]⟩) := rfl
  generalize ibeg t = r at E
  go_enter Tryz.func25, Tryz.ntmps25
  go_wp2
  go_ret
  exact ⟨by rw [E.out]; rfl, rfl⟩

set_option maxHeartbeats 1000000 in
theorem pkeyOf_any (L : List V) (v : Value) (w : World) (hv : IsVals w v L) (hlen : L.length * 32 ≤ 140737488351232) (hss : ∀ v ∈ L, v.s.size ≤ maxLen) :
    Calls Tryz.prog 24 #[v] w fun e w' => e = .returned (.string (str (keyAns L).1)) ∧ Below w.heap.size w w' := by
  have HK := key_any L v w hv hlen hss
  obtain ⟨ao, cap, rfl⟩ := hv.shape
  generalize str (keyAns L).1 = s at HK
  generalize (keyAns L).2 = n at HK
  clear hv hss
  go_enter Tryz.func24, Tryz.ntmps24
  go_wp2_with (go_at_call 38; go_fit HK; rintro e w1 ⟨rfl, hb1⟩)
  go_ret
  exact ⟨rfl, hb1⟩

theorem rbeg_size (t : Wd) : (rbeg t).size = t.size + 2 := by simp only [rbeg, size_app]; show 1 + t.size + 1 = _; omega
theorem ibeg_size (t : Wd) : (ibeg t).size = t.size + 2 := by simp only [ibeg, size_app]; show 1 + t.size + 1 = _; omega
theorem keyAns_size (L : List V) : (str (keyAns L).1).size ≤ 10 * L.length := by
  rw [str_size]
  unfold keyAns
  split
  · rename_i h; exact keys_le L (by simpa using h)
  · simp

set_option maxHeartbeats 2000000 in
theorem rowKey_any (t : Wd) (id : V) (w : World) (ht : t.size ≤ 1000000) (hs : id.s.size ≤ maxLen) :
    Calls Tryz.prog 10 #[.string t, id.val] w fun e w' => e = .returned (.string (rkey t id)) ∧ Below w.heap.size w w' := by
  have E : Hid (rkey t id = rbeg t ++ str (keyAns [id]).1) := rfl
  have HR := fun w => rowsBegin_any t w ht
  have HK0 := fun (w : World) => pkeyOf_any [id] (.slice (some ⟨w.heap.size, 0, none⟩) 1 1) (w.alloc (.cells #[.int .i64 id.k, .int .i64 id.n, .string id.s] 36))
    (.inr ⟨_, _, _, rfl, by simp, fun i v hi => by
      match i, hi with
      | 0, hi => simp at hi; subst hi; exact ⟨cell_of_block (block_alloc_at w _) rfl, cell_of_block (block_alloc_at w _) rfl, cell_of_block (block_alloc_at w _) rfl⟩⟩) (by simp) (by simpa using hs)
  have HK := HK0 (w.alloc (.cells #[.int .i64 id.k, .int .i64 id.n, .string id.s] 36)).drew
  rw [show (w.alloc (.cells #[.int .i64 id.k, .int .i64 id.n, .string id.s] 36)).drew.heap.size = w.heap.size + 1 from by show (w.alloc _).heap.size = _; simp] at HK
  clear HK0
  have hz : (rbeg t).size ≤ 1000002 := by rw [rbeg_size]; omega
  have hz2 : (str (keyAns [id]).1).size ≤ 10 := keyAns_size [id]
  generalize rkey t id = r at E
  generalize rbeg t = a at E HR hz
  generalize str (keyAns [id]).1 = b at E HK hz2
  have hz3 : ¬ 9223372036854775807 < a.size + b.size := by omega
  clear hz hz2
  obtain ⟨ik, inn, is⟩ := id
  simp only [V.val] at HK ⊢
  clear hs ht
  have blk : ((w.alloc (.cells #[.int .i64 ik, .int .i64 inn, .string is] 36)).drew.alloc (.cells #[.int .i64 ik, .int .i64 inn, .string is] 36)).heap[w.heap.size]? = some (.cells #[.int .i64 ik, .int .i64 inn, .string is] 36) := block_alloc_of (w := (w.alloc (.cells #[.int .i64 ik, .int .i64 inn, .string is] 36)).drew) (block_alloc_at w _) _
  have HB : Hid _ := blk
  clear blk
  go_enter Tryz.func10, Tryz.ntmps10
  go_wp2_with fail
  go_region_held3 (fun w' => w'.cell? ⟨w.heap.size, 0, none⟩ = some (.int .i64 ik) ∧ w'.cell? ⟨w.heap.size, 1, none⟩ = some (.int .i64 inn) ∧ w'.cell? ⟨w.heap.size, 2, none⟩ = some (.string is)) (first | exact S1 | (go_keep; done))
    (first | (go_at_call 23; go_fit (HR _); rintro e w1 ⟨rfl, rfl⟩) | (go_at_call 24; go_fit HK; rintro e w2 ⟨rfl, hb2⟩; have hq := (hb2.block w.heap.size (lt_of_block HB.out)).trans HB.out; have S1 : _ ∧ _ ∧ _ := ⟨cell_of_block hq (j := 0) rfl, cell_of_block hq (j := 1) rfl, cell_of_block hq (j := 2) rfl⟩))
  all_goals
    go_wp2
    go_ret
    exact ⟨by rw [E.out]; rfl, ((bel1 w _).drew.alloc (bel1 w _).size _).trans (hb2.mono (by simp; omega))⟩

set_option maxHeartbeats 2000000 in
theorem indexKey_any (t : Wd) (x id : V) (w : World) (ht : t.size ≤ 1000000) (hx : x.s.size ≤ maxLen) (hs : id.s.size ≤ maxLen) :
    Calls Tryz.prog 13 #[.string t, x.val, id.val] w fun e w' => e = .returned (.string (ikey t x id)) ∧ Below w.heap.size w w' := by
  have E : Hid (ikey t x id = ibeg t ++ str (keyAns [x, id]).1) := rfl
  have HR := fun w => indexBegin_any t w ht
  have HK0 := fun (w : World) => pkeyOf_any [x, id] (.slice (some ⟨w.heap.size, 0, none⟩) 2 2) (w.alloc (.cells #[.int .i64 x.k, .int .i64 x.n, .string x.s, .int .i64 id.k, .int .i64 id.n, .string id.s] 36))
    (.inr ⟨_, _, _, rfl, by simp, fun i v hi => by
      match i, hi with
      | 0, hi => simp at hi; subst hi; exact ⟨cell_of_block (block_alloc_at w _) rfl, cell_of_block (block_alloc_at w _) rfl, cell_of_block (block_alloc_at w _) rfl⟩
      | 1, hi => simp at hi; subst hi; exact ⟨cell_of_block (block_alloc_at w _) rfl, cell_of_block (block_alloc_at w _) rfl, cell_of_block (block_alloc_at w _) rfl⟩⟩) (by simp) (by simpa using ⟨hx, hs⟩)
  have HK := HK0 ((w.alloc (.cells #[.int .i64 x.k, .int .i64 x.n, .string x.s] 36)).alloc (.cells #[.int .i64 id.k, .int .i64 id.n, .string id.s] 36)).drew
  rw [show ((w.alloc (.cells #[.int .i64 x.k, .int .i64 x.n, .string x.s] 36)).alloc (.cells #[.int .i64 id.k, .int .i64 id.n, .string id.s] 36)).drew.heap.size = w.heap.size + 2 from by show ((w.alloc _).alloc _).heap.size = _; simp] at HK
  clear HK0
  have hz : (ibeg t).size ≤ 1000002 := by rw [ibeg_size]; omega
  have hz2 : (str (keyAns [x, id]).1).size ≤ 20 := keyAns_size [x, id]
  generalize ikey t x id = r at E
  generalize ibeg t = a at E HR hz
  generalize str (keyAns [x, id]).1 = b at E HK hz2
  have hz3 : ¬ 9223372036854775807 < a.size + b.size := by omega
  clear hz hz2
  obtain ⟨ik, inn, is⟩ := id
  obtain ⟨xk, xn, xs⟩ := x
  simp only [V.val] at HK ⊢
  clear hs hx ht
  have HB1 : Hid _ := block_alloc_of (w := ((w.alloc (.cells #[.int .i64 xk, .int .i64 xn, .string xs] 36)).alloc (.cells #[.int .i64 ik, .int .i64 inn, .string is] 36)).drew) (block_alloc_of (block_alloc_at w (.cells #[.int .i64 xk, .int .i64 xn, .string xs] 36)) (.cells #[.int .i64 ik, .int .i64 inn, .string is] 36)) (.cells #[.int .i64 xk, .int .i64 xn, .string xs, .int .i64 ik, .int .i64 inn, .string is] 36)
  have HB2 : Hid _ := block_alloc_of (w := ((w.alloc (.cells #[.int .i64 xk, .int .i64 xn, .string xs] 36)).alloc (.cells #[.int .i64 ik, .int .i64 inn, .string is] 36)).drew) (block2 w (.cells #[.int .i64 xk, .int .i64 xn, .string xs] 36) (.cells #[.int .i64 ik, .int .i64 inn, .string is] 36)) (.cells #[.int .i64 xk, .int .i64 xn, .string xs, .int .i64 ik, .int .i64 inn, .string is] 36)
  go_enter Tryz.func13, Tryz.ntmps13
  go_wp2_with fail
  go_region_held3 (fun w' => w'.cell? ⟨w.heap.size, 0, none⟩ = some (.int .i64 xk) ∧ w'.cell? ⟨w.heap.size, 1, none⟩ = some (.int .i64 xn) ∧ w'.cell? ⟨w.heap.size, 2, none⟩ = some (.string xs) ∧ w'.cell? ⟨w.heap.size + 1, 0, none⟩ = some (.int .i64 ik) ∧ w'.cell? ⟨w.heap.size + 1, 1, none⟩ = some (.int .i64 inn) ∧ w'.cell? ⟨w.heap.size + 1, 2, none⟩ = some (.string is)) (first | exact S1 | (go_keep; done))
    (first | (go_at_call 25; go_fit (HR _); rintro e w1 ⟨rfl, rfl⟩) | (go_at_call 24; go_fit HK; rintro e w2 ⟨rfl, hb2⟩; have hq := (hb2.block w.heap.size (lt_of_block HB1.out)).trans HB1.out; have hq2 := (hb2.block (w.heap.size + 1) (lt_of_block HB2.out)).trans HB2.out; have S1 : _ ∧ _ ∧ _ ∧ _ ∧ _ ∧ _ := ⟨cell_of_block hq (j := 0) rfl, cell_of_block hq (j := 1) rfl, cell_of_block hq (j := 2) rfl, cell_of_block hq2 (j := 0) rfl, cell_of_block hq2 (j := 1) rfl, cell_of_block hq2 (j := 2) rfl⟩))
  all_goals
    go_wp2
    go_ret
    exact ⟨by rw [E.out]; rfl, ((bel2 w _ _).drew.alloc (bel2 w _ _).size _).trans (hb2.mono (by simp; omega))⟩

/-- A struct of three cells is answered: from the result's own block. -/
theorem end_three {fn : Func} {p : Tmp} {w0 w : World} {g : Nat} {a : Act} {c0 c1 c2 : Value} {t ty : TypeId} {fr : Nat × Nat} {fs : Array Field} (x y z : Value) (hr : fn.results = #[.cell p ty]) (hp : a.tmps.getD p undef = .pointer (some ⟨g, 0, none⟩)) (hd : a.defers = [])
    (hg : w.heap[g]? = some (.cells #[c0, c1, c2] t fr)) (hb : Below w0.heap.size w0 w) (hlt : w0.heap.size ≤ g)
    (hu : Tryz.prog.underlying ty = some (.struct fs)) (hi : (Tryz.prog.info? ty).map (·.size) = some 3) :
    bodyPost Tryz.prog fn (fun e w' => e = .returned (.agg #[x, y, z]) ∧ Below w0.heap.size w0 w') .ret a (((w.setCell ⟨g, 0, none⟩ x).setCell ⟨g, 1, none⟩ y).setCell ⟨g, 2, none⟩ z) :=
  bodyPost_ret (results_cell_row hr a.tmps _ g t _ fr _ hp (set3 hg) hu rfl hi) hd ⟨rfl, ((hb.setCell hlt _).setCell hlt _).setCell hlt _⟩

/-- P6.2: All. -/
def wayV (x lo hi : Wd) : Value := .agg #[.string x, .string lo, .string hi]

set_option maxHeartbeats 1000000 in
theorem begun_any (s : Wd) (w : World) (hs : s.size ≤ 1000000) : Calls Tryz.prog 36 #[.string s] w fun e w' => e = .returned (.agg #[.string s, .string (s ++ ⟨#[255]⟩)]) ∧ Below w.heap.size w w' := by
  go_enter Tryz.func36, Tryz.ntmps36
  go_wp2
  refine bodyPost_ret (v := .agg #[.string s, .string (s ++ ⟨#[255]⟩)]) (by simp [results, Tryz.results36, go_sem, *]) rfl ⟨rfl, ?_⟩
  exact bel1 w _

set_option maxHeartbeats 1000000 in
theorem way_any (lo hi x b : Wd) (w : World) (hl : lo.size ≤ 1000000) (hh : hi.size ≤ 1000000) (hb : b.size ≤ 1000000) : Calls Tryz.prog 37 #[.agg #[.string lo, .string hi], .string x, .string b] w fun e w' => e = .returned (wayV x (b ++ lo) (b ++ hi)) ∧ Below w.heap.size w w' := by
  have h1 : ¬ 9223372036854775807 < b.size + lo.size := by omega
  have h2 : ¬ 9223372036854775807 < b.size + hi.size := by omega
  clear hl hh hb
  go_enter Tryz.func37, Tryz.ntmps37
  go_wp2
  refine bodyPost_ret (v := wayV x (b ++ lo) (b ++ hi)) (by simp [results, wayV, Tryz.results37, go_sem, *]) rfl ⟨rfl, ?_⟩
  exact bel2 w _ _

set_option maxHeartbeats 1000000 in
theorem all_any (t : Wd) (w : World) (ht : t.size ≤ 100000) : Calls Tryz.prog 22 #[.string t] w fun e w' => e = .returned (wayV noW (allLo t) (allHi t)) ∧ Below w.heap.size w w' := by
  have HB := fun w => begun_any noW w (by decide)
  have HR := fun w => rowsBegin_any t w (by omega)
  have HW := fun w => way_any noW (noW ++ ⟨#[255]⟩) noW (rbeg t) w (by decide) (by decide) (by rw [rbeg_size]; omega)
  have e1 : Hid (allLo t = rbeg t ++ noW) := rfl
  have e2 : Hid (allHi t = rbeg t ++ (noW ++ ⟨#[255]⟩)) := rfl
  rw [← e1.out, ← e2.out] at HW
  generalize allLo t = lo at e1 HW ⊢
  generalize allHi t = hi at e2 HW ⊢
  generalize rbeg t = b at HR HW
  generalize (noW ++ ⟨#[255]⟩ : Wd) = f at HB HW
  clear e1 e2 ht
  unfold wayV at HW ⊢
  go_enter Tryz.func22, Tryz.ntmps22
  go_wp2_with (first | (go_at_call 36; go_fit (HB _); rintro e w1 ⟨rfl, hb1⟩; have b1 := (hb1.block w.heap.size (by simp)).trans (block_alloc_at w (.cells #[.string noW, .string noW, .string noW] 66))) | (go_at_call 23; go_fit (HR _); rintro e w2 ⟨rfl, rfl⟩) | (go_at_call 37; go_fit (HW _); rintro e w3 ⟨rfl, hb3⟩; have b3 := (hb3.block w.heap.size (lt_of_block b1)).trans b1; have d0 := cell_of_block b3 (j := 0) rfl; have d1 := cell_of_block b3 (j := 1) rfl; have d2 := cell_of_block b3 (j := 2) rfl; have d3 : ∀ o, w3.frozen? ⟨w.heap.size, o, none⟩ = false := (fun o => by simp [World.frozen?, b3])))
  exact end_three _ _ _ Tryz.results22 rfl rfl b3 (bthen (bthen (bel1 w _) hb1) hb3) (Nat.le_refl _) Tryz.underlying66 (by kernel_rfl)

set_option maxHeartbeats 1000000 in
theorem planFits_any (nmv : Wd) (so : Option Addr) (sn sc : Nat) (ro : Option Addr) (rn rc : Nat) (w : World) :
    Calls Tryz.prog 26 #[.agg #[.string nmv, .slice so sn sc], .slice ro rn rc] w fun e w' => e = .returned (.bool (decide (0 < rn) && decide (rn = sn))) ∧ Below w.heap.size w w' := by
  by_cases h0 : 0 < rn
  · by_cases h1 : rn = sn
    · subst h1
      have q0 : (0 : Int) < (rn : Int) := by omega
      go_enter Tryz.func26, Tryz.ntmps26
      go_wp2
      go_ret
      exact ⟨ret_bool (by simp [h0]), bel1 _ _⟩
    · have q0 : (0 : Int) < (rn : Int) := by omega
      have q1 : ¬ (rn : Int) = (sn : Int) := by omega
      go_enter Tryz.func26, Tryz.ntmps26
      go_wp2
      go_ret
      exact ⟨ret_bool (by simp [h1]; omega), bel1 _ _⟩
  · have q0 : ¬ (0 : Int) < (rn : Int) := by omega
    go_enter Tryz.func26, Tryz.ntmps26
    go_wp2
    go_ret
    exact ⟨ret_bool (by simp), bel1 _ _⟩

set_option maxHeartbeats 2000000 in
theorem indexedCol_any (t : TabD) (x : IdxD) (sv : Value) (C : Nat) (w : World) (hl : IsL kCol (fun k => k < C) w sv t.cols) (hC : C ≤ w.heap.size) :
    Calls Tryz.prog 45 #[.agg #[.string t.name, sv], .agg #[.string x.name, .string x.table, .string x.col]] w fun e w' => e = .returned (.int .i64 (idxAt t x)) ∧ Below w.heap.size w w' := by
  obtain ⟨tn, cols⟩ := t
  obtain ⟨xn, xt, xc⟩ := x
  simp only at hl ⊢
  obtain ⟨ao, c, rfl⟩ := hl.shape
  have hb2 := bel2 w (.cells #[.string tn, .slice ao cols.length c] 28) (.cells #[.string xn, .string xt, .string xc] 46)
  have HF := findCol_any cols tn (.slice ao cols.length c) xc C _ (hl.keep (keepsC (hb2.mono hC))) (Nat.le_trans hC hb2.size)
  have E : Hid (idxAt ⟨tn, cols⟩ ⟨xn, xt, xc⟩ = if xt = tn then colAt cols xc else -1) := rfl
  generalize idxAt ⟨tn, cols⟩ ⟨xn, xt, xc⟩ = r at E
  generalize colAt cols xc = q at E HF
  clear hl
  by_cases h : xt = tn
  · have hq : (xt.toList == tn.toList) = true := by rw [beq_str]; simp [h]
    have E2 : Hid (r = q) := by show _ = _; rw [E.out, if_pos h]
    clear E
    clear h
    go_enter Tryz.func45, Tryz.ntmps45
    go_wp2_with (go_at_call 71; go_fit HF; rintro e w1 ⟨rfl, hb1⟩)
    go_ret
    exact ⟨ret_int (by rw [E2.out]), bthen hb2 hb1⟩
  · have hq : (xt.toList == tn.toList) = false := by rw [beq_str]; simp [h]
    have E2 : Hid (r = -1) := by show _ = _; rw [E.out, if_neg h]
    clear E HF
    go_enter Tryz.func45, Tryz.ntmps45
    go_wp2
    go_ret
    exact ⟨ret_int (by rw [E2.out]), hb2⟩

end Go.Proofs.YtkncamggdfmlnaaGreatDoor

