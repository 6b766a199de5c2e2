/-
  Contracts of strings.IndexByte, value.firstNumber, value.firstText, value.firstValue: the value with which a text begins, and how many bytes it takes; 0: it begins with none.
-/
import Derived.Test.YtgemcbnaamcfcaaDoorPlain
import Derived.Test.YtgemcbnaamcfcaaDoorMem
import Derived.Test.YtgemcbnaamcfcaaDoorRows
import Derived.WalkKit
import Derived.WalkSpells
import Derived.WalkLawsBesides
import Derived.Lib.Bytealg
import Derived.Lib.IndexLaws
import Derived.Lib.EndianBits
import Derived.Deep.QuietTactic
import Derived.BigQuiet
namespace Go.Proofs.YtgemcbnaamcfcaaDoor
open Go.RowKit

set_option maxHeartbeats 400000 in
theorem sliteIndexByte_any (s : ByteArray) (c : Int) (w : World) :
    Calls Tryd.prog 30 #[.string s, .int .u8 c] w fun e w' => e = .returned (.int .i64 (Lib.indexByte s.data.toList c.toNat.toUInt8)) ∧ w' = w := by
  go_enter Tryd.func30, Tryd.ntmps30
  go_wp2
  rw [run_callFunc_extern Tryd.func31 (by kernel_rfl) (by kernel_rfl) (by kernel_rfl) (e := Extern.BytealgIndexByte.indexByte) (by kernel_rfl), Lib.run_indexByteString]
  simp only [Result.andThen]
  rw [Oper.upon_value]
  go_wp2
  go_ret
  exact ⟨rfl, rfl⟩

set_option maxHeartbeats 400000 in
theorem indexByte_any (s : ByteArray) (c : Int) (w : World) :
    Calls Tryd.prog 29 #[.string s, .int .u8 c] w fun e w' => e = .returned (.int .i64 (Lib.indexByte s.data.toList c.toNat.toUInt8)) ∧ w' = w := by
  go_enter Tryd.func29, Tryd.ntmps29
  go_wp2_with (go_at_call 30; refine (sliteIndexByte_any _ _ _).mono ?_; rintro e w' ⟨rfl, rfl⟩)
  go_ret
  exact ⟨rfl, rfl⟩

set_option maxHeartbeats 400000 in
theorem firstNumber_short (s : ByteArray) (w : World) (h : s.size < 5) :
    Calls Tryd.prog 27 #[.string s] w fun e w' => e = .returned (.tuple #[.agg #[.int .i64 0, .int .i64 0, .string ⟨#[]⟩], .int .i64 0]) ∧ Below w.heap.size w w' := by
  go_enter Tryd.func27, Tryd.ntmps27
  go_wp2
  exact bodyPost_ret (v := .tuple #[.agg #[.int .i64 0, .int .i64 0, .string ⟨#[]⟩], .int .i64 0]) (by simp [results, Tryd.results27, go_sem]) rfl ⟨rfl, (Below.refl _ _).alloc (Nat.le_refl _) _⟩

theorem or4 (a b c d : Nat) (ha : a < 256) (hb : b < 256) (hc : c < 256) (hd : d < 256) :
    bits BinOp.or IntKind.u32 (bits BinOp.or IntKind.u32 (bits BinOp.or IntKind.u32 ((a : Int) * 16777216) ((b : Int) * 65536)) ((c : Int) * 256)) (d : Int) = (a : Int) * 16777216 + (b : Int) * 65536 + (c : Int) * 256 + (d : Int) := by
  have e1 := bits_join .u32 32 (by decide) wraps_u32 24 ((a : Int) * 16777216) ((b : Int) * 65536) (by omega) (by omega) (by omega) (by omega) (by omega) (by omega)
  have e2 := bits_join .u32 32 (by decide) wraps_u32 16 ((a : Int) * 16777216 + (b : Int) * 65536) ((c : Int) * 256) (by omega) (by omega) (by omega) (by omega) (by omega) (by omega)
  have e3 := bits_join .u32 32 (by decide) wraps_u32 8 ((a : Int) * 16777216 + (b : Int) * 65536 + (c : Int) * 256) (d : Int) (by omega) (by omega) (by omega) (by omega) (by omega) (by omega)
  rw [e1, e2, e3]

set_option maxHeartbeats 400000 in
theorem firstNumber_long (s : ByteArray) (w : World) (h : 5 ≤ s.size) (hs : s.size ≤ maxLen) :
    Calls Tryd.prog 27 #[.string s] w fun e w' => e = .returned (.tuple #[.agg #[.int .i64 1, .int .i64 (n4 s.data.toList - 1073741824), .string ⟨#[]⟩], .int .i64 5]) ∧ Below w.heap.size w w' := by
  unfold maxLen at hs
  have h1 : (1 : Int) < (s.size : Int) := by omega
  have h2 : (2 : Int) < (s.size : Int) := by omega
  have h3 : (3 : Int) < (s.size : Int) := by omega
  have h4 : (4 : Int) < (s.size : Int) := by omega
  have b1 : s[1].toNat < 256 := s[1].toNat_lt
  have b2 : s[2].toNat < 256 := s[2].toNat_lt
  have b3 : s[3].toNat < 256 := s[3].toNat_lt
  have b4 : s[4].toNat < 256 := s[4].toNat_lt
  have ho := or4 s[1].toNat s[2].toNat s[3].toNat s[4].toNat b1 b2 b3 b4
  have hn : n4 s.data.toList = (s[1].toNat : Int) * (16777216 : Int) + (s[2].toNat : Int) * (65536 : Int) + (s[3].toNat : Int) * (256 : Int) + (s[4].toNat : Int) := by
    unfold n4; rw [getD_byte s 1 (by omega), getD_byte s 2 (by omega), getD_byte s 3 (by omega), getD_byte s 4 (by omega)]
  rw [← hn] at ho
  have hm0 : 0 ≤ n4 s.data.toList := by omega
  have hm1 : n4 s.data.toList < 4294967296 := by omega
  clear hn
  generalize n4 s.data.toList = m at ho hm0 hm1 ⊢
  go_enter Tryd.func27, Tryd.ntmps27
  go_wp2
  go_quiet (fail)
  go_wp2
  refine bodyPost_ret (v := .tuple #[.agg #[.int .i64 1, .int .i64 (m - 1073741824), .string ⟨#[]⟩], .int .i64 5]) (by simp [results, Tryd.results27, go_sem]) rfl ⟨rfl, ?_⟩
  exact (((below_drewN ((Below.refl _ _).alloc (Nat.le_refl _) _) _).setCell (Nat.le_refl _) _).setCell (Nat.le_refl _) _).setCell (Nat.le_refl _) _

set_option maxHeartbeats 400000 in
theorem firstText_none (s : ByteArray) (w : World) (h : Lib.indexByte s.data.toList 0 < 0) :
    Calls Tryd.prog 28 #[.string s] w fun e w' => e = .returned (.tuple #[.agg #[.int .i64 0, .int .i64 0, .string ⟨#[]⟩], .int .i64 0]) ∧ Below w.heap.size w w' := by
  generalize hi : Lib.indexByte s.data.toList 0 = i at h
  have HI : Hid (Lib.indexByte s.data.toList 0 = i) := hi
  clear hi
  go_enter Tryd.func28, Tryd.ntmps28
  go_wp2_with (go_at_call 29; go_must (refine (indexByte_any _ _ _).mono ?_; rintro e w' ⟨rfl, rfl⟩; rw [show Lib.indexByte s.data.toList (0 : Int).toNat.toUInt8 = i from HI.out]))
  exact bodyPost_ret (v := .tuple #[.agg #[.int .i64 0, .int .i64 0, .string ⟨#[]⟩], .int .i64 0]) (by simp [results, Tryd.results28, go_sem]) rfl ⟨rfl, (Below.refl _ _).alloc (Nat.le_refl _) _⟩

set_option maxHeartbeats 400000 in
theorem firstText_some (s : ByteArray) (w : World) (i : Nat) (hi : Lib.indexByte s.data.toList 0 = i) (h1 : 1 ≤ i) (h2 : i < s.size) (hs : s.size ≤ maxLen) :
    Calls Tryd.prog 28 #[.string s] w fun e w' => e = .returned (.tuple #[.agg #[.int .i64 2, .int .i64 0, .string (s.extract 1 i)], .int .i64 (i + 1)]) ∧ Below w.heap.size w w' := by
  unfold maxLen at hs
  have HI : Hid (Lib.indexByte s.data.toList 0 = i) := hi
  clear hi
  go_enter Tryd.func28, Tryd.ntmps28
  go_wp2_with (go_at_call 29; go_must (refine (indexByte_any _ _ _).mono ?_; rintro e w' ⟨rfl, rfl⟩; rw [show Lib.indexByte s.data.toList (0 : Int).toNat.toUInt8 = i from HI.out]))
  refine bodyPost_ret (v := .tuple #[.agg #[.int .i64 2, .int .i64 0, .string (s.extract 1 i)], .int .i64 (i + 1)]) (by simp [results, Tryd.results28, go_sem]) rfl ⟨rfl, ?_⟩
  exact (Below.refl _ _).alloc (Nat.le_refl _) _

set_option maxHeartbeats 1000000 in
theorem firstValue_call (s : ByteArray) (w : World) (f : Nat) (h0 : 0 < s.size) (k n : Int) (t : ByteArray) (sz : Int)
    (hf : (f = 27 ∧ s[0].toNat = 2) ∨ (f = 28 ∧ s[0].toNat = 3))
    (hc : ∀ w : World, Calls Tryd.prog f #[.string s] w fun e w' => e = .returned (.tuple #[.agg #[.int .i64 k, .int .i64 n, .string t], .int .i64 sz]) ∧ Below w.heap.size w w') :
    Calls Tryd.prog 26 #[.string s] w fun e w' => e = .returned (.tuple #[.agg #[.int .i64 k, .int .i64 n, .string t], .int .i64 sz]) ∧ Below w.heap.size w w' := by
  rcases hf with ⟨rfl, hb⟩ | ⟨rfl, hb⟩
  · have h1 : (s[0].toNat : Int) = 2 := by omega
    go_enter Tryd.func26, Tryd.ntmps26
    go_wp2_with (go_at_call 27; go_must (refine (hc _).mono ?_; rintro e w1 ⟨rfl, hb1⟩; obtain ⟨hcc, hff⟩ := bcell hb1))
    refine bodyPost_ret (v := .tuple #[.agg #[.int .i64 k, .int .i64 n, .string t], .int .i64 sz]) (by simp [results, Tryd.results26, go_sem, hcc]) rfl ⟨rfl, ?_⟩
    exact (((((Below.refl _ _).alloc (Nat.le_refl _) _).trans (hb1.mono (by simp))).setCell (Nat.le_refl _) _).setCell (Nat.le_refl _) _).setCell (Nat.le_refl _) _
  · have h1 : (s[0].toNat : Int) = 3 := by omega
    go_enter Tryd.func26, Tryd.ntmps26
    go_wp2_with (go_at_call 28; go_must (refine (hc _).mono ?_; rintro e w1 ⟨rfl, hb1⟩; obtain ⟨hcc, hff⟩ := bcell hb1))
    refine bodyPost_ret (v := .tuple #[.agg #[.int .i64 k, .int .i64 n, .string t], .int .i64 sz]) (by simp [results, Tryd.results26, go_sem, hcc]) rfl ⟨rfl, ?_⟩
    exact (((((Below.refl _ _).alloc (Nat.le_refl _) _).trans (hb1.mono (by simp))).setCell (Nat.le_refl _) _).setCell (Nat.le_refl _) _).setCell (Nat.le_refl _) _

set_option maxHeartbeats 1000000 in
theorem firstValue_one (s : ByteArray) (w : World) (h0 : 0 < s.size) (hb : s[0].toNat = 1) :
    Calls Tryd.prog 26 #[.string s] w fun e w' => e = .returned (.tuple #[.agg #[.int .i64 0, .int .i64 0, .string ⟨#[]⟩], .int .i64 1]) ∧ Below w.heap.size w w' := by
  have h1 : (s[0].toNat : Int) = 1 := by omega
  go_enter Tryd.func26, Tryd.ntmps26
  go_wp2
  exact bodyPost_ret (v := .tuple #[.agg #[.int .i64 0, .int .i64 0, .string ⟨#[]⟩], .int .i64 1]) (by simp [results, Tryd.results26, go_sem]) rfl ⟨rfl, (Below.refl _ _).alloc (Nat.le_refl _) _⟩

set_option maxHeartbeats 1000000 in
theorem firstValue_other (s : ByteArray) (w : World) (h0 : 0 < s.size) (hb1 : ¬ s[0].toNat = 1) (hb2 : ¬ s[0].toNat = 2) (hb3 : ¬ s[0].toNat = 3) :
    Calls Tryd.prog 26 #[.string s] w fun e w' => e = .returned (.tuple #[.agg #[.int .i64 0, .int .i64 0, .string ⟨#[]⟩], .int .i64 0]) ∧ Below w.heap.size w w' := by
  have hlt : s[0].toNat < 256 := s[0].toNat_lt
  go_enter Tryd.func26, Tryd.ntmps26
  go_wp2
  exact bodyPost_ret (v := .tuple #[.agg #[.int .i64 0, .int .i64 0, .string ⟨#[]⟩], .int .i64 0]) (by simp [results, Tryd.results26, go_sem]) rfl ⟨rfl, (Below.refl _ _).alloc (Nat.le_refl _) _⟩

theorem byte_eq (c : UInt8) (n : Nat) (hn : n < 256) : c = UInt8.ofNat n ↔ c.toNat = n := by
  constructor
  · rintro rfl; simp; omega
  · intro h; rw [← h]; simp

/-- THE FIRST VALUE of a text that is not empty. -/
theorem firstValue_any (s : ByteArray) (w : World) (hs : s.size ≤ maxLen) (h0 : 0 < s.size) :
    Calls Tryd.prog 26 #[.string s] w fun e w' => e = .returned (.tuple #[(fv s.data.toList).1.val, .int .i64 (fv s.data.toList).2]) ∧ Below w.heap.size w w' := by
  have g0 : s.data.toList.getD 0 0 = s[0] := getD_byte s 0 h0
  have q1 : s[0] = 1 ↔ s[0].toNat = 1 := byte_eq s[0] 1 (by omega)
  have q2 : s[0] = 2 ↔ s[0].toNat = 2 := byte_eq s[0] 2 (by omega)
  have q3 : s[0] = 3 ↔ s[0].toNat = 3 := byte_eq s[0] 3 (by omega)
  by_cases h1 : s[0].toNat = 1
  · have e : fv s.data.toList = (zero, 1) := by unfold fv; rw [g0, if_pos (q1.2 h1)]
    rw [e]; exact firstValue_one s w h0 h1
  have n1 : ¬ s[0] = 1 := fun h => h1 (q1.1 h)
  by_cases h2 : s[0].toNat = 2
  · by_cases hl : s.size < 5
    · have e : fv s.data.toList = (zero, 0) := by unfold fv; rw [g0, if_neg n1, if_pos (q2.2 h2), if_pos (by rw [size_toList]; exact hl)]
      rw [e]; exact firstValue_call s w 27 h0 0 0 ⟨#[]⟩ 0 (.inl ⟨rfl, h2⟩) fun w => firstNumber_short s w hl
    · have e : fv s.data.toList = (⟨1, n4 s.data.toList - 1073741824, ⟨#[]⟩⟩, 5) := by unfold fv; rw [g0, if_neg n1, if_pos (q2.2 h2), if_neg (by rw [size_toList]; exact hl)]
      rw [e]; exact firstValue_call s w 27 h0 1 _ ⟨#[]⟩ 5 (.inl ⟨rfl, h2⟩) fun w => firstNumber_long s w (by omega) hs
  have n2 : ¬ s[0] = 2 := fun h => h2 (q2.1 h)
  by_cases h3 : s[0].toNat = 3
  · by_cases hl : Lib.indexByte s.data.toList 0 < 0
    · have e : fv s.data.toList = (zero, 0) := by unfold fv; rw [g0, if_neg n1, if_neg n2, if_pos (q3.2 h3), if_pos hl]
      rw [e]; exact firstValue_call s w 28 h0 0 0 ⟨#[]⟩ 0 (.inr ⟨rfl, h3⟩) fun w => firstText_none s w hl
    · obtain ⟨i, hi⟩ : ∃ i : Nat, Lib.indexByte s.data.toList 0 = i := ⟨(Lib.indexByte s.data.toList 0).toNat, by omega⟩
      have hsome := (Lib.indexByte_some hi).1
      have hlt : i < s.size := by rw [← size_toList]; exact (List.getElem?_eq_some_iff.1 hsome).1
      have hpos : 1 ≤ i := by
        rcases Nat.eq_zero_or_pos i with rfl | h
        · rw [List.getD_eq_getElem?_getD, hsome] at g0
          simp at g0
          rw [← g0] at h3
          simp at h3
        · exact h
      have e : fv s.data.toList = (⟨2, 0, str ((s.data.toList.drop 1).take (i - 1))⟩, i + 1) := by
        unfold fv; rw [g0, if_neg n1, if_neg n2, if_pos (q3.2 h3), if_neg hl, hi]; simp
      have e2 : s.extract 1 i = str ((s.data.toList.drop 1).take (i - 1)) := Lib.extract_eq s 1 i
      rw [e]
      refine firstValue_call s w 28 h0 2 0 _ _ (.inr ⟨rfl, h3⟩) fun w => ?_
      rw [← e2]
      exact firstText_some s w i hi hpos hlt hs
  have n3 : ¬ s[0] = 3 := fun h => h3 (q3.1 h)
  have e : fv s.data.toList = (zero, 0) := by unfold fv; rw [g0, if_neg n1, if_neg n2, if_neg n3]
  rw [e]; exact firstValue_other s w h0 h1 h2 h3

end Go.Proofs.YtgemcbnaamcfcaaDoor
