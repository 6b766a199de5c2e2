/-
  Contract of value.appendKey: of a good value, its key's bytes are appended to a slice that the call owns; nothing else turns.
-/
import Derived.Test.YtgemcbnaamcfcaaDoorPlain
import Derived.Test.YtgemcbnaamcfcaaDoorMem
import Derived.Test.YtgemcbnaamcfcaaDoorRows
import Derived.WalkKit
import Derived.WalkSpells
import Derived.WalkLawsBesides
import Derived.Lib.AppendStr
namespace Go.Proofs.YtgemcbnaamcfcaaDoor
open Go.RowKit

theorem info_u8 : (Tryd.prog.info? 5).map (fun i => (i.zero, i.size, i.bytes)) = some (some (.int .u8 0), 1, 1) := by kernel_rfl

set_option maxHeartbeats 400000 in
theorem appendKey_nothing (n : Int) (s : ByteArray) (kv : Value) (bs : List UInt8) (base : Nat) (w : World) (hown : w.ownsRow base 5 1 kv bs.length (bytesV bs))
    (hb : base ≤ w.heap.size) (hsz : bs.length + 10 ≤ 140737488355328) :
    Calls Tryd.prog 25 #[kv, .agg #[.int .i64 0, .int .i64 n, .string s]] w fun e w' => ∃ kv', e = .returned kv' ∧ w'.ownsRow base 5 1 kv' (bs.length + 1) (bytesV (bs ++ [1])) ∧ Below base w w' := by
  obtain ⟨i0, hi, hz0, hz1, hz2⟩ := info_parts info_u8
  have H1 : ((w.alloc (Obj.cells #[Value.int IntKind.i64 0, Value.int IntKind.i64 n, Value.string s] 23)).alloc (Obj.cells #[Value.int IntKind.u8 1] 5)).ownsRow base 5 1 kv bs.length (bytesV bs) := (hown.alloc _).alloc _
  have B1 := block_alloc_of (block_alloc_at w (Obj.cells #[Value.int IntKind.i64 0, Value.int IntKind.i64 n, Value.string s] 23)) (Obj.cells #[Value.int IntKind.u8 1] 5)
  have N1 := cells_new (w.alloc (Obj.cells #[Value.int IntKind.i64 0, Value.int IntKind.i64 n, Value.string s] 23)) [Value.int IntKind.u8 1] 5
  go_enter Tryd.func25, Tryd.ntmps25
  go_wp2_with (at_builtin; go_must (refine wpList_append_own _ rfl (.tmp 6) (.tmp 11) 31 rfl base 5 i0 (.int .u8 0) 1 1 Tryd.underlying31 hi hz0 hz1 hz2 rfl (by decide) kv _ _ rfl H1 ⟨w.heap.size + 1, 0, none⟩ 1 1 [.int .u8 1] rfl rfl ?_ ?_ ?_ ?_ ?_ ?_))
  · simpa using N1
  · intro u hu; simp at hu; subst hu; rfl
  · unfold maxLen; omega
  · omega
  · simp; omega
  · intro kv1 w1 hown1 hg1 _
    have B2 := block_grown hg1 B1 (own_ne H1 B1 (by decide))
    have C0 := cell_of_block B2 (j := 0) rfl
    have C1 := cell_of_block B2 (j := 1) rfl
    have C2 := cell_of_block B2 (j := 2) rfl
    have Bl : Below base w w1 := (((Below.refl _ _).alloc hb _).alloc (by simp; omega) _).trans (below_append H1 (by simp; omega) hg1)
    have O1 : w1.ownsRow base 5 1 kv1 (bs.length + 1) (bytesV (bs ++ [1])) := by rw [bytesV_append]; exact hown1
    clear B2 hg1 H1 B1 N1 hown1 hown
    go_wp2
    go_ret
    exact ⟨_, rfl, O1, Bl⟩

set_option maxHeartbeats 400000 in
theorem appendKey_number (n : Int) (s : ByteArray) (kv : Value) (bs : List UInt8) (base : Nat) (w : World) (hown : w.ownsRow base 5 1 kv bs.length (bytesV bs))
    (hb : base ≤ w.heap.size) (hsz : bs.length + 10 ≤ 140737488355328) (hn : -1000000 ≤ n) (hm : n ≤ 1000000) :
    Calls Tryd.prog 25 #[kv, .agg #[.int .i64 1, .int .i64 n, .string s]] w fun e w' => ∃ kv', e = .returned kv' ∧ w'.ownsRow base 5 1 kv' (bs.length + 5) (bytesV (bs ++ 2 :: be4 (n + 1073741824).toNat)) ∧ Below base w w' := by
  obtain ⟨i0, hi, hz0, hz1, hz2⟩ := info_parts info_u8
  have H1 : ((w.alloc (Obj.cells #[Value.int IntKind.i64 1, Value.int IntKind.i64 n, Value.string s] 23)).alloc (Obj.cells #[Value.int IntKind.u8 2] 5)).ownsRow base 5 1 kv bs.length (bytesV bs) := (hown.alloc _).alloc _
  have B1 := block_alloc_of (block_alloc_at w (Obj.cells #[Value.int IntKind.i64 1, Value.int IntKind.i64 n, Value.string s] 23)) (Obj.cells #[Value.int IntKind.u8 2] 5)
  have N1 := cells_new (w.alloc (Obj.cells #[Value.int IntKind.i64 1, Value.int IntKind.i64 n, Value.string s] 23)) [Value.int IntKind.u8 2] 5
  go_enter Tryd.func25, Tryd.ntmps25
  go_wp2_with (at_builtin; go_must (refine wpList_append_own _ rfl (.tmp 6) (.tmp 11) 31 rfl base 5 i0 (.int .u8 0) 1 1 Tryd.underlying31 hi hz0 hz1 hz2 rfl (by decide) kv _ _ rfl H1 ⟨w.heap.size + 1, 0, none⟩ 1 1 [.int .u8 2] rfl rfl ?_ ?_ ?_ ?_ ?_ ?_))
  · simpa using N1
  · intro u hu; simp at hu; subst hu; rfl
  · unfold maxLen; omega
  · omega
  · simp; omega
  · intro kv1 w1 hown1 hg1 _
    have B2 := block_grown hg1 B1 (own_ne H1 B1 (by decide))
    have C0 := cell_of_block B2 (j := 0) rfl
    have C1 := cell_of_block B2 (j := 1) rfl
    have C2 := cell_of_block B2 (j := 2) rfl
    have Bl : Below base w w1 := (((Below.refl _ _).alloc hb _).alloc (by simp; omega) _).trans (below_append H1 (by simp; omega) hg1)
    have O1 : w1.ownsRow base 5 1 kv1 (bs.length + 1) (bytesV (bs ++ [2])) := by rw [bytesV_append]; exact hown1
    have S1 := hg1.size
    simp at S1
    clear B2 hg1 H1 B1 N1 hown1 hown
    have M0 : 0 ≤ n + 1073741824 := by omega
    have M1 : n + 1073741824 < 4294967296 := by omega
    have E := be4V (n + 1073741824) M0 M1
    have O2 := O1.alloc (Obj.cells #[Value.int IntKind.u8 ((n + 1073741824) / 16777216), Value.int IntKind.u8 ((n + 1073741824) / 65536 % 256), Value.int IntKind.u8 ((n + 1073741824) / 256 % 256), Value.int IntKind.u8 ((n + 1073741824) % 256)] 5)
    have N2 := cells_new w1 [Value.int IntKind.u8 ((n + 1073741824) / 16777216), Value.int IntKind.u8 ((n + 1073741824) / 65536 % 256), Value.int IntKind.u8 ((n + 1073741824) / 256 % 256), Value.int IntKind.u8 ((n + 1073741824) % 256)] 5
    have EH : Hid (bytesV (be4 (n + 1073741824).toNat) = [.int .u8 ((n + 1073741824) / 16777216), .int .u8 ((n + 1073741824) / 65536 % 256), .int .u8 ((n + 1073741824) / 256 % 256), .int .u8 ((n + 1073741824) % 256)]) := E
    clear E
    go_wp2_with (at_builtin; go_must (refine wpList_append_own _ rfl (.tmp 21) (.tmp 33) 31 rfl base 5 i0 (.int .u8 0) 1 1 Tryd.underlying31 hi hz0 hz1 hz2 rfl (by decide) kv1 _ _ rfl O2 ⟨w1.heap.size, 0, none⟩ 4 4 _ rfl rfl N2 ?_ ?_ ?_ ?_ ?_))
    · intro u hu; simp at hu; rcases hu with rfl | rfl | rfl | rfl <;> rfl
    · unfold maxLen; omega
    · omega
    · simp; omega
    · intro kv2 w2 hown2 hg2 _
      have Bl2 : Below base w w2 := (Bl.alloc (by omega) _).trans (below_append O2 (by simp; omega) hg2)
      have O3 : w2.ownsRow base 5 1 kv2 (bs.length + 5) (bytesV (bs ++ 2 :: be4 (n + 1073741824).toNat)) := by
        rw [show bs ++ 2 :: be4 (n + 1073741824).toNat = (bs ++ [2]) ++ be4 (n + 1073741824).toNat from by simp, bytesV_append, EH.out]; exact hown2
      clear O2 N2 hown2 hg2 O1 Bl EH
      go_wp2
      go_ret
      exact ⟨_, rfl, O3, Bl2⟩

set_option maxHeartbeats 1000000 in
theorem appendKey_text (n : Int) (s : ByteArray) (kv : Value) (bs : List UInt8) (base : Nat) (w : World) (hown : w.ownsRow base 5 1 kv bs.length (bytesV bs))
    (hb : base ≤ w.heap.size) (hsz : bs.length + 10 ≤ 140737488355328) (h8 : s.size ≤ 8) :
    Calls Tryd.prog 25 #[kv, .agg #[.int .i64 2, .int .i64 n, .string s]] w fun e w' => ∃ kv', e = .returned kv' ∧ w'.ownsRow base 5 1 kv' (bs.length + (s.size + 2)) (bytesV (bs ++ 3 :: (s.data.toList ++ [0]))) ∧ Below base w w' := by
  obtain ⟨i0, hi, hz0, hz1, hz2⟩ := info_parts info_u8
  have H1 : ((w.alloc (Obj.cells #[Value.int IntKind.i64 2, Value.int IntKind.i64 n, Value.string s] 23)).alloc (Obj.cells #[Value.int IntKind.u8 3] 5)).ownsRow base 5 1 kv bs.length (bytesV bs) := (hown.alloc _).alloc _
  have B1 := block_alloc_of (block_alloc_at w (Obj.cells #[Value.int IntKind.i64 2, Value.int IntKind.i64 n, Value.string s] 23)) (Obj.cells #[Value.int IntKind.u8 3] 5)
  have N1 := cells_new (w.alloc (Obj.cells #[Value.int IntKind.i64 2, Value.int IntKind.i64 n, Value.string s] 23)) [Value.int IntKind.u8 3] 5
  go_enter Tryd.func25, Tryd.ntmps25
  go_wp2_with (at_builtin; go_must (refine wpList_append_own _ rfl (.tmp 6) (.tmp 11) 31 rfl base 5 i0 (.int .u8 0) 1 1 Tryd.underlying31 hi hz0 hz1 hz2 rfl (by decide) kv _ _ rfl H1 ⟨w.heap.size + 1, 0, none⟩ 1 1 [.int .u8 3] rfl rfl ?_ ?_ ?_ ?_ ?_ ?_))
  · simpa using N1
  · intro u hu; simp at hu; subst hu; rfl
  · unfold maxLen; omega
  · omega
  · simp; omega
  · intro kv1 w1 hown1 hg1 _
    have B2 := block_grown hg1 B1 (own_ne H1 B1 (by decide))
    have C0 := cell_of_block B2 (j := 0) rfl
    have C1 := cell_of_block B2 (j := 1) rfl
    have C2 := cell_of_block B2 (j := 2) rfl
    have Bl : Below base w w1 := (((Below.refl _ _).alloc hb _).alloc (by simp; omega) _).trans (below_append H1 (by simp; omega) hg1)
    have O1 : w1.ownsRow base 5 1 kv1 (bs.length + 1) (bytesV (bs ++ [3])) := by rw [bytesV_append]; exact hown1
    have S1 := hg1.size
    simp at S1
    clear B2 hg1 H1 B1 N1 hown1 hown
    go_wp2_with (at_builtin; go_must (refine Lib.wpList_append_own_string _ rfl (.tmp 37) (.tmp 39) 31 9 rfl base 5 i0 Tryd.underlying31 Tryd.underlying9 hi hz0 hz1 hz2 kv1 _ _ rfl O1 s rfl ?_ ?_ ?_ ?_))
    · unfold maxLen; omega
    · omega
    · omega
    · intro kv2 w2 hown2 hg2 _
      have Bl2 : Below base w w2 := Bl.trans (below_append O1 (by omega) hg2)
      have S2 := hg2.size
      have O2 := hown2.alloc (Obj.cells #[Value.int IntKind.u8 0] 5)
      have N2 := cells_new w2 [Value.int IntKind.u8 0] 5
      clear hg2 hown2 O1 Bl
      go_wp2_with (at_builtin; go_must (refine wpList_append_own _ rfl (.tmp 41) (.tmp 42) 31 rfl base 5 i0 (.int .u8 0) 1 1 Tryd.underlying31 hi hz0 hz1 hz2 rfl (by decide) kv2 _ _ rfl O2 ⟨w2.heap.size, 0, none⟩ 1 1 [.int .u8 0] rfl rfl N2 ?_ ?_ ?_ ?_ ?_))
      · intro u hu; simp at hu; subst hu; rfl
      · unfold maxLen; omega
      · omega
      · simp; omega
      · intro kv3 w3 hown3 hg3 _
        have Bl3 : Below base w w3 := (Bl2.alloc (by omega) _).trans (below_append O2 (by simp; omega) hg3)
        have O3 : w3.ownsRow base 5 1 kv3 (bs.length + (s.size + 2)) (bytesV (bs ++ 3 :: (s.data.toList ++ [0]))) := by
          rw [show bs ++ 3 :: (s.data.toList ++ [0]) = ((bs ++ [3]) ++ s.data.toList) ++ [0] from by simp, bytesV_append, bytesV_append (bs ++ [3]), show bs.length + (s.size + 2) = bs.length + 1 + s.size + 1 from by omega, List.append_assoc]; exact hown3
        clear O2 N2 hown3 hg3 Bl2
        go_wp2
        go_ret
        exact ⟨_, rfl, O3, Bl3⟩

/-- OF A GOOD VALUE: its key is appended. -/
theorem appendKey_any (v : V) (hg : good v = true) (kv : Value) (bs : List UInt8) (base : Nat) (w : World) (hown : w.ownsRow base 5 1 kv bs.length (bytesV bs))
    (hb : base ≤ w.heap.size) (hsz : bs.length + 10 ≤ 140737488355328) :
    Calls Tryd.prog 25 #[kv, v.val] w fun e w' => ∃ kv', e = .returned kv' ∧ w'.ownsRow base 5 1 kv' (bs ++ keyOf v).length (bytesV (bs ++ keyOf v)) ∧ Below base w w' := by
  obtain ⟨k, n, s⟩ := v
  unfold good at hg
  simp only at hg
  by_cases h0 : k = 0
  · subst h0
    have e : (bs ++ keyOf ⟨0, n, s⟩).length = bs.length + 1 := by rw [keyOf_nothing rfl]; simp
    rw [e, keyOf_nothing rfl]
    exact appendKey_nothing n s kv bs base w hown hb hsz
  by_cases h1 : k = 1
  · subst h1
    simp at hg
    have e : (bs ++ keyOf ⟨1, n, s⟩).length = bs.length + 5 := by rw [keyOf_number rfl]; simp [be4]
    rw [e, keyOf_number rfl]
    exact appendKey_number n s kv bs base w hown hb hsz (by omega) (by omega)
  by_cases h2 : k = 2
  · subst h2
    simp at hg
    have := appendKey_text n s kv bs base w hown hb hsz (by omega)
    have e : (bs ++ keyOf ⟨2, n, s⟩).length = bs.length + (s.size + 2) := by rw [keyOf_text rfl, List.length_append, List.length_cons, List.length_append, size_toList]; rfl
    rw [e, keyOf_text rfl]
    exact this
  · simp [h0, h1, h2] at hg

end Go.Proofs.YtgemcbnaamcfcaaDoor
