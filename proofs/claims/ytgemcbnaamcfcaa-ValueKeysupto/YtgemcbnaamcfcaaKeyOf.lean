/-
  Contract of the statements' own KeyOf: the document's answer to Key (P1.4). Nothing that was there turns.
-/
import Derived.Test.YtgemcbnaamcfcaaPlain
import Derived.Test.YtgemcbnaamcfcaaMem
import Derived.Test.YtgemcbnaamcfcaaIsValue
import Derived.Test.YtgemcbnaamcfcaaArgs
import Derived.Test.YtgemcbnaamcfcaaOrderMath
import Derived.Test.YtgemcbnaamcfcaaRows
import Derived.WalkKit
import Derived.WalkSpells
import Derived.WalkLawsBesides
import Derived.Laws.IdiomStrings
namespace Go.Proofs.Ytgemcbnaamcfcaa
open Go.RowKit

theorem convert_four (W : World) (a b c d : UInt8) :
    (convert 37 9 (.slice (some ⟨W.heap.size, 0, none⟩) 4 4)).run Try.prog (W.alloc (.cells #[.int .u8 (a.toNat : Int), .int .u8 (b.toNat : Int), .int .u8 (c.toNat : Int), .int .u8 (d.toNat : Int)] 5)) =
      .ok (.string (str [a, b, c, d])) (W.alloc (.cells #[.int .u8 (a.toNat : Int), .int .u8 (b.toNat : Int), .int .u8 (c.toNat : Int), .int .u8 (d.toNat : Int)] 5)) := by
  refine run_convert_bytes_back _ 37 9 5 ⟨W.heap.size, 0, none⟩ 4 [a, b, c, d] Try.underlying37 Try.underlying5 Try.underlying9 fun j hj => ?_
  refine cells_new W [.int .u8 (a.toNat : Int), .int .u8 (b.toNat : Int), .int .u8 (c.toNat : Int), .int .u8 (d.toNat : Int)] 5 j _ ?_
  match j, hj with
  | 0, _ => rfl
  | 1, _ => rfl
  | 2, _ => rfl
  | 3, _ => rfl

theorem convert_be4 (m : Int) (h0 : 0 ≤ m) (h1 : m < 4294967296) (W : World) :
    (convert 37 9 (.slice (some ⟨W.heap.size, 0, none⟩) 4 4)).run Try.prog (W.alloc (.cells #[.int .u8 (m / 16777216), .int .u8 (m / 65536 % 256), .int .u8 (m / 256 % 256), .int .u8 (m % 256)] 5)) =
      .ok (.string (str (be4 m.toNat))) (W.alloc (.cells #[.int .u8 (m / 16777216), .int .u8 (m / 65536 % 256), .int .u8 (m / 256 % 256), .int .u8 (m % 256)] 5)) := by
  have := convert_four W (UInt8.ofNat (m.toNat / 16777216)) (UInt8.ofNat (m.toNat / 65536)) (UInt8.ofNat (m.toNat / 256)) (UInt8.ofNat m.toNat)
  have e := be4V m h0 h1
  simp only [bytesV, be4, List.map_cons, List.map_nil, List.cons.injEq, and_true] at e
  rw [e.1, e.2.1, e.2.2.1, e.2.2.2] at this
  exact this

theorem key_text_str (s : ByteArray) : (⟨#[3]⟩ ++ s) ++ ⟨#[0]⟩ = str (3 :: (s.data.toList ++ [0])) := by
  have e : str (3 :: (s.data.toList ++ [0])) = (str [3] ++ str s.data.toList) ++ str [0] := by rw [str_append, str_append]; simp
  rw [e, str_toList]; rfl

set_option maxHeartbeats 2000000 in
theorem keyOf_some (L : List V) (b off cap : Nat) (w : World) (hL : HoldsV w b off L) (hb : b < w.heap.size) (hlen : L.length ≤ 1048576) (hss : ∀ v ∈ L, v.s.size ≤ maxLen) :
    Calls Try.prog 8 #[.slice (some ⟨b, off, none⟩) L.length cap] w fun e w' => e = .returned (.tuple #[.string (str (keyAns L).1), .int .i64 (keyAns L).2]) ∧ Below w.heap.size w w' := by
  go_enter Try.func8, Try.ntmps8
  go_wp2
  go_loopw [4, 10] (fun sv i wr => ∃ k : Nat, k ≤ L.length ∧ i = .int .i64 k ∧ (∀ v ∈ L.take k, good v = true) ∧ sv = .string (str (keys (L.take k))) ∧ Below w.heap.size w wr) (fun _ i _ => L.length - (intOf i).toNat)
  case atStart => exact ⟨0, Nat.zero_le _, rfl, by simp, rfl, Below.refl _ _⟩
  case round =>
    obtain ⟨k, hk, rfl, hgk, rfl, hbel⟩ := hrel
    by_cases hlt : k < L.length
    · obtain ⟨v, hv⟩ : ∃ v, L[k]? = some v := ⟨_, List.getElem?_eq_getElem hlt⟩
      obtain ⟨c0, c1, c2⟩ := hL.below hbel hb k v hv
      have hs : v.s.size ≤ maxLen := hss v (List.mem_of_getElem? hv)
      have hsz := hbel.size
      have hkl := keys_le (L.take k) hgk
      have htl : (L.take k).length ≤ k := List.length_take_le _ _
      have HG : Hid (∀ v ∈ L.take k, good v = true) := hgk
      have HV : Hid (L[k]? = some v) := hv
      have hks : (str (keys (L.take k))).size ≤ 10485760 := by rw [str_size]; omega
      have HT : Hid (keys (L.take (k + 1)) = keys (L.take k) ++ keyOf v) := by show _ = _; rw [take_snoc_of HV.out, keys_snoc]
      clear hgk hv hkl htl
      have hiv := fun w => isValue_any v w hs
      obtain ⟨kd, n, s⟩ := v
      cases hg : good ⟨kd, n, s⟩
      · rw [hg] at hiv
        go_wp2_with (go_at_call 21; go_must (refine (hiv _).mono ?_; rintro e w1 ⟨rfl, hb1⟩))
        go_ret2
        refine ⟨?_, bthen (hbel.alloc hsz _) hb1⟩
        rw [keyAns_bad (List.mem_of_getElem? HV.out) hg]
        rfl
      · rw [hg] at hiv
        have HG2 : Hid (∀ v ∈ L.take (k + 1), good v = true) := by
          show _
          rw [take_snoc_of HV.out]; intro x hx; simp at hx; rcases hx with hx | rfl
          · exact HG.out x hx
          · exact hg
        generalize hx : str (keys (L.take k)) = x at hks ⊢
        have HX : Hid (str (keys (L.take k)) = x) := hx
        clear hx
        by_cases h0 : kd = 0
        · subst h0
          go_wp2_with (go_at_call 21; go_must (refine (hiv _).mono ?_; rintro e w1 ⟨rfl, hb1⟩; obtain ⟨hcc, hff⟩ := bcell hb1))
          go_roundw
          case rel => exact ⟨k + 1, by omega, by go_num, HG2.out, by rw [HT.out, ← str_append, HX.out, keyOf_nothing rfl]; rfl, bthen (hbel.alloc hsz _) hb1⟩
          case measure => simp [intOf]; omega
        by_cases h1 : kd = 1
        · subst h1
          have hn := good_num (v := ⟨1, n, s⟩) rfl hg
          simp only at hn
          obtain ⟨hn1, hn2⟩ := hn
          have hcv := convert_be4 (n + 1073741824) (by omega) (by omega)
          have hz4 : (str (be4 (n + 1073741824).toNat)).size = 4 := by rw [str_size]; rfl
          generalize hy : str (be4 (n + 1073741824).toNat) = y at hcv hz4
          have HY : Hid (str (be4 (n + 1073741824).toNat) = y) := hy
          clear hy
          go_wp2_with (go_at_call 21; go_must (refine (hiv _).mono ?_; rintro e w1 ⟨rfl, hb1⟩; obtain ⟨hcc, hff⟩ := bcell hb1))
          have hs1 := hb1.size
          go_roundw
          case rel => exact ⟨k + 1, by omega, by go_num, HG2.out, by rw [HT.out, ← str_append, HX.out, keyOf_number rfl, ← HY.out]; exact congrArg (fun z => Value.string (x ++ z)) (str_append [2] _), (bthen (hbel.alloc hsz _) hb1).alloc (by simp at hs1; omega) _⟩
          case measure => simp [intOf]; omega
        have h2 : kd = 2 := by
          rcases good_kind hg with e | e | e
          · exact absurd e h0
          · exact absurd e h1
          · exact e
        subst h2
        have hs8 : s.size ≤ 8 := by simp [good] at hg; exact hg.1.2
        go_wp2_with (go_at_call 21; go_must (refine (hiv _).mono ?_; rintro e w1 ⟨rfl, hb1⟩; obtain ⟨hcc, hff⟩ := bcell hb1))
        go_roundw
        case rel => exact ⟨k + 1, by omega, by go_num, HG2.out, by rw [HT.out, ← str_append, HX.out, keyOf_text rfl]; exact congrArg (fun z => Value.string (x ++ z)) (key_text_str s), bthen (hbel.alloc hsz _) hb1⟩
        case measure => simp [intOf]; omega
    · have e : L.take k = L := List.take_of_length_le (by omega)
      rw [e] at hgk ⊢
      have HA : Hid (keyAns L = (keys L, 0)) := keyAns_good hgk
      clear hgk e
      go_wp2
      go_ret2
      exact ⟨by rw [HA.out]; rfl, hbel⟩

set_option maxHeartbeats 400000 in
theorem keyOf_none (ao : Option Addr) (cap : Nat) (w : World) :
    Calls Try.prog 8 #[.slice ao 0 cap] w fun e w' => e = .returned (.tuple #[.string (str (keyAns []).1), .int .i64 (keyAns []).2]) ∧ Below w.heap.size w w' := by
  go_enter Try.func8, Try.ntmps8
  go_wp2
  refine wp_loop_rounds 1 ?_
  rw [rounds_succ]
  go_wp2
  go_ret2
  exact ⟨rfl, Below.refl _ _⟩

theorem keyOf_any (L : List V) (v : Value) (w : World) (hv : IsVals w v L) (hlen : L.length ≤ 1048576) (hss : ∀ v ∈ L, v.s.size ≤ maxLen) :
    Calls Try.prog 8 #[v] w fun e w' => e = .returned (.tuple #[.string (str (keyAns L).1), .int .i64 (keyAns L).2]) ∧ Below w.heap.size w w' := by
  rcases hv with ⟨⟨ao, cap, rfl, _⟩, rfl⟩ | ⟨b, off, cap, rfl, hb, hL⟩
  · exact keyOf_none ao cap w
  · exact keyOf_some L b off cap w hL hb hlen hss

end Go.Proofs.Ytgemcbnaamcfcaa
