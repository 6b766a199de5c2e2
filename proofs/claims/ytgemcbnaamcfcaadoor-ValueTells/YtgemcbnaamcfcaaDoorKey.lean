/-
  Contract of value.Key: of a list of good values their key, and no error; of another one nothing, and ErrForm (P1.4). Nothing that was there turns.
-/
import Derived.Test.YtgemcbnaamcfcaaDoorPlain
import Derived.Test.YtgemcbnaamcfcaaDoorMem
import Derived.Test.YtgemcbnaamcfcaaDoorGood
import Derived.Test.YtgemcbnaamcfcaaDoorAppendKey
import Derived.Test.YtgemcbnaamcfcaaDoorRows
import Derived.WalkKit
import Derived.WalkSpells
import Derived.WalkLawsBesides
import Derived.Laws.IdiomStrings
namespace Go.Proofs.YtgemcbnaamcfcaaDoor
open Go.RowKit

/-- A slice of bytes that the call owns, as a text. -/
theorem convert_own {w : World} {base n : Nat} {kv : Value} {bs : List UInt8} (hown : w.ownsRow base 5 1 kv n (bytesV bs)) (hn : n = bs.length) :
    (convert 31 9 kv).run Tryd.prog w = .ok (.string (str bs)) w := by
  subst hn
  rcases hown.2 with ⟨rfl, h0⟩ | ⟨g, c, cur, rfl, _, _, _⟩
  · obtain rfl : bs = [] := by simpa using h0
    exact run_convert_bytes_nil w 31 5 Tryd.underlying31 Tryd.underlying5 0 0 9 Tryd.underlying9
  · refine run_convert_bytes_back w 31 9 5 ⟨g, 0, none⟩ c bs Tryd.underlying31 Tryd.underlying5 Tryd.underlying9 fun j hj => ?_
    exact hown.cells (g := g) rfl j _ (by simp [bytesV, hj])

/-- What Key answers. -/
def keyAns (L : List V) : List UInt8 × Int := if L.all good then (keys L, 0) else ([], 1)
theorem keyAns_good {L : List V} (h : ∀ v ∈ L, good v = true) : keyAns L = (keys L, 0) := by
  have : L.all good = true := by simpa using h
  simp [keyAns, this]
theorem keyAns_bad {L : List V} {v : V} (hv : v ∈ L) (h : good v = false) : keyAns L = ([], 1) := by
  have : L.all good = false := by rw [List.all_eq_false]; exact ⟨v, hv, by simp [h]⟩
  simp [keyAns, this]
theorem take_snoc_of {L : List V} {k : Nat} {v : V} (h : L[k]? = some v) : L.take (k + 1) = L.take k ++ [v] := by
  rw [List.take_add_one, h]; rfl

set_option maxHeartbeats 1000000 in
theorem key_some (L : List V) (b off cap : Nat) (w : World) (hL : HoldsV w b off L) (hb : b < w.heap.size) (hlen : L.length * 32 ≤ 140737488351232) (hss : ∀ v ∈ L, v.s.size ≤ maxLen) :
    Calls Tryd.prog 20 #[.slice (some ⟨b, off, none⟩) L.length cap] w fun e w' => e = .returned (.tuple #[.string (str (keyAns L).1), .int .i64 (keyAns L).2]) ∧ Below w.heap.size w w' := by
  go_enter Tryd.func20, Tryd.ntmps20
  go_wp2
  go_loopw [4, 9] (fun kv i wr => ∃ k : Nat, k ≤ L.length ∧ i = .int .i64 k ∧ (∀ v ∈ L.take k, good v = true) ∧ wr.ownsRow w.heap.size 5 1 kv (keys (L.take k)).length (bytesV (keys (L.take k))) ∧ Below w.heap.size w wr) (fun _ i _ => L.length - (intOf i).toNat)
  case atStart => exact ⟨0, Nat.zero_le _, rfl, by simp, World.ownsRow_nil _ _ _ _, Below.refl _ _⟩
  case round =>
    obtain ⟨k, hk, rfl, hgk, hown, hbel⟩ := hrel
    by_cases hlt : k < L.length
    · obtain ⟨v, hv⟩ : ∃ v, L[k]? = some v := ⟨_, List.getElem?_eq_getElem hlt⟩
      obtain ⟨c0, c1, c2⟩ := hL.below hbel hb k v hv
      have hs : v.s.size ≤ maxLen := hss v (List.mem_of_getElem? hv)
      have hsz := hbel.size
      have hkl := keys_le (L.take k) hgk
      have htl : (L.take k).length ≤ k := List.length_take_le _ _
      have HG : Hid (∀ v ∈ L.take k, good v = true) := hgk
      have HV : Hid (L[k]? = some v) := hv
      clear hgk hv
      cases hg : good v
      · go_wp2_with (go_at_call 4; go_must (refine (good_any v _ hs).mono ?_; rintro e w' ⟨rfl, rfl⟩))
        go_ret2
        refine ⟨?_, (hbel.alloc hsz _).alloc (by simp; omega) _⟩
        rw [keyAns_bad (List.mem_of_getElem? HV.out) hg]
        rfl
      · go_wp2_with (first | (go_at_call 4; go_must (refine (good_any v _ hs).mono ?_; rintro e w' ⟨rfl, rfl⟩)) | (go_at_call 25; go_must (refine (appendKey_any v hg _ _ _ _ ((hown.alloc _).alloc _) ?_ ?_).mono ?_)))
        · simp; omega
        · omega
        · rintro e w1 ⟨kv', rfl, hown1, hbel1⟩
          have hb2 : Below w.heap.size w w1 := ((hbel.alloc hsz _).alloc (by simp; omega) _).trans hbel1
          have ht := take_snoc_of HV.out
          have ho2 : w1.ownsRow w.heap.size 5 1 kv' (keys (L.take (k + 1))).length (bytesV (keys (L.take (k + 1)))) := by rw [ht, keys_snoc]; exact hown1
          have hg2 : Hid (∀ v ∈ L.take (k + 1), good v = true) := by
            rw [ht]; intro x hx; simp at hx; rcases hx with hx | rfl
            · exact HG.out x hx
            · exact hg
          clear hown1 hbel1 hown hbel ht
          go_wp2
          go_roundw
          case rel => exact ⟨k + 1, by omega, by go_num, hg2.out, ho2, hb2⟩
          case measure => simp [intOf]; omega
    · have e : L.take k = L := List.take_of_length_le (by omega)
      rw [e] at hown hgk
      have hc := convert_own hown rfl
      have HA : Hid (keyAns L = (keys L, 0)) := keyAns_good hgk
      clear hgk e
      go_wp2
      go_ret2
      exact ⟨by rw [HA.out]; rfl, hbel⟩

set_option maxHeartbeats 400000 in
theorem key_none (ao : Option Addr) (cap : Nat) (w : World) :
    Calls Tryd.prog 20 #[.slice ao 0 cap] w fun e w' => e = .returned (.tuple #[.string (str (keyAns []).1), .int .i64 (keyAns []).2]) ∧ Below w.heap.size w w' := by
  go_enter Tryd.func20, Tryd.ntmps20
  go_wp2
  refine wp_loop_rounds 1 ?_
  rw [rounds_succ]
  have hc := convert_own (World.ownsRow_nil w w.heap.size 5 1) (bs := []) rfl
  go_wp2
  go_ret2
  exact ⟨rfl, Below.refl _ _⟩

end Go.Proofs.YtgemcbnaamcfcaaDoor
