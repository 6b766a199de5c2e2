/-
  Contract of the statements' own IsValue: whether a value is good (P1.1). Nothing that was there turns.
-/
import Derived.Test.YtaiflkmlpjnmmaaDoorPlain
import Derived.Test.YtaiflkmlpjnmmaaDoorMem
import Derived.Test.YtaiflkmlpjnmmaaDoorGood
import Derived.Test.YtaiflkmlpjnmmaaDoorRows
import Derived.WalkKit
import Derived.WalkSpells
import Derived.WalkLawsBesides
import Derived.Laws.IdiomStrings
namespace Go.Proofs.YtaiflkmlpjnmmaaDoor
open Go.RowKit

theorem bytesRow_at (s : ByteArray) (cap j : Nat) (h : j < s.size) : (bytesRow s cap)[j]? = some (.int .u8 (s[j].toNat : Int)) := by
  have h' : j < s.data.size := h
  unfold bytesRow
  rw [Array.getElem?_append_left (by simpa using h'), Array.getElem?_map, Array.getElem?_eq_getElem h']
  rfl

theorem nil_iff (s : ByteArray) : s.toList = [] ↔ s.size = 0 := by
  rw [ByteArray.toList_eq, ← size_toList]
  cases s.data.toList <;> simp

/-- What the loop has to its hand. -/
def IsvInv (w : World) (k n : Int) (s : ByteArray) (wr : World) : Prop :=
  wr.heap[w.heap.size]? = some (.cells #[.int .i64 k, .int .i64 n, .string s] 23 (0, 0)) ∧ (∀ j (h : j < s.size), wr.cell? ⟨w.heap.size + 1, j, none⟩ = some (.int .u8 (s[j].toNat : Int))) ∧ Below w.heap.size w wr

theorem isvInv_start (w : World) (k n : Int) (s : ByteArray) (cap : Nat) (fr : Nat × Nat) :
    IsvInv w k n s (((w.alloc (Obj.cells #[.int .i64 k, .int .i64 n, .string s] 23)).alloc (Obj.cells (bytesRow s cap) 5 fr)).drew) := by
  refine ⟨block_alloc_of (block_alloc_at w _) _, fun j h => ?_, (((Below.refl _ _).alloc (Nat.le_refl _) _).alloc (by simp) _).drew⟩
  have := block_alloc_at (w.alloc (Obj.cells #[.int .i64 k, .int .i64 n, .string s] 23)) (Obj.cells (bytesRow s cap) 5 fr)
  refine cell_of_block (t := 5) (fr := fr) ?_ (bytesRow_at s cap j h)
  rw [show (w.alloc (Obj.cells #[.int .i64 k, .int .i64 n, .string s] 23)).heap.size = w.heap.size + 1 from by simp] at this
  exact this

set_option maxHeartbeats 4000000 in
theorem isValue_any (v : V) (w : World) (hs : v.s.size ≤ maxLen) :
    Calls Tryd.prog 6 #[v.val] w fun e w' => e = .returned (.bool (good v)) ∧ Below w.heap.size w w' := by
  obtain ⟨k, n, s⟩ := v
  show Calls Tryd.prog 6 #[.agg #[.int .i64 k, .int .i64 n, .string s]] w _
  have HG : Hid (good ⟨k, n, s⟩ = (if k = 0 then decide (n = 0) && decide (s.size = 0) else if k = 1 then decide (-1000000 ≤ n) && decide (n ≤ 1000000) && decide (s.size = 0) else if k = 2 then decide (n = 0) && decide (s.size ≤ 8) && gtext s.data.toList else false)) := rfl
  generalize good ⟨k, n, s⟩ = G at HG ⊢
  simp only [maxLen] at hs
  have hcv := run_bytes_of_string (P := Tryd.prog) (w.alloc (Obj.cells #[.int .i64 k, .int .i64 n, .string s] 23)) 9 39 5 s Tryd.underlying9 Tryd.underlying39 Tryd.underlying5
  go_enter Tryd.func6, Tryd.ntmps6
  go_wp2
  go_loopw [3, 10] (fun ok i wr => ∃ j : Nat, j ≤ s.size ∧ i = .int .i64 j ∧ ok = .bool (gtext (s.data.toList.take j)) ∧ IsvInv w k n s wr) (fun _ i _ => s.size - (intOf i).toNat)
  case atStart => exact ⟨0, Nat.zero_le _, rfl, rfl, isvInv_start w k n s _ _⟩
  case round =>
    clear hcv
    obtain ⟨j, hj, rfl, rfl, hinv⟩ := hrel
    by_cases hlt : j < s.size
    · have hc := hinv.2.1 j hlt
      have hsn : Hid (gtext (s.data.toList.take (j + 1)) = (gtext (s.data.toList.take j) && goodb (s[j].toNat : Int))) := by show _ = _; rw [take_snoc s j hlt, gtext_snoc]
      have hb : Hid (goodb (s[j].toNat : Int) = (decide (32 ≤ (s[j].toNat : Int)) && decide ((s[j].toNat : Int) ≤ 126) && ((s[j].toNat : Int) != 39))) := rfl
      generalize gtext (s.data.toList.take j) = g at hsn
      generalize (s[j].toNat : Int) = c at hc hsn hb
      cases g
      · go_wp2
        go_roundw
        case rel => exact ⟨j + 1, by omega, by go_num, by rw [hsn.out]; rfl, hinv⟩
        case measure => simp [intOf]; omega
      · by_cases h1 : 32 ≤ c <;> by_cases h2 : c < 127 <;> by_cases h3 : c = 39
        all_goals
          go_wp2
          go_roundw
          case rel => exact ⟨j + 1, by omega, by go_num, by rw [hsn.out, hb.out]; first | rfl | (congr 1; simp_all; done) | (congr 1; simp_all; omega), hinv⟩
          case measure => simp [intOf]; omega
    · have e : s.data.toList.take j = s.data.toList := take_all s j (by omega)
      rw [e]
      clear e
      have C0 := cell_of_block hinv.1 (j := 0) rfl
      have C1 := cell_of_block hinv.1 (j := 1) rfl
      have C2 := cell_of_block hinv.1 (j := 2) rfl
      have hbel := hinv.2.2
      clear hinv
      generalize gtext s.data.toList = g at HG
      have hnil : Hid (s.toList = [] ↔ s.size = 0) := nil_iff s
      by_cases h0 : k = 0
      · subst h0
        go_wp2
        all_goals
          go_ret
          exact ⟨ret_bool (by have hn := hnil.out; rw [HG.out]; simp only [if_true]; simp_all), hbel⟩
      by_cases h1 : k = 1
      · subst h1
        by_cases hse : s.size = 0
        · have he : s.toList.isEmpty = true := by rw [empty_iff]; exact decide_eq_true hse
          rcases (show n < -1000000 ∨ 1000000 < n ∨ (-1000000 ≤ n ∧ n ≤ 1000000) from by omega) with hn | hn | ⟨hn, hm⟩
          all_goals
            go_wp2
            all_goals
              go_ret
              exact ⟨ret_bool (by rw [HG.out]; simp [hse]; try omega), hbel⟩
        · have he : s.toList.isEmpty = false := by rw [empty_iff]; exact decide_eq_false hse
          go_wp2
          all_goals
            go_ret
            exact ⟨ret_bool (by rw [HG.out]; simp [hse]), hbel⟩
      by_cases h2 : k = 2
      · subst h2
        by_cases hn : n = 0
        · subst hn
          cases g <;> by_cases h9 : s.size < 9
          all_goals
            go_wp2
            all_goals
              go_ret
              exact ⟨ret_bool (by rw [HG.out]; simp; try omega), hbel⟩
        · go_wp2
          all_goals
            go_ret
            exact ⟨ret_bool (by rw [HG.out]; simp [hn]), hbel⟩
      go_wp2
      all_goals
        go_ret
        exact ⟨ret_bool (by rw [HG.out]; simp [h0, h1, h2]), hbel⟩

end Go.Proofs.YtaiflkmlpjnmmaaDoor
