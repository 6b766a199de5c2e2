/-
  Lists of pairs, as they lie in memory; contracts of the document's SamePairs and DropPair.
-/
import Derived.Test.YtfcdkpkmkepcaaaTRanges
import Derived.Test.YtfcdkpkmkepcaaaTKeepMath
import Derived.Deep.QuietTactic
import Derived.BigQuiet
namespace Go.Proofs.Ytfcdkpkmkepcaaa
open Go.RowKit

abbrev Prs := List (ByteArray × ByteArray)
def prcells (F : Prs) : List Value := F.flatMap fun x => [.string x.1, .string x.2]

theorem prcells_length : ∀ F : Prs, (prcells F).length = F.length * 2
  | [] => rfl
  | r :: F => by
    have := prcells_length F
    simp only [prcells, List.flatMap_cons, List.length_append, List.length_cons, List.length_nil] at this ⊢
    omega
theorem prcells_append (a b : Prs) : prcells (a ++ b) = prcells a ++ prcells b := by simp [prcells]
theorem prcells_one : ∀ F : Prs, ∀ u ∈ prcells F, u.oneCell' = true := by
  intro F u hu
  simp only [prcells, List.mem_flatMap] at hu
  obtain ⟨x, _, hx⟩ := hu
  simp at hx
  rcases hx with rfl | rfl <;> rfl

theorem prcells_at : ∀ (F : Prs) (i : Nat) (r : ByteArray × ByteArray), F[i]? = some r → (prcells F)[i * 2]? = some (.string r.1) ∧ (prcells F)[i * 2 + 1]? = some (.string r.2)
  | x :: F, 0, r, h => by
    simp at h; subst h
    simp [prcells]
  | x :: F, i + 1, r, h => by
    have := prcells_at F i r (by simpa using h)
    have e : prcells (x :: F) = .string x.1 :: .string x.2 :: prcells F := by simp [prcells]
    rw [e, show (i + 1) * 2 = i * 2 + 1 + 1 from by omega]
    exact this

/-- A list of pairs. -/
def IsPairs (w : World) (sv : Value) (F : Prs) : Prop := IsRow 2 w sv F.length (prcells F)

theorem IsPairs.below {w w' : World} {sv : Value} {F : Prs} (h : IsPairs w sv F) (hb : Below w.heap.size w w') : IsPairs w' sv F := IsRow.below h hb
theorem IsPairs.nil (w : World) : IsPairs w (.slice none 0 0) [] := IsRow.nil 2 w

theorem pairs_at {w : World} {ao : Option Addr} {n c i : Nat} {F : Prs} {r : ByteArray × ByteArray} (h : IsPairs w (.slice ao n c) F) (hi : F[i]? = some r) : ∃ b off, ao = some ⟨b, off, none⟩ ∧ b < w.heap.size ∧ w.cell? ⟨b, off + i * 2, none⟩ = some (.string r.1) ∧ w.cell? ⟨b, off + i * 2 + 1, none⟩ = some (.string r.2) := by
  rcases h.2 with ⟨h1, _⟩ | ⟨_, b, off, cap, e, hb, hc, hm, hcell⟩
  · rw [List.eq_nil_of_length_eq_zero h1] at hi; simp at hi
  · simp only [Value.slice.injEq] at e
    obtain ⟨c1, c2⟩ := prcells_at F i r hi
    exact ⟨b, off, e.1, hb, hcell _ _ c1, by rw [Nat.add_assoc]; exact hcell _ _ c2⟩

theorem info_pair : (Try.prog.info? 54).map (fun i => (i.zero, i.size, i.bytes)) = some (some (.agg #[.string ⟨#[]⟩, .string ⟨#[]⟩]), 2, 32) := by kernel_rfl

set_option maxHeartbeats 2000000 in
/-- SamePairs of two lists that are alike. -/
theorem samePairs_any (F : Prs) (av bv : Value) (w : World) (ha : IsPairs w av F) (hb : IsPairs w bv F) (hl : F.length ≤ 1073741824) :
    Calls Try.prog 31 #[av, bv] w fun e w' => e = .returned (.bool true) ∧ Below w.heap.size w w' := by
  obtain ⟨ao, ac, rfl⟩ := IsRow.shape ha
  obtain ⟨bo, bc, rfl⟩ := IsRow.shape hb
  have HA := hid ha
  have HB := hid hb
  clear ha hb
  generalize hn : F.length = n at *
  have HN := hid hn
  clear hn
  go_enter Try.func31, Try.ntmps31
  go_wp2
  go_loopw [13] (fun i wr => ∃ k : Nat, k ≤ n ∧ i = .int .i64 k ∧ Below w.heap.size w wr) (fun i _ => n - (intOf i).toNat)
  case atStart => exact ⟨0, Nat.zero_le _, rfl, Below.refl _ _⟩
  case round =>
    obtain ⟨k, hk, rfl, hbel⟩ := hrel
    by_cases hlt : k < n
    · obtain ⟨⟨s, v⟩, hsv⟩ : ∃ x, F[k]? = some x := ⟨_, List.getElem?_eq_getElem (by rw [HN.out]; omega)⟩
      obtain ⟨ba, oa, rfl, _, a0, a1⟩ := pairs_at (HA.out.below hbel) hsv
      obtain ⟨bb, ob, rfl, _, b0, b1⟩ := pairs_at (HB.out.below hbel) hsv
      have i0 : (0 : Int) ≤ (k : Int) := by omega
      have i1 : (k : Int) < (n : Int) := by omega
      simp only at a0 a1 b0 b1
      have hss : (s.toList == s.toList) = true := by simp
      have hvv : (v.toList == v.toList) = true := by simp
      clear hsv
      go_wp2
      go_quiet (fail)
      go_wp2
      go_roundw
      case rel => exact ⟨k + 1, by omega, by go_num, below_drewN hbel _⟩
      case measure => simp [intOf]; omega
    · go_wp2
      go_ret
      exact ⟨rfl, hbel⟩

theorem drop_take {F : Prs} {j : Nat} {x : ByteArray × ByteArray} (q : ByteArray × ByteArray → Bool) (h : F[j]? = some x) : (F.take (j + 1)).filter q = (F.take j).filter q ++ (if q x then [x] else []) := by
  rw [List.take_add_one, h, List.filter_append]
  cases hq : q x <;> simp [hq]

set_option maxHeartbeats 4000000 in
/-- DropPair. -/
theorem dropPair_any (F : Prs) (av : Value) (k : ByteArray) (w : World) (ha : IsPairs w av F) (hl : F.length ≤ 1073741824) :
    Calls Try.prog 33 #[av, .string k] w fun e w' => ∃ v, e = .returned v ∧ IsPairs w' v (dropF F k) ∧ Below w.heap.size w w' := by
  obtain ⟨i0, hi, hz0, hz1, hz2⟩ := info_parts info_pair
  obtain ⟨ao, ac, rfl⟩ := IsRow.shape ha
  have HA := hid ha
  clear ha
  generalize hn : F.length = n at *
  have HN := hid hn
  clear hn
  go_enter Try.func33, Try.ntmps33
  go_wp2
  go_loopw [5, 10] (fun z i wr => ∃ (j : Nat) (R : Prs), j ≤ n ∧ i = .int .i64 j ∧ R.length ≤ j ∧ wr.ownsRow w.heap.size 54 2 z R.length (prcells R) ∧ Below w.heap.size w wr ∧ Hid (R = (F.take j).filter fun x => decide (x.1 ≠ k))) (fun _ i _ => n - (intOf i).toNat)
  case atStart => exact ⟨0, [], Nat.zero_le _, rfl, by simp, World.ownsRow_nil _ _ _ _, Below.refl _ _, hid (by simp)⟩
  case round =>
    obtain ⟨j, R, hj, rfl, hRl, hown, hbel, HR⟩ := hrel
    by_cases hlt : j < n
    · obtain ⟨⟨s, v⟩, hsv⟩ : ∃ x, F[j]? = some x := ⟨_, List.getElem?_eq_getElem (by rw [HN.out]; omega)⟩
      obtain ⟨ba, oa, rfl, _, a0, a1⟩ := pairs_at (HA.out.below hbel) hsv
      have j0 : (0 : Int) ≤ (j : Int) := by omega
      have j1 : (j : Int) < (n : Int) := by omega
      simp only at a0 a1
      have hst := drop_take (fun x => decide (x.1 ≠ k)) hsv
      have HST := hid hst
      clear hst hsv
      have hsz := hbel.size
      cases hq : (s.toList == k.toList)
      · have hne : s ≠ k := by rintro rfl; simp at hq
        have hB1 : Below w.heap.size w ((wr.alloc (.cells #[.string s, .string v] 54)).alloc (.cells #[.string s, .string v] 54)) := (hbel.alloc hsz _).alloc (by rw [World.size_alloc]; omega) _
        have hown2 := (hown.alloc (.cells #[.string s, .string v] 54)).alloc (.cells #[.string s, .string v] 54)
        have hbase : w.heap.size ≤ ((wr.alloc (.cells #[.string s, .string v] 54)).alloc (.cells #[.string s, .string v] 54)).heap.size := hB1.size
        have hnew := cells_new (wr.alloc (.cells #[.string s, .string v] 54)) [.string s, .string v] 54
        rw [World.size_alloc] at hnew
        go_wp2_with (at_builtin; go_must (refine wpList_append_own _ rfl _ _ 41 rfl w.heap.size 54 i0 (.agg #[.string ⟨#[]⟩, .string ⟨#[]⟩]) 2 32 Try.underlying41 hi hz0 hz1 hz2 rfl (by decide) _ _ _ rfl hown2 ⟨wr.heap.size + 1, 0, none⟩ 1 1 [.string s, .string v] rfl rfl hnew (by simp; constructor <;> rfl) (by simp only [maxLen]; omega) (by omega) hbase ?_))
        intro z2 w2 hown3 hg2 _
        have hb2 := hB1.trans (below_append hown2 hbase hg2)
        go_wp2
        go_roundw
        case rel =>
          refine ⟨j + 1, R ++ [(s, v)], by omega, by go_num, by simp; omega, ?_, hb2, hid ?_⟩
          · rw [List.length_append, prcells_append]; exact hown3
          · rw [HST.out, HR.out]; simp [hne]
        case measure => simp [intOf]; omega
      · have he : s = k := str_eq_of hq
        go_wp2
        go_roundw
        case rel =>
          refine ⟨j + 1, R, by omega, by go_num, by omega, hown.alloc _, hbel.alloc hsz _, hid ?_⟩
          rw [HST.out, HR.out]; simp [he]
        case measure => simp [intOf]; omega
    · have hjn : j = n := by omega
      go_wp2
      go_ret
      refine ⟨_, rfl, ?_, hbel⟩
      have hR := HR.out
      rw [hjn, ← HN.out, List.take_length] at hR
      unfold dropF
      rw [← hR]
      exact IsRow.of_own hown

end Go.Proofs.Ytfcdkpkmkepcaaa
