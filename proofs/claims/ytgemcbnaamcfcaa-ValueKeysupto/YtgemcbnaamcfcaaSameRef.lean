/-
  Contract of the statements' own SameValues: of two slices that have the same values: true. Nothing turns.
-/
import Derived.Test.YtgemcbnaamcfcaaArgs
import Derived.WalkKit
import Derived.WalkSpells
import Derived.WalkLawsBesides
import Derived.Deep.QuietTactic
import Derived.BigQuiet
namespace Go.Proofs.Ytgemcbnaamcfcaa
open Go.RowKit

set_option maxHeartbeats 400000 in
theorem sameValues_empty (ao bo : Option Addr) (ca cb : Nat) (w : World) :
    Calls Try.prog 11 #[.slice ao 0 ca, .slice bo 0 cb] w fun e w' => e = .returned (.bool true) ∧ Below w.heap.size w w' := by
  go_enter Try.func11, Try.ntmps11
  go_wp2
  refine wp_loop_rounds 1 ?_
  rw [rounds_succ]
  go_wp2
  go_ret
  exact ⟨rfl, Below.refl _ _⟩

set_option maxHeartbeats 2000000 in
theorem sameValues_some (L : List V) (ba oa ca bb ob cb : Nat) (w : World) (ha : HoldsV w ba oa L) (hb : HoldsV w bb ob L) (hba : ba < w.heap.size) (hbb : bb < w.heap.size) (hl : L.length ≤ maxLen) :
    Calls Try.prog 11 #[.slice (some ⟨ba, oa, none⟩) L.length ca, .slice (some ⟨bb, ob, none⟩) L.length cb] w fun e w' => e = .returned (.bool true) ∧ Below w.heap.size w w' := by
  unfold maxLen at hl
  go_enter Try.func11, Try.ntmps11
  go_wp2
  go_loopw [13] (fun i wr => ∃ k : Nat, k ≤ L.length ∧ i = .int .i64 k ∧ Below w.heap.size w wr) (fun i _ => L.length - (intOf i).toNat)
  case atStart => exact ⟨0, Nat.zero_le _, rfl, Below.refl _ _⟩
  case round =>
    obtain ⟨k, hk, rfl, hbel⟩ := hrel
    by_cases hlt : k < L.length
    · obtain ⟨⟨k1, n1, s1⟩, hv⟩ : ∃ v, L[k]? = some v := ⟨_, List.getElem?_eq_getElem hlt⟩
      obtain ⟨c0, c1, c2⟩ := ha.below hbel hba k _ hv
      obtain ⟨d0, d1, d2⟩ := hb.below hbel hbb k _ hv
      have i0 : (0 : Int) ≤ (k : Int) := by omega
      have i1 : (k : Int) < (L.length : Int) := by omega
      clear hv
      go_wp2
      go_quiet (fail)
      go_wp2
      go_roundw
      case rel => exact ⟨k + 1, by omega, by go_num, below_drewN hbel _⟩
      case measure => simp [intOf]; omega
    · go_wp2
      go_ret
      exact ⟨rfl, hbel⟩

theorem sameValues_any (L : List V) (av bv : Value) (w : World) (ha : IsVals w av L) (hb : IsVals w bv L) (hl : L.length ≤ maxLen) :
    Calls Try.prog 11 #[av, bv] w fun e w' => e = .returned (.bool true) ∧ Below w.heap.size w w' := by
  rcases ha with ⟨⟨ao, ca, rfl, _⟩, rfl⟩ | ⟨ba, oa, ca, rfl, hba, ha⟩
  · obtain ⟨bo, cb, rfl⟩ := hb.shape
    exact sameValues_empty ao bo ca cb w
  · rcases hb with ⟨⟨bo, cb, rfl, _⟩, rfl⟩ | ⟨bb, ob, cb, rfl, hbb, hb⟩
    · exact sameValues_empty _ bo ca cb w
    · exact sameValues_some L ba oa ca bb ob cb w ha hb hba hbb hl

end Go.Proofs.Ytgemcbnaamcfcaa
