/-
  Contract of the document's PutPair.
-/
import Derived.Test.YtfcdkpkmkepcaaaDPairs
namespace Go.Proofs.Ytfcdkpkmkepcaaa
open Go.RowKit

set_option maxHeartbeats 8000000 in
/-- PutPair. -/
theorem putPair_any (F : Prs) (av : Value) (k u : ByteArray) (w : World) (ha : IsPairs w av F) (hl : F.length ≤ 1073741824) :
    Calls Try.prog 32 #[av, .string k, .string u] w fun e w' => ∃ v, e = .returned v ∧ IsPairs w' v (putF F k u) ∧ Below w.heap.size w w' := by
  obtain ⟨i0, hi, hz0, hz1, hz2⟩ := info_parts info_pair
  obtain ⟨ao, ac, rfl⟩ := IsRow.shape ha
  have HA := hid ha
  clear ha
  generalize hn : F.length = n at *
  have HN := hid hn
  clear hn
  go_enter Try.func32, Try.ntmps32
  go_wp2
  go_loopw [7, 14] (fun z i wr => ∃ (j : Nat) (R : Prs), j ≤ n ∧ i = .int .i64 j ∧ R.length ≤ j ∧ wr.ownsRow w.heap.size 54 2 z R.length (prcells R) ∧ Below w.heap.size w wr ∧ Hid (R = (F.take j).filter fun x => klt x.1 k)) (fun _ i _ => n - (intOf i).toNat)
  case atStart => exact ⟨0, [], Nat.zero_le _, rfl, by simp, World.ownsRow_nil _ _ _ _, Below.refl _ _, hid (by simp)⟩
  case round =>
    obtain ⟨j, R, hj, rfl, hRl, hown, hbel, HR⟩ := hrel
    by_cases hlt : j < n
    · obtain ⟨⟨s, v⟩, hsv⟩ : ∃ x, F[j]? = some x := ⟨_, List.getElem?_eq_getElem (by rw [HN.out]; omega)⟩
      obtain ⟨ba, oa, rfl, _, a0, a1⟩ := pairs_at (HA.out.below hbel) hsv
      have j0 : (0 : Int) ≤ (j : Int) := by omega
      have j1 : (j : Int) < (n : Int) := by omega
      simp only at a0 a1
      have hst := drop_take (fun x => klt x.1 k) hsv
      have HST := hid hst
      clear hst hsv
      have hsz := hbel.size
      cases hq : klt s k
      · have hq' : Op.bytesLess s.toList k.toList = false := hq
        have HQ := hid hq
        clear hq
        go_wp2
        go_roundw
        case rel =>
          refine ⟨j + 1, R, by omega, by go_num, by omega, hown.alloc _, hbel.alloc hsz _, hid ?_⟩
          rw [HST.out, HR.out]; simp [HQ.out]
        case measure => simp [intOf]; omega
      · have hq' : Op.bytesLess s.toList k.toList = true := hq
        have HQ := hid hq
        clear hq
        have hB1 : Below w.heap.size w ((wr.alloc (.cells #[.string s, .string v] 54)).alloc (.cells #[.string s, .string v] 54)) := (hbel.alloc hsz _).alloc (by rw [World.size_alloc]; omega) _
        have hown2 := (hown.alloc (.cells #[.string s, .string v] 54)).alloc (.cells #[.string s, .string v] 54)
        have hbase : w.heap.size ≤ ((wr.alloc (.cells #[.string s, .string v] 54)).alloc (.cells #[.string s, .string v] 54)).heap.size := hB1.size
        have hnew := cells_new (wr.alloc (.cells #[.string s, .string v] 54)) [.string s, .string v] 54
        rw [World.size_alloc] at hnew
        go_wp2_with (at_builtin; go_must (refine wpList_append_own _ rfl _ _ 41 rfl w.heap.size 54 i0 (.agg #[.string ⟨#[]⟩, .string ⟨#[]⟩]) 2 32 Try.underlying41 hi hz0 hz1 hz2 rfl (by decide) _ _ _ rfl hown2 ⟨wr.heap.size + 1, 0, none⟩ 1 1 [.string s, .string v] rfl rfl hnew (by simp; constructor <;> rfl) (by simp only [maxLen]; omega) (by omega) hbase ?_))
        intro z2 w2 hown3 hg2 _
        have hb2 := hB1.trans (below_append hown2 hbase hg2)
        go_wp2
        go_roundw
        case rel =>
          refine ⟨j + 1, R ++ [(s, v)], by omega, by go_num, by simp; omega, ?_, hb2, hid ?_⟩
          · rw [List.length_append, prcells_append]; exact hown3
          · rw [HST.out, HR.out]; simp [HQ.out]
        case measure => simp [intOf]; omega
    · have hjn : j = n := by omega
      have HR1 := hid (show R = F.filter fun x => klt x.1 k by have hR := HR.out; rw [hjn, ← HN.out, List.take_length] at hR; exact hR)
      clear HR hlt
      have hRn : R.length ≤ n := by omega
      clear hRl
      subst hjn
      have hsz := hbel.size
      have hB1 : Below w.heap.size w (wr.alloc (.cells #[.string k, .string u] 54)) := hbel.alloc hsz _
      have hown2 := hown.alloc (.cells #[.string k, .string u] 54)
      have hbase : w.heap.size ≤ (wr.alloc (.cells #[.string k, .string u] 54)).heap.size := hB1.size
      have hnew := cells_new wr [.string k, .string u] 54
      go_wp2_with (at_builtin; go_must (refine wpList_append_own _ rfl _ _ 41 rfl w.heap.size 54 i0 (.agg #[.string ⟨#[]⟩, .string ⟨#[]⟩]) 2 32 Try.underlying41 hi hz0 hz1 hz2 rfl (by decide) _ _ _ rfl hown2 ⟨wr.heap.size, 0, none⟩ 1 1 [.string k, .string u] rfl rfl hnew (by simp; constructor <;> rfl) (by simp only [maxLen]; omega) (by omega) hbase ?_))
      intro z1 w1 hown3 hg1 _
      have hb1 := hB1.trans (below_append hown2 hbase hg1)
      have hown4 : w1.ownsRow w.heap.size 54 2 z1 (R ++ [(k, u)]).length (prcells (R ++ [(k, u)])) := by rw [List.length_append, prcells_append]; exact hown3
      have hQl : (R ++ [(k, u)]).length ≤ j + 1 := by simp; omega
      have HQ1 := hid (show R ++ [(k, u)] = F.filter (fun x => klt x.1 k) ++ [(k, u)] by rw [HR1.out])
      generalize R ++ [(k, u)] = Q at *
      clear hown3 hown2 hg1 hnew hB1 hbase hown hbel HR1
      go_wp2
      go_loopw [7, 35] (fun z i wr => ∃ (q : Nat) (R : Prs), q ≤ j ∧ i = .int .i64 q ∧ R.length ≤ q ∧ wr.ownsRow w.heap.size 54 2 z (Q ++ R).length (prcells (Q ++ R)) ∧ Below w.heap.size w wr ∧ Hid (R = (F.take q).filter fun x => klt k x.1)) (fun _ i _ => j - (intOf i).toNat)
      case atStart => exact ⟨0, [], Nat.zero_le _, rfl, by simp, by rw [List.append_nil]; exact hown4, hb1, hid (by simp)⟩
      case round =>
        obtain ⟨q, R2, hj2, rfl, hRl2, hown, hbel, HR⟩ := hrel
        by_cases hlt : q < j
        · obtain ⟨⟨s, v⟩, hsv⟩ : ∃ x, F[q]? = some x := ⟨_, List.getElem?_eq_getElem (by rw [HN.out]; omega)⟩
          obtain ⟨ba, oa, rfl, _, a0, a1⟩ := pairs_at (HA.out.below hbel) hsv
          have j0 : (0 : Int) ≤ (q : Int) := by omega
          have j1 : (q : Int) < (j : Int) := by omega
          simp only at a0 a1
          have hst := drop_take (fun x => klt k x.1) hsv
          have HST := hid hst
          clear hst hsv
          have hsz := hbel.size
          have hQR : (Q ++ R2).length ≤ 2147483650 := by rw [List.length_append]; omega
          cases hq : klt k s
          · have HQ := hid hq
            have hge : (Op.bytesLess s.toList k.toList = true) ∨ (Op.bytesLess s.toList k.toList = false ∧ (s.toList == k.toList) = true) := by
              rcases klt_tri hq with rfl | h
              · exact .inr ⟨klt_irrefl _, by simp⟩
              · exact .inl h
            clear hq
            rcases hge with g1 | ⟨g1, g2⟩
            all_goals
              go_wp2
              go_roundw
              case rel =>
                refine ⟨q + 1, R2, by omega, by go_num, by omega, hown.alloc _, hbel.alloc hsz _, hid ?_⟩
                rw [HST.out, HR.out]; simp [HQ.out]
              case measure => simp [intOf]; omega
          · have HQ := hid hq
            have g1 : Op.bytesLess s.toList k.toList = false := klt_asymm hq
            have g2 : (s.toList == k.toList) = false := by
              cases e : (s.toList == k.toList) with
              | false => rfl
              | true => exact absurd (str_eq_of e).symm (klt_ne hq)
            clear hq
            have hB1 : Below w.heap.size w ((wr.alloc (.cells #[.string s, .string v] 54)).alloc (.cells #[.string s, .string v] 54)) := (hbel.alloc hsz _).alloc (by rw [World.size_alloc]; omega) _
            have hown2 := (hown.alloc (.cells #[.string s, .string v] 54)).alloc (.cells #[.string s, .string v] 54)
            have hbase : w.heap.size ≤ ((wr.alloc (.cells #[.string s, .string v] 54)).alloc (.cells #[.string s, .string v] 54)).heap.size := hB1.size
            have hnew := cells_new (wr.alloc (.cells #[.string s, .string v] 54)) [.string s, .string v] 54
            rw [World.size_alloc] at hnew
            go_wp2_with (at_builtin; go_must (refine wpList_append_own _ rfl _ _ 41 rfl w.heap.size 54 i0 (.agg #[.string ⟨#[]⟩, .string ⟨#[]⟩]) 2 32 Try.underlying41 hi hz0 hz1 hz2 rfl (by decide) _ _ _ rfl hown2 ⟨wr.heap.size + 1, 0, none⟩ 1 1 [.string s, .string v] rfl rfl hnew (by simp; constructor <;> rfl) (by simp only [maxLen]; omega) (by omega) hbase ?_))
            intro z2 w2 hown3 hg2 _
            have hb2 := hB1.trans (below_append hown2 hbase hg2)
            go_wp2
            go_roundw
            case rel =>
              refine ⟨q + 1, R2 ++ [(s, v)], by omega, by go_num, by simp; omega, ?_, hb2, hid ?_⟩
              · rw [← List.append_assoc, List.length_append, List.length_append, prcells_append]; exact hown3
              · rw [HST.out, HR.out]; simp [HQ.out]
            case measure => simp [intOf]; omega
        · have hjn : q = j := by omega
          go_wp2
          go_ret
          refine ⟨_, rfl, ?_, hbel⟩
          have hR := HR.out
          rw [hjn, ← HN.out, List.take_length] at hR
          have e : putF F k u = Q ++ R2 := by unfold putF; rw [HQ1.out, hR]; simp
          rw [e]
          exact IsRow.of_own hown

end Go.Proofs.Ytfcdkpkmkepcaaa
