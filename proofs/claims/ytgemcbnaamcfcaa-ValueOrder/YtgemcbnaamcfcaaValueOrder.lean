/-
  For all lists of values, if both are good and of one length, their keys are ordered as they are (P1.2, P1.4). No condition.
-/
import Derived.Test.YtgemcbnaamcfcaaArgs
import Derived.Test.YtgemcbnaamcfcaaAnswers
import Derived.Test.YtgemcbnaamcfcaaOrderMath
import Derived.Test.YtgemcbnaamcfcaaOpenVals
import Derived.ProofKit
import Derived.OpenShut
import Derived.ChangeOld
import Derived.SizedLaws
import Derived.WalkKit
import Derived.WalkSpells
import Derived.WalkLawsBesides
import Derived.Deep.RegionHeld3
namespace Go.Proofs.Ytgemcbnaamcfcaa
open Go.ChangeShapes Go.WideShapes Go.ChangeAt Go.RowKit

def allGood (L : List V) : Prop := ∀ v ∈ L, good v = true
theorem bad_of {L : List V} (h : ¬ allGood L) : keyAns L = ([], 1) := by
  unfold allGood at h
  have : L.all good = false := by
    rw [Bool.eq_false_iff]
    intro e
    exact h (by simpa using e)
  simp [keyAns, this]

set_option maxHeartbeats 1000000 in
theorem valueOrder_refused (A B : List V) (av bv : Value) (w : World) (ha : IsVals w av A) (hb : IsVals w bv B) (hla : A.length * 32 ≤ 140737488351232) (hlb : B.length * 32 ≤ 140737488351232)
    (hsa : ∀ v ∈ A, v.s.size ≤ maxLen) (hsb : ∀ v ∈ B, v.s.size ≤ maxLen) (hbad : ¬ allGood A ∨ (allGood A ∧ ¬ allGood B) ∨ (allGood A ∧ allGood B ∧ A.length ≠ B.length)) :
    Calls Try.prog 5 #[av, bv] w fun e w' => e = .returned (.bool true) ∧ Below w.heap.size w w' := by
  obtain ⟨ao, ca, rfl⟩ := ha.shape
  obtain ⟨bo, cb, rfl⟩ := hb.shape
  have ka := key_any A _ w ha hla hsa
  have kb := fun w' (h : Below w.heap.size w w') => key_any B _ w' (hb.below h) hlb hsb
  clear ha hb hsa hsb
  rcases hbad with h | ⟨h1, h2⟩ | ⟨h1, h2, h3⟩
  · rw [bad_of h] at ka
    generalize keyAns B = kB at kb
    obtain ⟨x, e⟩ := kB
    clear h
    go_enter Try.func5, Try.ntmps5
    go_wp2_with (first | (go_at_call_of 7 (Value.slice ao A.length ca); go_must (refine ka.mono ?_; rintro e w1 ⟨rfl, hb1⟩)) | (go_at_call_of 7 (Value.slice bo B.length cb); go_must (refine (kb _ hb1).mono ?_; rintro e w2 ⟨rfl, hb2⟩)) | (go_at_call 14; go_must (refine (answers_any _).mono ?_; rintro e w3 ⟨rfl, hb3⟩)))
    go_ret
    exact ⟨rfl, (hb1.trans (hb2.mono hb1.size)).trans (hb3.mono (Nat.le_trans hb1.size hb2.size))⟩
  · rw [keyAns_good h1] at ka
    simp only [bad_of h2] at kb
    clear h1 h2
    generalize str (keys A) = x at ka
    go_enter Try.func5, Try.ntmps5
    go_wp2_with (first | (go_at_call_of 7 (Value.slice ao A.length ca); go_must (refine ka.mono ?_; rintro e w1 ⟨rfl, hb1⟩)) | (go_at_call_of 7 (Value.slice bo B.length cb); go_must (refine (kb _ hb1).mono ?_; rintro e w2 ⟨rfl, hb2⟩)) | (go_at_call 14; go_must (refine (answers_any _).mono ?_; rintro e w3 ⟨rfl, hb3⟩)))
    go_ret
    exact ⟨rfl, (hb1.trans (hb2.mono hb1.size)).trans (hb3.mono (Nat.le_trans hb1.size hb2.size))⟩
  · rw [keyAns_good h1] at ka
    simp only [keyAns_good h2] at kb
    clear h1 h2
    generalize str (keys A) = x at ka
    generalize str (keys B) = y at kb
    have hne : ((A.length : Int) != (B.length : Int)) = true := by rw [bne_iff_ne]; omega
    go_enter Try.func5, Try.ntmps5
    go_wp2_with (first | (go_at_call_of 7 (Value.slice ao A.length ca); go_must (refine ka.mono ?_; rintro e w1 ⟨rfl, hb1⟩)) | (go_at_call_of 7 (Value.slice bo B.length cb); go_must (refine (kb _ hb1).mono ?_; rintro e w2 ⟨rfl, hb2⟩)) | (go_at_call 14; go_must (refine (answers_any _).mono ?_; rintro e w3 ⟨rfl, hb3⟩)))
    go_ret
    exact ⟨rfl, (hb1.trans (hb2.mono hb1.size)).trans (hb3.mono (Nat.le_trans hb1.size hb2.size))⟩

set_option maxHeartbeats 2000000 in
theorem valueOrder_empty (ao bo : Option Addr) (ca cb : Nat) (w : World) :
    Calls Try.prog 5 #[.slice ao 0 ca, .slice bo 0 cb] w fun e w' => e = .returned (.bool true) ∧ Below w.heap.size w w' := by
  have ka : Calls Try.prog 7 #[.slice ao 0 ca] w fun e w' => e = .returned (.tuple #[.string ⟨#[]⟩, .int .i64 0]) ∧ Below w.heap.size w w' := key_none ao ca w
  have kb : ∀ w : World, Calls Try.prog 7 #[.slice bo 0 cb] w fun e w' => e = .returned (.tuple #[.string ⟨#[]⟩, .int .i64 0]) ∧ Below w.heap.size w w' := fun w => key_none bo cb w
  go_enter Try.func5, Try.ntmps5
  go_wp2_with (first | (go_at_call_of 7 (Value.slice ao 0 ca); go_must (refine ka.mono ?_; rintro e w1 ⟨rfl, hb1⟩)) | (go_at_call_of 7 (Value.slice bo 0 cb); go_must (refine (kb _).mono ?_; rintro e w2 ⟨rfl, hb2⟩)) | (go_at_call 14; go_must (refine (answers_any _).mono ?_; rintro e w3 ⟨rfl, hb3⟩)))
  refine wp_loop_rounds 1 ?_
  rw [rounds_succ]
  go_wp2
  go_ret
  exact ⟨rfl, (hb1.trans (hb2.mono hb1.size)).trans (hb3.mono (Nat.le_trans hb1.size hb2.size))⟩

set_option maxHeartbeats 4000000 in
theorem valueOrder_good (A B : List V) (ba oa ca bb ob cb : Nat) (w : World) (ha : HoldsV w ba oa A) (hb : HoldsV w bb ob B) (hba : ba < w.heap.size) (hbb : bb < w.heap.size) (hla : A.length * 32 ≤ 140737488351232)
    (hsa : ∀ v ∈ A, v.s.size ≤ maxLen) (hsb : ∀ v ∈ B, v.s.size ≤ maxLen) (hga : allGood A) (hgb : allGood B) (hlen : A.length = B.length) :
    Calls Try.prog 5 #[.slice (some ⟨ba, oa, none⟩) A.length ca, .slice (some ⟨bb, ob, none⟩) A.length cb] w fun e w' => e = .returned (.bool true) ∧ Below w.heap.size w w' := by
  have ka := key_some A ba oa ca w ha hba hla hsa
  have kb := fun w' (h : Below w.heap.size w w') => key_some B bb ob cb w' (hb.below h hbb) (Nat.lt_of_lt_of_le hbb h.size) (by omega) hsb
  simp only [keyAns_good hga] at ka
  simp only [keyAns_good hgb, ← hlen] at kb
  obtain ⟨o1, o2⟩ := order_says A B hlen hga hgb
  have O1 : Hid (decide (firstC A B < 0) = Op.bytesLess (str (keys A)).toList (str (keys B)).toList) := by
    show _ = _; rw [ByteArray.toList_eq, ByteArray.toList_eq, str_data, str_data]; exact o1
  have O2 : Hid ((firstC A B == 0) = ((str (keys A)).toList == (str (keys B)).toList)) := by
    show _ = _; rw [ByteArray.toList_eq, ByteArray.toList_eq, str_data, str_data]; exact o2
  have HL : Hid (A.length = B.length) := hlen
  clear o1 o2 hga hgb hsa hsb hlen
  generalize str (keys A) = x at ka O1 O2
  generalize str (keys B) = y at kb O1 O2
  go_enter Try.func5, Try.ntmps5
  go_wp2_with (first | (go_at_call_of 7 (Value.slice (some ⟨ba, oa, none⟩) A.length ca); go_must (refine ka.mono ?_; rintro e w1 ⟨rfl, hb1⟩)) | (go_at_call_of 7 (Value.slice (some ⟨bb, ob, none⟩) A.length cb); go_must (refine (kb _ hb1).mono ?_; rintro e w2 ⟨rfl, hb2⟩)) | (go_at_call 14; go_must (refine (answers_any _).mono ?_; rintro e w3 ⟨rfl, hb3⟩)))
  have hb4 : Below w.heap.size w w3 := (hb1.trans (hb2.mono hb1.size)).trans (hb3.mono (Nat.le_trans hb1.size hb2.size))
  clear hb1 hb2 hb3 ka kb
  go_loopw [9, 41] (fun nv i wr => ∃ k : Nat, k ≤ A.length ∧ i = .int .i64 k ∧ nv = .int .i64 (firstC (A.take k) (B.take k)) ∧ Below w.heap.size w wr) (fun _ i _ => A.length - (intOf i).toNat)
  case atStart => exact ⟨0, Nat.zero_le _, rfl, rfl, hb4⟩
  case round =>
    obtain ⟨k, hk, rfl, rfl, hbel⟩ := hrel
    by_cases hlt : k < A.length
    · obtain ⟨a, hva⟩ : ∃ v, A[k]? = some v := ⟨_, List.getElem?_eq_getElem hlt⟩
      obtain ⟨b, hvb⟩ : ∃ v, B[k]? = some v := ⟨_, List.getElem?_eq_getElem (by rw [← HL.out]; exact hlt)⟩
      have hsn : Hid (firstC (A.take (k + 1)) (B.take (k + 1)) = if firstC (A.take k) (B.take k) = 0 then cmpV a b else firstC (A.take k) (B.take k)) := by
        show _ = _
        rw [take_snoc_of hva, take_snoc_of hvb]
        exact firstC_snoc a b _ _ (by rw [List.length_take, List.length_take, HL.out])
      obtain ⟨c0, c1, c2⟩ := ha.below hbel hba k a hva
      obtain ⟨d0, d1, d2⟩ := hb.below hbel hbb k b hvb
      have hba' : ba < wr.heap.size := Nat.lt_of_lt_of_le hba hbel.size
      have hbb' : bb < wr.heap.size := Nat.lt_of_lt_of_le hbb hbel.size
      clear hva hvb
      generalize hn : firstC (A.take k) (B.take k) = n at hsn
      clear hn
      by_cases hz : n = 0
      · subst hz
        have i0 : (0 : Int) ≤ (k : Int) := by omega
        have i1 : (k : Int) < (A.length : Int) := by omega
        have hcmp := fun w => compare_any a b w
        obtain ⟨k1, n1, s1⟩ := a
        obtain ⟨k2, n2, s2⟩ := b
        go_wp2_with fail
        go_region_held3 (fun w' => w'.cell? ⟨ba, oa + k * 3, none⟩ = some (.int .i64 k1) ∧ w'.cell? ⟨ba, oa + k * 3 + 1, none⟩ = some (.int .i64 n1) ∧ w'.cell? ⟨ba, oa + k * 3 + 2, none⟩ = some (.string s1) ∧ w'.cell? ⟨bb, ob + k * 3, none⟩ = some (.int .i64 k2) ∧ w'.cell? ⟨bb, ob + k * 3 + 1, none⟩ = some (.int .i64 n2) ∧ w'.cell? ⟨bb, ob + k * 3 + 2, none⟩ = some (.string s2)) (first | go_keep | simp_all)
          (first | (go_at_call 15; refine (hcmp _).mono ?_; rintro e w5 ⟨rfl, hb5⟩; obtain ⟨hcc, hff⟩ := bcell hb5))
        go_wp2
        go_roundw
        case rel => exact ⟨k + 1, by omega, by go_num, by rw [hsn.out]; simp, hbel.drew.trans (hb5.mono hbel.size)⟩
        case measure => simp [intOf]; omega
      · have hzz : (n == 0) = false := by simpa using hz
        go_wp2
        go_roundw
        case rel => exact ⟨k + 1, by omega, by go_num, by rw [hsn.out, if_neg hz], hbel⟩
        case measure => simp [intOf]; omega
    · have e1 : A.take k = A := List.take_of_length_le (by omega)
      have e2 : B.take k = B := List.take_of_length_le (by rw [← HL.out]; omega)
      rw [e1, e2]
      clear e1 e2
      generalize firstC A B = n at O1 O2
      have q1 : Hid ((decide (n < 0) == Op.bytesLess x.toList y.toList) = true) := by show _ = true; rw [O1.out]; simp
      have q2 : Hid (((n == 0) == (x.toList == y.toList)) = true) := by show _ = true; rw [O2.out]; simp
      have q1' := q1.out
      have q2' := q2.out
      go_wp2
      go_ret
      exact ⟨rfl, hbel⟩

/-- THE WALK: every two lists. -/
theorem valueOrder_walk (A B : List V) (av bv : Value) (w : World) (ha : IsVals w av A) (hb : IsVals w bv B) (hla : A.length * 32 ≤ 140737488351232) (hlb : B.length * 32 ≤ 140737488351232)
    (hsa : ∀ v ∈ A, v.s.size ≤ maxLen) (hsb : ∀ v ∈ B, v.s.size ≤ maxLen) :
    Calls Try.prog 5 #[av, bv] w fun e w' => e = .returned (.bool true) ∧ Below w.heap.size w w' := by
  by_cases h1 : allGood A
  · by_cases h2 : allGood B
    · by_cases h3 : A.length = B.length
      · rcases ha with ⟨⟨ao, ca, rfl⟩, rfl⟩ | ⟨ba, oa, ca, rfl, hba, ha⟩
        · obtain rfl : B = [] := List.eq_nil_of_length_eq_zero (by simpa using h3.symm)
          obtain ⟨bo, cb, rfl⟩ := hb.shape
          exact valueOrder_empty ao bo ca cb w
        · rcases hb with ⟨⟨bo, cb, rfl⟩, rfl⟩ | ⟨bb, ob, cb, rfl, hbb, hb⟩
          · obtain rfl : A = [] := List.eq_nil_of_length_eq_zero (by simpa using h3)
            exact valueOrder_empty _ bo ca cb w
          · have := valueOrder_good A B ba oa ca bb ob cb w ha hb hba hbb hla hsa hsb h1 h2 h3
            rw [← h3]
            exact this
      · exact valueOrder_refused A B av bv w ha hb hla hlb hsa hsb (.inr (.inr ⟨h1, h2, h3⟩))
    · exact valueOrder_refused A B av bv w ha hb hla hlb hsa hsb (.inr (.inl ⟨h1, h2⟩))
  · exact valueOrder_refused A B av bv w ha hb hla hlb hsa hsb (.inl h1)

theorem valueOrder_own : ownKnob Try.prog.godebug = none := by kernel_rfl
theorem valueOrder_laidOut : laidOutB Try.prog = true := by kernel_rfl

theorem reach_vals {H : Type} {L : List V} {d : DataW H} (hd : (d = .nil ∧ L = []) ∨ ∃ sp, d = .slice (L.map V.datum) sp) {ts : List TypeId} {ds : List (DataW H)}
    (hsz : (DataW.weightsEach Try.prog ts ds).all (· ≤ reachBytes) = true) {j : Nat} (ht : ts[j]? = some 22) (hj : ds[j]? = some d) : L.length * 32 ≤ 140737488351232 := by
  rcases hd with ⟨_, rfl⟩ | ⟨sp, rfl⟩
  · simp
  · have := sized_slice hsz ht hj Try.underlying22
    rw [bytes_value, List.length_map] at this
    simp only [reachBytes] at this
    omega

set_option maxRecDepth 100000 in
theorem valueOrder_lifted (os : Os) (started : os.Started) (H : Type) (enc : TypeId × Value → H) :
    ReturnsInHanded {} Try.checked os 5 .any (Rows.valueOrderSpec.pre6 enc Try.prog Try.f5 Rows.valueOrderRow.domain false) (Rows.valueOrderSpec.post enc Try.prog Try.f5 false true false false) := by
  refine returnsInHanded_of_change_sized (C := Try.checked) valueOrder_own started (by kernel_rfl) Try.func5
    (ChangeSpec.witness6 (enc := enc) (C := Try.checked) false ⟨#[], #[.slice none 0 0, .slice none 0 0], []⟩ 8 (by kernel_rfl) (by kernel_rfl) (by kernel_rfl) (by kernel_rfl)) ?_
  intro W base args ds gs before hval0 hW _ hsz0 _
  have hsz : (DataW.weightsEach Try.prog (Try.f5.params.toList ++ Rows.valueOrderSpec.plain.varTypes Try.prog) (ds ++ gs)).all (· ≤ reachBytes) = true := hsz0
  clear hsz0
  have hval : ∀ (j : Nat) t v, Try.f5.params[j]? = some t → args[j]? = some v → Value.okWide Try.prog W .any base t v := hval0
  have hW' := hW
  obtain ⟨p, q, hA0, hV, rfl, _, _⟩ := hW
  have hA : DataW.TrodAll enc Try.prog W 0 (fun _ => true) true Try.f5.params.toList args.toList ds p := hA0
  rw [Try.params5] at hA hval hsz
  obtain ⟨v0, v1, d0, d1, p0, p1, rfl, rfl, rfl, h0, h1⟩ := trodAll_two hA
  obtain ⟨rfl, rfl⟩ := trodVars_none hV
  obtain ⟨a0, len0, cap0, rfl⟩ := okWide_slice Try.underlying22 (hval 0 22 v0 rfl rfl)
  obtain ⟨a1, len1, cap1, rfl⟩ := okWide_slice Try.underlying22 (hval 1 22 v1 rfl rfl)
  have k0 := h0
  have k1 := h1
  have lt0 : ∀ x ∈ p0, x.block < W.heap.size := by obtain ⟨m, hm⟩ := k0; exact DataW.trod_lt m _ _ _ hm
  have lt1 : ∀ x ∈ p1, x.block < W.heap.size := by obtain ⟨m, hm⟩ := k1; exact DataW.trod_lt m _ _ _ hm
  obtain ⟨n0, f0⟩ := h0
  obtain ⟨n1, f1⟩ := h1
  obtain ⟨A, ha, hsa, hda⟩ := open_vals (sv := .slice a0 len0 cap0) f0
  obtain ⟨B, hb, hsb, hdb⟩ := open_vals (sv := .slice a1 len1 cap1) f1
  have hla := reach_vals hda hsz (j := 0) rfl rfl
  have hlb := reach_vals hdb hsz (j := 1) rfl rfl
  clear hA0 hval0
  refine (valueOrder_walk A B _ _ W ha hb hla hlb hsa hsb).mono fun e W' ⟨he, bel⟩ => ?_
  subst he
  exact ⟨_, rfl, _, _, _, [], _, [], hW', trodAll_mk1 (shut_bool Try.underlying4 _), (trodAll_cons_mk (Below.trod valueOrder_laidOut (by kernel_rfl) (of_decide_eq_true (by kernel_rfl)) k0 bel lt0) (trodAll_cons_mk (Below.trod valueOrder_laidOut (by kernel_rfl) (of_decide_eq_true (by kernel_rfl)) k1 bel lt1) trodAll_mk0)), rfl, bel.frame _, fun h => by cases h⟩

theorem valueOrder_holds : Rows.ValueOrderSaid :=
  OpenClaim.holds_of_wide 5 Try.f5 rfl rfl rfl rfl rfl rfl rfl ⟨rfl, rfl, rfl, rfl, rfl⟩ rfl rfl rfl rfl rfl (by kernel_rfl) Try.func5 (by kernel_rfl)
    (of_decide_eq_true (by kernel_rfl)) (by unfold Func.isWrapper; first | (rw [if_pos (by decide +kernel)]; kernel_rfl) | (rw [if_neg (by decide +kernel)]; exact ⟨rfl, rfl⟩))
    (fun os started H enc _ => valueOrder_lifted os started H enc)

#print axioms valueOrder_holds
end Go.Proofs.Ytgemcbnaamcfcaa
