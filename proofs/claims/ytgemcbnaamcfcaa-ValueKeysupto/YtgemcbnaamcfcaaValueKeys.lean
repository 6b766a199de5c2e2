/-
  For all lists of values and texts, Key and Values answer exactly what P1.4 and P1.5 say, errors too. Where list and text are together of bulk at most 1048576.
-/
import Derived.Test.YtgemcbnaamcfcaaArgs
import Derived.Test.YtgemcbnaamcfcaaAnsLaw
import Derived.Test.YtgemcbnaamcfcaaOpenVals
import Derived.Test.YtgemcbnaamcfcaaBackMath
import Derived.Test.YtgemcbnaamcfcaaKeyOf
import Derived.Test.YtgemcbnaamcfcaaValuesOf
import Derived.Test.YtgemcbnaamcfcaaSameRef
import Derived.Test.YtgemcbnaamcfcaaBulk
import Derived.Laws.AppendOwnNone
import Derived.ProofKit
import Derived.OpenShut
import Derived.ChangeOld
import Derived.JoinedCond
import Derived.WalkKit
import Derived.WalkSpells
import Derived.WalkLawsBesides
namespace Go.Proofs.Ytgemcbnaamcfcaa
open Go.ChangeShapes Go.WideShapes Go.ChangeAt Go.RowKit
open Go.ChangeMaps (open_string shut_string)

/-- Values and ValuesOf tell the same. -/
theorem values_both (s : ByteArray) (hs : s.size ≤ 1048576) : ∃ (L : List V) (c : Int), L.length ≤ maxLen ∧
    (∀ w : World, Calls Try.prog 9 #[.string s] w fun e w' => ∃ lv, e = .returned (.tuple #[lv, .int .i64 c]) ∧ IsVals w' lv L ∧ Below w.heap.size w w') ∧
    (∀ w : World, Calls Try.prog 10 #[.string s] w fun e w' => ∃ lv, e = .returned (.tuple #[lv, .int .i64 c]) ∧ IsVals w' lv L ∧ Below w.heap.size w w') := by
  cases hv : vals s.data.toList with
  | none =>
    refine ⟨[], 1, Nat.zero_le _, fun w => ?_, fun w => ?_⟩
    · refine (values_any s w (by omega)).mono ?_
      rintro e w' ⟨h, hb⟩
      unfold ValuesSays at h
      rw [hv] at h
      exact ⟨_, h, .inl ⟨⟨none, 0, rfl, fun _ => rfl⟩, rfl⟩, hb⟩
    · refine (valuesOf_any s w hs).mono ?_
      rintro e w' ⟨h, hb⟩
      unfold ValuesSays at h
      rw [hv] at h
      exact ⟨_, h, .inl ⟨⟨none, 0, rfl, fun _ => rfl⟩, rfl⟩, hb⟩
  | some L =>
    have hl := (keys_vals _ _ _ (Nat.le_refl _) hv).2.2
    rw [size_toList] at hl
    refine ⟨L, 0, by simp only [maxLen]; omega, fun w => ?_, fun w => ?_⟩
    · refine (values_any s w (by omega)).mono ?_
      rintro e w' ⟨h, hb⟩
      unfold ValuesSays at h
      rw [hv] at h
      obtain ⟨lv, rfl, h⟩ := h
      exact ⟨lv, rfl, .of_own h, hb⟩
    · refine (valuesOf_any s w hs).mono ?_
      rintro e w' ⟨h, hb⟩
      unfold ValuesSays at h
      rw [hv] at h
      obtain ⟨lv, rfl, h⟩ := h
      exact ⟨lv, rfl, .of_own h, hb⟩

set_option maxHeartbeats 2000000 in
theorem valueKeys_walk (A : List V) (av : Value) (s : ByteArray) (w : World) (ha : IsVals w av A) (hsa : ∀ v ∈ A, v.s.size ≤ maxLen) (hla : A.length ≤ 1048576) (hs : s.size ≤ 1048576) :
    Calls Try.prog 3 #[av, .string s] w fun e w' => e = .returned (.bool true) ∧ Below w.heap.size w w' := by
  obtain ⟨i0, hi, hz0, hz1, hz2⟩ := info_parts info_value
  have kc := fun w' (v : Value) (h : IsVals w' v A) => key_any A v w' h (by omega) hsa
  have ko := fun w' (h : Below w.heap.size w w') => keyOf_any A av w' (ha.below h) hla hsa
  obtain ⟨L, c, hL, vs, vo⟩ := values_both s hs
  have sm := fun w' (a b : Value) (h1 : IsVals w' a L) (h2 : IsVals w' b L) => sameValues_any L a b w' h1 h2 hL
  generalize str (keyAns A).1 = x at kc ko
  generalize (keyAns A).2 = ec at kc ko
  have hxx : (x.toList == x.toList) = true := by simp
  clear hsa hs hL
  rcases ha with ⟨⟨ao, ca, rfl, hca⟩, rfl⟩ | ⟨ba, oa, ca, rfl, hba, ha⟩
  · rcases ao with _ | ad
    · obtain rfl := hca rfl
      have nl := World.ownsRow_nil w w.heap.size 33 3
      have kn := kc w _ (.inl ⟨⟨none, 0, rfl, fun _ => rfl⟩, rfl⟩)
      clear kc
      go_enter Try.func3, Try.ntmps3
      go_wp2_with (first
        | (at_builtin; go_must (refine wpList_append_own_none rfl _ _ 22 rfl w.heap.size 33 i0 3 Try.underlying22 hi _ _ _ rfl nl rfl ?_))
        | (go_at_call 7; go_must (refine kn.mono ?_; rintro e w1 ⟨rfl, hb1⟩))
        | (go_at_call 8; go_must (refine (ko _ hb1).mono ?_; rintro e w2 ⟨rfl, hb2⟩))
        | (go_at_call 9; go_must (refine (vs _).mono ?_; rintro e w3 ⟨lv, rfl, hlv, hb3⟩))
        | (go_at_call 10; go_must (refine (vo _).mono ?_; rintro e w4 ⟨mv, rfl, hmv, hb4⟩))
        | (go_at_call 11; go_must (refine (sm _ _ _ (hlv.below hb4) hmv).mono ?_; rintro e w5 ⟨rfl, hb5⟩))
        | (go_at_call 12; go_must (refine (answersLaw_any _).mono ?_; rintro e w6 ⟨rfl, hb6⟩)))
      go_ret
      exact ⟨rfl, bthen (bthen (bthen (bthen (bthen hb1 hb2) hb3) hb4) hb5) hb6⟩
    · have nl := World.ownsRow_nil w w.heap.size 33 3
      have hcl : ∀ j u, ([] : List Value)[j]? = some u → w.cell? (ad.add j) = some u := fun j u h => by simp at h
      clear hca
      go_enter Try.func3, Try.ntmps3
      go_wp2_with (at_builtin; go_must (refine wpList_append_own _ rfl _ _ 22 rfl w.heap.size 33 i0 (.agg #[.int .i64 0, .int .i64 0, .string ⟨#[]⟩]) 3 32 Try.underlying22 hi hz0 hz1 hz2 rfl (by decide) (.slice none 0 0) 0 [] rfl nl ad 0 ca [] rfl rfl ?_ ?_ ?_ ?_ ?_ ?_))
      · exact hcl
      · intro u hu; first | exact vcells_one _ u hu | (simp at hu)
      · simp only [maxLen]; omega
      · omega
      · exact Nat.le_refl _
      · intro cv w0 hcv hg0 hnil
        subst hnil
        have hb0 : Below w.heap.size w w0 := below_append nl (Nat.le_refl _) hg0
        try simp only [List.nil_append, Nat.zero_add] at hcv
        have kn := kc w0 _ (.of_own hcv)
        clear kc hg0 hcv
        go_wp2_with (first
          | (go_at_call 7; go_must (refine kn.mono ?_; rintro e w1 ⟨rfl, hb1⟩))
          | (go_at_call 8; go_must (refine (ko _ (bthen hb0 hb1)).mono ?_; rintro e w2 ⟨rfl, hb2⟩))
          | (go_at_call 9; go_must (refine (vs _).mono ?_; rintro e w3 ⟨lv, rfl, hlv, hb3⟩))
          | (go_at_call 10; go_must (refine (vo _).mono ?_; rintro e w4 ⟨mv, rfl, hmv, hb4⟩))
          | (go_at_call 11; go_must (refine (sm _ _ _ (hlv.below hb4) hmv).mono ?_; rintro e w5 ⟨rfl, hb5⟩))
          | (go_at_call 12; go_must (refine (answersLaw_any _).mono ?_; rintro e w6 ⟨rfl, hb6⟩)))
        go_ret
        exact ⟨rfl, bthen (bthen (bthen (bthen (bthen (bthen hb0 hb1) hb2) hb3) hb4) hb5) hb6⟩
  · have nl := World.ownsRow_nil w w.heap.size 33 3
    have hcl := ha.cells
    go_enter Try.func3, Try.ntmps3
    go_wp2_with (at_builtin; go_must (refine wpList_append_own _ rfl _ _ 22 rfl w.heap.size 33 i0 (.agg #[.int .i64 0, .int .i64 0, .string ⟨#[]⟩]) 3 32 Try.underlying22 hi hz0 hz1 hz2 rfl (by decide) (.slice none 0 0) 0 [] rfl nl ⟨ba, oa, none⟩ A.length ca (vcells A) rfl (vcells_length A) ?_ ?_ ?_ ?_ ?_ ?_))
    · exact hcl
    · intro u hu; first | exact vcells_one _ u hu | (simp at hu)
    · simp only [maxLen]; omega
    · omega
    · exact Nat.le_refl _
    · intro cv w0 hcv hg0 hnil
      clear hnil
      have hb0 : Below w.heap.size w w0 := below_append nl (Nat.le_refl _) hg0
      try simp only [List.nil_append, Nat.zero_add] at hcv
      have kn := kc w0 cv (.of_own hcv)
      clear kc hg0 hcv
      go_wp2_with (first
        | (go_at_call 7; go_must (refine kn.mono ?_; rintro e w1 ⟨rfl, hb1⟩))
        | (go_at_call 8; go_must (refine (ko _ (bthen hb0 hb1)).mono ?_; rintro e w2 ⟨rfl, hb2⟩))
        | (go_at_call 9; go_must (refine (vs _).mono ?_; rintro e w3 ⟨lv, rfl, hlv, hb3⟩))
        | (go_at_call 10; go_must (refine (vo _).mono ?_; rintro e w4 ⟨mv, rfl, hmv, hb4⟩))
        | (go_at_call 11; go_must (refine (sm _ _ _ (hlv.below hb4) hmv).mono ?_; rintro e w5 ⟨rfl, hb5⟩))
        | (go_at_call 12; go_must (refine (answersLaw_any _).mono ?_; rintro e w6 ⟨rfl, hb6⟩)))
      go_ret
      exact ⟨rfl, bthen (bthen (bthen (bthen (bthen (bthen hb0 hb1) hb2) hb3) hb4) hb5) hb6⟩

theorem valueKeys_own : ownKnob Try.prog.godebug = none := by kernel_rfl
theorem valueKeys_laidOut : laidOutB Try.prog = true := by kernel_rfl

theorem valueKeys_small {H : Type} {L : List V} {d : DataW H} {s : ByteArray} (hd : (d = .nil ∧ L = []) ∨ ∃ sp, d = .slice (L.map V.datum) sp) (hk : Rows.uptoSmall H [d, .lit (.string s.data.toList)] = true) : L.length ≤ 1048576 ∧ s.size ≤ 1048576 := by
  have h : Rows.uptoBulkAll [d, DataW.lit (H := H) (.string s.data.toList)] ≤ 1048576 := of_decide_eq_true hk
  simp only [Rows.uptoBulkAll, Rows.uptoBulk] at h
  have e := size_toList s
  rcases hd with ⟨rfl, rfl⟩ | ⟨sp, rfl⟩
  · simp only [Rows.uptoBulk] at h
    exact ⟨by simp, by omega⟩
  · have := slice_bulk (L.map V.datum) sp
    rw [List.length_map] at this
    exact ⟨by omega, by omega⟩

theorem valueKeys_contract (H : Type) (enc : TypeId × Value → H) (W : World) (base : Nat) (args : Array Value) (ds gs : List (DataW H)) (before : List MemPlace)
    (hval : ∀ (j : Nat) t v, Try.f3.params[j]? = some t → args[j]? = some v → Value.okWide Try.prog W .any base t v)
    (hW : DataW.Whole enc Try.prog Try.f3.params.toList Rows.valueKeysSpec.vars false W args.toList ds gs before) (hk : Rows.uptoSmall H (ds ++ gs) = true) :
    Calls Try.prog 3 args W fun e W' => ∃ v, e = .returned v ∧ Rows.valueKeysSpec.post enc Try.prog Try.f3 false true false false W args v W' := by
  have hW' := hW
  obtain ⟨p, q, hA0, hV, rfl, _, _⟩ := hW
  have hA : DataW.TrodAll enc Try.prog W 0 (fun _ => true) true Try.f3.params.toList args.toList ds p := hA0
  rw [Try.params3] at hA hval
  obtain ⟨v0, v1, d0, d1, p0, p1, rfl, rfl, rfl, h0, h1⟩ := trodAll_two hA
  obtain ⟨rfl, rfl⟩ := trodVars_none hV
  obtain ⟨a0, len0, cap0, rfl⟩ := okWide_slice Try.underlying22 (hval 0 22 v0 rfl rfl)
  obtain ⟨s, rfl, rfl, rfl, hmax⟩ := open_string Try.underlying9 (hval 1 9 v1 rfl rfl) h1
  have k0 := h0
  have lt0 : ∀ x ∈ p0, x.block < W.heap.size := by obtain ⟨m, hm⟩ := k0; exact DataW.trod_lt m _ _ _ hm
  obtain ⟨n0, f0⟩ := h0
  obtain ⟨A, ha, hsa, hda⟩ := open_vals (sv := .slice a0 len0 cap0) f0
  simp only [List.append_nil] at hk
  obtain ⟨hla, hs⟩ := valueKeys_small hda hk
  clear hA0
  refine (valueKeys_walk A _ s W ha hsa hla hs).mono fun e W' ⟨he, bel⟩ => ?_
  subst he
  exact ⟨_, rfl, _, _, _, [], _, [], hW', trodAll_mk1 (shut_bool Try.underlying4 _), (trodAll_cons_mk (Below.trod valueKeys_laidOut (by kernel_rfl) (of_decide_eq_true (by kernel_rfl)) k0 bel lt0) (trodAll_cons_mk (shut_string Try.underlying9 hmax) trodAll_mk0)), rfl, bel.frame _, fun h => by cases h⟩

set_option maxRecDepth 100000 in
theorem valueKeys_lifted (os : Os) (started : os.Started) (H : Type) (enc : TypeId × Value → H) (F : Stop.Interp) :
    ReturnsInHanded {} Try.checked os 3 .any ((Rows.OpenSpec.upto Rows.valueKeysSpec).pre6 enc Try.prog Try.f3 Rows.valueKeysUptoRow.domain false) (((Rows.OpenSpec.upto Rows.valueKeysSpec).at F).post enc Try.prog Try.f3 false true false false) := by
  refine returnsInHanded_of_cond (C := Try.checked) (s := Rows.OpenSpec.upto Rows.valueKeysSpec) (k := Rows.uptoSmall) rfl valueKeys_own started (by kernel_rfl) Try.func3
    (OpenSpec.witness (enc := enc) (C := Try.checked) (s := Rows.OpenSpec.upto Rows.valueKeysSpec) (k := Rows.uptoSmall) rfl false ⟨#[], #[.slice none 0 0, .string .empty], []⟩ 8 (by kernel_rfl) (by kernel_rfl) (by kernel_rfl)
      (x := ([.nil, .lit (.string [])], [], [])) (by kernel_rfl) rfl (by kernel_rfl)) ?_
  intro W base args ds gs before hval hW _ hk _
  exact valueKeys_contract H enc W base args ds gs before hval hW hk

theorem valueKeys_holds : Rows.ValueKeysUptoSaid :=
  OpenClaim.holds_of_cond 3 Try.f3 rfl rfl rfl rfl rfl rfl rfl ⟨rfl, rfl, rfl, rfl, rfl⟩ rfl rfl rfl rfl rfl (by kernel_rfl) Try.func3 (by kernel_rfl)
    (of_decide_eq_true (by kernel_rfl)) (by unfold Func.isWrapper; first | (rw [if_pos (by decide +kernel)]; kernel_rfl) | (rw [if_neg (by decide +kernel)]; exact ⟨rfl, rfl⟩))
    (fun os started H enc _ F => valueKeys_lifted os started H enc F)

#print axioms valueKeys_holds
end Go.Proofs.Ytgemcbnaamcfcaa
