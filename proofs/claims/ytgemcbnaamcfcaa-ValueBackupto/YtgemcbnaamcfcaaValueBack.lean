/-
  For all lists of values and texts: of good values the key has them; of a key the values have it (P1.4, P1.5). Where list and text are together of bulk at most 1048576.
-/
import Derived.Test.YtgemcbnaamcfcaaArgs
import Derived.Test.YtgemcbnaamcfcaaAnswers
import Derived.Test.YtgemcbnaamcfcaaBackMath
import Derived.Test.YtgemcbnaamcfcaaOpenVals
import Derived.Test.YtgemcbnaamcfcaaSame
import Derived.WalkKit
import Derived.WalkSpells
import Derived.WalkLawsBesides
import Derived.Test.YtgemcbnaamcfcaaBulk
import Derived.ProofKit
import Derived.OpenShut
import Derived.ChangeOld
import Derived.JoinedCond
namespace Go.Proofs.Ytgemcbnaamcfcaa
open Go.ChangeShapes Go.WideShapes Go.ChangeAt Go.RowKit
open Go.ChangeMaps (open_string shut_string)

theorem values_yes (s : ByteArray) (L : List V) (w : World) (hs : s.size * 32 ≤ 140737488355328) (hv : vals s.data.toList = some L) :
    Calls Try.prog 9 #[.string s] w fun e w' => ∃ lv, e = .returned (.tuple #[lv, .int .i64 0]) ∧ IsVals w' lv L ∧ Below w.heap.size w w' := by
  refine (values_any s w hs).mono ?_
  rintro e w' ⟨h, hb⟩
  unfold ValuesSays at h
  rw [hv] at h
  obtain ⟨lv, rfl, h⟩ := h
  exact ⟨lv, rfl, .of_own h, hb⟩
theorem values_no (s : ByteArray) (w : World) (hs : s.size * 32 ≤ 140737488355328) (hv : vals s.data.toList = none) :
    Calls Try.prog 9 #[.string s] w fun e w' => e = .returned (.tuple #[.slice none 0 0, .int .i64 1]) ∧ Below w.heap.size w w' := by
  refine (values_any s w hs).mono ?_
  rintro e w' ⟨h, hb⟩
  unfold ValuesSays at h
  rw [hv] at h
  exact ⟨h, hb⟩

theorem good_size {v : V} (h : good v = true) : v.s.size ≤ maxLen := by
  have : v.s.size ≤ 8 := by
    rcases good_kind h with e | e | e <;> simp [good, e] at h
    · rw [h.2]; exact Nat.zero_le _
    · rw [h.2]; exact Nat.zero_le _
    · exact h.1.2
  simp only [maxLen]; omega

/-- Values, then Key of what it tells. -/
theorem back_second (s : ByteArray) (hs : s.size * 32 ≤ 140737488351232) :
    (∃ L, (∀ w : World, Calls Try.prog 9 #[.string s] w fun e w' => ∃ lv, e = .returned (.tuple #[lv, .int .i64 0]) ∧ IsVals w' lv L ∧ Below w.heap.size w w') ∧
      ∀ (w : World) (lv : Value), IsVals w lv L → Calls Try.prog 7 #[lv] w fun e w' => e = .returned (.tuple #[.string s, .int .i64 0]) ∧ Below w.heap.size w w') ∨
    ((∀ w : World, Calls Try.prog 9 #[.string s] w fun e w' => e = .returned (.tuple #[.slice none 0 0, .int .i64 1]) ∧ Below w.heap.size w w')) := by
  cases hv : vals s.data.toList with
  | none => exact .inr fun w => values_no s w (by omega) hv
  | some L =>
    obtain ⟨hg, hk, hl⟩ := keys_vals _ _ _ (Nat.le_refl _) hv
    rw [size_toList] at hl
    refine .inl ⟨L, fun w => values_yes s L w (by omega) hv, fun w lv hlv => ?_⟩
    have := key_any L lv w hlv (by omega) (fun v hv => good_size (hg v hv))
    rw [keyAns_good hg, hk, str_toList] at this
    exact this

set_option maxHeartbeats 2000000 in
theorem valueBack_good (A : List V) (av : Value) (s : ByteArray) (w : World) (ha : IsVals w av A) (hg : ∀ v ∈ A, good v = true) (hla : A.length ≤ 1048576) (hs : s.size ≤ 1048576) :
    Calls Try.prog 4 #[av, .string s] w fun e w' => e = .returned (.bool true) ∧ Below w.heap.size w w' := by
  have ka := key_any A av w ha (by omega) (fun v hv => good_size (hg v hv))
  rw [keyAns_good hg] at ka
  have hx : (str (keys A)).size * 32 ≤ 140737488355328 := by rw [str_size]; have := keys_le A hg; omega
  have va := fun w => values_yes (str (keys A)) A w hx (by rw [str_data]; exact vals_keys A hg)
  have sa := fun w' (lv : Value) (h : Below w.heap.size w w') (hl : IsVals w' lv A) => same_any A av lv w' (ha.below h) hl (by simp only [maxLen]; omega)
  clear ha hg hla hx
  generalize str (keys A) = x at ka va
  rcases back_second s (by omega) with ⟨L, vs, ks⟩ | vs
  · clear hs
    go_enter Try.func4, Try.ntmps4
    go_wp2_with (first
      | (go_at_call_of 7 av; go_must (refine ka.mono ?_; rintro e w1 ⟨rfl, hb1⟩))
      | (go_at_call_of 9 (Value.string x); go_must (refine (va _).mono ?_; rintro e w2 ⟨lv, rfl, hlv, hb2⟩))
      | (go_at_call 13; go_must (refine (sa _ _ (hb1.trans (hb2.mono hb1.size)) hlv).mono ?_; rintro e w3 ⟨rfl, hb3⟩))
      | (go_at_call_of 9 (Value.string s); go_must (refine (vs _).mono ?_; rintro e w4 ⟨mv, rfl, hmv, hb4⟩))
      | (go_at_call_of 7 mv; go_must (refine (ks _ _ hmv).mono ?_; rintro e w5 ⟨rfl, hb5⟩))
      | (go_at_call 14; go_must (refine (answers_any _).mono ?_; rintro e w6 ⟨rfl, hb6⟩)))
    go_ret
    exact ⟨rfl, bthen (bthen (bthen (bthen (bthen hb1 hb2) hb3) hb4) hb5) hb6⟩
  · clear hs
    have ks := fun w : World => key_none none 0 w
    go_enter Try.func4, Try.ntmps4
    go_wp2_with (first
      | (go_at_call_of 7 av; go_must (refine ka.mono ?_; rintro e w1 ⟨rfl, hb1⟩))
      | (go_at_call_of 9 (Value.string x); go_must (refine (va _).mono ?_; rintro e w2 ⟨lv, rfl, hlv, hb2⟩))
      | (go_at_call 13; go_must (refine (sa _ _ (hb1.trans (hb2.mono hb1.size)) hlv).mono ?_; rintro e w3 ⟨rfl, hb3⟩))
      | (go_at_call_of 9 (Value.string s); go_must (refine (vs _).mono ?_; rintro e w4 ⟨rfl, hb4⟩))
      | (go_at_call_of 7 (Value.slice none 0 0); go_must (refine (ks _).mono ?_; rintro e w5 ⟨rfl, hb5⟩))
      | (go_at_call 14; go_must (refine (answers_any _).mono ?_; rintro e w6 ⟨rfl, hb6⟩)))
    go_ret
    exact ⟨rfl, bthen (bthen (bthen (bthen (bthen hb1 hb2) hb3) hb4) hb5) hb6⟩

set_option maxHeartbeats 2000000 in
theorem valueBack_bad (A : List V) (av : Value) (s : ByteArray) (w : World) (ha : IsVals w av A) (hsa : ∀ v ∈ A, v.s.size ≤ maxLen) (hg : ¬ ∀ v ∈ A, good v = true) (hla : A.length ≤ 1048576) (hs : s.size ≤ 1048576) :
    Calls Try.prog 4 #[av, .string s] w fun e w' => e = .returned (.bool true) ∧ Below w.heap.size w w' := by
  have ka := key_any A av w ha (by omega) hsa
  have hbad : keyAns A = ([], 1) := by
    have : A.all good = false := by
      rw [Bool.eq_false_iff]
      intro e
      exact hg (by simpa using e)
    simp [keyAns, this]
  rw [hbad] at ka
  have va := fun w => values_yes (str []) [] w (by decide) rfl
  have ka' : Calls Try.prog 7 #[av] w fun e w' => e = .returned (.tuple #[.string (str []), .int .i64 1]) ∧ Below w.heap.size w w' := ka
  clear ha hg hla ka hbad hsa
  generalize str [] = x at ka' va
  rcases back_second s (by omega) with ⟨L, vs, ks⟩ | vs
  · clear hs
    go_enter Try.func4, Try.ntmps4
    go_wp2_with (first
      | (go_at_call_of 7 av; go_must (refine ka'.mono ?_; rintro e w1 ⟨rfl, hb1⟩))
      | (go_at_call_of 9 (Value.string x); go_must (refine (va _).mono ?_; rintro e w2 ⟨lv, rfl, hlv, hb2⟩))
      | (go_at_call_of 9 (Value.string s); go_must (refine (vs _).mono ?_; rintro e w4 ⟨mv, rfl, hmv, hb4⟩))
      | (go_at_call_of 7 mv; go_must (refine (ks _ _ hmv).mono ?_; rintro e w5 ⟨rfl, hb5⟩))
      | (go_at_call 14; go_must (refine (answers_any _).mono ?_; rintro e w6 ⟨rfl, hb6⟩)))
    go_ret
    exact ⟨rfl, bthen (bthen (bthen (bthen hb1 hb2) hb4) hb5) hb6⟩
  · clear hs
    have ks := fun w : World => key_none none 0 w
    go_enter Try.func4, Try.ntmps4
    go_wp2_with (first
      | (go_at_call_of 7 av; go_must (refine ka'.mono ?_; rintro e w1 ⟨rfl, hb1⟩))
      | (go_at_call_of 9 (Value.string x); go_must (refine (va _).mono ?_; rintro e w2 ⟨lv, rfl, hlv, hb2⟩))
      | (go_at_call_of 9 (Value.string s); go_must (refine (vs _).mono ?_; rintro e w4 ⟨rfl, hb4⟩))
      | (go_at_call_of 7 (Value.slice none 0 0); go_must (refine (ks _).mono ?_; rintro e w5 ⟨rfl, hb5⟩))
      | (go_at_call 14; go_must (refine (answers_any _).mono ?_; rintro e w6 ⟨rfl, hb6⟩)))
    go_ret
    exact ⟨rfl, bthen (bthen (bthen (bthen hb1 hb2) hb4) hb5) hb6⟩

theorem valueBack_walk (A : List V) (av : Value) (s : ByteArray) (w : World) (ha : IsVals w av A) (hsa : ∀ v ∈ A, v.s.size ≤ maxLen) (hla : A.length ≤ 1048576) (hs : s.size ≤ 1048576) :
    Calls Try.prog 4 #[av, .string s] w fun e w' => e = .returned (.bool true) ∧ Below w.heap.size w w' := by
  by_cases hg : ∀ v ∈ A, good v = true
  · exact valueBack_good A av s w ha hg hla hs
  · exact valueBack_bad A av s w ha hsa hg hla hs

theorem valueBack_own : ownKnob Try.prog.godebug = none := by kernel_rfl
theorem valueBack_laidOut : laidOutB Try.prog = true := by kernel_rfl

theorem valueBack_small {H : Type} {L : List V} {d : DataW H} {s : ByteArray} (hd : (d = .nil ∧ L = []) ∨ ∃ sp, d = .slice (L.map V.datum) sp) (hk : Rows.uptoSmall H [d, .lit (.string s.data.toList)] = true) : L.length ≤ 1048576 ∧ s.size ≤ 1048576 := by
  have h : Rows.uptoBulkAll [d, DataW.lit (H := H) (.string s.data.toList)] ≤ 1048576 := of_decide_eq_true hk
  simp only [Rows.uptoBulkAll, Rows.uptoBulk] at h
  have e := size_toList s
  rcases hd with ⟨rfl, rfl⟩ | ⟨sp, rfl⟩
  · simp only [Rows.uptoBulk] at h
    exact ⟨by simp, by omega⟩
  · have := slice_bulk (L.map V.datum) sp
    rw [List.length_map] at this
    exact ⟨by omega, by omega⟩

theorem valueBack_contract (H : Type) (enc : TypeId × Value → H) (W : World) (base : Nat) (args : Array Value) (ds gs : List (DataW H)) (before : List MemPlace)
    (hval : ∀ (j : Nat) t v, Try.f4.params[j]? = some t → args[j]? = some v → Value.okWide Try.prog W .any base t v)
    (hW : DataW.Whole enc Try.prog Try.f4.params.toList Rows.valueBackSpec.vars false W args.toList ds gs before) (hk : Rows.uptoSmall H (ds ++ gs) = true) :
    Calls Try.prog 4 args W fun e W' => ∃ v, e = .returned v ∧ Rows.valueBackSpec.post enc Try.prog Try.f4 false true false false W args v W' := by
  have hW' := hW
  obtain ⟨p, q, hA0, hV, rfl, _, _⟩ := hW
  have hA : DataW.TrodAll enc Try.prog W 0 (fun _ => true) true Try.f4.params.toList args.toList ds p := hA0
  rw [Try.params4] at hA hval
  obtain ⟨v0, v1, d0, d1, p0, p1, rfl, rfl, rfl, h0, h1⟩ := trodAll_two hA
  obtain ⟨rfl, rfl⟩ := trodVars_none hV
  obtain ⟨a0, len0, cap0, rfl⟩ := okWide_slice Try.underlying22 (hval 0 22 v0 rfl rfl)
  obtain ⟨s, rfl, rfl, rfl, hmax⟩ := open_string Try.underlying9 (hval 1 9 v1 rfl rfl) h1
  have k0 := h0
  have lt0 : ∀ x ∈ p0, x.block < W.heap.size := by obtain ⟨m, hm⟩ := k0; exact DataW.trod_lt m _ _ _ hm
  obtain ⟨n0, f0⟩ := h0
  obtain ⟨A, ha, hsa, hda⟩ := open_vals (sv := .slice a0 len0 cap0) f0
  simp only [List.append_nil] at hk
  obtain ⟨hla, hs⟩ := valueBack_small hda hk
  clear hA0
  refine (valueBack_walk A _ s W ha hsa hla hs).mono fun e W' ⟨he, bel⟩ => ?_
  subst he
  exact ⟨_, rfl, _, _, _, [], _, [], hW', trodAll_mk1 (shut_bool Try.underlying4 _), (trodAll_cons_mk (Below.trod valueBack_laidOut (by kernel_rfl) (of_decide_eq_true (by kernel_rfl)) k0 bel lt0) (trodAll_cons_mk (shut_string Try.underlying9 hmax) trodAll_mk0)), rfl, bel.frame _, fun h => by cases h⟩

set_option maxRecDepth 100000 in
theorem valueBack_lifted (os : Os) (started : os.Started) (H : Type) (enc : TypeId × Value → H) (F : Stop.Interp) :
    ReturnsInHanded {} Try.checked os 4 .any ((Rows.OpenSpec.upto Rows.valueBackSpec).pre6 enc Try.prog Try.f4 Rows.valueBackUptoRow.domain false) (((Rows.OpenSpec.upto Rows.valueBackSpec).at F).post enc Try.prog Try.f4 false true false false) := by
  refine returnsInHanded_of_cond (C := Try.checked) (s := Rows.OpenSpec.upto Rows.valueBackSpec) (k := Rows.uptoSmall) rfl valueBack_own started (by kernel_rfl) Try.func4
    (OpenSpec.witness (enc := enc) (C := Try.checked) (s := Rows.OpenSpec.upto Rows.valueBackSpec) (k := Rows.uptoSmall) rfl false ⟨#[], #[.slice none 0 0, .string .empty], []⟩ 8 (by kernel_rfl) (by kernel_rfl) (by kernel_rfl)
      (x := ([.nil, .lit (.string [])], [], [])) (by kernel_rfl) rfl (by kernel_rfl)) ?_
  intro W base args ds gs before hval hW _ hk _
  exact valueBack_contract H enc W base args ds gs before hval hW hk

theorem valueBack_holds : Rows.ValueBackUptoSaid :=
  OpenClaim.holds_of_cond 4 Try.f4 rfl rfl rfl rfl rfl rfl rfl ⟨rfl, rfl, rfl, rfl, rfl⟩ rfl rfl rfl rfl rfl (by kernel_rfl) Try.func4 (by kernel_rfl)
    (of_decide_eq_true (by kernel_rfl)) (by unfold Func.isWrapper; first | (rw [if_pos (by decide +kernel)]; kernel_rfl) | (rw [if_neg (by decide +kernel)]; exact ⟨rfl, rfl⟩))
    (fun os started H enc _ F => valueBack_lifted os started H enc F)

#print axioms valueBack_holds
end Go.Proofs.Ytgemcbnaamcfcaa
