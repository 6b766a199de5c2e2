/-
  For every catalog, command and row of bulk at most 1048576, if the command is a bound update and the row fits its table, then what is set is good, and of its column's type, or nothing, and a condition a truth, or nothing (P4.4, P4.6, P5.2, P5.3). The condition is the bulk.
-/
import Derived.Test.YtabanbpnghidhaaJ16
import Derived.Test.YtabanbpnghidhaaJ17
import Derived.ProofKit
import Derived.OpenShut
import Derived.ChangeOld
import Derived.JoinedCond
namespace Go.Proofs.Ytabanbpnghidhaa
open Go.ChangeShapes Go.WideShapes Go.ChangeAt Go.RowKit

theorem schemaTypes_own : ownKnob Try.prog.godebug = none := by kernel_rfl
theorem schemaTypes_laidOut : laidOutB Try.prog = true := by kernel_rfl

theorem schemaTypes_small {H : Type} {L : List V} {d0 d1 d : DataW H} (hd : (d = .nil ∧ L = []) ∨ ∃ sp, d = .slice (L.map V.datum) sp) (hk : Rows.uptoSmall H [d0, d1, d] = true) : Rows.uptoBulk d1 ≤ 16777216 ∧ L.length ≤ 1048576 := by
  have h : Rows.uptoBulkAll [d0, d1, d] ≤ 1048576 := of_decide_eq_true hk
  simp only [Rows.uptoBulkAll] at h
  rcases hd with ⟨rfl, rfl⟩ | ⟨sp, rfl⟩
  · exact ⟨by omega, by simp⟩
  · have := slice_bulk (L.map V.datum) sp
    rw [List.length_map] at this
    exact ⟨by omega, by omega⟩

set_option maxRecDepth 100000 in
theorem schemaTypes_contract (H : Type) (enc : TypeId × Value → H) (W : World) (base : Nat) (args : Array Value) (ds gs : List (DataW H)) (before : List MemPlace)
    (hval : ∀ (j : Nat) t v, Try.f4.params[j]? = some t → args[j]? = some v → Value.okWide Try.prog W .any base t v)
    (hW : DataW.Whole enc Try.prog Try.f4.params.toList Rows.schemaTypesSpec.vars false W args.toList ds gs before) (hk : Rows.uptoSmall H (ds ++ gs) = true) :
    Calls Try.prog 4 args W fun e W' => ∃ v, e = .returned v ∧ Rows.schemaTypesSpec.post enc Try.prog Try.f4 false true false false W args v W' := by
  have hW' := hW
  obtain ⟨p, q, hA0, hV, rfl, _, _⟩ := hW
  have hA : DataW.TrodAll enc Try.prog W 0 (fun _ => true) true Try.f4.params.toList args.toList ds p := hA0
  rw [Try.params4] at hA hval
  obtain ⟨v0, v1, v2, d0, d1, d2, p0, p1, p2, rfl, rfl, rfl, h0, h1, h2⟩ := trodAll_three hA
  obtain ⟨rfl, rfl⟩ := trodVars_none hV
  obtain ⟨cs0, rfl, hsz0⟩ := okWide_struct Try.underlying25 (hval 0 25 v0 rfl rfl)
  obtain ⟨cs1, rfl, hsz1⟩ := okWide_struct Try.underlying36 (hval 1 36 v1 rfl rfl)
  obtain ⟨a2, len2, cap2, rfl⟩ := okWide_slice Try.underlying48 (hval 2 48 v2 rfl rfl)
  have k0 := h0
  have k1 := h1
  have k2 := h2
  have lt0 : ∀ x ∈ p0, x.block < W.heap.size := by obtain ⟨m, hm⟩ := k0; exact DataW.trod_lt m _ _ _ hm
  have lt1 : ∀ x ∈ p1, x.block < W.heap.size := by obtain ⟨m, hm⟩ := k1; exact DataW.trod_lt m _ _ _ hm
  have lt2 : ∀ x ∈ p2, x.block < W.heap.size := by obtain ⟨m, hm⟩ := k2; exact DataW.trod_lt m _ _ _ hm
  obtain ⟨n0, f0⟩ := h0
  obtain ⟨n1, f1⟩ := h1
  obtain ⟨n2, f2⟩ := h2
  obtain ⟨A, ha, hsa, hda⟩ := open_vals (sv := .slice a2 len2 cap2) f2
  simp only [List.append_nil] at hk
  obtain ⟨hbe, hla⟩ := schemaTypes_small hda hk
  obtain ⟨c, hc, hfc⟩ := open_cat f0
  have hc' : IsCat (fun k => k < W.heap.size) W c (.agg cs0) := by simpa [Value.cells] using hc
  obtain ⟨st, hst, hfb, hn1, hn2⟩ := open_stm hbe f1
  have hst' : kStm.R (fun k => k < W.heap.size) W st cs1.toList := by simpa [Value.cells] using hst
  clear hA0
  have HW := schemaTypes_walk c _ st cs1.toList A _ W.heap.size W hc' hst' (Nat.le_refl _) hfc hfb ha hsa (Nat.le_trans hla (by decide)) hn1 hn2
  rw [Array.toArray_toList] at HW
  refine HW.mono fun e W' ⟨he, bel⟩ => ?_
  subst he
  exact ⟨_, rfl, _, _, _, [], _, [], hW', trodAll_mk1 (shut_bool Try.underlying4 _), (trodAll_cons_mk (Below.trod schemaTypes_laidOut (by kernel_rfl) (of_decide_eq_true (by kernel_rfl)) k0 bel lt0) (trodAll_cons_mk (Below.trod schemaTypes_laidOut (by kernel_rfl) (of_decide_eq_true (by kernel_rfl)) k1 bel lt1) (trodAll_cons_mk (Below.trod schemaTypes_laidOut (by kernel_rfl) (of_decide_eq_true (by kernel_rfl)) k2 bel lt2) trodAll_mk0))), rfl, bel.frame _, fun h => by cases h⟩

set_option maxRecDepth 100000 in
theorem schemaTypes_lifted (os : Os) (started : os.Started) (H : Type) (enc : TypeId × Value → H) (F : Stop.Interp) :
    ReturnsInHanded {} Try.checked os 4 .any ((Rows.OpenSpec.upto Rows.schemaTypesSpec).pre6 enc Try.prog Try.f4 Rows.schemaTypesUptoRow.domain false) (((Rows.OpenSpec.upto Rows.schemaTypesSpec).at F).post enc Try.prog Try.f4 false true false false) := by
  refine returnsInHanded_of_cond (C := Try.checked) (s := Rows.OpenSpec.upto Rows.schemaTypesSpec) (k := Rows.uptoSmall) rfl schemaTypes_own started (by kernel_rfl) Try.func4
    (OpenSpec.witness (enc := enc) (C := Try.checked) (s := Rows.OpenSpec.upto Rows.schemaTypesSpec) (k := Rows.uptoSmall) rfl false ⟨#[], #[.agg #[.slice none 0 0, .slice none 0 0], .agg #[.int .i64 0, .string .empty, .string .empty, .string .empty, .slice none 0 0, .slice none 0 0, .slice none 0 0, .slice none 0 0, .slice none 0 0, .int .i64 0, .int .i64 0, .int .i64 0, .string .empty, .string .empty, .string .empty, .int .i64 0, .slice none 0 0, .slice none 0 0, .bool false, .int .i64 0], .slice none 0 0], []⟩ 8 (by kernel_rfl) (by kernel_rfl) (by kernel_rfl)
      (x := ([.agg [.nil, .nil], .agg [.lit (.int .i64 0), .lit (.string []), .lit (.string []), .lit (.string []), .nil, .nil, .nil, .nil, .nil, .agg [.lit (.int .i64 0), .agg [.lit (.int .i64 0), .lit (.int .i64 0), .lit (.string [])], .lit (.string []), .lit (.string []), .lit (.int .i64 0), .nil], .nil, .lit (.bool false), .lit (.int .i64 0)], .nil], [], [])) (by kernel_rfl) rfl (by kernel_rfl)) ?_
  intro W base args ds gs before hval hW _ hk _
  exact schemaTypes_contract H enc W base args ds gs before hval hW hk

theorem schemaTypes_holds : Rows.SchemaTypesUptoSaid :=
  OpenClaim.holds_of_cond 4 Try.f4 rfl rfl rfl rfl rfl rfl rfl ⟨rfl, rfl, rfl, rfl, rfl⟩ rfl rfl rfl rfl rfl (by kernel_rfl) Try.func4 (by kernel_rfl)
    (of_decide_eq_true (by kernel_rfl)) (by unfold Func.isWrapper; first | (rw [if_pos (by decide +kernel)]; kernel_rfl) | (rw [if_neg (by decide +kernel)]; exact ⟨rfl, rfl⟩))
    (fun os started H enc _ F => schemaTypes_lifted os started H enc F)

#print axioms schemaTypes_holds
end Go.Proofs.Ytabanbpnghidhaa
