/-
  For every tree and three texts, of bulk at most 1048576 together, TreeDoes answers true: Good, Get, Put, Drop, Range and Size answer what the document says; its arguments read behind it as they did.
-/
import Derived.Test.YtfcdkpkmkepcaaaDDoes
import Derived.Test.YtfcdkpkmkepcaaaTOpen
import Derived.Test.YtfcdkpkmkepcaaaDOpen
import Derived.Test.YtfcdkpkmkepcaaaBulk
import Derived.ProofKit
import Derived.OpenShut
import Derived.ChangeOld
import Derived.JoinedCond
namespace Go.Proofs.Ytfcdkpkmkepcaaa
open Go.ChangeShapes Go.WideShapes Go.ChangeAt Go.RowKit
open Go.ChangeMaps (open_string shut_string)

theorem treeDoes_own : ownKnob Try.prog.godebug = none := by kernel_rfl
theorem treeDoes_laidOut : laidOutB Try.prog = true := by kernel_rfl

theorem treeDoes_small {H : Type} {T : List Pg} {d : DataW H} {rest : List (DataW H)} (hd : (d = .nil ∧ T = []) ∨ ∃ el sp, d = .slice el sp ∧ el.length = T.length) (hk : Rows.uptoSmall H (.agg [d] :: rest) = true) : T.length ≤ 1048576 := by
  have h : Rows.uptoBulkAll (.agg [d] :: rest) ≤ 1048576 := of_decide_eq_true hk
  simp only [Rows.uptoBulkAll, Rows.uptoBulk] at h
  rcases hd with ⟨rfl, rfl⟩ | ⟨el, sp, rfl, hl⟩
  · simp
  · have := slice_bulk el sp
    omega

theorem treeDoes_contract (H : Type) (enc : TypeId × Value → H) (W : World) (base : Nat) (args : Array Value) (ds gs : List (DataW H)) (before : List MemPlace)
    (hval : ∀ (j : Nat) t v, Try.f7.params[j]? = some t → args[j]? = some v → Value.okWide Try.prog W .any base t v)
    (hW : DataW.Whole enc Try.prog Try.f7.params.toList Rows.treeDoesSpec.vars false W args.toList ds gs before) (hk : Rows.uptoSmall H (ds ++ gs) = true) :
    Calls Try.prog 7 args W fun e W' => ∃ v, e = .returned v ∧ Rows.treeDoesSpec.post enc Try.prog Try.f7 false true false false W args v W' := by
  have hW' := hW
  obtain ⟨p, q, hA0, hV, rfl, _, _⟩ := hW
  have hA : DataW.TrodAll enc Try.prog W 0 (fun _ => true) true Try.f7.params.toList args.toList ds p := hA0
  rw [Try.params7] at hA hval
  obtain ⟨v0, v1, v2, v3, d0, d1, d2, d3, p0, p1, p2, p3, rfl, rfl, rfl, h0, h1, h2, h3⟩ := trodAll_four hA
  obtain ⟨rfl, rfl⟩ := trodVars_none hV
  obtain ⟨cs0, rfl, hsz0⟩ := okWide_struct Try.underlying39 (hval 0 39 v0 rfl rfl)
  obtain ⟨s1, rfl, rfl, rfl, hm1⟩ := open_string Try.underlying9 (hval 1 9 v1 rfl rfl) h1
  obtain ⟨s2, rfl, rfl, rfl, hm2⟩ := open_string Try.underlying9 (hval 2 9 v2 rfl rfl) h2
  obtain ⟨s3, rfl, rfl, rfl, hm3⟩ := open_string Try.underlying9 (hval 3 9 v3 rfl rfl) h3
  have k0 := h0
  have lt0 : ∀ x ∈ p0, x.block < W.heap.size := by obtain ⟨m, hm⟩ := k0; exact DataW.trod_lt m _ _ _ hm
  obtain ⟨n0, f0⟩ := h0
  obtain ⟨sv, T, hcs, hT, d, hd0, hd⟩ := open_tree f0
  have hcs' : cs0 = #[sv] := Array.toList_inj.1 hcs
  subst hcs'
  have hd0' : d0 = .agg [d] := hd0
  subst hd0'
  simp only [List.append_nil] at hk
  have hn := treeDoes_small hd hk
  have hsh : Short T := tree_short f0 hT hk
  clear hA0
  refine (treeDoes_walk T _ s1 s2 s3 W ⟨sv, rfl, hT⟩ hn hsh).mono fun e W' ⟨he, bel⟩ => ?_
  subst he
  exact ⟨_, rfl, _, _, _, [], _, [], hW', trodAll_mk1 (shut_bool Try.underlying4 _), (trodAll_cons_mk (Below.trod treeDoes_laidOut (by kernel_rfl) (of_decide_eq_true (by kernel_rfl)) k0 bel lt0) (trodAll_cons_mk (shut_string Try.underlying9 hm1) (trodAll_cons_mk (shut_string Try.underlying9 hm2) (trodAll_cons_mk (shut_string Try.underlying9 hm3) trodAll_mk0)))), rfl, bel.frame _, fun h => by cases h⟩

set_option maxRecDepth 100000 in
theorem treeDoes_lifted (os : Os) (started : os.Started) (H : Type) (enc : TypeId × Value → H) (F : Stop.Interp) :
    ReturnsInHanded {} Try.checked os 7 .any ((Rows.OpenSpec.upto Rows.treeDoesSpec).pre6 enc Try.prog Try.f7 Rows.treeDoesUptoRow.domain false) (((Rows.OpenSpec.upto Rows.treeDoesSpec).at F).post enc Try.prog Try.f7 false true false false) := by
  refine returnsInHanded_of_cond (C := Try.checked) (s := Rows.OpenSpec.upto Rows.treeDoesSpec) (k := Rows.uptoSmall) rfl treeDoes_own started (by kernel_rfl) Try.func7
    (OpenSpec.witness (enc := enc) (C := Try.checked) (s := Rows.OpenSpec.upto Rows.treeDoesSpec) (k := Rows.uptoSmall) rfl false ⟨#[], #[.agg #[.slice none 0 0], .string .empty, .string .empty, .string .empty], []⟩ 8 (by kernel_rfl) (by kernel_rfl) (by kernel_rfl)
      (x := ([.agg [.nil], .lit (.string []), .lit (.string []), .lit (.string [])], [], [])) (by kernel_rfl) rfl (by kernel_rfl)) ?_
  intro W base args ds gs before hval hW _ hk _
  exact treeDoes_contract H enc W base args ds gs before hval hW hk

theorem treeDoes_holds : Rows.TreeDoesUptoSaid :=
  OpenClaim.holds_of_cond 7 Try.f7 rfl rfl rfl rfl rfl rfl rfl ⟨rfl, rfl, rfl, rfl, rfl⟩ rfl rfl rfl rfl rfl (by kernel_rfl) Try.func7 (by kernel_rfl)
    (of_decide_eq_true (by kernel_rfl)) (by unfold Func.isWrapper; first | (rw [if_pos (by decide +kernel)]; kernel_rfl) | (rw [if_neg (by decide +kernel)]; exact ⟨rfl, rfl⟩))
    (fun os started H enc _ F => treeDoes_lifted os started H enc F)

#print axioms treeDoes_holds
end Go.Proofs.Ytfcdkpkmkepcaaa
