/-
  1 texts of this proof in one, in build order: YKind.
-/
import Derived.Deep.RegionHeld3
import Derived.Test.YthehiijgnepcfaaGreatJ25
namespace Go.Proofs.YthehiijgnepcfaaGreat
open Go.RowKit Go.Maps

def errR (m : Int) (st : Stm) : Except Int Stm := if m = 0 then .ok st else .error m
/-- A command bound, by its kind. -/
def kindR (ct : CatD) (st : Stm) : Except Int Stm :=
  if st.kind = 1 then errR (createR ct st.name st.cols) st
  else if st.kind = 2 then errR (markR ct st.name st.table st.col) st
  else if st.kind = 3 then errR (dropR ct st.name) st
  else if st.kind = 4 ∨ st.kind = 5 ∨ st.kind = 6 then changeR ct st
  else if st.kind = 7 then selectR ct st
  else .error 1
/-- P4.5 to P4.8 -/
def bindStm (ct : CatD) (st : Stm) : Except Int Stm := if catB ct = false ∨ exprsB st = false then .error 1 else kindR ct st

theorem yields_row {P : Program} {ops : Array Oper} {S : World → Prop} {op : Oper} {a : Act} (hgd : op.guard = none) (ty : TypeId) (x : Operand) (ho : op.op = .load ty x) (g : Nat) (hx : a.eval x = .pointer (some ⟨g, 0, none⟩)) (cs : Array Value) (t : TypeId) (d : TypeDesc) (hS : ∀ w, S w → w.heap[g]? = some (.cells cs t (0, 0)))
    (hu : P.underlying ty = some d) (hd : (match d with | .struct _ | .array _ _ => true | _ => false) = true) (hi : (P.info? ty).map (·.size) = some cs.size) : YieldsIf P ops S op (.agg cs) a :=
  .inl ⟨by simp [Region.wanted, hgd], fun w hw' => by
    unfold execOp
    simp only [ho, hx, Instr.loadAt, Instr.sureAddr, Sem.run_bind, Sem.run_pure, Result.andThen_ok, run_loadVar_row w g t ty cs (0, 0) d (hS w hw') hu hd hi]⟩

/-- What a command must be of which no text and no list is too great. -/
structure FitB (st : Stm) : Prop where
  fs : FitS st
  nm : st.name.size ≤ maxLen
  cols : fitCols st.cols
  rows : st.rows.length ≤ 16777216
  row : ∀ r ∈ st.rows, r.length ≤ 16777216
  sets : st.sets.length ≤ 16777216
  set : ∀ p ∈ st.sets, p.1.size ≤ maxLen
  out : st.out.length ≤ 16777216
  order : st.order.length ≤ 16777216
  frm : ∀ s ∈ st.frm, s.size ≤ maxLen
/-- All its expressions are good. -/
theorem exprs_parts {st : Stm} (h : exprsB st = true) : (∀ r ∈ st.rows, ∀ a ∈ r, geB 40 a = true) ∧ (∀ p ∈ st.sets, geB 40 p.2 = true) ∧ (∀ a ∈ st.out, geB 40 a = true) ∧ (∀ a ∈ st.order, geB 40 a = true) ∧ (st.wher.opn ≠ 0 → geB 40 st.wher = true) := by
  simp only [exprsB, badEs, badE, Bool.and_eq_true, Bool.not_eq_true', List.any_eq_false, Bool.or_eq_true, decide_eq_true_eq] at h
  obtain ⟨⟨⟨⟨h1, h2⟩, h3⟩, h4⟩, h5⟩ := h
  refine ⟨fun r hr a ha => ?_, fun p hp => ?_, fun a ha => ?_, fun a ha => ?_, fun h0 => ?_⟩
  · have := h1 r hr
    simp only [List.any_eq_true, not_exists, not_and] at this
    simpa [badE] using this a ha
  · simpa using h2 p hp
  · simpa using h3 a ha
  · simpa using h4 a ha
  · rcases h5 with h5 | h5
    · exact absurd h5 h0
    · simpa using h5
theorem cat_cols {ct : CatD} (h : catB ct = true) : ∀ t ∈ ct.tables, t.cols.length ≤ 1000000 := by
  simp only [catB, Bool.and_eq_true, tabsB, Bool.not_eq_true', decide_eq_true_eq] at h
  obtain ⟨⟨_, h2, _⟩, _⟩ := h
  rw [anyI_list] at h2
  intro t ht
  have := (List.any_eq_false.1 h2) t ht
  simp only [Bool.not_eq_true', Bool.not_eq_false, tabB, Bool.and_eq_true, decide_eq_true_eq] at this
  omega
theorem changeR_err {ct : CatD} {st : Stm} {m : Int} (h : changeR ct st = .error m) : m = 3 ∨ m = 4 ∨ m = 5 := by
  unfold changeR at h
  cases h1 : tabOf ct.tables st.table with
  | none => rw [h1] at h; exact .inl (Except.error.inj h).symm
  | some t =>
    rw [h1] at h
    simp only at h
    cases h2 : rowsR t.cols st.rows with
    | error k => rw [h2] at h; obtain rfl := Except.error.inj h; rcases rowsR_err h2 with h | h <;> simp [h]
    | ok r =>
      rw [h2] at h
      simp only at h
      cases h3 : setsR t [] st.sets with
      | error k => rw [h3] at h; obtain rfl := Except.error.inj h; exact setsR_err h3
      | ok q =>
        rw [h3] at h
        simp only at h
        cases h4 : whR [t] st.wher with
        | error k =>
          rw [h4] at h
          obtain rfl := Except.error.inj h
          unfold whR at h4
          split at h4
          · cases h4
          · rcases asR_err h4 with h | h <;> simp [h]
        | ok e => rw [h4] at h; cases h
theorem selectR_err {ct : CatD} {st : Stm} {m : Int} (h : selectR ct st = .error m) : m = 1 ∨ m = 3 ∨ m = 4 ∨ m = 5 := by
  unfold selectR at h
  cases h1 : scopeR ct.tables st.frm with
  | error k => rw [h1] at h; obtain rfl := Except.error.inj h; rcases scopeR_err h1 with h | h | h <;> simp [h]
  | ok S =>
    rw [h1] at h
    simp only at h
    cases h2 : outR S st.out with
    | error k => rw [h2] at h; obtain rfl := Except.error.inj h; rcases outR_err h2 with h | h <;> simp [h]
    | ok r =>
      rw [h2] at h
      simp only at h
      cases h3 : allR S st.order with
      | error k => rw [h3] at h; obtain rfl := Except.error.inj h; rcases allR_err h3 with h | h <;> simp [h]
      | ok q =>
        rw [h3] at h
        simp only at h
        cases h4 : whR S st.wher with
        | error k =>
          rw [h4] at h
          obtain rfl := Except.error.inj h
          unfold whR at h4
          split at h4
          · cases h4
          · rcases asR_err h4 with h | h <;> simp [h]
        | ok e => rw [h4] at h; cases h
theorem errR_err {k m : Int} {st : Stm} (h : errR k st = .error m) : m = k ∧ k ≠ 0 := by
  unfold errR at h
  split at h
  · cases h
  · exact ⟨(Except.error.inj h).symm, by assumption⟩
theorem kindR_err {ct : CatD} {st : Stm} {m : Int} (h : kindR ct st = .error m) : m = 1 ∨ m = 3 ∨ m = 4 ∨ m = 5 ∨ m = 8 := by
  unfold kindR at h
  split at h
  · obtain ⟨rfl, h0⟩ := errR_err h
    unfold createR at h0 ⊢
    repeat' split
    all_goals simp_all
  · split at h
    · obtain ⟨rfl, h0⟩ := errR_err h
      unfold markR at h0 ⊢
      repeat' split
      all_goals simp_all
    · split at h
      · obtain ⟨rfl, h0⟩ := errR_err h
        unfold dropR at h0 ⊢
        split
        all_goals simp_all
      · split at h
        · rcases changeR_err h with h | h | h <;> simp [h]
        · split at h
          · rcases selectR_err h with h | h | h | h <;> simp [h]
          · exact .inl (Except.error.inj h).symm
theorem bindStm_err {ct : CatD} {st : Stm} {m : Int} (h : bindStm ct st = .error m) : m = 1 ∨ m = 3 ∨ m = 4 ∨ m = 5 ∨ m = 8 := by
  unfold bindStm at h
  split at h
  · exact .inl (Except.error.inj h).symm
  · exact kindR_err h

set_option maxRecDepth 100000 in
set_option maxHeartbeats 8000000 in
theorem bindKind_any (ct : CatD) (cv : Value) (st : Stm) (cs : List Value) (C : Nat) (w : World) (hc : IsCat (fun k => k < C) w ct cv) (hR : kStm.R (fun k => k < C) w st cs) (hC : C ≤ w.heap.size) (hf : FitB st) (hgd : exprsB st = true) (hcl : ∀ t ∈ ct.tables, t.cols.length ≤ 1000000) :
    Calls Tryz.prog 15 #[cv, .agg cs.toArray] w fun r w' => (∃ u, r = .returned u ∧ StmAns (kindR ct st) (Fx C w.heap.size) w' u) ∧ Below w.heap.size w w' := by
  obtain ⟨o1, c1, o2, c2, o3, c3, o4, c4, o5, c5, op, xk, xn, xs, s, nmv, n8, o6, k6, c6, o7, c7, rfl, i1, i2, i3, i4, i5, i6, i7⟩ := stm_shape hR
  obtain ⟨g1, g2, g3, g4, g5⟩ := exprs_parts hgd
  obtain ⟨f1, f2, f3, f4, f5, f6, f7, f8, f9, f10⟩ := hf
  obtain ⟨tv, iv, rfl, htl, hil⟩ := hc
  obtain ⟨kind, name, table, col, cols, rows, sets, frm, out, wher, order, down, n⟩ := st
  simp only at i1 i2 i3 i4 i5 i6 i7 g1 g2 g3 g4 g5 f2 f3 f4 f5 f6 f7 f8 f9 f10 ⊢
  clear f1 hgd
  have hb3 := bel3 w (.cells #[tv, iv] 25) (.cells (sA kind name table col (.slice o1 cols.length c1) (.slice o2 rows.length c2) (.slice o3 sets.length c3) (.slice o4 frm.length c4) (.slice o5 out.length c5) op xk xn xs s nmv n8 (.slice o6 k6 c6) (.slice o7 order.length c7) down n) 36) (.cells sZero 36)
  have S0 : SeSt w (((w.alloc (.cells #[tv, iv] 25)).alloc (.cells (sA kind name table col (.slice o1 cols.length c1) (.slice o2 rows.length c2) (.slice o3 sets.length c3) (.slice o4 frm.length c4) (.slice o5 out.length c5) op xk xn xs s nmv n8 (.slice o6 k6 c6) (.slice o7 order.length c7) down n) 36)).alloc (.cells sZero 36)) (sA kind name table col (.slice o1 cols.length c1) (.slice o2 rows.length c2) (.slice o3 sets.length c3) (.slice o4 frm.length c4) (.slice o5 out.length c5) op xk xn xs s nmv n8 (.slice o6 k6 c6) (.slice o7 order.length c7) down n) := ⟨block_alloc_of (block2 w (.cells #[tv, iv] 25) (.cells (sA kind name table col (.slice o1 cols.length c1) (.slice o2 rows.length c2) (.slice o3 sets.length c3) (.slice o4 frm.length c4) (.slice o5 out.length c5) op xk xn xs s nmv n8 (.slice o6 k6 c6) (.slice o7 order.length c7) down n) 36)) _, block3 w (.cells #[tv, iv] 25) (.cells (sA kind name table col (.slice o1 cols.length c1) (.slice o2 rows.length c2) (.slice o3 sets.length c3) (.slice o4 frm.length c4) (.slice o5 out.length c5) op xk xn xs s nmv n8 (.slice o6 k6 c6) (.slice o7 order.length c7) down n) 36) (.cells sZero 36), hb3, by simp⟩
  have hcat : (((w.alloc (.cells #[tv, iv] 25)).alloc (.cells (sA kind name table col (.slice o1 cols.length c1) (.slice o2 rows.length c2) (.slice o3 sets.length c3) (.slice o4 frm.length c4) (.slice o5 out.length c5) op xk xn xs s nmv n8 (.slice o6 k6 c6) (.slice o7 order.length c7) down n) 36)).alloc (.cells sZero 36)).heap[w.heap.size]? = some (.cells #[tv, iv] 25) := block_alloc_of (block_alloc_of (block_alloc_at _ _) _) _
  have h1 : (sA kind name table col (.slice o1 cols.length c1) (.slice o2 rows.length c2) (.slice o3 sets.length c3) (.slice o4 frm.length c4) (.slice o5 out.length c5) op xk xn xs s nmv n8 (.slice o6 k6 c6) (.slice o7 order.length c7) down n).all (·.oneCell') = true := one_sA (isSl _ _ _) (isSl _ _ _) (isSl _ _ _) (isSl _ _ _) (isSl _ _ _) (isSl _ _ _) (isSl _ _ _)
  have hCW : C ≤ (((w.alloc (.cells #[tv, iv] 25)).alloc (.cells (sA kind name table col (.slice o1 cols.length c1) (.slice o2 rows.length c2) (.slice o3 sets.length c3) (.slice o4 frm.length c4) (.slice o5 out.length c5) op xk xn xs s nmv n8 (.slice o6 k6 c6) (.slice o7 order.length c7) down n) 36)).alloc (.cells sZero 36)).heap.size := Nat.le_trans hC hb3.size
  have hcW : IsCat (fun k => k < C) (((w.alloc (.cells #[tv, iv] 25)).alloc (.cells (sA kind name table col (.slice o1 cols.length c1) (.slice o2 rows.length c2) (.slice o3 sets.length c3) (.slice o4 frm.length c4) (.slice o5 out.length c5) op xk xn xs s nmv n8 (.slice o6 k6 c6) (.slice o7 order.length c7) down n) 36)).alloc (.cells sZero 36)) ct (.agg #[tv, iv]) := ⟨tv, iv, rfl, htl.keep (keepsC (hb3.mono hC)), hil.keep (keepsC (hb3.mono hC))⟩
  have hRW := kStm.keep (keepsC (hb3.mono hC)) hR
  have k1 := cell_of_block S0.stm (j := 0) rfl
  have ct0 := cell_of_block hcat (j := 0) rfl
  have ct1 := cell_of_block hcat (j := 1) rfl
  have hlc := lt_of_block hcat
  have hsl1 := isL_one htl
  have hsl2 := isL_one hil
  have hst : ∀ wf, Below w.heap.size w wf → kStm.R (Fx C w.heap.size) wf ⟨kind, name, table, col, cols, rows, sets, frm, out, wher, order, down, n⟩ (sA kind name table col (.slice o1 cols.length c1) (.slice o2 rows.length c2) (.slice o3 sets.length c3) (.slice o4 frm.length c4) (.slice o5 out.length c5) op xk xn xs s nmv n8 (.slice o6 k6 c6) (.slice o7 order.length c7) down n).toList := fun wf hb => kStm.mono (fun k _ h => .inl h) (kStm.keep (keepsC (hb.mono hC)) hR)
  by_cases e1 : kind = 1
  · subst e1
    have HM := mayCreate_any ct (.agg #[tv, iv]) C (((w.alloc (.cells #[tv, iv] 25)).alloc (.cells (sA 1 name table col (.slice o1 cols.length c1) (.slice o2 rows.length c2) (.slice o3 sets.length c3) (.slice o4 frm.length c4) (.slice o5 out.length c5) op xk xn xs s nmv n8 (.slice o6 k6 c6) (.slice o7 order.length c7) down n) 36)).alloc (.cells sZero 36)).drew (hcW.keep (Keeps.refl _ _).drew) hCW cols 1 name table col (.slice o1 cols.length c1) (.slice o2 rows.length c2) (.slice o3 sets.length c3) (.slice o4 frm.length c4) (.slice o5 out.length c5) op xk xn xs s nmv n8 (.slice o6 k6 c6) (.slice o7 order.length c7) down n ((i1.keep (keepsC (hb3.mono hC))).keep (Keeps.refl _ _).drew) ⟨f2, f3⟩
    have HE : Hid (kindR ct ⟨1, name, table, col, cols, rows, sets, frm, out, wher, order, down, n⟩ = errR (createR ct name cols) ⟨1, name, table, col, cols, rows, sets, frm, out, wher, order, down, n⟩) := rfl
    generalize createR ct name cols = m at HM HE
    clear hcW hRW htl hil i1 i2 i3 i4 i5 i6 i7
    go_enter Tryz.func15, Tryz.ntmps15
    go_wp2_with fail
    refine wp_region_held_drew (S := (fun w' => w'.heap[w.heap.size]? = some (.cells #[tv, iv] 25) ∧ w'.heap[w.heap.size + 1]? = some (.cells (sA 1 name table col (.slice o1 cols.length c1) (.slice o2 rows.length c2) (.slice o3 sets.length c3) (.slice o4 frm.length c4) (.slice o5 out.length c5) op xk xn xs s nmv n8 (.slice o6 k6 c6) (.slice o7 order.length c7) down n) 36))) (by kernel_rfl) ?_ (fun hHeld => ?_)
    · exact ⟨hcat, S0.stm⟩
    refine wpAnyH_take (i := 0) (oi := { dst := some 10, op := Go.Op.load 36 (Go.Operand.tmp 3), type := 36, pos := "bind.go:35", after := #[], guard := none }) (v := .agg (sA 1 name table col (.slice o1 cols.length c1) (.slice o2 rows.length c2) (.slice o3 sets.length c3) (.slice o4 frm.length c4) (.slice o5 out.length c5) op xk xn xs s nmv n8 (.slice o6 k6 c6) (.slice o7 order.length c7) down n)) rfl (by kernel_rfl) (by kernel_rfl) (by kernel_rfl) (fun _ _ _ h => h) (yields_row rfl 36 _ rfl (w.heap.size + 1) rfl (sA 1 name table col (.slice o1 cols.length c1) (.slice o2 rows.length c2) (.slice o3 sets.length c3) (.slice o4 frm.length c4) (.slice o5 out.length c5) op xk xn xs s nmv n8 (.slice o6 k6 c6) (.slice o7 order.length c7) down n) 36 _ (fun _ h => h.2) Tryz.underlying36 rfl size_stm) (by assumption) ?_
    try simp only [Act.put, List.setIfInBounds_toArray, List.set_cons_zero, List.set_cons_succ]
    refine wpAnyH_take (i := 1) (oi := { dst := some 11, op := Go.Op.load 25 (Go.Operand.tmp 2), type := 25, pos := "bind.go:35", after := #[], guard := none }) (v := .agg #[tv, iv]) rfl (by kernel_rfl) (by kernel_rfl) (by kernel_rfl) (fun _ _ _ h => h) (yields_row rfl 25 _ rfl w.heap.size rfl #[tv, iv] 25 _ (fun _ h => h.1) Tryz.underlying25 rfl (by kernel_rfl)) (by assumption) ?_
    try simp only [Act.put, List.setIfInBounds_toArray, List.set_cons_zero, List.set_cons_succ]
    refine wpAnyH_take (i := 2) (oi := { dst := some 12, op := Go.Op.load 36 (Go.Operand.tmp 3), type := 36, pos := "bind.go:35", after := #[], guard := none }) (v := .agg (sA 1 name table col (.slice o1 cols.length c1) (.slice o2 rows.length c2) (.slice o3 sets.length c3) (.slice o4 frm.length c4) (.slice o5 out.length c5) op xk xn xs s nmv n8 (.slice o6 k6 c6) (.slice o7 order.length c7) down n)) rfl (by kernel_rfl) (by kernel_rfl) (by kernel_rfl) (fun _ _ _ h => h) (yields_row rfl 36 _ rfl (w.heap.size + 1) rfl (sA 1 name table col (.slice o1 cols.length c1) (.slice o2 rows.length c2) (.slice o3 sets.length c3) (.slice o4 frm.length c4) (.slice o5 out.length c5) op xk xn xs s nmv n8 (.slice o6 k6 c6) (.slice o7 order.length c7) down n) 36 _ (fun _ h => h.2) Tryz.underlying36 rfl size_stm) (by assumption) ?_
    try simp only [Act.put, List.setIfInBounds_toArray, List.set_cons_zero, List.set_cons_succ]
    refine wpAnyH_ready (rs := [3]) (by kernel_rfl) (by simp) ?_
    refine (AllReadyH.cons (o := { dst := some 13, op := Go.Op.call { callee := Go.Callee.value (Go.Operand.func 46), args := #[Go.Operand.tmp 11, Go.Operand.tmp 12], argTypes := #[25, 36] }, type := 38, pos := "bind.go:35", after := #[{ on := 1, ground := Go.Ground.data }, { on := 2, ground := Go.Ground.data }], guard := none }) rfl (fun K hK => ?_) AllReadyH.nil)
    go_simp
    (go_at_call 46; refine HM.mono ?_; rintro e w1 ⟨rfl, hb1⟩; have S1 := (S0.below (Below.refl _ _).drew).below hb1; have cat1 := (hb1.block _ hlc).trans hcat)
    go_wp2_with fail
    refine hK.out _ _ ?_ (fun hHeld => ?_)
    · exact ⟨cat1, S1.stm⟩
    clear hK K
    try simp only [Act.put, List.setIfInBounds_toArray, List.set_cons_zero, List.set_cons_succ]
    refine wpAnyH_ready (rs := [4]) (by kernel_rfl) (by simp) ?_
    refine (AllReadyH.cons (o := { dst := none, op := Go.Op.store 36 (Go.Operand.tmp 4) (Go.Operand.tmp 10), type := 0, pos := "bind.go:35", after := #[{ on := 0, ground := Go.Ground.data }, { on := 3, ground := Go.Ground.chain }, { on := 0, ground := Go.Ground.phase }, { on := 1, ground := Go.Ground.textOnly Go.Departure.lateStores }, { on := 2, ground := Go.Ground.textOnly Go.Departure.lateStores }, { on := 3, ground := Go.Ground.textOnly Go.Departure.lateStoresUnsure }], guard := none }) rfl (fun K hK => ?_) AllReadyH.nil)
    refine step_store_row rfl 36 _ _ rfl (w.heap.size + 1 + 1) (sA 1 name table col (.slice o1 cols.length c1) (.slice o2 rows.length c2) (.slice o3 sets.length c3) (.slice o4 frm.length c4) (.slice o5 out.length c5) op xk xn xs s nmv n8 (.slice o6 k6 c6) (.slice o7 order.length c7) down n) ?_ ?_ 36 sZero ?_ ?_ ?_ ?_ ?_; exact rfl; exact rfl; exact S1.room; exact size_stm; exact rfl; exact h1
    refine hK.out _ _ ?_ (fun hHeld => ?_)
    · exact ⟨block_row_other cat1 (by omega) _, block_row_other S1.stm (by omega) _⟩
    clear hK K
    try simp only [Act.put]
    refine wpAnyH_take (i := 5) (oi := { dst := some 5, op := Go.Op.assign (Go.Operand.tmp 13), type := 38, pos := "bind.go:35", after := #[{ on := 3, ground := Go.Ground.data }, { on := 4, ground := Go.Ground.chain }, { on := 0, ground := Go.Ground.phase }, { on := 1, ground := Go.Ground.phase }, { on := 2, ground := Go.Ground.phase }, { on := 3, ground := Go.Ground.phase }, { on := 4, ground := Go.Ground.phase }], guard := none }) (v := ?_) rfl (by kernel_rfl) (by kernel_rfl) (by kernel_rfl) (fun _ _ _ h => h) (Or.inl ⟨by rfl, ?_⟩) (by assumption) ?_
    rotate_left
    · intro w hSw; (try dsimp only at hSw); go_simp; all_goals (with_reducible rfl)
    try simp only [Act.put, List.setIfInBounds_toArray, List.set_cons_zero, List.set_cons_succ]
    refine wpAnyH_done (by kernel_rfl) ?_ _
    go_wp2_with fail
    refine bodyPost_ret (results_two Tryz.results15 _ _ (w.heap.size + 1 + 1) 36 (sA 1 name table col (.slice o1 cols.length c1) (.slice o2 rows.length c2) (.slice o3 sets.length c3) (.slice o4 frm.length c4) (.slice o5 out.length c5) op xk xn xs s nmv n8 (.slice o6 k6 c6) (.slice o7 order.length c7) down n) _ _ _ rfl rfl (block_row S1.room) Tryz.underlying36 rfl size_stm) rfl ⟨⟨_, rfl, ?_⟩, Below.row S1.bel (by omega) _⟩
    refine ⟨_, rfl, h1, ?_⟩
    rw [HE.out]
    unfold errR
    by_cases h0 : m = 0
    · subst h0
      rw [if_pos rfl]
      exact ⟨rfl, hst _ (Below.row S1.bel (by omega) _)⟩
    · rw [if_neg h0]
      rfl
  · by_cases e2 : kind = 2
    · subst e2
      have HM := mayMark_any ct (.agg #[tv, iv]) C (((w.alloc (.cells #[tv, iv] 25)).alloc (.cells (sA 2 name table col (.slice o1 cols.length c1) (.slice o2 rows.length c2) (.slice o3 sets.length c3) (.slice o4 frm.length c4) (.slice o5 out.length c5) op xk xn xs s nmv n8 (.slice o6 k6 c6) (.slice o7 order.length c7) down n) 36)).alloc (.cells sZero 36)).drew (hcW.keep (Keeps.refl _ _).drew) hCW 2 name table col (.slice o1 cols.length c1) (.slice o2 rows.length c2) (.slice o3 sets.length c3) (.slice o4 frm.length c4) (.slice o5 out.length c5) op xk xn xs s nmv n8 (.slice o6 k6 c6) (.slice o7 order.length c7) down n f2
      have HE : Hid (kindR ct ⟨2, name, table, col, cols, rows, sets, frm, out, wher, order, down, n⟩ = errR (markR ct name table col) ⟨2, name, table, col, cols, rows, sets, frm, out, wher, order, down, n⟩) := rfl
      generalize markR ct name table col = m at HM HE
      clear hcW hRW htl hil i1 i2 i3 i4 i5 i6 i7
      go_enter Tryz.func15, Tryz.ntmps15
      go_wp2_with fail
      refine wp_region_held_drew (S := (fun w' => w'.heap[w.heap.size]? = some (.cells #[tv, iv] 25) ∧ w'.heap[w.heap.size + 1]? = some (.cells (sA 2 name table col (.slice o1 cols.length c1) (.slice o2 rows.length c2) (.slice o3 sets.length c3) (.slice o4 frm.length c4) (.slice o5 out.length c5) op xk xn xs s nmv n8 (.slice o6 k6 c6) (.slice o7 order.length c7) down n) 36))) (by kernel_rfl) ?_ (fun hHeld => ?_)
      · exact ⟨hcat, S0.stm⟩
      refine wpAnyH_take (i := 0) (oi := { dst := some 16, op := Go.Op.load 36 (Go.Operand.tmp 3), type := 36, pos := "bind.go:37", after := #[], guard := none }) (v := .agg (sA 2 name table col (.slice o1 cols.length c1) (.slice o2 rows.length c2) (.slice o3 sets.length c3) (.slice o4 frm.length c4) (.slice o5 out.length c5) op xk xn xs s nmv n8 (.slice o6 k6 c6) (.slice o7 order.length c7) down n)) rfl (by kernel_rfl) (by kernel_rfl) (by kernel_rfl) (fun _ _ _ h => h) (yields_row rfl 36 _ rfl (w.heap.size + 1) rfl (sA 2 name table col (.slice o1 cols.length c1) (.slice o2 rows.length c2) (.slice o3 sets.length c3) (.slice o4 frm.length c4) (.slice o5 out.length c5) op xk xn xs s nmv n8 (.slice o6 k6 c6) (.slice o7 order.length c7) down n) 36 _ (fun _ h => h.2) Tryz.underlying36 rfl size_stm) (by assumption) ?_
      try simp only [Act.put, List.setIfInBounds_toArray, List.set_cons_zero, List.set_cons_succ]
      refine wpAnyH_take (i := 1) (oi := { dst := some 17, op := Go.Op.load 25 (Go.Operand.tmp 2), type := 25, pos := "bind.go:37", after := #[], guard := none }) (v := .agg #[tv, iv]) rfl (by kernel_rfl) (by kernel_rfl) (by kernel_rfl) (fun _ _ _ h => h) (yields_row rfl 25 _ rfl w.heap.size rfl #[tv, iv] 25 _ (fun _ h => h.1) Tryz.underlying25 rfl (by kernel_rfl)) (by assumption) ?_
      try simp only [Act.put, List.setIfInBounds_toArray, List.set_cons_zero, List.set_cons_succ]
      refine wpAnyH_take (i := 2) (oi := { dst := some 18, op := Go.Op.load 36 (Go.Operand.tmp 3), type := 36, pos := "bind.go:37", after := #[], guard := none }) (v := .agg (sA 2 name table col (.slice o1 cols.length c1) (.slice o2 rows.length c2) (.slice o3 sets.length c3) (.slice o4 frm.length c4) (.slice o5 out.length c5) op xk xn xs s nmv n8 (.slice o6 k6 c6) (.slice o7 order.length c7) down n)) rfl (by kernel_rfl) (by kernel_rfl) (by kernel_rfl) (fun _ _ _ h => h) (yields_row rfl 36 _ rfl (w.heap.size + 1) rfl (sA 2 name table col (.slice o1 cols.length c1) (.slice o2 rows.length c2) (.slice o3 sets.length c3) (.slice o4 frm.length c4) (.slice o5 out.length c5) op xk xn xs s nmv n8 (.slice o6 k6 c6) (.slice o7 order.length c7) down n) 36 _ (fun _ h => h.2) Tryz.underlying36 rfl size_stm) (by assumption) ?_
      try simp only [Act.put, List.setIfInBounds_toArray, List.set_cons_zero, List.set_cons_succ]
      refine wpAnyH_ready (rs := [3]) (by kernel_rfl) (by simp) ?_
      refine (AllReadyH.cons (o := { dst := some 19, op := Go.Op.call { callee := Go.Callee.value (Go.Operand.func 47), args := #[Go.Operand.tmp 17, Go.Operand.tmp 18], argTypes := #[25, 36] }, type := 38, pos := "bind.go:37", after := #[{ on := 1, ground := Go.Ground.data }, { on := 2, ground := Go.Ground.data }], guard := none }) rfl (fun K hK => ?_) AllReadyH.nil)
      go_simp
      (go_at_call 47; refine HM.mono ?_; rintro e w1 ⟨rfl, hb1⟩; have S1 := (S0.below (Below.refl _ _).drew).below hb1; have cat1 := (hb1.block _ hlc).trans hcat)
      go_wp2_with fail
      refine hK.out _ _ ?_ (fun hHeld => ?_)
      · exact ⟨cat1, S1.stm⟩
      clear hK K
      try simp only [Act.put, List.setIfInBounds_toArray, List.set_cons_zero, List.set_cons_succ]
      refine wpAnyH_ready (rs := [4]) (by kernel_rfl) (by simp) ?_
      refine (AllReadyH.cons (o := { dst := none, op := Go.Op.store 36 (Go.Operand.tmp 4) (Go.Operand.tmp 16), type := 0, pos := "bind.go:37", after := #[{ on := 0, ground := Go.Ground.data }, { on := 3, ground := Go.Ground.chain }, { on := 0, ground := Go.Ground.phase }, { on := 1, ground := Go.Ground.textOnly Go.Departure.lateStores }, { on := 2, ground := Go.Ground.textOnly Go.Departure.lateStores }, { on := 3, ground := Go.Ground.textOnly Go.Departure.lateStoresUnsure }], guard := none }) rfl (fun K hK => ?_) AllReadyH.nil)
      refine step_store_row rfl 36 _ _ rfl (w.heap.size + 1 + 1) (sA 2 name table col (.slice o1 cols.length c1) (.slice o2 rows.length c2) (.slice o3 sets.length c3) (.slice o4 frm.length c4) (.slice o5 out.length c5) op xk xn xs s nmv n8 (.slice o6 k6 c6) (.slice o7 order.length c7) down n) ?_ ?_ 36 sZero ?_ ?_ ?_ ?_ ?_; exact rfl; exact rfl; exact S1.room; exact size_stm; exact rfl; exact h1
      refine hK.out _ _ ?_ (fun hHeld => ?_)
      · exact ⟨block_row_other cat1 (by omega) _, block_row_other S1.stm (by omega) _⟩
      clear hK K
      try simp only [Act.put]
      refine wpAnyH_take (i := 5) (oi := { dst := some 5, op := Go.Op.assign (Go.Operand.tmp 19), type := 38, pos := "bind.go:37", after := #[{ on := 3, ground := Go.Ground.data }, { on := 4, ground := Go.Ground.chain }, { on := 0, ground := Go.Ground.phase }, { on := 1, ground := Go.Ground.phase }, { on := 2, ground := Go.Ground.phase }, { on := 3, ground := Go.Ground.phase }, { on := 4, ground := Go.Ground.phase }], guard := none }) (v := ?_) rfl (by kernel_rfl) (by kernel_rfl) (by kernel_rfl) (fun _ _ _ h => h) (Or.inl ⟨by rfl, ?_⟩) (by assumption) ?_
      rotate_left
      · intro w hSw; (try dsimp only at hSw); go_simp; all_goals (with_reducible rfl)
      try simp only [Act.put, List.setIfInBounds_toArray, List.set_cons_zero, List.set_cons_succ]
      refine wpAnyH_done (by kernel_rfl) ?_ _
      go_wp2_with fail
      refine bodyPost_ret (results_two Tryz.results15 _ _ (w.heap.size + 1 + 1) 36 (sA 2 name table col (.slice o1 cols.length c1) (.slice o2 rows.length c2) (.slice o3 sets.length c3) (.slice o4 frm.length c4) (.slice o5 out.length c5) op xk xn xs s nmv n8 (.slice o6 k6 c6) (.slice o7 order.length c7) down n) _ _ _ rfl rfl (block_row S1.room) Tryz.underlying36 rfl size_stm) rfl ⟨⟨_, rfl, ?_⟩, Below.row S1.bel (by omega) _⟩
      refine ⟨_, rfl, h1, ?_⟩
      rw [HE.out]
      unfold errR
      by_cases h0 : m = 0
      · subst h0
        rw [if_pos rfl]
        exact ⟨rfl, hst _ (Below.row S1.bel (by omega) _)⟩
      · rw [if_neg h0]
        rfl
    · by_cases e3 : kind = 3
      · subst e3
        have HM := mayDrop_any ct (.agg #[tv, iv]) C (((w.alloc (.cells #[tv, iv] 25)).alloc (.cells (sA 3 name table col (.slice o1 cols.length c1) (.slice o2 rows.length c2) (.slice o3 sets.length c3) (.slice o4 frm.length c4) (.slice o5 out.length c5) op xk xn xs s nmv n8 (.slice o6 k6 c6) (.slice o7 order.length c7) down n) 36)).alloc (.cells sZero 36)).drew (hcW.keep (Keeps.refl _ _).drew) hCW 3 name table col (.slice o1 cols.length c1) (.slice o2 rows.length c2) (.slice o3 sets.length c3) (.slice o4 frm.length c4) (.slice o5 out.length c5) op xk xn xs s nmv n8 (.slice o6 k6 c6) (.slice o7 order.length c7) down n
        have HE : Hid (kindR ct ⟨3, name, table, col, cols, rows, sets, frm, out, wher, order, down, n⟩ = errR (dropR ct name) ⟨3, name, table, col, cols, rows, sets, frm, out, wher, order, down, n⟩) := rfl
        generalize dropR ct name = m at HM HE
        clear hcW hRW htl hil i1 i2 i3 i4 i5 i6 i7
        go_enter Tryz.func15, Tryz.ntmps15
        go_wp2_with fail
        refine wp_region_held_drew (S := (fun w' => w'.heap[w.heap.size]? = some (.cells #[tv, iv] 25) ∧ w'.heap[w.heap.size + 1]? = some (.cells (sA 3 name table col (.slice o1 cols.length c1) (.slice o2 rows.length c2) (.slice o3 sets.length c3) (.slice o4 frm.length c4) (.slice o5 out.length c5) op xk xn xs s nmv n8 (.slice o6 k6 c6) (.slice o7 order.length c7) down n) 36))) (by kernel_rfl) ?_ (fun hHeld => ?_)
        · exact ⟨hcat, S0.stm⟩
        refine wpAnyH_take (i := 0) (oi := { dst := some 22, op := Go.Op.load 36 (Go.Operand.tmp 3), type := 36, pos := "bind.go:39", after := #[], guard := none }) (v := .agg (sA 3 name table col (.slice o1 cols.length c1) (.slice o2 rows.length c2) (.slice o3 sets.length c3) (.slice o4 frm.length c4) (.slice o5 out.length c5) op xk xn xs s nmv n8 (.slice o6 k6 c6) (.slice o7 order.length c7) down n)) rfl (by kernel_rfl) (by kernel_rfl) (by kernel_rfl) (fun _ _ _ h => h) (yields_row rfl 36 _ rfl (w.heap.size + 1) rfl (sA 3 name table col (.slice o1 cols.length c1) (.slice o2 rows.length c2) (.slice o3 sets.length c3) (.slice o4 frm.length c4) (.slice o5 out.length c5) op xk xn xs s nmv n8 (.slice o6 k6 c6) (.slice o7 order.length c7) down n) 36 _ (fun _ h => h.2) Tryz.underlying36 rfl size_stm) (by assumption) ?_
        try simp only [Act.put, List.setIfInBounds_toArray, List.set_cons_zero, List.set_cons_succ]
        refine wpAnyH_take (i := 1) (oi := { dst := some 23, op := Go.Op.load 25 (Go.Operand.tmp 2), type := 25, pos := "bind.go:39", after := #[], guard := none }) (v := .agg #[tv, iv]) rfl (by kernel_rfl) (by kernel_rfl) (by kernel_rfl) (fun _ _ _ h => h) (yields_row rfl 25 _ rfl w.heap.size rfl #[tv, iv] 25 _ (fun _ h => h.1) Tryz.underlying25 rfl (by kernel_rfl)) (by assumption) ?_
        try simp only [Act.put, List.setIfInBounds_toArray, List.set_cons_zero, List.set_cons_succ]
        refine wpAnyH_take (i := 2) (oi := { dst := some 24, op := Go.Op.load 36 (Go.Operand.tmp 3), type := 36, pos := "bind.go:39", after := #[], guard := none }) (v := .agg (sA 3 name table col (.slice o1 cols.length c1) (.slice o2 rows.length c2) (.slice o3 sets.length c3) (.slice o4 frm.length c4) (.slice o5 out.length c5) op xk xn xs s nmv n8 (.slice o6 k6 c6) (.slice o7 order.length c7) down n)) rfl (by kernel_rfl) (by kernel_rfl) (by kernel_rfl) (fun _ _ _ h => h) (yields_row rfl 36 _ rfl (w.heap.size + 1) rfl (sA 3 name table col (.slice o1 cols.length c1) (.slice o2 rows.length c2) (.slice o3 sets.length c3) (.slice o4 frm.length c4) (.slice o5 out.length c5) op xk xn xs s nmv n8 (.slice o6 k6 c6) (.slice o7 order.length c7) down n) 36 _ (fun _ h => h.2) Tryz.underlying36 rfl size_stm) (by assumption) ?_
        try simp only [Act.put, List.setIfInBounds_toArray, List.set_cons_zero, List.set_cons_succ]
        refine wpAnyH_ready (rs := [3]) (by kernel_rfl) (by simp) ?_
        refine (AllReadyH.cons (o := { dst := some 25, op := Go.Op.call { callee := Go.Callee.value (Go.Operand.func 48), args := #[Go.Operand.tmp 23, Go.Operand.tmp 24], argTypes := #[25, 36] }, type := 38, pos := "bind.go:39", after := #[{ on := 1, ground := Go.Ground.data }, { on := 2, ground := Go.Ground.data }], guard := none }) rfl (fun K hK => ?_) AllReadyH.nil)
        go_simp
        (go_at_call 48; refine HM.mono ?_; rintro e w1 ⟨rfl, hb1⟩; have S1 := (S0.below (Below.refl _ _).drew).below hb1; have cat1 := (hb1.block _ hlc).trans hcat)
        go_wp2_with fail
        refine hK.out _ _ ?_ (fun hHeld => ?_)
        · exact ⟨cat1, S1.stm⟩
        clear hK K
        try simp only [Act.put, List.setIfInBounds_toArray, List.set_cons_zero, List.set_cons_succ]
        refine wpAnyH_ready (rs := [4]) (by kernel_rfl) (by simp) ?_
        refine (AllReadyH.cons (o := { dst := none, op := Go.Op.store 36 (Go.Operand.tmp 4) (Go.Operand.tmp 22), type := 0, pos := "bind.go:39", after := #[{ on := 0, ground := Go.Ground.data }, { on := 3, ground := Go.Ground.chain }, { on := 0, ground := Go.Ground.phase }, { on := 1, ground := Go.Ground.textOnly Go.Departure.lateStores }, { on := 2, ground := Go.Ground.textOnly Go.Departure.lateStores }, { on := 3, ground := Go.Ground.textOnly Go.Departure.lateStoresUnsure }], guard := none }) rfl (fun K hK => ?_) AllReadyH.nil)
        refine step_store_row rfl 36 _ _ rfl (w.heap.size + 1 + 1) (sA 3 name table col (.slice o1 cols.length c1) (.slice o2 rows.length c2) (.slice o3 sets.length c3) (.slice o4 frm.length c4) (.slice o5 out.length c5) op xk xn xs s nmv n8 (.slice o6 k6 c6) (.slice o7 order.length c7) down n) ?_ ?_ 36 sZero ?_ ?_ ?_ ?_ ?_; exact rfl; exact rfl; exact S1.room; exact size_stm; exact rfl; exact h1
        refine hK.out _ _ ?_ (fun hHeld => ?_)
        · exact ⟨block_row_other cat1 (by omega) _, block_row_other S1.stm (by omega) _⟩
        clear hK K
        try simp only [Act.put]
        refine wpAnyH_take (i := 5) (oi := { dst := some 5, op := Go.Op.assign (Go.Operand.tmp 25), type := 38, pos := "bind.go:39", after := #[{ on := 3, ground := Go.Ground.data }, { on := 4, ground := Go.Ground.chain }, { on := 0, ground := Go.Ground.phase }, { on := 1, ground := Go.Ground.phase }, { on := 2, ground := Go.Ground.phase }, { on := 3, ground := Go.Ground.phase }, { on := 4, ground := Go.Ground.phase }], guard := none }) (v := ?_) rfl (by kernel_rfl) (by kernel_rfl) (by kernel_rfl) (fun _ _ _ h => h) (Or.inl ⟨by rfl, ?_⟩) (by assumption) ?_
        rotate_left
        · intro w hSw; (try dsimp only at hSw); go_simp; all_goals (with_reducible rfl)
        try simp only [Act.put, List.setIfInBounds_toArray, List.set_cons_zero, List.set_cons_succ]
        refine wpAnyH_done (by kernel_rfl) ?_ _
        go_wp2_with fail
        refine bodyPost_ret (results_two Tryz.results15 _ _ (w.heap.size + 1 + 1) 36 (sA 3 name table col (.slice o1 cols.length c1) (.slice o2 rows.length c2) (.slice o3 sets.length c3) (.slice o4 frm.length c4) (.slice o5 out.length c5) op xk xn xs s nmv n8 (.slice o6 k6 c6) (.slice o7 order.length c7) down n) _ _ _ rfl rfl (block_row S1.room) Tryz.underlying36 rfl size_stm) rfl ⟨⟨_, rfl, ?_⟩, Below.row S1.bel (by omega) _⟩
        refine ⟨_, rfl, h1, ?_⟩
        rw [HE.out]
        unfold errR
        by_cases h0 : m = 0
        · subst h0
          rw [if_pos rfl]
          exact ⟨rfl, hst _ (Below.row S1.bel (by omega) _)⟩
        · rw [if_neg h0]
          rfl
      · by_cases e4 : kind = 4 ∨ kind = 5 ∨ kind = 6
        · have HE : Hid (kindR ct ⟨kind, name, table, col, cols, rows, sets, frm, out, wher, order, down, n⟩ = changeR ct ⟨kind, name, table, col, cols, rows, sets, frm, out, wher, order, down, n⟩) := by
            show _ = _
            simp only [kindR]
            rw [if_neg e1, if_neg e2, if_neg e3, if_pos e4]
          have HB := bindChange_any ct (.agg #[tv, iv]) ⟨kind, name, table, col, cols, rows, sets, frm, out, wher, order, down, n⟩ _ C (((w.alloc (.cells #[tv, iv] 25)).alloc (.cells (sA kind name table col (.slice o1 cols.length c1) (.slice o2 rows.length c2) (.slice o3 sets.length c3) (.slice o4 frm.length c4) (.slice o5 out.length c5) op xk xn xs s nmv n8 (.slice o6 k6 c6) (.slice o7 order.length c7) down n) 36)).alloc (.cells sZero 36)) hcW hRW hCW g1 g2 g5 f4 f5 f6 f7 hcl
          have HB2 := HB.mono (R' := fun r w' => ∃ (arr : Array Value) (z : Int), r = .returned (.tuple #[.agg arr, .int .i64 z]) ∧ arr.size = 20 ∧ arr.all (·.oneCell') = true ∧ (match changeR ct ⟨kind, name, table, col, cols, rows, sets, frm, out, wher, order, down, n⟩ with | .error m => z = m | .ok st => z = 0 ∧ kStm.R (Fx C (w.heap.size + 3)) w' st arr.toList) ∧ Below (((w.alloc (.cells #[tv, iv] 25)).alloc (.cells (sA kind name table col (.slice o1 cols.length c1) (.slice o2 rows.length c2) (.slice o3 sets.length c3) (.slice o4 frm.length c4) (.slice o5 out.length c5) op xk xn xs s nmv n8 (.slice o6 k6 c6) (.slice o7 order.length c7) down n) 36)).alloc (.cells sZero 36)).heap.size (((w.alloc (.cells #[tv, iv] 25)).alloc (.cells (sA kind name table col (.slice o1 cols.length c1) (.slice o2 rows.length c2) (.slice o3 sets.length c3) (.slice o4 frm.length c4) (.slice o5 out.length c5) op xk xn xs s nmv n8 (.slice o6 k6 c6) (.slice o7 order.length c7) down n) 36)).alloc (.cells sZero 36)) w') (by
            rintro r w' ⟨⟨v, rfl, arr, ha1, ha2, hv⟩, hb'⟩
            cases hr : changeR ct ⟨kind, name, table, col, cols, rows, sets, frm, out, wher, order, down, n⟩ with
            | error m =>
              rw [hr] at hv
              obtain rfl := hv
              exact ⟨arr, m, rfl, ha1, ha2, rfl, hb'⟩
            | ok e2 =>
              rw [hr] at hv
              obtain ⟨rfl, hE'⟩ := hv
              exact ⟨arr, 0, rfl, ha1, ha2, ⟨rfl, kStm.mono (fun k _ hk => hk.imp id (fun h => Nat.le_trans (by simp) h)) hE'⟩, hb'⟩)
          generalize changeR ct ⟨kind, name, table, col, cols, rows, sets, frm, out, wher, order, down, n⟩ = RR at HB2 HE
          clear HB hcW hRW htl hil i1 i2 i3 i4 i5 i6 i7 hst hR
          clear e1 e2 e3
          rcases e4 with rfl | rfl | rfl
          all_goals
            go_enter Tryz.func15, Tryz.ntmps15
            go_wp2_with (first | (go_at_call 49; refine HB2.mono ?_; rintro r w1 ⟨arr, z, rfl, ha1, ha2, hv, hb1⟩; have S1 := S0.below hb1; have hi1 : (Tryz.prog.info? 36).map (·.size) = some arr.size := by rw [ha1]; exact size_stm) | (refine wpList_load_row rfl 36 _ rfl (w.heap.size + 1) ?_ 36 _ (0, 0) _ S0.stm Tryz.underlying36 ?_ ?_ ?_; exact rfl; exact rfl; exact size_stm) | (refine wpList_store_row rfl 36 _ _ rfl (w.heap.size + 1 + 1) arr ?_ ?_ 36 sZero ?_ ?_ ?_ ?_ ?_; exact rfl; exact rfl; exact S1.room; exact hi1; exact ha1.symm; exact ha2))
            refine bodyPost_ret (results_two Tryz.results15 _ _ (w.heap.size + 1 + 1) 36 arr _ _ _ rfl rfl (block_row S1.room) Tryz.underlying36 rfl hi1) rfl ⟨⟨_, rfl, ?_⟩, Below.row S1.bel (by omega) _⟩
            refine ⟨_, ha1, ha2, ?_⟩
            rw [HE.out]
            cases RR with
            | error m =>
              obtain rfl := hv
              rfl
            | ok st2 =>
              obtain ⟨rfl, hE6⟩ := hv
              have hF2 : ¬ Fx C (w.heap.size + 3) (w.heap.size + 1 + 1) := by intro h; rcases h with h | h <;> omega
              exact ⟨rfl, kStm.mono (fun k _ h => h.imp id (fun h => Nat.le_trans (by omega) h)) (kStm.keep ((Keeps.refl _ _).row hF2 _) hE6)⟩
        · by_cases e7 : kind = 7
          · subst e7
            have HE : Hid (kindR ct ⟨7, name, table, col, cols, rows, sets, frm, out, wher, order, down, n⟩ = selectR ct ⟨7, name, table, col, cols, rows, sets, frm, out, wher, order, down, n⟩) := rfl
            have HB := bindSelect_any ct (.agg #[tv, iv]) ⟨7, name, table, col, cols, rows, sets, frm, out, wher, order, down, n⟩ _ C (((w.alloc (.cells #[tv, iv] 25)).alloc (.cells (sA 7 name table col (.slice o1 cols.length c1) (.slice o2 rows.length c2) (.slice o3 sets.length c3) (.slice o4 frm.length c4) (.slice o5 out.length c5) op xk xn xs s nmv n8 (.slice o6 k6 c6) (.slice o7 order.length c7) down n) 36)).alloc (.cells sZero 36)) hcW hRW hCW g3 g4 g5 f8 f9 f10 hcl
            have HB2 := HB.mono (R' := fun r w' => ∃ (arr : Array Value) (z : Int), r = .returned (.tuple #[.agg arr, .int .i64 z]) ∧ arr.size = 20 ∧ arr.all (·.oneCell') = true ∧ (match selectR ct ⟨7, name, table, col, cols, rows, sets, frm, out, wher, order, down, n⟩ with | .error m => z = m | .ok st => z = 0 ∧ kStm.R (Fx C (w.heap.size + 3)) w' st arr.toList) ∧ Below (((w.alloc (.cells #[tv, iv] 25)).alloc (.cells (sA 7 name table col (.slice o1 cols.length c1) (.slice o2 rows.length c2) (.slice o3 sets.length c3) (.slice o4 frm.length c4) (.slice o5 out.length c5) op xk xn xs s nmv n8 (.slice o6 k6 c6) (.slice o7 order.length c7) down n) 36)).alloc (.cells sZero 36)).heap.size (((w.alloc (.cells #[tv, iv] 25)).alloc (.cells (sA 7 name table col (.slice o1 cols.length c1) (.slice o2 rows.length c2) (.slice o3 sets.length c3) (.slice o4 frm.length c4) (.slice o5 out.length c5) op xk xn xs s nmv n8 (.slice o6 k6 c6) (.slice o7 order.length c7) down n) 36)).alloc (.cells sZero 36)) w') (by
              rintro r w' ⟨⟨v, rfl, arr, ha1, ha2, hv⟩, hb'⟩
              cases hr : selectR ct ⟨7, name, table, col, cols, rows, sets, frm, out, wher, order, down, n⟩ with
              | error m =>
                rw [hr] at hv
                obtain rfl := hv
                exact ⟨arr, m, rfl, ha1, ha2, rfl, hb'⟩
              | ok e2 =>
                rw [hr] at hv
                obtain ⟨rfl, hE'⟩ := hv
                exact ⟨arr, 0, rfl, ha1, ha2, ⟨rfl, kStm.mono (fun k _ hk => hk.imp id (fun h => Nat.le_trans (by simp) h)) hE'⟩, hb'⟩)
            generalize selectR ct ⟨7, name, table, col, cols, rows, sets, frm, out, wher, order, down, n⟩ = RR at HB2 HE
            clear HB hcW hRW htl hil i1 i2 i3 i4 i5 i6 i7 hst hR
            go_enter Tryz.func15, Tryz.ntmps15
            go_wp2_with (first | (go_at_call 50; refine HB2.mono ?_; rintro r w1 ⟨arr, z, rfl, ha1, ha2, hv, hb1⟩; have S1 := S0.below hb1; have hi1 : (Tryz.prog.info? 36).map (·.size) = some arr.size := by rw [ha1]; exact size_stm) | (refine wpList_load_row rfl 36 _ rfl (w.heap.size + 1) ?_ 36 _ (0, 0) _ S0.stm Tryz.underlying36 ?_ ?_ ?_; exact rfl; exact rfl; exact size_stm) | (refine wpList_store_row rfl 36 _ _ rfl (w.heap.size + 1 + 1) arr ?_ ?_ 36 sZero ?_ ?_ ?_ ?_ ?_; exact rfl; exact rfl; exact S1.room; exact hi1; exact ha1.symm; exact ha2))
            refine bodyPost_ret (results_two Tryz.results15 _ _ (w.heap.size + 1 + 1) 36 arr _ _ _ rfl rfl (block_row S1.room) Tryz.underlying36 rfl hi1) rfl ⟨⟨_, rfl, ?_⟩, Below.row S1.bel (by omega) _⟩
            refine ⟨_, ha1, ha2, ?_⟩
            rw [HE.out]
            cases RR with
            | error m =>
              obtain rfl := hv
              rfl
            | ok st2 =>
              obtain ⟨rfl, hE6⟩ := hv
              have hF2 : ¬ Fx C (w.heap.size + 3) (w.heap.size + 1 + 1) := by intro h; rcases h with h | h <;> omega
              exact ⟨rfl, kStm.mono (fun k _ h => h.imp id (fun h => Nat.le_trans (by omega) h)) (kStm.keep ((Keeps.refl _ _).row hF2 _) hE6)⟩
          · have HE : Hid (kindR ct ⟨kind, name, table, col, cols, rows, sets, frm, out, wher, order, down, n⟩ = .error 1) := by
              show _ = _
              simp only [kindR]
              rw [if_neg e1, if_neg e2, if_neg e3, if_neg e4, if_neg e7]
            have b1 : (kind == 1) = false := by simpa using e1
            have b2 : (kind == 2) = false := by simpa using e2
            have b3 : (kind == 3) = false := by simpa using e3
            have b4 : (kind == 4) = false := by rw [beq_eq_false_iff_ne]; omega
            have b5 : (kind == 5) = false := by rw [beq_eq_false_iff_ne]; omega
            have b6 : (kind == 6) = false := by rw [beq_eq_false_iff_ne]; omega
            have b7 : (kind == 7) = false := by simpa using e7
            clear hcW hRW htl hil hR i1 i2 i3 i4 i5 i6 i7 hst e1 e2 e3 e4 e7
            go_enter Tryz.func15, Tryz.ntmps15
            go_wp2_with (first | (refine wpList_load_row rfl 36 _ rfl (w.heap.size + 1) ?_ 36 (sA kind name table col (.slice o1 cols.length c1) (.slice o2 rows.length c2) (.slice o3 sets.length c3) (.slice o4 frm.length c4) (.slice o5 out.length c5) op xk xn xs s nmv n8 (.slice o6 k6 c6) (.slice o7 order.length c7) down n) (0, 0) _ ?_ Tryz.underlying36 ?_ ?_ ?_; exact rfl; exact S0.stm; exact rfl; exact size_stm) | (refine wpList_store_row rfl 36 _ _ rfl (w.heap.size + 1 + 1) (sA kind name table col (.slice o1 cols.length c1) (.slice o2 rows.length c2) (.slice o3 sets.length c3) (.slice o4 frm.length c4) (.slice o5 out.length c5) op xk xn xs s nmv n8 (.slice o6 k6 c6) (.slice o7 order.length c7) down n) ?_ ?_ 36 sZero ?_ ?_ ?_ ?_ ?_; exact rfl; exact rfl; exact S0.room; exact size_stm; exact rfl; exact h1))
            refine bodyPost_ret (results_two Tryz.results15 _ _ (w.heap.size + 1 + 1) 36 (sA kind name table col (.slice o1 cols.length c1) (.slice o2 rows.length c2) (.slice o3 sets.length c3) (.slice o4 frm.length c4) (.slice o5 out.length c5) op xk xn xs s nmv n8 (.slice o6 k6 c6) (.slice o7 order.length c7) down n) _ _ _ rfl rfl (block_row S0.room) Tryz.underlying36 rfl size_stm) rfl ⟨⟨_, rfl, ?_⟩, Below.row S0.bel (by omega) _⟩
            refine ⟨_, rfl, h1, ?_⟩
            rw [HE.out]
            rfl

end Go.Proofs.YthehiijgnepcfaaGreat

