/-
  1 texts of this proof in one, in build order: YBindRow.
-/
import Derived.Deep.RegionHeld3
import Derived.Test.YthehiijgnepcfaaGreatJ21
namespace Go.Proofs.YthehiijgnepcfaaGreat
open Go.RowKit Go.Maps

/-- One by one, up to the first error. -/
def mapR {α β : Type} (f : α → Except Int β) : List α → Except Int (List β)
  | [] => .ok []
  | a :: l => match f a with
    | .error m => .error m
    | .ok b => match mapR f l with
      | .error m => .error m
      | .ok bs => .ok (b :: bs)
theorem mapR_snoc {α β : Type} (f : α → Except Int β) : ∀ (l : List α) (a : α), mapR f (l ++ [a]) = match mapR f l with
    | .error m => .error m
    | .ok bs => match f a with
      | .error m => .error m
      | .ok b => .ok (bs ++ [b])
  | [], a => by
    simp only [List.nil_append, mapR]
  | x :: l, a => by
    simp only [List.cons_append, mapR, mapR_snoc f l a]
    cases f x with
    | error m => rfl
    | ok r =>
      cases mapR f l with
      | error m => rfl
      | ok rs => cases f a <;> rfl
theorem mapR_append {α β : Type} (f : α → Except Int β) : ∀ (l m : List α) (k : Int), mapR f l = .error k → mapR f (l ++ m) = .error k
  | [], m, k, h => by simp [mapR] at h
  | x :: l, m, k, h => by
    simp only [List.cons_append, mapR] at h ⊢
    cases hx : f x with
    | error j => rw [hx] at h; exact h
    | ok r =>
      rw [hx] at h
      simp only at h ⊢
      cases hl : mapR f l with
      | error j =>
        rw [hl] at h
        rw [mapR_append f l m j hl]
        exact h
      | ok rs => rw [hl] at h; cases h
theorem mapR_len {α β : Type} (f : α → Except Int β) : ∀ (l : List α) (rs : List β), mapR f l = .ok rs → rs.length = l.length
  | [], rs, h => by simp [mapR] at h; subst h; rfl
  | x :: l, rs, h => by
    simp only [mapR] at h
    cases hx : f x with
    | error j => rw [hx] at h; cases h
    | ok r =>
      rw [hx] at h
      simp only at h
      cases hl : mapR f l with
      | error j => rw [hl] at h; cases h
      | ok rs' =>
        rw [hl] at h
        simp only [Except.ok.injEq] at h
        subst h
        simp [mapR_len f l rs' hl]
theorem mapR_err {α β : Type} (f : α → Except Int β) (P : Int → Prop) (hf : ∀ a m, f a = .error m → P m) : ∀ (l : List α) (m : Int), mapR f l = .error m → P m
  | [], m, h => by simp [mapR] at h
  | x :: l, m, h => by
    simp only [mapR] at h
    cases hx : f x with
    | error j =>
      rw [hx] at h
      obtain rfl := Except.error.inj h
      exact hf x _ hx
    | ok r =>
      rw [hx] at h
      simp only at h
      cases hl : mapR f l with
      | error j =>
        rw [hl] at h
        obtain rfl := Except.error.inj h
        exact mapR_err f P hf l _ hl
      | ok rs => rw [hl] at h; cases h
/-- A row bound to no table, each of its column's type. -/
def cellR (p : ColD × E) : Except Int E := asR [] p.1.ty p.2
def rowR (cols : List ColD) (row : List E) : Except Int (List E) := if row.length = cols.length then mapR cellR (cols.zip row) else .error 5
theorem rowR_err {cols : List ColD} {row : List E} {m : Int} (h : rowR cols row = .error m) : m = 3 ∨ m = 5 := by
  unfold rowR at h
  split at h
  · exact mapR_err cellR (fun m => m = 3 ∨ m = 5) (fun a m ha => asR_err ha) _ m h
  · exact .inr (Except.error.inj h).symm
def rowsR (cols : List ColD) (rows : List (List E)) : Except Int (List (List E)) := mapR (rowR cols) rows
theorem rowsR_err {cols : List ColD} {rows : List (List E)} {m : Int} (h : rowsR cols rows = .error m) : m = 3 ∨ m = 5 := mapR_err _ (fun m => m = 3 ∨ m = 5) (fun _ _ ha => rowR_err ha) _ m h
theorem zip_next {cols : List ColD} {row : List E} {j : Nat} {c : ColD} {a : E} (hc : cols[j]? = some c) (ha : row[j]? = some a) : (cols.zip row).take (j + 1) = (cols.zip row).take j ++ [(c, a)] := by
  rw [List.take_add_one]
  have : (cols.zip row)[j]? = some (c, a) := by rw [List.getElem?_zip_eq_some]; exact ⟨hc, ha⟩
  rw [this]; rfl

/-- What a round of bindRow leans on. -/
def RowS (w' : World) (g gc o1 ge : Nat) (cv : Value) (ty op xk xn : Int) (xs s name : Wd) (n : Int) (sv : Value) : Prop :=
  w'.cell? ⟨g, 1, none⟩ = some cv ∧ w'.cell? ⟨gc, o1, none⟩ = some (.int .i64 ty) ∧ Cells8 w' ge op xk xn xs s name n sv
theorem RowS.below {w w' : World} {B g gc o1 ge : Nat} {cv : Value} {ty op xk xn : Int} {xs s name : Wd} {n : Int} {sv : Value} (h : RowS w g gc o1 ge cv ty op xk xn xs s name n sv) (hb : Below B w w') (h1 : g < B) (h2 : gc < B) (h3 : ge < B) : RowS w' g gc o1 ge cv ty op xk xn xs s name n sv := by
  obtain ⟨a, b, c0, c1, c2, c3, c4, c5, c6, c7⟩ := h
  exact ⟨(hb.cell (p := ⟨g, 1, none⟩) h1).trans a, (hb.cell (p := ⟨gc, o1, none⟩) h2).trans b, (hb.cell (p := ⟨ge, 0, none⟩) h3).trans c0, (hb.cell (p := ⟨ge, 1, none⟩) h3).trans c1, (hb.cell (p := ⟨ge, 2, none⟩) h3).trans c2, (hb.cell (p := ⟨ge, 3, none⟩) h3).trans c3, (hb.cell (p := ⟨ge, 4, none⟩) h3).trans c4, (hb.cell (p := ⟨ge, 5, none⟩) h3).trans c5, (hb.cell (p := ⟨ge, 6, none⟩) h3).trans c6, (hb.cell (p := ⟨ge, 7, none⟩) h3).trans c7⟩
theorem RowS.cells {w : World} {g gc o1 ge : Nat} {cv : Value} {ty op xk xn : Int} {xs s name : Wd} {n : Int} {sv : Value} (h : RowS w g gc o1 ge cv ty op xk xn xs s name n sv) {b : Nat} (h1 : g ≠ b) (h2 : gc ≠ b) (h3 : ge ≠ b) (o : Nat) (vs : List Value) : RowS (w.setCells b o vs) g gc o1 ge cv ty op xk xn xs s name n sv := by
  have e : ∀ (k p : Nat), k ≠ b → (w.setCells b o vs).cell? ⟨k, p, none⟩ = w.cell? ⟨k, p, none⟩ := fun k p hk => by unfold World.cell?; simp only [setCells_block hk vs o w]
  obtain ⟨a, b, c0, c1, c2, c3, c4, c5, c6, c7⟩ := h
  exact ⟨(e _ _ h1).trans a, (e _ _ h2).trans b, (e _ _ h3).trans c0, (e _ _ h3).trans c1, (e _ _ h3).trans c2, (e _ _ h3).trans c3, (e _ _ h3).trans c4, (e _ _ h3).trans c5, (e _ _ h3).trans c6, (e _ _ h3).trans c7⟩

set_option maxRecDepth 100000 in
set_option maxHeartbeats 4000000 in
theorem bindRow_any (tn : Wd) (cols : List ColD) (cv : Value) (d : Nat) (l : List E) (lv : Value) (C : Nat) (w : World) (he : IsL kExpr (fun k => k < C) w lv l) (hl : IsL kCol (fun k => k < C) w cv cols) (hC : C ≤ w.heap.size) (hg : ∀ a ∈ l, geB d a = true) (hn : l.length ≤ 1000000000) :
    Calls Tryz.prog 132 #[.agg #[.string tn, cv], lv] w fun r w' => (∃ u, r = .returned u ∧ ListAns kExpr (rowR cols l) (Fr w.heap.size) w' u) ∧ Below w.heap.size w w' := by
  obtain ⟨so, sc, rfl⟩ := hl.shape
  obtain ⟨ao, c, rfl⟩ := he.shape
  have hb1 := bel1 w (.cells #[.string tn, .slice so cols.length sc] 43)
  by_cases hlen : l.length = cols.length
  · have HR : Hid (rowR cols l = mapR cellR (cols.zip l)) := if_pos hlen
    have hI : (l.length : Int) = (cols.length : Int) := by omega
    obtain ⟨arr1, ha1, hmk1⟩ := make_exprs (w.alloc (.cells #[.string tn, .slice so cols.length sc] 43)) cols.length (by omega)
    have hst : Made kExpr (Fr (w.heap.size + 2)) ((w.alloc (.cells #[.string tn, .slice so cols.length sc] 43)).alloc (.cells arr1 34)) (w.heap.size + 1) cols.length [] := by
      have := made_new kExpr (Fr (w.heap.size + 2)) (w := w.alloc (.cells #[.string tn, .slice so cols.length sc] 43)) (t := 34) (n := cols.length) ha1
      rwa [show (w.alloc (.cells #[.string tn, .slice so cols.length sc] 43)).heap.size = w.heap.size + 1 by simp] at this
    have hT0 : ((w.alloc (.cells #[.string tn, .slice so cols.length sc] 43)).alloc (.cells arr1 34)).heap[w.heap.size]? = some (.cells #[.string tn, .slice so cols.length sc] 43) := block_alloc_of (block_alloc_at _ _) _
    have hbW := bel2 w (.cells #[.string tn, .slice so cols.length sc] 43) (.cells arr1 34)
    rw [hlen]
    go_enter Tryz.func132, Tryz.ntmps132
    go_wp2_with fail
    clear hmk1
    go_loopw [21] (fun i wr => ∃ (j : Nat) (rs : List E), j ≤ cols.length ∧ i = .int .i64 j ∧ Hid (mapR cellR ((cols.zip l).take j) = .ok rs) ∧ Hid (rs.length = j) ∧ wr.heap[w.heap.size]? = some (.cells #[.string tn, .slice so cols.length sc] 43) ∧ Made kExpr (Fr (w.heap.size + 2)) wr (w.heap.size + 1) cols.length rs ∧ Below w.heap.size w wr ∧ w.heap.size + 2 ≤ wr.heap.size) (fun i _ => cols.length - (intOf i).toNat)
    case atStart => exact ⟨0, [], Nat.zero_le _, rfl, by show _ = _; rw [List.take_zero, mapR], rfl, hT0, hst, hbW, by simp⟩
    case round =>
      obtain ⟨j, rs, hj, rfl, HQ, HL, hT, hM1, hbel, hsz⟩ := hrel
      clear hst hbW ha1 hT0
      have q2 := HL.out
      by_cases hjl : j < cols.length
      · obtain ⟨a, ha⟩ : ∃ a, l[j]? = some a := ⟨_, List.getElem?_eq_getElem (by omega)⟩
        obtain ⟨cd, hcd⟩ : ∃ a, cols[j]? = some a := ⟨_, List.getElem?_eq_getElem hjl⟩
        have HT : Hid ((cols.zip l).take (j + 1) = (cols.zip l).take j ++ [(cd, a)]) := zip_next hcd ha
        have hga := hg a (List.mem_of_getElem? ha)
        obtain ⟨b, off, cs, rfl, hbC, hb, hR, hcell⟩ := isL_get (he.keep (keepsC (hbel.mono hC))) ha
        obtain ⟨op', xk', xn', xs', s', name', n', ao', k', c', rfl⟩ := shape_Expr hR
        obtain ⟨cb, cof, ccs, rfl, hcbC, hcb, hcR, hccell⟩ := isL_get (hl.keep (keepsC (hbel.mono hC))) hcd
        obtain rfl := hcR
        have c1 := hccell 1 _ rfl
        have d0 := hcell 0 _ rfl
        have d1 := hcell 1 _ rfl
        have d2 := hcell 2 _ rfl
        have d3 := hcell 3 _ rfl
        have d4 := hcell 4 _ rfl
        have d5 := hcell 5 _ rfl
        have d6 := hcell 6 _ rfl
        have d7 := hcell 7 _ rfl
        simp only [kExpr, kCol, Nat.add_zero] at c1 d0 d1 d2 d3 d4 d5 d6 d7
        have j0 : (0 : Int) ≤ (j : Int) := by omega
        have j1 : (j : Int) < (cols.length : Int) := by omega
        have hbx := bel1 wr (.cells (eArr op' ⟨xk', xn', xs'⟩ s' name' n' (.slice ao' k' c')) 34)
        have HI : ∀ (W : World) (ae : Option Addr) (ce : Nat), (ae = none → ce = 0) → Below wr.heap.size wr W → Calls Tryz.prog 134 #[.slice ae 0 ce, .int .i64 cd.ty, .agg (eArr op' ⟨xk', xn', xs'⟩ s' name' n' (.slice ao' k' c'))] W fun r w' => (∃ u, r = .returned u ∧ AsAns (asR [] cd.ty a) (Fr (w.heap.size + 2)) w' u) ∧ Below W.heap.size W w' := fun W ae ce hae hW => (bindAs_any [] (by decide) (fun _ h => by cases h) d cd.ty a _ (.slice ae 0 ce) C W (IsE.keep (keepsC (hW.mono (Nat.le_trans hC hbel.size))) _ _ hR.2) ⟨[], ⟨rfl, .inl ⟨rfl, ae, ce, rfl, hae⟩⟩, rfl⟩ (Nat.le_trans (Nat.le_trans hC hbel.size) hW.size) hga).mono (fun r w' ⟨⟨u, hu, ha⟩, hb'⟩ => ⟨⟨u, hu, by
          revert ha
          cases asR [] cd.ty a with
          | error m => exact id
          | ok e2 =>
            rintro ⟨o1, o2, o3, o4, o5, o6, o7, o8, hq, hE⟩
            exact ⟨o1, o2, o3, o4, o5, o6, o7, o8, hq, IsE.mono (fun k _ hk => Nat.le_trans (Nat.le_trans hsz hW.size) hk) _ _ hE⟩⟩, hb'⟩)
        have t1 := cell_of_block hT (j := 1) rfl
        have hlt0 := lt_of_block hT
        have S0 : RowS (wr.alloc (.cells (eArr op' ⟨xk', xn', xs'⟩ s' name' n' (.slice ao' k' c')) 34)).drew w.heap.size cb (cof + j * 3 + 1) wr.heap.size (.slice (some ⟨cb, cof, none⟩) cols.length sc) cd.ty op' xk' xn' xs' s' name' n' (.slice ao' k' c') := ⟨(hbx.cell (p := ⟨w.heap.size, 1, none⟩) hlt0).trans t1, (hbx.cell (p := ⟨cb, cof + j * 3 + 1, none⟩) hcb).trans c1, cells8_of (block_alloc_at _ _)⟩
        have S1 : RowS ((wr.alloc (.cells (eArr op' ⟨xk', xn', xs'⟩ s' name' n' (.slice ao' k' c')) 34)).alloc (.cells #[] 43)).drew w.heap.size cb (cof + j * 3 + 1) wr.heap.size (.slice (some ⟨cb, cof, none⟩) cols.length sc) cd.ty op' xk' xn' xs' s' name' n' (.slice ao' k' c') := RowS.below (w := wr.alloc (.cells (eArr op' ⟨xk', xn', xs'⟩ s' name' n' (.slice ao' k' c')) 34)) S0 (bel1 (wr.alloc (.cells (eArr op' ⟨xk', xn', xs'⟩ s' name' n' (.slice ao' k' c')) 34)) (.cells #[] 43)).drew (Nat.lt_of_lt_of_le hlt0 hbx.size) (Nat.lt_of_lt_of_le hcb hbx.size) (by simp)
        have hbx2 : Below wr.heap.size wr ((wr.alloc (.cells (eArr op' ⟨xk', xn', xs'⟩ s' name' n' (.slice ao' k' c')) 34)).alloc (.cells #[] 43)).drew := (bel2 wr _ _).drew
        have HI1 := HI _ (some ⟨wr.heap.size + 1, 0, none⟩) 0 (fun h => by cases h) hbx2
        have hcw : cb < w.heap.size := Nat.lt_of_lt_of_le hcbC hC
        clear hcell hccell hR ha hcd HI hg he hl hbx
        rcases har : asR [] cd.ty a with m | e2
        · have hm := asR_err har
          have HI2 := HI1.mono (R' := fun r w' => ∃ (op : Int) (x : V) (s name : Wd) (n : Int) (ao : Option Addr) (k c : Nat), r = .returned (.tuple #[.agg (eArr op x s name n (.slice ao k c)), .int .i64 m]) ∧ IsE (Fr (w.heap.size + 1 + 1)) w' (.mk 0 zero noW noW 0 []) (.agg (eArr op x s name n (.slice ao k c))) ∧ Below ((wr.alloc (.cells (eArr op' ⟨xk', xn', xs'⟩ s' name' n' (.slice ao' k' c')) 34)).alloc (.cells #[] 43)).drew.heap.size ((wr.alloc (.cells (eArr op' ⟨xk', xn', xs'⟩ s' name' n' (.slice ao' k' c')) 34)).alloc (.cells #[] 43)).drew w') (by
            rintro e w' ⟨⟨v, rfl, hv⟩, hb'⟩
            rw [har] at hv
            obtain rfl := hv
            exact ⟨0, zero, noW, noW, 0, none, 0, 0, rfl, isE_leaf fun _ => rfl, hb'⟩)
          have HE : Hid (rowR cols l = .error m) := by
            show _ = _
            have hs : mapR cellR ((cols.zip l).take (j + 1)) = .error m := by rw [HT.out, mapR_snoc, HQ.out]; simp only [cellR, har]
            have := mapR_append cellR ((cols.zip l).take (j + 1)) ((cols.zip l).drop (j + 1)) m hs
            rw [List.take_append_drop] at this
            rw [HR.out, this]
          clear HI1 har HQ HL HT HR
          rcases hm with rfl | rfl
          all_goals
            go_wp2_with fail
            refine wp_region_held_drew (S := (fun w' => RowS w' w.heap.size cb (cof + j * 3 + 1) wr.heap.size (.slice (some ⟨cb, cof, none⟩) cols.length sc) cd.ty op' xk' xn' xs' s' name' n' (.slice ao' k' c'))) (by kernel_rfl) ?_ (fun hHeld => ?_)
            · exact S0
            refine wpAnyH_take (i := 0) (oi := { dst := some 27, op := Go.Op.move (Go.Operand.tmp 6), type := 30, pos := "bind.go:119", after := #[], guard := none }) (v := ?_) rfl (by kernel_rfl) (by kernel_rfl) (by kernel_rfl) (fun _ _ _ h => h) (Or.inl ⟨by rfl, ?_⟩) (by assumption) ?_
            rotate_left
            · intro W' hSw; obtain ⟨a0, a1, b0, b1, b2, b3, b4, b5, b6, b7⟩ := hSw; go_simp; all_goals (with_reducible rfl)
            try simp only [Act.put, List.setIfInBounds_toArray, List.set_cons_zero, List.set_cons_succ]
            refine wpAnyH_take (i := 1) (oi := { dst := some 28, op := Go.Op.move (Go.Operand.tmp 7), type := 3, pos := "bind.go:119", after := #[], guard := none }) (v := ?_) rfl (by kernel_rfl) (by kernel_rfl) (by kernel_rfl) (fun _ _ _ h => h) (Or.inl ⟨by rfl, ?_⟩) (by assumption) ?_
            rotate_left
            · intro W' hSw; obtain ⟨a0, a1, b0, b1, b2, b3, b4, b5, b6, b7⟩ := hSw; go_simp; all_goals (with_reducible rfl)
            try simp only [Act.put, List.setIfInBounds_toArray, List.set_cons_zero, List.set_cons_succ]
            refine wpAnyH_take (i := 3) (oi := { dst := some 30, op := Go.Op.fieldAddr 43 (Go.Operand.tmp 2) 1, type := 0, pos := "bind.go:119", after := #[], guard := none }) (v := ?_) rfl (by kernel_rfl) (by kernel_rfl) (by kernel_rfl) (fun _ _ _ h => h) (Or.inl ⟨by rfl, ?_⟩) (by assumption) ?_
            rotate_left
            · intro W' hSw; obtain ⟨a0, a1, b0, b1, b2, b3, b4, b5, b6, b7⟩ := hSw; go_simp; all_goals (with_reducible rfl)
            try simp only [Act.put, List.setIfInBounds_toArray, List.set_cons_zero, List.set_cons_succ]
            refine wpAnyH_take (i := 4) (oi := { dst := some 31, op := Go.Op.load 26 (Go.Operand.tmp 30), type := 26, pos := "bind.go:119", after := #[{ on := 3, ground := Go.Ground.data }], guard := none }) (v := ?_) rfl (by kernel_rfl) (by kernel_rfl) (by kernel_rfl) (fun _ _ _ h => h) (Or.inl ⟨by rfl, ?_⟩) (by assumption) ?_
            rotate_left
            · intro W' hSw; obtain ⟨a0, a1, b0, b1, b2, b3, b4, b5, b6, b7⟩ := hSw; go_simp; all_goals (with_reducible rfl)
            try simp only [Act.put, List.setIfInBounds_toArray, List.set_cons_zero, List.set_cons_succ]
            refine wpAnyH_take (i := 5) (oi := { dst := some 32, op := Go.Op.move (Go.Operand.tmp 7), type := 3, pos := "bind.go:119", after := #[], guard := none }) (v := ?_) rfl (by kernel_rfl) (by kernel_rfl) (by kernel_rfl) (fun _ _ _ h => h) (Or.inl ⟨by rfl, ?_⟩) (by assumption) ?_
            rotate_left
            · intro W' hSw; obtain ⟨a0, a1, b0, b1, b2, b3, b4, b5, b6, b7⟩ := hSw; go_simp; all_goals (with_reducible rfl)
            try simp only [Act.put, List.setIfInBounds_toArray, List.set_cons_zero, List.set_cons_succ]
            refine wpAnyH_take (i := 6) (oi := { dst := some 33, op := Go.Op.indexAddr 26 (Go.Operand.tmp 31) (Go.Operand.tmp 32), type := 0, pos := "bind.go:119", after := #[{ on := 4, ground := Go.Ground.data }, { on := 5, ground := Go.Ground.data }], guard := none }) (v := ?_) rfl (by kernel_rfl) (by kernel_rfl) (by kernel_rfl) (fun _ _ _ h => h) (Or.inl ⟨by rfl, ?_⟩) (by assumption) ?_
            rotate_left
            · intro W' hSw; obtain ⟨a0, a1, b0, b1, b2, b3, b4, b5, b6, b7⟩ := hSw; go_simp; all_goals (with_reducible rfl)
            try simp only [Act.put, List.setIfInBounds_toArray, List.set_cons_zero, List.set_cons_succ]
            refine wpAnyH_take (i := 7) (oi := { dst := some 34, op := Go.Op.fieldAddr 63 (Go.Operand.tmp 33) 1, type := 0, pos := "bind.go:119", after := #[{ on := 6, ground := Go.Ground.data }], guard := none }) (v := ?_) rfl (by kernel_rfl) (by kernel_rfl) (by kernel_rfl) (fun _ _ _ h => h) (Or.inl ⟨by rfl, ?_⟩) (by assumption) ?_
            rotate_left
            · intro W' hSw; obtain ⟨a0, a1, b0, b1, b2, b3, b4, b5, b6, b7⟩ := hSw; go_simp; all_goals (with_reducible rfl)
            try simp only [Act.put, List.setIfInBounds_toArray, List.set_cons_zero, List.set_cons_succ]
            refine wpAnyH_take (i := 8) (oi := { dst := some 35, op := Go.Op.load 3 (Go.Operand.tmp 34), type := 3, pos := "bind.go:119", after := #[{ on := 7, ground := Go.Ground.data }], guard := none }) (v := ?_) rfl (by kernel_rfl) (by kernel_rfl) (by kernel_rfl) (fun _ _ _ h => h) (Or.inl ⟨by rfl, ?_⟩) (by assumption) ?_
            rotate_left
            · intro W' hSw; obtain ⟨a0, a1, b0, b1, b2, b3, b4, b5, b6, b7⟩ := hSw; go_simp; all_goals (with_reducible rfl)
            try simp only [Act.put, List.setIfInBounds_toArray, List.set_cons_zero, List.set_cons_succ]
            refine wpAnyH_take (i := 9) (oi := { dst := some 36, op := Go.Op.load 34 (Go.Operand.tmp 8), type := 34, pos := "bind.go:119", after := #[], guard := none }) (v := ?_) rfl (by kernel_rfl) (by kernel_rfl) (by kernel_rfl) (fun _ _ _ h => h) (Or.inl ⟨by rfl, ?_⟩) (by assumption) ?_
            rotate_left
            · intro W' hSw; obtain ⟨a0, a1, b0, b1, b2, b3, b4, b5, b6, b7⟩ := hSw; go_simp; all_goals (with_reducible rfl)
            try simp only [Act.put, List.setIfInBounds_toArray, List.set_cons_zero, List.set_cons_succ]
            refine wpAnyH_ready (rs := [2]) (by kernel_rfl) (by simp) ?_
            refine (AllReadyH.cons (o := { dst := some 29, op := Go.Op.buildSlice 145 0 #[], type := 145, pos := "bind.go:119", after := #[], guard := none }) rfl (fun K hK => ?_) AllReadyH.nil)
            go_simp
            go_wp2_with fail
            refine hK.out _ _ ?_ (fun hHeld => ?_)
            · exact S1
            clear hK K
            try simp only [Act.put, List.setIfInBounds_toArray, List.set_cons_zero, List.set_cons_succ]
            refine wpAnyH_ready (rs := [10]) (by kernel_rfl) (by simp) ?_
            refine (AllReadyH.cons (o := { dst := some 37, op := Go.Op.call { callee := Go.Callee.value (Go.Operand.func 134), args := #[Go.Operand.tmp 29, Go.Operand.tmp 35, Go.Operand.tmp 36], argTypes := #[145, 3, 34] }, type := 144, pos := "bind.go:119", after := #[{ on := 2, ground := Go.Ground.data }, { on := 8, ground := Go.Ground.data }, { on := 9, ground := Go.Ground.data }], guard := none }) rfl (fun K hK => ?_) AllReadyH.nil)
            go_simp
            (go_at_call 134; refine HI2.mono ?_; rintro r w1 ⟨op2, x2, s2, name2, n2, ao2, k2, c2, rfl, hE2, hb1⟩; obtain ⟨x2k, x2n, x2s⟩ := x2; have hbT := bthen hbx2 hb1; obtain ⟨mt, mm1⟩ := made_one (g := w.heap.size + 1) hM1 hbT hjl q2 hE2; have hone := one_eArr op2 ⟨x2k, x2n, x2s⟩ s2 name2 n2 ao2 k2 c2; have S2 := S1.below hb1 (Nat.lt_of_lt_of_le hlt0 hbx2.size) (Nat.lt_of_lt_of_le hcb hbx2.size) (by simp [World.drew]; omega))
            go_wp2_with fail
            refine hK.out _ _ ?_ (fun hHeld => ?_)
            · exact S2
            clear hK K
            try simp only [Act.put, List.setIfInBounds_toArray, List.set_cons_zero, List.set_cons_succ]
            refine wpAnyH_take (i := 11) (oi := { dst := some 26, op := Go.Op.move (Go.Operand.tmp 37), type := 144, pos := "bind.go:119", after := #[{ on := 10, ground := Go.Ground.data }], guard := none }) (v := ?_) rfl (by kernel_rfl) (by kernel_rfl) (by kernel_rfl) (fun _ _ _ h => h) (Or.inl ⟨by rfl, ?_⟩) (by assumption) ?_
            rotate_left
            · intro W' hSw; obtain ⟨a0, a1, b0, b1, b2, b3, b4, b5, b6, b7⟩ := hSw; go_simp; all_goals (with_reducible rfl)
            try simp only [Act.put, List.setIfInBounds_toArray, List.set_cons_zero, List.set_cons_succ]
            refine wpAnyH_take (i := 12) (oi := { dst := some 38, op := Go.Op.extract (Go.Operand.tmp 26) 0, type := 34, pos := "bind.go:119", after := #[{ on := 11, ground := Go.Ground.data }], guard := none }) (v := ?_) rfl (by kernel_rfl) (by kernel_rfl) (by kernel_rfl) (fun _ _ _ h => h) (Or.inl ⟨by rfl, ?_⟩) (by assumption) ?_
            rotate_left
            · intro W' hSw; obtain ⟨a0, a1, b0, b1, b2, b3, b4, b5, b6, b7⟩ := hSw; go_simp; all_goals (with_reducible rfl)
            try simp only [Act.put, List.setIfInBounds_toArray, List.set_cons_zero, List.set_cons_succ]
            refine wpAnyH_take (i := 13) (oi := { dst := some 39, op := Go.Op.extract (Go.Operand.tmp 26) 1, type := 38, pos := "bind.go:119", after := #[{ on := 11, ground := Go.Ground.data }, { on := 15, ground := Go.Ground.gcOnly Go.Departure.lateStores }], guard := none }) (v := ?_) rfl (by kernel_rfl) (by kernel_rfl) (by kernel_rfl) (fun _ _ _ h => h) (Or.inl ⟨by rfl, ?_⟩) (by assumption) ?_
            rotate_left
            · intro W' hSw; obtain ⟨a0, a1, b0, b1, b2, b3, b4, b5, b6, b7⟩ := hSw; go_simp; all_goals (with_reducible rfl)
            try simp only [Act.put, List.setIfInBounds_toArray, List.set_cons_zero, List.set_cons_succ]
            refine wpAnyH_take (i := 14) (oi := { dst := some 40, op := Go.Op.indexAddr 30 (Go.Operand.tmp 27) (Go.Operand.tmp 28), type := 0, pos := "bind.go:119", after := #[{ on := 0, ground := Go.Ground.data }, { on := 1, ground := Go.Ground.data }, { on := 0, ground := Go.Ground.phase }, { on := 1, ground := Go.Ground.phase }, { on := 2, ground := Go.Ground.phase }, { on := 3, ground := Go.Ground.phase }, { on := 4, ground := Go.Ground.phase }, { on := 5, ground := Go.Ground.phase }, { on := 6, ground := Go.Ground.phase }, { on := 7, ground := Go.Ground.phase }, { on := 8, ground := Go.Ground.phase }, { on := 9, ground := Go.Ground.phase }, { on := 10, ground := Go.Ground.phase }, { on := 11, ground := Go.Ground.phase }, { on := 12, ground := Go.Ground.phase }, { on := 13, ground := Go.Ground.textOnly Go.Departure.lateStores }], guard := none }) (v := ?_) rfl (by kernel_rfl) (by kernel_rfl) (by kernel_rfl) (fun _ _ _ h => h) (Or.inl ⟨by rfl, ?_⟩) (by assumption) ?_
            rotate_left
            · intro W' hSw; obtain ⟨a0, a1, b0, b1, b2, b3, b4, b5, b6, b7⟩ := hSw; go_simp; all_goals (with_reducible rfl)
            try simp only [Act.put, List.setIfInBounds_toArray, List.set_cons_zero, List.set_cons_succ]
            refine wpAnyH_ready (rs := [15]) (by kernel_rfl) (by simp) ?_
            refine (AllReadyH.cons (o := { dst := none, op := Go.Op.store 34 (Go.Operand.tmp 40) (Go.Operand.tmp 38), type := 0, pos := "bind.go:119", after := #[{ on := 14, ground := Go.Ground.data }, { on := 12, ground := Go.Ground.data }, { on := 10, ground := Go.Ground.chain }, { on := 0, ground := Go.Ground.phase }, { on := 1, ground := Go.Ground.phase }, { on := 2, ground := Go.Ground.phase }, { on := 3, ground := Go.Ground.phase }, { on := 4, ground := Go.Ground.phase }, { on := 5, ground := Go.Ground.phase }, { on := 6, ground := Go.Ground.phase }, { on := 7, ground := Go.Ground.phase }, { on := 8, ground := Go.Ground.phase }, { on := 9, ground := Go.Ground.phase }, { on := 10, ground := Go.Ground.phase }, { on := 11, ground := Go.Ground.phase }, { on := 12, ground := Go.Ground.phase }, { on := 13, ground := Go.Ground.textOnly Go.Departure.lateStores }], guard := none }) rfl (fun K hK => ?_) AllReadyH.nil)
            refine step_store_mid rfl 34 _ _ rfl (w.heap.size + 1) (j * 8) (eArr op2 ⟨x2k, x2n, x2s⟩ s2 name2 n2 (.slice ao2 k2 c2)) ?_ ?_ ?_ ?_ ?_ ?_; exact rfl; exact rfl; exact mt; exact size_expr; exact hone
            refine hK.out _ _ ?_ (fun hHeld => ?_)
            · exact S2.cells (by omega) (by omega) (by omega) _ _
            clear hK K
            try simp only [Act.put]
            refine wpAnyH_take (i := 16) (oi := { dst := some 9, op := Go.Op.assign (Go.Operand.tmp 39), type := 38, pos := "bind.go:119", after := #[{ on := 13, ground := Go.Ground.data }, { on := 15, ground := Go.Ground.chain }, { on := 0, ground := Go.Ground.phase }, { on := 1, ground := Go.Ground.phase }, { on := 2, ground := Go.Ground.phase }, { on := 3, ground := Go.Ground.phase }, { on := 4, ground := Go.Ground.phase }, { on := 5, ground := Go.Ground.phase }, { on := 6, ground := Go.Ground.phase }, { on := 7, ground := Go.Ground.phase }, { on := 8, ground := Go.Ground.phase }, { on := 9, ground := Go.Ground.phase }, { on := 10, ground := Go.Ground.phase }, { on := 11, ground := Go.Ground.phase }, { on := 12, ground := Go.Ground.phase }, { on := 13, ground := Go.Ground.phase }, { on := 14, ground := Go.Ground.phase }, { on := 15, ground := Go.Ground.phase }], guard := none }) (v := ?_) rfl (by kernel_rfl) (by kernel_rfl) (by kernel_rfl) (fun _ _ _ h => h) (Or.inl ⟨by rfl, ?_⟩) (by assumption) ?_
            rotate_left
            · intro W' hSw; obtain ⟨a0, a1, b0, b1, b2, b3, b4, b5, b6, b7⟩ := hSw; go_simp; all_goals (with_reducible rfl)
            try simp only [Act.put, List.setIfInBounds_toArray, List.set_cons_zero, List.set_cons_succ]
            refine wpAnyH_done (by kernel_rfl) ?_ _
            go_wp2_with fail
            go_ret2
            refine ⟨⟨_, rfl, ?_⟩, below_setCells (show w.heap.size ≤ w.heap.size + 1 by omega) _ _ _ (hbel.trans (hbT.mono hbel.size))⟩
            rw [HE.out]
            rfl
        · have HI2 := HI1.mono (R' := fun r w' => ∃ (op : Int) (x : V) (s name : Wd) (n : Int) (ao : Option Addr) (k c : Nat), r = .returned (.tuple #[.agg (eArr op x s name n (.slice ao k c)), .int .i64 0]) ∧ IsE (Fr (w.heap.size + 1 + 1)) w' e2 (.agg (eArr op x s name n (.slice ao k c))) ∧ Below ((wr.alloc (.cells (eArr op' ⟨xk', xn', xs'⟩ s' name' n' (.slice ao' k' c')) 34)).alloc (.cells #[] 43)).drew.heap.size ((wr.alloc (.cells (eArr op' ⟨xk', xn', xs'⟩ s' name' n' (.slice ao' k' c')) 34)).alloc (.cells #[] 43)).drew w') (by
            rintro e w' ⟨⟨v, rfl, hv⟩, hb'⟩
            rw [har] at hv
            obtain ⟨op, x, s, name, n, ao, k, c, rfl, hE'⟩ := hv
            exact ⟨op, x, s, name, n, ao, k, c, rfl, hE', hb'⟩)
          have HS : Hid (mapR cellR ((cols.zip l).take (j + 1)) = .ok (rs ++ [e2])) := by show _ = _; rw [HT.out, mapR_snoc, HQ.out]; simp only [cellR, har]
          have HL2 : Hid ((rs ++ [e2]).length = j + 1) := by show _ = _; rw [List.length_append, q2]; rfl
          clear HI1 har HQ HL HT HR
          go_wp2_with fail
          refine wp_region_held_drew (S := (fun w' => RowS w' w.heap.size cb (cof + j * 3 + 1) wr.heap.size (.slice (some ⟨cb, cof, none⟩) cols.length sc) cd.ty op' xk' xn' xs' s' name' n' (.slice ao' k' c'))) (by kernel_rfl) ?_ (fun hHeld => ?_)
          · exact S0
          refine wpAnyH_take (i := 0) (oi := { dst := some 27, op := Go.Op.move (Go.Operand.tmp 6), type := 30, pos := "bind.go:119", after := #[], guard := none }) (v := ?_) rfl (by kernel_rfl) (by kernel_rfl) (by kernel_rfl) (fun _ _ _ h => h) (Or.inl ⟨by rfl, ?_⟩) (by assumption) ?_
          rotate_left
          · intro W' hSw; obtain ⟨a0, a1, b0, b1, b2, b3, b4, b5, b6, b7⟩ := hSw; go_simp; all_goals (with_reducible rfl)
          try simp only [Act.put, List.setIfInBounds_toArray, List.set_cons_zero, List.set_cons_succ]
          refine wpAnyH_take (i := 1) (oi := { dst := some 28, op := Go.Op.move (Go.Operand.tmp 7), type := 3, pos := "bind.go:119", after := #[], guard := none }) (v := ?_) rfl (by kernel_rfl) (by kernel_rfl) (by kernel_rfl) (fun _ _ _ h => h) (Or.inl ⟨by rfl, ?_⟩) (by assumption) ?_
          rotate_left
          · intro W' hSw; obtain ⟨a0, a1, b0, b1, b2, b3, b4, b5, b6, b7⟩ := hSw; go_simp; all_goals (with_reducible rfl)
          try simp only [Act.put, List.setIfInBounds_toArray, List.set_cons_zero, List.set_cons_succ]
          refine wpAnyH_take (i := 3) (oi := { dst := some 30, op := Go.Op.fieldAddr 43 (Go.Operand.tmp 2) 1, type := 0, pos := "bind.go:119", after := #[], guard := none }) (v := ?_) rfl (by kernel_rfl) (by kernel_rfl) (by kernel_rfl) (fun _ _ _ h => h) (Or.inl ⟨by rfl, ?_⟩) (by assumption) ?_
          rotate_left
          · intro W' hSw; obtain ⟨a0, a1, b0, b1, b2, b3, b4, b5, b6, b7⟩ := hSw; go_simp; all_goals (with_reducible rfl)
          try simp only [Act.put, List.setIfInBounds_toArray, List.set_cons_zero, List.set_cons_succ]
          refine wpAnyH_take (i := 4) (oi := { dst := some 31, op := Go.Op.load 26 (Go.Operand.tmp 30), type := 26, pos := "bind.go:119", after := #[{ on := 3, ground := Go.Ground.data }], guard := none }) (v := ?_) rfl (by kernel_rfl) (by kernel_rfl) (by kernel_rfl) (fun _ _ _ h => h) (Or.inl ⟨by rfl, ?_⟩) (by assumption) ?_
          rotate_left
          · intro W' hSw; obtain ⟨a0, a1, b0, b1, b2, b3, b4, b5, b6, b7⟩ := hSw; go_simp; all_goals (with_reducible rfl)
          try simp only [Act.put, List.setIfInBounds_toArray, List.set_cons_zero, List.set_cons_succ]
          refine wpAnyH_take (i := 5) (oi := { dst := some 32, op := Go.Op.move (Go.Operand.tmp 7), type := 3, pos := "bind.go:119", after := #[], guard := none }) (v := ?_) rfl (by kernel_rfl) (by kernel_rfl) (by kernel_rfl) (fun _ _ _ h => h) (Or.inl ⟨by rfl, ?_⟩) (by assumption) ?_
          rotate_left
          · intro W' hSw; obtain ⟨a0, a1, b0, b1, b2, b3, b4, b5, b6, b7⟩ := hSw; go_simp; all_goals (with_reducible rfl)
          try simp only [Act.put, List.setIfInBounds_toArray, List.set_cons_zero, List.set_cons_succ]
          refine wpAnyH_take (i := 6) (oi := { dst := some 33, op := Go.Op.indexAddr 26 (Go.Operand.tmp 31) (Go.Operand.tmp 32), type := 0, pos := "bind.go:119", after := #[{ on := 4, ground := Go.Ground.data }, { on := 5, ground := Go.Ground.data }], guard := none }) (v := ?_) rfl (by kernel_rfl) (by kernel_rfl) (by kernel_rfl) (fun _ _ _ h => h) (Or.inl ⟨by rfl, ?_⟩) (by assumption) ?_
          rotate_left
          · intro W' hSw; obtain ⟨a0, a1, b0, b1, b2, b3, b4, b5, b6, b7⟩ := hSw; go_simp; all_goals (with_reducible rfl)
          try simp only [Act.put, List.setIfInBounds_toArray, List.set_cons_zero, List.set_cons_succ]
          refine wpAnyH_take (i := 7) (oi := { dst := some 34, op := Go.Op.fieldAddr 63 (Go.Operand.tmp 33) 1, type := 0, pos := "bind.go:119", after := #[{ on := 6, ground := Go.Ground.data }], guard := none }) (v := ?_) rfl (by kernel_rfl) (by kernel_rfl) (by kernel_rfl) (fun _ _ _ h => h) (Or.inl ⟨by rfl, ?_⟩) (by assumption) ?_
          rotate_left
          · intro W' hSw; obtain ⟨a0, a1, b0, b1, b2, b3, b4, b5, b6, b7⟩ := hSw; go_simp; all_goals (with_reducible rfl)
          try simp only [Act.put, List.setIfInBounds_toArray, List.set_cons_zero, List.set_cons_succ]
          refine wpAnyH_take (i := 8) (oi := { dst := some 35, op := Go.Op.load 3 (Go.Operand.tmp 34), type := 3, pos := "bind.go:119", after := #[{ on := 7, ground := Go.Ground.data }], guard := none }) (v := ?_) rfl (by kernel_rfl) (by kernel_rfl) (by kernel_rfl) (fun _ _ _ h => h) (Or.inl ⟨by rfl, ?_⟩) (by assumption) ?_
          rotate_left
          · intro W' hSw; obtain ⟨a0, a1, b0, b1, b2, b3, b4, b5, b6, b7⟩ := hSw; go_simp; all_goals (with_reducible rfl)
          try simp only [Act.put, List.setIfInBounds_toArray, List.set_cons_zero, List.set_cons_succ]
          refine wpAnyH_take (i := 9) (oi := { dst := some 36, op := Go.Op.load 34 (Go.Operand.tmp 8), type := 34, pos := "bind.go:119", after := #[], guard := none }) (v := ?_) rfl (by kernel_rfl) (by kernel_rfl) (by kernel_rfl) (fun _ _ _ h => h) (Or.inl ⟨by rfl, ?_⟩) (by assumption) ?_
          rotate_left
          · intro W' hSw; obtain ⟨a0, a1, b0, b1, b2, b3, b4, b5, b6, b7⟩ := hSw; go_simp; all_goals (with_reducible rfl)
          try simp only [Act.put, List.setIfInBounds_toArray, List.set_cons_zero, List.set_cons_succ]
          refine wpAnyH_ready (rs := [2]) (by kernel_rfl) (by simp) ?_
          refine (AllReadyH.cons (o := { dst := some 29, op := Go.Op.buildSlice 145 0 #[], type := 145, pos := "bind.go:119", after := #[], guard := none }) rfl (fun K hK => ?_) AllReadyH.nil)
          go_simp
          go_wp2_with fail
          refine hK.out _ _ ?_ (fun hHeld => ?_)
          · exact S1
          clear hK K
          try simp only [Act.put, List.setIfInBounds_toArray, List.set_cons_zero, List.set_cons_succ]
          refine wpAnyH_ready (rs := [10]) (by kernel_rfl) (by simp) ?_
          refine (AllReadyH.cons (o := { dst := some 37, op := Go.Op.call { callee := Go.Callee.value (Go.Operand.func 134), args := #[Go.Operand.tmp 29, Go.Operand.tmp 35, Go.Operand.tmp 36], argTypes := #[145, 3, 34] }, type := 144, pos := "bind.go:119", after := #[{ on := 2, ground := Go.Ground.data }, { on := 8, ground := Go.Ground.data }, { on := 9, ground := Go.Ground.data }], guard := none }) rfl (fun K hK => ?_) AllReadyH.nil)
          go_simp
          (go_at_call 134; refine HI2.mono ?_; rintro r w1 ⟨op2, x2, s2, name2, n2, ao2, k2, c2, rfl, hE2, hb1⟩; obtain ⟨x2k, x2n, x2s⟩ := x2; have hbT := bthen hbx2 hb1; obtain ⟨mt, mm1⟩ := made_one (g := w.heap.size + 1) hM1 hbT hjl q2 hE2; have hone := one_eArr op2 ⟨x2k, x2n, x2s⟩ s2 name2 n2 ao2 k2 c2; have S2 := S1.below hb1 (Nat.lt_of_lt_of_le hlt0 hbx2.size) (Nat.lt_of_lt_of_le hcb hbx2.size) (by simp [World.drew]; omega))
          go_wp2_with fail
          refine hK.out _ _ ?_ (fun hHeld => ?_)
          · exact S2
          clear hK K
          try simp only [Act.put, List.setIfInBounds_toArray, List.set_cons_zero, List.set_cons_succ]
          refine wpAnyH_take (i := 11) (oi := { dst := some 26, op := Go.Op.move (Go.Operand.tmp 37), type := 144, pos := "bind.go:119", after := #[{ on := 10, ground := Go.Ground.data }], guard := none }) (v := ?_) rfl (by kernel_rfl) (by kernel_rfl) (by kernel_rfl) (fun _ _ _ h => h) (Or.inl ⟨by rfl, ?_⟩) (by assumption) ?_
          rotate_left
          · intro W' hSw; obtain ⟨a0, a1, b0, b1, b2, b3, b4, b5, b6, b7⟩ := hSw; go_simp; all_goals (with_reducible rfl)
          try simp only [Act.put, List.setIfInBounds_toArray, List.set_cons_zero, List.set_cons_succ]
          refine wpAnyH_take (i := 12) (oi := { dst := some 38, op := Go.Op.extract (Go.Operand.tmp 26) 0, type := 34, pos := "bind.go:119", after := #[{ on := 11, ground := Go.Ground.data }], guard := none }) (v := ?_) rfl (by kernel_rfl) (by kernel_rfl) (by kernel_rfl) (fun _ _ _ h => h) (Or.inl ⟨by rfl, ?_⟩) (by assumption) ?_
          rotate_left
          · intro W' hSw; obtain ⟨a0, a1, b0, b1, b2, b3, b4, b5, b6, b7⟩ := hSw; go_simp; all_goals (with_reducible rfl)
          try simp only [Act.put, List.setIfInBounds_toArray, List.set_cons_zero, List.set_cons_succ]
          refine wpAnyH_take (i := 13) (oi := { dst := some 39, op := Go.Op.extract (Go.Operand.tmp 26) 1, type := 38, pos := "bind.go:119", after := #[{ on := 11, ground := Go.Ground.data }, { on := 15, ground := Go.Ground.gcOnly Go.Departure.lateStores }], guard := none }) (v := ?_) rfl (by kernel_rfl) (by kernel_rfl) (by kernel_rfl) (fun _ _ _ h => h) (Or.inl ⟨by rfl, ?_⟩) (by assumption) ?_
          rotate_left
          · intro W' hSw; obtain ⟨a0, a1, b0, b1, b2, b3, b4, b5, b6, b7⟩ := hSw; go_simp; all_goals (with_reducible rfl)
          try simp only [Act.put, List.setIfInBounds_toArray, List.set_cons_zero, List.set_cons_succ]
          refine wpAnyH_take (i := 14) (oi := { dst := some 40, op := Go.Op.indexAddr 30 (Go.Operand.tmp 27) (Go.Operand.tmp 28), type := 0, pos := "bind.go:119", after := #[{ on := 0, ground := Go.Ground.data }, { on := 1, ground := Go.Ground.data }, { on := 0, ground := Go.Ground.phase }, { on := 1, ground := Go.Ground.phase }, { on := 2, ground := Go.Ground.phase }, { on := 3, ground := Go.Ground.phase }, { on := 4, ground := Go.Ground.phase }, { on := 5, ground := Go.Ground.phase }, { on := 6, ground := Go.Ground.phase }, { on := 7, ground := Go.Ground.phase }, { on := 8, ground := Go.Ground.phase }, { on := 9, ground := Go.Ground.phase }, { on := 10, ground := Go.Ground.phase }, { on := 11, ground := Go.Ground.phase }, { on := 12, ground := Go.Ground.phase }, { on := 13, ground := Go.Ground.textOnly Go.Departure.lateStores }], guard := none }) (v := ?_) rfl (by kernel_rfl) (by kernel_rfl) (by kernel_rfl) (fun _ _ _ h => h) (Or.inl ⟨by rfl, ?_⟩) (by assumption) ?_
          rotate_left
          · intro W' hSw; obtain ⟨a0, a1, b0, b1, b2, b3, b4, b5, b6, b7⟩ := hSw; go_simp; all_goals (with_reducible rfl)
          try simp only [Act.put, List.setIfInBounds_toArray, List.set_cons_zero, List.set_cons_succ]
          refine wpAnyH_ready (rs := [15]) (by kernel_rfl) (by simp) ?_
          refine (AllReadyH.cons (o := { dst := none, op := Go.Op.store 34 (Go.Operand.tmp 40) (Go.Operand.tmp 38), type := 0, pos := "bind.go:119", after := #[{ on := 14, ground := Go.Ground.data }, { on := 12, ground := Go.Ground.data }, { on := 10, ground := Go.Ground.chain }, { on := 0, ground := Go.Ground.phase }, { on := 1, ground := Go.Ground.phase }, { on := 2, ground := Go.Ground.phase }, { on := 3, ground := Go.Ground.phase }, { on := 4, ground := Go.Ground.phase }, { on := 5, ground := Go.Ground.phase }, { on := 6, ground := Go.Ground.phase }, { on := 7, ground := Go.Ground.phase }, { on := 8, ground := Go.Ground.phase }, { on := 9, ground := Go.Ground.phase }, { on := 10, ground := Go.Ground.phase }, { on := 11, ground := Go.Ground.phase }, { on := 12, ground := Go.Ground.phase }, { on := 13, ground := Go.Ground.textOnly Go.Departure.lateStores }], guard := none }) rfl (fun K hK => ?_) AllReadyH.nil)
          refine step_store_mid rfl 34 _ _ rfl (w.heap.size + 1) (j * 8) (eArr op2 ⟨x2k, x2n, x2s⟩ s2 name2 n2 (.slice ao2 k2 c2)) ?_ ?_ ?_ ?_ ?_ ?_; exact rfl; exact rfl; exact mt; exact size_expr; exact hone
          refine hK.out _ _ ?_ (fun hHeld => ?_)
          · exact S2.cells (by omega) (by omega) (by omega) _ _
          clear hK K
          try simp only [Act.put]
          refine wpAnyH_take (i := 16) (oi := { dst := some 9, op := Go.Op.assign (Go.Operand.tmp 39), type := 38, pos := "bind.go:119", after := #[{ on := 13, ground := Go.Ground.data }, { on := 15, ground := Go.Ground.chain }, { on := 0, ground := Go.Ground.phase }, { on := 1, ground := Go.Ground.phase }, { on := 2, ground := Go.Ground.phase }, { on := 3, ground := Go.Ground.phase }, { on := 4, ground := Go.Ground.phase }, { on := 5, ground := Go.Ground.phase }, { on := 6, ground := Go.Ground.phase }, { on := 7, ground := Go.Ground.phase }, { on := 8, ground := Go.Ground.phase }, { on := 9, ground := Go.Ground.phase }, { on := 10, ground := Go.Ground.phase }, { on := 11, ground := Go.Ground.phase }, { on := 12, ground := Go.Ground.phase }, { on := 13, ground := Go.Ground.phase }, { on := 14, ground := Go.Ground.phase }, { on := 15, ground := Go.Ground.phase }], guard := none }) (v := ?_) rfl (by kernel_rfl) (by kernel_rfl) (by kernel_rfl) (fun _ _ _ h => h) (Or.inl ⟨by rfl, ?_⟩) (by assumption) ?_
          rotate_left
          · intro W' hSw; obtain ⟨a0, a1, b0, b1, b2, b3, b4, b5, b6, b7⟩ := hSw; go_simp; all_goals (with_reducible rfl)
          try simp only [Act.put, List.setIfInBounds_toArray, List.set_cons_zero, List.set_cons_succ]
          refine wpAnyH_done (by kernel_rfl) ?_ _
          go_wp2_with fail
          go_roundw
          case rel => exact ⟨j + 1, rs ++ [e2], by omega, by go_num, HS, HL2, (setCells_block (show w.heap.size ≠ w.heap.size + 1 by omega) _ _ _).trans ((hbT.block _ hlt0).trans hT), mm1, below_setCells (show w.heap.size ≤ w.heap.size + 1 by omega) _ _ _ (hbel.trans (hbT.mono hbel.size)), by have := hbT.size; simp [setCells_size]; omega⟩
          case measure => simp [intOf]; omega
      · have hjl2 : j = cols.length := by omega
        subst hjl2
        have HE : Hid (rowR cols l = .ok rs) := by
          show _ = _
          have := HQ.out
          rw [List.take_of_length_le (by rw [List.length_zip]; omega)] at this
          rw [HR.out, this]
        have hw1 : IsL kExpr (Fr w.heap.size) wr (.slice (some ⟨w.heap.size + 1, 0, none⟩) cols.length cols.length) rs := hM1.whole q2 (fun k hk => Nat.le_trans (by omega) hk) (show w.heap.size ≤ w.heap.size + 1 by omega) (Nat.le_trans (show cols.length ≤ 1000000000 by omega) (by decide))
        clear q2 HL HQ HR
        go_wp2_with fail
        go_ret2
        refine ⟨⟨_, rfl, ?_⟩, hbel⟩
        rw [HE.out]
        exact ⟨_, _, _, rfl, hw1⟩
  · have HE : Hid (rowR cols l = .error 5) := if_neg hlen
    have hne : ((l.length : Int) == (cols.length : Int)) = false := by simp; omega
    clear he hl hg
    go_enter Tryz.func132, Tryz.ntmps132
    go_wp2_with fail
    go_ret2
    refine ⟨⟨_, rfl, ?_⟩, hb1⟩
    rw [HE.out]
    rfl

theorem info_row : (Tryz.prog.info? 30).map (fun i => (i.zero, i.size, i.bytes)) = some (some (.slice none 0 0), 1, 24) := by kernel_rfl
theorem make_rows (W : World) (n : Nat) (hn : n ≤ 1000000000000) : ∃ arr : Array Value, arr.size = n * 1 ∧ (Instr.makeSlice 27 (.int .i64 (n : Int)) (.int .i64 (n : Int))).run Tryz.prog W = .ok (.slice (some ⟨W.heap.size, 0, none⟩) n n) (W.alloc (.cells arr 30)) := by
  obtain ⟨i0, hi, hz0, hz1, hz2⟩ := info_parts info_row
  have hmk := run_make (P := Tryz.prog) W 27 30 i0 _ Tryz.underlying27 hi hz0 .i64 .i64 n n (by omega) (Int.le_refl _) (by rw [hz2]; omega) (by omega)
  rw [hz1, Int.toNat_natCast] at hmk
  exact ⟨_, size_madeCells _ _, hmk⟩
/-- Behind a call in a round: the place that is filled in. -/
theorem made_row {W w1 : World} {g n j : Nat} {le : List (List E)} {ao : Option Addr} {k c : Nat} {e : List E}
    (h1 : Made kRow (Fr (g + 1)) W g n le) (hb : Below W.heap.size W w1) (hj : j < n) (l1 : le.length = j) (he : IsL kExpr (Fr (g + 1)) w1 (.slice ao k c) e) :
    (∃ u, w1.cell? ⟨g, j, none⟩ = some u) ∧ w1.frozen? ⟨g, j, none⟩ = false ∧ Made kRow (Fr (g + 1)) (w1.setCell ⟨g, j, none⟩ (.slice ao k c)) g n (le ++ [e]) := by
  subst l1
  have m1 := h1.below hb
  have t1 := there_cells (m1.there hj) (j := 0) (by decide)
  simp only [kRow, Nat.mul_one, Nat.add_zero] at t1
  exact ⟨t1.1, t1.2, m1.set1 hj (show ¬ g + 1 ≤ g by omega) rfl (a := e) (v := .slice ao k c) ⟨_, rfl, he⟩⟩

set_option maxRecDepth 100000 in
set_option maxHeartbeats 4000000 in
theorem bindRows_any (tn : Wd) (cols : List ColD) (cv : Value) (d : Nat) (l : List (List E)) (lv : Value) (C : Nat) (w : World) (he : IsL kRow (fun k => k < C) w lv l) (hl : IsL kCol (fun k => k < C) w cv cols) (hC : C ≤ w.heap.size) (hg : ∀ r ∈ l, ∀ a ∈ r, geB d a = true) (hn : l.length ≤ 1000000000) (hn2 : ∀ r ∈ l, r.length ≤ 1000000000) :
    Calls Tryz.prog 91 #[.agg #[.string tn, cv], lv] w fun r w' => (∃ u, r = .returned u ∧ ListAns kRow (rowsR cols l) (Fr w.heap.size) w' u) ∧ Below w.heap.size w w' := by
  obtain ⟨so, sc, rfl⟩ := hl.shape
  obtain ⟨ao, c, rfl⟩ := he.shape
  have hb1 := bel1 w (.cells #[.string tn, .slice so cols.length sc] 43)
  obtain ⟨arr1, ha1, hmk1⟩ := make_rows (w.alloc (.cells #[.string tn, .slice so cols.length sc] 43)) l.length (by omega)
  have hst : Made kRow (Fr (w.heap.size + 1 + 1)) ((w.alloc (.cells #[.string tn, .slice so cols.length sc] 43)).alloc (.cells arr1 30)) (w.heap.size + 1) l.length [] := by
    have := made_new kRow (Fr (w.heap.size + 1 + 1)) (w := w.alloc (.cells #[.string tn, .slice so cols.length sc] 43)) (t := 30) (n := l.length) ha1
    rwa [show (w.alloc (.cells #[.string tn, .slice so cols.length sc] 43)).heap.size = w.heap.size + 1 by simp] at this
  have hT0 : ((w.alloc (.cells #[.string tn, .slice so cols.length sc] 43)).alloc (.cells arr1 30)).heap[w.heap.size]? = some (.cells #[.string tn, .slice so cols.length sc] 43) := block_alloc_of (block_alloc_at _ _) _
  have hbW := bel2 w (.cells #[.string tn, .slice so cols.length sc] 43) (.cells arr1 30)
  go_enter Tryz.func91, Tryz.ntmps91
  go_wp2_with fail
  clear hmk1
  go_loopw [15] (fun i wr => ∃ (j : Nat) (rs : List (List E)), j ≤ l.length ∧ i = .int .i64 j ∧ Hid (mapR (rowR cols) (l.take j) = .ok rs) ∧ Hid (rs.length = j) ∧ wr.heap[w.heap.size]? = some (.cells #[.string tn, .slice so cols.length sc] 43) ∧ Made kRow (Fr (w.heap.size + 1 + 1)) wr (w.heap.size + 1) l.length rs ∧ Below w.heap.size w wr ∧ w.heap.size + 2 ≤ wr.heap.size) (fun i _ => l.length - (intOf i).toNat)
  case atStart => exact ⟨0, [], Nat.zero_le _, rfl, by show _ = _; rw [List.take_zero, mapR], rfl, hT0, hst, hbW, by simp⟩
  case round =>
    obtain ⟨j, rs, hj, rfl, HQ, HL, hT, hM1, hbel, hsz⟩ := hrel
    clear hst hbW ha1 hT0
    have q2 := HL.out
    by_cases hjl : j < l.length
    · obtain ⟨a, ha⟩ : ∃ a, l[j]? = some a := ⟨_, List.getElem?_eq_getElem hjl⟩
      have HT : Hid (l.take (j + 1) = l.take j ++ [a]) := by show _ = _; rw [List.take_add_one, ha]; rfl
      have hga := hg a (List.mem_of_getElem? ha)
      have hna := hn2 a (List.mem_of_getElem? ha)
      obtain ⟨b, off, cs, rfl, hbC, hb, hR, hcell⟩ := isL_get (he.keep (keepsC (hbel.mono hC))) ha
      obtain ⟨asv, rfl, hRL⟩ := hR
      obtain ⟨ao', c', rfl⟩ := hRL.shape
      have d0 := hcell 0 _ rfl
      simp only [kRow, Nat.mul_one, Nat.add_zero] at d0
      have t0 := cell_of_block hT (j := 0) rfl
      have t1 := cell_of_block hT (j := 1) rfl
      have hlt0 := lt_of_block hT
      have j0 : (0 : Int) ≤ (j : Int) := by omega
      have j1 : (j : Int) < (l.length : Int) := by omega
      have HI := bindRow_any tn cols (.slice so cols.length sc) d a (.slice ao' a.length c') C wr hRL (hl.keep (keepsC (hbel.mono hC))) (Nat.le_trans hC hbel.size) hga hna
      clear hcell hRL ha hg he hl hn2
      rcases hbr : rowR cols a with m | r
      · have hm := rowR_err hbr
        have HI2 := HI.mono (R' := fun e w' => e = .returned (.tuple #[.slice none 0 0, .int .i64 m]) ∧ Below wr.heap.size wr w') (by
          rintro e w' ⟨⟨v, rfl, hv⟩, hb'⟩
          rw [hbr] at hv
          obtain rfl := hv
          exact ⟨rfl, hb'⟩)
        have HE : Hid (rowsR cols l = .error m) := by
          show _ = _
          have hs : mapR (rowR cols) (l.take (j + 1)) = .error m := by rw [HT.out, mapR_snoc, HQ.out]; simp only [hbr]
          have := mapR_append (rowR cols) (l.take (j + 1)) (l.drop (j + 1)) m hs
          rw [List.take_append_drop] at this
          unfold rowsR
          exact this
        clear HI hbr HQ HL HT
        rcases hm with rfl | rfl
        all_goals
          go_wp2_with (first | (go_at_call 132; refine HI2.mono ?_; rintro e w1 ⟨rfl, hb1⟩; obtain ⟨⟨u, mu⟩, mf, mm1⟩ := made_row hM1 hb1 hjl q2 (IsL.nil kExpr _ w1)))
          go_ret2
          refine ⟨⟨_, rfl, ?_⟩, (hbel.trans (hb1.mono hbel.size)).setCell (show w.heap.size ≤ w.heap.size + 1 by omega) _⟩
          rw [HE.out]
          rfl
      · have HI2 := HI.mono (R' := fun e w' => ∃ (ao : Option Addr) (k c : Nat), e = .returned (.tuple #[.slice ao k c, .int .i64 0]) ∧ IsL kExpr (Fr (w.heap.size + 1 + 1)) w' (.slice ao k c) r ∧ Below wr.heap.size wr w') (by
          rintro e w' ⟨⟨v, rfl, hv⟩, hb'⟩
          rw [hbr] at hv
          obtain ⟨ao, k, c, rfl, hL⟩ := hv
          exact ⟨ao, k, c, rfl, hL.mono (fun k _ hk => Nat.le_trans hsz hk), hb'⟩)
        have HS : Hid (mapR (rowR cols) (l.take (j + 1)) = .ok (rs ++ [r])) := by show _ = _; rw [HT.out, mapR_snoc, HQ.out]; simp only [hbr]
        have HL2 : Hid ((rs ++ [r]).length = j + 1) := by show _ = _; rw [List.length_append, q2]; rfl
        clear HI hbr HQ HL HT
        go_wp2_with (first | (go_at_call 132; refine HI2.mono ?_; rintro e w1 ⟨ao2, k2, c2, rfl, hL2, hb1⟩; obtain ⟨⟨u, mu⟩, mf, mm1⟩ := made_row hM1 hb1 hjl q2 hL2))
        go_roundw
        case rel => exact ⟨j + 1, rs ++ [r], by omega, by go_num, HS, HL2, (Below.heap_setCell _ _ _ _ (show w.heap.size ≠ w.heap.size + 1 by omega)).trans ((hb1.block _ hlt0).trans hT), mm1, (hbel.trans (hb1.mono hbel.size)).setCell (show w.heap.size ≤ w.heap.size + 1 by omega) _, by have := hb1.size; simp; omega⟩
        case measure => simp [intOf]; omega
    · have hjl2 : j = l.length := by omega
      subst hjl2
      have HE : Hid (rowsR cols l = .ok rs) := by
        show _ = _
        have := HQ.out
        rw [List.take_length] at this
        exact this
      have hw1 : IsL kRow (Fr w.heap.size) wr (.slice (some ⟨w.heap.size + 1, 0, none⟩) l.length l.length) rs := hM1.whole q2 (fun k hk => Nat.le_trans (by omega) hk) (show w.heap.size ≤ w.heap.size + 1 by omega) (Nat.le_trans hn (by decide))
      clear q2 HL HQ
      go_wp2_with fail
      go_ret2
      refine ⟨⟨_, rfl, ?_⟩, hbel⟩
      rw [HE.out]
      exact ⟨_, _, _, rfl, hw1⟩

end Go.Proofs.YthehiijgnepcfaaGreat

