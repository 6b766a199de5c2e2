/-
  8 texts of this proof in one, in build order: YRef, YBindM, YMade, YBind, Truth, Compare, XMath, YType.
-/
import Derived.Deep.MidRow
import Derived.Laws.MakeOwn
import Derived.Test.YtabanbpnghidhaaRows
import Derived.WalkKit
import Derived.WalkSpells
import Derived.WalkLawsBesides
import Derived.Deep.RegionHeld3
import Derived.Test.YtabanbpnghidhaaJ01
import Derived.Test.YtabanbpnghidhaaJ04
namespace Go.Proofs.Ytabanbpnghidhaa
open Go.RowKit Go.Maps

/-- What has been found of a column: how many, its type, its place, how many columns there were. -/
structure RefS where
  found : Nat
  kind : Int
  n : Int
  ahead : Nat
def hitB (t : TabD) (s name : Wd) : Bool := decide (0 ≤ colAt t.cols name) && (decide (s.size = 0) || decide (s = t.name))
def refStep (s name : Wd) (r : RefS) (t : TabD) : RefS :=
  ⟨if hitB t s name then r.found + 1 else r.found, if hitB t s name then ((t.cols[(colAt t.cols name).toNat]?).map ColD.ty).getD 0 else r.kind, if hitB t s name then (r.ahead : Int) + colAt t.cols name else r.n, r.ahead + t.cols.length⟩
def refAll (S : List TabD) (s name : Wd) (n : Int) : RefS := S.foldl (refStep s name) ⟨0, 0, n, 0⟩
theorem refAll_snoc (S : List TabD) (t : TabD) (s name : Wd) (n : Int) : refAll (S ++ [t]) s name n = refStep s name (refAll S s name n) t := by simp [refAll]
theorem colAt_cases (l : List ColD) (s : Wd) : colAt l s = -1 ∨ ∃ (k : Nat) (x : ColD), colAt l s = (k : Int) ∧ l[k]? = some x ∧ x.name = s := by
  rcases find_cases l (fun x => decide (x.name = s)) with ⟨h1, _⟩ | ⟨k, x, h1, h2, h3, _⟩
  · exact .inl h1
  · exact .inr ⟨k, x, h1, h2, by simpa using h3⟩

theorem wrap_small {a : Int} (h : 0 ≤ a) (h2 : a ≤ 4000000000) : IntKind.i64.wrap a = a := by rw [IntKind.wrap_i64]; omega
theorem wrap64_small {a : Int} (h : 0 ≤ a) (h2 : a ≤ 4000000000) : wrap64 a = a := by unfold wrap64; omega
/-- Three results, of which the first lies in a block. -/
theorem results_three {P : Program} {fn : Func} {p q r : Tmp} {ty : TypeId} (h : fn.results = #[.cell p ty, .tmp q, .tmp r]) (tmps : Array Value) (w : World) (g : Nat) (t : TypeId) (cs : Array Value) (fr : Nat × Nat) (d : TypeDesc) (v u : Value)
    (hp : tmps.getD p undef = .pointer (some ⟨g, 0, none⟩)) (hq : tmps.getD q undef = v) (hr : tmps.getD r undef = u) (hg : w.heap[g]? = some (.cells cs t fr))
    (hu : P.underlying ty = some d) (hd : (match d with | .struct _ | .array _ _ => true | _ => false) = true) (hi : (P.info? ty).map (·.size) = some cs.size) :
    (results fn tmps).run P w = .ok (.tuple #[.agg cs, v, u]) w := by
  have hp' : tmps[p]?.getD undef = .pointer (some ⟨g, 0, none⟩) := by simpa using hp
  have hq' : tmps[q]?.getD undef = v := by simpa using hq
  have hr' : tmps[r]?.getD undef = u := by simpa using hr
  simp [results, h, hp', hq', hr', asAddr, run_loadVar_row w g t ty cs fr d hg hu hd hi]
theorem size_expr : (Try.prog.info? 34).map (·.size) = some 8 := by kernel_rfl
theorem one_eArr (op : Int) (x : V) (s name : Wd) (n : Int) (ao : Option Addr) (k c : Nat) : (eArr op x s name n (.slice ao k c)).all (·.oneCell') = true := by simp [Value.oneCell']

/-- What bindRef answers. -/
def refAns (op : Int) (x : V) (s name : Wd) (ao : Option Addr) (k c : Nat) (r : RefS) : Value :=
  if r.found = 1 then .tuple #[.agg (eArr op x s name r.n (.slice ao k c)), .int .i64 r.kind, .int .i64 0] else .tuple #[.agg (eArr 0 zero noW noW 0 (.slice none 0 0)), .int .i64 0, .int .i64 3]
theorem refAns_one {op : Int} {x : V} {s name : Wd} {ao : Option Addr} {k c : Nat} {r : RefS} (h : r.found = 1) : refAns op x s name ao k c r = .tuple #[.agg (eArr op x s name r.n (.slice ao k c)), .int .i64 r.kind, .int .i64 0] := if_pos h
theorem refAns_not {op : Int} {x : V} {s name : Wd} {ao : Option Addr} {k c : Nat} {r : RefS} (h : ¬ r.found = 1) : refAns op x s name ao k c r = .tuple #[.agg (eArr 0 zero noW noW 0 (.slice none 0 0)), .int .i64 0, .int .i64 3] := if_neg h

set_option maxRecDepth 100000 in
set_option maxHeartbeats 4000000 in
theorem bindRef_any (S : List TabD) (sv : Value) (op : Int) (x : V) (s name : Wd) (n : Int) (ao : Option Addr) (k c : Nat) (C : Nat) (w : World) (hl : IsL kTab (fun k => k < C) w sv S) (hC : C ≤ w.heap.size) (hS : S.length ≤ 1000) (hsc : ∀ t ∈ S, t.cols.length ≤ 1000000) :
    Calls Try.prog 115 #[sv, .agg (eArr op x s name n (.slice ao k c))] w fun e w' => e = .returned (refAns op x s name ao k c (refAll S s name n)) ∧ Below w.heap.size w w' := by
  obtain ⟨so, sc, rfl⟩ := hl.shape
  obtain ⟨xk, xn, xs⟩ := x
  have hb2 := bel2 w (.cells (eArr op ⟨xk, xn, xs⟩ s name n (.slice ao k c)) 34) (.cells (eArr 0 zero noW noW 0 (.slice none 0 0)) 34)
  have hB0 : ((w.alloc (.cells (eArr op ⟨xk, xn, xs⟩ s name n (.slice ao k c)) 34)).alloc (.cells (eArr 0 zero noW noW 0 (.slice none 0 0)) 34)).heap[w.heap.size]? = some (.cells (eArr op ⟨xk, xn, xs⟩ s name n (.slice ao k c)) 34) := block_alloc_of (block_alloc_at _ _) _
  have hB1 : ((w.alloc (.cells (eArr op ⟨xk, xn, xs⟩ s name n (.slice ao k c)) 34)).alloc (.cells (eArr 0 zero noW noW 0 (.slice none 0 0)) 34)).heap[w.heap.size + 1]? = some (.cells (eArr 0 zero noW noW 0 (.slice none 0 0)) 34) := block2 _ _ _
  generalize hr : refAns op ⟨xk, xn, xs⟩ s name ao k c (refAll S s name n) = R
  have HR : Hid (refAns op ⟨xk, xn, xs⟩ s name ao k c (refAll S s name n) = R) := hr
  clear hr
  go_enter Try.func115, Try.ntmps115
  go_wp2
  go_loopw [7, 8, 9, 15] (fun fv kv av i wr => ∃ (j : Nat) (q : RefS), j ≤ S.length ∧ i = .int .i64 j ∧ fv = .int .i64 (q.found : Nat) ∧ kv = .int .i64 q.kind ∧ av = .int .i64 (q.ahead : Nat) ∧ Hid (refAll (S.take j) s name n = q) ∧ q.found ≤ j ∧ q.ahead ≤ j * 1000000 ∧ wr.heap[w.heap.size]? = some (.cells (eArr op ⟨xk, xn, xs⟩ s name q.n (.slice ao k c)) 34) ∧ wr.heap[w.heap.size + 1]? = some (.cells (eArr 0 zero noW noW 0 (.slice none 0 0)) 34) ∧ Below w.heap.size w wr) (fun _ _ _ i _ => S.length - (intOf i).toNat)
  case atStart => exact ⟨0, ⟨0, 0, n, 0⟩, Nat.zero_le _, rfl, rfl, rfl, rfl, rfl, Nat.le_refl _, by simp, hB0, hB1, hb2⟩
  case round =>
    obtain ⟨j, q, hj, rfl, rfl, rfl, rfl, HQ, hq1, hq2, hE, hZ, hbel⟩ := hrel
    clear hB0 hB1
    have hlt0 := lt_of_block hE
    have hlt1 := lt_of_block hZ
    by_cases hjl : j < S.length
    · obtain ⟨t, ht⟩ : ∃ t, S[j]? = some t := ⟨_, List.getElem?_eq_getElem hjl⟩
      have hst : Hid (refAll (S.take (j + 1)) s name n = refStep s name q t) := by
        show _ = _
        rw [List.take_add_one, ht]
        exact (refAll_snoc _ _ _ _ _).trans (by rw [HQ.out])
      have htc := hsc t (List.mem_of_getElem? ht)
      obtain ⟨b, off, cs, rfl, hbC, hb, ⟨cv, rfl, hcv⟩, hcell⟩ := isL_get (hl.keep (keepsC (hbel.mono hC))) ht
      obtain ⟨co, cc, rfl⟩ := hcv.shape
      have d0 := hcell 0 _ rfl
      have d1 := hcell 1 _ rfl
      simp only [kTab, Nat.add_zero] at d0 d1
      have j0 : (0 : Int) ≤ (j : Int) := by omega
      have j1 : (j : Int) < (S.length : Int) := by omega
      have e2 := cell_of_block hE (j := 4) rfl
      have e3 := cell_of_block hE (j := 5) rfl
      have hbx := bel1 wr (.cells #[.string t.name, .slice co t.cols.length cc] 43)
      have HF := findCol_any t.cols t.name (.slice co t.cols.length cc) name C _ (hcv.keep (keepsC (hbx.mono (Nat.le_trans hC hbel.size)))) (Nat.le_trans (Nat.le_trans hC hbel.size) hbx.size)
      clear hcell ht
      go_upto_region 6 with (go_at_call 11; go_fit HF; rintro e w1 ⟨rfl, hb1⟩)
      have hbT := bthen hbx hb1
      have hbw1 : Below w.heap.size w w1 := hbel.trans (hbT.mono hbel.size)
      have hE1 := (hbT.block _ hlt0).trans hE
      have hZ1 := (hbT.block _ hlt1).trans hZ
      have hT1 : w1.heap[wr.heap.size]? = some (.cells #[.string t.name, .slice co t.cols.length cc] 43) := (hb1.block _ (by simp)).trans (block_alloc_at _ _)
      have g4 := cell_of_block hE1 (j := 4) rfl
      have t0 := cell_of_block hT1 (j := 0) rfl
      have t1 := cell_of_block hT1 (j := 1) rfl
      have w3 : wrap64 ((q.ahead : Int) + (t.cols.length : Int)) = (q.ahead : Int) + (t.cols.length : Int) := by unfold wrap64; omega
      have HST0 : Hid (refStep s name q t = ⟨if hitB t s name then q.found + 1 else q.found, if hitB t s name then ((t.cols[(colAt t.cols name).toNat]?).map ColD.ty).getD 0 else q.kind, if hitB t s name then (q.ahead : Int) + colAt t.cols name else q.n, q.ahead + t.cols.length⟩) := rfl
      have HIT : Hid (hitB t s name = (decide (0 ≤ colAt t.cols name) && (s.toList.isEmpty || (s.toList == t.name.toList)))) := by show _ = _; rw [hitB, empty_iff, beq_str]
      have HM : hitB t s name = false → refStep s name q t = ⟨q.found, q.kind, q.n, q.ahead + t.cols.length⟩ := fun h => by rw [HST0.out, h]; rfl
      by_cases hneg : colAt t.cols name = -1
      · have HST : Hid (refStep s name q t = ⟨q.found, q.kind, q.n, q.ahead + t.cols.length⟩) := HM (by rw [HIT.out, hneg]; rfl)
        rw [hneg]
        clear HF HM HIT HST0 hneg
        generalize refStep s name q t = q' at hst HST
        have hst2 : Hid (refAll (S.take (j + 1)) s name n = ⟨q.found, q.kind, q.n, q.ahead + t.cols.length⟩) := hst.out.trans HST.out
        go_wp2_with fail
        go_roundw
        case rel => exact ⟨j + 1, ⟨q.found, q.kind, q.n, q.ahead + t.cols.length⟩, by omega, by go_num, rfl, rfl, by simp, hst2, by simp only; omega, by simp only; omega, hE1, hZ1, hbw1⟩
        case measure => (try clear q4); (try clear w3); simp [intOf]; omega
      · obtain ⟨kk, x, hk1, hk2, _⟩ : ∃ (k : Nat) (x : ColD), colAt t.cols name = (k : Int) ∧ t.cols[k]? = some x ∧ x.name = name := by
          rcases colAt_cases t.cols name with h | h
          · exact absurd h hneg
          · exact h
        rw [hk1]
        rw [hk1] at HIT
        have hkl : kk < t.cols.length := (List.getElem?_eq_some_iff.1 hk2).1
        obtain ⟨cb, cof, ccs, rfl, hcbC, hcb, hcR, hccell⟩ := isL_get (hcv.keep (keepsC (hbT.mono (Nat.le_trans hC hbel.size)))) hk2
        obtain rfl := hcR
        have c1 := hccell 1 _ rfl
        simp only [kCol] at c1
        have q0 : (0 : Int) ≤ (kk : Int) := by omega
        have q1 : (kk : Int) < (t.cols.length : Int) := by omega
        have q4 : IntKind.i64.wrap ((q.ahead : Int) + (kk : Int)) = (q.ahead : Int) + (kk : Int) := wrap_small (by omega) (by omega)
        have HH : hitB t s name = true → refStep s name q t = ⟨q.found + 1, x.ty, (q.ahead : Int) + (kk : Int), q.ahead + t.cols.length⟩ := fun h => by
          rw [HST0.out, h, hk1]
          simp [hk2]
        have g6 := cell_of_block hE1 (j := 6) rfl
        have f6 : ∀ o, w1.frozen? ⟨w.heap.size, o, none⟩ = false := fun o => by simp [World.frozen?, hE1]
        have hcw : cb < w.heap.size := Nat.lt_of_lt_of_le hcbC hC
        clear HF HST0 hneg hk1 hk2 hccell
        cases hem : s.toList.isEmpty
        · cases heq : (s.toList == t.name.toList)
          · have HST : Hid (refStep s name q t = ⟨q.found, q.kind, q.n, q.ahead + t.cols.length⟩) := HM (by rw [HIT.out, hem, heq]; simp)
            clear HM HIT HH
            generalize refStep s name q t = q' at hst HST
            have hst2 : Hid (refAll (S.take (j + 1)) s name n = ⟨q.found, q.kind, q.n, q.ahead + t.cols.length⟩) := hst.out.trans HST.out
            clear hst HST
            go_wp2_with fail
            go_roundw
            case rel => clear q4 w3; exact ⟨j + 1, ⟨q.found, q.kind, q.n, q.ahead + t.cols.length⟩, by omega, by go_num, rfl, rfl, by simp, hst2, by simp only; omega, by simp only; omega, hE1, hZ1, hbw1⟩
            case measure => (try clear q4); (try clear w3); simp [intOf]; omega
          · have HST : Hid (refStep s name q t = ⟨q.found + 1, x.ty, (q.ahead : Int) + (kk : Int), q.ahead + t.cols.length⟩) := HH (by rw [HIT.out, hem, heq]; simp)
            clear HM HIT HH
            generalize refStep s name q t = q' at hst HST
            have hst2 : Hid (refAll (S.take (j + 1)) s name n = ⟨q.found + 1, x.ty, (q.ahead : Int) + (kk : Int), q.ahead + t.cols.length⟩) := hst.out.trans HST.out
            clear hst HST
            go_wp2_with fail
            go_region_held3 (fun w' => w'.cell? ⟨wr.heap.size, 1, none⟩ = some (.slice (some ⟨cb, cof, none⟩) t.cols.length cc) ∧ w'.cell? ⟨cb, cof + kk * 3 + 1, none⟩ = some (.int .i64 x.ty)) (first | exact ⟨t1, c1⟩ | exact ⟨(cell_set_ne (by omega) _ _ _).trans t1, (cell_set_ne (by omega) _ _ _).trans c1⟩)
              (first | fail)
            go_wp2
            go_roundw
            case rel => clear q4 w3; exact ⟨j + 1, ⟨q.found + 1, x.ty, (q.ahead : Int) + (kk : Int), q.ahead + t.cols.length⟩, by omega, by go_num, by simp, rfl, by simp, hst2, by simp only; omega, by simp only; omega, set_at hE1 6 _, (Below.heap_setCell _ _ _ _ (show w.heap.size + 1 ≠ w.heap.size by omega)).trans hZ1, hbw1.drew.setCell (show w.heap.size ≤ w.heap.size from Nat.le_refl _) _⟩
            case measure => (try clear q4); (try clear w3); simp [intOf]; omega
        · have HST : Hid (refStep s name q t = ⟨q.found + 1, x.ty, (q.ahead : Int) + (kk : Int), q.ahead + t.cols.length⟩) := HH (by rw [HIT.out, hem]; simp)
          clear HM HIT HH
          generalize refStep s name q t = q' at hst HST
          have hst2 : Hid (refAll (S.take (j + 1)) s name n = ⟨q.found + 1, x.ty, (q.ahead : Int) + (kk : Int), q.ahead + t.cols.length⟩) := hst.out.trans HST.out
          clear hst HST
          go_wp2_with fail
          go_region_held3 (fun w' => w'.cell? ⟨wr.heap.size, 1, none⟩ = some (.slice (some ⟨cb, cof, none⟩) t.cols.length cc) ∧ w'.cell? ⟨cb, cof + kk * 3 + 1, none⟩ = some (.int .i64 x.ty)) (first | exact ⟨t1, c1⟩ | exact ⟨(cell_set_ne (by omega) _ _ _).trans t1, (cell_set_ne (by omega) _ _ _).trans c1⟩)
            (first | fail)
          go_wp2
          go_roundw
          case rel => clear q4 w3; exact ⟨j + 1, ⟨q.found + 1, x.ty, (q.ahead : Int) + (kk : Int), q.ahead + t.cols.length⟩, by omega, by go_num, by simp, rfl, by simp, hst2, by simp only; omega, by simp only; omega, set_at hE1 6 _, (Below.heap_setCell _ _ _ _ (show w.heap.size + 1 ≠ w.heap.size by omega)).trans hZ1, hbw1.drew.setCell (show w.heap.size ≤ w.heap.size from Nat.le_refl _) _⟩
          case measure => (try clear q4); (try clear w3); simp [intOf]; omega
    · have hjj : j = S.length := by omega
      subst hjj
      have HQ2 : Hid (R = refAns op ⟨xk, xn, xs⟩ s name ao k c q) := by show _ = _; rw [← HR.out, ← HQ.out, List.take_length]
      have j1 : ¬ (S.length : Int) < (S.length : Int) := by omega
      clear HQ HR
      by_cases hf1 : q.found = 1
      · have hf2 : ((q.found : Int) != 1) = false := by rw [hf1]; rfl
        have HF1 : Hid (q.found = 1) := hf1
        clear hf1
        have hone := one_eArr op ⟨xk, xn, xs⟩ s name q.n ao k c
        go_wp2_with (first | refine wpList_load_row rfl 34 _ rfl w.heap.size rfl 34 _ _ _ hE Try.underlying34 rfl size_expr ?_ | refine wpList_store_row rfl 34 _ _ rfl (w.heap.size + 1) _ rfl rfl 34 _ hZ size_expr rfl hone ?_)
        exact bodyPost_ret (v := .tuple #[.agg (eArr op ⟨xk, xn, xs⟩ s name q.n (.slice ao k c)), .int .i64 q.kind, .int .i64 0]) (results_three Try.results115 _ _ (w.heap.size + 1) 34 _ _ _ _ _ rfl rfl rfl (block_row hZ) Try.underlying34 rfl size_expr) rfl ⟨by rw [HQ2.out, refAns_one HF1.out], Below.row hbel (by omega) _⟩
      · have hf2 : ((q.found : Int) != 1) = true := by simp; omega
        have HF1 : Hid (¬ q.found = 1) := hf1
        clear hf1
        have hone := one_eArr 0 zero noW noW 0 none 0 0
        go_wp2_with (first | refine wpList_store_row rfl 34 _ _ rfl (w.heap.size + 1) _ rfl rfl 34 _ hZ size_expr rfl hone ?_)
        exact bodyPost_ret (v := .tuple #[.agg (eArr 0 zero noW noW 0 (.slice none 0 0)), .int .i64 0, .int .i64 3]) (results_three Try.results115 _ _ (w.heap.size + 1) 34 _ _ _ _ _ rfl rfl rfl (block_row hZ) Try.underlying34 rfl size_expr) rfl ⟨by rw [HQ2.out, refAns_not HF1.out], Below.row hbel (by omega) _⟩

end Go.Proofs.Ytabanbpnghidhaa

namespace Go.Proofs.Ytabanbpnghidhaa

mutual
/-- An expression bound: it and its type, or what is wrong. -/
def bindR (S : List TabD) : E → Except Int (E × Int)
  | .mk op x s name n l =>
    if op = 1 then .ok (.mk op x s name n l, x.k)
    else if op = 2 then
      if (refAll S s name n).found = 1 then .ok (.mk op x s name (refAll S s name n).n l, (refAll S s name n).kind) else .error 3
    else match bindsR S l with
      | .error m => .error m
      | .ok r => if fitB op (r.map Prod.snd) then .ok (.mk op x s name n (r.map Prod.fst), typeI op) else .error 5
def bindsR (S : List TabD) : List E → Except Int (List (E × Int))
  | [] => .ok []
  | e :: l => match bindR S e with
    | .error m => .error m
    | .ok r => match bindsR S l with
      | .error m => .error m
      | .ok rs => .ok (r :: rs)
end
theorem bindsR_snoc (S : List TabD) : ∀ (l : List E) (e : E), bindsR S (l ++ [e]) = match bindsR S l with
    | .error m => .error m
    | .ok rs => match bindR S e with
      | .error m => .error m
      | .ok r => .ok (rs ++ [r])
  | [], e => by
    simp only [List.nil_append, bindsR]
  | x :: l, e => by
    simp only [List.cons_append, bindsR, bindsR_snoc S l e]
    cases bindR S x with
    | error m => rfl
    | ok r =>
      cases bindsR S l with
      | error m => rfl
      | ok rs => cases bindR S e <;> rfl
theorem bindsR_append (S : List TabD) : ∀ (l m : List E), (∀ k, bindsR S l = .error k → bindsR S (l ++ m) = .error k)
  | [], m, k, h => by simp [bindsR] at h
  | x :: l, m, k, h => by
    simp only [List.cons_append, bindsR] at h ⊢
    cases hx : bindR S x with
    | error j => rw [hx] at h; exact h
    | ok r =>
      rw [hx] at h
      simp only at h ⊢
      cases hl : bindsR S l with
      | error j =>
        rw [hl] at h
        rw [bindsR_append S l m j hl]
        exact h
      | ok rs => rw [hl] at h; cases h
theorem bindsR_len (S : List TabD) : ∀ (l : List E) (rs : List (E × Int)), bindsR S l = .ok rs → rs.length = l.length
  | [], rs, h => by simp [bindsR] at h; subst h; rfl
  | x :: l, rs, h => by
    simp only [bindsR] at h
    cases hx : bindR S x with
    | error j => rw [hx] at h; cases h
    | ok r =>
      rw [hx] at h
      simp only at h
      cases hl : bindsR S l with
      | error j => rw [hl] at h; cases h
      | ok rs' =>
        rw [hl] at h
        simp only [Except.ok.injEq] at h
        subst h
        simp [bindsR_len S l rs' hl]

end Go.Proofs.Ytabanbpnghidhaa

namespace Go.Proofs.Ytabanbpnghidhaa
open Go.RowKit

theorem heap_setCells {b : Nat} {t : TypeId} {fr : Nat × Nat} : ∀ (vs old pre post : List Value) (w : World), w.heap[b]? = some (.cells (pre ++ old ++ post).toArray t fr) → old.length = vs.length → (w.setCells b pre.length vs).heap[b]? = some (.cells (pre ++ vs ++ post).toArray t fr)
  | [], old, pre, post, w, h, hl => by
    have : old = [] := List.eq_nil_of_length_eq_zero (by simpa using hl)
    subst this
    simpa [World.setCells] using h
  | v :: vs, [], pre, post, w, h, hl => by simp at hl
  | v :: vs, y :: old, pre, post, w, h, hl => by
    have h1 := set_at h pre.length v
    have e : (pre ++ (y :: old) ++ post).toArray.setIfInBounds pre.length v = ((pre ++ [v]) ++ old ++ post).toArray := by simp
    rw [e] at h1
    have := heap_setCells vs old (pre ++ [v]) post _ h1 (by simpa using hl)
    rw [World.setCells]
    simpa using this
theorem below_setCells {B g : Nat} (hB : B ≤ g) {a : World} : ∀ (vs : List Value) (o : Nat) (w : World), Below B a w → Below B a (w.setCells g o vs)
  | [], _, _, h => h
  | v :: vs, o, _, h => below_setCells hB vs (o + 1) _ (h.setCell (p := ⟨g, o, none⟩) hB v)
theorem setCells_size (g : Nat) : ∀ (vs : List Value) (o : Nat) (w : World), (w.setCells g o vs).heap.size = w.heap.size
  | [], _, _ => rfl
  | v :: vs, o, w => by rw [World.setCells, setCells_size g vs]; simp [World.setCell]
theorem setCells_block {g k : Nat} (hne : k ≠ g) : ∀ (vs : List Value) (o : Nat) (w : World), (w.setCells g o vs).heap[k]? = w.heap[k]?
  | [], _, _ => rfl
  | v :: vs, o, w => by rw [World.setCells, setCells_block hne vs, Below.heap_setCell w ⟨g, o, none⟩ v k hne]
theorem keeps_setCells {F : Nat → Prop} {g : Nat} (hg : ¬ F g) (vs : List Value) (o : Nat) (w : World) : Keeps F w (w.setCells g o vs) :=
  ⟨by rw [setCells_size]; exact Nat.le_refl _, fun k hk _ => setCells_block (by rintro rfl; exact hg hk) vs o w⟩

/-- In block g a list of n places, of which the first ones are filled. -/
def Made {α : Type} (K : Elem α) (F : Nat → Prop) (w : World) (g n : Nat) (l : List α) : Prop :=
  ∃ cs rest t, w.heap[g]? = some (.cells (cs ++ rest).toArray t) ∧ (cs ++ rest).length = n * K.size ∧ All K F w l cs
theorem made_new {α : Type} (K : Elem α) (F : Nat → Prop) {w : World} {arr : Array Value} {t : TypeId} {n : Nat} (h : arr.size = n * K.size) : Made K F (w.alloc (.cells arr t)) w.heap.size n [] :=
  ⟨[], arr.toList, t, by simpa using block_alloc_at w _, by simpa using h, rfl⟩
theorem Made.keep {α : Type} {K : Elem α} {F : Nat → Prop} {w w' : World} {g n : Nat} {l : List α} (h : Made K F w g n l) (hk : Keeps F w w') (hg : w'.heap[g]? = w.heap[g]?) : Made K F w' g n l := by
  obtain ⟨cs, rest, t, h1, h2, h3⟩ := h
  exact ⟨cs, rest, t, hg.trans h1, h2, h3.keep hk⟩
theorem Made.lt {α : Type} {K : Elem α} {F : Nat → Prop} {w : World} {g n : Nat} {l : List α} (h : Made K F w g n l) : g < w.heap.size := by
  obtain ⟨cs, rest, t, h1, _⟩ := h
  exact lt_of_block h1
theorem Made.below {α : Type} {K : Elem α} {F : Nat → Prop} {w w' : World} {g n : Nat} {l : List α} (h : Made K F w g n l) (hb : Below w.heap.size w w') : Made K F w' g n l := h.keep (keepsB hb) (hb.block g h.lt)
theorem Made.there {α : Type} {K : Elem α} {F : Nat → Prop} {w : World} {g n : Nat} {l : List α} (h : Made K F w g n l) {i : Nat} (hi : i < n) : w.there g (i * K.size) K.size := by
  obtain ⟨cs, rest, t, h1, h2, _⟩ := h
  intro j hj
  have hlt : i * K.size + j < (cs ++ rest).length := by
    rw [h2]
    have : (i + 1) * K.size ≤ n * K.size := Nat.mul_le_mul_right _ hi
    rw [Nat.add_mul] at this
    omega
  refine ⟨?_, by simp [World.frozen?, h1]⟩
  rw [cell_of_block h1 (j := i * K.size + j) (u := (cs ++ rest)[i * K.size + j]) (by simp)]
  rfl
/-- The next place is filled. -/
theorem Made.set {α : Type} {K : Elem α} {F : Nat → Prop} {w : World} {g n : Nat} {l : List α} (h : Made K F w g n l) (hl : l.length < n) (hg : ¬ F g) {a : α} {c : List Value} (hc : K.R F w a c) : Made K F (w.setCells g (l.length * K.size) c) g n (l ++ [a]) := by
  obtain ⟨cs, rest, t, h1, h2, h3⟩ := h
  have e1 := h3.length
  have e2 := K.len hc
  have hle : K.size ≤ rest.length := by
    rw [List.length_append] at h2
    have : (l.length + 1) * K.size ≤ n * K.size := Nat.mul_le_mul_right _ hl
    rw [Nat.add_mul] at this
    omega
  have hk := keeps_setCells hg c (l.length * K.size) w
  refine ⟨cs ++ c, rest.drop K.size, t, ?_, ?_, (h3.keep hk).append (All.one (K.keep hk hc))⟩
  · have h1' : w.heap[g]? = some (.cells (cs ++ rest.take K.size ++ rest.drop K.size).toArray t) := by rw [List.append_assoc, List.take_append_drop]; exact h1
    have := heap_setCells c (rest.take K.size) cs (rest.drop K.size) w h1' (by rw [List.length_take, e2]; omega)
    rwa [e1] at this
  · simp only [List.length_append, List.length_drop] at h2 ⊢
    omega
/-- A single cell. -/
theorem Made.set1 {α : Type} {K : Elem α} {F : Nat → Prop} {w : World} {g n : Nat} {l : List α} (h : Made K F w g n l) (hl : l.length < n) (hg : ¬ F g) (hK : K.size = 1) {a : α} {v : Value} (hc : K.R F w a [v]) : Made K F (w.setCell ⟨g, l.length, none⟩ v) g n (l ++ [a]) := by
  have := h.set hl hg hc
  rw [hK, Nat.mul_one] at this
  exact this
/-- All places are filled. -/
theorem Made.whole {α : Type} {K : Elem α} {F F' : Nat → Prop} {w : World} {g n : Nat} {l : List α} (h : Made K F w g n l) (hl : l.length = n) (hF : ∀ k, F k → F' k) (hg : F' g) (hn : n ≤ maxLen) : IsL K F' w (.slice (some ⟨g, 0, none⟩) n n) l := by
  obtain ⟨cs, rest, t, h1, h2, h3⟩ := h
  subst hl
  have e1 := h3.length
  have hr : rest = [] := List.eq_nil_of_length_eq_zero (by rw [List.length_append] at h2; omega)
  subst hr
  refine ⟨cs, ⟨e1, ?_⟩, h3.mono fun k _ => hF k⟩
  by_cases h0 : l.length = 0
  · exact .inl ⟨h0, _, _, by rw [h0], fun h => by cases h⟩
  · refine .inr ⟨by omega, g, 0, l.length, rfl, hg, lt_of_block h1, Nat.le_refl _, hn, fun j u hj => ?_⟩
    rw [Nat.zero_add]
    exact cell_of_block h1 (by simpa using hj)
/-- A list of whatever, made and not yet filled, has its places. -/
theorem there_cells {w : World} {g o n : Nat} (h : w.there g o n) {j : Nat} (hj : j < n) : (∃ u, w.cell? ⟨g, o + j, none⟩ = some u) ∧ w.frozen? ⟨g, o + j, none⟩ = false :=
  ⟨Option.isSome_iff_exists.1 (h j hj).1, (h j hj).2⟩

end Go.Proofs.Ytabanbpnghidhaa

namespace Go.Proofs.Ytabanbpnghidhaa
open Go.RowKit Go.Maps

/-- What bind answers. -/
def BindAns (S : List TabD) (e : E) (B : Nat) (w' : World) (v : Value) : Prop :=
  match bindR S e with
  | .error m => v = .tuple #[.agg (eArr 0 zero noW noW 0 (.slice none 0 0)), .int .i64 0, .int .i64 m]
  | .ok r => ∃ (op : Int) (x : V) (s name : Wd) (n : Int) (ao : Option Addr) (k c : Nat), v = .tuple #[.agg (eArr op x s name n (.slice ao k c)), .int .i64 r.2, .int .i64 0] ∧ IsE (Fr B) w' r.1 (.agg (eArr op x s name n (.slice ao k c)))
theorem bindAns_error {S : List TabD} {e : E} {m : Int} (h : bindR S e = .error m) {B : Nat} {w' : World} {v : Value} : BindAns S e B w' v ↔ v = .tuple #[.agg (eArr 0 zero noW noW 0 (.slice none 0 0)), .int .i64 0, .int .i64 m] := by unfold BindAns; rw [h]
theorem bindAns_ok {S : List TabD} {e : E} {r : E × Int} (h : bindR S e = .ok r) {B : Nat} {w' : World} {v : Value} : BindAns S e B w' v ↔ ∃ (op : Int) (x : V) (s name : Wd) (n : Int) (ao : Option Addr) (k c : Nat), v = .tuple #[.agg (eArr op x s name n (.slice ao k c)), .int .i64 r.2, .int .i64 0] ∧ IsE (Fr B) w' r.1 (.agg (eArr op x s name n (.slice ao k c))) := by unfold BindAns; rw [h]
mutual
theorem bindR_err (S : List TabD) : ∀ (e : E) (m : Int), bindR S e = .error m → m = 3 ∨ m = 5
  | .mk op x s name n l, m, h => by
    rw [bindR] at h
    split at h
    · cases h
    · split at h
      · split at h
        · cases h
        · exact .inl (by simpa using h.symm)
      · cases hl : bindsR S l with
        | error j =>
          rw [hl] at h
          simp only [Except.error.injEq] at h
          subst h
          exact bindsR_err S l _ hl
        | ok r =>
          rw [hl] at h
          simp only at h
          split at h
          · cases h
          · exact .inr (by simpa using h.symm)
theorem bindsR_err (S : List TabD) : ∀ (l : List E) (m : Int), bindsR S l = .error m → m = 3 ∨ m = 5
  | [], m, h => by rw [bindsR] at h; cases h
  | e :: l, m, h => by
    rw [bindsR] at h
    cases he : bindR S e with
    | error j =>
      rw [he] at h
      simp only [Except.error.injEq] at h
      subst h
      exact bindR_err S e _ he
    | ok r =>
      rw [he] at h
      simp only at h
      cases hl : bindsR S l with
      | error j =>
        rw [hl] at h
        simp only [Except.error.injEq] at h
        subst h
        exact bindsR_err S l _ hl
      | ok rs => rw [hl] at h; cases h
end
theorem bindR_lit (S : List TabD) (x : V) (s name : Wd) (n : Int) (l : List E) : bindR S (.mk 1 x s name n l) = .ok (.mk 1 x s name n l, x.k) := by rw [bindR]; rfl
theorem bindR_ref (S : List TabD) (x : V) (s name : Wd) (n : Int) (l : List E) : bindR S (.mk 2 x s name n l) = if (refAll S s name n).found = 1 then .ok (.mk 2 x s name (refAll S s name n).n l, (refAll S s name n).kind) else .error 3 := by rw [bindR]; rfl
theorem bindR_op (S : List TabD) {op : Int} (h1 : op ≠ 1) (h2 : op ≠ 2) (x : V) (s name : Wd) (n : Int) (l : List E) : bindR S (.mk op x s name n l) = match bindsR S l with
      | .error m => .error m
      | .ok r => if fitB op (r.map Prod.snd) then .ok (.mk op x s name n (r.map Prod.fst), typeI op) else .error 5 := by
  rw [bindR, if_neg h1, if_neg h2]
  all_goals (cases bindsR S l <;> rfl)

/-- What bind promises, so deep. -/
def BindSays (S : List TabD) (d : Nat) : Prop := ∀ (e : E) (v sv : Value) (C : Nat) (w : World), IsE (fun k => k < C) w e v → IsL kTab (fun k => k < C) w sv S → C ≤ w.heap.size → geB d e = true →
    Calls Try.prog 100 #[sv, v] w fun r w' => (∃ v, r = .returned v ∧ BindAns S e w.heap.size w' v) ∧ Below w.heap.size w w'

theorem isE_leaf {F : Nat → Prop} {w : World} {op : Int} {x : V} {s name : Wd} {n : Int} {ao : Option Addr} {c : Nat} (h : ao = none → c = 0) : IsE F w (.mk op x s name n []) (.agg (eArr op x s name n (.slice ao 0 c))) :=
  isE_mk ⟨[], ⟨rfl, .inl ⟨rfl, ao, c, rfl, h⟩⟩, by rw [AllE]⟩
theorem isE_leaf_cap {F : Nat → Prop} {w : World} {op : Int} {x : V} {s name : Wd} {n : Int} {ao : Option Addr} {k c : Nat} (h : IsE F w (.mk op x s name n []) (.agg (eArr op x s name n (.slice ao k c)))) : k = 0 ∧ (ao = none → c = 0) := by
  obtain ⟨sv, h1, cs, hr, _⟩ := h.open
  have h2 : sv = .slice ao k c := by simpa using (Value.agg.inj h1).symm
  subst h2
  rcases hr.2 with ⟨_, a, c', h3, h4⟩ | ⟨h0, _⟩
  · cases h3; exact ⟨rfl, h4⟩
  · simp at h0

/-- The eight cells of an expression. -/
def Cells8 (w : World) (g : Nat) (op : Int) (xk xn : Int) (xs s name : Wd) (n : Int) (sv : Value) : Prop := w.cell? ⟨g, 0, none⟩ = some (.int .i64 op) ∧ w.cell? ⟨g, 1, none⟩ = some (.int .i64 xk) ∧ w.cell? ⟨g, 2, none⟩ = some (.int .i64 xn) ∧ w.cell? ⟨g, 3, none⟩ = some (.string xs) ∧ w.cell? ⟨g, 4, none⟩ = some (.string s) ∧ w.cell? ⟨g, 5, none⟩ = some (.string name) ∧ w.cell? ⟨g, 6, none⟩ = some (.int .i64 n) ∧ w.cell? ⟨g, 7, none⟩ = some sv
theorem cells8_of {w : World} {g : Nat} {op xk xn : Int} {xs s name : Wd} {n : Int} {sv : Value} {t : TypeId} {fr : Nat × Nat} (h : w.heap[g]? = some (.cells (eArr op ⟨xk, xn, xs⟩ s name n sv) t fr)) : Cells8 w g op xk xn xs s name n sv :=
  ⟨cell_of_block h rfl, cell_of_block h rfl, cell_of_block h rfl, cell_of_block h rfl, cell_of_block h rfl, cell_of_block h rfl, cell_of_block h rfl, cell_of_block h rfl⟩
theorem cells8_two (w : World) (op xk xn : Int) (xs s name : Wd) (n : Int) (sv : Value) (t : TypeId) (o : Obj) : Cells8 ((w.alloc (.cells (eArr op ⟨xk, xn, xs⟩ s name n sv) t)).alloc o) w.heap.size op xk xn xs s name n sv := cells8_of (block_alloc_of (block_alloc_at _ _) _)
set_option maxRecDepth 100000 in
set_option maxHeartbeats 4000000 in
theorem bind_lit (S : List TabD) (sv : Value) (x : V) (s name : Wd) (n : Int) (ao : Option Addr) (c : Nat) (w : World) (hc : ao = none → c = 0) (hsv : IsSl sv) :
    Calls Try.prog 100 #[sv, .agg (eArr 1 x s name n (.slice ao 0 c))] w fun r w' => (∃ v, r = .returned v ∧ BindAns S (.mk 1 x s name n []) w.heap.size w' v) ∧ Below w.heap.size w w' := by
  obtain ⟨so, sl, sc, rfl⟩ := hsv
  obtain ⟨xk, xn, xs⟩ := x
  have hb2 := bel2 w (.cells (eArr 1 ⟨xk, xn, xs⟩ s name n (.slice ao 0 c)) 34) (.cells (eArr 0 zero noW noW 0 (.slice none 0 0)) 34)
  have hB0 : ((w.alloc (.cells (eArr 1 ⟨xk, xn, xs⟩ s name n (.slice ao 0 c)) 34)).alloc (.cells (eArr 0 zero noW noW 0 (.slice none 0 0)) 34)).heap[w.heap.size]? = some (.cells (eArr 1 ⟨xk, xn, xs⟩ s name n (.slice ao 0 c)) 34) := block_alloc_of (block_alloc_at _ _) _
  have hB1 : ((w.alloc (.cells (eArr 1 ⟨xk, xn, xs⟩ s name n (.slice ao 0 c)) 34)).alloc (.cells (eArr 0 zero noW noW 0 (.slice none 0 0)) 34)).heap[w.heap.size + 1]? = some (.cells (eArr 0 zero noW noW 0 (.slice none 0 0)) 34) := block2 _ _ _
  go_enter Try.func100, Try.ntmps100
  go_wp2_with fail
  go_region_held3 (fun w' => w'.cell? ⟨w.heap.size, 0, none⟩ = some (.int .i64 1) ∧ w'.cell? ⟨w.heap.size, 1, none⟩ = some (.int .i64 xk) ∧ w'.cell? ⟨w.heap.size, 2, none⟩ = some (.int .i64 xn) ∧ w'.cell? ⟨w.heap.size, 3, none⟩ = some (.string xs) ∧ w'.cell? ⟨w.heap.size, 4, none⟩ = some (.string s) ∧ w'.cell? ⟨w.heap.size, 5, none⟩ = some (.string name) ∧ w'.cell? ⟨w.heap.size, 6, none⟩ = some (.int .i64 n) ∧ w'.cell? ⟨w.heap.size, 7, none⟩ = some (.slice ao 0 c)) (exact cells8_two _ _ _ _ _ _ _ _ _ _ _)
    (first | fail)
  go_wp2
  exact bodyPost_ret (v := .tuple #[.agg (eArr 1 ⟨xk, xn, xs⟩ s name n (.slice ao 0 c)), .int .i64 xk, .int .i64 0]) (results_three Try.results100 _ _ (w.heap.size + 1) 34 _ _ _ _ _ rfl rfl rfl (block2 _ _ _) Try.underlying34 rfl size_expr) rfl ⟨⟨_, rfl, (bindAns_ok (bindR_lit S _ _ _ _ _)).2 ⟨1, ⟨xk, xn, xs⟩, s, name, n, ao, 0, c, rfl, isE_leaf hc⟩⟩, (bel2 _ _ _).drew⟩

set_option maxRecDepth 100000 in
set_option maxHeartbeats 4000000 in
theorem bind_ref (S : List TabD) (sv : Value) (x : V) (s name : Wd) (n : Int) (ao : Option Addr) (c C : Nat) (w : World) (hc : ao = none → c = 0) (hl : IsL kTab (fun k => k < C) w sv S) (hC : C ≤ w.heap.size) (hS : S.length ≤ 1000) (hsc : ∀ t ∈ S, t.cols.length ≤ 1000000) :
    Calls Try.prog 100 #[sv, .agg (eArr 2 x s name n (.slice ao 0 c))] w fun r w' => (∃ v, r = .returned v ∧ BindAns S (.mk 2 x s name n []) w.heap.size w' v) ∧ Below w.heap.size w w' := by
  obtain ⟨so, sc, rfl⟩ := hl.shape
  obtain ⟨xk, xn, xs⟩ := x
  have hb2 := bel2 w (.cells (eArr 2 ⟨xk, xn, xs⟩ s name n (.slice ao 0 c)) 34) (.cells (eArr 0 zero noW noW 0 (.slice none 0 0)) 34)
  have HR := bindRef_any S (.slice so S.length sc) 2 ⟨xk, xn, xs⟩ s name n ao 0 c C _ (hl.keep (keepsC (hb2.mono hC))) (Nat.le_trans hC hb2.size) hS hsc
  have hone := fun n => one_eArr 2 ⟨xk, xn, xs⟩ s name n ao 0 c
  have hone0 := one_eArr 0 zero noW noW 0 none 0 0
  have HB : Hid (bindR S (.mk 2 ⟨xk, xn, xs⟩ s name n []) = if (refAll S s name n).found = 1 then .ok (.mk 2 ⟨xk, xn, xs⟩ s name (refAll S s name n).n [], (refAll S s name n).kind) else .error 3) := bindR_ref S _ _ _ _ _
  generalize refAll S s name n = q at HR HB
  clear hl
  by_cases hf1 : q.found = 1
  · rw [refAns_one hf1] at HR
    have HB2 : Hid (bindR S (.mk 2 ⟨xk, xn, xs⟩ s name n []) = .ok (.mk 2 ⟨xk, xn, xs⟩ s name q.n [], q.kind)) := HB.out.trans (if_pos hf1)
    clear HB hf1
    go_enter Try.func100, Try.ntmps100
    go_upto_region 6 with (first | (go_at_call 115; go_fit HR; rintro e w1 ⟨rfl, hb1⟩; have hZ : w1.heap[w.heap.size + 1]? = some (.cells (eArr 0 zero noW noW 0 (.slice none 0 0)) 34) := (hb1.block _ (by simp)).trans (block2 _ _ _)) | refine wpList_store_row rfl 34 _ _ rfl (w.heap.size + 1) _ rfl rfl 34 _ hZ size_expr rfl (hone _) ?_)
    exact bodyPost_ret (v := .tuple #[.agg (eArr 2 ⟨xk, xn, xs⟩ s name q.n (.slice ao 0 c)), .int .i64 q.kind, .int .i64 0]) (results_three Try.results100 _ _ (w.heap.size + 1) 34 _ _ _ _ _ rfl rfl rfl (block_row hZ) Try.underlying34 rfl size_expr) rfl ⟨⟨_, rfl, (bindAns_ok HB2.out).2 ⟨2, ⟨xk, xn, xs⟩, s, name, q.n, ao, 0, c, rfl, isE_leaf hc⟩⟩, Below.row (bthen hb2 hb1) (by omega) _⟩
  · rw [refAns_not hf1] at HR
    have HB2 : Hid (bindR S (.mk 2 ⟨xk, xn, xs⟩ s name n []) = .error 3) := HB.out.trans (if_neg hf1)
    clear HB hf1
    go_enter Try.func100, Try.ntmps100
    go_upto_region 6 with (first | (go_at_call 115; go_fit HR; rintro e w1 ⟨rfl, hb1⟩; have hZ : w1.heap[w.heap.size + 1]? = some (.cells (eArr 0 zero noW noW 0 (.slice none 0 0)) 34) := (hb1.block _ (by simp)).trans (block2 _ _ _)) | refine wpList_store_row rfl 34 _ _ rfl (w.heap.size + 1) _ rfl rfl 34 _ hZ size_expr rfl hone0 ?_)
    exact bodyPost_ret (v := .tuple #[.agg (eArr 0 zero noW noW 0 (.slice none 0 0)), .int .i64 0, .int .i64 3]) (results_three Try.results100 _ _ (w.heap.size + 1) 34 _ _ _ _ _ rfl rfl rfl (block_row hZ) Try.underlying34 rfl size_expr) rfl ⟨⟨_, rfl, (bindAns_error HB2.out).2 rfl⟩, Below.row (bthen hb2 hb1) (by omega) _⟩

end Go.Proofs.Ytabanbpnghidhaa

namespace Go.Proofs.Ytabanbpnghidhaa
open Go.RowKit

def tAnd (a b : Int) : Int := if a = 0 ∨ b = 0 then 0 else if a = 1 ∧ b = 1 then 1 else 2
def tOr (a b : Int) : Int := if a = 1 ∨ b = 1 then 1 else if a = 0 ∧ b = 0 then 0 else 2
def tNot (a : Int) : Int := if a = 0 then 1 else if a = 1 then 0 else 2


set_option maxHeartbeats 400000 in
theorem and_any (a b : Int) (w : World) : Calls Try.prog 110 #[.int .i64 a, .int .i64 b] w fun e w' => e = .returned (.int .i64 (tAnd a b)) ∧ w' = w := by
  by_cases ha0 : a = 0 <;> by_cases hb0 : b = 0 <;> by_cases ha1 : a = 1 <;> by_cases hb1 : b = 1
  all_goals
    go_enter Try.func110, Try.ntmps110
    go_wp2
    all_goals
      go_ret
      exact ⟨ret_int (by simp_all [tAnd]), rfl⟩

set_option maxHeartbeats 400000 in
theorem or_any (a b : Int) (w : World) : Calls Try.prog 111 #[.int .i64 a, .int .i64 b] w fun e w' => e = .returned (.int .i64 (tOr a b)) ∧ w' = w := by
  by_cases ha0 : a = 0 <;> by_cases hb0 : b = 0 <;> by_cases ha1 : a = 1 <;> by_cases hb1 : b = 1
  all_goals
    go_enter Try.func111, Try.ntmps111
    go_wp2
    all_goals
      go_ret
      exact ⟨ret_int (by simp_all [tOr]), rfl⟩

set_option maxHeartbeats 400000 in
theorem not_any (a : Int) (w : World) : Calls Try.prog 107 #[.int .i64 a] w fun e w' => e = .returned (.int .i64 (tNot a)) ∧ w' = w := by
  by_cases ha0 : a = 0 <;> by_cases ha1 : a = 1
  all_goals
    go_enter Try.func107, Try.ntmps107
    go_wp2
    all_goals
      go_ret
      exact ⟨ret_int (by simp_all [tNot]), rfl⟩

end Go.Proofs.Ytabanbpnghidhaa

namespace Go.Proofs.Ytabanbpnghidhaa
open Go.RowKit

def cmpI (a b : Int) : Int := if a < b then -1 else if b < a then 1 else 0
def cmpS (a b : ByteArray) : Int := if Op.bytesLess a.toList b.toList then -1 else if a.toList == b.toList then 0 else 1
def or3 (x y z : Int) : Int := if x = 0 then if y = 0 then z else y else x
def cmpV (a b : V) : Int := or3 (cmpI a.k b.k) (cmpI a.n b.n) (cmpS a.s b.s)

set_option maxHeartbeats 400000 in
theorem cmpInt_any (a b : Int) (w : World) : Calls Try.prog 126 #[.int .i64 a, .int .i64 b] w fun e w' => e = .returned (.int .i64 (cmpI a b)) ∧ w' = w := by
  rcases (show a < b ∨ b < a ∨ a = b from by omega) with h | h | h
  · have hn : ¬ b < a := by omega
    go_enter Try.func126, Try.ntmps126
    go_wp2
    go_ret
    exact ⟨ret_int (by simp [cmpI, h]), rfl⟩
  · have hn : ¬ a < b := by omega
    have E : Hid (cmpI a b = 1) := by show cmpI a b = 1; simp [cmpI, hn, h]
    go_enter Try.func126, Try.ntmps126
    go_wp2
    go_ret
    exact ⟨ret_int E.out.symm, rfl⟩
  · subst h
    have E : Hid (cmpI a a = 0) := by show cmpI a a = 0; simp [cmpI]
    go_enter Try.func126, Try.ntmps126
    go_wp2
    go_ret
    exact ⟨ret_int E.out.symm, rfl⟩

set_option maxHeartbeats 400000 in
theorem cmpStr_any (a b : ByteArray) (w : World) : Calls Try.prog 45 #[.string a, .string b] w fun e w' => e = .returned (.int .i64 (cmpS a b)) ∧ w' = w := by
  cases h : Op.bytesLess a.toList b.toList <;> cases h2 : a.toList == b.toList
  all_goals
    have E : Hid (cmpS a b = (if Op.bytesLess a.toList b.toList then -1 else if a.toList == b.toList then 0 else 1)) := rfl
    go_enter Try.func45, Try.ntmps45
    go_wp2
    go_ret
    exact ⟨ret_int (by rw [E.out, h, h2]; rfl), rfl⟩

set_option maxHeartbeats 400000 in
theorem or_three (x y z : Int) (b c : Nat) (w : World) (h0 : w.cell? ⟨b, 0, none⟩ = some (.int .i64 x)) (h1 : w.cell? ⟨b, 1, none⟩ = some (.int .i64 y)) (h2 : w.cell? ⟨b, 2, none⟩ = some (.int .i64 z)) :
    Calls Try.prog 125 #[.slice (some ⟨b, 0, none⟩) 3 c] w fun e w' => e = .returned (.int .i64 (or3 x y z)) ∧ w' = w := by
  by_cases hx : x = 0 <;> by_cases hy : y = 0 <;> by_cases hz : z = 0
  all_goals
    have E : Hid (or3 x y z = if x = 0 then if y = 0 then z else y else x) := rfl
    go_enter Try.func125, Try.ntmps125
    go_wp2
    refine wp_loop_rounds 4 ?_
    rw [rounds_succ]
    go_wp2
    all_goals (try (rw [rounds_succ]; go_wp2))
    all_goals (try (rw [rounds_succ]; go_wp2))
    all_goals (try (rw [rounds_succ]; go_wp2))
    all_goals go_ret
    all_goals exact ⟨ret_int (by rw [E.out]; simp_all), rfl⟩

set_option maxHeartbeats 4000000 in
theorem compare_any (a b : V) (w : World) : Calls Try.prog 120 #[a.val, b.val] w fun e w' => e = .returned (.int .i64 (cmpV a b)) ∧ Below w.heap.size w w' := by
  obtain ⟨k1, n1, s1⟩ := a
  obtain ⟨k2, n2, s2⟩ := b
  show Calls Try.prog 120 #[.agg #[.int .i64 k1, .int .i64 n1, .string s1], .agg #[.int .i64 k2, .int .i64 n2, .string s2]] w _
  go_enter Try.func120, Try.ntmps120
  go_wp2
  go_region_held3 (fun w' => w'.cell? ⟨w.heap.size, 0, none⟩ = some (.int .i64 k1) ∧ w'.cell? ⟨w.heap.size, 1, none⟩ = some (.int .i64 n1) ∧ w'.cell? ⟨w.heap.size, 2, none⟩ = some (.string s1) ∧ w'.cell? ⟨w.heap.size + 1, 0, none⟩ = some (.int .i64 k2) ∧ w'.cell? ⟨w.heap.size + 1, 1, none⟩ = some (.int .i64 n2) ∧ w'.cell? ⟨w.heap.size + 1, 2, none⟩ = some (.string s2)) (go_keep)
    (first | (go_at_call 126; refine (cmpInt_any _ _ _).mono ?_; rintro e w' ⟨rfl, rfl⟩) | (go_at_call 45; refine (cmpStr_any _ _ _).mono ?_; rintro e w' ⟨rfl, rfl⟩) | (go_at_call 125; refine (or_three (cmpI k1 k2) (cmpI n1 n2) (cmpS s1 s2) _ _ _ ?_ ?_ ?_).mono ?_; (simp [go_sem]); (simp [go_sem]); (simp [go_sem]); rintro e w' ⟨rfl, rfl⟩))
  go_wp2
  go_ret
  refine ⟨rfl, ?_⟩
  repeat first | exact Below.refl _ _ | apply Below.drew | refine Below.alloc ?_ (by simp; try omega) _

end Go.Proofs.Ytabanbpnghidhaa

namespace Go.Proofs.Ytabanbpnghidhaa

/-- How many arguments an operation has. -/
def argc (op : Int) : Nat := if op = 9 ∨ op = 10 then 1 else if 3 ≤ op ∧ op ≤ 8 then 2 else 0
theorem argc_le (op : Int) : argc op ≤ 2 := by
  unfold argc
  split
  · decide
  · split <;> decide
/-- The arguments that count. -/
def kidsOf (op : Int) (l : List E) : List E := if l.length = argc op then l else []
def E.kids : E → List E
  | .mk op _ _ _ _ l => kidsOf op l
theorem kids_le (e : E) : e.kids.length ≤ 2 := by
  cases e with
  | mk op v s name n l =>
    simp only [E.kids, kidsOf]
    split
    · rename_i h; rw [h]; exact argc_le op
    · decide
/-- P5.1 -/
def ofV (v : V) : Int := if v.k = 3 then v.n % 2 else 2
def truthV (n : Int) : V := if n = 0 ∨ n = 1 then ⟨3, n, noW⟩ else zero
def whV (b : Bool) : V := ⟨3, if b then 1 else 0, noW⟩
def numV (n : Int) : V := if good ⟨1, n, noW⟩ then ⟨1, n, noW⟩ else zero
def rowV (row : List V) (n : Int) : V := if 0 ≤ n then (row[n.toNat]?).getD zero else zero
def noneV (op : Int) (x : V) (n : Int) (row : List V) : V := if op = 1 then x else if op = 2 then rowV row n else zero
def uniV (op : Int) (a : V) : V := if op = 9 then truthV (tNot (ofV a)) else if op = 10 then whV (decide (a.k = 0)) else zero
def knownV (v : V) : Bool := !decide (v.k = 0) && good v
/-- Of two known values of one kind. -/
def knV (op : Int) (a b : V) : V :=
  if op = 5 then whV (decide (cmpV a b = 0)) else if op = 6 then whV (decide (cmpV a b < 0)) else if a.k = 1 then (if op = 3 then numV (a.n + b.n) else if op = 4 then numV (a.n - b.n) else zero) else zero
def twoV (op : Int) (a b : V) : V :=
  if op = 7 then truthV (tAnd (ofV a) (ofV b)) else if op = 8 then truthV (tOr (ofV a) (ofV b)) else if knownV a = true ∧ knownV b = true ∧ a.k = b.k then knV op a b else zero
/-- What an expression comes to, by what its arguments came to. -/
def appV (op : Int) (x : V) (n : Int) (cs row : List V) : V :=
  match cs with
  | [a] => uniV op a
  | [a, b] => twoV op a b
  | _ => noneV op x n row
mutual
/-- P5.2, P5.3: what an expression comes to. -/
def ev (row : List V) : E → V
  | .mk op x _ _ n l => appV op x n (if l.length = argc op then evs row l else []) row
def evs (row : List V) : List E → List V
  | [] => []
  | e :: l => ev row e :: evs row l
end
theorem evs_map (row : List V) : ∀ l : List E, evs row l = l.map (ev row)
  | [] => by rw [evs]; rfl
  | e :: l => by rw [evs, evs_map row l]; rfl
theorem ev_kids (row : List V) (op : Int) (x : V) (s name : Wd) (n : Int) (l : List E) : ev row (.mk op x s name n l) = appV op x n ((kidsOf op l).map (ev row)) row := by
  rw [ev, kidsOf]
  split
  · rw [evs_map]
  · rfl

mutual
/-- How many there are at all. -/
def E.nodes : E → Nat
  | .mk _ _ _ _ _ l => nodesL l + 1
def nodesL : List E → Nat
  | [] => 0
  | e :: l => e.nodes + nodesL l
end
theorem nodesL_append : ∀ a b : List E, nodesL (a ++ b) = nodesL a + nodesL b
  | [], b => by simp [nodesL]
  | e :: a, b => by simp [nodesL, nodesL_append a b]; omega
theorem nodes_pos (e : E) : 0 < e.nodes := by cases e; simp [E.nodes]
theorem nodesL_len : ∀ l : List E, l.length ≤ nodesL l
  | [] => by simp [nodesL]
  | e :: l => by have := nodesL_len l; have := nodes_pos e; simp [nodesL]; omega
theorem nodes_kids (e : E) : nodesL e.kids + 1 ≤ e.nodes := by
  cases e with
  | mk op v s name n l =>
    simp only [E.kids, kidsOf, E.nodes]
    split
    · exact Nat.le_refl _
    · simp [nodesL]

/-- All that is below an expression, level by level, of which the first i are done. -/
structure Queue (e : E) (L : List E) (i : Nat) : Prop where
  eq : L = e :: (L.take i).flatMap E.kids
  le : i ≤ L.length
  few : i + nodesL (L.drop i) ≤ e.nodes
  ahead : ∀ j, j < i → j < 1 + ((L.take j).flatMap E.kids).length
  all : ∀ P : E → Prop, P e → (∀ y, P y → ∀ z ∈ y.kids, P z) → ∀ x ∈ L, P x
theorem queue_start (e : E) : Queue e [e] 0 := ⟨rfl, by simp, by simp [nodesL], fun j h => absurd h (by omega), fun P h _ x hx => by simp at hx; subst hx; exact h⟩
theorem Queue.len {e : E} {L : List E} {i : Nat} (h : Queue e L i) : L.length ≤ e.nodes := by
  have := nodesL_len (L.drop i)
  have := h.few
  rw [List.length_drop] at *
  omega
theorem Queue.step {e : E} {L : List E} {i : Nat} (h : Queue e L i) {x : E} (hx : L[i]? = some x) : Queue e (L ++ x.kids) (i + 1) := by
  have hi : i < L.length := by rw [List.getElem?_eq_some_iff] at hx; exact hx.1
  have ht : (L ++ x.kids).take (i + 1) = L.take i ++ [x] := by
    rw [List.take_append_of_le_length (by omega), List.take_add_one, hx]; rfl
  have hd : L.drop i = x :: L.drop (i + 1) := by
    rw [List.drop_eq_getElem_cons hi]
    rw [List.getElem?_eq_getElem hi] at hx
    simp at hx
    rw [hx]
  refine ⟨?_, by rw [List.length_append]; omega, ?_, fun j hj => ?_, fun P h1 h2 y hy => ?_⟩
  · rw [ht, List.flatMap_append]
    conv => lhs; rw [h.eq]
    simp
  · have h1 := h.few
    have h2 := nodes_kids x
    rw [hd] at h1
    rw [List.drop_append_of_le_length (by omega), nodesL_append]
    simp only [nodesL] at h1
    omega
  · rw [List.take_append_of_le_length (by omega)]
    rcases Nat.lt_or_eq_of_le (Nat.lt_succ_iff.mp hj) with h1 | h1
    · exact h.ahead j h1
    · subst h1
      have : L.length = 1 + ((L.take j).flatMap E.kids).length := by
        conv => lhs; rw [h.eq]
        simp; omega
      omega
  · rcases List.mem_append.1 hy with hy | hy
    · exact h.all P h1 h2 y hy
    · exact h2 x (h.all P h1 h2 x (List.mem_of_getElem? hx)) y hy
/-- Where the arguments of the i-th begin. -/
def beg (L : List E) (i : Nat) : Nat := 1 + ((L.take i).flatMap E.kids).length
theorem beg_succ {L : List E} {i : Nat} {x : E} (hx : L[i]? = some x) : beg L (i + 1) = beg L i + x.kids.length := by
  unfold beg
  rw [List.take_add_one, hx, List.flatMap_append]
  simp; omega
theorem Queue.whole {e : E} {L : List E} (h : Queue e L L.length) : beg L L.length = L.length := by
  unfold beg
  conv => rhs; rw [h.eq]
  simp; omega
theorem Queue.own {e : E} {L : List E} (h : Queue e L L.length) {i : Nat} {x : E} (hx : L[i]? = some x) : (L.drop (beg L i)).take x.kids.length = x.kids := by
  have hi : i < L.length := by rw [List.getElem?_eq_some_iff] at hx; exact hx.1
  have hL := h.eq
  rw [List.take_length] at hL
  have hd : L.drop i = x :: L.drop (i + 1) := by
    rw [List.drop_eq_getElem_cons hi]
    rw [List.getElem?_eq_getElem hi] at hx
    simp at hx
    rw [hx]
  have hsplit : L.flatMap E.kids = (L.take i).flatMap E.kids ++ (x.kids ++ (L.drop (i + 1)).flatMap E.kids) := by
    conv => lhs; rw [← List.take_append_drop i L, hd]
    simp
  conv => lhs; rw [hL]
  rw [show beg (e :: L.flatMap E.kids) i = ((L.take i).flatMap E.kids).length + 1 from by
    unfold beg
    rw [← hL]; omega]
  rw [List.drop_succ_cons, hsplit, List.drop_left, List.take_left]
theorem Queue.behind {e : E} {L : List E} (h : Queue e L L.length) {i : Nat} (hi : i < L.length) : i < beg L i := h.ahead i hi
theorem Queue.at {e : E} {L : List E} (h : Queue e L L.length) {i : Nat} {x : E} (hx : L[i]? = some x) {j : Nat} {y : E} (hy : x.kids[j]? = some y) : L[beg L i + j]? = some y := by
  rw [← h.own hx, List.getElem?_take] at hy
  split at hy
  · rwa [List.getElem?_drop] at hy
  · cases hy
theorem Queue.beg_le {e : E} {L : List E} (h : Queue e L L.length) (i : Nat) : beg L i ≤ L.length := by
  rw [← h.whole]
  unfold beg
  rw [List.take_length]
  conv => rhs; rw [← List.take_append_drop i L]
  rw [List.flatMap_append, List.length_append]
  omega
theorem Queue.first {e : E} {L : List E} {i : Nat} (h : Queue e L i) : L[0]? = some e := by rw [h.eq]; rfl

end Go.Proofs.Ytabanbpnghidhaa

namespace Go.Proofs.Ytabanbpnghidhaa

/-- A value of a type, or nothing. -/
def OfTy (ty : Int) (v : V) : Prop := (v.k = 0 ∨ v.k = ty) ∧ (v.k ≠ 3 → good v = true)
/-- A row of columns. -/
def RowOf (cs : List ColD) (row : List V) : Prop := row.length = cs.length ∧ ∀ (i : Nat) (c : ColD) (v : V), cs[i]? = some c → row[i]? = some v → good v = true ∧ (v.k = 0 ∨ v.k = c.ty)
def colsOf (S : List TabD) : List ColD := S.flatMap TabD.cols

theorem good_zero : good zero = true := rfl
theorem ofTy_zero (ty : Int) : OfTy ty zero := ⟨.inl rfl, fun _ => good_zero⟩
theorem ofTy_truth (n : Int) : OfTy 3 (truthV n) := by
  unfold truthV
  split
  · exact ⟨.inr rfl, fun h => absurd rfl h⟩
  · exact ofTy_zero 3
theorem ofTy_wh (b : Bool) : OfTy 3 (whV b) := ⟨.inr rfl, fun h => absurd rfl h⟩
theorem ofTy_num (n : Int) : OfTy 1 (numV n) := by
  unfold numV
  split
  · rename_i h; exact ⟨.inr rfl, fun _ => h⟩
  · exact ofTy_zero 1

theorem ofTy_uni {op : Int} (h : op = 9 ∨ op = 10) (a : V) : OfTy (typeI op) (uniV op a) := by
  rcases h with rfl | rfl
  · exact ofTy_truth _
  · exact ofTy_wh _
theorem ofTy_two {op : Int} (h : 3 ≤ op ∧ op ≤ 8) (a b : V) : OfTy (typeI op) (twoV op a b) := by
  rcases (show op = 3 ∨ op = 4 ∨ op = 5 ∨ op = 6 ∨ op = 7 ∨ op = 8 by omega) with rfl | rfl | rfl | rfl | rfl | rfl
  · show OfTy 1 (if _ then (if a.k = 1 then numV (a.n + b.n) else zero) else zero)
    split
    · split
      · exact ofTy_num _
      · exact ofTy_zero _
    · exact ofTy_zero _
  · show OfTy 1 (if _ then (if a.k = 1 then numV (a.n - b.n) else zero) else zero)
    split
    · split
      · exact ofTy_num _
      · exact ofTy_zero _
    · exact ofTy_zero _
  · show OfTy 3 (if _ then whV _ else zero)
    split
    · exact ofTy_wh _
    · exact ofTy_zero _
  · show OfTy 3 (if _ then whV _ else zero)
    split
    · exact ofTy_wh _
    · exact ofTy_zero _
  · exact ofTy_truth _
  · exact ofTy_truth _

theorem refInv (s name : Wd) (n : Int) : ∀ (S P : List TabD) (r : RefS), r.ahead = (colsOf P).length → (r.found ≠ 0 → ∃ (i : Nat) (c : ColD), r.n = (i : Int) ∧ (colsOf P)[i]? = some c ∧ r.kind = c.ty) →
    (S.foldl (refStep s name) r).found ≠ 0 → ∃ (i : Nat) (c : ColD), (S.foldl (refStep s name) r).n = (i : Int) ∧ (colsOf (P ++ S))[i]? = some c ∧ (S.foldl (refStep s name) r).kind = c.ty
  | [], P, r, _, h2, h3 => by simpa using h2 h3
  | t :: S, P, r, h1, h2, h3 => by
    have e1 : colsOf (P ++ [t]) = colsOf P ++ t.cols := by simp [colsOf]
    have hc : P ++ t :: S = (P ++ [t]) ++ S := by simp
    rw [hc]
    refine refInv s name n S (P ++ [t]) (refStep s name r t) ?_ ?_ h3
    · rw [e1, List.length_append, refStep, h1]
    · intro hf
      rw [e1]
      by_cases hh : hitB t s name = true
      · have hh' := hh
        simp only [hitB, Bool.and_eq_true, decide_eq_true_eq] at hh'
        rcases colAt_cases t.cols name with hm | ⟨k, x, hk1, hk2, _⟩
        · rw [hm] at hh'; omega
        · refine ⟨(colsOf P).length + k, x, ?_, ?_, ?_⟩
          · simp only [refStep, hh, if_true, hk1, h1]; omega
          · rw [List.getElem?_append_right (by omega)]
            simpa using hk2
          · simp [refStep, hh, hk1, hk2]
      · simp only [refStep, hh] at hf ⊢
        obtain ⟨i, c, q1, q2, q3⟩ := h2 (by simpa using hf)
        refine ⟨i, c, by simpa using q1, ?_, by simpa using q3⟩
        rw [List.getElem?_append_left (List.getElem?_eq_some_iff.1 q2).1]
        exact q2

theorem refAll_found {S : List TabD} {s name : Wd} {n : Int} (h : (refAll S s name n).found = 1) : ∃ (i : Nat) (c : ColD), (refAll S s name n).n = (i : Int) ∧ (colsOf S)[i]? = some c ∧ (refAll S s name n).kind = c.ty := by
  have := refInv s name n S [] ⟨0, 0, n, 0⟩ rfl (fun h => absurd rfl h) (by unfold refAll at h; omega)
  simpa [refAll] using this

/-- What is bound comes to its type, or to nothing. -/
theorem type_sound {S : List TabD} {row : List V} (hr : RowOf (colsOf S) row) {d : Nat} {e : E} {r : E × Int} (hb : bindR S e = .ok r) (hg : geB d e = true) : OfTy r.2 (ev row r.1) := by
  obtain ⟨op, x, s, name, n, l⟩ := e
  cases d with
  | zero => simp [geB] at hg
  | succ d =>
    simp only [geB, Bool.and_eq_true, decide_eq_true_eq] at hg
    obtain ⟨⟨hlen, hleaf⟩, _⟩ := hg
    by_cases h1 : op = 1
    · subst h1
      rw [bindR_lit] at hb
      obtain rfl := Except.ok.inj hb
      have hl : l = [] := List.eq_nil_of_length_eq_zero (by simp [argS] at hlen; simpa using hlen)
      subst hl
      have hx : good x = true := by simpa [leafB] using hleaf
      exact ⟨.inr rfl, fun _ => hx⟩
    · by_cases h2 : op = 2
      · subst h2
        rw [bindR_ref] at hb
        have hl : l = [] := List.eq_nil_of_length_eq_zero (by simp [argS] at hlen; simpa using hlen)
        subst hl
        by_cases hf : (refAll S s name n).found = 1
        · rw [if_pos hf] at hb
          obtain rfl := Except.ok.inj hb
          obtain ⟨i, c, q1, q2, q3⟩ := refAll_found hf
          have hi : i < row.length := by rw [hr.1]; exact (List.getElem?_eq_some_iff.1 q2).1
          have hv := hr.2 i c row[i] q2 (List.getElem?_eq_getElem hi)
          have he : ev row (.mk 2 x s name (refAll S s name n).n []) = row[i] := by
            rw [ev, q1, if_pos (by rfl), evs]
            simp [appV, noneV, rowV, hi]
          simp only [he]
          exact ⟨by rw [q3]; exact hv.2, fun _ => hv.1⟩
        · rw [if_neg hf] at hb; cases hb
      · rw [bindR_op S h1 h2] at hb
        cases hbs : bindsR S l with
        | error m => rw [hbs] at hb; cases hb
        | ok rs =>
          rw [hbs] at hb
          simp only at hb
          have hle := bindsR_len S l rs hbs
          split at hb
          · obtain rfl := Except.ok.inj hb
            simp only
            rw [ev_kids]
            have ha : (op = 9 ∨ op = 10) ∨ (3 ≤ op ∧ op ≤ 8) := by
              simp only [argS, h1, h2] at hlen
              by_cases q : op = 9 ∨ op = 10
              · exact .inl q
              · by_cases q2 : 3 ≤ op ∧ op ≤ 8
                · exact .inr q2
                · simp [q, q2] at hlen
            rcases ha with ha | ha
            · have hl1 : l.length = 1 := by simp [argS, h1, h2, ha] at hlen; omega
              have hk : (kidsOf op (rs.map Prod.fst)) = rs.map Prod.fst := by
                unfold kidsOf
                rw [if_pos]
                rw [List.length_map, hle, hl1, argc, if_pos ha]
              rw [hk]
              obtain ⟨a, rfl⟩ : ∃ a, rs = [a] := List.length_eq_one_iff.1 (hle.trans hl1)
              exact ofTy_uni ha _
            · have hn9 : ¬ (op = 9 ∨ op = 10) := by omega
              have hl1 : l.length = 2 := by simp [argS, h1, h2, hn9, ha] at hlen; omega
              have hk : (kidsOf op (rs.map Prod.fst)) = rs.map Prod.fst := by
                unfold kidsOf
                rw [if_pos]
                rw [List.length_map, hle, hl1, argc, if_neg hn9, if_pos ha]
              rw [hk]
              obtain ⟨a, b, rfl⟩ : ∃ a b, rs = [a, b] := by
                have h2 := hle.trans hl1
                match rs, h2 with
                | [a, b], _ => exact ⟨a, b, rfl⟩
              exact ofTy_two ha _ _
          · cases hb

end Go.Proofs.Ytabanbpnghidhaa

