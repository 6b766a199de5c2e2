/-
  6 texts of this proof in one, in build order: YFit, YRef, YBindM, WWith2, YMade, YBind.
-/
import Derived.Deep.MidRow
import Derived.Laws.MakeOwn
import Derived.Test.YtabanbpnghidhaaJ05
import Derived.Test.YtabanbpnghidhaaJ06
namespace Go.Proofs.Ytabanbpnghidhaa
open Go.RowKit Go.Maps

def countsB (k want : Int) : Bool := decide (k = want) || decide (k = 0)
def typeI (op : Int) : Int := if op = 3 ∨ op = 4 then 1 else 3
def allB (ts : List Int) (want : Int) : Bool := ts.all fun k => countsB k want
/-- May an operation have arguments of such types? -/
def fitB (op : Int) (ts : List Int) : Bool :=
  if op = 3 ∨ op = 4 then allB ts 1 else if op = 5 ∨ op = 6 then allB ts 1 || allB ts 2 else if op = 7 ∨ op = 8 ∨ op = 9 then allB ts 3 else true

set_option maxHeartbeats 400000 in
theorem countsAs_any (k want : Int) (w : World) : Calls Try.prog 114 #[.int .i64 k, .int .i64 want] w fun e w' => e = .returned (.bool (countsB k want)) ∧ w' = w := by
  by_cases h1 : k = want <;> by_cases h2 : k = 0
  all_goals
    go_enter Try.func114, Try.ntmps114
    go_wp2
    go_ret
    exact ⟨ret_bool (by simp_all [countsB]), rfl⟩
set_option maxHeartbeats 400000 in
theorem typeOf_any (op : Int) (w : World) : Calls Try.prog 117 #[.int .i64 op] w fun e w' => e = .returned (.int .i64 (typeI op)) ∧ w' = w := by
  by_cases h1 : op = 3
  · subst h1
    go_enter Try.func117, Try.ntmps117
    go_wp2
    go_ret
    exact ⟨rfl, rfl⟩
  by_cases h2 : op = 4
  · subst h2
    go_enter Try.func117, Try.ntmps117
    go_wp2
    go_ret
    exact ⟨rfl, rfl⟩
  have E : Hid (typeI op = 3) := by show _ = _; simp [typeI, h1, h2]
  have e3 : (op == 3) = false := by simpa using h1
  have e4 : (op == 4) = false := by simpa using h2
  go_enter Try.func117, Try.ntmps117
  go_wp2
  go_ret
  exact ⟨ret_int (by rw [E.out]), rfl⟩

set_option maxHeartbeats 1000000 in
theorem fit11_any (k want : Int) (pb : Nat) (w : World) (hp : w.cell? ⟨pb, 0, none⟩ = some (.int .i64 want)) : Calls Try.prog 124 #[.int .i64 k, .pointer (some ⟨pb, 0, none⟩)] w fun e w' => e = .returned (.bool (!countsB k want)) ∧ w' = w := by
  have HC := fun w => countsAs_any k want w
  generalize countsB k want = b at HC
  go_enter Try.func124, Try.ntmps124
  go_wp2_with (go_at_call 114; go_fit (HC _); rintro e w1 ⟨rfl, rfl⟩)
  go_ret
  exact ⟨rfl, rfl⟩

set_option maxRecDepth 100000 in
set_option maxHeartbeats 1000000 in
theorem fit1_any (ts : List Int) (tv : Value) (want : Int) (pb : Nat) (F : Nat → Prop) (w : World) (hl : IsL kNum F w tv ts) (hp : w.cell? ⟨pb, 0, none⟩ = some tv) (hpb : pb < w.heap.size) :
    Calls Try.prog 122 #[.int .i64 want, .pointer (some ⟨pb, 0, none⟩)] w fun e w' => e = .returned (.bool (allB ts want)) ∧ Below w.heap.size w w' := by
  obtain ⟨ao, c, rfl⟩ := hl.shape
  have hbx := bel1 w (.cells #[.int .i64 want] 3)
  have hp1 := (hbx.cell (p := ⟨pb, 0, none⟩) hpb).trans hp
  have hbl : (w.alloc (.cells #[.int .i64 want] 3)).heap[w.heap.size]? = some (.cells #[.int .i64 want] 3) := block_alloc_at _ _
  have HC := contains_fit ts F ao ts.length c (.pointer (some ⟨w.heap.size, 0, none⟩)) (atI ts fun k => !countsB k want) (fun _ W => W = w.alloc (.cells #[.int .i64 want] 3)) (fun W => W = w.alloc (.cells #[.int .i64 want] 3)) _ (fun i W h => h)
    (fun i W h => by rw [h]; exact hl.keep (keepsB hbx))
    (by
      rintro i x cs W hx rfl rfl
      refine (fit11_any x want w.heap.size _ (cell_of_block hbl rfl)).mono ?_
      rintro e W' ⟨rfl, rfl⟩
      exact ⟨by rw [atI_get hx], rfl, fun _ => rfl⟩)
    rfl
  rw [anyI_list] at HC
  have E : Hid (allB ts want = !ts.any fun k => !countsB k want) := by show _ = _; rw [allB, List.all_eq_not_any_not]
  generalize allB ts want = r at E
  generalize (ts.any fun k => !countsB k want) = q at HC E
  clear hl
  go_enter Try.func122, Try.ntmps122
  go_wp2_with (go_at_call 123; go_fit HC; rintro e w1 ⟨rfl, rfl⟩)
  go_ret
  exact ⟨ret_bool (by rw [E.out]), hbx⟩

set_option maxRecDepth 100000 in
set_option maxHeartbeats 2000000 in
theorem fit_any (op : Int) (ts : List Int) (tv : Value) (F : Nat → Prop) (w : World) (hl : IsL kNum F w tv ts) :
    Calls Try.prog 116 #[.int .i64 op, tv] w fun e w' => e = .returned (.bool (fitB op ts)) ∧ Below w.heap.size w w' := by
  obtain ⟨ao, c, rfl⟩ := hl.shape
  have hbx := bel1 w (.cells #[.slice ao ts.length c] 142)
  have hbl : (w.alloc (.cells #[.slice ao ts.length c] 142)).heap[w.heap.size]? = some (.cells #[.slice ao ts.length c] 142) := block_alloc_at _ _
  have H := fun (want : Int) (W : World) (h : Below (w.alloc (.cells #[.slice ao ts.length c] 142)).heap.size (w.alloc (.cells #[.slice ao ts.length c] 142)) W) => fit1_any ts (.slice ao ts.length c) want w.heap.size F W ((hl.keep (keepsB hbx)).keep (keepsB h)) ((h.cell (p := ⟨w.heap.size, 0, none⟩) (by simp)).trans (cell_of_block hbl rfl)) (Nat.lt_of_lt_of_le (by simp) h.size)
  have E : Hid (fitB op ts = if op = 3 ∨ op = 4 then allB ts 1 else if op = 5 ∨ op = 6 then allB ts 1 || allB ts 2 else if op = 7 ∨ op = 8 ∨ op = 9 then allB ts 3 else true) := rfl
  generalize fitB op ts = r at E
  have H1 := H 1
  have H2 := H 2
  have H3 := H 3
  clear H hl
  generalize allB ts 1 = b1 at H1 E
  generalize allB ts 2 = b2 at H2 E
  generalize allB ts 3 = b3 at H3 E
  by_cases h34 : op = 3 ∨ op = 4
  · have E2 : Hid (r = b1) := by show _ = _; rw [E.out, if_pos h34]
    clear E
    rcases h34 with rfl | rfl
    all_goals
      go_enter Try.func116, Try.ntmps116
      go_wp2_with (go_at_call_of 122 (Value.int .i64 1); go_fit (H1 _ (Below.refl _ _)); rintro e w1 ⟨rfl, hb1⟩)
      go_ret
      exact ⟨ret_bool (by rw [E2.out]), bthen hbx hb1⟩
  by_cases h56 : op = 5 ∨ op = 6
  · have E2 : Hid (r = (b1 || b2)) := by show _ = _; rw [E.out, if_neg h34, if_pos h56]
    clear E h34
    cases b1
    · rcases h56 with rfl | rfl
      all_goals
        go_enter Try.func116, Try.ntmps116
        go_wp2_with (first | (go_at_call_of 122 (Value.int .i64 1); go_fit (H1 _ (Below.refl _ _)); rintro e w1 ⟨rfl, hb1⟩) | (go_at_call_of 122 (Value.int .i64 2); go_fit (H2 _ hb1); rintro e w2 ⟨rfl, hb2⟩))
        go_ret
        exact ⟨ret_bool (by rw [E2.out]; rfl), bthen hbx (bthen hb1 hb2)⟩
    · rcases h56 with rfl | rfl
      all_goals
        go_enter Try.func116, Try.ntmps116
        go_wp2_with (go_at_call_of 122 (Value.int .i64 1); go_fit (H1 _ (Below.refl _ _)); rintro e w1 ⟨rfl, hb1⟩)
        go_ret
        exact ⟨ret_bool (by rw [E2.out]; rfl), bthen hbx hb1⟩
  by_cases h79 : op = 7 ∨ op = 8 ∨ op = 9
  · have E2 : Hid (r = b3) := by show _ = _; rw [E.out, if_neg h34, if_neg h56, if_pos h79]
    clear E h34 h56
    rcases h79 with rfl | rfl | rfl
    all_goals
      go_enter Try.func116, Try.ntmps116
      go_wp2_with (go_at_call_of 122 (Value.int .i64 3); go_fit (H3 _ (Below.refl _ _)); rintro e w1 ⟨rfl, hb1⟩)
      go_ret
      exact ⟨ret_bool (by rw [E2.out]), bthen hbx hb1⟩
  have E2 : Hid (r = true) := by show _ = _; rw [E.out, if_neg h34, if_neg h56, if_neg h79]
  have e3 : (op == 3) = false := by simp; omega
  have e4 : (op == 4) = false := by simp; omega
  have e5 : (op == 5) = false := by simp; omega
  have e6 : (op == 6) = false := by simp; omega
  have e7 : (op == 7) = false := by simp; omega
  have e8 : (op == 8) = false := by simp; omega
  have e9 : (op == 9) = false := by simp; omega
  clear H1 H2 H3 E h34 h56 h79
  go_enter Try.func116, Try.ntmps116
  go_wp2_with fail
  go_ret
  exact ⟨ret_bool (by rw [E2.out]), hbx⟩

end Go.Proofs.Ytabanbpnghidhaa

namespace Go.Proofs.Ytabanbpnghidhaa
open Go.RowKit Go.Maps

/-- What has been found of a column: how many, its type, its place, how many columns there were. -/
structure RefS where
  found : Nat
  kind : Int
  n : Int
  ahead : Nat
def hitB (t : TabD) (s name : Wd) : Bool := decide (0 ≤ colAt t.cols name) && (decide (s.size = 0) || decide (s = t.name))
def refStep (s name : Wd) (r : RefS) (t : TabD) : RefS :=
  ⟨if hitB t s name then r.found + 1 else r.found, if hitB t s name then ((t.cols[(colAt t.cols name).toNat]?).map ColD.ty).getD 0 else r.kind, if hitB t s name then (r.ahead : Int) + colAt t.cols name else r.n, r.ahead + t.cols.length⟩
def refAll (S : List TabD) (s name : Wd) (n : Int) : RefS := S.foldl (refStep s name) ⟨0, 0, n, 0⟩
theorem refAll_snoc (S : List TabD) (t : TabD) (s name : Wd) (n : Int) : refAll (S ++ [t]) s name n = refStep s name (refAll S s name n) t := by simp [refAll]
theorem colAt_cases (l : List ColD) (s : Wd) : colAt l s = -1 ∨ ∃ (k : Nat) (x : ColD), colAt l s = (k : Int) ∧ l[k]? = some x ∧ x.name = s := by
  rcases find_cases l (fun x => decide (x.name = s)) with ⟨h1, _⟩ | ⟨k, x, h1, h2, h3, _⟩
  · exact .inl h1
  · exact .inr ⟨k, x, h1, h2, by simpa using h3⟩

theorem wrap_small {a : Int} (h : 0 ≤ a) (h2 : a ≤ 4000000000) : IntKind.i64.wrap a = a := by rw [IntKind.wrap_i64]; omega
theorem wrap64_small {a : Int} (h : 0 ≤ a) (h2 : a ≤ 4000000000) : wrap64 a = a := by unfold wrap64; omega
/-- Three results, of which the first lies in a block. -/
theorem results_three {P : Program} {fn : Func} {p q r : Tmp} {ty : TypeId} (h : fn.results = #[.cell p ty, .tmp q, .tmp r]) (tmps : Array Value) (w : World) (g : Nat) (t : TypeId) (cs : Array Value) (fr : Nat × Nat) (d : TypeDesc) (v u : Value)
    (hp : tmps.getD p undef = .pointer (some ⟨g, 0, none⟩)) (hq : tmps.getD q undef = v) (hr : tmps.getD r undef = u) (hg : w.heap[g]? = some (.cells cs t fr))
    (hu : P.underlying ty = some d) (hd : (match d with | .struct _ | .array _ _ => true | _ => false) = true) (hi : (P.info? ty).map (·.size) = some cs.size) :
    (results fn tmps).run P w = .ok (.tuple #[.agg cs, v, u]) w := by
  have hp' : tmps[p]?.getD undef = .pointer (some ⟨g, 0, none⟩) := by simpa using hp
  have hq' : tmps[q]?.getD undef = v := by simpa using hq
  have hr' : tmps[r]?.getD undef = u := by simpa using hr
  simp [results, h, hp', hq', hr', asAddr, run_loadVar_row w g t ty cs fr d hg hu hd hi]
theorem size_expr : (Try.prog.info? 34).map (·.size) = some 8 := by kernel_rfl
theorem one_eArr (op : Int) (x : V) (s name : Wd) (n : Int) (ao : Option Addr) (k c : Nat) : (eArr op x s name n (.slice ao k c)).all (·.oneCell') = true := by simp [Value.oneCell']

/-- What bindRef answers. -/
def refAns (op : Int) (x : V) (s name : Wd) (ao : Option Addr) (k c : Nat) (r : RefS) : Value :=
  if r.found = 1 then .tuple #[.agg (eArr op x s name r.n (.slice ao k c)), .int .i64 r.kind, .int .i64 0] else .tuple #[.agg (eArr 0 zero noW noW 0 (.slice none 0 0)), .int .i64 0, .int .i64 3]
theorem refAns_one {op : Int} {x : V} {s name : Wd} {ao : Option Addr} {k c : Nat} {r : RefS} (h : r.found = 1) : refAns op x s name ao k c r = .tuple #[.agg (eArr op x s name r.n (.slice ao k c)), .int .i64 r.kind, .int .i64 0] := if_pos h
theorem refAns_not {op : Int} {x : V} {s name : Wd} {ao : Option Addr} {k c : Nat} {r : RefS} (h : ¬ r.found = 1) : refAns op x s name ao k c r = .tuple #[.agg (eArr 0 zero noW noW 0 (.slice none 0 0)), .int .i64 0, .int .i64 3] := if_neg h

set_option maxRecDepth 100000 in
set_option maxHeartbeats 4000000 in
theorem bindRef_any (S : List TabD) (sv : Value) (op : Int) (x : V) (s name : Wd) (n : Int) (ao : Option Addr) (k c : Nat) (C : Nat) (w : World) (hl : IsL kTab (fun k => k < C) w sv S) (hC : C ≤ w.heap.size) (hS : S.length ≤ 1000) (hsc : ∀ t ∈ S, t.cols.length ≤ 1000000) :
    Calls Try.prog 115 #[sv, .agg (eArr op x s name n (.slice ao k c))] w fun e w' => e = .returned (refAns op x s name ao k c (refAll S s name n)) ∧ Below w.heap.size w w' := by
  obtain ⟨so, sc, rfl⟩ := hl.shape
  obtain ⟨xk, xn, xs⟩ := x
  have hb2 := bel2 w (.cells (eArr op ⟨xk, xn, xs⟩ s name n (.slice ao k c)) 34) (.cells (eArr 0 zero noW noW 0 (.slice none 0 0)) 34)
  have hB0 : ((w.alloc (.cells (eArr op ⟨xk, xn, xs⟩ s name n (.slice ao k c)) 34)).alloc (.cells (eArr 0 zero noW noW 0 (.slice none 0 0)) 34)).heap[w.heap.size]? = some (.cells (eArr op ⟨xk, xn, xs⟩ s name n (.slice ao k c)) 34) := block_alloc_of (block_alloc_at _ _) _
  have hB1 : ((w.alloc (.cells (eArr op ⟨xk, xn, xs⟩ s name n (.slice ao k c)) 34)).alloc (.cells (eArr 0 zero noW noW 0 (.slice none 0 0)) 34)).heap[w.heap.size + 1]? = some (.cells (eArr 0 zero noW noW 0 (.slice none 0 0)) 34) := block2 _ _ _
  generalize hr : refAns op ⟨xk, xn, xs⟩ s name ao k c (refAll S s name n) = R
  have HR : Hid (refAns op ⟨xk, xn, xs⟩ s name ao k c (refAll S s name n) = R) := hr
  clear hr
  go_enter Try.func115, Try.ntmps115
  go_wp2
  go_loopw [7, 8, 9, 15] (fun fv kv av i wr => ∃ (j : Nat) (q : RefS), j ≤ S.length ∧ i = .int .i64 j ∧ fv = .int .i64 (q.found : Nat) ∧ kv = .int .i64 q.kind ∧ av = .int .i64 (q.ahead : Nat) ∧ Hid (refAll (S.take j) s name n = q) ∧ q.found ≤ j ∧ q.ahead ≤ j * 1000000 ∧ wr.heap[w.heap.size]? = some (.cells (eArr op ⟨xk, xn, xs⟩ s name q.n (.slice ao k c)) 34) ∧ wr.heap[w.heap.size + 1]? = some (.cells (eArr 0 zero noW noW 0 (.slice none 0 0)) 34) ∧ Below w.heap.size w wr) (fun _ _ _ i _ => S.length - (intOf i).toNat)
  case atStart => exact ⟨0, ⟨0, 0, n, 0⟩, Nat.zero_le _, rfl, rfl, rfl, rfl, rfl, Nat.le_refl _, by simp, hB0, hB1, hb2⟩
  case round =>
    obtain ⟨j, q, hj, rfl, rfl, rfl, rfl, HQ, hq1, hq2, hE, hZ, hbel⟩ := hrel
    clear hB0 hB1
    have hlt0 := lt_of_block hE
    have hlt1 := lt_of_block hZ
    by_cases hjl : j < S.length
    · obtain ⟨t, ht⟩ : ∃ t, S[j]? = some t := ⟨_, List.getElem?_eq_getElem hjl⟩
      have hst : Hid (refAll (S.take (j + 1)) s name n = refStep s name q t) := by
        show _ = _
        rw [List.take_add_one, ht]
        exact (refAll_snoc _ _ _ _ _).trans (by rw [HQ.out])
      have htc := hsc t (List.mem_of_getElem? ht)
      obtain ⟨b, off, cs, rfl, hbC, hb, ⟨cv, rfl, hcv⟩, hcell⟩ := isL_get (hl.keep (keepsC (hbel.mono hC))) ht
      obtain ⟨co, cc, rfl⟩ := hcv.shape
      have d0 := hcell 0 _ rfl
      have d1 := hcell 1 _ rfl
      simp only [kTab, Nat.add_zero] at d0 d1
      have j0 : (0 : Int) ≤ (j : Int) := by omega
      have j1 : (j : Int) < (S.length : Int) := by omega
      have e2 := cell_of_block hE (j := 4) rfl
      have e3 := cell_of_block hE (j := 5) rfl
      have hbx := bel1 wr (.cells #[.string t.name, .slice co t.cols.length cc] 43)
      have HF := findCol_any t.cols t.name (.slice co t.cols.length cc) name C _ (hcv.keep (keepsC (hbx.mono (Nat.le_trans hC hbel.size)))) (Nat.le_trans (Nat.le_trans hC hbel.size) hbx.size)
      clear hcell ht
      go_upto_region 6 with (go_at_call 11; go_fit HF; rintro e w1 ⟨rfl, hb1⟩)
      have hbT := bthen hbx hb1
      have hbw1 : Below w.heap.size w w1 := hbel.trans (hbT.mono hbel.size)
      have hE1 := (hbT.block _ hlt0).trans hE
      have hZ1 := (hbT.block _ hlt1).trans hZ
      have hT1 : w1.heap[wr.heap.size]? = some (.cells #[.string t.name, .slice co t.cols.length cc] 43) := (hb1.block _ (by simp)).trans (block_alloc_at _ _)
      have g4 := cell_of_block hE1 (j := 4) rfl
      have t0 := cell_of_block hT1 (j := 0) rfl
      have t1 := cell_of_block hT1 (j := 1) rfl
      have w3 : wrap64 ((q.ahead : Int) + (t.cols.length : Int)) = (q.ahead : Int) + (t.cols.length : Int) := by unfold wrap64; omega
      have HST0 : Hid (refStep s name q t = ⟨if hitB t s name then q.found + 1 else q.found, if hitB t s name then ((t.cols[(colAt t.cols name).toNat]?).map ColD.ty).getD 0 else q.kind, if hitB t s name then (q.ahead : Int) + colAt t.cols name else q.n, q.ahead + t.cols.length⟩) := rfl
      have HIT : Hid (hitB t s name = (decide (0 ≤ colAt t.cols name) && (s.toList.isEmpty || (s.toList == t.name.toList)))) := by show _ = _; rw [hitB, empty_iff, beq_str]
      have HM : hitB t s name = false → refStep s name q t = ⟨q.found, q.kind, q.n, q.ahead + t.cols.length⟩ := fun h => by rw [HST0.out, h]; rfl
      by_cases hneg : colAt t.cols name = -1
      · have HST : Hid (refStep s name q t = ⟨q.found, q.kind, q.n, q.ahead + t.cols.length⟩) := HM (by rw [HIT.out, hneg]; rfl)
        rw [hneg]
        clear HF HM HIT HST0 hneg
        generalize refStep s name q t = q' at hst HST
        have hst2 : Hid (refAll (S.take (j + 1)) s name n = ⟨q.found, q.kind, q.n, q.ahead + t.cols.length⟩) := hst.out.trans HST.out
        go_wp2_with fail
        go_roundw
        case rel => exact ⟨j + 1, ⟨q.found, q.kind, q.n, q.ahead + t.cols.length⟩, by omega, by go_num, rfl, rfl, by simp, hst2, by simp only; omega, by simp only; omega, hE1, hZ1, hbw1⟩
        case measure => (try clear q4); (try clear w3); simp [intOf]; omega
      · obtain ⟨kk, x, hk1, hk2, _⟩ : ∃ (k : Nat) (x : ColD), colAt t.cols name = (k : Int) ∧ t.cols[k]? = some x ∧ x.name = name := by
          rcases colAt_cases t.cols name with h | h
          · exact absurd h hneg
          · exact h
        rw [hk1]
        rw [hk1] at HIT
        have hkl : kk < t.cols.length := (List.getElem?_eq_some_iff.1 hk2).1
        obtain ⟨cb, cof, ccs, rfl, hcbC, hcb, hcR, hccell⟩ := isL_get (hcv.keep (keepsC (hbT.mono (Nat.le_trans hC hbel.size)))) hk2
        obtain rfl := hcR
        have c1 := hccell 1 _ rfl
        simp only [kCol] at c1
        have q0 : (0 : Int) ≤ (kk : Int) := by omega
        have q1 : (kk : Int) < (t.cols.length : Int) := by omega
        have q4 : IntKind.i64.wrap ((q.ahead : Int) + (kk : Int)) = (q.ahead : Int) + (kk : Int) := wrap_small (by omega) (by omega)
        have HH : hitB t s name = true → refStep s name q t = ⟨q.found + 1, x.ty, (q.ahead : Int) + (kk : Int), q.ahead + t.cols.length⟩ := fun h => by
          rw [HST0.out, h, hk1]
          simp [hk2]
        have g6 := cell_of_block hE1 (j := 6) rfl
        have f6 : ∀ o, w1.frozen? ⟨w.heap.size, o, none⟩ = false := fun o => by simp [World.frozen?, hE1]
        have hcw : cb < w.heap.size := Nat.lt_of_lt_of_le hcbC hC
        clear HF HST0 hneg hk1 hk2 hccell
        cases hem : s.toList.isEmpty
        · cases heq : (s.toList == t.name.toList)
          · have HST : Hid (refStep s name q t = ⟨q.found, q.kind, q.n, q.ahead + t.cols.length⟩) := HM (by rw [HIT.out, hem, heq]; simp)
            clear HM HIT HH
            generalize refStep s name q t = q' at hst HST
            have hst2 : Hid (refAll (S.take (j + 1)) s name n = ⟨q.found, q.kind, q.n, q.ahead + t.cols.length⟩) := hst.out.trans HST.out
            clear hst HST
            go_wp2_with fail
            go_roundw
            case rel => clear q4 w3; exact ⟨j + 1, ⟨q.found, q.kind, q.n, q.ahead + t.cols.length⟩, by omega, by go_num, rfl, rfl, by simp, hst2, by simp only; omega, by simp only; omega, hE1, hZ1, hbw1⟩
            case measure => (try clear q4); (try clear w3); simp [intOf]; omega
          · have HST : Hid (refStep s name q t = ⟨q.found + 1, x.ty, (q.ahead : Int) + (kk : Int), q.ahead + t.cols.length⟩) := HH (by rw [HIT.out, hem, heq]; simp)
            clear HM HIT HH
            generalize refStep s name q t = q' at hst HST
            have hst2 : Hid (refAll (S.take (j + 1)) s name n = ⟨q.found + 1, x.ty, (q.ahead : Int) + (kk : Int), q.ahead + t.cols.length⟩) := hst.out.trans HST.out
            clear hst HST
            go_wp2_with fail
            go_region_held3 (fun w' => w'.cell? ⟨wr.heap.size, 1, none⟩ = some (.slice (some ⟨cb, cof, none⟩) t.cols.length cc) ∧ w'.cell? ⟨cb, cof + kk * 3 + 1, none⟩ = some (.int .i64 x.ty)) (first | exact ⟨t1, c1⟩ | exact ⟨(cell_set_ne (by omega) _ _ _).trans t1, (cell_set_ne (by omega) _ _ _).trans c1⟩)
              (first | fail)
            go_wp2
            go_roundw
            case rel => clear q4 w3; exact ⟨j + 1, ⟨q.found + 1, x.ty, (q.ahead : Int) + (kk : Int), q.ahead + t.cols.length⟩, by omega, by go_num, by simp, rfl, by simp, hst2, by simp only; omega, by simp only; omega, set_at hE1 6 _, (Below.heap_setCell _ _ _ _ (show w.heap.size + 1 ≠ w.heap.size by omega)).trans hZ1, hbw1.drew.setCell (show w.heap.size ≤ w.heap.size from Nat.le_refl _) _⟩
            case measure => (try clear q4); (try clear w3); simp [intOf]; omega
        · have HST : Hid (refStep s name q t = ⟨q.found + 1, x.ty, (q.ahead : Int) + (kk : Int), q.ahead + t.cols.length⟩) := HH (by rw [HIT.out, hem]; simp)
          clear HM HIT HH
          generalize refStep s name q t = q' at hst HST
          have hst2 : Hid (refAll (S.take (j + 1)) s name n = ⟨q.found + 1, x.ty, (q.ahead : Int) + (kk : Int), q.ahead + t.cols.length⟩) := hst.out.trans HST.out
          clear hst HST
          go_wp2_with fail
          go_region_held3 (fun w' => w'.cell? ⟨wr.heap.size, 1, none⟩ = some (.slice (some ⟨cb, cof, none⟩) t.cols.length cc) ∧ w'.cell? ⟨cb, cof + kk * 3 + 1, none⟩ = some (.int .i64 x.ty)) (first | exact ⟨t1, c1⟩ | exact ⟨(cell_set_ne (by omega) _ _ _).trans t1, (cell_set_ne (by omega) _ _ _).trans c1⟩)
            (first | fail)
          go_wp2
          go_roundw
          case rel => clear q4 w3; exact ⟨j + 1, ⟨q.found + 1, x.ty, (q.ahead : Int) + (kk : Int), q.ahead + t.cols.length⟩, by omega, by go_num, by simp, rfl, by simp, hst2, by simp only; omega, by simp only; omega, set_at hE1 6 _, (Below.heap_setCell _ _ _ _ (show w.heap.size + 1 ≠ w.heap.size by omega)).trans hZ1, hbw1.drew.setCell (show w.heap.size ≤ w.heap.size from Nat.le_refl _) _⟩
          case measure => (try clear q4); (try clear w3); simp [intOf]; omega
    · have hjj : j = S.length := by omega
      subst hjj
      have HQ2 : Hid (R = refAns op ⟨xk, xn, xs⟩ s name ao k c q) := by show _ = _; rw [← HR.out, ← HQ.out, List.take_length]
      have j1 : ¬ (S.length : Int) < (S.length : Int) := by omega
      clear HQ HR
      by_cases hf1 : q.found = 1
      · have hf2 : ((q.found : Int) != 1) = false := by rw [hf1]; rfl
        have HF1 : Hid (q.found = 1) := hf1
        clear hf1
        have hone := one_eArr op ⟨xk, xn, xs⟩ s name q.n ao k c
        go_wp2_with (first | refine wpList_load_row rfl 34 _ rfl w.heap.size rfl 34 _ _ _ hE Try.underlying34 rfl size_expr ?_ | refine wpList_store_row rfl 34 _ _ rfl (w.heap.size + 1) _ rfl rfl 34 _ hZ size_expr rfl hone ?_)
        exact bodyPost_ret (v := .tuple #[.agg (eArr op ⟨xk, xn, xs⟩ s name q.n (.slice ao k c)), .int .i64 q.kind, .int .i64 0]) (results_three Try.results115 _ _ (w.heap.size + 1) 34 _ _ _ _ _ rfl rfl rfl (block_row hZ) Try.underlying34 rfl size_expr) rfl ⟨by rw [HQ2.out, refAns_one HF1.out], Below.row hbel (by omega) _⟩
      · have hf2 : ((q.found : Int) != 1) = true := by simp; omega
        have HF1 : Hid (¬ q.found = 1) := hf1
        clear hf1
        have hone := one_eArr 0 zero noW noW 0 none 0 0
        go_wp2_with (first | refine wpList_store_row rfl 34 _ _ rfl (w.heap.size + 1) _ rfl rfl 34 _ hZ size_expr rfl hone ?_)
        exact bodyPost_ret (v := .tuple #[.agg (eArr 0 zero noW noW 0 (.slice none 0 0)), .int .i64 0, .int .i64 3]) (results_three Try.results115 _ _ (w.heap.size + 1) 34 _ _ _ _ _ rfl rfl rfl (block_row hZ) Try.underlying34 rfl size_expr) rfl ⟨by rw [HQ2.out, refAns_not HF1.out], Below.row hbel (by omega) _⟩

end Go.Proofs.Ytabanbpnghidhaa

namespace Go.Proofs.Ytabanbpnghidhaa

mutual
/-- An expression bound: it and its type, or what is wrong. -/
def bindR (S : List TabD) : E → Except Int (E × Int)
  | .mk op x s name n l =>
    if op = 1 then .ok (.mk op x s name n l, x.k)
    else if op = 2 then
      if (refAll S s name n).found = 1 then .ok (.mk op x s name (refAll S s name n).n l, (refAll S s name n).kind) else .error 3
    else match bindsR S l with
      | .error m => .error m
      | .ok r => if fitB op (r.map Prod.snd) then .ok (.mk op x s name n (r.map Prod.fst), typeI op) else .error 5
def bindsR (S : List TabD) : List E → Except Int (List (E × Int))
  | [] => .ok []
  | e :: l => match bindR S e with
    | .error m => .error m
    | .ok r => match bindsR S l with
      | .error m => .error m
      | .ok rs => .ok (r :: rs)
end
theorem bindsR_snoc (S : List TabD) : ∀ (l : List E) (e : E), bindsR S (l ++ [e]) = match bindsR S l with
    | .error m => .error m
    | .ok rs => match bindR S e with
      | .error m => .error m
      | .ok r => .ok (rs ++ [r])
  | [], e => by
    simp only [List.nil_append, bindsR]
  | x :: l, e => by
    simp only [List.cons_append, bindsR, bindsR_snoc S l e]
    cases bindR S x with
    | error m => rfl
    | ok r =>
      cases bindsR S l with
      | error m => rfl
      | ok rs => cases bindR S e <;> rfl
theorem bindsR_append (S : List TabD) : ∀ (l m : List E), (∀ k, bindsR S l = .error k → bindsR S (l ++ m) = .error k)
  | [], m, k, h => by simp [bindsR] at h
  | x :: l, m, k, h => by
    simp only [List.cons_append, bindsR] at h ⊢
    cases hx : bindR S x with
    | error j => rw [hx] at h; exact h
    | ok r =>
      rw [hx] at h
      simp only at h ⊢
      cases hl : bindsR S l with
      | error j =>
        rw [hl] at h
        rw [bindsR_append S l m j hl]
        exact h
      | ok rs => rw [hl] at h; cases h
theorem bindsR_len (S : List TabD) : ∀ (l : List E) (rs : List (E × Int)), bindsR S l = .ok rs → rs.length = l.length
  | [], rs, h => by simp [bindsR] at h; subst h; rfl
  | x :: l, rs, h => by
    simp only [bindsR] at h
    cases hx : bindR S x with
    | error j => rw [hx] at h; cases h
    | ok r =>
      rw [hx] at h
      simp only at h
      cases hl : bindsR S l with
      | error j => rw [hl] at h; cases h
      | ok rs' =>
        rw [hl] at h
        simp only [Except.ok.injEq] at h
        subst h
        simp [bindsR_len S l rs' hl]

end Go.Proofs.Ytabanbpnghidhaa

namespace Go.Proofs.Ytabanbpnghidhaa
open Go.RowKit Go.Maps

/-- One more, by its name, in a list whose names rise. -/
def insN {α : Type} (nm : α → Wd) (l : List α) (x : α) : List α := l.filter (fun y => klt (nm y) (nm x)) ++ x :: l.filter (fun y => !klt (nm y) (nm x))
/-- P4.9 -/
def withC (ct : CatD) (st : Stm) : CatD :=
  if st.kind = 1 then ⟨insN TabD.name ct.tables ⟨st.name, st.cols⟩, ct.indexes⟩
  else if st.kind = 2 then ⟨ct.tables, insN IdxD.name ct.indexes ⟨st.name, st.table, st.col⟩⟩
  else if st.kind = 3 then ⟨ct.tables.filter (fun t => !decide (t.name = st.name)), ct.indexes.filter (fun x => !decide (x.table = st.name))⟩
  else ct

theorem All.split {α : Type} {K : Elem α} {F : Nat → Prop} {w : World} : ∀ {l m : List α} {cs : List Value}, All K F w (l ++ m) cs → ∃ c1 c2, cs = c1 ++ c2 ∧ All K F w l c1 ∧ All K F w m c2
  | [], m, cs, h => ⟨[], cs, rfl, rfl, h⟩
  | a :: l, m, cs, h => by
    obtain ⟨c, rest, rfl, h2, h3⟩ := h
    obtain ⟨c1, c2, rfl, h4, h5⟩ := All.split h3
    exact ⟨c ++ c1, c2, by simp, ⟨c, c1, rfl, h2, h4⟩, h5⟩
theorem split_filter {α : Type} (nm : α → Wd) (s : Wd) : ∀ (l : List α), Rise (l.map nm) → l = l.filter (fun y => klt (nm y) s) ++ l.filter (fun y => !klt (nm y) s)
  | [], _ => rfl
  | a :: l, h => by
    have hr : Rise (l.map nm) := (List.pairwise_cons.1 h).2
    have ha := (List.pairwise_cons.1 h).1
    cases hk : klt (nm a) s with
    | true =>
      rw [List.filter_cons, List.filter_cons, hk]
      simp only [if_true, Bool.not_true, List.cons_append]
      have := split_filter nm s l hr
      simp only [Bool.false_eq_true, if_false]
      exact congrArg (a :: ·) this
    | false =>
      have hn : ∀ y ∈ l, klt (nm y) s = false := fun y hy => by
        cases hy2 : klt (nm y) s with
        | false => rfl
        | true =>
          have := klt_trans (ha (nm y) (List.mem_map_of_mem hy)) hy2
          rw [hk] at this; cases this
      rw [List.filter_cons, List.filter_cons, hk]
      simp only [Bool.false_eq_true, if_false, Bool.not_false, if_true]
      rw [List.filter_eq_nil_iff.2 (fun y hy => by rw [hn y hy]; decide), List.filter_eq_self.2 (fun y hy => by rw [hn y hy]; rfl)]
      rfl
/-- The name with which cells begin. -/
def nmC : List Value → Wd
  | .string s :: _ => s
  | _ => noW
theorem nmC_eq (c : List Value) (s : Wd) (r : List Value) (h : c = .string s :: r) : nmC c = s := by subst h; rfl

theorem shape_rawTab {F : Nat → Prop} {w : World} {x : TabD} {c : List Value} (h : kTab.R F w x c) : shTab c ∧ nmC c = x.name := by
  obtain ⟨sv, rfl, hsv⟩ := h
  obtain ⟨ao, cp, rfl⟩ := hsv.shape
  exact ⟨⟨_, _, _, _, rfl⟩, rfl⟩
theorem shape_rawIdx {F : Nat → Prop} {w : World} {x : IdxD} {c : List Value} (h : kIdx.R F w x c) : shIdx c ∧ nmC c = x.name := by
  obtain rfl := h
  exact ⟨⟨_, _, _, rfl⟩, rfl⟩
theorem rawTab {F : Nat → Prop} {w : World} {l : List TabD} {cs : List Value} (h : All kTab F w l cs) : ∃ CS : List (List Value), cs = CS.flatten ∧ CS.length = l.length ∧ (∀ c ∈ CS, shTab c) ∧ (∀ (i : Nat) (x : TabD) (c : List Value), l[i]? = some x → CS[i]? = some c → kTab.R F w x c ∧ nmC c = x.name) := by
  obtain ⟨CS, h1, h2, h3⟩ := all_raw h
  have hs : ∀ (i : Nat) (x : TabD) (c : List Value), l[i]? = some x → CS[i]? = some c → shTab c ∧ nmC c = x.name := fun i x c hx hc => shape_rawTab (h3 i x c hx hc)
  refine ⟨CS, h1, h2, fun c hc => ?_, fun i x c hx hc => ⟨h3 i x c hx hc, (hs i x c hx hc).2⟩⟩
  obtain ⟨i, hi, rfl⟩ := List.getElem_of_mem hc
  exact (hs i _ _ (List.getElem?_eq_getElem (by omega)) (List.getElem?_eq_getElem hi)).1
theorem isRawTab {F : Nat → Prop} {w : World} {sv : Value} {CS : List (List Value)} (hr : IsRowB F 2 w sv CS.length CS.flatten) (hs : ∀ c ∈ CS, shTab c) : IsL kRawTab (fun _ => True) w sv CS :=
  ⟨CS.flatten, hr.mono fun _ _ _ => trivial, raw_all rfl fun i x c h1 h2 => by rw [h1] at h2; cases h2; exact ⟨rfl, hs _ (List.mem_of_getElem? h1)⟩⟩
theorem rawIdx {F : Nat → Prop} {w : World} {l : List IdxD} {cs : List Value} (h : All kIdx F w l cs) : ∃ CS : List (List Value), cs = CS.flatten ∧ CS.length = l.length ∧ (∀ c ∈ CS, shIdx c) ∧ (∀ (i : Nat) (x : IdxD) (c : List Value), l[i]? = some x → CS[i]? = some c → kIdx.R F w x c ∧ nmC c = x.name) := by
  obtain ⟨CS, h1, h2, h3⟩ := all_raw h
  have hs : ∀ (i : Nat) (x : IdxD) (c : List Value), l[i]? = some x → CS[i]? = some c → shIdx c ∧ nmC c = x.name := fun i x c hx hc => shape_rawIdx (h3 i x c hx hc)
  refine ⟨CS, h1, h2, fun c hc => ?_, fun i x c hx hc => ⟨h3 i x c hx hc, (hs i x c hx hc).2⟩⟩
  obtain ⟨i, hi, rfl⟩ := List.getElem_of_mem hc
  exact (hs i _ _ (List.getElem?_eq_getElem (by omega)) (List.getElem?_eq_getElem hi)).1
theorem isRawIdx {F : Nat → Prop} {w : World} {sv : Value} {CS : List (List Value)} (hr : IsRowB F 3 w sv CS.length CS.flatten) (hs : ∀ c ∈ CS, shIdx c) : IsL kRawIdx (fun _ => True) w sv CS :=
  ⟨CS.flatten, hr.mono fun _ _ _ => trivial, raw_all rfl fun i x c h1 h2 => by rw [h1] at h2; cases h2; exact ⟨rfl, hs _ (List.mem_of_getElem? h1)⟩⟩
end Go.Proofs.Ytabanbpnghidhaa

namespace Go.Proofs.Ytabanbpnghidhaa
open Go.RowKit

theorem heap_setCells {b : Nat} {t : TypeId} {fr : Nat × Nat} : ∀ (vs old pre post : List Value) (w : World), w.heap[b]? = some (.cells (pre ++ old ++ post).toArray t fr) → old.length = vs.length → (w.setCells b pre.length vs).heap[b]? = some (.cells (pre ++ vs ++ post).toArray t fr)
  | [], old, pre, post, w, h, hl => by
    have : old = [] := List.eq_nil_of_length_eq_zero (by simpa using hl)
    subst this
    simpa [World.setCells] using h
  | v :: vs, [], pre, post, w, h, hl => by simp at hl
  | v :: vs, y :: old, pre, post, w, h, hl => by
    have h1 := set_at h pre.length v
    have e : (pre ++ (y :: old) ++ post).toArray.setIfInBounds pre.length v = ((pre ++ [v]) ++ old ++ post).toArray := by simp
    rw [e] at h1
    have := heap_setCells vs old (pre ++ [v]) post _ h1 (by simpa using hl)
    rw [World.setCells]
    simpa using this
theorem below_setCells {B g : Nat} (hB : B ≤ g) {a : World} : ∀ (vs : List Value) (o : Nat) (w : World), Below B a w → Below B a (w.setCells g o vs)
  | [], _, _, h => h
  | v :: vs, o, _, h => below_setCells hB vs (o + 1) _ (h.setCell (p := ⟨g, o, none⟩) hB v)
theorem setCells_size (g : Nat) : ∀ (vs : List Value) (o : Nat) (w : World), (w.setCells g o vs).heap.size = w.heap.size
  | [], _, _ => rfl
  | v :: vs, o, w => by rw [World.setCells, setCells_size g vs]; simp [World.setCell]
theorem setCells_block {g k : Nat} (hne : k ≠ g) : ∀ (vs : List Value) (o : Nat) (w : World), (w.setCells g o vs).heap[k]? = w.heap[k]?
  | [], _, _ => rfl
  | v :: vs, o, w => by rw [World.setCells, setCells_block hne vs, Below.heap_setCell w ⟨g, o, none⟩ v k hne]
theorem keeps_setCells {F : Nat → Prop} {g : Nat} (hg : ¬ F g) (vs : List Value) (o : Nat) (w : World) : Keeps F w (w.setCells g o vs) :=
  ⟨by rw [setCells_size]; exact Nat.le_refl _, fun k hk _ => setCells_block (by rintro rfl; exact hg hk) vs o w⟩

/-- In block g a list of n places, of which the first ones are filled. -/
def Made {α : Type} (K : Elem α) (F : Nat → Prop) (w : World) (g n : Nat) (l : List α) : Prop :=
  ∃ cs rest t, w.heap[g]? = some (.cells (cs ++ rest).toArray t) ∧ (cs ++ rest).length = n * K.size ∧ All K F w l cs
theorem made_new {α : Type} (K : Elem α) (F : Nat → Prop) {w : World} {arr : Array Value} {t : TypeId} {n : Nat} (h : arr.size = n * K.size) : Made K F (w.alloc (.cells arr t)) w.heap.size n [] :=
  ⟨[], arr.toList, t, by simpa using block_alloc_at w _, by simpa using h, rfl⟩
theorem Made.keep {α : Type} {K : Elem α} {F : Nat → Prop} {w w' : World} {g n : Nat} {l : List α} (h : Made K F w g n l) (hk : Keeps F w w') (hg : w'.heap[g]? = w.heap[g]?) : Made K F w' g n l := by
  obtain ⟨cs, rest, t, h1, h2, h3⟩ := h
  exact ⟨cs, rest, t, hg.trans h1, h2, h3.keep hk⟩
theorem Made.lt {α : Type} {K : Elem α} {F : Nat → Prop} {w : World} {g n : Nat} {l : List α} (h : Made K F w g n l) : g < w.heap.size := by
  obtain ⟨cs, rest, t, h1, _⟩ := h
  exact lt_of_block h1
theorem Made.below {α : Type} {K : Elem α} {F : Nat → Prop} {w w' : World} {g n : Nat} {l : List α} (h : Made K F w g n l) (hb : Below w.heap.size w w') : Made K F w' g n l := h.keep (keepsB hb) (hb.block g h.lt)
theorem Made.there {α : Type} {K : Elem α} {F : Nat → Prop} {w : World} {g n : Nat} {l : List α} (h : Made K F w g n l) {i : Nat} (hi : i < n) : w.there g (i * K.size) K.size := by
  obtain ⟨cs, rest, t, h1, h2, _⟩ := h
  intro j hj
  have hlt : i * K.size + j < (cs ++ rest).length := by
    rw [h2]
    have : (i + 1) * K.size ≤ n * K.size := Nat.mul_le_mul_right _ hi
    rw [Nat.add_mul] at this
    omega
  refine ⟨?_, by simp [World.frozen?, h1]⟩
  rw [cell_of_block h1 (j := i * K.size + j) (u := (cs ++ rest)[i * K.size + j]) (by simp)]
  rfl
/-- The next place is filled. -/
theorem Made.set {α : Type} {K : Elem α} {F : Nat → Prop} {w : World} {g n : Nat} {l : List α} (h : Made K F w g n l) (hl : l.length < n) (hg : ¬ F g) {a : α} {c : List Value} (hc : K.R F w a c) : Made K F (w.setCells g (l.length * K.size) c) g n (l ++ [a]) := by
  obtain ⟨cs, rest, t, h1, h2, h3⟩ := h
  have e1 := h3.length
  have e2 := K.len hc
  have hle : K.size ≤ rest.length := by
    rw [List.length_append] at h2
    have : (l.length + 1) * K.size ≤ n * K.size := Nat.mul_le_mul_right _ hl
    rw [Nat.add_mul] at this
    omega
  have hk := keeps_setCells hg c (l.length * K.size) w
  refine ⟨cs ++ c, rest.drop K.size, t, ?_, ?_, (h3.keep hk).append (All.one (K.keep hk hc))⟩
  · have h1' : w.heap[g]? = some (.cells (cs ++ rest.take K.size ++ rest.drop K.size).toArray t) := by rw [List.append_assoc, List.take_append_drop]; exact h1
    have := heap_setCells c (rest.take K.size) cs (rest.drop K.size) w h1' (by rw [List.length_take, e2]; omega)
    rwa [e1] at this
  · simp only [List.length_append, List.length_drop] at h2 ⊢
    omega
/-- A single cell. -/
theorem Made.set1 {α : Type} {K : Elem α} {F : Nat → Prop} {w : World} {g n : Nat} {l : List α} (h : Made K F w g n l) (hl : l.length < n) (hg : ¬ F g) (hK : K.size = 1) {a : α} {v : Value} (hc : K.R F w a [v]) : Made K F (w.setCell ⟨g, l.length, none⟩ v) g n (l ++ [a]) := by
  have := h.set hl hg hc
  rw [hK, Nat.mul_one] at this
  exact this
/-- All places are filled. -/
theorem Made.whole {α : Type} {K : Elem α} {F F' : Nat → Prop} {w : World} {g n : Nat} {l : List α} (h : Made K F w g n l) (hl : l.length = n) (hF : ∀ k, F k → F' k) (hg : F' g) (hn : n ≤ maxLen) : IsL K F' w (.slice (some ⟨g, 0, none⟩) n n) l := by
  obtain ⟨cs, rest, t, h1, h2, h3⟩ := h
  subst hl
  have e1 := h3.length
  have hr : rest = [] := List.eq_nil_of_length_eq_zero (by rw [List.length_append] at h2; omega)
  subst hr
  refine ⟨cs, ⟨e1, ?_⟩, h3.mono fun k _ => hF k⟩
  by_cases h0 : l.length = 0
  · exact .inl ⟨h0, _, _, by rw [h0], fun h => by cases h⟩
  · refine .inr ⟨by omega, g, 0, l.length, rfl, hg, lt_of_block h1, Nat.le_refl _, hn, fun j u hj => ?_⟩
    rw [Nat.zero_add]
    exact cell_of_block h1 (by simpa using hj)
/-- A list of whatever, made and not yet filled, has its places. -/
theorem there_cells {w : World} {g o n : Nat} (h : w.there g o n) {j : Nat} (hj : j < n) : (∃ u, w.cell? ⟨g, o + j, none⟩ = some u) ∧ w.frozen? ⟨g, o + j, none⟩ = false :=
  ⟨Option.isSome_iff_exists.1 (h j hj).1, (h j hj).2⟩

end Go.Proofs.Ytabanbpnghidhaa

namespace Go.Proofs.Ytabanbpnghidhaa
open Go.RowKit Go.Maps

/-- What bind answers. -/
def BindAns (S : List TabD) (e : E) (B : Nat) (w' : World) (v : Value) : Prop :=
  match bindR S e with
  | .error m => v = .tuple #[.agg (eArr 0 zero noW noW 0 (.slice none 0 0)), .int .i64 0, .int .i64 m]
  | .ok r => ∃ (op : Int) (x : V) (s name : Wd) (n : Int) (ao : Option Addr) (k c : Nat), v = .tuple #[.agg (eArr op x s name n (.slice ao k c)), .int .i64 r.2, .int .i64 0] ∧ IsE (Fr B) w' r.1 (.agg (eArr op x s name n (.slice ao k c)))
theorem bindAns_error {S : List TabD} {e : E} {m : Int} (h : bindR S e = .error m) {B : Nat} {w' : World} {v : Value} : BindAns S e B w' v ↔ v = .tuple #[.agg (eArr 0 zero noW noW 0 (.slice none 0 0)), .int .i64 0, .int .i64 m] := by unfold BindAns; rw [h]
theorem bindAns_ok {S : List TabD} {e : E} {r : E × Int} (h : bindR S e = .ok r) {B : Nat} {w' : World} {v : Value} : BindAns S e B w' v ↔ ∃ (op : Int) (x : V) (s name : Wd) (n : Int) (ao : Option Addr) (k c : Nat), v = .tuple #[.agg (eArr op x s name n (.slice ao k c)), .int .i64 r.2, .int .i64 0] ∧ IsE (Fr B) w' r.1 (.agg (eArr op x s name n (.slice ao k c))) := by unfold BindAns; rw [h]
mutual
theorem bindR_err (S : List TabD) : ∀ (e : E) (m : Int), bindR S e = .error m → m = 3 ∨ m = 5
  | .mk op x s name n l, m, h => by
    rw [bindR] at h
    split at h
    · cases h
    · split at h
      · split at h
        · cases h
        · exact .inl (by simpa using h.symm)
      · cases hl : bindsR S l with
        | error j =>
          rw [hl] at h
          simp only [Except.error.injEq] at h
          subst h
          exact bindsR_err S l _ hl
        | ok r =>
          rw [hl] at h
          simp only at h
          split at h
          · cases h
          · exact .inr (by simpa using h.symm)
theorem bindsR_err (S : List TabD) : ∀ (l : List E) (m : Int), bindsR S l = .error m → m = 3 ∨ m = 5
  | [], m, h => by rw [bindsR] at h; cases h
  | e :: l, m, h => by
    rw [bindsR] at h
    cases he : bindR S e with
    | error j =>
      rw [he] at h
      simp only [Except.error.injEq] at h
      subst h
      exact bindR_err S e _ he
    | ok r =>
      rw [he] at h
      simp only at h
      cases hl : bindsR S l with
      | error j =>
        rw [hl] at h
        simp only [Except.error.injEq] at h
        subst h
        exact bindsR_err S l _ hl
      | ok rs => rw [hl] at h; cases h
end
theorem bindR_lit (S : List TabD) (x : V) (s name : Wd) (n : Int) (l : List E) : bindR S (.mk 1 x s name n l) = .ok (.mk 1 x s name n l, x.k) := by rw [bindR]; rfl
theorem bindR_ref (S : List TabD) (x : V) (s name : Wd) (n : Int) (l : List E) : bindR S (.mk 2 x s name n l) = if (refAll S s name n).found = 1 then .ok (.mk 2 x s name (refAll S s name n).n l, (refAll S s name n).kind) else .error 3 := by rw [bindR]; rfl
theorem bindR_op (S : List TabD) {op : Int} (h1 : op ≠ 1) (h2 : op ≠ 2) (x : V) (s name : Wd) (n : Int) (l : List E) : bindR S (.mk op x s name n l) = match bindsR S l with
      | .error m => .error m
      | .ok r => if fitB op (r.map Prod.snd) then .ok (.mk op x s name n (r.map Prod.fst), typeI op) else .error 5 := by
  rw [bindR, if_neg h1, if_neg h2]
  all_goals (cases bindsR S l <;> rfl)

/-- What bind promises, so deep. -/
def BindSays (S : List TabD) (d : Nat) : Prop := ∀ (e : E) (v sv : Value) (C : Nat) (w : World), IsE (fun k => k < C) w e v → IsL kTab (fun k => k < C) w sv S → C ≤ w.heap.size → geB d e = true →
    Calls Try.prog 100 #[sv, v] w fun r w' => (∃ v, r = .returned v ∧ BindAns S e w.heap.size w' v) ∧ Below w.heap.size w w'

theorem isE_leaf {F : Nat → Prop} {w : World} {op : Int} {x : V} {s name : Wd} {n : Int} {ao : Option Addr} {c : Nat} (h : ao = none → c = 0) : IsE F w (.mk op x s name n []) (.agg (eArr op x s name n (.slice ao 0 c))) :=
  isE_mk ⟨[], ⟨rfl, .inl ⟨rfl, ao, c, rfl, h⟩⟩, by rw [AllE]⟩
theorem isE_leaf_cap {F : Nat → Prop} {w : World} {op : Int} {x : V} {s name : Wd} {n : Int} {ao : Option Addr} {k c : Nat} (h : IsE F w (.mk op x s name n []) (.agg (eArr op x s name n (.slice ao k c)))) : k = 0 ∧ (ao = none → c = 0) := by
  obtain ⟨sv, h1, cs, hr, _⟩ := h.open
  have h2 : sv = .slice ao k c := by simpa using (Value.agg.inj h1).symm
  subst h2
  rcases hr.2 with ⟨_, a, c', h3, h4⟩ | ⟨h0, _⟩
  · cases h3; exact ⟨rfl, h4⟩
  · simp at h0

/-- The eight cells of an expression. -/
def Cells8 (w : World) (g : Nat) (op : Int) (xk xn : Int) (xs s name : Wd) (n : Int) (sv : Value) : Prop := w.cell? ⟨g, 0, none⟩ = some (.int .i64 op) ∧ w.cell? ⟨g, 1, none⟩ = some (.int .i64 xk) ∧ w.cell? ⟨g, 2, none⟩ = some (.int .i64 xn) ∧ w.cell? ⟨g, 3, none⟩ = some (.string xs) ∧ w.cell? ⟨g, 4, none⟩ = some (.string s) ∧ w.cell? ⟨g, 5, none⟩ = some (.string name) ∧ w.cell? ⟨g, 6, none⟩ = some (.int .i64 n) ∧ w.cell? ⟨g, 7, none⟩ = some sv
theorem cells8_of {w : World} {g : Nat} {op xk xn : Int} {xs s name : Wd} {n : Int} {sv : Value} {t : TypeId} {fr : Nat × Nat} (h : w.heap[g]? = some (.cells (eArr op ⟨xk, xn, xs⟩ s name n sv) t fr)) : Cells8 w g op xk xn xs s name n sv :=
  ⟨cell_of_block h rfl, cell_of_block h rfl, cell_of_block h rfl, cell_of_block h rfl, cell_of_block h rfl, cell_of_block h rfl, cell_of_block h rfl, cell_of_block h rfl⟩
theorem cells8_two (w : World) (op xk xn : Int) (xs s name : Wd) (n : Int) (sv : Value) (t : TypeId) (o : Obj) : Cells8 ((w.alloc (.cells (eArr op ⟨xk, xn, xs⟩ s name n sv) t)).alloc o) w.heap.size op xk xn xs s name n sv := cells8_of (block_alloc_of (block_alloc_at _ _) _)
set_option maxRecDepth 100000 in
set_option maxHeartbeats 4000000 in
theorem bind_lit (S : List TabD) (sv : Value) (x : V) (s name : Wd) (n : Int) (ao : Option Addr) (c : Nat) (w : World) (hc : ao = none → c = 0) (hsv : IsSl sv) :
    Calls Try.prog 100 #[sv, .agg (eArr 1 x s name n (.slice ao 0 c))] w fun r w' => (∃ v, r = .returned v ∧ BindAns S (.mk 1 x s name n []) w.heap.size w' v) ∧ Below w.heap.size w w' := by
  obtain ⟨so, sl, sc, rfl⟩ := hsv
  obtain ⟨xk, xn, xs⟩ := x
  have hb2 := bel2 w (.cells (eArr 1 ⟨xk, xn, xs⟩ s name n (.slice ao 0 c)) 34) (.cells (eArr 0 zero noW noW 0 (.slice none 0 0)) 34)
  have hB0 : ((w.alloc (.cells (eArr 1 ⟨xk, xn, xs⟩ s name n (.slice ao 0 c)) 34)).alloc (.cells (eArr 0 zero noW noW 0 (.slice none 0 0)) 34)).heap[w.heap.size]? = some (.cells (eArr 1 ⟨xk, xn, xs⟩ s name n (.slice ao 0 c)) 34) := block_alloc_of (block_alloc_at _ _) _
  have hB1 : ((w.alloc (.cells (eArr 1 ⟨xk, xn, xs⟩ s name n (.slice ao 0 c)) 34)).alloc (.cells (eArr 0 zero noW noW 0 (.slice none 0 0)) 34)).heap[w.heap.size + 1]? = some (.cells (eArr 0 zero noW noW 0 (.slice none 0 0)) 34) := block2 _ _ _
  go_enter Try.func100, Try.ntmps100
  go_wp2_with fail
  go_region_held3 (fun w' => w'.cell? ⟨w.heap.size, 0, none⟩ = some (.int .i64 1) ∧ w'.cell? ⟨w.heap.size, 1, none⟩ = some (.int .i64 xk) ∧ w'.cell? ⟨w.heap.size, 2, none⟩ = some (.int .i64 xn) ∧ w'.cell? ⟨w.heap.size, 3, none⟩ = some (.string xs) ∧ w'.cell? ⟨w.heap.size, 4, none⟩ = some (.string s) ∧ w'.cell? ⟨w.heap.size, 5, none⟩ = some (.string name) ∧ w'.cell? ⟨w.heap.size, 6, none⟩ = some (.int .i64 n) ∧ w'.cell? ⟨w.heap.size, 7, none⟩ = some (.slice ao 0 c)) (exact cells8_two _ _ _ _ _ _ _ _ _ _ _)
    (first | fail)
  go_wp2
  exact bodyPost_ret (v := .tuple #[.agg (eArr 1 ⟨xk, xn, xs⟩ s name n (.slice ao 0 c)), .int .i64 xk, .int .i64 0]) (results_three Try.results100 _ _ (w.heap.size + 1) 34 _ _ _ _ _ rfl rfl rfl (block2 _ _ _) Try.underlying34 rfl size_expr) rfl ⟨⟨_, rfl, (bindAns_ok (bindR_lit S _ _ _ _ _)).2 ⟨1, ⟨xk, xn, xs⟩, s, name, n, ao, 0, c, rfl, isE_leaf hc⟩⟩, (bel2 _ _ _).drew⟩

set_option maxRecDepth 100000 in
set_option maxHeartbeats 4000000 in
theorem bind_ref (S : List TabD) (sv : Value) (x : V) (s name : Wd) (n : Int) (ao : Option Addr) (c C : Nat) (w : World) (hc : ao = none → c = 0) (hl : IsL kTab (fun k => k < C) w sv S) (hC : C ≤ w.heap.size) (hS : S.length ≤ 1000) (hsc : ∀ t ∈ S, t.cols.length ≤ 1000000) :
    Calls Try.prog 100 #[sv, .agg (eArr 2 x s name n (.slice ao 0 c))] w fun r w' => (∃ v, r = .returned v ∧ BindAns S (.mk 2 x s name n []) w.heap.size w' v) ∧ Below w.heap.size w w' := by
  obtain ⟨so, sc, rfl⟩ := hl.shape
  obtain ⟨xk, xn, xs⟩ := x
  have hb2 := bel2 w (.cells (eArr 2 ⟨xk, xn, xs⟩ s name n (.slice ao 0 c)) 34) (.cells (eArr 0 zero noW noW 0 (.slice none 0 0)) 34)
  have HR := bindRef_any S (.slice so S.length sc) 2 ⟨xk, xn, xs⟩ s name n ao 0 c C _ (hl.keep (keepsC (hb2.mono hC))) (Nat.le_trans hC hb2.size) hS hsc
  have hone := fun n => one_eArr 2 ⟨xk, xn, xs⟩ s name n ao 0 c
  have hone0 := one_eArr 0 zero noW noW 0 none 0 0
  have HB : Hid (bindR S (.mk 2 ⟨xk, xn, xs⟩ s name n []) = if (refAll S s name n).found = 1 then .ok (.mk 2 ⟨xk, xn, xs⟩ s name (refAll S s name n).n [], (refAll S s name n).kind) else .error 3) := bindR_ref S _ _ _ _ _
  generalize refAll S s name n = q at HR HB
  clear hl
  by_cases hf1 : q.found = 1
  · rw [refAns_one hf1] at HR
    have HB2 : Hid (bindR S (.mk 2 ⟨xk, xn, xs⟩ s name n []) = .ok (.mk 2 ⟨xk, xn, xs⟩ s name q.n [], q.kind)) := HB.out.trans (if_pos hf1)
    clear HB hf1
    go_enter Try.func100, Try.ntmps100
    go_upto_region 6 with (first | (go_at_call 115; go_fit HR; rintro e w1 ⟨rfl, hb1⟩; have hZ : w1.heap[w.heap.size + 1]? = some (.cells (eArr 0 zero noW noW 0 (.slice none 0 0)) 34) := (hb1.block _ (by simp)).trans (block2 _ _ _)) | refine wpList_store_row rfl 34 _ _ rfl (w.heap.size + 1) _ rfl rfl 34 _ hZ size_expr rfl (hone _) ?_)
    exact bodyPost_ret (v := .tuple #[.agg (eArr 2 ⟨xk, xn, xs⟩ s name q.n (.slice ao 0 c)), .int .i64 q.kind, .int .i64 0]) (results_three Try.results100 _ _ (w.heap.size + 1) 34 _ _ _ _ _ rfl rfl rfl (block_row hZ) Try.underlying34 rfl size_expr) rfl ⟨⟨_, rfl, (bindAns_ok HB2.out).2 ⟨2, ⟨xk, xn, xs⟩, s, name, q.n, ao, 0, c, rfl, isE_leaf hc⟩⟩, Below.row (bthen hb2 hb1) (by omega) _⟩
  · rw [refAns_not hf1] at HR
    have HB2 : Hid (bindR S (.mk 2 ⟨xk, xn, xs⟩ s name n []) = .error 3) := HB.out.trans (if_neg hf1)
    clear HB hf1
    go_enter Try.func100, Try.ntmps100
    go_upto_region 6 with (first | (go_at_call 115; go_fit HR; rintro e w1 ⟨rfl, hb1⟩; have hZ : w1.heap[w.heap.size + 1]? = some (.cells (eArr 0 zero noW noW 0 (.slice none 0 0)) 34) := (hb1.block _ (by simp)).trans (block2 _ _ _)) | refine wpList_store_row rfl 34 _ _ rfl (w.heap.size + 1) _ rfl rfl 34 _ hZ size_expr rfl hone0 ?_)
    exact bodyPost_ret (v := .tuple #[.agg (eArr 0 zero noW noW 0 (.slice none 0 0)), .int .i64 0, .int .i64 3]) (results_three Try.results100 _ _ (w.heap.size + 1) 34 _ _ _ _ _ rfl rfl rfl (block_row hZ) Try.underlying34 rfl size_expr) rfl ⟨⟨_, rfl, (bindAns_error HB2.out).2 rfl⟩, Below.row (bthen hb2 hb1) (by omega) _⟩

end Go.Proofs.Ytabanbpnghidhaa

