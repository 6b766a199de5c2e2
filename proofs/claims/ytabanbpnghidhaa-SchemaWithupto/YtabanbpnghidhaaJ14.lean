/-
  2 texts of this proof in one, in build order: WWith3, WWith4.
-/
import Derived.Deep.Cut
import Derived.Test.YtabanbpnghidhaaJ07
import Derived.Test.YtabanbpnghidhaaJ08
namespace Go.Proofs.Ytabanbpnghidhaa
open Go.RowKit Go.Maps

theorem keep_filter {α β : Type} (p : Nat → Bool) (q : α → Bool) : ∀ (l : List α) (CS : List β) (i : Nat), CS.length = l.length → (∀ (j : Nat) (x : α), l[j]? = some x → p (i + j) = q x) →
    (keepI p i CS).length = (l.filter (fun x => !q x)).length ∧ ∀ (R : α → β → Prop), (∀ (j : Nat) (x : α) (c : β), l[j]? = some x → CS[j]? = some c → R x c) → ∀ (j : Nat) (x : α) (c : β), (l.filter (fun x => !q x))[j]? = some x → (keepI p i CS)[j]? = some c → R x c
  | [], [], i, _, _ => ⟨rfl, fun R _ j x c hx => by simp at hx⟩
  | [], _ :: _, i, h, _ => by simp at h
  | _ :: _, [], i, h, _ => by simp at h
  | a :: l, d :: CS, i, h, hp => by
    have hpa : p i = q a := by simpa using hp 0 a rfl
    have ih := keep_filter p q l CS (i + 1) (by simpa using h) fun j x hx => by
      rw [show i + 1 + j = i + (j + 1) by omega]; exact hp (j + 1) x (by simpa using hx)
    rw [keepI, List.filter_cons, hpa]
    cases q a with
    | true =>
      simp only [if_true, Bool.not_true, Bool.false_eq_true, if_false]
      exact ⟨ih.1, fun R hR => ih.2 R fun j x c hx hc => hR (j + 1) x c (by simpa using hx) (by simpa using hc)⟩
    | false =>
      simp only [Bool.false_eq_true, if_false, Bool.not_false, if_true, List.length_cons]
      refine ⟨by rw [ih.1], fun R hR j x c hx hc => ?_⟩
      cases j with
      | zero => simp at hx hc; subst hx; subst hc; exact hR 0 _ _ rfl rfl
      | succ j => exact ih.2 R (fun j x c hx hc => hR (j + 1) x c (by simpa using hx) (by simpa using hc)) j x c (by simpa using hx) (by simpa using hc)

theorem isL_rawTab {F : Nat → Prop} {w : World} {sv : Value} {l : List TabD} (h : IsL kTab F w sv l) : ∃ CS : List (List Value), CS.length = l.length ∧ IsRowB F 2 w sv CS.length CS.flatten ∧ (∀ c ∈ CS, shTab c) ∧ (∀ (i : Nat) (x : TabD) (c : List Value), l[i]? = some x → CS[i]? = some c → kTab.R F w x c ∧ nmC c = x.name) := by
  obtain ⟨cs, hr, ha⟩ := h
  obtain ⟨CS, rfl, h2, h3, h4⟩ := rawTab ha
  exact ⟨CS, h2, by rw [h2]; exact hr, h3, h4⟩
theorem insTab_any (l : List TabD) (x : TabD) (sv : Value) (cx : List Value) (C : Nat) (w : World) (h : IsL kTab (fun k => k < C) w sv l) (hx : kTab.R (fun k => k < C) w x cx) (_ : C ≤ w.heap.size) (hr : Rise (l.map TabD.name)) (hl : l.length ≤ 1000000) :
    Calls Try.prog 16 #[sv, .agg cx.toArray, .func (.func 17) #[] #[]] w fun e w' => ∃ v, e = .returned v ∧ IsL kTab (Fx C w.heap.size) w' v (insN TabD.name l x) ∧ Below w.heap.size w w' := by
  have hsp := split_filter TabD.name x.name l hr
  generalize hl1 : l.filter (fun y => klt y.name x.name) = l1 at hsp
  generalize hl2 : l.filter (fun y => !klt y.name x.name) = l2 at hsp
  have hins : insN TabD.name l x = l1 ++ x :: l2 := by rw [insN, hl1, hl2]
  rw [hins]
  have k1 : ∀ y ∈ l1, klt y.name x.name = true := fun y hy => by rw [← hl1] at hy; exact (List.mem_filter.1 hy).2
  have k2 : ∀ y ∈ l2, klt y.name x.name = false := fun y hy => by rw [← hl2] at hy; simpa using (List.mem_filter.1 hy).2
  clear hl1 hl2 hins
  obtain ⟨cs, hrow, ha⟩ := h
  rw [hsp] at ha
  obtain ⟨c1, c2, rfl, a1, a2⟩ := All.split ha
  obtain ⟨CS1, rfl, e1, s1, r1⟩ := rawTab a1
  obtain ⟨CS2, rfl, e2, s2, r2⟩ := rawTab a2
  have hlen : l.length = (CS1 ++ CS2).length := by rw [hsp, List.length_append, List.length_append, e1, e2]
  have hs : ∀ c ∈ CS1 ++ CS2, shTab c := fun c hc => (List.mem_append.1 hc).elim (s1 c) (s2 c)
  have hraw : IsL kRawTab (fun _ => True) w sv (CS1 ++ CS2) := isRawTab (by rw [← hlen, List.flatten_append]; exact hrow) hs
  obtain ⟨hxs, hxn⟩ := shape_rawTab hx
  have hR := hx
  obtain ⟨cv, rfl, hcv⟩ := hx
  obtain ⟨co, cc, rfl⟩ := hcv.shape
  refine (sInsertTab CS1 CS2 nmC sv x.name co x.cols.length cc w hraw hs (fun c _ s r => nmC_eq c s r) ?_ ?_ (by rw [← hlen]; exact hl)).mono ?_
  · intro c hc
    obtain ⟨i, hi, rfl⟩ := List.getElem_of_mem hc
    rw [(r1 i _ _ (List.getElem?_eq_getElem (by omega)) (List.getElem?_eq_getElem hi)).2]
    have := k1 _ (List.getElem_mem (n := i) (by omega))
    exact this
  · intro c hc
    obtain ⟨i, hi, rfl⟩ := List.getElem_of_mem hc
    rw [(r2 i _ _ (List.getElem?_eq_getElem (by omega)) (List.getElem?_eq_getElem hi)).2]
    have := k2 _ (List.getElem_mem (n := i) (by omega))
    exact this
  · rintro e w' ⟨v, rfl, own, hb⟩
    have hA := All.append ((a1.keep (keepsB hb)).mono (F' := Fx C w.heap.size) fun k _ hk => .inl hk) (All.append (All.one (kTab.mono (F' := Fx C w.heap.size) (fun k _ hk => .inl hk) (kTab.keep (keepsB hb) hR))) ((a2.keep (keepsB hb)).mono (F' := Fx C w.heap.size) fun k _ hk => .inl hk))
    have hB := IsRowB.of_own own (F := Fx C w.heap.size) fun k hk => .inr hk
    have hn : (l1 ++ x :: l2).length = CS1.length + CS2.length + 1 := by simp only [List.length_append, List.length_cons]; omega
    exact ⟨v, rfl, ⟨_, (by rw [hn]; exact hB), hA⟩, hb⟩
theorem isL_rawIdx {F : Nat → Prop} {w : World} {sv : Value} {l : List IdxD} (h : IsL kIdx F w sv l) : ∃ CS : List (List Value), CS.length = l.length ∧ IsRowB F 3 w sv CS.length CS.flatten ∧ (∀ c ∈ CS, shIdx c) ∧ (∀ (i : Nat) (x : IdxD) (c : List Value), l[i]? = some x → CS[i]? = some c → kIdx.R F w x c ∧ nmC c = x.name) := by
  obtain ⟨cs, hr, ha⟩ := h
  obtain ⟨CS, rfl, h2, h3, h4⟩ := rawIdx ha
  exact ⟨CS, h2, by rw [h2]; exact hr, h3, h4⟩
theorem insIdx_any (l : List IdxD) (x : IdxD) (sv : Value) (cx : List Value) (C : Nat) (w : World) (h : IsL kIdx (fun k => k < C) w sv l) (hx : kIdx.R (fun k => k < C) w x cx) (_ : C ≤ w.heap.size) (hr : Rise (l.map IdxD.name)) (hl : l.length ≤ 1000000) :
    Calls Try.prog 18 #[sv, .agg cx.toArray, .func (.func 19) #[] #[]] w fun e w' => ∃ v, e = .returned v ∧ IsL kIdx (Fx C w.heap.size) w' v (insN IdxD.name l x) ∧ Below w.heap.size w w' := by
  have hsp := split_filter IdxD.name x.name l hr
  generalize hl1 : l.filter (fun y => klt y.name x.name) = l1 at hsp
  generalize hl2 : l.filter (fun y => !klt y.name x.name) = l2 at hsp
  have hins : insN IdxD.name l x = l1 ++ x :: l2 := by rw [insN, hl1, hl2]
  rw [hins]
  have k1 : ∀ y ∈ l1, klt y.name x.name = true := fun y hy => by rw [← hl1] at hy; exact (List.mem_filter.1 hy).2
  have k2 : ∀ y ∈ l2, klt y.name x.name = false := fun y hy => by rw [← hl2] at hy; simpa using (List.mem_filter.1 hy).2
  clear hl1 hl2 hins
  obtain ⟨cs, hrow, ha⟩ := h
  rw [hsp] at ha
  obtain ⟨c1, c2, rfl, a1, a2⟩ := All.split ha
  obtain ⟨CS1, rfl, e1, s1, r1⟩ := rawIdx a1
  obtain ⟨CS2, rfl, e2, s2, r2⟩ := rawIdx a2
  have hlen : l.length = (CS1 ++ CS2).length := by rw [hsp, List.length_append, List.length_append, e1, e2]
  have hs : ∀ c ∈ CS1 ++ CS2, shIdx c := fun c hc => (List.mem_append.1 hc).elim (s1 c) (s2 c)
  have hraw : IsL kRawIdx (fun _ => True) w sv (CS1 ++ CS2) := isRawIdx (by rw [← hlen, List.flatten_append]; exact hrow) hs
  obtain ⟨hxs, hxn⟩ := shape_rawIdx hx
  have hR := hx
  obtain rfl := hx
  refine (sInsertIdx CS1 CS2 nmC sv x.name x.table x.col w hraw hs (fun c _ s r => nmC_eq c s r) ?_ ?_ (by rw [← hlen]; exact hl)).mono ?_
  · intro c hc
    obtain ⟨i, hi, rfl⟩ := List.getElem_of_mem hc
    rw [(r1 i _ _ (List.getElem?_eq_getElem (by omega)) (List.getElem?_eq_getElem hi)).2]
    have := k1 _ (List.getElem_mem (n := i) (by omega))
    exact this
  · intro c hc
    obtain ⟨i, hi, rfl⟩ := List.getElem_of_mem hc
    rw [(r2 i _ _ (List.getElem?_eq_getElem (by omega)) (List.getElem?_eq_getElem hi)).2]
    have := k2 _ (List.getElem_mem (n := i) (by omega))
    exact this
  · rintro e w' ⟨v, rfl, own, hb⟩
    have hA := All.append ((a1.keep (keepsB hb)).mono (F' := Fx C w.heap.size) fun k _ hk => .inl hk) (All.append (All.one (kIdx.mono (F' := Fx C w.heap.size) (fun k _ hk => .inl hk) (kIdx.keep (keepsB hb) hR))) ((a2.keep (keepsB hb)).mono (F' := Fx C w.heap.size) fun k _ hk => .inl hk))
    have hB := IsRowB.of_own own (F := Fx C w.heap.size) fun k hk => .inr hk
    have hn : (l1 ++ x :: l2).length = CS1.length + CS2.length + 1 := by simp only [List.length_append, List.length_cons]; omega
    exact ⟨v, rfl, ⟨_, (by rw [hn]; exact hB), hA⟩, hb⟩
/-- The second text of cells. -/
def tbC : List Value → Wd
  | _ :: .string s :: _ => s
  | _ => noW

set_option maxHeartbeats 1000000 in
theorem goneTab (nmv : Wd) (ao : Option Addr) (n c : Nat) (pb : Nat) (s : Wd) (w : World) (hp : w.cell? ⟨pb, 1, none⟩ = some (.string s)) (hpb : pb < w.heap.size) :
    Calls Try.prog 21 #[.agg #[.string nmv, .slice ao n c], .pointer (some ⟨pb, 0, none⟩)] w fun e w' => e = .returned (.bool (decide (nmv = s))) ∧ Below w.heap.size w w' := by
  have E : Hid (decide (nmv = s) = (nmv.toList == s.toList)) := (beq_str _ _).symm
  generalize decide (nmv = s) = r at E
  have hp1 := ((bel1 w (.cells #[.string nmv, .slice ao n c] 43)).cell (p := ⟨pb, 1, none⟩) hpb).trans hp
  go_enter Try.func21, Try.ntmps21
  go_wp2
  go_ret
  exact ⟨ret_bool (by rw [E.out]), bel1 _ _⟩

set_option maxRecDepth 100000 in
set_option maxHeartbeats 4000000 in
theorem outTab_any (l : List TabD) (s : Wd) (sv : Value) (pb C : Nat) (w : World) (h : IsL kTab (fun k => k < C) w sv l) (_ : C ≤ w.heap.size) (hp : w.cell? ⟨pb, 1, none⟩ = some (.string s)) (hpb : pb < w.heap.size) (hl : l.length ≤ 1000000) :
    Calls Try.prog 20 #[sv, .func (.func 21) #[] #[.pointer (some ⟨pb, 0, none⟩)]] w fun e w' => ∃ v, e = .returned v ∧ IsL kTab (Fx C w.heap.size) w' v (l.filter (fun x => !decide (x.name = s))) ∧ Below w.heap.size w w' := by
  obtain ⟨CS, e1, hrow, hs, hR⟩ := isL_rawTab h
  have hone : ∀ u ∈ CS.flatten, u.oneCell' = true := fun u hu => by
    obtain ⟨c, hc, hu⟩ := List.mem_flatten.1 hu
    exact one_shTab (hs c hc) u hu
  have HC := cloneTab_any CS.flatten CS.length sv _ w hrow hone (by rw [e1]; omega)
  have hkf := keep_filter (fun i => decide (nmC (CS.getD i []) = s)) (fun x : TabD => decide (x.name = s)) l CS 0 e1 (fun j x hx => by
    have hj := (List.getElem?_eq_some_iff.1 hx).1
    have hc : CS[j]? = some (CS[j]'(by omega)) := List.getElem?_eq_getElem (by omega)
    have hr := (hR j x _ hx hc).1
    simp only [Nat.zero_add, List.getD_eq_getElem?_getD, hc, Option.getD_some]
    have : nmC CS[j] = x.name := by
      obtain ⟨sv, h1, _⟩ := hr
      rw [h1]; rfl
    rw [this])
  have HD := fun (v : Value) (V : World) (hV : Below w.heap.size w V) (own : V.ownsRow w.heap.size 43 2 v CS.length CS.flatten) => delete_withTab CS v (.pointer (some ⟨pb, 0, none⟩)) (fun i => decide (nmC (CS.getD i []) = s)) w.heap.size V own hs hV.size (fun i cs W hi hW => by
    have hlt : pb < V.heap.size := Nat.lt_of_lt_of_le hpb hV.size
    have hpV := (hV.cell (p := ⟨pb, 1, none⟩) hpb).trans hp
    have hpW : W.cell? ⟨pb, 1, none⟩ = some (.string s) := (World.cell?_of_block (hW.block pb hlt (fun e => by have := (own.lt pb e.symm).1; omega))).trans hpV
    obtain ⟨s0, a1, n1, c1, rfl⟩ := hs cs (List.mem_of_getElem? hi)
    refine (goneTab s0 a1 n1 c1 pb s W hpW (Nat.lt_of_lt_of_le hlt hW.size)).mono ?_
    rintro e W' ⟨rfl, hb⟩
    refine ⟨?_, hb⟩
    simp only [List.getD_eq_getElem?_getD, hi, Option.getD_some]
    rfl)
  have hall : ∀ V, Below w.heap.size w V → All kTab (Fx C w.heap.size) V (l.filter (fun x => !decide (x.name = s))) (keepI (fun i => decide (nmC (CS.getD i []) = s)) 0 CS).flatten := fun V hV =>
    raw_all hkf.1 (hkf.2 _ fun j x c hx hc => kTab.mono (fun k _ hk => .inl hk) (kTab.keep (keepsB hV) (hR j x c hx hc).1))
  have HA : Hid _ := hall
  have HL : Hid _ := hkf.1
  generalize keepI (fun i => decide (nmC (CS.getD i []) = s)) 0 CS = KP at HD HA HL
  clear hall hkf h hrow hR
  go_enter Try.func20, Try.ntmps20
  go_wp2_with (first
    | (go_at_call 48; go_must (go_fit HC; rintro e V ⟨v, rfl, own, hbV⟩; have HD1 := HD v V hbV own))
    | (go_at_call 53; go_must (go_fit HD1; rintro e V2 ⟨v2, rfl, own2, hg2, hb2⟩)))
  go_ret
  have hbb : Below w.heap.size w V2 := hbV.trans hb2
  refine ⟨v2, rfl, ⟨_, ?_, HA.out V2 hbb⟩, hbb⟩
  rw [← HL.out]
  exact IsRowB.of_own own2 fun k hk => .inr hk

set_option maxHeartbeats 1000000 in
theorem goneIdx (nmv tb cl : Wd) (pb : Nat) (s : Wd) (w : World) (hp : w.cell? ⟨pb, 1, none⟩ = some (.string s)) (hpb : pb < w.heap.size) :
    Calls Try.prog 23 #[.agg #[.string nmv, .string tb, .string cl], .pointer (some ⟨pb, 0, none⟩)] w fun e w' => e = .returned (.bool (decide (tb = s))) ∧ Below w.heap.size w w' := by
  have E : Hid (decide (tb = s) = (tb.toList == s.toList)) := (beq_str _ _).symm
  generalize decide (tb = s) = r at E
  have hp1 := ((bel1 w (.cells #[.string nmv, .string tb, .string cl] 63)).cell (p := ⟨pb, 1, none⟩) hpb).trans hp
  go_enter Try.func23, Try.ntmps23
  go_wp2
  go_ret
  exact ⟨ret_bool (by rw [E.out]), bel1 _ _⟩

set_option maxRecDepth 100000 in
set_option maxHeartbeats 4000000 in
theorem outIdx_any (l : List IdxD) (s : Wd) (sv : Value) (pb C : Nat) (w : World) (h : IsL kIdx (fun k => k < C) w sv l) (_ : C ≤ w.heap.size) (hp : w.cell? ⟨pb, 1, none⟩ = some (.string s)) (hpb : pb < w.heap.size) (hl : l.length ≤ 1000000) :
    Calls Try.prog 22 #[sv, .func (.func 23) #[] #[.pointer (some ⟨pb, 0, none⟩)]] w fun e w' => ∃ v, e = .returned v ∧ IsL kIdx (Fx C w.heap.size) w' v (l.filter (fun x => !decide (x.table = s))) ∧ Below w.heap.size w w' := by
  obtain ⟨CS, e1, hrow, hs, hR⟩ := isL_rawIdx h
  have hone : ∀ u ∈ CS.flatten, u.oneCell' = true := fun u hu => by
    obtain ⟨c, hc, hu⟩ := List.mem_flatten.1 hu
    exact one_shIdx (hs c hc) u hu
  have HC := cloneIdx_any CS.flatten CS.length sv _ w hrow hone (by rw [e1]; omega)
  have hkf := keep_filter (fun i => decide (tbC (CS.getD i []) = s)) (fun x : IdxD => decide (x.table = s)) l CS 0 e1 (fun j x hx => by
    have hj := (List.getElem?_eq_some_iff.1 hx).1
    have hc : CS[j]? = some (CS[j]'(by omega)) := List.getElem?_eq_getElem (by omega)
    have hr := (hR j x _ hx hc).1
    simp only [Nat.zero_add, List.getD_eq_getElem?_getD, hc, Option.getD_some]
    have : tbC CS[j] = x.table := by
      have h1 : _ = _ := hr
      rw [h1]; rfl
    rw [this])
  have HD := fun (v : Value) (V : World) (hV : Below w.heap.size w V) (own : V.ownsRow w.heap.size 63 3 v CS.length CS.flatten) => delete_withIdx CS v (.pointer (some ⟨pb, 0, none⟩)) (fun i => decide (tbC (CS.getD i []) = s)) w.heap.size V own hs hV.size (fun i cs W hi hW => by
    have hlt : pb < V.heap.size := Nat.lt_of_lt_of_le hpb hV.size
    have hpV := (hV.cell (p := ⟨pb, 1, none⟩) hpb).trans hp
    have hpW : W.cell? ⟨pb, 1, none⟩ = some (.string s) := (World.cell?_of_block (hW.block pb hlt (fun e => by have := (own.lt pb e.symm).1; omega))).trans hpV
    obtain ⟨s0, s1, s2, rfl⟩ := hs cs (List.mem_of_getElem? hi)
    refine (goneIdx s0 s1 s2 pb s W hpW (Nat.lt_of_lt_of_le hlt hW.size)).mono ?_
    rintro e W' ⟨rfl, hb⟩
    refine ⟨?_, hb⟩
    simp only [List.getD_eq_getElem?_getD, hi, Option.getD_some]
    rfl)
  have hall : ∀ V, Below w.heap.size w V → All kIdx (Fx C w.heap.size) V (l.filter (fun x => !decide (x.table = s))) (keepI (fun i => decide (tbC (CS.getD i []) = s)) 0 CS).flatten := fun V hV =>
    raw_all hkf.1 (hkf.2 _ fun j x c hx hc => kIdx.mono (fun k _ hk => .inl hk) (kIdx.keep (keepsB hV) (hR j x c hx hc).1))
  have HA : Hid _ := hall
  have HL : Hid _ := hkf.1
  generalize keepI (fun i => decide (tbC (CS.getD i []) = s)) 0 CS = KP at HD HA HL
  clear hall hkf h hrow hR
  go_enter Try.func22, Try.ntmps22
  go_wp2_with (first
    | (go_at_call 52; go_must (go_fit HC; rintro e V ⟨v, rfl, own, hbV⟩; have HD1 := HD v V hbV own))
    | (go_at_call 54; go_must (go_fit HD1; rintro e V2 ⟨v2, rfl, own2, hg2, hb2⟩)))
  go_ret
  have hbb : Below w.heap.size w V2 := hbV.trans hb2
  refine ⟨v2, rfl, ⟨_, ?_, HA.out V2 hbb⟩, hbb⟩
  rw [← HL.out]
  exact IsRowB.of_own own2 fun k hk => .inr hk

end Go.Proofs.Ytabanbpnghidhaa

namespace Go.Proofs.Ytabanbpnghidhaa
open Go.RowKit Go.Maps

theorem block_set_other {w : World} {b g : Nat} {x : Obj} (h : w.heap[b]? = some x) (hn : b ≠ g) (o : Nat) (v : Value) : (w.setCell ⟨g, o, none⟩ v).heap[b]? = some x := by
  simp only [World.setCell, Array.getElem?_modify]
  rw [if_neg (fun e => hn e.symm)]; exact h
theorem cat_two {w : World} {g : Nat} {p q : Value} {t : TypeId} (h : w.heap[g]? = some (.cells #[p, q] t)) (a b : Value) : ((w.setCell ⟨g, 0, none⟩ a).setCell ⟨g, 1, none⟩ b).heap[g]? = some (.cells #[a, b] t) := by
  rw [upd (upd h 0 a) 1 b]; rfl
/-- What With answers. -/
def WithPost (ct : CatD) (C : Nat) (w : World) (e : Ending) (w' : World) : Prop := ∃ v, e = .returned v ∧ IsCat (Fx C w.heap.size) w' ct v ∧ Below w.heap.size w w'

set_option maxRecDepth 100000 in
set_option maxHeartbeats 8000000 in
theorem with_k1 (ct : CatD) (cols : List ColD) (to' : Option Addr) (tc : Nat) (io : Option Addr) (ic : Nat) (nmv tbv clv : Wd) (o1 : Option Addr) (c1 : Nat) (o2 : Option Addr) (n2 c2 : Nat) (o3 : Option Addr) (n3 c3 : Nat) (o4 : Option Addr) (n4 c4 : Nat) (o5 : Option Addr) (n5 c5 : Nat) (op xk xn : Int) (xs s nm8 : Wd) (n8 : Int) (o6 : Option Addr) (k6 c6 : Nat) (o7 : Option Addr) (n7 c7 : Nat) (dn : Bool) (nn : Int) (C : Nat) (w : World)
    (hT : IsL kTab (fun k => k < C) w (.slice to' ct.tables.length tc) ct.tables) (hI : IsL kIdx (fun k => k < C) w (.slice io ct.indexes.length ic) ct.indexes) (hcols : IsL kCol (fun k => k < C) w (.slice o1 cols.length c1) cols) (hC : C ≤ w.heap.size) (hlT : ct.tables.length ≤ 1000000) (_ : ct.indexes.length ≤ 1000000) (hr : Rise (ct.tables.map TabD.name)) :
    Calls Try.prog 7 #[.agg #[.slice to' ct.tables.length tc, .slice io ct.indexes.length ic], .agg (sA 1 nmv tbv clv (.slice o1 cols.length c1) (.slice o2 n2 c2) (.slice o3 n3 c3) (.slice o4 n4 c4) (.slice o5 n5 c5) op xk xn xs s nm8 n8 (.slice o6 k6 c6) (.slice o7 n7 c7) dn nn)] w (WithPost ⟨insN TabD.name ct.tables ⟨nmv, cols⟩, ct.indexes⟩ C w) := by
  have hb3 := bel3 w (.cells #[.slice to' ct.tables.length tc, .slice io ct.indexes.length ic] 25) (.cells (sA 1 nmv tbv clv (.slice o1 cols.length c1) (.slice o2 n2 c2) (.slice o3 n3 c3) (.slice o4 n4 c4) (.slice o5 n5 c5) op xk xn xs s nm8 n8 (.slice o6 k6 c6) (.slice o7 n7 c7) dn nn) 36) (.cells #[.slice none 0 0, .slice none 0 0] 25)
  have B0 : (((w.alloc (.cells #[.slice to' ct.tables.length tc, .slice io ct.indexes.length ic] 25)).alloc (.cells (sA 1 nmv tbv clv (.slice o1 cols.length c1) (.slice o2 n2 c2) (.slice o3 n3 c3) (.slice o4 n4 c4) (.slice o5 n5 c5) op xk xn xs s nm8 n8 (.slice o6 k6 c6) (.slice o7 n7 c7) dn nn) 36)).alloc (.cells #[.slice none 0 0, .slice none 0 0] 25)).heap[w.heap.size]? = some (.cells #[.slice to' ct.tables.length tc, .slice io ct.indexes.length ic] 25) := block_alloc_of (block_alloc_of (block_alloc_at _ _) _) _
  have B1 : (((w.alloc (.cells #[.slice to' ct.tables.length tc, .slice io ct.indexes.length ic] 25)).alloc (.cells (sA 1 nmv tbv clv (.slice o1 cols.length c1) (.slice o2 n2 c2) (.slice o3 n3 c3) (.slice o4 n4 c4) (.slice o5 n5 c5) op xk xn xs s nm8 n8 (.slice o6 k6 c6) (.slice o7 n7 c7) dn nn) 36)).alloc (.cells #[.slice none 0 0, .slice none 0 0] 25)).heap[w.heap.size + 1]? = some (.cells (sA 1 nmv tbv clv (.slice o1 cols.length c1) (.slice o2 n2 c2) (.slice o3 n3 c3) (.slice o4 n4 c4) (.slice o5 n5 c5) op xk xn xs s nm8 n8 (.slice o6 k6 c6) (.slice o7 n7 c7) dn nn) 36) := block_alloc_of (block2 _ _ _) _
  have B2 : (((w.alloc (.cells #[.slice to' ct.tables.length tc, .slice io ct.indexes.length ic] 25)).alloc (.cells (sA 1 nmv tbv clv (.slice o1 cols.length c1) (.slice o2 n2 c2) (.slice o3 n3 c3) (.slice o4 n4 c4) (.slice o5 n5 c5) op xk xn xs s nm8 n8 (.slice o6 k6 c6) (.slice o7 n7 c7) dn nn) 36)).alloc (.cells #[.slice none 0 0, .slice none 0 0] 25)).heap[w.heap.size + 2]? = some (.cells #[.slice none 0 0, .slice none 0 0] 25) := block3 _ _ _ _
  have hsz : (((w.alloc (.cells #[.slice to' ct.tables.length tc, .slice io ct.indexes.length ic] 25)).alloc (.cells (sA 1 nmv tbv clv (.slice o1 cols.length c1) (.slice o2 n2 c2) (.slice o3 n3 c3) (.slice o4 n4 c4) (.slice o5 n5 c5) op xk xn xs s nm8 n8 (.slice o6 k6 c6) (.slice o7 n7 c7) dn nn) 36)).alloc (.cells #[.slice none 0 0, .slice none 0 0] 25)).heap.size = w.heap.size + 3 := by simp
  generalize hW : ((w.alloc (.cells #[.slice to' ct.tables.length tc, .slice io ct.indexes.length ic] 25)).alloc (.cells (sA 1 nmv tbv clv (.slice o1 cols.length c1) (.slice o2 n2 c2) (.slice o3 n3 c3) (.slice o4 n4 c4) (.slice o5 n5 c5) op xk xn xs s nm8 n8 (.slice o6 k6 c6) (.slice o7 n7 c7) dn nn) 36)).alloc (.cells #[.slice none 0 0, .slice none 0 0] 25) = W at hb3 B0 B1 B2 hsz
  have HW : Hid _ := hW
  have HSZ : Hid _ := hsz
  clear hW hsz
  have a0 := cell_of_block B0 (j := 0) (u := .slice to' ct.tables.length tc) rfl
  have a1 := cell_of_block B0 (j := 1) (u := .slice io ct.indexes.length ic) rfl
  have b0 := cell_of_block B1 (j := 0) (u := .int .i64 1) rfl
  have b1 := cell_of_block B1 (j := 1) (u := .string nmv) rfl
  have b2 := cell_of_block B1 (j := 2) (u := .string tbv) rfl
  have b3 := cell_of_block B1 (j := 3) (u := .string clv) rfl
  have b4 := cell_of_block B1 (j := 4) (u := .slice o1 cols.length c1) rfl
  have hCW : C ≤ W.heap.size := Nat.le_trans hC hb3.size
  have hTW := hT.keep (keepsC (hb3.mono hC))
  have hIW := hI.keep (keepsC (hb3.mono hC))
  have hcW := hcols.keep (keepsC (hb3.mono hC))
  have HI := insTab_any ct.tables ⟨nmv, cols⟩ (.slice to' ct.tables.length tc) [.string nmv, .slice o1 cols.length c1] C W hTW ⟨_, rfl, hcW⟩ hCW hr hlT
  rw [HSZ.out] at HI
  clear hT hcols hr hcW hTW
  generalize insN TabD.name ct.tables ⟨nmv, cols⟩ = T2 at HI ⊢
  go_enter Try.func7, Try.ntmps7
  go_upto_region 1 with fail
  rw [HW.out]
  go_wp2_with (go_at_call 16; go_must (go_fit HI; rintro e w1 ⟨v1, rfl, hL1, hb1⟩; obtain ⟨vo, vc, rfl⟩ := hL1.shape; have D0 := (hb1.block _ (by omega)).trans B0; have D2 := (hb1.block _ (by omega)).trans B2; have z0 := cell_of_block D0 (j := 0) (u := .slice to' ct.tables.length tc) rfl; have z1 := cell_of_block D0 (j := 1) (u := .slice io ct.indexes.length ic) rfl; have z2 := cell_of_block D2 (j := 0) (u := .slice none 0 0) rfl; have z3 := cell_of_block D2 (j := 1) (u := .slice none 0 0) rfl; have f0 : w1.frozen? ⟨w.heap.size, 0, none⟩ = false := (by simp [World.frozen?, D0]); have f2 : w1.frozen? ⟨w.heap.size + 2, 0, none⟩ = false := (by simp [World.frozen?, D2]); have f3 : w1.frozen? ⟨w.heap.size + 2, 1, none⟩ = false := (by simp [World.frozen?, D2])))
  refine bodyPost_ret (v := .agg #[.slice vo T2.length vc, .slice io ct.indexes.length ic]) (results_cell_row Try.results7 _ _ (w.heap.size + 2) 25 #[.slice vo T2.length vc, .slice io ct.indexes.length ic] _ _ rfl (cat_two (block_set_other D2 (by omega) _ _) _ _) Try.underlying25 rfl (by kernel_rfl)) rfl ?_
  have hbw : Below w.heap.size w w1 := hb3.trans (hb1.mono (by omega))
  refine ⟨_, rfl, ⟨_, _, rfl, ?_, ?_⟩, ((hbw.setCell (show w.heap.size ≤ w.heap.size by omega) _).setCell (show w.heap.size ≤ w.heap.size + 2 by omega) _).setCell (show w.heap.size ≤ w.heap.size + 2 by omega) _⟩
  · refine (hL1.keep ((((Keeps.refl _ w1).set ?_ _ _).set ?_ _ _).set ?_ _ _)).mono fun k _ hk => ?_
    · rintro (h | h) <;> omega
    · rintro (h | h) <;> omega
    · rintro (h | h) <;> omega
    · rcases hk with h | h
      · exact .inl h
      · exact .inr (by omega)
  · refine (hI.keep ?_).mono fun k _ hk => .inl hk
    exact (((keepsC (hbw.mono hC)).set (b := w.heap.size) (by omega) _ _).set (b := w.heap.size + 2) (by omega) _ _).set (b := w.heap.size + 2) (by omega) _ _

set_option maxRecDepth 100000 in
set_option maxHeartbeats 8000000 in
theorem with_k2 (ct : CatD) (cols : List ColD) (to' : Option Addr) (tc : Nat) (io : Option Addr) (ic : Nat) (nmv tbv clv : Wd) (o1 : Option Addr) (c1 : Nat) (o2 : Option Addr) (n2 c2 : Nat) (o3 : Option Addr) (n3 c3 : Nat) (o4 : Option Addr) (n4 c4 : Nat) (o5 : Option Addr) (n5 c5 : Nat) (op xk xn : Int) (xs s nm8 : Wd) (n8 : Int) (o6 : Option Addr) (k6 c6 : Nat) (o7 : Option Addr) (n7 c7 : Nat) (dn : Bool) (nn : Int) (C : Nat) (w : World)
    (hT : IsL kTab (fun k => k < C) w (.slice to' ct.tables.length tc) ct.tables) (hI : IsL kIdx (fun k => k < C) w (.slice io ct.indexes.length ic) ct.indexes) (hcols : IsL kCol (fun k => k < C) w (.slice o1 cols.length c1) cols) (hC : C ≤ w.heap.size) (_ : ct.tables.length ≤ 1000000) (hlI : ct.indexes.length ≤ 1000000) (hr : Rise (ct.indexes.map IdxD.name)) :
    Calls Try.prog 7 #[.agg #[.slice to' ct.tables.length tc, .slice io ct.indexes.length ic], .agg (sA 2 nmv tbv clv (.slice o1 cols.length c1) (.slice o2 n2 c2) (.slice o3 n3 c3) (.slice o4 n4 c4) (.slice o5 n5 c5) op xk xn xs s nm8 n8 (.slice o6 k6 c6) (.slice o7 n7 c7) dn nn)] w (WithPost ⟨ct.tables, insN IdxD.name ct.indexes ⟨nmv, tbv, clv⟩⟩ C w) := by
  have hb3 := bel3 w (.cells #[.slice to' ct.tables.length tc, .slice io ct.indexes.length ic] 25) (.cells (sA 2 nmv tbv clv (.slice o1 cols.length c1) (.slice o2 n2 c2) (.slice o3 n3 c3) (.slice o4 n4 c4) (.slice o5 n5 c5) op xk xn xs s nm8 n8 (.slice o6 k6 c6) (.slice o7 n7 c7) dn nn) 36) (.cells #[.slice none 0 0, .slice none 0 0] 25)
  have B0 : (((w.alloc (.cells #[.slice to' ct.tables.length tc, .slice io ct.indexes.length ic] 25)).alloc (.cells (sA 2 nmv tbv clv (.slice o1 cols.length c1) (.slice o2 n2 c2) (.slice o3 n3 c3) (.slice o4 n4 c4) (.slice o5 n5 c5) op xk xn xs s nm8 n8 (.slice o6 k6 c6) (.slice o7 n7 c7) dn nn) 36)).alloc (.cells #[.slice none 0 0, .slice none 0 0] 25)).heap[w.heap.size]? = some (.cells #[.slice to' ct.tables.length tc, .slice io ct.indexes.length ic] 25) := block_alloc_of (block_alloc_of (block_alloc_at _ _) _) _
  have B1 : (((w.alloc (.cells #[.slice to' ct.tables.length tc, .slice io ct.indexes.length ic] 25)).alloc (.cells (sA 2 nmv tbv clv (.slice o1 cols.length c1) (.slice o2 n2 c2) (.slice o3 n3 c3) (.slice o4 n4 c4) (.slice o5 n5 c5) op xk xn xs s nm8 n8 (.slice o6 k6 c6) (.slice o7 n7 c7) dn nn) 36)).alloc (.cells #[.slice none 0 0, .slice none 0 0] 25)).heap[w.heap.size + 1]? = some (.cells (sA 2 nmv tbv clv (.slice o1 cols.length c1) (.slice o2 n2 c2) (.slice o3 n3 c3) (.slice o4 n4 c4) (.slice o5 n5 c5) op xk xn xs s nm8 n8 (.slice o6 k6 c6) (.slice o7 n7 c7) dn nn) 36) := block_alloc_of (block2 _ _ _) _
  have B2 : (((w.alloc (.cells #[.slice to' ct.tables.length tc, .slice io ct.indexes.length ic] 25)).alloc (.cells (sA 2 nmv tbv clv (.slice o1 cols.length c1) (.slice o2 n2 c2) (.slice o3 n3 c3) (.slice o4 n4 c4) (.slice o5 n5 c5) op xk xn xs s nm8 n8 (.slice o6 k6 c6) (.slice o7 n7 c7) dn nn) 36)).alloc (.cells #[.slice none 0 0, .slice none 0 0] 25)).heap[w.heap.size + 2]? = some (.cells #[.slice none 0 0, .slice none 0 0] 25) := block3 _ _ _ _
  have hsz : (((w.alloc (.cells #[.slice to' ct.tables.length tc, .slice io ct.indexes.length ic] 25)).alloc (.cells (sA 2 nmv tbv clv (.slice o1 cols.length c1) (.slice o2 n2 c2) (.slice o3 n3 c3) (.slice o4 n4 c4) (.slice o5 n5 c5) op xk xn xs s nm8 n8 (.slice o6 k6 c6) (.slice o7 n7 c7) dn nn) 36)).alloc (.cells #[.slice none 0 0, .slice none 0 0] 25)).heap.size = w.heap.size + 3 := by simp
  generalize hW : ((w.alloc (.cells #[.slice to' ct.tables.length tc, .slice io ct.indexes.length ic] 25)).alloc (.cells (sA 2 nmv tbv clv (.slice o1 cols.length c1) (.slice o2 n2 c2) (.slice o3 n3 c3) (.slice o4 n4 c4) (.slice o5 n5 c5) op xk xn xs s nm8 n8 (.slice o6 k6 c6) (.slice o7 n7 c7) dn nn) 36)).alloc (.cells #[.slice none 0 0, .slice none 0 0] 25) = W at hb3 B0 B1 B2 hsz
  have HW : Hid _ := hW
  have HSZ : Hid _ := hsz
  clear hW hsz
  have a0 := cell_of_block B0 (j := 0) (u := .slice to' ct.tables.length tc) rfl
  have a1 := cell_of_block B0 (j := 1) (u := .slice io ct.indexes.length ic) rfl
  have b0 := cell_of_block B1 (j := 0) (u := .int .i64 2) rfl
  have b1 := cell_of_block B1 (j := 1) (u := .string nmv) rfl
  have b2 := cell_of_block B1 (j := 2) (u := .string tbv) rfl
  have b3 := cell_of_block B1 (j := 3) (u := .string clv) rfl
  have b4 := cell_of_block B1 (j := 4) (u := .slice o1 cols.length c1) rfl
  have hCW : C ≤ W.heap.size := Nat.le_trans hC hb3.size
  have hTW := hT.keep (keepsC (hb3.mono hC))
  have hIW := hI.keep (keepsC (hb3.mono hC))
  have hcW := hcols.keep (keepsC (hb3.mono hC))
  have HI := insIdx_any ct.indexes ⟨nmv, tbv, clv⟩ (.slice io ct.indexes.length ic) [.string nmv, .string tbv, .string clv] C W hIW rfl hCW hr hlI
  rw [HSZ.out] at HI
  clear hI hcols hr hcW hTW
  generalize insN IdxD.name ct.indexes ⟨nmv, tbv, clv⟩ = T2 at HI ⊢
  go_enter Try.func7, Try.ntmps7
  go_upto_region 1 with fail
  rw [HW.out]
  go_wp2_with (go_at_call 18; go_must (go_fit HI; rintro e w1 ⟨v1, rfl, hL1, hb1⟩; obtain ⟨vo, vc, rfl⟩ := hL1.shape; have D0 := (hb1.block _ (by omega)).trans B0; have D2 := (hb1.block _ (by omega)).trans B2; have z0 := cell_of_block D0 (j := 0) (u := .slice to' ct.tables.length tc) rfl; have z1 := cell_of_block D0 (j := 1) (u := .slice io ct.indexes.length ic) rfl; have z2 := cell_of_block D2 (j := 0) (u := .slice none 0 0) rfl; have z3 := cell_of_block D2 (j := 1) (u := .slice none 0 0) rfl; have f0 : w1.frozen? ⟨w.heap.size, 1, none⟩ = false := (by simp [World.frozen?, D0]); have f2 : w1.frozen? ⟨w.heap.size + 2, 0, none⟩ = false := (by simp [World.frozen?, D2]); have f3 : w1.frozen? ⟨w.heap.size + 2, 1, none⟩ = false := (by simp [World.frozen?, D2])))
  refine bodyPost_ret (v := .agg #[.slice to' ct.tables.length tc, .slice vo T2.length vc]) (results_cell_row Try.results7 _ _ (w.heap.size + 2) 25 #[.slice to' ct.tables.length tc, .slice vo T2.length vc] _ _ rfl (cat_two (block_set_other D2 (by omega) _ _) _ _) Try.underlying25 rfl (by kernel_rfl)) rfl ?_
  have hbw : Below w.heap.size w w1 := hb3.trans (hb1.mono (by omega))
  refine ⟨_, rfl, ⟨_, _, rfl, ?_, ?_⟩, ((hbw.setCell (show w.heap.size ≤ w.heap.size by omega) _).setCell (show w.heap.size ≤ w.heap.size + 2 by omega) _).setCell (show w.heap.size ≤ w.heap.size + 2 by omega) _⟩
  rotate_left
  · refine (hL1.keep ((((Keeps.refl _ w1).set ?_ _ _).set ?_ _ _).set ?_ _ _)).mono fun k _ hk => ?_
    · rintro (h | h) <;> omega
    · rintro (h | h) <;> omega
    · rintro (h | h) <;> omega
    · rcases hk with h | h
      · exact .inl h
      · exact .inr (by omega)
  · refine (hT.keep ?_).mono fun k _ hk => .inl hk
    exact (((keepsC (hbw.mono hC)).set (b := w.heap.size) (by omega) _ _).set (b := w.heap.size + 2) (by omega) _ _).set (b := w.heap.size + 2) (by omega) _ _

set_option maxRecDepth 100000 in
set_option maxHeartbeats 8000000 in
theorem with_k3 (ct : CatD) (cols : List ColD) (to' : Option Addr) (tc : Nat) (io : Option Addr) (ic : Nat) (nmv tbv clv : Wd) (o1 : Option Addr) (c1 : Nat) (o2 : Option Addr) (n2 c2 : Nat) (o3 : Option Addr) (n3 c3 : Nat) (o4 : Option Addr) (n4 c4 : Nat) (o5 : Option Addr) (n5 c5 : Nat) (op xk xn : Int) (xs s nm8 : Wd) (n8 : Int) (o6 : Option Addr) (k6 c6 : Nat) (o7 : Option Addr) (n7 c7 : Nat) (dn : Bool) (nn : Int) (C : Nat) (w : World)
    (hT : IsL kTab (fun k => k < C) w (.slice to' ct.tables.length tc) ct.tables) (hI : IsL kIdx (fun k => k < C) w (.slice io ct.indexes.length ic) ct.indexes) (hcols : IsL kCol (fun k => k < C) w (.slice o1 cols.length c1) cols) (hC : C ≤ w.heap.size) (hlT : ct.tables.length ≤ 1000000) (hlI : ct.indexes.length ≤ 1000000)  :
    Calls Try.prog 7 #[.agg #[.slice to' ct.tables.length tc, .slice io ct.indexes.length ic], .agg (sA 3 nmv tbv clv (.slice o1 cols.length c1) (.slice o2 n2 c2) (.slice o3 n3 c3) (.slice o4 n4 c4) (.slice o5 n5 c5) op xk xn xs s nm8 n8 (.slice o6 k6 c6) (.slice o7 n7 c7) dn nn)] w (WithPost ⟨ct.tables.filter (fun t => !decide (t.name = nmv)), ct.indexes.filter (fun x => !decide (x.table = nmv))⟩ C w) := by
  have hb3 := bel3 w (.cells #[.slice to' ct.tables.length tc, .slice io ct.indexes.length ic] 25) (.cells (sA 3 nmv tbv clv (.slice o1 cols.length c1) (.slice o2 n2 c2) (.slice o3 n3 c3) (.slice o4 n4 c4) (.slice o5 n5 c5) op xk xn xs s nm8 n8 (.slice o6 k6 c6) (.slice o7 n7 c7) dn nn) 36) (.cells #[.slice none 0 0, .slice none 0 0] 25)
  have B0 : (((w.alloc (.cells #[.slice to' ct.tables.length tc, .slice io ct.indexes.length ic] 25)).alloc (.cells (sA 3 nmv tbv clv (.slice o1 cols.length c1) (.slice o2 n2 c2) (.slice o3 n3 c3) (.slice o4 n4 c4) (.slice o5 n5 c5) op xk xn xs s nm8 n8 (.slice o6 k6 c6) (.slice o7 n7 c7) dn nn) 36)).alloc (.cells #[.slice none 0 0, .slice none 0 0] 25)).heap[w.heap.size]? = some (.cells #[.slice to' ct.tables.length tc, .slice io ct.indexes.length ic] 25) := block_alloc_of (block_alloc_of (block_alloc_at _ _) _) _
  have B1 : (((w.alloc (.cells #[.slice to' ct.tables.length tc, .slice io ct.indexes.length ic] 25)).alloc (.cells (sA 3 nmv tbv clv (.slice o1 cols.length c1) (.slice o2 n2 c2) (.slice o3 n3 c3) (.slice o4 n4 c4) (.slice o5 n5 c5) op xk xn xs s nm8 n8 (.slice o6 k6 c6) (.slice o7 n7 c7) dn nn) 36)).alloc (.cells #[.slice none 0 0, .slice none 0 0] 25)).heap[w.heap.size + 1]? = some (.cells (sA 3 nmv tbv clv (.slice o1 cols.length c1) (.slice o2 n2 c2) (.slice o3 n3 c3) (.slice o4 n4 c4) (.slice o5 n5 c5) op xk xn xs s nm8 n8 (.slice o6 k6 c6) (.slice o7 n7 c7) dn nn) 36) := block_alloc_of (block2 _ _ _) _
  have B2 : (((w.alloc (.cells #[.slice to' ct.tables.length tc, .slice io ct.indexes.length ic] 25)).alloc (.cells (sA 3 nmv tbv clv (.slice o1 cols.length c1) (.slice o2 n2 c2) (.slice o3 n3 c3) (.slice o4 n4 c4) (.slice o5 n5 c5) op xk xn xs s nm8 n8 (.slice o6 k6 c6) (.slice o7 n7 c7) dn nn) 36)).alloc (.cells #[.slice none 0 0, .slice none 0 0] 25)).heap[w.heap.size + 2]? = some (.cells #[.slice none 0 0, .slice none 0 0] 25) := block3 _ _ _ _
  have hsz : (((w.alloc (.cells #[.slice to' ct.tables.length tc, .slice io ct.indexes.length ic] 25)).alloc (.cells (sA 3 nmv tbv clv (.slice o1 cols.length c1) (.slice o2 n2 c2) (.slice o3 n3 c3) (.slice o4 n4 c4) (.slice o5 n5 c5) op xk xn xs s nm8 n8 (.slice o6 k6 c6) (.slice o7 n7 c7) dn nn) 36)).alloc (.cells #[.slice none 0 0, .slice none 0 0] 25)).heap.size = w.heap.size + 3 := by simp
  generalize hW : ((w.alloc (.cells #[.slice to' ct.tables.length tc, .slice io ct.indexes.length ic] 25)).alloc (.cells (sA 3 nmv tbv clv (.slice o1 cols.length c1) (.slice o2 n2 c2) (.slice o3 n3 c3) (.slice o4 n4 c4) (.slice o5 n5 c5) op xk xn xs s nm8 n8 (.slice o6 k6 c6) (.slice o7 n7 c7) dn nn) 36)).alloc (.cells #[.slice none 0 0, .slice none 0 0] 25) = W at hb3 B0 B1 B2 hsz
  have HW : Hid _ := hW
  have HSZ : Hid _ := hsz
  clear hW hsz
  have a0 := cell_of_block B0 (j := 0) (u := .slice to' ct.tables.length tc) rfl
  have a1 := cell_of_block B0 (j := 1) (u := .slice io ct.indexes.length ic) rfl
  have b0 := cell_of_block B1 (j := 0) (u := .int .i64 3) rfl
  have b1 := cell_of_block B1 (j := 1) (u := .string nmv) rfl
  have b2 := cell_of_block B1 (j := 2) (u := .string tbv) rfl
  have b3 := cell_of_block B1 (j := 3) (u := .string clv) rfl
  have b4 := cell_of_block B1 (j := 4) (u := .slice o1 cols.length c1) rfl
  have hCW : C ≤ W.heap.size := Nat.le_trans hC hb3.size
  have hTW := hT.keep (keepsC (hb3.mono hC))
  have hIW := hI.keep (keepsC (hb3.mono hC))
  have hcW := hcols.keep (keepsC (hb3.mono hC))
  have HI := outTab_any ct.tables nmv (.slice to' ct.tables.length tc) (w.heap.size + 1) C W hTW hCW b1 (lt_of_block B1) hlT
  have HJ := fun V (hV : Below (w.heap.size + 3) W V) (u : Value) => outIdx_any ct.indexes nmv (.slice io ct.indexes.length ic) (w.heap.size + 1) C (V.setCell ⟨w.heap.size, 0, none⟩ u) (hIW.keep ((keepsC (hV.mono (by omega))).set (b := w.heap.size) (by omega) _ _)) (by have := hV.size; simp [World.setCell]; omega)
    ((World.cell?_of_block (block_set_other ((hV.block _ (by omega)).trans B1) (by omega) 0 u |>.trans B1.symm)).trans b1) (by have := hV.size; have := HSZ.out; simp [World.setCell]; omega) hlI
  rw [HSZ.out] at HI
  clear hI hcols hcW hTW hT hIW
  generalize ct.tables.filter (fun t => !decide (t.name = nmv)) = T2 at HI ⊢
  generalize ct.indexes.filter (fun x => !decide (x.table = nmv)) = I2 at HJ ⊢
  go_enter Try.func7, Try.ntmps7
  go_upto_region 1 with fail
  rw [HW.out]
  go_wp2_with (first
    | (go_at_call 20; go_must (go_fit HI; rintro e w1 ⟨v1, rfl, hL1, hb1⟩; obtain ⟨vo, vc, rfl⟩ := hL1.shape; have D0 := (hb1.block _ (by omega)).trans B0; have D2 := (hb1.block _ (by omega)).trans B2; have z0 := cell_of_block D0 (j := 0) (u := .slice to' ct.tables.length tc) rfl; have z1 := cell_of_block D0 (j := 1) (u := .slice io ct.indexes.length ic) rfl; have f0 : w1.frozen? ⟨w.heap.size, 0, none⟩ = false := (by simp [World.frozen?, D0]); have HJ1 := HJ w1 hb1 (.slice vo T2.length vc); have hw1s : (w1.setCell ⟨w.heap.size, 0, none⟩ (.slice vo T2.length vc)).heap.size = w1.heap.size := (by simp [World.setCell]); rw [hw1s] at HJ1))
    | (go_at_call 22; go_must (go_fit HJ1; rintro e w2 ⟨v2, rfl, hL2, hb2⟩; obtain ⟨uo, uc, rfl⟩ := hL2.shape; have E0 := (hb2.block _ (by have := hb1.size; have := HSZ.out; omega)).trans (upd D0 0 (.slice vo T2.length vc)); have E2 := (hb2.block _ (by have := hb1.size; have := HSZ.out; omega)).trans (block_set_other D2 (by omega) 0 (.slice vo T2.length vc)); have y0 := cell_of_block E0 (j := 0) (u := .slice vo T2.length vc) rfl; have y1 := cell_of_block E0 (j := 1) (u := .slice io ct.indexes.length ic) rfl; have y2 := cell_of_block E2 (j := 0) (u := .slice none 0 0) rfl; have y3 := cell_of_block E2 (j := 1) (u := .slice none 0 0) rfl; have g0 : w2.frozen? ⟨w.heap.size, 1, none⟩ = false := (by simp [World.frozen?, E0]); have g2 : w2.frozen? ⟨w.heap.size + 2, 0, none⟩ = false := (by simp [World.frozen?, E2]); have g3 : w2.frozen? ⟨w.heap.size + 2, 1, none⟩ = false := (by simp [World.frozen?, E2]))))
  refine bodyPost_ret (v := .agg #[.slice vo T2.length vc, .slice uo I2.length uc]) (results_cell_row Try.results7 _ _ (w.heap.size + 2) 25 #[.slice vo T2.length vc, .slice uo I2.length uc] _ _ rfl (cat_two (block_set_other E2 (by omega) _ _) _ _) Try.underlying25 rfl (by kernel_rfl)) rfl ?_
  have hs1 := hb1.size
  rw [HSZ.out] at hs1
  have hbw : Below w.heap.size w (w1.setCell ⟨w.heap.size, 0, none⟩ (.slice vo T2.length vc)) := (hb3.trans (hb1.mono (by omega))).setCell (show w.heap.size ≤ w.heap.size by omega) _
  have hbw2 : Below w.heap.size w w2 := hbw.trans (hb2.mono (by omega))
  refine ⟨_, rfl, ⟨_, _, rfl, ?_, ?_⟩, ((hbw2.setCell (show w.heap.size ≤ w.heap.size by omega) _).setCell (show w.heap.size ≤ w.heap.size + 2 by omega) _).setCell (show w.heap.size ≤ w.heap.size + 2 by omega) _⟩
  · have hk1 : Keeps (Fx C (w.heap.size + 3)) w1 w2 := ((Keeps.refl _ w1).set (b := w.heap.size) (by rintro (h | h) <;> omega) 0 (.slice vo T2.length vc)).trans ⟨hb2.size, fun k _ hl => hb2.block k (by rw [hw1s] at hl; exact hl)⟩
    refine (hL1.keep (((hk1.set ?_ _ _).set ?_ _ _).set ?_ _ _)).mono fun k _ hk => ?_
    · rintro (h | h) <;> omega
    · rintro (h | h) <;> omega
    · rintro (h | h) <;> omega
    · rcases hk with h | h
      · exact .inl h
      · exact .inr (by omega)
  · refine (hL2.keep ((((Keeps.refl _ w2).set ?_ _ _).set ?_ _ _).set ?_ _ _)).mono fun k _ hk => ?_
    · rintro (h | h) <;> omega
    · rintro (h | h) <;> omega
    · rintro (h | h) <;> omega
    · rcases hk with h | h
      · exact .inl h
      · exact .inr (by omega)

set_option maxRecDepth 100000 in
set_option maxHeartbeats 8000000 in
theorem with_k0 (ct : CatD) (cols : List ColD) (to' : Option Addr) (tc : Nat) (io : Option Addr) (ic : Nat) (kd : Int) (nmv tbv clv : Wd) (o1 : Option Addr) (c1 : Nat) (o2 : Option Addr) (n2 c2 : Nat) (o3 : Option Addr) (n3 c3 : Nat) (o4 : Option Addr) (n4 c4 : Nat) (o5 : Option Addr) (n5 c5 : Nat) (op xk xn : Int) (xs s nm8 : Wd) (n8 : Int) (o6 : Option Addr) (k6 c6 : Nat) (o7 : Option Addr) (n7 c7 : Nat) (dn : Bool) (nn : Int) (C : Nat) (w : World)
    (hT : IsL kTab (fun k => k < C) w (.slice to' ct.tables.length tc) ct.tables) (hI : IsL kIdx (fun k => k < C) w (.slice io ct.indexes.length ic) ct.indexes) (hcols : IsL kCol (fun k => k < C) w (.slice o1 cols.length c1) cols) (hC : C ≤ w.heap.size) (_ : ct.tables.length ≤ 1000000) (_ : ct.indexes.length ≤ 1000000) (hk1 : ¬ kd = 1) (hk2 : ¬ kd = 2) (hk3 : ¬ kd = 3) :
    Calls Try.prog 7 #[.agg #[.slice to' ct.tables.length tc, .slice io ct.indexes.length ic], .agg (sA kd nmv tbv clv (.slice o1 cols.length c1) (.slice o2 n2 c2) (.slice o3 n3 c3) (.slice o4 n4 c4) (.slice o5 n5 c5) op xk xn xs s nm8 n8 (.slice o6 k6 c6) (.slice o7 n7 c7) dn nn)] w (WithPost ct C w) := by
  have hb3 := bel3 w (.cells #[.slice to' ct.tables.length tc, .slice io ct.indexes.length ic] 25) (.cells (sA kd nmv tbv clv (.slice o1 cols.length c1) (.slice o2 n2 c2) (.slice o3 n3 c3) (.slice o4 n4 c4) (.slice o5 n5 c5) op xk xn xs s nm8 n8 (.slice o6 k6 c6) (.slice o7 n7 c7) dn nn) 36) (.cells #[.slice none 0 0, .slice none 0 0] 25)
  have B0 : (((w.alloc (.cells #[.slice to' ct.tables.length tc, .slice io ct.indexes.length ic] 25)).alloc (.cells (sA kd nmv tbv clv (.slice o1 cols.length c1) (.slice o2 n2 c2) (.slice o3 n3 c3) (.slice o4 n4 c4) (.slice o5 n5 c5) op xk xn xs s nm8 n8 (.slice o6 k6 c6) (.slice o7 n7 c7) dn nn) 36)).alloc (.cells #[.slice none 0 0, .slice none 0 0] 25)).heap[w.heap.size]? = some (.cells #[.slice to' ct.tables.length tc, .slice io ct.indexes.length ic] 25) := block_alloc_of (block_alloc_of (block_alloc_at _ _) _) _
  have B1 : (((w.alloc (.cells #[.slice to' ct.tables.length tc, .slice io ct.indexes.length ic] 25)).alloc (.cells (sA kd nmv tbv clv (.slice o1 cols.length c1) (.slice o2 n2 c2) (.slice o3 n3 c3) (.slice o4 n4 c4) (.slice o5 n5 c5) op xk xn xs s nm8 n8 (.slice o6 k6 c6) (.slice o7 n7 c7) dn nn) 36)).alloc (.cells #[.slice none 0 0, .slice none 0 0] 25)).heap[w.heap.size + 1]? = some (.cells (sA kd nmv tbv clv (.slice o1 cols.length c1) (.slice o2 n2 c2) (.slice o3 n3 c3) (.slice o4 n4 c4) (.slice o5 n5 c5) op xk xn xs s nm8 n8 (.slice o6 k6 c6) (.slice o7 n7 c7) dn nn) 36) := block_alloc_of (block2 _ _ _) _
  have B2 : (((w.alloc (.cells #[.slice to' ct.tables.length tc, .slice io ct.indexes.length ic] 25)).alloc (.cells (sA kd nmv tbv clv (.slice o1 cols.length c1) (.slice o2 n2 c2) (.slice o3 n3 c3) (.slice o4 n4 c4) (.slice o5 n5 c5) op xk xn xs s nm8 n8 (.slice o6 k6 c6) (.slice o7 n7 c7) dn nn) 36)).alloc (.cells #[.slice none 0 0, .slice none 0 0] 25)).heap[w.heap.size + 2]? = some (.cells #[.slice none 0 0, .slice none 0 0] 25) := block3 _ _ _ _
  have hsz : (((w.alloc (.cells #[.slice to' ct.tables.length tc, .slice io ct.indexes.length ic] 25)).alloc (.cells (sA kd nmv tbv clv (.slice o1 cols.length c1) (.slice o2 n2 c2) (.slice o3 n3 c3) (.slice o4 n4 c4) (.slice o5 n5 c5) op xk xn xs s nm8 n8 (.slice o6 k6 c6) (.slice o7 n7 c7) dn nn) 36)).alloc (.cells #[.slice none 0 0, .slice none 0 0] 25)).heap.size = w.heap.size + 3 := by simp
  generalize hW : ((w.alloc (.cells #[.slice to' ct.tables.length tc, .slice io ct.indexes.length ic] 25)).alloc (.cells (sA kd nmv tbv clv (.slice o1 cols.length c1) (.slice o2 n2 c2) (.slice o3 n3 c3) (.slice o4 n4 c4) (.slice o5 n5 c5) op xk xn xs s nm8 n8 (.slice o6 k6 c6) (.slice o7 n7 c7) dn nn) 36)).alloc (.cells #[.slice none 0 0, .slice none 0 0] 25) = W at hb3 B0 B1 B2 hsz
  have HW : Hid _ := hW
  have HSZ : Hid _ := hsz
  clear hW hsz
  have a0 := cell_of_block B0 (j := 0) (u := .slice to' ct.tables.length tc) rfl
  have a1 := cell_of_block B0 (j := 1) (u := .slice io ct.indexes.length ic) rfl
  have b0 := cell_of_block B1 (j := 0) (u := .int .i64 kd) rfl
  have b1 := cell_of_block B1 (j := 1) (u := .string nmv) rfl
  have b2 := cell_of_block B1 (j := 2) (u := .string tbv) rfl
  have b3 := cell_of_block B1 (j := 3) (u := .string clv) rfl
  have b4 := cell_of_block B1 (j := 4) (u := .slice o1 cols.length c1) rfl
  have hCW : C ≤ W.heap.size := Nat.le_trans hC hb3.size
  have hTW := hT.keep (keepsC (hb3.mono hC))
  have hIW := hI.keep (keepsC (hb3.mono hC))
  have hcW := hcols.keep (keepsC (hb3.mono hC))
  have z2 := cell_of_block B2 (j := 0) (u := .slice none 0 0) rfl
  have z3 := cell_of_block B2 (j := 1) (u := .slice none 0 0) rfl
  have f2 : W.frozen? ⟨w.heap.size + 2, 0, none⟩ = false := by simp [World.frozen?, B2]
  have f3 : W.frozen? ⟨w.heap.size + 2, 1, none⟩ = false := by simp [World.frozen?, B2]
  go_enter Try.func7, Try.ntmps7
  go_upto_region 1 with fail
  rw [HW.out]
  go_wp2
  refine bodyPost_ret (v := .agg #[.slice to' ct.tables.length tc, .slice io ct.indexes.length ic]) (results_cell_row Try.results7 _ _ (w.heap.size + 2) 25 #[.slice to' ct.tables.length tc, .slice io ct.indexes.length ic] _ _ rfl (cat_two B2 _ _) Try.underlying25 rfl (by kernel_rfl)) rfl ?_
  refine ⟨_, rfl, ⟨_, _, rfl, ?_, ?_⟩, (hb3.setCell (show w.heap.size ≤ w.heap.size + 2 by omega) _).setCell (show w.heap.size ≤ w.heap.size + 2 by omega) _⟩
  · exact (hT.keep (((keepsC (hb3.mono hC)).set (b := w.heap.size + 2) (by omega) _ _).set (b := w.heap.size + 2) (by omega) _ _)).mono fun k _ hk => .inl hk
  · exact (hI.keep (((keepsC (hb3.mono hC)).set (b := w.heap.size + 2) (by omega) _ _).set (b := w.heap.size + 2) (by omega) _ _)).mono fun k _ hk => .inl hk

/-- P4.9: With is withC. -/
theorem with_any (ct : CatD) (v : Value) (st : Stm) (c : List Value) (C : Nat) (w : World) (hcat : IsCat (fun k => k < C) w ct v) (hst : kStm.R (fun k => k < C) w st c) (hC : C ≤ w.heap.size) (hlT : ct.tables.length ≤ 1000000) (hlI : ct.indexes.length ≤ 1000000)
    (hrT : Rise (ct.tables.map TabD.name)) (hrI : Rise (ct.indexes.map IdxD.name)) :
    Calls Try.prog 7 #[v, .agg c.toArray] w (WithPost (withC ct st) C w) := by
  obtain ⟨tv, iv, rfl, hT, hI⟩ := hcat
  obtain ⟨to', tc, rfl⟩ := hT.shape
  obtain ⟨io, ic, rfl⟩ := hI.shape
  obtain ⟨o1, c1, o2, c2, o3, c3, o4, c4, o5, c5, op, xk, xn, xs, s, nmv, n8, o6, k6, c6, o7, c7, rfl, i1, _⟩ := stm_shape hst
  obtain ⟨kd, nm1, tb1, cl1, cols, rows, sets, frm, out, wh, order, dn, nn⟩ := st
  simp only at i1 ⊢
  rw [Array.toArray_toList]
  unfold withC
  by_cases h1 : kd = 1
  · subst h1
    exact with_k1 ct cols to' tc io ic nm1 tb1 cl1 o1 c1 _ _ _ _ _ _ _ _ _ _ _ _ _ _ _ _ _ _ _ _ _ _ _ _ _ _ _ C w hT hI i1 hC hlT hlI hrT
  by_cases h2 : kd = 2
  · subst h2
    exact with_k2 ct cols to' tc io ic nm1 tb1 cl1 o1 c1 _ _ _ _ _ _ _ _ _ _ _ _ _ _ _ _ _ _ _ _ _ _ _ _ _ _ _ C w hT hI i1 hC hlT hlI hrI
  by_cases h3 : kd = 3
  · subst h3
    exact with_k3 ct cols to' tc io ic nm1 tb1 cl1 o1 c1 _ _ _ _ _ _ _ _ _ _ _ _ _ _ _ _ _ _ _ _ _ _ _ _ _ _ _ C w hT hI i1 hC hlT hlI
  · simp only [h1, h2, h3, if_false]
    exact with_k0 ct cols to' tc io ic kd nm1 tb1 cl1 o1 c1 _ _ _ _ _ _ _ _ _ _ _ _ _ _ _ _ _ _ _ _ _ _ _ _ _ _ _ C w hT hI i1 hC hlT hlI h1 h2 h3

end Go.Proofs.Ytabanbpnghidhaa

