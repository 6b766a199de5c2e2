/-
  2 texts of this proof in one, in build order: DStep, PIdx.
-/
import Derived.Deep.RegionLaw
import Derived.Laws.AppendOwnNone
import Derived.Test.YtkncamggdfmlnaaGreatDoorJ05
import Derived.Test.YtkncamggdfmlnaaGreatDoorJ11
namespace Go.Proofs.YtkncamggdfmlnaaGreatDoor
open Go.RowKit

theorem step_append_own_at {P : Program} {w : World} {ops : Array Oper} {o : Oper} {a : Act} {K : Act → World → Prop} {Q : Exit → Act → World → Prop} {E : Prop} (hgd : o.guard = none) (s x : Operand) (t : TypeId)
    (ho : o.op = .call { callee := .builtin .append, args := #[s, x], argTypes := #[t, t] })
    (base : Nat) (e : TypeId) (i : TypeInfo) (z : Value) (size bytes : Nat) (ht : P.underlying t = some (.slice e)) (hi : P.info? e = some i) (hz : i.zero = some z)
    (hsize : i.size = size) (hby : i.bytes = bytes) (hzs : z.cells.size = size) (hsz : 0 < size)
    (v : Value) (n : Nat) (xs : List Value) (hs : a.eval s = v) (hown : w.ownsRow base e size v n xs)
    (ad : Addr) (m c : Nat) (news : List Value) (hx : a.eval x = .slice (some ad) m c) (hl : news.length = m * size) (hnews : ∀ j u, news[j]? = some u → w.cell? (ad.add j) = some u) (h1 : ∀ u ∈ news, u.oneCell' = true)
    (h63 : n + m ≤ maxLen) (hbytes : (n + m) * bytes ≤ 140737488355328) (hbase : base ≤ w.heap.size)
    (h : ∀ v' w', w'.ownsRow base e size v' (n + m) (xs ++ news) → w.grownBy w' v.ownBlock → (v'.ownBlock = v.ownBlock ∨ v'.ownBlock = some w.heap.size) → K (a.put o.dst v') w') :
    if Region.wanted o (yielded ops a.tmps) = true then Oper.wp P o a w K Q else E := by
  have hw : Region.wanted o (yielded ops a.tmps) = true := by simp [Region.wanted, hgd]
  rw [if_pos hw]
  obtain ⟨v', w', hr, h2, h3, h4, h5⟩ := run_append_own_at (P := P) w base t o.type e i z size bytes ht hi hz hsize hby hzs hsz v n xs hown ad m c news hl hnews h1 h63 hbytes hbase
  unfold Oper.wp execOp
  simp only [ho, resolve, invoke, builtin, Sem.run_bind, Sem.run_pure, Result.andThen_ok, List.map_toArray, List.map_cons, List.map_nil, hs, hx, hr]
  exact h v' w' h2 h3 h5

theorem step_append_none {P : Program} {w : World} {ops : Array Oper} {o : Oper} {a : Act} {K : Act → World → Prop} {Q : Exit → Act → World → Prop} {E : Prop} (hgd : o.guard = none) (s x : Operand) (t : TypeId)
    (ho : o.op = .call { callee := .builtin .append, args := #[s, x], argTypes := #[t, t] })
    (base : Nat) (e : TypeId) (i : TypeInfo) (size : Nat) (ht : P.underlying t = some (.slice e)) (hi : P.info? e = some i)
    (v : Value) (n : Nat) (xs : List Value) (hs : a.eval s = v) (hown : w.ownsRow base e size v n xs) (hx : a.eval x = .slice none 0 0)
    (h : K (a.put o.dst v) w) :
    if Region.wanted o (yielded ops a.tmps) = true then Oper.wp P o a w K Q else E := by
  have hw : Region.wanted o (yielded ops a.tmps) = true := by simp [Region.wanted, hgd]
  rw [if_pos hw]
  have hrun := run_append_owned_none (P := P) (w := w) base t o.type e i size ht hi v n xs hown
  unfold Oper.wp
  simp [execOp, ho, resolve, invoke, builtin, hs, hx, hrun, Result.andThen]
  exact h

/-- Texts that lie in blocks from B on, not in z's. -/
def Far (B : Nat) (w : World) (z v : Value) : Prop := (∀ j, v.ownBlock = some j → B ≤ j ∧ j < w.heap.size) ∧ (z.ownBlock = none ∨ v.ownBlock ≠ z.ownBlock)

/-- append of texts to nothing: a row of its own. -/
theorem step_copy_strs {w : World} {ops : Array Oper} {o : Oper} {a : Act} {K : Act → World → Prop} {Q : Exit → Act → World → Prop} {E : Prop} (hgd : o.guard = none) (s x : Operand)
    (ho : o.op = .call { callee := .builtin .append, args := #[s, x], argTypes := #[73, 73] })
    (hs : a.eval s = .slice none 0 0) (xv : Value) (L : List ByteArray) (hx : a.eval x = xv) (hL : IsStrs w xv L) (hl : L.length ≤ 1048576)
    (h : ∀ ao c w', IsStrs w' (.slice ao L.length c) L → Below w.heap.size w w' → (∀ j, (Value.slice ao L.length c).ownBlock = some j → w.heap.size ≤ j ∧ j < w'.heap.size) → K (a.put o.dst (.slice ao L.length c)) w') :
    if Region.wanted o (yielded ops a.tmps) = true then Oper.wp Tryz.prog o a w K Q else E := by
  obtain ⟨i0, hi, hz0, hz1, hz2⟩ := info_parts info_string
  have own0 := World.ownsRow_nil w w.heap.size 9 1
  have fin : ∀ v' w', w'.ownsRow w.heap.size 9 1 v' L.length (L.map .string) → Below w.heap.size w w' → K (a.put o.dst v') w' := by
    intro v' w' ho' hb'
    have hst : IsStrs w' v' L := IsRow.of_own ho'
    obtain ⟨ao, c, rfl⟩ := IsRow.shape hst
    exact h ao c w' hst hb' (fun j hj => ho'.lt j hj)
  rcases hL.2 with ⟨h0, ao, cap, rfl, hnil⟩ | ⟨h0, b, off, cap, rfl, hb, hc, hm, hcell⟩
  · have hLn := List.eq_nil_of_length_eq_zero h0
    subst hLn
    rcases ao with _ | ad
    · obtain rfl := hnil rfl
      exact step_append_none hgd s x 73 ho w.heap.size 9 i0 1 Tryz.underlying73 hi _ 0 [] hs own0 hx (fin _ _ own0 (Below.refl _ _))
    · refine step_append_own_at hgd s x 73 ho w.heap.size 9 i0 _ 1 16 Tryz.underlying73 hi hz0 hz1 hz2 rfl (by decide) _ 0 [] hs own0 ad 0 cap [] hx (by simp) (by intro j u hj; simp at hj) (by simp) (by simp [maxLen]) (by omega) (Nat.le_refl _) ?_
      intro v' w' ho' hg' _
      exact fin v' w' ho' ((Below.refl _ _).grown hg' (Nat.le_refl _) (fun k hk => by simp [Value.ownBlock] at hk))
  · refine step_append_own_at hgd s x 73 ho w.heap.size 9 i0 _ 1 16 Tryz.underlying73 hi hz0 hz1 hz2 rfl (by decide) _ 0 [] hs own0 ⟨b, off, none⟩ L.length cap (L.map .string) hx (by simp) (by intro j u hj; rw [Addr.add_lit]; exact hcell j u hj) (strs_one L) (by simp only [maxLen]; omega) (by omega) (Nat.le_refl _) ?_
    intro v' w' ho' hg' _
    rw [Nat.zero_add, List.nil_append] at ho'
    exact fin v' w' ho' ((Below.refl _ _).grown hg' (Nat.le_refl _) (fun k hk => by simp [Value.ownBlock] at hk))

theorem step_copy_strs' {w : World} {ops : Array Oper} {o : Oper} {a : Act} {K : Act → World → Prop} {Q : Exit → Act → World → Prop} {E : Prop} (hgd : o.guard = none) (s x : Operand)
    (ho : o.op = .call { callee := .builtin .append, args := #[s, x], argTypes := #[73, 73] })
    (hs : a.eval s = .slice none 0 0) (xv : Value) (L : List ByteArray) (n : Nat) (hn : L.length = n) (hx : a.eval x = xv) (hL : IsStrs w xv L) (hl : n ≤ 1048576)
    (h : ∀ ao c w', IsStrs w' (.slice ao n c) L → Below w.heap.size w w' → (∀ j, (Value.slice ao n c).ownBlock = some j → w.heap.size ≤ j ∧ j < w'.heap.size) → K (a.put o.dst (.slice ao n c)) w') :
    if Region.wanted o (yielded ops a.tmps) = true then Oper.wp Tryz.prog o a w K Q else E := by
  subst hn
  exact step_copy_strs hgd s x ho hs xv L hx hL hl h

end Go.Proofs.YtkncamggdfmlnaaGreatDoor

namespace Go.Proofs.YtkncamggdfmlnaaGreatDoor
open Go.RowKit

theorem iks_take {I : List IdxD} {t : TabD} {r : List V} {k : Nat} {x : IdxD} (h : I[k]? = some x) : iks (I.take (k + 1)) t r = iks (I.take k) t r ++ (ikOf t r x).toList := by
  rw [List.take_add_one, h]
  simp only [iks, List.filterMap_append, Option.toList_some]
  cases hx : ikOf t r x <;> simp [hx]
theorem colAt_lt {l : List ColD} {s : Wd} : colAt l s = -1 ∨ ∃ p : Nat, colAt l s = (p : Int) ∧ p < l.length := by
  rcases find_cases l (fun x => decide (x.name = s)) with ⟨h1, _⟩ | ⟨k, x, h1, h2, _⟩
  · exact .inl h1
  · exact .inr ⟨k, h1, (List.getElem?_eq_some_iff.1 h2).1⟩
theorem idxAt_lt (t : TabD) (x : IdxD) : idxAt t x = -1 ∨ ∃ p : Nat, idxAt t x = (p : Int) ∧ p < t.cols.length := by
  unfold idxAt
  split
  · exact colAt_lt
  · exact .inl rfl

/-- What lies in two blocks, of a row and of an index's name, while these stay. -/
theorem idx_cells {G W : World} {g rb : Nat} {a0 a1 a2 a3 a4 a5 a6 : Value} {o1 o2 : Nat}
    (h : G.cell? ⟨g, 0, none⟩ = some a0 ∧ G.cell? ⟨rb, o1, none⟩ = some a1 ∧ G.cell? ⟨rb, o1 + 1, none⟩ = some a2 ∧ G.cell? ⟨rb, o1 + 2, none⟩ = some a3 ∧ G.cell? ⟨rb, o2, none⟩ = some a4 ∧ G.cell? ⟨rb, o2 + 1, none⟩ = some a5 ∧ G.cell? ⟨rb, o2 + 2, none⟩ = some a6)
    (h1 : W.heap[g]? = G.heap[g]?) (h2 : W.heap[rb]? = G.heap[rb]?) :
    W.cell? ⟨g, 0, none⟩ = some a0 ∧ W.cell? ⟨rb, o1, none⟩ = some a1 ∧ W.cell? ⟨rb, o1 + 1, none⟩ = some a2 ∧ W.cell? ⟨rb, o1 + 2, none⟩ = some a3 ∧ W.cell? ⟨rb, o2, none⟩ = some a4 ∧ W.cell? ⟨rb, o2 + 1, none⟩ = some a5 ∧ W.cell? ⟨rb, o2 + 2, none⟩ = some a6 := by
  obtain ⟨c0, c1, c2, c3, c4, c5, c6⟩ := h
  exact ⟨(World.cell?_of_block h1).trans c0, (World.cell?_of_block h2).trans c1, (World.cell?_of_block h2).trans c2, (World.cell?_of_block h2).trans c3, (World.cell?_of_block h2).trans c4, (World.cell?_of_block h2).trans c5, (World.cell?_of_block h2).trans c6⟩

set_option maxRecDepth 100000 in
set_option maxHeartbeats 4000000 in
theorem indexKeys_any (I : List IdxD) (t : TabD) (r : List V) (tv iv sv rv : Value) (C : Nat) (w : World) (htv : IsSl tv)
    (hi : IsL kIdx (fun k => k < C) w iv I) (hl : IsL kCol (fun k => k < C) w sv t.cols) (hC : C ≤ w.heap.size) (hr : IsVals w rv r) (hrl : r.length = t.cols.length) (h0 : 0 < r.length) (hs : ∀ v ∈ r, v.s.size ≤ maxLen) (hin : ∀ x ∈ I, x.name.size ≤ 1000000) (hn : I.length ≤ 1000000) :
    Calls Tryz.prog 28 #[.agg #[tv, iv], .agg #[.string t.name, sv], rv] w fun e w' => ∃ kv, e = .returned kv ∧ IsStrs w' kv (iks I t r) ∧ Below w.heap.size w w' := by
  obtain ⟨to', tn, tc, rfl⟩ := htv
  obtain ⟨io, ic, rfl⟩ := hi.shape
  obtain ⟨so, sc, rfl⟩ := hl.shape
  obtain ⟨i0, hi0, hz0, hz1, hz2⟩ := info_parts info_string
  rcases hr with ⟨_, rfl⟩ | ⟨rb, ro, rcap, rfl, hrb, hR⟩
  · simp at h0
  have hb2 := bel2 w (.cells #[.slice to' tn tc, .slice io I.length ic] 25) (.cells #[.string t.name, .slice so t.cols.length sc] 28)
  generalize hW : (w.alloc (.cells #[.slice to' tn tc, .slice io I.length ic] 25)).alloc (.cells #[.string t.name, .slice so t.cols.length sc] 28) = W2 at hb2
  have bC : W2.heap[w.heap.size]? = some (.cells #[.slice to' tn tc, .slice io I.length ic] 25) := by rw [← hW]; exact block_alloc_of (block_alloc_at w _) _
  have bT : W2.heap[w.heap.size + 1]? = some (.cells #[.string t.name, .slice so t.cols.length sc] 28) := by rw [← hW]; exact block2 _ _ _
  have cC1 := cell_of_block bC (j := 1) rfl
  have hW2s : Hid (W2.heap.size = w.heap.size + 2) := by show _ = _; rw [← hW]; simp
  have HW : Hid _ := hW
  clear hW
  have HI : Hid _ := hi
  have HL : Hid _ := hl
  have HS : Hid _ := hs
  have HN : Hid _ := hin
  clear hi hl hs hin
  have HRL : Hid _ := hrl
  clear hrl
  go_enter Tryz.func28, Tryz.ntmps28
  go_upto_region 1 with fail
  rw [HW.out]
  go_wp2
  go_loopw [7, 14] (fun kv i wr => ∃ k : Nat, k ≤ I.length ∧ i = .int .i64 k ∧ wr.ownsRow W2.heap.size 9 1 kv (iks (I.take k) t r).length ((iks (I.take k) t r).map .string) ∧ Below W2.heap.size W2 wr) (fun _ i _ => I.length - (intOf i).toNat)
  case atStart => exact ⟨0, Nat.zero_le _, rfl, World.ownsRow_nil _ _ _ _, Below.refl _ _⟩
  case round =>
    obtain ⟨k, hk, rfl, hown, hbel⟩ := hrel
    by_cases hlt : k < I.length
    · obtain ⟨x, hx⟩ : ∃ x, I[k]? = some x := ⟨_, List.getElem?_eq_getElem hlt⟩
      obtain ⟨b, off, cs, rfl, hbC, hbl, hR1, hcell⟩ := isL_get HI.out hx
      obtain rfl := hR1
      have hbw : Below w.heap.size w wr := hb2.trans (hbel.mono (by have := hb2.size; omega))
      have d0 := (hbw.cell (p := ⟨b, off + k * 3, none⟩) hbl).trans (by have := hcell 0 _ rfl; simpa [kIdx] using this)
      have d1 := (hbw.cell (p := ⟨b, off + k * 3 + 1, none⟩) hbl).trans (by have := hcell 1 _ rfl; simpa [kIdx] using this)
      have d2 := (hbw.cell (p := ⟨b, off + k * 3 + 2, none⟩) hbl).trans (by have := hcell 2 _ rfl; simpa [kIdx] using this)
      have hsz := hbel.size
      have hw2 : w.heap.size + 2 ≤ wr.heap.size := by have := hW2s.out; omega
      have k0 : (0 : Int) ≤ (k : Int) := by omega
      have k1 : (k : Int) < (I.length : Int) := by omega
      have bT' := (hbel.block (w.heap.size + 1) (lt_of_block bT)).trans bT
      have t0 := cell_of_block bT' (j := 0) rfl
      have t1 := cell_of_block bT' (j := 1) rfl
      have t0a := ((bel1 wr (.cells #[.string x.name, .string x.table, .string x.col] 46)).cell (p := ⟨w.heap.size + 1, 0, none⟩) (show w.heap.size + 1 < _ by omega)).trans t0
      have t1a := ((bel1 wr (.cells #[.string x.name, .string x.table, .string x.col] 46)).cell (p := ⟨w.heap.size + 1, 1, none⟩) (show w.heap.size + 1 < _ by omega)).trans t1
      have HX := indexedCol_any t x (.slice so t.cols.length sc) C (wr.alloc (.cells #[.string x.name, .string x.table, .string x.col] 46)) (IsL.keep HL.out (keepsC ((hbw.alloc (by omega) _).mono hC))) (Nat.le_trans hC (hbw.alloc (by omega) _).size)
      have HXI : Hid (iks (I.take (k + 1)) t r = iks (I.take k) t r ++ (ikOf t r x).toList) := iks_take hx
      have hxn := HN.out x (List.mem_of_getElem? hx)
      clear hx hcell
      rcases idxAt_lt t x with hq | ⟨p, hq, hp⟩
      · have E2 : Hid (iks (I.take (k + 1)) t r = iks (I.take k) t r) := by show _ = _; rw [HXI.out, ikOf, hq]; simp
        rw [hq] at HX
        clear hq HXI
        go_wp2_with (go_at_call 45; go_fit HX; rintro e w1 ⟨rfl, hb1⟩)
        go_roundw
        case rel => exact ⟨k + 1, by omega, by go_num, by rw [E2.out]; exact ownsRow_below hown (bthen (bel1 _ _) hb1), hbel.trans ((bthen (bel1 _ _) hb1).mono hsz)⟩
        case measure => simp [intOf]; omega
      · have hpr : p < r.length := by rw [HRL.out]; exact hp
        obtain ⟨v, hv⟩ : ∃ v, r[p]? = some v := ⟨_, List.getElem?_eq_getElem hpr⟩
        obtain ⟨u, hu⟩ : ∃ u, r[0]? = some u := ⟨_, List.getElem?_eq_getElem h0⟩
        have E2 : Hid (iks (I.take (k + 1)) t r = iks (I.take k) t r ++ [ikey x.name v u]) := by
          show _ = _
          rw [HXI.out, ikOf, hq, if_pos (by omega)]
          simp only [Int.toNat_natCast, Option.toList_some]
          rw [List.getD_eq_getElem?_getD, hv, show r.headD zero = u from by rw [List.headD_eq_head?_getD, List.head?_eq_getElem?, hu]; rfl]
          rfl
        rw [hq] at HX
        obtain ⟨e0, e1, e2⟩ := hR p v hv
        obtain ⟨f0, f1, f2⟩ := hR 0 u hu
        simp only [Nat.zero_mul, Nat.add_zero] at f0 f1 f2
        have HK := fun W => indexKey_any x.name v u W hxn (HS.out v (List.mem_of_getElem? hv)) (HS.out u (List.mem_of_getElem? hu))
        have p0 : (0 : Int) ≤ (p : Int) := by omega
        have p1 : (p : Int) < (r.length : Int) := by omega
        have p2 : (0 : Int) < (r.length : Int) := by omega
        clear hq HXI hv hu hpr hp
        generalize ikey x.name v u = key at E2 HK
        obtain ⟨vk, vn, vs⟩ := v
        obtain ⟨uk, un, us⟩ := u
        simp only [V.val] at HK
        have hnl : (iks (I.take k) t r).length ≤ 1000000 := Nat.le_trans (iks_length _ _ _) (by simp; omega)
        have ho0 := hown.lt
        go_wp2_with (go_at_call 45; go_fit HX; rintro e w1 ⟨rfl, hb1⟩)
        have hbw1 : Below w.heap.size w w1 := hbw.trans ((bthen (bel1 _ _) hb1).mono (by omega))
        have bX := (hb1.block wr.heap.size (by simp)).trans (block_alloc_at wr _)
        have hwr1 : wr.heap.size < w1.heap.size := lt_of_block bX
        have hrb1 : rb < w1.heap.size := Nat.lt_of_lt_of_le hrb hbw1.size
        have KS : Hid _ := fun W => idx_cells (W := W) ⟨cell_of_block bX (j := 0) (u := .string x.name) rfl, (hbw1.cell (p := ⟨rb, ro + p * 3, none⟩) hrb).trans e0, (hbw1.cell (p := ⟨rb, ro + p * 3 + 1, none⟩) hrb).trans e1, (hbw1.cell (p := ⟨rb, ro + p * 3 + 2, none⟩) hrb).trans e2, (hbw1.cell (p := ⟨rb, ro, none⟩) hrb).trans f0, (hbw1.cell (p := ⟨rb, ro + 1, none⟩) hrb).trans f1, (hbw1.cell (p := ⟨rb, ro + 2, none⟩) hrb).trans f2⟩
        have s0 := KS.out w1.drew rfl rfl
        have own1 := ownsRow_below hown (bthen (bel1 _ _) hb1)
        go_region_held3 (fun W => W.cell? ⟨wr.heap.size, 0, none⟩ = some (.string x.name) ∧ W.cell? ⟨rb, ro + p * 3, none⟩ = some (.int .i64 vk) ∧ W.cell? ⟨rb, ro + p * 3 + 1, none⟩ = some (.int .i64 vn) ∧ W.cell? ⟨rb, ro + p * 3 + 2, none⟩ = some (.string vs) ∧ W.cell? ⟨rb, ro, none⟩ = some (.int .i64 uk) ∧ W.cell? ⟨rb, ro + 1, none⟩ = some (.int .i64 un) ∧ W.cell? ⟨rb, ro + 2, none⟩ = some (.string us))
          (with_reducible first | exact s4 | exact s3 | exact s2 | exact s0)
          (first
            | (go_at_call 13; go_fit (HK _); rintro e w2 ⟨rfl, hb2'⟩; have hB2 : Below w1.heap.size w1 w2 := bthen (Below.refl _ _).drew hb2'; have s2 := KS.out w2 (hB2.block _ hwr1) (hB2.block _ hrb1); have hB3 : Below w1.heap.size w1 (w2.alloc (.cells #[.string key] 9)) := hB2.alloc hB2.size _; have s3 := KS.out _ (hB3.block _ hwr1) (hB3.block _ hrb1))
            | (refine step_append_own_at (by rfl) _ _ 73 (by rfl) W2.heap.size 9 i0 _ 1 16 Tryz.underlying73 hi0 hz0 hz1 hz2 rfl (by decide) u7 _ _ (by rfl) (ownsRow_below own1 hB3) ⟨w2.heap.size, 0, none⟩ 1 1 [.string key] (by rfl) rfl (cells_new _ _ _) (by simp; rfl) (by simp only [maxLen]; omega) (by omega) (by have := hB3.size; omega) ?_; intro zv w3 own3 gr3 at3; have s4 := KS.out w3 ((gr3.block _ (Nat.lt_of_lt_of_le hwr1 hB3.size) (fun h => by have := (ho0 _ h.symm).2; omega)).trans (hB3.block _ hwr1)) ((gr3.block _ (Nat.lt_of_lt_of_le hrb1 hB3.size) (fun h => by have := (ho0 _ h.symm).1; have := hb2.size; omega)).trans (hB3.block _ hrb1))))
        go_wp2
        go_roundw
        case rel =>
          refine ⟨k + 1, by omega, by go_num, ?_, ?_⟩
          · rw [E2.out, List.length_append, List.map_append]; exact own3
          · exact Below.grown (hbel.trans ((bthen (bthen (bel1 _ _) hb1) hB3).mono hsz)) gr3 (by have := hB3.size; omega) (fun q hq => (ho0 q hq).1)
        case measure => simp [intOf]; omega
    · have hkn : k = I.length := by omega
      subst hkn
      have v1 : ¬ ((I.length : Int) < (I.length : Int)) := by omega
      rw [List.take_length] at hown
      go_wp2
      go_ret
      exact ⟨_, rfl, IsRow.of_own hown, hb2.trans (hbel.mono hb2.size)⟩

end Go.Proofs.YtkncamggdfmlnaaGreatDoor

