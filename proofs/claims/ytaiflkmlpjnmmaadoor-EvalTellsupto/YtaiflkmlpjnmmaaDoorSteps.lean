/-
  Laws of append at a step of a region that draws its order: to a row of the call's own; of values to nothing.
-/
import Derived.Test.YtaiflkmlpjnmmaaDoorVals
import Derived.Deep.RegionLaw
import Derived.Laws.AppendOwnNone
import Derived.OwnWalk
namespace Go.Proofs.YtaiflkmlpjnmmaaDoor
open Go.RowKit

theorem step_own_at {P : Program} {w : World} {ops : Array Oper} {o : Oper} {a : Act} {K : Act → World → Prop} {Q : Exit → Act → World → Prop} {E : Prop} (hgd : o.guard = none) (s x : Operand) (t : TypeId)
    (ho : o.op = .call { callee := .builtin .append, args := #[s, x], argTypes := #[t, t] })
    (base : Nat) (e : TypeId) (i : TypeInfo) (z : Value) (size bytes : Nat) (ht : P.underlying t = some (.slice e)) (hi : P.info? e = some i) (hz : i.zero = some z)
    (hsize : i.size = size) (hby : i.bytes = bytes) (hzs : z.cells.size = size) (hsz : 0 < size)
    (v : Value) (n : Nat) (xs : List Value) (hs : a.eval s = v) (hown : w.ownsRow base e size v n xs)
    (ad : Addr) (m c : Nat) (news : List Value) (hx : a.eval x = .slice (some ad) m c) (hl : news.length = m * size) (hnews : ∀ j u, news[j]? = some u → w.cell? (ad.add j) = some u) (h1 : ∀ u ∈ news, u.oneCell' = true)
    (h63 : n + m ≤ maxLen) (hbytes : (n + m) * bytes ≤ 140737488355328) (hbase : base ≤ w.heap.size)
    (h : ∀ v' w', w'.ownsRow base e size v' (n + m) (xs ++ news) → w.grownBy w' v.ownBlock → (v'.ownBlock = v.ownBlock ∨ v'.ownBlock = some w.heap.size) → K (a.put o.dst v') w') :
    if Region.wanted o (yielded ops a.tmps) = true then Oper.wp P o a w K Q else E := by
  have hw : Region.wanted o (yielded ops a.tmps) = true := by simp [Region.wanted, hgd]
  rw [if_pos hw]
  obtain ⟨v', w', hr, h2, h3, h4, h5⟩ := run_append_own_at (P := P) w base t o.type e i z size bytes ht hi hz hsize hby hzs hsz v n xs hown ad m c news hl hnews h1 h63 hbytes hbase
  unfold Oper.wp execOp
  simp only [ho, resolve, invoke, builtin, Sem.run_bind, Sem.run_pure, Result.andThen_ok, List.map_toArray, List.map_cons, List.map_nil, hs, hx, hr]
  exact h v' w' h2 h3 h5

theorem step_own_none {P : Program} {w : World} {ops : Array Oper} {o : Oper} {a : Act} {K : Act → World → Prop} {Q : Exit → Act → World → Prop} {E : Prop} (hgd : o.guard = none) (s x : Operand) (t : TypeId)
    (ho : o.op = .call { callee := .builtin .append, args := #[s, x], argTypes := #[t, t] })
    (base : Nat) (e : TypeId) (i : TypeInfo) (size : Nat) (ht : P.underlying t = some (.slice e)) (hi : P.info? e = some i)
    (v : Value) (n : Nat) (xs : List Value) (hs : a.eval s = v) (hown : w.ownsRow base e size v n xs) (hx : a.eval x = .slice none 0 0)
    (h : K (a.put o.dst v) w) :
    if Region.wanted o (yielded ops a.tmps) = true then Oper.wp P o a w K Q else E := by
  have hw : Region.wanted o (yielded ops a.tmps) = true := by simp [Region.wanted, hgd]
  rw [if_pos hw]
  have hrun := run_append_owned_none (P := P) (w := w) base t o.type e i size ht hi v n xs hown
  unfold Oper.wp
  simp [execOp, ho, resolve, invoke, builtin, hs, hx, hrun, Result.andThen]
  exact h

theorem info_value : (Tryd.prog.info? 23).map (fun i => (i.zero, i.size, i.bytes)) = some (some (.agg #[.int .i64 0, .int .i64 0, .string ⟨#[]⟩]), 3, 32) := by kernel_rfl
/-- append of values to nothing: a row of its own. -/
theorem step_copy_vals {w : World} {ops : Array Oper} {o : Oper} {a : Act} {K : Act → World → Prop} {Q : Exit → Act → World → Prop} {E : Prop} (hgd : o.guard = none) (s x : Operand)
    (ho : o.op = .call { callee := .builtin .append, args := #[s, x], argTypes := #[33, 33] })
    (hs : a.eval s = .slice none 0 0) (xv : Value) (L : List V) (hx : a.eval x = xv) (hL : IsVals w xv L) (hl : L.length ≤ 1048576)
    (h : ∀ ao c w', IsVals w' (.slice ao L.length c) L → Below w.heap.size w w' → K (a.put o.dst (.slice ao L.length c)) w') :
    if Region.wanted o (yielded ops a.tmps) = true then Oper.wp Tryd.prog o a w K Q else E := by
  obtain ⟨i0, hi, hz0, hz1, hz2⟩ := info_parts info_value
  have own0 := World.ownsRow_nil w w.heap.size 23 3
  have fin : ∀ v' w', w'.ownsRow w.heap.size 23 3 v' L.length (vcells L) → Below w.heap.size w w' → K (a.put o.dst v') w' := by
    intro v' w' ho' hb'
    have hst : IsVals w' v' L := IsVals.of_own ho'
    obtain ⟨ao, c, rfl⟩ := hst.shape
    exact h ao c w' hst hb'
  rcases hL with ⟨⟨ao, cap, rfl, hnil⟩, rfl⟩ | ⟨b, off, cap, rfl, hb, hcell⟩
  · rcases ao with _ | ad
    · obtain rfl := hnil rfl
      exact step_own_none hgd s x 33 ho w.heap.size 23 i0 3 Tryd.underlying33 hi _ 0 [] hs own0 hx (fin _ _ own0 (Below.refl _ _))
    · refine step_own_at hgd s x 33 ho w.heap.size 23 i0 _ 3 32 Tryd.underlying33 hi hz0 hz1 hz2 rfl (by decide) _ 0 [] hs own0 ad 0 cap [] hx (by simp) (by intro j u hj; simp at hj) (by simp) (by simp [maxLen]) (by omega) (Nat.le_refl _) ?_
      intro v' w' ho' hg' _
      exact fin v' w' ho' ((Below.refl _ _).grown hg' (Nat.le_refl _) (fun k hk => by simp [Value.ownBlock] at hk))
  · refine step_own_at hgd s x 33 ho w.heap.size 23 i0 _ 3 32 Tryd.underlying33 hi hz0 hz1 hz2 rfl (by decide) _ 0 [] hs own0 ⟨b, off, none⟩ L.length cap (vcells L) hx (vcells_length L) hcell.cells (vcells_one L) (by simp only [maxLen]; omega) (by omega) (Nat.le_refl _) ?_
    intro v' w' ho' hg' _
    rw [Nat.zero_add, List.nil_append] at ho'
    exact fin v' w' ho' ((Below.refl _ _).grown hg' (Nat.le_refl _) (fun k hk => by simp [Value.ownBlock] at hk))

end Go.Proofs.YtaiflkmlpjnmmaaDoor
