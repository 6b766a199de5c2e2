/-
  Contract of the statements' pages: a tree with the same pages, in lists of its own.
-/
import Derived.Test.YtfcdkpkmkepcaaaDStep
import Derived.Test.YtfcdkpkmkepcaaaDSame
import Derived.Test.YtfcdkpkmkepcaaaTJoin
import Derived.Deep.DrawnRows
namespace Go.Proofs.Ytfcdkpkmkepcaaa
open Go.RowKit

def AllFar (B : Nat) (w : World) (z : Value) (rows : List (Value × Value)) : Prop := ∀ r ∈ rows, Far B w z r.1 ∧ Far B w z r.2

theorem Far.mono {B : Nat} {w w' : World} {z v : Value} (h : Far B w z v) (hs : w.heap.size ≤ w'.heap.size) : Far B w' z v := ⟨fun j hj => ⟨(h.1 j hj).1, Nat.lt_of_lt_of_le (h.1 j hj).2 hs⟩, h.2⟩
theorem AllFar.mono {B : Nat} {w w' : World} {z : Value} {rows : List (Value × Value)} (h : AllFar B w z rows) (hs : w.heap.size ≤ w'.heap.size) : AllFar B w' z rows := fun r hr => ⟨(h r hr).1.mono hs, (h r hr).2.mono hs⟩

theorem Far.turn {B : Nat} {w : World} {z z' v : Value} (h : Far B w z v) (hz : z'.ownBlock = z.ownBlock ∨ z'.ownBlock = some w.heap.size) : Far B w z' v := by
  refine ⟨h.1, ?_⟩
  rcases hz with e | e
  · rw [e]; exact h.2
  · right
    rw [e]
    intro hv
    have := (h.1 _ hv).2
    omega
theorem AllFar.turn {B : Nat} {w : World} {z z' : Value} {rows : List (Value × Value)} (h : AllFar B w z rows) (hz : z'.ownBlock = z.ownBlock ∨ z'.ownBlock = some w.heap.size) : AllFar B w z' rows := fun r hr => ⟨(h r hr).1.turn hz, (h r hr).2.turn hz⟩

theorem Pgs.grown {B : Nat} {w w' : World} {z : Value} (hg : w.grownBy w' z.ownBlock) : ∀ {rs : List (Value × Value)} {T : List Pg}, AllFar B w z rs → Pgs w rs T → Pgs w' rs T
  | [], [], _, _ => trivial
  | r :: _, _ :: _, hf, h => ⟨h.1.grown hg (hf r (by simp)).1.2, h.2.1.grown hg (hf r (by simp)).2.2, Pgs.grown hg (fun q hq => hf q (by simp [hq])) h.2.2⟩

theorem Pgs.setOther {B : Nat} {w : World} {z : Value} {g i : Nat} (hB : g < B) (v : Value) : ∀ {rs : List (Value × Value)} {T : List Pg}, AllFar B w z rs → Pgs w rs T → Pgs (w.setCell ⟨g, i, none⟩ v) rs T
  | [], [], _, _ => trivial
  | r :: _, _ :: _, hf, h => by
    have ne : ∀ {u : Value}, Far B w z u → u.ownBlock ≠ some g := fun hu e => by have := (hu.1 _ e).1; omega
    exact ⟨row_set h.1 v (ne (hf r (by simp)).1), row_set h.2.1 v (ne (hf r (by simp)).2), Pgs.setOther hB v (fun q hq => hf q (by simp [hq])) h.2.2⟩

theorem AllFar.snoc {B : Nat} {w : World} {z : Value} {rs : List (Value × Value)} {r : Value × Value} (h : AllFar B w z rs) (h1 : Far B w z r.1) (h2 : Far B w z r.2) : AllFar B w z (rs ++ [r]) := by
  intro q hq
  rcases List.mem_append.1 hq with hq | hq
  · exact h q hq
  · obtain rfl : q = r := by simpa using hq
    exact ⟨h1, h2⟩

theorem pages_ob {w Wo w2 w3 : World} {k : Nat} {cs : List Value} {z v1 v2 : Value} (hB2 : Below Wo.heap.size Wo w2) (ob : Wo.heap[w.heap.size + 1 + 1]? = some (.cells #[z] 39))
    (own : Wo.ownsRow (w.heap.size + 3) 69 2 z k cs) (gr3 : (w2.alloc (.cells #[v1, v2] 69)).grownBy w3 z.ownBlock) : w3.heap[w.heap.size + 1 + 1]? = some (.cells #[z] 39) := by
  have hB2' : Below Wo.heap.size Wo (w2.alloc (.cells #[v1, v2] 69)) := balloc hB2 _
  have lo := lt_of_block ob
  have s2' := hB2'.size
  exact (gr3.block _ (by omega) (fun e => by have := own.lt _ e.symm; omega)).trans ((hB2'.block _ lo).trans ob)

/-- One page more. -/
theorem pages_step {w Wo w2 w3 : World} {T : List Pg} {k : Nat} {p : Pg} {rows : List (Value × Value)} {z z' v1 v2 : Value} (hbel : Below w.heap.size w Wo) (hB2 : Below Wo.heap.size Wo w2)
    (rb : Wo.heap[w.heap.size + 1]? = some (.cells #[.slice none 0 0] 39)) (ob : Wo.heap[w.heap.size + 1 + 1]? = some (.cells #[z] 39))
    (own : Wo.ownsRow (w.heap.size + 3) 69 2 z k (pcells rows)) (HP : Pgs Wo rows (T.take k) ∧ AllFar (w.heap.size + 3) Wo z rows)
    (hk2 : IsStrs w2 v1 p.K) (hv2 : IsStrs w2 v2 p.V) (f1 : ∀ j, v1.ownBlock = some j → Wo.heap.size ≤ j ∧ j < w2.heap.size) (f2 : ∀ j, v2.ownBlock = some j → Wo.heap.size ≤ j ∧ j < w2.heap.size)
    (gr3 : (w2.alloc (.cells #[v1, v2] 69)).grownBy w3 z.ownBlock) (own3 : w3.ownsRow (w.heap.size + 3) 69 2 z' (k + 1) (pcells rows ++ [v1, v2]))
    (at3 : z'.ownBlock = z.ownBlock ∨ z'.ownBlock = some (w2.alloc (.cells #[v1, v2] 69)).heap.size) (htk : T.take (k + 1) = T.take k ++ [p]) :
    Below w.heap.size w (w3.setCell ⟨w.heap.size + 1 + 1, 0, none⟩ z') ∧ (w3.setCell ⟨w.heap.size + 1 + 1, 0, none⟩ z').heap[w.heap.size + 1]? = some (.cells #[.slice none 0 0] 39) ∧ (w3.setCell ⟨w.heap.size + 1 + 1, 0, none⟩ z').heap[w.heap.size + 1 + 1]? = some (.cells #[z'] 39) ∧
    (w3.setCell ⟨w.heap.size + 1 + 1, 0, none⟩ z').ownsRow (w.heap.size + 3) 69 2 z' (k + 1) (pcells (rows ++ [(v1, v2)])) ∧
    Pgs (w3.setCell ⟨w.heap.size + 1 + 1, 0, none⟩ z') (rows ++ [(v1, v2)]) (T.take (k + 1)) ∧ AllFar (w.heap.size + 3) (w3.setCell ⟨w.heap.size + 1 + 1, 0, none⟩ z') z' (rows ++ [(v1, v2)]) := by
  have lo := lt_of_block ob
  have hB2' : Below Wo.heap.size Wo (w2.alloc (.cells #[v1, v2] 69)) := balloc hB2 _
  have s2 := hB2.size
  have s2' := hB2'.size
  have s3 := gr3.size
  have sa := World.size_alloc w2 (.cells #[v1, v2] 69)
  have hzb : ∀ j, z.ownBlock = some j → w.heap.size + 3 ≤ j ∧ j < Wo.heap.size := fun j hj => own.lt j hj
  have near : ∀ j, j ≤ w.heap.size + 1 + 1 → some j ≠ z.ownBlock := fun j hj e => by have := hzb j e.symm; omega
  have rb3 := (gr3.block _ (by omega) (near _ (by omega))).trans ((hB2'.block _ (by omega)).trans rb)
  have ob3 := (gr3.block _ (by omega) (near _ (Nat.le_refl _))).trans ((hB2'.block _ lo).trans ob)
  have hb3 : Below w.heap.size w w3 := (hbel.trans (hB2'.mono hbel.size)).grown gr3 (by have := hbel.size; omega) (fun j hj => by have := hzb j hj; omega)
  have new : ∀ v : Value, (∀ j, v.ownBlock = some j → Wo.heap.size ≤ j ∧ j < w2.heap.size) → Far (w.heap.size + 3) (w2.alloc (.cells #[v1, v2] 69)) z v := by
    intro v hv
    refine ⟨fun j hj => ⟨by have := (hv j hj).1; omega, by have := (hv j hj).2; omega⟩, ?_⟩
    cases hz : z.ownBlock with
    | none => exact .inl rfl
    | some g =>
      right
      intro e
      have h1 := (hv g e).1
      have h2 := (hzb g hz).2
      omega
  have far2 : AllFar (w.heap.size + 3) (w2.alloc (.cells #[v1, v2] 69)) z (rows ++ [(v1, v2)]) := (HP.2.mono s2').snoc (new v1 f1) (new v2 f2)
  have pg2 : Pgs (w2.alloc (.cells #[v1, v2] 69)) (rows ++ [(v1, v2)]) (T.take (k + 1)) := by
    rw [htk]
    exact Pgs.append (Pgs.keep hB2' (Nat.le_refl _) HP.1) ⟨hk2.below (balloc (Below.refl _ _) _), hv2.below (balloc (Below.refl _ _) _), trivial⟩
  have far3 : AllFar (w.heap.size + 3) w3 z' (rows ++ [(v1, v2)]) := (far2.turn at3).mono s3
  have pg3 := Pgs.grown gr3 far2 pg2
  refine ⟨hb3.setCell (by simp only; omega) _, ?_, set_block ob3 0 _, ?_, Pgs.setOther (by omega) _ far3 pg3, far3.mono (by rw [show (w3.setCell ⟨w.heap.size + 1 + 1, 0, none⟩ z').heap.size = w3.heap.size by simp [World.setCell]]; exact Nat.le_refl _)⟩
  · rw [Below.heap_setCell _ _ _ _ (by simp only; omega)]; exact rb3
  · rw [pcells_append]
    exact ownsRow_setCell_below own3 (by simp only; omega) _

set_option maxHeartbeats 20000000 in
theorem pages_any (T : List Pg) (tv : Value) (w : World) (h : IsTree w tv T) (hn : T.length ≤ 1048576) (hsh : Short T) :
    Calls Try.prog 22 #[tv] w fun e w' => ∃ tv', e = .returned tv' ∧ IsTree w' tv' T ∧ Below w.heap.size w w' := by
  obtain ⟨i0, hi, hz0, hz1', hz2'⟩ := info_parts info_page
  obtain ⟨sv, rfl, hs⟩ := h
  obtain ⟨so, sc, rfl⟩ := hs.shape
  have HS := hid hs
  have HSH := hid hsh
  clear hs hsh
  generalize hnl : T.length = n at *
  have HN := hid hnl
  clear hnl
  generalize hW0 : ((w.alloc (.cells #[.slice so n sc] 39)).alloc (.cells #[.slice none 0 0] 39)).alloc (.cells #[.slice none 0 0] 39) = W0
  have hB0 : Below w.heap.size w W0 := by rw [← hW0]; exact (((Below.refl _ w).alloc (Nat.le_refl _) _).alloc (by simp) _).alloc (by simp; omega) _
  have hs0 : W0.heap.size = w.heap.size + 1 + 1 + 1 := by rw [← hW0]; simp
  have b0 : W0.heap[w.heap.size]? = some (.cells #[.slice so n sc] 39) := by rw [← hW0]; exact block_alloc_of (block_alloc_of (block_alloc_at w _) _) _
  have b1 : W0.heap[w.heap.size + 1]? = some (.cells #[.slice none 0 0] 39) := by
    rw [← hW0]; refine block_alloc_of ?_ _
    have := block_alloc_at (w.alloc (.cells #[.slice so n sc] 39)) (.cells #[.slice none 0 0] 39); rwa [World.size_alloc] at this
  have b2 : W0.heap[w.heap.size + 1 + 1]? = some (.cells #[.slice none 0 0] 39) := by
    rw [← hW0]
    have := block_alloc_at ((w.alloc (.cells #[.slice so n sc] 39)).alloc (.cells #[.slice none 0 0] 39)) (.cells #[.slice none 0 0] 39); rwa [World.size_alloc, World.size_alloc] at this
  have c0 : W0.cell? ⟨w.heap.size, 0, none⟩ = some (.slice so n sc) := cell_of_block b0 rfl
  go_enter Try.func22, Try.ntmps22
  go_wp2
  clear hW0
  go_loopw [9] (fun i wr => ∃ (k : Nat) (rows : List (Value × Value)) (zo : Option Addr) (zc : Nat), k ≤ n ∧ i = .int .i64 k ∧ Below w.heap.size w wr ∧ wr.heap[w.heap.size + 1]? = some (.cells #[.slice none 0 0] 39) ∧ wr.heap[w.heap.size + 1 + 1]? = some (.cells #[.slice zo k zc] 39) ∧ wr.ownsRow (w.heap.size + 3) 69 2 (.slice zo k zc) k (pcells rows) ∧ Hid (Pgs wr rows (T.take k) ∧ AllFar (w.heap.size + 3) wr (.slice zo k zc) rows)) (fun i _ => n - (intOf i).toNat)
  case atStart => exact ⟨0, [], none, 0, Nat.zero_le _, rfl, hB0, b1, b2, World.ownsRow_nil _ _ _ _, hid ⟨by rw [List.take_zero]; trivial, fun r hr => by cases hr⟩⟩
  case round =>
    obtain ⟨k, rows, zo, zc, hk, rfl, hbel, rb, ob, own, HP⟩ := hrel
    by_cases hlt : k < n
    · obtain ⟨Wo, hWo⟩ : ∃ W, W = wr := ⟨_, rfl⟩
      subst hWo
      obtain ⟨p, hp⟩ : ∃ p, T[k]? = some p := ⟨_, List.getElem?_eq_getElem (by rw [HN.out]; omega)⟩
      obtain ⟨hs1, hs2⟩ := HSH.out p (List.mem_of_getElem? hp)
      obtain ⟨ba, oa, ka, kc, va, vc, rfl, hla, a0, a1, hak, hav⟩ := pages_at (HS.out.below hbel) hp
      have htk : T.take (k + 1) = T.take k ++ [p] := by rw [List.take_add_one, hp]; rfl
      have HTK := hid htk
      have HAK := hid hak
      have HAV := hid hav
      have i0' : (0 : Int) ≤ (k : Int) := by omega
      have i1' : (k : Int) < (n : Int) := by omega
      clear htk hp hak hav
      generalize hkn : p.K.length = m at *
      generalize hvn : p.V.length = mv at *
      have HKN := hid (And.intro hkn hvn)
      clear hkn hvn
      obtain ⟨W1, hW1⟩ : ∃ W1, Wo.alloc (.cells #[.slice ka m kc, .slice va mv vc] 69) = W1 := ⟨_, rfl⟩
      have hB1 : Below Wo.heap.size Wo W1 := by rw [← hW1]; exact (Below.refl _ _).alloc (Nat.le_refl _) _
      have pb : W1.heap[Wo.heap.size]? = some (.cells #[.slice ka m kc, .slice va mv vc] 69) := by rw [← hW1]; exact block_alloc_at Wo _
      have lpb := lt_of_block pb
      have p0 : W1.cell? ⟨Wo.heap.size, 0, none⟩ = some (.slice ka m kc) := cell_of_block pb rfl
      have p1 : W1.cell? ⟨Wo.heap.size, 1, none⟩ = some (.slice va mv vc) := cell_of_block pb rfl
      have lo := lt_of_block ob
      have ob1 := (hB1.block _ lo).trans ob
      have o0 : W1.cell? ⟨w.heap.size + 1 + 1, 0, none⟩ = some (.slice zo k zc) := cell_of_block ob1 rfl
      have lo1 := lt_of_block ob1
      have ks : ∀ W, Below W1.heap.size W1 W → (W.cell? ⟨w.heap.size + 1 + 1, 0, none⟩ = some (.slice zo k zc) ∧ W.cell? ⟨Wo.heap.size, 0, none⟩ = some (.slice ka m kc) ∧ W.cell? ⟨Wo.heap.size, 1, none⟩ = some (.slice va mv vc)) := fun W hW =>
        ⟨(hW.cell (p := ⟨w.heap.size + 1 + 1, 0, none⟩) lo1).trans o0, (hW.cell (p := ⟨Wo.heap.size, 0, none⟩) lpb).trans p0, (hW.cell (p := ⟨Wo.heap.size, 1, none⟩) lpb).trans p1⟩
      have HKL := HKN.out.1
      have HVL := HKN.out.2
      have HKL' := hid HKL
      have HVL' := hid HVL
      clear HKL HVL
      have hob : Below Wo.heap.size Wo W1.drew := hB1.drew
      clear ks
      go_wp2
      go_region_law ((first
        | (refine step_copy_strs' (by rfl) _ _ (by rfl) (by rfl) _ p.K m HKL'.out (by rfl) (HAK.out.below hob) hs1 ?_; intro ko kc1 w1 hk1 hb1 hf1; have hz1 : Below Wo.heap.size Wo w1 := bthen hob hb1; have hp0 := ((bthen (Below.refl _ _).drew hb1).cell (p := ⟨Wo.heap.size, 1, none⟩) lpb).trans p1; have ho0 := ((bthen (Below.refl _ _).drew hb1).cell (p := ⟨w.heap.size + 1 + 1, 0, none⟩) lo1).trans o0; have hbw1 := bthen (Below.refl W1.heap.size W1).drew hb1)
        | (refine step_copy_strs' (by rfl) _ _ (by rfl) (by rfl) _ p.V mv HVL'.out (by rfl) (HAV.out.below hz1) hs2 ?_; intro vo vc1 w2 hv2 hb2 hf2; have hz2 : Below Wo.heap.size Wo w2 := bthen hz1 hb2; have ho1 := ((bthen hbw1 hb2).cell (p := ⟨w.heap.size + 1 + 1, 0, none⟩) lo1).trans o0; have hl2 : w.heap.size + 1 + 1 < w2.heap.size := Nat.lt_of_lt_of_le lo1 (bthen hbw1 hb2).size; have ho1a : (w2.alloc (.cells #[.slice ko m kc1, .slice vo mv vc1] 69)).cell? ⟨w.heap.size + 1 + 1, 0, none⟩ = some (.slice zo k zc) := (World.cell?_alloc_past _ _ _ hl2).trans ho1)
        | (refine step_append_own_at (by rfl) _ _ 37 (by rfl) (w.heap.size + 3) 69 i0 _ 2 48 Try.underlying37 hi hz0 hz1' hz2' rfl (by decide) (.slice zo k zc) k (pcells rows) (by rfl) (ownsRow_below own (balloc hz2 _)) ⟨w2.heap.size, 0, none⟩ 1 1 [.slice ko m kc1, .slice vo mv vc1] (by rfl) rfl (cells_new _ _ _) (by simp; constructor <;> rfl) (by simp only [maxLen]; omega) (by omega) (by have := hz2.size; rw [World.size_alloc]; omega) ?_; intro zv w3 own3 gr3 at3; obtain ⟨zo', zc', ezv⟩ := (IsRow.of_own own3).shape; subst ezv; have hob3 := pages_ob hz2 ob own gr3; have hq3 : w3.cell? ⟨w.heap.size + 1 + 1, 0, none⟩ = some (.slice zo k zc) := cell_of_block hob3 rfl; have hf3 : w3.frozen? ⟨w.heap.size + 1 + 1, 0, none⟩ = false := (by simp [World.frozen?, hob3]))))
      all_goals
        have hst := pages_step (T := T) hbel hz2 rb ob own HP.out (hk1.below hb2) hv2 (fun j hj => ⟨by have h1 := (hf1 j hj).1; have h2 := hB1.size; change W1.heap.size ≤ j at h1; omega, by have h1 := (hf1 j hj).2; have h2 := hb2.size; omega⟩) (fun j hj => ⟨by have h1 := (hf2 j hj).1; have h2 := hz1.size; omega, (hf2 j hj).2⟩) gr3 own3 at3 HTK.out
        go_wp2
        go_roundw
        case rel => exact ⟨k + 1, _, zo', zc', by omega, by go_num, hst.1, hst.2.1, hst.2.2.1, hst.2.2.2.1, hid ⟨hst.2.2.2.2.1, hst.2.2.2.2.2⟩⟩
        case measure => simp [intOf]; omega
    · have hkn : k = n := by omega
      subst hkn
      have v1 : ¬ ((k : Int) < (k : Int)) := by omega
      have oc : wr.cell? ⟨w.heap.size + 1 + 1, 0, none⟩ = some (.slice zo k zc) := cell_of_block ob rfl
      have rc : wr.cell? ⟨w.heap.size + 1, 0, none⟩ = some (.slice none 0 0) := cell_of_block rb rfl
      have rf : wr.frozen? ⟨w.heap.size + 1, 0, none⟩ = false := by simp [World.frozen?, rb]
      go_wp2
      refine bodyPost_ret (v := .agg #[.slice zo k zc]) (by simp [results, Try.results22, go_sem, *]) rfl ?_
      have hT : T.take k = T := by rw [← HN.out, List.take_length]
      have hP := HP.out.1
      rw [hT] at hP
      refine ⟨_, rfl, ⟨_, rfl, pages_set ⟨rows, ?_, hP⟩ rb _⟩, hbel.setCell (by simp) _⟩
      rw [HN.out]
      exact IsRow.of_own own

end Go.Proofs.Ytfcdkpkmkepcaaa
