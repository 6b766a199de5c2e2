/-
  Contracts of slices.Insert of one text and slices.Delete of one, in a row of the caller's own.
-/
import Derived.Test.YtfcdkpkmkepcaaaTLib
import Derived.Deep.Upon
import Derived.Lib.EndianMore
import Derived.Lib.ReflectliteSwap
namespace Go.Proofs.Ytfcdkpkmkepcaaa
open Go.RowKit

theorem grown_setCells {w : World} (g o : Nat) (vs : List Value) : w.grownBy (w.setCells g o vs) (some g) := by
  have h := Lib.below_setCells_w (B := 0) (g := g) (Nat.zero_le _) vs o w
  exact ⟨h.os, h.tape, h.output, h.size, fun k hk hne => World.heap_setCells_other w g o vs hk (fun e => hne (by rw [e]))⟩

theorem grown_trans {a b c : World} {r : Option Nat} (h : a.grownBy b r) (k : b.grownBy c r) : a.grownBy c r :=
  ⟨k.os.trans h.os, k.tape.trans h.tape, k.output.trans h.output, Nat.le_trans h.size k.size, fun i hi hne => (k.block i (Nat.lt_of_lt_of_le hi h.size) hne).trans (h.block i hi hne)⟩

theorem grown_drew {w w' : World} {r : Option Nat} (h : w.grownBy w' r) : w.grownBy w'.drew r := ⟨h.os, h.tape, h.output, h.size, h.block⟩
theorem grown_refl (w : World) (r : Option Nat) : w.grownBy w r := ⟨rfl, rfl, rfl, Nat.le_refl _, fun _ _ _ => rfl⟩
theorem grown_below {w w' : World} (r : Option Nat) (h : Below w.heap.size w w') : w.grownBy w' r := ⟨h.os, h.tape, h.output, h.size, fun k hk _ => h.block k hk⟩

/-- What is another row stays. -/
theorem IsStrs.grown {w w' : World} {sv : Value} {L : List ByteArray} {r : Option Nat} (h : IsStrs w sv L) (hg : w.grownBy w' r) (hne : r = none ∨ sv.ownBlock ≠ r) : IsStrs w' sv L := by
  obtain ⟨h1, h2⟩ := h
  refine ⟨h1, ?_⟩
  rcases h2 with h2 | ⟨h0, b, off, cap, rfl, hlt, hc, hm, hcell⟩
  · exact .inl h2
  · exact .inr ⟨h0, b, off, cap, rfl, Nat.lt_of_lt_of_le hlt hg.size, hc, hm, fun j u hj => hg.cell (hcell j u hj) (by
      rcases hne with rfl | hne
      · simp
      · simpa [Value.ownBlock] using hne)⟩

theorem strs_one (L : List ByteArray) : ∀ u ∈ L.map Value.string, u.oneCell' = true := by
  intro u hu; obtain ⟨x, _, rfl⟩ := List.mem_map.1 hu; rfl

theorem insert_any (L1 L2 : List ByteArray) (x : ByteArray) (v : Value) (B vb vc : Nat) (w : World) (ho : w.ownsRow B 9 1 v (L1 ++ L2).length ((L1 ++ L2).map .string)) (h0 : 0 < (L1 ++ L2).length) (h4 : (L1 ++ L2).length ≤ 4)
    (hv : w.heap[vb]? = some (.cells #[.string x] 9)) (hne : v.ownBlock ≠ some vb) :
    Calls Try.prog 49 #[v, .int .i64 L1.length, .slice (some ⟨vb, 0, none⟩) 1 vc] w fun e w' => ∃ v', e = .returned v' ∧ IsStrs w' v' (L1 ++ x :: L2) ∧ w.grownBy w' v.ownBlock ∧ (v'.ownBlock = v.ownBlock ∨ ∃ b, v'.ownBlock = some b ∧ w.heap.size ≤ b) := by
  have hvs : ∀ (j : Nat) (u : Value), ([Value.string x] : List Value)[j]? = some u → w.cell? ⟨vb, 0 + j, none⟩ = some u := by
    intro j u hj
    rw [Nat.zero_add]
    exact cell_of_block hv (by simpa using hj)
  have hxl : (L1 ++ x :: L2).length = (L1 ++ L2).length + 1 := by simp; omega
  rcases ho.2 with ⟨rfl, hz⟩ | ⟨g, cap, cur, rfl, hg, hh, hn, hm, hsz, htk⟩
  · omega
  · have hcs : ∀ (j : Nat) (u : Value), ((L1 ++ L2).map Value.string)[j]? = some u → w.cell? ⟨g, 0 + j, none⟩ = some u := by
      intro j u hj
      have := ho.cells (g := g) rfl j u hj
      rwa [Addr.add_lit] at this
    have hall : ∀ j, j < cap → (w.cell? ⟨g, 0 + j, none⟩).isSome = true := by
      intro j hj
      rw [Nat.zero_add, cell_of_block hh (Array.getElem?_eq_getElem (by omega))]; rfl
    have hfz : ∀ j, w.frozen? ⟨g, 0 + j, none⟩ = false := by
      intro j; simp [World.frozen?, hh]
    have hgv : vb ≠ g := by rintro rfl; exact hne rfl
    have hm' : cap ≤ 9223372036854775807 := by simpa [maxLen] using hm
    generalize hn' : (L1 ++ L2).length = n at *
    have hl : L1.length ≤ n := by rw [← hn']; simp
    by_cases hroom : n + 1 ≤ cap
    · by_cases hi : L1.length < n
      · refine (Any2.slices_Insert_string_shift Try.laysInsert g 0 n cap L1.length vb 0 1 vc ((L1 ++ L2).map .string) [.string x] w hi (by decide) hroom hm' hgv (by rw [List.length_map, hn']) rfl hcs
          (fun j hj => hall j (by omega)) (fun j _ => hfz j) hvs (strs_one _) (by simp [Value.oneCell']) 9 9 1 cur.size (by simp [World.shape?, hv]) (by simp [World.shape?, hh]) (by omega) (by simp [World.frozen?, hv]) (by simp [World.frozen?, hv])).mono ?_
        rintro e w' ⟨rfl, rfl⟩
        refine ⟨_, rfl, ⟨by simp, .inr ⟨by omega, g, 0, cap, by rw [hxl], ?_, by omega, hm, ?_⟩⟩, ?_, .inl rfl⟩
        · have := (grown_trans (grown_drew (grown_refl w (some g))) (grown_trans (grown_setCells (w := w.drew) g (0 + (L1.length + 1)) (((L1 ++ L2).map Value.string).drop L1.length)) (grown_setCells g (0 + L1.length) [Value.string x]))).size
          exact Nat.lt_of_lt_of_le (lt_of_block hh) this
        · intro j u hj
          have hd : ((L1 ++ L2).map Value.string).drop L1.length = L2.map Value.string := by simp
          rw [hd]
          have hln : L1.length + L2.length = n := by rw [← hn', List.length_append]
          have hs1 : ∀ k, k < n + 1 → ((w.drew.setCells g (0 + (L1.length + 1)) (L2.map Value.string)).cell? ⟨g, 0 + k, none⟩).isSome = true := fun k hk => Lib.isSome_setCells g _ _ _ _ (hall k (by omega))
          rcases Nat.lt_trichotomy j L1.length with hj1 | rfl | hj1
          · rw [World.cell?_setCells_out _ _ _ _ _ (fun _ _ => .inl (by simp; omega)), World.cell?_setCells_out _ _ _ _ _ (fun _ _ => .inl (by simp; omega))]
            refine hcs j u ?_
            rw [List.map_append, List.getElem?_append_left (by simpa using hj1)] at hj ⊢
            exact hj
          · have := World.cell?_setCells_in g [Value.string x] (0 + L1.length) (w.drew.setCells g (0 + (L1.length + 1)) (L2.map Value.string)) (fun k hk => by simp at hk; subst hk; exact hs1 _ (by omega)) 0 (by simp)
            refine this.trans ?_
            rw [List.map_append, List.getElem?_append_right (by simp)] at hj
            simpa using hj
          · rw [World.cell?_setCells_out _ _ _ _ _ (fun _ _ => .inr (by simp; omega))]
            obtain ⟨d, rfl⟩ : ∃ d, j = L1.length + 1 + d := ⟨j - (L1.length + 1), by omega⟩
            rw [List.map_append, List.getElem?_append_right (by simp; omega)] at hj
            simp only [List.length_map, List.map_cons] at hj
            rw [show L1.length + 1 + d - L1.length = d + 1 by omega, List.getElem?_cons_succ] at hj
            have hdl : d < (L2.map Value.string).length := (List.getElem?_eq_some_iff.1 hj).1
            have := World.cell?_setCells_in g (L2.map Value.string) (0 + (L1.length + 1)) w.drew (fun k hk => by rw [Nat.add_assoc]; exact hall _ (by simp at hk; omega)) d hdl
            rw [Nat.add_assoc] at this
            rw [this]
            rw [List.getElem?_eq_getElem hdl] at hj
            exact hj
        · exact grown_trans (grown_drew (grown_refl w _)) (grown_trans (grown_setCells (w := w.drew) g _ _) (grown_setCells g _ _))
      · have hL2 : L2 = [] := List.eq_nil_of_length_eq_zero (by rw [List.length_append] at hn'; omega)
        subst hL2
        rw [List.append_nil] at hn'
        rw [hn']
        refine (Any2.slices_Insert_string_end_room Try.laysInsert g 0 n cap vb 0 1 vc [.string x] w (by decide) hroom hm' rfl (fun j hj => by rw [Nat.add_assoc]; exact hall _ (by omega)) (fun j _ => by rw [Nat.add_assoc]; exact hfz _) hvs (by simp [Value.oneCell'])).mono ?_
        rintro e w' ⟨rfl, rfl⟩
        refine ⟨_, rfl, ⟨by simp, .inr ⟨by omega, g, 0, cap, by rw [hxl], Nat.lt_of_lt_of_le (lt_of_block hh) (grown_setCells g _ _).size, by omega, hm, ?_⟩⟩, grown_setCells g _ _, .inl rfl⟩
        intro j u hj
        rcases Nat.lt_or_ge j n with hj1 | hj1
        · rw [World.cell?_setCells_out _ _ _ _ _ (fun _ _ => .inl (by simp; omega))]
          refine hcs j u ?_
          rw [List.append_nil]
          rw [List.map_append, List.getElem?_append_left (by simp; omega)] at hj
          exact hj
        · have hjn : j = n := by
            have := (List.getElem?_eq_some_iff.1 hj).1
            simp at this; omega
          subst hjn
          have := World.cell?_setCells_in g [Value.string x] (0 + j) w (fun k hk => by simp at hk; subst hk; exact hall _ (by omega)) 0 (by simp)
          refine this.trans ?_
          rw [List.map_append, List.getElem?_append_right (by simp; omega)] at hj
          simpa [hn'] using hj
    · have hc1 : cap = n := by omega
      have hbig : (n + 1) * 16 ≤ 140737488355328 := by omega
      have hG : grownCap w (n + 1) cap 9 ≤ maxLen := grownCap_le_maxLen w (n + 1) cap _ (by unfold maxLen; omega)
      have hGe := grownCap_ge w (n + 1) cap 9
      by_cases hi : L1.length < n
      · refine (Any2.slices_Insert_string_grow Try.laysInsert g 0 n cap L1.length vb 0 1 vc ((L1 ++ L2).map .string) [.string x] w hi (by decide) hn (by omega) hbig (by rw [List.length_map, hn']) rfl hcs hvs (strs_one _) (by simp [Value.oneCell'])).mono ?_
        rintro e w' ⟨rfl, rfl⟩
        change grownCap w (n + 1) cap 9 ≤ maxLen at hG
        generalize hGd : grownCap w (n + 1) cap 9 = G at *
        have hGd' : grownCap w (n + 1) cap (Go.Shelf.Ren.t Try.laysInsert_ren 9) = G := hGd
        rw [hGd']
        have hd : ((L1 ++ L2).map Value.string).drop L1.length = L2.map Value.string := by simp
        have ht : ((L1 ++ L2).map Value.string).take L1.length = L1.map Value.string := by simp
        rw [hd, ht]
        have hln : L1.length + L2.length = n := by rw [← hn', List.length_append]
        generalize hrow : (L1.map Value.string).toArray ++ Builtin.zeroCells (Value.string ⟨#[]⟩).cells (n + 1 - L1.length) ++ Builtin.zeroCells (Value.string ⟨#[]⟩).cells (G - (n + 1)) = row
        have hrs : row.size = G := by
          rw [← hrow, Array.size_append, Array.size_append, zeroCells_size, zeroCells_size]
          simp [Value.cells]; omega
        have hrt : ∀ (j : Nat) (u : Value), (L1.map Value.string)[j]? = some u → row[j]? = some u := by
          intro j u hj
          have := (List.getElem?_eq_some_iff.1 hj).1
          rw [← hrow, Array.append_assoc, Array.getElem?_append_left (by simpa using this)]
          simpa using hj
        generalize hW1 : (w.alloc (.cells row (Go.Shelf.Ren.t Try.laysInsert_ren 9))).drew = W1
        have hb1 : W1.heap[w.heap.size]? = some (.cells row 9) := by rw [← hW1]; exact block_alloc_at w _
        have hbl : Below w.heap.size w W1 := by rw [← hW1]; exact ((Below.refl _ w).alloc (Nat.le_refl _) _).drew
        have hs0 : ∀ k, k < G → (W1.cell? ⟨w.heap.size, k, none⟩).isSome = true := fun k hk => by
          rw [cell_of_block hb1 (Array.getElem?_eq_getElem (by omega))]; rfl
        have hs1 : ∀ k, k < G → ((W1.setCells w.heap.size L1.length [Value.string x]).drew.cell? ⟨w.heap.size, k, none⟩).isSome = true := fun k hk => Lib.isSome_setCells _ _ _ _ _ (hs0 k hk)
        have hblw : Below w.heap.size w (((W1.setCells w.heap.size L1.length [Value.string x]).drew).setCells w.heap.size (L1.length + 1) (L2.map Value.string)) :=
          ((hbl.trans (Lib.below_setCells_w (Nat.le_refl _) _ _ W1)).drew).trans (Lib.below_setCells_w (Nat.le_refl _) _ _ _)
        refine ⟨_, rfl, ⟨by simp, .inr ⟨by omega, w.heap.size, 0, G, by rw [hxl], ?_, by omega, hG, ?_⟩⟩, grown_below _ hblw, .inr ⟨_, rfl, Nat.le_refl _⟩⟩
        · have h1 := (Lib.below_setCells_w (B := 0) (g := w.heap.size) (Nat.zero_le _) (L2.map Value.string) (L1.length + 1) (W1.setCells w.heap.size L1.length [Value.string x]).drew).size
          have h2 := (Lib.below_setCells_w (B := 0) (g := w.heap.size) (Nat.zero_le _) [Value.string x] L1.length W1).size
          exact Nat.lt_of_lt_of_le (lt_of_block hb1) (Nat.le_trans h2 h1)
        · intro j u hj
          rw [Nat.zero_add]
          rcases Nat.lt_trichotomy j L1.length with hj1 | rfl | hj1
          · rw [World.cell?_setCells_out _ _ _ _ _ (fun _ _ => .inl (by simp; omega))]
            show (W1.setCells w.heap.size L1.length [Value.string x]).cell? _ = _
            rw [World.cell?_setCells_out _ _ _ _ _ (fun _ _ => .inl (by simp; omega))]
            rw [List.map_append, List.getElem?_append_left (by simpa using hj1)] at hj
            exact cell_of_block hb1 (hrt j u hj)
          · rw [World.cell?_setCells_out _ _ _ _ _ (fun _ _ => .inl (by simp))]
            show (W1.setCells w.heap.size L1.length [Value.string x]).cell? _ = _
            have := World.cell?_setCells_in w.heap.size [Value.string x] L1.length W1 (fun k hk => by simp at hk; subst hk; exact hs0 _ (by omega)) 0 (by simp)
            refine this.trans ?_
            rw [List.map_append, List.getElem?_append_right (by simp)] at hj
            simpa using hj
          · obtain ⟨d, rfl⟩ : ∃ d, j = L1.length + 1 + d := ⟨j - (L1.length + 1), by omega⟩
            rw [List.map_append, List.getElem?_append_right (by simp; omega)] at hj
            simp only [List.length_map, List.map_cons] at hj
            rw [show L1.length + 1 + d - L1.length = d + 1 by omega, List.getElem?_cons_succ] at hj
            have hdl : d < (L2.map Value.string).length := (List.getElem?_eq_some_iff.1 hj).1
            have := World.cell?_setCells_in w.heap.size (L2.map Value.string) (L1.length + 1) (W1.setCells w.heap.size L1.length [Value.string x]).drew (fun k hk => hs1 _ (by simp at hk; omega)) d hdl
            rw [this]
            rw [List.getElem?_eq_getElem hdl] at hj
            exact hj
      · have hL2 : L2 = [] := List.eq_nil_of_length_eq_zero (by rw [List.length_append] at hn'; omega)
        subst hL2
        simp only [List.append_nil] at hn' hcs ho
        rw [hn']
        refine (Any2.slices_Insert_string_end_grow Try.laysInsert (some ⟨g, 0, none⟩) n cap vb 0 1 vc (L1.map .string) [.string x] w (by decide) hn (by omega) hbig (by rw [List.length_map, hn']) rfl (fun h => by cases h)
          (fun a ha j u hj => by cases ha; rw [Addr.add_lit]; exact hcs j u hj) hvs (by simp [Value.oneCell'])).mono ?_
        rintro e w' ⟨rfl, rfl⟩
        have hGd' : grownCap w (n + 1) cap (Go.Shelf.Ren.t Try.laysInsert_ren 9) = grownCap w (n + 1) cap 9 := rfl
        rw [hGd']
        generalize grownCap w (n + 1) cap 9 = G at *
        have hblw : Below w.heap.size w (w.drew.alloc (.cells ((L1.map Value.string ++ [Value.string x]).toArray ++ Builtin.zeroCells (Value.string ⟨#[]⟩).cells (G - (n + 1))) (Go.Shelf.Ren.t Try.laysInsert_ren 9))) :=
          ((Below.refl _ w).drew).alloc (Nat.le_refl _) _
        refine ⟨_, rfl, ⟨by simp, .inr ⟨by omega, w.heap.size, 0, G, by rw [hxl], by simp, by omega, hG, ?_⟩⟩, grown_below _ hblw, .inr ⟨_, rfl, Nat.le_refl _⟩⟩
        intro j u hj
        rw [Nat.zero_add]
        refine cell_of_block (block_alloc_at w.drew _) ?_
        rw [Array.getElem?_append_left (by have := (List.getElem?_eq_some_iff.1 hj).1; simpa using this)]
        simpa using hj

theorem delete_any (L1 L2 : List ByteArray) (y : ByteArray) (v : Value) (B : Nat) (w : World) (ho : w.ownsRow B 9 1 v (L1 ++ y :: L2).length ((L1 ++ y :: L2).map .string)) :
    Calls Try.prog 51 #[v, .int .i64 L1.length, .int .i64 (L1.length + 1)] w fun e w' => ∃ v', e = .returned v' ∧ IsStrs w' v' (L1 ++ L2) ∧ w.grownBy w' v.ownBlock ∧ v'.ownBlock = v.ownBlock := by
  rcases ho.2 with ⟨rfl, hz⟩ | ⟨g, cap, cur, rfl, hg, hh, hn, hm, hsz, htk⟩
  · simp at hz
  · have hcs : ∀ (j : Nat) (u : Value), ((L1 ++ y :: L2).map Value.string)[j]? = some u → w.cell? ⟨g, 0 + j, none⟩ = some u := by
      intro j u hj
      have := ho.cells (g := g) rfl j u hj
      rwa [Addr.add_lit] at this
    have hm' : cap ≤ 9223372036854775807 := by simpa [maxLen] using hm
    have hlen : (L1 ++ y :: L2).length = L1.length + L2.length + 1 := by simp; omega
    have key := Any.slices_Delete_string_cells Try.laysDelete g 0 (L1 ++ y :: L2).length cap L1.length (L1.length + 1) (fun t => (L1 ++ y :: L2).getD t ByteArray.empty) w hn hm' (by omega) (by omega)
      (fun j hj => hcs j _ (by rw [List.getElem?_map, List.getElem?_eq_getElem hj, List.getD_eq_getElem?_getD, List.getElem?_eq_getElem hj]; rfl)) (fun j _ => by simp [World.frozen?, hh])
    have he : Lib.strsOf (fun t => (L1 ++ y :: L2).getD t ByteArray.empty) (L1 ++ y :: L2).length = (L1 ++ y :: L2).map (fun s => s.data.toList) := by
      apply List.ext_getElem
      · simp [Lib.strsOf]
      · intro i h1 h2
        simp only [List.length_map] at h2
        simp only [Lib.strsOf, List.getElem_map, List.getElem_range]
        rw [List.getD_eq_getElem?_getD, List.getElem?_eq_getElem h2]; rfl
    rw [he] at key
    refine key.mono ?_
    rintro e w' ⟨rfl, q, rfl⟩
    have hl : (L1 ++ L2).length = (L1 ++ y :: L2).length - (L1.length + 1 - L1.length) := by simp <;> omega
    generalize hvs : ((((L1 ++ y :: L2).map (fun s => s.data.toList)).take L1.length ++ ((L1 ++ y :: L2).map (fun s => s.data.toList)).drop (L1.length + 1) ++ List.replicate (L1.length + 1 - L1.length) ([] : List UInt8)).map encStr) = vs
    have hvl : vs.length = (L1 ++ y :: L2).length := by rw [← hvs]; simp <;> omega
    have hat : ∀ (j : Nat) (u : Value), ((L1 ++ L2).map Value.string)[j]? = some u → vs[j]? = some u := by
      intro j u hj
      have hjl := (List.getElem?_eq_some_iff.1 hj).1
      have e1 : ((L1 ++ y :: L2).map (fun s => s.data.toList)).take L1.length = L1.map (fun s => s.data.toList) := by simp
      have e2 : ((L1 ++ y :: L2).map (fun s => s.data.toList)).drop (L1.length + 1) = L2.map (fun s => s.data.toList) := by
        rw [← List.drop_drop]; simp
      rw [← hvs, e1, e2, ← List.map_append, List.map_append (f := encStr), List.getElem?_append_left (by simpa using hjl), List.map_map]
      rw [List.getElem?_map] at hj ⊢
      cases hx : (L1 ++ L2)[j]? with
      | none => rw [hx] at hj; cases hj
      | some s => rw [hx] at hj; exact hj
    have hsome : ∀ j, j < vs.length → ((w.drewN q).cell? ⟨g, 0 + j, none⟩).isSome = true := by
      intro j hj
      show (w.cell? ⟨g, 0 + j, none⟩).isSome = true
      rw [Nat.zero_add, cell_of_block hh (Array.getElem?_eq_getElem (by omega))]; rfl
    have hgr : w.grownBy ((w.drewN q).setCells g 0 vs) (some g) := grown_trans (grown_below _ (below_drewN (Below.refl _ w) q)) (grown_setCells g 0 vs)
    refine ⟨_, rfl, ⟨by simp, ?_⟩, hgr, rfl⟩
    rcases Nat.eq_zero_or_pos (L1 ++ L2).length with h0 | h0
    · exact .inl ⟨h0, _, cap, by rw [← hl, h0], fun h => by cases h⟩
    · refine .inr ⟨h0, g, 0, cap, by rw [← hl], Nat.lt_of_lt_of_le (lt_of_block hh) hgr.size, by omega, hm, ?_⟩
      intro j u hj
      have h1 := hat j u hj
      have hjl := (List.getElem?_eq_some_iff.1 h1).1
      rw [World.cell?_setCells_in g vs 0 _ hsome j hjl]
      rw [List.getElem?_eq_getElem hjl] at h1
      exact h1

end Go.Proofs.Ytfcdkpkmkepcaaa
