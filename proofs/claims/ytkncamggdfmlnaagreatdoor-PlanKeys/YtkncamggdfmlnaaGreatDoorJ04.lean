/-
  2 texts of this proof in one, in build order: TParts, TReplaced.
-/
import Derived.Test.YtkncamggdfmlnaaGreatDoorJ03
attribute [local go_sem ↓] Go.wp_at_zero Go.wp_at_succ
namespace Go.Proofs.YtkncamggdfmlnaaGreatDoor
open Go.RowKit

theorem OwnStrs.base {w : World} {B B' g cap : Nat} {L : List ByteArray} (h : OwnStrs w B g cap L) (hB : B' ≤ B) : OwnStrs w B' g cap L := by
  obtain ⟨h1, h2, h3⟩ := h
  refine ⟨by omega, h2, ?_⟩
  rcases h3 with h3 | ⟨g', c', cur, e, hg, r⟩
  · exact .inl h3
  · exact .inr ⟨g', c', cur, e, by omega, r⟩
theorem OwnStrs.setCell {w : World} {B g cap : Nat} {L : List ByteArray} (h : OwnStrs w B g cap L) {a : Addr} (ha : a.block < B) (u : Value) : OwnStrs (w.setCell a u) B g cap L := ⟨h.1, ownsRow_setCell_below h.2 ha u⟩
theorem OwnStrs.below {w w' : World} {B g cap : Nat} {L : List ByteArray} (h : OwnStrs w B g cap L) (hb : Below w.heap.size w w') : OwnStrs w' B g cap L := ⟨h.1, ownsRow_below h.2 hb⟩
theorem OwnStrs.strs {w : World} {B g cap : Nat} {L : List ByteArray} (h : OwnStrs w B g cap L) : IsStrs w (.slice (some ⟨g, 0, none⟩) L.length cap) L := IsRow.of_own h.2
theorem OwnStrs.lt {w : World} {B g cap : Nat} {L : List ByteArray} (h : OwnStrs w B g cap L) : g < w.heap.size := (h.2.lt g rfl).2

set_option maxHeartbeats 2000000 in
/-- tree.copied: a page with rows of its own. -/
theorem copied_any (p : Pg) (kv vv : Value) (w : World) (hk : IsStrs w kv p.K) (hv : IsStrs w vv p.V) (h0 : 0 < p.K.length) (h8 : p.K.length ≤ 8) (hl : p.V.length = p.K.length) :
    Calls Tryz.prog 41 #[.agg #[kv, vv]] w fun e w' => ∃ g1 c1 g2 c2, e = .returned (.agg #[.slice (some ⟨g1, 0, none⟩) p.K.length c1, .slice (some ⟨g2, 0, none⟩) p.V.length c2]) ∧ OwnStrs w' w.heap.size g1 c1 p.K ∧ OwnStrs w' w.heap.size g2 c2 p.V ∧ g1 < g2 ∧ Below w.heap.size w w' := by
  have kc := fun W (h : Below w.heap.size w W) => clone_any p.K kv W (hk.below h) h0 h8
  have vc := fun W (h : Below w.heap.size w W) => clone_any p.V vv W (hv.below h) (by omega) (by omega)
  obtain ⟨ka, kcap, rfl⟩ := hk.shape
  obtain ⟨va, vcap, rfl⟩ := hv.shape
  have HL := hid hl
  clear hl hk hv
  generalize hn : p.K.length = n at *
  generalize hm : p.V.length = m at *
  generalize hW0 : (w.alloc (.cells #[.slice ka n kcap, .slice va m vcap] 76)).alloc (.cells #[.slice none 0 0, .slice none 0 0] 76) = W0
  have hB0 : Below w.heap.size w W0 := by rw [← hW0]; exact ((Below.refl _ w).alloc (Nat.le_refl _) _).alloc (by simp) _
  have hs0 : W0.heap.size = w.heap.size + 1 + 1 := by rw [← hW0]; simp
  have c0 : W0.cell? ⟨w.heap.size, 0, none⟩ = some (.slice ka n kcap) := by rw [← hW0]; exact cell_of_block (block_alloc_of (block_alloc_at w _) _) rfl
  have c1 : W0.cell? ⟨w.heap.size, 1, none⟩ = some (.slice va m vcap) := by rw [← hW0]; exact cell_of_block (block_alloc_of (block_alloc_at w _) _) rfl
  have r0 : W0.heap[w.heap.size + 1]? = some (.cells #[.slice none 0 0, .slice none 0 0] 76) := by
    rw [← hW0]; have := block_alloc_at (w.alloc (.cells #[.slice ka n kcap, .slice va m vcap] 76)) (.cells #[.slice none 0 0, .slice none 0 0] 76)
    rwa [World.size_alloc] at this
  have q0 : W0.cell? ⟨w.heap.size + 1, 0, none⟩ = some (.slice none 0 0) := cell_of_block r0 rfl
  have q1 : W0.cell? ⟨w.heap.size + 1, 1, none⟩ = some (.slice none 0 0) := cell_of_block r0 rfl
  have f0 : W0.frozen? ⟨w.heap.size + 1, 0, none⟩ = false := by simp [World.frozen?, r0]
  have f1 : W0.frozen? ⟨w.heap.size + 1, 1, none⟩ = false := by simp [World.frozen?, r0]
  have hne1 : ∀ i j, (⟨w.heap.size + 1, i, none⟩ : Addr) ≠ ⟨w.heap.size, j, none⟩ := fun i j h => by simp at h
  go_enter Tryz.func41, Tryz.ntmps41
  go_wp2
  clear hW0 r0
  go_region_held3 (fun w' => w'.cell? ⟨w.heap.size, 0, none⟩ = some (.slice ka n kcap) ∧ w'.cell? ⟨w.heap.size, 1, none⟩ = some (.slice va m vcap))
    (first | exact ⟨(World.cell?_setCell_other _ _ _ _ (hne1 _ _)).trans ((World.cell?_setCell_other _ _ _ _ (hne1 _ _)).trans s02), (World.cell?_setCell_other _ _ _ _ (hne1 _ _)).trans ((World.cell?_setCell_other _ _ _ _ (hne1 _ _)).trans s12)⟩ | exact ⟨s02, s12⟩ | exact ⟨s01, s11⟩ | exact ⟨c0, c1⟩)
    (first
      | (go_at_call_of 67 (Value.slice ka n kcap); refine (kc _ hB0.drew).mono ?_; rintro e w1 ⟨g1, k1, rfl, ho1, hb1⟩; obtain ⟨hcc, hff⟩ := bcell hb1; have hA : w.heap.size < W0.drew.heap.size := (by show _ < W0.heap.size; omega); have hA' : w.heap.size + 1 < W0.drew.heap.size := (by show _ < W0.heap.size; omega); have hz1 := hB0.drew.trans (hb1.mono (show w.heap.size ≤ W0.drew.heap.size from hB0.size)); have q01 := (hcc _ _ hA').trans q0; have q11 := (hcc _ _ hA').trans q1; have f01 := (hff _ _ hA').trans f0; have f11 := (hff _ _ hA').trans f1; have s01 := (hcc _ _ hA).trans c0; have s11 := (hcc _ _ hA).trans c1)
      | (go_at_call_of 67 (Value.slice va m vcap); refine (vc _ hz1).mono ?_; rintro e w2 ⟨g2, k2, rfl, ho2, hb2⟩; obtain ⟨hcc, hff⟩ := bcell hb2; replace hA := Nat.lt_of_lt_of_le hA hb1.size; replace hA' := Nat.lt_of_lt_of_le hA' hb1.size; have q02 := (hcc _ _ hA').trans q01; have q12 := (hcc _ _ hA').trans q11; have f02 := (hff _ _ hA').trans f01; have f12 := (hff _ _ hA').trans f11; have s02 := (hcc _ _ hA).trans s01; have s12 := (hcc _ _ hA).trans s11))
  go_wp2
  have hz2 : Below w.heap.size w w2 := hz1.trans (hb2.mono hz1.size)
  have hbw : w.heap.size + 2 ≤ W0.drew.heap.size := (by show _ ≤ W0.heap.size; omega)
  refine bodyPost_ret (v := .agg #[.slice (some ⟨g1, 0, none⟩) n k1, .slice (some ⟨g2, 0, none⟩) m k2]) (by simp [results, Tryz.results41, go_sem, *]) rfl ?_
  refine ⟨g1, k1, g2, k2, rfl, ?_, ?_, Nat.lt_of_lt_of_le ho1.lt ho2.1, ?_⟩
  · exact (((ho1.below hb2).setCell (by simp only; omega) _).setCell (by simp only; omega) _).base (by omega)
  · have := hb1.size
    exact ((ho2.setCell (by simp only; omega) _).setCell (by simp only; omega) _).base (by omega)
  · exact (hz2.setCell (by simp) _).setCell (by simp) _

end Go.Proofs.YtkncamggdfmlnaaGreatDoor

attribute [local go_sem ↓] Go.wp_at_zero Go.wp_at_succ
namespace Go.Proofs.YtkncamggdfmlnaaGreatDoor
open Go.RowKit

theorem Pgs.one {w : World} : ∀ {rs : List (Value × Value)} {T : List Pg}, Pgs w rs T → ∀ u ∈ pcells rs, u.oneCell' = true
  | [], [], _, u, hu => by simp [pcells] at hu
  | r :: rs, p :: T, h, u, hu => by
    have e : pcells (r :: rs) = r.1 :: r.2 :: pcells rs := by simp [pcells]
    rw [e] at hu
    rcases List.mem_cons.1 hu with rfl | hu
    · obtain ⟨a, c, e⟩ := h.1.shape; rw [e]; rfl
    · rcases List.mem_cons.1 hu with rfl | hu
      · obtain ⟨a, c, e⟩ := h.2.1.shape; rw [e]; rfl
      · exact Pgs.one h.2.2 u hu

/-- A slice's head and its rest. -/
theorem IsRow.head {size : Nat} {w : World} {b off n cap : Nat} {cs ds : List Value} {m : Nat} (h : IsRow size w (.slice (some ⟨b, off, none⟩) n cap) n (cs ++ ds)) (h0 : 0 < n) (hc : cs.length = m * size) (hm : m ≤ n) : IsRow size w (.slice (some ⟨b, off, none⟩) m cap) m cs := by
  refine ⟨hc, ?_⟩
  rcases h.2 with ⟨rfl, _⟩ | ⟨_, b', off', cap', e, hb, hn, hx, hcell⟩
  · omega
  · simp only [Value.slice.injEq, Option.some.injEq, Addr.mk.injEq] at e
    obtain ⟨⟨rfl, rfl, _⟩, _, rfl⟩ := e
    rcases Nat.eq_zero_or_pos m with rfl | hm0
    · exact .inl ⟨rfl, _, cap, rfl, fun h => by cases h⟩
    · exact .inr ⟨hm0, b, off, cap, rfl, hb, by omega, hx, fun j u hj => hcell j u (by rw [List.getElem?_append_left (List.getElem?_eq_some_iff.1 hj).1]; exact hj)⟩

theorem IsRow.rest {size : Nat} {w : World} {b off n cap : Nat} {cs ds : List Value} {m : Nat} (h : IsRow size w (.slice (some ⟨b, off, none⟩) n cap) n (cs ++ ds)) (h0 : 0 < n) (hc : cs.length = m * size) (hm : m < n) : IsRow size w (.slice (some ⟨b, off + m * size, none⟩) (n - m) (cap - m)) (n - m) ds := by
  have hl := h.1
  rw [List.length_append, hc] at hl
  refine ⟨by rw [Nat.sub_mul]; omega, ?_⟩
  rcases h.2 with ⟨rfl, _⟩ | ⟨_, b', off', cap', e, hb, hn, hx, hcell⟩
  · omega
  · simp only [Value.slice.injEq, Option.some.injEq, Addr.mk.injEq] at e
    obtain ⟨⟨rfl, rfl, _⟩, _, rfl⟩ := e
    refine .inr ⟨by omega, b, off + m * size, cap - m, rfl, hb, by omega, by omega, fun j u hj => ?_⟩
    rw [Nat.add_assoc, ← hc]
    exact hcell _ u (by rw [List.getElem?_append_right (by omega), Nat.add_sub_cancel_left]; exact hj)

theorem IsRow.none {size : Nat} {w : World} {ad : Addr} {cap : Nat} : IsRow size w (.slice (some ad) 0 cap) 0 [] := ⟨by simp, .inl ⟨rfl, _, cap, rfl, fun h => by cases h⟩⟩

theorem strs_head {w : World} {b off cap : Nat} {L M : List ByteArray} (h : IsStrs w (.slice (some ⟨b, off, none⟩) (L ++ M).length cap) (L ++ M)) (h0 : 0 < (L ++ M).length) : IsStrs w (.slice (some ⟨b, off, none⟩) L.length cap) L := by
  unfold IsStrs at h
  rw [List.map_append] at h
  exact IsRow.head h h0 (by simp) (by simp)
theorem strs_rest {w : World} {b off cap : Nat} {L M : List ByteArray} (h : IsStrs w (.slice (some ⟨b, off, none⟩) (L ++ M).length cap) (L ++ M)) (h0 : 0 < M.length) : IsStrs w (.slice (some ⟨b, off + L.length, none⟩) M.length (cap - L.length)) M := by
  unfold IsStrs at h
  rw [List.map_append] at h
  have := IsRow.rest h (by simp; omega) (m := L.length) (by simp) (by simp; omega)
  rw [Nat.mul_one, List.length_append, Nat.add_sub_cancel_left] at this
  exact this

/-- What Put has of a page that may be too full. -/
def halfs (p : Pg) : List Pg := if p.K.length ≤ 4 then [p] else [⟨p.K.take 2, p.V.take 2⟩, ⟨p.K.drop 2, p.V.drop 2⟩]

theorem pages_one {w : World} {g cap : Nat} {kv vv : Value} {p : Pg} (hb : w.heap[g]? = some (.cells #[kv, vv] 76)) (hk : IsStrs w kv p.K) (hv : IsStrs w vv p.V) (hc : 1 ≤ cap) (hm : cap ≤ maxLen) : IsPages w (.slice (some ⟨g, 0, none⟩) 1 cap) [p] := by
  refine ⟨[(kv, vv)], ⟨by simp [pcells], .inr ⟨by simp, g, 0, cap, rfl, lt_of_block hb, by simpa using hc, hm, fun j u hj => ?_⟩⟩, hk, hv, trivial⟩
  rw [Nat.zero_add]
  exact cell_of_block hb (by simpa [pcells] using hj)

theorem pages_two {w : World} {g cap : Nat} {kv vv kv' vv' : Value} {p q : Pg} (hb : w.heap[g]? = some (.cells #[kv, vv, kv', vv'] 76)) (hk : IsStrs w kv p.K) (hv : IsStrs w vv p.V) (hk' : IsStrs w kv' q.K) (hv' : IsStrs w vv' q.V) (hc : 2 ≤ cap) (hm : cap ≤ maxLen) : IsPages w (.slice (some ⟨g, 0, none⟩) 2 cap) [p, q] := by
  refine ⟨[(kv, vv), (kv', vv')], ⟨by simp [pcells], .inr ⟨by simp, g, 0, cap, rfl, lt_of_block hb, by simpa using hc, hm, fun j u hj => ?_⟩⟩, hk, hv, hk', hv', trivial⟩
  rw [Nat.zero_add]
  exact cell_of_block hb (by simpa [pcells] using hj)

set_option maxHeartbeats 400000 in
theorem halves_small (p : Pg) (kv vv : Value) (w : World) (hk : IsStrs w kv p.K) (hv : IsStrs w vv p.V) (h4 : p.K.length ≤ 4) :
    Calls Tryz.prog 44 #[.agg #[kv, vv]] w fun e w' => ∃ sv, e = .returned sv ∧ IsPages w' sv (halfs p) ∧ Below w.heap.size w w' := by
  rw [halfs, if_pos h4]
  have hkk := hid hk
  have hvv := hid hv
  obtain ⟨ka, kc, rfl⟩ := hk.shape
  obtain ⟨va, vc, rfl⟩ := hv.shape
  clear hk hv
  generalize p.K.length = n at *
  generalize p.V.length = m at *
  have i0 : (n : Int) ≤ 4 := by omega
  go_enter Tryz.func44, Tryz.ntmps44
  go_wp2
  go_ret
  have hbl : Below w.heap.size w ((w.alloc (.cells #[.slice ka n kc, .slice va m vc] 76)).alloc (.cells #[.slice ka n kc, .slice va m vc] 76)) := ((Below.refl _ w).alloc (Nat.le_refl _) _).alloc (by simp) _
  refine ⟨_, rfl, pages_one (g := w.heap.size + 1) (by have := block_alloc_at (w.alloc (.cells #[.slice ka n kc, .slice va m vc] 76)) (.cells #[.slice ka n kc, .slice va m vc] 76); rwa [World.size_alloc] at this) (hkk.out.below hbl) (hvv.out.below hbl) (by decide) (by decide), hbl⟩

set_option maxHeartbeats 2000000 in
theorem halves_big (K1 K2 V1 V2 : List ByteArray) (kb ko kc vb vo vc : Nat) (w : World) (hk : IsStrs w (.slice (some ⟨kb, ko, none⟩) (K1 ++ K2).length kc) (K1 ++ K2)) (hv : IsStrs w (.slice (some ⟨vb, vo, none⟩) (V1 ++ V2).length vc) (V1 ++ V2)) (hkc : 5 ≤ kc) (hkm : kc ≤ maxLen) (hvc : 5 ≤ vc) (hvm : vc ≤ maxLen)
    (h1 : K1.length = 2) (h2 : K2.length = 3) (h3 : V1.length = 2) (h4 : V2.length = 3) :
    Calls Tryz.prog 44 #[.agg #[.slice (some ⟨kb, ko, none⟩) 5 kc, .slice (some ⟨vb, vo, none⟩) 5 vc]] w fun e w' => ∃ sv, e = .returned sv ∧ IsPages w' sv [⟨K1, V1⟩, ⟨K2, V2⟩] ∧ Below w.heap.size w w' := by
  have a1 := strs_head hk (by simp; omega)
  have a2 := strs_rest hk (by omega)
  have b1 := strs_head hv (by simp; omega)
  have b2 := strs_rest hv (by omega)
  rw [h1] at a1 a2
  rw [h2] at a2
  rw [h3] at b1 b2
  rw [h4] at b2
  have cp1 := fun W (h : Below w.heap.size w W) => copied_any ⟨K1, V1⟩ _ _ W (a1.below h) (b1.below h) (by simp only; omega) (by simp only; omega) (by simp only; omega)
  have cp2 := fun W (h : Below w.heap.size w W) => copied_any ⟨K2, V2⟩ _ _ W (a2.below h) (b2.below h) (by simp only; omega) (by simp only; omega) (by simp only; omega)
  simp only [h1, h2, h3, h4] at cp1 cp2
  have H := hid (And.intro h1 (And.intro h2 (And.intro h3 h4)))
  clear a1 a2 b1 b2 hk hv h1 h2 h3 h4
  unfold maxLen at hkm hvm
  have i1 : (2 : Int) ≤ (kc : Int) := by omega
  have i2 : (2 : Int) ≤ (vc : Int) := by omega
  have i3 : ¬ (kc = 2) := by omega
  have i4 : ¬ (vc = 2) := by omega
  have i5 : (5 : Int) ≤ (kc : Int) := by omega
  have i6 : (5 : Int) ≤ (vc : Int) := by omega
  generalize hW0 : w.alloc (.cells #[.slice (some ⟨kb, ko, none⟩) 5 kc, .slice (some ⟨vb, vo, none⟩) 5 vc] 76) = W0
  have hB0 : Below w.heap.size w W0 := by rw [← hW0]; exact (Below.refl _ w).alloc (Nat.le_refl _) _
  have hs0 : W0.heap.size = w.heap.size + 1 := by rw [← hW0]; simp
  have c0 : W0.cell? ⟨w.heap.size, 0, none⟩ = some (.slice (some ⟨kb, ko, none⟩) 5 kc) := by rw [← hW0]; exact cell_of_block (block_alloc_at w _) rfl
  have c1 : W0.cell? ⟨w.heap.size, 1, none⟩ = some (.slice (some ⟨vb, vo, none⟩) 5 vc) := by rw [← hW0]; exact cell_of_block (block_alloc_at w _) rfl
  go_enter Tryz.func44, Tryz.ntmps44
  go_wp2
  clear hW0
  go_region_held3 (fun w' => w'.cell? ⟨w.heap.size, 0, none⟩ = some (.slice (some ⟨kb, ko, none⟩) 5 kc) ∧ w'.cell? ⟨w.heap.size, 1, none⟩ = some (.slice (some ⟨vb, vo, none⟩) 5 vc))
    (first | exact ⟨(World.cell?_alloc_past _ _ _ hZ).trans s02, (World.cell?_alloc_past _ _ _ hZ).trans s12⟩ | exact ⟨s02, s12⟩ | exact ⟨s01, s11⟩ | exact ⟨c0, c1⟩)
    (first
      | (go_at_call_of 41 (Value.agg #[.slice (some ⟨kb, ko, none⟩) 2 kc, .slice (some ⟨vb, vo, none⟩) 2 vc]); refine (cp1 _ hB0.drew).mono ?_; rintro e w1 ⟨g1, k1, g2, k2, rfl, ho1, ho2, hgg, hb1⟩; obtain ⟨hcc, hff⟩ := bcell hb1; have hA : w.heap.size < W0.drew.heap.size := (by show _ < W0.heap.size; omega); have hz1 := hB0.drew.trans (hb1.mono (show w.heap.size ≤ W0.drew.heap.size from hB0.size)); have s01 := (hcc _ _ hA).trans c0; have s11 := (hcc _ _ hA).trans c1)
      | (go_at_call 41; refine (cp2 _ hz1).mono ?_; rintro e w2 ⟨g3, k3, g4, k4, rfl, ho3, ho4, hgg', hb2⟩; obtain ⟨hcc, hff⟩ := bcell hb2; replace hA := Nat.lt_of_lt_of_le hA hb1.size; have hZ := Nat.lt_of_lt_of_le hA hb2.size; have s02 := (hcc _ _ hA).trans s01; have s12 := (hcc _ _ hA).trans s11))
  go_wp2
  go_ret
  have hz2 : Below w.heap.size w w2 := hz1.trans (hb2.mono hz1.size)
  obtain ⟨h1, h2, h3, h4⟩ := H.out
  have hbl : Below w2.heap.size w2 (w2.alloc (.cells #[.slice (some ⟨g1, 0, none⟩) 2 k1, .slice (some ⟨g2, 0, none⟩) 2 k2, .slice (some ⟨g3, 0, none⟩) 3 k3, .slice (some ⟨g4, 0, none⟩) 3 k4] 76)) := (Below.refl _ _).alloc (Nat.le_refl _) _
  have q1 := ((ho1.strs).below hb2).below hbl
  have q2 := ((ho2.strs).below hb2).below hbl
  have q3 := (ho3.strs).below hbl
  have q4 := (ho4.strs).below hbl
  simp only [h1, h2, h3, h4] at q1 q2 q3 q4
  exact ⟨_, rfl, pages_two (p := ⟨K1, V1⟩) (q := ⟨K2, V2⟩) (block_alloc_at w2 _) q1 q2 q3 q4 (by decide) (by decide), hz2.trans (hbl.mono hz2.size)⟩

/-- tree.halves. -/
theorem halves_any (p : Pg) (kv vv : Value) (w : World) (hk : IsStrs w kv p.K) (hv : IsStrs w vv p.V) (h5 : p.K.length ≤ 5) (hl : p.V.length = p.K.length) :
    Calls Tryz.prog 44 #[.agg #[kv, vv]] w fun e w' => ∃ sv, e = .returned sv ∧ IsPages w' sv (halfs p) ∧ Below w.heap.size w w' := by
  by_cases h4 : p.K.length ≤ 4
  · exact halves_small p kv vv w hk hv h4
  · rw [halfs, if_neg h4]
    have hn : p.K.length = 5 := by omega
    have hm : p.V.length = 5 := by omega
    obtain ⟨kb, ko, kc, rfl, _, hkc, hkm, _⟩ := hk.at (by omega)
    obtain ⟨vb, vo, vc, rfl, _, hvc, hvm, _⟩ := hv.at (by omega)
    rw [hn] at hkc
    rw [hm] at hvc
    have := halves_big (p.K.take 2) (p.K.drop 2) (p.V.take 2) (p.V.drop 2) kb ko kc vb vo vc w (by rw [List.take_append_drop]; exact hk) (by rw [List.take_append_drop]; exact hv) hkc hkm hvc hvm (by simp; omega) (by simp; omega) (by simp; omega) (by simp; omega)
    rw [hn, hm]
    exact this

/-- The pages of a slice: those ahead, and those behind. -/
theorem pages_head {w : World} {b off n cap : Nat} {A M : List Pg} (h : IsPages w (.slice (some ⟨b, off, none⟩) n cap) (A ++ M)) (hn : n = (A ++ M).length) (h0 : 0 < n) : IsPages w (.slice (some ⟨b, off, none⟩) A.length cap) A := by
  obtain ⟨rows, h1, h2⟩ := h
  have hp := h2.part
  have hrl := h2.length
  refine ⟨rows.take A.length, ?_, hp.1⟩
  subst hn
  rw [← List.take_append_drop A.length rows, pcells_append] at h1
  refine IsRow.head h1 h0 ?_ (by simp)
  rw [pcells_length, hp.1.length]

theorem pages_rest {w : World} {b off n cap : Nat} {A M : List Pg} (h : IsPages w (.slice (some ⟨b, off, none⟩) n cap) (A ++ M)) (hn : n = (A ++ M).length) (h0 : 0 < M.length) : IsPages w (.slice (some ⟨b, off + A.length * 2, none⟩) M.length (cap - A.length)) M := by
  obtain ⟨rows, h1, h2⟩ := h
  have hp := h2.part
  refine ⟨rows.drop A.length, ?_, hp.2⟩
  subst hn
  rw [← List.take_append_drop A.length rows, pcells_append] at h1
  have := IsRow.rest h1 (by simp; omega) (m := A.length) (by rw [pcells_length, hp.1.length]) (by simp; omega)
  rw [List.length_append, Nat.add_sub_cancel_left] at this
  exact this

/-- Concat of three slices of pages. -/
theorem concat3 (A P B : List Pg) (s1 s2 s3 : Value) (g cap : Nat) (w : World) (hb : w.heap[g]? = some (.cells #[s1, s2, s3] 50)) (h1 : IsPages w s1 A) (h2 : IsPages w s2 P) (h3 : IsPages w s3 B) (hs : (A.length + P.length + B.length) * 48 ≤ 140737488355328) :
    Calls Tryz.prog 68 #[.slice (some ⟨g, 0, none⟩) 3 cap] w fun e w' => ∃ ao c, e = .returned (.slice ao (A ++ P ++ B).length c) ∧ IsPages w' (.slice ao (A ++ P ++ B).length c) (A ++ P ++ B) ∧ Below w.heap.size w w' := by
  obtain ⟨r1, a1, p1⟩ := h1
  obtain ⟨r2, a2, p2⟩ := h2
  obtain ⟨r3, a3, p3⟩ := h3
  have key := concatP [(s1, A.length, pcells r1), (s2, P.length, pcells r2), (s3, B.length, pcells r3)] g cap w (lt_of_block hb) (by
      intro i x hx
      match i, hx with
      | 0, hx => simp at hx; subst hx; exact cell_of_block hb rfl
      | 1, hx => simp at hx; subst hx; exact cell_of_block hb rfl
      | 2, hx => simp at hx; subst hx; exact cell_of_block hb rfl
      | n + 3, hx => simp at hx) (by
      intro x hx
      simp only [List.mem_cons, List.not_mem_nil, or_false] at hx
      rcases hx with rfl | rfl | rfl
      · exact ⟨a1, p1.one⟩
      · exact ⟨a2, p2.one⟩
      · exact ⟨a3, p3.one⟩) (by simp) (by simp [Parts.sum]; omega)
  refine key.mono ?_
  rintro e w' ⟨v, rfl, hr, hbl⟩
  have hsum : Parts.sum [(s1, A.length, pcells r1), (s2, P.length, pcells r2), (s3, B.length, pcells r3)] = (A ++ P ++ B).length := by simp [Parts.sum] <;> omega
  have hall : Parts.all [(s1, A.length, pcells r1), (s2, P.length, pcells r2), (s3, B.length, pcells r3)] = pcells (r1 ++ r2 ++ r3) := by simp [Parts.all, pcells]
  rw [hsum, hall] at hr
  obtain ⟨ao, c, rfl⟩ := hr.shape
  exact ⟨ao, c, rfl, ⟨r1 ++ r2 ++ r3, hr, ((p1.keep hbl (Nat.le_refl _)).append (p2.keep hbl (Nat.le_refl _))).append (p3.keep hbl (Nat.le_refl _))⟩, hbl⟩

theorem row_set {size : Nat} {w : World} {sv : Value} {n : Nat} {cs : List Value} (h : IsRow size w sv n cs) {g : Nat} {i : Nat} (v : Value) (hn : sv.ownBlock ≠ some g) : IsRow size (w.setCell ⟨g, i, none⟩ v) sv n cs := by
  refine ⟨h.1, ?_⟩
  rcases h.2 with h2 | ⟨h0, b, off, cap, rfl, hlt, hc, hm, hcell⟩
  · exact .inl h2
  · refine .inr ⟨h0, b, off, cap, rfl, ?_, hc, hm, fun j u hj => ?_⟩
    · exact Nat.lt_of_lt_of_le hlt ((Below.refl 0 w).setCell (p := ⟨g, i, none⟩) (Nat.zero_le _) v).size
    · rw [World.cell?_setCell_other]
      · exact hcell j u hj
      · intro e
        simp only [Addr.mk.injEq] at e
        exact hn (by simp [Value.ownBlock, e.1])

theorem strs_set {w : World} {sv : Value} {L : List ByteArray} (h : IsStrs w sv L) {g : Nat} {t : TypeId} (hb : w.heap[g]? = some (.cells #[.slice none 0 0] t)) (v : Value) : IsStrs (w.setCell ⟨g, 0, none⟩ v) sv L := by
  rcases Nat.eq_zero_or_pos L.length with h0 | h0
  · refine ⟨h.1, ?_⟩
    rcases h.2 with h2 | ⟨h1, _⟩
    · exact .inl h2
    · omega
  · obtain ⟨b, off, cap, rfl, _, _, _, hc⟩ := h.at h0
    refine row_set h v fun e => ?_
    obtain rfl : b = g := by simpa [Value.ownBlock] using e
    obtain ⟨x, hx⟩ : ∃ x, L[0]? = some x := ⟨_, List.getElem?_eq_getElem h0⟩
    have := hc 0 x hx
    simp only [World.cell?, hb, Nat.add_zero] at this
    cases off with
    | zero => simp at this
    | succ k => simp at this

theorem Pgs.set {w : World} {g : Nat} {t : TypeId} (hb : w.heap[g]? = some (.cells #[.slice none 0 0] t)) (v : Value) : ∀ {rs : List (Value × Value)} {T : List Pg}, Pgs w rs T → Pgs (w.setCell ⟨g, 0, none⟩ v) rs T
  | [], [], _ => trivial
  | _ :: _, _ :: _, h => ⟨strs_set h.1 hb v, strs_set h.2.1 hb v, Pgs.set hb v h.2.2⟩

theorem pages_set {w : World} {sv : Value} {T : List Pg} (h : IsPages w sv T) {g : Nat} {t : TypeId} (hb : w.heap[g]? = some (.cells #[.slice none 0 0] t)) (v : Value) : IsPages (w.setCell ⟨g, 0, none⟩ v) sv T := by
  obtain ⟨rows, h1, h2⟩ := h
  refine ⟨rows, ?_, Pgs.set hb v h2⟩
  rcases Nat.eq_zero_or_pos T.length with h0 | h0
  · refine ⟨h1.1, ?_⟩
    rcases h1.2 with h3 | ⟨h3, _⟩
    · exact .inl h3
    · omega
  · have h1' := h1
    rcases h1.2 with ⟨h3, _⟩ | ⟨_, b, off, cap, rfl, _, _, _, hc⟩
    · omega
    · refine row_set h1' v fun e => ?_
      obtain rfl : b = g := by simpa [Value.ownBlock] using e
      have hl := h1'.1
      obtain ⟨x, hx⟩ : ∃ x, (pcells rows)[1]? = some x := ⟨_, List.getElem?_eq_getElem (by omega)⟩
      have := hc 1 x hx
      simp only [World.cell?, hb] at this
      simp at this

set_option maxHeartbeats 2000000 in
/-- tree.replaced: other pages where some were. -/
theorem replaced_any (A M B P : List Pg) (tv pv : Value) (t : Nat) (w : World) (ht : IsTree w tv (A ++ (M ++ B))) (hp : IsPages w pv P) (hM : 0 < M.length) (htm : t = A.length + M.length) (hs : (A.length + P.length + B.length) * 48 ≤ 140737488355328) :
    Calls Tryz.prog 42 #[tv, .int .i64 A.length, .int .i64 t, pv] w fun e w' => ∃ tv', e = .returned tv' ∧ IsTree w' tv' (A ++ P ++ B) ∧ Below w.heap.size w w' := by
  obtain ⟨sv, rfl, hT⟩ := ht
  have hlen : (A ++ (M ++ B)).length = A.length + M.length + B.length := by simp; omega
  obtain ⟨b, off, cap, rfl, hb, hcap, hcm, hHP⟩ := hT.at (by omega)
  have e1 := pages_head hT rfl (by omega)
  have hT2 := hT
  rw [← List.append_assoc] at hT2
  have e3 : ∃ s3, s3 = (if cap = t then (⟨b, off, none⟩ : Addr) else ⟨b, off + t * 2, none⟩) ∧ IsPages w (.slice (some s3) ((A ++ (M ++ B)).length - t) (cap - t)) B := by
    refine ⟨_, rfl, ?_⟩
    rcases Nat.eq_zero_or_pos B.length with h0 | h0
    · have hl : (A ++ (M ++ B)).length - t = 0 := by omega
      rw [hl]
      obtain rfl := List.eq_nil_of_length_eq_zero h0
      exact ⟨[], IsRow.none, trivial⟩
    · rw [if_neg (by omega)]
      have := pages_rest hT2 (by simp <;> omega) h0
      rw [List.length_append, ← htm] at this
      have hl : (A ++ (M ++ B)).length - t = B.length := by omega
      rw [hl]
      exact this
  obtain ⟨s3, hs3, e3⟩ := e3
  have cc := fun W g (hW : Below w.heap.size w W) hb => concat3 A P B _ pv _ g 3 W hb (e1.below hW) (hp.below hW) (e3.below hW) hs
  have ht1 : t ≤ (A ++ (M ++ B)).length := by omega
  have ha1 : A.length ≤ (A ++ (M ++ B)).length := by omega
  obtain ⟨po, pc, rfl⟩ : ∃ po pc, pv = .slice po P.length pc := by obtain ⟨rows, h1, _⟩ := hp; exact h1.shape
  clear hT hT2 e1 e3 hp hHP hlen hs htm
  generalize hres : A ++ P ++ B = R at *
  generalize A.length = a at *
  generalize (A ++ (M ++ B)).length = n at *
  generalize P.length = pl at *
  clear hM
  unfold maxLen at hcm
  have i1 : (0 : Int) ≤ (a : Int) := by omega
  have i2 : (a : Int) ≤ (cap : Int) := by omega
  have i3 : (0 : Int) ≤ (t : Int) := by omega
  have i4 : (t : Int) ≤ (n : Int) := by omega
  have i5 : (n : Int) ≤ (cap : Int) := by omega
  have i6 : (a : Int) ≤ (n : Int) := by omega
  generalize hW0 : (w.alloc (.cells #[.slice (some ⟨b, off, none⟩) n cap] 52)).alloc (.cells #[.slice none 0 0] 52) = W0
  have hB0 : Below w.heap.size w W0 := by rw [← hW0]; exact ((Below.refl _ w).alloc (Nat.le_refl _) _).alloc (by simp) _
  have hs0 : W0.heap.size = w.heap.size + 1 + 1 := by rw [← hW0]; simp
  have c0 : W0.cell? ⟨w.heap.size, 0, none⟩ = some (.slice (some ⟨b, off, none⟩) n cap) := by rw [← hW0]; exact cell_of_block (block_alloc_of (block_alloc_at w _) _) rfl
  have r0 : W0.heap[w.heap.size + 1]? = some (.cells #[.slice none 0 0] 52) := by
    rw [← hW0]; have := block_alloc_at (w.alloc (.cells #[.slice (some ⟨b, off, none⟩) n cap] 52)) (.cells #[.slice none 0 0] 52)
    rwa [World.size_alloc] at this
  have q0 : W0.cell? ⟨w.heap.size + 1, 0, none⟩ = some (.slice none 0 0) := cell_of_block r0 rfl
  have f0 : W0.frozen? ⟨w.heap.size + 1, 0, none⟩ = false := by simp [World.frozen?, r0]
  have hne1 : ∀ i j, (⟨w.heap.size + 1, i, none⟩ : Addr) ≠ ⟨w.heap.size, j, none⟩ := fun i j h => by simp at h
  have hA : w.heap.size < W0.heap.size := by omega
  have hA' : w.heap.size + 1 < W0.heap.size := by omega
  by_cases hct : cap = t
  · rw [if_pos hct] at hs3
    subst hs3
    subst hct
    obtain rfl : n = cap := by omega
    simp only [Nat.sub_self] at cc
    have hBz : Below w.heap.size w (W0.alloc (.cells #[.slice (some ⟨b, off, none⟩) a n, .slice po pl pc, .slice (some ⟨b, off, none⟩) 0 0] 50)).drew := (hB0.alloc hB0.size _).drew
    have cw := cc (W0.alloc (.cells #[.slice (some ⟨b, off, none⟩) a n, .slice po pl pc, .slice (some ⟨b, off, none⟩) 0 0] 50)).drew (w.heap.size + 1 + 1) hBz (by rw [← hs0]; exact block_alloc_at W0 _)
    have hA2 : w.heap.size < (W0.alloc (.cells #[.slice (some ⟨b, off, none⟩) a n, .slice po pl pc, .slice (some ⟨b, off, none⟩) 0 0] 50)).drew.heap.size := by
      show _ < (W0.alloc _).heap.size
      simp; omega
    have hA2' : w.heap.size + 1 < (W0.alloc (.cells #[.slice (some ⟨b, off, none⟩) a n, .slice po pl pc, .slice (some ⟨b, off, none⟩) 0 0] 50)).drew.heap.size := by
      show _ < (W0.alloc _).heap.size
      simp; omega
    have s01 : (W0.alloc (.cells #[.slice (some ⟨b, off, none⟩) a n, .slice po pl pc, .slice (some ⟨b, off, none⟩) 0 0] 50)).drew.cell? ⟨w.heap.size, 0, none⟩ = some (.slice (some ⟨b, off, none⟩) n n) := (World.cell?_alloc_past _ _ _ hA).trans c0
    have q01 : (W0.alloc (.cells #[.slice (some ⟨b, off, none⟩) a n, .slice po pl pc, .slice (some ⟨b, off, none⟩) 0 0] 50)).drew.cell? ⟨w.heap.size + 1, 0, none⟩ = some (.slice none 0 0) := (World.cell?_alloc_past _ _ _ hA').trans q0
    have f01 : (W0.alloc (.cells #[.slice (some ⟨b, off, none⟩) a n, .slice po pl pc, .slice (some ⟨b, off, none⟩) 0 0] 50)).drew.frozen? ⟨w.heap.size + 1, 0, none⟩ = false := ((Below.refl W0.heap.size W0).alloc (Nat.le_refl _) _).frozen (p := ⟨w.heap.size + 1, 0, none⟩) hA' |>.trans f0
    have r01 := ((Below.refl W0.heap.size W0).alloc (Nat.le_refl _) (.cells #[.slice (some ⟨b, off, none⟩) a n, .slice po pl pc, .slice (some ⟨b, off, none⟩) 0 0] 50)).block _ hA' |>.trans r0
    clear cc
    go_enter Tryz.func42, Tryz.ntmps42
    go_wp2
    clear hW0 r0
    go_region_held3 (fun w' => w'.cell? ⟨w.heap.size, 0, none⟩ = some (.slice (some ⟨b, off, none⟩) n n))
      (first | exact (World.cell?_setCell_other _ _ _ _ (hne1 _ _)).trans s02 | exact s02 | exact s01 | exact c0)
      (first
        | (go_at_call 68; refine cw.mono ?_; rintro e w1 ⟨ao, c, rfl, ho, hb1⟩; obtain ⟨hcc, hff⟩ := bcell hb1; have s02 := (hcc _ _ hA2).trans s01; have q02 := (hcc _ _ hA2').trans q01; have f02 := (hff _ _ hA2').trans f01; have r02 := (hb1.block _ hA2').trans r01))
    go_wp2
    refine bodyPost_ret (v := .agg #[.slice ao R.length c]) (by simp [results, Tryz.results42, go_sem, *]) rfl ?_
    have hz : Below w.heap.size w w1 := hBz.trans (hb1.mono hBz.size)
    refine ⟨_, rfl, ⟨_, rfl, ?_⟩, hz.setCell (by simp) _⟩
    exact pages_set ho r02 _
  · rw [if_neg hct] at hs3
    subst hs3
    have hBz : Below w.heap.size w (W0.alloc (.cells #[.slice (some ⟨b, off, none⟩) a cap, .slice po pl pc, .slice (some ⟨b, off + t * 2, none⟩) (n - t) (cap - t)] 50)).drew := (hB0.alloc hB0.size _).drew
    have cw := cc (W0.alloc (.cells #[.slice (some ⟨b, off, none⟩) a cap, .slice po pl pc, .slice (some ⟨b, off + t * 2, none⟩) (n - t) (cap - t)] 50)).drew (w.heap.size + 1 + 1) hBz (by rw [← hs0]; exact block_alloc_at W0 _)
    have hA2 : w.heap.size < (W0.alloc (.cells #[.slice (some ⟨b, off, none⟩) a cap, .slice po pl pc, .slice (some ⟨b, off + t * 2, none⟩) (n - t) (cap - t)] 50)).drew.heap.size := by
      show _ < (W0.alloc _).heap.size
      simp; omega
    have hA2' : w.heap.size + 1 < (W0.alloc (.cells #[.slice (some ⟨b, off, none⟩) a cap, .slice po pl pc, .slice (some ⟨b, off + t * 2, none⟩) (n - t) (cap - t)] 50)).drew.heap.size := by
      show _ < (W0.alloc _).heap.size
      simp; omega
    have s01 : (W0.alloc (.cells #[.slice (some ⟨b, off, none⟩) a cap, .slice po pl pc, .slice (some ⟨b, off + t * 2, none⟩) (n - t) (cap - t)] 50)).drew.cell? ⟨w.heap.size, 0, none⟩ = some (.slice (some ⟨b, off, none⟩) n cap) := (World.cell?_alloc_past _ _ _ hA).trans c0
    have q01 : (W0.alloc (.cells #[.slice (some ⟨b, off, none⟩) a cap, .slice po pl pc, .slice (some ⟨b, off + t * 2, none⟩) (n - t) (cap - t)] 50)).drew.cell? ⟨w.heap.size + 1, 0, none⟩ = some (.slice none 0 0) := (World.cell?_alloc_past _ _ _ hA').trans q0
    have f01 : (W0.alloc (.cells #[.slice (some ⟨b, off, none⟩) a cap, .slice po pl pc, .slice (some ⟨b, off + t * 2, none⟩) (n - t) (cap - t)] 50)).drew.frozen? ⟨w.heap.size + 1, 0, none⟩ = false := ((Below.refl W0.heap.size W0).alloc (Nat.le_refl _) _).frozen (p := ⟨w.heap.size + 1, 0, none⟩) hA' |>.trans f0
    have r01 := ((Below.refl W0.heap.size W0).alloc (Nat.le_refl _) (.cells #[.slice (some ⟨b, off, none⟩) a cap, .slice po pl pc, .slice (some ⟨b, off + t * 2, none⟩) (n - t) (cap - t)] 50)).block _ hA' |>.trans r0
    clear cc
    go_enter Tryz.func42, Tryz.ntmps42
    go_wp2
    clear hW0 r0
    go_region_held3 (fun w' => w'.cell? ⟨w.heap.size, 0, none⟩ = some (.slice (some ⟨b, off, none⟩) n cap))
      (first | exact (World.cell?_setCell_other _ _ _ _ (hne1 _ _)).trans s02 | exact s02 | exact s01 | exact c0)
      (first
        | (go_at_call 68; refine cw.mono ?_; rintro e w1 ⟨ao, c, rfl, ho, hb1⟩; obtain ⟨hcc, hff⟩ := bcell hb1; have s02 := (hcc _ _ hA2).trans s01; have q02 := (hcc _ _ hA2').trans q01; have f02 := (hff _ _ hA2').trans f01; have r02 := (hb1.block _ hA2').trans r01))
    go_wp2
    refine bodyPost_ret (v := .agg #[.slice ao R.length c]) (by simp [results, Tryz.results42, go_sem, *]) rfl ?_
    have hz : Below w.heap.size w w1 := hBz.trans (hb1.mono hBz.size)
    refine ⟨_, rfl, ⟨_, rfl, ?_⟩, hz.setCell (by simp) _⟩
    exact pages_set ho r02 _

end Go.Proofs.YtkncamggdfmlnaaGreatDoor

