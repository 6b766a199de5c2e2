/-
  Contract of tree.Put: of every tree.
-/
import Derived.Test.YtfcdkpkmkepcaaaTPutEnd
namespace Go.Proofs.Ytfcdkpkmkepcaaa
open Go.RowKit

set_option maxHeartbeats 2000000 in
theorem put_not (T : List Pg) (tv : Value) (k v : ByteArray) (w : World) (h : IsTree w tv T) (hg : ¬ GoodT T) :
    Calls Try.prog 26 #[tv, .string k, .string v] w fun e w' => ∃ tv', e = .returned tv' ∧ IsTree w' tv' T ∧ Below w.heap.size w w' := by
  have gc := fun W (hW : Below w.heap.size w W) => good_no T tv W (h.below hW) hg
  obtain ⟨sv, rfl, hs⟩ := h
  obtain ⟨so, scap, rfl⟩ := hs.shape
  have HS := hid hs
  clear hs hg
  generalize T.length = n at *
  generalize hW0 : (w.alloc (.cells #[.slice so n scap] 39)).alloc (.cells #[.slice none 0 0] 39) = W0
  have hB0 : Below w.heap.size w W0 := by rw [← hW0]; exact ((Below.refl _ w).alloc (Nat.le_refl _) _).alloc (by simp) _
  have hs0 : W0.heap.size = w.heap.size + 1 + 1 := by rw [← hW0]; simp
  have b0 : W0.heap[w.heap.size]? = some (.cells #[.slice so n scap] 39) := by rw [← hW0]; exact block_alloc_of (block_alloc_at w _) _
  have r0 : W0.heap[w.heap.size + 1]? = some (.cells #[.slice none 0 0] 39) := by
    rw [← hW0]; have := block_alloc_at (w.alloc (.cells #[.slice so n scap] 39)) (.cells #[.slice none 0 0] 39)
    rwa [World.size_alloc] at this
  have cb0 := cell_of_block b0 (j := 0) rfl
  have hA : w.heap.size < W0.heap.size := by omega
  have hA' : w.heap.size + 1 < W0.heap.size := by omega
  have g0 := gc _ hB0
  go_enter Try.func26, Try.ntmps26
  go_wp2_with (go_at_call 28; go_must (go_fit g0; rintro e w1 ⟨rfl, hb1⟩; have cb1 : w1.cell? ⟨w.heap.size, 0, none⟩ = some (.slice so n scap) := cell_of_block ((hb1.block _ hA).trans b0) rfl; have r1 := (hb1.block _ hA').trans r0; have q1 : w1.cell? ⟨w.heap.size + 1, 0, none⟩ = some (.slice none 0 0) := cell_of_block r1 rfl; have f1 : w1.frozen? ⟨w.heap.size + 1, 0, none⟩ = false := (by simp [World.frozen?, r1])))
  refine bodyPost_ret (v := .agg #[.slice so n scap]) (by simp [results, Try.results26, go_sem, *]) rfl ?_
  have hz : Below w.heap.size w w1 := hB0.trans (hb1.mono hB0.size)
  exact ⟨_, rfl, ⟨_, rfl, pages_set (HS.out.below hz) r1 _⟩, hz.setCell (by simp) _⟩

set_option maxHeartbeats 2000000 in
theorem put_empty (tv : Value) (k v : ByteArray) (w : World) (h : IsTree w tv []) :
    Calls Try.prog 26 #[tv, .string k, .string v] w fun e w' => ∃ tv', e = .returned tv' ∧ IsTree w' tv' [⟨[k], [v]⟩] ∧ Below w.heap.size w w' := by
  have gc := fun W (hW : Below w.heap.size w W) => good_yes [] tv W (h.below hW) ⟨by simp, by simp [keysT, Rise]⟩
  obtain ⟨sv, rfl, hs⟩ := h
  obtain ⟨so, scap, rfl⟩ := hs.shape
  change ∀ W, Below w.heap.size w W → Calls Try.prog 28 #[.agg #[.slice so 0 scap]] W _ at gc
  clear hs
  generalize hW0 : (w.alloc (.cells #[.slice so 0 scap] 39)).alloc (.cells #[.slice none 0 0] 39) = W0
  have hB0 : Below w.heap.size w W0 := by rw [← hW0]; exact ((Below.refl _ w).alloc (Nat.le_refl _) _).alloc (by simp) _
  have hs0 : W0.heap.size = w.heap.size + 1 + 1 := by rw [← hW0]; simp
  have b0 : W0.heap[w.heap.size]? = some (.cells #[.slice so 0 scap] 39) := by rw [← hW0]; exact block_alloc_of (block_alloc_at w _) _
  have r0 : W0.heap[w.heap.size + 1]? = some (.cells #[.slice none 0 0] 39) := by
    rw [← hW0]; have := block_alloc_at (w.alloc (.cells #[.slice so 0 scap] 39)) (.cells #[.slice none 0 0] 39)
    rwa [World.size_alloc] at this
  have cb0 := cell_of_block b0 (j := 0) rfl
  have hA : w.heap.size < W0.heap.size := by omega
  have hA' : w.heap.size + 1 < W0.heap.size := by omega
  have g0 := gc _ hB0
  go_enter Try.func26, Try.ntmps26
  go_wp2_with (go_at_call 28; go_must (go_fit g0; rintro e w1 ⟨rfl, hb1⟩; have cb1 : w1.cell? ⟨w.heap.size, 0, none⟩ = some (.slice so 0 scap) := cell_of_block ((hb1.block _ hA).trans b0) rfl; have r1 := (hb1.block _ hA').trans r0; have q1 : w1.cell? ⟨w.heap.size + 1, 0, none⟩ = some (.slice none 0 0) := cell_of_block r1 rfl; have f1 : w1.frozen? ⟨w.heap.size + 1, 0, none⟩ = false := (by simp [World.frozen?, r1]); have hl1 := lt_of_block r1; obtain ⟨W2, hW2⟩ : ∃ W2, ((w1.alloc (.cells #[.string k] 9)).alloc (.cells #[.string v] 9)).alloc (.cells #[.slice (some ⟨w1.heap.size, 0, none⟩) 1 1, .slice (some ⟨w1.heap.size + 1, 0, none⟩) 1 1] 69) = W2 := ⟨_, rfl⟩; have hz2 : Below w1.heap.size w1 W2 := (by rw [← hW2]; exact (((Below.refl _ w1).alloc (Nat.le_refl _) _).alloc (by simp) _).alloc (by simp; omega) _); have r2 := (hz2.block _ hl1).trans r1; have q2 : W2.cell? ⟨w.heap.size + 1, 0, none⟩ = some (.slice none 0 0) := cell_of_block r2 rfl; have f2 : W2.frozen? ⟨w.heap.size + 1, 0, none⟩ = false := (by simp [World.frozen?, r2])))
  have hz : Below w.heap.size w w1 := hB0.trans (hb1.mono hB0.size)
  have hzz : Below w.heap.size w W2 := hz.trans (hz2.mono hz.size)
  have e1 : W2.heap[w1.heap.size]? = some (.cells #[.string k] 9) := by rw [← hW2]; exact block_alloc_of (block_alloc_of (block_alloc_at w1 _) _) _
  have e2 : W2.heap[w1.heap.size + 1]? = some (.cells #[.string v] 9) := by
    rw [← hW2]; refine block_alloc_of ?_ _
    have := block_alloc_at (w1.alloc (.cells #[.string k] 9)) (.cells #[.string v] 9)
    rwa [World.size_alloc] at this
  have e3 : W2.heap[w1.heap.size + 1 + 1]? = some (.cells #[.slice (some ⟨w1.heap.size, 0, none⟩) 1 1, .slice (some ⟨w1.heap.size + 1, 0, none⟩) 1 1] 69) := by
    rw [← hW2]
    have := block_alloc_at ((w1.alloc (.cells #[.string k] 9)).alloc (.cells #[.string v] 9)) (.cells #[.slice (some ⟨w1.heap.size, 0, none⟩) 1 1, .slice (some ⟨w1.heap.size + 1, 0, none⟩) 1 1] 69)
    rwa [World.size_alloc, World.size_alloc] at this
  have one : ∀ {g : Nat} {x : ByteArray}, W2.heap[g]? = some (.cells #[.string x] 9) → IsStrs W2 (.slice (some ⟨g, 0, none⟩) 1 1) [x] := fun {g x} hb =>
    ⟨by simp, .inr ⟨by simp, g, 0, 1, rfl, lt_of_block hb, by simp, by decide, fun j u hj => by rw [Nat.zero_add]; exact cell_of_block hb (by simpa using hj)⟩⟩
  refine bodyPost_ret (v := .agg #[.slice (some ⟨w1.heap.size + 1 + 1, 0, none⟩) 1 1]) (by simp [results, Try.results26, go_sem, *]) rfl ?_
  exact ⟨_, rfl, ⟨_, rfl, pages_set (pages_one (p := ⟨[k], [v]⟩) e3 (one e1) (one e2) (by decide) (by decide)) r2 _⟩, hzz.setCell (by simp) _⟩

theorem halfs_flat (p : Pg) (hl : p.V.length = p.K.length) : flat (halfs p) = p.K.zip p.V := by
  unfold halfs
  split
  · simp [flat]
  · rw [flat_cons, flat_cons, flat_nil, List.append_nil]
    simp only
    rw [← List.zip_append (by simp; omega), List.take_append_drop, List.take_append_drop]

theorem halfs_ok (p : Pg) (h1 : 1 ≤ p.K.length) (h5 : p.K.length ≤ 5) (hl : p.V.length = p.K.length) : ∀ q ∈ halfs p, q.ok := by
  unfold halfs
  intro q hq
  split at hq
  · rename_i h4
    obtain rfl : q = p := by simpa using hq
    exact ⟨h1, h4, hl⟩
  · rename_i h4
    simp only [List.mem_cons, List.not_mem_nil, or_false] at hq
    rcases hq with rfl | rfl
    · refine ⟨?_, ?_, ?_⟩ <;> simp <;> omega
    · refine ⟨?_, ?_, ?_⟩ <;> simp <;> omega

/-- A key that is not there: what stands around it. -/
theorem cut_not {A B : List Pg} {p : Pg} {K1 K2 V1 V2 : List ByteArray} {k : ByteArray} (hg : GoodT (A ++ p :: B)) (hp : p.K = K1 ++ K2) (hv : p.V = V1 ++ V2) (hl : V1.length = K1.length) (hA : ∀ x ∈ keysT A, klt x k = true) (hK : ∀ x ∈ K1, klt x k = true) (hK2 : ∀ x ∈ K2, klt k x = true) (hB : ∀ x ∈ keysT B, klt k x = true) :
    Cut (flat (A ++ p :: B)) k (flat A ++ K1.zip V1) none (K2.zip V2 ++ flat B) := by
  have hAo : ∀ q ∈ A, q.ok := fun q hq => hg.1 q (by simp [hq])
  have hBo : ∀ q ∈ B, q.ok := fun q hq => hg.1 q (by simp [hq])
  refine ⟨?_, ?_, ?_⟩
  · rw [flat_append, flat_cons, hp, hv, List.zip_append hl.symm]
    simp
  · intro x hx
    rcases List.mem_append.1 hx with hx | hx
    · exact hA _ (by rw [← keys_flat hAo]; exact List.mem_map.2 ⟨x, hx, rfl⟩)
    · exact hK _ (List.of_mem_zip hx).1
  · intro x hx
    rcases List.mem_append.1 hx with hx | hx
    · exact hK2 _ (List.of_mem_zip hx).1
    · exact hB _ (by rw [← keys_flat hBo]; exact List.mem_map.2 ⟨x, hx, rfl⟩)

/-- What Put has made is good, and has what it must. -/
theorem put_good {A B M : List Pg} {p : Pg} {k v : ByteArray} {F1 F2 : List (ByteArray × ByteArray)} {o : Option ByteArray} (hg : GoodT (A ++ p :: B)) (c : Cut (flat (A ++ p :: B)) k F1 o F2) (hM : ∀ q ∈ M, q.ok) (hf : flat (A ++ M ++ B) = F1 ++ (k, v) :: F2) : GoodT (A ++ M ++ B) ∧ flat (A ++ M ++ B) = putF (flat (A ++ p :: B)) k v := by
  refine ⟨good_of_flat ?_ (by rw [hf]; exact c.rise_put hg.rise v), by rw [hf, c.put]⟩
  intro q hq
  simp only [List.append_assoc, List.mem_append] at hq
  rcases hq with hq | hq | hq
  · exact hg.1 q (by simp [hq])
  · exact hM q hq
  · exact hg.1 q (by simp [hq])

/-- What is told of Put. -/
def PutSays (w w' : World) (e : Ending) (T : List Pg) (k v : ByteArray) : Prop :=
  ∃ tv' T', e = .returned tv' ∧ IsTree w' tv' T' ∧ Below w.heap.size w w' ∧ GoodT T' ∧ flat T' = putF (flat T) k v ∧ T'.length ≤ T.length + 1

/-- tree.Put of a good tree. -/
theorem put_any (T : List Pg) (tv : Value) (k v : ByteArray) (w : World) (h : IsTree w tv T) (hg : GoodT T) (hn : (T.length + 1) * 48 ≤ 140737488355328) :
    Calls Try.prog 26 #[tv, .string k, .string v] w fun e w' => PutSays w w' e T k v := by
  rcases Nat.eq_zero_or_pos T.length with h0 | h0
  · obtain rfl := List.eq_nil_of_length_eq_zero h0
    refine (put_empty tv k v w h).mono ?_
    rintro e w' ⟨tv', he, ht, hb⟩
    have h1 : ∀ q ∈ ([⟨[k], [v]⟩] : List Pg), q.ok := by
      intro q hq
      obtain rfl : q = _ := List.mem_singleton.1 hq
      exact ⟨by simp, by simp, rfl⟩
    exact ⟨tv', _, he, ht, hb, ⟨h1, by simp [keysT, Rise]⟩, by simp [flat, putF], by simp⟩
  · obtain ⟨pg, pl, th, hF, fi⟩ := find_any T k hg (by omega)
    rcases hF with ⟨rfl, rfl, rfl, hall⟩ | ⟨A, p, B, K1, y, K3, rfl, hp, rfl, rfl, hA, hK, hy, rfl⟩
    · obtain ⟨A, p, rfl⟩ : ∃ A p, T = A ++ [p] := ⟨T.dropLast, T.getLast (by rintro rfl; simp at h0), (List.dropLast_concat_getLast _).symm⟩
      have hok := hg.1 p (by simp)
      have hkk : ∀ x ∈ keysT A, klt x k = true := fun x hx => hall x (by rw [keysT_append]; exact List.mem_append_left _ hx)
      have hkp : ∀ x ∈ p.K, klt x k = true := fun x hx => hall x (by rw [keysT_append]; exact List.mem_append_right _ (by simpa [keysT] using hx))
      have c := cut_not (B := []) (K2 := []) (V2 := []) (V1 := p.V) hg (List.append_nil _).symm (List.append_nil _).symm hok.2.2 hkk hkp (by simp) (by simp [keysT])
      refine (put_end A [] p p.K [] p.V [] k v tv w h hg (List.append_nil _).symm (List.append_nil _).symm hok.2.2 fi rfl rfl hn).mono ?_
      rintro e w' ⟨tv', he, ht, hb⟩
      have hM := halfs_ok ⟨p.K ++ [k], p.V ++ [v]⟩ (by simp) (by simp; exact hok.2.1) (by simp; exact hok.2.2)
      have hq := put_good (M := halfs ⟨p.K ++ [k], p.V ++ [v]⟩) (v := v) hg c hM (by
        rw [flat_append, flat_append, halfs_flat _ (by simp; exact hok.2.2)]
        simp only
        rw [List.zip_append hok.2.2.symm]
        simp [flat])
      refine ⟨tv', _, he, ht, hb, hq.1, hq.2, ?_⟩
      have : (halfs ⟨p.K ++ [k], p.V ++ [v]⟩).length ≤ 2 := by unfold halfs; split <;> simp
      simp only [List.length_append, List.length_cons, List.length_nil]
      omega
    · have hok := hg.1 p (by simp)
      by_cases hyk : y = k
      · subst hyk
        obtain ⟨V1, v0, V3, hV, hl1, hl3, c⟩ := found_there hg hp hA hK
        have fi' : FindIs (A ++ p :: B) y A.length K1.length true := by simpa using fi
        refine (put_there A B p K1 K3 V1 V3 v0 y v tv w h hg (by rw [hp]; simp; omega) hV hl1 fi' hn).mono ?_
        rintro e w' ⟨tv', he, ht, hb⟩
        have hq := put_good (M := [⟨p.K, V1 ++ v :: V3⟩]) (v := v) hg c (by
          intro q hq
          obtain rfl : q = _ := by simpa using hq
          refine ⟨hok.1, hok.2.1, ?_⟩
          have := hok.2.2
          rw [hV] at this
          simpa using this) (by
          rw [flat_append, flat_append, flat_cons, flat_nil, hp]
          simp only
          rw [List.zip_append hl1.symm]
          simp)
        exact ⟨tv', _, he, ht, hb, hq.1, hq.2, by simp⟩
      · have hky : klt k y = true := by
          rcases klt_tri hy with e | e
          · exact absurd e hyk
          · exact e
        have fi' : FindIs (A ++ p :: B) k A.length K1.length false := by simpa [hyk] using fi
        have hr := hg.2
        rw [keysT_append, keysT_cons, hp] at hr
        have hr2 := (rise_append.1 hr).2.1
        rw [List.append_assoc] at hr2
        have hr3 := (rise_append.1 hr2).2.1
        rw [Rise, List.cons_append, List.pairwise_cons] at hr3
        have hk2 : ∀ x ∈ y :: K3, klt k x = true := by
          intro x hx
          rcases List.mem_cons.1 hx with rfl | hx
          · exact hky
          · exact klt_trans hky (hr3.1 x (List.mem_append_left _ hx))
        have hkB : ∀ x ∈ keysT B, klt k x = true := fun x hx => klt_trans hky (hr3.1 x (List.mem_append_right _ hx))
        have hvl := hok.2.2
        have hlv : K1.length ≤ p.V.length := by rw [hvl, hp]; simp
        have hV : p.V = p.V.take K1.length ++ p.V.drop K1.length := (List.take_append_drop _ _).symm
        have hl1 : (p.V.take K1.length).length = K1.length := by simp; omega
        have c := cut_not hg hp hV hl1 hA hK hk2 hkB
        refine (put_insert A B p K1 (y :: K3) (p.V.take K1.length) (p.V.drop K1.length) k v tv w h hg hp hV hl1 fi' hn).mono ?_
        rintro e w' ⟨tv', he, ht, hb⟩
        have hkl : (K1 ++ k :: y :: K3).length = p.K.length + 1 := by rw [hp]; simp; omega
        have hvl2 : (p.V.take K1.length ++ v :: p.V.drop K1.length).length = p.V.length + 1 := by simp; omega
        have hM := halfs_ok ⟨K1 ++ k :: y :: K3, p.V.take K1.length ++ v :: p.V.drop K1.length⟩ (by simp only; omega) (by simp only; have := hok.2.1; omega) (by simp only; omega)
        have hq := put_good (M := halfs ⟨K1 ++ k :: y :: K3, p.V.take K1.length ++ v :: p.V.drop K1.length⟩) (v := v) hg c hM (by
          rw [flat_append, flat_append, halfs_flat _ (by simp only; omega)]
          simp only
          rw [List.zip_append hl1.symm]
          simp)
        refine ⟨tv', _, he, ht, hb, hq.1, hq.2, ?_⟩
        have : (halfs ⟨K1 ++ k :: y :: K3, p.V.take K1.length ++ v :: p.V.drop K1.length⟩).length ≤ 2 := by unfold halfs; split <;> simp
        simp only [List.length_append, List.length_cons]
        omega

end Go.Proofs.Ytfcdkpkmkepcaaa
