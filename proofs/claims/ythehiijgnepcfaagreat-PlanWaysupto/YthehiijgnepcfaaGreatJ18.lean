/-
  4 texts of this proof in one, in build order: QWays, QChoose2, Same, QSame.
-/
import Derived.WalkKit
import Derived.WalkSpells
import Derived.WalkLawsBesides
import Derived.Deep.QuietTactic
import Derived.BigQuiet
import Derived.Laws.StructEq
import Derived.Test.YthehiijgnepcfaaGreatJ01
import Derived.Test.YthehiijgnepcfaaGreatJ02
import Derived.Test.YthehiijgnepcfaaGreatJ07
import Derived.Test.YthehiijgnepcfaaGreatJ08
import Derived.Test.YthehiijgnepcfaaGreatJ11
import Derived.Test.YthehiijgnepcfaaGreatJ15
import Derived.Test.YthehiijgnepcfaaGreatJ17
namespace Go.Proofs.YthehiijgnepcfaaGreat
open Go.RowKit

theorem nodup_filterMap {α β : Type} {g : α → Option β} : ∀ {R : List α}, R.Nodup → (∀ x ∈ R, ∀ y ∈ R, ∀ r, g x = some r → g y = some r → x = y) → (R.filterMap g).Nodup
  | [], _, _ => by simp
  | a :: R, hn, hi => by
    rw [List.nodup_cons] at hn
    have ih := nodup_filterMap hn.2 fun x hx y hy r => hi x (by simp [hx]) y (by simp [hy]) r
    cases ha : g a with
    | none => rw [List.filterMap_cons_none ha]; exact ih
    | some b =>
      rw [List.filterMap_cons_some ha, List.nodup_cons]
      refine ⟨fun hb => ?_, ih⟩
      obtain ⟨x, hx, hgx⟩ := List.mem_filterMap.1 hb
      have := hi a (by simp) x (by simp [hx]) b ha hgx
      exact hn.1 (by rw [this]; exact hx)

theorem getF_of_mem {T : List Pg} (hT : GoodT T) {k y : Wd} (h : (k, y) ∈ flat T) : getF (flat T) k = some y := by
  cases hg : getF (flat T) k with
  | none => exact absurd rfl (getF_none.1 hg _ h)
  | some z =>
    have h2 := getF_mem hg
    have hr : ((flat T).map Prod.fst).Nodup := hT.rise.imp fun h => klt_ne h
    have : ((k, z) : Wd × Wd) = (k, y) := by
      have hinj : ∀ {F : List (Wd × Wd)}, (F.map Prod.fst).Nodup → ∀ a ∈ F, ∀ b ∈ F, a.1 = b.1 → a = b := by
        intro F
        induction F with
        | nil => intro _ a ha; cases ha
        | cons c F ih =>
          intro hn a ha b hb hab
          rw [List.map_cons, List.nodup_cons] at hn
          rcases List.mem_cons.1 ha with rfl | ha'
          · rcases List.mem_cons.1 hb with rfl | hb
            · rfl
            · exact (hn.1 (List.mem_map.2 ⟨b, hb, hab.symm⟩)).elim
          · rcases List.mem_cons.1 hb with rfl | hb'
            · exact (hn.1 (List.mem_map.2 ⟨a, ha', hab⟩)).elim
            · exact ih hn.2 a ha' b hb' hab
      exact hinj hr _ h2 _ h rfl
    exact congrArg (fun p : Wd × Wd => some p.2) this

section
variable {I : List IdxD} {t : TabD} {T : List Pg} {O : List (List V)}

theorem rowOf_noW (n : Nat) : rowOf n noW = none := rfl
/-- What stands behind a key of the tree, if it is a row, is the row of that key. -/
theorem row_at (h : Kept I t (flat T) O) {x : Wd × Wd} (hx : x ∈ flat T) {r : List V} (hr : rowOf t.cols.length x.2 = some r) : r ∈ O ∧ x = (rk t r, str (keyAns r).1) := by
  obtain ⟨q, hq, hg⟩ := (h.mem x).1 hx
  rcases hg with e | ⟨_, e⟩
  · obtain ⟨hl, hgd⟩ := fitsRow_good (h.fit q hq)
    have h0 : 0 < t.cols.length := by
      unfold rowOf at hr
      split at hr
      · split at hr
        · rename_i hc; omega
        · cases hr
      · cases hr
    rw [e] at hr
    rw [rowOf_key h0 hl hgd] at hr
    obtain rfl := Option.some.inj hr
    exact ⟨hq, e⟩
  · rw [e, rowOf_noW] at hr; cases hr
theorem ownRow_at (h : Kept I t (flat T) O) (h0 : 0 < t.cols.length) {r : List V} (hr : r ∈ O) : (rk t r, str (keyAns r).1) ∈ flat T ∧ rowOf t.cols.length (str (keyAns r).1) = some r := by
  obtain ⟨hl, hgd⟩ := fitsRow_good (h.fit r hr)
  exact ⟨(h.mem _).2 ⟨r, hr, .inl rfl⟩, rowOf_key h0 hl hgd⟩

/-- The way by the table's own keys. -/
theorem way_table (hT : GoodT T) (h : Kept I t (flat T) O) (h0 : 0 < t.cols.length) (lo hi : Wd) (P : List V → Prop) (hP : ∀ r ∈ O, P r → rq lo hi (rk t r, str (keyAns r).1) = true) :
    (rowsOf t.cols.length (rng T lo hi)).Nodup ∧ (∀ r ∈ rowsOf t.cols.length (rng T lo hi), r ∈ O) ∧ ∀ r ∈ O, P r → r ∈ rowsOf t.cols.length (rng T lo hi) := by
  have hn : ((rng T lo hi).map Prod.fst).Nodup := (hT.rise.sublist ((List.filter_sublist).map _)).imp fun h => klt_ne h
  have hn2 : (rng T lo hi).Nodup := by
    rw [List.Nodup, List.pairwise_map] at hn
    exact hn.imp fun h e => h (by rw [e])
  have e : rowsOf t.cols.length (rng T lo hi) = (rng T lo hi).filterMap fun x => rowOf t.cols.length x.2 := by
    unfold rowsOf; rw [List.filterMap_map]; rfl
  rw [e]
  refine ⟨nodup_filterMap hn2 fun x hx y hy r h1 h2 => ?_, fun r hr => ?_, fun r hr hp => ?_⟩
  · rw [(row_at h (rng_sub hx) h1).2, (row_at h (rng_sub hy) h2).2]
  · obtain ⟨x, hx, h1⟩ := List.mem_filterMap.1 hr
    exact (row_at h (rng_sub hx) h1).1
  · obtain ⟨h1, h2⟩ := ownRow_at h h0 hr
    exact List.mem_filterMap.2 ⟨_, List.mem_filter.2 ⟨h1, hP r hr hp⟩, h2⟩

/-- The way by keys that an index leads to. -/
theorem way_keys (hT : GoodT T) (h : Kept I t (flat T) O) (h0 : 0 < t.cols.length) (K : List Wd) (hK : K.Nodup) (P : List V → Prop) (hP : ∀ r ∈ O, P r → rk t r ∈ K) :
    (textsR t.cols.length (texB T K)).Nodup ∧ (∀ r ∈ textsR t.cols.length (texB T K), r ∈ O) ∧ ∀ r ∈ O, P r → r ∈ textsR t.cols.length (texB T K) := by
  have e : textsR t.cols.length (texB T K) = K.filterMap fun k => (getF (flat T) k).bind (rowOf t.cols.length) := by
    unfold textsR texB; rw [List.filterMap_filterMap]
  have hat : ∀ {k r}, ((getF (flat T) k).bind (rowOf t.cols.length)) = some r → r ∈ O ∧ k = rk t r := by
    intro k r hk
    obtain ⟨y, hy, hr⟩ := Option.bind_eq_some_iff.1 hk
    have := row_at h (x := (k, y)) (getF_mem hy) hr
    exact ⟨this.1, congrArg Prod.fst this.2⟩
  rw [e]
  refine ⟨nodup_filterMap hK fun x hx y hy r h1 h2 => ?_, fun r hr => ?_, fun r hr hp => ?_⟩
  · rw [(hat h1).2, (hat h2).2]
  · obtain ⟨x, hx, h1⟩ := List.mem_filterMap.1 hr
    exact (hat h1).1
  · obtain ⟨h1, h2⟩ := ownRow_at h h0 hr
    exact List.mem_filterMap.2 ⟨rk t r, hP r hr hp, by rw [getF_of_mem hT h1]; exact h2⟩
end

/-- Keys in a span, behind a beginning. -/
theorem rq_span {b k : Wd} {s : Sp} {l : List UInt8} (hk : k.data.toList = b.data.toList ++ l) (hin : inSp s l) (y : Wd) : rq (b ++ s.lo) (b ++ s.hi) (k, y) = true := by
  unfold rq
  rw [klt_bytes, klt_bytes, hk, app_data, app_data, less_app, less_app, hin.1, hin.2]; rfl
theorem keyTo_ikey (t x : Wd) {v id : V} (hv : good v = true) (hid' : good id = true) : keyTo t x (ikey x v id) = some (rkey t id) := by
  have hpre : (ikey x v id).data.toList = (ibeg x).data.toList ++ keys [v, id] := by
    rw [ikey, app_data, str_data, keyAns_good (by simp [hv, hid'])]
  have hp : Lib.hasPrefix (ikey x v id).data.toList (ibeg x).data.toList = true := by
    rw [hpre, Lib.hasPrefix, List.isPrefixOf_iff_prefix]; exact List.prefix_append _ _
  have hr : (restI x (ikey x v id)).data.toList = keys [v, id] := by
    show ((Lib.trimPrefix _ _).toArray).toList = _
    rw [Lib.trimPrefix, if_pos hp, hpre, List.drop_left]
  unfold keyTo
  rw [if_pos hp, hr, vals_keys [v, id] (by simp [hv, hid'])]
  rfl

/-- What the folding over the indexes comes to. -/
theorem choose_fold (at' : Int) (e : E) (t : TabD) : ∀ (I : List IdxD) (p : Sp × Wy), (I.foldl (chooseStep at' e t) p).2 = p.2 ∨ ∃ x ∈ I, 0 ≤ idxAt t x ∧ (I.foldl (chooseStep at' e t) p).2 = ⟨x.name, ibeg x.name ++ (whereS at' (idxAt t x) 40 e true).lo, ibeg x.name ++ (whereS at' (idxAt t x) 40 e true).hi⟩
  | [], p => .inl rfl
  | x :: I, p => by
    rw [List.foldl_cons]
    rcases choose_fold at' e t I (chooseStep at' e t p x) with h | ⟨y, hy, h1, h2⟩
    · rw [h]
      unfold chooseStep
      split
      · exact .inl rfl
      · split
        · rename_i hx _
          exact .inr ⟨x, by simp, by omega, rfl⟩
        · exact .inl rfl
    · exact .inr ⟨y, by simp [hy], h1, h2⟩

/-- What a way leads to. -/
def wayRows (n : Nat) (T : List Pg) (t : Wd) (W : Wy) : List (List V) := if W.x = noW then rowsOf n (rng T W.lo W.hi) else rowsI n T t W.x W.lo W.hi

theorem ways_math {ct : CatD} {t : TabD} {T : List Pg} {O : List (List V)} (hT : GoodT T) (h : Kept ct.indexes t (flat T) O) (h0 : 0 < t.cols.length) (e : E) (hcat : catB ct = true) (hxn : ∀ x ∈ ct.indexes, x.name ≠ noW) :
    (wayRows t.cols.length T t.name (chooseS ct t 0 e)).Nodup ∧ (∀ r ∈ wayRows t.cols.length T t.name (chooseS ct t 0 e), r ∈ O) ∧ ∀ r ∈ O, (geB 40 e = true → ofV (ev r e) = 1) → r ∈ wayRows t.cols.length T t.name (chooseS ct t 0 e) := by
  have hgood : ∀ r ∈ O, r.length = t.cols.length ∧ ∀ v ∈ r, good v = true := fun r hr => fitsRow_good (h.fit r hr)
  have hhd : ∀ r ∈ O, good (r.headD zero) = true := fun r hr => by
    obtain ⟨hl, hg⟩ := hgood r hr
    cases r with
    | nil => simp at hl; omega
    | cons a r => exact hg a (by simp)
  have hrk : ∀ r ∈ O, (rk t r).data.toList = (rbeg t.name).data.toList ++ keyOf (r.headD zero) := fun r hr => by
    rw [rk, rkey, app_data, str_data, key_one (hhd r hr)]
  have hrowV : ∀ (r : List V) (k : Int), 0 ≤ k → rowV r (0 + k) = r.getD k.toNat zero := fun r k hk => by
    rw [rowV, if_pos (by omega), Int.zero_add, List.getD_eq_getElem?_getD]
  unfold chooseS
  by_cases hge : geB 40 e = true
  · rw [if_pos hge, if_pos hcat]
    rcases choose_fold 0 e t ct.indexes (chooseBeg 0 e t) with hc | ⟨x, hx, hi, hc⟩
    · rw [hc]
      unfold wayRows chooseBeg
      rw [if_pos rfl]
      refine way_table hT h h0 _ _ (fun r => geB 40 e = true → ofV (ev r e) = 1) fun r hr hp => ?_
      have hz : rowV r (0 + 0) = r.headD zero := by
        rw [hrowV r 0 (by omega)]
        cases r <;> rfl
      have hs := where_sound 0 0 r [] rfl (by rw [hz]; exact hhd r hr) 40 e true hge (hp hge)
      rw [hz, List.append_nil] at hs
      exact rq_span (hrk r hr) hs _
    · rw [hc]
      unfold wayRows
      rw [if_neg (hxn x hx)]
      unfold rowsI
      refine way_keys hT h h0 _ (onceS_nodup _) (fun r => geB 40 e = true → ofV (ev r e) = 1) fun r hr hp => ?_
      rw [onceS_mem]
      have hidx : (idxAt t x).toNat < t.cols.length := by
        rcases idxAt_lt t x with hq | ⟨p, hq, hp'⟩
        · omega
        · rw [hq]; simpa using hp'
      obtain ⟨hl, hg⟩ := hgood r hr
      have hv : good (r.getD (idxAt t x).toNat zero) = true := by
        rw [List.getD_eq_getElem?_getD, List.getElem?_eq_getElem (by omega)]
        exact hg _ (List.getElem_mem _)
      have hmem : (ikey x.name (r.getD (idxAt t x).toNat zero) (r.headD zero), noW) ∈ flat T :=
        (h.mem _).2 ⟨r, hr, .inr ⟨List.mem_filterMap.2 ⟨x, hx, by rw [ikOf, if_pos hi]⟩, rfl⟩⟩
      have hok : okT (keyOf (r.headD zero)) := by
        obtain ⟨s, hs⟩ := keyOf_head (hhd r hr)
        unfold okT
        rw [hs]
        refine less_lt ?_ _ _
        rcases good_kind (hhd r hr) with q | q | q <;> rw [q] <;> decide
      have hs := where_sound 0 (idxAt t x) r (keyOf (r.headD zero)) hok (by rw [hrowV r _ hi]; exact hv) 40 e true hge (hp hge)
      rw [hrowV r _ hi] at hs
      have hik : (ikey x.name (r.getD (idxAt t x).toNat zero) (r.headD zero)).data.toList = (ibeg x.name).data.toList ++ (keyOf (r.getD (idxAt t x).toNat zero) ++ keyOf (r.headD zero)) := by
        rw [ikey, app_data, str_data, keyAns_good (by simp only [List.forall_mem_cons]; exact ⟨hv, hhd r hr, fun _ h => absurd h List.not_mem_nil⟩)]
        simp [keys]
      refine List.mem_filterMap.2 ⟨_, List.mem_map.2 ⟨_, List.mem_filter.2 ⟨hmem, rq_span hik hs _⟩, rfl⟩, ?_⟩
      exact keyTo_ikey t.name x.name hv (hhd r hr)
  · rw [if_neg hge]
    unfold wayRows
    rw [if_pos rfl]
    exact way_table hT h h0 _ _ _ fun r hr _ => rq_row (hhd r hr) _

end Go.Proofs.YthehiijgnepcfaaGreat

namespace Go.Proofs.YthehiijgnepcfaaGreat
open Go.RowKit Go.Maps

/-- Spans are short. -/
def Sp.short (s : Sp) : Prop := s.lo.size ≤ 100 ∧ s.hi.size ≤ 100
theorem short_beg {k : Wd} (h : k.size ≤ 50) : (begS k).short := ⟨Nat.le_trans h (by decide), by show (k ++ ffW).size ≤ 100; rw [size_app]; have : ffW.size = 1 := rfl; omega⟩
theorem ext_size (k : Wd) : (k.extract 0 1).size ≤ 1 := by simp [ByteArray.size_extract]; omega
theorem short_sk (v : V) : (skS v).short := short_beg (Nat.le_trans (ext_size _) (by decide))
theorem ffs (v : V) : (kb v ++ ffW).size ≤ 100 := by rw [size_app]; have := kb_le v; have : ffW.size = 1 := rfl; omega
theorem kbs (v : V) : (kb v).size ≤ 100 := Nat.le_trans (kb_le v) (by decide)
theorem short_like (v : V) (yes : Bool) : (likeS v yes).short := by
  cases yes
  · exact short_sk v
  · exact short_beg (Nat.le_trans (kb_le v) (by decide))
theorem short_ahead (v : V) (yes : Bool) : (aheadS v yes).short := by
  cases yes
  · exact ⟨kbs v, (short_sk v).2⟩
  · exact ⟨(short_sk v).1, kbs v⟩
theorem short_behind (v : V) (yes : Bool) : (behindS v yes).short := by
  cases yes
  · exact ⟨(short_sk v).1, ffs v⟩
  · exact ⟨ffs v, (short_sk v).2⟩
theorem short_both {s o : Sp} (h : s.short) (g : o.short) : (s.both o).short := by
  constructor
  · show (maxW s.lo o.lo).size ≤ 100
    unfold maxW; split
    · exact g.1
    · exact h.1
  · show (minW s.hi o.hi).size ≤ 100
    unfold minW; split
    · exact g.2
    · exact h.2
theorem short_either {s o : Sp} (h : s.short) (g : o.short) : (s.either o).short := by
  unfold Sp.either
  split
  · exact g
  · split
    · exact h
    · constructor
      · show (minW s.lo o.lo).size ≤ 100
        unfold minW; split
        · exact g.1
        · exact h.1
      · show (maxW s.hi o.hi).size ≤ 100
        unfold maxW; split
        · exact g.2
        · exact h.2
theorem short_all : (begS noW).short := short_beg (by decide)
theorem short_no : noS.short := ⟨by decide, by decide⟩
theorem short_where (at' col : Int) : ∀ (d : Nat) (e : E) (yes : Bool), (whereS at' col d e yes).short
  | 0, e, yes => by unfold whereS; exact short_all
  | d + 1, .mk op x s name n l, yes => by
    unfold whereS
    split
    · split
      · exact short_where at' col d _ _
      · exact short_all
    split
    · split
      · split
        · exact short_both (short_where at' col d _ _) (short_where at' col d _ _)
        · exact short_either (short_where at' col d _ _) (short_where at' col d _ _)
      · exact short_all
    split
    · split
      · unfold isS
        split
        · split
          · exact short_beg (Nat.le_trans (kb_le zero) (by decide))
          · exact ⟨ffs zero, by decide⟩
        · exact short_all
      · exact short_all
    split
    · split
      · unfold cmpSp
        split
        · exact short_no
        split
        · exact short_like _ _
        split
        · exact short_like _ _
        split
        · exact short_ahead _ _
        split
        · exact short_behind _ _
        · exact short_all
      · exact short_all
    split
    · exact short_no
    · exact short_all

theorem set3_block {w : World} {g : Nat} {p q r a b c : Value} {t : TypeId} (h : w.heap[g]? = some (.cells #[p, q, r] t)) : (((w.setCell ⟨g, 0, none⟩ a).setCell ⟨g, 1, none⟩ b).setCell ⟨g, 2, none⟩ c).heap[g]? = some (.cells #[a, b, c] t) := by
  rw [upd (upd (upd h 0 a) 1 b) 2 c]; rfl
theorem set3_other {w : World} {g b : Nat} {x : Obj} {p q r : Value} (h : w.heap[b]? = some x) (hn : b ≠ g) : (((w.setCell ⟨g, 0, none⟩ p).setCell ⟨g, 1, none⟩ q).setCell ⟨g, 2, none⟩ r).heap[b]? = some x := by
  simp only [World.setCell, Array.getElem?_modify]
  rw [if_neg (fun e => hn e.symm), if_neg (fun e => hn e.symm), if_neg (fun e => hn e.symm)]; exact h
theorem way_new {V w3 : World} {x lo hi : Wd} (hz : Below V.heap.size V w3) : (w3.alloc (.cells #[.string x, .string lo, .string hi] 53)).heap[w3.heap.size]? = some (.cells #[.string x, .string lo, .string hi] 53) ∧ Below V.heap.size V (w3.alloc (.cells #[.string x, .string lo, .string hi] 53)) ∧ V.heap.size ≤ w3.heap.size := ⟨block_alloc_at _ _, hz.alloc hz.size _, hz.size⟩
theorem way_set {V w3 : World} {x lo hi : Wd} {g : Nat} (hz : Below V.heap.size V w3) (p : w3.heap[g]? = some (.cells #[.string noW, .string noW, .string noW] 53)) (hg : V.heap.size ≤ g) :
    (((w3.setCell ⟨g, 0, none⟩ (.string x)).setCell ⟨g, 1, none⟩ (.string lo)).setCell ⟨g, 2, none⟩ (.string hi)).heap[g]? = some (.cells #[.string x, .string lo, .string hi] 53) ∧ Below V.heap.size V (((w3.setCell ⟨g, 0, none⟩ (.string x)).setCell ⟨g, 1, none⟩ (.string lo)).setCell ⟨g, 2, none⟩ (.string hi)) ∧ V.heap.size ≤ g :=
  ⟨by rw [upd (upd (upd p 0 _) 1 _) 2 _]; rfl, ((hz.setCell hg _).setCell hg _).setCell hg _, hg⟩

set_option maxRecDepth 100000 in
set_option maxHeartbeats 8000000 in
theorem choose_yes (ct : CatD) (t : TabD) (at' : Int) (eop ek en : Int) (ex es em : Wd) (ei : Int) (ea : Option Addr) (el ec : Nat) (e0 : E) (to1 : Option Addr) (tl1 tc1 : Nat) (io : Option Addr) (il ic : Nat) (co : Option Addr) (cc : Nat) (C : Nat) (w : World) (he : IsE (fun k => k < C) w e0 (.agg #[.int .i64 eop, .int .i64 ek, .int .i64 en, .string ex, .string es, .string em, .int .i64 ei, .slice ea el ec])) (hC : C ≤ w.heap.size) (hx : fitX e0) (hrf : refN 40 e0) (hg : geB 40 e0 = true) (ht : t.name.size ≤ 100000)
    (hct : IsCat (fun k => k < C) w ct (.agg #[.slice to1 tl1 tc1, .slice io il ic])) (hfc : fitCat ct) (hcols : IsL kCol (fun k => k < C) w (.slice co t.cols.length cc) t.cols) (hin : ∀ x ∈ ct.indexes, x.name.size ≤ 1000) :
    Calls Tryz.prog 9 #[.agg #[.slice to1 tl1 tc1, .slice io il ic], .agg #[.string t.name, .slice co t.cols.length cc], .int .i64 at', .agg #[.int .i64 eop, .int .i64 ek, .int .i64 en, .string ex, .string es, .string em, .int .i64 ei, .slice ea el ec]] w fun e w' => e = .returned (wayV (chooseS ct t at' e0).x (chooseS ct t at' e0).lo (chooseS ct t at' e0).hi) ∧ Below w.heap.size w w' := by
  have B0 : ((((w.alloc (.cells #[.slice to1 tl1 tc1, .slice io il ic] 25)).alloc (.cells #[.string t.name, .slice co t.cols.length cc] 43)).alloc (.cells #[.int .i64 eop, .int .i64 ek, .int .i64 en, .string ex, .string es, .string em, .int .i64 ei, .slice ea el ec] 34)).alloc (.cells #[.string noW, .string noW, .string noW] 53)).heap[w.heap.size]? = some (.cells #[.slice to1 tl1 tc1, .slice io il ic] 25) := block_alloc_of (block_alloc_of (block_alloc_of (block_alloc_at _ _) _) _) _
  have B1 : ((((w.alloc (.cells #[.slice to1 tl1 tc1, .slice io il ic] 25)).alloc (.cells #[.string t.name, .slice co t.cols.length cc] 43)).alloc (.cells #[.int .i64 eop, .int .i64 ek, .int .i64 en, .string ex, .string es, .string em, .int .i64 ei, .slice ea el ec] 34)).alloc (.cells #[.string noW, .string noW, .string noW] 53)).heap[w.heap.size + 1]? = some (.cells #[.string t.name, .slice co t.cols.length cc] 43) := block_alloc_of (block_alloc_of (block2 _ _ _) _) _
  have B2 : ((((w.alloc (.cells #[.slice to1 tl1 tc1, .slice io il ic] 25)).alloc (.cells #[.string t.name, .slice co t.cols.length cc] 43)).alloc (.cells #[.int .i64 eop, .int .i64 ek, .int .i64 en, .string ex, .string es, .string em, .int .i64 ei, .slice ea el ec] 34)).alloc (.cells #[.string noW, .string noW, .string noW] 53)).heap[w.heap.size + 2]? = some (.cells #[.int .i64 eop, .int .i64 ek, .int .i64 en, .string ex, .string es, .string em, .int .i64 ei, .slice ea el ec] 34) := block_alloc_of (block3 _ _ _ _) _
  have B3 : ((((w.alloc (.cells #[.slice to1 tl1 tc1, .slice io il ic] 25)).alloc (.cells #[.string t.name, .slice co t.cols.length cc] 43)).alloc (.cells #[.int .i64 eop, .int .i64 ek, .int .i64 en, .string ex, .string es, .string em, .int .i64 ei, .slice ea el ec] 34)).alloc (.cells #[.string noW, .string noW, .string noW] 53)).heap[w.heap.size + 3]? = some (.cells #[.string noW, .string noW, .string noW] 53) := block4 _ _ _ _ _
  have hbW := bel4 w (.cells #[.slice to1 tl1 tc1, .slice io il ic] 25) (.cells #[.string t.name, .slice co t.cols.length cc] 43) (.cells #[.int .i64 eop, .int .i64 ek, .int .i64 en, .string ex, .string es, .string em, .int .i64 ei, .slice ea el ec] 34) (.cells #[.string noW, .string noW, .string noW] 53)
  generalize hW : (((w.alloc (.cells #[.slice to1 tl1 tc1, .slice io il ic] 25)).alloc (.cells #[.string t.name, .slice co t.cols.length cc] 43)).alloc (.cells #[.int .i64 eop, .int .i64 ek, .int .i64 en, .string ex, .string es, .string em, .int .i64 ei, .slice ea el ec] 34)).alloc (.cells #[.string noW, .string noW, .string noW] 53) = V at B0 B1 B2 B3 hbW
  have HW : Hid _ := hW
  clear hW
  have keepE : ∀ W, Below w.heap.size w W → IsE (fun k => k < C) W e0 (.agg #[.int .i64 eop, .int .i64 ek, .int .i64 en, .string ex, .string es, .string em, .int .i64 ei, .slice ea el ec]) := fun W hW => IsE.keep (keepsC (hW.mono hC)) _ _ he
  have HG1 := goodExpr_any 40 (Nat.le_refl _) e0 (.agg #[.int .i64 eop, .int .i64 ek, .int .i64 en, .string ex, .string es, .string em, .int .i64 ei, .slice ea el ec]) C V (keepE V hbW) (Nat.le_trans hC hbW.size) hx
  rw [hg] at HG1
  have HWh := fun col W (hW : Below w.heap.size w W) => where_any at' col 40 e0 (.agg #[.int .i64 eop, .int .i64 ek, .int .i64 en, .string ex, .string es, .string em, .int .i64 ei, .slice ea el ec]) true C W (keepE W hW) (Nat.le_trans hC hW.size) hg hx hrf
  have HRB := fun W => rowsBegin_any t.name W (by omega)
  have hsh := fun col => short_where at' col 40 e0 true
  have HWy := fun W => way_any (whereS at' 0 40 e0 true).lo (whereS at' 0 40 e0 true).hi noW (rbeg t.name) W (by have := (hsh 0).1; omega) (by have := (hsh 0).2; omega) (by rw [rbeg_size]; omega)
  have HIx := fun W (hW : Below w.heap.size w W) => planIndexes_any ct to1 tl1 tc1 io il ic C W (hct.keep (keepsC (hW.mono hC))) (Nat.le_trans hC hW.size) hfc
  have ES : Hid (chooseS ct t at' e0 = ((if catB ct then ct.indexes else []).foldl (chooseStep at' e0 t) (chooseBeg at' e0 t)).2) := by show _ = _; unfold chooseS; rw [if_pos hg]
  rw [ES.out]
  clear ES
  obtain ⟨tv, iv, hcv, hTl, hIl⟩ := hct
  obtain ⟨rfl, rfl⟩ : tv = .slice to1 tl1 tc1 ∧ iv = .slice io il ic := by simpa using hcv.symm
  obtain ⟨I, iv2, hI1, hI2, hI3⟩ : ∃ (I : List IdxD) (iv2 : Value), (if catB ct then ct.indexes else []) = I ∧ (if catB ct then Value.slice io il ic else .slice none 0 0) = iv2 ∧ (∀ W, Below w.heap.size w W → IsL kIdx (fun k => k < C) W iv2 I) := by
    cases catB ct
    · exact ⟨[], .slice none 0 0, rfl, rfl, fun W _ => IsL.nil _ _ _⟩
    · exact ⟨ct.indexes, _, rfl, rfl, fun W hW => hIl.keep (keepsC (hW.mono hC))⟩
  have hIn : ∀ x ∈ I, x.name.size ≤ 1000 := fun x hx' => by
    rw [← hI1] at hx'
    split at hx'
    · exact hin x hx'
    · cases hx'
  rw [hI2] at HIx
  rw [hI1]
  generalize hFF : I.foldl (chooseStep at' e0 t) (chooseBeg at' e0 t) = FF
  have HFF : Hid _ := hFF
  clear hFF
  obtain ⟨io2, ic2, rfl⟩ := (hI3 w (Below.refl _ _)).shape
  have HI3 : Hid _ := hI3
  have HIN : Hid _ := hIn
  have HSH : Hid _ := hsh
  have HCO : Hid _ := hcols
  clear hI1 hI2 hI3 hin hIn hTl hIl hcv he hsh hcols
  have EB : Hid (chooseBeg at' e0 t = (whereS at' 0 40 e0 true, ⟨noW, rbeg t.name ++ (whereS at' 0 40 e0 true).lo, rbeg t.name ++ (whereS at' 0 40 e0 true).hi⟩)) := rfl
  have HWh0 := HWh 0
  generalize hb0 : whereS at' 0 40 e0 true = b0 at HWh0 HWy EB
  generalize hrb : rbeg t.name = rb at HRB HWy EB
  simp only [Sp.val] at HWh0
  have BX : Hid _ := And.intro B1 (And.intro B2 B3)
  have HB00 : Hid _ := B0
  have a0 := cell_of_block B2 (j := 0) (u := .int .i64 eop) rfl
  have a1 := cell_of_block B2 (j := 1) (u := .int .i64 ek) rfl
  have a2 := cell_of_block B2 (j := 2) (u := .int .i64 en) rfl
  have a3 := cell_of_block B2 (j := 3) (u := .string ex) rfl
  have a4 := cell_of_block B2 (j := 4) (u := .string es) rfl
  have a5 := cell_of_block B2 (j := 5) (u := .string em) rfl
  have a6 := cell_of_block B2 (j := 6) (u := .int .i64 ei) rfl
  have a7 := cell_of_block B2 (j := 7) (u := .slice ea el ec) rfl
  go_enter Tryz.func9, Tryz.ntmps9
  go_upto_region 1 with fail
  rw [HW.out]
  go_upto_region 4 with (first
    | (go_at_call 29; go_must (go_fit HG1; rintro e w1 ⟨rfl, hb1⟩; have D2 := (hb1.block _ (lt_of_block B2)).trans B2; have c0 := cell_of_block D2 (j := 0) (u := .int .i64 eop) rfl; have c1 := cell_of_block D2 (j := 1) (u := .int .i64 ek) rfl; have c2 := cell_of_block D2 (j := 2) (u := .int .i64 en) rfl; have c3 := cell_of_block D2 (j := 3) (u := .string ex) rfl; have c4 := cell_of_block D2 (j := 4) (u := .string es) rfl; have c5 := cell_of_block D2 (j := 5) (u := .string em) rfl; have c6 := cell_of_block D2 (j := 6) (u := .int .i64 ei) rfl; have c7 := cell_of_block D2 (j := 7) (u := .slice ea el ec) rfl; have HWh1 := HWh0 w1 (bthen hbW hb1)))
    | (go_at_call 30; go_must (go_fit HWh1; rintro e w2 ⟨rfl, hb2⟩)))
  obtain ⟨V2, hV2⟩ : ∃ V2, w2.alloc (.cells #[.string b0.lo, .string b0.hi] 81) = V2 := ⟨_, rfl⟩
  rw [hV2]
  have B9 : V2.heap[w2.heap.size]? = some (.cells #[.string b0.lo, .string b0.hi] 81) := by rw [← hV2]; exact block_alloc_at _ _
  have zV2 : Below V.heap.size V V2 := by rw [← hV2]; exact (bthen hb1 hb2).alloc (bthen hb1 hb2).size _
  have lV : w.heap.size + 3 < V.heap.size := lt_of_block B3
  have g9l : V.heap.size ≤ w2.heap.size := (bthen hb1 hb2).size
  have zw2 : Below w.heap.size w V2 := bthen hbW zV2
  clear hV2 HG1 HWh0 HWh1
  generalize hg9 : w2.heap.size = g9 at *
  clear hg9
  have KS : Hid (∀ W, Below V2.heap.size V2 W → (W.cell? ⟨g9, 0, none⟩ = some (.string b0.lo) ∧ W.cell? ⟨g9, 1, none⟩ = some (.string b0.hi) ∧ W.cell? ⟨w.heap.size + 1, 0, none⟩ = some (.string t.name))) := fun W hW => by
    have D9 := (hW.block _ (lt_of_block B9)).trans B9
    have D1 := ((bthen zV2 hW).block _ (lt_of_block B1)).trans B1
    exact ⟨cell_of_block D9 (j := 0) rfl, cell_of_block D9 (j := 1) rfl, cell_of_block D1 (j := 0) rfl⟩
  go_cut [10] from 11 to 63 (fun s10 wx => ∃ g10, s10 = .pointer (some ⟨g10, 0, none⟩) ∧ wx.heap[g10]? = some (.cells #[.string noW, .string (rb ++ b0.lo), .string (rb ++ b0.hi)] 53) ∧ Below V2.heap.size V2 wx ∧ V2.heap.size ≤ g10)
  case first =>
    have z0 : Below V2.heap.size V2 V2.drew := (Below.refl _ _).drew
    have zA : Below V2.heap.size V2 (V2.drew.alloc (.cells #[.string noW, .string noW, .string noW] 53)) := z0.alloc (Nat.le_refl _) _
    have zD : Below V2.heap.size V2 (V2.alloc (.cells #[.string noW, .string noW, .string noW] 53)).drew := ((Below.refl _ _).alloc (Nat.le_refl _) _).drew
    have y0 := KS.out _ z0
    have yA := KS.out _ zA
    have yD := KS.out _ zD
    unfold wayV at HWy
    go_region_held3 (fun W => (W.cell? ⟨g9, 0, none⟩ = some (.string b0.lo) ∧ W.cell? ⟨g9, 1, none⟩ = some (.string b0.hi) ∧ W.cell? ⟨w.heap.size + 1, 0, none⟩ = some (.string t.name)))
      (with_reducible first | exact y0 | exact yA | exact yD | exact y3 | exact KS.out _ (zz3.alloc zz3.size _) | exact KS.out _ (((zz3.setCell (Nat.le_refl _) _).setCell (Nat.le_refl _) _).setCell (Nat.le_refl _) _) | exact KS.out _ ((((zz3.alloc zz3.size _).setCell zz3.size _).setCell zz3.size _).setCell zz3.size _))
      (first
        | (go_at_call 32; refine (HRB _).mono ?_; rintro e w9 ⟨rfl, rfl⟩)
        | (go_at_call 31; refine (HWy _).mono ?_; rintro e w3 ⟨rfl, hb3⟩; have zz3 : Below V2.heap.size V2 w3 := bthen (by with_reducible first | exact z0 | exact zA | exact zD) hb3; have y3 := KS.out _ zz3; (first | (have pA : w3.heap[V2.heap.size]? = some (.cells #[.string noW, .string noW, .string noW] 53) := (by first | exact (hb3.block _ (lt_of_block (w := (V2.alloc (.cells #[.string noW, .string noW, .string noW] 53)).drew) (block_alloc_at V2 _))).trans (block_alloc_at V2 _) | exact (hb3.block _ (lt_of_block (block_alloc_at V2.drew _))).trans (block_alloc_at V2.drew _)); have q0 := cell_of_block pA (j := 0) (u := .string noW) rfl; have q1 := cell_of_block pA (j := 1) (u := .string noW) rfl; have q2 := cell_of_block pA (j := 2) (u := .string noW) rfl; have f0 : w3.frozen? ⟨V2.heap.size, 0, none⟩ = false := (by simp [World.frozen?, pA]); have f1 : w3.frozen? ⟨V2.heap.size, 1, none⟩ = false := (by simp [World.frozen?, pA]); have f2 : w3.frozen? ⟨V2.heap.size, 2, none⟩ = false := (by simp [World.frozen?, pA])) | skip)))
    all_goals go_wp2_with fail
    all_goals go_meet
    all_goals
      refine ⟨_, rfl, ?_⟩
      first | exact way_new zz3 | exact way_set zz3 pA (Nat.le_refl _)
  case rest =>
    obtain ⟨g10, rfl, P10, hbx, hge⟩ := hcut
    have zc : Below w.heap.size w wc := bthen zw2 hbx
    have zVc := bthen zV2 hbx
    have C0 := (zVc.block _ (lt_of_block HB00.out)).trans HB00.out
    have k0 := cell_of_block C0 (j := 0) (u := .slice to1 tl1 tc1) rfl
    have k1 := cell_of_block C0 (j := 1) (u := .slice io il ic) rfl
    have HIx1 := HIx wc zc
    have g9lt := lt_of_block B9
    have hg9V2 := hbx.size
    have g910 : g9 ≠ g10 := by omega
    go_wp2_with (go_at_call 33; go_must (go_fit HIx1; rintro e w5 ⟨rfl, hb5⟩))
    have D9 := (hb5.block _ (Nat.lt_of_lt_of_le g9lt hbx.size)).trans ((hbx.block _ g9lt).trans B9)
    have D10 := (hb5.block _ (lt_of_block P10)).trans P10
    have zV5 := bthen zVc hb5
    have D1 := (zV5.block _ (lt_of_block BX.out.1)).trans BX.out.1
    have D2 := (zV5.block _ (lt_of_block BX.out.2.1)).trans BX.out.2.1
    have D3 := (zV5.block _ (lt_of_block BX.out.2.2)).trans BX.out.2.2
    have hIlm : I.length ≤ 9223372036854775807 := (isL_len (HI3.out w (Below.refl _ _))).2
    clear HIx HIx1 k0 k1 C0 HWy HRB
    go_loopw [33] (fun i wr => ∃ (k : Nat) (best : Sp) (way : Wy), k ≤ I.length ∧ i = .int .i64 k ∧ Hid ((I.take k).foldl (chooseStep at' e0 t) (chooseBeg at' e0 t) = (best, way)) ∧ wr.heap[g9]? = some (.cells #[.string best.lo, .string best.hi] 81) ∧ wr.heap[g10]? = some (.cells #[.string way.x, .string way.lo, .string way.hi] 53) ∧ wr.heap[w.heap.size + 1]? = some (.cells #[.string t.name, .slice co t.cols.length cc] 43) ∧ wr.heap[w.heap.size + 2]? = some (.cells #[.int .i64 eop, .int .i64 ek, .int .i64 en, .string ex, .string es, .string em, .int .i64 ei, .slice ea el ec] 34) ∧ wr.heap[w.heap.size + 3]? = some (.cells #[.string noW, .string noW, .string noW] 53) ∧ Below w.heap.size w wr ∧ best.short) (fun i _ => I.length - (intOf i).toNat)
    case atStart => exact ⟨0, b0, ⟨noW, rb ++ b0.lo, rb ++ b0.hi⟩, Nat.zero_le _, rfl, by show _ = _; rw [List.take_zero, List.foldl_nil]; exact EB.out, D9, D10, D1, D2, D3, bthen zc hb5, by rw [← hb0]; exact HSH.out 0⟩
    case round =>
      obtain ⟨k, best, way, hk, rfl, HF, R9, R10, R1, R2, R3, hbel, hshort⟩ := hrel
      by_cases hlt : k < I.length
      · obtain ⟨x, hxI⟩ : ∃ x, I[k]? = some x := ⟨_, List.getElem?_eq_getElem hlt⟩
        obtain ⟨b, off, cs, rfl, hbC, hbl, hR1, hcell⟩ := isL_get (HI3.out wr hbel) hxI
        obtain rfl := hR1
        have d0 : wr.cell? ⟨b, off + k * 3, none⟩ = some (.string x.name) := by have := hcell 0 _ rfl; simpa [kIdx] using this
        have d1 : wr.cell? ⟨b, off + k * 3 + 1, none⟩ = some (.string x.table) := by have := hcell 1 _ rfl; simpa [kIdx] using this
        have d2 : wr.cell? ⟨b, off + k * 3 + 2, none⟩ = some (.string x.col) := by have := hcell 2 _ rfl; simpa [kIdx] using this
        have j0 : (0 : Int) ≤ (k : Int) := by omega
        have j1 : (k : Int) < (I.length : Int) := by omega
        have hxn := HIN.out x (List.mem_of_getElem? hxI)
        have HST : Hid ((I.take (k + 1)).foldl (chooseStep at' e0 t) (chooseBeg at' e0 t) = chooseStep at' e0 t (best, way) x) := by
          show _ = _
          rw [List.take_add_one, hxI, List.foldl_append, HF.out]; rfl
        have zx : Below w.heap.size w (wr.alloc (.cells #[.string x.name, .string x.table, .string x.col] 89)) := hbel.alloc hbel.size _
        have T1 := block_alloc_of R1 (.cells #[.string x.name, .string x.table, .string x.col] 89)
        have t0 := cell_of_block T1 (j := 0) (u := .string t.name) rfl
        have t1 := cell_of_block T1 (j := 1) (u := .slice co t.cols.length cc) rfl
        have HX := indexedCol_any t x (.slice co t.cols.length cc) C (wr.alloc (.cells #[.string x.name, .string x.table, .string x.col] 89)) (IsL.keep HCO.out (keepsC (zx.mono hC))) (Nat.le_trans hC zx.size)
        clear hcell hxI
        rcases idxAt_lt t x with hq | ⟨p, hq, hp⟩
        · have E2 : Hid (chooseStep at' e0 t (best, way) x = (best, way)) := by show _ = _; unfold chooseStep; rw [if_pos (by rw [hq]; decide)]
          rw [hq] at HX
          go_wp2_with (go_at_call 34; go_must (go_fit HX; rintro e w6 ⟨rfl, hb6⟩))
          have hz6 : Below wr.heap.size wr w6 := bthen (bel1 _ _) hb6
          go_roundw
          case rel => exact ⟨k + 1, best, way, by omega, by go_num, by show _ = _; rw [HST.out, E2.out], (hz6.block _ (lt_of_block R9)).trans R9, (hz6.block _ (lt_of_block R10)).trans R10, (hz6.block _ (lt_of_block R1)).trans R1, (hz6.block _ (lt_of_block R2)).trans R2, (hz6.block _ (lt_of_block R3)).trans R3, hbel.trans (hz6.mono hbel.size), hshort⟩
          case measure => simp [intOf]; omega
        · have HWp := HWh (p : Int)
          have hsp := HSH.out (p : Int)
          have E2 : Hid (chooseStep at' e0 t (best, way) x = if (whereS at' (p : Int) 40 e0 true).rank < best.rank then (whereS at' (p : Int) 40 e0 true, ⟨x.name, ibeg x.name ++ (whereS at' (p : Int) 40 e0 true).lo, ibeg x.name ++ (whereS at' (p : Int) 40 e0 true).hi⟩) else (best, way)) := by
            show _ = _; unfold chooseStep; rw [hq, if_neg (by omega)]
          rw [hq] at HX
          clear hq hp
          generalize whereS at' (p : Int) 40 e0 true = sp at HWp hsp E2
          have HR1 := fun W => rank_any sp W (by have := hsp.1; omega)
          have HR2 := fun W => rank_any best W (by have := hshort.1; omega)
          have HIB := fun W => indexBegin_any x.name W (by omega)
          have HWy2 := fun W => way_any sp.lo sp.hi x.name (ibeg x.name) W (by have := hsp.1; omega) (by have := hsp.2; omega) (by rw [ibeg_size]; omega)
          generalize sp.rank = r1 at HR1 E2
          generalize best.rank = r2 at HR2 E2
          generalize ibeg x.name = ib at HIB HWy2 E2
          simp only [Sp.val] at HWp HR1 HR2
          unfold wayV at HWy2
          have p0 : ¬ (p : Int) < 0 := by omega
          have HHS : Hid _ := hsp
          have HHS2 : Hid _ := hshort
          clear hsp hshort
          go_upto_region 11 with (first
            | (go_at_call 34; go_must (go_fit HX; rintro e w6 ⟨rfl, hb6⟩; have hz6 : Below wr.heap.size wr w6 := bthen (bel1 _ _) hb6; have T2 := (hz6.block _ (lt_of_block R2)).trans R2; have c0 := cell_of_block T2 (j := 0) (u := .int .i64 eop) rfl; have c1 := cell_of_block T2 (j := 1) (u := .int .i64 ek) rfl; have c2 := cell_of_block T2 (j := 2) (u := .int .i64 en) rfl; have c3 := cell_of_block T2 (j := 3) (u := .string ex) rfl; have c4 := cell_of_block T2 (j := 4) (u := .string es) rfl; have c5 := cell_of_block T2 (j := 5) (u := .string em) rfl; have c6 := cell_of_block T2 (j := 6) (u := .int .i64 ei) rfl; have c7 := cell_of_block T2 (j := 7) (u := .slice ea el ec) rfl; have HWp1 := HWp w6 (hbel.trans (hz6.mono hbel.size))))
            | (go_at_call 30; go_must (go_fit HWp1; rintro e w7 ⟨rfl, hb7⟩)))
          have hz7 : Below wr.heap.size wr (w7.alloc (.cells #[.string sp.lo, .string sp.hi] 81)) := (bthen hz6 hb7).alloc (bthen hz6 hb7).size _
          have P14 := block_alloc_at w7 (.cells #[.string sp.lo, .string sp.hi] 81)
          have P12 := ((bthen hb6 hb7).block _ (lt_of_block (block_alloc_at wr (.cells #[.string x.name, .string x.table, .string x.col] 89)))).trans (block_alloc_at wr (.cells #[.string x.name, .string x.table, .string x.col] 89))
          have P12' := block_alloc_of P12 (.cells #[.string sp.lo, .string sp.hi] 81)
          have l7 : wr.heap.size ≤ w7.heap.size := (bthen hz6 hb7).size
          obtain ⟨V7, hV7⟩ : ∃ V7, w7.alloc (.cells #[.string sp.lo, .string sp.hi] 81) = V7 := ⟨_, rfl⟩
          rw [hV7] at hz7 P14 P12' ⊢
          clear hV7 HX HWp HWp1 HWh P12
          have Q9 := (hz7.block _ (lt_of_block R9)).trans R9
          have Q10 := (hz7.block _ (lt_of_block R10)).trans R10
          have l9 := lt_of_block R9
          have l10 := lt_of_block R10
          have KS2 : Hid (∀ W, Below V7.heap.size V7 W → (W.cell? ⟨w7.heap.size, 0, none⟩ = some (.string sp.lo) ∧ W.cell? ⟨w7.heap.size, 1, none⟩ = some (.string sp.hi) ∧ W.cell? ⟨g9, 0, none⟩ = some (.string best.lo) ∧ W.cell? ⟨g9, 1, none⟩ = some (.string best.hi))) := fun W hW => by
            have A := (hW.block _ (lt_of_block P14)).trans P14
            have B := (hW.block _ (lt_of_block Q9)).trans Q9
            exact ⟨cell_of_block A (j := 0) rfl, cell_of_block A (j := 1) rfl, cell_of_block B (j := 0) rfl, cell_of_block B (j := 1) rfl⟩
          have s0 := KS2.out _ (Below.refl _ V7).drew
          go_region_held3 (fun W => (W.cell? ⟨w7.heap.size, 0, none⟩ = some (.string sp.lo) ∧ W.cell? ⟨w7.heap.size, 1, none⟩ = some (.string sp.hi) ∧ W.cell? ⟨g9, 0, none⟩ = some (.string best.lo) ∧ W.cell? ⟨g9, 1, none⟩ = some (.string best.hi)))
            (with_reducible first | exact s0 | exact s8 | exact s9)
            (first
              | (go_at_call_of 35 (Value.agg #[.string sp.lo, .string sp.hi]); refine (HR1 _).mono ?_; rintro e w8 ⟨rfl, hb8⟩; have z8 : Below V7.heap.size V7 w8 := bthen (by with_reducible first | exact (Below.refl _ V7).drew | exact z9) hb8; have s8 := KS2.out _ z8)
              | (go_at_call_of 35 (Value.agg #[.string best.lo, .string best.hi]); refine (HR2 _).mono ?_; rintro e w9 ⟨rfl, hb9⟩; have z9 : Below V7.heap.size V7 w9 := bthen (by with_reducible first | exact z8 | exact (Below.refl _ V7).drew) hb9; have s9 := KS2.out _ z9))
          have hzr : Below wr.heap.size wr w9 := hz7.trans (z9.mono hz7.size)
          have A14 := (z9.block _ (lt_of_block P14)).trans P14
          have A12 := (z9.block _ (lt_of_block P12')).trans P12'
          have A9 := (z9.block _ (lt_of_block Q9)).trans Q9
          have A10 := (z9.block _ (lt_of_block Q10)).trans Q10
          by_cases hlt2 : r1 < r2
          · have HE2 : Hid (chooseStep at' e0 t (best, way) x = (sp, ⟨x.name, ib ++ sp.lo, ib ++ sp.hi⟩)) := by show _ = _; rw [E2.out, if_pos hlt2]
            go_upto_region 12 with fail
            have KS3 : Hid (∀ W : World, W.heap[w7.heap.size]? = some (.cells #[.string sp.lo, .string sp.hi] 81) → W.heap[wr.heap.size]? = some (.cells #[.string x.name, .string x.table, .string x.col] 89) → (W.cell? ⟨w7.heap.size, 0, none⟩ = some (.string sp.lo) ∧ W.cell? ⟨w7.heap.size, 1, none⟩ = some (.string sp.hi) ∧ W.cell? ⟨wr.heap.size, 0, none⟩ = some (.string x.name))) := fun W h1 h2 =>
              ⟨cell_of_block h1 (j := 0) rfl, cell_of_block h1 (j := 1) rfl, cell_of_block h2 (j := 0) rfl⟩
            have s1 := KS3.out w9.drew A14 A12
            have ne1 : w7.heap.size ≠ g9 := by omega
            have ne2 : wr.heap.size ≠ g9 := by omega
            have ne3 : w7.heap.size ≠ g10 := by omega
            have ne4 : wr.heap.size ≠ g10 := by omega
            go_region_held3 (fun W => (W.cell? ⟨w7.heap.size, 0, none⟩ = some (.string sp.lo) ∧ W.cell? ⟨w7.heap.size, 1, none⟩ = some (.string sp.hi) ∧ W.cell? ⟨wr.heap.size, 0, none⟩ = some (.string x.name)))
              (with_reducible first | exact s1 | exact s2 | exact KS3.out _ (set2_other G14 ne1) (set2_other G12 ne2) | exact KS3.out _ (set3_other (set2_other G14 ne1) ne3) (set3_other (set2_other G12 ne2) ne4) | exact KS3.out _ (set3_other G14 ne3) (set3_other G12 ne4) | exact KS3.out _ (set2_other (set3_other G14 ne3) ne1) (set2_other (set3_other G12 ne4) ne2))
              (first
                | (go_at_call 36; refine (HIB _).mono ?_; rintro e w19 ⟨rfl, rfl⟩)
                | (go_at_call 31; refine (HWy2 _).mono ?_; rintro e w10 ⟨rfl, hb10⟩; have z10 : Below w9.heap.size w9 w10 := bthen (Below.refl _ w9).drew hb10; have G14 := (z10.block _ (lt_of_block A14)).trans A14; have G12 := (z10.block _ (lt_of_block A12)).trans A12; have G9 := (z10.block _ (lt_of_block A9)).trans A9; have G10 := (z10.block _ (lt_of_block A10)).trans A10; have s2 := KS3.out w10 G14 G12; have u0 := cell_of_block G9 (j := 0) (u := .string best.lo) rfl; have u1 := cell_of_block G9 (j := 1) (u := .string best.hi) rfl; have v0 := cell_of_block G10 (j := 0) (u := .string way.x) rfl; have v1 := cell_of_block G10 (j := 1) (u := .string way.lo) rfl; have v2 := cell_of_block G10 (j := 2) (u := .string way.hi) rfl; have fu0 : w10.frozen? ⟨g9, 0, none⟩ = false := (by simp [World.frozen?, G9]); have fu1 : w10.frozen? ⟨g9, 1, none⟩ = false := (by simp [World.frozen?, G9]); have fv0 : w10.frozen? ⟨g10, 0, none⟩ = false := (by simp [World.frozen?, G10]); have fv1 : w10.frozen? ⟨g10, 1, none⟩ = false := (by simp [World.frozen?, G10]); have fv2 : w10.frozen? ⟨g10, 2, none⟩ = false := (by simp [World.frozen?, G10])))
            go_wp2
            have hzA : Below wr.heap.size wr w10 := hzr.trans (z10.mono hzr.size)
            have hg10g : w.heap.size ≤ g10 := by omega
            have hg9g : w.heap.size ≤ g9 := by omega
            have m1 : w.heap.size + 1 ≠ g9 := by omega
            have m2 : w.heap.size + 2 ≠ g9 := by omega
            have m3 : w.heap.size + 3 ≠ g9 := by omega
            have m4 : w.heap.size + 1 ≠ g10 := by have := zV2.size; omega
            have m5 : w.heap.size + 2 ≠ g10 := by have := zV2.size; omega
            have m6 : w.heap.size + 3 ≠ g10 := by have := zV2.size; omega
            go_roundw
            case rel =>
              refine ⟨k + 1, sp, ⟨x.name, ib ++ sp.lo, ib ++ sp.hi⟩, by omega, by go_num, by show _ = _; rw [HST.out, HE2.out], ?_, ?_, ?_, ?_, ?_, ?_, HHS.out⟩
              · exact set3_other (set2_block G9) g910
              · exact set3_block (set2_other G10 (Ne.symm g910))
              · exact set3_other (set2_other ((hzA.block _ (lt_of_block R1)).trans R1) m1) m4
              · exact set3_other (set2_other ((hzA.block _ (lt_of_block R2)).trans R2) m2) m5
              · exact set3_other (set2_other ((hzA.block _ (lt_of_block R3)).trans R3) m3) m6
              · exact (((((hbel.trans (hzA.mono hbel.size)).setCell hg9g _).setCell hg9g _).setCell hg10g _).setCell hg10g _).setCell hg10g _
            case measure => simp [intOf]; omega
          · have HE2 : Hid (chooseStep at' e0 t (best, way) x = (best, way)) := by show _ = _; rw [E2.out, if_neg hlt2]
            go_wp2
            go_roundw
            case rel => exact ⟨k + 1, best, way, by omega, by go_num, by show _ = _; rw [HST.out, HE2.out], A9, A10, (hzr.block _ (lt_of_block R1)).trans R1, (hzr.block _ (lt_of_block R2)).trans R2, (hzr.block _ (lt_of_block R3)).trans R3, hbel.trans (hzr.mono hbel.size), HHS2.out⟩
            case measure => simp [intOf]; omega
      · have hkn : k = I.length := by omega
        subst hkn
        rw [List.take_length] at HF
        have eFF := HFF.out
        rw [HF.out] at eFF
        subst eFF
        clear HFF HF
        have v1 : ¬ ((I.length : Int) < (I.length : Int)) := by omega
        have y0 := cell_of_block R10 (j := 0) (u := .string way.x) rfl
        have y1 := cell_of_block R10 (j := 1) (u := .string way.lo) rfl
        have y2 := cell_of_block R10 (j := 2) (u := .string way.hi) rfl
        have r0 := cell_of_block R3 (j := 0) (u := .string noW) rfl
        have r1 := cell_of_block R3 (j := 1) (u := .string noW) rfl
        have r2 := cell_of_block R3 (j := 2) (u := .string noW) rfl
        have f0 : wr.frozen? ⟨w.heap.size + 3, 0, none⟩ = false := by simp [World.frozen?, R3]
        have f1 : wr.frozen? ⟨w.heap.size + 3, 1, none⟩ = false := by simp [World.frozen?, R3]
        have f2 : wr.frozen? ⟨w.heap.size + 3, 2, none⟩ = false := by simp [World.frozen?, R3]
        go_wp2
        exact end_three _ _ _ Tryz.results9 rfl rfl R3 hbel (by omega) Tryz.underlying53 (by kernel_rfl)

end Go.Proofs.YthehiijgnepcfaaGreat

namespace Go.Proofs.YthehiijgnepcfaaGreat
open Go.RowKit

set_option maxHeartbeats 400000 in
theorem same_empty (ao bo : Option Addr) (ca cb : Nat) (w : World) :
    Calls Tryz.prog 10 #[.slice ao 0 ca, .slice bo 0 cb] w fun e w' => e = .returned (.bool true) ∧ Below w.heap.size w w' := by
  go_enter Tryz.func10, Tryz.ntmps10
  go_wp2
  refine wp_loop_rounds 1 ?_
  rw [rounds_succ]
  go_wp2
  go_ret
  exact ⟨rfl, Below.refl _ _⟩

set_option maxHeartbeats 2000000 in
theorem same_some (L : List V) (ba oa ca bb ob cb : Nat) (w : World) (ha : HoldsV w ba oa L) (hb : HoldsV w bb ob L) (hba : ba < w.heap.size) (hbb : bb < w.heap.size) (hl : L.length ≤ maxLen) :
    Calls Tryz.prog 10 #[.slice (some ⟨ba, oa, none⟩) L.length ca, .slice (some ⟨bb, ob, none⟩) L.length cb] w fun e w' => e = .returned (.bool true) ∧ Below w.heap.size w w' := by
  unfold maxLen at hl
  go_enter Tryz.func10, Tryz.ntmps10
  go_wp2
  go_loopw [13] (fun i wr => ∃ k : Nat, k ≤ L.length ∧ i = .int .i64 k ∧ Below w.heap.size w wr) (fun i _ => L.length - (intOf i).toNat)
  case atStart => exact ⟨0, Nat.zero_le _, rfl, Below.refl _ _⟩
  case round =>
    obtain ⟨k, hk, rfl, hbel⟩ := hrel
    by_cases hlt : k < L.length
    · obtain ⟨⟨k1, n1, s1⟩, hv⟩ : ∃ v, L[k]? = some v := ⟨_, List.getElem?_eq_getElem hlt⟩
      obtain ⟨c0, c1, c2⟩ := ha.below hbel hba k _ hv
      obtain ⟨d0, d1, d2⟩ := hb.below hbel hbb k _ hv
      have i0 : (0 : Int) ≤ (k : Int) := by omega
      have i1 : (k : Int) < (L.length : Int) := by omega
      clear hv
      go_wp2
      go_quiet (fail)
      go_wp2
      go_roundw
      case rel => exact ⟨k + 1, by omega, by go_num, below_drewN hbel _⟩
      case measure => simp [intOf]; omega
    · go_wp2
      go_ret
      exact ⟨rfl, hbel⟩

theorem same_any (L : List V) (av bv : Value) (w : World) (ha : IsVals w av L) (hb : IsVals w bv L) (hl : L.length ≤ maxLen) :
    Calls Tryz.prog 10 #[av, bv] w fun e w' => e = .returned (.bool true) ∧ Below w.heap.size w w' := by
  rcases ha with ⟨⟨ao, ca, rfl, _⟩, rfl⟩ | ⟨ba, oa, ca, rfl, hba, ha⟩
  · obtain ⟨bo, cb, rfl⟩ := hb.shape
    exact same_empty ao bo ca cb w
  · rcases hb with ⟨⟨bo, cb, rfl, _⟩, rfl⟩ | ⟨bb, ob, cb, rfl, hbb, hb⟩
    · exact same_empty _ bo ca cb w
    · exact same_some L ba oa ca bb ob cb w ha hb hba hbb hl

end Go.Proofs.YthehiijgnepcfaaGreat

namespace Go.Proofs.YthehiijgnepcfaaGreat
open Go.RowKit

/-- Whether two lists of values are the same. -/
def eqV (a b : V) : Bool := decide (a.k = b.k) && decide (a.n = b.n) && decide (a.s = b.s)
def sameB : List V → List V → Bool
  | [], [] => true
  | a :: A, b :: B => eqV a b && sameB A B
  | _, _ => false
theorem eqV_iff (a b : V) : eqV a b = true ↔ a = b := by
  obtain ⟨k, n, s⟩ := a
  obtain ⟨k', n', s'⟩ := b
  simp [eqV, and_assoc]
theorem sameB_iff : ∀ (A B : List V), sameB A B = true ↔ A = B
  | [], [] => by simp [sameB]
  | [], _ :: _ => by simp [sameB]
  | _ :: _, [] => by simp [sameB]
  | a :: A, b :: B => by simp [sameB, eqV_iff, sameB_iff A B]

theorem first_diff : ∀ {A B : List V}, A.length = B.length → A ≠ B → ∃ m, m < A.length ∧ A.take m = B.take m ∧ A[m]? ≠ B[m]?
  | [], [], _, h => absurd rfl h
  | [], _ :: _, h, _ => by simp at h
  | _ :: _, [], h, _ => by simp at h
  | a :: A, b :: B, hl, hn => by
    by_cases hab : a = b
    · subst hab
      obtain ⟨m, h1, h2, h3⟩ := first_diff (A := A) (B := B) (by simpa using hl) (fun e => hn (by rw [e]))
      exact ⟨m + 1, by simpa using h1, by simpa using h2, by simpa using h3⟩
    · exact ⟨0, by simp, rfl, by simpa using hab⟩

set_option maxHeartbeats 2000000 in
theorem same_short (A B : List V) (av bv : Value) (w : World) (ha : IsVals w av A) (hb : IsVals w bv B) (hl : A.length ≠ B.length) :
    Calls Tryz.prog 10 #[av, bv] w fun e w' => e = .returned (.bool false) ∧ Below w.heap.size w w' := by
  obtain ⟨ao, ca, rfl⟩ := ha.shape
  obtain ⟨bo, cb, rfl⟩ := hb.shape
  have h1 : ((A.length : Int) != (B.length : Int)) = true := by rw [bne_iff_ne]; omega
  have h2 : ¬ ((A.length : Int) = (B.length : Int)) := by omega
  clear ha hb hl
  go_enter Tryz.func10, Tryz.ntmps10
  go_wp2
  go_ret
  exact ⟨rfl, Below.refl _ _⟩

set_option maxHeartbeats 4000000 in
theorem same_diff (A B : List V) (m ba oa ca bb ob cb : Nat) (w : World) (ha : HoldsV w ba oa A) (hb : HoldsV w bb ob B) (hba : ba < w.heap.size) (hbb : bb < w.heap.size) (hl : A.length ≤ maxLen) (he : B.length = A.length) (hm : m < A.length) (ht : A.take m = B.take m) (hd : A[m]? ≠ B[m]?) :
    Calls Tryz.prog 10 #[.slice (some ⟨ba, oa, none⟩) A.length ca, .slice (some ⟨bb, ob, none⟩) A.length cb] w fun e w' => e = .returned (.bool false) ∧ Below w.heap.size w w' := by
  unfold maxLen at hl
  have HE : Hid _ := he
  have HT : Hid _ := ht
  have HD : Hid _ := hd
  clear he ht hd
  go_enter Tryz.func10, Tryz.ntmps10
  go_wp2
  go_loopw [13] (fun i wr => ∃ k : Nat, k ≤ m ∧ i = .int .i64 k ∧ Below w.heap.size w wr) (fun i _ => A.length - (intOf i).toNat)
  case atStart => exact ⟨0, Nat.zero_le _, rfl, Below.refl _ _⟩
  case round =>
    obtain ⟨k, hk, rfl, hbel⟩ := hrel
    have i0 : (0 : Int) ≤ (k : Int) := by omega
    have i1 : (k : Int) < (A.length : Int) := by omega
    by_cases hlt : k < m
    · obtain ⟨⟨k1, n1, s1⟩, hv⟩ : ∃ v, A[k]? = some v := ⟨_, List.getElem?_eq_getElem (by omega)⟩
      have hv2 : B[k]? = some ⟨k1, n1, s1⟩ := by
        rw [← hv, ← List.getElem?_take_of_lt (l := B) hlt, ← HT.out, List.getElem?_take_of_lt hlt]
      obtain ⟨c0, c1, c2⟩ := ha.below hbel hba k _ hv
      obtain ⟨d0, d1, d2⟩ := hb.below hbel hbb k _ hv2
      clear hv hv2
      go_wp2
      go_quiet (fail)
      go_wp2
      go_roundw
      case rel => exact ⟨k + 1, by omega, by go_num, below_drewN hbel _⟩
      case measure => simp [intOf]; omega
    · have hkm : k = m := by omega
      obtain ⟨⟨k1, n1, s1⟩, hv⟩ : ∃ v, A[k]? = some v := ⟨_, List.getElem?_eq_getElem (by omega)⟩
      obtain ⟨⟨k2, n2, s2⟩, hv2⟩ : ∃ v, B[k]? = some v := ⟨_, List.getElem?_eq_getElem (by rw [HE.out]; omega)⟩
      have hne : ¬ (k1 = k2 ∧ n1 = n2 ∧ s1 = s2) := by
        rintro ⟨rfl, rfl, rfl⟩
        refine HD.out ?_
        rw [← hkm, hv, hv2]
      obtain ⟨c0, c1, c2⟩ := ha.below hbel hba k _ hv
      obtain ⟨d0, d1, d2⟩ := hb.below hbel hbb k _ hv2
      clear hv hv2 hkm HD HT HE
      by_cases q1 : k1 = k2
      · subst q1
        by_cases q2 : n1 = n2
        · subst q2
          have q3 : (s1.toList == s2.toList) = false := by
            rw [Lib.toList_data, Lib.toList_data, beq_eq_false_iff_ne]
            intro e
            refine hne ⟨rfl, rfl, ?_⟩
            cases s1; cases s2
            simpa using e
          have q4 : ¬ (s1.toList = s2.toList) := by simpa using q3
          clear hne
          go_wp2
          go_quiet (fail)
          go_wp2
          go_ret
          exact ⟨rfl, below_drewN hbel _⟩
        · have q3 : (n1 == n2) = false := by simpa using q2
          clear hne
          go_wp2
          go_quiet (fail)
          go_wp2
          go_ret
          exact ⟨rfl, below_drewN hbel _⟩
      · have q3 : (k1 == k2) = false := by simpa using q1
        clear hne
        go_wp2
        go_quiet (fail)
        go_wp2
        go_ret
        exact ⟨rfl, below_drewN hbel _⟩

theorem same_dec (A B : List V) (av bv : Value) (w : World) (ha : IsVals w av A) (hb : IsVals w bv B) (hl : A.length ≤ maxLen) :
    Calls Tryz.prog 10 #[av, bv] w fun e w' => e = .returned (.bool (sameB A B)) ∧ Below w.heap.size w w' := by
  by_cases hAB : A = B
  · rw [(sameB_iff A B).2 hAB]
    subst hAB
    exact same_any A av bv w ha hb hl
  · rw [show sameB A B = false from by cases h : sameB A B with | false => rfl | true => exact absurd ((sameB_iff A B).1 h) hAB]
    by_cases hll : A.length = B.length
    · obtain ⟨m, hm, ht, hd⟩ := first_diff hll hAB
      rcases ha with ⟨_, rfl⟩ | ⟨ba, oa, ca, rfl, hba, ha⟩
      · simp at hm
      · rcases hb with ⟨_, rfl⟩ | ⟨bb, ob, cb, rfl, hbb, hb⟩
        · rw [hll] at hm; simp at hm
        · rw [← hll]
          exact same_diff A B m ba oa ca bb ob cb w ha hb hba hbb hl hll.symm hm ht hd
    · exact same_short A B av bv w ha hb hll

end Go.Proofs.YthehiijgnepcfaaGreat

