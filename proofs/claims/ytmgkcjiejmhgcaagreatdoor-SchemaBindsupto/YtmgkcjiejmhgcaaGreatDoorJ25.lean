/-
  1 texts of this proof in one, in build order: YSelect.
-/
import Derived.Test.YtmgkcjiejmhgcaaGreatDoorJ24
set_option linter.unusedSimpArgs false
set_option linter.unusedVariables false
namespace Go.Proofs.YtmgkcjiejmhgcaaGreatDoor
open Go.RowKit Go.Maps
def C7 (ct :CatD) (st :Stm) :Except Int Stm :=
 match Df ct.tables st.frm with
 | .error m=> .error m
 | .ok S=>match Hc S st.out with
  | .error m=> .error m
  | .ok out=>match Ej S st.order with
   | .error m=> .error m
   | .ok order=>match whR S st.wher with
    | .error m=> .error m
    | .ok wh=> .ok {st with out :=out,order :=order,wher :=wh}
theorem Wa {T :List TabD} {s :Wd} {t :TabD} (h :A5 T s=some t) :t∈T :=List.mem_of_find?_eq_some h
theorem Ro {α β :Type} {f :List α→α→Except Int β} {P :β→Prop} (hf : ∀seen a b,f seen a= .ok b→P b) : ∀ {seen l :List α} {rs :List β},Br f seen l= .ok rs→rs.length=l.length∧ ∀b∈rs,P b
 | seen,[],rs,h=>by
  simp only [Br,Except.ok.injEq] at h
  subst h
  exact ⟨rfl,fun b hb=>by cases hb⟩
 | seen,x ::l,rs,h=>by
  simp only [Br] at h
  cases hx :f seen x with
  | error j=>rw [hx] at h;cases h
  | ok r=>
   rw [hx] at h
   simp only at h
   cases hl :Br f (seen++ [x]) l with
   | error j=>rw [hl] at h;cases h
   | ok rs'=>
    rw [hl] at h
    simp only [Except.ok.injEq] at h
    subst h
    obtain ⟨h1,h2⟩ :=Ro hf hl
    exact ⟨by simp [h1],fun b hb=>by
     rcases List.mem_cons.1 hb with rfl | hb
     ·exact hf _ _ _ hx
     ·exact h2 b hb⟩
theorem Pm {α β :Type} {f :List α→α→Except Int β} {P :Int→Prop} (hf : ∀seen a m,f seen a= .error m→P m) : ∀ {seen l :List α} {m :Int},Br f seen l= .error m→P m
 | seen,[],m,h=>by simp [Br] at h
 | seen,x ::l,m,h=>by
  simp only [Br] at h
  cases hx :f seen x with
  | error j=>
   rw [hx] at h
   obtain rfl :=Except.error.inj h
   exact hf _ _ _ hx
  | ok r=>
   rw [hx] at h
   simp only at h
   cases hl :Br f (seen++ [x]) l with
   | error j=>
    rw [hl] at h
    obtain rfl :=Except.error.inj h
    exact Pm hf hl
   | ok rs=>rw [hl] at h;cases h
theorem X7 {T :List TabD} {seen :List Wd} {s :Wd} {t :TabD} (h :Cd T seen s= .ok t) :t∈T :=by
 unfold Cd at h
 cases ht :A5 T s with
 | none=>rw [ht] at h;cases h
 | some t'=>
  rw [ht] at h
  simp only at h
  split at h
  ·cases h
  ·obtain rfl :=Except.ok.inj h
   exact Wa ht
theorem Wb {T :List TabD} {seen :List Wd} {s :Wd} {m :Int} (h :Cd T seen s= .error m) :m=3∨m=4 :=by
 unfold Cd at h
 cases ht :A5 T s with
 | none=>rw [ht] at h;exact .inl (Except.error.inj h).symm
 | some t'=>
  rw [ht] at h
  simp only at h
  split at h
  ·exact .inr (Except.error.inj h).symm
  ·cases h
theorem We {T :List TabD} {l :List Wd} {S :List TabD} (h :Df T l= .ok S) :S.length≤2∧ ∀t∈S,t∈T :=by
 unfold Df at h
 split at h
 ·cases h
 ·obtain ⟨h1,h2⟩ :=Ro (P :=fun t=>t∈T) (fun _ _ _ hb=>X7 hb) h
  exact ⟨by omega,h2⟩
theorem N8 {T :List TabD} {l :List Wd} {m :Int} (h :Df T l= .error m) :m=1∨m=3∨m=4 :=by
 unfold Df at h
 split at h
 ·exact .inl (Except.error.inj h).symm
 ·exact .inr (Pm (P :=fun m=>m=3∨m=4) (fun _ _ _ hb=>Wb hb) h)
theorem Nc {S :List TabD} {l :List E} {m :Int} (h :Ej S l= .error m) :m=3∨m=5 :=by
 unfold Ej at h
 cases hb :Bb S l with
 | error k=>
  rw [hb] at h
  obtain rfl :=Except.error.inj h
  exact J4 S l _ hb
 | ok r=>rw [hb] at h;cases h
theorem Rp {S :List TabD} {l :List E} {m :Int} (h :Hc S l= .error m) :m=3∨m=5 :=by
 unfold Hc at h
 split at h
 ·cases h
 ·exact Nc h
structure SeSt (w :World) (W :World) (arr :Array Value) :Prop where
 stm :W.heap[w.heap.size+1]? =some (.cells arr 36)
 room :W.heap[w.heap.size+1+1]? =some (.cells Ah 36)
 bel :Below w.heap.size w W
 big :w.heap.size+3≤W.heap.size
theorem SeSt.below {w W W' :World} {arr :Array Value} (h :SeSt w W arr) (hb :Below W.heap.size W W') :SeSt w W' arr :=
 ⟨(hb.block _ (by have :=h.big;omega)).trans h.stm,(hb.block _ (by have :=h.big;omega)).trans h.room,h.bel.trans (hb.mono h.bel.size),Nat.le_trans h.big hb.size⟩
theorem SeSt.set {w W :World} {arr :Array Value} (h :SeSt w W arr) (i :Nat) (v :Value) :SeSt w (W.setCell ⟨w.heap.size+1,i,none⟩ v) (arr.setIfInBounds i v) :=
 ⟨upd h.stm i v,(Below.heap_setCell _ _ _ _ (by simp)).trans h.room,h.bel.setCell (show w.heap.size≤w.heap.size+1 by omega) _,by simpa using h.big⟩
theorem SeSt.wher {w W :World} {kind :Int} {name table col :Wd} {cols rows sets frm out :Value} {op xk xn :Int} {xs s nmv :Wd} {n8 :Int} {sl order :Value} {down :Bool} {n :Int} (h :SeSt w W (sA kind name table col cols rows sets frm out op xk xn xs s nmv n8 sl order down n)) (op' xk' xn' :Int) (xs' s' nmv' :Wd) (n8' :Int) (sl' :Value) :
  SeSt w (W.setCells (w.heap.size+1) 9 (Ad op' ⟨xk',xn',xs'⟩ s' nmv' n8' sl').toList) (sA kind name table col cols rows sets frm out op' xk' xn' xs' s' nmv' n8' sl' order down n) :=by
 have g := (((((((h.set 9 (.int .i64 op')).set 10 (.int .i64 xk')).set 11 (.int .i64 xn')).set 12 (.string xs')).set 13 (.string s')).set 14 (.string nmv')).set 15 (.int .i64 n8')).set 16 sl'
 simp only [List.setIfInBounds_toArray,List.set_cons_succ,List.set_cons_zero] at g
 exact g
set_option maxRecDepth 100000 in
set_option maxHeartbeats 8000000 in
theorem O3 (ct :CatD) (cv :Value) (st :Stm) (cs :List Value) (C :Nat) (w :World) (hc :Bh (fun k=>k<C) w ct cv) (hR :Abs.R (fun k=>k<C) w st cs) (hC :C≤w.heap.size)
  (hg1 : ∀a∈st.out,geB 40 a=true) (hg2 : ∀a∈st.order,geB 40 a=true) (hg3 :st.wher.opn≠0→geB 40 st.wher=true)
  (hn1 :st.out.length≤16777216) (hn2 :st.order.length≤16777216) (hs : ∀s∈st.frm,s.size≤maxLen) (hcl : ∀t∈ct.tables,t.cols.length≤1000000) :
  Calls Tryz.prog 59 #[cv, .agg cs.toArray] w fun r w'=> (∃u,r= .returned u∧Rn (C7 ct st) (Fx C w.heap.size) w' u) ∧Below w.heap.size w w' :=by
 obtain ⟨o1,c1,o2,c2,o3,c3,o4,c4,o5,c5,op,xk,xn,xs,s,nmv,n8,o6,k6,c6,o7,c7,rfl,i1,i2,i3,i4,i5,i6,i7⟩ :=Cy hR
 obtain ⟨tv,iv,rfl,htl,hil⟩ :=hc
 have hsl :=El hil
 have hb3 :=Fc w (.cells #[tv,iv] 25) (.cells (sA st.kind st.name st.table st.col (.slice o1 st.cols.length c1) (.slice o2 st.rows.length c2) (.slice o3 st.sets.length c3) (.slice o4 st.frm.length c4) (.slice o5 st.out.length c5) op xk xn xs s nmv n8 (.slice o6 k6 c6) (.slice o7 st.order.length c7) st.down st.n) 36) (.cells Ah 36)
 have S0 :SeSt w (((w.alloc (.cells #[tv,iv] 25)).alloc (.cells (sA st.kind st.name st.table st.col (.slice o1 st.cols.length c1) (.slice o2 st.rows.length c2) (.slice o3 st.sets.length c3) (.slice o4 st.frm.length c4) (.slice o5 st.out.length c5) op xk xn xs s nmv n8 (.slice o6 k6 c6) (.slice o7 st.order.length c7) st.down st.n) 36)).alloc (.cells Ah 36)) (sA st.kind st.name st.table st.col (.slice o1 st.cols.length c1) (.slice o2 st.rows.length c2) (.slice o3 st.sets.length c3) (.slice o4 st.frm.length c4) (.slice o5 st.out.length c5) op xk xn xs s nmv n8 (.slice o6 k6 c6) (.slice o7 st.order.length c7) st.down st.n) := ⟨Ae (A0 w (.cells #[tv,iv] 25) (.cells (sA st.kind st.name st.table st.col (.slice o1 st.cols.length c1) (.slice o2 st.rows.length c2) (.slice o3 st.sets.length c3) (.slice o4 st.frm.length c4) (.slice o5 st.out.length c5) op xk xn xs s nmv n8 (.slice o6 k6 c6) (.slice o7 st.order.length c7) st.down st.n) 36)) _,Dl w (.cells #[tv,iv] 25) (.cells (sA st.kind st.name st.table st.col (.slice o1 st.cols.length c1) (.slice o2 st.rows.length c2) (.slice o3 st.sets.length c3) (.slice o4 st.frm.length c4) (.slice o5 st.out.length c5) op xk xn xs s nmv n8 (.slice o6 k6 c6) (.slice o7 st.order.length c7) st.down st.n) 36) (.cells Ah 36),hb3,by simp⟩
 have HS1 :=Ss ct.tables tv iv hsl st.frm (.slice o4 st.frm.length c4) C (((w.alloc (.cells #[tv,iv] 25)).alloc (.cells (sA st.kind st.name st.table st.col (.slice o1 st.cols.length c1) (.slice o2 st.rows.length c2) (.slice o3 st.sets.length c3) (.slice o4 st.frm.length c4) (.slice o5 st.out.length c5) op xk xn xs s nmv n8 (.slice o6 k6 c6) (.slice o7 st.order.length c7) st.down st.n) 36)).alloc (.cells Ah 36)) (htl.keep (Ag (hb3.mono hC))) (i4.keep (Ag (hb3.mono hC))) (Nat.le_trans hC hb3.size) hs
 have h1 : (sA st.kind st.name st.table st.col (.slice o1 st.cols.length c1) (.slice o2 st.rows.length c2) (.slice o3 st.sets.length c3) (.slice o4 st.frm.length c4) (.slice o5 st.out.length c5) op xk xn xs s nmv n8 (.slice o6 k6 c6) (.slice o7 st.order.length c7) st.down st.n).all (·.oneCell') =true :=Dq (Au _ _ _) (Au _ _ _) (Au _ _ _) (Au _ _ _) (Au _ _ _) (Au _ _ _) (Au _ _ _)
 have HE0 :Hid (C7 ct st=match Df ct.tables st.frm with
  | .error m=> .error m
  | .ok S=>match Hc S st.out with
   | .error m=> .error m
   | .ok out=>match Ej S st.order with
    | .error m=> .error m
    | .ok order=>match whR S st.wher with
     | .error m=> .error m
     | .ok wh=> .ok {st with out :=out,order :=order,wher :=wh}) :=rfl
 clear htl hil hs
 rcases hr0 :Df ct.tables st.frm with m | S
 ·have hm :=N8 hr0
  have HE :Hid (C7 ct st= .error m) :=by show _=_;rw [HE0.out,hr0]
  have HS2 :=HS1.mono (R' :=fun e w'=>e= .returned (.tuple #[.slice none 0 0, .int .i64 m]) ∧Below (((w.alloc (.cells #[tv,iv] 25)).alloc (.cells (sA st.kind st.name st.table st.col (.slice o1 st.cols.length c1) (.slice o2 st.rows.length c2) (.slice o3 st.sets.length c3) (.slice o4 st.frm.length c4) (.slice o5 st.out.length c5) op xk xn xs s nmv n8 (.slice o6 k6 c6) (.slice o7 st.order.length c7) st.down st.n) 36)).alloc (.cells Ah 36)).heap.size (((w.alloc (.cells #[tv,iv] 25)).alloc (.cells (sA st.kind st.name st.table st.col (.slice o1 st.cols.length c1) (.slice o2 st.rows.length c2) (.slice o3 st.sets.length c3) (.slice o4 st.frm.length c4) (.slice o5 st.out.length c5) op xk xn xs s nmv n8 (.slice o6 k6 c6) (.slice o7 st.order.length c7) st.down st.n) 36)).alloc (.cells Ah 36)) w') (by
   rintro e w' ⟨⟨v,rfl,hv⟩,hb'⟩
   rw [hr0] at hv
   obtain rfl :=hv
   exact ⟨rfl,hb'⟩)
  clear HS1 HE0 hr0 hg1 hg2 hg3 hn1 hn2 i1 i2 i3 i4 i5 i6 i7 hR
  rcases hm with rfl | rfl | rfl
  all_goals
   go_enter Tryz.func59,Tryz.ntmps59
   go_wp2_with (first | (go_at_call 99;go_fit HS2;rintro e w1 ⟨rfl,hb1⟩;have S1 :=S0.below hb1) | (refine wpList_load_row rfl 36 _ rfl (w.heap.size+1) ?_ 36 (sA st.kind st.name st.table st.col (.slice o1 st.cols.length c1) (.slice o2 st.rows.length c2) (.slice o3 st.sets.length c3) (.slice o4 st.frm.length c4) (.slice o5 st.out.length c5) op xk xn xs s nmv n8 (.slice o6 k6 c6) (.slice o7 st.order.length c7) st.down st.n) (0,0) _ ?_ Tryz.underlying36 ?_ ?_ ?_;exact rfl;exact S1.stm;exact rfl;exact Am) | (refine wpList_store_row rfl 36 _ _ rfl (w.heap.size+1+1) (sA st.kind st.name st.table st.col (.slice o1 st.cols.length c1) (.slice o2 st.rows.length c2) (.slice o3 st.sets.length c3) (.slice o4 st.frm.length c4) (.slice o5 st.out.length c5) op xk xn xs s nmv n8 (.slice o6 k6 c6) (.slice o7 st.order.length c7) st.down st.n) ?_ ?_ 36 Ah ?_ ?_ ?_ ?_ ?_;exact rfl;exact rfl;exact S1.room;exact Am;exact rfl;exact h1))
   refine bodyPost_ret (A2 Tryz.results59 _ _ (w.heap.size+1+1) 36 (sA st.kind st.name st.table st.col (.slice o1 st.cols.length c1) (.slice o2 st.rows.length c2) (.slice o3 st.sets.length c3) (.slice o4 st.frm.length c4) (.slice o5 st.out.length c5) op xk xn xs s nmv n8 (.slice o6 k6 c6) (.slice o7 st.order.length c7) st.down st.n) _ _ _ rfl rfl (An S1.room) Tryz.underlying36 rfl Am) rfl ⟨⟨_,rfl, ?_⟩,Below.row S1.bel (by omega) _⟩
   refine ⟨_,rfl,h1, ?_⟩
   rw [HE.out]
   rfl
 ·obtain ⟨hS2,hSm⟩ :=We hr0
  have hS :S.length≤1000 :=by omega
  have hsc : ∀t∈S,t.cols.length≤1000000 :=fun t ht=>hcl t (hSm t ht)
  have HS2 :=HS1.mono (R' :=fun e w'=> ∃ (ao :Option Addr) (k c :Nat),e= .returned (.tuple #[.slice ao k c, .int .i64 0]) ∧IsL A4 (Fx C (w.heap.size+3)) w' (.slice ao k c) S∧Below (((w.alloc (.cells #[tv,iv] 25)).alloc (.cells (sA st.kind st.name st.table st.col (.slice o1 st.cols.length c1) (.slice o2 st.rows.length c2) (.slice o3 st.sets.length c3) (.slice o4 st.frm.length c4) (.slice o5 st.out.length c5) op xk xn xs s nmv n8 (.slice o6 k6 c6) (.slice o7 st.order.length c7) st.down st.n) 36)).alloc (.cells Ah 36)).heap.size (((w.alloc (.cells #[tv,iv] 25)).alloc (.cells (sA st.kind st.name st.table st.col (.slice o1 st.cols.length c1) (.slice o2 st.rows.length c2) (.slice o3 st.sets.length c3) (.slice o4 st.frm.length c4) (.slice o5 st.out.length c5) op xk xn xs s nmv n8 (.slice o6 k6 c6) (.slice o7 st.order.length c7) st.down st.n) 36)).alloc (.cells Ah 36)) w') (by
   rintro e w' ⟨⟨v,rfl,hv⟩,hb'⟩
   rw [hr0] at hv
   obtain ⟨ao,k,c,rfl,hL⟩ :=hv
   exact ⟨ao,k,c,rfl,hL.mono (fun k _ hk=>hk.imp id (fun h=>Nat.le_trans (by simp) h)),hb'⟩)
  rw [hr0] at HE0
  simp only at HE0
  clear HS1 hr0 hSm hS2 hcl
  go_enter Tryz.func59,Tryz.ntmps59
  go_upto_region 4 with (first | (go_at_call 99;go_fit HS2;rintro e w1 ⟨sao,sk,sc,rfl,hLS,hb1⟩))
  have S1 :=S0.below hb1
  clear S0 HS2 hb1 hb3
  have HO1 :=Sf S hS hsc 40 st.out (.slice o5 st.out.length c5) (.slice sao sk sc) w1.heap.size w1 ((i5.keep (Ag (S1.bel.mono hC))).mono (fun k hk _=>hk)) (hLS.mono (fun k hk _=>hk)) (Nat.le_refl _) hg1 (by omega)
  have a8 :=Aa S1.stm (j :=8) rfl
  rcases hr1 :Hc S st.out with m | out2
  ·have hm :=Rp hr1
   have HE :Hid (C7 ct st= .error m) :=by show _=_;rw [HE0.out,hr1]
   have HO2 :=HO1.mono (R' :=fun e w'=>e= .returned (.tuple #[.slice none 0 0, .int .i64 m]) ∧Below w1.heap.size w1 w') (by
    rintro e w' ⟨⟨v,rfl,hv⟩,hb'⟩
    rw [hr1] at hv
    obtain rfl :=hv
    exact ⟨rfl,hb'⟩)
   have h1 : (sA st.kind st.name st.table st.col (.slice o1 st.cols.length c1) (.slice o2 st.rows.length c2) (.slice o3 st.sets.length c3) (.slice o4 st.frm.length c4) (.slice none 0 0) op xk xn xs s nmv n8 (.slice o6 k6 c6) (.slice o7 st.order.length c7) st.down st.n).all (·.oneCell') =true :=Dq (Au _ _ _) (Au _ _ _) (Au _ _ _) (Au _ _ _) (Au _ _ _) (Au _ _ _) (Au _ _ _)
   clear HO1 HE0 hr1 hg1 hg2 hg3 hn1 hn2 i1 i2 i3 i4 i5 i6 i7 hR hLS hS hsc
   rcases hm with rfl | rfl
   all_goals
    go_wp2_with (first | (go_at_call 100;go_fit HO2;rintro e w2 ⟨rfl,hbw2⟩;have S2 :=S1.below hbw2;have q0 :=Aa S2.stm (j :=8) rfl;have f0 :w2.frozen? ⟨w.heap.size+1,8,none⟩ =false :=by simp [World.frozen?,S2.stm]) | (refine wpList_load_row rfl 36 _ rfl (w.heap.size+1) ?_ 36 (sA st.kind st.name st.table st.col (.slice o1 st.cols.length c1) (.slice o2 st.rows.length c2) (.slice o3 st.sets.length c3) (.slice o4 st.frm.length c4) (.slice none 0 0) op xk xn xs s nmv n8 (.slice o6 k6 c6) (.slice o7 st.order.length c7) st.down st.n) (0,0) _ ?_ Tryz.underlying36 ?_ ?_ ?_;exact rfl;exact (S2.set 8 (.slice none 0 0)).stm;exact rfl;exact Am) | (refine wpList_store_row rfl 36 _ _ rfl (w.heap.size+1+1) (sA st.kind st.name st.table st.col (.slice o1 st.cols.length c1) (.slice o2 st.rows.length c2) (.slice o3 st.sets.length c3) (.slice o4 st.frm.length c4) (.slice none 0 0) op xk xn xs s nmv n8 (.slice o6 k6 c6) (.slice o7 st.order.length c7) st.down st.n) ?_ ?_ 36 Ah ?_ ?_ ?_ ?_ ?_;exact rfl;exact rfl;exact (S2.set 8 (.slice none 0 0)).room;exact Am;exact rfl;exact h1))
    refine bodyPost_ret (A2 Tryz.results59 _ _ (w.heap.size+1+1) 36 (sA st.kind st.name st.table st.col (.slice o1 st.cols.length c1) (.slice o2 st.rows.length c2) (.slice o3 st.sets.length c3) (.slice o4 st.frm.length c4) (.slice none 0 0) op xk xn xs s nmv n8 (.slice o6 k6 c6) (.slice o7 st.order.length c7) st.down st.n) _ _ _ rfl rfl (An (S2.set 8 (.slice none 0 0)).room) Tryz.underlying36 rfl Am) rfl ⟨⟨_,rfl, ?_⟩,Below.row (S2.set 8 (.slice none 0 0)).bel (by omega) _⟩
    refine ⟨_,rfl,h1, ?_⟩
    rw [HE.out]
    rfl
  ·have HO2 :=HO1.mono (R' :=fun e w'=> ∃ (ao :Option Addr) (k c :Nat),e= .returned (.tuple #[.slice ao k c, .int .i64 0]) ∧IsL As (Fx C (w.heap.size+3)) w' (.slice ao k c) out2∧Below w1.heap.size w1 w') (by
    rintro e w' ⟨⟨v,rfl,hv⟩,hb'⟩
    rw [hr1] at hv
    obtain ⟨ao,k,c,rfl,hL⟩ :=hv
    exact ⟨ao,k,c,rfl,hL.mono (fun k _ hk=> .inr (Nat.le_trans S1.big hk)),hb'⟩)
   rw [hr1] at HE0
   simp only at HE0
   clear HO1 hr1 hg1 hn1 i5
   go_upto_region 7 with (first | (go_at_call 100;go_fit HO2;rintro e w2 ⟨aor,kr,cr,rfl,hLo,hb2⟩;have S2 :=S1.below hb2;have q8 :=Aa S2.stm (j :=8) rfl;have f8 :w2.frozen? ⟨w.heap.size+1,8,none⟩ =false :=by simp [World.frozen?,S2.stm]))
   have S3 :SeSt w (w2.setCell ⟨w.heap.size+1,8,none⟩ (.slice aor kr cr)) (sA st.kind st.name st.table st.col (.slice o1 st.cols.length c1) (.slice o2 st.rows.length c2) (.slice o3 st.sets.length c3) (.slice o4 st.frm.length c4) (.slice aor kr cr) op xk xn xs s nmv n8 (.slice o6 k6 c6) (.slice o7 st.order.length c7) st.down st.n) :=S2.set 8 (.slice aor kr cr)
   have hLo3 :=hLo.keep (Ex hC 8 (.slice aor kr cr))
   have hLS3 := (hLS.keep (Ar hb2)).keep (Ex hC 8 (.slice aor kr cr))
   generalize w2.setCell ⟨w.heap.size+1,8,none⟩ (.slice aor kr cr) =W3 at S3 hLo3 hLS3⊢
   clear S1 S2 hb2 hLo hLS q8 f8 a8 HO2
   have HA1 :=Mq S hS hsc 40 st.order (.slice o7 st.order.length c7) (.slice sao sk sc) W3.heap.size W3 ((i7.keep (Ag (S3.bel.mono hC))).mono (fun k hk _=>hk)) (hLS3.mono (fun k hk _=>hk)) (Nat.le_refl _) hg2 (by omega)
   have a17 :=Aa S3.stm (j :=17) rfl
   rcases hr2 :Ej S st.order with m | ord2
   ·have hm :=Nc hr2
    have HE :Hid (C7 ct st= .error m) :=by show _=_;rw [HE0.out,hr2]
    have HA2 :=HA1.mono (R' :=fun e w'=>e= .returned (.tuple #[.slice none 0 0, .int .i64 m]) ∧Below W3.heap.size W3 w') (by
     rintro e w' ⟨⟨v,rfl,hv⟩,hb'⟩
     rw [hr2] at hv
     obtain rfl :=hv
     exact ⟨rfl,hb'⟩)
    have h1 : (sA st.kind st.name st.table st.col (.slice o1 st.cols.length c1) (.slice o2 st.rows.length c2) (.slice o3 st.sets.length c3) (.slice o4 st.frm.length c4) (.slice aor kr cr) op xk xn xs s nmv n8 (.slice o6 k6 c6) (.slice none 0 0) st.down st.n).all (·.oneCell') =true :=Dq (Au _ _ _) (Au _ _ _) (Au _ _ _) (Au _ _ _) (Au _ _ _) (Au _ _ _) (Au _ _ _)
    clear HA1 HE0 hr2 hg2 hg3 hn2 i1 i2 i3 i4 i6 i7 hR hLS3 hS hsc hLo3
    rcases hm with rfl | rfl
    all_goals
     go_wp2_with (first | (go_at_call 101;go_fit HA2;rintro e w4 ⟨rfl,hbw4⟩;have S4 :=S3.below hbw4;have q0 :=Aa S4.stm (j :=17) rfl;have f0 :w4.frozen? ⟨w.heap.size+1,17,none⟩ =false :=by simp [World.frozen?,S4.stm]) | (refine wpList_load_row rfl 36 _ rfl (w.heap.size+1) ?_ 36 (sA st.kind st.name st.table st.col (.slice o1 st.cols.length c1) (.slice o2 st.rows.length c2) (.slice o3 st.sets.length c3) (.slice o4 st.frm.length c4) (.slice aor kr cr) op xk xn xs s nmv n8 (.slice o6 k6 c6) (.slice none 0 0) st.down st.n) (0,0) _ ?_ Tryz.underlying36 ?_ ?_ ?_;exact rfl;exact (S4.set 17 (.slice none 0 0)).stm;exact rfl;exact Am) | (refine wpList_store_row rfl 36 _ _ rfl (w.heap.size+1+1) (sA st.kind st.name st.table st.col (.slice o1 st.cols.length c1) (.slice o2 st.rows.length c2) (.slice o3 st.sets.length c3) (.slice o4 st.frm.length c4) (.slice aor kr cr) op xk xn xs s nmv n8 (.slice o6 k6 c6) (.slice none 0 0) st.down st.n) ?_ ?_ 36 Ah ?_ ?_ ?_ ?_ ?_;exact rfl;exact rfl;exact (S4.set 17 (.slice none 0 0)).room;exact Am;exact rfl;exact h1))
     refine bodyPost_ret (A2 Tryz.results59 _ _ (w.heap.size+1+1) 36 (sA st.kind st.name st.table st.col (.slice o1 st.cols.length c1) (.slice o2 st.rows.length c2) (.slice o3 st.sets.length c3) (.slice o4 st.frm.length c4) (.slice aor kr cr) op xk xn xs s nmv n8 (.slice o6 k6 c6) (.slice none 0 0) st.down st.n) _ _ _ rfl rfl (An (S4.set 17 (.slice none 0 0)).room) Tryz.underlying36 rfl Am) rfl ⟨⟨_,rfl, ?_⟩,Below.row (S4.set 17 (.slice none 0 0)).bel (by omega) _⟩
     refine ⟨_,rfl,h1, ?_⟩
     rw [HE.out]
     rfl
   ·have HA2 :=HA1.mono (R' :=fun e w'=> ∃ (ao :Option Addr) (k c :Nat),e= .returned (.tuple #[.slice ao k c, .int .i64 0]) ∧IsL As (Fx C (w.heap.size+3)) w' (.slice ao k c) ord2∧Below W3.heap.size W3 w') (by
     rintro e w' ⟨⟨v,rfl,hv⟩,hb'⟩
     rw [hr2] at hv
     obtain ⟨ao,k,c,rfl,hL⟩ :=hv
     exact ⟨ao,k,c,rfl,hL.mono (fun k _ hk=> .inr (Nat.le_trans S3.big hk)),hb'⟩)
    rw [hr2] at HE0
    simp only at HE0
    clear HA1 hr2 hg2 hn2 i7
    go_upto_region 10 with (first | (go_at_call 101;go_fit HA2;rintro e w4 ⟨aos,ks,cs',rfl,hLd,hb4⟩;have S4 :=S3.below hb4;have q17 :=Aa S4.stm (j :=17) rfl;have f17 :w4.frozen? ⟨w.heap.size+1,17,none⟩ =false :=by simp [World.frozen?,S4.stm]))
    have S5 :SeSt w (w4.setCell ⟨w.heap.size+1,17,none⟩ (.slice aos ks cs')) (sA st.kind st.name st.table st.col (.slice o1 st.cols.length c1) (.slice o2 st.rows.length c2) (.slice o3 st.sets.length c3) (.slice o4 st.frm.length c4) (.slice aor kr cr) op xk xn xs s nmv n8 (.slice o6 k6 c6) (.slice aos ks cs') st.down st.n) :=S4.set 17 (.slice aos ks cs')
    have hLd5 :=hLd.keep (Ex hC 17 (.slice aos ks cs'))
    have hLo5 := (hLo3.keep (Ar hb4)).keep (Ex hC 17 (.slice aos ks cs'))
    have hLS5 := (hLS3.keep (Ar hb4)).keep (Ex hC 17 (.slice aos ks cs'))
    generalize w4.setCell ⟨w.heap.size+1,17,none⟩ (.slice aos ks cs') =W5 at S5 hLd5 hLo5 hLS5⊢
    clear S3 S4 hb4 hLd hLo3 hLS3 q17 f17 a17 HA2
    have j6 :=IsE.keep (Ag (S5.bel.mono hC)) _ _ i6
    have HW1 :=Kq S hS hsc 40 st.wher _ (.slice sao sk sc) C W5.heap.size W5 j6 (hLS5.mono (fun k hk _=>hk)) (Nat.le_trans hC S5.bel.size) (Nat.le_refl _) hg3
    have a9 :=Aa S5.stm (j :=9) rfl
    have a10 :=Aa S5.stm (j :=10) rfl
    have a11 :=Aa S5.stm (j :=11) rfl
    have a12 :=Aa S5.stm (j :=12) rfl
    have a13 :=Aa S5.stm (j :=13) rfl
    have a14 :=Aa S5.stm (j :=14) rfl
    have a15 :=Aa S5.stm (j :=15) rfl
    have a16 :=Aa S5.stm (j :=16) rfl
    have HW2 :=HW1.mono (R' :=fun r w'=> ∃ (op :Int) (x :V) (s name :Wd) (n :Int) (ao :Option Addr) (k c :Nat) (z :Int),r= .returned (.tuple #[.agg (Ad op x s name n (.slice ao k c)), .int .i64 z]) ∧ (match whR S st.wher with | .error m=>z=m | .ok e=>z=0∧IsE (Fx C (w.heap.size+3)) w' e (.agg (Ad op x s name n (.slice ao k c)))) ∧Below W5.heap.size W5 w') (by
     rintro r w' ⟨⟨v,rfl,hv⟩,hb'⟩
     cases hr :whR S st.wher with
     | error m=>
      rw [hr] at hv
      obtain rfl :=hv
      exact ⟨0,zero,noW,noW,0,none,0,0,m,rfl,rfl,hb'⟩
     | ok e2=>
      rw [hr] at hv
      obtain ⟨op,x,s,name,n,ao,k,c,rfl,hE'⟩ :=hv
      exact ⟨op,x,s,name,n,ao,k,c,0,rfl,⟨rfl,IsE.mono (fun k _ hk=>hk.imp id (fun h=>Nat.le_trans S5.big h)) _ _ hE'⟩,hb'⟩)
    generalize whR S st.wher=RW at HW2 HE0
    clear HW1 hg3
    go_wp2_with (first | (go_at_call 98;refine HW2.mono ?_;rintro r w6 ⟨op2,x2,s2,name2,n2',ao3,k3,c3',z,rfl,hAns,hb6⟩;obtain ⟨x2k,x2n,x2s⟩ :=x2;have S6 :=S5.below hb6;have hone8 :=A8 op2 ⟨x2k,x2n,x2s⟩ s2 name2 n2' ao3 k3 c3';have mt :w6.there (w.heap.size+1) 9 8 :=Pk S6.stm;have S7 :=S6.wher op2 x2k x2n x2s s2 name2 n2' (.slice ao3 k3 c3');have h1 : (sA st.kind st.name st.table st.col (.slice o1 st.cols.length c1) (.slice o2 st.rows.length c2) (.slice o3 st.sets.length c3) (.slice o4 st.frm.length c4) (.slice aor kr cr) op2 x2k x2n x2s s2 name2 n2' (.slice ao3 k3 c3') (.slice aos ks cs') st.down st.n).all (·.oneCell') =true :=Dq (Au _ _ _) (Au _ _ _) (Au _ _ _) (Au _ _ _) (Au _ _ _) (Au _ _ _) (Au _ _ _)) | (refine wpList_store_mid rfl 34 _ _ rfl (w.heap.size+1) 9 (Ad op2 ⟨x2k,x2n,x2s⟩ s2 name2 n2' (.slice ao3 k3 c3')) ?_ ?_ ?_ ?_ ?_ ?_;exact rfl;exact rfl;exact mt;exact Ai;exact hone8) | (refine wpList_load_row rfl 36 _ rfl (w.heap.size+1) ?_ 36 (sA st.kind st.name st.table st.col (.slice o1 st.cols.length c1) (.slice o2 st.rows.length c2) (.slice o3 st.sets.length c3) (.slice o4 st.frm.length c4) (.slice aor kr cr) op2 x2k x2n x2s s2 name2 n2' (.slice ao3 k3 c3') (.slice aos ks cs') st.down st.n) (0,0) _ ?_ Tryz.underlying36 ?_ ?_ ?_;exact rfl;exact S7.stm;exact rfl;exact Am) | (refine wpList_store_row rfl 36 _ _ rfl (w.heap.size+1+1) (sA st.kind st.name st.table st.col (.slice o1 st.cols.length c1) (.slice o2 st.rows.length c2) (.slice o3 st.sets.length c3) (.slice o4 st.frm.length c4) (.slice aor kr cr) op2 x2k x2n x2s s2 name2 n2' (.slice ao3 k3 c3') (.slice aos ks cs') st.down st.n) ?_ ?_ 36 Ah ?_ ?_ ?_ ?_ ?_;exact rfl;exact rfl;exact S7.room;exact Am;exact rfl;exact h1))
    refine bodyPost_ret (A2 Tryz.results59 _ _ (w.heap.size+1+1) 36 (sA st.kind st.name st.table st.col (.slice o1 st.cols.length c1) (.slice o2 st.rows.length c2) (.slice o3 st.sets.length c3) (.slice o4 st.frm.length c4) (.slice aor kr cr) op2 x2k x2n x2s s2 name2 n2' (.slice ao3 k3 c3') (.slice aos ks cs') st.down st.n) _ _ _ rfl rfl (An S7.room) Tryz.underlying36 rfl Am) rfl ⟨⟨_,rfl, ?_⟩,Below.row S7.bel (by omega) _⟩
    refine ⟨_,rfl,h1, ?_⟩
    rw [HE0.out]
    cases RW with
    | error m=>
     obtain rfl :=hAns
     rfl
    | ok wh=>
     obtain ⟨rfl,hE6⟩ :=hAns
     refine ⟨rfl, ?_⟩
     have hF1 : ¬Fx C (w.heap.size+3) (w.heap.size+1) :=by intro h;rcases h with h | h<;>omega
     have hF2 : ¬Fx C (w.heap.size+3) (w.heap.size+1+1) :=by intro h;rcases h with h | h<;>omega
     have hK :Keeps (Fx C (w.heap.size+3)) w6 ((w6.setCells (w.heap.size+1) 9 (Ad op2 ⟨x2k,x2n,x2s⟩ s2 name2 n2' (.slice ao3 k3 c3')).toList).setRow (w.heap.size+1+1) (sA st.kind st.name st.table st.col (.slice o1 st.cols.length c1) (.slice o2 st.rows.length c2) (.slice o3 st.sets.length c3) (.slice o4 st.frm.length c4) (.slice aor kr cr) op2 x2k x2n x2s s2 name2 n2' (.slice ao3 k3 c3') (.slice aos ks cs') st.down st.n)) := (Fs hF1 _ _ _).row hF2 _
     have hKC :Keeps (fun k=>k<C) w ((w6.setCells (w.heap.size+1) 9 (Ad op2 ⟨x2k,x2n,x2s⟩ s2 name2 n2' (.slice ao3 k3 c3')).toList).setRow (w.heap.size+1+1) (sA st.kind st.name st.table st.col (.slice o1 st.cols.length c1) (.slice o2 st.rows.length c2) (.slice o3 st.sets.length c3) (.slice o4 st.frm.length c4) (.slice aor kr cr) op2 x2k x2n x2s s2 name2 n2' (.slice ao3 k3 c3') (.slice aos ks cs') st.down st.n)) :=Ag ((Below.row S7.bel (by omega) _).mono hC)
     have hM : ∀k,Fx C (w.heap.size+3) k→Fx C w.heap.size k :=fun k h=>h.imp id (fun h=>Nat.le_trans (by omega) h)
     exact I1 ((i1.keep hKC).mono (fun k _ h=> .inl h)) ((i2.keep hKC).mono (fun k _ h=> .inl h)) ((i3.keep hKC).mono (fun k _ h=> .inl h)) ((i4.keep hKC).mono (fun k _ h=> .inl h)) (((hLo5.keep (Ar hb6)).keep hK).mono (fun k _ h=>hM k h)) (IsE.mono (fun k _ h=>hM k h) _ _ (IsE.keep hK _ _ hE6)) (((hLd5.keep (Ar hb6)).keep hK).mono (fun k _ h=>hM k h))
end Go.Proofs.YtmgkcjiejmhgcaaGreatDoor

