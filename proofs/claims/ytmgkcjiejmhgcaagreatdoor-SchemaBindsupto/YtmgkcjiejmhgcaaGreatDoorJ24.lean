/-
  1 texts of this proof in one, in build order: YChange.
-/
import Derived.Test.YtmgkcjiejmhgcaaGreatDoorJ23
set_option linter.unusedSimpArgs false
set_option linter.unusedVariables false
namespace Go.Proofs.YtmgkcjiejmhgcaaGreatDoor
open Go.RowKit Go.Maps
def Cz (ct :CatD) (st :Stm) :Except Int Stm :=
 match A5 ct.tables st.table with
 | none=> .error 3
 | some t=>match Fu t.cols st.rows with
  | .error m=> .error m
  | .ok rows=>match Bq t [] st.sets with
   | .error m=> .error m
   | .ok sets=>match whR [t] st.wher with
    | .error m=> .error m
    | .ok wh=> .ok {st with rows :=rows,sets :=sets,wher :=wh}
def Rn (R :Except Int Stm) (F :Nat→Prop) (w' :World) (v :Value) :Prop :=
 ∃arr :Array Value,arr.size=20∧arr.all (·.oneCell') =true∧match R with
 | .error m=>v= .tuple #[.agg arr, .int .i64 m]
 | .ok st=>v= .tuple #[.agg arr, .int .i64 0] ∧Abs.R F w' st arr.toList
structure ChSt (w :World) (W :World) (arr :Array Value) (tn :Wd) (cv :Value) (pt :Nat) :Prop where
 stm :W.heap[w.heap.size+1]? =some (.cells arr 36)
 room :W.heap[w.heap.size+1+1]? =some (.cells Ah 36)
 tab :W.heap[pt]? =some (.cells #[.string tn,cv] 47)
 bel :Below w.heap.size w W
 pt3 :w.heap.size+3≤pt
 big :pt<W.heap.size
theorem ChSt.below {w W W' :World} {arr :Array Value} {tn :Wd} {cv :Value} {pt :Nat} (h :ChSt w W arr tn cv pt) (hb :Below W.heap.size W W') :ChSt w W' arr tn cv pt :=
 ⟨(hb.block _ (by have :=h.big;have :=h.pt3;omega)).trans h.stm,(hb.block _ (by have :=h.big;have :=h.pt3;omega)).trans h.room,(hb.block _ h.big).trans h.tab,h.bel.trans (hb.mono h.bel.size),h.pt3,Nat.lt_of_lt_of_le h.big hb.size⟩
theorem ChSt.set {w W :World} {arr :Array Value} {tn :Wd} {cv :Value} {pt :Nat} (h :ChSt w W arr tn cv pt) (i :Nat) (v :Value) :ChSt w (W.setCell ⟨w.heap.size+1,i,none⟩ v) (arr.setIfInBounds i v) tn cv pt :=
 ⟨upd h.stm i v,(Below.heap_setCell _ _ _ _ (by simp)).trans h.room,(Below.heap_setCell _ _ _ _ (by have :=h.pt3;simp;omega)).trans h.tab,h.bel.setCell (show w.heap.size≤w.heap.size+1 by omega) _,h.pt3,by simpa using h.big⟩
theorem Ex {C :Nat} {w W :World} (hC :C≤w.heap.size) (i :Nat) (v :Value) :Keeps (Fx C (w.heap.size+3)) W (W.setCell ⟨w.heap.size+1,i,none⟩ v) := (Keeps.refl _ _).set (by intro h;rcases h with h | h<;>omega) _ _
theorem ChSt.wher {w W :World} {kind :Int} {name table col :Wd} {cols rows sets frm out :Value} {op xk xn :Int} {xs s nmv :Wd} {n8 :Int} {sl order :Value} {down :Bool} {n :Int} {tn :Wd} {cv :Value} {pt :Nat} (h :ChSt w W (sA kind name table col cols rows sets frm out op xk xn xs s nmv n8 sl order down n) tn cv pt) (op' xk' xn' :Int) (xs' s' nmv' :Wd) (n8' :Int) (sl' :Value) :
  ChSt w (W.setCells (w.heap.size+1) 9 (Ad op' ⟨xk',xn',xs'⟩ s' nmv' n8' sl').toList) (sA kind name table col cols rows sets frm out op' xk' xn' xs' s' nmv' n8' sl' order down n) tn cv pt :=by
 have g := (((((((h.set 9 (.int .i64 op')).set 10 (.int .i64 xk')).set 11 (.int .i64 xn')).set 12 (.string xs')).set 13 (.string s')).set 14 (.string nmv')).set 15 (.int .i64 n8')).set 16 sl'
 simp only [List.setIfInBounds_toArray,List.set_cons_succ,List.set_cons_zero] at g
 exact g
theorem Pk {W :World} {g :Nat} {kind :Int} {name table col :Wd} {cols rows sets frm out :Value} {op xk xn :Int} {xs s nmv :Wd} {n8 :Int} {sl order :Value} {down :Bool} {n :Int} {t :TypeId} (h :W.heap[g]? =some (.cells (sA kind name table col cols rows sets frm out op xk xn xs s nmv n8 sl order down n) t)) :W.there g 9 8 :=by
 intro j hj
 refine ⟨?_,by simp [World.frozen?,h]⟩
 rcases (show j=0∨j=1∨j=2∨j=3∨j=4∨j=5∨j=6∨j=7 by omega) with rfl | rfl | rfl | rfl | rfl | rfl | rfl | rfl
 all_goals (rw [Aa h rfl];rfl)
theorem Ls {t :TabD} : ∀ {seen :List Wd} {l :List (Wd×E)} {m :Int},Bq t seen l= .error m→m=3∨m=4∨m=5
 | seen,[],m,h=>by simp [Bq] at h
 | seen,x ::l,m,h=>by
  simp only [Bq] at h
  cases hx :Ff t seen x with
  | error j=>
   rw [hx] at h
   obtain rfl :=Except.error.inj h
   exact Xw hx
  | ok r=>
   rw [hx] at h
   simp only at h
   cases hl :Bq t (seen++ [x.1]) l with
   | error j=>
    rw [hl] at h
    obtain rfl :=Except.error.inj h
    exact Ls hl
   | ok rs=>rw [hl] at h;cases h
set_option maxRecDepth 100000 in
set_option maxHeartbeats 8000000 in
theorem O2 (ct :CatD) (cv :Value) (st :Stm) (cs :List Value) (C :Nat) (w :World) (hc :Bh (fun k=>k<C) w ct cv) (hR :Abs.R (fun k=>k<C) w st cs) (hC :C≤w.heap.size)
  (hg1 : ∀r∈st.rows,∀a∈r,geB 40 a=true) (hg2 : ∀p∈st.sets,geB 40 p.2=true) (hg3 :st.wher.opn≠0→geB 40 st.wher=true)
  (hn1 :st.rows.length≤16777216) (hn2 : ∀r∈st.rows,r.length≤16777216) (hn3 :st.sets.length≤16777216) (hs : ∀p∈st.sets,p.1.size≤maxLen) (hcl : ∀t∈ct.tables,t.cols.length≤1000000) :
  Calls Tryz.prog 58 #[cv, .agg cs.toArray] w fun r w'=> (∃u,r= .returned u∧Rn (Cz ct st) (Fx C w.heap.size) w' u) ∧Below w.heap.size w w' :=by
 obtain ⟨o1,c1,o2,c2,o3,c3,o4,c4,o5,c5,op,xk,xn,xs,s,nmv,n8,o6,k6,c6,o7,c7,rfl,i1,i2,i3,i4,i5,i6,i7⟩ :=Cy hR
 obtain ⟨tv,iv,rfl,htl,hil⟩ :=hc
 have hsl :=El hil
 have hb3 :=Fc w (.cells #[tv,iv] 25) (.cells (sA st.kind st.name st.table st.col (.slice o1 st.cols.length c1) (.slice o2 st.rows.length c2) (.slice o3 st.sets.length c3) (.slice o4 st.frm.length c4) (.slice o5 st.out.length c5) op xk xn xs s nmv n8 (.slice o6 k6 c6) (.slice o7 st.order.length c7) st.down st.n) 36) (.cells Ah 36)
 have hB1 :=Ae (A0 w (.cells #[tv,iv] 25) (.cells (sA st.kind st.name st.table st.col (.slice o1 st.cols.length c1) (.slice o2 st.rows.length c2) (.slice o3 st.sets.length c3) (.slice o4 st.frm.length c4) (.slice o5 st.out.length c5) op xk xn xs s nmv n8 (.slice o6 k6 c6) (.slice o7 st.order.length c7) st.down st.n) 36)) (.cells Ah 36)
 have hB2 :=Dl w (.cells #[tv,iv] 25) (.cells (sA st.kind st.name st.table st.col (.slice o1 st.cols.length c1) (.slice o2 st.rows.length c2) (.slice o3 st.sets.length c3) (.slice o4 st.frm.length c4) (.slice o5 st.out.length c5) op xk xn xs s nmv n8 (.slice o6 k6 c6) (.slice o7 st.order.length c7) st.down st.n) 36) (.cells Ah 36)
 have hlt1 :=lt_of_block hB1
 have hlt2 :=lt_of_block hB2
 have hone : ∀rv sv,Dx rv→Dx sv→ (sA st.kind st.name st.table st.col (.slice o1 st.cols.length c1) rv sv (.slice o4 st.frm.length c4) (.slice o5 st.out.length c5) op xk xn xs s nmv n8 (.slice o6 k6 c6) (.slice o7 st.order.length c7) st.down st.n).all (·.oneCell') =true :=fun rv sv h1 h2=>Dq (Au _ _ _) h1 h2 (Au _ _ _) (Au _ _ _) (Au _ _ _) (Au _ _ _)
 rcases htab :A5 ct.tables st.table with _ | t
 ·have HE :Hid (Cz ct st= .error 3) :=by show _=_;unfold Cz;rw [htab]
  have HF :=Ep htab tv iv hsl C _ (htl.keep (Ag (hb3.mono hC))) (Nat.le_trans hC hb3.size)
  have h1 :=hone _ _ (Au o2 st.rows.length c2) (Au o3 st.sets.length c3)
  clear htl hil htab hg1 hg2 hg3 hn1 hn2 hn3 hs i1 i2 i3 i4 i5 i6 i7 hR hone
  go_enter Tryz.func58,Tryz.ntmps58
  go_wp2_with (first | (go_at_call 17;go_fit HF;rintro e w1 ⟨rfl,hb1⟩;have y1 :=Ae ((hb1.block _ hlt1).trans hB1) (.cells #[.string noW, .slice none 0 0] 47);have y2 :=Ae ((hb1.block _ hlt2).trans hB2) (.cells #[.string noW, .slice none 0 0] 47);have hbT := (Ak hb3 hb1).alloc (Ak hb3 hb1).size (.cells #[.string noW, .slice none 0 0] 47)) | (refine wpList_load_row rfl 36 _ rfl (w.heap.size+1) ?_ 36 (sA st.kind st.name st.table st.col (.slice o1 st.cols.length c1) (.slice o2 st.rows.length c2) (.slice o3 st.sets.length c3) (.slice o4 st.frm.length c4) (.slice o5 st.out.length c5) op xk xn xs s nmv n8 (.slice o6 k6 c6) (.slice o7 st.order.length c7) st.down st.n) (0,0) _ ?_ Tryz.underlying36 ?_ ?_ ?_;exact rfl;exact y1;exact rfl;exact Am) | (refine wpList_store_row rfl 36 _ _ rfl (w.heap.size+1+1) (sA st.kind st.name st.table st.col (.slice o1 st.cols.length c1) (.slice o2 st.rows.length c2) (.slice o3 st.sets.length c3) (.slice o4 st.frm.length c4) (.slice o5 st.out.length c5) op xk xn xs s nmv n8 (.slice o6 k6 c6) (.slice o7 st.order.length c7) st.down st.n) ?_ ?_ 36 Ah ?_ ?_ ?_ ?_ ?_;exact rfl;exact rfl;exact y2;exact Am;exact rfl;exact h1))
  refine bodyPost_ret (A2 Tryz.results58 _ _ (w.heap.size+1+1) 36 (sA st.kind st.name st.table st.col (.slice o1 st.cols.length c1) (.slice o2 st.rows.length c2) (.slice o3 st.sets.length c3) (.slice o4 st.frm.length c4) (.slice o5 st.out.length c5) op xk xn xs s nmv n8 (.slice o6 k6 c6) (.slice o7 st.order.length c7) st.down st.n) _ _ _ rfl rfl (An y2) Tryz.underlying36 rfl Am) rfl ⟨⟨_,rfl, ?_⟩,Below.row hbT (by omega) _⟩
  refine ⟨_,rfl,h1, ?_⟩
  rw [HE.out]
  rfl
 ·have HF :=Eo htab tv iv hsl C _ (htl.keep (Ag (hb3.mono hC))) (Nat.le_trans hC hb3.size)
  have hct :=hcl t (List.mem_of_find?_eq_some htab)
  have HE0 :Hid (Cz ct st=match Fu t.cols st.rows with
   | .error m=> .error m
   | .ok rows=>match Bq t [] st.sets with
    | .error m=> .error m
    | .ok sets=>match whR [t] st.wher with
     | .error m=> .error m
     | .ok wh=> .ok {st with rows :=rows,sets :=sets,wher :=wh}) :=by show _=_;unfold Cz;rw [htab]
  clear htl hil htab
  go_enter Tryz.func58,Tryz.ntmps58
  go_upto_region 5 with (first | (go_at_call 17;go_fit HF;rintro e w1 ⟨ao2,n2,c2',rfl,hcL,hb1⟩))
  have S1 :ChSt w (w1.alloc (.cells #[.string t.name, .slice ao2 n2 c2'] 47)) (sA st.kind st.name st.table st.col (.slice o1 st.cols.length c1) (.slice o2 st.rows.length c2) (.slice o3 st.sets.length c3) (.slice o4 st.frm.length c4) (.slice o5 st.out.length c5) op xk xn xs s nmv n8 (.slice o6 k6 c6) (.slice o7 st.order.length c7) st.down st.n) t.name (.slice ao2 n2 c2') w1.heap.size := ⟨Ae ((hb1.block _ hlt1).trans hB1) _,Ae ((hb1.block _ hlt2).trans hB2) _,Ab _ _,(Ak hb3 hb1).alloc (Ak hb3 hb1).size _,by have :=hb1.size;simp at this;omega,by simp⟩
  have hcL1 :=hcL.keep (Ar (Aq w1 (.cells #[.string t.name, .slice ao2 n2 c2'] 47)))
  generalize hpt :w1.heap.size=pt at*
  generalize w1.alloc (.cells #[.string t.name, .slice ao2 n2 c2'] 47) =W1 at S1 hcL1⊢
  clear hB1 hB2 hlt1 hlt2 HF hb1 hcL hpt
  have hbC :=S1.bel.mono hC
  have j2 :=i2.keep (Ag hbC)
  have HR1 :=Q3 t.name t.cols (.slice ao2 n2 c2') 40 st.rows (.slice o2 st.rows.length c2) C W1 j2 hcL1 (Nat.le_trans hC S1.bel.size) hg1 (by omega) (fun r hr=>Nat.le_trans (hn2 r hr) (by decide))
  have a5 :=Aa S1.stm (j :=5) rfl
  have p0 :=Aa S1.tab (j :=0) rfl
  have p1 :=Aa S1.tab (j :=1) rfl
  rcases hr1 :Fu t.cols st.rows with m | rows2
  ·have hm :=O9 hr1
   have HE :Hid (Cz ct st= .error m) :=by show _=_;rw [HE0.out,hr1]
   have HR2 :=HR1.mono (R' :=fun e w'=>e= .returned (.tuple #[.slice none 0 0, .int .i64 m]) ∧Below W1.heap.size W1 w') (by
    rintro e w' ⟨⟨v,rfl,hv⟩,hb'⟩
    rw [hr1] at hv
    obtain rfl :=hv
    exact ⟨rfl,hb'⟩)
   have h1 :=hone _ _ (Au none 0 0) (Au o3 st.sets.length c3)
   clear HR1 HE0 hr1 hg1 hg2 hg3 hn1 hn2 hn3 hs i1 i2 i3 i4 i5 i6 i7 hR hone
   rcases hm with rfl | rfl
   all_goals
    go_wp2_with (first | (go_at_call 96;go_fit HR2;rintro e w2 ⟨rfl,hb2⟩;have S2 :=S1.below hb2;have q5 :=Aa S2.stm (j :=5) rfl;have f5 :w2.frozen? ⟨w.heap.size+1,5,none⟩ =false :=by simp [World.frozen?,S2.stm]) | (refine wpList_load_row rfl 36 _ rfl (w.heap.size+1) ?_ 36 (sA st.kind st.name st.table st.col (.slice o1 st.cols.length c1) (.slice none 0 0) (.slice o3 st.sets.length c3) (.slice o4 st.frm.length c4) (.slice o5 st.out.length c5) op xk xn xs s nmv n8 (.slice o6 k6 c6) (.slice o7 st.order.length c7) st.down st.n) (0,0) _ ?_ Tryz.underlying36 ?_ ?_ ?_;exact rfl;exact (S2.set 5 (.slice none 0 0)).stm;exact rfl;exact Am) | (refine wpList_store_row rfl 36 _ _ rfl (w.heap.size+1+1) (sA st.kind st.name st.table st.col (.slice o1 st.cols.length c1) (.slice none 0 0) (.slice o3 st.sets.length c3) (.slice o4 st.frm.length c4) (.slice o5 st.out.length c5) op xk xn xs s nmv n8 (.slice o6 k6 c6) (.slice o7 st.order.length c7) st.down st.n) ?_ ?_ 36 Ah ?_ ?_ ?_ ?_ ?_;exact rfl;exact rfl;exact (S2.set 5 (.slice none 0 0)).room;exact Am;exact rfl;exact h1))
    refine bodyPost_ret (A2 Tryz.results58 _ _ (w.heap.size+1+1) 36 (sA st.kind st.name st.table st.col (.slice o1 st.cols.length c1) (.slice none 0 0) (.slice o3 st.sets.length c3) (.slice o4 st.frm.length c4) (.slice o5 st.out.length c5) op xk xn xs s nmv n8 (.slice o6 k6 c6) (.slice o7 st.order.length c7) st.down st.n) _ _ _ rfl rfl (An (S2.set 5 (.slice none 0 0)).room) Tryz.underlying36 rfl Am) rfl ⟨⟨_,rfl, ?_⟩,Below.row (S2.set 5 (.slice none 0 0)).bel (by omega) _⟩
    refine ⟨_,rfl,h1, ?_⟩
    rw [HE.out]
    rfl
  ·have HR2 :=HR1.mono (R' :=fun e w'=> ∃ (ao :Option Addr) (k c :Nat),e= .returned (.tuple #[.slice ao k c, .int .i64 0]) ∧IsL Ds (Fx C (w.heap.size+3)) w' (.slice ao k c) rows2∧Below W1.heap.size W1 w') (by
    rintro e w' ⟨⟨v,rfl,hv⟩,hb'⟩
    rw [hr1] at hv
    obtain ⟨ao,k,c,rfl,hL⟩ :=hv
    exact ⟨ao,k,c,rfl,hL.mono (fun k _ hk=> .inr (Nat.le_trans (by have :=S1.big;have :=S1.pt3;omega) hk)),hb'⟩)
   rw [hr1] at HE0
   simp only at HE0
   clear HR1 hr1 hg1 hn1 hn2 i2
   go_upto_region 8 with (first | (go_at_call 96;go_fit HR2;rintro e w2 ⟨aor,kr,cr,rfl,hLr,hb2⟩;have S2 :=S1.below hb2;have q5 :=Aa S2.stm (j :=5) rfl;have f5 :w2.frozen? ⟨w.heap.size+1,5,none⟩ =false :=by simp [World.frozen?,S2.stm]))
   have S3 :ChSt w (w2.setCell ⟨w.heap.size+1,5,none⟩ (.slice aor kr cr)) (sA st.kind st.name st.table st.col (.slice o1 st.cols.length c1) (.slice aor kr cr) (.slice o3 st.sets.length c3) (.slice o4 st.frm.length c4) (.slice o5 st.out.length c5) op xk xn xs s nmv n8 (.slice o6 k6 c6) (.slice o7 st.order.length c7) st.down st.n) t.name (.slice ao2 n2 c2') pt :=S2.set 5 (.slice aor kr cr)
   have hLr3 :=hLr.keep (Ex hC 5 (.slice aor kr cr))
   have hcL3 :IsL Bg (fun k=>k<C) (w2.setCell ⟨w.heap.size+1,5,none⟩ (.slice aor kr cr)) (.slice ao2 n2 c2') t.cols := (hcL1.keep (Ar hb2)).keep ((Keeps.refl _ _).set (by intro h;have :w.heap.size+1<C :=h;omega) _ _)
   generalize w2.setCell ⟨w.heap.size+1,5,none⟩ (.slice aor kr cr) =W3 at S3 hLr3 hcL3⊢
   clear S1 S2 hb2 hLr hcL1 hbC j2 q5 f5 a5 p0 p1 HR2
   have j3 :=i3.keep (Ag (S3.bel.mono hC))
   have HS1 :=Q5 t.name t.cols (.slice ao2 n2 c2') 40 st.sets (.slice o3 st.sets.length c3) C W3 j3 hcL3 (Nat.le_trans hC S3.bel.size) hg2 hn3 hs hct
   have a6 :=Aa S3.stm (j :=6) rfl
   have p0 :=Aa S3.tab (j :=0) rfl
   have p1 :=Aa S3.tab (j :=1) rfl
   rcases hr2 :Bq t [] st.sets with m | sets2
   ·have hm :=Ls hr2
    have HE :Hid (Cz ct st= .error m) :=by show _=_;rw [HE0.out,hr2]
    have HS2 :=HS1.mono (R' :=fun e w'=>e= .returned (.tuple #[.slice none 0 0, .int .i64 m]) ∧Below W3.heap.size W3 w') (by
     rintro e w' ⟨⟨v,rfl,hv⟩,hb'⟩
     rw [hr2] at hv
     obtain rfl :=hv
     exact ⟨rfl,hb'⟩)
    have h1 :=hone _ _ (Au aor kr cr) (Au none 0 0)
    clear HS1 HE0 hr2 hg2 hg3 hn3 hs i1 i3 i4 i5 i6 i7 hR hone hLr3 j3
    rcases hm with rfl | rfl | rfl
    all_goals
     go_wp2_with (first | (go_at_call 97;go_fit HS2;rintro e w4 ⟨rfl,hb4⟩;have S4 :=S3.below hb4;have q6 :=Aa S4.stm (j :=6) rfl;have f6 :w4.frozen? ⟨w.heap.size+1,6,none⟩ =false :=by simp [World.frozen?,S4.stm]) | (refine wpList_load_row rfl 36 _ rfl (w.heap.size+1) ?_ 36 (sA st.kind st.name st.table st.col (.slice o1 st.cols.length c1) (.slice aor kr cr) (.slice none 0 0) (.slice o4 st.frm.length c4) (.slice o5 st.out.length c5) op xk xn xs s nmv n8 (.slice o6 k6 c6) (.slice o7 st.order.length c7) st.down st.n) (0,0) _ ?_ Tryz.underlying36 ?_ ?_ ?_;exact rfl;exact (S4.set 6 (.slice none 0 0)).stm;exact rfl;exact Am) | (refine wpList_store_row rfl 36 _ _ rfl (w.heap.size+1+1) (sA st.kind st.name st.table st.col (.slice o1 st.cols.length c1) (.slice aor kr cr) (.slice none 0 0) (.slice o4 st.frm.length c4) (.slice o5 st.out.length c5) op xk xn xs s nmv n8 (.slice o6 k6 c6) (.slice o7 st.order.length c7) st.down st.n) ?_ ?_ 36 Ah ?_ ?_ ?_ ?_ ?_;exact rfl;exact rfl;exact (S4.set 6 (.slice none 0 0)).room;exact Am;exact rfl;exact h1))
     refine bodyPost_ret (A2 Tryz.results58 _ _ (w.heap.size+1+1) 36 (sA st.kind st.name st.table st.col (.slice o1 st.cols.length c1) (.slice aor kr cr) (.slice none 0 0) (.slice o4 st.frm.length c4) (.slice o5 st.out.length c5) op xk xn xs s nmv n8 (.slice o6 k6 c6) (.slice o7 st.order.length c7) st.down st.n) _ _ _ rfl rfl (An (S4.set 6 (.slice none 0 0)).room) Tryz.underlying36 rfl Am) rfl ⟨⟨_,rfl, ?_⟩,Below.row (S4.set 6 (.slice none 0 0)).bel (by omega) _⟩
     refine ⟨_,rfl,h1, ?_⟩
     rw [HE.out]
     rfl
   ·have HS2 :=HS1.mono (R' :=fun e w'=> ∃ (ao :Option Addr) (k c :Nat),e= .returned (.tuple #[.slice ao k c, .int .i64 0]) ∧IsL C5 (Fx C (w.heap.size+3)) w' (.slice ao k c) sets2∧Below W3.heap.size W3 w') (by
     rintro e w' ⟨⟨v,rfl,hv⟩,hb'⟩
     rw [hr2] at hv
     obtain ⟨ao,k,c,rfl,hL⟩ :=hv
     exact ⟨ao,k,c,rfl,hL.mono (fun k _ hk=> .inr (Nat.le_trans (by have :=S3.big;have :=S3.pt3;omega) hk)),hb'⟩)
    rw [hr2] at HE0
    simp only at HE0
    clear HS1 hr2 hg2 hn3 i3 hs j3
    go_upto_region 11 with (first | (go_at_call 97;go_fit HS2;rintro e w4 ⟨aos,ks,cs',rfl,hLs,hb4⟩;have S4 :=S3.below hb4;have q6 :=Aa S4.stm (j :=6) rfl;have f6 :w4.frozen? ⟨w.heap.size+1,6,none⟩ =false :=by simp [World.frozen?,S4.stm]))
    have S5 :ChSt w (w4.setCell ⟨w.heap.size+1,6,none⟩ (.slice aos ks cs')) (sA st.kind st.name st.table st.col (.slice o1 st.cols.length c1) (.slice aor kr cr) (.slice aos ks cs') (.slice o4 st.frm.length c4) (.slice o5 st.out.length c5) op xk xn xs s nmv n8 (.slice o6 k6 c6) (.slice o7 st.order.length c7) st.down st.n) t.name (.slice ao2 n2 c2') pt :=S4.set 6 (.slice aos ks cs')
    have hLs5 :=hLs.keep (Ex hC 6 (.slice aos ks cs'))
    have hLr5 := (hLr3.keep (Ar hb4)).keep (Ex hC 6 (.slice aos ks cs'))
    have hcL5 :IsL Bg (fun k=>k<C) (w4.setCell ⟨w.heap.size+1,6,none⟩ (.slice aos ks cs')) (.slice ao2 n2 c2') t.cols := (hcL3.keep (Ar hb4)).keep ((Keeps.refl _ _).set (by intro h;have :w.heap.size+1<C :=h;omega) _ _)
    generalize w4.setCell ⟨w.heap.size+1,6,none⟩ (.slice aos ks cs') =W5 at S5 hLs5 hLr5 hcL5⊢
    clear S3 S4 hb4 hLs hLr3 hcL3 q6 f6 a6 p0 p1 HS2
    have HWT :Below W5.heap.size W5 (W5.alloc (.cells #[.string t.name, .slice ao2 n2 c2'] 47)) :=Aq _ _
    have S5T :=S5.below HWT
    have j6 :=IsE.keep (Ag (S5T.bel.mono hC)) _ _ i6
    have hsz5 :w.heap.size+3≤ (W5.alloc (.cells #[.string t.name, .slice ao2 n2 c2'] 47)).heap.size :=by have :=S5T.big;have :=S5T.pt3;omega
    have HW1 :=Kq [⟨t.name,t.cols⟩] (show 1≤1000 by decide) (by simpa using hct) 40 st.wher _ (.slice (some ⟨W5.heap.size,0,none⟩) 1 1) C _ (W5.alloc (.cells #[.string t.name, .slice ao2 n2 c2'] 47)) j6 (Ox (Ab W5 _) ((hcL5.keep (Ar HWT)).mono (fun k hk _=>hk))) (Nat.le_trans hC S5T.bel.size) (Nat.le_refl _) hg3
    have p0 :=Aa S5.tab (j :=0) rfl
    have p1 :=Aa S5.tab (j :=1) rfl
    have a9 :=Aa S5T.stm (j :=9) rfl
    have a10 :=Aa S5T.stm (j :=10) rfl
    have a11 :=Aa S5T.stm (j :=11) rfl
    have a12 :=Aa S5T.stm (j :=12) rfl
    have a13 :=Aa S5T.stm (j :=13) rfl
    have a14 :=Aa S5T.stm (j :=14) rfl
    have a15 :=Aa S5T.stm (j :=15) rfl
    have a16 :=Aa S5T.stm (j :=16) rfl
    have HW2 :=HW1.mono (R' :=fun r w'=> ∃ (op :Int) (x :V) (s name :Wd) (n :Int) (ao :Option Addr) (k c :Nat) (z :Int),r= .returned (.tuple #[.agg (Ad op x s name n (.slice ao k c)), .int .i64 z]) ∧ (match whR [⟨t.name,t.cols⟩] st.wher with | .error m=>z=m | .ok e=>z=0∧IsE (Fx C (w.heap.size+3)) w' e (.agg (Ad op x s name n (.slice ao k c)))) ∧Below (W5.alloc (.cells #[.string t.name, .slice ao2 n2 c2'] 47)).heap.size (W5.alloc (.cells #[.string t.name, .slice ao2 n2 c2'] 47)) w') (by
     rintro r w' ⟨⟨v,rfl,hv⟩,hb'⟩
     cases hr :whR [⟨t.name,t.cols⟩] st.wher with
     | error m=>
      rw [hr] at hv
      obtain rfl :=hv
      exact ⟨0,zero,noW,noW,0,none,0,0,m,rfl,rfl,hb'⟩
     | ok e2=>
      rw [hr] at hv
      obtain ⟨op,x,s,name,n,ao,k,c,rfl,hE'⟩ :=hv
      exact ⟨op,x,s,name,n,ao,k,c,0,rfl,⟨rfl,IsE.mono (fun k _ hk=>hk.imp id (fun h=>Nat.le_trans hsz5 h)) _ _ hE'⟩,hb'⟩)
    have HE1 :Hid (Cz ct st=match whR [⟨t.name,t.cols⟩] st.wher with
       | .error m=> .error m
       | .ok wh=> .ok {st with rows :=rows2,sets :=sets2,wher :=wh}) :=HE0.out
    generalize whR [⟨t.name,t.cols⟩] st.wher=RW at HW2 HE1
    clear HW1 HE0 hg3
    go_wp2_with (first | (go_at_call 98;refine HW2.mono ?_;rintro r w6 ⟨op2,x2,s2,name2,n2',ao3,k3,c3',z,rfl,hAns,hb6⟩;obtain ⟨x2k,x2n,x2s⟩ :=x2;have S6 :=S5T.below hb6;have hone8 :=A8 op2 ⟨x2k,x2n,x2s⟩ s2 name2 n2' ao3 k3 c3';have mt :w6.there (w.heap.size+1) 9 8 :=Pk S6.stm;have S7 :=S6.wher op2 x2k x2n x2s s2 name2 n2' (.slice ao3 k3 c3');have h1 : (sA st.kind st.name st.table st.col (.slice o1 st.cols.length c1) (.slice aor kr cr) (.slice aos ks cs') (.slice o4 st.frm.length c4) (.slice o5 st.out.length c5) op2 x2k x2n x2s s2 name2 n2' (.slice ao3 k3 c3') (.slice o7 st.order.length c7) st.down st.n).all (·.oneCell') =true :=Dq (Au _ _ _) (Au _ _ _) (Au _ _ _) (Au _ _ _) (Au _ _ _) (Au _ _ _) (Au _ _ _)) | (refine wpList_store_mid rfl 34 _ _ rfl (w.heap.size+1) 9 (Ad op2 ⟨x2k,x2n,x2s⟩ s2 name2 n2' (.slice ao3 k3 c3')) ?_ ?_ ?_ ?_ ?_ ?_;exact rfl;exact rfl;exact mt;exact Ai;exact hone8) | (refine wpList_load_row rfl 36 _ rfl (w.heap.size+1) ?_ 36 (sA st.kind st.name st.table st.col (.slice o1 st.cols.length c1) (.slice aor kr cr) (.slice aos ks cs') (.slice o4 st.frm.length c4) (.slice o5 st.out.length c5) op2 x2k x2n x2s s2 name2 n2' (.slice ao3 k3 c3') (.slice o7 st.order.length c7) st.down st.n) (0,0) _ ?_ Tryz.underlying36 ?_ ?_ ?_;exact rfl;exact S7.stm;exact rfl;exact Am) | (refine wpList_store_row rfl 36 _ _ rfl (w.heap.size+1+1) (sA st.kind st.name st.table st.col (.slice o1 st.cols.length c1) (.slice aor kr cr) (.slice aos ks cs') (.slice o4 st.frm.length c4) (.slice o5 st.out.length c5) op2 x2k x2n x2s s2 name2 n2' (.slice ao3 k3 c3') (.slice o7 st.order.length c7) st.down st.n) ?_ ?_ 36 Ah ?_ ?_ ?_ ?_ ?_;exact rfl;exact rfl;exact S7.room;exact Am;exact rfl;exact h1))
    refine bodyPost_ret (A2 Tryz.results58 _ _ (w.heap.size+1+1) 36 (sA st.kind st.name st.table st.col (.slice o1 st.cols.length c1) (.slice aor kr cr) (.slice aos ks cs') (.slice o4 st.frm.length c4) (.slice o5 st.out.length c5) op2 x2k x2n x2s s2 name2 n2' (.slice ao3 k3 c3') (.slice o7 st.order.length c7) st.down st.n) _ _ _ rfl rfl (An S7.room) Tryz.underlying36 rfl Am) rfl ⟨⟨_,rfl, ?_⟩,Below.row S7.bel (by omega) _⟩
    refine ⟨_,rfl,h1, ?_⟩
    rw [HE1.out]
    cases RW with
    | error m=>
     obtain rfl :=hAns
     rfl
    | ok wh=>
     obtain ⟨rfl,hE6⟩ :=hAns
     refine ⟨rfl, ?_⟩
     have hF1 : ¬Fx C (w.heap.size+3) (w.heap.size+1) :=by intro h;rcases h with h | h<;>omega
     have hF2 : ¬Fx C (w.heap.size+3) (w.heap.size+1+1) :=by intro h;rcases h with h | h<;>omega
     have hK :Keeps (Fx C (w.heap.size+3)) w6 ((w6.setCells (w.heap.size+1) 9 (Ad op2 ⟨x2k,x2n,x2s⟩ s2 name2 n2' (.slice ao3 k3 c3')).toList).setRow (w.heap.size+1+1) (sA st.kind st.name st.table st.col (.slice o1 st.cols.length c1) (.slice aor kr cr) (.slice aos ks cs') (.slice o4 st.frm.length c4) (.slice o5 st.out.length c5) op2 x2k x2n x2s s2 name2 n2' (.slice ao3 k3 c3') (.slice o7 st.order.length c7) st.down st.n)) := (Fs hF1 _ _ _).row hF2 _
     have hKC :Keeps (fun k=>k<C) w ((w6.setCells (w.heap.size+1) 9 (Ad op2 ⟨x2k,x2n,x2s⟩ s2 name2 n2' (.slice ao3 k3 c3')).toList).setRow (w.heap.size+1+1) (sA st.kind st.name st.table st.col (.slice o1 st.cols.length c1) (.slice aor kr cr) (.slice aos ks cs') (.slice o4 st.frm.length c4) (.slice o5 st.out.length c5) op2 x2k x2n x2s s2 name2 n2' (.slice ao3 k3 c3') (.slice o7 st.order.length c7) st.down st.n)) :=Ag ((Below.row S7.bel (by omega) _).mono hC)
     have hM : ∀k,Fx C (w.heap.size+3) k→Fx C w.heap.size k :=fun k h=>h.imp id (fun h=>Nat.le_trans (by omega) h)
     exact I1 ((i1.keep hKC).mono (fun k _ h=> .inl h)) (((hLr5.keep (Ar (Ak HWT hb6))).keep hK).mono (fun k _ h=>hM k h)) (((hLs5.keep (Ar (Ak HWT hb6))).keep hK).mono (fun k _ h=>hM k h)) ((i4.keep hKC).mono (fun k _ h=> .inl h)) ((i5.keep hKC).mono (fun k _ h=> .inl h)) (IsE.mono (fun k _ h=>hM k h) _ _ (IsE.keep hK _ _ hE6)) ((i7.keep hKC).mono (fun k _ h=> .inl h))
end Go.Proofs.YtmgkcjiejmhgcaaGreatDoor

