/-
  2 texts of this proof in one, in build order: YChange, YSelect.
-/
import Derived.Test.YthehiijgnepcfaaGreatJ23
set_option linter.unusedSimpArgs false
set_option linter.unusedVariables false
namespace Go.Proofs.YthehiijgnepcfaaGreat
open Go.RowKit Go.Maps
def Dh (ct :CatD) (st :Stm) :Except Int Stm :=
 match Cr ct.tables st.table with
 | none=> .error 3
 | some t=>match Ix t.cols st.rows with
  | .error m=> .error m
  | .ok rows=>match Bs t [] st.sets with
   | .error m=> .error m
   | .ok sets=>match whR [t] st.wher with
    | .error m=> .error m
    | .ok wh=> .ok {st with rows :=rows,sets :=sets,wher :=wh}
def Xc (R :Except Int Stm) (F :Nat→Prop) (w' :World) (v :Value) :Prop :=
 ∃arr :Array Value,arr.size=20∧arr.all (·.oneCell') =true∧match R with
 | .error m=>v= .tuple #[.agg arr, .int .i64 m]
 | .ok st=>v= .tuple #[.agg arr, .int .i64 0] ∧Akj.R F w' st arr.toList
structure ChSt (w :World) (W :World) (arr :Array Value) (tn :Wd) (cv :Value) (pt :Nat) :Prop where
 stm :W.heap[w.heap.size+1]? =some (.cells arr 36)
 room :W.heap[w.heap.size+1+1]? =some (.cells Ai 36)
 tab :W.heap[pt]? =some (.cells #[.string tn,cv] 43)
 bel :Below w.heap.size w W
 pt3 :w.heap.size+3≤pt
 big :pt<W.heap.size
theorem ChSt.below {w W W' :World} {arr :Array Value} {tn :Wd} {cv :Value} {pt :Nat} (h :ChSt w W arr tn cv pt) (hb :Below W.heap.size W W') :ChSt w W' arr tn cv pt :=
 ⟨(hb.block _ (by have :=h.big;have :=h.pt3;omega)).trans h.stm,(hb.block _ (by have :=h.big;have :=h.pt3;omega)).trans h.room,(hb.block _ h.big).trans h.tab,h.bel.trans (hb.mono h.bel.size),h.pt3,Nat.lt_of_lt_of_le h.big hb.size⟩
theorem ChSt.set {w W :World} {arr :Array Value} {tn :Wd} {cv :Value} {pt :Nat} (h :ChSt w W arr tn cv pt) (i :Nat) (v :Value) :ChSt w (W.setCell ⟨w.heap.size+1,i,none⟩ v) (arr.setIfInBounds i v) tn cv pt :=
 ⟨upd h.stm i v,(Below.heap_setCell _ _ _ _ (by simp)).trans h.room,(Below.heap_setCell _ _ _ _ (by have :=h.pt3;simp;omega)).trans h.tab,h.bel.setCell (show w.heap.size≤w.heap.size+1 by omega) _,h.pt3,by simpa using h.big⟩
theorem Fy {C :Nat} {w W :World} (hC :C≤w.heap.size) (i :Nat) (v :Value) :Keeps (Fx C (w.heap.size+3)) W (W.setCell ⟨w.heap.size+1,i,none⟩ v) := (Keeps.refl _ _).set (by intro h;rcases h with h | h<;>omega) _ _
theorem ChSt.wher {w W :World} {kind :Int} {name table col :Wd} {cols rows sets frm out :Value} {op xk xn :Int} {xs s nmv :Wd} {n8 :Int} {sl order :Value} {down :Bool} {n :Int} {tn :Wd} {cv :Value} {pt :Nat} (h :ChSt w W (sA kind name table col cols rows sets frm out op xk xn xs s nmv n8 sl order down n) tn cv pt) (op' xk' xn' :Int) (xs' s' nmv' :Wd) (n8' :Int) (sl' :Value) :
  ChSt w (W.setCells (w.heap.size+1) 9 (Ae op' ⟨xk',xn',xs'⟩ s' nmv' n8' sl').toList) (sA kind name table col cols rows sets frm out op' xk' xn' xs' s' nmv' n8' sl' order down n) tn cv pt :=by
 have g := (((((((h.set 9 (.int .i64 op')).set 10 (.int .i64 xk')).set 11 (.int .i64 xn')).set 12 (.string xs')).set 13 (.string s')).set 14 (.string nmv')).set 15 (.int .i64 n8')).set 16 sl'
 simp only [List.setIfInBounds_toArray,List.set_cons_succ,List.set_cons_zero] at g
 exact g
theorem Uj {W :World} {g :Nat} {kind :Int} {name table col :Wd} {cols rows sets frm out :Value} {op xk xn :Int} {xs s nmv :Wd} {n8 :Int} {sl order :Value} {down :Bool} {n :Int} {t :TypeId} (h :W.heap[g]? =some (.cells (sA kind name table col cols rows sets frm out op xk xn xs s nmv n8 sl order down n) t)) :W.there g 9 8 :=by
 intro j hj
 refine ⟨?_,by simp [World.frozen?,h]⟩
 rcases (show j=0∨j=1∨j=2∨j=3∨j=4∨j=5∨j=6∨j=7 by omega) with rfl | rfl | rfl | rfl | rfl | rfl | rfl | rfl
 all_goals (rw [Aa h rfl];rfl)
theorem Ok {t :TabD} : ∀ {seen :List Wd} {l :List (Wd×E)} {m :Int},Bs t seen l= .error m→m=3∨m=4∨m=5
 | seen,[],m,h=>by simp [Bs] at h
 | seen,x ::l,m,h=>by
  simp only [Bs] at h
  cases hx :Jd t seen x with
  | error j=>
   rw [hx] at h
   obtain rfl :=Except.error.inj h
   exact Aez hx
  | ok r=>
   rw [hx] at h
   simp only at h
   cases hl :Bs t (seen++ [x.1]) l with
   | error j=>
    rw [hl] at h
    obtain rfl :=Except.error.inj h
    exact Ok hl
   | ok rs=>rw [hl] at h;cases h
set_option maxRecDepth 100000 in
set_option maxHeartbeats 8000000 in
theorem Ti (ct :CatD) (cv :Value) (st :Stm) (cs :List Value) (C :Nat) (w :World) (hc :Cz (fun k=>k<C) w ct cv) (hR :Akj.R (fun k=>k<C) w st cs) (hC :C≤w.heap.size)
  (hg1 : ∀r∈st.rows,∀a∈r,geB 40 a=true) (hg2 : ∀p∈st.sets,geB 40 p.2=true) (hg3 :st.wher.opn≠0→geB 40 st.wher=true)
  (hn1 :st.rows.length≤16777216) (hn2 : ∀r∈st.rows,r.length≤16777216) (hn3 :st.sets.length≤16777216) (hs : ∀p∈st.sets,p.1.size≤maxLen) (hcl : ∀t∈ct.tables,t.cols.length≤1000000) :
  Calls Tryz.prog 49 #[cv, .agg cs.toArray] w fun r w'=> (∃u,r= .returned u∧Xc (Dh ct st) (Fx C w.heap.size) w' u) ∧Below w.heap.size w w' :=by
 obtain ⟨o1,c1,o2,c2,o3,c3,o4,c4,o5,c5,op,xk,xn,xs,s,nmv,n8,o6,k6,c6,o7,c7,rfl,i1,i2,i3,i4,i5,i6,i7⟩ :=Er hR
 obtain ⟨tv,iv,rfl,htl,hil⟩ :=hc
 have hsl :=Ge hil
 have hb3 :=Cb w (.cells #[tv,iv] 25) (.cells (sA st.kind st.name st.table st.col (.slice o1 st.cols.length c1) (.slice o2 st.rows.length c2) (.slice o3 st.sets.length c3) (.slice o4 st.frm.length c4) (.slice o5 st.out.length c5) op xk xn xs s nmv n8 (.slice o6 k6 c6) (.slice o7 st.order.length c7) st.down st.n) 36) (.cells Ai 36)
 have hB1 :=Ac (Aq w (.cells #[tv,iv] 25) (.cells (sA st.kind st.name st.table st.col (.slice o1 st.cols.length c1) (.slice o2 st.rows.length c2) (.slice o3 st.sets.length c3) (.slice o4 st.frm.length c4) (.slice o5 st.out.length c5) op xk xn xs s nmv n8 (.slice o6 k6 c6) (.slice o7 st.order.length c7) st.down st.n) 36)) (.cells Ai 36)
 have hB2 :=A6 w (.cells #[tv,iv] 25) (.cells (sA st.kind st.name st.table st.col (.slice o1 st.cols.length c1) (.slice o2 st.rows.length c2) (.slice o3 st.sets.length c3) (.slice o4 st.frm.length c4) (.slice o5 st.out.length c5) op xk xn xs s nmv n8 (.slice o6 k6 c6) (.slice o7 st.order.length c7) st.down st.n) 36) (.cells Ai 36)
 have hlt1 :=lt_of_block hB1
 have hlt2 :=lt_of_block hB2
 have hone : ∀rv sv,E1 rv→E1 sv→ (sA st.kind st.name st.table st.col (.slice o1 st.cols.length c1) rv sv (.slice o4 st.frm.length c4) (.slice o5 st.out.length c5) op xk xn xs s nmv n8 (.slice o6 k6 c6) (.slice o7 st.order.length c7) st.down st.n).all (·.oneCell') =true :=fun rv sv h1 h2=>E8 (Al _ _ _) h1 h2 (Al _ _ _) (Al _ _ _) (Al _ _ _) (Al _ _ _)
 rcases htab :Cr ct.tables st.table with _ | t
 ·have HE :Hid (Dh ct st= .error 3) :=by show _=_;unfold Dh;rw [htab]
  have HF :=Fp htab tv iv hsl C _ (htl.keep (Af (hb3.mono hC))) (Nat.le_trans hC hb3.size)
  have h1 :=hone _ _ (Al o2 st.rows.length c2) (Al o3 st.sets.length c3)
  clear htl hil htab hg1 hg2 hg3 hn1 hn2 hn3 hs i1 i2 i3 i4 i5 i6 i7 hR hone
  go_enter Tryz.func49,Tryz.ntmps49
  go_wp2_with (first | (go_at_call 6;go_fit HF;rintro e w1 ⟨rfl,hb1⟩;have y1 :=Ac ((hb1.block _ hlt1).trans hB1) (.cells #[.string noW, .slice none 0 0] 43);have y2 :=Ac ((hb1.block _ hlt2).trans hB2) (.cells #[.string noW, .slice none 0 0] 43);have hbT := (Ad hb3 hb1).alloc (Ad hb3 hb1).size (.cells #[.string noW, .slice none 0 0] 43)) | (refine wpList_load_row rfl 36 _ rfl (w.heap.size+1) ?_ 36 (sA st.kind st.name st.table st.col (.slice o1 st.cols.length c1) (.slice o2 st.rows.length c2) (.slice o3 st.sets.length c3) (.slice o4 st.frm.length c4) (.slice o5 st.out.length c5) op xk xn xs s nmv n8 (.slice o6 k6 c6) (.slice o7 st.order.length c7) st.down st.n) (0,0) _ ?_ Tryz.underlying36 ?_ ?_ ?_;exact rfl;exact y1;exact rfl;exact Ak) | (refine wpList_store_row rfl 36 _ _ rfl (w.heap.size+1+1) (sA st.kind st.name st.table st.col (.slice o1 st.cols.length c1) (.slice o2 st.rows.length c2) (.slice o3 st.sets.length c3) (.slice o4 st.frm.length c4) (.slice o5 st.out.length c5) op xk xn xs s nmv n8 (.slice o6 k6 c6) (.slice o7 st.order.length c7) st.down st.n) ?_ ?_ 36 Ai ?_ ?_ ?_ ?_ ?_;exact rfl;exact rfl;exact y2;exact Ak;exact rfl;exact h1))
  refine bodyPost_ret (A2 Tryz.results49 _ _ (w.heap.size+1+1) 36 (sA st.kind st.name st.table st.col (.slice o1 st.cols.length c1) (.slice o2 st.rows.length c2) (.slice o3 st.sets.length c3) (.slice o4 st.frm.length c4) (.slice o5 st.out.length c5) op xk xn xs s nmv n8 (.slice o6 k6 c6) (.slice o7 st.order.length c7) st.down st.n) _ _ _ rfl rfl (Au y2) Tryz.underlying36 rfl Ak) rfl ⟨⟨_,rfl, ?_⟩,Below.row hbT (by omega) _⟩
  refine ⟨_,rfl,h1, ?_⟩
  rw [HE.out]
  rfl
 ·have HF :=Ev htab tv iv hsl C _ (htl.keep (Af (hb3.mono hC))) (Nat.le_trans hC hb3.size)
  have hct :=hcl t (List.mem_of_find?_eq_some htab)
  have HE0 :Hid (Dh ct st=match Ix t.cols st.rows with
   | .error m=> .error m
   | .ok rows=>match Bs t [] st.sets with
    | .error m=> .error m
    | .ok sets=>match whR [t] st.wher with
     | .error m=> .error m
     | .ok wh=> .ok {st with rows :=rows,sets :=sets,wher :=wh}) :=by show _=_;unfold Dh;rw [htab]
  clear htl hil htab
  go_enter Tryz.func49,Tryz.ntmps49
  go_upto_region 5 with (first | (go_at_call 6;go_fit HF;rintro e w1 ⟨ao2,n2,c2',rfl,hcL,hb1⟩))
  have S1 :ChSt w (w1.alloc (.cells #[.string t.name, .slice ao2 n2 c2'] 43)) (sA st.kind st.name st.table st.col (.slice o1 st.cols.length c1) (.slice o2 st.rows.length c2) (.slice o3 st.sets.length c3) (.slice o4 st.frm.length c4) (.slice o5 st.out.length c5) op xk xn xs s nmv n8 (.slice o6 k6 c6) (.slice o7 st.order.length c7) st.down st.n) t.name (.slice ao2 n2 c2') w1.heap.size := ⟨Ac ((hb1.block _ hlt1).trans hB1) _,Ac ((hb1.block _ hlt2).trans hB2) _,Ab _ _,(Ad hb3 hb1).alloc (Ad hb3 hb1).size _,by have :=hb1.size;simp at this;omega,by simp⟩
  have hcL1 :=hcL.keep (Bd (Ao w1 (.cells #[.string t.name, .slice ao2 n2 c2'] 43)))
  generalize hpt :w1.heap.size=pt at*
  generalize w1.alloc (.cells #[.string t.name, .slice ao2 n2 c2'] 43) =W1 at S1 hcL1⊢
  clear hB1 hB2 hlt1 hlt2 HF hb1 hcL hpt
  have hbC :=S1.bel.mono hC
  have j2 :=i2.keep (Af hbC)
  have HR1 :=W8 t.name t.cols (.slice ao2 n2 c2') 40 st.rows (.slice o2 st.rows.length c2) C W1 j2 hcL1 (Nat.le_trans hC S1.bel.size) hg1 (by omega) (fun r hr=>Nat.le_trans (hn2 r hr) (by decide))
  have a5 :=Aa S1.stm (j :=5) rfl
  have p0 :=Aa S1.tab (j :=0) rfl
  have p1 :=Aa S1.tab (j :=1) rfl
  rcases hr1 :Ix t.cols st.rows with m | rows2
  ·have hm :=Ui hr1
   have HE :Hid (Dh ct st= .error m) :=by show _=_;rw [HE0.out,hr1]
   have HR2 :=HR1.mono (R' :=fun e w'=>e= .returned (.tuple #[.slice none 0 0, .int .i64 m]) ∧Below W1.heap.size W1 w') (by
    rintro e w' ⟨⟨v,rfl,hv⟩,hb'⟩
    rw [hr1] at hv
    obtain rfl :=hv
    exact ⟨rfl,hb'⟩)
   have h1 :=hone _ _ (Al none 0 0) (Al o3 st.sets.length c3)
   clear HR1 HE0 hr1 hg1 hg2 hg3 hn1 hn2 hn3 hs i1 i2 i3 i4 i5 i6 i7 hR hone
   rcases hm with rfl | rfl
   all_goals
    go_wp2_with (first | (go_at_call 91;go_fit HR2;rintro e w2 ⟨rfl,hb2⟩;have S2 :=S1.below hb2;have q5 :=Aa S2.stm (j :=5) rfl;have f5 :w2.frozen? ⟨w.heap.size+1,5,none⟩ =false :=by simp [World.frozen?,S2.stm]) | (refine wpList_load_row rfl 36 _ rfl (w.heap.size+1) ?_ 36 (sA st.kind st.name st.table st.col (.slice o1 st.cols.length c1) (.slice none 0 0) (.slice o3 st.sets.length c3) (.slice o4 st.frm.length c4) (.slice o5 st.out.length c5) op xk xn xs s nmv n8 (.slice o6 k6 c6) (.slice o7 st.order.length c7) st.down st.n) (0,0) _ ?_ Tryz.underlying36 ?_ ?_ ?_;exact rfl;exact (S2.set 5 (.slice none 0 0)).stm;exact rfl;exact Ak) | (refine wpList_store_row rfl 36 _ _ rfl (w.heap.size+1+1) (sA st.kind st.name st.table st.col (.slice o1 st.cols.length c1) (.slice none 0 0) (.slice o3 st.sets.length c3) (.slice o4 st.frm.length c4) (.slice o5 st.out.length c5) op xk xn xs s nmv n8 (.slice o6 k6 c6) (.slice o7 st.order.length c7) st.down st.n) ?_ ?_ 36 Ai ?_ ?_ ?_ ?_ ?_;exact rfl;exact rfl;exact (S2.set 5 (.slice none 0 0)).room;exact Ak;exact rfl;exact h1))
    refine bodyPost_ret (A2 Tryz.results49 _ _ (w.heap.size+1+1) 36 (sA st.kind st.name st.table st.col (.slice o1 st.cols.length c1) (.slice none 0 0) (.slice o3 st.sets.length c3) (.slice o4 st.frm.length c4) (.slice o5 st.out.length c5) op xk xn xs s nmv n8 (.slice o6 k6 c6) (.slice o7 st.order.length c7) st.down st.n) _ _ _ rfl rfl (Au (S2.set 5 (.slice none 0 0)).room) Tryz.underlying36 rfl Ak) rfl ⟨⟨_,rfl, ?_⟩,Below.row (S2.set 5 (.slice none 0 0)).bel (by omega) _⟩
    refine ⟨_,rfl,h1, ?_⟩
    rw [HE.out]
    rfl
  ·have HR2 :=HR1.mono (R' :=fun e w'=> ∃ (ao :Option Addr) (k c :Nat),e= .returned (.tuple #[.slice ao k c, .int .i64 0]) ∧IsL Gi (Fx C (w.heap.size+3)) w' (.slice ao k c) rows2∧Below W1.heap.size W1 w') (by
    rintro e w' ⟨⟨v,rfl,hv⟩,hb'⟩
    rw [hr1] at hv
    obtain ⟨ao,k,c,rfl,hL⟩ :=hv
    exact ⟨ao,k,c,rfl,hL.mono (fun k _ hk=> .inr (Nat.le_trans (by have :=S1.big;have :=S1.pt3;omega) hk)),hb'⟩)
   rw [hr1] at HE0
   simp only at HE0
   clear HR1 hr1 hg1 hn1 hn2 i2
   go_upto_region 8 with (first | (go_at_call 91;go_fit HR2;rintro e w2 ⟨aor,kr,cr,rfl,hLr,hb2⟩;have S2 :=S1.below hb2;have q5 :=Aa S2.stm (j :=5) rfl;have f5 :w2.frozen? ⟨w.heap.size+1,5,none⟩ =false :=by simp [World.frozen?,S2.stm]))
   have S3 :ChSt w (w2.setCell ⟨w.heap.size+1,5,none⟩ (.slice aor kr cr)) (sA st.kind st.name st.table st.col (.slice o1 st.cols.length c1) (.slice aor kr cr) (.slice o3 st.sets.length c3) (.slice o4 st.frm.length c4) (.slice o5 st.out.length c5) op xk xn xs s nmv n8 (.slice o6 k6 c6) (.slice o7 st.order.length c7) st.down st.n) t.name (.slice ao2 n2 c2') pt :=S2.set 5 (.slice aor kr cr)
   have hLr3 :=hLr.keep (Fy hC 5 (.slice aor kr cr))
   have hcL3 :IsL Cc (fun k=>k<C) (w2.setCell ⟨w.heap.size+1,5,none⟩ (.slice aor kr cr)) (.slice ao2 n2 c2') t.cols := (hcL1.keep (Bd hb2)).keep ((Keeps.refl _ _).set (by intro h;have :w.heap.size+1<C :=h;omega) _ _)
   generalize w2.setCell ⟨w.heap.size+1,5,none⟩ (.slice aor kr cr) =W3 at S3 hLr3 hcL3⊢
   clear S1 S2 hb2 hLr hcL1 hbC j2 q5 f5 a5 p0 p1 HR2
   have j3 :=i3.keep (Af (S3.bel.mono hC))
   have HS1 :=W9 t.name t.cols (.slice ao2 n2 c2') 40 st.sets (.slice o3 st.sets.length c3) C W3 j3 hcL3 (Nat.le_trans hC S3.bel.size) hg2 hn3 hs hct
   have a6 :=Aa S3.stm (j :=6) rfl
   have p0 :=Aa S3.tab (j :=0) rfl
   have p1 :=Aa S3.tab (j :=1) rfl
   rcases hr2 :Bs t [] st.sets with m | sets2
   ·have hm :=Ok hr2
    have HE :Hid (Dh ct st= .error m) :=by show _=_;rw [HE0.out,hr2]
    have HS2 :=HS1.mono (R' :=fun e w'=>e= .returned (.tuple #[.slice none 0 0, .int .i64 m]) ∧Below W3.heap.size W3 w') (by
     rintro e w' ⟨⟨v,rfl,hv⟩,hb'⟩
     rw [hr2] at hv
     obtain rfl :=hv
     exact ⟨rfl,hb'⟩)
    have h1 :=hone _ _ (Al aor kr cr) (Al none 0 0)
    clear HS1 HE0 hr2 hg2 hg3 hn3 hs i1 i3 i4 i5 i6 i7 hR hone hLr3 j3
    rcases hm with rfl | rfl | rfl
    all_goals
     go_wp2_with (first | (go_at_call 92;go_fit HS2;rintro e w4 ⟨rfl,hb4⟩;have S4 :=S3.below hb4;have q6 :=Aa S4.stm (j :=6) rfl;have f6 :w4.frozen? ⟨w.heap.size+1,6,none⟩ =false :=by simp [World.frozen?,S4.stm]) | (refine wpList_load_row rfl 36 _ rfl (w.heap.size+1) ?_ 36 (sA st.kind st.name st.table st.col (.slice o1 st.cols.length c1) (.slice aor kr cr) (.slice none 0 0) (.slice o4 st.frm.length c4) (.slice o5 st.out.length c5) op xk xn xs s nmv n8 (.slice o6 k6 c6) (.slice o7 st.order.length c7) st.down st.n) (0,0) _ ?_ Tryz.underlying36 ?_ ?_ ?_;exact rfl;exact (S4.set 6 (.slice none 0 0)).stm;exact rfl;exact Ak) | (refine wpList_store_row rfl 36 _ _ rfl (w.heap.size+1+1) (sA st.kind st.name st.table st.col (.slice o1 st.cols.length c1) (.slice aor kr cr) (.slice none 0 0) (.slice o4 st.frm.length c4) (.slice o5 st.out.length c5) op xk xn xs s nmv n8 (.slice o6 k6 c6) (.slice o7 st.order.length c7) st.down st.n) ?_ ?_ 36 Ai ?_ ?_ ?_ ?_ ?_;exact rfl;exact rfl;exact (S4.set 6 (.slice none 0 0)).room;exact Ak;exact rfl;exact h1))
     refine bodyPost_ret (A2 Tryz.results49 _ _ (w.heap.size+1+1) 36 (sA st.kind st.name st.table st.col (.slice o1 st.cols.length c1) (.slice aor kr cr) (.slice none 0 0) (.slice o4 st.frm.length c4) (.slice o5 st.out.length c5) op xk xn xs s nmv n8 (.slice o6 k6 c6) (.slice o7 st.order.length c7) st.down st.n) _ _ _ rfl rfl (Au (S4.set 6 (.slice none 0 0)).room) Tryz.underlying36 rfl Ak) rfl ⟨⟨_,rfl, ?_⟩,Below.row (S4.set 6 (.slice none 0 0)).bel (by omega) _⟩
     refine ⟨_,rfl,h1, ?_⟩
     rw [HE.out]
     rfl
   ·have HS2 :=HS1.mono (R' :=fun e w'=> ∃ (ao :Option Addr) (k c :Nat),e= .returned (.tuple #[.slice ao k c, .int .i64 0]) ∧IsL Ei (Fx C (w.heap.size+3)) w' (.slice ao k c) sets2∧Below W3.heap.size W3 w') (by
     rintro e w' ⟨⟨v,rfl,hv⟩,hb'⟩
     rw [hr2] at hv
     obtain ⟨ao,k,c,rfl,hL⟩ :=hv
     exact ⟨ao,k,c,rfl,hL.mono (fun k _ hk=> .inr (Nat.le_trans (by have :=S3.big;have :=S3.pt3;omega) hk)),hb'⟩)
    rw [hr2] at HE0
    simp only at HE0
    clear HS1 hr2 hg2 hn3 i3 hs j3
    go_upto_region 11 with (first | (go_at_call 92;go_fit HS2;rintro e w4 ⟨aos,ks,cs',rfl,hLs,hb4⟩;have S4 :=S3.below hb4;have q6 :=Aa S4.stm (j :=6) rfl;have f6 :w4.frozen? ⟨w.heap.size+1,6,none⟩ =false :=by simp [World.frozen?,S4.stm]))
    have S5 :ChSt w (w4.setCell ⟨w.heap.size+1,6,none⟩ (.slice aos ks cs')) (sA st.kind st.name st.table st.col (.slice o1 st.cols.length c1) (.slice aor kr cr) (.slice aos ks cs') (.slice o4 st.frm.length c4) (.slice o5 st.out.length c5) op xk xn xs s nmv n8 (.slice o6 k6 c6) (.slice o7 st.order.length c7) st.down st.n) t.name (.slice ao2 n2 c2') pt :=S4.set 6 (.slice aos ks cs')
    have hLs5 :=hLs.keep (Fy hC 6 (.slice aos ks cs'))
    have hLr5 := (hLr3.keep (Bd hb4)).keep (Fy hC 6 (.slice aos ks cs'))
    have hcL5 :IsL Cc (fun k=>k<C) (w4.setCell ⟨w.heap.size+1,6,none⟩ (.slice aos ks cs')) (.slice ao2 n2 c2') t.cols := (hcL3.keep (Bd hb4)).keep ((Keeps.refl _ _).set (by intro h;have :w.heap.size+1<C :=h;omega) _ _)
    generalize w4.setCell ⟨w.heap.size+1,6,none⟩ (.slice aos ks cs') =W5 at S5 hLs5 hLr5 hcL5⊢
    clear S3 S4 hb4 hLs hLr3 hcL3 q6 f6 a6 p0 p1 HS2
    have HWT :Below W5.heap.size W5 (W5.alloc (.cells #[.string t.name, .slice ao2 n2 c2'] 43)) :=Ao _ _
    have S5T :=S5.below HWT
    have j6 :=IsE.keep (Af (S5T.bel.mono hC)) _ _ i6
    have hsz5 :w.heap.size+3≤ (W5.alloc (.cells #[.string t.name, .slice ao2 n2 c2'] 43)).heap.size :=by have :=S5T.big;have :=S5T.pt3;omega
    have HW1 :=Nf [⟨t.name,t.cols⟩] (show 1≤1000 by decide) (by simpa using hct) 40 st.wher _ (.slice (some ⟨W5.heap.size,0,none⟩) 1 1) C _ (W5.alloc (.cells #[.string t.name, .slice ao2 n2 c2'] 43)) j6 (Zp (Ab W5 _) ((hcL5.keep (Bd HWT)).mono (fun k hk _=>hk))) (Nat.le_trans hC S5T.bel.size) (Nat.le_refl _) hg3
    have p0 :=Aa S5.tab (j :=0) rfl
    have p1 :=Aa S5.tab (j :=1) rfl
    have a9 :=Aa S5T.stm (j :=9) rfl
    have a10 :=Aa S5T.stm (j :=10) rfl
    have a11 :=Aa S5T.stm (j :=11) rfl
    have a12 :=Aa S5T.stm (j :=12) rfl
    have a13 :=Aa S5T.stm (j :=13) rfl
    have a14 :=Aa S5T.stm (j :=14) rfl
    have a15 :=Aa S5T.stm (j :=15) rfl
    have a16 :=Aa S5T.stm (j :=16) rfl
    have HW2 :=HW1.mono (R' :=fun r w'=> ∃ (op :Int) (x :V) (s name :Wd) (n :Int) (ao :Option Addr) (k c :Nat) (z :Int),r= .returned (.tuple #[.agg (Ae op x s name n (.slice ao k c)), .int .i64 z]) ∧ (match whR [⟨t.name,t.cols⟩] st.wher with | .error m=>z=m | .ok e=>z=0∧IsE (Fx C (w.heap.size+3)) w' e (.agg (Ae op x s name n (.slice ao k c)))) ∧Below (W5.alloc (.cells #[.string t.name, .slice ao2 n2 c2'] 43)).heap.size (W5.alloc (.cells #[.string t.name, .slice ao2 n2 c2'] 43)) w') (by
     rintro r w' ⟨⟨v,rfl,hv⟩,hb'⟩
     cases hr :whR [⟨t.name,t.cols⟩] st.wher with
     | error m=>
      rw [hr] at hv
      obtain rfl :=hv
      exact ⟨0,zero,noW,noW,0,none,0,0,m,rfl,rfl,hb'⟩
     | ok e2=>
      rw [hr] at hv
      obtain ⟨op,x,s,name,n,ao,k,c,rfl,hE'⟩ :=hv
      exact ⟨op,x,s,name,n,ao,k,c,0,rfl,⟨rfl,IsE.mono (fun k _ hk=>hk.imp id (fun h=>Nat.le_trans hsz5 h)) _ _ hE'⟩,hb'⟩)
    have HE1 :Hid (Dh ct st=match whR [⟨t.name,t.cols⟩] st.wher with
       | .error m=> .error m
       | .ok wh=> .ok {st with rows :=rows2,sets :=sets2,wher :=wh}) :=HE0.out
    generalize whR [⟨t.name,t.cols⟩] st.wher=RW at HW2 HE1
    clear HW1 HE0 hg3
    go_wp2_with (first | (go_at_call 93;refine HW2.mono ?_;rintro r w6 ⟨op2,x2,s2,name2,n2',ao3,k3,c3',z,rfl,hAns,hb6⟩;obtain ⟨x2k,x2n,x2s⟩ :=x2;have S6 :=S5T.below hb6;have hone8 :=Bk op2 ⟨x2k,x2n,x2s⟩ s2 name2 n2' ao3 k3 c3';have mt :w6.there (w.heap.size+1) 9 8 :=Uj S6.stm;have S7 :=S6.wher op2 x2k x2n x2s s2 name2 n2' (.slice ao3 k3 c3');have h1 : (sA st.kind st.name st.table st.col (.slice o1 st.cols.length c1) (.slice aor kr cr) (.slice aos ks cs') (.slice o4 st.frm.length c4) (.slice o5 st.out.length c5) op2 x2k x2n x2s s2 name2 n2' (.slice ao3 k3 c3') (.slice o7 st.order.length c7) st.down st.n).all (·.oneCell') =true :=E8 (Al _ _ _) (Al _ _ _) (Al _ _ _) (Al _ _ _) (Al _ _ _) (Al _ _ _) (Al _ _ _)) | (refine wpList_store_mid rfl 34 _ _ rfl (w.heap.size+1) 9 (Ae op2 ⟨x2k,x2n,x2s⟩ s2 name2 n2' (.slice ao3 k3 c3')) ?_ ?_ ?_ ?_ ?_ ?_;exact rfl;exact rfl;exact mt;exact As;exact hone8) | (refine wpList_load_row rfl 36 _ rfl (w.heap.size+1) ?_ 36 (sA st.kind st.name st.table st.col (.slice o1 st.cols.length c1) (.slice aor kr cr) (.slice aos ks cs') (.slice o4 st.frm.length c4) (.slice o5 st.out.length c5) op2 x2k x2n x2s s2 name2 n2' (.slice ao3 k3 c3') (.slice o7 st.order.length c7) st.down st.n) (0,0) _ ?_ Tryz.underlying36 ?_ ?_ ?_;exact rfl;exact S7.stm;exact rfl;exact Ak) | (refine wpList_store_row rfl 36 _ _ rfl (w.heap.size+1+1) (sA st.kind st.name st.table st.col (.slice o1 st.cols.length c1) (.slice aor kr cr) (.slice aos ks cs') (.slice o4 st.frm.length c4) (.slice o5 st.out.length c5) op2 x2k x2n x2s s2 name2 n2' (.slice ao3 k3 c3') (.slice o7 st.order.length c7) st.down st.n) ?_ ?_ 36 Ai ?_ ?_ ?_ ?_ ?_;exact rfl;exact rfl;exact S7.room;exact Ak;exact rfl;exact h1))
    refine bodyPost_ret (A2 Tryz.results49 _ _ (w.heap.size+1+1) 36 (sA st.kind st.name st.table st.col (.slice o1 st.cols.length c1) (.slice aor kr cr) (.slice aos ks cs') (.slice o4 st.frm.length c4) (.slice o5 st.out.length c5) op2 x2k x2n x2s s2 name2 n2' (.slice ao3 k3 c3') (.slice o7 st.order.length c7) st.down st.n) _ _ _ rfl rfl (Au S7.room) Tryz.underlying36 rfl Ak) rfl ⟨⟨_,rfl, ?_⟩,Below.row S7.bel (by omega) _⟩
    refine ⟨_,rfl,h1, ?_⟩
    rw [HE1.out]
    cases RW with
    | error m=>
     obtain rfl :=hAns
     rfl
    | ok wh=>
     obtain ⟨rfl,hE6⟩ :=hAns
     refine ⟨rfl, ?_⟩
     have hF1 : ¬Fx C (w.heap.size+3) (w.heap.size+1) :=by intro h;rcases h with h | h<;>omega
     have hF2 : ¬Fx C (w.heap.size+3) (w.heap.size+1+1) :=by intro h;rcases h with h | h<;>omega
     have hK :Keeps (Fx C (w.heap.size+3)) w6 ((w6.setCells (w.heap.size+1) 9 (Ae op2 ⟨x2k,x2n,x2s⟩ s2 name2 n2' (.slice ao3 k3 c3')).toList).setRow (w.heap.size+1+1) (sA st.kind st.name st.table st.col (.slice o1 st.cols.length c1) (.slice aor kr cr) (.slice aos ks cs') (.slice o4 st.frm.length c4) (.slice o5 st.out.length c5) op2 x2k x2n x2s s2 name2 n2' (.slice ao3 k3 c3') (.slice o7 st.order.length c7) st.down st.n)) := (G8 hF1 _ _ _).row hF2 _
     have hKC :Keeps (fun k=>k<C) w ((w6.setCells (w.heap.size+1) 9 (Ae op2 ⟨x2k,x2n,x2s⟩ s2 name2 n2' (.slice ao3 k3 c3')).toList).setRow (w.heap.size+1+1) (sA st.kind st.name st.table st.col (.slice o1 st.cols.length c1) (.slice aor kr cr) (.slice aos ks cs') (.slice o4 st.frm.length c4) (.slice o5 st.out.length c5) op2 x2k x2n x2s s2 name2 n2' (.slice ao3 k3 c3') (.slice o7 st.order.length c7) st.down st.n)) :=Af ((Below.row S7.bel (by omega) _).mono hC)
     have hM : ∀k,Fx C (w.heap.size+3) k→Fx C w.heap.size k :=fun k h=>h.imp id (fun h=>Nat.le_trans (by omega) h)
     exact Vz ((i1.keep hKC).mono (fun k _ h=> .inl h)) (((hLr5.keep (Bd (Ad HWT hb6))).keep hK).mono (fun k _ h=>hM k h)) (((hLs5.keep (Bd (Ad HWT hb6))).keep hK).mono (fun k _ h=>hM k h)) ((i4.keep hKC).mono (fun k _ h=> .inl h)) ((i5.keep hKC).mono (fun k _ h=> .inl h)) (IsE.mono (fun k _ h=>hM k h) _ _ (IsE.keep hK _ _ hE6)) ((i7.keep hKC).mono (fun k _ h=> .inl h))
end Go.Proofs.YthehiijgnepcfaaGreat

namespace Go.Proofs.YthehiijgnepcfaaGreat
open Go.RowKit Go.Maps
def E5 (ct :CatD) (st :Stm) :Except Int Stm :=
 match Ez ct.tables st.frm with
 | .error m=> .error m
 | .ok S=>match Mw S st.out with
  | .error m=> .error m
  | .ok out=>match Hf S st.order with
   | .error m=> .error m
   | .ok order=>match whR S st.wher with
    | .error m=> .error m
    | .ok wh=> .ok {st with out :=out,order :=order,wher :=wh}
theorem Uk {T :List TabD} {s :Wd} {t :TabD} (h :Cr T s=some t) :t∈T :=List.mem_of_find?_eq_some h
theorem Xd {α β :Type} {f :List α→α→Except Int β} {P :β→Prop} (hf : ∀seen a b,f seen a= .ok b→P b) : ∀ {seen l :List α} {rs :List β},C3 f seen l= .ok rs→rs.length=l.length∧ ∀b∈rs,P b
 | seen,[],rs,h=>by
  simp only [C3,Except.ok.injEq] at h
  subst h
  exact ⟨rfl,fun b hb=>by cases hb⟩
 | seen,x ::l,rs,h=>by
  simp only [C3] at h
  cases hx :f seen x with
  | error j=>rw [hx] at h;cases h
  | ok r=>
   rw [hx] at h
   simp only at h
   cases hl :C3 f (seen++ [x]) l with
   | error j=>rw [hl] at h;cases h
   | ok rs'=>
    rw [hl] at h
    simp only [Except.ok.injEq] at h
    subst h
    obtain ⟨h1,h2⟩ :=Xd hf hl
    exact ⟨by simp [h1],fun b hb=>by
     rcases List.mem_cons.1 hb with rfl | hb
     ·exact hf _ _ _ hx
     ·exact h2 b hb⟩
theorem Ul {α β :Type} {f :List α→α→Except Int β} {P :Int→Prop} (hf : ∀seen a m,f seen a= .error m→P m) : ∀ {seen l :List α} {m :Int},C3 f seen l= .error m→P m
 | seen,[],m,h=>by simp [C3] at h
 | seen,x ::l,m,h=>by
  simp only [C3] at h
  cases hx :f seen x with
  | error j=>
   rw [hx] at h
   obtain rfl :=Except.error.inj h
   exact hf _ _ _ hx
  | ok r=>
   rw [hx] at h
   simp only at h
   cases hl :C3 f (seen++ [x]) l with
   | error j=>
    rw [hl] at h
    obtain rfl :=Except.error.inj h
    exact Ul hf hl
   | ok rs=>rw [hl] at h;cases h
theorem Ae5 {T :List TabD} {seen :List Wd} {s :Wd} {t :TabD} (h :Gm T seen s= .ok t) :t∈T :=by
 unfold Gm at h
 cases ht :Cr T s with
 | none=>rw [ht] at h;cases h
 | some t'=>
  rw [ht] at h
  simp only at h
  split at h
  ·cases h
  ·obtain rfl :=Except.ok.inj h
   exact Uk ht
theorem Ac5 {T :List TabD} {seen :List Wd} {s :Wd} {m :Int} (h :Gm T seen s= .error m) :m=3∨m=4 :=by
 unfold Gm at h
 cases ht :Cr T s with
 | none=>rw [ht] at h;exact .inl (Except.error.inj h).symm
 | some t'=>
  rw [ht] at h
  simp only at h
  split at h
  ·exact .inr (Except.error.inj h).symm
  ·cases h
theorem Ac6 {T :List TabD} {l :List Wd} {S :List TabD} (h :Ez T l= .ok S) :S.length≤2∧ ∀t∈S,t∈T :=by
 unfold Ez at h
 split at h
 ·cases h
 ·obtain ⟨h1,h2⟩ :=Xd (P :=fun t=>t∈T) (fun _ _ _ hb=>Ae5 hb) h
  exact ⟨by omega,h2⟩
theorem Sb {T :List TabD} {l :List Wd} {m :Int} (h :Ez T l= .error m) :m=1∨m=3∨m=4 :=by
 unfold Ez at h
 split at h
 ·exact .inl (Except.error.inj h).symm
 ·exact .inr (Ul (P :=fun m=>m=3∨m=4) (fun _ _ _ hb=>Ac5 hb) h)
theorem Qr {S :List TabD} {l :List E} {m :Int} (h :Hf S l= .error m) :m=3∨m=5 :=by
 unfold Hf at h
 cases hb :A1 S l with
 | error k=>
  rw [hb] at h
  obtain rfl :=Except.error.inj h
  exact Mq S l _ hb
 | ok r=>rw [hb] at h;cases h
theorem Xe {S :List TabD} {l :List E} {m :Int} (h :Mw S l= .error m) :m=3∨m=5 :=by
 unfold Mw at h
 split at h
 ·cases h
 ·exact Qr h
structure SeSt (w :World) (W :World) (arr :Array Value) :Prop where
 stm :W.heap[w.heap.size+1]? =some (.cells arr 36)
 room :W.heap[w.heap.size+1+1]? =some (.cells Ai 36)
 bel :Below w.heap.size w W
 big :w.heap.size+3≤W.heap.size
theorem SeSt.below {w W W' :World} {arr :Array Value} (h :SeSt w W arr) (hb :Below W.heap.size W W') :SeSt w W' arr :=
 ⟨(hb.block _ (by have :=h.big;omega)).trans h.stm,(hb.block _ (by have :=h.big;omega)).trans h.room,h.bel.trans (hb.mono h.bel.size),Nat.le_trans h.big hb.size⟩
theorem SeSt.set {w W :World} {arr :Array Value} (h :SeSt w W arr) (i :Nat) (v :Value) :SeSt w (W.setCell ⟨w.heap.size+1,i,none⟩ v) (arr.setIfInBounds i v) :=
 ⟨upd h.stm i v,(Below.heap_setCell _ _ _ _ (by simp)).trans h.room,h.bel.setCell (show w.heap.size≤w.heap.size+1 by omega) _,by simpa using h.big⟩
theorem SeSt.wher {w W :World} {kind :Int} {name table col :Wd} {cols rows sets frm out :Value} {op xk xn :Int} {xs s nmv :Wd} {n8 :Int} {sl order :Value} {down :Bool} {n :Int} (h :SeSt w W (sA kind name table col cols rows sets frm out op xk xn xs s nmv n8 sl order down n)) (op' xk' xn' :Int) (xs' s' nmv' :Wd) (n8' :Int) (sl' :Value) :
  SeSt w (W.setCells (w.heap.size+1) 9 (Ae op' ⟨xk',xn',xs'⟩ s' nmv' n8' sl').toList) (sA kind name table col cols rows sets frm out op' xk' xn' xs' s' nmv' n8' sl' order down n) :=by
 have g := (((((((h.set 9 (.int .i64 op')).set 10 (.int .i64 xk')).set 11 (.int .i64 xn')).set 12 (.string xs')).set 13 (.string s')).set 14 (.string nmv')).set 15 (.int .i64 n8')).set 16 sl'
 simp only [List.setIfInBounds_toArray,List.set_cons_succ,List.set_cons_zero] at g
 exact g
set_option maxRecDepth 100000 in
set_option maxHeartbeats 8000000 in
theorem Tj (ct :CatD) (cv :Value) (st :Stm) (cs :List Value) (C :Nat) (w :World) (hc :Cz (fun k=>k<C) w ct cv) (hR :Akj.R (fun k=>k<C) w st cs) (hC :C≤w.heap.size)
  (hg1 : ∀a∈st.out,geB 40 a=true) (hg2 : ∀a∈st.order,geB 40 a=true) (hg3 :st.wher.opn≠0→geB 40 st.wher=true)
  (hn1 :st.out.length≤16777216) (hn2 :st.order.length≤16777216) (hs : ∀s∈st.frm,s.size≤maxLen) (hcl : ∀t∈ct.tables,t.cols.length≤1000000) :
  Calls Tryz.prog 50 #[cv, .agg cs.toArray] w fun r w'=> (∃u,r= .returned u∧Xc (E5 ct st) (Fx C w.heap.size) w' u) ∧Below w.heap.size w w' :=by
 obtain ⟨o1,c1,o2,c2,o3,c3,o4,c4,o5,c5,op,xk,xn,xs,s,nmv,n8,o6,k6,c6,o7,c7,rfl,i1,i2,i3,i4,i5,i6,i7⟩ :=Er hR
 obtain ⟨tv,iv,rfl,htl,hil⟩ :=hc
 have hsl :=Ge hil
 have hb3 :=Cb w (.cells #[tv,iv] 25) (.cells (sA st.kind st.name st.table st.col (.slice o1 st.cols.length c1) (.slice o2 st.rows.length c2) (.slice o3 st.sets.length c3) (.slice o4 st.frm.length c4) (.slice o5 st.out.length c5) op xk xn xs s nmv n8 (.slice o6 k6 c6) (.slice o7 st.order.length c7) st.down st.n) 36) (.cells Ai 36)
 have S0 :SeSt w (((w.alloc (.cells #[tv,iv] 25)).alloc (.cells (sA st.kind st.name st.table st.col (.slice o1 st.cols.length c1) (.slice o2 st.rows.length c2) (.slice o3 st.sets.length c3) (.slice o4 st.frm.length c4) (.slice o5 st.out.length c5) op xk xn xs s nmv n8 (.slice o6 k6 c6) (.slice o7 st.order.length c7) st.down st.n) 36)).alloc (.cells Ai 36)) (sA st.kind st.name st.table st.col (.slice o1 st.cols.length c1) (.slice o2 st.rows.length c2) (.slice o3 st.sets.length c3) (.slice o4 st.frm.length c4) (.slice o5 st.out.length c5) op xk xn xs s nmv n8 (.slice o6 k6 c6) (.slice o7 st.order.length c7) st.down st.n) := ⟨Ac (Aq w (.cells #[tv,iv] 25) (.cells (sA st.kind st.name st.table st.col (.slice o1 st.cols.length c1) (.slice o2 st.rows.length c2) (.slice o3 st.sets.length c3) (.slice o4 st.frm.length c4) (.slice o5 st.out.length c5) op xk xn xs s nmv n8 (.slice o6 k6 c6) (.slice o7 st.order.length c7) st.down st.n) 36)) _,A6 w (.cells #[tv,iv] 25) (.cells (sA st.kind st.name st.table st.col (.slice o1 st.cols.length c1) (.slice o2 st.rows.length c2) (.slice o3 st.sets.length c3) (.slice o4 st.frm.length c4) (.slice o5 st.out.length c5) op xk xn xs s nmv n8 (.slice o6 k6 c6) (.slice o7 st.order.length c7) st.down st.n) 36) (.cells Ai 36),hb3,by simp⟩
 have HS1 :=Yo ct.tables tv iv hsl st.frm (.slice o4 st.frm.length c4) C (((w.alloc (.cells #[tv,iv] 25)).alloc (.cells (sA st.kind st.name st.table st.col (.slice o1 st.cols.length c1) (.slice o2 st.rows.length c2) (.slice o3 st.sets.length c3) (.slice o4 st.frm.length c4) (.slice o5 st.out.length c5) op xk xn xs s nmv n8 (.slice o6 k6 c6) (.slice o7 st.order.length c7) st.down st.n) 36)).alloc (.cells Ai 36)) (htl.keep (Af (hb3.mono hC))) (i4.keep (Af (hb3.mono hC))) (Nat.le_trans hC hb3.size) hs
 have h1 : (sA st.kind st.name st.table st.col (.slice o1 st.cols.length c1) (.slice o2 st.rows.length c2) (.slice o3 st.sets.length c3) (.slice o4 st.frm.length c4) (.slice o5 st.out.length c5) op xk xn xs s nmv n8 (.slice o6 k6 c6) (.slice o7 st.order.length c7) st.down st.n).all (·.oneCell') =true :=E8 (Al _ _ _) (Al _ _ _) (Al _ _ _) (Al _ _ _) (Al _ _ _) (Al _ _ _) (Al _ _ _)
 have HE0 :Hid (E5 ct st=match Ez ct.tables st.frm with
  | .error m=> .error m
  | .ok S=>match Mw S st.out with
   | .error m=> .error m
   | .ok out=>match Hf S st.order with
    | .error m=> .error m
    | .ok order=>match whR S st.wher with
     | .error m=> .error m
     | .ok wh=> .ok {st with out :=out,order :=order,wher :=wh}) :=rfl
 clear htl hil hs
 rcases hr0 :Ez ct.tables st.frm with m | S
 ·have hm :=Sb hr0
  have HE :Hid (E5 ct st= .error m) :=by show _=_;rw [HE0.out,hr0]
  have HS2 :=HS1.mono (R' :=fun e w'=>e= .returned (.tuple #[.slice none 0 0, .int .i64 m]) ∧Below (((w.alloc (.cells #[tv,iv] 25)).alloc (.cells (sA st.kind st.name st.table st.col (.slice o1 st.cols.length c1) (.slice o2 st.rows.length c2) (.slice o3 st.sets.length c3) (.slice o4 st.frm.length c4) (.slice o5 st.out.length c5) op xk xn xs s nmv n8 (.slice o6 k6 c6) (.slice o7 st.order.length c7) st.down st.n) 36)).alloc (.cells Ai 36)).heap.size (((w.alloc (.cells #[tv,iv] 25)).alloc (.cells (sA st.kind st.name st.table st.col (.slice o1 st.cols.length c1) (.slice o2 st.rows.length c2) (.slice o3 st.sets.length c3) (.slice o4 st.frm.length c4) (.slice o5 st.out.length c5) op xk xn xs s nmv n8 (.slice o6 k6 c6) (.slice o7 st.order.length c7) st.down st.n) 36)).alloc (.cells Ai 36)) w') (by
   rintro e w' ⟨⟨v,rfl,hv⟩,hb'⟩
   rw [hr0] at hv
   obtain rfl :=hv
   exact ⟨rfl,hb'⟩)
  clear HS1 HE0 hr0 hg1 hg2 hg3 hn1 hn2 i1 i2 i3 i4 i5 i6 i7 hR
  rcases hm with rfl | rfl | rfl
  all_goals
   go_enter Tryz.func50,Tryz.ntmps50
   go_wp2_with (first | (go_at_call 94;go_fit HS2;rintro e w1 ⟨rfl,hb1⟩;have S1 :=S0.below hb1) | (refine wpList_load_row rfl 36 _ rfl (w.heap.size+1) ?_ 36 (sA st.kind st.name st.table st.col (.slice o1 st.cols.length c1) (.slice o2 st.rows.length c2) (.slice o3 st.sets.length c3) (.slice o4 st.frm.length c4) (.slice o5 st.out.length c5) op xk xn xs s nmv n8 (.slice o6 k6 c6) (.slice o7 st.order.length c7) st.down st.n) (0,0) _ ?_ Tryz.underlying36 ?_ ?_ ?_;exact rfl;exact S1.stm;exact rfl;exact Ak) | (refine wpList_store_row rfl 36 _ _ rfl (w.heap.size+1+1) (sA st.kind st.name st.table st.col (.slice o1 st.cols.length c1) (.slice o2 st.rows.length c2) (.slice o3 st.sets.length c3) (.slice o4 st.frm.length c4) (.slice o5 st.out.length c5) op xk xn xs s nmv n8 (.slice o6 k6 c6) (.slice o7 st.order.length c7) st.down st.n) ?_ ?_ 36 Ai ?_ ?_ ?_ ?_ ?_;exact rfl;exact rfl;exact S1.room;exact Ak;exact rfl;exact h1))
   refine bodyPost_ret (A2 Tryz.results50 _ _ (w.heap.size+1+1) 36 (sA st.kind st.name st.table st.col (.slice o1 st.cols.length c1) (.slice o2 st.rows.length c2) (.slice o3 st.sets.length c3) (.slice o4 st.frm.length c4) (.slice o5 st.out.length c5) op xk xn xs s nmv n8 (.slice o6 k6 c6) (.slice o7 st.order.length c7) st.down st.n) _ _ _ rfl rfl (Au S1.room) Tryz.underlying36 rfl Ak) rfl ⟨⟨_,rfl, ?_⟩,Below.row S1.bel (by omega) _⟩
   refine ⟨_,rfl,h1, ?_⟩
   rw [HE.out]
   rfl
 ·obtain ⟨hS2,hSm⟩ :=Ac6 hr0
  have hS :S.length≤1000 :=by omega
  have hsc : ∀t∈S,t.cols.length≤1000000 :=fun t ht=>hcl t (hSm t ht)
  have HS2 :=HS1.mono (R' :=fun e w'=> ∃ (ao :Option Addr) (k c :Nat),e= .returned (.tuple #[.slice ao k c, .int .i64 0]) ∧IsL Cq (Fx C (w.heap.size+3)) w' (.slice ao k c) S∧Below (((w.alloc (.cells #[tv,iv] 25)).alloc (.cells (sA st.kind st.name st.table st.col (.slice o1 st.cols.length c1) (.slice o2 st.rows.length c2) (.slice o3 st.sets.length c3) (.slice o4 st.frm.length c4) (.slice o5 st.out.length c5) op xk xn xs s nmv n8 (.slice o6 k6 c6) (.slice o7 st.order.length c7) st.down st.n) 36)).alloc (.cells Ai 36)).heap.size (((w.alloc (.cells #[tv,iv] 25)).alloc (.cells (sA st.kind st.name st.table st.col (.slice o1 st.cols.length c1) (.slice o2 st.rows.length c2) (.slice o3 st.sets.length c3) (.slice o4 st.frm.length c4) (.slice o5 st.out.length c5) op xk xn xs s nmv n8 (.slice o6 k6 c6) (.slice o7 st.order.length c7) st.down st.n) 36)).alloc (.cells Ai 36)) w') (by
   rintro e w' ⟨⟨v,rfl,hv⟩,hb'⟩
   rw [hr0] at hv
   obtain ⟨ao,k,c,rfl,hL⟩ :=hv
   exact ⟨ao,k,c,rfl,hL.mono (fun k _ hk=>hk.imp id (fun h=>Nat.le_trans (by simp) h)),hb'⟩)
  rw [hr0] at HE0
  simp only at HE0
  clear HS1 hr0 hSm hS2 hcl
  go_enter Tryz.func50,Tryz.ntmps50
  go_upto_region 4 with (first | (go_at_call 94;go_fit HS2;rintro e w1 ⟨sao,sk,sc,rfl,hLS,hb1⟩))
  have S1 :=S0.below hb1
  clear S0 HS2 hb1 hb3
  have HO1 :=Yn S hS hsc 40 st.out (.slice o5 st.out.length c5) (.slice sao sk sc) w1.heap.size w1 ((i5.keep (Af (S1.bel.mono hC))).mono (fun k hk _=>hk)) (hLS.mono (fun k hk _=>hk)) (Nat.le_refl _) hg1 (by omega)
  have a8 :=Aa S1.stm (j :=8) rfl
  rcases hr1 :Mw S st.out with m | out2
  ·have hm :=Xe hr1
   have HE :Hid (E5 ct st= .error m) :=by show _=_;rw [HE0.out,hr1]
   have HO2 :=HO1.mono (R' :=fun e w'=>e= .returned (.tuple #[.slice none 0 0, .int .i64 m]) ∧Below w1.heap.size w1 w') (by
    rintro e w' ⟨⟨v,rfl,hv⟩,hb'⟩
    rw [hr1] at hv
    obtain rfl :=hv
    exact ⟨rfl,hb'⟩)
   have h1 : (sA st.kind st.name st.table st.col (.slice o1 st.cols.length c1) (.slice o2 st.rows.length c2) (.slice o3 st.sets.length c3) (.slice o4 st.frm.length c4) (.slice none 0 0) op xk xn xs s nmv n8 (.slice o6 k6 c6) (.slice o7 st.order.length c7) st.down st.n).all (·.oneCell') =true :=E8 (Al _ _ _) (Al _ _ _) (Al _ _ _) (Al _ _ _) (Al _ _ _) (Al _ _ _) (Al _ _ _)
   clear HO1 HE0 hr1 hg1 hg2 hg3 hn1 hn2 i1 i2 i3 i4 i5 i6 i7 hR hLS hS hsc
   rcases hm with rfl | rfl
   all_goals
    go_wp2_with (first | (go_at_call 95;go_fit HO2;rintro e w2 ⟨rfl,hbw2⟩;have S2 :=S1.below hbw2;have q0 :=Aa S2.stm (j :=8) rfl;have f0 :w2.frozen? ⟨w.heap.size+1,8,none⟩ =false :=by simp [World.frozen?,S2.stm]) | (refine wpList_load_row rfl 36 _ rfl (w.heap.size+1) ?_ 36 (sA st.kind st.name st.table st.col (.slice o1 st.cols.length c1) (.slice o2 st.rows.length c2) (.slice o3 st.sets.length c3) (.slice o4 st.frm.length c4) (.slice none 0 0) op xk xn xs s nmv n8 (.slice o6 k6 c6) (.slice o7 st.order.length c7) st.down st.n) (0,0) _ ?_ Tryz.underlying36 ?_ ?_ ?_;exact rfl;exact (S2.set 8 (.slice none 0 0)).stm;exact rfl;exact Ak) | (refine wpList_store_row rfl 36 _ _ rfl (w.heap.size+1+1) (sA st.kind st.name st.table st.col (.slice o1 st.cols.length c1) (.slice o2 st.rows.length c2) (.slice o3 st.sets.length c3) (.slice o4 st.frm.length c4) (.slice none 0 0) op xk xn xs s nmv n8 (.slice o6 k6 c6) (.slice o7 st.order.length c7) st.down st.n) ?_ ?_ 36 Ai ?_ ?_ ?_ ?_ ?_;exact rfl;exact rfl;exact (S2.set 8 (.slice none 0 0)).room;exact Ak;exact rfl;exact h1))
    refine bodyPost_ret (A2 Tryz.results50 _ _ (w.heap.size+1+1) 36 (sA st.kind st.name st.table st.col (.slice o1 st.cols.length c1) (.slice o2 st.rows.length c2) (.slice o3 st.sets.length c3) (.slice o4 st.frm.length c4) (.slice none 0 0) op xk xn xs s nmv n8 (.slice o6 k6 c6) (.slice o7 st.order.length c7) st.down st.n) _ _ _ rfl rfl (Au (S2.set 8 (.slice none 0 0)).room) Tryz.underlying36 rfl Ak) rfl ⟨⟨_,rfl, ?_⟩,Below.row (S2.set 8 (.slice none 0 0)).bel (by omega) _⟩
    refine ⟨_,rfl,h1, ?_⟩
    rw [HE.out]
    rfl
  ·have HO2 :=HO1.mono (R' :=fun e w'=> ∃ (ao :Option Addr) (k c :Nat),e= .returned (.tuple #[.slice ao k c, .int .i64 0]) ∧IsL Az (Fx C (w.heap.size+3)) w' (.slice ao k c) out2∧Below w1.heap.size w1 w') (by
    rintro e w' ⟨⟨v,rfl,hv⟩,hb'⟩
    rw [hr1] at hv
    obtain ⟨ao,k,c,rfl,hL⟩ :=hv
    exact ⟨ao,k,c,rfl,hL.mono (fun k _ hk=> .inr (Nat.le_trans S1.big hk)),hb'⟩)
   rw [hr1] at HE0
   simp only at HE0
   clear HO1 hr1 hg1 hn1 i5
   go_upto_region 7 with (first | (go_at_call 95;go_fit HO2;rintro e w2 ⟨aor,kr,cr,rfl,hLo,hb2⟩;have S2 :=S1.below hb2;have q8 :=Aa S2.stm (j :=8) rfl;have f8 :w2.frozen? ⟨w.heap.size+1,8,none⟩ =false :=by simp [World.frozen?,S2.stm]))
   have S3 :SeSt w (w2.setCell ⟨w.heap.size+1,8,none⟩ (.slice aor kr cr)) (sA st.kind st.name st.table st.col (.slice o1 st.cols.length c1) (.slice o2 st.rows.length c2) (.slice o3 st.sets.length c3) (.slice o4 st.frm.length c4) (.slice aor kr cr) op xk xn xs s nmv n8 (.slice o6 k6 c6) (.slice o7 st.order.length c7) st.down st.n) :=S2.set 8 (.slice aor kr cr)
   have hLo3 :=hLo.keep (Fy hC 8 (.slice aor kr cr))
   have hLS3 := (hLS.keep (Bd hb2)).keep (Fy hC 8 (.slice aor kr cr))
   generalize w2.setCell ⟨w.heap.size+1,8,none⟩ (.slice aor kr cr) =W3 at S3 hLo3 hLS3⊢
   clear S1 S2 hb2 hLo hLS q8 f8 a8 HO2
   have HA1 :=Pv S hS hsc 40 st.order (.slice o7 st.order.length c7) (.slice sao sk sc) W3.heap.size W3 ((i7.keep (Af (S3.bel.mono hC))).mono (fun k hk _=>hk)) (hLS3.mono (fun k hk _=>hk)) (Nat.le_refl _) hg2 (by omega)
   have a17 :=Aa S3.stm (j :=17) rfl
   rcases hr2 :Hf S st.order with m | ord2
   ·have hm :=Qr hr2
    have HE :Hid (E5 ct st= .error m) :=by show _=_;rw [HE0.out,hr2]
    have HA2 :=HA1.mono (R' :=fun e w'=>e= .returned (.tuple #[.slice none 0 0, .int .i64 m]) ∧Below W3.heap.size W3 w') (by
     rintro e w' ⟨⟨v,rfl,hv⟩,hb'⟩
     rw [hr2] at hv
     obtain rfl :=hv
     exact ⟨rfl,hb'⟩)
    have h1 : (sA st.kind st.name st.table st.col (.slice o1 st.cols.length c1) (.slice o2 st.rows.length c2) (.slice o3 st.sets.length c3) (.slice o4 st.frm.length c4) (.slice aor kr cr) op xk xn xs s nmv n8 (.slice o6 k6 c6) (.slice none 0 0) st.down st.n).all (·.oneCell') =true :=E8 (Al _ _ _) (Al _ _ _) (Al _ _ _) (Al _ _ _) (Al _ _ _) (Al _ _ _) (Al _ _ _)
    clear HA1 HE0 hr2 hg2 hg3 hn2 i1 i2 i3 i4 i6 i7 hR hLS3 hS hsc hLo3
    rcases hm with rfl | rfl
    all_goals
     go_wp2_with (first | (go_at_call 96;go_fit HA2;rintro e w4 ⟨rfl,hbw4⟩;have S4 :=S3.below hbw4;have q0 :=Aa S4.stm (j :=17) rfl;have f0 :w4.frozen? ⟨w.heap.size+1,17,none⟩ =false :=by simp [World.frozen?,S4.stm]) | (refine wpList_load_row rfl 36 _ rfl (w.heap.size+1) ?_ 36 (sA st.kind st.name st.table st.col (.slice o1 st.cols.length c1) (.slice o2 st.rows.length c2) (.slice o3 st.sets.length c3) (.slice o4 st.frm.length c4) (.slice aor kr cr) op xk xn xs s nmv n8 (.slice o6 k6 c6) (.slice none 0 0) st.down st.n) (0,0) _ ?_ Tryz.underlying36 ?_ ?_ ?_;exact rfl;exact (S4.set 17 (.slice none 0 0)).stm;exact rfl;exact Ak) | (refine wpList_store_row rfl 36 _ _ rfl (w.heap.size+1+1) (sA st.kind st.name st.table st.col (.slice o1 st.cols.length c1) (.slice o2 st.rows.length c2) (.slice o3 st.sets.length c3) (.slice o4 st.frm.length c4) (.slice aor kr cr) op xk xn xs s nmv n8 (.slice o6 k6 c6) (.slice none 0 0) st.down st.n) ?_ ?_ 36 Ai ?_ ?_ ?_ ?_ ?_;exact rfl;exact rfl;exact (S4.set 17 (.slice none 0 0)).room;exact Ak;exact rfl;exact h1))
     refine bodyPost_ret (A2 Tryz.results50 _ _ (w.heap.size+1+1) 36 (sA st.kind st.name st.table st.col (.slice o1 st.cols.length c1) (.slice o2 st.rows.length c2) (.slice o3 st.sets.length c3) (.slice o4 st.frm.length c4) (.slice aor kr cr) op xk xn xs s nmv n8 (.slice o6 k6 c6) (.slice none 0 0) st.down st.n) _ _ _ rfl rfl (Au (S4.set 17 (.slice none 0 0)).room) Tryz.underlying36 rfl Ak) rfl ⟨⟨_,rfl, ?_⟩,Below.row (S4.set 17 (.slice none 0 0)).bel (by omega) _⟩
     refine ⟨_,rfl,h1, ?_⟩
     rw [HE.out]
     rfl
   ·have HA2 :=HA1.mono (R' :=fun e w'=> ∃ (ao :Option Addr) (k c :Nat),e= .returned (.tuple #[.slice ao k c, .int .i64 0]) ∧IsL Az (Fx C (w.heap.size+3)) w' (.slice ao k c) ord2∧Below W3.heap.size W3 w') (by
     rintro e w' ⟨⟨v,rfl,hv⟩,hb'⟩
     rw [hr2] at hv
     obtain ⟨ao,k,c,rfl,hL⟩ :=hv
     exact ⟨ao,k,c,rfl,hL.mono (fun k _ hk=> .inr (Nat.le_trans S3.big hk)),hb'⟩)
    rw [hr2] at HE0
    simp only at HE0
    clear HA1 hr2 hg2 hn2 i7
    go_upto_region 10 with (first | (go_at_call 96;go_fit HA2;rintro e w4 ⟨aos,ks,cs',rfl,hLd,hb4⟩;have S4 :=S3.below hb4;have q17 :=Aa S4.stm (j :=17) rfl;have f17 :w4.frozen? ⟨w.heap.size+1,17,none⟩ =false :=by simp [World.frozen?,S4.stm]))
    have S5 :SeSt w (w4.setCell ⟨w.heap.size+1,17,none⟩ (.slice aos ks cs')) (sA st.kind st.name st.table st.col (.slice o1 st.cols.length c1) (.slice o2 st.rows.length c2) (.slice o3 st.sets.length c3) (.slice o4 st.frm.length c4) (.slice aor kr cr) op xk xn xs s nmv n8 (.slice o6 k6 c6) (.slice aos ks cs') st.down st.n) :=S4.set 17 (.slice aos ks cs')
    have hLd5 :=hLd.keep (Fy hC 17 (.slice aos ks cs'))
    have hLo5 := (hLo3.keep (Bd hb4)).keep (Fy hC 17 (.slice aos ks cs'))
    have hLS5 := (hLS3.keep (Bd hb4)).keep (Fy hC 17 (.slice aos ks cs'))
    generalize w4.setCell ⟨w.heap.size+1,17,none⟩ (.slice aos ks cs') =W5 at S5 hLd5 hLo5 hLS5⊢
    clear S3 S4 hb4 hLd hLo3 hLS3 q17 f17 a17 HA2
    have j6 :=IsE.keep (Af (S5.bel.mono hC)) _ _ i6
    have HW1 :=Nf S hS hsc 40 st.wher _ (.slice sao sk sc) C W5.heap.size W5 j6 (hLS5.mono (fun k hk _=>hk)) (Nat.le_trans hC S5.bel.size) (Nat.le_refl _) hg3
    have a9 :=Aa S5.stm (j :=9) rfl
    have a10 :=Aa S5.stm (j :=10) rfl
    have a11 :=Aa S5.stm (j :=11) rfl
    have a12 :=Aa S5.stm (j :=12) rfl
    have a13 :=Aa S5.stm (j :=13) rfl
    have a14 :=Aa S5.stm (j :=14) rfl
    have a15 :=Aa S5.stm (j :=15) rfl
    have a16 :=Aa S5.stm (j :=16) rfl
    have HW2 :=HW1.mono (R' :=fun r w'=> ∃ (op :Int) (x :V) (s name :Wd) (n :Int) (ao :Option Addr) (k c :Nat) (z :Int),r= .returned (.tuple #[.agg (Ae op x s name n (.slice ao k c)), .int .i64 z]) ∧ (match whR S st.wher with | .error m=>z=m | .ok e=>z=0∧IsE (Fx C (w.heap.size+3)) w' e (.agg (Ae op x s name n (.slice ao k c)))) ∧Below W5.heap.size W5 w') (by
     rintro r w' ⟨⟨v,rfl,hv⟩,hb'⟩
     cases hr :whR S st.wher with
     | error m=>
      rw [hr] at hv
      obtain rfl :=hv
      exact ⟨0,zero,noW,noW,0,none,0,0,m,rfl,rfl,hb'⟩
     | ok e2=>
      rw [hr] at hv
      obtain ⟨op,x,s,name,n,ao,k,c,rfl,hE'⟩ :=hv
      exact ⟨op,x,s,name,n,ao,k,c,0,rfl,⟨rfl,IsE.mono (fun k _ hk=>hk.imp id (fun h=>Nat.le_trans S5.big h)) _ _ hE'⟩,hb'⟩)
    generalize whR S st.wher=RW at HW2 HE0
    clear HW1 hg3
    go_wp2_with (first | (go_at_call 93;refine HW2.mono ?_;rintro r w6 ⟨op2,x2,s2,name2,n2',ao3,k3,c3',z,rfl,hAns,hb6⟩;obtain ⟨x2k,x2n,x2s⟩ :=x2;have S6 :=S5.below hb6;have hone8 :=Bk op2 ⟨x2k,x2n,x2s⟩ s2 name2 n2' ao3 k3 c3';have mt :w6.there (w.heap.size+1) 9 8 :=Uj S6.stm;have S7 :=S6.wher op2 x2k x2n x2s s2 name2 n2' (.slice ao3 k3 c3');have h1 : (sA st.kind st.name st.table st.col (.slice o1 st.cols.length c1) (.slice o2 st.rows.length c2) (.slice o3 st.sets.length c3) (.slice o4 st.frm.length c4) (.slice aor kr cr) op2 x2k x2n x2s s2 name2 n2' (.slice ao3 k3 c3') (.slice aos ks cs') st.down st.n).all (·.oneCell') =true :=E8 (Al _ _ _) (Al _ _ _) (Al _ _ _) (Al _ _ _) (Al _ _ _) (Al _ _ _) (Al _ _ _)) | (refine wpList_store_mid rfl 34 _ _ rfl (w.heap.size+1) 9 (Ae op2 ⟨x2k,x2n,x2s⟩ s2 name2 n2' (.slice ao3 k3 c3')) ?_ ?_ ?_ ?_ ?_ ?_;exact rfl;exact rfl;exact mt;exact As;exact hone8) | (refine wpList_load_row rfl 36 _ rfl (w.heap.size+1) ?_ 36 (sA st.kind st.name st.table st.col (.slice o1 st.cols.length c1) (.slice o2 st.rows.length c2) (.slice o3 st.sets.length c3) (.slice o4 st.frm.length c4) (.slice aor kr cr) op2 x2k x2n x2s s2 name2 n2' (.slice ao3 k3 c3') (.slice aos ks cs') st.down st.n) (0,0) _ ?_ Tryz.underlying36 ?_ ?_ ?_;exact rfl;exact S7.stm;exact rfl;exact Ak) | (refine wpList_store_row rfl 36 _ _ rfl (w.heap.size+1+1) (sA st.kind st.name st.table st.col (.slice o1 st.cols.length c1) (.slice o2 st.rows.length c2) (.slice o3 st.sets.length c3) (.slice o4 st.frm.length c4) (.slice aor kr cr) op2 x2k x2n x2s s2 name2 n2' (.slice ao3 k3 c3') (.slice aos ks cs') st.down st.n) ?_ ?_ 36 Ai ?_ ?_ ?_ ?_ ?_;exact rfl;exact rfl;exact S7.room;exact Ak;exact rfl;exact h1))
    refine bodyPost_ret (A2 Tryz.results50 _ _ (w.heap.size+1+1) 36 (sA st.kind st.name st.table st.col (.slice o1 st.cols.length c1) (.slice o2 st.rows.length c2) (.slice o3 st.sets.length c3) (.slice o4 st.frm.length c4) (.slice aor kr cr) op2 x2k x2n x2s s2 name2 n2' (.slice ao3 k3 c3') (.slice aos ks cs') st.down st.n) _ _ _ rfl rfl (Au S7.room) Tryz.underlying36 rfl Ak) rfl ⟨⟨_,rfl, ?_⟩,Below.row S7.bel (by omega) _⟩
    refine ⟨_,rfl,h1, ?_⟩
    rw [HE0.out]
    cases RW with
    | error m=>
     obtain rfl :=hAns
     rfl
    | ok wh=>
     obtain ⟨rfl,hE6⟩ :=hAns
     refine ⟨rfl, ?_⟩
     have hF1 : ¬Fx C (w.heap.size+3) (w.heap.size+1) :=by intro h;rcases h with h | h<;>omega
     have hF2 : ¬Fx C (w.heap.size+3) (w.heap.size+1+1) :=by intro h;rcases h with h | h<;>omega
     have hK :Keeps (Fx C (w.heap.size+3)) w6 ((w6.setCells (w.heap.size+1) 9 (Ae op2 ⟨x2k,x2n,x2s⟩ s2 name2 n2' (.slice ao3 k3 c3')).toList).setRow (w.heap.size+1+1) (sA st.kind st.name st.table st.col (.slice o1 st.cols.length c1) (.slice o2 st.rows.length c2) (.slice o3 st.sets.length c3) (.slice o4 st.frm.length c4) (.slice aor kr cr) op2 x2k x2n x2s s2 name2 n2' (.slice ao3 k3 c3') (.slice aos ks cs') st.down st.n)) := (G8 hF1 _ _ _).row hF2 _
     have hKC :Keeps (fun k=>k<C) w ((w6.setCells (w.heap.size+1) 9 (Ae op2 ⟨x2k,x2n,x2s⟩ s2 name2 n2' (.slice ao3 k3 c3')).toList).setRow (w.heap.size+1+1) (sA st.kind st.name st.table st.col (.slice o1 st.cols.length c1) (.slice o2 st.rows.length c2) (.slice o3 st.sets.length c3) (.slice o4 st.frm.length c4) (.slice aor kr cr) op2 x2k x2n x2s s2 name2 n2' (.slice ao3 k3 c3') (.slice aos ks cs') st.down st.n)) :=Af ((Below.row S7.bel (by omega) _).mono hC)
     have hM : ∀k,Fx C (w.heap.size+3) k→Fx C w.heap.size k :=fun k h=>h.imp id (fun h=>Nat.le_trans (by omega) h)
     exact Vz ((i1.keep hKC).mono (fun k _ h=> .inl h)) ((i2.keep hKC).mono (fun k _ h=> .inl h)) ((i3.keep hKC).mono (fun k _ h=> .inl h)) ((i4.keep hKC).mono (fun k _ h=> .inl h)) (((hLo5.keep (Bd hb6)).keep hK).mono (fun k _ h=>hM k h)) (IsE.mono (fun k _ h=>hM k h) _ _ (IsE.keep hK _ _ hE6)) (((hLd5.keep (Bd hb6)).keep hK).mono (fun k _ h=>hM k h))
end Go.Proofs.YthehiijgnepcfaaGreat

