/-
  5 texts of this proof in one, in build order: YExprs, YFit, YRef, YBindM, YMade.
-/
import Derived.Deep.Cut
import Derived.Deep.LoopGhost
import Derived.Deep.CutRange
import Derived.Laws.EntriesVeiled
import Derived.Deep.MidRow
import Derived.Laws.MakeOwn
import Derived.Test.YthehiijgnepcfaaGreatJ12
import Derived.Test.YthehiijgnepcfaaGreatJ18
set_option linter.unusedSimpArgs false
set_option linter.unusedVariables false
namespace Go.Proofs.YthehiijgnepcfaaGreat
open Go.RowKit Go.Maps
def E.opn :E→Int
 | .mk op _ _ _ _ _=>op
def He (e :E) :Bool := !geB 40 e
def Gl (l :List E) :Bool :=l.any He
def D4 (st :Stm) :Bool := !st.rows.any Gl&& !st.sets.any (fun t=>He t.2) && !Gl st.out&& !Gl st.order&& (decide (st.wher.opn=0) || !He st.wher)
structure FitS (st :Stm) :Prop where
 rows : ∀r∈st.rows,Ea r
 sets : ∀t∈st.sets,De t.2∧t.1.size≤maxLen
 out :Ea st.out
 order :Ea st.order
 wher :De st.wher
 name :st.name.size≤maxLen
 table :st.table.size≤maxLen
 col :st.col.size≤maxLen
 cols :Ox st.cols
 frm : ∀s∈st.frm,s.size≤maxLen
set_option maxRecDepth 100000 in
set_option maxHeartbeats 1000000 in
theorem I8 (e :E) (v :Value) (C :Nat) (w :World) (he :IsE (fun k=>k<C) w e v) (hC :C≤w.heap.size) (hf :De e) :
  Calls Tryz.prog 40 #[v] w fun r w'=>r= .returned (.bool (He e)) ∧Below w.heap.size w w' :=by
 obtain ⟨op,⟨xk,xn,xs⟩,s,name,n,ao,k,c,rfl⟩ :=he.shape
 have hbx :=Ao w (.cells (Ae op ⟨xk,xn,xs⟩ s name n (.slice ao k c)) 34)
 have HG :Calls Tryz.prog 29 #[.agg (Ae op ⟨xk,xn,xs⟩ s name n (.slice ao k c)), .int .i64 40] _ _ :=Iu 40 (Nat.le_refl _) e _ C _ (IsE.keep (Af (hbx.mono hC)) e _ he) (Nat.le_trans hC hbx.size) hf
 have E :Hid (He e= !geB 40 e) :=rfl
 generalize He e=r at E
 generalize geB 40 e=g at HG E
 clear he hf
 go_enter Tryz.func40,Tryz.ntmps40
 go_wp2_with (go_at_call 29;go_fit HG;rintro e w1 ⟨rfl,hb1⟩)
 go_ret
 exact ⟨Ag (by rw [E.out]),Ad hbx hb1⟩
theorem Wt (l :List E) (sv :Value) (C :Nat) (w :World) (hl :IsL Az (fun k=>k<C) w sv l) (hC :C≤w.heap.size) (hf :Ea l) :
  Calls Tryz.prog 42 #[sv, .func (.func 40) #[] #[]] w fun e w'=>e= .returned (.bool (Gl l)) ∧Below w.heap.size w w' :=by
 obtain ⟨ao,c,rfl⟩ :=hl.shape
 have :=Nh l (fun k=>k<C) ao l.length c (atI l He) (fun _ W=>Below w.heap.size w W) (fun W=>Below w.heap.size w W) w (fun i W h=>h) (fun i W h=>hl.keep (Af (h.mono hC)))
  (by
   rintro i x cs W hx h1 hR
   refine (I8 x (.agg cs.toArray) C W hR.2 (Nat.le_trans hC h1.size) (Fb hf (List.mem_of_getElem? hx))).mono ?_
   rintro e W' ⟨rfl,hb⟩
   exact ⟨by rw [Eu hx],h1.trans (hb.mono h1.size),fun _=>h1.trans (hb.mono h1.size)⟩)
  (Below.refl _ _)
 rw [Gw] at this
 exact this
set_option maxRecDepth 100000 in
set_option maxHeartbeats 1000000 in
theorem I9 (l :List E) (sv :Value) (pb C :Nat) (w :World) (hl :IsL Az (fun k=>k<C) w sv l) (hC :C≤w.heap.size) (hf :Ea l) (hp :w.cell? ⟨pb,0,none⟩ =some (.func (.func 40) #[] #[])) :
  Calls Tryz.prog 41 #[sv, .pointer (some ⟨pb,0,none⟩)] w fun r w'=>r= .returned (.bool (Gl l)) ∧Below w.heap.size w w' :=by
 obtain ⟨ao,c,rfl⟩ :=hl.shape
 have HC :=Wt l _ C w hl hC hf
 generalize Gl l=r at HC
 clear hl hf
 go_enter Tryz.func41,Tryz.ntmps41
 go_wp2_with (go_at_call 42;go_fit HC;rintro e w1 ⟨rfl,hb1⟩)
 go_ret
 exact ⟨rfl,hb1⟩
set_option maxRecDepth 100000 in
set_option maxHeartbeats 1000000 in
theorem Te (t :Wd×E) (cs :List Value) (pb C :Nat) (w :World) (hR :Ei.R (fun k=>k<C) w t cs) (hC :C≤w.heap.size) (hf :De t.2) (hp :w.cell? ⟨pb,0,none⟩ =some (.func (.func 40) #[] #[])) (hpb :pb<w.heap.size) :
  Calls Tryz.prog 43 #[.agg cs.toArray, .pointer (some ⟨pb,0,none⟩)] w fun r w'=>r= .returned (.bool (He t.2)) ∧Below w.heap.size w w' :=by
 obtain ⟨d,rfl,hd,he⟩ :=hR
 obtain ⟨xo,xk,xn,xs2,xs,xm,xi,xa,xl,xc,rfl⟩ :=Ej (F :=fun k=>k<C) (w :=w) (e :=t.2) ⟨hd,he⟩
 have hbx :=Ao w (.cells #[.string t.1, .int .i64 xo, .int .i64 xk, .int .i64 xn, .string xs2, .string xs, .string xm, .int .i64 xi, .slice xa xl xc] 98)
 have HG :=I8 t.2 _ C _ (IsE.keep (Af (hbx.mono hC)) t.2 _ he) (Nat.le_trans hC hbx.size) hf
 have hp1 := (hbx.cell (p := ⟨pb,0,none⟩) hpb).trans hp
 generalize He t.2=r at HG
 clear he hf hd
 go_enter Tryz.func43,Tryz.ntmps43
 go_wp2_with (go_at_call 40;go_fit HG;rintro e w1 ⟨rfl,hb1⟩)
 go_ret
 exact ⟨rfl,Ad hbx hb1⟩
theorem Er {F :Nat→Prop} {w :World} {st :Stm} {c :List Value} (h :Akj.R F w st c) : ∃o1 c1 o2 c2 o3 c3 o4 c4 o5 c5 op xk xn xs s nmv n8 o6 k6 c6 o7 c7,
  c= (sA st.kind st.name st.table st.col (.slice o1 st.cols.length c1) (.slice o2 st.rows.length c2) (.slice o3 st.sets.length c3) (.slice o4 st.frm.length c4) (.slice o5 st.out.length c5) op xk xn xs s nmv n8 (.slice o6 k6 c6) (.slice o7 st.order.length c7) st.down st.n).toList∧
  IsL Cc F w (.slice o1 st.cols.length c1) st.cols∧IsL Gi F w (.slice o2 st.rows.length c2) st.rows∧IsL Ei F w (.slice o3 st.sets.length c3) st.sets∧IsL So F w (.slice o4 st.frm.length c4) st.frm∧IsL Az F w (.slice o5 st.out.length c5) st.out∧IsE F w st.wher (.agg (Ae op ⟨xk,xn,xs⟩ s nmv n8 (.slice o6 k6 c6))) ∧IsL Az F w (.slice o7 st.order.length c7) st.order :=by
 obtain ⟨cols,rows,sets,frm,out,w8,order,hc,h8,h1,h2,h3,h4,h5,h6,h7⟩ :=h.is
 obtain ⟨o1,c1,rfl⟩ :=h1.shape
 obtain ⟨o2,c2,rfl⟩ :=h2.shape
 obtain ⟨o3,c3,rfl⟩ :=h3.shape
 obtain ⟨o4,c4,rfl⟩ :=h4.shape
 obtain ⟨o5,c5,rfl⟩ :=h5.shape
 obtain ⟨o7,c7,rfl⟩ :=h7.shape
 obtain ⟨op,xk,xn,xs,s,nmv,n8,o6,k6,c6,rfl⟩ :=Ej (F :=F) (w :=w) (e :=st.wher) ⟨h8,h6⟩
 exact ⟨o1,c1,o2,c2,o3,c3,o4,c4,o5,c5,op,xk,xn,xs,s,nmv,n8,o6,k6,c6,o7,c7,hc,h1,h2,h3,h4,h5,h6,h7⟩
set_option maxRecDepth 100000 in
set_option maxHeartbeats 4000000 in
theorem Ht (st :Stm) (cs :List Value) (C :Nat) (w :World) (hR :Akj.R (fun k=>k<C) w st cs) (hC :C≤w.heap.size) (hf :FitS st) :
  Calls Tryz.prog 14 #[.agg cs.toArray] w fun r w'=>r= .returned (.bool (D4 st)) ∧Below w.heap.size w w' :=by
 obtain ⟨o1,c1,o2,c2,o3,c3,o4,c4,o5,c5,op,xk,xn,xs,s,nmv,n8,o6,k6,c6,o7,c7,rfl,_,h2,h3,_,h5,h6,h7⟩ :=Er hR
 have hb2 :=Bb w (.cells (sA st.kind st.name st.table st.col (.slice o1 st.cols.length c1) (.slice o2 st.rows.length c2) (.slice o3 st.sets.length c3) (.slice o4 st.frm.length c4) (.slice o5 st.out.length c5) op xk xn xs s nmv n8 (.slice o6 k6 c6) (.slice o7 st.order.length c7) st.down st.n) 36) (.cells #[.func (.func 40) #[] #[]] 94)
 have hbl0 : ((w.alloc (.cells (sA st.kind st.name st.table st.col (.slice o1 st.cols.length c1) (.slice o2 st.rows.length c2) (.slice o3 st.sets.length c3) (.slice o4 st.frm.length c4) (.slice o5 st.out.length c5) op xk xn xs s nmv n8 (.slice o6 k6 c6) (.slice o7 st.order.length c7) st.down st.n) 36)).alloc (.cells #[.func (.func 40) #[] #[]] 94)).heap[w.heap.size]? =some (.cells (sA st.kind st.name st.table st.col (.slice o1 st.cols.length c1) (.slice o2 st.rows.length c2) (.slice o3 st.sets.length c3) (.slice o4 st.frm.length c4) (.slice o5 st.out.length c5) op xk xn xs s nmv n8 (.slice o6 k6 c6) (.slice o7 st.order.length c7) st.down st.n) 36) :=Ac (Ab _ _) _
 have hbl1 : ((w.alloc (.cells (sA st.kind st.name st.table st.col (.slice o1 st.cols.length c1) (.slice o2 st.rows.length c2) (.slice o3 st.sets.length c3) (.slice o4 st.frm.length c4) (.slice o5 st.out.length c5) op xk xn xs s nmv n8 (.slice o6 k6 c6) (.slice o7 st.order.length c7) st.down st.n) 36)).alloc (.cells #[.func (.func 40) #[] #[]] 94)).heap[w.heap.size+1]? =some (.cells #[.func (.func 40) #[] #[]] 94) :=Aq _ _ _
 have hsz0 : ((w.alloc (.cells (sA st.kind st.name st.table st.col (.slice o1 st.cols.length c1) (.slice o2 st.rows.length c2) (.slice o3 st.sets.length c3) (.slice o4 st.frm.length c4) (.slice o5 st.out.length c5) op xk xn xs s nmv n8 (.slice o6 k6 c6) (.slice o7 st.order.length c7) st.down st.n) 36)).alloc (.cells #[.func (.func 40) #[] #[]] 94)).heap.size=w.heap.size+2 :=by simp
 generalize hW0 : ((w.alloc (.cells (sA st.kind st.name st.table st.col (.slice o1 st.cols.length c1) (.slice o2 st.rows.length c2) (.slice o3 st.sets.length c3) (.slice o4 st.frm.length c4) (.slice o5 st.out.length c5) op xk xn xs s nmv n8 (.slice o6 k6 c6) (.slice o7 st.order.length c7) st.down st.n) 36)).alloc (.cells #[.func (.func 40) #[] #[]] 94)) =W0 at hb2 hbl0 hbl1 hsz0
 have HW0 :Hid _ :=hW0
 clear hW0 hR
 have hz0 :W0.heap.size≤W0.heap.size :=Nat.le_refl _
 have KB : ∀W,Below W0.heap.size W0 W→Below w.heap.size w W :=fun W h=>Ad hb2 h
 have KP : ∀W,Below W0.heap.size W0 W→W.cell? ⟨w.heap.size+1,0,none⟩ =some (.func (.func 40) #[] #[]) :=fun W h=> (h.cell (p := ⟨w.heap.size+1,0,none⟩) (show w.heap.size+1<W0.heap.size by omega)).trans (Aa hbl1 rfl)
 have KL : ∀W,Below W0.heap.size W0 W→w.heap.size+1<W.heap.size :=fun W h=>Nat.lt_of_lt_of_le (show w.heap.size+1<W0.heap.size by omega) h.size
 have KC : ∀W,Below W0.heap.size W0 W→C≤W.heap.size :=fun W h=>Nat.le_trans hC (KB W h).size
 have H1 :=Ni st.rows (fun k=>k<C) o2 st.rows.length c2 (.pointer (some ⟨w.heap.size+1,0,none⟩)) (atI st.rows Gl) (fun _ W=>Below W0.heap.size W0 W) (fun W=>Below W0.heap.size W0 W) W0 (fun i W h=>h) (fun i W h=>h2.keep (Af ((KB W h).mono hC)))
  (by
   rintro i x cs W hx h1 ⟨sv,rfl,hsv⟩
   refine (I9 x sv (w.heap.size+1) C W hsv (KC W h1) (hf.rows x (List.mem_of_getElem? hx)) (KP W h1)).mono ?_
   rintro e W' ⟨rfl,hb⟩
   exact ⟨by rw [Eu hx],Ad h1 hb,fun _=>Ad h1 hb⟩)
  (Below.refl _ _)
 have H2 :=fun (W1 :World) (hW1 :Below W0.heap.size W0 W1) =>Nj st.sets (fun k=>k<C) o3 st.sets.length c3 (.pointer (some ⟨w.heap.size+1,0,none⟩)) (atI st.sets fun t=>He t.2) (fun _ W=>Below W0.heap.size W0 W) (fun W=>Below W0.heap.size W0 W) W1 (fun i W h=>h) (fun i W h=>h3.keep (Af ((KB W h).mono hC)))
  (by
   rintro i x cs W hx h1 hR
   refine (Te x cs (w.heap.size+1) C W hR (KC W h1) (hf.sets x (List.mem_of_getElem? hx)).1 (KP W h1) (KL W h1)).mono ?_
   rintro e W' ⟨rfl,hb⟩
   exact ⟨by rw [Eu hx],Ad h1 hb,fun _=>Ad h1 hb⟩)
  hW1
 have H3 :=fun (W1 :World) (hW1 :Below W0.heap.size W0 W1) =>I9 st.out (.slice o5 st.out.length c5) (w.heap.size+1) C W1 (h5.keep (Af ((KB W1 hW1).mono hC))) (KC W1 hW1) hf.out (KP W1 hW1)
 have H4 :=fun (W1 :World) (hW1 :Below W0.heap.size W0 W1) =>I9 st.order (.slice o7 st.order.length c7) (w.heap.size+1) C W1 (h7.keep (Af ((KB W1 hW1).mono hC))) (KC W1 hW1) hf.order (KP W1 hW1)
 have H5 :=fun (W1 :World) (hW1 :Below W0.heap.size W0 W1) =>I8 st.wher (.agg (Ae op ⟨xk,xn,xs⟩ s nmv n8 (.slice o6 k6 c6))) C W1 (IsE.keep (Af ((KB W1 hW1).mono hC)) _ _ h6) (KC W1 hW1) hf.wher
 have hop :st.wher.opn=op :=by
  cases hw :st.wher with
  | mk op' x' s' nm' n' l'=>
   rw [hw] at h6
   obtain ⟨sv,he,_⟩ :=h6.open
   simp only [Value.agg.injEq,Array.mk.injEq,List.cons.injEq,Value.int.injEq,true_and] at he
   exact he.1.symm
 have E :Hid (D4 st= (!st.rows.any Gl&& !st.sets.any (fun t=>He t.2) && !Gl st.out&& !Gl st.order&& (decide (op=0) || !He st.wher))) :=by show _=_;rw [D4,hop]
 rw [Gw] at H1
 simp only [Gw] at H2
 generalize D4 st=r at E
 generalize st.rows.any Gl=b1 at H1 E
 generalize st.sets.any (fun t=>He t.2) =b2 at H2 E
 generalize Gl st.out=b3 at H3 E
 generalize Gl st.order=b4 at H4 E
 generalize He st.wher=b5 at H5 E
 clear h2 h3 h5 h6 h7 hop hf
 have KS :Hid (∀W,Below W0.heap.size W0 W→W.heap[w.heap.size]? =some (.cells (sA st.kind st.name st.table st.col (.slice o1 st.cols.length c1) (.slice o2 st.rows.length c2) (.slice o3 st.sets.length c3) (.slice o4 st.frm.length c4) (.slice o5 st.out.length c5) op xk xn xs s nmv n8 (.slice o6 k6 c6) (.slice o7 st.order.length c7) st.down st.n) 36)) :=fun W h=> (h.block _ (show w.heap.size<W0.heap.size by omega)).trans hbl0
 cases b1
 rotate_left
 ·go_enter Tryz.func14,Tryz.ntmps14
  go_upto_region 4 with fail
  rw [HW0.out]
  have g5 :=Aa hbl0 (j :=5) rfl
  go_wp2_with (first | (go_at_call 44;go_fit H1;rintro e w1 ⟨rfl,B1⟩;have S1 :=KS.out _ B1;have g6 :=Aa S1 (j :=6) rfl;have g8 :=Aa S1 (j :=8) rfl))
  go_ret
  exact ⟨Ag (by rw [E.out];rfl),KB _ B1⟩
 cases b2
 rotate_left
 ·go_enter Tryz.func14,Tryz.ntmps14
  go_upto_region 4 with fail
  rw [HW0.out]
  have g5 :=Aa hbl0 (j :=5) rfl
  go_wp2_with (first | (go_at_call 44;go_fit H1;rintro e w1 ⟨rfl,B1⟩;have S1 :=KS.out _ B1;have g6 :=Aa S1 (j :=6) rfl;have g8 :=Aa S1 (j :=8) rfl) | (go_at_call 45;go_fit (H2 _ B1);rintro e w2 ⟨rfl,B2⟩;have S2 :=KS.out _ B2;have g8 :=Aa S2 (j :=8) rfl))
  go_ret
  exact ⟨Ag (by rw [E.out];rfl),KB _ B2⟩
 cases b3
 rotate_left
 ·go_enter Tryz.func14,Tryz.ntmps14
  go_upto_region 4 with fail
  rw [HW0.out]
  have g5 :=Aa hbl0 (j :=5) rfl
  go_wp2_with (first | (go_at_call 44;go_fit H1;rintro e w1 ⟨rfl,B1⟩;have S1 :=KS.out _ B1;have g6 :=Aa S1 (j :=6) rfl;have g8 :=Aa S1 (j :=8) rfl) | (go_at_call 45;go_fit (H2 _ B1);rintro e w2 ⟨rfl,B2⟩;have S2 :=KS.out _ B2;have g8 :=Aa S2 (j :=8) rfl) | (go_at_call_of 41 (Value.slice o5 st.out.length c5);go_fit (H3 _ B2);rintro e w3 ⟨rfl,hb3⟩;have B3 :=Ad B2 hb3;have S3' :=KS.out _ B3;have g17 :=Aa S3' (j :=17) rfl))
  go_ret
  exact ⟨Ag (by rw [E.out];rfl),KB _ B3⟩
 cases b4
 rotate_left
 ·go_enter Tryz.func14,Tryz.ntmps14
  go_upto_region 4 with fail
  rw [HW0.out]
  have g5 :=Aa hbl0 (j :=5) rfl
  go_wp2_with (first | (go_at_call 44;go_fit H1;rintro e w1 ⟨rfl,B1⟩;have S1 :=KS.out _ B1;have g6 :=Aa S1 (j :=6) rfl;have g8 :=Aa S1 (j :=8) rfl) | (go_at_call 45;go_fit (H2 _ B1);rintro e w2 ⟨rfl,B2⟩;have S2 :=KS.out _ B2;have g8 :=Aa S2 (j :=8) rfl) | (go_at_call_of 41 (Value.slice o5 st.out.length c5);go_fit (H3 _ B2);rintro e w3 ⟨rfl,hb3⟩;have B3 :=Ad B2 hb3;have S3' :=KS.out _ B3;have g17 :=Aa S3' (j :=17) rfl) | (go_at_call_of 41 (Value.slice o7 st.order.length c7);go_fit (H4 _ B3);rintro e w4 ⟨rfl,hb4⟩;have B4 :=Ad B3 hb4;have S4 :=KS.out _ B4;have gp :=KP _ B4;have g9 :=Aa S4 (j :=9) rfl;have g10 :=Aa S4 (j :=10) rfl;have g11 :=Aa S4 (j :=11) rfl;have g12 :=Aa S4 (j :=12) rfl;have g13 :=Aa S4 (j :=13) rfl;have g14 :=Aa S4 (j :=14) rfl;have g15 :=Aa S4 (j :=15) rfl;have g16 :=Aa S4 (j :=16) rfl))
  go_ret
  exact ⟨Ag (by rw [E.out];rfl),KB _ B4⟩
 by_cases h0 :op=0
 ·subst h0
  go_enter Tryz.func14,Tryz.ntmps14
  go_upto_region 4 with fail
  rw [HW0.out]
  have g5 :=Aa hbl0 (j :=5) rfl
  go_wp2_with (first | (go_at_call 44;go_fit H1;rintro e w1 ⟨rfl,B1⟩;have S1 :=KS.out _ B1;have g6 :=Aa S1 (j :=6) rfl;have g8 :=Aa S1 (j :=8) rfl) | (go_at_call 45;go_fit (H2 _ B1);rintro e w2 ⟨rfl,B2⟩;have S2 :=KS.out _ B2;have g8 :=Aa S2 (j :=8) rfl) | (go_at_call_of 41 (Value.slice o5 st.out.length c5);go_fit (H3 _ B2);rintro e w3 ⟨rfl,hb3⟩;have B3 :=Ad B2 hb3;have S3' :=KS.out _ B3;have g17 :=Aa S3' (j :=17) rfl) | (go_at_call_of 41 (Value.slice o7 st.order.length c7);go_fit (H4 _ B3);rintro e w4 ⟨rfl,hb4⟩;have B4 :=Ad B3 hb4;have S4 :=KS.out _ B4;have gp :=KP _ B4;have g9 :=Aa S4 (j :=9) rfl;have g10 :=Aa S4 (j :=10) rfl;have g11 :=Aa S4 (j :=11) rfl;have g12 :=Aa S4 (j :=12) rfl;have g13 :=Aa S4 (j :=13) rfl;have g14 :=Aa S4 (j :=14) rfl;have g15 :=Aa S4 (j :=15) rfl;have g16 :=Aa S4 (j :=16) rfl))
  go_ret
  exact ⟨Ag (by rw [E.out];rfl),KB _ B4⟩
 ·have h0' : (op==0) =false :=by simpa using h0
  have E2 :Hid (r= !b5) :=by show _=_;rw [E.out];simp [h0]
  go_enter Tryz.func14,Tryz.ntmps14
  go_upto_region 4 with fail
  rw [HW0.out]
  have g5 :=Aa hbl0 (j :=5) rfl
  go_wp2_with (first | (go_at_call 44;go_fit H1;rintro e w1 ⟨rfl,B1⟩;have S1 :=KS.out _ B1;have g6 :=Aa S1 (j :=6) rfl;have g8 :=Aa S1 (j :=8) rfl) | (go_at_call 45;go_fit (H2 _ B1);rintro e w2 ⟨rfl,B2⟩;have S2 :=KS.out _ B2;have g8 :=Aa S2 (j :=8) rfl) | (go_at_call_of 41 (Value.slice o5 st.out.length c5);go_fit (H3 _ B2);rintro e w3 ⟨rfl,hb3⟩;have B3 :=Ad B2 hb3;have S3' :=KS.out _ B3;have g17 :=Aa S3' (j :=17) rfl) | (go_at_call_of 41 (Value.slice o7 st.order.length c7);go_fit (H4 _ B3);rintro e w4 ⟨rfl,hb4⟩;have B4 :=Ad B3 hb4;have S4 :=KS.out _ B4;have gp :=KP _ B4;have g9 :=Aa S4 (j :=9) rfl;have g10 :=Aa S4 (j :=10) rfl;have g11 :=Aa S4 (j :=11) rfl;have g12 :=Aa S4 (j :=12) rfl;have g13 :=Aa S4 (j :=13) rfl;have g14 :=Aa S4 (j :=14) rfl;have g15 :=Aa S4 (j :=15) rfl;have g16 :=Aa S4 (j :=16) rfl) | (go_at_call 40;go_fit (H5 _ B4);rintro e w5 ⟨rfl,hb5⟩;have B5 :=Ad B4 hb5))
  go_ret
  exact ⟨Ag (by rw [E2.out]),KB _ B5⟩
end Go.Proofs.YthehiijgnepcfaaGreat

namespace Go.Proofs.YthehiijgnepcfaaGreat
open Go.RowKit Go.Maps
def E4 (k want :Int) :Bool :=decide (k=want) || decide (k=0)
def Jm (op :Int) :Int :=if op=3∨op=4 then 1 else 3
def H7 (ts :List Int) (want :Int) :Bool :=ts.all fun k=>E4 k want
def Qn (op :Int) (ts :List Int) :Bool :=
 if op=3∨op=4 then H7 ts 1 else if op=5∨op=6 then H7 ts 1 || H7 ts 2 else if op=7∨op=8∨op=9 then H7 ts 3 else true
set_option maxHeartbeats 400000 in
theorem Ob (k want :Int) (w :World) :Calls Tryz.prog 167 #[.int .i64 k, .int .i64 want] w fun e w'=>e= .returned (.bool (E4 k want)) ∧w'=w :=by
 by_cases h1 :k=want<;>by_cases h2 :k=0
 all_goals
  go_enter Tryz.func167,Tryz.ntmps167
  go_wp2
  go_ret
  exact ⟨Ag (by simp_all [E4]),rfl⟩
set_option maxHeartbeats 400000 in
theorem Aax (op :Int) (w :World) :Calls Tryz.prog 170 #[.int .i64 op] w fun e w'=>e= .returned (.int .i64 (Jm op)) ∧w'=w :=by
 by_cases h1 :op=3
 ·subst h1
  go_enter Tryz.func170,Tryz.ntmps170
  go_wp2
  go_ret
  exact ⟨rfl,rfl⟩
 by_cases h2 :op=4
 ·subst h2
  go_enter Tryz.func170,Tryz.ntmps170
  go_wp2
  go_ret
  exact ⟨rfl,rfl⟩
 have E :Hid (Jm op=3) :=by show _=_;simp [Jm,h1,h2]
 have e3 : (op==3) =false :=by simpa using h1
 have e4 : (op==4) =false :=by simpa using h2
 go_enter Tryz.func170,Tryz.ntmps170
 go_wp2
 go_ret
 exact ⟨An (by rw [E.out]),rfl⟩
set_option maxHeartbeats 1000000 in
theorem Acw (k want :Int) (pb :Nat) (w :World) (hp :w.cell? ⟨pb,0,none⟩ =some (.int .i64 want)) :Calls Tryz.prog 183 #[.int .i64 k, .pointer (some ⟨pb,0,none⟩)] w fun e w'=>e= .returned (.bool (!E4 k want)) ∧w'=w :=by
 have HC :=fun w=>Ob k want w
 generalize E4 k want=b at HC
 go_enter Tryz.func183,Tryz.ntmps183
 go_wp2_with (go_at_call 167;go_fit (HC _);rintro e w1 ⟨rfl,rfl⟩)
 go_ret
 exact ⟨rfl,rfl⟩
set_option maxRecDepth 100000 in
set_option maxHeartbeats 1000000 in
theorem Aep (ts :List Int) (tv :Value) (want :Int) (pb :Nat) (F :Nat→Prop) (w :World) (hl :IsL Io F w tv ts) (hp :w.cell? ⟨pb,0,none⟩ =some tv) (hpb :pb<w.heap.size) :
  Calls Tryz.prog 181 #[.int .i64 want, .pointer (some ⟨pb,0,none⟩)] w fun e w'=>e= .returned (.bool (H7 ts want)) ∧Below w.heap.size w w' :=by
 obtain ⟨ao,c,rfl⟩ :=hl.shape
 have hbx :=Ao w (.cells #[.int .i64 want] 3)
 have hp1 := (hbx.cell (p := ⟨pb,0,none⟩) hpb).trans hp
 have hbl : (w.alloc (.cells #[.int .i64 want] 3)).heap[w.heap.size]? =some (.cells #[.int .i64 want] 3) :=Ab _ _
 have HC :=Wh ts F ao ts.length c (.pointer (some ⟨w.heap.size,0,none⟩)) (atI ts fun k=> !E4 k want) (fun _ W=>W=w.alloc (.cells #[.int .i64 want] 3)) (fun W=>W=w.alloc (.cells #[.int .i64 want] 3)) _ (fun i W h=>h)
  (fun i W h=>by rw [h];exact hl.keep (Bd hbx))
  (by
   rintro i x cs W hx rfl rfl
   refine (Acw x want w.heap.size _ (Aa hbl rfl)).mono ?_
   rintro e W' ⟨rfl,rfl⟩
   exact ⟨by rw [Eu hx],rfl,fun _=>rfl⟩)
  rfl
 rw [Gw] at HC
 have E :Hid (H7 ts want= !ts.any fun k=> !E4 k want) :=by show _=_;rw [H7,List.all_eq_not_any_not]
 generalize H7 ts want=r at E
 generalize (ts.any fun k=> !E4 k want) =q at HC E
 clear hl
 go_enter Tryz.func181,Tryz.ntmps181
 go_wp2_with (go_at_call 182;go_fit HC;rintro e w1 ⟨rfl,rfl⟩)
 go_ret
 exact ⟨Ag (by rw [E.out]),hbx⟩
set_option maxRecDepth 100000 in
set_option maxHeartbeats 2000000 in
theorem Agu (op :Int) (ts :List Int) (tv :Value) (F :Nat→Prop) (w :World) (hl :IsL Io F w tv ts) :
  Calls Tryz.prog 169 #[.int .i64 op,tv] w fun e w'=>e= .returned (.bool (Qn op ts)) ∧Below w.heap.size w w' :=by
 obtain ⟨ao,c,rfl⟩ :=hl.shape
 have hbx :=Ao w (.cells #[.slice ao ts.length c] 208)
 have hbl : (w.alloc (.cells #[.slice ao ts.length c] 208)).heap[w.heap.size]? =some (.cells #[.slice ao ts.length c] 208) :=Ab _ _
 have H :=fun (want :Int) (W :World) (h :Below (w.alloc (.cells #[.slice ao ts.length c] 208)).heap.size (w.alloc (.cells #[.slice ao ts.length c] 208)) W) =>Aep ts (.slice ao ts.length c) want w.heap.size F W ((hl.keep (Bd hbx)).keep (Bd h)) ((h.cell (p := ⟨w.heap.size,0,none⟩) (by simp)).trans (Aa hbl rfl)) (Nat.lt_of_lt_of_le (by simp) h.size)
 have E :Hid (Qn op ts=if op=3∨op=4 then H7 ts 1 else if op=5∨op=6 then H7 ts 1 || H7 ts 2 else if op=7∨op=8∨op=9 then H7 ts 3 else true) :=rfl
 generalize Qn op ts=r at E
 have H1 :=H 1
 have H2 :=H 2
 have H3 :=H 3
 clear H hl
 generalize H7 ts 1=b1 at H1 E
 generalize H7 ts 2=b2 at H2 E
 generalize H7 ts 3=b3 at H3 E
 by_cases h34 :op=3∨op=4
 ·have E2 :Hid (r=b1) :=by show _=_;rw [E.out,if_pos h34]
  clear E
  rcases h34 with rfl | rfl
  all_goals
   go_enter Tryz.func169,Tryz.ntmps169
   go_wp2_with (go_at_call_of 181 (Value.int .i64 1);go_fit (H1 _ (Below.refl _ _));rintro e w1 ⟨rfl,hb1⟩)
   go_ret
   exact ⟨Ag (by rw [E2.out]),Ad hbx hb1⟩
 by_cases h56 :op=5∨op=6
 ·have E2 :Hid (r= (b1 || b2)) :=by show _=_;rw [E.out,if_neg h34,if_pos h56]
  clear E h34
  cases b1
  ·rcases h56 with rfl | rfl
   all_goals
    go_enter Tryz.func169,Tryz.ntmps169
    go_wp2_with (first | (go_at_call_of 181 (Value.int .i64 1);go_fit (H1 _ (Below.refl _ _));rintro e w1 ⟨rfl,hb1⟩) | (go_at_call_of 181 (Value.int .i64 2);go_fit (H2 _ hb1);rintro e w2 ⟨rfl,hb2⟩))
    go_ret
    exact ⟨Ag (by rw [E2.out];rfl),Ad hbx (Ad hb1 hb2)⟩
  ·rcases h56 with rfl | rfl
   all_goals
    go_enter Tryz.func169,Tryz.ntmps169
    go_wp2_with (go_at_call_of 181 (Value.int .i64 1);go_fit (H1 _ (Below.refl _ _));rintro e w1 ⟨rfl,hb1⟩)
    go_ret
    exact ⟨Ag (by rw [E2.out];rfl),Ad hbx hb1⟩
 by_cases h79 :op=7∨op=8∨op=9
 ·have E2 :Hid (r=b3) :=by show _=_;rw [E.out,if_neg h34,if_neg h56,if_pos h79]
  clear E h34 h56
  rcases h79 with rfl | rfl | rfl
  all_goals
   go_enter Tryz.func169,Tryz.ntmps169
   go_wp2_with (go_at_call_of 181 (Value.int .i64 3);go_fit (H3 _ (Below.refl _ _));rintro e w1 ⟨rfl,hb1⟩)
   go_ret
   exact ⟨Ag (by rw [E2.out]),Ad hbx hb1⟩
 have E2 :Hid (r=true) :=by show _=_;rw [E.out,if_neg h34,if_neg h56,if_neg h79]
 have e3 : (op==3) =false :=by simp;omega
 have e4 : (op==4) =false :=by simp;omega
 have e5 : (op==5) =false :=by simp;omega
 have e6 : (op==6) =false :=by simp;omega
 have e7 : (op==7) =false :=by simp;omega
 have e8 : (op==8) =false :=by simp;omega
 have e9 : (op==9) =false :=by simp;omega
 clear H1 H2 H3 E h34 h56 h79
 go_enter Tryz.func169,Tryz.ntmps169
 go_wp2_with fail
 go_ret
 exact ⟨Ag (by rw [E2.out]),hbx⟩
end Go.Proofs.YthehiijgnepcfaaGreat

namespace Go.Proofs.YthehiijgnepcfaaGreat
open Go.RowKit Go.Maps
structure RefS where
 found :Nat
 kind :Int
 n :Int
 ahead :Nat
def J0 (t :TabD) (s name :Wd) :Bool :=decide (0≤Cy t.cols name) && (decide (s.size=0) || decide (s=t.name))
def Cd (s name :Wd) (r :RefS) (t :TabD) :RefS :=
 ⟨if J0 t s name then r.found+1 else r.found,if J0 t s name then ((t.cols[(Cy t.cols name).toNat]?).map ColD.ty).getD 0 else r.kind,if J0 t s name then (r.ahead :Int) +Cy t.cols name else r.n,r.ahead+t.cols.length⟩
def Bx (S :List TabD) (s name :Wd) (n :Int) :RefS :=S.foldl (Cd s name) ⟨0,0,n,0⟩
theorem Yi (S :List TabD) (t :TabD) (s name :Wd) (n :Int) :Bx (S++ [t]) s name n=Cd s name (Bx S s name n) t :=by simp [Bx]
theorem Lr (l :List ColD) (s :Wd) :Cy l s= -1∨ ∃ (k :Nat) (x :ColD),Cy l s= (k :Int) ∧l[k]? =some x∧x.name=s :=by
 rcases J7 l (fun x=>decide (x.name=s)) with ⟨h1,_⟩ | ⟨k,x,h1,h2,h3,_⟩
 ·exact .inl h1
 ·exact .inr ⟨k,x,h1,h2,by simpa using h3⟩
theorem Aay {a :Int} (h :0≤a) (h2 :a≤4000000000) :IntKind.i64.wrap a=a :=by rw [IntKind.wrap_i64];omega
theorem Ah5 {a :Int} (h :0≤a) (h2 :a≤4000000000) :wrap64 a=a :=by unfold wrap64;omega
theorem Dc {P :Program} {fn :Func} {p q r :Tmp} {ty :TypeId} (h :fn.results= #[.cell p ty, .tmp q, .tmp r]) (tmps :Array Value) (w :World) (g :Nat) (t :TypeId) (cs :Array Value) (fr :Nat×Nat) (d :TypeDesc) (v u :Value)
  (hp :tmps.getD p undef= .pointer (some ⟨g,0,none⟩)) (hq :tmps.getD q undef=v) (hr :tmps.getD r undef=u) (hg :w.heap[g]? =some (.cells cs t fr))
  (hu :P.underlying ty=some d) (hd : (match d with | .struct _ | .array _ _=>true | _=>false) =true) (hi : (P.info? ty).map (·.size) =some cs.size) :
  (results fn tmps).run P w= .ok (.tuple #[.agg cs,v,u]) w :=by
 have hp' :tmps[p]?.getD undef= .pointer (some ⟨g,0,none⟩) :=by simpa using hp
 have hq' :tmps[q]?.getD undef=v :=by simpa using hq
 have hr' :tmps[r]?.getD undef=u :=by simpa using hr
 simp [results,h,hp',hq',hr',asAddr,run_loadVar_row w g t ty cs fr d hg hu hd hi]
theorem As : (Tryz.prog.info? 34).map (·.size) =some 8 :=by kernel_rfl
theorem Bk (op :Int) (x :V) (s name :Wd) (n :Int) (ao :Option Addr) (k c :Nat) : (Ae op x s name n (.slice ao k c)).all (·.oneCell') =true :=by simp [Value.oneCell']
def L7 (op :Int) (x :V) (s name :Wd) (ao :Option Addr) (k c :Nat) (r :RefS) :Value :=
 if r.found=1 then .tuple #[.agg (Ae op x s name r.n (.slice ao k c)), .int .i64 r.kind, .int .i64 0] else .tuple #[.agg (Ae 0 zero noW noW 0 (.slice none 0 0)), .int .i64 0, .int .i64 3]
theorem R0 {op :Int} {x :V} {s name :Wd} {ao :Option Addr} {k c :Nat} {r :RefS} (h :r.found=1) :L7 op x s name ao k c r= .tuple #[.agg (Ae op x s name r.n (.slice ao k c)), .int .i64 r.kind, .int .i64 0] :=if_pos h
theorem R4 {op :Int} {x :V} {s name :Wd} {ao :Option Addr} {k c :Nat} {r :RefS} (h : ¬r.found=1) :L7 op x s name ao k c r= .tuple #[.agg (Ae 0 zero noW noW 0 (.slice none 0 0)), .int .i64 0, .int .i64 3] :=if_neg h
set_option maxRecDepth 100000 in
set_option maxHeartbeats 4000000 in
theorem Yj (S :List TabD) (sv :Value) (op :Int) (x :V) (s name :Wd) (n :Int) (ao :Option Addr) (k c :Nat) (C :Nat) (w :World) (hl :IsL Cq (fun k=>k<C) w sv S) (hC :C≤w.heap.size) (hS :S.length≤1000) (hsc : ∀t∈S,t.cols.length≤1000000) :
  Calls Tryz.prog 168 #[sv, .agg (Ae op x s name n (.slice ao k c))] w fun e w'=>e= .returned (L7 op x s name ao k c (Bx S s name n)) ∧Below w.heap.size w w' :=by
 obtain ⟨so,sc,rfl⟩ :=hl.shape
 obtain ⟨xk,xn,xs⟩ :=x
 have hb2 :=Bb w (.cells (Ae op ⟨xk,xn,xs⟩ s name n (.slice ao k c)) 34) (.cells (Ae 0 zero noW noW 0 (.slice none 0 0)) 34)
 have hB0 : ((w.alloc (.cells (Ae op ⟨xk,xn,xs⟩ s name n (.slice ao k c)) 34)).alloc (.cells (Ae 0 zero noW noW 0 (.slice none 0 0)) 34)).heap[w.heap.size]? =some (.cells (Ae op ⟨xk,xn,xs⟩ s name n (.slice ao k c)) 34) :=Ac (Ab _ _) _
 have hB1 : ((w.alloc (.cells (Ae op ⟨xk,xn,xs⟩ s name n (.slice ao k c)) 34)).alloc (.cells (Ae 0 zero noW noW 0 (.slice none 0 0)) 34)).heap[w.heap.size+1]? =some (.cells (Ae 0 zero noW noW 0 (.slice none 0 0)) 34) :=Aq _ _ _
 generalize hr :L7 op ⟨xk,xn,xs⟩ s name ao k c (Bx S s name n) =R
 have HR :Hid (L7 op ⟨xk,xn,xs⟩ s name ao k c (Bx S s name n) =R) :=hr
 clear hr
 go_enter Tryz.func168,Tryz.ntmps168
 go_wp2
 go_loopw [7,8,9,15] (fun fv kv av i wr=> ∃ (j :Nat) (q :RefS),j≤S.length∧i= .int .i64 j∧fv= .int .i64 (q.found :Nat) ∧kv= .int .i64 q.kind∧av= .int .i64 (q.ahead :Nat) ∧Hid (Bx (S.take j) s name n=q) ∧q.found≤j∧q.ahead≤j*1000000∧wr.heap[w.heap.size]? =some (.cells (Ae op ⟨xk,xn,xs⟩ s name q.n (.slice ao k c)) 34) ∧wr.heap[w.heap.size+1]? =some (.cells (Ae 0 zero noW noW 0 (.slice none 0 0)) 34) ∧Below w.heap.size w wr) (fun _ _ _ i _=>S.length - (intOf i).toNat)
 case atStart=>exact ⟨0,⟨0,0,n,0⟩,Nat.zero_le _,rfl,rfl,rfl,rfl,rfl,Nat.le_refl _,by simp,hB0,hB1,hb2⟩
 case round=>
  obtain ⟨j,q,hj,rfl,rfl,rfl,rfl,HQ,hq1,hq2,hE,hZ,hbel⟩ :=hrel
  clear hB0 hB1
  have hlt0 :=lt_of_block hE
  have hlt1 :=lt_of_block hZ
  by_cases hjl :j<S.length
  ·obtain ⟨t,ht⟩ : ∃t,S[j]? =some t := ⟨_,List.getElem?_eq_getElem hjl⟩
   have hst :Hid (Bx (S.take (j+1)) s name n=Cd s name q t) :=by
    show _=_
    rw [List.take_add_one,ht]
    exact (Yi _ _ _ _ _).trans (by rw [HQ.out])
   have htc :=hsc t (List.mem_of_getElem? ht)
   obtain ⟨b,off,cs,rfl,hbC,hb,⟨cv,rfl,hcv⟩,hcell⟩ :=A4 (hl.keep (Af (hbel.mono hC))) ht
   obtain ⟨co,cc,rfl⟩ :=hcv.shape
   have d0 :=hcell 0 _ rfl
   have d1 :=hcell 1 _ rfl
   simp only [Cq,Nat.add_zero] at d0 d1
   have j0 : (0 :Int) ≤ (j :Int) :=by omega
   have j1 : (j :Int) < (S.length :Int) :=by omega
   have e2 :=Aa hE (j :=4) rfl
   have e3 :=Aa hE (j :=5) rfl
   have hbx :=Ao wr (.cells #[.string t.name, .slice co t.cols.length cc] 43)
   have HF :=Jj t.cols t.name (.slice co t.cols.length cc) name C _ (hcv.keep (Af (hbx.mono (Nat.le_trans hC hbel.size)))) (Nat.le_trans (Nat.le_trans hC hbel.size) hbx.size)
   clear hcell ht
   go_upto_region 6 with (go_at_call 71;go_fit HF;rintro e w1 ⟨rfl,hb1⟩)
   have hbT :=Ad hbx hb1
   have hbw1 :Below w.heap.size w w1 :=hbel.trans (hbT.mono hbel.size)
   have hE1 := (hbT.block _ hlt0).trans hE
   have hZ1 := (hbT.block _ hlt1).trans hZ
   have hT1 :w1.heap[wr.heap.size]? =some (.cells #[.string t.name, .slice co t.cols.length cc] 43) := (hb1.block _ (by simp)).trans (Ab _ _)
   have g4 :=Aa hE1 (j :=4) rfl
   have t0 :=Aa hT1 (j :=0) rfl
   have t1 :=Aa hT1 (j :=1) rfl
   have w3 :wrap64 ((q.ahead :Int) + (t.cols.length :Int)) = (q.ahead :Int) + (t.cols.length :Int) :=by unfold wrap64;omega
   have HST0 :Hid (Cd s name q t= ⟨if J0 t s name then q.found+1 else q.found,if J0 t s name then ((t.cols[(Cy t.cols name).toNat]?).map ColD.ty).getD 0 else q.kind,if J0 t s name then (q.ahead :Int) +Cy t.cols name else q.n,q.ahead+t.cols.length⟩) :=rfl
   have HIT :Hid (J0 t s name= (decide (0≤Cy t.cols name) && (s.toList.isEmpty || (s.toList==t.name.toList)))) :=by show _=_;rw [J0,Gr,G5]
   have HM :J0 t s name=false→Cd s name q t= ⟨q.found,q.kind,q.n,q.ahead+t.cols.length⟩ :=fun h=>by rw [HST0.out,h];rfl
   by_cases hneg :Cy t.cols name= -1
   ·have HST :Hid (Cd s name q t= ⟨q.found,q.kind,q.n,q.ahead+t.cols.length⟩) :=HM (by rw [HIT.out,hneg];rfl)
    rw [hneg]
    clear HF HM HIT HST0 hneg
    generalize Cd s name q t=q' at hst HST
    have hst2 :Hid (Bx (S.take (j+1)) s name n= ⟨q.found,q.kind,q.n,q.ahead+t.cols.length⟩) :=hst.out.trans HST.out
    go_wp2_with fail
    go_roundw
    case rel=>exact ⟨j+1,⟨q.found,q.kind,q.n,q.ahead+t.cols.length⟩,by omega,by go_num,rfl,rfl,by simp,hst2,by simp only;omega,by simp only;omega,hE1,hZ1,hbw1⟩
    case measure=> (try clear q4);(try clear w3);simp [intOf];omega
   ·obtain ⟨kk,x,hk1,hk2,_⟩ : ∃ (k :Nat) (x :ColD),Cy t.cols name= (k :Int) ∧t.cols[k]? =some x∧x.name=name :=by
     rcases Lr t.cols name with h | h
     ·exact absurd h hneg
     ·exact h
    rw [hk1]
    rw [hk1] at HIT
    have hkl :kk<t.cols.length := (List.getElem?_eq_some_iff.1 hk2).1
    obtain ⟨cb,cof,ccs,rfl,hcbC,hcb,hcR,hccell⟩ :=A4 (hcv.keep (Af (hbT.mono (Nat.le_trans hC hbel.size)))) hk2
    obtain rfl :=hcR
    have c1 :=hccell 1 _ rfl
    simp only [Cc] at c1
    have q0 : (0 :Int) ≤ (kk :Int) :=by omega
    have q1 : (kk :Int) < (t.cols.length :Int) :=by omega
    have q4 :IntKind.i64.wrap ((q.ahead :Int) + (kk :Int)) = (q.ahead :Int) + (kk :Int) :=Aay (by omega) (by omega)
    have HH :J0 t s name=true→Cd s name q t= ⟨q.found+1,x.ty,(q.ahead :Int) + (kk :Int),q.ahead+t.cols.length⟩ :=fun h=>by
     rw [HST0.out,h,hk1]
     simp [hk2]
    have g6 :=Aa hE1 (j :=6) rfl
    have f6 : ∀o,w1.frozen? ⟨w.heap.size,o,none⟩ =false :=fun o=>by simp [World.frozen?,hE1]
    have hcw :cb<w.heap.size :=Nat.lt_of_lt_of_le hcbC hC
    clear HF HST0 hneg hk1 hk2 hccell
    cases hem :s.toList.isEmpty
    ·cases heq : (s.toList==t.name.toList)
     ·have HST :Hid (Cd s name q t= ⟨q.found,q.kind,q.n,q.ahead+t.cols.length⟩) :=HM (by rw [HIT.out,hem,heq];simp)
      clear HM HIT HH
      generalize Cd s name q t=q' at hst HST
      have hst2 :Hid (Bx (S.take (j+1)) s name n= ⟨q.found,q.kind,q.n,q.ahead+t.cols.length⟩) :=hst.out.trans HST.out
      clear hst HST
      go_wp2_with fail
      go_roundw
      case rel=>clear q4 w3;exact ⟨j+1,⟨q.found,q.kind,q.n,q.ahead+t.cols.length⟩,by omega,by go_num,rfl,rfl,by simp,hst2,by simp only;omega,by simp only;omega,hE1,hZ1,hbw1⟩
      case measure=> (try clear q4);(try clear w3);simp [intOf];omega
     ·have HST :Hid (Cd s name q t= ⟨q.found+1,x.ty,(q.ahead :Int) + (kk :Int),q.ahead+t.cols.length⟩) :=HH (by rw [HIT.out,hem,heq];simp)
      clear HM HIT HH
      generalize Cd s name q t=q' at hst HST
      have hst2 :Hid (Bx (S.take (j+1)) s name n= ⟨q.found+1,x.ty,(q.ahead :Int) + (kk :Int),q.ahead+t.cols.length⟩) :=hst.out.trans HST.out
      clear hst HST
      go_wp2_with fail
      go_region_held3 (fun w'=>w'.cell? ⟨wr.heap.size,1,none⟩ =some (.slice (some ⟨cb,cof,none⟩) t.cols.length cc) ∧w'.cell? ⟨cb,cof+kk*3+1,none⟩ =some (.int .i64 x.ty)) (first | exact ⟨t1,c1⟩ | exact ⟨(Av (by omega) _ _ _).trans t1,(Av (by omega) _ _ _).trans c1⟩)
       (first | fail)
      go_wp2
      go_roundw
      case rel=>clear q4 w3;exact ⟨j+1,⟨q.found+1,x.ty,(q.ahead :Int) + (kk :Int),q.ahead+t.cols.length⟩,by omega,by go_num,by simp,rfl,by simp,hst2,by simp only;omega,by simp only;omega,Do hE1 6 _,(Below.heap_setCell _ _ _ _ (show w.heap.size+1≠w.heap.size by omega)).trans hZ1,hbw1.drew.setCell (show w.heap.size≤w.heap.size from Nat.le_refl _) _⟩
      case measure=> (try clear q4);(try clear w3);simp [intOf];omega
    ·have HST :Hid (Cd s name q t= ⟨q.found+1,x.ty,(q.ahead :Int) + (kk :Int),q.ahead+t.cols.length⟩) :=HH (by rw [HIT.out,hem];simp)
     clear HM HIT HH
     generalize Cd s name q t=q' at hst HST
     have hst2 :Hid (Bx (S.take (j+1)) s name n= ⟨q.found+1,x.ty,(q.ahead :Int) + (kk :Int),q.ahead+t.cols.length⟩) :=hst.out.trans HST.out
     clear hst HST
     go_wp2_with fail
     go_region_held3 (fun w'=>w'.cell? ⟨wr.heap.size,1,none⟩ =some (.slice (some ⟨cb,cof,none⟩) t.cols.length cc) ∧w'.cell? ⟨cb,cof+kk*3+1,none⟩ =some (.int .i64 x.ty)) (first | exact ⟨t1,c1⟩ | exact ⟨(Av (by omega) _ _ _).trans t1,(Av (by omega) _ _ _).trans c1⟩)
      (first | fail)
     go_wp2
     go_roundw
     case rel=>clear q4 w3;exact ⟨j+1,⟨q.found+1,x.ty,(q.ahead :Int) + (kk :Int),q.ahead+t.cols.length⟩,by omega,by go_num,by simp,rfl,by simp,hst2,by simp only;omega,by simp only;omega,Do hE1 6 _,(Below.heap_setCell _ _ _ _ (show w.heap.size+1≠w.heap.size by omega)).trans hZ1,hbw1.drew.setCell (show w.heap.size≤w.heap.size from Nat.le_refl _) _⟩
     case measure=> (try clear q4);(try clear w3);simp [intOf];omega
  ·have hjj :j=S.length :=by omega
   subst hjj
   have HQ2 :Hid (R=L7 op ⟨xk,xn,xs⟩ s name ao k c q) :=by show _=_;rw [←HR.out,←HQ.out,List.take_length]
   have j1 : ¬ (S.length :Int) < (S.length :Int) :=by omega
   clear HQ HR
   by_cases hf1 :q.found=1
   ·have hf2 : ((q.found :Int) !=1) =false :=by rw [hf1];rfl
    have HF1 :Hid (q.found=1) :=hf1
    clear hf1
    have hone :=Bk op ⟨xk,xn,xs⟩ s name q.n ao k c
    go_wp2_with (first | refine wpList_load_row rfl 34 _ rfl w.heap.size rfl 34 _ _ _ hE Tryz.underlying34 rfl As ?_ | refine wpList_store_row rfl 34 _ _ rfl (w.heap.size+1) _ rfl rfl 34 _ hZ As rfl hone ?_)
    exact bodyPost_ret (v := .tuple #[.agg (Ae op ⟨xk,xn,xs⟩ s name q.n (.slice ao k c)), .int .i64 q.kind, .int .i64 0]) (Dc Tryz.results168 _ _ (w.heap.size+1) 34 _ _ _ _ _ rfl rfl rfl (Au hZ) Tryz.underlying34 rfl As) rfl ⟨by rw [HQ2.out,R0 HF1.out],Below.row hbel (by omega) _⟩
   ·have hf2 : ((q.found :Int) !=1) =true :=by simp;omega
    have HF1 :Hid (¬q.found=1) :=hf1
    clear hf1
    have hone :=Bk 0 zero noW noW 0 none 0 0
    go_wp2_with (first | refine wpList_store_row rfl 34 _ _ rfl (w.heap.size+1) _ rfl rfl 34 _ hZ As rfl hone ?_)
    exact bodyPost_ret (v := .tuple #[.agg (Ae 0 zero noW noW 0 (.slice none 0 0)), .int .i64 0, .int .i64 3]) (Dc Tryz.results168 _ _ (w.heap.size+1) 34 _ _ _ _ _ rfl rfl rfl (Au hZ) Tryz.underlying34 rfl As) rfl ⟨by rw [HQ2.out,R4 HF1.out],Below.row hbel (by omega) _⟩
end Go.Proofs.YthehiijgnepcfaaGreat

namespace Go.Proofs.YthehiijgnepcfaaGreat
mutual
def Bh (S :List TabD) :E→Except Int (E×Int)
 | .mk op x s name n l=>
  if op=1 then .ok (.mk op x s name n l,x.k)
  else if op=2 then
   if (Bx S s name n).found=1 then .ok (.mk op x s name (Bx S s name n).n l,(Bx S s name n).kind) else .error 3
  else match A1 S l with
   | .error m=> .error m
   | .ok r=>if Qn op (r.map Prod.snd) then .ok (.mk op x s name n (r.map Prod.fst),Jm op) else .error 5
def A1 (S :List TabD) :List E→Except Int (List (E×Int))
 | [] => .ok []
 | e ::l=>match Bh S e with
  | .error m=> .error m
  | .ok r=>match A1 S l with
   | .error m=> .error m
   | .ok rs=> .ok (r ::rs)
end
theorem Gh (S :List TabD) : ∀ (l :List E) (e :E),A1 S (l++ [e]) =match A1 S l with
  | .error m=> .error m
  | .ok rs=>match Bh S e with
   | .error m=> .error m
   | .ok r=> .ok (rs++ [r])
 | [],e=>by
  simp only [List.nil_append,A1]
 | x ::l,e=>by
  simp only [List.cons_append,A1,Gh S l e]
  cases Bh S x with
  | error m=>rfl
  | ok r=>
   cases A1 S l with
   | error m=>rfl
   | ok rs=>cases Bh S e<;>rfl
theorem Hu (S :List TabD) : ∀ (l m :List E),(∀k,A1 S l= .error k→A1 S (l++m) = .error k)
 | [],m,k,h=>by simp [A1] at h
 | x ::l,m,k,h=>by
  simp only [List.cons_append,A1] at h⊢
  cases hx :Bh S x with
  | error j=>rw [hx] at h;exact h
  | ok r=>
   rw [hx] at h
   simp only at h⊢
   cases hl :A1 S l with
   | error j=>
    rw [hl] at h
    rw [Hu S l m j hl]
    exact h
   | ok rs=>rw [hl] at h;cases h
theorem R5 (S :List TabD) : ∀ (l :List E) (rs :List (E×Int)),A1 S l= .ok rs→rs.length=l.length
 | [],rs,h=>by simp [A1] at h;subst h;rfl
 | x ::l,rs,h=>by
  simp only [A1] at h
  cases hx :Bh S x with
  | error j=>rw [hx] at h;cases h
  | ok r=>
   rw [hx] at h
   simp only at h
   cases hl :A1 S l with
   | error j=>rw [hl] at h;cases h
   | ok rs'=>
    rw [hl] at h
    simp only [Except.ok.injEq] at h
    subst h
    simp [R5 S l rs' hl]
end Go.Proofs.YthehiijgnepcfaaGreat

namespace Go.Proofs.YthehiijgnepcfaaGreat
open Go.RowKit
theorem Nd {b :Nat} {t :TypeId} {fr :Nat×Nat} : ∀ (vs old pre post :List Value) (w :World),w.heap[b]? =some (.cells (pre++old++post).toArray t fr) →old.length=vs.length→ (w.setCells b pre.length vs).heap[b]? =some (.cells (pre++vs++post).toArray t fr)
 | [],old,pre,post,w,h,hl=>by
  have :old= [] :=List.eq_nil_of_length_eq_zero (by simpa using hl)
  subst this
  simpa [World.setCells] using h
 | v ::vs,[],pre,post,w,h,hl=>by simp at hl
 | v ::vs,y ::old,pre,post,w,h,hl=>by
  have h1 :=Do h pre.length v
  have e : (pre++ (y ::old) ++post).toArray.setIfInBounds pre.length v= ((pre++ [v]) ++old++post).toArray :=by simp
  rw [e] at h1
  have :=Nd vs old (pre++ [v]) post _ h1 (by simpa using hl)
  rw [World.setCells]
  simpa using this
theorem Cv {B g :Nat} (hB :B≤g) {a :World} : ∀ (vs :List Value) (o :Nat) (w :World),Below B a w→Below B a (w.setCells g o vs)
 | [],_,_,h=>h
 | v ::vs,o,_,h=>Cv hB vs (o+1) _ (h.setCell (p := ⟨g,o,none⟩) hB v)
theorem Ef (g :Nat) : ∀ (vs :List Value) (o :Nat) (w :World),(w.setCells g o vs).heap.size=w.heap.size
 | [],_,_=>rfl
 | v ::vs,o,w=>by rw [World.setCells,Ef g vs];simp [World.setCell]
theorem Cg {g k :Nat} (hne :k≠g) : ∀ (vs :List Value) (o :Nat) (w :World),(w.setCells g o vs).heap[k]? =w.heap[k]?
 | [],_,_=>rfl
 | v ::vs,o,w=>by rw [World.setCells,Cg hne vs,Below.heap_setCell w ⟨g,o,none⟩ v k hne]
theorem G8 {F :Nat→Prop} {g :Nat} (hg : ¬F g) (vs :List Value) (o :Nat) (w :World) :Keeps F w (w.setCells g o vs) :=
 ⟨by rw [Ef];exact Nat.le_refl _,fun k hk _=>Cg (by rintro rfl;exact hg hk) vs o w⟩
def Cf {α :Type} (K :Elem α) (F :Nat→Prop) (w :World) (g n :Nat) (l :List α) :Prop :=
 ∃cs rest t,w.heap[g]? =some (.cells (cs++rest).toArray t) ∧ (cs++rest).length=n*K.size∧All K F w l cs
theorem Ja {α :Type} (K :Elem α) (F :Nat→Prop) {w :World} {arr :Array Value} {t :TypeId} {n :Nat} (h :arr.size=n*K.size) :Cf K F (w.alloc (.cells arr t)) w.heap.size n [] :=
 ⟨[],arr.toList,t,by simpa using Ab w _,by simpa using h,rfl⟩
theorem Cf.keep {α :Type} {K :Elem α} {F :Nat→Prop} {w w' :World} {g n :Nat} {l :List α} (h :Cf K F w g n l) (hk :Keeps F w w') (hg :w'.heap[g]? =w.heap[g]?) :Cf K F w' g n l :=by
 obtain ⟨cs,rest,t,h1,h2,h3⟩ :=h
 exact ⟨cs,rest,t,hg.trans h1,h2,h3.keep hk⟩
theorem Cf.lt {α :Type} {K :Elem α} {F :Nat→Prop} {w :World} {g n :Nat} {l :List α} (h :Cf K F w g n l) :g<w.heap.size :=by
 obtain ⟨cs,rest,t,h1,_⟩ :=h
 exact lt_of_block h1
theorem Cf.below {α :Type} {K :Elem α} {F :Nat→Prop} {w w' :World} {g n :Nat} {l :List α} (h :Cf K F w g n l) (hb :Below w.heap.size w w') :Cf K F w' g n l :=h.keep (Bd hb) (hb.block g h.lt)
theorem Cf.there {α :Type} {K :Elem α} {F :Nat→Prop} {w :World} {g n :Nat} {l :List α} (h :Cf K F w g n l) {i :Nat} (hi :i<n) :w.there g (i*K.size) K.size :=by
 obtain ⟨cs,rest,t,h1,h2,_⟩ :=h
 intro j hj
 have hlt :i*K.size+j< (cs++rest).length :=by
  rw [h2]
  have : (i+1) *K.size≤n*K.size :=Nat.mul_le_mul_right _ hi
  rw [Nat.add_mul] at this
  omega
 refine ⟨?_,by simp [World.frozen?,h1]⟩
 rw [Aa h1 (j :=i*K.size+j) (u := (cs++rest)[i*K.size+j]) (by simp)]
 rfl
theorem Cf.set {α :Type} {K :Elem α} {F :Nat→Prop} {w :World} {g n :Nat} {l :List α} (h :Cf K F w g n l) (hl :l.length<n) (hg : ¬F g) {a :α} {c :List Value} (hc :K.R F w a c) :Cf K F (w.setCells g (l.length*K.size) c) g n (l++ [a]) :=by
 obtain ⟨cs,rest,t,h1,h2,h3⟩ :=h
 have e1 :=h3.length
 have e2 :=K.len hc
 have hle :K.size≤rest.length :=by
  rw [List.length_append] at h2
  have : (l.length+1) *K.size≤n*K.size :=Nat.mul_le_mul_right _ hl
  rw [Nat.add_mul] at this
  omega
 have hk :=G8 hg c (l.length*K.size) w
 refine ⟨cs++c,rest.drop K.size,t, ?_, ?_,(h3.keep hk).append (All.one (K.keep hk hc))⟩
 ·have h1' :w.heap[g]? =some (.cells (cs++rest.take K.size++rest.drop K.size).toArray t) :=by rw [List.append_assoc,List.take_append_drop];exact h1
  have :=Nd c (rest.take K.size) cs (rest.drop K.size) w h1' (by rw [List.length_take,e2];omega)
  rwa [e1] at this
 ·simp only [List.length_append,List.length_drop] at h2⊢
  omega
theorem Cf.set1 {α :Type} {K :Elem α} {F :Nat→Prop} {w :World} {g n :Nat} {l :List α} (h :Cf K F w g n l) (hl :l.length<n) (hg : ¬F g) (hK :K.size=1) {a :α} {v :Value} (hc :K.R F w a [v]) :Cf K F (w.setCell ⟨g,l.length,none⟩ v) g n (l++ [a]) :=by
 have :=h.set hl hg hc
 rw [hK,Nat.mul_one] at this
 exact this
theorem Cf.whole {α :Type} {K :Elem α} {F F' :Nat→Prop} {w :World} {g n :Nat} {l :List α} (h :Cf K F w g n l) (hl :l.length=n) (hF : ∀k,F k→F' k) (hg :F' g) (hn :n≤maxLen) :IsL K F' w (.slice (some ⟨g,0,none⟩) n n) l :=by
 obtain ⟨cs,rest,t,h1,h2,h3⟩ :=h
 subst hl
 have e1 :=h3.length
 have hr :rest= [] :=List.eq_nil_of_length_eq_zero (by rw [List.length_append] at h2;omega)
 subst hr
 refine ⟨cs,⟨e1, ?_⟩,h3.mono fun k _=>hF k⟩
 by_cases h0 :l.length=0
 ·exact .inl ⟨h0,_,_,by rw [h0],fun h=>by cases h⟩
 ·refine .inr ⟨by omega,g,0,l.length,rfl,hg,lt_of_block h1,Nat.le_refl _,hn,fun j u hj=> ?_⟩
  rw [Nat.zero_add]
  exact Aa h1 (by simpa using hj)
theorem Pu {w :World} {g o n :Nat} (h :w.there g o n) {j :Nat} (hj :j<n) : (∃u,w.cell? ⟨g,o+j,none⟩ =some u) ∧w.frozen? ⟨g,o+j,none⟩ =false :=
 ⟨Option.isSome_iff_exists.1 (h j hj).1,(h j hj).2⟩
end Go.Proofs.YthehiijgnepcfaaGreat

