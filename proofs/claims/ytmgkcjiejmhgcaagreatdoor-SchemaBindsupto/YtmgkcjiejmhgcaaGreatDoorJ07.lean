/-
  2 texts of this proof in one, in build order: YExprs, YFit.
-/
import Derived.Deep.Cut
import Derived.Deep.LoopGhost
import Derived.Deep.CutRange
import Derived.Laws.EntriesVeiled
import Derived.Test.YtmgkcjiejmhgcaaGreatDoorJ06
set_option linter.unusedSimpArgs false
set_option linter.unusedVariables false
namespace Go.Proofs.YtmgkcjiejmhgcaaGreatDoor
open Go.RowKit Go.Maps
def E.opn :E→Int
 | .mk op _ _ _ _ _=>op
def Eh (e :E) :Bool := !geB 40 e
def Da (l :List E) :Bool :=l.any Eh
def De (st :Stm) :Bool := !st.rows.any Da&& !st.sets.any (fun t=>Eh t.2) && !Da st.out&& !Da st.order&& (decide (st.wher.opn=0) || !Eh st.wher)
structure FitS (st :Stm) :Prop where
 rows : ∀r∈st.rows,Ea r
 sets : ∀t∈st.sets,D4 t.2∧t.1.size≤maxLen
 out :Ea st.out
 order :Ea st.order
 wher :D4 st.wher
 name :st.name.size≤maxLen
 table :st.table.size≤maxLen
 col :st.col.size≤maxLen
 cols :Ma st.cols
 frm : ∀s∈st.frm,s.size≤maxLen
set_option maxRecDepth 100000 in
set_option maxHeartbeats 1000000 in
theorem G7 (e :E) (v :Value) (C :Nat) (w :World) (he :IsE (fun k=>k<C) w e v) (hC :C≤w.heap.size) (hf :D4 e) :
  Calls Tryz.prog 48 #[v] w fun r w'=>r= .returned (.bool (Eh e)) ∧Below w.heap.size w w' :=by
 obtain ⟨op,⟨xk,xn,xs⟩,s,name,n,ao,k,c,rfl⟩ :=he.shape
 have hbx :=Aq w (.cells (Ad op ⟨xk,xn,xs⟩ s name n (.slice ao k c)) 34)
 have HG :Calls Tryz.prog 49 #[.agg (Ad op ⟨xk,xn,xs⟩ s name n (.slice ao k c)), .int .i64 40] _ _ :=Lc 40 (Nat.le_refl _) e _ C _ (IsE.keep (Ag (hbx.mono hC)) e _ he) (Nat.le_trans hC hbx.size) hf
 have E :Hid (Eh e= !geB 40 e) :=rfl
 generalize Eh e=r at E
 generalize geB 40 e=g at HG E
 clear he hf
 go_enter Tryz.func48,Tryz.ntmps48
 go_wp2_with (go_at_call 49;go_fit HG;rintro e w1 ⟨rfl,hb1⟩)
 go_ret
 exact ⟨Aj (by rw [E.out]),Ak hbx hb1⟩
theorem Qx (l :List E) (sv :Value) (C :Nat) (w :World) (hl :IsL As (fun k=>k<C) w sv l) (hC :C≤w.heap.size) (hf :Ea l) :
  Calls Tryz.prog 51 #[sv, .func (.func 48) #[] #[]] w fun e w'=>e= .returned (.bool (Da l)) ∧Below w.heap.size w w' :=by
 obtain ⟨ao,c,rfl⟩ :=hl.shape
 have :=Ky l (fun k=>k<C) ao l.length c (atI l Eh) (fun _ W=>Below w.heap.size w W) (fun W=>Below w.heap.size w W) w (fun i W h=>h) (fun i W h=>hl.keep (Ag (h.mono hC)))
  (by
   rintro i x cs W hx h1 hR
   refine (G7 x (.agg cs.toArray) C W hR.2 (Nat.le_trans hC h1.size) (Fe hf (List.mem_of_getElem? hx))).mono ?_
   rintro e W' ⟨rfl,hb⟩
   exact ⟨by rw [Cn hx],h1.trans (hb.mono h1.size),fun _=>h1.trans (hb.mono h1.size)⟩)
  (Below.refl _ _)
 rw [D9] at this
 exact this
set_option maxRecDepth 100000 in
set_option maxHeartbeats 1000000 in
theorem G8 (l :List E) (sv :Value) (pb C :Nat) (w :World) (hl :IsL As (fun k=>k<C) w sv l) (hC :C≤w.heap.size) (hf :Ea l) (hp :w.cell? ⟨pb,0,none⟩ =some (.func (.func 48) #[] #[])) :
  Calls Tryz.prog 50 #[sv, .pointer (some ⟨pb,0,none⟩)] w fun r w'=>r= .returned (.bool (Da l)) ∧Below w.heap.size w w' :=by
 obtain ⟨ao,c,rfl⟩ :=hl.shape
 have HC :=Qx l _ C w hl hC hf
 generalize Da l=r at HC
 clear hl hf
 go_enter Tryz.func50,Tryz.ntmps50
 go_wp2_with (go_at_call 51;go_fit HC;rintro e w1 ⟨rfl,hb1⟩)
 go_ret
 exact ⟨rfl,hb1⟩
set_option maxRecDepth 100000 in
set_option maxHeartbeats 1000000 in
theorem Ou (t :Wd×E) (cs :List Value) (pb C :Nat) (w :World) (hR :C5.R (fun k=>k<C) w t cs) (hC :C≤w.heap.size) (hf :D4 t.2) (hp :w.cell? ⟨pb,0,none⟩ =some (.func (.func 48) #[] #[])) (hpb :pb<w.heap.size) :
  Calls Tryz.prog 52 #[.agg cs.toArray, .pointer (some ⟨pb,0,none⟩)] w fun r w'=>r= .returned (.bool (Eh t.2)) ∧Below w.heap.size w w' :=by
 obtain ⟨d,rfl,hd,he⟩ :=hR
 obtain ⟨xo,xk,xn,xs2,xs,xm,xi,xa,xl,xc,rfl⟩ :=Cm (F :=fun k=>k<C) (w :=w) (e :=t.2) ⟨hd,he⟩
 have hbx :=Aq w (.cells #[.string t.1, .int .i64 xo, .int .i64 xk, .int .i64 xn, .string xs2, .string xs, .string xm, .int .i64 xi, .slice xa xl xc] 56)
 have HG :=G7 t.2 _ C _ (IsE.keep (Ag (hbx.mono hC)) t.2 _ he) (Nat.le_trans hC hbx.size) hf
 have hp1 := (hbx.cell (p := ⟨pb,0,none⟩) hpb).trans hp
 generalize Eh t.2=r at HG
 clear he hf hd
 go_enter Tryz.func52,Tryz.ntmps52
 go_wp2_with (go_at_call 48;go_fit HG;rintro e w1 ⟨rfl,hb1⟩)
 go_ret
 exact ⟨rfl,Ak hbx hb1⟩
theorem Cy {F :Nat→Prop} {w :World} {st :Stm} {c :List Value} (h :Abs.R F w st c) : ∃o1 c1 o2 c2 o3 c3 o4 c4 o5 c5 op xk xn xs s nmv n8 o6 k6 c6 o7 c7,
  c= (sA st.kind st.name st.table st.col (.slice o1 st.cols.length c1) (.slice o2 st.rows.length c2) (.slice o3 st.sets.length c3) (.slice o4 st.frm.length c4) (.slice o5 st.out.length c5) op xk xn xs s nmv n8 (.slice o6 k6 c6) (.slice o7 st.order.length c7) st.down st.n).toList∧
  IsL Bg F w (.slice o1 st.cols.length c1) st.cols∧IsL Ds F w (.slice o2 st.rows.length c2) st.rows∧IsL C5 F w (.slice o3 st.sets.length c3) st.sets∧IsL Fz F w (.slice o4 st.frm.length c4) st.frm∧IsL As F w (.slice o5 st.out.length c5) st.out∧IsE F w st.wher (.agg (Ad op ⟨xk,xn,xs⟩ s nmv n8 (.slice o6 k6 c6))) ∧IsL As F w (.slice o7 st.order.length c7) st.order :=by
 obtain ⟨cols,rows,sets,frm,out,w8,order,hc,h8,h1,h2,h3,h4,h5,h6,h7⟩ :=h.is
 obtain ⟨o1,c1,rfl⟩ :=h1.shape
 obtain ⟨o2,c2,rfl⟩ :=h2.shape
 obtain ⟨o3,c3,rfl⟩ :=h3.shape
 obtain ⟨o4,c4,rfl⟩ :=h4.shape
 obtain ⟨o5,c5,rfl⟩ :=h5.shape
 obtain ⟨o7,c7,rfl⟩ :=h7.shape
 obtain ⟨op,xk,xn,xs,s,nmv,n8,o6,k6,c6,rfl⟩ :=Cm (F :=F) (w :=w) (e :=st.wher) ⟨h8,h6⟩
 exact ⟨o1,c1,o2,c2,o3,c3,o4,c4,o5,c5,op,xk,xn,xs,s,nmv,n8,o6,k6,c6,o7,c7,hc,h1,h2,h3,h4,h5,h6,h7⟩
set_option maxRecDepth 100000 in
set_option maxHeartbeats 4000000 in
theorem Gf (st :Stm) (cs :List Value) (C :Nat) (w :World) (hR :Abs.R (fun k=>k<C) w st cs) (hC :C≤w.heap.size) (hf :FitS st) :
  Calls Tryz.prog 22 #[.agg cs.toArray] w fun r w'=>r= .returned (.bool (De st)) ∧Below w.heap.size w w' :=by
 obtain ⟨o1,c1,o2,c2,o3,c3,o4,c4,o5,c5,op,xk,xn,xs,s,nmv,n8,o6,k6,c6,o7,c7,rfl,_,h2,h3,_,h5,h6,h7⟩ :=Cy hR
 have hb2 :=Bz w (.cells (sA st.kind st.name st.table st.col (.slice o1 st.cols.length c1) (.slice o2 st.rows.length c2) (.slice o3 st.sets.length c3) (.slice o4 st.frm.length c4) (.slice o5 st.out.length c5) op xk xn xs s nmv n8 (.slice o6 k6 c6) (.slice o7 st.order.length c7) st.down st.n) 36) (.cells #[.func (.func 48) #[] #[]] 87)
 have hbl0 : ((w.alloc (.cells (sA st.kind st.name st.table st.col (.slice o1 st.cols.length c1) (.slice o2 st.rows.length c2) (.slice o3 st.sets.length c3) (.slice o4 st.frm.length c4) (.slice o5 st.out.length c5) op xk xn xs s nmv n8 (.slice o6 k6 c6) (.slice o7 st.order.length c7) st.down st.n) 36)).alloc (.cells #[.func (.func 48) #[] #[]] 87)).heap[w.heap.size]? =some (.cells (sA st.kind st.name st.table st.col (.slice o1 st.cols.length c1) (.slice o2 st.rows.length c2) (.slice o3 st.sets.length c3) (.slice o4 st.frm.length c4) (.slice o5 st.out.length c5) op xk xn xs s nmv n8 (.slice o6 k6 c6) (.slice o7 st.order.length c7) st.down st.n) 36) :=Ae (Ab _ _) _
 have hbl1 : ((w.alloc (.cells (sA st.kind st.name st.table st.col (.slice o1 st.cols.length c1) (.slice o2 st.rows.length c2) (.slice o3 st.sets.length c3) (.slice o4 st.frm.length c4) (.slice o5 st.out.length c5) op xk xn xs s nmv n8 (.slice o6 k6 c6) (.slice o7 st.order.length c7) st.down st.n) 36)).alloc (.cells #[.func (.func 48) #[] #[]] 87)).heap[w.heap.size+1]? =some (.cells #[.func (.func 48) #[] #[]] 87) :=A0 _ _ _
 have hsz0 : ((w.alloc (.cells (sA st.kind st.name st.table st.col (.slice o1 st.cols.length c1) (.slice o2 st.rows.length c2) (.slice o3 st.sets.length c3) (.slice o4 st.frm.length c4) (.slice o5 st.out.length c5) op xk xn xs s nmv n8 (.slice o6 k6 c6) (.slice o7 st.order.length c7) st.down st.n) 36)).alloc (.cells #[.func (.func 48) #[] #[]] 87)).heap.size=w.heap.size+2 :=by simp
 generalize hW0 : ((w.alloc (.cells (sA st.kind st.name st.table st.col (.slice o1 st.cols.length c1) (.slice o2 st.rows.length c2) (.slice o3 st.sets.length c3) (.slice o4 st.frm.length c4) (.slice o5 st.out.length c5) op xk xn xs s nmv n8 (.slice o6 k6 c6) (.slice o7 st.order.length c7) st.down st.n) 36)).alloc (.cells #[.func (.func 48) #[] #[]] 87)) =W0 at hb2 hbl0 hbl1 hsz0
 have HW0 :Hid _ :=hW0
 clear hW0 hR
 have hz0 :W0.heap.size≤W0.heap.size :=Nat.le_refl _
 have KB : ∀W,Below W0.heap.size W0 W→Below w.heap.size w W :=fun W h=>Ak hb2 h
 have KP : ∀W,Below W0.heap.size W0 W→W.cell? ⟨w.heap.size+1,0,none⟩ =some (.func (.func 48) #[] #[]) :=fun W h=> (h.cell (p := ⟨w.heap.size+1,0,none⟩) (show w.heap.size+1<W0.heap.size by omega)).trans (Aa hbl1 rfl)
 have KL : ∀W,Below W0.heap.size W0 W→w.heap.size+1<W.heap.size :=fun W h=>Nat.lt_of_lt_of_le (show w.heap.size+1<W0.heap.size by omega) h.size
 have KC : ∀W,Below W0.heap.size W0 W→C≤W.heap.size :=fun W h=>Nat.le_trans hC (KB W h).size
 have H1 :=Kz st.rows (fun k=>k<C) o2 st.rows.length c2 (.pointer (some ⟨w.heap.size+1,0,none⟩)) (atI st.rows Da) (fun _ W=>Below W0.heap.size W0 W) (fun W=>Below W0.heap.size W0 W) W0 (fun i W h=>h) (fun i W h=>h2.keep (Ag ((KB W h).mono hC)))
  (by
   rintro i x cs W hx h1 ⟨sv,rfl,hsv⟩
   refine (G8 x sv (w.heap.size+1) C W hsv (KC W h1) (hf.rows x (List.mem_of_getElem? hx)) (KP W h1)).mono ?_
   rintro e W' ⟨rfl,hb⟩
   exact ⟨by rw [Cn hx],Ak h1 hb,fun _=>Ak h1 hb⟩)
  (Below.refl _ _)
 have H2 :=fun (W1 :World) (hW1 :Below W0.heap.size W0 W1) =>K0 st.sets (fun k=>k<C) o3 st.sets.length c3 (.pointer (some ⟨w.heap.size+1,0,none⟩)) (atI st.sets fun t=>Eh t.2) (fun _ W=>Below W0.heap.size W0 W) (fun W=>Below W0.heap.size W0 W) W1 (fun i W h=>h) (fun i W h=>h3.keep (Ag ((KB W h).mono hC)))
  (by
   rintro i x cs W hx h1 hR
   refine (Ou x cs (w.heap.size+1) C W hR (KC W h1) (hf.sets x (List.mem_of_getElem? hx)).1 (KP W h1) (KL W h1)).mono ?_
   rintro e W' ⟨rfl,hb⟩
   exact ⟨by rw [Cn hx],Ak h1 hb,fun _=>Ak h1 hb⟩)
  hW1
 have H3 :=fun (W1 :World) (hW1 :Below W0.heap.size W0 W1) =>G8 st.out (.slice o5 st.out.length c5) (w.heap.size+1) C W1 (h5.keep (Ag ((KB W1 hW1).mono hC))) (KC W1 hW1) hf.out (KP W1 hW1)
 have H4 :=fun (W1 :World) (hW1 :Below W0.heap.size W0 W1) =>G8 st.order (.slice o7 st.order.length c7) (w.heap.size+1) C W1 (h7.keep (Ag ((KB W1 hW1).mono hC))) (KC W1 hW1) hf.order (KP W1 hW1)
 have H5 :=fun (W1 :World) (hW1 :Below W0.heap.size W0 W1) =>G7 st.wher (.agg (Ad op ⟨xk,xn,xs⟩ s nmv n8 (.slice o6 k6 c6))) C W1 (IsE.keep (Ag ((KB W1 hW1).mono hC)) _ _ h6) (KC W1 hW1) hf.wher
 have hop :st.wher.opn=op :=by
  cases hw :st.wher with
  | mk op' x' s' nm' n' l'=>
   rw [hw] at h6
   obtain ⟨sv,he,_⟩ :=h6.open
   simp only [Value.agg.injEq,Array.mk.injEq,List.cons.injEq,Value.int.injEq,true_and] at he
   exact he.1.symm
 have E :Hid (De st= (!st.rows.any Da&& !st.sets.any (fun t=>Eh t.2) && !Da st.out&& !Da st.order&& (decide (op=0) || !Eh st.wher))) :=by show _=_;rw [De,hop]
 rw [D9] at H1
 simp only [D9] at H2
 generalize De st=r at E
 generalize st.rows.any Da=b1 at H1 E
 generalize st.sets.any (fun t=>Eh t.2) =b2 at H2 E
 generalize Da st.out=b3 at H3 E
 generalize Da st.order=b4 at H4 E
 generalize Eh st.wher=b5 at H5 E
 clear h2 h3 h5 h6 h7 hop hf
 have KS :Hid (∀W,Below W0.heap.size W0 W→W.heap[w.heap.size]? =some (.cells (sA st.kind st.name st.table st.col (.slice o1 st.cols.length c1) (.slice o2 st.rows.length c2) (.slice o3 st.sets.length c3) (.slice o4 st.frm.length c4) (.slice o5 st.out.length c5) op xk xn xs s nmv n8 (.slice o6 k6 c6) (.slice o7 st.order.length c7) st.down st.n) 36)) :=fun W h=> (h.block _ (show w.heap.size<W0.heap.size by omega)).trans hbl0
 cases b1
 rotate_left
 ·go_enter Tryz.func22,Tryz.ntmps22
  go_upto_region 4 with fail
  rw [HW0.out]
  have g5 :=Aa hbl0 (j :=5) rfl
  go_wp2_with (first | (go_at_call 53;go_fit H1;rintro e w1 ⟨rfl,B1⟩;have S1 :=KS.out _ B1;have g6 :=Aa S1 (j :=6) rfl;have g8 :=Aa S1 (j :=8) rfl))
  go_ret
  exact ⟨Aj (by rw [E.out];rfl),KB _ B1⟩
 cases b2
 rotate_left
 ·go_enter Tryz.func22,Tryz.ntmps22
  go_upto_region 4 with fail
  rw [HW0.out]
  have g5 :=Aa hbl0 (j :=5) rfl
  go_wp2_with (first | (go_at_call 53;go_fit H1;rintro e w1 ⟨rfl,B1⟩;have S1 :=KS.out _ B1;have g6 :=Aa S1 (j :=6) rfl;have g8 :=Aa S1 (j :=8) rfl) | (go_at_call 54;go_fit (H2 _ B1);rintro e w2 ⟨rfl,B2⟩;have S2 :=KS.out _ B2;have g8 :=Aa S2 (j :=8) rfl))
  go_ret
  exact ⟨Aj (by rw [E.out];rfl),KB _ B2⟩
 cases b3
 rotate_left
 ·go_enter Tryz.func22,Tryz.ntmps22
  go_upto_region 4 with fail
  rw [HW0.out]
  have g5 :=Aa hbl0 (j :=5) rfl
  go_wp2_with (first | (go_at_call 53;go_fit H1;rintro e w1 ⟨rfl,B1⟩;have S1 :=KS.out _ B1;have g6 :=Aa S1 (j :=6) rfl;have g8 :=Aa S1 (j :=8) rfl) | (go_at_call 54;go_fit (H2 _ B1);rintro e w2 ⟨rfl,B2⟩;have S2 :=KS.out _ B2;have g8 :=Aa S2 (j :=8) rfl) | (go_at_call_of 50 (Value.slice o5 st.out.length c5);go_fit (H3 _ B2);rintro e w3 ⟨rfl,hb3⟩;have B3 :=Ak B2 hb3;have S3' :=KS.out _ B3;have g17 :=Aa S3' (j :=17) rfl))
  go_ret
  exact ⟨Aj (by rw [E.out];rfl),KB _ B3⟩
 cases b4
 rotate_left
 ·go_enter Tryz.func22,Tryz.ntmps22
  go_upto_region 4 with fail
  rw [HW0.out]
  have g5 :=Aa hbl0 (j :=5) rfl
  go_wp2_with (first | (go_at_call 53;go_fit H1;rintro e w1 ⟨rfl,B1⟩;have S1 :=KS.out _ B1;have g6 :=Aa S1 (j :=6) rfl;have g8 :=Aa S1 (j :=8) rfl) | (go_at_call 54;go_fit (H2 _ B1);rintro e w2 ⟨rfl,B2⟩;have S2 :=KS.out _ B2;have g8 :=Aa S2 (j :=8) rfl) | (go_at_call_of 50 (Value.slice o5 st.out.length c5);go_fit (H3 _ B2);rintro e w3 ⟨rfl,hb3⟩;have B3 :=Ak B2 hb3;have S3' :=KS.out _ B3;have g17 :=Aa S3' (j :=17) rfl) | (go_at_call_of 50 (Value.slice o7 st.order.length c7);go_fit (H4 _ B3);rintro e w4 ⟨rfl,hb4⟩;have B4 :=Ak B3 hb4;have S4 :=KS.out _ B4;have gp :=KP _ B4;have g9 :=Aa S4 (j :=9) rfl;have g10 :=Aa S4 (j :=10) rfl;have g11 :=Aa S4 (j :=11) rfl;have g12 :=Aa S4 (j :=12) rfl;have g13 :=Aa S4 (j :=13) rfl;have g14 :=Aa S4 (j :=14) rfl;have g15 :=Aa S4 (j :=15) rfl;have g16 :=Aa S4 (j :=16) rfl))
  go_ret
  exact ⟨Aj (by rw [E.out];rfl),KB _ B4⟩
 by_cases h0 :op=0
 ·subst h0
  go_enter Tryz.func22,Tryz.ntmps22
  go_upto_region 4 with fail
  rw [HW0.out]
  have g5 :=Aa hbl0 (j :=5) rfl
  go_wp2_with (first | (go_at_call 53;go_fit H1;rintro e w1 ⟨rfl,B1⟩;have S1 :=KS.out _ B1;have g6 :=Aa S1 (j :=6) rfl;have g8 :=Aa S1 (j :=8) rfl) | (go_at_call 54;go_fit (H2 _ B1);rintro e w2 ⟨rfl,B2⟩;have S2 :=KS.out _ B2;have g8 :=Aa S2 (j :=8) rfl) | (go_at_call_of 50 (Value.slice o5 st.out.length c5);go_fit (H3 _ B2);rintro e w3 ⟨rfl,hb3⟩;have B3 :=Ak B2 hb3;have S3' :=KS.out _ B3;have g17 :=Aa S3' (j :=17) rfl) | (go_at_call_of 50 (Value.slice o7 st.order.length c7);go_fit (H4 _ B3);rintro e w4 ⟨rfl,hb4⟩;have B4 :=Ak B3 hb4;have S4 :=KS.out _ B4;have gp :=KP _ B4;have g9 :=Aa S4 (j :=9) rfl;have g10 :=Aa S4 (j :=10) rfl;have g11 :=Aa S4 (j :=11) rfl;have g12 :=Aa S4 (j :=12) rfl;have g13 :=Aa S4 (j :=13) rfl;have g14 :=Aa S4 (j :=14) rfl;have g15 :=Aa S4 (j :=15) rfl;have g16 :=Aa S4 (j :=16) rfl))
  go_ret
  exact ⟨Aj (by rw [E.out];rfl),KB _ B4⟩
 ·have h0' : (op==0) =false :=by simpa using h0
  have E2 :Hid (r= !b5) :=by show _=_;rw [E.out];simp [h0]
  go_enter Tryz.func22,Tryz.ntmps22
  go_upto_region 4 with fail
  rw [HW0.out]
  have g5 :=Aa hbl0 (j :=5) rfl
  go_wp2_with (first | (go_at_call 53;go_fit H1;rintro e w1 ⟨rfl,B1⟩;have S1 :=KS.out _ B1;have g6 :=Aa S1 (j :=6) rfl;have g8 :=Aa S1 (j :=8) rfl) | (go_at_call 54;go_fit (H2 _ B1);rintro e w2 ⟨rfl,B2⟩;have S2 :=KS.out _ B2;have g8 :=Aa S2 (j :=8) rfl) | (go_at_call_of 50 (Value.slice o5 st.out.length c5);go_fit (H3 _ B2);rintro e w3 ⟨rfl,hb3⟩;have B3 :=Ak B2 hb3;have S3' :=KS.out _ B3;have g17 :=Aa S3' (j :=17) rfl) | (go_at_call_of 50 (Value.slice o7 st.order.length c7);go_fit (H4 _ B3);rintro e w4 ⟨rfl,hb4⟩;have B4 :=Ak B3 hb4;have S4 :=KS.out _ B4;have gp :=KP _ B4;have g9 :=Aa S4 (j :=9) rfl;have g10 :=Aa S4 (j :=10) rfl;have g11 :=Aa S4 (j :=11) rfl;have g12 :=Aa S4 (j :=12) rfl;have g13 :=Aa S4 (j :=13) rfl;have g14 :=Aa S4 (j :=14) rfl;have g15 :=Aa S4 (j :=15) rfl;have g16 :=Aa S4 (j :=16) rfl) | (go_at_call 48;go_fit (H5 _ B4);rintro e w5 ⟨rfl,hb5⟩;have B5 :=Ak B4 hb5))
  go_ret
  exact ⟨Aj (by rw [E2.out]),KB _ B5⟩
end Go.Proofs.YtmgkcjiejmhgcaaGreatDoor

namespace Go.Proofs.YtmgkcjiejmhgcaaGreatDoor
open Go.RowKit Go.Maps
def Dg (k want :Int) :Bool :=decide (k=want) || decide (k=0)
def Gw (op :Int) :Int :=if op=3∨op=4 then 1 else 3
def Dh (ts :List Int) (want :Int) :Bool :=ts.all fun k=>Dg k want
def I4 (op :Int) (ts :List Int) :Bool :=
 if op=3∨op=4 then Dh ts 1 else if op=5∨op=6 then Dh ts 1 || Dh ts 2 else if op=7∨op=8∨op=9 then Dh ts 3 else true
set_option maxHeartbeats 400000 in
theorem Ld (k want :Int) (w :World) :Calls Tryz.prog 129 #[.int .i64 k, .int .i64 want] w fun e w'=>e= .returned (.bool (Dg k want)) ∧w'=w :=by
 by_cases h1 :k=want<;>by_cases h2 :k=0
 all_goals
  go_enter Tryz.func129,Tryz.ntmps129
  go_wp2
  go_ret
  exact ⟨Aj (by simp_all [Dg]),rfl⟩
set_option maxHeartbeats 400000 in
theorem T5 (op :Int) (w :World) :Calls Tryz.prog 132 #[.int .i64 op] w fun e w'=>e= .returned (.int .i64 (Gw op)) ∧w'=w :=by
 by_cases h1 :op=3
 ·subst h1
  go_enter Tryz.func132,Tryz.ntmps132
  go_wp2
  go_ret
  exact ⟨rfl,rfl⟩
 by_cases h2 :op=4
 ·subst h2
  go_enter Tryz.func132,Tryz.ntmps132
  go_wp2
  go_ret
  exact ⟨rfl,rfl⟩
 have E :Hid (Gw op=3) :=by show _=_;simp [Gw,h1,h2]
 have e3 : (op==3) =false :=by simpa using h1
 have e4 : (op==4) =false :=by simpa using h2
 go_enter Tryz.func132,Tryz.ntmps132
 go_wp2
 go_ret
 exact ⟨A6 (by rw [E.out]),rfl⟩
set_option maxHeartbeats 1000000 in
theorem Vl (k want :Int) (pb :Nat) (w :World) (hp :w.cell? ⟨pb,0,none⟩ =some (.int .i64 want)) :Calls Tryz.prog 145 #[.int .i64 k, .pointer (some ⟨pb,0,none⟩)] w fun e w'=>e= .returned (.bool (!Dg k want)) ∧w'=w :=by
 have HC :=fun w=>Ld k want w
 generalize Dg k want=b at HC
 go_enter Tryz.func145,Tryz.ntmps145
 go_wp2_with (go_at_call 129;go_fit (HC _);rintro e w1 ⟨rfl,rfl⟩)
 go_ret
 exact ⟨rfl,rfl⟩
set_option maxRecDepth 100000 in
set_option maxHeartbeats 1000000 in
theorem Xq (ts :List Int) (tv :Value) (want :Int) (pb :Nat) (F :Nat→Prop) (w :World) (hl :IsL Gu F w tv ts) (hp :w.cell? ⟨pb,0,none⟩ =some tv) (hpb :pb<w.heap.size) :
  Calls Tryz.prog 143 #[.int .i64 want, .pointer (some ⟨pb,0,none⟩)] w fun e w'=>e= .returned (.bool (Dh ts want)) ∧Below w.heap.size w w' :=by
 obtain ⟨ao,c,rfl⟩ :=hl.shape
 have hbx :=Aq w (.cells #[.int .i64 want] 3)
 have hp1 := (hbx.cell (p := ⟨pb,0,none⟩) hpb).trans hp
 have hbl : (w.alloc (.cells #[.int .i64 want] 3)).heap[w.heap.size]? =some (.cells #[.int .i64 want] 3) :=Ab _ _
 have HC :=Qu ts F ao ts.length c (.pointer (some ⟨w.heap.size,0,none⟩)) (atI ts fun k=> !Dg k want) (fun _ W=>W=w.alloc (.cells #[.int .i64 want] 3)) (fun W=>W=w.alloc (.cells #[.int .i64 want] 3)) _ (fun i W h=>h)
  (fun i W h=>by rw [h];exact hl.keep (Ar hbx))
  (by
   rintro i x cs W hx rfl rfl
   refine (Vl x want w.heap.size _ (Aa hbl rfl)).mono ?_
   rintro e W' ⟨rfl,rfl⟩
   exact ⟨by rw [Cn hx],rfl,fun _=>rfl⟩)
  rfl
 rw [D9] at HC
 have E :Hid (Dh ts want= !ts.any fun k=> !Dg k want) :=by show _=_;rw [Dh,List.all_eq_not_any_not]
 generalize Dh ts want=r at E
 generalize (ts.any fun k=> !Dg k want) =q at HC E
 clear hl
 go_enter Tryz.func143,Tryz.ntmps143
 go_wp2_with (go_at_call 144;go_fit HC;rintro e w1 ⟨rfl,rfl⟩)
 go_ret
 exact ⟨Aj (by rw [E.out]),hbx⟩
set_option maxRecDepth 100000 in
set_option maxHeartbeats 2000000 in
theorem Zj (op :Int) (ts :List Int) (tv :Value) (F :Nat→Prop) (w :World) (hl :IsL Gu F w tv ts) :
  Calls Tryz.prog 131 #[.int .i64 op,tv] w fun e w'=>e= .returned (.bool (I4 op ts)) ∧Below w.heap.size w w' :=by
 obtain ⟨ao,c,rfl⟩ :=hl.shape
 have hbx :=Aq w (.cells #[.slice ao ts.length c] 155)
 have hbl : (w.alloc (.cells #[.slice ao ts.length c] 155)).heap[w.heap.size]? =some (.cells #[.slice ao ts.length c] 155) :=Ab _ _
 have H :=fun (want :Int) (W :World) (h :Below (w.alloc (.cells #[.slice ao ts.length c] 155)).heap.size (w.alloc (.cells #[.slice ao ts.length c] 155)) W) =>Xq ts (.slice ao ts.length c) want w.heap.size F W ((hl.keep (Ar hbx)).keep (Ar h)) ((h.cell (p := ⟨w.heap.size,0,none⟩) (by simp)).trans (Aa hbl rfl)) (Nat.lt_of_lt_of_le (by simp) h.size)
 have E :Hid (I4 op ts=if op=3∨op=4 then Dh ts 1 else if op=5∨op=6 then Dh ts 1 || Dh ts 2 else if op=7∨op=8∨op=9 then Dh ts 3 else true) :=rfl
 generalize I4 op ts=r at E
 have H1 :=H 1
 have H2 :=H 2
 have H3 :=H 3
 clear H hl
 generalize Dh ts 1=b1 at H1 E
 generalize Dh ts 2=b2 at H2 E
 generalize Dh ts 3=b3 at H3 E
 by_cases h34 :op=3∨op=4
 ·have E2 :Hid (r=b1) :=by show _=_;rw [E.out,if_pos h34]
  clear E
  rcases h34 with rfl | rfl
  all_goals
   go_enter Tryz.func131,Tryz.ntmps131
   go_wp2_with (go_at_call_of 143 (Value.int .i64 1);go_fit (H1 _ (Below.refl _ _));rintro e w1 ⟨rfl,hb1⟩)
   go_ret
   exact ⟨Aj (by rw [E2.out]),Ak hbx hb1⟩
 by_cases h56 :op=5∨op=6
 ·have E2 :Hid (r= (b1 || b2)) :=by show _=_;rw [E.out,if_neg h34,if_pos h56]
  clear E h34
  cases b1
  ·rcases h56 with rfl | rfl
   all_goals
    go_enter Tryz.func131,Tryz.ntmps131
    go_wp2_with (first | (go_at_call_of 143 (Value.int .i64 1);go_fit (H1 _ (Below.refl _ _));rintro e w1 ⟨rfl,hb1⟩) | (go_at_call_of 143 (Value.int .i64 2);go_fit (H2 _ hb1);rintro e w2 ⟨rfl,hb2⟩))
    go_ret
    exact ⟨Aj (by rw [E2.out];rfl),Ak hbx (Ak hb1 hb2)⟩
  ·rcases h56 with rfl | rfl
   all_goals
    go_enter Tryz.func131,Tryz.ntmps131
    go_wp2_with (go_at_call_of 143 (Value.int .i64 1);go_fit (H1 _ (Below.refl _ _));rintro e w1 ⟨rfl,hb1⟩)
    go_ret
    exact ⟨Aj (by rw [E2.out];rfl),Ak hbx hb1⟩
 by_cases h79 :op=7∨op=8∨op=9
 ·have E2 :Hid (r=b3) :=by show _=_;rw [E.out,if_neg h34,if_neg h56,if_pos h79]
  clear E h34 h56
  rcases h79 with rfl | rfl | rfl
  all_goals
   go_enter Tryz.func131,Tryz.ntmps131
   go_wp2_with (go_at_call_of 143 (Value.int .i64 3);go_fit (H3 _ (Below.refl _ _));rintro e w1 ⟨rfl,hb1⟩)
   go_ret
   exact ⟨Aj (by rw [E2.out]),Ak hbx hb1⟩
 have E2 :Hid (r=true) :=by show _=_;rw [E.out,if_neg h34,if_neg h56,if_neg h79]
 have e3 : (op==3) =false :=by simp;omega
 have e4 : (op==4) =false :=by simp;omega
 have e5 : (op==5) =false :=by simp;omega
 have e6 : (op==6) =false :=by simp;omega
 have e7 : (op==7) =false :=by simp;omega
 have e8 : (op==8) =false :=by simp;omega
 have e9 : (op==9) =false :=by simp;omega
 clear H1 H2 H3 E h34 h56 h79
 go_enter Tryz.func131,Tryz.ntmps131
 go_wp2_with fail
 go_ret
 exact ⟨Aj (by rw [E2.out]),hbx⟩
end Go.Proofs.YtmgkcjiejmhgcaaGreatDoor

