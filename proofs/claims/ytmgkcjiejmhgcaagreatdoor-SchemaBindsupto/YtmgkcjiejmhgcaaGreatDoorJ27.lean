/-
  1 texts of this proof in one, in build order: YBindS.
-/
import Derived.Test.YtmgkcjiejmhgcaaGreatDoorJ26
set_option linter.unusedSimpArgs false
set_option linter.unusedVariables false
namespace Go.Proofs.YtmgkcjiejmhgcaaGreatDoor
open Go.RowKit Go.Maps
def Fj (R :Except Int Stm) (F :Nat→Prop) (w' :World) (v :Value) :Prop :=
 match R with
 | .error m=>v= .tuple #[.agg Ah, .int .i64 m]
 | .ok st=> ∃arr :Array Value,v= .tuple #[.agg arr, .int .i64 0] ∧arr.size=20∧arr.all (·.oneCell') =true∧Abs.R F w' st arr.toList
theorem Iy {arr :Array Value} (h :arr.size=20) : (Tryz.prog.info? 36).map (·.size) =some arr.size :=by rw [h];exact Am
theorem SeSt.row {w W :World} {arr :Array Value} (h :SeSt w W arr) {b :Nat} (hb :w.heap.size+3≤b) (cells :Array Value) :SeSt w (W.setRow b cells) arr :=
 ⟨Aw h.stm (by omega) _,Aw h.room (by omega) _,Below.row h.bel (by omega) _,Nat.le_trans h.big (by simp [World.setRow])⟩
theorem Cx {P :Program} {ops :Array Oper} {rest :List Oper} {o :Oper} {a :Act} {w :World} {Q :Exit→Act→World→Prop} (hw :Region.wanted o (yielded ops a.tmps) =true) (ty :TypeId) (x :Operand) (ho :o.op= .load ty x)
  (g :Nat) (hx :a.eval x= .pointer (some ⟨g,0,none⟩)) (t :TypeId) (cs :Array Value) (fr :Nat×Nat) (d :TypeDesc) (hg :w.heap[g]? =some (.cells cs t fr))
  (hu :P.underlying ty=some d) (hd : (match d with | .struct _ | .array _ _=>true | _=>false) =true) (hi : (P.info? ty).map (·.size) =some cs.size)
  (h :wpList P ops Q rest (a.put o.dst (.agg cs)) w) :wpList P ops Q (o ::rest) a w :=
 wpList_step fun K hK=>by rw [if_pos hw];exact wp_load_row ty x ho g hx t cs fr d hg hu hd hi (hK _ _ h)
set_option maxRecDepth 100000 in
set_option maxHeartbeats 8000000 in
theorem Rr (ct :CatD) (cv :Value) (st :Stm) (cs :List Value) (C :Nat) (w :World) (hc :Bh (fun k=>k<C) w ct cv) (hR :Abs.R (fun k=>k<C) w st cs) (hC :C≤w.heap.size) (hfc :Gv ct) (hf :FitB st) (hcb :Cq ct=false) :
  Calls Tryz.prog 6 #[cv, .agg cs.toArray] w fun r w'=> (∃u,r= .returned u∧Fj (Bw ct st) (Fx C w.heap.size) w' u) ∧Below w.heap.size w w' :=by
 obtain ⟨o1,c1,o2,c2,o3,c3,o4,c4,o5,c5,op,xk,xn,xs,s,nmv,n8,o6,k6,c6,o7,c7,rfl,i1,i2,i3,i4,i5,i6,i7⟩ :=Cy hR
 obtain ⟨tv,iv,rfl,htl,hil⟩ :=hc
 have hb3 :=Fc w (.cells #[tv,iv] 25) (.cells (sA st.kind st.name st.table st.col (.slice o1 st.cols.length c1) (.slice o2 st.rows.length c2) (.slice o3 st.sets.length c3) (.slice o4 st.frm.length c4) (.slice o5 st.out.length c5) op xk xn xs s nmv n8 (.slice o6 k6 c6) (.slice o7 st.order.length c7) st.down st.n) 36) (.cells Ah 36)
 have S0 :SeSt w (((w.alloc (.cells #[tv,iv] 25)).alloc (.cells (sA st.kind st.name st.table st.col (.slice o1 st.cols.length c1) (.slice o2 st.rows.length c2) (.slice o3 st.sets.length c3) (.slice o4 st.frm.length c4) (.slice o5 st.out.length c5) op xk xn xs s nmv n8 (.slice o6 k6 c6) (.slice o7 st.order.length c7) st.down st.n) 36)).alloc (.cells Ah 36)) (sA st.kind st.name st.table st.col (.slice o1 st.cols.length c1) (.slice o2 st.rows.length c2) (.slice o3 st.sets.length c3) (.slice o4 st.frm.length c4) (.slice o5 st.out.length c5) op xk xn xs s nmv n8 (.slice o6 k6 c6) (.slice o7 st.order.length c7) st.down st.n) := ⟨Ae (A0 w (.cells #[tv,iv] 25) (.cells (sA st.kind st.name st.table st.col (.slice o1 st.cols.length c1) (.slice o2 st.rows.length c2) (.slice o3 st.sets.length c3) (.slice o4 st.frm.length c4) (.slice o5 st.out.length c5) op xk xn xs s nmv n8 (.slice o6 k6 c6) (.slice o7 st.order.length c7) st.down st.n) 36)) _,Dl w (.cells #[tv,iv] 25) (.cells (sA st.kind st.name st.table st.col (.slice o1 st.cols.length c1) (.slice o2 st.rows.length c2) (.slice o3 st.sets.length c3) (.slice o4 st.frm.length c4) (.slice o5 st.out.length c5) op xk xn xs s nmv n8 (.slice o6 k6 c6) (.slice o7 st.order.length c7) st.down st.n) 36) (.cells Ah 36),hb3,by simp⟩
 have hcat : (((w.alloc (.cells #[tv,iv] 25)).alloc (.cells (sA st.kind st.name st.table st.col (.slice o1 st.cols.length c1) (.slice o2 st.rows.length c2) (.slice o3 st.sets.length c3) (.slice o4 st.frm.length c4) (.slice o5 st.out.length c5) op xk xn xs s nmv n8 (.slice o6 k6 c6) (.slice o7 st.order.length c7) st.down st.n) 36)).alloc (.cells Ah 36)).heap[w.heap.size]? =some (.cells #[tv,iv] 25) :=Ae (Ae (Ab _ _) _) _
 have hz :Ah.all (·.oneCell') =true :=Dq (Au _ _ _) (Au _ _ _) (Au _ _ _) (Au _ _ _) (Au _ _ _) (Au _ _ _) (Au _ _ _)
 have hCW :C≤ (((w.alloc (.cells #[tv,iv] 25)).alloc (.cells (sA st.kind st.name st.table st.col (.slice o1 st.cols.length c1) (.slice o2 st.rows.length c2) (.slice o3 st.sets.length c3) (.slice o4 st.frm.length c4) (.slice o5 st.out.length c5) op xk xn xs s nmv n8 (.slice o6 k6 c6) (.slice o7 st.order.length c7) st.down st.n) 36)).alloc (.cells Ah 36)).heap.size :=Nat.le_trans hC hb3.size
 have hcW :Bh (fun k=>k<C) (((w.alloc (.cells #[tv,iv] 25)).alloc (.cells (sA st.kind st.name st.table st.col (.slice o1 st.cols.length c1) (.slice o2 st.rows.length c2) (.slice o3 st.sets.length c3) (.slice o4 st.frm.length c4) (.slice o5 st.out.length c5) op xk xn xs s nmv n8 (.slice o6 k6 c6) (.slice o7 st.order.length c7) st.down st.n) 36)).alloc (.cells Ah 36)) ct (.agg #[tv,iv]) := ⟨tv,iv,rfl,htl.keep (Ag (hb3.mono hC)),hil.keep (Ag (hb3.mono hC))⟩
 have hRW :=Abs.keep (Ag (hb3.mono hC)) hR
 have ct0 :=Aa hcat (j :=0) rfl
 have ct1 :=Aa hcat (j :=1) rfl
 have hlc :=lt_of_block hcat
 have HG :=G6 ct (.agg #[tv,iv]) C (((w.alloc (.cells #[tv,iv] 25)).alloc (.cells (sA st.kind st.name st.table st.col (.slice o1 st.cols.length c1) (.slice o2 st.rows.length c2) (.slice o3 st.sets.length c3) (.slice o4 st.frm.length c4) (.slice o5 st.out.length c5) op xk xn xs s nmv n8 (.slice o6 k6 c6) (.slice o7 st.order.length c7) st.down st.n) 36)).alloc (.cells Ah 36)) hcW hCW hfc
 have HX :=fun (W :World) (h :Below (((w.alloc (.cells #[tv,iv] 25)).alloc (.cells (sA st.kind st.name st.table st.col (.slice o1 st.cols.length c1) (.slice o2 st.rows.length c2) (.slice o3 st.sets.length c3) (.slice o4 st.frm.length c4) (.slice o5 st.out.length c5) op xk xn xs s nmv n8 (.slice o6 k6 c6) (.slice o7 st.order.length c7) st.down st.n) 36)).alloc (.cells Ah 36)).heap.size (((w.alloc (.cells #[tv,iv] 25)).alloc (.cells (sA st.kind st.name st.table st.col (.slice o1 st.cols.length c1) (.slice o2 st.rows.length c2) (.slice o3 st.sets.length c3) (.slice o4 st.frm.length c4) (.slice o5 st.out.length c5) op xk xn xs s nmv n8 (.slice o6 k6 c6) (.slice o7 st.order.length c7) st.down st.n) 36)).alloc (.cells Ah 36)) W) =>Gf st (sA st.kind st.name st.table st.col (.slice o1 st.cols.length c1) (.slice o2 st.rows.length c2) (.slice o3 st.sets.length c3) (.slice o4 st.frm.length c4) (.slice o5 st.out.length c5) op xk xn xs s nmv n8 (.slice o6 k6 c6) (.slice o7 st.order.length c7) st.down st.n).toList C W (Abs.keep (Ag (h.mono hCW)) hRW) (Nat.le_trans hCW h.size) hf.fs
 have HE :Hid (Bw ct st= .error 1) :=if_pos (.inl hcb)
 rw [hcb] at HG
 clear hcW hRW htl hil hR i1 i2 i3 i4 i5 i6 i7 HX hcb
 go_enter Tryz.func6,Tryz.ntmps6
 go_wp2_with (first | (go_at_call 9;go_fit HG;rintro e w1 ⟨rfl,hb1⟩;have S1 :=S0.below hb1) | (refine wpList_store_row rfl 36 _ _ rfl (w.heap.size+1+1) Ah ?_ ?_ 36 Ah ?_ ?_ ?_ ?_ ?_;exact rfl;exact rfl;exact S1.room;exact Am;exact rfl;exact hz))
 refine bodyPost_ret (A2 Tryz.results6 _ _ (w.heap.size+1+1) 36 Ah _ _ _ rfl rfl (An S1.room) Tryz.underlying36 rfl Am) rfl ⟨⟨_,rfl, ?_⟩,Below.row S1.bel (by omega) _⟩
 rw [HE.out]
 rfl
set_option maxRecDepth 100000 in
set_option maxHeartbeats 8000000 in
theorem Qk (ct :CatD) (cv :Value) (st :Stm) (cs :List Value) (C :Nat) (w :World) (hc :Bh (fun k=>k<C) w ct cv) (hR :Abs.R (fun k=>k<C) w st cs) (hC :C≤w.heap.size) (hfc :Gv ct) (hf :FitB st) (hcb :Cq ct=true) (hxb :De st=false) :
  Calls Tryz.prog 6 #[cv, .agg cs.toArray] w fun r w'=> (∃u,r= .returned u∧Fj (Bw ct st) (Fx C w.heap.size) w' u) ∧Below w.heap.size w w' :=by
 obtain ⟨o1,c1,o2,c2,o3,c3,o4,c4,o5,c5,op,xk,xn,xs,s,nmv,n8,o6,k6,c6,o7,c7,rfl,i1,i2,i3,i4,i5,i6,i7⟩ :=Cy hR
 obtain ⟨tv,iv,rfl,htl,hil⟩ :=hc
 have hb3 :=Fc w (.cells #[tv,iv] 25) (.cells (sA st.kind st.name st.table st.col (.slice o1 st.cols.length c1) (.slice o2 st.rows.length c2) (.slice o3 st.sets.length c3) (.slice o4 st.frm.length c4) (.slice o5 st.out.length c5) op xk xn xs s nmv n8 (.slice o6 k6 c6) (.slice o7 st.order.length c7) st.down st.n) 36) (.cells Ah 36)
 have S0 :SeSt w (((w.alloc (.cells #[tv,iv] 25)).alloc (.cells (sA st.kind st.name st.table st.col (.slice o1 st.cols.length c1) (.slice o2 st.rows.length c2) (.slice o3 st.sets.length c3) (.slice o4 st.frm.length c4) (.slice o5 st.out.length c5) op xk xn xs s nmv n8 (.slice o6 k6 c6) (.slice o7 st.order.length c7) st.down st.n) 36)).alloc (.cells Ah 36)) (sA st.kind st.name st.table st.col (.slice o1 st.cols.length c1) (.slice o2 st.rows.length c2) (.slice o3 st.sets.length c3) (.slice o4 st.frm.length c4) (.slice o5 st.out.length c5) op xk xn xs s nmv n8 (.slice o6 k6 c6) (.slice o7 st.order.length c7) st.down st.n) := ⟨Ae (A0 w (.cells #[tv,iv] 25) (.cells (sA st.kind st.name st.table st.col (.slice o1 st.cols.length c1) (.slice o2 st.rows.length c2) (.slice o3 st.sets.length c3) (.slice o4 st.frm.length c4) (.slice o5 st.out.length c5) op xk xn xs s nmv n8 (.slice o6 k6 c6) (.slice o7 st.order.length c7) st.down st.n) 36)) _,Dl w (.cells #[tv,iv] 25) (.cells (sA st.kind st.name st.table st.col (.slice o1 st.cols.length c1) (.slice o2 st.rows.length c2) (.slice o3 st.sets.length c3) (.slice o4 st.frm.length c4) (.slice o5 st.out.length c5) op xk xn xs s nmv n8 (.slice o6 k6 c6) (.slice o7 st.order.length c7) st.down st.n) 36) (.cells Ah 36),hb3,by simp⟩
 have hcat : (((w.alloc (.cells #[tv,iv] 25)).alloc (.cells (sA st.kind st.name st.table st.col (.slice o1 st.cols.length c1) (.slice o2 st.rows.length c2) (.slice o3 st.sets.length c3) (.slice o4 st.frm.length c4) (.slice o5 st.out.length c5) op xk xn xs s nmv n8 (.slice o6 k6 c6) (.slice o7 st.order.length c7) st.down st.n) 36)).alloc (.cells Ah 36)).heap[w.heap.size]? =some (.cells #[tv,iv] 25) :=Ae (Ae (Ab _ _) _) _
 have hz :Ah.all (·.oneCell') =true :=Dq (Au _ _ _) (Au _ _ _) (Au _ _ _) (Au _ _ _) (Au _ _ _) (Au _ _ _) (Au _ _ _)
 have hCW :C≤ (((w.alloc (.cells #[tv,iv] 25)).alloc (.cells (sA st.kind st.name st.table st.col (.slice o1 st.cols.length c1) (.slice o2 st.rows.length c2) (.slice o3 st.sets.length c3) (.slice o4 st.frm.length c4) (.slice o5 st.out.length c5) op xk xn xs s nmv n8 (.slice o6 k6 c6) (.slice o7 st.order.length c7) st.down st.n) 36)).alloc (.cells Ah 36)).heap.size :=Nat.le_trans hC hb3.size
 have hcW :Bh (fun k=>k<C) (((w.alloc (.cells #[tv,iv] 25)).alloc (.cells (sA st.kind st.name st.table st.col (.slice o1 st.cols.length c1) (.slice o2 st.rows.length c2) (.slice o3 st.sets.length c3) (.slice o4 st.frm.length c4) (.slice o5 st.out.length c5) op xk xn xs s nmv n8 (.slice o6 k6 c6) (.slice o7 st.order.length c7) st.down st.n) 36)).alloc (.cells Ah 36)) ct (.agg #[tv,iv]) := ⟨tv,iv,rfl,htl.keep (Ag (hb3.mono hC)),hil.keep (Ag (hb3.mono hC))⟩
 have hRW :=Abs.keep (Ag (hb3.mono hC)) hR
 have ct0 :=Aa hcat (j :=0) rfl
 have ct1 :=Aa hcat (j :=1) rfl
 have hlc :=lt_of_block hcat
 have HG :=G6 ct (.agg #[tv,iv]) C (((w.alloc (.cells #[tv,iv] 25)).alloc (.cells (sA st.kind st.name st.table st.col (.slice o1 st.cols.length c1) (.slice o2 st.rows.length c2) (.slice o3 st.sets.length c3) (.slice o4 st.frm.length c4) (.slice o5 st.out.length c5) op xk xn xs s nmv n8 (.slice o6 k6 c6) (.slice o7 st.order.length c7) st.down st.n) 36)).alloc (.cells Ah 36)) hcW hCW hfc
 have HX :=fun (W :World) (h :Below (((w.alloc (.cells #[tv,iv] 25)).alloc (.cells (sA st.kind st.name st.table st.col (.slice o1 st.cols.length c1) (.slice o2 st.rows.length c2) (.slice o3 st.sets.length c3) (.slice o4 st.frm.length c4) (.slice o5 st.out.length c5) op xk xn xs s nmv n8 (.slice o6 k6 c6) (.slice o7 st.order.length c7) st.down st.n) 36)).alloc (.cells Ah 36)).heap.size (((w.alloc (.cells #[tv,iv] 25)).alloc (.cells (sA st.kind st.name st.table st.col (.slice o1 st.cols.length c1) (.slice o2 st.rows.length c2) (.slice o3 st.sets.length c3) (.slice o4 st.frm.length c4) (.slice o5 st.out.length c5) op xk xn xs s nmv n8 (.slice o6 k6 c6) (.slice o7 st.order.length c7) st.down st.n) 36)).alloc (.cells Ah 36)) W) =>Gf st (sA st.kind st.name st.table st.col (.slice o1 st.cols.length c1) (.slice o2 st.rows.length c2) (.slice o3 st.sets.length c3) (.slice o4 st.frm.length c4) (.slice o5 st.out.length c5) op xk xn xs s nmv n8 (.slice o6 k6 c6) (.slice o7 st.order.length c7) st.down st.n).toList C W (Abs.keep (Ag (h.mono hCW)) hRW) (Nat.le_trans hCW h.size) hf.fs
 rw [hcb] at HG
 have HE :Hid (Bw ct st= .error 1) :=if_pos (.inr hxb)
 rw [hxb] at HX
 clear hcW hRW htl hil hR i1 i2 i3 i4 i5 i6 i7 hcb hxb
 go_enter Tryz.func6,Tryz.ntmps6
 go_wp2_with (first | (go_at_call 9;go_fit HG;rintro e w1 ⟨rfl,hb1⟩;have S1 :=S0.below hb1;have HX1 :=HX _ hb1) | (go_at_call 22;go_fit HX1;rintro e w2 ⟨rfl,hb2⟩;have S2 :=S1.below hb2) | (refine Cx ?_ 36 _ rfl (w.heap.size+1) ?_ 36 _ (0,0) _ S1.stm Tryz.underlying36 ?_ ?_ ?_;exact rfl;exact rfl;exact rfl;exact Am) | (refine wpList_store_row rfl 36 _ _ rfl (w.heap.size+1+1) Ah ?_ ?_ 36 Ah ?_ ?_ ?_ ?_ ?_;exact rfl;exact rfl;exact S2.room;exact Am;exact rfl;exact hz))
 refine bodyPost_ret (A2 Tryz.results6 _ _ (w.heap.size+1+1) 36 Ah _ _ _ rfl rfl (An S2.room) Tryz.underlying36 rfl Am) rfl ⟨⟨_,rfl, ?_⟩,Below.row S2.bel (by omega) _⟩
 rw [HE.out]
 rfl
set_option maxRecDepth 100000 in
set_option maxHeartbeats 8000000 in
theorem Wf (ct :CatD) (cv :Value) (st :Stm) (cs :List Value) (C :Nat) (w :World) (hc :Bh (fun k=>k<C) w ct cv) (hR :Abs.R (fun k=>k<C) w st cs) (hC :C≤w.heap.size) (hfc :Gv ct) (hf :FitB st) (hcb :Cq ct=true) (hxb :De st=true) (m :Int) (hkr :Co ct st= .error m) :
  Calls Tryz.prog 6 #[cv, .agg cs.toArray] w fun r w'=> (∃u,r= .returned u∧Fj (Bw ct st) (Fx C w.heap.size) w' u) ∧Below w.heap.size w w' :=by
 obtain ⟨o1,c1,o2,c2,o3,c3,o4,c4,o5,c5,op,xk,xn,xs,s,nmv,n8,o6,k6,c6,o7,c7,rfl,i1,i2,i3,i4,i5,i6,i7⟩ :=Cy hR
 obtain ⟨tv,iv,rfl,htl,hil⟩ :=hc
 have hb3 :=Fc w (.cells #[tv,iv] 25) (.cells (sA st.kind st.name st.table st.col (.slice o1 st.cols.length c1) (.slice o2 st.rows.length c2) (.slice o3 st.sets.length c3) (.slice o4 st.frm.length c4) (.slice o5 st.out.length c5) op xk xn xs s nmv n8 (.slice o6 k6 c6) (.slice o7 st.order.length c7) st.down st.n) 36) (.cells Ah 36)
 have S0 :SeSt w (((w.alloc (.cells #[tv,iv] 25)).alloc (.cells (sA st.kind st.name st.table st.col (.slice o1 st.cols.length c1) (.slice o2 st.rows.length c2) (.slice o3 st.sets.length c3) (.slice o4 st.frm.length c4) (.slice o5 st.out.length c5) op xk xn xs s nmv n8 (.slice o6 k6 c6) (.slice o7 st.order.length c7) st.down st.n) 36)).alloc (.cells Ah 36)) (sA st.kind st.name st.table st.col (.slice o1 st.cols.length c1) (.slice o2 st.rows.length c2) (.slice o3 st.sets.length c3) (.slice o4 st.frm.length c4) (.slice o5 st.out.length c5) op xk xn xs s nmv n8 (.slice o6 k6 c6) (.slice o7 st.order.length c7) st.down st.n) := ⟨Ae (A0 w (.cells #[tv,iv] 25) (.cells (sA st.kind st.name st.table st.col (.slice o1 st.cols.length c1) (.slice o2 st.rows.length c2) (.slice o3 st.sets.length c3) (.slice o4 st.frm.length c4) (.slice o5 st.out.length c5) op xk xn xs s nmv n8 (.slice o6 k6 c6) (.slice o7 st.order.length c7) st.down st.n) 36)) _,Dl w (.cells #[tv,iv] 25) (.cells (sA st.kind st.name st.table st.col (.slice o1 st.cols.length c1) (.slice o2 st.rows.length c2) (.slice o3 st.sets.length c3) (.slice o4 st.frm.length c4) (.slice o5 st.out.length c5) op xk xn xs s nmv n8 (.slice o6 k6 c6) (.slice o7 st.order.length c7) st.down st.n) 36) (.cells Ah 36),hb3,by simp⟩
 have hcat : (((w.alloc (.cells #[tv,iv] 25)).alloc (.cells (sA st.kind st.name st.table st.col (.slice o1 st.cols.length c1) (.slice o2 st.rows.length c2) (.slice o3 st.sets.length c3) (.slice o4 st.frm.length c4) (.slice o5 st.out.length c5) op xk xn xs s nmv n8 (.slice o6 k6 c6) (.slice o7 st.order.length c7) st.down st.n) 36)).alloc (.cells Ah 36)).heap[w.heap.size]? =some (.cells #[tv,iv] 25) :=Ae (Ae (Ab _ _) _) _
 have hz :Ah.all (·.oneCell') =true :=Dq (Au _ _ _) (Au _ _ _) (Au _ _ _) (Au _ _ _) (Au _ _ _) (Au _ _ _) (Au _ _ _)
 have hCW :C≤ (((w.alloc (.cells #[tv,iv] 25)).alloc (.cells (sA st.kind st.name st.table st.col (.slice o1 st.cols.length c1) (.slice o2 st.rows.length c2) (.slice o3 st.sets.length c3) (.slice o4 st.frm.length c4) (.slice o5 st.out.length c5) op xk xn xs s nmv n8 (.slice o6 k6 c6) (.slice o7 st.order.length c7) st.down st.n) 36)).alloc (.cells Ah 36)).heap.size :=Nat.le_trans hC hb3.size
 have hcW :Bh (fun k=>k<C) (((w.alloc (.cells #[tv,iv] 25)).alloc (.cells (sA st.kind st.name st.table st.col (.slice o1 st.cols.length c1) (.slice o2 st.rows.length c2) (.slice o3 st.sets.length c3) (.slice o4 st.frm.length c4) (.slice o5 st.out.length c5) op xk xn xs s nmv n8 (.slice o6 k6 c6) (.slice o7 st.order.length c7) st.down st.n) 36)).alloc (.cells Ah 36)) ct (.agg #[tv,iv]) := ⟨tv,iv,rfl,htl.keep (Ag (hb3.mono hC)),hil.keep (Ag (hb3.mono hC))⟩
 have hRW :=Abs.keep (Ag (hb3.mono hC)) hR
 have ct0 :=Aa hcat (j :=0) rfl
 have ct1 :=Aa hcat (j :=1) rfl
 have hlc :=lt_of_block hcat
 have HG :=G6 ct (.agg #[tv,iv]) C (((w.alloc (.cells #[tv,iv] 25)).alloc (.cells (sA st.kind st.name st.table st.col (.slice o1 st.cols.length c1) (.slice o2 st.rows.length c2) (.slice o3 st.sets.length c3) (.slice o4 st.frm.length c4) (.slice o5 st.out.length c5) op xk xn xs s nmv n8 (.slice o6 k6 c6) (.slice o7 st.order.length c7) st.down st.n) 36)).alloc (.cells Ah 36)) hcW hCW hfc
 have HX :=fun (W :World) (h :Below (((w.alloc (.cells #[tv,iv] 25)).alloc (.cells (sA st.kind st.name st.table st.col (.slice o1 st.cols.length c1) (.slice o2 st.rows.length c2) (.slice o3 st.sets.length c3) (.slice o4 st.frm.length c4) (.slice o5 st.out.length c5) op xk xn xs s nmv n8 (.slice o6 k6 c6) (.slice o7 st.order.length c7) st.down st.n) 36)).alloc (.cells Ah 36)).heap.size (((w.alloc (.cells #[tv,iv] 25)).alloc (.cells (sA st.kind st.name st.table st.col (.slice o1 st.cols.length c1) (.slice o2 st.rows.length c2) (.slice o3 st.sets.length c3) (.slice o4 st.frm.length c4) (.slice o5 st.out.length c5) op xk xn xs s nmv n8 (.slice o6 k6 c6) (.slice o7 st.order.length c7) st.down st.n) 36)).alloc (.cells Ah 36)) W) =>Gf st (sA st.kind st.name st.table st.col (.slice o1 st.cols.length c1) (.slice o2 st.rows.length c2) (.slice o3 st.sets.length c3) (.slice o4 st.frm.length c4) (.slice o5 st.out.length c5) op xk xn xs s nmv n8 (.slice o6 k6 c6) (.slice o7 st.order.length c7) st.down st.n).toList C W (Abs.keep (Ag (h.mono hCW)) hRW) (Nat.le_trans hCW h.size) hf.fs
 rw [hcb] at HG
 have HE0 :Hid (Bw ct st=Co ct st) :=if_neg (by rw [hcb,hxb];simp)
 rw [hxb] at HX
 have HK : ∀ (W :World),Below (((w.alloc (.cells #[tv,iv] 25)).alloc (.cells (sA st.kind st.name st.table st.col (.slice o1 st.cols.length c1) (.slice o2 st.rows.length c2) (.slice o3 st.sets.length c3) (.slice o4 st.frm.length c4) (.slice o5 st.out.length c5) op xk xn xs s nmv n8 (.slice o6 k6 c6) (.slice o7 st.order.length c7) st.down st.n) 36)).alloc (.cells Ah 36)).heap.size (((w.alloc (.cells #[tv,iv] 25)).alloc (.cells (sA st.kind st.name st.table st.col (.slice o1 st.cols.length c1) (.slice o2 st.rows.length c2) (.slice o3 st.sets.length c3) (.slice o4 st.frm.length c4) (.slice o5 st.out.length c5) op xk xn xs s nmv n8 (.slice o6 k6 c6) (.slice o7 st.order.length c7) st.down st.n) 36)).alloc (.cells Ah 36)) W→Calls Tryz.prog 23 #[.agg #[tv,iv], .agg (sA st.kind st.name st.table st.col (.slice o1 st.cols.length c1) (.slice o2 st.rows.length c2) (.slice o3 st.sets.length c3) (.slice o4 st.frm.length c4) (.slice o5 st.out.length c5) op xk xn xs s nmv n8 (.slice o6 k6 c6) (.slice o7 st.order.length c7) st.down st.n)] W fun r w'=> ∃ (arr :Array Value) (z :Int),r= .returned (.tuple #[.agg arr, .int .i64 z]) ∧arr.size=20∧arr.all (·.oneCell') =true∧ (match Co ct st with | .error m=>z=m | .ok st=>z=0∧Abs.R (Fx C (w.heap.size+3)) w' st arr.toList) ∧Below W.heap.size W w' :=fun W h=> (Lt ct (.agg #[tv,iv]) st (sA st.kind st.name st.table st.col (.slice o1 st.cols.length c1) (.slice o2 st.rows.length c2) (.slice o3 st.sets.length c3) (.slice o4 st.frm.length c4) (.slice o5 st.out.length c5) op xk xn xs s nmv n8 (.slice o6 k6 c6) (.slice o7 st.order.length c7) st.down st.n).toList C W (hcW.keep (Ag (h.mono hCW))) (Abs.keep (Ag (h.mono hCW)) hRW) (Nat.le_trans hCW h.size) hf hxb (Rq hcb)).mono (by
  rintro r w' ⟨⟨v,rfl,arr,ha1,ha2,hv⟩,hb'⟩
  cases hr :Co ct st with
  | error m=>
   rw [hr] at hv
   obtain rfl :=hv
   exact ⟨arr,m,rfl,ha1,ha2,rfl,hb'⟩
  | ok e2=>
   rw [hr] at hv
   obtain ⟨rfl,hE'⟩ :=hv
   exact ⟨arr,0,rfl,ha1,ha2,⟨rfl,Abs.mono (fun k _ hk=>hk.imp id (fun h2=>Nat.le_trans (Nat.le_trans S0.big h.size) h2)) hE'⟩,hb'⟩)
 have h12 : (1 :Nat) =1 :=rfl
 have hm :=Pn hkr
 have HE :Hid (Bw ct st= .error m) :=HE0.out.trans hkr
 rw [hkr] at HK
 simp only at HK
 clear hcW hRW htl hil hR i1 i2 i3 i4 i5 i6 i7 hcb hxb HE0 hkr h12
 rcases hm with rfl | rfl | rfl | rfl | rfl
 all_goals
  go_enter Tryz.func6,Tryz.ntmps6
  go_wp2_with (first | (go_at_call 9;go_fit HG;rintro e w1 ⟨rfl,hb1⟩;have S1 :=S0.below hb1;have HX1 :=HX _ hb1;have y0 := (hb1.cell (p := ⟨w.heap.size,0,none⟩) hlc).trans ct0;have y1 := (hb1.cell (p := ⟨w.heap.size,1,none⟩) hlc).trans ct1) | (go_at_call 22;go_fit HX1;rintro e w2 ⟨rfl,hb2⟩;have S2 :=S1.below hb2;have hb12 :=Ak hb1 hb2;have z0 := (hb2.cell (p := ⟨w.heap.size,0,none⟩) (Nat.lt_of_lt_of_le hlc hb1.size)).trans y0;have z1 := (hb2.cell (p := ⟨w.heap.size,1,none⟩) (Nat.lt_of_lt_of_le hlc hb1.size)).trans y1;have HK1 :=HK _ hb12) | (go_at_call 23;refine HK1.mono ?_;rintro r w3 ⟨arr,z,rfl,ha1,ha2,rfl,hb3'⟩;have S3 := (S2.below hb3').below (Aq w3 (.cells Ah 36));have hnew :=Ab w3 (.cells Ah 36);have hi1 :=Iy ha1;have S4 :SeSt w ((w3.alloc (.cells Ah 36)).setRow w3.heap.size arr) (sA st.kind st.name st.table st.col (.slice o1 st.cols.length c1) (.slice o2 st.rows.length c2) (.slice o3 st.sets.length c3) (.slice o4 st.frm.length c4) (.slice o5 st.out.length c5) op xk xn xs s nmv n8 (.slice o6 k6 c6) (.slice o7 st.order.length c7) st.down st.n) :=S3.row (S2.below hb3').big _;have hbox : ((w3.alloc (.cells Ah 36)).setRow w3.heap.size arr).heap[w3.heap.size]? =some (.cells arr 36) :=An hnew) | (refine wpList_store_row rfl 36 _ _ rfl w3.heap.size arr ?_ ?_ 36 Ah ?_ ?_ ?_ ?_ ?_;exact rfl;exact rfl;exact hnew;exact hi1;exact ha1.symm;exact ha2) | (refine wpList_load_row rfl 36 _ rfl (w.heap.size+1) ?_ 36 _ (0,0) _ S2.stm Tryz.underlying36 ?_ ?_ ?_;exact rfl;exact rfl;exact Am) | (refine Cx ?_ 36 _ rfl (w.heap.size+1) ?_ 36 _ (0,0) _ S1.stm Tryz.underlying36 ?_ ?_ ?_;exact rfl;exact rfl;exact rfl;exact Am) | (refine wpList_store_row rfl 36 _ _ rfl (w.heap.size+1+1) Ah ?_ ?_ 36 Ah ?_ ?_ ?_ ?_ ?_;exact rfl;exact rfl;exact S4.room;exact Am;exact rfl;exact hz))
  refine bodyPost_ret (A2 Tryz.results6 _ _ (w.heap.size+1+1) 36 Ah _ _ _ rfl rfl (An S4.room) Tryz.underlying36 rfl Am) rfl ⟨⟨_,rfl, ?_⟩,Below.row S4.bel (by omega) _⟩
  rw [HE.out]
  rfl
set_option maxRecDepth 100000 in
set_option maxHeartbeats 8000000 in
theorem X8 (ct :CatD) (cv :Value) (st :Stm) (cs :List Value) (C :Nat) (w :World) (hc :Bh (fun k=>k<C) w ct cv) (hR :Abs.R (fun k=>k<C) w st cs) (hC :C≤w.heap.size) (hfc :Gv ct) (hf :FitB st) (hcb :Cq ct=true) (hxb :De st=true) (st2 :Stm) (hkr :Co ct st= .ok st2) :
  Calls Tryz.prog 6 #[cv, .agg cs.toArray] w fun r w'=> (∃u,r= .returned u∧Fj (Bw ct st) (Fx C w.heap.size) w' u) ∧Below w.heap.size w w' :=by
 obtain ⟨o1,c1,o2,c2,o3,c3,o4,c4,o5,c5,op,xk,xn,xs,s,nmv,n8,o6,k6,c6,o7,c7,rfl,i1,i2,i3,i4,i5,i6,i7⟩ :=Cy hR
 obtain ⟨tv,iv,rfl,htl,hil⟩ :=hc
 have hb3 :=Fc w (.cells #[tv,iv] 25) (.cells (sA st.kind st.name st.table st.col (.slice o1 st.cols.length c1) (.slice o2 st.rows.length c2) (.slice o3 st.sets.length c3) (.slice o4 st.frm.length c4) (.slice o5 st.out.length c5) op xk xn xs s nmv n8 (.slice o6 k6 c6) (.slice o7 st.order.length c7) st.down st.n) 36) (.cells Ah 36)
 have S0 :SeSt w (((w.alloc (.cells #[tv,iv] 25)).alloc (.cells (sA st.kind st.name st.table st.col (.slice o1 st.cols.length c1) (.slice o2 st.rows.length c2) (.slice o3 st.sets.length c3) (.slice o4 st.frm.length c4) (.slice o5 st.out.length c5) op xk xn xs s nmv n8 (.slice o6 k6 c6) (.slice o7 st.order.length c7) st.down st.n) 36)).alloc (.cells Ah 36)) (sA st.kind st.name st.table st.col (.slice o1 st.cols.length c1) (.slice o2 st.rows.length c2) (.slice o3 st.sets.length c3) (.slice o4 st.frm.length c4) (.slice o5 st.out.length c5) op xk xn xs s nmv n8 (.slice o6 k6 c6) (.slice o7 st.order.length c7) st.down st.n) := ⟨Ae (A0 w (.cells #[tv,iv] 25) (.cells (sA st.kind st.name st.table st.col (.slice o1 st.cols.length c1) (.slice o2 st.rows.length c2) (.slice o3 st.sets.length c3) (.slice o4 st.frm.length c4) (.slice o5 st.out.length c5) op xk xn xs s nmv n8 (.slice o6 k6 c6) (.slice o7 st.order.length c7) st.down st.n) 36)) _,Dl w (.cells #[tv,iv] 25) (.cells (sA st.kind st.name st.table st.col (.slice o1 st.cols.length c1) (.slice o2 st.rows.length c2) (.slice o3 st.sets.length c3) (.slice o4 st.frm.length c4) (.slice o5 st.out.length c5) op xk xn xs s nmv n8 (.slice o6 k6 c6) (.slice o7 st.order.length c7) st.down st.n) 36) (.cells Ah 36),hb3,by simp⟩
 have hcat : (((w.alloc (.cells #[tv,iv] 25)).alloc (.cells (sA st.kind st.name st.table st.col (.slice o1 st.cols.length c1) (.slice o2 st.rows.length c2) (.slice o3 st.sets.length c3) (.slice o4 st.frm.length c4) (.slice o5 st.out.length c5) op xk xn xs s nmv n8 (.slice o6 k6 c6) (.slice o7 st.order.length c7) st.down st.n) 36)).alloc (.cells Ah 36)).heap[w.heap.size]? =some (.cells #[tv,iv] 25) :=Ae (Ae (Ab _ _) _) _
 have hz :Ah.all (·.oneCell') =true :=Dq (Au _ _ _) (Au _ _ _) (Au _ _ _) (Au _ _ _) (Au _ _ _) (Au _ _ _) (Au _ _ _)
 have hCW :C≤ (((w.alloc (.cells #[tv,iv] 25)).alloc (.cells (sA st.kind st.name st.table st.col (.slice o1 st.cols.length c1) (.slice o2 st.rows.length c2) (.slice o3 st.sets.length c3) (.slice o4 st.frm.length c4) (.slice o5 st.out.length c5) op xk xn xs s nmv n8 (.slice o6 k6 c6) (.slice o7 st.order.length c7) st.down st.n) 36)).alloc (.cells Ah 36)).heap.size :=Nat.le_trans hC hb3.size
 have hcW :Bh (fun k=>k<C) (((w.alloc (.cells #[tv,iv] 25)).alloc (.cells (sA st.kind st.name st.table st.col (.slice o1 st.cols.length c1) (.slice o2 st.rows.length c2) (.slice o3 st.sets.length c3) (.slice o4 st.frm.length c4) (.slice o5 st.out.length c5) op xk xn xs s nmv n8 (.slice o6 k6 c6) (.slice o7 st.order.length c7) st.down st.n) 36)).alloc (.cells Ah 36)) ct (.agg #[tv,iv]) := ⟨tv,iv,rfl,htl.keep (Ag (hb3.mono hC)),hil.keep (Ag (hb3.mono hC))⟩
 have hRW :=Abs.keep (Ag (hb3.mono hC)) hR
 have ct0 :=Aa hcat (j :=0) rfl
 have ct1 :=Aa hcat (j :=1) rfl
 have hlc :=lt_of_block hcat
 have HG :=G6 ct (.agg #[tv,iv]) C (((w.alloc (.cells #[tv,iv] 25)).alloc (.cells (sA st.kind st.name st.table st.col (.slice o1 st.cols.length c1) (.slice o2 st.rows.length c2) (.slice o3 st.sets.length c3) (.slice o4 st.frm.length c4) (.slice o5 st.out.length c5) op xk xn xs s nmv n8 (.slice o6 k6 c6) (.slice o7 st.order.length c7) st.down st.n) 36)).alloc (.cells Ah 36)) hcW hCW hfc
 have HX :=fun (W :World) (h :Below (((w.alloc (.cells #[tv,iv] 25)).alloc (.cells (sA st.kind st.name st.table st.col (.slice o1 st.cols.length c1) (.slice o2 st.rows.length c2) (.slice o3 st.sets.length c3) (.slice o4 st.frm.length c4) (.slice o5 st.out.length c5) op xk xn xs s nmv n8 (.slice o6 k6 c6) (.slice o7 st.order.length c7) st.down st.n) 36)).alloc (.cells Ah 36)).heap.size (((w.alloc (.cells #[tv,iv] 25)).alloc (.cells (sA st.kind st.name st.table st.col (.slice o1 st.cols.length c1) (.slice o2 st.rows.length c2) (.slice o3 st.sets.length c3) (.slice o4 st.frm.length c4) (.slice o5 st.out.length c5) op xk xn xs s nmv n8 (.slice o6 k6 c6) (.slice o7 st.order.length c7) st.down st.n) 36)).alloc (.cells Ah 36)) W) =>Gf st (sA st.kind st.name st.table st.col (.slice o1 st.cols.length c1) (.slice o2 st.rows.length c2) (.slice o3 st.sets.length c3) (.slice o4 st.frm.length c4) (.slice o5 st.out.length c5) op xk xn xs s nmv n8 (.slice o6 k6 c6) (.slice o7 st.order.length c7) st.down st.n).toList C W (Abs.keep (Ag (h.mono hCW)) hRW) (Nat.le_trans hCW h.size) hf.fs
 rw [hcb] at HG
 have HE0 :Hid (Bw ct st=Co ct st) :=if_neg (by rw [hcb,hxb];simp)
 rw [hxb] at HX
 have HK : ∀ (W :World),Below (((w.alloc (.cells #[tv,iv] 25)).alloc (.cells (sA st.kind st.name st.table st.col (.slice o1 st.cols.length c1) (.slice o2 st.rows.length c2) (.slice o3 st.sets.length c3) (.slice o4 st.frm.length c4) (.slice o5 st.out.length c5) op xk xn xs s nmv n8 (.slice o6 k6 c6) (.slice o7 st.order.length c7) st.down st.n) 36)).alloc (.cells Ah 36)).heap.size (((w.alloc (.cells #[tv,iv] 25)).alloc (.cells (sA st.kind st.name st.table st.col (.slice o1 st.cols.length c1) (.slice o2 st.rows.length c2) (.slice o3 st.sets.length c3) (.slice o4 st.frm.length c4) (.slice o5 st.out.length c5) op xk xn xs s nmv n8 (.slice o6 k6 c6) (.slice o7 st.order.length c7) st.down st.n) 36)).alloc (.cells Ah 36)) W→Calls Tryz.prog 23 #[.agg #[tv,iv], .agg (sA st.kind st.name st.table st.col (.slice o1 st.cols.length c1) (.slice o2 st.rows.length c2) (.slice o3 st.sets.length c3) (.slice o4 st.frm.length c4) (.slice o5 st.out.length c5) op xk xn xs s nmv n8 (.slice o6 k6 c6) (.slice o7 st.order.length c7) st.down st.n)] W fun r w'=> ∃ (arr :Array Value) (z :Int),r= .returned (.tuple #[.agg arr, .int .i64 z]) ∧arr.size=20∧arr.all (·.oneCell') =true∧ (match Co ct st with | .error m=>z=m | .ok st=>z=0∧Abs.R (Fx C (w.heap.size+3)) w' st arr.toList) ∧Below W.heap.size W w' :=fun W h=> (Lt ct (.agg #[tv,iv]) st (sA st.kind st.name st.table st.col (.slice o1 st.cols.length c1) (.slice o2 st.rows.length c2) (.slice o3 st.sets.length c3) (.slice o4 st.frm.length c4) (.slice o5 st.out.length c5) op xk xn xs s nmv n8 (.slice o6 k6 c6) (.slice o7 st.order.length c7) st.down st.n).toList C W (hcW.keep (Ag (h.mono hCW))) (Abs.keep (Ag (h.mono hCW)) hRW) (Nat.le_trans hCW h.size) hf hxb (Rq hcb)).mono (by
  rintro r w' ⟨⟨v,rfl,arr,ha1,ha2,hv⟩,hb'⟩
  cases hr :Co ct st with
  | error m=>
   rw [hr] at hv
   obtain rfl :=hv
   exact ⟨arr,m,rfl,ha1,ha2,rfl,hb'⟩
  | ok e2=>
   rw [hr] at hv
   obtain ⟨rfl,hE'⟩ :=hv
   exact ⟨arr,0,rfl,ha1,ha2,⟨rfl,Abs.mono (fun k _ hk=>hk.imp id (fun h2=>Nat.le_trans (Nat.le_trans S0.big h.size) h2)) hE'⟩,hb'⟩)
 have h12 : (1 :Nat) =1 :=rfl
 have HE :Hid (Bw ct st= .ok st2) :=HE0.out.trans hkr
 rw [hkr] at HK
 simp only at HK
 clear hcW hRW htl hil hR i1 i2 i3 i4 i5 i6 i7 hcb hxb HE0 hkr h12
 go_enter Tryz.func6,Tryz.ntmps6
 go_wp2_with (first | (go_at_call 9;go_fit HG;rintro e w1 ⟨rfl,hb1⟩;have S1 :=S0.below hb1;have HX1 :=HX _ hb1;have y0 := (hb1.cell (p := ⟨w.heap.size,0,none⟩) hlc).trans ct0;have y1 := (hb1.cell (p := ⟨w.heap.size,1,none⟩) hlc).trans ct1) | (go_at_call 22;go_fit HX1;rintro e w2 ⟨rfl,hb2⟩;have S2 :=S1.below hb2;have hb12 :=Ak hb1 hb2;have z0 := (hb2.cell (p := ⟨w.heap.size,0,none⟩) (Nat.lt_of_lt_of_le hlc hb1.size)).trans y0;have z1 := (hb2.cell (p := ⟨w.heap.size,1,none⟩) (Nat.lt_of_lt_of_le hlc hb1.size)).trans y1;have HK1 :=HK _ hb12) | (go_at_call 23;refine HK1.mono ?_;rintro r w3 ⟨arr,z,rfl,ha1,ha2,⟨rfl,hE6⟩,hb3'⟩;have S3 := (S2.below hb3').below (Aq w3 (.cells Ah 36));have hnew :=Ab w3 (.cells Ah 36);have hi1 :=Iy ha1;have S4 :SeSt w ((w3.alloc (.cells Ah 36)).setRow w3.heap.size arr) (sA st.kind st.name st.table st.col (.slice o1 st.cols.length c1) (.slice o2 st.rows.length c2) (.slice o3 st.sets.length c3) (.slice o4 st.frm.length c4) (.slice o5 st.out.length c5) op xk xn xs s nmv n8 (.slice o6 k6 c6) (.slice o7 st.order.length c7) st.down st.n) :=S3.row (S2.below hb3').big _;have hbox : ((w3.alloc (.cells Ah 36)).setRow w3.heap.size arr).heap[w3.heap.size]? =some (.cells arr 36) :=An hnew) | (refine wpList_store_row rfl 36 _ _ rfl w3.heap.size arr ?_ ?_ 36 Ah ?_ ?_ ?_ ?_ ?_;exact rfl;exact rfl;exact hnew;exact hi1;exact ha1.symm;exact ha2) | (refine wpList_load_row rfl 36 _ rfl (w.heap.size+1) ?_ 36 _ (0,0) _ S2.stm Tryz.underlying36 ?_ ?_ ?_;exact rfl;exact rfl;exact Am) | (refine Cx ?_ 36 _ rfl (w.heap.size+1) ?_ 36 _ (0,0) _ S1.stm Tryz.underlying36 ?_ ?_ ?_;exact rfl;exact rfl;exact rfl;exact Am) | (refine wpList_load_row rfl 36 _ rfl w3.heap.size ?_ 36 _ (0,0) _ hbox Tryz.underlying36 ?_ ?_ ?_;exact rfl;exact rfl;exact hi1) | (refine wpList_store_row rfl 36 _ _ rfl (w.heap.size+1+1) arr ?_ ?_ 36 Ah ?_ ?_ ?_ ?_ ?_;exact rfl;exact rfl;exact S4.room;exact hi1;exact ha1.symm;exact ha2))
 refine bodyPost_ret (A2 Tryz.results6 _ _ (w.heap.size+1+1) 36 arr _ _ _ rfl rfl (An S4.room) Tryz.underlying36 rfl hi1) rfl ⟨⟨_,rfl, ?_⟩,Below.row S4.bel (by omega) _⟩
 rw [HE.out]
 have hF2 : ¬Fx C (w.heap.size+3) (w.heap.size+1+1) :=by intro h;rcases h with h | h<;>omega
 have hp : ¬ (fun k=>Fx C (w.heap.size+3) k∧k≠w3.heap.size) w3.heap.size :=fun h=>h.2 rfl
 have hE7 :Abs.R (fun k=>Fx C (w.heap.size+3) k∧k≠w3.heap.size) w3 st2 arr.toList :=Abs.mono (fun k hk h=> ⟨h,Nat.ne_of_lt hk⟩) hE6
 exact ⟨arr,rfl,ha1,ha2,Abs.mono (fun k _ h=>h.1.imp id (fun h=>Nat.le_trans (by omega) h)) (Abs.keep ((((Ar (Aq w3 _)).row hp _)).row (fun h=>hF2 h.1) _) hE7)⟩
set_option maxRecDepth 100000 in
set_option maxHeartbeats 8000000 in
theorem Po (ct :CatD) (cv :Value) (st :Stm) (cs :List Value) (C :Nat) (w :World) (hc :Bh (fun k=>k<C) w ct cv) (hR :Abs.R (fun k=>k<C) w st cs) (hC :C≤w.heap.size) (hfc :Gv ct) (hf :FitB st) :
  Calls Tryz.prog 6 #[cv, .agg cs.toArray] w fun r w'=> (∃u,r= .returned u∧Fj (Bw ct st) (Fx C w.heap.size) w' u) ∧Below w.heap.size w w' :=by
 cases hcb :Cq ct
 ·exact Rr ct cv st cs C w hc hR hC hfc hf hcb
 ·cases hxb :De st
  ·exact Qk ct cv st cs C w hc hR hC hfc hf hcb hxb
  ·cases hkr :Co ct st with
   | error m=>exact Wf ct cv st cs C w hc hR hC hfc hf hcb hxb m hkr
   | ok st2=>exact X8 ct cv st cs C w hc hR hC hfc hf hcb hxb st2 hkr
end Go.Proofs.YtmgkcjiejmhgcaaGreatDoor

