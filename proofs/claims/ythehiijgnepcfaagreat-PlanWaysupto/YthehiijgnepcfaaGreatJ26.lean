/-
  3 texts of this proof in one, in build order: YBindS, XOps, XPtr.
-/
import Derived.Test.YthehiijgnepcfaaGreatRows
import Derived.WalkKit
import Derived.WalkSpells
import Derived.WalkLawsBesides
import Derived.Deep.RegionHeld3
import Derived.Laws.Bits64b
import Derived.OwnWalk
import Derived.Test.YthehiijgnepcfaaGreatJ05
import Derived.Test.YthehiijgnepcfaaGreatJ07
import Derived.Test.YthehiijgnepcfaaGreatJ15
import Derived.Test.YthehiijgnepcfaaGreatJ25
set_option linter.unusedSimpArgs false
set_option linter.unusedVariables false
namespace Go.Proofs.YthehiijgnepcfaaGreat
open Go.RowKit Go.Maps
def K8 (R :Except Int Stm) (F :Nat→Prop) (w' :World) (v :Value) :Prop :=
 match R with
 | .error m=>v= .tuple #[.agg Ai, .int .i64 m]
 | .ok st=> ∃arr :Array Value,v= .tuple #[.agg arr, .int .i64 0] ∧arr.size=20∧arr.all (·.oneCell') =true∧Akj.R F w' st arr.toList
theorem Zq {arr :Array Value} (h :arr.size=20) : (Tryz.prog.info? 36).map (·.size) =some arr.size :=by rw [h];exact Ak
theorem SeSt.row {w W :World} {arr :Array Value} (h :SeSt w W arr) {b :Nat} (hb :w.heap.size+3≤b) (cells :Array Value) :SeSt w (W.setRow b cells) arr :=
 ⟨Ca h.stm (by omega) _,Ca h.room (by omega) _,Below.row h.bel (by omega) _,Nat.le_trans h.big (by simp [World.setRow])⟩
theorem Hg {P :Program} {ops :Array Oper} {rest :List Oper} {o :Oper} {a :Act} {w :World} {Q :Exit→Act→World→Prop} (hw :Region.wanted o (yielded ops a.tmps) =true) (ty :TypeId) (x :Operand) (ho :o.op= .load ty x)
  (g :Nat) (hx :a.eval x= .pointer (some ⟨g,0,none⟩)) (t :TypeId) (cs :Array Value) (fr :Nat×Nat) (d :TypeDesc) (hg :w.heap[g]? =some (.cells cs t fr))
  (hu :P.underlying ty=some d) (hd : (match d with | .struct _ | .array _ _=>true | _=>false) =true) (hi : (P.info? ty).map (·.size) =some cs.size)
  (h :wpList P ops Q rest (a.put o.dst (.agg cs)) w) :wpList P ops Q (o ::rest) a w :=
 wpList_step fun K hK=>by rw [if_pos hw];exact wp_load_row ty x ho g hx t cs fr d hg hu hd hi (hK _ _ h)
set_option maxRecDepth 100000 in
set_option maxHeartbeats 8000000 in
theorem Xg (ct :CatD) (cv :Value) (st :Stm) (cs :List Value) (C :Nat) (w :World) (hc :Cz (fun k=>k<C) w ct cv) (hR :Akj.R (fun k=>k<C) w st cs) (hC :C≤w.heap.size) (hfc :Gv ct) (hf :FitB st) (hcb :C8 ct=false) :
  Calls Tryz.prog 4 #[cv, .agg cs.toArray] w fun r w'=> (∃u,r= .returned u∧K8 (C4 ct st) (Fx C w.heap.size) w' u) ∧Below w.heap.size w w' :=by
 obtain ⟨o1,c1,o2,c2,o3,c3,o4,c4,o5,c5,op,xk,xn,xs,s,nmv,n8,o6,k6,c6,o7,c7,rfl,i1,i2,i3,i4,i5,i6,i7⟩ :=Er hR
 obtain ⟨tv,iv,rfl,htl,hil⟩ :=hc
 have hb3 :=Cb w (.cells #[tv,iv] 25) (.cells (sA st.kind st.name st.table st.col (.slice o1 st.cols.length c1) (.slice o2 st.rows.length c2) (.slice o3 st.sets.length c3) (.slice o4 st.frm.length c4) (.slice o5 st.out.length c5) op xk xn xs s nmv n8 (.slice o6 k6 c6) (.slice o7 st.order.length c7) st.down st.n) 36) (.cells Ai 36)
 have S0 :SeSt w (((w.alloc (.cells #[tv,iv] 25)).alloc (.cells (sA st.kind st.name st.table st.col (.slice o1 st.cols.length c1) (.slice o2 st.rows.length c2) (.slice o3 st.sets.length c3) (.slice o4 st.frm.length c4) (.slice o5 st.out.length c5) op xk xn xs s nmv n8 (.slice o6 k6 c6) (.slice o7 st.order.length c7) st.down st.n) 36)).alloc (.cells Ai 36)) (sA st.kind st.name st.table st.col (.slice o1 st.cols.length c1) (.slice o2 st.rows.length c2) (.slice o3 st.sets.length c3) (.slice o4 st.frm.length c4) (.slice o5 st.out.length c5) op xk xn xs s nmv n8 (.slice o6 k6 c6) (.slice o7 st.order.length c7) st.down st.n) := ⟨Ac (Aq w (.cells #[tv,iv] 25) (.cells (sA st.kind st.name st.table st.col (.slice o1 st.cols.length c1) (.slice o2 st.rows.length c2) (.slice o3 st.sets.length c3) (.slice o4 st.frm.length c4) (.slice o5 st.out.length c5) op xk xn xs s nmv n8 (.slice o6 k6 c6) (.slice o7 st.order.length c7) st.down st.n) 36)) _,A6 w (.cells #[tv,iv] 25) (.cells (sA st.kind st.name st.table st.col (.slice o1 st.cols.length c1) (.slice o2 st.rows.length c2) (.slice o3 st.sets.length c3) (.slice o4 st.frm.length c4) (.slice o5 st.out.length c5) op xk xn xs s nmv n8 (.slice o6 k6 c6) (.slice o7 st.order.length c7) st.down st.n) 36) (.cells Ai 36),hb3,by simp⟩
 have hcat : (((w.alloc (.cells #[tv,iv] 25)).alloc (.cells (sA st.kind st.name st.table st.col (.slice o1 st.cols.length c1) (.slice o2 st.rows.length c2) (.slice o3 st.sets.length c3) (.slice o4 st.frm.length c4) (.slice o5 st.out.length c5) op xk xn xs s nmv n8 (.slice o6 k6 c6) (.slice o7 st.order.length c7) st.down st.n) 36)).alloc (.cells Ai 36)).heap[w.heap.size]? =some (.cells #[tv,iv] 25) :=Ac (Ac (Ab _ _) _) _
 have hz :Ai.all (·.oneCell') =true :=E8 (Al _ _ _) (Al _ _ _) (Al _ _ _) (Al _ _ _) (Al _ _ _) (Al _ _ _) (Al _ _ _)
 have hCW :C≤ (((w.alloc (.cells #[tv,iv] 25)).alloc (.cells (sA st.kind st.name st.table st.col (.slice o1 st.cols.length c1) (.slice o2 st.rows.length c2) (.slice o3 st.sets.length c3) (.slice o4 st.frm.length c4) (.slice o5 st.out.length c5) op xk xn xs s nmv n8 (.slice o6 k6 c6) (.slice o7 st.order.length c7) st.down st.n) 36)).alloc (.cells Ai 36)).heap.size :=Nat.le_trans hC hb3.size
 have hcW :Cz (fun k=>k<C) (((w.alloc (.cells #[tv,iv] 25)).alloc (.cells (sA st.kind st.name st.table st.col (.slice o1 st.cols.length c1) (.slice o2 st.rows.length c2) (.slice o3 st.sets.length c3) (.slice o4 st.frm.length c4) (.slice o5 st.out.length c5) op xk xn xs s nmv n8 (.slice o6 k6 c6) (.slice o7 st.order.length c7) st.down st.n) 36)).alloc (.cells Ai 36)) ct (.agg #[tv,iv]) := ⟨tv,iv,rfl,htl.keep (Af (hb3.mono hC)),hil.keep (Af (hb3.mono hC))⟩
 have hRW :=Akj.keep (Af (hb3.mono hC)) hR
 have ct0 :=Aa hcat (j :=0) rfl
 have ct1 :=Aa hcat (j :=1) rfl
 have hlc :=lt_of_block hcat
 have HG :=Kx ct (.agg #[tv,iv]) C (((w.alloc (.cells #[tv,iv] 25)).alloc (.cells (sA st.kind st.name st.table st.col (.slice o1 st.cols.length c1) (.slice o2 st.rows.length c2) (.slice o3 st.sets.length c3) (.slice o4 st.frm.length c4) (.slice o5 st.out.length c5) op xk xn xs s nmv n8 (.slice o6 k6 c6) (.slice o7 st.order.length c7) st.down st.n) 36)).alloc (.cells Ai 36)) hcW hCW hfc
 have HX :=fun (W :World) (h :Below (((w.alloc (.cells #[tv,iv] 25)).alloc (.cells (sA st.kind st.name st.table st.col (.slice o1 st.cols.length c1) (.slice o2 st.rows.length c2) (.slice o3 st.sets.length c3) (.slice o4 st.frm.length c4) (.slice o5 st.out.length c5) op xk xn xs s nmv n8 (.slice o6 k6 c6) (.slice o7 st.order.length c7) st.down st.n) 36)).alloc (.cells Ai 36)).heap.size (((w.alloc (.cells #[tv,iv] 25)).alloc (.cells (sA st.kind st.name st.table st.col (.slice o1 st.cols.length c1) (.slice o2 st.rows.length c2) (.slice o3 st.sets.length c3) (.slice o4 st.frm.length c4) (.slice o5 st.out.length c5) op xk xn xs s nmv n8 (.slice o6 k6 c6) (.slice o7 st.order.length c7) st.down st.n) 36)).alloc (.cells Ai 36)) W) =>Ht st (sA st.kind st.name st.table st.col (.slice o1 st.cols.length c1) (.slice o2 st.rows.length c2) (.slice o3 st.sets.length c3) (.slice o4 st.frm.length c4) (.slice o5 st.out.length c5) op xk xn xs s nmv n8 (.slice o6 k6 c6) (.slice o7 st.order.length c7) st.down st.n).toList C W (Akj.keep (Af (h.mono hCW)) hRW) (Nat.le_trans hCW h.size) hf.fs
 have HE :Hid (C4 ct st= .error 1) :=if_pos (.inl hcb)
 rw [hcb] at HG
 clear hcW hRW htl hil hR i1 i2 i3 i4 i5 i6 i7 HX hcb
 go_enter Tryz.func4,Tryz.ntmps4
 go_wp2_with (first | (go_at_call 13;go_fit HG;rintro e w1 ⟨rfl,hb1⟩;have S1 :=S0.below hb1) | (refine wpList_store_row rfl 36 _ _ rfl (w.heap.size+1+1) Ai ?_ ?_ 36 Ai ?_ ?_ ?_ ?_ ?_;exact rfl;exact rfl;exact S1.room;exact Ak;exact rfl;exact hz))
 refine bodyPost_ret (A2 Tryz.results4 _ _ (w.heap.size+1+1) 36 Ai _ _ _ rfl rfl (Au S1.room) Tryz.underlying36 rfl Ak) rfl ⟨⟨_,rfl, ?_⟩,Below.row S1.bel (by omega) _⟩
 rw [HE.out]
 rfl
set_option maxRecDepth 100000 in
set_option maxHeartbeats 8000000 in
theorem Vc (ct :CatD) (cv :Value) (st :Stm) (cs :List Value) (C :Nat) (w :World) (hc :Cz (fun k=>k<C) w ct cv) (hR :Akj.R (fun k=>k<C) w st cs) (hC :C≤w.heap.size) (hfc :Gv ct) (hf :FitB st) (hcb :C8 ct=true) (hxb :D4 st=false) :
  Calls Tryz.prog 4 #[cv, .agg cs.toArray] w fun r w'=> (∃u,r= .returned u∧K8 (C4 ct st) (Fx C w.heap.size) w' u) ∧Below w.heap.size w w' :=by
 obtain ⟨o1,c1,o2,c2,o3,c3,o4,c4,o5,c5,op,xk,xn,xs,s,nmv,n8,o6,k6,c6,o7,c7,rfl,i1,i2,i3,i4,i5,i6,i7⟩ :=Er hR
 obtain ⟨tv,iv,rfl,htl,hil⟩ :=hc
 have hb3 :=Cb w (.cells #[tv,iv] 25) (.cells (sA st.kind st.name st.table st.col (.slice o1 st.cols.length c1) (.slice o2 st.rows.length c2) (.slice o3 st.sets.length c3) (.slice o4 st.frm.length c4) (.slice o5 st.out.length c5) op xk xn xs s nmv n8 (.slice o6 k6 c6) (.slice o7 st.order.length c7) st.down st.n) 36) (.cells Ai 36)
 have S0 :SeSt w (((w.alloc (.cells #[tv,iv] 25)).alloc (.cells (sA st.kind st.name st.table st.col (.slice o1 st.cols.length c1) (.slice o2 st.rows.length c2) (.slice o3 st.sets.length c3) (.slice o4 st.frm.length c4) (.slice o5 st.out.length c5) op xk xn xs s nmv n8 (.slice o6 k6 c6) (.slice o7 st.order.length c7) st.down st.n) 36)).alloc (.cells Ai 36)) (sA st.kind st.name st.table st.col (.slice o1 st.cols.length c1) (.slice o2 st.rows.length c2) (.slice o3 st.sets.length c3) (.slice o4 st.frm.length c4) (.slice o5 st.out.length c5) op xk xn xs s nmv n8 (.slice o6 k6 c6) (.slice o7 st.order.length c7) st.down st.n) := ⟨Ac (Aq w (.cells #[tv,iv] 25) (.cells (sA st.kind st.name st.table st.col (.slice o1 st.cols.length c1) (.slice o2 st.rows.length c2) (.slice o3 st.sets.length c3) (.slice o4 st.frm.length c4) (.slice o5 st.out.length c5) op xk xn xs s nmv n8 (.slice o6 k6 c6) (.slice o7 st.order.length c7) st.down st.n) 36)) _,A6 w (.cells #[tv,iv] 25) (.cells (sA st.kind st.name st.table st.col (.slice o1 st.cols.length c1) (.slice o2 st.rows.length c2) (.slice o3 st.sets.length c3) (.slice o4 st.frm.length c4) (.slice o5 st.out.length c5) op xk xn xs s nmv n8 (.slice o6 k6 c6) (.slice o7 st.order.length c7) st.down st.n) 36) (.cells Ai 36),hb3,by simp⟩
 have hcat : (((w.alloc (.cells #[tv,iv] 25)).alloc (.cells (sA st.kind st.name st.table st.col (.slice o1 st.cols.length c1) (.slice o2 st.rows.length c2) (.slice o3 st.sets.length c3) (.slice o4 st.frm.length c4) (.slice o5 st.out.length c5) op xk xn xs s nmv n8 (.slice o6 k6 c6) (.slice o7 st.order.length c7) st.down st.n) 36)).alloc (.cells Ai 36)).heap[w.heap.size]? =some (.cells #[tv,iv] 25) :=Ac (Ac (Ab _ _) _) _
 have hz :Ai.all (·.oneCell') =true :=E8 (Al _ _ _) (Al _ _ _) (Al _ _ _) (Al _ _ _) (Al _ _ _) (Al _ _ _) (Al _ _ _)
 have hCW :C≤ (((w.alloc (.cells #[tv,iv] 25)).alloc (.cells (sA st.kind st.name st.table st.col (.slice o1 st.cols.length c1) (.slice o2 st.rows.length c2) (.slice o3 st.sets.length c3) (.slice o4 st.frm.length c4) (.slice o5 st.out.length c5) op xk xn xs s nmv n8 (.slice o6 k6 c6) (.slice o7 st.order.length c7) st.down st.n) 36)).alloc (.cells Ai 36)).heap.size :=Nat.le_trans hC hb3.size
 have hcW :Cz (fun k=>k<C) (((w.alloc (.cells #[tv,iv] 25)).alloc (.cells (sA st.kind st.name st.table st.col (.slice o1 st.cols.length c1) (.slice o2 st.rows.length c2) (.slice o3 st.sets.length c3) (.slice o4 st.frm.length c4) (.slice o5 st.out.length c5) op xk xn xs s nmv n8 (.slice o6 k6 c6) (.slice o7 st.order.length c7) st.down st.n) 36)).alloc (.cells Ai 36)) ct (.agg #[tv,iv]) := ⟨tv,iv,rfl,htl.keep (Af (hb3.mono hC)),hil.keep (Af (hb3.mono hC))⟩
 have hRW :=Akj.keep (Af (hb3.mono hC)) hR
 have ct0 :=Aa hcat (j :=0) rfl
 have ct1 :=Aa hcat (j :=1) rfl
 have hlc :=lt_of_block hcat
 have HG :=Kx ct (.agg #[tv,iv]) C (((w.alloc (.cells #[tv,iv] 25)).alloc (.cells (sA st.kind st.name st.table st.col (.slice o1 st.cols.length c1) (.slice o2 st.rows.length c2) (.slice o3 st.sets.length c3) (.slice o4 st.frm.length c4) (.slice o5 st.out.length c5) op xk xn xs s nmv n8 (.slice o6 k6 c6) (.slice o7 st.order.length c7) st.down st.n) 36)).alloc (.cells Ai 36)) hcW hCW hfc
 have HX :=fun (W :World) (h :Below (((w.alloc (.cells #[tv,iv] 25)).alloc (.cells (sA st.kind st.name st.table st.col (.slice o1 st.cols.length c1) (.slice o2 st.rows.length c2) (.slice o3 st.sets.length c3) (.slice o4 st.frm.length c4) (.slice o5 st.out.length c5) op xk xn xs s nmv n8 (.slice o6 k6 c6) (.slice o7 st.order.length c7) st.down st.n) 36)).alloc (.cells Ai 36)).heap.size (((w.alloc (.cells #[tv,iv] 25)).alloc (.cells (sA st.kind st.name st.table st.col (.slice o1 st.cols.length c1) (.slice o2 st.rows.length c2) (.slice o3 st.sets.length c3) (.slice o4 st.frm.length c4) (.slice o5 st.out.length c5) op xk xn xs s nmv n8 (.slice o6 k6 c6) (.slice o7 st.order.length c7) st.down st.n) 36)).alloc (.cells Ai 36)) W) =>Ht st (sA st.kind st.name st.table st.col (.slice o1 st.cols.length c1) (.slice o2 st.rows.length c2) (.slice o3 st.sets.length c3) (.slice o4 st.frm.length c4) (.slice o5 st.out.length c5) op xk xn xs s nmv n8 (.slice o6 k6 c6) (.slice o7 st.order.length c7) st.down st.n).toList C W (Akj.keep (Af (h.mono hCW)) hRW) (Nat.le_trans hCW h.size) hf.fs
 rw [hcb] at HG
 have HE :Hid (C4 ct st= .error 1) :=if_pos (.inr hxb)
 rw [hxb] at HX
 clear hcW hRW htl hil hR i1 i2 i3 i4 i5 i6 i7 hcb hxb
 go_enter Tryz.func4,Tryz.ntmps4
 go_wp2_with (first | (go_at_call 13;go_fit HG;rintro e w1 ⟨rfl,hb1⟩;have S1 :=S0.below hb1;have HX1 :=HX _ hb1) | (go_at_call 14;go_fit HX1;rintro e w2 ⟨rfl,hb2⟩;have S2 :=S1.below hb2) | (refine Hg ?_ 36 _ rfl (w.heap.size+1) ?_ 36 _ (0,0) _ S1.stm Tryz.underlying36 ?_ ?_ ?_;exact rfl;exact rfl;exact rfl;exact Ak) | (refine wpList_store_row rfl 36 _ _ rfl (w.heap.size+1+1) Ai ?_ ?_ 36 Ai ?_ ?_ ?_ ?_ ?_;exact rfl;exact rfl;exact S2.room;exact Ak;exact rfl;exact hz))
 refine bodyPost_ret (A2 Tryz.results4 _ _ (w.heap.size+1+1) 36 Ai _ _ _ rfl rfl (Au S2.room) Tryz.underlying36 rfl Ak) rfl ⟨⟨_,rfl, ?_⟩,Below.row S2.bel (by omega) _⟩
 rw [HE.out]
 rfl
set_option maxRecDepth 100000 in
set_option maxHeartbeats 8000000 in
theorem Ac7 (ct :CatD) (cv :Value) (st :Stm) (cs :List Value) (C :Nat) (w :World) (hc :Cz (fun k=>k<C) w ct cv) (hR :Akj.R (fun k=>k<C) w st cs) (hC :C≤w.heap.size) (hfc :Gv ct) (hf :FitB st) (hcb :C8 ct=true) (hxb :D4 st=true) (m :Int) (hkr :Du ct st= .error m) :
  Calls Tryz.prog 4 #[cv, .agg cs.toArray] w fun r w'=> (∃u,r= .returned u∧K8 (C4 ct st) (Fx C w.heap.size) w' u) ∧Below w.heap.size w w' :=by
 obtain ⟨o1,c1,o2,c2,o3,c3,o4,c4,o5,c5,op,xk,xn,xs,s,nmv,n8,o6,k6,c6,o7,c7,rfl,i1,i2,i3,i4,i5,i6,i7⟩ :=Er hR
 obtain ⟨tv,iv,rfl,htl,hil⟩ :=hc
 have hb3 :=Cb w (.cells #[tv,iv] 25) (.cells (sA st.kind st.name st.table st.col (.slice o1 st.cols.length c1) (.slice o2 st.rows.length c2) (.slice o3 st.sets.length c3) (.slice o4 st.frm.length c4) (.slice o5 st.out.length c5) op xk xn xs s nmv n8 (.slice o6 k6 c6) (.slice o7 st.order.length c7) st.down st.n) 36) (.cells Ai 36)
 have S0 :SeSt w (((w.alloc (.cells #[tv,iv] 25)).alloc (.cells (sA st.kind st.name st.table st.col (.slice o1 st.cols.length c1) (.slice o2 st.rows.length c2) (.slice o3 st.sets.length c3) (.slice o4 st.frm.length c4) (.slice o5 st.out.length c5) op xk xn xs s nmv n8 (.slice o6 k6 c6) (.slice o7 st.order.length c7) st.down st.n) 36)).alloc (.cells Ai 36)) (sA st.kind st.name st.table st.col (.slice o1 st.cols.length c1) (.slice o2 st.rows.length c2) (.slice o3 st.sets.length c3) (.slice o4 st.frm.length c4) (.slice o5 st.out.length c5) op xk xn xs s nmv n8 (.slice o6 k6 c6) (.slice o7 st.order.length c7) st.down st.n) := ⟨Ac (Aq w (.cells #[tv,iv] 25) (.cells (sA st.kind st.name st.table st.col (.slice o1 st.cols.length c1) (.slice o2 st.rows.length c2) (.slice o3 st.sets.length c3) (.slice o4 st.frm.length c4) (.slice o5 st.out.length c5) op xk xn xs s nmv n8 (.slice o6 k6 c6) (.slice o7 st.order.length c7) st.down st.n) 36)) _,A6 w (.cells #[tv,iv] 25) (.cells (sA st.kind st.name st.table st.col (.slice o1 st.cols.length c1) (.slice o2 st.rows.length c2) (.slice o3 st.sets.length c3) (.slice o4 st.frm.length c4) (.slice o5 st.out.length c5) op xk xn xs s nmv n8 (.slice o6 k6 c6) (.slice o7 st.order.length c7) st.down st.n) 36) (.cells Ai 36),hb3,by simp⟩
 have hcat : (((w.alloc (.cells #[tv,iv] 25)).alloc (.cells (sA st.kind st.name st.table st.col (.slice o1 st.cols.length c1) (.slice o2 st.rows.length c2) (.slice o3 st.sets.length c3) (.slice o4 st.frm.length c4) (.slice o5 st.out.length c5) op xk xn xs s nmv n8 (.slice o6 k6 c6) (.slice o7 st.order.length c7) st.down st.n) 36)).alloc (.cells Ai 36)).heap[w.heap.size]? =some (.cells #[tv,iv] 25) :=Ac (Ac (Ab _ _) _) _
 have hz :Ai.all (·.oneCell') =true :=E8 (Al _ _ _) (Al _ _ _) (Al _ _ _) (Al _ _ _) (Al _ _ _) (Al _ _ _) (Al _ _ _)
 have hCW :C≤ (((w.alloc (.cells #[tv,iv] 25)).alloc (.cells (sA st.kind st.name st.table st.col (.slice o1 st.cols.length c1) (.slice o2 st.rows.length c2) (.slice o3 st.sets.length c3) (.slice o4 st.frm.length c4) (.slice o5 st.out.length c5) op xk xn xs s nmv n8 (.slice o6 k6 c6) (.slice o7 st.order.length c7) st.down st.n) 36)).alloc (.cells Ai 36)).heap.size :=Nat.le_trans hC hb3.size
 have hcW :Cz (fun k=>k<C) (((w.alloc (.cells #[tv,iv] 25)).alloc (.cells (sA st.kind st.name st.table st.col (.slice o1 st.cols.length c1) (.slice o2 st.rows.length c2) (.slice o3 st.sets.length c3) (.slice o4 st.frm.length c4) (.slice o5 st.out.length c5) op xk xn xs s nmv n8 (.slice o6 k6 c6) (.slice o7 st.order.length c7) st.down st.n) 36)).alloc (.cells Ai 36)) ct (.agg #[tv,iv]) := ⟨tv,iv,rfl,htl.keep (Af (hb3.mono hC)),hil.keep (Af (hb3.mono hC))⟩
 have hRW :=Akj.keep (Af (hb3.mono hC)) hR
 have ct0 :=Aa hcat (j :=0) rfl
 have ct1 :=Aa hcat (j :=1) rfl
 have hlc :=lt_of_block hcat
 have HG :=Kx ct (.agg #[tv,iv]) C (((w.alloc (.cells #[tv,iv] 25)).alloc (.cells (sA st.kind st.name st.table st.col (.slice o1 st.cols.length c1) (.slice o2 st.rows.length c2) (.slice o3 st.sets.length c3) (.slice o4 st.frm.length c4) (.slice o5 st.out.length c5) op xk xn xs s nmv n8 (.slice o6 k6 c6) (.slice o7 st.order.length c7) st.down st.n) 36)).alloc (.cells Ai 36)) hcW hCW hfc
 have HX :=fun (W :World) (h :Below (((w.alloc (.cells #[tv,iv] 25)).alloc (.cells (sA st.kind st.name st.table st.col (.slice o1 st.cols.length c1) (.slice o2 st.rows.length c2) (.slice o3 st.sets.length c3) (.slice o4 st.frm.length c4) (.slice o5 st.out.length c5) op xk xn xs s nmv n8 (.slice o6 k6 c6) (.slice o7 st.order.length c7) st.down st.n) 36)).alloc (.cells Ai 36)).heap.size (((w.alloc (.cells #[tv,iv] 25)).alloc (.cells (sA st.kind st.name st.table st.col (.slice o1 st.cols.length c1) (.slice o2 st.rows.length c2) (.slice o3 st.sets.length c3) (.slice o4 st.frm.length c4) (.slice o5 st.out.length c5) op xk xn xs s nmv n8 (.slice o6 k6 c6) (.slice o7 st.order.length c7) st.down st.n) 36)).alloc (.cells Ai 36)) W) =>Ht st (sA st.kind st.name st.table st.col (.slice o1 st.cols.length c1) (.slice o2 st.rows.length c2) (.slice o3 st.sets.length c3) (.slice o4 st.frm.length c4) (.slice o5 st.out.length c5) op xk xn xs s nmv n8 (.slice o6 k6 c6) (.slice o7 st.order.length c7) st.down st.n).toList C W (Akj.keep (Af (h.mono hCW)) hRW) (Nat.le_trans hCW h.size) hf.fs
 rw [hcb] at HG
 have HE0 :Hid (C4 ct st=Du ct st) :=if_neg (by rw [hcb,hxb];simp)
 rw [hxb] at HX
 have HK : ∀ (W :World),Below (((w.alloc (.cells #[tv,iv] 25)).alloc (.cells (sA st.kind st.name st.table st.col (.slice o1 st.cols.length c1) (.slice o2 st.rows.length c2) (.slice o3 st.sets.length c3) (.slice o4 st.frm.length c4) (.slice o5 st.out.length c5) op xk xn xs s nmv n8 (.slice o6 k6 c6) (.slice o7 st.order.length c7) st.down st.n) 36)).alloc (.cells Ai 36)).heap.size (((w.alloc (.cells #[tv,iv] 25)).alloc (.cells (sA st.kind st.name st.table st.col (.slice o1 st.cols.length c1) (.slice o2 st.rows.length c2) (.slice o3 st.sets.length c3) (.slice o4 st.frm.length c4) (.slice o5 st.out.length c5) op xk xn xs s nmv n8 (.slice o6 k6 c6) (.slice o7 st.order.length c7) st.down st.n) 36)).alloc (.cells Ai 36)) W→Calls Tryz.prog 15 #[.agg #[tv,iv], .agg (sA st.kind st.name st.table st.col (.slice o1 st.cols.length c1) (.slice o2 st.rows.length c2) (.slice o3 st.sets.length c3) (.slice o4 st.frm.length c4) (.slice o5 st.out.length c5) op xk xn xs s nmv n8 (.slice o6 k6 c6) (.slice o7 st.order.length c7) st.down st.n)] W fun r w'=> ∃ (arr :Array Value) (z :Int),r= .returned (.tuple #[.agg arr, .int .i64 z]) ∧arr.size=20∧arr.all (·.oneCell') =true∧ (match Du ct st with | .error m=>z=m | .ok st=>z=0∧Akj.R (Fx C (w.heap.size+3)) w' st arr.toList) ∧Below W.heap.size W w' :=fun W h=> (Ol ct (.agg #[tv,iv]) st (sA st.kind st.name st.table st.col (.slice o1 st.cols.length c1) (.slice o2 st.rows.length c2) (.slice o3 st.sets.length c3) (.slice o4 st.frm.length c4) (.slice o5 st.out.length c5) op xk xn xs s nmv n8 (.slice o6 k6 c6) (.slice o7 st.order.length c7) st.down st.n).toList C W (hcW.keep (Af (h.mono hCW))) (Akj.keep (Af (h.mono hCW)) hRW) (Nat.le_trans hCW h.size) hf hxb (Xf hcb)).mono (by
  rintro r w' ⟨⟨v,rfl,arr,ha1,ha2,hv⟩,hb'⟩
  cases hr :Du ct st with
  | error m=>
   rw [hr] at hv
   obtain rfl :=hv
   exact ⟨arr,m,rfl,ha1,ha2,rfl,hb'⟩
  | ok e2=>
   rw [hr] at hv
   obtain ⟨rfl,hE'⟩ :=hv
   exact ⟨arr,0,rfl,ha1,ha2,⟨rfl,Akj.mono (fun k _ hk=>hk.imp id (fun h2=>Nat.le_trans (Nat.le_trans S0.big h.size) h2)) hE'⟩,hb'⟩)
 have h12 : (1 :Nat) =1 :=rfl
 have hm :=Um hkr
 have HE :Hid (C4 ct st= .error m) :=HE0.out.trans hkr
 rw [hkr] at HK
 simp only at HK
 clear hcW hRW htl hil hR i1 i2 i3 i4 i5 i6 i7 hcb hxb HE0 hkr h12
 rcases hm with rfl | rfl | rfl | rfl | rfl
 all_goals
  go_enter Tryz.func4,Tryz.ntmps4
  go_wp2_with (first | (go_at_call 13;go_fit HG;rintro e w1 ⟨rfl,hb1⟩;have S1 :=S0.below hb1;have HX1 :=HX _ hb1;have y0 := (hb1.cell (p := ⟨w.heap.size,0,none⟩) hlc).trans ct0;have y1 := (hb1.cell (p := ⟨w.heap.size,1,none⟩) hlc).trans ct1) | (go_at_call 14;go_fit HX1;rintro e w2 ⟨rfl,hb2⟩;have S2 :=S1.below hb2;have hb12 :=Ad hb1 hb2;have z0 := (hb2.cell (p := ⟨w.heap.size,0,none⟩) (Nat.lt_of_lt_of_le hlc hb1.size)).trans y0;have z1 := (hb2.cell (p := ⟨w.heap.size,1,none⟩) (Nat.lt_of_lt_of_le hlc hb1.size)).trans y1;have HK1 :=HK _ hb12) | (go_at_call 15;refine HK1.mono ?_;rintro r w3 ⟨arr,z,rfl,ha1,ha2,rfl,hb3'⟩;have S3 := (S2.below hb3').below (Ao w3 (.cells Ai 36));have hnew :=Ab w3 (.cells Ai 36);have hi1 :=Zq ha1;have S4 :SeSt w ((w3.alloc (.cells Ai 36)).setRow w3.heap.size arr) (sA st.kind st.name st.table st.col (.slice o1 st.cols.length c1) (.slice o2 st.rows.length c2) (.slice o3 st.sets.length c3) (.slice o4 st.frm.length c4) (.slice o5 st.out.length c5) op xk xn xs s nmv n8 (.slice o6 k6 c6) (.slice o7 st.order.length c7) st.down st.n) :=S3.row (S2.below hb3').big _;have hbox : ((w3.alloc (.cells Ai 36)).setRow w3.heap.size arr).heap[w3.heap.size]? =some (.cells arr 36) :=Au hnew) | (refine wpList_store_row rfl 36 _ _ rfl w3.heap.size arr ?_ ?_ 36 Ai ?_ ?_ ?_ ?_ ?_;exact rfl;exact rfl;exact hnew;exact hi1;exact ha1.symm;exact ha2) | (refine wpList_load_row rfl 36 _ rfl (w.heap.size+1) ?_ 36 _ (0,0) _ S2.stm Tryz.underlying36 ?_ ?_ ?_;exact rfl;exact rfl;exact Ak) | (refine Hg ?_ 36 _ rfl (w.heap.size+1) ?_ 36 _ (0,0) _ S1.stm Tryz.underlying36 ?_ ?_ ?_;exact rfl;exact rfl;exact rfl;exact Ak) | (refine wpList_store_row rfl 36 _ _ rfl (w.heap.size+1+1) Ai ?_ ?_ 36 Ai ?_ ?_ ?_ ?_ ?_;exact rfl;exact rfl;exact S4.room;exact Ak;exact rfl;exact hz))
  refine bodyPost_ret (A2 Tryz.results4 _ _ (w.heap.size+1+1) 36 Ai _ _ _ rfl rfl (Au S4.room) Tryz.underlying36 rfl Ak) rfl ⟨⟨_,rfl, ?_⟩,Below.row S4.bel (by omega) _⟩
  rw [HE.out]
  rfl
set_option maxRecDepth 100000 in
set_option maxHeartbeats 8000000 in
theorem Ae6 (ct :CatD) (cv :Value) (st :Stm) (cs :List Value) (C :Nat) (w :World) (hc :Cz (fun k=>k<C) w ct cv) (hR :Akj.R (fun k=>k<C) w st cs) (hC :C≤w.heap.size) (hfc :Gv ct) (hf :FitB st) (hcb :C8 ct=true) (hxb :D4 st=true) (st2 :Stm) (hkr :Du ct st= .ok st2) :
  Calls Tryz.prog 4 #[cv, .agg cs.toArray] w fun r w'=> (∃u,r= .returned u∧K8 (C4 ct st) (Fx C w.heap.size) w' u) ∧Below w.heap.size w w' :=by
 obtain ⟨o1,c1,o2,c2,o3,c3,o4,c4,o5,c5,op,xk,xn,xs,s,nmv,n8,o6,k6,c6,o7,c7,rfl,i1,i2,i3,i4,i5,i6,i7⟩ :=Er hR
 obtain ⟨tv,iv,rfl,htl,hil⟩ :=hc
 have hb3 :=Cb w (.cells #[tv,iv] 25) (.cells (sA st.kind st.name st.table st.col (.slice o1 st.cols.length c1) (.slice o2 st.rows.length c2) (.slice o3 st.sets.length c3) (.slice o4 st.frm.length c4) (.slice o5 st.out.length c5) op xk xn xs s nmv n8 (.slice o6 k6 c6) (.slice o7 st.order.length c7) st.down st.n) 36) (.cells Ai 36)
 have S0 :SeSt w (((w.alloc (.cells #[tv,iv] 25)).alloc (.cells (sA st.kind st.name st.table st.col (.slice o1 st.cols.length c1) (.slice o2 st.rows.length c2) (.slice o3 st.sets.length c3) (.slice o4 st.frm.length c4) (.slice o5 st.out.length c5) op xk xn xs s nmv n8 (.slice o6 k6 c6) (.slice o7 st.order.length c7) st.down st.n) 36)).alloc (.cells Ai 36)) (sA st.kind st.name st.table st.col (.slice o1 st.cols.length c1) (.slice o2 st.rows.length c2) (.slice o3 st.sets.length c3) (.slice o4 st.frm.length c4) (.slice o5 st.out.length c5) op xk xn xs s nmv n8 (.slice o6 k6 c6) (.slice o7 st.order.length c7) st.down st.n) := ⟨Ac (Aq w (.cells #[tv,iv] 25) (.cells (sA st.kind st.name st.table st.col (.slice o1 st.cols.length c1) (.slice o2 st.rows.length c2) (.slice o3 st.sets.length c3) (.slice o4 st.frm.length c4) (.slice o5 st.out.length c5) op xk xn xs s nmv n8 (.slice o6 k6 c6) (.slice o7 st.order.length c7) st.down st.n) 36)) _,A6 w (.cells #[tv,iv] 25) (.cells (sA st.kind st.name st.table st.col (.slice o1 st.cols.length c1) (.slice o2 st.rows.length c2) (.slice o3 st.sets.length c3) (.slice o4 st.frm.length c4) (.slice o5 st.out.length c5) op xk xn xs s nmv n8 (.slice o6 k6 c6) (.slice o7 st.order.length c7) st.down st.n) 36) (.cells Ai 36),hb3,by simp⟩
 have hcat : (((w.alloc (.cells #[tv,iv] 25)).alloc (.cells (sA st.kind st.name st.table st.col (.slice o1 st.cols.length c1) (.slice o2 st.rows.length c2) (.slice o3 st.sets.length c3) (.slice o4 st.frm.length c4) (.slice o5 st.out.length c5) op xk xn xs s nmv n8 (.slice o6 k6 c6) (.slice o7 st.order.length c7) st.down st.n) 36)).alloc (.cells Ai 36)).heap[w.heap.size]? =some (.cells #[tv,iv] 25) :=Ac (Ac (Ab _ _) _) _
 have hz :Ai.all (·.oneCell') =true :=E8 (Al _ _ _) (Al _ _ _) (Al _ _ _) (Al _ _ _) (Al _ _ _) (Al _ _ _) (Al _ _ _)
 have hCW :C≤ (((w.alloc (.cells #[tv,iv] 25)).alloc (.cells (sA st.kind st.name st.table st.col (.slice o1 st.cols.length c1) (.slice o2 st.rows.length c2) (.slice o3 st.sets.length c3) (.slice o4 st.frm.length c4) (.slice o5 st.out.length c5) op xk xn xs s nmv n8 (.slice o6 k6 c6) (.slice o7 st.order.length c7) st.down st.n) 36)).alloc (.cells Ai 36)).heap.size :=Nat.le_trans hC hb3.size
 have hcW :Cz (fun k=>k<C) (((w.alloc (.cells #[tv,iv] 25)).alloc (.cells (sA st.kind st.name st.table st.col (.slice o1 st.cols.length c1) (.slice o2 st.rows.length c2) (.slice o3 st.sets.length c3) (.slice o4 st.frm.length c4) (.slice o5 st.out.length c5) op xk xn xs s nmv n8 (.slice o6 k6 c6) (.slice o7 st.order.length c7) st.down st.n) 36)).alloc (.cells Ai 36)) ct (.agg #[tv,iv]) := ⟨tv,iv,rfl,htl.keep (Af (hb3.mono hC)),hil.keep (Af (hb3.mono hC))⟩
 have hRW :=Akj.keep (Af (hb3.mono hC)) hR
 have ct0 :=Aa hcat (j :=0) rfl
 have ct1 :=Aa hcat (j :=1) rfl
 have hlc :=lt_of_block hcat
 have HG :=Kx ct (.agg #[tv,iv]) C (((w.alloc (.cells #[tv,iv] 25)).alloc (.cells (sA st.kind st.name st.table st.col (.slice o1 st.cols.length c1) (.slice o2 st.rows.length c2) (.slice o3 st.sets.length c3) (.slice o4 st.frm.length c4) (.slice o5 st.out.length c5) op xk xn xs s nmv n8 (.slice o6 k6 c6) (.slice o7 st.order.length c7) st.down st.n) 36)).alloc (.cells Ai 36)) hcW hCW hfc
 have HX :=fun (W :World) (h :Below (((w.alloc (.cells #[tv,iv] 25)).alloc (.cells (sA st.kind st.name st.table st.col (.slice o1 st.cols.length c1) (.slice o2 st.rows.length c2) (.slice o3 st.sets.length c3) (.slice o4 st.frm.length c4) (.slice o5 st.out.length c5) op xk xn xs s nmv n8 (.slice o6 k6 c6) (.slice o7 st.order.length c7) st.down st.n) 36)).alloc (.cells Ai 36)).heap.size (((w.alloc (.cells #[tv,iv] 25)).alloc (.cells (sA st.kind st.name st.table st.col (.slice o1 st.cols.length c1) (.slice o2 st.rows.length c2) (.slice o3 st.sets.length c3) (.slice o4 st.frm.length c4) (.slice o5 st.out.length c5) op xk xn xs s nmv n8 (.slice o6 k6 c6) (.slice o7 st.order.length c7) st.down st.n) 36)).alloc (.cells Ai 36)) W) =>Ht st (sA st.kind st.name st.table st.col (.slice o1 st.cols.length c1) (.slice o2 st.rows.length c2) (.slice o3 st.sets.length c3) (.slice o4 st.frm.length c4) (.slice o5 st.out.length c5) op xk xn xs s nmv n8 (.slice o6 k6 c6) (.slice o7 st.order.length c7) st.down st.n).toList C W (Akj.keep (Af (h.mono hCW)) hRW) (Nat.le_trans hCW h.size) hf.fs
 rw [hcb] at HG
 have HE0 :Hid (C4 ct st=Du ct st) :=if_neg (by rw [hcb,hxb];simp)
 rw [hxb] at HX
 have HK : ∀ (W :World),Below (((w.alloc (.cells #[tv,iv] 25)).alloc (.cells (sA st.kind st.name st.table st.col (.slice o1 st.cols.length c1) (.slice o2 st.rows.length c2) (.slice o3 st.sets.length c3) (.slice o4 st.frm.length c4) (.slice o5 st.out.length c5) op xk xn xs s nmv n8 (.slice o6 k6 c6) (.slice o7 st.order.length c7) st.down st.n) 36)).alloc (.cells Ai 36)).heap.size (((w.alloc (.cells #[tv,iv] 25)).alloc (.cells (sA st.kind st.name st.table st.col (.slice o1 st.cols.length c1) (.slice o2 st.rows.length c2) (.slice o3 st.sets.length c3) (.slice o4 st.frm.length c4) (.slice o5 st.out.length c5) op xk xn xs s nmv n8 (.slice o6 k6 c6) (.slice o7 st.order.length c7) st.down st.n) 36)).alloc (.cells Ai 36)) W→Calls Tryz.prog 15 #[.agg #[tv,iv], .agg (sA st.kind st.name st.table st.col (.slice o1 st.cols.length c1) (.slice o2 st.rows.length c2) (.slice o3 st.sets.length c3) (.slice o4 st.frm.length c4) (.slice o5 st.out.length c5) op xk xn xs s nmv n8 (.slice o6 k6 c6) (.slice o7 st.order.length c7) st.down st.n)] W fun r w'=> ∃ (arr :Array Value) (z :Int),r= .returned (.tuple #[.agg arr, .int .i64 z]) ∧arr.size=20∧arr.all (·.oneCell') =true∧ (match Du ct st with | .error m=>z=m | .ok st=>z=0∧Akj.R (Fx C (w.heap.size+3)) w' st arr.toList) ∧Below W.heap.size W w' :=fun W h=> (Ol ct (.agg #[tv,iv]) st (sA st.kind st.name st.table st.col (.slice o1 st.cols.length c1) (.slice o2 st.rows.length c2) (.slice o3 st.sets.length c3) (.slice o4 st.frm.length c4) (.slice o5 st.out.length c5) op xk xn xs s nmv n8 (.slice o6 k6 c6) (.slice o7 st.order.length c7) st.down st.n).toList C W (hcW.keep (Af (h.mono hCW))) (Akj.keep (Af (h.mono hCW)) hRW) (Nat.le_trans hCW h.size) hf hxb (Xf hcb)).mono (by
  rintro r w' ⟨⟨v,rfl,arr,ha1,ha2,hv⟩,hb'⟩
  cases hr :Du ct st with
  | error m=>
   rw [hr] at hv
   obtain rfl :=hv
   exact ⟨arr,m,rfl,ha1,ha2,rfl,hb'⟩
  | ok e2=>
   rw [hr] at hv
   obtain ⟨rfl,hE'⟩ :=hv
   exact ⟨arr,0,rfl,ha1,ha2,⟨rfl,Akj.mono (fun k _ hk=>hk.imp id (fun h2=>Nat.le_trans (Nat.le_trans S0.big h.size) h2)) hE'⟩,hb'⟩)
 have h12 : (1 :Nat) =1 :=rfl
 have HE :Hid (C4 ct st= .ok st2) :=HE0.out.trans hkr
 rw [hkr] at HK
 simp only at HK
 clear hcW hRW htl hil hR i1 i2 i3 i4 i5 i6 i7 hcb hxb HE0 hkr h12
 go_enter Tryz.func4,Tryz.ntmps4
 go_wp2_with (first | (go_at_call 13;go_fit HG;rintro e w1 ⟨rfl,hb1⟩;have S1 :=S0.below hb1;have HX1 :=HX _ hb1;have y0 := (hb1.cell (p := ⟨w.heap.size,0,none⟩) hlc).trans ct0;have y1 := (hb1.cell (p := ⟨w.heap.size,1,none⟩) hlc).trans ct1) | (go_at_call 14;go_fit HX1;rintro e w2 ⟨rfl,hb2⟩;have S2 :=S1.below hb2;have hb12 :=Ad hb1 hb2;have z0 := (hb2.cell (p := ⟨w.heap.size,0,none⟩) (Nat.lt_of_lt_of_le hlc hb1.size)).trans y0;have z1 := (hb2.cell (p := ⟨w.heap.size,1,none⟩) (Nat.lt_of_lt_of_le hlc hb1.size)).trans y1;have HK1 :=HK _ hb12) | (go_at_call 15;refine HK1.mono ?_;rintro r w3 ⟨arr,z,rfl,ha1,ha2,⟨rfl,hE6⟩,hb3'⟩;have S3 := (S2.below hb3').below (Ao w3 (.cells Ai 36));have hnew :=Ab w3 (.cells Ai 36);have hi1 :=Zq ha1;have S4 :SeSt w ((w3.alloc (.cells Ai 36)).setRow w3.heap.size arr) (sA st.kind st.name st.table st.col (.slice o1 st.cols.length c1) (.slice o2 st.rows.length c2) (.slice o3 st.sets.length c3) (.slice o4 st.frm.length c4) (.slice o5 st.out.length c5) op xk xn xs s nmv n8 (.slice o6 k6 c6) (.slice o7 st.order.length c7) st.down st.n) :=S3.row (S2.below hb3').big _;have hbox : ((w3.alloc (.cells Ai 36)).setRow w3.heap.size arr).heap[w3.heap.size]? =some (.cells arr 36) :=Au hnew) | (refine wpList_store_row rfl 36 _ _ rfl w3.heap.size arr ?_ ?_ 36 Ai ?_ ?_ ?_ ?_ ?_;exact rfl;exact rfl;exact hnew;exact hi1;exact ha1.symm;exact ha2) | (refine wpList_load_row rfl 36 _ rfl (w.heap.size+1) ?_ 36 _ (0,0) _ S2.stm Tryz.underlying36 ?_ ?_ ?_;exact rfl;exact rfl;exact Ak) | (refine Hg ?_ 36 _ rfl (w.heap.size+1) ?_ 36 _ (0,0) _ S1.stm Tryz.underlying36 ?_ ?_ ?_;exact rfl;exact rfl;exact rfl;exact Ak) | (refine wpList_load_row rfl 36 _ rfl w3.heap.size ?_ 36 _ (0,0) _ hbox Tryz.underlying36 ?_ ?_ ?_;exact rfl;exact rfl;exact hi1) | (refine wpList_store_row rfl 36 _ _ rfl (w.heap.size+1+1) arr ?_ ?_ 36 Ai ?_ ?_ ?_ ?_ ?_;exact rfl;exact rfl;exact S4.room;exact hi1;exact ha1.symm;exact ha2))
 refine bodyPost_ret (A2 Tryz.results4 _ _ (w.heap.size+1+1) 36 arr _ _ _ rfl rfl (Au S4.room) Tryz.underlying36 rfl hi1) rfl ⟨⟨_,rfl, ?_⟩,Below.row S4.bel (by omega) _⟩
 rw [HE.out]
 have hF2 : ¬Fx C (w.heap.size+3) (w.heap.size+1+1) :=by intro h;rcases h with h | h<;>omega
 have hp : ¬ (fun k=>Fx C (w.heap.size+3) k∧k≠w3.heap.size) w3.heap.size :=fun h=>h.2 rfl
 have hE7 :Akj.R (fun k=>Fx C (w.heap.size+3) k∧k≠w3.heap.size) w3 st2 arr.toList :=Akj.mono (fun k hk h=> ⟨h,Nat.ne_of_lt hk⟩) hE6
 exact ⟨arr,rfl,ha1,ha2,Akj.mono (fun k _ h=>h.1.imp id (fun h=>Nat.le_trans (by omega) h)) (Akj.keep ((((Bd (Ao w3 _)).row hp _)).row (fun h=>hF2 h.1) _) hE7)⟩
set_option maxRecDepth 100000 in
set_option maxHeartbeats 8000000 in
theorem Ac8 (ct :CatD) (cv :Value) (st :Stm) (cs :List Value) (C :Nat) (w :World) (hc :Cz (fun k=>k<C) w ct cv) (hR :Akj.R (fun k=>k<C) w st cs) (hC :C≤w.heap.size) (hfc :Gv ct) (hf :FitB st) :
  Calls Tryz.prog 4 #[cv, .agg cs.toArray] w fun r w'=> (∃u,r= .returned u∧K8 (C4 ct st) (Fx C w.heap.size) w' u) ∧Below w.heap.size w w' :=by
 cases hcb :C8 ct
 ·exact Xg ct cv st cs C w hc hR hC hfc hf hcb
 ·cases hxb :D4 st
  ·exact Vc ct cv st cs C w hc hR hC hfc hf hcb hxb
  ·cases hkr :Du ct st with
   | error m=>exact Ac7 ct cv st cs C w hc hR hC hfc hf hcb hxb m hkr
   | ok st2=>exact Ae6 ct cv st cs C w hc hR hC hfc hf hcb hxb st2 hkr
end Go.Proofs.YthehiijgnepcfaaGreat

namespace Go.Proofs.YthehiijgnepcfaaGreat
open Go.RowKit
theorem Ck {fn :Func} {p :Tmp} {w0 w :World} {g :Nat} {a :Act} {c0 c1 c2 :Value} {t :TypeId} {fr :Nat×Nat} (v :V) (hr :fn.results= #[.cell p 32]) (hp :a.tmps.getD p undef= .pointer (some ⟨g,0,none⟩)) (hd :a.defers= [])
  (hg :w.heap[g]? =some (.cells #[c0,c1,c2] t fr)) (hb :Below w0.heap.size w0 w) (hlt :w0.heap.size≤g) :
  bodyPost Tryz.prog fn (fun e w'=>e= .returned v.val∧Below w0.heap.size w0 w') .ret a (((w.setCell ⟨g,0,none⟩ (.int .i64 v.k)).setCell ⟨g,1,none⟩ (.int .i64 v.n)).setCell ⟨g,2,none⟩ (.string v.s)) :=
 bodyPost_ret (results_cell_row hr a.tmps _ g t _ fr _ hp (Ahh hg) Tryz.underlying32 rfl (by kernel_rfl)) hd ⟨rfl,((hb.setCell hlt _).setCell hlt _).setCell hlt _⟩
theorem Agw (n :Int) :bits .and .i64 n 1=n %2 :=by
 show IntKind.i64.wrap ((BitVec.ofInt 64 n&&&BitVec.ofInt 64 1).toNat :Int) =_
 have h1 : (BitVec.ofInt 64 1).toNat=1 :=by decide
 rw [BitVec.toNat_and,h1,Nat.and_one_is_mod,BitVec.toNat_ofInt,IntKind.wrap_i64]
 omega
set_option maxHeartbeats 400000 in
theorem L9 (v :V) (w :World) :Calls Tryz.prog 11 #[v.val] w fun e w'=>e= .returned (.int .i64 (ofV v)) ∧Below w.heap.size w w' :=by
 obtain ⟨k,n,s⟩ :=v
 show Calls Tryz.prog 11 #[.agg #[.int .i64 k, .int .i64 n, .string s]] w _
 by_cases h :k=3
 all_goals
  go_enter Tryz.func11,Tryz.ntmps11
  go_wp2
  go_ret
  refine ⟨An ?_,(Below.refl _ _).alloc (Nat.le_refl _) _⟩
  simp [ofV,h,Agw]
set_option maxHeartbeats 400000 in
theorem Lj (n :Int) (w :World) :Calls Tryz.prog 157 #[.int .i64 n] w fun e w'=>e= .returned (Dg n).val∧Below w.heap.size w w' :=by
 by_cases h :n=0
 ·subst h
  go_enter Tryz.func157,Tryz.ntmps157
  go_wp2
  exact bodyPost_ret (v := .agg #[.int .i64 3, .int .i64 0, .string noW]) (by simp [results,Tryz.results157,go_sem]) rfl ⟨rfl,(Below.refl _ _).alloc (Nat.le_refl _) _⟩
 by_cases h1 :n=1
 ·subst h1
  go_enter Tryz.func157,Tryz.ntmps157
  go_wp2
  exact bodyPost_ret (v := .agg #[.int .i64 3, .int .i64 1, .string noW]) (by simp [results,Tryz.results157,go_sem]) rfl ⟨rfl,(Below.refl _ _).alloc (Nat.le_refl _) _⟩
 have E :Hid (Dg n=zero) :=by show _=_;simp [Dg,h,h1]
 have e1 : (n !=0) =true :=by simpa using h
 have e2 : (n !=1) =true :=by simpa using h1
 go_enter Tryz.func157,Tryz.ntmps157
 go_wp2
 exact bodyPost_ret (v := .agg #[.int .i64 0, .int .i64 0, .string noW]) (by simp [results,Tryz.results157,go_sem]) rfl ⟨by rw [E.out];rfl,(Below.refl _ _).alloc (Nat.le_refl _) _⟩
set_option maxHeartbeats 400000 in
theorem Lt (b :Bool) (w :World) :Calls Tryz.prog 159 #[.bool b] w fun e w'=>e= .returned (whV b).val∧Below w.heap.size w w' :=by
 cases b
 all_goals
  go_enter Tryz.func159,Tryz.ntmps159
  go_wp2_with (go_at_call 157;refine (Lj _ _).mono ?_;rintro e w1 ⟨rfl,hb1⟩;simp only [V.val];obtain ⟨hcc,hff⟩ :=C9 hb1)
  exact Ck (whV _) Tryz.results159 rfl rfl ((hb1.block _ (by simp)).trans (Ab _ _)) (Ad ((Below.refl _ _).alloc (Nat.le_refl _) _) hb1) (Nat.le_refl _)
set_option maxHeartbeats 400000 in
theorem Py (n :Int) (w :World) :Calls Tryz.prog 180 #[.int .i64 n] w fun e w'=>e= .returned (Jy n).val∧Below w.heap.size w w' :=by
 have hg :=fun w=>Hw ⟨1,n,noW⟩ w (by simp [ByteArray.size])
 have E :Hid (Jy n=if good ⟨1,n,noW⟩ then ⟨1,n,noW⟩ else zero) :=rfl
 generalize good ⟨1,n,noW⟩ =b at hg E
 cases b
 ·go_enter Tryz.func180,Tryz.ntmps180
  go_wp2_with (go_at_call 57;refine (hg _).mono ?_;rintro e w1 ⟨rfl,rfl⟩)
  rw [E.out]
  exact bodyPost_ret (v := .agg #[.int .i64 0, .int .i64 0, .string noW]) (by simp [results,Tryz.results180,go_sem]) rfl ⟨rfl,(((Below.refl _ _).alloc (Nat.le_refl _) _).alloc (by simp) _).alloc (by simp;omega) _⟩
 ·go_enter Tryz.func180,Tryz.ntmps180
  go_wp2_with (go_at_call 57;refine (hg _).mono ?_;rintro e w1 ⟨rfl,rfl⟩)
  rw [E.out]
  exact bodyPost_ret (v := .agg #[.int .i64 1, .int .i64 n, .string noW]) (by simp [results,Tryz.results180,go_sem]) rfl ⟨rfl,(((Below.refl _ _).alloc (Nat.le_refl _) _).alloc (by simp) _).alloc (by simp;omega) _⟩
set_option maxHeartbeats 400000 in
theorem Un (v :V) (w :World) (hs :v.s.size≤maxLen) :Calls Tryz.prog 162 #[v.val] w fun e w'=>e= .returned (.bool (Eg v)) ∧Below w.heap.size w w' :=by
 have hg :=fun w=>Hw v w hs
 have E :Hid (Eg v= (!decide (v.k=0) &&good v)) :=rfl
 generalize good v=b at hg E
 generalize Eg v=r at E
 clear hs
 obtain ⟨k,n,s⟩ :=v
 simp only [V.val] at hg⊢
 by_cases h :k=0
 ·subst h
  go_enter Tryz.func162,Tryz.ntmps162
  go_wp2
  go_ret
  exact ⟨Ag (by rw [E.out];rfl),(Below.refl _ _).alloc (Nat.le_refl _) _⟩
 ·have h1 : (k !=0) =true :=by simpa using h
  go_enter Tryz.func162,Tryz.ntmps162
  go_wp2_with (go_at_call 57;refine (hg _).mono ?_;rintro e w1 ⟨rfl,rfl⟩)
  go_ret
  exact ⟨Ag (by rw [E.out];simp [h]),((Below.refl _ _).alloc (Nat.le_refl _) _).alloc (by simp) _⟩
theorem Ae7 (op :Int) : (Gy op :Int) =if op=9∨op=10 then 1 else if 3≤op∧op≤8 then 2 else 0 :=by
 unfold Gy
 split
 ·rfl
 ·split<;>rfl
set_option maxHeartbeats 400000 in
theorem J3 (op :Int) (w :World) :Calls Tryz.prog 123 #[.int .i64 op] w fun e w'=>e= .returned (.int .i64 (Gy op :Int)) ∧w'=w :=by
 by_cases h9 :op=9<;>by_cases h10 :op=10<;>by_cases h3 :op=3<;>by_cases h4 :op=4<;>by_cases h5 :op=5<;>by_cases h6 :op=6<;>by_cases h7 :op=7<;>by_cases h8 :op=8
 all_goals (try omega)
 all_goals
  have E :Hid ((Gy op :Int) =if op=9∨op=10 then 1 else if 3≤op∧op≤8 then 2 else 0) :=Ae7 op
  go_enter Tryz.func123,Tryz.ntmps123
  go_wp2
  go_ret
  refine ⟨An ?_,rfl⟩
  rw [E.out]
  first | (rw [if_pos (by omega)];done) | (rw [if_neg (by omega),if_pos (by omega)];done) | (rw [if_neg (by omega),if_neg (by omega)];done)
set_option maxHeartbeats 1000000 in
theorem Vd (op :Int) (x :V) (s name :Wd) (n :Int) (ao :Option Addr) (k c :Nat) (w :World) :
  Calls Tryz.prog 74 #[.agg (Ae op x s name n (.slice ao k c))] w fun e w'=>e= .returned (if k=Gy op then .slice ao k c else .slice none 0 0) ∧Below w.heap.size w w' :=by
 obtain ⟨xk,xn,xs⟩ :=x
 by_cases h :k=Gy op
 ·have h1 : ((k :Int) != (Gy op :Int)) =false :=by rw [h];simp
  rw [if_pos h]
  clear h
  go_enter Tryz.func74,Tryz.ntmps74
  go_wp2
  go_region_held3 (fun w'=>w'.cell? ⟨w.heap.size,0,none⟩ =some (.int .i64 op) ∧w'.cell? ⟨w.heap.size,7,none⟩ =some (.slice ao k c)) (go_keep)
   (first | (go_at_call 123;refine (J3 _ _).mono ?_;rintro e w' ⟨rfl,rfl⟩))
  go_wp2
  go_ret
  refine ⟨rfl, ?_⟩
  repeat first | exact Below.refl _ _ | apply Below.drew | refine Below.alloc ?_ (by simp;try omega) _
 ·have h1 : ((k :Int) != (Gy op :Int)) =true :=by simp;omega
  rw [if_neg h]
  clear h
  go_enter Tryz.func74,Tryz.ntmps74
  go_wp2
  go_region_held3 (fun w'=>w'.cell? ⟨w.heap.size,0,none⟩ =some (.int .i64 op) ∧w'.cell? ⟨w.heap.size,7,none⟩ =some (.slice ao k c)) (go_keep)
   (first | (go_at_call 123;refine (J3 _ _).mono ?_;rintro e w' ⟨rfl,rfl⟩))
  go_wp2
  go_ret
  refine ⟨rfl, ?_⟩
  repeat first | exact Below.refl _ _ | apply Below.drew | refine Below.alloc ?_ (by simp;try omega) _
end Go.Proofs.YthehiijgnepcfaaGreat

namespace Go.Proofs.YthehiijgnepcfaaGreat
open Go.RowKit
def O4 (C :Nat) (w :World) (e :E) (p :Value) :Prop :=
 ∃ (b o :Nat) (op xk xn :Int) (xs s name :Wd) (n :Int) (ao :Option Addr) (c :Nat) (l :List E),p= .pointer (some ⟨b,o,none⟩) ∧b<C∧e= .mk op ⟨xk,xn,xs⟩ s name n l∧
  (w.cell? ⟨b,o,none⟩ =some (.int .i64 op) ∧w.cell? ⟨b,o+1,none⟩ =some (.int .i64 xk) ∧w.cell? ⟨b,o+2,none⟩ =some (.int .i64 xn) ∧w.cell? ⟨b,o+3,none⟩ =some (.string xs) ∧w.cell? ⟨b,o+4,none⟩ =some (.string s) ∧w.cell? ⟨b,o+5,none⟩ =some (.string name) ∧w.cell? ⟨b,o+6,none⟩ =some (.int .i64 n) ∧w.cell? ⟨b,o+7,none⟩ =some (.slice ao l.length c)) ∧
  Ff (fun k=>k<C) w (.slice ao l.length c) l
theorem O4.keep {C :Nat} {w w' :World} {e :E} {p :Value} (h :O4 C w e p) (hb :Below C w w') :O4 C w' e p :=by
 obtain ⟨b,o,op,xk,xn,xs,s,name,n,ao,c,l,h1,h2,h3,⟨c0,c1,c2,c3,c4,c5,c6,c7⟩,h4⟩ :=h
 have g : ∀o,w'.cell? ⟨b,o,none⟩ =w.cell? ⟨b,o,none⟩ :=fun o=>hb.cell (p := ⟨b,o,none⟩) h2
 exact ⟨b,o,op,xk,xn,xs,s,name,n,ao,c,l,h1,h2,h3,⟨(g _).trans c0,(g _).trans c1,(g _).trans c2,(g _).trans c3,(g _).trans c4,(g _).trans c5,(g _).trans c6,(g _).trans c7⟩,h4.keep (Af hb)⟩
def Qt (C :Nat) (w :World) (L :List E) (P :List Value) :Prop := ∀ (i :Nat) (e :E),L[i]? =some e→ ∃p,P[i]? =some p∧O4 C w e p
theorem Qt.keep {C :Nat} {w w' :World} {L :List E} {P :List Value} (h :Qt C w L P) (hb :Below C w w') :Qt C w' L P :=fun i e hi=>by
 obtain ⟨p,h1,h2⟩ :=h i e hi
 exact ⟨p,h1,h2.keep hb⟩
theorem Qt.snoc {C :Nat} {w :World} {L :List E} {P :List Value} (h :Qt C w L P) (hl :P.length=L.length) {e :E} {p :Value} (hp :O4 C w e p) :Qt C w (L++ [e]) (P++ [p]) :=fun i x hi=>by
 rcases Nat.lt_trichotomy i L.length with h1 | h1 | h1
 ·rw [List.getElem?_append_left h1] at hi
  obtain ⟨q,h2,h3⟩ :=h i x hi
  exact ⟨q,by rw [List.getElem?_append_left (by omega)];exact h2,h3⟩
 ·subst h1
  rw [List.getElem?_append_right (Nat.le_refl _)] at hi
  simp at hi
  subst hi
  exact ⟨p,by rw [←hl,List.getElem?_append_right (Nat.le_refl _)];simp,hp⟩
 ·rw [List.getElem?_eq_none (by simp;omega)] at hi;cases hi
theorem Ae8 {C :Nat} {w :World} {b off cap :Nat} {l :List E} (h :Ff (fun k=>k<C) w (.slice (some ⟨b,off,none⟩) l.length cap) l) {k :Nat} {e :E} (hk :l[k]? =some e) :O4 C w e (.pointer (some ⟨b,off+k*8,none⟩)) :=by
 obtain ⟨cs,hr,ha⟩ :=h
 obtain ⟨xo,xk,xn,xs2,xs,xm,xi,xa,xl,xc,he,hc⟩ :=Vy hr ha hk
 have h0 :0<l.length :=by have := (List.getElem?_eq_some_iff.1 hk).1;omega
 have hb :b<C :=by
  rcases hr.2 with ⟨h1,_⟩ | ⟨_,b',o',c',hh,hF,_⟩
  ·omega
  ·cases hh;exact hF
 cases e with
 | mk op x s name n l'=>
  obtain ⟨sv,h1,h2⟩ :=he.open
  obtain ⟨ao,c,rfl⟩ :=h2.shape
  obtain ⟨yk,yn,ys⟩ :=x
  simp only [Ae,Value.agg.injEq,Array.mk.injEq,List.cons.injEq,Value.int.injEq,Value.string.injEq,Value.slice.injEq,true_and,and_true] at h1
  obtain ⟨rfl,rfl,rfl,rfl,rfl,rfl,rfl,rfl,rfl,rfl⟩ :=h1
  exact ⟨b,off+k*8,xo,xk,xn,xs2,xs,xm,xi,xa,xc,l',rfl,hb,rfl,hc w (Below.refl _ _),h2⟩
theorem Jf {C :Nat} (op :Int) (x :V) (s name :Wd) (n :Int) (ao :Option Addr) (c :Nat) (l :List E) (w :World) (h :Ff (fun k=>k<C) w (.slice ao l.length c) l) (hC :C≤w.heap.size) :
  Calls Tryz.prog 74 #[.agg (Ae op x s name n (.slice ao l.length c))] w fun e w'=> ∃ko kc,e= .returned (.slice ko (B6 op l).length kc) ∧Ff (fun k=>k<C) w' (.slice ko (B6 op l).length kc) (B6 op l) ∧Below w.heap.size w w' :=by
 refine (Vd op x s name n ao l.length c w).mono ?_
 rintro e w' ⟨rfl,hb⟩
 unfold B6
 split
 ·exact ⟨ao,c,rfl,h.keep (Af (hb.mono hC)),hb⟩
 ·exact ⟨none,0,rfl,Ff.nil _ _,hb⟩
theorem Ae9 : (Tryz.prog.info? 171).map (fun i=> (i.zero,i.size,i.bytes)) =some (some (.pointer none),1,8) :=by kernel_rfl
end Go.Proofs.YthehiijgnepcfaaGreat

