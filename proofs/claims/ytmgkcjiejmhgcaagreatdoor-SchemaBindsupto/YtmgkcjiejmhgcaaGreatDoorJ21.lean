/-
  1 texts of this proof in one, in build order: WWith4.
-/
import Derived.Deep.Cut
import Derived.Test.YtmgkcjiejmhgcaaGreatDoorJ20
set_option linter.unusedSimpArgs false
set_option linter.unusedVariables false
namespace Go.Proofs.YtmgkcjiejmhgcaaGreatDoor
open Go.RowKit Go.Maps
theorem Ef {w :World} {b g :Nat} {x :Obj} (h :w.heap[b]? =some x) (hn :b≠g) (o :Nat) (v :Value) : (w.setCell ⟨g,o,none⟩ v).heap[b]? =some x :=by
 simp only [World.setCell,Array.getElem?_modify]
 rw [if_neg (fun e=>hn e.symm)];exact h
theorem Ix {w :World} {g :Nat} {p q :Value} {t :TypeId} (h :w.heap[g]? =some (.cells #[p,q] t)) (a b :Value) : ((w.setCell ⟨g,0,none⟩ a).setCell ⟨g,1,none⟩ b).heap[g]? =some (.cells #[a,b] t) :=by
 rw [upd (upd h 0 a) 1 b];rfl
def Hg (ct :CatD) (C :Nat) (w :World) (e :Ending) (w' :World) :Prop := ∃v,e= .returned v∧Bh (Fx C w.heap.size) w' ct v∧Below w.heap.size w w'
set_option maxRecDepth 100000 in
set_option maxHeartbeats 8000000 in
theorem Zr (ct :CatD) (cols :List ColD) (to' :Option Addr) (tc :Nat) (io :Option Addr) (ic :Nat) (nmv tbv clv :Wd) (o1 :Option Addr) (c1 :Nat) (o2 :Option Addr) (n2 c2 :Nat) (o3 :Option Addr) (n3 c3 :Nat) (o4 :Option Addr) (n4 c4 :Nat) (o5 :Option Addr) (n5 c5 :Nat) (op xk xn :Int) (xs s nm8 :Wd) (n8 :Int) (o6 :Option Addr) (k6 c6 :Nat) (o7 :Option Addr) (n7 c7 :Nat) (dn :Bool) (nn :Int) (C :Nat) (w :World)
  (hT :IsL A4 (fun k=>k<C) w (.slice to' ct.tables.length tc) ct.tables) (hI :IsL B7 (fun k=>k<C) w (.slice io ct.indexes.length ic) ct.indexes) (hcols :IsL Bg (fun k=>k<C) w (.slice o1 cols.length c1) cols) (hC :C≤w.heap.size) (hlT :ct.tables.length≤1000000) (_ :ct.indexes.length≤1000000) (hr :Dj (ct.tables.map TabD.name)) :
  Calls Tryz.prog 19 #[.agg #[.slice to' ct.tables.length tc, .slice io ct.indexes.length ic], .agg (sA 1 nmv tbv clv (.slice o1 cols.length c1) (.slice o2 n2 c2) (.slice o3 n3 c3) (.slice o4 n4 c4) (.slice o5 n5 c5) op xk xn xs s nm8 n8 (.slice o6 k6 c6) (.slice o7 n7 c7) dn nn)] w (Hg ⟨Fh TabD.name ct.tables ⟨nmv,cols⟩,ct.indexes⟩ C w) :=by
 have hb3 :=Fc w (.cells #[.slice to' ct.tables.length tc, .slice io ct.indexes.length ic] 25) (.cells (sA 1 nmv tbv clv (.slice o1 cols.length c1) (.slice o2 n2 c2) (.slice o3 n3 c3) (.slice o4 n4 c4) (.slice o5 n5 c5) op xk xn xs s nm8 n8 (.slice o6 k6 c6) (.slice o7 n7 c7) dn nn) 36) (.cells #[.slice none 0 0, .slice none 0 0] 25)
 have B0 : (((w.alloc (.cells #[.slice to' ct.tables.length tc, .slice io ct.indexes.length ic] 25)).alloc (.cells (sA 1 nmv tbv clv (.slice o1 cols.length c1) (.slice o2 n2 c2) (.slice o3 n3 c3) (.slice o4 n4 c4) (.slice o5 n5 c5) op xk xn xs s nm8 n8 (.slice o6 k6 c6) (.slice o7 n7 c7) dn nn) 36)).alloc (.cells #[.slice none 0 0, .slice none 0 0] 25)).heap[w.heap.size]? =some (.cells #[.slice to' ct.tables.length tc, .slice io ct.indexes.length ic] 25) :=Ae (Ae (Ab _ _) _) _
 have B1 : (((w.alloc (.cells #[.slice to' ct.tables.length tc, .slice io ct.indexes.length ic] 25)).alloc (.cells (sA 1 nmv tbv clv (.slice o1 cols.length c1) (.slice o2 n2 c2) (.slice o3 n3 c3) (.slice o4 n4 c4) (.slice o5 n5 c5) op xk xn xs s nm8 n8 (.slice o6 k6 c6) (.slice o7 n7 c7) dn nn) 36)).alloc (.cells #[.slice none 0 0, .slice none 0 0] 25)).heap[w.heap.size+1]? =some (.cells (sA 1 nmv tbv clv (.slice o1 cols.length c1) (.slice o2 n2 c2) (.slice o3 n3 c3) (.slice o4 n4 c4) (.slice o5 n5 c5) op xk xn xs s nm8 n8 (.slice o6 k6 c6) (.slice o7 n7 c7) dn nn) 36) :=Ae (A0 _ _ _) _
 have B2 : (((w.alloc (.cells #[.slice to' ct.tables.length tc, .slice io ct.indexes.length ic] 25)).alloc (.cells (sA 1 nmv tbv clv (.slice o1 cols.length c1) (.slice o2 n2 c2) (.slice o3 n3 c3) (.slice o4 n4 c4) (.slice o5 n5 c5) op xk xn xs s nm8 n8 (.slice o6 k6 c6) (.slice o7 n7 c7) dn nn) 36)).alloc (.cells #[.slice none 0 0, .slice none 0 0] 25)).heap[w.heap.size+2]? =some (.cells #[.slice none 0 0, .slice none 0 0] 25) :=Dl _ _ _ _
 have hsz : (((w.alloc (.cells #[.slice to' ct.tables.length tc, .slice io ct.indexes.length ic] 25)).alloc (.cells (sA 1 nmv tbv clv (.slice o1 cols.length c1) (.slice o2 n2 c2) (.slice o3 n3 c3) (.slice o4 n4 c4) (.slice o5 n5 c5) op xk xn xs s nm8 n8 (.slice o6 k6 c6) (.slice o7 n7 c7) dn nn) 36)).alloc (.cells #[.slice none 0 0, .slice none 0 0] 25)).heap.size=w.heap.size+3 :=by simp
 generalize hW : ((w.alloc (.cells #[.slice to' ct.tables.length tc, .slice io ct.indexes.length ic] 25)).alloc (.cells (sA 1 nmv tbv clv (.slice o1 cols.length c1) (.slice o2 n2 c2) (.slice o3 n3 c3) (.slice o4 n4 c4) (.slice o5 n5 c5) op xk xn xs s nm8 n8 (.slice o6 k6 c6) (.slice o7 n7 c7) dn nn) 36)).alloc (.cells #[.slice none 0 0, .slice none 0 0] 25) =W at hb3 B0 B1 B2 hsz
 have HW :Hid _ :=hW
 have HSZ :Hid _ :=hsz
 clear hW hsz
 have a0 :=Aa B0 (j :=0) (u := .slice to' ct.tables.length tc) rfl
 have a1 :=Aa B0 (j :=1) (u := .slice io ct.indexes.length ic) rfl
 have b0 :=Aa B1 (j :=0) (u := .int .i64 1) rfl
 have b1 :=Aa B1 (j :=1) (u := .string nmv) rfl
 have b2 :=Aa B1 (j :=2) (u := .string tbv) rfl
 have b3 :=Aa B1 (j :=3) (u := .string clv) rfl
 have b4 :=Aa B1 (j :=4) (u := .slice o1 cols.length c1) rfl
 have hCW :C≤W.heap.size :=Nat.le_trans hC hb3.size
 have hTW :=hT.keep (Ag (hb3.mono hC))
 have hIW :=hI.keep (Ag (hb3.mono hC))
 have hcW :=hcols.keep (Ag (hb3.mono hC))
 have HI :=Uf ct.tables ⟨nmv,cols⟩ (.slice to' ct.tables.length tc) [.string nmv, .slice o1 cols.length c1] C W hTW ⟨_,rfl,hcW⟩ hCW hr hlT
 rw [HSZ.out] at HI
 clear hT hcols hr hcW hTW
 generalize Fh TabD.name ct.tables ⟨nmv,cols⟩ =T2 at HI⊢
 go_enter Tryz.func19,Tryz.ntmps19
 go_upto_region 1 with fail
 rw [HW.out]
 go_wp2_with (go_at_call 40;go_must (go_fit HI;rintro e w1 ⟨v1,rfl,hL1,hb1⟩;obtain ⟨vo,vc,rfl⟩ :=hL1.shape;have D0 := (hb1.block _ (by omega)).trans B0;have D2 := (hb1.block _ (by omega)).trans B2;have z0 :=Aa D0 (j :=0) (u := .slice to' ct.tables.length tc) rfl;have z1 :=Aa D0 (j :=1) (u := .slice io ct.indexes.length ic) rfl;have z2 :=Aa D2 (j :=0) (u := .slice none 0 0) rfl;have z3 :=Aa D2 (j :=1) (u := .slice none 0 0) rfl;have f0 :w1.frozen? ⟨w.heap.size,0,none⟩ =false := (by simp [World.frozen?,D0]);have f2 :w1.frozen? ⟨w.heap.size+2,0,none⟩ =false := (by simp [World.frozen?,D2]);have f3 :w1.frozen? ⟨w.heap.size+2,1,none⟩ =false := (by simp [World.frozen?,D2])))
 refine bodyPost_ret (v := .agg #[.slice vo T2.length vc, .slice io ct.indexes.length ic]) (results_cell_row Tryz.results19 _ _ (w.heap.size+2) 25 #[.slice vo T2.length vc, .slice io ct.indexes.length ic] _ _ rfl (Ix (Ef D2 (by omega) _ _) _ _) Tryz.underlying25 rfl (by kernel_rfl)) rfl ?_
 have hbw :Below w.heap.size w w1 :=hb3.trans (hb1.mono (by omega))
 refine ⟨_,rfl,⟨_,_,rfl, ?_, ?_⟩,((hbw.setCell (show w.heap.size≤w.heap.size by omega) _).setCell (show w.heap.size≤w.heap.size+2 by omega) _).setCell (show w.heap.size≤w.heap.size+2 by omega) _⟩
 ·refine (hL1.keep ((((Keeps.refl _ w1).set ?_ _ _).set ?_ _ _).set ?_ _ _)).mono fun k _ hk=> ?_
  ·rintro (h | h) <;>omega
  ·rintro (h | h) <;>omega
  ·rintro (h | h) <;>omega
  ·rcases hk with h | h
   ·exact .inl h
   ·exact .inr (by omega)
 ·refine (hI.keep ?_).mono fun k _ hk=> .inl hk
  exact (((Ag (hbw.mono hC)).set (b :=w.heap.size) (by omega) _ _).set (b :=w.heap.size+2) (by omega) _ _).set (b :=w.heap.size+2) (by omega) _ _
set_option maxRecDepth 100000 in
set_option maxHeartbeats 8000000 in
theorem Zs (ct :CatD) (cols :List ColD) (to' :Option Addr) (tc :Nat) (io :Option Addr) (ic :Nat) (nmv tbv clv :Wd) (o1 :Option Addr) (c1 :Nat) (o2 :Option Addr) (n2 c2 :Nat) (o3 :Option Addr) (n3 c3 :Nat) (o4 :Option Addr) (n4 c4 :Nat) (o5 :Option Addr) (n5 c5 :Nat) (op xk xn :Int) (xs s nm8 :Wd) (n8 :Int) (o6 :Option Addr) (k6 c6 :Nat) (o7 :Option Addr) (n7 c7 :Nat) (dn :Bool) (nn :Int) (C :Nat) (w :World)
  (hT :IsL A4 (fun k=>k<C) w (.slice to' ct.tables.length tc) ct.tables) (hI :IsL B7 (fun k=>k<C) w (.slice io ct.indexes.length ic) ct.indexes) (hcols :IsL Bg (fun k=>k<C) w (.slice o1 cols.length c1) cols) (hC :C≤w.heap.size) (_ :ct.tables.length≤1000000) (hlI :ct.indexes.length≤1000000) (hr :Dj (ct.indexes.map IdxD.name)) :
  Calls Tryz.prog 19 #[.agg #[.slice to' ct.tables.length tc, .slice io ct.indexes.length ic], .agg (sA 2 nmv tbv clv (.slice o1 cols.length c1) (.slice o2 n2 c2) (.slice o3 n3 c3) (.slice o4 n4 c4) (.slice o5 n5 c5) op xk xn xs s nm8 n8 (.slice o6 k6 c6) (.slice o7 n7 c7) dn nn)] w (Hg ⟨ct.tables,Fh IdxD.name ct.indexes ⟨nmv,tbv,clv⟩⟩ C w) :=by
 have hb3 :=Fc w (.cells #[.slice to' ct.tables.length tc, .slice io ct.indexes.length ic] 25) (.cells (sA 2 nmv tbv clv (.slice o1 cols.length c1) (.slice o2 n2 c2) (.slice o3 n3 c3) (.slice o4 n4 c4) (.slice o5 n5 c5) op xk xn xs s nm8 n8 (.slice o6 k6 c6) (.slice o7 n7 c7) dn nn) 36) (.cells #[.slice none 0 0, .slice none 0 0] 25)
 have B0 : (((w.alloc (.cells #[.slice to' ct.tables.length tc, .slice io ct.indexes.length ic] 25)).alloc (.cells (sA 2 nmv tbv clv (.slice o1 cols.length c1) (.slice o2 n2 c2) (.slice o3 n3 c3) (.slice o4 n4 c4) (.slice o5 n5 c5) op xk xn xs s nm8 n8 (.slice o6 k6 c6) (.slice o7 n7 c7) dn nn) 36)).alloc (.cells #[.slice none 0 0, .slice none 0 0] 25)).heap[w.heap.size]? =some (.cells #[.slice to' ct.tables.length tc, .slice io ct.indexes.length ic] 25) :=Ae (Ae (Ab _ _) _) _
 have B1 : (((w.alloc (.cells #[.slice to' ct.tables.length tc, .slice io ct.indexes.length ic] 25)).alloc (.cells (sA 2 nmv tbv clv (.slice o1 cols.length c1) (.slice o2 n2 c2) (.slice o3 n3 c3) (.slice o4 n4 c4) (.slice o5 n5 c5) op xk xn xs s nm8 n8 (.slice o6 k6 c6) (.slice o7 n7 c7) dn nn) 36)).alloc (.cells #[.slice none 0 0, .slice none 0 0] 25)).heap[w.heap.size+1]? =some (.cells (sA 2 nmv tbv clv (.slice o1 cols.length c1) (.slice o2 n2 c2) (.slice o3 n3 c3) (.slice o4 n4 c4) (.slice o5 n5 c5) op xk xn xs s nm8 n8 (.slice o6 k6 c6) (.slice o7 n7 c7) dn nn) 36) :=Ae (A0 _ _ _) _
 have B2 : (((w.alloc (.cells #[.slice to' ct.tables.length tc, .slice io ct.indexes.length ic] 25)).alloc (.cells (sA 2 nmv tbv clv (.slice o1 cols.length c1) (.slice o2 n2 c2) (.slice o3 n3 c3) (.slice o4 n4 c4) (.slice o5 n5 c5) op xk xn xs s nm8 n8 (.slice o6 k6 c6) (.slice o7 n7 c7) dn nn) 36)).alloc (.cells #[.slice none 0 0, .slice none 0 0] 25)).heap[w.heap.size+2]? =some (.cells #[.slice none 0 0, .slice none 0 0] 25) :=Dl _ _ _ _
 have hsz : (((w.alloc (.cells #[.slice to' ct.tables.length tc, .slice io ct.indexes.length ic] 25)).alloc (.cells (sA 2 nmv tbv clv (.slice o1 cols.length c1) (.slice o2 n2 c2) (.slice o3 n3 c3) (.slice o4 n4 c4) (.slice o5 n5 c5) op xk xn xs s nm8 n8 (.slice o6 k6 c6) (.slice o7 n7 c7) dn nn) 36)).alloc (.cells #[.slice none 0 0, .slice none 0 0] 25)).heap.size=w.heap.size+3 :=by simp
 generalize hW : ((w.alloc (.cells #[.slice to' ct.tables.length tc, .slice io ct.indexes.length ic] 25)).alloc (.cells (sA 2 nmv tbv clv (.slice o1 cols.length c1) (.slice o2 n2 c2) (.slice o3 n3 c3) (.slice o4 n4 c4) (.slice o5 n5 c5) op xk xn xs s nm8 n8 (.slice o6 k6 c6) (.slice o7 n7 c7) dn nn) 36)).alloc (.cells #[.slice none 0 0, .slice none 0 0] 25) =W at hb3 B0 B1 B2 hsz
 have HW :Hid _ :=hW
 have HSZ :Hid _ :=hsz
 clear hW hsz
 have a0 :=Aa B0 (j :=0) (u := .slice to' ct.tables.length tc) rfl
 have a1 :=Aa B0 (j :=1) (u := .slice io ct.indexes.length ic) rfl
 have b0 :=Aa B1 (j :=0) (u := .int .i64 2) rfl
 have b1 :=Aa B1 (j :=1) (u := .string nmv) rfl
 have b2 :=Aa B1 (j :=2) (u := .string tbv) rfl
 have b3 :=Aa B1 (j :=3) (u := .string clv) rfl
 have b4 :=Aa B1 (j :=4) (u := .slice o1 cols.length c1) rfl
 have hCW :C≤W.heap.size :=Nat.le_trans hC hb3.size
 have hTW :=hT.keep (Ag (hb3.mono hC))
 have hIW :=hI.keep (Ag (hb3.mono hC))
 have hcW :=hcols.keep (Ag (hb3.mono hC))
 have HI :=Uh ct.indexes ⟨nmv,tbv,clv⟩ (.slice io ct.indexes.length ic) [.string nmv, .string tbv, .string clv] C W hIW rfl hCW hr hlI
 rw [HSZ.out] at HI
 clear hI hcols hr hcW hTW
 generalize Fh IdxD.name ct.indexes ⟨nmv,tbv,clv⟩ =T2 at HI⊢
 go_enter Tryz.func19,Tryz.ntmps19
 go_upto_region 1 with fail
 rw [HW.out]
 go_wp2_with (go_at_call 42;go_must (go_fit HI;rintro e w1 ⟨v1,rfl,hL1,hb1⟩;obtain ⟨vo,vc,rfl⟩ :=hL1.shape;have D0 := (hb1.block _ (by omega)).trans B0;have D2 := (hb1.block _ (by omega)).trans B2;have z0 :=Aa D0 (j :=0) (u := .slice to' ct.tables.length tc) rfl;have z1 :=Aa D0 (j :=1) (u := .slice io ct.indexes.length ic) rfl;have z2 :=Aa D2 (j :=0) (u := .slice none 0 0) rfl;have z3 :=Aa D2 (j :=1) (u := .slice none 0 0) rfl;have f0 :w1.frozen? ⟨w.heap.size,1,none⟩ =false := (by simp [World.frozen?,D0]);have f2 :w1.frozen? ⟨w.heap.size+2,0,none⟩ =false := (by simp [World.frozen?,D2]);have f3 :w1.frozen? ⟨w.heap.size+2,1,none⟩ =false := (by simp [World.frozen?,D2])))
 refine bodyPost_ret (v := .agg #[.slice to' ct.tables.length tc, .slice vo T2.length vc]) (results_cell_row Tryz.results19 _ _ (w.heap.size+2) 25 #[.slice to' ct.tables.length tc, .slice vo T2.length vc] _ _ rfl (Ix (Ef D2 (by omega) _ _) _ _) Tryz.underlying25 rfl (by kernel_rfl)) rfl ?_
 have hbw :Below w.heap.size w w1 :=hb3.trans (hb1.mono (by omega))
 refine ⟨_,rfl,⟨_,_,rfl, ?_, ?_⟩,((hbw.setCell (show w.heap.size≤w.heap.size by omega) _).setCell (show w.heap.size≤w.heap.size+2 by omega) _).setCell (show w.heap.size≤w.heap.size+2 by omega) _⟩
 rotate_left
 ·refine (hL1.keep ((((Keeps.refl _ w1).set ?_ _ _).set ?_ _ _).set ?_ _ _)).mono fun k _ hk=> ?_
  ·rintro (h | h) <;>omega
  ·rintro (h | h) <;>omega
  ·rintro (h | h) <;>omega
  ·rcases hk with h | h
   ·exact .inl h
   ·exact .inr (by omega)
 ·refine (hT.keep ?_).mono fun k _ hk=> .inl hk
  exact (((Ag (hbw.mono hC)).set (b :=w.heap.size) (by omega) _ _).set (b :=w.heap.size+2) (by omega) _ _).set (b :=w.heap.size+2) (by omega) _ _
set_option maxRecDepth 100000 in
set_option maxHeartbeats 8000000 in
theorem Zt (ct :CatD) (cols :List ColD) (to' :Option Addr) (tc :Nat) (io :Option Addr) (ic :Nat) (nmv tbv clv :Wd) (o1 :Option Addr) (c1 :Nat) (o2 :Option Addr) (n2 c2 :Nat) (o3 :Option Addr) (n3 c3 :Nat) (o4 :Option Addr) (n4 c4 :Nat) (o5 :Option Addr) (n5 c5 :Nat) (op xk xn :Int) (xs s nm8 :Wd) (n8 :Int) (o6 :Option Addr) (k6 c6 :Nat) (o7 :Option Addr) (n7 c7 :Nat) (dn :Bool) (nn :Int) (C :Nat) (w :World)
  (hT :IsL A4 (fun k=>k<C) w (.slice to' ct.tables.length tc) ct.tables) (hI :IsL B7 (fun k=>k<C) w (.slice io ct.indexes.length ic) ct.indexes) (hcols :IsL Bg (fun k=>k<C) w (.slice o1 cols.length c1) cols) (hC :C≤w.heap.size) (hlT :ct.tables.length≤1000000) (hlI :ct.indexes.length≤1000000) :
  Calls Tryz.prog 19 #[.agg #[.slice to' ct.tables.length tc, .slice io ct.indexes.length ic], .agg (sA 3 nmv tbv clv (.slice o1 cols.length c1) (.slice o2 n2 c2) (.slice o3 n3 c3) (.slice o4 n4 c4) (.slice o5 n5 c5) op xk xn xs s nm8 n8 (.slice o6 k6 c6) (.slice o7 n7 c7) dn nn)] w (Hg ⟨ct.tables.filter (fun t=> !decide (t.name=nmv)),ct.indexes.filter (fun x=> !decide (x.table=nmv))⟩ C w) :=by
 have hb3 :=Fc w (.cells #[.slice to' ct.tables.length tc, .slice io ct.indexes.length ic] 25) (.cells (sA 3 nmv tbv clv (.slice o1 cols.length c1) (.slice o2 n2 c2) (.slice o3 n3 c3) (.slice o4 n4 c4) (.slice o5 n5 c5) op xk xn xs s nm8 n8 (.slice o6 k6 c6) (.slice o7 n7 c7) dn nn) 36) (.cells #[.slice none 0 0, .slice none 0 0] 25)
 have B0 : (((w.alloc (.cells #[.slice to' ct.tables.length tc, .slice io ct.indexes.length ic] 25)).alloc (.cells (sA 3 nmv tbv clv (.slice o1 cols.length c1) (.slice o2 n2 c2) (.slice o3 n3 c3) (.slice o4 n4 c4) (.slice o5 n5 c5) op xk xn xs s nm8 n8 (.slice o6 k6 c6) (.slice o7 n7 c7) dn nn) 36)).alloc (.cells #[.slice none 0 0, .slice none 0 0] 25)).heap[w.heap.size]? =some (.cells #[.slice to' ct.tables.length tc, .slice io ct.indexes.length ic] 25) :=Ae (Ae (Ab _ _) _) _
 have B1 : (((w.alloc (.cells #[.slice to' ct.tables.length tc, .slice io ct.indexes.length ic] 25)).alloc (.cells (sA 3 nmv tbv clv (.slice o1 cols.length c1) (.slice o2 n2 c2) (.slice o3 n3 c3) (.slice o4 n4 c4) (.slice o5 n5 c5) op xk xn xs s nm8 n8 (.slice o6 k6 c6) (.slice o7 n7 c7) dn nn) 36)).alloc (.cells #[.slice none 0 0, .slice none 0 0] 25)).heap[w.heap.size+1]? =some (.cells (sA 3 nmv tbv clv (.slice o1 cols.length c1) (.slice o2 n2 c2) (.slice o3 n3 c3) (.slice o4 n4 c4) (.slice o5 n5 c5) op xk xn xs s nm8 n8 (.slice o6 k6 c6) (.slice o7 n7 c7) dn nn) 36) :=Ae (A0 _ _ _) _
 have B2 : (((w.alloc (.cells #[.slice to' ct.tables.length tc, .slice io ct.indexes.length ic] 25)).alloc (.cells (sA 3 nmv tbv clv (.slice o1 cols.length c1) (.slice o2 n2 c2) (.slice o3 n3 c3) (.slice o4 n4 c4) (.slice o5 n5 c5) op xk xn xs s nm8 n8 (.slice o6 k6 c6) (.slice o7 n7 c7) dn nn) 36)).alloc (.cells #[.slice none 0 0, .slice none 0 0] 25)).heap[w.heap.size+2]? =some (.cells #[.slice none 0 0, .slice none 0 0] 25) :=Dl _ _ _ _
 have hsz : (((w.alloc (.cells #[.slice to' ct.tables.length tc, .slice io ct.indexes.length ic] 25)).alloc (.cells (sA 3 nmv tbv clv (.slice o1 cols.length c1) (.slice o2 n2 c2) (.slice o3 n3 c3) (.slice o4 n4 c4) (.slice o5 n5 c5) op xk xn xs s nm8 n8 (.slice o6 k6 c6) (.slice o7 n7 c7) dn nn) 36)).alloc (.cells #[.slice none 0 0, .slice none 0 0] 25)).heap.size=w.heap.size+3 :=by simp
 generalize hW : ((w.alloc (.cells #[.slice to' ct.tables.length tc, .slice io ct.indexes.length ic] 25)).alloc (.cells (sA 3 nmv tbv clv (.slice o1 cols.length c1) (.slice o2 n2 c2) (.slice o3 n3 c3) (.slice o4 n4 c4) (.slice o5 n5 c5) op xk xn xs s nm8 n8 (.slice o6 k6 c6) (.slice o7 n7 c7) dn nn) 36)).alloc (.cells #[.slice none 0 0, .slice none 0 0] 25) =W at hb3 B0 B1 B2 hsz
 have HW :Hid _ :=hW
 have HSZ :Hid _ :=hsz
 clear hW hsz
 have a0 :=Aa B0 (j :=0) (u := .slice to' ct.tables.length tc) rfl
 have a1 :=Aa B0 (j :=1) (u := .slice io ct.indexes.length ic) rfl
 have b0 :=Aa B1 (j :=0) (u := .int .i64 3) rfl
 have b1 :=Aa B1 (j :=1) (u := .string nmv) rfl
 have b2 :=Aa B1 (j :=2) (u := .string tbv) rfl
 have b3 :=Aa B1 (j :=3) (u := .string clv) rfl
 have b4 :=Aa B1 (j :=4) (u := .slice o1 cols.length c1) rfl
 have hCW :C≤W.heap.size :=Nat.le_trans hC hb3.size
 have hTW :=hT.keep (Ag (hb3.mono hC))
 have hIW :=hI.keep (Ag (hb3.mono hC))
 have hcW :=hcols.keep (Ag (hb3.mono hC))
 have HI :=Ui ct.tables nmv (.slice to' ct.tables.length tc) (w.heap.size+1) C W hTW hCW b1 (lt_of_block B1) hlT
 have HJ :=fun V (hV :Below (w.heap.size+3) W V) (u :Value) =>Uj ct.indexes nmv (.slice io ct.indexes.length ic) (w.heap.size+1) C (V.setCell ⟨w.heap.size,0,none⟩ u) (hIW.keep ((Ag (hV.mono (by omega))).set (b :=w.heap.size) (by omega) _ _)) (by have :=hV.size;simp [World.setCell];omega)
  ((World.cell?_of_block (Ef ((hV.block _ (by omega)).trans B1) (by omega) 0 u |>.trans B1.symm)).trans b1) (by have :=hV.size;have :=HSZ.out;simp [World.setCell];omega) hlI
 rw [HSZ.out] at HI
 clear hI hcols hcW hTW hT hIW
 generalize ct.tables.filter (fun t=> !decide (t.name=nmv)) =T2 at HI⊢
 generalize ct.indexes.filter (fun x=> !decide (x.table=nmv)) =I2 at HJ⊢
 go_enter Tryz.func19,Tryz.ntmps19
 go_upto_region 1 with fail
 rw [HW.out]
 go_wp2_with (first
  | (go_at_call 44;go_must (go_fit HI;rintro e w1 ⟨v1,rfl,hL1,hb1⟩;obtain ⟨vo,vc,rfl⟩ :=hL1.shape;have D0 := (hb1.block _ (by omega)).trans B0;have D2 := (hb1.block _ (by omega)).trans B2;have z0 :=Aa D0 (j :=0) (u := .slice to' ct.tables.length tc) rfl;have z1 :=Aa D0 (j :=1) (u := .slice io ct.indexes.length ic) rfl;have f0 :w1.frozen? ⟨w.heap.size,0,none⟩ =false := (by simp [World.frozen?,D0]);have HJ1 :=HJ w1 hb1 (.slice vo T2.length vc);have hw1s : (w1.setCell ⟨w.heap.size,0,none⟩ (.slice vo T2.length vc)).heap.size=w1.heap.size := (by simp [World.setCell]);rw [hw1s] at HJ1))
  | (go_at_call 46;go_must (go_fit HJ1;rintro e w2 ⟨v2,rfl,hL2,hb2⟩;obtain ⟨uo,uc,rfl⟩ :=hL2.shape;have E0 := (hb2.block _ (by have :=hb1.size;have :=HSZ.out;omega)).trans (upd D0 0 (.slice vo T2.length vc));have E2 := (hb2.block _ (by have :=hb1.size;have :=HSZ.out;omega)).trans (Ef D2 (by omega) 0 (.slice vo T2.length vc));have y0 :=Aa E0 (j :=0) (u := .slice vo T2.length vc) rfl;have y1 :=Aa E0 (j :=1) (u := .slice io ct.indexes.length ic) rfl;have y2 :=Aa E2 (j :=0) (u := .slice none 0 0) rfl;have y3 :=Aa E2 (j :=1) (u := .slice none 0 0) rfl;have g0 :w2.frozen? ⟨w.heap.size,1,none⟩ =false := (by simp [World.frozen?,E0]);have g2 :w2.frozen? ⟨w.heap.size+2,0,none⟩ =false := (by simp [World.frozen?,E2]);have g3 :w2.frozen? ⟨w.heap.size+2,1,none⟩ =false := (by simp [World.frozen?,E2]))))
 refine bodyPost_ret (v := .agg #[.slice vo T2.length vc, .slice uo I2.length uc]) (results_cell_row Tryz.results19 _ _ (w.heap.size+2) 25 #[.slice vo T2.length vc, .slice uo I2.length uc] _ _ rfl (Ix (Ef E2 (by omega) _ _) _ _) Tryz.underlying25 rfl (by kernel_rfl)) rfl ?_
 have hs1 :=hb1.size
 rw [HSZ.out] at hs1
 have hbw :Below w.heap.size w (w1.setCell ⟨w.heap.size,0,none⟩ (.slice vo T2.length vc)) := (hb3.trans (hb1.mono (by omega))).setCell (show w.heap.size≤w.heap.size by omega) _
 have hbw2 :Below w.heap.size w w2 :=hbw.trans (hb2.mono (by omega))
 refine ⟨_,rfl,⟨_,_,rfl, ?_, ?_⟩,((hbw2.setCell (show w.heap.size≤w.heap.size by omega) _).setCell (show w.heap.size≤w.heap.size+2 by omega) _).setCell (show w.heap.size≤w.heap.size+2 by omega) _⟩
 ·have hk1 :Keeps (Fx C (w.heap.size+3)) w1 w2 := ((Keeps.refl _ w1).set (b :=w.heap.size) (by rintro (h | h) <;>omega) 0 (.slice vo T2.length vc)).trans ⟨hb2.size,fun k _ hl=>hb2.block k (by rw [hw1s] at hl;exact hl)⟩
  refine (hL1.keep (((hk1.set ?_ _ _).set ?_ _ _).set ?_ _ _)).mono fun k _ hk=> ?_
  ·rintro (h | h) <;>omega
  ·rintro (h | h) <;>omega
  ·rintro (h | h) <;>omega
  ·rcases hk with h | h
   ·exact .inl h
   ·exact .inr (by omega)
 ·refine (hL2.keep ((((Keeps.refl _ w2).set ?_ _ _).set ?_ _ _).set ?_ _ _)).mono fun k _ hk=> ?_
  ·rintro (h | h) <;>omega
  ·rintro (h | h) <;>omega
  ·rintro (h | h) <;>omega
  ·rcases hk with h | h
   ·exact .inl h
   ·exact .inr (by omega)
set_option maxRecDepth 100000 in
set_option maxHeartbeats 8000000 in
theorem Zu (ct :CatD) (cols :List ColD) (to' :Option Addr) (tc :Nat) (io :Option Addr) (ic :Nat) (kd :Int) (nmv tbv clv :Wd) (o1 :Option Addr) (c1 :Nat) (o2 :Option Addr) (n2 c2 :Nat) (o3 :Option Addr) (n3 c3 :Nat) (o4 :Option Addr) (n4 c4 :Nat) (o5 :Option Addr) (n5 c5 :Nat) (op xk xn :Int) (xs s nm8 :Wd) (n8 :Int) (o6 :Option Addr) (k6 c6 :Nat) (o7 :Option Addr) (n7 c7 :Nat) (dn :Bool) (nn :Int) (C :Nat) (w :World)
  (hT :IsL A4 (fun k=>k<C) w (.slice to' ct.tables.length tc) ct.tables) (hI :IsL B7 (fun k=>k<C) w (.slice io ct.indexes.length ic) ct.indexes) (hcols :IsL Bg (fun k=>k<C) w (.slice o1 cols.length c1) cols) (hC :C≤w.heap.size) (_ :ct.tables.length≤1000000) (_ :ct.indexes.length≤1000000) (hk1 : ¬kd=1) (hk2 : ¬kd=2) (hk3 : ¬kd=3) :
  Calls Tryz.prog 19 #[.agg #[.slice to' ct.tables.length tc, .slice io ct.indexes.length ic], .agg (sA kd nmv tbv clv (.slice o1 cols.length c1) (.slice o2 n2 c2) (.slice o3 n3 c3) (.slice o4 n4 c4) (.slice o5 n5 c5) op xk xn xs s nm8 n8 (.slice o6 k6 c6) (.slice o7 n7 c7) dn nn)] w (Hg ct C w) :=by
 have hb3 :=Fc w (.cells #[.slice to' ct.tables.length tc, .slice io ct.indexes.length ic] 25) (.cells (sA kd nmv tbv clv (.slice o1 cols.length c1) (.slice o2 n2 c2) (.slice o3 n3 c3) (.slice o4 n4 c4) (.slice o5 n5 c5) op xk xn xs s nm8 n8 (.slice o6 k6 c6) (.slice o7 n7 c7) dn nn) 36) (.cells #[.slice none 0 0, .slice none 0 0] 25)
 have B0 : (((w.alloc (.cells #[.slice to' ct.tables.length tc, .slice io ct.indexes.length ic] 25)).alloc (.cells (sA kd nmv tbv clv (.slice o1 cols.length c1) (.slice o2 n2 c2) (.slice o3 n3 c3) (.slice o4 n4 c4) (.slice o5 n5 c5) op xk xn xs s nm8 n8 (.slice o6 k6 c6) (.slice o7 n7 c7) dn nn) 36)).alloc (.cells #[.slice none 0 0, .slice none 0 0] 25)).heap[w.heap.size]? =some (.cells #[.slice to' ct.tables.length tc, .slice io ct.indexes.length ic] 25) :=Ae (Ae (Ab _ _) _) _
 have B1 : (((w.alloc (.cells #[.slice to' ct.tables.length tc, .slice io ct.indexes.length ic] 25)).alloc (.cells (sA kd nmv tbv clv (.slice o1 cols.length c1) (.slice o2 n2 c2) (.slice o3 n3 c3) (.slice o4 n4 c4) (.slice o5 n5 c5) op xk xn xs s nm8 n8 (.slice o6 k6 c6) (.slice o7 n7 c7) dn nn) 36)).alloc (.cells #[.slice none 0 0, .slice none 0 0] 25)).heap[w.heap.size+1]? =some (.cells (sA kd nmv tbv clv (.slice o1 cols.length c1) (.slice o2 n2 c2) (.slice o3 n3 c3) (.slice o4 n4 c4) (.slice o5 n5 c5) op xk xn xs s nm8 n8 (.slice o6 k6 c6) (.slice o7 n7 c7) dn nn) 36) :=Ae (A0 _ _ _) _
 have B2 : (((w.alloc (.cells #[.slice to' ct.tables.length tc, .slice io ct.indexes.length ic] 25)).alloc (.cells (sA kd nmv tbv clv (.slice o1 cols.length c1) (.slice o2 n2 c2) (.slice o3 n3 c3) (.slice o4 n4 c4) (.slice o5 n5 c5) op xk xn xs s nm8 n8 (.slice o6 k6 c6) (.slice o7 n7 c7) dn nn) 36)).alloc (.cells #[.slice none 0 0, .slice none 0 0] 25)).heap[w.heap.size+2]? =some (.cells #[.slice none 0 0, .slice none 0 0] 25) :=Dl _ _ _ _
 have hsz : (((w.alloc (.cells #[.slice to' ct.tables.length tc, .slice io ct.indexes.length ic] 25)).alloc (.cells (sA kd nmv tbv clv (.slice o1 cols.length c1) (.slice o2 n2 c2) (.slice o3 n3 c3) (.slice o4 n4 c4) (.slice o5 n5 c5) op xk xn xs s nm8 n8 (.slice o6 k6 c6) (.slice o7 n7 c7) dn nn) 36)).alloc (.cells #[.slice none 0 0, .slice none 0 0] 25)).heap.size=w.heap.size+3 :=by simp
 generalize hW : ((w.alloc (.cells #[.slice to' ct.tables.length tc, .slice io ct.indexes.length ic] 25)).alloc (.cells (sA kd nmv tbv clv (.slice o1 cols.length c1) (.slice o2 n2 c2) (.slice o3 n3 c3) (.slice o4 n4 c4) (.slice o5 n5 c5) op xk xn xs s nm8 n8 (.slice o6 k6 c6) (.slice o7 n7 c7) dn nn) 36)).alloc (.cells #[.slice none 0 0, .slice none 0 0] 25) =W at hb3 B0 B1 B2 hsz
 have HW :Hid _ :=hW
 have HSZ :Hid _ :=hsz
 clear hW hsz
 have a0 :=Aa B0 (j :=0) (u := .slice to' ct.tables.length tc) rfl
 have a1 :=Aa B0 (j :=1) (u := .slice io ct.indexes.length ic) rfl
 have b0 :=Aa B1 (j :=0) (u := .int .i64 kd) rfl
 have b1 :=Aa B1 (j :=1) (u := .string nmv) rfl
 have b2 :=Aa B1 (j :=2) (u := .string tbv) rfl
 have b3 :=Aa B1 (j :=3) (u := .string clv) rfl
 have b4 :=Aa B1 (j :=4) (u := .slice o1 cols.length c1) rfl
 have hCW :C≤W.heap.size :=Nat.le_trans hC hb3.size
 have hTW :=hT.keep (Ag (hb3.mono hC))
 have hIW :=hI.keep (Ag (hb3.mono hC))
 have hcW :=hcols.keep (Ag (hb3.mono hC))
 have z2 :=Aa B2 (j :=0) (u := .slice none 0 0) rfl
 have z3 :=Aa B2 (j :=1) (u := .slice none 0 0) rfl
 have f2 :W.frozen? ⟨w.heap.size+2,0,none⟩ =false :=by simp [World.frozen?,B2]
 have f3 :W.frozen? ⟨w.heap.size+2,1,none⟩ =false :=by simp [World.frozen?,B2]
 go_enter Tryz.func19,Tryz.ntmps19
 go_upto_region 1 with fail
 rw [HW.out]
 go_wp2
 refine bodyPost_ret (v := .agg #[.slice to' ct.tables.length tc, .slice io ct.indexes.length ic]) (results_cell_row Tryz.results19 _ _ (w.heap.size+2) 25 #[.slice to' ct.tables.length tc, .slice io ct.indexes.length ic] _ _ rfl (Ix B2 _ _) Tryz.underlying25 rfl (by kernel_rfl)) rfl ?_
 refine ⟨_,rfl,⟨_,_,rfl, ?_, ?_⟩,(hb3.setCell (show w.heap.size≤w.heap.size+2 by omega) _).setCell (show w.heap.size≤w.heap.size+2 by omega) _⟩
 ·exact (hT.keep (((Ag (hb3.mono hC)).set (b :=w.heap.size+2) (by omega) _ _).set (b :=w.heap.size+2) (by omega) _ _)).mono fun k _ hk=> .inl hk
 ·exact (hI.keep (((Ag (hb3.mono hC)).set (b :=w.heap.size+2) (by omega) _ _).set (b :=w.heap.size+2) (by omega) _ _)).mono fun k _ hk=> .inl hk
theorem X6 (ct :CatD) (v :Value) (st :Stm) (c :List Value) (C :Nat) (w :World) (hcat :Bh (fun k=>k<C) w ct v) (hst :Abs.R (fun k=>k<C) w st c) (hC :C≤w.heap.size) (hlT :ct.tables.length≤1000000) (hlI :ct.indexes.length≤1000000)
  (hrT :Dj (ct.tables.map TabD.name)) (hrI :Dj (ct.indexes.map IdxD.name)) :
  Calls Tryz.prog 19 #[v, .agg c.toArray] w (Hg (Jg ct st) C w) :=by
 obtain ⟨tv,iv,rfl,hT,hI⟩ :=hcat
 obtain ⟨to',tc,rfl⟩ :=hT.shape
 obtain ⟨io,ic,rfl⟩ :=hI.shape
 obtain ⟨o1,c1,o2,c2,o3,c3,o4,c4,o5,c5,op,xk,xn,xs,s,nmv,n8,o6,k6,c6,o7,c7,rfl,i1,_⟩ :=Cy hst
 obtain ⟨kd,nm1,tb1,cl1,cols,rows,sets,frm,out,wh,order,dn,nn⟩ :=st
 simp only at i1⊢
 rw [Array.toArray_toList]
 unfold Jg
 by_cases h1 :kd=1
 ·subst h1
  exact Zr ct cols to' tc io ic nm1 tb1 cl1 o1 c1 _ _ _ _ _ _ _ _ _ _ _ _ _ _ _ _ _ _ _ _ _ _ _ _ _ _ _ C w hT hI i1 hC hlT hlI hrT
 by_cases h2 :kd=2
 ·subst h2
  exact Zs ct cols to' tc io ic nm1 tb1 cl1 o1 c1 _ _ _ _ _ _ _ _ _ _ _ _ _ _ _ _ _ _ _ _ _ _ _ _ _ _ _ C w hT hI i1 hC hlT hlI hrI
 by_cases h3 :kd=3
 ·subst h3
  exact Zt ct cols to' tc io ic nm1 tb1 cl1 o1 c1 _ _ _ _ _ _ _ _ _ _ _ _ _ _ _ _ _ _ _ _ _ _ _ _ _ _ _ C w hT hI i1 hC hlT hlI
 ·simp only [h1,h2,h3,if_false]
  exact Zu ct cols to' tc io ic kd nm1 tb1 cl1 o1 c1 _ _ _ _ _ _ _ _ _ _ _ _ _ _ _ _ _ _ _ _ _ _ _ _ _ _ _ C w hT hI i1 hC hlT hlI h1 h2 h3
end Go.Proofs.YtmgkcjiejmhgcaaGreatDoor

