/-
  1 texts of this proof in one, in build order: YKind.
-/
import Derived.Deep.RegionHeld3
import Derived.Test.YtmgkcjiejmhgcaaGreatDoorJ25
set_option linter.unusedSimpArgs false
set_option linter.unusedVariables false
namespace Go.Proofs.YtmgkcjiejmhgcaaGreatDoor
open Go.RowKit Go.Maps
def Fi (m :Int) (st :Stm) :Except Int Stm :=if m=0 then .ok st else .error m
def Co (ct :CatD) (st :Stm) :Except Int Stm :=
 if st.kind=1 then Fi (Dw ct st.name st.cols) st
 else if st.kind=2 then Fi (Hw ct st.name st.table st.col) st
 else if st.kind=3 then Fi (Gi ct st.name) st
 else if st.kind=4∨st.kind=5∨st.kind=6 then Cz ct st
 else if st.kind=7 then C7 ct st
 else .error 1
def Bw (ct :CatD) (st :Stm) :Except Int Stm :=if Cq ct=false∨De st=false then .error 1 else Co ct st
theorem Bt {P :Program} {ops :Array Oper} {S :World→Prop} {op :Oper} {a :Act} (hgd :op.guard=none) (ty :TypeId) (x :Operand) (ho :op.op= .load ty x) (g :Nat) (hx :a.eval x= .pointer (some ⟨g,0,none⟩)) (cs :Array Value) (t :TypeId) (d :TypeDesc) (hS : ∀w,S w→w.heap[g]? =some (.cells cs t (0,0)))
  (hu :P.underlying ty=some d) (hd : (match d with | .struct _ | .array _ _=>true | _=>false) =true) (hi : (P.info? ty).map (·.size) =some cs.size) :YieldsIf P ops S op (.agg cs) a :=
 .inl ⟨by simp [Region.wanted,hgd],fun w hw'=>by
  unfold execOp
  simp only [ho,hx,Instr.loadAt,Instr.sureAddr,Sem.run_bind,Sem.run_pure,Result.andThen_ok,run_loadVar_row w g t ty cs (0,0) d (hS w hw') hu hd hi]⟩
structure FitB (st :Stm) :Prop where
 fs :FitS st
 nm :st.name.size≤maxLen
 cols :Ma st.cols
 rows :st.rows.length≤16777216
 row : ∀r∈st.rows,r.length≤16777216
 sets :st.sets.length≤16777216
 set : ∀p∈st.sets,p.1.size≤maxLen
 out :st.out.length≤16777216
 order :st.order.length≤16777216
 frm : ∀s∈st.frm,s.size≤maxLen
theorem Jo {st :Stm} (h :De st=true) : (∀r∈st.rows,∀a∈r,geB 40 a=true) ∧ (∀p∈st.sets,geB 40 p.2=true) ∧ (∀a∈st.out,geB 40 a=true) ∧ (∀a∈st.order,geB 40 a=true) ∧ (st.wher.opn≠0→geB 40 st.wher=true) :=by
 simp only [De,Da,Eh,Bool.and_eq_true,Bool.not_eq_true',List.any_eq_false,Bool.or_eq_true,decide_eq_true_eq] at h
 obtain ⟨⟨⟨⟨h1,h2⟩,h3⟩,h4⟩,h5⟩ :=h
 refine ⟨fun r hr a ha=> ?_,fun p hp=> ?_,fun a ha=> ?_,fun a ha=> ?_,fun h0=> ?_⟩
 ·have :=h1 r hr
  simp only [List.any_eq_true,not_exists,not_and] at this
  simpa [Eh] using this a ha
 ·simpa using h2 p hp
 ·simpa using h3 a ha
 ·simpa using h4 a ha
 ·rcases h5 with h5 | h5
  ·exact absurd h5 h0
  ·simpa using h5
theorem Rq {ct :CatD} (h :Cq ct=true) : ∀t∈ct.tables,t.cols.length≤1000000 :=by
 simp only [Cq,Bool.and_eq_true,Ij,Bool.not_eq_true',decide_eq_true_eq] at h
 obtain ⟨⟨_,h2,_⟩,_⟩ :=h
 rw [D9] at h2
 intro t ht
 have := (List.any_eq_false.1 h2) t ht
 simp only [Bool.not_eq_true',Bool.not_eq_false,Cv,Bool.and_eq_true,decide_eq_true_eq] at this
 omega
theorem Sw {ct :CatD} {st :Stm} {m :Int} (h :Cz ct st= .error m) :m=3∨m=4∨m=5 :=by
 unfold Cz at h
 cases h1 :A5 ct.tables st.table with
 | none=>rw [h1] at h;exact .inl (Except.error.inj h).symm
 | some t=>
  rw [h1] at h
  simp only at h
  cases h2 :Fu t.cols st.rows with
  | error k=>rw [h2] at h;obtain rfl :=Except.error.inj h;rcases O9 h2 with h | h<;>simp [h]
  | ok r=>
   rw [h2] at h
   simp only at h
   cases h3 :Bq t [] st.sets with
   | error k=>rw [h3] at h;obtain rfl :=Except.error.inj h;exact Ls h3
   | ok q=>
    rw [h3] at h
    simp only at h
    cases h4 :whR [t] st.wher with
    | error k=>
     rw [h4] at h
     obtain rfl :=Except.error.inj h
     unfold whR at h4
     split at h4
     ·cases h4
     ·rcases Ft h4 with h | h<;>simp [h]
    | ok e=>rw [h4] at h;cases h
theorem Sx {ct :CatD} {st :Stm} {m :Int} (h :C7 ct st= .error m) :m=1∨m=3∨m=4∨m=5 :=by
 unfold C7 at h
 cases h1 :Df ct.tables st.frm with
 | error k=>rw [h1] at h;obtain rfl :=Except.error.inj h;rcases N8 h1 with h | h | h<;>simp [h]
 | ok S=>
  rw [h1] at h
  simp only at h
  cases h2 :Hc S st.out with
  | error k=>rw [h2] at h;obtain rfl :=Except.error.inj h;rcases Rp h2 with h | h<;>simp [h]
  | ok r=>
   rw [h2] at h
   simp only at h
   cases h3 :Ej S st.order with
   | error k=>rw [h3] at h;obtain rfl :=Except.error.inj h;rcases Nc h3 with h | h<;>simp [h]
   | ok q=>
    rw [h3] at h
    simp only at h
    cases h4 :whR S st.wher with
    | error k=>
     rw [h4] at h
     obtain rfl :=Except.error.inj h
     unfold whR at h4
     split at h4
     ·cases h4
     ·rcases Ft h4 with h | h<;>simp [h]
    | ok e=>rw [h4] at h;cases h
theorem Nd {k m :Int} {st :Stm} (h :Fi k st= .error m) :m=k∧k≠0 :=by
 unfold Fi at h
 split at h
 ·cases h
 ·exact ⟨(Except.error.inj h).symm,by assumption⟩
theorem Pn {ct :CatD} {st :Stm} {m :Int} (h :Co ct st= .error m) :m=1∨m=3∨m=4∨m=5∨m=8 :=by
 unfold Co at h
 split at h
 ·obtain ⟨rfl,h0⟩ :=Nd h
  unfold Dw at h0⊢
  repeat' split
  all_goals simp_all
 ·split at h
  ·obtain ⟨rfl,h0⟩ :=Nd h
   unfold Hw at h0⊢
   repeat' split
   all_goals simp_all
  ·split at h
   ·obtain ⟨rfl,h0⟩ :=Nd h
    unfold Gi at h0⊢
    split
    all_goals simp_all
   ·split at h
    ·rcases Sw h with h | h | h<;>simp [h]
    ·split at h
     ·rcases Sx h with h | h | h | h<;>simp [h]
     ·exact .inl (Except.error.inj h).symm
theorem Sy {ct :CatD} {st :Stm} {m :Int} (h :Bw ct st= .error m) :m=1∨m=3∨m=4∨m=5∨m=8 :=by
 unfold Bw at h
 split at h
 ·exact .inl (Except.error.inj h).symm
 ·exact Pn h
set_option maxRecDepth 100000 in
set_option maxHeartbeats 8000000 in
theorem Lt (ct :CatD) (cv :Value) (st :Stm) (cs :List Value) (C :Nat) (w :World) (hc :Bh (fun k=>k<C) w ct cv) (hR :Abs.R (fun k=>k<C) w st cs) (hC :C≤w.heap.size) (hf :FitB st) (hgd :De st=true) (hcl : ∀t∈ct.tables,t.cols.length≤1000000) :
  Calls Tryz.prog 23 #[cv, .agg cs.toArray] w fun r w'=> (∃u,r= .returned u∧Rn (Co ct st) (Fx C w.heap.size) w' u) ∧Below w.heap.size w w' :=by
 obtain ⟨o1,c1,o2,c2,o3,c3,o4,c4,o5,c5,op,xk,xn,xs,s,nmv,n8,o6,k6,c6,o7,c7,rfl,i1,i2,i3,i4,i5,i6,i7⟩ :=Cy hR
 obtain ⟨g1,g2,g3,g4,g5⟩ :=Jo hgd
 obtain ⟨f1,f2,f3,f4,f5,f6,f7,f8,f9,f10⟩ :=hf
 obtain ⟨tv,iv,rfl,htl,hil⟩ :=hc
 obtain ⟨kind,name,table,col,cols,rows,sets,frm,out,wher,order,down,n⟩ :=st
 simp only at i1 i2 i3 i4 i5 i6 i7 g1 g2 g3 g4 g5 f2 f3 f4 f5 f6 f7 f8 f9 f10⊢
 clear f1 hgd
 have hb3 :=Fc w (.cells #[tv,iv] 25) (.cells (sA kind name table col (.slice o1 cols.length c1) (.slice o2 rows.length c2) (.slice o3 sets.length c3) (.slice o4 frm.length c4) (.slice o5 out.length c5) op xk xn xs s nmv n8 (.slice o6 k6 c6) (.slice o7 order.length c7) down n) 36) (.cells Ah 36)
 have S0 :SeSt w (((w.alloc (.cells #[tv,iv] 25)).alloc (.cells (sA kind name table col (.slice o1 cols.length c1) (.slice o2 rows.length c2) (.slice o3 sets.length c3) (.slice o4 frm.length c4) (.slice o5 out.length c5) op xk xn xs s nmv n8 (.slice o6 k6 c6) (.slice o7 order.length c7) down n) 36)).alloc (.cells Ah 36)) (sA kind name table col (.slice o1 cols.length c1) (.slice o2 rows.length c2) (.slice o3 sets.length c3) (.slice o4 frm.length c4) (.slice o5 out.length c5) op xk xn xs s nmv n8 (.slice o6 k6 c6) (.slice o7 order.length c7) down n) := ⟨Ae (A0 w (.cells #[tv,iv] 25) (.cells (sA kind name table col (.slice o1 cols.length c1) (.slice o2 rows.length c2) (.slice o3 sets.length c3) (.slice o4 frm.length c4) (.slice o5 out.length c5) op xk xn xs s nmv n8 (.slice o6 k6 c6) (.slice o7 order.length c7) down n) 36)) _,Dl w (.cells #[tv,iv] 25) (.cells (sA kind name table col (.slice o1 cols.length c1) (.slice o2 rows.length c2) (.slice o3 sets.length c3) (.slice o4 frm.length c4) (.slice o5 out.length c5) op xk xn xs s nmv n8 (.slice o6 k6 c6) (.slice o7 order.length c7) down n) 36) (.cells Ah 36),hb3,by simp⟩
 have hcat : (((w.alloc (.cells #[tv,iv] 25)).alloc (.cells (sA kind name table col (.slice o1 cols.length c1) (.slice o2 rows.length c2) (.slice o3 sets.length c3) (.slice o4 frm.length c4) (.slice o5 out.length c5) op xk xn xs s nmv n8 (.slice o6 k6 c6) (.slice o7 order.length c7) down n) 36)).alloc (.cells Ah 36)).heap[w.heap.size]? =some (.cells #[tv,iv] 25) :=Ae (Ae (Ab _ _) _) _
 have h1 : (sA kind name table col (.slice o1 cols.length c1) (.slice o2 rows.length c2) (.slice o3 sets.length c3) (.slice o4 frm.length c4) (.slice o5 out.length c5) op xk xn xs s nmv n8 (.slice o6 k6 c6) (.slice o7 order.length c7) down n).all (·.oneCell') =true :=Dq (Au _ _ _) (Au _ _ _) (Au _ _ _) (Au _ _ _) (Au _ _ _) (Au _ _ _) (Au _ _ _)
 have hCW :C≤ (((w.alloc (.cells #[tv,iv] 25)).alloc (.cells (sA kind name table col (.slice o1 cols.length c1) (.slice o2 rows.length c2) (.slice o3 sets.length c3) (.slice o4 frm.length c4) (.slice o5 out.length c5) op xk xn xs s nmv n8 (.slice o6 k6 c6) (.slice o7 order.length c7) down n) 36)).alloc (.cells Ah 36)).heap.size :=Nat.le_trans hC hb3.size
 have hcW :Bh (fun k=>k<C) (((w.alloc (.cells #[tv,iv] 25)).alloc (.cells (sA kind name table col (.slice o1 cols.length c1) (.slice o2 rows.length c2) (.slice o3 sets.length c3) (.slice o4 frm.length c4) (.slice o5 out.length c5) op xk xn xs s nmv n8 (.slice o6 k6 c6) (.slice o7 order.length c7) down n) 36)).alloc (.cells Ah 36)) ct (.agg #[tv,iv]) := ⟨tv,iv,rfl,htl.keep (Ag (hb3.mono hC)),hil.keep (Ag (hb3.mono hC))⟩
 have hRW :=Abs.keep (Ag (hb3.mono hC)) hR
 have k1 :=Aa S0.stm (j :=0) rfl
 have ct0 :=Aa hcat (j :=0) rfl
 have ct1 :=Aa hcat (j :=1) rfl
 have hlc :=lt_of_block hcat
 have hsl1 :=El htl
 have hsl2 :=El hil
 have hst : ∀wf,Below w.heap.size w wf→Abs.R (Fx C w.heap.size) wf ⟨kind,name,table,col,cols,rows,sets,frm,out,wher,order,down,n⟩ (sA kind name table col (.slice o1 cols.length c1) (.slice o2 rows.length c2) (.slice o3 sets.length c3) (.slice o4 frm.length c4) (.slice o5 out.length c5) op xk xn xs s nmv n8 (.slice o6 k6 c6) (.slice o7 order.length c7) down n).toList :=fun wf hb=>Abs.mono (fun k _ h=> .inl h) (Abs.keep (Ag (hb.mono hC)) hR)
 by_cases e1 :kind=1
 ·subst e1
  have HM :=Qj ct (.agg #[tv,iv]) C (((w.alloc (.cells #[tv,iv] 25)).alloc (.cells (sA 1 name table col (.slice o1 cols.length c1) (.slice o2 rows.length c2) (.slice o3 sets.length c3) (.slice o4 frm.length c4) (.slice o5 out.length c5) op xk xn xs s nmv n8 (.slice o6 k6 c6) (.slice o7 order.length c7) down n) 36)).alloc (.cells Ah 36)).drew (hcW.keep (Keeps.refl _ _).drew) hCW cols 1 name table col (.slice o1 cols.length c1) (.slice o2 rows.length c2) (.slice o3 sets.length c3) (.slice o4 frm.length c4) (.slice o5 out.length c5) op xk xn xs s nmv n8 (.slice o6 k6 c6) (.slice o7 order.length c7) down n ((i1.keep (Ag (hb3.mono hC))).keep (Keeps.refl _ _).drew) ⟨f2,f3⟩
  have HE :Hid (Co ct ⟨1,name,table,col,cols,rows,sets,frm,out,wher,order,down,n⟩ =Fi (Dw ct name cols) ⟨1,name,table,col,cols,rows,sets,frm,out,wher,order,down,n⟩) :=rfl
  generalize Dw ct name cols=m at HM HE
  clear hcW hRW htl hil i1 i2 i3 i4 i5 i6 i7
  go_enter Tryz.func23,Tryz.ntmps23
  go_wp2_with fail
  refine wp_region_held_drew (S := (fun w'=>w'.heap[w.heap.size]? =some (.cells #[tv,iv] 25) ∧w'.heap[w.heap.size+1]? =some (.cells (sA 1 name table col (.slice o1 cols.length c1) (.slice o2 rows.length c2) (.slice o3 sets.length c3) (.slice o4 frm.length c4) (.slice o5 out.length c5) op xk xn xs s nmv n8 (.slice o6 k6 c6) (.slice o7 order.length c7) down n) 36))) (by kernel_rfl) ?_ (fun hHeld=> ?_)
  ·exact ⟨hcat,S0.stm⟩
  refine wpAnyH_take (i :=0) (v := .agg (sA 1 name table col (.slice o1 cols.length c1) (.slice o2 rows.length c2) (.slice o3 sets.length c3) (.slice o4 frm.length c4) (.slice o5 out.length c5) op xk xn xs s nmv n8 (.slice o6 k6 c6) (.slice o7 order.length c7) down n)) rfl (by kernel_rfl) (by kernel_rfl) (by kernel_rfl) (fun _ _ _ h=>h) (Bt rfl 36 _ rfl (w.heap.size+1) rfl (sA 1 name table col (.slice o1 cols.length c1) (.slice o2 rows.length c2) (.slice o3 sets.length c3) (.slice o4 frm.length c4) (.slice o5 out.length c5) op xk xn xs s nmv n8 (.slice o6 k6 c6) (.slice o7 order.length c7) down n) 36 _ (fun _ h=>h.2) Tryz.underlying36 rfl Am) (by assumption) ?_
  refine wpAnyH_take (i :=1) (v := .agg #[tv,iv]) rfl (by kernel_rfl) (by kernel_rfl) (by kernel_rfl) (fun _ _ _ h=>h) (Bt rfl 25 _ rfl w.heap.size rfl #[tv,iv] 25 _ (fun _ h=>h.1) Tryz.underlying25 rfl (by kernel_rfl)) (by assumption) ?_
  refine wpAnyH_take (i :=2) (v := .agg (sA 1 name table col (.slice o1 cols.length c1) (.slice o2 rows.length c2) (.slice o3 sets.length c3) (.slice o4 frm.length c4) (.slice o5 out.length c5) op xk xn xs s nmv n8 (.slice o6 k6 c6) (.slice o7 order.length c7) down n)) rfl (by kernel_rfl) (by kernel_rfl) (by kernel_rfl) (fun _ _ _ h=>h) (Bt rfl 36 _ rfl (w.heap.size+1) rfl (sA 1 name table col (.slice o1 cols.length c1) (.slice o2 rows.length c2) (.slice o3 sets.length c3) (.slice o4 frm.length c4) (.slice o5 out.length c5) op xk xn xs s nmv n8 (.slice o6 k6 c6) (.slice o7 order.length c7) down n) 36 _ (fun _ h=>h.2) Tryz.underlying36 rfl Am) (by assumption) ?_
  refine wpAnyH_ready (rs := [3]) (by kernel_rfl) (by simp) ?_
  refine (AllReadyH.cons rfl (fun K hK=> ?_) AllReadyH.nil)
  go_simp
  (go_at_call 55;refine HM.mono ?_;rintro e w1 ⟨rfl,hb1⟩;have S1 := (S0.below (Below.refl _ _).drew).below hb1;have cat1 := (hb1.block _ hlc).trans hcat)
  go_wp2_with fail
  refine hK.out _ _ ?_ (fun hHeld=> ?_)
  ·exact ⟨cat1,S1.stm⟩
  clear hK K
  refine wpAnyH_ready (rs := [4]) (by kernel_rfl) (by simp) ?_
  refine (AllReadyH.cons rfl (fun K hK=> ?_) AllReadyH.nil)
  refine At rfl 36 _ _ rfl (w.heap.size+1+1) (sA 1 name table col (.slice o1 cols.length c1) (.slice o2 rows.length c2) (.slice o3 sets.length c3) (.slice o4 frm.length c4) (.slice o5 out.length c5) op xk xn xs s nmv n8 (.slice o6 k6 c6) (.slice o7 order.length c7) down n) ?_ ?_ 36 Ah ?_ ?_ ?_ ?_ ?_;exact rfl;exact rfl;exact S1.room;exact Am;exact rfl;exact h1
  refine hK.out _ _ ?_ (fun hHeld=> ?_)
  ·exact ⟨Aw cat1 (by omega) _,Aw S1.stm (by omega) _⟩
  clear hK K
  try simp only [Act.put]
  refine wpAnyH_take (i :=5) (v := ?_) rfl (by kernel_rfl) (by kernel_rfl) (by kernel_rfl) (fun _ _ _ h=>h) (Or.inl ⟨by rfl, ?_⟩) (by assumption) ?_
  rotate_left
  ·intro w hSw;(try dsimp only at hSw);go_simp;all_goals (with_reducible rfl)
  refine wpAnyH_done (by kernel_rfl) ?_ _
  go_wp2_with fail
  refine bodyPost_ret (A2 Tryz.results23 _ _ (w.heap.size+1+1) 36 (sA 1 name table col (.slice o1 cols.length c1) (.slice o2 rows.length c2) (.slice o3 sets.length c3) (.slice o4 frm.length c4) (.slice o5 out.length c5) op xk xn xs s nmv n8 (.slice o6 k6 c6) (.slice o7 order.length c7) down n) _ _ _ rfl rfl (An S1.room) Tryz.underlying36 rfl Am) rfl ⟨⟨_,rfl, ?_⟩,Below.row S1.bel (by omega) _⟩
  refine ⟨_,rfl,h1, ?_⟩
  rw [HE.out]
  unfold Fi
  by_cases h0 :m=0
  ·subst h0
   rw [if_pos rfl]
   exact ⟨rfl,hst _ (Below.row S1.bel (by omega) _)⟩
  ·rw [if_neg h0]
   rfl
 ·by_cases e2 :kind=2
  ·subst e2
   have HM :=Sv ct (.agg #[tv,iv]) C (((w.alloc (.cells #[tv,iv] 25)).alloc (.cells (sA 2 name table col (.slice o1 cols.length c1) (.slice o2 rows.length c2) (.slice o3 sets.length c3) (.slice o4 frm.length c4) (.slice o5 out.length c5) op xk xn xs s nmv n8 (.slice o6 k6 c6) (.slice o7 order.length c7) down n) 36)).alloc (.cells Ah 36)).drew (hcW.keep (Keeps.refl _ _).drew) hCW 2 name table col (.slice o1 cols.length c1) (.slice o2 rows.length c2) (.slice o3 sets.length c3) (.slice o4 frm.length c4) (.slice o5 out.length c5) op xk xn xs s nmv n8 (.slice o6 k6 c6) (.slice o7 order.length c7) down n f2
   have HE :Hid (Co ct ⟨2,name,table,col,cols,rows,sets,frm,out,wher,order,down,n⟩ =Fi (Hw ct name table col) ⟨2,name,table,col,cols,rows,sets,frm,out,wher,order,down,n⟩) :=rfl
   generalize Hw ct name table col=m at HM HE
   clear hcW hRW htl hil i1 i2 i3 i4 i5 i6 i7
   go_enter Tryz.func23,Tryz.ntmps23
   go_wp2_with fail
   refine wp_region_held_drew (S := (fun w'=>w'.heap[w.heap.size]? =some (.cells #[tv,iv] 25) ∧w'.heap[w.heap.size+1]? =some (.cells (sA 2 name table col (.slice o1 cols.length c1) (.slice o2 rows.length c2) (.slice o3 sets.length c3) (.slice o4 frm.length c4) (.slice o5 out.length c5) op xk xn xs s nmv n8 (.slice o6 k6 c6) (.slice o7 order.length c7) down n) 36))) (by kernel_rfl) ?_ (fun hHeld=> ?_)
   ·exact ⟨hcat,S0.stm⟩
   refine wpAnyH_take (i :=0) (v := .agg (sA 2 name table col (.slice o1 cols.length c1) (.slice o2 rows.length c2) (.slice o3 sets.length c3) (.slice o4 frm.length c4) (.slice o5 out.length c5) op xk xn xs s nmv n8 (.slice o6 k6 c6) (.slice o7 order.length c7) down n)) rfl (by kernel_rfl) (by kernel_rfl) (by kernel_rfl) (fun _ _ _ h=>h) (Bt rfl 36 _ rfl (w.heap.size+1) rfl (sA 2 name table col (.slice o1 cols.length c1) (.slice o2 rows.length c2) (.slice o3 sets.length c3) (.slice o4 frm.length c4) (.slice o5 out.length c5) op xk xn xs s nmv n8 (.slice o6 k6 c6) (.slice o7 order.length c7) down n) 36 _ (fun _ h=>h.2) Tryz.underlying36 rfl Am) (by assumption) ?_
   refine wpAnyH_take (i :=1) (v := .agg #[tv,iv]) rfl (by kernel_rfl) (by kernel_rfl) (by kernel_rfl) (fun _ _ _ h=>h) (Bt rfl 25 _ rfl w.heap.size rfl #[tv,iv] 25 _ (fun _ h=>h.1) Tryz.underlying25 rfl (by kernel_rfl)) (by assumption) ?_
   refine wpAnyH_take (i :=2) (v := .agg (sA 2 name table col (.slice o1 cols.length c1) (.slice o2 rows.length c2) (.slice o3 sets.length c3) (.slice o4 frm.length c4) (.slice o5 out.length c5) op xk xn xs s nmv n8 (.slice o6 k6 c6) (.slice o7 order.length c7) down n)) rfl (by kernel_rfl) (by kernel_rfl) (by kernel_rfl) (fun _ _ _ h=>h) (Bt rfl 36 _ rfl (w.heap.size+1) rfl (sA 2 name table col (.slice o1 cols.length c1) (.slice o2 rows.length c2) (.slice o3 sets.length c3) (.slice o4 frm.length c4) (.slice o5 out.length c5) op xk xn xs s nmv n8 (.slice o6 k6 c6) (.slice o7 order.length c7) down n) 36 _ (fun _ h=>h.2) Tryz.underlying36 rfl Am) (by assumption) ?_
   refine wpAnyH_ready (rs := [3]) (by kernel_rfl) (by simp) ?_
   refine (AllReadyH.cons rfl (fun K hK=> ?_) AllReadyH.nil)
   go_simp
   (go_at_call 56;refine HM.mono ?_;rintro e w1 ⟨rfl,hb1⟩;have S1 := (S0.below (Below.refl _ _).drew).below hb1;have cat1 := (hb1.block _ hlc).trans hcat)
   go_wp2_with fail
   refine hK.out _ _ ?_ (fun hHeld=> ?_)
   ·exact ⟨cat1,S1.stm⟩
   clear hK K
   refine wpAnyH_ready (rs := [4]) (by kernel_rfl) (by simp) ?_
   refine (AllReadyH.cons rfl (fun K hK=> ?_) AllReadyH.nil)
   refine At rfl 36 _ _ rfl (w.heap.size+1+1) (sA 2 name table col (.slice o1 cols.length c1) (.slice o2 rows.length c2) (.slice o3 sets.length c3) (.slice o4 frm.length c4) (.slice o5 out.length c5) op xk xn xs s nmv n8 (.slice o6 k6 c6) (.slice o7 order.length c7) down n) ?_ ?_ 36 Ah ?_ ?_ ?_ ?_ ?_;exact rfl;exact rfl;exact S1.room;exact Am;exact rfl;exact h1
   refine hK.out _ _ ?_ (fun hHeld=> ?_)
   ·exact ⟨Aw cat1 (by omega) _,Aw S1.stm (by omega) _⟩
   clear hK K
   try simp only [Act.put]
   refine wpAnyH_take (i :=5) (v := ?_) rfl (by kernel_rfl) (by kernel_rfl) (by kernel_rfl) (fun _ _ _ h=>h) (Or.inl ⟨by rfl, ?_⟩) (by assumption) ?_
   rotate_left
   ·intro w hSw;(try dsimp only at hSw);go_simp;all_goals (with_reducible rfl)
   refine wpAnyH_done (by kernel_rfl) ?_ _
   go_wp2_with fail
   refine bodyPost_ret (A2 Tryz.results23 _ _ (w.heap.size+1+1) 36 (sA 2 name table col (.slice o1 cols.length c1) (.slice o2 rows.length c2) (.slice o3 sets.length c3) (.slice o4 frm.length c4) (.slice o5 out.length c5) op xk xn xs s nmv n8 (.slice o6 k6 c6) (.slice o7 order.length c7) down n) _ _ _ rfl rfl (An S1.room) Tryz.underlying36 rfl Am) rfl ⟨⟨_,rfl, ?_⟩,Below.row S1.bel (by omega) _⟩
   refine ⟨_,rfl,h1, ?_⟩
   rw [HE.out]
   unfold Fi
   by_cases h0 :m=0
   ·subst h0
    rw [if_pos rfl]
    exact ⟨rfl,hst _ (Below.row S1.bel (by omega) _)⟩
   ·rw [if_neg h0]
    rfl
  ·by_cases e3 :kind=3
   ·subst e3
    have HM :=Su ct (.agg #[tv,iv]) C (((w.alloc (.cells #[tv,iv] 25)).alloc (.cells (sA 3 name table col (.slice o1 cols.length c1) (.slice o2 rows.length c2) (.slice o3 sets.length c3) (.slice o4 frm.length c4) (.slice o5 out.length c5) op xk xn xs s nmv n8 (.slice o6 k6 c6) (.slice o7 order.length c7) down n) 36)).alloc (.cells Ah 36)).drew (hcW.keep (Keeps.refl _ _).drew) hCW 3 name table col (.slice o1 cols.length c1) (.slice o2 rows.length c2) (.slice o3 sets.length c3) (.slice o4 frm.length c4) (.slice o5 out.length c5) op xk xn xs s nmv n8 (.slice o6 k6 c6) (.slice o7 order.length c7) down n
    have HE :Hid (Co ct ⟨3,name,table,col,cols,rows,sets,frm,out,wher,order,down,n⟩ =Fi (Gi ct name) ⟨3,name,table,col,cols,rows,sets,frm,out,wher,order,down,n⟩) :=rfl
    generalize Gi ct name=m at HM HE
    clear hcW hRW htl hil i1 i2 i3 i4 i5 i6 i7
    go_enter Tryz.func23,Tryz.ntmps23
    go_wp2_with fail
    refine wp_region_held_drew (S := (fun w'=>w'.heap[w.heap.size]? =some (.cells #[tv,iv] 25) ∧w'.heap[w.heap.size+1]? =some (.cells (sA 3 name table col (.slice o1 cols.length c1) (.slice o2 rows.length c2) (.slice o3 sets.length c3) (.slice o4 frm.length c4) (.slice o5 out.length c5) op xk xn xs s nmv n8 (.slice o6 k6 c6) (.slice o7 order.length c7) down n) 36))) (by kernel_rfl) ?_ (fun hHeld=> ?_)
    ·exact ⟨hcat,S0.stm⟩
    refine wpAnyH_take (i :=0) (v := .agg (sA 3 name table col (.slice o1 cols.length c1) (.slice o2 rows.length c2) (.slice o3 sets.length c3) (.slice o4 frm.length c4) (.slice o5 out.length c5) op xk xn xs s nmv n8 (.slice o6 k6 c6) (.slice o7 order.length c7) down n)) rfl (by kernel_rfl) (by kernel_rfl) (by kernel_rfl) (fun _ _ _ h=>h) (Bt rfl 36 _ rfl (w.heap.size+1) rfl (sA 3 name table col (.slice o1 cols.length c1) (.slice o2 rows.length c2) (.slice o3 sets.length c3) (.slice o4 frm.length c4) (.slice o5 out.length c5) op xk xn xs s nmv n8 (.slice o6 k6 c6) (.slice o7 order.length c7) down n) 36 _ (fun _ h=>h.2) Tryz.underlying36 rfl Am) (by assumption) ?_
    refine wpAnyH_take (i :=1) (v := .agg #[tv,iv]) rfl (by kernel_rfl) (by kernel_rfl) (by kernel_rfl) (fun _ _ _ h=>h) (Bt rfl 25 _ rfl w.heap.size rfl #[tv,iv] 25 _ (fun _ h=>h.1) Tryz.underlying25 rfl (by kernel_rfl)) (by assumption) ?_
    refine wpAnyH_take (i :=2) (v := .agg (sA 3 name table col (.slice o1 cols.length c1) (.slice o2 rows.length c2) (.slice o3 sets.length c3) (.slice o4 frm.length c4) (.slice o5 out.length c5) op xk xn xs s nmv n8 (.slice o6 k6 c6) (.slice o7 order.length c7) down n)) rfl (by kernel_rfl) (by kernel_rfl) (by kernel_rfl) (fun _ _ _ h=>h) (Bt rfl 36 _ rfl (w.heap.size+1) rfl (sA 3 name table col (.slice o1 cols.length c1) (.slice o2 rows.length c2) (.slice o3 sets.length c3) (.slice o4 frm.length c4) (.slice o5 out.length c5) op xk xn xs s nmv n8 (.slice o6 k6 c6) (.slice o7 order.length c7) down n) 36 _ (fun _ h=>h.2) Tryz.underlying36 rfl Am) (by assumption) ?_
    refine wpAnyH_ready (rs := [3]) (by kernel_rfl) (by simp) ?_
    refine (AllReadyH.cons rfl (fun K hK=> ?_) AllReadyH.nil)
    go_simp
    (go_at_call 57;refine HM.mono ?_;rintro e w1 ⟨rfl,hb1⟩;have S1 := (S0.below (Below.refl _ _).drew).below hb1;have cat1 := (hb1.block _ hlc).trans hcat)
    go_wp2_with fail
    refine hK.out _ _ ?_ (fun hHeld=> ?_)
    ·exact ⟨cat1,S1.stm⟩
    clear hK K
    refine wpAnyH_ready (rs := [4]) (by kernel_rfl) (by simp) ?_
    refine (AllReadyH.cons rfl (fun K hK=> ?_) AllReadyH.nil)
    refine At rfl 36 _ _ rfl (w.heap.size+1+1) (sA 3 name table col (.slice o1 cols.length c1) (.slice o2 rows.length c2) (.slice o3 sets.length c3) (.slice o4 frm.length c4) (.slice o5 out.length c5) op xk xn xs s nmv n8 (.slice o6 k6 c6) (.slice o7 order.length c7) down n) ?_ ?_ 36 Ah ?_ ?_ ?_ ?_ ?_;exact rfl;exact rfl;exact S1.room;exact Am;exact rfl;exact h1
    refine hK.out _ _ ?_ (fun hHeld=> ?_)
    ·exact ⟨Aw cat1 (by omega) _,Aw S1.stm (by omega) _⟩
    clear hK K
    try simp only [Act.put]
    refine wpAnyH_take (i :=5) (v := ?_) rfl (by kernel_rfl) (by kernel_rfl) (by kernel_rfl) (fun _ _ _ h=>h) (Or.inl ⟨by rfl, ?_⟩) (by assumption) ?_
    rotate_left
    ·intro w hSw;(try dsimp only at hSw);go_simp;all_goals (with_reducible rfl)
    refine wpAnyH_done (by kernel_rfl) ?_ _
    go_wp2_with fail
    refine bodyPost_ret (A2 Tryz.results23 _ _ (w.heap.size+1+1) 36 (sA 3 name table col (.slice o1 cols.length c1) (.slice o2 rows.length c2) (.slice o3 sets.length c3) (.slice o4 frm.length c4) (.slice o5 out.length c5) op xk xn xs s nmv n8 (.slice o6 k6 c6) (.slice o7 order.length c7) down n) _ _ _ rfl rfl (An S1.room) Tryz.underlying36 rfl Am) rfl ⟨⟨_,rfl, ?_⟩,Below.row S1.bel (by omega) _⟩
    refine ⟨_,rfl,h1, ?_⟩
    rw [HE.out]
    unfold Fi
    by_cases h0 :m=0
    ·subst h0
     rw [if_pos rfl]
     exact ⟨rfl,hst _ (Below.row S1.bel (by omega) _)⟩
    ·rw [if_neg h0]
     rfl
   ·by_cases e4 :kind=4∨kind=5∨kind=6
    ·have HE :Hid (Co ct ⟨kind,name,table,col,cols,rows,sets,frm,out,wher,order,down,n⟩ =Cz ct ⟨kind,name,table,col,cols,rows,sets,frm,out,wher,order,down,n⟩) :=by
      show _=_
      simp only [Co]
      rw [if_neg e1,if_neg e2,if_neg e3,if_pos e4]
     have HB :=O2 ct (.agg #[tv,iv]) ⟨kind,name,table,col,cols,rows,sets,frm,out,wher,order,down,n⟩ _ C (((w.alloc (.cells #[tv,iv] 25)).alloc (.cells (sA kind name table col (.slice o1 cols.length c1) (.slice o2 rows.length c2) (.slice o3 sets.length c3) (.slice o4 frm.length c4) (.slice o5 out.length c5) op xk xn xs s nmv n8 (.slice o6 k6 c6) (.slice o7 order.length c7) down n) 36)).alloc (.cells Ah 36)) hcW hRW hCW g1 g2 g5 f4 f5 f6 f7 hcl
     have HB2 :=HB.mono (R' :=fun r w'=> ∃ (arr :Array Value) (z :Int),r= .returned (.tuple #[.agg arr, .int .i64 z]) ∧arr.size=20∧arr.all (·.oneCell') =true∧ (match Cz ct ⟨kind,name,table,col,cols,rows,sets,frm,out,wher,order,down,n⟩ with | .error m=>z=m | .ok st=>z=0∧Abs.R (Fx C (w.heap.size+3)) w' st arr.toList) ∧Below (((w.alloc (.cells #[tv,iv] 25)).alloc (.cells (sA kind name table col (.slice o1 cols.length c1) (.slice o2 rows.length c2) (.slice o3 sets.length c3) (.slice o4 frm.length c4) (.slice o5 out.length c5) op xk xn xs s nmv n8 (.slice o6 k6 c6) (.slice o7 order.length c7) down n) 36)).alloc (.cells Ah 36)).heap.size (((w.alloc (.cells #[tv,iv] 25)).alloc (.cells (sA kind name table col (.slice o1 cols.length c1) (.slice o2 rows.length c2) (.slice o3 sets.length c3) (.slice o4 frm.length c4) (.slice o5 out.length c5) op xk xn xs s nmv n8 (.slice o6 k6 c6) (.slice o7 order.length c7) down n) 36)).alloc (.cells Ah 36)) w') (by
      rintro r w' ⟨⟨v,rfl,arr,ha1,ha2,hv⟩,hb'⟩
      cases hr :Cz ct ⟨kind,name,table,col,cols,rows,sets,frm,out,wher,order,down,n⟩ with
      | error m=>
       rw [hr] at hv
       obtain rfl :=hv
       exact ⟨arr,m,rfl,ha1,ha2,rfl,hb'⟩
      | ok e2=>
       rw [hr] at hv
       obtain ⟨rfl,hE'⟩ :=hv
       exact ⟨arr,0,rfl,ha1,ha2,⟨rfl,Abs.mono (fun k _ hk=>hk.imp id (fun h=>Nat.le_trans (by simp) h)) hE'⟩,hb'⟩)
     generalize Cz ct ⟨kind,name,table,col,cols,rows,sets,frm,out,wher,order,down,n⟩ =RR at HB2 HE
     clear HB hcW hRW htl hil i1 i2 i3 i4 i5 i6 i7 hst hR
     clear e1 e2 e3
     rcases e4 with rfl | rfl | rfl
     all_goals
      go_enter Tryz.func23,Tryz.ntmps23
      go_wp2_with (first | (go_at_call 58;refine HB2.mono ?_;rintro r w1 ⟨arr,z,rfl,ha1,ha2,hv,hb1⟩;have S1 :=S0.below hb1;have hi1 : (Tryz.prog.info? 36).map (·.size) =some arr.size :=by rw [ha1];exact Am) | (refine wpList_load_row rfl 36 _ rfl (w.heap.size+1) ?_ 36 _ (0,0) _ S0.stm Tryz.underlying36 ?_ ?_ ?_;exact rfl;exact rfl;exact Am) | (refine wpList_store_row rfl 36 _ _ rfl (w.heap.size+1+1) arr ?_ ?_ 36 Ah ?_ ?_ ?_ ?_ ?_;exact rfl;exact rfl;exact S1.room;exact hi1;exact ha1.symm;exact ha2))
      refine bodyPost_ret (A2 Tryz.results23 _ _ (w.heap.size+1+1) 36 arr _ _ _ rfl rfl (An S1.room) Tryz.underlying36 rfl hi1) rfl ⟨⟨_,rfl, ?_⟩,Below.row S1.bel (by omega) _⟩
      refine ⟨_,ha1,ha2, ?_⟩
      rw [HE.out]
      cases RR with
      | error m=>
       obtain rfl :=hv
       rfl
      | ok st2=>
       obtain ⟨rfl,hE6⟩ :=hv
       have hF2 : ¬Fx C (w.heap.size+3) (w.heap.size+1+1) :=by intro h;rcases h with h | h<;>omega
       exact ⟨rfl,Abs.mono (fun k _ h=>h.imp id (fun h=>Nat.le_trans (by omega) h)) (Abs.keep ((Keeps.refl _ _).row hF2 _) hE6)⟩
    ·by_cases e7 :kind=7
     ·subst e7
      have HE :Hid (Co ct ⟨7,name,table,col,cols,rows,sets,frm,out,wher,order,down,n⟩ =C7 ct ⟨7,name,table,col,cols,rows,sets,frm,out,wher,order,down,n⟩) :=rfl
      have HB :=O3 ct (.agg #[tv,iv]) ⟨7,name,table,col,cols,rows,sets,frm,out,wher,order,down,n⟩ _ C (((w.alloc (.cells #[tv,iv] 25)).alloc (.cells (sA 7 name table col (.slice o1 cols.length c1) (.slice o2 rows.length c2) (.slice o3 sets.length c3) (.slice o4 frm.length c4) (.slice o5 out.length c5) op xk xn xs s nmv n8 (.slice o6 k6 c6) (.slice o7 order.length c7) down n) 36)).alloc (.cells Ah 36)) hcW hRW hCW g3 g4 g5 f8 f9 f10 hcl
      have HB2 :=HB.mono (R' :=fun r w'=> ∃ (arr :Array Value) (z :Int),r= .returned (.tuple #[.agg arr, .int .i64 z]) ∧arr.size=20∧arr.all (·.oneCell') =true∧ (match C7 ct ⟨7,name,table,col,cols,rows,sets,frm,out,wher,order,down,n⟩ with | .error m=>z=m | .ok st=>z=0∧Abs.R (Fx C (w.heap.size+3)) w' st arr.toList) ∧Below (((w.alloc (.cells #[tv,iv] 25)).alloc (.cells (sA 7 name table col (.slice o1 cols.length c1) (.slice o2 rows.length c2) (.slice o3 sets.length c3) (.slice o4 frm.length c4) (.slice o5 out.length c5) op xk xn xs s nmv n8 (.slice o6 k6 c6) (.slice o7 order.length c7) down n) 36)).alloc (.cells Ah 36)).heap.size (((w.alloc (.cells #[tv,iv] 25)).alloc (.cells (sA 7 name table col (.slice o1 cols.length c1) (.slice o2 rows.length c2) (.slice o3 sets.length c3) (.slice o4 frm.length c4) (.slice o5 out.length c5) op xk xn xs s nmv n8 (.slice o6 k6 c6) (.slice o7 order.length c7) down n) 36)).alloc (.cells Ah 36)) w') (by
       rintro r w' ⟨⟨v,rfl,arr,ha1,ha2,hv⟩,hb'⟩
       cases hr :C7 ct ⟨7,name,table,col,cols,rows,sets,frm,out,wher,order,down,n⟩ with
       | error m=>
        rw [hr] at hv
        obtain rfl :=hv
        exact ⟨arr,m,rfl,ha1,ha2,rfl,hb'⟩
       | ok e2=>
        rw [hr] at hv
        obtain ⟨rfl,hE'⟩ :=hv
        exact ⟨arr,0,rfl,ha1,ha2,⟨rfl,Abs.mono (fun k _ hk=>hk.imp id (fun h=>Nat.le_trans (by simp) h)) hE'⟩,hb'⟩)
      generalize C7 ct ⟨7,name,table,col,cols,rows,sets,frm,out,wher,order,down,n⟩ =RR at HB2 HE
      clear HB hcW hRW htl hil i1 i2 i3 i4 i5 i6 i7 hst hR
      go_enter Tryz.func23,Tryz.ntmps23
      go_wp2_with (first | (go_at_call 59;refine HB2.mono ?_;rintro r w1 ⟨arr,z,rfl,ha1,ha2,hv,hb1⟩;have S1 :=S0.below hb1;have hi1 : (Tryz.prog.info? 36).map (·.size) =some arr.size :=by rw [ha1];exact Am) | (refine wpList_load_row rfl 36 _ rfl (w.heap.size+1) ?_ 36 _ (0,0) _ S0.stm Tryz.underlying36 ?_ ?_ ?_;exact rfl;exact rfl;exact Am) | (refine wpList_store_row rfl 36 _ _ rfl (w.heap.size+1+1) arr ?_ ?_ 36 Ah ?_ ?_ ?_ ?_ ?_;exact rfl;exact rfl;exact S1.room;exact hi1;exact ha1.symm;exact ha2))
      refine bodyPost_ret (A2 Tryz.results23 _ _ (w.heap.size+1+1) 36 arr _ _ _ rfl rfl (An S1.room) Tryz.underlying36 rfl hi1) rfl ⟨⟨_,rfl, ?_⟩,Below.row S1.bel (by omega) _⟩
      refine ⟨_,ha1,ha2, ?_⟩
      rw [HE.out]
      cases RR with
      | error m=>
       obtain rfl :=hv
       rfl
      | ok st2=>
       obtain ⟨rfl,hE6⟩ :=hv
       have hF2 : ¬Fx C (w.heap.size+3) (w.heap.size+1+1) :=by intro h;rcases h with h | h<;>omega
       exact ⟨rfl,Abs.mono (fun k _ h=>h.imp id (fun h=>Nat.le_trans (by omega) h)) (Abs.keep ((Keeps.refl _ _).row hF2 _) hE6)⟩
     ·have HE :Hid (Co ct ⟨kind,name,table,col,cols,rows,sets,frm,out,wher,order,down,n⟩ = .error 1) :=by
       show _=_
       simp only [Co]
       rw [if_neg e1,if_neg e2,if_neg e3,if_neg e4,if_neg e7]
      have b1 : (kind==1) =false :=by simpa using e1
      have b2 : (kind==2) =false :=by simpa using e2
      have b3 : (kind==3) =false :=by simpa using e3
      have b4 : (kind==4) =false :=by rw [beq_eq_false_iff_ne];omega
      have b5 : (kind==5) =false :=by rw [beq_eq_false_iff_ne];omega
      have b6 : (kind==6) =false :=by rw [beq_eq_false_iff_ne];omega
      have b7 : (kind==7) =false :=by simpa using e7
      clear hcW hRW htl hil hR i1 i2 i3 i4 i5 i6 i7 hst e1 e2 e3 e4 e7
      go_enter Tryz.func23,Tryz.ntmps23
      go_wp2_with (first | (refine wpList_load_row rfl 36 _ rfl (w.heap.size+1) ?_ 36 (sA kind name table col (.slice o1 cols.length c1) (.slice o2 rows.length c2) (.slice o3 sets.length c3) (.slice o4 frm.length c4) (.slice o5 out.length c5) op xk xn xs s nmv n8 (.slice o6 k6 c6) (.slice o7 order.length c7) down n) (0,0) _ ?_ Tryz.underlying36 ?_ ?_ ?_;exact rfl;exact S0.stm;exact rfl;exact Am) | (refine wpList_store_row rfl 36 _ _ rfl (w.heap.size+1+1) (sA kind name table col (.slice o1 cols.length c1) (.slice o2 rows.length c2) (.slice o3 sets.length c3) (.slice o4 frm.length c4) (.slice o5 out.length c5) op xk xn xs s nmv n8 (.slice o6 k6 c6) (.slice o7 order.length c7) down n) ?_ ?_ 36 Ah ?_ ?_ ?_ ?_ ?_;exact rfl;exact rfl;exact S0.room;exact Am;exact rfl;exact h1))
      refine bodyPost_ret (A2 Tryz.results23 _ _ (w.heap.size+1+1) 36 (sA kind name table col (.slice o1 cols.length c1) (.slice o2 rows.length c2) (.slice o3 sets.length c3) (.slice o4 frm.length c4) (.slice o5 out.length c5) op xk xn xs s nmv n8 (.slice o6 k6 c6) (.slice o7 order.length c7) down n) _ _ _ rfl rfl (An S0.room) Tryz.underlying36 rfl Am) rfl ⟨⟨_,rfl, ?_⟩,Below.row S0.bel (by omega) _⟩
      refine ⟨_,rfl,h1, ?_⟩
      rw [HE.out]
      rfl
end Go.Proofs.YtmgkcjiejmhgcaaGreatDoor

