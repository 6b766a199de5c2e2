/-
  2 texts of this proof in one, in build order: YBind2, YBindAs.
-/
import Derived.Test.YtmgkcjiejmhgcaaGreatDoorJ08
set_option linter.unusedSimpArgs false
set_option linter.unusedVariables false
namespace Go.Proofs.YtmgkcjiejmhgcaaGreatDoor
open Go.RowKit Go.Maps
theorem At {P :Program} {w :World} {ops :Array Oper} {o :Oper} {a :Act} {K :Act→World→Prop} {Q :Exit→Act→World→Prop} {X :Prop} (hgd :o.guard=none) (ty :TypeId) (x y :Operand) (ho :o.op= .store ty x y)
  (g :Nat) (cells :Array Value) (hx :a.eval x= .pointer (some ⟨g,0,none⟩)) (hy :a.eval y= .agg cells)
  (t :TypeId) (old :Array Value) (hg :w.heap[g]? =some (.cells old t (0,0))) (hi : (P.info? ty).map (·.size) =some cells.size)
  (hold :old.size=cells.size) (h1 :cells.all (·.oneCell') =true)
  (h :K (a.put o.dst undef) (w.setRow g cells)) :if Region.wanted o (yielded ops a.tmps) =true then Oper.wp P o a w K Q else X :=by
 rw [if_pos (by simp [Region.wanted,hgd])]
 exact wp_store_row ty x y ho g cells hx hy t old hg hi hold h1 h
theorem I6.row {w :World} {g :Nat} {op xk xn :Int} {xs s name :Wd} {n :Int} {sv :Value} (h :I6 w g op xk xn xs s name n sv) {b :Nat} (hb :g≠b) (cells :Array Value) :I6 (w.setRow b cells) g op xk xn xs s name n sv :=by
 have e : ∀o,(w.setRow b cells).cell? ⟨g,o,none⟩ =w.cell? ⟨g,o,none⟩ :=fun o=>by simp [World.setRow,World.cell?,Array.getElem?_modify,Ne.symm hb]
 unfold I6
 simp only [e]
 exact h
theorem Eb : (Tryz.prog.info? 34).map (fun i=> (i.zero,i.size,i.bytes)) =some (some (.agg #[.int .i64 0, .int .i64 0, .int .i64 0, .string ⟨#[]⟩, .string ⟨#[]⟩, .string ⟨#[]⟩, .int .i64 0, .slice none 0 0]),8,104) :=by kernel_rfl
theorem Xt : (Tryz.prog.info? 3).map (fun i=> (i.zero,i.size,i.bytes)) =some (some (.int .i64 0),1,8) :=by kernel_rfl
theorem J6 (W :World) (n :Nat) (hn :n≤1000000000000) : ∃arr :Array Value,arr.size=n*8∧ (Instr.makeSlice 30 (.int .i64 (n :Int)) (.int .i64 (n :Int))).run Tryz.prog W= .ok (.slice (some ⟨W.heap.size,0,none⟩) n n) (W.alloc (.cells arr 34)) :=by
 obtain ⟨i0,hi,hz0,hz1,hz2⟩ :=info_parts Eb
 have hmk :=run_make (P :=Tryz.prog) W 30 34 i0 _ Tryz.underlying30 hi hz0 .i64 .i64 n n (by omega) (Int.le_refl _) (by rw [hz2];omega) (by omega)
 rw [hz1,Int.toNat_natCast] at hmk
 exact ⟨_,size_madeCells _ _,hmk⟩
theorem Vm (W :World) (n :Nat) (hn :n≤1000000000000) : ∃arr :Array Value,arr.size=n*1∧ (Instr.makeSlice 155 (.int .i64 (n :Int)) (.int .i64 (n :Int))).run Tryz.prog W= .ok (.slice (some ⟨W.heap.size,0,none⟩) n n) (W.alloc (.cells arr 3)) :=by
 obtain ⟨i0,hi,hz0,hz1,hz2⟩ :=info_parts Xt
 have hmk :=run_make (P :=Tryz.prog) W 155 3 i0 _ Tryz.underlying155 hi hz0 .i64 .i64 n n (by omega) (Int.le_refl _) (by rw [hz2];omega) (by omega)
 rw [hz1,Int.toNat_natCast] at hmk
 exact ⟨_,size_madeCells _ _,hmk⟩
theorem Xu (w :World) (o1 o2 :Obj) (a1 a2 :Array Value) (t1 t2 :TypeId) (n :Nat) (F :Nat→Prop) (h1 :a1.size=n*8) (h2 :a2.size=n*1) :
  ((((w.alloc o1).alloc o2).alloc (.cells a1 t1)).alloc (.cells a2 t2)).heap[w.heap.size]? =some o1∧ ((((w.alloc o1).alloc o2).alloc (.cells a1 t1)).alloc (.cells a2 t2)).heap[w.heap.size+1]? =some o2∧
  Cf As F ((((w.alloc o1).alloc o2).alloc (.cells a1 t1)).alloc (.cells a2 t2)) (w.heap.size+1+1) n [] ∧Cf Gu F ((((w.alloc o1).alloc o2).alloc (.cells a1 t1)).alloc (.cells a2 t2)) (w.heap.size+1+1+1) n [] ∧
  Below w.heap.size w ((((w.alloc o1).alloc o2).alloc (.cells a1 t1)).alloc (.cells a2 t2)) ∧w.heap.size+4≤ ((((w.alloc o1).alloc o2).alloc (.cells a1 t1)).alloc (.cells a2 t2)).heap.size :=by
 have m1 :Cf As F (((w.alloc o1).alloc o2).alloc (.cells a1 t1)) (w.heap.size+1+1) n [] :=by
  have :=G9 As F (w := (w.alloc o1).alloc o2) (t :=t1) (n :=n) h1
  rwa [show ((w.alloc o1).alloc o2).heap.size=w.heap.size+1+1 from by simp] at this
 have m2 :Cf Gu F ((((w.alloc o1).alloc o2).alloc (.cells a1 t1)).alloc (.cells a2 t2)) (w.heap.size+1+1+1) n [] :=by
  have :=G9 Gu F (w := ((w.alloc o1).alloc o2).alloc (.cells a1 t1)) (t :=t2) (n :=n) h2
  rwa [show (((w.alloc o1).alloc o2).alloc (.cells a1 t1)).heap.size=w.heap.size+1+1+1 from by simp] at this
 exact ⟨Ae (Ae (Ae (Ab _ _) _) _) _,Ae (Ae (A0 _ _ _) _) _,m1.below (Aq _ _),m2,(Fc _ _ _ _).alloc (by simp;omega) _,by simp⟩
theorem Lg {W w1 :World} {g n j :Nat} {le :List E} {li :List Int} {op :Int} {x :V} {s name :Wd} {i :Int} {ao :Option Addr} {k c :Nat} {e :E} {ty :Int}
  (h1 :Cf As (Fr (g+4)) W (g+1+1) n le) (h2 :Cf Gu (Fr (g+4)) W (g+1+1+1) n li) (hb :Below W.heap.size W w1) (hj :j<n) (l1 :le.length=j) (l2 :li.length=j)
  (he :IsE (Fr (g+4)) w1 e (.agg (Ad op x s name i (.slice ao k c)))) :
  w1.there (g+1+1) (j*8) 8∧ (∃u,(w1.setCells (g+1+1) (j*8) (Ad op x s name i (.slice ao k c)).toList).cell? ⟨g+1+1+1,j,none⟩ =some u) ∧ (w1.setCells (g+1+1) (j*8) (Ad op x s name i (.slice ao k c)).toList).frozen? ⟨g+1+1+1,j,none⟩ =false∧
  Cf As (Fr (g+4)) ((w1.setCells (g+1+1) (j*8) (Ad op x s name i (.slice ao k c)).toList).setCell ⟨g+1+1+1,j,none⟩ (.int .i64 ty)) (g+1+1) n (le++ [e]) ∧
  Cf Gu (Fr (g+4)) ((w1.setCells (g+1+1) (j*8) (Ad op x s name i (.slice ao k c)).toList).setCell ⟨g+1+1+1,j,none⟩ (.int .i64 ty)) (g+1+1+1) n (li++ [ty]) :=by
 subst l1
 have m1 :=h1.below hb
 have m2 :=h2.below hb
 have hn1 : ¬Fr (g+4) (g+1+1) :=by show ¬_≤_;omega
 have hn2 : ¬Fr (g+4) (g+1+1+1) :=by show ¬_≤_;omega
 have n1 :=m1.set hj hn1 (a :=e) (c := (Ad op x s name i (.slice ao k c)).toList) ⟨rfl,he⟩
 have n2 :Cf Gu (Fr (g+4)) (w1.setCells (g+1+1) (le.length*8) (Ad op x s name i (.slice ao k c)).toList) (g+1+1+1) n li :=m2.keep (Fs hn1 _ _ _) (Be (by omega) _ _ _)
 have t2 :=Mp (n2.there hj) (j :=0) (by decide)
 simp only [Gu,Nat.mul_one,Nat.add_zero] at t2
 refine ⟨m1.there hj,t2.1,t2.2,n1.keep ((Keeps.refl _ _).set hn2 _ _) (Below.heap_setCell _ _ _ _ (by simp)), ?_⟩
 have :=n2.set1 (by omega) hn2 rfl (a :=ty) (v := .int .i64 ty) rfl
 rwa [l2] at this
theorem To {w w1 :World} {g k :Nat} {x :Obj} (hk :k<w.heap.size) (hn :k<g+1+1) (hb :Below w.heap.size w w1) (hx :w.heap[k]? =some x) (o :Nat) (vs :List Value) (i :Nat) (v :Value) :
  ((w1.setCells (g+1+1) o vs).setCell ⟨g+1+1+1,i,none⟩ v).heap[k]? =some x :=
 (Below.heap_setCell _ _ _ _ (show k≠g+1+1+1 by omega)).trans ((Be (show k≠g+1+1 by omega) _ _ _).trans ((hb.block _ hk).trans hx))
set_option maxRecDepth 100000 in
set_option maxHeartbeats 4000000 in
theorem Zk (S :List TabD) (d :Nat) (ih :Qy S d) (sv :Value) (op :Int) (x :V) (s name :Wd) (n :Int) (l :List E) (ao :Option Addr) (c C :Nat) (w :World) (h1 :op≠1) (h2 :op≠2) (he :IsL As (fun k=>k<C) w (.slice ao l.length c) l) (hl :IsL A4 (fun k=>k<C) w sv S) (hC :C≤w.heap.size) (hg : ∀a∈l,geB d a=true) (hl2 :l.length≤2) :
  Calls Tryz.prog 120 #[sv, .agg (Ad op x s name n (.slice ao l.length c))] w fun r w'=> (∃v,r= .returned v∧Er S (.mk op x s name n l) w.heap.size w' v) ∧Below w.heap.size w w' :=by
 obtain ⟨so,sc,rfl⟩ :=hl.shape
 obtain ⟨xk,xn,xs⟩ :=x
 have e1 : (op==1) =false :=by simpa using h1
 have e2 : (op==2) =false :=by simpa using h2
 have HB :Hid (A3 S (.mk op ⟨xk,xn,xs⟩ s name n l) =match Bb S l with
   | .error m=> .error m
   | .ok r=>if I4 op (r.map Prod.snd) then .ok (.mk op ⟨xk,xn,xs⟩ s name n (r.map Prod.fst),Gw op) else .error 5) :=J5 S h1 h2 _ _ _ _ _
 have hb2 :=Bz w (.cells (Ad op ⟨xk,xn,xs⟩ s name n (.slice ao l.length c)) 34) (.cells (Ad 0 zero noW noW 0 (.slice none 0 0)) 34)
 have hB0 : ((w.alloc (.cells (Ad op ⟨xk,xn,xs⟩ s name n (.slice ao l.length c)) 34)).alloc (.cells (Ad 0 zero noW noW 0 (.slice none 0 0)) 34)).heap[w.heap.size]? =some (.cells (Ad op ⟨xk,xn,xs⟩ s name n (.slice ao l.length c)) 34) :=Ae (Ab _ _) _
 have hB1 : ((w.alloc (.cells (Ad op ⟨xk,xn,xs⟩ s name n (.slice ao l.length c)) 34)).alloc (.cells (Ad 0 zero noW noW 0 (.slice none 0 0)) 34)).heap[w.heap.size+1]? =some (.cells (Ad 0 zero noW noW 0 (.slice none 0 0)) 34) :=A0 _ _ _
 clear h1 h2
 go_enter Tryz.func120,Tryz.ntmps120
 go_wp2_with fail
 obtain ⟨arr1,ha1,hmk1⟩ :=J6 ((w.alloc (.cells (Ad op ⟨xk,xn,xs⟩ s name n (.slice ao l.length c)) 34)).alloc (.cells (Ad 0 zero noW noW 0 (.slice none 0 0)) 34)) l.length (by omega)
 erw [hmk1]
 go_wp2_with fail
 obtain ⟨arr2,ha2,hmk2⟩ :=Vm (((w.alloc (.cells (Ad op ⟨xk,xn,xs⟩ s name n (.slice ao l.length c)) 34)).alloc (.cells (Ad 0 zero noW noW 0 (.slice none 0 0)) 34)).alloc (.cells arr1 34)) l.length (by omega)
 erw [hmk2]
 have hst :=Xu w (.cells (Ad op ⟨xk,xn,xs⟩ s name n (.slice ao l.length c)) 34) (.cells (Ad 0 zero noW noW 0 (.slice none 0 0)) 34) arr1 arr2 34 3 l.length (Fr (w.heap.size+4)) ha1 ha2
 clear hmk1 hmk2 ha1 ha2 hb2 hB0 hB1
 obtain ⟨st0,st1,st2,st3,st4,st5⟩ :=hst
 go_wp2_with fail
 go_loopw [39] (fun i wr=> ∃ (j :Nat) (rs :List (E×Int)),j≤l.length∧i= .int .i64 j∧Hid (Bb S (l.take j) = .ok rs) ∧Hid (rs.length=j) ∧wr.heap[w.heap.size]? =some (.cells (Ad op ⟨xk,xn,xs⟩ s name n (.slice ao l.length c)) 34) ∧wr.heap[w.heap.size+1]? =some (.cells (Ad 0 zero noW noW 0 (.slice none 0 0)) 34) ∧Cf As (Fr (w.heap.size+4)) wr (w.heap.size+1+1) l.length (rs.map Prod.fst) ∧Cf Gu (Fr (w.heap.size+4)) wr (w.heap.size+1+1+1) l.length (rs.map Prod.snd) ∧Below w.heap.size w wr∧w.heap.size+4≤wr.heap.size) (fun i _=>l.length - (intOf i).toNat)
 case atStart=>exact ⟨0,[],Nat.zero_le _,rfl,by show _=_;rw [List.take_zero,Bb],rfl,st0,st1,st2,st3,st4,st5⟩
 case round=>
  obtain ⟨j,rs,hj,rfl,HQ,HL,hE,hZ,hM1,hM2,hbel,hsz⟩ :=hrel
  clear st0 st1 st2 st3 st4 st5
  by_cases hjl :j<l.length
  ·obtain ⟨a,ha⟩ : ∃a,l[j]? =some a := ⟨_,List.getElem?_eq_getElem hjl⟩
   have HT :Hid (l.take (j+1) =l.take j++ [a]) :=by show _=_;rw [List.take_add_one,ha];rfl
   have hga :=hg a (List.mem_of_getElem? ha)
   obtain ⟨b,off,cs,rfl,hbC,hb,hR,hcell⟩ :=Av (he.keep (Ag (hbel.mono hC))) ha
   obtain ⟨op',xk',xn',xs',s',name',n',ao',k',c',rfl⟩ :=Cm hR
   have d0 :=hcell 0 _ rfl
   have d1 :=hcell 1 _ rfl
   have d2 :=hcell 2 _ rfl
   have d3 :=hcell 3 _ rfl
   have d4 :=hcell 4 _ rfl
   have d5 :=hcell 5 _ rfl
   have d6 :=hcell 6 _ rfl
   have d7 :=hcell 7 _ rfl
   simp only [As,Nat.add_zero] at d0 d1 d2 d3 d4 d5 d6 d7
   have j0 : (0 :Int) ≤ (j :Int) :=by omega
   have j1 : (j :Int) < (l.length :Int) :=by omega
   have hbx :=Aq wr (.cells (Ad op' ⟨xk',xn',xs'⟩ s' name' n' (.slice ao' k' c')) 34)
   have HI :=ih a (.agg (Ad op' ⟨xk',xn',xs'⟩ s' name' n' (.slice ao' k' c'))) (.slice so S.length sc) C (wr.alloc (.cells (Ad op' ⟨xk',xn',xs'⟩ s' name' n' (.slice ao' k' c')) 34)) (IsE.keep (Ag (hbx.mono (Nat.le_trans hC hbel.size))) _ _ hR.2) ((hl.keep (Ag (hbel.mono hC))).keep (Ag (hbx.mono (Nat.le_trans hC hbel.size)))) (Nat.le_trans (Nat.le_trans hC hbel.size) hbx.size) hga
   clear hcell hR ha ih hg
   have hlt0 :=lt_of_block hE
   have hlt1 :=lt_of_block hZ
   have q2 :=HL.out
   have l1 : (rs.map Prod.fst).length=j :=by rw [List.length_map];exact q2
   have l2 : (rs.map Prod.snd).length=j :=by rw [List.length_map];exact q2
   rcases hbr :A3 S a with m | r
   ·rcases Ew S a m hbr with rfl | rfl
    ·have HI2 :=HI.mono (R' :=fun e w'=> ∃ (op :Int) (x :V) (s name :Wd) (n :Int) (ao :Option Addr) (k c :Nat) (z :Int),e= .returned (.tuple #[.agg (Ad op x s name n (.slice ao k c)), .int .i64 z, .int .i64 3]) ∧IsE (Fr (w.heap.size+4)) w' (.mk 0 zero noW noW 0 []) (.agg (Ad op x s name n (.slice ao k c))) ∧Below (wr.heap.size+1) (wr.alloc (.cells (Ad op' ⟨xk',xn',xs'⟩ s' name' n' (.slice ao' k' c')) 34)) w') (by
      rintro e w' ⟨⟨v,rfl,hv⟩,hb'⟩
      obtain rfl := (A9 hbr).1 hv
      exact ⟨0,zero,noW,noW,0,none,0,0,0,rfl,Dn fun _=>rfl,by simpa using hb'⟩)
     have HE :Hid (A3 S (.mk op ⟨xk,xn,xs⟩ s name n l) = .error 3) :=by
      show _=_
      have hs :Bb S (l.take (j+1)) = .error 3 :=by rw [HT.out,Ei,HQ.out,hbr]
      have :=E5 S (l.take (j+1)) (l.drop (j+1)) 3 hs
      rw [List.take_append_drop] at this
      rw [HB.out,this]
     have hone0 :=A8 0 zero noW noW 0 none 0 0
     clear HI hbr HB HQ HL HT q2
     go_wp2_with (first | (go_at_call 120;refine HI2.mono ?_;rintro e w1 ⟨op2,x2,s2,name2,n2,ao2,k2,c2,z,rfl,hE2,hb1⟩;obtain ⟨x2k,x2n,x2s⟩ :=x2;have hbT :=Ak hbx (by simpa using hb1);obtain ⟨mt,⟨u,mu⟩,mf,mm1,mm2⟩ :=Lg (ty :=z) hM1 hM2 hbT hjl l1 l2 hE2;have hone :=A8 op2 ⟨x2k,x2n,x2s⟩ s2 name2 n2 ao2 k2 c2;have hZ2 :=To (g :=w.heap.size) hlt1 (by omega) hbT hZ (j*8) (Ad op2 ⟨x2k,x2n,x2s⟩ s2 name2 n2 (.slice ao2 k2 c2)).toList j (.int .i64 z)) | (refine wpList_store_row rfl 34 _ _ rfl (w.heap.size+1) (Ad 0 zero noW noW 0 (.slice none 0 0)) ?_ ?_ 34 (Ad 0 zero noW noW 0 (.slice none 0 0)) ?_ ?_ ?_ ?_ ?_;exact rfl;exact rfl;exact hZ2;exact Ai;exact rfl;exact hone0) | (refine wpList_store_mid rfl 34 _ _ rfl (w.heap.size+1+1) (j*8) (Ad op2 ⟨x2k,x2n,x2s⟩ s2 name2 n2 (.slice ao2 k2 c2)) ?_ ?_ ?_ ?_ ?_ ?_;exact rfl;exact rfl;exact mt;exact Ai;exact hone))
     have hbw1 :Below w.heap.size w w1 :=hbel.trans (hbT.mono hbel.size)
     exact bodyPost_ret (v := .tuple #[.agg (Ad 0 zero noW noW 0 (.slice none 0 0)), .int .i64 0, .int .i64 3]) (Ay Tryz.results120 _ _ (w.heap.size+1) 34 _ _ _ _ _ rfl rfl rfl (An hZ2) Tryz.underlying34 rfl Ai) rfl ⟨⟨_,rfl,(A9 HE.out).2 rfl⟩,Below.row ((Ct (show w.heap.size≤w.heap.size+1+1 by omega) _ _ _ hbw1).setCell (show w.heap.size≤w.heap.size+1+1+1 by omega) _) (by omega) _⟩
    ·have HI2 :=HI.mono (R' :=fun e w'=> ∃ (op :Int) (x :V) (s name :Wd) (n :Int) (ao :Option Addr) (k c :Nat) (z :Int),e= .returned (.tuple #[.agg (Ad op x s name n (.slice ao k c)), .int .i64 z, .int .i64 5]) ∧IsE (Fr (w.heap.size+4)) w' (.mk 0 zero noW noW 0 []) (.agg (Ad op x s name n (.slice ao k c))) ∧Below (wr.heap.size+1) (wr.alloc (.cells (Ad op' ⟨xk',xn',xs'⟩ s' name' n' (.slice ao' k' c')) 34)) w') (by
      rintro e w' ⟨⟨v,rfl,hv⟩,hb'⟩
      obtain rfl := (A9 hbr).1 hv
      exact ⟨0,zero,noW,noW,0,none,0,0,0,rfl,Dn fun _=>rfl,by simpa using hb'⟩)
     have HE :Hid (A3 S (.mk op ⟨xk,xn,xs⟩ s name n l) = .error 5) :=by
      show _=_
      have hs :Bb S (l.take (j+1)) = .error 5 :=by rw [HT.out,Ei,HQ.out,hbr]
      have :=E5 S (l.take (j+1)) (l.drop (j+1)) 5 hs
      rw [List.take_append_drop] at this
      rw [HB.out,this]
     have hone0 :=A8 0 zero noW noW 0 none 0 0
     clear HI hbr HB HQ HL HT q2
     go_wp2_with (first | (go_at_call 120;refine HI2.mono ?_;rintro e w1 ⟨op2,x2,s2,name2,n2,ao2,k2,c2,z,rfl,hE2,hb1⟩;obtain ⟨x2k,x2n,x2s⟩ :=x2;have hbT :=Ak hbx (by simpa using hb1);obtain ⟨mt,⟨u,mu⟩,mf,mm1,mm2⟩ :=Lg (ty :=z) hM1 hM2 hbT hjl l1 l2 hE2;have hone :=A8 op2 ⟨x2k,x2n,x2s⟩ s2 name2 n2 ao2 k2 c2;have hZ2 :=To (g :=w.heap.size) hlt1 (by omega) hbT hZ (j*8) (Ad op2 ⟨x2k,x2n,x2s⟩ s2 name2 n2 (.slice ao2 k2 c2)).toList j (.int .i64 z)) | (refine wpList_store_row rfl 34 _ _ rfl (w.heap.size+1) (Ad 0 zero noW noW 0 (.slice none 0 0)) ?_ ?_ 34 (Ad 0 zero noW noW 0 (.slice none 0 0)) ?_ ?_ ?_ ?_ ?_;exact rfl;exact rfl;exact hZ2;exact Ai;exact rfl;exact hone0) | (refine wpList_store_mid rfl 34 _ _ rfl (w.heap.size+1+1) (j*8) (Ad op2 ⟨x2k,x2n,x2s⟩ s2 name2 n2 (.slice ao2 k2 c2)) ?_ ?_ ?_ ?_ ?_ ?_;exact rfl;exact rfl;exact mt;exact Ai;exact hone))
     have hbw1 :Below w.heap.size w w1 :=hbel.trans (hbT.mono hbel.size)
     exact bodyPost_ret (v := .tuple #[.agg (Ad 0 zero noW noW 0 (.slice none 0 0)), .int .i64 0, .int .i64 5]) (Ay Tryz.results120 _ _ (w.heap.size+1) 34 _ _ _ _ _ rfl rfl rfl (An hZ2) Tryz.underlying34 rfl Ai) rfl ⟨⟨_,rfl,(A9 HE.out).2 rfl⟩,Below.row ((Ct (show w.heap.size≤w.heap.size+1+1 by omega) _ _ _ hbw1).setCell (show w.heap.size≤w.heap.size+1+1+1 by omega) _) (by omega) _⟩
   ·have HI2 :=HI.mono (R' :=fun e w'=> ∃ (op :Int) (x :V) (s name :Wd) (n :Int) (ao :Option Addr) (k c :Nat),e= .returned (.tuple #[.agg (Ad op x s name n (.slice ao k c)), .int .i64 r.2, .int .i64 0]) ∧IsE (Fr (w.heap.size+4)) w' r.1 (.agg (Ad op x s name n (.slice ao k c))) ∧Below (wr.heap.size+1) (wr.alloc (.cells (Ad op' ⟨xk',xn',xs'⟩ s' name' n' (.slice ao' k' c')) 34)) w') (by
     rintro e w' ⟨⟨v,rfl,hv⟩,hb'⟩
     obtain ⟨op,x,s,name,n,ao,k,c,rfl,hE'⟩ := (Bi hbr).1 hv
     exact ⟨op,x,s,name,n,ao,k,c,rfl,IsE.mono (fun k _ hk=>by exact Nat.le_trans (by simp;omega) hk) _ _ hE',by simpa using hb'⟩)
    have HBR :Hid (A3 S a= .ok r) :=hbr
    clear HI hbr
    have HS :Hid (Bb S (l.take (j+1)) = .ok (rs++ [r])) :=by show _=_;rw [HT.out,Ei,HQ.out,HBR.out]
    have HL2 :Hid ((rs++ [r]).length=j+1) :=by show _=_;rw [List.length_append,q2];rfl
    clear HQ HL HT HBR q2
    go_wp2_with (first | (go_at_call 120;refine HI2.mono ?_;rintro e w1 ⟨op2,x2,s2,name2,n2,ao2,k2,c2,rfl,hE2,hb1⟩;obtain ⟨r1,r2⟩ :=r;obtain ⟨x2k,x2n,x2s⟩ :=x2;have hbT :=Ak hbx (by simpa using hb1);obtain ⟨mt,⟨u,mu⟩,mf,mm1,mm2⟩ :=Lg (ty :=r2) hM1 hM2 hbT hjl l1 l2 hE2;have hone :=A8 op2 ⟨x2k,x2n,x2s⟩ s2 name2 n2 ao2 k2 c2) | (refine wpList_store_mid rfl 34 _ _ rfl (w.heap.size+1+1) (j*8) (Ad op2 ⟨x2k,x2n,x2s⟩ s2 name2 n2 (.slice ao2 k2 c2)) ?_ ?_ ?_ ?_ ?_ ?_;exact rfl;exact rfl;exact mt;exact Ai;exact hone))
    have hbw1 :Below w.heap.size w w1 :=hbel.trans (hbT.mono hbel.size)
    go_roundw
    case rel=>exact ⟨j+1,rs++ [(r1,r2)],by omega,by go_num,HS,HL2,(Below.heap_setCell _ _ _ _ (show w.heap.size≠w.heap.size+1+1+1 by omega)).trans ((Be (show w.heap.size≠w.heap.size+1+1 by omega) _ _ _).trans ((hbT.block _ hlt0).trans hE)),(Below.heap_setCell _ _ _ _ (show w.heap.size+1≠w.heap.size+1+1+1 by omega)).trans ((Be (show w.heap.size+1≠w.heap.size+1+1 by omega) _ _ _).trans ((hbT.block _ hlt1).trans hZ)),by rw [List.map_append];exact mm1,by rw [List.map_append];exact mm2,(Ct (show w.heap.size≤w.heap.size+1+1 by omega) _ _ _ hbw1).setCell (show w.heap.size≤w.heap.size+1+1+1 by omega) _,by have :=hbT.size;simp [Bp];omega⟩
    case measure=>simp [intOf];omega
  ·have hjl2 :j=l.length :=by omega
   subst hjl2
   have hlt0 :=lt_of_block hE
   have hlt1 :=lt_of_block hZ
   have q2 :=HL.out
   have HQ2 :Hid (Bb S l= .ok rs) :=by
    have :=HQ.out
    rw [List.take_length] at this
    exact this
   have hw1 :IsL As (Fr (w.heap.size+2)) wr (.slice (some ⟨w.heap.size+1+1,0,none⟩) l.length l.length) (rs.map Prod.fst) :=hM1.whole (by rw [List.length_map];exact q2) (fun k hk=>Nat.le_trans (by omega) hk) (show w.heap.size+2≤w.heap.size+1+1 by omega) (Nat.le_trans hl2 (by decide))
   have hw2 :IsL Gu (Fr w.heap.size) wr (.slice (some ⟨w.heap.size+1+1+1,0,none⟩) l.length l.length) (rs.map Prod.snd) :=hM2.whole (by rw [List.length_map];exact q2) (fun k hk=>Nat.le_trans (by omega) hk) (show w.heap.size≤w.heap.size+1+1+1 by omega) (Nat.le_trans hl2 (by decide))
   have HF :=Zj op (rs.map Prod.snd) _ _ wr hw2
   have e0 :=Aa hE (j :=0) rfl
   have hone0 :=A8 0 zero noW noW 0 none 0 0
   clear q2 hM1 hM2 hw2 HQ HL ih hg he hl
   cases hfb :I4 op (rs.map Prod.snd)
   ·rw [hfb] at HF
    have HE :Hid (A3 S (.mk op ⟨xk,xn,xs⟩ s name n l) = .error 5) :=by
     show _=_
     rw [HB.out,HQ2.out]
     simp only [hfb]
     rfl
    clear HB HQ2 hfb hw1
    go_wp2_with (first | (go_at_call 131;go_fit HF;rintro e w1 ⟨rfl,hb1⟩;have hZ1 := (hb1.block _ hlt1).trans hZ) | (refine wpList_store_row rfl 34 _ _ rfl (w.heap.size+1) (Ad 0 zero noW noW 0 (.slice none 0 0)) ?_ ?_ 34 (Ad 0 zero noW noW 0 (.slice none 0 0)) ?_ ?_ ?_ ?_ ?_;exact rfl;exact rfl;exact hZ1;exact Ai;exact rfl;exact hone0))
    exact bodyPost_ret (v := .tuple #[.agg (Ad 0 zero noW noW 0 (.slice none 0 0)), .int .i64 0, .int .i64 5]) (Ay Tryz.results120 _ _ (w.heap.size+1) 34 _ _ _ _ _ rfl rfl rfl (An hZ1) Tryz.underlying34 rfl Ai) rfl ⟨⟨_,rfl,(A9 HE.out).2 rfl⟩,Below.row (hbel.trans (hb1.mono hbel.size)) (by omega) _⟩
   ·rw [hfb] at HF
    have HE :Hid (A3 S (.mk op ⟨xk,xn,xs⟩ s name n l) = .ok (.mk op ⟨xk,xn,xs⟩ s name n (rs.map Prod.fst),Gw op)) :=by
     show _=_
     rw [HB.out,HQ2.out]
     simp only [hfb]
     rfl
    have HT :=fun W=>T5 op W
    generalize hty :Gw op=ty at HT HE
    clear HB HQ2 hfb hty
    go_wp2_with (first | (go_at_call 131;go_fit HF;rintro e w1 ⟨rfl,hb1⟩;have hZ1 := (hb1.block _ hlt1).trans hZ;have hE1 := (hb1.block _ hlt0).trans hE;have g7 :=Aa hE1 (j :=7) rfl;have f7 :w1.frozen? ⟨w.heap.size,7,none⟩ =false :=by simp [World.frozen?,hE1]))
    have hEW : (w1.setCell ⟨w.heap.size,7,none⟩ (.slice (some ⟨w.heap.size+1+1,0,none⟩) l.length l.length)).heap[w.heap.size]? =some (.cells (Ad op ⟨xk,xn,xs⟩ s name n (.slice (some ⟨w.heap.size+1+1,0,none⟩) l.length l.length)) 34) :=Cl hE1 7 _
    have hZW : (w1.setCell ⟨w.heap.size,7,none⟩ (.slice (some ⟨w.heap.size+1+1,0,none⟩) l.length l.length)).heap[w.heap.size+1]? =some (.cells (Ad 0 zero noW noW 0 (.slice none 0 0)) 34) := (Below.heap_setCell _ _ _ _ (show w.heap.size+1≠w.heap.size by omega)).trans hZ1
    have hbW :Below w.heap.size w (w1.setCell ⟨w.heap.size,7,none⟩ (.slice (some ⟨w.heap.size+1+1,0,none⟩) l.length l.length)) := (hbel.trans (hb1.mono hbel.size)).setCell (Nat.le_refl _) _
    have hwW :IsL As (Fr (w.heap.size+2)) (w1.setCell ⟨w.heap.size,7,none⟩ (.slice (some ⟨w.heap.size+1+1,0,none⟩) l.length l.length)) (.slice (some ⟨w.heap.size+1+1,0,none⟩) l.length l.length) (rs.map Prod.fst) :=hw1.keep ((Ar hb1).trans ((Keeps.refl _ _).set (show ¬w.heap.size+2≤w.heap.size by omega) _ _))
    generalize w1.setCell ⟨w.heap.size,7,none⟩ (.slice (some ⟨w.heap.size+1+1,0,none⟩) l.length l.length) =W at hEW hZW hbW hwW⊢
    have S0 :=Jd hEW
    clear hE1 hZ1 g7 f7 hb1 hw1 hE hZ hlt0 hlt1 hbel
    have honeL :=A8 op ⟨xk,xn,xs⟩ s name n (some ⟨w.heap.size+1+1,0,none⟩) l.length l.length
    refine wp_region_held_drew (S := (fun w'=>I6 w' w.heap.size op xk xn xs s name n (.slice (some ⟨w.heap.size+1+1,0,none⟩) l.length l.length))) (by kernel_rfl) ?_ (fun hHeld=> ?_)
    ·exact S0
    refine wpAnyH_take (i :=0) (v := ?_) rfl (by kernel_rfl) (by kernel_rfl) (by kernel_rfl) (fun _ _ _ h=>h) (Or.inl ⟨by rfl, ?_⟩) (by assumption) ?_
    rotate_left
    ·intro W' hSw;obtain ⟨a0,a1,a2,a3,a4,a5,a6,a7⟩ :=hSw;go_simp;all_goals (with_reducible rfl)
    refine wpAnyH_take (i :=1) (v := ?_) rfl (by kernel_rfl) (by kernel_rfl) (by kernel_rfl) (fun _ _ _ h=>h) (Or.inl ⟨by rfl, ?_⟩) (by assumption) ?_
    rotate_left
    ·intro W' hSw;obtain ⟨a0,a1,a2,a3,a4,a5,a6,a7⟩ :=hSw;go_simp;all_goals (with_reducible rfl)
    refine wpAnyH_take (i :=2) (v := ?_) rfl (by kernel_rfl) (by kernel_rfl) (by kernel_rfl) (fun _ _ _ h=>h) (Or.inl ⟨by rfl, ?_⟩) (by assumption) ?_
    rotate_left
    ·intro W' hSw;obtain ⟨a0,a1,a2,a3,a4,a5,a6,a7⟩ :=hSw;go_simp;all_goals (with_reducible rfl)
    refine wpAnyH_ready (rs := [3]) (by kernel_rfl) (by simp) ?_
    refine (AllReadyH.cons rfl (fun K hK=> ?_) AllReadyH.nil)
    go_simp
    (go_at_call 132;refine (HT _).mono ?_;rintro e w2 ⟨rfl,rfl⟩)
    go_wp2_with fail
    refine hK.out _ _ ?_ (fun hHeld=> ?_)
    ·exact hHeld
    clear hK K
    refine wpAnyH_ready (rs := [4]) (by kernel_rfl) (by simp) ?_
    refine (AllReadyH.cons rfl (fun K hK=> ?_) AllReadyH.nil)
    refine At rfl 34 _ _ rfl (w.heap.size+1) (Ad op ⟨xk,xn,xs⟩ s name n (.slice (some ⟨w.heap.size+1+1,0,none⟩) l.length l.length)) ?_ ?_ 34 (Ad 0 zero noW noW 0 (.slice none 0 0)) ?_ ?_ ?_ ?_ ?_;exact rfl;exact rfl;exact hZW;exact Ai;exact rfl;exact honeL
    refine hK.out _ _ ?_ (fun hHeld=> ?_)
    ·exact hHeld.row (by omega) _
    clear hK K
    try simp only [Act.put]
    refine wpAnyH_take (i :=5) (v := ?_) rfl (by kernel_rfl) (by kernel_rfl) (by kernel_rfl) (fun _ _ _ h=>h) (Or.inl ⟨by rfl, ?_⟩) (by assumption) ?_
    rotate_left
    ·intro W' hSw;obtain ⟨a0,a1,a2,a3,a4,a5,a6,a7⟩ :=hSw;go_simp;all_goals (with_reducible rfl)
    refine wpAnyH_take (i :=6) (v := ?_) rfl (by kernel_rfl) (by kernel_rfl) (by kernel_rfl) (fun _ _ _ h=>h) (Or.inl ⟨by rfl, ?_⟩) (by assumption) ?_
    rotate_left
    ·intro W' hSw;obtain ⟨a0,a1,a2,a3,a4,a5,a6,a7⟩ :=hSw;go_simp;all_goals (with_reducible rfl)
    refine wpAnyH_done (by kernel_rfl) ?_ _
    go_wp2_with fail
    have hwF := (hwW.keep ((Keeps.refl _ W).drew.row (show ¬w.heap.size+2≤w.heap.size+1 by omega) (Ad op ⟨xk,xn,xs⟩ s name n (.slice (some ⟨w.heap.size+1+1,0,none⟩) l.length l.length)))).mono (F' :=Fr w.heap.size) (fun k _ hk=>Nat.le_trans (by omega) hk)
    exact bodyPost_ret (v := .tuple #[.agg (Ad op ⟨xk,xn,xs⟩ s name n (.slice (some ⟨w.heap.size+1+1,0,none⟩) l.length l.length)), .int .i64 ty, .int .i64 0]) (Ay Tryz.results120 _ _ (w.heap.size+1) 34 _ _ _ _ _ rfl rfl rfl (An hZW) Tryz.underlying34 rfl Ai) rfl ⟨⟨_,rfl,(Bi HE.out).2 ⟨op,⟨xk,xn,xs⟩,s,name,n,_,_,_,rfl,Dd (Abf.1 hwF)⟩⟩,Below.row hbW.drew (by omega) _⟩
theorem Vn {d :Nat} {op :Int} {x :V} {s name :Wd} {n :Int} {l :List E} (h :geB (d+1) (.mk op x s name n l) =true) : (∀a∈l,geB d a=true) ∧l.length≤2∧ (op=1∨op=2→l= []) :=by
 simp only [geB,Bool.and_eq_true,decide_eq_true_eq,List.all_eq_true] at h
 obtain ⟨⟨h1,_⟩,h3⟩ :=h
 refine ⟨h3, ?_,fun ho=> ?_⟩
 ·unfold Fd at h1
  split at h1
  ·omega
  ·split at h1
   ·omega
   ·split at h1<;>omega
 ·rw [Fd,if_pos ho] at h1
  exact List.eq_nil_of_length_eq_zero (by omega)
theorem M6 (S :List TabD) (hS :S.length≤1000) (hsc : ∀t∈S,t.cols.length≤1000000) : ∀d,Qy S d
 | 0=>by
  intro e v sv C w _ _ _ hg
  simp [geB] at hg
 | d+1=>by
  intro e v sv C w he hl hC hg
  obtain ⟨op,x,s,name,n,l⟩ :=e
  obtain ⟨sv8,rfl,hEs⟩ :=he.open
  obtain ⟨h3,h2,h0⟩ :=Vn hg
  have hL :=Abf.2 hEs
  obtain ⟨ao,c,rfl⟩ :=hL.shape
  by_cases o1 :op=1
  ·subst o1
   obtain rfl :=h0 (.inl rfl)
   exact Xr S sv x s name n ao c w (I5 he).2 (El hl)
  ·by_cases o2 :op=2
   ·subst o2
    obtain rfl :=h0 (.inr rfl)
    exact Xs S sv x s name n ao c C w (I5 he).2 hl hC hS hsc
   ·exact Zk S d (M6 S hS hsc d) sv op x s name n l ao c C w o1 o2 hL hl hC h3 h2
end Go.Proofs.YtmgkcjiejmhgcaaGreatDoor

namespace Go.Proofs.YtmgkcjiejmhgcaaGreatDoor
open Go.RowKit Go.Maps
def asR (S :List TabD) (want :Int) (e :E) :Except Int E :=
 match A3 S e with
 | .error m=> .error m
 | .ok r=>if Dg r.2 want then .ok r.1 else .error 5
theorem Ft {S :List TabD} {want :Int} {e :E} {m :Int} (h :asR S want e= .error m) :m=3∨m=5 :=by
 unfold asR at h
 cases hb :A3 S e with
 | error k=>
  rw [hb] at h
  obtain rfl :=Except.error.inj h
  exact Ew S e _ hb
 | ok r=>
  rw [hb] at h
  simp only at h
  split at h
  ·cases h
  ·exact .inr (Except.error.inj h).symm
def Mc (R :Except Int E) (F :Nat→Prop) (w' :World) (v :Value) :Prop :=
 match R with
 | .error m=>v= .tuple #[.agg (Ad 0 zero noW noW 0 (.slice none 0 0)), .int .i64 m]
 | .ok e=> ∃ (op :Int) (x :V) (s name :Wd) (n :Int) (ao :Option Addr) (k c :Nat),v= .tuple #[.agg (Ad op x s name n (.slice ao k c)), .int .i64 0] ∧IsE F w' e (.agg (Ad op x s name n (.slice ao k c)))
theorem Qz (w :World) (o1 o2 :Obj) {w1 :World} (hb :Below ((w.alloc o1).alloc o2).heap.size ((w.alloc o1).alloc o2) w1) (o3 :Obj) : (w1.alloc o3).heap[w.heap.size+1]? =some o2 :=
 Ae ((hb.block _ (by simp)).trans (A0 w o1 o2)) _
set_option maxRecDepth 100000 in
set_option maxHeartbeats 4000000 in
theorem J7 (S :List TabD) (hS :S.length≤1000) (hsc : ∀t∈S,t.cols.length≤1000000) (d :Nat) (want :Int) (e :E) (v sv :Value) (C :Nat) (w :World) (he :IsE (fun k=>k<C) w e v) (hl :IsL A4 (fun k=>k<C) w sv S) (hC :C≤w.heap.size) (hg :geB d e=true) :
  Calls Tryz.prog 118 #[sv, .int .i64 want,v] w fun r w'=> (∃u,r= .returned u∧Mc (asR S want e) (Fr w.heap.size) w' u) ∧Below w.heap.size w w' :=by
 obtain ⟨so,sc,rfl⟩ :=hl.shape
 obtain ⟨op',⟨xk',xn',xs'⟩,s',name',n',ao',k',c',rfl⟩ : ∃ (op :Int) (x :V) (s name :Wd) (n :Int) (ao :Option Addr) (k c :Nat),v= .agg (Ad op x s name n (.slice ao k c)) :=by
  obtain ⟨op,x,s,name,n,l⟩ :=e
  obtain ⟨sv8,rfl,hEs⟩ :=he.open
  obtain ⟨ao,c,rfl⟩ := (Abf.2 hEs).shape
  exact ⟨op,x,s,name,n,ao,_,c,rfl⟩
 have hb2 :=Bz w (.cells (Ad op' ⟨xk',xn',xs'⟩ s' name' n' (.slice ao' k' c')) 34) (.cells (Ad 0 zero noW noW 0 (.slice none 0 0)) 34)
 have HI :=M6 S hS hsc d e _ (.slice so S.length sc) C _ (IsE.keep (Ag (hb2.mono hC)) _ _ he) (hl.keep (Ag (hb2.mono hC))) (Nat.le_trans hC hb2.size) hg
 have hone0 :=A8 0 zero noW noW 0 none 0 0
 clear he hl hg hS hsc
 rcases hbr :A3 S e with m | r
 ·have HA :Hid (asR S want e= .error m) :=by show _=_;unfold asR;rw [hbr]
  have hm :=Ew S e m hbr
  have HI2 :=HI.mono (R' :=fun r w'=> ∃ (op :Int) (x :V) (s name :Wd) (n :Int) (ao :Option Addr) (k c :Nat) (z :Int),r= .returned (.tuple #[.agg (Ad op x s name n (.slice ao k c)), .int .i64 z, .int .i64 m]) ∧Below ((w.alloc (.cells (Ad op' ⟨xk',xn',xs'⟩ s' name' n' (.slice ao' k' c')) 34)).alloc (.cells (Ad 0 zero noW noW 0 (.slice none 0 0)) 34)).heap.size ((w.alloc (.cells (Ad op' ⟨xk',xn',xs'⟩ s' name' n' (.slice ao' k' c')) 34)).alloc (.cells (Ad 0 zero noW noW 0 (.slice none 0 0)) 34)) w') (by
   rintro e w' ⟨⟨v,rfl,hv⟩,hb'⟩
   obtain rfl := (A9 hbr).1 hv
   exact ⟨0,zero,noW,noW,0,none,0,0,0,rfl,hb'⟩)
  clear HI hbr
  rcases hm with rfl | rfl
  all_goals
   go_enter Tryz.func118,Tryz.ntmps118
   go_wp2_with (first | (go_at_call 120;refine HI2.mono ?_;rintro e w1 ⟨op2,x2,s2,name2,n2,ao2,k2,c2,z,rfl,hb1⟩;obtain ⟨x2k,x2n,x2s⟩ :=x2;have hZ :=fun o3=>Qz w _ _ hb1 o3;have hbT :=Ak hb2 hb1) | (refine wpList_store_row rfl 34 _ _ rfl (w.heap.size+1) (Ad 0 zero noW noW 0 (.slice none 0 0)) ?_ ?_ 34 (Ad 0 zero noW noW 0 (.slice none 0 0)) ?_ ?_ ?_ ?_ ?_;exact rfl;exact rfl;exact hZ _;exact Ai;exact rfl;exact hone0))
   refine bodyPost_ret (A2 Tryz.results118 _ _ (w.heap.size+1) 34 _ _ _ _ rfl rfl (An (hZ _)) Tryz.underlying34 rfl Ai) rfl ⟨⟨_,rfl, ?_⟩,Below.row (hbT.alloc hbT.size _) (by omega) _⟩
   rw [HA.out]
   rfl
 ·obtain ⟨e2,ty⟩ :=r
  have HA :Hid (asR S want e=if Dg ty want then .ok e2 else .error 5) :=by show _=_;unfold asR;rw [hbr]
  have HI2 :=HI.mono (R' :=fun r w'=> ∃ (op :Int) (x :V) (s name :Wd) (n :Int) (ao :Option Addr) (k c :Nat),r= .returned (.tuple #[.agg (Ad op x s name n (.slice ao k c)), .int .i64 ty, .int .i64 0]) ∧IsE (Fr (w.heap.size+2)) w' e2 (.agg (Ad op x s name n (.slice ao k c))) ∧Below ((w.alloc (.cells (Ad op' ⟨xk',xn',xs'⟩ s' name' n' (.slice ao' k' c')) 34)).alloc (.cells (Ad 0 zero noW noW 0 (.slice none 0 0)) 34)).heap.size ((w.alloc (.cells (Ad op' ⟨xk',xn',xs'⟩ s' name' n' (.slice ao' k' c')) 34)).alloc (.cells (Ad 0 zero noW noW 0 (.slice none 0 0)) 34)) w') (by
   rintro e w' ⟨⟨v,rfl,hv⟩,hb'⟩
   obtain ⟨op,x,s,name,n,ao,k,c,rfl,hE'⟩ := (Bi hbr).1 hv
   exact ⟨op,x,s,name,n,ao,k,c,rfl,IsE.mono (fun k _ hk=>Nat.le_trans (by simp) hk) _ _ hE',hb'⟩)
  have HC :=fun W=>Ld ty want W
  clear HI hbr
  generalize Dg ty want=cb at HA HC
  cases cb
  ·go_enter Tryz.func118,Tryz.ntmps118
   go_wp2_with (first | (go_at_call 120;refine HI2.mono ?_;rintro e w1 ⟨op2,x2,s2,name2,n2,ao2,k2,c2,rfl,hE,hb1⟩;obtain ⟨x2k,x2n,x2s⟩ :=x2;have hZ :=fun o3=>Qz w _ _ hb1 o3;have hbT :=Ak hb2 hb1) | (go_at_call 129;refine (HC _).mono ?_;rintro e w2 ⟨rfl,rfl⟩) | (refine wpList_store_row rfl 34 _ _ rfl (w.heap.size+1) (Ad 0 zero noW noW 0 (.slice none 0 0)) ?_ ?_ 34 (Ad 0 zero noW noW 0 (.slice none 0 0)) ?_ ?_ ?_ ?_ ?_;exact rfl;exact rfl;exact hZ _;exact Ai;exact rfl;exact hone0))
   refine bodyPost_ret (A2 Tryz.results118 _ _ (w.heap.size+1) 34 _ _ _ _ rfl rfl (An (hZ _)) Tryz.underlying34 rfl Ai) rfl ⟨⟨_,rfl, ?_⟩,Below.row (hbT.alloc hbT.size _) (by omega) _⟩
   rw [HA.out]
   rfl
  ·go_enter Tryz.func118,Tryz.ntmps118
   go_wp2_with (first | (go_at_call 120;refine HI2.mono ?_;rintro e w1 ⟨op2,x2,s2,name2,n2,ao2,k2,c2,rfl,hE,hb1⟩;obtain ⟨x2k,x2n,x2s⟩ :=x2;have hZ :=fun o3=>Qz w _ _ hb1 o3;have hbT :=Ak hb2 hb1;have honeL :=A8 op2 ⟨x2k,x2n,x2s⟩ s2 name2 n2 ao2 k2 c2) | (go_at_call 129;refine (HC _).mono ?_;rintro e w2 ⟨rfl,rfl⟩) | (refine wpList_store_row rfl 34 _ _ rfl (w.heap.size+1) (Ad op2 ⟨x2k,x2n,x2s⟩ s2 name2 n2 (.slice ao2 k2 c2)) ?_ ?_ 34 (Ad 0 zero noW noW 0 (.slice none 0 0)) ?_ ?_ ?_ ?_ ?_;exact rfl;exact rfl;exact hZ _;exact Ai;exact rfl;exact honeL))
   refine bodyPost_ret (A2 Tryz.results118 _ _ (w.heap.size+1) 34 _ _ _ _ rfl rfl (An (hZ _)) Tryz.underlying34 rfl Ai) rfl ⟨⟨_,rfl, ?_⟩,Below.row (hbT.alloc hbT.size _) (by omega) _⟩
   rw [HA.out]
   refine ⟨op2,⟨x2k,x2n,x2s⟩,s2,name2,n2,ao2,k2,c2,rfl, ?_⟩
   exact IsE.mono (fun k _ hk=>Nat.le_trans (by omega) hk) _ _ (IsE.keep (((Keeps.refl _ _).alloc _).row (show ¬w.heap.size+2≤w.heap.size+1 by omega) _) _ _ hE)
end Go.Proofs.YtmgkcjiejmhgcaaGreatDoor

