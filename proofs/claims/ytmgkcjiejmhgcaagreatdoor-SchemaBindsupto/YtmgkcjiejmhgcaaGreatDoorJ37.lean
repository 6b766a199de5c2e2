/-
  1 texts of this proof in one, in build order: BWith.
-/
import Derived.Deep.Cut
import Derived.Deep.DeepCutAuto
import Derived.Test.YtmgkcjiejmhgcaaGreatDoorJ14
import Derived.Test.YtmgkcjiejmhgcaaGreatDoorJ36
set_option linter.unusedSimpArgs false
set_option linter.unusedVariables false
namespace Go.Proofs.YtmgkcjiejmhgcaaGreatDoor
open Go.RowKit Go.Maps
theorem Kl {α :Type} {nm :α→Wd} {ins :Bool} {x :α} {keep :α→Bool} {r :List α} {pb :Bool} {t :α} (b :Bool) (hb : (ins&& !pb&& !klt (nm t) (nm x)) =b) :E4 nm ins x keep (r,pb) t= (r++ (if b then [x] else []) ++ (if keep t then [t] else []),pb || b) :=by
 rw [E4]
 simp only [hb]
 cases ins<;>cases pb<;>simp_all
theorem Aau (w :World) (o1 o2 o3 o4 :Obj) : ((((w.alloc o1).alloc o2).alloc o3).alloc o4).heap[w.heap.size+3]? =some o4 :=by
 have :=Ab (((w.alloc o1).alloc o2).alloc o3) o4
 rwa [show (((w.alloc o1).alloc o2).alloc o3).heap.size=w.heap.size+3 from by simp] at this
set_option maxRecDepth 100000 in
set_option maxHeartbeats 16000000 in
theorem Tc (T :List TabD) (I :List IdxD) (v :Value) (st :Stm) (c :List Value) (C :Nat) (w :World) (hcat :Bh (fun k=>k<C) w ⟨T,I⟩ v) (hst :Abs.R (fun k=>k<C) w st c) (hC :C≤w.heap.size) (hlT :T.length≤1000000) (hlI :I.length≤1000000)
  (hrT :Dj (T.map TabD.name)) (hrI :Dj (I.map IdxD.name)) :
  Calls Tryz.prog 20 #[v, .agg c.toArray] w (Hg (Jg ⟨T,I⟩ st) C w) :=by
 obtain ⟨tv,iv,rfl,hl,hi⟩ :=hcat
 simp only at hl hi
 obtain ⟨to',tc,rfl⟩ :=hl.shape
 obtain ⟨io,ic,rfl⟩ :=hi.shape
 obtain ⟨o1,c1,o2,c2,o3,c3,o4,c4,o5,c5,op,xk,xn,xs,s,nmv,n8,o6,k6,c6,o7,c7,rfl,i1,_⟩ :=Cy hst
 rw [Array.toArray_toList]
 obtain ⟨i0,ii0,iz0,iz1,iz2⟩ :=info_parts Pi
 obtain ⟨iT,ti0,tz0,tz1,tz2⟩ :=info_parts Pj
 have hb4 :Below w.heap.size w ((((w.alloc (.cells #[.slice to' T.length tc, .slice io I.length ic] 25)).alloc (.cells (sA st.kind st.name st.table st.col (.slice o1 st.cols.length c1) (.slice o2 st.rows.length c2) (.slice o3 st.sets.length c3) (.slice o4 st.frm.length c4) (.slice o5 st.out.length c5) op xk xn xs s nmv n8 (.slice o6 k6 c6) (.slice o7 st.order.length c7) st.down st.n) 36)).alloc (.cells #[.slice none 0 0, .slice none 0 0] 25)).alloc (.cells #[.slice none 0 0, .slice none 0 0] 25)) := (Fc _ _ _ _).alloc (by simp;omega) _
 have b0 :=Ae (Ae (Ae (Ab w (.cells #[.slice to' T.length tc, .slice io I.length ic] 25)) (.cells (sA st.kind st.name st.table st.col (.slice o1 st.cols.length c1) (.slice o2 st.rows.length c2) (.slice o3 st.sets.length c3) (.slice o4 st.frm.length c4) (.slice o5 st.out.length c5) op xk xn xs s nmv n8 (.slice o6 k6 c6) (.slice o7 st.order.length c7) st.down st.n) 36)) (.cells #[.slice none 0 0, .slice none 0 0] 25)) (.cells #[.slice none 0 0, .slice none 0 0] 25)
 have b1 :=Ae (Ae (A0 w (.cells #[.slice to' T.length tc, .slice io I.length ic] 25) (.cells (sA st.kind st.name st.table st.col (.slice o1 st.cols.length c1) (.slice o2 st.rows.length c2) (.slice o3 st.sets.length c3) (.slice o4 st.frm.length c4) (.slice o5 st.out.length c5) op xk xn xs s nmv n8 (.slice o6 k6 c6) (.slice o7 st.order.length c7) st.down st.n) 36)) (.cells #[.slice none 0 0, .slice none 0 0] 25)) (.cells #[.slice none 0 0, .slice none 0 0] 25)
 have b2 :=Ae (Dl w (.cells #[.slice to' T.length tc, .slice io I.length ic] 25) (.cells (sA st.kind st.name st.table st.col (.slice o1 st.cols.length c1) (.slice o2 st.rows.length c2) (.slice o3 st.sets.length c3) (.slice o4 st.frm.length c4) (.slice o5 st.out.length c5) op xk xn xs s nmv n8 (.slice o6 k6 c6) (.slice o7 st.order.length c7) st.down st.n) 36) (.cells #[.slice none 0 0, .slice none 0 0] 25)) (.cells #[.slice none 0 0, .slice none 0 0] 25)
 have b3 :=Aau w (.cells #[.slice to' T.length tc, .slice io I.length ic] 25) (.cells (sA st.kind st.name st.table st.col (.slice o1 st.cols.length c1) (.slice o2 st.rows.length c2) (.slice o3 st.sets.length c3) (.slice o4 st.frm.length c4) (.slice o5 st.out.length c5) op xk xn xs s nmv n8 (.slice o6 k6 c6) (.slice o7 st.order.length c7) st.down st.n) 36) (.cells #[.slice none 0 0, .slice none 0 0] 25) (.cells #[.slice none 0 0, .slice none 0 0] 25)
 have hW4s : ((((w.alloc (.cells #[.slice to' T.length tc, .slice io I.length ic] 25)).alloc (.cells (sA st.kind st.name st.table st.col (.slice o1 st.cols.length c1) (.slice o2 st.rows.length c2) (.slice o3 st.sets.length c3) (.slice o4 st.frm.length c4) (.slice o5 st.out.length c5) op xk xn xs s nmv n8 (.slice o6 k6 c6) (.slice o7 st.order.length c7) st.down st.n) 36)).alloc (.cells #[.slice none 0 0, .slice none 0 0] 25)).alloc (.cells #[.slice none 0 0, .slice none 0 0] 25)).heap.size=w.heap.size+4 :=by simp
 have h4 :w.heap.size+4≤ ((((w.alloc (.cells #[.slice to' T.length tc, .slice io I.length ic] 25)).alloc (.cells (sA st.kind st.name st.table st.col (.slice o1 st.cols.length c1) (.slice o2 st.rows.length c2) (.slice o3 st.sets.length c3) (.slice o4 st.frm.length c4) (.slice o5 st.out.length c5) op xk xn xs s nmv n8 (.slice o6 k6 c6) (.slice o7 st.order.length c7) st.down st.n) 36)).alloc (.cells #[.slice none 0 0, .slice none 0 0] 25)).alloc (.cells #[.slice none 0 0, .slice none 0 0] 25)).heap.size :=Nat.le_of_eq hW4s.symm
 clear hW4s
 generalize hW : ((((w.alloc (.cells #[.slice to' T.length tc, .slice io I.length ic] 25)).alloc (.cells (sA st.kind st.name st.table st.col (.slice o1 st.cols.length c1) (.slice o2 st.rows.length c2) (.slice o3 st.sets.length c3) (.slice o4 st.frm.length c4) (.slice o5 st.out.length c5) op xk xn xs s nmv n8 (.slice o6 k6 c6) (.slice o7 st.order.length c7) st.down st.n) 36)).alloc (.cells #[.slice none 0 0, .slice none 0 0] 25)).alloc (.cells #[.slice none 0 0, .slice none 0 0] 25)) =W0 at hb4 b0 b1 b2 b3 h4
 have HW :Hid _ :=hW
 clear hW hst
 have a0 :=Aa b0 (j :=0) rfl
 obtain ⟨pf,HPF⟩ : ∃p :List TabD×Bool,Hid (F3 TabD.name (decide (st.kind=1)) ⟨st.name,st.cols⟩ (fun y :TabD=> !(decide (st.kind=3) &&decide (y.name=st.name))) T=p) := ⟨_,rfl⟩
 go_enter Tryz.func20,Tryz.ntmps20
 go_upto_region 2 with fail
 rw [HW.out]
 go_wp2_with fail
 go_loopw [6,15] (fun pv i wr=> ∃ (k :Nat) (acc :List TabD) (zt :Value) (pb :Bool),k≤T.length∧i= .int .i64 k∧pv= .bool pb∧Hid (F3 TabD.name (decide (st.kind=1)) ⟨st.name,st.cols⟩ (fun y :TabD=> !(decide (st.kind=3) &&decide (y.name=st.name))) (T.take k) = (acc,pb)) ∧wr.heap[w.heap.size+3]? =some (.cells #[zt, .slice none 0 0] 25) ∧Bl A4 47 C W0.heap.size zt acc wr∧Gz (w.heap.size+3) W0.heap.size W0 wr∧Below w.heap.size w wr) (fun _ i _=>T.length - (intOf i).toNat)
 case atStart=>exact ⟨0,[],_,false,Nat.zero_le _,rfl,rfl,id rfl,b3,Ed _ _ _ _ _,Gz.refl _ _ _,hb4⟩
 case round=>
  obtain ⟨k,acc,zt,pb,hk,rfl,rfl,HA0,bG,hA,hbut,hbel⟩ :=hrel
  obtain ⟨V0,hV0⟩ : ∃V,V=wr := ⟨_,rfl⟩
  subst hV0
  obtain ⟨zo,zc,hzv⟩ :=hA.shape
  subst hzv
  have hal :acc.length≤2*k :=by
   have :=Nh TabD.name (decide (st.kind=1)) ⟨st.name,st.cols⟩ (fun y :TabD=> !(decide (st.kind=3) &&decide (y.name=st.name))) (T.take k) ([],false)
   rw [show (T.take k).foldl _ _=_ from HA0.out,List.length_take] at this
   simp only [List.length_nil] at this
   omega
  by_cases hlt :k<T.length
  ·obtain ⟨t,ht⟩ : ∃t,T[k]? =some t := ⟨_,List.getElem?_eq_getElem hlt⟩
   have HT0 :Hid (F3 TabD.name (decide (st.kind=1)) ⟨st.name,st.cols⟩ (fun y :TabD=> !(decide (st.kind=3) &&decide (y.name=st.name))) (T.take (k+1)) =E4 TabD.name (decide (st.kind=1)) ⟨st.name,st.cols⟩ (fun y :TabD=> !(decide (st.kind=3) &&decide (y.name=st.name))) (acc,pb) t) :=by show _=_;rw [Pv _ _ _ _ ht,HA0.out]
   obtain ⟨b,off,cs,hso,hbC,hbl,⟨cv,rfl,hcv⟩,hcell⟩ :=Av hl ht
   cases hso
   obtain ⟨co,cc,rfl⟩ :=hcv.shape
   have d0 := (hbel.cell (p := ⟨b,_,none⟩) hbl).trans (hcell 0 _ rfl)
   have d1 := (hbel.cell (p := ⟨b,_,none⟩) hbl).trans (hcell 1 _ rfl)
   simp only [A4,Nat.add_zero] at d0 d1
   have j0 : (0 :Int) ≤ (k :Int) :=by omega
   have j1 : (k :Int) < (T.length :Int) :=by omega
   have hbx :=Aq V0 (.cells #[.string t.name, .slice co t.cols.length cc] 47)
   have bT :=Ab V0 (.cells #[.string t.name, .slice co t.cols.length cc] 47)
   have hA1 :=hA.keepC (w' :=V0.alloc (.cells #[.string t.name, .slice co t.cols.length cc] 47)) (fun k _ hk=>hbx.block k hk) hbx.size
   have bG1 := (hbx.block _ (lt_of_block bG)).trans bG
   have hbut1 :=hbut.below (hbx.mono hbut.1)
   have hbel1 :=hbel.trans (hbx.mono hbel.size)
   have b1' := (hbut1.2 (w.heap.size+1) (by omega) (by omega)).trans b1
   have hgt :V0.heap.size≠w.heap.size+3 :=by have :=hbut.1;omega
   have hlA : ∀k,(Value.slice zo acc.length zc).ownBlock=some k→k<V0.heap.size :=by obtain ⟨cs0,hown0,_⟩ :=hA;exact fun k hk=> (hown0.lt k hk).2
   have HLA :Hid _ :=hlA
   clear hlA
   generalize hV1 :V0.alloc (.cells #[.string t.name, .slice co t.cols.length cc] 47) =V1 at*
   have HV1 :Hid _ :=hV1
   have s0 :=Aa b1' (j :=0) rfl
   have s1 :=Aa b1' (j :=1) rfl
   have s4 :=Aa b1' (j :=4) rfl
   have t0 :=Aa bT (j :=0) rfl
   have t1 :=Aa bT (j :=1) rfl
   clear hcell ht HA0 hV1 hA bG hbut hbel hbx
   have hA :=hA1
   have bG :=bG1
   have hbut :=hbut1
   have hbel :=hbel1
   clear hA1 bG1 hbut1 hbel1
   go_upto_region 6 with fail
   rw [HV1.out]
   by_cases hin :st.kind=1∧pb=false∧klt t.name st.name=false
   ·obtain ⟨h1,rfl,h3⟩ :=hin
    have HT :Hid (F3 TabD.name (decide (st.kind=1)) ⟨st.name,st.cols⟩ (fun y :TabD=> !(decide (st.kind=3) &&decide (y.name=st.name))) (T.take (k+1)) = (acc++ [⟨st.name,st.cols⟩] ++ (if (fun y :TabD=> !(decide (st.kind=3) &&decide (y.name=st.name))) t then [t] else []),true)) :=HT0.out.trans (Kl true (by simp [h1,h3]))
    have r1 : (st.kind==1) =true :=by simp [h1]
    have r2 :Op.bytesLess t.name.toList st.name.toList=false :=h3
    have hbX :Below w.heap.size w (V1.alloc (.cells [.string st.name, .slice o1 st.cols.length c1].toArray 47)) :=hbel.trans ((Aq _ _).mono hbel.size)
    clear HT0 h1 h3
    have hbN :=Aq V1 (.cells [.string st.name, .slice o1 st.cols.length c1].toArray 47)
    obtain ⟨cs0,hown0,hall0⟩ :=hA
    have hownN :=Az hown0 hbN
    have HALL :Hid _ :=hall0.keep (Ar hbN)
    have hnew :=Cp V1 [.string st.name, .slice o1 st.cols.length c1] 47
    have hbase :W0.heap.size≤ (V1.alloc (.cells [.string st.name, .slice o1 st.cols.length c1].toArray 47)).heap.size :=Nat.le_trans hbut.1 hbN.size
    have HRX :Hid (A4.R (FX C W0.heap.size (.slice zo acc.length zc)) (V1.alloc (.cells [.string st.name, .slice o1 st.cols.length c1].toArray 47)) ⟨st.name,st.cols⟩ [.string st.name, .slice o1 st.cols.length c1]) := ⟨_,rfl,IsL.mono (i1.keep (Ag (hbX.mono hC))) fun k _ h=> .inl h⟩
    have g0 :=Aa bG (j :=0) rfl
    go_wp2_with (first | (at_builtin;go_must (refine wpList_append_own_at _ rfl _ _ 22 rfl W0.heap.size 47 iT _ 2 40 Tryz.underlying22 ti0 tz0 tz1 tz2 rfl (by decide) _ _ _ rfl hownN ⟨V1.heap.size,0,none⟩ 1 1 [.string st.name, .slice o1 st.cols.length c1] rfl rfl ?p2h0 ?p2h1 (by simp only [maxLen];omega) (by omega) hbase ?p2h2)))
    try (case p2h0=>simpa using hnew)
    case p2h1=>first | (simp only [List.forall_mem_cons];repeat (first | exact fun _ h=>absurd h List.not_mem_nil | refine ⟨rfl, ?_⟩)) | simp [Value.oneCell']
    case p2h2=>
     intro z2 V5 hown5 hg5 _ hat
     have hst :=Cb (K :=A4) (ty :=47) (a := ⟨st.name,st.cols⟩) (by omega) (fun k hk=> (hown0.lt k hk).1) hown5 HALL.out HRX.out hg5 (by simpa using hat)
     have hne :some (w.heap.size+3) ≠ (Value.slice zo acc.length zc).ownBlock :=fun e=>by have := (hown0.lt _ e.symm).1;omega
     have bG5 :=Bf hg5 ((hbN.block _ (lt_of_block bG)).trans bG) hne
     have g05 :=Aa bG5 (j :=0) rfl
     have fG5 :V5.frozen? ⟨w.heap.size+3,0,none⟩ =false :=by simp only [World.frozen?,bG5];rfl
     have hbb :Below w.heap.size w V5 := (hbel.trans (hbN.mono hbel.size)).grown hg5 (by omega) fun k hk=>Nat.le_trans (by omega) (hown0.lt k hk).1
     have hbl5 :Below W0.heap.size V1 V5 := (hbN.mono hbut.1).grown hg5 hbase fun k hk=> (hown0.lt k hk).1
     obtain ⟨zo2,zc2,hz2⟩ :=hst.shape
     rw [List.length_append,List.length_singleton] at hz2
     subst hz2
     have bG6 : (V5.setCell ⟨w.heap.size+3,0,none⟩ (.slice zo2 (acc.length+1) zc2)).heap[w.heap.size+3]? =some (.cells #[(.slice zo2 (acc.length+1) zc2), .slice none 0 0] 25) :=Cl bG5 0 _
     have hst6 :=hst.keepC (w' :=V5.setCell ⟨w.heap.size+3,0,none⟩ (.slice zo2 (acc.length+1) zc2)) (fun k hk _=>Below.heap_setCell _ _ _ k (show k≠w.heap.size+3 by rcases hk with h | h<;>omega)) (by simp [World.setCell])
     have hbut6 := (hbut.below hbl5).set 0 (.slice zo2 (acc.length+1) zc2)
     have hbe6 :Below w.heap.size w (V5.setCell ⟨w.heap.size+3,0,none⟩ (.slice zo2 (acc.length+1) zc2)) :=hbb.setCell (show w.heap.size≤w.heap.size+3 by omega) _
     have bT5 : (V5.setCell ⟨w.heap.size+3,0,none⟩ (.slice zo2 (acc.length+1) zc2)).heap[V0.heap.size]? =some (.cells #[.string t.name, .slice co t.cols.length cc] 47) := (Below.heap_setCell _ _ _ _ hgt).trans (Bf hg5 ((hbN.block _ (lt_of_block bT)).trans bT) (fun e=>Nat.lt_irrefl _ (HLA.out _ e.symm)))
     have b15 := (hbut6.2 (w.heap.size+1) (by omega) (by omega)).trans b1
     go_upto_region 8 with fail
     generalize V5.setCell ⟨w.heap.size+3,0,none⟩ (.slice zo2 (acc.length+1) zc2) =V6 at*
     have s0' :=Aa b15 (j :=0) rfl
     have s1' :=Aa b15 (j :=1) rfl
     have t0' :=Aa bT5 (j :=0) rfl
     have t1' :=Aa bT5 (j :=1) rfl
     clear hst bG5 g05 fG5 hbb hbl5 hown5 hg5 hat hne HRX HALL hnew hbase hownN hown0 hall0 hbN g0 bG hbut hbel hbX s0 s1 s4 t0 t1 bT b1'
     have hal2 : (acc++ [(⟨st.name,st.cols⟩ :TabD)]).length≤2*k+1 :=by rw [List.length_append,List.length_singleton];omega
     have hln :acc.length+1= (acc++ [(⟨st.name,st.cols⟩ :TabD)]).length :=by rw [List.length_append,List.length_singleton]
     rw [hln] at bG6 hst6
     generalize acc++ [(⟨st.name,st.cols⟩ :TabD)] =acc2 at*
     have hA :=hst6
     have bG :=bG6
     have hbut :=hbut6
     have hbel :=hbe6
     have bT :=bT5
     clear hst6 bG6 hbut6 hbe6 hln hal
     by_cases hkp :st.kind=3∧t.name=st.name
     ·have HKP :Hid ((fun y :TabD=> !(decide (st.kind=3) &&decide (y.name=st.name))) t=false) :=by show _=_;simp [hkp.1,hkp.2]
      have q5 : (st.kind !=3) =false :=by simp [hkp.1]
      have q6 : (t.name.toList==st.name.toList) =true :=by rw [Bu];simp [hkp.2]
      have bG6 :=bG
      have hst6 :=hA
      have hbut6 :=hbut
      have hbe6 :=hbel
      clear hkp
      go_wp2_with fail
      go_roundw
      case rel=>exact ⟨k+1,acc2,_,_,by omega,by go_num,rfl,(HT.out.trans (by rw [if_neg (fun e=>Bool.false_ne_true (HKP.out.symm.trans e))];simp)),bG6,hst6,hbut6,hbe6⟩
      case measure=>simp [intOf];omega
     ·have HKP :Hid ((fun y :TabD=> !(decide (st.kind=3) &&decide (y.name=st.name))) t=true) :=by
       show _=_
       simp only [Bool.not_eq_true',Bool.and_eq_false_iff,decide_eq_false_iff_not]
       by_cases h3 :st.kind=3
       ·exact .inr fun e=>hkp ⟨h3,e⟩
       ·exact .inl h3
      have key2 : (st.kind !=3) =true∨ ((st.kind !=3) =false∧ (t.name.toList==st.name.toList) =false) :=by
       by_cases h3 :st.kind=3
       ·exact .inr ⟨by simp [h3],by rw [Bu];simp only [decide_eq_false_iff_not];exact fun e=>hkp ⟨h3,e⟩⟩
       ·exact .inl (by simpa using h3)
      have hbX :Below w.heap.size w (V6.alloc (.cells [.string t.name, .slice co t.cols.length cc].toArray 47)) :=hbel.trans ((Aq _ _).mono hbel.size)
      clear hkp
      rcases key2 with q5 | ⟨q5,q6⟩
      all_goals
       have hbN :=Aq V6 (.cells [.string t.name, .slice co t.cols.length cc].toArray 47)
       obtain ⟨cs0,hown0,hall0⟩ :=hA
       have hownN :=Az hown0 hbN
       have HALL :Hid _ :=hall0.keep (Ar hbN)
       have hnew :=Cp V6 [.string t.name, .slice co t.cols.length cc] 47
       have hbase :W0.heap.size≤ (V6.alloc (.cells [.string t.name, .slice co t.cols.length cc].toArray 47)).heap.size :=Nat.le_trans hbut.1 hbN.size
       have HRX :Hid (A4.R (FX C W0.heap.size (.slice zo2 acc2.length zc2)) (V6.alloc (.cells [.string t.name, .slice co t.cols.length cc].toArray 47)) t [.string t.name, .slice co t.cols.length cc]) := ⟨_,rfl,IsL.mono (hcv.keep (Ag (hbX.mono hC))) fun k _ h=> .inl h⟩
       have g0 :=Aa bG (j :=0) rfl
       go_wp2_with (first | (at_builtin;go_must (refine wpList_append_own_at _ rfl _ _ 22 rfl W0.heap.size 47 iT _ 2 40 Tryz.underlying22 ti0 tz0 tz1 tz2 rfl (by decide) _ _ _ rfl hownN ⟨V6.heap.size,0,none⟩ 1 1 [.string t.name, .slice co t.cols.length cc] rfl rfl ?p1h0 ?p1h1 (by simp only [maxLen];omega) (by omega) hbase ?p1h2)))
       try (case p1h0=>simpa using hnew)
       case p1h1=>first | (simp only [List.forall_mem_cons];repeat (first | exact fun _ h=>absurd h List.not_mem_nil | refine ⟨rfl, ?_⟩)) | simp [Value.oneCell']
       case p1h2=>
        intro z2 V5 hown5 hg5 _ hat
        have hst :=Cb (K :=A4) (ty :=47) (a :=t) (by omega) (fun k hk=> (hown0.lt k hk).1) hown5 HALL.out HRX.out hg5 (by simpa using hat)
        have hne :some (w.heap.size+3) ≠ (Value.slice zo2 acc2.length zc2).ownBlock :=fun e=>by have := (hown0.lt _ e.symm).1;omega
        have bG5 :=Bf hg5 ((hbN.block _ (lt_of_block bG)).trans bG) hne
        have g05 :=Aa bG5 (j :=0) rfl
        have fG5 :V5.frozen? ⟨w.heap.size+3,0,none⟩ =false :=by simp only [World.frozen?,bG5];rfl
        have hbb :Below w.heap.size w V5 := (hbel.trans (hbN.mono hbel.size)).grown hg5 (by omega) fun k hk=>Nat.le_trans (by omega) (hown0.lt k hk).1
        have hbl5 :Below W0.heap.size V6 V5 := (hbN.mono hbut.1).grown hg5 hbase fun k hk=> (hown0.lt k hk).1
        obtain ⟨zo3,zc3,hz2⟩ :=hst.shape
        rw [List.length_append,List.length_singleton] at hz2
        subst hz2
        have bG6 : (V5.setCell ⟨w.heap.size+3,0,none⟩ (.slice zo3 (acc2.length+1) zc3)).heap[w.heap.size+3]? =some (.cells #[(.slice zo3 (acc2.length+1) zc3), .slice none 0 0] 25) :=Cl bG5 0 _
        have hst6 :=hst.keepC (w' :=V5.setCell ⟨w.heap.size+3,0,none⟩ (.slice zo3 (acc2.length+1) zc3)) (fun k hk _=>Below.heap_setCell _ _ _ k (show k≠w.heap.size+3 by rcases hk with h | h<;>omega)) (by simp [World.setCell])
        have hbut6 := (hbut.below hbl5).set 0 (.slice zo3 (acc2.length+1) zc3)
        have hbe6 :Below w.heap.size w (V5.setCell ⟨w.heap.size+3,0,none⟩ (.slice zo3 (acc2.length+1) zc3)) :=hbb.setCell (show w.heap.size≤w.heap.size+3 by omega) _
        go_wp2_with fail
        go_roundw
        case rel=>exact ⟨k+1,(acc2++ [t]),_,_,by omega,by go_num,rfl,(HT.out.trans (by rw [if_pos HKP.out])),bG6,hst6,hbut6,hbe6⟩
        case measure=>simp [intOf];omega
   ·have HT :Hid (F3 TabD.name (decide (st.kind=1)) ⟨st.name,st.cols⟩ (fun y :TabD=> !(decide (st.kind=3) &&decide (y.name=st.name))) (T.take (k+1)) = (acc++ (if false then [⟨st.name,st.cols⟩] else []) ++ (if (fun y :TabD=> !(decide (st.kind=3) &&decide (y.name=st.name))) t then [t] else []),pb || false)) :=by
     show _=_
     rw [HT0.out]
     refine Kl false ?_
     cases hb : (decide (st.kind=1) && !pb&& !klt t.name st.name) with
     | false=>rfl
     | true=>
      simp only [Bool.and_eq_true,decide_eq_true_eq,Bool.not_eq_true'] at hb
      exact absurd ⟨hb.1.1,hb.1.2,hb.2⟩ hin
    have key : (st.kind==1) =false∨ ((st.kind==1) =true∧pb=true) ∨ ((st.kind==1) =true∧pb=false∧Op.bytesLess t.name.toList st.name.toList=true) :=by
     by_cases h1 :st.kind=1
     ·right
      cases pb
      ·right
       refine ⟨by simp [h1],rfl, ?_⟩
       cases hk :klt t.name st.name
       ·exact absurd ⟨h1,rfl,hk⟩ hin
       ·exact hk
      ·left
       exact ⟨by simp [h1],rfl⟩
     ·left
      simpa using h1
    rw [show (pb || false) =pb from by cases pb<;>rfl] at HT
    simp only [Bool.false_eq_true,if_false,List.append_nil] at HT
    clear hin HT0
    rcases key with r1 | ⟨r1,rfl⟩ | ⟨r1,rfl,r2⟩
    all_goals
     by_cases hkp :st.kind=3∧t.name=st.name
     ·have HKP :Hid ((fun y :TabD=> !(decide (st.kind=3) &&decide (y.name=st.name))) t=false) :=by show _=_;simp [hkp.1,hkp.2]
      have q5 : (st.kind !=3) =false :=by simp [hkp.1]
      have q6 : (t.name.toList==st.name.toList) =true :=by rw [Bu];simp [hkp.2]
      have bG6 :=bG
      have hst6 :=hA
      have hbut6 :=hbut
      have hbe6 :=hbel
      clear hkp
      go_wp2_with fail
      go_roundw
      case rel=>exact ⟨k+1,acc,_,_,by omega,by go_num,rfl,(HT.out.trans (by rw [if_neg (fun e=>Bool.false_ne_true (HKP.out.symm.trans e))];simp)),bG6,hst6,hbut6,hbe6⟩
      case measure=>simp [intOf];omega
     ·have HKP :Hid ((fun y :TabD=> !(decide (st.kind=3) &&decide (y.name=st.name))) t=true) :=by
       show _=_
       simp only [Bool.not_eq_true',Bool.and_eq_false_iff,decide_eq_false_iff_not]
       by_cases h3 :st.kind=3
       ·exact .inr fun e=>hkp ⟨h3,e⟩
       ·exact .inl h3
      have key2 : (st.kind !=3) =true∨ ((st.kind !=3) =false∧ (t.name.toList==st.name.toList) =false) :=by
       by_cases h3 :st.kind=3
       ·exact .inr ⟨by simp [h3],by rw [Bu];simp only [decide_eq_false_iff_not];exact fun e=>hkp ⟨h3,e⟩⟩
       ·exact .inl (by simpa using h3)
      have hbX :Below w.heap.size w (V1.alloc (.cells [.string t.name, .slice co t.cols.length cc].toArray 47)) :=hbel.trans ((Aq _ _).mono hbel.size)
      clear hkp
      rcases key2 with q5 | ⟨q5,q6⟩
      all_goals
       have hbN :=Aq V1 (.cells [.string t.name, .slice co t.cols.length cc].toArray 47)
       obtain ⟨cs0,hown0,hall0⟩ :=hA
       have hownN :=Az hown0 hbN
       have HALL :Hid _ :=hall0.keep (Ar hbN)
       have hnew :=Cp V1 [.string t.name, .slice co t.cols.length cc] 47
       have hbase :W0.heap.size≤ (V1.alloc (.cells [.string t.name, .slice co t.cols.length cc].toArray 47)).heap.size :=Nat.le_trans hbut.1 hbN.size
       have HRX :Hid (A4.R (FX C W0.heap.size (.slice zo acc.length zc)) (V1.alloc (.cells [.string t.name, .slice co t.cols.length cc].toArray 47)) t [.string t.name, .slice co t.cols.length cc]) := ⟨_,rfl,IsL.mono (hcv.keep (Ag (hbX.mono hC))) fun k _ h=> .inl h⟩
       have g0 :=Aa bG (j :=0) rfl
       go_wp2_with (first | (at_builtin;go_must (refine wpList_append_own_at _ rfl _ _ 22 rfl W0.heap.size 47 iT _ 2 40 Tryz.underlying22 ti0 tz0 tz1 tz2 rfl (by decide) _ _ _ rfl hownN ⟨V1.heap.size,0,none⟩ 1 1 [.string t.name, .slice co t.cols.length cc] rfl rfl ?p4h0 ?p4h1 (by simp only [maxLen];omega) (by omega) hbase ?p4h2)))
       try (case p4h0=>simpa using hnew)
       case p4h1=>first | (simp only [List.forall_mem_cons];repeat (first | exact fun _ h=>absurd h List.not_mem_nil | refine ⟨rfl, ?_⟩)) | simp [Value.oneCell']
       case p4h2=>
        intro z2 V5 hown5 hg5 _ hat
        have hst :=Cb (K :=A4) (ty :=47) (a :=t) (by omega) (fun k hk=> (hown0.lt k hk).1) hown5 HALL.out HRX.out hg5 (by simpa using hat)
        have hne :some (w.heap.size+3) ≠ (Value.slice zo acc.length zc).ownBlock :=fun e=>by have := (hown0.lt _ e.symm).1;omega
        have bG5 :=Bf hg5 ((hbN.block _ (lt_of_block bG)).trans bG) hne
        have g05 :=Aa bG5 (j :=0) rfl
        have fG5 :V5.frozen? ⟨w.heap.size+3,0,none⟩ =false :=by simp only [World.frozen?,bG5];rfl
        have hbb :Below w.heap.size w V5 := (hbel.trans (hbN.mono hbel.size)).grown hg5 (by omega) fun k hk=>Nat.le_trans (by omega) (hown0.lt k hk).1
        have hbl5 :Below W0.heap.size V1 V5 := (hbN.mono hbut.1).grown hg5 hbase fun k hk=> (hown0.lt k hk).1
        obtain ⟨zo2,zc2,hz2⟩ :=hst.shape
        rw [List.length_append,List.length_singleton] at hz2
        subst hz2
        have bG6 : (V5.setCell ⟨w.heap.size+3,0,none⟩ (.slice zo2 (acc.length+1) zc2)).heap[w.heap.size+3]? =some (.cells #[(.slice zo2 (acc.length+1) zc2), .slice none 0 0] 25) :=Cl bG5 0 _
        have hst6 :=hst.keepC (w' :=V5.setCell ⟨w.heap.size+3,0,none⟩ (.slice zo2 (acc.length+1) zc2)) (fun k hk _=>Below.heap_setCell _ _ _ k (show k≠w.heap.size+3 by rcases hk with h | h<;>omega)) (by simp [World.setCell])
        have hbut6 := (hbut.below hbl5).set 0 (.slice zo2 (acc.length+1) zc2)
        have hbe6 :Below w.heap.size w (V5.setCell ⟨w.heap.size+3,0,none⟩ (.slice zo2 (acc.length+1) zc2)) :=hbb.setCell (show w.heap.size≤w.heap.size+3 by omega) _
        go_wp2_with fail
        go_roundw
        case rel=>exact ⟨k+1,(acc++ [t]),_,_,by omega,by go_num,rfl,(HT.out.trans (by rw [if_pos HKP.out])),bG6,hst6,hbut6,hbe6⟩
        case measure=>simp [intOf];omega
  ·have hkn :k=T.length :=by omega
   subst hkn
   rw [List.take_length] at HA0
   have j1 : ¬ ((T.length :Int) < (T.length :Int)) :=by omega
   have b1' := (hbut.2 (w.heap.size+1) (by omega) (by omega)).trans b1
   have s0 :=Aa b1' (j :=0) rfl
   have s1 :=Aa b1' (j :=1) rfl
   have s4 :=Aa b1' (j :=4) rfl
   obtain ⟨be,HBE⟩ : ∃b,Hid (b= (decide (st.kind=1) && !pb)) := ⟨_,rfl⟩
   have HEND :Hid (G4 TabD.name (decide (st.kind=1)) ⟨st.name,st.cols⟩ (fun y :TabD=> !(decide (st.kind=3) &&decide (y.name=st.name))) T=acc++if be then [⟨st.name,st.cols⟩] else []) :=by show _=_;rw [G4,HA0.out,HBE.out]
   go_upto_region 11 with fail
   go_cut [66] (fun s66 wx=>s66= .bool be∧wx=V0)
   case first=>
    by_cases h1 :st.kind=1
    ·have r1 : (st.kind==1) =true :=by simp [h1]
     have HB2 :Hid (be= !pb) :=by show _=_;rw [HBE.out];simp [h1]
     clear h1
     go_wp2_with fail
     go_meet
     case rel=>exact ⟨by rw [HB2.out],rfl⟩
    ·have r1 : (st.kind==1) =false :=by simpa using h1
     have HB2 :Hid (be=false) :=by show _=_;rw [HBE.out];simp [h1]
     clear h1
     go_wp2_with fail
     go_meet
     case rel=>exact ⟨by rw [HB2.out],rfl⟩
   case rest=>
    obtain ⟨rfl,hwc⟩ :=hcut
    rw [hwc]
    clear hwc
    rename_i hr
    refine hr _ _ ?_
    go_cut [6] (fun _ wx=> ∃accF zoF zcF,Hid (G4 TabD.name (decide (st.kind=1)) ⟨st.name,st.cols⟩ (fun y :TabD=> !(decide (st.kind=3) &&decide (y.name=st.name))) T=accF) ∧wx.heap[w.heap.size+3]? =some (.cells #[.slice zoF accF.length zcF, .slice none 0 0] 25) ∧Bl A4 47 C W0.heap.size (.slice zoF accF.length zcF) accF wx∧Gz (w.heap.size+3) W0.heap.size W0 wx∧Below w.heap.size w wx)
    case first=>
     cases be
     ·go_wp2_with fail
      go_meet
      case rel=>exact ⟨acc,zo,zc,HEND.out.trans (by simp),bG,hA,hbut,hbel⟩
     ·have hbX :Below w.heap.size w (V0.alloc (.cells [.string st.name, .slice o1 st.cols.length c1].toArray 47)) :=hbel.trans ((Aq _ _).mono hbel.size)
      have hbN :=Aq V0 (.cells [.string st.name, .slice o1 st.cols.length c1].toArray 47)
      obtain ⟨cs0,hown0,hall0⟩ :=hA
      have hownN :=Az hown0 hbN
      have HALL :Hid _ :=hall0.keep (Ar hbN)
      have hnew :=Cp V0 [.string st.name, .slice o1 st.cols.length c1] 47
      have hbase :W0.heap.size≤ (V0.alloc (.cells [.string st.name, .slice o1 st.cols.length c1].toArray 47)).heap.size :=Nat.le_trans hbut.1 hbN.size
      have HRX :Hid (A4.R (FX C W0.heap.size (.slice zo acc.length zc)) (V0.alloc (.cells [.string st.name, .slice o1 st.cols.length c1].toArray 47)) ⟨st.name,st.cols⟩ [.string st.name, .slice o1 st.cols.length c1]) := ⟨_,rfl,IsL.mono (i1.keep (Ag (hbX.mono hC))) fun k _ h=> .inl h⟩
      have g0 :=Aa bG (j :=0) rfl
      go_wp2_with (first | (at_builtin;go_must (refine wpList_append_own_at _ rfl _ _ 22 rfl W0.heap.size 47 iT _ 2 40 Tryz.underlying22 ti0 tz0 tz1 tz2 rfl (by decide) _ _ _ rfl hownN ⟨V0.heap.size,0,none⟩ 1 1 [.string st.name, .slice o1 st.cols.length c1] rfl rfl ?p3h0 ?p3h1 (by simp only [maxLen];omega) (by omega) hbase ?p3h2)))
      try (case p3h0=>simpa using hnew)
      case p3h1=>first | (simp only [List.forall_mem_cons];repeat (first | exact fun _ h=>absurd h List.not_mem_nil | refine ⟨rfl, ?_⟩)) | simp [Value.oneCell']
      case p3h2=>
       intro z2 V5 hown5 hg5 _ hat
       have hst :=Cb (K :=A4) (ty :=47) (a := ⟨st.name,st.cols⟩) (by omega) (fun k hk=> (hown0.lt k hk).1) hown5 HALL.out HRX.out hg5 (by simpa using hat)
       have hne :some (w.heap.size+3) ≠ (Value.slice zo acc.length zc).ownBlock :=fun e=>by have := (hown0.lt _ e.symm).1;omega
       have bG5 :=Bf hg5 ((hbN.block _ (lt_of_block bG)).trans bG) hne
       have g05 :=Aa bG5 (j :=0) rfl
       have fG5 :V5.frozen? ⟨w.heap.size+3,0,none⟩ =false :=by simp only [World.frozen?,bG5];rfl
       have hbb :Below w.heap.size w V5 := (hbel.trans (hbN.mono hbel.size)).grown hg5 (by omega) fun k hk=>Nat.le_trans (by omega) (hown0.lt k hk).1
       have hbl5 :Below W0.heap.size V0 V5 := (hbN.mono hbut.1).grown hg5 hbase fun k hk=> (hown0.lt k hk).1
       obtain ⟨zo2,zc2,hz2⟩ :=hst.shape
       rw [List.length_append,List.length_singleton] at hz2
       subst hz2
       have bG6 : (V5.setCell ⟨w.heap.size+3,0,none⟩ (.slice zo2 (acc.length+1) zc2)).heap[w.heap.size+3]? =some (.cells #[(.slice zo2 (acc.length+1) zc2), .slice none 0 0] 25) :=Cl bG5 0 _
       have hst6 :=hst.keepC (w' :=V5.setCell ⟨w.heap.size+3,0,none⟩ (.slice zo2 (acc.length+1) zc2)) (fun k hk _=>Below.heap_setCell _ _ _ k (show k≠w.heap.size+3 by rcases hk with h | h<;>omega)) (by simp [World.setCell])
       have hbut6 := (hbut.below hbl5).set 0 (.slice zo2 (acc.length+1) zc2)
       have hbe6 :Below w.heap.size w (V5.setCell ⟨w.heap.size+3,0,none⟩ (.slice zo2 (acc.length+1) zc2)) :=hbb.setCell (show w.heap.size≤w.heap.size+3 by omega) _
       go_wp2_with fail
       go_meet
       case rel=>exact ⟨acc++ [⟨st.name,st.cols⟩],zo2,zc2,HEND.out.trans (by simp),by rw [List.length_append,List.length_singleton];exact bG6,by rw [List.length_append,List.length_singleton];exact hst6,hbut6,hbe6⟩
    case rest=>
     obtain ⟨accF,zoF,zcF,HF,bGF,hAF,hbutF,hbelF⟩ :=hcut
     obtain ⟨W1,hW1⟩ : ∃V,V=wc := ⟨_,rfl⟩
     subst hW1
     have b0F := (hbutF.2 w.heap.size (by omega) (by omega)).trans b0
     have b1F := (hbutF.2 (w.heap.size+1) (by omega) (by omega)).trans b1
     have b2F := (hbutF.2 (w.heap.size+2) (by omega) (by omega)).trans b2
     have h5 :w.heap.size+4≤W1.heap.size :=Nat.le_trans h4 hbutF.1
     have a1 :=Aa b0F (j :=1) rfl
     clear HA0 HBE HEND s0 s1 s4 b1' hA bG hbut hbel
     go_wp2_with fail
     go_loopw [6,80] (fun pv i wr=> ∃ (k :Nat) (acc :List IdxD) (zt :Value) (pb :Bool),k≤I.length∧i= .int .i64 k∧pv= .bool pb∧Hid (F3 IdxD.name (decide (st.kind=2)) ⟨st.name,st.table,st.col⟩ (fun y :IdxD=> !(decide (st.kind=3) &&decide (y.table=st.name))) (I.take k) = (acc,pb)) ∧wr.heap[w.heap.size+3]? =some (.cells #[.slice zoF accF.length zcF,zt] 25) ∧Bl B7 64 C W1.heap.size zt acc wr∧Gz (w.heap.size+3) W1.heap.size W1 wr∧Below w.heap.size w wr) (fun _ i _=>I.length - (intOf i).toNat)
     case atStart=>exact ⟨0,[],_,false,Nat.zero_le _,rfl,rfl,id rfl,bGF,Ed _ _ _ _ _,Gz.refl _ _ _,hbelF⟩
     case round=>
      obtain ⟨k,acc,zt,pb,hk,rfl,rfl,HA0,bG,hA,hbut,hbel⟩ :=hrel
      obtain ⟨V0,hV0⟩ : ∃V,V=wr := ⟨_,rfl⟩
      subst hV0
      obtain ⟨zo,zc,hzv⟩ :=hA.shape
      subst hzv
      have hal :acc.length≤2*k :=by
       have :=Nh IdxD.name (decide (st.kind=2)) ⟨st.name,st.table,st.col⟩ (fun y :IdxD=> !(decide (st.kind=3) &&decide (y.table=st.name))) (I.take k) ([],false)
       rw [show (I.take k).foldl _ _=_ from HA0.out,List.length_take] at this
       simp only [List.length_nil] at this
       omega
      by_cases hlt :k<I.length
      ·obtain ⟨t,ht⟩ : ∃t,I[k]? =some t := ⟨_,List.getElem?_eq_getElem hlt⟩
       have HT0 :Hid (F3 IdxD.name (decide (st.kind=2)) ⟨st.name,st.table,st.col⟩ (fun y :IdxD=> !(decide (st.kind=3) &&decide (y.table=st.name))) (I.take (k+1)) =E4 IdxD.name (decide (st.kind=2)) ⟨st.name,st.table,st.col⟩ (fun y :IdxD=> !(decide (st.kind=3) &&decide (y.table=st.name))) (acc,pb) t) :=by show _=_;rw [Pv _ _ _ _ ht,HA0.out]
       obtain ⟨b,off,cs,hso,hbC,hbl,hR,hcell⟩ :=Av hi ht
       cases hso
       obtain rfl :cs=_ :=hR
       have d0 := (hbel.cell (p := ⟨b,_,none⟩) hbl).trans (hcell 0 _ rfl)
       have d1 := (hbel.cell (p := ⟨b,_,none⟩) hbl).trans (hcell 1 _ rfl)
       have d2 := (hbel.cell (p := ⟨b,_,none⟩) hbl).trans (hcell 2 _ rfl)
       simp only [B7,Nat.add_zero] at d0 d1 d2
       have j0 : (0 :Int) ≤ (k :Int) :=by omega
       have j1 : (k :Int) < (I.length :Int) :=by omega
       have hbx :=Aq V0 (.cells #[.string t.name, .string t.table, .string t.col] 64)
       have bT :=Ab V0 (.cells #[.string t.name, .string t.table, .string t.col] 64)
       have hA1 :=hA.keepC (w' :=V0.alloc (.cells #[.string t.name, .string t.table, .string t.col] 64)) (fun k _ hk=>hbx.block k hk) hbx.size
       have bG1 := (hbx.block _ (lt_of_block bG)).trans bG
       have hbut1 :=hbut.below (hbx.mono hbut.1)
       have hbel1 :=hbel.trans (hbx.mono hbel.size)
       have b1' := (hbut1.2 (w.heap.size+1) (by omega) (by omega)).trans b1F
       have hgt :V0.heap.size≠w.heap.size+3 :=by have :=hbut.1;omega
       have hlA : ∀k,(Value.slice zo acc.length zc).ownBlock=some k→k<V0.heap.size :=by obtain ⟨cs0,hown0,_⟩ :=hA;exact fun k hk=> (hown0.lt k hk).2
       have HLA :Hid _ :=hlA
       clear hlA
       generalize hV1 :V0.alloc (.cells #[.string t.name, .string t.table, .string t.col] 64) =V1 at*
       have HV1 :Hid _ :=hV1
       have s0 :=Aa b1' (j :=0) rfl
       have s1 :=Aa b1' (j :=1) rfl
       have s2 :=Aa b1' (j :=2) rfl
       have s3 :=Aa b1' (j :=3) rfl
       have t0 :=Aa bT (j :=0) rfl
       have t1 :=Aa bT (j :=1) rfl
       have t2 :=Aa bT (j :=2) rfl
       clear hcell ht HA0 hV1 hA bG hbut hbel hbx
       have hA :=hA1
       have bG :=bG1
       have hbut :=hbut1
       have hbel :=hbel1
       clear hA1 bG1 hbut1 hbel1
       go_upto_region 17 with fail
       rw [HV1.out]
       by_cases hin :st.kind=2∧pb=false∧klt t.name st.name=false
       ·obtain ⟨h1,rfl,h3⟩ :=hin
        have HT :Hid (F3 IdxD.name (decide (st.kind=2)) ⟨st.name,st.table,st.col⟩ (fun y :IdxD=> !(decide (st.kind=3) &&decide (y.table=st.name))) (I.take (k+1)) = (acc++ [⟨st.name,st.table,st.col⟩] ++ (if (fun y :IdxD=> !(decide (st.kind=3) &&decide (y.table=st.name))) t then [t] else []),true)) :=HT0.out.trans (Kl true (by simp [h1,h3]))
        have r1 : (st.kind==2) =true :=by simp [h1]
        have r2 :Op.bytesLess t.name.toList st.name.toList=false :=h3
        have hbX :Below w.heap.size w (V1.alloc (.cells [.string st.name, .string st.table, .string st.col].toArray 64)) :=hbel.trans ((Aq _ _).mono hbel.size)
        clear HT0 h1 h3
        have hbN :=Aq V1 (.cells [.string st.name, .string st.table, .string st.col].toArray 64)
        obtain ⟨cs0,hown0,hall0⟩ :=hA
        have hownN :=Az hown0 hbN
        have HALL :Hid _ :=hall0.keep (Ar hbN)
        have hnew :=Cp V1 [.string st.name, .string st.table, .string st.col] 64
        have hbase :W1.heap.size≤ (V1.alloc (.cells [.string st.name, .string st.table, .string st.col].toArray 64)).heap.size :=Nat.le_trans hbut.1 hbN.size
        have HRX :Hid (B7.R (FX C W1.heap.size (.slice zo acc.length zc)) (V1.alloc (.cells [.string st.name, .string st.table, .string st.col].toArray 64)) ⟨st.name,st.table,st.col⟩ [.string st.name, .string st.table, .string st.col]) :=rfl
        have g0 :=Aa bG (j :=1) rfl
        go_wp2_with (first | (at_builtin;go_must (refine wpList_append_own_at _ rfl _ _ 23 rfl W1.heap.size 64 i0 _ 3 48 Tryz.underlying23 ii0 iz0 iz1 iz2 rfl (by decide) _ _ _ rfl hownN ⟨V1.heap.size,0,none⟩ 1 1 [.string st.name, .string st.table, .string st.col] rfl rfl ?q2h0 ?q2h1 (by simp only [maxLen];omega) (by omega) hbase ?q2h2)))
        try (case q2h0=>simpa using hnew)
        case q2h1=>first | (simp only [List.forall_mem_cons];repeat (first | exact fun _ h=>absurd h List.not_mem_nil | refine ⟨rfl, ?_⟩)) | simp [Value.oneCell']
        case q2h2=>
         intro z2 V5 hown5 hg5 _ hat
         have hst :=Cb (K :=B7) (ty :=64) (a := ⟨st.name,st.table,st.col⟩) (by omega) (fun k hk=> (hown0.lt k hk).1) hown5 HALL.out HRX.out hg5 (by simpa using hat)
         have hne :some (w.heap.size+3) ≠ (Value.slice zo acc.length zc).ownBlock :=fun e=>by have := (hown0.lt _ e.symm).1;omega
         have bG5 :=Bf hg5 ((hbN.block _ (lt_of_block bG)).trans bG) hne
         have g05 :=Aa bG5 (j :=1) rfl
         have fG5 :V5.frozen? ⟨w.heap.size+3,1,none⟩ =false :=by simp only [World.frozen?,bG5];rfl
         have hbb :Below w.heap.size w V5 := (hbel.trans (hbN.mono hbel.size)).grown hg5 (by omega) fun k hk=>Nat.le_trans (by omega) (hown0.lt k hk).1
         have hbl5 :Below W1.heap.size V1 V5 := (hbN.mono hbut.1).grown hg5 hbase fun k hk=> (hown0.lt k hk).1
         obtain ⟨zo2,zc2,hz2⟩ :=hst.shape
         rw [List.length_append,List.length_singleton] at hz2
         subst hz2
         have bG6 : (V5.setCell ⟨w.heap.size+3,1,none⟩ (.slice zo2 (acc.length+1) zc2)).heap[w.heap.size+3]? =some (.cells #[.slice zoF accF.length zcF,(.slice zo2 (acc.length+1) zc2)] 25) :=Cl bG5 1 _
         have hst6 :=hst.keepC (w' :=V5.setCell ⟨w.heap.size+3,1,none⟩ (.slice zo2 (acc.length+1) zc2)) (fun k hk _=>Below.heap_setCell _ _ _ k (show k≠w.heap.size+3 by rcases hk with h | h<;>omega)) (by simp [World.setCell])
         have hbut6 := (hbut.below hbl5).set 1 (.slice zo2 (acc.length+1) zc2)
         have hbe6 :Below w.heap.size w (V5.setCell ⟨w.heap.size+3,1,none⟩ (.slice zo2 (acc.length+1) zc2)) :=hbb.setCell (show w.heap.size≤w.heap.size+3 by omega) _
         have bT5 : (V5.setCell ⟨w.heap.size+3,1,none⟩ (.slice zo2 (acc.length+1) zc2)).heap[V0.heap.size]? =some (.cells #[.string t.name, .string t.table, .string t.col] 64) := (Below.heap_setCell _ _ _ _ hgt).trans (Bf hg5 ((hbN.block _ (lt_of_block bT)).trans bT) (fun e=>Nat.lt_irrefl _ (HLA.out _ e.symm)))
         have b15 := (hbut6.2 (w.heap.size+1) (by omega) (by omega)).trans b1F
         go_upto_region 19 with fail
         generalize V5.setCell ⟨w.heap.size+3,1,none⟩ (.slice zo2 (acc.length+1) zc2) =V6 at*
         have s0' :=Aa b15 (j :=0) rfl
         have s1' :=Aa b15 (j :=1) rfl
         have t0' :=Aa bT5 (j :=0) rfl
         have t1' :=Aa bT5 (j :=1) rfl
         have t2' :=Aa bT5 (j :=2) rfl
         clear hst bG5 g05 fG5 hbb hbl5 hown5 hg5 hat hne HRX HALL hnew hbase hownN hown0 hall0 hbN g0 bG hbut hbel hbX s0 s1 s2 s3 t0 t1 t2 bT b1'
         have hal2 : (acc++ [(⟨st.name,st.table,st.col⟩ :IdxD)]).length≤2*k+1 :=by rw [List.length_append,List.length_singleton];omega
         have hln :acc.length+1= (acc++ [(⟨st.name,st.table,st.col⟩ :IdxD)]).length :=by rw [List.length_append,List.length_singleton]
         rw [hln] at bG6 hst6
         generalize acc++ [(⟨st.name,st.table,st.col⟩ :IdxD)] =acc2 at*
         have hA :=hst6
         have bG :=bG6
         have hbut :=hbut6
         have hbel :=hbe6
         have bT :=bT5
         clear hst6 bG6 hbut6 hbe6 hln hal
         by_cases hkp :st.kind=3∧t.table=st.name
         ·have HKP :Hid ((fun y :IdxD=> !(decide (st.kind=3) &&decide (y.table=st.name))) t=false) :=by show _=_;simp [hkp.1,hkp.2]
          have q5 : (st.kind !=3) =false :=by simp [hkp.1]
          have q6 : (t.table.toList==st.name.toList) =true :=by rw [Bu];simp [hkp.2]
          have bG6 :=bG
          have hst6 :=hA
          have hbut6 :=hbut
          have hbe6 :=hbel
          clear hkp
          go_wp2_with fail
          go_roundw
          case rel=>exact ⟨k+1,acc2,_,_,by omega,by go_num,rfl,(HT.out.trans (by rw [if_neg (fun e=>Bool.false_ne_true (HKP.out.symm.trans e))];simp)),bG6,hst6,hbut6,hbe6⟩
          case measure=>simp [intOf];omega
         ·have HKP :Hid ((fun y :IdxD=> !(decide (st.kind=3) &&decide (y.table=st.name))) t=true) :=by
           show _=_
           simp only [Bool.not_eq_true',Bool.and_eq_false_iff,decide_eq_false_iff_not]
           by_cases h3 :st.kind=3
           ·exact .inr fun e=>hkp ⟨h3,e⟩
           ·exact .inl h3
          have key2 : (st.kind !=3) =true∨ ((st.kind !=3) =false∧ (t.table.toList==st.name.toList) =false) :=by
           by_cases h3 :st.kind=3
           ·exact .inr ⟨by simp [h3],by rw [Bu];simp only [decide_eq_false_iff_not];exact fun e=>hkp ⟨h3,e⟩⟩
           ·exact .inl (by simpa using h3)
          have hbX :Below w.heap.size w (V6.alloc (.cells [.string t.name, .string t.table, .string t.col].toArray 64)) :=hbel.trans ((Aq _ _).mono hbel.size)
          clear hkp
          rcases key2 with q5 | ⟨q5,q6⟩
          all_goals
           have hbN :=Aq V6 (.cells [.string t.name, .string t.table, .string t.col].toArray 64)
           obtain ⟨cs0,hown0,hall0⟩ :=hA
           have hownN :=Az hown0 hbN
           have HALL :Hid _ :=hall0.keep (Ar hbN)
           have hnew :=Cp V6 [.string t.name, .string t.table, .string t.col] 64
           have hbase :W1.heap.size≤ (V6.alloc (.cells [.string t.name, .string t.table, .string t.col].toArray 64)).heap.size :=Nat.le_trans hbut.1 hbN.size
           have HRX :Hid (B7.R (FX C W1.heap.size (.slice zo2 acc2.length zc2)) (V6.alloc (.cells [.string t.name, .string t.table, .string t.col].toArray 64)) t [.string t.name, .string t.table, .string t.col]) :=rfl
           have g0 :=Aa bG (j :=1) rfl
           go_wp2_with (first | (at_builtin;go_must (refine wpList_append_own_at _ rfl _ _ 23 rfl W1.heap.size 64 i0 _ 3 48 Tryz.underlying23 ii0 iz0 iz1 iz2 rfl (by decide) _ _ _ rfl hownN ⟨V6.heap.size,0,none⟩ 1 1 [.string t.name, .string t.table, .string t.col] rfl rfl ?q1h0 ?q1h1 (by simp only [maxLen];omega) (by omega) hbase ?q1h2)))
           try (case q1h0=>simpa using hnew)
           case q1h1=>first | (simp only [List.forall_mem_cons];repeat (first | exact fun _ h=>absurd h List.not_mem_nil | refine ⟨rfl, ?_⟩)) | simp [Value.oneCell']
           case q1h2=>
            intro z2 V5 hown5 hg5 _ hat
            have hst :=Cb (K :=B7) (ty :=64) (a :=t) (by omega) (fun k hk=> (hown0.lt k hk).1) hown5 HALL.out HRX.out hg5 (by simpa using hat)
            have hne :some (w.heap.size+3) ≠ (Value.slice zo2 acc2.length zc2).ownBlock :=fun e=>by have := (hown0.lt _ e.symm).1;omega
            have bG5 :=Bf hg5 ((hbN.block _ (lt_of_block bG)).trans bG) hne
            have g05 :=Aa bG5 (j :=1) rfl
            have fG5 :V5.frozen? ⟨w.heap.size+3,1,none⟩ =false :=by simp only [World.frozen?,bG5];rfl
            have hbb :Below w.heap.size w V5 := (hbel.trans (hbN.mono hbel.size)).grown hg5 (by omega) fun k hk=>Nat.le_trans (by omega) (hown0.lt k hk).1
            have hbl5 :Below W1.heap.size V6 V5 := (hbN.mono hbut.1).grown hg5 hbase fun k hk=> (hown0.lt k hk).1
            obtain ⟨zo3,zc3,hz2⟩ :=hst.shape
            rw [List.length_append,List.length_singleton] at hz2
            subst hz2
            have bG6 : (V5.setCell ⟨w.heap.size+3,1,none⟩ (.slice zo3 (acc2.length+1) zc3)).heap[w.heap.size+3]? =some (.cells #[.slice zoF accF.length zcF,(.slice zo3 (acc2.length+1) zc3)] 25) :=Cl bG5 1 _
            have hst6 :=hst.keepC (w' :=V5.setCell ⟨w.heap.size+3,1,none⟩ (.slice zo3 (acc2.length+1) zc3)) (fun k hk _=>Below.heap_setCell _ _ _ k (show k≠w.heap.size+3 by rcases hk with h | h<;>omega)) (by simp [World.setCell])
            have hbut6 := (hbut.below hbl5).set 1 (.slice zo3 (acc2.length+1) zc3)
            have hbe6 :Below w.heap.size w (V5.setCell ⟨w.heap.size+3,1,none⟩ (.slice zo3 (acc2.length+1) zc3)) :=hbb.setCell (show w.heap.size≤w.heap.size+3 by omega) _
            go_wp2_with fail
            go_roundw
            case rel=>exact ⟨k+1,(acc2++ [t]),_,_,by omega,by go_num,rfl,(HT.out.trans (by rw [if_pos HKP.out])),bG6,hst6,hbut6,hbe6⟩
            case measure=>simp [intOf];omega
       ·have HT :Hid (F3 IdxD.name (decide (st.kind=2)) ⟨st.name,st.table,st.col⟩ (fun y :IdxD=> !(decide (st.kind=3) &&decide (y.table=st.name))) (I.take (k+1)) = (acc++ (if false then [⟨st.name,st.table,st.col⟩] else []) ++ (if (fun y :IdxD=> !(decide (st.kind=3) &&decide (y.table=st.name))) t then [t] else []),pb || false)) :=by
         show _=_
         rw [HT0.out]
         refine Kl false ?_
         cases hb : (decide (st.kind=2) && !pb&& !klt t.name st.name) with
         | false=>rfl
         | true=>
          simp only [Bool.and_eq_true,decide_eq_true_eq,Bool.not_eq_true'] at hb
          exact absurd ⟨hb.1.1,hb.1.2,hb.2⟩ hin
        have key : (st.kind==2) =false∨ ((st.kind==2) =true∧pb=true) ∨ ((st.kind==2) =true∧pb=false∧Op.bytesLess t.name.toList st.name.toList=true) :=by
         by_cases h1 :st.kind=2
         ·right
          cases pb
          ·right
           refine ⟨by simp [h1],rfl, ?_⟩
           cases hk :klt t.name st.name
           ·exact absurd ⟨h1,rfl,hk⟩ hin
           ·exact hk
          ·left
           exact ⟨by simp [h1],rfl⟩
         ·left
          simpa using h1
        rw [show (pb || false) =pb from by cases pb<;>rfl] at HT
        simp only [Bool.false_eq_true,if_false,List.append_nil] at HT
        clear hin HT0
        rcases key with r1 | ⟨r1,rfl⟩ | ⟨r1,rfl,r2⟩
        all_goals
         by_cases hkp :st.kind=3∧t.table=st.name
         ·have HKP :Hid ((fun y :IdxD=> !(decide (st.kind=3) &&decide (y.table=st.name))) t=false) :=by show _=_;simp [hkp.1,hkp.2]
          have q5 : (st.kind !=3) =false :=by simp [hkp.1]
          have q6 : (t.table.toList==st.name.toList) =true :=by rw [Bu];simp [hkp.2]
          have bG6 :=bG
          have hst6 :=hA
          have hbut6 :=hbut
          have hbe6 :=hbel
          clear hkp
          go_wp2_with fail
          go_roundw
          case rel=>exact ⟨k+1,acc,_,_,by omega,by go_num,rfl,(HT.out.trans (by rw [if_neg (fun e=>Bool.false_ne_true (HKP.out.symm.trans e))];simp)),bG6,hst6,hbut6,hbe6⟩
          case measure=>simp [intOf];omega
         ·have HKP :Hid ((fun y :IdxD=> !(decide (st.kind=3) &&decide (y.table=st.name))) t=true) :=by
           show _=_
           simp only [Bool.not_eq_true',Bool.and_eq_false_iff,decide_eq_false_iff_not]
           by_cases h3 :st.kind=3
           ·exact .inr fun e=>hkp ⟨h3,e⟩
           ·exact .inl h3
          have key2 : (st.kind !=3) =true∨ ((st.kind !=3) =false∧ (t.table.toList==st.name.toList) =false) :=by
           by_cases h3 :st.kind=3
           ·exact .inr ⟨by simp [h3],by rw [Bu];simp only [decide_eq_false_iff_not];exact fun e=>hkp ⟨h3,e⟩⟩
           ·exact .inl (by simpa using h3)
          have hbX :Below w.heap.size w (V1.alloc (.cells [.string t.name, .string t.table, .string t.col].toArray 64)) :=hbel.trans ((Aq _ _).mono hbel.size)
          clear hkp
          rcases key2 with q5 | ⟨q5,q6⟩
          all_goals
           have hbN :=Aq V1 (.cells [.string t.name, .string t.table, .string t.col].toArray 64)
           obtain ⟨cs0,hown0,hall0⟩ :=hA
           have hownN :=Az hown0 hbN
           have HALL :Hid _ :=hall0.keep (Ar hbN)
           have hnew :=Cp V1 [.string t.name, .string t.table, .string t.col] 64
           have hbase :W1.heap.size≤ (V1.alloc (.cells [.string t.name, .string t.table, .string t.col].toArray 64)).heap.size :=Nat.le_trans hbut.1 hbN.size
           have HRX :Hid (B7.R (FX C W1.heap.size (.slice zo acc.length zc)) (V1.alloc (.cells [.string t.name, .string t.table, .string t.col].toArray 64)) t [.string t.name, .string t.table, .string t.col]) :=rfl
           have g0 :=Aa bG (j :=1) rfl
           go_wp2_with (first | (at_builtin;go_must (refine wpList_append_own_at _ rfl _ _ 23 rfl W1.heap.size 64 i0 _ 3 48 Tryz.underlying23 ii0 iz0 iz1 iz2 rfl (by decide) _ _ _ rfl hownN ⟨V1.heap.size,0,none⟩ 1 1 [.string t.name, .string t.table, .string t.col] rfl rfl ?q4h0 ?q4h1 (by simp only [maxLen];omega) (by omega) hbase ?q4h2)))
           try (case q4h0=>simpa using hnew)
           case q4h1=>first | (simp only [List.forall_mem_cons];repeat (first | exact fun _ h=>absurd h List.not_mem_nil | refine ⟨rfl, ?_⟩)) | simp [Value.oneCell']
           case q4h2=>
            intro z2 V5 hown5 hg5 _ hat
            have hst :=Cb (K :=B7) (ty :=64) (a :=t) (by omega) (fun k hk=> (hown0.lt k hk).1) hown5 HALL.out HRX.out hg5 (by simpa using hat)
            have hne :some (w.heap.size+3) ≠ (Value.slice zo acc.length zc).ownBlock :=fun e=>by have := (hown0.lt _ e.symm).1;omega
            have bG5 :=Bf hg5 ((hbN.block _ (lt_of_block bG)).trans bG) hne
            have g05 :=Aa bG5 (j :=1) rfl
            have fG5 :V5.frozen? ⟨w.heap.size+3,1,none⟩ =false :=by simp only [World.frozen?,bG5];rfl
            have hbb :Below w.heap.size w V5 := (hbel.trans (hbN.mono hbel.size)).grown hg5 (by omega) fun k hk=>Nat.le_trans (by omega) (hown0.lt k hk).1
            have hbl5 :Below W1.heap.size V1 V5 := (hbN.mono hbut.1).grown hg5 hbase fun k hk=> (hown0.lt k hk).1
            obtain ⟨zo2,zc2,hz2⟩ :=hst.shape
            rw [List.length_append,List.length_singleton] at hz2
            subst hz2
            have bG6 : (V5.setCell ⟨w.heap.size+3,1,none⟩ (.slice zo2 (acc.length+1) zc2)).heap[w.heap.size+3]? =some (.cells #[.slice zoF accF.length zcF,(.slice zo2 (acc.length+1) zc2)] 25) :=Cl bG5 1 _
            have hst6 :=hst.keepC (w' :=V5.setCell ⟨w.heap.size+3,1,none⟩ (.slice zo2 (acc.length+1) zc2)) (fun k hk _=>Below.heap_setCell _ _ _ k (show k≠w.heap.size+3 by rcases hk with h | h<;>omega)) (by simp [World.setCell])
            have hbut6 := (hbut.below hbl5).set 1 (.slice zo2 (acc.length+1) zc2)
            have hbe6 :Below w.heap.size w (V5.setCell ⟨w.heap.size+3,1,none⟩ (.slice zo2 (acc.length+1) zc2)) :=hbb.setCell (show w.heap.size≤w.heap.size+3 by omega) _
            go_wp2_with fail
            go_roundw
            case rel=>exact ⟨k+1,(acc++ [t]),_,_,by omega,by go_num,rfl,(HT.out.trans (by rw [if_pos HKP.out])),bG6,hst6,hbut6,hbe6⟩
            case measure=>simp [intOf];omega
      ·have hkn :k=I.length :=by omega
       subst hkn
       rw [List.take_length] at HA0
       have j1 : ¬ ((I.length :Int) < (I.length :Int)) :=by omega
       have b1' := (hbut.2 (w.heap.size+1) (by omega) (by omega)).trans b1F
       have s0 :=Aa b1' (j :=0) rfl
       have s1 :=Aa b1' (j :=1) rfl
       have s2 :=Aa b1' (j :=2) rfl
       have s3 :=Aa b1' (j :=3) rfl
       obtain ⟨be,HBE⟩ : ∃b,Hid (b= (decide (st.kind=2) && !pb)) := ⟨_,rfl⟩
       have HEND :Hid (G4 IdxD.name (decide (st.kind=2)) ⟨st.name,st.table,st.col⟩ (fun y :IdxD=> !(decide (st.kind=3) &&decide (y.table=st.name))) I=acc++if be then [⟨st.name,st.table,st.col⟩] else []) :=by show _=_;rw [G4,HA0.out,HBE.out]
       go_upto_region 22 with fail
       go_cut [133] (fun s66 wx=>s66= .bool be∧wx=V0)
       case first=>
        by_cases h1 :st.kind=2
        ·have r1 : (st.kind==2) =true :=by simp [h1]
         have HB2 :Hid (be= !pb) :=by show _=_;rw [HBE.out];simp [h1]
         clear h1
         go_wp2_with fail
         go_meet
         case rel=>exact ⟨by rw [HB2.out],rfl⟩
        ·have r1 : (st.kind==2) =false :=by simpa using h1
         have HB2 :Hid (be=false) :=by show _=_;rw [HBE.out];simp [h1]
         clear h1
         go_wp2_with fail
         go_meet
         case rel=>exact ⟨by rw [HB2.out],rfl⟩
       case rest=>
        obtain ⟨rfl,hwc⟩ :=hcut
        rw [hwc]
        clear hwc
        rename_i hr
        refine hr _ _ ?_
        go_cut [6] (fun _ wx=> ∃accG zoG zcG,Hid (G4 IdxD.name (decide (st.kind=2)) ⟨st.name,st.table,st.col⟩ (fun y :IdxD=> !(decide (st.kind=3) &&decide (y.table=st.name))) I=accG) ∧wx.heap[w.heap.size+3]? =some (.cells #[.slice zoF accF.length zcF, .slice zoG accG.length zcG] 25) ∧Bl B7 64 C W1.heap.size (.slice zoG accG.length zcG) accG wx∧Gz (w.heap.size+3) W1.heap.size W1 wx∧Below w.heap.size w wx)
        case first=>
         cases be
         ·go_wp2_with fail
          go_meet
          case rel=>exact ⟨acc,zo,zc,HEND.out.trans (by simp),bG,hA,hbut,hbel⟩
         ·have hbX :Below w.heap.size w (V0.alloc (.cells [.string st.name, .string st.table, .string st.col].toArray 64)) :=hbel.trans ((Aq _ _).mono hbel.size)
          have hbN :=Aq V0 (.cells [.string st.name, .string st.table, .string st.col].toArray 64)
          obtain ⟨cs0,hown0,hall0⟩ :=hA
          have hownN :=Az hown0 hbN
          have HALL :Hid _ :=hall0.keep (Ar hbN)
          have hnew :=Cp V0 [.string st.name, .string st.table, .string st.col] 64
          have hbase :W1.heap.size≤ (V0.alloc (.cells [.string st.name, .string st.table, .string st.col].toArray 64)).heap.size :=Nat.le_trans hbut.1 hbN.size
          have HRX :Hid (B7.R (FX C W1.heap.size (.slice zo acc.length zc)) (V0.alloc (.cells [.string st.name, .string st.table, .string st.col].toArray 64)) ⟨st.name,st.table,st.col⟩ [.string st.name, .string st.table, .string st.col]) :=rfl
          have g0 :=Aa bG (j :=1) rfl
          go_wp2_with (first | (at_builtin;go_must (refine wpList_append_own_at _ rfl _ _ 23 rfl W1.heap.size 64 i0 _ 3 48 Tryz.underlying23 ii0 iz0 iz1 iz2 rfl (by decide) _ _ _ rfl hownN ⟨V0.heap.size,0,none⟩ 1 1 [.string st.name, .string st.table, .string st.col] rfl rfl ?q3h0 ?q3h1 (by simp only [maxLen];omega) (by omega) hbase ?q3h2)))
          try (case q3h0=>simpa using hnew)
          case q3h1=>first | (simp only [List.forall_mem_cons];repeat (first | exact fun _ h=>absurd h List.not_mem_nil | refine ⟨rfl, ?_⟩)) | simp [Value.oneCell']
          case q3h2=>
           intro z2 V5 hown5 hg5 _ hat
           have hst :=Cb (K :=B7) (ty :=64) (a := ⟨st.name,st.table,st.col⟩) (by omega) (fun k hk=> (hown0.lt k hk).1) hown5 HALL.out HRX.out hg5 (by simpa using hat)
           have hne :some (w.heap.size+3) ≠ (Value.slice zo acc.length zc).ownBlock :=fun e=>by have := (hown0.lt _ e.symm).1;omega
           have bG5 :=Bf hg5 ((hbN.block _ (lt_of_block bG)).trans bG) hne
           have g05 :=Aa bG5 (j :=1) rfl
           have fG5 :V5.frozen? ⟨w.heap.size+3,1,none⟩ =false :=by simp only [World.frozen?,bG5];rfl
           have hbb :Below w.heap.size w V5 := (hbel.trans (hbN.mono hbel.size)).grown hg5 (by omega) fun k hk=>Nat.le_trans (by omega) (hown0.lt k hk).1
           have hbl5 :Below W1.heap.size V0 V5 := (hbN.mono hbut.1).grown hg5 hbase fun k hk=> (hown0.lt k hk).1
           obtain ⟨zo2,zc2,hz2⟩ :=hst.shape
           rw [List.length_append,List.length_singleton] at hz2
           subst hz2
           have bG6 : (V5.setCell ⟨w.heap.size+3,1,none⟩ (.slice zo2 (acc.length+1) zc2)).heap[w.heap.size+3]? =some (.cells #[.slice zoF accF.length zcF,(.slice zo2 (acc.length+1) zc2)] 25) :=Cl bG5 1 _
           have hst6 :=hst.keepC (w' :=V5.setCell ⟨w.heap.size+3,1,none⟩ (.slice zo2 (acc.length+1) zc2)) (fun k hk _=>Below.heap_setCell _ _ _ k (show k≠w.heap.size+3 by rcases hk with h | h<;>omega)) (by simp [World.setCell])
           have hbut6 := (hbut.below hbl5).set 1 (.slice zo2 (acc.length+1) zc2)
           have hbe6 :Below w.heap.size w (V5.setCell ⟨w.heap.size+3,1,none⟩ (.slice zo2 (acc.length+1) zc2)) :=hbb.setCell (show w.heap.size≤w.heap.size+3 by omega) _
           go_wp2_with fail
           go_meet
           case rel=>exact ⟨acc++ [⟨st.name,st.table,st.col⟩],zo2,zc2,HEND.out.trans (by simp),by rw [List.length_append,List.length_singleton];exact bG6,by rw [List.length_append,List.length_singleton];exact hst6,hbut6,hbe6⟩
        case rest=>
         obtain ⟨accG,zoG,zcG,HG,bGG,hAG,hbutG,hbelG⟩ :=hcut
         obtain ⟨V2,hV2⟩ : ∃V,V=wc := ⟨_,rfl⟩
         subst hV2
         have bR := (hbutG.2 (w.heap.size+2) (by omega) (by omega)).trans b2F
         have c0 :=Aa bGG (j :=0) rfl
         have c1 :=Aa bGG (j :=1) rfl
         have r0 :=Aa bR (j :=0) rfl
         have r1 :=Aa bR (j :=1) rfl
         have rf : ∀o,V2.frozen? ⟨w.heap.size+2,o,none⟩ =false :=fun o=>by simp only [World.frozen?,bR];rfl
         have HC :Hid (Jg ⟨T,I⟩ st= ⟨accF,accG⟩) :=by show _=_;rw [Yi T I st hrT hrI,HF.out,HG.out]
         go_wp2_with fail
         refine bodyPost_ret (v := .agg #[.slice zoF accF.length zcF, .slice zoG accG.length zcG]) (results_cell_row Tryz.results20 _ _ (w.heap.size+2) 25 #[.slice zoF accF.length zcF, .slice zoG accG.length zcG] _ _ rfl (Ix bR _ _) Tryz.underlying25 rfl (by kernel_rfl)) rfl ?_
         have hk :Keeps (fun k=>k≠w.heap.size+2) V2 ((V2.setCell ⟨w.heap.size+2,0,none⟩ (.slice zoF accF.length zcF)).setCell ⟨w.heap.size+2,1,none⟩ (.slice zoG accG.length zcG)) := ((Keeps.refl _ _).set (fun h=>h rfl) _ _).set (fun h=>h rfl) _ _
         have hTF :IsL A4 (fun k=> (k<C∨W0.heap.size≤k) ∧k<W1.heap.size) W1 (.slice zoF accF.length zcF) accF :=hAF.isL.mono fun k hk h=> ⟨h,hk⟩
         have hTV :=hTF.keep (w' :=V2) ⟨hbutG.1,fun k hk _=>hbutG.2 k hk.2 (by rcases hk.1 with h | h<;>omega)⟩
         rw [HC.out]
         refine ⟨_,rfl,⟨_,_,rfl, ?_, ?_⟩,(hbelG.setCell (show w.heap.size≤w.heap.size+2 by omega) _).setCell (show w.heap.size≤w.heap.size+2 by omega) _⟩
         ·exact (hTV.keep (hk.mono fun k h=>by rcases h.1 with h | h<;>omega)).mono fun k _ h=>h.1.imp id (fun h=>by omega)
         ·exact (hAG.isL.keep (hk.mono fun k h=>by rcases h with h | h<;>omega)).mono fun k _ h=>h.imp id (fun h=>by omega)
end Go.Proofs.YtmgkcjiejmhgcaaGreatDoor

