/-
  1 texts of this proof in one, in build order: BBindO.
-/
import Derived.Test.YtmgkcjiejmhgcaaGreatDoorJ22
import Derived.Test.YtmgkcjiejmhgcaaGreatDoorJ30
set_option linter.unusedSimpArgs false
set_option linter.unusedVariables false
namespace Go.Proofs.YtmgkcjiejmhgcaaGreatDoor
open Go.RowKit Go.Maps
theorem Yb (ts :List Int) {t :Int} (h :t=0∨t=1∨t=2∨t=3) : (Kg ts).setIfInBounds t.toNat (.bool true) =Kg (ts++ [t]) :=by
 rcases h with rfl | rfl | rfl | rfl<;>simp [Kg]
theorem Up {S :List TabD} (hu : ∀t∈S,Is t.cols) (ht : ∀t∈S,∀c∈t.cols,c.ty=1∨c.ty=2) {d :Nat} {e :E} (hg :geB d e=true) {r :E×Int} (h :A3 S e= .ok r) :r.2=0∨r.2=1∨r.2=2∨r.2=3 :=by
 cases d with
 | zero=>cases e;cases hg
 | succ d=>
 cases e with
 | mk op x s name n l=>
 by_cases h1 :op=1
 ·subst h1
  rw [Le] at h
  cases h
  simp only [geB,E9,if_true,Bool.and_eq_true] at hg
  have :=hg.1.2
  unfold Go.Proofs.YtmgkcjiejmhgcaaGreatDoor.Ey at this
  simp only
  split at this
  ·exact .inl ‹_›
  ·split at this
   ·exact .inr (.inl ‹_›)
   ·split at this
    ·exact .inr (.inr (.inl ‹_›))
    ·cases this
 ·by_cases h2 :op=2
  ·subst h2
   rw [Lf] at h
   split at h
   ·rename_i hf
    cases h
    obtain ⟨_,_,d3⟩ :=Nf s name n S hu
    obtain ⟨_,p,hp,hk⟩ :=d3 (by omega)
    have hm :=List.mem_of_getElem? hp
    simp only [Ax,List.mem_flatMap,List.mem_map] at hm
    obtain ⟨t,htm,c,hc,rfl⟩ :=hm
    have :=ht t htm c hc
    simp only at hk⊢
    omega
   ·cases h
  ·rw [J5 S h1 h2] at h
   split at h
   ·cases h
   ·split at h
    ·cases h
     simp only [Gw]
     split<;>simp
    ·cases h
set_option maxRecDepth 100000 in
set_option maxHeartbeats 16000000 in
theorem Yc (S :List TabD) (hu : ∀t∈S,Is t.cols) (ht : ∀t∈S,∀c∈t.cols,c.ty=1∨c.ty=2) (d :Nat) (ih :Y6 S d) (op :Int) (h2 :op≠2) (x :V) (s name :Wd) (n :Int) (l :List E) (ao :Option Addr) (c C :Nat) (cv :Value) (w :World) (hes :IsL As (fun k=>k<C) w (.slice ao l.length c) l) (hl :IsL B8 (fun k=>k<C) w cv (Ax S)) (hC :C≤w.heap.size) (hop :1≤op∧op≤10) (hla :op=1→l= []) (hl2 :l.length≤2) (hg : ∀a∈l,geB d a=true) :
  Calls Tryz.prog 28 #[cv, .agg (Ad op x s name n (.slice ao l.length c))] w fun r w'=> (∃v,r= .returned v∧Er S (.mk op x s name n l) w.heap.size w' v) ∧Below w.heap.size w w' :=by
 obtain ⟨co,cc,rfl⟩ :=hl.shape
 obtain ⟨xk,xn,xs⟩ :=x
 obtain ⟨i0,hi,hz0,hz1,hz2⟩ :=info_parts Eb
 have e2 : (op==2) =false :=by simpa using h2
 have hb3 :=Fc w (.cells (Ad op ⟨xk,xn,xs⟩ s name n (.slice ao l.length c)) 34) (.cells #[.int .i64 0, .int .i64 0, .int .i64 0, .string ⟨#[]⟩, .string ⟨#[]⟩, .string ⟨#[]⟩, .int .i64 0, .slice none 0 0] 34) (.cells #[.bool false, .bool false, .bool false, .bool false] 98)
 have hB0 :=Ae (Ae (Ab w (.cells (Ad op ⟨xk,xn,xs⟩ s name n (.slice ao l.length c)) 34)) (.cells #[.int .i64 0, .int .i64 0, .int .i64 0, .string ⟨#[]⟩, .string ⟨#[]⟩, .string ⟨#[]⟩, .int .i64 0, .slice none 0 0] 34)) (.cells #[.bool false, .bool false, .bool false, .bool false] 98)
 have hB1 : ((((w.alloc (.cells (Ad op ⟨xk,xn,xs⟩ s name n (.slice ao l.length c)) 34)).alloc (.cells #[.int .i64 0, .int .i64 0, .int .i64 0, .string ⟨#[]⟩, .string ⟨#[]⟩, .string ⟨#[]⟩, .int .i64 0, .slice none 0 0] 34))).alloc (.cells #[.bool false, .bool false, .bool false, .bool false] 98)).heap[w.heap.size+1]? =some (.cells (Ad 0 zero noW noW 0 (.slice none 0 0)) 34) :=Ae (A0 _ _ _) _
 have hB2 : (((w.alloc (.cells (Ad op ⟨xk,xn,xs⟩ s name n (.slice ao l.length c)) 34)).alloc (.cells #[.int .i64 0, .int .i64 0, .int .i64 0, .string ⟨#[]⟩, .string ⟨#[]⟩, .string ⟨#[]⟩, .int .i64 0, .slice none 0 0] 34)).alloc (.cells #[.bool false, .bool false, .bool false, .bool false] 98)).heap[w.heap.size+2]? =some (.cells (Kg []) 98) :=by rw [show Kg [] = (#[.bool false, .bool false, .bool false, .bool false] :Array Value) from by simp [Kg]];exact Dl _ _ _ _
 generalize hW : ((w.alloc (.cells (Ad op ⟨xk,xn,xs⟩ s name n (.slice ao l.length c)) 34)).alloc (.cells #[.int .i64 0, .int .i64 0, .int .i64 0, .string ⟨#[]⟩, .string ⟨#[]⟩, .string ⟨#[]⟩, .int .i64 0, .slice none 0 0] 34)).alloc (.cells #[.bool false, .bool false, .bool false, .bool false] 98) =W0 at hb3 hB0 hB1 hB2
 have HW :Hid _ :=hW
 have hb2 :=Bz w (.cells (Ad op ⟨xk,xn,xs⟩ s name n (.slice ao l.length c)) 34) (.cells #[.int .i64 0, .int .i64 0, .int .i64 0, .string ⟨#[]⟩, .string ⟨#[]⟩, .string ⟨#[]⟩, .int .i64 0, .slice none 0 0] 34)
 have z0 :=Aa (Ae (Ab w (.cells (Ad op ⟨xk,xn,xs⟩ s name n (.slice ao l.length c)) 34)) (.cells #[.int .i64 0, .int .i64 0, .int .i64 0, .string ⟨#[]⟩, .string ⟨#[]⟩, .string ⟨#[]⟩, .int .i64 0, .slice none 0 0] 34)) (j :=0) rfl
 have z7 :=Aa hB0 (j :=7) rfl
 clear hW h2
 go_enter Tryz.func28,Tryz.ntmps28
 go_upto_region 16 with fail
 rw [HW.out]
 have HU :Hid _ :=hu
 have HTY :Hid _ :=ht
 have HIH :Hid _ :=ih
 have HG :Hid _ :=hg
 have HLA :Hid _ :=hla
 have hs3 :=hb3.size
 have hl3 :=lt_of_block hB2
 clear z0 hb2 HW hu ht ih hg hla
 go_wp2_with fail
 go_loopw [11,67] (fun zv i wr=> ∃ (j :Nat) (rs :List (E×Int)),j≤l.length∧i= .int .i64 j∧Hid (Bb S (l.take j) = .ok rs∧rs.length=j∧ ∀r∈rs,r.2=0∨r.2=1∨r.2=2∨r.2=3) ∧wr.heap[w.heap.size+2]? =some (.cells (Kg (rs.map Prod.snd)) 98) ∧Bl As 34 0 W0.heap.size zv (rs.map Prod.fst) wr∧Gz (w.heap.size+2) W0.heap.size W0 wr∧Below w.heap.size w wr) (fun _ i _=>l.length - (intOf i).toNat)
 case atStart=>exact ⟨0,[],Nat.zero_le _,rfl,⟨by rw [List.take_zero,Bb],rfl,fun _ h=>by cases h⟩,hB2,Ed _ _ _ _ _,Gz.refl _ _ _,hb3⟩
 case round=>
  obtain ⟨j,rs,hj,rfl,HQ,bS,hA,hbut,hbel⟩ :=hrel
  obtain ⟨V0,hV0⟩ : ∃V,V=wr := ⟨_,rfl⟩
  subst hV0
  have hvs :=hbut.1
  have bE := (hbut.2 w.heap.size (by omega) (by omega)).trans hB0
  have bZ := (hbut.2 (w.heap.size+1) (by omega) (by omega)).trans hB1
  have hone0 :=A8 0 zero noW noW 0 none 0 0
  obtain ⟨zo,zc,hzv⟩ :=hA.shape
  rw [List.length_map] at hzv
  subst hzv
  by_cases hjl :j<l.length
  ·obtain ⟨a,ha⟩ : ∃a,l[j]? =some a := ⟨_,List.getElem?_eq_getElem hjl⟩
   have HT :Hid (l.take (j+1) =l.take j++ [a]) :=by show _=_;rw [List.take_add_one,ha];rfl
   have hga :=HG.out a (List.mem_of_getElem? ha)
   obtain ⟨b,off,cs,hso,hbC,hb,hR,hcell⟩ :=Av (hes.keep (Ag (hbel.mono hC))) ha
   cases hso
   obtain ⟨yo,yk,yi,ys2,ys,ym,yn,ya,yl,yc,rfl⟩ :=Cm hR
   have d0 :=hcell 0 _ rfl
   have d1 :=hcell 1 _ rfl
   have d2 :=hcell 2 _ rfl
   have d3 :=hcell 3 _ rfl
   have d4 :=hcell 4 _ rfl
   have d5 :=hcell 5 _ rfl
   have d6 :=hcell 6 _ rfl
   have d7 :=hcell 7 _ rfl
   simp only [As,Nat.add_zero] at d0 d1 d2 d3 d4 d5 d6 d7
   have j0 : (0 :Int) ≤ (j :Int) :=by omega
   have j1 : (j :Int) < (l.length :Int) :=by omega
   have hbx :=Aq V0 (.cells (Ad yo ⟨yk,yi,ys2⟩ ys ym yn (.slice ya yl yc)) 34)
   have IH :=HIH.out a (.agg (Ad yo ⟨yk,yi,ys2⟩ ys ym yn (.slice ya yl yc))) (.slice co (Ax S).length cc) C (V0.alloc (.cells (Ad yo ⟨yk,yi,ys2⟩ ys ym yn (.slice ya yl yc)) 34)) (IsE.keep (Ag ((hbx.mono hbel.size).mono hC)) _ _ hR.2) (hl.keep (Ag ((hbel.trans (hbx.mono hbel.size)).mono hC))) (Nat.le_trans hC (Nat.le_trans hbel.size hbx.size)) hga
   have HBT :Hid (∀r,A3 S a= .ok r→r.2=0∨r.2=1∨r.2=2∨r.2=3) :=fun r h=>Up HU.out HTY.out hga h
   have HSN :Hid (Bb S (l.take (j+1)) =match A3 S a with | .error m=> .error m | .ok r=> .ok (rs++ [r])) :=by show _=_;rw [HT.out,Ei,HQ.out.1];cases A3 S a<;>rfl
   have hV1 : (V0.alloc (.cells (Ad yo ⟨yk,yi,ys2⟩ ys ym yn (.slice ya yl yc)) 34)).heap.size=V0.heap.size+1 :=by simp
   have hop1 :op≠1 :=fun e=>by rw [HLA.out e] at hjl;simp at hjl
   have HB :Hid (A3 S (.mk op ⟨xk,xn,xs⟩ s name n l) =match Bb S l with
     | .error m=> .error m
     | .ok r=>if I4 op (r.map Prod.snd) then .ok (.mk op ⟨xk,xn,xs⟩ s name n (r.map Prod.fst),Gw op) else .error 5) :=J5 S hop1 (by simpa using e2) _ _ _ _ _
   have bY :=Ab V0 (.cells (Ad yo ⟨yk,yi,ys2⟩ ys ym yn (.slice ya yl yc)) 34)
   generalize hV1e :V0.alloc (.cells (Ad yo ⟨yk,yi,ys2⟩ ys ym yn (.slice ya yl yc)) 34) =V1 at*
   have HV1 :Hid _ :=hV1e
   clear hcell ha hR hga HT hop1 hV1e
   obtain ⟨y0,y1,y2,y3,y4,y5,y6,y7⟩ :=H0 bY
   simp only at y1 y2 y3
   go_upto_region 19 with fail
   rw [HV1.out]
   rcases hbr :A3 S a with m | r
   ·have HE :Hid (A3 S (.mk op ⟨xk,xn,xs⟩ s name n l) = .error m) :=by
     show _=_
     have hs :=HSN.out
     rw [hbr] at hs
     have :=E5 S (l.take (j+1)) (l.drop (j+1)) m hs
     rw [List.take_append_drop] at this
     rw [HB.out,this]
    have hm :m=3∨m=5 :=Ew S a m hbr
    have IH2 :=IH.mono (R' :=fun e w'=>e= .returned (.tuple #[.agg (Ad 0 zero noW noW 0 (.slice none 0 0)), .int .i64 0, .int .i64 m]) ∧Below V1.heap.size V1 w') (by
     rintro e w' ⟨⟨v,rfl,hv⟩,hb'⟩
     obtain rfl := (A9 hbr).1 hv
     exact ⟨rfl,hb'⟩)
    have q1 : (m !=0) =true :=by rcases hm with rfl | rfl<;>rfl
    have hl1 :=lt_of_block bZ
    clear IH hbr HB HSN HBT HQ hm
    go_wp2_with (first | (go_at_call 28;go_fit IH2;rintro e W1 ⟨rfl,hb1⟩;have hbT :Below V0.heap.size V0 W1 :=Ak hbx hb1;have bZ1 :=Ae ((hbT.block _ hl1).trans bZ) (.cells #[.int .i64 0, .int .i64 0, .int .i64 0, .string ⟨#[]⟩, .string ⟨#[]⟩, .string ⟨#[]⟩, .int .i64 0, .slice none 0 0] 34)) | (refine wpList_store_row rfl 34 _ _ rfl (w.heap.size+1) (Ad 0 zero noW noW 0 (.slice none 0 0)) ?_ ?_ 34 (Ad 0 zero noW noW 0 (.slice none 0 0)) ?_ ?_ ?_ ?_ ?_;exact rfl;exact rfl;exact bZ1;exact Ai;exact rfl;exact hone0))
    have hbw1 :Below w.heap.size w W1 :=hbel.trans (hbT.mono hbel.size)
    exact bodyPost_ret (v := .tuple #[.agg (Ad 0 zero noW noW 0 (.slice none 0 0)), .int .i64 0, .int .i64 m]) (Ay Tryz.results28 _ _ (w.heap.size+1) 34 _ _ _ _ _ rfl rfl rfl (An bZ1) Tryz.underlying34 rfl Ai) rfl ⟨⟨_,rfl,(A9 HE.out).2 rfl⟩,Below.row (hbw1.alloc (Nat.le_trans hbel.size hbT.size) _) (by omega) _⟩
   ·obtain ⟨r1,r2⟩ :=r
    have hr2 :r2=0∨r2=1∨r2=2∨r2=3 :=HBT.out _ hbr
    have IH2 :=IH.mono (R' :=fun e w'=> ∃op2 x2k x2n x2s s2 nm2 n2 ao2 k2 c2,e= .returned (.tuple #[.agg (Ad op2 ⟨x2k,x2n,x2s⟩ s2 nm2 n2 (.slice ao2 k2 c2)), .int .i64 r2, .int .i64 0]) ∧IsE (Fr V1.heap.size) w' r1 (.agg (Ad op2 ⟨x2k,x2n,x2s⟩ s2 nm2 n2 (.slice ao2 k2 c2))) ∧Below V1.heap.size V1 w') (by
     rintro e w' ⟨⟨v,rfl,hv⟩,hb'⟩
     obtain ⟨op2,⟨x2k,x2n,x2s⟩,s2,nm2,n2,ao2,k2,c2,rfl,hE'⟩ := (Bi hbr).1 hv
     exact ⟨op2,x2k,x2n,x2s,s2,nm2,n2,ao2,k2,c2,rfl,hE',hb'⟩)
    have HS1 :Hid (Bb S (l.take (j+1)) = .ok (rs++ [(r1,r2)]) ∧ (rs++ [(r1,r2)]).length=j+1∧ ∀r∈rs++ [(r1,r2)],r.2=0∨r.2=1∨r.2=2∨r.2=3) :=by
     refine ⟨?_,by rw [List.length_append,HQ.out.2.1];rfl,fun r hr=> ?_⟩
     ·have :=HSN.out;rw [hbr] at this;exact this
     ·rcases List.mem_append.1 hr with h | h
      ·exact HQ.out.2.2 r h
      ·rw [List.mem_singleton] at h;rw [h];exact hr2
    have HRL :Hid (rs.length=j) :=HQ.out.2.1
    have hlS :=lt_of_block bS
    have HA :Hid _ :=hA
    clear IH hbr HB HSN HBT HQ bZ hA hone0 bE
    go_upto_region 20 with (go_at_call 28;go_fit IH2;rintro e W1 ⟨op2,x2k,x2n,x2s,s2,nm2,n2,ao2,k2,c2,rfl,hE2,hb1⟩)
    have hbT :Below V0.heap.size V0 W1 :=Ak hbx hb1
    have bG :=Ab W1 (.cells (Ad op2 ⟨x2k,x2n,x2s⟩ s2 nm2 n2 (.slice ao2 k2 c2)) 34)
    have hb12 :=Aq W1 (.cells (Ad op2 ⟨x2k,x2n,x2s⟩ s2 nm2 n2 (.slice ao2 k2 c2)) 34)
    have hb02 :Below V0.heap.size V0 (W1.alloc (.cells (Ad op2 ⟨x2k,x2n,x2s⟩ s2 nm2 n2 (.slice ao2 k2 c2)) 34)) :=Ak hbT hb12
    have hE3 :=IsE.keep (Ar hb12) _ _ hE2
    generalize W1.alloc (.cells (Ad op2 ⟨x2k,x2n,x2s⟩ s2 nm2 n2 (.slice ao2 k2 c2)) 34) =W2 at*
    obtain ⟨x0,x1,x2,x3,x4,x5,x6,x7⟩ :=H0 bG
    simp only at x1 x2 x3
    have hb23 :=Aq W2 (.cells [.int .i64 op2, .int .i64 x2k, .int .i64 x2n, .string x2s, .string s2, .string nm2, .int .i64 n2, .slice ao2 k2 c2].toArray 34)
    have hb03 :Below V0.heap.size V0 (W2.alloc (.cells [.int .i64 op2, .int .i64 x2k, .int .i64 x2n, .string x2s, .string s2, .string nm2, .int .i64 n2, .slice ao2 k2 c2].toArray 34)) :=Ak hb02 hb23
    obtain ⟨cs0,hown0,hall0⟩ :=HA.out
    rw [List.length_map,HRL.out] at hown0
    have hown3 :=Az hown0 hb03
    have HALL :Hid _ :=hall0.keep (Ar hb03)
    have hnew :=Cp W2 [.int .i64 op2, .int .i64 x2k, .int .i64 x2n, .string x2s, .string s2, .string nm2, .int .i64 n2, .slice ao2 k2 c2] 34
    have hbase :W0.heap.size≤ (W2.alloc (.cells [.int .i64 op2, .int .i64 x2k, .int .i64 x2n, .string x2s, .string s2, .string nm2, .int .i64 n2, .slice ao2 k2 c2].toArray 34)).heap.size :=Nat.le_trans hvs hb03.size
    have HRX :Hid (As.R (FX 0 W0.heap.size (.slice zo rs.length zc)) (W2.alloc (.cells [.int .i64 op2, .int .i64 x2k, .int .i64 x2n, .string x2s, .string s2, .string nm2, .int .i64 n2, .slice ao2 k2 c2].toArray 34)) r1 [.int .i64 op2, .int .i64 x2k, .int .i64 x2n, .string x2s, .string s2, .string nm2, .int .i64 n2, .slice ao2 k2 c2]) :=by
     refine ⟨rfl,IsE.mono (fun k hk h=> .inr ⟨?_,fun e=> ?_⟩) _ _ (IsE.keep (Ar hb23) _ _ hE3)⟩
     ·have :V1.heap.size≤k :=h
      omega
     ·have h1 :V1.heap.size≤k :=h
      rw [HRL.out] at e
      have := (hown0.lt k e.symm).2
      omega
    rw [HRL.out] at HRX HALL
    rw [HRL.out]
    clear hE2 hE3 hall0 IH2 bY d0 d1 d2 d3 d4 d5 d6 d7 y0 y1 y2 y3 y4 y5 y6 y7
    go_wp2_with (first | (at_builtin;go_must (refine wpList_append_own_at _ rfl _ _ 30 rfl W0.heap.size 34 i0 _ 8 104 Tryz.underlying30 hi hz0 hz1 hz2 rfl (by decide) _ _ _ rfl hown3 ⟨W2.heap.size,0,none⟩ 1 1 [.int .i64 op2, .int .i64 x2k, .int .i64 x2n, .string x2s, .string s2, .string nm2, .int .i64 n2, .slice ao2 k2 c2] rfl rfl ?h0 ?h1 (by simp only [maxLen];omega) (by omega) hbase ?h2)))
    case h0=>simpa using hnew
    case h1=>simp only [List.forall_mem_cons];repeat (first | exact fun _ h=>absurd h List.not_mem_nil | refine ⟨rfl, ?_⟩)
    case h2=>
     intro z2 W4 hown4 hg4 _ hat
     have hst :=Cb (K :=As) (ty :=34) (A :=rs.map Prod.fst) (a :=r1) (Nat.zero_le _) (fun k hk=> (hown0.lt k hk).1) (by rw [List.length_map,HRL.out];exact hown4) HALL.out HRX.out hg4 (by simpa using hat)
     have hne :some (w.heap.size+2) ≠ (Value.slice zo j zc).ownBlock :=fun e=>by have := (hown0.lt _ e.symm).1;omega
     have bS4 :=Bf hg4 ((hb03.block _ hlS).trans bS) hne
     have hbb :Below w.heap.size w W4 := (hbel.trans (hb03.mono hbel.size)).grown hg4 (by omega) fun k hk=>Nat.le_trans (by omega) (hown0.lt k hk).1
     have hbl4 :Below W0.heap.size V0 W4 := (hb03.mono hvs).grown hg4 hbase fun k hk=> (hown0.lt k hk).1
     have sS :=Yb (rs.map Prod.snd) hr2
     have bS5 :=Cl bS4 r2.toNat (.bool true)
     rw [sS] at bS5
     have hst5 :=hst.keepLow (w' :=W4.setCell ⟨w.heap.size+2,r2.toNat,none⟩ (.bool true)) (fun k hk _=>Below.heap_setCell _ _ _ k (show k≠w.heap.size+2 by omega)) (by simp [World.setCell])
     have hbut5 := (hbut.below hbl4).set r2.toNat (.bool true)
     have hbe5 :Below w.heap.size w (W4.setCell ⟨w.heap.size+2,r2.toNat,none⟩ (.bool true)) :=hbb.setCell (show w.heap.size≤w.heap.size+2 by omega) _
     have fS : ∀o,W4.frozen? ⟨w.heap.size+2,o,none⟩ =false :=fun o=>by simp only [World.frozen?,bS4];rfl
     have s0 :=Aa bS4 (j :=0) rfl
     have s1 :=Aa bS4 (j :=1) rfl
     have s2' :=Aa bS4 (j :=2) rfl
     have s3 :=Aa bS4 (j :=3) rfl
     clear bS4 sS hst hbut hbb
     rcases hr2 with rfl | rfl | rfl | rfl
     all_goals
      go_wp2_with fail
      go_roundw
      case rel=>exact ⟨j+1,rs++ [(r1,_)],by omega,by go_num,HS1.out,by rw [List.map_append];exact bS5,by rw [List.map_append];exact hst5,hbut5,hbe5⟩
      case measure=>simp [intOf];omega
  ·have hjn :j=l.length :=by omega
   subst hjn
   have HRL :Hid (rs.length=l.length) :=HQ.out.2.1
   have HQ2 :Hid (Bb S l= .ok rs) :=by have :=HQ.out.1;rwa [List.take_length] at this
   have hts : ∀t∈rs.map Prod.snd,t=0∨t=1∨t=2∨t=3 :=fun t h=>by
    obtain ⟨r,hr,rfl⟩ :=List.mem_map.1 h
    exact HQ.out.2.2 r hr
   have HO1 :Hid (Ji (rs.map Prod.snd) 1=Dh (rs.map Prod.snd) 1) :=Lw hts (by simp)
   have HO2 :Hid (Ji (rs.map Prod.snd) 2=Dh (rs.map Prod.snd) 2) :=Lw hts (by simp)
   have HO3 :Hid (Ji (rs.map Prod.snd) 3=Dh (rs.map Prod.snd) 3) :=Lw hts (by simp)
   have j1 : ¬ ((l.length :Int) < (l.length :Int)) :=by omega
   have e7 :=Aa bE (j :=7) rfl
   have f7 :V0.frozen? ⟨w.heap.size,7,none⟩ =false :=by simp only [World.frozen?,bE];rfl
   have bE1 : (V0.setCell ⟨w.heap.size,7,none⟩ (.slice zo rs.length zc)).heap[w.heap.size]? =some (.cells (Ad op ⟨xk,xn,xs⟩ s name n (.slice zo rs.length zc)) 34) :=Cl bE 7 _
   have bZ1 := (Below.heap_setCell V0 ⟨w.heap.size,7,none⟩ (.slice zo rs.length zc) (w.heap.size+1) (show w.heap.size+1≠w.heap.size by omega)).trans bZ
   have bS1 := (Below.heap_setCell V0 ⟨w.heap.size,7,none⟩ (.slice zo rs.length zc) (w.heap.size+2) (show w.heap.size+2≠w.heap.size by omega)).trans bS
   have hbV :Below w.heap.size w (V0.setCell ⟨w.heap.size,7,none⟩ (.slice zo rs.length zc)) :=hbel.setCell (Nat.le_refl _) _
   have hz :IsL As (fun k=>w.heap.size+2<k) V0 (.slice zo rs.length zc) (rs.map Prod.fst) :=hA.isL.mono fun k _ h=>by
    rcases h with h | h
    ·exact absurd h (Nat.not_lt_zero _)
    ·show w.heap.size+2<k;omega
   have HZF :Hid (IsL As (Fr w.heap.size) ((V0.setCell ⟨w.heap.size,7,none⟩ (.slice zo rs.length zc)).setRow (w.heap.size+1) (Ad op ⟨xk,xn,xs⟩ s name n (.slice zo rs.length zc))) (.slice zo rs.length zc) (rs.map Prod.fst)) := (hz.keep (((Keeps.refl _ _).set (show ¬w.heap.size+2<w.heap.size by omega) _ _).row (show ¬w.heap.size+2<w.heap.size+1 by omega) _)).mono fun k _ h=> (show w.heap.size≤k by omega)
   have hone :=A8 op ⟨xk,xn,xs⟩ s name n zo rs.length zc
   clear hz hA hts HQ bE bZ bS hes HIH HG HU HTY
   go_upto_region 26 with fail
   generalize V0.setCell ⟨w.heap.size,7,none⟩ (.slice zo rs.length zc) =V1 at*
   have o0 :=Aa bE1 (j :=0) rfl
   have ON :=fun want=>Ya (decide (0∈rs.map Prod.snd)) (decide (1∈rs.map Prod.snd)) (decide (2∈rs.map Prod.snd)) (decide (3∈rs.map Prod.snd)) want (w.heap.size+2) 98 V1 bS1
   by_cases h1 :op=1
   ·subst h1
    have hl0 :=HLA.out rfl
    subst hl0
    have hrs :rs= [] :=List.eq_nil_of_length_eq_zero HRL.out
    subst hrs
    have HE :Hid (A3 S (.mk 1 ⟨xk,xn,xs⟩ s name n []) = .ok (.mk 1 ⟨xk,xn,xs⟩ s name n [],xk)) :=Le S _ _ _ _ _
    have k1 :=Aa bE1 (j :=1) rfl
    have HK0 :Hid (V1.drew.heap[w.heap.size]? =some (.cells (Ad 1 ⟨xk,xn,xs⟩ s name n (.slice zo 0 zc)) 34) ∧V1.drew.cell? ⟨w.heap.size,1,none⟩ =some (.int .i64 xk)) := ⟨bE1,k1⟩
    have hrow : (V1.drew.setRow (w.heap.size+1) (Ad 1 ⟨xk,xn,xs⟩ s name n (.slice zo 0 zc))).heap[w.heap.size]? =some (.cells (Ad 1 ⟨xk,xn,xs⟩ s name n (.slice zo 0 zc)) 34) :=Aw bE1 (by omega) _
    have HK1 :Hid ((V1.drew.setRow (w.heap.size+1) (Ad 1 ⟨xk,xn,xs⟩ s name n (.slice zo 0 zc))).heap[w.heap.size]? =some (.cells (Ad 1 ⟨xk,xn,xs⟩ s name n (.slice zo 0 zc)) 34) ∧ (V1.drew.setRow (w.heap.size+1) (Ad 1 ⟨xk,xn,xs⟩ s name n (.slice zo 0 zc))).cell? ⟨w.heap.size,1,none⟩ =some (.int .i64 xk)) := ⟨hrow,Aa hrow (j :=1) rfl⟩
    clear ON HO1 HO2 HO3 HQ2 HLA HRL hop
    go_upto_region 28 with fail
    refine wp_region_held_drew (S :=fun W=>W.heap[w.heap.size]? =some (.cells (Ad 1 ⟨xk,xn,xs⟩ s name n (.slice zo 0 zc)) 34) ∧W.cell? ⟨w.heap.size,1,none⟩ =some (.int .i64 xk)) (by kernel_rfl) ?_ (fun hHeld=> ?_)
    ·exact HK0.out
    refine wpAnyH_take (i :=0) (oi := {dst :=some 96,op :=Go.Op.load 34 (Go.Operand.tmp 3),type :=34,pos := "high.go:219",after := #[],guard :=none}) (v := .agg (Ad 1 ⟨xk,xn,xs⟩ s name n (.slice zo 0 zc))) rfl (by kernel_rfl) (by kernel_rfl) (by kernel_rfl) (fun _ _ _ h=>h) (Bt rfl 34 _ rfl w.heap.size rfl (Ad 1 ⟨xk,xn,xs⟩ s name n (.slice zo 0 zc)) 34 _ (fun _ h=>h.1) Tryz.underlying34 rfl Ai) (by assumption) ?_
    try simp only [Act.put,List.setIfInBounds_toArray,List.set_cons_zero,List.set_cons_succ]
    refine wpAnyH_take (i :=1) (oi := {dst :=some 97,op :=Go.Op.fieldAddr 34 (Go.Operand.tmp 3) 1,type :=0,pos := "high.go:219",after := #[{on :=4,ground :=Go.Ground.gcOnly Go.Departure.lateStores}],guard :=none}) (v := ?_) rfl (by kernel_rfl) (by kernel_rfl) (by kernel_rfl) (fun _ _ _ h=>h) (Or.inl ⟨by rfl, ?_⟩) (by assumption) ?_
    rotate_left
    ·intro w hSw;(try dsimp only at hSw);go_simp;all_goals (with_reducible rfl)
    try simp only [Act.put,List.setIfInBounds_toArray,List.set_cons_zero,List.set_cons_succ]
    refine wpAnyH_take (i :=2) (oi := {dst :=some 98,op :=Go.Op.fieldAddr 32 (Go.Operand.tmp 97) 0,type :=0,pos := "high.go:219",after := #[{on :=1,ground :=Go.Ground.data},{on :=4,ground :=Go.Ground.gcOnly Go.Departure.lateStores}],guard :=none}) (v := ?_) rfl (by kernel_rfl) (by kernel_rfl) (by kernel_rfl) (fun _ _ _ h=>h) (Or.inl ⟨by rfl, ?_⟩) (by assumption) ?_
    rotate_left
    ·intro w hSw;(try dsimp only at hSw);go_simp;all_goals (with_reducible rfl)
    try simp only [Act.put,List.setIfInBounds_toArray,List.set_cons_zero,List.set_cons_succ]
    refine wpAnyH_take (i :=3) (oi := {dst :=some 99,op :=Go.Op.load 3 (Go.Operand.tmp 98),type :=3,pos := "high.go:219",after := #[{on :=2,ground :=Go.Ground.data},{on :=4,ground :=Go.Ground.gcOnly Go.Departure.lateStores}],guard :=none}) (v := ?_) rfl (by kernel_rfl) (by kernel_rfl) (by kernel_rfl) (fun _ _ _ h=>h) (Or.inl ⟨by rfl, ?_⟩) (by assumption) ?_
    rotate_left
    ·intro w hSw;(try dsimp only at hSw);go_simp;all_goals (with_reducible rfl)
    try simp only [Act.put,List.setIfInBounds_toArray,List.set_cons_zero,List.set_cons_succ]
    refine wpAnyH_ready (rs := [4]) (by kernel_rfl) (by simp) ?_
    refine (AllReadyH.cons (o := {dst :=none,op :=Go.Op.store 34 (Go.Operand.tmp 4) (Go.Operand.tmp 96),type :=0,pos := "high.go:219",after := #[{on :=0,ground :=Go.Ground.data},{on :=0,ground :=Go.Ground.phase},{on :=1,ground :=Go.Ground.textOnly Go.Departure.lateStores},{on :=2,ground :=Go.Ground.textOnly Go.Departure.lateStores},{on :=3,ground :=Go.Ground.textOnly Go.Departure.lateStores}],guard :=none}) rfl (fun K hK=> ?_) AllReadyH.nil)
    refine At rfl 34 _ _ rfl (w.heap.size+1) (Ad 1 ⟨xk,xn,xs⟩ s name n (.slice zo 0 zc)) ?_ ?_ 34 (Ad 0 zero noW noW 0 (.slice none 0 0)) ?_ ?_ ?_ ?_ ?_;exact rfl;exact rfl;exact bZ1;exact Ai;exact rfl;exact hone
    refine hK.out _ _ ?_ (fun hHeld=> ?_)
    ·exact HK1.out
    clear hK K
    try simp only [Act.put]
    refine wpAnyH_take (i :=5) (oi := {dst :=some 5,op :=Go.Op.assign (Go.Operand.tmp 99),type :=3,pos := "high.go:219",after := #[{on :=3,ground :=Go.Ground.data},{on :=4,ground :=Go.Ground.chain},{on :=0,ground :=Go.Ground.phase},{on :=1,ground :=Go.Ground.phase},{on :=2,ground :=Go.Ground.phase},{on :=3,ground :=Go.Ground.phase},{on :=4,ground :=Go.Ground.phase}],guard :=none}) (v := ?_) rfl (by kernel_rfl) (by kernel_rfl) (by kernel_rfl) (fun _ _ _ h=>h) (Or.inl ⟨by rfl, ?_⟩) (by assumption) ?_
    rotate_left
    ·intro w hSw;(try dsimp only at hSw);go_simp;all_goals (with_reducible rfl)
    try simp only [Act.put,List.setIfInBounds_toArray,List.set_cons_zero,List.set_cons_succ]
    refine wpAnyH_take (i :=6) (oi := {dst :=some 6,op :=Go.Op.assign (Go.Operand.const (Go.Value.int Go.IntKind.i64 0)),type :=39,pos := "high.go:219",after := #[{on :=5,ground :=Go.Ground.chain},{on :=0,ground :=Go.Ground.phase},{on :=1,ground :=Go.Ground.phase},{on :=2,ground :=Go.Ground.phase},{on :=3,ground :=Go.Ground.phase},{on :=4,ground :=Go.Ground.phase},{on :=5,ground :=Go.Ground.phase}],guard :=none}) (v := ?_) rfl (by kernel_rfl) (by kernel_rfl) (by kernel_rfl) (fun _ _ _ h=>h) (Or.inl ⟨by rfl, ?_⟩) (by assumption) ?_
    rotate_left
    ·intro w hSw;(try dsimp only at hSw);go_simp;all_goals (with_reducible rfl)
    try simp only [Act.put,List.setIfInBounds_toArray,List.set_cons_zero,List.set_cons_succ]
    refine wpAnyH_done (by kernel_rfl) ?_ _
    go_wp2_with fail
    exact bodyPost_ret (v := .tuple #[.agg (Ad 1 ⟨xk,xn,xs⟩ s name n (.slice zo 0 zc)), .int .i64 xk, .int .i64 0]) (Ay Tryz.results28 _ _ (w.heap.size+1) 34 _ _ _ _ _ rfl rfl rfl (An (w :=V1.drew) bZ1) Tryz.underlying34 rfl Ai) rfl ⟨⟨_,rfl,(Bi HE.out).2 ⟨1,⟨xk,xn,xs⟩,s,name,n,zo,0,zc,rfl,Dd (Abf.1 (HZF.out.keep ⟨Nat.le_refl _,fun _ _ _=>rfl⟩))⟩⟩,Below.row hbV.drew (by omega) _⟩
   have HB :Hid (A3 S (.mk op ⟨xk,xn,xs⟩ s name n l) =if I4 op (rs.map Prod.snd) then .ok (.mk op ⟨xk,xn,xs⟩ s name n (rs.map Prod.fst),Gw op) else .error 5) :=by show _=_;rw [J5 S h1 (by simpa using e2),HQ2.out]
   have ON1 :Calls Tryz.prog 63 #[.int .i64 1, .pointer (some ⟨w.heap.size+2,0,none⟩)] V1 fun e w'=>e= .returned (.bool (Ji (rs.map Prod.snd) 1)) ∧w'=V1 :=ON 1
   have ON2 :Calls Tryz.prog 63 #[.int .i64 2, .pointer (some ⟨w.heap.size+2,0,none⟩)] V1 fun e w'=>e= .returned (.bool (Ji (rs.map Prod.snd) 2)) ∧w'=V1 :=ON 2
   have ON3 :Calls Tryz.prog 63 #[.int .i64 3, .pointer (some ⟨w.heap.size+2,0,none⟩)] V1 fun e w'=>e= .returned (.bool (Ji (rs.map Prod.snd) 3)) ∧w'=V1 :=ON 3
   rw [HO1.out] at ON1
   rw [HO2.out] at ON2
   rw [HO3.out] at ON3
   have HF :Hid (I4 op (rs.map Prod.snd) =if op=3∨op=4 then Dh (rs.map Prod.snd) 1 else if op=5∨op=6 then Dh (rs.map Prod.snd) 1 || Dh (rs.map Prod.snd) 2 else if op=7∨op=8∨op=9 then Dh (rs.map Prod.snd) 3 else true) :=rfl
   generalize I4 op (rs.map Prod.snd) =fb at*
   generalize Dh (rs.map Prod.snd) 1=a1 at*
   generalize Dh (rs.map Prod.snd) 2=a2 at*
   generalize Dh (rs.map Prod.snd) 3=a3 at*
   have h210 :op=3∨op=4∨op=5∨op=6∨op=7∨op=8∨op=9∨op=10 :=by have h3 :op≠2 := (by simpa using e2);omega
   clear ON HO1 HO2 HO3 HQ2 HLA h1 HRL
   rcases h210 with rfl | rfl | rfl | rfl | rfl | rfl | rfl | rfl
   ·cases a1
    ·have HE :Hid (A3 S (.mk 3 ⟨xk,xn,xs⟩ s name n l) = .error 5) :=HB.out.trans (by rw [HF.out];rfl)
     go_wp2_with (first | (go_at_call 63;go_fit ON1;rintro e _ ⟨rfl,rfl⟩) | (refine wpList_store_row rfl 34 _ _ rfl (w.heap.size+1) (Ad 0 zero noW noW 0 (.slice none 0 0)) ?_ ?_ 34 (Ad 0 zero noW noW 0 (.slice none 0 0)) ?_ ?_ ?_ ?_ ?_;exact rfl;exact rfl;exact bZ1;exact Ai;exact rfl;exact hone0))
     exact bodyPost_ret (v := .tuple #[.agg (Ad 0 zero noW noW 0 (.slice none 0 0)), .int .i64 0, .int .i64 5]) (Ay Tryz.results28 _ _ (w.heap.size+1) 34 _ _ _ _ _ rfl rfl rfl (An bZ1) Tryz.underlying34 rfl Ai) rfl ⟨⟨_,rfl,(A9 HE.out).2 rfl⟩,Below.row hbV (by omega) _⟩
    ·have HE :Hid (A3 S (.mk 3 ⟨xk,xn,xs⟩ s name n l) = .ok (.mk 3 ⟨xk,xn,xs⟩ s name n (rs.map Prod.fst),1)) :=HB.out.trans (by rw [HF.out];rfl)
     go_wp2_with (first | (go_at_call 63;go_fit ON1;rintro e _ ⟨rfl,rfl⟩) | (refine wpList_load_row rfl 34 _ rfl w.heap.size rfl 34 _ _ _ bE1 Tryz.underlying34 rfl Ai ?_) | (refine wpList_store_row rfl 34 _ _ rfl (w.heap.size+1) (Ad 3 ⟨xk,xn,xs⟩ s name n (.slice zo rs.length zc)) ?_ ?_ 34 (Ad 0 zero noW noW 0 (.slice none 0 0)) ?_ ?_ ?_ ?_ ?_;exact rfl;exact rfl;exact bZ1;exact Ai;exact rfl;exact hone))
     exact bodyPost_ret (v := .tuple #[.agg (Ad 3 ⟨xk,xn,xs⟩ s name n (.slice zo rs.length zc)), .int .i64 1, .int .i64 0]) (Ay Tryz.results28 _ _ (w.heap.size+1) 34 _ _ _ _ _ rfl rfl rfl (An bZ1) Tryz.underlying34 rfl Ai) rfl ⟨⟨_,rfl,(Bi HE.out).2 ⟨3,⟨xk,xn,xs⟩,s,name,n,zo,rs.length,zc,rfl,Dd (Abf.1 HZF.out)⟩⟩,Below.row hbV (by omega) _⟩
   ·cases a1
    ·have HE :Hid (A3 S (.mk 4 ⟨xk,xn,xs⟩ s name n l) = .error 5) :=HB.out.trans (by rw [HF.out];rfl)
     go_wp2_with (first | (go_at_call 63;go_fit ON1;rintro e _ ⟨rfl,rfl⟩) | (refine wpList_store_row rfl 34 _ _ rfl (w.heap.size+1) (Ad 0 zero noW noW 0 (.slice none 0 0)) ?_ ?_ 34 (Ad 0 zero noW noW 0 (.slice none 0 0)) ?_ ?_ ?_ ?_ ?_;exact rfl;exact rfl;exact bZ1;exact Ai;exact rfl;exact hone0))
     exact bodyPost_ret (v := .tuple #[.agg (Ad 0 zero noW noW 0 (.slice none 0 0)), .int .i64 0, .int .i64 5]) (Ay Tryz.results28 _ _ (w.heap.size+1) 34 _ _ _ _ _ rfl rfl rfl (An bZ1) Tryz.underlying34 rfl Ai) rfl ⟨⟨_,rfl,(A9 HE.out).2 rfl⟩,Below.row hbV (by omega) _⟩
    ·have HE :Hid (A3 S (.mk 4 ⟨xk,xn,xs⟩ s name n l) = .ok (.mk 4 ⟨xk,xn,xs⟩ s name n (rs.map Prod.fst),1)) :=HB.out.trans (by rw [HF.out];rfl)
     go_wp2_with (first | (go_at_call 63;go_fit ON1;rintro e _ ⟨rfl,rfl⟩) | (refine wpList_load_row rfl 34 _ rfl w.heap.size rfl 34 _ _ _ bE1 Tryz.underlying34 rfl Ai ?_) | (refine wpList_store_row rfl 34 _ _ rfl (w.heap.size+1) (Ad 4 ⟨xk,xn,xs⟩ s name n (.slice zo rs.length zc)) ?_ ?_ 34 (Ad 0 zero noW noW 0 (.slice none 0 0)) ?_ ?_ ?_ ?_ ?_;exact rfl;exact rfl;exact bZ1;exact Ai;exact rfl;exact hone))
     exact bodyPost_ret (v := .tuple #[.agg (Ad 4 ⟨xk,xn,xs⟩ s name n (.slice zo rs.length zc)), .int .i64 1, .int .i64 0]) (Ay Tryz.results28 _ _ (w.heap.size+1) 34 _ _ _ _ _ rfl rfl rfl (An bZ1) Tryz.underlying34 rfl Ai) rfl ⟨⟨_,rfl,(Bi HE.out).2 ⟨4,⟨xk,xn,xs⟩,s,name,n,zo,rs.length,zc,rfl,Dd (Abf.1 HZF.out)⟩⟩,Below.row hbV (by omega) _⟩
   ·cases a1
    ·cases a2
     ·have HE :Hid (A3 S (.mk 5 ⟨xk,xn,xs⟩ s name n l) = .error 5) :=HB.out.trans (by rw [HF.out];rfl)
      go_wp2_with (first | (go_at_call 63;go_fit ON1;rintro e _ ⟨rfl,rfl⟩) | (go_at_call 63;go_fit ON2;rintro e _ ⟨rfl,rfl⟩) | (refine wpList_store_row rfl 34 _ _ rfl (w.heap.size+1) (Ad 0 zero noW noW 0 (.slice none 0 0)) ?_ ?_ 34 (Ad 0 zero noW noW 0 (.slice none 0 0)) ?_ ?_ ?_ ?_ ?_;exact rfl;exact rfl;exact bZ1;exact Ai;exact rfl;exact hone0))
      exact bodyPost_ret (v := .tuple #[.agg (Ad 0 zero noW noW 0 (.slice none 0 0)), .int .i64 0, .int .i64 5]) (Ay Tryz.results28 _ _ (w.heap.size+1) 34 _ _ _ _ _ rfl rfl rfl (An bZ1) Tryz.underlying34 rfl Ai) rfl ⟨⟨_,rfl,(A9 HE.out).2 rfl⟩,Below.row hbV (by omega) _⟩
     ·have HE :Hid (A3 S (.mk 5 ⟨xk,xn,xs⟩ s name n l) = .ok (.mk 5 ⟨xk,xn,xs⟩ s name n (rs.map Prod.fst),3)) :=HB.out.trans (by rw [HF.out];rfl)
      go_wp2_with (first | (go_at_call 63;go_fit ON1;rintro e _ ⟨rfl,rfl⟩) | (go_at_call 63;go_fit ON2;rintro e _ ⟨rfl,rfl⟩) | (refine wpList_load_row rfl 34 _ rfl w.heap.size rfl 34 _ _ _ bE1 Tryz.underlying34 rfl Ai ?_) | (refine wpList_store_row rfl 34 _ _ rfl (w.heap.size+1) (Ad 5 ⟨xk,xn,xs⟩ s name n (.slice zo rs.length zc)) ?_ ?_ 34 (Ad 0 zero noW noW 0 (.slice none 0 0)) ?_ ?_ ?_ ?_ ?_;exact rfl;exact rfl;exact bZ1;exact Ai;exact rfl;exact hone))
      exact bodyPost_ret (v := .tuple #[.agg (Ad 5 ⟨xk,xn,xs⟩ s name n (.slice zo rs.length zc)), .int .i64 3, .int .i64 0]) (Ay Tryz.results28 _ _ (w.heap.size+1) 34 _ _ _ _ _ rfl rfl rfl (An bZ1) Tryz.underlying34 rfl Ai) rfl ⟨⟨_,rfl,(Bi HE.out).2 ⟨5,⟨xk,xn,xs⟩,s,name,n,zo,rs.length,zc,rfl,Dd (Abf.1 HZF.out)⟩⟩,Below.row hbV (by omega) _⟩
    ·have HE :Hid (A3 S (.mk 5 ⟨xk,xn,xs⟩ s name n l) = .ok (.mk 5 ⟨xk,xn,xs⟩ s name n (rs.map Prod.fst),3)) :=HB.out.trans (by rw [HF.out];rfl)
     go_wp2_with (first | (go_at_call 63;go_fit ON1;rintro e _ ⟨rfl,rfl⟩) | (refine wpList_load_row rfl 34 _ rfl w.heap.size rfl 34 _ _ _ bE1 Tryz.underlying34 rfl Ai ?_) | (refine wpList_store_row rfl 34 _ _ rfl (w.heap.size+1) (Ad 5 ⟨xk,xn,xs⟩ s name n (.slice zo rs.length zc)) ?_ ?_ 34 (Ad 0 zero noW noW 0 (.slice none 0 0)) ?_ ?_ ?_ ?_ ?_;exact rfl;exact rfl;exact bZ1;exact Ai;exact rfl;exact hone))
     exact bodyPost_ret (v := .tuple #[.agg (Ad 5 ⟨xk,xn,xs⟩ s name n (.slice zo rs.length zc)), .int .i64 3, .int .i64 0]) (Ay Tryz.results28 _ _ (w.heap.size+1) 34 _ _ _ _ _ rfl rfl rfl (An bZ1) Tryz.underlying34 rfl Ai) rfl ⟨⟨_,rfl,(Bi HE.out).2 ⟨5,⟨xk,xn,xs⟩,s,name,n,zo,rs.length,zc,rfl,Dd (Abf.1 HZF.out)⟩⟩,Below.row hbV (by omega) _⟩
   ·cases a1
    ·cases a2
     ·have HE :Hid (A3 S (.mk 6 ⟨xk,xn,xs⟩ s name n l) = .error 5) :=HB.out.trans (by rw [HF.out];rfl)
      go_wp2_with (first | (go_at_call 63;go_fit ON1;rintro e _ ⟨rfl,rfl⟩) | (go_at_call 63;go_fit ON2;rintro e _ ⟨rfl,rfl⟩) | (refine wpList_store_row rfl 34 _ _ rfl (w.heap.size+1) (Ad 0 zero noW noW 0 (.slice none 0 0)) ?_ ?_ 34 (Ad 0 zero noW noW 0 (.slice none 0 0)) ?_ ?_ ?_ ?_ ?_;exact rfl;exact rfl;exact bZ1;exact Ai;exact rfl;exact hone0))
      exact bodyPost_ret (v := .tuple #[.agg (Ad 0 zero noW noW 0 (.slice none 0 0)), .int .i64 0, .int .i64 5]) (Ay Tryz.results28 _ _ (w.heap.size+1) 34 _ _ _ _ _ rfl rfl rfl (An bZ1) Tryz.underlying34 rfl Ai) rfl ⟨⟨_,rfl,(A9 HE.out).2 rfl⟩,Below.row hbV (by omega) _⟩
     ·have HE :Hid (A3 S (.mk 6 ⟨xk,xn,xs⟩ s name n l) = .ok (.mk 6 ⟨xk,xn,xs⟩ s name n (rs.map Prod.fst),3)) :=HB.out.trans (by rw [HF.out];rfl)
      go_wp2_with (first | (go_at_call 63;go_fit ON1;rintro e _ ⟨rfl,rfl⟩) | (go_at_call 63;go_fit ON2;rintro e _ ⟨rfl,rfl⟩) | (refine wpList_load_row rfl 34 _ rfl w.heap.size rfl 34 _ _ _ bE1 Tryz.underlying34 rfl Ai ?_) | (refine wpList_store_row rfl 34 _ _ rfl (w.heap.size+1) (Ad 6 ⟨xk,xn,xs⟩ s name n (.slice zo rs.length zc)) ?_ ?_ 34 (Ad 0 zero noW noW 0 (.slice none 0 0)) ?_ ?_ ?_ ?_ ?_;exact rfl;exact rfl;exact bZ1;exact Ai;exact rfl;exact hone))
      exact bodyPost_ret (v := .tuple #[.agg (Ad 6 ⟨xk,xn,xs⟩ s name n (.slice zo rs.length zc)), .int .i64 3, .int .i64 0]) (Ay Tryz.results28 _ _ (w.heap.size+1) 34 _ _ _ _ _ rfl rfl rfl (An bZ1) Tryz.underlying34 rfl Ai) rfl ⟨⟨_,rfl,(Bi HE.out).2 ⟨6,⟨xk,xn,xs⟩,s,name,n,zo,rs.length,zc,rfl,Dd (Abf.1 HZF.out)⟩⟩,Below.row hbV (by omega) _⟩
    ·have HE :Hid (A3 S (.mk 6 ⟨xk,xn,xs⟩ s name n l) = .ok (.mk 6 ⟨xk,xn,xs⟩ s name n (rs.map Prod.fst),3)) :=HB.out.trans (by rw [HF.out];rfl)
     go_wp2_with (first | (go_at_call 63;go_fit ON1;rintro e _ ⟨rfl,rfl⟩) | (refine wpList_load_row rfl 34 _ rfl w.heap.size rfl 34 _ _ _ bE1 Tryz.underlying34 rfl Ai ?_) | (refine wpList_store_row rfl 34 _ _ rfl (w.heap.size+1) (Ad 6 ⟨xk,xn,xs⟩ s name n (.slice zo rs.length zc)) ?_ ?_ 34 (Ad 0 zero noW noW 0 (.slice none 0 0)) ?_ ?_ ?_ ?_ ?_;exact rfl;exact rfl;exact bZ1;exact Ai;exact rfl;exact hone))
     exact bodyPost_ret (v := .tuple #[.agg (Ad 6 ⟨xk,xn,xs⟩ s name n (.slice zo rs.length zc)), .int .i64 3, .int .i64 0]) (Ay Tryz.results28 _ _ (w.heap.size+1) 34 _ _ _ _ _ rfl rfl rfl (An bZ1) Tryz.underlying34 rfl Ai) rfl ⟨⟨_,rfl,(Bi HE.out).2 ⟨6,⟨xk,xn,xs⟩,s,name,n,zo,rs.length,zc,rfl,Dd (Abf.1 HZF.out)⟩⟩,Below.row hbV (by omega) _⟩
   ·cases a3
    ·have HE :Hid (A3 S (.mk 7 ⟨xk,xn,xs⟩ s name n l) = .error 5) :=HB.out.trans (by rw [HF.out];rfl)
     go_wp2_with (first | (go_at_call 63;go_fit ON3;rintro e _ ⟨rfl,rfl⟩) | (refine wpList_store_row rfl 34 _ _ rfl (w.heap.size+1) (Ad 0 zero noW noW 0 (.slice none 0 0)) ?_ ?_ 34 (Ad 0 zero noW noW 0 (.slice none 0 0)) ?_ ?_ ?_ ?_ ?_;exact rfl;exact rfl;exact bZ1;exact Ai;exact rfl;exact hone0))
     exact bodyPost_ret (v := .tuple #[.agg (Ad 0 zero noW noW 0 (.slice none 0 0)), .int .i64 0, .int .i64 5]) (Ay Tryz.results28 _ _ (w.heap.size+1) 34 _ _ _ _ _ rfl rfl rfl (An bZ1) Tryz.underlying34 rfl Ai) rfl ⟨⟨_,rfl,(A9 HE.out).2 rfl⟩,Below.row hbV (by omega) _⟩
    ·have HE :Hid (A3 S (.mk 7 ⟨xk,xn,xs⟩ s name n l) = .ok (.mk 7 ⟨xk,xn,xs⟩ s name n (rs.map Prod.fst),3)) :=HB.out.trans (by rw [HF.out];rfl)
     go_wp2_with (first | (go_at_call 63;go_fit ON3;rintro e _ ⟨rfl,rfl⟩) | (refine wpList_load_row rfl 34 _ rfl w.heap.size rfl 34 _ _ _ bE1 Tryz.underlying34 rfl Ai ?_) | (refine wpList_store_row rfl 34 _ _ rfl (w.heap.size+1) (Ad 7 ⟨xk,xn,xs⟩ s name n (.slice zo rs.length zc)) ?_ ?_ 34 (Ad 0 zero noW noW 0 (.slice none 0 0)) ?_ ?_ ?_ ?_ ?_;exact rfl;exact rfl;exact bZ1;exact Ai;exact rfl;exact hone))
     exact bodyPost_ret (v := .tuple #[.agg (Ad 7 ⟨xk,xn,xs⟩ s name n (.slice zo rs.length zc)), .int .i64 3, .int .i64 0]) (Ay Tryz.results28 _ _ (w.heap.size+1) 34 _ _ _ _ _ rfl rfl rfl (An bZ1) Tryz.underlying34 rfl Ai) rfl ⟨⟨_,rfl,(Bi HE.out).2 ⟨7,⟨xk,xn,xs⟩,s,name,n,zo,rs.length,zc,rfl,Dd (Abf.1 HZF.out)⟩⟩,Below.row hbV (by omega) _⟩
   ·cases a3
    ·have HE :Hid (A3 S (.mk 8 ⟨xk,xn,xs⟩ s name n l) = .error 5) :=HB.out.trans (by rw [HF.out];rfl)
     go_wp2_with (first | (go_at_call 63;go_fit ON3;rintro e _ ⟨rfl,rfl⟩) | (refine wpList_store_row rfl 34 _ _ rfl (w.heap.size+1) (Ad 0 zero noW noW 0 (.slice none 0 0)) ?_ ?_ 34 (Ad 0 zero noW noW 0 (.slice none 0 0)) ?_ ?_ ?_ ?_ ?_;exact rfl;exact rfl;exact bZ1;exact Ai;exact rfl;exact hone0))
     exact bodyPost_ret (v := .tuple #[.agg (Ad 0 zero noW noW 0 (.slice none 0 0)), .int .i64 0, .int .i64 5]) (Ay Tryz.results28 _ _ (w.heap.size+1) 34 _ _ _ _ _ rfl rfl rfl (An bZ1) Tryz.underlying34 rfl Ai) rfl ⟨⟨_,rfl,(A9 HE.out).2 rfl⟩,Below.row hbV (by omega) _⟩
    ·have HE :Hid (A3 S (.mk 8 ⟨xk,xn,xs⟩ s name n l) = .ok (.mk 8 ⟨xk,xn,xs⟩ s name n (rs.map Prod.fst),3)) :=HB.out.trans (by rw [HF.out];rfl)
     go_wp2_with (first | (go_at_call 63;go_fit ON3;rintro e _ ⟨rfl,rfl⟩) | (refine wpList_load_row rfl 34 _ rfl w.heap.size rfl 34 _ _ _ bE1 Tryz.underlying34 rfl Ai ?_) | (refine wpList_store_row rfl 34 _ _ rfl (w.heap.size+1) (Ad 8 ⟨xk,xn,xs⟩ s name n (.slice zo rs.length zc)) ?_ ?_ 34 (Ad 0 zero noW noW 0 (.slice none 0 0)) ?_ ?_ ?_ ?_ ?_;exact rfl;exact rfl;exact bZ1;exact Ai;exact rfl;exact hone))
     exact bodyPost_ret (v := .tuple #[.agg (Ad 8 ⟨xk,xn,xs⟩ s name n (.slice zo rs.length zc)), .int .i64 3, .int .i64 0]) (Ay Tryz.results28 _ _ (w.heap.size+1) 34 _ _ _ _ _ rfl rfl rfl (An bZ1) Tryz.underlying34 rfl Ai) rfl ⟨⟨_,rfl,(Bi HE.out).2 ⟨8,⟨xk,xn,xs⟩,s,name,n,zo,rs.length,zc,rfl,Dd (Abf.1 HZF.out)⟩⟩,Below.row hbV (by omega) _⟩
   ·cases a3
    ·have HE :Hid (A3 S (.mk 9 ⟨xk,xn,xs⟩ s name n l) = .error 5) :=HB.out.trans (by rw [HF.out];rfl)
     go_wp2_with (first | (go_at_call 63;go_fit ON3;rintro e _ ⟨rfl,rfl⟩) | (refine wpList_store_row rfl 34 _ _ rfl (w.heap.size+1) (Ad 0 zero noW noW 0 (.slice none 0 0)) ?_ ?_ 34 (Ad 0 zero noW noW 0 (.slice none 0 0)) ?_ ?_ ?_ ?_ ?_;exact rfl;exact rfl;exact bZ1;exact Ai;exact rfl;exact hone0))
     exact bodyPost_ret (v := .tuple #[.agg (Ad 0 zero noW noW 0 (.slice none 0 0)), .int .i64 0, .int .i64 5]) (Ay Tryz.results28 _ _ (w.heap.size+1) 34 _ _ _ _ _ rfl rfl rfl (An bZ1) Tryz.underlying34 rfl Ai) rfl ⟨⟨_,rfl,(A9 HE.out).2 rfl⟩,Below.row hbV (by omega) _⟩
    ·have HE :Hid (A3 S (.mk 9 ⟨xk,xn,xs⟩ s name n l) = .ok (.mk 9 ⟨xk,xn,xs⟩ s name n (rs.map Prod.fst),3)) :=HB.out.trans (by rw [HF.out];rfl)
     go_wp2_with (first | (go_at_call 63;go_fit ON3;rintro e _ ⟨rfl,rfl⟩) | (refine wpList_load_row rfl 34 _ rfl w.heap.size rfl 34 _ _ _ bE1 Tryz.underlying34 rfl Ai ?_) | (refine wpList_store_row rfl 34 _ _ rfl (w.heap.size+1) (Ad 9 ⟨xk,xn,xs⟩ s name n (.slice zo rs.length zc)) ?_ ?_ 34 (Ad 0 zero noW noW 0 (.slice none 0 0)) ?_ ?_ ?_ ?_ ?_;exact rfl;exact rfl;exact bZ1;exact Ai;exact rfl;exact hone))
     exact bodyPost_ret (v := .tuple #[.agg (Ad 9 ⟨xk,xn,xs⟩ s name n (.slice zo rs.length zc)), .int .i64 3, .int .i64 0]) (Ay Tryz.results28 _ _ (w.heap.size+1) 34 _ _ _ _ _ rfl rfl rfl (An bZ1) Tryz.underlying34 rfl Ai) rfl ⟨⟨_,rfl,(Bi HE.out).2 ⟨9,⟨xk,xn,xs⟩,s,name,n,zo,rs.length,zc,rfl,Dd (Abf.1 HZF.out)⟩⟩,Below.row hbV (by omega) _⟩
   ·have HE :Hid (A3 S (.mk 10 ⟨xk,xn,xs⟩ s name n l) = .ok (.mk 10 ⟨xk,xn,xs⟩ s name n (rs.map Prod.fst),3)) :=HB.out.trans (by rw [HF.out];rfl)
    go_wp2_with (first | (refine wpList_load_row rfl 34 _ rfl w.heap.size rfl 34 _ _ _ bE1 Tryz.underlying34 rfl Ai ?_) | (refine wpList_store_row rfl 34 _ _ rfl (w.heap.size+1) (Ad 10 ⟨xk,xn,xs⟩ s name n (.slice zo rs.length zc)) ?_ ?_ 34 (Ad 0 zero noW noW 0 (.slice none 0 0)) ?_ ?_ ?_ ?_ ?_;exact rfl;exact rfl;exact bZ1;exact Ai;exact rfl;exact hone))
    exact bodyPost_ret (v := .tuple #[.agg (Ad 10 ⟨xk,xn,xs⟩ s name n (.slice zo rs.length zc)), .int .i64 3, .int .i64 0]) (Ay Tryz.results28 _ _ (w.heap.size+1) 34 _ _ _ _ _ rfl rfl rfl (An bZ1) Tryz.underlying34 rfl Ai) rfl ⟨⟨_,rfl,(Bi HE.out).2 ⟨10,⟨xk,xn,xs⟩,s,name,n,zo,rs.length,zc,rfl,Dd (Abf.1 HZF.out)⟩⟩,Below.row hbV (by omega) _⟩
end Go.Proofs.YtmgkcjiejmhgcaaGreatDoor

