/-
  1 texts of this proof in one, in build order: YBindAll.
-/
import Derived.Test.YtmgkcjiejmhgcaaGreatDoorJ09
set_option linter.unusedSimpArgs false
set_option linter.unusedVariables false
namespace Go.Proofs.YtmgkcjiejmhgcaaGreatDoor
open Go.RowKit Go.Maps
def whR (S :List TabD) (e :E) :Except Int E :=if e.opn=0 then .ok e else asR S 3 e
def Fx (C B :Nat) :Nat→Prop :=fun k=>k<C∨B≤k
theorem Ju {P :Program} {w :World} {ops :Array Oper} {o :Oper} {a :Act} {K :Act→World→Prop} {Q :Exit→Act→World→Prop} {X :Prop} (hgd :o.guard=none) (ty :TypeId) (x y :Operand) (ho :o.op= .store ty x y)
  (b i :Nat) (cells :Array Value) (hx :a.eval x= .pointer (some ⟨b,i,none⟩)) (hy :a.eval y= .agg cells)
  (ht :w.there b i cells.size) (hi : (P.info? ty).map (·.size) =some cells.size) (h1 :cells.all (·.oneCell') =true)
  (h :K (a.put o.dst undef) (w.setCells b i cells.toList)) :if Region.wanted o (yielded ops a.tmps) =true then Oper.wp P o a w K Q else X :=by
 rw [if_pos (by simp [Region.wanted,hgd])]
 exact wp_store_mid ty x y ho b i cells hx hy ht hi h1 h
theorem Ov {F :Nat→Prop} {w :World} {e :E} {v :Value} (he :IsE F w e v) : ∃ (op :Int) (x :V) (s name :Wd) (n :Int) (ao :Option Addr) (k c :Nat),v= .agg (Ad op x s name n (.slice ao k c)) ∧e.opn=op :=by
 obtain ⟨op,x,s,name,n,l⟩ :=e
 obtain ⟨sv8,rfl,hEs⟩ :=he.open
 obtain ⟨ao,c,rfl⟩ := (Abf.2 hEs).shape
 exact ⟨op,x,s,name,n,ao,_,c,rfl,rfl⟩
set_option maxRecDepth 100000 in
set_option maxHeartbeats 4000000 in
theorem Kq (S :List TabD) (hS :S.length≤1000) (hsc : ∀t∈S,t.cols.length≤1000000) (d :Nat) (e :E) (v sv :Value) (C C2 :Nat) (w :World) (he :IsE (fun k=>k<C) w e v) (hl :IsL A4 (fun k=>k<C2) w sv S) (hCC :C≤C2) (hC2 :C2≤w.heap.size) (hg :e.opn≠0→geB d e=true) :
  Calls Tryz.prog 98 #[sv,v] w fun r w'=> (∃u,r= .returned u∧Mc (whR S e) (Fx C w.heap.size) w' u) ∧Below w.heap.size w w' :=by
 have hC :=Nat.le_trans hCC hC2
 obtain ⟨so,sc,rfl⟩ :=hl.shape
 obtain ⟨op',⟨xk',xn',xs'⟩,s',name',n',ao',k',c',rfl,ho⟩ :=Ov he
 have hb2 :=Bz w (.cells (Ad op' ⟨xk',xn',xs'⟩ s' name' n' (.slice ao' k' c')) 34) (.cells (Ad 0 zero noW noW 0 (.slice none 0 0)) 34)
 have hone :=A8 op' ⟨xk',xn',xs'⟩ s' name' n' ao' k' c'
 by_cases h0 :op'=0
 ·subst h0
  have HA :Hid (whR S e= .ok e) :=if_pos ho
  have hE2 :=IsE.mono (F' :=Fx C w.heap.size) (fun k _ hk=> .inl hk) _ _ (IsE.keep (Ag ((Bz w (.cells (Ad 0 ⟨xk',xn',xs'⟩ s' name' n' (.slice ao' k' c')) 34) (.cells (Ad 0 ⟨xk',xn',xs'⟩ s' name' n' (.slice ao' k' c')) 34)).mono hC)) _ _ he)
  clear he hl hg hS hsc ho
  go_enter Tryz.func98,Tryz.ntmps98
  go_wp2_with fail
  refine bodyPost_ret (A2 Tryz.results98 _ _ (w.heap.size+1) 34 (Ad 0 ⟨xk',xn',xs'⟩ s' name' n' (.slice ao' k' c')) _ _ _ rfl rfl (A0 _ _ _) Tryz.underlying34 rfl Ai) rfl ⟨⟨_,rfl, ?_⟩,Bz _ _ _⟩
  rw [HA.out]
  exact ⟨0,⟨xk',xn',xs'⟩,s',name',n',ao',k',c',rfl,hE2⟩
 ·have HA :Hid (whR S e=asR S 3 e) :=if_neg (by rw [ho];exact h0)
  have HI :=J7 S hS hsc d 3 e _ (.slice so S.length sc) C2 _ (IsE.mono (fun k _ hk=>Nat.lt_of_lt_of_le hk hCC) _ _ (IsE.keep (Ag (hb2.mono hC)) _ _ he)) (hl.keep (Ag (hb2.mono hC2))) (Nat.le_trans hC2 hb2.size) (hg (by rw [ho];exact h0))
  have e0 : (op'==0) =false :=by simpa using h0
  have HI2 :=HI.mono (R' :=fun r w'=> ∃ (op :Int) (x :V) (s name :Wd) (n :Int) (ao :Option Addr) (k c :Nat) (z :Int),r= .returned (.tuple #[.agg (Ad op x s name n (.slice ao k c)), .int .i64 z]) ∧Mc (asR S 3 e) (Fr (w.heap.size+2)) w' (.tuple #[.agg (Ad op x s name n (.slice ao k c)), .int .i64 z]) ∧Below ((w.alloc (.cells (Ad op' ⟨xk',xn',xs'⟩ s' name' n' (.slice ao' k' c')) 34)).alloc (.cells (Ad 0 zero noW noW 0 (.slice none 0 0)) 34)).heap.size ((w.alloc (.cells (Ad op' ⟨xk',xn',xs'⟩ s' name' n' (.slice ao' k' c')) 34)).alloc (.cells (Ad 0 zero noW noW 0 (.slice none 0 0)) 34)) w') (by
   rintro r w' ⟨⟨v,rfl,hv⟩,hb'⟩
   rw [show ((w.alloc (.cells (Ad op' ⟨xk',xn',xs'⟩ s' name' n' (.slice ao' k' c')) 34)).alloc (.cells (Ad 0 zero noW noW 0 (.slice none 0 0)) 34)).heap.size=w.heap.size+2 by simp] at hv
   cases hr :asR S 3 e with
   | error m=>
    rw [hr] at hv
    obtain rfl :=hv
    exact ⟨0,zero,noW,noW,0,none,0,0,m,rfl,rfl,hb'⟩
   | ok e2=>
    rw [hr] at hv
    have hv2 :=hv
    obtain ⟨op,x,s,name,n,ao,k,c,rfl,hE'⟩ :=hv
    exact ⟨op,x,s,name,n,ao,k,c,0,rfl,hv2,hb'⟩)
  clear he hl hg hS hsc ho HI h0
  generalize asR S 3 e=R at HA HI2
  go_enter Tryz.func98,Tryz.ntmps98
  go_wp2_with (first | (go_at_call 118;refine HI2.mono ?_;rintro r w1 ⟨op2,x2,s2,name2,n2,ao2,k2,c2,z,rfl,hAns,hb1⟩;obtain ⟨x2k,x2n,x2s⟩ :=x2;have hZ := (hb1.block _ (by simp)).trans (A0 w _ _);have hbT :=Ak hb2 hb1;have honeL :=A8 op2 ⟨x2k,x2n,x2s⟩ s2 name2 n2 ao2 k2 c2) | (refine wpList_store_row rfl 34 _ _ rfl (w.heap.size+1) (Ad op2 ⟨x2k,x2n,x2s⟩ s2 name2 n2 (.slice ao2 k2 c2)) ?_ ?_ 34 (Ad 0 zero noW noW 0 (.slice none 0 0)) ?_ ?_ ?_ ?_ ?_;exact rfl;exact rfl;exact hZ;exact Ai;exact rfl;exact honeL))
  refine bodyPost_ret (A2 Tryz.results98 _ _ (w.heap.size+1) 34 _ _ _ _ rfl rfl (An hZ) Tryz.underlying34 rfl Ai) rfl ⟨⟨_,rfl, ?_⟩,Below.row hbT (by omega) _⟩
  rw [HA.out]
  cases R with
  | error m=>exact hAns
  | ok e2=>
   obtain ⟨op,x,s,name,n,ao,k,c,hq,hE⟩ :=hAns
   refine ⟨op,x,s,name,n,ao,k,c,hq, ?_⟩
   exact IsE.mono (fun k _ hk=> .inr (Nat.le_trans (by omega) hk)) _ _ (IsE.keep ((Keeps.refl _ _).row (show ¬w.heap.size+2≤w.heap.size+1 by omega) _) _ _ hE)
def Ha {α :Type} (K :Elem α) (R :Except Int (List α)) (F :Nat→Prop) (w' :World) (v :Value) :Prop :=
 match R with
 | .error m=>v= .tuple #[.slice none 0 0, .int .i64 m]
 | .ok l=> ∃ (ao :Option Addr) (k c :Nat),v= .tuple #[.slice ao k c, .int .i64 0] ∧IsL K F w' (.slice ao k c) l
def Ej (S :List TabD) (l :List E) :Except Int (List E) :=
 match Bb S l with
 | .error m=> .error m
 | .ok rs=> .ok (rs.map Prod.fst)
theorem J8 {W w1 :World} {g n j :Nat} {le :List E} {op :Int} {x :V} {s name :Wd} {i :Int} {ao :Option Addr} {k c :Nat} {e :E}
  (h1 :Cf As (Fr (g+1)) W g n le) (hb :Below W.heap.size W w1) (hj :j<n) (l1 :le.length=j) (he :IsE (Fr (g+1)) w1 e (.agg (Ad op x s name i (.slice ao k c)))) :
  w1.there g (j*8) 8∧Cf As (Fr (g+1)) (w1.setCells g (j*8) (Ad op x s name i (.slice ao k c)).toList) g n (le++ [e]) :=by
 subst l1
 have m1 :=h1.below hb
 exact ⟨m1.there hj,m1.set hj (show ¬g+1≤g by omega) (a :=e) (c := (Ad op x s name i (.slice ao k c)).toList) ⟨rfl,he⟩⟩
set_option maxRecDepth 100000 in
set_option maxHeartbeats 4000000 in
theorem Mq (S :List TabD) (hS :S.length≤1000) (hsc : ∀t∈S,t.cols.length≤1000000) (d :Nat) (l :List E) (lv sv :Value) (C :Nat) (w :World) (he :IsL As (fun k=>k<C) w lv l) (hl :IsL A4 (fun k=>k<C) w sv S) (hC :C≤w.heap.size) (hg : ∀a∈l,geB d a=true) (hn :l.length≤1000000000) :
  Calls Tryz.prog 101 #[sv,lv] w fun r w'=> (∃u,r= .returned u∧Ha As (Ej S l) (Fr w.heap.size) w' u) ∧Below w.heap.size w w' :=by
 obtain ⟨so,sc,rfl⟩ :=hl.shape
 obtain ⟨ao,c,rfl⟩ :=he.shape
 have ih :=M6 S hS hsc d
 clear hS hsc
 obtain ⟨arr1,ha1,hmk1⟩ :=J6 w l.length (by omega)
 have hst :Cf As (Fr (w.heap.size+1)) (w.alloc (.cells arr1 34)) w.heap.size l.length [] :=G9 As _ ha1
 have hbW :=Aq w (.cells arr1 34)
 go_enter Tryz.func101,Tryz.ntmps101
 go_wp2_with fail
 clear hmk1
 go_loopw [15] (fun i wr=> ∃ (j :Nat) (rs :List (E×Int)),j≤l.length∧i= .int .i64 j∧Hid (Bb S (l.take j) = .ok rs) ∧Hid (rs.length=j) ∧Cf As (Fr (w.heap.size+1)) wr w.heap.size l.length (rs.map Prod.fst) ∧Below w.heap.size w wr∧w.heap.size+1≤wr.heap.size) (fun i _=>l.length - (intOf i).toNat)
 case atStart=>exact ⟨0,[],Nat.zero_le _,rfl,by show _=_;rw [List.take_zero,Bb],rfl,hst,hbW,by simp⟩
 case round=>
  obtain ⟨j,rs,hj,rfl,HQ,HL,hM1,hbel,hsz⟩ :=hrel
  clear hst hbW ha1
  have q2 :=HL.out
  have l1 : (rs.map Prod.fst).length=j :=by rw [List.length_map];exact q2
  by_cases hjl :j<l.length
  ·obtain ⟨a,ha⟩ : ∃a,l[j]? =some a := ⟨_,List.getElem?_eq_getElem hjl⟩
   have HT :Hid (l.take (j+1) =l.take j++ [a]) :=by show _=_;rw [List.take_add_one,ha];rfl
   have hga :=hg a (List.mem_of_getElem? ha)
   obtain ⟨b,off,cs,rfl,hbC,hb,hR,hcell⟩ :=Av (he.keep (Ag (hbel.mono hC))) ha
   obtain ⟨op',xk',xn',xs',s',name',n',ao',k',c',rfl⟩ :=Cm hR
   have d0 :=hcell 0 _ rfl
   have d1 :=hcell 1 _ rfl
   have d2 :=hcell 2 _ rfl
   have d3 :=hcell 3 _ rfl
   have d4 :=hcell 4 _ rfl
   have d5 :=hcell 5 _ rfl
   have d6 :=hcell 6 _ rfl
   have d7 :=hcell 7 _ rfl
   simp only [As,Nat.add_zero] at d0 d1 d2 d3 d4 d5 d6 d7
   have j0 : (0 :Int) ≤ (j :Int) :=by omega
   have j1 : (j :Int) < (l.length :Int) :=by omega
   have hbx :=Aq wr (.cells (Ad op' ⟨xk',xn',xs'⟩ s' name' n' (.slice ao' k' c')) 34)
   have HI :=ih a (.agg (Ad op' ⟨xk',xn',xs'⟩ s' name' n' (.slice ao' k' c'))) (.slice so S.length sc) C (wr.alloc (.cells (Ad op' ⟨xk',xn',xs'⟩ s' name' n' (.slice ao' k' c')) 34)) (IsE.keep (Ag (hbx.mono (Nat.le_trans hC hbel.size))) _ _ hR.2) ((hl.keep (Ag (hbel.mono hC))).keep (Ag (hbx.mono (Nat.le_trans hC hbel.size)))) (Nat.le_trans (Nat.le_trans hC hbel.size) hbx.size) hga
   clear hcell hR ha ih hg
   rcases hbr :A3 S a with m | r
   ·have hm :=Ew S a m hbr
    have HI2 :=HI.mono (R' :=fun e w'=> ∃ (op :Int) (x :V) (s name :Wd) (n :Int) (ao :Option Addr) (k c :Nat) (z :Int),e= .returned (.tuple #[.agg (Ad op x s name n (.slice ao k c)), .int .i64 z, .int .i64 m]) ∧IsE (Fr (w.heap.size+1)) w' (.mk 0 zero noW noW 0 []) (.agg (Ad op x s name n (.slice ao k c))) ∧Below (wr.heap.size+1) (wr.alloc (.cells (Ad op' ⟨xk',xn',xs'⟩ s' name' n' (.slice ao' k' c')) 34)) w') (by
     rintro e w' ⟨⟨v,rfl,hv⟩,hb'⟩
     obtain rfl := (A9 hbr).1 hv
     exact ⟨0,zero,noW,noW,0,none,0,0,0,rfl,Dn fun _=>rfl,by simpa using hb'⟩)
    have HE :Hid (Ej S l= .error m) :=by
     show _=_
     have hs :Bb S (l.take (j+1)) = .error m :=by rw [HT.out,Ei,HQ.out,hbr]
     have :=E5 S (l.take (j+1)) (l.drop (j+1)) m hs
     rw [List.take_append_drop] at this
     unfold Ej
     rw [this]
    clear HI hbr HQ HL HT q2
    rcases hm with rfl | rfl
    all_goals
     go_wp2_with (first | (go_at_call 120;refine HI2.mono ?_;rintro e w1 ⟨op2,x2,s2,name2,n2,ao2,k2,c2,z,rfl,hE2,hb1⟩;obtain ⟨x2k,x2n,x2s⟩ :=x2;have hbT :=Ak hbx (by simpa using hb1);obtain ⟨mt,mm1⟩ :=J8 hM1 hbT hjl l1 hE2;have hone :=A8 op2 ⟨x2k,x2n,x2s⟩ s2 name2 n2 ao2 k2 c2) | (refine wpList_store_mid rfl 34 _ _ rfl w.heap.size (j*8) (Ad op2 ⟨x2k,x2n,x2s⟩ s2 name2 n2 (.slice ao2 k2 c2)) ?_ ?_ ?_ ?_ ?_ ?_;exact rfl;exact rfl;exact mt;exact Ai;exact hone))
     go_ret2
     refine ⟨⟨_,rfl, ?_⟩,Ct (Nat.le_refl _) _ _ _ (hbel.trans (hbT.mono hbel.size))⟩
     rw [HE.out]
     rfl
   ·have HI2 :=HI.mono (R' :=fun e w'=> ∃ (op :Int) (x :V) (s name :Wd) (n :Int) (ao :Option Addr) (k c :Nat),e= .returned (.tuple #[.agg (Ad op x s name n (.slice ao k c)), .int .i64 r.2, .int .i64 0]) ∧IsE (Fr (w.heap.size+1)) w' r.1 (.agg (Ad op x s name n (.slice ao k c))) ∧Below (wr.heap.size+1) (wr.alloc (.cells (Ad op' ⟨xk',xn',xs'⟩ s' name' n' (.slice ao' k' c')) 34)) w') (by
     rintro e w' ⟨⟨v,rfl,hv⟩,hb'⟩
     obtain ⟨op,x,s,name,n,ao,k,c,rfl,hE'⟩ := (Bi hbr).1 hv
     exact ⟨op,x,s,name,n,ao,k,c,rfl,IsE.mono (fun k _ hk=>by exact Nat.le_trans (by simp;omega) hk) _ _ hE',by simpa using hb'⟩)
    have HS :Hid (Bb S (l.take (j+1)) = .ok (rs++ [r])) :=by show _=_;rw [HT.out,Ei,HQ.out,hbr]
    have HL2 :Hid ((rs++ [r]).length=j+1) :=by show _=_;rw [List.length_append,q2];rfl
    clear HI hbr HQ HL HT q2
    go_wp2_with (first | (go_at_call 120;refine HI2.mono ?_;rintro e w1 ⟨op2,x2,s2,name2,n2,ao2,k2,c2,rfl,hE2,hb1⟩;obtain ⟨r1,r2⟩ :=r;obtain ⟨x2k,x2n,x2s⟩ :=x2;have hbT :=Ak hbx (by simpa using hb1);obtain ⟨mt,mm1⟩ :=J8 hM1 hbT hjl l1 hE2;have hone :=A8 op2 ⟨x2k,x2n,x2s⟩ s2 name2 n2 ao2 k2 c2) | (refine wpList_store_mid rfl 34 _ _ rfl w.heap.size (j*8) (Ad op2 ⟨x2k,x2n,x2s⟩ s2 name2 n2 (.slice ao2 k2 c2)) ?_ ?_ ?_ ?_ ?_ ?_;exact rfl;exact rfl;exact mt;exact Ai;exact hone))
    go_roundw
    case rel=>exact ⟨j+1,rs++ [(r1,r2)],by omega,by go_num,HS,HL2,by rw [List.map_append];exact mm1,Ct (Nat.le_refl _) _ _ _ (hbel.trans (hbT.mono hbel.size)),by have :=hbT.size;simp [Bp];omega⟩
    case measure=>simp [intOf];omega
  ·have hjl2 :j=l.length :=by omega
   subst hjl2
   have HE :Hid (Ej S l= .ok (rs.map Prod.fst)) :=by
    show _=_
    have :=HQ.out
    rw [List.take_length] at this
    unfold Ej
    rw [this]
   have hw1 :IsL As (Fr w.heap.size) wr (.slice (some ⟨w.heap.size,0,none⟩) l.length l.length) (rs.map Prod.fst) :=hM1.whole l1 (fun k hk=>Nat.le_trans (by omega) hk) (Nat.le_refl _) (Nat.le_trans hn (by decide))
   clear q2 HL HQ
   go_wp2_with fail
   go_ret2
   refine ⟨⟨_,rfl, ?_⟩,hbel⟩
   rw [HE.out]
   exact ⟨_,_,_,rfl,hw1⟩
end Go.Proofs.YtmgkcjiejmhgcaaGreatDoor

