/-
  2 texts of this proof in one, in build order: YBindAll, YBindRow.
-/
import Derived.Deep.RegionHeld3
import Derived.Test.YthehiijgnepcfaaGreatJ20
set_option linter.unusedSimpArgs false
set_option linter.unusedVariables false
namespace Go.Proofs.YthehiijgnepcfaaGreat
open Go.RowKit Go.Maps
def whR (S :List TabD) (e :E) :Except Int E :=if e.opn=0 then .ok e else asR S 3 e
def Fx (C B :Nat) :Nat→Prop :=fun k=>k<C∨B≤k
theorem L8 {P :Program} {w :World} {ops :Array Oper} {o :Oper} {a :Act} {K :Act→World→Prop} {Q :Exit→Act→World→Prop} {X :Prop} (hgd :o.guard=none) (ty :TypeId) (x y :Operand) (ho :o.op= .store ty x y)
  (b i :Nat) (cells :Array Value) (hx :a.eval x= .pointer (some ⟨b,i,none⟩)) (hy :a.eval y= .agg cells)
  (ht :w.there b i cells.size) (hi : (P.info? ty).map (·.size) =some cells.size) (h1 :cells.all (·.oneCell') =true)
  (h :K (a.put o.dst undef) (w.setCells b i cells.toList)) :if Region.wanted o (yielded ops a.tmps) =true then Oper.wp P o a w K Q else X :=by
 rw [if_pos (by simp [Region.wanted,hgd])]
 exact wp_store_mid ty x y ho b i cells hx hy ht hi h1 h
theorem Tg {F :Nat→Prop} {w :World} {e :E} {v :Value} (he :IsE F w e v) : ∃ (op :Int) (x :V) (s name :Wd) (n :Int) (ao :Option Addr) (k c :Nat),v= .agg (Ae op x s name n (.slice ao k c)) ∧e.opn=op :=by
 obtain ⟨op,x,s,name,n,l⟩ :=e
 obtain ⟨sv8,rfl,hEs⟩ :=he.open
 obtain ⟨ao,c,rfl⟩ := (Ajh.2 hEs).shape
 exact ⟨op,x,s,name,n,ao,_,c,rfl,rfl⟩
set_option maxRecDepth 100000 in
set_option maxHeartbeats 4000000 in
theorem Nf (S :List TabD) (hS :S.length≤1000) (hsc : ∀t∈S,t.cols.length≤1000000) (d :Nat) (e :E) (v sv :Value) (C C2 :Nat) (w :World) (he :IsE (fun k=>k<C) w e v) (hl :IsL Cq (fun k=>k<C2) w sv S) (hCC :C≤C2) (hC2 :C2≤w.heap.size) (hg :e.opn≠0→geB d e=true) :
  Calls Tryz.prog 93 #[sv,v] w fun r w'=> (∃u,r= .returned u∧R6 (whR S e) (Fx C w.heap.size) w' u) ∧Below w.heap.size w w' :=by
 have hC :=Nat.le_trans hCC hC2
 obtain ⟨so,sc,rfl⟩ :=hl.shape
 obtain ⟨op',⟨xk',xn',xs'⟩,s',name',n',ao',k',c',rfl,ho⟩ :=Tg he
 have hb2 :=Bb w (.cells (Ae op' ⟨xk',xn',xs'⟩ s' name' n' (.slice ao' k' c')) 34) (.cells (Ae 0 zero noW noW 0 (.slice none 0 0)) 34)
 have hone :=Bk op' ⟨xk',xn',xs'⟩ s' name' n' ao' k' c'
 by_cases h0 :op'=0
 ·subst h0
  have HA :Hid (whR S e= .ok e) :=if_pos ho
  have hE2 :=IsE.mono (F' :=Fx C w.heap.size) (fun k _ hk=> .inl hk) _ _ (IsE.keep (Af ((Bb w (.cells (Ae 0 ⟨xk',xn',xs'⟩ s' name' n' (.slice ao' k' c')) 34) (.cells (Ae 0 ⟨xk',xn',xs'⟩ s' name' n' (.slice ao' k' c')) 34)).mono hC)) _ _ he)
  clear he hl hg hS hsc ho
  go_enter Tryz.func93,Tryz.ntmps93
  go_wp2_with fail
  refine bodyPost_ret (A2 Tryz.results93 _ _ (w.heap.size+1) 34 (Ae 0 ⟨xk',xn',xs'⟩ s' name' n' (.slice ao' k' c')) _ _ _ rfl rfl (Aq _ _ _) Tryz.underlying34 rfl As) rfl ⟨⟨_,rfl, ?_⟩,Bb _ _ _⟩
  rw [HA.out]
  exact ⟨0,⟨xk',xn',xs'⟩,s',name',n',ao',k',c',rfl,hE2⟩
 ·have HA :Hid (whR S e=asR S 3 e) :=if_neg (by rw [ho];exact h0)
  have HI :=Mt S hS hsc d 3 e _ (.slice so S.length sc) C2 _ (IsE.mono (fun k _ hk=>Nat.lt_of_lt_of_le hk hCC) _ _ (IsE.keep (Af (hb2.mono hC)) _ _ he)) (hl.keep (Af (hb2.mono hC2))) (Nat.le_trans hC2 hb2.size) (hg (by rw [ho];exact h0))
  have e0 : (op'==0) =false :=by simpa using h0
  have HI2 :=HI.mono (R' :=fun r w'=> ∃ (op :Int) (x :V) (s name :Wd) (n :Int) (ao :Option Addr) (k c :Nat) (z :Int),r= .returned (.tuple #[.agg (Ae op x s name n (.slice ao k c)), .int .i64 z]) ∧R6 (asR S 3 e) (Fr (w.heap.size+2)) w' (.tuple #[.agg (Ae op x s name n (.slice ao k c)), .int .i64 z]) ∧Below ((w.alloc (.cells (Ae op' ⟨xk',xn',xs'⟩ s' name' n' (.slice ao' k' c')) 34)).alloc (.cells (Ae 0 zero noW noW 0 (.slice none 0 0)) 34)).heap.size ((w.alloc (.cells (Ae op' ⟨xk',xn',xs'⟩ s' name' n' (.slice ao' k' c')) 34)).alloc (.cells (Ae 0 zero noW noW 0 (.slice none 0 0)) 34)) w') (by
   rintro r w' ⟨⟨v,rfl,hv⟩,hb'⟩
   rw [show ((w.alloc (.cells (Ae op' ⟨xk',xn',xs'⟩ s' name' n' (.slice ao' k' c')) 34)).alloc (.cells (Ae 0 zero noW noW 0 (.slice none 0 0)) 34)).heap.size=w.heap.size+2 by simp] at hv
   cases hr :asR S 3 e with
   | error m=>
    rw [hr] at hv
    obtain rfl :=hv
    exact ⟨0,zero,noW,noW,0,none,0,0,m,rfl,rfl,hb'⟩
   | ok e2=>
    rw [hr] at hv
    have hv2 :=hv
    obtain ⟨op,x,s,name,n,ao,k,c,rfl,hE'⟩ :=hv
    exact ⟨op,x,s,name,n,ao,k,c,0,rfl,hv2,hb'⟩)
  clear he hl hg hS hsc ho HI h0
  generalize asR S 3 e=R at HA HI2
  go_enter Tryz.func93,Tryz.ntmps93
  go_wp2_with (first | (go_at_call 134;refine HI2.mono ?_;rintro r w1 ⟨op2,x2,s2,name2,n2,ao2,k2,c2,z,rfl,hAns,hb1⟩;obtain ⟨x2k,x2n,x2s⟩ :=x2;have hZ := (hb1.block _ (by simp)).trans (Aq w _ _);have hbT :=Ad hb2 hb1;have honeL :=Bk op2 ⟨x2k,x2n,x2s⟩ s2 name2 n2 ao2 k2 c2) | (refine wpList_store_row rfl 34 _ _ rfl (w.heap.size+1) (Ae op2 ⟨x2k,x2n,x2s⟩ s2 name2 n2 (.slice ao2 k2 c2)) ?_ ?_ 34 (Ae 0 zero noW noW 0 (.slice none 0 0)) ?_ ?_ ?_ ?_ ?_;exact rfl;exact rfl;exact hZ;exact As;exact rfl;exact honeL))
  refine bodyPost_ret (A2 Tryz.results93 _ _ (w.heap.size+1) 34 _ _ _ _ rfl rfl (Au hZ) Tryz.underlying34 rfl As) rfl ⟨⟨_,rfl, ?_⟩,Below.row hbT (by omega) _⟩
  rw [HA.out]
  cases R with
  | error m=>exact hAns
  | ok e2=>
   obtain ⟨op,x,s,name,n,ao,k,c,hq,hE⟩ :=hAns
   refine ⟨op,x,s,name,n,ao,k,c,hq, ?_⟩
   exact IsE.mono (fun k _ hk=> .inr (Nat.le_trans (by omega) hk)) _ _ (IsE.keep ((Keeps.refl _ _).row (show ¬w.heap.size+2≤w.heap.size+1 by omega) _) _ _ hE)
def Jb {α :Type} (K :Elem α) (R :Except Int (List α)) (F :Nat→Prop) (w' :World) (v :Value) :Prop :=
 match R with
 | .error m=>v= .tuple #[.slice none 0 0, .int .i64 m]
 | .ok l=> ∃ (ao :Option Addr) (k c :Nat),v= .tuple #[.slice ao k c, .int .i64 0] ∧IsL K F w' (.slice ao k c) l
def Hf (S :List TabD) (l :List E) :Except Int (List E) :=
 match A1 S l with
 | .error m=> .error m
 | .ok rs=> .ok (rs.map Prod.fst)
theorem Mu {W w1 :World} {g n j :Nat} {le :List E} {op :Int} {x :V} {s name :Wd} {i :Int} {ao :Option Addr} {k c :Nat} {e :E}
  (h1 :Cf Az (Fr (g+1)) W g n le) (hb :Below W.heap.size W w1) (hj :j<n) (l1 :le.length=j) (he :IsE (Fr (g+1)) w1 e (.agg (Ae op x s name i (.slice ao k c)))) :
  w1.there g (j*8) 8∧Cf Az (Fr (g+1)) (w1.setCells g (j*8) (Ae op x s name i (.slice ao k c)).toList) g n (le++ [e]) :=by
 subst l1
 have m1 :=h1.below hb
 exact ⟨m1.there hj,m1.set hj (show ¬g+1≤g by omega) (a :=e) (c := (Ae op x s name i (.slice ao k c)).toList) ⟨rfl,he⟩⟩
set_option maxRecDepth 100000 in
set_option maxHeartbeats 4000000 in
theorem Pv (S :List TabD) (hS :S.length≤1000) (hsc : ∀t∈S,t.cols.length≤1000000) (d :Nat) (l :List E) (lv sv :Value) (C :Nat) (w :World) (he :IsL Az (fun k=>k<C) w lv l) (hl :IsL Cq (fun k=>k<C) w sv S) (hC :C≤w.heap.size) (hg : ∀a∈l,geB d a=true) (hn :l.length≤1000000000) :
  Calls Tryz.prog 96 #[sv,lv] w fun r w'=> (∃u,r= .returned u∧Jb Az (Hf S l) (Fr w.heap.size) w' u) ∧Below w.heap.size w w' :=by
 obtain ⟨so,sc,rfl⟩ :=hl.shape
 obtain ⟨ao,c,rfl⟩ :=he.shape
 have ih :=Qo S hS hsc d
 clear hS hsc
 obtain ⟨arr1,ha1,hmk1⟩ :=Ms w l.length (by omega)
 have hst :Cf Az (Fr (w.heap.size+1)) (w.alloc (.cells arr1 34)) w.heap.size l.length [] :=Ja Az _ ha1
 have hbW :=Ao w (.cells arr1 34)
 go_enter Tryz.func96,Tryz.ntmps96
 go_wp2_with fail
 clear hmk1
 go_loopw [15] (fun i wr=> ∃ (j :Nat) (rs :List (E×Int)),j≤l.length∧i= .int .i64 j∧Hid (A1 S (l.take j) = .ok rs) ∧Hid (rs.length=j) ∧Cf Az (Fr (w.heap.size+1)) wr w.heap.size l.length (rs.map Prod.fst) ∧Below w.heap.size w wr∧w.heap.size+1≤wr.heap.size) (fun i _=>l.length - (intOf i).toNat)
 case atStart=>exact ⟨0,[],Nat.zero_le _,rfl,by show _=_;rw [List.take_zero,A1],rfl,hst,hbW,by simp⟩
 case round=>
  obtain ⟨j,rs,hj,rfl,HQ,HL,hM1,hbel,hsz⟩ :=hrel
  clear hst hbW ha1
  have q2 :=HL.out
  have l1 : (rs.map Prod.fst).length=j :=by rw [List.length_map];exact q2
  by_cases hjl :j<l.length
  ·obtain ⟨a,ha⟩ : ∃a,l[j]? =some a := ⟨_,List.getElem?_eq_getElem hjl⟩
   have HT :Hid (l.take (j+1) =l.take j++ [a]) :=by show _=_;rw [List.take_add_one,ha];rfl
   have hga :=hg a (List.mem_of_getElem? ha)
   obtain ⟨b,off,cs,rfl,hbC,hb,hR,hcell⟩ :=A4 (he.keep (Af (hbel.mono hC))) ha
   obtain ⟨op',xk',xn',xs',s',name',n',ao',k',c',rfl⟩ :=Ej hR
   have d0 :=hcell 0 _ rfl
   have d1 :=hcell 1 _ rfl
   have d2 :=hcell 2 _ rfl
   have d3 :=hcell 3 _ rfl
   have d4 :=hcell 4 _ rfl
   have d5 :=hcell 5 _ rfl
   have d6 :=hcell 6 _ rfl
   have d7 :=hcell 7 _ rfl
   simp only [Az,Nat.add_zero] at d0 d1 d2 d3 d4 d5 d6 d7
   have j0 : (0 :Int) ≤ (j :Int) :=by omega
   have j1 : (j :Int) < (l.length :Int) :=by omega
   have hbx :=Ao wr (.cells (Ae op' ⟨xk',xn',xs'⟩ s' name' n' (.slice ao' k' c')) 34)
   have HI :=ih a (.agg (Ae op' ⟨xk',xn',xs'⟩ s' name' n' (.slice ao' k' c'))) (.slice so S.length sc) C (wr.alloc (.cells (Ae op' ⟨xk',xn',xs'⟩ s' name' n' (.slice ao' k' c')) 34)) (IsE.keep (Af (hbx.mono (Nat.le_trans hC hbel.size))) _ _ hR.2) ((hl.keep (Af (hbel.mono hC))).keep (Af (hbx.mono (Nat.le_trans hC hbel.size)))) (Nat.le_trans (Nat.le_trans hC hbel.size) hbx.size) hga
   clear hcell hR ha ih hg
   rcases hbr :Bh S a with m | r
   ·have hm :=Js S a m hbr
    have HI2 :=HI.mono (R' :=fun e w'=> ∃ (op :Int) (x :V) (s name :Wd) (n :Int) (ao :Option Addr) (k c :Nat) (z :Int),e= .returned (.tuple #[.agg (Ae op x s name n (.slice ao k c)), .int .i64 z, .int .i64 m]) ∧IsE (Fr (w.heap.size+1)) w' (.mk 0 zero noW noW 0 []) (.agg (Ae op x s name n (.slice ao k c))) ∧Below (wr.heap.size+1) (wr.alloc (.cells (Ae op' ⟨xk',xn',xs'⟩ s' name' n' (.slice ao' k' c')) 34)) w') (by
     rintro e w' ⟨⟨v,rfl,hv⟩,hb'⟩
     obtain rfl := (Dx hbr).1 hv
     exact ⟨0,zero,noW,noW,0,none,0,0,0,rfl,G1 fun _=>rfl,by simpa using hb'⟩)
    have HE :Hid (Hf S l= .error m) :=by
     show _=_
     have hs :A1 S (l.take (j+1)) = .error m :=by rw [HT.out,Gh,HQ.out,hbr]
     have :=Hu S (l.take (j+1)) (l.drop (j+1)) m hs
     rw [List.take_append_drop] at this
     unfold Hf
     rw [this]
    clear HI hbr HQ HL HT q2
    rcases hm with rfl | rfl
    all_goals
     go_wp2_with (first | (go_at_call 136;refine HI2.mono ?_;rintro e w1 ⟨op2,x2,s2,name2,n2,ao2,k2,c2,z,rfl,hE2,hb1⟩;obtain ⟨x2k,x2n,x2s⟩ :=x2;have hbT :=Ad hbx (by simpa using hb1);obtain ⟨mt,mm1⟩ :=Mu hM1 hbT hjl l1 hE2;have hone :=Bk op2 ⟨x2k,x2n,x2s⟩ s2 name2 n2 ao2 k2 c2) | (refine wpList_store_mid rfl 34 _ _ rfl w.heap.size (j*8) (Ae op2 ⟨x2k,x2n,x2s⟩ s2 name2 n2 (.slice ao2 k2 c2)) ?_ ?_ ?_ ?_ ?_ ?_;exact rfl;exact rfl;exact mt;exact As;exact hone))
     go_ret2
     refine ⟨⟨_,rfl, ?_⟩,Cv (Nat.le_refl _) _ _ _ (hbel.trans (hbT.mono hbel.size))⟩
     rw [HE.out]
     rfl
   ·have HI2 :=HI.mono (R' :=fun e w'=> ∃ (op :Int) (x :V) (s name :Wd) (n :Int) (ao :Option Addr) (k c :Nat),e= .returned (.tuple #[.agg (Ae op x s name n (.slice ao k c)), .int .i64 r.2, .int .i64 0]) ∧IsE (Fr (w.heap.size+1)) w' r.1 (.agg (Ae op x s name n (.slice ao k c))) ∧Below (wr.heap.size+1) (wr.alloc (.cells (Ae op' ⟨xk',xn',xs'⟩ s' name' n' (.slice ao' k' c')) 34)) w') (by
     rintro e w' ⟨⟨v,rfl,hv⟩,hb'⟩
     obtain ⟨op,x,s,name,n,ao,k,c,rfl,hE'⟩ := (Ha hbr).1 hv
     exact ⟨op,x,s,name,n,ao,k,c,rfl,IsE.mono (fun k _ hk=>by exact Nat.le_trans (by simp;omega) hk) _ _ hE',by simpa using hb'⟩)
    have HS :Hid (A1 S (l.take (j+1)) = .ok (rs++ [r])) :=by show _=_;rw [HT.out,Gh,HQ.out,hbr]
    have HL2 :Hid ((rs++ [r]).length=j+1) :=by show _=_;rw [List.length_append,q2];rfl
    clear HI hbr HQ HL HT q2
    go_wp2_with (first | (go_at_call 136;refine HI2.mono ?_;rintro e w1 ⟨op2,x2,s2,name2,n2,ao2,k2,c2,rfl,hE2,hb1⟩;obtain ⟨r1,r2⟩ :=r;obtain ⟨x2k,x2n,x2s⟩ :=x2;have hbT :=Ad hbx (by simpa using hb1);obtain ⟨mt,mm1⟩ :=Mu hM1 hbT hjl l1 hE2;have hone :=Bk op2 ⟨x2k,x2n,x2s⟩ s2 name2 n2 ao2 k2 c2) | (refine wpList_store_mid rfl 34 _ _ rfl w.heap.size (j*8) (Ae op2 ⟨x2k,x2n,x2s⟩ s2 name2 n2 (.slice ao2 k2 c2)) ?_ ?_ ?_ ?_ ?_ ?_;exact rfl;exact rfl;exact mt;exact As;exact hone))
    go_roundw
    case rel=>exact ⟨j+1,rs++ [(r1,r2)],by omega,by go_num,HS,HL2,by rw [List.map_append];exact mm1,Cv (Nat.le_refl _) _ _ _ (hbel.trans (hbT.mono hbel.size)),by have :=hbT.size;simp [Ef];omega⟩
    case measure=>simp [intOf];omega
  ·have hjl2 :j=l.length :=by omega
   subst hjl2
   have HE :Hid (Hf S l= .ok (rs.map Prod.fst)) :=by
    show _=_
    have :=HQ.out
    rw [List.take_length] at this
    unfold Hf
    rw [this]
   have hw1 :IsL Az (Fr w.heap.size) wr (.slice (some ⟨w.heap.size,0,none⟩) l.length l.length) (rs.map Prod.fst) :=hM1.whole l1 (fun k hk=>Nat.le_trans (by omega) hk) (Nat.le_refl _) (Nat.le_trans hn (by decide))
   clear q2 HL HQ
   go_wp2_with fail
   go_ret2
   refine ⟨⟨_,rfl, ?_⟩,hbel⟩
   rw [HE.out]
   exact ⟨_,_,_,rfl,hw1⟩
end Go.Proofs.YthehiijgnepcfaaGreat

namespace Go.Proofs.YthehiijgnepcfaaGreat
open Go.RowKit Go.Maps
def Di {α β :Type} (f :α→Except Int β) :List α→Except Int (List β)
 | [] => .ok []
 | a ::l=>match f a with
  | .error m=> .error m
  | .ok b=>match Di f l with
   | .error m=> .error m
   | .ok bs=> .ok (b ::bs)
theorem Jt {α β :Type} (f :α→Except Int β) : ∀ (l :List α) (a :α),Di f (l++ [a]) =match Di f l with
  | .error m=> .error m
  | .ok bs=>match f a with
   | .error m=> .error m
   | .ok b=> .ok (bs++ [b])
 | [],a=>by
  simp only [List.nil_append,Di]
 | x ::l,a=>by
  simp only [List.cons_append,Di,Jt f l a]
  cases f x with
  | error m=>rfl
  | ok r=>
   cases Di f l with
   | error m=>rfl
   | ok rs=>cases f a<;>rfl
theorem Ls {α β :Type} (f :α→Except Int β) : ∀ (l m :List α) (k :Int),Di f l= .error k→Di f (l++m) = .error k
 | [],m,k,h=>by simp [Di] at h
 | x ::l,m,k,h=>by
  simp only [List.cons_append,Di] at h⊢
  cases hx :f x with
  | error j=>rw [hx] at h;exact h
  | ok r=>
   rw [hx] at h
   simp only at h⊢
   cases hl :Di f l with
   | error j=>
    rw [hl] at h
    rw [Ls f l m j hl]
    exact h
   | ok rs=>rw [hl] at h;cases h
theorem Aew {α β :Type} (f :α→Except Int β) : ∀ (l :List α) (rs :List β),Di f l= .ok rs→rs.length=l.length
 | [],rs,h=>by simp [Di] at h;subst h;rfl
 | x ::l,rs,h=>by
  simp only [Di] at h
  cases hx :f x with
  | error j=>rw [hx] at h;cases h
  | ok r=>
   rw [hx] at h
   simp only at h
   cases hl :Di f l with
   | error j=>rw [hl] at h;cases h
   | ok rs'=>
    rw [hl] at h
    simp only [Except.ok.injEq] at h
    subst h
    simp [Aew f l rs' hl]
theorem Qp {α β :Type} (f :α→Except Int β) (P :Int→Prop) (hf : ∀a m,f a= .error m→P m) : ∀ (l :List α) (m :Int),Di f l= .error m→P m
 | [],m,h=>by simp [Di] at h
 | x ::l,m,h=>by
  simp only [Di] at h
  cases hx :f x with
  | error j=>
   rw [hx] at h
   obtain rfl :=Except.error.inj h
   exact hf x _ hx
  | ok r=>
   rw [hx] at h
   simp only at h
   cases hl :Di f l with
   | error j=>
    rw [hl] at h
    obtain rfl :=Except.error.inj h
    exact Qp f P hf l _ hl
   | ok rs=>rw [hl] at h;cases h
def Kf (p :ColD×E) :Except Int E :=asR [] p.1.ty p.2
def Jc (cols :List ColD) (row :List E) :Except Int (List E) :=if row.length=cols.length then Di Kf (cols.zip row) else .error 5
theorem Wz {cols :List ColD} {row :List E} {m :Int} (h :Jc cols row= .error m) :m=3∨m=5 :=by
 unfold Jc at h
 split at h
 ·exact Qp Kf (fun m=>m=3∨m=5) (fun a m ha=>Kp ha) _ m h
 ·exact .inr (Except.error.inj h).symm
def Ix (cols :List ColD) (rows :List (List E)) :Except Int (List (List E)) :=Di (Jc cols) rows
theorem Ui {cols :List ColD} {rows :List (List E)} {m :Int} (h :Ix cols rows= .error m) :m=3∨m=5 :=Qp _ (fun m=>m=3∨m=5) (fun _ _ ha=>Wz ha) _ m h
theorem Aex {cols :List ColD} {row :List E} {j :Nat} {c :ColD} {a :E} (hc :cols[j]? =some c) (ha :row[j]? =some a) : (cols.zip row).take (j+1) = (cols.zip row).take j++ [(c,a)] :=by
 rw [List.take_add_one]
 have : (cols.zip row)[j]? =some (c,a) :=by rw [List.getElem?_zip_eq_some];exact ⟨hc,ha⟩
 rw [this];rfl
def Of (w' :World) (g gc o1 ge :Nat) (cv :Value) (ty op xk xn :Int) (xs s name :Wd) (n :Int) (sv :Value) :Prop :=
 w'.cell? ⟨g,1,none⟩ =some cv∧w'.cell? ⟨gc,o1,none⟩ =some (.int .i64 ty) ∧K6 w' ge op xk xn xs s name n sv
theorem Of.below {w w' :World} {B g gc o1 ge :Nat} {cv :Value} {ty op xk xn :Int} {xs s name :Wd} {n :Int} {sv :Value} (h :Of w g gc o1 ge cv ty op xk xn xs s name n sv) (hb :Below B w w') (h1 :g<B) (h2 :gc<B) (h3 :ge<B) :Of w' g gc o1 ge cv ty op xk xn xs s name n sv :=by
 obtain ⟨a,b,c0,c1,c2,c3,c4,c5,c6,c7⟩ :=h
 exact ⟨(hb.cell (p := ⟨g,1,none⟩) h1).trans a,(hb.cell (p := ⟨gc,o1,none⟩) h2).trans b,(hb.cell (p := ⟨ge,0,none⟩) h3).trans c0,(hb.cell (p := ⟨ge,1,none⟩) h3).trans c1,(hb.cell (p := ⟨ge,2,none⟩) h3).trans c2,(hb.cell (p := ⟨ge,3,none⟩) h3).trans c3,(hb.cell (p := ⟨ge,4,none⟩) h3).trans c4,(hb.cell (p := ⟨ge,5,none⟩) h3).trans c5,(hb.cell (p := ⟨ge,6,none⟩) h3).trans c6,(hb.cell (p := ⟨ge,7,none⟩) h3).trans c7⟩
theorem Of.cells {w :World} {g gc o1 ge :Nat} {cv :Value} {ty op xk xn :Int} {xs s name :Wd} {n :Int} {sv :Value} (h :Of w g gc o1 ge cv ty op xk xn xs s name n sv) {b :Nat} (h1 :g≠b) (h2 :gc≠b) (h3 :ge≠b) (o :Nat) (vs :List Value) :Of (w.setCells b o vs) g gc o1 ge cv ty op xk xn xs s name n sv :=by
 have e : ∀ (k p :Nat),k≠b→ (w.setCells b o vs).cell? ⟨k,p,none⟩ =w.cell? ⟨k,p,none⟩ :=fun k p hk=>by unfold World.cell?;simp only [Cg hk vs o w]
 obtain ⟨a,b,c0,c1,c2,c3,c4,c5,c6,c7⟩ :=h
 exact ⟨(e _ _ h1).trans a,(e _ _ h2).trans b,(e _ _ h3).trans c0,(e _ _ h3).trans c1,(e _ _ h3).trans c2,(e _ _ h3).trans c3,(e _ _ h3).trans c4,(e _ _ h3).trans c5,(e _ _ h3).trans c6,(e _ _ h3).trans c7⟩
set_option maxRecDepth 100000 in
set_option maxHeartbeats 4000000 in
theorem Yk (tn :Wd) (cols :List ColD) (cv :Value) (d :Nat) (l :List E) (lv :Value) (C :Nat) (w :World) (he :IsL Az (fun k=>k<C) w lv l) (hl :IsL Cc (fun k=>k<C) w cv cols) (hC :C≤w.heap.size) (hg : ∀a∈l,geB d a=true) (hn :l.length≤1000000000) :
  Calls Tryz.prog 132 #[.agg #[.string tn,cv],lv] w fun r w'=> (∃u,r= .returned u∧Jb Az (Jc cols l) (Fr w.heap.size) w' u) ∧Below w.heap.size w w' :=by
 obtain ⟨so,sc,rfl⟩ :=hl.shape
 obtain ⟨ao,c,rfl⟩ :=he.shape
 have hb1 :=Ao w (.cells #[.string tn, .slice so cols.length sc] 43)
 by_cases hlen :l.length=cols.length
 ·have HR :Hid (Jc cols l=Di Kf (cols.zip l)) :=if_pos hlen
  have hI : (l.length :Int) = (cols.length :Int) :=by omega
  obtain ⟨arr1,ha1,hmk1⟩ :=Ms (w.alloc (.cells #[.string tn, .slice so cols.length sc] 43)) cols.length (by omega)
  have hst :Cf Az (Fr (w.heap.size+2)) ((w.alloc (.cells #[.string tn, .slice so cols.length sc] 43)).alloc (.cells arr1 34)) (w.heap.size+1) cols.length [] :=by
   have :=Ja Az (Fr (w.heap.size+2)) (w :=w.alloc (.cells #[.string tn, .slice so cols.length sc] 43)) (t :=34) (n :=cols.length) ha1
   rwa [show (w.alloc (.cells #[.string tn, .slice so cols.length sc] 43)).heap.size=w.heap.size+1 by simp] at this
  have hT0 : ((w.alloc (.cells #[.string tn, .slice so cols.length sc] 43)).alloc (.cells arr1 34)).heap[w.heap.size]? =some (.cells #[.string tn, .slice so cols.length sc] 43) :=Ac (Ab _ _) _
  have hbW :=Bb w (.cells #[.string tn, .slice so cols.length sc] 43) (.cells arr1 34)
  rw [hlen]
  go_enter Tryz.func132,Tryz.ntmps132
  go_wp2_with fail
  clear hmk1
  go_loopw [21] (fun i wr=> ∃ (j :Nat) (rs :List E),j≤cols.length∧i= .int .i64 j∧Hid (Di Kf ((cols.zip l).take j) = .ok rs) ∧Hid (rs.length=j) ∧wr.heap[w.heap.size]? =some (.cells #[.string tn, .slice so cols.length sc] 43) ∧Cf Az (Fr (w.heap.size+2)) wr (w.heap.size+1) cols.length rs∧Below w.heap.size w wr∧w.heap.size+2≤wr.heap.size) (fun i _=>cols.length - (intOf i).toNat)
  case atStart=>exact ⟨0,[],Nat.zero_le _,rfl,by show _=_;rw [List.take_zero,Di],rfl,hT0,hst,hbW,by simp⟩
  case round=>
   obtain ⟨j,rs,hj,rfl,HQ,HL,hT,hM1,hbel,hsz⟩ :=hrel
   clear hst hbW ha1 hT0
   have q2 :=HL.out
   by_cases hjl :j<cols.length
   ·obtain ⟨a,ha⟩ : ∃a,l[j]? =some a := ⟨_,List.getElem?_eq_getElem (by omega)⟩
    obtain ⟨cd,hcd⟩ : ∃a,cols[j]? =some a := ⟨_,List.getElem?_eq_getElem hjl⟩
    have HT :Hid ((cols.zip l).take (j+1) = (cols.zip l).take j++ [(cd,a)]) :=Aex hcd ha
    have hga :=hg a (List.mem_of_getElem? ha)
    obtain ⟨b,off,cs,rfl,hbC,hb,hR,hcell⟩ :=A4 (he.keep (Af (hbel.mono hC))) ha
    obtain ⟨op',xk',xn',xs',s',name',n',ao',k',c',rfl⟩ :=Ej hR
    obtain ⟨cb,cof,ccs,rfl,hcbC,hcb,hcR,hccell⟩ :=A4 (hl.keep (Af (hbel.mono hC))) hcd
    obtain rfl :=hcR
    have c1 :=hccell 1 _ rfl
    have d0 :=hcell 0 _ rfl
    have d1 :=hcell 1 _ rfl
    have d2 :=hcell 2 _ rfl
    have d3 :=hcell 3 _ rfl
    have d4 :=hcell 4 _ rfl
    have d5 :=hcell 5 _ rfl
    have d6 :=hcell 6 _ rfl
    have d7 :=hcell 7 _ rfl
    simp only [Az,Cc,Nat.add_zero] at c1 d0 d1 d2 d3 d4 d5 d6 d7
    have j0 : (0 :Int) ≤ (j :Int) :=by omega
    have j1 : (j :Int) < (cols.length :Int) :=by omega
    have hbx :=Ao wr (.cells (Ae op' ⟨xk',xn',xs'⟩ s' name' n' (.slice ao' k' c')) 34)
    have HI : ∀ (W :World) (ae :Option Addr) (ce :Nat),(ae=none→ce=0) →Below wr.heap.size wr W→Calls Tryz.prog 134 #[.slice ae 0 ce, .int .i64 cd.ty, .agg (Ae op' ⟨xk',xn',xs'⟩ s' name' n' (.slice ao' k' c'))] W fun r w'=> (∃u,r= .returned u∧R6 (asR [] cd.ty a) (Fr (w.heap.size+2)) w' u) ∧Below W.heap.size W w' :=fun W ae ce hae hW=> (Mt [] (by decide) (fun _ h=>by cases h) d cd.ty a _ (.slice ae 0 ce) C W (IsE.keep (Af (hW.mono (Nat.le_trans hC hbel.size))) _ _ hR.2) ⟨[],⟨rfl, .inl ⟨rfl,ae,ce,rfl,hae⟩⟩,rfl⟩ (Nat.le_trans (Nat.le_trans hC hbel.size) hW.size) hga).mono (fun r w' ⟨⟨u,hu,ha⟩,hb'⟩ => ⟨⟨u,hu,by
     revert ha
     cases asR [] cd.ty a with
     | error m=>exact id
     | ok e2=>
      rintro ⟨o1,o2,o3,o4,o5,o6,o7,o8,hq,hE⟩
      exact ⟨o1,o2,o3,o4,o5,o6,o7,o8,hq,IsE.mono (fun k _ hk=>Nat.le_trans (Nat.le_trans hsz hW.size) hk) _ _ hE⟩⟩,hb'⟩)
    have t1 :=Aa hT (j :=1) rfl
    have hlt0 :=lt_of_block hT
    have S0 :Of (wr.alloc (.cells (Ae op' ⟨xk',xn',xs'⟩ s' name' n' (.slice ao' k' c')) 34)).drew w.heap.size cb (cof+j*3+1) wr.heap.size (.slice (some ⟨cb,cof,none⟩) cols.length sc) cd.ty op' xk' xn' xs' s' name' n' (.slice ao' k' c') := ⟨(hbx.cell (p := ⟨w.heap.size,1,none⟩) hlt0).trans t1,(hbx.cell (p := ⟨cb,cof+j*3+1,none⟩) hcb).trans c1,Lh (Ab _ _)⟩
    have S1 :Of ((wr.alloc (.cells (Ae op' ⟨xk',xn',xs'⟩ s' name' n' (.slice ao' k' c')) 34)).alloc (.cells #[] 43)).drew w.heap.size cb (cof+j*3+1) wr.heap.size (.slice (some ⟨cb,cof,none⟩) cols.length sc) cd.ty op' xk' xn' xs' s' name' n' (.slice ao' k' c') :=Of.below (w :=wr.alloc (.cells (Ae op' ⟨xk',xn',xs'⟩ s' name' n' (.slice ao' k' c')) 34)) S0 (Ao (wr.alloc (.cells (Ae op' ⟨xk',xn',xs'⟩ s' name' n' (.slice ao' k' c')) 34)) (.cells #[] 43)).drew (Nat.lt_of_lt_of_le hlt0 hbx.size) (Nat.lt_of_lt_of_le hcb hbx.size) (by simp)
    have hbx2 :Below wr.heap.size wr ((wr.alloc (.cells (Ae op' ⟨xk',xn',xs'⟩ s' name' n' (.slice ao' k' c')) 34)).alloc (.cells #[] 43)).drew := (Bb wr _ _).drew
    have HI1 :=HI _ (some ⟨wr.heap.size+1,0,none⟩) 0 (fun h=>by cases h) hbx2
    have hcw :cb<w.heap.size :=Nat.lt_of_lt_of_le hcbC hC
    clear hcell hccell hR ha hcd HI hg he hl hbx
    rcases har :asR [] cd.ty a with m | e2
    ·have hm :=Kp har
     have HI2 :=HI1.mono (R' :=fun r w'=> ∃ (op :Int) (x :V) (s name :Wd) (n :Int) (ao :Option Addr) (k c :Nat),r= .returned (.tuple #[.agg (Ae op x s name n (.slice ao k c)), .int .i64 m]) ∧IsE (Fr (w.heap.size+1+1)) w' (.mk 0 zero noW noW 0 []) (.agg (Ae op x s name n (.slice ao k c))) ∧Below ((wr.alloc (.cells (Ae op' ⟨xk',xn',xs'⟩ s' name' n' (.slice ao' k' c')) 34)).alloc (.cells #[] 43)).drew.heap.size ((wr.alloc (.cells (Ae op' ⟨xk',xn',xs'⟩ s' name' n' (.slice ao' k' c')) 34)).alloc (.cells #[] 43)).drew w') (by
      rintro e w' ⟨⟨v,rfl,hv⟩,hb'⟩
      rw [har] at hv
      obtain rfl :=hv
      exact ⟨0,zero,noW,noW,0,none,0,0,rfl,G1 fun _=>rfl,hb'⟩)
     have HE :Hid (Jc cols l= .error m) :=by
      show _=_
      have hs :Di Kf ((cols.zip l).take (j+1)) = .error m :=by rw [HT.out,Jt,HQ.out];simp only [Kf,har]
      have :=Ls Kf ((cols.zip l).take (j+1)) ((cols.zip l).drop (j+1)) m hs
      rw [List.take_append_drop] at this
      rw [HR.out,this]
     clear HI1 har HQ HL HT HR
     rcases hm with rfl | rfl
     all_goals
      go_wp2_with fail
      refine wp_region_held_drew (S := (fun w'=>Of w' w.heap.size cb (cof+j*3+1) wr.heap.size (.slice (some ⟨cb,cof,none⟩) cols.length sc) cd.ty op' xk' xn' xs' s' name' n' (.slice ao' k' c'))) (by kernel_rfl) ?_ (fun hHeld=> ?_)
      ·exact S0
      refine wpAnyH_take (i :=0) (v := ?_) rfl (by kernel_rfl) (by kernel_rfl) (by kernel_rfl) (fun _ _ _ h=>h) (Or.inl ⟨by rfl, ?_⟩) (by assumption) ?_
      rotate_left
      ·intro W' hSw;obtain ⟨a0,a1,b0,b1,b2,b3,b4,b5,b6,b7⟩ :=hSw;go_simp;all_goals (with_reducible rfl)
      try simp only [Act.put,List.setIfInBounds_toArray,List.set_cons_zero,List.set_cons_succ]
      refine wpAnyH_take (i :=1) (v := ?_) rfl (by kernel_rfl) (by kernel_rfl) (by kernel_rfl) (fun _ _ _ h=>h) (Or.inl ⟨by rfl, ?_⟩) (by assumption) ?_
      rotate_left
      ·intro W' hSw;obtain ⟨a0,a1,b0,b1,b2,b3,b4,b5,b6,b7⟩ :=hSw;go_simp;all_goals (with_reducible rfl)
      try simp only [Act.put,List.setIfInBounds_toArray,List.set_cons_zero,List.set_cons_succ]
      refine wpAnyH_take (i :=3) (v := ?_) rfl (by kernel_rfl) (by kernel_rfl) (by kernel_rfl) (fun _ _ _ h=>h) (Or.inl ⟨by rfl, ?_⟩) (by assumption) ?_
      rotate_left
      ·intro W' hSw;obtain ⟨a0,a1,b0,b1,b2,b3,b4,b5,b6,b7⟩ :=hSw;go_simp;all_goals (with_reducible rfl)
      try simp only [Act.put,List.setIfInBounds_toArray,List.set_cons_zero,List.set_cons_succ]
      refine wpAnyH_take (i :=4) (v := ?_) rfl (by kernel_rfl) (by kernel_rfl) (by kernel_rfl) (fun _ _ _ h=>h) (Or.inl ⟨by rfl, ?_⟩) (by assumption) ?_
      rotate_left
      ·intro W' hSw;obtain ⟨a0,a1,b0,b1,b2,b3,b4,b5,b6,b7⟩ :=hSw;go_simp;all_goals (with_reducible rfl)
      try simp only [Act.put,List.setIfInBounds_toArray,List.set_cons_zero,List.set_cons_succ]
      refine wpAnyH_take (i :=5) (v := ?_) rfl (by kernel_rfl) (by kernel_rfl) (by kernel_rfl) (fun _ _ _ h=>h) (Or.inl ⟨by rfl, ?_⟩) (by assumption) ?_
      rotate_left
      ·intro W' hSw;obtain ⟨a0,a1,b0,b1,b2,b3,b4,b5,b6,b7⟩ :=hSw;go_simp;all_goals (with_reducible rfl)
      try simp only [Act.put,List.setIfInBounds_toArray,List.set_cons_zero,List.set_cons_succ]
      refine wpAnyH_take (i :=6) (v := ?_) rfl (by kernel_rfl) (by kernel_rfl) (by kernel_rfl) (fun _ _ _ h=>h) (Or.inl ⟨by rfl, ?_⟩) (by assumption) ?_
      rotate_left
      ·intro W' hSw;obtain ⟨a0,a1,b0,b1,b2,b3,b4,b5,b6,b7⟩ :=hSw;go_simp;all_goals (with_reducible rfl)
      try simp only [Act.put,List.setIfInBounds_toArray,List.set_cons_zero,List.set_cons_succ]
      refine wpAnyH_take (i :=7) (v := ?_) rfl (by kernel_rfl) (by kernel_rfl) (by kernel_rfl) (fun _ _ _ h=>h) (Or.inl ⟨by rfl, ?_⟩) (by assumption) ?_
      rotate_left
      ·intro W' hSw;obtain ⟨a0,a1,b0,b1,b2,b3,b4,b5,b6,b7⟩ :=hSw;go_simp;all_goals (with_reducible rfl)
      try simp only [Act.put,List.setIfInBounds_toArray,List.set_cons_zero,List.set_cons_succ]
      refine wpAnyH_take (i :=8) (v := ?_) rfl (by kernel_rfl) (by kernel_rfl) (by kernel_rfl) (fun _ _ _ h=>h) (Or.inl ⟨by rfl, ?_⟩) (by assumption) ?_
      rotate_left
      ·intro W' hSw;obtain ⟨a0,a1,b0,b1,b2,b3,b4,b5,b6,b7⟩ :=hSw;go_simp;all_goals (with_reducible rfl)
      try simp only [Act.put,List.setIfInBounds_toArray,List.set_cons_zero,List.set_cons_succ]
      refine wpAnyH_take (i :=9) (v := ?_) rfl (by kernel_rfl) (by kernel_rfl) (by kernel_rfl) (fun _ _ _ h=>h) (Or.inl ⟨by rfl, ?_⟩) (by assumption) ?_
      rotate_left
      ·intro W' hSw;obtain ⟨a0,a1,b0,b1,b2,b3,b4,b5,b6,b7⟩ :=hSw;go_simp;all_goals (with_reducible rfl)
      try simp only [Act.put,List.setIfInBounds_toArray,List.set_cons_zero,List.set_cons_succ]
      refine wpAnyH_ready (rs := [2]) (by kernel_rfl) (by simp) ?_
      refine (AllReadyH.cons rfl (fun K hK=> ?_) AllReadyH.nil)
      go_simp
      go_wp2_with fail
      refine hK.out _ _ ?_ (fun hHeld=> ?_)
      ·exact S1
      clear hK K
      try simp only [Act.put,List.setIfInBounds_toArray,List.set_cons_zero,List.set_cons_succ]
      refine wpAnyH_ready (rs := [10]) (by kernel_rfl) (by simp) ?_
      refine (AllReadyH.cons rfl (fun K hK=> ?_) AllReadyH.nil)
      go_simp
      (go_at_call 134;refine HI2.mono ?_;rintro r w1 ⟨op2,x2,s2,name2,n2,ao2,k2,c2,rfl,hE2,hb1⟩;obtain ⟨x2k,x2n,x2s⟩ :=x2;have hbT :=Ad hbx2 hb1;obtain ⟨mt,mm1⟩ :=Mu (g :=w.heap.size+1) hM1 hbT hjl q2 hE2;have hone :=Bk op2 ⟨x2k,x2n,x2s⟩ s2 name2 n2 ao2 k2 c2;have S2 :=S1.below hb1 (Nat.lt_of_lt_of_le hlt0 hbx2.size) (Nat.lt_of_lt_of_le hcb hbx2.size) (by simp [World.drew];omega))
      go_wp2_with fail
      refine hK.out _ _ ?_ (fun hHeld=> ?_)
      ·exact S2
      clear hK K
      try simp only [Act.put,List.setIfInBounds_toArray,List.set_cons_zero,List.set_cons_succ]
      refine wpAnyH_take (i :=11) (v := ?_) rfl (by kernel_rfl) (by kernel_rfl) (by kernel_rfl) (fun _ _ _ h=>h) (Or.inl ⟨by rfl, ?_⟩) (by assumption) ?_
      rotate_left
      ·intro W' hSw;obtain ⟨a0,a1,b0,b1,b2,b3,b4,b5,b6,b7⟩ :=hSw;go_simp;all_goals (with_reducible rfl)
      try simp only [Act.put,List.setIfInBounds_toArray,List.set_cons_zero,List.set_cons_succ]
      refine wpAnyH_take (i :=12) (v := ?_) rfl (by kernel_rfl) (by kernel_rfl) (by kernel_rfl) (fun _ _ _ h=>h) (Or.inl ⟨by rfl, ?_⟩) (by assumption) ?_
      rotate_left
      ·intro W' hSw;obtain ⟨a0,a1,b0,b1,b2,b3,b4,b5,b6,b7⟩ :=hSw;go_simp;all_goals (with_reducible rfl)
      try simp only [Act.put,List.setIfInBounds_toArray,List.set_cons_zero,List.set_cons_succ]
      refine wpAnyH_take (i :=13) (v := ?_) rfl (by kernel_rfl) (by kernel_rfl) (by kernel_rfl) (fun _ _ _ h=>h) (Or.inl ⟨by rfl, ?_⟩) (by assumption) ?_
      rotate_left
      ·intro W' hSw;obtain ⟨a0,a1,b0,b1,b2,b3,b4,b5,b6,b7⟩ :=hSw;go_simp;all_goals (with_reducible rfl)
      try simp only [Act.put,List.setIfInBounds_toArray,List.set_cons_zero,List.set_cons_succ]
      refine wpAnyH_take (i :=14) (v := ?_) rfl (by kernel_rfl) (by kernel_rfl) (by kernel_rfl) (fun _ _ _ h=>h) (Or.inl ⟨by rfl, ?_⟩) (by assumption) ?_
      rotate_left
      ·intro W' hSw;obtain ⟨a0,a1,b0,b1,b2,b3,b4,b5,b6,b7⟩ :=hSw;go_simp;all_goals (with_reducible rfl)
      try simp only [Act.put,List.setIfInBounds_toArray,List.set_cons_zero,List.set_cons_succ]
      refine wpAnyH_ready (rs := [15]) (by kernel_rfl) (by simp) ?_
      refine (AllReadyH.cons rfl (fun K hK=> ?_) AllReadyH.nil)
      refine L8 rfl 34 _ _ rfl (w.heap.size+1) (j*8) (Ae op2 ⟨x2k,x2n,x2s⟩ s2 name2 n2 (.slice ao2 k2 c2)) ?_ ?_ ?_ ?_ ?_ ?_;exact rfl;exact rfl;exact mt;exact As;exact hone
      refine hK.out _ _ ?_ (fun hHeld=> ?_)
      ·exact S2.cells (by omega) (by omega) (by omega) _ _
      clear hK K
      try simp only [Act.put]
      refine wpAnyH_take (i :=16) (v := ?_) rfl (by kernel_rfl) (by kernel_rfl) (by kernel_rfl) (fun _ _ _ h=>h) (Or.inl ⟨by rfl, ?_⟩) (by assumption) ?_
      rotate_left
      ·intro W' hSw;obtain ⟨a0,a1,b0,b1,b2,b3,b4,b5,b6,b7⟩ :=hSw;go_simp;all_goals (with_reducible rfl)
      try simp only [Act.put,List.setIfInBounds_toArray,List.set_cons_zero,List.set_cons_succ]
      refine wpAnyH_done (by kernel_rfl) ?_ _
      go_wp2_with fail
      go_ret2
      refine ⟨⟨_,rfl, ?_⟩,Cv (show w.heap.size≤w.heap.size+1 by omega) _ _ _ (hbel.trans (hbT.mono hbel.size))⟩
      rw [HE.out]
      rfl
    ·have HI2 :=HI1.mono (R' :=fun r w'=> ∃ (op :Int) (x :V) (s name :Wd) (n :Int) (ao :Option Addr) (k c :Nat),r= .returned (.tuple #[.agg (Ae op x s name n (.slice ao k c)), .int .i64 0]) ∧IsE (Fr (w.heap.size+1+1)) w' e2 (.agg (Ae op x s name n (.slice ao k c))) ∧Below ((wr.alloc (.cells (Ae op' ⟨xk',xn',xs'⟩ s' name' n' (.slice ao' k' c')) 34)).alloc (.cells #[] 43)).drew.heap.size ((wr.alloc (.cells (Ae op' ⟨xk',xn',xs'⟩ s' name' n' (.slice ao' k' c')) 34)).alloc (.cells #[] 43)).drew w') (by
      rintro e w' ⟨⟨v,rfl,hv⟩,hb'⟩
      rw [har] at hv
      obtain ⟨op,x,s,name,n,ao,k,c,rfl,hE'⟩ :=hv
      exact ⟨op,x,s,name,n,ao,k,c,rfl,hE',hb'⟩)
     have HS :Hid (Di Kf ((cols.zip l).take (j+1)) = .ok (rs++ [e2])) :=by show _=_;rw [HT.out,Jt,HQ.out];simp only [Kf,har]
     have HL2 :Hid ((rs++ [e2]).length=j+1) :=by show _=_;rw [List.length_append,q2];rfl
     clear HI1 har HQ HL HT HR
     go_wp2_with fail
     refine wp_region_held_drew (S := (fun w'=>Of w' w.heap.size cb (cof+j*3+1) wr.heap.size (.slice (some ⟨cb,cof,none⟩) cols.length sc) cd.ty op' xk' xn' xs' s' name' n' (.slice ao' k' c'))) (by kernel_rfl) ?_ (fun hHeld=> ?_)
     ·exact S0
     refine wpAnyH_take (i :=0) (v := ?_) rfl (by kernel_rfl) (by kernel_rfl) (by kernel_rfl) (fun _ _ _ h=>h) (Or.inl ⟨by rfl, ?_⟩) (by assumption) ?_
     rotate_left
     ·intro W' hSw;obtain ⟨a0,a1,b0,b1,b2,b3,b4,b5,b6,b7⟩ :=hSw;go_simp;all_goals (with_reducible rfl)
     try simp only [Act.put,List.setIfInBounds_toArray,List.set_cons_zero,List.set_cons_succ]
     refine wpAnyH_take (i :=1) (v := ?_) rfl (by kernel_rfl) (by kernel_rfl) (by kernel_rfl) (fun _ _ _ h=>h) (Or.inl ⟨by rfl, ?_⟩) (by assumption) ?_
     rotate_left
     ·intro W' hSw;obtain ⟨a0,a1,b0,b1,b2,b3,b4,b5,b6,b7⟩ :=hSw;go_simp;all_goals (with_reducible rfl)
     try simp only [Act.put,List.setIfInBounds_toArray,List.set_cons_zero,List.set_cons_succ]
     refine wpAnyH_take (i :=3) (v := ?_) rfl (by kernel_rfl) (by kernel_rfl) (by kernel_rfl) (fun _ _ _ h=>h) (Or.inl ⟨by rfl, ?_⟩) (by assumption) ?_
     rotate_left
     ·intro W' hSw;obtain ⟨a0,a1,b0,b1,b2,b3,b4,b5,b6,b7⟩ :=hSw;go_simp;all_goals (with_reducible rfl)
     try simp only [Act.put,List.setIfInBounds_toArray,List.set_cons_zero,List.set_cons_succ]
     refine wpAnyH_take (i :=4) (v := ?_) rfl (by kernel_rfl) (by kernel_rfl) (by kernel_rfl) (fun _ _ _ h=>h) (Or.inl ⟨by rfl, ?_⟩) (by assumption) ?_
     rotate_left
     ·intro W' hSw;obtain ⟨a0,a1,b0,b1,b2,b3,b4,b5,b6,b7⟩ :=hSw;go_simp;all_goals (with_reducible rfl)
     try simp only [Act.put,List.setIfInBounds_toArray,List.set_cons_zero,List.set_cons_succ]
     refine wpAnyH_take (i :=5) (v := ?_) rfl (by kernel_rfl) (by kernel_rfl) (by kernel_rfl) (fun _ _ _ h=>h) (Or.inl ⟨by rfl, ?_⟩) (by assumption) ?_
     rotate_left
     ·intro W' hSw;obtain ⟨a0,a1,b0,b1,b2,b3,b4,b5,b6,b7⟩ :=hSw;go_simp;all_goals (with_reducible rfl)
     try simp only [Act.put,List.setIfInBounds_toArray,List.set_cons_zero,List.set_cons_succ]
     refine wpAnyH_take (i :=6) (v := ?_) rfl (by kernel_rfl) (by kernel_rfl) (by kernel_rfl) (fun _ _ _ h=>h) (Or.inl ⟨by rfl, ?_⟩) (by assumption) ?_
     rotate_left
     ·intro W' hSw;obtain ⟨a0,a1,b0,b1,b2,b3,b4,b5,b6,b7⟩ :=hSw;go_simp;all_goals (with_reducible rfl)
     try simp only [Act.put,List.setIfInBounds_toArray,List.set_cons_zero,List.set_cons_succ]
     refine wpAnyH_take (i :=7) (v := ?_) rfl (by kernel_rfl) (by kernel_rfl) (by kernel_rfl) (fun _ _ _ h=>h) (Or.inl ⟨by rfl, ?_⟩) (by assumption) ?_
     rotate_left
     ·intro W' hSw;obtain ⟨a0,a1,b0,b1,b2,b3,b4,b5,b6,b7⟩ :=hSw;go_simp;all_goals (with_reducible rfl)
     try simp only [Act.put,List.setIfInBounds_toArray,List.set_cons_zero,List.set_cons_succ]
     refine wpAnyH_take (i :=8) (v := ?_) rfl (by kernel_rfl) (by kernel_rfl) (by kernel_rfl) (fun _ _ _ h=>h) (Or.inl ⟨by rfl, ?_⟩) (by assumption) ?_
     rotate_left
     ·intro W' hSw;obtain ⟨a0,a1,b0,b1,b2,b3,b4,b5,b6,b7⟩ :=hSw;go_simp;all_goals (with_reducible rfl)
     try simp only [Act.put,List.setIfInBounds_toArray,List.set_cons_zero,List.set_cons_succ]
     refine wpAnyH_take (i :=9) (v := ?_) rfl (by kernel_rfl) (by kernel_rfl) (by kernel_rfl) (fun _ _ _ h=>h) (Or.inl ⟨by rfl, ?_⟩) (by assumption) ?_
     rotate_left
     ·intro W' hSw;obtain ⟨a0,a1,b0,b1,b2,b3,b4,b5,b6,b7⟩ :=hSw;go_simp;all_goals (with_reducible rfl)
     try simp only [Act.put,List.setIfInBounds_toArray,List.set_cons_zero,List.set_cons_succ]
     refine wpAnyH_ready (rs := [2]) (by kernel_rfl) (by simp) ?_
     refine (AllReadyH.cons rfl (fun K hK=> ?_) AllReadyH.nil)
     go_simp
     go_wp2_with fail
     refine hK.out _ _ ?_ (fun hHeld=> ?_)
     ·exact S1
     clear hK K
     try simp only [Act.put,List.setIfInBounds_toArray,List.set_cons_zero,List.set_cons_succ]
     refine wpAnyH_ready (rs := [10]) (by kernel_rfl) (by simp) ?_
     refine (AllReadyH.cons rfl (fun K hK=> ?_) AllReadyH.nil)
     go_simp
     (go_at_call 134;refine HI2.mono ?_;rintro r w1 ⟨op2,x2,s2,name2,n2,ao2,k2,c2,rfl,hE2,hb1⟩;obtain ⟨x2k,x2n,x2s⟩ :=x2;have hbT :=Ad hbx2 hb1;obtain ⟨mt,mm1⟩ :=Mu (g :=w.heap.size+1) hM1 hbT hjl q2 hE2;have hone :=Bk op2 ⟨x2k,x2n,x2s⟩ s2 name2 n2 ao2 k2 c2;have S2 :=S1.below hb1 (Nat.lt_of_lt_of_le hlt0 hbx2.size) (Nat.lt_of_lt_of_le hcb hbx2.size) (by simp [World.drew];omega))
     go_wp2_with fail
     refine hK.out _ _ ?_ (fun hHeld=> ?_)
     ·exact S2
     clear hK K
     try simp only [Act.put,List.setIfInBounds_toArray,List.set_cons_zero,List.set_cons_succ]
     refine wpAnyH_take (i :=11) (v := ?_) rfl (by kernel_rfl) (by kernel_rfl) (by kernel_rfl) (fun _ _ _ h=>h) (Or.inl ⟨by rfl, ?_⟩) (by assumption) ?_
     rotate_left
     ·intro W' hSw;obtain ⟨a0,a1,b0,b1,b2,b3,b4,b5,b6,b7⟩ :=hSw;go_simp;all_goals (with_reducible rfl)
     try simp only [Act.put,List.setIfInBounds_toArray,List.set_cons_zero,List.set_cons_succ]
     refine wpAnyH_take (i :=12) (v := ?_) rfl (by kernel_rfl) (by kernel_rfl) (by kernel_rfl) (fun _ _ _ h=>h) (Or.inl ⟨by rfl, ?_⟩) (by assumption) ?_
     rotate_left
     ·intro W' hSw;obtain ⟨a0,a1,b0,b1,b2,b3,b4,b5,b6,b7⟩ :=hSw;go_simp;all_goals (with_reducible rfl)
     try simp only [Act.put,List.setIfInBounds_toArray,List.set_cons_zero,List.set_cons_succ]
     refine wpAnyH_take (i :=13) (v := ?_) rfl (by kernel_rfl) (by kernel_rfl) (by kernel_rfl) (fun _ _ _ h=>h) (Or.inl ⟨by rfl, ?_⟩) (by assumption) ?_
     rotate_left
     ·intro W' hSw;obtain ⟨a0,a1,b0,b1,b2,b3,b4,b5,b6,b7⟩ :=hSw;go_simp;all_goals (with_reducible rfl)
     try simp only [Act.put,List.setIfInBounds_toArray,List.set_cons_zero,List.set_cons_succ]
     refine wpAnyH_take (i :=14) (v := ?_) rfl (by kernel_rfl) (by kernel_rfl) (by kernel_rfl) (fun _ _ _ h=>h) (Or.inl ⟨by rfl, ?_⟩) (by assumption) ?_
     rotate_left
     ·intro W' hSw;obtain ⟨a0,a1,b0,b1,b2,b3,b4,b5,b6,b7⟩ :=hSw;go_simp;all_goals (with_reducible rfl)
     try simp only [Act.put,List.setIfInBounds_toArray,List.set_cons_zero,List.set_cons_succ]
     refine wpAnyH_ready (rs := [15]) (by kernel_rfl) (by simp) ?_
     refine (AllReadyH.cons rfl (fun K hK=> ?_) AllReadyH.nil)
     refine L8 rfl 34 _ _ rfl (w.heap.size+1) (j*8) (Ae op2 ⟨x2k,x2n,x2s⟩ s2 name2 n2 (.slice ao2 k2 c2)) ?_ ?_ ?_ ?_ ?_ ?_;exact rfl;exact rfl;exact mt;exact As;exact hone
     refine hK.out _ _ ?_ (fun hHeld=> ?_)
     ·exact S2.cells (by omega) (by omega) (by omega) _ _
     clear hK K
     try simp only [Act.put]
     refine wpAnyH_take (i :=16) (v := ?_) rfl (by kernel_rfl) (by kernel_rfl) (by kernel_rfl) (fun _ _ _ h=>h) (Or.inl ⟨by rfl, ?_⟩) (by assumption) ?_
     rotate_left
     ·intro W' hSw;obtain ⟨a0,a1,b0,b1,b2,b3,b4,b5,b6,b7⟩ :=hSw;go_simp;all_goals (with_reducible rfl)
     try simp only [Act.put,List.setIfInBounds_toArray,List.set_cons_zero,List.set_cons_succ]
     refine wpAnyH_done (by kernel_rfl) ?_ _
     go_wp2_with fail
     go_roundw
     case rel=>exact ⟨j+1,rs++ [e2],by omega,by go_num,HS,HL2,(Cg (show w.heap.size≠w.heap.size+1 by omega) _ _ _).trans ((hbT.block _ hlt0).trans hT),mm1,Cv (show w.heap.size≤w.heap.size+1 by omega) _ _ _ (hbel.trans (hbT.mono hbel.size)),by have :=hbT.size;simp [Ef];omega⟩
     case measure=>simp [intOf];omega
   ·have hjl2 :j=cols.length :=by omega
    subst hjl2
    have HE :Hid (Jc cols l= .ok rs) :=by
     show _=_
     have :=HQ.out
     rw [List.take_of_length_le (by rw [List.length_zip];omega)] at this
     rw [HR.out,this]
    have hw1 :IsL Az (Fr w.heap.size) wr (.slice (some ⟨w.heap.size+1,0,none⟩) cols.length cols.length) rs :=hM1.whole q2 (fun k hk=>Nat.le_trans (by omega) hk) (show w.heap.size≤w.heap.size+1 by omega) (Nat.le_trans (show cols.length≤1000000000 by omega) (by decide))
    clear q2 HL HQ HR
    go_wp2_with fail
    go_ret2
    refine ⟨⟨_,rfl, ?_⟩,hbel⟩
    rw [HE.out]
    exact ⟨_,_,_,rfl,hw1⟩
 ·have HE :Hid (Jc cols l= .error 5) :=if_neg hlen
  have hne : ((l.length :Int) == (cols.length :Int)) =false :=by simp;omega
  clear he hl hg
  go_enter Tryz.func132,Tryz.ntmps132
  go_wp2_with fail
  go_ret2
  refine ⟨⟨_,rfl, ?_⟩,hb1⟩
  rw [HE.out]
  rfl
theorem Aey : (Tryz.prog.info? 30).map (fun i=> (i.zero,i.size,i.bytes)) =some (some (.slice none 0 0),1,24) :=by kernel_rfl
theorem Ac1 (W :World) (n :Nat) (hn :n≤1000000000000) : ∃arr :Array Value,arr.size=n*1∧ (Instr.makeSlice 27 (.int .i64 (n :Int)) (.int .i64 (n :Int))).run Tryz.prog W= .ok (.slice (some ⟨W.heap.size,0,none⟩) n n) (W.alloc (.cells arr 30)) :=by
 obtain ⟨i0,hi,hz0,hz1,hz2⟩ :=info_parts Aey
 have hmk :=run_make (P :=Tryz.prog) W 27 30 i0 _ Tryz.underlying27 hi hz0 .i64 .i64 n n (by omega) (Int.le_refl _) (by rw [hz2];omega) (by omega)
 rw [hz1,Int.toNat_natCast] at hmk
 exact ⟨_,size_madeCells _ _,hmk⟩
theorem W7 {W w1 :World} {g n j :Nat} {le :List (List E)} {ao :Option Addr} {k c :Nat} {e :List E}
  (h1 :Cf Gi (Fr (g+1)) W g n le) (hb :Below W.heap.size W w1) (hj :j<n) (l1 :le.length=j) (he :IsL Az (Fr (g+1)) w1 (.slice ao k c) e) :
  (∃u,w1.cell? ⟨g,j,none⟩ =some u) ∧w1.frozen? ⟨g,j,none⟩ =false∧Cf Gi (Fr (g+1)) (w1.setCell ⟨g,j,none⟩ (.slice ao k c)) g n (le++ [e]) :=by
 subst l1
 have m1 :=h1.below hb
 have t1 :=Pu (m1.there hj) (j :=0) (by decide)
 simp only [Gi,Nat.mul_one,Nat.add_zero] at t1
 exact ⟨t1.1,t1.2,m1.set1 hj (show ¬g+1≤g by omega) rfl (a :=e) (v := .slice ao k c) ⟨_,rfl,he⟩⟩
set_option maxRecDepth 100000 in
set_option maxHeartbeats 4000000 in
theorem W8 (tn :Wd) (cols :List ColD) (cv :Value) (d :Nat) (l :List (List E)) (lv :Value) (C :Nat) (w :World) (he :IsL Gi (fun k=>k<C) w lv l) (hl :IsL Cc (fun k=>k<C) w cv cols) (hC :C≤w.heap.size) (hg : ∀r∈l,∀a∈r,geB d a=true) (hn :l.length≤1000000000) (hn2 : ∀r∈l,r.length≤1000000000) :
  Calls Tryz.prog 91 #[.agg #[.string tn,cv],lv] w fun r w'=> (∃u,r= .returned u∧Jb Gi (Ix cols l) (Fr w.heap.size) w' u) ∧Below w.heap.size w w' :=by
 obtain ⟨so,sc,rfl⟩ :=hl.shape
 obtain ⟨ao,c,rfl⟩ :=he.shape
 have hb1 :=Ao w (.cells #[.string tn, .slice so cols.length sc] 43)
 obtain ⟨arr1,ha1,hmk1⟩ :=Ac1 (w.alloc (.cells #[.string tn, .slice so cols.length sc] 43)) l.length (by omega)
 have hst :Cf Gi (Fr (w.heap.size+1+1)) ((w.alloc (.cells #[.string tn, .slice so cols.length sc] 43)).alloc (.cells arr1 30)) (w.heap.size+1) l.length [] :=by
  have :=Ja Gi (Fr (w.heap.size+1+1)) (w :=w.alloc (.cells #[.string tn, .slice so cols.length sc] 43)) (t :=30) (n :=l.length) ha1
  rwa [show (w.alloc (.cells #[.string tn, .slice so cols.length sc] 43)).heap.size=w.heap.size+1 by simp] at this
 have hT0 : ((w.alloc (.cells #[.string tn, .slice so cols.length sc] 43)).alloc (.cells arr1 30)).heap[w.heap.size]? =some (.cells #[.string tn, .slice so cols.length sc] 43) :=Ac (Ab _ _) _
 have hbW :=Bb w (.cells #[.string tn, .slice so cols.length sc] 43) (.cells arr1 30)
 go_enter Tryz.func91,Tryz.ntmps91
 go_wp2_with fail
 clear hmk1
 go_loopw [15] (fun i wr=> ∃ (j :Nat) (rs :List (List E)),j≤l.length∧i= .int .i64 j∧Hid (Di (Jc cols) (l.take j) = .ok rs) ∧Hid (rs.length=j) ∧wr.heap[w.heap.size]? =some (.cells #[.string tn, .slice so cols.length sc] 43) ∧Cf Gi (Fr (w.heap.size+1+1)) wr (w.heap.size+1) l.length rs∧Below w.heap.size w wr∧w.heap.size+2≤wr.heap.size) (fun i _=>l.length - (intOf i).toNat)
 case atStart=>exact ⟨0,[],Nat.zero_le _,rfl,by show _=_;rw [List.take_zero,Di],rfl,hT0,hst,hbW,by simp⟩
 case round=>
  obtain ⟨j,rs,hj,rfl,HQ,HL,hT,hM1,hbel,hsz⟩ :=hrel
  clear hst hbW ha1 hT0
  have q2 :=HL.out
  by_cases hjl :j<l.length
  ·obtain ⟨a,ha⟩ : ∃a,l[j]? =some a := ⟨_,List.getElem?_eq_getElem hjl⟩
   have HT :Hid (l.take (j+1) =l.take j++ [a]) :=by show _=_;rw [List.take_add_one,ha];rfl
   have hga :=hg a (List.mem_of_getElem? ha)
   have hna :=hn2 a (List.mem_of_getElem? ha)
   obtain ⟨b,off,cs,rfl,hbC,hb,hR,hcell⟩ :=A4 (he.keep (Af (hbel.mono hC))) ha
   obtain ⟨asv,rfl,hRL⟩ :=hR
   obtain ⟨ao',c',rfl⟩ :=hRL.shape
   have d0 :=hcell 0 _ rfl
   simp only [Gi,Nat.mul_one,Nat.add_zero] at d0
   have t0 :=Aa hT (j :=0) rfl
   have t1 :=Aa hT (j :=1) rfl
   have hlt0 :=lt_of_block hT
   have j0 : (0 :Int) ≤ (j :Int) :=by omega
   have j1 : (j :Int) < (l.length :Int) :=by omega
   have HI :=Yk tn cols (.slice so cols.length sc) d a (.slice ao' a.length c') C wr hRL (hl.keep (Af (hbel.mono hC))) (Nat.le_trans hC hbel.size) hga hna
   clear hcell hRL ha hg he hl hn2
   rcases hbr :Jc cols a with m | r
   ·have hm :=Wz hbr
    have HI2 :=HI.mono (R' :=fun e w'=>e= .returned (.tuple #[.slice none 0 0, .int .i64 m]) ∧Below wr.heap.size wr w') (by
     rintro e w' ⟨⟨v,rfl,hv⟩,hb'⟩
     rw [hbr] at hv
     obtain rfl :=hv
     exact ⟨rfl,hb'⟩)
    have HE :Hid (Ix cols l= .error m) :=by
     show _=_
     have hs :Di (Jc cols) (l.take (j+1)) = .error m :=by rw [HT.out,Jt,HQ.out];simp only [hbr]
     have :=Ls (Jc cols) (l.take (j+1)) (l.drop (j+1)) m hs
     rw [List.take_append_drop] at this
     unfold Ix
     exact this
    clear HI hbr HQ HL HT
    rcases hm with rfl | rfl
    all_goals
     go_wp2_with (first | (go_at_call 132;refine HI2.mono ?_;rintro e w1 ⟨rfl,hb1⟩;obtain ⟨⟨u,mu⟩,mf,mm1⟩ :=W7 hM1 hb1 hjl q2 (IsL.nil Az _ w1)))
     go_ret2
     refine ⟨⟨_,rfl, ?_⟩,(hbel.trans (hb1.mono hbel.size)).setCell (show w.heap.size≤w.heap.size+1 by omega) _⟩
     rw [HE.out]
     rfl
   ·have HI2 :=HI.mono (R' :=fun e w'=> ∃ (ao :Option Addr) (k c :Nat),e= .returned (.tuple #[.slice ao k c, .int .i64 0]) ∧IsL Az (Fr (w.heap.size+1+1)) w' (.slice ao k c) r∧Below wr.heap.size wr w') (by
     rintro e w' ⟨⟨v,rfl,hv⟩,hb'⟩
     rw [hbr] at hv
     obtain ⟨ao,k,c,rfl,hL⟩ :=hv
     exact ⟨ao,k,c,rfl,hL.mono (fun k _ hk=>Nat.le_trans hsz hk),hb'⟩)
    have HS :Hid (Di (Jc cols) (l.take (j+1)) = .ok (rs++ [r])) :=by show _=_;rw [HT.out,Jt,HQ.out];simp only [hbr]
    have HL2 :Hid ((rs++ [r]).length=j+1) :=by show _=_;rw [List.length_append,q2];rfl
    clear HI hbr HQ HL HT
    go_wp2_with (first | (go_at_call 132;refine HI2.mono ?_;rintro e w1 ⟨ao2,k2,c2,rfl,hL2,hb1⟩;obtain ⟨⟨u,mu⟩,mf,mm1⟩ :=W7 hM1 hb1 hjl q2 hL2))
    go_roundw
    case rel=>exact ⟨j+1,rs++ [r],by omega,by go_num,HS,HL2,(Below.heap_setCell _ _ _ _ (show w.heap.size≠w.heap.size+1 by omega)).trans ((hb1.block _ hlt0).trans hT),mm1,(hbel.trans (hb1.mono hbel.size)).setCell (show w.heap.size≤w.heap.size+1 by omega) _,by have :=hb1.size;simp;omega⟩
    case measure=>simp [intOf];omega
  ·have hjl2 :j=l.length :=by omega
   subst hjl2
   have HE :Hid (Ix cols l= .ok rs) :=by
    show _=_
    have :=HQ.out
    rw [List.take_length] at this
    exact this
   have hw1 :IsL Gi (Fr w.heap.size) wr (.slice (some ⟨w.heap.size+1,0,none⟩) l.length l.length) rs :=hM1.whole q2 (fun k hk=>Nat.le_trans (by omega) hk) (show w.heap.size≤w.heap.size+1 by omega) (Nat.le_trans hn (by decide))
   clear q2 HL HQ
   go_wp2_with fail
   go_ret2
   refine ⟨⟨_,rfl, ?_⟩,hbel⟩
   rw [HE.out]
   exact ⟨_,_,_,rfl,hw1⟩
end Go.Proofs.YthehiijgnepcfaaGreat

