/-
  4 texts of this proof in one, in build order: QCount, XWithin, PAll2, QWaysW.
-/
import Derived.Test.YthehiijgnepcfaaGreatJ27
import Derived.Test.YthehiijgnepcfaaGreatJ30
set_option linter.unusedSimpArgs false
set_option linter.unusedVariables false
namespace Go.Proofs.YthehiijgnepcfaaGreat
open Go.RowKit
def F9 (r :List V) (A :List (List V)) :Nat := (A.filter (E0 r)).length
theorem Ajy (r :List V) :F9 r [] =0 :=rfl
theorem Adl {r :List V} {A :List (List V)} {j :Nat} {x :List V} (h :A[j]? =some x) :F9 r (A.take (j+1)) =F9 r (A.take j) + (if E0 r x=true then 1 else 0) :=by
 rw [List.take_add_one,h]
 simp only [F9,List.filter_append,List.length_append,Option.toList_some]
 cases hs :E0 r x<;>simp [hs]
theorem Agy (r :List V) (A :List (List V)) :F9 r A≤A.length :=List.length_filter_le _ _
theorem Adm {r :List V} {A :List (List V)} (hn :A.Nodup) :F9 r A≤1 :=by
 have h1 : (A.filter (E0 r)).Nodup :=hn.sublist List.filter_sublist
 have h2 : ∀x∈A.filter (E0 r),r=x :=fun x hx=> (Jr r x).1 (List.mem_filter.1 hx).2
 unfold F9
 generalize A.filter (E0 r) =L at h1 h2
 match L,h1,h2 with
 | [],_,_=>simp
 | [_],_,_=>simp
 | a ::b ::L,h1,h2=>
  have ha :=h2 a (by simp)
  have hb :=h2 b (by simp)
  rw [List.nodup_cons] at h1
  exact absurd (show a∈b ::L by rw [←ha,hb];simp) h1.1
theorem Adn {r :List V} {A :List (List V)} (h :F9 r A=0) :r∉A :=fun hr=>by
 have :r∈A.filter (E0 r) :=List.mem_filter.2 ⟨hr,(Jr r r).2 rfl⟩
 have :=List.length_pos_of_mem this
 unfold F9 at h
 omega
theorem Yw {ct :CatD} {t :TabD} {at' :Int} {e :E} (hx : ∀x∈ct.indexes,x.name.size≤8) : (Cu ct t at' e).x.size≤8 :=by
 unfold Cu
 split
 ·rcases Lq at' e t (if C8 ct=true then ct.indexes else []) (Fd at' e t) with hc | ⟨x,hx',_,hc⟩
  ·rw [hc];exact Nat.zero_le _
  ·rw [hc]
   split at hx'
   ·exact hx x hx'
   ·cases hx'
 ·exact Nat.zero_le _
theorem Agz {A O :List (List V)} (hn :A.Nodup) (hs : ∀r∈A,r∈O) :A.length≤O.length :=
 have :DecidableEq (List V) :=fun _ _=>Classical.propDecidable _
 Lc hn hs
end Go.Proofs.YthehiijgnepcfaaGreat

namespace Go.Proofs.YthehiijgnepcfaaGreat
open Go.RowKit
def Had (row :List V) (K :List E) (r :Nat) (w :World) (g :Nat) :Prop :=
 ∃arr :Array Value,w.heap[g]? =some (.cells arr 125 (0,0)) ∧arr.size=6∧
  ∀ (j :Nat) (x :E),j<r→K[j]? =some x→arr[j*3]? =some (.int .i64 (ev row x).k) ∧arr[j*3+1]? =some (.int .i64 (ev row x).n) ∧arr[j*3+2]? =some (.string (ev row x).s)
theorem Had.keep {row :List V} {K :List E} {r :Nat} {w w' :World} {g :Nat} (h :Had row K r w g) (hb :w'.heap[g]? =w.heap[g]?) :Had row K r w' g :=by
 obtain ⟨arr,h1,h2⟩ :=h
 exact ⟨arr,hb.trans h1,h2⟩
theorem Had.lt {row :List V} {K :List E} {r :Nat} {w :World} {g :Nat} (h :Had row K r w g) :g<w.heap.size :=by
 obtain ⟨arr,h1,_⟩ :=h
 exact lt_of_block h1
theorem Had.cell {row :List V} {K :List E} {r :Nat} {w :World} {g :Nat} (h :Had row K r w g) {j :Nat} (hj :j<6) : ∃u,w.cell? ⟨g,j,none⟩ =some u :=by
 obtain ⟨arr,h1,h2,_⟩ :=h
 exact ⟨_,Aa h1 (Array.getElem?_eq_getElem (by omega :j<arr.size))⟩
theorem Had.free {row :List V} {K :List E} {r :Nat} {w :World} {g :Nat} (h :Had row K r w g) (o :Nat) :w.frozen? ⟨g,o,none⟩ =false :=by
 obtain ⟨arr,h1,_⟩ :=h
 simp [World.frozen?,h1]
theorem Had.set {row :List V} {K :List E} {r :Nat} {w :World} {g :Nat} (h :Had row K r w g) {x :E} (hx :K[r]? =some x) (hr :r<2) (v :V) (hv :v=ev row x) :
  Had row K (r+1) (((w.setCell ⟨g,r*3,none⟩ (.int .i64 v.k)).setCell ⟨g,r*3+1,none⟩ (.int .i64 v.n)).setCell ⟨g,r*3+2,none⟩ (.string v.s)) g :=by
 obtain ⟨arr,h1,h2,h3⟩ :=h
 refine ⟨_,Do (Do (Do h1 _ _) _ _) _ _,by simp [h2],fun j y hj hy=> ?_⟩
 by_cases hjr :j=r
 ·subst hjr
  rw [hx] at hy
  cases hy
  subst hv
  refine ⟨?_, ?_, ?_⟩
  all_goals simp [Array.getElem?_setIfInBounds,h2];try omega
 ·obtain ⟨a0,a1,a2⟩ :=h3 j y (by omega) hy
  have n0 :r*3≠j*3 :=by omega
  have n1 :r*3+1≠j*3 :=by omega
  have n2 :r*3+2≠j*3 :=by omega
  have n3 :r*3≠j*3+1 :=by omega
  have n4 :r*3+1≠j*3+1 :=by omega
  have n5 :r*3+2≠j*3+1 :=by omega
  have n6 :r*3≠j*3+2 :=by omega
  have n7 :r*3+1≠j*3+2 :=by omega
  have n8 :r*3+2≠j*3+2 :=by omega
  refine ⟨?_, ?_, ?_⟩
  ·rw [Array.getElem?_setIfInBounds_ne n2,Array.getElem?_setIfInBounds_ne n1,Array.getElem?_setIfInBounds_ne n0];exact a0
  ·rw [Array.getElem?_setIfInBounds_ne n5,Array.getElem?_setIfInBounds_ne n4,Array.getElem?_setIfInBounds_ne n3];exact a1
  ·rw [Array.getElem?_setIfInBounds_ne n8,Array.getElem?_setIfInBounds_ne n7,Array.getElem?_setIfInBounds_ne n6];exact a2
theorem Had.vals {row :List V} {K :List E} {w :World} {g :Nat} (h :Had row K K.length w g) :Bp w (.slice (some ⟨g,0,none⟩) K.length 2) (K.map (ev row)) :=by
 refine .inr ⟨g,0,2,by rw [List.length_map],h.lt,fun i v hi=> ?_⟩
 obtain ⟨arr,h1,h2,h3⟩ :=h
 rw [List.getElem?_map] at hi
 cases hk :K[i]? with
 | none=>rw [hk] at hi;cases hi
 | some y=>
  rw [hk] at hi
  simp at hi
  subst hi
  obtain ⟨a0,a1,a2⟩ :=h3 i y (List.getElem?_eq_some_iff.1 hk).1 hk
  rw [Nat.zero_add]
  exact ⟨Aa h1 a0,Aa h1 a1,Aa h1 a2⟩
theorem Ur {w :World} {g k :Nat} (h :k≠g) (a b c :Nat) (x y z :Value) : (((w.setCell ⟨g,a,none⟩ x).setCell ⟨g,b,none⟩ y).setCell ⟨g,c,none⟩ z).heap[k]? =w.heap[k]? :=by
 rw [Below.heap_setCell _ _ _ _ h,Below.heap_setCell _ _ _ _ h,Below.heap_setCell _ _ _ _ h]
theorem Ado (w :World) (g a b c :Nat) (x y z :Value) : (((w.setCell ⟨g,a,none⟩ x).setCell ⟨g,b,none⟩ y).setCell ⟨g,c,none⟩ z).heap.size=w.heap.size :=by simp [World.setCell]
theorem Se : ∀ {l :List E} {x :E},x∈l→x.nodes≤Ce l
 | y ::l,x,h=>by
  rw [Ce]
  rcases List.mem_cons.1 h with rfl | h
  ·omega
  ·have :=Se h;omega
theorem Adp {e x :E} (h :x∈e.kids) :x.nodes≤e.nodes :=by
 have :=Se h
 have :=Rr e
 omega
def Kh (m :Nat) :Prop := ∀ (e :E) (v rv :Value) (row :List V) (C :Nat) (w :World),IsE (fun k=>k<C) w e v→C≤w.heap.size→e.nodes≤16777216→Ci e→Bp w rv row→ (∀v∈row,v.s.size≤maxLen) →row.length≤maxLen→
  Calls Tryz.prog 37 #[v,rv, .int .i64 (m :Int)] w fun r w'=>r= .returned (ev row e).val∧Below w.heap.size w w'
set_option maxRecDepth 100000 in
set_option maxHeartbeats 4000000 in
theorem Yx :Kh 0 :=by
 intro e v rv row C w he hC hn hf hr hrs hrl
 obtain ⟨op,⟨xk,xn,xs⟩,s,name,n,ao,k,c,rfl⟩ :=he.shape
 obtain ⟨ro,rc,rfl⟩ :=hr.shape
 have hb2 :Below w.heap.size w ((w.alloc (.cells (Ae op ⟨xk,xn,xs⟩ s name n (.slice ao k c)) 34)).alloc (.cells #[.int .i64 0, .int .i64 0, .string noW] 32)) :=Bb _ _ _
 have hW :=Xj e _ _ row C _ (IsE.keep (Af (hb2.mono hC)) e _ he) (Nat.le_trans hC hb2.size) hn hf (hr.below hb2) hrs hrl
 generalize ev row e=z at hW⊢
 obtain ⟨zk,zn,zs⟩ :=z
 simp only [V.val] at hW
 show Calls Tryz.prog 37 #[_,_, .int .i64 0] w _
 go_enter Tryz.func37,Tryz.ntmps37
 go_wp2_with (first | (go_at_call 73;refine hW.mono ?_;rintro r1 w1 ⟨rfl,hb1⟩;obtain ⟨hcc,hff⟩ :=C9 hb1))
 exact Ck ⟨zk,zn,zs⟩ Tryz.results37 rfl rfl ((hb1.block _ (by simp)).trans (Aq _ _ _)) (Ad (Bb _ _ _) hb1) (by omega)
set_option maxRecDepth 100000 in
set_option maxHeartbeats 4000000 in
theorem Yy (m :Nat) (hm :m<1000) (ih :Kh m) :Kh (m+1) :=by
 intro e v rv row C w he hC hn hf hr hrs hrl
 have H0 : ∃op xk xn xs s name n ao c l,e= .mk op ⟨xk,xn,xs⟩ s name n l∧v= .agg (Ae op ⟨xk,xn,xs⟩ s name n (.slice ao l.length c)) ∧Ff (fun k=>k<C) w (.slice ao l.length c) l :=by
  cases e with
  | mk op x s name n l=>
   obtain ⟨sv,h1,h2⟩ :=he.open
   obtain ⟨ao,c,rfl⟩ :=h2.shape
   obtain ⟨xk,xn,xs⟩ :=x
   exact ⟨op,xk,xn,xs,s,name,n,ao,c,l,rfl,h1,h2⟩
 obtain ⟨op,xk,xn,xs,s,name,n,ao,c,l,rfl,rfl,hes⟩ :=H0
 obtain ⟨ro,rc,rfl⟩ :=hr.shape
 clear he
 have hb3 :Below w.heap.size w (((w.alloc (.cells (Ae op ⟨xk,xn,xs⟩ s name n (.slice ao l.length c)) 34)).alloc (.cells #[.int .i64 0, .int .i64 0, .string noW] 32)).alloc (.cells #[.int .i64 0, .int .i64 0, .string noW, .int .i64 0, .int .i64 0, .string noW] 125)) :=Cb _ _ _ _
 have ha :=Jf op ⟨xk,xn,xs⟩ s name n ao c l _ (hes.keep (Af (hb3.mono hC))) (Nat.le_trans hC hb3.size)
 have hkl : (B6 op l).length≤2 :=Zi (.mk op ⟨xk,xn,xs⟩ s name n l)
 have hkn :Hid (∀x∈B6 op l,x.nodes≤16777216∧Ci x) :=fun x hx=> ⟨Nat.le_trans (Adp (e := .mk op ⟨xk,xn,xs⟩ s name n l) hx) hn,Om hf x hx⟩
 have HEV :Hid (ev row (.mk op ⟨xk,xn,xs⟩ s name n l) =Qk op ⟨xk,xn,xs⟩ n ((B6 op l).map (ev row)) row) :=Id _ _ _ _ _ _ _
 generalize B6 op l=K at ha hkl hkn HEV
 have m0 : (0 :Int) < (m :Int) +1 :=by omega
 have m1 :IntKind.i64.wrap ((m :Int) +1 - 1) = (m :Int) :=by rw [IntKind.wrap_i64];omega
 rw [show ((m+1 :Nat) :Int) = (m :Int) +1 from by omega]
 go_enter Tryz.func37,Tryz.ntmps37
 go_wp2_with (first | (go_at_call 74;refine ha.mono ?_;rintro e1 w1 ⟨ko,kc,rfl,hk1,hb1⟩))
 have hbw :Below w.heap.size w w1 :=Ad hb3 hb1
 have hE1 :w1.heap[w.heap.size]? =some (.cells (Ae op ⟨xk,xn,xs⟩ s name n (.slice ao l.length c)) 34) := (hb1.block _ (by simp;omega)).trans (Ac (Ac (Ab _ _) _) _)
 have hR1 :w1.heap[w.heap.size+1]? =some (.cells #[.int .i64 0, .int .i64 0, .string noW] 32) := (hb1.block _ (by simp)).trans (Ac (Aq _ _ _) _)
 have hG1 :Had row K 0 w1 (w.heap.size+1+1) := ⟨_,(hb1.block _ (by simp)).trans (A6 _ _ _ _),rfl,fun j x hj=>absurd hj (by omega)⟩
 clear hb1 ha hb3 hes
 go_loopw [20] (fun i wr=> ∃j :Nat,j≤K.length∧i= .int .i64 j∧Had row K j wr (w.heap.size+1+1) ∧wr.heap[w.heap.size]? =some (.cells (Ae op ⟨xk,xn,xs⟩ s name n (.slice ao l.length c)) 34) ∧wr.heap[w.heap.size+1]? =some (.cells #[.int .i64 0, .int .i64 0, .string noW] 32) ∧Below w.heap.size w wr∧w1.heap.size≤wr.heap.size) (fun i _=>K.length - (intOf i).toNat)
 case atStart=>exact ⟨0,Nat.zero_le _,rfl,hG1,hE1,hR1,hbw,Nat.le_refl _⟩
 case round=>
  obtain ⟨j,hj,rfl,hG,hE,hR,hbel,hsz⟩ :=hrel
  have hkr :Ff (fun k=>k<C) wr (.slice ko K.length kc) K :=hk1.keep ⟨hsz,fun k hk _=> (hbel.block k (by omega)).trans (hbw.block k (by omega)).symm⟩
  clear hE1 hR1 hG1
  by_cases hjk :j<K.length
  ·obtain ⟨y,hy⟩ : ∃y,K[j]? =some y := ⟨_,List.getElem?_eq_getElem hjk⟩
   obtain ⟨hyn,hyf⟩ :=hkn.out y (List.mem_of_getElem? hy)
   obtain ⟨cs,hrB,haE⟩ :=hkr
   obtain ⟨kb,kf,rfl⟩ : ∃kb kf,ko=some ⟨kb,kf,none⟩ :=by
    rcases hrB.2 with ⟨h1,_⟩ | ⟨_,kb,kf,kc',h2,_⟩
    ·omega
    ·cases h2;exact ⟨kb,kf,rfl⟩
   obtain ⟨yo,yk,yn,yt,ys,ym,yi,ya,yl,yc,hye,hyc⟩ :=Vy hrB haE hy
   obtain ⟨c0,c1,c2,c3,c4,c5,c6,c7⟩ :=hyc wr (Below.refl _ _)
   have j0 : (0 :Int) ≤ (j :Int) :=by omega
   have j1 : (j :Int) < (K.length :Int) :=by omega
   have j2 : (j :Int) <2 :=by omega
   have HY :Hid (K[j]? =some y) :=hy
   clear hy hyc hrB haE
   have hba :Below wr.heap.size wr (wr.alloc (.cells #[.int .i64 yo, .int .i64 yk, .int .i64 yn, .string yt, .string ys, .string ym, .int .i64 yi, .slice ya yl yc] 34)) :=Ao _ _
   have hW :=ih y _ _ row C _ (IsE.keep (Af (hba.mono (Nat.le_trans hC hbel.size))) y _ hye) (Nat.le_trans (Nat.le_trans hC hbel.size) hba.size) hyn hyf ((hr.below hbel).below hba) hrs hrl
   generalize hz :ev row y=z at hW
   obtain ⟨zk,zn,zs⟩ :=z
   simp only [V.val] at hW
   have hglt :=hG.lt
   have hG2 :=hG.keep (hba.block _ hglt)
   obtain ⟨u0,hu0⟩ :=hG2.cell (j :=j*3) (by omega)
   obtain ⟨u1,hu1⟩ :=hG2.cell (j :=j*3+1) (by omega)
   obtain ⟨u2,hu2⟩ :=hG2.cell (j :=j*3+2) (by omega)
   have huf :=hG2.free
   have hglt2 :=hG2.lt
   go_wp2_with (first | (go_at_call 37;refine hW.mono ?_;rintro r1 w2 ⟨rfl,hb2⟩;have q1 := (fun o=>hb2.cell (p := ⟨w.heap.size+1+1,o,none⟩) hglt2);have q2 := (fun o=>hb2.frozen (p := ⟨w.heap.size+1+1,o,none⟩) hglt2)))
   have hbw2 :Below w.heap.size w w2 :=hbel.trans ((Ad hba hb2).mono hbel.size)
   have hlt0 :=lt_of_block hE
   have hlt1 :=lt_of_block hR
   go_roundw
   case rel=>
    refine ⟨j+1,by omega,by go_num,(hG2.keep (hb2.block _ hglt2)).set HY.out (by omega) ⟨zk,zn,zs⟩ hz.symm, ?_, ?_, ?_, ?_⟩
    ·rw [Ur (by omega)];exact ((Ad hba hb2).block _ hlt0).trans hE
    ·rw [Ur (by omega)];exact ((Ad hba hb2).block _ hlt1).trans hR
    ·exact ((hbw2.setCell (show w.heap.size≤w.heap.size+1+1 by omega) _).setCell (show w.heap.size≤w.heap.size+1+1 by omega) _).setCell (show w.heap.size≤w.heap.size+1+1 by omega) _
    ·rw [Ado];exact Nat.le_trans hsz (Ad hba hb2).size
   case measure=>simp [intOf];omega
  ·have hjK :j=K.length :=by omega
   subst hjK
   have hcs :=hG.vals
   have hsm : ∀v∈K.map (ev row),v.s.size≤maxLen :=by
    intro v hv
    obtain ⟨y,hy,rfl⟩ :=List.mem_map.1 hv
    exact Xi row hrs y (hkn.out y hy).2
   have hap :=fun W (hW :Below wr.heap.size wr W) =>Uo op ⟨xk,xn,xs⟩ s name n ao l.length c _ (.slice ro row.length rc) _ row W (hcs.below hW) hsm ((hr.below hbel).below hW) hrl
   rw [←HEV.out] at hap
   have c0 :=Aa hE (j :=0) rfl
   have c1 :=Aa hE (j :=1) rfl
   have c2 :=Aa hE (j :=2) rfl
   have c3 :=Aa hE (j :=3) rfl
   have c4 :=Aa hE (j :=4) rfl
   have c5 :=Aa hE (j :=5) rfl
   have c6 :=Aa hE (j :=6) rfl
   have c7 :=Aa hE (j :=7) rfl
   have r0 :=Aa hR (j :=0) rfl
   have r1 :=Aa hR (j :=1) rfl
   have r2 :=Aa hR (j :=2) rfl
   have rf : ∀o,wr.frozen? ⟨w.heap.size+1,o,none⟩ =false :=fun o=>by simp [World.frozen?,hR]
   have hlt0 :=lt_of_block hE
   have hlt1 :=lt_of_block hR
   have s0 : (0 :Int) ≤ (K.length :Int) :=by omega
   have s1 : (K.length :Int) ≤2 :=by omega
   generalize hz :ev row (.mk op ⟨xk,xn,xs⟩ s name n l) =z at hap
   obtain ⟨zk,zn,zs⟩ :=z
   simp only [V.val] at hap
   clear hcs hsm hkr hk1 HEV hE
   go_wp2
   go_region_held3 (fun w'=>w'.cell? ⟨w.heap.size,0,none⟩ =some (.int .i64 op) ∧w'.cell? ⟨w.heap.size,1,none⟩ =some (.int .i64 xk) ∧w'.cell? ⟨w.heap.size,2,none⟩ =some (.int .i64 xn) ∧w'.cell? ⟨w.heap.size,3,none⟩ =some (.string xs) ∧w'.cell? ⟨w.heap.size,4,none⟩ =some (.string s) ∧w'.cell? ⟨w.heap.size,5,none⟩ =some (.string name) ∧w'.cell? ⟨w.heap.size,6,none⟩ =some (.int .i64 n) ∧w'.cell? ⟨w.heap.size,7,none⟩ =some (.slice ao l.length c)) (first | (go_keep;done) | ((try dsimp only);(repeat' apply And.intro) <;> (rw [Av (by omega),Av (by omega),Av (by omega)];first | assumption | go_keep | simp_all)))
    (first | (go_at_call 75;go_fit (hap _ (Below.refl _ _).drew);rintro e2 w3 ⟨rfl,hb3⟩;obtain ⟨q1,q2,q3,q4⟩ :=Z9 (a :=w.heap.size) (b :=w.heap.size) (g :=w.heap.size+1) hb3 hlt0 hlt0 hlt1))
   go_wp2
   rw [hz]
   exact Ck ⟨zk,zn,zs⟩ Tryz.results37 rfl rfl ((hb3.block _ hlt1).trans hR) (hbel.drew.trans (hb3.mono hbel.size)) (by omega)
theorem Sf : ∀m :Nat,m≤1000→Kh m
 | 0,_=>Yx
 | m+1,h=>Yy m (by omega) (Sf m (by omega))
set_option maxRecDepth 100000 in
set_option maxHeartbeats 4000000 in
theorem Afl (e :E) (v rv :Value) (row :List V) (C :Nat) (w :World) (he :IsE (fun k=>k<C) w e v) (hC :C≤w.heap.size) (hn :e.nodes≤16777216) (hf :Ci e) (hr :Bp w rv row) (hrs : ∀v∈row,v.s.size≤maxLen) (hrl :row.length≤maxLen) :
  Calls Tryz.prog 12 #[v,rv] w fun r w'=>r= .returned (ev row e).val∧Below w.heap.size w w' :=by
 obtain ⟨op,⟨xk,xn,xs⟩,s,name,n,ao,k,c,rfl⟩ :=he.shape
 obtain ⟨ro,rc,rfl⟩ :=hr.shape
 have hb2 :Below w.heap.size w ((w.alloc (.cells (Ae op ⟨xk,xn,xs⟩ s name n (.slice ao k c)) 34)).alloc (.cells #[.int .i64 0, .int .i64 0, .string noW] 32)) :=Bb _ _ _
 have hW :Calls Tryz.prog 37 #[.agg (Ae op ⟨xk,xn,xs⟩ s name n (.slice ao k c)), .slice ro row.length rc, .int .i64 1000] _ _ :=Sf 1000 (Nat.le_refl _) e _ _ row C _ (IsE.keep (Af (hb2.mono hC)) e _ he) (Nat.le_trans hC hb2.size) hn hf (hr.below hb2) hrs hrl
 generalize ev row e=z at hW⊢
 obtain ⟨zk,zn,zs⟩ :=z
 simp only [V.val] at hW
 go_enter Tryz.func12,Tryz.ntmps12
 go_wp2_with (first | (go_at_call 37;refine hW.mono ?_;rintro r1 w1 ⟨rfl,hb1⟩;obtain ⟨hcc,hff⟩ :=C9 hb1))
 exact Ck ⟨zk,zn,zs⟩ Tryz.results12 rfl rfl ((hb1.block _ (by simp)).trans (Aq _ _ _)) (Ad (Bb _ _ _) hb1) (by omega)
end Go.Proofs.YthehiijgnepcfaaGreat

namespace Go.Proofs.YthehiijgnepcfaaGreat
open Go.RowKit
theorem Ajz {I :List IdxD} {t :TabD} {T :List Pg} {O :List (List V)} (hT :Ap T) (h :Kept I t (flat T) O) (h0 :0<t.cols.length) :
  ∃A :List (List V),A.length=O.length∧Df t.cols.length (rng T (Dr t.name) (Ds t.name)) =A∧ (∀r∈A,Ee t r=true) ∧Gt (flat T) I t A= [] ∧ ∀k a b,A[k]? =some a→A[k+1]? =some b→Dy (a.headD zero) (b.headD zero) <0 :=by
 obtain ⟨A,hl,he,hm,hr⟩ :=P9 hT h h0
 have hfit : ∀r∈A,Ee t r=true :=fun r hx=>h.fit r ((hm r).1 hx)
 have hgood : ∀r∈A,good (r.headD zero) =true :=fun r hx=>by
  obtain ⟨h1,h2⟩ :=C6 (hfit r hx)
  cases r with
  | nil=>simp at h1;omega
  | cons u r=>exact h2 u (by simp)
 refine ⟨A,hl,he,hfit,Ab5 h hm,fun k a b ha hb=> ?_⟩
 have hrise :Bo (A.map (rk t)) :=by
  have h1 :Bo ((rng T (Dr t.name) (Ds t.name)).map Prod.fst) :=hT.rise.sublist ((List.filter_sublist).map _)
  rw [hr,List.map_map] at h1
  exact h1
 have h1 :=List.pairwise_iff_getElem.1 hrise k (k+1) (by rw [List.length_map];have := (List.getElem?_eq_some_iff.1 hb).1;omega) (by rw [List.length_map];exact (List.getElem?_eq_some_iff.1 hb).1) (by omega)
 obtain ⟨_,ea⟩ :=List.getElem?_eq_some_iff.1 ha
 obtain ⟨_,eb⟩ :=List.getElem?_eq_some_iff.1 hb
 simp only [List.getElem_map,ea,eb] at h1
 exact Agd (hgood a (List.mem_of_getElem? ha)) (hgood b (List.mem_of_getElem? hb)) h1
theorem Abd {v :V} (h :good v=true) :v.s.size≤maxLen :=by
 have h8 :v.s.size≤8 :=by
  unfold good at h
  split at h
  ·simp only [Bool.and_eq_true,decide_eq_true_eq] at h;omega
  ·split at h
   ·simp only [Bool.and_eq_true,decide_eq_true_eq] at h;omega
   ·split at h
    ·simp only [Bool.and_eq_true,decide_eq_true_eq] at h;omega
    ·cases h
 exact Nat.le_trans h8 (by decide)
theorem Ai7 {F :Nat→Prop} {w :World} {av :Value} {A :List (List V)} (h :IsL E9 F w av A) {k :Nat} {r :List V} (hr :A[k]? =some r) (h0 :0<r.length) :
  ∃b off n c b' off' c',av= .slice (some ⟨b,off,none⟩) n c∧b<w.heap.size∧b'<w.heap.size∧w.cell? ⟨b,off+k,none⟩ =some (.slice (some ⟨b',off',none⟩) r.length c') ∧w.cell? ⟨b',off',none⟩ =some (.int .i64 (r.headD zero).k) ∧w.cell? ⟨b',off'+1,none⟩ =some (.int .i64 (r.headD zero).n) ∧w.cell? ⟨b',off'+2,none⟩ =some (.string (r.headD zero).s) ∧Bp w (.slice (some ⟨b',off',none⟩) r.length c') r :=by
 obtain ⟨ao,c,rfl⟩ :=h.shape
 obtain ⟨b,off,cs',rfl,_,hbl,⟨xv,rfl,hrow⟩,hcell⟩ :=A4 h hr
 have d0 :w.cell? ⟨b,off+k,none⟩ =some xv :=by have :=hcell 0 _ rfl;simpa [E9] using this
 have hv :=I1 hrow
 obtain ⟨u,hu⟩ : ∃u,r[0]? =some u := ⟨_,List.getElem?_eq_getElem h0⟩
 have hhd :r.headD zero=u :=by rw [List.headD_eq_head?_getD,List.head?_eq_getElem?,hu];rfl
 rcases I1 hrow with ⟨_,h1⟩ | ⟨b',off',cap',rfl,hb',hR⟩
 ·rw [h1] at h0;simp at h0
 ·obtain ⟨e0,e1,e2⟩ :=hR 0 u hu
  simp only [Nat.zero_mul,Nat.add_zero] at e0 e1 e2
  rw [hhd]
  exact ⟨b,off,_,c,b',off',cap',rfl,hbl,hb',d0,e0,e1,e2,hv⟩
theorem Ai8 {G W :World} {a b c o1 o2 o3 :Nat} {x0 x1 x2 x3 x4 x5 x6 :Value}
  (h :G.cell? ⟨a,o1,none⟩ =some x0∧G.cell? ⟨b,o2,none⟩ =some x1∧G.cell? ⟨b,o2+1,none⟩ =some x2∧G.cell? ⟨b,o2+2,none⟩ =some x3∧G.cell? ⟨c,o3,none⟩ =some x4∧G.cell? ⟨c,o3+1,none⟩ =some x5∧G.cell? ⟨c,o3+2,none⟩ =some x6) (hb :Below G.heap.size G W) (ha :a<G.heap.size) (hb' :b<G.heap.size) (hc :c<G.heap.size) :
  W.cell? ⟨a,o1,none⟩ =some x0∧W.cell? ⟨b,o2,none⟩ =some x1∧W.cell? ⟨b,o2+1,none⟩ =some x2∧W.cell? ⟨b,o2+2,none⟩ =some x3∧W.cell? ⟨c,o3,none⟩ =some x4∧W.cell? ⟨c,o3+1,none⟩ =some x5∧W.cell? ⟨c,o3+2,none⟩ =some x6 :=by
 have k := (C9 hb).1
 obtain ⟨c0,c1,c2,c3,c4,c5,c6⟩ :=h
 exact ⟨(k _ _ ha).trans c0,(k _ _ hb').trans c1,(k _ _ hb').trans c2,(k _ _ hb').trans c3,(k _ _ hc).trans c4,(k _ _ hc).trans c5,(k _ _ hc).trans c6⟩
end Go.Proofs.YthehiijgnepcfaaGreat

namespace Go.Proofs.YthehiijgnepcfaaGreat
open Go.RowKit Go.Maps
def WyS (w' :World) (g pT pC pS :Nat) (tr nm so tv iv :Value) (e :Array Value) :Prop :=
 (w'.cell? ⟨g,0,none⟩ =some tr∧w'.cell? ⟨pT,0,none⟩ =some nm∧w'.cell? ⟨pT,1,none⟩ =some so∧w'.cell? ⟨pC,0,none⟩ =some tv∧w'.cell? ⟨pC,1,none⟩ =some iv) ∧
 (w'.cell? ⟨pS,9,none⟩ =e[0]? ∧w'.cell? ⟨pS,10,none⟩ =e[1]? ∧w'.cell? ⟨pS,11,none⟩ =e[2]? ∧w'.cell? ⟨pS,12,none⟩ =e[3]? ∧w'.cell? ⟨pS,13,none⟩ =e[4]? ∧w'.cell? ⟨pS,14,none⟩ =e[5]? ∧w'.cell? ⟨pS,15,none⟩ =e[6]? ∧w'.cell? ⟨pS,16,none⟩ =e[7]?)
theorem Ah7 {F :Nat→Prop} {w :World} {e :E} {op :Int} {x :V} {s name :Wd} {n :Int} {sl :Value} (h :IsE F w e (.agg (Ae op x s name n sl))) :op=e.opn :=by
 obtain ⟨op',x',s',n',i',ao,k,c,h1,h2⟩ :=Tg h
 have h3 :=congrArg Array.toList (Value.agg.inj h1)
 simp only [List.cons.injEq,Value.int.injEq] at h3
 rw [h2]
 exact h3.1.2
set_option maxRecDepth 100000 in
set_option maxHeartbeats 8000000 in
theorem planWays_walk (ct :CatD) (cv :Value) (st :Stm) (cs :List Value) (rows :List (List V)) (rv :Value) (w :World) (hc :Cz (fun k=>k<w.heap.size) w ct cv) (hR :Akj.R (fun k=>k<w.heap.size) w st cs) (hfc :Gv ct) (hf :FitB st)
  (hr :IsL E9 (fun k=>k<w.heap.size) w rv rows) (hrs : ∀r∈rows,∀v∈r,v.s.size≤maxLen) (hn2 :st.wher.nodes≤16777216∧Ci st.wher) :
  Calls Tryz.prog 3 #[cv, .agg cs.toArray,rv] w fun r w'=>r= .returned (.bool true) ∧Below w.heap.size w w' :=by
 obtain ⟨o1,c1,o2,c2,o3,c3,o4,c4,o5,c5,op,xk,xn,xs,s,nmv,n8,o6,k6,c6,o7,c7,rfl,i1,i2,i3,i4,i5,i6,i7⟩ :=Er hR
 obtain ⟨ro,rc,hrsh⟩ :=hr.shape
 subst hrsh
 obtain ⟨tv,iv,rfl,htl,hil⟩ :=hc
 obtain ⟨to',tc,htsh⟩ :=htl.shape
 subst htsh
 obtain ⟨io,ic,hish⟩ :=hil.shape
 subst hish
 have hC :w.heap.size≤w.heap.size :=Nat.le_refl _
 have hb2 :=Bb w (.cells #[.slice to' ct.tables.length tc, .slice io ct.indexes.length ic] 25) (.cells (sA st.kind st.name st.table st.col (.slice o1 st.cols.length c1) (.slice o2 st.rows.length c2) (.slice o3 st.sets.length c3) (.slice o4 st.frm.length c4) (.slice o5 st.out.length c5) op xk xn xs s nmv n8 (.slice o6 k6 c6) (.slice o7 st.order.length c7) st.down st.n) 36)
 have B0 : ((w.alloc (.cells #[.slice to' ct.tables.length tc, .slice io ct.indexes.length ic] 25)).alloc (.cells (sA st.kind st.name st.table st.col (.slice o1 st.cols.length c1) (.slice o2 st.rows.length c2) (.slice o3 st.sets.length c3) (.slice o4 st.frm.length c4) (.slice o5 st.out.length c5) op xk xn xs s nmv n8 (.slice o6 k6 c6) (.slice o7 st.order.length c7) st.down st.n) 36)).heap[w.heap.size]? =some (.cells #[.slice to' ct.tables.length tc, .slice io ct.indexes.length ic] 25) :=Ac (Ab _ _) _
 have B1 :=Aq w (.cells #[.slice to' ct.tables.length tc, .slice io ct.indexes.length ic] 25) (.cells (sA st.kind st.name st.table st.col (.slice o1 st.cols.length c1) (.slice o2 st.rows.length c2) (.slice o3 st.sets.length c3) (.slice o4 st.frm.length c4) (.slice o5 st.out.length c5) op xk xn xs s nmv n8 (.slice o6 k6 c6) (.slice o7 st.order.length c7) st.down st.n) 36)
 have hCW :w.heap.size≤ ((w.alloc (.cells #[.slice to' ct.tables.length tc, .slice io ct.indexes.length ic] 25)).alloc (.cells (sA st.kind st.name st.table st.col (.slice o1 st.cols.length c1) (.slice o2 st.rows.length c2) (.slice o3 st.sets.length c3) (.slice o4 st.frm.length c4) (.slice o5 st.out.length c5) op xk xn xs s nmv n8 (.slice o6 k6 c6) (.slice o7 st.order.length c7) st.down st.n) 36)).heap.size :=Nat.le_trans hC hb2.size
 have hcW :Cz (fun k=>k<w.heap.size) ((w.alloc (.cells #[.slice to' ct.tables.length tc, .slice io ct.indexes.length ic] 25)).alloc (.cells (sA st.kind st.name st.table st.col (.slice o1 st.cols.length c1) (.slice o2 st.rows.length c2) (.slice o3 st.sets.length c3) (.slice o4 st.frm.length c4) (.slice o5 st.out.length c5) op xk xn xs s nmv n8 (.slice o6 k6 c6) (.slice o7 st.order.length c7) st.down st.n) 36)) ct (.agg #[.slice to' ct.tables.length tc, .slice io ct.indexes.length ic]) := ⟨_,_,rfl,htl.keep (Af (hb2.mono hC)),hil.keep (Af (hb2.mono hC))⟩
 have hRW :=Akj.keep (Af (hb2.mono hC)) hR
 have HB :=Ac8 ct (.agg #[.slice to' ct.tables.length tc, .slice io ct.indexes.length ic]) st (sA st.kind st.name st.table st.col (.slice o1 st.cols.length c1) (.slice o2 st.rows.length c2) (.slice o3 st.sets.length c3) (.slice o4 st.frm.length c4) (.slice o5 st.out.length c5) op xk xn xs s nmv n8 (.slice o6 k6 c6) (.slice o7 st.order.length c7) st.down st.n).toList w.heap.size ((w.alloc (.cells #[.slice to' ct.tables.length tc, .slice io ct.indexes.length ic] 25)).alloc (.cells (sA st.kind st.name st.table st.col (.slice o1 st.cols.length c1) (.slice o2 st.rows.length c2) (.slice o3 st.sets.length c3) (.slice o4 st.frm.length c4) (.slice o5 st.out.length c5) op xk xn xs s nmv n8 (.slice o6 k6 c6) (.slice o7 st.order.length c7) st.down st.n) 36)) hcW hRW hCW hfc hf
 have HSc :=fun W=>Adk W
 have z0 :=Aa B0 (j :=0) rfl
 have z1 :=Aa B0 (j :=1) rfl
 have hlt0 :=lt_of_block B0
 have hlt1 :=lt_of_block B1
 have ab0 :=Aa B1 (j :=0) rfl
 have ab2 :=Aa B1 (j :=2) rfl
 have hsl1 :=Ge htl
 have hsl2 :=Ge hil
 rcases hbr :C4 ct st with m | st2
 ·have hm :=Yt hbr
  have HB2 :=HB.mono (R' :=fun r w'=>r= .returned (.tuple #[.agg Ai, .int .i64 m]) ∧Below ((w.alloc (.cells #[.slice to' ct.tables.length tc, .slice io ct.indexes.length ic] 25)).alloc (.cells (sA st.kind st.name st.table st.col (.slice o1 st.cols.length c1) (.slice o2 st.rows.length c2) (.slice o3 st.sets.length c3) (.slice o4 st.frm.length c4) (.slice o5 st.out.length c5) op xk xn xs s nmv n8 (.slice o6 k6 c6) (.slice o7 st.order.length c7) st.down st.n) 36)).heap.size ((w.alloc (.cells #[.slice to' ct.tables.length tc, .slice io ct.indexes.length ic] 25)).alloc (.cells (sA st.kind st.name st.table st.col (.slice o1 st.cols.length c1) (.slice o2 st.rows.length c2) (.slice o3 st.sets.length c3) (.slice o4 st.frm.length c4) (.slice o5 st.out.length c5) op xk xn xs s nmv n8 (.slice o6 k6 c6) (.slice o7 st.order.length c7) st.down st.n) 36)) w') (by
   rintro r w' ⟨⟨v,rfl,hv⟩,hb'⟩
   rw [hbr] at hv
   obtain rfl :=hv
   exact ⟨rfl,hb'⟩)
  have hz :Ai.all (·.oneCell') =true :=E8 (Al _ _ _) (Al _ _ _) (Al _ _ _) (Al _ _ _) (Al _ _ _) (Al _ _ _) (Al _ _ _)
  clear HB hbr hcW hRW htl hil hR i1 i2 i3 i4 i5 i6 i7 hr hn2
  rcases hm with rfl | rfl | rfl | rfl | rfl
  all_goals
   go_enter Tryz.func3,Tryz.ntmps3
   go_wp2_with (first | (go_at_call 4;refine HB2.mono ?_;rintro r w1 ⟨rfl,hb1⟩;have hnew :=Ab w1 (.cells Ai 36);have hbV :Below w.heap.size w ((w1.alloc (.cells Ai 36)).setRow w1.heap.size Ai) :=Below.row ((Ad hb2 hb1).alloc (Ad hb2 hb1).size _) (Ad hb2 hb1).size _) | (refine wpList_store_row rfl 36 _ _ rfl w1.heap.size Ai ?_ ?_ 36 Ai ?_ ?_ ?_ ?_ ?_;exact rfl;exact rfl;exact hnew;exact Ak;exact rfl;exact hz) | (go_at_call 5;go_fit (HSc _);rintro e w3 ⟨rfl,hb3⟩) | (refine wpList_load_row rfl 36 _ rfl (w.heap.size+1) ?_ 36 _ (0,0) _ B1 Tryz.underlying36 ?_ ?_ ?_;exact rfl;exact rfl;exact Ak))
   go_ret
   exact ⟨rfl,Ad hbV hb3⟩
 ·have HB2 :=HB.mono (R' :=fun r w'=> ∃q1 d1 q2 d2 q3 d3 q4 d4 q5 d5 pop pxk pxn pxs ps pnm pn8 q6 e6 d6 q7 d7,r= .returned (.tuple #[.agg (sA st2.kind st2.name st2.table st2.col (.slice q1 st2.cols.length d1) (.slice q2 st2.rows.length d2) (.slice q3 st2.sets.length d3) (.slice q4 st2.frm.length d4) (.slice q5 st2.out.length d5) pop pxk pxn pxs ps pnm pn8 (.slice q6 e6 d6) (.slice q7 st2.order.length d7) st2.down st2.n), .int .i64 0]) ∧IsL Ei (fun k=>k<w'.heap.size) w' (.slice q3 st2.sets.length d3) st2.sets∧IsE (fun k=>k<w'.heap.size) w' st2.wher (.agg (Ae pop ⟨pxk,pxn,pxs⟩ ps pnm pn8 (.slice q6 e6 d6))) ∧Below ((w.alloc (.cells #[.slice to' ct.tables.length tc, .slice io ct.indexes.length ic] 25)).alloc (.cells (sA st.kind st.name st.table st.col (.slice o1 st.cols.length c1) (.slice o2 st.rows.length c2) (.slice o3 st.sets.length c3) (.slice o4 st.frm.length c4) (.slice o5 st.out.length c5) op xk xn xs s nmv n8 (.slice o6 k6 c6) (.slice o7 st.order.length c7) st.down st.n) 36)).heap.size ((w.alloc (.cells #[.slice to' ct.tables.length tc, .slice io ct.indexes.length ic] 25)).alloc (.cells (sA st.kind st.name st.table st.col (.slice o1 st.cols.length c1) (.slice o2 st.rows.length c2) (.slice o3 st.sets.length c3) (.slice o4 st.frm.length c4) (.slice o5 st.out.length c5) op xk xn xs s nmv n8 (.slice o6 k6 c6) (.slice o7 st.order.length c7) st.down st.n) 36)) w') (by
   rintro r w' ⟨⟨v,rfl,hv⟩,hb'⟩
   rw [hbr] at hv
   obtain ⟨arr,rfl,ha1,ha2,hR2⟩ :=hv
   obtain ⟨q1,d1,q2,d2,q3,d3,q4,d4,q5,d5,pop,pxk,pxn,pxs,ps,pnm,pn8,q6,e6,d6,q7,d7,harr,j1,j2,j3,j4,j5,j6,j7⟩ :=Er hR2
   obtain rfl :=Array.toList_inj.1 harr
   exact ⟨q1,d1,q2,d2,q3,d3,q4,d4,q5,d5,pop,pxk,pxn,pxs,ps,pnm,pn8,q6,e6,d6,q7,d7,rfl,j3.mono (fun k hk _=>hk),IsE.mono (fun k hk _=>hk) _ _ j6,hb'⟩)
  clear HB hcW hRW hR i1 i2 i3 i4 i5 i6 i7
  by_cases hk5 :st.kind=5
  rotate_left
  ·have hk : (st.kind !=5) =true :=by simpa using hk5
   clear hn2 hr hbr htl hil
   go_enter Tryz.func3,Tryz.ntmps3
   go_wp2_with (first | (go_at_call 4;refine HB2.mono ?_;rintro r w1 ⟨q1,d1,q2,d2,q3,d3,q4,d4,q5,d5,pop,pxk,pxn,pxs,ps,pnm,pn8,q6,e6,d6,q7,d7,rfl,hLs,hEw,hb1⟩;have hnew :=Ab w1 (.cells Ai 36);have hone : (sA st2.kind st2.name st2.table st2.col (.slice q1 st2.cols.length d1) (.slice q2 st2.rows.length d2) (.slice q3 st2.sets.length d3) (.slice q4 st2.frm.length d4) (.slice q5 st2.out.length d5) pop pxk pxn pxs ps pnm pn8 (.slice q6 e6 d6) (.slice q7 st2.order.length d7) st2.down st2.n).all (·.oneCell') =true :=E8 (Al _ _ _) (Al _ _ _) (Al _ _ _) (Al _ _ _) (Al _ _ _) (Al _ _ _) (Al _ _ _);have hbV0 :Below ((w.alloc (.cells #[.slice to' ct.tables.length tc, .slice io ct.indexes.length ic] 25)).alloc (.cells (sA st.kind st.name st.table st.col (.slice o1 st.cols.length c1) (.slice o2 st.rows.length c2) (.slice o3 st.sets.length c3) (.slice o4 st.frm.length c4) (.slice o5 st.out.length c5) op xk xn xs s nmv n8 (.slice o6 k6 c6) (.slice o7 st.order.length c7) st.down st.n) 36)).heap.size ((w.alloc (.cells #[.slice to' ct.tables.length tc, .slice io ct.indexes.length ic] 25)).alloc (.cells (sA st.kind st.name st.table st.col (.slice o1 st.cols.length c1) (.slice o2 st.rows.length c2) (.slice o3 st.sets.length c3) (.slice o4 st.frm.length c4) (.slice o5 st.out.length c5) op xk xn xs s nmv n8 (.slice o6 k6 c6) (.slice o7 st.order.length c7) st.down st.n) 36)) ((w1.alloc (.cells Ai 36)).setRow w1.heap.size (sA st2.kind st2.name st2.table st2.col (.slice q1 st2.cols.length d1) (.slice q2 st2.rows.length d2) (.slice q3 st2.sets.length d3) (.slice q4 st2.frm.length d4) (.slice q5 st2.out.length d5) pop pxk pxn pxs ps pnm pn8 (.slice q6 e6 d6) (.slice q7 st2.order.length d7) st2.down st2.n)) :=Below.row (hb1.alloc hb1.size _) hb1.size _;have hbV :=Ad hb2 hbV0;have hb1V :Below w1.heap.size w1 ((w1.alloc (.cells Ai 36)).setRow w1.heap.size (sA st2.kind st2.name st2.table st2.col (.slice q1 st2.cols.length d1) (.slice q2 st2.rows.length d2) (.slice q3 st2.sets.length d3) (.slice q4 st2.frm.length d4) (.slice q5 st2.out.length d5) pop pxk pxn pxs ps pnm pn8 (.slice q6 e6 d6) (.slice q7 st2.order.length d7) st2.down st2.n)) :=Below.row (Ao _ _) (Nat.le_refl _) _;have hbox :=Au (cells := (sA st2.kind st2.name st2.table st2.col (.slice q1 st2.cols.length d1) (.slice q2 st2.rows.length d2) (.slice q3 st2.sets.length d3) (.slice q4 st2.frm.length d4) (.slice q5 st2.out.length d5) pop pxk pxn pxs ps pnm pn8 (.slice q6 e6 d6) (.slice q7 st2.order.length d7) st2.down st2.n)) hnew;have yb0 := (hbV0.cell (p := ⟨w.heap.size+1,0,none⟩) hlt1).trans ab0;have yb2 := (hbV0.cell (p := ⟨w.heap.size+1,2,none⟩) hlt1).trans ab2;have y0 := (hbV0.cell (p := ⟨w.heap.size,0,none⟩) hlt0).trans z0;have y1 := (hbV0.cell (p := ⟨w.heap.size,1,none⟩) hlt0).trans z1) | (refine wpList_store_row rfl 36 _ _ rfl w1.heap.size (sA st2.kind st2.name st2.table st2.col (.slice q1 st2.cols.length d1) (.slice q2 st2.rows.length d2) (.slice q3 st2.sets.length d3) (.slice q4 st2.frm.length d4) (.slice q5 st2.out.length d5) pop pxk pxn pxs ps pnm pn8 (.slice q6 e6 d6) (.slice q7 st2.order.length d7) st2.down st2.n) ?_ ?_ 36 Ai ?_ ?_ ?_ ?_ ?_;exact rfl;exact rfl;exact hnew;exact Ak;exact rfl;exact hone) | (go_at_call 5;go_fit (HSc _);rintro e w3 ⟨rfl,hb3⟩) | (refine wpList_load_row rfl 36 _ rfl (w.heap.size+1) ?_ 36 _ (0,0) _ B1 Tryz.underlying36 ?_ ?_ ?_;exact rfl;exact rfl;exact Ak))
   go_ret
   exact ⟨rfl,Ad hbV hb3⟩
  obtain ⟨g1,g2,t,htab,hwh⟩ :=Xn hbr hk5
  obtain ⟨_,_,_,_,e5⟩ :=Px g2
  obtain ⟨hI4,hIn,hTn⟩ :=Aa8 g1
  obtain ⟨htn,hc0,hc4⟩ :=hTn t (Aa9 htab).1
  obtain ⟨hwx,hwr⟩ :=Afj (t :=t) (by omega) hwh e5
  have hfx :De st2.wher :=hwx hf.fs.wher
  have HF :=fun (W :World) (h :Below w.heap.size w W) =>Ev htab (.slice to' ct.tables.length tc) (.slice io ct.indexes.length ic) hsl2 w.heap.size W (htl.keep (Af (h.mono hC))) (Nat.le_trans hC h.size)
  have HK0 :=fun W (h :Below w.heap.size w W) sv (hl :IsL Cc (fun k=>k<w.heap.size) W sv t.cols) =>Afg ct.indexes t rows (.slice to' ct.tables.length tc) (.slice io ct.indexes.length ic) sv (.slice ro rows.length rc) w.heap.size W hsl1 (hil.keep (Af h)) hl (hr.keep (Af h)) h.size hI4 (fun x hx=>Nat.le_trans (hIn x hx) (by decide)) (Nat.le_trans htn (by decide)) hc0 hc4 hrs
  have ab05 :_=some (Value.int .i64 5) :=ab0.trans (by rw [hk5];rfl)
  clear ab0
  have ab0 :=ab05
  clear ab05
  have HWH :Hid _ :=hwh
  have HG5 :Hid (st.wher.opn≠0→geB 40 st.wher=true) :=e5
  have HN2 :Hid (st.wher.nodes≤16777216∧Ci st.wher) :=hn2
  have HIn :Hid _ :=hIn
  have HG1 :Hid _ :=g1
  have HWR :Hid (geB 40 st2.wher=true→K0 40 st2.wher) :=hwr
  have HFX :Hid _ :=hfx
  have HTL :Hid _ :=htl
  have HIL :Hid _ :=hil
  have HK :Hid _ :=HK0
  clear htl hil hbr hk5 hwh htab g1 g2 e5 hn2 hIn hTn hwx hwr hfx HK0 hr hrs
  go_enter Tryz.func3,Tryz.ntmps3
  go_upto_region 5 with (first | (go_at_call 4;refine HB2.mono ?_;rintro r w1 ⟨q1,d1,q2,d2,q3,d3,q4,d4,q5,d5,pop,pxk,pxn,pxs,ps,pnm,pn8,q6,e6,d6,q7,d7,rfl,hLs,hEw,hb1⟩;have hnew :=Ab w1 (.cells Ai 36);have hone : (sA st2.kind st2.name st2.table st2.col (.slice q1 st2.cols.length d1) (.slice q2 st2.rows.length d2) (.slice q3 st2.sets.length d3) (.slice q4 st2.frm.length d4) (.slice q5 st2.out.length d5) pop pxk pxn pxs ps pnm pn8 (.slice q6 e6 d6) (.slice q7 st2.order.length d7) st2.down st2.n).all (·.oneCell') =true :=E8 (Al _ _ _) (Al _ _ _) (Al _ _ _) (Al _ _ _) (Al _ _ _) (Al _ _ _) (Al _ _ _);have hbV0 :Below ((w.alloc (.cells #[.slice to' ct.tables.length tc, .slice io ct.indexes.length ic] 25)).alloc (.cells (sA st.kind st.name st.table st.col (.slice o1 st.cols.length c1) (.slice o2 st.rows.length c2) (.slice o3 st.sets.length c3) (.slice o4 st.frm.length c4) (.slice o5 st.out.length c5) op xk xn xs s nmv n8 (.slice o6 k6 c6) (.slice o7 st.order.length c7) st.down st.n) 36)).heap.size ((w.alloc (.cells #[.slice to' ct.tables.length tc, .slice io ct.indexes.length ic] 25)).alloc (.cells (sA st.kind st.name st.table st.col (.slice o1 st.cols.length c1) (.slice o2 st.rows.length c2) (.slice o3 st.sets.length c3) (.slice o4 st.frm.length c4) (.slice o5 st.out.length c5) op xk xn xs s nmv n8 (.slice o6 k6 c6) (.slice o7 st.order.length c7) st.down st.n) 36)) ((w1.alloc (.cells Ai 36)).setRow w1.heap.size (sA st2.kind st2.name st2.table st2.col (.slice q1 st2.cols.length d1) (.slice q2 st2.rows.length d2) (.slice q3 st2.sets.length d3) (.slice q4 st2.frm.length d4) (.slice q5 st2.out.length d5) pop pxk pxn pxs ps pnm pn8 (.slice q6 e6 d6) (.slice q7 st2.order.length d7) st2.down st2.n)) :=Below.row (hb1.alloc hb1.size _) hb1.size _;have hbV :=Ad hb2 hbV0;have hb1V :Below w1.heap.size w1 ((w1.alloc (.cells Ai 36)).setRow w1.heap.size (sA st2.kind st2.name st2.table st2.col (.slice q1 st2.cols.length d1) (.slice q2 st2.rows.length d2) (.slice q3 st2.sets.length d3) (.slice q4 st2.frm.length d4) (.slice q5 st2.out.length d5) pop pxk pxn pxs ps pnm pn8 (.slice q6 e6 d6) (.slice q7 st2.order.length d7) st2.down st2.n)) :=Below.row (Ao _ _) (Nat.le_refl _) _;have hbox :=Au (cells := (sA st2.kind st2.name st2.table st2.col (.slice q1 st2.cols.length d1) (.slice q2 st2.rows.length d2) (.slice q3 st2.sets.length d3) (.slice q4 st2.frm.length d4) (.slice q5 st2.out.length d5) pop pxk pxn pxs ps pnm pn8 (.slice q6 e6 d6) (.slice q7 st2.order.length d7) st2.down st2.n)) hnew;have yb0 := (hbV0.cell (p := ⟨w.heap.size+1,0,none⟩) hlt1).trans ab0;have yb2 := (hbV0.cell (p := ⟨w.heap.size+1,2,none⟩) hlt1).trans ab2;have y0 := (hbV0.cell (p := ⟨w.heap.size,0,none⟩) hlt0).trans z0;have y1 := (hbV0.cell (p := ⟨w.heap.size,1,none⟩) hlt0).trans z1) | (refine wpList_store_row rfl 36 _ _ rfl w1.heap.size (sA st2.kind st2.name st2.table st2.col (.slice q1 st2.cols.length d1) (.slice q2 st2.rows.length d2) (.slice q3 st2.sets.length d3) (.slice q4 st2.frm.length d4) (.slice q5 st2.out.length d5) pop pxk pxn pxs ps pnm pn8 (.slice q6 e6 d6) (.slice q7 st2.order.length d7) st2.down st2.n) ?_ ?_ 36 Ai ?_ ?_ ?_ ?_ ?_;exact rfl;exact rfl;exact hnew;exact Ak;exact rfl;exact hone) | (go_at_call 5;go_fit (HSc _);rintro e w3 ⟨rfl,hb3⟩;have hb3w :Below w.heap.size w w3 :=Ad hbV hb3;have x0 := (hb3.cell (p := ⟨w.heap.size,0,none⟩) (Nat.lt_of_lt_of_le hlt0 hbV0.size)).trans y0;have x1 := (hb3.cell (p := ⟨w.heap.size,1,none⟩) (Nat.lt_of_lt_of_le hlt0 hbV0.size)).trans y1;have x2 := (hb3.cell (p := ⟨w.heap.size+1,2,none⟩) (Nat.lt_of_lt_of_le hlt1 hbV0.size)).trans yb2;have HF1 :=HF _ hb3w) | (go_at_call 6;go_fit HF1;rintro e w4 ⟨ao,nt,cc,rfl,hcL,hb4⟩) | (refine wpList_load_row rfl 36 _ rfl (w.heap.size+1) ?_ 36 _ (0,0) _ B1 Tryz.underlying36 ?_ ?_ ?_;exact rfl;exact rfl;exact Ak))
  obtain ⟨hnt,_⟩ :=Cj hcL
  subst hnt
  have hbV5 :Below ((w1.alloc (.cells Ai 36)).setRow w1.heap.size (sA st2.kind st2.name st2.table st2.col (.slice q1 st2.cols.length d1) (.slice q2 st2.rows.length d2) (.slice q3 st2.sets.length d3) (.slice q4 st2.frm.length d4) (.slice q5 st2.out.length d5) pop pxk pxn pxs ps pnm pn8 (.slice q6 e6 d6) (.slice q7 st2.order.length d7) st2.down st2.n)).heap.size ((w1.alloc (.cells Ai 36)).setRow w1.heap.size (sA st2.kind st2.name st2.table st2.col (.slice q1 st2.cols.length d1) (.slice q2 st2.rows.length d2) (.slice q3 st2.sets.length d3) (.slice q4 st2.frm.length d4) (.slice q5 st2.out.length d5) pop pxk pxn pxs ps pnm pn8 (.slice q6 e6 d6) (.slice q7 st2.order.length d7) st2.down st2.n)) (w4.alloc (.cells #[.string t.name, .slice ao t.cols.length cc] 43)) :=Ad (Ad hb3 hb4) (Ao _ _)
  have hS5 := (hbV5.block _ (lt_of_block hbox)).trans hbox
  have hT5 :=Ab w4 (.cells #[.string t.name, .slice ao t.cols.length cc] 43)
  have hb15 :=hb1V.trans (hbV5.mono hb1V.size)
  have hE5 :=IsE.mono (F' :=fun k=>k< (w4.alloc (.cells #[.string t.name, .slice ao t.cols.length cc] 43)).heap.size) (fun k hk _=>hk) _ _ (IsE.keep (Af hb15) _ _ hEw)
  have hcL5 :=hcL.keep (Bd (Ao w4 (.cells #[.string t.name, .slice ao t.cols.length cc] 43)))
  have hbw5 :=Ad hbV hbV5
  have hC5 : (w4.alloc (.cells #[.string t.name, .slice ao t.cols.length cc] 43)).heap[w.heap.size]? =some (.cells #[.slice to' ct.tables.length tc, .slice io ct.indexes.length ic] 25) := ((Ad hbV0 hbV5).block _ hlt0).trans B0
  generalize w4.alloc (.cells #[.string t.name, .slice ao t.cols.length cc] 43) =W5 at hbV5 hS5 hT5 hb15 hE5 hcL5 hbw5 hC5⊢
  generalize w4.heap.size=pT at hT5⊢
  generalize w1.heap.size=pS at hS5⊢
  clear hbV5 hb15 hLs hEw hcL hbox hb3 hb4 HF HF1 hb1 hbV hbV0 hb1V yb0 yb2 y0 y1 x0 x1 x2 hb3w hnew hone HB2 HSc z0 z1 ab0 ab2 hlt0 hlt1 B0 B1 hb2 hCW
  have p0 :=Aa hT5 (j :=0) rfl
  have p1 :=Aa hT5 (j :=1) rfl
  have p2 :=Aa hC5 (j :=0) rfl
  have p3 :=Aa hC5 (j :=1) rfl
  go_upto_region 6 with (go_at_call 7;go_fit (HK.out _ hbw5 _ hcL5);rintro e w5 ⟨go5,pk,pc,T,oo,oc,O,rfl,hp5,hg5,hk5,hl5,hO5,hb5⟩)
  have hbx :=Ao w5 (.cells #[.slice go5 pk pc] 48)
  have hb56 :Below W5.heap.size W5 (w5.alloc (.cells #[.slice go5 pk pc] 48)) :=hb5.trans (hbx.mono hb5.size)
  have hS6 := (hb56.block _ (lt_of_block hS5)).trans hS5
  have hT6 := (hb56.block _ (lt_of_block hT5)).trans hT5
  have hC6 := (hb56.block _ (lt_of_block hC5)).trans hC5
  have hG6 :=Ab w5 (.cells #[.slice go5 pk pc] 48)
  have hbw6 :=hbw5.trans (hb56.mono hbw5.size)
  have hE6 :=IsE.mono (F' :=fun k=>k< (w5.alloc (.cells #[.slice go5 pk pc] 48)).heap.size) (fun k hk _=>hk) _ _ (IsE.keep (Af hb56) _ _ hE5)
  have hcL6 := (hcL5.keep (Bd hb56)).mono (F' :=fun k=>k< (w5.alloc (.cells #[.slice go5 pk pc] 48)).heap.size) (fun k hk _=>hk)
  have hO6 := (hO5.keep (Bd hbx)).mono (F' :=fun k=>k< (w5.alloc (.cells #[.slice go5 pk pc] 48)).heap.size) (fun k hk _=>hk)
  have hp6 :=hp5.below hbx
  have hct1 := (IsL.keep HTL.out (Af hbw6)).mono (F' :=fun k=>k< (w5.alloc (.cells #[.slice go5 pk pc] 48)).heap.size) (fun k hk _=>hk)
  have hct2 := (IsL.keep HIL.out (Af hbw6)).mono (F' :=fun k=>k< (w5.alloc (.cells #[.slice go5 pk pc] 48)).heap.size) (fun k hk _=>hk)
  generalize w5.alloc (.cells #[.slice go5 pk pc] 48) =W6 at hb56 hS6 hT6 hC6 hG6 hbw6 hE6 hcL6 hO6 hp6 hct1 hct2⊢
  generalize w5.heap.size=pG at hG6⊢
  have HCh :=fun W (h :Below W6.heap.size W6 W) =>Abc ct t 0 pop pxk pxn pxs ps pnm pn8 q6 e6 d6 st2.wher to' ct.tables.length tc io ct.indexes.length ic ao cc W6.heap.size W (IsE.keep (Af h) _ _ hE6) h.size HFX.out HWR.out (Nat.le_trans htn (by decide)) ⟨_,_,rfl,hct1.keep (Af h),hct2.keep (Af h)⟩ hfc (hcL6.keep (Af h)) (fun x hx=>Nat.le_trans (HIn.out x hx) (by decide))
  have HRo :=fun W (h :Below W6.heap.size W6 W) =>Afk t (Cu ct t 0 st2.wher) T (.agg #[.slice go5 pk pc]) ao cc W ⟨_,rfl,hp6.below h⟩ hg5 (by omega) (Nat.le_trans (Yw HIn.out) (by decide)) (Nat.le_trans htn (by decide)) (Abb hk5 htn hc4 HIn.out)
  obtain ⟨wm1,wm2,wm3⟩ :=Acs hg5 hk5 hc0 st2.wher HG1.out (Aba HG1.out)
  generalize Fq t.cols.length T t.name (Cu ct t 0 st2.wher) =A at HRo wm1 wm2 wm3
  generalize Cu ct t 0 st2.wher=cw at HCh HRo
  obtain ⟨cx,clo,chi⟩ :=cw
  have hlen :Hid (A.length≤O.length) :=Agz wm1 wm2
  have WM1 :Hid _ :=wm1
  have WM3 :Hid _ :=wm3
  have HKp :Hid _ :=hk5
  have hO :=hk5.len
  unfold Fi at HCh HRo
  simp only at HCh HRo
  have KS :Hid _ :=fun W (h :Below W6.heap.size W6 W) => (show WyS W pG pT w.heap.size pS (.slice go5 pk pc) (.string t.name) (.slice ao t.cols.length cc) (.slice to' ct.tables.length tc) (.slice io ct.indexes.length ic) #[.int .i64 pop, .int .i64 pxk, .int .i64 pxn, .string pxs, .string ps, .string pnm, .int .i64 pn8, .slice q6 e6 d6] from
   ⟨⟨Aa ((h.block _ (lt_of_block hG6)).trans hG6) (j :=0) rfl,Aa ((h.block _ (lt_of_block hT6)).trans hT6) (j :=0) rfl,Aa ((h.block _ (lt_of_block hT6)).trans hT6) (j :=1) rfl,Aa ((h.block _ (lt_of_block hC6)).trans hC6) (j :=0) rfl,Aa ((h.block _ (lt_of_block hC6)).trans hC6) (j :=1) rfl⟩,
   Aa ((h.block _ (lt_of_block hS6)).trans hS6) (j :=9) rfl,Aa ((h.block _ (lt_of_block hS6)).trans hS6) (j :=10) rfl,Aa ((h.block _ (lt_of_block hS6)).trans hS6) (j :=11) rfl,Aa ((h.block _ (lt_of_block hS6)).trans hS6) (j :=12) rfl,Aa ((h.block _ (lt_of_block hS6)).trans hS6) (j :=13) rfl,Aa ((h.block _ (lt_of_block hS6)).trans hS6) (j :=14) rfl,Aa ((h.block _ (lt_of_block hS6)).trans hS6) (j :=15) rfl,Aa ((h.block _ (lt_of_block hS6)).trans hS6) (j :=16) rfl⟩)
  have s0 :=KS.out W6.drew (Below.refl _ _).drew
  unfold WyS at KS s0
  clear hp5 hk5 hO5 hb5 hS5 hT5 hC5 hE5 hcL5 hbw5 p0 p1 p2 p3 hbx hb56 hct1 hct2 hp6 wm1 wm2 wm3 HK
  simp only [List.getElem?_toArray,List.getElem?_cons_zero,List.getElem?_cons_succ] at KS s0
  go_region_held3 (fun W=> (W.cell? ⟨pG,0,none⟩ =some (.slice go5 pk pc) ∧W.cell? ⟨pT,0,none⟩ =some (.string t.name) ∧W.cell? ⟨pT,1,none⟩ =some (.slice ao t.cols.length cc) ∧W.cell? ⟨w.heap.size,0,none⟩ =some (.slice to' ct.tables.length tc) ∧W.cell? ⟨w.heap.size,1,none⟩ =some (.slice io ct.indexes.length ic)) ∧ (W.cell? ⟨pS,9,none⟩ =some (.int .i64 pop) ∧W.cell? ⟨pS,10,none⟩ =some (.int .i64 pxk) ∧W.cell? ⟨pS,11,none⟩ =some (.int .i64 pxn) ∧W.cell? ⟨pS,12,none⟩ =some (.string pxs) ∧W.cell? ⟨pS,13,none⟩ =some (.string ps) ∧W.cell? ⟨pS,14,none⟩ =some (.string pnm) ∧W.cell? ⟨pS,15,none⟩ =some (.int .i64 pn8) ∧W.cell? ⟨pS,16,none⟩ =some (.slice q6 e6 d6))) (with_reducible first | exact s2 | exact s1 | exact s0)
   (first
    | (go_at_call 9;go_fit (HCh _ (Below.refl _ _).drew);rintro e w7 ⟨rfl,hb7⟩;have hB7 :Below W6.heap.size W6 w7 :=Ad (Below.refl _ _).drew hb7;have s1 :=KS.out w7 hB7)
    | (go_at_call 8;go_fit (HRo _ hB7);rintro e w8 ⟨rv8,rfl,hrv8,hb8⟩;have hB8 :Below W6.heap.size W6 w8 :=Ad hB7 hb8;have s2 :=KS.out w8 hB8))
  obtain ⟨xo,xc,rfl⟩ :=hrv8.shape
  have hS8 := (hB8.block _ (lt_of_block hS6)).trans hS6
  have hE8 :=IsE.mono (F' :=fun k=>k<w8.heap.size) (fun k hk _=>hk) _ _ (IsE.keep (Af hB8) _ _ hE6)
  have hO8 := (hO6.keep (Af hB8)).mono (F' :=fun k=>k<w8.heap.size) (fun k hk _=>hk)
  have hA8 :=hrv8.mono (F' :=fun k=>k<w8.heap.size) (fun k hk _=>hk)
  have hbw8 :=hbw6.trans (hB8.mono hbw6.size)
  have hlS :=lt_of_block hS8
  have hAl :A.length≤20 :=Nat.le_trans hlen.out hO
  clear hrv8 hO6 hE6 hS6 hT6 hC6 hG6 hcL6 HCh HRo KS s0 s1 s2 hb7 hb8 hB7 hB8 hbw6
  go_wp2_with fail
  go_loopw [61] (fun i wr=> ∃k :Nat,k≤O.length∧i= .int .i64 k∧Below w8.heap.size w8 wr) (fun i _=>O.length - (intOf i).toNat)
  case atStart=>exact ⟨0,Nat.zero_le _,rfl,Below.refl _ _⟩
  case round=>
   obtain ⟨k,hk,rfl,hbel⟩ :=hrel
   by_cases hlt :k<O.length
   ·obtain ⟨r,hx⟩ : ∃r,O[k]? =some r := ⟨_,List.getElem?_eq_getElem hlt⟩
    obtain ⟨b,off,cs',hsl,_,hbl,⟨yv,rfl,hrow⟩,hcell⟩ :=A4 (hO8.keep (Af hbel)) hx
    cases hsl
    obtain ⟨yo,yc,rfl⟩ :=hrow.shape
    have hvr :=I1 hrow
    have d0 :wr.cell? ⟨b,off+k,none⟩ =some (.slice yo r.length yc) :=by have :=hcell 0 _ rfl;simpa [E9] using this
    have hfit :=HKp.out.fit r (List.mem_of_getElem? hx)
    have hgr :=C6 hfit
    have hrs : ∀v∈r,v.s.size≤maxLen :=fun v hv=>Abd (hgr.2 v hv)
    have hrl :r.length≤maxLen :=by rw [hgr.1];exact Nat.le_trans hc4 (by decide)
    have HRO :=Aa5 hfit
    obtain ⟨_,hw2,hw3⟩ :=Afe HRO HWH.out HG5.out
    have HEv :=fun W (h :Below w8.heap.size w8 W) (hv :Bp W (.slice yo r.length yc) r) =>Afl st2.wher _ (.slice yo r.length yc) r w8.heap.size W (IsE.keep (Af h) _ _ hE8) h.size (by rw [hw2];exact HN2.out.1) (hw3 HN2.out.2) hv hrs hrl
    have HOf :=fun W=>L9 (ev r st2.wher) W
    have hall :=WM3.out r (List.mem_of_getElem? hx)
    have HSm :=fun x xv W (hv :Bp W (.slice yo r.length yc) r) (hx :Bp W xv x) =>Aeo r x _ xv W hv hx hrl
    have v0 : (0 :Int) ≤ (k :Int) :=by omega
    have v1 : (k :Int) < (O.length :Int) :=by omega
    have hone :Hid (F9 r A≤1) :=Adm WM1.out
    have hzer :Hid (F9 r A=0→st2.wher.opn≠0∧ofV (ev r st2.wher) ≠1) :=fun h0=>by
     have hno :=Adn h0
     have hge :geB 40 st2.wher=true :=by
      cases hg :geB 40 st2.wher with
      | true=>rfl
      | false=>exact absurd (hall fun h=>by rw [hg] at h;cases h) hno
     exact ⟨fun h0=> (by rw [Xm h0] at hge;cases hge),fun h1=>hno (hall fun _=>h1)⟩
    have hopn :Hid (pop=st2.wher.opn) :=Ah7 hE8
    generalize ev r st2.wher=v at HEv HOf hzer
    obtain ⟨vk,vn,vs⟩ :=v
    simp only [V.val] at HEv HOf
    generalize ofV ⟨vk,vn,vs⟩ =ofv at HOf hzer
    have HEv2 :Hid _ :=HEv
    have HOf2 :Hid _ :=HOf
    have HJ :Hid (k+1≤O.length) :=hlt
    clear hall hgr hfit HRO hrow hcell hx hw2 hw3 HEv HOf hk
    obtain ⟨wo,hwo⟩ : ∃x,x=wr := ⟨_,rfl⟩
    subst hwo
    go_wp2_with fail
    go_loopw [16,67] (fun nv i wq=> ∃j :Nat,j≤A.length∧i= .int .i64 j∧nv= .int .i64 (F9 r (A.take j)) ∧Below wo.heap.size wo wq) (fun _ i _=>A.length - (intOf i).toNat)
    case atStart=>exact ⟨0,Nat.zero_le _,rfl,rfl,Below.refl _ _⟩
    case round=>
     obtain ⟨j,hj,rfl,rfl,hbq⟩ :=hrel
     by_cases hjl :j<A.length
     ·obtain ⟨x,hy⟩ : ∃x,A[j]? =some x := ⟨_,List.getElem?_eq_getElem hjl⟩
      obtain ⟨b2,off2,cs2,hsl2',_,hbl2,⟨zv,rfl,hrow2⟩,hcell2⟩ :=A4 ((hA8.keep (Af hbel)).keep (Af (hbq.mono hbel.size))) hy
      cases hsl2'
      obtain ⟨zo,zc,rfl⟩ :=hrow2.shape
      have f0 :wr.cell? ⟨b2,off2+j,none⟩ =some (.slice zo x.length zc) :=by have :=hcell2 0 _ rfl;simpa [E9] using this
      have HS2 :=HSm x (.slice zo x.length zc) wr (hvr.below hbq) (I1 hrow2)
      have HCT :Hid (F9 r (A.take (j+1)) =F9 r (A.take j) + (if E0 r x=true then 1 else 0)) :=Adl hy
      have HCL :Hid (F9 r (A.take j) ≤j) :=Nat.le_trans (Agy _ _) (by simp;omega)
      have u0 : (0 :Int) ≤ (j :Int) :=by omega
      have u1 : (j :Int) < (A.length :Int) :=by omega
      generalize F9 r (A.take j) =cj at HCT HCL
      generalize E0 r x=sb at HCT HS2
      have hcj :cj≤j :=HCL.out
      clear hrow2 hcell2 hy
      cases sb
      ·have HC2 :Hid (F9 r (A.take (j+1)) =cj) :=by show _=_;rw [HCT.out];simp
       go_wp2_with (go_at_call 10;go_fit HS2;rintro e wq2 ⟨rfl,hbq2⟩)
       go_roundw
       case rel=>exact ⟨j+1,hjl,by go_num,by rw [HC2.out],hbq.trans (hbq2.mono hbq.size)⟩
       case measure=>simp [intOf];omega
      ·have HC2 :Hid (F9 r (A.take (j+1)) =cj+1) :=by show _=_;rw [HCT.out];simp
       go_wp2_with (go_at_call 10;go_fit HS2;rintro e wq2 ⟨rfl,hbq2⟩)
       go_roundw
       case rel=>exact ⟨j+1,hjl,by go_num,by rw [HC2.out];go_num,hbq.trans (hbq2.mono hbq.size)⟩
       case measure=>simp [intOf];omega
     ·have hjn :j=A.length :=by omega
      subst hjn
      have u1 : ¬ ((A.length :Int) < (A.length :Int)) :=by omega
      have hSw := ((hbel.trans (hbq.mono hbel.size)).block _ hlS).trans hS8
      have a9 :=Aa hSw (j :=9) rfl
      have a10 :=Aa hSw (j :=10) rfl
      have a11 :=Aa hSw (j :=11) rfl
      have a12 :=Aa hSw (j :=12) rfl
      have a13 :=Aa hSw (j :=13) rfl
      have a14 :=Aa hSw (j :=14) rfl
      have a15 :=Aa hSw (j :=15) rfl
      have a16 :=Aa hSw (j :=16) rfl
      rw [List.take_length]
      generalize F9 r A=cn at hone hzer
      have hcn :cn=0∨cn=1 :=by have :=hone.out;omega
      rcases hcn with rfl | rfl
      ·obtain ⟨hop,hof⟩ :=hzer.out rfl
       have hop0 : (pop==0) =false :=by rw [hopn.out];simpa using hop
       have hof0 : (ofv==1) =false :=by simpa using hof
       have HEq :=HEv2.out wr (hbel.trans (hbq.mono hbel.size)) (hvr.below hbq)
       clear hzer hone
       go_wp2_with (first | (go_at_call 12;go_fit HEq;rintro e wq3 ⟨rfl,hbq3⟩) | (go_at_call 11;go_fit (HOf2.out _);rintro e wq4 ⟨rfl,hbq4⟩))
       go_roundw
       case rel=>exact ⟨k+1,HJ.out,by go_num,hbel.trans ((Ad (Ad hbq hbq3) hbq4).mono hbel.size)⟩
       case measure=>have :=HJ.out;simp [intOf];omega
      ·clear hzer hone
       go_wp2_with fail
       go_roundw
       case rel=>exact ⟨k+1,HJ.out,by go_num,hbel.trans (hbq.mono hbel.size)⟩
       case measure=>have :=HJ.out;simp [intOf];omega
   ·have hkn :k=O.length :=by omega
    subst hkn
    have v1 : ¬ ((O.length :Int) < (O.length :Int)) :=by omega
    have v2 : (A.length :Int) ≤ (O.length :Int) :=by have :=hlen.out;omega
    go_wp2
    go_ret
    exact ⟨rfl,hbw8.trans (hbel.mono hbw8.size)⟩
end Go.Proofs.YthehiijgnepcfaaGreat

