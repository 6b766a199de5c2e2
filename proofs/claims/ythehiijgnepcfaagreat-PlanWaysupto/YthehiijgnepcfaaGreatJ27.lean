/-
  5 texts of this proof in one, in build order: XWith, XOps2, XOps3, XApply, XFlat.
-/
import Derived.Laws.MakeOwn
import Derived.Test.YthehiijgnepcfaaGreatJ26
set_option linter.unusedSimpArgs false
set_option linter.unusedVariables false
namespace Go.Proofs.YthehiijgnepcfaaGreat
open Go.RowKit
theorem Aa2 {α :Type} {L :List α} {i :Nat} {x :α} (h :L[i]? =some x) :L.take (i+1) =L.take i++ [x] :=by rw [List.take_add_one,h];rfl
theorem Ajw {w0 w w' :World} {z :Value} {n :Nat} {xs :List Value} {C :Nat} (h :Below C w0 w) (hown :w.ownsRow C 171 1 z n xs) (hC :C≤w.heap.size) (hg :w.grownBy w' z.ownBlock) :Below C w0 w' :=h.trans (Dl hown hC hg)
set_option maxRecDepth 100000 in
set_option maxHeartbeats 4000000 in
theorem Pa (e :E) (v :Value) (C :Nat) (w :World) (he :IsE (fun k=>k<C) w e v) (hC :C≤w.heap.size) (hn :e.nodes≤16777216) :
  Calls Tryz.prog 122 #[v] w fun r w'=> ∃zv L P,r= .returned zv∧Dz 1 w' zv L.length P∧Qt (w.heap.size+1) w' L P∧Queue e L L.length∧Below w.heap.size w w'∧w.heap.size+1≤w'.heap.size :=by
 obtain ⟨i0,hi,hz0,hz1,hz2⟩ :=info_parts Ae9
 have H0 : ∃op xk xn xs s name n ao c l,e= .mk op ⟨xk,xn,xs⟩ s name n l∧v= .agg (Ae op ⟨xk,xn,xs⟩ s name n (.slice ao l.length c)) ∧Ff (fun k=>k<C) w (.slice ao l.length c) l :=by
  cases e with
  | mk op x s name n l=>
   obtain ⟨sv,h1,h2⟩ :=he.open
   obtain ⟨ao,c,rfl⟩ :=h2.shape
   obtain ⟨xk,xn,xs⟩ :=x
   exact ⟨op,xk,xn,xs,s,name,n,ao,c,l,rfl,h1,h2⟩
 obtain ⟨op,xk,xn,xs,s,name,n,ao,c,l,rfl,rfl,hes⟩ :=H0
 clear he
 have hb1 :Below w.heap.size w (w.alloc (.cells (Ae op ⟨xk,xn,xs⟩ s name n (.slice ao l.length c)) 34)) := (Below.refl _ _).alloc (Nat.le_refl _) _
 have hb2 :Below w.heap.size w ((w.alloc (.cells (Ae op ⟨xk,xn,xs⟩ s name n (.slice ao l.length c)) 34)).alloc (.cells #[.pointer (some ⟨w.heap.size,0,none⟩)] 171)) :=hb1.alloc (by simp) _
 have hp0 :O4 (w.heap.size+1) ((w.alloc (.cells (Ae op ⟨xk,xn,xs⟩ s name n (.slice ao l.length c)) 34)).alloc (.cells #[.pointer (some ⟨w.heap.size,0,none⟩)] 171)) (.mk op ⟨xk,xn,xs⟩ s name n l) (.pointer (some ⟨w.heap.size,0,none⟩)) :=by
  have hbl : ((w.alloc (.cells (Ae op ⟨xk,xn,xs⟩ s name n (.slice ao l.length c)) 34)).alloc (.cells #[.pointer (some ⟨w.heap.size,0,none⟩)] 171)).heap[w.heap.size]? =some (.cells (Ae op ⟨xk,xn,xs⟩ s name n (.slice ao l.length c)) 34) :=Ac (Ab w _) _
  refine ⟨w.heap.size,0,op,xk,xn,xs,s,name,n,ao,c,l,rfl,by omega,rfl,⟨Aa hbl rfl,Aa hbl rfl,Aa hbl rfl,Aa hbl rfl,Aa hbl rfl,Aa hbl rfl,Aa hbl rfl,Aa hbl rfl⟩, ?_⟩
  exact (hes.keep (Af (hb2.mono hC))).mono fun k _ hk=>by omega
 have hown0 : ((w.alloc (.cells (Ae op ⟨xk,xn,xs⟩ s name n (.slice ao l.length c)) 34)).alloc (.cells #[.pointer (some ⟨w.heap.size,0,none⟩)] 171)).ownsRow (w.heap.size+1) 171 1 (.slice (some ⟨w.heap.size+1,0,none⟩) 1 1) 1 [.pointer (some ⟨w.heap.size,0,none⟩)] :=by
  refine ⟨rfl, .inr ⟨w.heap.size+1,1,#[.pointer (some ⟨w.heap.size,0,none⟩)],rfl,Nat.le_refl _, ?_,Nat.le_refl _,by decide,rfl,rfl⟩⟩
  have :=Ab (w.alloc (.cells (Ae op ⟨xk,xn,xs⟩ s name n (.slice ao l.length c)) 34)) (.cells #[.pointer (some ⟨w.heap.size,0,none⟩)] 171)
  rwa [World.size_alloc] at this
 have HQ :=Yf (.mk op ⟨xk,xn,xs⟩ s name n l)
 generalize hE :E.mk op ⟨xk,xn,xs⟩ s name n l=e at hp0 HQ hn⊢
 clear hE
 go_enter Tryz.func122,Tryz.ntmps122
 go_wp2
 go_loopw [3,4] (fun z i wr=> ∃ (j :Nat) (L :List E) (P :List Value),i= .int .i64 j∧wr.ownsRow (w.heap.size+1) 171 1 z L.length P∧Hid (Queue e L j) ∧Qt (w.heap.size+1) wr L P∧Below w.heap.size w wr∧w.heap.size+1≤wr.heap.size) (fun _ i _=>e.nodes - (intOf i).toNat)
 case atStart=>exact ⟨0,[e],[.pointer (some ⟨w.heap.size,0,none⟩)],rfl,hown0,HQ,fun i x hi=>by
   match i,hi with
   | 0,hi=>simp at hi;subst hi;exact ⟨_,rfl,hp0⟩
   | i+1,hi=>simp at hi,hb2,by simp⟩
 case round=>
  obtain ⟨j,L,P,rfl,hown,HQj,hP,hbel,hsz⟩ :=hrel
  have hrow :=Dz.of_own hown
  have hlen :=HQj.out.len
  have hPl :P.length=L.length :=by have :=hown.1;omega
  by_cases hlt :j<L.length
  ·obtain ⟨x,hx⟩ : ∃x,L[j]? =some x := ⟨_,List.getElem?_eq_getElem hlt⟩
   obtain ⟨p,hp,hptr⟩ :=hP j x hx
   obtain ⟨b,o,op,xk,xn,xs,s,name,n,ao,c,l,rfl,hbC,rfl,⟨c0,c1,c2,c3,c4,c5,c6,c7⟩,hes⟩ :=hptr
   have HX :Hid (L[j]? =some (.mk op ⟨xk,xn,xs⟩ s name n l)) :=hx
   clear hx
   rcases hrow.2 with ⟨h1,_⟩ | ⟨_,zb,zo,zc,rfl,_,_,_,h3⟩
   ·omega
   have hzb :=h3 j _ hp
   clear h3
   have j0 : (0 :Int) ≤ (j :Int) :=by omega
   have j1 : (j :Int) < (L.length :Int) :=by omega
   have ha :=Jf op ⟨xk,xn,xs⟩ s name n ao c l wr hes hsz
   clear hp
   go_wp2_with (first | (go_at_call 74;refine ha.mono ?_;rintro e1 w1 ⟨ko,kc,rfl,hk1,hbk⟩))
   have hbw :Below w.heap.size w w1 :=hbel.trans (hbk.mono hbel.size)
   have hsz1 :w.heap.size+1≤w1.heap.size :=Nat.le_trans hsz hbk.size
   have hown1 :=Ar hown hbk
   have hP1 :=hP.keep (hbk.mono hsz)
   have hKl : (B6 op l).length≤2 :=Zi (.mk op ⟨xk,xn,xs⟩ s name n l)
   have HS :Hid (Queue e (L++B6 op l) (j+1)) :=HQj.out.step HX.out
   have hlen2 : (L++B6 op l).length≤e.nodes :=HS.out.len
   rw [List.length_append] at hlen2
   clear hown hP hes ha hbk hbel hsz HX HQj c0 c1 c2 c3 c4 c5 c6 c7 hrow hzb hb1 hb2 hown0 hp0 HQ hbC
   generalize B6 op l=K at hk1 HS hlen2 hKl
   go_loopw [3,23] (fun z k wr=> ∃ (m :Nat) (P' :List Value),m≤K.length∧k= .int .i64 m∧wr.ownsRow (w.heap.size+1) 171 1 z (L++K.take m).length P'∧Qt (w.heap.size+1) wr (L++K.take m) P'∧Below w.heap.size w wr∧w.heap.size+1≤wr.heap.size∧Ff (fun k=>k<w.heap.size+1) wr (.slice ko K.length kc) K) (fun _ k _=>K.length - (intOf k).toNat)
   case atStart=>exact ⟨0,P,Nat.zero_le _,rfl,by simpa using hown1,by simpa using hP1,hbw,hsz1,hk1⟩
   case round=>
    obtain ⟨m,P',hm,rfl,hown,hP,hbel,hsz,hk⟩ :=hrel
    have hPl' :Hid (P'.length= (L++K.take m).length) :=by show _=_;have :=hown.1;omega
    have hLm :Hid ((L++K.take m).length=L.length+m) :=by show _=_;rw [List.length_append,List.length_take,Nat.min_eq_left hm]
    rw [hLm.out] at hown
    by_cases hmk :m<K.length
    ·obtain ⟨y,hy⟩ : ∃y,K[m]? =some y := ⟨_,List.getElem?_eq_getElem hmk⟩
     obtain ⟨kb,kf,rfl⟩ : ∃kb kf,ko=some ⟨kb,kf,none⟩ :=by
      obtain ⟨cs,hr,_⟩ :=hk
      rcases hr.2 with ⟨h1,_⟩ | ⟨_,kb,kf,kc',h2,_⟩
      ·omega
      ·cases h2;exact ⟨kb,kf,rfl⟩
     have hptr :=Ae8 hk hy
     have HY :Hid (L++K.take (m+1) = (L++K.take m) ++ [y]) :=by show _=_;rw [Aa2 hy,List.append_assoc]
     have m0 : (0 :Int) ≤ (m :Int) :=by omega
     have m1 : (m :Int) < (K.length :Int) :=by omega
     obtain ⟨zo,zc,rfl⟩ := (Dz.of_own hown).shape
     have hown2 :=hown.alloc (.cells #[.pointer (some ⟨kb,kf+m*8,none⟩)] 171)
     have hB1 :Below w.heap.size w (wr.alloc (.cells #[.pointer (some ⟨kb,kf+m*8,none⟩)] 171)) :=hbel.alloc hbel.size _
     have hB2 :Below (w.heap.size+1) wr (wr.alloc (.cells #[.pointer (some ⟨kb,kf+m*8,none⟩)] 171)) := (Below.refl _ _).alloc hsz _
     have hbase :w.heap.size+1≤ (wr.alloc (.cells #[.pointer (some ⟨kb,kf+m*8,none⟩)] 171)).heap.size :=by rw [World.size_alloc];omega
     have hnew :=Cl wr [.pointer (some ⟨kb,kf+m*8,none⟩)] 171
     clear hy
     go_wp2_with (at_builtin;go_must (refine wpList_append_own _ rfl _ _ 169 rfl (w.heap.size+1) 171 i0 (.pointer none) 1 8 Tryz.underlying169 hi hz0 hz1 hz2 rfl (by decide) _ _ _ rfl hown2 ⟨wr.heap.size,0,none⟩ 1 1 [.pointer (some ⟨kb,kf+m*8,none⟩)] rfl rfl hnew (by simp;rfl) (by simp only [maxLen];omega) (by omega) hbase ?_))
     intro z2 w2 hown3 hg2 _
     have hap :=Dl hown2 hbase hg2
     have hb3 :Below (w.heap.size+1) wr w2 :=hB2.trans hap
     go_wp2
     go_roundw
     case rel=>
      refine ⟨m+1,P'++ [.pointer (some ⟨kb,kf+m*8,none⟩)],by omega,by go_num, ?_, ?_,hbel.trans (hb3.mono (by omega)),Nat.le_trans hbase hap.size,hk.keep (Af hb3)⟩
      ·rw [HY.out,List.length_append,hLm.out];exact hown3
      ·rw [HY.out];exact (hP.snoc hPl'.out hptr).keep hb3
     case measure=>simp [intOf];omega
    ·have hmK :m=K.length :=by omega
     subst hmK
     rw [←hLm.out,List.take_length] at hown
     rw [List.take_length] at hP
     go_wp2
     go_roundw
     case rel=>exact ⟨j+1,L++K,P',by go_num,hown,HS,hP,hbel,hsz⟩
     case measure=>simp [intOf];omega
  ·obtain ⟨zo,zc,rfl⟩ :=hrow.shape
   have hle :=HQj.out.le
   have hj :j=L.length :=by omega
   subst hj
   go_wp2
   go_ret
   exact ⟨_,L,P,rfl,hrow,hP,HQj.out,hbel,hsz⟩
end Go.Proofs.YthehiijgnepcfaaGreat

namespace Go.Proofs.YthehiijgnepcfaaGreat
open Go.RowKit
set_option maxRecDepth 100000 in
set_option maxHeartbeats 1000000 in
theorem Aa3 (op :Int) (x :V) (s name :Wd) (n :Int) (sv rv :Value) (row :List V) (w :World) (hr :Bp w rv row) (hn :row.length≤maxLen) (hsv : ∃ao k c,sv= .slice ao k c) :
  Calls Tryz.prog 126 #[.agg (Ae op x s name n sv),rv] w fun e w'=>e= .returned (Fk op x n row).val∧Below w.heap.size w w' :=by
 obtain ⟨ao,k,c,rfl⟩ :=hsv
 by_cases h1 :op=1
 ·subst h1
  obtain ⟨ro,rc,rfl⟩ :=hr.shape
  obtain ⟨xk,xn,xs⟩ :=x
  go_enter Tryz.func126,Tryz.ntmps126
  go_wp2
  exact bodyPost_ret (v := .agg #[.int .i64 xk, .int .i64 xn, .string xs]) (by simp [results,Tryz.results126,go_sem]) rfl ⟨rfl,((Below.refl _ _).alloc (Nat.le_refl _) _).alloc (by simp) _⟩
 by_cases h2 :op=2
 ·subst h2
  by_cases h0 :0≤n
  ·obtain ⟨m,rfl⟩ : ∃m :Nat,n=m := ⟨n.toNat,by omega⟩
   by_cases hm :m<row.length
   ·obtain ⟨v,hv⟩ : ∃v,row[m]? =some v := ⟨_,List.getElem?_eq_getElem hm⟩
    have E :Hid (Fk 2 x m row=v) :=by show _=_;simp [Fk,Gz,hv]
    rcases hr with ⟨_,rfl⟩ | ⟨b,off,cap,rfl,hb,hh⟩
    ·simp at hm
    obtain ⟨c0,c1,c2⟩ :=hh m v hv
    clear hh hv
    obtain ⟨vk,vn,vs⟩ :=v
    obtain ⟨xk,xn,xs⟩ :=x
    go_enter Tryz.func126,Tryz.ntmps126
    go_wp2
    rw [E.out]
    exact bodyPost_ret (v := .agg #[.int .i64 vk, .int .i64 vn, .string vs]) (by simp [results,Tryz.results126,go_sem]) rfl ⟨rfl,((Below.refl _ _).alloc (Nat.le_refl _) _).alloc (by simp) _⟩
   ·have E :Hid (Fk 2 x m row=zero) :=by show _=_;simp [Fk,Gz,List.getElem?_eq_none (by omega :row.length≤m)]
    obtain ⟨ro,rc,rfl⟩ :=hr.shape
    obtain ⟨xk,xn,xs⟩ :=x
    go_enter Tryz.func126,Tryz.ntmps126
    go_wp2
    rw [E.out]
    exact bodyPost_ret (v := .agg #[.int .i64 0, .int .i64 0, .string noW]) (by simp [results,Tryz.results126,go_sem]) rfl ⟨rfl,((Below.refl _ _).alloc (Nat.le_refl _) _).alloc (by simp) _⟩
  ·have E :Hid (Fk 2 x n row=zero) :=by show _=_;simp [Fk,Gz,h0]
   obtain ⟨ro,rc,rfl⟩ :=hr.shape
   obtain ⟨xk,xn,xs⟩ :=x
   go_enter Tryz.func126,Tryz.ntmps126
   go_wp2
   rw [E.out]
   exact bodyPost_ret (v := .agg #[.int .i64 0, .int .i64 0, .string noW]) (by simp [results,Tryz.results126,go_sem]) rfl ⟨rfl,((Below.refl _ _).alloc (Nat.le_refl _) _).alloc (by simp) _⟩
 have E :Hid (Fk op x n row=zero) :=by show _=_;simp [Fk,h1,h2]
 obtain ⟨ro,rc,rfl⟩ :=hr.shape
 obtain ⟨xk,xn,xs⟩ :=x
 go_enter Tryz.func126,Tryz.ntmps126
 go_wp2
 rw [E.out]
 exact bodyPost_ret (v := .agg #[.int .i64 0, .int .i64 0, .string noW]) (by simp [results,Tryz.results126,go_sem]) rfl ⟨rfl,((Below.refl _ _).alloc (Nat.le_refl _) _).alloc (by simp) _⟩
set_option maxRecDepth 100000 in
set_option maxHeartbeats 1000000 in
theorem Ac9 (op :Int) (a :V) (w :World) :Calls Tryz.prog 124 #[.int .i64 op,a.val] w fun e w'=>e= .returned (Hz op a).val∧Below w.heap.size w w' :=by
 have ho :=fun w=>L9 a w
 by_cases h9 :op=9
 ·subst h9
  have E :Hid (Hz 9 a=Dg (Mo (ofV a))) :=rfl
  generalize ofV a=o at E ho
  generalize Hz 9 a=r at E
  obtain ⟨k,n,s⟩ :=a
  simp only [V.val] at ho
  show Calls Tryz.prog 124 #[.int .i64 9, .agg #[.int .i64 k, .int .i64 n, .string s]] w _
  go_enter Tryz.func124,Tryz.ntmps124
  go_wp2_with (first | (go_at_call 11;refine (ho _).mono ?_;rintro e w1 ⟨rfl,hb1⟩) | (go_at_call 158;refine (Agk _ _).mono ?_;rintro e w2 ⟨rfl,rfl⟩) | (go_at_call 157;refine (Lj _ _).mono ?_;rintro e w3 ⟨rfl,hb3⟩;simp only [V.val];obtain ⟨hcc,hff⟩ :=C9 (Ad hb1 hb3)))
  rw [E.out]
  exact Ck _ Tryz.results124 rfl rfl (((Ad hb1 hb3).block _ (by simp)).trans (Aq _ _ _)) (Ad (Bb _ _ _) (Ad hb1 hb3)) (Nat.le_succ _)
 by_cases h10 :op=10
 ·subst h10
  have E :Hid (Hz 10 a=whV (decide (a.k=0))) :=rfl
  generalize Hz 10 a=r at E
  clear ho
  obtain ⟨k,n,s⟩ :=a
  show Calls Tryz.prog 124 #[.int .i64 10, .agg #[.int .i64 k, .int .i64 n, .string s]] w _
  go_enter Tryz.func124,Tryz.ntmps124
  go_wp2_with (first | (go_at_call 159;refine (Lt _ _).mono ?_;rintro e w3 ⟨rfl,hb3⟩;simp only [V.val];obtain ⟨hcc,hff⟩ :=C9 hb3))
  rw [E.out]
  exact Ck _ Tryz.results124 rfl rfl ((hb3.block _ (by simp)).trans (Aq _ _ _)) (Ad (Bb _ _ _) hb3) (Nat.le_succ _)
 have E :Hid (Hz op a=zero) :=by show _=_;simp [Hz,h9,h10]
 generalize Hz op a=r at E
 clear ho
 obtain ⟨k,n,s⟩ :=a
 show Calls Tryz.prog 124 #[.int .i64 op, .agg #[.int .i64 k, .int .i64 n, .string s]] w _
 go_enter Tryz.func124,Tryz.ntmps124
 go_wp2
 rw [E.out]
 exact bodyPost_ret (v := .agg #[.int .i64 0, .int .i64 0, .string noW]) (by simp [results,Tryz.results124,go_sem]) rfl ⟨rfl,Bb _ _ _⟩
theorem Afa {a b :Int} (h1 : -1000000≤a) (h2 :a≤1000000) (h3 : -1000000≤b) (h4 :b≤1000000) :IntKind.i64.wrap (a+b) =a+b∧IntKind.i64.wrap (a - b) =a - b :=by
 rw [IntKind.wrap_i64,IntKind.wrap_i64]
 omega
set_option maxRecDepth 100000 in
set_option maxHeartbeats 1000000 in
theorem Yu (op :Int) (a b :V) (w :World) (ha :Eg a=true) (hb :Eg b=true) (hk :a.k=b.k) :Calls Tryz.prog 163 #[.int .i64 op,a.val,b.val] w fun e w'=>e= .returned (knV op a b).val∧Below w.heap.size w w' :=by
 have hc :=fun w=>Xw a b w
 by_cases h5 :op=5
 ·subst h5
  have E :Hid (knV 5 a b=whV (decide (Dy a b=0))) :=rfl
  generalize Dy a b=c at E hc
  generalize knV 5 a b=r at E
  clear ha hb hk
  obtain ⟨k,n,s⟩ :=a
  obtain ⟨k',n',s'⟩ :=b
  simp only [V.val] at hc
  show Calls Tryz.prog 163 #[.int .i64 5, .agg #[.int .i64 k, .int .i64 n, .string s], .agg #[.int .i64 k', .int .i64 n', .string s']] w _
  go_enter Tryz.func163,Tryz.ntmps163
  go_wp2_with (first | (go_at_call 179;refine (hc _).mono ?_;rintro e w1 ⟨rfl,hb1⟩) | (go_at_call 159;refine (Lt _ _).mono ?_;rintro e w3 ⟨rfl,hb3⟩;simp only [V.val];obtain ⟨hcc,hff⟩ :=C9 (Ad hb1 hb3)))
  rw [E.out]
  exact Ck _ Tryz.results163 rfl rfl (((Ad hb1 hb3).block _ (by simp)).trans (A6 _ _ _ _)) (Ad (Cb _ _ _ _) (Ad hb1 hb3)) (by omega)
 by_cases h6 :op=6
 ·subst h6
  have E :Hid (knV 6 a b=whV (decide (Dy a b<0))) :=rfl
  generalize Dy a b=c at E hc
  generalize knV 6 a b=r at E
  clear ha hb hk
  obtain ⟨k,n,s⟩ :=a
  obtain ⟨k',n',s'⟩ :=b
  simp only [V.val] at hc
  show Calls Tryz.prog 163 #[.int .i64 6, .agg #[.int .i64 k, .int .i64 n, .string s], .agg #[.int .i64 k', .int .i64 n', .string s']] w _
  go_enter Tryz.func163,Tryz.ntmps163
  go_wp2_with (first | (go_at_call 179;refine (hc _).mono ?_;rintro e w1 ⟨rfl,hb1⟩) | (go_at_call 159;refine (Lt _ _).mono ?_;rintro e w3 ⟨rfl,hb3⟩;simp only [V.val];obtain ⟨hcc,hff⟩ :=C9 (Ad hb1 hb3)))
  rw [E.out]
  exact Ck _ Tryz.results163 rfl rfl (((Ad hb1 hb3).block _ (by simp)).trans (A6 _ _ _ _)) (Ad (Cb _ _ _ _) (Ad hb1 hb3)) (by omega)
 clear hc
 by_cases h1 :a.k=1
 ·have hn : -1000000≤a.n∧a.n≤1000000 :=by have :=ha;simp [Eg,good,h1] at this;exact ⟨this.1.1,this.1.2⟩
  have hn' : -1000000≤b.n∧b.n≤1000000 :=by have :=hb;rw [h1] at hk;simp [Eg,good,←hk] at this;exact ⟨this.1.1,this.1.2⟩
  obtain ⟨e1,e2⟩ :=Afa hn.1 hn.2 hn'.1 hn'.2
  clear hn hn' ha hb hk
  by_cases h3 :op=3
  ·subst h3
   have E :Hid (knV 3 a b=Jy (a.n+b.n)) :=by show _=_;simp [knV,h1]
   generalize knV 3 a b=r at E
   obtain ⟨k,n,s⟩ :=a
   obtain ⟨k',n',s'⟩ :=b
   simp only at h1 e1 e2
   subst h1
   show Calls Tryz.prog 163 #[.int .i64 3, .agg #[.int .i64 1, .int .i64 n, .string s], .agg #[.int .i64 k', .int .i64 n', .string s']] w _
   go_enter Tryz.func163,Tryz.ntmps163
   go_wp2_with (first | (go_at_call 180;refine (Py _ _).mono ?_;rintro e w3 ⟨rfl,hb3⟩;simp only [V.val];obtain ⟨hcc,hff⟩ :=C9 hb3))
   rw [E.out]
   exact Ck _ Tryz.results163 rfl rfl ((hb3.block _ (by simp)).trans (A6 _ _ _ _)) (Ad (Cb _ _ _ _) hb3) (by omega)
  by_cases h4 :op=4
  ·subst h4
   have E :Hid (knV 4 a b=Jy (a.n - b.n)) :=by show _=_;simp [knV,h1]
   generalize knV 4 a b=r at E
   obtain ⟨k,n,s⟩ :=a
   obtain ⟨k',n',s'⟩ :=b
   simp only at h1 e1 e2
   subst h1
   show Calls Tryz.prog 163 #[.int .i64 4, .agg #[.int .i64 1, .int .i64 n, .string s], .agg #[.int .i64 k', .int .i64 n', .string s']] w _
   go_enter Tryz.func163,Tryz.ntmps163
   go_wp2_with (first | (go_at_call 180;refine (Py _ _).mono ?_;rintro e w3 ⟨rfl,hb3⟩;simp only [V.val];obtain ⟨hcc,hff⟩ :=C9 hb3))
   rw [E.out]
   exact Ck _ Tryz.results163 rfl rfl ((hb3.block _ (by simp)).trans (A6 _ _ _ _)) (Ad (Cb _ _ _ _) hb3) (by omega)
  have E :Hid (knV op a b=zero) :=by show _=_;simp [knV,h3,h4,h5,h6]
  generalize knV op a b=r at E
  obtain ⟨k,n,s⟩ :=a
  obtain ⟨k',n',s'⟩ :=b
  simp only at h1
  subst h1
  show Calls Tryz.prog 163 #[.int .i64 op, .agg #[.int .i64 1, .int .i64 n, .string s], .agg #[.int .i64 k', .int .i64 n', .string s']] w _
  go_enter Tryz.func163,Tryz.ntmps163
  go_wp2
  rw [E.out]
  exact bodyPost_ret (v := .agg #[.int .i64 0, .int .i64 0, .string noW]) (by simp [results,Tryz.results163,go_sem]) rfl ⟨rfl,Cb _ _ _ _⟩
 have E :Hid (knV op a b=zero) :=by show _=_;simp [knV,h1,h5,h6]
 generalize knV op a b=r at E
 clear ha hb hk
 obtain ⟨k,n,s⟩ :=a
 obtain ⟨k',n',s'⟩ :=b
 simp only at h1
 have h1' : (k !=1) =true :=by simpa using h1
 show Calls Tryz.prog 163 #[.int .i64 op, .agg #[.int .i64 k, .int .i64 n, .string s], .agg #[.int .i64 k', .int .i64 n', .string s']] w _
 go_enter Tryz.func163,Tryz.ntmps163
 go_wp2
 rw [E.out]
 exact bodyPost_ret (v := .agg #[.int .i64 0, .int .i64 0, .string noW]) (by simp [results,Tryz.results163,go_sem]) rfl ⟨rfl,Cb _ _ _ _⟩
end Go.Proofs.YthehiijgnepcfaaGreat

namespace Go.Proofs.YthehiijgnepcfaaGreat
open Go.RowKit
set_option maxRecDepth 100000 in
set_option maxHeartbeats 2000000 in
theorem Ada (a b :V) (w :World) :Calls Tryz.prog 125 #[.int .i64 7,a.val,b.val] w fun e w'=>e= .returned (Eo 7 a b).val∧Below w.heap.size w w' :=by
 have ho :=fun w=>L9 a w
 have ho' :=fun w=>L9 b w
 have E :Hid (Eo 7 a b=Dg (Mn (ofV a) (ofV b))) :=rfl
 generalize ofV a=o at E ho
 generalize ofV b=o' at E ho'
 generalize Eo 7 a b=r at E
 obtain ⟨k,n,s⟩ :=a
 obtain ⟨k',n',s'⟩ :=b
 simp only [V.val] at ho ho'
 show Calls Tryz.prog 125 #[.int .i64 7, .agg #[.int .i64 k, .int .i64 n, .string s], .agg #[.int .i64 k', .int .i64 n', .string s']] w _
 go_enter Tryz.func125,Tryz.ntmps125
 go_wp2_with fail
 go_region_held3 (fun w'=>w'.cell? ⟨w.heap.size,0,none⟩ =some (.int .i64 k) ∧w'.cell? ⟨w.heap.size,1,none⟩ =some (.int .i64 n) ∧w'.cell? ⟨w.heap.size,2,none⟩ =some (.string s) ∧w'.cell? ⟨w.heap.size+1,0,none⟩ =some (.int .i64 k') ∧w'.cell? ⟨w.heap.size+1,1,none⟩ =some (.int .i64 n') ∧w'.cell? ⟨w.heap.size+1,2,none⟩ =some (.string s')) (first | (go_keep;done) | ((try dsimp only);(repeat' apply And.intro) <;> (rw [Av (by omega),Av (by omega),Av (by omega)];first | assumption | go_keep | simp_all)))
  (first | (go_at_call_of 11 (Value.agg #[.int .i64 k, .int .i64 n, .string s]);refine (ho _).mono ?_;rintro e w1 ⟨rfl,hb1⟩;obtain ⟨z1,q1,r1,s1,t1⟩ :=Fj hb1 (g :=w.heap.size) (by first | (simp;done) | assumption | (simp;omega) | omega)) | (go_at_call_of 11 (Value.agg #[.int .i64 k', .int .i64 n', .string s']);refine (ho' _).mono ?_;rintro e w2 ⟨rfl,hb2⟩;obtain ⟨z2,q2,r2,s2,t2⟩ :=Fj hb2 (g :=w.heap.size) (by first | (simp;done) | assumption | (simp;omega) | omega)) | (go_at_call 160;refine (Agj _ _ _).mono ?_;rintro e w' ⟨rfl,rfl⟩) | (go_at_call 157;refine (Lj _ _).mono ?_;rintro e w3 ⟨rfl,hb3⟩;simp only [V.val];obtain ⟨z3,q3,r3,s3,t3⟩ :=Fj hb3 (g :=w.heap.size) (by first | (simp;done) | assumption | (simp;omega) | omega)))
 go_wp2
 rw [E.out]
 exact Ck _ Tryz.results125 rfl rfl (((Ad hb1 (Ad hb2 hb3)).block _ (by simp)).trans (A6 _ _ _ _)) (Ad (Cb _ _ _ _).drew (Ad hb1 (Ad hb2 hb3))) (by omega)
set_option maxRecDepth 100000 in
set_option maxHeartbeats 2000000 in
theorem Afb (a b :V) (w :World) :Calls Tryz.prog 125 #[.int .i64 8,a.val,b.val] w fun e w'=>e= .returned (Eo 8 a b).val∧Below w.heap.size w w' :=by
 have ho :=fun w=>L9 a w
 have ho' :=fun w=>L9 b w
 have E :Hid (Eo 8 a b=Dg (tOr (ofV a) (ofV b))) :=rfl
 generalize ofV a=o at E ho
 generalize ofV b=o' at E ho'
 generalize Eo 8 a b=r at E
 obtain ⟨k,n,s⟩ :=a
 obtain ⟨k',n',s'⟩ :=b
 simp only [V.val] at ho ho'
 show Calls Tryz.prog 125 #[.int .i64 8, .agg #[.int .i64 k, .int .i64 n, .string s], .agg #[.int .i64 k', .int .i64 n', .string s']] w _
 go_enter Tryz.func125,Tryz.ntmps125
 go_wp2_with fail
 go_region_held3 (fun w'=>w'.cell? ⟨w.heap.size,0,none⟩ =some (.int .i64 k) ∧w'.cell? ⟨w.heap.size,1,none⟩ =some (.int .i64 n) ∧w'.cell? ⟨w.heap.size,2,none⟩ =some (.string s) ∧w'.cell? ⟨w.heap.size+1,0,none⟩ =some (.int .i64 k') ∧w'.cell? ⟨w.heap.size+1,1,none⟩ =some (.int .i64 n') ∧w'.cell? ⟨w.heap.size+1,2,none⟩ =some (.string s')) (first | (go_keep;done) | ((try dsimp only);(repeat' apply And.intro) <;> (rw [Av (by omega),Av (by omega),Av (by omega)];first | assumption | go_keep | simp_all)))
  (first | (go_at_call_of 11 (Value.agg #[.int .i64 k, .int .i64 n, .string s]);refine (ho _).mono ?_;rintro e w1 ⟨rfl,hb1⟩;obtain ⟨z1,q1,r1,s1,t1⟩ :=Fj hb1 (g :=w.heap.size) (by first | (simp;done) | assumption | (simp;omega) | omega)) | (go_at_call_of 11 (Value.agg #[.int .i64 k', .int .i64 n', .string s']);refine (ho' _).mono ?_;rintro e w2 ⟨rfl,hb2⟩;obtain ⟨z2,q2,r2,s2,t2⟩ :=Fj hb2 (g :=w.heap.size) (by first | (simp;done) | assumption | (simp;omega) | omega)) | (go_at_call 161;refine (Ah1 _ _ _).mono ?_;rintro e w' ⟨rfl,rfl⟩) | (go_at_call 157;refine (Lj _ _).mono ?_;rintro e w3 ⟨rfl,hb3⟩;simp only [V.val];obtain ⟨z3,q3,r3,s3,t3⟩ :=Fj hb3 (g :=w.heap.size) (by first | (simp;done) | assumption | (simp;omega) | omega)))
 go_wp2
 rw [E.out]
 exact Ck _ Tryz.results125 rfl rfl (((Ad hb1 (Ad hb2 hb3)).block _ (by simp)).trans (A6 _ _ _ _)) (Ad (Cb _ _ _ _).drew (Ad hb1 (Ad hb2 hb3))) (by omega)
set_option maxRecDepth 100000 in
set_option maxHeartbeats 2000000 in
theorem Adb (op :Int) (a b :V) (w :World) (ha :a.s.size≤maxLen) (hb :b.s.size≤maxLen) :Calls Tryz.prog 125 #[.int .i64 op,a.val,b.val] w fun e w'=>e= .returned (Eo op a b).val∧Below w.heap.size w w' :=by
 by_cases h7 :op=7
 ·subst h7;exact Ada a b w
 by_cases h8 :op=8
 ·subst h8;exact Afb a b w
 have ho :=fun w=>Un a w ha
 have ho' :=fun w=>Un b w hb
 clear ha hb
 by_cases h :Eg a=true∧Eg b=true∧a.k=b.k
 ·have E :Hid (Eo op a b=knV op a b) :=by show _=_;simp only [Eo,h7,h8,if_false];rw [if_pos h]
  have hk :=fun w=>Yu op a b w h.1 h.2.1 h.2.2
  generalize Eo op a b=r at E
  generalize knV op a b=q at E hk
  obtain ⟨h1,h2,h3⟩ :=h
  rw [h1] at ho
  rw [h2] at ho'
  clear h1 h2
  obtain ⟨k,n,s⟩ :=a
  obtain ⟨k',n',s'⟩ :=b
  simp only at h3
  subst h3
  simp only [V.val] at ho ho' hk
  show Calls Tryz.prog 125 #[.int .i64 op, .agg #[.int .i64 k, .int .i64 n, .string s], .agg #[.int .i64 k, .int .i64 n', .string s']] w _
  go_enter Tryz.func125,Tryz.ntmps125
  go_wp2_with (first | (go_at_call_of 162 (Value.agg #[.int .i64 k, .int .i64 n, .string s]);refine (ho _).mono ?_;rintro e w1 ⟨rfl,hb1⟩;obtain ⟨z1,q1,r1,s1,t1⟩ :=Fj hb1 (g :=w.heap.size) (by first | (simp;done) | assumption | (simp;omega) | omega)) | (go_at_call_of 162 (Value.agg #[.int .i64 k, .int .i64 n', .string s']);refine (ho' _).mono ?_;rintro e w2 ⟨rfl,hb2⟩;obtain ⟨z2,q2,r2,s2,t2⟩ :=Fj hb2 (g :=w.heap.size) (by first | (simp;done) | assumption | (simp;omega) | omega)) | (go_at_call 163;refine (hk _).mono ?_;rintro e w3 ⟨rfl,hb3⟩;obtain ⟨z3,q3,r3,s3,t3⟩ :=Fj hb3 (g :=w.heap.size) (by first | (simp;done) | assumption | (simp;omega) | omega)))
  rw [E.out]
  exact Ck _ Tryz.results125 rfl rfl (((Ad hb1 (Ad hb2 hb3)).block _ (by simp)).trans (A6 _ _ _ _)) (Ad (Cb _ _ _ _) (Ad hb1 (Ad hb2 hb3))) (by omega)
 have E :Hid (Eo op a b=zero) :=by show _=_;simp only [Eo,h7,h8,if_false];rw [if_neg h]
 generalize Eo op a b=r at E
 cases h1 :Eg a
 ·rw [h1] at ho
  clear h1 h ho'
  obtain ⟨k,n,s⟩ :=a
  obtain ⟨k',n',s'⟩ :=b
  simp only [V.val] at ho
  show Calls Tryz.prog 125 #[.int .i64 op, .agg #[.int .i64 k, .int .i64 n, .string s], .agg #[.int .i64 k', .int .i64 n', .string s']] w _
  go_enter Tryz.func125,Tryz.ntmps125
  go_wp2_with (first | (go_at_call_of 162 (Value.agg #[.int .i64 k, .int .i64 n, .string s]);refine (ho _).mono ?_;rintro e w1 ⟨rfl,hb1⟩;obtain ⟨z1,q1,r1,s1,t1⟩ :=Fj hb1 (g :=w.heap.size) (by first | (simp;done) | assumption | (simp;omega) | omega)))
  rw [E.out]
  exact Ck zero Tryz.results125 rfl rfl ((hb1.block _ (by simp)).trans (A6 _ _ _ _)) (Ad (Cb _ _ _ _) hb1) (by omega)
 rw [h1] at ho
 cases h2 :Eg b
 ·rw [h2] at ho'
  clear h1 h2 h
  obtain ⟨k,n,s⟩ :=a
  obtain ⟨k',n',s'⟩ :=b
  simp only [V.val] at ho ho'
  show Calls Tryz.prog 125 #[.int .i64 op, .agg #[.int .i64 k, .int .i64 n, .string s], .agg #[.int .i64 k', .int .i64 n', .string s']] w _
  go_enter Tryz.func125,Tryz.ntmps125
  go_wp2_with (first | (go_at_call_of 162 (Value.agg #[.int .i64 k, .int .i64 n, .string s]);refine (ho _).mono ?_;rintro e w1 ⟨rfl,hb1⟩;obtain ⟨z1,q1,r1,s1,t1⟩ :=Fj hb1 (g :=w.heap.size) (by first | (simp;done) | assumption | (simp;omega) | omega)) | (go_at_call_of 162 (Value.agg #[.int .i64 k', .int .i64 n', .string s']);refine (ho' _).mono ?_;rintro e w2 ⟨rfl,hb2⟩;obtain ⟨z2,q2,r2,s2,t2⟩ :=Fj hb2 (g :=w.heap.size) (by first | (simp;done) | assumption | (simp;omega) | omega)))
  rw [E.out]
  exact Ck zero Tryz.results125 rfl rfl (((Ad hb1 hb2).block _ (by simp)).trans (A6 _ _ _ _)) (Ad (Cb _ _ _ _) (Ad hb1 hb2)) (by omega)
 rw [h2] at ho'
 have h3 :a.k≠b.k :=fun e=>h ⟨h1,h2,e⟩
 clear h1 h2 h
 obtain ⟨k,n,s⟩ :=a
 obtain ⟨k',n',s'⟩ :=b
 simp only at h3
 have h3' : (k !=k') =true :=by simpa using h3
 simp only [V.val] at ho ho'
 show Calls Tryz.prog 125 #[.int .i64 op, .agg #[.int .i64 k, .int .i64 n, .string s], .agg #[.int .i64 k', .int .i64 n', .string s']] w _
 go_enter Tryz.func125,Tryz.ntmps125
 go_wp2_with (first | (go_at_call_of 162 (Value.agg #[.int .i64 k, .int .i64 n, .string s]);refine (ho _).mono ?_;rintro e w1 ⟨rfl,hb1⟩;obtain ⟨z1,q1,r1,s1,t1⟩ :=Fj hb1 (g :=w.heap.size) (by first | (simp;done) | assumption | (simp;omega) | omega)) | (go_at_call_of 162 (Value.agg #[.int .i64 k', .int .i64 n', .string s']);refine (ho' _).mono ?_;rintro e w2 ⟨rfl,hb2⟩;obtain ⟨z2,q2,r2,s2,t2⟩ :=Fj hb2 (g :=w.heap.size) (by first | (simp;done) | assumption | (simp;omega) | omega)))
 rw [E.out]
 exact Ck zero Tryz.results125 rfl rfl (((Ad hb1 hb2).block _ (by simp)).trans (A6 _ _ _ _)) (Ad (Cb _ _ _ _) (Ad hb1 hb2)) (by omega)
end Go.Proofs.YthehiijgnepcfaaGreat

namespace Go.Proofs.YthehiijgnepcfaaGreat
open Go.RowKit
set_option maxRecDepth 100000 in
set_option maxHeartbeats 2000000 in
theorem Adc (op :Int) (x :V) (s name :Wd) (n :Int) (ao :Option Addr) (k c :Nat) (a :V) (b off cap :Nat) (ro :Option Addr) (rl rc :Nat) (w :World) (hb :b<w.heap.size) (hh :Fl w b off [a]) :
  Calls Tryz.prog 75 #[.agg (Ae op x s name n (.slice ao k c)), .slice (some ⟨b,off,none⟩) 1 cap, .slice ro rl rc] w fun e w'=>e= .returned (Hz op a).val∧Below w.heap.size w w' :=by
 obtain ⟨c0,c1,c2⟩ :=hh 0 a rfl
 clear hh
 simp only [Nat.zero_mul,Nat.add_zero] at c0 c1 c2
 have ho :=fun w=>Ac9 op a w
 generalize Hz op a=r at ho
 obtain ⟨ak,an,at_⟩ :=a
 obtain ⟨xk,xn,xs⟩ :=x
 simp only [V.val] at ho
 have hne :b≠w.heap.size+1 :=by omega
 have hne0 :b≠w.heap.size :=by omega
 go_enter Tryz.func75,Tryz.ntmps75
 go_wp2_with fail
 go_region_held3 (fun w'=>w'.cell? ⟨w.heap.size,0,none⟩ =some (.int .i64 op) ∧w'.cell? ⟨b,off,none⟩ =some (.int .i64 ak) ∧w'.cell? ⟨b,off+1,none⟩ =some (.int .i64 an) ∧w'.cell? ⟨b,off+2,none⟩ =some (.string at_)) (first | (go_keep;done) | ((try dsimp only);(repeat' apply And.intro) <;> (rw [Av (by omega),Av (by omega),Av (by omega)];first | assumption | go_keep | simp_all)))
  (first | (go_at_call 124;refine (ho _).mono ?_;rintro e w1 ⟨rfl,hb1⟩;obtain ⟨z1,q1,r1,t1,s1⟩ :=Abw hb1 (g :=w.heap.size) (b :=b) (by first | (simp;done) | assumption | (simp;omega) | omega) hb))
 go_wp2
 exact Ck _ Tryz.results75 rfl rfl ((hb1.block _ (by simp)).trans (Aq _ _ _)) (Ad (Bb _ _ _).drew hb1) (by omega)
set_option maxRecDepth 100000 in
set_option maxHeartbeats 2000000 in
theorem Add (op :Int) (x :V) (s name :Wd) (n :Int) (ao :Option Addr) (k c :Nat) (a a' :V) (b off cap :Nat) (ro :Option Addr) (rl rc :Nat) (w :World) (hb :b<w.heap.size) (hh :Fl w b off [a,a']) (hs :a.s.size≤maxLen) (hs' :a'.s.size≤maxLen) :
  Calls Tryz.prog 75 #[.agg (Ae op x s name n (.slice ao k c)), .slice (some ⟨b,off,none⟩) 2 cap, .slice ro rl rc] w fun e w'=>e= .returned (Eo op a a').val∧Below w.heap.size w w' :=by
 obtain ⟨c0,c1,c2⟩ :=hh 0 a rfl
 obtain ⟨d0,d1,d2⟩ :=hh 1 a' rfl
 clear hh
 simp only [Nat.zero_mul,Nat.add_zero,Nat.one_mul] at c0 c1 c2 d0 d1 d2
 have ho :=fun w=>Adb op a a' w hs hs'
 generalize Eo op a a'=r at ho
 clear hs hs'
 obtain ⟨ak,an,at_⟩ :=a
 obtain ⟨bk,bn,bt⟩ :=a'
 obtain ⟨xk,xn,xs⟩ :=x
 simp only [V.val] at ho
 have hne :b≠w.heap.size+1 :=by omega
 have hne0 :b≠w.heap.size :=by omega
 go_enter Tryz.func75,Tryz.ntmps75
 go_wp2_with fail
 go_region_held3 (fun w'=>w'.cell? ⟨w.heap.size,0,none⟩ =some (.int .i64 op) ∧w'.cell? ⟨b,off,none⟩ =some (.int .i64 ak) ∧w'.cell? ⟨b,off+1,none⟩ =some (.int .i64 an) ∧w'.cell? ⟨b,off+2,none⟩ =some (.string at_) ∧w'.cell? ⟨b,off+3,none⟩ =some (.int .i64 bk) ∧w'.cell? ⟨b,off+3+1,none⟩ =some (.int .i64 bn) ∧w'.cell? ⟨b,off+3+2,none⟩ =some (.string bt)) (first | (go_keep;done) | ((try dsimp only);(repeat' apply And.intro) <;> (rw [Av (by omega),Av (by omega),Av (by omega)];first | assumption | go_keep | simp_all)))
  (first | (go_at_call 125;refine (ho _).mono ?_;rintro e w1 ⟨rfl,hb1⟩;obtain ⟨z1,q1,r1,t1,s1⟩ :=Abw hb1 (g :=w.heap.size) (b :=b) (by first | (simp;done) | assumption | (simp;omega) | omega) hb))
 go_wp2
 exact Ck _ Tryz.results75 rfl rfl ((hb1.block _ (by simp)).trans (Aq _ _ _)) (Ad (Bb _ _ _).drew hb1) (by omega)
set_option maxRecDepth 100000 in
set_option maxHeartbeats 2000000 in
theorem Sc (op :Int) (x :V) (s name :Wd) (n :Int) (ao :Option Addr) (k c :Nat) (av :Option Addr) (al ac :Nat) (rv :Value) (row :List V) (w :World) (hr :Bp w rv row) (hn :row.length≤maxLen) (h1 :al≠1) (h2 :al≠2) :
  Calls Tryz.prog 75 #[.agg (Ae op x s name n (.slice ao k c)), .slice av al ac,rv] w fun e w'=>e= .returned (Fk op x n row).val∧Below w.heap.size w w' :=by
 have ho :=fun w' (h :Below w.heap.size w w') =>Aa3 op x s name n (.slice ao k c) rv row w' (hr.below h) hn ⟨_,_,_,rfl⟩
 obtain ⟨ro,rc,rfl⟩ :=hr.shape
 generalize Fk op x n row=r at ho
 obtain ⟨xk,xn,xs⟩ :=x
 simp only [V.val] at ho
 have e1 : ((al :Int) ==1) =false :=by simp;omega
 have e2 : ((al :Int) ==2) =false :=by simp;omega
 go_enter Tryz.func75,Tryz.ntmps75
 go_wp2_with (first | (go_at_call 126;refine (ho _ (Bb _ _ _)).mono ?_;rintro e w1 ⟨rfl,hb1⟩;obtain ⟨hcc,hff⟩ :=C9 hb1))
 exact Ck _ Tryz.results75 rfl rfl ((hb1.block _ (by simp)).trans (Aq _ _ _)) (Ad (Bb _ _ _) hb1) (by omega)
theorem Uo (op :Int) (x :V) (s name :Wd) (n :Int) (ao :Option Addr) (k c :Nat) (av rv :Value) (cs row :List V) (w :World) (ha :Bp w av cs) (hs : ∀v∈cs,v.s.size≤maxLen) (hr :Bp w rv row) (hn :row.length≤maxLen) :
  Calls Tryz.prog 75 #[.agg (Ae op x s name n (.slice ao k c)),av,rv] w fun e w'=>e= .returned (Qk op x n cs row).val∧Below w.heap.size w w' :=by
 match cs,ha,hs with
 | [],ha,_=>
  obtain ⟨xo,xc,rfl⟩ :=ha.shape
  exact Sc op x s name n ao k c xo _ xc rv row w hr hn (by simp) (by simp)
 | [a],ha,_=>
  obtain ⟨ro,rc,rfl⟩ :=hr.shape
  rcases ha with ⟨_,h⟩ | ⟨b,off,cap,rfl,hb,hh⟩
  ·cases h
  ·exact Adc op x s name n ao k c a b off cap ro _ rc w hb hh
 | [a,a'],ha,hs=>
  obtain ⟨ro,rc,rfl⟩ :=hr.shape
  rcases ha with ⟨_,h⟩ | ⟨b,off,cap,rfl,hb,hh⟩
  ·cases h
  ·exact Add op x s name n ao k c a a' b off cap ro _ rc w hb hh (hs a (by simp)) (hs a' (by simp))
 | a ::b ::d ::r,ha,_=>
  obtain ⟨xo,xc,rfl⟩ :=ha.shape
  exact Sc op x s name n ao k c xo _ xc rv row w hr hn (by simp) (by simp)
end Go.Proofs.YthehiijgnepcfaaGreat

namespace Go.Proofs.YthehiijgnepcfaaGreat
open Go.RowKit
mutual
def Ci :E→Prop
 | .mk _ x _ _ _ l=>x.s.size≤maxLen∧Iy l
def Iy :List E→Prop
 | [] =>True
 | e ::l=>Ci e∧Iy l
end
theorem Xh : ∀ {l :List E} {e :E},Iy l→e∈l→Ci e
 | [],_,_,h=>by cases h
 | x ::l,e,h,he=>by
  rw [Iy] at h
  rcases List.mem_cons.1 he with rfl | he
  ·exact h.1
  ·exact Xh h.2 he
theorem Om {e :E} (h :Ci e) : ∀x∈e.kids,Ci x :=by
 cases e with
 | mk op x s name n l=>
  rw [Ci] at h
  intro y hy
  simp only [E.kids,B6] at hy
  split at hy
  ·exact Xh h.2 hy
  ·cases hy
theorem F8 :zero.s.size≤maxLen :=by simp [zero,ByteArray.size]
theorem Lu (n :Int) : (Dg n).s.size≤maxLen :=by unfold Dg;split<;>simp [zero,ByteArray.size]
theorem Qu (b :Bool) : (whV b).s.size≤maxLen :=by simp [whV,ByteArray.size]
theorem Up (n :Int) : (Jy n).s.size≤maxLen :=by unfold Jy;split<;>simp [zero,ByteArray.size]
theorem Ade (op :Int) (a :V) : (Hz op a).s.size≤maxLen :=by
 unfold Hz
 split
 ·exact Lu _
 ·split
  ·exact Qu _
  ·exact F8
theorem Afc (op :Int) (a b :V) : (knV op a b).s.size≤maxLen :=by
 unfold knV
 split
 ·exact Qu _
 ·split
  ·exact Qu _
  ·split
   ·split
    ·exact Up _
    ·split
     ·exact Up _
     ·exact F8
   ·exact F8
theorem Adf (op :Int) (a b :V) : (Eo op a b).s.size≤maxLen :=by
 unfold Eo
 split
 ·exact Lu _
 ·split
  ·exact Lu _
  ·split
   ·exact Afc _ _ _
   ·exact F8
theorem Aa4 (op :Int) (x :V) (n :Int) (row :List V) (hx :x.s.size≤maxLen) (hr : ∀v∈row,v.s.size≤maxLen) : (Fk op x n row).s.size≤maxLen :=by
 unfold Fk Gz
 split
 ·exact hx
 ·split
  ·split
   ·cases h :row[n.toNat]? with
    | none=>exact F8
    | some v=>exact hr v (List.mem_of_getElem? h)
   ·exact F8
  ·exact F8
theorem Xi (row :List V) (hr : ∀v∈row,v.s.size≤maxLen) (e :E) (h :Ci e) : (ev row e).s.size≤maxLen :=by
 cases e with
 | mk op x s name n l=>
  rw [Ci] at h
  rw [Id]
  unfold Qk
  split
  ·exact Ade _ _
  ·exact Adf _ _ _
  ·exact Aa4 op x n row h.1 hr
def Lv (row :List V) (L :List E) (r :Nat) (w :World) (g :Nat) :Prop :=
 ∃arr :Array Value,w.heap[g]? =some (.cells arr 32 (0,0)) ∧arr.size=L.length*3∧
  ∀ (j :Nat) (x :E),r≤j→L[j]? =some x→arr[j*3]? =some (.int .i64 (ev row x).k) ∧arr[j*3+1]? =some (.int .i64 (ev row x).n) ∧arr[j*3+2]? =some (.string (ev row x).s)
theorem Lv.keep {row :List V} {L :List E} {r :Nat} {w w' :World} {g :Nat} (h :Lv row L r w g) (hb :w'.heap[g]? =w.heap[g]?) :Lv row L r w' g :=by
 obtain ⟨arr,h1,h2⟩ :=h
 exact ⟨arr,hb.trans h1,h2⟩
theorem Lv.cell {row :List V} {L :List E} {r :Nat} {w :World} {g :Nat} (h :Lv row L r w g) {j :Nat} (hj :j<L.length*3) : ∃u,w.cell? ⟨g,j,none⟩ =some u :=by
 obtain ⟨arr,h1,h2,_⟩ :=h
 exact ⟨_,Aa h1 (Array.getElem?_eq_getElem (by omega :j<arr.size))⟩
theorem Lv.free {row :List V} {L :List E} {r :Nat} {w :World} {g :Nat} (h :Lv row L r w g) (o :Nat) :w.frozen? ⟨g,o,none⟩ =false :=by
 obtain ⟨arr,h1,_⟩ :=h
 simp [World.frozen?,h1]
theorem Lv.set {row :List V} {L :List E} {r :Nat} {w :World} {g :Nat} (h :Lv row L (r+1) w g) {x :E} (hx :L[r]? =some x) (v :V) (hv :v=ev row x) :
  Lv row L r (((w.setCell ⟨g,r*3,none⟩ (.int .i64 v.k)).setCell ⟨g,r*3+1,none⟩ (.int .i64 v.n)).setCell ⟨g,r*3+2,none⟩ (.string v.s)) g :=by
 obtain ⟨arr,h1,h2,h3⟩ :=h
 have hr :r<L.length := (List.getElem?_eq_some_iff.1 hx).1
 refine ⟨_,Do (Do (Do h1 _ _) _ _) _ _,by simp [h2],fun j y hj hy=> ?_⟩
 by_cases hjr :j=r
 ·subst hjr
  rw [hx] at hy
  cases hy
  subst hv
  refine ⟨?_, ?_, ?_⟩
  all_goals simp [Array.getElem?_setIfInBounds,h2];try omega
 ·obtain ⟨a0,a1,a2⟩ :=h3 j y (by omega) hy
  have n0 :r*3≠j*3 :=by omega
  have n1 :r*3+1≠j*3 :=by omega
  have n2 :r*3+2≠j*3 :=by omega
  have n3 :r*3≠j*3+1 :=by omega
  have n4 :r*3+1≠j*3+1 :=by omega
  have n5 :r*3+2≠j*3+1 :=by omega
  have n6 :r*3≠j*3+2 :=by omega
  have n7 :r*3+1≠j*3+2 :=by omega
  have n8 :r*3+2≠j*3+2 :=by omega
  refine ⟨?_, ?_, ?_⟩
  ·rw [Array.getElem?_setIfInBounds_ne n2,Array.getElem?_setIfInBounds_ne n1,Array.getElem?_setIfInBounds_ne n0];exact a0
  ·rw [Array.getElem?_setIfInBounds_ne n5,Array.getElem?_setIfInBounds_ne n4,Array.getElem?_setIfInBounds_ne n3];exact a1
  ·rw [Array.getElem?_setIfInBounds_ne n8,Array.getElem?_setIfInBounds_ne n7,Array.getElem?_setIfInBounds_ne n6];exact a2
theorem Lv.holds {row :List V} {e :E} {L :List E} {r :Nat} {w :World} {g :Nat} (h :Lv row L (r+1) w g) (hQ :Queue e L L.length) {x :E} (hx :L[r]? =some x) :Fl w g (beg L r*3) (x.kids.map (ev row)) :=by
 obtain ⟨arr,h1,h2,h3⟩ :=h
 intro i v hi
 rw [List.getElem?_map] at hi
 cases hk :x.kids[i]? with
 | none=>rw [hk] at hi;cases hi
 | some y=>
  rw [hk] at hi
  simp at hi
  subst hi
  have hr :r<L.length := (List.getElem?_eq_some_iff.1 hx).1
  have hb :=hQ.behind hr
  obtain ⟨a0,a1,a2⟩ :=h3 (beg L r+i) y (by omega) (hQ.at hx hk)
  have e0 :beg L r*3+i*3= (beg L r+i) *3 :=by omega
  rw [e0]
  exact ⟨Aa h1 a0,Aa h1 a1,Aa h1 a2⟩
theorem Afd : (Tryz.prog.info? 32).map (fun i=> (i.zero,i.size,i.bytes)) =some (some (.agg #[.int .i64 0, .int .i64 0, .string ⟨#[]⟩]),3,32) :=by kernel_rfl
set_option maxRecDepth 100000 in
set_option maxHeartbeats 4000000 in
theorem Xj (e :E) (v rv :Value) (row :List V) (C :Nat) (w :World) (he :IsE (fun k=>k<C) w e v) (hC :C≤w.heap.size) (hn :e.nodes≤16777216) (hf :Ci e) (hr :Bp w rv row) (hrs : ∀v∈row,v.s.size≤maxLen) (hrl :row.length≤maxLen) :
  Calls Tryz.prog 73 #[v,rv] w fun r w'=>r= .returned (ev row e).val∧Below w.heap.size w w' :=by
 obtain ⟨op,⟨xk,xn,xs⟩,s,name,n,ao,k,c,rfl⟩ :=he.shape
 obtain ⟨ro,rc,rfl⟩ :=hr.shape
 have hb2 :Below w.heap.size w ((w.alloc (.cells (Ae op ⟨xk,xn,xs⟩ s name n (.slice ao k c)) 34)).alloc (.cells #[.int .i64 0, .int .i64 0, .string noW] 32)) :=Bb _ _ _
 have hW :=Pa e _ C _ (IsE.keep (Af (hb2.mono hC)) e _ he) (Nat.le_trans hC hb2.size) hn
 go_enter Tryz.func73,Tryz.ntmps73
 go_wp2_with (first | (go_at_call 122;refine hW.mono ?_;rintro r1 w1 ⟨zv,L,P,rfl,hrow,hP,hQ,hb1,hsz1⟩;obtain ⟨zo,zc,rfl⟩ :=hrow.shape))
 obtain ⟨i0,hi,hz0,hz1,hz2⟩ :=info_parts Afd
 have hlen :L.length≤e.nodes :=hQ.len
 have hmk :=run_make (P :=Tryz.prog) w1 55 32 i0 (.agg #[.int .i64 0, .int .i64 0, .string ⟨#[]⟩]) Tryz.underlying55 hi hz0 .i64 .i64 L.length L.length (by omega) (Int.le_refl _) (by rw [hz2];omega) (by omega)
 rw [hz1,Int.toNat_natCast] at hmk
 rw [hmk]
 have hmade : (madeCells (Value.agg #[.int .i64 0, .int .i64 0, .string ⟨#[]⟩]).cells (L.length*3)).size=L.length*3 :=size_madeCells _ _
 generalize madeCells (Value.agg #[.int .i64 0, .int .i64 0, .string ⟨#[]⟩]).cells (L.length*3) =arr0 at hmade
 have hcame0 :Lv row L L.length (w1.alloc (.cells arr0 32)) w1.heap.size := ⟨arr0,Ab _ _,hmade,fun j x hj hx=>by rw [List.getElem?_eq_none hj] at hx;cases hx⟩
 clear hmk hi hz0 hz1 hz2 hmade
 have hbw :Below w.heap.size w w1 :=Ad hb2 hb1
 have hres :w1.heap[w.heap.size+1]? =some (.cells #[.int .i64 0, .int .i64 0, .string noW] 32) := (hb1.block _ (by simp)).trans (Aq _ _ _)
 have hr1 :=hr.below hbw
 have hfL :Hid (∀x∈L,Ci x) :=hQ.all Ci hf fun y hy=>Om hy
 have HQ :Hid (Queue e L L.length) :=hQ
 have HW :Hid (beg L L.length=L.length) :=hQ.whole
 have H1 :0<L.length :=by rw [hQ.eq];simp
 have H2 :L.length≤16777216 :=by omega
 generalize hC1 : ((w.alloc (.cells (Ae op ⟨xk,xn,xs⟩ s name n (.slice ao k c)) 34)).alloc (.cells #[.int .i64 0, .int .i64 0, .string noW] 32)).heap.size+1=C1 at hP hsz1
 clear hC1 hb1 hW hb2 he hr hQ hn hf
 go_wp2
 go_loopw [7,8] (fun en i wr=> ∃r :Nat,r≤L.length∧en= .int .i64 (beg L r :Nat) ∧i= .int .i64 ((r :Int) - 1) ∧Lv row L r wr w1.heap.size∧Below w1.heap.size w1 wr) (fun _ i _=> (intOf i+1).toNat)
 case atStart=>exact ⟨L.length,Nat.le_refl _,by rw [HW.out],rfl,hcame0,(Below.refl _ _).alloc (Nat.le_refl _) _⟩
 case round=>
  obtain ⟨r,hrL,rfl,rfl,hcame,hbel⟩ :=hrel
  match r,hrL,hcame with
  | 0,hrL,hcame=>
   have hfst :=HQ.out.first
   obtain ⟨arr,a1,a2,a3⟩ :=hcame
   obtain ⟨g0,g1,g2⟩ :=a3 0 e (Nat.le_refl _) hfst
   have c0 :=Aa a1 g0
   have c1 :=Aa a1 g1
   have c2 :=Aa a1 g2
   clear hfst a1 a2 a3 g0 g1 g2 HQ HW hfL
   generalize hz :ev row e=z at*
   obtain ⟨zk,zn,zs⟩ :=z
   simp only [Nat.zero_mul,Nat.zero_add] at c0 c1 c2
   have hlt1 :w.heap.size+1<w1.heap.size :=lt_of_block hres
   have hres' := (hbel.block _ hlt1).trans hres
   have k0 :=Aa hres' (j :=0) rfl
   have k1 :=Aa hres' (j :=1) rfl
   have k2 :=Aa hres' (j :=2) rfl
   have kf : ∀o,wr.frozen? ⟨w.heap.size+1,o,none⟩ =false :=fun o=>by simp [World.frozen?,hres']
   go_wp2
   rw [hz]
   exact Ck ⟨zk,zn,zs⟩ Tryz.results73 rfl rfl hres' (hbw.trans (hbel.mono hbw.size)) (by omega)
  | r+1,hrL,hcame=>
   obtain ⟨x,hx⟩ : ∃x,L[r]? =some x := ⟨_,List.getElem?_eq_getElem (by omega)⟩
   have hfx :=hfL.out x (List.mem_of_getElem? hx)
   obtain ⟨p,hp,hptr⟩ :=hP r x hx
   have hptr :=hptr.keep (hbel.mono hsz1)
   have HHV :Hid (Fl wr w1.heap.size (beg L r*3) (x.kids.map (ev row))) :=hcame.holds HQ.out hx
   have HBS :Hid (beg L (r+1) =beg L r+x.kids.length) :=Aeh hx
   have hble :=HQ.out.beg_le (r+1)
   rw [HBS.out] at hble⊢
   obtain ⟨b,o,op,xk,xn,xs,s,name,n,ao,c,l,rfl,hbC,rfl,⟨c0,c1,c2,c3,c4,c5,c6,c7⟩,hes⟩ :=hptr
   have HX :Hid (L[r]? =some (.mk op ⟨xk,xn,xs⟩ s name n l)) :=hx
   clear hx
   rcases hrow.2 with ⟨h1,_⟩ | ⟨_,zb,zf,zc',h2,hzlt,_,_,h3⟩
   ·omega
   cases h2
   have hzb := (hbel.cell (p := ⟨zb,zf+r,none⟩) hzlt).trans (h3 r _ hp)
   clear h3 hp
   have r0 : (0 :Int) ≤ (r :Int) :=by omega
   have r1 : (r :Int) < (L.length :Int) :=by omega
   have ha :=Jf op ⟨xk,xn,xs⟩ s name n ao c l wr hes (Nat.le_trans hsz1 hbel.size)
   rw [show (((r+1 :Nat) :Int) - 1) = (r :Int) from by omega]
   simp only [E.kids] at HHV hble⊢
   generalize hK :B6 op l=K at HHV hble ha⊢
   generalize hbg0 :beg L r=bg at HHV hble⊢
   have HBG :Hid (beg L r=bg) :=hbg0
   clear hbg0
   go_wp2_with (first | (go_at_call 74;refine ha.mono ?_;rintro e1 w2 ⟨ko,kc,rfl,hk1,hbk⟩))
   have hgr :w1.heap.size<wr.heap.size :=by obtain ⟨arr,a1,_⟩ :=hcame;exact lt_of_block a1
   have hcame2 :Lv row L (r+1) w2 w1.heap.size :=hcame.keep (hbk.block _ (by obtain ⟨arr,a1,_⟩ :=hcame;exact lt_of_block a1))
   have hg2 :w1.heap.size<w2.heap.size :=by obtain ⟨arr,a1,_⟩ :=hcame2;exact lt_of_block a1
   have hbel2 :Below w1.heap.size w1 w2 :=hbel.trans (hbk.mono hbel.size)
   obtain ⟨p1,p2,p3,p4⟩ :=Z9 (a :=zb) (b :=b) (g :=w1.heap.size) hbk (by omega) (by omega) (by omega)
   obtain ⟨u0,hu0⟩ :=hcame2.cell (j :=r*3) (by omega)
   obtain ⟨u1,hu1⟩ :=hcame2.cell (j :=r*3+1) (by omega)
   obtain ⟨u2,hu2⟩ :=hcame2.cell (j :=r*3+2) (by omega)
   have huf :=hcame2.free
   have d :=fun o=> (p1 o)
   have hcs :Bp w2 (.slice (if L.length=bg then some ⟨w1.heap.size,0,none⟩ else some ⟨w1.heap.size,bg*3,none⟩) K.length (L.length - bg)) (K.map (ev row)) :=by
    split
    ·have hK0 :K= [] :=List.eq_nil_of_length_eq_zero (by omega)
     subst hK0
     exact .inl ⟨⟨_,_,rfl,fun h=>by cases h⟩,rfl⟩
    ·exact .inr ⟨w1.heap.size,bg*3,L.length - bg,by rw [List.length_map],hg2,HHV.out.below (hbk.mono (Nat.le_refl _)) (by omega)⟩
   have hsm : ∀v∈K.map (ev row),v.s.size≤maxLen :=by
    intro v hv
    obtain ⟨y,hy,rfl⟩ :=List.mem_map.1 hv
    exact Xi row hrs y (Om hfx y (by simp only [E.kids];rw [hK];exact hy))
   have hap :=fun W (hW :Below w2.heap.size w2 W) =>Uo op ⟨xk,xn,xs⟩ s name n ao l.length c _ (.slice ro row.length rc) _ row W (hcs.below hW) hsm ((hr1.below hbel2).below hW) hrl
   have HEV :Hid (Qk op ⟨xk,xn,xs⟩ n (K.map (ev row)) row=ev row (.mk op ⟨xk,xn,xs⟩ s name n l)) :=by show _=_;rw [Id,hK]
   rw [HEV.out] at hap
   generalize hz :ev row (.mk op ⟨xk,xn,xs⟩ s name n l) =z at hap
   obtain ⟨zk,zn,zs⟩ :=z
   simp only [V.val] at hap
   rw [←p2] at c0 c1 c2 c3 c4 c5 c6 c7
   rw [←p1] at hzb
   clear p1 p2 p3 p4 d hsm hcs HEV HHV ha hk1 hes
   have s0 : (0 :Int) ≤ (bg :Int) :=by omega
   have s1 : (bg :Int) ≤ (bg :Int) + (K.length :Int) :=by omega
   have s2 : (bg :Int) + (K.length :Int) ≤ (L.length :Int) :=by omega
   have s3 : (0 :Int) ≤ (bg :Int) + (K.length :Int) :=by omega
   have s4 : ((bg :Int) + (K.length :Int)).toNat=bg+K.length :=by omega
   by_cases hcb :L.length=bg
   ·subst hcb
    have hK0 :K.length=0 :=by omega
    rw [if_pos (rfl :L.length=L.length),Nat.sub_self,hK0] at hap
    go_region_held3 (fun w'=>w'.cell? ⟨zb,zf+r,none⟩ =some (.pointer (some ⟨b,o,none⟩)) ∧w'.cell? ⟨b,o,none⟩ =some (.int .i64 op) ∧w'.cell? ⟨b,o+1,none⟩ =some (.int .i64 xk) ∧w'.cell? ⟨b,o+2,none⟩ =some (.int .i64 xn) ∧w'.cell? ⟨b,o+3,none⟩ =some (.string xs) ∧w'.cell? ⟨b,o+4,none⟩ =some (.string s) ∧w'.cell? ⟨b,o+5,none⟩ =some (.string name) ∧w'.cell? ⟨b,o+6,none⟩ =some (.int .i64 n) ∧w'.cell? ⟨b,o+7,none⟩ =some (.slice ao l.length c)) (first | (go_keep;done) | ((try dsimp only);(repeat' apply And.intro) <;> (rw [Av (by omega),Av (by omega),Av (by omega)];first | assumption | go_keep | simp_all)))
     (first | (go_at_call 75;refine (hap _ (Below.refl _ _).drew).mono ?_;rintro e2 w3 ⟨rfl,hb3⟩;obtain ⟨q1,q2,q3,q4⟩ :=Z9 (a :=zb) (b :=b) (g :=w1.heap.size) hb3 (show zb<w2.heap.size by omega) (show b<w2.heap.size by omega) hg2))
    go_wp2
    go_roundw
    case rel=>
     refine ⟨r,by omega,by rw [HBG.out],by go_num, ?_, ?_⟩
     ·exact (hcame2.keep (hb3.block _ hg2)).set HX.out ⟨zk,zn,zs⟩ hz.symm
     ·exact (((hbel2.drew.trans (hb3.mono (Nat.le_of_lt hg2))).setCell (Nat.le_refl _) _).setCell (Nat.le_refl _) _).setCell (Nat.le_refl _) _
    case measure=>simp [intOf]
   ·rw [if_neg hcb] at hap
    go_region_held3 (fun w'=>w'.cell? ⟨zb,zf+r,none⟩ =some (.pointer (some ⟨b,o,none⟩)) ∧w'.cell? ⟨b,o,none⟩ =some (.int .i64 op) ∧w'.cell? ⟨b,o+1,none⟩ =some (.int .i64 xk) ∧w'.cell? ⟨b,o+2,none⟩ =some (.int .i64 xn) ∧w'.cell? ⟨b,o+3,none⟩ =some (.string xs) ∧w'.cell? ⟨b,o+4,none⟩ =some (.string s) ∧w'.cell? ⟨b,o+5,none⟩ =some (.string name) ∧w'.cell? ⟨b,o+6,none⟩ =some (.int .i64 n) ∧w'.cell? ⟨b,o+7,none⟩ =some (.slice ao l.length c)) (first | (go_keep;done) | ((try dsimp only);(repeat' apply And.intro) <;> (rw [Av (by omega),Av (by omega),Av (by omega)];first | assumption | go_keep | simp_all)))
     (first | (go_at_call 75;refine (hap _ (Below.refl _ _).drew).mono ?_;rintro e2 w3 ⟨rfl,hb3⟩;obtain ⟨q1,q2,q3,q4⟩ :=Z9 (a :=zb) (b :=b) (g :=w1.heap.size) hb3 (show zb<w2.heap.size by omega) (show b<w2.heap.size by omega) hg2))
    go_wp2
    go_roundw
    case rel=>
     refine ⟨r,by omega,by rw [HBG.out],by go_num, ?_, ?_⟩
     ·exact (hcame2.keep (hb3.block _ hg2)).set HX.out ⟨zk,zn,zs⟩ hz.symm
     ·exact (((hbel2.drew.trans (hb3.mono (Nat.le_of_lt hg2))).setCell (Nat.le_refl _) _).setCell (Nat.le_refl _) _).setCell (Nat.le_refl _) _
    case measure=>simp [intOf]
end Go.Proofs.YthehiijgnepcfaaGreat

