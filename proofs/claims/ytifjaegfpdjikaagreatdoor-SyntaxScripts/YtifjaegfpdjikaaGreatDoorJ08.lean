/-
  3 texts of this proof in one, in build order: SChain, SSum, SAtom.
-/
import Derived.Deep.LoopGhost
import Derived.Deep.RegionWith
import Derived.Test.YtifjaegfpdjikaaGreatDoorJ07
set_option linter.unusedSimpArgs false
set_option linter.unusedVariables false
namespace Go.Proofs.YtifjaegfpdjikaaGreatDoor
open Go.RowKit
theorem M2 {p :St→E×St} {ops :List (Wd×Int)} {f :Nat} {e :E} {s :St} (hz : ∀o∈ops,o.2≠0) (h : (Ao ops s).1=0) :Bh p ops f e s= (e,(Ao ops s).2) :=by
 cases f with
 | zero=>rw [Lg hz h];rfl
 | succ f=>rw [Bh,if_pos h]
theorem Px {p :St→E×St} {ops :List (Wd×Int)} {f :Nat} {e :E} {s :St} (hp : ∀s,Aw (p s).2≤Aw s) (h : (Ao ops s).1≠0) (hf :Aw s≤f) :
  ∃f',f'<f∧Bh p ops f e s=Bh p ops f' (Cd (Ao ops s).1 [e,(p (Ao ops s).2).1]) (p (Ao ops s).2).2∧Aw (p (Ao ops s).2).2≤f' :=by
 have h1 :=Qs h
 have h2 :=hp (Ao ops s).2
 cases f with
 | zero=>omega
 | succ f=>exact ⟨f,by omega,by rw [Bh,if_neg h],by omega⟩
abbrev FL (n L :Nat) :Nat→Prop :=fun k=>n<k∧k≠L
theorem M3 {w :World} {b :Nat} {arr :Array Value} {t :TypeId} (h :w.heap[b]? =some (.cells arr t)) {u0 u1 u2 u3 u4 u5 u6 u7 v0 v1 v2 v3 v4 v5 v6 v7 :Value} (ha :arr= #[u0,u1,u2,u3,u4,u5,u6,u7]) :
  (set8 w b v0 v1 v2 v3 v4 v5 v6 v7).heap[b]? =some (.cells #[v0,v1,v2,v3,v4,v5,v6,v7] t) :=by
 subst ha
 have st : ∀ {w :World} {c :Array Value} (i :Nat) (v :Value),w.heap[b]? =some (.cells c t) → (w.setCell ⟨b,i,none⟩ v).heap[b]? =some (.cells (c.setIfInBounds i v) t) :=by
  intro w c i v h
  simp only [World.setCell,Array.getElem?_modify,if_true,h];rfl
 have g :=st 7 v7 (st 6 v6 (st 5 v5 (st 4 v4 (st 3 v3 (st 2 v2 (st 1 v1 (st 0 v0 h)))))))
 simp only [List.setIfInBounds_toArray,List.set_cons_succ,List.set_cons_zero] at g
 exact g
theorem M4 {w :World} {b :Nat} {x :Obj} (h :w.heap[b]? =some x) {c :Nat} (hn :b≠c) (v0 v1 v2 v3 v4 v5 v6 v7 :Value) : (set8 w c v0 v1 v2 v3 v4 v5 v6 v7).heap[b]? =some x :=
 Aj (Aj (Aj (Aj (Aj (Aj (Aj (Aj h hn _ _) hn _ _) hn _ _) hn _ _) hn _ _) hn _ _) hn _ _) hn _ _
def Iq (w :World) (b :Nat) (ops :List (Wd×Int)) :Prop := ∀i o,ops[i]? =some o→w.cell? ⟨b,i*2,none⟩ =some (.string o.1) ∧w.cell? ⟨b,i*2+1,none⟩ =some (.int .i64 o.2)
theorem Iq.but {a :Nat} {w w' :World} {b :Nat} {ops :List (Wd×Int)} (h :Iq w b ops) (hb :But a w w') (hn :b≠a) :Iq w' b ops :=
 fun i o ho=> ⟨Jw hb (h i o ho).1 hn,Jw hb (h i o ho).2 hn⟩
set_option maxHeartbeats 4000000 in
theorem Xp (p :St→E×St) (ops :List (Wd×Int)) (d :Int) (hp :De 124 p d) (hs : ∀s,Aw (p s).2≤Aw s) (hz : ∀o∈ops,o.2≠0) (hk : ∀o∈ops,0<o.1.size) (hl :ops.length≤1000)
  (a :Nat) (s :St) (w :World) (h :Rd w a s d) (he :Env w) (ha :16≤a) (b cap :Nat) (hba :b≠a) (ho :Iq w b ops) :
  Calls Tryz.prog 97 #[.pointer (some ⟨a,0,none⟩), .func (.func 124) #[.pointer (some ⟨a,0,none⟩)] #[], .slice (some ⟨b,0,none⟩) ops.length cap] w fun e w'=> ∃v,e= .returned v∧IsE (Fr w.heap.size) w' (Dp p ops s).1 v∧Rd w' a (Dp p ops s).2 d∧But a w w' :=by
 generalize hW :w.alloc (.cells Ap 37) =W
 have HW :Hid _ :=hW
 have hb0 :Below w.heap.size w W :=by rw [←hW];exact (Below.refl _ _).alloc (Nat.le_refl _) _
 have b0 :W.heap[w.heap.size]? =some (.cells Ap 37) :=by rw [←hW];exact Ad w _
 have hWs :W.heap.size=w.heap.size+1 :=by rw [←hW,World.size_alloc]
 clear hW
 have hla :=h.lt
 have ne0 :w.heap.size≠a :=by omega
 have hB0 :But a w W := .of_below hb0
 have P1 :=hp a s W (h.below hb0) (he.next hb0) ha
 have hch :Dp p ops s=Bh p ops (Aw (p s).2) (p s).1 (p s).2 :=rfl
 generalize Dp p ops s=R at hch⊢
 have hss :=hs s
 generalize p s=q at P1 hch
 obtain ⟨E1,s1⟩ :=q
 simp only at P1 hch
 have HCH :Hid _ :=hch
 have HO :Hid _ :=ho
 have HP :Hid _ :=hp
 have HS :Hid _ :=hs
 have HZ :Hid _ :=hz
 have HK :Hid _ :=hk
 clear hch ho hp hs hz hk
 go_enter Tryz.func97,Tryz.ntmps97
 go_wp2_with fail
 rw [HW.out]
 go_wp2_with (first
  | (go_at_call 124;go_must (go_fit P1;rintro e w1 ⟨v1,rfl,hE1,hr1,hb1⟩;obtain ⟨op,x,xs,nmv,n,ao,k,c,rfl⟩ :=hE1.shape;obtain ⟨xk,xn,xs2⟩ :=x;have hbx :Below w1.heap.size w1 (w1.alloc (.cells #[.int .i64 op, .int .i64 xk, .int .i64 xn, .string xs2, .string xs, .string nmv, .int .i64 n, .slice ao k c] 37)) := (Below.refl _ _).alloc (Nat.le_refl _) _;have SK :=El a b cap ops s1 d _ (hr1.below hbx) HK.out hba (Iq.but (a :=a) HO.out ((hB0.trans hb1).trans (.of_below hbx)) hba) hl))
  | (go_at_call 109;go_must (go_fit SK;rintro e w2 ⟨rfl,hr2,hb2⟩)))
 have hB1 :=hB0.trans hb1
 have hL0 :W.heap.size≤w1.heap.size :=hb1.size
 have bL :=Ac hb2 (Ad w1 (.cells #[.int .i64 op, .int .i64 xk, .int .i64 xn, .string xs2, .string xs, .string nmv, .int .i64 n, .slice ao k c] 37)) (show w1.heap.size≠a by omega)
 have bR :=Ac hb2 (Ae (Ac hb1 b0 ne0) (.cells #[.int .i64 op, .int .i64 xk, .int .i64 xn, .string xs2, .string xs, .string nmv, .int .i64 n, .slice ao k c] 37)) ne0
 have hB2 :But a w w2 := (hB1.trans (.of_below hbx)).trans hb2
 have hE2 :IsE (FL w.heap.size w1.heap.size) w2 E1 (.agg (A2 op ⟨xk,xn,xs2⟩ xs nmv n (.slice ao k c))) :=
  IsE.keep (((Keeps.refl _ _).alloc _).trans (hb2.keeps (by show ¬ (w.heap.size<a∧_);omega))) _ _ (IsE.mono (fun k h1 h2=>by have :W.heap.size≤k :=h2;exact ⟨by omega,by omega⟩) _ _ hE1)
 have hLL :w.heap.size<w1.heap.size :=by omega
 generalize w1.heap.size=L at bL hE2 hLL
 clear hb1 hE1 hr1 hb2 hbx hB1 hL0 SK P1 b0 hb0
 go_loopg [8] (Aw s1) (fun f o wr=> ∃σ e op x xs nmv n ao k c,o= .int .i64 (Ao ops σ).1∧Rd wr a (Ao ops σ).2 d∧Hid (R=Bh p ops f e σ∧Aw σ≤f) ∧wr.heap[L]? =some (.cells (A2 op x xs nmv n (.slice ao k c)) 37) ∧wr.heap[w.heap.size]? =some (.cells Ap 37) ∧IsE (FL w.heap.size L) wr e (.agg (A2 op x xs nmv n (.slice ao k c))) ∧But a w wr)
 case atStart=>exact ⟨s1,E1,op,⟨xk,xn,xs2⟩,xs,nmv,n,ao,k,c,rfl,hr2,⟨HCH.out,Nat.le_refl _⟩,bL,bR,hE2,hB2⟩
 case round=>
  clear bL bR hE2 hB2 hr2 HCH
  obtain ⟨σ,e,op,x,xs,nmv,n,ao,k,c,rfl,hrd,HF,hLb,hRb,hE,hBut⟩ :=hrel
  obtain ⟨xk,xn,xs2⟩ :=x
  have HE :Hid _ :=hE
  have HSK :Hid (((Ao ops σ).1=0→Bh p ops gk e σ= (e,(Ao ops σ).2)) ∧ ((Ao ops σ).1≠0→Aw σ≤gk→ ∃f',f'<gk∧Bh p ops gk e σ=Bh p ops f' (Cd (Ao ops σ).1 [e,(p (Ao ops σ).2).1]) (p (Ao ops σ).2).2∧Aw (p (Ao ops σ).2).2≤f')) := ⟨M2 HZ.out,fun h1 h2=>Px HS.out h1 h2⟩
  generalize Ao ops σ=q at hrd HSK
  obtain ⟨o1,s2⟩ :=q
  simp only at hrd HSK
  obtain ⟨l0,l1,l2,l3,l4,l5,l6,l7⟩ :=Cq hLb rfl
  by_cases ho0 :o1=0
  ·subst ho0
   have HFin :Hid (R= (e,s2)) :=HF.out.1.trans (HSK.out.1 rfl)
   obtain ⟨q0,q1,q2,q3,q4,q5,q6,q7⟩ :=Cq hRb rfl
   have f0 :=Ab hRb 0
   have f1 :=Ab hRb 1
   have f2 :=Ab hRb 2
   have f3 :=Ab hRb 3
   have f4 :=Ab hRb 4
   have f5 :=Ab hRb 5
   have f6 :=Ab hRb 6
   have f7 :=Ab hRb 7
   clear HF HSK
   go_wp2_with fail
   refine bodyPost_ret (v := .agg #[.int .i64 op, .int .i64 xk, .int .i64 xn, .string xs2, .string xs, .string nmv, .int .i64 n, .slice ao k c]) (by simp [results,Tryz.results97,go_sem,q0,q1,q2,q3,q4,q5,q6,q7]) rfl ⟨_,rfl, ?_, ?_, ?_⟩
   ·rw [HFin.out]
    exact IsE.mono (fun k _ hk=>by have :w.heap.size<k :=hk.1;show w.heap.size≤k;omega) _ _ (IsE.keep ((Keeps.refl _ _).set8 (by show ¬ (w.heap.size<w.heap.size∧_);omega) _ _ _ _ _ _ _ _) _ _ HE.out)
   ·rw [HFin.out]
    exact hrd.set8 ne0 _ _ _ _ _ _ _ _
   ·exact hBut.set8 (Nat.le_refl _) _ _ _ _ _ _ _ _
  ·obtain ⟨f',hf',HNx⟩ : ∃f',f'<gk∧Hid (R=Bh p ops f' (Cd o1 [e,(p s2).1]) (p s2).2∧Aw (p s2).2≤f') :=by
    obtain ⟨f',h1,h2,h3⟩ :=HSK.out.2 ho0 HF.out.2
    exact ⟨f',h1,HF.out.1.trans h2,h3⟩
   clear HF HSK
   have hLs :=lt_of_block hLb
   have P2 :=HP.out a s2 wr.drew hrd.drew (he.but hBut.drew ha) ha
   have hnz : (o1==0) =false :=beq_eq_false_iff_ne.2 ho0
   have hob :Iq wr b ops :=Iq.but HO.out hBut hba
   generalize p s2=q at P2 HNx
   obtain ⟨E2,s3⟩ :=q
   simp only at P2 HNx
   have hneL :L≠a :=by omega
   go_wp2_with fail
   go_region_with (first
    | (go_at_call 124;go_must (go_fit P2;rintro e' w3 ⟨v2,rfl,hE3,hr3,hb3⟩;obtain ⟨op2,x2,xs3,nm2,n2,ao2,k2,c2,rfl⟩ :=hE3.shape;obtain ⟨xk2,xn2,xs4⟩ :=x2;have hL3 :=Ac hb3 hLb hneL;obtain ⟨m0,m1,m2,m3,m4,m5,m6,m7⟩ :=Cq hL3 rfl))
    | (go_at_call 110;go_must (refine (J0 _ _ _ _ _).mono ?_;rintro e' w4 ⟨rfl,hb4⟩;have hL4 := (hb4.block _ (lt_of_block (Ae hL3 _))).trans (Ae hL3 _);obtain ⟨y0,y1,y2,y3,y4,y5,y6,y7⟩ :=Cq hL4 rfl;have z0 :=Ab hL4 0;have z1 :=Ab hL4 1;have z2 :=Ab hL4 2;have z3 :=Ab hL4 3;have z4 :=Ab hL4 4;have z5 :=Ab hL4 5;have z6 :=Ab hL4 6;have z7 :=Ab hL4 7)))
   all_goals
    have hbn :Below w3.heap.size w3 w4 := ((Below.refl _ _).alloc (Nat.le_refl _) _).trans (hb4.mono (by simp))
    have hrn := (hr3.below hbn).set8 hneL (.int .i64 o1) (.int .i64 zero.k) (.int .i64 zero.n) (.string zero.s) (.string noW) (.string noW) (.int .i64 0) (.slice (some ⟨w3.heap.size,0,none⟩) 2 2)
    have hsub :wr.heap.size≤w3.heap.size :=hb3.size
    have hB3 :But a w (set8 w4 L (.int .i64 o1) (.int .i64 zero.k) (.int .i64 zero.n) (.string zero.s) (.string noW) (.string noW) (.int .i64 0) (.slice (some ⟨w3.heap.size,0,none⟩) 2 2)) := ((hBut.drew.trans hb3).trans (.of_below hbn)).set8 (by omega) _ _ _ _ _ _ _ _
    have SK5 :=El a b cap ops s3 d _ hrn HK.out hba (Iq.but HO.out hB3 hba) hl
    have HEn :Hid (IsE (FL w.heap.size L) (set8 w4 L (.int .i64 o1) (.int .i64 zero.k) (.int .i64 zero.n) (.string zero.s) (.string noW) (.string noW) (.int .i64 0) (.slice (some ⟨w3.heap.size,0,none⟩) 2 2)) (Cd o1 [e,E2]) (.agg (A2 o1 zero noW noW 0 (.slice (some ⟨w3.heap.size,0,none⟩) 2 2)))) :=by
     have nFL : ¬FL w.heap.size L L :=by intro h;exact h.2 rfl
     have nFa : ¬FL w.heap.size L a :=by intro h;have :=h.1;omega
     have g1 :IsE (FL w.heap.size L) w3 e (.agg (A2 op ⟨xk,xn,xs2⟩ xs nmv n (.slice ao k c))) :=IsE.keep (hb3.keeps nFa) _ _ (show IsE (FL w.heap.size L) wr.drew _ _ from IsE.keep (Keeps.drew (Keeps.refl _ _)) _ _ HE.out)
     have g2 :IsE (FL w.heap.size L) w3 E2 (.agg (A2 op2 ⟨xk2,xn2,xs4⟩ xs3 nm2 n2 (.slice ao2 k2 c2))) :=IsE.mono (fun k h1 h2=>by have :wr.heap.size≤k :=h2;exact ⟨by omega,by omega⟩) _ _ hE3
     have g3 :=Jz g1 g2 (show FL w.heap.size L w3.heap.size from ⟨by omega,by omega⟩)
     exact IsE.keep ((Bb hb4).set8 nFL _ _ _ _ _ _ _ _) _ _ (Ha g3)
    have hL5 : (set8 w4 L (.int .i64 o1) (.int .i64 zero.k) (.int .i64 zero.n) (.string zero.s) (.string noW) (.string noW) (.int .i64 0) (.slice (some ⟨w3.heap.size,0,none⟩) 2 2)).heap[L]? =some (.cells (A2 o1 zero noW noW 0 (.slice (some ⟨w3.heap.size,0,none⟩) 2 2)) 37) :=M3 hL4 rfl
    have hR5 :=M4 ((hbn.block _ (by omega)).trans (Ac hb3 (w :=wr.drew) hRb ne0)) (show w.heap.size≠L by omega) (.int .i64 o1) (.int .i64 zero.k) (.int .i64 zero.n) (.string zero.s) (.string noW) (.string noW) (.int .i64 0) (.slice (some ⟨w3.heap.size,0,none⟩) 2 2)
    clear l0 l1 l2 l3 l4 l5 l6 l7 m0 m1 m2 m3 m4 m5 m6 m7 y0 y1 y2 y3 y4 y5 y6 y7 z0 z1 z2 z3 z4 z5 z6 z7 hE3
    go_wp2_with (go_at_call 109;go_must (go_fit SK5;rintro e' w6 ⟨rfl,hr6,hb6⟩))
    go_roundg f'
    case measure=>exact hf'
    case rel=>exact ⟨s3,Cd o1 [e,E2],o1,zero,noW,noW,0,_,_,_,rfl,hr6,HNx,Ac hb6 hL5 hneL,Ac hb6 hR5 ne0,IsE.keep (hb6.keeps (by show ¬ (w.heap.size<a∧_);omega)) _ _ HEn.out,hB3.trans hb6⟩
set_option maxHeartbeats 4000000 in
theorem Xq (p :St→E×St) (ops :List (Wd×Int)) (d :Int) (hp :De 111 p d) (hs : ∀s,Aw (p s).2≤Aw s) (hz : ∀o∈ops,o.2≠0) (hk : ∀o∈ops,0<o.1.size) (hl :ops.length≤1000)
  (a :Nat) (s :St) (w :World) (h :Rd w a s d) (he :Env w) (ha :16≤a) (b cap :Nat) (hba :b≠a) (ho :Iq w b ops) :
  Calls Tryz.prog 97 #[.pointer (some ⟨a,0,none⟩), .func (.func 111) #[.pointer (some ⟨a,0,none⟩)] #[], .slice (some ⟨b,0,none⟩) ops.length cap] w fun e w'=> ∃v,e= .returned v∧IsE (Fr w.heap.size) w' (Dp p ops s).1 v∧Rd w' a (Dp p ops s).2 d∧But a w w' :=by
 generalize hW :w.alloc (.cells Ap 37) =W
 have HW :Hid _ :=hW
 have hb0 :Below w.heap.size w W :=by rw [←hW];exact (Below.refl _ _).alloc (Nat.le_refl _) _
 have b0 :W.heap[w.heap.size]? =some (.cells Ap 37) :=by rw [←hW];exact Ad w _
 have hWs :W.heap.size=w.heap.size+1 :=by rw [←hW,World.size_alloc]
 clear hW
 have hla :=h.lt
 have ne0 :w.heap.size≠a :=by omega
 have hB0 :But a w W := .of_below hb0
 have P1 :=hp a s W (h.below hb0) (he.next hb0) ha
 have hch :Dp p ops s=Bh p ops (Aw (p s).2) (p s).1 (p s).2 :=rfl
 generalize Dp p ops s=R at hch⊢
 have hss :=hs s
 generalize p s=q at P1 hch
 obtain ⟨E1,s1⟩ :=q
 simp only at P1 hch
 have HCH :Hid _ :=hch
 have HO :Hid _ :=ho
 have HP :Hid _ :=hp
 have HS :Hid _ :=hs
 have HZ :Hid _ :=hz
 have HK :Hid _ :=hk
 clear hch ho hp hs hz hk
 go_enter Tryz.func97,Tryz.ntmps97
 go_wp2_with fail
 rw [HW.out]
 go_wp2_with (first
  | (go_at_call 111;go_must (go_fit P1;rintro e w1 ⟨v1,rfl,hE1,hr1,hb1⟩;obtain ⟨op,x,xs,nmv,n,ao,k,c,rfl⟩ :=hE1.shape;obtain ⟨xk,xn,xs2⟩ :=x;have hbx :Below w1.heap.size w1 (w1.alloc (.cells #[.int .i64 op, .int .i64 xk, .int .i64 xn, .string xs2, .string xs, .string nmv, .int .i64 n, .slice ao k c] 37)) := (Below.refl _ _).alloc (Nat.le_refl _) _;have SK :=El a b cap ops s1 d _ (hr1.below hbx) HK.out hba (Iq.but (a :=a) HO.out ((hB0.trans hb1).trans (.of_below hbx)) hba) hl))
  | (go_at_call 109;go_must (go_fit SK;rintro e w2 ⟨rfl,hr2,hb2⟩)))
 have hB1 :=hB0.trans hb1
 have hL0 :W.heap.size≤w1.heap.size :=hb1.size
 have bL :=Ac hb2 (Ad w1 (.cells #[.int .i64 op, .int .i64 xk, .int .i64 xn, .string xs2, .string xs, .string nmv, .int .i64 n, .slice ao k c] 37)) (show w1.heap.size≠a by omega)
 have bR :=Ac hb2 (Ae (Ac hb1 b0 ne0) (.cells #[.int .i64 op, .int .i64 xk, .int .i64 xn, .string xs2, .string xs, .string nmv, .int .i64 n, .slice ao k c] 37)) ne0
 have hB2 :But a w w2 := (hB1.trans (.of_below hbx)).trans hb2
 have hE2 :IsE (FL w.heap.size w1.heap.size) w2 E1 (.agg (A2 op ⟨xk,xn,xs2⟩ xs nmv n (.slice ao k c))) :=
  IsE.keep (((Keeps.refl _ _).alloc _).trans (hb2.keeps (by show ¬ (w.heap.size<a∧_);omega))) _ _ (IsE.mono (fun k h1 h2=>by have :W.heap.size≤k :=h2;exact ⟨by omega,by omega⟩) _ _ hE1)
 have hLL :w.heap.size<w1.heap.size :=by omega
 generalize w1.heap.size=L at bL hE2 hLL
 clear hb1 hE1 hr1 hb2 hbx hB1 hL0 SK P1 b0 hb0
 go_loopg [8] (Aw s1) (fun f o wr=> ∃σ e op x xs nmv n ao k c,o= .int .i64 (Ao ops σ).1∧Rd wr a (Ao ops σ).2 d∧Hid (R=Bh p ops f e σ∧Aw σ≤f) ∧wr.heap[L]? =some (.cells (A2 op x xs nmv n (.slice ao k c)) 37) ∧wr.heap[w.heap.size]? =some (.cells Ap 37) ∧IsE (FL w.heap.size L) wr e (.agg (A2 op x xs nmv n (.slice ao k c))) ∧But a w wr)
 case atStart=>exact ⟨s1,E1,op,⟨xk,xn,xs2⟩,xs,nmv,n,ao,k,c,rfl,hr2,⟨HCH.out,Nat.le_refl _⟩,bL,bR,hE2,hB2⟩
 case round=>
  clear bL bR hE2 hB2 hr2 HCH
  obtain ⟨σ,e,op,x,xs,nmv,n,ao,k,c,rfl,hrd,HF,hLb,hRb,hE,hBut⟩ :=hrel
  obtain ⟨xk,xn,xs2⟩ :=x
  have HE :Hid _ :=hE
  have HSK :Hid (((Ao ops σ).1=0→Bh p ops gk e σ= (e,(Ao ops σ).2)) ∧ ((Ao ops σ).1≠0→Aw σ≤gk→ ∃f',f'<gk∧Bh p ops gk e σ=Bh p ops f' (Cd (Ao ops σ).1 [e,(p (Ao ops σ).2).1]) (p (Ao ops σ).2).2∧Aw (p (Ao ops σ).2).2≤f')) := ⟨M2 HZ.out,fun h1 h2=>Px HS.out h1 h2⟩
  generalize Ao ops σ=q at hrd HSK
  obtain ⟨o1,s2⟩ :=q
  simp only at hrd HSK
  obtain ⟨l0,l1,l2,l3,l4,l5,l6,l7⟩ :=Cq hLb rfl
  by_cases ho0 :o1=0
  ·subst ho0
   have HFin :Hid (R= (e,s2)) :=HF.out.1.trans (HSK.out.1 rfl)
   obtain ⟨q0,q1,q2,q3,q4,q5,q6,q7⟩ :=Cq hRb rfl
   have f0 :=Ab hRb 0
   have f1 :=Ab hRb 1
   have f2 :=Ab hRb 2
   have f3 :=Ab hRb 3
   have f4 :=Ab hRb 4
   have f5 :=Ab hRb 5
   have f6 :=Ab hRb 6
   have f7 :=Ab hRb 7
   clear HF HSK
   go_wp2_with fail
   refine bodyPost_ret (v := .agg #[.int .i64 op, .int .i64 xk, .int .i64 xn, .string xs2, .string xs, .string nmv, .int .i64 n, .slice ao k c]) (by simp [results,Tryz.results97,go_sem,q0,q1,q2,q3,q4,q5,q6,q7]) rfl ⟨_,rfl, ?_, ?_, ?_⟩
   ·rw [HFin.out]
    exact IsE.mono (fun k _ hk=>by have :w.heap.size<k :=hk.1;show w.heap.size≤k;omega) _ _ (IsE.keep ((Keeps.refl _ _).set8 (by show ¬ (w.heap.size<w.heap.size∧_);omega) _ _ _ _ _ _ _ _) _ _ HE.out)
   ·rw [HFin.out]
    exact hrd.set8 ne0 _ _ _ _ _ _ _ _
   ·exact hBut.set8 (Nat.le_refl _) _ _ _ _ _ _ _ _
  ·obtain ⟨f',hf',HNx⟩ : ∃f',f'<gk∧Hid (R=Bh p ops f' (Cd o1 [e,(p s2).1]) (p s2).2∧Aw (p s2).2≤f') :=by
    obtain ⟨f',h1,h2,h3⟩ :=HSK.out.2 ho0 HF.out.2
    exact ⟨f',h1,HF.out.1.trans h2,h3⟩
   clear HF HSK
   have hLs :=lt_of_block hLb
   have P2 :=HP.out a s2 wr.drew hrd.drew (he.but hBut.drew ha) ha
   have hnz : (o1==0) =false :=beq_eq_false_iff_ne.2 ho0
   have hob :Iq wr b ops :=Iq.but HO.out hBut hba
   generalize p s2=q at P2 HNx
   obtain ⟨E2,s3⟩ :=q
   simp only at P2 HNx
   have hneL :L≠a :=by omega
   go_wp2_with fail
   go_region_with (first
    | (go_at_call 111;go_must (go_fit P2;rintro e' w3 ⟨v2,rfl,hE3,hr3,hb3⟩;obtain ⟨op2,x2,xs3,nm2,n2,ao2,k2,c2,rfl⟩ :=hE3.shape;obtain ⟨xk2,xn2,xs4⟩ :=x2;have hL3 :=Ac hb3 hLb hneL;obtain ⟨m0,m1,m2,m3,m4,m5,m6,m7⟩ :=Cq hL3 rfl))
    | (go_at_call 110;go_must (refine (J0 _ _ _ _ _).mono ?_;rintro e' w4 ⟨rfl,hb4⟩;have hL4 := (hb4.block _ (lt_of_block (Ae hL3 _))).trans (Ae hL3 _);obtain ⟨y0,y1,y2,y3,y4,y5,y6,y7⟩ :=Cq hL4 rfl;have z0 :=Ab hL4 0;have z1 :=Ab hL4 1;have z2 :=Ab hL4 2;have z3 :=Ab hL4 3;have z4 :=Ab hL4 4;have z5 :=Ab hL4 5;have z6 :=Ab hL4 6;have z7 :=Ab hL4 7)))
   all_goals
    have hbn :Below w3.heap.size w3 w4 := ((Below.refl _ _).alloc (Nat.le_refl _) _).trans (hb4.mono (by simp))
    have hrn := (hr3.below hbn).set8 hneL (.int .i64 o1) (.int .i64 zero.k) (.int .i64 zero.n) (.string zero.s) (.string noW) (.string noW) (.int .i64 0) (.slice (some ⟨w3.heap.size,0,none⟩) 2 2)
    have hsub :wr.heap.size≤w3.heap.size :=hb3.size
    have hB3 :But a w (set8 w4 L (.int .i64 o1) (.int .i64 zero.k) (.int .i64 zero.n) (.string zero.s) (.string noW) (.string noW) (.int .i64 0) (.slice (some ⟨w3.heap.size,0,none⟩) 2 2)) := ((hBut.drew.trans hb3).trans (.of_below hbn)).set8 (by omega) _ _ _ _ _ _ _ _
    have SK5 :=El a b cap ops s3 d _ hrn HK.out hba (Iq.but HO.out hB3 hba) hl
    have HEn :Hid (IsE (FL w.heap.size L) (set8 w4 L (.int .i64 o1) (.int .i64 zero.k) (.int .i64 zero.n) (.string zero.s) (.string noW) (.string noW) (.int .i64 0) (.slice (some ⟨w3.heap.size,0,none⟩) 2 2)) (Cd o1 [e,E2]) (.agg (A2 o1 zero noW noW 0 (.slice (some ⟨w3.heap.size,0,none⟩) 2 2)))) :=by
     have nFL : ¬FL w.heap.size L L :=by intro h;exact h.2 rfl
     have nFa : ¬FL w.heap.size L a :=by intro h;have :=h.1;omega
     have g1 :IsE (FL w.heap.size L) w3 e (.agg (A2 op ⟨xk,xn,xs2⟩ xs nmv n (.slice ao k c))) :=IsE.keep (hb3.keeps nFa) _ _ (show IsE (FL w.heap.size L) wr.drew _ _ from IsE.keep (Keeps.drew (Keeps.refl _ _)) _ _ HE.out)
     have g2 :IsE (FL w.heap.size L) w3 E2 (.agg (A2 op2 ⟨xk2,xn2,xs4⟩ xs3 nm2 n2 (.slice ao2 k2 c2))) :=IsE.mono (fun k h1 h2=>by have :wr.heap.size≤k :=h2;exact ⟨by omega,by omega⟩) _ _ hE3
     have g3 :=Jz g1 g2 (show FL w.heap.size L w3.heap.size from ⟨by omega,by omega⟩)
     exact IsE.keep ((Bb hb4).set8 nFL _ _ _ _ _ _ _ _) _ _ (Ha g3)
    have hL5 : (set8 w4 L (.int .i64 o1) (.int .i64 zero.k) (.int .i64 zero.n) (.string zero.s) (.string noW) (.string noW) (.int .i64 0) (.slice (some ⟨w3.heap.size,0,none⟩) 2 2)).heap[L]? =some (.cells (A2 o1 zero noW noW 0 (.slice (some ⟨w3.heap.size,0,none⟩) 2 2)) 37) :=M3 hL4 rfl
    have hR5 :=M4 ((hbn.block _ (by omega)).trans (Ac hb3 (w :=wr.drew) hRb ne0)) (show w.heap.size≠L by omega) (.int .i64 o1) (.int .i64 zero.k) (.int .i64 zero.n) (.string zero.s) (.string noW) (.string noW) (.int .i64 0) (.slice (some ⟨w3.heap.size,0,none⟩) 2 2)
    clear l0 l1 l2 l3 l4 l5 l6 l7 m0 m1 m2 m3 m4 m5 m6 m7 y0 y1 y2 y3 y4 y5 y6 y7 z0 z1 z2 z3 z4 z5 z6 z7 hE3
    go_wp2_with (go_at_call 109;go_must (go_fit SK5;rintro e' w6 ⟨rfl,hr6,hb6⟩))
    go_roundg f'
    case measure=>exact hf'
    case rel=>exact ⟨s3,Cd o1 [e,E2],o1,zero,noW,noW,0,_,_,_,rfl,hr6,HNx,Ac hb6 hL5 hneL,Ac hb6 hR5 ne0,IsE.keep (hb6.keeps (by show ¬ (w.heap.size<a∧_);omega)) _ _ HEn.out,hB3.trans hb6⟩
set_option maxHeartbeats 4000000 in
theorem Ox (p :St→E×St) (ops :List (Wd×Int)) (d :Int) (hp :De 98 p d) (hs : ∀s,Aw (p s).2≤Aw s) (hz : ∀o∈ops,o.2≠0) (hk : ∀o∈ops,0<o.1.size) (hl :ops.length≤1000)
  (a :Nat) (s :St) (w :World) (h :Rd w a s d) (he :Env w) (ha :16≤a) (b cap :Nat) (hba :b≠a) (ho :Iq w b ops) :
  Calls Tryz.prog 97 #[.pointer (some ⟨a,0,none⟩), .func (.func 98) #[.pointer (some ⟨a,0,none⟩)] #[], .slice (some ⟨b,0,none⟩) ops.length cap] w fun e w'=> ∃v,e= .returned v∧IsE (Fr w.heap.size) w' (Dp p ops s).1 v∧Rd w' a (Dp p ops s).2 d∧But a w w' :=by
 generalize hW :w.alloc (.cells Ap 37) =W
 have HW :Hid _ :=hW
 have hb0 :Below w.heap.size w W :=by rw [←hW];exact (Below.refl _ _).alloc (Nat.le_refl _) _
 have b0 :W.heap[w.heap.size]? =some (.cells Ap 37) :=by rw [←hW];exact Ad w _
 have hWs :W.heap.size=w.heap.size+1 :=by rw [←hW,World.size_alloc]
 clear hW
 have hla :=h.lt
 have ne0 :w.heap.size≠a :=by omega
 have hB0 :But a w W := .of_below hb0
 have P1 :=hp a s W (h.below hb0) (he.next hb0) ha
 have hch :Dp p ops s=Bh p ops (Aw (p s).2) (p s).1 (p s).2 :=rfl
 generalize Dp p ops s=R at hch⊢
 have hss :=hs s
 generalize p s=q at P1 hch
 obtain ⟨E1,s1⟩ :=q
 simp only at P1 hch
 have HCH :Hid _ :=hch
 have HO :Hid _ :=ho
 have HP :Hid _ :=hp
 have HS :Hid _ :=hs
 have HZ :Hid _ :=hz
 have HK :Hid _ :=hk
 clear hch ho hp hs hz hk
 go_enter Tryz.func97,Tryz.ntmps97
 go_wp2_with fail
 rw [HW.out]
 go_wp2_with (first
  | (go_at_call 98;go_must (go_fit P1;rintro e w1 ⟨v1,rfl,hE1,hr1,hb1⟩;obtain ⟨op,x,xs,nmv,n,ao,k,c,rfl⟩ :=hE1.shape;obtain ⟨xk,xn,xs2⟩ :=x;have hbx :Below w1.heap.size w1 (w1.alloc (.cells #[.int .i64 op, .int .i64 xk, .int .i64 xn, .string xs2, .string xs, .string nmv, .int .i64 n, .slice ao k c] 37)) := (Below.refl _ _).alloc (Nat.le_refl _) _;have SK :=El a b cap ops s1 d _ (hr1.below hbx) HK.out hba (Iq.but (a :=a) HO.out ((hB0.trans hb1).trans (.of_below hbx)) hba) hl))
  | (go_at_call 109;go_must (go_fit SK;rintro e w2 ⟨rfl,hr2,hb2⟩)))
 have hB1 :=hB0.trans hb1
 have hL0 :W.heap.size≤w1.heap.size :=hb1.size
 have bL :=Ac hb2 (Ad w1 (.cells #[.int .i64 op, .int .i64 xk, .int .i64 xn, .string xs2, .string xs, .string nmv, .int .i64 n, .slice ao k c] 37)) (show w1.heap.size≠a by omega)
 have bR :=Ac hb2 (Ae (Ac hb1 b0 ne0) (.cells #[.int .i64 op, .int .i64 xk, .int .i64 xn, .string xs2, .string xs, .string nmv, .int .i64 n, .slice ao k c] 37)) ne0
 have hB2 :But a w w2 := (hB1.trans (.of_below hbx)).trans hb2
 have hE2 :IsE (FL w.heap.size w1.heap.size) w2 E1 (.agg (A2 op ⟨xk,xn,xs2⟩ xs nmv n (.slice ao k c))) :=
  IsE.keep (((Keeps.refl _ _).alloc _).trans (hb2.keeps (by show ¬ (w.heap.size<a∧_);omega))) _ _ (IsE.mono (fun k h1 h2=>by have :W.heap.size≤k :=h2;exact ⟨by omega,by omega⟩) _ _ hE1)
 have hLL :w.heap.size<w1.heap.size :=by omega
 generalize w1.heap.size=L at bL hE2 hLL
 clear hb1 hE1 hr1 hb2 hbx hB1 hL0 SK P1 b0 hb0
 go_loopg [8] (Aw s1) (fun f o wr=> ∃σ e op x xs nmv n ao k c,o= .int .i64 (Ao ops σ).1∧Rd wr a (Ao ops σ).2 d∧Hid (R=Bh p ops f e σ∧Aw σ≤f) ∧wr.heap[L]? =some (.cells (A2 op x xs nmv n (.slice ao k c)) 37) ∧wr.heap[w.heap.size]? =some (.cells Ap 37) ∧IsE (FL w.heap.size L) wr e (.agg (A2 op x xs nmv n (.slice ao k c))) ∧But a w wr)
 case atStart=>exact ⟨s1,E1,op,⟨xk,xn,xs2⟩,xs,nmv,n,ao,k,c,rfl,hr2,⟨HCH.out,Nat.le_refl _⟩,bL,bR,hE2,hB2⟩
 case round=>
  clear bL bR hE2 hB2 hr2 HCH
  obtain ⟨σ,e,op,x,xs,nmv,n,ao,k,c,rfl,hrd,HF,hLb,hRb,hE,hBut⟩ :=hrel
  obtain ⟨xk,xn,xs2⟩ :=x
  have HE :Hid _ :=hE
  have HSK :Hid (((Ao ops σ).1=0→Bh p ops gk e σ= (e,(Ao ops σ).2)) ∧ ((Ao ops σ).1≠0→Aw σ≤gk→ ∃f',f'<gk∧Bh p ops gk e σ=Bh p ops f' (Cd (Ao ops σ).1 [e,(p (Ao ops σ).2).1]) (p (Ao ops σ).2).2∧Aw (p (Ao ops σ).2).2≤f')) := ⟨M2 HZ.out,fun h1 h2=>Px HS.out h1 h2⟩
  generalize Ao ops σ=q at hrd HSK
  obtain ⟨o1,s2⟩ :=q
  simp only at hrd HSK
  obtain ⟨l0,l1,l2,l3,l4,l5,l6,l7⟩ :=Cq hLb rfl
  by_cases ho0 :o1=0
  ·subst ho0
   have HFin :Hid (R= (e,s2)) :=HF.out.1.trans (HSK.out.1 rfl)
   obtain ⟨q0,q1,q2,q3,q4,q5,q6,q7⟩ :=Cq hRb rfl
   have f0 :=Ab hRb 0
   have f1 :=Ab hRb 1
   have f2 :=Ab hRb 2
   have f3 :=Ab hRb 3
   have f4 :=Ab hRb 4
   have f5 :=Ab hRb 5
   have f6 :=Ab hRb 6
   have f7 :=Ab hRb 7
   clear HF HSK
   go_wp2_with fail
   refine bodyPost_ret (v := .agg #[.int .i64 op, .int .i64 xk, .int .i64 xn, .string xs2, .string xs, .string nmv, .int .i64 n, .slice ao k c]) (by simp [results,Tryz.results97,go_sem,q0,q1,q2,q3,q4,q5,q6,q7]) rfl ⟨_,rfl, ?_, ?_, ?_⟩
   ·rw [HFin.out]
    exact IsE.mono (fun k _ hk=>by have :w.heap.size<k :=hk.1;show w.heap.size≤k;omega) _ _ (IsE.keep ((Keeps.refl _ _).set8 (by show ¬ (w.heap.size<w.heap.size∧_);omega) _ _ _ _ _ _ _ _) _ _ HE.out)
   ·rw [HFin.out]
    exact hrd.set8 ne0 _ _ _ _ _ _ _ _
   ·exact hBut.set8 (Nat.le_refl _) _ _ _ _ _ _ _ _
  ·obtain ⟨f',hf',HNx⟩ : ∃f',f'<gk∧Hid (R=Bh p ops f' (Cd o1 [e,(p s2).1]) (p s2).2∧Aw (p s2).2≤f') :=by
    obtain ⟨f',h1,h2,h3⟩ :=HSK.out.2 ho0 HF.out.2
    exact ⟨f',h1,HF.out.1.trans h2,h3⟩
   clear HF HSK
   have hLs :=lt_of_block hLb
   have P2 :=HP.out a s2 wr.drew hrd.drew (he.but hBut.drew ha) ha
   have hnz : (o1==0) =false :=beq_eq_false_iff_ne.2 ho0
   have hob :Iq wr b ops :=Iq.but HO.out hBut hba
   generalize p s2=q at P2 HNx
   obtain ⟨E2,s3⟩ :=q
   simp only at P2 HNx
   have hneL :L≠a :=by omega
   go_wp2_with fail
   go_region_with (first
    | (go_at_call 98;go_must (go_fit P2;rintro e' w3 ⟨v2,rfl,hE3,hr3,hb3⟩;obtain ⟨op2,x2,xs3,nm2,n2,ao2,k2,c2,rfl⟩ :=hE3.shape;obtain ⟨xk2,xn2,xs4⟩ :=x2;have hL3 :=Ac hb3 hLb hneL;obtain ⟨m0,m1,m2,m3,m4,m5,m6,m7⟩ :=Cq hL3 rfl))
    | (go_at_call 110;go_must (refine (J0 _ _ _ _ _).mono ?_;rintro e' w4 ⟨rfl,hb4⟩;have hL4 := (hb4.block _ (lt_of_block (Ae hL3 _))).trans (Ae hL3 _);obtain ⟨y0,y1,y2,y3,y4,y5,y6,y7⟩ :=Cq hL4 rfl;have z0 :=Ab hL4 0;have z1 :=Ab hL4 1;have z2 :=Ab hL4 2;have z3 :=Ab hL4 3;have z4 :=Ab hL4 4;have z5 :=Ab hL4 5;have z6 :=Ab hL4 6;have z7 :=Ab hL4 7)))
   all_goals
    have hbn :Below w3.heap.size w3 w4 := ((Below.refl _ _).alloc (Nat.le_refl _) _).trans (hb4.mono (by simp))
    have hrn := (hr3.below hbn).set8 hneL (.int .i64 o1) (.int .i64 zero.k) (.int .i64 zero.n) (.string zero.s) (.string noW) (.string noW) (.int .i64 0) (.slice (some ⟨w3.heap.size,0,none⟩) 2 2)
    have hsub :wr.heap.size≤w3.heap.size :=hb3.size
    have hB3 :But a w (set8 w4 L (.int .i64 o1) (.int .i64 zero.k) (.int .i64 zero.n) (.string zero.s) (.string noW) (.string noW) (.int .i64 0) (.slice (some ⟨w3.heap.size,0,none⟩) 2 2)) := ((hBut.drew.trans hb3).trans (.of_below hbn)).set8 (by omega) _ _ _ _ _ _ _ _
    have SK5 :=El a b cap ops s3 d _ hrn HK.out hba (Iq.but HO.out hB3 hba) hl
    have HEn :Hid (IsE (FL w.heap.size L) (set8 w4 L (.int .i64 o1) (.int .i64 zero.k) (.int .i64 zero.n) (.string zero.s) (.string noW) (.string noW) (.int .i64 0) (.slice (some ⟨w3.heap.size,0,none⟩) 2 2)) (Cd o1 [e,E2]) (.agg (A2 o1 zero noW noW 0 (.slice (some ⟨w3.heap.size,0,none⟩) 2 2)))) :=by
     have nFL : ¬FL w.heap.size L L :=by intro h;exact h.2 rfl
     have nFa : ¬FL w.heap.size L a :=by intro h;have :=h.1;omega
     have g1 :IsE (FL w.heap.size L) w3 e (.agg (A2 op ⟨xk,xn,xs2⟩ xs nmv n (.slice ao k c))) :=IsE.keep (hb3.keeps nFa) _ _ (show IsE (FL w.heap.size L) wr.drew _ _ from IsE.keep (Keeps.drew (Keeps.refl _ _)) _ _ HE.out)
     have g2 :IsE (FL w.heap.size L) w3 E2 (.agg (A2 op2 ⟨xk2,xn2,xs4⟩ xs3 nm2 n2 (.slice ao2 k2 c2))) :=IsE.mono (fun k h1 h2=>by have :wr.heap.size≤k :=h2;exact ⟨by omega,by omega⟩) _ _ hE3
     have g3 :=Jz g1 g2 (show FL w.heap.size L w3.heap.size from ⟨by omega,by omega⟩)
     exact IsE.keep ((Bb hb4).set8 nFL _ _ _ _ _ _ _ _) _ _ (Ha g3)
    have hL5 : (set8 w4 L (.int .i64 o1) (.int .i64 zero.k) (.int .i64 zero.n) (.string zero.s) (.string noW) (.string noW) (.int .i64 0) (.slice (some ⟨w3.heap.size,0,none⟩) 2 2)).heap[L]? =some (.cells (A2 o1 zero noW noW 0 (.slice (some ⟨w3.heap.size,0,none⟩) 2 2)) 37) :=M3 hL4 rfl
    have hR5 :=M4 ((hbn.block _ (by omega)).trans (Ac hb3 (w :=wr.drew) hRb ne0)) (show w.heap.size≠L by omega) (.int .i64 o1) (.int .i64 zero.k) (.int .i64 zero.n) (.string zero.s) (.string noW) (.string noW) (.int .i64 0) (.slice (some ⟨w3.heap.size,0,none⟩) 2 2)
    clear l0 l1 l2 l3 l4 l5 l6 l7 m0 m1 m2 m3 m4 m5 m6 m7 y0 y1 y2 y3 y4 y5 y6 y7 z0 z1 z2 z3 z4 z5 z6 z7 hE3
    go_wp2_with (go_at_call 109;go_must (go_fit SK5;rintro e' w6 ⟨rfl,hr6,hb6⟩))
    go_roundg f'
    case measure=>exact hf'
    case rel=>exact ⟨s3,Cd o1 [e,E2],o1,zero,noW,noW,0,_,_,_,rfl,hr6,HNx,Ac hb6 hL5 hneL,Ac hb6 hR5 ne0,IsE.keep (hb6.keeps (by show ¬ (w.heap.size<a∧_);omega)) _ _ HEn.out,hB3.trans hb6⟩
end Go.Proofs.YtifjaegfpdjikaaGreatDoor

namespace Go.Proofs.YtifjaegfpdjikaaGreatDoor
open Go.RowKit
theorem Sd {w :World} {b :Nat} {k :Wd} {o :Int} {t :TypeId} (h :w.heap[b]? =some (.cells #[.string k, .int .i64 o] t)) :Iq w b [(k,o)] :=by
 intro i x hx
 match i,hx with
 | 0,hx=>simp at hx;subst hx;exact ⟨Aa h rfl,Aa h rfl⟩
 | i+1,hx=>simp at hx
theorem Ob {w :World} {b :Nat} {k k' :Wd} {o o' :Int} {t :TypeId} (h :w.heap[b]? =some (.cells #[.string k, .int .i64 o, .string k', .int .i64 o'] t)) :Iq w b [(k,o),(k',o')] :=by
 intro i x hx
 match i,hx with
 | 0,hx=>simp at hx;subst hx;exact ⟨Aa h rfl,Aa h rfl⟩
 | 1,hx=>simp at hx;subst hx;exact ⟨Aa h rfl,Aa h rfl⟩
 | i+2,hx=>simp at hx
set_option maxHeartbeats 2000000 in
theorem Ab3 (p :St→E×St) (d :Int) (hp :De 124 p d) (hs : ∀s,Aw (p s).2≤Aw s) :De 116 (Dp p Mh) d :=by
 intro a s w h he ha
 generalize hW : (w.alloc (.cells Ap 37)).alloc (.cells #[.string ⟨#[43]⟩,.int .i64 3,.string ⟨#[45]⟩,.int .i64 4] 123) =W
 have HW :Hid _ :=hW
 have hb0 :Below w.heap.size w W :=by rw [←hW];exact ((Below.refl _ _).alloc (Nat.le_refl _) _).alloc (by simp) _
 have b0 :W.heap[w.heap.size]? =some (.cells Ap 37) :=by rw [←hW];exact Ae (Ad w _) _
 have b1 :W.heap[w.heap.size+1]? =some (.cells #[.string ⟨#[43]⟩,.int .i64 3,.string ⟨#[45]⟩,.int .i64 4] 123) :=by
  rw [←hW]
  have :=Ad (w.alloc (.cells Ap 37)) (.cells #[.string ⟨#[43]⟩,.int .i64 3,.string ⟨#[45]⟩,.int .i64 4] 123)
  rw [World.size_alloc] at this
  exact this
 have hWs :W.heap.size=w.heap.size+2 :=by rw [←hW,World.size_alloc,World.size_alloc]
 clear hW
 have hla :=h.lt
 have ne0 :w.heap.size≠a :=by omega
 have CH :=Xp p Mh d hp hs (by decide) (by decide) (by decide) a s W (h.below hb0) (he.next hb0) ha (w.heap.size+1) 2 (by omega) (Ob b1)
 generalize Dp p Mh s=q at CH⊢
 obtain ⟨E1,s1⟩ :=q
 simp only [List.length_cons,List.length_nil,Nat.zero_add] at CH⊢
 go_enter Tryz.func116,Tryz.ntmps116
 go_wp2_with fail
 rw [HW.out]
 go_wp2_with (go_at_call 97;go_must (go_fit CH;rintro e w1 ⟨v,rfl,hE,hr1,hb1⟩;have b2 :=Ac hb1 b0 ne0;obtain ⟨q0,q1,q2,q3,q4,q5,q6,q7⟩ :=Cq b2 rfl;have f0 :=Ab b2 0;have f1 :=Ab b2 1;have f2 :=Ab b2 2;have f3 :=Ab b2 3;have f4 :=Ab b2 4;have f5 :=Ab b2 5;have f6 :=Ab b2 6;have f7 :=Ab b2 7;obtain ⟨op,x,xs,nmv,n,ao,k,c,rfl⟩ :=hE.shape;obtain ⟨xk,xn,xs2⟩ :=x))
 refine bodyPost_ret (v := .agg #[.int .i64 op, .int .i64 xk, .int .i64 xn, .string xs2, .string xs, .string nmv, .int .i64 n, .slice ao k c]) (by simp [results,Tryz.results116,go_sem,q0,q1,q2,q3,q4,q5,q6,q7]) rfl ⟨_,rfl, ?_, ?_, ?_⟩
 ·exact IsE.mono (fun k _ hk=>by have :W.heap.size≤k :=hk;show w.heap.size≤k;omega) _ _ (IsE.keep ((Keeps.refl _ _).set8 (show ¬W.heap.size≤w.heap.size by omega) _ _ _ _ _ _ _ _) _ _ hE)
 ·exact hr1.set8 ne0 _ _ _ _ _ _ _ _
 ·exact ((But.of_below hb0).trans hb1).set8 (Nat.le_refl _) _ _ _ _ _ _ _ _
set_option maxHeartbeats 2000000 in
theorem Qv (p :St→E×St) (d :Int) (hp :De 111 p d) (hs : ∀s,Aw (p s).2≤Aw s) :De 98 (Dp p Jc) d :=by
 intro a s w h he ha
 generalize hW : (w.alloc (.cells Ap 37)).alloc (.cells #[.string ⟨#[97,110,100]⟩,.int .i64 7] 123) =W
 have HW :Hid _ :=hW
 have hb0 :Below w.heap.size w W :=by rw [←hW];exact ((Below.refl _ _).alloc (Nat.le_refl _) _).alloc (by simp) _
 have b0 :W.heap[w.heap.size]? =some (.cells Ap 37) :=by rw [←hW];exact Ae (Ad w _) _
 have b1 :W.heap[w.heap.size+1]? =some (.cells #[.string ⟨#[97,110,100]⟩,.int .i64 7] 123) :=by
  rw [←hW]
  have :=Ad (w.alloc (.cells Ap 37)) (.cells #[.string ⟨#[97,110,100]⟩,.int .i64 7] 123)
  rw [World.size_alloc] at this
  exact this
 have hWs :W.heap.size=w.heap.size+2 :=by rw [←hW,World.size_alloc,World.size_alloc]
 clear hW
 have hla :=h.lt
 have ne0 :w.heap.size≠a :=by omega
 have CH :=Xq p Jc d hp hs (by decide) (by decide) (by decide) a s W (h.below hb0) (he.next hb0) ha (w.heap.size+1) 1 (by omega) (Sd b1)
 generalize Dp p Jc s=q at CH⊢
 obtain ⟨E1,s1⟩ :=q
 simp only [List.length_cons,List.length_nil,Nat.zero_add] at CH⊢
 go_enter Tryz.func98,Tryz.ntmps98
 go_wp2_with fail
 rw [HW.out]
 go_wp2_with (go_at_call 97;go_must (go_fit CH;rintro e w1 ⟨v,rfl,hE,hr1,hb1⟩;have b2 :=Ac hb1 b0 ne0;obtain ⟨q0,q1,q2,q3,q4,q5,q6,q7⟩ :=Cq b2 rfl;have f0 :=Ab b2 0;have f1 :=Ab b2 1;have f2 :=Ab b2 2;have f3 :=Ab b2 3;have f4 :=Ab b2 4;have f5 :=Ab b2 5;have f6 :=Ab b2 6;have f7 :=Ab b2 7;obtain ⟨op,x,xs,nmv,n,ao,k,c,rfl⟩ :=hE.shape;obtain ⟨xk,xn,xs2⟩ :=x))
 refine bodyPost_ret (v := .agg #[.int .i64 op, .int .i64 xk, .int .i64 xn, .string xs2, .string xs, .string nmv, .int .i64 n, .slice ao k c]) (by simp [results,Tryz.results98,go_sem,q0,q1,q2,q3,q4,q5,q6,q7]) rfl ⟨_,rfl, ?_, ?_, ?_⟩
 ·exact IsE.mono (fun k _ hk=>by have :W.heap.size≤k :=hk;show w.heap.size≤k;omega) _ _ (IsE.keep ((Keeps.refl _ _).set8 (show ¬W.heap.size≤w.heap.size by omega) _ _ _ _ _ _ _ _) _ _ hE)
 ·exact hr1.set8 ne0 _ _ _ _ _ _ _ _
 ·exact ((But.of_below hb0).trans hb1).set8 (Nat.le_refl _) _ _ _ _ _ _ _ _
set_option maxHeartbeats 2000000 in
theorem R0 (p :St→E×St) (d :Int) (hp :De 98 p d) (hs : ∀s,Aw (p s).2≤Aw s) :De 80 (Dp p Ms) d :=by
 intro a s w h he ha
 generalize hW : (w.alloc (.cells Ap 37)).alloc (.cells #[.string ⟨#[111,114]⟩,.int .i64 8] 123) =W
 have HW :Hid _ :=hW
 have hb0 :Below w.heap.size w W :=by rw [←hW];exact ((Below.refl _ _).alloc (Nat.le_refl _) _).alloc (by simp) _
 have b0 :W.heap[w.heap.size]? =some (.cells Ap 37) :=by rw [←hW];exact Ae (Ad w _) _
 have b1 :W.heap[w.heap.size+1]? =some (.cells #[.string ⟨#[111,114]⟩,.int .i64 8] 123) :=by
  rw [←hW]
  have :=Ad (w.alloc (.cells Ap 37)) (.cells #[.string ⟨#[111,114]⟩,.int .i64 8] 123)
  rw [World.size_alloc] at this
  exact this
 have hWs :W.heap.size=w.heap.size+2 :=by rw [←hW,World.size_alloc,World.size_alloc]
 clear hW
 have hla :=h.lt
 have ne0 :w.heap.size≠a :=by omega
 have CH :=Ox p Ms d hp hs (by decide) (by decide) (by decide) a s W (h.below hb0) (he.next hb0) ha (w.heap.size+1) 1 (by omega) (Sd b1)
 generalize Dp p Ms s=q at CH⊢
 obtain ⟨E1,s1⟩ :=q
 simp only [List.length_cons,List.length_nil,Nat.zero_add] at CH⊢
 go_enter Tryz.func80,Tryz.ntmps80
 go_wp2_with fail
 rw [HW.out]
 go_wp2_with (go_at_call 97;go_must (go_fit CH;rintro e w1 ⟨v,rfl,hE,hr1,hb1⟩;have b2 :=Ac hb1 b0 ne0;obtain ⟨q0,q1,q2,q3,q4,q5,q6,q7⟩ :=Cq b2 rfl;have f0 :=Ab b2 0;have f1 :=Ab b2 1;have f2 :=Ab b2 2;have f3 :=Ab b2 3;have f4 :=Ab b2 4;have f5 :=Ab b2 5;have f6 :=Ab b2 6;have f7 :=Ab b2 7;obtain ⟨op,x,xs,nmv,n,ao,k,c,rfl⟩ :=hE.shape;obtain ⟨xk,xn,xs2⟩ :=x))
 refine bodyPost_ret (v := .agg #[.int .i64 op, .int .i64 xk, .int .i64 xn, .string xs2, .string xs, .string nmv, .int .i64 n, .slice ao k c]) (by simp [results,Tryz.results80,go_sem,q0,q1,q2,q3,q4,q5,q6,q7]) rfl ⟨_,rfl, ?_, ?_, ?_⟩
 ·exact IsE.mono (fun k _ hk=>by have :W.heap.size≤k :=hk;show w.heap.size≤k;omega) _ _ (IsE.keep ((Keeps.refl _ _).set8 (show ¬W.heap.size≤w.heap.size by omega) _ _ _ _ _ _ _ _) _ _ hE)
 ·exact hr1.set8 ne0 _ _ _ _ _ _ _ _
 ·exact ((But.of_below hb0).trans hb1).set8 (Nat.le_refl _) _ _ _ _ _ _ _ _
end Go.Proofs.YtifjaegfpdjikaaGreatDoor

namespace Go.Proofs.YtifjaegfpdjikaaGreatDoor
open Go.RowKit
theorem Ba (a :Nat) (k :Wd) (s :St) (d :Int) (w :World) (h :Rd w a s d) (hk :0<k.size) (hn : (Ag k s).1=false) :
  Calls Tryz.prog 47 #[.pointer (some ⟨a,0,none⟩), .string k] w fun e w'=>e= .returned (.bool false) ∧Rd w' a s d∧But a w w' :=by
 refine (Ix a k s d w h hk).mono fun e w' hx=> ?_
 rw [hn,Cm hn] at hx
 exact hx
theorem Du (a :Nat) (k :Wd) (s :St) (d :Int) (w :World) (h :Rd w a s d) (hk :0<k.size) (hn : (Ag k s).1=true) :
  Calls Tryz.prog 47 #[.pointer (some ⟨a,0,none⟩), .string k] w fun e w'=>e= .returned (.bool true) ∧Rd w' a (Ag k s).2 d∧But a w w' :=by
 refine (Ix a k s d w h hk).mono fun e w' hx=> ?_
 rw [hn] at hx
 exact hx
theorem S9 (s :St) :0≤ (B6 s).1∧ (B6 s).1≤1000000 :=by
 unfold B6
 split
 ·split
  ·rename_i w l n hn
   simp only
   rw [Cs] at hn
   split at hn
   ·rename_i c
    cases hn
    simp only [Bool.and_eq_true,decide_eq_true_eq] at c
    omega
   ·cases hn
  ·simp
 ·simp
theorem Ca {w :World} {b :Nat} (h :w.heap[b]? =some (.cells Ap 37)) : (w.cell? ⟨b,0,none⟩ =some (.int .i64 0) ∧w.cell? ⟨b,1,none⟩ =some (.int .i64 0) ∧w.cell? ⟨b,2,none⟩ =some (.int .i64 0) ∧w.cell? ⟨b,3,none⟩ =some (.string noW) ∧w.cell? ⟨b,4,none⟩ =some (.string noW) ∧w.cell? ⟨b,5,none⟩ =some (.string noW) ∧w.cell? ⟨b,6,none⟩ =some (.int .i64 0) ∧w.cell? ⟨b,7,none⟩ =some (.slice none 0 0)) ∧ (w.frozen? ⟨b,0,none⟩ =false∧w.frozen? ⟨b,1,none⟩ =false∧w.frozen? ⟨b,2,none⟩ =false∧w.frozen? ⟨b,3,none⟩ =false∧w.frozen? ⟨b,4,none⟩ =false∧w.frozen? ⟨b,5,none⟩ =false∧w.frozen? ⟨b,6,none⟩ =false∧w.frozen? ⟨b,7,none⟩ =false) :=
 ⟨Cq h rfl,Ab h 0,Ab h 1,Ab h 2,Ab h 3,Ab h 4,Ab h 5,Ab h 6,Ab h 7⟩
theorem Fk (w :World) (o o' :Obj) : ((w.alloc o).alloc o').heap[w.heap.size+1]? =some o' :=by
 have :=Ad (w.alloc o) o'
 rw [World.size_alloc] at this
 exact this
theorem Kn (w :World) (o o' :Obj) :Below w.heap.size w ((w.alloc o).alloc o') := ((Below.refl _ _).alloc (Nat.le_refl _) _).alloc (by simp) _
set_option maxHeartbeats 4000000 in
theorem Ab4 (sub :St→E×St) (d :Int) (hp :Kd 80 sub d) (a :Nat) (s :St) (w :World) (h :Rd w a s d) (he :Env w) (ha :16≤a) (hx : (Ag As s).1=true) :
  Calls Tryz.prog 124 #[.pointer (some ⟨a,0,none⟩)] w fun e w'=> ∃v,e= .returned v∧IsE (Fr w.heap.size) w' (sub (Ag As s).2).1 v∧Rd w' a (Ar Aq (sub (Ag As s).2).2) d∧But a w w' :=by
 generalize hW :w.alloc (.cells Ap 37) =W
 have HW :Hid _ :=hW
 have hb0 :Below w.heap.size w W :=by rw [←hW];exact (Below.refl _ _).alloc (Nat.le_refl _) _
 have b0 :W.heap[w.heap.size]? =some (.cells Ap 37) :=by rw [←hW];exact Ad w _
 have hWs :W.heap.size=w.heap.size+1 :=by rw [←hW,World.size_alloc]
 clear hW
 have hla :=h.lt
 have ne0 :w.heap.size≠a :=by omega
 have SK :=Du a As s d W (h.below hb0) (by decide) hx
 generalize (Ag As s).2=s1 at SK⊢
 have DP :=fun w1 (h1 :Rd w1 a s1 d) (e1 :Env w1) =>hp a s1 w1 h1 e1 ha
 generalize sub s1=q at DP⊢
 obtain ⟨E1,s2⟩ :=q
 simp only at DP⊢
 clear hx
 go_enter Tryz.func124,Tryz.ntmps124
 go_wp2_with fail
 rw [HW.out]
 go_wp2_with (first
  | (go_at_call 47;go_must (go_fit SK;rintro e w1 ⟨rfl,hr1,hb1⟩;have DP1 :=DP w1 hr1 (he.but ((But.of_below hb0).trans hb1) ha);have b1 :=Ac hb1 b0 ne0))
  | (go_at_call 115;go_must (go_fit DP1;rintro e w2 ⟨v,rfl,hE,hr2,hb2⟩;have b2 :=Ac hb2 b1 ne0;obtain ⟨op,x,xs,nmv,n,ao,k,c,rfl⟩ :=hE.shape;obtain ⟨xk,xn,xs2⟩ :=x;have hl2 :=hr2.lt;have WN :=Pv a (w2.heap.size+1) 1 Aq s2 d ((w2.alloc (.cells #[.int .i64 op, .int .i64 xk, .int .i64 xn, .string xs2, .string xs, .string nmv, .int .i64 n, .slice ao k c] 37)).alloc (.cells #[.string Aq] 9)) (hr2.below (Kn _ _ _)) (by decide) (by omega) (Aa (Fk _ _ _) rfl)))
  | (go_at_call 23;go_must (go_fit WN;rintro e w3 ⟨rfl,hr3,hb3⟩;have b3 :=Ac hb3 (Ae (Ae b2 (.cells #[.int .i64 op, .int .i64 xk, .int .i64 xn, .string xs2, .string xs, .string nmv, .int .i64 n, .slice ao k c] 37)) (.cells #[.string Aq] 9)) ne0;obtain ⟨⟨q0,q1,q2,q3,q4,q5,q6,q7⟩,f0,f1,f2,f3,f4,f5,f6,f7⟩ :=Ca b3;have bl :=Ac hb3 (Ae (Ad w2 (.cells #[.int .i64 op, .int .i64 xk, .int .i64 xn, .string xs2, .string xs, .string nmv, .int .i64 n, .slice ao k c] 37)) (.cells #[.string Aq] 9)) (show w2.heap.size≠a by omega);obtain ⟨l0,l1,l2,l3,l4,l5,l6,l7⟩ :=Cq bl rfl)))
 refine bodyPost_ret (v := .agg #[.int .i64 op, .int .i64 xk, .int .i64 xn, .string xs2, .string xs, .string nmv, .int .i64 n, .slice ao k c]) (by simp [results,Tryz.results124,go_sem,q0,q1,q2,q3,q4,q5,q6,q7]) rfl ⟨_,rfl, ?_, ?_, ?_⟩
 ·have h12 :=hb1.size
  exact IsE.mono (fun k _ hk=>by have :w1.heap.size≤k :=hk;show w.heap.size≤k;omega) _ _ (IsE.keep ((((Bb (Kn _ _ _)).trans (hb3.keeps (show ¬w1.heap.size≤a by omega)))).set8 (show ¬w1.heap.size≤w.heap.size by omega) _ _ _ _ _ _ _ _) _ _ hE)
 ·exact hr3.set8 ne0 _ _ _ _ _ _ _ _
 ·exact (((((But.of_below hb0).trans hb1).trans hb2).trans (.of_below (Kn _ _ _))).trans hb3).set8 (Nat.le_refl _) _ _ _ _ _ _ _ _
end Go.Proofs.YtifjaegfpdjikaaGreatDoor

