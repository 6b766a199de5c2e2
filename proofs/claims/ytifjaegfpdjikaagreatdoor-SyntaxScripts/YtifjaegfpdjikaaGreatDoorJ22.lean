/-
  1 texts of this proof in one, in build order: SQuery.
-/
import Derived.Test.YtifjaegfpdjikaaGreatDoorJ21
set_option linter.unusedSimpArgs false
set_option linter.unusedVariables false
namespace Go.Proofs.YtifjaegfpdjikaaGreatDoor
open Go.RowKit
def Dw (a :Nat) (k :Wd) (s :St) (b :Bool) (s2 :St) :Prop := ∀v,Rd v a s 0→Calls Tryz.prog 47 #[.pointer (some ⟨a,0,none⟩), .string k] v fun e w'=>e= .returned (.bool b) ∧Rd w' a s2 0∧But a v w'
def Ik (a :Nat) (k :Wd) (s s2 :St) :Prop := ∀v,Rd v a s 0→ ∀m,v.heap.size=m→Calls Tryz.prog 23 #[.pointer (some ⟨a,0,none⟩), .slice (some ⟨m,0,none⟩) 1 1] (v.alloc (.cells #[.string k] 9)) fun e w'=>e= .returned (.tuple #[]) ∧Rd w' a s2 0∧But a v w'
def Oi (a :Nat) (s :St) (l :List E) (s2 :St) :Prop := ∀v,Rd v a s 0→Env v→Calls Tryz.prog 79 #[.pointer (some ⟨a,0,none⟩), .func (.func 80) #[.pointer (some ⟨a,0,none⟩)] #[]] v fun e w'=> ∃sv,e= .returned sv∧IsL Dc (Fr v.heap.size) w' sv l∧Rd w' a s2 0∧But a v w'
def Jn (a :Nat) (s :St) (l :List Wd) (s2 :St) :Prop := ∀v,Rd v a s 0→Env v→Calls Tryz.prog 81 #[.pointer (some ⟨a,0,none⟩), .func (.func 73) #[.pointer (some ⟨a,0,none⟩)] #[]] v fun e w'=> ∃sv,e= .returned sv∧IsL Hj (Fr v.heap.size) w' sv l∧Rd w' a s2 0∧But a v w'
def Jo (a :Nat) (s :St) (x :E) (s2 :St) :Prop := ∀v,Rd v a s 0→Env v→Calls Tryz.prog 76 #[.pointer (some ⟨a,0,none⟩)] v fun e w'=> ∃y,e= .returned y∧IsE (Fr v.heap.size) w' x y∧Rd w' a s2 0∧But a v w'
def Re (a :Nat) (s :St) (x :E) (s2 :St) :Prop := ∀v,Rd v a s 0→Env v→Calls Tryz.prog 80 #[.pointer (some ⟨a,0,none⟩)] v fun e w'=> ∃y,e= .returned y∧IsE (Fr v.heap.size) w' x y∧Rd w' a s2 0∧But a v w'
def U1 (a :Nat) (s :St) (n :Int) (s2 :St) :Prop := ∀v,Rd v a s 0→Env v→Calls Tryz.prog 82 #[.pointer (some ⟨a,0,none⟩)] v fun e w'=>e= .returned (.int .i64 n) ∧Rd w' a s2 0∧But a v w'
set_option maxHeartbeats 4000000 in
set_option maxRecDepth 100000 in
theorem Z7 (a :Nat) (s :St) (w :World) (h :Rd w a s 0) (he :Env w) (ha :16≤a) (s1 s3 s4 s5 s6 s7 s8 s9 s10 s11 :St) (hFl :List Wd) (WE :E) (E1 :E) (dn :Bool) (nn :Int) (C1 :Dw a A9 s true s1) (C2 :Ik a Az s1 s3) (C3 :Jn a s3 hFl s4) (C4 :Jo a s4 WE s5) (C5 :Dw a Bl s5 true s6) (C6 :Ik a kBy s6 s7) (C7 :Re a s7 E1 s8) (C8 :Dw a Co s8 dn s9) (C9 :Dw a Cr s9 true s10) (C10 :U1 a s10 nn s11) :
  Calls Tryz.prog 53 #[.pointer (some ⟨a,0,none⟩)] w fun e w'=> ∃c,e= .returned (Dv c) ∧Fq.R (Fr w.heap.size) w' ⟨7,noW,noW,noW,[],[],[],hFl,[],WE,[E1],dn,nn⟩ c∧Rd w' a s11 0∧But a w w' :=by
 have hla :=h.lt
 have hone : (Ai 7).all (·.oneCell') =true :=Cy (Al _ _ _) (Al _ _ _) (Al _ _ _) (Al _ _ _) (Al _ _ _) (Al _ _ _) (Al _ _ _)
 go_enter Tryz.func53,Tryz.ntmps53
 go_wp2_with fail
 generalize hW :w.alloc (.cells Ah 39) =W
 have hb0 :Below w.heap.size w W :=by rw [←hW];exact (Below.refl _ _).alloc (Nat.le_refl _) _
 have b0 :W.heap[w.heap.size]? =some (.cells Ah 39) :=by rw [←hW];exact Ad w _
 have hWs :W.heap.size=w.heap.size+1 :=by rw [←hW,World.size_alloc]
 clear hW
 go_fit (D0 7 W)
 rintro e w1 ⟨rfl,hb1⟩
 have hs1 :=hb1.size
 have b1 :=Ae ((hb1.block _ (lt_of_block b0)).trans b0) (.cells Ah 39)
 have c1 :=Ad w1 (.cells Ah 39)
 go_wp2_with (refine wpList_store_row rfl 39 _ _ rfl w1.heap.size (Ai 7) rfl rfl 39 Ah c1 Af rfl hone ?_)
 generalize hX : (w1.alloc (.cells Ah 39)).setRow w1.heap.size (Ai 7) =X0
 have hRL :w.heap.size≠w1.heap.size :=by omega
 have bR0 :X0.heap[w.heap.size]? =some (.cells Ah 39) :=by rw [←hX];exact Bu b1 hRL _
 have bL0 :X0.heap[w1.heap.size]? =some (.cells #[.int .i64 7, .string noW, .string noW, .string noW, .slice none 0 0, .slice none 0 0, .slice none 0 0, .slice none 0 0, .slice none 0 0, .int .i64 0, .int .i64 0, .int .i64 0, .string noW, .string noW, .string noW, .int .i64 0, .slice none 0 0, .slice none 0 0, .bool false, .int .i64 (-1)] 39) :=by rw [←hX];exact Am c1
 have but0 :But a w X0 :=by rw [←hX];exact ((But.of_below (Do hb0 hb1)).alloc _).row (by omega) _
 have rd0 :Rd X0 a s 0 :=by rw [←hX];exact ((h.below (Do hb0 hb1)).below ((Below.refl _ _).alloc (Nat.le_refl _) _)).row (by omega) _
 have szX0 :X0.heap.size=w1.heap.size+1 :=by rw [←hX];simp [World.setRow]
 have hL :w.heap.size<w1.heap.size :=by omega
 clear hX hb1 b1 c1 hs1 hb0 b0
 generalize w1.heap.size=L at bL0 hRL hL szX0⊢
 have neL :L≠a :=by omega
 have neR :w.heap.size≠a :=by omega
 go_fit (C1 X0 rd0)
 rintro e v1 ⟨rfl,rd1,hb1_⟩
 have bR1 :=Ac hb1_ bR0 neR
 have bL1 :=Ac hb1_ bL0 neL
 have but1 :=but0.trans hb1_
 have sz1 :=hb1_.size
 have kp1 :Keeps (Fr (L+1)) X0 v1 :=hb1_.keeps (show ¬L+1≤a by omega)
 have szv1 :v1.heap.size=v1.heap.size :=rfl
 go_wp2_with fail
 generalize v1=Y1 at bR1 bL1 but1 rd1⊢
 go_fit (C2 Y1 rd1 _ rfl)
 rintro e v2 ⟨rfl,rd2,hb2_⟩
 have bR2 :=Ac hb2_ bR1 neR
 have bL2 :=Ac hb2_ bL1 neL
 have but2 :=but1.trans hb2_
 have sz2 :=hb2_.size
 have kp2 :Keeps (Fr (L+1)) Y1 v2 :=hb2_.keeps (show ¬L+1≤a by omega)
 have szv2 :v2.heap.size=v2.heap.size :=rfl
 go_wp2_with fail
 generalize v2=Y2 at bR2 bL2 but2 rd2⊢
 go_fit (C3 Y2 rd2 (he.but but2 ha))
 rintro e v3 ⟨sv3,rfl,hF0,rd3,hb3_⟩
 obtain ⟨ao3,cp3,rfl⟩ :=hF0.shape
 have szL3 :=lt_of_block bL2
 have hF1 :=hF0.mono (F' :=Fr (L+1)) (fun k _ hk=>by have : (Y2).heap.size≤k :=hk;show L+1≤k;omega)
 have bR3 :=Ac hb3_ bR2 neR
 have bL3 :=Ac hb3_ bL2 neL
 have but3 :=but2.trans hb3_
 have sz3 :=hb3_.size
 have kp3 :Keeps (Fr (L+1)) Y2 v3 :=hb3_.keeps (show ¬L+1≤a by omega)
 have szv3 :v3.heap.size=v3.heap.size :=rfl
 have q3 :=Aa bL3 (j :=7) rfl
 have f3 :=Ab bL3 7
 have bLu3 : (v3.setCell ⟨L,7,none⟩ (.slice ao3 hFl.length cp3)).heap[L]? =some (.cells #[.int .i64 7, .string noW, .string noW, .string noW, .slice none 0 0, .slice none 0 0, .slice none 0 0, .slice ao3 hFl.length cp3, .slice none 0 0, .int .i64 0, .int .i64 0, .int .i64 0, .string noW, .string noW, .string noW, .int .i64 0, .slice none 0 0, .slice none 0 0, .bool false, .int .i64 (-1)] 39) :=by
  have g :=upd bL3 7 (.slice ao3 hFl.length cp3)
  simp only [List.setIfInBounds_toArray,List.set_cons_succ,List.set_cons_zero] at g
  exact g
 have bRu3 :=Aj bR3 hRL 7 (.slice ao3 hFl.length cp3)
 have butu3 :=but3.new (b :=L) (by omega) 7 (.slice ao3 hFl.length cp3)
 have rdu3 :=rd3.other neL 7 (.slice ao3 hFl.length cp3)
 have ku3 :Keeps (Fr (L+1)) v3 (v3.setCell ⟨L,7,none⟩ (.slice ao3 hFl.length cp3)) := (Keeps.refl _ _).set (show ¬L+1≤L by omega) _ _
 have hF_1 :=hF1.keep ku3
 have szu3 : (v3.setCell ⟨L,7,none⟩ (.slice ao3 hFl.length cp3)).heap.size=v3.heap.size :=by simp [World.setCell]
 go_wp2_with fail
 generalize (v3.setCell ⟨L,7,none⟩ (.slice ao3 hFl.length cp3)) =Y3 at bRu3 bLu3 butu3 rdu3 szu3 hF_1⊢
 go_fit (C4 Y3 rdu3 (he.but butu3 ha))
 rintro e v4 ⟨vv,rfl,hE0,rd4,hb4_⟩
 obtain ⟨op,x,xs,nmv,n8,ao8,k8,c8,rfl⟩ :=hE0.shape
 obtain ⟨xk,xn,xs2⟩ :=x
 have szL4 :=lt_of_block bLu3
 have hE1 :=IsE.mono (F' :=Fr (L+1)) (fun k _ hk=>by have : (Y3).heap.size≤k :=hk;show L+1≤k;omega) _ _ hE0
 have bR4 :=Ac hb4_ bRu3 neR
 have bL4 :=Ac hb4_ bLu3 neL
 have but4 :=butu3.trans hb4_
 have sz4 :=hb4_.size
 have kp4 :Keeps (Fr (L+1)) Y3 v4 :=hb4_.keeps (show ¬L+1≤a by omega)
 have hF_2 :=hF_1.keep kp4
 have szv4 :v4.heap.size=v4.heap.size :=rfl
 have y0 :=Aa bL4 (j :=9) rfl
 have z0 :=Ab bL4 9
 have y1 :=Aa bL4 (j :=10) rfl
 have z1 :=Ab bL4 10
 have y2 :=Aa bL4 (j :=11) rfl
 have z2 :=Ab bL4 11
 have y3 :=Aa bL4 (j :=12) rfl
 have z3 :=Ab bL4 12
 have y4 :=Aa bL4 (j :=13) rfl
 have z4 :=Ab bL4 13
 have y5 :=Aa bL4 (j :=14) rfl
 have z5 :=Ab bL4 14
 have y6 :=Aa bL4 (j :=15) rfl
 have z6 :=Ab bL4 15
 have y7 :=Aa bL4 (j :=16) rfl
 have z7 :=Ab bL4 16
 have hth :v4.there L 9 8 :=by
  intro j hj
  match j,hj with
  | 0,_=>exact ⟨by rw [y0];rfl,z0⟩
  | 1,_=>exact ⟨by rw [y1];rfl,z1⟩
  | 2,_=>exact ⟨by rw [y2];rfl,z2⟩
  | 3,_=>exact ⟨by rw [y3];rfl,z3⟩
  | 4,_=>exact ⟨by rw [y4];rfl,z4⟩
  | 5,_=>exact ⟨by rw [y5];rfl,z5⟩
  | 6,_=>exact ⟨by rw [y6];rfl,z6⟩
  | 7,_=>exact ⟨by rw [y7];rfl,z7⟩
 clear y0 y1 y2 y3 y4 y5 y6 y7 z0 z1 z2 z3 z4 z5 z6 z7
 have hone8 : (#[.int .i64 op, .int .i64 xk, .int .i64 xn, .string xs2, .string xs, .string nmv, .int .i64 n8, .slice ao8 k8 c8] :Array Value).all (·.oneCell') =true :=by simp [Value.oneCell']
 have bLw : (v4.setCells L 9 [.int .i64 op, .int .i64 xk, .int .i64 xn, .string xs2, .string xs, .string nmv, .int .i64 n8, .slice ao8 k8 c8]).heap[L]? =some (.cells #[.int .i64 7, .string noW, .string noW, .string noW, .slice none 0 0, .slice none 0 0, .slice none 0 0, .slice ao3 hFl.length cp3, .slice none 0 0, .int .i64 op, .int .i64 xk, .int .i64 xn, .string xs2, .string xs, .string nmv, .int .i64 n8, .slice ao8 k8 c8, .slice none 0 0, .bool false, .int .i64 (-1)] 39) :=by
  have g :=upd (upd (upd (upd (upd (upd (upd (upd bL4 9 (.int .i64 op)) 10 (.int .i64 xk)) 11 (.int .i64 xn)) 12 (.string xs2)) 13 (.string xs)) 14 (.string nmv)) 15 (.int .i64 n8)) 16 (.slice ao8 k8 c8)
  simp only [List.setIfInBounds_toArray,List.set_cons_succ,List.set_cons_zero] at g
  exact g
 have bRw : (v4.setCells L 9 [.int .i64 op, .int .i64 xk, .int .i64 xn, .string xs2, .string xs, .string nmv, .int .i64 n8, .slice ao8 k8 c8]).heap[w.heap.size]? =some (.cells Ah 39) :=Eu bR4 hRL _ _ _ _ _ _ _ _
 have butw :But a w (v4.setCells L 9 [.int .i64 op, .int .i64 xk, .int .i64 xn, .string xs2, .string xs, .string nmv, .int .i64 n8, .slice ao8 k8 c8]) :=but4.set8m (by omega) _ _ _ _ _ _ _ _
 have rdw :Rd (v4.setCells L 9 [.int .i64 op, .int .i64 xk, .int .i64 xn, .string xs2, .string xs, .string nmv, .int .i64 n8, .slice ao8 k8 c8]) a s5 0 :=rd4.set8m neL _ _ _ _ _ _ _ _
 have kw :Keeps (Fr (L+1)) v4 (v4.setCells L 9 [.int .i64 op, .int .i64 xk, .int .i64 xn, .string xs2, .string xs, .string nmv, .int .i64 n8, .slice ao8 k8 c8]) := (Keeps.refl _ _).set8m (show ¬L+1≤L by omega) _ _ _ _ _ _ _ _
 have hF_3 :=hF_2.keep kw
 have hE_4 :=IsE.keep kw _ _ hE1
 have szw : (v4.setCells L 9 [.int .i64 op, .int .i64 xk, .int .i64 xn, .string xs2, .string xs, .string nmv, .int .i64 n8, .slice ao8 k8 c8]).heap.size=v4.heap.size :=by simp [World.setCells,World.setCell]
 simp only []
 go_step
 go_step
 go_step
 go_step
 refine wpList_store_mid rfl 37 _ _ rfl L 9 #[.int .i64 op, .int .i64 xk, .int .i64 xn, .string xs2, .string xs, .string nmv, .int .i64 n8, .slice ao8 k8 c8] rfl rfl hth Fd hone8 ?_
 go_step
 go_step
 go_step
 go_wp2_with fail
 generalize (v4.setCells L 9 [.int .i64 op, .int .i64 xk, .int .i64 xn, .string xs2, .string xs, .string nmv, .int .i64 n8, .slice ao8 k8 c8]) =Y4 at bRw bLw butw rdw szw hF_3 hE_4⊢
 go_fit (C5 Y4 rdw)
 rintro e v5 ⟨rfl,rd5,hb5_⟩
 have bR5 :=Ac hb5_ bRw neR
 have bL5 :=Ac hb5_ bLw neL
 have but5 :=butw.trans hb5_
 have sz5 :=hb5_.size
 have kp5 :Keeps (Fr (L+1)) Y4 v5 :=hb5_.keeps (show ¬L+1≤a by omega)
 have hF_5 :=hF_3.keep kp5
 have hE_6 :=IsE.keep kp5 _ _ hE_4
 have szv5 :v5.heap.size=v5.heap.size :=rfl
 go_wp2_with fail
 generalize v5=Y5 at bR5 bL5 but5 rd5 hF_5 hE_6⊢
 go_fit (C6 Y5 rd5 _ rfl)
 rintro e v6 ⟨rfl,rd6,hb6_⟩
 have bR6 :=Ac hb6_ bR5 neR
 have bL6 :=Ac hb6_ bL5 neL
 have but6 :=but5.trans hb6_
 have sz6 :=hb6_.size
 have kp6 :Keeps (Fr (L+1)) Y5 v6 :=hb6_.keeps (show ¬L+1≤a by omega)
 have hF_7 :=hF_5.keep kp6
 have hE_8 :=IsE.keep kp6 _ _ hE_6
 have szv6 :v6.heap.size=v6.heap.size :=rfl
 go_wp2_with fail
 generalize v6=Y6 at bR6 bL6 but6 rd6 hF_7 hE_8⊢
 go_fit (C7 Y6 rd6 (he.but but6 ha))
 rintro e v7 ⟨vv7,rfl,hD0,rd7,hb7_⟩
 obtain ⟨opd,xd,xsd,nmd,nd,aod,kd,cd,rfl⟩ :=hD0.shape
 obtain ⟨xkd,xnd,xsd2⟩ :=xd
 have szL7 :=lt_of_block bL6
 have hD1 :=IsE.mono (F' :=Fr (L+1)) (fun k _ hk=>by have : (Y6).heap.size≤k :=hk;show L+1≤k;omega) _ _ hD0
 have bR7 :=Ac hb7_ bR6 neR
 have bL7 :=Ac hb7_ bL6 neL
 have but7 :=but6.trans hb7_
 have sz7 :=hb7_.size
 have kp7 :Keeps (Fr (L+1)) Y6 v7 :=hb7_.keeps (show ¬L+1≤a by omega)
 have hF_9 :=hF_7.keep kp7
 have hE_10 :=IsE.keep kp7 _ _ hE_8
 have szv7 :v7.heap.size=v7.heap.size :=rfl
 have hD2 :IsL Dc (Fr (L+1)) (v7.alloc (.cells #[.int .i64 opd, .int .i64 xkd, .int .i64 xnd, .string xsd2, .string xsd, .string nmd, .int .i64 nd, .slice aod kd cd] 37)) (.slice (some ⟨v7.heap.size,0,none⟩) 1 1) [E1] :=Adx.2 (G4 hD1 (show L+1≤v7.heap.size by have :=lt_of_block bL7;omega))
 have ka7 :Keeps (Fr (L+1)) v7 (v7.alloc (.cells #[.int .i64 opd, .int .i64 xkd, .int .i64 xnd, .string xsd2, .string xsd, .string nmd, .int .i64 nd, .slice aod kd cd] 37)) := (Keeps.refl _ _).alloc _
 have bRa7 :=Ae bR7 (.cells #[.int .i64 opd, .int .i64 xkd, .int .i64 xnd, .string xsd2, .string xsd, .string nmd, .int .i64 nd, .slice aod kd cd] 37)
 have bLa7 :=Ae bL7 (.cells #[.int .i64 opd, .int .i64 xkd, .int .i64 xnd, .string xsd2, .string xsd, .string nmd, .int .i64 nd, .slice aod kd cd] 37)
 have buta7 :=but7.alloc (.cells #[.int .i64 opd, .int .i64 xkd, .int .i64 xnd, .string xsd2, .string xsd, .string nmd, .int .i64 nd, .slice aod kd cd] 37)
 have rda7 :=rd7.below ((Below.refl _ _).alloc (Nat.le_refl _) (.cells #[.int .i64 opd, .int .i64 xkd, .int .i64 xnd, .string xsd2, .string xsd, .string nmd, .int .i64 nd, .slice aod kd cd] 37))
 have hF_11 :=hF_9.keep ka7
 have hE_12 :=IsE.keep ka7 _ _ hE_10
 have q7 :=Aa bLa7 (j :=17) rfl
 have f7 :=Ab bLa7 17
 have bLu7 : ((v7.alloc (.cells #[.int .i64 opd, .int .i64 xkd, .int .i64 xnd, .string xsd2, .string xsd, .string nmd, .int .i64 nd, .slice aod kd cd] 37)).setCell ⟨L,17,none⟩ (.slice (some ⟨v7.heap.size,0,none⟩) 1 1)).heap[L]? =some (.cells #[.int .i64 7, .string noW, .string noW, .string noW, .slice none 0 0, .slice none 0 0, .slice none 0 0, .slice ao3 hFl.length cp3, .slice none 0 0, .int .i64 op, .int .i64 xk, .int .i64 xn, .string xs2, .string xs, .string nmv, .int .i64 n8, .slice ao8 k8 c8, .slice (some ⟨v7.heap.size,0,none⟩) 1 1, .bool false, .int .i64 (-1)] 39) :=by
  have g :=upd bLa7 17 (.slice (some ⟨v7.heap.size,0,none⟩) 1 1)
  simp only [List.setIfInBounds_toArray,List.set_cons_succ,List.set_cons_zero] at g
  exact g
 have bRu7 :=Aj bRa7 hRL 17 (.slice (some ⟨v7.heap.size,0,none⟩) 1 1)
 have butu7 :=buta7.new (b :=L) (by omega) 17 (.slice (some ⟨v7.heap.size,0,none⟩) 1 1)
 have rdu7 :=rda7.other neL 17 (.slice (some ⟨v7.heap.size,0,none⟩) 1 1)
 have ku7 :Keeps (Fr (L+1)) (v7.alloc (.cells #[.int .i64 opd, .int .i64 xkd, .int .i64 xnd, .string xsd2, .string xsd, .string nmd, .int .i64 nd, .slice aod kd cd] 37)) ((v7.alloc (.cells #[.int .i64 opd, .int .i64 xkd, .int .i64 xnd, .string xsd2, .string xsd, .string nmd, .int .i64 nd, .slice aod kd cd] 37)).setCell ⟨L,17,none⟩ (.slice (some ⟨v7.heap.size,0,none⟩) 1 1)) := (Keeps.refl _ _).set (show ¬L+1≤L by omega) _ _
 have hF_13 :=hF_11.keep ku7
 have hE_14 :=IsE.keep ku7 _ _ hE_12
 have hD_15 :=hD2.keep ku7
 have szu7 : ((v7.alloc (.cells #[.int .i64 opd, .int .i64 xkd, .int .i64 xnd, .string xsd2, .string xsd, .string nmd, .int .i64 nd, .slice aod kd cd] 37)).setCell ⟨L,17,none⟩ (.slice (some ⟨v7.heap.size,0,none⟩) 1 1)).heap.size= (v7.alloc (.cells #[.int .i64 opd, .int .i64 xkd, .int .i64 xnd, .string xsd2, .string xsd, .string nmd, .int .i64 nd, .slice aod kd cd] 37)).heap.size :=by simp [World.setCell]
 go_wp2_with fail
 generalize ((v7.alloc (.cells #[.int .i64 opd, .int .i64 xkd, .int .i64 xnd, .string xsd2, .string xsd, .string nmd, .int .i64 nd, .slice aod kd cd] 37)).setCell ⟨L,17,none⟩ (.slice (some ⟨v7.heap.size,0,none⟩) 1 1)) =Y7 at bRu7 bLu7 butu7 rdu7 szu7 hF_13 hE_14 hD_15⊢
 go_fit (C8 Y7 rdu7)
 rintro e v8 ⟨rfl,rd8,hb8_⟩
 have bR8 :=Ac hb8_ bRu7 neR
 have bL8 :=Ac hb8_ bLu7 neL
 have but8 :=butu7.trans hb8_
 have sz8 :=hb8_.size
 have kp8 :Keeps (Fr (L+1)) Y7 v8 :=hb8_.keeps (show ¬L+1≤a by omega)
 have hF_16 :=hF_13.keep kp8
 have hE_17 :=IsE.keep kp8 _ _ hE_14
 have hD_18 :=hD_15.keep kp8
 have szv8 :v8.heap.size=v8.heap.size :=rfl
 have q8 :=Aa bL8 (j :=18) rfl
 have f8 :=Ab bL8 18
 have bLu8 : (v8.setCell ⟨L,18,none⟩ (.bool dn)).heap[L]? =some (.cells #[.int .i64 7, .string noW, .string noW, .string noW, .slice none 0 0, .slice none 0 0, .slice none 0 0, .slice ao3 hFl.length cp3, .slice none 0 0, .int .i64 op, .int .i64 xk, .int .i64 xn, .string xs2, .string xs, .string nmv, .int .i64 n8, .slice ao8 k8 c8, .slice (some ⟨v7.heap.size,0,none⟩) 1 1, .bool dn, .int .i64 (-1)] 39) :=by
  have g :=upd bL8 18 (.bool dn)
  simp only [List.setIfInBounds_toArray,List.set_cons_succ,List.set_cons_zero] at g
  exact g
 have bRu8 :=Aj bR8 hRL 18 (.bool dn)
 have butu8 :=but8.new (b :=L) (by omega) 18 (.bool dn)
 have rdu8 :=rd8.other neL 18 (.bool dn)
 have ku8 :Keeps (Fr (L+1)) v8 (v8.setCell ⟨L,18,none⟩ (.bool dn)) := (Keeps.refl _ _).set (show ¬L+1≤L by omega) _ _
 have hF_19 :=hF_16.keep ku8
 have hE_20 :=IsE.keep ku8 _ _ hE_17
 have hD_21 :=hD_18.keep ku8
 have szu8 : (v8.setCell ⟨L,18,none⟩ (.bool dn)).heap.size=v8.heap.size :=by simp [World.setCell]
 go_wp2_with fail
 generalize (v8.setCell ⟨L,18,none⟩ (.bool dn)) =Y8 at bRu8 bLu8 butu8 rdu8 szu8 hF_19 hE_20 hD_21⊢
 go_fit (C9 Y8 rdu8)
 rintro e v9 ⟨rfl,rd9,hb9_⟩
 have bR9 :=Ac hb9_ bRu8 neR
 have bL9 :=Ac hb9_ bLu8 neL
 have but9 :=butu8.trans hb9_
 have sz9 :=hb9_.size
 have kp9 :Keeps (Fr (L+1)) Y8 v9 :=hb9_.keeps (show ¬L+1≤a by omega)
 have hF_22 :=hF_19.keep kp9
 have hE_23 :=IsE.keep kp9 _ _ hE_20
 have hD_24 :=hD_21.keep kp9
 have szv9 :v9.heap.size=v9.heap.size :=rfl
 go_wp2_with fail
 generalize v9=Y9 at bR9 bL9 but9 rd9 hF_22 hE_23 hD_24⊢
 go_fit (C10 Y9 rd9 (he.but but9 ha))
 rintro e v10 ⟨rfl,rd10,hb10_⟩
 have bR10 :=Ac hb10_ bR9 neR
 have bL10 :=Ac hb10_ bL9 neL
 have but10 :=but9.trans hb10_
 have sz10 :=hb10_.size
 have kp10 :Keeps (Fr (L+1)) Y9 v10 :=hb10_.keeps (show ¬L+1≤a by omega)
 have hF_25 :=hF_22.keep kp10
 have hE_26 :=IsE.keep kp10 _ _ hE_23
 have hD_27 :=hD_24.keep kp10
 have szv10 :v10.heap.size=v10.heap.size :=rfl
 have q10 :=Aa bL10 (j :=19) rfl
 have f10 :=Ab bL10 19
 have bLu10 : (v10.setCell ⟨L,19,none⟩ (.int .i64 nn)).heap[L]? =some (.cells #[.int .i64 7, .string noW, .string noW, .string noW, .slice none 0 0, .slice none 0 0, .slice none 0 0, .slice ao3 hFl.length cp3, .slice none 0 0, .int .i64 op, .int .i64 xk, .int .i64 xn, .string xs2, .string xs, .string nmv, .int .i64 n8, .slice ao8 k8 c8, .slice (some ⟨v7.heap.size,0,none⟩) 1 1, .bool dn, .int .i64 nn] 39) :=by
  have g :=upd bL10 19 (.int .i64 nn)
  simp only [List.setIfInBounds_toArray,List.set_cons_succ,List.set_cons_zero] at g
  exact g
 have bRu10 :=Aj bR10 hRL 19 (.int .i64 nn)
 have butu10 :=but10.new (b :=L) (by omega) 19 (.int .i64 nn)
 have rdu10 :=rd10.other neL 19 (.int .i64 nn)
 have ku10 :Keeps (Fr (L+1)) v10 (v10.setCell ⟨L,19,none⟩ (.int .i64 nn)) := (Keeps.refl _ _).set (show ¬L+1≤L by omega) _ _
 have hF_28 :=hF_25.keep ku10
 have hE_29 :=IsE.keep ku10 _ _ hE_26
 have hD_30 :=hD_27.keep ku10
 have szu10 : (v10.setCell ⟨L,19,none⟩ (.int .i64 nn)).heap.size=v10.heap.size :=by simp [World.setCell]
 have hone2 : (#[.int .i64 7, .string noW, .string noW, .string noW, .slice none 0 0, .slice none 0 0, .slice none 0 0, .slice ao3 hFl.length cp3, .slice none 0 0, .int .i64 op, .int .i64 xk, .int .i64 xn, .string xs2, .string xs, .string nmv, .int .i64 n8, .slice ao8 k8 c8, .slice (some ⟨v7.heap.size,0,none⟩) 1 1, .bool dn, .int .i64 nn] :Array Value).all (·.oneCell') =true :=Cy (Al _ _ _) (Al _ _ _) (Al _ _ _) (Al _ _ _) (Al _ _ _) (Al _ _ _) (Al _ _ _)
 go_wp2_with (first
  | refine wpList_load_row rfl 39 _ rfl L rfl 39 _ _ _ bLu10 Tryz.underlying39 rfl Af ?_
  | refine wpList_store_row rfl 39 _ _ rfl w.heap.size #[.int .i64 7, .string noW, .string noW, .string noW, .slice none 0 0, .slice none 0 0, .slice none 0 0, .slice ao3 hFl.length cp3, .slice none 0 0, .int .i64 op, .int .i64 xk, .int .i64 xn, .string xs2, .string xs, .string nmv, .int .i64 n8, .slice ao8 k8 c8, .slice (some ⟨v7.heap.size,0,none⟩) 1 1, .bool dn, .int .i64 nn] rfl rfl 39 Ah bRu10 Af rfl hone2 ?_)
 refine bodyPost_ret (v := .agg #[.int .i64 7, .string noW, .string noW, .string noW, .slice none 0 0, .slice none 0 0, .slice none 0 0, .slice ao3 hFl.length cp3, .slice none 0 0, .int .i64 op, .int .i64 xk, .int .i64 xn, .string xs2, .string xs, .string nmv, .int .i64 n8, .slice ao8 k8 c8, .slice (some ⟨v7.heap.size,0,none⟩) 1 1, .bool dn, .int .i64 nn]) (results_cell_row Tryz.results53 _ _ w.heap.size 39 _ _ _ rfl (Am bRu10) Tryz.underlying39 rfl Af) rfl ⟨(#[.int .i64 7, .string noW, .string noW, .string noW, .slice none 0 0, .slice none 0 0, .slice none 0 0, .slice ao3 hFl.length cp3, .slice none 0 0, .int .i64 op, .int .i64 xk, .int .i64 xn, .string xs2, .string xs, .string nmv, .int .i64 n8, .slice ao8 k8 c8, .slice (some ⟨v7.heap.size,0,none⟩) 1 1, .bool dn, .int .i64 nn] :Array Value).toList,rfl, ?_, ?_, ?_⟩
 ·have kz :Keeps (Fr (L+1)) (v10.setCell ⟨L,19,none⟩ (.int .i64 nn)) ((v10.setCell ⟨L,19,none⟩ (.int .i64 nn)).setRow w.heap.size #[.int .i64 7, .string noW, .string noW, .string noW, .slice none 0 0, .slice none 0 0, .slice none 0 0, .slice ao3 hFl.length cp3, .slice none 0 0, .int .i64 op, .int .i64 xk, .int .i64 xn, .string xs2, .string xs, .string nmv, .int .i64 n8, .slice ao8 k8 c8, .slice (some ⟨v7.heap.size,0,none⟩) 1 1, .bool dn, .int .i64 nn]) := (Keeps.refl _ _).row (show ¬L+1≤w.heap.size by omega) _
  exact Fq.mono (F :=Fr (L+1)) (fun k _ hk=>by have :L+1≤k :=hk;show w.heap.size≤k;omega) (D8 (IsL.nil _ _ _) (IsL.nil _ _ _) (IsL.nil _ _ _) (hF_28.keep kz) (IsL.nil _ _ _) (IsE.keep kz _ _ hE_29) (hD_30.keep kz))
 ·exact rdu10.row neR _
 ·exact butu10.row (Nat.le_refl _) _
set_option maxHeartbeats 4000000 in
set_option maxRecDepth 100000 in
theorem Z8 (a :Nat) (s :St) (w :World) (h :Rd w a s 0) (he :Env w) (ha :16≤a) (s1 s3 s4 s5 s6 s7 s8 s9 s10 :St) (hFl :List Wd) (WE :E) (E1 :E) (dn :Bool) (C1 :Dw a A9 s true s1) (C2 :Ik a Az s1 s3) (C3 :Jn a s3 hFl s4) (C4 :Jo a s4 WE s5) (C5 :Dw a Bl s5 true s6) (C6 :Ik a kBy s6 s7) (C7 :Re a s7 E1 s8) (C8 :Dw a Co s8 dn s9) (C9 :Dw a Cr s9 false s10) :
  Calls Tryz.prog 53 #[.pointer (some ⟨a,0,none⟩)] w fun e w'=> ∃c,e= .returned (Dv c) ∧Fq.R (Fr w.heap.size) w' ⟨7,noW,noW,noW,[],[],[],hFl,[],WE,[E1],dn, -1⟩ c∧Rd w' a s10 0∧But a w w' :=by
 have hla :=h.lt
 have hone : (Ai 7).all (·.oneCell') =true :=Cy (Al _ _ _) (Al _ _ _) (Al _ _ _) (Al _ _ _) (Al _ _ _) (Al _ _ _) (Al _ _ _)
 go_enter Tryz.func53,Tryz.ntmps53
 go_wp2_with fail
 generalize hW :w.alloc (.cells Ah 39) =W
 have hb0 :Below w.heap.size w W :=by rw [←hW];exact (Below.refl _ _).alloc (Nat.le_refl _) _
 have b0 :W.heap[w.heap.size]? =some (.cells Ah 39) :=by rw [←hW];exact Ad w _
 have hWs :W.heap.size=w.heap.size+1 :=by rw [←hW,World.size_alloc]
 clear hW
 go_fit (D0 7 W)
 rintro e w1 ⟨rfl,hb1⟩
 have hs1 :=hb1.size
 have b1 :=Ae ((hb1.block _ (lt_of_block b0)).trans b0) (.cells Ah 39)
 have c1 :=Ad w1 (.cells Ah 39)
 go_wp2_with (refine wpList_store_row rfl 39 _ _ rfl w1.heap.size (Ai 7) rfl rfl 39 Ah c1 Af rfl hone ?_)
 generalize hX : (w1.alloc (.cells Ah 39)).setRow w1.heap.size (Ai 7) =X0
 have hRL :w.heap.size≠w1.heap.size :=by omega
 have bR0 :X0.heap[w.heap.size]? =some (.cells Ah 39) :=by rw [←hX];exact Bu b1 hRL _
 have bL0 :X0.heap[w1.heap.size]? =some (.cells #[.int .i64 7, .string noW, .string noW, .string noW, .slice none 0 0, .slice none 0 0, .slice none 0 0, .slice none 0 0, .slice none 0 0, .int .i64 0, .int .i64 0, .int .i64 0, .string noW, .string noW, .string noW, .int .i64 0, .slice none 0 0, .slice none 0 0, .bool false, .int .i64 (-1)] 39) :=by rw [←hX];exact Am c1
 have but0 :But a w X0 :=by rw [←hX];exact ((But.of_below (Do hb0 hb1)).alloc _).row (by omega) _
 have rd0 :Rd X0 a s 0 :=by rw [←hX];exact ((h.below (Do hb0 hb1)).below ((Below.refl _ _).alloc (Nat.le_refl _) _)).row (by omega) _
 have szX0 :X0.heap.size=w1.heap.size+1 :=by rw [←hX];simp [World.setRow]
 have hL :w.heap.size<w1.heap.size :=by omega
 clear hX hb1 b1 c1 hs1 hb0 b0
 generalize w1.heap.size=L at bL0 hRL hL szX0⊢
 have neL :L≠a :=by omega
 have neR :w.heap.size≠a :=by omega
 go_fit (C1 X0 rd0)
 rintro e v1 ⟨rfl,rd1,hb1_⟩
 have bR1 :=Ac hb1_ bR0 neR
 have bL1 :=Ac hb1_ bL0 neL
 have but1 :=but0.trans hb1_
 have sz1 :=hb1_.size
 have kp1 :Keeps (Fr (L+1)) X0 v1 :=hb1_.keeps (show ¬L+1≤a by omega)
 have szv1 :v1.heap.size=v1.heap.size :=rfl
 go_wp2_with fail
 generalize v1=Y1 at bR1 bL1 but1 rd1⊢
 go_fit (C2 Y1 rd1 _ rfl)
 rintro e v2 ⟨rfl,rd2,hb2_⟩
 have bR2 :=Ac hb2_ bR1 neR
 have bL2 :=Ac hb2_ bL1 neL
 have but2 :=but1.trans hb2_
 have sz2 :=hb2_.size
 have kp2 :Keeps (Fr (L+1)) Y1 v2 :=hb2_.keeps (show ¬L+1≤a by omega)
 have szv2 :v2.heap.size=v2.heap.size :=rfl
 go_wp2_with fail
 generalize v2=Y2 at bR2 bL2 but2 rd2⊢
 go_fit (C3 Y2 rd2 (he.but but2 ha))
 rintro e v3 ⟨sv3,rfl,hF0,rd3,hb3_⟩
 obtain ⟨ao3,cp3,rfl⟩ :=hF0.shape
 have szL3 :=lt_of_block bL2
 have hF1 :=hF0.mono (F' :=Fr (L+1)) (fun k _ hk=>by have : (Y2).heap.size≤k :=hk;show L+1≤k;omega)
 have bR3 :=Ac hb3_ bR2 neR
 have bL3 :=Ac hb3_ bL2 neL
 have but3 :=but2.trans hb3_
 have sz3 :=hb3_.size
 have kp3 :Keeps (Fr (L+1)) Y2 v3 :=hb3_.keeps (show ¬L+1≤a by omega)
 have szv3 :v3.heap.size=v3.heap.size :=rfl
 have q3 :=Aa bL3 (j :=7) rfl
 have f3 :=Ab bL3 7
 have bLu3 : (v3.setCell ⟨L,7,none⟩ (.slice ao3 hFl.length cp3)).heap[L]? =some (.cells #[.int .i64 7, .string noW, .string noW, .string noW, .slice none 0 0, .slice none 0 0, .slice none 0 0, .slice ao3 hFl.length cp3, .slice none 0 0, .int .i64 0, .int .i64 0, .int .i64 0, .string noW, .string noW, .string noW, .int .i64 0, .slice none 0 0, .slice none 0 0, .bool false, .int .i64 (-1)] 39) :=by
  have g :=upd bL3 7 (.slice ao3 hFl.length cp3)
  simp only [List.setIfInBounds_toArray,List.set_cons_succ,List.set_cons_zero] at g
  exact g
 have bRu3 :=Aj bR3 hRL 7 (.slice ao3 hFl.length cp3)
 have butu3 :=but3.new (b :=L) (by omega) 7 (.slice ao3 hFl.length cp3)
 have rdu3 :=rd3.other neL 7 (.slice ao3 hFl.length cp3)
 have ku3 :Keeps (Fr (L+1)) v3 (v3.setCell ⟨L,7,none⟩ (.slice ao3 hFl.length cp3)) := (Keeps.refl _ _).set (show ¬L+1≤L by omega) _ _
 have hF_1 :=hF1.keep ku3
 have szu3 : (v3.setCell ⟨L,7,none⟩ (.slice ao3 hFl.length cp3)).heap.size=v3.heap.size :=by simp [World.setCell]
 go_wp2_with fail
 generalize (v3.setCell ⟨L,7,none⟩ (.slice ao3 hFl.length cp3)) =Y3 at bRu3 bLu3 butu3 rdu3 szu3 hF_1⊢
 go_fit (C4 Y3 rdu3 (he.but butu3 ha))
 rintro e v4 ⟨vv,rfl,hE0,rd4,hb4_⟩
 obtain ⟨op,x,xs,nmv,n8,ao8,k8,c8,rfl⟩ :=hE0.shape
 obtain ⟨xk,xn,xs2⟩ :=x
 have szL4 :=lt_of_block bLu3
 have hE1 :=IsE.mono (F' :=Fr (L+1)) (fun k _ hk=>by have : (Y3).heap.size≤k :=hk;show L+1≤k;omega) _ _ hE0
 have bR4 :=Ac hb4_ bRu3 neR
 have bL4 :=Ac hb4_ bLu3 neL
 have but4 :=butu3.trans hb4_
 have sz4 :=hb4_.size
 have kp4 :Keeps (Fr (L+1)) Y3 v4 :=hb4_.keeps (show ¬L+1≤a by omega)
 have hF_2 :=hF_1.keep kp4
 have szv4 :v4.heap.size=v4.heap.size :=rfl
 have y0 :=Aa bL4 (j :=9) rfl
 have z0 :=Ab bL4 9
 have y1 :=Aa bL4 (j :=10) rfl
 have z1 :=Ab bL4 10
 have y2 :=Aa bL4 (j :=11) rfl
 have z2 :=Ab bL4 11
 have y3 :=Aa bL4 (j :=12) rfl
 have z3 :=Ab bL4 12
 have y4 :=Aa bL4 (j :=13) rfl
 have z4 :=Ab bL4 13
 have y5 :=Aa bL4 (j :=14) rfl
 have z5 :=Ab bL4 14
 have y6 :=Aa bL4 (j :=15) rfl
 have z6 :=Ab bL4 15
 have y7 :=Aa bL4 (j :=16) rfl
 have z7 :=Ab bL4 16
 have hth :v4.there L 9 8 :=by
  intro j hj
  match j,hj with
  | 0,_=>exact ⟨by rw [y0];rfl,z0⟩
  | 1,_=>exact ⟨by rw [y1];rfl,z1⟩
  | 2,_=>exact ⟨by rw [y2];rfl,z2⟩
  | 3,_=>exact ⟨by rw [y3];rfl,z3⟩
  | 4,_=>exact ⟨by rw [y4];rfl,z4⟩
  | 5,_=>exact ⟨by rw [y5];rfl,z5⟩
  | 6,_=>exact ⟨by rw [y6];rfl,z6⟩
  | 7,_=>exact ⟨by rw [y7];rfl,z7⟩
 clear y0 y1 y2 y3 y4 y5 y6 y7 z0 z1 z2 z3 z4 z5 z6 z7
 have hone8 : (#[.int .i64 op, .int .i64 xk, .int .i64 xn, .string xs2, .string xs, .string nmv, .int .i64 n8, .slice ao8 k8 c8] :Array Value).all (·.oneCell') =true :=by simp [Value.oneCell']
 have bLw : (v4.setCells L 9 [.int .i64 op, .int .i64 xk, .int .i64 xn, .string xs2, .string xs, .string nmv, .int .i64 n8, .slice ao8 k8 c8]).heap[L]? =some (.cells #[.int .i64 7, .string noW, .string noW, .string noW, .slice none 0 0, .slice none 0 0, .slice none 0 0, .slice ao3 hFl.length cp3, .slice none 0 0, .int .i64 op, .int .i64 xk, .int .i64 xn, .string xs2, .string xs, .string nmv, .int .i64 n8, .slice ao8 k8 c8, .slice none 0 0, .bool false, .int .i64 (-1)] 39) :=by
  have g :=upd (upd (upd (upd (upd (upd (upd (upd bL4 9 (.int .i64 op)) 10 (.int .i64 xk)) 11 (.int .i64 xn)) 12 (.string xs2)) 13 (.string xs)) 14 (.string nmv)) 15 (.int .i64 n8)) 16 (.slice ao8 k8 c8)
  simp only [List.setIfInBounds_toArray,List.set_cons_succ,List.set_cons_zero] at g
  exact g
 have bRw : (v4.setCells L 9 [.int .i64 op, .int .i64 xk, .int .i64 xn, .string xs2, .string xs, .string nmv, .int .i64 n8, .slice ao8 k8 c8]).heap[w.heap.size]? =some (.cells Ah 39) :=Eu bR4 hRL _ _ _ _ _ _ _ _
 have butw :But a w (v4.setCells L 9 [.int .i64 op, .int .i64 xk, .int .i64 xn, .string xs2, .string xs, .string nmv, .int .i64 n8, .slice ao8 k8 c8]) :=but4.set8m (by omega) _ _ _ _ _ _ _ _
 have rdw :Rd (v4.setCells L 9 [.int .i64 op, .int .i64 xk, .int .i64 xn, .string xs2, .string xs, .string nmv, .int .i64 n8, .slice ao8 k8 c8]) a s5 0 :=rd4.set8m neL _ _ _ _ _ _ _ _
 have kw :Keeps (Fr (L+1)) v4 (v4.setCells L 9 [.int .i64 op, .int .i64 xk, .int .i64 xn, .string xs2, .string xs, .string nmv, .int .i64 n8, .slice ao8 k8 c8]) := (Keeps.refl _ _).set8m (show ¬L+1≤L by omega) _ _ _ _ _ _ _ _
 have hF_3 :=hF_2.keep kw
 have hE_4 :=IsE.keep kw _ _ hE1
 have szw : (v4.setCells L 9 [.int .i64 op, .int .i64 xk, .int .i64 xn, .string xs2, .string xs, .string nmv, .int .i64 n8, .slice ao8 k8 c8]).heap.size=v4.heap.size :=by simp [World.setCells,World.setCell]
 simp only []
 go_step
 go_step
 go_step
 go_step
 refine wpList_store_mid rfl 37 _ _ rfl L 9 #[.int .i64 op, .int .i64 xk, .int .i64 xn, .string xs2, .string xs, .string nmv, .int .i64 n8, .slice ao8 k8 c8] rfl rfl hth Fd hone8 ?_
 go_step
 go_step
 go_step
 go_wp2_with fail
 generalize (v4.setCells L 9 [.int .i64 op, .int .i64 xk, .int .i64 xn, .string xs2, .string xs, .string nmv, .int .i64 n8, .slice ao8 k8 c8]) =Y4 at bRw bLw butw rdw szw hF_3 hE_4⊢
 go_fit (C5 Y4 rdw)
 rintro e v5 ⟨rfl,rd5,hb5_⟩
 have bR5 :=Ac hb5_ bRw neR
 have bL5 :=Ac hb5_ bLw neL
 have but5 :=butw.trans hb5_
 have sz5 :=hb5_.size
 have kp5 :Keeps (Fr (L+1)) Y4 v5 :=hb5_.keeps (show ¬L+1≤a by omega)
 have hF_5 :=hF_3.keep kp5
 have hE_6 :=IsE.keep kp5 _ _ hE_4
 have szv5 :v5.heap.size=v5.heap.size :=rfl
 go_wp2_with fail
 generalize v5=Y5 at bR5 bL5 but5 rd5 hF_5 hE_6⊢
 go_fit (C6 Y5 rd5 _ rfl)
 rintro e v6 ⟨rfl,rd6,hb6_⟩
 have bR6 :=Ac hb6_ bR5 neR
 have bL6 :=Ac hb6_ bL5 neL
 have but6 :=but5.trans hb6_
 have sz6 :=hb6_.size
 have kp6 :Keeps (Fr (L+1)) Y5 v6 :=hb6_.keeps (show ¬L+1≤a by omega)
 have hF_7 :=hF_5.keep kp6
 have hE_8 :=IsE.keep kp6 _ _ hE_6
 have szv6 :v6.heap.size=v6.heap.size :=rfl
 go_wp2_with fail
 generalize v6=Y6 at bR6 bL6 but6 rd6 hF_7 hE_8⊢
 go_fit (C7 Y6 rd6 (he.but but6 ha))
 rintro e v7 ⟨vv7,rfl,hD0,rd7,hb7_⟩
 obtain ⟨opd,xd,xsd,nmd,nd,aod,kd,cd,rfl⟩ :=hD0.shape
 obtain ⟨xkd,xnd,xsd2⟩ :=xd
 have szL7 :=lt_of_block bL6
 have hD1 :=IsE.mono (F' :=Fr (L+1)) (fun k _ hk=>by have : (Y6).heap.size≤k :=hk;show L+1≤k;omega) _ _ hD0
 have bR7 :=Ac hb7_ bR6 neR
 have bL7 :=Ac hb7_ bL6 neL
 have but7 :=but6.trans hb7_
 have sz7 :=hb7_.size
 have kp7 :Keeps (Fr (L+1)) Y6 v7 :=hb7_.keeps (show ¬L+1≤a by omega)
 have hF_9 :=hF_7.keep kp7
 have hE_10 :=IsE.keep kp7 _ _ hE_8
 have szv7 :v7.heap.size=v7.heap.size :=rfl
 have hD2 :IsL Dc (Fr (L+1)) (v7.alloc (.cells #[.int .i64 opd, .int .i64 xkd, .int .i64 xnd, .string xsd2, .string xsd, .string nmd, .int .i64 nd, .slice aod kd cd] 37)) (.slice (some ⟨v7.heap.size,0,none⟩) 1 1) [E1] :=Adx.2 (G4 hD1 (show L+1≤v7.heap.size by have :=lt_of_block bL7;omega))
 have ka7 :Keeps (Fr (L+1)) v7 (v7.alloc (.cells #[.int .i64 opd, .int .i64 xkd, .int .i64 xnd, .string xsd2, .string xsd, .string nmd, .int .i64 nd, .slice aod kd cd] 37)) := (Keeps.refl _ _).alloc _
 have bRa7 :=Ae bR7 (.cells #[.int .i64 opd, .int .i64 xkd, .int .i64 xnd, .string xsd2, .string xsd, .string nmd, .int .i64 nd, .slice aod kd cd] 37)
 have bLa7 :=Ae bL7 (.cells #[.int .i64 opd, .int .i64 xkd, .int .i64 xnd, .string xsd2, .string xsd, .string nmd, .int .i64 nd, .slice aod kd cd] 37)
 have buta7 :=but7.alloc (.cells #[.int .i64 opd, .int .i64 xkd, .int .i64 xnd, .string xsd2, .string xsd, .string nmd, .int .i64 nd, .slice aod kd cd] 37)
 have rda7 :=rd7.below ((Below.refl _ _).alloc (Nat.le_refl _) (.cells #[.int .i64 opd, .int .i64 xkd, .int .i64 xnd, .string xsd2, .string xsd, .string nmd, .int .i64 nd, .slice aod kd cd] 37))
 have hF_11 :=hF_9.keep ka7
 have hE_12 :=IsE.keep ka7 _ _ hE_10
 have q7 :=Aa bLa7 (j :=17) rfl
 have f7 :=Ab bLa7 17
 have bLu7 : ((v7.alloc (.cells #[.int .i64 opd, .int .i64 xkd, .int .i64 xnd, .string xsd2, .string xsd, .string nmd, .int .i64 nd, .slice aod kd cd] 37)).setCell ⟨L,17,none⟩ (.slice (some ⟨v7.heap.size,0,none⟩) 1 1)).heap[L]? =some (.cells #[.int .i64 7, .string noW, .string noW, .string noW, .slice none 0 0, .slice none 0 0, .slice none 0 0, .slice ao3 hFl.length cp3, .slice none 0 0, .int .i64 op, .int .i64 xk, .int .i64 xn, .string xs2, .string xs, .string nmv, .int .i64 n8, .slice ao8 k8 c8, .slice (some ⟨v7.heap.size,0,none⟩) 1 1, .bool false, .int .i64 (-1)] 39) :=by
  have g :=upd bLa7 17 (.slice (some ⟨v7.heap.size,0,none⟩) 1 1)
  simp only [List.setIfInBounds_toArray,List.set_cons_succ,List.set_cons_zero] at g
  exact g
 have bRu7 :=Aj bRa7 hRL 17 (.slice (some ⟨v7.heap.size,0,none⟩) 1 1)
 have butu7 :=buta7.new (b :=L) (by omega) 17 (.slice (some ⟨v7.heap.size,0,none⟩) 1 1)
 have rdu7 :=rda7.other neL 17 (.slice (some ⟨v7.heap.size,0,none⟩) 1 1)
 have ku7 :Keeps (Fr (L+1)) (v7.alloc (.cells #[.int .i64 opd, .int .i64 xkd, .int .i64 xnd, .string xsd2, .string xsd, .string nmd, .int .i64 nd, .slice aod kd cd] 37)) ((v7.alloc (.cells #[.int .i64 opd, .int .i64 xkd, .int .i64 xnd, .string xsd2, .string xsd, .string nmd, .int .i64 nd, .slice aod kd cd] 37)).setCell ⟨L,17,none⟩ (.slice (some ⟨v7.heap.size,0,none⟩) 1 1)) := (Keeps.refl _ _).set (show ¬L+1≤L by omega) _ _
 have hF_13 :=hF_11.keep ku7
 have hE_14 :=IsE.keep ku7 _ _ hE_12
 have hD_15 :=hD2.keep ku7
 have szu7 : ((v7.alloc (.cells #[.int .i64 opd, .int .i64 xkd, .int .i64 xnd, .string xsd2, .string xsd, .string nmd, .int .i64 nd, .slice aod kd cd] 37)).setCell ⟨L,17,none⟩ (.slice (some ⟨v7.heap.size,0,none⟩) 1 1)).heap.size= (v7.alloc (.cells #[.int .i64 opd, .int .i64 xkd, .int .i64 xnd, .string xsd2, .string xsd, .string nmd, .int .i64 nd, .slice aod kd cd] 37)).heap.size :=by simp [World.setCell]
 go_wp2_with fail
 generalize ((v7.alloc (.cells #[.int .i64 opd, .int .i64 xkd, .int .i64 xnd, .string xsd2, .string xsd, .string nmd, .int .i64 nd, .slice aod kd cd] 37)).setCell ⟨L,17,none⟩ (.slice (some ⟨v7.heap.size,0,none⟩) 1 1)) =Y7 at bRu7 bLu7 butu7 rdu7 szu7 hF_13 hE_14 hD_15⊢
 go_fit (C8 Y7 rdu7)
 rintro e v8 ⟨rfl,rd8,hb8_⟩
 have bR8 :=Ac hb8_ bRu7 neR
 have bL8 :=Ac hb8_ bLu7 neL
 have but8 :=butu7.trans hb8_
 have sz8 :=hb8_.size
 have kp8 :Keeps (Fr (L+1)) Y7 v8 :=hb8_.keeps (show ¬L+1≤a by omega)
 have hF_16 :=hF_13.keep kp8
 have hE_17 :=IsE.keep kp8 _ _ hE_14
 have hD_18 :=hD_15.keep kp8
 have szv8 :v8.heap.size=v8.heap.size :=rfl
 have q8 :=Aa bL8 (j :=18) rfl
 have f8 :=Ab bL8 18
 have bLu8 : (v8.setCell ⟨L,18,none⟩ (.bool dn)).heap[L]? =some (.cells #[.int .i64 7, .string noW, .string noW, .string noW, .slice none 0 0, .slice none 0 0, .slice none 0 0, .slice ao3 hFl.length cp3, .slice none 0 0, .int .i64 op, .int .i64 xk, .int .i64 xn, .string xs2, .string xs, .string nmv, .int .i64 n8, .slice ao8 k8 c8, .slice (some ⟨v7.heap.size,0,none⟩) 1 1, .bool dn, .int .i64 (-1)] 39) :=by
  have g :=upd bL8 18 (.bool dn)
  simp only [List.setIfInBounds_toArray,List.set_cons_succ,List.set_cons_zero] at g
  exact g
 have bRu8 :=Aj bR8 hRL 18 (.bool dn)
 have butu8 :=but8.new (b :=L) (by omega) 18 (.bool dn)
 have rdu8 :=rd8.other neL 18 (.bool dn)
 have ku8 :Keeps (Fr (L+1)) v8 (v8.setCell ⟨L,18,none⟩ (.bool dn)) := (Keeps.refl _ _).set (show ¬L+1≤L by omega) _ _
 have hF_19 :=hF_16.keep ku8
 have hE_20 :=IsE.keep ku8 _ _ hE_17
 have hD_21 :=hD_18.keep ku8
 have szu8 : (v8.setCell ⟨L,18,none⟩ (.bool dn)).heap.size=v8.heap.size :=by simp [World.setCell]
 go_wp2_with fail
 generalize (v8.setCell ⟨L,18,none⟩ (.bool dn)) =Y8 at bRu8 bLu8 butu8 rdu8 szu8 hF_19 hE_20 hD_21⊢
 go_fit (C9 Y8 rdu8)
 rintro e v9 ⟨rfl,rd9,hb9_⟩
 have bR9 :=Ac hb9_ bRu8 neR
 have bL9 :=Ac hb9_ bLu8 neL
 have but9 :=butu8.trans hb9_
 have sz9 :=hb9_.size
 have kp9 :Keeps (Fr (L+1)) Y8 v9 :=hb9_.keeps (show ¬L+1≤a by omega)
 have hF_22 :=hF_19.keep kp9
 have hE_23 :=IsE.keep kp9 _ _ hE_20
 have hD_24 :=hD_21.keep kp9
 have szv9 :v9.heap.size=v9.heap.size :=rfl
 have hone2 : (#[.int .i64 7, .string noW, .string noW, .string noW, .slice none 0 0, .slice none 0 0, .slice none 0 0, .slice ao3 hFl.length cp3, .slice none 0 0, .int .i64 op, .int .i64 xk, .int .i64 xn, .string xs2, .string xs, .string nmv, .int .i64 n8, .slice ao8 k8 c8, .slice (some ⟨v7.heap.size,0,none⟩) 1 1, .bool dn, .int .i64 (-1)] :Array Value).all (·.oneCell') =true :=Cy (Al _ _ _) (Al _ _ _) (Al _ _ _) (Al _ _ _) (Al _ _ _) (Al _ _ _) (Al _ _ _)
 go_wp2_with (first
  | refine wpList_load_row rfl 39 _ rfl L rfl 39 _ _ _ bL9 Tryz.underlying39 rfl Af ?_
  | refine wpList_store_row rfl 39 _ _ rfl w.heap.size #[.int .i64 7, .string noW, .string noW, .string noW, .slice none 0 0, .slice none 0 0, .slice none 0 0, .slice ao3 hFl.length cp3, .slice none 0 0, .int .i64 op, .int .i64 xk, .int .i64 xn, .string xs2, .string xs, .string nmv, .int .i64 n8, .slice ao8 k8 c8, .slice (some ⟨v7.heap.size,0,none⟩) 1 1, .bool dn, .int .i64 (-1)] rfl rfl 39 Ah bR9 Af rfl hone2 ?_)
 refine bodyPost_ret (v := .agg #[.int .i64 7, .string noW, .string noW, .string noW, .slice none 0 0, .slice none 0 0, .slice none 0 0, .slice ao3 hFl.length cp3, .slice none 0 0, .int .i64 op, .int .i64 xk, .int .i64 xn, .string xs2, .string xs, .string nmv, .int .i64 n8, .slice ao8 k8 c8, .slice (some ⟨v7.heap.size,0,none⟩) 1 1, .bool dn, .int .i64 (-1)]) (results_cell_row Tryz.results53 _ _ w.heap.size 39 _ _ _ rfl (Am bR9) Tryz.underlying39 rfl Af) rfl ⟨(#[.int .i64 7, .string noW, .string noW, .string noW, .slice none 0 0, .slice none 0 0, .slice none 0 0, .slice ao3 hFl.length cp3, .slice none 0 0, .int .i64 op, .int .i64 xk, .int .i64 xn, .string xs2, .string xs, .string nmv, .int .i64 n8, .slice ao8 k8 c8, .slice (some ⟨v7.heap.size,0,none⟩) 1 1, .bool dn, .int .i64 (-1)] :Array Value).toList,rfl, ?_, ?_, ?_⟩
 ·have kz :Keeps (Fr (L+1)) v9 (v9.setRow w.heap.size #[.int .i64 7, .string noW, .string noW, .string noW, .slice none 0 0, .slice none 0 0, .slice none 0 0, .slice ao3 hFl.length cp3, .slice none 0 0, .int .i64 op, .int .i64 xk, .int .i64 xn, .string xs2, .string xs, .string nmv, .int .i64 n8, .slice ao8 k8 c8, .slice (some ⟨v7.heap.size,0,none⟩) 1 1, .bool dn, .int .i64 (-1)]) := (Keeps.refl _ _).row (show ¬L+1≤w.heap.size by omega) _
  exact Fq.mono (F :=Fr (L+1)) (fun k _ hk=>by have :L+1≤k :=hk;show w.heap.size≤k;omega) (D8 (IsL.nil _ _ _) (IsL.nil _ _ _) (IsL.nil _ _ _) (hF_22.keep kz) (IsL.nil _ _ _) (IsE.keep kz _ _ hE_23) (hD_24.keep kz))
 ·exact rd9.row neR _
 ·exact but9.row (Nat.le_refl _) _
set_option maxHeartbeats 4000000 in
set_option maxRecDepth 100000 in
theorem Z9 (a :Nat) (s :St) (w :World) (h :Rd w a s 0) (he :Env w) (ha :16≤a) (s1 s3 s4 s5 s6 s10 s11 :St) (hFl :List Wd) (WE :E) (nn :Int) (C1 :Dw a A9 s true s1) (C2 :Ik a Az s1 s3) (C3 :Jn a s3 hFl s4) (C4 :Jo a s4 WE s5) (C5 :Dw a Bl s5 false s6) (C6 :Dw a Cr s6 true s10) (C7 :U1 a s10 nn s11) :
  Calls Tryz.prog 53 #[.pointer (some ⟨a,0,none⟩)] w fun e w'=> ∃c,e= .returned (Dv c) ∧Fq.R (Fr w.heap.size) w' ⟨7,noW,noW,noW,[],[],[],hFl,[],WE,[],false,nn⟩ c∧Rd w' a s11 0∧But a w w' :=by
 have hla :=h.lt
 have hone : (Ai 7).all (·.oneCell') =true :=Cy (Al _ _ _) (Al _ _ _) (Al _ _ _) (Al _ _ _) (Al _ _ _) (Al _ _ _) (Al _ _ _)
 go_enter Tryz.func53,Tryz.ntmps53
 go_wp2_with fail
 generalize hW :w.alloc (.cells Ah 39) =W
 have hb0 :Below w.heap.size w W :=by rw [←hW];exact (Below.refl _ _).alloc (Nat.le_refl _) _
 have b0 :W.heap[w.heap.size]? =some (.cells Ah 39) :=by rw [←hW];exact Ad w _
 have hWs :W.heap.size=w.heap.size+1 :=by rw [←hW,World.size_alloc]
 clear hW
 go_fit (D0 7 W)
 rintro e w1 ⟨rfl,hb1⟩
 have hs1 :=hb1.size
 have b1 :=Ae ((hb1.block _ (lt_of_block b0)).trans b0) (.cells Ah 39)
 have c1 :=Ad w1 (.cells Ah 39)
 go_wp2_with (refine wpList_store_row rfl 39 _ _ rfl w1.heap.size (Ai 7) rfl rfl 39 Ah c1 Af rfl hone ?_)
 generalize hX : (w1.alloc (.cells Ah 39)).setRow w1.heap.size (Ai 7) =X0
 have hRL :w.heap.size≠w1.heap.size :=by omega
 have bR0 :X0.heap[w.heap.size]? =some (.cells Ah 39) :=by rw [←hX];exact Bu b1 hRL _
 have bL0 :X0.heap[w1.heap.size]? =some (.cells #[.int .i64 7, .string noW, .string noW, .string noW, .slice none 0 0, .slice none 0 0, .slice none 0 0, .slice none 0 0, .slice none 0 0, .int .i64 0, .int .i64 0, .int .i64 0, .string noW, .string noW, .string noW, .int .i64 0, .slice none 0 0, .slice none 0 0, .bool false, .int .i64 (-1)] 39) :=by rw [←hX];exact Am c1
 have but0 :But a w X0 :=by rw [←hX];exact ((But.of_below (Do hb0 hb1)).alloc _).row (by omega) _
 have rd0 :Rd X0 a s 0 :=by rw [←hX];exact ((h.below (Do hb0 hb1)).below ((Below.refl _ _).alloc (Nat.le_refl _) _)).row (by omega) _
 have szX0 :X0.heap.size=w1.heap.size+1 :=by rw [←hX];simp [World.setRow]
 have hL :w.heap.size<w1.heap.size :=by omega
 clear hX hb1 b1 c1 hs1 hb0 b0
 generalize w1.heap.size=L at bL0 hRL hL szX0⊢
 have neL :L≠a :=by omega
 have neR :w.heap.size≠a :=by omega
 go_fit (C1 X0 rd0)
 rintro e v1 ⟨rfl,rd1,hb1_⟩
 have bR1 :=Ac hb1_ bR0 neR
 have bL1 :=Ac hb1_ bL0 neL
 have but1 :=but0.trans hb1_
 have sz1 :=hb1_.size
 have kp1 :Keeps (Fr (L+1)) X0 v1 :=hb1_.keeps (show ¬L+1≤a by omega)
 have szv1 :v1.heap.size=v1.heap.size :=rfl
 go_wp2_with fail
 generalize v1=Y1 at bR1 bL1 but1 rd1⊢
 go_fit (C2 Y1 rd1 _ rfl)
 rintro e v2 ⟨rfl,rd2,hb2_⟩
 have bR2 :=Ac hb2_ bR1 neR
 have bL2 :=Ac hb2_ bL1 neL
 have but2 :=but1.trans hb2_
 have sz2 :=hb2_.size
 have kp2 :Keeps (Fr (L+1)) Y1 v2 :=hb2_.keeps (show ¬L+1≤a by omega)
 have szv2 :v2.heap.size=v2.heap.size :=rfl
 go_wp2_with fail
 generalize v2=Y2 at bR2 bL2 but2 rd2⊢
 go_fit (C3 Y2 rd2 (he.but but2 ha))
 rintro e v3 ⟨sv3,rfl,hF0,rd3,hb3_⟩
 obtain ⟨ao3,cp3,rfl⟩ :=hF0.shape
 have szL3 :=lt_of_block bL2
 have hF1 :=hF0.mono (F' :=Fr (L+1)) (fun k _ hk=>by have : (Y2).heap.size≤k :=hk;show L+1≤k;omega)
 have bR3 :=Ac hb3_ bR2 neR
 have bL3 :=Ac hb3_ bL2 neL
 have but3 :=but2.trans hb3_
 have sz3 :=hb3_.size
 have kp3 :Keeps (Fr (L+1)) Y2 v3 :=hb3_.keeps (show ¬L+1≤a by omega)
 have szv3 :v3.heap.size=v3.heap.size :=rfl
 have q3 :=Aa bL3 (j :=7) rfl
 have f3 :=Ab bL3 7
 have bLu3 : (v3.setCell ⟨L,7,none⟩ (.slice ao3 hFl.length cp3)).heap[L]? =some (.cells #[.int .i64 7, .string noW, .string noW, .string noW, .slice none 0 0, .slice none 0 0, .slice none 0 0, .slice ao3 hFl.length cp3, .slice none 0 0, .int .i64 0, .int .i64 0, .int .i64 0, .string noW, .string noW, .string noW, .int .i64 0, .slice none 0 0, .slice none 0 0, .bool false, .int .i64 (-1)] 39) :=by
  have g :=upd bL3 7 (.slice ao3 hFl.length cp3)
  simp only [List.setIfInBounds_toArray,List.set_cons_succ,List.set_cons_zero] at g
  exact g
 have bRu3 :=Aj bR3 hRL 7 (.slice ao3 hFl.length cp3)
 have butu3 :=but3.new (b :=L) (by omega) 7 (.slice ao3 hFl.length cp3)
 have rdu3 :=rd3.other neL 7 (.slice ao3 hFl.length cp3)
 have ku3 :Keeps (Fr (L+1)) v3 (v3.setCell ⟨L,7,none⟩ (.slice ao3 hFl.length cp3)) := (Keeps.refl _ _).set (show ¬L+1≤L by omega) _ _
 have hF_1 :=hF1.keep ku3
 have szu3 : (v3.setCell ⟨L,7,none⟩ (.slice ao3 hFl.length cp3)).heap.size=v3.heap.size :=by simp [World.setCell]
 go_wp2_with fail
 generalize (v3.setCell ⟨L,7,none⟩ (.slice ao3 hFl.length cp3)) =Y3 at bRu3 bLu3 butu3 rdu3 szu3 hF_1⊢
 go_fit (C4 Y3 rdu3 (he.but butu3 ha))
 rintro e v4 ⟨vv,rfl,hE0,rd4,hb4_⟩
 obtain ⟨op,x,xs,nmv,n8,ao8,k8,c8,rfl⟩ :=hE0.shape
 obtain ⟨xk,xn,xs2⟩ :=x
 have szL4 :=lt_of_block bLu3
 have hE1 :=IsE.mono (F' :=Fr (L+1)) (fun k _ hk=>by have : (Y3).heap.size≤k :=hk;show L+1≤k;omega) _ _ hE0
 have bR4 :=Ac hb4_ bRu3 neR
 have bL4 :=Ac hb4_ bLu3 neL
 have but4 :=butu3.trans hb4_
 have sz4 :=hb4_.size
 have kp4 :Keeps (Fr (L+1)) Y3 v4 :=hb4_.keeps (show ¬L+1≤a by omega)
 have hF_2 :=hF_1.keep kp4
 have szv4 :v4.heap.size=v4.heap.size :=rfl
 have y0 :=Aa bL4 (j :=9) rfl
 have z0 :=Ab bL4 9
 have y1 :=Aa bL4 (j :=10) rfl
 have z1 :=Ab bL4 10
 have y2 :=Aa bL4 (j :=11) rfl
 have z2 :=Ab bL4 11
 have y3 :=Aa bL4 (j :=12) rfl
 have z3 :=Ab bL4 12
 have y4 :=Aa bL4 (j :=13) rfl
 have z4 :=Ab bL4 13
 have y5 :=Aa bL4 (j :=14) rfl
 have z5 :=Ab bL4 14
 have y6 :=Aa bL4 (j :=15) rfl
 have z6 :=Ab bL4 15
 have y7 :=Aa bL4 (j :=16) rfl
 have z7 :=Ab bL4 16
 have hth :v4.there L 9 8 :=by
  intro j hj
  match j,hj with
  | 0,_=>exact ⟨by rw [y0];rfl,z0⟩
  | 1,_=>exact ⟨by rw [y1];rfl,z1⟩
  | 2,_=>exact ⟨by rw [y2];rfl,z2⟩
  | 3,_=>exact ⟨by rw [y3];rfl,z3⟩
  | 4,_=>exact ⟨by rw [y4];rfl,z4⟩
  | 5,_=>exact ⟨by rw [y5];rfl,z5⟩
  | 6,_=>exact ⟨by rw [y6];rfl,z6⟩
  | 7,_=>exact ⟨by rw [y7];rfl,z7⟩
 clear y0 y1 y2 y3 y4 y5 y6 y7 z0 z1 z2 z3 z4 z5 z6 z7
 have hone8 : (#[.int .i64 op, .int .i64 xk, .int .i64 xn, .string xs2, .string xs, .string nmv, .int .i64 n8, .slice ao8 k8 c8] :Array Value).all (·.oneCell') =true :=by simp [Value.oneCell']
 have bLw : (v4.setCells L 9 [.int .i64 op, .int .i64 xk, .int .i64 xn, .string xs2, .string xs, .string nmv, .int .i64 n8, .slice ao8 k8 c8]).heap[L]? =some (.cells #[.int .i64 7, .string noW, .string noW, .string noW, .slice none 0 0, .slice none 0 0, .slice none 0 0, .slice ao3 hFl.length cp3, .slice none 0 0, .int .i64 op, .int .i64 xk, .int .i64 xn, .string xs2, .string xs, .string nmv, .int .i64 n8, .slice ao8 k8 c8, .slice none 0 0, .bool false, .int .i64 (-1)] 39) :=by
  have g :=upd (upd (upd (upd (upd (upd (upd (upd bL4 9 (.int .i64 op)) 10 (.int .i64 xk)) 11 (.int .i64 xn)) 12 (.string xs2)) 13 (.string xs)) 14 (.string nmv)) 15 (.int .i64 n8)) 16 (.slice ao8 k8 c8)
  simp only [List.setIfInBounds_toArray,List.set_cons_succ,List.set_cons_zero] at g
  exact g
 have bRw : (v4.setCells L 9 [.int .i64 op, .int .i64 xk, .int .i64 xn, .string xs2, .string xs, .string nmv, .int .i64 n8, .slice ao8 k8 c8]).heap[w.heap.size]? =some (.cells Ah 39) :=Eu bR4 hRL _ _ _ _ _ _ _ _
 have butw :But a w (v4.setCells L 9 [.int .i64 op, .int .i64 xk, .int .i64 xn, .string xs2, .string xs, .string nmv, .int .i64 n8, .slice ao8 k8 c8]) :=but4.set8m (by omega) _ _ _ _ _ _ _ _
 have rdw :Rd (v4.setCells L 9 [.int .i64 op, .int .i64 xk, .int .i64 xn, .string xs2, .string xs, .string nmv, .int .i64 n8, .slice ao8 k8 c8]) a s5 0 :=rd4.set8m neL _ _ _ _ _ _ _ _
 have kw :Keeps (Fr (L+1)) v4 (v4.setCells L 9 [.int .i64 op, .int .i64 xk, .int .i64 xn, .string xs2, .string xs, .string nmv, .int .i64 n8, .slice ao8 k8 c8]) := (Keeps.refl _ _).set8m (show ¬L+1≤L by omega) _ _ _ _ _ _ _ _
 have hF_3 :=hF_2.keep kw
 have hE_4 :=IsE.keep kw _ _ hE1
 have szw : (v4.setCells L 9 [.int .i64 op, .int .i64 xk, .int .i64 xn, .string xs2, .string xs, .string nmv, .int .i64 n8, .slice ao8 k8 c8]).heap.size=v4.heap.size :=by simp [World.setCells,World.setCell]
 simp only []
 go_step
 go_step
 go_step
 go_step
 refine wpList_store_mid rfl 37 _ _ rfl L 9 #[.int .i64 op, .int .i64 xk, .int .i64 xn, .string xs2, .string xs, .string nmv, .int .i64 n8, .slice ao8 k8 c8] rfl rfl hth Fd hone8 ?_
 go_step
 go_step
 go_step
 go_wp2_with fail
 generalize (v4.setCells L 9 [.int .i64 op, .int .i64 xk, .int .i64 xn, .string xs2, .string xs, .string nmv, .int .i64 n8, .slice ao8 k8 c8]) =Y4 at bRw bLw butw rdw szw hF_3 hE_4⊢
 go_fit (C5 Y4 rdw)
 rintro e v5 ⟨rfl,rd5,hb5_⟩
 have bR5 :=Ac hb5_ bRw neR
 have bL5 :=Ac hb5_ bLw neL
 have but5 :=butw.trans hb5_
 have sz5 :=hb5_.size
 have kp5 :Keeps (Fr (L+1)) Y4 v5 :=hb5_.keeps (show ¬L+1≤a by omega)
 have hF_5 :=hF_3.keep kp5
 have hE_6 :=IsE.keep kp5 _ _ hE_4
 have szv5 :v5.heap.size=v5.heap.size :=rfl
 go_wp2_with fail
 generalize v5=Y5 at bR5 bL5 but5 rd5 hF_5 hE_6⊢
 go_fit (C6 Y5 rd5)
 rintro e v6 ⟨rfl,rd6,hb6_⟩
 have bR6 :=Ac hb6_ bR5 neR
 have bL6 :=Ac hb6_ bL5 neL
 have but6 :=but5.trans hb6_
 have sz6 :=hb6_.size
 have kp6 :Keeps (Fr (L+1)) Y5 v6 :=hb6_.keeps (show ¬L+1≤a by omega)
 have hF_7 :=hF_5.keep kp6
 have hE_8 :=IsE.keep kp6 _ _ hE_6
 have szv6 :v6.heap.size=v6.heap.size :=rfl
 go_wp2_with fail
 generalize v6=Y6 at bR6 bL6 but6 rd6 hF_7 hE_8⊢
 go_fit (C7 Y6 rd6 (he.but but6 ha))
 rintro e v7 ⟨rfl,rd7,hb7_⟩
 have bR7 :=Ac hb7_ bR6 neR
 have bL7 :=Ac hb7_ bL6 neL
 have but7 :=but6.trans hb7_
 have sz7 :=hb7_.size
 have kp7 :Keeps (Fr (L+1)) Y6 v7 :=hb7_.keeps (show ¬L+1≤a by omega)
 have hF_9 :=hF_7.keep kp7
 have hE_10 :=IsE.keep kp7 _ _ hE_8
 have szv7 :v7.heap.size=v7.heap.size :=rfl
 have q7 :=Aa bL7 (j :=19) rfl
 have f7 :=Ab bL7 19
 have bLu7 : (v7.setCell ⟨L,19,none⟩ (.int .i64 nn)).heap[L]? =some (.cells #[.int .i64 7, .string noW, .string noW, .string noW, .slice none 0 0, .slice none 0 0, .slice none 0 0, .slice ao3 hFl.length cp3, .slice none 0 0, .int .i64 op, .int .i64 xk, .int .i64 xn, .string xs2, .string xs, .string nmv, .int .i64 n8, .slice ao8 k8 c8, .slice none 0 0, .bool false, .int .i64 nn] 39) :=by
  have g :=upd bL7 19 (.int .i64 nn)
  simp only [List.setIfInBounds_toArray,List.set_cons_succ,List.set_cons_zero] at g
  exact g
 have bRu7 :=Aj bR7 hRL 19 (.int .i64 nn)
 have butu7 :=but7.new (b :=L) (by omega) 19 (.int .i64 nn)
 have rdu7 :=rd7.other neL 19 (.int .i64 nn)
 have ku7 :Keeps (Fr (L+1)) v7 (v7.setCell ⟨L,19,none⟩ (.int .i64 nn)) := (Keeps.refl _ _).set (show ¬L+1≤L by omega) _ _
 have hF_11 :=hF_9.keep ku7
 have hE_12 :=IsE.keep ku7 _ _ hE_10
 have szu7 : (v7.setCell ⟨L,19,none⟩ (.int .i64 nn)).heap.size=v7.heap.size :=by simp [World.setCell]
 have hone2 : (#[.int .i64 7, .string noW, .string noW, .string noW, .slice none 0 0, .slice none 0 0, .slice none 0 0, .slice ao3 hFl.length cp3, .slice none 0 0, .int .i64 op, .int .i64 xk, .int .i64 xn, .string xs2, .string xs, .string nmv, .int .i64 n8, .slice ao8 k8 c8, .slice none 0 0, .bool false, .int .i64 nn] :Array Value).all (·.oneCell') =true :=Cy (Al _ _ _) (Al _ _ _) (Al _ _ _) (Al _ _ _) (Al _ _ _) (Al _ _ _) (Al _ _ _)
 go_wp2_with (first
  | refine wpList_load_row rfl 39 _ rfl L rfl 39 _ _ _ bLu7 Tryz.underlying39 rfl Af ?_
  | refine wpList_store_row rfl 39 _ _ rfl w.heap.size #[.int .i64 7, .string noW, .string noW, .string noW, .slice none 0 0, .slice none 0 0, .slice none 0 0, .slice ao3 hFl.length cp3, .slice none 0 0, .int .i64 op, .int .i64 xk, .int .i64 xn, .string xs2, .string xs, .string nmv, .int .i64 n8, .slice ao8 k8 c8, .slice none 0 0, .bool false, .int .i64 nn] rfl rfl 39 Ah bRu7 Af rfl hone2 ?_)
 refine bodyPost_ret (v := .agg #[.int .i64 7, .string noW, .string noW, .string noW, .slice none 0 0, .slice none 0 0, .slice none 0 0, .slice ao3 hFl.length cp3, .slice none 0 0, .int .i64 op, .int .i64 xk, .int .i64 xn, .string xs2, .string xs, .string nmv, .int .i64 n8, .slice ao8 k8 c8, .slice none 0 0, .bool false, .int .i64 nn]) (results_cell_row Tryz.results53 _ _ w.heap.size 39 _ _ _ rfl (Am bRu7) Tryz.underlying39 rfl Af) rfl ⟨(#[.int .i64 7, .string noW, .string noW, .string noW, .slice none 0 0, .slice none 0 0, .slice none 0 0, .slice ao3 hFl.length cp3, .slice none 0 0, .int .i64 op, .int .i64 xk, .int .i64 xn, .string xs2, .string xs, .string nmv, .int .i64 n8, .slice ao8 k8 c8, .slice none 0 0, .bool false, .int .i64 nn] :Array Value).toList,rfl, ?_, ?_, ?_⟩
 ·have kz :Keeps (Fr (L+1)) (v7.setCell ⟨L,19,none⟩ (.int .i64 nn)) ((v7.setCell ⟨L,19,none⟩ (.int .i64 nn)).setRow w.heap.size #[.int .i64 7, .string noW, .string noW, .string noW, .slice none 0 0, .slice none 0 0, .slice none 0 0, .slice ao3 hFl.length cp3, .slice none 0 0, .int .i64 op, .int .i64 xk, .int .i64 xn, .string xs2, .string xs, .string nmv, .int .i64 n8, .slice ao8 k8 c8, .slice none 0 0, .bool false, .int .i64 nn]) := (Keeps.refl _ _).row (show ¬L+1≤w.heap.size by omega) _
  exact Fq.mono (F :=Fr (L+1)) (fun k _ hk=>by have :L+1≤k :=hk;show w.heap.size≤k;omega) (D8 (IsL.nil _ _ _) (IsL.nil _ _ _) (IsL.nil _ _ _) (hF_11.keep kz) (IsL.nil _ _ _) (IsE.keep kz _ _ hE_12) (IsL.nil _ _ _))
 ·exact rdu7.row neR _
 ·exact butu7.row (Nat.le_refl _) _
set_option maxHeartbeats 4000000 in
set_option maxRecDepth 100000 in
theorem Aaa (a :Nat) (s :St) (w :World) (h :Rd w a s 0) (he :Env w) (ha :16≤a) (s1 s3 s4 s5 s6 s10 :St) (hFl :List Wd) (WE :E) (C1 :Dw a A9 s true s1) (C2 :Ik a Az s1 s3) (C3 :Jn a s3 hFl s4) (C4 :Jo a s4 WE s5) (C5 :Dw a Bl s5 false s6) (C6 :Dw a Cr s6 false s10) :
  Calls Tryz.prog 53 #[.pointer (some ⟨a,0,none⟩)] w fun e w'=> ∃c,e= .returned (Dv c) ∧Fq.R (Fr w.heap.size) w' ⟨7,noW,noW,noW,[],[],[],hFl,[],WE,[],false, -1⟩ c∧Rd w' a s10 0∧But a w w' :=by
 have hla :=h.lt
 have hone : (Ai 7).all (·.oneCell') =true :=Cy (Al _ _ _) (Al _ _ _) (Al _ _ _) (Al _ _ _) (Al _ _ _) (Al _ _ _) (Al _ _ _)
 go_enter Tryz.func53,Tryz.ntmps53
 go_wp2_with fail
 generalize hW :w.alloc (.cells Ah 39) =W
 have hb0 :Below w.heap.size w W :=by rw [←hW];exact (Below.refl _ _).alloc (Nat.le_refl _) _
 have b0 :W.heap[w.heap.size]? =some (.cells Ah 39) :=by rw [←hW];exact Ad w _
 have hWs :W.heap.size=w.heap.size+1 :=by rw [←hW,World.size_alloc]
 clear hW
 go_fit (D0 7 W)
 rintro e w1 ⟨rfl,hb1⟩
 have hs1 :=hb1.size
 have b1 :=Ae ((hb1.block _ (lt_of_block b0)).trans b0) (.cells Ah 39)
 have c1 :=Ad w1 (.cells Ah 39)
 go_wp2_with (refine wpList_store_row rfl 39 _ _ rfl w1.heap.size (Ai 7) rfl rfl 39 Ah c1 Af rfl hone ?_)
 generalize hX : (w1.alloc (.cells Ah 39)).setRow w1.heap.size (Ai 7) =X0
 have hRL :w.heap.size≠w1.heap.size :=by omega
 have bR0 :X0.heap[w.heap.size]? =some (.cells Ah 39) :=by rw [←hX];exact Bu b1 hRL _
 have bL0 :X0.heap[w1.heap.size]? =some (.cells #[.int .i64 7, .string noW, .string noW, .string noW, .slice none 0 0, .slice none 0 0, .slice none 0 0, .slice none 0 0, .slice none 0 0, .int .i64 0, .int .i64 0, .int .i64 0, .string noW, .string noW, .string noW, .int .i64 0, .slice none 0 0, .slice none 0 0, .bool false, .int .i64 (-1)] 39) :=by rw [←hX];exact Am c1
 have but0 :But a w X0 :=by rw [←hX];exact ((But.of_below (Do hb0 hb1)).alloc _).row (by omega) _
 have rd0 :Rd X0 a s 0 :=by rw [←hX];exact ((h.below (Do hb0 hb1)).below ((Below.refl _ _).alloc (Nat.le_refl _) _)).row (by omega) _
 have szX0 :X0.heap.size=w1.heap.size+1 :=by rw [←hX];simp [World.setRow]
 have hL :w.heap.size<w1.heap.size :=by omega
 clear hX hb1 b1 c1 hs1 hb0 b0
 generalize w1.heap.size=L at bL0 hRL hL szX0⊢
 have neL :L≠a :=by omega
 have neR :w.heap.size≠a :=by omega
 go_fit (C1 X0 rd0)
 rintro e v1 ⟨rfl,rd1,hb1_⟩
 have bR1 :=Ac hb1_ bR0 neR
 have bL1 :=Ac hb1_ bL0 neL
 have but1 :=but0.trans hb1_
 have sz1 :=hb1_.size
 have kp1 :Keeps (Fr (L+1)) X0 v1 :=hb1_.keeps (show ¬L+1≤a by omega)
 have szv1 :v1.heap.size=v1.heap.size :=rfl
 go_wp2_with fail
 generalize v1=Y1 at bR1 bL1 but1 rd1⊢
 go_fit (C2 Y1 rd1 _ rfl)
 rintro e v2 ⟨rfl,rd2,hb2_⟩
 have bR2 :=Ac hb2_ bR1 neR
 have bL2 :=Ac hb2_ bL1 neL
 have but2 :=but1.trans hb2_
 have sz2 :=hb2_.size
 have kp2 :Keeps (Fr (L+1)) Y1 v2 :=hb2_.keeps (show ¬L+1≤a by omega)
 have szv2 :v2.heap.size=v2.heap.size :=rfl
 go_wp2_with fail
 generalize v2=Y2 at bR2 bL2 but2 rd2⊢
 go_fit (C3 Y2 rd2 (he.but but2 ha))
 rintro e v3 ⟨sv3,rfl,hF0,rd3,hb3_⟩
 obtain ⟨ao3,cp3,rfl⟩ :=hF0.shape
 have szL3 :=lt_of_block bL2
 have hF1 :=hF0.mono (F' :=Fr (L+1)) (fun k _ hk=>by have : (Y2).heap.size≤k :=hk;show L+1≤k;omega)
 have bR3 :=Ac hb3_ bR2 neR
 have bL3 :=Ac hb3_ bL2 neL
 have but3 :=but2.trans hb3_
 have sz3 :=hb3_.size
 have kp3 :Keeps (Fr (L+1)) Y2 v3 :=hb3_.keeps (show ¬L+1≤a by omega)
 have szv3 :v3.heap.size=v3.heap.size :=rfl
 have q3 :=Aa bL3 (j :=7) rfl
 have f3 :=Ab bL3 7
 have bLu3 : (v3.setCell ⟨L,7,none⟩ (.slice ao3 hFl.length cp3)).heap[L]? =some (.cells #[.int .i64 7, .string noW, .string noW, .string noW, .slice none 0 0, .slice none 0 0, .slice none 0 0, .slice ao3 hFl.length cp3, .slice none 0 0, .int .i64 0, .int .i64 0, .int .i64 0, .string noW, .string noW, .string noW, .int .i64 0, .slice none 0 0, .slice none 0 0, .bool false, .int .i64 (-1)] 39) :=by
  have g :=upd bL3 7 (.slice ao3 hFl.length cp3)
  simp only [List.setIfInBounds_toArray,List.set_cons_succ,List.set_cons_zero] at g
  exact g
 have bRu3 :=Aj bR3 hRL 7 (.slice ao3 hFl.length cp3)
 have butu3 :=but3.new (b :=L) (by omega) 7 (.slice ao3 hFl.length cp3)
 have rdu3 :=rd3.other neL 7 (.slice ao3 hFl.length cp3)
 have ku3 :Keeps (Fr (L+1)) v3 (v3.setCell ⟨L,7,none⟩ (.slice ao3 hFl.length cp3)) := (Keeps.refl _ _).set (show ¬L+1≤L by omega) _ _
 have hF_1 :=hF1.keep ku3
 have szu3 : (v3.setCell ⟨L,7,none⟩ (.slice ao3 hFl.length cp3)).heap.size=v3.heap.size :=by simp [World.setCell]
 go_wp2_with fail
 generalize (v3.setCell ⟨L,7,none⟩ (.slice ao3 hFl.length cp3)) =Y3 at bRu3 bLu3 butu3 rdu3 szu3 hF_1⊢
 go_fit (C4 Y3 rdu3 (he.but butu3 ha))
 rintro e v4 ⟨vv,rfl,hE0,rd4,hb4_⟩
 obtain ⟨op,x,xs,nmv,n8,ao8,k8,c8,rfl⟩ :=hE0.shape
 obtain ⟨xk,xn,xs2⟩ :=x
 have szL4 :=lt_of_block bLu3
 have hE1 :=IsE.mono (F' :=Fr (L+1)) (fun k _ hk=>by have : (Y3).heap.size≤k :=hk;show L+1≤k;omega) _ _ hE0
 have bR4 :=Ac hb4_ bRu3 neR
 have bL4 :=Ac hb4_ bLu3 neL
 have but4 :=butu3.trans hb4_
 have sz4 :=hb4_.size
 have kp4 :Keeps (Fr (L+1)) Y3 v4 :=hb4_.keeps (show ¬L+1≤a by omega)
 have hF_2 :=hF_1.keep kp4
 have szv4 :v4.heap.size=v4.heap.size :=rfl
 have y0 :=Aa bL4 (j :=9) rfl
 have z0 :=Ab bL4 9
 have y1 :=Aa bL4 (j :=10) rfl
 have z1 :=Ab bL4 10
 have y2 :=Aa bL4 (j :=11) rfl
 have z2 :=Ab bL4 11
 have y3 :=Aa bL4 (j :=12) rfl
 have z3 :=Ab bL4 12
 have y4 :=Aa bL4 (j :=13) rfl
 have z4 :=Ab bL4 13
 have y5 :=Aa bL4 (j :=14) rfl
 have z5 :=Ab bL4 14
 have y6 :=Aa bL4 (j :=15) rfl
 have z6 :=Ab bL4 15
 have y7 :=Aa bL4 (j :=16) rfl
 have z7 :=Ab bL4 16
 have hth :v4.there L 9 8 :=by
  intro j hj
  match j,hj with
  | 0,_=>exact ⟨by rw [y0];rfl,z0⟩
  | 1,_=>exact ⟨by rw [y1];rfl,z1⟩
  | 2,_=>exact ⟨by rw [y2];rfl,z2⟩
  | 3,_=>exact ⟨by rw [y3];rfl,z3⟩
  | 4,_=>exact ⟨by rw [y4];rfl,z4⟩
  | 5,_=>exact ⟨by rw [y5];rfl,z5⟩
  | 6,_=>exact ⟨by rw [y6];rfl,z6⟩
  | 7,_=>exact ⟨by rw [y7];rfl,z7⟩
 clear y0 y1 y2 y3 y4 y5 y6 y7 z0 z1 z2 z3 z4 z5 z6 z7
 have hone8 : (#[.int .i64 op, .int .i64 xk, .int .i64 xn, .string xs2, .string xs, .string nmv, .int .i64 n8, .slice ao8 k8 c8] :Array Value).all (·.oneCell') =true :=by simp [Value.oneCell']
 have bLw : (v4.setCells L 9 [.int .i64 op, .int .i64 xk, .int .i64 xn, .string xs2, .string xs, .string nmv, .int .i64 n8, .slice ao8 k8 c8]).heap[L]? =some (.cells #[.int .i64 7, .string noW, .string noW, .string noW, .slice none 0 0, .slice none 0 0, .slice none 0 0, .slice ao3 hFl.length cp3, .slice none 0 0, .int .i64 op, .int .i64 xk, .int .i64 xn, .string xs2, .string xs, .string nmv, .int .i64 n8, .slice ao8 k8 c8, .slice none 0 0, .bool false, .int .i64 (-1)] 39) :=by
  have g :=upd (upd (upd (upd (upd (upd (upd (upd bL4 9 (.int .i64 op)) 10 (.int .i64 xk)) 11 (.int .i64 xn)) 12 (.string xs2)) 13 (.string xs)) 14 (.string nmv)) 15 (.int .i64 n8)) 16 (.slice ao8 k8 c8)
  simp only [List.setIfInBounds_toArray,List.set_cons_succ,List.set_cons_zero] at g
  exact g
 have bRw : (v4.setCells L 9 [.int .i64 op, .int .i64 xk, .int .i64 xn, .string xs2, .string xs, .string nmv, .int .i64 n8, .slice ao8 k8 c8]).heap[w.heap.size]? =some (.cells Ah 39) :=Eu bR4 hRL _ _ _ _ _ _ _ _
 have butw :But a w (v4.setCells L 9 [.int .i64 op, .int .i64 xk, .int .i64 xn, .string xs2, .string xs, .string nmv, .int .i64 n8, .slice ao8 k8 c8]) :=but4.set8m (by omega) _ _ _ _ _ _ _ _
 have rdw :Rd (v4.setCells L 9 [.int .i64 op, .int .i64 xk, .int .i64 xn, .string xs2, .string xs, .string nmv, .int .i64 n8, .slice ao8 k8 c8]) a s5 0 :=rd4.set8m neL _ _ _ _ _ _ _ _
 have kw :Keeps (Fr (L+1)) v4 (v4.setCells L 9 [.int .i64 op, .int .i64 xk, .int .i64 xn, .string xs2, .string xs, .string nmv, .int .i64 n8, .slice ao8 k8 c8]) := (Keeps.refl _ _).set8m (show ¬L+1≤L by omega) _ _ _ _ _ _ _ _
 have hF_3 :=hF_2.keep kw
 have hE_4 :=IsE.keep kw _ _ hE1
 have szw : (v4.setCells L 9 [.int .i64 op, .int .i64 xk, .int .i64 xn, .string xs2, .string xs, .string nmv, .int .i64 n8, .slice ao8 k8 c8]).heap.size=v4.heap.size :=by simp [World.setCells,World.setCell]
 simp only []
 go_step
 go_step
 go_step
 go_step
 refine wpList_store_mid rfl 37 _ _ rfl L 9 #[.int .i64 op, .int .i64 xk, .int .i64 xn, .string xs2, .string xs, .string nmv, .int .i64 n8, .slice ao8 k8 c8] rfl rfl hth Fd hone8 ?_
 go_step
 go_step
 go_step
 go_wp2_with fail
 generalize (v4.setCells L 9 [.int .i64 op, .int .i64 xk, .int .i64 xn, .string xs2, .string xs, .string nmv, .int .i64 n8, .slice ao8 k8 c8]) =Y4 at bRw bLw butw rdw szw hF_3 hE_4⊢
 go_fit (C5 Y4 rdw)
 rintro e v5 ⟨rfl,rd5,hb5_⟩
 have bR5 :=Ac hb5_ bRw neR
 have bL5 :=Ac hb5_ bLw neL
 have but5 :=butw.trans hb5_
 have sz5 :=hb5_.size
 have kp5 :Keeps (Fr (L+1)) Y4 v5 :=hb5_.keeps (show ¬L+1≤a by omega)
 have hF_5 :=hF_3.keep kp5
 have hE_6 :=IsE.keep kp5 _ _ hE_4
 have szv5 :v5.heap.size=v5.heap.size :=rfl
 go_wp2_with fail
 generalize v5=Y5 at bR5 bL5 but5 rd5 hF_5 hE_6⊢
 go_fit (C6 Y5 rd5)
 rintro e v6 ⟨rfl,rd6,hb6_⟩
 have bR6 :=Ac hb6_ bR5 neR
 have bL6 :=Ac hb6_ bL5 neL
 have but6 :=but5.trans hb6_
 have sz6 :=hb6_.size
 have kp6 :Keeps (Fr (L+1)) Y5 v6 :=hb6_.keeps (show ¬L+1≤a by omega)
 have hF_7 :=hF_5.keep kp6
 have hE_8 :=IsE.keep kp6 _ _ hE_6
 have szv6 :v6.heap.size=v6.heap.size :=rfl
 have hone2 : (#[.int .i64 7, .string noW, .string noW, .string noW, .slice none 0 0, .slice none 0 0, .slice none 0 0, .slice ao3 hFl.length cp3, .slice none 0 0, .int .i64 op, .int .i64 xk, .int .i64 xn, .string xs2, .string xs, .string nmv, .int .i64 n8, .slice ao8 k8 c8, .slice none 0 0, .bool false, .int .i64 (-1)] :Array Value).all (·.oneCell') =true :=Cy (Al _ _ _) (Al _ _ _) (Al _ _ _) (Al _ _ _) (Al _ _ _) (Al _ _ _) (Al _ _ _)
 go_wp2_with (first
  | refine wpList_load_row rfl 39 _ rfl L rfl 39 _ _ _ bL6 Tryz.underlying39 rfl Af ?_
  | refine wpList_store_row rfl 39 _ _ rfl w.heap.size #[.int .i64 7, .string noW, .string noW, .string noW, .slice none 0 0, .slice none 0 0, .slice none 0 0, .slice ao3 hFl.length cp3, .slice none 0 0, .int .i64 op, .int .i64 xk, .int .i64 xn, .string xs2, .string xs, .string nmv, .int .i64 n8, .slice ao8 k8 c8, .slice none 0 0, .bool false, .int .i64 (-1)] rfl rfl 39 Ah bR6 Af rfl hone2 ?_)
 refine bodyPost_ret (v := .agg #[.int .i64 7, .string noW, .string noW, .string noW, .slice none 0 0, .slice none 0 0, .slice none 0 0, .slice ao3 hFl.length cp3, .slice none 0 0, .int .i64 op, .int .i64 xk, .int .i64 xn, .string xs2, .string xs, .string nmv, .int .i64 n8, .slice ao8 k8 c8, .slice none 0 0, .bool false, .int .i64 (-1)]) (results_cell_row Tryz.results53 _ _ w.heap.size 39 _ _ _ rfl (Am bR6) Tryz.underlying39 rfl Af) rfl ⟨(#[.int .i64 7, .string noW, .string noW, .string noW, .slice none 0 0, .slice none 0 0, .slice none 0 0, .slice ao3 hFl.length cp3, .slice none 0 0, .int .i64 op, .int .i64 xk, .int .i64 xn, .string xs2, .string xs, .string nmv, .int .i64 n8, .slice ao8 k8 c8, .slice none 0 0, .bool false, .int .i64 (-1)] :Array Value).toList,rfl, ?_, ?_, ?_⟩
 ·have kz :Keeps (Fr (L+1)) v6 (v6.setRow w.heap.size #[.int .i64 7, .string noW, .string noW, .string noW, .slice none 0 0, .slice none 0 0, .slice none 0 0, .slice ao3 hFl.length cp3, .slice none 0 0, .int .i64 op, .int .i64 xk, .int .i64 xn, .string xs2, .string xs, .string nmv, .int .i64 n8, .slice ao8 k8 c8, .slice none 0 0, .bool false, .int .i64 (-1)]) := (Keeps.refl _ _).row (show ¬L+1≤w.heap.size by omega) _
  exact Fq.mono (F :=Fr (L+1)) (fun k _ hk=>by have :L+1≤k :=hk;show w.heap.size≤k;omega) (D8 (IsL.nil _ _ _) (IsL.nil _ _ _) (IsL.nil _ _ _) (hF_7.keep kz) (IsL.nil _ _ _) (IsE.keep kz _ _ hE_8) (IsL.nil _ _ _))
 ·exact rd6.row neR _
 ·exact but6.row (Nat.le_refl _) _
set_option maxHeartbeats 4000000 in
set_option maxRecDepth 100000 in
theorem Aab (a :Nat) (s :St) (w :World) (h :Rd w a s 0) (he :Env w) (ha :16≤a) (s1 s2 s3 s4 s5 s6 s7 s8 s9 s10 s11 :St) (hFl :List Wd) (WE :E) (hOl :List E) (E1 :E) (dn :Bool) (nn :Int) (C1 :Dw a A9 s false s1) (C2 :Oi a s1 hOl s2) (C3 :Ik a Az s2 s3) (C4 :Jn a s3 hFl s4) (C5 :Jo a s4 WE s5) (C6 :Dw a Bl s5 true s6) (C7 :Ik a kBy s6 s7) (C8 :Re a s7 E1 s8) (C9 :Dw a Co s8 dn s9) (C10 :Dw a Cr s9 true s10) (C11 :U1 a s10 nn s11) :
  Calls Tryz.prog 53 #[.pointer (some ⟨a,0,none⟩)] w fun e w'=> ∃c,e= .returned (Dv c) ∧Fq.R (Fr w.heap.size) w' ⟨7,noW,noW,noW,[],[],[],hFl,hOl,WE,[E1],dn,nn⟩ c∧Rd w' a s11 0∧But a w w' :=by
 have hla :=h.lt
 have hone : (Ai 7).all (·.oneCell') =true :=Cy (Al _ _ _) (Al _ _ _) (Al _ _ _) (Al _ _ _) (Al _ _ _) (Al _ _ _) (Al _ _ _)
 go_enter Tryz.func53,Tryz.ntmps53
 go_wp2_with fail
 generalize hW :w.alloc (.cells Ah 39) =W
 have hb0 :Below w.heap.size w W :=by rw [←hW];exact (Below.refl _ _).alloc (Nat.le_refl _) _
 have b0 :W.heap[w.heap.size]? =some (.cells Ah 39) :=by rw [←hW];exact Ad w _
 have hWs :W.heap.size=w.heap.size+1 :=by rw [←hW,World.size_alloc]
 clear hW
 go_fit (D0 7 W)
 rintro e w1 ⟨rfl,hb1⟩
 have hs1 :=hb1.size
 have b1 :=Ae ((hb1.block _ (lt_of_block b0)).trans b0) (.cells Ah 39)
 have c1 :=Ad w1 (.cells Ah 39)
 go_wp2_with (refine wpList_store_row rfl 39 _ _ rfl w1.heap.size (Ai 7) rfl rfl 39 Ah c1 Af rfl hone ?_)
 generalize hX : (w1.alloc (.cells Ah 39)).setRow w1.heap.size (Ai 7) =X0
 have hRL :w.heap.size≠w1.heap.size :=by omega
 have bR0 :X0.heap[w.heap.size]? =some (.cells Ah 39) :=by rw [←hX];exact Bu b1 hRL _
 have bL0 :X0.heap[w1.heap.size]? =some (.cells #[.int .i64 7, .string noW, .string noW, .string noW, .slice none 0 0, .slice none 0 0, .slice none 0 0, .slice none 0 0, .slice none 0 0, .int .i64 0, .int .i64 0, .int .i64 0, .string noW, .string noW, .string noW, .int .i64 0, .slice none 0 0, .slice none 0 0, .bool false, .int .i64 (-1)] 39) :=by rw [←hX];exact Am c1
 have but0 :But a w X0 :=by rw [←hX];exact ((But.of_below (Do hb0 hb1)).alloc _).row (by omega) _
 have rd0 :Rd X0 a s 0 :=by rw [←hX];exact ((h.below (Do hb0 hb1)).below ((Below.refl _ _).alloc (Nat.le_refl _) _)).row (by omega) _
 have szX0 :X0.heap.size=w1.heap.size+1 :=by rw [←hX];simp [World.setRow]
 have hL :w.heap.size<w1.heap.size :=by omega
 clear hX hb1 b1 c1 hs1 hb0 b0
 generalize w1.heap.size=L at bL0 hRL hL szX0⊢
 have neL :L≠a :=by omega
 have neR :w.heap.size≠a :=by omega
 go_fit (C1 X0 rd0)
 rintro e v1 ⟨rfl,rd1,hb1_⟩
 have bR1 :=Ac hb1_ bR0 neR
 have bL1 :=Ac hb1_ bL0 neL
 have but1 :=but0.trans hb1_
 have sz1 :=hb1_.size
 have kp1 :Keeps (Fr (L+1)) X0 v1 :=hb1_.keeps (show ¬L+1≤a by omega)
 have szv1 :v1.heap.size=v1.heap.size :=rfl
 go_wp2_with fail
 generalize v1=Y1 at bR1 bL1 but1 rd1⊢
 go_fit (C2 Y1 rd1 (he.but but1 ha))
 rintro e v2 ⟨sv2,rfl,hO0,rd2,hb2_⟩
 obtain ⟨ao2,cp2,rfl⟩ :=hO0.shape
 have szL2 :=lt_of_block bL1
 have hO1 :=hO0.mono (F' :=Fr (L+1)) (fun k _ hk=>by have : (Y1).heap.size≤k :=hk;show L+1≤k;omega)
 have bR2 :=Ac hb2_ bR1 neR
 have bL2 :=Ac hb2_ bL1 neL
 have but2 :=but1.trans hb2_
 have sz2 :=hb2_.size
 have kp2 :Keeps (Fr (L+1)) Y1 v2 :=hb2_.keeps (show ¬L+1≤a by omega)
 have szv2 :v2.heap.size=v2.heap.size :=rfl
 have q2 :=Aa bL2 (j :=8) rfl
 have f2 :=Ab bL2 8
 have bLu2 : (v2.setCell ⟨L,8,none⟩ (.slice ao2 hOl.length cp2)).heap[L]? =some (.cells #[.int .i64 7, .string noW, .string noW, .string noW, .slice none 0 0, .slice none 0 0, .slice none 0 0, .slice none 0 0, .slice ao2 hOl.length cp2, .int .i64 0, .int .i64 0, .int .i64 0, .string noW, .string noW, .string noW, .int .i64 0, .slice none 0 0, .slice none 0 0, .bool false, .int .i64 (-1)] 39) :=by
  have g :=upd bL2 8 (.slice ao2 hOl.length cp2)
  simp only [List.setIfInBounds_toArray,List.set_cons_succ,List.set_cons_zero] at g
  exact g
 have bRu2 :=Aj bR2 hRL 8 (.slice ao2 hOl.length cp2)
 have butu2 :=but2.new (b :=L) (by omega) 8 (.slice ao2 hOl.length cp2)
 have rdu2 :=rd2.other neL 8 (.slice ao2 hOl.length cp2)
 have ku2 :Keeps (Fr (L+1)) v2 (v2.setCell ⟨L,8,none⟩ (.slice ao2 hOl.length cp2)) := (Keeps.refl _ _).set (show ¬L+1≤L by omega) _ _
 have hO_1 :=hO1.keep ku2
 have szu2 : (v2.setCell ⟨L,8,none⟩ (.slice ao2 hOl.length cp2)).heap.size=v2.heap.size :=by simp [World.setCell]
 go_wp2_with fail
 generalize (v2.setCell ⟨L,8,none⟩ (.slice ao2 hOl.length cp2)) =Y2 at bRu2 bLu2 butu2 rdu2 szu2 hO_1⊢
 go_fit (C3 Y2 rdu2 _ szu2)
 rintro e v3 ⟨rfl,rd3,hb3_⟩
 have bR3 :=Ac hb3_ bRu2 neR
 have bL3 :=Ac hb3_ bLu2 neL
 have but3 :=butu2.trans hb3_
 have sz3 :=hb3_.size
 have kp3 :Keeps (Fr (L+1)) Y2 v3 :=hb3_.keeps (show ¬L+1≤a by omega)
 have hO_2 :=hO_1.keep kp3
 have szv3 :v3.heap.size=v3.heap.size :=rfl
 go_wp2_with fail
 generalize v3=Y3 at bR3 bL3 but3 rd3 hO_2⊢
 go_fit (C4 Y3 rd3 (he.but but3 ha))
 rintro e v4 ⟨sv4,rfl,hF0,rd4,hb4_⟩
 obtain ⟨ao4,cp4,rfl⟩ :=hF0.shape
 have szL4 :=lt_of_block bL3
 have hF1 :=hF0.mono (F' :=Fr (L+1)) (fun k _ hk=>by have : (Y3).heap.size≤k :=hk;show L+1≤k;omega)
 have bR4 :=Ac hb4_ bR3 neR
 have bL4 :=Ac hb4_ bL3 neL
 have but4 :=but3.trans hb4_
 have sz4 :=hb4_.size
 have kp4 :Keeps (Fr (L+1)) Y3 v4 :=hb4_.keeps (show ¬L+1≤a by omega)
 have hO_3 :=hO_2.keep kp4
 have szv4 :v4.heap.size=v4.heap.size :=rfl
 have q4 :=Aa bL4 (j :=7) rfl
 have f4 :=Ab bL4 7
 have bLu4 : (v4.setCell ⟨L,7,none⟩ (.slice ao4 hFl.length cp4)).heap[L]? =some (.cells #[.int .i64 7, .string noW, .string noW, .string noW, .slice none 0 0, .slice none 0 0, .slice none 0 0, .slice ao4 hFl.length cp4, .slice ao2 hOl.length cp2, .int .i64 0, .int .i64 0, .int .i64 0, .string noW, .string noW, .string noW, .int .i64 0, .slice none 0 0, .slice none 0 0, .bool false, .int .i64 (-1)] 39) :=by
  have g :=upd bL4 7 (.slice ao4 hFl.length cp4)
  simp only [List.setIfInBounds_toArray,List.set_cons_succ,List.set_cons_zero] at g
  exact g
 have bRu4 :=Aj bR4 hRL 7 (.slice ao4 hFl.length cp4)
 have butu4 :=but4.new (b :=L) (by omega) 7 (.slice ao4 hFl.length cp4)
 have rdu4 :=rd4.other neL 7 (.slice ao4 hFl.length cp4)
 have ku4 :Keeps (Fr (L+1)) v4 (v4.setCell ⟨L,7,none⟩ (.slice ao4 hFl.length cp4)) := (Keeps.refl _ _).set (show ¬L+1≤L by omega) _ _
 have hO_4 :=hO_3.keep ku4
 have hF_5 :=hF1.keep ku4
 have szu4 : (v4.setCell ⟨L,7,none⟩ (.slice ao4 hFl.length cp4)).heap.size=v4.heap.size :=by simp [World.setCell]
 go_wp2_with fail
 generalize (v4.setCell ⟨L,7,none⟩ (.slice ao4 hFl.length cp4)) =Y4 at bRu4 bLu4 butu4 rdu4 szu4 hO_4 hF_5⊢
 go_fit (C5 Y4 rdu4 (he.but butu4 ha))
 rintro e v5 ⟨vv,rfl,hE0,rd5,hb5_⟩
 obtain ⟨op,x,xs,nmv,n8,ao8,k8,c8,rfl⟩ :=hE0.shape
 obtain ⟨xk,xn,xs2⟩ :=x
 have szL5 :=lt_of_block bLu4
 have hE1 :=IsE.mono (F' :=Fr (L+1)) (fun k _ hk=>by have : (Y4).heap.size≤k :=hk;show L+1≤k;omega) _ _ hE0
 have bR5 :=Ac hb5_ bRu4 neR
 have bL5 :=Ac hb5_ bLu4 neL
 have but5 :=butu4.trans hb5_
 have sz5 :=hb5_.size
 have kp5 :Keeps (Fr (L+1)) Y4 v5 :=hb5_.keeps (show ¬L+1≤a by omega)
 have hO_6 :=hO_4.keep kp5
 have hF_7 :=hF_5.keep kp5
 have szv5 :v5.heap.size=v5.heap.size :=rfl
 have y0 :=Aa bL5 (j :=9) rfl
 have z0 :=Ab bL5 9
 have y1 :=Aa bL5 (j :=10) rfl
 have z1 :=Ab bL5 10
 have y2 :=Aa bL5 (j :=11) rfl
 have z2 :=Ab bL5 11
 have y3 :=Aa bL5 (j :=12) rfl
 have z3 :=Ab bL5 12
 have y4 :=Aa bL5 (j :=13) rfl
 have z4 :=Ab bL5 13
 have y5 :=Aa bL5 (j :=14) rfl
 have z5 :=Ab bL5 14
 have y6 :=Aa bL5 (j :=15) rfl
 have z6 :=Ab bL5 15
 have y7 :=Aa bL5 (j :=16) rfl
 have z7 :=Ab bL5 16
 have hth :v5.there L 9 8 :=by
  intro j hj
  match j,hj with
  | 0,_=>exact ⟨by rw [y0];rfl,z0⟩
  | 1,_=>exact ⟨by rw [y1];rfl,z1⟩
  | 2,_=>exact ⟨by rw [y2];rfl,z2⟩
  | 3,_=>exact ⟨by rw [y3];rfl,z3⟩
  | 4,_=>exact ⟨by rw [y4];rfl,z4⟩
  | 5,_=>exact ⟨by rw [y5];rfl,z5⟩
  | 6,_=>exact ⟨by rw [y6];rfl,z6⟩
  | 7,_=>exact ⟨by rw [y7];rfl,z7⟩
 clear y0 y1 y2 y3 y4 y5 y6 y7 z0 z1 z2 z3 z4 z5 z6 z7
 have hone8 : (#[.int .i64 op, .int .i64 xk, .int .i64 xn, .string xs2, .string xs, .string nmv, .int .i64 n8, .slice ao8 k8 c8] :Array Value).all (·.oneCell') =true :=by simp [Value.oneCell']
 have bLw : (v5.setCells L 9 [.int .i64 op, .int .i64 xk, .int .i64 xn, .string xs2, .string xs, .string nmv, .int .i64 n8, .slice ao8 k8 c8]).heap[L]? =some (.cells #[.int .i64 7, .string noW, .string noW, .string noW, .slice none 0 0, .slice none 0 0, .slice none 0 0, .slice ao4 hFl.length cp4, .slice ao2 hOl.length cp2, .int .i64 op, .int .i64 xk, .int .i64 xn, .string xs2, .string xs, .string nmv, .int .i64 n8, .slice ao8 k8 c8, .slice none 0 0, .bool false, .int .i64 (-1)] 39) :=by
  have g :=upd (upd (upd (upd (upd (upd (upd (upd bL5 9 (.int .i64 op)) 10 (.int .i64 xk)) 11 (.int .i64 xn)) 12 (.string xs2)) 13 (.string xs)) 14 (.string nmv)) 15 (.int .i64 n8)) 16 (.slice ao8 k8 c8)
  simp only [List.setIfInBounds_toArray,List.set_cons_succ,List.set_cons_zero] at g
  exact g
 have bRw : (v5.setCells L 9 [.int .i64 op, .int .i64 xk, .int .i64 xn, .string xs2, .string xs, .string nmv, .int .i64 n8, .slice ao8 k8 c8]).heap[w.heap.size]? =some (.cells Ah 39) :=Eu bR5 hRL _ _ _ _ _ _ _ _
 have butw :But a w (v5.setCells L 9 [.int .i64 op, .int .i64 xk, .int .i64 xn, .string xs2, .string xs, .string nmv, .int .i64 n8, .slice ao8 k8 c8]) :=but5.set8m (by omega) _ _ _ _ _ _ _ _
 have rdw :Rd (v5.setCells L 9 [.int .i64 op, .int .i64 xk, .int .i64 xn, .string xs2, .string xs, .string nmv, .int .i64 n8, .slice ao8 k8 c8]) a s5 0 :=rd5.set8m neL _ _ _ _ _ _ _ _
 have kw :Keeps (Fr (L+1)) v5 (v5.setCells L 9 [.int .i64 op, .int .i64 xk, .int .i64 xn, .string xs2, .string xs, .string nmv, .int .i64 n8, .slice ao8 k8 c8]) := (Keeps.refl _ _).set8m (show ¬L+1≤L by omega) _ _ _ _ _ _ _ _
 have hO_8 :=hO_6.keep kw
 have hF_9 :=hF_7.keep kw
 have hE_10 :=IsE.keep kw _ _ hE1
 have szw : (v5.setCells L 9 [.int .i64 op, .int .i64 xk, .int .i64 xn, .string xs2, .string xs, .string nmv, .int .i64 n8, .slice ao8 k8 c8]).heap.size=v5.heap.size :=by simp [World.setCells,World.setCell]
 simp only []
 go_step
 go_step
 go_step
 go_step
 refine wpList_store_mid rfl 37 _ _ rfl L 9 #[.int .i64 op, .int .i64 xk, .int .i64 xn, .string xs2, .string xs, .string nmv, .int .i64 n8, .slice ao8 k8 c8] rfl rfl hth Fd hone8 ?_
 go_step
 go_step
 go_step
 go_wp2_with fail
 generalize (v5.setCells L 9 [.int .i64 op, .int .i64 xk, .int .i64 xn, .string xs2, .string xs, .string nmv, .int .i64 n8, .slice ao8 k8 c8]) =Y5 at bRw bLw butw rdw szw hO_8 hF_9 hE_10⊢
 go_fit (C6 Y5 rdw)
 rintro e v6 ⟨rfl,rd6,hb6_⟩
 have bR6 :=Ac hb6_ bRw neR
 have bL6 :=Ac hb6_ bLw neL
 have but6 :=butw.trans hb6_
 have sz6 :=hb6_.size
 have kp6 :Keeps (Fr (L+1)) Y5 v6 :=hb6_.keeps (show ¬L+1≤a by omega)
 have hO_11 :=hO_8.keep kp6
 have hF_12 :=hF_9.keep kp6
 have hE_13 :=IsE.keep kp6 _ _ hE_10
 have szv6 :v6.heap.size=v6.heap.size :=rfl
 go_wp2_with fail
 generalize v6=Y6 at bR6 bL6 but6 rd6 hO_11 hF_12 hE_13⊢
 go_fit (C7 Y6 rd6 _ rfl)
 rintro e v7 ⟨rfl,rd7,hb7_⟩
 have bR7 :=Ac hb7_ bR6 neR
 have bL7 :=Ac hb7_ bL6 neL
 have but7 :=but6.trans hb7_
 have sz7 :=hb7_.size
 have kp7 :Keeps (Fr (L+1)) Y6 v7 :=hb7_.keeps (show ¬L+1≤a by omega)
 have hO_14 :=hO_11.keep kp7
 have hF_15 :=hF_12.keep kp7
 have hE_16 :=IsE.keep kp7 _ _ hE_13
 have szv7 :v7.heap.size=v7.heap.size :=rfl
 go_wp2_with fail
 generalize v7=Y7 at bR7 bL7 but7 rd7 hO_14 hF_15 hE_16⊢
 go_fit (C8 Y7 rd7 (he.but but7 ha))
 rintro e v8 ⟨vv8,rfl,hD0,rd8,hb8_⟩
 obtain ⟨opd,xd,xsd,nmd,nd,aod,kd,cd,rfl⟩ :=hD0.shape
 obtain ⟨xkd,xnd,xsd2⟩ :=xd
 have szL8 :=lt_of_block bL7
 have hD1 :=IsE.mono (F' :=Fr (L+1)) (fun k _ hk=>by have : (Y7).heap.size≤k :=hk;show L+1≤k;omega) _ _ hD0
 have bR8 :=Ac hb8_ bR7 neR
 have bL8 :=Ac hb8_ bL7 neL
 have but8 :=but7.trans hb8_
 have sz8 :=hb8_.size
 have kp8 :Keeps (Fr (L+1)) Y7 v8 :=hb8_.keeps (show ¬L+1≤a by omega)
 have hO_17 :=hO_14.keep kp8
 have hF_18 :=hF_15.keep kp8
 have hE_19 :=IsE.keep kp8 _ _ hE_16
 have szv8 :v8.heap.size=v8.heap.size :=rfl
 have hD2 :IsL Dc (Fr (L+1)) (v8.alloc (.cells #[.int .i64 opd, .int .i64 xkd, .int .i64 xnd, .string xsd2, .string xsd, .string nmd, .int .i64 nd, .slice aod kd cd] 37)) (.slice (some ⟨v8.heap.size,0,none⟩) 1 1) [E1] :=Adx.2 (G4 hD1 (show L+1≤v8.heap.size by have :=lt_of_block bL8;omega))
 have ka8 :Keeps (Fr (L+1)) v8 (v8.alloc (.cells #[.int .i64 opd, .int .i64 xkd, .int .i64 xnd, .string xsd2, .string xsd, .string nmd, .int .i64 nd, .slice aod kd cd] 37)) := (Keeps.refl _ _).alloc _
 have bRa8 :=Ae bR8 (.cells #[.int .i64 opd, .int .i64 xkd, .int .i64 xnd, .string xsd2, .string xsd, .string nmd, .int .i64 nd, .slice aod kd cd] 37)
 have bLa8 :=Ae bL8 (.cells #[.int .i64 opd, .int .i64 xkd, .int .i64 xnd, .string xsd2, .string xsd, .string nmd, .int .i64 nd, .slice aod kd cd] 37)
 have buta8 :=but8.alloc (.cells #[.int .i64 opd, .int .i64 xkd, .int .i64 xnd, .string xsd2, .string xsd, .string nmd, .int .i64 nd, .slice aod kd cd] 37)
 have rda8 :=rd8.below ((Below.refl _ _).alloc (Nat.le_refl _) (.cells #[.int .i64 opd, .int .i64 xkd, .int .i64 xnd, .string xsd2, .string xsd, .string nmd, .int .i64 nd, .slice aod kd cd] 37))
 have hO_20 :=hO_17.keep ka8
 have hF_21 :=hF_18.keep ka8
 have hE_22 :=IsE.keep ka8 _ _ hE_19
 have q8 :=Aa bLa8 (j :=17) rfl
 have f8 :=Ab bLa8 17
 have bLu8 : ((v8.alloc (.cells #[.int .i64 opd, .int .i64 xkd, .int .i64 xnd, .string xsd2, .string xsd, .string nmd, .int .i64 nd, .slice aod kd cd] 37)).setCell ⟨L,17,none⟩ (.slice (some ⟨v8.heap.size,0,none⟩) 1 1)).heap[L]? =some (.cells #[.int .i64 7, .string noW, .string noW, .string noW, .slice none 0 0, .slice none 0 0, .slice none 0 0, .slice ao4 hFl.length cp4, .slice ao2 hOl.length cp2, .int .i64 op, .int .i64 xk, .int .i64 xn, .string xs2, .string xs, .string nmv, .int .i64 n8, .slice ao8 k8 c8, .slice (some ⟨v8.heap.size,0,none⟩) 1 1, .bool false, .int .i64 (-1)] 39) :=by
  have g :=upd bLa8 17 (.slice (some ⟨v8.heap.size,0,none⟩) 1 1)
  simp only [List.setIfInBounds_toArray,List.set_cons_succ,List.set_cons_zero] at g
  exact g
 have bRu8 :=Aj bRa8 hRL 17 (.slice (some ⟨v8.heap.size,0,none⟩) 1 1)
 have butu8 :=buta8.new (b :=L) (by omega) 17 (.slice (some ⟨v8.heap.size,0,none⟩) 1 1)
 have rdu8 :=rda8.other neL 17 (.slice (some ⟨v8.heap.size,0,none⟩) 1 1)
 have ku8 :Keeps (Fr (L+1)) (v8.alloc (.cells #[.int .i64 opd, .int .i64 xkd, .int .i64 xnd, .string xsd2, .string xsd, .string nmd, .int .i64 nd, .slice aod kd cd] 37)) ((v8.alloc (.cells #[.int .i64 opd, .int .i64 xkd, .int .i64 xnd, .string xsd2, .string xsd, .string nmd, .int .i64 nd, .slice aod kd cd] 37)).setCell ⟨L,17,none⟩ (.slice (some ⟨v8.heap.size,0,none⟩) 1 1)) := (Keeps.refl _ _).set (show ¬L+1≤L by omega) _ _
 have hO_23 :=hO_20.keep ku8
 have hF_24 :=hF_21.keep ku8
 have hE_25 :=IsE.keep ku8 _ _ hE_22
 have hD_26 :=hD2.keep ku8
 have szu8 : ((v8.alloc (.cells #[.int .i64 opd, .int .i64 xkd, .int .i64 xnd, .string xsd2, .string xsd, .string nmd, .int .i64 nd, .slice aod kd cd] 37)).setCell ⟨L,17,none⟩ (.slice (some ⟨v8.heap.size,0,none⟩) 1 1)).heap.size= (v8.alloc (.cells #[.int .i64 opd, .int .i64 xkd, .int .i64 xnd, .string xsd2, .string xsd, .string nmd, .int .i64 nd, .slice aod kd cd] 37)).heap.size :=by simp [World.setCell]
 go_wp2_with fail
 generalize ((v8.alloc (.cells #[.int .i64 opd, .int .i64 xkd, .int .i64 xnd, .string xsd2, .string xsd, .string nmd, .int .i64 nd, .slice aod kd cd] 37)).setCell ⟨L,17,none⟩ (.slice (some ⟨v8.heap.size,0,none⟩) 1 1)) =Y8 at bRu8 bLu8 butu8 rdu8 szu8 hO_23 hF_24 hE_25 hD_26⊢
 go_fit (C9 Y8 rdu8)
 rintro e v9 ⟨rfl,rd9,hb9_⟩
 have bR9 :=Ac hb9_ bRu8 neR
 have bL9 :=Ac hb9_ bLu8 neL
 have but9 :=butu8.trans hb9_
 have sz9 :=hb9_.size
 have kp9 :Keeps (Fr (L+1)) Y8 v9 :=hb9_.keeps (show ¬L+1≤a by omega)
 have hO_27 :=hO_23.keep kp9
 have hF_28 :=hF_24.keep kp9
 have hE_29 :=IsE.keep kp9 _ _ hE_25
 have hD_30 :=hD_26.keep kp9
 have szv9 :v9.heap.size=v9.heap.size :=rfl
 have q9 :=Aa bL9 (j :=18) rfl
 have f9 :=Ab bL9 18
 have bLu9 : (v9.setCell ⟨L,18,none⟩ (.bool dn)).heap[L]? =some (.cells #[.int .i64 7, .string noW, .string noW, .string noW, .slice none 0 0, .slice none 0 0, .slice none 0 0, .slice ao4 hFl.length cp4, .slice ao2 hOl.length cp2, .int .i64 op, .int .i64 xk, .int .i64 xn, .string xs2, .string xs, .string nmv, .int .i64 n8, .slice ao8 k8 c8, .slice (some ⟨v8.heap.size,0,none⟩) 1 1, .bool dn, .int .i64 (-1)] 39) :=by
  have g :=upd bL9 18 (.bool dn)
  simp only [List.setIfInBounds_toArray,List.set_cons_succ,List.set_cons_zero] at g
  exact g
 have bRu9 :=Aj bR9 hRL 18 (.bool dn)
 have butu9 :=but9.new (b :=L) (by omega) 18 (.bool dn)
 have rdu9 :=rd9.other neL 18 (.bool dn)
 have ku9 :Keeps (Fr (L+1)) v9 (v9.setCell ⟨L,18,none⟩ (.bool dn)) := (Keeps.refl _ _).set (show ¬L+1≤L by omega) _ _
 have hO_31 :=hO_27.keep ku9
 have hF_32 :=hF_28.keep ku9
 have hE_33 :=IsE.keep ku9 _ _ hE_29
 have hD_34 :=hD_30.keep ku9
 have szu9 : (v9.setCell ⟨L,18,none⟩ (.bool dn)).heap.size=v9.heap.size :=by simp [World.setCell]
 go_wp2_with fail
 generalize (v9.setCell ⟨L,18,none⟩ (.bool dn)) =Y9 at bRu9 bLu9 butu9 rdu9 szu9 hO_31 hF_32 hE_33 hD_34⊢
 go_fit (C10 Y9 rdu9)
 rintro e v10 ⟨rfl,rd10,hb10_⟩
 have bR10 :=Ac hb10_ bRu9 neR
 have bL10 :=Ac hb10_ bLu9 neL
 have but10 :=butu9.trans hb10_
 have sz10 :=hb10_.size
 have kp10 :Keeps (Fr (L+1)) Y9 v10 :=hb10_.keeps (show ¬L+1≤a by omega)
 have hO_35 :=hO_31.keep kp10
 have hF_36 :=hF_32.keep kp10
 have hE_37 :=IsE.keep kp10 _ _ hE_33
 have hD_38 :=hD_34.keep kp10
 have szv10 :v10.heap.size=v10.heap.size :=rfl
 go_wp2_with fail
 generalize v10=Y10 at bR10 bL10 but10 rd10 hO_35 hF_36 hE_37 hD_38⊢
 go_fit (C11 Y10 rd10 (he.but but10 ha))
 rintro e v11 ⟨rfl,rd11,hb11_⟩
 have bR11 :=Ac hb11_ bR10 neR
 have bL11 :=Ac hb11_ bL10 neL
 have but11 :=but10.trans hb11_
 have sz11 :=hb11_.size
 have kp11 :Keeps (Fr (L+1)) Y10 v11 :=hb11_.keeps (show ¬L+1≤a by omega)
 have hO_39 :=hO_35.keep kp11
 have hF_40 :=hF_36.keep kp11
 have hE_41 :=IsE.keep kp11 _ _ hE_37
 have hD_42 :=hD_38.keep kp11
 have szv11 :v11.heap.size=v11.heap.size :=rfl
 have q11 :=Aa bL11 (j :=19) rfl
 have f11 :=Ab bL11 19
 have bLu11 : (v11.setCell ⟨L,19,none⟩ (.int .i64 nn)).heap[L]? =some (.cells #[.int .i64 7, .string noW, .string noW, .string noW, .slice none 0 0, .slice none 0 0, .slice none 0 0, .slice ao4 hFl.length cp4, .slice ao2 hOl.length cp2, .int .i64 op, .int .i64 xk, .int .i64 xn, .string xs2, .string xs, .string nmv, .int .i64 n8, .slice ao8 k8 c8, .slice (some ⟨v8.heap.size,0,none⟩) 1 1, .bool dn, .int .i64 nn] 39) :=by
  have g :=upd bL11 19 (.int .i64 nn)
  simp only [List.setIfInBounds_toArray,List.set_cons_succ,List.set_cons_zero] at g
  exact g
 have bRu11 :=Aj bR11 hRL 19 (.int .i64 nn)
 have butu11 :=but11.new (b :=L) (by omega) 19 (.int .i64 nn)
 have rdu11 :=rd11.other neL 19 (.int .i64 nn)
 have ku11 :Keeps (Fr (L+1)) v11 (v11.setCell ⟨L,19,none⟩ (.int .i64 nn)) := (Keeps.refl _ _).set (show ¬L+1≤L by omega) _ _
 have hO_43 :=hO_39.keep ku11
 have hF_44 :=hF_40.keep ku11
 have hE_45 :=IsE.keep ku11 _ _ hE_41
 have hD_46 :=hD_42.keep ku11
 have szu11 : (v11.setCell ⟨L,19,none⟩ (.int .i64 nn)).heap.size=v11.heap.size :=by simp [World.setCell]
 have hone2 : (#[.int .i64 7, .string noW, .string noW, .string noW, .slice none 0 0, .slice none 0 0, .slice none 0 0, .slice ao4 hFl.length cp4, .slice ao2 hOl.length cp2, .int .i64 op, .int .i64 xk, .int .i64 xn, .string xs2, .string xs, .string nmv, .int .i64 n8, .slice ao8 k8 c8, .slice (some ⟨v8.heap.size,0,none⟩) 1 1, .bool dn, .int .i64 nn] :Array Value).all (·.oneCell') =true :=Cy (Al _ _ _) (Al _ _ _) (Al _ _ _) (Al _ _ _) (Al _ _ _) (Al _ _ _) (Al _ _ _)
 go_wp2_with (first
  | refine wpList_load_row rfl 39 _ rfl L rfl 39 _ _ _ bLu11 Tryz.underlying39 rfl Af ?_
  | refine wpList_store_row rfl 39 _ _ rfl w.heap.size #[.int .i64 7, .string noW, .string noW, .string noW, .slice none 0 0, .slice none 0 0, .slice none 0 0, .slice ao4 hFl.length cp4, .slice ao2 hOl.length cp2, .int .i64 op, .int .i64 xk, .int .i64 xn, .string xs2, .string xs, .string nmv, .int .i64 n8, .slice ao8 k8 c8, .slice (some ⟨v8.heap.size,0,none⟩) 1 1, .bool dn, .int .i64 nn] rfl rfl 39 Ah bRu11 Af rfl hone2 ?_)
 refine bodyPost_ret (v := .agg #[.int .i64 7, .string noW, .string noW, .string noW, .slice none 0 0, .slice none 0 0, .slice none 0 0, .slice ao4 hFl.length cp4, .slice ao2 hOl.length cp2, .int .i64 op, .int .i64 xk, .int .i64 xn, .string xs2, .string xs, .string nmv, .int .i64 n8, .slice ao8 k8 c8, .slice (some ⟨v8.heap.size,0,none⟩) 1 1, .bool dn, .int .i64 nn]) (results_cell_row Tryz.results53 _ _ w.heap.size 39 _ _ _ rfl (Am bRu11) Tryz.underlying39 rfl Af) rfl ⟨(#[.int .i64 7, .string noW, .string noW, .string noW, .slice none 0 0, .slice none 0 0, .slice none 0 0, .slice ao4 hFl.length cp4, .slice ao2 hOl.length cp2, .int .i64 op, .int .i64 xk, .int .i64 xn, .string xs2, .string xs, .string nmv, .int .i64 n8, .slice ao8 k8 c8, .slice (some ⟨v8.heap.size,0,none⟩) 1 1, .bool dn, .int .i64 nn] :Array Value).toList,rfl, ?_, ?_, ?_⟩
 ·have kz :Keeps (Fr (L+1)) (v11.setCell ⟨L,19,none⟩ (.int .i64 nn)) ((v11.setCell ⟨L,19,none⟩ (.int .i64 nn)).setRow w.heap.size #[.int .i64 7, .string noW, .string noW, .string noW, .slice none 0 0, .slice none 0 0, .slice none 0 0, .slice ao4 hFl.length cp4, .slice ao2 hOl.length cp2, .int .i64 op, .int .i64 xk, .int .i64 xn, .string xs2, .string xs, .string nmv, .int .i64 n8, .slice ao8 k8 c8, .slice (some ⟨v8.heap.size,0,none⟩) 1 1, .bool dn, .int .i64 nn]) := (Keeps.refl _ _).row (show ¬L+1≤w.heap.size by omega) _
  exact Fq.mono (F :=Fr (L+1)) (fun k _ hk=>by have :L+1≤k :=hk;show w.heap.size≤k;omega) (D8 (IsL.nil _ _ _) (IsL.nil _ _ _) (IsL.nil _ _ _) (hF_44.keep kz) (hO_43.keep kz) (IsE.keep kz _ _ hE_45) (hD_46.keep kz))
 ·exact rdu11.row neR _
 ·exact butu11.row (Nat.le_refl _) _
set_option maxHeartbeats 4000000 in
set_option maxRecDepth 100000 in
theorem Aac (a :Nat) (s :St) (w :World) (h :Rd w a s 0) (he :Env w) (ha :16≤a) (s1 s2 s3 s4 s5 s6 s7 s8 s9 s10 :St) (hFl :List Wd) (WE :E) (hOl :List E) (E1 :E) (dn :Bool) (C1 :Dw a A9 s false s1) (C2 :Oi a s1 hOl s2) (C3 :Ik a Az s2 s3) (C4 :Jn a s3 hFl s4) (C5 :Jo a s4 WE s5) (C6 :Dw a Bl s5 true s6) (C7 :Ik a kBy s6 s7) (C8 :Re a s7 E1 s8) (C9 :Dw a Co s8 dn s9) (C10 :Dw a Cr s9 false s10) :
  Calls Tryz.prog 53 #[.pointer (some ⟨a,0,none⟩)] w fun e w'=> ∃c,e= .returned (Dv c) ∧Fq.R (Fr w.heap.size) w' ⟨7,noW,noW,noW,[],[],[],hFl,hOl,WE,[E1],dn, -1⟩ c∧Rd w' a s10 0∧But a w w' :=by
 have hla :=h.lt
 have hone : (Ai 7).all (·.oneCell') =true :=Cy (Al _ _ _) (Al _ _ _) (Al _ _ _) (Al _ _ _) (Al _ _ _) (Al _ _ _) (Al _ _ _)
 go_enter Tryz.func53,Tryz.ntmps53
 go_wp2_with fail
 generalize hW :w.alloc (.cells Ah 39) =W
 have hb0 :Below w.heap.size w W :=by rw [←hW];exact (Below.refl _ _).alloc (Nat.le_refl _) _
 have b0 :W.heap[w.heap.size]? =some (.cells Ah 39) :=by rw [←hW];exact Ad w _
 have hWs :W.heap.size=w.heap.size+1 :=by rw [←hW,World.size_alloc]
 clear hW
 go_fit (D0 7 W)
 rintro e w1 ⟨rfl,hb1⟩
 have hs1 :=hb1.size
 have b1 :=Ae ((hb1.block _ (lt_of_block b0)).trans b0) (.cells Ah 39)
 have c1 :=Ad w1 (.cells Ah 39)
 go_wp2_with (refine wpList_store_row rfl 39 _ _ rfl w1.heap.size (Ai 7) rfl rfl 39 Ah c1 Af rfl hone ?_)
 generalize hX : (w1.alloc (.cells Ah 39)).setRow w1.heap.size (Ai 7) =X0
 have hRL :w.heap.size≠w1.heap.size :=by omega
 have bR0 :X0.heap[w.heap.size]? =some (.cells Ah 39) :=by rw [←hX];exact Bu b1 hRL _
 have bL0 :X0.heap[w1.heap.size]? =some (.cells #[.int .i64 7, .string noW, .string noW, .string noW, .slice none 0 0, .slice none 0 0, .slice none 0 0, .slice none 0 0, .slice none 0 0, .int .i64 0, .int .i64 0, .int .i64 0, .string noW, .string noW, .string noW, .int .i64 0, .slice none 0 0, .slice none 0 0, .bool false, .int .i64 (-1)] 39) :=by rw [←hX];exact Am c1
 have but0 :But a w X0 :=by rw [←hX];exact ((But.of_below (Do hb0 hb1)).alloc _).row (by omega) _
 have rd0 :Rd X0 a s 0 :=by rw [←hX];exact ((h.below (Do hb0 hb1)).below ((Below.refl _ _).alloc (Nat.le_refl _) _)).row (by omega) _
 have szX0 :X0.heap.size=w1.heap.size+1 :=by rw [←hX];simp [World.setRow]
 have hL :w.heap.size<w1.heap.size :=by omega
 clear hX hb1 b1 c1 hs1 hb0 b0
 generalize w1.heap.size=L at bL0 hRL hL szX0⊢
 have neL :L≠a :=by omega
 have neR :w.heap.size≠a :=by omega
 go_fit (C1 X0 rd0)
 rintro e v1 ⟨rfl,rd1,hb1_⟩
 have bR1 :=Ac hb1_ bR0 neR
 have bL1 :=Ac hb1_ bL0 neL
 have but1 :=but0.trans hb1_
 have sz1 :=hb1_.size
 have kp1 :Keeps (Fr (L+1)) X0 v1 :=hb1_.keeps (show ¬L+1≤a by omega)
 have szv1 :v1.heap.size=v1.heap.size :=rfl
 go_wp2_with fail
 generalize v1=Y1 at bR1 bL1 but1 rd1⊢
 go_fit (C2 Y1 rd1 (he.but but1 ha))
 rintro e v2 ⟨sv2,rfl,hO0,rd2,hb2_⟩
 obtain ⟨ao2,cp2,rfl⟩ :=hO0.shape
 have szL2 :=lt_of_block bL1
 have hO1 :=hO0.mono (F' :=Fr (L+1)) (fun k _ hk=>by have : (Y1).heap.size≤k :=hk;show L+1≤k;omega)
 have bR2 :=Ac hb2_ bR1 neR
 have bL2 :=Ac hb2_ bL1 neL
 have but2 :=but1.trans hb2_
 have sz2 :=hb2_.size
 have kp2 :Keeps (Fr (L+1)) Y1 v2 :=hb2_.keeps (show ¬L+1≤a by omega)
 have szv2 :v2.heap.size=v2.heap.size :=rfl
 have q2 :=Aa bL2 (j :=8) rfl
 have f2 :=Ab bL2 8
 have bLu2 : (v2.setCell ⟨L,8,none⟩ (.slice ao2 hOl.length cp2)).heap[L]? =some (.cells #[.int .i64 7, .string noW, .string noW, .string noW, .slice none 0 0, .slice none 0 0, .slice none 0 0, .slice none 0 0, .slice ao2 hOl.length cp2, .int .i64 0, .int .i64 0, .int .i64 0, .string noW, .string noW, .string noW, .int .i64 0, .slice none 0 0, .slice none 0 0, .bool false, .int .i64 (-1)] 39) :=by
  have g :=upd bL2 8 (.slice ao2 hOl.length cp2)
  simp only [List.setIfInBounds_toArray,List.set_cons_succ,List.set_cons_zero] at g
  exact g
 have bRu2 :=Aj bR2 hRL 8 (.slice ao2 hOl.length cp2)
 have butu2 :=but2.new (b :=L) (by omega) 8 (.slice ao2 hOl.length cp2)
 have rdu2 :=rd2.other neL 8 (.slice ao2 hOl.length cp2)
 have ku2 :Keeps (Fr (L+1)) v2 (v2.setCell ⟨L,8,none⟩ (.slice ao2 hOl.length cp2)) := (Keeps.refl _ _).set (show ¬L+1≤L by omega) _ _
 have hO_1 :=hO1.keep ku2
 have szu2 : (v2.setCell ⟨L,8,none⟩ (.slice ao2 hOl.length cp2)).heap.size=v2.heap.size :=by simp [World.setCell]
 go_wp2_with fail
 generalize (v2.setCell ⟨L,8,none⟩ (.slice ao2 hOl.length cp2)) =Y2 at bRu2 bLu2 butu2 rdu2 szu2 hO_1⊢
 go_fit (C3 Y2 rdu2 _ szu2)
 rintro e v3 ⟨rfl,rd3,hb3_⟩
 have bR3 :=Ac hb3_ bRu2 neR
 have bL3 :=Ac hb3_ bLu2 neL
 have but3 :=butu2.trans hb3_
 have sz3 :=hb3_.size
 have kp3 :Keeps (Fr (L+1)) Y2 v3 :=hb3_.keeps (show ¬L+1≤a by omega)
 have hO_2 :=hO_1.keep kp3
 have szv3 :v3.heap.size=v3.heap.size :=rfl
 go_wp2_with fail
 generalize v3=Y3 at bR3 bL3 but3 rd3 hO_2⊢
 go_fit (C4 Y3 rd3 (he.but but3 ha))
 rintro e v4 ⟨sv4,rfl,hF0,rd4,hb4_⟩
 obtain ⟨ao4,cp4,rfl⟩ :=hF0.shape
 have szL4 :=lt_of_block bL3
 have hF1 :=hF0.mono (F' :=Fr (L+1)) (fun k _ hk=>by have : (Y3).heap.size≤k :=hk;show L+1≤k;omega)
 have bR4 :=Ac hb4_ bR3 neR
 have bL4 :=Ac hb4_ bL3 neL
 have but4 :=but3.trans hb4_
 have sz4 :=hb4_.size
 have kp4 :Keeps (Fr (L+1)) Y3 v4 :=hb4_.keeps (show ¬L+1≤a by omega)
 have hO_3 :=hO_2.keep kp4
 have szv4 :v4.heap.size=v4.heap.size :=rfl
 have q4 :=Aa bL4 (j :=7) rfl
 have f4 :=Ab bL4 7
 have bLu4 : (v4.setCell ⟨L,7,none⟩ (.slice ao4 hFl.length cp4)).heap[L]? =some (.cells #[.int .i64 7, .string noW, .string noW, .string noW, .slice none 0 0, .slice none 0 0, .slice none 0 0, .slice ao4 hFl.length cp4, .slice ao2 hOl.length cp2, .int .i64 0, .int .i64 0, .int .i64 0, .string noW, .string noW, .string noW, .int .i64 0, .slice none 0 0, .slice none 0 0, .bool false, .int .i64 (-1)] 39) :=by
  have g :=upd bL4 7 (.slice ao4 hFl.length cp4)
  simp only [List.setIfInBounds_toArray,List.set_cons_succ,List.set_cons_zero] at g
  exact g
 have bRu4 :=Aj bR4 hRL 7 (.slice ao4 hFl.length cp4)
 have butu4 :=but4.new (b :=L) (by omega) 7 (.slice ao4 hFl.length cp4)
 have rdu4 :=rd4.other neL 7 (.slice ao4 hFl.length cp4)
 have ku4 :Keeps (Fr (L+1)) v4 (v4.setCell ⟨L,7,none⟩ (.slice ao4 hFl.length cp4)) := (Keeps.refl _ _).set (show ¬L+1≤L by omega) _ _
 have hO_4 :=hO_3.keep ku4
 have hF_5 :=hF1.keep ku4
 have szu4 : (v4.setCell ⟨L,7,none⟩ (.slice ao4 hFl.length cp4)).heap.size=v4.heap.size :=by simp [World.setCell]
 go_wp2_with fail
 generalize (v4.setCell ⟨L,7,none⟩ (.slice ao4 hFl.length cp4)) =Y4 at bRu4 bLu4 butu4 rdu4 szu4 hO_4 hF_5⊢
 go_fit (C5 Y4 rdu4 (he.but butu4 ha))
 rintro e v5 ⟨vv,rfl,hE0,rd5,hb5_⟩
 obtain ⟨op,x,xs,nmv,n8,ao8,k8,c8,rfl⟩ :=hE0.shape
 obtain ⟨xk,xn,xs2⟩ :=x
 have szL5 :=lt_of_block bLu4
 have hE1 :=IsE.mono (F' :=Fr (L+1)) (fun k _ hk=>by have : (Y4).heap.size≤k :=hk;show L+1≤k;omega) _ _ hE0
 have bR5 :=Ac hb5_ bRu4 neR
 have bL5 :=Ac hb5_ bLu4 neL
 have but5 :=butu4.trans hb5_
 have sz5 :=hb5_.size
 have kp5 :Keeps (Fr (L+1)) Y4 v5 :=hb5_.keeps (show ¬L+1≤a by omega)
 have hO_6 :=hO_4.keep kp5
 have hF_7 :=hF_5.keep kp5
 have szv5 :v5.heap.size=v5.heap.size :=rfl
 have y0 :=Aa bL5 (j :=9) rfl
 have z0 :=Ab bL5 9
 have y1 :=Aa bL5 (j :=10) rfl
 have z1 :=Ab bL5 10
 have y2 :=Aa bL5 (j :=11) rfl
 have z2 :=Ab bL5 11
 have y3 :=Aa bL5 (j :=12) rfl
 have z3 :=Ab bL5 12
 have y4 :=Aa bL5 (j :=13) rfl
 have z4 :=Ab bL5 13
 have y5 :=Aa bL5 (j :=14) rfl
 have z5 :=Ab bL5 14
 have y6 :=Aa bL5 (j :=15) rfl
 have z6 :=Ab bL5 15
 have y7 :=Aa bL5 (j :=16) rfl
 have z7 :=Ab bL5 16
 have hth :v5.there L 9 8 :=by
  intro j hj
  match j,hj with
  | 0,_=>exact ⟨by rw [y0];rfl,z0⟩
  | 1,_=>exact ⟨by rw [y1];rfl,z1⟩
  | 2,_=>exact ⟨by rw [y2];rfl,z2⟩
  | 3,_=>exact ⟨by rw [y3];rfl,z3⟩
  | 4,_=>exact ⟨by rw [y4];rfl,z4⟩
  | 5,_=>exact ⟨by rw [y5];rfl,z5⟩
  | 6,_=>exact ⟨by rw [y6];rfl,z6⟩
  | 7,_=>exact ⟨by rw [y7];rfl,z7⟩
 clear y0 y1 y2 y3 y4 y5 y6 y7 z0 z1 z2 z3 z4 z5 z6 z7
 have hone8 : (#[.int .i64 op, .int .i64 xk, .int .i64 xn, .string xs2, .string xs, .string nmv, .int .i64 n8, .slice ao8 k8 c8] :Array Value).all (·.oneCell') =true :=by simp [Value.oneCell']
 have bLw : (v5.setCells L 9 [.int .i64 op, .int .i64 xk, .int .i64 xn, .string xs2, .string xs, .string nmv, .int .i64 n8, .slice ao8 k8 c8]).heap[L]? =some (.cells #[.int .i64 7, .string noW, .string noW, .string noW, .slice none 0 0, .slice none 0 0, .slice none 0 0, .slice ao4 hFl.length cp4, .slice ao2 hOl.length cp2, .int .i64 op, .int .i64 xk, .int .i64 xn, .string xs2, .string xs, .string nmv, .int .i64 n8, .slice ao8 k8 c8, .slice none 0 0, .bool false, .int .i64 (-1)] 39) :=by
  have g :=upd (upd (upd (upd (upd (upd (upd (upd bL5 9 (.int .i64 op)) 10 (.int .i64 xk)) 11 (.int .i64 xn)) 12 (.string xs2)) 13 (.string xs)) 14 (.string nmv)) 15 (.int .i64 n8)) 16 (.slice ao8 k8 c8)
  simp only [List.setIfInBounds_toArray,List.set_cons_succ,List.set_cons_zero] at g
  exact g
 have bRw : (v5.setCells L 9 [.int .i64 op, .int .i64 xk, .int .i64 xn, .string xs2, .string xs, .string nmv, .int .i64 n8, .slice ao8 k8 c8]).heap[w.heap.size]? =some (.cells Ah 39) :=Eu bR5 hRL _ _ _ _ _ _ _ _
 have butw :But a w (v5.setCells L 9 [.int .i64 op, .int .i64 xk, .int .i64 xn, .string xs2, .string xs, .string nmv, .int .i64 n8, .slice ao8 k8 c8]) :=but5.set8m (by omega) _ _ _ _ _ _ _ _
 have rdw :Rd (v5.setCells L 9 [.int .i64 op, .int .i64 xk, .int .i64 xn, .string xs2, .string xs, .string nmv, .int .i64 n8, .slice ao8 k8 c8]) a s5 0 :=rd5.set8m neL _ _ _ _ _ _ _ _
 have kw :Keeps (Fr (L+1)) v5 (v5.setCells L 9 [.int .i64 op, .int .i64 xk, .int .i64 xn, .string xs2, .string xs, .string nmv, .int .i64 n8, .slice ao8 k8 c8]) := (Keeps.refl _ _).set8m (show ¬L+1≤L by omega) _ _ _ _ _ _ _ _
 have hO_8 :=hO_6.keep kw
 have hF_9 :=hF_7.keep kw
 have hE_10 :=IsE.keep kw _ _ hE1
 have szw : (v5.setCells L 9 [.int .i64 op, .int .i64 xk, .int .i64 xn, .string xs2, .string xs, .string nmv, .int .i64 n8, .slice ao8 k8 c8]).heap.size=v5.heap.size :=by simp [World.setCells,World.setCell]
 simp only []
 go_step
 go_step
 go_step
 go_step
 refine wpList_store_mid rfl 37 _ _ rfl L 9 #[.int .i64 op, .int .i64 xk, .int .i64 xn, .string xs2, .string xs, .string nmv, .int .i64 n8, .slice ao8 k8 c8] rfl rfl hth Fd hone8 ?_
 go_step
 go_step
 go_step
 go_wp2_with fail
 generalize (v5.setCells L 9 [.int .i64 op, .int .i64 xk, .int .i64 xn, .string xs2, .string xs, .string nmv, .int .i64 n8, .slice ao8 k8 c8]) =Y5 at bRw bLw butw rdw szw hO_8 hF_9 hE_10⊢
 go_fit (C6 Y5 rdw)
 rintro e v6 ⟨rfl,rd6,hb6_⟩
 have bR6 :=Ac hb6_ bRw neR
 have bL6 :=Ac hb6_ bLw neL
 have but6 :=butw.trans hb6_
 have sz6 :=hb6_.size
 have kp6 :Keeps (Fr (L+1)) Y5 v6 :=hb6_.keeps (show ¬L+1≤a by omega)
 have hO_11 :=hO_8.keep kp6
 have hF_12 :=hF_9.keep kp6
 have hE_13 :=IsE.keep kp6 _ _ hE_10
 have szv6 :v6.heap.size=v6.heap.size :=rfl
 go_wp2_with fail
 generalize v6=Y6 at bR6 bL6 but6 rd6 hO_11 hF_12 hE_13⊢
 go_fit (C7 Y6 rd6 _ rfl)
 rintro e v7 ⟨rfl,rd7,hb7_⟩
 have bR7 :=Ac hb7_ bR6 neR
 have bL7 :=Ac hb7_ bL6 neL
 have but7 :=but6.trans hb7_
 have sz7 :=hb7_.size
 have kp7 :Keeps (Fr (L+1)) Y6 v7 :=hb7_.keeps (show ¬L+1≤a by omega)
 have hO_14 :=hO_11.keep kp7
 have hF_15 :=hF_12.keep kp7
 have hE_16 :=IsE.keep kp7 _ _ hE_13
 have szv7 :v7.heap.size=v7.heap.size :=rfl
 go_wp2_with fail
 generalize v7=Y7 at bR7 bL7 but7 rd7 hO_14 hF_15 hE_16⊢
 go_fit (C8 Y7 rd7 (he.but but7 ha))
 rintro e v8 ⟨vv8,rfl,hD0,rd8,hb8_⟩
 obtain ⟨opd,xd,xsd,nmd,nd,aod,kd,cd,rfl⟩ :=hD0.shape
 obtain ⟨xkd,xnd,xsd2⟩ :=xd
 have szL8 :=lt_of_block bL7
 have hD1 :=IsE.mono (F' :=Fr (L+1)) (fun k _ hk=>by have : (Y7).heap.size≤k :=hk;show L+1≤k;omega) _ _ hD0
 have bR8 :=Ac hb8_ bR7 neR
 have bL8 :=Ac hb8_ bL7 neL
 have but8 :=but7.trans hb8_
 have sz8 :=hb8_.size
 have kp8 :Keeps (Fr (L+1)) Y7 v8 :=hb8_.keeps (show ¬L+1≤a by omega)
 have hO_17 :=hO_14.keep kp8
 have hF_18 :=hF_15.keep kp8
 have hE_19 :=IsE.keep kp8 _ _ hE_16
 have szv8 :v8.heap.size=v8.heap.size :=rfl
 have hD2 :IsL Dc (Fr (L+1)) (v8.alloc (.cells #[.int .i64 opd, .int .i64 xkd, .int .i64 xnd, .string xsd2, .string xsd, .string nmd, .int .i64 nd, .slice aod kd cd] 37)) (.slice (some ⟨v8.heap.size,0,none⟩) 1 1) [E1] :=Adx.2 (G4 hD1 (show L+1≤v8.heap.size by have :=lt_of_block bL8;omega))
 have ka8 :Keeps (Fr (L+1)) v8 (v8.alloc (.cells #[.int .i64 opd, .int .i64 xkd, .int .i64 xnd, .string xsd2, .string xsd, .string nmd, .int .i64 nd, .slice aod kd cd] 37)) := (Keeps.refl _ _).alloc _
 have bRa8 :=Ae bR8 (.cells #[.int .i64 opd, .int .i64 xkd, .int .i64 xnd, .string xsd2, .string xsd, .string nmd, .int .i64 nd, .slice aod kd cd] 37)
 have bLa8 :=Ae bL8 (.cells #[.int .i64 opd, .int .i64 xkd, .int .i64 xnd, .string xsd2, .string xsd, .string nmd, .int .i64 nd, .slice aod kd cd] 37)
 have buta8 :=but8.alloc (.cells #[.int .i64 opd, .int .i64 xkd, .int .i64 xnd, .string xsd2, .string xsd, .string nmd, .int .i64 nd, .slice aod kd cd] 37)
 have rda8 :=rd8.below ((Below.refl _ _).alloc (Nat.le_refl _) (.cells #[.int .i64 opd, .int .i64 xkd, .int .i64 xnd, .string xsd2, .string xsd, .string nmd, .int .i64 nd, .slice aod kd cd] 37))
 have hO_20 :=hO_17.keep ka8
 have hF_21 :=hF_18.keep ka8
 have hE_22 :=IsE.keep ka8 _ _ hE_19
 have q8 :=Aa bLa8 (j :=17) rfl
 have f8 :=Ab bLa8 17
 have bLu8 : ((v8.alloc (.cells #[.int .i64 opd, .int .i64 xkd, .int .i64 xnd, .string xsd2, .string xsd, .string nmd, .int .i64 nd, .slice aod kd cd] 37)).setCell ⟨L,17,none⟩ (.slice (some ⟨v8.heap.size,0,none⟩) 1 1)).heap[L]? =some (.cells #[.int .i64 7, .string noW, .string noW, .string noW, .slice none 0 0, .slice none 0 0, .slice none 0 0, .slice ao4 hFl.length cp4, .slice ao2 hOl.length cp2, .int .i64 op, .int .i64 xk, .int .i64 xn, .string xs2, .string xs, .string nmv, .int .i64 n8, .slice ao8 k8 c8, .slice (some ⟨v8.heap.size,0,none⟩) 1 1, .bool false, .int .i64 (-1)] 39) :=by
  have g :=upd bLa8 17 (.slice (some ⟨v8.heap.size,0,none⟩) 1 1)
  simp only [List.setIfInBounds_toArray,List.set_cons_succ,List.set_cons_zero] at g
  exact g
 have bRu8 :=Aj bRa8 hRL 17 (.slice (some ⟨v8.heap.size,0,none⟩) 1 1)
 have butu8 :=buta8.new (b :=L) (by omega) 17 (.slice (some ⟨v8.heap.size,0,none⟩) 1 1)
 have rdu8 :=rda8.other neL 17 (.slice (some ⟨v8.heap.size,0,none⟩) 1 1)
 have ku8 :Keeps (Fr (L+1)) (v8.alloc (.cells #[.int .i64 opd, .int .i64 xkd, .int .i64 xnd, .string xsd2, .string xsd, .string nmd, .int .i64 nd, .slice aod kd cd] 37)) ((v8.alloc (.cells #[.int .i64 opd, .int .i64 xkd, .int .i64 xnd, .string xsd2, .string xsd, .string nmd, .int .i64 nd, .slice aod kd cd] 37)).setCell ⟨L,17,none⟩ (.slice (some ⟨v8.heap.size,0,none⟩) 1 1)) := (Keeps.refl _ _).set (show ¬L+1≤L by omega) _ _
 have hO_23 :=hO_20.keep ku8
 have hF_24 :=hF_21.keep ku8
 have hE_25 :=IsE.keep ku8 _ _ hE_22
 have hD_26 :=hD2.keep ku8
 have szu8 : ((v8.alloc (.cells #[.int .i64 opd, .int .i64 xkd, .int .i64 xnd, .string xsd2, .string xsd, .string nmd, .int .i64 nd, .slice aod kd cd] 37)).setCell ⟨L,17,none⟩ (.slice (some ⟨v8.heap.size,0,none⟩) 1 1)).heap.size= (v8.alloc (.cells #[.int .i64 opd, .int .i64 xkd, .int .i64 xnd, .string xsd2, .string xsd, .string nmd, .int .i64 nd, .slice aod kd cd] 37)).heap.size :=by simp [World.setCell]
 go_wp2_with fail
 generalize ((v8.alloc (.cells #[.int .i64 opd, .int .i64 xkd, .int .i64 xnd, .string xsd2, .string xsd, .string nmd, .int .i64 nd, .slice aod kd cd] 37)).setCell ⟨L,17,none⟩ (.slice (some ⟨v8.heap.size,0,none⟩) 1 1)) =Y8 at bRu8 bLu8 butu8 rdu8 szu8 hO_23 hF_24 hE_25 hD_26⊢
 go_fit (C9 Y8 rdu8)
 rintro e v9 ⟨rfl,rd9,hb9_⟩
 have bR9 :=Ac hb9_ bRu8 neR
 have bL9 :=Ac hb9_ bLu8 neL
 have but9 :=butu8.trans hb9_
 have sz9 :=hb9_.size
 have kp9 :Keeps (Fr (L+1)) Y8 v9 :=hb9_.keeps (show ¬L+1≤a by omega)
 have hO_27 :=hO_23.keep kp9
 have hF_28 :=hF_24.keep kp9
 have hE_29 :=IsE.keep kp9 _ _ hE_25
 have hD_30 :=hD_26.keep kp9
 have szv9 :v9.heap.size=v9.heap.size :=rfl
 have q9 :=Aa bL9 (j :=18) rfl
 have f9 :=Ab bL9 18
 have bLu9 : (v9.setCell ⟨L,18,none⟩ (.bool dn)).heap[L]? =some (.cells #[.int .i64 7, .string noW, .string noW, .string noW, .slice none 0 0, .slice none 0 0, .slice none 0 0, .slice ao4 hFl.length cp4, .slice ao2 hOl.length cp2, .int .i64 op, .int .i64 xk, .int .i64 xn, .string xs2, .string xs, .string nmv, .int .i64 n8, .slice ao8 k8 c8, .slice (some ⟨v8.heap.size,0,none⟩) 1 1, .bool dn, .int .i64 (-1)] 39) :=by
  have g :=upd bL9 18 (.bool dn)
  simp only [List.setIfInBounds_toArray,List.set_cons_succ,List.set_cons_zero] at g
  exact g
 have bRu9 :=Aj bR9 hRL 18 (.bool dn)
 have butu9 :=but9.new (b :=L) (by omega) 18 (.bool dn)
 have rdu9 :=rd9.other neL 18 (.bool dn)
 have ku9 :Keeps (Fr (L+1)) v9 (v9.setCell ⟨L,18,none⟩ (.bool dn)) := (Keeps.refl _ _).set (show ¬L+1≤L by omega) _ _
 have hO_31 :=hO_27.keep ku9
 have hF_32 :=hF_28.keep ku9
 have hE_33 :=IsE.keep ku9 _ _ hE_29
 have hD_34 :=hD_30.keep ku9
 have szu9 : (v9.setCell ⟨L,18,none⟩ (.bool dn)).heap.size=v9.heap.size :=by simp [World.setCell]
 go_wp2_with fail
 generalize (v9.setCell ⟨L,18,none⟩ (.bool dn)) =Y9 at bRu9 bLu9 butu9 rdu9 szu9 hO_31 hF_32 hE_33 hD_34⊢
 go_fit (C10 Y9 rdu9)
 rintro e v10 ⟨rfl,rd10,hb10_⟩
 have bR10 :=Ac hb10_ bRu9 neR
 have bL10 :=Ac hb10_ bLu9 neL
 have but10 :=butu9.trans hb10_
 have sz10 :=hb10_.size
 have kp10 :Keeps (Fr (L+1)) Y9 v10 :=hb10_.keeps (show ¬L+1≤a by omega)
 have hO_35 :=hO_31.keep kp10
 have hF_36 :=hF_32.keep kp10
 have hE_37 :=IsE.keep kp10 _ _ hE_33
 have hD_38 :=hD_34.keep kp10
 have szv10 :v10.heap.size=v10.heap.size :=rfl
 have hone2 : (#[.int .i64 7, .string noW, .string noW, .string noW, .slice none 0 0, .slice none 0 0, .slice none 0 0, .slice ao4 hFl.length cp4, .slice ao2 hOl.length cp2, .int .i64 op, .int .i64 xk, .int .i64 xn, .string xs2, .string xs, .string nmv, .int .i64 n8, .slice ao8 k8 c8, .slice (some ⟨v8.heap.size,0,none⟩) 1 1, .bool dn, .int .i64 (-1)] :Array Value).all (·.oneCell') =true :=Cy (Al _ _ _) (Al _ _ _) (Al _ _ _) (Al _ _ _) (Al _ _ _) (Al _ _ _) (Al _ _ _)
 go_wp2_with (first
  | refine wpList_load_row rfl 39 _ rfl L rfl 39 _ _ _ bL10 Tryz.underlying39 rfl Af ?_
  | refine wpList_store_row rfl 39 _ _ rfl w.heap.size #[.int .i64 7, .string noW, .string noW, .string noW, .slice none 0 0, .slice none 0 0, .slice none 0 0, .slice ao4 hFl.length cp4, .slice ao2 hOl.length cp2, .int .i64 op, .int .i64 xk, .int .i64 xn, .string xs2, .string xs, .string nmv, .int .i64 n8, .slice ao8 k8 c8, .slice (some ⟨v8.heap.size,0,none⟩) 1 1, .bool dn, .int .i64 (-1)] rfl rfl 39 Ah bR10 Af rfl hone2 ?_)
 refine bodyPost_ret (v := .agg #[.int .i64 7, .string noW, .string noW, .string noW, .slice none 0 0, .slice none 0 0, .slice none 0 0, .slice ao4 hFl.length cp4, .slice ao2 hOl.length cp2, .int .i64 op, .int .i64 xk, .int .i64 xn, .string xs2, .string xs, .string nmv, .int .i64 n8, .slice ao8 k8 c8, .slice (some ⟨v8.heap.size,0,none⟩) 1 1, .bool dn, .int .i64 (-1)]) (results_cell_row Tryz.results53 _ _ w.heap.size 39 _ _ _ rfl (Am bR10) Tryz.underlying39 rfl Af) rfl ⟨(#[.int .i64 7, .string noW, .string noW, .string noW, .slice none 0 0, .slice none 0 0, .slice none 0 0, .slice ao4 hFl.length cp4, .slice ao2 hOl.length cp2, .int .i64 op, .int .i64 xk, .int .i64 xn, .string xs2, .string xs, .string nmv, .int .i64 n8, .slice ao8 k8 c8, .slice (some ⟨v8.heap.size,0,none⟩) 1 1, .bool dn, .int .i64 (-1)] :Array Value).toList,rfl, ?_, ?_, ?_⟩
 ·have kz :Keeps (Fr (L+1)) v10 (v10.setRow w.heap.size #[.int .i64 7, .string noW, .string noW, .string noW, .slice none 0 0, .slice none 0 0, .slice none 0 0, .slice ao4 hFl.length cp4, .slice ao2 hOl.length cp2, .int .i64 op, .int .i64 xk, .int .i64 xn, .string xs2, .string xs, .string nmv, .int .i64 n8, .slice ao8 k8 c8, .slice (some ⟨v8.heap.size,0,none⟩) 1 1, .bool dn, .int .i64 (-1)]) := (Keeps.refl _ _).row (show ¬L+1≤w.heap.size by omega) _
  exact Fq.mono (F :=Fr (L+1)) (fun k _ hk=>by have :L+1≤k :=hk;show w.heap.size≤k;omega) (D8 (IsL.nil _ _ _) (IsL.nil _ _ _) (IsL.nil _ _ _) (hF_36.keep kz) (hO_35.keep kz) (IsE.keep kz _ _ hE_37) (hD_38.keep kz))
 ·exact rd10.row neR _
 ·exact but10.row (Nat.le_refl _) _
set_option maxHeartbeats 4000000 in
set_option maxRecDepth 100000 in
theorem Aad (a :Nat) (s :St) (w :World) (h :Rd w a s 0) (he :Env w) (ha :16≤a) (s1 s2 s3 s4 s5 s6 s10 s11 :St) (hFl :List Wd) (WE :E) (hOl :List E) (nn :Int) (C1 :Dw a A9 s false s1) (C2 :Oi a s1 hOl s2) (C3 :Ik a Az s2 s3) (C4 :Jn a s3 hFl s4) (C5 :Jo a s4 WE s5) (C6 :Dw a Bl s5 false s6) (C7 :Dw a Cr s6 true s10) (C8 :U1 a s10 nn s11) :
  Calls Tryz.prog 53 #[.pointer (some ⟨a,0,none⟩)] w fun e w'=> ∃c,e= .returned (Dv c) ∧Fq.R (Fr w.heap.size) w' ⟨7,noW,noW,noW,[],[],[],hFl,hOl,WE,[],false,nn⟩ c∧Rd w' a s11 0∧But a w w' :=by
 have hla :=h.lt
 have hone : (Ai 7).all (·.oneCell') =true :=Cy (Al _ _ _) (Al _ _ _) (Al _ _ _) (Al _ _ _) (Al _ _ _) (Al _ _ _) (Al _ _ _)
 go_enter Tryz.func53,Tryz.ntmps53
 go_wp2_with fail
 generalize hW :w.alloc (.cells Ah 39) =W
 have hb0 :Below w.heap.size w W :=by rw [←hW];exact (Below.refl _ _).alloc (Nat.le_refl _) _
 have b0 :W.heap[w.heap.size]? =some (.cells Ah 39) :=by rw [←hW];exact Ad w _
 have hWs :W.heap.size=w.heap.size+1 :=by rw [←hW,World.size_alloc]
 clear hW
 go_fit (D0 7 W)
 rintro e w1 ⟨rfl,hb1⟩
 have hs1 :=hb1.size
 have b1 :=Ae ((hb1.block _ (lt_of_block b0)).trans b0) (.cells Ah 39)
 have c1 :=Ad w1 (.cells Ah 39)
 go_wp2_with (refine wpList_store_row rfl 39 _ _ rfl w1.heap.size (Ai 7) rfl rfl 39 Ah c1 Af rfl hone ?_)
 generalize hX : (w1.alloc (.cells Ah 39)).setRow w1.heap.size (Ai 7) =X0
 have hRL :w.heap.size≠w1.heap.size :=by omega
 have bR0 :X0.heap[w.heap.size]? =some (.cells Ah 39) :=by rw [←hX];exact Bu b1 hRL _
 have bL0 :X0.heap[w1.heap.size]? =some (.cells #[.int .i64 7, .string noW, .string noW, .string noW, .slice none 0 0, .slice none 0 0, .slice none 0 0, .slice none 0 0, .slice none 0 0, .int .i64 0, .int .i64 0, .int .i64 0, .string noW, .string noW, .string noW, .int .i64 0, .slice none 0 0, .slice none 0 0, .bool false, .int .i64 (-1)] 39) :=by rw [←hX];exact Am c1
 have but0 :But a w X0 :=by rw [←hX];exact ((But.of_below (Do hb0 hb1)).alloc _).row (by omega) _
 have rd0 :Rd X0 a s 0 :=by rw [←hX];exact ((h.below (Do hb0 hb1)).below ((Below.refl _ _).alloc (Nat.le_refl _) _)).row (by omega) _
 have szX0 :X0.heap.size=w1.heap.size+1 :=by rw [←hX];simp [World.setRow]
 have hL :w.heap.size<w1.heap.size :=by omega
 clear hX hb1 b1 c1 hs1 hb0 b0
 generalize w1.heap.size=L at bL0 hRL hL szX0⊢
 have neL :L≠a :=by omega
 have neR :w.heap.size≠a :=by omega
 go_fit (C1 X0 rd0)
 rintro e v1 ⟨rfl,rd1,hb1_⟩
 have bR1 :=Ac hb1_ bR0 neR
 have bL1 :=Ac hb1_ bL0 neL
 have but1 :=but0.trans hb1_
 have sz1 :=hb1_.size
 have kp1 :Keeps (Fr (L+1)) X0 v1 :=hb1_.keeps (show ¬L+1≤a by omega)
 have szv1 :v1.heap.size=v1.heap.size :=rfl
 go_wp2_with fail
 generalize v1=Y1 at bR1 bL1 but1 rd1⊢
 go_fit (C2 Y1 rd1 (he.but but1 ha))
 rintro e v2 ⟨sv2,rfl,hO0,rd2,hb2_⟩
 obtain ⟨ao2,cp2,rfl⟩ :=hO0.shape
 have szL2 :=lt_of_block bL1
 have hO1 :=hO0.mono (F' :=Fr (L+1)) (fun k _ hk=>by have : (Y1).heap.size≤k :=hk;show L+1≤k;omega)
 have bR2 :=Ac hb2_ bR1 neR
 have bL2 :=Ac hb2_ bL1 neL
 have but2 :=but1.trans hb2_
 have sz2 :=hb2_.size
 have kp2 :Keeps (Fr (L+1)) Y1 v2 :=hb2_.keeps (show ¬L+1≤a by omega)
 have szv2 :v2.heap.size=v2.heap.size :=rfl
 have q2 :=Aa bL2 (j :=8) rfl
 have f2 :=Ab bL2 8
 have bLu2 : (v2.setCell ⟨L,8,none⟩ (.slice ao2 hOl.length cp2)).heap[L]? =some (.cells #[.int .i64 7, .string noW, .string noW, .string noW, .slice none 0 0, .slice none 0 0, .slice none 0 0, .slice none 0 0, .slice ao2 hOl.length cp2, .int .i64 0, .int .i64 0, .int .i64 0, .string noW, .string noW, .string noW, .int .i64 0, .slice none 0 0, .slice none 0 0, .bool false, .int .i64 (-1)] 39) :=by
  have g :=upd bL2 8 (.slice ao2 hOl.length cp2)
  simp only [List.setIfInBounds_toArray,List.set_cons_succ,List.set_cons_zero] at g
  exact g
 have bRu2 :=Aj bR2 hRL 8 (.slice ao2 hOl.length cp2)
 have butu2 :=but2.new (b :=L) (by omega) 8 (.slice ao2 hOl.length cp2)
 have rdu2 :=rd2.other neL 8 (.slice ao2 hOl.length cp2)
 have ku2 :Keeps (Fr (L+1)) v2 (v2.setCell ⟨L,8,none⟩ (.slice ao2 hOl.length cp2)) := (Keeps.refl _ _).set (show ¬L+1≤L by omega) _ _
 have hO_1 :=hO1.keep ku2
 have szu2 : (v2.setCell ⟨L,8,none⟩ (.slice ao2 hOl.length cp2)).heap.size=v2.heap.size :=by simp [World.setCell]
 go_wp2_with fail
 generalize (v2.setCell ⟨L,8,none⟩ (.slice ao2 hOl.length cp2)) =Y2 at bRu2 bLu2 butu2 rdu2 szu2 hO_1⊢
 go_fit (C3 Y2 rdu2 _ szu2)
 rintro e v3 ⟨rfl,rd3,hb3_⟩
 have bR3 :=Ac hb3_ bRu2 neR
 have bL3 :=Ac hb3_ bLu2 neL
 have but3 :=butu2.trans hb3_
 have sz3 :=hb3_.size
 have kp3 :Keeps (Fr (L+1)) Y2 v3 :=hb3_.keeps (show ¬L+1≤a by omega)
 have hO_2 :=hO_1.keep kp3
 have szv3 :v3.heap.size=v3.heap.size :=rfl
 go_wp2_with fail
 generalize v3=Y3 at bR3 bL3 but3 rd3 hO_2⊢
 go_fit (C4 Y3 rd3 (he.but but3 ha))
 rintro e v4 ⟨sv4,rfl,hF0,rd4,hb4_⟩
 obtain ⟨ao4,cp4,rfl⟩ :=hF0.shape
 have szL4 :=lt_of_block bL3
 have hF1 :=hF0.mono (F' :=Fr (L+1)) (fun k _ hk=>by have : (Y3).heap.size≤k :=hk;show L+1≤k;omega)
 have bR4 :=Ac hb4_ bR3 neR
 have bL4 :=Ac hb4_ bL3 neL
 have but4 :=but3.trans hb4_
 have sz4 :=hb4_.size
 have kp4 :Keeps (Fr (L+1)) Y3 v4 :=hb4_.keeps (show ¬L+1≤a by omega)
 have hO_3 :=hO_2.keep kp4
 have szv4 :v4.heap.size=v4.heap.size :=rfl
 have q4 :=Aa bL4 (j :=7) rfl
 have f4 :=Ab bL4 7
 have bLu4 : (v4.setCell ⟨L,7,none⟩ (.slice ao4 hFl.length cp4)).heap[L]? =some (.cells #[.int .i64 7, .string noW, .string noW, .string noW, .slice none 0 0, .slice none 0 0, .slice none 0 0, .slice ao4 hFl.length cp4, .slice ao2 hOl.length cp2, .int .i64 0, .int .i64 0, .int .i64 0, .string noW, .string noW, .string noW, .int .i64 0, .slice none 0 0, .slice none 0 0, .bool false, .int .i64 (-1)] 39) :=by
  have g :=upd bL4 7 (.slice ao4 hFl.length cp4)
  simp only [List.setIfInBounds_toArray,List.set_cons_succ,List.set_cons_zero] at g
  exact g
 have bRu4 :=Aj bR4 hRL 7 (.slice ao4 hFl.length cp4)
 have butu4 :=but4.new (b :=L) (by omega) 7 (.slice ao4 hFl.length cp4)
 have rdu4 :=rd4.other neL 7 (.slice ao4 hFl.length cp4)
 have ku4 :Keeps (Fr (L+1)) v4 (v4.setCell ⟨L,7,none⟩ (.slice ao4 hFl.length cp4)) := (Keeps.refl _ _).set (show ¬L+1≤L by omega) _ _
 have hO_4 :=hO_3.keep ku4
 have hF_5 :=hF1.keep ku4
 have szu4 : (v4.setCell ⟨L,7,none⟩ (.slice ao4 hFl.length cp4)).heap.size=v4.heap.size :=by simp [World.setCell]
 go_wp2_with fail
 generalize (v4.setCell ⟨L,7,none⟩ (.slice ao4 hFl.length cp4)) =Y4 at bRu4 bLu4 butu4 rdu4 szu4 hO_4 hF_5⊢
 go_fit (C5 Y4 rdu4 (he.but butu4 ha))
 rintro e v5 ⟨vv,rfl,hE0,rd5,hb5_⟩
 obtain ⟨op,x,xs,nmv,n8,ao8,k8,c8,rfl⟩ :=hE0.shape
 obtain ⟨xk,xn,xs2⟩ :=x
 have szL5 :=lt_of_block bLu4
 have hE1 :=IsE.mono (F' :=Fr (L+1)) (fun k _ hk=>by have : (Y4).heap.size≤k :=hk;show L+1≤k;omega) _ _ hE0
 have bR5 :=Ac hb5_ bRu4 neR
 have bL5 :=Ac hb5_ bLu4 neL
 have but5 :=butu4.trans hb5_
 have sz5 :=hb5_.size
 have kp5 :Keeps (Fr (L+1)) Y4 v5 :=hb5_.keeps (show ¬L+1≤a by omega)
 have hO_6 :=hO_4.keep kp5
 have hF_7 :=hF_5.keep kp5
 have szv5 :v5.heap.size=v5.heap.size :=rfl
 have y0 :=Aa bL5 (j :=9) rfl
 have z0 :=Ab bL5 9
 have y1 :=Aa bL5 (j :=10) rfl
 have z1 :=Ab bL5 10
 have y2 :=Aa bL5 (j :=11) rfl
 have z2 :=Ab bL5 11
 have y3 :=Aa bL5 (j :=12) rfl
 have z3 :=Ab bL5 12
 have y4 :=Aa bL5 (j :=13) rfl
 have z4 :=Ab bL5 13
 have y5 :=Aa bL5 (j :=14) rfl
 have z5 :=Ab bL5 14
 have y6 :=Aa bL5 (j :=15) rfl
 have z6 :=Ab bL5 15
 have y7 :=Aa bL5 (j :=16) rfl
 have z7 :=Ab bL5 16
 have hth :v5.there L 9 8 :=by
  intro j hj
  match j,hj with
  | 0,_=>exact ⟨by rw [y0];rfl,z0⟩
  | 1,_=>exact ⟨by rw [y1];rfl,z1⟩
  | 2,_=>exact ⟨by rw [y2];rfl,z2⟩
  | 3,_=>exact ⟨by rw [y3];rfl,z3⟩
  | 4,_=>exact ⟨by rw [y4];rfl,z4⟩
  | 5,_=>exact ⟨by rw [y5];rfl,z5⟩
  | 6,_=>exact ⟨by rw [y6];rfl,z6⟩
  | 7,_=>exact ⟨by rw [y7];rfl,z7⟩
 clear y0 y1 y2 y3 y4 y5 y6 y7 z0 z1 z2 z3 z4 z5 z6 z7
 have hone8 : (#[.int .i64 op, .int .i64 xk, .int .i64 xn, .string xs2, .string xs, .string nmv, .int .i64 n8, .slice ao8 k8 c8] :Array Value).all (·.oneCell') =true :=by simp [Value.oneCell']
 have bLw : (v5.setCells L 9 [.int .i64 op, .int .i64 xk, .int .i64 xn, .string xs2, .string xs, .string nmv, .int .i64 n8, .slice ao8 k8 c8]).heap[L]? =some (.cells #[.int .i64 7, .string noW, .string noW, .string noW, .slice none 0 0, .slice none 0 0, .slice none 0 0, .slice ao4 hFl.length cp4, .slice ao2 hOl.length cp2, .int .i64 op, .int .i64 xk, .int .i64 xn, .string xs2, .string xs, .string nmv, .int .i64 n8, .slice ao8 k8 c8, .slice none 0 0, .bool false, .int .i64 (-1)] 39) :=by
  have g :=upd (upd (upd (upd (upd (upd (upd (upd bL5 9 (.int .i64 op)) 10 (.int .i64 xk)) 11 (.int .i64 xn)) 12 (.string xs2)) 13 (.string xs)) 14 (.string nmv)) 15 (.int .i64 n8)) 16 (.slice ao8 k8 c8)
  simp only [List.setIfInBounds_toArray,List.set_cons_succ,List.set_cons_zero] at g
  exact g
 have bRw : (v5.setCells L 9 [.int .i64 op, .int .i64 xk, .int .i64 xn, .string xs2, .string xs, .string nmv, .int .i64 n8, .slice ao8 k8 c8]).heap[w.heap.size]? =some (.cells Ah 39) :=Eu bR5 hRL _ _ _ _ _ _ _ _
 have butw :But a w (v5.setCells L 9 [.int .i64 op, .int .i64 xk, .int .i64 xn, .string xs2, .string xs, .string nmv, .int .i64 n8, .slice ao8 k8 c8]) :=but5.set8m (by omega) _ _ _ _ _ _ _ _
 have rdw :Rd (v5.setCells L 9 [.int .i64 op, .int .i64 xk, .int .i64 xn, .string xs2, .string xs, .string nmv, .int .i64 n8, .slice ao8 k8 c8]) a s5 0 :=rd5.set8m neL _ _ _ _ _ _ _ _
 have kw :Keeps (Fr (L+1)) v5 (v5.setCells L 9 [.int .i64 op, .int .i64 xk, .int .i64 xn, .string xs2, .string xs, .string nmv, .int .i64 n8, .slice ao8 k8 c8]) := (Keeps.refl _ _).set8m (show ¬L+1≤L by omega) _ _ _ _ _ _ _ _
 have hO_8 :=hO_6.keep kw
 have hF_9 :=hF_7.keep kw
 have hE_10 :=IsE.keep kw _ _ hE1
 have szw : (v5.setCells L 9 [.int .i64 op, .int .i64 xk, .int .i64 xn, .string xs2, .string xs, .string nmv, .int .i64 n8, .slice ao8 k8 c8]).heap.size=v5.heap.size :=by simp [World.setCells,World.setCell]
 simp only []
 go_step
 go_step
 go_step
 go_step
 refine wpList_store_mid rfl 37 _ _ rfl L 9 #[.int .i64 op, .int .i64 xk, .int .i64 xn, .string xs2, .string xs, .string nmv, .int .i64 n8, .slice ao8 k8 c8] rfl rfl hth Fd hone8 ?_
 go_step
 go_step
 go_step
 go_wp2_with fail
 generalize (v5.setCells L 9 [.int .i64 op, .int .i64 xk, .int .i64 xn, .string xs2, .string xs, .string nmv, .int .i64 n8, .slice ao8 k8 c8]) =Y5 at bRw bLw butw rdw szw hO_8 hF_9 hE_10⊢
 go_fit (C6 Y5 rdw)
 rintro e v6 ⟨rfl,rd6,hb6_⟩
 have bR6 :=Ac hb6_ bRw neR
 have bL6 :=Ac hb6_ bLw neL
 have but6 :=butw.trans hb6_
 have sz6 :=hb6_.size
 have kp6 :Keeps (Fr (L+1)) Y5 v6 :=hb6_.keeps (show ¬L+1≤a by omega)
 have hO_11 :=hO_8.keep kp6
 have hF_12 :=hF_9.keep kp6
 have hE_13 :=IsE.keep kp6 _ _ hE_10
 have szv6 :v6.heap.size=v6.heap.size :=rfl
 go_wp2_with fail
 generalize v6=Y6 at bR6 bL6 but6 rd6 hO_11 hF_12 hE_13⊢
 go_fit (C7 Y6 rd6)
 rintro e v7 ⟨rfl,rd7,hb7_⟩
 have bR7 :=Ac hb7_ bR6 neR
 have bL7 :=Ac hb7_ bL6 neL
 have but7 :=but6.trans hb7_
 have sz7 :=hb7_.size
 have kp7 :Keeps (Fr (L+1)) Y6 v7 :=hb7_.keeps (show ¬L+1≤a by omega)
 have hO_14 :=hO_11.keep kp7
 have hF_15 :=hF_12.keep kp7
 have hE_16 :=IsE.keep kp7 _ _ hE_13
 have szv7 :v7.heap.size=v7.heap.size :=rfl
 go_wp2_with fail
 generalize v7=Y7 at bR7 bL7 but7 rd7 hO_14 hF_15 hE_16⊢
 go_fit (C8 Y7 rd7 (he.but but7 ha))
 rintro e v8 ⟨rfl,rd8,hb8_⟩
 have bR8 :=Ac hb8_ bR7 neR
 have bL8 :=Ac hb8_ bL7 neL
 have but8 :=but7.trans hb8_
 have sz8 :=hb8_.size
 have kp8 :Keeps (Fr (L+1)) Y7 v8 :=hb8_.keeps (show ¬L+1≤a by omega)
 have hO_17 :=hO_14.keep kp8
 have hF_18 :=hF_15.keep kp8
 have hE_19 :=IsE.keep kp8 _ _ hE_16
 have szv8 :v8.heap.size=v8.heap.size :=rfl
 have q8 :=Aa bL8 (j :=19) rfl
 have f8 :=Ab bL8 19
 have bLu8 : (v8.setCell ⟨L,19,none⟩ (.int .i64 nn)).heap[L]? =some (.cells #[.int .i64 7, .string noW, .string noW, .string noW, .slice none 0 0, .slice none 0 0, .slice none 0 0, .slice ao4 hFl.length cp4, .slice ao2 hOl.length cp2, .int .i64 op, .int .i64 xk, .int .i64 xn, .string xs2, .string xs, .string nmv, .int .i64 n8, .slice ao8 k8 c8, .slice none 0 0, .bool false, .int .i64 nn] 39) :=by
  have g :=upd bL8 19 (.int .i64 nn)
  simp only [List.setIfInBounds_toArray,List.set_cons_succ,List.set_cons_zero] at g
  exact g
 have bRu8 :=Aj bR8 hRL 19 (.int .i64 nn)
 have butu8 :=but8.new (b :=L) (by omega) 19 (.int .i64 nn)
 have rdu8 :=rd8.other neL 19 (.int .i64 nn)
 have ku8 :Keeps (Fr (L+1)) v8 (v8.setCell ⟨L,19,none⟩ (.int .i64 nn)) := (Keeps.refl _ _).set (show ¬L+1≤L by omega) _ _
 have hO_20 :=hO_17.keep ku8
 have hF_21 :=hF_18.keep ku8
 have hE_22 :=IsE.keep ku8 _ _ hE_19
 have szu8 : (v8.setCell ⟨L,19,none⟩ (.int .i64 nn)).heap.size=v8.heap.size :=by simp [World.setCell]
 have hone2 : (#[.int .i64 7, .string noW, .string noW, .string noW, .slice none 0 0, .slice none 0 0, .slice none 0 0, .slice ao4 hFl.length cp4, .slice ao2 hOl.length cp2, .int .i64 op, .int .i64 xk, .int .i64 xn, .string xs2, .string xs, .string nmv, .int .i64 n8, .slice ao8 k8 c8, .slice none 0 0, .bool false, .int .i64 nn] :Array Value).all (·.oneCell') =true :=Cy (Al _ _ _) (Al _ _ _) (Al _ _ _) (Al _ _ _) (Al _ _ _) (Al _ _ _) (Al _ _ _)
 go_wp2_with (first
  | refine wpList_load_row rfl 39 _ rfl L rfl 39 _ _ _ bLu8 Tryz.underlying39 rfl Af ?_
  | refine wpList_store_row rfl 39 _ _ rfl w.heap.size #[.int .i64 7, .string noW, .string noW, .string noW, .slice none 0 0, .slice none 0 0, .slice none 0 0, .slice ao4 hFl.length cp4, .slice ao2 hOl.length cp2, .int .i64 op, .int .i64 xk, .int .i64 xn, .string xs2, .string xs, .string nmv, .int .i64 n8, .slice ao8 k8 c8, .slice none 0 0, .bool false, .int .i64 nn] rfl rfl 39 Ah bRu8 Af rfl hone2 ?_)
 refine bodyPost_ret (v := .agg #[.int .i64 7, .string noW, .string noW, .string noW, .slice none 0 0, .slice none 0 0, .slice none 0 0, .slice ao4 hFl.length cp4, .slice ao2 hOl.length cp2, .int .i64 op, .int .i64 xk, .int .i64 xn, .string xs2, .string xs, .string nmv, .int .i64 n8, .slice ao8 k8 c8, .slice none 0 0, .bool false, .int .i64 nn]) (results_cell_row Tryz.results53 _ _ w.heap.size 39 _ _ _ rfl (Am bRu8) Tryz.underlying39 rfl Af) rfl ⟨(#[.int .i64 7, .string noW, .string noW, .string noW, .slice none 0 0, .slice none 0 0, .slice none 0 0, .slice ao4 hFl.length cp4, .slice ao2 hOl.length cp2, .int .i64 op, .int .i64 xk, .int .i64 xn, .string xs2, .string xs, .string nmv, .int .i64 n8, .slice ao8 k8 c8, .slice none 0 0, .bool false, .int .i64 nn] :Array Value).toList,rfl, ?_, ?_, ?_⟩
 ·have kz :Keeps (Fr (L+1)) (v8.setCell ⟨L,19,none⟩ (.int .i64 nn)) ((v8.setCell ⟨L,19,none⟩ (.int .i64 nn)).setRow w.heap.size #[.int .i64 7, .string noW, .string noW, .string noW, .slice none 0 0, .slice none 0 0, .slice none 0 0, .slice ao4 hFl.length cp4, .slice ao2 hOl.length cp2, .int .i64 op, .int .i64 xk, .int .i64 xn, .string xs2, .string xs, .string nmv, .int .i64 n8, .slice ao8 k8 c8, .slice none 0 0, .bool false, .int .i64 nn]) := (Keeps.refl _ _).row (show ¬L+1≤w.heap.size by omega) _
  exact Fq.mono (F :=Fr (L+1)) (fun k _ hk=>by have :L+1≤k :=hk;show w.heap.size≤k;omega) (D8 (IsL.nil _ _ _) (IsL.nil _ _ _) (IsL.nil _ _ _) (hF_21.keep kz) (hO_20.keep kz) (IsE.keep kz _ _ hE_22) (IsL.nil _ _ _))
 ·exact rdu8.row neR _
 ·exact butu8.row (Nat.le_refl _) _
set_option maxHeartbeats 4000000 in
set_option maxRecDepth 100000 in
theorem Aae (a :Nat) (s :St) (w :World) (h :Rd w a s 0) (he :Env w) (ha :16≤a) (s1 s2 s3 s4 s5 s6 s10 :St) (hFl :List Wd) (WE :E) (hOl :List E) (C1 :Dw a A9 s false s1) (C2 :Oi a s1 hOl s2) (C3 :Ik a Az s2 s3) (C4 :Jn a s3 hFl s4) (C5 :Jo a s4 WE s5) (C6 :Dw a Bl s5 false s6) (C7 :Dw a Cr s6 false s10) :
  Calls Tryz.prog 53 #[.pointer (some ⟨a,0,none⟩)] w fun e w'=> ∃c,e= .returned (Dv c) ∧Fq.R (Fr w.heap.size) w' ⟨7,noW,noW,noW,[],[],[],hFl,hOl,WE,[],false, -1⟩ c∧Rd w' a s10 0∧But a w w' :=by
 have hla :=h.lt
 have hone : (Ai 7).all (·.oneCell') =true :=Cy (Al _ _ _) (Al _ _ _) (Al _ _ _) (Al _ _ _) (Al _ _ _) (Al _ _ _) (Al _ _ _)
 go_enter Tryz.func53,Tryz.ntmps53
 go_wp2_with fail
 generalize hW :w.alloc (.cells Ah 39) =W
 have hb0 :Below w.heap.size w W :=by rw [←hW];exact (Below.refl _ _).alloc (Nat.le_refl _) _
 have b0 :W.heap[w.heap.size]? =some (.cells Ah 39) :=by rw [←hW];exact Ad w _
 have hWs :W.heap.size=w.heap.size+1 :=by rw [←hW,World.size_alloc]
 clear hW
 go_fit (D0 7 W)
 rintro e w1 ⟨rfl,hb1⟩
 have hs1 :=hb1.size
 have b1 :=Ae ((hb1.block _ (lt_of_block b0)).trans b0) (.cells Ah 39)
 have c1 :=Ad w1 (.cells Ah 39)
 go_wp2_with (refine wpList_store_row rfl 39 _ _ rfl w1.heap.size (Ai 7) rfl rfl 39 Ah c1 Af rfl hone ?_)
 generalize hX : (w1.alloc (.cells Ah 39)).setRow w1.heap.size (Ai 7) =X0
 have hRL :w.heap.size≠w1.heap.size :=by omega
 have bR0 :X0.heap[w.heap.size]? =some (.cells Ah 39) :=by rw [←hX];exact Bu b1 hRL _
 have bL0 :X0.heap[w1.heap.size]? =some (.cells #[.int .i64 7, .string noW, .string noW, .string noW, .slice none 0 0, .slice none 0 0, .slice none 0 0, .slice none 0 0, .slice none 0 0, .int .i64 0, .int .i64 0, .int .i64 0, .string noW, .string noW, .string noW, .int .i64 0, .slice none 0 0, .slice none 0 0, .bool false, .int .i64 (-1)] 39) :=by rw [←hX];exact Am c1
 have but0 :But a w X0 :=by rw [←hX];exact ((But.of_below (Do hb0 hb1)).alloc _).row (by omega) _
 have rd0 :Rd X0 a s 0 :=by rw [←hX];exact ((h.below (Do hb0 hb1)).below ((Below.refl _ _).alloc (Nat.le_refl _) _)).row (by omega) _
 have szX0 :X0.heap.size=w1.heap.size+1 :=by rw [←hX];simp [World.setRow]
 have hL :w.heap.size<w1.heap.size :=by omega
 clear hX hb1 b1 c1 hs1 hb0 b0
 generalize w1.heap.size=L at bL0 hRL hL szX0⊢
 have neL :L≠a :=by omega
 have neR :w.heap.size≠a :=by omega
 go_fit (C1 X0 rd0)
 rintro e v1 ⟨rfl,rd1,hb1_⟩
 have bR1 :=Ac hb1_ bR0 neR
 have bL1 :=Ac hb1_ bL0 neL
 have but1 :=but0.trans hb1_
 have sz1 :=hb1_.size
 have kp1 :Keeps (Fr (L+1)) X0 v1 :=hb1_.keeps (show ¬L+1≤a by omega)
 have szv1 :v1.heap.size=v1.heap.size :=rfl
 go_wp2_with fail
 generalize v1=Y1 at bR1 bL1 but1 rd1⊢
 go_fit (C2 Y1 rd1 (he.but but1 ha))
 rintro e v2 ⟨sv2,rfl,hO0,rd2,hb2_⟩
 obtain ⟨ao2,cp2,rfl⟩ :=hO0.shape
 have szL2 :=lt_of_block bL1
 have hO1 :=hO0.mono (F' :=Fr (L+1)) (fun k _ hk=>by have : (Y1).heap.size≤k :=hk;show L+1≤k;omega)
 have bR2 :=Ac hb2_ bR1 neR
 have bL2 :=Ac hb2_ bL1 neL
 have but2 :=but1.trans hb2_
 have sz2 :=hb2_.size
 have kp2 :Keeps (Fr (L+1)) Y1 v2 :=hb2_.keeps (show ¬L+1≤a by omega)
 have szv2 :v2.heap.size=v2.heap.size :=rfl
 have q2 :=Aa bL2 (j :=8) rfl
 have f2 :=Ab bL2 8
 have bLu2 : (v2.setCell ⟨L,8,none⟩ (.slice ao2 hOl.length cp2)).heap[L]? =some (.cells #[.int .i64 7, .string noW, .string noW, .string noW, .slice none 0 0, .slice none 0 0, .slice none 0 0, .slice none 0 0, .slice ao2 hOl.length cp2, .int .i64 0, .int .i64 0, .int .i64 0, .string noW, .string noW, .string noW, .int .i64 0, .slice none 0 0, .slice none 0 0, .bool false, .int .i64 (-1)] 39) :=by
  have g :=upd bL2 8 (.slice ao2 hOl.length cp2)
  simp only [List.setIfInBounds_toArray,List.set_cons_succ,List.set_cons_zero] at g
  exact g
 have bRu2 :=Aj bR2 hRL 8 (.slice ao2 hOl.length cp2)
 have butu2 :=but2.new (b :=L) (by omega) 8 (.slice ao2 hOl.length cp2)
 have rdu2 :=rd2.other neL 8 (.slice ao2 hOl.length cp2)
 have ku2 :Keeps (Fr (L+1)) v2 (v2.setCell ⟨L,8,none⟩ (.slice ao2 hOl.length cp2)) := (Keeps.refl _ _).set (show ¬L+1≤L by omega) _ _
 have hO_1 :=hO1.keep ku2
 have szu2 : (v2.setCell ⟨L,8,none⟩ (.slice ao2 hOl.length cp2)).heap.size=v2.heap.size :=by simp [World.setCell]
 go_wp2_with fail
 generalize (v2.setCell ⟨L,8,none⟩ (.slice ao2 hOl.length cp2)) =Y2 at bRu2 bLu2 butu2 rdu2 szu2 hO_1⊢
 go_fit (C3 Y2 rdu2 _ szu2)
 rintro e v3 ⟨rfl,rd3,hb3_⟩
 have bR3 :=Ac hb3_ bRu2 neR
 have bL3 :=Ac hb3_ bLu2 neL
 have but3 :=butu2.trans hb3_
 have sz3 :=hb3_.size
 have kp3 :Keeps (Fr (L+1)) Y2 v3 :=hb3_.keeps (show ¬L+1≤a by omega)
 have hO_2 :=hO_1.keep kp3
 have szv3 :v3.heap.size=v3.heap.size :=rfl
 go_wp2_with fail
 generalize v3=Y3 at bR3 bL3 but3 rd3 hO_2⊢
 go_fit (C4 Y3 rd3 (he.but but3 ha))
 rintro e v4 ⟨sv4,rfl,hF0,rd4,hb4_⟩
 obtain ⟨ao4,cp4,rfl⟩ :=hF0.shape
 have szL4 :=lt_of_block bL3
 have hF1 :=hF0.mono (F' :=Fr (L+1)) (fun k _ hk=>by have : (Y3).heap.size≤k :=hk;show L+1≤k;omega)
 have bR4 :=Ac hb4_ bR3 neR
 have bL4 :=Ac hb4_ bL3 neL
 have but4 :=but3.trans hb4_
 have sz4 :=hb4_.size
 have kp4 :Keeps (Fr (L+1)) Y3 v4 :=hb4_.keeps (show ¬L+1≤a by omega)
 have hO_3 :=hO_2.keep kp4
 have szv4 :v4.heap.size=v4.heap.size :=rfl
 have q4 :=Aa bL4 (j :=7) rfl
 have f4 :=Ab bL4 7
 have bLu4 : (v4.setCell ⟨L,7,none⟩ (.slice ao4 hFl.length cp4)).heap[L]? =some (.cells #[.int .i64 7, .string noW, .string noW, .string noW, .slice none 0 0, .slice none 0 0, .slice none 0 0, .slice ao4 hFl.length cp4, .slice ao2 hOl.length cp2, .int .i64 0, .int .i64 0, .int .i64 0, .string noW, .string noW, .string noW, .int .i64 0, .slice none 0 0, .slice none 0 0, .bool false, .int .i64 (-1)] 39) :=by
  have g :=upd bL4 7 (.slice ao4 hFl.length cp4)
  simp only [List.setIfInBounds_toArray,List.set_cons_succ,List.set_cons_zero] at g
  exact g
 have bRu4 :=Aj bR4 hRL 7 (.slice ao4 hFl.length cp4)
 have butu4 :=but4.new (b :=L) (by omega) 7 (.slice ao4 hFl.length cp4)
 have rdu4 :=rd4.other neL 7 (.slice ao4 hFl.length cp4)
 have ku4 :Keeps (Fr (L+1)) v4 (v4.setCell ⟨L,7,none⟩ (.slice ao4 hFl.length cp4)) := (Keeps.refl _ _).set (show ¬L+1≤L by omega) _ _
 have hO_4 :=hO_3.keep ku4
 have hF_5 :=hF1.keep ku4
 have szu4 : (v4.setCell ⟨L,7,none⟩ (.slice ao4 hFl.length cp4)).heap.size=v4.heap.size :=by simp [World.setCell]
 go_wp2_with fail
 generalize (v4.setCell ⟨L,7,none⟩ (.slice ao4 hFl.length cp4)) =Y4 at bRu4 bLu4 butu4 rdu4 szu4 hO_4 hF_5⊢
 go_fit (C5 Y4 rdu4 (he.but butu4 ha))
 rintro e v5 ⟨vv,rfl,hE0,rd5,hb5_⟩
 obtain ⟨op,x,xs,nmv,n8,ao8,k8,c8,rfl⟩ :=hE0.shape
 obtain ⟨xk,xn,xs2⟩ :=x
 have szL5 :=lt_of_block bLu4
 have hE1 :=IsE.mono (F' :=Fr (L+1)) (fun k _ hk=>by have : (Y4).heap.size≤k :=hk;show L+1≤k;omega) _ _ hE0
 have bR5 :=Ac hb5_ bRu4 neR
 have bL5 :=Ac hb5_ bLu4 neL
 have but5 :=butu4.trans hb5_
 have sz5 :=hb5_.size
 have kp5 :Keeps (Fr (L+1)) Y4 v5 :=hb5_.keeps (show ¬L+1≤a by omega)
 have hO_6 :=hO_4.keep kp5
 have hF_7 :=hF_5.keep kp5
 have szv5 :v5.heap.size=v5.heap.size :=rfl
 have y0 :=Aa bL5 (j :=9) rfl
 have z0 :=Ab bL5 9
 have y1 :=Aa bL5 (j :=10) rfl
 have z1 :=Ab bL5 10
 have y2 :=Aa bL5 (j :=11) rfl
 have z2 :=Ab bL5 11
 have y3 :=Aa bL5 (j :=12) rfl
 have z3 :=Ab bL5 12
 have y4 :=Aa bL5 (j :=13) rfl
 have z4 :=Ab bL5 13
 have y5 :=Aa bL5 (j :=14) rfl
 have z5 :=Ab bL5 14
 have y6 :=Aa bL5 (j :=15) rfl
 have z6 :=Ab bL5 15
 have y7 :=Aa bL5 (j :=16) rfl
 have z7 :=Ab bL5 16
 have hth :v5.there L 9 8 :=by
  intro j hj
  match j,hj with
  | 0,_=>exact ⟨by rw [y0];rfl,z0⟩
  | 1,_=>exact ⟨by rw [y1];rfl,z1⟩
  | 2,_=>exact ⟨by rw [y2];rfl,z2⟩
  | 3,_=>exact ⟨by rw [y3];rfl,z3⟩
  | 4,_=>exact ⟨by rw [y4];rfl,z4⟩
  | 5,_=>exact ⟨by rw [y5];rfl,z5⟩
  | 6,_=>exact ⟨by rw [y6];rfl,z6⟩
  | 7,_=>exact ⟨by rw [y7];rfl,z7⟩
 clear y0 y1 y2 y3 y4 y5 y6 y7 z0 z1 z2 z3 z4 z5 z6 z7
 have hone8 : (#[.int .i64 op, .int .i64 xk, .int .i64 xn, .string xs2, .string xs, .string nmv, .int .i64 n8, .slice ao8 k8 c8] :Array Value).all (·.oneCell') =true :=by simp [Value.oneCell']
 have bLw : (v5.setCells L 9 [.int .i64 op, .int .i64 xk, .int .i64 xn, .string xs2, .string xs, .string nmv, .int .i64 n8, .slice ao8 k8 c8]).heap[L]? =some (.cells #[.int .i64 7, .string noW, .string noW, .string noW, .slice none 0 0, .slice none 0 0, .slice none 0 0, .slice ao4 hFl.length cp4, .slice ao2 hOl.length cp2, .int .i64 op, .int .i64 xk, .int .i64 xn, .string xs2, .string xs, .string nmv, .int .i64 n8, .slice ao8 k8 c8, .slice none 0 0, .bool false, .int .i64 (-1)] 39) :=by
  have g :=upd (upd (upd (upd (upd (upd (upd (upd bL5 9 (.int .i64 op)) 10 (.int .i64 xk)) 11 (.int .i64 xn)) 12 (.string xs2)) 13 (.string xs)) 14 (.string nmv)) 15 (.int .i64 n8)) 16 (.slice ao8 k8 c8)
  simp only [List.setIfInBounds_toArray,List.set_cons_succ,List.set_cons_zero] at g
  exact g
 have bRw : (v5.setCells L 9 [.int .i64 op, .int .i64 xk, .int .i64 xn, .string xs2, .string xs, .string nmv, .int .i64 n8, .slice ao8 k8 c8]).heap[w.heap.size]? =some (.cells Ah 39) :=Eu bR5 hRL _ _ _ _ _ _ _ _
 have butw :But a w (v5.setCells L 9 [.int .i64 op, .int .i64 xk, .int .i64 xn, .string xs2, .string xs, .string nmv, .int .i64 n8, .slice ao8 k8 c8]) :=but5.set8m (by omega) _ _ _ _ _ _ _ _
 have rdw :Rd (v5.setCells L 9 [.int .i64 op, .int .i64 xk, .int .i64 xn, .string xs2, .string xs, .string nmv, .int .i64 n8, .slice ao8 k8 c8]) a s5 0 :=rd5.set8m neL _ _ _ _ _ _ _ _
 have kw :Keeps (Fr (L+1)) v5 (v5.setCells L 9 [.int .i64 op, .int .i64 xk, .int .i64 xn, .string xs2, .string xs, .string nmv, .int .i64 n8, .slice ao8 k8 c8]) := (Keeps.refl _ _).set8m (show ¬L+1≤L by omega) _ _ _ _ _ _ _ _
 have hO_8 :=hO_6.keep kw
 have hF_9 :=hF_7.keep kw
 have hE_10 :=IsE.keep kw _ _ hE1
 have szw : (v5.setCells L 9 [.int .i64 op, .int .i64 xk, .int .i64 xn, .string xs2, .string xs, .string nmv, .int .i64 n8, .slice ao8 k8 c8]).heap.size=v5.heap.size :=by simp [World.setCells,World.setCell]
 simp only []
 go_step
 go_step
 go_step
 go_step
 refine wpList_store_mid rfl 37 _ _ rfl L 9 #[.int .i64 op, .int .i64 xk, .int .i64 xn, .string xs2, .string xs, .string nmv, .int .i64 n8, .slice ao8 k8 c8] rfl rfl hth Fd hone8 ?_
 go_step
 go_step
 go_step
 go_wp2_with fail
 generalize (v5.setCells L 9 [.int .i64 op, .int .i64 xk, .int .i64 xn, .string xs2, .string xs, .string nmv, .int .i64 n8, .slice ao8 k8 c8]) =Y5 at bRw bLw butw rdw szw hO_8 hF_9 hE_10⊢
 go_fit (C6 Y5 rdw)
 rintro e v6 ⟨rfl,rd6,hb6_⟩
 have bR6 :=Ac hb6_ bRw neR
 have bL6 :=Ac hb6_ bLw neL
 have but6 :=butw.trans hb6_
 have sz6 :=hb6_.size
 have kp6 :Keeps (Fr (L+1)) Y5 v6 :=hb6_.keeps (show ¬L+1≤a by omega)
 have hO_11 :=hO_8.keep kp6
 have hF_12 :=hF_9.keep kp6
 have hE_13 :=IsE.keep kp6 _ _ hE_10
 have szv6 :v6.heap.size=v6.heap.size :=rfl
 go_wp2_with fail
 generalize v6=Y6 at bR6 bL6 but6 rd6 hO_11 hF_12 hE_13⊢
 go_fit (C7 Y6 rd6)
 rintro e v7 ⟨rfl,rd7,hb7_⟩
 have bR7 :=Ac hb7_ bR6 neR
 have bL7 :=Ac hb7_ bL6 neL
 have but7 :=but6.trans hb7_
 have sz7 :=hb7_.size
 have kp7 :Keeps (Fr (L+1)) Y6 v7 :=hb7_.keeps (show ¬L+1≤a by omega)
 have hO_14 :=hO_11.keep kp7
 have hF_15 :=hF_12.keep kp7
 have hE_16 :=IsE.keep kp7 _ _ hE_13
 have szv7 :v7.heap.size=v7.heap.size :=rfl
 have hone2 : (#[.int .i64 7, .string noW, .string noW, .string noW, .slice none 0 0, .slice none 0 0, .slice none 0 0, .slice ao4 hFl.length cp4, .slice ao2 hOl.length cp2, .int .i64 op, .int .i64 xk, .int .i64 xn, .string xs2, .string xs, .string nmv, .int .i64 n8, .slice ao8 k8 c8, .slice none 0 0, .bool false, .int .i64 (-1)] :Array Value).all (·.oneCell') =true :=Cy (Al _ _ _) (Al _ _ _) (Al _ _ _) (Al _ _ _) (Al _ _ _) (Al _ _ _) (Al _ _ _)
 go_wp2_with (first
  | refine wpList_load_row rfl 39 _ rfl L rfl 39 _ _ _ bL7 Tryz.underlying39 rfl Af ?_
  | refine wpList_store_row rfl 39 _ _ rfl w.heap.size #[.int .i64 7, .string noW, .string noW, .string noW, .slice none 0 0, .slice none 0 0, .slice none 0 0, .slice ao4 hFl.length cp4, .slice ao2 hOl.length cp2, .int .i64 op, .int .i64 xk, .int .i64 xn, .string xs2, .string xs, .string nmv, .int .i64 n8, .slice ao8 k8 c8, .slice none 0 0, .bool false, .int .i64 (-1)] rfl rfl 39 Ah bR7 Af rfl hone2 ?_)
 refine bodyPost_ret (v := .agg #[.int .i64 7, .string noW, .string noW, .string noW, .slice none 0 0, .slice none 0 0, .slice none 0 0, .slice ao4 hFl.length cp4, .slice ao2 hOl.length cp2, .int .i64 op, .int .i64 xk, .int .i64 xn, .string xs2, .string xs, .string nmv, .int .i64 n8, .slice ao8 k8 c8, .slice none 0 0, .bool false, .int .i64 (-1)]) (results_cell_row Tryz.results53 _ _ w.heap.size 39 _ _ _ rfl (Am bR7) Tryz.underlying39 rfl Af) rfl ⟨(#[.int .i64 7, .string noW, .string noW, .string noW, .slice none 0 0, .slice none 0 0, .slice none 0 0, .slice ao4 hFl.length cp4, .slice ao2 hOl.length cp2, .int .i64 op, .int .i64 xk, .int .i64 xn, .string xs2, .string xs, .string nmv, .int .i64 n8, .slice ao8 k8 c8, .slice none 0 0, .bool false, .int .i64 (-1)] :Array Value).toList,rfl, ?_, ?_, ?_⟩
 ·have kz :Keeps (Fr (L+1)) v7 (v7.setRow w.heap.size #[.int .i64 7, .string noW, .string noW, .string noW, .slice none 0 0, .slice none 0 0, .slice none 0 0, .slice ao4 hFl.length cp4, .slice ao2 hOl.length cp2, .int .i64 op, .int .i64 xk, .int .i64 xn, .string xs2, .string xs, .string nmv, .int .i64 n8, .slice ao8 k8 c8, .slice none 0 0, .bool false, .int .i64 (-1)]) := (Keeps.refl _ _).row (show ¬L+1≤w.heap.size by omega) _
  exact Fq.mono (F :=Fr (L+1)) (fun k _ hk=>by have :L+1≤k :=hk;show w.heap.size≤k;omega) (D8 (IsL.nil _ _ _) (IsL.nil _ _ _) (IsL.nil _ _ _) (hF_15.keep kz) (hO_14.keep kz) (IsE.keep kz _ _ hE_16) (IsL.nil _ _ _))
 ·exact rd7.row neR _
 ·exact but7.row (Nat.le_refl _) _
end Go.Proofs.YtifjaegfpdjikaaGreatDoor

