/-
  2 texts of this proof in one, in build order: SStm2, SStm3.
-/
import Derived.Deep.MidRow
import Derived.Test.YtifjaegfpdjikaaGreatDoorJ11
set_option linter.unusedSimpArgs false
set_option linter.unusedVariables false
namespace Go.Proofs.YtifjaegfpdjikaaGreatDoor
open Go.RowKit
theorem Hi (a :Nat) (k :Wd) (s :St) (d :Int) (w :World) (h :Rd w a s d) (hk :0<k.size) (m :Nat) (hm :w.heap.size=m) :
  Calls Tryz.prog 23 #[.pointer (some ⟨a,0,none⟩), .slice (some ⟨m,0,none⟩) 1 1] (w.alloc (.cells #[.string k] 9)) fun e w'=>e= .returned (.tuple #[]) ∧Rd w' a (Ar k s) d∧But a w w' :=by
 subst hm;exact H7 a k s d w h hk
theorem Fd : (Tryz.prog.info? 37).map (·.size) =some 8 :=by kernel_rfl
abbrev set8m (w :World) (b :Nat) (v0 v1 v2 v3 v4 v5 v6 v7 :Value) :World :=
 (((((((w.setCell ⟨b,9,none⟩ v0).setCell ⟨b,10,none⟩ v1).setCell ⟨b,11,none⟩ v2).setCell ⟨b,12,none⟩ v3).setCell ⟨b,13,none⟩ v4).setCell ⟨b,14,none⟩ v5).setCell ⟨b,15,none⟩ v6).setCell ⟨b,16,none⟩ v7
theorem But.set8m {a :Nat} {w w' :World} (h :But a w w') {b :Nat} (hb :w.heap.size≤b) (v0 v1 v2 v3 v4 v5 v6 v7 :Value) :But a w (set8m w' b v0 v1 v2 v3 v4 v5 v6 v7) :=
 (((((((h.new hb _ _).new hb _ _).new hb _ _).new hb _ _).new hb _ _).new hb _ _).new hb _ _).new hb _ _
theorem Rd.set8m {w :World} {a :Nat} {s :St} {d :Int} (h :Rd w a s d) {b :Nat} (hb :b≠a) (v0 v1 v2 v3 v4 v5 v6 v7 :Value) :Rd (set8m w b v0 v1 v2 v3 v4 v5 v6 v7) a s d :=
 (((((((h.other hb _ _).other hb _ _).other hb _ _).other hb _ _).other hb _ _).other hb _ _).other hb _ _).other hb _ _
theorem Keeps.set8m {F :Nat→Prop} {w w' :World} (h :Keeps F w w') {b :Nat} (hb : ¬F b) (v0 v1 v2 v3 v4 v5 v6 v7 :Value) :Keeps F w (set8m w' b v0 v1 v2 v3 v4 v5 v6 v7) :=
 (((((((h.set hb _ _).set hb _ _).set hb _ _).set hb _ _).set hb _ _).set hb _ _).set hb _ _).set hb _ _
theorem Eu {w :World} {b :Nat} {x :Obj} (h :w.heap[b]? =some x) {c :Nat} (hn :b≠c) (v0 v1 v2 v3 v4 v5 v6 v7 :Value) : (set8m w c v0 v1 v2 v3 v4 v5 v6 v7).heap[b]? =some x :=
 Aj (Aj (Aj (Aj (Aj (Aj (Aj (Aj h hn _ _) hn _ _) hn _ _) hn _ _) hn _ _) hn _ _) hn _ _) hn _ _
set_option maxHeartbeats 4000000 in
set_option maxRecDepth 100000 in
theorem Z6 :Em 49 Fq Dv J7 0 :=by
 intro a s w h he ha
 have hla :=h.lt
 have hp :J7 s= ({Bg 3 with name := (At (Ar A5 s)).1},(At (Ar A5 s)).2) :=rfl
 rw [hp]
 clear hp
 have hone : (Ai 3).all (·.oneCell') =true :=Cy (Al _ _ _) (Al _ _ _) (Al _ _ _) (Al _ _ _) (Al _ _ _) (Al _ _ _) (Al _ _ _)
 have C1 :=fun v (h1 :Rd v a s 0) =>Hi a A5 s 0 v h1 (by decide)
 generalize Ar A5 s=s1 at C1⊢
 have C2 :=fun v (h1 :Rd v a s1 0) =>E9 a s1 0 v h1
 generalize At s1=q at C2⊢
 obtain ⟨n1,s2⟩ :=q
 simp only at C2⊢
 go_enter Tryz.func49,Tryz.ntmps49
 go_wp2_with fail
 generalize hW :w.alloc (.cells Ah 39) =W
 have hb0 :Below w.heap.size w W :=by rw [←hW];exact (Below.refl _ _).alloc (Nat.le_refl _) _
 have b0 :W.heap[w.heap.size]? =some (.cells Ah 39) :=by rw [←hW];exact Ad w _
 have hWs :W.heap.size=w.heap.size+1 :=by rw [←hW,World.size_alloc]
 clear hW
 go_fit (D0 3 W)
 rintro e w1 ⟨rfl,hb1⟩
 have hs1 :=hb1.size
 have b1 :=Ae ((hb1.block _ (lt_of_block b0)).trans b0) (.cells Ah 39)
 have c1 :=Ad w1 (.cells Ah 39)
 go_wp2_with (refine wpList_store_row rfl 39 _ _ rfl w1.heap.size (Ai 3) rfl rfl 39 Ah c1 Af rfl hone ?_)
 generalize hX : (w1.alloc (.cells Ah 39)).setRow w1.heap.size (Ai 3) =X0
 have hRL :w.heap.size≠w1.heap.size :=by omega
 have bR0 :X0.heap[w.heap.size]? =some (.cells Ah 39) :=by rw [←hX];exact Bu b1 hRL _
 have bL0 :X0.heap[w1.heap.size]? =some (.cells #[.int .i64 3, .string noW, .string noW, .string noW, .slice none 0 0, .slice none 0 0, .slice none 0 0, .slice none 0 0, .slice none 0 0, .int .i64 0, .int .i64 0, .int .i64 0, .string noW, .string noW, .string noW, .int .i64 0, .slice none 0 0, .slice none 0 0, .bool false, .int .i64 (-1)] 39) :=by rw [←hX];exact Am c1
 have but0 :But a w X0 :=by rw [←hX];exact ((But.of_below (Do hb0 hb1)).alloc _).row (by omega) _
 have rd0 :Rd X0 a s 0 :=by rw [←hX];exact ((h.below (Do hb0 hb1)).below ((Below.refl _ _).alloc (Nat.le_refl _) _)).row (by omega) _
 have szX0 :X0.heap.size=w1.heap.size+1 :=by rw [←hX];simp [World.setRow]
 have hL :w.heap.size<w1.heap.size :=by omega
 clear hX hb1 b1 c1 hs1 hb0 b0
 generalize w1.heap.size=L at bL0 hRL hL szX0⊢
 have neL :L≠a :=by omega
 have neR :w.heap.size≠a :=by omega
 go_fit (C1 X0 rd0 _ szX0)
 rintro e v1 ⟨rfl,rd1,hb1_⟩
 have bR1 :=Ac hb1_ bR0 neR
 have bL1 :=Ac hb1_ bL0 neL
 have but1 :=but0.trans hb1_
 have sz1 :=hb1_.size
 have kp1 :Keeps (Fr (L+1)) X0 v1 :=hb1_.keeps (show ¬L+1≤a by omega)
 have szv1 :v1.heap.size=v1.heap.size :=rfl
 go_wp2_with fail
 generalize v1=Y1 at bR1 bL1 but1 rd1⊢
 go_fit (C2 Y1 rd1)
 rintro e v2 ⟨rfl,rd2,hb2_⟩
 have bR2 :=Ac hb2_ bR1 neR
 have bL2 :=Ac hb2_ bL1 neL
 have but2 :=but1.trans hb2_
 have sz2 :=hb2_.size
 have kp2 :Keeps (Fr (L+1)) Y1 v2 :=hb2_.keeps (show ¬L+1≤a by omega)
 have szv2 :v2.heap.size=v2.heap.size :=rfl
 have q2 :=Aa bL2 (j :=1) rfl
 have f2 :=Ab bL2 1
 have bLu2 :=upd bL2 1 (.string n1)
 simp only [List.setIfInBounds_toArray,List.set_cons_succ,List.set_cons_zero] at bLu2
 have bRu2 :=Aj bR2 hRL 1 (.string n1)
 have butu2 :=but2.new (b :=L) (by omega) 1 (.string n1)
 have rdu2 :=rd2.other neL 1 (.string n1)
 have ku2 :Keeps (Fr (L+1)) v2 (v2.setCell ⟨L,1,none⟩ (.string n1)) := (Keeps.refl _ _).set (show ¬L+1≤L by omega) _ _
 have szu2 : (v2.setCell ⟨L,1,none⟩ (.string n1)).heap.size=v2.heap.size :=by simp [World.setCell]
 have hone2 : (#[.int .i64 3, .string n1, .string noW, .string noW, .slice none 0 0, .slice none 0 0, .slice none 0 0, .slice none 0 0, .slice none 0 0, .int .i64 0, .int .i64 0, .int .i64 0, .string noW, .string noW, .string noW, .int .i64 0, .slice none 0 0, .slice none 0 0, .bool false, .int .i64 (-1)] :Array Value).all (·.oneCell') =true :=Cy (Al _ _ _) (Al _ _ _) (Al _ _ _) (Al _ _ _) (Al _ _ _) (Al _ _ _) (Al _ _ _)
 go_wp2_with (first
  | refine wpList_load_row rfl 39 _ rfl L rfl 39 _ _ _ bLu2 Tryz.underlying39 rfl Af ?_
  | refine wpList_store_row rfl 39 _ _ rfl w.heap.size #[.int .i64 3, .string n1, .string noW, .string noW, .slice none 0 0, .slice none 0 0, .slice none 0 0, .slice none 0 0, .slice none 0 0, .int .i64 0, .int .i64 0, .int .i64 0, .string noW, .string noW, .string noW, .int .i64 0, .slice none 0 0, .slice none 0 0, .bool false, .int .i64 (-1)] rfl rfl 39 Ah bRu2 Af rfl hone2 ?_)
 refine bodyPost_ret (v := .agg #[.int .i64 3, .string n1, .string noW, .string noW, .slice none 0 0, .slice none 0 0, .slice none 0 0, .slice none 0 0, .slice none 0 0, .int .i64 0, .int .i64 0, .int .i64 0, .string noW, .string noW, .string noW, .int .i64 0, .slice none 0 0, .slice none 0 0, .bool false, .int .i64 (-1)]) (results_cell_row Tryz.results49 _ _ w.heap.size 39 _ _ _ rfl (Am bRu2) Tryz.underlying39 rfl Af) rfl ⟨(#[.int .i64 3, .string n1, .string noW, .string noW, .slice none 0 0, .slice none 0 0, .slice none 0 0, .slice none 0 0, .slice none 0 0, .int .i64 0, .int .i64 0, .int .i64 0, .string noW, .string noW, .string noW, .int .i64 0, .slice none 0 0, .slice none 0 0, .bool false, .int .i64 (-1)] :Array Value).toList,rfl, ?_, ?_, ?_⟩
 ·have kz :Keeps (Fr (L+1)) (v2.setCell ⟨L,1,none⟩ (.string n1)) ((v2.setCell ⟨L,1,none⟩ (.string n1)).setRow w.heap.size #[.int .i64 3, .string n1, .string noW, .string noW, .slice none 0 0, .slice none 0 0, .slice none 0 0, .slice none 0 0, .slice none 0 0, .int .i64 0, .int .i64 0, .int .i64 0, .string noW, .string noW, .string noW, .int .i64 0, .slice none 0 0, .slice none 0 0, .bool false, .int .i64 (-1)]) := (Keeps.refl _ _).row (show ¬L+1≤w.heap.size by omega) _
  exact Fq.mono (F :=Fr (L+1)) (fun k _ hk=>by have :L+1≤k :=hk;show w.heap.size≤k;omega) (D8 (IsL.nil _ _ _) (IsL.nil _ _ _) (IsL.nil _ _ _) (IsL.nil _ _ _) (IsL.nil _ _ _) (Dy _ _) (IsL.nil _ _ _))
 ·exact rdu2.row neR _
 ·exact butu2.row (Nat.le_refl _) _
set_option maxHeartbeats 4000000 in
set_option maxRecDepth 100000 in
theorem Rb :Em 71 Fq Dv Kj 0 :=by
 intro a s w h he ha
 have hla :=h.lt
 have hp :Kj s= ({Bg 2 with name := (At s).1,table := (At (Ar kOn (At s).2)).1,col := (At (Ar As (At (Ar kOn (At s).2)).2)).1},Ar Aq (At (Ar As (At (Ar kOn (At s).2)).2)).2) :=rfl
 rw [hp]
 clear hp
 have hone : (Ai 2).all (·.oneCell') =true :=Cy (Al _ _ _) (Al _ _ _) (Al _ _ _) (Al _ _ _) (Al _ _ _) (Al _ _ _) (Al _ _ _)
 have C1 :=fun v (h1 :Rd v a s 0) =>E9 a s 0 v h1
 generalize At s=q at C1⊢
 obtain ⟨n1,s1⟩ :=q
 simp only at C1⊢
 have C2 :=fun v (h1 :Rd v a s1 0) =>Hi a kOn s1 0 v h1 (by decide)
 generalize Ar kOn s1=s2 at C2⊢
 have C3 :=fun v (h1 :Rd v a s2 0) =>E9 a s2 0 v h1
 generalize At s2=q at C3⊢
 obtain ⟨n2,s3⟩ :=q
 simp only at C3⊢
 have C4 :=fun v (h1 :Rd v a s3 0) =>Hi a As s3 0 v h1 (by decide)
 generalize Ar As s3=s4 at C4⊢
 have C5 :=fun v (h1 :Rd v a s4 0) =>E9 a s4 0 v h1
 generalize At s4=q at C5⊢
 obtain ⟨n3,s5⟩ :=q
 simp only at C5⊢
 have C6 :=fun v (h1 :Rd v a s5 0) =>Hi a Aq s5 0 v h1 (by decide)
 generalize Ar Aq s5=s6 at C6⊢
 go_enter Tryz.func71,Tryz.ntmps71
 go_wp2_with fail
 generalize hW :w.alloc (.cells Ah 39) =W
 have hb0 :Below w.heap.size w W :=by rw [←hW];exact (Below.refl _ _).alloc (Nat.le_refl _) _
 have b0 :W.heap[w.heap.size]? =some (.cells Ah 39) :=by rw [←hW];exact Ad w _
 have hWs :W.heap.size=w.heap.size+1 :=by rw [←hW,World.size_alloc]
 clear hW
 go_fit (D0 2 W)
 rintro e w1 ⟨rfl,hb1⟩
 have hs1 :=hb1.size
 have b1 :=Ae ((hb1.block _ (lt_of_block b0)).trans b0) (.cells Ah 39)
 have c1 :=Ad w1 (.cells Ah 39)
 go_wp2_with (refine wpList_store_row rfl 39 _ _ rfl w1.heap.size (Ai 2) rfl rfl 39 Ah c1 Af rfl hone ?_)
 generalize hX : (w1.alloc (.cells Ah 39)).setRow w1.heap.size (Ai 2) =X0
 have hRL :w.heap.size≠w1.heap.size :=by omega
 have bR0 :X0.heap[w.heap.size]? =some (.cells Ah 39) :=by rw [←hX];exact Bu b1 hRL _
 have bL0 :X0.heap[w1.heap.size]? =some (.cells #[.int .i64 2, .string noW, .string noW, .string noW, .slice none 0 0, .slice none 0 0, .slice none 0 0, .slice none 0 0, .slice none 0 0, .int .i64 0, .int .i64 0, .int .i64 0, .string noW, .string noW, .string noW, .int .i64 0, .slice none 0 0, .slice none 0 0, .bool false, .int .i64 (-1)] 39) :=by rw [←hX];exact Am c1
 have but0 :But a w X0 :=by rw [←hX];exact ((But.of_below (Do hb0 hb1)).alloc _).row (by omega) _
 have rd0 :Rd X0 a s 0 :=by rw [←hX];exact ((h.below (Do hb0 hb1)).below ((Below.refl _ _).alloc (Nat.le_refl _) _)).row (by omega) _
 have szX0 :X0.heap.size=w1.heap.size+1 :=by rw [←hX];simp [World.setRow]
 have hL :w.heap.size<w1.heap.size :=by omega
 clear hX hb1 b1 c1 hs1 hb0 b0
 generalize w1.heap.size=L at bL0 hRL hL szX0⊢
 have neL :L≠a :=by omega
 have neR :w.heap.size≠a :=by omega
 go_fit (C1 X0 rd0)
 rintro e v1 ⟨rfl,rd1,hb1_⟩
 have bR1 :=Ac hb1_ bR0 neR
 have bL1 :=Ac hb1_ bL0 neL
 have but1 :=but0.trans hb1_
 have sz1 :=hb1_.size
 have kp1 :Keeps (Fr (L+1)) X0 v1 :=hb1_.keeps (show ¬L+1≤a by omega)
 have szv1 :v1.heap.size=v1.heap.size :=rfl
 have q1 :=Aa bL1 (j :=1) rfl
 have f1 :=Ab bL1 1
 have bLu1 :=upd bL1 1 (.string n1)
 simp only [List.setIfInBounds_toArray,List.set_cons_succ,List.set_cons_zero] at bLu1
 have bRu1 :=Aj bR1 hRL 1 (.string n1)
 have butu1 :=but1.new (b :=L) (by omega) 1 (.string n1)
 have rdu1 :=rd1.other neL 1 (.string n1)
 have ku1 :Keeps (Fr (L+1)) v1 (v1.setCell ⟨L,1,none⟩ (.string n1)) := (Keeps.refl _ _).set (show ¬L+1≤L by omega) _ _
 have szu1 : (v1.setCell ⟨L,1,none⟩ (.string n1)).heap.size=v1.heap.size :=by simp [World.setCell]
 go_wp2_with fail
 generalize (v1.setCell ⟨L,1,none⟩ (.string n1)) =Y1 at bRu1 bLu1 butu1 rdu1 szu1⊢
 go_fit (C2 Y1 rdu1 _ szu1)
 rintro e v2 ⟨rfl,rd2,hb2_⟩
 have bR2 :=Ac hb2_ bRu1 neR
 have bL2 :=Ac hb2_ bLu1 neL
 have but2 :=butu1.trans hb2_
 have sz2 :=hb2_.size
 have kp2 :Keeps (Fr (L+1)) Y1 v2 :=hb2_.keeps (show ¬L+1≤a by omega)
 have szv2 :v2.heap.size=v2.heap.size :=rfl
 go_wp2_with fail
 generalize v2=Y2 at bR2 bL2 but2 rd2⊢
 go_fit (C3 Y2 rd2)
 rintro e v3 ⟨rfl,rd3,hb3_⟩
 have bR3 :=Ac hb3_ bR2 neR
 have bL3 :=Ac hb3_ bL2 neL
 have but3 :=but2.trans hb3_
 have sz3 :=hb3_.size
 have kp3 :Keeps (Fr (L+1)) Y2 v3 :=hb3_.keeps (show ¬L+1≤a by omega)
 have szv3 :v3.heap.size=v3.heap.size :=rfl
 have q3 :=Aa bL3 (j :=2) rfl
 have f3 :=Ab bL3 2
 have bLu3 :=upd bL3 2 (.string n2)
 simp only [List.setIfInBounds_toArray,List.set_cons_succ,List.set_cons_zero] at bLu3
 have bRu3 :=Aj bR3 hRL 2 (.string n2)
 have butu3 :=but3.new (b :=L) (by omega) 2 (.string n2)
 have rdu3 :=rd3.other neL 2 (.string n2)
 have ku3 :Keeps (Fr (L+1)) v3 (v3.setCell ⟨L,2,none⟩ (.string n2)) := (Keeps.refl _ _).set (show ¬L+1≤L by omega) _ _
 have szu3 : (v3.setCell ⟨L,2,none⟩ (.string n2)).heap.size=v3.heap.size :=by simp [World.setCell]
 go_wp2_with fail
 generalize (v3.setCell ⟨L,2,none⟩ (.string n2)) =Y3 at bRu3 bLu3 butu3 rdu3 szu3⊢
 go_fit (C4 Y3 rdu3 _ szu3)
 rintro e v4 ⟨rfl,rd4,hb4_⟩
 have bR4 :=Ac hb4_ bRu3 neR
 have bL4 :=Ac hb4_ bLu3 neL
 have but4 :=butu3.trans hb4_
 have sz4 :=hb4_.size
 have kp4 :Keeps (Fr (L+1)) Y3 v4 :=hb4_.keeps (show ¬L+1≤a by omega)
 have szv4 :v4.heap.size=v4.heap.size :=rfl
 go_wp2_with fail
 generalize v4=Y4 at bR4 bL4 but4 rd4⊢
 go_fit (C5 Y4 rd4)
 rintro e v5 ⟨rfl,rd5,hb5_⟩
 have bR5 :=Ac hb5_ bR4 neR
 have bL5 :=Ac hb5_ bL4 neL
 have but5 :=but4.trans hb5_
 have sz5 :=hb5_.size
 have kp5 :Keeps (Fr (L+1)) Y4 v5 :=hb5_.keeps (show ¬L+1≤a by omega)
 have szv5 :v5.heap.size=v5.heap.size :=rfl
 have q5 :=Aa bL5 (j :=3) rfl
 have f5 :=Ab bL5 3
 have bLu5 :=upd bL5 3 (.string n3)
 simp only [List.setIfInBounds_toArray,List.set_cons_succ,List.set_cons_zero] at bLu5
 have bRu5 :=Aj bR5 hRL 3 (.string n3)
 have butu5 :=but5.new (b :=L) (by omega) 3 (.string n3)
 have rdu5 :=rd5.other neL 3 (.string n3)
 have ku5 :Keeps (Fr (L+1)) v5 (v5.setCell ⟨L,3,none⟩ (.string n3)) := (Keeps.refl _ _).set (show ¬L+1≤L by omega) _ _
 have szu5 : (v5.setCell ⟨L,3,none⟩ (.string n3)).heap.size=v5.heap.size :=by simp [World.setCell]
 go_wp2_with fail
 generalize (v5.setCell ⟨L,3,none⟩ (.string n3)) =Y5 at bRu5 bLu5 butu5 rdu5 szu5⊢
 go_fit (C6 Y5 rdu5 _ szu5)
 rintro e v6 ⟨rfl,rd6,hb6_⟩
 have bR6 :=Ac hb6_ bRu5 neR
 have bL6 :=Ac hb6_ bLu5 neL
 have but6 :=butu5.trans hb6_
 have sz6 :=hb6_.size
 have kp6 :Keeps (Fr (L+1)) Y5 v6 :=hb6_.keeps (show ¬L+1≤a by omega)
 have szv6 :v6.heap.size=v6.heap.size :=rfl
 have hone2 : (#[.int .i64 2, .string n1, .string n2, .string n3, .slice none 0 0, .slice none 0 0, .slice none 0 0, .slice none 0 0, .slice none 0 0, .int .i64 0, .int .i64 0, .int .i64 0, .string noW, .string noW, .string noW, .int .i64 0, .slice none 0 0, .slice none 0 0, .bool false, .int .i64 (-1)] :Array Value).all (·.oneCell') =true :=Cy (Al _ _ _) (Al _ _ _) (Al _ _ _) (Al _ _ _) (Al _ _ _) (Al _ _ _) (Al _ _ _)
 go_wp2_with (first
  | refine wpList_load_row rfl 39 _ rfl L rfl 39 _ _ _ bL6 Tryz.underlying39 rfl Af ?_
  | refine wpList_store_row rfl 39 _ _ rfl w.heap.size #[.int .i64 2, .string n1, .string n2, .string n3, .slice none 0 0, .slice none 0 0, .slice none 0 0, .slice none 0 0, .slice none 0 0, .int .i64 0, .int .i64 0, .int .i64 0, .string noW, .string noW, .string noW, .int .i64 0, .slice none 0 0, .slice none 0 0, .bool false, .int .i64 (-1)] rfl rfl 39 Ah bR6 Af rfl hone2 ?_)
 refine bodyPost_ret (v := .agg #[.int .i64 2, .string n1, .string n2, .string n3, .slice none 0 0, .slice none 0 0, .slice none 0 0, .slice none 0 0, .slice none 0 0, .int .i64 0, .int .i64 0, .int .i64 0, .string noW, .string noW, .string noW, .int .i64 0, .slice none 0 0, .slice none 0 0, .bool false, .int .i64 (-1)]) (results_cell_row Tryz.results71 _ _ w.heap.size 39 _ _ _ rfl (Am bR6) Tryz.underlying39 rfl Af) rfl ⟨(#[.int .i64 2, .string n1, .string n2, .string n3, .slice none 0 0, .slice none 0 0, .slice none 0 0, .slice none 0 0, .slice none 0 0, .int .i64 0, .int .i64 0, .int .i64 0, .string noW, .string noW, .string noW, .int .i64 0, .slice none 0 0, .slice none 0 0, .bool false, .int .i64 (-1)] :Array Value).toList,rfl, ?_, ?_, ?_⟩
 ·have kz :Keeps (Fr (L+1)) v6 (v6.setRow w.heap.size #[.int .i64 2, .string n1, .string n2, .string n3, .slice none 0 0, .slice none 0 0, .slice none 0 0, .slice none 0 0, .slice none 0 0, .int .i64 0, .int .i64 0, .int .i64 0, .string noW, .string noW, .string noW, .int .i64 0, .slice none 0 0, .slice none 0 0, .bool false, .int .i64 (-1)]) := (Keeps.refl _ _).row (show ¬L+1≤w.heap.size by omega) _
  exact Fq.mono (F :=Fr (L+1)) (fun k _ hk=>by have :L+1≤k :=hk;show w.heap.size≤k;omega) (D8 (IsL.nil _ _ _) (IsL.nil _ _ _) (IsL.nil _ _ _) (IsL.nil _ _ _) (IsL.nil _ _ _) (Dy _ _) (IsL.nil _ _ _))
 ·exact rd6.row neR _
 ·exact but6.row (Nat.le_refl _) _
set_option maxHeartbeats 4000000 in
set_option maxRecDepth 100000 in
theorem Rc :Em 70 Fq Dv Ki 0 :=by
 intro a s w h he ha
 have hla :=h.lt
 have hp :Ki s= ({Bg 1 with name := (At s).1,cols := (Df Fi (At s).2).1},(Df Fi (At s).2).2) :=rfl
 rw [hp]
 clear hp
 have hone : (Ai 1).all (·.oneCell') =true :=Cy (Al _ _ _) (Al _ _ _) (Al _ _ _) (Al _ _ _) (Al _ _ _) (Al _ _ _) (Al _ _ _)
 have C1 :=fun v (h1 :Rd v a s 0) =>E9 a s 0 v h1
 generalize At s=q at C1⊢
 obtain ⟨n1,s1⟩ :=q
 simp only at C1⊢
 have C2 :=fun v (h1 :Rd v a s1 0) (e1 :Env v) =>Un Fi 0 (Xx 0) Tr.shrinks a s1 v h1 e1 ha
 generalize Df Fi s1=q at C2⊢
 obtain ⟨hCl,s2⟩ :=q
 simp only at C2⊢
 go_enter Tryz.func70,Tryz.ntmps70
 go_wp2_with fail
 generalize hW :w.alloc (.cells Ah 39) =W
 have hb0 :Below w.heap.size w W :=by rw [←hW];exact (Below.refl _ _).alloc (Nat.le_refl _) _
 have b0 :W.heap[w.heap.size]? =some (.cells Ah 39) :=by rw [←hW];exact Ad w _
 have hWs :W.heap.size=w.heap.size+1 :=by rw [←hW,World.size_alloc]
 clear hW
 go_fit (D0 1 W)
 rintro e w1 ⟨rfl,hb1⟩
 have hs1 :=hb1.size
 have b1 :=Ae ((hb1.block _ (lt_of_block b0)).trans b0) (.cells Ah 39)
 have c1 :=Ad w1 (.cells Ah 39)
 go_wp2_with (refine wpList_store_row rfl 39 _ _ rfl w1.heap.size (Ai 1) rfl rfl 39 Ah c1 Af rfl hone ?_)
 generalize hX : (w1.alloc (.cells Ah 39)).setRow w1.heap.size (Ai 1) =X0
 have hRL :w.heap.size≠w1.heap.size :=by omega
 have bR0 :X0.heap[w.heap.size]? =some (.cells Ah 39) :=by rw [←hX];exact Bu b1 hRL _
 have bL0 :X0.heap[w1.heap.size]? =some (.cells #[.int .i64 1, .string noW, .string noW, .string noW, .slice none 0 0, .slice none 0 0, .slice none 0 0, .slice none 0 0, .slice none 0 0, .int .i64 0, .int .i64 0, .int .i64 0, .string noW, .string noW, .string noW, .int .i64 0, .slice none 0 0, .slice none 0 0, .bool false, .int .i64 (-1)] 39) :=by rw [←hX];exact Am c1
 have but0 :But a w X0 :=by rw [←hX];exact ((But.of_below (Do hb0 hb1)).alloc _).row (by omega) _
 have rd0 :Rd X0 a s 0 :=by rw [←hX];exact ((h.below (Do hb0 hb1)).below ((Below.refl _ _).alloc (Nat.le_refl _) _)).row (by omega) _
 have szX0 :X0.heap.size=w1.heap.size+1 :=by rw [←hX];simp [World.setRow]
 have hL :w.heap.size<w1.heap.size :=by omega
 clear hX hb1 b1 c1 hs1 hb0 b0
 generalize w1.heap.size=L at bL0 hRL hL szX0⊢
 have neL :L≠a :=by omega
 have neR :w.heap.size≠a :=by omega
 go_fit (C1 X0 rd0)
 rintro e v1 ⟨rfl,rd1,hb1_⟩
 have bR1 :=Ac hb1_ bR0 neR
 have bL1 :=Ac hb1_ bL0 neL
 have but1 :=but0.trans hb1_
 have sz1 :=hb1_.size
 have kp1 :Keeps (Fr (L+1)) X0 v1 :=hb1_.keeps (show ¬L+1≤a by omega)
 have szv1 :v1.heap.size=v1.heap.size :=rfl
 have q1 :=Aa bL1 (j :=1) rfl
 have f1 :=Ab bL1 1
 have bLu1 :=upd bL1 1 (.string n1)
 simp only [List.setIfInBounds_toArray,List.set_cons_succ,List.set_cons_zero] at bLu1
 have bRu1 :=Aj bR1 hRL 1 (.string n1)
 have butu1 :=but1.new (b :=L) (by omega) 1 (.string n1)
 have rdu1 :=rd1.other neL 1 (.string n1)
 have ku1 :Keeps (Fr (L+1)) v1 (v1.setCell ⟨L,1,none⟩ (.string n1)) := (Keeps.refl _ _).set (show ¬L+1≤L by omega) _ _
 have szu1 : (v1.setCell ⟨L,1,none⟩ (.string n1)).heap.size=v1.heap.size :=by simp [World.setCell]
 go_wp2_with fail
 generalize (v1.setCell ⟨L,1,none⟩ (.string n1)) =Y1 at bRu1 bLu1 butu1 rdu1 szu1⊢
 go_fit (C2 Y1 rdu1 (he.but butu1 ha))
 rintro e v2 ⟨sv2,rfl,hC0,rd2,hb2_⟩
 obtain ⟨ao2,cp2,rfl⟩ :=hC0.shape
 have szL2 :=lt_of_block bLu1
 have hC1 :=hC0.mono (F' :=Fr (L+1)) (fun k _ hk=>by have : (Y1).heap.size≤k :=hk;show L+1≤k;omega)
 have bR2 :=Ac hb2_ bRu1 neR
 have bL2 :=Ac hb2_ bLu1 neL
 have but2 :=butu1.trans hb2_
 have sz2 :=hb2_.size
 have kp2 :Keeps (Fr (L+1)) Y1 v2 :=hb2_.keeps (show ¬L+1≤a by omega)
 have szv2 :v2.heap.size=v2.heap.size :=rfl
 have q2 :=Aa bL2 (j :=4) rfl
 have f2 :=Ab bL2 4
 have bLu2 :=upd bL2 4 (.slice ao2 hCl.length cp2)
 simp only [List.setIfInBounds_toArray,List.set_cons_succ,List.set_cons_zero] at bLu2
 have bRu2 :=Aj bR2 hRL 4 (.slice ao2 hCl.length cp2)
 have butu2 :=but2.new (b :=L) (by omega) 4 (.slice ao2 hCl.length cp2)
 have rdu2 :=rd2.other neL 4 (.slice ao2 hCl.length cp2)
 have ku2 :Keeps (Fr (L+1)) v2 (v2.setCell ⟨L,4,none⟩ (.slice ao2 hCl.length cp2)) := (Keeps.refl _ _).set (show ¬L+1≤L by omega) _ _
 have hC_1 :=hC1.keep ku2
 have szu2 : (v2.setCell ⟨L,4,none⟩ (.slice ao2 hCl.length cp2)).heap.size=v2.heap.size :=by simp [World.setCell]
 have hone2 : (#[.int .i64 1, .string n1, .string noW, .string noW, .slice ao2 hCl.length cp2, .slice none 0 0, .slice none 0 0, .slice none 0 0, .slice none 0 0, .int .i64 0, .int .i64 0, .int .i64 0, .string noW, .string noW, .string noW, .int .i64 0, .slice none 0 0, .slice none 0 0, .bool false, .int .i64 (-1)] :Array Value).all (·.oneCell') =true :=Cy (Al _ _ _) (Al _ _ _) (Al _ _ _) (Al _ _ _) (Al _ _ _) (Al _ _ _) (Al _ _ _)
 go_wp2_with (first
  | refine wpList_load_row rfl 39 _ rfl L rfl 39 _ _ _ bLu2 Tryz.underlying39 rfl Af ?_
  | refine wpList_store_row rfl 39 _ _ rfl w.heap.size #[.int .i64 1, .string n1, .string noW, .string noW, .slice ao2 hCl.length cp2, .slice none 0 0, .slice none 0 0, .slice none 0 0, .slice none 0 0, .int .i64 0, .int .i64 0, .int .i64 0, .string noW, .string noW, .string noW, .int .i64 0, .slice none 0 0, .slice none 0 0, .bool false, .int .i64 (-1)] rfl rfl 39 Ah bRu2 Af rfl hone2 ?_)
 refine bodyPost_ret (v := .agg #[.int .i64 1, .string n1, .string noW, .string noW, .slice ao2 hCl.length cp2, .slice none 0 0, .slice none 0 0, .slice none 0 0, .slice none 0 0, .int .i64 0, .int .i64 0, .int .i64 0, .string noW, .string noW, .string noW, .int .i64 0, .slice none 0 0, .slice none 0 0, .bool false, .int .i64 (-1)]) (results_cell_row Tryz.results70 _ _ w.heap.size 39 _ _ _ rfl (Am bRu2) Tryz.underlying39 rfl Af) rfl ⟨(#[.int .i64 1, .string n1, .string noW, .string noW, .slice ao2 hCl.length cp2, .slice none 0 0, .slice none 0 0, .slice none 0 0, .slice none 0 0, .int .i64 0, .int .i64 0, .int .i64 0, .string noW, .string noW, .string noW, .int .i64 0, .slice none 0 0, .slice none 0 0, .bool false, .int .i64 (-1)] :Array Value).toList,rfl, ?_, ?_, ?_⟩
 ·have kz :Keeps (Fr (L+1)) (v2.setCell ⟨L,4,none⟩ (.slice ao2 hCl.length cp2)) ((v2.setCell ⟨L,4,none⟩ (.slice ao2 hCl.length cp2)).setRow w.heap.size #[.int .i64 1, .string n1, .string noW, .string noW, .slice ao2 hCl.length cp2, .slice none 0 0, .slice none 0 0, .slice none 0 0, .slice none 0 0, .int .i64 0, .int .i64 0, .int .i64 0, .string noW, .string noW, .string noW, .int .i64 0, .slice none 0 0, .slice none 0 0, .bool false, .int .i64 (-1)]) := (Keeps.refl _ _).row (show ¬L+1≤w.heap.size by omega) _
  exact Fq.mono (F :=Fr (L+1)) (fun k _ hk=>by have :L+1≤k :=hk;show w.heap.size≤k;omega) (D8 (hC_1.keep kz) (IsL.nil _ _ _) (IsL.nil _ _ _) (IsL.nil _ _ _) (IsL.nil _ _ _) (Dy _ _) (IsL.nil _ _ _))
 ·exact rdu2.row neR _
 ·exact butu2.row (Nat.le_refl _) _
set_option maxHeartbeats 4000000 in
set_option maxRecDepth 100000 in
theorem V7 :Em 50 Fq Dv Hc 0 :=by
 intro a s w h he ha
 have hla :=h.lt
 have hp :Hc s= ({Bg 4 with table := (At (Ar E6 s)).1,rows := (A1 L9 (Ar Ct (At (Ar E6 s)).2)).1},(A1 L9 (Ar Ct (At (Ar E6 s)).2)).2) :=rfl
 rw [hp]
 clear hp
 have hone : (Ai 4).all (·.oneCell') =true :=Cy (Al _ _ _) (Al _ _ _) (Al _ _ _) (Al _ _ _) (Al _ _ _) (Al _ _ _) (Al _ _ _)
 have C1 :=fun v (h1 :Rd v a s 0) =>Hi a E6 s 0 v h1 (by decide)
 generalize Ar E6 s=s1 at C1⊢
 have C2 :=fun v (h1 :Rd v a s1 0) =>E9 a s1 0 v h1
 generalize At s1=q at C2⊢
 obtain ⟨n1,s2⟩ :=q
 simp only at C2⊢
 have C3 :=fun v (h1 :Rd v a s2 0) =>Hi a Ct s2 0 v h1 (by decide)
 generalize Ar Ct s2=s3 at C3⊢
 have C4 :=fun v (h1 :Rd v a s3 0) (e1 :Env v) =>Aa4 L9 0 Ab9 Zc.shrinks a s3 v h1 e1 ha
 generalize A1 L9 s3=q at C4⊢
 obtain ⟨hRwl,s4⟩ :=q
 simp only at C4⊢
 go_enter Tryz.func50,Tryz.ntmps50
 go_wp2_with fail
 generalize hW :w.alloc (.cells Ah 39) =W
 have hb0 :Below w.heap.size w W :=by rw [←hW];exact (Below.refl _ _).alloc (Nat.le_refl _) _
 have b0 :W.heap[w.heap.size]? =some (.cells Ah 39) :=by rw [←hW];exact Ad w _
 have hWs :W.heap.size=w.heap.size+1 :=by rw [←hW,World.size_alloc]
 clear hW
 go_fit (D0 4 W)
 rintro e w1 ⟨rfl,hb1⟩
 have hs1 :=hb1.size
 have b1 :=Ae ((hb1.block _ (lt_of_block b0)).trans b0) (.cells Ah 39)
 have c1 :=Ad w1 (.cells Ah 39)
 go_wp2_with (refine wpList_store_row rfl 39 _ _ rfl w1.heap.size (Ai 4) rfl rfl 39 Ah c1 Af rfl hone ?_)
 generalize hX : (w1.alloc (.cells Ah 39)).setRow w1.heap.size (Ai 4) =X0
 have hRL :w.heap.size≠w1.heap.size :=by omega
 have bR0 :X0.heap[w.heap.size]? =some (.cells Ah 39) :=by rw [←hX];exact Bu b1 hRL _
 have bL0 :X0.heap[w1.heap.size]? =some (.cells #[.int .i64 4, .string noW, .string noW, .string noW, .slice none 0 0, .slice none 0 0, .slice none 0 0, .slice none 0 0, .slice none 0 0, .int .i64 0, .int .i64 0, .int .i64 0, .string noW, .string noW, .string noW, .int .i64 0, .slice none 0 0, .slice none 0 0, .bool false, .int .i64 (-1)] 39) :=by rw [←hX];exact Am c1
 have but0 :But a w X0 :=by rw [←hX];exact ((But.of_below (Do hb0 hb1)).alloc _).row (by omega) _
 have rd0 :Rd X0 a s 0 :=by rw [←hX];exact ((h.below (Do hb0 hb1)).below ((Below.refl _ _).alloc (Nat.le_refl _) _)).row (by omega) _
 have szX0 :X0.heap.size=w1.heap.size+1 :=by rw [←hX];simp [World.setRow]
 have hL :w.heap.size<w1.heap.size :=by omega
 clear hX hb1 b1 c1 hs1 hb0 b0
 generalize w1.heap.size=L at bL0 hRL hL szX0⊢
 have neL :L≠a :=by omega
 have neR :w.heap.size≠a :=by omega
 go_fit (C1 X0 rd0 _ szX0)
 rintro e v1 ⟨rfl,rd1,hb1_⟩
 have bR1 :=Ac hb1_ bR0 neR
 have bL1 :=Ac hb1_ bL0 neL
 have but1 :=but0.trans hb1_
 have sz1 :=hb1_.size
 have kp1 :Keeps (Fr (L+1)) X0 v1 :=hb1_.keeps (show ¬L+1≤a by omega)
 have szv1 :v1.heap.size=v1.heap.size :=rfl
 go_wp2_with fail
 generalize v1=Y1 at bR1 bL1 but1 rd1⊢
 go_fit (C2 Y1 rd1)
 rintro e v2 ⟨rfl,rd2,hb2_⟩
 have bR2 :=Ac hb2_ bR1 neR
 have bL2 :=Ac hb2_ bL1 neL
 have but2 :=but1.trans hb2_
 have sz2 :=hb2_.size
 have kp2 :Keeps (Fr (L+1)) Y1 v2 :=hb2_.keeps (show ¬L+1≤a by omega)
 have szv2 :v2.heap.size=v2.heap.size :=rfl
 have q2 :=Aa bL2 (j :=2) rfl
 have f2 :=Ab bL2 2
 have bLu2 :=upd bL2 2 (.string n1)
 simp only [List.setIfInBounds_toArray,List.set_cons_succ,List.set_cons_zero] at bLu2
 have bRu2 :=Aj bR2 hRL 2 (.string n1)
 have butu2 :=but2.new (b :=L) (by omega) 2 (.string n1)
 have rdu2 :=rd2.other neL 2 (.string n1)
 have ku2 :Keeps (Fr (L+1)) v2 (v2.setCell ⟨L,2,none⟩ (.string n1)) := (Keeps.refl _ _).set (show ¬L+1≤L by omega) _ _
 have szu2 : (v2.setCell ⟨L,2,none⟩ (.string n1)).heap.size=v2.heap.size :=by simp [World.setCell]
 go_wp2_with fail
 generalize (v2.setCell ⟨L,2,none⟩ (.string n1)) =Y2 at bRu2 bLu2 butu2 rdu2 szu2⊢
 go_fit (C3 Y2 rdu2 _ szu2)
 rintro e v3 ⟨rfl,rd3,hb3_⟩
 have bR3 :=Ac hb3_ bRu2 neR
 have bL3 :=Ac hb3_ bLu2 neL
 have but3 :=butu2.trans hb3_
 have sz3 :=hb3_.size
 have kp3 :Keeps (Fr (L+1)) Y2 v3 :=hb3_.keeps (show ¬L+1≤a by omega)
 have szv3 :v3.heap.size=v3.heap.size :=rfl
 go_wp2_with fail
 generalize v3=Y3 at bR3 bL3 but3 rd3⊢
 go_fit (C4 Y3 rd3 (he.but but3 ha))
 rintro e v4 ⟨sv4,rfl,hRw0,rd4,hb4_⟩
 obtain ⟨ao4,cp4,rfl⟩ :=hRw0.shape
 have szL4 :=lt_of_block bL3
 have hRw1 :=hRw0.mono (F' :=Fr (L+1)) (fun k _ hk=>by have : (Y3).heap.size≤k :=hk;show L+1≤k;omega)
 have bR4 :=Ac hb4_ bR3 neR
 have bL4 :=Ac hb4_ bL3 neL
 have but4 :=but3.trans hb4_
 have sz4 :=hb4_.size
 have kp4 :Keeps (Fr (L+1)) Y3 v4 :=hb4_.keeps (show ¬L+1≤a by omega)
 have szv4 :v4.heap.size=v4.heap.size :=rfl
 have q4 :=Aa bL4 (j :=5) rfl
 have f4 :=Ab bL4 5
 have bLu4 :=upd bL4 5 (.slice ao4 hRwl.length cp4)
 simp only [List.setIfInBounds_toArray,List.set_cons_succ,List.set_cons_zero] at bLu4
 have bRu4 :=Aj bR4 hRL 5 (.slice ao4 hRwl.length cp4)
 have butu4 :=but4.new (b :=L) (by omega) 5 (.slice ao4 hRwl.length cp4)
 have rdu4 :=rd4.other neL 5 (.slice ao4 hRwl.length cp4)
 have ku4 :Keeps (Fr (L+1)) v4 (v4.setCell ⟨L,5,none⟩ (.slice ao4 hRwl.length cp4)) := (Keeps.refl _ _).set (show ¬L+1≤L by omega) _ _
 have hRw_1 :=hRw1.keep ku4
 have szu4 : (v4.setCell ⟨L,5,none⟩ (.slice ao4 hRwl.length cp4)).heap.size=v4.heap.size :=by simp [World.setCell]
 have hone2 : (#[.int .i64 4, .string noW, .string n1, .string noW, .slice none 0 0, .slice ao4 hRwl.length cp4, .slice none 0 0, .slice none 0 0, .slice none 0 0, .int .i64 0, .int .i64 0, .int .i64 0, .string noW, .string noW, .string noW, .int .i64 0, .slice none 0 0, .slice none 0 0, .bool false, .int .i64 (-1)] :Array Value).all (·.oneCell') =true :=Cy (Al _ _ _) (Al _ _ _) (Al _ _ _) (Al _ _ _) (Al _ _ _) (Al _ _ _) (Al _ _ _)
 go_wp2_with (first
  | refine wpList_load_row rfl 39 _ rfl L rfl 39 _ _ _ bLu4 Tryz.underlying39 rfl Af ?_
  | refine wpList_store_row rfl 39 _ _ rfl w.heap.size #[.int .i64 4, .string noW, .string n1, .string noW, .slice none 0 0, .slice ao4 hRwl.length cp4, .slice none 0 0, .slice none 0 0, .slice none 0 0, .int .i64 0, .int .i64 0, .int .i64 0, .string noW, .string noW, .string noW, .int .i64 0, .slice none 0 0, .slice none 0 0, .bool false, .int .i64 (-1)] rfl rfl 39 Ah bRu4 Af rfl hone2 ?_)
 refine bodyPost_ret (v := .agg #[.int .i64 4, .string noW, .string n1, .string noW, .slice none 0 0, .slice ao4 hRwl.length cp4, .slice none 0 0, .slice none 0 0, .slice none 0 0, .int .i64 0, .int .i64 0, .int .i64 0, .string noW, .string noW, .string noW, .int .i64 0, .slice none 0 0, .slice none 0 0, .bool false, .int .i64 (-1)]) (results_cell_row Tryz.results50 _ _ w.heap.size 39 _ _ _ rfl (Am bRu4) Tryz.underlying39 rfl Af) rfl ⟨(#[.int .i64 4, .string noW, .string n1, .string noW, .slice none 0 0, .slice ao4 hRwl.length cp4, .slice none 0 0, .slice none 0 0, .slice none 0 0, .int .i64 0, .int .i64 0, .int .i64 0, .string noW, .string noW, .string noW, .int .i64 0, .slice none 0 0, .slice none 0 0, .bool false, .int .i64 (-1)] :Array Value).toList,rfl, ?_, ?_, ?_⟩
 ·have kz :Keeps (Fr (L+1)) (v4.setCell ⟨L,5,none⟩ (.slice ao4 hRwl.length cp4)) ((v4.setCell ⟨L,5,none⟩ (.slice ao4 hRwl.length cp4)).setRow w.heap.size #[.int .i64 4, .string noW, .string n1, .string noW, .slice none 0 0, .slice ao4 hRwl.length cp4, .slice none 0 0, .slice none 0 0, .slice none 0 0, .int .i64 0, .int .i64 0, .int .i64 0, .string noW, .string noW, .string noW, .int .i64 0, .slice none 0 0, .slice none 0 0, .bool false, .int .i64 (-1)]) := (Keeps.refl _ _).row (show ¬L+1≤w.heap.size by omega) _
  exact Fq.mono (F :=Fr (L+1)) (fun k _ hk=>by have :L+1≤k :=hk;show w.heap.size≤k;omega) (D8 (IsL.nil _ _ _) (hRw_1.keep kz) (IsL.nil _ _ _) (IsL.nil _ _ _) (IsL.nil _ _ _) (Dy _ _) (IsL.nil _ _ _))
 ·exact rdu4.row neR _
 ·exact butu4.row (Nat.le_refl _) _
end Go.Proofs.YtifjaegfpdjikaaGreatDoor

namespace Go.Proofs.YtifjaegfpdjikaaGreatDoor
open Go.RowKit
set_option maxHeartbeats 4000000 in
set_option maxRecDepth 100000 in
theorem V8 :Em 51 Fq Dv Hd 0 :=by
 intro a s w h he ha
 have hla :=h.lt
 have hp :Hd s= ({Bg 5 with table := (At (Ar Az s)).1,wher := (Bx (At (Ar Az s)).2).1},(Bx (At (Ar Az s)).2).2) :=rfl
 rw [hp]
 clear hp
 have hone : (Ai 5).all (·.oneCell') =true :=Cy (Al _ _ _) (Al _ _ _) (Al _ _ _) (Al _ _ _) (Al _ _ _) (Al _ _ _) (Al _ _ _)
 have C1 :=fun v (h1 :Rd v a s 0) =>Hi a Az s 0 v h1 (by decide)
 generalize Ar Az s=s1 at C1⊢
 have C2 :=fun v (h1 :Rd v a s1 0) =>E9 a s1 0 v h1
 generalize At s1=q at C2⊢
 obtain ⟨n1,s2⟩ :=q
 simp only at C2⊢
 have C3 :=fun v (h1 :Rd v a s2 0) (e1 :Env v) =>Mc a s2 v h1 e1 ha
 generalize Bx s2=q at C3⊢
 obtain ⟨WE,s3⟩ :=q
 simp only at C3⊢
 go_enter Tryz.func51,Tryz.ntmps51
 go_wp2_with fail
 generalize hW :w.alloc (.cells Ah 39) =W
 have hb0 :Below w.heap.size w W :=by rw [←hW];exact (Below.refl _ _).alloc (Nat.le_refl _) _
 have b0 :W.heap[w.heap.size]? =some (.cells Ah 39) :=by rw [←hW];exact Ad w _
 have hWs :W.heap.size=w.heap.size+1 :=by rw [←hW,World.size_alloc]
 clear hW
 go_fit (D0 5 W)
 rintro e w1 ⟨rfl,hb1⟩
 have hs1 :=hb1.size
 have b1 :=Ae ((hb1.block _ (lt_of_block b0)).trans b0) (.cells Ah 39)
 have c1 :=Ad w1 (.cells Ah 39)
 go_wp2_with (refine wpList_store_row rfl 39 _ _ rfl w1.heap.size (Ai 5) rfl rfl 39 Ah c1 Af rfl hone ?_)
 generalize hX : (w1.alloc (.cells Ah 39)).setRow w1.heap.size (Ai 5) =X0
 have hRL :w.heap.size≠w1.heap.size :=by omega
 have bR0 :X0.heap[w.heap.size]? =some (.cells Ah 39) :=by rw [←hX];exact Bu b1 hRL _
 have bL0 :X0.heap[w1.heap.size]? =some (.cells #[.int .i64 5, .string noW, .string noW, .string noW, .slice none 0 0, .slice none 0 0, .slice none 0 0, .slice none 0 0, .slice none 0 0, .int .i64 0, .int .i64 0, .int .i64 0, .string noW, .string noW, .string noW, .int .i64 0, .slice none 0 0, .slice none 0 0, .bool false, .int .i64 (-1)] 39) :=by rw [←hX];exact Am c1
 have but0 :But a w X0 :=by rw [←hX];exact ((But.of_below (Do hb0 hb1)).alloc _).row (by omega) _
 have rd0 :Rd X0 a s 0 :=by rw [←hX];exact ((h.below (Do hb0 hb1)).below ((Below.refl _ _).alloc (Nat.le_refl _) _)).row (by omega) _
 have szX0 :X0.heap.size=w1.heap.size+1 :=by rw [←hX];simp [World.setRow]
 have hL :w.heap.size<w1.heap.size :=by omega
 clear hX hb1 b1 c1 hs1 hb0 b0
 generalize w1.heap.size=L at bL0 hRL hL szX0⊢
 have neL :L≠a :=by omega
 have neR :w.heap.size≠a :=by omega
 go_fit (C1 X0 rd0 _ szX0)
 rintro e v1 ⟨rfl,rd1,hb1_⟩
 have bR1 :=Ac hb1_ bR0 neR
 have bL1 :=Ac hb1_ bL0 neL
 have but1 :=but0.trans hb1_
 have sz1 :=hb1_.size
 have kp1 :Keeps (Fr (L+1)) X0 v1 :=hb1_.keeps (show ¬L+1≤a by omega)
 have szv1 :v1.heap.size=v1.heap.size :=rfl
 go_wp2_with fail
 generalize v1=Y1 at bR1 bL1 but1 rd1⊢
 go_fit (C2 Y1 rd1)
 rintro e v2 ⟨rfl,rd2,hb2_⟩
 have bR2 :=Ac hb2_ bR1 neR
 have bL2 :=Ac hb2_ bL1 neL
 have but2 :=but1.trans hb2_
 have sz2 :=hb2_.size
 have kp2 :Keeps (Fr (L+1)) Y1 v2 :=hb2_.keeps (show ¬L+1≤a by omega)
 have szv2 :v2.heap.size=v2.heap.size :=rfl
 have q2 :=Aa bL2 (j :=2) rfl
 have f2 :=Ab bL2 2
 have bLu2 :=upd bL2 2 (.string n1)
 simp only [List.setIfInBounds_toArray,List.set_cons_succ,List.set_cons_zero] at bLu2
 have bRu2 :=Aj bR2 hRL 2 (.string n1)
 have butu2 :=but2.new (b :=L) (by omega) 2 (.string n1)
 have rdu2 :=rd2.other neL 2 (.string n1)
 have ku2 :Keeps (Fr (L+1)) v2 (v2.setCell ⟨L,2,none⟩ (.string n1)) := (Keeps.refl _ _).set (show ¬L+1≤L by omega) _ _
 have szu2 : (v2.setCell ⟨L,2,none⟩ (.string n1)).heap.size=v2.heap.size :=by simp [World.setCell]
 go_wp2_with fail
 generalize (v2.setCell ⟨L,2,none⟩ (.string n1)) =Y2 at bRu2 bLu2 butu2 rdu2 szu2⊢
 go_fit (C3 Y2 rdu2 (he.but butu2 ha))
 rintro e v3 ⟨vv,rfl,hE0,rd3,hb3_⟩
 obtain ⟨op,x,xs,nmv,n8,ao8,k8,c8,rfl⟩ :=hE0.shape
 obtain ⟨xk,xn,xs2⟩ :=x
 have szL3 :=lt_of_block bLu2
 have hE1 :=IsE.mono (F' :=Fr (L+1)) (fun k _ hk=>by have : (Y2).heap.size≤k :=hk;show L+1≤k;omega) _ _ hE0
 have bR3 :=Ac hb3_ bRu2 neR
 have bL3 :=Ac hb3_ bLu2 neL
 have but3 :=butu2.trans hb3_
 have sz3 :=hb3_.size
 have kp3 :Keeps (Fr (L+1)) Y2 v3 :=hb3_.keeps (show ¬L+1≤a by omega)
 have szv3 :v3.heap.size=v3.heap.size :=rfl
 have y0 :=Aa bL3 (j :=9) rfl
 have z0 :=Ab bL3 9
 have y1 :=Aa bL3 (j :=10) rfl
 have z1 :=Ab bL3 10
 have y2 :=Aa bL3 (j :=11) rfl
 have z2 :=Ab bL3 11
 have y3 :=Aa bL3 (j :=12) rfl
 have z3 :=Ab bL3 12
 have y4 :=Aa bL3 (j :=13) rfl
 have z4 :=Ab bL3 13
 have y5 :=Aa bL3 (j :=14) rfl
 have z5 :=Ab bL3 14
 have y6 :=Aa bL3 (j :=15) rfl
 have z6 :=Ab bL3 15
 have y7 :=Aa bL3 (j :=16) rfl
 have z7 :=Ab bL3 16
 have hth :v3.there L 9 8 :=by
  intro j hj
  match j,hj with
  | 0,_=>exact ⟨by rw [y0];rfl,z0⟩
  | 1,_=>exact ⟨by rw [y1];rfl,z1⟩
  | 2,_=>exact ⟨by rw [y2];rfl,z2⟩
  | 3,_=>exact ⟨by rw [y3];rfl,z3⟩
  | 4,_=>exact ⟨by rw [y4];rfl,z4⟩
  | 5,_=>exact ⟨by rw [y5];rfl,z5⟩
  | 6,_=>exact ⟨by rw [y6];rfl,z6⟩
  | 7,_=>exact ⟨by rw [y7];rfl,z7⟩
 clear y0 y1 y2 y3 y4 y5 y6 y7 z0 z1 z2 z3 z4 z5 z6 z7
 have hone8 : (#[.int .i64 op, .int .i64 xk, .int .i64 xn, .string xs2, .string xs, .string nmv, .int .i64 n8, .slice ao8 k8 c8] :Array Value).all (·.oneCell') =true :=by simp [Value.oneCell']
 have bLw :=upd (upd (upd (upd (upd (upd (upd (upd bL3 9 (.int .i64 op)) 10 (.int .i64 xk)) 11 (.int .i64 xn)) 12 (.string xs2)) 13 (.string xs)) 14 (.string nmv)) 15 (.int .i64 n8)) 16 (.slice ao8 k8 c8)
 simp only [List.setIfInBounds_toArray,List.set_cons_succ,List.set_cons_zero] at bLw
 have bRw : (v3.setCells L 9 [.int .i64 op, .int .i64 xk, .int .i64 xn, .string xs2, .string xs, .string nmv, .int .i64 n8, .slice ao8 k8 c8]).heap[w.heap.size]? =some (.cells Ah 39) :=Eu bR3 hRL _ _ _ _ _ _ _ _
 have butw :But a w (v3.setCells L 9 [.int .i64 op, .int .i64 xk, .int .i64 xn, .string xs2, .string xs, .string nmv, .int .i64 n8, .slice ao8 k8 c8]) :=but3.set8m (by omega) _ _ _ _ _ _ _ _
 have rdw :Rd (v3.setCells L 9 [.int .i64 op, .int .i64 xk, .int .i64 xn, .string xs2, .string xs, .string nmv, .int .i64 n8, .slice ao8 k8 c8]) a s3 0 :=rd3.set8m neL _ _ _ _ _ _ _ _
 have kw :Keeps (Fr (L+1)) v3 (v3.setCells L 9 [.int .i64 op, .int .i64 xk, .int .i64 xn, .string xs2, .string xs, .string nmv, .int .i64 n8, .slice ao8 k8 c8]) := (Keeps.refl _ _).set8m (show ¬L+1≤L by omega) _ _ _ _ _ _ _ _
 have hE_1 :=IsE.keep kw _ _ hE1
 have szw : (v3.setCells L 9 [.int .i64 op, .int .i64 xk, .int .i64 xn, .string xs2, .string xs, .string nmv, .int .i64 n8, .slice ao8 k8 c8]).heap.size=v3.heap.size :=by simp [World.setCells,World.setCell]
 simp only []
 go_step
 go_step
 go_step
 go_step
 refine wpList_store_mid rfl 37 _ _ rfl L 9 #[.int .i64 op, .int .i64 xk, .int .i64 xn, .string xs2, .string xs, .string nmv, .int .i64 n8, .slice ao8 k8 c8] rfl rfl hth Fd hone8 ?_
 go_step
 go_step
 go_step
 have hone2 : (#[.int .i64 5, .string noW, .string n1, .string noW, .slice none 0 0, .slice none 0 0, .slice none 0 0, .slice none 0 0, .slice none 0 0, .int .i64 op, .int .i64 xk, .int .i64 xn, .string xs2, .string xs, .string nmv, .int .i64 n8, .slice ao8 k8 c8, .slice none 0 0, .bool false, .int .i64 (-1)] :Array Value).all (·.oneCell') =true :=Cy (Al _ _ _) (Al _ _ _) (Al _ _ _) (Al _ _ _) (Al _ _ _) (Al _ _ _) (Al _ _ _)
 go_wp2_with (first
  | refine wpList_load_row rfl 39 _ rfl L rfl 39 _ _ _ bLw Tryz.underlying39 rfl Af ?_
  | refine wpList_store_row rfl 39 _ _ rfl w.heap.size #[.int .i64 5, .string noW, .string n1, .string noW, .slice none 0 0, .slice none 0 0, .slice none 0 0, .slice none 0 0, .slice none 0 0, .int .i64 op, .int .i64 xk, .int .i64 xn, .string xs2, .string xs, .string nmv, .int .i64 n8, .slice ao8 k8 c8, .slice none 0 0, .bool false, .int .i64 (-1)] rfl rfl 39 Ah bRw Af rfl hone2 ?_)
 refine bodyPost_ret (v := .agg #[.int .i64 5, .string noW, .string n1, .string noW, .slice none 0 0, .slice none 0 0, .slice none 0 0, .slice none 0 0, .slice none 0 0, .int .i64 op, .int .i64 xk, .int .i64 xn, .string xs2, .string xs, .string nmv, .int .i64 n8, .slice ao8 k8 c8, .slice none 0 0, .bool false, .int .i64 (-1)]) (results_cell_row Tryz.results51 _ _ w.heap.size 39 _ _ _ rfl (Am bRw) Tryz.underlying39 rfl Af) rfl ⟨(#[.int .i64 5, .string noW, .string n1, .string noW, .slice none 0 0, .slice none 0 0, .slice none 0 0, .slice none 0 0, .slice none 0 0, .int .i64 op, .int .i64 xk, .int .i64 xn, .string xs2, .string xs, .string nmv, .int .i64 n8, .slice ao8 k8 c8, .slice none 0 0, .bool false, .int .i64 (-1)] :Array Value).toList,rfl, ?_, ?_, ?_⟩
 ·have kz :Keeps (Fr (L+1)) (v3.setCells L 9 [.int .i64 op, .int .i64 xk, .int .i64 xn, .string xs2, .string xs, .string nmv, .int .i64 n8, .slice ao8 k8 c8]) ((v3.setCells L 9 [.int .i64 op, .int .i64 xk, .int .i64 xn, .string xs2, .string xs, .string nmv, .int .i64 n8, .slice ao8 k8 c8]).setRow w.heap.size #[.int .i64 5, .string noW, .string n1, .string noW, .slice none 0 0, .slice none 0 0, .slice none 0 0, .slice none 0 0, .slice none 0 0, .int .i64 op, .int .i64 xk, .int .i64 xn, .string xs2, .string xs, .string nmv, .int .i64 n8, .slice ao8 k8 c8, .slice none 0 0, .bool false, .int .i64 (-1)]) := (Keeps.refl _ _).row (show ¬L+1≤w.heap.size by omega) _
  exact Fq.mono (F :=Fr (L+1)) (fun k _ hk=>by have :L+1≤k :=hk;show w.heap.size≤k;omega) (D8 (IsL.nil _ _ _) (IsL.nil _ _ _) (IsL.nil _ _ _) (IsL.nil _ _ _) (IsL.nil _ _ _) (IsE.keep kz _ _ hE_1) (IsL.nil _ _ _))
 ·exact rdw.row neR _
 ·exact butw.row (Nat.le_refl _) _
set_option maxHeartbeats 4000000 in
set_option maxRecDepth 100000 in
theorem Yo :Em 52 Fq Dv He 0 :=by
 intro a s w h he ha
 have hla :=h.lt
 have hp :He s= ({Bg 6 with table := (At s).1,sets := (A1 Fv (Ar F6 (At s).2)).1,wher := (Bx (A1 Fv (Ar F6 (At s).2)).2).1},(Bx (A1 Fv (Ar F6 (At s).2)).2).2) :=rfl
 rw [hp]
 clear hp
 have hone : (Ai 6).all (·.oneCell') =true :=Cy (Al _ _ _) (Al _ _ _) (Al _ _ _) (Al _ _ _) (Al _ _ _) (Al _ _ _) (Al _ _ _)
 have C1 :=fun v (h1 :Rd v a s 0) =>E9 a s 0 v h1
 generalize At s=q at C1⊢
 obtain ⟨n1,s1⟩ :=q
 simp only at C1⊢
 have C2 :=fun v (h1 :Rd v a s1 0) =>Hi a F6 s1 0 v h1 (by decide)
 generalize Ar F6 s1=s2 at C2⊢
 have C3 :=fun v (h1 :Rd v a s2 0) (e1 :Env v) =>Aa5 Fv 0 Xy Ts.shrinks a s2 v h1 e1 ha
 generalize A1 Fv s2=q at C3⊢
 obtain ⟨hStl,s3⟩ :=q
 simp only at C3⊢
 have C4 :=fun v (h1 :Rd v a s3 0) (e1 :Env v) =>Mc a s3 v h1 e1 ha
 generalize Bx s3=q at C4⊢
 obtain ⟨WE,s4⟩ :=q
 simp only at C4⊢
 go_enter Tryz.func52,Tryz.ntmps52
 go_wp2_with fail
 generalize hW :w.alloc (.cells Ah 39) =W
 have hb0 :Below w.heap.size w W :=by rw [←hW];exact (Below.refl _ _).alloc (Nat.le_refl _) _
 have b0 :W.heap[w.heap.size]? =some (.cells Ah 39) :=by rw [←hW];exact Ad w _
 have hWs :W.heap.size=w.heap.size+1 :=by rw [←hW,World.size_alloc]
 clear hW
 go_fit (D0 6 W)
 rintro e w1 ⟨rfl,hb1⟩
 have hs1 :=hb1.size
 have b1 :=Ae ((hb1.block _ (lt_of_block b0)).trans b0) (.cells Ah 39)
 have c1 :=Ad w1 (.cells Ah 39)
 go_wp2_with (refine wpList_store_row rfl 39 _ _ rfl w1.heap.size (Ai 6) rfl rfl 39 Ah c1 Af rfl hone ?_)
 generalize hX : (w1.alloc (.cells Ah 39)).setRow w1.heap.size (Ai 6) =X0
 have hRL :w.heap.size≠w1.heap.size :=by omega
 have bR0 :X0.heap[w.heap.size]? =some (.cells Ah 39) :=by rw [←hX];exact Bu b1 hRL _
 have bL0 :X0.heap[w1.heap.size]? =some (.cells #[.int .i64 6, .string noW, .string noW, .string noW, .slice none 0 0, .slice none 0 0, .slice none 0 0, .slice none 0 0, .slice none 0 0, .int .i64 0, .int .i64 0, .int .i64 0, .string noW, .string noW, .string noW, .int .i64 0, .slice none 0 0, .slice none 0 0, .bool false, .int .i64 (-1)] 39) :=by rw [←hX];exact Am c1
 have but0 :But a w X0 :=by rw [←hX];exact ((But.of_below (Do hb0 hb1)).alloc _).row (by omega) _
 have rd0 :Rd X0 a s 0 :=by rw [←hX];exact ((h.below (Do hb0 hb1)).below ((Below.refl _ _).alloc (Nat.le_refl _) _)).row (by omega) _
 have szX0 :X0.heap.size=w1.heap.size+1 :=by rw [←hX];simp [World.setRow]
 have hL :w.heap.size<w1.heap.size :=by omega
 clear hX hb1 b1 c1 hs1 hb0 b0
 generalize w1.heap.size=L at bL0 hRL hL szX0⊢
 have neL :L≠a :=by omega
 have neR :w.heap.size≠a :=by omega
 go_fit (C1 X0 rd0)
 rintro e v1 ⟨rfl,rd1,hb1_⟩
 have bR1 :=Ac hb1_ bR0 neR
 have bL1 :=Ac hb1_ bL0 neL
 have but1 :=but0.trans hb1_
 have sz1 :=hb1_.size
 have kp1 :Keeps (Fr (L+1)) X0 v1 :=hb1_.keeps (show ¬L+1≤a by omega)
 have szv1 :v1.heap.size=v1.heap.size :=rfl
 have q1 :=Aa bL1 (j :=2) rfl
 have f1 :=Ab bL1 2
 have bLu1 :=upd bL1 2 (.string n1)
 simp only [List.setIfInBounds_toArray,List.set_cons_succ,List.set_cons_zero] at bLu1
 have bRu1 :=Aj bR1 hRL 2 (.string n1)
 have butu1 :=but1.new (b :=L) (by omega) 2 (.string n1)
 have rdu1 :=rd1.other neL 2 (.string n1)
 have ku1 :Keeps (Fr (L+1)) v1 (v1.setCell ⟨L,2,none⟩ (.string n1)) := (Keeps.refl _ _).set (show ¬L+1≤L by omega) _ _
 have szu1 : (v1.setCell ⟨L,2,none⟩ (.string n1)).heap.size=v1.heap.size :=by simp [World.setCell]
 go_wp2_with fail
 generalize (v1.setCell ⟨L,2,none⟩ (.string n1)) =Y1 at bRu1 bLu1 butu1 rdu1 szu1⊢
 go_fit (C2 Y1 rdu1 _ szu1)
 rintro e v2 ⟨rfl,rd2,hb2_⟩
 have bR2 :=Ac hb2_ bRu1 neR
 have bL2 :=Ac hb2_ bLu1 neL
 have but2 :=butu1.trans hb2_
 have sz2 :=hb2_.size
 have kp2 :Keeps (Fr (L+1)) Y1 v2 :=hb2_.keeps (show ¬L+1≤a by omega)
 have szv2 :v2.heap.size=v2.heap.size :=rfl
 go_wp2_with fail
 generalize v2=Y2 at bR2 bL2 but2 rd2⊢
 go_fit (C3 Y2 rd2 (he.but but2 ha))
 rintro e v3 ⟨sv3,rfl,hSt0,rd3,hb3_⟩
 obtain ⟨ao3,cp3,rfl⟩ :=hSt0.shape
 have szL3 :=lt_of_block bL2
 have hSt1 :=hSt0.mono (F' :=Fr (L+1)) (fun k _ hk=>by have : (Y2).heap.size≤k :=hk;show L+1≤k;omega)
 have bR3 :=Ac hb3_ bR2 neR
 have bL3 :=Ac hb3_ bL2 neL
 have but3 :=but2.trans hb3_
 have sz3 :=hb3_.size
 have kp3 :Keeps (Fr (L+1)) Y2 v3 :=hb3_.keeps (show ¬L+1≤a by omega)
 have szv3 :v3.heap.size=v3.heap.size :=rfl
 have q3 :=Aa bL3 (j :=6) rfl
 have f3 :=Ab bL3 6
 have bLu3 :=upd bL3 6 (.slice ao3 hStl.length cp3)
 simp only [List.setIfInBounds_toArray,List.set_cons_succ,List.set_cons_zero] at bLu3
 have bRu3 :=Aj bR3 hRL 6 (.slice ao3 hStl.length cp3)
 have butu3 :=but3.new (b :=L) (by omega) 6 (.slice ao3 hStl.length cp3)
 have rdu3 :=rd3.other neL 6 (.slice ao3 hStl.length cp3)
 have ku3 :Keeps (Fr (L+1)) v3 (v3.setCell ⟨L,6,none⟩ (.slice ao3 hStl.length cp3)) := (Keeps.refl _ _).set (show ¬L+1≤L by omega) _ _
 have hSt_1 :=hSt1.keep ku3
 have szu3 : (v3.setCell ⟨L,6,none⟩ (.slice ao3 hStl.length cp3)).heap.size=v3.heap.size :=by simp [World.setCell]
 go_wp2_with fail
 generalize (v3.setCell ⟨L,6,none⟩ (.slice ao3 hStl.length cp3)) =Y3 at bRu3 bLu3 butu3 rdu3 szu3 hSt_1⊢
 go_fit (C4 Y3 rdu3 (he.but butu3 ha))
 rintro e v4 ⟨vv,rfl,hE0,rd4,hb4_⟩
 obtain ⟨op,x,xs,nmv,n8,ao8,k8,c8,rfl⟩ :=hE0.shape
 obtain ⟨xk,xn,xs2⟩ :=x
 have szL4 :=lt_of_block bLu3
 have hE1 :=IsE.mono (F' :=Fr (L+1)) (fun k _ hk=>by have : (Y3).heap.size≤k :=hk;show L+1≤k;omega) _ _ hE0
 have bR4 :=Ac hb4_ bRu3 neR
 have bL4 :=Ac hb4_ bLu3 neL
 have but4 :=butu3.trans hb4_
 have sz4 :=hb4_.size
 have kp4 :Keeps (Fr (L+1)) Y3 v4 :=hb4_.keeps (show ¬L+1≤a by omega)
 have hSt_2 :=hSt_1.keep kp4
 have szv4 :v4.heap.size=v4.heap.size :=rfl
 have y0 :=Aa bL4 (j :=9) rfl
 have z0 :=Ab bL4 9
 have y1 :=Aa bL4 (j :=10) rfl
 have z1 :=Ab bL4 10
 have y2 :=Aa bL4 (j :=11) rfl
 have z2 :=Ab bL4 11
 have y3 :=Aa bL4 (j :=12) rfl
 have z3 :=Ab bL4 12
 have y4 :=Aa bL4 (j :=13) rfl
 have z4 :=Ab bL4 13
 have y5 :=Aa bL4 (j :=14) rfl
 have z5 :=Ab bL4 14
 have y6 :=Aa bL4 (j :=15) rfl
 have z6 :=Ab bL4 15
 have y7 :=Aa bL4 (j :=16) rfl
 have z7 :=Ab bL4 16
 have hth :v4.there L 9 8 :=by
  intro j hj
  match j,hj with
  | 0,_=>exact ⟨by rw [y0];rfl,z0⟩
  | 1,_=>exact ⟨by rw [y1];rfl,z1⟩
  | 2,_=>exact ⟨by rw [y2];rfl,z2⟩
  | 3,_=>exact ⟨by rw [y3];rfl,z3⟩
  | 4,_=>exact ⟨by rw [y4];rfl,z4⟩
  | 5,_=>exact ⟨by rw [y5];rfl,z5⟩
  | 6,_=>exact ⟨by rw [y6];rfl,z6⟩
  | 7,_=>exact ⟨by rw [y7];rfl,z7⟩
 clear y0 y1 y2 y3 y4 y5 y6 y7 z0 z1 z2 z3 z4 z5 z6 z7
 have hone8 : (#[.int .i64 op, .int .i64 xk, .int .i64 xn, .string xs2, .string xs, .string nmv, .int .i64 n8, .slice ao8 k8 c8] :Array Value).all (·.oneCell') =true :=by simp [Value.oneCell']
 have bLw :=upd (upd (upd (upd (upd (upd (upd (upd bL4 9 (.int .i64 op)) 10 (.int .i64 xk)) 11 (.int .i64 xn)) 12 (.string xs2)) 13 (.string xs)) 14 (.string nmv)) 15 (.int .i64 n8)) 16 (.slice ao8 k8 c8)
 simp only [List.setIfInBounds_toArray,List.set_cons_succ,List.set_cons_zero] at bLw
 have bRw : (v4.setCells L 9 [.int .i64 op, .int .i64 xk, .int .i64 xn, .string xs2, .string xs, .string nmv, .int .i64 n8, .slice ao8 k8 c8]).heap[w.heap.size]? =some (.cells Ah 39) :=Eu bR4 hRL _ _ _ _ _ _ _ _
 have butw :But a w (v4.setCells L 9 [.int .i64 op, .int .i64 xk, .int .i64 xn, .string xs2, .string xs, .string nmv, .int .i64 n8, .slice ao8 k8 c8]) :=but4.set8m (by omega) _ _ _ _ _ _ _ _
 have rdw :Rd (v4.setCells L 9 [.int .i64 op, .int .i64 xk, .int .i64 xn, .string xs2, .string xs, .string nmv, .int .i64 n8, .slice ao8 k8 c8]) a s4 0 :=rd4.set8m neL _ _ _ _ _ _ _ _
 have kw :Keeps (Fr (L+1)) v4 (v4.setCells L 9 [.int .i64 op, .int .i64 xk, .int .i64 xn, .string xs2, .string xs, .string nmv, .int .i64 n8, .slice ao8 k8 c8]) := (Keeps.refl _ _).set8m (show ¬L+1≤L by omega) _ _ _ _ _ _ _ _
 have hSt_3 :=hSt_2.keep kw
 have hE_4 :=IsE.keep kw _ _ hE1
 have szw : (v4.setCells L 9 [.int .i64 op, .int .i64 xk, .int .i64 xn, .string xs2, .string xs, .string nmv, .int .i64 n8, .slice ao8 k8 c8]).heap.size=v4.heap.size :=by simp [World.setCells,World.setCell]
 simp only []
 go_step
 go_step
 go_step
 go_step
 refine wpList_store_mid rfl 37 _ _ rfl L 9 #[.int .i64 op, .int .i64 xk, .int .i64 xn, .string xs2, .string xs, .string nmv, .int .i64 n8, .slice ao8 k8 c8] rfl rfl hth Fd hone8 ?_
 go_step
 go_step
 go_step
 have hone2 : (#[.int .i64 6, .string noW, .string n1, .string noW, .slice none 0 0, .slice none 0 0, .slice ao3 hStl.length cp3, .slice none 0 0, .slice none 0 0, .int .i64 op, .int .i64 xk, .int .i64 xn, .string xs2, .string xs, .string nmv, .int .i64 n8, .slice ao8 k8 c8, .slice none 0 0, .bool false, .int .i64 (-1)] :Array Value).all (·.oneCell') =true :=Cy (Al _ _ _) (Al _ _ _) (Al _ _ _) (Al _ _ _) (Al _ _ _) (Al _ _ _) (Al _ _ _)
 go_wp2_with (first
  | refine wpList_load_row rfl 39 _ rfl L rfl 39 _ _ _ bLw Tryz.underlying39 rfl Af ?_
  | refine wpList_store_row rfl 39 _ _ rfl w.heap.size #[.int .i64 6, .string noW, .string n1, .string noW, .slice none 0 0, .slice none 0 0, .slice ao3 hStl.length cp3, .slice none 0 0, .slice none 0 0, .int .i64 op, .int .i64 xk, .int .i64 xn, .string xs2, .string xs, .string nmv, .int .i64 n8, .slice ao8 k8 c8, .slice none 0 0, .bool false, .int .i64 (-1)] rfl rfl 39 Ah bRw Af rfl hone2 ?_)
 refine bodyPost_ret (v := .agg #[.int .i64 6, .string noW, .string n1, .string noW, .slice none 0 0, .slice none 0 0, .slice ao3 hStl.length cp3, .slice none 0 0, .slice none 0 0, .int .i64 op, .int .i64 xk, .int .i64 xn, .string xs2, .string xs, .string nmv, .int .i64 n8, .slice ao8 k8 c8, .slice none 0 0, .bool false, .int .i64 (-1)]) (results_cell_row Tryz.results52 _ _ w.heap.size 39 _ _ _ rfl (Am bRw) Tryz.underlying39 rfl Af) rfl ⟨(#[.int .i64 6, .string noW, .string n1, .string noW, .slice none 0 0, .slice none 0 0, .slice ao3 hStl.length cp3, .slice none 0 0, .slice none 0 0, .int .i64 op, .int .i64 xk, .int .i64 xn, .string xs2, .string xs, .string nmv, .int .i64 n8, .slice ao8 k8 c8, .slice none 0 0, .bool false, .int .i64 (-1)] :Array Value).toList,rfl, ?_, ?_, ?_⟩
 ·have kz :Keeps (Fr (L+1)) (v4.setCells L 9 [.int .i64 op, .int .i64 xk, .int .i64 xn, .string xs2, .string xs, .string nmv, .int .i64 n8, .slice ao8 k8 c8]) ((v4.setCells L 9 [.int .i64 op, .int .i64 xk, .int .i64 xn, .string xs2, .string xs, .string nmv, .int .i64 n8, .slice ao8 k8 c8]).setRow w.heap.size #[.int .i64 6, .string noW, .string n1, .string noW, .slice none 0 0, .slice none 0 0, .slice ao3 hStl.length cp3, .slice none 0 0, .slice none 0 0, .int .i64 op, .int .i64 xk, .int .i64 xn, .string xs2, .string xs, .string nmv, .int .i64 n8, .slice ao8 k8 c8, .slice none 0 0, .bool false, .int .i64 (-1)]) := (Keeps.refl _ _).row (show ¬L+1≤w.heap.size by omega) _
  exact Fq.mono (F :=Fr (L+1)) (fun k _ hk=>by have :L+1≤k :=hk;show w.heap.size≤k;omega) (D8 (IsL.nil _ _ _) (IsL.nil _ _ _) (hSt_3.keep kz) (IsL.nil _ _ _) (IsL.nil _ _ _) (IsE.keep kz _ _ hE_4) (IsL.nil _ _ _))
 ·exact rdw.row neR _
 ·exact butw.row (Nat.le_refl _) _
end Go.Proofs.YtifjaegfpdjikaaGreatDoor

