/-
  5 texts of this proof in one, in build order: SAtom2, STest, STest2, Elems, SElem.
-/
import Derived.Test.YtifjaegfpdjikaaGreatDoorRows
import Derived.Maps.AppendAt
import Derived.OwnWalk
import Derived.Laws.Rows
import Derived.Laws.Tables
import Derived.Test.YtifjaegfpdjikaaGreatDoorJ02
import Derived.Test.YtifjaegfpdjikaaGreatDoorJ06
import Derived.Test.YtifjaegfpdjikaaGreatDoorJ08
set_option linter.unusedSimpArgs false
set_option linter.unusedVariables false
namespace Go.Proofs.YtifjaegfpdjikaaGreatDoor
open Go.RowKit
set_option maxHeartbeats 4000000 in
theorem Zm (a :Nat) (s :St) (d :Int) (w :World) (h :Rd w a s d) (hx : (Ag As s).1=false) (hy : (Ag Be s).1=true) :
  Calls Tryz.prog 124 #[.pointer (some ⟨a,0,none⟩)] w fun e w'=> ∃v,e= .returned v∧IsE (Fr w.heap.size) w' (D5 zero) v∧Rd w' a (Ag Be s).2 d∧But a w w' :=by
 generalize hW :w.alloc (.cells Ap 37) =W
 have HW :Hid _ :=hW
 have hb0 :Below w.heap.size w W :=by rw [←hW];exact (Below.refl _ _).alloc (Nat.le_refl _) _
 have b0 :W.heap[w.heap.size]? =some (.cells Ap 37) :=by rw [←hW];exact Ad w _
 have hWs :W.heap.size=w.heap.size+1 :=by rw [←hW,World.size_alloc]
 clear hW
 have hla :=h.lt
 have ne0 :w.heap.size≠a :=by omega
 have SK1 :=Ba a As s d W (h.below hb0) (by decide) hx
 have SKF :=fun w1 (h1 :Rd w1 a s d) =>Du a Be s d w1 h1 (by decide) hy
 generalize (Ag Be s).2=s2 at SKF⊢
 clear hx hy
 go_enter Tryz.func124,Tryz.ntmps124
 go_wp2_with fail
 rw [HW.out]
 go_wp2_with (first
  | (go_at_call 47;go_fit SK1;rintro e w1 ⟨rfl,hr1,hb1⟩;have b1 :=Ac hb1 b0 ne0;have SK2 :=SKF w1 hr1)
  | (go_at_call 47;go_fit SK2;rintro e w2 ⟨rfl,hr2,hb2⟩;have b2 :=Ac hb2 b1 ne0;have LT :=Oo 0 0 noW w2)
  | (go_at_call 129;go_must (go_fit LT;rintro e w3 ⟨rfl,hb3⟩;have b3 := (hb3.block _ (lt_of_block b2)).trans b2;obtain ⟨⟨q0,q1,q2,q3,q4,q5,q6,q7⟩,f0,f1,f2,f3,f4,f5,f6,f7⟩ :=Ca b3)))
 refine bodyPost_ret (v := .agg #[.int .i64 1, .int .i64 0, .int .i64 0, .string noW, .string noW, .string noW, .int .i64 0, .slice none 0 0]) (by simp [results,Tryz.results124,go_sem,q0,q1,q2,q3,q4,q5,q6,q7]) rfl ⟨_,rfl, ?_, ?_, ?_⟩
 ·exact Lb _ _ zero
 ·exact (hr2.below hb3).set8 ne0 _ _ _ _ _ _ _ _
 ·exact ((((But.of_below hb0).trans hb1).trans hb2).trans (.of_below hb3)).set8 (Nat.le_refl _) _ _ _ _ _ _ _ _
set_option maxHeartbeats 4000000 in
theorem Aaw (a :Nat) (s :St) (d :Int) (w :World) (h :Rd w a s d) (he :Env w) (ha :16≤a) (hx : (Ag As s).1=false) (hy : (Ag Be s).1=false) (hz : (Ag Bd s).1=true) :
  Calls Tryz.prog 124 #[.pointer (some ⟨a,0,none⟩)] w fun e w'=> ∃v,e= .returned v∧IsE (Fr w.heap.size) w' (D5 ⟨1, -(B6 (Ag Bd s).2).1,noW⟩) v∧Rd w' a (B6 (Ag Bd s).2).2 d∧But a w w' :=by
 generalize hW :w.alloc (.cells Ap 37) =W
 have HW :Hid _ :=hW
 have hb0 :Below w.heap.size w W :=by rw [←hW];exact (Below.refl _ _).alloc (Nat.le_refl _) _
 have b0 :W.heap[w.heap.size]? =some (.cells Ap 37) :=by rw [←hW];exact Ad w _
 have hWs :W.heap.size=w.heap.size+1 :=by rw [←hW,World.size_alloc]
 clear hW
 have hla :=h.lt
 have ne0 :w.heap.size≠a :=by omega
 have SK1 :=Ba a As s d W (h.below hb0) (by decide) hx
 have SKF :=fun w1 (h1 :Rd w1 a s d) =>Ba a Be s d w1 h1 (by decide) hy
 have SKG :=fun w1 (h1 :Rd w1 a s d) =>Du a Bd s d w1 h1 (by decide) hz
 generalize (Ag Bd s).2=s2 at SKG⊢
 have NF :=fun w1 (h1 :Rd w1 a s2 d) (e1 :Env w1) =>M0 a s2 d w1 h1 e1
 obtain ⟨nb0,nb1⟩ :=S9 s2
 generalize B6 s2=q at NF nb0 nb1⊢
 obtain ⟨n1,s3⟩ :=q
 simp only at NF nb0 nb1⊢
 clear hx hy hz
 go_enter Tryz.func124,Tryz.ntmps124
 go_wp2_with fail
 rw [HW.out]
 go_wp2_with (first
  | (go_at_call 47;go_fit SK1;rintro e w1 ⟨rfl,hr1,hb1⟩;have b1 :=Ac hb1 b0 ne0;have SK2 :=SKF w1 hr1)
  | (go_at_call 47;go_fit SK2;rintro e w2 ⟨rfl,hr2,hb2⟩;have b2 :=Ac hb2 b1 ne0;have SK3 :=SKG w2 hr2)
  | (go_at_call 47;go_fit SK3;rintro e w3 ⟨rfl,hr3,hb3⟩;have b3 :=Ac hb3 b2 ne0;have NU :=NF w3 hr3 (he.but ((((But.of_below hb0).trans hb1).trans hb2).trans hb3) ha))
  | (go_at_call 82;go_must (go_fit NU;rintro e w4 ⟨rfl,hr4,hb4⟩;have b4 :=Ac hb4 b3 ne0;have LT :=Oo 1 (-n1) noW w4))
  | (go_at_call 129;go_must (go_fit LT;rintro e w5 ⟨rfl,hb5⟩;have b5 := (hb5.block _ (lt_of_block b4)).trans b4;obtain ⟨⟨q0,q1,q2,q3,q4,q5,q6,q7⟩,f0,f1,f2,f3,f4,f5,f6,f7⟩ :=Ca b5)))
 refine bodyPost_ret (v := .agg #[.int .i64 1, .int .i64 1, .int .i64 (-n1), .string noW, .string noW, .string noW, .int .i64 0, .slice none 0 0]) (by simp [results,Tryz.results124,go_sem,q0,q1,q2,q3,q4,q5,q6,q7]) rfl ⟨_,rfl, ?_, ?_, ?_⟩
 ·exact Lb _ _ ⟨1, -n1,noW⟩
 ·exact (hr4.below hb5).set8 ne0 _ _ _ _ _ _ _ _
 ·exact ((((((But.of_below hb0).trans hb1).trans hb2).trans hb3).trans hb4).trans (.of_below hb5)).set8 (Nat.le_refl _) _ _ _ _ _ _ _ _
set_option maxHeartbeats 4000000 in
theorem Aax (a :Nat) (s :St) (d :Int) (w :World) (h :Rd w a s d) (he :Env w) (ha :16≤a) (hx : (Ag As s).1=false) (hy : (Ag Be s).1=false) (hz : (Ag Bd s).1=false) (hd :D2 A3 s=true) :
  Calls Tryz.prog 124 #[.pointer (some ⟨a,0,none⟩)] w fun e w'=> ∃v,e= .returned v∧IsE (Fr w.heap.size) w' (D5 ⟨1,(B6 s).1,noW⟩) v∧Rd w' a (B6 s).2 d∧But a w w' :=by
 generalize hW :w.alloc (.cells Ap 37) =W
 have HW :Hid _ :=hW
 have hb0 :Below w.heap.size w W :=by rw [←hW];exact (Below.refl _ _).alloc (Nat.le_refl _) _
 have b0 :W.heap[w.heap.size]? =some (.cells Ap 37) :=by rw [←hW];exact Ad w _
 have hWs :W.heap.size=w.heap.size+1 :=by rw [←hW,World.size_alloc]
 clear hW
 have hla :=h.lt
 have ne0 :w.heap.size≠a :=by omega
 have SK1 :=Ba a As s d W (h.below hb0) (by decide) hx
 have SKF :=fun w1 (h1 :Rd w1 a s d) =>Ba a Be s d w1 h1 (by decide) hy
 have SKG :=fun w1 (h1 :Rd w1 a s d) =>Ba a Bd s d w1 h1 (by decide) hz
 have BD :=fun w1 (h1 :Rd w1 a s d) =>Lp a s d w1 h1
 rw [hd] at BD
 have NF :=fun w1 (h1 :Rd w1 a s d) (e1 :Env w1) =>M0 a s d w1 h1 e1
 generalize B6 s=q at NF⊢
 obtain ⟨n1,s3⟩ :=q
 simp only at NF⊢
 clear hx hy hz hd
 go_enter Tryz.func124,Tryz.ntmps124
 go_wp2_with fail
 rw [HW.out]
 go_wp2_with (first
  | (go_at_call 47;go_fit SK1;rintro e w1 ⟨rfl,hr1,hb1⟩;have b1 :=Ac hb1 b0 ne0;have SK2 :=SKF w1 hr1)
  | (go_at_call 47;go_fit SK2;rintro e w2 ⟨rfl,hr2,hb2⟩;have b2 :=Ac hb2 b1 ne0;have SK3 :=SKG w2 hr2)
  | (go_at_call 47;go_fit SK3;rintro e w3 ⟨rfl,hr3,hb3⟩;have b3 :=Ac hb3 b2 ne0;have NU :=NF w3 hr3 (he.but ((((But.of_below hb0).trans hb1).trans hb2).trans hb3) ha);have B3 :=BD w3 hr3)
  | (go_at_call 130;go_must (go_fit B3;rintro e w3 ⟨rfl,rfl⟩))
  | (go_at_call 82;go_must (go_fit NU;rintro e w4 ⟨rfl,hr4,hb4⟩;have b4 :=Ac hb4 b3 ne0;have LT :=Oo 1 n1 noW w4))
  | (go_at_call 129;go_must (go_fit LT;rintro e w5 ⟨rfl,hb5⟩;have b5 := (hb5.block _ (lt_of_block b4)).trans b4;obtain ⟨⟨q0,q1,q2,q3,q4,q5,q6,q7⟩,f0,f1,f2,f3,f4,f5,f6,f7⟩ :=Ca b5)))
 refine bodyPost_ret (v := .agg #[.int .i64 1, .int .i64 1, .int .i64 n1, .string noW, .string noW, .string noW, .int .i64 0, .slice none 0 0]) (by simp [results,Tryz.results124,go_sem,q0,q1,q2,q3,q4,q5,q6,q7]) rfl ⟨_,rfl, ?_, ?_, ?_⟩
 ·exact Lb _ _ ⟨1,n1,noW⟩
 ·exact (hr4.below hb5).set8 ne0 _ _ _ _ _ _ _ _
 ·exact ((((((But.of_below hb0).trans hb1).trans hb2).trans hb3).trans hb4).trans (.of_below hb5)).set8 (Nat.le_refl _) _ _ _ _ _ _ _ _
set_option maxHeartbeats 4000000 in
theorem Zn (a :Nat) (s :St) (d :Int) (w :World) (h :Rd w a s d) (hx : (Ag As s).1=false) (hy : (Ag Be s).1=false) (hz : (Ag Bd s).1=false) (hd :D2 A3 s=false) (hq :D2 Bp s=true) :
  Calls Tryz.prog 124 #[.pointer (some ⟨a,0,none⟩)] w fun e w'=> ∃v,e= .returned v∧IsE (Fr w.heap.size) w' (D5 (Hk s).1) v∧Rd w' a (Hk s).2 d∧But a w w' :=by
 generalize hW :w.alloc (.cells Ap 37) =W
 have HW :Hid _ :=hW
 have hb0 :Below w.heap.size w W :=by rw [←hW];exact (Below.refl _ _).alloc (Nat.le_refl _) _
 have b0 :W.heap[w.heap.size]? =some (.cells Ap 37) :=by rw [←hW];exact Ad w _
 have hWs :W.heap.size=w.heap.size+1 :=by rw [←hW,World.size_alloc]
 clear hW
 have hla :=h.lt
 have ne0 :w.heap.size≠a :=by omega
 have SK1 :=Ba a As s d W (h.below hb0) (by decide) hx
 have SKF :=fun w1 (h1 :Rd w1 a s d) =>Ba a Be s d w1 h1 (by decide) hy
 have SKG :=fun w1 (h1 :Rd w1 a s d) =>Ba a Bd s d w1 h1 (by decide) hz
 have BD :=fun w1 (h1 :Rd w1 a s d) =>Lp a s d w1 h1
 rw [hd] at BD
 have BQ :=fun w1 (h1 :Rd w1 a s d) =>N9 a s d w1 h1
 rw [hq] at BQ
 have TF :=fun w1 (h1 :Rd w1 a s d) =>Aav a s d w1 h1 hq
 generalize Hk s=q at TF⊢
 obtain ⟨⟨vk,vn,vs⟩,s3⟩ :=q
 simp only at TF⊢
 clear hx hy hz hd hq
 go_enter Tryz.func124,Tryz.ntmps124
 go_wp2_with fail
 rw [HW.out]
 go_wp2_with (first
  | (go_at_call 47;go_fit SK1;rintro e w1 ⟨rfl,hr1,hb1⟩;have b1 :=Ac hb1 b0 ne0;have SK2 :=SKF w1 hr1)
  | (go_at_call 47;go_fit SK2;rintro e w2 ⟨rfl,hr2,hb2⟩;have b2 :=Ac hb2 b1 ne0;have SK3 :=SKG w2 hr2)
  | (go_at_call 47;go_fit SK3;rintro e w3 ⟨rfl,hr3,hb3⟩;have b3 :=Ac hb3 b2 ne0;have TX :=TF w3 hr3;have B3 :=BD w3 hr3;have B4 :=BQ w3 hr3)
  | (go_at_call 130;go_fit B3;rintro e w3 ⟨rfl,rfl⟩)
  | (go_at_call 130;go_fit B4;rintro e w3 ⟨rfl,rfl⟩)
  | (go_at_call 132;go_must (go_fit TX;rintro e w4 ⟨rfl,hr4,hb4⟩;have b4 :=Ac hb4 b3 ne0;have LT :=Oo vk vn vs w4))
  | (go_at_call 129;go_must (go_fit LT;rintro e w5 ⟨rfl,hb5⟩;have b5 := (hb5.block _ (lt_of_block b4)).trans b4;obtain ⟨⟨q0,q1,q2,q3,q4,q5,q6,q7⟩,f0,f1,f2,f3,f4,f5,f6,f7⟩ :=Ca b5)))
 refine bodyPost_ret (v := .agg #[.int .i64 1, .int .i64 vk, .int .i64 vn, .string vs, .string noW, .string noW, .int .i64 0, .slice none 0 0]) (by simp [results,Tryz.results124,go_sem,q0,q1,q2,q3,q4,q5,q6,q7]) rfl ⟨_,rfl, ?_, ?_, ?_⟩
 ·exact Lb _ _ ⟨vk,vn,vs⟩
 ·exact (hr4.below hb5).set8 ne0 _ _ _ _ _ _ _ _
 ·exact ((((((But.of_below hb0).trans hb1).trans hb2).trans hb3).trans hb4).trans (.of_below hb5)).set8 (Nat.le_refl _) _ _ _ _ _ _ _ _
set_option maxHeartbeats 4000000 in
theorem Aay (a :Nat) (s :St) (d :Int) (w :World) (h :Rd w a s d) (he :Env w) (ha :16≤a) (hx : (Ag As s).1=false) (hy : (Ag Be s).1=false) (hz : (Ag Bd s).1=false) (hd :D2 A3 s=false) (hq :D2 Bp s=false) :
  Calls Tryz.prog 124 #[.pointer (some ⟨a,0,none⟩)] w fun e w'=> ∃v,e= .returned v∧IsE (Fr w.heap.size) w' (Le s).1 v∧Rd w' a (Le s).2 d∧But a w w' :=by
 generalize hW :w.alloc (.cells Ap 37) =W
 have HW :Hid _ :=hW
 have hb0 :Below w.heap.size w W :=by rw [←hW];exact (Below.refl _ _).alloc (Nat.le_refl _) _
 have b0 :W.heap[w.heap.size]? =some (.cells Ap 37) :=by rw [←hW];exact Ad w _
 have hWs :W.heap.size=w.heap.size+1 :=by rw [←hW,World.size_alloc]
 clear hW
 have hla :=h.lt
 have ne0 :w.heap.size≠a :=by omega
 have SK1 :=Ba a As s d W (h.below hb0) (by decide) hx
 have SKF :=fun w1 (h1 :Rd w1 a s d) =>Ba a Be s d w1 h1 (by decide) hy
 have SKG :=fun w1 (h1 :Rd w1 a s d) =>Ba a Bd s d w1 h1 (by decide) hz
 have BD :=fun w1 (h1 :Rd w1 a s d) =>Lp a s d w1 h1
 rw [hd] at BD
 have BQ :=fun w1 (h1 :Rd w1 a s d) =>N9 a s d w1 h1
 rw [hq] at BQ
 have RF :=fun w1 (h1 :Rd w1 a s d) (e1 :Env w1) =>Ab2 d a s w1 h1 e1 ha
 generalize Le s=q at RF⊢
 obtain ⟨E1,s3⟩ :=q
 simp only at RF⊢
 clear hx hy hz hd hq
 go_enter Tryz.func124,Tryz.ntmps124
 go_wp2_with fail
 rw [HW.out]
 go_wp2_with (first
  | (go_at_call 47;go_fit SK1;rintro e w1 ⟨rfl,hr1,hb1⟩;have b1 :=Ac hb1 b0 ne0;have SK2 :=SKF w1 hr1)
  | (go_at_call 47;go_fit SK2;rintro e w2 ⟨rfl,hr2,hb2⟩;have b2 :=Ac hb2 b1 ne0;have SK3 :=SKG w2 hr2)
  | (go_at_call 47;go_fit SK3;rintro e w3 ⟨rfl,hr3,hb3⟩;have b3 :=Ac hb3 b2 ne0;have RX :=RF w3 hr3 (he.but ((((But.of_below hb0).trans hb1).trans hb2).trans hb3) ha);have B3 :=BD w3 hr3;have B4 :=BQ w3 hr3)
  | (go_at_call 130;go_fit B3;rintro e w3 ⟨rfl,rfl⟩)
  | (go_at_call 130;go_fit B4;rintro e w3 ⟨rfl,rfl⟩)
  | (go_at_call 133;go_must (go_fit RX;rintro e w4 ⟨v,rfl,hE,hr4,hb4⟩;have b4 :=Ac hb4 b3 ne0;obtain ⟨⟨q0,q1,q2,q3,q4,q5,q6,q7⟩,f0,f1,f2,f3,f4,f5,f6,f7⟩ :=Ca b4;obtain ⟨op,x,xs,nmv,n,ao,k,c,rfl⟩ :=hE.shape;obtain ⟨xk,xn,xs2⟩ :=x)))
 refine bodyPost_ret (v := .agg #[.int .i64 op, .int .i64 xk, .int .i64 xn, .string xs2, .string xs, .string nmv, .int .i64 n, .slice ao k c]) (by simp [results,Tryz.results124,go_sem,q0,q1,q2,q3,q4,q5,q6,q7]) rfl ⟨_,rfl, ?_, ?_, ?_⟩
 ·have h1 :=hb1.size
  have h2 :=hb2.size
  have h3 :=hb3.size
  exact IsE.mono (fun k _ hk=>by have :w3.heap.size≤k :=hk;show w.heap.size≤k;omega) _ _ (IsE.keep ((Keeps.refl _ _).set8 (show ¬w3.heap.size≤w.heap.size by omega) _ _ _ _ _ _ _ _) _ _ hE)
 ·exact hr4.set8 ne0 _ _ _ _ _ _ _ _
 ·exact (((((But.of_below hb0).trans hb1).trans hb2).trans hb3).trans hb4).set8 (Nat.le_refl _) _ _ _ _ _ _ _ _
theorem Aaz (sub :St→E×St) (d :Int) (hp :Kd 80 sub d) :De 124 (En sub) d :=by
 intro a s w h he ha
 cases hx : (Ag As s).1
 ·cases hy : (Ag Be s).1
  ·cases hz : (Ag Bd s).1
   ·cases hd :D2 A3 s
    ·cases hq :D2 Bp s
     ·have e :En sub s=Le s :=by simp only [En,hx,hy,hz,hd,hq,Bool.false_eq_true,if_false]
      rw [e]
      exact Aay a s d w h he ha hx hy hz hd hq
     ·have e :En sub s= (D5 (Hk s).1,(Hk s).2) :=by simp only [En,hx,hy,hz,hd,hq,Bool.false_eq_true,if_false,if_true]
      rw [e]
      exact Zn a s d w h hx hy hz hd hq
    ·have e :En sub s= (D5 ⟨1,(B6 s).1,noW⟩,(B6 s).2) :=by simp only [En,hx,hy,hz,hd,Bool.false_eq_true,if_false,if_true]
     rw [e]
     exact Aax a s d w h he ha hx hy hz hd
   ·have e :En sub s= (D5 ⟨1, -(B6 (Ag Bd s).2).1,noW⟩,(B6 (Ag Bd s).2).2) :=by simp only [En,hx,hy,hz,Bool.false_eq_true,if_false,if_true]
    rw [e]
    exact Aaw a s d w h he ha hx hy hz
  ·have e :En sub s= (D5 zero,(Ag Be s).2) :=by simp only [En,hx,hy,Bool.false_eq_true,if_false,if_true]
   rw [e]
   exact Zm a s d w h hx hy
 ·have e :En sub s= ((sub (Ag As s).2).1,Ar Aq (sub (Ag As s).2).2) :=by simp only [En,hx,if_true]
  rw [e]
  exact Ab4 sub d hp a s w h he ha hx
end Go.Proofs.YtifjaegfpdjikaaGreatDoor

namespace Go.Proofs.YtifjaegfpdjikaaGreatDoor
open Go.RowKit
set_option maxHeartbeats 4000000 in
theorem Aa0 (subT :St→E×St) (d :Int) (hp :Kd 111 subT d) (a :Nat) (s :St) (w :World) (h :Rd w a s d) (he :Env w) (ha :16≤a) (hx : (Ag Ec s).1=true) :
  Calls Tryz.prog 111 #[.pointer (some ⟨a,0,none⟩)] w fun e w'=> ∃v,e= .returned v∧IsE (Fr w.heap.size) w' (Cd 9 [(subT (Ag Ec s).2).1]) v∧Rd w' a ((subT (Ag Ec s).2).2) d∧But a w w' :=by
 generalize hW :w.alloc (.cells Ap 37) =W
 have HW :Hid _ :=hW
 have hb0 :Below w.heap.size w W :=by rw [←hW];exact (Below.refl _ _).alloc (Nat.le_refl _) _
 have b0 :W.heap[w.heap.size]? =some (.cells Ap 37) :=by rw [←hW];exact Ad w _
 have hWs :W.heap.size=w.heap.size+1 :=by rw [←hW,World.size_alloc]
 clear hW
 have hla :=h.lt
 have ne0 :w.heap.size≠a :=by omega
 have SK1 :=Du a Ec s d W (h.below hb0) (by decide) hx
 generalize (Ag Ec s).2=s1 at SK1⊢
 have DP :=fun w1 (h1 :Rd w1 a s1 d) (e1 :Env w1) =>hp a s1 w1 h1 e1 ha
 generalize subT s1=q at DP⊢
 obtain ⟨E1,s2⟩ :=q
 simp only at DP⊢
 clear hx
 go_enter Tryz.func111,Tryz.ntmps111
 go_wp2_with fail
 rw [HW.out]
 go_wp2_with (first
  | (go_at_call 47;go_must (go_fit SK1;rintro e w1 ⟨rfl,hr1,hb1⟩;have DP1 :=DP w1 hr1 (he.but ((But.of_below hb0).trans hb1) ha);have b1 :=Ac hb1 b0 ne0))
  | (go_at_call 115;go_must (go_fit DP1;rintro e w2 ⟨v,rfl,hE,hr2,hb2⟩;have b2 :=Ac hb2 b1 ne0;obtain ⟨op,x,xs,nmv,n,ao,k,c,rfl⟩ :=hE.shape;obtain ⟨xk,xn,xs2⟩ :=x;have ND :=J0 9 (some ⟨w2.heap.size,0,none⟩) 1 1 (w2.alloc (.cells #[.int .i64 op, .int .i64 xk, .int .i64 xn, .string xs2, .string xs, .string nmv, .int .i64 n, .slice ao k c] 37))))
  | (go_at_call 110;go_must (go_fit ND;rintro e w3 ⟨rfl,hb3⟩;have b3 := (hb3.block _ (lt_of_block (Ae b2 _))).trans (Ae b2 _);obtain ⟨⟨q0,q1,q2,q3,q4,q5,q6,q7⟩,f0,f1,f2,f3,f4,f5,f6,f7⟩ :=Ca b3)))
 refine bodyPost_ret (v := .agg #[.int .i64 9, .int .i64 zero.k, .int .i64 zero.n, .string zero.s, .string noW, .string noW, .int .i64 0, .slice (some ⟨w2.heap.size,0,none⟩) 1 1]) (by simp [results,Tryz.results111,go_sem,q0,q1,q2,q3,q4,q5,q6,q7]) rfl ⟨_,rfl, ?_, ?_, ?_⟩
 ·have h1 :=hb1.size
  have h2 :=hb2.size
  have g1 :IsE (Fr (w.heap.size+1)) w2 E1 (.agg (A2 op ⟨xk,xn,xs2⟩ xs nmv n (.slice ao k c))) :=IsE.mono (fun k _ hk=>by have :w1.heap.size≤k :=hk;show w.heap.size+1≤k;omega) _ _ hE
  have g2 :=G4 g1 (show w.heap.size+1≤w2.heap.size by omega)
  exact IsE.mono (fun k _ hk=>by have :w.heap.size+1≤k :=hk;show w.heap.size≤k;omega) _ _ (IsE.keep ((Bb hb3).set8 (show ¬w.heap.size+1≤w.heap.size by omega) _ _ _ _ _ _ _ _) _ _ (Ha (op :=9) (x :=zero) (s :=noW) (name :=noW) (n :=0) g2))
 ·exact ((hr2.below ((Below.refl _ _).alloc (Nat.le_refl _) _)).below hb3).set8 ne0 _ _ _ _ _ _ _ _
 ·exact (((((But.of_below hb0).trans hb1).trans hb2).alloc _).trans (.of_below hb3)).set8 (Nat.le_refl _) _ _ _ _ _ _ _ _
set_option maxHeartbeats 4000000 in
theorem Ab5 (sm :St→E×St) (d :Int) (hp :De 116 sm d) (a :Nat) (s :St) (w :World) (h :Rd w a s d) (he :Env w) (ha :16≤a) (hx : (Ag Ec s).1=false) (hy : (Ag kIs (sm s).2).1=true) :
  Calls Tryz.prog 111 #[.pointer (some ⟨a,0,none⟩)] w fun e w'=> ∃v,e= .returned v∧IsE (Fr w.heap.size) w' (Cd 10 [(sm s).1]) v∧Rd w' a (Ar Be (Ag kIs (sm s).2).2) d∧But a w w' :=by
 generalize hW :w.alloc (.cells Ap 37) =W
 have HW :Hid _ :=hW
 have hb0 :Below w.heap.size w W :=by rw [←hW];exact (Below.refl _ _).alloc (Nat.le_refl _) _
 have b0 :W.heap[w.heap.size]? =some (.cells Ap 37) :=by rw [←hW];exact Ad w _
 have hWs :W.heap.size=w.heap.size+1 :=by rw [←hW,World.size_alloc]
 clear hW
 have hla :=h.lt
 have ne0 :w.heap.size≠a :=by omega
 have SK1 :=Ba a Ec s d W (h.below hb0) (by decide) hx
 have SF :=fun w1 (h1 :Rd w1 a s d) (e1 :Env w1) =>hp a s w1 h1 e1 ha
 generalize sm s=q at SF hy⊢
 obtain ⟨E1,s1⟩ :=q
 simp only at SF hy⊢
 have SKF :=fun w1 (h1 :Rd w1 a s1 d) =>Du a kIs s1 d w1 h1 (by decide) hy
 generalize (Ag kIs s1).2=s2 at SKF⊢
 clear hx hy
 go_enter Tryz.func111,Tryz.ntmps111
 go_wp2_with fail
 rw [HW.out]
 go_wp2_with (first
  | (go_at_call 47;go_fit SK1;rintro e w1 ⟨rfl,hr1,hb1⟩;have SM :=SF w1 hr1 (he.but ((But.of_below hb0).trans hb1) ha);have b1 :=Ac hb1 b0 ne0)
  | (go_at_call 116;go_must (go_fit SM;rintro e w2 ⟨v,rfl,hE,hr2,hb2⟩;have b2 :=Ac hb2 b1 ne0;obtain ⟨op,x,xs,nmv,n,ao,k,c,rfl⟩ :=hE.shape;obtain ⟨xk,xn,xs2⟩ :=x;have hl2 :=hr2.lt;have SK2 :=SKF (w2.alloc (.cells #[.int .i64 op, .int .i64 xk, .int .i64 xn, .string xs2, .string xs, .string nmv, .int .i64 n, .slice ao k c] 37)) (hr2.below ((Below.refl _ _).alloc (Nat.le_refl _) _))))
  | (go_at_call 47;go_fit SK2;rintro e w3 ⟨rfl,hr3,hb3⟩;have b3 :=Ac hb3 (Ae b2 (.cells #[.int .i64 op, .int .i64 xk, .int .i64 xn, .string xs2, .string xs, .string nmv, .int .i64 n, .slice ao k c] 37)) ne0;have c3 :=Ac hb3 (Ad w2 (.cells #[.int .i64 op, .int .i64 xk, .int .i64 xn, .string xs2, .string xs, .string nmv, .int .i64 n, .slice ao k c] 37)) (show w2.heap.size≠a by omega);have hl3 :=hr3.lt;have WN :=Pv a w3.heap.size 1 Be s2 d (w3.alloc (.cells #[.string Be] 9)) (hr3.below ((Below.refl _ _).alloc (Nat.le_refl _) _)) (by decide) (by omega) (Aa (Ad w3 _) rfl))
  | (go_at_call 23;go_must (go_fit WN;rintro e w4 ⟨rfl,hr4,hb4⟩;have b4 :=Ac hb4 (Ae b3 (.cells #[.string Be] 9)) ne0;have c4 :=Ac hb4 (Ae c3 (.cells #[.string Be] 9)) (show w2.heap.size≠a by omega);obtain ⟨l0,l1,l2,l3,l4,l5,l6,l7⟩ :=Cq c4 rfl;have ND :=J0 10 (some ⟨w4.heap.size,0,none⟩) 1 1 (w4.alloc (.cells #[.int .i64 op, .int .i64 xk, .int .i64 xn, .string xs2, .string xs, .string nmv, .int .i64 n, .slice ao k c] 37))))
  | (go_at_call 110;go_must (go_fit ND;rintro e w5 ⟨rfl,hb5⟩;have b5 := (hb5.block _ (lt_of_block (Ae b4 _))).trans (Ae b4 _);obtain ⟨⟨q0,q1,q2,q3,q4,q5,q6,q7⟩,f0,f1,f2,f3,f4,f5,f6,f7⟩ :=Ca b5)))
 refine bodyPost_ret (v := .agg #[.int .i64 10, .int .i64 zero.k, .int .i64 zero.n, .string zero.s, .string noW, .string noW, .int .i64 0, .slice (some ⟨w4.heap.size,0,none⟩) 1 1]) (by simp [results,Tryz.results111,go_sem,q0,q1,q2,q3,q4,q5,q6,q7]) rfl ⟨_,rfl, ?_, ?_, ?_⟩
 ·have h1 :=hb1.size
  have h2 :=hb2.size
  have h3 :=hb3.size
  have h4 :=hb4.size
  rw [World.size_alloc] at h3 h4
  have nFa : ¬Fr (w.heap.size+1) a :=by show ¬w.heap.size+1≤a;omega
  have g1 :IsE (Fr (w.heap.size+1)) w2 E1 (.agg (A2 op ⟨xk,xn,xs2⟩ xs nmv n (.slice ao k c))) :=IsE.mono (fun k _ hk=>by have :w1.heap.size≤k :=hk;show w.heap.size+1≤k;omega) _ _ hE
  have g4 :IsE (Fr (w.heap.size+1)) w4 E1 (.agg (A2 op ⟨xk,xn,xs2⟩ xs nmv n (.slice ao k c))) :=IsE.keep (((((Keeps.refl _ _).alloc _).trans (hb3.keeps nFa)).alloc _).trans (hb4.keeps nFa)) _ _ g1
  have g2 :=G4 g4 (show w.heap.size+1≤w4.heap.size by omega)
  exact IsE.mono (fun k _ hk=>by have :w.heap.size+1≤k :=hk;show w.heap.size≤k;omega) _ _ (IsE.keep ((Bb hb5).set8 (show ¬w.heap.size+1≤w.heap.size by omega) _ _ _ _ _ _ _ _) _ _ (Ha (op :=10) (x :=zero) (s :=noW) (name :=noW) (n :=0) g2))
 ·exact ((hr4.below ((Below.refl _ _).alloc (Nat.le_refl _) _)).below hb5).set8 ne0 _ _ _ _ _ _ _ _
 ·exact (((((((((But.of_below hb0).trans hb1).trans hb2).alloc _).trans hb3).alloc _).trans hb4).alloc _).trans (.of_below hb5)).set8 (Nat.le_refl _) _ _ _ _ _ _ _ _
set_option maxHeartbeats 4000000 in
theorem Aa1 (sm :St→E×St) (d :Int) (hp :De 116 sm d) (a :Nat) (s :St) (w :World) (h :Rd w a s d) (he :Env w) (ha :16≤a) (hx : (Ag Ec s).1=false) (hy : (Ag kIs (sm s).2).1=false) (hz : (Ao Dq (sm s).2).1=0) :
  Calls Tryz.prog 111 #[.pointer (some ⟨a,0,none⟩)] w fun e w'=> ∃v,e= .returned v∧IsE (Fr w.heap.size) w' ((sm s).1) v∧Rd w' a ((Ao Dq (sm s).2).2) d∧But a w w' :=by
 generalize hW :w.alloc (.cells Ap 37) =W
 have HW :Hid _ :=hW
 have hb0 :Below w.heap.size w W :=by rw [←hW];exact (Below.refl _ _).alloc (Nat.le_refl _) _
 have b0 :W.heap[w.heap.size]? =some (.cells Ap 37) :=by rw [←hW];exact Ad w _
 have hWs :W.heap.size=w.heap.size+1 :=by rw [←hW,World.size_alloc]
 clear hW
 have hla :=h.lt
 have ne0 :w.heap.size≠a :=by omega
 have SK1 :=Ba a Ec s d W (h.below hb0) (by decide) hx
 have SF :=fun w1 (h1 :Rd w1 a s d) (e1 :Env w1) =>hp a s w1 h1 e1 ha
 generalize sm s=q at SF hy hz⊢
 obtain ⟨E1,s1⟩ :=q
 simp only at SF hy hz⊢
 have SKF :=fun w1 (h1 :Rd w1 a s1 d) =>Ba a kIs s1 d w1 h1 (by decide) hy
 have SOF :=fun b w1 (h1 :Rd w1 a s1 d) (hab :b≠a) (ho :Iq w1 b Dq) =>El a b 2 Dq s1 d w1 h1 (by decide) hab ho (by decide)
 generalize Ao Dq s1=q at SOF hz⊢
 obtain ⟨o1,s2⟩ :=q
 simp only [List.length_cons,List.length_nil,Nat.zero_add] at SOF hz⊢
 subst hz
 clear hx hy
 go_enter Tryz.func111,Tryz.ntmps111
 go_wp2_with fail
 rw [HW.out]
 go_wp2_with (first
  | (go_at_call 47;go_fit SK1;rintro e w1 ⟨rfl,hr1,hb1⟩;have SM :=SF w1 hr1 (he.but ((But.of_below hb0).trans hb1) ha);have b1 :=Ac hb1 b0 ne0)
  | (go_at_call 116;go_must (go_fit SM;rintro e w2 ⟨v,rfl,hE,hr2,hb2⟩;have b2 :=Ac hb2 b1 ne0;obtain ⟨op,x,xs,nmv,n,ao,k,c,rfl⟩ :=hE.shape;obtain ⟨xk,xn,xs2⟩ :=x;have hl2 :=hr2.lt;have SK2 :=SKF (w2.alloc (.cells #[.int .i64 op, .int .i64 xk, .int .i64 xn, .string xs2, .string xs, .string nmv, .int .i64 n, .slice ao k c] 37)) (hr2.below ((Below.refl _ _).alloc (Nat.le_refl _) _))))
  | (go_at_call 47;go_fit SK2;rintro e w3 ⟨rfl,hr3,hb3⟩;have b3 :=Ac hb3 (Ae b2 (.cells #[.int .i64 op, .int .i64 xk, .int .i64 xn, .string xs2, .string xs, .string nmv, .int .i64 n, .slice ao k c] 37)) ne0;have c3 :=Ac hb3 (Ad w2 (.cells #[.int .i64 op, .int .i64 xk, .int .i64 xn, .string xs2, .string xs, .string nmv, .int .i64 n, .slice ao k c] 37)) (show w2.heap.size≠a by omega);have hl3 :=hr3.lt;have SO :=SOF w3.heap.size (w3.alloc (.cells #[.string ⟨#[61]⟩, .int .i64 5, .string ⟨#[60]⟩, .int .i64 6] 123)) (hr3.below ((Below.refl _ _).alloc (Nat.le_refl _) _)) (by omega) (Ob (Ad w3 _)))
  | (go_at_call 109;go_must (go_fit SO;rintro e w4 ⟨rfl,hr4,hb4⟩;have b4 :=Ac hb4 (Ae b3 (.cells #[.string ⟨#[61]⟩, .int .i64 5, .string ⟨#[60]⟩, .int .i64 6] 123)) ne0;have c4 :=Ac hb4 (Ae c3 (.cells #[.string ⟨#[61]⟩, .int .i64 5, .string ⟨#[60]⟩, .int .i64 6] 123)) (show w2.heap.size≠a by omega);obtain ⟨l0,l1,l2,l3,l4,l5,l6,l7⟩ :=Cq c4 rfl;obtain ⟨⟨q0,q1,q2,q3,q4,q5,q6,q7⟩,f0,f1,f2,f3,f4,f5,f6,f7⟩ :=Ca b4)))
 refine bodyPost_ret (v := .agg #[.int .i64 op, .int .i64 xk, .int .i64 xn, .string xs2, .string xs, .string nmv, .int .i64 n, .slice ao k c]) (by simp [results,Tryz.results111,go_sem,q0,q1,q2,q3,q4,q5,q6,q7]) rfl ⟨_,rfl, ?_, ?_, ?_⟩
 ·have h1 :=hb1.size
  have nFa : ¬Fr (w.heap.size+1) a :=by show ¬w.heap.size+1≤a;omega
  have g1 :IsE (Fr (w.heap.size+1)) w2 E1 (.agg (A2 op ⟨xk,xn,xs2⟩ xs nmv n (.slice ao k c))) :=IsE.mono (fun k _ hk=>by have :w1.heap.size≤k :=hk;show w.heap.size+1≤k;omega) _ _ hE
  exact IsE.mono (fun k _ hk=>by have :w.heap.size+1≤k :=hk;show w.heap.size≤k;omega) _ _ (IsE.keep ((((((Keeps.refl _ _).alloc _).trans (hb3.keeps nFa)).alloc _).trans (hb4.keeps nFa)).set8 (show ¬w.heap.size+1≤w.heap.size by omega) _ _ _ _ _ _ _ _) _ _ g1)
 ·exact hr4.set8 ne0 _ _ _ _ _ _ _ _
 ·exact (((((((But.of_below hb0).trans hb1).trans hb2).alloc _).trans hb3).alloc _).trans hb4).set8 (Nat.le_refl _) _ _ _ _ _ _ _ _
end Go.Proofs.YtifjaegfpdjikaaGreatDoor

namespace Go.Proofs.YtifjaegfpdjikaaGreatDoor
open Go.RowKit
set_option maxHeartbeats 4000000 in
theorem Aa2 (sm :St→E×St) (d :Int) (hp :De 116 sm d) (a :Nat) (s :St) (w :World) (h :Rd w a s d) (he :Env w) (ha :16≤a) (hx : (Ag Ec s).1=false) (hy : (Ag kIs (sm s).2).1=false) (hz : (Ao Dq (sm s).2).1≠0) :
  Calls Tryz.prog 111 #[.pointer (some ⟨a,0,none⟩)] w fun e w'=> ∃v,e= .returned v∧IsE (Fr w.heap.size) w' (Cd (Ao Dq (sm s).2).1 [(sm s).1,(sm (Ao Dq (sm s).2).2).1]) v∧Rd w' a ((sm (Ao Dq (sm s).2).2).2) d∧But a w w' :=by
 generalize hW :w.alloc (.cells Ap 37) =W
 have HW :Hid _ :=hW
 have hb0 :Below w.heap.size w W :=by rw [←hW];exact (Below.refl _ _).alloc (Nat.le_refl _) _
 have b0 :W.heap[w.heap.size]? =some (.cells Ap 37) :=by rw [←hW];exact Ad w _
 have hWs :W.heap.size=w.heap.size+1 :=by rw [←hW,World.size_alloc]
 clear hW
 have hla :=h.lt
 have ne0 :w.heap.size≠a :=by omega
 have SK1 :=Ba a Ec s d W (h.below hb0) (by decide) hx
 have SF :=fun w1 (h1 :Rd w1 a s d) (e1 :Env w1) =>hp a s w1 h1 e1 ha
 generalize sm s=q at SF hy hz⊢
 obtain ⟨E1,s1⟩ :=q
 simp only at SF hy hz⊢
 have SKF :=fun w1 (h1 :Rd w1 a s1 d) =>Ba a kIs s1 d w1 h1 (by decide) hy
 have SOF :=fun b w1 (h1 :Rd w1 a s1 d) (hab :b≠a) (ho :Iq w1 b Dq) =>El a b 2 Dq s1 d w1 h1 (by decide) hab ho (by decide)
 generalize Ao Dq s1=q at SOF hz⊢
 obtain ⟨o1,s2⟩ :=q
 simp only [List.length_cons,List.length_nil,Nat.zero_add] at SOF hz⊢
 have hnz : (o1==0) =false :=beq_eq_false_iff_ne.2 hz
 have TF :=fun w1 (h1 :Rd w1 a s2 d) (e1 :Env w1) =>hp a s2 w1 h1 e1 ha
 generalize sm s2=q at TF⊢
 obtain ⟨E2,s3⟩ :=q
 simp only at TF⊢
 clear hz
 clear hx hy
 go_enter Tryz.func111,Tryz.ntmps111
 go_wp2_with fail
 rw [HW.out]
 go_wp2_with (first
  | (go_at_call 47;go_fit SK1;rintro e w1 ⟨rfl,hr1,hb1⟩;have SM :=SF w1 hr1 (he.but ((But.of_below hb0).trans hb1) ha);have b1 :=Ac hb1 b0 ne0)
  | (go_at_call 116;(go_fit SM;rintro e w2 ⟨v,rfl,hE,hr2,hb2⟩;have b2 :=Ac hb2 b1 ne0;obtain ⟨op,x,xs,nmv,n,ao,k,c,rfl⟩ :=hE.shape;obtain ⟨xk,xn,xs2⟩ :=x;have hl2 :=hr2.lt;have SK2 :=SKF (w2.alloc (.cells #[.int .i64 op, .int .i64 xk, .int .i64 xn, .string xs2, .string xs, .string nmv, .int .i64 n, .slice ao k c] 37)) (hr2.below ((Below.refl _ _).alloc (Nat.le_refl _) _))))
  | (go_at_call 47;go_fit SK2;rintro e w3 ⟨rfl,hr3,hb3⟩;have b3 :=Ac hb3 (Ae b2 (.cells #[.int .i64 op, .int .i64 xk, .int .i64 xn, .string xs2, .string xs, .string nmv, .int .i64 n, .slice ao k c] 37)) ne0;have c3 :=Ac hb3 (Ad w2 (.cells #[.int .i64 op, .int .i64 xk, .int .i64 xn, .string xs2, .string xs, .string nmv, .int .i64 n, .slice ao k c] 37)) (show w2.heap.size≠a by omega);have hl3 :=hr3.lt;have SO :=SOF w3.heap.size (w3.alloc (.cells #[.string ⟨#[61]⟩, .int .i64 5, .string ⟨#[60]⟩, .int .i64 6] 123)) (hr3.below ((Below.refl _ _).alloc (Nat.le_refl _) _)) (by omega) (Ob (Ad w3 _)))
  | (go_at_call 109;go_must (go_fit SO;rintro e w4 ⟨rfl,hr4,hb4⟩;have b4 :=Ac hb4 (Ae b3 (.cells #[.string ⟨#[61]⟩, .int .i64 5, .string ⟨#[60]⟩, .int .i64 6] 123)) ne0;have c4 :=Ac hb4 (Ae c3 (.cells #[.string ⟨#[61]⟩, .int .i64 5, .string ⟨#[60]⟩, .int .i64 6] 123)) (show w2.heap.size≠a by omega);obtain ⟨l0,l1,l2,l3,l4,l5,l6,l7⟩ :=Cq c4 rfl)))
 have hBB :But a w w4 := ((((((But.of_below hb0).trans hb1).trans hb2).alloc _).trans hb3).alloc _).trans hb4
 have TM :=TF w4.drew hr4.drew (he.but hBB.drew ha)
 have hl4 :=hr4.lt
 go_region_with (first
  | (go_at_call 116;go_must (go_fit TM;rintro e w5 ⟨v2,rfl,hE2,hr5,hb5⟩;have b5 :=Ac hb5 (w :=w4.drew) b4 ne0;have c5 :=Ac hb5 (w :=w4.drew) c4 (show w2.heap.size≠a by omega);obtain ⟨m0,m1,m2,m3,m4,m5,m6,m7⟩ :=Cq c5 rfl;obtain ⟨op2,x2,xs3,nm2,n2,ao2,k2,c2,rfl⟩ :=hE2.shape;obtain ⟨xk2,xn2,xs4⟩ :=x2))
  | (go_at_call 110;go_must (refine (J0 _ _ _ _ _).mono ?_;rintro e w6 ⟨rfl,hb6⟩;have b6 := (hb6.block _ (lt_of_block (Ae b5 _))).trans (Ae b5 _);obtain ⟨⟨q0,q1,q2,q3,q4,q5,q6,q7⟩,f0,f1,f2,f3,f4,f5,f6,f7⟩ :=Ca b6)))
 all_goals
  go_wp2_with fail
  refine bodyPost_ret (v := .agg #[.int .i64 o1, .int .i64 zero.k, .int .i64 zero.n, .string zero.s, .string noW, .string noW, .int .i64 0, .slice (some ⟨w5.heap.size,0,none⟩) 2 2]) (by simp [results,Tryz.results111,go_sem,q0,q1,q2,q3,q4,q5,q6,q7]) rfl ⟨_,rfl, ?_, ?_, ?_⟩
  ·have h1 :=hb1.size
   have h2 :=hb2.size
   have h3 :=hb3.size
   have h4 :=hb4.size
   have h5 :w4.heap.size≤w5.heap.size :=hb5.size
   rw [World.size_alloc] at h3 h4
   have nFa : ¬Fr (w.heap.size+1) a :=by show ¬w.heap.size+1≤a;omega
   have g1 :IsE (Fr (w.heap.size+1)) w2 E1 (.agg (A2 op ⟨xk,xn,xs2⟩ xs nmv n (.slice ao k c))) :=IsE.mono (fun k _ hk=>by have :w1.heap.size≤k :=hk;show w.heap.size+1≤k;omega) _ _ hE
   have g4 :IsE (Fr (w.heap.size+1)) w5 E1 (.agg (A2 op ⟨xk,xn,xs2⟩ xs nmv n (.slice ao k c))) :=IsE.keep ((((((Keeps.refl _ _).alloc _).trans (hb3.keeps nFa)).alloc _).trans (hb4.keeps nFa)).drew.trans (hb5.keeps nFa)) _ _ g1
   have g5 :IsE (Fr (w.heap.size+1)) w5 E2 (.agg (A2 op2 ⟨xk2,xn2,xs4⟩ xs3 nm2 n2 (.slice ao2 k2 c2))) :=IsE.mono (fun k _ hk=>by have :w4.heap.size≤k :=hk;show w.heap.size+1≤k;omega) _ _ hE2
   have g6 :=Jz g4 g5 (show w.heap.size+1≤w5.heap.size by omega)
   exact IsE.mono (fun k _ hk=>by have :w.heap.size+1≤k :=hk;show w.heap.size≤k;omega) _ _ (IsE.keep ((Bb hb6).set8 (show ¬w.heap.size+1≤w.heap.size by omega) _ _ _ _ _ _ _ _) _ _ (Ha (op :=o1) (x :=zero) (s :=noW) (name :=noW) (n :=0) g6))
  ·exact ((hr5.below ((Below.refl _ _).alloc (Nat.le_refl _) _)).below hb6).set8 ne0 _ _ _ _ _ _ _ _
  ·exact (((hBB.drew.trans hb5).alloc _).trans (.of_below hb6)).set8 (Nat.le_refl _) _ _ _ _ _ _ _ _
theorem Aa3 (sub subT :St→E×St) (d :Int) (hs :De 116 (Et sub) d) (hp :Kd 111 subT d) :De 111 (Fa sub subT) d :=by
 intro a s w h he ha
 cases hx : (Ag Ec s).1
 ·cases hy : (Ag kIs (Et sub s).2).1
  ·by_cases hz : (Ao Dq (Et sub s).2).1=0
   ·have e :Fa sub subT s= ((Et sub s).1,(Ao Dq (Et sub s).2).2) :=by simp only [Fa,hx,hy,Bool.false_eq_true,if_false,if_pos hz]
    rw [e]
    exact Aa1 (Et sub) d hs a s w h he ha hx hy hz
   ·have e :Fa sub subT s= (Cd (Ao Dq (Et sub s).2).1 [(Et sub s).1,(Et sub (Ao Dq (Et sub s).2).2).1],(Et sub (Ao Dq (Et sub s).2).2).2) :=by simp only [Fa,hx,hy,Bool.false_eq_true,if_false,if_neg hz]
    rw [e]
    exact Aa2 (Et sub) d hs a s w h he ha hx hy hz
  ·have e :Fa sub subT s= (Cd 10 [(Et sub s).1],Ar Be (Ag kIs (Et sub s).2).2) :=by simp only [Fa,hx,hy,Bool.false_eq_true,if_false,if_true]
   rw [e]
   exact Ab5 (Et sub) d hs a s w h he ha hx hy
 ·have e :Fa sub subT s= (Cd 9 [(subT (Ag Ec s).2).1],(subT (Ag Ec s).2).2) :=by simp only [Fa,hx,if_true]
  rw [e]
  exact Aa0 subT d hp a s w h he ha hx
theorem Adg (d :Nat) (hd :d≤5) :De 80 (Gn d).1 (5 - d :Nat) ∧De 111 (Gn d).2 (5 - d :Nat) :=by
 have key : ∀n :Nat,Kd 80 (Gk n) (5 - n :Nat) →Kd 111 (Hm n) (5 - n :Nat) → (∀s,Aw (Gk n s).2≤Aw s) ∧ (∀s,Aw (Hm n s).2≤Aw s) →De 80 (Gn n).1 (5 - n :Nat) ∧De 111 (Gn n).2 (5 - n :Nat) :=by
  intro n h1 h2 h3
  rw [Yx]
  have hs :Cf (Gk n) (Gb n) ∧Cf (Hm n) (Gc n) :=by
   cases n with
   | zero=>exact ⟨fun s a r h=>by simp [Gk,Hl] at h,fun s a r h=>by simp [Hm,Hl] at h⟩
   | succ n=>exact ⟨(I4 n).1,(I4 n).2.1⟩
  have ha :=Aaz (Gk n) _ h1
  have hsum :=Ab3 (En (Gk n)) _ ha (Qb hs.1).shrinks
  have ht :=Aa3 (Gk n) (Hm n) _ hsum h2
  have st :=Qc hs.1 hs.2
  have hc :=Qv (Fa (Gk n) (Hm n)) _ ht st.shrinks
  have he :=R0 (Wz (Gk n) (Hm n)) _ hc (J2 st (by decide) :Cf (Wz (Gk n) (Hm n)) _).shrinks
  exact ⟨he,ht⟩
 induction d with
 | zero=>exact key 0 (Mn) (Qu) ⟨fun s=>by simp [Gk,Hl,Aw],fun s=>by simp [Hm,Hl,Aw]⟩
 | succ n ih=>
  obtain ⟨i1,i2⟩ :=ih (by omega)
  have e : ((5 - (n+1) :Nat) :Int) +1= ((5 - n :Nat) :Int) :=by omega
  refine key (n+1) (M1 _ _ (by omega) (by omega) ?_) (Rz _ _ (by omega) (by omega) ?_) ⟨(I4 n).1.shrinks,(I4 n).2.1.shrinks⟩
  ·rw [e];exact i1
  ·rw [e];exact i2
theorem Lq :De 80 Br 0 := (Adg 5 (Nat.le_refl _)).1
end Go.Proofs.YtifjaegfpdjikaaGreatDoor

namespace Go.Proofs.YtifjaegfpdjikaaGreatDoor
open Go.RowKit
structure Elem (α :Type) where
 size :Nat
 R : (Nat→Prop) →World→α→List Value→Prop
 len : ∀ {F w a c},R F w a c→c.length=size
 keep : ∀ {F w w' a c},Keeps F w w'→R F w a c→R F w' a c
 mono : ∀ {F F' :Nat→Prop} {w a c},(∀k,k<w.heap.size→F k→F' k) →R F w a c→R F' w a c
def All {α :Type} (K :Elem α) (F :Nat→Prop) (w :World) :List α→List Value→Prop
 | [],cs=>cs= []
 | a ::l,cs=> ∃c rest,cs=c++rest∧K.R F w a c∧All K F w l rest
theorem All.keep {α :Type} {K :Elem α} {F :Nat→Prop} {w w' :World} (hk :Keeps F w w') : ∀ {l :List α} {cs :List Value},All K F w l cs→All K F w' l cs
 | [],cs,h=>h
 | a ::l,cs,h=>by
  obtain ⟨c,rest,h1,h2,h3⟩ :=h
  exact ⟨c,rest,h1,K.keep hk h2,All.keep hk h3⟩
theorem All.mono {α :Type} {K :Elem α} {F F' :Nat→Prop} {w :World} (hk : ∀k,k<w.heap.size→F k→F' k) : ∀ {l :List α} {cs :List Value},All K F w l cs→All K F' w l cs
 | [],cs,h=>h
 | a ::l,cs,h=>by
  obtain ⟨c,rest,h1,h2,h3⟩ :=h
  exact ⟨c,rest,h1,K.mono hk h2,All.mono hk h3⟩
theorem All.append {α :Type} {K :Elem α} {F :Nat→Prop} {w :World} : ∀ {l m :List α} {cs ds :List Value},All K F w l cs→All K F w m ds→All K F w (l++m) (cs++ds)
 | [],m,cs,ds,h,k=>by have :cs= [] :=h;subst this;exact k
 | a ::l,m,cs,ds,h,k=>by
  obtain ⟨c,rest,rfl,h2,h3⟩ :=h
  exact ⟨c,rest++ds,by simp,h2,All.append h3 k⟩
theorem All.one {α :Type} {K :Elem α} {F :Nat→Prop} {w :World} {a :α} {c :List Value} (h :K.R F w a c) :All K F w [a] c := ⟨c,[],by simp,h,rfl⟩
theorem All.length {α :Type} {K :Elem α} {F :Nat→Prop} {w :World} : ∀ {l :List α} {cs :List Value},All K F w l cs→cs.length=l.length*K.size
 | [],cs,h=>by have :cs= [] :=h;subst this;simp
 | a ::l,cs,h=>by
  obtain ⟨c,rest,rfl,h2,h3⟩ :=h
  have e1 :=K.len h2
  have e2 :=All.length h3
  rw [List.length_append,List.length_cons,e1,e2,Nat.add_mul];omega
def IsL {α :Type} (K :Elem α) (F :Nat→Prop) (w :World) (sv :Value) (l :List α) :Prop := ∃cs,E8 F K.size w sv l.length cs∧All K F w l cs
theorem IsL.keep {α :Type} {K :Elem α} {F :Nat→Prop} {w w' :World} {sv :Value} {l :List α} (h :IsL K F w sv l) (hk :Keeps F w w') :IsL K F w' sv l :=by
 obtain ⟨cs,h1,h2⟩ :=h
 exact ⟨cs,h1.keep hk,h2.keep hk⟩
theorem IsL.mono {α :Type} {K :Elem α} {F F' :Nat→Prop} {w :World} {sv :Value} {l :List α} (h :IsL K F w sv l) (hk : ∀k,k<w.heap.size→F k→F' k) :IsL K F' w sv l :=by
 obtain ⟨cs,h1,h2⟩ :=h
 exact ⟨cs,h1.mono hk,h2.mono hk⟩
theorem IsL.shape {α :Type} {K :Elem α} {F :Nat→Prop} {w :World} {sv :Value} {l :List α} (h :IsL K F w sv l) : ∃ao c,sv= .slice ao l.length c :=by
 obtain ⟨cs,h1,_⟩ :=h;exact h1.shape
theorem IsL.nil {α :Type} (K :Elem α) (F :Nat→Prop) (w :World) :IsL K F w (.slice none 0 0) ([] :List α) := ⟨[],E8.nil F _ w,rfl⟩
theorem M5 {F :Nat→Prop} {w :World} {K :Elem E} (hK : ∀F w e c,K.R F w e c↔c.length=8∧IsE F w e (.agg c.toArray)) : ∀ {l :List E} {cs :List Value},All K F w l cs↔Eq F w l cs
 | [],cs=>by rw [Eq];rfl
 | e ::l,cs=>by
  rw [Eq]
  constructor
  ·rintro ⟨c,rest,h1,h2,h3⟩
   exact ⟨c,rest,h1,((hK _ _ _ _).1 h2).1,((hK _ _ _ _).1 h2).2,(M5 hK).1 h3⟩
  ·rintro ⟨c,rest,h1,h2,h3,h4⟩
   exact ⟨c,rest,h1,(hK _ _ _ _).2 ⟨h2,h3⟩,(M5 hK).2 h4⟩
def Dc :Elem E where
 size :=8
 R F w e c :=c.length=8∧IsE F w e (.agg c.toArray)
 len h :=h.1
 keep hk h := ⟨h.1,IsE.keep hk _ _ h.2⟩
 mono hk h := ⟨h.1,IsE.mono hk _ _ h.2⟩
theorem Adx {F :Nat→Prop} {w :World} {sv :Value} {l :List E} :IsL Dc F w sv l↔Jx F w sv l :=
 ⟨fun ⟨cs,h1,h2⟩ => ⟨cs,h1,(M5 fun _ _ _ _=>Iff.rfl).1 h2⟩,fun ⟨cs,h1,h2⟩ => ⟨cs,h1,(M5 fun _ _ _ _=>Iff.rfl).2 h2⟩⟩
def Jl :Elem (List E) where
 size :=1
 R F w l c := ∃sv,c= [sv] ∧IsL Dc F w sv l
 len h :=by obtain ⟨sv,rfl,_⟩ :=h;rfl
 keep hk h :=by obtain ⟨sv,h1,h2⟩ :=h;exact ⟨sv,h1,h2.keep hk⟩
 mono hk h :=by obtain ⟨sv,h1,h2⟩ :=h;exact ⟨sv,h1,h2.mono hk⟩
def G5 :Elem (Wd×E) where
 size :=9
 R F w s c := ∃d,c= .string s.1 ::d∧d.length=8∧IsE F w s.2 (.agg d.toArray)
 len h :=by obtain ⟨d,rfl,h,_⟩ :=h;simp [h]
 keep hk h :=by obtain ⟨d,h1,h2,h3⟩ :=h;exact ⟨d,h1,h2,IsE.keep hk _ _ h3⟩
 mono hk h :=by obtain ⟨d,h1,h2,h3⟩ :=h;exact ⟨d,h1,h2,IsE.mono hk _ _ h3⟩
def Hj :Elem Wd where
 size :=1
 R _ _ s c :=c= [.string s]
 len h :=by subst h;rfl
 keep _ h :=h
 mono _ h :=h
def Iy :Elem ColD where
 size :=3
 R _ _ x c :=c= [.string x.name, .int .i64 x.ty, .bool x.must]
 len h :=by subst h;rfl
 keep _ h :=h
 mono _ h :=h
def Dv (c :List Value) :Value := .agg c.toArray
def Oc (c :List Value) :Value :=c.headD (.bool false)
theorem G6 {F :Nat→Prop} {w :World} {e :E} {c :List Value} (h :Dc.R F w e c) : ∃op xk xn xs s name n ao k cap,c= [.int .i64 op, .int .i64 xk, .int .i64 xn, .string xs, .string s, .string name, .int .i64 n, .slice ao k cap] :=by
 obtain ⟨op,⟨xk,xn,xs⟩,s,name,n,ao,k,cap,h1⟩ :=h.2.shape
 refine ⟨op,xk,xn,xs,s,name,n,ao,k,cap, ?_⟩
 have :=congrArg Array.toList (Value.agg.inj h1)
 simpa using this
theorem Se {F :Nat→Prop} {w :World} {l :List E} {c :List Value} (h :Jl.R F w l c) : ∃ao k cap,c= [.slice ao k cap] :=by
 obtain ⟨sv,rfl,h⟩ :=h
 obtain ⟨ao,cap,rfl⟩ :=h.shape
 exact ⟨_,_,_,rfl⟩
theorem Sf {F :Nat→Prop} {w :World} {e :Wd×E} {c :List Value} (h :G5.R F w e c) : ∃cn op xk xn xs s name n ao k cap,c= [.string cn, .int .i64 op, .int .i64 xk, .int .i64 xn, .string xs, .string s, .string name, .int .i64 n, .slice ao k cap] :=by
 obtain ⟨d,rfl,h1,h2⟩ :=h
 obtain ⟨op,xk,xn,xs,s,name,n,ao,k,cap,rfl⟩ :=G6 (w :=w) (F :=F) (e :=e.2) ⟨h1,h2⟩
 exact ⟨e.1,op,xk,xn,xs,s,name,n,ao,k,cap,rfl⟩
theorem Sg {F :Nat→Prop} {w :World} {e :Wd} {c :List Value} (h :Hj.R F w e c) : ∃s,c= [.string s] := ⟨e,h⟩
theorem Sh {F :Nat→Prop} {w :World} {e :ColD} {c :List Value} (h :Iy.R F w e c) : ∃s t m,c= [.string s, .int .i64 t, .bool m] := ⟨e.name,e.ty,e.must,h⟩
theorem Mo (w :World) (base :Nat) (t :TypeId) (l :List Value) (size :Nat) (hl :l.length=size) (hb :base≤w.heap.size) : (w.alloc (.cells l.toArray t)).ownsRow base t size (.slice (some ⟨w.heap.size,0,none⟩) 1 1) 1 l :=
 by subst hl;exact ⟨by simp, .inr ⟨w.heap.size,1,l.toArray,rfl,hb,Ad w _,Nat.le_refl _,by decide,by simp,by simp⟩⟩
abbrev FO (n :Nat) (z :Value) :Nat→Prop :=fun k=>n≤k∧some k≠z.ownBlock
theorem Adb {n :Nat} {z :Value} {w w' :World} (hg :w.grownBy w' z.ownBlock) :Keeps (FO n z) w w' := ⟨hg.size,fun k hk hl=>hg.block k hl hk.2⟩
theorem I7 {n :Nat} {z z' :Value} {w :World} (h :z'.ownBlock=z.ownBlock∨z'.ownBlock=some w.heap.size) : ∀k,k<w.heap.size→FO n z k→FO n z' k :=by
 intro k hk hf
 refine ⟨hf.1,fun e=> ?_⟩
 rcases h with h | h
 ·rw [h] at e;exact hf.2 e
 ·rw [h] at e;simp at e;omega
def Xr (kind :Int) (name table col :Wd) (cols rows sets frm out :Value) (w8 :List Value) (order :Value) (down :Bool) (n :Int) :List Value :=
 [.int .i64 kind, .string name, .string table, .string col,cols,rows,sets,frm,out] ++w8++ [order, .bool down, .int .i64 n]
structure IsS (F :Nat→Prop) (w :World) (s :Stm) (c :List Value) :Prop where
 is : ∃cols rows sets frm out w8 order,c=Xr s.kind s.name s.table s.col cols rows sets frm out w8 order s.down s.n∧w8.length=8∧IsL Iy F w cols s.cols∧IsL Jl F w rows s.rows∧IsL G5 F w sets s.sets∧IsL Hj F w frm s.frm∧IsL Dc F w out s.out∧IsE F w s.wher (.agg w8.toArray) ∧IsL Dc F w order s.order
def Fq :Elem Stm where
 size :=20
 R :=IsS
 len h :=by obtain ⟨cols,rows,sets,frm,out,w8,order,rfl,h8,_⟩ :=h.is;simp [Xr,h8]
 keep hk h :=by
  obtain ⟨cols,rows,sets,frm,out,w8,order,h1,h2,h3,h4,h5,h6,h7,h8,h9⟩ :=h.is
  exact ⟨cols,rows,sets,frm,out,w8,order,h1,h2,h3.keep hk,h4.keep hk,h5.keep hk,h6.keep hk,h7.keep hk,IsE.keep hk _ _ h8,h9.keep hk⟩
 mono hk h :=by
  obtain ⟨cols,rows,sets,frm,out,w8,order,h1,h2,h3,h4,h5,h6,h7,h8,h9⟩ :=h.is
  exact ⟨cols,rows,sets,frm,out,w8,order,h1,h2,h3.mono hk,h4.mono hk,h5.mono hk,h6.mono hk,h7.mono hk,IsE.mono hk _ _ h8,h9.mono hk⟩
abbrev sA (kind :Int) (name table col :Wd) (cols rows sets frm out :Value) (op xk xn :Int) (xs s nmv :Wd) (n8 :Int) (sl order :Value) (down :Bool) (n :Int) :Array Value :=
 #[.int .i64 kind, .string name, .string table, .string col,cols,rows,sets,frm,out, .int .i64 op, .int .i64 xk, .int .i64 xn, .string xs, .string s, .string nmv, .int .i64 n8,sl,order, .bool down, .int .i64 n]
abbrev Ah :Array Value :=sA 0 noW noW noW (.slice none 0 0) (.slice none 0 0) (.slice none 0 0) (.slice none 0 0) (.slice none 0 0) 0 0 0 noW noW noW 0 (.slice none 0 0) (.slice none 0 0) false 0
abbrev Ai (k :Int) :Array Value :=sA k noW noW noW (.slice none 0 0) (.slice none 0 0) (.slice none 0 0) (.slice none 0 0) (.slice none 0 0) 0 0 0 noW noW noW 0 (.slice none 0 0) (.slice none 0 0) false (-1)
def Dz (v :Value) :Prop := ∃ao n c,v= .slice ao n c
theorem Al (ao :Option Addr) (n c :Nat) :Dz (.slice ao n c) := ⟨ao,n,c,rfl⟩
theorem Cy {kind :Int} {name table col :Wd} {cols rows sets frm out :Value} {op xk xn :Int} {xs s nmv :Wd} {n8 :Int} {sl order :Value} {down :Bool} {n :Int} (h1 :Dz cols) (h2 :Dz rows) (h3 :Dz sets) (h4 :Dz frm) (h5 :Dz out) (h6 :Dz sl) (h7 :Dz order) :
  (sA kind name table col cols rows sets frm out op xk xn xs s nmv n8 sl order down n).all (·.oneCell') =true :=by
 obtain ⟨_,_,_,rfl⟩ :=h1
 obtain ⟨_,_,_,rfl⟩ :=h2
 obtain ⟨_,_,_,rfl⟩ :=h3
 obtain ⟨_,_,_,rfl⟩ :=h4
 obtain ⟨_,_,_,rfl⟩ :=h5
 obtain ⟨_,_,_,rfl⟩ :=h6
 obtain ⟨_,_,_,rfl⟩ :=h7
 simp [Value.oneCell']
theorem Lc {α :Type} {K :Elem α} {F :Nat→Prop} {w :World} {sv :Value} {l :List α} (h :IsL K F w sv l) :Dz sv :=by obtain ⟨ao,c,rfl⟩ :=h.shape;exact Al _ _ _
theorem D8 {F :Nat→Prop} {w :World} {kind :Int} {name table col :Wd} {cols rows sets frm out :Value} {op xk xn :Int} {xs s nmv :Wd} {n8 :Int} {sl order :Value} {down :Bool} {n :Int} {lc :List ColD} {lr :List (List E)} {ls :List (Wd×E)} {lf :List Wd} {lo :List E} {e :E} {ld :List E}
  (h1 :IsL Iy F w cols lc) (h2 :IsL Jl F w rows lr) (h3 :IsL G5 F w sets ls) (h4 :IsL Hj F w frm lf) (h5 :IsL Dc F w out lo) (h6 :IsE F w e (.agg (A2 op ⟨xk,xn,xs⟩ s nmv n8 sl))) (h7 :IsL Dc F w order ld) :
  Fq.R F w ⟨kind,name,table,col,lc,lr,ls,lf,lo,e,ld,down,n⟩ (sA kind name table col cols rows sets frm out op xk xn xs s nmv n8 sl order down n).toList :=
 ⟨cols,rows,sets,frm,out,(A2 op ⟨xk,xn,xs⟩ s nmv n8 sl).toList,order,rfl,rfl,h1,h2,h3,h4,h5,h6,h7⟩
theorem upd {w :World} {b :Nat} {arr :Array Value} {t :TypeId} (h :w.heap[b]? =some (.cells arr t)) (i :Nat) (v :Value) : (w.setCell ⟨b,i,none⟩ v).heap[b]? =some (.cells (arr.setIfInBounds i v) t) :=by
 simp only [World.setCell,Array.getElem?_modify,if_true,h];rfl
theorem Af : (Tryz.prog.info? 39).map (·.size) =some 20 :=by kernel_rfl
theorem Am {w :World} {g :Nat} {old cells :Array Value} {t :TypeId} (h :w.heap[g]? =some (.cells old t)) : (w.setRow g cells).heap[g]? =some (.cells cells t) :=by
 simp only [World.setRow,Array.getElem?_modify,if_true,h];rfl
theorem Bu {w :World} {g b :Nat} {x :Obj} (h :w.heap[b]? =some x) (hn :b≠g) (cells :Array Value) : (w.setRow g cells).heap[b]? =some x :=by
 simp only [World.setRow,Array.getElem?_modify]
 rw [if_neg (fun e=>hn e.symm)];exact h
theorem Below.row {B :Nat} {w w' :World} (h :Below B w w') {b :Nat} (hb :B≤b) (cells :Array Value) :Below B w (w'.setRow b cells) :=
 ⟨h.os,h.tape,h.output,by simp [World.setRow];exact h.size,fun k hk=>by
  have :=h.block k hk
  simp only [World.setRow,Array.getElem?_modify]
  rw [if_neg (by omega)];exact this⟩
theorem Keeps.row {F :Nat→Prop} {w w' :World} (h :Keeps F w w') {b :Nat} (hb : ¬F b) (cells :Array Value) :Keeps F w (w'.setRow b cells) :=
 ⟨by simp [World.setRow];exact h.size,fun k hk hl=>by
  have :=h.block k hk hl
  simp only [World.setRow,Array.getElem?_modify]
  rw [if_neg (by rintro rfl;exact hb hk)];exact this⟩
theorem Ay {P :Program} {fn :Func} {p q :Tmp} {ty :TypeId} (h :fn.results= #[.cell p ty, .tmp q]) (tmps :Array Value) (w :World) (g :Nat) (t :TypeId) (cs :Array Value) (fr :Nat×Nat) (d :TypeDesc) (v :Value)
  (hp :tmps.getD p undef= .pointer (some ⟨g,0,none⟩)) (hq :tmps.getD q undef=v) (hg :w.heap[g]? =some (.cells cs t fr))
  (hu :P.underlying ty=some d) (hd : (match d with | .struct _ | .array _ _=>true | _=>false) =true) (hi : (P.info? ty).map (·.size) =some cs.size) :
  (results fn tmps).run P w= .ok (.tuple #[.agg cs,v]) w :=by
 have hp' :tmps[p]?.getD undef= .pointer (some ⟨g,0,none⟩) :=by simpa using hp
 have hq' :tmps[q]?.getD undef=v :=by simpa using hq
 simp [results,h,hp',hq',asAddr,run_loadVar_row w g t ty cs fr d hg hu hd hi]
end Go.Proofs.YtifjaegfpdjikaaGreatDoor

namespace Go.Proofs.YtifjaegfpdjikaaGreatDoor
open Go.RowKit
def Em (g :FuncId) {α :Type} (K :Elem α) (val :List Value→Value) (p :St→α×St) (d :Int) :Prop := ∀ (a :Nat) (s :St) (w :World),Rd w a s d→Env w→16≤a→
 Calls Tryz.prog g #[.pointer (some ⟨a,0,none⟩)] w fun e w'=> ∃c,e= .returned (val c) ∧K.R (Fr w.heap.size) w' (p s).1 c∧Rd w' a (p s).2 d∧But a w w'
theorem Pe {g :FuncId} {p :St→E×St} {d :Int} (h :De g p d) :Em g Dc Dv p d :=by
 intro a s w h1 h2 h3
 refine (h a s w h1 h2 h3).mono fun e w' hx=> ?_
 obtain ⟨v,h4,h5,h6⟩ :=hx
 obtain ⟨op,x,xs,nmv,n,ao,k,c,rfl⟩ :=h5.shape
 exact ⟨(A2 op x xs nmv n (.slice ao k c)).toList,h4,⟨rfl,h5⟩,h6⟩
theorem Ko {α :Type} {one :St→α×St} {f :Nat} {acc :List α} {s :St} (h : (Ag Av s).1=false) :Dm one f acc s= (acc,(Ag Av s).2) :=by
 cases f with
 | zero=>rw [Cm h];rfl
 | succ f=>rw [Dm,h];rfl
theorem Mp {α :Type} {one :St→α×St} {f :Nat} {acc :List α} {s :St} (hs : ∀s,Aw (one s).2≤Aw s) (h : (Ag Av s).1=true) (hf :Aw s≤f) :
  ∃f',f'<f∧Dm one f acc s=Dm one f' (acc++ [(one (Ag Av s).2).1]) (one (Ag Av s).2).2∧Aw (one (Ag Av s).2).2≤f'∧Aw (one (Ag Av s).2).2+1≤Aw s :=by
 have h1 :=N7 h
 have h2 :=hs (Ag Av s).2
 cases f with
 | zero=>omega
 | succ f=>exact ⟨f,by omega,by rw [Dm,if_pos h],by omega,by omega⟩
theorem Rd.len {w :World} {a :Nat} {s :St} {d :Int} (h :Rd w a s d) :Aw s≤1502 :=by
 obtain ⟨x,r,b,_,h2⟩ :=h
 cases h2 with
 | wrong=>simp [Aw]
 | over=>simp [Aw]
 | word _ _ hr=>
  obtain ⟨ws,h1,_,h3⟩ :=Wo _ r.data.toList (Nat.le_refl _)
  rw [Bi] at h3
  rcases h1 with h1 | h1
  ·rw [h1];simp [Aw];omega
  ·rw [h1];simp [Aw];omega
theorem Er {a :Nat} {w w' :World} {base :Nat} {e :TypeId} {size :Nat} {v :Value} {n :Nat} {xs :List Value} (h :w.ownsRow base e size v n xs) (hb :But a w w') (ha :a<base) :w'.ownsRow base e size v n xs :=by
 obtain ⟨h1,h2⟩ :=h
 refine ⟨h1, ?_⟩
 rcases h2 with h2 | ⟨g,cap,cur,hv,hg,hh,r⟩
 ·exact .inl h2
 ·exact .inr ⟨g,cap,cur,hv,hg,by rw [hb.block g (lt_of_block hh) (by omega)];exact hh,r⟩
theorem I8 {a :Nat} {w w' :World} {base :Nat} {e :TypeId} {size :Nat} {v :Value} {n :Nat} {xs :List Value} {u :World} (h :w.ownsRow base e size v n xs) (hg :w.grownBy w' v.ownBlock) (hu :But a u w) (hb :u.heap.size≤base) :But a u w' :=
 ⟨hg.os.trans hu.os,hg.tape.trans hu.tape,hg.output.trans hu.output,Nat.le_trans hu.size hg.size,fun k hk hn=> (hg.block k (Nat.lt_of_lt_of_le hk hu.size) (fun e=>by have := (h.lt k e.symm).1;omega)).trans (hu.block k hk hn)⟩
theorem Rd.grown {a :Nat} {w w' :World} {base :Nat} {e :TypeId} {size :Nat} {v :Value} {n :Nat} {xs :List Value} {s :St} {d :Int} (h :w.ownsRow base e size v n xs) (hg :w.grownBy w' v.ownBlock) (hr :Rd w a s d) (ha :a<base) :Rd w' a s d :=by
 obtain ⟨x,r,b,h1,h2⟩ :=hr
 exact ⟨x,r,b,(hg.block a h1.lt (fun e=>by have := (h.lt a e.symm).1;omega)).trans h1,h2⟩
end Go.Proofs.YtifjaegfpdjikaaGreatDoor

