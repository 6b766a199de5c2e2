/-
  5 texts of this proof in one, in build order: SCmd, SCmd2, SScript, SScript2, RSame.
-/
import Derived.Deep.QuietTactic
import Derived.BigQuiet
import Derived.Deep.RegionHeld3
import Derived.Test.YtifjaegfpdjikaaGreatDoorJ11
import Derived.Test.YtifjaegfpdjikaaGreatDoorJ22
set_option linter.unusedSimpArgs false
set_option linter.unusedVariables false
namespace Go.Proofs.YtifjaegfpdjikaaGreatDoor
open Go.RowKit
theorem Rf (a :Nat) (k :Wd) (s :St) (hk :0<k.size) :Dw a k s (Ag k s).1 (Ag k s).2 :=fun v h=>Ix a k s 0 v h hk
theorem Cw {a :Nat} {k :Wd} {s :St} (hk :0<k.size) {b :Bool} (hb : (Ag k s).1=b) :Dw a k s b (Ag k s).2 :=by rw [←hb];exact Rf a k s hk
theorem Ir (a :Nat) (k :Wd) (s :St) (hk :0<k.size) :Ik a k s (Ar k s) :=fun v h m hm=>Hi a k s 0 v h hk m hm
theorem V9 :Em 73 Hj Oc At 0 :=by
 intro a s w h _ _
 exact (E9 a s 0 w h).mono fun e w' ⟨h1,h2,h3⟩ => ⟨[.string (At s).1],h1,rfl,h2,h3⟩
theorem Aaf :Em 53 Fq Dv Ff 0 :=by
 intro a s w h he ha
 have L :=fun s1=> (fun v h1 e1=>Sk Br 0 (Pe Lq) Jh.shrinks a s1 v h1 e1 ha :Oi a s1 (A1 Br s1).1 (A1 Br s1).2)
 have N :=fun s1=> (fun v h1 e1=>Aa6 At 0 V9 Xe.shrinks a s1 v h1 e1 ha :Jn a s1 (A1 At s1).1 (A1 At s1).2)
 have Wh :=fun s1=> (fun v h1 e1=>Mc a s1 v h1 e1 ha :Jo a s1 (Bx s1).1 (Bx s1).2)
 have Ex :=fun s1=> (fun v h1 e1=>Lq a s1 v h1 e1 ha :Re a s1 (Br s1).1 (Br s1).2)
 have Nu :=fun s1=> (fun v h1 e1=>M0 a s1 0 v h1 e1 :U1 a s1 (B6 s1).1 (B6 s1).2)
 cases hb1 : (Ag A9 s).1
 ·cases hb2 : (Ag Bl (Bx (A1 At (Ar Az (A1 Br (Ag A9 s).2).2)).2).2).1
  ·cases hb3 : (Ag Cr (Ag Bl (Bx (A1 At (Ar Az (A1 Br (Ag A9 s).2).2)).2).2).2).1
   ·have :=Aae a s w h he ha _ _ _ _ _ _ _ _ _ _ (Cw (by decide) hb1) (L (Ag A9 s).2) (Ir a Az (A1 Br (Ag A9 s).2).2 (by decide)) (N (Ar Az (A1 Br (Ag A9 s).2).2)) (Wh (A1 At (Ar Az (A1 Br (Ag A9 s).2).2)).2) (Cw (by decide) hb2) (Cw (by decide) hb3)
    simpa only [Ff,Jg,Fz,Gg,Bg,hb1,hb2,hb3,if_true,if_false,Bool.false_eq_true] using this
   ·have :=Aad a s w h he ha _ _ _ _ _ _ _ _ _ _ _ _ (Cw (by decide) hb1) (L (Ag A9 s).2) (Ir a Az (A1 Br (Ag A9 s).2).2 (by decide)) (N (Ar Az (A1 Br (Ag A9 s).2).2)) (Wh (A1 At (Ar Az (A1 Br (Ag A9 s).2).2)).2) (Cw (by decide) hb2) (Cw (by decide) hb3) (Nu (Ag Cr (Ag Bl (Bx (A1 At (Ar Az (A1 Br (Ag A9 s).2).2)).2).2).2).2)
    simpa only [Ff,Jg,Fz,Gg,Bg,hb1,hb2,hb3,if_true,if_false,Bool.false_eq_true] using this
  ·cases hb3 : (Ag Cr (Ag Co (Br (Ar kBy (Ag Bl (Bx (A1 At (Ar Az (A1 Br (Ag A9 s).2).2)).2).2).2)).2).2).1
   ·have :=Aac a s w h he ha _ _ _ _ _ _ _ _ _ _ _ _ _ _ _ (Cw (by decide) hb1) (L (Ag A9 s).2) (Ir a Az (A1 Br (Ag A9 s).2).2 (by decide)) (N (Ar Az (A1 Br (Ag A9 s).2).2)) (Wh (A1 At (Ar Az (A1 Br (Ag A9 s).2).2)).2) (Cw (by decide) hb2) (Ir a kBy (Ag Bl (Bx (A1 At (Ar Az (A1 Br (Ag A9 s).2).2)).2).2).2 (by decide)) (Ex (Ar kBy (Ag Bl (Bx (A1 At (Ar Az (A1 Br (Ag A9 s).2).2)).2).2).2)) (Rf a Co (Br (Ar kBy (Ag Bl (Bx (A1 At (Ar Az (A1 Br (Ag A9 s).2).2)).2).2).2)).2 (by decide)) (Cw (by decide) hb3)
    simpa only [Ff,Jg,Fz,Gg,Bg,hb1,hb2,hb3,if_true,if_false,Bool.false_eq_true] using this
   ·have :=Aab a s w h he ha _ _ _ _ _ _ _ _ _ _ _ _ _ _ _ _ _ (Cw (by decide) hb1) (L (Ag A9 s).2) (Ir a Az (A1 Br (Ag A9 s).2).2 (by decide)) (N (Ar Az (A1 Br (Ag A9 s).2).2)) (Wh (A1 At (Ar Az (A1 Br (Ag A9 s).2).2)).2) (Cw (by decide) hb2) (Ir a kBy (Ag Bl (Bx (A1 At (Ar Az (A1 Br (Ag A9 s).2).2)).2).2).2 (by decide)) (Ex (Ar kBy (Ag Bl (Bx (A1 At (Ar Az (A1 Br (Ag A9 s).2).2)).2).2).2)) (Rf a Co (Br (Ar kBy (Ag Bl (Bx (A1 At (Ar Az (A1 Br (Ag A9 s).2).2)).2).2).2)).2 (by decide)) (Cw (by decide) hb3) (Nu (Ag Cr (Ag Co (Br (Ar kBy (Ag Bl (Bx (A1 At (Ar Az (A1 Br (Ag A9 s).2).2)).2).2).2)).2).2).2)
    simpa only [Ff,Jg,Fz,Gg,Bg,hb1,hb2,hb3,if_true,if_false,Bool.false_eq_true] using this
 ·cases hb2 : (Ag Bl (Bx (A1 At (Ar Az (Ag A9 s).2)).2).2).1
  ·cases hb3 : (Ag Cr (Ag Bl (Bx (A1 At (Ar Az (Ag A9 s).2)).2).2).2).1
   ·have :=Aaa a s w h he ha _ _ _ _ _ _ _ _ (Cw (by decide) hb1) (Ir a Az (Ag A9 s).2 (by decide)) (N (Ar Az (Ag A9 s).2)) (Wh (A1 At (Ar Az (Ag A9 s).2)).2) (Cw (by decide) hb2) (Cw (by decide) hb3)
    simpa only [Ff,Jg,Fz,Gg,Bg,hb1,hb2,hb3,if_true,if_false,Bool.false_eq_true] using this
   ·have :=Z9 a s w h he ha _ _ _ _ _ _ _ _ _ _ (Cw (by decide) hb1) (Ir a Az (Ag A9 s).2 (by decide)) (N (Ar Az (Ag A9 s).2)) (Wh (A1 At (Ar Az (Ag A9 s).2)).2) (Cw (by decide) hb2) (Cw (by decide) hb3) (Nu (Ag Cr (Ag Bl (Bx (A1 At (Ar Az (Ag A9 s).2)).2).2).2).2)
    simpa only [Ff,Jg,Fz,Gg,Bg,hb1,hb2,hb3,if_true,if_false,Bool.false_eq_true] using this
  ·cases hb3 : (Ag Cr (Ag Co (Br (Ar kBy (Ag Bl (Bx (A1 At (Ar Az (Ag A9 s).2)).2).2).2)).2).2).1
   ·have :=Z8 a s w h he ha _ _ _ _ _ _ _ _ _ _ _ _ _ (Cw (by decide) hb1) (Ir a Az (Ag A9 s).2 (by decide)) (N (Ar Az (Ag A9 s).2)) (Wh (A1 At (Ar Az (Ag A9 s).2)).2) (Cw (by decide) hb2) (Ir a kBy (Ag Bl (Bx (A1 At (Ar Az (Ag A9 s).2)).2).2).2 (by decide)) (Ex (Ar kBy (Ag Bl (Bx (A1 At (Ar Az (Ag A9 s).2)).2).2).2)) (Rf a Co (Br (Ar kBy (Ag Bl (Bx (A1 At (Ar Az (Ag A9 s).2)).2).2).2)).2 (by decide)) (Cw (by decide) hb3)
    simpa only [Ff,Jg,Fz,Gg,Bg,hb1,hb2,hb3,if_true,if_false,Bool.false_eq_true] using this
   ·have :=Z7 a s w h he ha _ _ _ _ _ _ _ _ _ _ _ _ _ _ _ (Cw (by decide) hb1) (Ir a Az (Ag A9 s).2 (by decide)) (N (Ar Az (Ag A9 s).2)) (Wh (A1 At (Ar Az (Ag A9 s).2)).2) (Cw (by decide) hb2) (Ir a kBy (Ag Bl (Bx (A1 At (Ar Az (Ag A9 s).2)).2).2).2 (by decide)) (Ex (Ar kBy (Ag Bl (Bx (A1 At (Ar Az (Ag A9 s).2)).2).2).2)) (Rf a Co (Br (Ar kBy (Ag Bl (Bx (A1 At (Ar Az (Ag A9 s).2)).2).2).2)).2 (by decide)) (Cw (by decide) hb3) (Nu (Ag Cr (Ag Co (Br (Ar kBy (Ag Bl (Bx (A1 At (Ar Az (Ag A9 s).2)).2).2).2)).2).2).2)
    simpa only [Ff,Jg,Fz,Gg,Bg,hb1,hb2,hb3,if_true,if_false,Bool.false_eq_true] using this
theorem I9 {F :Nat→Prop} {w :World} {s :Stm} {c :List Value} (h :Fq.R F w s c) :c.toArray.all (·.oneCell') =true∧c.toArray.size=20 :=by
 have hl :c.length=20 :=Fq.len h
 obtain ⟨cols,rows,sets,frm,out,w8,order,rfl,h8,h1,h2,h3,h4,h5,h6,h7⟩ :=h.is
 refine ⟨?_,by simpa using hl⟩
 obtain ⟨op,xk,xn,xs,sx,nm,n,ao,k,cap,rfl⟩ :=G6 (F :=F) (w :=w) (e :=s.wher) ⟨h8,h6⟩
 exact Cy (Lc h1) (Lc h2) (Lc h3) (Lc h4) (Lc h5) (Al _ _ _) (Lc h7)
set_option maxHeartbeats 4000000 in
set_option maxRecDepth 100000 in
theorem Yp :Em 48 Fq Dv Fj 0 :=by
 intro a s w h he ha
 have hla :=h.lt
 generalize hW :w.alloc (.cells Ah 39) =W
 have HW :Hid _ :=hW
 have hb0 :Below w.heap.size w W :=by rw [←hW];exact (Below.refl _ _).alloc (Nat.le_refl _) _
 have b0 :W.heap[w.heap.size]? =some (.cells Ah 39) :=by rw [←hW];exact Ad w _
 have hWs :W.heap.size=w.heap.size+1 :=by rw [←hW,World.size_alloc]
 have ne0 :w.heap.size≠a :=by omega
 clear hW
 cases hb : (Ag A5 s).1
 ·have e :Fj s=Kj (Ar B7 s) :=by simp only [Fj,hb,Bool.false_eq_true,if_false,Cm hb]
  rw [e]
  have SK :=Ba a A5 s 0 W (h.below hb0) (by decide) hb
  have WF :=fun v (h1 :Rd v a s 0) =>H7 a B7 s 0 v h1 (by decide)
  generalize Ar B7 s=s1 at WF⊢
  have IF :=fun v (h1 :Rd v a s1 0) (e1 :Env v) =>Rb a s1 v h1 e1 ha
  generalize Kj s1=q at IF⊢
  obtain ⟨st,s2⟩ :=q
  simp only at IF⊢
  clear hb e
  go_enter Tryz.func48,Tryz.ntmps48
  go_wp2_with fail
  rw [HW.out]
  go_wp2_with (first
   | (go_at_call 47;go_must (go_fit SK;rintro e w1 ⟨rfl,hr1,hb1⟩;have b1 :=Ac hb1 b0 ne0;have W1 :=WF w1 hr1))
   | (go_at_call 23;go_must (go_fit W1;rintro e w2 ⟨rfl,hr2,hb2⟩;have b2 :=Ac hb2 b1 ne0;have I1 :=IF w2 hr2 (he.but (((But.of_below hb0).trans hb1).trans hb2) ha))))
  go_fit I1
  rintro e w3 ⟨c3,rfl,hR3,hr3,hb3⟩
  have b3 :=Ac hb3 b2 ne0
  have hc3 :=I9 hR3
  go_wp2_with (refine wpList_store_row rfl 39 _ _ rfl w.heap.size c3.toArray rfl rfl 39 Ah b3 (by rw [hc3.2];exact Af) hc3.2.symm hc3.1 ?_)
  refine bodyPost_ret (v := .agg c3.toArray) (results_cell_row Tryz.results48 _ _ w.heap.size 39 _ _ _ rfl (Am b3) Tryz.underlying39 rfl (by rw [hc3.2];exact Af)) rfl ⟨c3,rfl, ?_, ?_, ?_⟩
  ·have hz :=Nat.le_trans hb1.size hb2.size
   exact Fq.mono (fun k _ hk=>by have :w2.heap.size≤k :=hk;show w.heap.size≤k;omega) (Fq.keep ((Keeps.refl _ _).row (show ¬w2.heap.size≤w.heap.size by omega) _) hR3)
  ·exact hr3.row ne0 _
  ·exact ((((But.of_below hb0).trans hb1).trans hb2).trans hb3).row (Nat.le_refl _) _
 ·have e :Fj s=Ki (Ag A5 s).2 :=by simp only [Fj,hb,if_true]
  rw [e]
  have SK :=Du a A5 s 0 W (h.below hb0) (by decide) hb
  generalize (Ag A5 s).2=s1 at SK⊢
  have IF :=fun v (h1 :Rd v a s1 0) (e1 :Env v) =>Rc a s1 v h1 e1 ha
  generalize Ki s1=q at IF⊢
  obtain ⟨st,s2⟩ :=q
  simp only at IF⊢
  clear hb e
  go_enter Tryz.func48,Tryz.ntmps48
  go_wp2_with fail
  rw [HW.out]
  go_wp2_with (first
   | (go_at_call 47;go_must (go_fit SK;rintro e w1 ⟨rfl,hr1,hb1⟩;have b1 :=Ac hb1 b0 ne0;have I1 :=IF w1 hr1 (he.but ((But.of_below hb0).trans hb1) ha))))
  go_fit I1
  rintro e w2 ⟨c2,rfl,hR2,hr2,hb2⟩
  have b2 :=Ac hb2 b1 ne0
  have hc2 :=I9 hR2
  go_wp2_with (refine wpList_store_row rfl 39 _ _ rfl w.heap.size c2.toArray rfl rfl 39 Ah b2 (by rw [hc2.2];exact Af) hc2.2.symm hc2.1 ?_)
  refine bodyPost_ret (v := .agg c2.toArray) (results_cell_row Tryz.results48 _ _ w.heap.size 39 _ _ _ rfl (Am b2) Tryz.underlying39 rfl (by rw [hc2.2];exact Af)) rfl ⟨c2,rfl, ?_, ?_, ?_⟩
  ·have hz :=hb1.size
   exact Fq.mono (fun k _ hk=>by have :w1.heap.size≤k :=hk;show w.heap.size≤k;omega) (Fq.keep ((Keeps.refl _ _).row (show ¬w1.heap.size≤w.heap.size by omega) _) hR2)
  ·exact hr2.row ne0 _
  ·exact (((But.of_below hb0).trans hb1).trans hb2).row (Nat.le_refl _) _
end Go.Proofs.YtifjaegfpdjikaaGreatDoor

namespace Go.Proofs.YtifjaegfpdjikaaGreatDoor
open Go.RowKit
set_option maxHeartbeats 4000000 in
set_option maxRecDepth 100000 in
theorem R1 (a :Nat) (s :St) (w :World) (h :Rd w a s 0) (he :Env w) (ha :16≤a) (h0 : (Ag Au s).1=true) :
  Calls Tryz.prog 22 #[.pointer (some ⟨a,0,none⟩)] w fun e w'=> ∃c,e= .returned (Dv c) ∧Fq.R (Fr w.heap.size) w' (Fj (Ag Au s).2).1 c∧Rd w' a (Fj (Ag Au s).2).2 0∧But a w w' :=by
 have hla :=h.lt
 generalize hW :w.alloc (.cells Ah 39) =W
 have HW :Hid _ :=hW
 have hb0 :Below w.heap.size w W :=by rw [←hW];exact (Below.refl _ _).alloc (Nat.le_refl _) _
 have b0 :W.heap[w.heap.size]? =some (.cells Ah 39) :=by rw [←hW];exact Ad w _
 have hWs :W.heap.size=w.heap.size+1 :=by rw [←hW,World.size_alloc]
 have ne0 :w.heap.size≠a :=by omega
 clear hW
 have SF1 :=fun v (hv :Rd v a s 0) =>Du a Au s 0 v hv (by decide) h0
 generalize (Ag Au s).2=s1 at SF1⊢
 have IF :=fun v (h1 :Rd v a s1 0) (e1 :Env v) =>Yp a s1 v h1 e1 ha
 generalize Fj s1=q at IF⊢
 obtain ⟨st,s2⟩ :=q
 simp only at IF⊢
 clear h0
 have SK1 :=SF1 W (h.below hb0)
 go_enter Tryz.func22,Tryz.ntmps22
 go_wp2_with fail
 rw [HW.out]
 go_fit SK1
 rintro e w1 ⟨rfl,hr1,hb1⟩
 have b1 :=Ac hb1 b0 ne0
 have z1 :=hb1.size
 go_wp2_with fail
 go_fit (IF w1 hr1 (he.but ((But.of_below hb0).trans hb1) ha))
 rintro e w2 ⟨c,rfl,hR,hr2,hb2⟩
 have b2 :=Ac hb2 b1 ne0
 have hc :=I9 hR
 go_wp2_with (refine wpList_store_row rfl 39 _ _ rfl w.heap.size c.toArray rfl rfl 39 Ah b2 (by rw [hc.2];exact Af) hc.2.symm hc.1 ?_)
 refine bodyPost_ret (v := .agg c.toArray) (results_cell_row Tryz.results22 _ _ w.heap.size 39 _ _ _ rfl (Am b2) Tryz.underlying39 rfl (by rw [hc.2];exact Af)) rfl ⟨c,rfl, ?_, ?_, ?_⟩
 ·exact Fq.mono (fun k _ hk=>by have :w1.heap.size≤k :=hk;show w.heap.size≤k;omega) (Fq.keep ((Keeps.refl _ _).row (show ¬w1.heap.size≤w.heap.size by omega) _) hR)
 ·exact hr2.row ne0 _
 ·exact (((But.of_below hb0).trans hb1).trans hb2).row (Nat.le_refl _) _
set_option maxHeartbeats 4000000 in
set_option maxRecDepth 100000 in
theorem U2 (a :Nat) (s :St) (w :World) (h :Rd w a s 0) (he :Env w) (ha :16≤a) (h0 : (Ag Au s).1=false) (h1 : (Ag Cg s).1=true) :
  Calls Tryz.prog 22 #[.pointer (some ⟨a,0,none⟩)] w fun e w'=> ∃c,e= .returned (Dv c) ∧Fq.R (Fr w.heap.size) w' (J7 (Ag Cg s).2).1 c∧Rd w' a (J7 (Ag Cg s).2).2 0∧But a w w' :=by
 have hla :=h.lt
 generalize hW :w.alloc (.cells Ah 39) =W
 have HW :Hid _ :=hW
 have hb0 :Below w.heap.size w W :=by rw [←hW];exact (Below.refl _ _).alloc (Nat.le_refl _) _
 have b0 :W.heap[w.heap.size]? =some (.cells Ah 39) :=by rw [←hW];exact Ad w _
 have hWs :W.heap.size=w.heap.size+1 :=by rw [←hW,World.size_alloc]
 have ne0 :w.heap.size≠a :=by omega
 clear hW
 have SF1 :=fun v (hv :Rd v a s 0) =>Ba a Au s 0 v hv (by decide) h0
 have SF2 :=fun v (hv :Rd v a s 0) =>Du a Cg s 0 v hv (by decide) h1
 generalize (Ag Cg s).2=s1 at SF2⊢
 have IF :=fun v (h1 :Rd v a s1 0) (e1 :Env v) =>Z6 a s1 v h1 e1 ha
 generalize J7 s1=q at IF⊢
 obtain ⟨st,s2⟩ :=q
 simp only at IF⊢
 clear h0 h1
 have SK1 :=SF1 W (h.below hb0)
 go_enter Tryz.func22,Tryz.ntmps22
 go_wp2_with fail
 rw [HW.out]
 go_fit SK1
 rintro e w1 ⟨rfl,hr1,hb1⟩
 have b1 :=Ac hb1 b0 ne0
 have z1 :=hb1.size
 go_wp2_with fail
 have SK2 :=SF2 w1 hr1
 go_fit SK2
 rintro e w2 ⟨rfl,hr2,hb2⟩
 have b2 :=Ac hb2 b1 ne0
 have z2 :=hb2.size
 go_wp2_with fail
 go_fit (IF w2 hr2 (he.but (((But.of_below hb0).trans hb1).trans hb2) ha))
 rintro e w3 ⟨c,rfl,hR,hr3,hb3⟩
 have b3 :=Ac hb3 b2 ne0
 have hc :=I9 hR
 go_wp2_with (refine wpList_store_row rfl 39 _ _ rfl w.heap.size c.toArray rfl rfl 39 Ah b3 (by rw [hc.2];exact Af) hc.2.symm hc.1 ?_)
 refine bodyPost_ret (v := .agg c.toArray) (results_cell_row Tryz.results22 _ _ w.heap.size 39 _ _ _ rfl (Am b3) Tryz.underlying39 rfl (by rw [hc.2];exact Af)) rfl ⟨c,rfl, ?_, ?_, ?_⟩
 ·exact Fq.mono (fun k _ hk=>by have :w2.heap.size≤k :=hk;show w.heap.size≤k;omega) (Fq.keep ((Keeps.refl _ _).row (show ¬w2.heap.size≤w.heap.size by omega) _) hR)
 ·exact hr3.row ne0 _
 ·exact ((((But.of_below hb0).trans hb1).trans hb2).trans hb3).row (Nat.le_refl _) _
set_option maxHeartbeats 4000000 in
set_option maxRecDepth 100000 in
theorem R2 (a :Nat) (s :St) (w :World) (h :Rd w a s 0) (he :Env w) (ha :16≤a) (h0 : (Ag Au s).1=false) (h1 : (Ag Cg s).1=false) (h2 : (Ag Bv s).1=true) :
  Calls Tryz.prog 22 #[.pointer (some ⟨a,0,none⟩)] w fun e w'=> ∃c,e= .returned (Dv c) ∧Fq.R (Fr w.heap.size) w' (Hc (Ag Bv s).2).1 c∧Rd w' a (Hc (Ag Bv s).2).2 0∧But a w w' :=by
 have hla :=h.lt
 generalize hW :w.alloc (.cells Ah 39) =W
 have HW :Hid _ :=hW
 have hb0 :Below w.heap.size w W :=by rw [←hW];exact (Below.refl _ _).alloc (Nat.le_refl _) _
 have b0 :W.heap[w.heap.size]? =some (.cells Ah 39) :=by rw [←hW];exact Ad w _
 have hWs :W.heap.size=w.heap.size+1 :=by rw [←hW,World.size_alloc]
 have ne0 :w.heap.size≠a :=by omega
 clear hW
 have SF1 :=fun v (hv :Rd v a s 0) =>Ba a Au s 0 v hv (by decide) h0
 have SF2 :=fun v (hv :Rd v a s 0) =>Ba a Cg s 0 v hv (by decide) h1
 have SF3 :=fun v (hv :Rd v a s 0) =>Du a Bv s 0 v hv (by decide) h2
 generalize (Ag Bv s).2=s1 at SF3⊢
 have IF :=fun v (h1 :Rd v a s1 0) (e1 :Env v) =>V7 a s1 v h1 e1 ha
 generalize Hc s1=q at IF⊢
 obtain ⟨st,s2⟩ :=q
 simp only at IF⊢
 clear h0 h1 h2
 have SK1 :=SF1 W (h.below hb0)
 go_enter Tryz.func22,Tryz.ntmps22
 go_wp2_with fail
 rw [HW.out]
 go_fit SK1
 rintro e w1 ⟨rfl,hr1,hb1⟩
 have b1 :=Ac hb1 b0 ne0
 have z1 :=hb1.size
 go_wp2_with fail
 have SK2 :=SF2 w1 hr1
 go_fit SK2
 rintro e w2 ⟨rfl,hr2,hb2⟩
 have b2 :=Ac hb2 b1 ne0
 have z2 :=hb2.size
 go_wp2_with fail
 have SK3 :=SF3 w2 hr2
 go_fit SK3
 rintro e w3 ⟨rfl,hr3,hb3⟩
 have b3 :=Ac hb3 b2 ne0
 have z3 :=hb3.size
 go_wp2_with fail
 go_fit (IF w3 hr3 (he.but ((((But.of_below hb0).trans hb1).trans hb2).trans hb3) ha))
 rintro e w4 ⟨c,rfl,hR,hr4,hb4⟩
 have b4 :=Ac hb4 b3 ne0
 have hc :=I9 hR
 go_wp2_with (refine wpList_store_row rfl 39 _ _ rfl w.heap.size c.toArray rfl rfl 39 Ah b4 (by rw [hc.2];exact Af) hc.2.symm hc.1 ?_)
 refine bodyPost_ret (v := .agg c.toArray) (results_cell_row Tryz.results22 _ _ w.heap.size 39 _ _ _ rfl (Am b4) Tryz.underlying39 rfl (by rw [hc.2];exact Af)) rfl ⟨c,rfl, ?_, ?_, ?_⟩
 ·exact Fq.mono (fun k _ hk=>by have :w3.heap.size≤k :=hk;show w.heap.size≤k;omega) (Fq.keep ((Keeps.refl _ _).row (show ¬w3.heap.size≤w.heap.size by omega) _) hR)
 ·exact hr4.row ne0 _
 ·exact (((((But.of_below hb0).trans hb1).trans hb2).trans hb3).trans hb4).row (Nat.le_refl _) _
set_option maxHeartbeats 4000000 in
set_option maxRecDepth 100000 in
theorem R3 (a :Nat) (s :St) (w :World) (h :Rd w a s 0) (he :Env w) (ha :16≤a) (h0 : (Ag Au s).1=false) (h1 : (Ag Cg s).1=false) (h2 : (Ag Bv s).1=false) (h3 : (Ag Cb s).1=true) :
  Calls Tryz.prog 22 #[.pointer (some ⟨a,0,none⟩)] w fun e w'=> ∃c,e= .returned (Dv c) ∧Fq.R (Fr w.heap.size) w' (Hd (Ag Cb s).2).1 c∧Rd w' a (Hd (Ag Cb s).2).2 0∧But a w w' :=by
 have hla :=h.lt
 generalize hW :w.alloc (.cells Ah 39) =W
 have HW :Hid _ :=hW
 have hb0 :Below w.heap.size w W :=by rw [←hW];exact (Below.refl _ _).alloc (Nat.le_refl _) _
 have b0 :W.heap[w.heap.size]? =some (.cells Ah 39) :=by rw [←hW];exact Ad w _
 have hWs :W.heap.size=w.heap.size+1 :=by rw [←hW,World.size_alloc]
 have ne0 :w.heap.size≠a :=by omega
 clear hW
 have SF1 :=fun v (hv :Rd v a s 0) =>Ba a Au s 0 v hv (by decide) h0
 have SF2 :=fun v (hv :Rd v a s 0) =>Ba a Cg s 0 v hv (by decide) h1
 have SF3 :=fun v (hv :Rd v a s 0) =>Ba a Bv s 0 v hv (by decide) h2
 have SF4 :=fun v (hv :Rd v a s 0) =>Du a Cb s 0 v hv (by decide) h3
 generalize (Ag Cb s).2=s1 at SF4⊢
 have IF :=fun v (h1 :Rd v a s1 0) (e1 :Env v) =>V8 a s1 v h1 e1 ha
 generalize Hd s1=q at IF⊢
 obtain ⟨st,s2⟩ :=q
 simp only at IF⊢
 clear h0 h1 h2 h3
 have SK1 :=SF1 W (h.below hb0)
 go_enter Tryz.func22,Tryz.ntmps22
 go_wp2_with fail
 rw [HW.out]
 go_fit SK1
 rintro e w1 ⟨rfl,hr1,hb1⟩
 have b1 :=Ac hb1 b0 ne0
 have z1 :=hb1.size
 go_wp2_with fail
 have SK2 :=SF2 w1 hr1
 go_fit SK2
 rintro e w2 ⟨rfl,hr2,hb2⟩
 have b2 :=Ac hb2 b1 ne0
 have z2 :=hb2.size
 go_wp2_with fail
 have SK3 :=SF3 w2 hr2
 go_fit SK3
 rintro e w3 ⟨rfl,hr3,hb3⟩
 have b3 :=Ac hb3 b2 ne0
 have z3 :=hb3.size
 go_wp2_with fail
 have SK4 :=SF4 w3 hr3
 go_fit SK4
 rintro e w4 ⟨rfl,hr4,hb4⟩
 have b4 :=Ac hb4 b3 ne0
 have z4 :=hb4.size
 go_wp2_with fail
 go_fit (IF w4 hr4 (he.but (((((But.of_below hb0).trans hb1).trans hb2).trans hb3).trans hb4) ha))
 rintro e w5 ⟨c,rfl,hR,hr5,hb5⟩
 have b5 :=Ac hb5 b4 ne0
 have hc :=I9 hR
 go_wp2_with (refine wpList_store_row rfl 39 _ _ rfl w.heap.size c.toArray rfl rfl 39 Ah b5 (by rw [hc.2];exact Af) hc.2.symm hc.1 ?_)
 refine bodyPost_ret (v := .agg c.toArray) (results_cell_row Tryz.results22 _ _ w.heap.size 39 _ _ _ rfl (Am b5) Tryz.underlying39 rfl (by rw [hc.2];exact Af)) rfl ⟨c,rfl, ?_, ?_, ?_⟩
 ·exact Fq.mono (fun k _ hk=>by have :w4.heap.size≤k :=hk;show w.heap.size≤k;omega) (Fq.keep ((Keeps.refl _ _).row (show ¬w4.heap.size≤w.heap.size by omega) _) hR)
 ·exact hr5.row ne0 _
 ·exact ((((((But.of_below hb0).trans hb1).trans hb2).trans hb3).trans hb4).trans hb5).row (Nat.le_refl _) _
set_option maxHeartbeats 4000000 in
set_option maxRecDepth 100000 in
theorem R4 (a :Nat) (s :St) (w :World) (h :Rd w a s 0) (he :Env w) (ha :16≤a) (h0 : (Ag Au s).1=false) (h1 : (Ag Cg s).1=false) (h2 : (Ag Bv s).1=false) (h3 : (Ag Cb s).1=false) (h4 : (Ag Cc s).1=true) :
  Calls Tryz.prog 22 #[.pointer (some ⟨a,0,none⟩)] w fun e w'=> ∃c,e= .returned (Dv c) ∧Fq.R (Fr w.heap.size) w' (He (Ag Cc s).2).1 c∧Rd w' a (He (Ag Cc s).2).2 0∧But a w w' :=by
 have hla :=h.lt
 generalize hW :w.alloc (.cells Ah 39) =W
 have HW :Hid _ :=hW
 have hb0 :Below w.heap.size w W :=by rw [←hW];exact (Below.refl _ _).alloc (Nat.le_refl _) _
 have b0 :W.heap[w.heap.size]? =some (.cells Ah 39) :=by rw [←hW];exact Ad w _
 have hWs :W.heap.size=w.heap.size+1 :=by rw [←hW,World.size_alloc]
 have ne0 :w.heap.size≠a :=by omega
 clear hW
 have SF1 :=fun v (hv :Rd v a s 0) =>Ba a Au s 0 v hv (by decide) h0
 have SF2 :=fun v (hv :Rd v a s 0) =>Ba a Cg s 0 v hv (by decide) h1
 have SF3 :=fun v (hv :Rd v a s 0) =>Ba a Bv s 0 v hv (by decide) h2
 have SF4 :=fun v (hv :Rd v a s 0) =>Ba a Cb s 0 v hv (by decide) h3
 have SF5 :=fun v (hv :Rd v a s 0) =>Du a Cc s 0 v hv (by decide) h4
 generalize (Ag Cc s).2=s1 at SF5⊢
 have IF :=fun v (h1 :Rd v a s1 0) (e1 :Env v) =>Yo a s1 v h1 e1 ha
 generalize He s1=q at IF⊢
 obtain ⟨st,s2⟩ :=q
 simp only at IF⊢
 clear h0 h1 h2 h3 h4
 have SK1 :=SF1 W (h.below hb0)
 go_enter Tryz.func22,Tryz.ntmps22
 go_wp2_with fail
 rw [HW.out]
 go_fit SK1
 rintro e w1 ⟨rfl,hr1,hb1⟩
 have b1 :=Ac hb1 b0 ne0
 have z1 :=hb1.size
 go_wp2_with fail
 have SK2 :=SF2 w1 hr1
 go_fit SK2
 rintro e w2 ⟨rfl,hr2,hb2⟩
 have b2 :=Ac hb2 b1 ne0
 have z2 :=hb2.size
 go_wp2_with fail
 have SK3 :=SF3 w2 hr2
 go_fit SK3
 rintro e w3 ⟨rfl,hr3,hb3⟩
 have b3 :=Ac hb3 b2 ne0
 have z3 :=hb3.size
 go_wp2_with fail
 have SK4 :=SF4 w3 hr3
 go_fit SK4
 rintro e w4 ⟨rfl,hr4,hb4⟩
 have b4 :=Ac hb4 b3 ne0
 have z4 :=hb4.size
 go_wp2_with fail
 have SK5 :=SF5 w4 hr4
 go_fit SK5
 rintro e w5 ⟨rfl,hr5,hb5⟩
 have b5 :=Ac hb5 b4 ne0
 have z5 :=hb5.size
 go_wp2_with fail
 go_fit (IF w5 hr5 (he.but ((((((But.of_below hb0).trans hb1).trans hb2).trans hb3).trans hb4).trans hb5) ha))
 rintro e w6 ⟨c,rfl,hR,hr6,hb6⟩
 have b6 :=Ac hb6 b5 ne0
 have hc :=I9 hR
 go_wp2_with (refine wpList_store_row rfl 39 _ _ rfl w.heap.size c.toArray rfl rfl 39 Ah b6 (by rw [hc.2];exact Af) hc.2.symm hc.1 ?_)
 refine bodyPost_ret (v := .agg c.toArray) (results_cell_row Tryz.results22 _ _ w.heap.size 39 _ _ _ rfl (Am b6) Tryz.underlying39 rfl (by rw [hc.2];exact Af)) rfl ⟨c,rfl, ?_, ?_, ?_⟩
 ·exact Fq.mono (fun k _ hk=>by have :w5.heap.size≤k :=hk;show w.heap.size≤k;omega) (Fq.keep ((Keeps.refl _ _).row (show ¬w5.heap.size≤w.heap.size by omega) _) hR)
 ·exact hr6.row ne0 _
 ·exact (((((((But.of_below hb0).trans hb1).trans hb2).trans hb3).trans hb4).trans hb5).trans hb6).row (Nat.le_refl _) _
set_option maxHeartbeats 4000000 in
set_option maxRecDepth 100000 in
theorem Ti (a :Nat) (s :St) (w :World) (h :Rd w a s 0) (he :Env w) (ha :16≤a) (h0 : (Ag Au s).1=false) (h1 : (Ag Cg s).1=false) (h2 : (Ag Bv s).1=false) (h3 : (Ag Cb s).1=false) (h4 : (Ag Cc s).1=false) (h5 : (Ag Ck s).1=true) :
  Calls Tryz.prog 22 #[.pointer (some ⟨a,0,none⟩)] w fun e w'=> ∃c,e= .returned (Dv c) ∧Fq.R (Fr w.heap.size) w' (Ff (Ag Ck s).2).1 c∧Rd w' a (Ff (Ag Ck s).2).2 0∧But a w w' :=by
 have hla :=h.lt
 generalize hW :w.alloc (.cells Ah 39) =W
 have HW :Hid _ :=hW
 have hb0 :Below w.heap.size w W :=by rw [←hW];exact (Below.refl _ _).alloc (Nat.le_refl _) _
 have b0 :W.heap[w.heap.size]? =some (.cells Ah 39) :=by rw [←hW];exact Ad w _
 have hWs :W.heap.size=w.heap.size+1 :=by rw [←hW,World.size_alloc]
 have ne0 :w.heap.size≠a :=by omega
 clear hW
 have SF1 :=fun v (hv :Rd v a s 0) =>Ba a Au s 0 v hv (by decide) h0
 have SF2 :=fun v (hv :Rd v a s 0) =>Ba a Cg s 0 v hv (by decide) h1
 have SF3 :=fun v (hv :Rd v a s 0) =>Ba a Bv s 0 v hv (by decide) h2
 have SF4 :=fun v (hv :Rd v a s 0) =>Ba a Cb s 0 v hv (by decide) h3
 have SF5 :=fun v (hv :Rd v a s 0) =>Ba a Cc s 0 v hv (by decide) h4
 have SF6 :=fun v (hv :Rd v a s 0) =>Du a Ck s 0 v hv (by decide) h5
 generalize (Ag Ck s).2=s1 at SF6⊢
 have IF :=fun v (h1 :Rd v a s1 0) (e1 :Env v) =>Aaf a s1 v h1 e1 ha
 generalize Ff s1=q at IF⊢
 obtain ⟨st,s2⟩ :=q
 simp only at IF⊢
 clear h0 h1 h2 h3 h4 h5
 have SK1 :=SF1 W (h.below hb0)
 go_enter Tryz.func22,Tryz.ntmps22
 go_wp2_with fail
 rw [HW.out]
 go_fit SK1
 rintro e w1 ⟨rfl,hr1,hb1⟩
 have b1 :=Ac hb1 b0 ne0
 have z1 :=hb1.size
 go_wp2_with fail
 have SK2 :=SF2 w1 hr1
 go_fit SK2
 rintro e w2 ⟨rfl,hr2,hb2⟩
 have b2 :=Ac hb2 b1 ne0
 have z2 :=hb2.size
 go_wp2_with fail
 have SK3 :=SF3 w2 hr2
 go_fit SK3
 rintro e w3 ⟨rfl,hr3,hb3⟩
 have b3 :=Ac hb3 b2 ne0
 have z3 :=hb3.size
 go_wp2_with fail
 have SK4 :=SF4 w3 hr3
 go_fit SK4
 rintro e w4 ⟨rfl,hr4,hb4⟩
 have b4 :=Ac hb4 b3 ne0
 have z4 :=hb4.size
 go_wp2_with fail
 have SK5 :=SF5 w4 hr4
 go_fit SK5
 rintro e w5 ⟨rfl,hr5,hb5⟩
 have b5 :=Ac hb5 b4 ne0
 have z5 :=hb5.size
 go_wp2_with fail
 have SK6 :=SF6 w5 hr5
 go_fit SK6
 rintro e w6 ⟨rfl,hr6,hb6⟩
 have b6 :=Ac hb6 b5 ne0
 have z6 :=hb6.size
 go_wp2_with fail
 go_fit (IF w6 hr6 (he.but (((((((But.of_below hb0).trans hb1).trans hb2).trans hb3).trans hb4).trans hb5).trans hb6) ha))
 rintro e w7 ⟨c,rfl,hR,hr7,hb7⟩
 have b7 :=Ac hb7 b6 ne0
 have hc :=I9 hR
 go_wp2_with (refine wpList_store_row rfl 39 _ _ rfl w.heap.size c.toArray rfl rfl 39 Ah b7 (by rw [hc.2];exact Af) hc.2.symm hc.1 ?_)
 refine bodyPost_ret (v := .agg c.toArray) (results_cell_row Tryz.results22 _ _ w.heap.size 39 _ _ _ rfl (Am b7) Tryz.underlying39 rfl (by rw [hc.2];exact Af)) rfl ⟨c,rfl, ?_, ?_, ?_⟩
 ·exact Fq.mono (fun k _ hk=>by have :w6.heap.size≤k :=hk;show w.heap.size≤k;omega) (Fq.keep ((Keeps.refl _ _).row (show ¬w6.heap.size≤w.heap.size by omega) _) hR)
 ·exact hr7.row ne0 _
 ·exact ((((((((But.of_below hb0).trans hb1).trans hb2).trans hb3).trans hb4).trans hb5).trans hb6).trans hb7).row (Nat.le_refl _) _
set_option maxHeartbeats 4000000 in
set_option maxRecDepth 100000 in
theorem U3 (a :Nat) (s :St) (w :World) (h :Rd w a s 0) (h0 : (Ag Au s).1=false) (h1 : (Ag Cg s).1=false) (h2 : (Ag Bv s).1=false) (h3 : (Ag Cb s).1=false) (h4 : (Ag Cc s).1=false) (h5 : (Ag Ck s).1=false) :
  Calls Tryz.prog 22 #[.pointer (some ⟨a,0,none⟩)] w fun e w'=> ∃c,e= .returned (Dv c) ∧Fq.R (Fr w.heap.size) w' Stm.nil c∧Rd w' a none 0∧But a w w' :=by
 have hla :=h.lt
 generalize hW :w.alloc (.cells Ah 39) =W
 have HW :Hid _ :=hW
 have hb0 :Below w.heap.size w W :=by rw [←hW];exact (Below.refl _ _).alloc (Nat.le_refl _) _
 have b0 :W.heap[w.heap.size]? =some (.cells Ah 39) :=by rw [←hW];exact Ad w _
 have hWs :W.heap.size=w.heap.size+1 :=by rw [←hW,World.size_alloc]
 have ne0 :w.heap.size≠a :=by omega
 clear hW
 have SF1 :=fun v (hv :Rd v a s 0) =>Ba a Au s 0 v hv (by decide) h0
 have SF2 :=fun v (hv :Rd v a s 0) =>Ba a Cg s 0 v hv (by decide) h1
 have SF3 :=fun v (hv :Rd v a s 0) =>Ba a Bv s 0 v hv (by decide) h2
 have SF4 :=fun v (hv :Rd v a s 0) =>Ba a Cb s 0 v hv (by decide) h3
 have SF5 :=fun v (hv :Rd v a s 0) =>Ba a Cc s 0 v hv (by decide) h4
 have SF6 :=fun v (hv :Rd v a s 0) =>Ba a Ck s 0 v hv (by decide) h5
 clear h0 h1 h2 h3 h4 h5
 have SK1 :=SF1 W (h.below hb0)
 go_enter Tryz.func22,Tryz.ntmps22
 go_wp2_with fail
 rw [HW.out]
 go_fit SK1
 rintro e w1 ⟨rfl,hr1,hb1⟩
 have b1 :=Ac hb1 b0 ne0
 have z1 :=hb1.size
 go_wp2_with fail
 have SK2 :=SF2 w1 hr1
 go_fit SK2
 rintro e w2 ⟨rfl,hr2,hb2⟩
 have b2 :=Ac hb2 b1 ne0
 have z2 :=hb2.size
 go_wp2_with fail
 have SK3 :=SF3 w2 hr2
 go_fit SK3
 rintro e w3 ⟨rfl,hr3,hb3⟩
 have b3 :=Ac hb3 b2 ne0
 have z3 :=hb3.size
 go_wp2_with fail
 have SK4 :=SF4 w3 hr3
 go_fit SK4
 rintro e w4 ⟨rfl,hr4,hb4⟩
 have b4 :=Ac hb4 b3 ne0
 have z4 :=hb4.size
 go_wp2_with fail
 have SK5 :=SF5 w4 hr4
 go_fit SK5
 rintro e w5 ⟨rfl,hr5,hb5⟩
 have b5 :=Ac hb5 b4 ne0
 have z5 :=hb5.size
 go_wp2_with fail
 have SK6 :=SF6 w5 hr5
 go_fit SK6
 rintro e w6 ⟨rfl,hr6,hb6⟩
 have b6 :=Ac hb6 b5 ne0
 have z6 :=hb6.size
 go_wp2_with fail
 go_fit (K5 a s 0 w6 hr6)
 rintro e w7 ⟨rfl,hr7,hb7⟩
 have b7 :=Ac hb7 b6 ne0
 have hone : (Ah).all (·.oneCell') =true :=Cy (Al _ _ _) (Al _ _ _) (Al _ _ _) (Al _ _ _) (Al _ _ _) (Al _ _ _) (Al _ _ _)
 go_wp2_with (refine wpList_store_row rfl 39 _ _ rfl w.heap.size Ah rfl rfl 39 Ah b7 Af rfl hone ?_)
 refine bodyPost_ret (v := .agg Ah) (results_cell_row Tryz.results22 _ _ w.heap.size 39 _ _ _ rfl (Am b7) Tryz.underlying39 rfl Af) rfl ⟨Ah.toList,rfl, ?_, ?_, ?_⟩
 ·exact D8 (IsL.nil _ _ _) (IsL.nil _ _ _) (IsL.nil _ _ _) (IsL.nil _ _ _) (IsL.nil _ _ _) (Dy _ _) (IsL.nil _ _ _)
 ·exact hr7.row ne0 _
 ·exact ((((((((But.of_below hb0).trans hb1).trans hb2).trans hb3).trans hb4).trans hb5).trans hb6).trans hb7).row (Nat.le_refl _) _
theorem Wa :Em 22 Fq Dv Bm 0 :=by
 intro a s w h he ha
 cases h0 : (Ag Au s).1
 case true=>
  have e :Bm s=Fj (Ag Au s).2 :=by simp only [Bm,h0,if_true]
  rw [e]
  exact R1 a s w h he ha h0
 cases h1 : (Ag Cg s).1
 case true=>
  have e :Bm s=J7 (Ag Cg s).2 :=by simp only [Bm,h0,h1,Bool.false_eq_true,if_false,if_true]
  rw [e]
  exact U2 a s w h he ha h0 h1
 cases h2 : (Ag Bv s).1
 case true=>
  have e :Bm s=Hc (Ag Bv s).2 :=by simp only [Bm,h0,h1,h2,Bool.false_eq_true,if_false,if_true]
  rw [e]
  exact R2 a s w h he ha h0 h1 h2
 cases h3 : (Ag Cb s).1
 case true=>
  have e :Bm s=Hd (Ag Cb s).2 :=by simp only [Bm,h0,h1,h2,h3,Bool.false_eq_true,if_false,if_true]
  rw [e]
  exact R3 a s w h he ha h0 h1 h2 h3
 cases h4 : (Ag Cc s).1
 case true=>
  have e :Bm s=He (Ag Cc s).2 :=by simp only [Bm,h0,h1,h2,h3,h4,Bool.false_eq_true,if_false,if_true]
  rw [e]
  exact R4 a s w h he ha h0 h1 h2 h3 h4
 cases h5 : (Ag Ck s).1
 case true=>
  have e :Bm s=Ff (Ag Ck s).2 :=by simp only [Bm,h0,h1,h2,h3,h4,h5,Bool.false_eq_true,if_false,if_true]
  rw [e]
  exact Ti a s w h he ha h0 h1 h2 h3 h4 h5
 have e :Bm s= (Stm.nil,none) :=by simp only [Bm,h0,h1,h2,h3,h4,h5,Bool.false_eq_true,if_false]
 rw [e]
 exact U3 a s w h h0 h1 h2 h3 h4 h5
end Go.Proofs.YtifjaegfpdjikaaGreatDoor

namespace Go.Proofs.YtifjaegfpdjikaaGreatDoor
open Go.RowKit
theorem Aag {F :Nat→Prop} {w :World} {s :Stm} {c :List Value} (h :Fq.R F w s c) : ∃kd nm tb cl a1 k1 c1 a2 k2 c2 a3 k3 c3 a4 k4 c4 a5 k5 c5 op xk xn xs sx nx n8 a6 k6 c6 a7 k7 c7 dn nn,c= [.int .i64 kd, .string nm, .string tb, .string cl, .slice a1 k1 c1, .slice a2 k2 c2, .slice a3 k3 c3, .slice a4 k4 c4, .slice a5 k5 c5, .int .i64 op, .int .i64 xk, .int .i64 xn, .string xs, .string sx, .string nx, .int .i64 n8, .slice a6 k6 c6, .slice a7 k7 c7, .bool dn, .int .i64 nn] :=by
 obtain ⟨cols,rows,sets,frm,out,w8,order,rfl,h8,h1,h2,h3,h4,h5,h6,h7⟩ :=h.is
 obtain ⟨op,xk,xn,xs,sx,nx,n8,a6,k6,c6,rfl⟩ :=G6 (F :=F) (w :=w) (e :=s.wher) ⟨h8,h6⟩
 obtain ⟨a1,c1,rfl⟩ :=h1.shape
 obtain ⟨a2,c2,rfl⟩ :=h2.shape
 obtain ⟨a3,c3,rfl⟩ :=h3.shape
 obtain ⟨a4,c4,rfl⟩ :=h4.shape
 obtain ⟨a5,c5,rfl⟩ :=h5.shape
 obtain ⟨a7,c7,rfl⟩ :=h7.shape
 exact ⟨s.kind,s.name,s.table,s.col,a1,_,c1,a2,_,c2,a3,_,c3,a4,_,c4,a5,_,c5,op,xk,xn,xs,sx,nx,n8,a6,k6,c6,a7,_,c7,s.down,s.n,rfl⟩
theorem Wb {f :Nat} {acc :List Stm} {x :Wd} {l :List Wd} (hf :Aw (some (x ::l)) ≤f) :
  ∃f',f'<f∧Cx f acc (some (x ::l)) =Cx f' (acc++ [(Bm (some (x ::l))).1]) (Ar Cj (Bm (some (x ::l))).2) ∧Aw (Ar Cj (Bm (some (x ::l))).2) ≤f'∧Aw (Ar Cj (Bm (some (x ::l))).2) +1≤Aw (some (x ::l)) :=by
 have h1 :=Sy.shrinks (some (x ::l))
 have h2 :=T7 Cj (Bm (some (x ::l))).2
 have h3 :1≤Aw (some (x ::l)) :=by simp [Aw]
 cases f with
 | zero=>omega
 | succ f=>exact ⟨f,by omega,rfl,by omega,by omega⟩
theorem Abm : (Tryz.prog.info? 39).map (fun i=> (i.zero,i.size,i.bytes)) =some (some (.agg Ah),20,320) :=by kernel_rfl
set_option maxHeartbeats 4000000 in
set_option maxRecDepth 100000 in
theorem U4 (a :Nat) (s :St) (w :World) (h :Rd w a s 0) (he :Env w) (ha :16≤a) :
  Calls Tryz.prog 11 #[.pointer (some ⟨a,0,none⟩)] w fun e w'=> ∃sv ok,e= .returned (.tuple #[sv, .bool ok]) ∧IsL Fq (Fr w.heap.size) w' sv (Cx (Aw s) [] s).1∧ (ok=true↔ (Cx (Aw s) [] s).2=some []) ∧But a w w' :=by
 obtain ⟨i0,hi,hz0,hz1,hz2⟩ :=info_parts Abm
 have hla :=h.lt
 have hln :=h.len
 generalize hR :Cx (Aw s) [] s=R
 have HR :Hid _ :=hR
 clear hR
 go_enter Tryz.func11,Tryz.ntmps11
 go_wp2_with fail
 go_loopg [4] (Aw s) (fun f z wr=> ∃acc cs σ,wr.ownsRow w.heap.size 39 20 z acc.length cs∧All Fq (FO w.heap.size z) wr acc cs∧Rd wr a σ 0∧Hid (R=Cx f acc σ∧Aw σ≤f) ∧acc.length+Aw σ≤1600∧But a w wr)
 case atStart=>exact ⟨[],[],s,World.ownsRow_nil _ _ _ _,rfl,h,⟨HR.out.symm,Nat.le_refl _⟩,by simp;omega,But.refl _ _⟩
 case round=>
  clear HR
  obtain ⟨acc,cs,σ,hown,hall,hrd,HF,hlen,hBut⟩ :=hrel
  have HALL :Hid _ :=hall
  clear hall
  have HRD :Hid _ :=hrd
  obtain ⟨x,r,b,hc,hre⟩ :=hrd
  obtain ⟨d0,d1,d2,d3⟩ :=hc.cells
  by_cases hx :x.size=0
  ·have hem :x.toList.isEmpty=true :=by rw [Hz hx,Lib.toList_data];rfl
   have HFin :Hid (R= (acc,σ) ∧ (b=false↔σ=some [])) :=by
    rcases hre.empty hx with ⟨rfl,rfl⟩ | ⟨rfl,rfl⟩
    ·exact ⟨HF.out.1.trans Acu.1,by simp⟩
    ·exact ⟨HF.out.1.trans Acu.2,by simp⟩
   clear HF hre hx
   go_wp2_with fail
   go_quiet (fail)
   go_wp2_with fail
   go_ret2
   refine ⟨_,_,rfl, ?_, ?_,hBut.trans (.of_below (below_drewN (Below.refl _ _) _))⟩
   ·rw [HFin.out.1]
    have g :IsL Fq (Fr w.heap.size) wr u4 acc := ⟨cs,E8.of_own hown (fun k hk=>hk),All.mono (F :=FO w.heap.size u4) (fun k _ hk=>hk.1) HALL.out⟩
    exact g.keep (Bb (below_drewN (Below.refl _ _) _))
   ·rw [HFin.out.1,←HFin.out.2]
    cases b<;>simp
  ·have hem :x.toList.isEmpty=false :=by rw [Lib.toList_data,Dt x (by omega)];rfl
   obtain ⟨hσ,_,_,_⟩ :=hre.at (by omega)
   obtain ⟨f',hf',HNx⟩ : ∃f',f'<gk∧Hid (R=Cx f' (acc++ [(Bm σ).1]) (Ar Cj (Bm σ).2) ∧Aw (Ar Cj (Bm σ).2) ≤f'∧Aw (Ar Cj (Bm σ).2) +1≤Aw σ) :=by
    have h2 :=HF.out.2
    have h1 :=HF.out.1
    rw [hσ] at h1 h2⊢
    obtain ⟨f',g1,g2,g3,g4⟩ :=Wb (acc :=acc) h2
    exact ⟨f',g1,h1.trans g2,g3,g4⟩
   clear HF hre hσ hx
   have CM :=Wa a σ wr HRD.out (he.but hBut ha) ha
   generalize Bm σ=q at CM HNx
   obtain ⟨st,s2⟩ :=q
   simp only at CM HNx
   have WF :=fun v (h1 :Rd v a s2 0) =>Hi a Cj s2 0 v h1 (by decide)
   generalize Ar Cj s2=s3 at WF HNx
   have HL2 :Hid (Aw s3+1≤Aw σ) :=HNx.out.2.2
   go_wp2_with (first
    | (go_at_call 22;go_must (go_fit CM;rintro e w3 ⟨c3,rfl,hR3,hr3,hb3⟩;obtain ⟨kd,nm,tb,cl,a1,k1,c1,a2,k2,c2,a3,k3,c3,a4,k4,c4,a5,k5,c5,op,xk,xn,xs,sx,nx,n8,a6,k6,c6,a7,k7,c7,dn,nn,rfl⟩ :=Aag hR3;simp only [Dv];have hown3 := (Er hown hb3 hla).alloc (.cells [.int .i64 kd, .string nm, .string tb, .string cl, .slice a1 k1 c1, .slice a2 k2 c2, .slice a3 k3 c3, .slice a4 k4 c4, .slice a5 k5 c5, .int .i64 op, .int .i64 xk, .int .i64 xn, .string xs, .string sx, .string nx, .int .i64 n8, .slice a6 k6 c6, .slice a7 k7 c7, .bool dn, .int .i64 nn].toArray 39);have hnew :=B2 w3 [.int .i64 kd, .string nm, .string tb, .string cl, .slice a1 k1 c1, .slice a2 k2 c2, .slice a3 k3 c3, .slice a4 k4 c4, .slice a5 k5 c5, .int .i64 op, .int .i64 xk, .int .i64 xn, .string xs, .string sx, .string nx, .int .i64 n8, .slice a6 k6 c6, .slice a7 k7 c7, .bool dn, .int .i64 nn] 39;have hbase :w.heap.size≤ (w3.alloc (.cells [.int .i64 kd, .string nm, .string tb, .string cl, .slice a1 k1 c1, .slice a2 k2 c2, .slice a3 k3 c3, .slice a4 k4 c4, .slice a5 k5 c5, .int .i64 op, .int .i64 xk, .int .i64 xn, .string xs, .string sx, .string nx, .int .i64 n8, .slice a6 k6 c6, .slice a7 k7 c7, .bool dn, .int .i64 nn].toArray 39)).heap.size :=Nat.le_trans (hBut.trans hb3).size (by simp)))
    | (at_builtin;go_must (refine wpList_append_own_at _ rfl _ _ 22 rfl w.heap.size 39 i0 (.agg Ah) 20 320 Tryz.underlying22 hi hz0 hz1 hz2 rfl (by decide) _ _ _ rfl hown3 ⟨w3.heap.size,0,none⟩ 1 1 [.int .i64 kd, .string nm, .string tb, .string cl, .slice a1 k1 c1, .slice a2 k2 c2, .slice a3 k3 c3, .slice a4 k4 c4, .slice a5 k5 c5, .int .i64 op, .int .i64 xk, .int .i64 xn, .string xs, .string sx, .string nx, .int .i64 n8, .slice a6 k6 c6, .slice a7 k7 c7, .bool dn, .int .i64 nn] rfl rfl hnew ?h1 (by simp only [maxLen];omega) (by omega) hbase ?h2)))
   case h1=>simp only [List.forall_mem_cons];repeat (first | exact fun _ h=>absurd h List.not_mem_nil | refine ⟨rfl, ?_⟩)
   case h2=>
    intro z2 w4 hown4 hg4 _ hat
    have hbn :Below w3.heap.size w3 (w3.alloc (.cells [.int .i64 kd, .string nm, .string tb, .string cl, .slice a1 k1 c1, .slice a2 k2 c2, .slice a3 k3 c3, .slice a4 k4 c4, .slice a5 k5 c5, .int .i64 op, .int .i64 xk, .int .i64 xn, .string xs, .string sx, .string nx, .int .i64 n8, .slice a6 k6 c6, .slice a7 k7 c7, .bool dn, .int .i64 nn].toArray 39)) := (Below.refl _ _).alloc (Nat.le_refl _) _
    have hr4 :=Rd.grown hown3 hg4 (hr3.below hbn) hla
    have hB4 :But a w w4 :=I8 hown3 hg4 ((hBut.trans hb3).alloc _) (Nat.le_refl _)
    have HALL4 :Hid (All Fq (FO w.heap.size z2) w4 (acc++ [st]) (cs++ [.int .i64 kd, .string nm, .string tb, .string cl, .slice a1 k1 c1, .slice a2 k2 c2, .slice a3 k3 c3, .slice a4 k4 c4, .slice a5 k5 c5, .int .i64 op, .int .i64 xk, .int .i64 xn, .string xs, .string sx, .string nx, .int .i64 n8, .slice a6 k6 c6, .slice a7 k7 c7, .bool dn, .int .i64 nn])) :=by
     have nFa : ¬FO w.heap.size u4 a :=by intro hf;have :=hf.1;omega
     have g1 :All Fq (FO w.heap.size u4) (w3.alloc (.cells [.int .i64 kd, .string nm, .string tb, .string cl, .slice a1 k1 c1, .slice a2 k2 c2, .slice a3 k3 c3, .slice a4 k4 c4, .slice a5 k5 c5, .int .i64 op, .int .i64 xk, .int .i64 xn, .string xs, .string sx, .string nx, .int .i64 n8, .slice a6 k6 c6, .slice a7 k7 c7, .bool dn, .int .i64 nn].toArray 39)) acc cs :=All.keep ((hb3.keeps nFa).alloc _) HALL.out
     have hat' :z2.ownBlock=u4.ownBlock∨z2.ownBlock=some (w3.alloc (.cells [.int .i64 kd, .string nm, .string tb, .string cl, .slice a1 k1 c1, .slice a2 k2 c2, .slice a3 k3 c3, .slice a4 k4 c4, .slice a5 k5 c5, .int .i64 op, .int .i64 xk, .int .i64 xn, .string xs, .string sx, .string nx, .int .i64 n8, .slice a6 k6 c6, .slice a7 k7 c7, .bool dn, .int .i64 nn].toArray 39)).heap.size :=by rw [World.size_alloc];exact hat
     have hzl : ∀k,some k=u4.ownBlock→k<wr.heap.size :=fun k e=> (hown.lt k e.symm).2
     have g2 :All Fq (FO w.heap.size u4) (w3.alloc (.cells [.int .i64 kd, .string nm, .string tb, .string cl, .slice a1 k1 c1, .slice a2 k2 c2, .slice a3 k3 c3, .slice a4 k4 c4, .slice a5 k5 c5, .int .i64 op, .int .i64 xk, .int .i64 xn, .string xs, .string sx, .string nx, .int .i64 n8, .slice a6 k6 c6, .slice a7 k7 c7, .bool dn, .int .i64 nn].toArray 39)) [st] [.int .i64 kd, .string nm, .string tb, .string cl, .slice a1 k1 c1, .slice a2 k2 c2, .slice a3 k3 c3, .slice a4 k4 c4, .slice a5 k5 c5, .int .i64 op, .int .i64 xk, .int .i64 xn, .string xs, .string sx, .string nx, .int .i64 n8, .slice a6 k6 c6, .slice a7 k7 c7, .bool dn, .int .i64 nn] :=All.keep (Bb hbn) (All.one (Fq.mono (fun k _ hf=> ⟨by have :wr.heap.size≤k :=hf;have :=hBut.size;omega,fun e=>by have :wr.heap.size≤k :=hf;have :=hzl k e;omega⟩) hR3))
     exact All.mono (fun k hk hf=> ⟨hf.1,hf.2.2⟩) (All.keep (F :=fun k=>w.heap.size≤k∧some k≠u4.ownBlock∧some k≠z2.ownBlock) ⟨hg4.size,fun k hk hl=>hg4.block k hl hk.2.1⟩ (All.mono (fun k hk hf=> ⟨hf.1,hf.2,(I7 hat' k hk hf).2⟩) (g1.append g2)))
    have hown5 :w4.ownsRow w.heap.size 39 20 z2 (acc++ [st]).length (cs++ [.int .i64 kd, .string nm, .string tb, .string cl, .slice a1 k1 c1, .slice a2 k2 c2, .slice a3 k3 c3, .slice a4 k4 c4, .slice a5 k5 c5, .int .i64 op, .int .i64 xk, .int .i64 xn, .string xs, .string sx, .string nx, .int .i64 n8, .slice a6 k6 c6, .slice a7 k7 c7, .bool dn, .int .i64 nn]) :=by rw [List.length_append];exact hown4
    have hl4 : (acc++ [st]).length=acc.length+1 :=by simp
    clear hown4 hnew hbase hown3 hR3 CM
    generalize cs++ [.int .i64 kd, .string nm, .string tb, .string cl, .slice a1 k1 c1, .slice a2 k2 c2, .slice a3 k3 c3, .slice a4 k4 c4, .slice a5 k5 c5, .int .i64 op, .int .i64 xk, .int .i64 xn, .string xs, .string sx, .string nx, .int .i64 n8, .slice a6 k6 c6, .slice a7 k7 c7, .bool dn, .int .i64 nn] =cs2 at hown5 HALL4
    go_wp2_with (go_at_call 23;go_must (go_fit (WF w4 hr4 _ rfl);rintro e w5 ⟨rfl,hr5,hb5⟩))
    go_roundg f'
    case measure=>exact hf'
    case rel=>
     refine ⟨acc++ [st],cs2,s3,Er hown5 hb5 hla,All.keep (hb5.keeps (by intro hf;have :=hf.1;omega)) HALL4.out,hr5,⟨HNx.out.1,HNx.out.2.1⟩, ?_,hB4.trans hb5⟩
     have :=HL2.out
     rw [hl4];omega
end Go.Proofs.YtifjaegfpdjikaaGreatDoor

namespace Go.Proofs.YtifjaegfpdjikaaGreatDoor
open Go.RowKit
def Eb (t :List UInt8) :List Stm×Int :=
 if 1500<t.length then ([],2) else match Ei (By t) with
  | none=> ([],1)
  | some l=>if 6<l.length then ([],2) else (l,0)
set_option maxHeartbeats 2000000 in
theorem Rg (t :ByteArray) (w :World) (he :Env w) :
  Calls Tryz.prog 4 #[.string t] w fun e w'=> ∃sv,e= .returned (.tuple #[sv, .int .i64 (Eb t.data.toList).2]) ∧IsL Fq (Fr w.heap.size) w' sv (Eb t.data.toList).1∧Below w.heap.size w w' :=by
 by_cases hl :1500<t.size
 ·have e :Eb t.data.toList= ([],2) :=by rw [Eb,if_pos (by rw [Bi];exact hl)]
  rw [e]
  have h1 : (1500 :Int) < (t.size :Int) :=by omega
  go_enter Tryz.func4,Tryz.ntmps4
  go_wp2_with fail
  go_ret2
  exact ⟨_,rfl,IsL.nil _ _ _,Below.refl _ _⟩
 ·have e :Eb t.data.toList=match Ei (By t.data.toList) with
    | none=> ([],1)
    | some l=>if 6<l.length then ([],2) else (l,0) :=by rw [Eb,if_neg (by rw [Bi];exact hl)]
  have h1 : ¬ (1500 :Int) < (t.size :Int) :=by omega
  have NR :=S6 t w (by omega)
  have hy :=fun ss=>Xj (l :=By t.data.toList) (ss :=ss)
  have hn :=Zi (l :=By t.data.toList)
  generalize adv (By t.data.toList) =s at NR hy hn
  have CF :=fun a v (hr :Rd v a s 0) (e1 :Env v) (ha :16≤a) =>U4 a s v hr e1 ha
  generalize Cx (Aw s) [] s=R at CF hy hn
  obtain ⟨l,sf⟩ :=R
  simp only at CF hn
  have HE :Hid ((sf=some [] →Eb t.data.toList=if 6<l.length then ([],2) else (l,0)) ∧ (sf≠some [] →Eb t.data.toList= ([],1))) :=by
   constructor
   ·intro hs
    rw [e]
    cases hr :Ei (By t.data.toList) with
    | none=>exact absurd hs (hn hr)
    | some ss=>
     have :=hy ss hr
     simp only [Prod.mk.injEq] at this
     rw [this.1]
   ·intro hs
    rw [e]
    cases hr :Ei (By t.data.toList) with
    | none=>rfl
    | some ss=>
     have :=hy ss hr
     simp only [Prod.mk.injEq] at this
     exact absurd this.2 hs
  generalize Eb t.data.toList=A at HE⊢
  clear e hy hn
  go_enter Tryz.func4,Tryz.ntmps4
  go_wp2_with (go_at_call 10;go_must (go_fit NR;rintro e w1 ⟨a,rfl,ha,hr1,hb1⟩))
  have hl0 :=he.low
  go_fit (CF a w1 hr1 (he.next hb1) (by omega))
  rintro e w2 ⟨sv,ok,rfl,hL,hok,hb2⟩
  have hbb :Below w.heap.size w w2 :=hb1.trans (hb2.below ha hb1.size)
  have hL1 :IsL Fq (Fr w.heap.size) w2 sv l :=hL.mono (fun k _ hk=>by have h1 :w1.heap.size≤k :=hk;have :=hb1.size;show w.heap.size≤k;omega)
  obtain ⟨ao,cp,rfl⟩ :=hL1.shape
  have HOK :Hid _ :=hok
  have HL :Hid _ :=hL1
  clear hok hL hL1
  cases ok
  ·have hA :A= ([],1) :=HE.out.2 (fun h=>by have :=HOK.out.2 h;cases this)
   subst hA
   go_wp2_with fail
   go_ret2
   exact ⟨_,rfl,IsL.nil _ _ _,hbb⟩
  ·have hA :=HE.out.1 (HOK.out.1 rfl)
   by_cases h6 :6<l.length
   ·rw [if_pos h6] at hA
    subst hA
    have g6 : (6 :Int) < (l.length :Int) :=by omega
    go_wp2_with fail
    go_ret2
    exact ⟨_,rfl,IsL.nil _ _ _,hbb⟩
   ·rw [if_neg h6] at hA
    subst hA
    have g6 : ¬ (6 :Int) < (l.length :Int) :=by omega
    go_wp2_with fail
    go_ret2
    exact ⟨_,rfl,HL.out,hbb⟩
end Go.Proofs.YtifjaegfpdjikaaGreatDoor

namespace Go.Proofs.YtifjaegfpdjikaaGreatDoor
open Go.RowKit
def Tk (e :E) :Prop := ∀ (F F' :Nat→Prop) (w :World) (v v' :Value),IsE F w e v→IsE F' w e v'→Calls Tryz.prog 20 #[v,v'] w fun r w'=>r= .returned (.bool true) ∧Below w.heap.size w w'
def U5 (l :List E) :Prop := ∀ (F F' :Nat→Prop) (w :World) (v v' :Value),Jx F w v l→Jx F' w v' l→Calls Tryz.prog 19 #[v,v'] w fun r w'=>r= .returned (.bool true) ∧Below w.heap.size w w'
set_option maxRecDepth 100000 in
set_option maxHeartbeats 2000000 in
theorem Wc (op :Int) (x :V) (s name :Wd) (n :Int) (l :List E) (hl :U5 l) :Tk (.mk op x s name n l) :=by
 intro F F' w v v' h1 h2
 obtain ⟨sv,rfl,h3⟩ :=h1.open
 obtain ⟨sv',rfl,h4⟩ :=h2.open
 obtain ⟨ao,cap,rfl⟩ :=h3.shape
 obtain ⟨ao',cap',rfl⟩ :=h4.shape
 obtain ⟨xk,xn,xs⟩ :=x
 have hb :Below w.heap.size w ((w.alloc (.cells (A2 op ⟨xk,xn,xs⟩ s name n (.slice ao l.length cap)) 37)).alloc (.cells (A2 op ⟨xk,xn,xs⟩ s name n (.slice ao' l.length cap')) 37)) :=Kn _ _ _
 have SE :=hl F F' _ _ _ (h3.keep (Bb hb)) (h4.keep (Bb hb))
 go_enter Tryz.func20,Tryz.ntmps20
 go_wp2_with (go_at_call 19;go_must (go_fit SE;rintro e w1 ⟨rfl,hb1⟩))
 go_ret
 exact ⟨rfl,hb.trans (hb1.mono hb.size)⟩
set_option maxRecDepth 100000 in
set_option maxHeartbeats 4000000 in
theorem Oj (l :List E) (h : ∀e∈l,Tk e) :U5 l :=by
 intro F F' w v v' ⟨cs,hr,ha⟩ ⟨cs',hr',ha'⟩
 obtain ⟨ao,cap,rfl⟩ :=hr.shape
 obtain ⟨ao',cap',rfl⟩ :=hr'.shape
 have hlen :l.length≤maxLen :=by
  rcases hr.2 with ⟨h1,_⟩ | ⟨_,b',o',c',he,_,_,h5,h6,_⟩
  ·rw [h1];exact Nat.zero_le _
  ·omega
 unfold maxLen at hlen
 have q0 : ((l.length :Int) == (l.length :Int)) =true :=by simp
 go_enter Tryz.func19,Tryz.ntmps19
 go_wp2_with fail
 go_loopg [13] l.length (fun f i wr=> ∃k :Nat,i= .int .i64 k∧k+f=l.length∧Below w.heap.size w wr)
 case atStart=>exact ⟨0,rfl,by simp,Below.refl _ _⟩
 case round=>
  obtain ⟨k,rfl,hkf,hB⟩ :=hrel
  by_cases hlt :k<l.length
  ·obtain ⟨e,he⟩ : ∃e,l[k]? =some e := ⟨_,List.getElem?_eq_getElem hlt⟩
   obtain ⟨b,off,hceq⟩ : ∃b off,ao=some ⟨b,off,none⟩ :=by
    rcases hr.2 with ⟨h1,_⟩ | ⟨_,b',o',c',he',_⟩
    ·omega
    ·cases he';exact ⟨b',o',rfl⟩
   obtain ⟨b1,off1,hceq1⟩ : ∃b off,ao'=some ⟨b,off,none⟩ :=by
    rcases hr'.2 with ⟨h1,_⟩ | ⟨_,b',o',c',he',_⟩
    ·omega
    ·cases he';exact ⟨b',o',rfl⟩
   subst hceq hceq1
   obtain ⟨xo,xk,xn,xs2,xs,xm,xi,xa,xl,xc,hx,kx⟩ :=Ue hr ha he
   obtain ⟨yo,yk,yn,ys2,ys,ym,yi,ya,yl,yc,hy,ky⟩ :=Ue hr' ha' he
   have SE :=h e (List.mem_of_getElem? he) F F' wr.drew _ _ (IsE.keep (Bb hB.drew) _ _ hx) (IsE.keep (Bb hB.drew) _ _ hy)
   have KS :Hid (∀V,Below w.heap.size w V→V.cell? ⟨b,off+k*8,none⟩ =some (.int .i64 xo) ∧V.cell? ⟨b,off+k*8+1,none⟩ =some (.int .i64 xk) ∧V.cell? ⟨b,off+k*8+2,none⟩ =some (.int .i64 xn) ∧V.cell? ⟨b,off+k*8+3,none⟩ =some (.string xs2) ∧V.cell? ⟨b,off+k*8+4,none⟩ =some (.string xs) ∧V.cell? ⟨b,off+k*8+5,none⟩ =some (.string xm) ∧V.cell? ⟨b,off+k*8+6,none⟩ =some (.int .i64 xi) ∧V.cell? ⟨b,off+k*8+7,none⟩ =some (.slice xa xl xc) ∧V.cell? ⟨b1,off1+k*8,none⟩ =some (.int .i64 yo) ∧V.cell? ⟨b1,off1+k*8+1,none⟩ =some (.int .i64 yk) ∧V.cell? ⟨b1,off1+k*8+2,none⟩ =some (.int .i64 yn) ∧V.cell? ⟨b1,off1+k*8+3,none⟩ =some (.string ys2) ∧V.cell? ⟨b1,off1+k*8+4,none⟩ =some (.string ys) ∧V.cell? ⟨b1,off1+k*8+5,none⟩ =some (.string ym) ∧V.cell? ⟨b1,off1+k*8+6,none⟩ =some (.int .i64 yi) ∧V.cell? ⟨b1,off1+k*8+7,none⟩ =some (.slice ya yl yc)) :=fun V hV=>by
    obtain ⟨a0,a1,a2,a3,a4,a5,a6,a7⟩ :=kx V hV
    exact ⟨a0,a1,a2,a3,a4,a5,a6,a7,ky V hV⟩
   have j0 : (0 :Int) ≤ (k :Int) :=by omega
   have j1 : (k :Int) < (l.length :Int) :=by omega
   clear hx hy kx ky hr ha hr' ha' he h
   generalize l.length=nn at*
   clear l
   go_upto_region 6 with fail
   go_region_held3 (fun V=>V.cell? ⟨b,off+k*8,none⟩ =some (.int .i64 xo) ∧V.cell? ⟨b,off+k*8+1,none⟩ =some (.int .i64 xk) ∧V.cell? ⟨b,off+k*8+2,none⟩ =some (.int .i64 xn) ∧V.cell? ⟨b,off+k*8+3,none⟩ =some (.string xs2) ∧V.cell? ⟨b,off+k*8+4,none⟩ =some (.string xs) ∧V.cell? ⟨b,off+k*8+5,none⟩ =some (.string xm) ∧V.cell? ⟨b,off+k*8+6,none⟩ =some (.int .i64 xi) ∧V.cell? ⟨b,off+k*8+7,none⟩ =some (.slice xa xl xc) ∧V.cell? ⟨b1,off1+k*8,none⟩ =some (.int .i64 yo) ∧V.cell? ⟨b1,off1+k*8+1,none⟩ =some (.int .i64 yk) ∧V.cell? ⟨b1,off1+k*8+2,none⟩ =some (.int .i64 yn) ∧V.cell? ⟨b1,off1+k*8+3,none⟩ =some (.string ys2) ∧V.cell? ⟨b1,off1+k*8+4,none⟩ =some (.string ys) ∧V.cell? ⟨b1,off1+k*8+5,none⟩ =some (.string ym) ∧V.cell? ⟨b1,off1+k*8+6,none⟩ =some (.int .i64 yi) ∧V.cell? ⟨b1,off1+k*8+7,none⟩ =some (.slice ya yl yc))
    (with_reducible first | exact KS.out _ hB.drew | exact KS.out _ hz)
    ((go_at_call 20;refine (SE).mono ?_;rintro e w2 ⟨rfl,hb2⟩;have hz :Below w.heap.size w w2 :=hB.drew.trans (hb2.mono hB.size)))
   go_wp2_with fail
   go_roundg (gk - 1)
   case measure=>omega
   case rel=>exact ⟨k+1,by go_num,by omega,hz⟩
  ·have j1 : ¬ (k :Int) < (l.length :Int) :=by omega
   clear hr ha hr' ha' h
   go_wp2_with fail
   go_ret
   exact ⟨rfl,hB⟩
mutual
theorem P6 : ∀e :E,Tk e
 | .mk op x s name n l=>Wc op x s name n l (Oj l (Ok l))
theorem Ok : ∀ (l :List E),∀e∈l,Tk e
 | [],_,h=>absurd h (by simp)
 | a ::l,e,h=> (List.mem_cons.1 h).elim (fun he=>he▸P6 a) (fun h=>Ok l e h)
end
theorem Yq (l :List E) :U5 l :=Oj l (Ok l)
end Go.Proofs.YtifjaegfpdjikaaGreatDoor

