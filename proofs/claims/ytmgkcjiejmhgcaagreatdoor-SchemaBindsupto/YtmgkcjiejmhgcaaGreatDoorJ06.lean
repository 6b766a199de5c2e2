/-
  2 texts of this proof in one, in build order: YExpr, YIndexD.
-/
import Derived.BigRegion
import Derived.Deep.QuietTactic
import Derived.BigQuiet
import Derived.Deep.RegionHeld3
import Derived.Test.YtmgkcjiejmhgcaaGreatDoorJ02
import Derived.Test.YtmgkcjiejmhgcaaGreatDoorJ05
set_option linter.unusedSimpArgs false
set_option linter.unusedVariables false
namespace Go.Proofs.YtmgkcjiejmhgcaaGreatDoor
open Go.RowKit Go.Maps
theorem D9 {α :Type} (l :List α) (q :α→Bool) :A1 (atI l q) 0 l.length=l.any q :=by
 rw [D5]
 rcases Fq l q with ⟨h1,h2⟩ | ⟨k,x,h1,h2,h3,_⟩
 ·rw [h1]
  rw [List.find?_eq_none] at h2
  have :l.any q=false :=by rw [List.any_eq_false];intro x hx;simpa using h2 x hx
  rw [this];rfl
 ·rw [h1]
  have :l.any q=true :=List.any_eq_true.2 ⟨x,List.mem_of_getElem? h2,h3⟩
  rw [this];simp
def Fd (op :Int) :Int :=if op=1∨op=2 then 0 else if op=9∨op=10 then 1 else if 3≤op∧op≤8 then 2 else -1
def E9 (op :Int) (x :V) (s name :Wd) :Bool :=if op=1 then Ey x else if op=2 then nm name&& (decide (s.size=0) || nm s) else true
def geB :Nat→E→Bool
 | 0,_=>false
 | d+1, .mk op x s name _ l=>decide ((l.length :Int) =Fd op) &&E9 op x s name&&l.all (geB d)
mutual
def D4 :E→Prop
 | .mk _ x s name _ l=>x.s.size≤maxLen∧s.size≤maxLen∧name.size≤maxLen∧Ea l
def Ea :List E→Prop
 | [] =>True
 | e ::l=>D4 e∧Ea l
end
theorem Fe : ∀ {l :List E} {e :E},Ea l→e∈l→D4 e
 | [],_,_,h=>by cases h
 | x ::l,e,h,he=>by
  rw [Ea] at h
  rcases List.mem_cons.1 he with rfl | he
  ·exact h.1
  ·exact Fe h.2 he
set_option maxHeartbeats 400000 in
theorem Ot (op :Int) (w :World) :Calls Tryz.prog 89 #[.int .i64 op] w fun e w'=>e= .returned (.int .i64 (Fd op)) ∧w'=w :=by
 by_cases g1 :op=1<;>by_cases g2 :op=2<;>by_cases h9 :op=9<;>by_cases h10 :op=10<;>by_cases h3 :op=3<;>by_cases h4 :op=4<;>by_cases h5 :op=5<;>by_cases h6 :op=6<;>by_cases h7 :op=7<;>by_cases h8 :op=8
 all_goals (try omega)
 all_goals
  have E :Hid (Fd op=if op=1∨op=2 then 0 else if op=9∨op=10 then 1 else if 3≤op∧op≤8 then 2 else -1) :=rfl
  go_enter Tryz.func89,Tryz.ntmps89
  go_wp2
  go_ret
  refine ⟨A6 ?_,rfl⟩
  rw [E.out]
  first | (rw [if_pos (by omega)];done) | (rw [if_neg (by omega),if_pos (by omega)];done) | (rw [if_neg (by omega),if_neg (by omega),if_pos (by omega)];done) | (rw [if_neg (by omega),if_neg (by omega),if_neg (by omega)];done)
set_option maxRecDepth 100000 in
set_option maxHeartbeats 1000000 in
theorem Qw (op :Int) (x :V) (s name :Wd) (n :Int) (ao :Option Addr) (k c :Nat) (w :World) (hx :x.s.size≤maxLen) (hs :s.size≤maxLen) (hn :name.size≤maxLen) :
  Calls Tryz.prog 90 #[.agg (Ad op x s name n (.slice ao k c))] w fun e w'=>e= .returned (.bool (E9 op x s name)) ∧Below w.heap.size w w' :=by
 have hG :=fun w=>Xo x w hx
 have hN :=fun w=>Gl name w hn
 have hS :=fun w=>Gl s w hs
 have hbx :=Aq w (.cells (Ad op x s name n (.slice ao k c)) 34)
 have E :Hid (E9 op x s name=if op=1 then Ey x else if op=2 then nm name&& (decide (s.size=0) || nm s) else true) :=rfl
 generalize E9 op x s name=r at E
 generalize Ey x=g at hG E
 obtain ⟨xk,xn,xs⟩ :=x
 simp only [V.val] at hG
 by_cases h1 :op=1
 ·subst h1
  clear hN hS
  go_enter Tryz.func90,Tryz.ntmps90
  go_wp2_with (go_at_call 116;go_fit (hG _);rintro e w1 ⟨rfl,rfl⟩)
  go_ret
  exact ⟨Aj (by rw [E.out];rfl),hbx.alloc hbx.size _⟩
 by_cases h2 :op=2
 ·subst h2
  have E2 :Hid (r= (nm name&& (s.toList.isEmpty || nm s))) :=by show _=_;rw [E.out,Gm];rfl
  clear hG E
  generalize nm name=b at hN E2
  generalize nm s=b2 at hS E2
  cases b
  ·go_enter Tryz.func90,Tryz.ntmps90
   go_wp2_with (go_at_call 34;first | (go_fit (hN _);rintro e w1 ⟨rfl,rfl⟩))
   go_ret
   exact ⟨Aj (by rw [E2.out];rfl),hbx⟩
  ·cases he :s.toList.isEmpty
   ·go_enter Tryz.func90,Tryz.ntmps90
    go_wp2_with (first | (go_at_call_of 34 (Value.string name);go_fit (hN _);rintro e w1 ⟨rfl,rfl⟩) | (go_at_call_of 34 (Value.string s);go_fit (hS _);rintro e w2 ⟨rfl,rfl⟩))
    go_ret
    exact ⟨Aj (by rw [E2.out,he];simp),hbx⟩
   ·go_enter Tryz.func90,Tryz.ntmps90
    go_wp2_with (first | (go_at_call_of 34 (Value.string name);go_fit (hN _);rintro e w1 ⟨rfl,rfl⟩))
    go_ret
    exact ⟨Aj (by rw [E2.out,he];simp),hbx⟩
 have E2 :Hid (r=true) :=by show _=_;rw [E.out,if_neg h1,if_neg h2]
 clear hG hN hS E
 go_enter Tryz.func90,Tryz.ntmps90
 go_wp2_with fail
 go_ret
 exact ⟨Aj (by rw [E2.out]),hbx⟩
def I3 (d :Nat) :Prop := ∀ (e :E) (v :Value) (C :Nat) (w :World),IsE (fun k=>k<C) w e v→C≤w.heap.size→D4 e→
  Calls Tryz.prog 49 #[v, .int .i64 (d :Int)] w fun r w'=>r= .returned (.bool (geB d e)) ∧Below w.heap.size w w'
set_option maxRecDepth 100000 in
set_option maxHeartbeats 2000000 in
theorem Qd :I3 0 :=by
 intro e v C w he hC hf
 obtain ⟨op,⟨xk,xn,xs⟩,s,name,n,ao,k,c,rfl⟩ :=he.shape
 have hb2 :=Bz w (.cells (Ad op ⟨xk,xn,xs⟩ s name n (.slice ao k c)) 34) (.cells #[.int .i64 0] 3)
 show Calls Tryz.prog 49 #[_, .int .i64 0] w _
 clear he hf
 go_enter Tryz.func49,Tryz.ntmps49
 go_wp2_with fail
 go_quiet (fail)
 go_wp2
 go_ret
 exact ⟨Aj (by cases e;rfl),below_drewN hb2 _⟩
set_option maxRecDepth 100000 in
set_option maxHeartbeats 2000000 in
theorem Qe (d :Nat) (hd :d+1≤40) (ih :I3 d) (e :E) (v :Value) (pb C :Nat) (w :World) (he :IsE (fun k=>k<C) w e v) (hC :C≤w.heap.size) (hf :D4 e) (hp :w.cell? ⟨pb,0,none⟩ =some (.int .i64 ((d :Int) +1))) (hpb :pb<w.heap.size) :
  Calls Tryz.prog 91 #[v, .pointer (some ⟨pb,0,none⟩)] w fun r w'=>r= .returned (.bool (!geB d e)) ∧Below w.heap.size w w' :=by
 obtain ⟨op,⟨xk,xn,xs⟩,s,name,n,ao,k,c,rfl⟩ :=he.shape
 have hbx :=Aq w (.cells (Ad op ⟨xk,xn,xs⟩ s name n (.slice ao k c)) 34)
 have HG :=ih e _ C _ (IsE.keep (Ag (hbx.mono hC)) e _ he) (Nat.le_trans hC hbx.size) hf
 generalize geB d e=r at HG
 have hp1 := (hbx.cell (p := ⟨pb,0,none⟩) hpb).trans hp
 have q1 : (d :Int) +1≤40 :=by omega
 have q2 :min ((d :Int) +1) 40= (d :Int) +1 :=by omega
 have q3 :wrap64 ((d :Int) +1 - 1) = (d :Int) :=by unfold wrap64;omega
 clear he hf
 go_enter Tryz.func91,Tryz.ntmps91
 go_wp2_with (go_at_call 49;go_fit HG;rintro e w1 ⟨rfl,hb1⟩)
 go_ret
 exact ⟨rfl,Ak hbx hb1⟩
theorem Tn {W W' :World} {g :Nat} {a0 a1 a2 a3 a4 a5 a6 a7 a8 :Value} (h :W.cell? ⟨g,0,none⟩ =some a0∧W.cell? ⟨g,1,none⟩ =some a1∧W.cell? ⟨g,2,none⟩ =some a2∧W.cell? ⟨g,3,none⟩ =some a3∧W.cell? ⟨g,4,none⟩ =some a4∧W.cell? ⟨g,5,none⟩ =some a5∧W.cell? ⟨g,6,none⟩ =some a6∧W.cell? ⟨g,7,none⟩ =some a7∧W.cell? ⟨g+1,0,none⟩ =some a8) (hb :Below W.heap.size W W') (hg :g+2≤W.heap.size) :W'.cell? ⟨g,0,none⟩ =some a0∧W'.cell? ⟨g,1,none⟩ =some a1∧W'.cell? ⟨g,2,none⟩ =some a2∧W'.cell? ⟨g,3,none⟩ =some a3∧W'.cell? ⟨g,4,none⟩ =some a4∧W'.cell? ⟨g,5,none⟩ =some a5∧W'.cell? ⟨g,6,none⟩ =some a6∧W'.cell? ⟨g,7,none⟩ =some a7∧W'.cell? ⟨g+1,0,none⟩ =some a8 :=by
 have kc : ∀b o,b<W.heap.size→W'.cell? ⟨b,o,none⟩ =W.cell? ⟨b,o,none⟩ :=fun b o hh=>hb.cell (p := ⟨b,o,none⟩) hh
 obtain ⟨h0,h1,h2,h3,h4,h5,h6,h7,h8⟩ :=h
 exact ⟨(kc _ _ (by omega)).trans h0,(kc _ _ (by omega)).trans h1,(kc _ _ (by omega)).trans h2,(kc _ _ (by omega)).trans h3,(kc _ _ (by omega)).trans h4,(kc _ _ (by omega)).trans h5,(kc _ _ (by omega)).trans h6,(kc _ _ (by omega)).trans h7,(kc _ _ (by omega)).trans h8⟩
theorem Xp (w :World) (op xk xn :Int) (xs s name :Wd) (n :Int) (ao :Option Addr) (k c :Nat) (d :Int) (W :World) (hW : (w.alloc (.cells (Ad op ⟨xk,xn,xs⟩ s name n (.slice ao k c)) 34)).alloc (.cells #[.int .i64 d] 3) =W) :
  (W.cell? ⟨w.heap.size,0,none⟩ =some (.int .i64 op) ∧W.cell? ⟨w.heap.size,1,none⟩ =some (.int .i64 xk) ∧W.cell? ⟨w.heap.size,2,none⟩ =some (.int .i64 xn) ∧W.cell? ⟨w.heap.size,3,none⟩ =some (.string xs) ∧W.cell? ⟨w.heap.size,4,none⟩ =some (.string s) ∧W.cell? ⟨w.heap.size,5,none⟩ =some (.string name) ∧W.cell? ⟨w.heap.size,6,none⟩ =some (.int .i64 n) ∧W.cell? ⟨w.heap.size,7,none⟩ =some (.slice ao k c) ∧W.cell? ⟨w.heap.size+1,0,none⟩ =some (.int .i64 d)) ∧w.heap.size+2≤W.heap.size :=by
 have b0 :W.heap[w.heap.size]? =some (.cells (Ad op ⟨xk,xn,xs⟩ s name n (.slice ao k c)) 34) :=by rw [←hW];exact Ae (Ab _ _) _
 have b1 :W.heap[w.heap.size+1]? =some (.cells #[.int .i64 d] 3) :=by rw [←hW];exact A0 _ _ _
 exact ⟨⟨Aa b0 rfl,Aa b0 rfl,Aa b0 rfl,Aa b0 rfl,Aa b0 rfl,Aa b0 rfl,Aa b0 rfl,Aa b0 rfl,Aa b1 rfl⟩,lt_of_block b1⟩
set_option maxRecDepth 100000 in
set_option maxHeartbeats 4000000 in
theorem Qf (d :Nat) (hd :d+1≤40) (ih :I3 d) :I3 (d+1) :=by
 intro e v C w he hC hf
 cases e with
 | mk op x s name n l=>
  obtain ⟨sv,rfl,hes⟩ :=he.open
  obtain ⟨ao,c,rfl⟩ :=hes.shape
  obtain ⟨xk,xn,xs⟩ :=x
  rw [D4] at hf
  obtain ⟨hfx,hfs,hfn,hfl⟩ :=hf
  simp only at hfx
  have hb2 :=Bz w (.cells (Ad op ⟨xk,xn,xs⟩ s name n (.slice ao l.length c)) 34) (.cells #[.int .i64 ((d :Int) +1)] 3)
  have HL :=fun w=>Qw op ⟨xk,xn,xs⟩ s name n ao l.length c w hfx hfs hfn
  have HA :=fun w=>Ot op w
  have E :Hid (geB (d+1) (.mk op ⟨xk,xn,xs⟩ s name n l) = (decide ((l.length :Int) =Fd op) &&E9 op ⟨xk,xn,xs⟩ s name&&l.all (geB d))) :=rfl
  generalize geB (d+1) (.mk op ⟨xk,xn,xs⟩ s name n l) =r at E
  generalize E9 op ⟨xk,xn,xs⟩ s name=lf at HL E
  generalize Fd op=ar at HA E
  rw [show ((d+1 :Nat) :Int) = (d :Int) +1 from by omega]
  have q0 : ¬ (d :Int) +1<1 :=by omega
  clear he
  by_cases hla : (l.length :Int) =ar
  rotate_left
  ·have q1 : ((l.length :Int) !=ar) =true :=by simpa using hla
   have E2 :Hid (r=false) :=by show _=_;rw [E.out];simp [hla]
   clear E hes HL
   go_enter Tryz.func49,Tryz.ntmps49
   go_wp2_with fail
   go_quiet (first | (go_at_call 89;refine Calls.quiet_of_same (HA _)))
   go_wp2
   go_ret
   exact ⟨Aj (by rw [E2.out]),below_drewN hb2 _⟩
  have E2 :Hid (r= (lf&&l.all (geB d))) :=by show _=_;rw [E.out];simp [hla]
  have q1 : ((l.length :Int) !=ar) =false :=by simpa using hla
  obtain ⟨S0,z0⟩ :=Xp w op xk xn xs s name n ao l.length c ((d :Int) +1) _ rfl
  clear E
  cases lf
  ·clear hes
   go_enter Tryz.func49,Tryz.ntmps49
   go_wp2_with fail
   generalize hW0 : (w.alloc (.cells (Ad op ⟨xk,xn,xs⟩ s name n (.slice ao l.length c)) 34)).alloc (.cells #[.int .i64 ((d :Int) +1)] 3) =W0 at hb2 S0 z0⊢
   go_region_held3 (fun w'=>w'.cell? ⟨w.heap.size,0,none⟩ =some (.int .i64 op) ∧w'.cell? ⟨w.heap.size,1,none⟩ =some (.int .i64 xk) ∧w'.cell? ⟨w.heap.size,2,none⟩ =some (.int .i64 xn) ∧w'.cell? ⟨w.heap.size,3,none⟩ =some (.string xs) ∧w'.cell? ⟨w.heap.size,4,none⟩ =some (.string s) ∧w'.cell? ⟨w.heap.size,5,none⟩ =some (.string name) ∧w'.cell? ⟨w.heap.size,6,none⟩ =some (.int .i64 n) ∧w'.cell? ⟨w.heap.size,7,none⟩ =some (.slice ao l.length c) ∧w'.cell? ⟨w.heap.size+1,0,none⟩ =some (.int .i64 ((d :Int) +1))) (first | assumption | exact S0)
    (first | (go_at_call 89;go_fit (HA _);rintro e w' ⟨rfl,rfl⟩) | (go_at_call 90;go_fit (HL _);rintro e w2 ⟨rfl,hb3⟩;have S1 :=Tn (W :=W0.drew) S0 hb3 z0))
   go_wp2
   go_ret
   exact ⟨Aj (by rw [E2.out];rfl),hb2.drew.trans (hb3.mono hb2.size)⟩
  ·have HC :=fun (W1 :World) (hbW :Below (w.heap.size+2) ((w.alloc (.cells (Ad op ⟨xk,xn,xs⟩ s name n (.slice ao l.length c)) 34)).alloc (.cells #[.int .i64 ((d :Int) +1)] 3)) W1) =>
    Ml l (fun k=>k<C) ao l.length c (.pointer (some ⟨w.heap.size+1,0,none⟩)) (atI l fun a=> !geB d a)
     (fun _ W=>Below (w.heap.size+2) ((w.alloc (.cells (Ad op ⟨xk,xn,xs⟩ s name n (.slice ao l.length c)) 34)).alloc (.cells #[.int .i64 ((d :Int) +1)] 3)) W) (fun W=>Below (w.heap.size+2) ((w.alloc (.cells (Ad op ⟨xk,xn,xs⟩ s name n (.slice ao l.length c)) 34)).alloc (.cells #[.int .i64 ((d :Int) +1)] 3)) W)
     W1 (fun i W h=>h) (fun i W h=> (Abf.2 hes).keep (Ag ((hb2.mono hC).trans (h.mono (by omega)))))
     (by
      rintro i x cs W hx h1 hR
      have hsz :=h1.size
      rw [show ((w.alloc (.cells (Ad op ⟨xk,xn,xs⟩ s name n (.slice ao l.length c)) 34)).alloc (.cells #[.int .i64 ((d :Int) +1)] 3)).heap.size=w.heap.size+2 from by simp] at hsz
      have hbW :Below w.heap.size w W :=hb2.trans (h1.mono (by omega))
      refine (Qe d hd ih x (.agg cs.toArray) (w.heap.size+1) C W hR.2 (Nat.le_trans hC hbW.size) (Fe hfl (List.mem_of_getElem? hx)) ((h1.cell (p := ⟨w.heap.size+1,0,none⟩) (show w.heap.size+1<w.heap.size+2 by omega)).trans (Aa (A0 _ _ _) rfl)) (by omega)).mono ?_
      rintro e W' ⟨rfl,hb⟩
      have hT :=h1.trans (hb.mono hsz)
      exact ⟨by rw [Cn hx],hT,fun _=>hT⟩)
     hbW
   have HAL :Hid (l.all (geB d) = !A1 (atI l fun a=> !geB d a) 0 l.length) :=by
    show _=_
    rw [D9,List.all_eq_not_any_not]
   have hq2 : (w.alloc (.cells (Ad op ⟨xk,xn,xs⟩ s name n (.slice ao l.length c)) 34) |>.alloc (.cells #[.int .i64 ((d :Int) +1)] 3)).heap.size=w.heap.size+2 :=by simp
   generalize A1 (atI l fun a=> !geB d a) 0 l.length=q at HC HAL
   clear hes
   go_enter Tryz.func49,Tryz.ntmps49
   go_wp2_with fail
   generalize hW0 : (w.alloc (.cells (Ad op ⟨xk,xn,xs⟩ s name n (.slice ao l.length c)) 34)).alloc (.cells #[.int .i64 ((d :Int) +1)] 3) =W0 at hb2 S0 z0 HC hq2⊢
   go_region_held3 (fun w'=>w'.cell? ⟨w.heap.size,0,none⟩ =some (.int .i64 op) ∧w'.cell? ⟨w.heap.size,1,none⟩ =some (.int .i64 xk) ∧w'.cell? ⟨w.heap.size,2,none⟩ =some (.int .i64 xn) ∧w'.cell? ⟨w.heap.size,3,none⟩ =some (.string xs) ∧w'.cell? ⟨w.heap.size,4,none⟩ =some (.string s) ∧w'.cell? ⟨w.heap.size,5,none⟩ =some (.string name) ∧w'.cell? ⟨w.heap.size,6,none⟩ =some (.int .i64 n) ∧w'.cell? ⟨w.heap.size,7,none⟩ =some (.slice ao l.length c) ∧w'.cell? ⟨w.heap.size+1,0,none⟩ =some (.int .i64 ((d :Int) +1))) (first | assumption | exact S0)
    (first | (go_at_call 89;go_fit (HA _);rintro e w' ⟨rfl,rfl⟩) | (go_at_call 90;go_fit (HL _);rintro e w2 ⟨rfl,hb3⟩;have S1 :=Tn (W :=W0.drew) S0 hb3 z0))
   have hb4 :Below (w.heap.size+2) W0 w2 := (Below.refl _ _).drew.trans (hb3.mono (by rw [←hq2];exact Nat.le_refl _))
   obtain ⟨_,_,_,_,_,_,_,g7,_⟩ :=S1
   go_wp2_with (go_at_call 51;go_fit (HC _ hb4);rintro e w3 ⟨rfl,hb5⟩)
   go_ret
   exact ⟨Aj (by rw [E2.out,HAL.out];rfl),hb2.trans (hb5.mono (by omega))⟩
theorem Lc : ∀d :Nat,d≤40→I3 d
 | 0,_=>Qd
 | d+1,h=>Qf d h (Lc d (by omega))
end Go.Proofs.YtmgkcjiejmhgcaaGreatDoor

namespace Go.Proofs.YtmgkcjiejmhgcaaGreatDoor
open Go.RowKit
set_option maxRecDepth 100000 in
set_option maxHeartbeats 2000000 in
theorem M4 (l :List (List E)) (F :Nat→Prop) (ao :Option Addr) (n c :Nat) (f0 :Value) (p :Nat→Bool) (St :Nat→World→Prop) (En :World→Prop) (w :World) (hEn : ∀i W,St i W→En W) (hIs : ∀i W,St i W→IsL Ds F W (.slice ao n c) l)
  (hcall : ∀i x cs W,l[i]? =some x→St i W→Ds.R F W x cs→Calls Tryz.prog 50 #[cs.headD (.bool false),f0] W fun e W'=>e= .returned (.bool (p i)) ∧En W'∧ (p i=false→St (i+1) W')) (h0 :St 0 w) :
  Calls Tryz.prog 93 #[.slice ao n c, .func (.func 50) #[] #[f0]] w fun e W'=>e= .returned (.int .i64 (Al p 0 l.length)) ∧En W' :=by
 obtain ⟨hn,hlm⟩ :=Bj (hIs 0 w h0)
 subst hn
 unfold maxLen at hlm
 go_enter Tryz.func93,Tryz.ntmps93
 go_wp2
 go_loopw [8] (fun i wr=> ∃k :Nat,k≤l.length∧i= .int .i64 k∧St k wr∧Hid (Al p 0 l.length=Al p k (l.length - k))) (fun i _=>l.length - (intOf i).toNat)
 case atStart=>exact ⟨0,Nat.zero_le _,rfl,h0,rfl⟩
 case round=>
  obtain ⟨k,hk,rfl,hSt,HP⟩ :=hrel
  by_cases hlt :k<l.length
  ·obtain ⟨x,hx⟩ : ∃x,l[k]? =some x := ⟨_,List.getElem?_eq_getElem hlt⟩
   obtain ⟨b,off,cs,rfl,_,hb,hR,hcell⟩ :=Av (hIs k wr hSt) hx
   have HC :=hcall k x cs wr hx hSt hR
   obtain ⟨xa,xl,xc,rfl⟩ :=Vh hR
   have d0 :=hcell 0 _ rfl
   simp only [Ds,Nat.add_zero,Nat.mul_one] at d0
   have k0 : (0 :Int) ≤ (k :Int) :=by omega
   have k1 : (k :Int) < (l.length :Int) :=by omega
   have hst :Hid (Al p k (l.length - k) =if p k then (k :Int) else Al p (k+1) (l.length - (k+1))) :=Ch p k l.length hlt
   clear hcell hx
   generalize hq :p k=q at HC hst
   clear hq
   cases q
   ·go_wp2_with (go_at_call 50;go_must (go_fit HC;rintro e W' ⟨rfl,_,hS1⟩))
    go_roundw
    case rel=>exact ⟨k+1,by omega,by go_num,hS1 (by first | rfl | trivial),by rw [HP.out,hst.out];rfl⟩
    case measure=>simp [intOf];omega
   ·go_wp2_with (go_at_call 50;go_must (go_fit HC;rintro e W' ⟨rfl,hS1,_⟩))
    go_ret
    exact ⟨A6 (by rw [HP.out,hst.out];rfl),hS1⟩
  ·have HE :Hid (Al p k (l.length - k) = -1) :=by show _=_;rw [show l.length - k=0 from by omega,Al]
   go_wp2
   go_ret
   exact ⟨A6 (by rw [HP.out,HE.out]),hEn k _ hSt⟩
set_option maxHeartbeats 2000000 in
theorem Kz (l :List (List E)) (F :Nat→Prop) (ao :Option Addr) (n c :Nat) (f0 :Value) (p :Nat→Bool) (St :Nat→World→Prop) (En :World→Prop) (w :World) (hEn : ∀i W,St i W→En W) (hIs : ∀i W,St i W→IsL Ds F W (.slice ao n c) l)
  (hcall : ∀i x cs W,l[i]? =some x→St i W→Ds.R F W x cs→Calls Tryz.prog 50 #[cs.headD (.bool false),f0] W fun e W'=>e= .returned (.bool (p i)) ∧En W'∧ (p i=false→St (i+1) W')) (h0 :St 0 w) :
  Calls Tryz.prog 53 #[.slice ao n c, .func (.func 50) #[] #[f0]] w fun e W'=>e= .returned (.bool (A1 p 0 l.length)) ∧En W' :=by
 have HI :=M4 l F ao n c f0 p St En w hEn hIs hcall h0
 have HA :Hid (A1 p 0 l.length=decide (0≤Al p 0 l.length)) :=D5 p l.length 0
 generalize A1 p 0 l.length=r at HA
 generalize Al p 0 l.length=q at HI HA
 clear hIs hcall h0 hEn
 go_enter Tryz.func53,Tryz.ntmps53
 go_wp2_with (go_at_call 93;go_must (go_fit HI;rintro e W' ⟨rfl,hS1⟩))
 go_ret
 exact ⟨Aj (by rw [HA.out]),hS1⟩
set_option maxRecDepth 100000 in
set_option maxHeartbeats 2000000 in
theorem M5 (l :List (Wd×E)) (F :Nat→Prop) (ao :Option Addr) (n c :Nat) (f0 :Value) (p :Nat→Bool) (St :Nat→World→Prop) (En :World→Prop) (w :World) (hEn : ∀i W,St i W→En W) (hIs : ∀i W,St i W→IsL C5 F W (.slice ao n c) l)
  (hcall : ∀i x cs W,l[i]? =some x→St i W→C5.R F W x cs→Calls Tryz.prog 52 #[.agg cs.toArray,f0] W fun e W'=>e= .returned (.bool (p i)) ∧En W'∧ (p i=false→St (i+1) W')) (h0 :St 0 w) :
  Calls Tryz.prog 94 #[.slice ao n c, .func (.func 52) #[] #[f0]] w fun e W'=>e= .returned (.int .i64 (Al p 0 l.length)) ∧En W' :=by
 obtain ⟨hn,hlm⟩ :=Bj (hIs 0 w h0)
 subst hn
 unfold maxLen at hlm
 go_enter Tryz.func94,Tryz.ntmps94
 go_wp2
 go_loopw [8] (fun i wr=> ∃k :Nat,k≤l.length∧i= .int .i64 k∧St k wr∧Hid (Al p 0 l.length=Al p k (l.length - k))) (fun i _=>l.length - (intOf i).toNat)
 case atStart=>exact ⟨0,Nat.zero_le _,rfl,h0,rfl⟩
 case round=>
  obtain ⟨k,hk,rfl,hSt,HP⟩ :=hrel
  by_cases hlt :k<l.length
  ·obtain ⟨x,hx⟩ : ∃x,l[k]? =some x := ⟨_,List.getElem?_eq_getElem hlt⟩
   obtain ⟨b,off,cs,rfl,_,hb,hR,hcell⟩ :=Av (hIs k wr hSt) hx
   have HC :=hcall k x cs wr hx hSt hR
   obtain ⟨cn,xo,xk,xn,xs2,xs,xm,xi,xa,xl,xc,rfl⟩ :=O6 hR
   have d0 :=hcell 0 _ rfl
   have d1 :=hcell 1 _ rfl
   have d2 :=hcell 2 _ rfl
   have d3 :=hcell 3 _ rfl
   have d4 :=hcell 4 _ rfl
   have d5 :=hcell 5 _ rfl
   have d6 :=hcell 6 _ rfl
   have d7 :=hcell 7 _ rfl
   have d8 :=hcell 8 _ rfl
   simp only [C5,Nat.add_zero] at d0 d1 d2 d3 d4 d5 d6 d7 d8
   have k0 : (0 :Int) ≤ (k :Int) :=by omega
   have k1 : (k :Int) < (l.length :Int) :=by omega
   have hst :Hid (Al p k (l.length - k) =if p k then (k :Int) else Al p (k+1) (l.length - (k+1))) :=Ch p k l.length hlt
   clear hcell hx
   generalize hq :p k=q at HC hst
   clear hq
   cases q
   ·go_wp2_with (go_at_call 52;go_must (go_fit HC;rintro e W' ⟨rfl,_,hS1⟩))
    go_roundw
    case rel=>exact ⟨k+1,by omega,by go_num,hS1 (by first | rfl | trivial),by rw [HP.out,hst.out];rfl⟩
    case measure=>simp [intOf];omega
   ·go_wp2_with (go_at_call 52;go_must (go_fit HC;rintro e W' ⟨rfl,hS1,_⟩))
    go_ret
    exact ⟨A6 (by rw [HP.out,hst.out];rfl),hS1⟩
  ·have HE :Hid (Al p k (l.length - k) = -1) :=by show _=_;rw [show l.length - k=0 from by omega,Al]
   go_wp2
   go_ret
   exact ⟨A6 (by rw [HP.out,HE.out]),hEn k _ hSt⟩
set_option maxHeartbeats 2000000 in
theorem K0 (l :List (Wd×E)) (F :Nat→Prop) (ao :Option Addr) (n c :Nat) (f0 :Value) (p :Nat→Bool) (St :Nat→World→Prop) (En :World→Prop) (w :World) (hEn : ∀i W,St i W→En W) (hIs : ∀i W,St i W→IsL C5 F W (.slice ao n c) l)
  (hcall : ∀i x cs W,l[i]? =some x→St i W→C5.R F W x cs→Calls Tryz.prog 52 #[.agg cs.toArray,f0] W fun e W'=>e= .returned (.bool (p i)) ∧En W'∧ (p i=false→St (i+1) W')) (h0 :St 0 w) :
  Calls Tryz.prog 54 #[.slice ao n c, .func (.func 52) #[] #[f0]] w fun e W'=>e= .returned (.bool (A1 p 0 l.length)) ∧En W' :=by
 have HI :=M5 l F ao n c f0 p St En w hEn hIs hcall h0
 have HA :Hid (A1 p 0 l.length=decide (0≤Al p 0 l.length)) :=D5 p l.length 0
 generalize A1 p 0 l.length=r at HA
 generalize Al p 0 l.length=q at HI HA
 clear hIs hcall h0 hEn
 go_enter Tryz.func54,Tryz.ntmps54
 go_wp2_with (go_at_call 94;go_must (go_fit HI;rintro e W' ⟨rfl,hS1⟩))
 go_ret
 exact ⟨Aj (by rw [HA.out]),hS1⟩
end Go.Proofs.YtmgkcjiejmhgcaaGreatDoor

