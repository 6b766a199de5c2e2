/-
  3 texts of this proof in one, in build order: SOps, SRef1, SDeep.
-/
import Derived.BigRegion
import Derived.Test.YtifjaegfpdjikaaGreatDoorJ06
set_option linter.unusedSimpArgs false
set_option linter.unusedVariables false
namespace Go.Proofs.YtifjaegfpdjikaaGreatDoor
open Go.RowKit
set_option maxHeartbeats 1000000 in
theorem El (a b cap :Nat) (ops :List (Wd×Int)) (s :St) (d :Int) (w :World) (h :Rd w a s d) (hks : ∀o∈ops,0<o.1.size) (hab :b≠a) (hc : ∀i o,ops[i]? =some o→w.cell? ⟨b,i*2,none⟩ =some (.string o.1) ∧w.cell? ⟨b,i*2+1,none⟩ =some (.int .i64 o.2)) (hl :ops.length≤1000) :
  Calls Tryz.prog 109 #[.pointer (some ⟨a,0,none⟩), .slice (some ⟨b,0,none⟩) ops.length cap] w fun e w'=>e= .returned (.int .i64 (Ao ops s).1) ∧Rd w' a (Ao ops s).2 d∧But a w w' :=by
 have HC :Hid _ :=hc
 have HK :Hid _ :=hks
 clear hc hks
 generalize hn :ops.length=n at*
 have HN :Hid _ :=hn
 clear hn
 go_enter Tryz.func109,Tryz.ntmps109
 go_wp2_with fail
 go_loopw [6,9] (fun _ i wr=> ∃k :Nat,k≤n∧i= .int .i64 k∧Rd wr a s d∧Hid (Ao (ops.drop k) s=Ao ops s) ∧But a w wr) (fun _ i _=>n - (intOf i).toNat)
 case atStart=>exact ⟨0,Nat.zero_le _,rfl,h,rfl,But.refl _ _⟩
 case round=>
  obtain ⟨k,hk,rfl,hrd,HE,hbut⟩ :=hrel
  by_cases hlt :k<n
  ·obtain ⟨o,ho⟩ : ∃o,ops[k]? =some o := ⟨_,List.getElem?_eq_getElem (by rw [HN.out];exact hlt)⟩
   obtain ⟨x,y⟩ :=o
   have hc0 :=Jw hbut (HC.out k _ ho).1 hab
   have hc1 :=Jw hbut (HC.out k _ ho).2 hab
   have hsz :=HK.out _ (List.mem_of_getElem? ho)
   simp only at hc0 hc1 hsz
   have HE2 :Hid (Ao ops s=if (Ag x s).1 then (y,(Ag x s).2) else Ao (ops.drop (k+1)) s) :=by
    rw [←HE.out]
    obtain ⟨hk',ho'⟩ :=List.getElem?_eq_some_iff.1 ho
    rw [List.drop_eq_getElem_cons hk',ho']
    rfl
   clear ho
   have j0 : (0 :Int) ≤ (k :Int) :=by omega
   have j1 : (k :Int) < (n :Int) :=by omega
   have hbx :Below wr.heap.size wr (wr.alloc (.cells #[.string x, .int .i64 y] 123)) := (Below.refl _ _).alloc (Nat.le_refl _) _
   have SK :=Ix a x s d _ (hrd.below hbx) hsz
   have hne :wr.heap.size≠a :=by have :=hrd.lt;omega
   have cx : (wr.alloc (.cells #[.string x, .int .i64 y] 123)).cell? ⟨wr.heap.size,1,none⟩ =some (.int .i64 y) :=Aa (Ad wr _) rfl
   have HF :Hid ((Ag x s).1=false→ (Ag x s).2=s) :=Cm
   generalize Ag x s=q at SK HE2 HF
   obtain ⟨q1,q2⟩ :=q
   cases q1
   ·have e2 :q2=s :=HF.out rfl
    subst e2
    go_wp2_with (go_at_call 47;go_must (go_fit SK;rintro e w1 ⟨rfl,hr1,hb1⟩))
    go_roundw
    case rel=>exact ⟨k+1,by omega,by go_num,hr1,by rw [HE2.out];rfl,(hbut.trans (.of_below hbx)).trans hb1⟩
    case measure=>simp [intOf];omega
   ·go_wp2_with (go_at_call 47;go_must (go_fit SK;rintro e w1 ⟨rfl,hr1,hb1⟩;have cy :=Jw hb1 cx hne))
    go_ret
    rw [HE2.out]
    exact ⟨rfl,hr1,(hbut.trans (.of_below hbx)).trans hb1⟩
  ·have hkn :k=n :=by omega
   subst hkn
   have e1 :ops.drop k= [] :=by rw [←HN.out,List.drop_length]
   have HE2 :Hid (Ao ops s= (0,s)) :=by rw [←HE.out,e1];rfl
   go_wp2_with fail
   go_ret
   rw [HE2.out]
   exact ⟨rfl,hrd,hbut⟩
theorem Ac9 (a b cap :Nat) (k :Wd) (o :Int) (s :St) (d :Int) (w :World) (h :Rd w a s d) (hk :0<k.size) (hab :b≠a) (c0 :w.cell? ⟨b,0,none⟩ =some (.string k)) (c1 :w.cell? ⟨b,1,none⟩ =some (.int .i64 o)) :
  Calls Tryz.prog 109 #[.pointer (some ⟨a,0,none⟩), .slice (some ⟨b,0,none⟩) 1 cap] w fun e w'=>e= .returned (.int .i64 (Ao [(k,o)] s).1) ∧Rd w' a (Ao [(k,o)] s).2 d∧But a w w' :=
 El a b cap [(k,o)] s d w h (by simpa using hk) hab (fun i x hx=>by
  match i,hx with
  | 0,hx=>simp at hx;subst hx;exact ⟨c0,c1⟩
  | i+1,hx=>simp at hx) (by simp)
theorem Ada (a b cap :Nat) (k k' :Wd) (o o' :Int) (s :St) (d :Int) (w :World) (h :Rd w a s d) (hk :0<k.size) (hk' :0<k'.size) (hab :b≠a) (c0 :w.cell? ⟨b,0,none⟩ =some (.string k)) (c1 :w.cell? ⟨b,1,none⟩ =some (.int .i64 o)) (c2 :w.cell? ⟨b,2,none⟩ =some (.string k')) (c3 :w.cell? ⟨b,3,none⟩ =some (.int .i64 o')) :
  Calls Tryz.prog 109 #[.pointer (some ⟨a,0,none⟩), .slice (some ⟨b,0,none⟩) 2 cap] w fun e w'=>e= .returned (.int .i64 (Ao [(k,o),(k',o')] s).1) ∧Rd w' a (Ao [(k,o),(k',o')] s).2 d∧But a w w' :=
 El a b cap [(k,o),(k',o')] s d w h (by simp;exact ⟨hk,hk'⟩) hab (fun i x hx=>by
  match i,hx with
  | 0,hx=>simp at hx;subst hx;exact ⟨c0,c1⟩
  | 1,hx=>simp at hx;subst hx;exact ⟨c2,c3⟩
  | i+2,hx=>simp at hx) (by simp)
theorem Mb {x :Wd} :x.extract 1 (x.size - 1) = (Hq x).s :=by
 have : (x.extract 1 (x.size - 1)).data.toList= (x.data.toList.drop 1).take (x.size - 2) :=by
  rw [Lib.extract_data,Nat.sub_sub]
 unfold Hq
 rw [←Mr (x.extract 1 (x.size - 1)),this];rfl
set_option maxHeartbeats 2000000 in
theorem Aav (a :Nat) (s :St) (d :Int) (w :World) (h :Rd w a s d) (hq :D2 Bp s=true) :
  Calls Tryz.prog 132 #[.pointer (some ⟨a,0,none⟩)] w fun e w'=>e= .returned (.agg #[.int .i64 (Hk s).1.k, .int .i64 (Hk s).1.n, .string (Hk s).1.s]) ∧Rd w' a (Hk s).2 d∧But a w w' :=by
 obtain ⟨x,r,b,h1,h2⟩ :=h
 rw [My h2] at hq
 obtain ⟨rfl,rfl,ht,hr⟩ :=h2.at (Ia hq)
 have h2' :=ht.quo hq
 have hsz :=Mz h2
 obtain ⟨c0,c1,c2,c3⟩ :=h1.cells
 have ex :=Mb (x :=x)
 have e0 :Hk (some (x ::By r.data.toList)) =if Dk (Hq x) then (Hq x,adv (By r.data.toList)) else (zero,none) :=rfl
 rw [e0]
 have ev :Hq x= ⟨2,0,(Hq x).s⟩ :=rfl
 rw [←ex] at ev
 rw [ev]
 clear ex ev e0
 have i0 : (1 :Int) ≤ (x.size :Int) - 1 :=by omega
 have i1 : (x.size :Int) - 1≤ (x.size :Int) :=by omega
 have i2 : ((x.size :Int) - 1).toNat=x.size - 1 :=by omega
 have k1 : ∀o,(w.alloc o).cell? ⟨a,0,none⟩ =some (.string x) :=fun o=> (h1.below ((Below.refl _ _).alloc (Nat.le_refl _) o)).cells.1
 have k2 : ∀o o',((w.alloc o).alloc o').cell? ⟨a,0,none⟩ =some (.string x) :=fun o o'=> (h1.below (((Below.refl _ _).alloc (Nat.le_refl _) o).alloc (by simp) o')).cells.1
 have hl :=h1.lt
 have hxs : (x.extract 1 (x.size - 1)).size≤maxLen :=by unfold maxLen;simp;omega
 have hy :Hid (Hq x= ⟨2,0,x.extract 1 (x.size - 1)⟩) :=by show Hq x=_;rw [Mb (x :=x)];rfl
 generalize hW : ((w.alloc (.cells #[.int .i64 0, .int .i64 0, .string ⟨#[]⟩] 35)).alloc (.cells #[.int .i64 2, .int .i64 0, .string (x.extract 1 (x.size - 1))] 35)).drew=W
 have HW :Hid _ :=hW
 have hb0 :Below w.heap.size w W :=by rw [←hW];exact (((Below.refl _ _).alloc (Nat.le_refl _) _).alloc (by simp) _).drew
 have b0 :W.heap[w.heap.size]? =some (.cells #[.int .i64 0, .int .i64 0, .string ⟨#[]⟩] 35) :=by
  rw [←hW];exact Ae (Ad w _) _
 have b1 :W.heap[w.heap.size+1]? =some (.cells #[.int .i64 2, .int .i64 0, .string (x.extract 1 (x.size - 1))] 35) :=by
  rw [←hW]
  have :=Ad (w.alloc (.cells #[.int .i64 0, .int .i64 0, .string ⟨#[]⟩] 35)) (.cells #[.int .i64 2, .int .i64 0, .string (x.extract 1 (x.size - 1))] 35)
  rw [World.size_alloc] at this
  exact this
 clear hW
 have p0 :=Aa b1 (j :=0) rfl
 have p1 :=Aa b1 (j :=1) rfl
 have p2 :=Aa b1 (j :=2) rfl
 have G :=Aau ⟨2,0,x.extract 1 (x.size - 1)⟩ W hxs
 simp only [V.val] at G
 have G' :Calls Tryz.prog 137 #[.agg #[.int .i64 2, .int .i64 0, .string (x.extract 1 (x.size - 1))]] W fun e w'=>e= .returned (.bool (Dk ⟨2,0,x.extract 1 (x.size - 1)⟩)) ∧Below W.heap.size W w' :=
  G.mono fun e w' ⟨h,h'⟩ => ⟨h,by rw [h'];exact (Below.refl _ _).alloc (Nat.le_refl _) _⟩
 clear G
 have ne0 :w.heap.size≠a :=by omega
 have ne1 :w.heap.size+1≠a :=by omega
 cases hg :Dk ⟨2,0,x.extract 1 (x.size - 1)⟩
 ·rw [hg] at G'
  simp only [Bool.false_eq_true,if_false]
  go_enter Tryz.func132,Tryz.ntmps132
  go_wp2_with fail
  go_region
  rw [HW.out]
  go_wp2_with (first
   | (go_at_call 137;go_must (go_fit G';rintro e w1 ⟨rfl,hb1⟩;have FA :=Ln a w1 x r d false (h1.below (Do hb0 hb1));have b2 := (hb1.block _ (lt_of_block b0)).trans b0))
   | (go_at_call 46;go_must (go_fit FA;rintro e w2 ⟨rfl,hr2,hb2⟩;have b3 :=Ac hb2 b2 ne0;have q0 :=Aa b3 (j :=0) rfl;have q1 :=Aa b3 (j :=1) rfl;have q2 :=Aa b3 (j :=2) rfl;have f0 :=Ab b3 0;have f1 :=Ab b3 1;have f2 :=Ab b3 2)))
  refine bodyPost_ret (v := .agg #[.int .i64 0, .int .i64 0, .string noW]) (by simp [results,Tryz.results132,go_sem,q0,q1,q2]) rfl ⟨rfl, ?_, ?_⟩
  ·exact (((Rd.other ⟨_,_,_,hr2, .wrong⟩ ne0 _ _).other ne0 _ _).other ne0 _ _)
  ·exact ((((But.of_below (Do hb0 hb1)).trans hb2).new (Nat.le_refl _) _ _).new (Nat.le_refl _) _ _).new (Nat.le_refl _) _ _
 ·rw [hg] at G'
  simp only [if_true]
  go_enter Tryz.func132,Tryz.ntmps132
  go_wp2_with fail
  go_region
  rw [HW.out]
  go_wp2_with (first
   | (go_at_call 137;go_must (go_fit G';rintro e w1 ⟨rfl,hb1⟩;have NX :=Lo a w1 x r d (h1.below (Do hb0 hb1)) hr;have b2 := (hb1.block _ (lt_of_block b0)).trans b0;have b4 := (hb1.block _ (lt_of_block b1)).trans b1))
   | (go_at_call 21;go_must (go_fit NX;rintro e w2 ⟨rfl,hr2,hb2⟩;have b3 :=Ac hb2 b2 ne0;have q0 :=Aa b3 (j :=0) rfl;have q1 :=Aa b3 (j :=1) rfl;have q2 :=Aa b3 (j :=2) rfl;have f0 :=Ab b3 0;have f1 :=Ab b3 1;have f2 :=Ab b3 2;have b5 :=Ac hb2 b4 ne1;have r0 :=Aa b5 (j :=0) rfl;have r1 :=Aa b5 (j :=1) rfl;have r2 :=Aa b5 (j :=2) rfl)))
  refine bodyPost_ret (v := .agg #[.int .i64 2, .int .i64 0, .string (x.extract 1 (x.size - 1))]) (by simp [results,Tryz.results132,go_sem,q0,q1,q2]) rfl ⟨rfl, ?_, ?_⟩
  ·exact (((hr2.other ne0 _ _).other ne0 _ _).other ne0 _ _)
  ·exact ((((But.of_below (Do hb0 hb1)).trans hb2).new (Nat.le_refl _) _ _).new (Nat.le_refl _) _ _).new (Nat.le_refl _) _ _
end Go.Proofs.YtifjaegfpdjikaaGreatDoor

namespace Go.Proofs.YtifjaegfpdjikaaGreatDoor
open Go.RowKit
def De (g :FuncId) (p :St→E×St) (d :Int) :Prop := ∀ (a :Nat) (s :St) (w :World),Rd w a s d→Env w→16≤a→
 Calls Tryz.prog g #[.pointer (some ⟨a,0,none⟩)] w fun e w'=> ∃v,e= .returned v∧IsE (Fr w.heap.size) w' (p s).1 v∧Rd w' a (p s).2 d∧But a w w'
abbrev Ap :Array Value := #[.int .i64 0, .int .i64 0, .int .i64 0, .string noW, .string noW, .string noW, .int .i64 0, .slice none 0 0]
theorem Cq {w :World} {b :Nat} {arr :Array Value} {t :TypeId} (h :w.heap[b]? =some (.cells arr t)) {v0 v1 v2 v3 v4 v5 v6 v7 :Value} (ha :arr= #[v0,v1,v2,v3,v4,v5,v6,v7]) :
  w.cell? ⟨b,0,none⟩ =some v0∧w.cell? ⟨b,1,none⟩ =some v1∧w.cell? ⟨b,2,none⟩ =some v2∧w.cell? ⟨b,3,none⟩ =some v3∧w.cell? ⟨b,4,none⟩ =some v4∧w.cell? ⟨b,5,none⟩ =some v5∧w.cell? ⟨b,6,none⟩ =some v6∧w.cell? ⟨b,7,none⟩ =some v7 :=by
 subst ha
 exact ⟨Aa h rfl,Aa h rfl,Aa h rfl,Aa h rfl,Aa h rfl,Aa h rfl,Aa h rfl,Aa h rfl⟩
theorem Zl {w :World} {b :Nat} {arr :Array Value} {t :TypeId} (h :w.heap[b]? =some (.cells arr t)) {v0 v1 v2 v3 v4 v5 v6 v7 :Value} (ha :arr= #[v0,v1,v2,v3,v4,v5,v6,v7]) :
  (∀o,(w.alloc o).cell? ⟨b,0,none⟩ =some v0) ∧ (∀o,(w.alloc o).cell? ⟨b,1,none⟩ =some v1) ∧ (∀o,(w.alloc o).cell? ⟨b,2,none⟩ =some v2) ∧ (∀o,(w.alloc o).cell? ⟨b,3,none⟩ =some v3) ∧ (∀o,(w.alloc o).cell? ⟨b,4,none⟩ =some v4) ∧ (∀o,(w.alloc o).cell? ⟨b,5,none⟩ =some v5) ∧ (∀o,(w.alloc o).cell? ⟨b,6,none⟩ =some v6) ∧ (∀o,(w.alloc o).cell? ⟨b,7,none⟩ =some v7) :=by
 have :=fun o=>Cq (Ae h o) ha
 exact ⟨fun o=> (this o).1,fun o=> (this o).2.1,fun o=> (this o).2.2.1,fun o=> (this o).2.2.2.1,fun o=> (this o).2.2.2.2.1,fun o=> (this o).2.2.2.2.2.1,fun o=> (this o).2.2.2.2.2.2.1,fun o=> (this o).2.2.2.2.2.2.2⟩
theorem E0 {w :World} {b :Nat} {arr :Array Value} {t :TypeId} (h :w.heap[b]? =some (.cells arr t)) (i :Nat) : ∀o,(w.alloc o).frozen? ⟨b,i,none⟩ =false :=fun o=>Ab (Ae h o) i
theorem Aj {w :World} {b :Nat} {x :Obj} (h :w.heap[b]? =some x) {a :Nat} (hn :b≠a) (o :Nat) (u :Value) : (w.setCell ⟨a,o,none⟩ u).heap[b]? =some x := (Below.heap_setCell w ⟨a,o,none⟩ u b hn).trans h
abbrev set8 (w :World) (b :Nat) (v0 v1 v2 v3 v4 v5 v6 v7 :Value) :World :=
 (((((((w.setCell ⟨b,0,none⟩ v0).setCell ⟨b,1,none⟩ v1).setCell ⟨b,2,none⟩ v2).setCell ⟨b,3,none⟩ v3).setCell ⟨b,4,none⟩ v4).setCell ⟨b,5,none⟩ v5).setCell ⟨b,6,none⟩ v6).setCell ⟨b,7,none⟩ v7
theorem But.set8 {a :Nat} {w w' :World} (h :But a w w') {b :Nat} (hb :w.heap.size≤b) (v0 v1 v2 v3 v4 v5 v6 v7 :Value) :But a w (set8 w' b v0 v1 v2 v3 v4 v5 v6 v7) :=
 (((((((h.new hb _ _).new hb _ _).new hb _ _).new hb _ _).new hb _ _).new hb _ _).new hb _ _).new hb _ _
theorem Rd.set8 {w :World} {a :Nat} {s :St} {d :Int} (h :Rd w a s d) {b :Nat} (hb :b≠a) (v0 v1 v2 v3 v4 v5 v6 v7 :Value) :Rd (set8 w b v0 v1 v2 v3 v4 v5 v6 v7) a s d :=
 (((((((h.other hb _ _).other hb _ _).other hb _ _).other hb _ _).other hb _ _).other hb _ _).other hb _ _).other hb _ _
theorem Keeps.set8 {F :Nat→Prop} {w w' :World} (h :Keeps F w w') {b :Nat} (hb : ¬F b) (v0 v1 v2 v3 v4 v5 v6 v7 :Value) :Keeps F w (set8 w' b v0 v1 v2 v3 v4 v5 v6 v7) :=
 (((((((h.set hb _ _).set hb _ _).set hb _ _).set hb _ _).set hb _ _).set hb _ _).set hb _ _).set hb _ _
set_option maxHeartbeats 2000000 in
theorem Ab2 (d :Int) :De 133 Le d :=by
 intro a s w h _ _
 generalize hW :w.alloc (.cells Ap 37) =W
 have HW :Hid _ :=hW
 have hb0 :Below w.heap.size w W :=by rw [←hW];exact (Below.refl _ _).alloc (Nat.le_refl _) _
 have b0 :W.heap[w.heap.size]? =some (.cells Ap 37) :=by rw [←hW];exact Ad w _
 clear hW
 have hl :=h.lt
 have ne0 :w.heap.size≠a :=by omega
 have N1 :=E9 a s d W (h.below hb0)
 have hr :Le s=if (Ag D1 (At s).2).1 then (Ld (At s).1 (At (Ag D1 (At s).2).2).1,(At (Ag D1 (At s).2).2).2) else (Ld noW (At s).1,(Ag D1 (At s).2).2) :=rfl
 generalize Le s=R at hr⊢
 have HR :Hid _ :=hr
 clear hr
 generalize At s=q at N1 HR
 obtain ⟨n1,s1⟩ :=q
 simp only at N1 HR
 have SK :=fun w1 (h1 :Rd w1 a s1 d) =>Ix a D1 s1 d w1 h1 (by decide)
 generalize Ag D1 s1=q at SK HR
 obtain ⟨q1,s2⟩ :=q
 simp only at SK HR
 cases q1
 ·simp only [Bool.false_eq_true,if_false] at HR
  go_enter Tryz.func133,Tryz.ntmps133
  go_wp2_with fail
  rw [HW.out]
  go_wp2_with (first
   | (go_at_call 73;go_must (go_fit N1;rintro e w1 ⟨rfl,hr1,hb1⟩;have b1 :=Ac hb1 b0 ne0;have SK1 :=SK w1 hr1))
   | (go_at_call 47;go_must (go_fit SK1;rintro e w2 ⟨rfl,hr2,hb2⟩;have b2 :=Ac hb2 b1 ne0;obtain ⟨q0,q1,q2,q3,q4,q5,q6,q7⟩ :=Cq b2 rfl;have f0 :=Ab b2 0;have f1 :=Ab b2 1;have f2 :=Ab b2 2;have f3 :=Ab b2 3;have f4 :=Ab b2 4;have f5 :=Ab b2 5;have f6 :=Ab b2 6;have f7 :=Ab b2 7)))
  refine bodyPost_ret (v := .agg #[.int .i64 2, .int .i64 0, .int .i64 0, .string noW, .string noW, .string n1, .int .i64 0, .slice none 0 0]) (by simp [results,Tryz.results133,go_sem,q0,q1,q2,q3,q4,q5,q6,q7]) rfl ⟨_,rfl, ?_, ?_, ?_⟩
  ·rw [HR.out];exact Jy _ _ _ _
  ·rw [HR.out];exact hr2.set8 ne0 _ _ _ _ _ _ _ _
  ·exact (((But.of_below hb0).trans hb1).trans hb2).set8 (Nat.le_refl _) _ _ _ _ _ _ _ _
 ·simp only [if_true] at HR
  have N2 :=fun w2 (h2 :Rd w2 a s2 d) =>E9 a s2 d w2 h2
  generalize At s2=q at N2 HR
  obtain ⟨n2,s3⟩ :=q
  simp only at N2 HR
  go_enter Tryz.func133,Tryz.ntmps133
  go_wp2_with fail
  rw [HW.out]
  go_wp2_with (first
   | (go_at_call 73;go_fit N1;rintro e w1 ⟨rfl,hr1,hb1⟩;have b1 :=Ac hb1 b0 ne0;have SK1 :=SK w1 hr1)
   | (go_at_call 47;go_must (go_fit SK1;rintro e w2 ⟨rfl,hr2,hb2⟩;have b2 :=Ac hb2 b1 ne0;have N3 :=N2 w2 hr2))
   | (go_at_call 73;go_must (go_fit N3;rintro e w3 ⟨rfl,hr3,hb3⟩;have b3 :=Ac hb3 b2 ne0;obtain ⟨q0,q1,q2,q3,q4,q5,q6,q7⟩ :=Cq b3 rfl;have f0 :=Ab b3 0;have f1 :=Ab b3 1;have f2 :=Ab b3 2;have f3 :=Ab b3 3;have f4 :=Ab b3 4;have f5 :=Ab b3 5;have f6 :=Ab b3 6;have f7 :=Ab b3 7)))
  refine bodyPost_ret (v := .agg #[.int .i64 2, .int .i64 0, .int .i64 0, .string noW, .string n1, .string n2, .int .i64 0, .slice none 0 0]) (by simp [results,Tryz.results133,go_sem,q0,q1,q2,q3,q4,q5,q6,q7]) rfl ⟨_,rfl, ?_, ?_, ?_⟩
  ·rw [HR.out];exact Jy _ _ _ _
  ·rw [HR.out];exact hr3.set8 ne0 _ _ _ _ _ _ _ _
  ·exact ((((But.of_below hb0).trans hb1).trans hb2).trans hb3).set8 (Nat.le_refl _) _ _ _ _ _ _ _ _
def Kd (g :FuncId) (p :St→E×St) (d :Int) :Prop := ∀ (a :Nat) (s :St) (w :World),Rd w a s d→Env w→16≤a→
 Calls Tryz.prog 115 #[.pointer (some ⟨a,0,none⟩), .func (.func g) #[.pointer (some ⟨a,0,none⟩)] #[]] w fun e w'=> ∃v,e= .returned v∧IsE (Fr w.heap.size) w' (p s).1 v∧Rd w' a (p s).2 d∧But a w w'
end Go.Proofs.YtifjaegfpdjikaaGreatDoor

namespace Go.Proofs.YtifjaegfpdjikaaGreatDoor
open Go.RowKit
theorem Rd.depth {w :World} {a :Nat} {s :St} {d :Int} (h :Rd w a s d) :w.cell? ⟨a,2,none⟩ =some (.int .i64 d) ∧w.frozen? ⟨a,2,none⟩ =false :=by
 obtain ⟨x,r,b,h1,_⟩ :=h
 exact ⟨h1.cells.2.2.1,h1.frozen 2⟩
theorem Rd.set2 {w :World} {a :Nat} {s :St} {d :Int} (h :Rd w a s d) (x :Int) :Rd (w.setCell ⟨a,2,none⟩ (.int .i64 x)) a s x :=by
 obtain ⟨y,r,b,h1,h2⟩ :=h
 exact ⟨y,r,b,h1.set2 x,h2⟩
set_option maxHeartbeats 2000000 in
theorem Qu :Kd 111 Hl 5 :=by
 intro a s w h _ _
 generalize hW :w.alloc (.cells Ap 37) =W
 have HW :Hid _ :=hW
 have hb0 :Below w.heap.size w W :=by rw [←hW];exact (Below.refl _ _).alloc (Nat.le_refl _) _
 have b0 :W.heap[w.heap.size]? =some (.cells Ap 37) :=by rw [←hW];exact Ad w _
 have k1 : ∀o,(w.alloc o).cell? ⟨a,2,none⟩ =some (.int .i64 5) :=fun o=> (h.below ((Below.refl _ _).alloc (Nat.le_refl _) o)).depth.1
 clear hW
 have hl :=h.lt
 have ne0 :w.heap.size≠a :=by omega
 have FA :=K5 a s 5 W (h.below hb0)
 go_enter Tryz.func115,Tryz.ntmps115
 go_wp2_with fail
 rw [HW.out]
 go_wp2_with (go_at_call 46;go_must (go_fit FA;rintro e w1 ⟨rfl,hr1,hb1⟩;have b1 :=Ac hb1 b0 ne0;obtain ⟨q0,q1,q2,q3,q4,q5,q6,q7⟩ :=Cq b1 rfl;have f0 :=Ab b1 0;have f1 :=Ab b1 1;have f2 :=Ab b1 2;have f3 :=Ab b1 3;have f4 :=Ab b1 4;have f5 :=Ab b1 5;have f6 :=Ab b1 6;have f7 :=Ab b1 7))
 refine bodyPost_ret (v := .agg #[.int .i64 0, .int .i64 0, .int .i64 0, .string noW, .string noW, .string noW, .int .i64 0, .slice none 0 0]) (by simp [results,Tryz.results115,go_sem,q0,q1,q2,q3,q4,q5,q6,q7]) rfl ⟨_,rfl, ?_, ?_, ?_⟩
 ·exact Dy _ _
 ·exact hr1.set8 ne0 _ _ _ _ _ _ _ _
 ·exact ((But.of_below hb0).trans hb1).set8 (Nat.le_refl _) _ _ _ _ _ _ _ _
set_option maxHeartbeats 2000000 in
theorem Rz (p :St→E×St) (d :Int) (h0 :0≤d) (h5 :d<5) (hp :De 111 p (d+1)) :Kd 111 p d :=by
 intro a s w h he ha
 generalize hW : (w.setCell ⟨a,2,none⟩ (.int .i64 (d+1))).alloc (.cells Ap 37) =W
 have HW :Hid _ :=hW
 have hsz : (w.setCell ⟨a,2,none⟩ (.int .i64 (d+1))).heap.size=w.heap.size :=by simp [World.setCell]
 have hB :But a w W :=by rw [←hW];exact ((But.refl a w).set _ _).alloc _
 have b0 :W.heap[w.heap.size]? =some (.cells Ap 37) :=by rw [←hW,←hsz];exact Ad _ _
 have hR :Rd W a s (d+1) :=by rw [←hW];exact (h.set2 (d+1)).below ((Below.refl _ _).alloc (Nat.le_refl _) _)
 have hWs :W.heap.size=w.heap.size+1 :=by rw [←hW,World.size_alloc,hsz]
 have k1 : ∀o,(w.alloc o).cell? ⟨a,2,none⟩ =some (.int .i64 d) :=fun o=> (h.below ((Below.refl _ _).alloc (Nat.le_refl _) o)).depth.1
 have k2 : ∀o,(w.alloc o).frozen? ⟨a,2,none⟩ =false :=fun o=> (h.below ((Below.refl _ _).alloc (Nat.le_refl _) o)).depth.2
 clear hW
 have hl :=h.lt
 have ne0 :w.heap.size≠a :=by omega
 have hd : (d==5) =false :=beq_eq_false_iff_ne.2 (by omega)
 have PP :=hp a s W hR (he.but hB ha) ha
 generalize p s=q at PP⊢
 obtain ⟨E1,s1⟩ :=q
 simp only at PP⊢
 go_enter Tryz.func115,Tryz.ntmps115
 go_wp2_with fail
 rw [HW.out]
 go_wp2_with (go_at_call 111;go_must (go_fit PP;rintro e w1 ⟨v,rfl,hE,hr1,hb1⟩;have b1 :=Ac hb1 b0 ne0;have b2 :=Aj b1 ne0 2 (.int .i64 d);obtain ⟨q0,q1,q2,q3,q4,q5,q6,q7⟩ :=Zl b2 rfl;have f0 :=E0 b2 0;have f1 :=E0 b2 1;have f2 :=E0 b2 2;have f3 :=E0 b2 3;have f4 :=E0 b2 4;have f5 :=E0 b2 5;have f6 :=E0 b2 6;have f7 :=E0 b2 7;have m1 : ∀o,(w1.alloc o).cell? ⟨a,2,none⟩ =some (.int .i64 (d+1)) :=fun o=> (hr1.below ((Below.refl _ _).alloc (Nat.le_refl _) o)).depth.1;have m2 : ∀o,(w1.alloc o).frozen? ⟨a,2,none⟩ =false :=fun o=> (hr1.below ((Below.refl _ _).alloc (Nat.le_refl _) o)).depth.2;have hl1 :=hr1.lt;obtain ⟨op,x,xs,nmv,n,ao,k,c,rfl⟩ :=hE.shape;obtain ⟨xk,xn,xs2⟩ :=x))
 refine bodyPost_ret (v := .agg #[.int .i64 op, .int .i64 xk, .int .i64 xn, .string xs2, .string xs, .string nmv, .int .i64 n, .slice ao k c]) (by simp [results,Tryz.results115,go_sem,q0,q1,q2,q3,q4,q5,q6,q7]) rfl ⟨_,rfl, ?_, ?_, ?_⟩
 ·exact IsE.mono (fun k _ hk=>by have :W.heap.size≤k :=hk;show w.heap.size≤k;omega) _ _ (IsE.keep ((((Keeps.refl _ _).set (show ¬W.heap.size≤a by omega) _ _).alloc _).set8 (show ¬W.heap.size≤w.heap.size by omega) _ _ _ _ _ _ _ _) _ _ hE)
 ·exact ((hr1.set2 d).below ((Below.refl _ _).alloc (Nat.le_refl _) _)).set8 ne0 _ _ _ _ _ _ _ _
 ·exact (((hB.trans hb1).set _ _).alloc _).set8 (Nat.le_refl _) _ _ _ _ _ _ _ _
set_option maxHeartbeats 2000000 in
theorem Mn :Kd 80 Hl 5 :=by
 intro a s w h _ _
 generalize hW :w.alloc (.cells Ap 37) =W
 have HW :Hid _ :=hW
 have hb0 :Below w.heap.size w W :=by rw [←hW];exact (Below.refl _ _).alloc (Nat.le_refl _) _
 have b0 :W.heap[w.heap.size]? =some (.cells Ap 37) :=by rw [←hW];exact Ad w _
 have k1 : ∀o,(w.alloc o).cell? ⟨a,2,none⟩ =some (.int .i64 5) :=fun o=> (h.below ((Below.refl _ _).alloc (Nat.le_refl _) o)).depth.1
 clear hW
 have hl :=h.lt
 have ne0 :w.heap.size≠a :=by omega
 have FA :=K5 a s 5 W (h.below hb0)
 go_enter Tryz.func115,Tryz.ntmps115
 go_wp2_with fail
 rw [HW.out]
 go_wp2_with (go_at_call 46;go_must (go_fit FA;rintro e w1 ⟨rfl,hr1,hb1⟩;have b1 :=Ac hb1 b0 ne0;obtain ⟨q0,q1,q2,q3,q4,q5,q6,q7⟩ :=Cq b1 rfl;have f0 :=Ab b1 0;have f1 :=Ab b1 1;have f2 :=Ab b1 2;have f3 :=Ab b1 3;have f4 :=Ab b1 4;have f5 :=Ab b1 5;have f6 :=Ab b1 6;have f7 :=Ab b1 7))
 refine bodyPost_ret (v := .agg #[.int .i64 0, .int .i64 0, .int .i64 0, .string noW, .string noW, .string noW, .int .i64 0, .slice none 0 0]) (by simp [results,Tryz.results115,go_sem,q0,q1,q2,q3,q4,q5,q6,q7]) rfl ⟨_,rfl, ?_, ?_, ?_⟩
 ·exact Dy _ _
 ·exact hr1.set8 ne0 _ _ _ _ _ _ _ _
 ·exact ((But.of_below hb0).trans hb1).set8 (Nat.le_refl _) _ _ _ _ _ _ _ _
set_option maxHeartbeats 2000000 in
theorem M1 (p :St→E×St) (d :Int) (h0 :0≤d) (h5 :d<5) (hp :De 80 p (d+1)) :Kd 80 p d :=by
 intro a s w h he ha
 generalize hW : (w.setCell ⟨a,2,none⟩ (.int .i64 (d+1))).alloc (.cells Ap 37) =W
 have HW :Hid _ :=hW
 have hsz : (w.setCell ⟨a,2,none⟩ (.int .i64 (d+1))).heap.size=w.heap.size :=by simp [World.setCell]
 have hB :But a w W :=by rw [←hW];exact ((But.refl a w).set _ _).alloc _
 have b0 :W.heap[w.heap.size]? =some (.cells Ap 37) :=by rw [←hW,←hsz];exact Ad _ _
 have hR :Rd W a s (d+1) :=by rw [←hW];exact (h.set2 (d+1)).below ((Below.refl _ _).alloc (Nat.le_refl _) _)
 have hWs :W.heap.size=w.heap.size+1 :=by rw [←hW,World.size_alloc,hsz]
 have k1 : ∀o,(w.alloc o).cell? ⟨a,2,none⟩ =some (.int .i64 d) :=fun o=> (h.below ((Below.refl _ _).alloc (Nat.le_refl _) o)).depth.1
 have k2 : ∀o,(w.alloc o).frozen? ⟨a,2,none⟩ =false :=fun o=> (h.below ((Below.refl _ _).alloc (Nat.le_refl _) o)).depth.2
 clear hW
 have hl :=h.lt
 have ne0 :w.heap.size≠a :=by omega
 have hd : (d==5) =false :=beq_eq_false_iff_ne.2 (by omega)
 have PP :=hp a s W hR (he.but hB ha) ha
 generalize p s=q at PP⊢
 obtain ⟨E1,s1⟩ :=q
 simp only at PP⊢
 go_enter Tryz.func115,Tryz.ntmps115
 go_wp2_with fail
 rw [HW.out]
 go_wp2_with (go_at_call 80;go_must (go_fit PP;rintro e w1 ⟨v,rfl,hE,hr1,hb1⟩;have b1 :=Ac hb1 b0 ne0;have b2 :=Aj b1 ne0 2 (.int .i64 d);obtain ⟨q0,q1,q2,q3,q4,q5,q6,q7⟩ :=Zl b2 rfl;have f0 :=E0 b2 0;have f1 :=E0 b2 1;have f2 :=E0 b2 2;have f3 :=E0 b2 3;have f4 :=E0 b2 4;have f5 :=E0 b2 5;have f6 :=E0 b2 6;have f7 :=E0 b2 7;have m1 : ∀o,(w1.alloc o).cell? ⟨a,2,none⟩ =some (.int .i64 (d+1)) :=fun o=> (hr1.below ((Below.refl _ _).alloc (Nat.le_refl _) o)).depth.1;have m2 : ∀o,(w1.alloc o).frozen? ⟨a,2,none⟩ =false :=fun o=> (hr1.below ((Below.refl _ _).alloc (Nat.le_refl _) o)).depth.2;have hl1 :=hr1.lt;obtain ⟨op,x,xs,nmv,n,ao,k,c,rfl⟩ :=hE.shape;obtain ⟨xk,xn,xs2⟩ :=x))
 refine bodyPost_ret (v := .agg #[.int .i64 op, .int .i64 xk, .int .i64 xn, .string xs2, .string xs, .string nmv, .int .i64 n, .slice ao k c]) (by simp [results,Tryz.results115,go_sem,q0,q1,q2,q3,q4,q5,q6,q7]) rfl ⟨_,rfl, ?_, ?_, ?_⟩
 ·exact IsE.mono (fun k _ hk=>by have :W.heap.size≤k :=hk;show w.heap.size≤k;omega) _ _ (IsE.keep ((((Keeps.refl _ _).set (show ¬W.heap.size≤a by omega) _ _).alloc _).set8 (show ¬W.heap.size≤w.heap.size by omega) _ _ _ _ _ _ _ _) _ _ hE)
 ·exact ((hr1.set2 d).below ((Below.refl _ _).alloc (Nat.le_refl _) _)).set8 ne0 _ _ _ _ _ _ _ _
 ·exact (((hB.trans hb1).set _ _).alloc _).set8 (Nat.le_refl _) _ _ _ _ _ _ _ _
end Go.Proofs.YtifjaegfpdjikaaGreatDoor

