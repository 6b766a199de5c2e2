/-
  3 texts of this proof in one, in build order: YCat2, YIndexC, Good.
-/
import Derived.Test.YtmgkcjiejmhgcaaGreatDoorRows
import Derived.WalkKit
import Derived.WalkSpells
import Derived.WalkLawsBesides
import Derived.Test.YtmgkcjiejmhgcaaGreatDoorJ01
import Derived.Test.YtmgkcjiejmhgcaaGreatDoorJ02
import Derived.Test.YtmgkcjiejmhgcaaGreatDoorJ04
set_option linter.unusedSimpArgs false
set_option linter.unusedVariables false
namespace Go.Proofs.YtmgkcjiejmhgcaaGreatDoor
open Go.RowKit Go.Maps
theorem Eo {T :List TabD} {t :TabD} {s :Wd} (h :A5 T s=some t) (tv iv :Value) (hiv :Dx iv) (C :Nat) (w :World) (hl :IsL A4 (fun k=>k<C) w tv T) (hC :C≤w.heap.size) :
  Calls Tryz.prog 17 #[.agg #[tv,iv], .string s] w fun e w'=> ∃ao n c,e= .returned (.tuple #[.agg #[.string t.name, .slice ao n c], .bool true]) ∧IsL Bg (fun k=>k<C) w' (.slice ao n c) t.cols∧Below w.heap.size w w' :=by
 refine (Ia T tv iv hiv s C w hl hC).mono ?_
 rintro e w' ⟨nmv,ao,n,c,there,rfl,hm,hb⟩
 rw [h] at hm
 obtain ⟨rfl,rfl,hL⟩ :=hm
 exact ⟨ao,n,c,rfl,hL,hb⟩
theorem Ep {T :List TabD} {s :Wd} (h :A5 T s=none) (tv iv :Value) (hiv :Dx iv) (C :Nat) (w :World) (hl :IsL A4 (fun k=>k<C) w tv T) (hC :C≤w.heap.size) :
  Calls Tryz.prog 17 #[.agg #[tv,iv], .string s] w fun e w'=>e= .returned (.tuple #[.agg #[.string noW, .slice none 0 0], .bool false]) ∧Below w.heap.size w w' :=by
 refine (Ia T tv iv hiv s C w hl hC).mono ?_
 rintro e w' ⟨nmv,ao,n,c,there,rfl,hm,hb⟩
 rw [h] at hm
 obtain ⟨rfl,rfl,rfl,rfl,rfl⟩ :=hm
 exact ⟨rfl,hb⟩
def E8 (T :List TabD) (tb cl :Wd) :Bool :=match A5 T tb with
 | some t=>decide (0≤Bk t.cols cl)
 | none=>false
set_option maxRecDepth 100000 in
set_option maxHeartbeats 2000000 in
theorem Nu (T :List TabD) (tv iv :Value) (hiv :Dx iv) (tb cl :Wd) (C :Nat) (w :World) (hl :IsL A4 (fun k=>k<C) w tv T) (hC :C≤w.heap.size) :
  Calls Tryz.prog 68 #[.agg #[tv,iv], .string tb, .string cl] w fun e w'=>e= .returned (.bool (E8 T tb cl)) ∧Below w.heap.size w w' :=by
 obtain ⟨ao,c,rfl⟩ :=hl.shape
 have hbx :=Aq w (.cells #[.slice ao T.length c,iv] 25)
 have hl1 :=hl.keep (Ag (hbx.mono hC))
 have hC1 :=Nat.le_trans hC hbx.size
 cases h :A5 T tb with
 | none=>
  have HF :=Ep h (.slice ao T.length c) iv hiv C _ hl1 hC1
  have E :Hid (E8 T tb cl=false) :=by show _=_;simp [E8,h]
  generalize E8 T tb cl=r at E
  obtain ⟨io,il,ic,rfl⟩ :=hiv
  clear hl hl1 h
  go_enter Tryz.func68,Tryz.ntmps68
  go_wp2_with (go_at_call 17;go_fit HF;rintro e w1 ⟨rfl,hb1⟩)
  go_ret
  exact ⟨Aj (by rw [E.out]),(Ak hbx hb1).alloc (Nat.le_trans hbx.size hb1.size) _⟩
 | some t=>
  have HF :=Eo h (.slice ao T.length c) iv hiv C _ hl1 hC1
  have E :Hid (E8 T tb cl=decide (0≤Bk t.cols cl)) :=by show _=_;simp [E8,h]
  generalize E8 T tb cl=r at E
  have HCo :=fun w' sv (h :IsL Bg (fun k=>k<C) w' sv t.cols) (hh :C≤w'.heap.size) =>Hr t.cols t.name sv cl C w' h hh
  generalize Bk t.cols cl=q at E HCo
  obtain ⟨io,il,ic,rfl⟩ :=hiv
  clear hl hl1 h
  go_enter Tryz.func68,Tryz.ntmps68
  go_wp2_with (first | (go_at_call 17;go_fit HF;rintro e w1 ⟨so,sn,sc,rfl,hL,hb1⟩;have hb2 :=Aq w1 (.cells #[.string t.name, .slice so sn sc] 47);have hC2 :=Nat.le_trans hC1 hb1.size) | (go_at_call 15;go_fit (HCo _ _ (hL.keep (Ag (hb2.mono hC2))) (Nat.le_trans hC2 hb2.size));rintro e w2 ⟨rfl,hb3⟩))
  go_ret
  exact ⟨Aj (by rw [E.out]),Ak (Ak hbx hb1) (Ak hb2 hb3)⟩
def Eq (T :List TabD) (x :IdxD) :Bool := !nm x.name || !E8 T x.table x.col
set_option maxRecDepth 100000 in
set_option maxHeartbeats 2000000 in
theorem M2 (T :List TabD) (x :IdxD) (tv iv :Value) (hiv :Dx iv) (pb C :Nat) (w :World) (hl :IsL A4 (fun k=>k<C) w tv T) (hC :C≤w.heap.size) (hs :x.name.size≤maxLen) (p0 :w.cell? ⟨pb,0,none⟩ =some tv) (p1 :w.cell? ⟨pb,1,none⟩ =some iv) (hpb :pb<w.heap.size) :
  Calls Tryz.prog 67 #[.agg #[.string x.name, .string x.table, .string x.col], .pointer (some ⟨pb,0,none⟩)] w fun e w'=>e= .returned (.bool (Eq T x)) ∧Below w.heap.size w w' :=by
 obtain ⟨name,tb,cl⟩ :=x
 obtain ⟨ao,c,rfl⟩ :=hl.shape
 simp only at hs⊢
 have hbx :=Aq w (.cells #[.string name, .string tb, .string cl] 64)
 have hN :=fun w=>Gl name w hs
 have HH :=Nu T (.slice ao T.length c) iv hiv tb cl C _ (hl.keep (Ag (hbx.mono hC))) (Nat.le_trans hC hbx.size)
 have E :Hid (Eq T ⟨name,tb,cl⟩ = (!nm name || !E8 T tb cl)) :=rfl
 generalize Eq T ⟨name,tb,cl⟩ =r at E
 generalize nm name=b at hN E
 generalize E8 T tb cl=h at HH E
 obtain ⟨io,il,ic,rfl⟩ :=hiv
 have p0' := (hbx.cell (p := ⟨pb,0,none⟩) hpb).trans p0
 have p1' := (hbx.cell (p := ⟨pb,1,none⟩) hpb).trans p1
 clear hl hs
 cases b
 ·go_enter Tryz.func67,Tryz.ntmps67
  go_wp2_with (go_at_call 34;go_fit (hN _);rintro e w1 ⟨rfl,rfl⟩)
  go_ret
  exact ⟨Aj (by rw [E.out];rfl),hbx⟩
 ·go_enter Tryz.func67,Tryz.ntmps67
  go_wp2_with (first | (go_at_call 34;go_fit (hN _);rintro e w1 ⟨rfl,rfl⟩) | (go_at_call 68;go_fit HH;rintro e w2 ⟨rfl,hb2⟩))
  go_ret
  exact ⟨Aj (by rw [E.out];rfl),Ak hbx hb2⟩
def J3 (T :List TabD) (I :List IdxD) :Bool := !A1 (atI I (Eq T)) 0 I.length&&D3 (I.map IdxD.name)
def Tm (I :List IdxD) :Prop := ∀x∈I,x.name.size≤maxLen∧x.table.size≤maxLen∧x.col.size≤maxLen
set_option maxRecDepth 100000 in
set_option maxHeartbeats 2000000 in
theorem Nv (T :List TabD) (I :List IdxD) (tv iv :Value) (C :Nat) (w :World) (hl :IsL A4 (fun k=>k<C) w tv T) (hi :IsL B7 (fun k=>k<C) w iv I) (hC :C≤w.heap.size) (hf :Tm I) :
  Calls Tryz.prog 33 #[.agg #[tv,iv]] w fun e w'=>e= .returned (.bool (J3 T I)) ∧Below w.heap.size w w' :=by
 obtain ⟨to',tc,rfl⟩ :=hl.shape
 obtain ⟨ao,c,rfl⟩ :=hi.shape
 have hbx :=Aq w (.cells #[.slice to' T.length tc, .slice ao I.length c] 25)
 have hbl : (w.alloc (.cells #[.slice to' T.length tc, .slice ao I.length c] 25)).heap[w.heap.size]? =some (.cells #[.slice to' T.length tc, .slice ao I.length c] 25) :=Ab _ _
 have HC :=J2 I (fun k=>k<C) ao I.length c (.pointer (some ⟨w.heap.size,0,none⟩)) (atI I (Eq T))
  (fun _ W=>Below (w.heap.size+1) (w.alloc (.cells #[.slice to' T.length tc, .slice ao I.length c] 25)) W) (fun W=>Below (w.heap.size+1) (w.alloc (.cells #[.slice to' T.length tc, .slice ao I.length c] 25)) W)
  (w.alloc (.cells #[.slice to' T.length tc, .slice ao I.length c] 25)) (fun i W h=>h) (fun i W h=>hi.keep (Ag ((hbx.mono hC).trans (h.mono (by omega)))))
  (by
   rintro i x cs W hx h1 rfl
   have hsz :=h1.size
   rw [World.size_alloc] at hsz
   have hbW :Below w.heap.size w W :=hbx.trans (h1.mono (by omega))
   have hB := (h1.block w.heap.size (by omega)).trans hbl
   refine (M2 T x (.slice to' T.length tc) (.slice ao I.length c) (Au _ _ _) w.heap.size C W (hl.keep (Ag (hbW.mono hC))) (Nat.le_trans hC hbW.size) (hf x (List.mem_of_getElem? hx)).1 (Aa hB rfl) (Aa hB rfl) (by omega)).mono ?_
   rintro e W' ⟨rfl,hb⟩
   have hT :=h1.trans (hb.mono hsz)
   exact ⟨by rw [Cn hx],hT,fun _=>hT⟩)
  (Below.refl _ _)
 have HR :=fun w' (h :Below w.heap.size w w') =>Xn I (.slice ao I.length c) C w' (hi.keep (Ag (h.mono hC))) (Nat.le_trans hC h.size)
 have E :Hid (J3 T I= (!A1 (atI I (Eq T)) 0 I.length&&D3 (I.map IdxD.name))) :=rfl
 generalize J3 T I=r at E
 generalize A1 (atI I (Eq T)) 0 I.length=q at E HC
 generalize D3 (I.map IdxD.name) =r2 at E HR
 clear hl hi hf
 cases q
 ·go_enter Tryz.func33,Tryz.ntmps33
  go_wp2_with (first | (go_at_call 69;go_fit HC;rintro e w1 ⟨rfl,hb1⟩;have hbw :Below w.heap.size w w1 :=hbx.trans (hb1.mono (by omega));have g1 := (hb1.cell (p := ⟨w.heap.size,1,none⟩) (show w.heap.size<w.heap.size+1 by omega)).trans (Aa hbl rfl)) | (go_at_call 70;go_fit (HR _ hbw);rintro e w2 ⟨rfl,hb2⟩))
  go_ret
  exact ⟨Aj (by rw [E.out];rfl),Ak hbw hb2⟩
 ·go_enter Tryz.func33,Tryz.ntmps33
  go_wp2_with (first | (go_at_call 69;go_fit HC;rintro e w1 ⟨rfl,hb1⟩;have hbw :Below w.heap.size w w1 :=hbx.trans (hb1.mono (by omega))))
  go_ret
  exact ⟨Aj (by rw [E.out];rfl),hbw⟩
structure CatD where
 tables :List TabD
 indexes :List IdxD
def Cq (c :CatD) :Bool :=decide (c.tables.length≤3) &&decide (c.indexes.length≤4) &&Ij c.tables&&J3 c.tables c.indexes
def Bh (F :Nat→Prop) (w :World) (c :CatD) (v :Value) :Prop := ∃tv iv,v= .agg #[tv,iv] ∧IsL A4 F w tv c.tables∧IsL B7 F w iv c.indexes
def Gv (c :CatD) :Prop :=Tl c.tables∧Tm c.indexes
theorem Bh.keep {F :Nat→Prop} {w w' :World} {c :CatD} {v :Value} (h :Bh F w c v) (hk :Keeps F w w') :Bh F w' c v :=by
 obtain ⟨tv,iv,h1,h2,h3⟩ :=h
 exact ⟨tv,iv,h1,h2.keep hk,h3.keep hk⟩
set_option maxRecDepth 100000 in
set_option maxHeartbeats 2000000 in
theorem G6 (ct :CatD) (v :Value) (C :Nat) (w :World) (h :Bh (fun k=>k<C) w ct v) (hC :C≤w.heap.size) (hf :Gv ct) :
  Calls Tryz.prog 9 #[v] w fun e w'=>e= .returned (.bool (Cq ct)) ∧Below w.heap.size w w' :=by
 obtain ⟨T,I⟩ :=ct
 obtain ⟨tv,iv,rfl,hl,hi⟩ :=h
 simp only at hl hi
 obtain ⟨to',tc,rfl⟩ :=hl.shape
 obtain ⟨ao,c,rfl⟩ :=hi.shape
 have hbx :=Aq w (.cells #[.slice to' T.length tc, .slice ao I.length c] 25)
 have HT :=On T (.slice to' T.length tc) C _ (hl.keep (Ag (hbx.mono hC))) (Nat.le_trans hC hbx.size) hf.1
 have HI :=fun w' (h :Below w.heap.size w w') =>Nv T I (.slice to' T.length tc) (.slice ao I.length c) C w' (hl.keep (Ag (h.mono hC))) (hi.keep (Ag (h.mono hC))) (Nat.le_trans hC h.size) hf.2
 have E :Hid (Cq ⟨T,I⟩ = (decide (T.length≤3) &&decide (I.length≤4) &&Ij T&&J3 T I)) :=rfl
 generalize Cq ⟨T,I⟩ =r at E
 generalize Ij T=g at HT E
 generalize J3 T I=g2 at HI E
 have hlm := (Bj hl).2
 have hlm2 := (Bj hi).2
 unfold maxLen at hlm hlm2
 clear hl hi hf
 by_cases h3 :T.length≤3
 rotate_left
 ·have q1 : ¬ (T.length :Int) ≤3 :=by omega
  have E2 :Hid (r=false) :=by show _=_;rw [E.out];simp [h3]
  clear HT HI E
  go_enter Tryz.func9,Tryz.ntmps9
  go_wp2_with fail
  go_ret
  exact ⟨Aj (by rw [E2.out]),hbx⟩
 have q1 : (T.length :Int) ≤3 :=by omega
 by_cases h4 :I.length≤4
 rotate_left
 ·have q2 : ¬ (I.length :Int) ≤4 :=by omega
  have E2 :Hid (r=false) :=by show _=_;rw [E.out];simp [h4]
  clear HT HI E
  go_enter Tryz.func9,Tryz.ntmps9
  go_wp2_with fail
  go_ret
  exact ⟨Aj (by rw [E2.out]),hbx⟩
 have q2 : (I.length :Int) ≤4 :=by omega
 have E2 :Hid (r= (g&&g2)) :=by show _=_;rw [E.out];simp [h3,h4]
 clear E
 cases g
 ·go_enter Tryz.func9,Tryz.ntmps9
  go_wp2_with (go_at_call 32;go_fit HT;rintro e w1 ⟨rfl,hb1⟩)
  go_ret
  exact ⟨Aj (by rw [E2.out];rfl),Ak hbx hb1⟩
 ·go_enter Tryz.func9,Tryz.ntmps9
  go_wp2_with (first | (go_at_call 32;go_fit HT;rintro e w1 ⟨rfl,hb1⟩;obtain ⟨hcc,hff⟩ :=Y3 hb1) | (go_at_call 33;go_fit (HI _ (Ak hbx hb1));rintro e w2 ⟨rfl,hb2⟩))
  go_ret
  exact ⟨Aj (by rw [E2.out];rfl),Ak (Ak hbx hb1) hb2⟩
end Go.Proofs.YtmgkcjiejmhgcaaGreatDoor

namespace Go.Proofs.YtmgkcjiejmhgcaaGreatDoor
open Go.RowKit
set_option maxRecDepth 100000 in
set_option maxHeartbeats 2000000 in
theorem Oo (l :List (E)) (F :Nat→Prop) (ao :Option Addr) (n c :Nat) (f0 :Value) (p :Nat→Bool) (St :Nat→World→Prop) (En :World→Prop) (w :World) (hEn : ∀i W,St i W→En W) (hIs : ∀i W,St i W→IsL As F W (.slice ao n c) l)
  (hcall : ∀i x cs W,l[i]? =some x→St i W→As.R F W x cs→Calls Tryz.prog 91 #[.agg cs.toArray,f0] W fun e W'=>e= .returned (.bool (p i)) ∧En W'∧ (p i=false→St (i+1) W')) (h0 :St 0 w) :
  Calls Tryz.prog 92 #[.slice ao n c, .func (.func 91) #[] #[f0]] w fun e W'=>e= .returned (.int .i64 (Al p 0 l.length)) ∧En W' :=by
 obtain ⟨hn,hlm⟩ :=Bj (hIs 0 w h0)
 subst hn
 unfold maxLen at hlm
 go_enter Tryz.func92,Tryz.ntmps92
 go_wp2
 go_loopw [8] (fun i wr=> ∃k :Nat,k≤l.length∧i= .int .i64 k∧St k wr∧Hid (Al p 0 l.length=Al p k (l.length - k))) (fun i _=>l.length - (intOf i).toNat)
 case atStart=>exact ⟨0,Nat.zero_le _,rfl,h0,rfl⟩
 case round=>
  obtain ⟨k,hk,rfl,hSt,HP⟩ :=hrel
  by_cases hlt :k<l.length
  ·obtain ⟨x,hx⟩ : ∃x,l[k]? =some x := ⟨_,List.getElem?_eq_getElem hlt⟩
   obtain ⟨b,off,cs,rfl,_,hb,hR,hcell⟩ :=Av (hIs k wr hSt) hx
   have HC :=hcall k x cs wr hx hSt hR
   obtain ⟨xo,xk,xn,xs2,xs,xm,xi,xa,xl,xc,rfl⟩ :=Cm hR
   have d0 :=hcell 0 _ rfl
   have d1 :=hcell 1 _ rfl
   have d2 :=hcell 2 _ rfl
   have d3 :=hcell 3 _ rfl
   have d4 :=hcell 4 _ rfl
   have d5 :=hcell 5 _ rfl
   have d6 :=hcell 6 _ rfl
   have d7 :=hcell 7 _ rfl
   simp only [As,Nat.add_zero] at d0 d1 d2 d3 d4 d5 d6 d7
   have k0 : (0 :Int) ≤ (k :Int) :=by omega
   have k1 : (k :Int) < (l.length :Int) :=by omega
   have hst :Hid (Al p k (l.length - k) =if p k then (k :Int) else Al p (k+1) (l.length - (k+1))) :=Ch p k l.length hlt
   clear hcell hx
   generalize hq :p k=q at HC hst
   clear hq
   cases q
   ·go_wp2_with (go_at_call 91;go_must (go_fit HC;rintro e W' ⟨rfl,_,hS1⟩))
    go_roundw
    case rel=>exact ⟨k+1,by omega,by go_num,hS1 (by first | rfl | trivial),by rw [HP.out,hst.out];rfl⟩
    case measure=>simp [intOf];omega
   ·go_wp2_with (go_at_call 91;go_must (go_fit HC;rintro e W' ⟨rfl,hS1,_⟩))
    go_ret
    exact ⟨A6 (by rw [HP.out,hst.out];rfl),hS1⟩
  ·have HE :Hid (Al p k (l.length - k) = -1) :=by show _=_;rw [show l.length - k=0 from by omega,Al]
   go_wp2
   go_ret
   exact ⟨A6 (by rw [HP.out,HE.out]),hEn k _ hSt⟩
set_option maxHeartbeats 2000000 in
theorem Ml (l :List (E)) (F :Nat→Prop) (ao :Option Addr) (n c :Nat) (f0 :Value) (p :Nat→Bool) (St :Nat→World→Prop) (En :World→Prop) (w :World) (hEn : ∀i W,St i W→En W) (hIs : ∀i W,St i W→IsL As F W (.slice ao n c) l)
  (hcall : ∀i x cs W,l[i]? =some x→St i W→As.R F W x cs→Calls Tryz.prog 91 #[.agg cs.toArray,f0] W fun e W'=>e= .returned (.bool (p i)) ∧En W'∧ (p i=false→St (i+1) W')) (h0 :St 0 w) :
  Calls Tryz.prog 51 #[.slice ao n c, .func (.func 91) #[] #[f0]] w fun e W'=>e= .returned (.bool (A1 p 0 l.length)) ∧En W' :=by
 have HI :=Oo l F ao n c f0 p St En w hEn hIs hcall h0
 have HA :Hid (A1 p 0 l.length=decide (0≤Al p 0 l.length)) :=D5 p l.length 0
 generalize A1 p 0 l.length=r at HA
 generalize Al p 0 l.length=q at HI HA
 clear hIs hcall h0 hEn
 go_enter Tryz.func51,Tryz.ntmps51
 go_wp2_with (go_at_call 92;go_must (go_fit HI;rintro e W' ⟨rfl,hS1⟩))
 go_ret
 exact ⟨Aj (by rw [HA.out]),hS1⟩
set_option maxRecDepth 100000 in
set_option maxHeartbeats 2000000 in
theorem M3 (l :List (E)) (F :Nat→Prop) (ao :Option Addr) (n c :Nat) (p :Nat→Bool) (St :Nat→World→Prop) (En :World→Prop) (w :World) (hEn : ∀i W,St i W→En W) (hIs : ∀i W,St i W→IsL As F W (.slice ao n c) l)
  (hcall : ∀i x cs W,l[i]? =some x→St i W→As.R F W x cs→Calls Tryz.prog 48 #[.agg cs.toArray] W fun e W'=>e= .returned (.bool (p i)) ∧En W'∧ (p i=false→St (i+1) W')) (h0 :St 0 w) :
  Calls Tryz.prog 92 #[.slice ao n c, .func (.func 48) #[] #[]] w fun e W'=>e= .returned (.int .i64 (Al p 0 l.length)) ∧En W' :=by
 obtain ⟨hn,hlm⟩ :=Bj (hIs 0 w h0)
 subst hn
 unfold maxLen at hlm
 go_enter Tryz.func92,Tryz.ntmps92
 go_wp2
 go_loopw [8] (fun i wr=> ∃k :Nat,k≤l.length∧i= .int .i64 k∧St k wr∧Hid (Al p 0 l.length=Al p k (l.length - k))) (fun i _=>l.length - (intOf i).toNat)
 case atStart=>exact ⟨0,Nat.zero_le _,rfl,h0,rfl⟩
 case round=>
  obtain ⟨k,hk,rfl,hSt,HP⟩ :=hrel
  by_cases hlt :k<l.length
  ·obtain ⟨x,hx⟩ : ∃x,l[k]? =some x := ⟨_,List.getElem?_eq_getElem hlt⟩
   obtain ⟨b,off,cs,rfl,_,hb,hR,hcell⟩ :=Av (hIs k wr hSt) hx
   have HC :=hcall k x cs wr hx hSt hR
   obtain ⟨xo,xk,xn,xs2,xs,xm,xi,xa,xl,xc,rfl⟩ :=Cm hR
   have d0 :=hcell 0 _ rfl
   have d1 :=hcell 1 _ rfl
   have d2 :=hcell 2 _ rfl
   have d3 :=hcell 3 _ rfl
   have d4 :=hcell 4 _ rfl
   have d5 :=hcell 5 _ rfl
   have d6 :=hcell 6 _ rfl
   have d7 :=hcell 7 _ rfl
   simp only [As,Nat.add_zero] at d0 d1 d2 d3 d4 d5 d6 d7
   have k0 : (0 :Int) ≤ (k :Int) :=by omega
   have k1 : (k :Int) < (l.length :Int) :=by omega
   have hst :Hid (Al p k (l.length - k) =if p k then (k :Int) else Al p (k+1) (l.length - (k+1))) :=Ch p k l.length hlt
   clear hcell hx
   generalize hq :p k=q at HC hst
   clear hq
   cases q
   ·go_wp2_with (go_at_call 48;go_must (go_fit HC;rintro e W' ⟨rfl,_,hS1⟩))
    go_roundw
    case rel=>exact ⟨k+1,by omega,by go_num,hS1 (by first | rfl | trivial),by rw [HP.out,hst.out];rfl⟩
    case measure=>simp [intOf];omega
   ·go_wp2_with (go_at_call 48;go_must (go_fit HC;rintro e W' ⟨rfl,hS1,_⟩))
    go_ret
    exact ⟨A6 (by rw [HP.out,hst.out];rfl),hS1⟩
  ·have HE :Hid (Al p k (l.length - k) = -1) :=by show _=_;rw [show l.length - k=0 from by omega,Al]
   go_wp2
   go_ret
   exact ⟨A6 (by rw [HP.out,HE.out]),hEn k _ hSt⟩
set_option maxHeartbeats 2000000 in
theorem Ky (l :List (E)) (F :Nat→Prop) (ao :Option Addr) (n c :Nat) (p :Nat→Bool) (St :Nat→World→Prop) (En :World→Prop) (w :World) (hEn : ∀i W,St i W→En W) (hIs : ∀i W,St i W→IsL As F W (.slice ao n c) l)
  (hcall : ∀i x cs W,l[i]? =some x→St i W→As.R F W x cs→Calls Tryz.prog 48 #[.agg cs.toArray] W fun e W'=>e= .returned (.bool (p i)) ∧En W'∧ (p i=false→St (i+1) W')) (h0 :St 0 w) :
  Calls Tryz.prog 51 #[.slice ao n c, .func (.func 48) #[] #[]] w fun e W'=>e= .returned (.bool (A1 p 0 l.length)) ∧En W' :=by
 have HI :=M3 l F ao n c p St En w hEn hIs hcall h0
 have HA :Hid (A1 p 0 l.length=decide (0≤Al p 0 l.length)) :=D5 p l.length 0
 generalize A1 p 0 l.length=r at HA
 generalize Al p 0 l.length=q at HI HA
 clear hIs hcall h0 hEn
 go_enter Tryz.func51,Tryz.ntmps51
 go_wp2_with (go_at_call 92;go_must (go_fit HI;rintro e W' ⟨rfl,hS1⟩))
 go_ret
 exact ⟨Aj (by rw [HA.out]),hS1⟩
set_option maxRecDepth 100000 in
set_option maxHeartbeats 2000000 in
theorem Vk (l :List (Int)) (F :Nat→Prop) (ao :Option Addr) (n c :Nat) (f0 :Value) (p :Nat→Bool) (St :Nat→World→Prop) (En :World→Prop) (w :World) (hEn : ∀i W,St i W→En W) (hIs : ∀i W,St i W→IsL Gu F W (.slice ao n c) l)
  (hcall : ∀i x cs W,l[i]? =some x→St i W→Gu.R F W x cs→Calls Tryz.prog 145 #[cs.headD (.bool false),f0] W fun e W'=>e= .returned (.bool (p i)) ∧En W'∧ (p i=false→St (i+1) W')) (h0 :St 0 w) :
  Calls Tryz.prog 150 #[.slice ao n c, .func (.func 145) #[] #[f0]] w fun e W'=>e= .returned (.int .i64 (Al p 0 l.length)) ∧En W' :=by
 obtain ⟨hn,hlm⟩ :=Bj (hIs 0 w h0)
 subst hn
 unfold maxLen at hlm
 go_enter Tryz.func150,Tryz.ntmps150
 go_wp2
 go_loopw [8] (fun i wr=> ∃k :Nat,k≤l.length∧i= .int .i64 k∧St k wr∧Hid (Al p 0 l.length=Al p k (l.length - k))) (fun i _=>l.length - (intOf i).toNat)
 case atStart=>exact ⟨0,Nat.zero_le _,rfl,h0,rfl⟩
 case round=>
  obtain ⟨k,hk,rfl,hSt,HP⟩ :=hrel
  by_cases hlt :k<l.length
  ·obtain ⟨x,hx⟩ : ∃x,l[k]? =some x := ⟨_,List.getElem?_eq_getElem hlt⟩
   obtain ⟨b,off,cs,rfl,_,hb,hR,hcell⟩ :=Av (hIs k wr hSt) hx
   have HC :=hcall k x cs wr hx hSt hR
   obtain rfl :=hR
   have d0 :=hcell 0 _ rfl
   simp only [Gu,Nat.add_zero,Nat.mul_one] at d0
   have k0 : (0 :Int) ≤ (k :Int) :=by omega
   have k1 : (k :Int) < (l.length :Int) :=by omega
   have hst :Hid (Al p k (l.length - k) =if p k then (k :Int) else Al p (k+1) (l.length - (k+1))) :=Ch p k l.length hlt
   clear hcell hx
   generalize hq :p k=q at HC hst
   clear hq
   cases q
   ·go_wp2_with (go_at_call 145;go_must (go_fit HC;rintro e W' ⟨rfl,_,hS1⟩))
    go_roundw
    case rel=>exact ⟨k+1,by omega,by go_num,hS1 (by first | rfl | trivial),by rw [HP.out,hst.out];rfl⟩
    case measure=>simp [intOf];omega
   ·go_wp2_with (go_at_call 145;go_must (go_fit HC;rintro e W' ⟨rfl,hS1,_⟩))
    go_ret
    exact ⟨A6 (by rw [HP.out,hst.out];rfl),hS1⟩
  ·have HE :Hid (Al p k (l.length - k) = -1) :=by show _=_;rw [show l.length - k=0 from by omega,Al]
   go_wp2
   go_ret
   exact ⟨A6 (by rw [HP.out,HE.out]),hEn k _ hSt⟩
set_option maxHeartbeats 2000000 in
theorem Qu (l :List (Int)) (F :Nat→Prop) (ao :Option Addr) (n c :Nat) (f0 :Value) (p :Nat→Bool) (St :Nat→World→Prop) (En :World→Prop) (w :World) (hEn : ∀i W,St i W→En W) (hIs : ∀i W,St i W→IsL Gu F W (.slice ao n c) l)
  (hcall : ∀i x cs W,l[i]? =some x→St i W→Gu.R F W x cs→Calls Tryz.prog 145 #[cs.headD (.bool false),f0] W fun e W'=>e= .returned (.bool (p i)) ∧En W'∧ (p i=false→St (i+1) W')) (h0 :St 0 w) :
  Calls Tryz.prog 144 #[.slice ao n c, .func (.func 145) #[] #[f0]] w fun e W'=>e= .returned (.bool (A1 p 0 l.length)) ∧En W' :=by
 have HI :=Vk l F ao n c f0 p St En w hEn hIs hcall h0
 have HA :Hid (A1 p 0 l.length=decide (0≤Al p 0 l.length)) :=D5 p l.length 0
 generalize A1 p 0 l.length=r at HA
 generalize Al p 0 l.length=q at HI HA
 clear hIs hcall h0 hEn
 go_enter Tryz.func144,Tryz.ntmps144
 go_wp2_with (go_at_call 150;go_must (go_fit HI;rintro e W' ⟨rfl,hS1⟩))
 go_ret
 exact ⟨Aj (by rw [HA.out]),hS1⟩
end Go.Proofs.YtmgkcjiejmhgcaaGreatDoor

namespace Go.Proofs.YtmgkcjiejmhgcaaGreatDoor
open Go.RowKit
set_option maxHeartbeats 400000 in
theorem Qv (c :Int) (w :World) :Calls Tryz.prog 142 #[.int .u8 c] w fun e w'=>e= .returned (.bool (Ho c)) ∧w'=w :=by
 by_cases h1 :32≤c<;>by_cases h2 :c≤126<;>by_cases h3 :c=39
 all_goals
  go_enter Tryz.func142,Tryz.ntmps142
  go_wp2
  all_goals
   go_ret
   exact ⟨Aj (by simp_all [Ho]),rfl⟩
set_option maxHeartbeats 400000 in
theorem Qc (s :ByteArray) (w :World) (h :8<s.size) (hs :s.size≤maxLen) :
  Calls Tryz.prog 128 #[.string s] w fun e w'=>e= .returned (.bool false) ∧w'=w :=by
 unfold maxLen at hs
 go_enter Tryz.func128,Tryz.ntmps128
 go_wp2
 go_ret
 exact ⟨rfl,rfl⟩
set_option maxHeartbeats 400000 in
theorem Oq (s :ByteArray) (w :World) (h :s.size≤8) :
  Calls Tryz.prog 128 #[.string s] w fun e w'=>e= .returned (.bool (D1 s.data.toList)) ∧w'=w :=by
 go_enter Tryz.func128,Tryz.ntmps128
 go_wp2
 go_loop [9] (fun i=> ∃k :Nat,k≤s.size∧i= .int .i64 k∧D1 (s.data.toList.take k) =true) (fun i=>s.size - (intOf i).toNat)
 case atStart=>exact ⟨0,Nat.zero_le _,rfl,rfl⟩
 case round=>
  obtain ⟨k,hk,rfl,hg0⟩ :=hrel
  have hg :Hid (D1 (s.data.toList.take k) =true) :=hg0
  clear hg0
  by_cases hlt :k<s.size
  ·have hsn :Hid (D1 (s.data.toList.take (k+1)) = (D1 (s.data.toList.take k) &&Ho (s[k].toNat :Int))) :=by rw [K5 s k hlt,Np];rfl
   have hbad :Hid (Ho (s[k].toNat :Int) =false→D1 s.data.toList=false) :=Vg s k hlt
   cases hb :Ho (s[k].toNat :Int)
   all_goals
    go_wp2_with (go_at_call 142;refine (Qv _ _).mono ?_;rintro e w' ⟨rfl,rfl⟩)
   ·go_ret
    exact ⟨Aj (hbad.out hb).symm,rfl⟩
   ·go_round
    case rel=>exact ⟨k+1,by omega,by go_num,by rw [hsn.out,hg.out,hb];rfl⟩
    case measure=>simp [intOf];omega
  ·go_wp2
   go_ret
   exact ⟨Aj (by have :=hg.out;rw [Qo s k (by omega)] at this;exact this.symm),rfl⟩
theorem Gm (s :ByteArray) :s.toList.isEmpty=decide (s.size=0) :=by
 rw [ByteArray.toList_eq,show s.size=s.data.toList.length from by simp];cases s.data.toList<;>simp
set_option maxHeartbeats 1000000 in
theorem Xo (v :V) (w :World) (hs :v.s.size≤maxLen) :
  Calls Tryz.prog 116 #[v.val] w fun e w'=>e= .returned (.bool (Ey v)) ∧w'=w.alloc (.cells #[.int .i64 v.k, .int .i64 v.n, .string v.s] 32) :=by
 obtain ⟨k,n,s⟩ :=v
 show Calls Tryz.prog 116 #[.agg #[.int .i64 k, .int .i64 n, .string s]] w _
 by_cases h0 :k=0
 ·subst h0
  by_cases hn :n=0
  all_goals
   go_enter Tryz.func116,Tryz.ntmps116
   go_wp2
   go_ret
   exact ⟨Aj (by simp [Ey,hn,Gm]),rfl⟩
 by_cases h1 :k=1
 ·subst h1
  rcases (show n< -1000000∨1000000<n∨ (-1000000≤n∧n≤1000000) from by omega) with hn | hn | ⟨hn,hm⟩
  ·have e :decide (-1000000≤n) =false :=by simp;omega
   go_enter Tryz.func116,Tryz.ntmps116
   go_wp2
   go_ret
   exact ⟨Aj (by simp [Ey,e]),rfl⟩
  ·have e :decide (n≤1000000) =false :=by simp;omega
   go_enter Tryz.func116,Tryz.ntmps116
   go_wp2
   go_ret
   exact ⟨Aj (by simp [Ey,e]),rfl⟩
  ·go_enter Tryz.func116,Tryz.ntmps116
   go_wp2
   go_ret
   exact ⟨Aj (by simp [Ey,hn,hm,Gm]),rfl⟩
 by_cases h2 :k=2
 ·subst h2
  by_cases hn :n=0
  ·subst hn
   by_cases h8 :s.size≤8
   ·go_enter Tryz.func116,Tryz.ntmps116
    go_wp2_with (go_at_call 128;refine (Oq _ _ h8).mono ?_;rintro e w' ⟨rfl,rfl⟩)
    go_ret
    exact ⟨Aj (by simp [Ey,h8]),rfl⟩
   ·have h9 :8<s.size :=by omega
    have e :decide (s.size≤8) =false :=by simp;omega
    have E :Hid (decide (s.size≤8) =false) :=e
    clear e h8
    go_enter Tryz.func116,Tryz.ntmps116
    go_wp2_with (go_at_call 128;refine (Qc s _ h9 hs).mono ?_;rintro e w' ⟨rfl,rfl⟩)
    go_ret
    exact ⟨Aj (by have :=E.out;simp [Ey,this]),rfl⟩
  ·go_enter Tryz.func116,Tryz.ntmps116
   go_wp2
   go_ret
   exact ⟨Aj (by simp [Ey,hn]),rfl⟩
 go_enter Tryz.func116,Tryz.ntmps116
 go_wp2
 go_ret
 exact ⟨Aj (by simp [Ey,h0,h1,h2]),rfl⟩
end Go.Proofs.YtmgkcjiejmhgcaaGreatDoor

