/-
  5 texts of this proof in one, in build order: YIndexB, YCat, YCat2, YIndexC, YExpr.
-/
import Derived.BigRegion
import Derived.Deep.QuietTactic
import Derived.BigQuiet
import Derived.Deep.RegionHeld3
import Derived.Test.YthehiijgnepcfaaGreatJ05
import Derived.Test.YthehiijgnepcfaaGreatJ06
import Derived.Test.YthehiijgnepcfaaGreatJ07
import Derived.Test.YthehiijgnepcfaaGreatJ11
set_option linter.unusedSimpArgs false
set_option linter.unusedVariables false
namespace Go.Proofs.YthehiijgnepcfaaGreat
open Go.RowKit
set_option maxRecDepth 100000 in
set_option maxHeartbeats 2000000 in
theorem Qg (l :List (TabD)) (F :Nat→Prop) (ao :Option Addr) (n c :Nat) (p :Nat→Bool) (St :Nat→World→Prop) (En :World→Prop) (w :World) (hEn : ∀i W,St i W→En W) (hIs : ∀i W,St i W→IsL Cq F W (.slice ao n c) l)
  (hcall : ∀i x cs W,l[i]? =some x→St i W→Cq.R F W x cs→Calls Tryz.prog 76 #[.agg cs.toArray] W fun e W'=>e= .returned (.bool (p i)) ∧En W'∧ (p i=false→St (i+1) W')) (h0 :St 0 w) :
  Calls Tryz.prog 18 #[.slice ao n c, .func (.func 76) #[] #[]] w fun e W'=>e= .returned (.int .i64 (Ah p 0 l.length)) ∧En W' :=by
 obtain ⟨hn,hlm⟩ :=Cj (hIs 0 w h0)
 subst hn
 unfold maxLen at hlm
 go_enter Tryz.func18,Tryz.ntmps18
 go_wp2
 go_loopw [8] (fun i wr=> ∃k :Nat,k≤l.length∧i= .int .i64 k∧St k wr∧Hid (Ah p 0 l.length=Ah p k (l.length - k))) (fun i _=>l.length - (intOf i).toNat)
 case atStart=>exact ⟨0,Nat.zero_le _,rfl,h0,rfl⟩
 case round=>
  obtain ⟨k,hk,rfl,hSt,HP⟩ :=hrel
  by_cases hlt :k<l.length
  ·obtain ⟨x,hx⟩ : ∃x,l[k]? =some x := ⟨_,List.getElem?_eq_getElem hlt⟩
   obtain ⟨b,off,cs,rfl,_,hb,hR,hcell⟩ :=A4 (hIs k wr hSt) hx
   have HC :=hcall k x cs wr hx hSt hR
   obtain ⟨sv,rfl,hsv⟩ :=hR
   obtain ⟨ao1,c1,rfl⟩ :=hsv.shape
   have d0 :=hcell 0 _ rfl
   have d1 :=hcell 1 _ rfl
   simp only [Cq,Nat.add_zero] at d0 d1
   have k0 : (0 :Int) ≤ (k :Int) :=by omega
   have k1 : (k :Int) < (l.length :Int) :=by omega
   have hst :Hid (Ah p k (l.length - k) =if p k then (k :Int) else Ah p (k+1) (l.length - (k+1))) :=C5 p k l.length hlt
   clear hcell hx
   generalize hq :p k=q at HC hst
   clear hq
   cases q
   ·go_wp2_with (go_at_call 76;go_must (go_fit HC;rintro e W' ⟨rfl,_,hS1⟩))
    go_roundw
    case rel=>exact ⟨k+1,by omega,by go_num,hS1 (by first | rfl | trivial),by rw [HP.out,hst.out];rfl⟩
    case measure=>simp [intOf];omega
   ·go_wp2_with (go_at_call 76;go_must (go_fit HC;rintro e W' ⟨rfl,hS1,_⟩))
    go_ret
    exact ⟨An (by rw [HP.out,hst.out];rfl),hS1⟩
  ·have HE :Hid (Ah p k (l.length - k) = -1) :=by show _=_;rw [show l.length - k=0 from by omega,Ah]
   go_wp2
   go_ret
   exact ⟨An (by rw [HP.out,HE.out]),hEn k _ hSt⟩
set_option maxHeartbeats 2000000 in
theorem Ng (l :List (TabD)) (F :Nat→Prop) (ao :Option Addr) (n c :Nat) (p :Nat→Bool) (St :Nat→World→Prop) (En :World→Prop) (w :World) (hEn : ∀i W,St i W→En W) (hIs : ∀i W,St i W→IsL Cq F W (.slice ao n c) l)
  (hcall : ∀i x cs W,l[i]? =some x→St i W→Cq.R F W x cs→Calls Tryz.prog 76 #[.agg cs.toArray] W fun e W'=>e= .returned (.bool (p i)) ∧En W'∧ (p i=false→St (i+1) W')) (h0 :St 0 w) :
  Calls Tryz.prog 78 #[.slice ao n c, .func (.func 76) #[] #[]] w fun e W'=>e= .returned (.bool (Ay p 0 l.length)) ∧En W' :=by
 have HI :=Qg l F ao n c p St En w hEn hIs hcall h0
 have HA :Hid (Ay p 0 l.length=decide (0≤Ah p 0 l.length)) :=Fn p l.length 0
 generalize Ay p 0 l.length=r at HA
 generalize Ah p 0 l.length=q at HI HA
 clear hIs hcall h0 hEn
 go_enter Tryz.func78,Tryz.ntmps78
 go_wp2_with (go_at_call 18;go_must (go_fit HI;rintro e W' ⟨rfl,hS1⟩))
 go_ret
 exact ⟨Ag (by rw [HA.out]),hS1⟩
set_option maxRecDepth 100000 in
set_option maxHeartbeats 2000000 in
theorem O8 (l :List (IdxD)) (F :Nat→Prop) (ao :Option Addr) (n c :Nat) (f0 :Value) (p :Nat→Bool) (St :Nat→World→Prop) (En :World→Prop) (w :World) (hEn : ∀i W,St i W→En W) (hIs : ∀i W,St i W→IsL Fg F W (.slice ao n c) l)
  (hcall : ∀i x cs W,l[i]? =some x→St i W→Fg.R F W x cs→Calls Tryz.prog 81 #[.agg cs.toArray,f0] W fun e W'=>e= .returned (.bool (p i)) ∧En W'∧ (p i=false→St (i+1) W')) (h0 :St 0 w) :
  Calls Tryz.prog 131 #[.slice ao n c, .func (.func 81) #[] #[f0]] w fun e W'=>e= .returned (.int .i64 (Ah p 0 l.length)) ∧En W' :=by
 obtain ⟨hn,hlm⟩ :=Cj (hIs 0 w h0)
 subst hn
 unfold maxLen at hlm
 go_enter Tryz.func131,Tryz.ntmps131
 go_wp2
 go_loopw [8] (fun i wr=> ∃k :Nat,k≤l.length∧i= .int .i64 k∧St k wr∧Hid (Ah p 0 l.length=Ah p k (l.length - k))) (fun i _=>l.length - (intOf i).toNat)
 case atStart=>exact ⟨0,Nat.zero_le _,rfl,h0,rfl⟩
 case round=>
  obtain ⟨k,hk,rfl,hSt,HP⟩ :=hrel
  by_cases hlt :k<l.length
  ·obtain ⟨x,hx⟩ : ∃x,l[k]? =some x := ⟨_,List.getElem?_eq_getElem hlt⟩
   obtain ⟨b,off,cs,rfl,_,hb,hR,hcell⟩ :=A4 (hIs k wr hSt) hx
   have HC :=hcall k x cs wr hx hSt hR
   obtain rfl :=hR
   have d0 :=hcell 0 _ rfl
   have d1 :=hcell 1 _ rfl
   have d2 :=hcell 2 _ rfl
   simp only [Fg,Nat.add_zero] at d0 d1 d2
   have k0 : (0 :Int) ≤ (k :Int) :=by omega
   have k1 : (k :Int) < (l.length :Int) :=by omega
   have hst :Hid (Ah p k (l.length - k) =if p k then (k :Int) else Ah p (k+1) (l.length - (k+1))) :=C5 p k l.length hlt
   clear hcell hx
   generalize hq :p k=q at HC hst
   clear hq
   cases q
   ·go_wp2_with (go_at_call 81;go_must (go_fit HC;rintro e W' ⟨rfl,_,hS1⟩))
    go_roundw
    case rel=>exact ⟨k+1,by omega,by go_num,hS1 (by first | rfl | trivial),by rw [HP.out,hst.out];rfl⟩
    case measure=>simp [intOf];omega
   ·go_wp2_with (go_at_call 81;go_must (go_fit HC;rintro e W' ⟨rfl,hS1,_⟩))
    go_ret
    exact ⟨An (by rw [HP.out,hst.out];rfl),hS1⟩
  ·have HE :Hid (Ah p k (l.length - k) = -1) :=by show _=_;rw [show l.length - k=0 from by omega,Ah]
   go_wp2
   go_ret
   exact ⟨An (by rw [HP.out,HE.out]),hEn k _ hSt⟩
set_option maxHeartbeats 2000000 in
theorem Mm (l :List (IdxD)) (F :Nat→Prop) (ao :Option Addr) (n c :Nat) (f0 :Value) (p :Nat→Bool) (St :Nat→World→Prop) (En :World→Prop) (w :World) (hEn : ∀i W,St i W→En W) (hIs : ∀i W,St i W→IsL Fg F W (.slice ao n c) l)
  (hcall : ∀i x cs W,l[i]? =some x→St i W→Fg.R F W x cs→Calls Tryz.prog 81 #[.agg cs.toArray,f0] W fun e W'=>e= .returned (.bool (p i)) ∧En W'∧ (p i=false→St (i+1) W')) (h0 :St 0 w) :
  Calls Tryz.prog 84 #[.slice ao n c, .func (.func 81) #[] #[f0]] w fun e W'=>e= .returned (.bool (Ay p 0 l.length)) ∧En W' :=by
 have HI :=O8 l F ao n c f0 p St En w hEn hIs hcall h0
 have HA :Hid (Ay p 0 l.length=decide (0≤Ah p 0 l.length)) :=Fn p l.length 0
 generalize Ay p 0 l.length=r at HA
 generalize Ah p 0 l.length=q at HI HA
 clear hIs hcall h0 hEn
 go_enter Tryz.func84,Tryz.ntmps84
 go_wp2_with (go_at_call 131;go_must (go_fit HI;rintro e W' ⟨rfl,hS1⟩))
 go_ret
 exact ⟨Ag (by rw [HA.out]),hS1⟩
set_option maxRecDepth 100000 in
set_option maxHeartbeats 2000000 in
theorem U6 (l :List (IdxD)) (F :Nat→Prop) (ao :Option Addr) (n c :Nat) (f0 :Value) (p :Nat→Bool) (St :Nat→World→Prop) (En :World→Prop) (w :World) (hEn : ∀i W,St i W→En W) (hIs : ∀i W,St i W→IsL Fg F W (.slice ao n c) l)
  (hcall : ∀i x cs W,l[i]? =some x→St i W→Fg.R F W x cs→Calls Tryz.prog 90 #[.agg cs.toArray,f0] W fun e W'=>e= .returned (.bool (p i)) ∧En W'∧ (p i=false→St (i+1) W')) (h0 :St 0 w) :
  Calls Tryz.prog 131 #[.slice ao n c, .func (.func 90) #[] #[f0]] w fun e W'=>e= .returned (.int .i64 (Ah p 0 l.length)) ∧En W' :=by
 obtain ⟨hn,hlm⟩ :=Cj (hIs 0 w h0)
 subst hn
 unfold maxLen at hlm
 go_enter Tryz.func131,Tryz.ntmps131
 go_wp2
 go_loopw [8] (fun i wr=> ∃k :Nat,k≤l.length∧i= .int .i64 k∧St k wr∧Hid (Ah p 0 l.length=Ah p k (l.length - k))) (fun i _=>l.length - (intOf i).toNat)
 case atStart=>exact ⟨0,Nat.zero_le _,rfl,h0,rfl⟩
 case round=>
  obtain ⟨k,hk,rfl,hSt,HP⟩ :=hrel
  by_cases hlt :k<l.length
  ·obtain ⟨x,hx⟩ : ∃x,l[k]? =some x := ⟨_,List.getElem?_eq_getElem hlt⟩
   obtain ⟨b,off,cs,rfl,_,hb,hR,hcell⟩ :=A4 (hIs k wr hSt) hx
   have HC :=hcall k x cs wr hx hSt hR
   obtain rfl :=hR
   have d0 :=hcell 0 _ rfl
   have d1 :=hcell 1 _ rfl
   have d2 :=hcell 2 _ rfl
   simp only [Fg,Nat.add_zero] at d0 d1 d2
   have k0 : (0 :Int) ≤ (k :Int) :=by omega
   have k1 : (k :Int) < (l.length :Int) :=by omega
   have hst :Hid (Ah p k (l.length - k) =if p k then (k :Int) else Ah p (k+1) (l.length - (k+1))) :=C5 p k l.length hlt
   clear hcell hx
   generalize hq :p k=q at HC hst
   clear hq
   cases q
   ·go_wp2_with (go_at_call 90;go_must (go_fit HC;rintro e W' ⟨rfl,_,hS1⟩))
    go_roundw
    case rel=>exact ⟨k+1,by omega,by go_num,hS1 (by first | rfl | trivial),by rw [HP.out,hst.out];rfl⟩
    case measure=>simp [intOf];omega
   ·go_wp2_with (go_at_call 90;go_must (go_fit HC;rintro e W' ⟨rfl,hS1,_⟩))
    go_ret
    exact ⟨An (by rw [HP.out,hst.out];rfl),hS1⟩
  ·have HE :Hid (Ah p k (l.length - k) = -1) :=by show _=_;rw [show l.length - k=0 from by omega,Ah]
   go_wp2
   go_ret
   exact ⟨An (by rw [HP.out,HE.out]),hEn k _ hSt⟩
set_option maxHeartbeats 2000000 in
theorem Qh (l :List (IdxD)) (F :Nat→Prop) (ao :Option Addr) (n c :Nat) (f0 :Value) (p :Nat→Bool) (St :Nat→World→Prop) (En :World→Prop) (w :World) (hEn : ∀i W,St i W→En W) (hIs : ∀i W,St i W→IsL Fg F W (.slice ao n c) l)
  (hcall : ∀i x cs W,l[i]? =some x→St i W→Fg.R F W x cs→Calls Tryz.prog 90 #[.agg cs.toArray,f0] W fun e W'=>e= .returned (.bool (p i)) ∧En W'∧ (p i=false→St (i+1) W')) (h0 :St 0 w) :
  Calls Tryz.prog 84 #[.slice ao n c, .func (.func 90) #[] #[f0]] w fun e W'=>e= .returned (.bool (Ay p 0 l.length)) ∧En W' :=by
 have HI :=U6 l F ao n c f0 p St En w hEn hIs hcall h0
 have HA :Hid (Ay p 0 l.length=decide (0≤Ah p 0 l.length)) :=Fn p l.length 0
 generalize Ay p 0 l.length=r at HA
 generalize Ah p 0 l.length=q at HI HA
 clear hIs hcall h0 hEn
 go_enter Tryz.func84,Tryz.ntmps84
 go_wp2_with (go_at_call 131;go_must (go_fit HI;rintro e W' ⟨rfl,hS1⟩))
 go_ret
 exact ⟨Ag (by rw [HA.out]),hS1⟩
end Go.Proofs.YthehiijgnepcfaaGreat

namespace Go.Proofs.YthehiijgnepcfaaGreat
open Go.RowKit Go.Maps
def N7 :List ColD→Bool
 | x ::_=>x.must
 | [] =>false
def Hy (t :TabD) :Bool :=nm t.name&&decide (1≤t.cols.length) &&decide (t.cols.length≤4) &&N7 t.cols&&Mh t.cols
def L5 (t :TabD) :Prop :=t.name.size≤maxLen∧Ox t.cols
set_option maxRecDepth 100000 in
set_option maxHeartbeats 4000000 in
theorem Nb (t :TabD) (sv :Value) (C :Nat) (w :World) (hl :IsL Cc (fun k=>k<C) w sv t.cols) (hC :C≤w.heap.size) (hf :L5 t) :
  Calls Tryz.prog 77 #[.agg #[.string t.name,sv]] w fun e w'=>e= .returned (.bool (Hy t)) ∧Below w.heap.size w w' :=by
 obtain ⟨name,cols⟩ :=t
 simp only at hl⊢
 obtain ⟨ao,c,rfl⟩ :=hl.shape
 have hN :=fun w=>Ib name w hf.1
 have hbx :=Ao w (.cells #[.string name, .slice ao cols.length c] 43)
 have hG :=fun (h :cols.length≤16777215) =>V6 cols (.slice ao cols.length c) C (w.alloc (.cells #[.string name, .slice ao cols.length c] 43)) (hl.keep (Af (hbx.mono hC))) (Nat.le_trans hC hbx.size) hf.2 h
 have E :Hid (Hy ⟨name,cols⟩ = (nm name&&decide (1≤cols.length) &&decide (cols.length≤4) &&N7 cols&&Mh cols)) :=rfl
 generalize Hy ⟨name,cols⟩ =r at E
 generalize nm name=b at hN E
 generalize Mh cols=g at hG E
 have hlm := (Cj hl).2
 cases b
 ·clear hl hG hf
  go_enter Tryz.func77,Tryz.ntmps77
  go_wp2_with (go_at_call 82;go_fit (hN _);rintro e w1 ⟨rfl,rfl⟩)
  go_ret
  exact ⟨Ag (by rw [E.out];rfl),hbx⟩
 by_cases h1 :1≤cols.length
 rotate_left
 ·have q1 : ¬ (1 :Int) ≤ (cols.length :Int) :=by omega
  have E2 :Hid (r=false) :=by show _=_;rw [E.out];simp [h1]
  clear hl hG hf E
  go_enter Tryz.func77,Tryz.ntmps77
  go_wp2_with (go_at_call 82;go_fit (hN _);rintro e w1 ⟨rfl,rfl⟩)
  go_ret
  exact ⟨Ag (by rw [E2.out]),hbx⟩
 by_cases h4 :cols.length≤4
 rotate_left
 ·have q1 : (1 :Int) ≤ (cols.length :Int) :=by omega
  have q2 : ¬ (cols.length :Int) ≤4 :=by omega
  have E2 :Hid (r=false) :=by show _=_;rw [E.out];simp [h4]
  clear hl hG hf E
  go_enter Tryz.func77,Tryz.ntmps77
  go_wp2_with (go_at_call 82;go_fit (hN _);rintro e w1 ⟨rfl,rfl⟩)
  go_ret
  exact ⟨Ag (by rw [E2.out]),hbx⟩
 obtain ⟨x,hx⟩ : ∃x,cols[0]? =some x := ⟨_,List.getElem?_eq_getElem (by omega)⟩
 obtain ⟨b,off,cs,rfl,_,hb,hR,hcell⟩ :=A4 (hl.keep (Af (hbx.mono hC))) hx
 obtain rfl :=hR
 have d2 :=hcell 2 _ rfl
 simp only [Cc,Nat.zero_mul,Nat.add_zero] at d2
 have hm :N7 cols=x.must :=by
  match cols,hx with
  | y ::r,hx=>simp at hx;subst hx;rfl
 have q1 : (1 :Int) ≤ (cols.length :Int) :=by omega
 have q2 : (cols.length :Int) ≤4 :=by omega
 have q3 : (0 :Int) < (cols.length :Int) :=by omega
 have HG :=hG (by omega)
 have E2 :Hid (r= (x.must&&g)) :=by show _=_;rw [E.out,hm];simp [h1,h4]
 clear hl hG hf E hm hx hcell
 generalize x.must=m at d2 E2
 cases m
 ·go_enter Tryz.func77,Tryz.ntmps77
  go_wp2_with (go_at_call 82;go_fit (hN _);rintro e w1 ⟨rfl,rfl⟩)
  go_ret
  exact ⟨Ag (by rw [E2.out];rfl),hbx⟩
 ·go_enter Tryz.func77,Tryz.ntmps77
  go_wp2_with (first | (go_at_call 82;go_fit (hN _);rintro e w1 ⟨rfl,rfl⟩) | (go_at_call 127;go_fit HG;rintro e w2 ⟨rfl,hb2⟩))
  go_ret
  exact ⟨Ag (by rw [E2.out];simp),Ad hbx hb2⟩
set_option maxHeartbeats 1000000 in
theorem Rm (t :TabD) (sv :Value) (C :Nat) (w :World) (hl :IsL Cc (fun k=>k<C) w sv t.cols) (hC :C≤w.heap.size) (hf :L5 t) :
  Calls Tryz.prog 76 #[.agg #[.string t.name,sv]] w fun e w'=>e= .returned (.bool (!Hy t)) ∧Below w.heap.size w w' :=by
 obtain ⟨ao,c,rfl⟩ :=hl.shape
 have hbx :=Ao w (.cells #[.string t.name, .slice ao t.cols.length c] 43)
 have HG :=Nb t (.slice ao t.cols.length c) C _ (hl.keep (Af (hbx.mono hC))) (Nat.le_trans hC hbx.size) hf
 generalize Hy t=r at HG
 clear hl hf
 go_enter Tryz.func76,Tryz.ntmps76
 go_wp2_with (go_at_call 77;go_fit HG;rintro e w2 ⟨rfl,hb2⟩)
 go_ret
 exact ⟨rfl,Ad hbx hb2⟩
def Jk (T :List TabD) :Bool := !Ay (atI T fun t=> !Hy t) 0 T.length&&Gk (T.map TabD.name)
def Zc (T :List TabD) :Prop := ∀t∈T,L5 t
set_option maxRecDepth 100000 in
set_option maxHeartbeats 2000000 in
theorem S8 (T :List TabD) (sv :Value) (C :Nat) (w :World) (hl :IsL Cq (fun k=>k<C) w sv T) (hC :C≤w.heap.size) (hf :Zc T) :
  Calls Tryz.prog 38 #[sv] w fun e w'=>e= .returned (.bool (Jk T)) ∧Below w.heap.size w w' :=by
 obtain ⟨ao,c,rfl⟩ :=hl.shape
 have HC :=Ng T (fun k=>k<C) ao T.length c (atI T fun t=> !Hy t) (fun _ W=>Below w.heap.size w W) (fun W=>Below w.heap.size w W) w (fun i W h=>h) (fun i W h=>hl.keep (Af (h.mono hC)))
  (by
   rintro i x cs W hx h1 ⟨sv,rfl,hsv⟩
   refine (Rm x sv C W hsv (Nat.le_trans hC h1.size) (hf x (List.mem_of_getElem? hx))).mono ?_
   rintro e W' ⟨rfl,hb⟩
   exact ⟨by rw [Eu hx],h1.trans (hb.mono h1.size),fun _=>h1.trans (hb.mono h1.size)⟩)
  (Below.refl _ _)
 have HR :=fun w' (h :Below w.heap.size w w') =>Aed T (.slice ao T.length c) C w' (hl.keep (Af (h.mono hC))) (Nat.le_trans hC h.size)
 have E :Hid (Jk T= (!Ay (atI T fun t=> !Hy t) 0 T.length&&Gk (T.map TabD.name))) :=rfl
 generalize Jk T=r at E
 generalize Ay (atI T fun t=> !Hy t) 0 T.length=q at E HC
 generalize Gk (T.map TabD.name) =r2 at E HR
 clear hl hf
 cases q
 ·go_enter Tryz.func38,Tryz.ntmps38
  go_wp2_with (first | (go_at_call 78;go_fit HC;rintro e w1 ⟨rfl,hb1⟩) | (go_at_call 79;go_fit (HR _ hb1);rintro e w2 ⟨rfl,hb2⟩))
  go_ret
  exact ⟨Ag (by rw [E.out];rfl),Ad hb1 hb2⟩
 ·go_enter Tryz.func38,Tryz.ntmps38
  go_wp2_with (first | (go_at_call 78;go_fit HC;rintro e w1 ⟨rfl,hb1⟩))
  go_ret
  exact ⟨Ag (by rw [E.out];rfl),hb1⟩
end Go.Proofs.YthehiijgnepcfaaGreat

namespace Go.Proofs.YthehiijgnepcfaaGreat
open Go.RowKit Go.Maps
theorem Ev {T :List TabD} {t :TabD} {s :Wd} (h :Cr T s=some t) (tv iv :Value) (hiv :E1 iv) (C :Nat) (w :World) (hl :IsL Cq (fun k=>k<C) w tv T) (hC :C≤w.heap.size) :
  Calls Tryz.prog 6 #[.agg #[tv,iv], .string s] w fun e w'=> ∃ao n c,e= .returned (.tuple #[.agg #[.string t.name, .slice ao n c], .bool true]) ∧IsL Cc (fun k=>k<C) w' (.slice ao n c) t.cols∧Below w.heap.size w w' :=by
 refine (M8 T tv iv hiv s C w hl hC).mono ?_
 rintro e w' ⟨nmv,ao,n,c,there,rfl,hm,hb⟩
 rw [h] at hm
 obtain ⟨rfl,rfl,hL⟩ :=hm
 exact ⟨ao,n,c,rfl,hL,hb⟩
theorem Fp {T :List TabD} {s :Wd} (h :Cr T s=none) (tv iv :Value) (hiv :E1 iv) (C :Nat) (w :World) (hl :IsL Cq (fun k=>k<C) w tv T) (hC :C≤w.heap.size) :
  Calls Tryz.prog 6 #[.agg #[tv,iv], .string s] w fun e w'=>e= .returned (.tuple #[.agg #[.string noW, .slice none 0 0], .bool false]) ∧Below w.heap.size w w' :=by
 refine (M8 T tv iv hiv s C w hl hC).mono ?_
 rintro e w' ⟨nmv,ao,n,c,there,rfl,hm,hb⟩
 rw [h] at hm
 obtain ⟨rfl,rfl,rfl,rfl,rfl⟩ :=hm
 exact ⟨rfl,hb⟩
def I5 (T :List TabD) (tb cl :Wd) :Bool :=match Cr T tb with
 | some t=>decide (0≤Cy t.cols cl)
 | none=>false
set_option maxRecDepth 100000 in
set_option maxHeartbeats 2000000 in
theorem Rn (T :List TabD) (tv iv :Value) (hiv :E1 iv) (tb cl :Wd) (C :Nat) (w :World) (hl :IsL Cq (fun k=>k<C) w tv T) (hC :C≤w.heap.size) :
  Calls Tryz.prog 83 #[.agg #[tv,iv], .string tb, .string cl] w fun e w'=>e= .returned (.bool (I5 T tb cl)) ∧Below w.heap.size w w' :=by
 obtain ⟨ao,c,rfl⟩ :=hl.shape
 have hbx :=Ao w (.cells #[.slice ao T.length c,iv] 25)
 have hl1 :=hl.keep (Af (hbx.mono hC))
 have hC1 :=Nat.le_trans hC hbx.size
 cases h :Cr T tb with
 | none=>
  have HF :=Fp h (.slice ao T.length c) iv hiv C _ hl1 hC1
  have E :Hid (I5 T tb cl=false) :=by show _=_;simp [I5,h]
  generalize I5 T tb cl=r at E
  obtain ⟨io,il,ic,rfl⟩ :=hiv
  clear hl hl1 h
  go_enter Tryz.func83,Tryz.ntmps83
  go_wp2_with (go_at_call 6;go_fit HF;rintro e w1 ⟨rfl,hb1⟩)
  go_ret
  exact ⟨Ag (by rw [E.out]),(Ad hbx hb1).alloc (Nat.le_trans hbx.size hb1.size) _⟩
 | some t=>
  have HF :=Ev h (.slice ao T.length c) iv hiv C _ hl1 hC1
  have E :Hid (I5 T tb cl=decide (0≤Cy t.cols cl)) :=by show _=_;simp [I5,h]
  generalize I5 T tb cl=r at E
  have HCo :=fun w' sv (h :IsL Cc (fun k=>k<C) w' sv t.cols) (hh :C≤w'.heap.size) =>Jj t.cols t.name sv cl C w' h hh
  generalize Cy t.cols cl=q at E HCo
  obtain ⟨io,il,ic,rfl⟩ :=hiv
  clear hl hl1 h
  go_enter Tryz.func83,Tryz.ntmps83
  go_wp2_with (first | (go_at_call 6;go_fit HF;rintro e w1 ⟨so,sn,sc,rfl,hL,hb1⟩;have hb2 :=Ao w1 (.cells #[.string t.name, .slice so sn sc] 43);have hC2 :=Nat.le_trans hC1 hb1.size) | (go_at_call 71;go_fit (HCo _ _ (hL.keep (Af (hb2.mono hC2))) (Nat.le_trans hC2 hb2.size));rintro e w2 ⟨rfl,hb3⟩))
  go_ret
  exact ⟨Ag (by rw [E.out]),Ad (Ad hbx hb1) (Ad hb2 hb3)⟩
def It (T :List TabD) (x :IdxD) :Bool := !nm x.name || !I5 T x.table x.col
set_option maxRecDepth 100000 in
set_option maxHeartbeats 2000000 in
theorem Qi (T :List TabD) (x :IdxD) (tv iv :Value) (hiv :E1 iv) (pb C :Nat) (w :World) (hl :IsL Cq (fun k=>k<C) w tv T) (hC :C≤w.heap.size) (hs :x.name.size≤maxLen) (p0 :w.cell? ⟨pb,0,none⟩ =some tv) (p1 :w.cell? ⟨pb,1,none⟩ =some iv) (hpb :pb<w.heap.size) :
  Calls Tryz.prog 81 #[.agg #[.string x.name, .string x.table, .string x.col], .pointer (some ⟨pb,0,none⟩)] w fun e w'=>e= .returned (.bool (It T x)) ∧Below w.heap.size w w' :=by
 obtain ⟨name,tb,cl⟩ :=x
 obtain ⟨ao,c,rfl⟩ :=hl.shape
 simp only at hs⊢
 have hbx :=Ao w (.cells #[.string name, .string tb, .string cl] 89)
 have hN :=fun w=>Ib name w hs
 have HH :=Rn T (.slice ao T.length c) iv hiv tb cl C _ (hl.keep (Af (hbx.mono hC))) (Nat.le_trans hC hbx.size)
 have E :Hid (It T ⟨name,tb,cl⟩ = (!nm name || !I5 T tb cl)) :=rfl
 generalize It T ⟨name,tb,cl⟩ =r at E
 generalize nm name=b at hN E
 generalize I5 T tb cl=h at HH E
 obtain ⟨io,il,ic,rfl⟩ :=hiv
 have p0' := (hbx.cell (p := ⟨pb,0,none⟩) hpb).trans p0
 have p1' := (hbx.cell (p := ⟨pb,1,none⟩) hpb).trans p1
 clear hl hs
 cases b
 ·go_enter Tryz.func81,Tryz.ntmps81
  go_wp2_with (go_at_call 82;go_fit (hN _);rintro e w1 ⟨rfl,rfl⟩)
  go_ret
  exact ⟨Ag (by rw [E.out];rfl),hbx⟩
 ·go_enter Tryz.func81,Tryz.ntmps81
  go_wp2_with (first | (go_at_call 82;go_fit (hN _);rintro e w1 ⟨rfl,rfl⟩) | (go_at_call 83;go_fit HH;rintro e w2 ⟨rfl,hb2⟩))
  go_ret
  exact ⟨Ag (by rw [E.out];rfl),Ad hbx hb2⟩
def Lf (T :List TabD) (I :List IdxD) :Bool := !Ay (atI I (It T)) 0 I.length&&Gk (I.map IdxD.name)
def Zd (I :List IdxD) :Prop := ∀x∈I,x.name.size≤maxLen∧x.table.size≤maxLen∧x.col.size≤maxLen
set_option maxRecDepth 100000 in
set_option maxHeartbeats 2000000 in
theorem Ro (T :List TabD) (I :List IdxD) (tv iv :Value) (C :Nat) (w :World) (hl :IsL Cq (fun k=>k<C) w tv T) (hi :IsL Fg (fun k=>k<C) w iv I) (hC :C≤w.heap.size) (hf :Zd I) :
  Calls Tryz.prog 39 #[.agg #[tv,iv]] w fun e w'=>e= .returned (.bool (Lf T I)) ∧Below w.heap.size w w' :=by
 obtain ⟨to',tc,rfl⟩ :=hl.shape
 obtain ⟨ao,c,rfl⟩ :=hi.shape
 have hbx :=Ao w (.cells #[.slice to' T.length tc, .slice ao I.length c] 25)
 have hbl : (w.alloc (.cells #[.slice to' T.length tc, .slice ao I.length c] 25)).heap[w.heap.size]? =some (.cells #[.slice to' T.length tc, .slice ao I.length c] 25) :=Ab _ _
 have HC :=Mm I (fun k=>k<C) ao I.length c (.pointer (some ⟨w.heap.size,0,none⟩)) (atI I (It T))
  (fun _ W=>Below (w.heap.size+1) (w.alloc (.cells #[.slice to' T.length tc, .slice ao I.length c] 25)) W) (fun W=>Below (w.heap.size+1) (w.alloc (.cells #[.slice to' T.length tc, .slice ao I.length c] 25)) W)
  (w.alloc (.cells #[.slice to' T.length tc, .slice ao I.length c] 25)) (fun i W h=>h) (fun i W h=>hi.keep (Af ((hbx.mono hC).trans (h.mono (by omega)))))
  (by
   rintro i x cs W hx h1 rfl
   have hsz :=h1.size
   rw [World.size_alloc] at hsz
   have hbW :Below w.heap.size w W :=hbx.trans (h1.mono (by omega))
   have hB := (h1.block w.heap.size (by omega)).trans hbl
   refine (Qi T x (.slice to' T.length tc) (.slice ao I.length c) (Al _ _ _) w.heap.size C W (hl.keep (Af (hbW.mono hC))) (Nat.le_trans hC hbW.size) (hf x (List.mem_of_getElem? hx)).1 (Aa hB rfl) (Aa hB rfl) (by omega)).mono ?_
   rintro e W' ⟨rfl,hb⟩
   have hT :=h1.trans (hb.mono hsz)
   exact ⟨by rw [Eu hx],hT,fun _=>hT⟩)
  (Below.refl _ _)
 have HR :=fun w' (h :Below w.heap.size w w') =>Aee I (.slice ao I.length c) C w' (hi.keep (Af (h.mono hC))) (Nat.le_trans hC h.size)
 have E :Hid (Lf T I= (!Ay (atI I (It T)) 0 I.length&&Gk (I.map IdxD.name))) :=rfl
 generalize Lf T I=r at E
 generalize Ay (atI I (It T)) 0 I.length=q at E HC
 generalize Gk (I.map IdxD.name) =r2 at E HR
 clear hl hi hf
 cases q
 ·go_enter Tryz.func39,Tryz.ntmps39
  go_wp2_with (first | (go_at_call 84;go_fit HC;rintro e w1 ⟨rfl,hb1⟩;have hbw :Below w.heap.size w w1 :=hbx.trans (hb1.mono (by omega));have g1 := (hb1.cell (p := ⟨w.heap.size,1,none⟩) (show w.heap.size<w.heap.size+1 by omega)).trans (Aa hbl rfl)) | (go_at_call 85;go_fit (HR _ hbw);rintro e w2 ⟨rfl,hb2⟩))
  go_ret
  exact ⟨Ag (by rw [E.out];rfl),Ad hbw hb2⟩
 ·go_enter Tryz.func39,Tryz.ntmps39
  go_wp2_with (first | (go_at_call 84;go_fit HC;rintro e w1 ⟨rfl,hb1⟩;have hbw :Below w.heap.size w w1 :=hbx.trans (hb1.mono (by omega))))
  go_ret
  exact ⟨Ag (by rw [E.out];rfl),hbw⟩
structure CatD where
 tables :List TabD
 indexes :List IdxD
def C8 (c :CatD) :Bool :=decide (c.tables.length≤3) &&decide (c.indexes.length≤4) &&Jk c.tables&&Lf c.tables c.indexes
def Cz (F :Nat→Prop) (w :World) (c :CatD) (v :Value) :Prop := ∃tv iv,v= .agg #[tv,iv] ∧IsL Cq F w tv c.tables∧IsL Fg F w iv c.indexes
def Gv (c :CatD) :Prop :=Zc c.tables∧Zd c.indexes
theorem Cz.keep {F :Nat→Prop} {w w' :World} {c :CatD} {v :Value} (h :Cz F w c v) (hk :Keeps F w w') :Cz F w' c v :=by
 obtain ⟨tv,iv,h1,h2,h3⟩ :=h
 exact ⟨tv,iv,h1,h2.keep hk,h3.keep hk⟩
set_option maxRecDepth 100000 in
set_option maxHeartbeats 2000000 in
theorem Kx (ct :CatD) (v :Value) (C :Nat) (w :World) (h :Cz (fun k=>k<C) w ct v) (hC :C≤w.heap.size) (hf :Gv ct) :
  Calls Tryz.prog 13 #[v] w fun e w'=>e= .returned (.bool (C8 ct)) ∧Below w.heap.size w w' :=by
 obtain ⟨T,I⟩ :=ct
 obtain ⟨tv,iv,rfl,hl,hi⟩ :=h
 simp only at hl hi
 obtain ⟨to',tc,rfl⟩ :=hl.shape
 obtain ⟨ao,c,rfl⟩ :=hi.shape
 have hbx :=Ao w (.cells #[.slice to' T.length tc, .slice ao I.length c] 25)
 have HT :=S8 T (.slice to' T.length tc) C _ (hl.keep (Af (hbx.mono hC))) (Nat.le_trans hC hbx.size) hf.1
 have HI :=fun w' (h :Below w.heap.size w w') =>Ro T I (.slice to' T.length tc) (.slice ao I.length c) C w' (hl.keep (Af (h.mono hC))) (hi.keep (Af (h.mono hC))) (Nat.le_trans hC h.size) hf.2
 have E :Hid (C8 ⟨T,I⟩ = (decide (T.length≤3) &&decide (I.length≤4) &&Jk T&&Lf T I)) :=rfl
 generalize C8 ⟨T,I⟩ =r at E
 generalize Jk T=g at HT E
 generalize Lf T I=g2 at HI E
 have hlm := (Cj hl).2
 have hlm2 := (Cj hi).2
 unfold maxLen at hlm hlm2
 clear hl hi hf
 by_cases h3 :T.length≤3
 rotate_left
 ·have q1 : ¬ (T.length :Int) ≤3 :=by omega
  have E2 :Hid (r=false) :=by show _=_;rw [E.out];simp [h3]
  clear HT HI E
  go_enter Tryz.func13,Tryz.ntmps13
  go_wp2_with fail
  go_ret
  exact ⟨Ag (by rw [E2.out]),hbx⟩
 have q1 : (T.length :Int) ≤3 :=by omega
 by_cases h4 :I.length≤4
 rotate_left
 ·have q2 : ¬ (I.length :Int) ≤4 :=by omega
  have E2 :Hid (r=false) :=by show _=_;rw [E.out];simp [h4]
  clear HT HI E
  go_enter Tryz.func13,Tryz.ntmps13
  go_wp2_with fail
  go_ret
  exact ⟨Ag (by rw [E2.out]),hbx⟩
 have q2 : (I.length :Int) ≤4 :=by omega
 have E2 :Hid (r= (g&&g2)) :=by show _=_;rw [E.out];simp [h3,h4]
 clear E
 cases g
 ·go_enter Tryz.func13,Tryz.ntmps13
  go_wp2_with (go_at_call 38;go_fit HT;rintro e w1 ⟨rfl,hb1⟩)
  go_ret
  exact ⟨Ag (by rw [E2.out];rfl),Ad hbx hb1⟩
 ·go_enter Tryz.func13,Tryz.ntmps13
  go_wp2_with (first | (go_at_call 38;go_fit HT;rintro e w1 ⟨rfl,hb1⟩;obtain ⟨hcc,hff⟩ :=C9 hb1) | (go_at_call 39;go_fit (HI _ (Ad hbx hb1));rintro e w2 ⟨rfl,hb2⟩))
  go_ret
  exact ⟨Ag (by rw [E2.out];rfl),Ad (Ad hbx hb1) hb2⟩
end Go.Proofs.YthehiijgnepcfaaGreat

namespace Go.Proofs.YthehiijgnepcfaaGreat
open Go.RowKit
set_option maxRecDepth 100000 in
set_option maxHeartbeats 2000000 in
theorem S9 (l :List (E)) (F :Nat→Prop) (ao :Option Addr) (n c :Nat) (f0 :Value) (p :Nat→Bool) (St :Nat→World→Prop) (En :World→Prop) (w :World) (hEn : ∀i W,St i W→En W) (hIs : ∀i W,St i W→IsL Az F W (.slice ao n c) l)
  (hcall : ∀i x cs W,l[i]? =some x→St i W→Az.R F W x cs→Calls Tryz.prog 66 #[.agg cs.toArray,f0] W fun e W'=>e= .returned (.bool (p i)) ∧En W'∧ (p i=false→St (i+1) W')) (h0 :St 0 w) :
  Calls Tryz.prog 87 #[.slice ao n c, .func (.func 66) #[] #[f0]] w fun e W'=>e= .returned (.int .i64 (Ah p 0 l.length)) ∧En W' :=by
 obtain ⟨hn,hlm⟩ :=Cj (hIs 0 w h0)
 subst hn
 unfold maxLen at hlm
 go_enter Tryz.func87,Tryz.ntmps87
 go_wp2
 go_loopw [8] (fun i wr=> ∃k :Nat,k≤l.length∧i= .int .i64 k∧St k wr∧Hid (Ah p 0 l.length=Ah p k (l.length - k))) (fun i _=>l.length - (intOf i).toNat)
 case atStart=>exact ⟨0,Nat.zero_le _,rfl,h0,rfl⟩
 case round=>
  obtain ⟨k,hk,rfl,hSt,HP⟩ :=hrel
  by_cases hlt :k<l.length
  ·obtain ⟨x,hx⟩ : ∃x,l[k]? =some x := ⟨_,List.getElem?_eq_getElem hlt⟩
   obtain ⟨b,off,cs,rfl,_,hb,hR,hcell⟩ :=A4 (hIs k wr hSt) hx
   have HC :=hcall k x cs wr hx hSt hR
   obtain ⟨xo,xk,xn,xs2,xs,xm,xi,xa,xl,xc,rfl⟩ :=Ej hR
   have d0 :=hcell 0 _ rfl
   have d1 :=hcell 1 _ rfl
   have d2 :=hcell 2 _ rfl
   have d3 :=hcell 3 _ rfl
   have d4 :=hcell 4 _ rfl
   have d5 :=hcell 5 _ rfl
   have d6 :=hcell 6 _ rfl
   have d7 :=hcell 7 _ rfl
   simp only [Az,Nat.add_zero] at d0 d1 d2 d3 d4 d5 d6 d7
   have k0 : (0 :Int) ≤ (k :Int) :=by omega
   have k1 : (k :Int) < (l.length :Int) :=by omega
   have hst :Hid (Ah p k (l.length - k) =if p k then (k :Int) else Ah p (k+1) (l.length - (k+1))) :=C5 p k l.length hlt
   clear hcell hx
   generalize hq :p k=q at HC hst
   clear hq
   cases q
   ·go_wp2_with (go_at_call 66;go_must (go_fit HC;rintro e W' ⟨rfl,_,hS1⟩))
    go_roundw
    case rel=>exact ⟨k+1,by omega,by go_num,hS1 (by first | rfl | trivial),by rw [HP.out,hst.out];rfl⟩
    case measure=>simp [intOf];omega
   ·go_wp2_with (go_at_call 66;go_must (go_fit HC;rintro e W' ⟨rfl,hS1,_⟩))
    go_ret
    exact ⟨An (by rw [HP.out,hst.out];rfl),hS1⟩
  ·have HE :Hid (Ah p k (l.length - k) = -1) :=by show _=_;rw [show l.length - k=0 from by omega,Ah]
   go_wp2
   go_ret
   exact ⟨An (by rw [HP.out,HE.out]),hEn k _ hSt⟩
set_option maxHeartbeats 2000000 in
theorem O9 (l :List (E)) (F :Nat→Prop) (ao :Option Addr) (n c :Nat) (f0 :Value) (p :Nat→Bool) (St :Nat→World→Prop) (En :World→Prop) (w :World) (hEn : ∀i W,St i W→En W) (hIs : ∀i W,St i W→IsL Az F W (.slice ao n c) l)
  (hcall : ∀i x cs W,l[i]? =some x→St i W→Az.R F W x cs→Calls Tryz.prog 66 #[.agg cs.toArray,f0] W fun e W'=>e= .returned (.bool (p i)) ∧En W'∧ (p i=false→St (i+1) W')) (h0 :St 0 w) :
  Calls Tryz.prog 42 #[.slice ao n c, .func (.func 66) #[] #[f0]] w fun e W'=>e= .returned (.bool (Ay p 0 l.length)) ∧En W' :=by
 have HI :=S9 l F ao n c f0 p St En w hEn hIs hcall h0
 have HA :Hid (Ay p 0 l.length=decide (0≤Ah p 0 l.length)) :=Fn p l.length 0
 generalize Ay p 0 l.length=r at HA
 generalize Ah p 0 l.length=q at HI HA
 clear hIs hcall h0 hEn
 go_enter Tryz.func42,Tryz.ntmps42
 go_wp2_with (go_at_call 87;go_must (go_fit HI;rintro e W' ⟨rfl,hS1⟩))
 go_ret
 exact ⟨Ag (by rw [HA.out]),hS1⟩
set_option maxRecDepth 100000 in
set_option maxHeartbeats 2000000 in
theorem Qj (l :List (E)) (F :Nat→Prop) (ao :Option Addr) (n c :Nat) (p :Nat→Bool) (St :Nat→World→Prop) (En :World→Prop) (w :World) (hEn : ∀i W,St i W→En W) (hIs : ∀i W,St i W→IsL Az F W (.slice ao n c) l)
  (hcall : ∀i x cs W,l[i]? =some x→St i W→Az.R F W x cs→Calls Tryz.prog 40 #[.agg cs.toArray] W fun e W'=>e= .returned (.bool (p i)) ∧En W'∧ (p i=false→St (i+1) W')) (h0 :St 0 w) :
  Calls Tryz.prog 87 #[.slice ao n c, .func (.func 40) #[] #[]] w fun e W'=>e= .returned (.int .i64 (Ah p 0 l.length)) ∧En W' :=by
 obtain ⟨hn,hlm⟩ :=Cj (hIs 0 w h0)
 subst hn
 unfold maxLen at hlm
 go_enter Tryz.func87,Tryz.ntmps87
 go_wp2
 go_loopw [8] (fun i wr=> ∃k :Nat,k≤l.length∧i= .int .i64 k∧St k wr∧Hid (Ah p 0 l.length=Ah p k (l.length - k))) (fun i _=>l.length - (intOf i).toNat)
 case atStart=>exact ⟨0,Nat.zero_le _,rfl,h0,rfl⟩
 case round=>
  obtain ⟨k,hk,rfl,hSt,HP⟩ :=hrel
  by_cases hlt :k<l.length
  ·obtain ⟨x,hx⟩ : ∃x,l[k]? =some x := ⟨_,List.getElem?_eq_getElem hlt⟩
   obtain ⟨b,off,cs,rfl,_,hb,hR,hcell⟩ :=A4 (hIs k wr hSt) hx
   have HC :=hcall k x cs wr hx hSt hR
   obtain ⟨xo,xk,xn,xs2,xs,xm,xi,xa,xl,xc,rfl⟩ :=Ej hR
   have d0 :=hcell 0 _ rfl
   have d1 :=hcell 1 _ rfl
   have d2 :=hcell 2 _ rfl
   have d3 :=hcell 3 _ rfl
   have d4 :=hcell 4 _ rfl
   have d5 :=hcell 5 _ rfl
   have d6 :=hcell 6 _ rfl
   have d7 :=hcell 7 _ rfl
   simp only [Az,Nat.add_zero] at d0 d1 d2 d3 d4 d5 d6 d7
   have k0 : (0 :Int) ≤ (k :Int) :=by omega
   have k1 : (k :Int) < (l.length :Int) :=by omega
   have hst :Hid (Ah p k (l.length - k) =if p k then (k :Int) else Ah p (k+1) (l.length - (k+1))) :=C5 p k l.length hlt
   clear hcell hx
   generalize hq :p k=q at HC hst
   clear hq
   cases q
   ·go_wp2_with (go_at_call 40;go_must (go_fit HC;rintro e W' ⟨rfl,_,hS1⟩))
    go_roundw
    case rel=>exact ⟨k+1,by omega,by go_num,hS1 (by first | rfl | trivial),by rw [HP.out,hst.out];rfl⟩
    case measure=>simp [intOf];omega
   ·go_wp2_with (go_at_call 40;go_must (go_fit HC;rintro e W' ⟨rfl,hS1,_⟩))
    go_ret
    exact ⟨An (by rw [HP.out,hst.out];rfl),hS1⟩
  ·have HE :Hid (Ah p k (l.length - k) = -1) :=by show _=_;rw [show l.length - k=0 from by omega,Ah]
   go_wp2
   go_ret
   exact ⟨An (by rw [HP.out,HE.out]),hEn k _ hSt⟩
set_option maxHeartbeats 2000000 in
theorem Nh (l :List (E)) (F :Nat→Prop) (ao :Option Addr) (n c :Nat) (p :Nat→Bool) (St :Nat→World→Prop) (En :World→Prop) (w :World) (hEn : ∀i W,St i W→En W) (hIs : ∀i W,St i W→IsL Az F W (.slice ao n c) l)
  (hcall : ∀i x cs W,l[i]? =some x→St i W→Az.R F W x cs→Calls Tryz.prog 40 #[.agg cs.toArray] W fun e W'=>e= .returned (.bool (p i)) ∧En W'∧ (p i=false→St (i+1) W')) (h0 :St 0 w) :
  Calls Tryz.prog 42 #[.slice ao n c, .func (.func 40) #[] #[]] w fun e W'=>e= .returned (.bool (Ay p 0 l.length)) ∧En W' :=by
 have HI :=Qj l F ao n c p St En w hEn hIs hcall h0
 have HA :Hid (Ay p 0 l.length=decide (0≤Ah p 0 l.length)) :=Fn p l.length 0
 generalize Ay p 0 l.length=r at HA
 generalize Ah p 0 l.length=q at HI HA
 clear hIs hcall h0 hEn
 go_enter Tryz.func42,Tryz.ntmps42
 go_wp2_with (go_at_call 87;go_must (go_fit HI;rintro e W' ⟨rfl,hS1⟩))
 go_ret
 exact ⟨Ag (by rw [HA.out]),hS1⟩
set_option maxRecDepth 100000 in
set_option maxHeartbeats 2000000 in
theorem Acf (l :List (Int)) (F :Nat→Prop) (ao :Option Addr) (n c :Nat) (f0 :Value) (p :Nat→Bool) (St :Nat→World→Prop) (En :World→Prop) (w :World) (hEn : ∀i W,St i W→En W) (hIs : ∀i W,St i W→IsL Io F W (.slice ao n c) l)
  (hcall : ∀i x cs W,l[i]? =some x→St i W→Io.R F W x cs→Calls Tryz.prog 183 #[cs.headD (.bool false),f0] W fun e W'=>e= .returned (.bool (p i)) ∧En W'∧ (p i=false→St (i+1) W')) (h0 :St 0 w) :
  Calls Tryz.prog 190 #[.slice ao n c, .func (.func 183) #[] #[f0]] w fun e W'=>e= .returned (.int .i64 (Ah p 0 l.length)) ∧En W' :=by
 obtain ⟨hn,hlm⟩ :=Cj (hIs 0 w h0)
 subst hn
 unfold maxLen at hlm
 go_enter Tryz.func190,Tryz.ntmps190
 go_wp2
 go_loopw [8] (fun i wr=> ∃k :Nat,k≤l.length∧i= .int .i64 k∧St k wr∧Hid (Ah p 0 l.length=Ah p k (l.length - k))) (fun i _=>l.length - (intOf i).toNat)
 case atStart=>exact ⟨0,Nat.zero_le _,rfl,h0,rfl⟩
 case round=>
  obtain ⟨k,hk,rfl,hSt,HP⟩ :=hrel
  by_cases hlt :k<l.length
  ·obtain ⟨x,hx⟩ : ∃x,l[k]? =some x := ⟨_,List.getElem?_eq_getElem hlt⟩
   obtain ⟨b,off,cs,rfl,_,hb,hR,hcell⟩ :=A4 (hIs k wr hSt) hx
   have HC :=hcall k x cs wr hx hSt hR
   obtain rfl :=hR
   have d0 :=hcell 0 _ rfl
   simp only [Io,Nat.add_zero,Nat.mul_one] at d0
   have k0 : (0 :Int) ≤ (k :Int) :=by omega
   have k1 : (k :Int) < (l.length :Int) :=by omega
   have hst :Hid (Ah p k (l.length - k) =if p k then (k :Int) else Ah p (k+1) (l.length - (k+1))) :=C5 p k l.length hlt
   clear hcell hx
   generalize hq :p k=q at HC hst
   clear hq
   cases q
   ·go_wp2_with (go_at_call 183;go_must (go_fit HC;rintro e W' ⟨rfl,_,hS1⟩))
    go_roundw
    case rel=>exact ⟨k+1,by omega,by go_num,hS1 (by first | rfl | trivial),by rw [HP.out,hst.out];rfl⟩
    case measure=>simp [intOf];omega
   ·go_wp2_with (go_at_call 183;go_must (go_fit HC;rintro e W' ⟨rfl,hS1,_⟩))
    go_ret
    exact ⟨An (by rw [HP.out,hst.out];rfl),hS1⟩
  ·have HE :Hid (Ah p k (l.length - k) = -1) :=by show _=_;rw [show l.length - k=0 from by omega,Ah]
   go_wp2
   go_ret
   exact ⟨An (by rw [HP.out,HE.out]),hEn k _ hSt⟩
set_option maxHeartbeats 2000000 in
theorem Wh (l :List (Int)) (F :Nat→Prop) (ao :Option Addr) (n c :Nat) (f0 :Value) (p :Nat→Bool) (St :Nat→World→Prop) (En :World→Prop) (w :World) (hEn : ∀i W,St i W→En W) (hIs : ∀i W,St i W→IsL Io F W (.slice ao n c) l)
  (hcall : ∀i x cs W,l[i]? =some x→St i W→Io.R F W x cs→Calls Tryz.prog 183 #[cs.headD (.bool false),f0] W fun e W'=>e= .returned (.bool (p i)) ∧En W'∧ (p i=false→St (i+1) W')) (h0 :St 0 w) :
  Calls Tryz.prog 182 #[.slice ao n c, .func (.func 183) #[] #[f0]] w fun e W'=>e= .returned (.bool (Ay p 0 l.length)) ∧En W' :=by
 have HI :=Acf l F ao n c f0 p St En w hEn hIs hcall h0
 have HA :Hid (Ay p 0 l.length=decide (0≤Ah p 0 l.length)) :=Fn p l.length 0
 generalize Ay p 0 l.length=r at HA
 generalize Ah p 0 l.length=q at HI HA
 clear hIs hcall h0 hEn
 go_enter Tryz.func182,Tryz.ntmps182
 go_wp2_with (go_at_call 190;go_must (go_fit HI;rintro e W' ⟨rfl,hS1⟩))
 go_ret
 exact ⟨Ag (by rw [HA.out]),hS1⟩
end Go.Proofs.YthehiijgnepcfaaGreat

namespace Go.Proofs.YthehiijgnepcfaaGreat
open Go.RowKit Go.Maps
theorem Gw {α :Type} (l :List α) (q :α→Bool) :Ay (atI l q) 0 l.length=l.any q :=by
 rw [Fn]
 rcases J7 l q with ⟨h1,h2⟩ | ⟨k,x,h1,h2,h3,_⟩
 ·rw [h1]
  rw [List.find?_eq_none] at h2
  have :l.any q=false :=by rw [List.any_eq_false];intro x hx;simpa using h2 x hx
  rw [this];rfl
 ·rw [h1]
  have :l.any q=true :=List.any_eq_true.2 ⟨x,List.mem_of_getElem? h2,h3⟩
  rw [this];simp
def Dd (op :Int) :Int :=if op=1∨op=2 then 0 else if op=9∨op=10 then 1 else if 3≤op∧op≤8 then 2 else -1
def Jl (op :Int) (x :V) (s name :Wd) :Bool :=if op=1 then good x else if op=2 then nm name&& (decide (s.size=0) || nm s) else true
def geB :Nat→E→Bool
 | 0,_=>false
 | d+1, .mk op x s name _ l=>decide ((l.length :Int) =Dd op) &&Jl op x s name&&l.all (geB d)
mutual
def De :E→Prop
 | .mk _ x s name _ l=>x.s.size≤maxLen∧s.size≤maxLen∧name.size≤maxLen∧Ea l
def Ea :List E→Prop
 | [] =>True
 | e ::l=>De e∧Ea l
end
theorem Fb : ∀ {l :List E} {e :E},Ea l→e∈l→De e
 | [],_,_,h=>by cases h
 | x ::l,e,h,he=>by
  rw [Ea] at h
  rcases List.mem_cons.1 he with rfl | he
  ·exact h.1
  ·exact Fb h.2 he
set_option maxHeartbeats 400000 in
theorem Ta (op :Int) (w :World) :Calls Tryz.prog 64 #[.int .i64 op] w fun e w'=>e= .returned (.int .i64 (Dd op)) ∧w'=w :=by
 by_cases g1 :op=1<;>by_cases g2 :op=2<;>by_cases h9 :op=9<;>by_cases h10 :op=10<;>by_cases h3 :op=3<;>by_cases h4 :op=4<;>by_cases h5 :op=5<;>by_cases h6 :op=6<;>by_cases h7 :op=7<;>by_cases h8 :op=8
 all_goals (try omega)
 all_goals
  have E :Hid (Dd op=if op=1∨op=2 then 0 else if op=9∨op=10 then 1 else if 3≤op∧op≤8 then 2 else -1) :=rfl
  go_enter Tryz.func64,Tryz.ntmps64
  go_wp2
  go_ret
  refine ⟨An ?_,rfl⟩
  rw [E.out]
  first | (rw [if_pos (by omega)];done) | (rw [if_neg (by omega),if_pos (by omega)];done) | (rw [if_neg (by omega),if_neg (by omega),if_pos (by omega)];done) | (rw [if_neg (by omega),if_neg (by omega),if_neg (by omega)];done)
set_option maxRecDepth 100000 in
set_option maxHeartbeats 1000000 in
theorem Wi (op :Int) (x :V) (s name :Wd) (n :Int) (ao :Option Addr) (k c :Nat) (w :World) (hx :x.s.size≤maxLen) (hs :s.size≤maxLen) (hn :name.size≤maxLen) :
  Calls Tryz.prog 65 #[.agg (Ae op x s name n (.slice ao k c))] w fun e w'=>e= .returned (.bool (Jl op x s name)) ∧Below w.heap.size w w' :=by
 have hG :=fun w=>Hw x w hx
 have hN :=fun w=>Ib name w hn
 have hS :=fun w=>Ib s w hs
 have hbx :=Ao w (.cells (Ae op x s name n (.slice ao k c)) 34)
 have E :Hid (Jl op x s name=if op=1 then good x else if op=2 then nm name&& (decide (s.size=0) || nm s) else true) :=rfl
 generalize Jl op x s name=r at E
 generalize good x=g at hG E
 obtain ⟨xk,xn,xs⟩ :=x
 simp only [V.val] at hG
 by_cases h1 :op=1
 ·subst h1
  clear hN hS
  go_enter Tryz.func65,Tryz.ntmps65
  go_wp2_with (go_at_call 57;go_fit (hG _);rintro e w1 ⟨rfl,rfl⟩)
  go_ret
  exact ⟨Ag (by rw [E.out];rfl),hbx.alloc hbx.size _⟩
 by_cases h2 :op=2
 ·subst h2
  have E2 :Hid (r= (nm name&& (s.toList.isEmpty || nm s))) :=by show _=_;rw [E.out,Gr];rfl
  clear hG E
  generalize nm name=b at hN E2
  generalize nm s=b2 at hS E2
  cases b
  ·go_enter Tryz.func65,Tryz.ntmps65
   go_wp2_with (go_at_call 82;first | (go_fit (hN _);rintro e w1 ⟨rfl,rfl⟩))
   go_ret
   exact ⟨Ag (by rw [E2.out];rfl),hbx⟩
  ·cases he :s.toList.isEmpty
   ·go_enter Tryz.func65,Tryz.ntmps65
    go_wp2_with (first | (go_at_call_of 82 (Value.string name);go_fit (hN _);rintro e w1 ⟨rfl,rfl⟩) | (go_at_call_of 82 (Value.string s);go_fit (hS _);rintro e w2 ⟨rfl,rfl⟩))
    go_ret
    exact ⟨Ag (by rw [E2.out,he];simp),hbx⟩
   ·go_enter Tryz.func65,Tryz.ntmps65
    go_wp2_with (first | (go_at_call_of 82 (Value.string name);go_fit (hN _);rintro e w1 ⟨rfl,rfl⟩))
    go_ret
    exact ⟨Ag (by rw [E2.out,he];simp),hbx⟩
 have E2 :Hid (r=true) :=by show _=_;rw [E.out,if_neg h1,if_neg h2]
 clear hG hN hS E
 go_enter Tryz.func65,Tryz.ntmps65
 go_wp2_with fail
 go_ret
 exact ⟨Ag (by rw [E2.out]),hbx⟩
def Ky (d :Nat) :Prop := ∀ (e :E) (v :Value) (C :Nat) (w :World),IsE (fun k=>k<C) w e v→C≤w.heap.size→De e→
  Calls Tryz.prog 29 #[v, .int .i64 (d :Int)] w fun r w'=>r= .returned (.bool (geB d e)) ∧Below w.heap.size w w'
set_option maxRecDepth 100000 in
set_option maxHeartbeats 2000000 in
theorem U7 :Ky 0 :=by
 intro e v C w he hC hf
 obtain ⟨op,⟨xk,xn,xs⟩,s,name,n,ao,k,c,rfl⟩ :=he.shape
 have hb2 :=Bb w (.cells (Ae op ⟨xk,xn,xs⟩ s name n (.slice ao k c)) 34) (.cells #[.int .i64 0] 3)
 show Calls Tryz.prog 29 #[_, .int .i64 0] w _
 clear he hf
 go_enter Tryz.func29,Tryz.ntmps29
 go_wp2_with fail
 go_quiet (fail)
 go_wp2
 go_ret
 exact ⟨Ag (by cases e;rfl),below_drewN hb2 _⟩
set_option maxRecDepth 100000 in
set_option maxHeartbeats 2000000 in
theorem U8 (d :Nat) (hd :d+1≤40) (ih :Ky d) (e :E) (v :Value) (pb C :Nat) (w :World) (he :IsE (fun k=>k<C) w e v) (hC :C≤w.heap.size) (hf :De e) (hp :w.cell? ⟨pb,0,none⟩ =some (.int .i64 ((d :Int) +1))) (hpb :pb<w.heap.size) :
  Calls Tryz.prog 66 #[v, .pointer (some ⟨pb,0,none⟩)] w fun r w'=>r= .returned (.bool (!geB d e)) ∧Below w.heap.size w w' :=by
 obtain ⟨op,⟨xk,xn,xs⟩,s,name,n,ao,k,c,rfl⟩ :=he.shape
 have hbx :=Ao w (.cells (Ae op ⟨xk,xn,xs⟩ s name n (.slice ao k c)) 34)
 have HG :=ih e _ C _ (IsE.keep (Af (hbx.mono hC)) e _ he) (Nat.le_trans hC hbx.size) hf
 generalize geB d e=r at HG
 have hp1 := (hbx.cell (p := ⟨pb,0,none⟩) hpb).trans hp
 have q1 : (d :Int) +1≤40 :=by omega
 have q2 :min ((d :Int) +1) 40= (d :Int) +1 :=by omega
 have q3 :wrap64 ((d :Int) +1 - 1) = (d :Int) :=by unfold wrap64;omega
 clear he hf
 go_enter Tryz.func66,Tryz.ntmps66
 go_wp2_with (go_at_call 29;go_fit HG;rintro e w1 ⟨rfl,hb1⟩)
 go_ret
 exact ⟨rfl,Ad hbx hb1⟩
theorem Ze {W W' :World} {g :Nat} {a0 a1 a2 a3 a4 a5 a6 a7 a8 :Value} (h :W.cell? ⟨g,0,none⟩ =some a0∧W.cell? ⟨g,1,none⟩ =some a1∧W.cell? ⟨g,2,none⟩ =some a2∧W.cell? ⟨g,3,none⟩ =some a3∧W.cell? ⟨g,4,none⟩ =some a4∧W.cell? ⟨g,5,none⟩ =some a5∧W.cell? ⟨g,6,none⟩ =some a6∧W.cell? ⟨g,7,none⟩ =some a7∧W.cell? ⟨g+1,0,none⟩ =some a8) (hb :Below W.heap.size W W') (hg :g+2≤W.heap.size) :W'.cell? ⟨g,0,none⟩ =some a0∧W'.cell? ⟨g,1,none⟩ =some a1∧W'.cell? ⟨g,2,none⟩ =some a2∧W'.cell? ⟨g,3,none⟩ =some a3∧W'.cell? ⟨g,4,none⟩ =some a4∧W'.cell? ⟨g,5,none⟩ =some a5∧W'.cell? ⟨g,6,none⟩ =some a6∧W'.cell? ⟨g,7,none⟩ =some a7∧W'.cell? ⟨g+1,0,none⟩ =some a8 :=by
 have kc : ∀b o,b<W.heap.size→W'.cell? ⟨b,o,none⟩ =W.cell? ⟨b,o,none⟩ :=fun b o hh=>hb.cell (p := ⟨b,o,none⟩) hh
 obtain ⟨h0,h1,h2,h3,h4,h5,h6,h7,h8⟩ :=h
 exact ⟨(kc _ _ (by omega)).trans h0,(kc _ _ (by omega)).trans h1,(kc _ _ (by omega)).trans h2,(kc _ _ (by omega)).trans h3,(kc _ _ (by omega)).trans h4,(kc _ _ (by omega)).trans h5,(kc _ _ (by omega)).trans h6,(kc _ _ (by omega)).trans h7,(kc _ _ (by omega)).trans h8⟩
theorem Aef (w :World) (op xk xn :Int) (xs s name :Wd) (n :Int) (ao :Option Addr) (k c :Nat) (d :Int) (W :World) (hW : (w.alloc (.cells (Ae op ⟨xk,xn,xs⟩ s name n (.slice ao k c)) 34)).alloc (.cells #[.int .i64 d] 3) =W) :
  (W.cell? ⟨w.heap.size,0,none⟩ =some (.int .i64 op) ∧W.cell? ⟨w.heap.size,1,none⟩ =some (.int .i64 xk) ∧W.cell? ⟨w.heap.size,2,none⟩ =some (.int .i64 xn) ∧W.cell? ⟨w.heap.size,3,none⟩ =some (.string xs) ∧W.cell? ⟨w.heap.size,4,none⟩ =some (.string s) ∧W.cell? ⟨w.heap.size,5,none⟩ =some (.string name) ∧W.cell? ⟨w.heap.size,6,none⟩ =some (.int .i64 n) ∧W.cell? ⟨w.heap.size,7,none⟩ =some (.slice ao k c) ∧W.cell? ⟨w.heap.size+1,0,none⟩ =some (.int .i64 d)) ∧w.heap.size+2≤W.heap.size :=by
 have b0 :W.heap[w.heap.size]? =some (.cells (Ae op ⟨xk,xn,xs⟩ s name n (.slice ao k c)) 34) :=by rw [←hW];exact Ac (Ab _ _) _
 have b1 :W.heap[w.heap.size+1]? =some (.cells #[.int .i64 d] 3) :=by rw [←hW];exact Aq _ _ _
 exact ⟨⟨Aa b0 rfl,Aa b0 rfl,Aa b0 rfl,Aa b0 rfl,Aa b0 rfl,Aa b0 rfl,Aa b0 rfl,Aa b0 rfl,Aa b1 rfl⟩,lt_of_block b1⟩
set_option maxRecDepth 100000 in
set_option maxHeartbeats 4000000 in
theorem U9 (d :Nat) (hd :d+1≤40) (ih :Ky d) :Ky (d+1) :=by
 intro e v C w he hC hf
 cases e with
 | mk op x s name n l=>
  obtain ⟨sv,rfl,hes⟩ :=he.open
  obtain ⟨ao,c,rfl⟩ :=hes.shape
  obtain ⟨xk,xn,xs⟩ :=x
  rw [De] at hf
  obtain ⟨hfx,hfs,hfn,hfl⟩ :=hf
  simp only at hfx
  have hb2 :=Bb w (.cells (Ae op ⟨xk,xn,xs⟩ s name n (.slice ao l.length c)) 34) (.cells #[.int .i64 ((d :Int) +1)] 3)
  have HL :=fun w=>Wi op ⟨xk,xn,xs⟩ s name n ao l.length c w hfx hfs hfn
  have HA :=fun w=>Ta op w
  have E :Hid (geB (d+1) (.mk op ⟨xk,xn,xs⟩ s name n l) = (decide ((l.length :Int) =Dd op) &&Jl op ⟨xk,xn,xs⟩ s name&&l.all (geB d))) :=rfl
  generalize geB (d+1) (.mk op ⟨xk,xn,xs⟩ s name n l) =r at E
  generalize Jl op ⟨xk,xn,xs⟩ s name=lf at HL E
  generalize Dd op=ar at HA E
  rw [show ((d+1 :Nat) :Int) = (d :Int) +1 from by omega]
  have q0 : ¬ (d :Int) +1<1 :=by omega
  clear he
  by_cases hla : (l.length :Int) =ar
  rotate_left
  ·have q1 : ((l.length :Int) !=ar) =true :=by simpa using hla
   have E2 :Hid (r=false) :=by show _=_;rw [E.out];simp [hla]
   clear E hes HL
   go_enter Tryz.func29,Tryz.ntmps29
   go_wp2_with fail
   go_quiet (first | (go_at_call 64;refine Calls.quiet_of_same (HA _)))
   go_wp2
   go_ret
   exact ⟨Ag (by rw [E2.out]),below_drewN hb2 _⟩
  have E2 :Hid (r= (lf&&l.all (geB d))) :=by show _=_;rw [E.out];simp [hla]
  have q1 : ((l.length :Int) !=ar) =false :=by simpa using hla
  obtain ⟨S0,z0⟩ :=Aef w op xk xn xs s name n ao l.length c ((d :Int) +1) _ rfl
  clear E
  cases lf
  ·clear hes
   go_enter Tryz.func29,Tryz.ntmps29
   go_wp2_with fail
   generalize hW0 : (w.alloc (.cells (Ae op ⟨xk,xn,xs⟩ s name n (.slice ao l.length c)) 34)).alloc (.cells #[.int .i64 ((d :Int) +1)] 3) =W0 at hb2 S0 z0⊢
   go_region_held3 (fun w'=>w'.cell? ⟨w.heap.size,0,none⟩ =some (.int .i64 op) ∧w'.cell? ⟨w.heap.size,1,none⟩ =some (.int .i64 xk) ∧w'.cell? ⟨w.heap.size,2,none⟩ =some (.int .i64 xn) ∧w'.cell? ⟨w.heap.size,3,none⟩ =some (.string xs) ∧w'.cell? ⟨w.heap.size,4,none⟩ =some (.string s) ∧w'.cell? ⟨w.heap.size,5,none⟩ =some (.string name) ∧w'.cell? ⟨w.heap.size,6,none⟩ =some (.int .i64 n) ∧w'.cell? ⟨w.heap.size,7,none⟩ =some (.slice ao l.length c) ∧w'.cell? ⟨w.heap.size+1,0,none⟩ =some (.int .i64 ((d :Int) +1))) (first | assumption | exact S0)
    (first | (go_at_call 64;go_fit (HA _);rintro e w' ⟨rfl,rfl⟩) | (go_at_call 65;go_fit (HL _);rintro e w2 ⟨rfl,hb3⟩;have S1 :=Ze (W :=W0.drew) S0 hb3 z0))
   go_wp2
   go_ret
   exact ⟨Ag (by rw [E2.out];rfl),hb2.drew.trans (hb3.mono hb2.size)⟩
  ·have HC :=fun (W1 :World) (hbW :Below (w.heap.size+2) ((w.alloc (.cells (Ae op ⟨xk,xn,xs⟩ s name n (.slice ao l.length c)) 34)).alloc (.cells #[.int .i64 ((d :Int) +1)] 3)) W1) =>
    O9 l (fun k=>k<C) ao l.length c (.pointer (some ⟨w.heap.size+1,0,none⟩)) (atI l fun a=> !geB d a)
     (fun _ W=>Below (w.heap.size+2) ((w.alloc (.cells (Ae op ⟨xk,xn,xs⟩ s name n (.slice ao l.length c)) 34)).alloc (.cells #[.int .i64 ((d :Int) +1)] 3)) W) (fun W=>Below (w.heap.size+2) ((w.alloc (.cells (Ae op ⟨xk,xn,xs⟩ s name n (.slice ao l.length c)) 34)).alloc (.cells #[.int .i64 ((d :Int) +1)] 3)) W)
     W1 (fun i W h=>h) (fun i W h=> (Ajh.2 hes).keep (Af ((hb2.mono hC).trans (h.mono (by omega)))))
     (by
      rintro i x cs W hx h1 hR
      have hsz :=h1.size
      rw [show ((w.alloc (.cells (Ae op ⟨xk,xn,xs⟩ s name n (.slice ao l.length c)) 34)).alloc (.cells #[.int .i64 ((d :Int) +1)] 3)).heap.size=w.heap.size+2 from by simp] at hsz
      have hbW :Below w.heap.size w W :=hb2.trans (h1.mono (by omega))
      refine (U8 d hd ih x (.agg cs.toArray) (w.heap.size+1) C W hR.2 (Nat.le_trans hC hbW.size) (Fb hfl (List.mem_of_getElem? hx)) ((h1.cell (p := ⟨w.heap.size+1,0,none⟩) (show w.heap.size+1<w.heap.size+2 by omega)).trans (Aa (Aq _ _ _) rfl)) (by omega)).mono ?_
      rintro e W' ⟨rfl,hb⟩
      have hT :=h1.trans (hb.mono hsz)
      exact ⟨by rw [Eu hx],hT,fun _=>hT⟩)
     hbW
   have HAL :Hid (l.all (geB d) = !Ay (atI l fun a=> !geB d a) 0 l.length) :=by
    show _=_
    rw [Gw,List.all_eq_not_any_not]
   have hq2 : (w.alloc (.cells (Ae op ⟨xk,xn,xs⟩ s name n (.slice ao l.length c)) 34) |>.alloc (.cells #[.int .i64 ((d :Int) +1)] 3)).heap.size=w.heap.size+2 :=by simp
   generalize Ay (atI l fun a=> !geB d a) 0 l.length=q at HC HAL
   clear hes
   go_enter Tryz.func29,Tryz.ntmps29
   go_wp2_with fail
   generalize hW0 : (w.alloc (.cells (Ae op ⟨xk,xn,xs⟩ s name n (.slice ao l.length c)) 34)).alloc (.cells #[.int .i64 ((d :Int) +1)] 3) =W0 at hb2 S0 z0 HC hq2⊢
   go_region_held3 (fun w'=>w'.cell? ⟨w.heap.size,0,none⟩ =some (.int .i64 op) ∧w'.cell? ⟨w.heap.size,1,none⟩ =some (.int .i64 xk) ∧w'.cell? ⟨w.heap.size,2,none⟩ =some (.int .i64 xn) ∧w'.cell? ⟨w.heap.size,3,none⟩ =some (.string xs) ∧w'.cell? ⟨w.heap.size,4,none⟩ =some (.string s) ∧w'.cell? ⟨w.heap.size,5,none⟩ =some (.string name) ∧w'.cell? ⟨w.heap.size,6,none⟩ =some (.int .i64 n) ∧w'.cell? ⟨w.heap.size,7,none⟩ =some (.slice ao l.length c) ∧w'.cell? ⟨w.heap.size+1,0,none⟩ =some (.int .i64 ((d :Int) +1))) (first | assumption | exact S0)
    (first | (go_at_call 64;go_fit (HA _);rintro e w' ⟨rfl,rfl⟩) | (go_at_call 65;go_fit (HL _);rintro e w2 ⟨rfl,hb3⟩;have S1 :=Ze (W :=W0.drew) S0 hb3 z0))
   have hb4 :Below (w.heap.size+2) W0 w2 := (Below.refl _ _).drew.trans (hb3.mono (by rw [←hq2];exact Nat.le_refl _))
   obtain ⟨_,_,_,_,_,_,_,g7,_⟩ :=S1
   go_wp2_with (go_at_call 42;go_fit (HC _ hb4);rintro e w3 ⟨rfl,hb5⟩)
   go_ret
   exact ⟨Ag (by rw [E2.out,HAL.out];rfl),hb2.trans (hb5.mono (by omega))⟩
theorem Iu : ∀d :Nat,d≤40→Ky d
 | 0,_=>U7
 | d+1,h=>U9 d h (Iu d (by omega))
end Go.Proofs.YthehiijgnepcfaaGreat

