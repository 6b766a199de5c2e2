/-
  6 texts of this proof in one, in build order: QWhere5, Truth, XMath, QMath, QSound, QWhere6.
-/
import Derived.Deep.CutRange
import Derived.Test.YthehiijgnepcfaaGreatRows
import Derived.WalkKit
import Derived.Test.YthehiijgnepcfaaGreatJ01
import Derived.Test.YthehiijgnepcfaaGreatJ02
import Derived.Test.YthehiijgnepcfaaGreatJ05
import Derived.Test.YthehiijgnepcfaaGreatJ10
import Derived.Test.YthehiijgnepcfaaGreatJ12
import Derived.Test.YthehiijgnepcfaaGreatJ14
set_option linter.unusedSimpArgs false
set_option linter.unusedVariables false
namespace Go.Proofs.YthehiijgnepcfaaGreat
open Go.RowKit
def A3 (at' col :Int) :Nat→E→Bool→Sp
 | 0,_,_=>Ey noW
 | d+1, .mk op _ _ _ _ l,yes=>
  if op=9 then (match l with | a ::_=>A3 at' col d a (!yes) | [] =>Ey noW)
  else if op=7∨op=8 then (match l with | a ::b ::_=> (if yes=decide (op=7) then (A3 at' col d a yes).both (A3 at' col d b yes) else (A3 at' col d a yes).either (A3 at' col d b yes)) | _=>Ey noW)
  else if op=10 then (match l with | a ::_=>isS at' col a.opI a.nI yes | [] =>Ey noW)
  else if op=5∨op=6 then (match l with | a ::b ::_=>Ch at' col op a.opI a.vV a.nI b.opI b.vV b.nI yes | _=>Ey noW)
  else if op=1 then noS else Ey noW
def Ke (V wx :World) (pa pb :Nat) (l1 h1 l2 h2 :Wd) :Prop :=
 wx.heap[pa]? =some (.cells #[.string l1, .string h1] 81) ∧wx.heap[pb]? =some (.cells #[.string l2, .string h2] 81) ∧Below V.heap.size V wx
theorem Iv {w :World} {g :Nat} {p q a b :Value} {t :TypeId} (h :w.heap[g]? =some (.cells #[p,q] t)) : ((w.setCell ⟨g,0,none⟩ a).setCell ⟨g,1,none⟩ b).heap[g]? =some (.cells #[a,b] t) :=by
 rw [upd (upd h 0 a) 1 b];rfl
theorem Ct {w :World} {g b :Nat} {x :Obj} {a c :Value} (h :w.heap[b]? =some x) (hn :b≠g) : ((w.setCell ⟨g,0,none⟩ a).setCell ⟨g,1,none⟩ c).heap[b]? =some x :=by
 simp only [World.setCell,Array.getElem?_modify]
 rw [if_neg (fun e=>hn e.symm),if_neg (fun e=>hn e.symm)];exact h
theorem Ub (w :World) (p :Addr) (v :Value) : (w.setCell p v).heap.size=w.heap.size :=by simp [World.setCell]
theorem Ach (w :World) (g :Nat) (a c :Value) : ((w.setCell ⟨g,0,none⟩ a).setCell ⟨g,1,none⟩ c).heap.size=w.heap.size :=by rw [Ub,Ub]
theorem Wl {V w2 :World} {l1 h1 l2 h2 :Wd} (hz :Below V.heap.size V w2) :Ke V ((w2.alloc (.cells #[.string l1, .string h1] 81)).alloc (.cells #[.string l2, .string h2] 81)) w2.heap.size (w2.heap.size+1) l1 h1 l2 h2 :=
 ⟨Ac (Ab _ _) _,A0 (Be _ _) _,At (At hz _) _⟩
theorem Zh {V w2 :World} {l1 h1 l2 h2 :Wd} (hz :Below V.heap.size V w2) :Ke V ((w2.alloc (.cells #[.string l2, .string h2] 81)).alloc (.cells #[.string l1, .string h1] 81)) (w2.heap.size+1) w2.heap.size l1 h1 l2 h2 :=by
 obtain ⟨a,b,e⟩ :=Wl (l1 :=l2) (h1 :=h2) (l2 :=l1) (h2 :=h1) hz
 exact ⟨b,a,e⟩
theorem G7 {V w2 :World} {l1 h1 l2 h2 :Wd} {g :Nat} (hz :Below V.heap.size V w2) (p :w2.heap[g]? =some (.cells #[.string noW, .string noW] 81)) (hg :V.heap.size≤g) :
  Ke V (((w2.setCell ⟨g,0,none⟩ (.string l1)).setCell ⟨g,1,none⟩ (.string h1)).alloc (.cells #[.string l2, .string h2] 81)) g w2.heap.size l1 h1 l2 h2 :=
 ⟨Ac (Iv p) _,A0 (Ach _ _ _ _) _,At (Cs (Cs hz hg _) hg _) _⟩
theorem Gx {V w2 :World} {l1 h1 l2 h2 :Wd} {g :Nat} (hz :Below V.heap.size V w2) (p :w2.heap[g]? =some (.cells #[.string noW, .string noW] 81)) (hg :V.heap.size≤g) :
  Ke V (((w2.setCell ⟨g,0,none⟩ (.string l2)).setCell ⟨g,1,none⟩ (.string h2)).alloc (.cells #[.string l1, .string h1] 81)) w2.heap.size g l1 h1 l2 h2 :=by
 obtain ⟨a,b,e⟩ :=G7 (l1 :=l2) (h1 :=h2) (l2 :=l1) (h2 :=h1) hz p hg
 exact ⟨b,a,e⟩
theorem F7 {V w2 :World} {l1 h1 l2 h2 :Wd} {g :Nat} (hz :Below V.heap.size V w2) (p :w2.heap[g]? =some (.cells #[.string noW, .string noW] 81)) (hg :V.heap.size≤g) :
  Ke V (((w2.alloc (.cells #[.string l2, .string h2] 81)).setCell ⟨g,0,none⟩ (.string l1)).setCell ⟨g,1,none⟩ (.string h1)) g w2.heap.size l1 h1 l2 h2 :=
 ⟨Iv (Ac p _),Ct (Ab _ _) (by have :=lt_of_block p;omega),Cs (Cs (At hz _) hg _) hg _⟩
theorem Fu {V w2 :World} {l1 h1 l2 h2 :Wd} {g :Nat} (hz :Below V.heap.size V w2) (p :w2.heap[g]? =some (.cells #[.string noW, .string noW] 81)) (hg :V.heap.size≤g) :
  Ke V (((w2.alloc (.cells #[.string l1, .string h1] 81)).setCell ⟨g,0,none⟩ (.string l2)).setCell ⟨g,1,none⟩ (.string h2)) w2.heap.size g l1 h1 l2 h2 :=by
 obtain ⟨a,b,e⟩ :=F7 (l1 :=l2) (h1 :=h2) (l2 :=l1) (h2 :=h1) hz p hg
 exact ⟨b,a,e⟩
theorem Bz {V w2 :World} {l1 h1 l2 h2 :Wd} {g g' :Nat} (hz :Below V.heap.size V w2) (p :w2.heap[g]? =some (.cells #[.string noW, .string noW] 81)) (p' :w2.heap[g']? =some (.cells #[.string noW, .string noW] 81)) (hg :V.heap.size≤g) (hg' :V.heap.size≤g') (hne :g≠g') :
  Ke V ((((w2.setCell ⟨g,0,none⟩ (.string l1)).setCell ⟨g,1,none⟩ (.string h1)).setCell ⟨g',0,none⟩ (.string l2)).setCell ⟨g',1,none⟩ (.string h2)) g g' l1 h1 l2 h2 :=
 ⟨Ct (Iv p) hne,Iv (Ct p' (Ne.symm hne)),Cs (Cs (Cs (Cs hz hg _) hg _) hg' _) hg' _⟩
end Go.Proofs.YthehiijgnepcfaaGreat

namespace Go.Proofs.YthehiijgnepcfaaGreat
open Go.RowKit
def Mn (a b :Int) :Int :=if a=0∨b=0 then 0 else if a=1∧b=1 then 1 else 2
def tOr (a b :Int) :Int :=if a=1∨b=1 then 1 else if a=0∧b=0 then 0 else 2
def Mo (a :Int) :Int :=if a=0 then 1 else if a=1 then 0 else 2
set_option maxHeartbeats 400000 in
theorem Agj (a b :Int) (w :World) :Calls Tryz.prog 160 #[.int .i64 a, .int .i64 b] w fun e w'=>e= .returned (.int .i64 (Mn a b)) ∧w'=w :=by
 by_cases ha0 :a=0<;>by_cases hb0 :b=0<;>by_cases ha1 :a=1<;>by_cases hb1 :b=1
 all_goals
  go_enter Tryz.func160,Tryz.ntmps160
  go_wp2
  all_goals
   go_ret
   exact ⟨An (by simp_all [Mn]),rfl⟩
set_option maxHeartbeats 400000 in
theorem Ah1 (a b :Int) (w :World) :Calls Tryz.prog 161 #[.int .i64 a, .int .i64 b] w fun e w'=>e= .returned (.int .i64 (tOr a b)) ∧w'=w :=by
 by_cases ha0 :a=0<;>by_cases hb0 :b=0<;>by_cases ha1 :a=1<;>by_cases hb1 :b=1
 all_goals
  go_enter Tryz.func161,Tryz.ntmps161
  go_wp2
  all_goals
   go_ret
   exact ⟨An (by simp_all [tOr]),rfl⟩
set_option maxHeartbeats 400000 in
theorem Agk (a :Int) (w :World) :Calls Tryz.prog 158 #[.int .i64 a] w fun e w'=>e= .returned (.int .i64 (Mo a)) ∧w'=w :=by
 by_cases ha0 :a=0<;>by_cases ha1 :a=1
 all_goals
  go_enter Tryz.func158,Tryz.ntmps158
  go_wp2
  all_goals
   go_ret
   exact ⟨An (by simp_all [Mo]),rfl⟩
end Go.Proofs.YthehiijgnepcfaaGreat

namespace Go.Proofs.YthehiijgnepcfaaGreat
def Gy (op :Int) :Nat :=if op=9∨op=10 then 1 else if 3≤op∧op≤8 then 2 else 0
theorem Agl (op :Int) :Gy op≤2 :=by
 unfold Gy
 split
 ·decide
 ·split<;>decide
def B6 (op :Int) (l :List E) :List E :=if l.length=Gy op then l else []
def E.kids :E→List E
 | .mk op _ _ _ _ l=>B6 op l
theorem Zi (e :E) :e.kids.length≤2 :=by
 cases e with
 | mk op v s name n l=>
  simp only [E.kids,B6]
  split
  ·rename_i h;rw [h];exact Agl op
  ·decide
def ofV (v :V) :Int :=if v.k=3 then v.n %2 else 2
def Dg (n :Int) :V :=if n=0∨n=1 then ⟨3,n,noW⟩ else zero
def whV (b :Bool) :V := ⟨3,if b then 1 else 0,noW⟩
def Jy (n :Int) :V :=if good ⟨1,n,noW⟩ then ⟨1,n,noW⟩ else zero
def Gz (row :List V) (n :Int) :V :=if 0≤n then (row[n.toNat]?).getD zero else zero
def Fk (op :Int) (x :V) (n :Int) (row :List V) :V :=if op=1 then x else if op=2 then Gz row n else zero
def Hz (op :Int) (a :V) :V :=if op=9 then Dg (Mo (ofV a)) else if op=10 then whV (decide (a.k=0)) else zero
def Eg (v :V) :Bool := !decide (v.k=0) &&good v
def knV (op :Int) (a b :V) :V :=
 if op=5 then whV (decide (Dy a b=0)) else if op=6 then whV (decide (Dy a b<0)) else if a.k=1 then (if op=3 then Jy (a.n+b.n) else if op=4 then Jy (a.n - b.n) else zero) else zero
def Eo (op :Int) (a b :V) :V :=
 if op=7 then Dg (Mn (ofV a) (ofV b)) else if op=8 then Dg (tOr (ofV a) (ofV b)) else if Eg a=true∧Eg b=true∧a.k=b.k then knV op a b else zero
def Qk (op :Int) (x :V) (n :Int) (cs row :List V) :V :=
 match cs with
 | [a] =>Hz op a
 | [a,b] =>Eo op a b
 | _=>Fk op x n row
mutual
def ev (row :List V) :E→V
 | .mk op x _ _ n l=>Qk op x n (if l.length=Gy op then evs row l else []) row
def evs (row :List V) :List E→List V
 | [] => []
 | e ::l=>ev row e ::evs row l
end
theorem Zj (row :List V) : ∀l :List E,evs row l=l.map (ev row)
 | [] =>by rw [evs];rfl
 | e ::l=>by rw [evs,Zj row l];rfl
theorem Id (row :List V) (op :Int) (x :V) (s name :Wd) (n :Int) (l :List E) :ev row (.mk op x s name n l) =Qk op x n ((B6 op l).map (ev row)) row :=by
 rw [ev,B6]
 split
 ·rw [Zj]
 ·rfl
mutual
def E.nodes :E→Nat
 | .mk _ _ _ _ _ l=>Ce l+1
def Ce :List E→Nat
 | [] =>0
 | e ::l=>e.nodes+Ce l
end
theorem Jz : ∀a b :List E,Ce (a++b) =Ce a+Ce b
 | [],b=>by simp [Ce]
 | e ::a,b=>by simp [Ce,Jz a b];omega
theorem Aci (e :E) :0<e.nodes :=by cases e;simp [E.nodes]
theorem Rq : ∀l :List E,l.length≤Ce l
 | [] =>by simp [Ce]
 | e ::l=>by have :=Rq l;have :=Aci e;simp [Ce];omega
theorem Rr (e :E) :Ce e.kids+1≤e.nodes :=by
 cases e with
 | mk op v s name n l=>
  simp only [E.kids,B6,E.nodes]
  split
  ·exact Nat.le_refl _
  ·simp [Ce]
structure Queue (e :E) (L :List E) (i :Nat) :Prop where
 eq :L=e :: (L.take i).flatMap E.kids
 le :i≤L.length
 few :i+Ce (L.drop i) ≤e.nodes
 ahead : ∀j,j<i→j<1+ ((L.take j).flatMap E.kids).length
 all : ∀P :E→Prop,P e→ (∀y,P y→ ∀z∈y.kids,P z) → ∀x∈L,P x
theorem Yf (e :E) :Queue e [e] 0 := ⟨rfl,by simp,by simp [Ce],fun j h=>absurd h (by omega),fun P h _ x hx=>by simp at hx;subst hx;exact h⟩
theorem Queue.len {e :E} {L :List E} {i :Nat} (h :Queue e L i) :L.length≤e.nodes :=by
 have :=Rq (L.drop i)
 have :=h.few
 rw [List.length_drop] at*
 omega
theorem Queue.step {e :E} {L :List E} {i :Nat} (h :Queue e L i) {x :E} (hx :L[i]? =some x) :Queue e (L++x.kids) (i+1) :=by
 have hi :i<L.length :=by rw [List.getElem?_eq_some_iff] at hx;exact hx.1
 have ht : (L++x.kids).take (i+1) =L.take i++ [x] :=by
  rw [List.take_append_of_le_length (by omega),List.take_add_one,hx];rfl
 have hd :L.drop i=x ::L.drop (i+1) :=by
  rw [List.drop_eq_getElem_cons hi]
  rw [List.getElem?_eq_getElem hi] at hx
  simp at hx
  rw [hx]
 refine ⟨?_,by rw [List.length_append];omega, ?_,fun j hj=> ?_,fun P h1 h2 y hy=> ?_⟩
 ·rw [ht,List.flatMap_append]
  conv=>lhs;rw [h.eq]
  simp
 ·have h1 :=h.few
  have h2 :=Rr x
  rw [hd] at h1
  rw [List.drop_append_of_le_length (by omega),Jz]
  simp only [Ce] at h1
  omega
 ·rw [List.take_append_of_le_length (by omega)]
  rcases Nat.lt_or_eq_of_le (Nat.lt_succ_iff.mp hj) with h1 | h1
  ·exact h.ahead j h1
  ·subst h1
   have :L.length=1+ ((L.take j).flatMap E.kids).length :=by
    conv=>lhs;rw [h.eq]
    simp;omega
   omega
 ·rcases List.mem_append.1 hy with hy | hy
  ·exact h.all P h1 h2 y hy
  ·exact h2 x (h.all P h1 h2 x (List.mem_of_getElem? hx)) y hy
def beg (L :List E) (i :Nat) :Nat :=1+ ((L.take i).flatMap E.kids).length
theorem Aeh {L :List E} {i :Nat} {x :E} (hx :L[i]? =some x) :beg L (i+1) =beg L i+x.kids.length :=by
 unfold beg
 rw [List.take_add_one,hx,List.flatMap_append]
 simp;omega
theorem Queue.whole {e :E} {L :List E} (h :Queue e L L.length) :beg L L.length=L.length :=by
 unfold beg
 conv=>rhs;rw [h.eq]
 simp;omega
theorem Queue.own {e :E} {L :List E} (h :Queue e L L.length) {i :Nat} {x :E} (hx :L[i]? =some x) : (L.drop (beg L i)).take x.kids.length=x.kids :=by
 have hi :i<L.length :=by rw [List.getElem?_eq_some_iff] at hx;exact hx.1
 have hL :=h.eq
 rw [List.take_length] at hL
 have hd :L.drop i=x ::L.drop (i+1) :=by
  rw [List.drop_eq_getElem_cons hi]
  rw [List.getElem?_eq_getElem hi] at hx
  simp at hx
  rw [hx]
 have hsplit :L.flatMap E.kids= (L.take i).flatMap E.kids++ (x.kids++ (L.drop (i+1)).flatMap E.kids) :=by
  conv=>lhs;rw [←List.take_append_drop i L,hd]
  simp
 conv=>lhs;rw [hL]
 rw [show beg (e ::L.flatMap E.kids) i= ((L.take i).flatMap E.kids).length+1 from by
  unfold beg
  rw [←hL];omega]
 rw [List.drop_succ_cons,hsplit,List.drop_left,List.take_left]
theorem Queue.behind {e :E} {L :List E} (h :Queue e L L.length) {i :Nat} (hi :i<L.length) :i<beg L i :=h.ahead i hi
theorem Queue.at {e :E} {L :List E} (h :Queue e L L.length) {i :Nat} {x :E} (hx :L[i]? =some x) {j :Nat} {y :E} (hy :x.kids[j]? =some y) :L[beg L i+j]? =some y :=by
 rw [←h.own hx,List.getElem?_take] at hy
 split at hy
 ·rwa [List.getElem?_drop] at hy
 ·cases hy
theorem Queue.beg_le {e :E} {L :List E} (h :Queue e L L.length) (i :Nat) :beg L i≤L.length :=by
 rw [←h.whole]
 unfold beg
 rw [List.take_length]
 conv=>rhs;rw [←List.take_append_drop i L]
 rw [List.flatMap_append,List.length_append]
 omega
theorem Queue.first {e :E} {L :List E} {i :Nat} (h :Queue e L i) :L[0]? =some e :=by rw [h.eq];rfl
end Go.Proofs.YthehiijgnepcfaaGreat

namespace Go.Proofs.YthehiijgnepcfaaGreat
open Go.RowKit
def H6 (s :Sp) (k :List UInt8) :Prop :=Op.bytesLess k s.lo.data.toList=false∧Op.bytesLess k s.hi.data.toList=true
def okT (T :List UInt8) :Prop :=Op.bytesLess T [255] =true
theorem Jp (l :List UInt8) :Op.bytesLess l [] =false :=by cases l<;>rfl
theorem Kn {v :V} (h :good v=true) : (kb v).data.toList=keyOf v :=by unfold kb;rw [Bt,Kl h]
theorem G0 (a b :Wd) : (a++b).data.toList=a.data.toList++b.data.toList :=by simp [ByteArray.data_append]
theorem Tb :ffW.data.toList= [255] :=rfl
theorem Aei (a :Wd) : (a.extract 0 1).data.toList=a.data.toList.take 1 :=by
 simp [ByteArray.data_extract]
theorem Pr {v :V} (hg :good v=true) (T :List UInt8) (hT :okT T) : ∃t,keyOf v=UInt8.ofNat (v.k.toNat+1) ::t∧Op.bytesLess (t++T) [255] =true :=by
 rcases Ed hg with h | h | h
 ·refine ⟨[],by rw [Cm h,h];rfl,by rw [List.nil_append];exact hT⟩
 ·refine ⟨be4 (v.n+1073741824).toNat,by rw [Dm h,h];rfl, ?_⟩
  have hn :=Md h hg
  have h1 :UInt8.ofNat ((v.n+1073741824).toNat/16777216) <255 :=Aih (b :=255) (by omega) (by decide) (by omega)
  simp only [be4,List.cons_append]
  exact Dv h1 _ _
 ·refine ⟨v.s.data.toList++ [0],by rw [Eh h,h];rfl, ?_⟩
  cases hs :v.s.data.toList with
  | nil=>exact Dv (by decide) _ _
  | cons c l=>
   have hc :c<255 :=by
    have hgt :F3 v.s.data.toList=true :=by
     unfold good at hg
     rw [if_neg (by omega),if_neg (by omega),if_pos h] at hg
     simp only [Bool.and_eq_true] at hg
     exact hg.2
    rw [hs] at hgt
    simp only [F3,List.all_cons,Bool.and_eq_true,Jh,decide_eq_true_eq] at hgt
    have :=hgt.1.1.2
    rw [UInt8.lt_iff_toNat_lt]
    show c.toNat<255
    omega
   exact Dv hc _ _
theorem Rs {v :V} (hg :good v=true) {T :List UInt8} (hT :okT T) :H6 (Ey noW) (keyOf v++T) :=by
 obtain ⟨t,ht,_⟩ :=Pr hg T hT
 refine ⟨Jp _, ?_⟩
 show Op.bytesLess _ ((noW++ffW :Wd).data.toList) =true
 rw [G0,Tb,ht]
 rcases Ed hg with h | h | h<;>rw [h] <;>exact Dv (by decide) _ _
theorem Zk {s o :Sp} {k :List UInt8} (h :H6 s k) (g :H6 o k) :H6 (s.both o) k :=by
 refine ⟨?_, ?_⟩
 ·show Op.bytesLess k (Hc s.lo o.lo).data.toList=false
  unfold Hc;split
  ·exact g.1
  ·exact h.1
 ·show Op.bytesLess k (Hd s.hi o.hi).data.toList=true
  unfold Hd;split
  ·exact g.2
  ·exact h.2
theorem Agm {a b c :List UInt8} (h :Op.bytesLess b a=false) (k :Op.bytesLess b c=true) :Op.bytesLess a c=true :=by
 have :=Vi (a :=str a) (b :=str b) (c :=str c) (by rw [Bm,Bt,Bt];exact h) (by rw [Bm,Bt,Bt];exact k)
 rwa [Bm,Bt,Bt] at this
theorem Ps {s :Sp} {k :List UInt8} (h :H6 s k) :s.empty=false :=by
 unfold Sp.empty
 rw [Bm,Agm h.1 h.2];rfl
theorem Uc {s o :Sp} {k :List UInt8} (h :H6 s k∨H6 o k) :H6 (s.either o) k :=by
 unfold Sp.either
 split
 ·rename_i he
  rcases h with h | h
  ·rw [Ps h] at he;cases he
  ·exact h
 ·split
  ·rename_i he
   rcases h with h | h
   ·exact h
   ·rw [Ps h] at he;cases he
  ·have mono_lo : ∀a b :Wd,(Op.bytesLess k a.data.toList=false∨Op.bytesLess k b.data.toList=false) →Op.bytesLess k (Hd a b).data.toList=false :=by
    intro a b hh
    unfold Hd
    split
    ·rename_i hl
     rcases hh with hh | hh
     ·cases hq :Op.bytesLess k b.data.toList with
      | false=>rfl
      | true=>
       rw [Bm] at hl
       have h1 :klt (str k) a=true :=Bu (b :=b) (by rw [Bm,Bt];exact hq) (by rw [Bm];exact hl)
       rw [Bm,Bt,hh] at h1;cases h1
     ·exact hh
    ·rename_i hl
     rcases hh with hh | hh
     ·exact hh
     ·cases hq :Op.bytesLess k a.data.toList with
      | false=>rfl
      | true=>
       have hl' :klt b a=false :=by simpa using hl
       have h1 :klt (str k) b=true :=Ii (b :=a) (by rw [Bm,Bt];exact hq) hl'
       rw [Bm,Bt,hh] at h1;cases h1
   have mono_hi : ∀a b :Wd,(Op.bytesLess k a.data.toList=true∨Op.bytesLess k b.data.toList=true) →Op.bytesLess k (Hc a b).data.toList=true :=by
    intro a b hh
    unfold Hc
    split
    ·rename_i hl
     rcases hh with hh | hh
     ·have h1 :klt (str k) b=true :=Bu (b :=a) (by rw [Bm,Bt];exact hh) hl
      rw [Bm,Bt] at h1;exact h1
     ·exact hh
    ·rename_i hl
     rcases hh with hh | hh
     ·exact hh
     ·have h1 :klt (str k) a=true :=Ii (b :=b) (by rw [Bm,Bt];exact hh) (by simpa using hl)
      rw [Bm,Bt] at h1;exact h1
   exact ⟨mono_lo _ _ (h.imp (·.1) (·.1)),mono_hi _ _ (h.imp (·.2) (·.2))⟩
theorem Agn {u :V} (hu :good u=true) : (skS u).lo.data.toList= [UInt8.ofNat (u.k.toNat+1)] ∧ (skS u).hi.data.toList= [UInt8.ofNat (u.k.toNat+1),255] :=by
 obtain ⟨t,ht⟩ :=G4 hu
 have h1 : ((kb u).extract 0 1).data.toList= [UInt8.ofNat (u.k.toNat+1)] :=by rw [Aei,Kn hu,ht];rfl
 refine ⟨h1, ?_⟩
 show (((kb u).extract 0 1) ++ffW).data.toList=_
 rw [G0,h1,Tb];rfl
theorem Tc {v u :V} (hv :good v=true) (hu :good u=true) (hk :v.k=u.k) {T :List UInt8} (hT :okT T) :Op.bytesLess (keyOf v++T) (skS u).lo.data.toList=false∧Op.bytesLess (keyOf v++T) (skS u).hi.data.toList=true :=by
 obtain ⟨t,ht,ht2⟩ :=Pr hv T hT
 obtain ⟨e1,e2⟩ :=Agn hu
 rw [e1,e2,ht,hk]
 refine ⟨?_, ?_⟩
 ·have :=By [UInt8.ofNat (u.k.toNat+1)] (t++T) []
  rw [Jp] at this
  simpa using this
 ·have :=By [UInt8.ofNat (u.k.toNat+1)] (t++T) [255]
  rw [ht2] at this
  simpa using this
theorem Jq {u :V} (hu :good u=true) : (kb u++ffW).data.toList=keyOf u++ [255] :=by rw [G0,Kn hu,Tb]
theorem Zl {v u :V} (hv :good v=true) (hu :good u=true) (hk :v.k=u.k) {T :List UInt8} (hT :okT T) (yes :Bool) (h :yes=true→Dy v u=0) :H6 (Kd u yes) (keyOf v++T) :=by
 cases yes
 ·exact Tc hv hu hk hT
 ·have h0 :=h rfl
  rcases E6 v u hv hu with ⟨e,_⟩ | ⟨_,e⟩ | ⟨e,_⟩
  ·omega
  ·refine ⟨?_, ?_⟩
   ·show Op.bytesLess _ (kb u).data.toList=false
    rw [Kn hu,e]
    have :=By (keyOf u) T []
    rw [Jp,List.append_nil] at this;exact this
   ·show Op.bytesLess _ (kb u++ffW).data.toList=true
    rw [Jq hu,e,By];exact hT
  ·omega
theorem Aej {v u :V} (hv :good v=true) (hu :good u=true) (hk :v.k=u.k) {T :List UInt8} (hT :okT T) (yes :Bool) (h :if yes then Dy v u<0 else ¬Dy v u<0) :H6 (Kv u yes) (keyOf v++T) :=by
 obtain ⟨k1,k2⟩ :=Tc hv hu hk hT
 cases yes
 ·simp only [Bool.false_eq_true,if_false] at h
  refine ⟨?_,k2⟩
  show Op.bytesLess _ (kb u).data.toList=false
  rw [Kn hu]
  rcases E6 v u hv hu with ⟨e,_⟩ | ⟨_,e⟩ | ⟨_,e⟩
  ·omega
  ·rw [e]
   have :=By (keyOf u) T []
   rw [Jp,List.append_nil] at this;exact this
  ·have :=e T []
   rw [List.append_nil] at this
   exact F4 _ _ this
 ·simp only [if_true] at h
  refine ⟨k1, ?_⟩
  show Op.bytesLess _ (kb u).data.toList=true
  rw [Kn hu]
  rcases E6 v u hv hu with ⟨_,e⟩ | ⟨e,_⟩ | ⟨e,_⟩
  ·have :=e T [];rwa [List.append_nil] at this
  ·omega
  ·omega
theorem Acj {v u :V} (hv :good v=true) (hu :good u=true) (hk :v.k=u.k) {T :List UInt8} (hT :okT T) (yes :Bool) (h :if yes then Dy u v<0 else ¬Dy u v<0) :H6 (I4 u yes) (keyOf v++T) :=by
 obtain ⟨k1,k2⟩ :=Tc hv hu hk hT
 cases yes
 ·simp only [Bool.false_eq_true,if_false] at h
  refine ⟨k1, ?_⟩
  show Op.bytesLess _ (kb u++ffW).data.toList=true
  rw [Jq hu]
  rcases E6 u v hu hv with ⟨e,_⟩ | ⟨_,e⟩ | ⟨_,e⟩
  ·omega
  ·rw [←e,By];exact hT
  ·exact e _ _
 ·simp only [if_true] at h
  refine ⟨?_,k2⟩
  show Op.bytesLess _ (kb u++ffW).data.toList=false
  rw [Jq hu]
  rcases E6 u v hu hv with ⟨_,e⟩ | ⟨e,_⟩ | ⟨e,_⟩
  ·exact F4 _ _ (e _ _)
  ·omega
  ·omega
theorem Aal :good zero=true :=by decide
theorem Ais {at' col op n :Int} {v :V} (hv :good v=true) {T :List UInt8} (hT :okT T) (yes :Bool) (h :isC at' col op n=true→ (decide (v.k=0) =yes)) :H6 (isS at' col op n yes) (keyOf v++T) :=by
 unfold isS
 cases hc :isC at' col op n with
 | false=>exact Rs hv hT
 | true=>
  have h1 :=h hc
  simp only [if_true]
  have hz :keyOf zero= [1] :=Cm rfl
  cases yes
  ·simp only [Bool.false_eq_true,if_false]
   have hk :v.k≠0 :=by simpa using h1
   refine ⟨?_,(Rs hv hT).2⟩
   show Op.bytesLess _ (kb zero++ffW).data.toList=false
   rw [Jq Aal,hz]
   obtain ⟨t,ht⟩ :=G4 hv
   refine F4 _ _ ?_
   rw [ht]
   rcases Ed hv with q | q | q
   ·exact absurd q hk
   ·rw [q];exact Dv (by decide) _ _
   ·rw [q];exact Dv (by decide) _ _
  ·simp only [if_true]
   have hk :v.k=0 :=by simpa using h1
   refine ⟨?_, ?_⟩
   ·show Op.bytesLess _ (kb zero).data.toList=false
    rw [Kn Aal,hz,Cm hk]
    have :=By [1] T []
    rw [Jp] at this;simpa using this
   ·show Op.bytesLess _ (kb zero++ffW).data.toList=true
    rw [Jq Aal,hz,Cm hk]
    have :=By [1] T [255]
    rw [show Op.bytesLess T [255] =true from hT] at this;simpa using this
theorem Afx (b :Bool) :ofV (whV b) =if b then 1 else 0 :=by cases b<;>rfl
theorem Wm (n :Int) :ofV (Dg n) =if n=0 then 0 else if n=1 then 1 else 2 :=by
 unfold Dg
 by_cases h0 :n=0
 ·subst h0;rfl
 ·by_cases h1 :n=1
  ·subst h1;rfl
  ·rw [if_neg (by omega),if_neg h0,if_neg h1];rfl
theorem Ago {v :V} (h :good v=true) :ofV v=2 :=by
 unfold ofV
 rcases Ed h with q | q | q<;>rw [if_neg (by omega)]
end Go.Proofs.YthehiijgnepcfaaGreat

namespace Go.Proofs.YthehiijgnepcfaaGreat
open Go.RowKit
theorem Ack (row :List V) (op :Int) (x :V) (s name :Wd) (n :Int) (a b :E) (h :Gy op=2) :ev row (.mk op x s name n [a,b]) =Eo op (ev row a) (ev row b) :=by
 rw [Id,B6,if_pos (by simp [h])];rfl
theorem Acl (row :List V) (op :Int) (x :V) (s name :Wd) (n :Int) (a :E) (h :Gy op=1) :ev row (.mk op x s name n [a]) =Hz op (ev row a) :=by
 rw [Id,B6,if_pos (by simp [h])];rfl
theorem Zm (row :List V) (op :Int) (x :V) (s name :Wd) (n :Int) (h :Gy op=0) :ev row (.mk op x s name n []) =Fk op x n row :=by
 rw [Id,B6,if_pos (by simp [h])];rfl
theorem I7 {d :Nat} {op :Int} {x :V} {s name :Wd} {n :Int} {l :List E} (h :geB (d+1) (.mk op x s name n l) =true) : (l.length :Int) =Dd op∧Jl op x s name=true∧ ∀a∈l,geB d a=true :=by
 simp only [geB,Bool.and_eq_true,decide_eq_true_eq,List.all_eq_true] at h
 exact ⟨h.1.1,h.1.2,h.2⟩
theorem Wn {d :Nat} {e :E} (h :geB d e=true) : (∃d',d=d'+1) ∧ (e.opI=1→good e.vV=true) :=by
 obtain ⟨op,x,s,name,n,l⟩ :=e
 cases d with
 | zero=>simp [geB] at h
 | succ d=>
  refine ⟨⟨d,rfl⟩,fun h1=> ?_⟩
  obtain ⟨_,h2,_⟩ :=I7 h
  have h1' :op=1 :=h1
  subst h1'
  have h3 :good x=true :=by simpa [Jl] using h2
  exact h3
theorem Kz {row :List V} {d :Nat} {e :E} (h :geB d e=true) (ho :e.opI=1) :ev row e=e.vV :=by
 obtain ⟨op,x,s,name,n,l⟩ :=e
 obtain ⟨⟨d,rfl⟩,_⟩ :=Wn h
 obtain ⟨h1,_,_⟩ :=I7 h
 have ho' :op=1 :=ho
 subst ho'
 have hl :l= [] :=List.eq_nil_of_length_eq_zero (by have :Dd 1=0 := (by decide);omega)
 subst hl
 rw [Zm _ _ _ _ _ _ (by decide)];rfl
theorem Oa {row :List V} {d :Nat} {e :E} {at' col :Int} (h :geB d e=true) (hc :isC at' col e.opI e.nI=true) :ev row e=Gz row (at'+col) :=by
 obtain ⟨op,x,s,name,n,l⟩ :=e
 obtain ⟨⟨d,rfl⟩,_⟩ :=Wn h
 obtain ⟨h1,_,_⟩ :=I7 h
 have hc' :isC at' col op n=true :=hc
 unfold isC at hc'
 rw [Bool.and_eq_true,Bool.and_eq_true,Bool.and_eq_true,decide_eq_true_eq,decide_eq_true_eq,decide_eq_true_eq,decide_eq_true_eq] at hc'
 obtain ⟨⟨⟨rfl,q1⟩,q2⟩,q3⟩ :=hc'
 have hl :l= [] :=List.eq_nil_of_length_eq_zero (by have :Dd 2=0 := (by decide);omega)
 subst hl
 rw [Zm _ _ _ _ _ _ (by decide),show at'+col=n by omega];rfl
theorem Ajs (v :V) :ofV v=0∨ofV v=1∨ofV v=2 :=by
 unfold ofV;split<;>omega
theorem Ah2 {l :List E} (h :l.length=1) : ∃a,l= [a] :=List.length_eq_one_iff.1 h
theorem Aam : ∀ {l :List E},l.length=2→ ∃a b,l= [a,b]
 | [a,b],_=> ⟨a,b,rfl⟩
theorem Rt {n :Int} (h :ofV (Dg n) =1) :n=1 :=by
 rw [Wm] at h
 split at h
 ·omega
 ·split at h
  ·assumption
  ·omega
theorem Ru {n :Int} (h :ofV (Dg n) =0) :n=0 :=by
 rw [Wm] at h
 split at h
 ·assumption
 ·split at h<;>omega
theorem Ajt {p :Int} (h :Mo p=1) :p=0 :=by
 unfold Mo at h
 split at h
 ·assumption
 ·split at h<;>omega
theorem Aju {p :Int} (h :Mo p=0) :p=1 :=by
 unfold Mo at h
 split at h
 ·omega
 ·split at h
  ·assumption
  ·omega
theorem Ah3 {p q :Int} (h :Mn p q=1) :p=1∧q=1 :=by
 unfold Mn at h
 split at h
 ·omega
 ·split at h
  ·assumption
  ·omega
theorem Ajv {p q :Int} (h :Mn p q=0) :p=0∨q=0 :=by
 unfold Mn at h
 split at h
 ·assumption
 ·split at h<;>omega
theorem or1 {p q :Int} (h :tOr p q=1) :p=1∨q=1 :=by
 unfold tOr at h
 split at h
 ·assumption
 ·split at h<;>omega
theorem or0 {p q :Int} (h :tOr p q=0) :p=0∧q=0 :=by
 unfold tOr at h
 split at h
 ·omega
 ·split at h
  ·assumption
  ·omega
theorem wh1 {b :Bool} (h :ofV (whV b) =1) :b=true :=by cases b<;>simp_all [Afx]
theorem wh0 {b :Bool} (h :ofV (whV b) =0) :b=false :=by cases b<;>simp_all [Afx]
theorem Agp :ofV zero=2 :=rfl
theorem Agq {op :Int} (hop :op=5∨op=6) {a b :V} {yes :Bool} (h :ofV (Eo op a b) = (if yes then 1 else 0)) :a.k≠0∧b.k≠0∧good a=true∧good b=true∧a.k=b.k∧ (if op=5 then decide (Dy a b=0) else decide (Dy a b<0)) =yes :=by
 have h2 :Eo op a b=if Eg a=true∧Eg b=true∧a.k=b.k then knV op a b else zero :=by
  unfold Eo;rw [if_neg (by omega),if_neg (by omega)]
 rw [h2] at h
 split at h
 ·rename_i hh
  obtain ⟨h3,h4,h5⟩ :=hh
  simp only [Eg,Bool.and_eq_true,Bool.not_eq_true',decide_eq_false_iff_not] at h3 h4
  refine ⟨h3.1,h4.1,h3.2,h4.2,h5, ?_⟩
  rcases hop with rfl | rfl
  ·have e :knV 5 a b=whV (decide (Dy a b=0)) :=rfl
   rw [e] at h
   rw [if_pos rfl]
   cases yes
   ·exact wh0 (by simpa using h)
   ·exact wh1 (by simpa using h)
  ·have e :knV 6 a b=whV (decide (Dy a b<0)) :=rfl
   rw [e] at h
   rw [if_neg (by decide)]
   cases yes
   ·exact wh0 (by simpa using h)
   ·exact wh1 (by simpa using h)
 ·rw [Agp] at h
  cases yes<;>simp at h
theorem Acm (at' col :Int) (row :List V) (T :List UInt8) (hT :okT T) (hv :good (Gz row (at'+col)) =true) {op :Int} (hop :op=5∨op=6) {d :Nat} {a b :E} (ha :geB d a=true) (hb :geB d b=true) (yes :Bool)
  (h :ofV (Eo op (ev row a) (ev row b)) = (if yes then 1 else 0)) :H6 (Ch at' col op a.opI a.vV a.nI b.opI b.vV b.nI yes) (keyOf (Gz row (at'+col)) ++T) :=by
 obtain ⟨k1,k2,g1,g2,k3,hc⟩ :=Agq hop h
 have na :I6 a.opI a.vV.k=false :=by
  cases hq :I6 a.opI a.vV.k with
  | false=>rfl
  | true=>
   unfold I6 at hq
   rw [Bool.and_eq_true,decide_eq_true_eq,decide_eq_true_eq] at hq
   rw [Kz ha hq.1] at k1
   exact absurd hq.2 k1
 have nb :I6 b.opI b.vV.k=false :=by
  cases hq :I6 b.opI b.vV.k with
  | false=>rfl
  | true=>
   unfold I6 at hq
   rw [Bool.and_eq_true,decide_eq_true_eq,decide_eq_true_eq] at hq
   rw [Kz hb hq.1] at k2
   exact absurd hq.2 k2
 unfold Ch
 rw [na,nb]
 rw [if_neg (by decide)]
 split
 ·rename_i hh
  rw [Bool.and_eq_true,Bool.and_eq_true,decide_eq_true_eq,decide_eq_true_eq] at hh
  obtain ⟨⟨rfl,h2⟩,h3⟩ :=hh
  have ea :=Oa (row :=row) ha h2
  have eb :=Kz (row :=row) hb h3
  rw [ea,eb] at k3 hc
  rw [eb] at g2
  refine Zl hv g2 k3 hT yes fun hy=> ?_
  subst hy;simpa using hc
 split
 ·rename_i hh
  rw [Bool.and_eq_true,Bool.and_eq_true,decide_eq_true_eq,decide_eq_true_eq] at hh
  obtain ⟨⟨rfl,h2⟩,h3⟩ :=hh
  have ea :=Kz (row :=row) ha h2
  have eb :=Oa (row :=row) hb h3
  rw [ea,eb] at k3 hc
  rw [ea] at g1
  refine Zl hv g1 k3.symm hT yes fun hy=> ?_
  subst hy
  have h0 :Dy a.vV (Gz row (at'+col)) =0 :=by simpa using hc
  rcases E6 a.vV (Gz row (at'+col)) g1 hv with ⟨e,_⟩ | ⟨_,e⟩ | ⟨e,_⟩
  ·omega
  ·rcases E6 (Gz row (at'+col)) a.vV hv g1 with ⟨_,q⟩ | ⟨q,_⟩ | ⟨_,q⟩
   ·have :=q [] [];rw [e,Gd] at this;cases this
   ·exact q
   ·have :=q [] [];rw [e,Gd] at this;cases this
  ·omega
 split
 ·rename_i hh
  rw [Bool.and_eq_true,Bool.and_eq_true,decide_eq_true_eq,decide_eq_true_eq] at hh
  obtain ⟨⟨rfl,h2⟩,h3⟩ :=hh
  have ea :=Oa (row :=row) ha h2
  have eb :=Kz (row :=row) hb h3
  rw [ea,eb] at k3 hc
  rw [eb] at g2
  refine Aej hv g2 k3 hT yes ?_
  rw [if_neg (by decide)] at hc
  cases yes<;>simpa using hc
 split
 ·rename_i hh
  rw [Bool.and_eq_true,Bool.and_eq_true,decide_eq_true_eq,decide_eq_true_eq] at hh
  obtain ⟨⟨rfl,h2⟩,h3⟩ :=hh
  have ea :=Kz (row :=row) ha h2
  have eb :=Oa (row :=row) hb h3
  rw [ea,eb] at k3 hc
  rw [ea] at g1
  refine Acj hv g1 k3.symm hT yes ?_
  rw [if_neg (by decide)] at hc
  cases yes<;>simpa using hc
 ·exact Rs hv hT
theorem Pt (at' col :Int) (row :List V) (T :List UInt8) (hT :okT T) (hv :good (Gz row (at'+col)) =true) : ∀ (d :Nat) (e :E) (yes :Bool),geB d e=true→ofV (ev row e) = (if yes then 1 else 0) →H6 (A3 at' col d e yes) (keyOf (Gz row (at'+col)) ++T) :=by
 intro d
 induction d with
 | zero=>intro e yes h;simp [geB] at h
 | succ d ih=>
  intro e yes hg ho
  obtain ⟨op,x,s,name,n,l⟩ :=e
  obtain ⟨hl,hleaf,hk⟩ :=I7 hg
  unfold A3
  by_cases h9 :op=9
  ·subst h9
   obtain ⟨a,rfl⟩ :=Ah2 (l :=l) (by have :Dd 9=1 := (by decide);omega)
   rw [if_pos rfl]
   refine ih a (!yes) (hk a (by simp)) ?_
   rw [Acl _ _ _ _ _ _ _ (by decide)] at ho
   have ho' :ofV (Dg (Mo (ofV (ev row a)))) =if yes then 1 else 0 :=ho
   cases yes
   ·exact Aju (Ru ho')
   ·exact Ajt (Rt ho')
  rw [if_neg h9]
  by_cases h78 :op=7∨op=8
  ·rw [if_pos h78]
   obtain ⟨a,b,rfl⟩ :=Aam (l :=l) (by have h1 :Dd 7=2 := (by decide);have h2 :Dd 8=2 := (by decide);rcases h78 with rfl | rfl<;>omega)
   have iha :=fun y h=>ih a y (hk a (by simp)) h
   have ihb :=fun y h=>ih b y (hk b (by simp)) h
   rw [Ack _ _ _ _ _ _ _ _ (by rcases h78 with rfl | rfl<;>decide)] at ho
   simp only
   rcases h78 with rfl | rfl
   ·have ho' :ofV (Dg (Mn (ofV (ev row a)) (ofV (ev row b)))) =if yes then 1 else 0 :=ho
    cases yes
    ·rw [if_neg (by decide)]
     exact Uc ((Ajv (Ru ho')).imp (iha false) (ihb false))
    ·rw [if_pos (by decide)]
     exact Zk (iha true (Ah3 (Rt ho')).1) (ihb true (Ah3 (Rt ho')).2)
   ·have ho' :ofV (Dg (tOr (ofV (ev row a)) (ofV (ev row b)))) =if yes then 1 else 0 :=ho
    cases yes
    ·rw [if_pos (by decide)]
     exact Zk (iha false (or0 (Ru ho')).1) (ihb false (or0 (Ru ho')).2)
    ·rw [if_neg (by decide)]
     exact Uc ((or1 (Rt ho')).imp (iha true) (ihb true))
  rw [if_neg h78]
  by_cases h10 :op=10
  ·subst h10
   rw [if_pos rfl]
   obtain ⟨a,rfl⟩ :=Ah2 (l :=l) (by have :Dd 10=1 := (by decide);omega)
   rw [Acl _ _ _ _ _ _ _ (by decide)] at ho
   have ho' :ofV (whV (decide ((ev row a).k=0))) =if yes then 1 else 0 :=ho
   refine Ais hv hT yes fun hc=> ?_
   rw [←Oa (row :=row) (hk a (by simp)) hc]
   cases yes
   ·exact wh0 ho'
   ·exact wh1 ho'
  rw [if_neg h10]
  by_cases h56 :op=5∨op=6
  ·rw [if_pos h56]
   obtain ⟨a,b,rfl⟩ :=Aam (l :=l) (by have h1 :Dd 5=2 := (by decide);have h2 :Dd 6=2 := (by decide);rcases h56 with rfl | rfl<;>omega)
   rw [Ack _ _ _ _ _ _ _ _ (by rcases h56 with rfl | rfl<;>decide)] at ho
   exact Acm at' col row T hT hv h56 (hk a (by simp)) (hk b (by simp)) yes ho
  rw [if_neg h56]
  by_cases h1 :op=1
  ·subst h1
   rw [if_pos rfl]
   have e1 :=Kz (row :=row) hg rfl
   rw [e1,Ago ((Wn hg).2 rfl)] at ho
   cases yes<;>simp at ho
  ·rw [if_neg h1]
   exact Rs hv hT
end Go.Proofs.YthehiijgnepcfaaGreat

namespace Go.Proofs.YthehiijgnepcfaaGreat
open Go.RowKit
set_option maxRecDepth 100000 in
set_option maxHeartbeats 40000000 in
theorem Aan (at' col :Int) (pk pn :Int) (px ps pm :Wd) (pi :Int) (b off pc :Nat) (pl :Nat) (qop qk qn :Int) (qx qs qm :Wd) (qi :Int) (qa :Option Addr) (ql qc :Nat) (top tk tn :Int) (tx ts tm :Wd) (ti :Int) (ta :Option Addr) (tl tc :Nat) (yes :Bool) (s1 s2 :Sp) (w :World) (hl :2≤pl) (hb :b<w.heap.size)
  (h1 :w.cell? ⟨b,off,none⟩ =some (.int .i64 qop) ∧w.cell? ⟨b,off+1,none⟩ =some (.int .i64 qk) ∧w.cell? ⟨b,off+2,none⟩ =some (.int .i64 qn) ∧w.cell? ⟨b,off+3,none⟩ =some (.string qx) ∧w.cell? ⟨b,off+4,none⟩ =some (.string qs) ∧w.cell? ⟨b,off+5,none⟩ =some (.string qm) ∧w.cell? ⟨b,off+6,none⟩ =some (.int .i64 qi) ∧w.cell? ⟨b,off+7,none⟩ =some (.slice qa ql qc)) (h2 :w.cell? ⟨b,off+8,none⟩ =some (.int .i64 top) ∧w.cell? ⟨b,off+8+1,none⟩ =some (.int .i64 tk) ∧w.cell? ⟨b,off+8+2,none⟩ =some (.int .i64 tn) ∧w.cell? ⟨b,off+8+3,none⟩ =some (.string tx) ∧w.cell? ⟨b,off+8+4,none⟩ =some (.string ts) ∧w.cell? ⟨b,off+8+5,none⟩ =some (.string tm) ∧w.cell? ⟨b,off+8+6,none⟩ =some (.int .i64 ti) ∧w.cell? ⟨b,off+8+7,none⟩ =some (.slice ta tl tc))
  (HA : ∀W,Below w.heap.size w W→Calls Tryz.prog 30 #[.agg #[.int .i64 at', .int .i64 col], .agg #[.int .i64 qop, .int .i64 qk, .int .i64 qn, .string qx, .string qs, .string qm, .int .i64 qi, .slice qa ql qc], .bool yes] W fun e w'=>e= .returned s1.val∧Below W.heap.size W w')
  (HB : ∀W,Below w.heap.size w W→Calls Tryz.prog 30 #[.agg #[.int .i64 at', .int .i64 col], .agg #[.int .i64 top, .int .i64 tk, .int .i64 tn, .string tx, .string ts, .string tm, .int .i64 ti, .slice ta tl tc], .bool yes] W fun e w'=>e= .returned s2.val∧Below W.heap.size W w') :
  Calls Tryz.prog 30 #[.agg #[.int .i64 at', .int .i64 col], .agg #[.int .i64 7, .int .i64 pk, .int .i64 pn, .string px, .string ps, .string pm, .int .i64 pi, .slice (some ⟨b,off,none⟩) pl pc], .bool yes] w fun e w'=>e= .returned (if yes then s1.both s2 else s1.either s2).val∧Below w.heap.size w w' :=by
 have HBo :=fun W=>Rp s1 s2 W
 have HEi :=fun W=>N8 s1 s2 W
 have l0 : (0 :Int) < (pl :Int) :=by omega
 have l1 : (1 :Int) < (pl :Int) :=by omega
 have n0 :0<pl :=by omega
 have n1 :1<pl :=by omega
 have B0 : (((w.alloc (.cells #[.int .i64 at', .int .i64 col] 83)).alloc (.cells #[.int .i64 7, .int .i64 pk, .int .i64 pn, .string px, .string ps, .string pm, .int .i64 pi, .slice (some ⟨b,off,none⟩) pl pc] 34)).alloc (.cells #[.string noW, .string noW] 81)).heap[w.heap.size]? =some (.cells #[.int .i64 at', .int .i64 col] 83) :=Ac (Ac (Ab _ _) _) _
 have B1 : (((w.alloc (.cells #[.int .i64 at', .int .i64 col] 83)).alloc (.cells #[.int .i64 7, .int .i64 pk, .int .i64 pn, .string px, .string ps, .string pm, .int .i64 pi, .slice (some ⟨b,off,none⟩) pl pc] 34)).alloc (.cells #[.string noW, .string noW] 81)).heap[w.heap.size+1]? =some (.cells #[.int .i64 7, .int .i64 pk, .int .i64 pn, .string px, .string ps, .string pm, .int .i64 pi, .slice (some ⟨b,off,none⟩) pl pc] 34) :=Ac (Aq _ _ _) _
 have B2 : (((w.alloc (.cells #[.int .i64 at', .int .i64 col] 83)).alloc (.cells #[.int .i64 7, .int .i64 pk, .int .i64 pn, .string px, .string ps, .string pm, .int .i64 pi, .slice (some ⟨b,off,none⟩) pl pc] 34)).alloc (.cells #[.string noW, .string noW] 81)).heap[w.heap.size+2]? =some (.cells #[.string noW, .string noW] 81) :=A6 _ _ _ _
 have hb3 :=Cb w (.cells #[.int .i64 at', .int .i64 col] 83) (.cells #[.int .i64 7, .int .i64 pk, .int .i64 pn, .string px, .string ps, .string pm, .int .i64 pi, .slice (some ⟨b,off,none⟩) pl pc] 34) (.cells #[.string noW, .string noW] 81)
 generalize hW : ((w.alloc (.cells #[.int .i64 at', .int .i64 col] 83)).alloc (.cells #[.int .i64 7, .int .i64 pk, .int .i64 pn, .string px, .string ps, .string pm, .int .i64 pi, .slice (some ⟨b,off,none⟩) pl pc] 34)).alloc (.cells #[.string noW, .string noW] 81) =V at B0 B1 B2 hb3
 have HW :Hid _ :=hW
 clear hW
 have cop :=Aa B1 (j :=0) (u := .int .i64 7) rfl
 have KS :Hid (∀W,Below V.heap.size V W→ (W.cell? ⟨w.heap.size,0,none⟩ =some (.int .i64 at') ∧W.cell? ⟨w.heap.size,1,none⟩ =some (.int .i64 col) ∧W.cell? ⟨w.heap.size+1,7,none⟩ =some (.slice (some ⟨b,off,none⟩) pl pc) ∧W.cell? ⟨b,off,none⟩ =some (.int .i64 qop) ∧W.cell? ⟨b,off+1,none⟩ =some (.int .i64 qk) ∧W.cell? ⟨b,off+2,none⟩ =some (.int .i64 qn) ∧W.cell? ⟨b,off+3,none⟩ =some (.string qx) ∧W.cell? ⟨b,off+4,none⟩ =some (.string qs) ∧W.cell? ⟨b,off+5,none⟩ =some (.string qm) ∧W.cell? ⟨b,off+6,none⟩ =some (.int .i64 qi) ∧W.cell? ⟨b,off+7,none⟩ =some (.slice qa ql qc) ∧W.cell? ⟨b,off+8,none⟩ =some (.int .i64 top) ∧W.cell? ⟨b,off+8+1,none⟩ =some (.int .i64 tk) ∧W.cell? ⟨b,off+8+2,none⟩ =some (.int .i64 tn) ∧W.cell? ⟨b,off+8+3,none⟩ =some (.string tx) ∧W.cell? ⟨b,off+8+4,none⟩ =some (.string ts) ∧W.cell? ⟨b,off+8+5,none⟩ =some (.string tm) ∧W.cell? ⟨b,off+8+6,none⟩ =some (.int .i64 ti) ∧W.cell? ⟨b,off+8+7,none⟩ =some (.slice ta tl tc))) :=fun W hW=>by
  have D0 := (hW.block _ (lt_of_block B0)).trans B0
  have D1 := (hW.block _ (lt_of_block B1)).trans B1
  have hbw :Below w.heap.size w W :=Ad hb3 hW
  have kc : ∀o,W.cell? ⟨b,o,none⟩ =w.cell? ⟨b,o,none⟩ :=fun o=>hbw.cell (p := ⟨b,o,none⟩) hb
  obtain ⟨x0,x1,x2,x3,x4,x5,x6,x7⟩ :=h1
  obtain ⟨y0,y1,y2,y3,y4,y5,y6,y7⟩ :=h2
  exact ⟨Aa D0 (j :=0) rfl,Aa D0 (j :=1) rfl,Aa D1 (j :=7) rfl,(kc _).trans x0,(kc _).trans x1,(kc _).trans x2,(kc _).trans x3,(kc _).trans x4,(kc _).trans x5,(kc _).trans x6,(kc _).trans x7,(kc _).trans y0,(kc _).trans y1,(kc _).trans y2,(kc _).trans y3,(kc _).trans y4,(kc _).trans y5,(kc _).trans y6,(kc _).trans y7⟩
 have pc' :=fun W (hW :Below V.heap.size V W) =>HA W (Ad hb3 hW)
 have dc' :=fun W (hW :Below V.heap.size V W) =>HB W (Ad hb3 hW)
 have BV :Hid _ :=And.intro B1 B2
 clear HA HB h1 h2 B0
 obtain ⟨lo1,hi1⟩ :=s1
 obtain ⟨lo2,hi2⟩ :=s2
 simp only [Sp.val] at pc' dc' HBo HEi
 generalize hbo : (Sp.mk lo1 hi1).both (Sp.mk lo2 hi2) =bo at HBo⊢
 generalize hei : (Sp.mk lo1 hi1).either (Sp.mk lo2 hi2) =ei at HEi⊢
 clear hbo hei
 have hin :V.heap.size=V.heap.size :=rfl
 go_enter Tryz.func30,Tryz.ntmps30
 go_upto_region 6 with fail
 rw [HW.out]
 go_cut [7,8] from 9 to 79 (fun s7 s8 wx=> ∃pa pb,s7= .pointer (some ⟨pa,0,none⟩) ∧s8= .pointer (some ⟨pb,0,none⟩) ∧Ke V wx pa pb lo1 hi1 lo2 hi2)
 case first=>
  have ks :=KS.out
  go_region_held3 (fun W=> (W.cell? ⟨w.heap.size,0,none⟩ =some (.int .i64 at') ∧W.cell? ⟨w.heap.size,1,none⟩ =some (.int .i64 col) ∧W.cell? ⟨w.heap.size+1,7,none⟩ =some (.slice (some ⟨b,off,none⟩) pl pc) ∧W.cell? ⟨b,off,none⟩ =some (.int .i64 qop) ∧W.cell? ⟨b,off+1,none⟩ =some (.int .i64 qk) ∧W.cell? ⟨b,off+2,none⟩ =some (.int .i64 qn) ∧W.cell? ⟨b,off+3,none⟩ =some (.string qx) ∧W.cell? ⟨b,off+4,none⟩ =some (.string qs) ∧W.cell? ⟨b,off+5,none⟩ =some (.string qm) ∧W.cell? ⟨b,off+6,none⟩ =some (.int .i64 qi) ∧W.cell? ⟨b,off+7,none⟩ =some (.slice qa ql qc) ∧W.cell? ⟨b,off+8,none⟩ =some (.int .i64 top) ∧W.cell? ⟨b,off+8+1,none⟩ =some (.int .i64 tk) ∧W.cell? ⟨b,off+8+2,none⟩ =some (.int .i64 tn) ∧W.cell? ⟨b,off+8+3,none⟩ =some (.string tx) ∧W.cell? ⟨b,off+8+4,none⟩ =some (.string ts) ∧W.cell? ⟨b,off+8+5,none⟩ =some (.string tm) ∧W.cell? ⟨b,off+8+6,none⟩ =some (.int .i64 ti) ∧W.cell? ⟨b,off+8+7,none⟩ =some (.slice ta tl tc)))
   (with_reducible first | exact ks _ (hz2) | exact ks _ (At hz2 _) | exact ks _ (At (At hz2 _) _) | exact ks _ (hz1) | exact ks _ (At hz1 _) | exact ks _ (At (At hz1 _) _) | exact ks _ ((Below.refl _ _).drew) | exact ks _ ((At (Below.refl _ _) _).drew) | exact ks _ ((At (At (Below.refl _ _) _) _).drew) | exact ks _ (Cs (Cs hz2 (by simp only;omega) _) (by simp only;omega) _) | exact ks _ (Cs (Cs (Cs (Cs hz2 (by simp only;omega) _) (by simp only;omega) _) (by simp only;omega) _) (by simp only;omega) _) | exact ks _ (Cs (Cs (At hz2 _) (by simp only;omega) _) (by simp only;omega) _) | exact ks _ (Cs (Cs (At (At hz2 _) _) (by simp only;omega) _) (by simp only;omega) _) | exact ks _ (At (Cs (Cs hz2 (by simp only;omega) _) (by simp only;omega) _) _) | go_keep)
   (first
    | (go_at_call_of 30 (Value.agg #[.int .i64 qop, .int .i64 qk, .int .i64 qn, .string qx, .string qs, .string qm, .int .i64 qi, .slice qa ql qc]);refine (pc' _ (by with_reducible first | exact (Below.refl _ _).drew | exact (At (Below.refl _ _) _).drew | exact (At (At (Below.refl _ _) _) _).drew)).mono ?_;rintro e w1 ⟨rfl,hb1⟩;have hz1 :Below V.heap.size V w1 :=Ad (by with_reducible first | exact (Below.refl _ _).drew | exact (At (Below.refl _ _) _).drew | exact (At (At (Below.refl _ _) _) _).drew) hb1;have hs1 :=hb1.size;simp only [World.size_alloc,A8] at hs1;have hs1l :=hz1.size)
    | (go_at_call_of 30 (Value.agg #[.int .i64 top, .int .i64 tk, .int .i64 tn, .string tx, .string ts, .string tm, .int .i64 ti, .slice ta tl tc]);refine (dc' _ (by with_reducible first | exact hz1 | exact At hz1 _ | exact At (At hz1 _) _)).mono ?_;rintro e w2 ⟨rfl,hb2⟩;have hz2 :Below V.heap.size V w2 :=Ad (by with_reducible first | exact hz1 | exact At hz1 _ | exact At (At hz1 _) _) hb2;have hs2 :=hb2.size;(try simp only [World.size_alloc] at hs2);(first | (have pA :w2.heap[V.heap.size]? =some (.cells #[.string noW, .string noW] 81) := (by with_reducible first | exact (hb2.block _ (by first | omega | (simp only [World.size_alloc];omega))).trans ((hb1.block _ (by first | (rw [A8,Bf];omega) | (rw [A8,Be];omega))).trans (Db (A0 (by with_reducible first | exact rfl | exact Be _ _ | exact Bf _ _ _) _))) | exact (hb2.block _ (by first | omega | (simp only [World.size_alloc];omega))).trans ((hb1.block _ (by first | (rw [A8,Bf];omega) | (rw [A8,Be];omega))).trans (Db (Ac (A0 (by with_reducible first | exact rfl | exact Be _ _ | exact Bf _ _ _) _) _))) | exact (hb2.block _ (by first | omega | (simp only [World.size_alloc];omega))).trans (Ac ((hb1.block _ (by first | (rw [A8,Bf];omega) | (rw [A8,Be];omega))).trans (Db (A0 (by with_reducible first | exact rfl | exact Be _ _ | exact Bf _ _ _) _))) _) | exact (hb2.block _ (by first | omega | (simp only [World.size_alloc];omega))).trans (Ac ((hb1.block _ (by first | (rw [A8,Bf];omega) | (rw [A8,Be];omega))).trans (Db (Ac (A0 (by with_reducible first | exact rfl | exact Be _ _ | exact Bf _ _ _) _) _))) _));have pA0 :w2.cell? ⟨V.heap.size,0,none⟩ =some (.string noW) :=Aa pA (j :=0) rfl;have pA1 :w2.cell? ⟨V.heap.size,1,none⟩ =some (.string noW) :=Aa pA (j :=1) rfl;have pAg :w2.frozen? ⟨V.heap.size,1,none⟩ =false := (by simp [World.frozen?,pA]);have pAf :w2.frozen? ⟨V.heap.size,0,none⟩ =false := (by simp [World.frozen?,pA]);have pAl :V.heap.size<w2.heap.size :=lt_of_block pA) | skip);(first | (have pB :w2.heap[V.heap.size+1]? =some (.cells #[.string noW, .string noW] 81) := (by with_reducible first | exact (hb2.block _ (by first | omega | (simp only [World.size_alloc];omega))).trans ((hb1.block _ (by first | (rw [A8,Bf];omega) | (rw [A8,Be];omega))).trans (Db (A0 (by with_reducible first | exact rfl | exact Be _ _ | exact Bf _ _ _) _))) | exact (hb2.block _ (by first | omega | (simp only [World.size_alloc];omega))).trans (Ac ((hb1.block _ (by first | (rw [A8,Bf];omega) | (rw [A8,Be];omega))).trans (Db (A0 (by with_reducible first | exact rfl | exact Be _ _ | exact Bf _ _ _) _))) _));have pB0 :w2.cell? ⟨V.heap.size+1,0,none⟩ =some (.string noW) :=Aa pB (j :=0) rfl;have pB1 :w2.cell? ⟨V.heap.size+1,1,none⟩ =some (.string noW) :=Aa pB (j :=1) rfl;have pBg :w2.frozen? ⟨V.heap.size+1,1,none⟩ =false := (by simp [World.frozen?,pB]);have pBf :w2.frozen? ⟨V.heap.size+1,0,none⟩ =false := (by simp [World.frozen?,pB]);have pBl :V.heap.size+1<w2.heap.size :=lt_of_block pB) | skip);(first | (have pC :w2.heap[w1.heap.size]? =some (.cells #[.string noW, .string noW] 81) := (by with_reducible first | exact (hb2.block _ (by first | omega | (simp only [World.size_alloc];omega))).trans (A0 (by with_reducible first | exact rfl | exact Be _ _ | exact Bf _ _ _) _) | exact (hb2.block _ (by first | omega | (simp only [World.size_alloc];omega))).trans (Ac (A0 (by with_reducible first | exact rfl | exact Be _ _ | exact Bf _ _ _) _) _));have pC0 :w2.cell? ⟨w1.heap.size,0,none⟩ =some (.string noW) :=Aa pC (j :=0) rfl;have pC1 :w2.cell? ⟨w1.heap.size,1,none⟩ =some (.string noW) :=Aa pC (j :=1) rfl;have pCg :w2.frozen? ⟨w1.heap.size,1,none⟩ =false := (by simp [World.frozen?,pC]);have pCf :w2.frozen? ⟨w1.heap.size,0,none⟩ =false := (by simp [World.frozen?,pC]);have pCl :w1.heap.size<w2.heap.size :=lt_of_block pC) | skip);(first | (have pD :w2.heap[w1.heap.size+1]? =some (.cells #[.string noW, .string noW] 81) := (by with_reducible first | exact (hb2.block _ (by first | omega | (simp only [World.size_alloc];omega))).trans (A0 (by with_reducible first | exact rfl | exact Be _ _ | exact Bf _ _ _) _));have pD0 :w2.cell? ⟨w1.heap.size+1,0,none⟩ =some (.string noW) :=Aa pD (j :=0) rfl;have pD1 :w2.cell? ⟨w1.heap.size+1,1,none⟩ =some (.string noW) :=Aa pD (j :=1) rfl;have pDg :w2.frozen? ⟨w1.heap.size+1,1,none⟩ =false := (by simp [World.frozen?,pD]);have pDf :w2.frozen? ⟨w1.heap.size+1,0,none⟩ =false := (by simp [World.frozen?,pD]);have pDl :w1.heap.size+1<w2.heap.size :=lt_of_block pD) | skip);(try have hne1 : ¬ (w1.heap.size=V.heap.size) := (by omega));(try have hne2 : ¬ (V.heap.size=w1.heap.size) := (by omega))))
  all_goals go_wp2_with fail
  all_goals go_meet
  all_goals
   refine ⟨_,_,rfl,rfl, ?_⟩
   with_reducible first
    | exact Wl hz2
    | exact Zh hz2
    | exact G7 hz2 pA (by omega)
    | exact G7 hz2 pB (by omega)
    | exact G7 hz2 pC (by omega)
    | exact G7 hz2 pD (by omega)
    | exact Gx hz2 pA (by omega)
    | exact Gx hz2 pB (by omega)
    | exact Gx hz2 pC (by omega)
    | exact Gx hz2 pD (by omega)
    | exact F7 hz2 pA (by omega)
    | exact F7 hz2 pB (by omega)
    | exact F7 hz2 pC (by omega)
    | exact F7 hz2 pD (by omega)
    | exact Fu hz2 pA (by omega)
    | exact Fu hz2 pB (by omega)
    | exact Fu hz2 pC (by omega)
    | exact Fu hz2 pD (by omega)
    | exact Bz hz2 pA pB (by omega) (by omega) (by omega)
    | exact Bz hz2 pA pC (by omega) (by omega) (by omega)
    | exact Bz hz2 pA pD (by omega) (by omega) (by omega)
    | exact Bz hz2 pB pA (by omega) (by omega) (by omega)
    | exact Bz hz2 pB pC (by omega) (by omega) (by omega)
    | exact Bz hz2 pB pD (by omega) (by omega) (by omega)
    | exact Bz hz2 pC pA (by omega) (by omega) (by omega)
    | exact Bz hz2 pC pB (by omega) (by omega) (by omega)
    | exact Bz hz2 pC pD (by omega) (by omega) (by omega)
    | exact Bz hz2 pD pA (by omega) (by omega) (by omega)
    | exact Bz hz2 pD pB (by omega) (by omega) (by omega)
    | exact Bz hz2 pD pC (by omega) (by omega) (by omega)
 case rest=>
  obtain ⟨pa,pb,rfl,rfl,hpa,hpb,hbx⟩ :=hcut
  have D1 := (hbx.block _ (lt_of_block BV.out.1)).trans BV.out.1
  obtain ⟨r0,r1,r2,r3,r4⟩ :=Am BV.out.2 hbx
  have dop :=Aa D1 (j :=0) (u := .int .i64 7) rfl
  have a0 :=Aa hpa (j :=0) (u := .string lo1) rfl
  have a1 :=Aa hpa (j :=1) (u := .string hi1) rfl
  have b0 :=Aa hpb (j :=0) (u := .string lo2) rfl
  have b1 :=Aa hpb (j :=1) (u := .string hi2) rfl
  cases yes
  ·go_wp2_with (go_at_call 68;go_must (go_fit (HEi _);rintro e w5 ⟨rfl,hb5⟩;obtain ⟨r0,r1,r2,r3,r4⟩ :=Am r0 hb5))
   exact A7 _ _ Tryz.results30 rfl rfl r0 (Ad hb3 (Ad hbx hb5)) (by omega) Tryz.underlying81 (by kernel_rfl)
  ·go_wp2_with (go_at_call 67;go_must (go_fit (HBo _);rintro e w5 ⟨rfl,hb5⟩;obtain ⟨r0,r1,r2,r3,r4⟩ :=Am r0 hb5))
   exact A7 _ _ Tryz.results30 rfl rfl r0 (Ad hb3 (Ad hbx hb5)) (by omega) Tryz.underlying81 (by kernel_rfl)
end Go.Proofs.YthehiijgnepcfaaGreat

