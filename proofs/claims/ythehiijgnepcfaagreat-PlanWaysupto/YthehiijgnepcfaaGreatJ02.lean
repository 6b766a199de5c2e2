/-
  7 texts of this proof in one, in build order: OrderMath, QSort, QOnce, TKeepMath, TMath2, TGood, TFind.
-/
import Derived.Test.YthehiijgnepcfaaGreatProg
import Derived.WalkKit
import Derived.WalkSpells
import Derived.WalkLawsBesides
import Derived.Deep.QuietTactic
import Derived.BigQuiet
import Derived.Deep.RegionHeld3
import Derived.Deep.DrawnRows
import Derived.Shelf.SlSorted.Search
import Derived.Test.YthehiijgnepcfaaGreatJ01
set_option linter.unusedSimpArgs false
set_option linter.unusedVariables false
namespace Go.Proofs.YthehiijgnepcfaaGreat
open Go.RowKit
theorem By (l p q :List UInt8) :Op.bytesLess (l++p) (l++q) =Op.bytesLess p q :=by
 induction l with
 | nil=>rfl
 | cons a l ih=>simp [Op.bytesLess,ih]
theorem Dv {a b :UInt8} (h :a<b) (p q :List UInt8) :Op.bytesLess (a ::p) (b ::q) =true :=by simp [Op.bytesLess,h]
theorem Gd (l :List UInt8) :Op.bytesLess l l=false :=by
 induction l with
 | nil=>rfl
 | cons a l ih=>simp [Op.bytesLess,ih]
theorem F4 : ∀ (p q :List UInt8),Op.bytesLess p q=true→Op.bytesLess q p=false
 | _,[],h=>by simp [Op.bytesLess] at h
 | [],_ ::_,_=>by simp [Op.bytesLess]
 | a ::p,b ::q,h=>by
  simp only [Op.bytesLess,Bool.or_eq_true,Bool.and_eq_true,decide_eq_true_eq,beq_iff_eq] at h
  simp only [Op.bytesLess,Bool.or_eq_false_iff,Bool.and_eq_false_iff,decide_eq_false_iff_not,beq_eq_false_iff_ne]
  rcases h with h | ⟨rfl,h⟩
  ·exact ⟨fun h2=>absurd (UInt8.lt_trans h h2) (UInt8.lt_irrefl _), .inl fun e=>absurd (e▸h) (UInt8.lt_irrefl _)⟩
  ·exact ⟨UInt8.lt_irrefl _, .inr (F4 p q h)⟩
theorem Qx : ∀ (p q :List UInt8),Op.bytesLess p q=false→p≠q→Op.bytesLess q p=true
 | [],[],_,h=>absurd rfl h
 | _ ::_,[],_,_=>by simp [Op.bytesLess]
 | [],_ ::_,h,_=>by simp [Op.bytesLess] at h
 | a ::p,b ::q,h,hne=>by
  simp only [Op.bytesLess,Bool.or_eq_false_iff,Bool.and_eq_false_iff,decide_eq_false_iff_not,beq_eq_false_iff_ne] at h
  simp only [Op.bytesLess,Bool.or_eq_true,Bool.and_eq_true,decide_eq_true_eq,beq_iff_eq]
  by_cases e :a=b
  ·subst e
   refine .inr ⟨rfl,Qx p q ?_ fun e=>hne (by rw [e])⟩
   rcases h.2 with h | h
   ·exact absurd rfl h
   ·exact h
  ·refine .inl ?_
   have h1 :=h.1
   rw [UInt8.lt_iff_toNat_lt] at h1⊢
   have :a.toNat≠b.toNat :=fun x=>e (UInt8.toNat_inj.1 x)
   omega
theorem Y2 (p q :List UInt8) : ∀ (s t :List UInt8),(∀c∈t,0<c) →Op.bytesLess s t=true→Op.bytesLess (s++0 ::p) (t++0 ::q) =true
 | _,[],_,h=>by simp [Op.bytesLess] at h
 | [],b ::t,ht,_=>Dv (ht b (by simp)) _ _
 | a ::s,b ::t,ht,h=>by
  simp only [Op.bytesLess,Bool.or_eq_true,Bool.and_eq_true,decide_eq_true_eq,beq_iff_eq] at h
  rcases h with h | ⟨rfl,h⟩
  ·exact Dv h _ _
  ·show Op.bytesLess ([a] ++_) ([a] ++_) =true
   rw [By]
   exact Y2 p q s t (fun c hc=>ht c (by simp [hc])) h
theorem Aih {a b :Nat} (ha :a<256) (hb :b<256) (h :a<b) :UInt8.ofNat a<UInt8.ofNat b :=by
 rw [UInt8.lt_iff_toNat_lt];simp;omega
theorem Zz {a b :Nat} (h :a %256=b %256) :UInt8.ofNat a=UInt8.ofNat b :=by
 apply UInt8.toNat_inj.1;simp;omega
theorem Nq {a b :Nat} (h :a %256<b %256) :UInt8.ofNat a<UInt8.ofNat b :=by
 rw [UInt8.lt_iff_toNat_lt];simp;omega
theorem Ag9 (m m' :Nat) (p q :List UInt8) (h :m<m') (h' :m'<4294967296) :Op.bytesLess (be4 m++p) (be4 m'++q) =true :=by
 simp only [be4,List.cons_append,List.nil_append]
 by_cases e1 :m/16777216=m'/16777216
 ·rw [Zz (show m/16777216 %256=m'/16777216 %256 by omega)]
  show Op.bytesLess ([UInt8.ofNat (m'/16777216)] ++_) ([UInt8.ofNat (m'/16777216)] ++_) =true
  rw [By]
  by_cases e2 :m/65536=m'/65536
  ·rw [Zz (show m/65536 %256=m'/65536 %256 by omega)]
   show Op.bytesLess ([UInt8.ofNat (m'/65536)] ++_) ([UInt8.ofNat (m'/65536)] ++_) =true
   rw [By]
   by_cases e3 :m/256=m'/256
   ·rw [Zz (show m/256 %256=m'/256 %256 by omega)]
    show Op.bytesLess ([UInt8.ofNat (m'/256)] ++_) ([UInt8.ofNat (m'/256)] ++_) =true
    rw [By]
    exact Dv (Nq (by omega)) _ _
   ·exact Dv (Nq (by omega)) _ _
  ·exact Dv (Nq (by omega)) _ _
 ·exact Dv (Nq (by omega)) _ _
theorem Qy (a b :Int) : (a<b∧Hb a b= -1) ∨ (a=b∧Hb a b=0) ∨ (b<a∧Hb a b=1) :=by
 unfold Hb
 rcases (show a<b∨b<a∨a=b from by omega) with h | h | h
 ·simp [h]
 ·have : ¬a<b :=by omega
  simp [h,this]
 ·subst h;simp
theorem Z0 (a b :ByteArray) : (Op.bytesLess a.data.toList b.data.toList=true∧Np a b= -1) ∨ (a.data.toList=b.data.toList∧Np a b=0) ∨ (Op.bytesLess b.data.toList a.data.toList=true∧Np a b=1) :=by
 unfold Np
 rw [ByteArray.toList_eq,ByteArray.toList_eq]
 by_cases h :Op.bytesLess a.data.toList b.data.toList=true
 ·simp [h]
 ·have h' :Op.bytesLess a.data.toList b.data.toList=false :=by simpa using h
  by_cases e :a.data.toList=b.data.toList
  ·right;left;rw [h',e];simp
  ·right;right
   refine ⟨Qx _ _ h' e, ?_⟩
   rw [h']
   have : (a.data.toList==b.data.toList) =false :=by rw [beq_eq_false_iff_ne];exact e
   rw [this];rfl
theorem Qz {v :V} (hk :v.k=2) (hg :good v=true) : ∀c∈v.s.data.toList,0<c :=by
 intro c hc
 simp [good,hk] at hg
 have h0 :=hg.2
 unfold F3 at h0
 have h :=List.all_eq_true.1 h0 c hc
 simp [Jh] at h
 rw [UInt8.lt_iff_toNat_lt]
 simp
 omega
theorem Ed {v :V} (hg :good v=true) :v.k=0∨v.k=1∨v.k=2 :=by
 by_cases h0 :v.k=0
 ·exact .inl h0
 by_cases h1 :v.k=1
 ·exact .inr (.inl h1)
 by_cases h2 :v.k=2
 ·exact .inr (.inr h2)
 ·simp [good,h0,h1,h2] at hg
theorem Md {v :V} (hk :v.k=1) (hg :good v=true) : -1000000≤v.n∧v.n≤1000000 :=by
 simp [good,hk] at hg;omega
theorem G4 {v :V} (hg :good v=true) : ∃t,keyOf v=UInt8.ofNat (v.k.toNat+1) ::t :=by
 rcases Ed hg with h | h | h
 ·exact ⟨_,by rw [Cm h,h];rfl⟩
 ·exact ⟨_,by rw [Dm h,h];rfl⟩
 ·exact ⟨_,by rw [Eh h,h];rfl⟩
theorem Xx {v u :V} (hv :good v=true) (hu :good u=true) (h :v.k<u.k) (p q :List UInt8) :Op.bytesLess (keyOf v++p) (keyOf u++q) =true :=by
 obtain ⟨a,ha⟩ :=G4 hv
 obtain ⟨b,hb⟩ :=G4 hu
 rw [ha,hb,List.cons_append,List.cons_append]
 refine Dv (Nq ?_) _ _
 rcases Ed hv with e | e | e<;>rcases Ed hu with f | f | f<;>rw [e,f] at h⊢ <;>first | (exfalso;revert h;decide) | decide
theorem Ly {v u :V} (hv :good v=true) (hu :good u=true) (h :v.k<u.k∨ (v.k=u.k∧ (v.n<u.n∨ (v.n=u.n∧Op.bytesLess v.s.data.toList u.s.data.toList=true)))) (p q :List UInt8) :
  Op.bytesLess (keyOf v++p) (keyOf u++q) =true :=by
 rcases h with h | ⟨hk,h⟩
 ·exact Xx hv hu h p q
 rcases Ed hv with e | e | e
 ·have e' :u.k=0 :=hk▸e
  simp [good,e] at hv
  simp [good,e'] at hu
  rcases h with h | ⟨_,h⟩
  ·omega
  ·have h0 :v.s.data.toList= [] :=by rw [hv.2];rfl
   have h1 :u.s.data.toList= [] :=by rw [hu.2];rfl
   rw [h0,h1] at h
   simp [Op.bytesLess] at h
 ·have e' :u.k=1 :=hk▸e
  have bv :=Md e hv
  have bu :=Md e' hu
  simp [good,e] at hv
  simp [good,e'] at hu
  rcases h with h | ⟨_,h⟩
  ·rw [Dm e,Dm e']
   show Op.bytesLess ([2] ++ (be4 _++p)) ([2] ++ (be4 _++q)) =true
   rw [By]
   exact Ag9 _ _ _ _ (by omega) (by omega)
  ·have h0 :v.s.data.toList= [] :=by rw [hv.2];rfl
   have h1 :u.s.data.toList= [] :=by rw [hu.2];rfl
   rw [h0,h1] at h
   simp [Op.bytesLess] at h
 ·have e' :u.k=2 :=hk▸e
  have gu :=Qz e' hu
  simp [good,e] at hv
  simp [good,e'] at hu
  rcases h with h | ⟨_,h⟩
  ·omega
  ·rw [Eh e,Eh e']
   show Op.bytesLess ([3] ++ ((v.s.data.toList++ [0]) ++p)) ([3] ++ ((u.s.data.toList++ [0]) ++q)) =true
   rw [By,List.append_assoc,List.append_assoc]
   exact Y2 p q _ _ gu h
theorem E6 (v u :V) (hv :good v=true) (hu :good u=true) :
  (Dy v u= -1∧ ∀p q,Op.bytesLess (keyOf v++p) (keyOf u++q) =true) ∨ (Dy v u=0∧keyOf v=keyOf u) ∨ (Dy v u=1∧ ∀p q,Op.bytesLess (keyOf u++q) (keyOf v++p) =true) :=by
 unfold Dy or3
 rcases Qy v.k u.k with ⟨h,e⟩ | ⟨hk,e⟩ | ⟨h,e⟩
 ·left;rw [e];exact ⟨rfl,fun p q=>Ly hv hu (.inl h) p q⟩
 ·rw [e]
  rcases Qy v.n u.n with ⟨h,e⟩ | ⟨hn,e⟩ | ⟨h,e⟩
  ·left;rw [e];exact ⟨rfl,fun p q=>Ly hv hu (.inr ⟨hk, .inl h⟩) p q⟩
  ·rw [e]
   rcases Z0 v.s u.s with ⟨h,e⟩ | ⟨h,e⟩ | ⟨h,e⟩
   ·left;rw [e];exact ⟨rfl,fun p q=>Ly hv hu (.inr ⟨hk, .inr ⟨hn,h⟩⟩) p q⟩
   ·right;left;rw [e];refine ⟨rfl, ?_⟩;unfold keyOf;rw [hk,hn,h]
   ·right;right;rw [e];exact ⟨rfl,fun p q=>Ly hu hv (.inr ⟨hk.symm, .inr ⟨hn.symm,h⟩⟩) q p⟩
  ·right;right;rw [e];exact ⟨rfl,fun p q=>Ly hu hv (.inr ⟨hk.symm, .inl h⟩) q p⟩
 ·right;right;rw [e];exact ⟨rfl,fun p q=>Ly hu hv (.inl h) q p⟩
def E7 :List V→List V→Int
 | a ::A,b ::B=>if Dy a b=0 then E7 A B else Dy a b
 | _,_=>0
theorem Xy (a b :V) : ∀ (A B :List V),A.length=B.length→E7 (A++ [a]) (B++ [b]) =if E7 A B=0 then Dy a b else E7 A B
 | [],[],_=>by simp [E7];exact fun h=>h.symm
 | x ::A,y ::B,h=>by
  simp only [List.cons_append,E7]
  by_cases e :Dy x y=0
  ·simp only [e,if_true];exact Xy a b A B (by simpa using h)
  ·simp [e]
theorem Lm : ∀ (A B :List V),A.length=B.length→ (∀v∈A,good v=true) → (∀v∈B,good v=true) →
  (E7 A B= -1∧Op.bytesLess (Bj A) (Bj B) =true) ∨ (E7 A B=0∧Bj A=Bj B) ∨ (E7 A B=1∧Op.bytesLess (Bj B) (Bj A) =true)
 | [],[],_,_,_=> .inr (.inl ⟨rfl,rfl⟩)
 | a ::A,b ::B,h,hA,hB=>by
  have ih :=Lm A B (by simpa using h) (fun v hv=>hA v (by simp [hv])) (fun v hv=>hB v (by simp [hv]))
  have ka :Bj (a ::A) =keyOf a++Bj A :=by simp [Bj]
  have kb :Bj (b ::B) =keyOf b++Bj B :=by simp [Bj]
  rw [ka,kb]
  unfold E7
  rcases E6 a b (hA a (by simp)) (hB b (by simp)) with ⟨e,h1⟩ | ⟨e,h1⟩ | ⟨e,h1⟩
  ·left;rw [e];exact ⟨rfl,h1 _ _⟩
  ·rw [e,h1,By,By]
   simp only [if_true,List.append_cancel_left_eq]
   exact ih
  ·right;right;rw [e];exact ⟨rfl,h1 _ _⟩
theorem Aii (A B :List V) (h :A.length=B.length) (hA : ∀v∈A,good v=true) (hB : ∀v∈B,good v=true) :
  decide (E7 A B<0) =Op.bytesLess (Bj A) (Bj B) ∧ (E7 A B==0) = (Bj A==Bj B) :=by
 rcases Lm A B h hA hB with ⟨e,h1⟩ | ⟨e,h1⟩ | ⟨e,h1⟩
 ·rw [e,h1]
  refine ⟨rfl, ?_⟩
  have : (Bj A==Bj B) =false :=by
   rw [beq_eq_false_iff_ne];intro x;rw [x,Gd] at h1;exact absurd h1 (by decide)
  rw [this];rfl
 ·rw [e,h1,Gd];simp
 ·rw [e,F4 _ _ h1]
  refine ⟨rfl, ?_⟩
  have : (Bj A==Bj B) =false :=by
   rw [beq_eq_false_iff_ne];intro x;rw [x,Gd] at h1;exact absurd h1 (by decide)
  rw [this];rfl
end Go.Proofs.YthehiijgnepcfaaGreat

namespace Go.Proofs.YthehiijgnepcfaaGreat
open Go.RowKit
open Go.Sort (Holds holds_grow holds_putRow holds_ahead grow grow_empty heap_grow_old heap_ahead)
def Ik (L :List ByteArray) :List (List UInt8) := (L.map fun s=>s.data.toList).mergeSort fun x y=>decide (x≤y)
def F5 (L :List ByteArray) :List ByteArray := (Lib.compact (Ik L)).map str
theorem Z1 {w :World} {g :Nat} {L :List ByteArray} (hc : ∀ (j :Nat) (u :Value),(L.map Value.string)[j]? =some u→w.cell? ⟨g,0+j,none⟩ =some u) (hf : ∀j,w.frozen? ⟨g,0+j,none⟩ =false) :Holds encStr w g 0 (L.map fun s=>s.data.toList).toArray :=by
 intro j hj
 refine ⟨?_,hf j⟩
 have hj' :j<L.length :=by simpa using hj
 have :=hc j (.string L[j]) (by rw [List.getElem?_map,List.getElem?_eq_getElem hj'];rfl)
 rw [this]
 rw [getElem!_pos _ j hj]
 simp [encStr]
theorem Tp {B :Nat} {w :World} {g :Nat} (hB :B≤g) (hw :B≤w.heap.size) (n :Nat) (d :Array (List UInt8)) (os :Array Obj) :RowKit.Below B w (grow (Go.Sort.putRow encStr (Go.Sort.ahead w n) g 0 d) os) :=by
 refine ⟨rfl,rfl,rfl,by simp,fun k hk=> ?_⟩
 rw [heap_grow_old _ _ (by simp;omega)]
 simp only [Go.Sort.putRow,Go.Sort.mapBlock,heap_ahead,Array.getElem?_modify]
 rw [if_neg (by omega)]
theorem Adz (L :List ByteArray) (g cap B :Nat) (w :World) (hH :Holds encStr w g 0 (L.map fun s=>s.data.toList).toArray) (hg :g<w.heap.size) (hB :B≤g) (hl :L.length≤1000000) :
  Calls Tryz.prog 61 #[.slice (some ⟨g,0,none⟩) L.length cap] w fun e w'=>e= .returned (.tuple #[]) ∧Holds encStr w' g 0 (Ik L).toArray∧g<w'.heap.size∧RowKit.Below B w w' :=by
 have h :=Any.slices_Sort_string Tryz.laysSort g 0 cap (L.map fun s=>s.data.toList) w hH hg (by simp;omega)
 rw [List.length_map] at h
 refine h.mono ?_
 rintro e w' ⟨rfl,n,os,rfl⟩
 refine ⟨rfl,holds_grow _ _ _ _ _ _ (by simpa using hg) (holds_putRow _ _ _ _ _ _ (holds_ahead _ _ _ _ _ _ hH) (by simp)),by simp;omega,Tp hB (by omega) _ _ _⟩
theorem Xz (zs :List (List UInt8)) (g cap B :Nat) (w :World) (hH :Holds encStr w g 0 zs.toArray) (hg :g<w.heap.size) (hB :B≤g) (hl :zs.length≤1000000) (hcap :zs.length≤cap) (hcm :cap≤maxLen) :
  Calls Tryz.prog 62 #[.slice (some ⟨g,0,none⟩) zs.length cap] w fun e w'=> ∃v,e= .returned v∧Aj w' v ((Lib.compact zs).map str) ∧RowKit.Below B w w' :=by
 refine (Any.slices_Compact_string Tryz.laysCompact g 0 cap zs w hH (by omega) hcap).mono ?_
 rintro e w' ⟨rfl,q,rfl⟩
 have hle : (Lib.compact zs).length≤zs.length :=by
  unfold Lib.compact Lib.compactUpTo
  rw [List.length_map]
  exact Nat.le_trans (List.length_filter_le _ _) (by simp)
 have hH2 :=holds_putRow encStr (Go.Sort.ahead w q) g 0 zs.toArray (Lib.compact zs++List.replicate (zs.length - (Lib.compact zs).length) []).toArray (holds_ahead _ _ _ _ _ _ hH) (by simp;omega)
 refine ⟨_,rfl,⟨by simp, ?_⟩, ?_⟩
 ·rcases Nat.eq_zero_or_pos (Lib.compact zs).length with h0 | h0
  ·exact .inl ⟨by simpa using h0,_,cap,by rw [h0],fun h=>by cases h⟩
  ·refine .inr ⟨by simpa using h0,g,0,cap,by simp,by simpa using hg,by simp;omega,hcm, ?_⟩
   intro j u hj
   have hjl :j< (Lib.compact zs).length :=by have := (List.getElem?_eq_some_iff.1 hj).1;simpa using this
   obtain ⟨c1,_⟩ :=hH2 j (by simp;omega)
   rw [c1]
   rw [List.map_map,List.getElem?_map,List.getElem?_eq_getElem hjl] at hj
   simp only [Option.map_some,Function.comp,Option.some.injEq] at hj
   rw [←hj,getElem!_pos _ j (by simp;omega)]
   simp only [List.getElem_toArray]
   rw [List.getElem_append_left hjl]
   rfl
 ·have :=Tp (w :=w) hB (by omega) q (Lib.compact zs++List.replicate (zs.length - (Lib.compact zs).length) []).toArray #[]
  rwa [grow_empty] at this
end Go.Proofs.YthehiijgnepcfaaGreat

namespace Go.Proofs.YthehiijgnepcfaaGreat
open Go.RowKit
section
variable {α :Type} [Inhabited α] [DecidableEq α]
theorem X3 (zs :List α) : ∀j,j<zs.length→zs.toArray[j]! ∈Lib.compact zs :=by
 intro j
 induction j with
 | zero=>
  intro h
  exact List.mem_map.2 ⟨0,List.mem_filter.2 ⟨List.mem_range.2 h,Lib.keeps_lt_one _ 0 (by omega)⟩,rfl⟩
 | succ j ih=>
  intro h
  by_cases he :zs.toArray[j+1]! =zs.toArray[j+1 - 1]!
  ·rw [he];exact ih (by omega)
  ·exact List.mem_map.2 ⟨j+1,List.mem_filter.2 ⟨List.mem_range.2 h,Lib.keeps_pos he⟩,rfl⟩
theorem Pc (zs :List α) (y :α) :y∈Lib.compact zs↔y∈zs :=by
 constructor
 ·intro h
  obtain ⟨j,hj,rfl⟩ :=List.mem_map.1 h
  have hl :=List.mem_range.1 (List.mem_filter.1 hj).1
  rw [getElem!_pos _ j (by simpa using hl)]
  simp
 ·intro h
  obtain ⟨j,hj,rfl⟩ :=List.getElem_of_mem h
  have :=X3 zs j hj
  rw [getElem!_pos _ j (by simpa using hj)] at this
  simpa using this
theorem Ux (zs :List α) (le :α→α→Prop) (anti : ∀a b,le a b→le b a→a=b) (hs :zs.Pairwise le) (hr : ∀a,le a a) : (Lib.compact zs).Nodup :=by
 have hle : ∀i j,i≤j→j<zs.length→le zs.toArray[i]! zs.toArray[j]! :=by
  intro i j hij hj
  rw [getElem!_pos _ i (by simp;omega),getElem!_pos _ j (by simpa using hj)]
  rcases Nat.eq_or_lt_of_le hij with rfl | h
  ·exact hr _
  ·exact List.pairwise_iff_getElem.1 hs i j (by omega) hj h
 unfold Lib.compact Lib.compactUpTo
 rw [List.Nodup,List.pairwise_map]
 refine List.Pairwise.imp_of_mem ?_ (List.Pairwise.filter _ (List.pairwise_lt_range (n :=zs.length)))
 intro i j hi hj hij he
 have hjl :=List.mem_range.1 (List.mem_filter.1 hj).1
 have hk := (List.mem_filter.1 hj).2
 have h1 :le zs.toArray[i]! zs.toArray[j - 1]! :=hle i (j - 1) (by omega) (by omega)
 have h2 :le zs.toArray[j - 1]! zs.toArray[j]! :=hle (j - 1) j (by omega) hjl
 rw [he] at h1
 have h3 :=anti _ _ h1 h2
 rw [Lib.keeps_neg (by omega) h3] at hk
 cases hk
end
theorem Abm (L :List ByteArray) (y :ByteArray) :y∈F5 L↔y∈L :=by
 unfold F5
 rw [List.mem_map]
 constructor
 ·rintro ⟨a,ha,rfl⟩
  rw [Pc,Ik,List.mem_mergeSort,List.mem_map] at ha
  obtain ⟨s,hs,rfl⟩ :=ha
  exact hs
 ·intro h
  refine ⟨y.data.toList, ?_,rfl⟩
  rw [Pc,Ik,List.mem_mergeSort,List.mem_map]
  exact ⟨y,h,rfl⟩
theorem Af0 {a b :List UInt8} (h :str a=str b) :a=b :=by
 have :=congrArg (fun s :ByteArray=>s.data.toList) h
 simpa [str] using this
theorem X4 (L :List ByteArray) : (F5 L).Nodup :=by
 unfold F5
 rw [List.Nodup,List.pairwise_map]
 have hs : (Ik L).Pairwise (fun a b=>a≤b) :=by
  have :=List.pairwise_mergeSort (le :=fun x y :List UInt8=>decide (x≤y)) (fun a b c h1 h2=>by simp only [decide_eq_true_eq] at*;exact List.le_trans h1 h2) (fun a b=>by simp only [Bool.or_eq_true,decide_eq_true_eq];exact List.le_total a b) (L.map fun s=>s.data.toList)
  exact this.imp fun h=>by simpa using h
 exact (Ux (Ik L) (fun a b=>a≤b) (fun a b=>List.le_antisymm) hs (fun a=>List.le_refl a)).imp fun h e=>h (Af0 e)
end Go.Proofs.YthehiijgnepcfaaGreat

namespace Go.Proofs.YthehiijgnepcfaaGreat
theorem Cut.get_put {F k F1 o F2} (c :Cut F k F1 o F2) (v :ByteArray) :Cw (Ec F k v) k=some v :=by
 have :Cut (Ec F k v) k F1 (some v) F2 := ⟨by rw [c.put];simp,c.lo,c.hi⟩
 exact this.get
theorem Cut.get_drop {F k F1 o F2} (c :Cut F k F1 o F2) :Cw (Fz F k) k=none :=by
 have :Cut (Fz F k) k F1 none F2 := ⟨by rw [c.drop];simp,c.lo,c.hi⟩
 exact this.get
theorem Nr {F1 F2 X :List (ByteArray×ByteArray)} {k z :ByteArray} (hX : ∀x∈X,x.1=k) (hz :z≠k) :Cw (F1++ (X++F2)) z=Cw (F1++F2) z :=by
 have h :X.find? (fun x=>decide (x.1=z)) =none :=by
  rw [List.find?_eq_none];intro x hx;rw [hX x hx];simpa using fun e=>hz e.symm
 unfold Cw
 rw [List.find?_append,List.find?_append,List.find?_append,h]
 simp
theorem Cut.get_put_other {F k F1 o F2} (c :Cut F k F1 o F2) (v :ByteArray) {z :ByteArray} (hz :z≠k) :Cw (Ec F k v) z=Cw F z :=by
 rw [c.put,show F1++ (k,v) ::F2=F1++ ([(k,v)] ++F2) by simp,Nr (k :=k) (by simp) hz,c.eq,Nr (k :=k) (by simp) hz]
theorem Cut.get_drop_other {F k F1 o F2} (c :Cut F k F1 o F2) {z :ByteArray} (hz :z≠k) :Cw (Fz F k) z=Cw F z :=by
 rw [c.drop,c.eq,Nr (k :=k) (by simp) hz]
theorem Cut.length_some {F k F1 v F2} (c :Cut F k F1 (some v) F2) (u :ByteArray) : (Ec F k u).length=F.length∧ (Fz F k).length+1=F.length :=by
 rw [c.put,c.drop,c.eq];simp;omega
theorem Cut.length_none {F k F1 F2} (c :Cut F k F1 none F2) (u :ByteArray) : (Ec F k u).length=F.length+1∧ (Fz F k).length=F.length :=by
 rw [c.put,c.drop,c.eq];simp;omega
end Go.Proofs.YthehiijgnepcfaaGreat

namespace Go.Proofs.YthehiijgnepcfaaGreat
theorem Abn {l :List ByteArray} {a b :ByteArray} (h :Bo (l++ [a])) (k :klt a b=true) :Bo (l++ [a] ++ [b]) :=by
 rw [D8]
 refine ⟨h,by simp [Bo], ?_⟩
 intro x hx y hy
 obtain rfl :y=b :=by simpa using hy
 rcases List.mem_append.1 hx with hx | hx
 ·exact Bu ((D8.1 h).2.2 x hx a (by simp)) k
 ·obtain rfl :x=a :=by simpa using hx
  exact k
theorem Sj {K :List ByteArray} {k :Nat} {a b :ByteArray} (h :Bo (K.take (k+1))) (ha :K[k]? =some a) (hb :K[k+1]? =some b) (hab :klt a b=true) :Bo (K.take (k+1+1)) :=by
 rw [List.take_add_one,hb]
 rw [List.take_add_one,ha] at h⊢
 exact Abn h hab
theorem Af1 {K :List ByteArray} (h :Bo K) {k :Nat} {a b :ByteArray} (ha :K[k]? =some a) (hb :K[k+1]? =some b) :klt a b=true :=by
 obtain ⟨h1,rfl⟩ :=List.getElem?_eq_some_iff.1 ha
 obtain ⟨h2,rfl⟩ :=List.getElem?_eq_some_iff.1 hb
 exact List.pairwise_iff_getElem.1 h k (k+1) h1 h2 (by omega)
def Dn (p :Pg) :ByteArray :=p.K.headD ByteArray.empty
theorem Q0 {p :Pg} (h :p.ok) :Dn p∈p.K :=by
 obtain ⟨h1,_⟩ :=h
 unfold Dn
 cases hk :p.K with
 | nil=>rw [hk] at h1;simp at h1
 | cons a l=>simp
theorem Q3 {p :Pg} (h :Bo p.K) {x :ByteArray} (hx :x∈p.K) :x=Dn p∨klt (Dn p) x=true :=by
 unfold Dn
 cases hk :p.K with
 | nil=>rw [hk] at hx;cases hx
 | cons a l=>
  rw [hk] at hx h
  rcases List.mem_cons.1 hx with rfl | hx
  ·exact .inl rfl
  ·exact .inr ((List.pairwise_cons.1 h).1 x hx)
theorem Ap.take {T :List Pg} (h :Ap T) (k :Nat) :Ap (T.take k) :=by
 rw [←List.take_append_drop k T] at h
 exact h.part.1
theorem Ap.page {T :List Pg} (h :Ap T) {k :Nat} {p :Pg} (hp :T[k]? =some p) :p.ok∧Bo p.K :=by
 have hm :=List.mem_of_getElem? hp
 refine ⟨h.1 p hm, ?_⟩
 obtain ⟨A,B,rfl⟩ :=List.append_of_mem hm
 have :=h.2
 rw [B8,Da,D8] at this
 exact (D8.1 this.2.1).1
theorem Abo {T :List Pg} {k :Nat} {q p :Pg} (hq :T[k]? =some q) (hp :T[k+1]? =some p) :T=T.take k++q ::p ::T.drop (k+2) :=by
 obtain ⟨h1,rfl⟩ :=List.getElem?_eq_some_iff.1 hq
 obtain ⟨h2,rfl⟩ :=List.getElem?_eq_some_iff.1 hp
 conv=>lhs;rw [←List.take_append_drop k T]
 congr 1
 rw [List.drop_eq_getElem_cons h1,List.drop_eq_getElem_cons h2]
theorem Ap.next {T :List Pg} (h :Ap T) {k :Nat} {q p :Pg} (hq :T[k]? =some q) (hp :T[k+1]? =some p) :klt (Br q) (Dn p) =true :=by
 have h1 := (h.page hq).1
 have h2 := (h.page hp).1
 rw [Abo hq hp] at h
 have :=h.2
 rw [B8,Da,Da,D8] at this
 exact (D8.1 this.2.1).2.2 _ (Gn h1) _ (List.mem_append_left _ (Q0 h2))
theorem Tq {T :List Pg} {k :Nat} {p :Pg} (h :Ap (T.take k)) (hp :T[k]? =some p) (h1 :p.ok) (h2 :Bo p.K) (h3 :k=0∨ ∃q,T[k - 1]? =some q∧klt (Br q) (Dn p) =true) :Ap (T.take (k+1)) :=by
 rw [List.take_add_one,hp]
 refine ⟨?_, ?_⟩
 ·intro q hq
  rcases List.mem_append.1 hq with hq | hq
  ·exact h.1 q hq
  ·obtain rfl :q=p :=by simpa using hq
   exact h1
 ·rw [B8,D8]
  refine ⟨h.2,by simpa [Bc] using h2, ?_⟩
  intro a ha b hb
  have hb' :b∈p.K :=by simpa [Bc] using hb
  rcases h3 with rfl | ⟨q,hq,hlt⟩
  ·simp [Bc] at ha
  ·have hlt' :klt (Br q) b=true :=by
    rcases Q3 h2 hb' with rfl | hx
    ·exact hlt
    ·exact Bu hlt hx
   have hk :k - 1+1=k∨k=0 :=by omega
   rcases hk with hk | rfl
   ·have e :T.take k=T.take (k - 1) ++ [q] :=by rw [←hk,List.take_add_one];simp only [Nat.add_sub_cancel];rw [hq];rfl
    rw [e,B8] at ha
    have hg :=h
    rw [e] at hg
    have hqr :Bo q.K :=by simpa [Bc] using hg.part.2.2
    have hqo :q.ok :=hg.1 q (by simp)
    rcases List.mem_append.1 ha with ha | ha
    ·have :=hg.2
     rw [B8,D8] at this
     exact Bu (this.2.2 a ha (Br q) (by simpa [Bc] using Gn hqo)) hlt'
    ·rcases Tl hqr (by simpa [Bc] using ha) with rfl | hx
     ·exact hlt'
     ·exact Bu hx hlt'
   ·simp [Bc] at ha
theorem Ad0 {p :Pg} {m :Nat} (h :p.K.length=m+1) :p.K[m]? =some (Br p) :=by
 unfold Br
 rw [List.getLastD_eq_getLast?,List.getLast?_eq_getElem?,h]
 simp only [Nat.add_sub_cancel]
 cases hk :p.K[m]? with
 | none=>rw [List.getElem?_eq_none_iff] at hk;omega
 | some x=>rfl
theorem Tr {p :Pg} (h :0<p.K.length) :p.K[0]? =some (Dn p) :=by
 unfold Dn
 cases hk :p.K with
 | nil=>rw [hk] at h;simp at h
 | cons a l=>rfl
end Go.Proofs.YthehiijgnepcfaaGreat

attribute [local go_sem↓] Go.wp_at_zero Go.wp_at_succ
namespace Go.Proofs.YthehiijgnepcfaaGreat
open Go.RowKit
set_option maxHeartbeats 400000 in
theorem Pd (p :Pg) (kv vv :Value) (w :World) (hk :Aj w kv p.K) (h0 :0<p.K.length) (h4 :p.K.length≤4) :
  Calls Tryz.prog 104 #[.agg #[kv,vv]] w fun e w'=>e= .returned (.string (Br p)) ∧w'=w.alloc (.cells #[kv,vv] 111) :=by
 obtain ⟨b,off,cap,rfl,hb,hc,hm,hcell⟩ :=hk.at h0
 obtain ⟨m,hm1⟩ : ∃m,p.K.length=m+1 := ⟨p.K.length - 1,by omega⟩
 have c0 :=hcell m _ (Ad0 hm1)
 generalize Br p=s at c0⊢
 rw [hm1] at hc⊢
 have i0 : (0 :Int) ≤ ((m+1 :Nat) :Int) - 1 :=by omega
 have i1 : ((m+1 :Nat) :Int) - 1< ((m+1 :Nat) :Int) :=by omega
 have i2 : (((m+1 :Nat) :Int) - 1).toNat=m :=by omega
 clear hcell hk
 go_enter Tryz.func104,Tryz.ntmps104
 go_wp2
 go_ret
 exact ⟨rfl,rfl⟩
set_option maxHeartbeats 2000000 in
theorem Uy (p :Pg) (b off cap :Nat) (vv :Value) (w :World) (hb :b<w.heap.size) (hcell : ∀i s,p.K[i]? =some s→w.cell? ⟨b,off+i,none⟩ =some (.string s)) (hv : ∃ao c,vv= .slice ao p.K.length c) (h0 :0<p.K.length) (h4 :p.K.length≤4) :
  Calls Tryz.prog 103 #[.agg #[.slice (some ⟨b,off,none⟩) p.K.length cap,vv]] w fun e w'=>J4 e (Bo p.K) ∧Below w.heap.size w w' :=by
 obtain ⟨ao,c,rfl⟩ :=hv
 have HC :=hid hcell
 clear hcell
 generalize hn :p.K.length=n at*
 have HN :=hid hn
 clear hn
 have t1 : ¬ ((n :Int) <1) :=by omega
 have t2 : ¬ ((n :Int) >4) :=by omega
 go_enter Tryz.func103,Tryz.ntmps103
 go_wp2
 go_loopw [3] (fun i wr=> ∃k :Nat,k+1≤n∧i= .int .i64 ((k :Int) +1) ∧Below w.heap.size w wr∧wr.cell? ⟨w.heap.size,0,none⟩ =some (.slice (some ⟨b,off,none⟩) n cap) ∧Hid (Bo (p.K.take (k+1)))) (fun i _=>n - (intOf i).toNat)
 case atStart=>exact ⟨0,h0,rfl,by first | exact (Below.refl _ _).alloc (Nat.le_refl _) _ | skip,by first | exact Aa (Ab w _) rfl | skip,hid (by
   have : (p.K.take 1).length≤1 :=by simp;omega
   match hx :p.K.take 1,this with
   | [],_=>exact List.Pairwise.nil
   | [a],_=>simp [Bo]
   | _ ::_ ::_,h=>simp at h)⟩
 case round=>
  obtain ⟨k,hk,rfl,hbel,hbox,HR⟩ :=hrel
  by_cases hlt :k+1<n
  ·obtain ⟨a,ha⟩ : ∃a,p.K[k]? =some a := ⟨_,List.getElem?_eq_getElem (by rw [HN.out];omega)⟩
   obtain ⟨d,hd⟩ : ∃d,p.K[k+1]? =some d := ⟨_,List.getElem?_eq_getElem (by rw [HN.out];omega)⟩
   have c0 :wr.cell? ⟨b,off+k,none⟩ =some (.string a) :=by rw [hbel.cell (p := ⟨b,off+k,none⟩) hb];exact HC.out k a ha
   have c1 :wr.cell? ⟨b,off+ (k+1),none⟩ =some (.string d) :=by rw [hbel.cell (p := ⟨b,off+ (k+1),none⟩) hb];exact HC.out (k+1) d hd
   have HS :=hid (fun h=>Sj HR.out ha hd h)
   have HF :=hid (fun h :Bo p.K=>Af1 h ha hd)
   clear ha hd
   have j0 : (0 :Int) ≤ (k :Int) :=by omega
   have j1 : (k :Int) < (n :Int) :=by omega
   have j2 : (0 :Int) ≤ (k :Int) +1 :=by omega
   have j3 : (k :Int) +1< (n :Int) :=by omega
   have j4 : (k :Int) +1 - 1= (k :Int) :=by omega
   have j5 : ((k :Int) +1).toNat=k+1 :=by omega
   cases had :klt a d
   ·have had' :Op.bytesLess a.toList d.toList=false :=had
    go_wp2
    go_quiet (fail)
    go_wp2
    go_ret
    exact ⟨J5 (fun h=>by have :=HF.out h;rw [had] at this;cases this),by first | exact below_drewN hbel _ | exact hbel.drew⟩
   ·have had' :Op.bytesLess a.toList d.toList=true :=had
    go_wp2
    go_quiet (fail)
    go_wp2
    go_roundw
    case rel=>exact ⟨k+1,by omega,by go_num,by first | exact below_drewN hbel _ | exact hbel.drew,hbox,hid (HS.out had)⟩
    case measure=>simp [intOf];omega
  ·have hkn :k+1=n :=by omega
   have j3 : ¬ ((k :Int) +1< (n :Int)) :=by omega
   go_wp2
   go_ret
   exact ⟨Nn (by have :=HR.out;rwa [hkn,←HN.out,List.take_length] at this),hbel⟩
set_option maxHeartbeats 1000000 in
theorem Vm (n m :Nat) (ao bo :Option Addr) (c d :Nat) (w :World) (hbad :n<1∨4<n∨m≠n) (hn :n≤maxLen) :
  Calls Tryz.prog 103 #[.agg #[.slice ao n c, .slice bo m d]] w fun e w'=>e= .returned (.bool false) ∧Below w.heap.size w w' :=by
 unfold maxLen at hn
 by_cases h1 :n<1
 ·obtain rfl :n=0 :=by omega
  go_enter Tryz.func103,Tryz.ntmps103
  go_wp2
  go_ret
  exact ⟨rfl,(Below.refl _ _).alloc (Nat.le_refl _) _⟩
 ·have t1 : ¬ ((n :Int) <1) :=by omega
  by_cases h2 :4<n
  ·have t2 : (n :Int) >4 :=by omega
   go_enter Tryz.func103,Tryz.ntmps103
   go_wp2
   go_ret
   exact ⟨rfl,(Below.refl _ _).alloc (Nat.le_refl _) _⟩
  ·have t2 : ¬ ((n :Int) >4) :=by omega
   have t3 : ¬ ((m :Int) = (n :Int)) :=by omega
   go_enter Tryz.func103,Tryz.ntmps103
   go_wp2
   go_ret
   exact ⟨rfl,(Below.refl _ _).alloc (Nat.le_refl _) _⟩
theorem Vn (p :Pg) (kv vv :Value) (w :World) (hk :Aj w kv p.K) (hv :Aj w vv p.V) (hl :p.K.length≤maxLen) :
  Calls Tryz.prog 103 #[.agg #[kv,vv]] w fun e w'=>J4 e (p.ok∧Bo p.K) ∧Below w.heap.size w w' :=by
 by_cases h :p.ok
 ·obtain ⟨b,off,cap,rfl,hb,_,_,hcell⟩ :=hk.at h.1
  refine (Uy p b off cap vv w hb hcell (by obtain ⟨ao,c,e⟩ :=hv.shape;exact ⟨ao,c,by rw [e,h.2.2]⟩) h.1 h.2.1).mono ?_
  rintro e w' ⟨⟨r,he,hr⟩,hb'⟩
  exact ⟨⟨r,he,by rw [hr];exact ⟨fun x=> ⟨h,x⟩,fun x=>x.2⟩⟩,hb'⟩
 ·obtain ⟨ao,c,rfl⟩ :=hk.shape
  obtain ⟨bo,d,rfl⟩ :=hv.shape
  refine (Vm _ _ ao bo c d w (by unfold Pg.ok at h;omega) hl).mono ?_
  rintro e w' ⟨rfl,hb'⟩
  exact ⟨J5 fun x=>h x.1,hb'⟩
set_option maxHeartbeats 400000 in
theorem Z2 (ao :Option Addr) (c :Nat) (w :World) :Calls Tryz.prog 55 #[.agg #[.slice ao 0 c]] w fun e w'=>J4 e (Ap []) ∧Below w.heap.size w w' :=by
 go_enter Tryz.func55,Tryz.ntmps55
 go_wp2
 refine wp_loop_rounds 1 ?_
 rw [rounds_succ]
 go_wp2
 go_ret
 exact ⟨Nn ⟨by simp,by simp [Bc,Bo]⟩,(Below.refl _ _).alloc (Nat.le_refl _) _⟩
theorem Vo {w a b c :World} (h :Below w.heap.size w a) (k :Below a.heap.size a b) (l :Below b.heap.size b c) :Below w.heap.size w c :=Ad (Ad h k) l
set_option maxHeartbeats 4000000 in
theorem Abp (T :List Pg) (b off cap :Nat) (w :World) (hb :b<w.heap.size) (hT :Lx w b off T) (hn :T.length≤cap) (hm :cap≤maxLen) (hl : ∀p∈T,p.K.length≤maxLen) :
  Calls Tryz.prog 55 #[.agg #[.slice (some ⟨b,off,none⟩) T.length cap]] w fun e w'=>J4 e (Ap T) ∧Below w.heap.size w w' :=by
 have HL :=hid hl
 clear hl
 generalize hN :T.length=n at*
 have HN :=hid hN
 clear hN
 unfold maxLen at hm
 go_enter Tryz.func55,Tryz.ntmps55
 go_wp2
 go_loopw [8] (fun i wr=> ∃k :Nat,k≤n∧i= .int .i64 k∧Below w.heap.size w wr∧wr.cell? ⟨w.heap.size,0,none⟩ =some (.slice (some ⟨b,off,none⟩) n cap) ∧Hid (Ap (T.take k))) (fun i _=>n - (intOf i).toNat)
 case atStart=>exact ⟨0,Nat.zero_le _,rfl,(Below.refl _ _).alloc (Nat.le_refl _) _,Aa (Ab w _) rfl,hid ⟨by simp,by simp [Bc,Bo]⟩⟩
 case round=>
  obtain ⟨k,hk,rfl,hbel,hbox,HG⟩ :=hrel
  by_cases hlt :k<n
  ·obtain ⟨p,hp⟩ : ∃p,T[k]? =some p := ⟨_,List.getElem?_eq_getElem (by rw [HN.out];omega)⟩
   have hTr :Lx wr b off T :=by
    intro i q hi
    obtain ⟨kv,vv,h1,h2,h3,h4⟩ :=hT i q hi
    exact ⟨kv,vv,by rw [hbel.cell (p := ⟨b,off+i*2,none⟩) hb];exact h1,by rw [hbel.cell (p := ⟨b,off+i*2+1,none⟩) hb];exact h2,h3.keep hbel (Nat.le_refl _),h4.keep hbel (Nat.le_refl _)⟩
   obtain ⟨kv,vv,c0,c1,hk1,hv1⟩ :=hTr k p hp
   obtain ⟨va,vc,rfl⟩ :=hv1.shape
   have hbr :b<wr.heap.size :=Nat.lt_of_lt_of_le hb hbel.size
   have hszw :w.heap.size<wr.heap.size :=block_lt_of_cell hbox
   have hpl :=HL.out p (List.mem_of_getElem? hp)
   have hW1 :Below wr.heap.size wr (wr.alloc (.cells #[kv, .slice va p.V.length vc] 111)) := (Below.refl _ _).alloc (Nat.le_refl _) _
   have gp :=Vn p kv (.slice va p.V.length vc) (wr.alloc (.cells #[kv, .slice va p.V.length vc] 111)) (hk1.below hW1) (hv1.below hW1) hpl
   have hboxp : (wr.alloc (.cells #[kv, .slice va p.V.length vc] 111)).cell? ⟨wr.heap.size,0,none⟩ =some kv :=Aa (Ab wr _) rfl
   have hsz : (wr.alloc (.cells #[kv, .slice va p.V.length vc] 111)).heap.size=wr.heap.size+1 :=by simp
   have HT :=hid hT
   have i0 : (0 :Int) ≤ (k :Int) :=by omega
   have i1 : (k :Int) < (n :Int) :=by omega
   clear hT hpl
   by_cases hgp :p.ok∧Bo p.K
   ·have gp' :=gp.mono (R' :=fun e w'=>e= .returned (.bool true) ∧Below (wr.alloc (.cells #[kv, .slice va p.V.length vc] 111)).heap.size (wr.alloc (.cells #[kv, .slice va p.V.length vc] 111)) w') (fun e w' h=> ⟨h.1.yes hgp,h.2⟩)
    clear gp
    have h0p :0<p.K.length :=hgp.1.1
    obtain ⟨kb,ko,kc,rfl,hkb,hkc,hkm,hkcell⟩ :=hk1.at h0p
    have cf :=hkcell 0 _ (Tr h0p)
    rcases Nat.eq_zero_or_pos k with rfl | hkp
    ·simp only [Nat.zero_mul,Nat.add_zero] at c0 c1
     go_wp2_with (go_at_call 103;go_must (refine gp'.mono ?_;rintro e w2 ⟨rfl,hb2⟩))
     go_quiet (fail)
     go_wp2
     go_roundw
     case rel=>exact ⟨0+1,by omega,by go_num,by first | exact below_drewN (Vo hbel hW1 hb2) _ | exact (Vo hbel hW1 hb2).drew,by first | exact (hb2.cell (p := ⟨w.heap.size,0,none⟩) (by simp;omega)).trans ((hW1.cell (p := ⟨w.heap.size,0,none⟩) hszw).trans hbox) | skip,hid (Tq HG.out hp hgp.1 hgp.2 (.inl rfl))⟩
     case measure=>simp [intOf];omega
    ·obtain ⟨j,hkj⟩ : ∃j,k=j+1 := ⟨k - 1,by omega⟩
     obtain ⟨q,hq⟩ : ∃q,T[j]? =some q := ⟨_,List.getElem?_eq_getElem (by rw [HN.out];omega)⟩
     obtain ⟨kq,vq,d0,d1,hkq,hvq⟩ :=hTr j q hq
     have hqg :q.ok :=by have :=HG.out;exact this.1 q (List.mem_of_getElem? (i :=j) (by rw [List.getElem?_take_of_lt (by omega)];exact hq))
     have HNX :=hid (fun h=>Tq HG.out hp hgp.1 hgp.2 (.inr ⟨q,by rw [hkj,Nat.add_sub_cancel];exact hq,h⟩))
     have HNF :=hid (fun h :Ap T=>h.next hq (by rw [←hkj];exact hp))
     have j0 : (0 :Int) ≤ (j :Int) :=by omega
     have j1 : (j :Int) < (n :Int) :=by omega
     have j2 : (k :Int) - 1= (j :Int) :=by omega
     have j3 : (k :Int) >0 :=by omega
     have j5 :IntKind.i64.wrap ((k :Int) - 1) = (j :Int) :=by rw [IntKind.wrap_i64];omega
     have j6 :IntKind.i64.wrap (j :Int) = (j :Int) :=by rw [IntKind.wrap_i64];omega
     clear hTr hp hq hkj
     go_wp2_with (go_at_call 103;go_must (refine gp'.mono ?_;rintro e w2 ⟨rfl,hb2⟩))
     have hbz :=Vo hbel hW1 hb2
     have e0 :w2.cell? ⟨w.heap.size,0,none⟩ =some (.slice (some ⟨b,off,none⟩) n cap) := (hb2.cell (p := ⟨w.heap.size,0,none⟩) (by simp;omega)).trans ((hW1.cell (p := ⟨w.heap.size,0,none⟩) hszw).trans hbox)
     have e1 :w2.cell? ⟨b,off+j*2,none⟩ =some kq := (hb2.cell (p := ⟨b,off+j*2,none⟩) (by simp;omega)).trans ((hW1.cell (p := ⟨b,off+j*2,none⟩) hbr).trans d0)
     have e2 :w2.cell? ⟨b,off+j*2+1,none⟩ =some vq := (hb2.cell (p := ⟨b,off+j*2+1,none⟩) (by simp;omega)).trans ((hW1.cell (p := ⟨b,off+j*2+1,none⟩) hbr).trans d1)
     have e3 :w2.cell? ⟨wr.heap.size,0,none⟩ =some (.slice (some ⟨kb,ko,none⟩) p.K.length kc) := (hb2.cell (p := ⟨wr.heap.size,0,none⟩) (by simp)).trans hboxp
     have e4 :w2.cell? ⟨kb,ko,none⟩ =some (.string (Dn p)) := (hb2.cell (p := ⟨kb,ko,none⟩) (by simp;omega)).trans ((hW1.cell (p := ⟨kb,ko,none⟩) hkb).trans cf)
     have lk :=fun W (hW :Below w2.heap.size w2 W) =>Pd q kq vq W (((hkq.below hW1).below hb2).below hW) hqg.1 hqg.2.1
     have g0 : (0 :Int) < (p.K.length :Int) :=by omega
     generalize p.K.length=pn at*
     have HLK :=hid (show klt (Br q) (Dn p) =true→Ap (T.take (k+1)) from HNX.out)
     have HLF :=hid (show Ap T→klt (Br q) (Dn p) =true from HNF.out)
     generalize Br q=lq at lk HLK HLF
     generalize Dn p=fp at e4 HLK HLF
     clear HNX HNF d0 d1 hbox hboxp cf c0 c1 hkcell gp' hsz
     cases hlf :klt lq fp
     ·have hlf' :Op.bytesLess lq.toList fp.toList=false :=hlf
      go_region_held3 (fun w'=>w'.cell? ⟨w.heap.size,0,none⟩ =some (.slice (some ⟨b,off,none⟩) n cap) ∧w'.cell? ⟨b,off+j*2,none⟩ =some kq∧w'.cell? ⟨b,off+j*2+1,none⟩ =some vq∧w'.cell? ⟨wr.heap.size,0,none⟩ =some (.slice (some ⟨kb,ko,none⟩) pn kc) ∧w'.cell? ⟨kb,ko,none⟩ =some (.string fp)) (first | go_keep | skip)
       (first | (go_at_call 104;refine (lk _ ((Below.refl _ _).drew)).mono ?_;rintro e w3 ⟨rfl,rfl⟩))
      go_wp2
      go_ret
      exact ⟨J5 (fun h=>by have :=HLF.out h;rw [hlf] at this;cases this),hbz.drew.alloc (by simp;exact Nat.le_trans hbz.size (Nat.le_refl _)) _⟩
     ·have hlf' :Op.bytesLess lq.toList fp.toList=true :=hlf
      go_region_held3 (fun w'=>w'.cell? ⟨w.heap.size,0,none⟩ =some (.slice (some ⟨b,off,none⟩) n cap) ∧w'.cell? ⟨b,off+j*2,none⟩ =some kq∧w'.cell? ⟨b,off+j*2+1,none⟩ =some vq∧w'.cell? ⟨wr.heap.size,0,none⟩ =some (.slice (some ⟨kb,ko,none⟩) pn kc) ∧w'.cell? ⟨kb,ko,none⟩ =some (.string fp)) (first | go_keep | skip)
       (first | (go_at_call 104;refine (lk _ ((Below.refl _ _).drew)).mono ?_;rintro e w3 ⟨rfl,rfl⟩))
      go_wp2
      go_roundw
      case rel=>exact ⟨k+1,by omega,by go_num,hbz.drew.alloc (by simp;exact Nat.le_trans hbz.size (Nat.le_refl _)) _,by first | (rw [World.cell?_alloc_past _ _ _ (block_lt_of_cell e0)];exact e0) | (simp [*];done),hid (HLK.out hlf)⟩
      case measure=>simp [intOf];omega
   ·obtain ⟨ka,kc,rfl⟩ :=hk1.shape
    have gp' :=gp.mono (R' :=fun e w'=>e= .returned (.bool false) ∧Below (wr.alloc (.cells #[.slice ka p.K.length kc, .slice va p.V.length vc] 111)).heap.size (wr.alloc (.cells #[.slice ka p.K.length kc, .slice va p.V.length vc] 111)) w') (fun e w' h=> ⟨h.1.no hgp,h.2⟩)
    clear gp
    go_wp2_with (go_at_call 103;go_must (refine gp'.mono ?_;rintro e w2 ⟨rfl,hb2⟩))
    go_ret
    exact ⟨J5 fun h=>hgp (h.page hp),(hbel.trans (hW1.mono hbel.size)).trans (hb2.mono (Nat.le_trans hbel.size hW1.size))⟩
  ·have hkn :k=n :=by omega
   subst hkn
   go_wp2
   go_ret
   exact ⟨Nn (by have :=HG.out;rwa [←HN.out,List.take_length] at this),hbel⟩
end Go.Proofs.YthehiijgnepcfaaGreat

attribute [local go_sem↓] Go.wp_at_zero Go.wp_at_succ
namespace Go.Proofs.YthehiijgnepcfaaGreat
open Go.RowKit Go.Sort
set_option maxHeartbeats 2000000 in
theorem Abq (T :List Pg) (tb xb b off cap i :Nat) (p :Pg) (k :ByteArray) (W :World) (hp :T[i]? =some p) (hok :p.ok) (hT :Lx W b off T)
  (ht :W.cell? ⟨tb,0,none⟩ =some (.slice (some ⟨b,off,none⟩) T.length cap)) (hx :W.cell? ⟨xb,0,none⟩ =some (.string k)) :
  Calls Tryz.prog 107 (#[.int .i64 i] ++ #[.pointer (some ⟨tb,0,none⟩), .pointer (some ⟨xb,0,none⟩)]) W fun e w'=>e= .returned (.bool (!klt (Br p) k)) ∧ ∃q os,w'=grow (W.drewN q) os :=by
 obtain ⟨kv,vv,c0,c1,hk,hv⟩ :=hT i p hp
 have hin :i<T.length := (List.getElem?_eq_some_iff.1 hp).1
 have lk :=fun W' (h :Below W.heap.size W W') =>Pd p kv vv W' (hk.below h) hok.1 hok.2.1
 obtain ⟨va,vc,rfl⟩ :=hv.shape
 obtain ⟨ka,kc,rfl⟩ :=hk.shape
 unfold klt
 generalize Br p=lq at lk⊢
 generalize T.length=n at*
 have i0 : (0 :Int) ≤ (i :Int) :=by omega
 have i1 : (i :Int) < (n :Int) :=by omega
 clear hT hk hv hp hok
 generalize hbl :Op.bytesLess lq.toList k.toList=bl
 go_enter Tryz.func107,Tryz.ntmps107
 go_wp2
 go_region_held3 (fun w'=>w'.cell? ⟨tb,0,none⟩ =some (.slice (some ⟨b,off,none⟩) n cap) ∧w'.cell? ⟨b,off+i*2,none⟩ =some (.slice ka p.K.length kc) ∧w'.cell? ⟨b,off+i*2+1,none⟩ =some (.slice va p.V.length vc) ∧w'.cell? ⟨xb,0,none⟩ =some (.string k)) (first | go_keep | skip)
  (first | (go_at_call 104;refine (lk _ ((Below.refl _ _).drew)).mono ?_;rintro e w3 ⟨rfl,rfl⟩))
 all_goals go_wp2
 all_goals go_ret
 all_goals exact ⟨by first | rfl | simp [*],1,#[.cells #[.slice ka p.K.length kc, .slice va p.V.length vc] 111],alloc_eq_grow W.drew _⟩
theorem X5 (T :List Pg) (f :Pg→Bool) : (List.range T.length).countP (fun i=>f (T.getD i pg0)) =T.countP f :=by
 induction T with
 | nil=>rfl
 | cons x T ih=>
  rw [List.length_cons,List.range_succ_eq_map,List.countP_cons,List.countP_map,List.countP_cons]
  congr 1
theorem Abr {T :List Pg} (h :Ap T) (k :ByteArray) : ∀a b,a≤b→b<T.length→ (!klt (Br (T.getD a pg0)) k) =true→ (!klt (Br (T.getD b pg0)) k) =true :=by
 obtain ⟨A,B,e,hc,ha,hb⟩ :=Ll T h k
 intro a b hab hbl h1
 have hA :A.length≤a :=by
  rcases Nat.lt_or_ge a A.length with hlt | hge
  ·exfalso
   have hg :T.getD a pg0=A[a] :=by rw [e,List.getD_eq_getElem?_getD,List.getElem?_append_left hlt,List.getElem?_eq_getElem hlt];rfl
   rw [hg] at h1
   have hm :A[a] ∈A :=List.getElem_mem hlt
   have hok :A[a].ok :=h.1 _ (by rw [e];exact List.mem_append_left _ hm)
   have :=ha (Br A[a]) (List.mem_flatMap.2 ⟨A[a],hm,Gn hok⟩)
   rw [this] at h1
   cases h1
  ·exact hge
 have hbt :b - A.length<B.length :=by rw [e,List.length_append] at hbl;omega
 have hg :T.getD b pg0=B[b - A.length] :=by rw [e,List.getD_eq_getElem?_getD,List.getElem?_append_right (by omega),List.getElem?_eq_getElem hbt];rfl
 rw [hg,hb _ (List.getElem_mem hbt)];rfl
def pf (T :List Pg) (k :ByteArray) :Nat :=T.countP fun p=>klt (Br p) k
set_option maxHeartbeats 2000000 in
theorem Il (T :List Pg) (tv :Value) (k :ByteArray) (w :World) (ht :A5 w tv T) (hg :Ap T) (hn :T.length*48≤140737488355328) :
  Calls Tryz.prog 58 #[tv, .string k] w fun e w'=>e= .returned (.int .i64 (pf T k)) ∧Below w.heap.size w w' :=by
 obtain ⟨sv,rfl,hs⟩ :=ht
 obtain ⟨so,scap,rfl⟩ : ∃so scap,sv= .slice so T.length scap :=by obtain ⟨rows,h1,_⟩ :=hs;exact h1.shape
 obtain ⟨W0,hW0⟩ : ∃W0,W0= (w.alloc (.cells #[.slice so T.length scap] 48)).alloc (.cells #[.string k] 9) := ⟨_,rfl⟩
 have hsize :W0.heap.size=w.heap.size+1+1 :=by rw [hW0];simp
 have hB0 :Below w.heap.size w W0 :=by rw [hW0];exact ((Below.refl _ w).alloc (Nat.le_refl _) _).alloc (by simp) _
 have ca :W0.cell? ⟨w.heap.size,0,none⟩ =some (.slice so T.length scap) :=by
  rw [hW0];exact Aa (Ac (Ab w _) _) rfl
 have cx :W0.cell? ⟨w.heap.size+1,0,none⟩ =some (.string k) :=by
  rw [hW0];have :=Ab (w.alloc (.cells #[.slice so T.length scap] 48)) (.cells #[.string k] 9)
  rw [World.size_alloc] at this
  exact Aa this rfl
 have eg : ∀args w,(callFunc 107 args).run Tryz.prog w= .ok (.enter 107 args) w :=enters_of Tryz.func107 (by kernel_rfl) rfl
 have hS :=Any.sort_Search Tryz.laysSearch 107 #[.pointer (some ⟨w.heap.size,0,none⟩), .pointer (some ⟨w.heap.size+1,0,none⟩)] T.length (fun i=> !klt (Br (T.getD i pg0)) k) W0 eg (by omega)
  (fun m os i hi=>by
   have hbl :Below W0.heap.size W0 (grow (W0.drewN m) os) :=below_grown_sl W0.heap.size W0 m os (Nat.le_refl _)
   obtain ⟨b,off,cap,hsv,hb,_,_,hT⟩ :=hs.at (by omega)
   have hpi :T[i]? =some (T.getD i pg0) :=by rw [List.getD_eq_getElem?_getD,List.getElem?_eq_getElem hi];rfl
   have hb0 :b<W0.heap.size :=by omega
   refine Abq T w.heap.size (w.heap.size+1) b off scap i (T.getD i pg0) k _ hpi (hg.1 _ (List.mem_of_getElem? hpi)) ((hT.below hB0 hb).below hbl hb0) ?_ ?_
   ·rw [hbl.cell (p := ⟨w.heap.size,0,none⟩) (by simp only;omega),ca]
    simp only [Value.slice.injEq] at hsv
    rw [hsv.1]
   ·rw [hbl.cell (p := ⟨w.heap.size+1,0,none⟩) (by simp only;omega),cx])
  (Abr hg k)
 have hcnt : (List.range T.length).countP (fun i=> !(!klt (Br (T.getD i pg0)) k)) =pf T k :=by
  simp only [Bool.not_not]
  exact X5 T fun p=>klt (Br p) k
 rw [hcnt] at hS
 clear ca cx hcnt
 generalize pf T k=r at hS⊢
 generalize T.length=n at*
 go_enter Tryz.func58,Tryz.ntmps58
 go_wp2_with (go_at_call 106;go_must (rw [←hW0];refine hS.mono ?_;rintro e w' ⟨rfl,q,os,rfl⟩))
 go_ret
 refine ⟨rfl, ?_⟩
 rw [←hW0]
 exact hB0.trans (below_grown_sl w.heap.size W0 q os (by omega))
def Lz (T :List Pg) (k :ByteArray) (pg pl :Nat) (th :Bool) :Prop :=
 ∀ (tv :Value) (w :World),A5 w tv T→Calls Tryz.prog 56 #[tv, .string k] w fun e w'=>e= .returned (.tuple #[.int .i64 pg, .int .i64 pl, .bool th]) ∧Below w.heap.size w w'
set_option maxHeartbeats 2000000 in
theorem Vp (T :List Pg) (k :ByteArray) (hg :Ap T) (hn :T.length*48≤140737488355328) : ∃ (pg pl :Nat) (th :Bool),Zt T k pg pl th∧Lz T k pg pl th :=by
 obtain ⟨A,B,e,hc,ha,hb⟩ :=Ll T hg k
 change pf T k=A.length at hc
 cases B with
 | nil=>
  refine ⟨T.length,0,false, .inl ⟨rfl,rfl,rfl,by rw [e,List.append_nil];exact ha⟩,fun tv w ht=> ?_⟩
  have pfc :=fun W (h :Below w.heap.size w W) =>Il T tv k W (ht.below h) hg hn
  obtain ⟨sv,rfl,hs⟩ :=ht
  rw [hc] at pfc
  obtain ⟨so,scap,rfl⟩ : ∃so scap,sv= .slice so T.length scap :=by obtain ⟨rows,h1,_⟩ :=hs;exact h1.shape
  have hB0 :Below w.heap.size w (w.alloc (.cells #[.slice so T.length scap] 48)) := (Below.refl _ w).alloc (Nat.le_refl _) _
  have cbox : (w.alloc (.cells #[.slice so T.length scap] 48)).cell? ⟨w.heap.size,0,none⟩ =some (.slice so T.length scap) :=Aa (Ab w _) rfl
  have pf0 :=pfc _ hB0
  have hsz :w.heap.size< (w.alloc (.cells #[.slice so T.length scap] 48)).heap.size :=by simp
  have hl :A.length=T.length :=by rw [e,List.append_nil]
  clear e ha hb hs hg pfc
  rw [hl] at pf0
  generalize T.length=n at*
  go_enter Tryz.func56,Tryz.ntmps56
  go_wp2_with (go_at_call 58;go_must (refine pf0.mono ?_;rintro e w1 ⟨rfl,hb1⟩;have cb1 :w1.cell? ⟨w.heap.size,0,none⟩ =some (.slice so n scap) := (hb1.cell (p := ⟨w.heap.size,0,none⟩) hsz).trans cbox))
  refine bodyPost_ret (v := .tuple #[.int .i64 n, .int .i64 0, .bool false]) (by simp [results,Tryz.results56,go_sem]) rfl ?_
  exact ⟨rfl,hB0.trans (hb1.mono hB0.size)⟩
 | cons p B=>
  have hlt :A.length<T.length :=by rw [e];simp
  have hpi :T[A.length]? =some p :=by rw [e];simp
  have hpg :=hg.page hpi
  obtain ⟨K1,K2,hK,hK1,hK2⟩ :=Mb p.K hpg.2 k
  cases hK2e :K2 with
  | nil=>
   exfalso
   subst hK2e
   have :=hK1 (Br p) (by have :=Gn hpg.1;rw [hK,List.append_nil] at this;exact this)
   rw [hb p (by simp)] at this
   cases this
  | cons y K3=>
   subst hK2e
   refine ⟨A.length,K1.length,decide (y=k), .inr ⟨A,p,B,K1,y,K3,e,hK,rfl,rfl,ha,hK1,hK2 y (by simp),rfl⟩,fun tv w ht=> ?_⟩
   have pfc :=fun W (h :Below w.heap.size w W) =>Il T tv k W (ht.below h) hg hn
   obtain ⟨sv,rfl,hs⟩ :=ht
   rw [hc] at pfc
   obtain ⟨so,scap,rfl⟩ : ∃so scap,sv= .slice so T.length scap :=by obtain ⟨rows,h1,_⟩ :=hs;exact h1.shape
   have hB0 :Below w.heap.size w (w.alloc (.cells #[.slice so T.length scap] 48)) := (Below.refl _ w).alloc (Nat.le_refl _) _
   have cbox : (w.alloc (.cells #[.slice so T.length scap] 48)).cell? ⟨w.heap.size,0,none⟩ =some (.slice so T.length scap) :=Aa (Ab w _) rfl
   have pf0 :=pfc _ hB0
   have hsz :w.heap.size< (w.alloc (.cells #[.slice so T.length scap] 48)).heap.size :=by simp
   obtain ⟨b,off,cap,hsv,hbl,_,_,hT⟩ :=hs.at (by omega)
   simp only [Value.slice.injEq] at hsv
   obtain ⟨rfl,_,rfl⟩ :=hsv
   obtain ⟨kv,vv,c0,c1,hk,hv⟩ :=hT _ p hpi
   have hk2 :=hk
   rw [hK] at hk2
   have sr :=fun W (h :Below w.heap.size w W) =>Mc K1 (y ::K3) k kv W (hk2.below h) hK1 hK2 (by rw [←hK];exact hpg.1.2.1)
   obtain ⟨ka,kc,rfl⟩ :=hk.shape
   have hyk : (decide ((y ::K3).head? =some k)) =decide (y=k) :=by simp
   rw [hyk] at sr
   generalize decide (y=k) =th at sr⊢
   clear e ha hb hs hg pfc hK hk2 hpg hT hpi hv hK1 hK2 hyk
   generalize hal :A.length=a at*
   generalize hkl :K1.length=kl at*
   have i0 : (0 :Int) ≤ (a :Int) :=by omega
   have i1 : (a :Int) < (T.length :Int) :=by omega
   generalize hnl :T.length=n at*
   go_enter Tryz.func56,Tryz.ntmps56
   go_wp2_with (first
    | (go_at_call 58;go_must (refine pf0.mono ?_;rintro e w1 ⟨rfl,hb1⟩;have cb1 :w1.cell? ⟨w.heap.size,0,none⟩ =some (.slice (some ⟨b,off,none⟩) n scap) := (hb1.cell (p := ⟨w.heap.size,0,none⟩) hsz).trans cbox;have hbz :=hB0.trans (hb1.mono hB0.size);have ck := (hbz.cell (p := ⟨b,off+a*2,none⟩) hbl).trans c0))
    | (go_at_call 59;go_must (refine (sr _ hbz).mono ?_;rintro e w2 ⟨rfl,hb2⟩)))
   refine bodyPost_ret (v := .tuple #[.int .i64 a, .int .i64 kl, .bool th]) (by simp [results,Tryz.results56,go_sem]) rfl ?_
   exact ⟨rfl,hbz.trans (hb2.mono hbz.size)⟩
end Go.Proofs.YthehiijgnepcfaaGreat

