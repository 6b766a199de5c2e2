/-
  11 texts of this proof in one, in build order: PMem, OpenVals, Bulk, OpenL, XOps, XPtr, XWith, XOps2, XOps3, XApply, XFlat.
-/
import Derived.Test.YtmgkcjiejmhgcaaGreatDoorRows
import Derived.ProofKit
import Derived.Deep.Slices
import Derived.Deep.SlicePairs
import Derived.Deep.Strs
import Derived.SizedLaws
import Derived.ChangeSame
import Derived.WalkKit
import Derived.WalkSpells
import Derived.WalkLawsBesides
import Derived.Deep.RegionHeld3
import Derived.Laws.Bits64b
import Derived.OwnWalk
import Derived.Laws.MakeOwn
import Derived.Test.YtmgkcjiejmhgcaaGreatDoorJ01
import Derived.Test.YtmgkcjiejmhgcaaGreatDoorJ02
import Derived.Test.YtmgkcjiejmhgcaaGreatDoorJ05
import Derived.Test.YtmgkcjiejmhgcaaGreatDoorJ13
import Derived.Test.YtmgkcjiejmhgcaaGreatDoorJ29
set_option linter.unusedSimpArgs false
set_option linter.unusedVariables false
namespace Go.Proofs.YtmgkcjiejmhgcaaGreatDoor
open Go.RowKit
end Go.Proofs.YtmgkcjiejmhgcaaGreatDoor

namespace Go.Proofs.YtmgkcjiejmhgcaaGreatDoor
open Go.RowKit Go.Deep
theorem Mv :Tryz.prog.cellsOf 32=3 :=by kernel_rfl
theorem Fp :Tryz.prog.cellsOf 3=1 :=by kernel_rfl
theorem Ca :Tryz.prog.cellsOf 9=1 :=by kernel_rfl
def V.datum {H :Type} (v :V) :DataW H := .agg [.lit (.int .i64 v.k), .lit (.int .i64 v.n), .lit (.string v.s.data.toList)]
theorem Xc : ∃f0 f1 f2 :Field,Tryz.prog.underlying 32=some (.struct #[f0,f1,f2]) ∧f0.offset=0∧f1.offset=1∧f2.offset=2∧f0.type=3∧f1.type=3∧f2.type=9 :=
 ⟨_,_,_,Tryz.underlying32,rfl,rfl,rfl,rfl,rfl,rfl⟩
section
variable {H :Type} {enc :TypeId×Value→H} {w :World} {base :Nat} {spare :Nat→Bool} {held :Bool}
theorem U7 {fuel :Nat} {cs :List Value} {x :DataW H×List MemPlace} (h :DataW.trod enc Tryz.prog w base spare held fuel 32 cs=some x) :
  ∃v :V,cs=v.cells∧v.s.size≤maxLen∧x.1=v.datum :=by
 obtain ⟨f0,f1,f2,hu,o0,o1,o2,t0,t1,t2⟩ :=Xc
 obtain ⟨y0,y1,y2,n,rfl,hl,h0,h1,h2⟩ :=trod_struct3 hu h
 rw [Mv] at hl
 rw [o0,t0,Fp] at h0
 rw [o1,t1,Fp] at h1
 rw [o2,t2,Ca] at h2
 match cs,hl with
 | [c0,c1,c2],_=>
  simp only [List.drop_zero,List.take_succ_cons,List.take_zero,List.drop_succ_cons] at h0 h1 h2
  obtain ⟨a,e0,rfl,_⟩ :=DataW.trod_int Tryz.underlying3 h0
  obtain ⟨b,e1,rfl,_⟩ :=DataW.trod_int Tryz.underlying3 h1
  obtain ⟨s,e2,rfl,hs⟩ :=DataW.trod_string Tryz.underlying9 h2
  simp only [List.cons.injEq,and_true] at e0 e1 e2
  subst e0 e1 e2
  exact ⟨⟨a,b,s⟩,rfl,hs,rfl⟩
theorem U8 {w :World} {a :Addr} {v :Value} (h :w.cell? a=some v) :a.block<w.heap.size :=by
 rcases Nat.lt_or_ge a.block w.heap.size with h' | h'
 ·exact h'
 ·simp [World.cell?,Array.getElem?_eq_none h'] at h
end
end Go.Proofs.YtmgkcjiejmhgcaaGreatDoor

namespace Go.Proofs.YtmgkcjiejmhgcaaGreatDoor
theorem Nl {H :Type} (d :DataW H) :1≤Rows.uptoBulk d :=by
 cases d with
 | lit l=>cases l<;>simp [Rows.uptoBulk]
 | nil=>simp [Rows.uptoBulk]
 | ptr d=>simp [Rows.uptoBulk]
 | slice elems spare=>simp [Rows.uptoBulk]
 | agg parts=>simp [Rows.uptoBulk]
 | iface t d=>simp [Rows.uptoBulk]
 | map entries=>simp [Rows.uptoBulk]
 | held h=>simp [Rows.uptoBulk]
theorem Mw {H :Type} (l :List (DataW H)) :l.length≤Rows.uptoBulkAll l :=by
 induction l with
 | nil=>simp [Rows.uptoBulkAll]
 | cons x r ih=>have :=Nl x;simp only [Rows.uptoBulkAll,List.length_cons];omega
end Go.Proofs.YtmgkcjiejmhgcaaGreatDoor

namespace Go.Proofs.YtmgkcjiejmhgcaaGreatDoor
open Go.RowKit Go.Deep Go.ChangeShapes
section
variable {H :Type} {enc :TypeId×Value→H} {w :World} {base :Nat} {spare :Nat→Bool} {held :Bool}
theorem R8 (a b :List (DataW H)) :Rows.uptoBulkAll (a++b) =Rows.uptoBulkAll a+Rows.uptoBulkAll b :=by
 induction a with
 | nil=>simp [Rows.uptoBulkAll]
 | cons x r ih=>simp only [List.cons_append,Rows.uptoBulkAll,ih];omega
theorem O5 {D :Nat→DataW H} : ∀ (n i :Nat),i<n→Rows.uptoBulk (D i) ≤Rows.uptoBulkAll ((List.range n).map D)
 | n+1,i,h=>by
  rw [List.range_succ,List.map_append,R8]
  rcases Nat.lt_or_eq_of_le (Nat.lt_succ_iff.1 h) with h1 | h1
  ·have :=O5 (D :=D) n i h1;omega
  ·subst h1;simp [Rows.uptoBulkAll]
theorem L6 {α :Type} {K :Elem α} {F :Nat→Prop} {f :Nat→α} {g :Nat→List Value} : ∀n :Nat,(∀i,i<n→K.R F w (f i) (g i)) →All K F w ((List.range n).map f) ((List.range n).flatMap g)
 | 0,_=>rfl
 | n+1,h=>by
  rw [List.range_succ,List.map_append,List.flatMap_append]
  refine All.append (L6 n fun i hi=>h i (by omega)) ?_
  have :=All.one (h n (by omega))
  simpa using this
theorem Hn {g :Nat→List Value} {s :Nat} : ∀ (n :Nat),(∀i,i<n→ (g i).length=s) → ((List.range n).flatMap g).length=n*s
 | 0,_=>by simp
 | n+1,h=>by
  rw [List.range_succ,List.flatMap_append,List.length_append,Hn n fun i hi=>h i (by omega)]
  simp [h n (by omega),Nat.add_mul]
theorem Nm {g :Nat→List Value} {s :Nat} : ∀ (n i :Nat),(∀i,i<n→ (g i).length=s) →i<n→ ∀j,j<s→ ((List.range n).flatMap g)[i*s+j]? = (g i)[j]?
 | n+1,i,h,hi,j,hj=>by
  have hl :=Hn (g :=g) n fun i hi=>h i (by omega)
  rw [List.range_succ,List.flatMap_append]
  rcases Nat.lt_or_eq_of_le (Nat.lt_succ_iff.1 hi) with h1 | h1
  ·rw [List.getElem?_append_left (by rw [hl];have :=Nat.mul_le_mul_right s (show i+1≤n from h1);rw [Nat.add_mul] at this;omega)]
   exact Nm n i (fun i hi=>h i (by omega)) h1 j hj
  ·subst h1
   rw [List.getElem?_append_right (by rw [hl];omega),hl]
   simp
theorem Gt {α :Type} (d0 :α) (K :Elem α) (t et :TypeId) (hu :Tryz.prog.underlying t=some (.slice et)) (hc :Tryz.prog.cellsOf et=K.size) (hK :0<K.size) (B :Nat) (Q :α→Prop)
  (each : ∀ (fuel :Nat) (cs :List Value) (x :DataW H×List MemPlace),Rows.uptoBulk x.1≤B→DataW.trod enc Tryz.prog w base spare held fuel et cs=some x→ ∃a,K.R (fun k=>k<w.heap.size) w a cs∧Q a)
  {fuel :Nat} {sv :Value} {x :DataW H×List MemPlace} (hB :Rows.uptoBulk x.1≤B) (h :DataW.trod enc Tryz.prog w base spare held fuel t [sv] =some x) :
  ∃l :List α,IsL K (fun k=>k<w.heap.size) w sv l∧ (∀a∈l,Q a) ∧l.length≤Rows.uptoBulk x.1 :=by
 rcases open_slice hu h with ⟨hcs,rfl⟩ | ⟨ad,len,cap,m,n5,D,Pl,hcs,hb,hlc,hm,hmm,rfl,hxx⟩
 ·simp only [List.cons.injEq,and_true] at hcs
  subst hcs
  exact ⟨[],IsL.nil K _ w,by simp,Nat.zero_le _⟩
 ·simp only [List.cons.injEq,and_true] at hcs
  subst hcs
  have hlm :len≤m :=by rw [hmm];split<;>omega
  have hbD :Rows.uptoBulkAll ((List.range len).map D) ≤B :=by simp only [Rows.uptoBulk] at hB;omega
  have hll :len≤Rows.uptoBulkAll ((List.range len).map D) :=by have :=Mw ((List.range len).map D);simpa using this
  have e1 : ∀i,i<len→ ∃r :α×List Value,K.R (fun k=>k<w.heap.size) w r.1 r.2∧Q r.1∧ ∀j u,r.2[j]? =some u→w.cell? (ad.add (i*K.size+j)) =some u :=by
   intro i hi
   obtain ⟨cs',h1,h2⟩ :=hxx i (by omega)
   rw [hc] at h1
   obtain ⟨_,hlen,hcell⟩ :=World.cells?_some h1
   obtain ⟨a,ha,hq⟩ :=each n5 cs' (D i,Pl i) (Nat.le_trans (O5 len i hi) hbD) h2
   refine ⟨(a,cs'),ha,hq,fun j u hj=> ?_⟩
   have hjl := (List.getElem?_eq_some_iff.1 hj).1
   simp only at hjl
   have :=hcell j (by omega)
   rw [add_add] at this
   rw [this]
   exact hj
  have :Inhabited (α×List Value) := ⟨(d0,[])⟩
  obtain ⟨f,hf⟩ :=choose_lt e1
  refine ⟨(List.range len).map fun i=> (f i).1,⟨(List.range len).flatMap fun i=> (f i).2, ?_,L6 len fun i hi=> (hf i hi).1⟩, ?_, ?_⟩
  ·have hle : ∀i,i<len→ (f i).2.length=K.size :=fun i hi=>K.len (hf i hi).1
   refine ⟨by rw [Hn len hle];simp, ?_⟩
   rcases Nat.eq_zero_or_pos len with rfl | hpos
   ·exact .inl ⟨by simp,_,cap,rfl,fun h=>by cases h⟩
   ·obtain ⟨b,off,spot⟩ :=ad
    obtain ⟨u0,hu0⟩ : ∃u,(f 0).2[0]? =some u := ⟨_,List.getElem?_eq_getElem (by rw [hle 0 hpos];exact hK)⟩
    have hc0 := (hf 0 hpos).2.2 0 u0 hu0
    have hspot :spot=none :=by simpa [Addr.add] using World.cell?_spot hc0
    subst hspot
    have hlt :b<w.heap.size :=by have :=block_lt_of_cell hc0;simpa [Addr.add] using this
    refine .inr ⟨by simpa using hpos,b,off,cap,by simp,hlt,hlt,by simpa using hlc,hm,fun j u hj=> ?_⟩
    have hjl := (List.getElem?_eq_some_iff.1 hj).1
    rw [Hn len hle] at hjl
    have hi :j/K.size<len :=Nat.div_lt_of_lt_mul (by rw [Nat.mul_comm];exact hjl)
    have hj2 :j %K.size<K.size :=Nat.mod_lt _ hK
    have ej :j/K.size*K.size+j %K.size=j :=by rw [Nat.mul_comm];exact Nat.div_add_mod j K.size
    rw [←ej,Nm len _ hle hi _ hj2] at hj
    have := (hf _ hi).2.2 _ u hj
    rw [Addr.add_lit,ej] at this
    exact this
  ·intro a ha
   obtain ⟨i,hi,rfl⟩ :=List.mem_map.1 ha
   exact (hf i (List.mem_range.1 hi)).2.1
  ·simp only [Rows.uptoBulk,List.length_map,List.length_range];omega
theorem Of :Tryz.prog.cellsOf 4=1 :=by kernel_rfl
theorem L7 :Tryz.prog.cellsOf 66=3 :=by kernel_rfl
theorem Og :Tryz.prog.cellsOf 26=1 :=by kernel_rfl
theorem P0 :Tryz.prog.cellsOf 47=2 :=by kernel_rfl
theorem U9 :Tryz.prog.cellsOf 22=1 :=by kernel_rfl
theorem P5 :Tryz.prog.cellsOf 64=3 :=by kernel_rfl
theorem Va :Tryz.prog.cellsOf 23=1 :=by kernel_rfl
theorem Xd :Tryz.prog.cellsOf 25=2 :=by kernel_rfl
theorem Z8 : ∃f0 f1 f2 :Field,Tryz.prog.underlying 66=some (.struct #[f0,f1,f2]) ∧f0.offset=0∧f1.offset=1∧f2.offset=2∧f0.type=9∧f1.type=3∧f2.type=4 :=
 ⟨_,_,_,Tryz.underlying66,rfl,rfl,rfl,rfl,rfl,rfl⟩
theorem Z9 : ∃f0 f1 f2 :Field,Tryz.prog.underlying 64=some (.struct #[f0,f1,f2]) ∧f0.offset=0∧f1.offset=1∧f2.offset=2∧f0.type=9∧f1.type=9∧f2.type=9 :=
 ⟨_,_,_,Tryz.underlying64,rfl,rfl,rfl,rfl,rfl,rfl⟩
theorem Aaa : ∃f0 f1 :Field,Tryz.prog.underlying 47=some (.struct #[f0,f1]) ∧f0.offset=0∧f1.offset=1∧f0.type=9∧f1.type=26 :=
 ⟨_,_,Tryz.underlying47,rfl,rfl,rfl,rfl⟩
theorem Aab : ∃f0 f1 :Field,Tryz.prog.underlying 25=some (.struct #[f0,f1]) ∧f0.offset=0∧f1.offset=1∧f0.type=22∧f1.type=23 :=
 ⟨_,_,Tryz.underlying25,rfl,rfl,rfl,rfl⟩
theorem R9 {fuel :Nat} {cs :List Value} {x :DataW H×List MemPlace} (h :DataW.trod enc Tryz.prog w base spare held fuel 66 cs=some x) (F :Nat→Prop) : ∃a :ColD,Bg.R F w a cs∧a.name.size≤maxLen :=by
 obtain ⟨f0,f1,f2,hu,o0,o1,o2,t0,t1,t2⟩ :=Z8
 obtain ⟨y0,y1,y2,n,rfl,hl,h0,h1,h2⟩ :=trod_struct3 hu h
 rw [L7] at hl
 rw [o0,t0,Ca] at h0
 rw [o1,t1,Fp] at h1
 rw [o2,t2,Of] at h2
 match cs,hl with
 | [c0,c1,c2],_=>
  simp only [List.drop_zero,List.take_succ_cons,List.take_zero,List.drop_succ_cons] at h0 h1 h2
  obtain ⟨s,e0,_,hs⟩ :=DataW.trod_string Tryz.underlying9 h0
  obtain ⟨b,e1,_,_⟩ :=DataW.trod_int Tryz.underlying3 h1
  obtain ⟨m,e2,_⟩ :=DataW.trod_bool Tryz.underlying4 h2
  simp only [List.cons.injEq,and_true] at e0 e1 e2
  subst e0 e1 e2
  exact ⟨⟨s,b,m⟩,rfl,hs⟩
theorem Yw {fuel :Nat} {cs :List Value} {x :DataW H×List MemPlace} (h :DataW.trod enc Tryz.prog w base spare held fuel 64 cs=some x) (F :Nat→Prop) : ∃a :IdxD,B7.R F w a cs∧a.name.size≤maxLen∧a.table.size≤maxLen∧a.col.size≤maxLen :=by
 obtain ⟨f0,f1,f2,hu,o0,o1,o2,t0,t1,t2⟩ :=Z9
 obtain ⟨y0,y1,y2,n,rfl,hl,h0,h1,h2⟩ :=trod_struct3 hu h
 rw [P5] at hl
 rw [o0,t0,Ca] at h0
 rw [o1,t1,Ca] at h1
 rw [o2,t2,Ca] at h2
 match cs,hl with
 | [c0,c1,c2],_=>
  simp only [List.drop_zero,List.take_succ_cons,List.take_zero,List.drop_succ_cons] at h0 h1 h2
  obtain ⟨s,e0,_,hs⟩ :=DataW.trod_string Tryz.underlying9 h0
  obtain ⟨b,e1,_,hb⟩ :=DataW.trod_string Tryz.underlying9 h1
  obtain ⟨m,e2,_,hm⟩ :=DataW.trod_string Tryz.underlying9 h2
  simp only [List.cons.injEq,and_true] at e0 e1 e2
  subst e0 e1 e2
  exact ⟨⟨s,b,m⟩,rfl,hs,hb,hm⟩
end
end Go.Proofs.YtmgkcjiejmhgcaaGreatDoor

namespace Go.Proofs.YtmgkcjiejmhgcaaGreatDoor
open Go.RowKit
end Go.Proofs.YtmgkcjiejmhgcaaGreatDoor

namespace Go.Proofs.YtmgkcjiejmhgcaaGreatDoor
open Go.RowKit
def Vb (C :Nat) (w :World) (e :E) (p :Value) :Prop :=
 ∃ (b o :Nat) (op xk xn :Int) (xs s name :Wd) (n :Int) (ao :Option Addr) (c :Nat) (l :List E),p= .pointer (some ⟨b,o,none⟩) ∧b<C∧e= .mk op ⟨xk,xn,xs⟩ s name n l∧
  (w.cell? ⟨b,o,none⟩ =some (.int .i64 op) ∧w.cell? ⟨b,o+1,none⟩ =some (.int .i64 xk) ∧w.cell? ⟨b,o+2,none⟩ =some (.int .i64 xn) ∧w.cell? ⟨b,o+3,none⟩ =some (.string xs) ∧w.cell? ⟨b,o+4,none⟩ =some (.string s) ∧w.cell? ⟨b,o+5,none⟩ =some (.string name) ∧w.cell? ⟨b,o+6,none⟩ =some (.int .i64 n) ∧w.cell? ⟨b,o+7,none⟩ =some (.slice ao l.length c)) ∧
  Gj (fun k=>k<C) w (.slice ao l.length c) l
theorem Vb.keep {C :Nat} {w w' :World} {e :E} {p :Value} (h :Vb C w e p) (hb :Below C w w') :Vb C w' e p :=by
 obtain ⟨b,o,op,xk,xn,xs,s,name,n,ao,c,l,h1,h2,h3,⟨c0,c1,c2,c3,c4,c5,c6,c7⟩,h4⟩ :=h
 have g : ∀o,w'.cell? ⟨b,o,none⟩ =w.cell? ⟨b,o,none⟩ :=fun o=>hb.cell (p := ⟨b,o,none⟩) h2
 exact ⟨b,o,op,xk,xn,xs,s,name,n,ao,c,l,h1,h2,h3,⟨(g _).trans c0,(g _).trans c1,(g _).trans c2,(g _).trans c3,(g _).trans c4,(g _).trans c5,(g _).trans c6,(g _).trans c7⟩,h4.keep (Ag hb)⟩
def Aaz (C :Nat) (w :World) (L :List E) (P :List Value) :Prop := ∀ (i :Nat) (e :E),L[i]? =some e→ ∃p,P[i]? =some p∧Vb C w e p
theorem Aaz.keep {C :Nat} {w w' :World} {L :List E} {P :List Value} (h :Aaz C w L P) (hb :Below C w w') :Aaz C w' L P :=fun i e hi=>by
 obtain ⟨p,h1,h2⟩ :=h i e hi
 exact ⟨p,h1,h2.keep hb⟩
end Go.Proofs.YtmgkcjiejmhgcaaGreatDoor

namespace Go.Proofs.YtmgkcjiejmhgcaaGreatDoor
open Go.RowKit
end Go.Proofs.YtmgkcjiejmhgcaaGreatDoor

namespace Go.Proofs.YtmgkcjiejmhgcaaGreatDoor
open Go.RowKit
end Go.Proofs.YtmgkcjiejmhgcaaGreatDoor

namespace Go.Proofs.YtmgkcjiejmhgcaaGreatDoor
open Go.RowKit
end Go.Proofs.YtmgkcjiejmhgcaaGreatDoor

namespace Go.Proofs.YtmgkcjiejmhgcaaGreatDoor
open Go.RowKit
end Go.Proofs.YtmgkcjiejmhgcaaGreatDoor

namespace Go.Proofs.YtmgkcjiejmhgcaaGreatDoor
open Go.RowKit
mutual
def Jq :E→Prop
 | .mk _ x _ _ _ l=>x.s.size≤maxLen∧Nn l
def Nn :List E→Prop
 | [] =>True
 | e ::l=>Jq e∧Nn l
end
def No (row :List V) (L :List E) (r :Nat) (w :World) (g :Nat) :Prop :=
 ∃arr :Array Value,w.heap[g]? =some (.cells arr 32 (0,0)) ∧arr.size=L.length*3∧
  ∀ (j :Nat) (x :E),r≤j→L[j]? =some x→arr[j*3]? =some (.int .i64 (ev row x).k) ∧arr[j*3+1]? =some (.int .i64 (ev row x).n) ∧arr[j*3+2]? =some (.string (ev row x).s)
theorem No.keep {row :List V} {L :List E} {r :Nat} {w w' :World} {g :Nat} (h :No row L r w g) (hb :w'.heap[g]? =w.heap[g]?) :No row L r w' g :=by
 obtain ⟨arr,h1,h2⟩ :=h
 exact ⟨arr,hb.trans h1,h2⟩
theorem No.cell {row :List V} {L :List E} {r :Nat} {w :World} {g :Nat} (h :No row L r w g) {j :Nat} (hj :j<L.length*3) : ∃u,w.cell? ⟨g,j,none⟩ =some u :=by
 obtain ⟨arr,h1,h2,_⟩ :=h
 exact ⟨_,Aa h1 (Array.getElem?_eq_getElem (by omega :j<arr.size))⟩
theorem No.free {row :List V} {L :List E} {r :Nat} {w :World} {g :Nat} (h :No row L r w g) (o :Nat) :w.frozen? ⟨g,o,none⟩ =false :=by
 obtain ⟨arr,h1,_⟩ :=h
 simp [World.frozen?,h1]
theorem No.set {row :List V} {L :List E} {r :Nat} {w :World} {g :Nat} (h :No row L (r+1) w g) {x :E} (hx :L[r]? =some x) (v :V) (hv :v=ev row x) :
  No row L r (((w.setCell ⟨g,r*3,none⟩ (.int .i64 v.k)).setCell ⟨g,r*3+1,none⟩ (.int .i64 v.n)).setCell ⟨g,r*3+2,none⟩ (.string v.s)) g :=by
 obtain ⟨arr,h1,h2,h3⟩ :=h
 have hr :r<L.length := (List.getElem?_eq_some_iff.1 hx).1
 refine ⟨_,Cl (Cl (Cl h1 _ _) _ _) _ _,by simp [h2],fun j y hj hy=> ?_⟩
 by_cases hjr :j=r
 ·subst hjr
  rw [hx] at hy
  cases hy
  subst hv
  refine ⟨?_, ?_, ?_⟩
  all_goals simp [Array.getElem?_setIfInBounds,h2];try omega
 ·obtain ⟨a0,a1,a2⟩ :=h3 j y (by omega) hy
  have n0 :r*3≠j*3 :=by omega
  have n1 :r*3+1≠j*3 :=by omega
  have n2 :r*3+2≠j*3 :=by omega
  have n3 :r*3≠j*3+1 :=by omega
  have n4 :r*3+1≠j*3+1 :=by omega
  have n5 :r*3+2≠j*3+1 :=by omega
  have n6 :r*3≠j*3+2 :=by omega
  have n7 :r*3+1≠j*3+2 :=by omega
  have n8 :r*3+2≠j*3+2 :=by omega
  refine ⟨?_, ?_, ?_⟩
  ·rw [Array.getElem?_setIfInBounds_ne n2,Array.getElem?_setIfInBounds_ne n1,Array.getElem?_setIfInBounds_ne n0];exact a0
  ·rw [Array.getElem?_setIfInBounds_ne n5,Array.getElem?_setIfInBounds_ne n4,Array.getElem?_setIfInBounds_ne n3];exact a1
  ·rw [Array.getElem?_setIfInBounds_ne n8,Array.getElem?_setIfInBounds_ne n7,Array.getElem?_setIfInBounds_ne n6];exact a2
theorem No.holds {row :List V} {e :E} {L :List E} {r :Nat} {w :World} {g :Nat} (h :No row L (r+1) w g) (hQ :Queue e L L.length) {x :E} (hx :L[r]? =some x) :K6 w g (beg L r*3) (x.kids.map (ev row)) :=by
 obtain ⟨arr,h1,h2,h3⟩ :=h
 intro i v hi
 rw [List.getElem?_map] at hi
 cases hk :x.kids[i]? with
 | none=>rw [hk] at hi;cases hi
 | some y=>
  rw [hk] at hi
  simp at hi
  subst hi
  have hr :r<L.length := (List.getElem?_eq_some_iff.1 hx).1
  have hb :=hQ.behind hr
  obtain ⟨a0,a1,a2⟩ :=h3 (beg L r+i) y (by omega) (hQ.at hx hk)
  have e0 :beg L r*3+i*3= (beg L r+i) *3 :=by omega
  rw [e0]
  exact ⟨Aa h1 a0,Aa h1 a1,Aa h1 a2⟩
end Go.Proofs.YtmgkcjiejmhgcaaGreatDoor

