/-
  5 texts of this proof in one, in build order: OpenVals, Bulk, OpenL, XOpen, OpenS.
-/
import Derived.Test.YthehiijgnepcfaaGreatRows
import Derived.ProofKit
import Derived.Deep.Slices
import Derived.Deep.SlicePairs
import Derived.Deep.Strs
import Derived.SizedLaws
import Derived.ChangeSame
import Derived.Test.YthehiijgnepcfaaGreatJ05
import Derived.Test.YthehiijgnepcfaaGreatJ07
import Derived.Test.YthehiijgnepcfaaGreatJ12
import Derived.Test.YthehiijgnepcfaaGreatJ25
import Derived.Test.YthehiijgnepcfaaGreatJ27
set_option linter.unusedSimpArgs false
set_option linter.unusedVariables false
namespace Go.Proofs.YthehiijgnepcfaaGreat
open Go.RowKit Go.Deep
theorem Hl :Tryz.prog.cellsOf 32=3 :=by kernel_rfl
theorem Fe :Tryz.prog.cellsOf 3=1 :=by kernel_rfl
theorem Bq :Tryz.prog.cellsOf 9=1 :=by kernel_rfl
theorem Aib :Tryz.prog.bytesOf 32=32 :=by kernel_rfl
def V.datum {H :Type} (v :V) :DataW H := .agg [.lit (.int .i64 v.k), .lit (.int .i64 v.n), .lit (.string v.s.data.toList)]
theorem Adq : ∃f0 f1 f2 :Field,Tryz.prog.underlying 32=some (.struct #[f0,f1,f2]) ∧f0.offset=0∧f1.offset=1∧f2.offset=2∧f0.type=3∧f1.type=3∧f2.type=9 :=
 ⟨_,_,_,Tryz.underlying32,rfl,rfl,rfl,rfl,rfl,rfl⟩
section
variable {H :Type} {enc :TypeId×Value→H} {w :World} {base :Nat} {spare :Nat→Bool} {held :Bool}
theorem Ki {fuel :Nat} {cs :List Value} {x :DataW H×List MemPlace} (h :DataW.trod enc Tryz.prog w base spare held fuel 32 cs=some x) :
  ∃v :V,cs=v.cells∧v.s.size≤maxLen∧x.1=v.datum :=by
 obtain ⟨f0,f1,f2,hu,o0,o1,o2,t0,t1,t2⟩ :=Adq
 obtain ⟨y0,y1,y2,n,rfl,hl,h0,h1,h2⟩ :=trod_struct3 hu h
 rw [Hl] at hl
 rw [o0,t0,Fe] at h0
 rw [o1,t1,Fe] at h1
 rw [o2,t2,Bq] at h2
 match cs,hl with
 | [c0,c1,c2],_=>
  simp only [List.drop_zero,List.take_succ_cons,List.take_zero,List.drop_succ_cons] at h0 h1 h2
  obtain ⟨a,e0,rfl,_⟩ :=DataW.trod_int Tryz.underlying3 h0
  obtain ⟨b,e1,rfl,_⟩ :=DataW.trod_int Tryz.underlying3 h1
  obtain ⟨s,e2,rfl,hs⟩ :=DataW.trod_string Tryz.underlying9 h2
  simp only [List.cons.injEq,and_true] at e0 e1 e2
  subst e0 e1 e2
  exact ⟨⟨a,b,s⟩,rfl,hs,rfl⟩
theorem M2 {w :World} {a :Addr} {v :Value} (h :w.cell? a=some v) :a.block<w.heap.size :=by
 rcases Nat.lt_or_ge a.block w.heap.size with h' | h'
 ·exact h'
 ·simp [World.cell?,Array.getElem?_eq_none h'] at h
theorem Ai9 {fuel :Nat} {sv :Value} {x :DataW H×List MemPlace} (h :DataW.trod enc Tryz.prog w base spare held fuel 55 [sv] =some x) :
  ∃L :List V,Bp w sv L∧ (∀v∈L,v.s.size≤maxLen) ∧ ((x.1= .nil∧L= []) ∨ ∃sp,x.1= .slice (L.map V.datum) sp) :=by
 rcases open_slice Tryz.underlying55 h with ⟨hcs,rfl⟩ | ⟨a,len,cap,m,n,D,Pl,hcs,hb,hl,hm,hmm,rfl,hx⟩
 ·simp only [List.cons.injEq,and_true] at hcs
  subst hcs
  exact ⟨[], .inl ⟨⟨none,0,rfl,fun _=>rfl⟩,rfl⟩,by simp, .inl ⟨rfl,rfl⟩⟩
 ·simp only [List.cons.injEq,and_true] at hcs
  subst hcs
  have hlm :len≤m :=by rw [hmm];split<;>omega
  have each : ∀i,i<len→ ∃v :V,w.cell? (a.add (i*3)) =some (.int .i64 v.k) ∧w.cell? (a.add (i*3+1)) =some (.int .i64 v.n) ∧w.cell? (a.add (i*3+2)) =some (.string v.s) ∧v.s.size≤maxLen∧D i=v.datum :=by
   intro i hi
   obtain ⟨cs',h1,h2⟩ :=hx i (by omega)
   rw [Hl] at h1
   obtain ⟨_,hlen,hcell⟩ :=World.cells?_some h1
   obtain ⟨v,rfl,hs,hd⟩ :=Ki h2
   have e0 :=hcell 0 (by omega)
   have e1 :=hcell 1 (by omega)
   have e2 :=hcell 2 (by omega)
   rw [add_add] at e0 e1 e2
   exact ⟨v,by simpa [V.cells] using e0,by simpa [V.cells] using e1,by simpa [V.cells] using e2,hs,hd⟩
  have :Inhabited V := ⟨zero⟩
  obtain ⟨f,hf⟩ :=choose_lt each
  refine ⟨(List.range len).map f, ?_, ?_, .inr ⟨(List.range (m - len)).map fun j=>D (len+j), ?_⟩⟩
  ·rcases Nat.eq_zero_or_pos len with rfl | hpos
   ·exact .inl ⟨⟨_,_,rfl,fun h=>by cases h⟩,by simp⟩
   ·obtain ⟨b,off,spot⟩ :=a
    have hc := (hf 0 hpos).1
    have hspot :spot=none :=by simpa [Addr.add] using World.cell?_spot hc
    subst hspot
    refine .inr ⟨b,off,cap,by simp, ?_, ?_⟩
    ·have :=M2 hc
     simpa [Addr.add] using this
    ·intro i v hi
     have hil :i<len :=by
      have := (List.getElem?_eq_some_iff.1 hi).1
      simpa using this
     have hv :v=f i :=by
      rw [List.getElem?_map,List.getElem?_range hil] at hi
      simpa using hi.symm
     subst hv
     obtain ⟨g0,g1,g2,_⟩ :=hf i hil
     rw [Addr.add_lit] at g0 g1 g2
     exact ⟨g0,by rw [Nat.add_assoc];exact g1,by rw [Nat.add_assoc];exact g2⟩
  ·intro v hv
   obtain ⟨i,hi,rfl⟩ :=List.mem_map.1 hv
   exact (hf i (List.mem_range.1 hi)).2.2.2.1
  ·have e : (List.range len).map D= ((List.range len).map f).map V.datum :=by
    rw [List.map_map]
    exact List.map_congr_left fun i hi=> (hf i (List.mem_range.1 hi)).2.2.2.2
   show DataW.slice _ _=_
   rw [e]
end
end Go.Proofs.YthehiijgnepcfaaGreat

namespace Go.Proofs.YthehiijgnepcfaaGreat
theorem K9 {H :Type} (d :DataW H) :1≤Rows.uptoBulk d :=by
 cases d with
 | lit l=>cases l<;>simp [Rows.uptoBulk]
 | nil=>simp [Rows.uptoBulk]
 | ptr d=>simp [Rows.uptoBulk]
 | slice elems spare=>simp [Rows.uptoBulk]
 | agg parts=>simp [Rows.uptoBulk]
 | iface t d=>simp [Rows.uptoBulk]
 | map entries=>simp [Rows.uptoBulk]
 | held h=>simp [Rows.uptoBulk]
theorem P2 {H :Type} (l :List (DataW H)) :l.length≤Rows.uptoBulkAll l :=by
 induction l with
 | nil=>simp [Rows.uptoBulkAll]
 | cons x r ih=>have :=K9 x;simp only [Rows.uptoBulkAll,List.length_cons];omega
theorem Aix {H :Type} (elems spare :List (DataW H)) :elems.length≤Rows.uptoBulk (.slice elems spare) :=by
 have h1 :=P2 elems
 simp only [Rows.uptoBulk]
 omega
end Go.Proofs.YthehiijgnepcfaaGreat

namespace Go.Proofs.YthehiijgnepcfaaGreat
open Go.RowKit Go.Deep Go.ChangeShapes
section
variable {H :Type} {enc :TypeId×Value→H} {w :World} {base :Nat} {spare :Nat→Bool} {held :Bool}
theorem Afm (a b :List (DataW H)) :Rows.uptoBulkAll (a++b) =Rows.uptoBulkAll a+Rows.uptoBulkAll b :=by
 induction a with
 | nil=>simp [Rows.uptoBulkAll]
 | cons x r ih=>simp only [List.cons_append,Rows.uptoBulkAll,ih];omega
theorem Zs {D :Nat→DataW H} : ∀ (n i :Nat),i<n→Rows.uptoBulk (D i) ≤Rows.uptoBulkAll ((List.range n).map D)
 | n+1,i,h=>by
  rw [List.range_succ,List.map_append,Afm]
  rcases Nat.lt_or_eq_of_le (Nat.lt_succ_iff.1 h) with h1 | h1
  ·have :=Zs (D :=D) n i h1;omega
  ·subst h1;simp [Rows.uptoBulkAll]
theorem Us {α :Type} {K :Elem α} {F :Nat→Prop} {f :Nat→α} {g :Nat→List Value} : ∀n :Nat,(∀i,i<n→K.R F w (f i) (g i)) →All K F w ((List.range n).map f) ((List.range n).flatMap g)
 | 0,_=>rfl
 | n+1,h=>by
  rw [List.range_succ,List.map_append,List.flatMap_append]
  refine All.append (Us n fun i hi=>h i (by omega)) ?_
  have :=All.one (h n (by omega))
  simpa using this
theorem M3 {g :Nat→List Value} {s :Nat} : ∀ (n :Nat),(∀i,i<n→ (g i).length=s) → ((List.range n).flatMap g).length=n*s
 | 0,_=>by simp
 | n+1,h=>by
  rw [List.range_succ,List.flatMap_append,List.length_append,M3 n fun i hi=>h i (by omega)]
  simp [h n (by omega),Nat.add_mul]
theorem Xo {g :Nat→List Value} {s :Nat} : ∀ (n i :Nat),(∀i,i<n→ (g i).length=s) →i<n→ ∀j,j<s→ ((List.range n).flatMap g)[i*s+j]? = (g i)[j]?
 | n+1,i,h,hi,j,hj=>by
  have hl :=M3 (g :=g) n fun i hi=>h i (by omega)
  rw [List.range_succ,List.flatMap_append]
  rcases Nat.lt_or_eq_of_le (Nat.lt_succ_iff.1 hi) with h1 | h1
  ·rw [List.getElem?_append_left (by rw [hl];have :=Nat.mul_le_mul_right s (show i+1≤n from h1);rw [Nat.add_mul] at this;omega)]
   exact Xo n i (fun i hi=>h i (by omega)) h1 j hj
  ·subst h1
   rw [List.getElem?_append_right (by rw [hl];omega),hl]
   simp
theorem Es {α :Type} (d0 :α) (K :Elem α) (t et :TypeId) (hu :Tryz.prog.underlying t=some (.slice et)) (hc :Tryz.prog.cellsOf et=K.size) (hK :0<K.size) (B :Nat) (Q :α→Prop)
  (each : ∀ (fuel :Nat) (cs :List Value) (x :DataW H×List MemPlace),Rows.uptoBulk x.1≤B→DataW.trod enc Tryz.prog w base spare held fuel et cs=some x→ ∃a,K.R (fun k=>k<w.heap.size) w a cs∧Q a)
  {fuel :Nat} {sv :Value} {x :DataW H×List MemPlace} (hB :Rows.uptoBulk x.1≤B) (h :DataW.trod enc Tryz.prog w base spare held fuel t [sv] =some x) :
  ∃l :List α,IsL K (fun k=>k<w.heap.size) w sv l∧ (∀a∈l,Q a) ∧l.length≤Rows.uptoBulk x.1 :=by
 rcases open_slice hu h with ⟨hcs,rfl⟩ | ⟨ad,len,cap,m,n5,D,Pl,hcs,hb,hlc,hm,hmm,rfl,hxx⟩
 ·simp only [List.cons.injEq,and_true] at hcs
  subst hcs
  exact ⟨[],IsL.nil K _ w,by simp,Nat.zero_le _⟩
 ·simp only [List.cons.injEq,and_true] at hcs
  subst hcs
  have hlm :len≤m :=by rw [hmm];split<;>omega
  have hbD :Rows.uptoBulkAll ((List.range len).map D) ≤B :=by simp only [Rows.uptoBulk] at hB;omega
  have hll :len≤Rows.uptoBulkAll ((List.range len).map D) :=by have :=P2 ((List.range len).map D);simpa using this
  have e1 : ∀i,i<len→ ∃r :α×List Value,K.R (fun k=>k<w.heap.size) w r.1 r.2∧Q r.1∧ ∀j u,r.2[j]? =some u→w.cell? (ad.add (i*K.size+j)) =some u :=by
   intro i hi
   obtain ⟨cs',h1,h2⟩ :=hxx i (by omega)
   rw [hc] at h1
   obtain ⟨_,hlen,hcell⟩ :=World.cells?_some h1
   obtain ⟨a,ha,hq⟩ :=each n5 cs' (D i,Pl i) (Nat.le_trans (Zs len i hi) hbD) h2
   refine ⟨(a,cs'),ha,hq,fun j u hj=> ?_⟩
   have hjl := (List.getElem?_eq_some_iff.1 hj).1
   simp only at hjl
   have :=hcell j (by omega)
   rw [add_add] at this
   rw [this]
   exact hj
  have :Inhabited (α×List Value) := ⟨(d0,[])⟩
  obtain ⟨f,hf⟩ :=choose_lt e1
  refine ⟨(List.range len).map fun i=> (f i).1,⟨(List.range len).flatMap fun i=> (f i).2, ?_,Us len fun i hi=> (hf i hi).1⟩, ?_, ?_⟩
  ·have hle : ∀i,i<len→ (f i).2.length=K.size :=fun i hi=>K.len (hf i hi).1
   refine ⟨by rw [M3 len hle];simp, ?_⟩
   rcases Nat.eq_zero_or_pos len with rfl | hpos
   ·exact .inl ⟨by simp,_,cap,rfl,fun h=>by cases h⟩
   ·obtain ⟨b,off,spot⟩ :=ad
    obtain ⟨u0,hu0⟩ : ∃u,(f 0).2[0]? =some u := ⟨_,List.getElem?_eq_getElem (by rw [hle 0 hpos];exact hK)⟩
    have hc0 := (hf 0 hpos).2.2 0 u0 hu0
    have hspot :spot=none :=by simpa [Addr.add] using World.cell?_spot hc0
    subst hspot
    have hlt :b<w.heap.size :=by have :=block_lt_of_cell hc0;simpa [Addr.add] using this
    refine .inr ⟨by simpa using hpos,b,off,cap,by simp,hlt,hlt,by simpa using hlc,hm,fun j u hj=> ?_⟩
    have hjl := (List.getElem?_eq_some_iff.1 hj).1
    rw [M3 len hle] at hjl
    have hi :j/K.size<len :=Nat.div_lt_of_lt_mul (by rw [Nat.mul_comm];exact hjl)
    have hj2 :j %K.size<K.size :=Nat.mod_lt _ hK
    have ej :j/K.size*K.size+j %K.size=j :=by rw [Nat.mul_comm];exact Nat.div_add_mod j K.size
    rw [←ej,Xo len _ hle hi _ hj2] at hj
    have := (hf _ hi).2.2 _ u hj
    rw [Addr.add_lit,ej] at this
    exact this
  ·intro a ha
   obtain ⟨i,hi,rfl⟩ :=List.mem_map.1 ha
   exact (hf i (List.mem_range.1 hi)).2.1
  ·simp only [Rows.uptoBulk,List.length_map,List.length_range];omega
theorem Xp :Tryz.prog.cellsOf 55=1 :=by kernel_rfl
theorem Sg :Tryz.prog.cellsOf 4=1 :=by kernel_rfl
theorem Ov :Tryz.prog.cellsOf 63=3 :=by kernel_rfl
theorem Sh :Tryz.prog.cellsOf 26=1 :=by kernel_rfl
theorem Ut :Tryz.prog.cellsOf 43=2 :=by kernel_rfl
theorem Abe :Tryz.prog.cellsOf 22=1 :=by kernel_rfl
theorem Uu :Tryz.prog.cellsOf 89=3 :=by kernel_rfl
theorem Abf :Tryz.prog.cellsOf 23=1 :=by kernel_rfl
theorem Adr :Tryz.prog.cellsOf 25=2 :=by kernel_rfl
theorem Ag0 : ∃f0 f1 f2 :Field,Tryz.prog.underlying 63=some (.struct #[f0,f1,f2]) ∧f0.offset=0∧f1.offset=1∧f2.offset=2∧f0.type=9∧f1.type=3∧f2.type=4 :=
 ⟨_,_,_,Tryz.underlying63,rfl,rfl,rfl,rfl,rfl,rfl⟩
theorem Ag1 : ∃f0 f1 f2 :Field,Tryz.prog.underlying 89=some (.struct #[f0,f1,f2]) ∧f0.offset=0∧f1.offset=1∧f2.offset=2∧f0.type=9∧f1.type=9∧f2.type=9 :=
 ⟨_,_,_,Tryz.underlying89,rfl,rfl,rfl,rfl,rfl,rfl⟩
theorem Ag2 : ∃f0 f1 :Field,Tryz.prog.underlying 43=some (.struct #[f0,f1]) ∧f0.offset=0∧f1.offset=1∧f0.type=9∧f1.type=26 :=
 ⟨_,_,Tryz.underlying43,rfl,rfl,rfl,rfl⟩
theorem Ag3 : ∃f0 f1 :Field,Tryz.prog.underlying 25=some (.struct #[f0,f1]) ∧f0.offset=0∧f1.offset=1∧f0.type=22∧f1.type=23 :=
 ⟨_,_,Tryz.underlying25,rfl,rfl,rfl,rfl⟩
theorem Xq {fuel :Nat} {cs :List Value} {x :DataW H×List MemPlace} (h :DataW.trod enc Tryz.prog w base spare held fuel 63 cs=some x) (F :Nat→Prop) : ∃a :ColD,Cc.R F w a cs∧a.name.size≤maxLen :=by
 obtain ⟨f0,f1,f2,hu,o0,o1,o2,t0,t1,t2⟩ :=Ag0
 obtain ⟨y0,y1,y2,n,rfl,hl,h0,h1,h2⟩ :=trod_struct3 hu h
 rw [Ov] at hl
 rw [o0,t0,Bq] at h0
 rw [o1,t1,Fe] at h1
 rw [o2,t2,Sg] at h2
 match cs,hl with
 | [c0,c1,c2],_=>
  simp only [List.drop_zero,List.take_succ_cons,List.take_zero,List.drop_succ_cons] at h0 h1 h2
  obtain ⟨s,e0,_,hs⟩ :=DataW.trod_string Tryz.underlying9 h0
  obtain ⟨b,e1,_,_⟩ :=DataW.trod_int Tryz.underlying3 h1
  obtain ⟨m,e2,_⟩ :=DataW.trod_bool Tryz.underlying4 h2
  simp only [List.cons.injEq,and_true] at e0 e1 e2
  subst e0 e1 e2
  exact ⟨⟨s,b,m⟩,rfl,hs⟩
theorem Afn {fuel :Nat} {cs :List Value} {x :DataW H×List MemPlace} (h :DataW.trod enc Tryz.prog w base spare held fuel 89 cs=some x) (F :Nat→Prop) : ∃a :IdxD,Fg.R F w a cs∧a.name.size≤maxLen∧a.table.size≤maxLen∧a.col.size≤maxLen :=by
 obtain ⟨f0,f1,f2,hu,o0,o1,o2,t0,t1,t2⟩ :=Ag1
 obtain ⟨y0,y1,y2,n,rfl,hl,h0,h1,h2⟩ :=trod_struct3 hu h
 rw [Uu] at hl
 rw [o0,t0,Bq] at h0
 rw [o1,t1,Bq] at h1
 rw [o2,t2,Bq] at h2
 match cs,hl with
 | [c0,c1,c2],_=>
  simp only [List.drop_zero,List.take_succ_cons,List.take_zero,List.drop_succ_cons] at h0 h1 h2
  obtain ⟨s,e0,_,hs⟩ :=DataW.trod_string Tryz.underlying9 h0
  obtain ⟨b,e1,_,hb⟩ :=DataW.trod_string Tryz.underlying9 h1
  obtain ⟨m,e2,_,hm⟩ :=DataW.trod_string Tryz.underlying9 h2
  simp only [List.cons.injEq,and_true] at e0 e1 e2
  subst e0 e1 e2
  exact ⟨⟨s,b,m⟩,rfl,hs,hb,hm⟩
theorem Afo {fuel :Nat} {cs :List Value} {x :DataW H×List MemPlace} (h :DataW.trod enc Tryz.prog w base spare held fuel 43 cs=some x) : ∃a :TabD,Cq.R (fun k=>k<w.heap.size) w a cs∧L5 a :=by
 obtain ⟨f0,f1,hu,o0,o1,t0,t1⟩ :=Ag2
 obtain ⟨y0,y1,n,rfl,hl,h0,h1⟩ :=trod_struct2 hu h
 rw [Ut] at hl
 rw [o0,t0,Bq] at h0
 rw [o1,t1,Sh] at h1
 match cs,hl with
 | [c0,c1],_=>
  simp only [List.drop_zero,List.take_succ_cons,List.take_zero,List.drop_succ_cons] at h0 h1
  obtain ⟨s,e0,_,hs⟩ :=DataW.trod_string Tryz.underlying9 h0
  obtain ⟨l,hl,hq,_⟩ :=Es (⟨noW,0,false⟩ :ColD) Cc 26 63 Tryz.underlying26 Ov (by decide) _ (fun a=>a.name.size≤maxLen) (fun fuel cs x _ hx=>Xq hx _) (Nat.le_refl _) h1
  simp only [List.cons.injEq,and_true] at e0
  subst e0
  exact ⟨⟨s,l⟩,⟨c1,rfl,hl⟩,hs,hq⟩
theorem Afp {fuel :Nat} {cs :List Value} {x :DataW H×List MemPlace} (h :DataW.trod enc Tryz.prog w base spare held fuel 25 cs=some x) : ∃c :CatD,Cz (fun k=>k<w.heap.size) w c (.agg cs.toArray) ∧Gv c :=by
 obtain ⟨f0,f1,hu,o0,o1,t0,t1⟩ :=Ag3
 obtain ⟨y0,y1,n,rfl,hl,h0,h1⟩ :=trod_struct2 hu h
 rw [Adr] at hl
 rw [o0,t0,Abe] at h0
 rw [o1,t1,Abf] at h1
 match cs,hl with
 | [c0,c1],_=>
  simp only [List.drop_zero,List.take_succ_cons,List.take_zero,List.drop_succ_cons] at h0 h1
  obtain ⟨l,hl,hq,_⟩ :=Es (⟨noW,[]⟩ :TabD) Cq 22 43 Tryz.underlying22 Ut (by decide) _ L5 (fun fuel cs x _ hx=>Afo hx) (Nat.le_refl _) h0
  obtain ⟨m,hm,hr,_⟩ :=Es (⟨noW,noW,noW⟩ :IdxD) Fg 23 89 Tryz.underlying23 Uu (by decide) _ (fun a=>a.name.size≤maxLen∧a.table.size≤maxLen∧a.col.size≤maxLen) (fun fuel cs x _ hx=>Afn hx _) (Nat.le_refl _) h1
  exact ⟨⟨l,m⟩,⟨c0,c1,rfl,hl,hm⟩,hq,hr⟩
def Xr (B :Nat) (r :List V) :Prop := (∀v∈r,v.s.size≤maxLen) ∧r.length≤B
theorem Afq {B fuel :Nat} {cs :List Value} {x :DataW H×List MemPlace} (hB :Rows.uptoBulk x.1≤B) (h :DataW.trod enc Tryz.prog w base spare held fuel 55 cs=some x) : ∃r :List V,E9.R (fun k=>k<w.heap.size) w r cs∧Xr B r :=by
 obtain ⟨sv,rfl⟩ : ∃sv,cs= [sv] :=by
  rcases open_slice Tryz.underlying55 h with ⟨hcs,_⟩ | ⟨ad,len,cap,m,n5,D,Pl,hcs,_⟩
  ·exact ⟨_,hcs⟩
  ·exact ⟨_,hcs⟩
 obtain ⟨l,hl,hq,hn⟩ :=Es zero Mj 55 32 Tryz.underlying55 Hl (by decide) _ (fun v=>v.s.size≤maxLen) (fun fuel cs x _ hx=>by
  obtain ⟨v,h1,h2,_⟩ :=Ki hx
  exact ⟨v,h1,h2⟩) (Nat.le_refl _) h
 exact ⟨l,⟨sv,rfl,hl⟩,hq,Nat.le_trans hn hB⟩
theorem Ads {fuel :Nat} {sv :Value} {x :DataW H×List MemPlace} (h :DataW.trod enc Tryz.prog w base spare held fuel 37 [sv] =some x) : ∃l :List (List V),IsL E9 (fun k=>k<w.heap.size) w sv l∧ (∀r∈l,Xr (Rows.uptoBulk x.1) r) ∧l.length≤Rows.uptoBulk x.1 :=
 Es ([] :List V) E9 37 55 Tryz.underlying37 Xp (by decide) _ (Xr (Rows.uptoBulk x.1)) (fun fuel cs y hy hx=>Afq hy hx) (Nat.le_refl _) h
end
end Go.Proofs.YthehiijgnepcfaaGreat

namespace Go.Proofs.YthehiijgnepcfaaGreat
open Go.RowKit Go.Deep Go.ChangeShapes
theorem Ga :Tryz.prog.cellsOf 34=8 :=by kernel_rfl
theorem Hm :Tryz.prog.cellsOf 30=1 :=by kernel_rfl
theorem Xs : ∃f0 f1 f2 f3 f4 f5 :Field,Tryz.prog.underlying 34=some (.struct #[f0,f1,f2,f3,f4,f5]) ∧ (f0.offset=0∧f1.offset=1∧f2.offset=4∧f3.offset=5∧f4.offset=6∧f5.offset=7) ∧
  (f0.type=3∧f1.type=32∧f2.type=9∧f3.type=9∧f4.type=3∧f5.type=30) :=
 ⟨_,_,_,_,_,_,Tryz.underlying34,⟨rfl,rfl,rfl,rfl,rfl,rfl⟩,⟨rfl,rfl,rfl,rfl,rfl,rfl⟩⟩
section
variable {H :Type} {enc :TypeId×Value→H} {w :World} {base :Nat} {spare :Nat→Bool} {held :Bool}
theorem Si {t :TypeId} {f0 f1 f2 f3 f4 f5 :Field} {fuel :Nat} {cs :List Value} {x :DataW H×List MemPlace} (ht :Tryz.prog.underlying t=some (.struct #[f0,f1,f2,f3,f4,f5])) (h :DataW.trod enc Tryz.prog w base spare held fuel t cs=some x) :
  ∃y0 y1 y2 y3 y4 y5 n,x.1= .agg [y0.1,y1.1,y2.1,y3.1,y4.1,y5.1] ∧cs.length=Tryz.prog.cellsOf t∧
   DataW.trod enc Tryz.prog w base spare held n f0.type ((cs.drop f0.offset).take (Tryz.prog.cellsOf f0.type)) =some y0∧DataW.trod enc Tryz.prog w base spare held n f1.type ((cs.drop f1.offset).take (Tryz.prog.cellsOf f1.type)) =some y1∧
   DataW.trod enc Tryz.prog w base spare held n f2.type ((cs.drop f2.offset).take (Tryz.prog.cellsOf f2.type)) =some y2∧DataW.trod enc Tryz.prog w base spare held n f3.type ((cs.drop f3.offset).take (Tryz.prog.cellsOf f3.type)) =some y3∧
   DataW.trod enc Tryz.prog w base spare held n f4.type ((cs.drop f4.offset).take (Tryz.prog.cellsOf f4.type)) =some y4∧DataW.trod enc Tryz.prog w base spare held n f5.type ((cs.drop f5.offset).take (Tryz.prog.cellsOf f5.type)) =some y5 :=by
 obtain ⟨xs,n,_,rfl,hl,hlen,hf⟩ :=DataW.trod_struct ht h
 match xs,hlen with
 | [y0,y1,y2,y3,y4,y5],_=>exact ⟨y0,y1,y2,y3,y4,y5,n,by simp,hl,by simpa using hf 0 f0 rfl,by simpa using hf 1 f1 rfl,by simpa using hf 2 f2 rfl,by simpa using hf 3 f3 rfl,by simpa using hf 4 f4 rfl,by simpa using hf 5 f5 rfl⟩
theorem Tk {D :Nat→DataW H} : ∀ (n i :Nat),i<n→Rows.uptoBulk (D i) ≤Rows.uptoBulkAll ((List.range n).map D)
 | n+1,i,h=>by
  rw [List.range_succ,List.map_append]
  have app : ∀a b :List (DataW H),Rows.uptoBulkAll (a++b) =Rows.uptoBulkAll a+Rows.uptoBulkAll b :=fun a b=>by
   induction a with
   | nil=>simp [Rows.uptoBulkAll]
   | cons x r ih=>simp only [List.cons_append,Rows.uptoBulkAll,ih];omega
  rw [app]
  rcases Nat.lt_or_eq_of_le (Nat.lt_succ_iff.1 h) with h1 | h1
  ·have :=Tk (D :=D) n i h1;omega
  ·subst h1;simp [Rows.uptoBulkAll]
theorem M4 {D :Nat→DataW H} {f :Nat→E} : ∀n :Nat,(∀i,i<n→ (f i).nodes≤Rows.uptoBulk (D i)) →Ce ((List.range n).map f) ≤Rows.uptoBulkAll ((List.range n).map D)
 | 0,_=>by simp [Ce]
 | n+1,h=>by
  rw [List.range_succ,List.map_append,List.map_append]
  have app : ∀a b :List (DataW H),Rows.uptoBulkAll (a++b) =Rows.uptoBulkAll a+Rows.uptoBulkAll b :=fun a b=>by
   induction a with
   | nil=>simp [Rows.uptoBulkAll]
   | cons x r ih=>simp only [List.cons_append,Rows.uptoBulkAll,ih];omega
  rw [app,Jz]
  have h1 :=M4 n fun i hi=>h i (by omega)
  have h2 :=h n (by omega)
  simp only [List.map_cons,List.map_nil,Ce,Rows.uptoBulkAll]
  omega
theorem Uv {f :Nat→E} : ∀n :Nat,(∀i,i<n→Ci (f i)) →Iy ((List.range n).map f) :=fun n h=>by
 have : ∀l :List E,(∀e∈l,Ci e) →Iy l :=fun l=>by
  induction l with
  | nil=>intro _;rw [Iy];trivial
  | cons e l ih=>intro h;rw [Iy];exact ⟨h e (by simp),ih fun x hx=>h x (by simp [hx])⟩
 refine this _ fun e he=> ?_
 obtain ⟨i,hi,rfl⟩ :=List.mem_map.1 he
 exact h i (List.mem_range.1 hi)
theorem Iz {F :Nat→Prop} {f :Nat→E} {g :Nat→List Value} : ∀n :Nat,(∀i,i<n→ (g i).length=8∧IsE F w (f i) (.agg (g i).toArray)) →Cp F w ((List.range n).map f) ((List.range n).flatMap g)
 | 0,_=>by rw [List.range_zero,List.map_nil,Cp];rfl
 | n+1,h=>by
  rw [List.range_succ,List.map_append,List.flatMap_append]
  exact Ln (Iz n fun i hi=>h i (by omega)) (by simpa using Me (h n (by omega)).1 (h n (by omega)).2)
theorem M5 {g :Nat→List Value} : ∀ (n i :Nat),(∀i,i<n→ (g i).length=8) →i<n→ ∀j,j<8→ ((List.range n).flatMap g)[i*8+j]? = (g i)[j]?
 | n+1,i,h,hi,j,hj=>by
  have hl : ∀m,m≤n+1→ ((List.range m).flatMap g).length=m*8 :=fun m=>by
   induction m with
   | zero=>intro _;rfl
   | succ m ih=>intro hm;rw [List.range_succ,List.flatMap_append,List.length_append,ih (by omega)];simp [h m (by omega)];omega
  rw [List.range_succ,List.flatMap_append]
  rcases Nat.lt_or_eq_of_le (Nat.lt_succ_iff.1 hi) with h1 | h1
  ·rw [List.getElem?_append_left (by rw [hl n (by omega)];omega)]
   exact M5 n i (fun i hi=>h i (by omega)) h1 j hj
  ·subst h1
   rw [List.getElem?_append_right (by rw [hl i (by omega)];omega),hl i (by omega)]
   simp
set_option maxHeartbeats 1000000 in
theorem Aja : ∀ (N fuel :Nat) (cs :List Value) (x :DataW H×List MemPlace),Rows.uptoBulk x.1≤N→DataW.trod enc Tryz.prog w base spare held fuel 34 cs=some x→
  ∃e :E,cs.length=8∧IsE (fun k=>k<w.heap.size) w e (.agg cs.toArray) ∧Ci e∧e.nodes≤Rows.uptoBulk x.1 :=by
 intro N
 induction N with
 | zero=>intro fuel cs x h;have :=K9 x.1;omega
 | succ N ih=>
  intro fuel cs x hN h
  obtain ⟨f0,f1,f2,f3,f4,f5,hu,⟨o0,o1,o2,o3,o4,o5⟩,⟨t0,t1,t2,t3,t4,t5⟩⟩ :=Xs
  obtain ⟨y0,y1,y2,y3,y4,y5,n,hx,hl,h0,h1,h2,h3,h4,h5⟩ :=Si hu h
  rw [Ga] at hl
  rw [o0,t0,Fe] at h0
  rw [o1,t1,Hl] at h1
  rw [o2,t2,Bq] at h2
  rw [o3,t3,Bq] at h3
  rw [o4,t4,Fe] at h4
  rw [o5,t5,Hm] at h5
  match cs,hl with
  | [c0,c1,c2,c3,c4,c5,c6,c7],_=>
   simp only [List.drop_zero,List.take_succ_cons,List.take_zero,List.drop_succ_cons] at h0 h1 h2 h3 h4 h5
   obtain ⟨a,e0,_,_⟩ :=DataW.trod_int Tryz.underlying3 h0
   obtain ⟨v,e1,hvs,_⟩ :=Ki h1
   obtain ⟨s,e2,_,_⟩ :=DataW.trod_string Tryz.underlying9 h2
   obtain ⟨nm,e3,_,_⟩ :=DataW.trod_string Tryz.underlying9 h3
   obtain ⟨q,e4,_,_⟩ :=DataW.trod_int Tryz.underlying3 h4
   obtain ⟨vk,vn,vs⟩ :=v
   simp only [V.cells,List.cons.injEq,and_true] at e0 e1 e2 e3 e4
   obtain ⟨e10,e11,e12⟩ :=e1
   subst e0 e10 e11 e12 e2 e3 e4
   have hb5 :Rows.uptoBulk y5.1+1≤Rows.uptoBulk x.1 :=by rw [hx];simp only [Rows.uptoBulk,Rows.uptoBulkAll];omega
   rcases open_slice Tryz.underlying30 h5 with ⟨hcs,rfl⟩ | ⟨ad,len,cap,m,n5,D,Pl,hcs,hb,hlc,hm,hmm,rfl,hxx⟩
   ·simp only [List.cons.injEq,and_true] at hcs
    subst hcs
    exact ⟨.mk a ⟨vk,vn,vs⟩ s nm q [],rfl,In (x := ⟨vk,vn,vs⟩) (Ff.nil _ _),by rw [Ci,Iy];exact ⟨hvs,trivial⟩,by simp only [E.nodes,Ce];have :=K9 x.1;omega⟩
   ·simp only [List.cons.injEq,and_true] at hcs
    subst hcs
    have hlm :len≤m :=by rw [hmm];split<;>omega
    have hbD :Rows.uptoBulkAll ((List.range len).map D) +2≤Rows.uptoBulk x.1 :=by simp only [Rows.uptoBulk] at hb5;omega
    have each : ∀i,i<len→ ∃r :E×List Value,r.2.length=8∧IsE (fun k=>k<w.heap.size) w r.1 (.agg r.2.toArray) ∧Ci r.1∧r.1.nodes≤Rows.uptoBulk (D i) ∧ ∀j u,r.2[j]? =some u→w.cell? (ad.add (i*8+j)) =some u :=by
     intro i hi
     obtain ⟨cs',k1,k2⟩ :=hxx i (by omega)
     rw [Ga] at k1
     obtain ⟨_,hlen,hcell⟩ :=World.cells?_some k1
     have hbi :=Tk (D :=D) len i hi
     obtain ⟨e,r1,r2,r3,r4⟩ :=ih n5 cs' (D i,Pl i) (by simp only;omega) k2
     refine ⟨(e,cs'),r1,r2,r3,r4,fun j u hj=> ?_⟩
     have hj8 :j<8 :=by have := (List.getElem?_eq_some_iff.1 hj).1;simp only at this;omega
     have :=hcell j (by omega)
     rw [add_add] at this
     rw [this];exact hj
    have :Inhabited (E×List Value) := ⟨(E.nil,[])⟩
    obtain ⟨f,hf⟩ :=choose_lt each
    refine ⟨.mk a ⟨vk,vn,vs⟩ s nm q ((List.range len).map fun i=> (f i).1),rfl, ?_, ?_, ?_⟩
    ·refine In (x := ⟨vk,vn,vs⟩) ⟨(List.range len).flatMap fun i=> (f i).2, ?_,Iz len fun i hi=> ⟨(hf i hi).1,(hf i hi).2.1⟩⟩
     have hall :=Lo (Iz (w :=w) (F :=fun k=>k<w.heap.size) (f :=fun i=> (f i).1) (g :=fun i=> (f i).2) len fun i hi=> ⟨(hf i hi).1,(hf i hi).2.1⟩)
     refine ⟨hall, ?_⟩
     rcases Nat.eq_zero_or_pos len with rfl | hpos
     ·exact .inl ⟨by simp,some ad,cap,rfl,fun h=>by cases h⟩
     ·obtain ⟨b,off,spot⟩ :=ad
      obtain ⟨u0,hu0⟩ : ∃u,(f 0).2[0]? =some u := ⟨_,List.getElem?_eq_getElem (by rw [(hf 0 hpos).1];omega)⟩
      have hc := (hf 0 hpos).2.2.2.2 0 u0 hu0
      have hspot :spot=none :=by simpa [Addr.add] using World.cell?_spot hc
      subst hspot
      have hblt :b<w.heap.size :=by have :=M2 hc;simpa [Addr.add] using this
      refine .inr ⟨by simpa using hpos,b,off,cap,by simp,hblt,hblt,by simpa using hlc,hm,fun j u hj=> ?_⟩
      have hjl :j<len*8 :=by
       have := (List.getElem?_eq_some_iff.1 hj).1
       rw [hall] at this;simpa using this
      have hfe :=M5 (g :=fun i=> (f i).2) len (j/8) (fun i hi=> (hf i hi).1) (by omega) (j %8) (by omega)
      rw [show j/8*8+j %8=j from by omega] at hfe
      rw [hfe] at hj
      have := (hf (j/8) (by omega)).2.2.2.2 (j %8) u hj
      rw [show j/8*8+j %8=j from by omega,Addr.add_lit] at this
      exact this
    ·rw [Ci]
     exact ⟨hvs,Uv len fun i hi=> (hf i hi).2.2.1⟩
    ·have :=M4 (D :=D) (f :=fun i=> (f i).1) len fun i hi=> (hf i hi).2.2.2.1
     simp only [E.nodes]
     omega
end
end Go.Proofs.YthehiijgnepcfaaGreat

namespace Go.Proofs.YthehiijgnepcfaaGreat
open Go.RowKit Go.Deep Go.ChangeShapes
theorem Yz :Tryz.prog.cellsOf 27=1 :=by kernel_rfl
theorem Abg :Tryz.prog.cellsOf 28=1 :=by kernel_rfl
theorem Uw :Tryz.prog.cellsOf 98=9 :=by kernel_rfl
theorem Abh :Tryz.prog.cellsOf 29=1 :=by kernel_rfl
theorem Adt :Tryz.prog.cellsOf 36=20 :=by kernel_rfl
theorem Ag4 : ∃f0 f1 :Field,Tryz.prog.underlying 98=some (.struct #[f0,f1]) ∧f0.offset=0∧f1.offset=1∧f0.type=9∧f1.type=34 :=
 ⟨_,_,Tryz.underlying98,rfl,rfl,rfl,rfl⟩
theorem Ag5 : ∃f0 f1 f2 f3 f4 f5 f6 f7 f8 f9 f10 f11 f12 :Field,Tryz.prog.underlying 36=some (.struct #[f0,f1,f2,f3,f4,f5,f6,f7,f8,f9,f10,f11,f12]) ∧ (f0.offset=0∧f1.offset=1∧f2.offset=2∧f3.offset=3∧f4.offset=4∧f5.offset=5∧f6.offset=6∧f7.offset=7∧f8.offset=8∧f9.offset=9∧f10.offset=17∧f11.offset=18∧f12.offset=19) ∧ (f0.type=3∧f1.type=9∧f2.type=9∧f3.type=9∧f4.type=26∧f5.type=27∧f6.type=28∧f7.type=29∧f8.type=30∧f9.type=34∧f10.type=30∧f11.type=4∧f12.type=3) :=
 ⟨_,_,_,_,_,_,_,_,_,_,_,_,_,Tryz.underlying36,⟨rfl,rfl,rfl,rfl,rfl,rfl,rfl,rfl,rfl,rfl,rfl,rfl,rfl⟩,⟨rfl,rfl,rfl,rfl,rfl,rfl,rfl,rfl,rfl,rfl,rfl,rfl,rfl⟩⟩
theorem Abi {f :Nat→E} : ∀n :Nat,(∀i,i<n→De (f i)) →Ea ((List.range n).map f) :=fun n h=>by
 have : ∀l :List E,(∀e∈l,De e) →Ea l :=fun l=>by
  induction l with
  | nil=>intro _;rw [Ea];trivial
  | cons e l ih=>intro h;rw [Ea];exact ⟨h e (by simp),ih fun x hx=>h x (by simp [hx])⟩
 refine this _ fun e he=> ?_
 obtain ⟨i,hi,rfl⟩ :=List.mem_map.1 he
 exact h i (List.mem_range.1 hi)
theorem Lk : ∀ {l :List E},(∀e∈l,De e) →Ea l
 | [],_=>by rw [Ea];trivial
 | e ::l,h=>by rw [Ea];exact ⟨h e (by simp),Lk fun x hx=>h x (by simp [hx])⟩
section
variable {H :Type} {enc :TypeId×Value→H} {w :World} {base :Nat} {spare :Nat→Bool} {held :Bool}
theorem Afr {t :TypeId} {f0 f1 f2 f3 f4 f5 f6 f7 f8 f9 f10 f11 f12 :Field} {fuel :Nat} {cs :List Value} {x :DataW H×List MemPlace} (ht :Tryz.prog.underlying t=some (.struct #[f0,f1,f2,f3,f4,f5,f6,f7,f8,f9,f10,f11,f12])) (h :DataW.trod enc Tryz.prog w base spare held fuel t cs=some x) :
  ∃y0 y1 y2 y3 y4 y5 y6 y7 y8 y9 y10 y11 y12 n,x.1= .agg [y0.1,y1.1,y2.1,y3.1,y4.1,y5.1,y6.1,y7.1,y8.1,y9.1,y10.1,y11.1,y12.1] ∧cs.length=Tryz.prog.cellsOf t∧DataW.trod enc Tryz.prog w base spare held n f0.type ((cs.drop f0.offset).take (Tryz.prog.cellsOf f0.type)) =some y0∧DataW.trod enc Tryz.prog w base spare held n f1.type ((cs.drop f1.offset).take (Tryz.prog.cellsOf f1.type)) =some y1∧DataW.trod enc Tryz.prog w base spare held n f2.type ((cs.drop f2.offset).take (Tryz.prog.cellsOf f2.type)) =some y2∧DataW.trod enc Tryz.prog w base spare held n f3.type ((cs.drop f3.offset).take (Tryz.prog.cellsOf f3.type)) =some y3∧DataW.trod enc Tryz.prog w base spare held n f4.type ((cs.drop f4.offset).take (Tryz.prog.cellsOf f4.type)) =some y4∧DataW.trod enc Tryz.prog w base spare held n f5.type ((cs.drop f5.offset).take (Tryz.prog.cellsOf f5.type)) =some y5∧DataW.trod enc Tryz.prog w base spare held n f6.type ((cs.drop f6.offset).take (Tryz.prog.cellsOf f6.type)) =some y6∧DataW.trod enc Tryz.prog w base spare held n f7.type ((cs.drop f7.offset).take (Tryz.prog.cellsOf f7.type)) =some y7∧DataW.trod enc Tryz.prog w base spare held n f8.type ((cs.drop f8.offset).take (Tryz.prog.cellsOf f8.type)) =some y8∧DataW.trod enc Tryz.prog w base spare held n f9.type ((cs.drop f9.offset).take (Tryz.prog.cellsOf f9.type)) =some y9∧DataW.trod enc Tryz.prog w base spare held n f10.type ((cs.drop f10.offset).take (Tryz.prog.cellsOf f10.type)) =some y10∧DataW.trod enc Tryz.prog w base spare held n f11.type ((cs.drop f11.offset).take (Tryz.prog.cellsOf f11.type)) =some y11∧DataW.trod enc Tryz.prog w base spare held n f12.type ((cs.drop f12.offset).take (Tryz.prog.cellsOf f12.type)) =some y12 :=by
 obtain ⟨xs,n,_,rfl,hl,hlen,hf⟩ :=DataW.trod_struct ht h
 match xs,hlen with
 | [y0,y1,y2,y3,y4,y5,y6,y7,y8,y9,y10,y11,y12],_=>exact ⟨y0,y1,y2,y3,y4,y5,y6,y7,y8,y9,y10,y11,y12,n,by simp,hl,by simpa using hf 0 f0 rfl,by simpa using hf 1 f1 rfl,by simpa using hf 2 f2 rfl,by simpa using hf 3 f3 rfl,by simpa using hf 4 f4 rfl,by simpa using hf 5 f5 rfl,by simpa using hf 6 f6 rfl,by simpa using hf 7 f7 rfl,by simpa using hf 8 f8 rfl,by simpa using hf 9 f9 rfl,by simpa using hf 10 f10 rfl,by simpa using hf 11 f11 rfl,by simpa using hf 12 f12 rfl⟩
set_option maxHeartbeats 1000000 in
theorem M6 : ∀ (N fuel :Nat) (cs :List Value) (x :DataW H×List MemPlace),Rows.uptoBulk x.1≤N→DataW.trod enc Tryz.prog w base spare held fuel 34 cs=some x→
  ∃e :E,cs.length=8∧IsE (fun k=>k<w.heap.size) w e (.agg cs.toArray) ∧ (Ci e∧De e) ∧e.nodes≤Rows.uptoBulk x.1 :=by
 intro N
 induction N with
 | zero=>intro fuel cs x h;have :=K9 x.1;omega
 | succ N ih=>
  intro fuel cs x hN h
  obtain ⟨f0,f1,f2,f3,f4,f5,hu,⟨o0,o1,o2,o3,o4,o5⟩,⟨t0,t1,t2,t3,t4,t5⟩⟩ :=Xs
  obtain ⟨y0,y1,y2,y3,y4,y5,n,hx,hl,h0,h1,h2,h3,h4,h5⟩ :=Si hu h
  rw [Ga] at hl
  rw [o0,t0,Fe] at h0
  rw [o1,t1,Hl] at h1
  rw [o2,t2,Bq] at h2
  rw [o3,t3,Bq] at h3
  rw [o4,t4,Fe] at h4
  rw [o5,t5,Hm] at h5
  match cs,hl with
  | [c0,c1,c2,c3,c4,c5,c6,c7],_=>
   simp only [List.drop_zero,List.take_succ_cons,List.take_zero,List.drop_succ_cons] at h0 h1 h2 h3 h4 h5
   obtain ⟨a,e0,_,_⟩ :=DataW.trod_int Tryz.underlying3 h0
   obtain ⟨v,e1,hvs,_⟩ :=Ki h1
   obtain ⟨s,e2,_,hs2⟩ :=DataW.trod_string Tryz.underlying9 h2
   obtain ⟨nm,e3,_,hs3⟩ :=DataW.trod_string Tryz.underlying9 h3
   obtain ⟨q,e4,_,_⟩ :=DataW.trod_int Tryz.underlying3 h4
   obtain ⟨vk,vn,vs⟩ :=v
   simp only [V.cells,List.cons.injEq,and_true] at e0 e1 e2 e3 e4
   obtain ⟨e10,e11,e12⟩ :=e1
   subst e0 e10 e11 e12 e2 e3 e4
   have hb5 :Rows.uptoBulk y5.1+1≤Rows.uptoBulk x.1 :=by rw [hx];simp only [Rows.uptoBulk,Rows.uptoBulkAll];omega
   rcases open_slice Tryz.underlying30 h5 with ⟨hcs,rfl⟩ | ⟨ad,len,cap,m,n5,D,Pl,hcs,hb,hlc,hm,hmm,rfl,hxx⟩
   ·simp only [List.cons.injEq,and_true] at hcs
    subst hcs
    exact ⟨.mk a ⟨vk,vn,vs⟩ s nm q [],rfl,In (x := ⟨vk,vn,vs⟩) (Ff.nil _ _),⟨by rw [Ci,Iy];exact ⟨hvs,trivial⟩,by rw [De,Ea];exact ⟨hvs,hs2,hs3,trivial⟩⟩,by simp only [E.nodes,Ce];have :=K9 x.1;omega⟩
   ·simp only [List.cons.injEq,and_true] at hcs
    subst hcs
    have hlm :len≤m :=by rw [hmm];split<;>omega
    have hbD :Rows.uptoBulkAll ((List.range len).map D) +2≤Rows.uptoBulk x.1 :=by simp only [Rows.uptoBulk] at hb5;omega
    have each : ∀i,i<len→ ∃r :E×List Value,r.2.length=8∧IsE (fun k=>k<w.heap.size) w r.1 (.agg r.2.toArray) ∧ (Ci r.1∧De r.1) ∧r.1.nodes≤Rows.uptoBulk (D i) ∧ ∀j u,r.2[j]? =some u→w.cell? (ad.add (i*8+j)) =some u :=by
     intro i hi
     obtain ⟨cs',k1,k2⟩ :=hxx i (by omega)
     rw [Ga] at k1
     obtain ⟨_,hlen,hcell⟩ :=World.cells?_some k1
     have hbi :=Tk (D :=D) len i hi
     obtain ⟨e,r1,r2,r3,r4⟩ :=ih n5 cs' (D i,Pl i) (by simp only;omega) k2
     refine ⟨(e,cs'),r1,r2,r3,r4,fun j u hj=> ?_⟩
     have hj8 :j<8 :=by have := (List.getElem?_eq_some_iff.1 hj).1;simp only at this;omega
     have :=hcell j (by omega)
     rw [add_add] at this
     rw [this];exact hj
    have :Inhabited (E×List Value) := ⟨(E.nil,[])⟩
    obtain ⟨f,hf⟩ :=choose_lt each
    refine ⟨.mk a ⟨vk,vn,vs⟩ s nm q ((List.range len).map fun i=> (f i).1),rfl, ?_, ?_, ?_⟩
    ·refine In (x := ⟨vk,vn,vs⟩) ⟨(List.range len).flatMap fun i=> (f i).2, ?_,Iz len fun i hi=> ⟨(hf i hi).1,(hf i hi).2.1⟩⟩
     have hall :=Lo (Iz (w :=w) (F :=fun k=>k<w.heap.size) (f :=fun i=> (f i).1) (g :=fun i=> (f i).2) len fun i hi=> ⟨(hf i hi).1,(hf i hi).2.1⟩)
     refine ⟨hall, ?_⟩
     rcases Nat.eq_zero_or_pos len with rfl | hpos
     ·exact .inl ⟨by simp,some ad,cap,rfl,fun h=>by cases h⟩
     ·obtain ⟨b,off,spot⟩ :=ad
      obtain ⟨u0,hu0⟩ : ∃u,(f 0).2[0]? =some u := ⟨_,List.getElem?_eq_getElem (by rw [(hf 0 hpos).1];omega)⟩
      have hc := (hf 0 hpos).2.2.2.2 0 u0 hu0
      have hspot :spot=none :=by simpa [Addr.add] using World.cell?_spot hc
      subst hspot
      have hblt :b<w.heap.size :=by have :=M2 hc;simpa [Addr.add] using this
      refine .inr ⟨by simpa using hpos,b,off,cap,by simp,hblt,hblt,by simpa using hlc,hm,fun j u hj=> ?_⟩
      have hjl :j<len*8 :=by
       have := (List.getElem?_eq_some_iff.1 hj).1
       rw [hall] at this;simpa using this
      have hfe :=M5 (g :=fun i=> (f i).2) len (j/8) (fun i hi=> (hf i hi).1) (by omega) (j %8) (by omega)
      rw [show j/8*8+j %8=j from by omega] at hfe
      rw [hfe] at hj
      have := (hf (j/8) (by omega)).2.2.2.2 (j %8) u hj
      rw [show j/8*8+j %8=j from by omega,Addr.add_lit] at this
      exact this
    ·exact ⟨by rw [Ci];exact ⟨hvs,Uv len fun i hi=> (hf i hi).2.2.1.1⟩,by rw [De];exact ⟨hvs,hs2,hs3,Abi len fun i hi=> (hf i hi).2.2.1.2⟩⟩
    ·have :=M4 (D :=D) (f :=fun i=> (f i).1) len fun i hi=> (hf i hi).2.2.2.1
     simp only [E.nodes]
     omega
def QE (B :Nat) (e :E) :Prop := (Ci e∧De e) ∧e.nodes≤B
theorem Lw {B fuel :Nat} {sv :Value} {x :DataW H×List MemPlace} (hB :Rows.uptoBulk x.1≤B) (h :DataW.trod enc Tryz.prog w base spare held fuel 30 [sv] =some x) : ∃l :List E,IsL Az (fun k=>k<w.heap.size) w sv l∧ (∀a∈l,QE B a) ∧l.length≤Rows.uptoBulk x.1 :=
 Es E.nil Az 30 34 Tryz.underlying30 Ga (by decide) B (QE B) (fun fuel cs y hy hx=>by
  obtain ⟨e,h1,h2,h3,h4⟩ :=M6 _ fuel cs y (Nat.le_refl _) hx
  exact ⟨e,⟨h1,h2⟩,h3,Nat.le_trans h4 hy⟩) hB h
theorem Afs {t et :TypeId} (hu :Tryz.prog.underlying t=some (.slice et)) {fuel :Nat} {cs :List Value} {x :DataW H×List MemPlace} (h :DataW.trod enc Tryz.prog w base spare held fuel t cs=some x) : ∃sv,cs= [sv] :=by
 rcases open_slice hu h with ⟨hcs,_⟩ | ⟨ad,len,cap,m,n5,D,Pl,hcs,_⟩
 ·exact ⟨_,hcs⟩
 ·exact ⟨_,hcs⟩
theorem Aft {B fuel :Nat} {cs :List Value} {x :DataW H×List MemPlace} (hB :Rows.uptoBulk x.1≤B) (h :DataW.trod enc Tryz.prog w base spare held fuel 98 cs=some x) : ∃a :Wd×E,Ei.R (fun k=>k<w.heap.size) w a cs∧a.1.size≤maxLen∧QE B a.2 :=by
 obtain ⟨f0,f1,hu,o0,o1,t0,t1⟩ :=Ag4
 obtain ⟨y0,y1,n,rfl,hl,h0,h1⟩ :=trod_struct2 hu h
 rw [Uw] at hl
 rw [o0,t0,Bq] at h0
 rw [o1,t1,Ga] at h1
 match cs,hl with
 | c0 ::d,hl=>
  simp only [List.drop_zero,List.take_succ_cons,List.take_zero,List.drop_succ_cons] at h0 h1
  rw [List.take_of_length_le (by simp at hl;omega)] at h1
  obtain ⟨s,e0,_,hs⟩ :=DataW.trod_string Tryz.underlying9 h0
  obtain ⟨e,r1,r2,r3,r4⟩ :=M6 _ _ d y1 (Nat.le_refl _) h1
  simp only [List.cons.injEq,and_true] at e0
  subst e0
  refine ⟨(s,e),⟨d,rfl,r1,r2⟩,hs,r3,Nat.le_trans r4 (Nat.le_trans ?_ hB)⟩
  simp only [Rows.uptoBulk,Rows.uptoBulkAll]
  omega
set_option maxHeartbeats 2000000 in
theorem Afu {fuel :Nat} {cs :List Value} {x :DataW H×List MemPlace} (hx :Rows.uptoBulk x.1≤16777216) (h :DataW.trod enc Tryz.prog w base spare held fuel 36 cs=some x) :
  ∃st :Stm,Akj.R (fun k=>k<w.heap.size) w st cs∧FitB st∧ (∀p∈st.sets,p.2.nodes≤16777216∧Ci p.2) ∧ (st.wher.nodes≤16777216∧Ci st.wher) :=by
 obtain ⟨f0,f1,f2,f3,f4,f5,f6,f7,f8,f9,f10,f11,f12,hu,⟨o0,o1,o2,o3,o4,o5,o6,o7,o8,o9,o10,o11,o12⟩,⟨t0,t1,t2,t3,t4,t5,t6,t7,t8,t9,t10,t11,t12⟩⟩ :=Ag5
 obtain ⟨y0,y1,y2,y3,y4,y5,y6,y7,y8,y9,y10,y11,y12,n,hxx,hl,h0,h1,h2,h3,h4,h5,h6,h7,h8,h9,h10,h11,h12⟩ :=Afr hu h
 rw [Adt] at hl
 rw [o0,t0,Fe] at h0
 rw [o1,t1,Bq] at h1
 rw [o2,t2,Bq] at h2
 rw [o3,t3,Bq] at h3
 rw [o4,t4,Sh] at h4
 rw [o5,t5,Yz] at h5
 rw [o6,t6,Abg] at h6
 rw [o7,t7,Abh] at h7
 rw [o8,t8,Hm] at h8
 rw [o9,t9,Ga] at h9
 rw [o10,t10,Hm] at h10
 rw [o11,t11,Sg] at h11
 rw [o12,t12,Fe] at h12
 rw [hxx] at hx
 simp only [Rows.uptoBulk,Rows.uptoBulkAll] at hx
 match cs,hl with
 | [c0,c1,c2,c3,c4,c5,c6,c7,c8,c9,c10,c11,c12,c13,c14,c15,c16,c17,c18,c19],_=>
  simp only [List.drop_zero,List.take_succ_cons,List.take_zero,List.drop_succ_cons] at h0 h1 h2 h3 h4 h5 h6 h7 h8 h9 h10 h11 h12
  obtain ⟨k,e0,_,_⟩ :=DataW.trod_int Tryz.underlying3 h0
  obtain ⟨nm,e1,_,s1⟩ :=DataW.trod_string Tryz.underlying9 h1
  obtain ⟨tb,e2,_,s2⟩ :=DataW.trod_string Tryz.underlying9 h2
  obtain ⟨cl,e3,_,s3⟩ :=DataW.trod_string Tryz.underlying9 h3
  obtain ⟨lc,l4,q4,n4⟩ :=Es (⟨noW,0,false⟩ :ColD) Cc 26 63 Tryz.underlying26 Ov (by decide) _ (fun a=>a.name.size≤maxLen) (fun fuel cs x _ hx=>Xq hx _) (Nat.le_refl _) h4
  obtain ⟨lr,l5,q5,n5⟩ :=Es ([] :List E) Gi 27 30 Tryz.underlying27 Hm (by decide) _ (fun r=> (∀a∈r,QE 16777216 a) ∧r.length≤16777216) (fun fuel cs y hy hx2=>by
   obtain ⟨sv,rfl⟩ :=Afs Tryz.underlying30 hx2
   obtain ⟨l,r1,r2,r3⟩ :=Lw (B :=16777216) (Nat.le_trans hy (by omega)) hx2
   exact ⟨l,⟨sv,rfl,r1⟩,r2,Nat.le_trans r3 (Nat.le_trans hy (by omega))⟩) (Nat.le_refl _) h5
  obtain ⟨ls,l6,q6,n6⟩ :=Es ((noW,E.nil) :Wd×E) Ei 28 98 Tryz.underlying28 Uw (by decide) _ (fun a=>a.1.size≤maxLen∧QE 16777216 a.2) (fun fuel cs y hy hx2=>Aft (Nat.le_trans hy (by omega)) hx2) (Nat.le_refl _) h6
  obtain ⟨lf,l7,q7,n7⟩ :=Es (noW :Wd) So 29 9 Tryz.underlying29 Bq (by decide) _ (fun a=>a.size≤maxLen) (fun fuel cs y _ hx2=>by
   obtain ⟨s,r1,_,r2⟩ :=DataW.trod_string Tryz.underlying9 hx2
   exact ⟨s,r1,r2⟩) (Nat.le_refl _) h7
  obtain ⟨lo,l8,q8,n8⟩ :=Lw (B :=16777216) (by omega) h8
  obtain ⟨wh,r1,r2,r3,r4⟩ :=M6 _ _ _ y9 (Nat.le_refl _) h9
  obtain ⟨ld,l10,q10,n10⟩ :=Lw (B :=16777216) (by omega) h10
  obtain ⟨dn,e11,_⟩ :=DataW.trod_bool Tryz.underlying4 h11
  obtain ⟨nn,e12,_,_⟩ :=DataW.trod_int Tryz.underlying3 h12
  simp only [List.cons.injEq,and_true] at e0 e1 e2 e3 e11 e12
  subst e0 e1 e2 e3 e11 e12
  obtain ⟨op,xk,xn,xs,s,nmv,m8,ao,kk,cap,he8⟩ :=Ej (F :=fun k=>k<w.heap.size) (w :=w) (e :=wh) ⟨r1,r2⟩
  simp only [List.cons.injEq,and_true] at he8
  obtain ⟨rfl,rfl,rfl,rfl,rfl,rfl,rfl,rfl⟩ :=he8
  refine ⟨⟨k,nm,tb,cl,lc,lr,ls,lf,lo,wh,ld,dn,nn⟩,Vz l4 l5 l6 l7 l8 r2 l10, ?_,fun p hp=> ⟨(q6 p hp).2.2,(q6 p hp).2.1.1⟩,⟨Nat.le_trans r4 (by omega),r3.1⟩⟩
  exact ⟨⟨fun r hr=>Lk fun e he=> ((q5 r hr).1 e he).1.2,fun p hp=> ⟨(q6 p hp).2.1.2,(q6 p hp).1⟩,Lk fun e he=> (q8 e he).1.2,Lk fun e he=> (q10 e he).1.2,r3.2,s1,s2,s3,q4,q7⟩,s1,q4,Nat.le_trans n5 (by omega),fun r hr=> (q5 r hr).2,Nat.le_trans n6 (by omega),fun p hp=> (q6 p hp).1,Nat.le_trans n8 (by omega),Nat.le_trans n10 (by omega),q7⟩
end
end Go.Proofs.YthehiijgnepcfaaGreat

