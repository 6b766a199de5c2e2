/-
  2 texts of this proof in one, in build order: XOpen, OpenS.
-/
import Derived.ProofKit
import Derived.ChangeSame
import Derived.Test.YtmgkcjiejmhgcaaGreatDoorJ01
import Derived.Test.YtmgkcjiejmhgcaaGreatDoorJ26
import Derived.Test.YtmgkcjiejmhgcaaGreatDoorJ51
set_option linter.unusedSimpArgs false
set_option linter.unusedVariables false
namespace Go.Proofs.YtmgkcjiejmhgcaaGreatDoor
open Go.RowKit Go.Deep Go.ChangeShapes
theorem G5 :Tryz.prog.cellsOf 34=8 :=by kernel_rfl
theorem Hy :Tryz.prog.cellsOf 30=1 :=by kernel_rfl
theorem Yx : ∃f0 f1 f2 f3 f4 f5 :Field,Tryz.prog.underlying 34=some (.struct #[f0,f1,f2,f3,f4,f5]) ∧ (f0.offset=0∧f1.offset=1∧f2.offset=4∧f3.offset=5∧f4.offset=6∧f5.offset=7) ∧
  (f0.type=3∧f1.type=32∧f2.type=9∧f3.type=9∧f4.type=3∧f5.type=30) :=
 ⟨_,_,_,_,_,_,Tryz.underlying34,⟨rfl,rfl,rfl,rfl,rfl,rfl⟩,⟨rfl,rfl,rfl,rfl,rfl,rfl⟩⟩
section
variable {H :Type} {enc :TypeId×Value→H} {w :World} {base :Nat} {spare :Nat→Bool} {held :Bool}
theorem Vc {t :TypeId} {f0 f1 f2 f3 f4 f5 :Field} {fuel :Nat} {cs :List Value} {x :DataW H×List MemPlace} (ht :Tryz.prog.underlying t=some (.struct #[f0,f1,f2,f3,f4,f5])) (h :DataW.trod enc Tryz.prog w base spare held fuel t cs=some x) :
  ∃y0 y1 y2 y3 y4 y5 n,x.1= .agg [y0.1,y1.1,y2.1,y3.1,y4.1,y5.1] ∧cs.length=Tryz.prog.cellsOf t∧
   DataW.trod enc Tryz.prog w base spare held n f0.type ((cs.drop f0.offset).take (Tryz.prog.cellsOf f0.type)) =some y0∧DataW.trod enc Tryz.prog w base spare held n f1.type ((cs.drop f1.offset).take (Tryz.prog.cellsOf f1.type)) =some y1∧
   DataW.trod enc Tryz.prog w base spare held n f2.type ((cs.drop f2.offset).take (Tryz.prog.cellsOf f2.type)) =some y2∧DataW.trod enc Tryz.prog w base spare held n f3.type ((cs.drop f3.offset).take (Tryz.prog.cellsOf f3.type)) =some y3∧
   DataW.trod enc Tryz.prog w base spare held n f4.type ((cs.drop f4.offset).take (Tryz.prog.cellsOf f4.type)) =some y4∧DataW.trod enc Tryz.prog w base spare held n f5.type ((cs.drop f5.offset).take (Tryz.prog.cellsOf f5.type)) =some y5 :=by
 obtain ⟨xs,n,_,rfl,hl,hlen,hf⟩ :=DataW.trod_struct ht h
 match xs,hlen with
 | [y0,y1,y2,y3,y4,y5],_=>exact ⟨y0,y1,y2,y3,y4,y5,n,by simp,hl,by simpa using hf 0 f0 rfl,by simpa using hf 1 f1 rfl,by simpa using hf 2 f2 rfl,by simpa using hf 3 f3 rfl,by simpa using hf 4 f4 rfl,by simpa using hf 5 f5 rfl⟩
theorem T1 {D :Nat→DataW H} : ∀ (n i :Nat),i<n→Rows.uptoBulk (D i) ≤Rows.uptoBulkAll ((List.range n).map D)
 | n+1,i,h=>by
  rw [List.range_succ,List.map_append]
  have app : ∀a b :List (DataW H),Rows.uptoBulkAll (a++b) =Rows.uptoBulkAll a+Rows.uptoBulkAll b :=fun a b=>by
   induction a with
   | nil=>simp [Rows.uptoBulkAll]
   | cons x r ih=>simp only [List.cons_append,Rows.uptoBulkAll,ih];omega
  rw [app]
  rcases Nat.lt_or_eq_of_le (Nat.lt_succ_iff.1 h) with h1 | h1
  ·have :=T1 (D :=D) n i h1;omega
  ·subst h1;simp [Rows.uptoBulkAll]
theorem Oh {D :Nat→DataW H} {f :Nat→E} : ∀n :Nat,(∀i,i<n→ (f i).nodes≤Rows.uptoBulk (D i)) →Bs ((List.range n).map f) ≤Rows.uptoBulkAll ((List.range n).map D)
 | 0,_=>by simp [Bs]
 | n+1,h=>by
  rw [List.range_succ,List.map_append,List.map_append]
  have app : ∀a b :List (DataW H),Rows.uptoBulkAll (a++b) =Rows.uptoBulkAll a+Rows.uptoBulkAll b :=fun a b=>by
   induction a with
   | nil=>simp [Rows.uptoBulkAll]
   | cons x r ih=>simp only [List.cons_append,Rows.uptoBulkAll,ih];omega
  rw [app,Kr]
  have h1 :=Oh n fun i hi=>h i (by omega)
  have h2 :=h n (by omega)
  simp only [List.map_cons,List.map_nil,Bs,Rows.uptoBulkAll]
  omega
theorem Xe {f :Nat→E} : ∀n :Nat,(∀i,i<n→Jq (f i)) →Nn ((List.range n).map f) :=fun n h=>by
 have : ∀l :List E,(∀e∈l,Jq e) →Nn l :=fun l=>by
  induction l with
  | nil=>intro _;rw [Nn];trivial
  | cons e l ih=>intro h;rw [Nn];exact ⟨h e (by simp),ih fun x hx=>h x (by simp [hx])⟩
 refine this _ fun e he=> ?_
 obtain ⟨i,hi,rfl⟩ :=List.mem_map.1 he
 exact h i (List.mem_range.1 hi)
theorem Km {F :Nat→Prop} {f :Nat→E} {g :Nat→List Value} : ∀n :Nat,(∀i,i<n→ (g i).length=8∧IsE F w (f i) (.agg (g i).toArray)) →Cs F w ((List.range n).map f) ((List.range n).flatMap g)
 | 0,_=>by rw [List.range_zero,List.map_nil,Cs];rfl
 | n+1,h=>by
  rw [List.range_succ,List.map_append,List.flatMap_append]
  exact Mm (Km n fun i hi=>h i (by omega)) (by simpa using Xj (h n (by omega)).1 (h n (by omega)).2)
theorem Oi {g :Nat→List Value} : ∀ (n i :Nat),(∀i,i<n→ (g i).length=8) →i<n→ ∀j,j<8→ ((List.range n).flatMap g)[i*8+j]? = (g i)[j]?
 | n+1,i,h,hi,j,hj=>by
  have hl : ∀m,m≤n+1→ ((List.range m).flatMap g).length=m*8 :=fun m=>by
   induction m with
   | zero=>intro _;rfl
   | succ m ih=>intro hm;rw [List.range_succ,List.flatMap_append,List.length_append,ih (by omega)];simp [h m (by omega)];omega
  rw [List.range_succ,List.flatMap_append]
  rcases Nat.lt_or_eq_of_le (Nat.lt_succ_iff.1 hi) with h1 | h1
  ·rw [List.getElem?_append_left (by rw [hl n (by omega)];omega)]
   exact Oi n i (fun i hi=>h i (by omega)) h1 j hj
  ·subst h1
   rw [List.getElem?_append_right (by rw [hl i (by omega)];omega),hl i (by omega)]
   simp
end
end Go.Proofs.YtmgkcjiejmhgcaaGreatDoor

namespace Go.Proofs.YtmgkcjiejmhgcaaGreatDoor
open Go.RowKit Go.Deep Go.ChangeShapes
theorem Ti :Tryz.prog.cellsOf 27=1 :=by kernel_rfl
theorem Vd :Tryz.prog.cellsOf 28=1 :=by kernel_rfl
theorem P6 :Tryz.prog.cellsOf 56=9 :=by kernel_rfl
theorem Ve :Tryz.prog.cellsOf 29=1 :=by kernel_rfl
theorem Xf :Tryz.prog.cellsOf 36=20 :=by kernel_rfl
theorem Aac : ∃f0 f1 :Field,Tryz.prog.underlying 56=some (.struct #[f0,f1]) ∧f0.offset=0∧f1.offset=1∧f0.type=9∧f1.type=34 :=
 ⟨_,_,Tryz.underlying56,rfl,rfl,rfl,rfl⟩
theorem Aad : ∃f0 f1 f2 f3 f4 f5 f6 f7 f8 f9 f10 f11 f12 :Field,Tryz.prog.underlying 36=some (.struct #[f0,f1,f2,f3,f4,f5,f6,f7,f8,f9,f10,f11,f12]) ∧ (f0.offset=0∧f1.offset=1∧f2.offset=2∧f3.offset=3∧f4.offset=4∧f5.offset=5∧f6.offset=6∧f7.offset=7∧f8.offset=8∧f9.offset=9∧f10.offset=17∧f11.offset=18∧f12.offset=19) ∧ (f0.type=3∧f1.type=9∧f2.type=9∧f3.type=9∧f4.type=26∧f5.type=27∧f6.type=28∧f7.type=29∧f8.type=30∧f9.type=34∧f10.type=30∧f11.type=4∧f12.type=3) :=
 ⟨_,_,_,_,_,_,_,_,_,_,_,_,_,Tryz.underlying36,⟨rfl,rfl,rfl,rfl,rfl,rfl,rfl,rfl,rfl,rfl,rfl,rfl,rfl⟩,⟨rfl,rfl,rfl,rfl,rfl,rfl,rfl,rfl,rfl,rfl,rfl,rfl,rfl⟩⟩
theorem Vf {f :Nat→E} : ∀n :Nat,(∀i,i<n→D4 (f i)) →Ea ((List.range n).map f) :=fun n h=>by
 have : ∀l :List E,(∀e∈l,D4 e) →Ea l :=fun l=>by
  induction l with
  | nil=>intro _;rw [Ea];trivial
  | cons e l ih=>intro h;rw [Ea];exact ⟨h e (by simp),ih fun x hx=>h x (by simp [hx])⟩
 refine this _ fun e he=> ?_
 obtain ⟨i,hi,rfl⟩ :=List.mem_map.1 he
 exact h i (List.mem_range.1 hi)
theorem Jk : ∀ {l :List E},(∀e∈l,D4 e) →Ea l
 | [],_=>by rw [Ea];trivial
 | e ::l,h=>by rw [Ea];exact ⟨h e (by simp),Jk fun x hx=>h x (by simp [hx])⟩
section
variable {H :Type} {enc :TypeId×Value→H} {w :World} {base :Nat} {spare :Nat→Bool} {held :Bool}
theorem Yy {t :TypeId} {f0 f1 f2 f3 f4 f5 f6 f7 f8 f9 f10 f11 f12 :Field} {fuel :Nat} {cs :List Value} {x :DataW H×List MemPlace} (ht :Tryz.prog.underlying t=some (.struct #[f0,f1,f2,f3,f4,f5,f6,f7,f8,f9,f10,f11,f12])) (h :DataW.trod enc Tryz.prog w base spare held fuel t cs=some x) :
  ∃y0 y1 y2 y3 y4 y5 y6 y7 y8 y9 y10 y11 y12 n,x.1= .agg [y0.1,y1.1,y2.1,y3.1,y4.1,y5.1,y6.1,y7.1,y8.1,y9.1,y10.1,y11.1,y12.1] ∧cs.length=Tryz.prog.cellsOf t∧DataW.trod enc Tryz.prog w base spare held n f0.type ((cs.drop f0.offset).take (Tryz.prog.cellsOf f0.type)) =some y0∧DataW.trod enc Tryz.prog w base spare held n f1.type ((cs.drop f1.offset).take (Tryz.prog.cellsOf f1.type)) =some y1∧DataW.trod enc Tryz.prog w base spare held n f2.type ((cs.drop f2.offset).take (Tryz.prog.cellsOf f2.type)) =some y2∧DataW.trod enc Tryz.prog w base spare held n f3.type ((cs.drop f3.offset).take (Tryz.prog.cellsOf f3.type)) =some y3∧DataW.trod enc Tryz.prog w base spare held n f4.type ((cs.drop f4.offset).take (Tryz.prog.cellsOf f4.type)) =some y4∧DataW.trod enc Tryz.prog w base spare held n f5.type ((cs.drop f5.offset).take (Tryz.prog.cellsOf f5.type)) =some y5∧DataW.trod enc Tryz.prog w base spare held n f6.type ((cs.drop f6.offset).take (Tryz.prog.cellsOf f6.type)) =some y6∧DataW.trod enc Tryz.prog w base spare held n f7.type ((cs.drop f7.offset).take (Tryz.prog.cellsOf f7.type)) =some y7∧DataW.trod enc Tryz.prog w base spare held n f8.type ((cs.drop f8.offset).take (Tryz.prog.cellsOf f8.type)) =some y8∧DataW.trod enc Tryz.prog w base spare held n f9.type ((cs.drop f9.offset).take (Tryz.prog.cellsOf f9.type)) =some y9∧DataW.trod enc Tryz.prog w base spare held n f10.type ((cs.drop f10.offset).take (Tryz.prog.cellsOf f10.type)) =some y10∧DataW.trod enc Tryz.prog w base spare held n f11.type ((cs.drop f11.offset).take (Tryz.prog.cellsOf f11.type)) =some y11∧DataW.trod enc Tryz.prog w base spare held n f12.type ((cs.drop f12.offset).take (Tryz.prog.cellsOf f12.type)) =some y12 :=by
 obtain ⟨xs,n,_,rfl,hl,hlen,hf⟩ :=DataW.trod_struct ht h
 match xs,hlen with
 | [y0,y1,y2,y3,y4,y5,y6,y7,y8,y9,y10,y11,y12],_=>exact ⟨y0,y1,y2,y3,y4,y5,y6,y7,y8,y9,y10,y11,y12,n,by simp,hl,by simpa using hf 0 f0 rfl,by simpa using hf 1 f1 rfl,by simpa using hf 2 f2 rfl,by simpa using hf 3 f3 rfl,by simpa using hf 4 f4 rfl,by simpa using hf 5 f5 rfl,by simpa using hf 6 f6 rfl,by simpa using hf 7 f7 rfl,by simpa using hf 8 f8 rfl,by simpa using hf 9 f9 rfl,by simpa using hf 10 f10 rfl,by simpa using hf 11 f11 rfl,by simpa using hf 12 f12 rfl⟩
set_option maxHeartbeats 1000000 in
theorem Kn : ∀ (N fuel :Nat) (cs :List Value) (x :DataW H×List MemPlace),Rows.uptoBulk x.1≤N→DataW.trod enc Tryz.prog w base spare held fuel 34 cs=some x→
  ∃e :E,cs.length=8∧IsE (fun k=>k<w.heap.size) w e (.agg cs.toArray) ∧ (Jq e∧D4 e) ∧e.nodes≤Rows.uptoBulk x.1 :=by
 intro N
 induction N with
 | zero=>intro fuel cs x h;have :=Nl x.1;omega
 | succ N ih=>
  intro fuel cs x hN h
  obtain ⟨f0,f1,f2,f3,f4,f5,hu,⟨o0,o1,o2,o3,o4,o5⟩,⟨t0,t1,t2,t3,t4,t5⟩⟩ :=Yx
  obtain ⟨y0,y1,y2,y3,y4,y5,n,hx,hl,h0,h1,h2,h3,h4,h5⟩ :=Vc hu h
  rw [G5] at hl
  rw [o0,t0,Fp] at h0
  rw [o1,t1,Mv] at h1
  rw [o2,t2,Ca] at h2
  rw [o3,t3,Ca] at h3
  rw [o4,t4,Fp] at h4
  rw [o5,t5,Hy] at h5
  match cs,hl with
  | [c0,c1,c2,c3,c4,c5,c6,c7],_=>
   simp only [List.drop_zero,List.take_succ_cons,List.take_zero,List.drop_succ_cons] at h0 h1 h2 h3 h4 h5
   obtain ⟨a,e0,_,_⟩ :=DataW.trod_int Tryz.underlying3 h0
   obtain ⟨v,e1,hvs,_⟩ :=U7 h1
   obtain ⟨s,e2,_,hs2⟩ :=DataW.trod_string Tryz.underlying9 h2
   obtain ⟨nm,e3,_,hs3⟩ :=DataW.trod_string Tryz.underlying9 h3
   obtain ⟨q,e4,_,_⟩ :=DataW.trod_int Tryz.underlying3 h4
   obtain ⟨vk,vn,vs⟩ :=v
   simp only [V.cells,List.cons.injEq,and_true] at e0 e1 e2 e3 e4
   obtain ⟨e10,e11,e12⟩ :=e1
   subst e0 e10 e11 e12 e2 e3 e4
   have hb5 :Rows.uptoBulk y5.1+1≤Rows.uptoBulk x.1 :=by rw [hx];simp only [Rows.uptoBulk,Rows.uptoBulkAll];omega
   rcases open_slice Tryz.underlying30 h5 with ⟨hcs,rfl⟩ | ⟨ad,len,cap,m,n5,D,Pl,hcs,hb,hlc,hm,hmm,rfl,hxx⟩
   ·simp only [List.cons.injEq,and_true] at hcs
    subst hcs
    exact ⟨.mk a ⟨vk,vn,vs⟩ s nm q [],rfl,Dd (x := ⟨vk,vn,vs⟩) (Gj.nil _ _),⟨by rw [Jq,Nn];exact ⟨hvs,trivial⟩,by rw [D4,Ea];exact ⟨hvs,hs2,hs3,trivial⟩⟩,by simp only [E.nodes,Bs];have :=Nl x.1;omega⟩
   ·simp only [List.cons.injEq,and_true] at hcs
    subst hcs
    have hlm :len≤m :=by rw [hmm];split<;>omega
    have hbD :Rows.uptoBulkAll ((List.range len).map D) +2≤Rows.uptoBulk x.1 :=by simp only [Rows.uptoBulk] at hb5;omega
    have each : ∀i,i<len→ ∃r :E×List Value,r.2.length=8∧IsE (fun k=>k<w.heap.size) w r.1 (.agg r.2.toArray) ∧ (Jq r.1∧D4 r.1) ∧r.1.nodes≤Rows.uptoBulk (D i) ∧ ∀j u,r.2[j]? =some u→w.cell? (ad.add (i*8+j)) =some u :=by
     intro i hi
     obtain ⟨cs',k1,k2⟩ :=hxx i (by omega)
     rw [G5] at k1
     obtain ⟨_,hlen,hcell⟩ :=World.cells?_some k1
     have hbi :=T1 (D :=D) len i hi
     obtain ⟨e,r1,r2,r3,r4⟩ :=ih n5 cs' (D i,Pl i) (by simp only;omega) k2
     refine ⟨(e,cs'),r1,r2,r3,r4,fun j u hj=> ?_⟩
     have hj8 :j<8 :=by have := (List.getElem?_eq_some_iff.1 hj).1;simp only at this;omega
     have :=hcell j (by omega)
     rw [add_add] at this
     rw [this];exact hj
    have :Inhabited (E×List Value) := ⟨(E.nil,[])⟩
    obtain ⟨f,hf⟩ :=choose_lt each
    refine ⟨.mk a ⟨vk,vn,vs⟩ s nm q ((List.range len).map fun i=> (f i).1),rfl, ?_, ?_, ?_⟩
    ·refine Dd (x := ⟨vk,vn,vs⟩) ⟨(List.range len).flatMap fun i=> (f i).2, ?_,Km len fun i hi=> ⟨(hf i hi).1,(hf i hi).2.1⟩⟩
     have hall :=Mn (Km (w :=w) (F :=fun k=>k<w.heap.size) (f :=fun i=> (f i).1) (g :=fun i=> (f i).2) len fun i hi=> ⟨(hf i hi).1,(hf i hi).2.1⟩)
     refine ⟨hall, ?_⟩
     rcases Nat.eq_zero_or_pos len with rfl | hpos
     ·exact .inl ⟨by simp,some ad,cap,rfl,fun h=>by cases h⟩
     ·obtain ⟨b,off,spot⟩ :=ad
      obtain ⟨u0,hu0⟩ : ∃u,(f 0).2[0]? =some u := ⟨_,List.getElem?_eq_getElem (by rw [(hf 0 hpos).1];omega)⟩
      have hc := (hf 0 hpos).2.2.2.2 0 u0 hu0
      have hspot :spot=none :=by simpa [Addr.add] using World.cell?_spot hc
      subst hspot
      have hblt :b<w.heap.size :=by have :=U8 hc;simpa [Addr.add] using this
      refine .inr ⟨by simpa using hpos,b,off,cap,by simp,hblt,hblt,by simpa using hlc,hm,fun j u hj=> ?_⟩
      have hjl :j<len*8 :=by
       have := (List.getElem?_eq_some_iff.1 hj).1
       rw [hall] at this;simpa using this
      have hfe :=Oi (g :=fun i=> (f i).2) len (j/8) (fun i hi=> (hf i hi).1) (by omega) (j %8) (by omega)
      rw [show j/8*8+j %8=j from by omega] at hfe
      rw [hfe] at hj
      have := (hf (j/8) (by omega)).2.2.2.2 (j %8) u hj
      rw [show j/8*8+j %8=j from by omega,Addr.add_lit] at this
      exact this
    ·exact ⟨by rw [Jq];exact ⟨hvs,Xe len fun i hi=> (hf i hi).2.2.1.1⟩,by rw [D4];exact ⟨hvs,hs2,hs3,Vf len fun i hi=> (hf i hi).2.2.1.2⟩⟩
    ·have :=Oh (D :=D) (f :=fun i=> (f i).1) len fun i hi=> (hf i hi).2.2.2.1
     simp only [E.nodes]
     omega
def QE (B :Nat) (e :E) :Prop := (Jq e∧D4 e) ∧e.nodes≤B
theorem Yz {t et :TypeId} (hu :Tryz.prog.underlying t=some (.slice et)) {fuel :Nat} {cs :List Value} {x :DataW H×List MemPlace} (h :DataW.trod enc Tryz.prog w base spare held fuel t cs=some x) : ∃sv,cs= [sv] :=by
 rcases open_slice hu h with ⟨hcs,_⟩ | ⟨ad,len,cap,m,n5,D,Pl,hcs,_⟩
 ·exact ⟨_,hcs⟩
 ·exact ⟨_,hcs⟩
theorem Y1 {B fuel :Nat} {cs :List Value} {x :DataW H×List MemPlace} (hB :Rows.uptoBulk x.1≤B) (h :DataW.trod enc Tryz.prog w base spare held fuel 56 cs=some x) : ∃a :Wd×E,C5.R (fun k=>k<w.heap.size) w a cs∧a.1.size≤maxLen∧QE B a.2 :=by
 obtain ⟨f0,f1,hu,o0,o1,t0,t1⟩ :=Aac
 obtain ⟨y0,y1,n,rfl,hl,h0,h1⟩ :=trod_struct2 hu h
 rw [P6] at hl
 rw [o0,t0,Ca] at h0
 rw [o1,t1,G5] at h1
 match cs,hl with
 | c0 ::d,hl=>
  simp only [List.drop_zero,List.take_succ_cons,List.take_zero,List.drop_succ_cons] at h0 h1
  rw [List.take_of_length_le (by simp at hl;omega)] at h1
  obtain ⟨s,e0,_,hs⟩ :=DataW.trod_string Tryz.underlying9 h0
  obtain ⟨e,r1,r2,r3,r4⟩ :=Kn _ _ d y1 (Nat.le_refl _) h1
  simp only [List.cons.injEq,and_true] at e0
  subst e0
  refine ⟨(s,e),⟨d,rfl,r1,r2⟩,hs,r3,Nat.le_trans r4 (Nat.le_trans ?_ hB)⟩
  simp only [Rows.uptoBulk,Rows.uptoBulkAll]
  omega
end
end Go.Proofs.YtmgkcjiejmhgcaaGreatDoor

