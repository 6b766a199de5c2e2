/-
  2 texts of this proof in one, in build order: BOpen, KVar.
-/
import Derived.Shelf.Strings.SlTrimAscii
import Derived.Shelf.Strings.Search3
import Derived.Shelf.LaysM
import Derived.Test.YtmgkcjiejmhgcaaGreatDoorProg
import Derived.Test.YtmgkcjiejmhgcaaGreatDoorJ28
import Derived.Test.YtmgkcjiejmhgcaaGreatDoorJ52
set_option linter.unusedSimpArgs false
set_option linter.unusedVariables false
namespace Go.Proofs.YtmgkcjiejmhgcaaGreatDoor
open Go.RowKit Go.Deep Go.ChangeShapes
theorem Oj : ∀l :List E,Bs l= (l.map E.nodes).sum
 | [] =>by simp [Bs]
 | e ::l=>by rw [Bs,Oj l];simp
section
variable {H :Type} {enc :TypeId×Value→H} {w :World} {base :Nat} {spare :Nat→Bool} {held :Bool}
theorem P7 {D :Nat→DataW H} {g :Nat→Nat} : ∀n :Nat,(∀i,i<n→g i≤Rows.uptoBulk (D i)) → ((List.range n).map g).sum≤Rows.uptoBulkAll ((List.range n).map D)
 | 0,_=>by simp
 | n+1,h=>by
  rw [List.range_succ,List.map_append,List.map_append,R8,List.sum_append]
  have h1 :=P7 n fun i hi=>h i (by omega)
  have h2 :=h n (by omega)
  simp only [List.map_cons,List.map_nil,List.sum_cons,List.sum_nil,Rows.uptoBulkAll]
  omega
theorem Ok {α :Type} (d0 :α) (K :Elem α) (t et :TypeId) (hu :Tryz.prog.underlying t=some (.slice et)) (hc :Tryz.prog.cellsOf et=K.size) (hK :0<K.size) (B :Nat) (Q :α→Prop) (μ :α→Nat)
  (each : ∀ (fuel :Nat) (cs :List Value) (x :DataW H×List MemPlace),Rows.uptoBulk x.1≤B→DataW.trod enc Tryz.prog w base spare held fuel et cs=some x→ ∃a,K.R (fun k=>k<w.heap.size) w a cs∧Q a∧μ a≤Rows.uptoBulk x.1)
  {fuel :Nat} {sv :Value} {x :DataW H×List MemPlace} (hB :Rows.uptoBulk x.1≤B) (h :DataW.trod enc Tryz.prog w base spare held fuel t [sv] =some x) :
  ∃l :List α,IsL K (fun k=>k<w.heap.size) w sv l∧ (∀a∈l,Q a) ∧ (l.map μ).sum≤Rows.uptoBulk x.1∧l.length≤Rows.uptoBulk x.1 :=by
 rcases open_slice hu h with ⟨hcs,rfl⟩ | ⟨ad,len,cap,m,n5,D,Pl,hcs,hb,hlc,hm,hmm,rfl,hxx⟩
 ·simp only [List.cons.injEq,and_true] at hcs
  subst hcs
  exact ⟨[],IsL.nil K _ w,by simp,Nat.zero_le _,Nat.zero_le _⟩
 ·simp only [List.cons.injEq,and_true] at hcs
  subst hcs
  have hlm :len≤m :=by rw [hmm];split<;>omega
  have hbD :Rows.uptoBulkAll ((List.range len).map D) ≤B :=by simp only [Rows.uptoBulk] at hB;omega
  have hll :len≤Rows.uptoBulkAll ((List.range len).map D) :=by have :=Mw ((List.range len).map D);simpa using this
  have e1 : ∀i,i<len→ ∃r :α×List Value,K.R (fun k=>k<w.heap.size) w r.1 r.2∧Q r.1∧μ r.1≤Rows.uptoBulk (D i) ∧ ∀j u,r.2[j]? =some u→w.cell? (ad.add (i*K.size+j)) =some u :=by
   intro i hi
   obtain ⟨cs',h1,h2⟩ :=hxx i (by omega)
   rw [hc] at h1
   obtain ⟨_,hlen,hcell⟩ :=World.cells?_some h1
   obtain ⟨a,ha,hq,hm2⟩ :=each n5 cs' (D i,Pl i) (Nat.le_trans (O5 len i hi) hbD) h2
   refine ⟨(a,cs'),ha,hq,hm2,fun j u hj=> ?_⟩
   have hjl := (List.getElem?_eq_some_iff.1 hj).1
   simp only at hjl
   have :=hcell j (by omega)
   rw [add_add] at this
   rw [this]
   exact hj
  have :Inhabited (α×List Value) := ⟨(d0,[])⟩
  obtain ⟨f,hf⟩ :=choose_lt e1
  refine ⟨(List.range len).map fun i=> (f i).1,⟨(List.range len).flatMap fun i=> (f i).2, ?_,L6 len fun i hi=> (hf i hi).1⟩, ?_, ?_, ?_⟩
  ·have hle : ∀i,i<len→ (f i).2.length=K.size :=fun i hi=>K.len (hf i hi).1
   refine ⟨by rw [Hn len hle];simp, ?_⟩
   rcases Nat.eq_zero_or_pos len with rfl | hpos
   ·exact .inl ⟨by simp,_,cap,rfl,fun h=>by cases h⟩
   ·obtain ⟨b,off,spot⟩ :=ad
    obtain ⟨u0,hu0⟩ : ∃u,(f 0).2[0]? =some u := ⟨_,List.getElem?_eq_getElem (by rw [hle 0 hpos];exact hK)⟩
    have hc0 := (hf 0 hpos).2.2.2 0 u0 hu0
    have hspot :spot=none :=by simpa [Addr.add] using World.cell?_spot hc0
    subst hspot
    have hlt :b<w.heap.size :=by have :=block_lt_of_cell hc0;simpa [Addr.add] using this
    refine .inr ⟨by simpa using hpos,b,off,cap,by simp,hlt,hlt,by simpa using hlc,hm,fun j u hj=> ?_⟩
    have hjl := (List.getElem?_eq_some_iff.1 hj).1
    rw [Hn len hle] at hjl
    have hi :j/K.size<len :=Nat.div_lt_of_lt_mul (by rw [Nat.mul_comm];exact hjl)
    have hj2 :j %K.size<K.size :=Nat.mod_lt _ hK
    have ej :j/K.size*K.size+j %K.size=j :=by rw [Nat.mul_comm];exact Nat.div_add_mod j K.size
    rw [←ej,Nm len _ hle hi _ hj2] at hj
    have := (hf _ hi).2.2.2 _ u hj
    rw [Addr.add_lit,ej] at this
    exact this
  ·intro a ha
   obtain ⟨i,hi,rfl⟩ :=List.mem_map.1 ha
   exact (hf i (List.mem_range.1 hi)).2.1
  ·rw [List.map_map]
   have :=P7 (D :=D) (g :=μ∘fun i=> (f i).1) len fun i hi=> (hf i hi).2.2.1
   simp only [Rows.uptoBulk]
   omega
  ·simp only [Rows.uptoBulk,List.length_map,List.length_range];omega
theorem Jr {B fuel :Nat} {sv :Value} {x :DataW H×List MemPlace} (hB :Rows.uptoBulk x.1≤B) (h :DataW.trod enc Tryz.prog w base spare held fuel 30 [sv] =some x) : ∃l :List E,IsL As (fun k=>k<w.heap.size) w sv l∧ (∀a∈l,QE B a) ∧Bs l≤Rows.uptoBulk x.1∧l.length≤Rows.uptoBulk x.1 :=by
 obtain ⟨l,h1,h2,h3,h4⟩ :=Ok E.nil As 30 34 Tryz.underlying30 G5 (by decide) B (QE B) E.nodes (fun fuel cs y hy hx=>by
  obtain ⟨e,h1,h2,h3,h4⟩ :=Kn _ fuel cs y (Nat.le_refl _) hx
  exact ⟨e,⟨h1,h2⟩,⟨h3,Nat.le_trans h4 hy⟩,h4⟩) hB h
 exact ⟨l,h1,h2,by rw [Oj];exact h3,h4⟩
set_option maxHeartbeats 2000000 in
theorem Xg {fuel :Nat} {cs :List Value} {x :DataW H×List MemPlace} (hx :Rows.uptoBulk x.1≤16777216) (h :DataW.trod enc Tryz.prog w base spare held fuel 36 cs=some x) :
  ∃st :Stm,Abs.R (fun k=>k<w.heap.size) w st cs∧FitB st∧FitP st∧st.rows.flatten.length≤16777216∧ (∀p∈st.sets,p.2.nodes≤16777216∧Jq p.2) ∧ (st.wher.nodes≤16777216∧Jq st.wher) :=by
 obtain ⟨f0,f1,f2,f3,f4,f5,f6,f7,f8,f9,f10,f11,f12,hu,⟨o0,o1,o2,o3,o4,o5,o6,o7,o8,o9,o10,o11,o12⟩,⟨t0,t1,t2,t3,t4,t5,t6,t7,t8,t9,t10,t11,t12⟩⟩ :=Aad
 obtain ⟨y0,y1,y2,y3,y4,y5,y6,y7,y8,y9,y10,y11,y12,n,hxx,hl,h0,h1,h2,h3,h4,h5,h6,h7,h8,h9,h10,h11,h12⟩ :=Yy hu h
 rw [Xf] at hl
 rw [o0,t0,Fp] at h0
 rw [o1,t1,Ca] at h1
 rw [o2,t2,Ca] at h2
 rw [o3,t3,Ca] at h3
 rw [o4,t4,Og] at h4
 rw [o5,t5,Ti] at h5
 rw [o6,t6,Vd] at h6
 rw [o7,t7,Ve] at h7
 rw [o8,t8,Hy] at h8
 rw [o9,t9,G5] at h9
 rw [o10,t10,Hy] at h10
 rw [o11,t11,Of] at h11
 rw [o12,t12,Fp] at h12
 rw [hxx] at hx
 simp only [Rows.uptoBulk,Rows.uptoBulkAll] at hx
 match cs,hl with
 | [c0,c1,c2,c3,c4,c5,c6,c7,c8,c9,c10,c11,c12,c13,c14,c15,c16,c17,c18,c19],_=>
  simp only [List.drop_zero,List.take_succ_cons,List.take_zero,List.drop_succ_cons] at h0 h1 h2 h3 h4 h5 h6 h7 h8 h9 h10 h11 h12
  obtain ⟨k,e0,_,_⟩ :=DataW.trod_int Tryz.underlying3 h0
  obtain ⟨nm,e1,_,s1⟩ :=DataW.trod_string Tryz.underlying9 h1
  obtain ⟨tb,e2,_,s2⟩ :=DataW.trod_string Tryz.underlying9 h2
  obtain ⟨cl,e3,_,s3⟩ :=DataW.trod_string Tryz.underlying9 h3
  obtain ⟨lc,l4,q4,n4⟩ :=Gt (⟨noW,0,false⟩ :ColD) Bg 26 66 Tryz.underlying26 L7 (by decide) _ (fun a=>a.name.size≤maxLen) (fun fuel cs x _ hx=>R9 hx _) (Nat.le_refl _) h4
  obtain ⟨lr,l5,q5,m5,n5⟩ :=Ok ([] :List E) Ds 27 30 Tryz.underlying27 Hy (by decide) _ (fun r=> (∀a∈r,QE 16777216 a) ∧r.length≤16777216∧Bs r≤16777216) List.length (fun fuel cs y hy hx2=>by
   obtain ⟨sv,rfl⟩ :=Yz Tryz.underlying30 hx2
   obtain ⟨l,r1,r2,r4,r3⟩ :=Jr (B :=16777216) (Nat.le_trans hy (by omega)) hx2
   exact ⟨l,⟨sv,rfl,r1⟩,⟨r2,Nat.le_trans r3 (Nat.le_trans hy (by omega)),Nat.le_trans r4 (Nat.le_trans hy (by omega))⟩,r3⟩) (Nat.le_refl _) h5
  obtain ⟨ls,l6,q6,n6⟩ :=Gt ((noW,E.nil) :Wd×E) C5 28 56 Tryz.underlying28 P6 (by decide) _ (fun a=>a.1.size≤maxLen∧QE 16777216 a.2) (fun fuel cs y hy hx2=>Y1 (Nat.le_trans hy (by omega)) hx2) (Nat.le_refl _) h6
  obtain ⟨lf,l7,q7,n7⟩ :=Gt (noW :Wd) Fz 29 9 Tryz.underlying29 Ca (by decide) _ (fun a=>a.size≤maxLen) (fun fuel cs y _ hx2=>by
   obtain ⟨s,r1,_,r2⟩ :=DataW.trod_string Tryz.underlying9 hx2
   exact ⟨s,r1,r2⟩) (Nat.le_refl _) h7
  obtain ⟨lo,l8,q8,m8,n8⟩ :=Jr (B :=16777216) (by omega) h8
  obtain ⟨wh,r1,r2,r3,r4⟩ :=Kn _ _ _ y9 (Nat.le_refl _) h9
  obtain ⟨ld,l10,q10,m10,n10⟩ :=Jr (B :=16777216) (by omega) h10
  obtain ⟨dn,e11,_⟩ :=DataW.trod_bool Tryz.underlying4 h11
  obtain ⟨nn,e12,_,_⟩ :=DataW.trod_int Tryz.underlying3 h12
  simp only [List.cons.injEq,and_true] at e0 e1 e2 e3 e11 e12
  subst e0 e1 e2 e3 e11 e12
  obtain ⟨op,xk,xn,xs,s,nmv,m9,ao,kk,cap,he8⟩ :=Cm (F :=fun k=>k<w.heap.size) (w :=w) (e :=wh) ⟨r1,r2⟩
  simp only [List.cons.injEq,and_true] at he8
  obtain ⟨rfl,rfl,rfl,rfl,rfl,rfl,rfl,rfl⟩ :=he8
  refine ⟨⟨k,nm,tb,cl,lc,lr,ls,lf,lo,wh,ld,dn,nn⟩,I1 l4 l5 l6 l7 l8 r2 l10, ?_,⟨Nat.le_trans n4 (by omega),Nat.le_trans n7 (by omega),Nat.le_trans n5 (by omega),Nat.le_trans n6 (by omega),fun r hr=> (q5 r hr).2.2,fun p hp=> (q6 p hp).2.2,Nat.le_trans m8 (by omega),Nat.le_trans r4 (by omega),Nat.le_trans m10 (by omega)⟩,(by rw [List.length_flatten];exact Nat.le_trans m5 (by omega)),fun p hp=> ⟨(q6 p hp).2.2,(q6 p hp).2.1.1⟩,⟨Nat.le_trans r4 (by omega),r3.1⟩⟩
  exact ⟨⟨fun r hr=>Jk fun e he=> ((q5 r hr).1 e he).1.2,fun p hp=> ⟨(q6 p hp).2.1.2,(q6 p hp).1⟩,Jk fun e he=> (q8 e he).1.2,Jk fun e he=> (q10 e he).1.2,r3.2,s1,s2,s3,q4,q7⟩,s1,q4,Nat.le_trans n5 (by omega),fun r hr=> (q5 r hr).2.1,Nat.le_trans n6 (by omega),fun p hp=> (q6 p hp).1,Nat.le_trans n8 (by omega),Nat.le_trans n10 (by omega),q7⟩
theorem Xh {B fuel :Nat} {cs :List Value} {x :DataW H×List MemPlace} (hB :Rows.uptoBulk x.1≤B) (h :DataW.trod enc Tryz.prog w base spare held fuel 47 cs=some x) : ∃a :TabD,A4.R (fun k=>k<w.heap.size) w a cs∧Js a∧a.cols.length≤B :=by
 obtain ⟨f0,f1,hu,o0,o1,t0,t1⟩ :=Aaa
 obtain ⟨y0,y1,n,hxx,hl,h0,h1⟩ :=trod_struct2 hu h
 rw [hxx] at hB
 simp only [Rows.uptoBulk,Rows.uptoBulkAll] at hB
 rw [P0] at hl
 rw [o0,t0,Ca] at h0
 rw [o1,t1,Og] at h1
 match cs,hl with
 | [c0,c1],_=>
  simp only [List.drop_zero,List.take_succ_cons,List.take_zero,List.drop_succ_cons] at h0 h1
  obtain ⟨s,e0,_,hs⟩ :=DataW.trod_string Tryz.underlying9 h0
  obtain ⟨l,hl,hq,hn⟩ :=Gt (⟨noW,0,false⟩ :ColD) Bg 26 66 Tryz.underlying26 L7 (by decide) _ (fun a=>a.name.size≤maxLen) (fun fuel cs x _ hx=>R9 hx _) (Nat.le_refl _) h1
  simp only [List.cons.injEq,and_true] at e0
  subst e0
  exact ⟨⟨s,l⟩,⟨c1,rfl,hl⟩,⟨hs,hq⟩,Nat.le_trans hn (by omega)⟩
theorem Xi {B fuel :Nat} {cs :List Value} {x :DataW H×List MemPlace} (hB :Rows.uptoBulk x.1≤B) (h :DataW.trod enc Tryz.prog w base spare held fuel 25 cs=some x) :
  ∃c :CatD,Bh (fun k=>k<w.heap.size) w c (.agg cs.toArray) ∧Gv c∧c.tables.length≤B∧c.indexes.length≤B∧ ∀t∈c.tables,t.cols.length≤B :=by
 obtain ⟨f0,f1,hu,o0,o1,t0,t1⟩ :=Aab
 obtain ⟨y0,y1,n,hxx,hl,h0,h1⟩ :=trod_struct2 hu h
 rw [hxx] at hB
 simp only [Rows.uptoBulk,Rows.uptoBulkAll] at hB
 rw [Xd] at hl
 rw [o0,t0,U9] at h0
 rw [o1,t1,Va] at h1
 match cs,hl with
 | [c0,c1],_=>
  simp only [List.drop_zero,List.take_succ_cons,List.take_zero,List.drop_succ_cons] at h0 h1
  obtain ⟨l,hl,hq,hn⟩ :=Gt (⟨noW,[]⟩ :TabD) A4 22 47 Tryz.underlying22 P0 (by decide) B (fun t=>Js t∧t.cols.length≤B) (fun fuel cs x hb hx=>Xh hb hx) (by omega) h0
  obtain ⟨m,hm,hr,hk⟩ :=Gt (⟨noW,noW,noW⟩ :IdxD) B7 23 64 Tryz.underlying23 P5 (by decide) _ (fun a=>a.name.size≤maxLen∧a.table.size≤maxLen∧a.col.size≤maxLen) (fun fuel cs x _ hx=>Yw hx _) (Nat.le_refl _) h1
  exact ⟨⟨l,m⟩,⟨c0,c1,rfl,hl,hm⟩,⟨fun t ht=> (hq t ht).1,hr⟩,Nat.le_trans hn (by omega),Nat.le_trans hk (by omega),fun t ht=> (hq t ht).2⟩
end
end Go.Proofs.YtmgkcjiejmhgcaaGreatDoor

namespace Go.Proofs
open Go.Shelf
def Tryz.laysM144_ren :Go.Shelf.Ren := ⟨fun | 144=>62 | 143=>109 | 219=>125 | 217=>136 | 225=>137 | 224=>138 | 267=>139 | 266=>148 | 314=>149 | n=>n,fun | 9=>9 | 4=>4 | 3=>3 | 5=>5 | 46=>142 | 146=>168 | 51=>167 | n=>n,fun | 1=>0 | n=>n⟩
theorem Tryz.laysM144 :Go.Proofs.LaysM.n144 Tryz.prog Tryz.laysM144_ren := {
 mixed :=by kernel_rfl
 f143 :=Tryz.func109.trans (congrArg some (by kernel_rfl))
 f144 :=Tryz.func62.trans (congrArg some (by kernel_rfl))
 f217 :=Tryz.func136.trans (congrArg some (by kernel_rfl))
 f219 :=Tryz.func125.trans (congrArg some (by kernel_rfl))
 f224 :=Tryz.func138.trans (congrArg some (by kernel_rfl))
 f225 :=Tryz.func137.trans (congrArg some (by kernel_rfl))
 f266 :=Tryz.func148.trans (congrArg some (by kernel_rfl))
 f267 :=Tryz.func139.trans (congrArg some (by kernel_rfl))
 f314 :=Tryz.func149.trans (congrArg some (by kernel_rfl))
 t3 :=Tryz.underlying3
 a3 :=Tryz.isAgg3
 z3 :=Tryz.sizeOf3
 v3 :=Tryz.zeroValue3
 t4 :=Tryz.underlying4
 a4 :=Tryz.isAgg4
 z4 :=Tryz.sizeOf4
 v4 :=Tryz.zeroValue4
 t5 :=Tryz.underlying5
 a5 :=Tryz.isAgg5
 z5 :=Tryz.sizeOf5
 v5 :=Tryz.zeroValue5
 t9 :=Tryz.underlying9
 a9 :=Tryz.isAgg9
 z9 :=Tryz.sizeOf9
 v9 :=Tryz.zeroValue9
 t46 :=Tryz.underlying142
 a46 :=Tryz.isAgg142
 z46 :=Tryz.sizeOf142
 v46 :=Tryz.zeroValue142
 t51 :=Tryz.underlying167
 a51 :=Tryz.isAgg167
 z51 :=Tryz.sizeOf167
 v51 :=Tryz.zeroValue167
 t146 :=Tryz.underlying168
 a146 :=Tryz.isAgg168
 z146 :=Tryz.sizeOf168
 v146 :=Tryz.zeroValue168
 g1 :=by kernel_rfl
 i3 :=by kernel_rfl
 i4 :=by kernel_rfl
 i5 :=by kernel_rfl
 i9 :=by kernel_rfl
 i46 :=by kernel_rfl
 i51 :=by kernel_rfl
 i146 :=by kernel_rfl
 m1 :=by kernel_rfl
 s1_3 :=fun w h=>Go.Proofs.cell_of_shapedOpen_int (zero := #[.int .i64 0]) (t :=3) h (of_decide_eq_true (by kernel_rfl)) (by kernel_rfl) rfl (by kernel_rfl) (by kernel_rfl) Tryz.underlying3}
end Go.Proofs

