/-
  5 texts of this proof in one, in build order: BCols, WMath, Vals, FMath, BMath.
-/
import Derived.Test.YtmgkcjiejmhgcaaGreatDoorRows
import Derived.Laws.AppendOwn
import Derived.Test.YtmgkcjiejmhgcaaGreatDoorJ01
import Derived.Test.YtmgkcjiejmhgcaaGreatDoorJ03
import Derived.Test.YtmgkcjiejmhgcaaGreatDoorJ13
import Derived.Test.YtmgkcjiejmhgcaaGreatDoorJ20
import Derived.Test.YtmgkcjiejmhgcaaGreatDoorJ26
set_option linter.unusedSimpArgs false
set_option linter.unusedVariables false
namespace Go.Proofs.YtmgkcjiejmhgcaaGreatDoor
open Go.RowKit Go.Maps
def B8 :Elem (Wd×ColD) where
 size :=4
 R _ _ x c :=c= [.string x.1, .string x.2.name, .int .i64 x.2.ty, .bool x.2.must]
 len h :=by subst h;rfl
 keep _ h :=h
 mono _ h :=h
def Ax (S :List TabD) :List (Wd×ColD) :=S.flatMap fun t=>t.cols.map fun c=> (t.name,c)
theorem S8 : (Tryz.prog.info? 68).map (fun i=> (i.zero,i.size,i.bytes)) =some (some (.agg #[.string ⟨#[]⟩, .string ⟨#[]⟩, .int .i64 0, .bool false]),4,48) :=by kernel_rfl
theorem Uk {S :List TabD} {j :Nat} {t :TabD} (h :S[j]? =some t) :Ax (S.take (j+1)) =Ax (S.take j) ++t.cols.map fun c=> (t.name,c) :=by
 rw [List.take_add_one,h];simp [Ax]
theorem Pp (S :List TabD) : (Ax S).length= (Bv S).length :=by simp [Ax,Bv]
theorem Ku (S :List TabD) (hS :S.length≤1000) (hsc : ∀t∈S,t.cols.length≤1000000) (j :Nat) : (Ax (S.take j)).length≤1000000000 :=by
 rw [Pp];exact Je S hS hsc j
set_option maxRecDepth 100000 in
set_option maxHeartbeats 8000000 in
theorem N9 (S :List TabD) (hS :S.length≤1000) (hsc : ∀t∈S,t.cols.length≤1000000) (sv :Value) (C :Nat) (w :World) (hl :IsL A4 (fun k=>k<C) w sv S) (_hC :C≤w.heap.size) :
  Calls Tryz.prog 26 #[sv] w fun r w'=> (∃u,r= .returned u∧IsL B8 (Fr w.heap.size) w' u (Ax S)) ∧Below w.heap.size w w' :=by
 obtain ⟨so,sc,rfl⟩ :=hl.shape
 obtain ⟨i0,hi,hz0,hz1,hz2⟩ :=info_parts S8
 go_enter Tryz.func26,Tryz.ntmps26
 go_wp2_with fail
 go_loopw [3,10] (fun zv i wr=> ∃j :Nat,j≤S.length∧i= .int .i64 j∧Bl B8 68 0 w.heap.size zv (Ax (S.take j)) wr∧Below w.heap.size w wr) (fun _ i _=>S.length - (intOf i).toNat)
 case atStart=>exact ⟨0,Nat.zero_le _,rfl,Ed _ _ _ _ _,Below.refl _ _⟩
 case round=>
  obtain ⟨j,hj,rfl,hA,hbel⟩ :=hrel
  by_cases hjl :j<S.length
  ·obtain ⟨t,ht⟩ : ∃t,S[j]? =some t := ⟨_,List.getElem?_eq_getElem hjl⟩
   have HP :Hid (Ax (S.take (j+1)) =Ax (S.take j) ++t.cols.map fun c=> (t.name,c)) :=Uk ht
   have htc :=hsc t (List.mem_of_getElem? ht)
   have hPl :=Ku S hS hsc j
   obtain ⟨b,off,cs,rfl,hbC,hb,⟨cv,rfl,hcv⟩,hcell⟩ :=Av hl ht
   obtain ⟨co,cc,rfl⟩ :=hcv.shape
   have e0 :=hcell 0 _ rfl
   have e1 :=hcell 1 _ rfl
   simp only [A4,Nat.add_zero] at e0 e1
   have d0 := (hbel.cell (p := ⟨b,off+j*2,none⟩) hb).trans e0
   have d1 := (hbel.cell (p := ⟨b,off+j*2+1,none⟩) hb).trans e1
   have j0 : (0 :Int) ≤ (j :Int) :=by omega
   have j1 : (j :Int) < (S.length :Int) :=by omega
   have hbx :=Aq wr (.cells #[.string t.name, .slice co t.cols.length cc] 47)
   have hT1 :=Ab wr (.cells #[.string t.name, .slice co t.cols.length cc] 47)
   have hA1 :=hA.below hbx
   have hz0' : ∀k,u3.ownBlock=some k→k<wr.heap.size :=by obtain ⟨cs0,hown0,_⟩ :=hA;exact fun k hk=> (hown0.lt k hk).2
   have hbx2 :Below w.heap.size w (wr.alloc (.cells #[.string t.name, .slice co t.cols.length cc] 47)) :=hbel.trans (hbx.mono hbel.size)
   have tt0 :=Aa hT1 (j :=1) rfl
   generalize Ax (S.take j) =P at hA1 HP hPl
   clear hcell ht hA
   go_wp2_with fail
   generalize hpb :wr.heap.size=pb at*
   go_loopw [3,17] (fun zv i wi=> ∃m :Nat,m≤t.cols.length∧i= .int .i64 m∧Bl B8 68 0 w.heap.size zv ((P++ (t.cols.take m).map fun c=> (t.name,c))) wi∧wi.heap[pb]? =some (.cells #[.string t.name, .slice co t.cols.length cc] 47) ∧zv.ownBlock≠some pb∧Below w.heap.size w wi) (fun _ i _=>t.cols.length - (intOf i).toNat)
   case atStart=>exact ⟨0,Nat.zero_le _,rfl,by simpa using hA1,hT1,fun e=>by have :=hz0' _ e;omega,hbx2⟩
   case round=>
    obtain ⟨m,hm,rfl,hA2,hT2,hne,hbi⟩ :=hrel
    clear hA1 hT1 tt0 hbx2 hbx d0 d1 e0 e1 hbel
    have hlt2 :=lt_of_block hT2
    by_cases hml :m<t.cols.length
    ·obtain ⟨cd,hcd⟩ : ∃a,t.cols[m]? =some a := ⟨_,List.getElem?_eq_getElem hml⟩
     have HT :Hid ((P++ (t.cols.take (m+1)).map fun c=> (t.name,c)) = (P++ (t.cols.take m).map fun c=> (t.name,c)) ++ [(t.name,cd)]) :=by
      show _=_
      rw [List.take_add_one,hcd]
      simp only [Option.toList_some,List.map_append,List.map_cons,List.map_nil,←List.append_assoc]
     have HN :Hid (((P++ (t.cols.take m).map fun c=> (t.name,c))).length=P.length+m) :=by
      show _=_
      rw [List.length_append,List.length_map,List.length_take,Nat.min_eq_left hm]
     generalize (P++ (t.cols.take m).map fun c=> (t.name,c)) =A at hA2 HT HN
     obtain ⟨zo,zc,hzv⟩ :=hA2.shape
     obtain ⟨cs2,hown2,hall2⟩ :=hA2
     rw [HN.out] at hzv hown2
     have hn64 :P.length+m≤1001000000 :=by omega
     generalize P.length+m=n at*
     subst hzv
     obtain ⟨cb,cof,ccs,rfl,hcbC,hcb,hcR,hccell⟩ :=Av hcv hcd
     obtain rfl :=hcR
     have f0 :=hccell 0 _ rfl
     have f1 :=hccell 1 _ rfl
     have f2 :=hccell 2 _ rfl
     simp only [Bg,Nat.add_zero] at f0 f1 f2
     have g0 := (hbi.cell (p := ⟨cb,cof+m*3,none⟩) hcb).trans f0
     have g1 := (hbi.cell (p := ⟨cb,cof+m*3+1,none⟩) hcb).trans f1
     have g2 := (hbi.cell (p := ⟨cb,cof+m*3+2,none⟩) hcb).trans f2
     have m0 : (0 :Int) ≤ (m :Int) :=by omega
     have m1 : (m :Int) < (t.cols.length :Int) :=by omega
     have hbc :=Aq wr (.cells #[.string cd.name, .int .i64 cd.ty, .bool cd.must] 66)
     have t0 :=Aa ((hbc.block _ hlt2).trans hT2) (j :=0) rfl
     have bD :=Ab wr (.cells #[.string cd.name, .int .i64 cd.ty, .bool cd.must] 66)
     have y0 :=Aa bD (j :=0) rfl
     have y1 :=Aa bD (j :=1) rfl
     have y2 :=Aa bD (j :=2) rfl
     have hB3 :Below wr.heap.size wr ((wr.alloc (.cells #[.string cd.name, .int .i64 cd.ty, .bool cd.must] 66)).alloc (.cells [.string t.name, .string cd.name, .int .i64 cd.ty, .bool cd.must].toArray 68)) :=Bz _ _ _
     have hown3 :=Az hown2 hB3
     have hall3 :=hall2.keep (Ar hB3)
     have hnew :=Cp (wr.alloc (.cells #[.string cd.name, .int .i64 cd.ty, .bool cd.must] 66)) [.string t.name, .string cd.name, .int .i64 cd.ty, .bool cd.must] 68
     have hbase :w.heap.size≤ ((wr.alloc (.cells #[.string cd.name, .int .i64 cd.ty, .bool cd.must] 66)).alloc (.cells [.string t.name, .string cd.name, .int .i64 cd.ty, .bool cd.must].toArray 68)).heap.size :=Nat.le_trans hbi.size hB3.size
     have hT3 := (hB3.block _ hlt2).trans hT2
     clear f0 f1 f2 hccell hcd hcv
     go_wp2_with (first | (at_builtin;go_must (refine wpList_append_own_at _ rfl _ _ 60 rfl w.heap.size 68 i0 _ 4 48 Tryz.underlying60 hi hz0 hz1 hz2 rfl (by decide) _ _ _ rfl hown3 ⟨wr.heap.size+1,0,none⟩ 1 1 [.string t.name, .string cd.name, .int .i64 cd.ty, .bool cd.must] rfl rfl ?h0 ?h1 (by simp only [maxLen];omega) (by omega) hbase ?h2)))
     case h0=>simpa using hnew
     case h1=>simp only [List.forall_mem_cons];repeat (first | exact fun _ h=>absurd h List.not_mem_nil | refine ⟨rfl, ?_⟩)
     case h2=>
      intro z2 w4 hown4 hg4 _ hat
      have hat' :z2.ownBlock= (Value.slice zo n zc).ownBlock∨z2.ownBlock=some ((wr.alloc (.cells #[.string cd.name, .int .i64 cd.ty, .bool cd.must] 66)).alloc (.cells [.string t.name, .string cd.name, .int .i64 cd.ty, .bool cd.must].toArray 68)).heap.size :=by simpa using hat
      have hst :=Cb (K :=B8) (ty :=68) (a := (t.name,cd)) (Nat.zero_le _) (fun k hk=> (hown2.lt k hk).1) (by rw [HN.out];exact hown4) hall3 rfl hg4 hat'
      have hbb :Below w.heap.size w w4 := (hbi.trans (hB3.mono hbi.size)).grown hg4 hbase fun k hk=> (hown2.lt k hk).1
      have hT4 :=Bf hg4 hT3 (fun e=>hne e.symm)
      have hne4 :z2.ownBlock≠some pb :=by
       rcases hat' with h | h
       ·rw [h];exact hne
       ·rw [h];intro e;have :=Option.some.inj e;have :=hB3.size;omega
      go_wp2_with fail
      go_roundw
      case rel=>exact ⟨m+1,by omega,by go_num,by rw [HT.out];exact hst,hT4,hne4,hbb⟩
      case measure=>simp [intOf];omega
    ·have hml2 :m=t.cols.length :=by omega
     subst hml2
     rw [List.take_length] at hA2
     have hA3 :Bl B8 68 0 w.heap.size u3 (Ax (S.take (j+1))) wr :=by rw [HP.out];exact hA2
     go_wp2_with fail
     go_roundw
     case rel=>exact ⟨j+1,by omega,by go_num,hA3,hbi⟩
     case measure=>simp [intOf];omega
  ·have hjl2 :j=S.length :=by omega
   subst hjl2
   have hA2 :=hA.isL
   rw [List.take_length] at hA2
   go_wp2_with fail
   go_ret
   exact ⟨⟨_,rfl,hA2.mono (fun k _ hk=>by rcases hk with h | h;exact absurd h (Nat.not_lt_zero _);exact h)⟩,hbel⟩
end Go.Proofs.YtmgkcjiejmhgcaaGreatDoor

namespace Go.Proofs.YtmgkcjiejmhgcaaGreatDoor
open Go.RowKit Go.Maps
theorem X9 {α :Type} (l :List α) (q :α→Bool) :A1 (atI l q) 0 l.length=l.any q :=by
 rw [D5]
 rcases Fq l q with ⟨h1,h2⟩ | ⟨k,x,h1,h2,h3,h4⟩
 ·rw [h1,decide_eq_false (by decide)]
  symm
  rw [List.any_eq_false]
  intro x hx
  simpa using List.find?_eq_none.1 h2 x hx
 ·rw [h1,decide_eq_true (by omega)]
  symm
  rw [List.any_eq_true]
  exact ⟨x,List.mem_of_getElem? h2,h3⟩
theorem Oa (p :Nat→Bool) : ∀ (n i :Nat),A1 p (i+1) n=A1 (fun j=>p (j+1)) i n
 | 0,i=>rfl
 | n+1,i=>by rw [A1,A1,Oa p n (i+1)]
theorem Ul (a b :Wd) (l :List Wd) :D3 (a ::b ::l) = (klt a b&&D3 (b ::l)) :=by
 have e :Ce (a ::b ::l) 0= !klt a b :=rfl
 have e2 : (fun j=>Ce (a ::b ::l) (j+1)) =Ce (b ::l) :=by funext j;simp [Ce]
 simp only [D3,List.length_cons,Nat.add_sub_cancel]
 rw [A1,Oa,e,e2]
 simp
theorem Pq : ∀ (l :List Wd),D3 l=true↔Dj l
 | [] => ⟨fun _=>List.Pairwise.nil,fun _=>rfl⟩
 | [a] => ⟨fun _=>List.pairwise_singleton _ _,fun _=>rfl⟩
 | a ::b ::l=>by
  rw [Ul,Bool.and_eq_true,Pq (b ::l)]
  constructor
  ·rintro ⟨h1,h2⟩
   refine List.pairwise_cons.2 ⟨fun x hx=> ?_,h2⟩
   rcases List.mem_cons.1 hx with rfl | hx
   ·exact h1
   ·exact H7 h1 ((List.pairwise_cons.1 h2).1 x hx)
  ·intro h
   exact ⟨(List.pairwise_cons.1 h).1 b (by simp),(List.pairwise_cons.1 h).2⟩
theorem Rs (c :CatD) :Cq c=true↔c.tables.length≤3∧c.indexes.length≤4∧ (∀t∈c.tables,Cv t=true) ∧Dj (c.tables.map TabD.name) ∧ (∀x∈c.indexes,Eq c.tables x=false) ∧Dj (c.indexes.map IdxD.name) :=by
 simp only [Cq,Ij,J3,Bool.and_eq_true,decide_eq_true_eq,X9,Bool.not_eq_true',List.any_eq_false,Pq]
 constructor
 ·rintro ⟨⟨⟨h1,h2⟩,h3,h4⟩,h5,h6⟩
  exact ⟨h1,h2,fun t ht=>by simpa using h3 t ht,h4,fun x hx=>by simpa using h5 x hx,h6⟩
 ·rintro ⟨h1,h2,h3,h4,h5,h6⟩
  exact ⟨⟨⟨h1,h2⟩,fun t ht=>by simp [h3 t ht],h4⟩,fun x hx=>by simp [h5 x hx],h6⟩
end Go.Proofs.YtmgkcjiejmhgcaaGreatDoor

namespace Go.Proofs.YtmgkcjiejmhgcaaGreatDoor
open Go.RowKit
def Ob (w :World) (v :Value) (L :List V) :Prop :=
 ((∃ao cap,v= .slice ao 0 cap∧ (ao=none→cap=0)) ∧L= []) ∨ ∃b off cap,v= .slice (some ⟨b,off,none⟩) L.length cap∧b<w.heap.size∧K6 w b off L
theorem Ob.below {w w' :World} {v :Value} {L :List V} (h :Ob w v L) (hb :Below w.heap.size w w') :Ob w' v L :=by
 rcases h with h | ⟨b,off,cap,h1,h2,h3⟩
 ·exact .inl h
 ·exact .inr ⟨b,off,cap,h1,Nat.lt_of_lt_of_le h2 hb.size,h3.below hb h2⟩
theorem Ob.shape {w :World} {v :Value} {L :List V} (h :Ob w v L) : ∃ao cap,v= .slice ao L.length cap :=by
 rcases h with ⟨⟨ao,cap,rfl,_⟩,rfl⟩ | ⟨b,off,cap,rfl,_,_⟩
 ·exact ⟨ao,cap,rfl⟩
 ·exact ⟨_,cap,rfl⟩
def Fl (L :List V) :List Value :=L.flatMap V.cells
theorem Lu : ∀ (L :List V) (i :Nat) (v :V),L[i]? =some v→ (Fl L)[i*3]? =some (.int .i64 v.k) ∧ (Fl L)[i*3+1]? =some (.int .i64 v.n) ∧ (Fl L)[i*3+2]? =some (.string v.s)
 | x ::L,0,v,h=>by
  simp at h;subst h
  simp [Fl,V.cells]
 | x ::L,i+1,v,h=>by
  have :=Lu L i v (by simpa using h)
  have e :Fl (x ::L) = .int .i64 x.k :: .int .i64 x.n :: .string x.s ::Fl L :=by simp [Fl,V.cells]
  rw [e,show (i+1) *3=i*3+1+1+1 from by omega]
  exact this
theorem Ob.of_own {w :World} {base :Nat} {lv :Value} {L :List V} (h :w.ownsRow base 32 3 lv L.length (Fl L)) :Ob w lv L :=by
 rcases h.2 with ⟨rfl,h0⟩ | ⟨g,cap,cur,rfl,_,hg,_⟩
 ·exact .inl ⟨⟨none,0,rfl,fun _=>rfl⟩,List.eq_nil_of_length_eq_zero h0⟩
 ·refine .inr ⟨g,0,cap,rfl,lt_of_block hg,fun i v hi=> ?_⟩
  obtain ⟨h0,h1,h2⟩ :=Lu L i v hi
  have c0 :=h.cells (g :=g) rfl _ _ h0
  have c1 :=h.cells (g :=g) rfl _ _ h1
  have c2 :=h.cells (g :=g) rfl _ _ h2
  rw [Addr.add_lit] at c0 c1 c2
  exact ⟨c0,by rw [Nat.add_assoc];exact c1,by rw [Nat.add_assoc];exact c2⟩
theorem K6.cells {w :World} {b off :Nat} : ∀ {L :List V},K6 w b off L→ ∀j u,(Fl L)[j]? =some u→w.cell? ((⟨b,off,none⟩ :Addr).add j) =some u :=by
 intro L h j u hj
 have hl : (Fl L).length=L.length*3 :=by
  clear h hj
  induction L with
  | nil=>rfl
  | cons x L ih=>simp [Fl,V.cells] at ih⊢;omega
 have hjl := (List.getElem?_eq_some_iff.1 hj).1
 obtain ⟨v,hv⟩ : ∃v,L[j/3]? =some v := ⟨_,List.getElem?_eq_getElem (by omega)⟩
 obtain ⟨a0,a1,a2⟩ :=Lu L _ _ hv
 obtain ⟨c0,c1,c2⟩ :=h _ _ hv
 rw [Addr.add_lit]
 rcases (show j=j/3*3∨j=j/3*3+1∨j=j/3*3+2 from by omega) with e | e | e
 ·rw [e] at hj⊢
  rw [a0] at hj;simp at hj;subst hj;exact c0
 ·rw [e] at hj⊢
  rw [a1] at hj;simp at hj;subst hj;rw [←Nat.add_assoc];exact c1
 ·rw [e] at hj⊢
  rw [a2] at hj;simp at hj;subst hj;rw [←Nat.add_assoc];exact c2
end Go.Proofs.YtmgkcjiejmhgcaaGreatDoor

namespace Go.Proofs.YtmgkcjiejmhgcaaGreatDoor
theorem Ir {p :Nat→Bool} : ∀ {n i :Nat},A1 p i n=false→ ∀j,i≤j→j<i+n→p j=false
 | 0,i,_,j,h1,h2=>by omega
 | n+1,i,h,j,h1,h2=>by
  rw [A1,Bool.or_eq_false_iff] at h
  rcases Nat.eq_or_lt_of_le h1 with e | e
  ·rw [←e];exact h.1
  ·exact Ir h.2 j e (by omega)
end Go.Proofs.YtmgkcjiejmhgcaaGreatDoor

namespace Go.Proofs.YtmgkcjiejmhgcaaGreatDoor
open Go.RowKit
def Fm (s name :Wd) (p :Wd×ColD) :Bool :=decide (p.2.name=name) && (decide (s.size=0) || decide (s=p.1))
def Dk (s name :Wd) (r :Nat×Nat×Nat) (p :Wd×ColD) :Nat×Nat×Nat := (r.1+1,if Fm s name p then r.1 else r.2.1,if Fm s name p then r.2.2+1 else r.2.2)
def C9 (s name :Wd) (L :List (Wd×ColD)) :Nat×Nat×Nat :=L.foldl (Dk s name) (0,0,0)
theorem Wi {s name :Wd} {L :List (Wd×ColD)} {k :Nat} {p :Wd×ColD} (h :L[k]? =some p) :C9 s name (L.take (k+1)) =Dk s name (C9 s name (L.take k)) p :=by
 rw [List.take_add_one,h];simp [C9]
theorem Kf {s name :Wd} : ∀ (L :List (Wd×ColD)) (r :Nat×Nat×Nat),(L.foldl (Dk s name) r).1=r.1+L.length
 | [],r=>rfl
 | p ::L,r=>by rw [List.foldl_cons,Kf L,List.length_cons];simp only [Dk];omega
theorem Gq {s name :Wd} : ∀ (L :List (Wd×ColD)) (r :Nat×Nat×Nat),(∀p∈L,Fm s name p=false) →L.foldl (Dk s name) r= (r.1+L.length,r.2)
 | [],r,_=>rfl
 | p ::L,r,h=>by
  rw [List.foldl_cons,Gq L _ (fun q hq=>h q (List.mem_cons_of_mem _ hq))]
  simp only [Dk,h p List.mem_cons_self,List.length_cons]
  simp;omega
def Is (l :List ColD) :Prop := ∀ (i j :Nat) (x y :ColD),l[i]? =some x→l[j]? =some y→x.name=y.name→i=j
theorem Um {s name :Wd} (t :TabD) (hu :Is t.cols) (r :Nat×Nat×Nat) : (t.cols.map fun c=> (t.name,c)).foldl (Dk s name) r= (r.1+t.cols.length,if Ez t s name then r.1+ (Bk t.cols name).toNat else r.2.1,if Ez t s name then r.2.2+1 else r.2.2) :=by
 cases hh :Ez t s name with
 | false=>
  rw [Gq _ _ fun p hp=> ?_]
  ·simp
  ·obtain ⟨c,hc,rfl⟩ :=List.mem_map.1 hp
   rw [Ez,Bool.and_eq_false_iff] at hh
   rw [Fm,Bool.and_eq_false_iff]
   rcases hh with h | h
   ·left
    simp only [decide_eq_false_iff_not] at h⊢
    intro e
    rcases F6 t.cols name with h1 | ⟨k,x,h1,_,_⟩
    ·rcases Fq t.cols (fun x=>decide (x.name=name)) with ⟨_,h3⟩ | ⟨k,x,h3,_⟩
     ·rw [List.find?_eq_none] at h3
      exact absurd e (by simpa using h3 c hc)
     ·have :Bk t.cols name= (k :Int) :=h3
      omega
    ·omega
   ·exact .inr h
 | true=>
  rw [Ez,Bool.and_eq_true] at hh
  obtain ⟨h1,h2⟩ :=hh
  rcases F6 t.cols name with h3 | ⟨k,x,h3,h4,h5⟩
  ·rw [h3] at h1;simp at h1
  ·have hk := (List.getElem?_eq_some_iff.1 h4).1
   have hsp :t.cols=t.cols.take k++x ::t.cols.drop (k+1) :=by
    rw [←List.take_append_drop k t.cols,List.drop_eq_getElem_cons hk]
    obtain ⟨_,rfl⟩ :=List.getElem?_eq_some_iff.1 h4
    simp
   have hno : ∀ (j :Nat) (y :ColD),t.cols[j]? =some y→j≠k→Fm s name (t.name,y) =false :=fun j y hj hn=>by
    rw [Fm,Bool.and_eq_false_iff]
    left
    simp only [decide_eq_false_iff_not]
    intro e
    exact hn (hu j k y x hj h4 (e.trans h5.symm))
   rw [h3]
   conv=>lhs;rw [hsp]
   rw [List.map_append,List.map_cons,List.foldl_append,List.foldl_cons,Gq (List.map _ (t.cols.take k)) _ fun p hp=> ?_,Gq _ _ fun p hp=> ?_]
   ·have hx :Fm s name (t.name,x) =true :=by rw [Fm,Bool.and_eq_true];exact ⟨by simpa using h5,h2⟩
    simp only [Dk,hx,List.length_map,List.length_take,List.length_drop,Nat.min_eq_left (Nat.le_of_lt hk)]
    simp;omega
   ·obtain ⟨c,hc,rfl⟩ :=List.mem_map.1 hp
    obtain ⟨j,hj⟩ :=List.mem_iff_getElem?.1 hc
    rw [List.getElem?_drop] at hj
    exact hno _ c hj (by omega)
   ·obtain ⟨c,hc,rfl⟩ :=List.mem_map.1 hp
    obtain ⟨j,hj⟩ :=List.mem_iff_getElem?.1 hc
    have hjk :j<k :=by have := (List.getElem?_eq_some_iff.1 hj).1;rw [List.length_take] at this;omega
    rw [List.getElem?_take_of_lt hjk] at hj
    exact hno _ c hj (by omega)
theorem Nf (s name :Wd) (n0 :Int) : ∀ (S :List TabD),(∀t∈S,Is t.cols) → (C9 s name (Ax S)).1= (Bx S s name n0).ahead∧ (C9 s name (Ax S)).2.2= (Bx S s name n0).found∧ (1≤ (Bx S s name n0).found→ ((C9 s name (Ax S)).2.1 :Int) = (Bx S s name n0).n∧ ∃p,(Ax S)[(C9 s name (Ax S)).2.1]? =some p∧p.2.ty= (Bx S s name n0).kind) :=by
 intro S0
 rw [←List.reverse_reverse S0]
 generalize S0.reverse=R
 induction R with
 | nil=>intro _;exact ⟨rfl,rfl,fun h=>by simp [Bx] at h⟩
 | cons t R ih=>
  rw [List.reverse_cons]
  generalize R.reverse=S at*
  intro h
  obtain ⟨i1,i2,i3⟩ :=ih fun u hu=>h u (by simp [hu])
  have ht :=h t (by simp)
  have hc :Ax (S++ [t]) =Ax S++t.cols.map fun c=> (t.name,c) :=by simp [Ax]
  have hl : (C9 s name (Ax S)).1= (Ax S).length :=by rw [C9,Kf];simp
  have hd :C9 s name (Ax (S++ [t])) = ((C9 s name (Ax S)).1+t.cols.length,if Ez t s name then (C9 s name (Ax S)).1+ (Bk t.cols name).toNat else (C9 s name (Ax S)).2.1,if Ez t s name then (C9 s name (Ax S)).2.2+1 else (C9 s name (Ax S)).2.2) :=by rw [hc,C9,List.foldl_append];exact Um t ht _
  rw [hd,Mo]
  simp only [Di]
  refine ⟨by rw [i1],by rw [i2],fun h1=> ?_⟩
  cases hh :Ez t s name with
  | false=>
   rw [hh] at h1
   simp only [Bool.false_eq_true,if_false] at h1⊢
   obtain ⟨j1,p,j2,j3⟩ :=i3 h1
   refine ⟨j1,p, ?_,j3⟩
   rw [hc,List.getElem?_append_left (List.getElem?_eq_some_iff.1 j2).1]
   exact j2
  | true=>
   simp only [if_true]
   have hb :0≤Bk t.cols name :=by rw [Ez,Bool.and_eq_true] at hh;simpa using hh.1
   rcases F6 t.cols name with h3 | ⟨k,x,h3,h4,h5⟩
   ·omega
   ·rw [h3,Int.toNat_natCast,←i1]
    refine ⟨by omega,(t.name,x), ?_, ?_⟩
    ·rw [hc,List.getElem?_append_right (by omega),hl,Nat.add_sub_cancel_left,List.getElem?_map,h4];rfl
    ·rw [h4];rfl
theorem Pr {t :TabD} (h :Cv t=true) :Is t.cols∧ ∀x∈t.cols,x.ty=1∨x.ty=2 :=by
 simp only [Cv,Ii,Bool.and_eq_true,Bool.not_eq_true'] at h
 have hc :=fun i hi=>Ir h.2 i (Nat.zero_le _) (by simpa using hi)
 have h1 : ∀ (i :Nat) (x :ColD),t.cols[i]? =some x→Gc x=true∧ ∀y∈t.cols.take i,y.name≠x.name :=fun i x hx=>by
  have :=hc i (List.getElem?_eq_some_iff.1 hx).1
  simp only [Em,hx,Bool.or_eq_false_iff,Bool.not_eq_false',Dy,List.any_eq_false,decide_eq_true_eq] at this
  exact ⟨this.1,fun y hy=>this.2 _ (List.mem_map.2 ⟨y,hy,rfl⟩)⟩
 refine ⟨fun i j x y hx hy e=> ?_,fun x hx=> ?_⟩
 ·rcases Nat.lt_trichotomy i j with hl | hl | hl
  ·exact absurd e ((h1 j y hy).2 x (List.mem_of_getElem? (i :=i) (by rw [List.getElem?_take_of_lt hl];exact hx)))
  ·exact hl
  ·exact absurd e.symm ((h1 i x hx).2 y (List.mem_of_getElem? (i :=j) (by rw [List.getElem?_take_of_lt hl];exact hy)))
 ·obtain ⟨i,hi⟩ :=List.mem_iff_getElem?.1 hx
  have := (h1 i x hi).1
  simp only [Gc,Bool.and_eq_true,Bool.or_eq_true,decide_eq_true_eq] at this
  exact this.2
def Ji (ts :List Int) (want :Int) :Bool := !(decide (1∈ts) &&decide (want≠1)) && !(decide (2∈ts) &&decide (want≠2)) && !(decide (3∈ts) &&decide (want≠3))
theorem Lw {ts :List Int} (h : ∀t∈ts,t=0∨t=1∨t=2∨t=3) {want :Int} (hw :want=1∨want=2∨want=3) :Ji ts want=Dh ts want :=by
 rw [Bool.eq_iff_iff,Dh,List.all_eq_true]
 simp only [Ji,Dg,Bool.and_eq_true,Bool.not_eq_true',Bool.and_eq_false_iff,decide_eq_false_iff_not,Bool.or_eq_true,decide_eq_true_eq,Decidable.not_not,ne_eq]
 constructor
 ·rintro ⟨⟨h1,h2⟩,h3⟩ t ht
  rcases h t ht with rfl | rfl | rfl | rfl
  ·exact .inr rfl
  ·rcases h1 with h1 | h1
   ·exact absurd ht h1
   ·exact .inl h1.symm
  ·rcases h2 with h2 | h2
   ·exact absurd ht h2
   ·exact .inl h2.symm
  ·rcases h3 with h3 | h3
   ·exact absurd ht h3
   ·exact .inl h3.symm
 ·intro hall
  have key : ∀k :Int,(k=1∨k=2∨k=3) →k∉ts∨want=k :=fun k hk=>by
   by_cases hm :k∈ts
   ·rcases hall k hm with e | e
    ·exact .inr e.symm
    ·omega
   ·exact .inl hm
  exact ⟨⟨key 1 (by simp),key 2 (by simp)⟩,key 3 (by simp)⟩
end Go.Proofs.YtmgkcjiejmhgcaaGreatDoor

