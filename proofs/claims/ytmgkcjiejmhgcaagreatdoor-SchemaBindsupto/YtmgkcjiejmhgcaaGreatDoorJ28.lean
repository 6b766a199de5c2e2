/-
  1 texts of this proof in one, in build order: BCopyS.
-/
import Derived.Deep.DeepCutAuto
import Derived.Test.YtmgkcjiejmhgcaaGreatDoorJ22
import Derived.Test.YtmgkcjiejmhgcaaGreatDoorJ27
set_option linter.unusedSimpArgs false
set_option linter.unusedVariables false
namespace Go.Proofs.YtmgkcjiejmhgcaaGreatDoor
open Go.RowKit Go.Maps
structure OwnS (lab :Nat→Nat) (base :Nat) (w :World) (st :Stm) (cols rows sets frm out :Value) (op xk xn :Int) (xs s nm :Wd) (n8 :Int) (wl order :Value) :Prop where
 cols :Ck Bg 66 lab 2 base w cols st.cols
 rows :Ip 30 34 lab base w rows st.rows
 sets :Ck C5 56 lab 6 base w sets st.sets
 frm :Ck Fz 9 lab 8 base w frm st.frm
 out :Ck As 34 lab 10 base w out st.out
 wher :IsE (fun k=>base≤k∧lab k=12) w st.wher (.agg (Ad op ⟨xk,xn,xs⟩ s nm n8 wl))
 order :Ck As 34 lab 14 base w order st.order
def Wg (st :Stm) (w :World) (e :Ending) (w' :World) :Prop :=
 ∃lab cols rows sets frm out op xk xn xs s nm n8 wl order,e= .returned (.agg (sA st.kind st.name st.table st.col cols rows sets frm out op xk xn xs s nm n8 wl order st.down st.n)) ∧OwnS lab w.heap.size w' st cols rows sets frm out op xk xn xs s nm n8 wl order∧ (∀k,k<w.heap.size→lab k=0) ∧Below w.heap.size w w'
structure CpSt (st :Stm) (w wr :World) (lab :Nat→Nat) (arr :Array Value) (cols frm rows sets :Value) (R :List (List E)) (T :List (Wd×E)) :Prop where
 stm :wr.heap[w.heap.size]? =some (.cells arr 36)
 room :wr.heap[w.heap.size+1]? =some (.cells Ah 36)
 bel :Below w.heap.size w wr
 low : ∀k,k<w.heap.size+2→lab k=0
 cols :Ck Bg 66 lab 2 w.heap.size wr cols st.cols
 frm :Ck Fz 9 lab 8 w.heap.size wr frm st.frm
 rows :Ip 30 34 lab w.heap.size wr rows R
 sets :Ck C5 56 lab 6 w.heap.size wr sets T
 big :w.heap.size+2≤wr.heap.size
section
variable {st :Stm} {w wr w' :World} {lab lab' :Nat→Nat} {arr :Array Value} {cols frm rows sets :Value} {R :List (List E)} {T :List (Wd×E)}
theorem CpSt.ext (h :CpSt st w wr lab arr cols frm rows sets R T) (he : ∀k,k<wr.heap.size→lab' k=lab k) :CpSt st w wr lab' arr cols frm rows sets R T :=
 ⟨h.stm,h.room,h.bel,fun k hk=> (he k (Nat.lt_of_lt_of_le hk h.big)).trans (h.low k hk),h.cols.ext he,h.frm.ext he,h.rows.ext he,h.sets.ext he,h.big⟩
theorem CpSt.below (h :CpSt st w wr lab arr cols frm rows sets R T) (hb :Below wr.heap.size wr w') :CpSt st w w' lab arr cols frm rows sets R T :=
 ⟨(hb.block _ (lt_of_block h.stm)).trans h.stm,(hb.block _ (lt_of_block h.room)).trans h.room,h.bel.trans (hb.mono h.bel.size),h.low,h.cols.keep (fun k _ hl _=>hb.block k hl) hb.size,h.frm.keep (fun k _ hl _=>hb.block k hl) hb.size,h.rows.keep (fun k _ hl _=>hb.block k hl) hb.size,h.sets.keep (fun k _ hl _=>hb.block k hl) hb.size,Nat.le_trans h.big hb.size⟩
theorem CpSt.set (h :CpSt st w wr lab arr cols frm rows sets R T) (j :Nat) (v :Value) :CpSt st w (wr.setCell ⟨w.heap.size,j,none⟩ v) lab (arr.setIfInBounds j v) cols frm rows sets R T :=by
 have e : ∀k,lab k≠0→ (wr.setCell ⟨w.heap.size,j,none⟩ v).heap[k]? =wr.heap[k]? :=fun k hk=>Below.heap_setCell _ _ _ k (fun e=>hk (by rw [e];exact h.low _ (show w.heap.size<w.heap.size+2 by omega)))
 have hs :wr.heap.size≤ (wr.setCell ⟨w.heap.size,j,none⟩ v).heap.size :=by simp [World.setCell]
 exact ⟨upd h.stm j v,(Below.heap_setCell _ _ _ _ (show w.heap.size+1≠w.heap.size by omega)).trans h.room,h.bel.setCell (Nat.le_refl _) _,h.low,h.cols.keep (fun k _ _ hc=>e k (by omega)) hs,h.frm.keep (fun k _ _ hc=>e k (by omega)) hs,h.rows.keep (fun k _ _ hc=>e k (by omega)) hs,h.sets.keep (fun k _ _ hc=>e k (by omega)) hs,Nat.le_trans h.big hs⟩
end
def C3 (lab :Nat→Nat) (n c :Nat) :Nat→Nat :=fun k=>if k<n then lab k else c
theorem Do (lab :Nat→Nat) (n c :Nat) : ∀k,k<n→C3 lab n c k=lab k :=fun k hk=>if_pos hk
theorem Ck.nil {α :Type} (K :Elem α) (ty :TypeId) (lab :Nat→Nat) (c base :Nat) (w :World) :Ck K ty lab c base w (.slice none 0 0) [] :=
 ⟨⟨[],World.ownsRow_nil _ _ _ _,fun _ h=>by simp [Value.ownBlock] at h,rfl⟩,fun _ h=>by simp [Value.ownBlock] at h⟩
theorem Ip.nil (tr te :TypeId) (lab :Nat→Nat) (base :Nat) (w :World) :Ip tr te lab base w (.slice none 0 0) [] :=
 ⟨[],World.ownsRow_nil _ _ _ _,fun _ h=>by simp [Value.ownBlock] at h,fun _ _ h=>by simp at h⟩
theorem CpSt.begin {st :Stm} {w W0 W1 W2 :World} {arr :Array Value} {z4 z7 :Value} (hbig :w.heap.size+2≤W0.heap.size) (hb0 :Below w.heap.size w W0) (bS :W0.heap[w.heap.size]? =some (.cells arr 36)) (bR :W0.heap[w.heap.size+1]? =some (.cells Ah 36))
  (hb1 :Below W0.heap.size W0 W1) (hz4 :Bl Bg 66 0 W0.heap.size z4 st.cols W1) (hb2 :Below W1.heap.size W1 W2) (hz7 :Bl Fz 9 0 W1.heap.size z7 st.frm W2) :
  CpSt st w W2 (Eu (Eu (fun _=>0) W0.heap.size z4 2) W1.heap.size z7 8) arr z4 z7 (.slice none 0 0) (.slice none 0 0) [] [] :=by
 have hs1 :=hb1.size
 have hs0 :=hb0.size
 have e : ∀k,k<W0.heap.size→W2.heap[k]? =W0.heap[k]? :=fun k hk=> (hb2.block k (by omega)).trans (hb1.block k hk)
 refine ⟨(e _ (by omega)).trans bS,(e _ (by omega)).trans bR,(hb0.trans (hb1.mono hs0)).trans (hb2.mono (by omega)),fun k hk=> ?_, ?_,Ck.made hz7 (by omega),Ip.nil _ _ _ _ _,Ck.nil _ _ _ _ _ _,by have :=hb2.size;omega⟩
 ·rw [Hh _ _ _ _ k (by omega),Hh _ _ _ _ k (by omega)]
 ·exact ((Ck.made hz4 hs0).ext (Hh _ _ _ _)).keep (fun k _ hl _=>hb2.block k hl) hb2.size
theorem CpSt.pushRow {st :Stm} {w wr w' :World} {lab :Nat→Nat} {arr :Array Value} {cols frm rows rows' sets v :Value} {R :List (List E)} {T :List (Wd×E)} {cs :List Value} {r :List E} (h :CpSt st w wr lab arr cols frm rows sets R T)
  (ho :wr.ownsRow w.heap.size 30 1 rows R.length cs) (h2 : ∀k,rows.ownBlock=some k→lab k=1) (h3 : ∀j r,R[j]? =some r→ ∃v,cs[j]? =some v∧Ck As 34 lab (20+2*j) w.heap.size wr v r)
  (hv :Ck As 34 lab (20+2*R.length) w.heap.size wr v r) (hn :w'.ownsRow w.heap.size 30 1 rows' (R.length+1) (cs++ [v])) (hg :wr.grownBy w' rows.ownBlock) (hat :rows'.ownBlock=rows.ownBlock∨rows'.ownBlock=some wr.heap.size) :
  CpSt st w w' (C3 lab wr.heap.size 1) arr cols frm rows' sets (R++ [r]) T :=by
 have hcl :cs.length=R.length :=by have :=ho.1;simpa using this
 have e : ∀k,k<wr.heap.size→lab k≠1→w'.heap[k]? =wr.heap[k]? :=fun k hk hl=>hg.block k hk fun hb=>hl (h2 k hb.symm)
 have hb : ∀k,k<w.heap.size+2→w'.heap[k]? =wr.heap[k]? :=fun k hk=>e k (Nat.lt_of_lt_of_le hk h.big) (by rw [h.low k hk];decide)
 have he :=Do lab wr.heap.size 1
 refine ⟨(hb _ (by omega)).trans h.stm,(hb _ (by omega)).trans h.room,h.bel.grown hg h.bel.size fun k hk=> (ho.lt k hk).1,fun k hk=> (he k (Nat.lt_of_lt_of_le hk h.big)).trans (h.low k hk), ?_, ?_, ?_, ?_,Nat.le_trans h.big hg.size⟩
 ·exact (h.cols.ext he).keep (fun k _ hl hc=>e k hl (by rw [he k hl] at hc;omega)) hg.size
 ·exact (h.frm.ext he).keep (fun k _ hl hc=>e k hl (by rw [he k hl] at hc;omega)) hg.size
 ·refine ⟨cs++ [v],by rw [List.length_append];exact hn,fun k hk=> ?_,fun j x hj=> ?_⟩
  ·rcases hat with hat | hat
   ·rw [hat] at hk
    rw [he k (ho.lt k hk).2]
    exact h2 k hk
   ·rw [hat] at hk
    obtain rfl :wr.heap.size=k :=by simpa using hk
    rw [C3,if_neg (Nat.lt_irrefl _)]
  ·by_cases hjl :j<R.length
   ·rw [List.getElem?_append_left hjl] at hj
    obtain ⟨v',g1,g2⟩ :=h3 j x hj
    exact ⟨v',by rw [List.getElem?_append_left (by omega)];exact g1,(g2.ext he).keep (fun k _ hl hc=>e k hl (by rw [he k hl] at hc;omega)) hg.size⟩
   ·have hjr :j=R.length :=by
     have := (List.getElem?_eq_some_iff.1 hj).1
     simp at this
     omega
    subst hjr
    obtain rfl :r=x :=by simpa using hj
    exact ⟨v,by rw [←hcl];simp,(hv.ext he).keep (fun k _ hl hc=>e k hl (by rw [he k hl] at hc;omega)) hg.size⟩
 ·exact (h.sets.ext he).keep (fun k _ hl hc=>e k hl (by rw [he k hl] at hc;omega)) hg.size
theorem Ck.push {α :Type} {K :Elem α} {ty :TypeId} {lab :Nat→Nat} {c base :Nat} {w w' :World} {z z' :Value} {l :List α} {cs d :List Value} {a :α}
  (ho :w.ownsRow base ty K.size z l.length cs) (h2 : ∀k,z.ownBlock=some k→lab k=c) (h3 :All K (fun k=>base≤k∧lab k=c+1) w l cs) (ha :K.R (fun k=>base≤k∧lab k=c+1) w a d)
  (hn :w'.ownsRow base ty K.size z' (l.length+1) (cs++d)) (hg :w.grownBy w' z.ownBlock) (hat :z'.ownBlock=z.ownBlock∨z'.ownBlock=some w.heap.size) :Ck K ty (C3 lab w.heap.size c) c base w' z' (l++ [a]) :=by
 have he :=Do lab w.heap.size c
 have hz : ∀k,z'.ownBlock=some k→C3 lab w.heap.size c k=c :=fun k hk=>by
  rcases hat with hat | hat
  ·rw [hat] at hk
   rw [he k (ho.lt k hk).2]
   exact h2 k hk
  ·rw [hat] at hk
   obtain rfl :w.heap.size=k :=by simpa using hk
   rw [C3,if_neg (Nat.lt_irrefl _)]
 have hkp :Keeps (fun k=>base≤k∧C3 lab w.heap.size c k=c+1) w w' := ⟨hg.size,fun k hk hl=>hg.block k hl fun hb=>by
  have :=h2 k hb.symm
  have :=hk.2
  rw [he k hl] at this
  omega⟩
 refine ⟨⟨cs++d,by rw [List.length_append];exact hn,fun k hk hf=>by have :=hz k hk;omega, ?_⟩,hz⟩
 exact ((h3.append (All.one ha)).mono fun k hk hf=> ⟨hf.1,(he k hk).trans hf.2⟩).keep hkp
theorem CpSt.pushSet {st :Stm} {w wr w' :World} {lab :Nat→Nat} {arr :Array Value} {cols frm rows sets sets' :Value} {R :List (List E)} {T :List (Wd×E)} {cs d :List Value} {a :Wd×E} (h :CpSt st w wr lab arr cols frm rows sets R T)
  (ho :wr.ownsRow w.heap.size 56 C5.size sets T.length cs) (h2 : ∀k,sets.ownBlock=some k→lab k=6) (h3 :All C5 (fun k=>w.heap.size≤k∧lab k=6+1) wr T cs) (ha :C5.R (fun k=>w.heap.size≤k∧lab k=6+1) wr a d)
  (hn :w'.ownsRow w.heap.size 56 C5.size sets' (T.length+1) (cs++d)) (hg :wr.grownBy w' sets.ownBlock) (hat :sets'.ownBlock=sets.ownBlock∨sets'.ownBlock=some wr.heap.size) :
  CpSt st w w' (C3 lab wr.heap.size 6) arr cols frm rows sets' R (T++ [a]) :=by
 have e : ∀k,k<wr.heap.size→lab k≠6→w'.heap[k]? =wr.heap[k]? :=fun k hk hl=>hg.block k hk fun hb=>hl (h2 k hb.symm)
 have hb : ∀k,k<w.heap.size+2→w'.heap[k]? =wr.heap[k]? :=fun k hk=>e k (Nat.lt_of_lt_of_le hk h.big) (by rw [h.low k hk];decide)
 have he :=Do lab wr.heap.size 6
 exact ⟨(hb _ (by omega)).trans h.stm,(hb _ (by omega)).trans h.room,h.bel.grown hg h.bel.size fun k hk=> (ho.lt k hk).1,fun k hk=> (he k (Nat.lt_of_lt_of_le hk h.big)).trans (h.low k hk),
  (h.cols.ext he).keep (fun k _ hl hc=>e k hl (by rw [he k hl] at hc;omega)) hg.size,(h.frm.ext he).keep (fun k _ hl hc=>e k hl (by rw [he k hl] at hc;omega)) hg.size,
  (h.rows.ext he).keep (fun k _ hl hc=>e k hl (by rw [he k hl] at hc;omega)) hg.size,Ck.push ho h2 h3 ha hn hg hat,Nat.le_trans h.big hg.size⟩
theorem Wh : (Tryz.prog.info? 9).map (fun i=> (i.zero,i.size,i.bytes)) =some (some (.string ⟨#[]⟩),1,16) :=by kernel_rfl
theorem Zw {F :Nat→Prop} {w :World} (x :Wd) (c :List Value) (h :Fz.R F w x c) : ∀u∈c,u.oneCell'=true :=by
 obtain rfl :c=_ :=h
 simp [Value.oneCell']
theorem CpSt.finish {st :Stm} {w Y V1 V2 V3 :World} {lab :Nat→Nat} {arr :Array Value} {cols frm rows sets z1 z2 z3 :Value} {lw :List E} {op :Int} {x :V} {s nm :Wd} {n8 :Int} (h :CpSt st w Y lab arr cols frm rows sets st.rows st.sets)
  (hz1 :Bl As 34 0 Y.heap.size z1 st.out V1) (hb1 :Below Y.heap.size Y V1) (hz2 :Bl As 34 0 V1.heap.size z2 st.order V2) (hb2 :Below V1.heap.size V1 V2) (hz3 :Bl As 34 0 V2.heap.size z3 lw V3) (hb3 :Below V2.heap.size V2 V3) (hwe :st.wher= .mk op x s nm n8 lw) :
  ∃lab',CpSt st w V3 lab' arr cols frm rows sets st.rows st.sets∧ ∀W' :World,V3.heap.size≤W'.heap.size→ (∀k,k<V3.heap.size→w.heap.size+2≤k→W'.heap[k]? =V3.heap[k]?) →OwnS lab' w.heap.size W' st cols rows sets frm z1 op x.k x.n x.s s nm n8 z3 z2∧ ∀k,k<w.heap.size→lab' k=0 :=by
 have e1 :=Hh lab Y.heap.size z1 10
 have e2 :=Hh (Eu lab Y.heap.size z1 10) V1.heap.size z2 14
 have e3 :=Do (Eu (Eu lab Y.heap.size z1 10) V1.heap.size z2 14) V2.heap.size 12
 have s1 :=hb1.size
 have s2 :=hb2.size
 have hs :=h.big
 have hC := (((((h.ext e1).below hb1).ext e2).below hb2).ext e3).below hb3
 have ho :Ck As 34 _ 10 w.heap.size V1 z1 st.out :=Ck.made (lab :=lab) (c :=10) hz1 (by omega)
 have ho := (((ho.ext e2).keep (fun k _ hl _=>hb2.block k hl) hb2.size).ext e3).keep (fun k _ hl _=>hb3.block k hl) hb3.size
 have hd :Ck As 34 _ 14 w.heap.size V2 z2 st.order :=Ck.made (lab :=Eu lab Y.heap.size z1 10) (c :=14) hz2 (by omega)
 have hd := (hd.ext e3).keep (fun k _ hl _=>hb3.block k hl) hb3.size
 refine ⟨_,hC,fun W' hs' hk=> ?_⟩
 have big : ∀k,C3 (Eu (Eu lab Y.heap.size z1 10) V1.heap.size z2 14) V2.heap.size 12 k≠0→w.heap.size+2≤k :=fun k hk=>Nat.le_of_not_lt fun hl=>hk (hC.low k hl)
 have kk : ∀k,k<V3.heap.size→C3 (Eu (Eu lab Y.heap.size z1 10) V1.heap.size z2 14) V2.heap.size 12 k≠0→W'.heap[k]? =V3.heap[k]? :=fun k h1 h2=>hk k h1 (big k h2)
 refine ⟨⟨hC.cols.keep (fun k _ hl hc=>kk k hl (by omega)) hs',hC.rows.keep (fun k _ hl hc=>kk k hl (by omega)) hs',hC.sets.keep (fun k _ hl hc=>kk k hl (by omega)) hs',hC.frm.keep (fun k _ hl hc=>kk k hl (by omega)) hs',ho.keep (fun k _ hl hc=>kk k hl (by omega)) hs', ?_,hd.keep (fun k _ hl hc=>kk k hl (by omega)) hs'⟩,fun k hk=>hC.low k (by omega)⟩
 rw [hwe]
 refine Dd (x :=x) (Abf.1 ((hz3.isL.mono (F' :=fun k=>w.heap.size≤k∧C3 (Eu (Eu lab Y.heap.size z1 10) V1.heap.size z2 14) V2.heap.size 12 k=12) fun k _ h=> ?_).keep ⟨hs',fun k hf hl=>kk k hl (by rw [hf.2];decide)⟩))
 have hk1 :V2.heap.size≤k :=by
  rcases h with h | h
  ·exact absurd h (Nat.not_lt_zero _)
  ·exact h
 exact ⟨by omega,by rw [C3,if_neg (by omega)]⟩
def Fk (c :List Value) :Elem Unit where
 size :=c.length
 R _ _ _ d :=d=c
 len h :=by rw [h]
 keep _ h :=h
 mono _ h :=h
theorem Gp (w :World) (c :List Value) (ty :TypeId) :IsL (Fk c) (fun _=>True) (w.alloc (.cells c.toArray ty)) (.slice (some ⟨w.heap.size,0,none⟩) 1 1) [()] :=by
 have ho :=Tj w 0 ty c c.length rfl (Nat.zero_le _)
 exact ⟨c,Cu.of_own ho (fun _ _=>trivial),c,[],by simp,rfl,rfl⟩
theorem Hi {c cs :List Value} {F :Nat→Prop} {w :World} (h :All (Fk c) F w [()] cs) :cs=c :=by
 obtain ⟨d,rest,rfl,h2,h3⟩ :=h
 have h4 :rest= [] :=h3
 have h5 :d=c :=h2
 rw [h4,h5,List.append_nil]
theorem Hj {c :List Value} (h : ∀u∈c,u.oneCell'=true) {F :Nat→Prop} {w :World} (x :Unit) (d :List Value) (hd : (Fk c).R F w x d) : ∀u∈d,u.oneCell'=true :=by
 obtain rfl :d=c :=hd
 exact h
structure FitP (st :Stm) :Prop where
 cols :st.cols.length≤16777216
 frm :st.frm.length≤16777216
 rows :st.rows.length≤16777216
 sets :st.sets.length≤16777216
 row : ∀r∈st.rows,Bs r≤16777216
 set : ∀p∈st.sets,p.2.nodes≤16777216
 out :Bs st.out≤16777216
 wher :st.wher.nodes≤16777216
 order :Bs st.order≤16777216
set_option maxRecDepth 100000 in
set_option maxHeartbeats 8000000 in
theorem Sz (st :Stm) (cs :List Value) (F :Nat→Prop) (w :World) (hR :Abs.R F w st cs) (hf :FitP st) :Calls Tryz.prog 5 #[.agg cs.toArray] w (Wg st w) :=by
 obtain ⟨o1,c1,o2,c2,o3,c3,o4,c4,o5,c5,op,xk,xn,xs,s,nmv,n8,o6,k6,c6,o7,c7,rfl,i1,i2,i3,i4,i5,i6,i7⟩ :=Cy hR
 obtain ⟨p0,ci,c0,cz1,cz2⟩ :=info_parts Ph
 obtain ⟨p1,si,s0,sz1,sz2⟩ :=info_parts Wh
 obtain ⟨p2,ri,r0,rz1,rz2⟩ :=info_parts Q1
 obtain ⟨p3,ti,t0,tz1,tz2⟩ :=info_parts Q4
 have hb2 :=Bz w (.cells (sA st.kind st.name st.table st.col (.slice o1 st.cols.length c1) (.slice o2 st.rows.length c2) (.slice o3 st.sets.length c3) (.slice o4 st.frm.length c4) (.slice o5 st.out.length c5) op xk xn xs s nmv n8 (.slice o6 k6 c6) (.slice o7 st.order.length c7) st.down st.n) 36) (.cells Ah 36)
 have bS :=Ae (Ab w (.cells (sA st.kind st.name st.table st.col (.slice o1 st.cols.length c1) (.slice o2 st.rows.length c2) (.slice o3 st.sets.length c3) (.slice o4 st.frm.length c4) (.slice o5 st.out.length c5) op xk xn xs s nmv n8 (.slice o6 k6 c6) (.slice o7 st.order.length c7) st.down st.n) 36)) (.cells Ah 36)
 have bR :=A0 w (.cells (sA st.kind st.name st.table st.col (.slice o1 st.cols.length c1) (.slice o2 st.rows.length c2) (.slice o3 st.sets.length c3) (.slice o4 st.frm.length c4) (.slice o5 st.out.length c5) op xk xn xs s nmv n8 (.slice o6 k6 c6) (.slice o7 st.order.length c7) st.down st.n) 36) (.cells Ah 36)
 have hn0 : ((w.alloc (.cells (sA st.kind st.name st.table st.col (.slice o1 st.cols.length c1) (.slice o2 st.rows.length c2) (.slice o3 st.sets.length c3) (.slice o4 st.frm.length c4) (.slice o5 st.out.length c5) op xk xn xs s nmv n8 (.slice o6 k6 c6) (.slice o7 st.order.length c7) st.down st.n) 36)).alloc (.cells Ah 36)).heap.size=w.heap.size+2 :=by simp
 generalize hW : (w.alloc (.cells (sA st.kind st.name st.table st.col (.slice o1 st.cols.length c1) (.slice o2 st.rows.length c2) (.slice o3 st.sets.length c3) (.slice o4 st.frm.length c4) (.slice o5 st.out.length c5) op xk xn xs s nmv n8 (.slice o6 k6 c6) (.slice o7 st.order.length c7) st.down st.n) 36)).alloc (.cells Ah 36) =W0 at hb2 bS bR hn0
 have HW :Hid _ :=hW
 have HN :Hid _ :=hn0
 have hbig :w.heap.size+2≤W0.heap.size :=by omega
 have a4 :=Aa bS (j :=4) rfl
 have a7 :=Aa bS (j :=7) rfl
 have f4 :=hf.cols
 have f7 :=hf.frm
 have l1 :IsL Bg F W0.drew _ _ :=i1.keep (Ar (below_drewN hb2 _))
 have l4 :IsL Fz F W0.drew _ _ :=i4.keep (Ar (below_drewN hb2 _))
 have HR2 :Hid _ :=i2
 have HR3 :Hid _ :=i3
 have HR5 :Hid _ :=i5
 have HR6 :Hid _ :=i6
 have HR7 :Hid _ :=i7
 have HF :Hid _ :=hf
 clear hW hn0 i1 i2 i3 i4 i5 i6 i7 hf hR
 go_enter Tryz.func5,Tryz.ntmps5
 go_upto_region 1 with fail
 rw [HW.out]
 refine Fb (S := (fun W=>W.cell? ⟨w.heap.size,4,none⟩ =some (.slice o1 st.cols.length c1) ∧W.cell? ⟨w.heap.size,7,none⟩ =some (.slice o4 st.frm.length c4))) (z :=7) (by kernel_rfl) ?_
 refine Bc (i :=0) (v := ?_) rfl (by kernel_rfl) (by kernel_rfl) (by kernel_rfl) (by kernel_rfl) (fun _ _ _ h=>h) (Or.inl ⟨by rfl, ?_⟩) ⟨a4,a7⟩ ?_
 rotate_left
 ·intro W0 hSw;(try dsimp only at hSw);go_simp;all_goals (with_reducible rfl)
 try simp only [Act.put,List.setIfInBounds_toArray,List.set_cons_zero,List.set_cons_succ]
 refine Bc (i :=1) (v := ?_) rfl (by kernel_rfl) (by kernel_rfl) (by kernel_rfl) (by kernel_rfl) (fun _ _ _ h=>h) (Or.inl ⟨by rfl, ?_⟩) ⟨a4,a7⟩ ?_
 rotate_left
 ·intro W0 hSw;(try dsimp only at hSw);go_simp;all_goals (with_reducible rfl)
 try simp only [Act.put,List.setIfInBounds_toArray,List.set_cons_zero,List.set_cons_succ]
 refine Bc (i :=3) (v := ?_) rfl (by kernel_rfl) (by kernel_rfl) (by kernel_rfl) (by kernel_rfl) (fun _ _ _ h=>h) (Or.inl ⟨by rfl, ?_⟩) ⟨a4,a7⟩ ?_
 rotate_left
 ·intro W0 hSw;(try dsimp only at hSw);go_simp;all_goals (with_reducible rfl)
 try simp only [Act.put,List.setIfInBounds_toArray,List.set_cons_zero,List.set_cons_succ]
 refine Bc (i :=4) (v := ?_) rfl (by kernel_rfl) (by kernel_rfl) (by kernel_rfl) (by kernel_rfl) (fun _ _ _ h=>h) (Or.inl ⟨by rfl, ?_⟩) ⟨a4,a7⟩ ?_
 rotate_left
 ·intro W0 hSw;(try dsimp only at hSw);go_simp;all_goals (with_reducible rfl)
 try simp only [Act.put,List.setIfInBounds_toArray,List.set_cons_zero,List.set_cons_succ]
 refine Bd (i :=2) (by kernel_rfl) rfl (fun K hK=> ?_)
 refine Dz (K :=Bg) (l :=st.cols) rfl _ _ 26 rfl W0.heap.size 66 p0 _ 32 Tryz.underlying26 ci c0 cz1 cz2 rfl (by decide) _ 0 [] rfl (World.ownsRow_nil _ _ _ _) rfl l1 Tq (by simp only [maxLen];omega) (by omega) (Nat.le_refl _) ?_;intro z4 W1 cs4 own4 all4 g4 at4;have hb1 :=Gy g4;have hz4 :=Jh (w :=W0.drew) (fun _ _ _ _ _ _ h=>h) own4 all4;obtain ⟨z4o,z4c,rfl⟩ :=hz4.shape;have b4 := (hb1.cell (p := ⟨w.heap.size,4,none⟩) (show w.heap.size<W0.heap.size by omega)).trans a4;have b7 := (hb1.cell (p := ⟨w.heap.size,7,none⟩) (show w.heap.size<W0.heap.size by omega)).trans a7;have l4b :=l4.keep (Ar hb1);clear own4 all4 g4 at4 l1 l4
 refine hK.out _ _ (fun _=> ⟨b4,b7⟩) ?_
 clear hK K
 try simp only [Act.put,List.setIfInBounds_toArray,List.set_cons_zero,List.set_cons_succ]
 refine Bc (i :=6) (v := ?_) rfl (by kernel_rfl) (by kernel_rfl) (by kernel_rfl) (by kernel_rfl) (fun _ _ _ h=>h) (Or.inl ⟨by rfl, ?_⟩) ⟨b4,b7⟩ ?_
 rotate_left
 ·intro W0 hSw;(try dsimp only at hSw);go_simp;all_goals (with_reducible rfl)
 try simp only [Act.put,List.setIfInBounds_toArray,List.set_cons_zero,List.set_cons_succ]
 refine Bd (i :=5) (by kernel_rfl) rfl (fun K hK=> ?_)
 refine Dz (K :=Fz) (l :=st.frm) rfl _ _ 29 rfl W1.heap.size 9 p1 _ 16 Tryz.underlying29 si s0 sz1 sz2 rfl (by decide) _ 0 [] rfl (World.ownsRow_nil _ _ _ _) rfl l4b Zw (by simp only [maxLen];omega) (by omega) (Nat.le_refl _) ?_;intro z7 W2 cs7 own7 all7 g7 at7;have hb2' :=Gy g7;have hz7 :=Jh (fun _ _ _ _ _ _ h=>h) own7 all7;obtain ⟨z7o,z7c,rfl⟩ :=hz7.shape;have c4' := (hb2'.cell (p := ⟨w.heap.size,4,none⟩) (Nat.lt_of_lt_of_le (show w.heap.size<W0.heap.size by omega) hb1.size)).trans b4;have c7' := (hb2'.cell (p := ⟨w.heap.size,7,none⟩) (Nat.lt_of_lt_of_le (show w.heap.size<W0.heap.size by omega) hb1.size)).trans b7;have bS2 :W2.heap[w.heap.size]? =some (.cells (sA st.kind st.name st.table st.col (.slice o1 st.cols.length c1) (.slice o2 st.rows.length c2) (.slice o3 st.sets.length c3) (.slice o4 st.frm.length c4) (.slice o5 st.out.length c5) op xk xn xs s nmv n8 (.slice o6 k6 c6) (.slice o7 st.order.length c7) st.down st.n) 36) := (hb2'.block _ (Nat.lt_of_lt_of_le (show w.heap.size<W0.heap.size by omega) hb1.size)).trans ((hb1.block _ (show w.heap.size<W0.heap.size by omega)).trans bS);have fz : ∀o,W2.frozen? ⟨w.heap.size,o,none⟩ =false := (fun o=>by simp only [World.frozen?,bS2];rfl);clear own7 all7 g7 at7 l4b
 refine hK.out _ _ (fun _=> ⟨c4',c7'⟩) ?_
 clear hK K
 try simp only [Act.put,List.setIfInBounds_toArray,List.set_cons_zero,List.set_cons_succ]
 refine Bd (i :=7) (by kernel_rfl) rfl (fun K hK=> ?_)
 go_simp
 go_wp2_with fail
 refine hK.out _ _ (fun h=>nomatch (show true=false from h)) ?_
 clear hK K
 try simp only [Act.put,List.setIfInBounds_toArray,List.set_cons_zero,List.set_cons_succ]
 refine Bd (i :=8) (by kernel_rfl) rfl (fun K hK=> ?_)
 go_simp
 go_wp2_with fail
 refine hK.out _ _ (fun h=>nomatch (show true=false from h)) ?_
 clear hK K
 try simp only [Act.put,List.setIfInBounds_toArray,List.set_cons_zero,List.set_cons_succ]
 refine Bd (i :=9) (by kernel_rfl) rfl (fun K hK=> ?_)
 go_simp
 go_wp2_with fail
 refine hK.out _ _ (fun h=>nomatch (show true=false from h)) ?_
 clear hK K
 try simp only [Act.put,List.setIfInBounds_toArray,List.set_cons_zero,List.set_cons_succ]
 refine Hv (by kernel_rfl) ?_ _
 have hC :=CpSt.begin (st :=st) (w :=w) (W0 :=W0.drew) (arr := (sA st.kind st.name st.table st.col (.slice o1 st.cols.length c1) (.slice o2 st.rows.length c2) (.slice o3 st.sets.length c3) (.slice o4 st.frm.length c4) (.slice o5 st.out.length c5) op xk xn xs s nmv n8 (.slice o6 k6 c6) (.slice o7 st.order.length c7) st.down st.n)) hbig hb2.drew bS bR hb1 hz4 hb2' hz7
 have hC4 := ((hC.set 4 (.slice z4o st.cols.length z4c)).set 7 (.slice z7o st.frm.length z7c))
 have hs0 :w.heap.size<W0.heap.size :=by omega
 generalize (W2.setCell ⟨w.heap.size,4,none⟩ (.slice z4o st.cols.length z4c)).setCell ⟨w.heap.size,7,none⟩ (.slice z7o st.frm.length z7c) =W3 at*
 have bS3 :=hC4.stm
 simp only [List.setIfInBounds_toArray,List.set_cons_zero,List.set_cons_succ] at bS3
 have HC4 :Hid _ :=hC4
 have e5 :=Aa bS3 (j :=5) rfl
 have e6 :=Aa bS3 (j :=6) rfl
 have fz3 : ∀o,W3.frozen? ⟨w.heap.size,o,none⟩ =false :=fun o=>by simp only [World.frozen?,bS3];rfl
 clear hC hC4 a4 a7 b4 b7 c4' c7' bS bR bS2 fz hz4 hz7 hb1 hb2' hb2
 go_wp2_with fail
 go_quiet (fail)
 have hC5 := ((HC4.out.below (below_drewN (Below.refl _ _) nq)).set 5 (.slice none 0 0)).set 6 (.slice none 0 0)
 simp only [List.setIfInBounds_toArray,List.set_cons_zero,List.set_cons_succ] at hC5
 generalize (Eu (Eu (fun x=>0) W0.drew.heap.size (Value.slice z4o st.cols.length z4c) 2) W1.heap.size (Value.slice z7o st.frm.length z7c) 8) =lab0 at hC5
 clear HC4 bS3
 have f5 :=HF.out.rows
 have f6 :=HF.out.sets
 go_wp2_with fail
 clear e5 e6 fz3
 go_loopw [25] (fun i wr=> ∃ (k :Nat) (zr :Value) (lab :Nat→Nat),k≤st.rows.length∧i= .int .i64 k∧CpSt st w wr lab (sA st.kind st.name st.table st.col (.slice z4o st.cols.length z4c) zr (.slice none 0 0) (.slice z7o st.frm.length z7c) (.slice o5 st.out.length c5) op xk xn xs s nmv n8 (.slice o6 k6 c6) (.slice o7 st.order.length c7) st.down st.n) (.slice z4o st.cols.length z4c) (.slice z7o st.frm.length z7c) zr (.slice none 0 0) (st.rows.take k) []) (fun i _=>st.rows.length - (intOf i).toNat)
 case atStart=>exact ⟨0,_,_,Nat.zero_le _,rfl,hC5⟩
 case round=>
  obtain ⟨k,zr,lab,hk,rfl,hcp⟩ :=hrel
  obtain ⟨V0,hV0⟩ : ∃V,V=wr := ⟨_,rfl⟩
  subst hV0
  by_cases hlt :k<st.rows.length
  ·obtain ⟨r,hr⟩ : ∃r,st.rows[k]? =some r := ⟨_,List.getElem?_eq_getElem hlt⟩
   have HT :Hid (st.rows.take (k+1) =st.rows.take k++ [r]) :=by show _=_;rw [List.take_add_one,hr];rfl
   have HLK :Hid ((st.rows.take k).length=k) :=by show _=_;rw [List.length_take];omega
   have hnr :=HF.out.row r (List.mem_of_getElem? hr)
   obtain ⟨b,off,cs,hso,hbC,hbl,⟨rv,rfl,hrv⟩,hcell⟩ :=Av HR2.out hr
   cases hso
   obtain ⟨ro,rc,rfl⟩ :=hrv.shape
   have d0 := (hcp.bel.cell (p := ⟨b,_,none⟩) hbl).trans (hcell 0 _ rfl)
   simp only [Ds,Nat.mul_one,Nat.add_zero] at d0
   have j0 : (0 :Int) ≤ (k :Int) :=by omega
   have j1 : (k :Int) < (st.rows.length :Int) :=by omega
   have e5 :=Aa hcp.stm (j :=5) rfl
   have IH :=E6 16777216 (Nat.le_refl _) r hnr F V0.drew (.slice ro r.length rc) (Abf.1 (hrv.keep ((Ar hcp.bel).drew)))
   obtain ⟨zo,zc,hzv⟩ :=hcp.rows.shape
   rw [HLK.out] at hzv
   subst hzv
   have hVs :=hcp.big
   have HCP :Hid _ :=hcp
   clear hcell hr hrv
   go_wp2_with fail
   refine Fb (S := (fun W=>W.cell? ⟨w.heap.size,5,none⟩ =some (.slice zo k zc))) (z :=7) (by kernel_rfl) ?_
   refine Bc (i :=0) (v := ?_) rfl (by kernel_rfl) (by kernel_rfl) (by kernel_rfl) (by kernel_rfl) (fun _ _ _ h=>h) (Or.inl ⟨by rfl, ?_⟩) e5 ?_
   rotate_left
   ·intro W0 hSw;(try dsimp only at hSw);go_simp;all_goals (with_reducible rfl)
   try simp only [Act.put,List.setIfInBounds_toArray,List.set_cons_zero,List.set_cons_succ]
   refine Bc (i :=1) (v := ?_) rfl (by kernel_rfl) (by kernel_rfl) (by kernel_rfl) (by kernel_rfl) (fun _ _ _ h=>h) (Or.inl ⟨by rfl, ?_⟩) e5 ?_
   rotate_left
   ·intro W0 hSw;(try dsimp only at hSw);go_simp;all_goals (with_reducible rfl)
   try simp only [Act.put,List.setIfInBounds_toArray,List.set_cons_zero,List.set_cons_succ]
   refine Bc (i :=2) (v := ?_) rfl (by kernel_rfl) (by kernel_rfl) (by kernel_rfl) (by kernel_rfl) (fun _ _ _ h=>h) (Or.inl ⟨by rfl, ?_⟩) e5 ?_
   rotate_left
   ·intro W0 hSw;(try dsimp only at hSw);go_simp;all_goals (with_reducible rfl)
   try simp only [Act.put,List.setIfInBounds_toArray,List.set_cons_zero,List.set_cons_succ]
   refine Bd (i :=3) (by kernel_rfl) rfl (fun K hK=> ?_)
   go_simp
   go_at_call 21;go_fit IH;rintro e V1 ⟨zx,rfl,hzx,hbx⟩;obtain ⟨zxo,zxc,rfl⟩ :=hzx.shape;have hbx' :Below V0.heap.size V0 V1 := (Below.refl _ _).drew.trans hbx;have e5b := (hbx.cell (p := ⟨w.heap.size,5,none⟩) (show w.heap.size<V0.heap.size by omega)).trans e5;have hC1 := (HCP.out.ext (Hh lab V0.heap.size (.slice zxo r.length zxc) (20+2* (st.rows.take k).length))).below hbx';have hv1 :Ck As 34 (Eu lab V0.heap.size (.slice zxo r.length zxc) (20+2* (st.rows.take k).length)) _ w.heap.size V1 _ _ :=Ck.made hzx (Nat.le_trans (by omega) hVs);have hC2 :=hC1.below (Aq V1 (.cells [.slice zxo r.length zxc].toArray 30));have hv2 :=hv1.keep (fun k _ hl _=> (Aq V1 (.cells [.slice zxo r.length zxc].toArray 30)).block k hl) (Aq V1 _).size;obtain ⟨csr,hor0,hzr,hrr⟩ :=hC2.rows;have horK :=hor0;rw [HLK.out] at horK;have hfix :=Gp V1 [.slice zxo r.length zxc] 30;have e5c := (Aq V1 (.cells [.slice zxo r.length zxc].toArray 30)).cell (p := ⟨w.heap.size,5,none⟩) (Nat.lt_of_lt_of_le (show w.heap.size<V0.heap.size by omega) hbx'.size);have e5d :=e5c.trans e5b;have hV2s :w.heap.size≤ (V1.alloc (.cells [.slice zxo r.length zxc].toArray 30)).heap.size := (hC2.bel.size);clear hzx IH hv1
   go_wp2_with fail
   refine hK.out _ _ (fun _=>e5b) ?_
   clear hK K
   try simp only [Act.put,List.setIfInBounds_toArray,List.set_cons_zero,List.set_cons_succ]
   refine Bd (i :=4) (by kernel_rfl) rfl (fun K hK=> ?_)
   go_simp
   go_wp2_with fail
   refine hK.out _ _ (fun _=>e5d) ?_
   clear hK K
   try simp only [Act.put,List.setIfInBounds_toArray,List.set_cons_zero,List.set_cons_succ]
   refine Bd (i :=5) (by kernel_rfl) rfl (fun K hK=> ?_)
   refine Dz (K :=Fk [.slice zxo r.length zxc]) (l := [()]) rfl _ _ 27 rfl w.heap.size 30 p2 _ 24 Tryz.underlying27 ri r0 rz1 rz2 rfl (Nat.succ_pos _) _ k csr rfl horK rfl hfix (Hj (by intro u hu;simp at hu;subst hu;rfl)) (by simp only [maxLen,List.length_singleton];omega) (by simp only [List.length_singleton];omega) hV2s ?_;intro z2 V3 csn hown3 hall3 hg3 hat3;have hcsn :=Hi hall3;subst hcsn;have hC3 :=CpSt.pushRow hC2 hor0 hzr hrr hv2 (by rw [HLK.out];exact hown3) hg3 hat3;obtain ⟨zo2,zc2,hz2⟩ :=hC3.rows.shape;rw [List.length_append,HLK.out,List.length_singleton] at hz2;subst hz2;have e53 :=Aa hC3.stm (j :=5) rfl;have f53 :V3.frozen? ⟨w.heap.size,5,none⟩ =false := (by simp only [World.frozen?,hC3.stm];rfl);have HC3 :Hid _ :=hC3;clear hC1 hC2 hC3 hor0 horK hrr hv2 hfix hown3 hall3 hg3 hat3
   refine hK.out _ _ (fun _=>e53) ?_
   clear hK K
   try simp only [Act.put,List.setIfInBounds_toArray,List.set_cons_zero,List.set_cons_succ]
   refine Bd (i :=6) (by kernel_rfl) rfl (fun K hK=> ?_)
   go_simp
   go_wp2_with fail
   refine hK.out _ _ (fun _=>e53) ?_
   clear hK K
   try simp only [Act.put,List.setIfInBounds_toArray,List.set_cons_zero,List.set_cons_succ]
   refine Bd (i :=7) (by kernel_rfl) rfl (fun K hK=> ?_)
   go_simp
   go_wp2_with fail
   refine hK.out _ _ (fun h=>nomatch (show true=false from h)) ?_
   clear hK K
   try simp only [Act.put,List.setIfInBounds_toArray,List.set_cons_zero,List.set_cons_succ]
   refine Hv (by kernel_rfl) ?_ _
   have hC4 :=HC3.out.set 5 (.slice zo2 (k+1) zc2)
   simp only [List.setIfInBounds_toArray,List.set_cons_zero,List.set_cons_succ] at hC4
   rw [←HT.out] at hC4
   go_wp2_with fail
   go_roundw
   case rel=>exact ⟨k+1,_,_,by omega,by go_num,hC4⟩
   case measure=>simp [intOf];omega
  ·have hkn :k=st.rows.length :=by omega
   subst hkn
   rw [List.take_length] at hcp
   have j1 : ¬ ((st.rows.length :Int) < (st.rows.length :Int)) :=by omega
   have HC :Hid _ :=hcp
   clear hcp
   go_wp2_with fail
   go_loopw [39] (fun i wr=> ∃ (k :Nat) (zs :Value) (lab :Nat→Nat),k≤st.sets.length∧i= .int .i64 k∧CpSt st w wr lab (sA st.kind st.name st.table st.col (.slice z4o st.cols.length z4c) zr zs (.slice z7o st.frm.length z7c) (.slice o5 st.out.length c5) op xk xn xs s nmv n8 (.slice o6 k6 c6) (.slice o7 st.order.length c7) st.down st.n) (.slice z4o st.cols.length z4c) (.slice z7o st.frm.length z7c) zr zs st.rows (st.sets.take k)) (fun i _=>st.sets.length - (intOf i).toNat)
   case atStart=>exact ⟨0,_,_,Nat.zero_le _,rfl,HC.out⟩
   case round=>
    obtain ⟨k,zs,lab2,hk,rfl,hcp⟩ :=hrel
    obtain ⟨Y0,hY0⟩ : ∃V,V=wr := ⟨_,rfl⟩
    subst hY0
    clear HC V0
    by_cases hlt :k<st.sets.length
    ·obtain ⟨⟨cn,ex⟩,hx⟩ : ∃x,st.sets[k]? =some x := ⟨_,List.getElem?_eq_getElem hlt⟩
     have HT :Hid (st.sets.take (k+1) =st.sets.take k++ [(cn,ex)]) :=by show _=_;rw [List.take_add_one,hx];rfl
     have HLK :Hid ((st.sets.take k).length=k) :=by show _=_;rw [List.length_take];omega
     have hnx :=HF.out.set _ (List.mem_of_getElem? hx)
     obtain ⟨b,off,cs,hso,hbC,hbl,⟨d,rfl,h8,hE⟩,hcell⟩ :=Av HR3.out hx
     cases hso
     cases ex with
     | mk op2 xx s2 nm2 n2 lx=>
     obtain ⟨xk2,xn2,xs2⟩ :=xx
     obtain ⟨sv,hcs,hlx⟩ :=hE.open
     obtain ⟨lo,lc,rfl⟩ :=hlx.shape
     have hd2 :d= [.int .i64 op2, .int .i64 xk2, .int .i64 xn2, .string xs2, .string s2, .string nm2, .int .i64 n2, .slice lo lx.length lc] :=by
      have :=congrArg Array.toList (Value.agg.inj hcs);simpa using this
     subst hd2
     simp only at hnx
     rw [Kc] at hnx
     have g : ∀j u,[.string cn, .int .i64 op2, .int .i64 xk2, .int .i64 xn2, .string xs2, .string s2, .string nm2, .int .i64 n2, .slice lo lx.length lc][j]? =some u→Y0.cell? ⟨b,off+k*9+j,none⟩ =some u :=fun j u hj=> (hcp.bel.cell (p := ⟨b,_,none⟩) hbl).trans (hcell j u hj)
     have g0 :=g 0 _ rfl
     have g1 :=g 1 _ rfl
     have g2 :=g 2 _ rfl
     have g3 :=g 3 _ rfl
     have g4 :=g 4 _ rfl
     have g5 :=g 5 _ rfl
     have g6 :=g 6 _ rfl
     have g7 :=g 7 _ rfl
     have g8 :=g 8 _ rfl
     simp only [Nat.add_zero] at g0
     have j0 : (0 :Int) ≤ (k :Int) :=by omega
     have j1 : (k :Int) < (st.sets.length :Int) :=by omega
     have hbx :=Aq Y0 (.cells #[.string cn, .int .i64 op2, .int .i64 xk2, .int .i64 xn2, .string xs2, .string s2, .string nm2, .int .i64 n2, .slice lo lx.length lc] 56)
     have bX :=Ab Y0 (.cells #[.string cn, .int .i64 op2, .int .i64 xk2, .int .i64 xn2, .string xs2, .string s2, .string nm2, .int .i64 n2, .slice lo lx.length lc] 56)
     have IH :=E6 16777216 (Nat.le_refl _) lx (by omega) F (Y0.alloc (.cells #[.string cn, .int .i64 op2, .int .i64 xk2, .int .i64 xn2, .string xs2, .string s2, .string nm2, .int .i64 n2, .slice lo lx.length lc] 56)) (.slice lo lx.length lc) (hlx.keep (Ar (hcp.bel.trans (hbx.mono hcp.bel.size))))
     have x8 :=Aa bX (j :=8) rfl
     obtain ⟨zo,zc,hzv⟩ :=hcp.sets.shape
     rw [HLK.out] at hzv
     subst hzv
     have hYs :=hcp.big
     have HCP :Hid _ :=hcp
     generalize hW1 :Y0.alloc (.cells #[.string cn, .int .i64 op2, .int .i64 xk2, .int .i64 xn2, .string xs2, .string s2, .string nm2, .int .i64 n2, .slice lo lx.length lc] 56) =W1 at*
     have HW1 :Hid _ :=hW1
     clear hcell hx hcs hE hlx h8 hcp hW1 g
     go_upto_region 12 with fail
     rw [HW1.out]
     go_upto_region 13 with (go_at_call 21;go_fit IH;rintro e W2 ⟨zx,rfl,hzx,hb2⟩;obtain ⟨xo,xc,rfl⟩ :=hzx.shape;have bX2 := (hb2.block _ (lt_of_block bX)).trans bX;have f8 := (show W2.frozen? ⟨Y0.heap.size,8,none⟩ =false by simp only [World.frozen?,bX2];rfl);have x8b :=Aa bX2 (j :=8) rfl)
     have bX3 : (W2.setCell ⟨Y0.heap.size,8,none⟩ (.slice xo lx.length xc)).heap[Y0.heap.size]? =some (.cells #[.string cn, .int .i64 op2, .int .i64 xk2, .int .i64 xn2, .string xs2, .string s2, .string nm2, .int .i64 n2, .slice xo lx.length xc] 56) :=Cl bX2 8 _
     have h01 :Y0.heap.size<W1.heap.size :=lt_of_block bX
     have hb03 :Below Y0.heap.size Y0 (W2.setCell ⟨Y0.heap.size,8,none⟩ (.slice xo lx.length xc)) := (hbx.trans (hb2.mono (Nat.le_of_lt h01))).setCell (Nat.le_refl _) _
     have hzx3 :=hzx.keepLow (w' :=W2.setCell ⟨Y0.heap.size,8,none⟩ (.slice xo lx.length xc)) (fun k hk _=>Below.heap_setCell _ _ _ k (show k≠Y0.heap.size by omega)) (by simp [World.setCell])
     have y0 :=Aa bX3 (j :=0) rfl
     have y1 :=Aa bX3 (j :=1) rfl
     have y2 :=Aa bX3 (j :=2) rfl
     have y3 :=Aa bX3 (j :=3) rfl
     have y4 :=Aa bX3 (j :=4) rfl
     have y5 :=Aa bX3 (j :=5) rfl
     have y6 :=Aa bX3 (j :=6) rfl
     have y7 :=Aa bX3 (j :=7) rfl
     have y8 :=Aa bX3 (j :=8) rfl
     generalize W2.setCell ⟨Y0.heap.size,8,none⟩ (.slice xo lx.length xc) =W3 at*
     have hb34 :=Aq W3 (.cells [.string cn, .int .i64 op2, .int .i64 xk2, .int .i64 xn2, .string xs2, .string s2, .string nm2, .int .i64 n2, .slice xo lx.length xc].toArray 56)
     have hb04 :Below Y0.heap.size Y0 (W3.alloc (.cells [.string cn, .int .i64 op2, .int .i64 xk2, .int .i64 xn2, .string xs2, .string s2, .string nm2, .int .i64 n2, .slice xo lx.length xc].toArray 56)) :=hb03.trans (hb34.mono hb03.size)
     have hC3 := (HCP.out.ext (Do lab2 Y0.heap.size 7)).below hb03
     have hC4 := (HCP.out.ext (Do lab2 Y0.heap.size 7)).below hb04
     obtain ⟨⟨css,hos0,_,hal⟩,hzs⟩ :=hC4.sets
     have hosK :=hos0
     rw [HLK.out] at hosK
     have hfix :=Gp W3 [.string cn, .int .i64 op2, .int .i64 xk2, .int .i64 xn2, .string xs2, .string s2, .string nm2, .int .i64 n2, .slice xo lx.length xc] 56
     have e6 :=Aa hC3.stm (j :=6) rfl
     have hRX :C5.R (fun k=>w.heap.size≤k∧C3 lab2 Y0.heap.size 7 k=6+1) (W3.alloc (.cells [.string cn, .int .i64 op2, .int .i64 xk2, .int .i64 xn2, .string xs2, .string s2, .string nm2, .int .i64 n2, .slice xo lx.length xc].toArray 56)) (cn, .mk op2 ⟨xk2,xn2,xs2⟩ s2 nm2 n2 lx) [.string cn, .int .i64 op2, .int .i64 xk2, .int .i64 xn2, .string xs2, .string s2, .string nm2, .int .i64 n2, .slice xo lx.length xc] :=by
      refine ⟨_,rfl,rfl,Dd (x := ⟨xk2,xn2,xs2⟩) (Abf.1 ?_)⟩
      refine IsL.keep (hzx3.isL.mono fun k hk h=> ?_) (Ar hb34)
      have hk1 :W1.heap.size≤k :=by
       rcases h with h | h
       ·exact absurd h (Nat.not_lt_zero _)
       ·exact h
      exact ⟨by omega,by rw [C3,if_neg (by omega)]⟩
     have hV4s :w.heap.size≤ (W3.alloc (.cells [.string cn, .int .i64 op2, .int .i64 xk2, .int .i64 xn2, .string xs2, .string s2, .string nm2, .int .i64 n2, .slice xo lx.length xc].toArray 56)).heap.size :=hC4.bel.size
     have hone9 : ∀u∈ ([.string cn, .int .i64 op2, .int .i64 xk2, .int .i64 xn2, .string xs2, .string s2, .string nm2, .int .i64 n2, .slice xo lx.length xc] :List Value),u.oneCell'=true :=by
      intro u hu
      simp only [List.mem_cons,List.not_mem_nil,or_false] at hu
      rcases hu with rfl | rfl | rfl | rfl | rfl | rfl | rfl | rfl | rfl<;>rfl
     have HC4 :Hid _ :=hC4
     have HRX :Hid _ :=hRX
     have HAL :Hid _ :=hal
     clear hC3 hC4 hRX hal bX bX2 bX3 x8 x8b hzx hzx3 IH g0 g1 g2 g3 g4 g5 g6 g7 g8
     go_wp2_with (first | (at_builtin;go_must (refine By (K :=Fk [.string cn, .int .i64 op2, .int .i64 xk2, .int .i64 xn2, .string xs2, .string s2, .string nm2, .int .i64 n2, .slice xo lx.length xc]) (l := [()]) rfl _ _ 28 rfl w.heap.size 56 p3 _ 120 Tryz.underlying28 ti t0 tz1 tz2 rfl (Nat.succ_pos _) _ k css rfl hosK rfl hfix (Hj hone9) (by simp only [maxLen,List.length_singleton];omega) (by simp only [List.length_singleton];omega) hV4s ?h2)))
     case h2=>
      intro z2 V5 csn hown5 hall5 hg5 hat5
      have hcsn :=Hi hall5
      subst hcsn
      have hC5 :=CpSt.pushSet HC4.out hos0 hzs HAL.out HRX.out (by rw [HLK.out];exact hown5) hg5 (hat5.imp id fun h=>h.trans (by simp))
      obtain ⟨zo2,zc2,hz2⟩ :=hC5.sets.shape
      rw [List.length_append,HLK.out,List.length_singleton] at hz2
      subst hz2
      have e65 :=Aa hC5.stm (j :=6) rfl
      have f65 :V5.frozen? ⟨w.heap.size,6,none⟩ =false :=by simp only [World.frozen?,hC5.stm];rfl
      have hC6 :=hC5.set 6 (.slice zo2 (k+1) zc2)
      simp only [List.setIfInBounds_toArray,List.set_cons_zero,List.set_cons_succ] at hC6
      rw [←HT.out] at hC6
      have HC6 :Hid _ :=hC6
      clear hC5 hC6 HC4 HRX HAL
      go_wp2_with fail
      go_roundw
      case rel=>exact ⟨k+1,_,_,by omega,by go_num,HC6.out⟩
      case measure=>simp [intOf];omega
    ·have hkn :k=st.sets.length :=by omega
     subst hkn
     rw [List.take_length] at hcp
     have j1 : ¬ ((st.sets.length :Int) < (st.sets.length :Int)) :=by omega
     have q8 :=Aa hcp.stm (j :=8) rfl
     have q17 :=Aa hcp.stm (j :=17) rfl
     have q16 :=Aa hcp.stm (j :=16) rfl
     have hYs :=hcp.big
     cases hwe :st.wher with
     | mk opw xw sw nmw nw lw=>
     have HE6 :=HR6.out
     rw [hwe] at HE6
     obtain ⟨sv,hcs,hlw⟩ :=HE6.open
     have hws :sv= .slice o6 k6 c6∧op=opw∧xk=xw.k∧xn=xw.n∧xs=xw.s∧s=sw∧nmv=nmw∧n8=nw :=by
      have :=congrArg Array.toList (Value.agg.inj hcs)
      simp only [List.cons.injEq,Value.int.injEq,Value.string.injEq,true_and,and_true] at this
      obtain ⟨a1,a2,a3,a4,a5,a6,a7,a8⟩ :=this
      exact ⟨a8.symm,a1,a2,a3,a4,a5,a6,a7⟩
     obtain ⟨rfl,rfl,rfl,rfl,rfl,rfl,rfl,rfl⟩ :=hws
     have hnw :=HF.out.wher
     rw [hwe,Kc] at hnw
     have hk6 :k6=lw.length :=by obtain ⟨_,_,e⟩ :=hlw.shape;cases e;rfl
     subst hk6
     have HX5 : ∀W,Below w.heap.size w W→Calls Tryz.prog 21 #[.slice o5 st.out.length c5] W (I8 st.out W) :=fun W h=>E6 16777216 (Nat.le_refl _) st.out HF.out.out F W _ (Abf.1 (IsL.keep HR5.out (Ar h)))
     have HX7 : ∀W,Below w.heap.size w W→Calls Tryz.prog 21 #[.slice o7 st.order.length c7] W (I8 st.order W) :=fun W h=>E6 16777216 (Nat.le_refl _) st.order HF.out.order F W _ (Abf.1 (IsL.keep HR7.out (Ar h)))
     have HX6 : ∀W,Below w.heap.size w W→Calls Tryz.prog 21 #[.slice o6 lw.length c6] W (I8 lw W) :=fun W h=>E6 16777216 (Nat.le_refl _) lw (by omega) F W _ (hlw.keep (Ar h))
     have hbY :Below w.heap.size w Y0.drew :=hcp.bel.drew
     have HCP :Hid _ :=hcp
     clear hcp HR2 HR3 HR5 HR6 HR7 HE6 hcs hlw hnw
     go_wp2_with fail
     refine Fb (S := (fun W=>W.cell? ⟨w.heap.size,8,none⟩ =some (.slice o5 st.out.length c5) ∧W.cell? ⟨w.heap.size,17,none⟩ =some (.slice o7 st.order.length c7) ∧W.cell? ⟨w.heap.size,16,none⟩ =some (.slice o6 lw.length c6))) (z :=11) (by kernel_rfl) ?_
     refine Bc (i :=0) (v := ?_) rfl (by kernel_rfl) (by kernel_rfl) (by kernel_rfl) (by kernel_rfl) (fun _ _ _ h=>h) (Or.inl ⟨by rfl, ?_⟩) ⟨q8,q17,q16⟩ ?_
     rotate_left
     ·intro W0 hSw;(try dsimp only at hSw);go_simp;all_goals (with_reducible rfl)
     try simp only [Act.put,List.setIfInBounds_toArray,List.set_cons_zero,List.set_cons_succ]
     refine Bc (i :=1) (v := ?_) rfl (by kernel_rfl) (by kernel_rfl) (by kernel_rfl) (by kernel_rfl) (fun _ _ _ h=>h) (Or.inl ⟨by rfl, ?_⟩) ⟨q8,q17,q16⟩ ?_
     rotate_left
     ·intro W0 hSw;(try dsimp only at hSw);go_simp;all_goals (with_reducible rfl)
     try simp only [Act.put,List.setIfInBounds_toArray,List.set_cons_zero,List.set_cons_succ]
     refine Bc (i :=3) (v := ?_) rfl (by kernel_rfl) (by kernel_rfl) (by kernel_rfl) (by kernel_rfl) (fun _ _ _ h=>h) (Or.inl ⟨by rfl, ?_⟩) ⟨q8,q17,q16⟩ ?_
     rotate_left
     ·intro W0 hSw;(try dsimp only at hSw);go_simp;all_goals (with_reducible rfl)
     try simp only [Act.put,List.setIfInBounds_toArray,List.set_cons_zero,List.set_cons_succ]
     refine Bc (i :=4) (v := ?_) rfl (by kernel_rfl) (by kernel_rfl) (by kernel_rfl) (by kernel_rfl) (fun _ _ _ h=>h) (Or.inl ⟨by rfl, ?_⟩) ⟨q8,q17,q16⟩ ?_
     rotate_left
     ·intro W0 hSw;(try dsimp only at hSw);go_simp;all_goals (with_reducible rfl)
     try simp only [Act.put,List.setIfInBounds_toArray,List.set_cons_zero,List.set_cons_succ]
     refine Bc (i :=6) (v := ?_) rfl (by kernel_rfl) (by kernel_rfl) (by kernel_rfl) (by kernel_rfl) (fun _ _ _ h=>h) (Or.inl ⟨by rfl, ?_⟩) ⟨q8,q17,q16⟩ ?_
     rotate_left
     ·intro W0 hSw;(try dsimp only at hSw);go_simp;all_goals (with_reducible rfl)
     try simp only [Act.put,List.setIfInBounds_toArray,List.set_cons_zero,List.set_cons_succ]
     refine Bc (i :=7) (v := ?_) rfl (by kernel_rfl) (by kernel_rfl) (by kernel_rfl) (by kernel_rfl) (fun _ _ _ h=>h) (Or.inl ⟨by rfl, ?_⟩) ⟨q8,q17,q16⟩ ?_
     rotate_left
     ·intro W0 hSw;(try dsimp only at hSw);go_simp;all_goals (with_reducible rfl)
     try simp only [Act.put,List.setIfInBounds_toArray,List.set_cons_zero,List.set_cons_succ]
     refine Bc (i :=8) (v := ?_) rfl (by kernel_rfl) (by kernel_rfl) (by kernel_rfl) (by kernel_rfl) (fun _ _ _ h=>h) (Or.inl ⟨by rfl, ?_⟩) ⟨q8,q17,q16⟩ ?_
     rotate_left
     ·intro W0 hSw;(try dsimp only at hSw);go_simp;all_goals (with_reducible rfl)
     try simp only [Act.put,List.setIfInBounds_toArray,List.set_cons_zero,List.set_cons_succ]
     refine Bd (i :=2) (by kernel_rfl) rfl (fun K hK=> ?_)
     go_simp
     go_at_call 21;go_fit (HX5 _ hbY);rintro e V1 ⟨z1,rfl,hz1,hb1⟩;obtain ⟨z1o,z1c,rfl⟩ :=hz1.shape;have hbw1 :Below w.heap.size w V1 :=hbY.trans (hb1.mono hbY.size);have q81 := (hb1.cell (p := ⟨w.heap.size,8,none⟩) (show w.heap.size<Y0.heap.size by omega)).trans q8;have q171 := (hb1.cell (p := ⟨w.heap.size,17,none⟩) (show w.heap.size<Y0.heap.size by omega)).trans q17;have q161 := (hb1.cell (p := ⟨w.heap.size,16,none⟩) (show w.heap.size<Y0.heap.size by omega)).trans q16;have hsz1 :w.heap.size+2≤V1.heap.size := (by have h9 :=hb1.size;first | omega | (simp only [World.drew] at h9;omega))
     go_wp2_with fail
     refine hK.out _ _ (fun _=> ⟨q81,q171,q161⟩) ?_
     clear hK K
     try simp only [Act.put,List.setIfInBounds_toArray,List.set_cons_zero,List.set_cons_succ]
     refine Bc (i :=10) (v := ?_) rfl (by kernel_rfl) (by kernel_rfl) (by kernel_rfl) (by kernel_rfl) (fun _ _ _ h=>h) (Or.inl ⟨by rfl, ?_⟩) ⟨q81,q171,q161⟩ ?_
     rotate_left
     ·intro W0 hSw;(try dsimp only at hSw);go_simp;all_goals (with_reducible rfl)
     try simp only [Act.put,List.setIfInBounds_toArray,List.set_cons_zero,List.set_cons_succ]
     refine Bd (i :=5) (by kernel_rfl) rfl (fun K hK=> ?_)
     go_simp
     go_at_call 21;go_fit (HX7 _ hbw1);rintro e V2 ⟨z2,rfl,hz2,hb2⟩;obtain ⟨z2o,z2c,rfl⟩ :=hz2.shape;have hbw2 :Below w.heap.size w V2 :=hbw1.trans (hb2.mono hbw1.size);have q82 := (hb2.cell (p := ⟨w.heap.size,8,none⟩) (show w.heap.size<V1.heap.size by omega)).trans q81;have q172 := (hb2.cell (p := ⟨w.heap.size,17,none⟩) (show w.heap.size<V1.heap.size by omega)).trans q171;have q162 := (hb2.cell (p := ⟨w.heap.size,16,none⟩) (show w.heap.size<V1.heap.size by omega)).trans q161;have hsz2 :w.heap.size+2≤V2.heap.size := (by have h9 :=hb2.size;first | omega | (simp only [World.drew] at h9;omega))
     go_wp2_with fail
     refine hK.out _ _ (fun _=> ⟨q82,q172,q162⟩) ?_
     clear hK K
     try simp only [Act.put,List.setIfInBounds_toArray,List.set_cons_zero,List.set_cons_succ]
     refine Bd (i :=9) (by kernel_rfl) rfl (fun K hK=> ?_)
     go_simp
     go_at_call 21;go_fit (HX6 _ hbw2);rintro e V3 ⟨z3,rfl,hz3,hb3⟩;obtain ⟨z3o,z3c,rfl⟩ :=hz3.shape;have hbw3 :Below w.heap.size w V3 :=hbw2.trans (hb3.mono hbw2.size);have q83 := (hb3.cell (p := ⟨w.heap.size,8,none⟩) (show w.heap.size<V2.heap.size by omega)).trans q82;have q173 := (hb3.cell (p := ⟨w.heap.size,17,none⟩) (show w.heap.size<V2.heap.size by omega)).trans q172;have q163 := (hb3.cell (p := ⟨w.heap.size,16,none⟩) (show w.heap.size<V2.heap.size by omega)).trans q162;have hsz3 :w.heap.size+2≤V3.heap.size := (by have h9 :=hb3.size;first | omega | (simp only [World.drew] at h9;omega));have bS9 :V3.heap[w.heap.size]? =_ := (hb3.block _ (show w.heap.size<V2.heap.size by omega)).trans ((hb2.block _ (show w.heap.size<V1.heap.size by omega)).trans ((hb1.block _ (show w.heap.size<Y0.heap.size by omega)).trans HCP.out.stm));have fz9 : ∀o,V3.frozen? ⟨w.heap.size,o,none⟩ =false := (fun o=>by simp only [World.frozen?,bS9];rfl)
     go_wp2_with fail
     refine hK.out _ _ (fun _=> ⟨q83,q173,q163⟩) ?_
     clear hK K
     try simp only [Act.put,List.setIfInBounds_toArray,List.set_cons_zero,List.set_cons_succ]
     refine Bd (i :=11) (by kernel_rfl) rfl (fun K hK=> ?_)
     go_simp
     go_wp2_with fail
     refine hK.out _ _ (fun h=>nomatch (show true=false from h)) ?_
     clear hK K
     try simp only [Act.put,List.setIfInBounds_toArray,List.set_cons_zero,List.set_cons_succ]
     refine Bd (i :=12) (by kernel_rfl) rfl (fun K hK=> ?_)
     go_simp
     go_wp2_with fail
     refine hK.out _ _ (fun h=>nomatch (show true=false from h)) ?_
     clear hK K
     try simp only [Act.put,List.setIfInBounds_toArray,List.set_cons_zero,List.set_cons_succ]
     refine Bd (i :=13) (by kernel_rfl) rfl (fun K hK=> ?_)
     go_simp
     go_wp2_with fail
     refine hK.out _ _ (fun h=>nomatch (show true=false from h)) ?_
     clear hK K
     try simp only [Act.put,List.setIfInBounds_toArray,List.set_cons_zero,List.set_cons_succ]
     refine Bd (i :=14) (by kernel_rfl) rfl (fun K hK=> ?_)
     go_simp
     go_wp2_with fail
     refine hK.out _ _ (fun h=>nomatch (show true=false from h)) ?_
     clear hK K
     try simp only [Act.put,List.setIfInBounds_toArray,List.set_cons_zero,List.set_cons_succ]
     refine Bd (i :=15) (by kernel_rfl) rfl (fun K hK=> ?_)
     go_simp
     go_wp2_with fail
     refine hK.out _ _ (fun h=>nomatch (show true=false from h)) ?_
     clear hK K
     try simp only [Act.put,List.setIfInBounds_toArray,List.set_cons_zero,List.set_cons_succ]
     refine Bd (i :=16) (by kernel_rfl) rfl (fun K hK=> ?_)
     go_simp
     go_wp2_with fail
     refine hK.out _ _ (fun h=>nomatch (show true=false from h)) ?_
     clear hK K
     try simp only [Act.put,List.setIfInBounds_toArray,List.set_cons_zero,List.set_cons_succ]
     refine Hv (by kernel_rfl) ?_ _
     obtain ⟨labf,hCf,hend⟩ :=CpSt.finish (HCP.out.below (Below.refl _ _).drew) hz1 hb1 hz2 hb2 hz3 hb3 hwe
     obtain ⟨zro,zrc,rfl⟩ :=hCf.rows.shape
     obtain ⟨zso,zsc,rfl⟩ :=hCf.sets.shape
     have hCg := ((hCf.set 8 (.slice z1o st.out.length z1c)).set 17 (.slice z2o st.order.length z2c)).set 16 (.slice z3o lw.length z3c)
     simp only [List.setIfInBounds_toArray,List.set_cons_zero,List.set_cons_succ] at hCg
     have hends :=hend ((((V3.setCell ⟨w.heap.size,8,none⟩ (.slice z1o st.out.length z1c)).setCell ⟨w.heap.size,17,none⟩ (.slice z2o st.order.length z2c)).setCell ⟨w.heap.size,16,none⟩ (.slice z3o lw.length z3c)).setRow (w.heap.size+1) (sA st.kind st.name st.table st.col (.slice z4o st.cols.length z4c) (.slice zro st.rows.length zrc) (.slice zso st.sets.length zsc) (.slice z7o st.frm.length z7c) (.slice z1o st.out.length z1c) op xw.k xw.n xw.s s nmv n8 (.slice z3o lw.length z3c) (.slice z2o st.order.length z2c) st.down st.n)) (by simp [World.setRow,World.setCell]) (fun k _ hk=>by
      have e : ∀ (W :World) (o :Nat) (v :Value),(W.setCell ⟨w.heap.size,o,none⟩ v).heap[k]? =W.heap[k]? :=fun W o v=>Below.heap_setCell _ _ _ k (show k≠w.heap.size by omega)
      simp only [World.setRow,Array.getElem?_modify]
      rw [if_neg (by omega),e,e,e])
     have hstm :=hCg.stm
     have hroom :=hCg.room
     have hbel :=hCg.bel
     have hone : (sA st.kind st.name st.table st.col (.slice z4o st.cols.length z4c) (.slice zro st.rows.length zrc) (.slice zso st.sets.length zsc) (.slice z7o st.frm.length z7c) (.slice z1o st.out.length z1c) op xw.k xw.n xw.s s nmv n8 (.slice z3o lw.length z3c) (.slice z2o st.order.length z2c) st.down st.n).all (·.oneCell') =true :=Dq (Au _ _ _) (Au _ _ _) (Au _ _ _) (Au _ _ _) (Au _ _ _) (Au _ _ _) (Au _ _ _)
     generalize (((V3.setCell ⟨w.heap.size,8,none⟩ (.slice z1o st.out.length z1c)).setCell ⟨w.heap.size,17,none⟩ (.slice z2o st.order.length z2c)).setCell ⟨w.heap.size,16,none⟩ (.slice z3o lw.length z3c)) =VF at*
     have HEN :Hid _ :=hends
     clear hCf hCg hend hends HX5 HX6 HX7 q8 q17 q16 q81 q171 q161 q82 q172 q162 q83 q173 q163
     go_wp2_with (first | (refine Cx ?_ 36 _ rfl w.heap.size ?_ 36 _ (0,0) _ hstm Tryz.underlying36 ?_ ?_ ?_;exact rfl;exact rfl;exact rfl;exact Am) | (refine wpList_store_row rfl 36 _ _ rfl (w.heap.size+1) (sA st.kind st.name st.table st.col (.slice z4o st.cols.length z4c) (.slice zro st.rows.length zrc) (.slice zso st.sets.length zsc) (.slice z7o st.frm.length z7c) (.slice z1o st.out.length z1c) op xw.k xw.n xw.s s nmv n8 (.slice z3o lw.length z3c) (.slice z2o st.order.length z2c) st.down st.n) ?_ ?_ 36 Ah ?_ ?_ ?_ ?_ ?_;exact rfl;exact rfl;exact hroom;exact Am;exact rfl;exact hone))
     refine bodyPost_ret (results_cell_row Tryz.results5 _ _ (w.heap.size+1) 36 (sA st.kind st.name st.table st.col (.slice z4o st.cols.length z4c) (.slice zro st.rows.length zrc) (.slice zso st.sets.length zsc) (.slice z7o st.frm.length z7c) (.slice z1o st.out.length z1c) op xw.k xw.n xw.s s nmv n8 (.slice z3o lw.length z3c) (.slice z2o st.order.length z2c) st.down st.n) _ _ rfl (An hroom) Tryz.underlying36 rfl Am) rfl ?_
     exact ⟨labf,_,_,_,_,_,_,_,_,_,_,_,_,_,_,rfl,HEN.out.1,HEN.out.2,Below.row hbel (by omega) _⟩
end Go.Proofs.YtmgkcjiejmhgcaaGreatDoor

