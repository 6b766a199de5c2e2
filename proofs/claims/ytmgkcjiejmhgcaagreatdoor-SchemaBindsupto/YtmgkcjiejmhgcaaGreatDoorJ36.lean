/-
  3 texts of this proof in one, in build order: BPut, BMidW, BWithM.
-/
import Derived.Deep.DeepCutAuto
import Derived.Test.YtmgkcjiejmhgcaaGreatDoorJ21
import Derived.Test.YtmgkcjiejmhgcaaGreatDoorJ22
import Derived.Test.YtmgkcjiejmhgcaaGreatDoorJ29
import Derived.Test.YtmgkcjiejmhgcaaGreatDoorJ35
set_option linter.unusedSimpArgs false
set_option linter.unusedVariables false
namespace Go.Proofs.YtmgkcjiejmhgcaaGreatDoor
open Go.RowKit Go.Maps
structure EvAt (V W :World) (nb :Nat) (y :E) (arr :Array Value) :Prop where
 size :arr.size=8
 one :arr.all (·.oneCell') =true
 box :W.heap[nb]? =some (.cells arr 34)
 is :IsE (Fr V.heap.size) W y (.agg arr)
 bel :Below V.heap.size V W
theorem EvAt.info {V W :World} {nb :Nat} {y :E} {arr :Array Value} (h :EvAt V W nb y arr) : (Tryz.prog.info? 34).map (·.size) =some arr.size :=by rw [h.size];exact Ai
theorem EvOk.at {V W1 :World} {y :E} {arr :Array Value} (h :EvOk V W1 y arr) :EvAt V (evW W1 arr) W1.heap.size y arr :=
 ⟨h.size,h.one,Hl W1 arr,IsE.keep (Ar (Gr W1 arr)) _ _ h.is,h.bel.trans ((Gr W1 arr).mono h.bel.size)⟩
theorem EvOk.ahead {V W1 :World} {y :E} {arr :Array Value} (h :EvOk (V.alloc (.cells eZ 34)) W1 y arr) :EvAt V (W1.setRow V.heap.size arr) V.heap.size y arr :=by
 have hb :=Aq V (.cells eZ 34)
 have h1 :V.heap.size< (V.alloc (.cells eZ 34)).heap.size :=by simp
 refine ⟨h.size,h.one,An ((h.bel.block _ h1).trans (Ab V (.cells eZ 34))), ?_,Below.row (hb.trans (h.bel.mono hb.size)) (Nat.le_refl _) _⟩
 exact IsE.mono (fun k _ (hk :_≤k) =>show V.heap.size≤k by omega) _ _ (IsE.keep ((Keeps.refl _ _).row (show ¬ (V.alloc (.cells eZ 34)).heap.size≤V.heap.size by omega) _) _ _ h.is)
theorem EvAt.elem {V W :World} {nb :Nat} {y :E} {arr :Array Value} (h :EvAt V W nb y arr) {D c :Nat} {lab :Nat→Nat} (hD :D≤V.heap.size) :As.R (fun k=>D≤k∧C3 lab V.heap.size c k=c) W y arr.toList :=by
 refine ⟨by simpa using h.size, ?_⟩
 rw [Array.toArray_toList]
 exact Wq hD h.is (Below.refl _ _)
structure EvF (w w' :World) (o :Except Int E) (arr :Array Value) (f :Int) :Prop where
 size :arr.size=8
 one :arr.all (·.oneCell') =true
 bel :Below w.heap.size w w'
 is :match o with | .ok y=>f=0∧IsE (Fr w.heap.size) w' y (.agg arr) | .error m=>f=m
theorem EvF.info {w w' :World} {o :Except Int E} {arr :Array Value} {f :Int} (h :EvF w w' o arr f) : (Tryz.prog.info? 34).map (·.size) =some arr.size :=by rw [h.size];exact Ai
structure EvFAt (V W :World) (nb :Nat) (o :Except Int E) (arr :Array Value) (f :Int) :Prop where
 size :arr.size=8
 one :arr.all (·.oneCell') =true
 box :W.heap[nb]? =some (.cells arr 34)
 bel :Below V.heap.size V W
 is :match o with | .ok y=>f=0∧IsE (Fr V.heap.size) W y (.agg arr) | .error m=>f=m
theorem EvF.at {V W1 :World} {o :Except Int E} {arr :Array Value} {f :Int} (h :EvF V W1 o arr f) :EvFAt V (evW W1 arr) W1.heap.size o arr f :=
 ⟨h.size,h.one,Hl W1 arr,h.bel.trans ((Gr W1 arr).mono h.bel.size),by
  have :=h.is
  cases o with
  | error m=>exact this
  | ok y=>exact ⟨this.1,IsE.keep (Ar (Gr W1 arr)) _ _ this.2⟩⟩
theorem EvF.ahead {V W1 :World} {o :Except Int E} {arr :Array Value} {f :Int} (h :EvF (V.alloc (.cells eZ 34)) W1 o arr f) :EvFAt V (W1.setRow V.heap.size arr) V.heap.size o arr f :=by
 have hb :=Aq V (.cells eZ 34)
 have h1 :V.heap.size< (V.alloc (.cells eZ 34)).heap.size :=by simp
 refine ⟨h.size,h.one,An ((h.bel.block _ h1).trans (Ab V (.cells eZ 34))),Below.row (hb.trans (h.bel.mono hb.size)) (Nat.le_refl _) _, ?_⟩
 have :=h.is
 cases o with
 | error m=>exact this
 | ok y=>exact ⟨this.1,IsE.mono (fun k _ (hk :_≤k) =>show V.heap.size≤k by omega) _ _ (IsE.keep ((Keeps.refl _ _).row (show ¬ (V.alloc (.cells eZ 34)).heap.size≤V.heap.size by omega) _) _ _ this.2)⟩
theorem EvFAt.undrew {V W :World} {nb :Nat} {o :Except Int E} {arr :Array Value} {f :Int} (h :EvFAt V.drew W nb o arr f) :EvFAt V W nb o arr f := ⟨h.size,h.one,h.box,(Below.refl _ _).drew.trans h.bel,h.is⟩
theorem EvFAt.ok {V W :World} {nb :Nat} {y :E} {arr :Array Value} {f :Int} (h :EvFAt V W nb (.ok y) arr f) :f=0∧EvAt V W nb y arr := ⟨h.is.1,h.size,h.one,h.box,h.is.2,h.bel⟩
theorem Ki {S :List TabD} (hS :GoodS S) {want :Int} {e :E} {v cv :Value} {C :Nat} {w :World} (he :IsE (fun k=>k<C) w e v) (hl :IsL B8 (fun k=>k<C) w cv (Ax S)) (hC :C≤w.heap.size) (hg :geB 40 e=true) :
  Calls Tryz.prog 29 #[cv,v, .int .i64 want] w fun r w'=> ∃arr f,r= .returned (.tuple #[.agg arr, .int .i64 f]) ∧EvF w w' (asR S want e) arr f :=
 (Ly S hS want e v cv C w he hl hC hg).mono (by
  rintro r w' ⟨⟨u,rfl,hu⟩,hb⟩
  cases hr :asR S want e with
  | error m=>
   rw [hr] at hu
   exact ⟨_,_,by rw [show u=_ from hu],rfl,A8 _ _ _ _ _ _ _ _,hb,rfl⟩
  | ok y=>
   rw [hr] at hu
   obtain ⟨op,x,s,nm,n,ao,k,c,rfl,hE⟩ :=hu
   exact ⟨_,_,rfl,rfl,A8 _ _ _ _ _ _ _ _,hb,rfl,hE⟩)
section
variable {w W V :World} {D :Nat} {lab :Nat→Nat} {cat :Array Value} {v :Lv} {st :Stm}
theorem BdSt.made (h :BdSt w V D lab cat v st) {nb :Nat} {y :E} {arr :Array Value} (he :EvAt V W nb y arr) (c :Nat) :BdSt w W D (C3 lab V.heap.size c) cat v st := (h.ext (Do lab V.heap.size c)).below he.bel
theorem Mg {α :Type} {ys r :List α} {j :Nat} (hj :ys.length=j) (hr :j<r.length) (y :α) : (ys++r.drop j).set j y= (ys++ [y]) ++r.drop (j+1) :=by
 subst hj
 rw [List.set_append_right _ _ (Nat.le_refl _),Nat.sub_self,List.drop_eq_getElem_cons hr,List.set_cons_zero]
 simp
theorem Yg {α :Type} {rs l :List α} {k :Nat} (hk :rs.length=k) (c d :α) : (rs++c ::l).set k d=rs++d ::l :=by
 subst hk
 rw [List.set_append_right _ _ (Nat.le_refl _),Nat.sub_self,List.set_cons_zero]
theorem BdSt.put_row (h :BdSt w W D lab cat v st) {k j :Nat} {r :List E} (hr :st.rows[k]? =some r) (hj :j<r.length) {vr :Value} (hv :v.rv[k]? =some vr) {y :E} {d :List Value} (hy :As.R (fun u=>D≤u∧lab u=20+2*k+1) W y d) :
  ∃g cap,vr= .slice (some ⟨g,0,none⟩) r.length cap∧W.there g (j*8) d.length∧BdSt w (W.setCells g (j*8) d) D lab cat v {st with rows :=st.rows.set k (r.set j y)} :=by
 obtain ⟨h1,h2,h3⟩ :=h.rows
 obtain ⟨v',g1,g2⟩ :=h3 k r hr
 obtain rfl :vr=v' :=by rw [hv] at g1;exact Option.some.inj g1
 obtain ⟨g,cap,rfl,hl,ht,ho⟩ :=g2.put hj (by decide) hy
 obtain ⟨l0,l1,l2⟩ :=h.lows
 have kb := (Md.refl lab (20+2*k) W).sets (g :=g) (fun _=>hl) (j*8) d
 have e : ∀u,lab u≠20+2*k→u<W.heap.size→ (W.setCells g (j*8) d).heap[u]? =W.heap[u]? :=fun u hk hs=>kb.2 u hs hk
 have ob : (W.setCells g (j*8) d).heap.size=W.heap.size :=Bp _ _ _ _
 refine ⟨g,cap,rfl,ht,(e _ (by omega) (lt_of_block h.cat)).trans h.cat, ?_,(e _ (by omega) (lt_of_block h.room)).trans h.room, ?_,h.big,by rw [ob];exact h.dlt,h.low,(e _ (by rw [h.lz];omega) (lt_of_block h.tab)).trans h.tab,h.lz,h.own.keep ⟨kb.1,fun u hc hl=>e u (by rw [hc.2];omega) hl⟩,h.cols.keep (fun u _ hl hc=>e u (by omega) hl) kb.1, ?_,h.sets.keep (fun u _ hl hc=>e u (by omega) hl) kb.1,h.frm.keep (fun u _ hl hc=>e u (by omega) hl) kb.1,h.out.keep (fun u _ hl hc=>e u (by omega) hl) kb.1,IsE.keep ⟨kb.1,fun u hc hl=>e u (by rw [hc.2];omega) hl⟩ _ _ h.wher,h.order.keep (fun u _ hl hc=>e u (by omega) hl) kb.1⟩
 ·have := (e _ (by omega) (lt_of_block h.stm)).trans h.stm
  simpa only [Lv.arr,List.length_set] using this
 ·exact Fy (Nat.le_of_not_lt fun hg=>by have :=h.low g (by have :=h.big;omega);omega) _ _ h.bel
 ·simp only [List.length_set]
  refine ⟨by rw [List.length_set];exact Ja h1 fun u hu=>e u (by have :=h2 u hu;omega) (h1.lt u hu).2,h2,fun i r' hi=> ?_⟩
  by_cases hik :i=k
  ·subst hik
   obtain rfl :r.set j y=r' :=by rw [List.getElem?_set_self (List.getElem?_eq_some_iff.1 hr).1] at hi;exact Option.some.inj hi
   exact ⟨_,hv,ho⟩
  ·rw [List.getElem?_set_ne (fun e=>hik e.symm)] at hi
   obtain ⟨v',g1,g2⟩ :=h3 i r' hi
   exact ⟨v',g1,g2.keep (fun u _ hl hc=>e u (by omega) hl) kb.1⟩
theorem G0.put_tail {α :Type} {K :Elem α} {ty :TypeId} {lo :Nat} {F :Nat→Prop} {w :World} {z :Value} {l :List α} (h :G0 K ty lo F w z l) {j :Nat} (hj :j<l.length) {x :α} {a :Value} {d :List Value} (hx :K.R F w x (a ::d)) (hold : ∀b cs,cs.length=d.length→K.R F w l[j] (b ::cs) →b=a) :
  ∃g cap,z= .slice (some ⟨g,0,none⟩) l.length cap∧lo≤g∧w.there g (j*K.size+1) d.length∧G0 K ty lo F (w.setCells g (j*K.size+1) d) z (l.set j x) :=by
 obtain ⟨cs,h1,h2,h3⟩ :=h
 have hcl :=K.len hx
 obtain ⟨g,cap,cur,hz,hg,hh,hn,hsz⟩ : ∃g cap cur,z= .slice (some ⟨g,0,none⟩) l.length cap∧lo≤g∧w.heap[g]? =some (.cells cur ty) ∧l.length≤cap∧cur.size=cap*K.size :=by
  rcases h1.2 with ⟨_,h0⟩ | ⟨g,cap,cur,he,hg,hh,hn,hm,hs,ht⟩
  ·omega
  ·exact ⟨g,cap,cur,he,hg,hh,hn,hs⟩
 subst hz
 have hnF : ¬F g :=h2 g rfl
 obtain ⟨c0,e0,e1⟩ :=L9 h3 (List.getElem?_eq_getElem hj)
 obtain ⟨pre,mid,post,rfl,g2,g3,g4⟩ :=O1 h3 hj hx
 have hle : (j+1) *K.size≤cap*K.size :=Nat.mul_le_mul_right _ (by omega)
 rw [Nat.add_mul,Nat.one_mul] at hle
 obtain ⟨m0,ms,rfl⟩ : ∃m0 ms,mid=m0 ::ms :=by
  cases mid with
  | nil=>simp at g3
  | cons a b=>exact ⟨a,b,rfl⟩
 have hm :c0=m0 ::ms :=by
  refine List.ext_getElem? fun i=> ?_
  by_cases hi :i<c0.length
  ·have h5 :=e1 i _ (List.getElem?_eq_getElem hi)
   rw [←g2,List.append_assoc,List.getElem?_append_right (by omega),Nat.add_sub_cancel_left,List.getElem?_append_left (by have :=K.len e0;omega)] at h5
   rw [h5];exact List.getElem?_eq_getElem hi
  ·have :=K.len e0
   rw [List.getElem?_eq_none (by omega),List.getElem?_eq_none (by omega)]
 obtain rfl :m0=a :=hold m0 ms (by simpa using g3) (hm▸e0)
 simp only [List.length_cons] at hcl g3
 obtain ⟨s1,s5⟩ :=Lr (g :=g) d (j*K.size+1) w
 refine ⟨g,cap,rfl,hg,fun i hi=> ⟨?_,by simp only [World.frozen?,hh];rfl⟩,⟨pre++ (m0 ::d) ++post, ?_,h2, ?_⟩⟩
 ·rw [Aa hh (j :=j*K.size+1+i) (Array.getElem?_eq_getElem (by omega))]
  rfl
 ·rw [List.length_set]
  have :=Lq d w (pre++ [m0]) ms post (by simpa using h1) (by omega)
  rw [List.length_append,g2] at this
  simpa using this
 ·exact g4.keep ⟨by rw [s1];exact Nat.le_refl _,fun k hf _=>s5 k (by rintro rfl;exact hnF hf)⟩
theorem BdSt.put_set (h :BdSt w W D lab cat v st) {j :Nat} (hj :j<st.sets.length) {y :E} {d :List Value} (hy :As.R (fun k=>D≤k∧lab k=6+1) W y d) :
  ∃g,v.so=some ⟨g,0,none⟩ ∧W.there g (j*9+1) d.length∧BdSt w (W.setCells g (j*9+1) d) D lab cat v {st with sets :=st.sets.set j (st.sets[j].1,y)} :=by
 obtain ⟨g,cap,he,_,ht,ho⟩ :=h.sets.1.put_tail (x := (st.sets[j].1,y)) (a := .string st.sets[j].1) hj (d :=d) ⟨d,rfl,hy.1,hy.2⟩ (fun b cs _ hb=>by obtain ⟨d',hd,_⟩ :=hb;exact (List.cons.inj hd).1)
 injection he with he1 he2
 have hl :lab g=6 :=h.sets.2 g (by rw [he1];rfl)
 obtain ⟨l0,l1,l2⟩ :=h.lows
 have kb := (Md.refl lab 6 W).sets (g :=g) (fun _=>hl) (j*9+1) d
 have e : ∀u,lab u≠6→u<W.heap.size→ (W.setCells g (j*9+1) d).heap[u]? =W.heap[u]? :=fun u hk hs=>kb.2 u hs hk
 have ob : (W.setCells g (j*9+1) d).heap.size=W.heap.size :=Bp _ _ _ _
 refine ⟨g,he1,ht,(e _ (by omega) (lt_of_block h.cat)).trans h.cat, ?_,(e _ (by omega) (lt_of_block h.room)).trans h.room, ?_,h.big,by rw [ob];exact h.dlt,h.low,(e _ (by rw [h.lz];decide) (lt_of_block h.tab)).trans h.tab,h.lz,h.own.keep ⟨kb.1,fun u hc hl=>e u (by rw [hc.2];decide) hl⟩,h.cols.keep (fun u _ hl hc=>e u (by omega) hl) kb.1,h.rows.keep (fun u _ hl hc=>e u (by omega) hl) kb.1,⟨by simp only [List.length_set];exact ho,fun k hk=>h.sets.2 k (by simpa only [List.length_set] using hk)⟩,h.frm.keep (fun u _ hl hc=>e u (by omega) hl) kb.1,h.out.keep (fun u _ hl hc=>e u (by omega) hl) kb.1,IsE.keep ⟨kb.1,fun u hc hl=>e u (by rw [hc.2];decide) hl⟩ _ _ h.wher,h.order.keep (fun u _ hl hc=>e u (by omega) hl) kb.1⟩
 ·have := (e _ (by omega) (lt_of_block h.stm)).trans h.stm
  simpa only [Lv.arr,List.length_set] using this
 ·exact Fy (Nat.le_of_not_lt fun hg=>by have :=h.low g (by have :=h.big;omega);omega) _ _ h.bel
theorem Yh {base n c :Nat} {t :TypeId} {ao :Option Addr} {cs :List Value} (h :W.ownsRow base t 1 (.slice ao n c) n cs) {k :Nat} {u :Value} (hk :cs[k]? =some u) : ∃b off,ao=some ⟨b,off,none⟩ ∧W.cell? ⟨b,off+k,none⟩ =some u :=by
 obtain ⟨h1,h2⟩ :=h
 rcases h2 with ⟨_,h0⟩ | ⟨g,cap,cur,he,hg,hh,hn,hm,hs,ht⟩
 ·rw [h0,Nat.zero_mul] at h1
  rw [List.eq_nil_of_length_eq_zero h1] at hk
  cases hk
 ·injection he with he1
  refine ⟨g,0,he1,Aa hh ?_⟩
  rw [←ht,List.getElem?_take] at hk
  split at hk
  ·rw [Nat.zero_add];simpa using hk
  ·cases hk
theorem Zz {base n c size :Nat} {t :TypeId} {ao :Option Addr} {cs :List Value} (h :W.ownsRow base t size (.slice ao n c) n cs) :n≤c :=by
 rcases h.2 with ⟨_,h0⟩ | ⟨g,cap,cur,he,hg,hh,hn,hm,hs,ht⟩
 ·omega
 ·injection he with _ _ he2
  omega
theorem BdSt.put_rowA (h :BdSt w W D lab cat v st) {k j :Nat} {r :List E} (hr :st.rows[k]? =some r) (hj :j<r.length) {b off n c :Nat} (hv :v.rv[k]? =some (.slice (some ⟨b,off,none⟩) n c)) {y :E} {d :List Value} (hy :As.R (fun u=>D≤u∧lab u=20+2*k+1) W y d) :
  W.there b (off+j*8) d.length∧BdSt w (W.setCells b (off+j*8) d) D lab cat v {st with rows :=st.rows.set k (r.set j y)} :=by
 obtain ⟨g,cap,he,h1,h2⟩ :=h.put_row hr hj hv hy
 injection he with he1
 obtain ⟨rfl,rfl⟩ :b=g∧off=0 :=by injection he1 with h;injection h with h1 h2;exact ⟨h1,h2⟩
 rw [Nat.zero_add]
 exact ⟨h1,h2⟩
theorem BdSt.put_setA (h :BdSt w W D lab cat v st) {j :Nat} (hj :j<st.sets.length) {b off :Nat} (hv :v.so=some ⟨b,off,none⟩) {y :E} {d :List Value} (hy :As.R (fun k=>D≤k∧lab k=6+1) W y d) :
  W.there b (off+j*9+1) d.length∧BdSt w (W.setCells b (off+j*9+1) d) D lab cat v {st with sets :=st.sets.set j (st.sets[j].1,y)} :=by
 obtain ⟨g,he,h1,h2⟩ :=h.put_set hj hy
 rw [hv] at he
 obtain ⟨rfl,rfl⟩ :b=g∧off=0 :=by injection he with h;injection h with h1 h2;exact ⟨h1,h2⟩
 rw [Nat.zero_add]
 exact ⟨h1,h2⟩
theorem BdSt.putA_out (h :BdSt w W D lab cat v st) {j :Nat} (hj :j<st.out.length) {b off :Nat} (hv :v.uo=some ⟨b,off,none⟩) {y :E} {d :List Value} (hy :As.R (fun k=>D≤k∧lab k=10+1) W y d) :
  W.there b (off+j*8) d.length∧BdSt w (W.setCells b (off+j*8) d) D lab cat v {st with out :=st.out.set j y} :=by
 obtain ⟨g,he,h1,h2⟩ :=h.put_out hj hy
 rw [hv] at he
 obtain ⟨rfl,rfl⟩ :b=g∧off=0 :=by injection he with h;injection h with h1 h2;exact ⟨h1,h2⟩
 rw [Nat.zero_add]
 exact ⟨h1,h2⟩
theorem BdSt.putA_order (h :BdSt w W D lab cat v st) {j :Nat} (hj :j<st.order.length) {b off :Nat} (hv :v.qo=some ⟨b,off,none⟩) {y :E} {d :List Value} (hy :As.R (fun k=>D≤k∧lab k=14+1) W y d) :
  W.there b (off+j*8) d.length∧BdSt w (W.setCells b (off+j*8) d) D lab cat v {st with order :=st.order.set j y} :=by
 obtain ⟨g,he,h1,h2⟩ :=h.put_order hj hy
 rw [hv] at he
 obtain ⟨rfl,rfl⟩ :b=g∧off=0 :=by injection he with h;injection h with h1 h2;exact ⟨h1,h2⟩
 rw [Nat.zero_add]
 exact ⟨h1,h2⟩
theorem Jc {F :Nat→Prop} (x :E) (c :List Value) (h :As.R F W x c) : ∀u∈c,u.oneCell'=true :=by
 obtain ⟨op,xk,xn,xs,s,nm,n,ao,k,cap,rfl⟩ :=Cm h
 intro u hu
 simp only [List.mem_cons,List.not_mem_nil,or_false] at hu
 rcases hu with rfl | rfl | rfl | rfl | rfl | rfl | rfl | rfl<;>rfl
theorem Kj {F :Nat→Prop} {ao :Option Addr} {n c :Nat} {l :List E} (h :IsL As F W (.slice ao n c) l) {k :Nat} {x :E} (hx :l[k]? =some x) : ∃b off cs,ao=some ⟨b,off,none⟩ ∧RowIn W b (off+k*8) 8 cs∧IsE (fun k=>k<W.heap.size) W x (.agg cs.toArray) :=by
 obtain ⟨b,off,cs,h1,_,_,h4,h5⟩ :=Av h hx
 exact ⟨b,off,cs,h1,⟨h5,h4.1,all_oneCell_toArray (Jc x cs h4)⟩,Hm h4.2⟩
theorem Tw {F :Nat→Prop} {ao :Option Addr} {n c :Nat} {l :List (Wd×E)} (h :IsL C5 F W (.slice ao n c) l) {k :Nat} {x :Wd×E} (hx :l[k]? =some x) : ∃b off d,ao=some ⟨b,off,none⟩ ∧RowIn W b (off+k*9) 9 (.string x.1 ::d) ∧IsE (fun k=>k<W.heap.size) W x.2 (.agg d.toArray) ∧d.length=8 :=by
 obtain ⟨b,off,cs,h1,_,_,h4,h5⟩ :=Av h hx
 have h6 :=O6 h4
 obtain ⟨d,rfl,h7,h8⟩ :=h4
 refine ⟨b,off,d,h1,⟨h5,by simp [h7],all_oneCell_toArray ?_⟩,Hm h8,h7⟩
 obtain ⟨cn,op,xk,xn,xs,s,name,n,ao,k,cap,he⟩ :=h6
 rw [he]
 intro u hu
 simp only [List.mem_cons,List.not_mem_nil,or_false] at hu
 rcases hu with rfl | rfl | rfl | rfl | rfl | rfl | rfl | rfl | rfl<;>rfl
end
end Go.Proofs.YtmgkcjiejmhgcaaGreatDoor

namespace Go.Proofs.YtmgkcjiejmhgcaaGreatDoor
open Go.RowKit Go.Maps
structure CpOk (V W :World) (lab :Nat→Nat) (v :Lv) (st :Stm) :Prop where
 low : ∀k,k<V.heap.size→lab k=0
 bel :Below V.heap.size V W
 cols :Ck Bg 66 lab 2 V.heap.size W (.slice v.co st.cols.length v.cc) st.cols
 rows :Kh lab V.heap.size W (.slice v.ro st.rows.length v.rc) st.rows v.rv
 sets :Ck C5 56 lab 6 V.heap.size W (.slice v.so st.sets.length v.sc) st.sets
 frm :Ck Fz 9 lab 8 V.heap.size W (.slice v.fo st.frm.length v.fc) st.frm
 out :Ck As 34 lab 10 V.heap.size W (.slice v.uo st.out.length v.uc) st.out
 wher :IsE (fun k=>V.heap.size≤k∧lab k=12) W st.wher (.agg v.wher)
 order :Ck As 34 lab 14 V.heap.size W (.slice v.qo st.order.length v.qc) st.order
theorem Tx (st :Stm) (arr :Array Value) (F :Nat→Prop) (w :World) (hR :Abs.R F w st arr.toList) (hf :FitP st) :Calls Tryz.prog 5 #[.agg arr] w fun r w'=> ∃v :Lv,r= .returned (.agg (v.arr st)) ∧ ∃lab,CpOk w w' lab v st :=by
 have h :=Sz st arr.toList F w hR hf
 rw [Array.toArray_toList] at h
 refine h.mono ?_
 rintro r w' ⟨lab,cols,rows,sets,frm,out,op,xk,xn,xs,s,nm,n8,wl,order,rfl,ho,hl,hb⟩
 obtain ⟨o1,c1,rfl⟩ :=ho.cols.shape
 obtain ⟨rv,hrv⟩ :=ho.rows
 obtain ⟨o2,c2,rfl⟩ := (Kh.isL hrv).shape
 obtain ⟨o3,c3,rfl⟩ :=ho.sets.shape
 obtain ⟨o4,c4,rfl⟩ :=ho.frm.shape
 obtain ⟨o5,c5,rfl⟩ :=ho.out.shape
 obtain ⟨o7,c7,rfl⟩ :=ho.order.shape
 obtain ⟨yo,⟨yk,yi,ys2⟩,ys,ym,yn,ya,yl,yc,he⟩ :=ho.wher.shape
 have h16 :wl= .slice ya yl yc :=by
  have :=congrArg Array.toList (Value.agg.inj he)
  simp only [List.cons.injEq] at this
  exact this.2.2.2.2.2.2.2.1
 subst h16
 exact ⟨⟨o1,o2,o3,o4,o5,ya,o7,c1,c2,c3,c4,c5,yl,yc,c7,op,xk,xn,xs,s,nm,n8,0,noW,none,0,0,[],none,0,rv⟩,rfl,lab,⟨hl,hb,ho.cols,hrv,ho.sets,ho.frm,ho.out,ho.wher,ho.order⟩⟩
theorem Aba {w V W1 W4 :World} {lab :Nat→Nat} {cat old :Array Value} {v :Lv} {st :Stm} (hcat :V.heap[w.heap.size]? =some (.cells cat 25)) (hstm :V.heap[w.heap.size+1]? =some (.cells old 36)) (hroom :V.heap[w.heap.size+2]? =some (.cells Ah 36)) (hbel :Below w.heap.size w V) (hbig :w.heap.size+3≤V.heap.size)
  (h :CpOk V W1 lab v st) (hb :Below W1.heap.size (W1.setRow (w.heap.size+1) (v.arr st)) W4) {b :Nat} {tn :Wd} {ta :Option Addr} {tl tk :Nat} (hbb :W1.heap.size≤b) (htab :W4.heap[b]? =some (.cells #[.string tn, .slice ta tl tk] 47)) {S :List TabD} {ko :Option Addr} {kc :Nat} (hown :IsL B8 (Fr W1.heap.size) W4 (.slice ko (Ax S).length kc) (Ax S)) :
  BdSt w W4 V.heap.size (C3 lab W1.heap.size 0) cat {v with b :=b,tn :=tn,ta :=ta,tl :=tl,tk :=tk,S :=S,ko :=ko,kc :=kc} st :=by
 have hs1 :=h.bel.size
 have hs4 :W1.heap.size≤W4.heap.size :=Nat.le_trans (by simp [World.setRow]) hb.size
 have he :=Do lab W1.heap.size 0
 have e : ∀k,k<W1.heap.size→k≠w.heap.size+1→W4.heap[k]? =W1.heap[k]? :=fun k hk hne=> (hb.block k hk).trans (by simp only [World.setRow,Array.getElem?_modify];rw [if_neg (fun e=>hne e.symm)])
 have eD : ∀k,V.heap.size≤k→k<W1.heap.size→W4.heap[k]? =W1.heap[k]? :=fun k h1 h2=>e k h2 (by omega)
 have hst1 := (h.bel.block (w.heap.size+1) (by omega)).trans hstm
 refine ⟨(e _ (by omega) (by omega)).trans ((h.bel.block _ (by omega)).trans hcat),(hb.block _ (by omega)).trans (An hst1),(e _ (by omega) (by omega)).trans ((h.bel.block _ (by omega)).trans hroom), ?_,hbig,Nat.le_trans hs1 hs4,fun k hk=> (he k (by omega)).trans (h.low k hk),htab,(show C3 lab W1.heap.size 0 b=0 by rw [C3,if_neg (by omega)]),hown.mono fun k _ (hk :_≤k) => ⟨by omega,by rw [C3,if_neg (by omega)]⟩,
  (h.cols.ext he).keep (fun k hd hl _=>eD k hd hl) hs4,(h.rows.ext he).keep (fun k hd hl _=>eD k hd hl) hs4,(h.sets.ext he).keep (fun k hd hl _=>eD k hd hl) hs4,(h.frm.ext he).keep (fun k hd hl _=>eD k hd hl) hs4,(h.out.ext he).keep (fun k hd hl _=>eD k hd hl) hs4,IsE.keep ⟨hs4,fun k hc hl=>eD k hc.1 hl⟩ _ _ (IsE.mono (fun k hk hf=> ⟨hf.1,(he k hk).trans hf.2⟩) _ _ h.wher),(h.order.ext he).keep (fun k hd hl _=>eD k hd hl) hs4⟩
 exact (Below.row (hbel.trans (h.bel.mono hbel.size)) (by omega) _).trans (hb.mono (Nat.le_trans hbel.size hs1))
end Go.Proofs.YtmgkcjiejmhgcaaGreatDoor

namespace Go.Proofs.YtmgkcjiejmhgcaaGreatDoor
open Go.RowKit Go.Maps
theorem Bl.keepC {α :Type} {K :Elem α} {ty :TypeId} {C base :Nat} {z :Value} {A :List α} {w w' :World} (h :Bl K ty C base z A w) (hk : ∀k,(k<C∨base≤k) →k<w.heap.size→w'.heap[k]? =w.heap[k]?) (hs :w.heap.size≤w'.heap.size) :Bl K ty C base z A w' :=by
 obtain ⟨cs,h1,h2⟩ :=h
 refine ⟨cs, ?_,h2.keep ⟨hs,fun k hf hl=>hk k (hf.imp id (fun h=>h.1)) hl⟩⟩
 obtain ⟨g1,g2⟩ :=h1
 refine ⟨g1, ?_⟩
 rcases g2 with g2 | ⟨g,cap,cur,hv,hg,hh,r⟩
 ·exact .inl g2
 ·exact .inr ⟨g,cap,cur,hv,hg,by rw [hk g (.inr hg) (lt_of_block hh)];exact hh,r⟩
section
variable {α :Type} (nm :α→Wd) (ins :Bool) (x :α) (keep :α→Bool)
def E4 (r :List α×Bool) (t :α) :List α×Bool := (r.1++ (if ins&& !r.2&& !klt (nm t) (nm x) then [x] else []) ++ (if keep t then [t] else []),r.2 || (ins&& !klt (nm t) (nm x)))
def F3 (l :List α) :List α×Bool :=l.foldl (E4 nm ins x keep) ([],false)
def G4 (l :List α) :List α := (F3 nm ins x keep l).1++if ins&& !(F3 nm ins x keep l).2 then [x] else []
theorem Pv {l :List α} {k :Nat} {t :α} (h :l[k]? =some t) :F3 nm ins x keep (l.take (k+1)) =E4 nm ins x keep (F3 nm ins x keep (l.take k)) t :=by
 rw [List.take_add_one,h];simp [F3]
theorem Nh : ∀ (l :List α) (r :List α×Bool),(l.foldl (E4 nm ins x keep) r).1.length≤r.1.length+2*l.length
 | [],r=>Nat.le_refl _
 | t ::l,r=>by
  rw [List.foldl_cons]
  refine Nat.le_trans (Nh l _) ?_
  simp only [E4,List.length_append,List.length_cons]
  split<;>split<;>simp<;>omega
theorem Ru (r :List α) (b :Bool) : ∀ (l :List α),l.foldl (E4 nm false x keep) (r,b) = (r++l.filter keep,b)
 | [] =>by simp
 | t ::l=>by
  rw [List.foldl_cons,E4]
  simp only [Bool.false_and,Bool.or_false,Bool.false_eq_true,if_false,List.append_nil]
  rw [Ru _ b l,List.filter_cons]
  split<;>simp
theorem I0 (l :List α) :G4 nm false x keep l=l.filter keep :=by simp [G4,F3,Ru]
theorem Pw (r :List α) : ∀ (l :List α),l.foldl (E4 nm true x fun _=>true) (r,true) = (r++l,true)
 | [] =>by simp
 | t ::l=>by
  rw [List.foldl_cons,E4]
  simp [Pw _ l]
theorem Rv (l :List α) (hr :Dj (l.map nm)) :G4 nm true x (fun _=>true) l=Fh nm l x :=by
 have key : ∀ (l :List α) (r :List α),Dj (l.map nm) → (l.foldl (E4 nm true x fun _=>true) (r,false)).1++ (if !(l.foldl (E4 nm true x fun _=>true) (r,false)).2 then [x] else []) =r++Fh nm l x :=by
  intro l
  induction l with
  | nil=>intro r _;simp [Fh]
  | cons t l ih=>
   intro r hr
   rw [List.foldl_cons,E4]
   cases hk :klt (nm t) (nm x) with
   | true=>
    simp only [Bool.not_true,Bool.and_false,Bool.or_false,Bool.false_eq_true,if_false,if_true,List.append_nil]
    rw [ih (r++ [t]) (List.Pairwise.of_cons hr)]
    simp [Fh,List.filter_cons,hk]
   | false=>
    simp only [Bool.not_false,Bool.and_true,Bool.false_or,Bool.true_and,if_true]
    rw [Pw]
    have hall : ∀y∈l,klt (nm y) (nm x) =false :=fun y hy=>by
     cases hy2 :klt (nm y) (nm x) with
     | false=>rfl
     | true=>
      have h1 :klt (nm t) (nm y) =true := (List.pairwise_cons.1 hr).1 (nm y) (List.mem_map.2 ⟨y,hy,rfl⟩)
      have :=H7 h1 hy2
      rw [hk] at this
      cases this
    have f1 :l.filter (fun y=>klt (nm y) (nm x)) = [] :=by rw [List.filter_eq_nil_iff];intro y hy;simp [hall y hy]
    have f2 :l.filter (fun y=> !klt (nm y) (nm x)) =l :=by rw [List.filter_eq_self];intro y hy;simp [hall y hy]
    simp [Fh,List.filter_cons,hk,f1,f2]
 have :=key l [] hr
 simpa [G4,F3] using this
end
theorem Kk {α :Type} (l :List α) :l.filter (fun _=>true) =l :=List.filter_eq_self.2 fun _ _=>rfl
theorem Yi (T :List TabD) (I :List IdxD) (st :Stm) (hT :Dj (T.map TabD.name)) (hI :Dj (I.map IdxD.name)) :Jg ⟨T,I⟩ st= ⟨G4 TabD.name (decide (st.kind=1)) ⟨st.name,st.cols⟩ (fun y :TabD=> !(decide (st.kind=3) &&decide (y.name=st.name))) T,G4 IdxD.name (decide (st.kind=2)) ⟨st.name,st.table,st.col⟩ (fun y :IdxD=> !(decide (st.kind=3) &&decide (y.table=st.name))) I⟩ :=by
 unfold Jg
 by_cases h1 :st.kind=1
 ·have e1 :G4 TabD.name true ⟨st.name,st.cols⟩ (fun _ :TabD=>true) T=_ :=Rv TabD.name ⟨st.name,st.cols⟩ T hT
  simp only [h1,if_true,show ((1 :Int) =2) =False from by simp,show ((1 :Int) =3) =False from by simp,decide_false,decide_true,Bool.false_and,Bool.not_false]
  rw [e1,I0,Kk]
 ·by_cases h2 :st.kind=2
  ·have e1 :G4 IdxD.name true ⟨st.name,st.table,st.col⟩ (fun _ :IdxD=>true) I=_ :=Rv IdxD.name ⟨st.name,st.table,st.col⟩ I hI
   simp only [h2,if_true,if_false,show ((2 :Int) =1) =False from by simp,show ((2 :Int) =3) =False from by simp,decide_false,decide_true,Bool.false_and,Bool.not_false]
   rw [e1,I0,Kk]
  ·by_cases h3 :st.kind=3
   ·simp only [h3,if_true,if_false,show ((3 :Int) =1) =False from by simp,show ((3 :Int) =2) =False from by simp,decide_false,decide_true,Bool.true_and]
    rw [I0,I0]
   ·simp only [h1,h2,h3,if_false,decide_false,Bool.false_and,Bool.not_false]
    rw [I0,I0,Kk,Kk]
end Go.Proofs.YtmgkcjiejmhgcaaGreatDoor

