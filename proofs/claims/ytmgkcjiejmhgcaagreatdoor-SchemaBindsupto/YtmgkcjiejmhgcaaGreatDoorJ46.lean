/-
  5 texts of this proof in one, in build order: BSelM, BSelW, BSelT, BSelL, BSelS.
-/
import Derived.Test.YtmgkcjiejmhgcaaGreatDoorJ25
import Derived.Test.YtmgkcjiejmhgcaaGreatDoorJ29
import Derived.Test.YtmgkcjiejmhgcaaGreatDoorJ36
set_option linter.unusedSimpArgs false
set_option linter.unusedVariables false
namespace Go.Proofs.YtmgkcjiejmhgcaaGreatDoor
open Go.RowKit Go.Maps
def Bm (S :List TabD) (e :E) :Except Int E :=match A3 S e with
 | .error m=> .error m
 | .ok r=> .ok r.1
theorem R3 (S :List TabD) (l :List E) :Ej S l=Ba (Bm S) l :=by
 rw [Ej]
 induction l with
 | nil=>rw [Bb];rfl
 | cons e l ih=>
  rw [Bb,Ba,Bm]
  cases A3 S e with
  | error m=>rfl
  | ok r=>
   simp only
   cases h :Bb S l with
   | error m=>rw [h] at ih;rw [←ih]
   | ok rs=>rw [h] at ih;rw [←ih];rfl
theorem Py {S :List TabD} {e :E} {m :Int} (h :Bm S e= .error m) :m=3∨m=5 :=by
 rw [Bm] at h
 cases hb :A3 S e with
 | error k=>rw [hb] at h;obtain rfl :=Except.error.inj h;exact Ew S e _ hb
 | ok r=>rw [hb] at h;cases h
theorem R4 {α β γ :Type} {f :γ→Except Int β} (h :α→γ) (g :α→Nat→β) : ∀ (l :List α) (k :Nat),(∀i x,l[i]? =some x→f (h x) = .ok (g x (k+i))) →Ba f (l.map h) = .ok ((l.zipIdx k).map fun p=>g p.1 p.2)
 | [],_,_=>rfl
 | x ::l,k,hf=>by
  rw [List.map_cons,Ba,hf 0 x rfl,R4 h g l (k+1) fun i y hi=>by rw [hf (i+1) y (by simpa using hi)];congr 2;omega]
  rfl
def C6 (S :List TabD) :List E := (Bv S).map fun p=> .mk 2 zero p.1 p.2 0 []
theorem Te {S :List TabD} (ha : ∀t∈S,Is t.cols) (hn : ∀t∈S,t.name.size≠0) (hd : (Bv S).Nodup) :Ba (Bm S) (C6 S) = .ok (J9 S) :=by
 have hp :Bv S= (Ax S).map fun q=> (q.1,q.2.name) :=by
  simp only [Bv,Ax,List.map_flatMap,List.map_map]
  rfl
 refine R4 (fun p :Wd×Wd=>E.mk 2 zero p.1 p.2 0 []) (fun p i=>E.mk 2 zero p.1 p.2 (i :Int) []) (Bv S) 0 fun i x hx=> ?_
 rw [Nat.zero_add]
 obtain ⟨q,hq,he⟩ : ∃q,(Ax S)[i]? =some q∧x= (q.1,q.2.name) :=by
  rw [hp,List.getElem?_map] at hx
  cases h : (Ax S)[i]? with
  | none=>rw [h] at hx;cases hx
  | some q=>rw [h] at hx;exact ⟨q,rfl,(Option.some.inj hx).symm⟩
 subst he
 have hi := (List.getElem?_eq_some_iff.1 hq).1
 have hx0 :q.1.size≠0 :=by
  have hm :=List.mem_of_getElem? hq
  simp only [Ax,List.mem_flatMap,List.mem_map] at hm
  obtain ⟨t,ht,c,_,rfl⟩ :=hm
  exact hn t ht
 have hno : ∀j p,(Ax S)[j]? =some p→j≠i→Fm q.1 q.2.name p=false :=fun j p hj hne=>by
  rw [Fm,Bool.and_eq_false_iff]
  by_cases h1 :p.2.name=q.2.name
  ·right
   simp only [hx0,decide_false,Bool.false_or,decide_eq_false_iff_not]
   intro h2
   refine hne ((List.getElem?_inj (by rw [hp,List.length_map];exact (List.getElem?_eq_some_iff.1 hj).1) hd).1 ?_)
   rw [hp,List.getElem?_map,List.getElem?_map,hj,hq]
   simp [h1,h2]
  ·exact .inl (by simpa using h1)
 have hhit :Fm q.1 q.2.name q=true :=by simp [Fm]
 have hsp :Ax S= (Ax S).take i++q :: (Ax S).drop (i+1) :=by
  rw [← (List.getElem?_eq_some_iff.1 hq).2,←List.drop_eq_getElem_cons hi,List.take_append_drop]
 have hall :C9 q.1 q.2.name (Ax S) = ((Ax S).length,i,1) :=by
  rw [C9]
  conv=>lhs;rw [hsp]
  rw [List.foldl_append,List.foldl_cons,Gq ((Ax S).take i) _ fun p hp=> ?_,Gq _ _ fun p hp=> ?_]
  ·simp only [Dk,hhit,List.length_take,List.length_drop,Nat.min_eq_left (Nat.le_of_lt hi)]
   simp;omega
  ·obtain ⟨j,hj⟩ :=List.mem_iff_getElem?.1 hp
   rw [List.getElem?_drop] at hj
   exact hno _ p hj (by omega)
  ·obtain ⟨j,hj⟩ :=List.mem_iff_getElem?.1 hp
   have hji :j<i :=by have := (List.getElem?_eq_some_iff.1 hj).1;rw [List.length_take] at this;omega
   rw [List.getElem?_take_of_lt hji] at hj
   exact hno _ p hj (by omega)
 obtain ⟨_,h2,h3⟩ :=Nf q.1 q.2.name 0 S ha
 rw [hall] at h2 h3
 have h4 := (h3 (by simp only at h2;omega)).1
 simp only at h2 h4
 rw [Bm,A3,if_neg (by decide),if_pos rfl,if_pos h2.symm,←h4]
theorem Tf {S :List TabD} (ha : ∀t∈S,Is t.cols) (hl :S.length≤2) (hd : (S.map TabD.name).Nodup) : (Bv S).Nodup :=by
 have h1 : ∀t∈S,(t.cols.map fun c=> (t.name,c.name)).Nodup :=fun t ht=>by
  refine List.pairwise_iff_getElem.2 fun i j hi hj hij=> ?_
  rw [List.length_map] at hi hj
  rw [List.getElem_map,List.getElem_map]
  intro e
  have :=ha t ht i j _ _ (List.getElem?_eq_getElem hi) (List.getElem?_eq_getElem hj) (by simpa using e)
  omega
 match S,hl,h1,hd with
 | [],_,_,_=>exact List.nodup_nil
 | [t],_,h1,_=>simpa [Bv] using h1 t (by simp)
 | [t,u],_,h1,hd=>
  simp only [List.map_cons,List.map_nil,List.nodup_cons,List.mem_singleton,List.not_mem_nil,not_false_eq_true,List.nodup_nil,and_true] at hd
  rw [Bv,List.flatMap_cons,List.flatMap_cons,List.flatMap_nil,List.append_nil]
  refine List.nodup_append.2 ⟨h1 t (by simp),h1 u (by simp),fun a ha' b hb=> ?_⟩
  obtain ⟨c,_,rfl⟩ :=List.mem_map.1 ha'
  obtain ⟨c',_,rfl⟩ :=List.mem_map.1 hb
  intro e
  exact hd (Prod.mk.inj e).1
theorem Oe {T :List TabD} : ∀ {l seen :List Wd} {S :List TabD},Br (Cd T) seen l= .ok S→S.map TabD.name=l∧ (∀s∈l,s∉seen) ∧l.Nodup∧ ∀t∈S,t∈T
 | [],seen,S,h=>by simp [Br] at h;subst h;simp
 | x ::l,seen,S,h=>by
  rw [Br] at h
  cases hx :Cd T seen x with
  | error m=>rw [hx] at h;cases h
  | ok t=>
   rw [hx] at h
   simp only at h
   cases hl :Br (Cd T) (seen++ [x]) l with
   | error m=>rw [hl] at h;cases h
   | ok S'=>
    rw [hl] at h
    obtain rfl :=Except.ok.inj h
    obtain ⟨h1,h2,h3,h4⟩ :=Oe hl
    rw [Cd] at hx
    cases ht :A5 T x with
    | none=>rw [ht] at hx;cases hx
    | some t'=>
     rw [ht] at hx
     simp only at hx
     split at hx
     ·cases hx
     ·rename_i hm
      obtain rfl :=Except.ok.inj hx
      have htn :t'.name=x :=by simpa using List.find?_some ht
      refine ⟨by rw [List.map_cons,htn,h1],fun s hs=> ?_,List.nodup_cons.2 ⟨fun hm'=>h2 x hm' (by simp),h3⟩,fun u hu=> ?_⟩
      ·rcases List.mem_cons.1 hs with rfl | hs
       ·rw [My] at hm;exact hm
       ·exact fun e=>h2 s hs (List.mem_append_left _ e)
      ·rcases List.mem_cons.1 hu with rfl | hu
       ·exact List.mem_of_find?_eq_some ht
       ·exact h4 u hu
end Go.Proofs.YtmgkcjiejmhgcaaGreatDoor

namespace Go.Proofs.YtmgkcjiejmhgcaaGreatDoor
open Go.RowKit Go.Maps
theorem Tz {S :List TabD} (hS :GoodS S) {e :E} {v cv :Value} {C :Nat} {w :World} (he :IsE (fun k=>k<C) w e v) (hl :IsL B8 (fun k=>k<C) w cv (Ax S)) (hC :C≤w.heap.size) (hg :geB 40 e=true) :
  Calls Tryz.prog 28 #[cv,v] w fun r w'=> ∃arr kd f,r= .returned (.tuple #[.agg arr, .int .i64 kd, .int .i64 f]) ∧EvF w w' (Bm S e) arr f :=
 (Lx S hS 40 e v cv C w he hl hC hg).mono (by
  rintro r w' ⟨⟨u,rfl,hu⟩,hb⟩
  cases hr :A3 S e with
  | error m=>
   exact ⟨_,_,_,by rw [(A9 hr).1 hu],rfl,A8 _ _ _ _ _ _ _ _,hb,by rw [Bm,hr]⟩
  | ok r2=>
   obtain ⟨op,x,s,nm,n,ao,k,c,rfl,hE⟩ := (Bi hr).1 hu
   exact ⟨_,_,_,rfl,rfl,A8 _ _ _ _ _ _ _ _,hb,by rw [Bm,hr];exact ⟨rfl,hE⟩⟩)
section
variable {w W W' :World} {D :Nat} {lab :Nat→Nat} {cat :Array Value} {v :Lv} {st :Stm}
theorem BdSt.keep17 (h :BdSt w W D lab cat v st) (kb :Md lab 17 W W') (hb :Below w.heap.size w W') :BdSt w W' D lab cat v st :=by
 obtain ⟨l0,l1,l2⟩ :=h.lows
 have e : ∀u,lab u≠17→u<W.heap.size→W'.heap[u]? =W.heap[u]? :=fun u hk hs=>kb.2 u hs hk
 exact ⟨(e _ (by omega) (lt_of_block h.cat)).trans h.cat,(e _ (by omega) (lt_of_block h.stm)).trans h.stm,(e _ (by omega) (lt_of_block h.room)).trans h.room,hb,h.big,Nat.le_trans h.dlt kb.1,h.low,(e _ (by rw [h.lz];decide) (lt_of_block h.tab)).trans h.tab,h.lz,h.own.keep ⟨kb.1,fun u hc hl=>e u (by rw [hc.2];decide) hl⟩,h.cols.keep (fun u _ hl hc=>e u (by omega) hl) kb.1,h.rows.keep (fun u _ hl hc=>e u (by omega) hl) kb.1,h.sets.keep (fun u _ hl hc=>e u (by omega) hl) kb.1,h.frm.keep (fun u _ hl hc=>e u (by omega) hl) kb.1,h.out.keep (fun u _ hl hc=>e u (by omega) hl) kb.1,IsE.keep ⟨kb.1,fun u hc hl=>e u (by rw [hc.2];decide) hl⟩ _ _ h.wher,h.order.keep (fun u _ hl hc=>e u (by omega) hl) kb.1⟩
theorem BdSt.cols2 (h :BdSt w W D lab cat v st) {S :List TabD} {ko :Option Addr} {kc :Nat} (ho :IsL B8 (fun k=>D≤k∧lab k=0) W (.slice ko (Ax S).length kc) (Ax S)) :BdSt w W D lab cat {v with S :=S,ko :=ko,kc :=kc} st := {h with own :=ho}
theorem BdSt.push_out (h :BdSt w W D lab cat v st) {cs d :List Value} {a :E} {zo :Option Addr} {zc :Nat} (ho :W.ownsRow D 34 8 (.slice v.uo st.out.length v.uc) st.out.length cs) (hall :All As (fun k=>D≤k∧lab k=10+1) W st.out cs) (ha :As.R (fun k=>D≤k∧lab k=10+1) W a d)
  (hn :W'.ownsRow D 34 8 (.slice zo (st.out.length+1) zc) (st.out.length+1) (cs++d)) (hg :W.grownBy W' (Value.slice v.uo st.out.length v.uc).ownBlock) (hat : (Value.slice zo (st.out.length+1) zc).ownBlock= (Value.slice v.uo st.out.length v.uc).ownBlock∨ (Value.slice zo (st.out.length+1) zc).ownBlock=some W.heap.size) :
  (W'.frozen? ⟨w.heap.size+1,8,none⟩ =false) ∧BdSt w (W'.setCell ⟨w.heap.size+1,8,none⟩ (.slice zo (st.out.length+1) zc)) D (C3 lab W.heap.size 10) cat {v with uo :=zo,uc :=zc} {st with out :=st.out++ [a]} :=by
 have hp :=Ck.push (c :=10) (K :=As) (lab :=lab) ho h.out.2 hall ha hn hg hat
 have he :=Do lab W.heap.size 10
 have h1 :=h.ext he
 obtain ⟨l0,l1,l2⟩ :=h.lows
 have e0 : ∀u,C3 lab W.heap.size 10 u≠10→u<W.heap.size→W'.heap[u]? =W.heap[u]? :=fun u hk hs=>hg.block u hs fun hb=>hk (by rw [he u hs];exact h.out.2 u hb.symm)
 have hlt :=h.dlt
 have hbig :=h.big
 have e : ∀u,C3 lab W.heap.size 10 u≠10→u≠w.heap.size+1→u<W.heap.size→ (W'.setCell ⟨w.heap.size+1,8,none⟩ (.slice zo (st.out.length+1) zc)).heap[u]? =W.heap[u]? :=fun u hk hne hs=> (Below.heap_setCell _ _ _ u (show u≠w.heap.size+1 from hne)).trans (e0 u hk hs)
 have hw : ∀u,u<D→C3 lab W.heap.size 10 u=0 :=h1.low
 have hs :W.heap.size≤ (W'.setCell ⟨w.heap.size+1,8,none⟩ (.slice zo (st.out.length+1) zc)).heap.size :=by simp [World.setCell];exact hg.size
 have hstm :W'.heap[w.heap.size+1]? =some (.cells (v.arr st) 36) := (e0 _ (by rw [hw _ (by omega)];decide) (lt_of_block h.stm)).trans h.stm
 have hb1 :v.b≠w.heap.size+1 :=fun e=>by
  have h1 :=h.tab
  rw [e,h.stm] at h1
  exact absurd (show (20 :Nat) =2 from congrArg Array.size (Obj.cells.inj (Option.some.inj h1)).1) (by decide)
 have hu : ∀u,D≤u→u≠w.heap.size+1 :=fun u hu=>by omega
 refine ⟨by simp only [World.frozen?,hstm];rfl,(e _ (by rw [hw _ (by omega)];decide) (by omega) (lt_of_block h.cat)).trans h.cat, ?_,(e _ (by rw [hw _ (by omega)];decide) (by omega) (lt_of_block h.room)).trans h.room, ?_,h.big,Nat.le_trans h.dlt hs,hw,(e _ (by rw [h1.lz];decide) hb1 (lt_of_block h.tab)).trans h.tab,h1.lz,h1.own.keep ⟨hs,fun u hc hl=>e u (by rw [hc.2];decide) (hu u hc.1) hl⟩,h1.cols.keep (fun u hd hl hc=>e u (by omega) (hu u hd) hl) hs,h1.rows.keep (fun u hd hl hc=>e u (by omega) (hu u hd) hl) hs,h1.sets.keep (fun u hd hl hc=>e u (by omega) (hu u hd) hl) hs,h1.frm.keep (fun u hd hl hc=>e u (by omega) (hu u hd) hl) hs, ?_,IsE.keep ⟨hs,fun u hc hl=>e u (by rw [hc.2];decide) (hu u hc.1) hl⟩ _ _ h1.wher,h1.order.keep (fun u hd hl hc=>e u (by omega) (hu u hd) hl) hs⟩
 ·have :=upd hstm 8 (.slice zo (st.out.length+1) zc)
  simp only [List.setIfInBounds_toArray,List.set_cons_zero,List.set_cons_succ] at this
  simpa only [Lv.arr,List.length_append,List.length_singleton] using this
 ·exact (h.bel.grown hg h.bel.size fun k hk=>Nat.le_trans (by omega) (ho.lt k hk).1).setCell (show w.heap.size≤w.heap.size+1 by omega) _
 ·simp only [List.length_append,List.length_singleton]
  exact hp.keep (fun u hd _ _=>Below.heap_setCell _ _ _ u (show u≠w.heap.size+1 from hu u hd)) (by simp [World.setCell])
end
end Go.Proofs.YtmgkcjiejmhgcaaGreatDoor

namespace Go.Proofs.YtmgkcjiejmhgcaaGreatDoor
open Go.RowKit Go.Maps
theorem Yp {t :TabD} (h :Cv t=true) :t.name.size≠0 :=by
 simp only [Cv,nm,Bool.and_eq_true,decide_eq_true_eq] at h
 omega
structure Tv where
 nm :Wd
 ao :Option Addr
 n :Nat
 c :Nat
abbrev Tv.arr (u :Tv) :Array Value := #[.string u.nm, .slice u.ao u.n u.c]
theorem R5 (u :Tv) : ∀z∈u.arr.toList,z.oneCell'=true :=by
 intro z hz
 simp only [List.mem_cons,List.not_mem_nil,or_false] at hz
 rcases hz with rfl | rfl<;>rfl
end Go.Proofs.YtmgkcjiejmhgcaaGreatDoor

namespace Go.Proofs.YtmgkcjiejmhgcaaGreatDoor
open Go.RowKit Go.Maps
def sub :List Nat→Code→Code
 | 0 ::p, .seq a _=>sub p a
 | _ ::p, .seq _ b=>sub p b
 | 0 ::p, .cond _ a _=>sub p a
 | _ ::p, .cond _ _ b=>sub p b
 | _ ::p, .block _ b=>sub p b
 | _ ::p, .loop b=>sub p b
 | _,c=>c
def Yq (f :Func) (p :List Nat) :Code :=sub ([0,1,0,1,1,1,1,1,1,1,0,1,1,1,1] ++p) (Db 12 (C4 f))
theorem Yr {S :List TabD} (h : ∀t∈S,Cv t=true) : ∀e∈C6 S,geB 40 e=true :=by
 intro e he
 rw [C6,List.mem_map] at he
 obtain ⟨p,hp,rfl⟩ :=he
 simp only [Bv,List.mem_flatMap,List.mem_map] at hp
 obtain ⟨t,ht,c,hc,rfl⟩ :=hp
 have hb :=h t ht
 simp only [Cv,Ii,Bool.and_eq_true,Bool.not_eq_true'] at hb
 obtain ⟨i,hi⟩ :=List.mem_iff_getElem?.1 hc
 have h2 :=Ir hb.2 i (Nat.zero_le _) (by simpa using (List.getElem?_eq_some_iff.1 hi).1)
 simp only [Em,hi,Bool.or_eq_false_iff,Bool.not_eq_false'] at h2
 have h3 :nm c.name=true :=by have :=h2.1;simp only [Gc,Bool.and_eq_true] at this;exact this.1
 have h4 :nm t.name=true :=hb.1.1.1.1
 show (decide _&&E9 2 zero t.name c.name&&_) =true
 simp [E9,h3,h4,Fd]
def If (S :List TabD) (l :List E) :List E :=if l.length=0 then C6 S else l
theorem Ys {S :List TabD} {l :List E} (h :Ba (Bm S) (C6 S) = .ok (J9 S)) :Ba (Bm S) (If S l) =Hc S l :=by
 rw [If,Hc]
 split
 ·exact h
 ·exact (R3 S l).symm
theorem R6 {S :List TabD} (hS :GoodS S) {e :E} {v cv :Value} {C :Nat} {w :World} (he :IsE (fun k=>k<C) w e v) (hl :IsL B8 (fun k=>k<C) w cv (Ax S)) (hC :C≤w.heap.size) (hg :geB 40 e=true) {m :Int} (hr :Bm S e= .error m) :
  Calls Tryz.prog 28 #[cv,v] w fun r w'=> ∃arr kd,r= .returned (.tuple #[.agg arr, .int .i64 kd, .int .i64 m]) ∧EvF w w' (.error m) arr m :=
 (Tz hS he hl hC hg).mono (by
  rintro r w' ⟨arr,kd,f,rfl,h⟩
  rw [hr] at h
  obtain rfl :f=m :=h.is
  exact ⟨arr,kd,rfl,h⟩)
theorem Pz {S :List TabD} (hS :GoodS S) {e y :E} {v cv :Value} {C :Nat} {w :World} (he :IsE (fun k=>k<C) w e v) (hl :IsL B8 (fun k=>k<C) w cv (Ax S)) (hC :C≤w.heap.size) (hg :geB 40 e=true) (hr :Bm S e= .ok y) :
  Calls Tryz.prog 28 #[cv,v] w fun r w'=> ∃arr kd,r= .returned (.tuple #[.agg arr, .int .i64 kd, .int .i64 0]) ∧EvOk w w' y arr :=
 (Tz hS he hl hC hg).mono (by
  rintro r w' ⟨arr,kd,f,rfl,h⟩
  rw [hr] at h
  obtain ⟨rfl,h2⟩ :=h.is
  exact ⟨arr,kd,rfl,h.size,h.one,h2,h.bel⟩)
set_option maxRecDepth 100000 in
set_option maxHeartbeats 8000000 in
theorem Xa (w V0 :World) (D :Nat) (lab :Nat→Nat) (cat :Array Value) (v :Lv) (st :Stm) (h :BdSt w V0 D lab cat v st) (GS :GoodS v.S) (hol :st.order.length≤16777216) (hge : ∀e∈st.order,geB 40 e=true) (Q :Exit→Act→World→Prop)
  (hE : ∀m,Ba (Bm v.S) st.order= .error m→ ∀a W',bodyPost Tryz.prog Tryz.f7 (Dc (.error m) w) .ret a W'→Q .ret a W')
  (hN : ∀ (ys :List E) (lab' :Nat→Nat) (V' :World) (q0 q1 q5 v7 v8 q9 q10 q11 q12 q13 q14 v15 v16 :Value) (l :List Value),l.length=494→Ba (Bm v.S) st.order= .ok ys→BdSt w V' D lab' cat v {st with order :=ys} →Q .normal ⟨frm w.heap.size q0 q1 q5 v7 v8 q9 q10 q11 q12 q13 q14 v15 v16 (.slice v.ko (Ax v.S).length v.kc) l,[]⟩ V')
  (q0 q1 q5 v7 v8 q9 q10 q11 q12 q13 q14 v15 v16 :Value) (l :List Value) (hll :l.length=494) :
  Code.wp Tryz.prog (Yq Tryz.f7 [1,1]) Q ⟨frm w.heap.size q0 q1 q5 v7 v8 q9 q10 q11 q12 q13 q14 v15 v16 (.slice v.ko (Ax v.S).length v.kc) l,[]⟩ V0 :=by
 obtain ⟨q,rfl⟩ :=lay hll
 clear hll
 have HN :Hid _ :=hN
 have HER :Hid _ :=hE
 have HGE :Hid (∀e∈st.order,geB 40 e=true) :=hge
 obtain ⟨qo,hqo⟩ : ∃z,z=v.qo := ⟨_,rfl⟩
 have HQO :Hid (qo=v.qo) :=hqo
 have e17 :V0.cell? ⟨w.heap.size+1,17,none⟩ =some (.slice qo st.order.length v.qc) :=by rw [hqo];exact Aa h.stm rfl
 clear hN hE hge hqo
 conv=>arg 2;whnf
 simp only [frm,List.range,List.range.loop,List.map]
 go_wp2_with fail
 clear e17
 go_loopw [466] (fun iv wr=> ∃ (k :Nat) (ys :List E) (lab' :Nat→Nat),k≤st.order.length∧iv= .int .i64 k∧Hid (Ba (Bm v.S) (st.order.take k) = .ok ys) ∧Hid (ys.length=k) ∧BdSt w wr D lab' cat v {st with order :=ys++st.order.drop k}) (fun iv _=>st.order.length - (intOf iv).toNat)
 case atStart=>exact ⟨0,[],lab,Nat.zero_le _,rfl,rfl,rfl,h⟩
 case round=>
  obtain ⟨k,ys,lab1,hk,rfl,HY,HYL,hS⟩ :=hrel
  obtain ⟨V,hV⟩ : ∃V,V=wr := ⟨_,rfl⟩
  subst hV
  clear h
  by_cases hlt :k<st.order.length
  ·obtain ⟨x,hx⟩ : ∃x,st.order[k]? =some x := ⟨_,List.getElem?_eq_getElem hlt⟩
   have HZ :Hid (Ba (Bm v.S) (st.order.take (k+1)) =match Bm v.S x with | .error m=> .error m | .ok b=> .ok (ys++ [b])) :=by
    show _=_
    rw [List.take_add_one,hx]
    show Ba _ (_++ [_]) =_
    rw [Ec,HY.out]
    cases Bm v.S x<;>rfl
   have hsx : (ys++st.order.drop k)[k]? =some x :=by rw [List.getElem?_append_right (Nat.le_of_eq HYL.out),HYL.out,Nat.sub_self,List.getElem?_drop,Nat.add_zero];exact hx
   have HLS :Hid ((ys++st.order.drop k).length=st.order.length) :=by show _=_;rw [List.length_append,HYL.out,List.length_drop];omega
   obtain ⟨b,off,cs,hbo,hp,hE⟩ :=Kj hS.order.isL hsx
   have hbo2 :qo=some ⟨b,off,none⟩ :=HQO.out.trans hbo
   subst hbo2
   have HBO :Hid _ :=hbo
   have hp1 :=hp.range;have hp2 : (Tryz.prog.info? 34).map (·.size) =some cs.length :=Ai.trans (congrArg some hp.len.symm);have hp3 :=hp.one;have hp4 : (Tryz.prog.info? 34).map (·.size) =some cs.toArray.size :=hp2
   have hp5 :=Ab V (.cells eZ 34);have hp6 :Hid (8=cs.toArray.size) :=hp.len.symm
   have hb3 :=Below.row (Aq V (.cells eZ 34)) (Nat.le_refl _) cs.toArray
   have hS3 :=hS.below hb3
   have hxb : ((V.alloc (.cells eZ 34)).setRow V.heap.size cs.toArray).heap[V.heap.size]? =some (.cells cs.toArray 34) :=An hp5
   have hE3 :=Hm (IsE.keep (Ag hb3) _ _ hE)
   have hO3 :=E1 hS3.own
   have hg0 :=HGE.out x (List.mem_of_getElem? hx)
   have j0 : (0 :Int) ≤ (k :Int) :=by omega
   have j1 : (k :Int) < (st.order.length :Int) :=by omega
   clear hx hsx hE hbo hp
   cases har :Bm v.S x with
   | error m=>
    have HX :Hid (Ba (Bm v.S) st.order= .error m) :=by
     show _=_
     rw [←List.take_append_drop (k+1) st.order]
     exact Ek _ _ _ _ (by rw [HZ.out,har])
    have HB :=R6 GS hE3 hO3 (Nat.le_refl _) hg0 har
    have m1 : (m !=0) =true :=by rcases Py har with rfl | rfl<;>rfl
    clear har HZ HY HYL HLS hE3 hO3 hg0
    go_wp2_with (first | (refine wpList_load_mid rfl 34 _ rfl b (off+k*8) ?_ cs _ hp1 Tryz.underlying34 rfl ?_ ?_;exact rfl;exact hp2) | (refine wpList_store_row rfl 34 _ _ rfl V.heap.size cs.toArray ?_ ?_ 34 eZ ?_ ?_ ?_ ?_ ?_;exact rfl;exact rfl;exact hp5;exact hp4;exact hp6.out;exact hp3) | (refine wpList_load_row rfl 34 _ rfl V.heap.size rfl 34 _ _ _ hxb Tryz.underlying34 rfl hp4 ?_) | (go_at_call 28;go_fit HB;rintro e W1 ⟨arr,kd,rfl,hA⟩;have hA1 :=Ab W1 (.cells eZ 34);have hA2 :=hA.one;have hA3 :=hA.info;have hA4 :Hid (8=arr.size) :=hA.size.symm;have hG :=Hl W1 arr;have h7 :=hS3.below (hA.bel.trans ((Gr W1 arr).mono hA.bel.size))) | (refine wpList_store_row rfl 34 _ _ rfl W1.heap.size arr ?_ ?_ 34 eZ ?_ ?_ ?_ ?_ ?_;exact rfl;exact rfl;exact hA1;exact hA3;exact hA4.out;exact hA2) | (go_at_call 24;go_fit (Cr m _);rintro e W9 ⟨rfl,hb9⟩;have h9 :=h7.below hb9;have bR9 :=h9.room;have bel9 :=h9.bel) | (refine wpList_store_row rfl 36 _ _ rfl (w.heap.size+2) Ah ?_ ?_ 36 Ah ?_ ?_ ?_ ?_ ?_;exact rfl;exact rfl;exact bR9;exact Am;exact rfl;exact Bn))
    exact HER.out m HX.out _ _ (B9 bel9 bR9 m rfl rfl rfl)
   | ok y=>
    have HB :=Pz GS hE3 hO3 (Nat.le_refl _) hg0 har
    have HN2 :Hid (Ba (Bm v.S) (st.order.take (k+1)) = .ok (ys++ [y])) :=by show _=_;rw [HZ.out,har]
    clear har HZ hE3 hO3 hg0
    go_wp2_with (first | (refine wpList_load_mid rfl 34 _ rfl b (off+k*8) ?_ cs _ hp1 Tryz.underlying34 rfl ?_ ?_;exact rfl;exact hp2) | (refine wpList_store_row rfl 34 _ _ rfl V.heap.size cs.toArray ?_ ?_ 34 eZ ?_ ?_ ?_ ?_ ?_;exact rfl;exact rfl;exact hp5;exact hp4;exact hp6.out;exact hp3) | (refine wpList_load_row rfl 34 _ rfl V.heap.size rfl 34 _ _ _ hxb Tryz.underlying34 rfl hp4 ?_) | (go_at_call 28;go_fit HB;rintro e W1 ⟨arr,kd,rfl,hA⟩;have hA1 :=Ab W1 (.cells eZ 34);have hA2 :=hA.one;have hA3 :=hA.info;have hA4 :Hid (8=arr.size) :=hA.size.symm;have hG :=Hl W1 arr;have hAt :=hA.at;have hmd :=hS3.made hAt (14+1);have hput :=hmd.putA_order (j :=k) (by rw [HLS.out];exact hlt) HBO.out (hAt.elem (lab :=lab1) hS3.dlt);simp only at hput;rw [Mg HYL.out hlt] at hput;have hth :=hput.1;have hS8 :=hput.2;have e18 : (evW W1 arr).cell? ⟨w.heap.size+1,17,none⟩ =some (.slice (some ⟨b,off,none⟩) st.order.length v.qc) := (by rw [←HBO.out,←HLS.out];exact Aa hmd.stm rfl);clear hput hmd hAt hS3 hS) | (refine wpList_store_row rfl 34 _ _ rfl W1.heap.size arr ?_ ?_ 34 eZ ?_ ?_ ?_ ?_ ?_;exact rfl;exact rfl;exact hA1;exact hA3;exact hA4.out;exact hA2) | (refine wpList_load_row rfl 34 _ rfl W1.heap.size rfl 34 _ _ _ hG Tryz.underlying34 rfl hA3 ?_) | (refine wpList_store_mid rfl 34 _ _ rfl b (off+k*8) arr ?_ ?_ ?_ ?_ ?_ ?_;exact rfl;exact rfl;exact hth;exact hA3;exact hA2))
    go_roundw
    case rel=>exact ⟨k+1,ys++ [y],_,by omega,by go_num,HN2,(by show _=_;rw [List.length_append,HYL.out];rfl),hS8⟩
    case measure=>simp [intOf];omega
  ·have hkn :k=st.order.length :=by omega
   subst hkn
   rw [List.drop_length,List.append_nil] at hS
   have j1 : ¬ ((st.order.length :Int) < (st.order.length :Int)) :=by omega
   have HYF :Hid (Ba (Bm v.S) st.order= .ok ys) :=by show _=_;rw [←List.take_length (l :=st.order)];exact HY.out
   go_wp2_with fail
   exact HN.out ys lab1 V _ _ _ _ _ _ _ _ _ _ _ _ _ _ (by kernel_rfl) HYF.out hS
set_option maxRecDepth 100000 in
set_option maxHeartbeats 8000000 in
theorem Z6 (w V0 :World) (D :Nat) (lab :Nat→Nat) (cat :Array Value) (v :Lv) (st :Stm) (h :BdSt w V0 D lab cat v st) (GS :GoodS v.S) (hol :st.out.length≤16777216) (hge : ∀e∈st.out,geB 40 e=true) (Q :Exit→Act→World→Prop)
  (hE : ∀m,Ba (Bm v.S) st.out= .error m→ ∀a W',bodyPost Tryz.prog Tryz.f7 (Dc (.error m) w) .ret a W'→Q .ret a W')
  (hN : ∀ (ys :List E) (lab' :Nat→Nat) (V' :World) (q0 q1 q5 v7 v8 q9 q10 q11 q12 q13 q14 v15 v16 :Value) (l :List Value),l.length=494→Ba (Bm v.S) st.out= .ok ys→BdSt w V' D lab' cat v {st with out :=ys} →Q .normal ⟨frm w.heap.size q0 q1 q5 v7 v8 q9 q10 q11 q12 q13 q14 v15 v16 (.slice v.ko (Ax v.S).length v.kc) l,[]⟩ V')
  (q0 q1 q5 v7 v8 q9 q10 q11 q12 q13 q14 v15 v16 :Value) (l :List Value) (hll :l.length=494) :
  Code.wp Tryz.prog (Yq Tryz.f7 [1,0]) Q ⟨frm w.heap.size q0 q1 q5 v7 v8 q9 q10 q11 q12 q13 q14 v15 v16 (.slice v.ko (Ax v.S).length v.kc) l,[]⟩ V0 :=by
 obtain ⟨q,rfl⟩ :=lay hll
 clear hll
 have HN :Hid _ :=hN
 have HER :Hid _ :=hE
 have HGE :Hid (∀e∈st.out,geB 40 e=true) :=hge
 obtain ⟨qo,hqo⟩ : ∃z,z=v.uo := ⟨_,rfl⟩
 have HQO :Hid (qo=v.uo) :=hqo
 have e17 :V0.cell? ⟨w.heap.size+1,8,none⟩ =some (.slice qo st.out.length v.uc) :=by rw [hqo];exact Aa h.stm rfl
 clear hN hE hge hqo
 conv=>arg 2;whnf
 simp only [frm,List.range,List.range.loop,List.map]
 go_wp2_with fail
 clear e17
 go_loopw [438] (fun iv wr=> ∃ (k :Nat) (ys :List E) (lab' :Nat→Nat),k≤st.out.length∧iv= .int .i64 k∧Hid (Ba (Bm v.S) (st.out.take k) = .ok ys) ∧Hid (ys.length=k) ∧BdSt w wr D lab' cat v {st with out :=ys++st.out.drop k}) (fun iv _=>st.out.length - (intOf iv).toNat)
 case atStart=>exact ⟨0,[],lab,Nat.zero_le _,rfl,rfl,rfl,h⟩
 case round=>
  obtain ⟨k,ys,lab1,hk,rfl,HY,HYL,hS⟩ :=hrel
  obtain ⟨V,hV⟩ : ∃V,V=wr := ⟨_,rfl⟩
  subst hV
  clear h
  by_cases hlt :k<st.out.length
  ·obtain ⟨x,hx⟩ : ∃x,st.out[k]? =some x := ⟨_,List.getElem?_eq_getElem hlt⟩
   have HZ :Hid (Ba (Bm v.S) (st.out.take (k+1)) =match Bm v.S x with | .error m=> .error m | .ok b=> .ok (ys++ [b])) :=by
    show _=_
    rw [List.take_add_one,hx]
    show Ba _ (_++ [_]) =_
    rw [Ec,HY.out]
    cases Bm v.S x<;>rfl
   have hsx : (ys++st.out.drop k)[k]? =some x :=by rw [List.getElem?_append_right (Nat.le_of_eq HYL.out),HYL.out,Nat.sub_self,List.getElem?_drop,Nat.add_zero];exact hx
   have HLS :Hid ((ys++st.out.drop k).length=st.out.length) :=by show _=_;rw [List.length_append,HYL.out,List.length_drop];omega
   obtain ⟨b,off,cs,hbo,hp,hE⟩ :=Kj hS.out.isL hsx
   have hbo2 :qo=some ⟨b,off,none⟩ :=HQO.out.trans hbo
   subst hbo2
   have HBO :Hid _ :=hbo
   have hp1 :=hp.range;have hp2 : (Tryz.prog.info? 34).map (·.size) =some cs.length :=Ai.trans (congrArg some hp.len.symm);have hp3 :=hp.one;have hp4 : (Tryz.prog.info? 34).map (·.size) =some cs.toArray.size :=hp2
   have hp5 :=Ab V (.cells eZ 34);have hp6 :Hid (8=cs.toArray.size) :=hp.len.symm
   have hb3 :=Below.row (Aq V (.cells eZ 34)) (Nat.le_refl _) cs.toArray
   have hS3 :=hS.below hb3
   have hxb : ((V.alloc (.cells eZ 34)).setRow V.heap.size cs.toArray).heap[V.heap.size]? =some (.cells cs.toArray 34) :=An hp5
   have hE3 :=Hm (IsE.keep (Ag hb3) _ _ hE)
   have hO3 :=E1 hS3.own
   have hg0 :=HGE.out x (List.mem_of_getElem? hx)
   have j0 : (0 :Int) ≤ (k :Int) :=by omega
   have j1 : (k :Int) < (st.out.length :Int) :=by omega
   clear hx hsx hE hbo hp
   cases har :Bm v.S x with
   | error m=>
    have HX :Hid (Ba (Bm v.S) st.out= .error m) :=by
     show _=_
     rw [←List.take_append_drop (k+1) st.out]
     exact Ek _ _ _ _ (by rw [HZ.out,har])
    have HB :=R6 GS hE3 hO3 (Nat.le_refl _) hg0 har
    have m1 : (m !=0) =true :=by rcases Py har with rfl | rfl<;>rfl
    clear har HZ HY HYL HLS hE3 hO3 hg0
    go_wp2_with (first | (refine wpList_load_mid rfl 34 _ rfl b (off+k*8) ?_ cs _ hp1 Tryz.underlying34 rfl ?_ ?_;exact rfl;exact hp2) | (refine wpList_store_row rfl 34 _ _ rfl V.heap.size cs.toArray ?_ ?_ 34 eZ ?_ ?_ ?_ ?_ ?_;exact rfl;exact rfl;exact hp5;exact hp4;exact hp6.out;exact hp3) | (refine wpList_load_row rfl 34 _ rfl V.heap.size rfl 34 _ _ _ hxb Tryz.underlying34 rfl hp4 ?_) | (go_at_call 28;go_fit HB;rintro e W1 ⟨arr,kd,rfl,hA⟩;have hA1 :=Ab W1 (.cells eZ 34);have hA2 :=hA.one;have hA3 :=hA.info;have hA4 :Hid (8=arr.size) :=hA.size.symm;have hG :=Hl W1 arr;have h7 :=hS3.below (hA.bel.trans ((Gr W1 arr).mono hA.bel.size))) | (refine wpList_store_row rfl 34 _ _ rfl W1.heap.size arr ?_ ?_ 34 eZ ?_ ?_ ?_ ?_ ?_;exact rfl;exact rfl;exact hA1;exact hA3;exact hA4.out;exact hA2) | (go_at_call 24;go_fit (Cr m _);rintro e W9 ⟨rfl,hb9⟩;have h9 :=h7.below hb9;have bR9 :=h9.room;have bel9 :=h9.bel) | (refine wpList_store_row rfl 36 _ _ rfl (w.heap.size+2) Ah ?_ ?_ 36 Ah ?_ ?_ ?_ ?_ ?_;exact rfl;exact rfl;exact bR9;exact Am;exact rfl;exact Bn))
    exact HER.out m HX.out _ _ (B9 bel9 bR9 m rfl rfl rfl)
   | ok y=>
    have HB :=Pz GS hE3 hO3 (Nat.le_refl _) hg0 har
    have HN2 :Hid (Ba (Bm v.S) (st.out.take (k+1)) = .ok (ys++ [y])) :=by show _=_;rw [HZ.out,har]
    clear har HZ hE3 hO3 hg0
    go_wp2_with (first | (refine wpList_load_mid rfl 34 _ rfl b (off+k*8) ?_ cs _ hp1 Tryz.underlying34 rfl ?_ ?_;exact rfl;exact hp2) | (refine wpList_store_row rfl 34 _ _ rfl V.heap.size cs.toArray ?_ ?_ 34 eZ ?_ ?_ ?_ ?_ ?_;exact rfl;exact rfl;exact hp5;exact hp4;exact hp6.out;exact hp3) | (refine wpList_load_row rfl 34 _ rfl V.heap.size rfl 34 _ _ _ hxb Tryz.underlying34 rfl hp4 ?_) | (go_at_call 28;go_fit HB;rintro e W1 ⟨arr,kd,rfl,hA⟩;have hA1 :=Ab W1 (.cells eZ 34);have hA2 :=hA.one;have hA3 :=hA.info;have hA4 :Hid (8=arr.size) :=hA.size.symm;have hG :=Hl W1 arr;have hAt :=hA.at;have hmd :=hS3.made hAt (10+1);have hput :=hmd.putA_out (j :=k) (by rw [HLS.out];exact hlt) HBO.out (hAt.elem (lab :=lab1) hS3.dlt);simp only at hput;rw [Mg HYL.out hlt] at hput;have hth :=hput.1;have hS8 :=hput.2;have e18 : (evW W1 arr).cell? ⟨w.heap.size+1,8,none⟩ =some (.slice (some ⟨b,off,none⟩) st.out.length v.uc) := (by rw [←HBO.out,←HLS.out];exact Aa hmd.stm rfl);clear hput hmd hAt hS3 hS) | (refine wpList_store_row rfl 34 _ _ rfl W1.heap.size arr ?_ ?_ 34 eZ ?_ ?_ ?_ ?_ ?_;exact rfl;exact rfl;exact hA1;exact hA3;exact hA4.out;exact hA2) | (refine wpList_load_row rfl 34 _ rfl W1.heap.size rfl 34 _ _ _ hG Tryz.underlying34 rfl hA3 ?_) | (refine wpList_store_mid rfl 34 _ _ rfl b (off+k*8) arr ?_ ?_ ?_ ?_ ?_ ?_;exact rfl;exact rfl;exact hth;exact hA3;exact hA2))
    go_roundw
    case rel=>exact ⟨k+1,ys++ [y],_,by omega,by go_num,HN2,(by show _=_;rw [List.length_append,HYL.out];rfl),hS8⟩
    case measure=>simp [intOf];omega
  ·have hkn :k=st.out.length :=by omega
   subst hkn
   rw [List.drop_length,List.append_nil] at hS
   have j1 : ¬ ((st.out.length :Int) < (st.out.length :Int)) :=by omega
   have HYF :Hid (Ba (Bm v.S) st.out= .ok ys) :=by show _=_;rw [←List.take_length (l :=st.out)];exact HY.out
   go_wp2_with fail
   exact HN.out ys lab1 V _ _ _ _ _ _ _ _ _ _ _ _ _ _ (by kernel_rfl) HYF.out hS
end Go.Proofs.YtmgkcjiejmhgcaaGreatDoor

namespace Go.Proofs.YtmgkcjiejmhgcaaGreatDoor
open Go.RowKit Go.Maps
theorem Abe : (Tryz.prog.info? 68).map (·.size) =some 4 :=by kernel_rfl
theorem Nk (S :List TabD) :C6 S= (Ax S).map fun p=>E.mk 2 zero p.1 p.2.name 0 [] :=by
 simp only [C6,Bv,Ax,List.map_flatMap,List.map_map]
 rfl
theorem Uy {F :Nat→Prop} {w :World} {ao :Option Addr} {n c :Nat} {l :List (Wd×ColD)} (h :IsL B8 F w (.slice ao n c) l) {k :Nat} {x :Wd×ColD} (hx :l[k]? =some x) : ∃b off cs,ao=some ⟨b,off,none⟩ ∧RowIn w b (off+k*4) 4 cs∧cs[0]? =some (.string x.1) ∧cs[1]? =some (.string x.2.name) :=by
 obtain ⟨b,off,cs,h1,_,_,h4,h5⟩ :=Av h hx
 obtain rfl :cs=_ :=h4
 exact ⟨b,off,_,h1,⟨h5,rfl,by simp [Value.oneCell']⟩,rfl,rfl⟩
abbrev Hx (s nm :Wd) :List Value := [.int .i64 2, .int .i64 0, .int .i64 0, .string ⟨#[]⟩, .string s, .string nm, .int .i64 0, .slice none 0 0]
theorem Yt (s nm :Wd) : ∀z∈Hx s nm,z.oneCell'=true :=by
 intro z hz
 simp only [List.mem_cons,List.not_mem_nil,or_false] at hz
 rcases hz with rfl | rfl | rfl | rfl | rfl | rfl | rfl | rfl<;>rfl
theorem Z7 {F :Nat→Prop} {w :World} (s nm :Wd) :As.R F w (.mk 2 zero s nm 0 []) (Hx s nm) := ⟨rfl,Dn (op :=2) (x :=zero) (s :=s) (name :=nm) (n :=0) (ao :=none) (c :=0) fun _=>rfl⟩
set_option maxRecDepth 100000 in
set_option maxHeartbeats 8000000 in
theorem Yu (w V0 :World) (D :Nat) (lab :Nat→Nat) (cat :Array Value) (v :Lv) (st :Stm) (h :BdSt w V0 D lab cat v st) (hcl : (Ax v.S).length≤16777216) (Q :Exit→Act→World→Prop)
  (hN : ∀ (uo :Option Addr) (uc :Nat) (lab' :Nat→Nat) (V' :World) (q0 q1 q5 v7 v8 q9 q10 q11 q12 q13 q14 v15 v16 :Value) (l :List Value),l.length=494→BdSt w V' D lab' cat {v with uo :=uo,uc :=uc} {st with out :=If v.S st.out} →Q .normal ⟨frm w.heap.size q0 q1 q5 v7 v8 q9 q10 q11 q12 q13 q14 v15 v16 (.slice v.ko (Ax v.S).length v.kc) l,[]⟩ V')
  (q0 q1 q5 v7 v8 q9 q10 q11 q12 q13 q14 v15 v16 :Value) (l :List Value) (hll :l.length=494) :
  Code.wp Tryz.prog (Yq Tryz.f7 [0]) Q ⟨frm w.heap.size q0 q1 q5 v7 v8 q9 q10 q11 q12 q13 q14 v15 v16 (.slice v.ko (Ax v.S).length v.kc) l,[]⟩ V0 :=by
 obtain ⟨q,rfl⟩ :=lay hll
 clear hll
 have e8 :V0.cell? ⟨w.heap.size+1,8,none⟩ =some (.slice v.uo st.out.length v.uc) :=Aa h.stm rfl
 by_cases h0 :st.out.length=0
 ·have hno :st.out= [] :=List.eq_nil_of_length_eq_zero h0
  have HN :Hid (∀ (uo :Option Addr) (uc :Nat) (lab' :Nat→Nat) (V' :World) (q0 q1 q5 v7 v8 q9 q10 q11 q12 q13 q14 v15 v16 :Value) (l :List Value),l.length=494→BdSt w V' D lab' cat {v with uo :=uo,uc :=uc} {st with out :=C6 v.S} →Q .normal ⟨frm w.heap.size q0 q1 q5 v7 v8 q9 q10 q11 q12 q13 q14 v15 v16 (.slice v.ko (Ax v.S).length v.kc) l,[]⟩ V') :=by
   show∀_,_
   rw [If,if_pos h0] at hN
   exact hN
  rw [h0] at e8
  have hst0 : {st with out := (C6 v.S).take 0} =st :=by rw [List.take_zero,←hno]
  have h' :BdSt w V0 D lab cat {v with uo :=v.uo,uc :=v.uc} {st with out := (C6 v.S).take 0} :=by rw [hst0];exact h
  obtain ⟨p0,ei,ez0,ez1,ez2⟩ :=info_parts Eb
  have HCX :Hid ((C6 v.S).length= (Ax v.S).length) :=by show _=_;rw [Nk,List.length_map]
  have HXG :Hid (∀ (k :Nat) (x :Wd×ColD),(Ax v.S)[k]? =some x→ (C6 v.S).take (k+1) = (C6 v.S).take k++ [.mk 2 zero x.1 x.2.name 0 []]) :=fun k x hx=>by rw [List.take_add_one,Nk,List.getElem?_map,hx];rfl
  clear hN h h0 hno hst0
  obtain ⟨ko,hko⟩ : ∃z,z=v.ko := ⟨_,rfl⟩
  have HKO :Hid (ko=v.ko) :=hko
  rw [←hko]
  clear hko
  obtain ⟨N,hNn⟩ : ∃z,z= (Ax v.S).length := ⟨_,rfl⟩
  have HNN :Hid (N= (Ax v.S).length) :=hNn
  rw [←hNn] at hcl⊢
  clear hNn
  conv=>arg 2;whnf
  simp only [frm,List.range,List.range.loop,List.map]
  go_wp2_with fail
  clear e8
  go_loopw [419] (fun iv wr=> ∃ (k :Nat) (uo :Option Addr) (uc :Nat) (lab' :Nat→Nat),k≤N∧iv= .int .i64 k∧BdSt w wr D lab' cat {v with uo :=uo,uc :=uc} {st with out := (C6 v.S).take k}) (fun iv _=>N - (intOf iv).toNat)
  case atStart=>exact ⟨0,v.uo,v.uc,lab,Nat.zero_le _,rfl,h'⟩
  case round=>
   obtain ⟨k,uo,uc,lab1,hk,rfl,hS⟩ :=hrel
   obtain ⟨V,hV⟩ : ∃V,V=wr := ⟨_,rfl⟩
   subst hV
   clear h'
   by_cases hlt :k<N
   ·obtain ⟨x,hx⟩ : ∃x,(Ax v.S)[k]? =some x := ⟨_,List.getElem?_eq_getElem (by rw [←HNN.out];exact hlt)⟩
    have HTK :Hid _ :=HXG.out k x hx
    have HKL :Hid (((C6 v.S).take k).length=k) :=by show _=_;rw [List.length_take,HCX.out,←HNN.out];omega
    obtain ⟨b,off,cs,hbo,hp,hc0,hc1⟩ :=Uy hS.own hx
    have hbo2 :ko=some ⟨b,off,none⟩ :=HKO.out.trans hbo
    subst hbo2
    have hp1 :=hp.range;have hp2 : (Tryz.prog.info? 68).map (·.size) =some cs.length :=Abe.trans (congrArg some hp.len.symm);have hp3 :=hp.one;have hp4 : (Tryz.prog.info? 68).map (·.size) =some cs.toArray.size :=hp2
    have hp5 :=Ab V (.cells #[.string ⟨#[]⟩, .string ⟨#[]⟩, .int .i64 0, .bool false] 68);have hp6 :Hid (4=cs.toArray.size) :=hp.len.symm
    have hb3 :=Below.row (Aq V (.cells #[.string ⟨#[]⟩, .string ⟨#[]⟩, .int .i64 0, .bool false] 68)) (Nat.le_refl _) cs.toArray
    have hS3 :=hS.below hb3
    have hxb : ((V.alloc (.cells #[.string ⟨#[]⟩, .string ⟨#[]⟩, .int .i64 0, .bool false] 68)).setRow V.heap.size cs.toArray).heap[V.heap.size]? =some (.cells cs.toArray 68) :=An hp5
    have y0 : ((V.alloc (.cells #[.string ⟨#[]⟩, .string ⟨#[]⟩, .int .i64 0, .bool false] 68)).setRow V.heap.size cs.toArray).cell? ⟨V.heap.size,0,none⟩ =some (.string x.1) :=Aa hxb (by simpa using hc0)
    have y1 : ((V.alloc (.cells #[.string ⟨#[]⟩, .string ⟨#[]⟩, .int .i64 0, .bool false] 68)).setRow V.heap.size cs.toArray).cell? ⟨V.heap.size,1,none⟩ =some (.string x.2.name) :=Aa hxb (by simpa using hc1)
    have y8 : ((V.alloc (.cells #[.string ⟨#[]⟩, .string ⟨#[]⟩, .int .i64 0, .bool false] 68)).setRow V.heap.size cs.toArray).cell? ⟨w.heap.size+1,8,none⟩ =some (.slice uo k uc) :=by
     have h8 : ((V.alloc (.cells #[.string ⟨#[]⟩, .string ⟨#[]⟩, .int .i64 0, .bool false] 68)).setRow V.heap.size cs.toArray).cell? ⟨w.heap.size+1,8,none⟩ =some (.slice uo ((C6 v.S).take k).length uc) :=Aa hS3.stm rfl
     rw [HKL.out] at h8
     exact h8
    have j0 : (0 :Int) ≤ (k :Int) :=by omega
    have j1 : (k :Int) < (N :Int) :=by omega
    obtain ⟨xt,xn⟩ :=x
    simp only at y0 y1 HTK
    generalize xn.name=xm at*
    clear hx hbo hp hc0 hc1 hS hb3
    go_upto_region 107 with (first | (refine wpList_load_mid rfl 68 _ rfl b (off+k*4) ?_ cs _ hp1 Tryz.underlying68 rfl ?_ ?_;exact rfl;exact hp2) | (refine wpList_store_row rfl 68 _ _ rfl V.heap.size cs.toArray ?_ ?_ 68 #[.string ⟨#[]⟩, .string ⟨#[]⟩, .int .i64 0, .bool false] ?_ ?_ ?_ ?_ ?_;exact rfl;exact rfl;exact hp5;exact hp4;exact hp6.out;exact hp3))
    generalize hW3 : (V.alloc (.cells #[.string ⟨#[]⟩, .string ⟨#[]⟩, .int .i64 0, .bool false] 68)).setRow V.heap.size cs.toArray=V3 at*
    have hbA :=Aq V3 (.cells (Hx xt xm).toArray 34)
    have hS4 :=hS3.below hbA
    have ho :=hS3.out
    obtain ⟨⟨css,hos,hnb,hall⟩,hlab⟩ :=ho
    have hall4 :=hall.keep (Ar hbA)
    have hos4 :=Az hos hbA
    simp only at hos4
    rw [HKL.out] at hos4
    have hfix :=Gp V3 (Hx xt xm) 34
    have hbig :D≤ (V3.alloc (.cells (Hx xt xm).toArray 34)).heap.size :=hS4.dlt
    clear hp1 hp2 hp3 hp4 hp5 hp6 hxb hS3
    go_wp2_with (at_builtin;go_must (refine By (K :=Fk (Hx xt xm)) (l := [()]) rfl _ _ 30 rfl D 34 p0 _ 104 Tryz.underlying30 ei ez0 ez1 ez2 rfl (Nat.succ_pos _) _ k css rfl hos4 rfl hfix (Hj (Yt xt xm)) (by simp only [maxLen,List.length_singleton];omega) (by simp only [List.length_singleton];omega) hbig ?h2))
    case h2=>
     intro z' W4 csn hown hall5 hg hat
     have hcsn :=Hi hall5
     subst hcsn
     obtain ⟨zo,zc,hz⟩ := (Cu.of_own (F :=fun _=>True) hown (fun _ _=>trivial)).shape
     subst hz
     have hst8 := (hg.block _ (lt_of_block hS4.stm) fun e=>by have := (hos4.lt _ e.symm).1;have :=hS4.big;omega).trans hS4.stm
     have c8 :=Aa hst8 (j :=8) rfl
     have ho' : (V3.alloc (.cells (Hx xt xm).toArray 34)).ownsRow D 34 8 (.slice uo ((C6 v.S).take k).length uc) ((C6 v.S).take k).length css :=by rw [HKL.out];exact hos4
     have hn' :W4.ownsRow D 34 8 (.slice zo (((C6 v.S).take k).length+1) zc) (((C6 v.S).take k).length+1) (css++Hx xt xm) :=by rw [HKL.out];exact hown
     have hat' : (Value.slice zo (((C6 v.S).take k).length+1) zc).ownBlock= (Value.slice uo ((C6 v.S).take k).length uc).ownBlock∨ (Value.slice zo (((C6 v.S).take k).length+1) zc).ownBlock=some (V3.alloc (.cells (Hx xt xm).toArray 34)).heap.size :=by
      rw [HKL.out]
      rcases hat with e | e
      ·exact .inl e
      ·exact .inr (e.trans (by simp))
     have hg' : (V3.alloc (.cells (Hx xt xm).toArray 34)).grownBy W4 (Value.slice uo ((C6 v.S).take k).length uc).ownBlock :=by rw [HKL.out];exact hg
     have hp :=BdSt.push_out hS4 (a := .mk 2 zero xt xm 0 []) ho' hall4 (Z7 xt xm) hn' hg' hat'
     simp only at hp
     rw [←HTK.out,HKL.out] at hp
     have hfz :=hp.1
     have hS5 :=hp.2
     clear hp hat hat' hg hg' hown hall5 hn' ho' hos hos4 hall hall4 hS4 hst8 y0 y1 y8 hfix hnb hlab
     go_wp2_with fail
     go_roundw
     case rel=>exact ⟨k+1,zo,zc,_,by omega,by go_num,hS5⟩
     case measure=>simp [intOf];omega
   ·have hkn :k=N :=by omega
    subst hkn
    have j1 : ¬ ((k :Int) < (k :Int)) :=by omega
    rw [List.take_of_length_le (by rw [HCX.out,←HNN.out];exact Nat.le_refl _)] at hS
    rw [HNN.out,HKO.out]
    rw [HNN.out] at j1
    go_wp2_with fail
    exact HN.out uo uc lab1 V _ _ _ _ _ _ _ _ _ _ _ _ _ _ (by kernel_rfl) hS
 ·have q1 : ((st.out.length :Int) ==0) =false :=by simpa using h0
  have HN :Hid (∀ (uo :Option Addr) (uc :Nat) (lab' :Nat→Nat) (V' :World) (q0 q1 q5 v7 v8 q9 q10 q11 q12 q13 q14 v15 v16 :Value) (l :List Value),l.length=494→BdSt w V' D lab' cat {v with uo :=uo,uc :=uc} st→Q .normal ⟨frm w.heap.size q0 q1 q5 v7 v8 q9 q10 q11 q12 q13 q14 v15 v16 (.slice v.ko (Ax v.S).length v.kc) l,[]⟩ V') :=by
   show∀_,_
   rw [If,if_neg h0] at hN
   exact hN
  clear hN h0
  conv=>arg 2;whnf
  simp only [frm,List.range,List.range.loop,List.map]
  go_wp2_with fail
  exact HN.out v.uo v.uc lab V0 _ _ _ _ _ _ _ _ _ _ _ _ _ _ (by kernel_rfl) h
end Go.Proofs.YtmgkcjiejmhgcaaGreatDoor

