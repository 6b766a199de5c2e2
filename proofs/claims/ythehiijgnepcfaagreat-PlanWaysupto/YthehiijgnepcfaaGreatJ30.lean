/-
  8 texts of this proof in one, in build order: PKept, PApp, PKept2, TTrees, PPlans, PDrop, PAll, QFacts.
-/
import Derived.Laws.Append
import Derived.Test.YthehiijgnepcfaaGreatJ01
import Derived.Test.YthehiijgnepcfaaGreatJ10
import Derived.Test.YthehiijgnepcfaaGreatJ12
import Derived.Test.YthehiijgnepcfaaGreatJ17
import Derived.Test.YthehiijgnepcfaaGreatJ18
import Derived.Test.YthehiijgnepcfaaGreatJ28
import Derived.Test.YthehiijgnepcfaaGreatJ29
set_option linter.unusedSimpArgs false
set_option linter.unusedVariables false
namespace Go.Proofs.YthehiijgnepcfaaGreat
open Go.RowKit
set_option maxHeartbeats 1000000 in
theorem Adi (r :List V) (rv :Value) (w :World) (hr :Bp w rv r) :Calls Tryz.prog 22 #[rv] w fun e w'=>e= .returned (r.headD zero).val∧Below w.heap.size w w' :=by
 rcases hr with ⟨⟨ao,cap,rfl,_⟩,rfl⟩ | ⟨b,off,cap,rfl,hb,hR⟩
 ·go_enter Tryz.func22,Tryz.ntmps22
  go_wp2
  refine bodyPost_ret (v :=zero.val) (by simp [results,zero,V.val,Tryz.results22,go_sem, *]) rfl ⟨rfl,Ao w _⟩
 ·cases r with
  | nil=>
   go_enter Tryz.func22,Tryz.ntmps22
   go_wp2
   refine bodyPost_ret (v :=zero.val) (by simp [results,zero,V.val,Tryz.results22,go_sem, *]) rfl ⟨rfl,Ao w _⟩
  | cons u r=>
   obtain ⟨f0,f1,f2⟩ :=hR 0 u rfl
   simp only [Nat.zero_mul,Nat.add_zero] at f0 f1 f2
   have hb1 :=Ao w (.cells #[.int .i64 0, .int .i64 0, .string noW] 32)
   have g0 := (hb1.cell (p := ⟨b,off,none⟩) hb).trans f0
   have g1 := (hb1.cell (p := ⟨b,off+1,none⟩) hb).trans f1
   have g2 := (hb1.cell (p := ⟨b,off+2,none⟩) hb).trans f2
   obtain ⟨uk,un,us⟩ :=u
   simp only at g0 g1 g2
   have hq : ((r.length :Int) +1==0) =false :=by simp;omega
   have hq1 : (0 :Int) < (r.length :Int) +1 :=by omega
   simp only [List.headD_cons,List.length_cons]
   generalize r.length=m at*
   go_enter Tryz.func22,Tryz.ntmps22
   go_wp2
   refine bodyPost_ret (v :=V.val ⟨uk,un,us⟩) (by simp [results,V.val,Tryz.results22,go_sem, *]) rfl ⟨rfl, ?_⟩
   exact Ao w _
structure TrG (w :World) (g :Nat) (B :List (Nat×Obj)) (ao :Option Addr) (k c :Nat) (T :List Pg) (wx :World) :Prop where
 blk :wx.heap[g]? =some (.cells #[.slice ao k c] 48)
 pgs :Aw wx (.slice ao k c) T
 good :Ap T
 old : ∀p∈B,wx.heap[p.1]? =some p.2∧p.1≠g
 bel :Below w.heap.size w wx
 le :w.heap.size≤g
theorem TrG.below {w :World} {g :Nat} {B :List (Nat×Obj)} {ao :Option Addr} {k c :Nat} {T :List Pg} {W V :World} (h :TrG w g B ao k c T W) (hb :Below W.heap.size W V) :TrG w g B ao k c T V :=
 ⟨(hb.block _ (lt_of_block h.blk)).trans h.blk,h.pgs.below hb,h.good,fun p hp=> ⟨(hb.block _ (lt_of_block (h.old p hp).1)).trans (h.old p hp).1,(h.old p hp).2⟩,h.bel.trans (hb.mono h.bel.size),h.le⟩
theorem TrG.store {w :World} {g :Nat} {B :List (Nat×Obj)} {ao ao' :Option Addr} {k c k' c' :Nat} {T T' :List Pg} {W V :World} (h :TrG w g B ao k c T W) (hb :Below W.heap.size W V) (hp :Aw V (.slice ao' k' c') T') (hg :Ap T') :
  TrG w g B ao' k' c' T' (V.setCell ⟨g,0,none⟩ (.slice ao' k' c')) :=by
 have hV :=h.below hb
 exact ⟨by have :=Do hV.blk 0 (.slice ao' k' c');simpa using this,Ka hp hV.blk _,hg,fun p hp=> ⟨(Fo (hV.old p hp).2 _ _).trans (hV.old p hp).1,(hV.old p hp).2⟩,hV.bel.setCell hV.le _,hV.le⟩
theorem TrG.grown {w :World} {g :Nat} {B :List (Nat×Obj)} {ao :Option Addr} {k c :Nat} {T :List Pg} {W V :World} {base :Nat} {z :Option Nat} (h :TrG w g B ao k c T W) (hg :W.grownBy V z) (hz : ∀j,z=some j→base≤j) (hp :Aw V (.slice ao k c) T) (h1 :g<base) (h2 : ∀p∈B,p.1<base) (h3 :w.heap.size≤base) :TrG w g B ao k c T V :=
 ⟨(hg.block _ (lt_of_block h.blk) (fun e=>by have :=hz g e.symm;omega)).trans h.blk,hp,h.good,fun p hp=> ⟨(hg.block _ (lt_of_block (h.old p hp).1) (fun e=>by have :=hz p.1 e.symm;have :=h2 p hp;omega)).trans (h.old p hp).1,(h.old p hp).2⟩,h.bel.grown hg h.bel.size (fun j hj=>by have :=hz j hj;omega),h.le⟩
theorem TrG.fst {w :World} {g a :Nat} {o :Obj} {B :List (Nat×Obj)} {ao :Option Addr} {k c :Nat} {T :List Pg} {W :World} (h :TrG w g ((a,o) ::B) ao k c T W) :W.heap[a]? =some o := (h.old (a,o) (by simp)).1
theorem TrG.snd {w :World} {g a :Nat} {o :Obj} {p :Nat×Obj} {B :List (Nat×Obj)} {ao :Option Addr} {k c :Nat} {T :List Pg} {W :World} (h :TrG w g (p :: (a,o) ::B) ao k c T W) :W.heap[a]? =some o := (h.old (a,o) (by simp)).1
theorem TrG.trd {w :World} {g a :Nat} {o :Obj} {p q :Nat×Obj} {B :List (Nat×Obj)} {ao :Option Addr} {k c :Nat} {T :List Pg} {W :World} (h :TrG w g (p ::q :: (a,o) ::B) ao k c T W) :W.heap[a]? =some o := (h.old (a,o) (by simp)).1
end Go.Proofs.YthehiijgnepcfaaGreat

namespace Go.Proofs.YthehiijgnepcfaaGreat
open Go.RowKit
def Gc (w :World) (v :Value) (n :Nat) :Prop := ∀g cap cur t fr,v= .slice (some ⟨g,0,none⟩) n cap→w.heap[g]? =some (.cells cur t fr) → ∀ (j :Nat) (u :Value),n≤j→cur[j]? =some u→u= .slice none 0 0
theorem Ve {k j :Nat} {u :Value} (h : (Builtin.zeroCells (Value.cells (.slice none 0 0)) k)[j]? =some u) :u= .slice none 0 0 :=by
 have hc :Value.cells (.slice none 0 0) = #[.slice none 0 0] :=rfl
 rw [hc] at h
 simp only [Builtin.zeroCells,Array.getElem?_map] at h
 obtain ⟨i,_,rfl⟩ :=Option.map_eq_some_iff.1 h
 simp [Nat.mod_one]
theorem Aa6 (w :World) :Gc w (.slice none 0 0) 0 :=fun g cap cur t fr h=>by cases h
theorem Xl {w w' :World} {base n c :Nat} {t ty e :TypeId} {i :TypeInfo} (ht :Tryz.prog.underlying t=some (.slice e)) (hi :Tryz.prog.info? e=some i) (hz :i.zero=some (.slice none 0 0)) (hsize :i.size=1)
  {v v' x :Value} {xs :List Value} (hown :w.ownsRow base e 1 v n xs) (hsp :Gc w v n) {a :Addr} (hx :w.cell? a=some x) (hx1 :x.oneCell'=true) (h63 :n+1≤maxLen) (hbytes : (n+1) *i.bytes≤140737488355328)
  (hr : (Builtin.append_ #[t,t] ty #[v, .slice (some a) 1 c]).run Tryz.prog w= .ok v' w') :Gc w' v' (n+1) :=by
 have hnews : ∀j u,[x][j]? =some u→w.cell? (a.add j) =some u :=fun j u hj=>by
  match j,hj with
  | 0,hj=>simp at hj;subst hj;simpa [Addr.add] using hx
 have hsmall :n+1≤9223372036854775807 :=by simp only [maxLen] at h63;omega
 have big : ∀ (olds :List Value) (k :Nat) (V :World),olds.length=n+1→Gc (V.alloc (.cells (olds.toArray++Builtin.zeroCells (Value.cells (.slice none 0 0)) k) e)) (.slice (some ⟨V.heap.size,0,none⟩) (n+1) (n+1+k)) (n+1) :=by
  intro olds k V ho g cap cur t' fr hv hg j u hj hu
  obtain ⟨⟨rfl⟩,_⟩ :V.heap.size=g∧_ :=by simpa using hv
  rw [Ab] at hg
  obtain ⟨rfl,_,_⟩ :olds.toArray++Builtin.zeroCells (Value.cells (.slice none 0 0)) k=cur∧_ :=by simpa using hg
  rw [Array.getElem?_append_right (by simpa [ho] using hj)] at hu
  exact Ve hu
 rcases hown.2 with ⟨rfl,rfl⟩ | ⟨g,cap,cur,rfl,hbg,hg,hnc,hcm,hcs,htake⟩
 ·have h2 :=run_append_nil (P :=Tryz.prog) w t ty e i _ ht hi hz a 1 c [x] (by simp [hsize]) hnews (by omega) (by omega) (by omega)
  rw [hr] at h2
  simp only [Result.ok.injEq] at h2
  obtain ⟨rfl,rfl⟩ :=h2
  have h3 :=big [x] (grownCap w 1 0 e - 1) w.drew rfl
  intro g cap cur t' fr hv hg j u hj hu
  refine h3 g (1+ (grownCap w 1 0 e - 1)) cur t' fr ?_ hg j u hj hu
  simp only [Value.slice.injEq] at hv⊢
  exact ⟨hv.1,by simp⟩
 ·by_cases hroom :n+1≤cap
  ·have h2 :=run_append_room (P :=Tryz.prog) w t ty e i ht hi g n cap cur hg a 1 c [x] (by simp [hsize]) hnews (by simpa using hx1) hroom (by rw [hsize];simp;omega)
   rw [hr] at h2
   simp only [Result.ok.injEq] at h2
   obtain ⟨rfl,rfl⟩ :=h2
   intro g' cap' cur' t' fr hv hg' j u hj hu
   simp only [Value.slice.injEq,Option.some.injEq,Addr.mk.injEq] at hv
   obtain ⟨⟨rfl,_⟩,_,_⟩ :=hv
   rw [Au hg] at hg'
   simp only [Option.some.injEq,Obj.cells.injEq] at hg'
   obtain ⟨rfl,_⟩ :=hg'
   simp only [hsize,Nat.mul_one,List.length_cons,List.length_nil,List.getElem?_toArray] at hu
   rw [List.getElem?_append_right (by simp;omega),List.getElem?_drop] at hu
   have hl : (cur.toList.take n++ [x]).length=n+1 :=by simp;omega
   rw [hl,show n+ (0+1) + (j - (n+1)) =j from by omega] at hu
   exact hsp g cap cur e (0,0) rfl hg j u (by omega) (by simpa using hu)
  ·have holds : ∀j u,xs[j]? =some u→w.cell? ((⟨g,0,none⟩ :Addr).add j) =some u :=hown.cells (g :=g) rfl
   have h2 :=run_append_grow (P :=Tryz.prog) w t ty e i _ ht hi hz ⟨g,0,none⟩ n cap xs (by rw [hsize];exact hown.1) holds a 1 c [x] (by simp [hsize]) hnews (by omega) (by omega) (growslice_fits (by omega) hbytes)
   rw [hr] at h2
   simp only [Result.ok.injEq] at h2
   obtain ⟨rfl,rfl⟩ :=h2
   have h3 :=big (xs++ [x]) (grownCap w (n+1) cap e - (n+1)) w.drew (by have :=hown.1;simp;omega)
   intro g cap' cur t' fr hv hg j u hj hu
   refine h3 g (n+1+ (grownCap w (n+1) cap e - (n+1))) cur t' fr ?_ (by simpa using hg) j u hj hu
   simp only [Value.slice.injEq] at hv⊢
   exact ⟨hv.1,by simp⟩
theorem Nk {w :World} {ops :Array Oper} {rest :List Oper} {o :Oper} {a :Act} {Q :Exit→Act→World→Prop} (hgd :o.guard=none) (s x :Operand) (t :TypeId)
  (ho :o.op= .call {callee := .builtin .append,args := #[s,x],argTypes := #[t,t]})
  (base :Nat) (e :TypeId) (i :TypeInfo) (ht :Tryz.prog.underlying t=some (.slice e)) (hi :Tryz.prog.info? e=some i) (hz :i.zero=some (.slice none 0 0)) (hsize :i.size=1)
  (v :Value) (n :Nat) (xs :List Value) (hs :a.eval s=v) (hown :w.ownsRow base e 1 v n xs) (hsp :Gc w v n)
  (ad :Addr) (c :Nat) (y :Value) (hx :a.eval x= .slice (some ad) 1 c) (hy :w.cell? ad=some y) (h1 :y.oneCell'=true)
  (h63 :n+1≤maxLen) (hbytes : (n+1) *i.bytes≤140737488355328) (hbase :base≤w.heap.size)
  (h : ∀v' w',w'.ownsRow base e 1 v' (n+1) (xs++ [y]) →Gc w' v' (n+1) →w.grownBy w' v.ownBlock→ (v'.ownBlock=v.ownBlock∨v'.ownBlock=some w.heap.size) →wpList Tryz.prog ops Q rest (a.put o.dst v') w') :
  wpList Tryz.prog ops Q (o ::rest) a w :=by
 refine wpList_plain hgd fun K hK=> ?_
 obtain ⟨v',w',hr,h2,h3,_,h5⟩ :=run_append_own_at (P :=Tryz.prog) w base t o.type e i _ 1 i.bytes ht hi hz hsize rfl rfl (by decide) v n xs hown ad 1 c [y] rfl (fun j u hj=>by
  match j,hj with
  | 0,hj=>simp at hj;subst hj;simpa [Addr.add] using hy) (by simpa using h1) h63 hbytes hbase
 have hsp' :=Xl ht hi hz hsize hown hsp hy h1 h63 hbytes hr
 unfold Oper.wp execOp
 simp only [ho,resolve,invoke,builtin,Sem.run_bind,Sem.run_pure,Result.andThen_ok,List.map_toArray,List.map_cons,List.map_nil,hs,hx,hr]
 exact hK _ _ (h v' w' h2 hsp' h3 h5)
def Ma (w :World) (xs :List Value) :Prop := ∀u∈xs,∃a n c k i,u= .slice (some a) n c∧w.cell? a=some (.int k i)
theorem Aff {w :World} {g :Nat} {cur :Array Value} {t :TypeId} {fr :Nat×Nat} {sv :Value} {L :List ByteArray} (hg :w.heap[g]? =some (.cells cur t fr)) (hc : ∀ (j :Nat) (u :Value),cur[j]? =some u→ ∃ao n c,u= .slice ao n c) (h :Aj w sv L) :L= [] ∨sv.ownBlock≠some g :=by
 rcases Nat.eq_zero_or_pos L.length with h0 | h0
 ·exact .inl (List.eq_nil_of_length_eq_zero h0)
 ·refine .inr fun e=> ?_
  obtain ⟨b,off,cap,rfl,_,_,_,hcell⟩ :=h.at h0
  obtain rfl :b=g :=by simpa [Value.ownBlock] using e
  obtain ⟨x,hx⟩ : ∃x,L[0]? =some x := ⟨_,List.getElem?_eq_getElem h0⟩
  have :=hcell 0 x hx
  simp only [World.cell?,hg,Nat.add_zero] at this
  have h2 :cur[off]? =some (.string x) :=by simpa using this
  obtain ⟨ao,n,c,h3⟩ :=hc _ _ h2
  cases h3
theorem Ig {size :Nat} {w w' :World} {sv :Value} {n :Nat} {cs :List Value} {z :Option Nat} (h :Dz size w sv n cs) (hg :w.grownBy w' z) (hn :n=0∨sv.ownBlock≠z∨z=none) :Dz size w' sv n cs :=by
 refine ⟨h.1, ?_⟩
 rcases h.2 with h2 | ⟨h0,b,off,cap,rfl,hlt,hc,hm,hcell⟩
 ·exact .inl h2
 ·refine .inr ⟨h0,b,off,cap,rfl,Nat.lt_of_lt_of_le hlt hg.size,hc,hm,fun j u hj=> ?_⟩
  have hne :some b≠z :=by
   rcases hn with h1 | h1 | h1
   ·omega
   ·intro e;exact h1 (by simp [Value.ownBlock,←e])
   ·rw [h1];simp
  have hblk :w'.heap[b]? =w.heap[b]? :=hg.block b hlt hne
  rw [World.cell?_of_block (a := ⟨b,off+j,none⟩) hblk]
  exact hcell j u hj
theorem Yv {w w' :World} {sv z :Value} {T :List Pg} {base n :Nat} {xs :List Value} (h :Aw w sv T) (hT :Ap T) (hown :w.ownsRow base 55 1 z n xs) (hsp :Gc w z n) (hnum :Ma w xs) (hg :w.grownBy w' z.ownBlock) :Aw w' sv T :=by
 rcases hown.2 with ⟨rfl,_⟩ | ⟨g,cap,cur,rfl,_,hgg,hnc,_,hcs,htake⟩
 ·obtain ⟨rows,h1,h2⟩ :=h
  refine ⟨rows,Ig h1 hg (.inr (.inr rfl)), ?_⟩
  clear h1 hT
  induction rows generalizing T with
  | nil=>cases T with
   | nil=>trivial
   | cons _ _=>exact h2.elim
  | cons r rows ih=>cases T with
   | nil=>exact h2.elim
   | cons p T=>exact ⟨Ig h2.1 hg (.inr (.inr rfl)),Ig h2.2.1 hg (.inr (.inr rfl)),ih h2.2.2⟩
 ·have hz : (Value.slice (some ⟨g,0,none⟩) n cap).ownBlock=some g :=rfl
  rw [hz] at hg
  have hcur : ∀ (j :Nat) (u :Value),cur[j]? =some u→u= .slice none 0 0∨ ∃a m c k i,u= .slice (some a) m c∧w.cell? a=some (.int k i) :=by
   intro j u hj
   by_cases hjn :j<n
   ·refine .inr (hnum u ?_)
    rw [←htake]
    have : (cur.toList.take (n*1))[j]? =some u :=by rw [List.getElem?_take];simp [hjn,hj]
    exact List.mem_of_getElem? this
   ·exact .inl (hsp g cap cur _ _ rfl hgg j u (by omega) hj)
  have hsl : ∀ (j :Nat) (u :Value),cur[j]? =some u→ ∃ao m c,u= .slice ao m c :=fun j u hj=>by
   rcases hcur j u hj with rfl | ⟨a,m,c,_,_,rfl,_⟩
   ·exact ⟨_,_,_,rfl⟩
   ·exact ⟨_,_,_,rfl⟩
  have hstr : ∀ {v :Value} {L :List ByteArray},Aj w v L→Aj w' v L :=fun {v L} hv=>by
   rcases Aff hgg hsl hv with rfl | h1
   ·exact Ig hv hg (.inl rfl)
   ·exact Ig hv hg (.inr (.inl h1))
  obtain ⟨rows,h1,h2⟩ :=h
  have hp :Pgs w' rows T :=by
   clear h1 hT
   induction rows generalizing T with
   | nil=>cases T with
    | nil=>trivial
    | cons _ _=>exact h2.elim
   | cons r rows ih=>cases T with
    | nil=>exact h2.elim
    | cons p T=>exact ⟨hstr h2.1,hstr h2.2.1,ih h2.2.2⟩
  refine ⟨rows,Ig h1 hg ?_,hp⟩
  rcases Nat.eq_zero_or_pos T.length with h0 | h0
  ·exact .inl h0
  ·refine .inr (.inl fun e=> ?_)
   rcases h1.2 with ⟨h3,_⟩ | ⟨_,b,off,bc,rfl,_,_,_,hcell⟩
   ·omega
   ·obtain rfl :b=g :=by simpa [Value.ownBlock] using e
    obtain ⟨p,hp0⟩ : ∃p,T[0]? =some p := ⟨_,List.getElem?_eq_getElem h0⟩
    obtain ⟨r,hr,hK,_⟩ :=h2.at hp0
    have hok :=hT.1 p (List.mem_of_getElem? hp0)
    have c0 :=hcell _ _ (Nm rows 0 r hr).1
    simp only [World.cell?,hgg,Nat.zero_mul,Nat.add_zero] at c0
    have c1 :cur[off]? =some r.1 :=by simpa using c0
    obtain ⟨kb,ko,kc,hk1,_,_,_,hkc⟩ :=hK.at hok.1
    obtain ⟨x,hx⟩ : ∃x,p.K[0]? =some x := ⟨_,List.getElem?_eq_getElem hok.1⟩
    have c2 :=hkc 0 x hx
    rcases hcur _ _ c1 with e1 | ⟨a,m,c,k,i,e1,e2⟩
    ·rw [hk1] at e1;cases e1
    ·rw [hk1] at e1
     cases e1
     rw [Nat.add_zero] at c2
     rw [c2] at e2
     cases e2
end Go.Proofs.YthehiijgnepcfaaGreat

namespace Go.Proofs.YthehiijgnepcfaaGreat
open Go.RowKit
theorem Vf {w W :World} {xs :List Value} (h :Ma w xs) (hb :Below w.heap.size w W) :Ma W xs :=fun u hu=>by
 obtain ⟨a,n,c,k,i,h1,h2⟩ :=h u hu
 exact ⟨a,n,c,k,i,h1,(hb.cell (p :=a) (block_lt_of_cell h2)).trans h2⟩
theorem G2 {w W :World} {base :Nat} {e :TypeId} {v :Value} {n :Nat} {xs :List Value} (hown :w.ownsRow base e 1 v n xs) (h :Gc w v n) (hb :Below w.heap.size w W) :Gc W v n :=by
 intro g cap cur t fr hv hg j u hj hu
 rcases hown.2 with ⟨rfl,_⟩ | ⟨g',cap',cur',rfl,_,hh,_⟩
 ·cases hv
 ·simp only [Value.slice.injEq,Option.some.injEq,Addr.mk.injEq] at hv
  obtain ⟨⟨rfl,_⟩,_,rfl⟩ :=hv
  have h2 := (hb.block g' (lt_of_block hh)).symm.trans hg
  rw [hh] at h2
  simp only [Option.some.injEq,Obj.cells.injEq] at h2
  obtain ⟨rfl,_⟩ :=h2
  exact h g' cap' cur' e (0,0) rfl hh j u hj hu
theorem Aa7 {w :World} {base g0 :Nat} {e :TypeId} {v x :Value} {n :Nat} {xs :List Value} (hown :w.ownsRow base e 1 v n xs) (h :Gc w v n) (hg0 :g0<base) :Gc (w.setCell ⟨g0,0,none⟩ x) v n :=by
 intro g cap cur t fr hv hg j u hj hu
 have hlt :=hown.lt g (by rw [hv];rfl)
 rw [Fo (by omega)] at hg
 exact h g cap cur t fr hv hg j u hj hu
theorem P0 {w :World} {base g0 :Nat} {e :TypeId} {v x :Value} {n :Nat} {xs :List Value} (hown :w.ownsRow base e 1 v n xs) (hg0 :g0<base) : (w.setCell ⟨g0,0,none⟩ x).ownsRow base e 1 v n xs :=by
 refine ⟨hown.1, ?_⟩
 rcases hown.2 with h | ⟨g,cap,cur,hv,hg,hh,r⟩
 ·exact .inl h
 ·exact .inr ⟨g,cap,cur,hv,hg,by rw [Fo (by omega)];exact hh,r⟩
def Agx (I :List IdxD) (t :TabD) (w w' :World) (e :Ending) :Prop := ∃ao pk pc T oo oc O,e= .returned (.tuple #[.agg #[.slice ao pk pc], .slice oo O.length oc]) ∧Aw w' (.slice ao pk pc) T∧Ap T∧Kept I t (flat T) O∧T.length≤100∧IsL E9 (fun _=>True) w' (.slice oo O.length oc) O∧Below w.heap.size w w'
set_option maxRecDepth 100000 in
set_option maxHeartbeats 8000000 in
theorem Afg (I :List IdxD) (t :TabD) (rows :List (List V)) (tv iv sv rv :Value) (C :Nat) (w :World) (htv :E1 tv) (hi :IsL Fg (fun k=>k<C) w iv I) (hl :IsL Cc (fun k=>k<C) w sv t.cols) (hr :IsL E9 (fun k=>k<C) w rv rows) (hC :C≤w.heap.size)
  (hI :I.length≤4) (hin : ∀x∈I,x.name.size≤1000000) (htn :t.name.size≤1000000) (hc0 :0<t.cols.length) (hc4 :t.cols.length≤4) (hrs : ∀r∈rows,∀v∈r,v.s.size≤maxLen) :
  Calls Tryz.prog 7 #[.agg #[tv,iv], .agg #[.string t.name,sv],rv] w fun e w'=>Agx I t w w' e :=by
 have HPut :=fun T pv r xv W (h :Below w.heap.size w W) =>Sd I t r T pv tv iv sv xv C W
 have HFt0 :=fun r xv W (h :Below w.heap.size w W) =>Xk t r sv xv C W (hl.keep (Af (h.mono hC)))
 have HI :Hid _ :=hi
 have HL :Hid _ :=hl
 obtain ⟨to',tn,tc,rfl⟩ :=htv
 obtain ⟨io,ic,rfl⟩ :=hi.shape
 obtain ⟨so,sc,rfl⟩ :=hl.shape
 obtain ⟨ro,rc,rfl⟩ :=hr.shape
 have hlm := (Cj hr).2
 unfold maxLen at hlm
 obtain ⟨i0,hi0,hz0,hz1,hz2⟩ :=info_parts N5
 have HRS :Hid _ :=hrs
 have HIN :Hid _ :=hin
 clear hrs hin hi hl
 have hbW :=Cb w (.cells #[.slice to' tn tc, .slice io I.length ic] 25) (.cells #[.string t.name, .slice so t.cols.length sc] 43) (.cells #[.slice none 0 0] 48)
 have tg0 :TrG w (w.heap.size+3) [(w.heap.size, .cells #[.slice to' tn tc, .slice io I.length ic] 25),(w.heap.size+1, .cells #[.string t.name, .slice so t.cols.length sc] 43),(w.heap.size+2, .cells #[.slice none 0 0] 48)] none 0 0 [] ((((w.alloc (.cells #[.slice to' tn tc, .slice io I.length ic] 25)).alloc (.cells #[.string t.name, .slice so t.cols.length sc] 43)).alloc (.cells #[.slice none 0 0] 48)).alloc (.cells #[.slice none 0 0] 48)) :=by
  refine ⟨?_,Aw.nil _,⟨by simp,by simp [Bc,Bo]⟩, ?_,hbW.alloc hbW.size _,by omega⟩
  ·have :=Ab (((w.alloc (.cells #[.slice to' tn tc, .slice io I.length ic] 25)).alloc (.cells #[.string t.name, .slice so t.cols.length sc] 43)).alloc (.cells #[.slice none 0 0] 48)) (.cells #[.slice none 0 0] 48)
   rwa [show (((w.alloc (.cells #[.slice to' tn tc, .slice io I.length ic] 25)).alloc (.cells #[.string t.name, .slice so t.cols.length sc] 43)).alloc (.cells #[.slice none 0 0] 48)).heap.size=w.heap.size+3 from by simp] at this
  ·intro p hp
   simp only [List.mem_cons,List.not_mem_nil,or_false] at hp
   rcases hp with rfl | rfl | rfl
   ·exact ⟨Ac (Ac (Ac (Ab w _) _) _) _,by simp⟩
   ·exact ⟨Ac (Ac (Aq _ _ _) _) _,by simp⟩
   ·exact ⟨Ac (A6 _ _ _ _) _,by simp⟩
 have hW4s : ((((w.alloc (.cells #[.slice to' tn tc, .slice io I.length ic] 25)).alloc (.cells #[.string t.name, .slice so t.cols.length sc] 43)).alloc (.cells #[.slice none 0 0] 48)).alloc (.cells #[.slice none 0 0] 48)).heap.size=w.heap.size+4 :=by simp
 generalize hW : (((w.alloc (.cells #[.slice to' tn tc, .slice io I.length ic] 25)).alloc (.cells #[.string t.name, .slice so t.cols.length sc] 43)).alloc (.cells #[.slice none 0 0] 48)).alloc (.cells #[.slice none 0 0] 48) =W4 at tg0 hW4s
 have HW :Hid _ :=hW
 have HW4s :Hid _ :=hW4s
 clear hW hW4s hbW
 have HR :Hid _ :=hr
 clear hr
 go_enter Tryz.func7,Tryz.ntmps7
 go_upto_region 2 with fail
 rw [HW.out]
 go_wp2
 go_loopw [9,16] (fun ov i wr=> ∃ (k :Nat) (O :List (List V)) (ao :Option Addr) (pk pc :Nat) (T :List Pg) (cs :List Value),k≤rows.length∧i= .int .i64 k∧TrG w (w.heap.size+3) [(w.heap.size, .cells #[.slice to' tn tc, .slice io I.length ic] 25),(w.heap.size+1, .cells #[.string t.name, .slice so t.cols.length sc] 43),(w.heap.size+2, .cells #[.slice none 0 0] 48)] ao pk pc T wr∧Hid (Kept I t (flat T) O∧T.length≤O.length*5) ∧wr.ownsRow (w.heap.size+4) 55 1 ov O.length cs∧Gc wr ov O.length∧Ma w cs∧Hid (All E9 (fun k=>k<w.heap.size) w O cs)) (fun _ i _=>rows.length - (intOf i).toNat)
 case atStart=>exact ⟨0,[],none,0,0,[],[],Nat.zero_le _,rfl,tg0,hid ⟨Wa I t,by simp⟩,World.ownsRow_nil _ _ _ _,Aa6 _,fun u hu=>by simp at hu,hid rfl⟩
 case round=>
  obtain ⟨k,O,ao,pk,pc,T,cs,hk,rfl,tg,HK,hown,hsp,hnum,HAl⟩ :=hrel
  have hbw :=tg.bel
  by_cases hlt :k<rows.length
  ·obtain ⟨r,hx⟩ : ∃r,rows[k]? =some r := ⟨_,List.getElem?_eq_getElem hlt⟩
   obtain ⟨b,off,cs',hro,hbC,hbl,⟨xv,rfl,hrow⟩,hcell⟩ :=A4 HR.out hx
   cases hro
   obtain ⟨xo,xc,rfl⟩ :=hrow.shape
   have hv :=I1 hrow
   have HRo :Hid (IsL Mj (fun k=>k<w.heap.size) w (.slice xo r.length xc) r) :=hrow.mono (fun k hk _=>hk)
   have hss :=HRS.out r (List.mem_of_getElem? hx)
   have d0 :wr.cell? ⟨b,off+k,none⟩ =some (.slice xo r.length xc) := (hbw.cell (p := ⟨b,off+k,none⟩) hbl).trans (by have :=hcell 0 _ rfl;simpa [E9] using this)
   have hhs : (r.headD zero).s.size≤maxLen :=by
    cases r with
    | nil=>exact Nat.zero_le _
    | cons u r=>exact hss u (by simp)
   have hTl :T.length≤100 :=by have h1 :=HK.out.2;have h2 :=HK.out.1.len;omega
   have HFi :=fun W (h :Below w.heap.size w W) =>Adi r _ W (hv.below h)
   have HRk :=fun W=>Mk t.name (r.headD zero) W htn hhs
   rw [show Gs t.name (r.headD zero) =rk t r from rfl] at HRk
   generalize r.headD zero=hd at HFi HRk hhs
   obtain ⟨hdk,hdn,hds⟩ :=hd
   simp only [V.val] at HFi HRk
   have HGt :=fun W (h :Below wr.heap.size wr W) =>Vq T (.agg #[.slice ao pk pc]) (rk t r) W ⟨_,rfl,tg.pgs.below h⟩ tg.good (by omega)
   have HFt :=fun W (h :Below w.heap.size w W) =>HFt0 r (.slice xo r.length xc) W h (hv.below h) hss
   have HPt :=fun W (h1 :Below wr.heap.size wr W) (hg :Ap T) =>HPut T (.agg #[.slice ao pk pc]) r (.slice xo r.length xc) W (hbw.trans (h1.mono hbw.size)) ⟨_,rfl,tg.pgs.below h1⟩ hg (by omega) (Al _ _ _) (IsL.keep HI.out (Af ((hbw.trans (h1.mono hbw.size)).mono hC))) (IsL.keep HL.out (Af ((hbw.trans (h1.mono hbw.size)).mono hC))) (Nat.le_trans hC (hbw.trans (h1.mono hbw.size)).size) (hv.below (hbw.trans (h1.mono hbw.size)))
   have HPt2 :Hid _ :=HPt
   clear HPt
   obtain ⟨gs,gb,hgb⟩ : ∃gs gb,Kq (Cw (flat T) (rk t r)) = .tuple #[.string gs, .bool gb] ∧gb= (Cw (flat T) (rk t r)).isSome := ⟨_,_,rfl,rfl⟩
   rw [hgb.1] at HGt
   have HGB :Hid _ :=hgb.2
   clear hgb
   have HFG :Hid (Ee t r=true→r.length=t.cols.length) :=fun h=> (C6 h).1
   obtain ⟨fb,hfb⟩ : ∃fb,Ee t r=fb := ⟨_,rfl⟩
   rw [hfb] at HFt
   have HFB :Hid _ :=hfb
   clear hfb
   have hnumr :Hid (0<r.length→ ∃a k i,xo=some a∧w.cell? a=some (.int k i)) :=fun h0=>by
    obtain ⟨u,hu⟩ : ∃u,r[0]? =some u := ⟨_,List.getElem?_eq_getElem h0⟩
    rcases hv with ⟨_,h1⟩ | ⟨b',off',cap',h1,_,hR⟩
    ·rw [h1] at h0;simp at h0
    ·cases h1
     exact ⟨_,_,_,rfl,by have := (hR 0 u hu).1;simpa using this⟩
   have KS :Hid _ :=fun W (h :Below wr.heap.size wr W) =>And.intro (show W.cell? ⟨w.heap.size+3,0,none⟩ =some (.slice ao pk pc) from Aa (tg.below h).blk (j :=0) rfl) (show W.cell? ⟨w.heap.size+1,0,none⟩ =some (.string t.name) from Aa (tg.below h).snd (j :=0) rfl)
   have s0 :=KS.out wr.drew (Below.refl _ _).drew
   have v0 : (0 :Int) ≤ (k :Int) :=by omega
   have v1 : (k :Int) < (rows.length :Int) :=by omega
   clear hx hcell hrow HFt0 HPut
   by_cases hO :O.length<20
   rotate_left
   ·have hq : ¬ (O.length :Int) <20 :=by omega
    clear HFt
    obtain ⟨oo,oc,hov⟩ :=Dz.shape (Dz.of_own hown)
    subst hov
    ·
     go_wp2_with fail
     go_region_held3 (fun W=>W.cell? ⟨w.heap.size+3,0,none⟩ =some (.slice ao pk pc) ∧W.cell? ⟨w.heap.size+1,0,none⟩ =some (.string t.name)) (with_reducible first | exact s3 | exact s2 | exact s1 | exact s0)
     (first
      | (go_at_call 22;go_fit (HFi _ hbw.drew);rintro e w1 ⟨rfl,hb1⟩;have hB1 :Below wr.heap.size wr w1 :=Ad (Below.refl _ _).drew hb1;have s1 :=KS.out w1 hB1)
      | (go_at_call 21;go_fit (HRk _);rintro e w2 ⟨rfl,hb2⟩;have hB2 :Below wr.heap.size wr w2 :=Ad hB1 hb2;have s2 :=KS.out w2 hB2)
      | (go_at_call 20;go_fit (HGt _ hB2);rintro e w3 ⟨rfl,hb3⟩;have hB3 :Below wr.heap.size wr w3 :=Ad hB2 hb3;have s3 :=KS.out w3 hB3;have tb3 := (tg.below hB3).snd;have y0 :=Aa tb3 (j :=0) rfl;have y1 :=Aa tb3 (j :=1) rfl))
     go_wp2
     go_roundw
     case rel=>exact ⟨k+1,O,ao,pk,pc,T,cs,by omega,by go_num,tg.below hB3,HK,Ar hown hB3,G2 hown hsp hB3,hnum,HAl⟩
     case measure=>simp [intOf];omega
   ·have hq : (O.length :Int) <20 :=by omega
    obtain ⟨oo,oc,hov⟩ :=Dz.shape (Dz.of_own hown)
    subst hov
    cases fb
    ·
     go_wp2_with fail
     go_region_held3 (fun W=>W.cell? ⟨w.heap.size+3,0,none⟩ =some (.slice ao pk pc) ∧W.cell? ⟨w.heap.size+1,0,none⟩ =some (.string t.name)) (with_reducible first | exact s3 | exact s2 | exact s1 | exact s0)
     (first
      | (go_at_call 22;go_fit (HFi _ hbw.drew);rintro e w1 ⟨rfl,hb1⟩;have hB1 :Below wr.heap.size wr w1 :=Ad (Below.refl _ _).drew hb1;have s1 :=KS.out w1 hB1)
      | (go_at_call 21;go_fit (HRk _);rintro e w2 ⟨rfl,hb2⟩;have hB2 :Below wr.heap.size wr w2 :=Ad hB1 hb2;have s2 :=KS.out w2 hB2)
      | (go_at_call 20;go_fit (HGt _ hB2);rintro e w3 ⟨rfl,hb3⟩;have hB3 :Below wr.heap.size wr w3 :=Ad hB2 hb3;have s3 :=KS.out w3 hB3;have tb3 := (tg.below hB3).snd;have y0 :=Aa tb3 (j :=0) rfl;have y1 :=Aa tb3 (j :=1) rfl))
     go_wp2_with (go_at_call 23;go_fit (HFt _ (hbw.trans (hB3.mono hbw.size)));rintro e w4 ⟨rfl,hb4⟩;have hB4 :Below wr.heap.size wr w4 :=Ad hB3 hb4)
     go_roundw
     case rel=>exact ⟨k+1,O,ao,pk,pc,T,cs,by omega,by go_num,tg.below hB4,HK,Ar hown hB4,G2 hown hsp hB4,hnum,HAl⟩
     case measure=>simp [intOf];omega
    cases gb
    rotate_left
    ·
     go_wp2_with fail
     go_region_held3 (fun W=>W.cell? ⟨w.heap.size+3,0,none⟩ =some (.slice ao pk pc) ∧W.cell? ⟨w.heap.size+1,0,none⟩ =some (.string t.name)) (with_reducible first | exact s3 | exact s2 | exact s1 | exact s0)
     (first
      | (go_at_call 22;go_fit (HFi _ hbw.drew);rintro e w1 ⟨rfl,hb1⟩;have hB1 :Below wr.heap.size wr w1 :=Ad (Below.refl _ _).drew hb1;have s1 :=KS.out w1 hB1)
      | (go_at_call 21;go_fit (HRk _);rintro e w2 ⟨rfl,hb2⟩;have hB2 :Below wr.heap.size wr w2 :=Ad hB1 hb2;have s2 :=KS.out w2 hB2)
      | (go_at_call 20;go_fit (HGt _ hB2);rintro e w3 ⟨rfl,hb3⟩;have hB3 :Below wr.heap.size wr w3 :=Ad hB2 hb3;have s3 :=KS.out w3 hB3;have tb3 := (tg.below hB3).snd;have y0 :=Aa tb3 (j :=0) rfl;have y1 :=Aa tb3 (j :=1) rfl))
     go_wp2_with (go_at_call 23;go_fit (HFt _ (hbw.trans (hB3.mono hbw.size)));rintro e w4 ⟨rfl,hb4⟩;have hB4 :Below wr.heap.size wr w4 :=Ad hB3 hb4)
     go_roundw
     case rel=>exact ⟨k+1,O,ao,pk,pc,T,cs,by omega,by go_num,tg.below hB4,HK,Ar hown hB4,G2 hown hsp hB4,hnum,HAl⟩
     case measure=>simp [intOf];omega
    ·
     have hgn :Hid (Cw (flat T) (rk t r) =none) :=by
      show _=_
      have :=HGB.out
      cases h :Cw (flat T) (rk t r) with
      | none=>rfl
      | some x=>rw [h] at this;cases this
     have hrl :=HFG.out HFB.out
     have HP :=fun W (h1 :Below wr.heap.size wr W) =>HPt2.out W h1 tg.good hrl (by omega) (by omega) hss HIN.out htn (by omega)
     clear HPt2 hrl
     go_wp2_with fail
     go_region_held3 (fun W=>W.cell? ⟨w.heap.size+3,0,none⟩ =some (.slice ao pk pc) ∧W.cell? ⟨w.heap.size+1,0,none⟩ =some (.string t.name)) (with_reducible first | exact s3 | exact s2 | exact s1 | exact s0)
     (first
      | (go_at_call 22;go_fit (HFi _ hbw.drew);rintro e w1 ⟨rfl,hb1⟩;have hB1 :Below wr.heap.size wr w1 :=Ad (Below.refl _ _).drew hb1;have s1 :=KS.out w1 hB1)
      | (go_at_call 21;go_fit (HRk _);rintro e w2 ⟨rfl,hb2⟩;have hB2 :Below wr.heap.size wr w2 :=Ad hB1 hb2;have s2 :=KS.out w2 hB2)
      | (go_at_call 20;go_fit (HGt _ hB2);rintro e w3 ⟨rfl,hb3⟩;have hB3 :Below wr.heap.size wr w3 :=Ad hB2 hb3;have s3 :=KS.out w3 hB3;have tb3 := (tg.below hB3).snd;have y0 :=Aa tb3 (j :=0) rfl;have y1 :=Aa tb3 (j :=1) rfl))
     go_wp2_with (first
      | (go_at_call 23;go_fit (HFt _ (hbw.trans (hB3.mono hbw.size)));rintro e w4 ⟨rfl,hb4⟩;have hB4 :Below wr.heap.size wr w4 :=Ad hB3 hb4;have tg4 :=tg.below hB4;have z0 :=Aa tg4.blk (j :=0) rfl;have z1 :=Aa tg4.fst (j :=0) rfl;have z2 :=Aa tg4.fst (j :=1) rfl;have z3 :=Aa tg4.snd (j :=0) rfl;have z4 :=Aa tg4.snd (j :=1) rfl)
      | (go_at_call 16;go_fit (HP _ hB4);rintro e w5 ⟨pv5,T5,rfl,hp5,hg5,hf5,hl5,hb5⟩;obtain ⟨sv5,rfl,hp5⟩ :=hp5;obtain ⟨ao5,c5,rfl⟩ :=Dk hp5;have hB5 :Below wr.heap.size wr w5 :=Ad hB4 hb5;have tg5 :=tg.below hB5;have z5 :=Aa tg5.blk (j :=0) rfl;have z6 :w5.frozen? ⟨w.heap.size+3,0,none⟩ =false := (by simp [World.frozen?,tg5.blk]);have tg6 :=tg.store hB5 hp5 hg5;have own6 :=P0 (x := .slice ao5 T5.length c5) (Ar hown hB5) (show w.heap.size+3<w.heap.size+4 by omega);have sp6 :=Aa7 (x := .slice ao5 T5.length c5) (Ar hown hB5) (G2 hown hsp hB5) (show w.heap.size+3<w.heap.size+4 by omega);generalize hW6 :w5.setCell ⟨w.heap.size+3,0,none⟩ (.slice ao5 T5.length c5) =w6 at tg6 own6 sp6;have tg7 :=tg6.below (Ao w6 (.cells #[.slice xo r.length xc] 55));have own7 :=Ar own6 (Ao w6 (.cells #[.slice xo r.length xc] 55));have sp7 :=G2 own6 sp6 (Ao w6 (.cells #[.slice xo r.length xc] 55));have hy7 : (w6.alloc (.cells #[.slice xo r.length xc] 55)).cell? ⟨w6.heap.size,0,none⟩ =some (.slice xo r.length xc) :=Aa (Ab w6 _) rfl;have hba7 :w.heap.size+4≤ (w6.alloc (.cells #[.slice xo r.length xc] 55)).heap.size := (by have :=lt_of_block tg7.blk;omega))
      | (at_builtin;go_must (refine Nk rfl _ _ 37 rfl (w.heap.size+4) 55 i0 Tryz.underlying37 hi0 hz0 hz1 _ _ _ rfl own7 sp7 ⟨w6.heap.size,0,none⟩ 1 (.slice xo r.length xc) rfl hy7 rfl (by simp only [maxLen];omega) (by rw [hz2];omega) hba7 ?h2)))
     case h2=>
      intro v8 w8 own8 sp8 gr8 at8
      have hpg :=Yv tg7.pgs tg7.good own7 sp7 (Vf hnum tg7.bel) gr8
      have tg8 :=tg7.grown gr8 (fun j hj=> (own7.lt j hj).1) hpg (by omega) (by intro p hp;simp only [List.mem_cons,List.not_mem_nil,or_false] at hp;rcases hp with rfl | rfl | rfl<;>simp) (by omega)
      have hnr :0<r.length :=by rw [HFG.out HFB.out];exact hc0
      have hnum8 :Ma w (cs++ [.slice xo r.length xc]) :=by
       intro u hu
       rcases List.mem_append.1 hu with hu | hu
       ·exact hnum u hu
       ·obtain rfl :u= .slice xo r.length xc :=by simpa using hu
        obtain ⟨a,k',i',h1,h2⟩ :=hnumr.out hnr
        exact ⟨a,_,_,k',i',by rw [h1],h2⟩
      clear hnr
      go_wp2
      go_roundw
      case rel=>exact ⟨k+1,O++ [r],ao5,T5.length,c5,T5,cs++ [.slice xo r.length xc],by omega,by go_num,tg8,hid ⟨by rw [hf5];exact T9 HK.out.1 hgn.out HFB.out hO,by have h1 :=HK.out.2;rw [List.length_append];simp;omega⟩,by rw [List.length_append];exact own8,by rw [List.length_append];exact sp8,hnum8,hid (All.append HAl.out (All.one ⟨_,rfl,HRo.out⟩))⟩
      case measure=>simp [intOf];omega
  ·have hkn :k=rows.length :=by omega
   subst hkn
   have v1 : ¬ ((rows.length :Int) < (rows.length :Int)) :=by omega
   obtain ⟨oo,oc,hov⟩ :=Dz.shape (Dz.of_own hown)
   subst hov
   have bR :=tg.trd
   have z0 :=Aa tg.blk (j :=0) rfl
   have z1 :=Aa bR (j :=0) rfl
   have z2 :wr.frozen? ⟨w.heap.size+2,0,none⟩ =false :=by simp [World.frozen?,bR]
   go_wp2
   have hfin :=Do bR 0 (.slice ao pk pc)
   refine bodyPost_ret (v := .tuple #[.agg #[.slice ao pk pc], .slice oo O.length oc]) (A2 Tryz.results7 _ _ (w.heap.size+2) 48 #[.slice ao pk pc] _ _ _ rfl rfl hfin Tryz.underlying48 rfl (by kernel_rfl)) rfl ?_
   exact ⟨ao,pk,pc,T,oo,oc,O,rfl,Ka tg.pgs bR _,tg.good,HK.out.1,by have h1 :=HK.out.2;have h2 :=HK.out.1.len;omega,⟨cs,Fm.of_own (P0 hown (show w.heap.size+2<w.heap.size+4 by omega)) (fun _ _=>trivial),(HAl.out.keep (Af (tg.bel.setCell (show w.heap.size≤w.heap.size+2 by omega) _))).mono (fun _ _ _=>trivial)⟩,tg.bel.setCell (show w.heap.size≤w.heap.size+2 by omega) _⟩
end Go.Proofs.YthehiijgnepcfaaGreat

namespace Go.Proofs.YthehiijgnepcfaaGreat
open Go.RowKit
theorem Adj (w :World) :A5 w (.agg #[.slice none 0 0]) [] := ⟨_,rfl,Aw.nil w⟩
theorem Aiu {T1 T2 :List Pg} (h1 :flat T1=Ec (flat []) ⟨#[98]⟩ ⟨#[49]⟩) (h2 :flat T2=Ec (flat T1) ⟨#[97]⟩ ⟨#[50]⟩) :flat T2= [(⟨#[97]⟩,⟨#[50]⟩),(⟨#[98]⟩,⟨#[49]⟩)] :=by
 have e1 :flat T1= [(⟨#[98]⟩,⟨#[49]⟩)] :=by rw [h1];rfl
 rw [h2,e1]
 have a1 :klt ⟨#[98]⟩ ⟨#[97]⟩ =false :=by rw [klt,Lib.toList_data,Lib.toList_data];decide
 have a2 :klt ⟨#[97]⟩ ⟨#[98]⟩ =true :=by rw [klt,Lib.toList_data,Lib.toList_data];decide
 simp [Ec,a1,a2]
theorem Ai6 :Kq (Cw [(⟨#[97]⟩,⟨#[50]⟩),(⟨#[98]⟩,⟨#[49]⟩)] ⟨#[97]⟩) = .tuple #[.string ⟨#[50]⟩, .bool true] :=by simp [Cw,Kq]
end Go.Proofs.YthehiijgnepcfaaGreat

namespace Go.Proofs.YthehiijgnepcfaaGreat
open Go.RowKit
def Oq :TabD := ⟨⟨#[116]⟩,[⟨⟨#[97]⟩,1,true⟩]⟩
def Jg :List V := [⟨1,3,noW⟩]
theorem Aiv :Ee Oq Jg=true :=by decide
theorem Afy {T :List Pg} (h :flat T=putRow (flat []) [] Oq Jg) :Kept [] Oq (flat T) [Jg] :=by
 rw [h]
 exact T9 (O := []) (Wa [] Oq) (by simp [Cw,flat]) Aiv (by decide)
theorem Afh {I :List IdxD} {t :TabD} {T :List Pg} {O :List (List V)} (hT :Ap T) (h :Kept I t (flat T) O) (h0 :0<t.cols.length) (h4 :t.cols.length≤4) : ∀x∈rng T (Dr t.name) (Ds t.name),x.2.size≤1000000 :=by
 obtain ⟨A,_,_,hm,he⟩ :=P9 hT h h0
 intro x hx
 rw [he] at hx
 obtain ⟨r,hr,rfl⟩ :=List.mem_map.1 hx
 have h1 :=Hj r
 have h2 := (C6 (h.fit r ((hm r).1 hr))).1
 show (str (Ax r).1).size≤_
 omega
theorem Aiw {T :List Pg} (hT :Ap T) (h :flat T=putRow (flat []) [] Oq Jg) :Df 1 (rng T (Dr Oq.name) (Ds Oq.name)) = [Jg] :=by
 obtain ⟨A,hl,he,hm,_⟩ :=P9 hT (Afy h) (by decide)
 rw [show Oq.cols.length=1 from rfl] at he
 rw [he]
 match A,hl with
 | [a],_=>have := (hm a).1 (by simp);simp at this;rw [this]
theorem Afi {F :Nat→Prop} {W :World} {b :Nat} {x :ColD} {t :TypeId} {fr :Nat×Nat} (h :W.heap[b]? =some (.cells #[.string x.name, .int .i64 x.ty, .bool x.must] t fr)) (hF :F b) :IsL Cc F W (.slice (some ⟨b,0,none⟩) 1 1) [x] :=
 ⟨[.string x.name, .int .i64 x.ty, .bool x.must],⟨rfl, .inr ⟨by simp,b,0,1,rfl,hF,lt_of_block h,Nat.le_refl _,by decide,fun j u hj=>by rw [Nat.zero_add];exact Aa h (by simpa using hj)⟩⟩,All.one rfl⟩
set_option maxRecDepth 100000 in
set_option maxHeartbeats 4000000 in
theorem Adk (w :World) :Calls Tryz.prog 5 #[] w fun e w'=>e= .returned (.bool true) ∧Below w.heap.size w w' :=by
 have hb2 :=Bb w (.cells #[.string ⟨#[97]⟩, .int .i64 1, .bool true] 63) (.cells #[.string ⟨#[116]⟩, .slice (some ⟨w.heap.size,0,none⟩) 1 1] 43)
 have bC :=Ac (Ab w (.cells #[.string ⟨#[97]⟩, .int .i64 1, .bool true] 63)) (.cells #[.string ⟨#[116]⟩, .slice (some ⟨w.heap.size,0,none⟩) 1 1] 43)
 have bT :=Aq w (.cells #[.string ⟨#[97]⟩, .int .i64 1, .bool true] 63) (.cells #[.string ⟨#[116]⟩, .slice (some ⟨w.heap.size,0,none⟩) 1 1] 43)
 have hs2 : ((w.alloc (.cells #[.string ⟨#[97]⟩, .int .i64 1, .bool true] 63)).alloc (.cells #[.string ⟨#[116]⟩, .slice (some ⟨w.heap.size,0,none⟩) 1 1] 43)).heap.size=w.heap.size+2 :=by simp
 generalize hW : (w.alloc (.cells #[.string ⟨#[97]⟩, .int .i64 1, .bool true] 63)).alloc (.cells #[.string ⟨#[116]⟩, .slice (some ⟨w.heap.size,0,none⟩) 1 1] 43) =W2 at hb2 bC bT hs2
 have HW :Hid _ :=hW
 clear hW
 have hb4 :=Bb W2 (.cells #[.string ⟨#[116]⟩, .slice (some ⟨w.heap.size,0,none⟩) 1 1] 43) (.cells #[.int .i64 1, .int .i64 3, .string noW] 32)
 have bV :=Aq W2 (.cells #[.string ⟨#[116]⟩, .slice (some ⟨w.heap.size,0,none⟩) 1 1] 43) (.cells #[.int .i64 1, .int .i64 3, .string noW] 32)
 have bC4 := (hb4.block _ (lt_of_block bC)).trans bC
 have bT4 := (hb4.block _ (lt_of_block bT)).trans bT
 have HP :=Sd [] Oq Jg [] (.agg #[.slice none 0 0]) (.slice (some ⟨W2.heap.size,0,none⟩) 1 1) (.slice none 0 0) (.slice (some ⟨w.heap.size,0,none⟩) 1 1) (.slice (some ⟨W2.heap.size+1,0,none⟩) 1 1) ((W2.alloc (.cells #[.string ⟨#[116]⟩, .slice (some ⟨w.heap.size,0,none⟩) 1 1] 43)).alloc (.cells #[.int .i64 1, .int .i64 3, .string noW] 32)).heap.size _
  (Adj _) ⟨by simp,by simp [Bc,Bo]⟩ (by simp) (Al _ _ _) (IsL.nil _ _ _) (Afi bC4 (lt_of_block bC4)) (Nat.le_refl _)
  (.inr ⟨_,_,_,rfl,lt_of_block bV,fun i v hi=>by
   match i,hi with
   | 0,hi=>simp [Jg] at hi;subst hi;exact ⟨Aa bV rfl,Aa bV rfl,Aa bV rfl⟩⟩) rfl (by decide) (by decide) (by intro v hv;simp [Jg] at hv;subst hv;exact Nat.zero_le _) (by simp) (by decide) (by simp)
 have HA :=fun W=>Y9 Oq.name W (by decide)
 have HR :=fun T pv W (h1 :A5 W pv T) (h2 :Ap T) (h3 :T.length≤2) (h4 :flat T=putRow (flat []) [] Oq Jg) =>Po Oq.name T pv (some ⟨w.heap.size,0,none⟩) 1 1 (Dr Oq.name) (Ds Oq.name) W h1 h2 (by omega) (Afh h2 (Afy h4) (by decide) (by decide))
 have t0 :=Aa bT (j :=0) rfl
 have t1 :=Aa bT (j :=1) rfl
 have hb3 :=Ao W2 (.cells #[.string ⟨#[116]⟩, .slice (some ⟨w.heap.size,0,none⟩) 1 1] 43)
 have t0a := (hb3.cell (p := ⟨w.heap.size+1,0,none⟩) (lt_of_block bT)).trans t0
 have t1a := (hb3.cell (p := ⟨w.heap.size+1,1,none⟩) (lt_of_block bT)).trans t1
 have hbw4 :Below w.heap.size w ((W2.alloc (.cells #[.string ⟨#[116]⟩, .slice (some ⟨w.heap.size,0,none⟩) 1 1] 43)).alloc (.cells #[.int .i64 1, .int .i64 3, .string noW] 32)) :=hb2.trans (hb4.mono hb2.size)
 have EP :Hid (Oq.name= ⟨#[116]⟩) :=rfl
 simp only [EP.out] at HP HA HR
 have ER :Hid (∀T,Ap T→flat T=putRow (flat []) [] Oq Jg→Df 1 (rng T (Dr ⟨#[116]⟩) (Ds ⟨#[116]⟩)) = [Jg]) :=fun T h1 h2=>Aiw h1 h2
 go_enter Tryz.func5,Tryz.ntmps5
 go_upto_region 2 with fail
 rw [HW.out]
 clear hs2
 go_wp2_with (go_at_call 16;go_fit HP;rintro e w5 ⟨pv5,T5,rfl,hp5,hg5,hf5,hl5,hb5⟩;obtain ⟨sv5,rfl,hp5⟩ :=hp5;obtain ⟨ao5,c5,rfl⟩ :=Dk hp5)
 have bT5 := (hb5.block _ (lt_of_block bT4)).trans bT4
 have hbw5 :Below w.heap.size w w5 :=hbw4.trans (hb5.mono hbw4.size)
 have hb6 :=Ao w5 (.cells #[.slice ao5 T5.length c5] 48)
 have bP6 :=Ab w5 (.cells #[.slice ao5 T5.length c5] 48)
 have bT6 :=Ac bT5 (.cells #[.slice ao5 T5.length c5] 48)
 have hp6 :=hp5.below hb6
 have hbw6 :Below w.heap.size w (w5.alloc (.cells #[.slice ao5 T5.length c5] 48)) :=hbw5.trans (hb6.mono hbw5.size)
 generalize hW6 :w5.alloc (.cells #[.slice ao5 T5.length c5] 48) =W6 at hb6 bP6 bT6 hp6 hbw6⊢
 have HR2 :=fun W (h :Below W6.heap.size W6 W) =>HR T5 (.agg #[.slice ao5 T5.length c5]) W ⟨_,rfl,hp6.below h⟩ hg5 (Nat.le_trans hl5 (by simp)) hf5
 simp only [ER.out T5 hg5 hf5] at HR2
 have KS :Hid _ :=fun W (h :Below W6.heap.size W6 W) =>And.intro (show W.cell? ⟨w5.heap.size,0,none⟩ =some (.slice ao5 T5.length c5) from Aa ((h.block _ (lt_of_block bP6)).trans bP6) (j :=0) rfl) (And.intro (show W.cell? ⟨w.heap.size+1,0,none⟩ =some (.string ⟨#[116]⟩) from Aa ((h.block _ (lt_of_block bT6)).trans bT6) (j :=0) rfl) (show W.cell? ⟨w.heap.size+1,1,none⟩ =some (.slice (some ⟨w.heap.size,0,none⟩) 1 1) from Aa ((h.block _ (lt_of_block bT6)).trans bT6) (j :=1) rfl))
 have s0 :=KS.out W6.drew (Below.refl _ _).drew
 clear HR HP hW6 t0 t1 t0a t1a
 generalize Dr ⟨#[116]⟩ =lo at HA HR2
 generalize Ds ⟨#[116]⟩ =hi at HA HR2
 unfold Fi at HA HR2
 go_region_held3 (fun W=>W.cell? ⟨w5.heap.size,0,none⟩ =some (.slice ao5 T5.length c5) ∧W.cell? ⟨w.heap.size+1,0,none⟩ =some (.string ⟨#[116]⟩) ∧W.cell? ⟨w.heap.size+1,1,none⟩ =some (.slice (some ⟨w.heap.size,0,none⟩) 1 1)) (with_reducible first | exact s2 | exact s1 | exact s0)
  (first
   | (go_at_call 17;go_fit (HA _);rintro e w7 ⟨rfl,hb7⟩;have hB7 :Below W6.heap.size W6 w7 :=Ad (Below.refl _ _).drew hb7;have s1 :=KS.out w7 hB7)
   | (go_at_call 8;go_fit (HR2 _ hB7);rintro e w8 ⟨rv8,rfl,hrv8,hb8⟩;have hB8 :Below W6.heap.size W6 w8 :=Ad hB7 hb8;have s2 :=KS.out w8 hB8))
 obtain ⟨ro8,rc8,rfl⟩ :=hrv8.shape
 obtain ⟨b,off,cs',hro,_,hbl,⟨xv,rfl,hrow⟩,hcell⟩ :=A4 hrv8 (i :=0) (x :=Jg) rfl
 cases hro
 obtain ⟨xo,xc,rfl⟩ :=hrow.shape
 have d0 :w8.cell? ⟨b,off,none⟩ =some (.slice xo 1 xc) :=by have :=hcell 0 _ rfl;simpa [E9,Jg] using this
 rcases I1 hrow with ⟨_,h1⟩ | ⟨b',off',cap',h1,_,hR⟩
 ·cases h1
 cases h1
 have d1 :w8.cell? ⟨b',off'+1,none⟩ =some (.int .i64 3) :=by have := (hR 0 _ rfl).2.1;simpa using this
 simp only [List.length_cons,List.length_nil,Nat.zero_add]
 go_wp2
 go_ret
 exact ⟨rfl,hbw6.trans (hB8.mono hbw6.size)⟩
end Go.Proofs.YthehiijgnepcfaaGreat

namespace Go.Proofs.YthehiijgnepcfaaGreat
open Go.RowKit
end Go.Proofs.YthehiijgnepcfaaGreat

namespace Go.Proofs.YthehiijgnepcfaaGreat
open Go.RowKit
theorem Qv {α :Type} {l :List α} {p :α→Bool} (h :Ay (atI l p) 0 l.length=false) : ∀x∈l,p x=false :=by
 intro x hx
 obtain ⟨i,hi,rfl⟩ :=List.getElem_of_mem hx
 have :=G6 h i (Nat.zero_le _) (by omega)
 rwa [Eu (List.getElem?_eq_getElem hi)] at this
theorem Zr {s :Wd} (h :nm s=true) :s.size≤8 :=by
 simp only [nm,Bool.and_eq_true,decide_eq_true_eq] at h
 exact h.1.1.2
theorem Aa8 {c :CatD} (h :C8 c=true) :c.indexes.length≤4∧ (∀x∈c.indexes,x.name.size≤8) ∧ ∀t∈c.tables,t.name.size≤8∧0<t.cols.length∧t.cols.length≤4 :=by
 simp only [C8,Bool.and_eq_true,decide_eq_true_eq] at h
 obtain ⟨⟨⟨_,h2⟩,h3⟩,h4⟩ :=h
 simp only [Jk,Lf,Bool.and_eq_true,Bool.not_eq_true'] at h3 h4
 refine ⟨h2,fun x hx=> ?_,fun t ht=> ?_⟩
 ·have :=Qv h4.1 x hx
  simp only [It,Bool.or_eq_false_iff,Bool.not_eq_false'] at this
  exact Zr this.1
 ·have :=Qv h3.1 t ht
  simp only [Bool.not_eq_false',Hy,Bool.and_eq_true,decide_eq_true_eq] at this
  obtain ⟨⟨⟨⟨h5,h6⟩,h7⟩,_⟩,_⟩ :=this
  exact ⟨Zr h5,h6,h7⟩
theorem Aa9 {T :List TabD} {t :TabD} {s :Wd} (h :Cr T s=some t) :t∈T∧t.name=s :=by
 refine ⟨List.mem_of_find?_eq_some h, ?_⟩
 have :=List.find?_some h
 exact of_decide_eq_true this
theorem Aia {F :PL} {I :List IdxD} {t :TabD} {A :List (List V)} {k :Nat} {r :List V} (h :A[k]? =some r) :Gt F I t (A.take (k+1)) =L3 (Gt F I t (A.take k)) I t r :=by
 rw [List.take_add_one,h,Option.toList_some,Ya]
end Go.Proofs.YthehiijgnepcfaaGreat

namespace Go.Proofs.YthehiijgnepcfaaGreat
open Go.RowKit
mutual
theorem P1 (S :List TabD) (hS : (Fs S).length≤1000) : ∀ (e :E) (r :E×Int),Bh S e= .ok r→ (De e→De r.1) ∧ ∀d,geB d e=true→K0 d r.1
 | .mk op x s name n l,r,h=>by
  rw [Bh] at h
  have hnil : ∀d,geB (d+1) (.mk op x s name n l) =true→Dd op=0→l= [] :=fun d hg h0=>by
   have := (I7 hg).1
   exact List.eq_nil_of_length_eq_zero (by omega)
  split at h
  ·rename_i h1
   obtain rfl :=Except.ok.inj h
   refine ⟨id,fun d hg=> ?_⟩
   cases d with
   | zero=>trivial
   | succ d=>
    have :=hnil d hg (by rw [Dd,if_pos (.inl h1)])
    subst this
    exact ⟨fun h2=>by omega,by simp⟩
  ·split at h
   ·rename_i h2
    split at h
    ·rename_i hfo
     obtain rfl :=Except.ok.inj h
     refine ⟨fun hf=>by rw [De] at hf⊢;exact hf,fun d hg=> ?_⟩
     cases d with
     | zero=>trivial
     | succ d=>
      have :=hnil d hg (by rw [Dd,if_pos (.inr h2)])
      subst this
      obtain ⟨i,c,hi,hc,_⟩ :=Od hfo
      have := (List.getElem?_eq_some_iff.1 hc).1
      exact ⟨fun _=>by rw [hi];omega,by simp⟩
    ·cases h
   ·rename_i h1 h2
    cases hl :A1 S l with
    | error j=>rw [hl] at h;cases h
    | ok rs=>
     rw [hl] at h
     simp only at h
     obtain ⟨k1,k2⟩ :=Ot S hS l rs hl
     split at h
     ·obtain rfl :=Except.ok.inj h
      refine ⟨fun hf=>by rw [De] at hf⊢;exact ⟨hf.1,hf.2.1,hf.2.2.1,k1 hf.2.2.2⟩,fun d hg=> ?_⟩
      cases d with
      | zero=>trivial
      | succ d=>exact ⟨fun h=>absurd h h2,k2 d (I7 hg).2.2⟩
     ·cases h
theorem Ot (S :List TabD) (hS : (Fs S).length≤1000) : ∀ (l :List E) (rs :List (E×Int)),A1 S l= .ok rs→ (Ea l→Ea (rs.map Prod.fst)) ∧ ∀d,(∀a∈l,geB d a=true) → ∀a∈rs.map Prod.fst,K0 d a
 | [],rs,h=>by
  rw [A1] at h
  obtain rfl :=Except.ok.inj h
  exact ⟨id,fun d _ a ha=>by cases ha⟩
 | e ::l,rs,h=>by
  rw [A1] at h
  cases he :Bh S e with
  | error j=>rw [he] at h;cases h
  | ok r=>
   rw [he] at h
   simp only at h
   cases hl :A1 S l with
   | error j=>rw [hl] at h;cases h
   | ok rs'=>
    rw [hl] at h
    obtain rfl :=Except.ok.inj h
    obtain ⟨h1,h2⟩ :=P1 S hS e r he
    obtain ⟨h3,h4⟩ :=Ot S hS l rs' hl
    refine ⟨fun hf=>by rw [Ea] at hf;rw [List.map_cons,Ea];exact ⟨h1 hf.1,h3 hf.2⟩,fun d hd a ha=> ?_⟩
    rw [List.map_cons] at ha
    rcases List.mem_cons.1 ha with rfl | ha
    ·exact h2 d (hd e (by simp))
    ·exact h4 d (fun b hb=>hd b (by simp [hb])) a ha
end
theorem Xm {d :Nat} {e :E} (h :e.opn=0) :geB d e=false :=by
 obtain ⟨op,x,s,name,n,l⟩ :=e
 simp only [E.opn] at h
 subst h
 cases d with
 | zero=>rfl
 | succ d=>
  cases hg :geB (d+1) (.mk 0 x s name n l) with
  | false=>rfl
  | true=>
   have := (I7 hg).1
   simp [Dd] at this
theorem Afj {t :TabD} (ht :t.cols.length≤1000) {e e' :E} (h :whR [t] e= .ok e') (hg :e.opn≠0→geB 40 e=true) : (De e→De e') ∧ (geB 40 e'=true→K0 40 e') :=by
 unfold whR at h
 split at h
 ·rename_i h0
  obtain rfl :=Except.ok.inj h
  exact ⟨id,fun h=>by rw [Xm h0] at h;cases h⟩
 ·rename_i h0
  unfold asR at h
  cases hb :Bh [t] e with
  | error j=>rw [hb] at h;cases h
  | ok r=>
   rw [hb] at h
   simp only at h
   split at h
   ·obtain rfl :=Except.ok.inj h
    obtain ⟨h1,h2⟩ :=P1 [t] (by simpa [Fs] using ht) e r hb
    exact ⟨h1,fun _=>h2 40 (hg h0)⟩
   ·cases h
theorem Xn {ct :CatD} {st st2 :Stm} (h :C4 ct st= .ok st2) (hk :st.kind=5) :C8 ct=true∧D4 st=true∧ ∃t,Cr ct.tables st.table=some t∧whR [t] st.wher= .ok st2.wher :=by
 unfold C4 at h
 split at h
 ·cases h
 ·rename_i hn
  have h1 :C8 ct=true :=by cases hc :C8 ct with | true=>rfl | false=>exact absurd (.inl hc) hn
  have h2 :D4 st=true :=by cases hc :D4 st with | true=>rfl | false=>exact absurd (.inr hc) hn
  refine ⟨h1,h2, ?_⟩
  unfold Du at h
  rw [if_neg (by omega),if_neg (by omega),if_neg (by omega),if_pos (by omega)] at h
  unfold Dh at h
  cases ht :Cr ct.tables st.table with
  | none=>rw [ht] at h;cases h
  | some t=>
   rw [ht] at h
   simp only at h
   cases hr :Ix t.cols st.rows with
   | error k=>rw [hr] at h;cases h
   | ok r=>
    rw [hr] at h
    simp only at h
    cases hs :Bs t [] st.sets with
    | error k=>rw [hs] at h;cases h
    | ok q=>
     rw [hs] at h
     simp only at h
     cases hw :whR [t] st.wher with
     | error k=>rw [hw] at h;cases h
     | ok e=>
      rw [hw] at h
      obtain rfl :=Except.ok.inj h
      exact ⟨t,rfl,hw⟩
theorem Aba {c :CatD} (h :C8 c=true) : ∀x∈c.indexes,x.name≠noW :=by
 simp only [C8,Bool.and_eq_true,decide_eq_true_eq] at h
 obtain ⟨⟨⟨_,h2⟩,h3⟩,h4⟩ :=h
 simp only [Jk,Lf,Bool.and_eq_true,Bool.not_eq_true'] at h3 h4
 intro x hx e
 have :=Qv h4.1 x hx
 simp only [It,Bool.or_eq_false_iff,Bool.not_eq_false'] at this
 have hn :=this.1
 rw [e] at hn
 exact absurd hn (by decide)
theorem Ou (L :List V) : (str (Ax L).1).size≤10*L.length :=Hj L
theorem Abb {I :List IdxD} {t :TabD} {F :PL} {O :List (List V)} (h :Kept I t F O) (ht :t.name.size≤8) (hc :t.cols.length≤4) (hI : ∀x∈I,x.name.size≤8) : ∀x∈F,x.1.size≤1000000∧x.2.size≤1000000 :=by
 intro x hx
 obtain ⟨r,hr,hg⟩ := (h.mem x).1 hx
 have hl := (C6 (h.fit r hr)).1
 rcases hg with rfl | ⟨hk,he⟩
 ·refine ⟨?_, ?_⟩
  ·show (Gs t.name _).size≤_
   rw [Gs,I2,Ld]
   have :=Ou [r.headD zero]
   simp only [List.length_cons,List.length_nil] at this
   omega
  ·have :=Ou r
   simp only
   omega
 ·refine ⟨?_,by rw [he];exact Nat.zero_le _⟩
  obtain ⟨y,hy,hx⟩ :=List.mem_filterMap.1 hk
  unfold Mi at hx
  split at hx
  ·have hx' :=Option.some.inj hx
   rw [←hx',Fh,I2,N0]
   have :=Ou [r.getD (Dq t y).toNat zero,r.headD zero]
   have :=hI y hy
   simp only [List.length_cons,List.length_nil] at*
   omega
  ·cases hx
theorem Abc (ct :CatD) (t :TabD) (at' :Int) (eop ek en :Int) (ex es em :Wd) (ei :Int) (ea :Option Addr) (el ec :Nat) (e0 :E) (to1 :Option Addr) (tl1 tc1 :Nat) (io :Option Addr) (il ic :Nat) (co :Option Addr) (cc :Nat) (C :Nat) (w :World) (he :IsE (fun k=>k<C) w e0 (.agg #[.int .i64 eop, .int .i64 ek, .int .i64 en, .string ex, .string es, .string em, .int .i64 ei, .slice ea el ec])) (hC :C≤w.heap.size) (hx :De e0) (hrf :geB 40 e0=true→K0 40 e0) (ht :t.name.size≤100000)
  (hct :Cz (fun k=>k<C) w ct (.agg #[.slice to1 tl1 tc1, .slice io il ic])) (hfc :Gv ct) (hcols :IsL Cc (fun k=>k<C) w (.slice co t.cols.length cc) t.cols) (hin : ∀x∈ct.indexes,x.name.size≤1000) :
  Calls Tryz.prog 9 #[.agg #[.slice to1 tl1 tc1, .slice io il ic], .agg #[.string t.name, .slice co t.cols.length cc], .int .i64 at', .agg #[.int .i64 eop, .int .i64 ek, .int .i64 en, .string ex, .string es, .string em, .int .i64 ei, .slice ea el ec]] w fun e w'=>e= .returned (Fi (Cu ct t at' e0).x (Cu ct t at' e0).lo (Cu ct t at' e0).hi) ∧Below w.heap.size w w' :=by
 cases hg :geB 40 e0 with
 | true=>exact Aav ct t at' eop ek en ex es em ei ea el ec e0 to1 tl1 tc1 io il ic co cc C w he hC hx (hrf hg) hg ht hct hfc hcols hin
 | false=>
  have :Cu ct t at' e0= ⟨noW,Dr t.name,Ds t.name⟩ :=by rw [Cu,hg];rfl
  rw [this]
  exact Acq t at' eop ek en ex es em ei ea el ec e0 to1 tl1 tc1 io il ic co cc C w he hC hx hg ht
theorem Ajx (t :TabD) (W :Wy) (T :List Pg) (pv :Value) (so :Option Addr) (sc :Nat) (w :World) (hp :A5 w pv T) (hg :Ap T) (hT :T.length≤100000) (hws :W.x.size≤1000000) (hns :t.name.size≤1000000) (hx : ∀x∈flat T,x.1.size≤1000000∧x.2.size≤1000000) :
  Calls Tryz.prog 8 #[pv, .agg #[.string t.name, .slice so t.cols.length sc],Fi W.x W.lo W.hi] w fun e w'=>Oy w w' e (Fq t.cols.length T t.name W) :=by
 unfold Fq
 by_cases h0 :W.x=noW
 ·rw [if_pos h0,h0]
  exact Pn t.name T pv so t.cols.length sc W.lo W.hi w hp hg hT fun x hh=> (hx x (Km hh)).2
 ·rw [if_neg h0]
  exact Pq t.name W.x T pv so t.cols.length sc W.lo W.hi w hp hg hT h0 hws hns hx
theorem Afk (t :TabD) (W :Wy) (T :List Pg) (pv :Value) (so :Option Addr) (sc :Nat) (w :World) (hp :A5 w pv T) (hg :Ap T) (hT :T.length≤100000) (hws :W.x.size≤1000000) (hns :t.name.size≤1000000) (hx : ∀x∈flat T,x.1.size≤1000000∧x.2.size≤1000000) :
  Calls Tryz.prog 8 #[pv, .agg #[.string t.name, .slice so t.cols.length sc],Fi W.x W.lo W.hi] w fun e w'=>Oz w w' e (Fq t.cols.length T t.name W) :=by
 unfold Fq
 by_cases h0 :W.x=noW
 ·rw [if_pos h0,h0]
  exact Po t.name T pv so t.cols.length sc W.lo W.hi w hp hg hT fun x hh=> (hx x (Km hh)).2
 ·rw [if_neg h0]
  exact Yd t.name W.x T pv so t.cols.length sc W.lo W.hi w hp hg hT h0 hws hns hx
end Go.Proofs.YthehiijgnepcfaaGreat

