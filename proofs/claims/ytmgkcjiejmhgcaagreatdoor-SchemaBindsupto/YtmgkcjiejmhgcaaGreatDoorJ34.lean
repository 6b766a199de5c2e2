/-
  2 texts of this proof in one, in build order: BNo, BEnd.
-/
import Derived.Deep.CutBlock
import Derived.Deep.DeepCutAuto
import Derived.BigQuiet
import Derived.Deep.MidRow
import Derived.Test.YtmgkcjiejmhgcaaGreatDoorJ28
import Derived.Test.YtmgkcjiejmhgcaaGreatDoorJ32
import Derived.Test.YtmgkcjiejmhgcaaGreatDoorJ33
set_option linter.unusedSimpArgs false
set_option linter.unusedVariables false
namespace Go.Proofs.YtmgkcjiejmhgcaaGreatDoor
open Go.RowKit Go.Maps
def Db :Nat→Code→Code
 | n+1, .seq _ b=>Db n b
 | _,c=>c
def C4 (f :Func) :Code :=f.body.getD .skip
theorem Bn :Ah.all (·.oneCell') =true :=Dq (Au _ _ _) (Au _ _ _) (Au _ _ _) (Au _ _ _) (Au _ _ _) (Au _ _ _) (Au _ _ _)
@[reducible] def frm (n :Nat) (q0 q1 q5 v7 v8 q9 q10 q11 q12 q13 q14 v15 v16 v17 :Value) (l :List Value) :Array Value :=
 (q0 ::q1 :: .pointer (some ⟨n,0,none⟩) :: .pointer (some ⟨n+1,0,none⟩) :: .pointer (some ⟨n+2,0,none⟩) ::q5 :: .func (.func 24) #[] #[] ::v7 ::v8 ::q9 ::q10 ::q11 ::q12 ::q13 ::q14 ::v15 ::v16 ::v17 ::l).toArray
theorem lay {l :List Value} {n :Nat} (h :l.length=n) : ∃q :Nat→Value,l= (List.range n).map q :=
 ⟨fun i=>l.getD i undef,List.ext_getElem (by simp [h]) fun i h1 h2=>by simp [List.getElem?_eq_getElem h1]⟩
structure Lv where
 co :Option Addr
 ro :Option Addr
 so :Option Addr
 fo :Option Addr
 uo :Option Addr
 wo :Option Addr
 qo :Option Addr
 cc :Nat
 rc :Nat
 sc :Nat
 fc :Nat
 uc :Nat
 wk :Nat
 wc :Nat
 qc :Nat
 op :Int
 xk :Int
 xn :Int
 xs :Wd
 s :Wd
 nm :Wd
 n8 :Int
 b :Nat
 tn :Wd
 ta :Option Addr
 tl :Nat
 tk :Nat
 S :List TabD
 ko :Option Addr
 kc :Nat
 rv :List Value
abbrev Lv.arr (v :Lv) (st :Stm) :Array Value :=sA st.kind st.name st.table st.col (.slice v.co st.cols.length v.cc) (.slice v.ro st.rows.length v.rc) (.slice v.so st.sets.length v.sc) (.slice v.fo st.frm.length v.fc) (.slice v.uo st.out.length v.uc) v.op v.xk v.xn v.xs v.s v.nm v.n8 (.slice v.wo v.wk v.wc) (.slice v.qo st.order.length v.qc) st.down st.n
abbrev Lv.wher (v :Lv) :Array Value :=Ad v.op ⟨v.xk,v.xn,v.xs⟩ v.s v.nm v.n8 (.slice v.wo v.wk v.wc)
def Kh (lab :Nat→Nat) (base :Nat) (w :World) (z :Value) (rows :List (List E)) (cs :List Value) :Prop :=
 w.ownsRow base 30 1 z rows.length cs∧ (∀k,z.ownBlock=some k→lab k=1) ∧ ∀j r,rows[j]? =some r→ ∃v,cs[j]? =some v∧Ck As 34 lab (20+2*j) base w v r
section
variable {lab lab' :Nat→Nat} {base :Nat} {w w' :World} {z :Value} {rows :List (List E)} {cs :List Value}
theorem Kh.keep (h :Kh lab base w z rows cs) (hk : ∀k,base≤k→k<w.heap.size→ (lab k=1∨20≤lab k) →w'.heap[k]? =w.heap[k]?) (hs :w.heap.size≤w'.heap.size) :Kh lab base w' z rows cs :=by
 obtain ⟨h1,h2,h3⟩ :=h
 refine ⟨Ja h1 fun k e=>hk k (h1.lt k e).1 (h1.lt k e).2 (.inl (h2 k e)),h2,fun j r hj=> ?_⟩
 obtain ⟨v,g1,g2⟩ :=h3 j r hj
 exact ⟨v,g1,g2.keep (fun k hb hl hc=>hk k hb hl (.inr (by omega))) hs⟩
theorem Kh.ext (h :Kh lab base w z rows cs) (he : ∀k,k<w.heap.size→lab' k=lab k) :Kh lab' base w z rows cs :=by
 obtain ⟨h1,h2,h3⟩ :=h
 refine ⟨h1,fun k e=> (he k (h1.lt k e).2).trans (h2 k e),fun j r hj=> ?_⟩
 obtain ⟨v,g1,g2⟩ :=h3 j r hj
 exact ⟨v,g1,g2.ext he⟩
theorem Kh.isL (h :Kh lab base w z rows cs) :IsL Ds (Fr base) w z rows :=Ip.isL ⟨cs,h⟩
end
structure BdSt (w W :World) (D :Nat) (lab :Nat→Nat) (cat :Array Value) (v :Lv) (st :Stm) :Prop where
 cat :W.heap[w.heap.size]? =some (.cells cat 25)
 stm :W.heap[w.heap.size+1]? =some (.cells (v.arr st) 36)
 room :W.heap[w.heap.size+2]? =some (.cells Ah 36)
 bel :Below w.heap.size w W
 big :w.heap.size+3≤D
 dlt :D≤W.heap.size
 low : ∀k,k<D→lab k=0
 tab :W.heap[v.b]? =some (.cells #[.string v.tn, .slice v.ta v.tl v.tk] 47)
 lz :lab v.b=0
 own :IsL B8 (fun k=>D≤k∧lab k=0) W (.slice v.ko (Ax v.S).length v.kc) (Ax v.S)
 cols :Ck Bg 66 lab 2 D W (.slice v.co st.cols.length v.cc) st.cols
 rows :Kh lab D W (.slice v.ro st.rows.length v.rc) st.rows v.rv
 sets :Ck C5 56 lab 6 D W (.slice v.so st.sets.length v.sc) st.sets
 frm :Ck Fz 9 lab 8 D W (.slice v.fo st.frm.length v.fc) st.frm
 out :Ck As 34 lab 10 D W (.slice v.uo st.out.length v.uc) st.out
 wher :IsE (fun k=>D≤k∧lab k=12) W st.wher (.agg v.wher)
 order :Ck As 34 lab 14 D W (.slice v.qo st.order.length v.qc) st.order
section
variable {w W W' :World} {D :Nat} {lab lab' :Nat→Nat} {cat :Array Value} {v :Lv} {st :Stm}
theorem BdSt.below (h :BdSt w W D lab cat v st) (hb :Below W.heap.size W W') :BdSt w W' D lab cat v st :=
 ⟨(hb.block _ (lt_of_block h.cat)).trans h.cat,(hb.block _ (lt_of_block h.stm)).trans h.stm,(hb.block _ (lt_of_block h.room)).trans h.room,h.bel.trans (hb.mono h.bel.size),h.big,Nat.le_trans h.dlt hb.size,h.low,(hb.block _ (lt_of_block h.tab)).trans h.tab,h.lz,h.own.keep (Ar hb),
  h.cols.keep (fun k _ hl _=>hb.block k hl) hb.size,h.rows.keep (fun k _ hl _=>hb.block k hl) hb.size,h.sets.keep (fun k _ hl _=>hb.block k hl) hb.size,h.frm.keep (fun k _ hl _=>hb.block k hl) hb.size,h.out.keep (fun k _ hl _=>hb.block k hl) hb.size,IsE.keep ⟨hb.size,fun k _ hl=>hb.block k hl⟩ _ _ h.wher,h.order.keep (fun k _ hl _=>hb.block k hl) hb.size⟩
theorem BdSt.ext (h :BdSt w W D lab cat v st) (he : ∀k,k<W.heap.size→lab' k=lab k) :BdSt w W D lab' cat v st :=
 ⟨h.cat,h.stm,h.room,h.bel,h.big,h.dlt,fun k hk=> (he k (Nat.lt_of_lt_of_le hk h.dlt)).trans (h.low k hk),h.tab,(he _ (lt_of_block h.tab)).trans h.lz,h.own.mono (fun k hk hf=> ⟨hf.1,(he k hk).trans hf.2⟩),h.cols.ext he,h.rows.ext he,h.sets.ext he,h.frm.ext he,h.out.ext he,IsE.mono (fun k hk hf=> ⟨hf.1,(he k hk).trans hf.2⟩) _ _ h.wher,h.order.ext he⟩
theorem BdSt.isS (h :BdSt w W D lab cat v st) :Abs.R (Fr D) W st (v.arr st).toList :=
 I1 h.cols.isL h.rows.isL h.sets.isL h.frm.isL h.out.isL (IsE.mono (fun k _ hf=>hf.1) _ _ h.wher) h.order.isL
theorem Fy {B g :Nat} {u :World} (hg :B≤g) : ∀ (vs :List Value) (o :Nat) {w' :World},Below B u w'→Below B u (w'.setCells g o vs)
 | [],_,_,h=>h
 | v ::vs,o,_,h=>Fy hg vs (o+1) (h.setCell hg v)
theorem BdSt.lows (h :BdSt w W D lab cat v st) :lab w.heap.size=0∧lab (w.heap.size+1) =0∧lab (w.heap.size+2) =0 :=by
 have :=h.big
 exact ⟨h.low _ (by omega),h.low _ (by omega),h.low _ (by omega)⟩
theorem Ck.put {α :Type} {K :Elem α} {ty :TypeId} {c base :Nat} {z :Value} {l :List α} (h :Ck K ty lab c base w z l) {j :Nat} (hj :j<l.length) (hK :0<K.size) {x :α} {d :List Value} (hx :K.R (fun k=>base≤k∧lab k=c+1) w x d) :
  ∃g cap,z= .slice (some ⟨g,0,none⟩) l.length cap∧lab g=c∧w.there g (j*K.size) d.length∧Ck K ty lab c base (w.setCells g (j*K.size) d) z (l.set j x) :=by
 obtain ⟨g,cap,rfl,h1,_,h3,h4⟩ :=h.1.put hj hK hx
 exact ⟨g,cap,rfl,h.2 g rfl,h3,h4,h.2⟩
theorem BdSt.put_out (h :BdSt w W D lab cat v st) {j :Nat} (hj :j<st.out.length) {y :E} {d :List Value} (hy :As.R (fun k=>D≤k∧lab k=10+1) W y d) :
  ∃g,v.uo=some ⟨g,0,none⟩ ∧W.there g (j*8) d.length∧BdSt w (W.setCells g (j*8) d) D lab cat v {st with out :=st.out.set j y} :=by
 obtain ⟨g,cap,he,hl,ht,ho⟩ :=h.out.put hj (by decide) hy
 injection he with he1 he2
 obtain ⟨l0,l1,l2⟩ :=h.lows
 have kb := (Md.refl lab 10 W).sets (g :=g) (fun _=>hl) (j*8) d
 have e : ∀k,lab k≠10→k<W.heap.size→ (W.setCells g (j*8) d).heap[k]? =W.heap[k]? :=fun k hk hs=>kb.2 k hs hk
 have ob : (W.setCells g (j*8) d).heap.size=W.heap.size :=Bp _ _ _ _
 refine ⟨g,he1,ht,(e _ (by omega) (lt_of_block h.cat)).trans h.cat, ?_,(e _ (by omega) (lt_of_block h.room)).trans h.room, ?_,h.big,by rw [ob];exact h.dlt,h.low,(e _ (by rw [h.lz];decide) (lt_of_block h.tab)).trans h.tab,h.lz,h.own.keep ⟨kb.1,fun k hc hl=>e k (by rw [hc.2];decide) hl⟩,h.cols.keep (fun k _ hl hc=>e k (by omega) hl) kb.1,h.rows.keep (fun k _ hl hc=>e k (by omega) hl) kb.1,h.sets.keep (fun k _ hl hc=>e k (by omega) hl) kb.1,h.frm.keep (fun k _ hl hc=>e k (by omega) hl) kb.1, ?_,IsE.keep ⟨kb.1,fun k hc hl=>e k (by rw [hc.2];decide) hl⟩ _ _ h.wher, ?_⟩
 ·have := (e _ (by omega) (lt_of_block h.stm)).trans h.stm
  simpa only [Lv.arr,List.length_set] using this
 ·exact Fy (Nat.le_of_not_lt fun hg=>by have :=h.low g (by have :=h.big;omega);omega) _ _ h.bel
 ·first | exact h.out.keep (fun k _ hl hc=>e k (by omega) hl) kb.1 | (simp only [List.length_set];exact ho)
 ·first | exact h.order.keep (fun k _ hl hc=>e k (by omega) hl) kb.1 | (simp only [List.length_set];exact ho)
theorem BdSt.put_order (h :BdSt w W D lab cat v st) {j :Nat} (hj :j<st.order.length) {y :E} {d :List Value} (hy :As.R (fun k=>D≤k∧lab k=14+1) W y d) :
  ∃g,v.qo=some ⟨g,0,none⟩ ∧W.there g (j*8) d.length∧BdSt w (W.setCells g (j*8) d) D lab cat v {st with order :=st.order.set j y} :=by
 obtain ⟨g,cap,he,hl,ht,ho⟩ :=h.order.put hj (by decide) hy
 injection he with he1 he2
 obtain ⟨l0,l1,l2⟩ :=h.lows
 have kb := (Md.refl lab 14 W).sets (g :=g) (fun _=>hl) (j*8) d
 have e : ∀k,lab k≠14→k<W.heap.size→ (W.setCells g (j*8) d).heap[k]? =W.heap[k]? :=fun k hk hs=>kb.2 k hs hk
 have ob : (W.setCells g (j*8) d).heap.size=W.heap.size :=Bp _ _ _ _
 refine ⟨g,he1,ht,(e _ (by omega) (lt_of_block h.cat)).trans h.cat, ?_,(e _ (by omega) (lt_of_block h.room)).trans h.room, ?_,h.big,by rw [ob];exact h.dlt,h.low,(e _ (by rw [h.lz];decide) (lt_of_block h.tab)).trans h.tab,h.lz,h.own.keep ⟨kb.1,fun k hc hl=>e k (by rw [hc.2];decide) hl⟩,h.cols.keep (fun k _ hl hc=>e k (by omega) hl) kb.1,h.rows.keep (fun k _ hl hc=>e k (by omega) hl) kb.1,h.sets.keep (fun k _ hl hc=>e k (by omega) hl) kb.1,h.frm.keep (fun k _ hl hc=>e k (by omega) hl) kb.1, ?_,IsE.keep ⟨kb.1,fun k hc hl=>e k (by rw [hc.2];decide) hl⟩ _ _ h.wher, ?_⟩
 ·have := (e _ (by omega) (lt_of_block h.stm)).trans h.stm
  simpa only [Lv.arr,List.length_set] using this
 ·exact Fy (Nat.le_of_not_lt fun hg=>by have :=h.low g (by have :=h.big;omega);omega) _ _ h.bel
 ·first | exact h.out.keep (fun k _ hl hc=>e k (by omega) hl) kb.1 | (simp only [List.length_set];exact ho)
 ·first | exact h.order.keep (fun k _ hl hc=>e k (by omega) hl) kb.1 | (simp only [List.length_set];exact ho)
end
def Dc (X :Except Int Stm) (w :World) :Ending→World→Prop :=fun r w'=> (∃u,r= .returned u∧Fj X (Fr w.heap.size) w' u) ∧Below w.heap.size w w'
set_option maxRecDepth 100000 in
set_option maxHeartbeats 8000000 in
theorem Cr (m :Int) (w :World) :Calls Tryz.prog 24 #[.int .i64 m] w fun e w'=>e= .returned (.tuple #[.agg Ah, .int .i64 m]) ∧Below w.heap.size w w' :=by
 have hb1 :=Aq w (.cells Ah 36)
 have bR :=Ab w (.cells Ah 36)
 go_enter Tryz.func24,Tryz.ntmps24
 go_wp2_with (refine wpList_store_row rfl 36 _ _ rfl w.heap.size Ah ?_ ?_ 36 Ah ?_ ?_ ?_ ?_ ?_;exact rfl;exact rfl;exact bR;exact Am;exact rfl;exact Bn)
 refine bodyPost_ret (A2 Tryz.results24 _ _ w.heap.size 36 Ah _ _ _ rfl rfl (An bR) Tryz.underlying36 rfl Am) rfl ⟨rfl,Below.row hb1 (Nat.le_refl _) _⟩
theorem Ts {w W :World} (hb :Below w.heap.size w W) (hr :W.heap[w.heap.size+2]? =some (.cells Ah 36)) {X :Except Int Stm} {arr :Array Value} {m :Int} (hsz :arr.size=20) {tmps :Array Value} (h4 :tmps.getD 4 undef= .pointer (some ⟨w.heap.size+2,0,none⟩)) (h5 :tmps.getD 5 undef= .int .i64 m)
  (hX :Fj X (Fr w.heap.size) (W.setRow (w.heap.size+2) arr) (.tuple #[.agg arr, .int .i64 m])) :bodyPost Tryz.prog Tryz.f7 (Dc X w) .ret ⟨tmps,[]⟩ (W.setRow (w.heap.size+2) arr) :=
 bodyPost_ret (A2 Tryz.results7 tmps _ (w.heap.size+2) 36 arr _ _ _ h4 h5 (An hr) Tryz.underlying36 rfl (by rw [hsz];exact Am)) rfl ⟨⟨_,rfl,hX⟩,Below.row hb (by omega) _⟩
theorem B9 {w W :World} (hb :Below w.heap.size w W) (hr :W.heap[w.heap.size+2]? =some (.cells Ah 36)) {X :Except Int Stm} (m :Int) (hX :X= .error m) {tmps :Array Value} (h4 :tmps.getD 4 undef= .pointer (some ⟨w.heap.size+2,0,none⟩)) (h5 :tmps.getD 5 undef= .int .i64 m) :
  bodyPost Tryz.prog Tryz.f7 (Dc X w) .ret ⟨tmps,[]⟩ (W.setRow (w.heap.size+2) Ah) :=Ts hb hr rfl h4 h5 (by rw [hX];rfl)
theorem L1 {w W :World} {D :Nat} {lab :Nat→Nat} {cat :Array Value} {v :Lv} {st :Stm} (h :BdSt w W D lab cat v st) {X :Except Int Stm} (hX :X= .ok st) {tmps :Array Value} (h4 :tmps.getD 4 undef= .pointer (some ⟨w.heap.size+2,0,none⟩)) (h5 :tmps.getD 5 undef= .int .i64 0) :
  bodyPost Tryz.prog Tryz.f7 (Dc X w) .ret ⟨tmps,[]⟩ (W.setRow (w.heap.size+2) (v.arr st)) :=Ts h.bel h.room rfl h4 h5 (by
 rw [hX]
 refine ⟨_,rfl,rfl, ?_, ?_⟩
 ·exact Dq (Au _ _ _) (Au _ _ _) (Au _ _ _) (Au _ _ _) (Au _ _ _) (Au _ _ _) (Au _ _ _)
 ·have hD :=h.big
  exact Abs.mono (fun k _ (hf :D≤k) =>show w.heap.size≤k by omega) (Abs.keep ((Keeps.refl _ _).row (show ¬D≤w.heap.size+2 by omega) _) h.isS))
structure EvOk (w w' :World) (y :E) (arr :Array Value) :Prop where
 size :arr.size=8
 one :arr.all (·.oneCell') =true
 is :IsE (Fr w.heap.size) w' y (.agg arr)
 bel :Below w.heap.size w w'
theorem EvOk.of {w w' :World} {y :E} {op :Int} {x :V} {s nm :Wd} {n :Int} {ao :Option Addr} {k c :Nat} (h :IsE (Fr w.heap.size) w' y (.agg (Ad op x s nm n (.slice ao k c)))) (hb :Below w.heap.size w w') :EvOk w w' y (Ad op x s nm n (.slice ao k c)) :=
 ⟨rfl,A8 op x s nm n ao k c,h,hb⟩
theorem EvOk.info {w w' :World} {y :E} {arr :Array Value} (h :EvOk w w' y arr) : (Tryz.prog.info? 34).map (·.size) =some arr.size :=by rw [h.size];exact Ai
abbrev eZ :Array Value := #[.int .i64 0, .int .i64 0, .int .i64 0, .string ⟨#[]⟩, .string ⟨#[]⟩, .string ⟨#[]⟩, .int .i64 0, .slice none 0 0]
theorem EvOk.box {w w' :World} {y :E} {arr :Array Value} (_ :EvOk w w' y arr) : (w'.alloc (.cells eZ 34)).heap[w'.heap.size]? =some (.cells eZ 34) :=Ab _ _
abbrev evW (w' :World) (arr :Array Value) :World := (w'.alloc (.cells eZ 34)).setRow w'.heap.size arr
theorem Hl (w' :World) (arr :Array Value) : (evW w' arr).heap[w'.heap.size]? =some (.cells arr 34) :=An (Ab w' (.cells eZ 34))
theorem Gr (w' :World) (arr :Array Value) :Below w'.heap.size w' (evW w' arr) :=Below.row (Aq _ _) (Nat.le_refl _) _
theorem E1 {α :Type} {K :Elem α} {F :Nat→Prop} {w :World} {z :Value} {l :List α} (h :IsL K F w z l) :IsL K (fun k=>k<w.heap.size) w z l :=h.mono fun _ hk _=>hk
theorem Hm {F :Nat→Prop} {w :World} {e :E} {v :Value} (h :IsE F w e v) :IsE (fun k=>k<w.heap.size) w e v :=IsE.mono (fun _ hk _=>hk) _ _ h
end Go.Proofs.YtmgkcjiejmhgcaaGreatDoor

namespace Go.Proofs.YtmgkcjiejmhgcaaGreatDoor
open Go.RowKit Go.Maps
theorem Tb {w :World} {b :Nat} {arr :Array Value} {t :TypeId} (h :w.heap[b]? =some (.cells arr t)) {o n :Nat} (hn :o+n≤arr.size) :w.there b o n :=fun j hj=>
 ⟨by rw [Aa h (j :=o+j) (Array.getElem?_eq_getElem (by omega))];rfl,by simp [World.frozen?,h]⟩
theorem Ga {w :World} {b :Nat} {arr :Array Value} {t :TypeId} (h :w.heap[b]? =some (.cells arr t)) {o :Nat} {cs :List Value} (he : (arr.toList.drop o).take cs.length=cs) :w.rangeAt b o cs :=fun j v hv=>by
 refine Aa h ?_
 rw [←he,List.getElem?_take] at hv
 split at hv
 ·rw [List.getElem?_drop] at hv
  simpa using hv
 ·cases hv
theorem Wp {F :Nat→Prop} {w :World} {e :E} {op :Int} {x :V} {s nm :Wd} {n :Int} {l :Value} (h :IsE F w e (.agg (Ad op x s nm n l))) :op=e.opn :=by
 cases e with
 | mk op2 xx s2 nm2 n2 lx=>
 obtain ⟨sv,hcs,_⟩ :=h.open
 have :=congrArg Array.toList (Value.agg.inj hcs)
 simp only [List.cons.injEq,Value.int.injEq] at this
 exact this.1.2
theorem It {kind :Int} {name table col :Wd} {a1 a2 a3 a4 a5 a6 a7 :Option Addr} {n1 n2 n3 n4 n5 n6 n7 c1 c2 c3 c4 c5 c6 c7 :Nat} {op xk xn :Int} {xs s nmv :Wd} {n8 :Int} {down :Bool} {n :Int} :
  (sA kind name table col (.slice a1 n1 c1) (.slice a2 n2 c2) (.slice a3 n3 c3) (.slice a4 n4 c4) (.slice a5 n5 c5) op xk xn xs s nmv n8 (.slice a6 n6 c6) (.slice a7 n7 c7) down n).all (·.oneCell') =true :=Dq (Au _ _ _) (Au _ _ _) (Au _ _ _) (Au _ _ _) (Au _ _ _) (Au _ _ _) (Au _ _ _)
theorem Wq {W W1 W2 :World} {D c :Nat} {lab :Nat→Nat} {y :E} {v :Value} (hD :D≤W.heap.size) (h :IsE (Fr W.heap.size) W1 y v) (hk :Below W1.heap.size W1 W2) :IsE (fun k=>D≤k∧C3 lab W.heap.size c k=c) W2 y v :=
 IsE.keep (Ar hk) _ _ (IsE.mono (fun k hl (hf :W.heap.size≤k) => ⟨Nat.le_trans hD hf,by rw [C3,if_neg (by omega)]⟩) _ _ h)
theorem BdSt.putW {w W :World} {D :Nat} {lab :Nat→Nat} {cat :Array Value} {v :Lv} {st :Stm} (h :BdSt w W D lab cat v st) {y :E} {op xk xn :Int} {xs s nm :Wd} {n8 :Int} {wo :Option Addr} {wk wc :Nat} (hy :IsE (fun k=>D≤k∧lab k=12) W y (.agg (Ad op ⟨xk,xn,xs⟩ s nm n8 (.slice wo wk wc)))) :
  BdSt w (W.setCells (w.heap.size+1) 9 (Ad op ⟨xk,xn,xs⟩ s nm n8 (.slice wo wk wc)).toList) D lab cat {v with op :=op,xk :=xk,xn :=xn,xs :=xs,s :=s,nm :=nm,n8 :=n8,wo :=wo,wk :=wk,wc :=wc} {st with wher :=y} :=by
 obtain ⟨l0,l1,l2⟩ :=h.lows
 have kb := (Md.refl lab 0 W).sets (g :=w.heap.size+1) (fun _=>l1) 9 (Ad op ⟨xk,xn,xs⟩ s nm n8 (.slice wo wk wc)).toList
 have e : ∀k,lab k≠0→k<W.heap.size→ (W.setCells (w.heap.size+1) 9 (Ad op ⟨xk,xn,xs⟩ s nm n8 (.slice wo wk wc)).toList).heap[k]? =W.heap[k]? :=fun k hk hs=>kb.2 k hs hk
 have hb1 :v.b≠w.heap.size+1 :=fun e=>by
  have h1 :=h.tab
  rw [e,h.stm] at h1
  exact absurd (show (20 :Nat) =2 from congrArg Array.size (Obj.cells.inj (Option.some.inj h1)).1) (by decide)
 refine ⟨(Be (by omega) _ _ _).trans h.cat, ?_,(Be (by omega) _ _ _).trans h.room,Fy (by omega) _ _ h.bel,h.big,Nat.le_trans h.dlt kb.1,h.low,(Be (fun e=>hb1 e) _ _ _).trans h.tab,h.lz,h.own.keep ⟨kb.1,fun k hc hl=>Be (fun e=>by have :=hc.1;have :=h.big;omega) _ _ _⟩,h.cols.keep (fun k _ hl hc=>e k (by omega) hl) kb.1,h.rows.keep (fun k _ hl hc=>e k (by omega) hl) kb.1,h.sets.keep (fun k _ hl hc=>e k (by omega) hl) kb.1,h.frm.keep (fun k _ hl hc=>e k (by omega) hl) kb.1,h.out.keep (fun k _ hl hc=>e k (by omega) hl) kb.1,IsE.keep ⟨kb.1,fun k hc hl=>e k (by rw [hc.2];decide) hl⟩ _ _ hy,h.order.keep (fun k _ hl hc=>e k (by omega) hl) kb.1⟩
 have h7 :=upd (upd (upd (upd (upd (upd (upd (upd h.stm 9 (.int .i64 op)) 10 (.int .i64 xk)) 11 (.int .i64 xn)) 12 (.string xs)) 13 (.string s)) 14 (.string nm)) 15 (.int .i64 n8)) 16 (.slice wo wk wc)
 simp only [List.setIfInBounds_toArray,List.set_cons_zero,List.set_cons_succ] at h7
 exact h7
theorem BdSt.stepW {w W W1 :World} {D :Nat} {lab :Nat→Nat} {cat :Array Value} {v :Lv} {st :Stm} (h :BdSt w W D lab cat v st) {y :E} {arr :Array Value} (hy :EvOk W W1 y arr) :
  (evW W1 arr).there (w.heap.size+1) 9 arr.size∧ ∃v',BdSt w ((evW W1 arr).setCells (w.heap.size+1) 9 arr.toList) D (C3 lab W.heap.size 12) cat v' {st with wher :=y} :=by
 have h1 := ((h.ext (Do lab W.heap.size 12)).below hy.bel).below (Gr W1 arr)
 have hy2 :=Wq (lab :=lab) (c :=12) h.dlt hy.is (Gr W1 arr)
 refine ⟨Tb h1.stm (by rw [hy.size];exact Nat.le_of_ble_eq_true rfl), ?_⟩
 obtain ⟨op,⟨xk,xn,xs⟩,s,nm,n,ao,k,c,he⟩ :=hy2.shape
 obtain rfl :=Value.agg.inj he
 exact ⟨_,h1.putW hy2⟩
theorem Yd {S :List TabD} (hS :GoodS S) {want :Int} {e y :E} {v cv :Value} {C :Nat} {w :World} (he :IsE (fun k=>k<C) w e v) (hl :IsL B8 (fun k=>k<C) w cv (Ax S)) (hC :C≤w.heap.size) (hg :geB 40 e=true) (hr :asR S want e= .ok y) :
  Calls Tryz.prog 29 #[cv,v, .int .i64 want] w fun r w'=> ∃arr,r= .returned (.tuple #[.agg arr, .int .i64 0]) ∧EvOk w w' y arr :=
 (Ly S hS want e v cv C w he hl hC hg).mono (by
  rintro r w' ⟨⟨u,rfl,hu⟩,hb⟩
  rw [hr] at hu
  obtain ⟨op,x,s,nm,n,ao,k,c,rfl,hE⟩ :=hu
  exact ⟨_,rfl, .of hE hb⟩)
theorem Wr {S :List TabD} (hS :GoodS S) {want :Int} {e :E} {m :Int} {v cv :Value} {C :Nat} {w :World} (he :IsE (fun k=>k<C) w e v) (hl :IsL B8 (fun k=>k<C) w cv (Ax S)) (hC :C≤w.heap.size) (hg :geB 40 e=true) (hr :asR S want e= .error m) :
  Calls Tryz.prog 29 #[cv,v, .int .i64 want] w fun r w'=>r= .returned (.tuple #[.agg (Ad 0 zero noW noW 0 (.slice none 0 0)), .int .i64 m]) ∧Below w.heap.size w w' :=
 (Ly S hS want e v cv C w he hl hC hg).mono (by
  rintro r w' ⟨⟨u,rfl,hu⟩,hb⟩
  rw [hr] at hu
  exact ⟨by rw [show u=_ from hu],hb⟩)
set_option maxRecDepth 100000 in
set_option maxHeartbeats 8000000 in
theorem Tt (X :Except Int Stm) (w W :World) (D :Nat) (lab :Nat→Nat) (cat :Array Value) (v :Lv) (st :Stm) (h :BdSt w W D lab cat v st) (hS :GoodS v.S) (hg :st.wher.opn≠0→geB 40 st.wher=true)
  (hX :X=match whR v.S st.wher with | .error m=> .error m | .ok y=> .ok {st with wher :=y}) (q0 q1 q5 v7 v8 q9 q10 q11 q12 q13 q14 v15 v16 :Value) (l :List Value) (hll :l.length=494) :
  Code.wp Tryz.prog (Db 13 (C4 Tryz.f7)) (bodyPost Tryz.prog Tryz.f7 (Dc X w)) ⟨frm w.heap.size q0 q1 q5 v7 v8 q9 q10 q11 q12 q13 q14 v15 v16 (.slice v.ko (Ax v.S).length v.kc) l,[]⟩ W :=by
 obtain ⟨q,rfl⟩ :=lay hll
 have hl :=E1 h.own
 have hv :v.op=st.wher.opn :=Wp h.wher
 have hE0 :=Hm h.wher
 obtain ⟨co,ro,so,fo,uo,wo,qo,cc,rc,sc,fc,uc,wk,wc,qc,op,xk,xn,xs,s,nm,n8,b,tn,ta,tl,tk,S,ko,kc,rv⟩ :=v
 simp only [Lv.wher] at hv hE0 hl hX hS
 simp only
 subst hv
 have k9 :=Aa h.stm (j :=9) rfl
 have ra :W.rangeAt (w.heap.size+1) 9 (Ad st.wher.opn ⟨xk,xn,xs⟩ s nm n8 (.slice wo wk wc)).toList :=Ga h.stm rfl
 conv=>arg 2;whnf
 simp only [frm,List.range,List.range.loop,List.map]
 clear hll
 by_cases h0 :st.wher.opn=0
 ·have HX :Hid (X= .ok st) :=by show _=_;rw [hX,whR,if_pos h0]
  have q1 : (st.wher.opn !=0) =false :=by rw [h0];rfl
  clear hX hg hE0 hl h0
  go_wp2_with (first | (refine wpList_load_row rfl 36 _ rfl (w.heap.size+1) ?_ 36 _ (0,0) _ h.stm Tryz.underlying36 ?_ ?_ ?_;exact rfl;exact rfl;exact Am) | (refine wpList_store_row rfl 36 _ _ rfl (w.heap.size+2) (Lv.arr ⟨co,ro,so,fo,uo,wo,qo,cc,rc,sc,fc,uc,wk,wc,qc,st.wher.opn,xk,xn,xs,s,nm,n8,b,tn,ta,tl,tk,S,ko,kc,rv⟩ st) ?_ ?_ 36 Ah ?_ ?_ ?_ ?_ ?_;exact rfl;exact rfl;exact h.room;exact Am;exact rfl;exact It))
  exact L1 h HX.out rfl rfl
 ·have q1 : (st.wher.opn !=0) =true :=by simpa using h0
  have HX :Hid _ :=hX
  have HW :Hid (whR S st.wher=asR S 3 st.wher) :=if_neg h0
  have hg0 :=hg h0
  clear hX hg h0
  cases hr :asR S 3 st.wher with
  | error m=>
   have HE :Hid (X= .error m) :=by show _=_;rw [HX.out,HW.out,hr]
   have HT2 :=Wr hS hE0 hl (Nat.le_refl _) hg0 hr
   have m1 : (m !=0) =true :=by rcases Ft hr with rfl | rfl<;>rfl
   clear hr HX HW hE0 hl hg0
   go_wp2_with (first | (refine wpList_load_mid rfl 34 _ rfl (w.heap.size+1) 9 ?_ _ _ ra Tryz.underlying34 rfl ?_ ?_;exact rfl;exact Ai) | (go_at_call 29;go_fit HT2;rintro e W1 ⟨rfl,hb1⟩;have h1 := (h.below hb1).below (Aq W1 (.cells (Ad 0 zero noW noW 0 (.slice none 0 0)) 34))) | (go_at_call 24;go_fit (Cr m _);rintro e W9 ⟨rfl,hb9⟩;have h9 :=h1.below hb9;have bR9 :=h9.room;have bel9 :=h9.bel) | (refine wpList_store_row rfl 36 _ _ rfl (w.heap.size+2) Ah ?_ ?_ 36 Ah ?_ ?_ ?_ ?_ ?_;exact rfl;exact rfl;exact bR9;exact Am;exact rfl;exact Bn))
   exact B9 bel9 bR9 m HE.out rfl rfl
  | ok y=>
   have HE :Hid (X= .ok {st with wher :=y}) :=by show _=_;rw [HX.out,HW.out,hr]
   have HT2 :=Yd hS hE0 hl (Nat.le_refl _) hg0 hr
   clear hr HX HW hE0 hl hg0
   go_wp2_with (first | (refine wpList_load_mid rfl 34 _ rfl (w.heap.size+1) 9 ?_ _ _ ra Tryz.underlying34 rfl ?_ ?_;exact rfl;exact Ai) | (go_at_call 29;go_fit HT2;rintro e W1 ⟨arr,rfl,hA⟩;have hA1 :=hA.box;have hA2 :=hA.one;have hA3 :=hA.info;have hG :=Hl W1 arr;have hth := (h.stepW hA).1;obtain ⟨v3,h3⟩ := (h.stepW hA).2;clear hA h) | (refine wpList_store_row rfl 34 _ _ rfl W1.heap.size arr ?_ ?_ 34 eZ ?_ ?_ ?_ ?_ ?_;exact rfl;exact rfl;exact hA1;exact hA3;exact (Option.some.inj (hA3.symm.trans Ai)).symm;exact hA2) | (refine wpList_load_row rfl 34 _ rfl W1.heap.size rfl 34 _ _ _ hG Tryz.underlying34 rfl hA3 ?_) | (refine wpList_load_row rfl 36 _ rfl (w.heap.size+1) ?_ 36 _ (0,0) _ h3.stm Tryz.underlying36 ?_ ?_ ?_;exact rfl;exact rfl;exact Am) | (refine wpList_store_row rfl 36 _ _ rfl (w.heap.size+2) (Lv.arr v3 {st with wher :=y}) ?_ ?_ 36 Ah ?_ ?_ ?_ ?_ ?_;exact rfl;exact rfl;exact h3.room;exact Am;exact rfl;exact It) | (refine wpList_store_mid rfl 34 _ _ rfl (w.heap.size+1) 9 arr ?_ ?_ ?_ ?_ ?_ ?_;exact rfl;exact rfl;exact hth;exact hA3;exact hA2))
   exact L1 h3 HE.out rfl rfl
end Go.Proofs.YtmgkcjiejmhgcaaGreatDoor

