/-
  2 texts of this proof in one, in build order: BKin, BMark.
-/
import Derived.Test.YtmgkcjiejmhgcaaGreatDoorJ34
set_option linter.unusedSimpArgs false
set_option linter.unusedVariables false
namespace Go.Proofs.YtmgkcjiejmhgcaaGreatDoor
open Go.RowKit Go.Maps
theorem Dp : (Tryz.prog.info? 25).map (·.size) =some 2 :=by kernel_rfl
structure TbOk (w w' :World) (u :Array Value) :Prop where
 size :u.size=2
 one :u.all (·.oneCell') =true
 bel :Below w.heap.size w w'
abbrev tbZ :Array Value := #[.string ⟨#[]⟩, .slice none 0 0]
theorem TbOk.info {w w' :World} {u :Array Value} (h :TbOk w w' u) : (Tryz.prog.info? 47).map (·.size) =some u.size :=by rw [h.size];exact Cj
theorem TbOk.box {w w' :World} {u :Array Value} (_ :TbOk w w' u) : (w'.alloc (.cells tbZ 47)).heap[w'.heap.size]? =some (.cells tbZ 47) :=Ab _ _
abbrev tbW (w' :World) (u :Array Value) :World := (w'.alloc (.cells tbZ 47)).setRow w'.heap.size u
theorem Jy (w' :World) (u :Array Value) :Below w'.heap.size w' (tbW w' u) :=Below.row (Aq _ _) (Nat.le_refl _) _
theorem Tu {T :List TabD} {tv iv :Value} (hiv :Dx iv) (s :Wd) {C :Nat} {w :World} (hl :IsL A4 (fun k=>k<C) w tv T) (hC :C≤w.heap.size) :
  Calls Tryz.prog 18 #[.agg #[tv,iv], .string s] w fun r w'=> ∃u :Array Value,r= .returned (.tuple #[.agg u, .bool (A5 T s).isSome]) ∧TbOk w w' u :=
 (F8 T tv iv hiv s C w hl hC).mono (by
  rintro r w' ⟨nmv,ao,n,c,there,rfl,hm,hb⟩
  refine ⟨#[.string nmv, .slice ao n c], ?_,rfl,by simp [Value.oneCell'],hb⟩
  cases hf :A5 T s<;>rw [hf] at hm<;>rw [hm.1] <;>rfl)
theorem Iz {ct :CatD} (h :Cq ct=true) :ct.tables.length≤3∧ct.indexes.length≤4 :=by
 simp only [Cq,Bool.and_eq_true,decide_eq_true_eq] at h
 exact ⟨h.1.1.1,h.1.1.2⟩
set_option maxRecDepth 100000 in
set_option maxHeartbeats 8000000 in
theorem Uq (ct :CatD) (te io :Option Addr) (tc ic C :Nat) (X :Except Int Stm) (w W :World) (D :Nat) (lab :Nat→Nat) (v :Lv) (st :Stm) (h :BdSt w W D lab #[.slice te ct.tables.length tc, .slice io ct.indexes.length ic] v st) (htl :IsL A4 (fun k=>k<C) w (.slice te ct.tables.length tc) ct.tables) (hil :IsL B7 (fun k=>k<C) w (.slice io ct.indexes.length ic) ct.indexes) (hC :C≤w.heap.size) (hen :EnvM w) (hcb :Cq ct=true) (hk :st.kind=1)
  (hX :X=Fi (Dw ct st.name st.cols) st) (q0 q1 q5 v7 v8 q9 q10 q11 q12 q13 q14 v15 v16 v17 :Value) (l :List Value) (hll :l.length=494) :
  Code.wp Tryz.prog (Db 12 (C4 Tryz.f7)) (bodyPost Tryz.prog Tryz.f7 (Dc X w)) ⟨frm w.heap.size q0 q1 q5 v7 v8 q9 q10 q11 q12 q13 q14 v15 v16 v17 l,[]⟩ W :=by
 obtain ⟨q,rfl⟩ :=lay hll
 clear hll
 have hv :=v
 have HI :=Jp ⟨st.name,st.cols⟩ (.slice v.co st.cols.length v.cc) W.heap.size W (E1 h.cols.isL) (Nat.le_refl _) (hen.next h.bel)
 rw [Hk] at HI
 have HT :=fun W1 (hb :Below W.heap.size W W1) =>Tu (iv := .slice io ct.indexes.length ic) ⟨_,_,_,rfl⟩ st.name (htl.keep (Ag ((h.bel.trans (hb.mono h.bel.size)).mono hC))) (Nat.le_trans hC (Nat.le_trans h.bel.size hb.size))
 have hlen := (Iz hcb).1
 have k0 := (Aa h.stm (j :=0) rfl).trans (congrArg (fun z=>some (Value.int .i64 z)) hk)
 have k1 :W.cell? ⟨w.heap.size+1,1,none⟩ =some (.string st.name) :=Aa h.stm rfl
 have k4 :W.cell? ⟨w.heap.size+1,4,none⟩ =some (.slice v.co st.cols.length v.cc) :=Aa h.stm rfl
 have HX :Hid _ :=hX
 clear hX hk hil hcb hen hv
 conv=>arg 2;whnf
 simp only [frm,List.range,List.range.loop,List.map]
 cases hb :Cv ⟨st.name,st.cols⟩
 ·have HE :Hid (X= .error 1) :=by show _=_;rw [HX.out,Dw,if_pos hb];rfl
  rw [hb] at HI
  clear hb HT htl
  go_wp2_with (first | (go_at_call 14;go_fit HI;rintro e W1 ⟨rfl,hb1⟩;have h1 :=h.below hb1) | (go_at_call 24;go_fit (Cr 1 _);rintro e W9 ⟨rfl,hb9⟩;have h9 :=h1.below hb9;have bR9 :=h9.room;have bel9 :=h9.bel) | (refine wpList_store_row rfl 36 _ _ rfl (w.heap.size+2) Ah ?_ ?_ 36 Ah ?_ ?_ ?_ ?_ ?_;exact rfl;exact rfl;exact bR9;exact Am;exact rfl;exact Bn))
  exact B9 bel9 bR9 1 HE.out rfl rfl
 ·rw [hb] at HI
  cases ht : (A5 ct.tables st.name).isSome
  ·by_cases h3 :ct.tables.length=3
   ·have HE :Hid (X= .error 8) :=by show _=_;rw [HX.out,Dw,if_neg (by rw [hb];decide),if_neg (by rw [ht];decide),if_pos (by omega)];rfl
    rw [ht] at HT
    have q3 : ((ct.tables.length :Int) ==3) =true :=by rw [h3];rfl
    clear hb ht h3 HX hlen htl
    go_wp2_with (first | (go_at_call 14;go_fit HI;rintro e W1 ⟨rfl,hb1⟩;have h1 :=h.below hb1;have HT1 :=HT _ hb1;have k11 :=Aa h1.stm (j :=1) rfl) | (refine wpList_load_row rfl 25 _ rfl w.heap.size ?_ 25 _ (0,0) _ h1.cat Tryz.underlying25 ?_ ?_ ?_;exact rfl;exact rfl;exact Dp) | (go_at_call 18;go_fit HT1;rintro e W2 ⟨ub,rfl,hub⟩;have hub1 :=hub.box;have hub2 :=hub.info;have hub3 :Hid (2=ub.size) :=hub.size.symm;have hub4 :=hub.one;have h2 := (h1.below hub.bel).below (Jy W2 ub);have cc0 : (tbW W2 ub).cell? ⟨w.heap.size,0,none⟩ =some (.slice te ct.tables.length tc) :=Aa h2.cat rfl) | (refine wpList_store_row rfl 47 _ _ rfl W2.heap.size ub ?_ ?_ 47 #[.string ⟨#[]⟩, .slice none 0 0] ?_ ?_ ?_ ?_ ?_;exact rfl;exact rfl;exact hub1;exact hub2;exact hub3.out;exact hub4) | (go_at_call 24;go_fit (Cr 8 _);rintro e W9 ⟨rfl,hb9⟩;have h9 :=h2.below hb9;have bR9 :=h9.room;have bel9 :=h9.bel) | (refine wpList_store_row rfl 36 _ _ rfl (w.heap.size+2) Ah ?_ ?_ 36 Ah ?_ ?_ ?_ ?_ ?_;exact rfl;exact rfl;exact bR9;exact Am;exact rfl;exact Bn))
    exact B9 bel9 bR9 8 HE.out rfl rfl
   ·have HE :Hid (X= .ok st) :=by show _=_;rw [HX.out,Dw,if_neg (by rw [hb];decide),if_neg (by rw [ht];decide),if_neg (by omega)];rfl
    rw [ht] at HT
    have q3 : ((ct.tables.length :Int) ==3) =false :=by simp;omega
    clear hb ht h3 HX hlen htl
    go_wp2_with (first | (go_at_call 14;go_fit HI;rintro e W1 ⟨rfl,hb1⟩;have h1 :=h.below hb1;have HT1 :=HT _ hb1;have k11 :=Aa h1.stm (j :=1) rfl) | (refine wpList_load_row rfl 25 _ rfl w.heap.size ?_ 25 _ (0,0) _ h1.cat Tryz.underlying25 ?_ ?_ ?_;exact rfl;exact rfl;exact Dp) | (go_at_call 18;go_fit HT1;rintro e W2 ⟨ub,rfl,hub⟩;have hub1 :=hub.box;have hub2 :=hub.info;have hub3 :Hid (2=ub.size) :=hub.size.symm;have hub4 :=hub.one;have h2 := (h1.below hub.bel).below (Jy W2 ub);have cc0 : (tbW W2 ub).cell? ⟨w.heap.size,0,none⟩ =some (.slice te ct.tables.length tc) :=Aa h2.cat rfl) | (refine wpList_store_row rfl 47 _ _ rfl W2.heap.size ub ?_ ?_ 47 #[.string ⟨#[]⟩, .slice none 0 0] ?_ ?_ ?_ ?_ ?_;exact rfl;exact rfl;exact hub1;exact hub2;exact hub3.out;exact hub4) | (refine wpList_load_row rfl 36 _ rfl (w.heap.size+1) ?_ 36 _ (0,0) _ h2.stm Tryz.underlying36 ?_ ?_ ?_;exact rfl;exact rfl;exact Am) | (refine wpList_store_row rfl 36 _ _ rfl (w.heap.size+2) (Lv.arr v st) ?_ ?_ 36 Ah ?_ ?_ ?_ ?_ ?_;exact rfl;exact rfl;exact h2.room;exact Am;exact rfl;exact It))
    exact L1 h2 HE.out rfl rfl
  ·have HE :Hid (X= .error 4) :=by show _=_;rw [HX.out,Dw,if_neg (by rw [hb];decide),if_pos ht];rfl
   rw [ht] at HT
   clear hb ht HX hlen htl
   go_wp2_with (first | (go_at_call 14;go_fit HI;rintro e W1 ⟨rfl,hb1⟩;have h1 :=h.below hb1;have HT1 :=HT _ hb1;have k11 :=Aa h1.stm (j :=1) rfl) | (refine wpList_load_row rfl 25 _ rfl w.heap.size ?_ 25 _ (0,0) _ h1.cat Tryz.underlying25 ?_ ?_ ?_;exact rfl;exact rfl;exact Dp) | (go_at_call 18;go_fit HT1;rintro e W2 ⟨ub,rfl,hub⟩;have hub1 :=hub.box;have hub2 :=hub.info;have hub3 :Hid (2=ub.size) :=hub.size.symm;have hub4 :=hub.one;have h2 := (h1.below hub.bel).below (Jy W2 ub);have cc0 : (tbW W2 ub).cell? ⟨w.heap.size,0,none⟩ =some (.slice te ct.tables.length tc) :=Aa h2.cat rfl) | (refine wpList_store_row rfl 47 _ _ rfl W2.heap.size ub ?_ ?_ 47 #[.string ⟨#[]⟩, .slice none 0 0] ?_ ?_ ?_ ?_ ?_;exact rfl;exact rfl;exact hub1;exact hub2;exact hub3.out;exact hub4) | (go_at_call 24;go_fit (Cr 4 _);rintro e W9 ⟨rfl,hb9⟩;have h9 :=h2.below hb9;have bR9 :=h9.room;have bel9 :=h9.bel) | (refine wpList_store_row rfl 36 _ _ rfl (w.heap.size+2) Ah ?_ ?_ 36 Ah ?_ ?_ ?_ ?_ ?_;exact rfl;exact rfl;exact bR9;exact Am;exact rfl;exact Bn))
   exact B9 bel9 bR9 4 HE.out rfl rfl
set_option maxRecDepth 100000 in
set_option maxHeartbeats 8000000 in
theorem Ye (ct :CatD) (te io :Option Addr) (tc ic C :Nat) (X :Except Int Stm) (w W :World) (D :Nat) (lab :Nat→Nat) (v :Lv) (st :Stm) (h :BdSt w W D lab #[.slice te ct.tables.length tc, .slice io ct.indexes.length ic] v st) (htl :IsL A4 (fun k=>k<C) w (.slice te ct.tables.length tc) ct.tables) (hil :IsL B7 (fun k=>k<C) w (.slice io ct.indexes.length ic) ct.indexes) (hC :C≤w.heap.size) (hen :EnvM w) (hcb :Cq ct=true) (hk :st.kind=3)
  (hX :X=Fi (Gi ct st.name) st) (q0 q1 q5 v7 v8 q9 q10 q11 q12 q13 q14 v15 v16 v17 :Value) (l :List Value) (hll :l.length=494) :
  Code.wp Tryz.prog (Db 12 (C4 Tryz.f7)) (bodyPost Tryz.prog Tryz.f7 (Dc X w)) ⟨frm w.heap.size q0 q1 q5 v7 v8 q9 q10 q11 q12 q13 q14 v15 v16 v17 l,[]⟩ W :=by
 obtain ⟨q,rfl⟩ :=lay hll
 clear hll
 have HT1 :=Tu (iv := .slice io ct.indexes.length ic) ⟨_,_,_,rfl⟩ st.name (htl.keep (Ag (h.bel.mono hC))) (Nat.le_trans hC h.bel.size)
 have k0 := (Aa h.stm (j :=0) rfl).trans (congrArg (fun z=>some (Value.int .i64 z)) hk)
 have k1 :W.cell? ⟨w.heap.size+1,1,none⟩ =some (.string st.name) :=Aa h.stm rfl
 have HX :Hid _ :=hX
 clear hX hk hil hcb hen htl
 conv=>arg 2;whnf
 simp only [frm,List.range,List.range.loop,List.map]
 cases ht : (A5 ct.tables st.name).isSome
 ·have HE :Hid (X= .error 3) :=by show _=_;rw [HX.out,Gi,if_neg (by rw [ht];decide)];rfl
  rw [ht] at HT1
  clear ht HX
  go_wp2_with (first | (refine wpList_load_row rfl 25 _ rfl w.heap.size ?_ 25 _ (0,0) _ h.cat Tryz.underlying25 ?_ ?_ ?_;exact rfl;exact rfl;exact Dp) | (go_at_call 18;go_fit HT1;rintro e W2 ⟨ub,rfl,hub⟩;have hub1 :=hub.box;have hub2 :=hub.info;have hub3 :Hid (2=ub.size) :=hub.size.symm;have hub4 :=hub.one;have h2 := (h.below hub.bel).below (Jy W2 ub);have cc0 : (tbW W2 ub).cell? ⟨w.heap.size,0,none⟩ =some (.slice te ct.tables.length tc) :=Aa h2.cat rfl) | (refine wpList_store_row rfl 47 _ _ rfl W2.heap.size ub ?_ ?_ 47 #[.string ⟨#[]⟩, .slice none 0 0] ?_ ?_ ?_ ?_ ?_;exact rfl;exact rfl;exact hub1;exact hub2;exact hub3.out;exact hub4) | (go_at_call 24;go_fit (Cr 3 _);rintro e W9 ⟨rfl,hb9⟩;have h9 :=h2.below hb9;have bR9 :=h9.room;have bel9 :=h9.bel) | (refine wpList_store_row rfl 36 _ _ rfl (w.heap.size+2) Ah ?_ ?_ 36 Ah ?_ ?_ ?_ ?_ ?_;exact rfl;exact rfl;exact bR9;exact Am;exact rfl;exact Bn))
  exact B9 bel9 bR9 3 HE.out rfl rfl
 ·have HE :Hid (X= .ok st) :=by show _=_;rw [HX.out,Gi,if_pos ht];rfl
  rw [ht] at HT1
  clear ht HX
  go_wp2_with (first | (refine wpList_load_row rfl 25 _ rfl w.heap.size ?_ 25 _ (0,0) _ h.cat Tryz.underlying25 ?_ ?_ ?_;exact rfl;exact rfl;exact Dp) | (go_at_call 18;go_fit HT1;rintro e W2 ⟨ub,rfl,hub⟩;have hub1 :=hub.box;have hub2 :=hub.info;have hub3 :Hid (2=ub.size) :=hub.size.symm;have hub4 :=hub.one;have h2 := (h.below hub.bel).below (Jy W2 ub);have cc0 : (tbW W2 ub).cell? ⟨w.heap.size,0,none⟩ =some (.slice te ct.tables.length tc) :=Aa h2.cat rfl) | (refine wpList_store_row rfl 47 _ _ rfl W2.heap.size ub ?_ ?_ 47 #[.string ⟨#[]⟩, .slice none 0 0] ?_ ?_ ?_ ?_ ?_;exact rfl;exact rfl;exact hub1;exact hub2;exact hub3.out;exact hub4) | (refine wpList_load_row rfl 36 _ rfl (w.heap.size+1) ?_ 36 _ (0,0) _ h2.stm Tryz.underlying36 ?_ ?_ ?_;exact rfl;exact rfl;exact Am) | (refine wpList_store_row rfl 36 _ _ rfl (w.heap.size+2) (Lv.arr v st) ?_ ?_ 36 Ah ?_ ?_ ?_ ?_ ?_;exact rfl;exact rfl;exact h2.room;exact Am;exact rfl;exact It))
  exact L1 h2 HE.out rfl rfl
end Go.Proofs.YtmgkcjiejmhgcaaGreatDoor

namespace Go.Proofs.YtmgkcjiejmhgcaaGreatDoor
open Go.RowKit Go.Maps
theorem L2 {C :Nat} {w W W' :World} (h1 :Below w.heap.size w W) (h2 :Below w.heap.size w W') (hC :C≤w.heap.size) (hs :W.heap.size≤W'.heap.size) :Keeps (fun k=>k<C) W W' :=
 ⟨hs,fun k hk _=> (h2.block k (Nat.lt_of_lt_of_le hk hC)).trans (h1.block k (Nat.lt_of_lt_of_le hk hC)).symm⟩
def Mf (ct :CatD) (s :Wd) (C :Nat) (W :World) (v :Lv) :Prop :=match A5 ct.tables s with
 | some t=>v.tn=t.name∧IsL Bg (fun k=>k<C) W (.slice v.ta v.tl v.tk) t.cols
 | none=>v.tn=noW∧v.ta=none∧v.tl=0∧v.tk=0
structure RowIn (w :World) (b off n :Nat) (cs :List Value) :Prop where
 range :w.rangeAt b off cs
 len :cs.length=n
 one :cs.toArray.all (·.oneCell') =true
theorem Zy {F :Nat→Prop} {w :World} {ao :Option Addr} {n c :Nat} {l :List IdxD} (h :IsL B7 F w (.slice ao n c) l) {k :Nat} {x :IdxD} (hx :l[k]? =some x) : ∃b off cs,ao=some ⟨b,off,none⟩ ∧RowIn w b (off+k*3) 3 cs∧cs[0]? =some (.string x.name) :=by
 obtain ⟨b,off,cs,h1,_,_,rfl,h5⟩ :=Av h hx
 exact ⟨b,off,_,h1,⟨h5,rfl,by simp [Value.oneCell']⟩,rfl⟩
set_option maxRecDepth 100000 in
set_option maxHeartbeats 8000000 in
theorem Yf (ct :CatD) (te io :Option Addr) (tc ic C :Nat) (X :Except Int Stm) (w W :World) (D :Nat) (lab :Nat→Nat) (v :Lv) (st :Stm) (h :BdSt w W D lab #[.slice te ct.tables.length tc, .slice io ct.indexes.length ic] v st) (htl :IsL A4 (fun k=>k<C) w (.slice te ct.tables.length tc) ct.tables) (hil :IsL B7 (fun k=>k<C) w (.slice io ct.indexes.length ic) ct.indexes) (hC :C≤w.heap.size) (hen :EnvM w) (hcb :Cq ct=true) (ht :Mf ct st.table C W v) (hk :st.kind=2)
  (hX :X=Fi (Hw ct st.name st.table st.col) st) (q0 q1 q5 v7 v8 q9 q10 q11 q12 q13 q14 v17 :Value) (l :List Value) (hll :l.length=494) :
  Code.wp Tryz.prog (Db 12 (C4 Tryz.f7)) (bodyPost Tryz.prog Tryz.f7 (Dc X w)) ⟨frm w.heap.size q0 q1 q5 v7 v8 q9 q10 q11 q12 q13 q14 (.pointer (some ⟨v.b,0,none⟩)) (.bool (A5 ct.tables st.table).isSome) v17 l,[]⟩ W :=by
 obtain ⟨q,rfl⟩ :=lay hll
 clear hll
 have HN :=Gx st.name W (hen.next h.bel)
 have hlen := (Iz hcb).2
 have k0 := (Aa h.stm (j :=0) rfl).trans (congrArg (fun z=>some (Value.int .i64 z)) hk)
 have k1 :W.cell? ⟨w.heap.size+1,1,none⟩ =some (.string st.name) :=Aa h.stm rfl
 have HX :Hid _ :=hX
 clear hX hk hcb hen htl
 conv=>arg 2;whnf
 simp only [frm,List.range,List.range.loop,List.map]
 cases hn :nm st.name
 ·have HE :Hid (X= .error 1) :=by show _=_;rw [HX.out,Hw,if_pos hn];rfl
  rw [hn] at HN
  clear hn hil ht
  go_wp2_with (first | (go_at_call 27;go_fit HN;rintro e W1 ⟨rfl,hb1⟩;have h1 :=h.below hb1) | (go_at_call 24;go_fit (Cr 1 _);rintro e W9 ⟨rfl,hb9⟩;have h9 :=h1.below hb9;have bR9 :=h9.room;have bel9 :=h9.bel) | (refine wpList_store_row rfl 36 _ _ rfl (w.heap.size+2) Ah ?_ ?_ 36 Ah ?_ ?_ ?_ ?_ ?_;exact rfl;exact rfl;exact bR9;exact Am;exact rfl;exact Bn))
  exact B9 bel9 bR9 1 HE.out rfl rfl
 ·rw [hn] at HN
  have HY :Hid (X=Fi (if E8 ct.tables st.table st.col=false then 3 else if A1 (atI ct.indexes (Eg st.name)) 0 ct.indexes.length then 4 else if 4≤ct.indexes.length then 8 else 0) st) :=by show _=_;rw [HX.out,Hw,if_neg (by rw [hn];decide)]
  clear hn HX
  cases hf :A5 ct.tables st.table with
  | none=>
   have HE :Hid (X= .error 3) :=by show _=_;rw [HY.out,E8,hf];rfl
   clear ht hil HY hf
   rw [Option.isSome_none]
   go_wp2_with (first | (go_at_call 27;go_fit HN;rintro e W1 ⟨rfl,hb1⟩;have h2 :=h.below hb1) | (go_at_call 24;go_fit (Cr 3 _);rintro e W9 ⟨rfl,hb9⟩;have h9 :=h2.below hb9;have bR9 :=h9.room;have bel9 :=h9.bel) | (refine wpList_store_row rfl 36 _ _ rfl (w.heap.size+2) Ah ?_ ?_ 36 Ah ?_ ?_ ?_ ?_ ?_;exact rfl;exact rfl;exact bR9;exact Am;exact rfl;exact Bn))
   exact B9 bel9 bR9 3 HE.out rfl rfl
  | some t=>
   rw [Mf,hf] at ht
   obtain ⟨ht1,ht2⟩ :=ht
   have HC :=fun W1 (hb :Below W.heap.size W W1) =>H9 t.cols v.tn (.slice v.ta v.tl v.tk) st.col C W1 (ht2.keep (Ar hb))
   have HH :Hid (E8 ct.tables st.table st.col=decide (0≤Bk t.cols st.col)) :=by show _=_;rw [E8,hf]
   rw [Option.isSome_some]
   clear hf ht1 ht2
   generalize Bk t.cols st.col=ca at*
   by_cases hca :ca<0
   ·have HE :Hid (X= .error 3) :=by show _=_;rw [HY.out,HH.out,if_pos (by simp;omega)];rfl
    clear hil HY HH
    go_wp2_with (first | (go_at_call 27;go_fit HN;rintro e W1 ⟨rfl,hb1⟩;have h1 :=h.below hb1;have HC1 :=HC _ hb1;have k3 :W1.cell? ⟨w.heap.size+1,3,none⟩ =some (.string st.col) :=Aa h1.stm rfl) | (refine Cx ?_ 47 _ rfl v.b ?_ 47 _ (0,0) _ h1.tab Tryz.underlying47 ?_ ?_ ?_;exact rfl;exact rfl;exact rfl;exact Cj) | (go_at_call 16;go_fit HC1;rintro e W2 ⟨rfl,hb2⟩;have h2 :=h1.below hb2) | (go_at_call 24;go_fit (Cr 3 _);rintro e W9 ⟨rfl,hb9⟩;have h9 :=h2.below hb9;have bR9 :=h9.room;have bel9 :=h9.bel) | (refine wpList_store_row rfl 36 _ _ rfl (w.heap.size+2) Ah ?_ ?_ 36 Ah ?_ ?_ ?_ ?_ ?_;exact rfl;exact rfl;exact bR9;exact Am;exact rfl;exact Bn))
    exact B9 bel9 bR9 3 HE.out rfl rfl
   ·have HZ :Hid (X=Fi (if A1 (atI ct.indexes (Eg st.name)) 0 ct.indexes.length then 4 else if 4≤ct.indexes.length then 8 else 0) st) :=by show _=_;rw [HY.out,HH.out,if_neg (by simp;omega)]
    clear HY HH
    go_upto_region 74 with (first | (go_at_call 27;go_fit HN;rintro e W1 ⟨rfl,hb1⟩;have h1 :=h.below hb1;have HC1 :=HC _ hb1;have k3 :W1.cell? ⟨w.heap.size+1,3,none⟩ =some (.string st.col) :=Aa h1.stm rfl) | (refine Cx ?_ 47 _ rfl v.b ?_ 47 _ (0,0) _ h1.tab Tryz.underlying47 ?_ ?_ ?_;exact rfl;exact rfl;exact rfl;exact Cj) | (go_at_call 16;go_fit HC1;rintro e W2 ⟨rfl,hb2⟩;have h2 :=h1.below hb2;have c1 :W2.cell? ⟨w.heap.size,1,none⟩ =some (.slice io ct.indexes.length ic) :=Aa h2.cat rfl))
    clear HC HC1 k3 HN k0 k1 h1 h hb1 hb2
    go_wp2_with fail
    go_loopw [317] (fun iv wr=> ∃k :Nat,k≤ct.indexes.length∧iv= .int .i64 k∧Hid ((ct.indexes.take k).any (Eg st.name) =false) ∧BdSt w wr D lab #[.slice te ct.tables.length tc, .slice io ct.indexes.length ic] v st) (fun iv _=>ct.indexes.length - (intOf iv).toNat)
    case atStart=>exact ⟨0,Nat.zero_le _,rfl,rfl,h2⟩
    case round=>
     obtain ⟨k,hk,rfl,HK,hS⟩ :=hrel
     obtain ⟨V,hV⟩ : ∃V,V=wr := ⟨_,rfl⟩
     subst hV
     clear h2 c1
     by_cases hlt :k<ct.indexes.length
     ·obtain ⟨x,hx⟩ : ∃x,ct.indexes[k]? =some x := ⟨_,List.getElem?_eq_getElem hlt⟩
      have HT :Hid ((ct.indexes.take (k+1)).any (Eg st.name) =Eg st.name x) :=by show _=_;rw [List.take_add_one,hx,List.any_append,HK.out];simp
      have HA :Hid (Eg st.name x=true→A1 (atI ct.indexes (Eg st.name)) 0 ct.indexes.length=true) :=fun e=>by rw [D9,List.any_eq_true];exact ⟨x,List.mem_of_getElem? hx,e⟩
      obtain ⟨b,off,cs,hso,hr,hc0⟩ :=Zy (hil.keep (Ag (hS.bel.mono hC))) hx
      cases hso
      have hr1 :=hr.range
      have hr2 : (Tryz.prog.info? 64).map (·.size) =some cs.length :=by rw [hr.len];exact Hf
      have hr4 : (Tryz.prog.info? 64).map (·.size) =some cs.toArray.size :=hr2
      have hr5 :Hid (3=cs.toArray.size) :=hr.len.symm
      have hr3 :=hr.one
      have hbox :=Ab V (.cells #[.string ⟨#[]⟩, .string ⟨#[]⟩, .string ⟨#[]⟩] 64)
      have hS2 :=hS.below (Below.row (Aq V (.cells #[.string ⟨#[]⟩, .string ⟨#[]⟩, .string ⟨#[]⟩] 64)) (Nat.le_refl _) cs.toArray)
      have x0 : ((V.alloc (.cells #[.string ⟨#[]⟩, .string ⟨#[]⟩, .string ⟨#[]⟩] 64)).setRow V.heap.size cs.toArray).cell? ⟨V.heap.size,0,none⟩ =some (.string x.name) :=Aa (An hbox) (by simpa using hc0)
      have n1 : ((V.alloc (.cells #[.string ⟨#[]⟩, .string ⟨#[]⟩, .string ⟨#[]⟩] 64)).setRow V.heap.size cs.toArray).cell? ⟨w.heap.size+1,1,none⟩ =some (.string st.name) :=Aa hS2.stm rfl
      have j0 : (0 :Int) ≤ (k :Int) :=by omega
      have j1 : (k :Int) < (ct.indexes.length :Int) :=by omega
      have heq : (x.name.toList==st.name.toList) =Eg st.name x :=Bu _ _
      generalize Eg st.name x=bx at*
      clear hx hr hc0
      cases bx
      ·go_wp2_with (first | (refine wpList_load_mid rfl 64 _ rfl b (off+k*3) ?_ cs _ hr1 Tryz.underlying64 rfl ?_ ?_;exact rfl;exact hr2) | (refine wpList_store_row rfl 64 _ _ rfl V.heap.size cs.toArray ?_ ?_ 64 #[.string ⟨#[]⟩, .string ⟨#[]⟩, .string ⟨#[]⟩] ?_ ?_ ?_ ?_ ?_;exact rfl;exact rfl;exact hbox;exact hr4;exact hr5.out;exact hr3))
       go_roundw
       case rel=>exact ⟨k+1,by omega,by go_num,HT.out,hS2⟩
       case measure=>simp [intOf];omega
      ·have HE :Hid (X= .error 4) :=by show _=_;rw [HZ.out,if_pos (HA.out rfl)];rfl
       clear HZ HA HT HK
       go_wp2_with (first | (refine wpList_load_mid rfl 64 _ rfl b (off+k*3) ?_ cs _ hr1 Tryz.underlying64 rfl ?_ ?_;exact rfl;exact hr2) | (refine wpList_store_row rfl 64 _ _ rfl V.heap.size cs.toArray ?_ ?_ 64 #[.string ⟨#[]⟩, .string ⟨#[]⟩, .string ⟨#[]⟩] ?_ ?_ ?_ ?_ ?_;exact rfl;exact rfl;exact hbox;exact hr4;exact hr5.out;exact hr3) | (go_at_call 24;go_fit (Cr 4 _);rintro e W9 ⟨rfl,hb9⟩;have h9 :=hS2.below hb9;have bR9 :=h9.room;have bel9 :=h9.bel) | (refine wpList_store_row rfl 36 _ _ rfl (w.heap.size+2) Ah ?_ ?_ 36 Ah ?_ ?_ ?_ ?_ ?_;exact rfl;exact rfl;exact bR9;exact Am;exact rfl;exact Bn))
       exact B9 bel9 bR9 4 HE.out rfl rfl
     ·have hkn :k=ct.indexes.length :=by omega
      subst hkn
      have j1 : ¬ ((ct.indexes.length :Int) < (ct.indexes.length :Int)) :=by omega
      have HW :Hid (X=Fi (if 4≤ct.indexes.length then 8 else 0) st) :=by show _=_;rw [HZ.out,D9,if_neg (by rw [←List.take_length (l :=ct.indexes),HK.out];decide)]
      have c1 :V.cell? ⟨w.heap.size,1,none⟩ =some (.slice io ct.indexes.length ic) :=Aa hS.cat rfl
      clear HZ HK
      by_cases h4 :ct.indexes.length=4
      ·have HE :Hid (X= .error 8) :=by show _=_;rw [HW.out,if_pos (by omega)];rfl
       have q3 : ((ct.indexes.length :Int) ==4) =true :=by rw [h4];rfl
       clear h4 HW
       go_wp2_with (first | (go_at_call 24;go_fit (Cr 8 _);rintro e W9 ⟨rfl,hb9⟩;have h9 :=hS.below hb9;have bR9 :=h9.room;have bel9 :=h9.bel) | (refine wpList_store_row rfl 36 _ _ rfl (w.heap.size+2) Ah ?_ ?_ 36 Ah ?_ ?_ ?_ ?_ ?_;exact rfl;exact rfl;exact bR9;exact Am;exact rfl;exact Bn))
       exact B9 bel9 bR9 8 HE.out rfl rfl
      ·have HE :Hid (X= .ok st) :=by show _=_;rw [HW.out,if_neg (by omega)];rfl
       have q3 : ((ct.indexes.length :Int) ==4) =false :=by simp;omega
       clear h4 HW
       go_wp2_with (first | (refine wpList_load_row rfl 36 _ rfl (w.heap.size+1) ?_ 36 _ (0,0) _ hS.stm Tryz.underlying36 ?_ ?_ ?_;exact rfl;exact rfl;exact Am) | (refine wpList_store_row rfl 36 _ _ rfl (w.heap.size+2) (Lv.arr v st) ?_ ?_ 36 Ah ?_ ?_ ?_ ?_ ?_;exact rfl;exact rfl;exact hS.room;exact Am;exact rfl;exact It))
       exact L1 hS HE.out rfl rfl
end Go.Proofs.YtmgkcjiejmhgcaaGreatDoor

