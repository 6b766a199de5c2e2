/-
  2 texts of this proof in one, in build order: BMid, BSelL.
-/
import Derived.Test.YtmgkcjiejmhgcaaGreatDoorJ36
import Derived.Test.YtmgkcjiejmhgcaaGreatDoorJ46
set_option linter.unusedSimpArgs false
set_option linter.unusedVariables false
namespace Go.Proofs.YtmgkcjiejmhgcaaGreatDoor
open Go.RowKit Go.Maps
def Gb (ct :CatD) (s :Wd) :TabD := (A5 ct.tables s).getD ⟨noW,[]⟩
theorem Abc {ct :CatD} {tv iv :Value} (hiv :Dx iv) (s :Wd) {C :Nat} {w :World} (hl :IsL A4 (fun k=>k<C) w tv ct.tables) (hC :C≤w.heap.size) :
  Calls Tryz.prog 18 #[.agg #[tv,iv], .string s] w fun r w'=> ∃u :Tv,r= .returned (.tuple #[.agg u.arr, .bool (A5 ct.tables s).isSome]) ∧ (A4.R (fun k=>k<C) w' (Gb ct s) u.arr.toList∧ (A5 ct.tables s=none→u.nm=noW∧u.ao=none∧u.n=0∧u.c=0)) ∧Below w.heap.size w w' :=
 (F8 ct.tables tv iv hiv s C w hl hC).mono (by
  rintro r w' ⟨nmv,ao,n,c,there,rfl,hm,hb⟩
  refine ⟨⟨nmv,ao,n,c⟩, ?_, ?_,hb⟩
  ·cases hf :A5 ct.tables s<;>rw [hf] at hm<;>rw [hm.1] <;>rfl
  ·rw [Gb]
   cases hf :A5 ct.tables s with
   | none=>
    rw [hf] at hm
    obtain ⟨_,rfl,rfl,rfl,rfl⟩ :=hm
    exact ⟨⟨_,rfl,IsL.nil _ _ _⟩,fun _=> ⟨rfl,rfl,rfl,rfl⟩⟩
   | some t=>
    rw [hf] at hm
    obtain ⟨_,rfl,h3⟩ :=hm
    exact ⟨⟨_,rfl,h3⟩,fun h=>by cases h⟩)
set_option maxRecDepth 100000 in
set_option maxHeartbeats 8000000 in
theorem Z5 (ct :CatD) (te io :Option Addr) (tc ic C :Nat) (X :Except Int Stm) (w W :World) (st :Stm) (arr0 :Array Value) (hz0 :arr0.size=20) (hone0 :arr0.all (·.oneCell') =true) (hcat :W.heap[w.heap.size]? =some (.cells #[.slice te ct.tables.length tc, .slice io ct.indexes.length ic] 25)) (hstm :W.heap[w.heap.size+1]? =some (.cells arr0 36)) (hroom :W.heap[w.heap.size+2]? =some (.cells Ah 36)) (hbel :Below w.heap.size w W) (hbig :w.heap.size+3≤W.heap.size)
  (htl :IsL A4 (fun k=>k<C) w (.slice te ct.tables.length tc) ct.tables) (hC :C≤w.heap.size) (hR :Abs.R (fun k=>k<C) W st arr0.toList) (hf :FitP st) (hcl : (Gb ct st.table).cols.length≤1000000)
  (hgo : ∀ (v :Lv) (lab :Nat→Nat) (W4 :World) (q0 q1 q5 v7 v8 q9 q10 q11 q12 q13 q14 :Value) (l :List Value),l.length=494→BdSt w W4 W.heap.size lab #[.slice te ct.tables.length tc, .slice io ct.indexes.length ic] v st→Mf ct st.table C W4 v→v.S= [Gb ct st.table] →
   Code.wp Tryz.prog (Db 12 (C4 Tryz.f7)) (bodyPost Tryz.prog Tryz.f7 (Dc X w)) ⟨frm w.heap.size q0 q1 q5 v7 v8 q9 q10 q11 q12 q13 q14 (.pointer (some ⟨v.b,0,none⟩)) (.bool (A5 ct.tables st.table).isSome) (.slice v.ko (Ax v.S).length v.kc) l,[]⟩ W4)
  (q0 q1 q5 v7 v8 q9 q10 q11 q12 q13 q14 v15 v16 v17 :Value) (l :List Value) (hll :l.length=494) :
  Code.wp Tryz.prog (Db 9 (C4 Tryz.f7)) (bodyPost Tryz.prog Tryz.f7 (Dc X w)) ⟨frm w.heap.size q0 q1 q5 v7 v8 q9 q10 q11 q12 q13 q14 v15 v16 v17 l,[]⟩ W :=by
 obtain ⟨q,rfl⟩ :=lay hll
 clear hll
 have HCP :=Tx st arr0 _ W hR hf
 have hi0 :=Iy hz0
 have HG :Hid _ :=hgo
 have HZ :Hid (arr0.size=20) :=hz0
 have HTL :Hid _ :=htl
 clear hgo hR hf hz0 htl
 conv=>arg 2;whnf
 refine wp_seq_k fun K1 hK1=> ?_
 have HK1 :Hid _ :=hK1
 clear hK1
 simp only [frm,List.range,List.range.loop,List.map]
 go_wp2_with (first | (refine wpList_load_row rfl 36 _ rfl (w.heap.size+1) ?_ 36 _ (0,0) _ hstm Tryz.underlying36 ?_ ?_ ?_;exact rfl;exact rfl;exact hi0) | (go_at_call 5;go_fit HCP;rintro e W1 ⟨v,rfl,lab,hcp⟩;have hstm1 := (hcp.bel.block (w.heap.size+1) (by omega)).trans hstm) | (refine wpList_store_row rfl 36 _ _ rfl (w.heap.size+1) (v.arr st) ?_ ?_ 36 arr0 ?_ ?_ ?_ ?_ ?_;exact rfl;exact rfl;exact hstm1;exact Am;exact HZ.out;exact It))
 refine HK1.out _ _ ?_
 simp only [Act.put]
 refine wp_seq_k fun K2 hK2=> ?_
 have HK2 :Hid _ :=hK2
 have hs1 :=hcp.bel.size
 have hstm2 : (W1.setRow (w.heap.size+1) (v.arr st)).heap[w.heap.size+1]? =some (.cells (v.arr st) 36) :=An hstm1
 have k2 : (W1.setRow (w.heap.size+1) (v.arr st)).cell? ⟨w.heap.size+1,2,none⟩ =some (.string st.table) :=Aa hstm2 rfl
 have hcat2 : (W1.setRow (w.heap.size+1) (v.arr st)).heap[w.heap.size]? =some (.cells #[.slice te ct.tables.length tc, .slice io ct.indexes.length ic] 25) :=Aw ((hcp.bel.block _ (by omega)).trans hcat) (by omega) _
 have hbW2 :Below w.heap.size w (W1.setRow (w.heap.size+1) (v.arr st)) :=Below.row (hbel.trans (hcp.bel.mono hbel.size)) (by omega) _
 have HTB :=Abc (iv := .slice io ct.indexes.length ic) ⟨_,_,_,rfl⟩ st.table (IsL.keep HTL.out (Ag (hbW2.mono hC))) (Nat.le_trans hC hbW2.size)
 have hsz2 : (W1.setRow (w.heap.size+1) (v.arr st)).heap.size=W1.heap.size :=by simp [World.setRow]
 have HSZ :Hid _ :=hsz2
 generalize hW2 :W1.setRow (w.heap.size+1) (v.arr st) =W2 at*
 have HW2 :Hid _ :=hW2
 clear hK2 HK1 HCP hi0 hW2 hsz2 hstm2 hstm1
 go_wp2_with (first | (refine wpList_load_row rfl 25 _ rfl w.heap.size ?_ 25 _ (0,0) _ hcat2 Tryz.underlying25 ?_ ?_ ?_;exact rfl;exact rfl;exact Dp) | (go_at_call 18;go_fit HTB;rintro e W3 ⟨u,rfl,hu,hb3⟩))
 refine HK2.out _ _ ?_
 refine wp_seq_k fun K3 hK3=> ?_
 have HK3 :Hid _ :=hK3
 have bU :=Ab W3 (.cells u.arr 47)
 have hbA :=Aq W3 (.cells u.arr 47)
 have hbB :=Aq (W3.alloc (.cells u.arr 47)) (.cells u.arr 47)
 have hbC :=hbA.trans (hbB.mono hbA.size)
 have hlt :IsL A4 (fun k=>k< ((W3.alloc (.cells u.arr 47)).alloc (.cells u.arr 47)).heap.size) ((W3.alloc (.cells u.arr 47)).alloc (.cells u.arr 47)) (.slice (some ⟨(W3.alloc (.cells u.arr 47)).heap.size,0,none⟩) 1 1) [Gb ct st.table] :=
  E1 ⟨u.arr.toList,Cu.of_own (F :=fun _=>True) (Tj (W3.alloc (.cells u.arr 47)) 0 47 u.arr.toList 2 rfl (Nat.zero_le _)) (fun _ _=>trivial),All.one (A4.mono (fun _ _ _=>trivial) (A4.keep (Ar hbC) hu.1))⟩
 have HCO :=N9 [Gb ct st.table] (by simp) (fun t ht=>by rw [List.mem_singleton] at ht;rw [ht];exact hcl) _ _ _ hlt (Nat.le_refl _)
 rw [show (W3.alloc (.cells u.arr 47)).heap.size=W3.heap.size+1 by simp] at HCO
 clear hK3 HK2 HTB hlt
 go_wp2_with (first | (refine wpList_load_row rfl 47 _ rfl W3.heap.size rfl 47 _ _ _ bU Tryz.underlying47 rfl Cj ?_) | (go_at_call 26;go_fit HCO;rintro e W6 ⟨⟨z,rfl,hz⟩,hb6⟩))
 refine HK3.out _ _ ?_
 obtain ⟨ko,kc,rfl⟩ :=hz.shape
 have hb36 :=hbC.trans (hb6.mono hbC.size)
 have hbD :=hbB.trans (hb6.mono hbB.size)
 have hs13 :W1.heap.size≤W3.heap.size :=by have :=hb3.size;have :=HSZ.out;omega
 have hbf :Below W1.heap.size (W1.setRow (w.heap.size+1) (v.arr st)) W6 :=by
  rw [HW2.out,←HSZ.out]
  exact hb3.trans (hb36.mono hb3.size)
 have hbd :=Aba (b :=W3.heap.size) (S := [Gb ct st.table]) hcat hstm hroom hbel hbig hcp hbf hs13 ((hbD.block _ (lt_of_block bU)).trans bU) (hz.mono fun k _ (hk :_≤k) =>show W1.heap.size≤k by have :=hbC.size;omega)
 refine HG.out _ _ _ _ _ _ _ _ _ _ _ _ _ _ _ (by kernel_rfl) hbd ?_ rfl
 rw [Mf]
 cases hf :A5 ct.tables st.table with
 | none=>exact hu.2 hf
 | some t=>
  obtain ⟨sv,he,hk⟩ :=hu.1
  rw [Gb,hf] at he hk
  simp only [List.cons.injEq,Value.string.injEq,and_true] at he
  obtain ⟨he1,rfl⟩ :=he
  exact ⟨he1,hk.keep (Ar hb36)⟩
end Go.Proofs.YtmgkcjiejmhgcaaGreatDoor

namespace Go.Proofs.YtmgkcjiejmhgcaaGreatDoor
open Go.RowKit Go.Maps
def sub :List Nat→Code→Code
 | 0 ::p, .seq a _=>sub p a
 | _ ::p, .seq _ b=>sub p b
 | 0 ::p, .cond _ a _=>sub p a
 | _ ::p, .cond _ _ b=>sub p b
 | _ ::p, .block _ b=>sub p b
 | _ ::p, .loop b=>sub p b
 | _,c=>c
def Yq (f :Func) (p :List Nat) :Code :=sub ([0,1,0,1,1,1,1,1,1,1,0,1,1,1,1] ++p) (Db 12 (C4 f))
theorem Yr {S :List TabD} (h : ∀t∈S,Cv t=true) : ∀e∈C6 S,geB 40 e=true :=by
 intro e he
 rw [C6,List.mem_map] at he
 obtain ⟨p,hp,rfl⟩ :=he
 simp only [Bv,List.mem_flatMap,List.mem_map] at hp
 obtain ⟨t,ht,c,hc,rfl⟩ :=hp
 have hb :=h t ht
 simp only [Cv,Ii,Bool.and_eq_true,Bool.not_eq_true'] at hb
 obtain ⟨i,hi⟩ :=List.mem_iff_getElem?.1 hc
 have h2 :=Ir hb.2 i (Nat.zero_le _) (by simpa using (List.getElem?_eq_some_iff.1 hi).1)
 simp only [Em,hi,Bool.or_eq_false_iff,Bool.not_eq_false'] at h2
 have h3 :nm c.name=true :=by have :=h2.1;simp only [Gc,Bool.and_eq_true] at this;exact this.1
 have h4 :nm t.name=true :=hb.1.1.1.1
 show (decide _&&E9 2 zero t.name c.name&&_) =true
 simp [E9,h3,h4,Fd]
def If (S :List TabD) (l :List E) :List E :=if l.length=0 then C6 S else l
theorem Ys {S :List TabD} {l :List E} (h :Ba (Bm S) (C6 S) = .ok (J9 S)) :Ba (Bm S) (If S l) =Hc S l :=by
 rw [If,Hc]
 split
 ·exact h
 ·exact (R3 S l).symm
theorem R6 {S :List TabD} (hS :GoodS S) {e :E} {v cv :Value} {C :Nat} {w :World} (he :IsE (fun k=>k<C) w e v) (hl :IsL B8 (fun k=>k<C) w cv (Ax S)) (hC :C≤w.heap.size) (hg :geB 40 e=true) {m :Int} (hr :Bm S e= .error m) :
  Calls Tryz.prog 28 #[cv,v] w fun r w'=> ∃arr kd,r= .returned (.tuple #[.agg arr, .int .i64 kd, .int .i64 m]) ∧EvF w w' (.error m) arr m :=
 (Tz hS he hl hC hg).mono (by
  rintro r w' ⟨arr,kd,f,rfl,h⟩
  rw [hr] at h
  obtain rfl :f=m :=h.is
  exact ⟨arr,kd,rfl,h⟩)
theorem Pz {S :List TabD} (hS :GoodS S) {e y :E} {v cv :Value} {C :Nat} {w :World} (he :IsE (fun k=>k<C) w e v) (hl :IsL B8 (fun k=>k<C) w cv (Ax S)) (hC :C≤w.heap.size) (hg :geB 40 e=true) (hr :Bm S e= .ok y) :
  Calls Tryz.prog 28 #[cv,v] w fun r w'=> ∃arr kd,r= .returned (.tuple #[.agg arr, .int .i64 kd, .int .i64 0]) ∧EvOk w w' y arr :=
 (Tz hS he hl hC hg).mono (by
  rintro r w' ⟨arr,kd,f,rfl,h⟩
  rw [hr] at h
  obtain ⟨rfl,h2⟩ :=h.is
  exact ⟨arr,kd,rfl,h.size,h.one,h2,h.bel⟩)
set_option maxRecDepth 100000 in
set_option maxHeartbeats 8000000 in
theorem Xa (w V0 :World) (D :Nat) (lab :Nat→Nat) (cat :Array Value) (v :Lv) (st :Stm) (h :BdSt w V0 D lab cat v st) (GS :GoodS v.S) (hol :st.order.length≤16777216) (hge : ∀e∈st.order,geB 40 e=true) (Q :Exit→Act→World→Prop)
  (hE : ∀m,Ba (Bm v.S) st.order= .error m→ ∀a W',bodyPost Tryz.prog Tryz.f7 (Dc (.error m) w) .ret a W'→Q .ret a W')
  (hN : ∀ (ys :List E) (lab' :Nat→Nat) (V' :World) (q0 q1 q5 v7 v8 q9 q10 q11 q12 q13 q14 v15 v16 :Value) (l :List Value),l.length=494→Ba (Bm v.S) st.order= .ok ys→BdSt w V' D lab' cat v {st with order :=ys} →Q .normal ⟨frm w.heap.size q0 q1 q5 v7 v8 q9 q10 q11 q12 q13 q14 v15 v16 (.slice v.ko (Ax v.S).length v.kc) l,[]⟩ V')
  (q0 q1 q5 v7 v8 q9 q10 q11 q12 q13 q14 v15 v16 :Value) (l :List Value) (hll :l.length=494) :
  Code.wp Tryz.prog (Yq Tryz.f7 [1,1]) Q ⟨frm w.heap.size q0 q1 q5 v7 v8 q9 q10 q11 q12 q13 q14 v15 v16 (.slice v.ko (Ax v.S).length v.kc) l,[]⟩ V0 :=by
 obtain ⟨q,rfl⟩ :=lay hll
 clear hll
 have HN :Hid _ :=hN
 have HER :Hid _ :=hE
 have HGE :Hid (∀e∈st.order,geB 40 e=true) :=hge
 obtain ⟨qo,hqo⟩ : ∃z,z=v.qo := ⟨_,rfl⟩
 have HQO :Hid (qo=v.qo) :=hqo
 have e17 :V0.cell? ⟨w.heap.size+1,17,none⟩ =some (.slice qo st.order.length v.qc) :=by rw [hqo];exact Aa h.stm rfl
 clear hN hE hge hqo
 conv=>arg 2;whnf
 simp only [frm,List.range,List.range.loop,List.map]
 go_wp2_with fail
 clear e17
 go_loopw [466] (fun iv wr=> ∃ (k :Nat) (ys :List E) (lab' :Nat→Nat),k≤st.order.length∧iv= .int .i64 k∧Hid (Ba (Bm v.S) (st.order.take k) = .ok ys) ∧Hid (ys.length=k) ∧BdSt w wr D lab' cat v {st with order :=ys++st.order.drop k}) (fun iv _=>st.order.length - (intOf iv).toNat)
 case atStart=>exact ⟨0,[],lab,Nat.zero_le _,rfl,rfl,rfl,h⟩
 case round=>
  obtain ⟨k,ys,lab1,hk,rfl,HY,HYL,hS⟩ :=hrel
  obtain ⟨V,hV⟩ : ∃V,V=wr := ⟨_,rfl⟩
  subst hV
  clear h
  by_cases hlt :k<st.order.length
  ·obtain ⟨x,hx⟩ : ∃x,st.order[k]? =some x := ⟨_,List.getElem?_eq_getElem hlt⟩
   have HZ :Hid (Ba (Bm v.S) (st.order.take (k+1)) =match Bm v.S x with | .error m=> .error m | .ok b=> .ok (ys++ [b])) :=by
    show _=_
    rw [List.take_add_one,hx]
    show Ba _ (_++ [_]) =_
    rw [Ec,HY.out]
    cases Bm v.S x<;>rfl
   have hsx : (ys++st.order.drop k)[k]? =some x :=by rw [List.getElem?_append_right (Nat.le_of_eq HYL.out),HYL.out,Nat.sub_self,List.getElem?_drop,Nat.add_zero];exact hx
   have HLS :Hid ((ys++st.order.drop k).length=st.order.length) :=by show _=_;rw [List.length_append,HYL.out,List.length_drop];omega
   obtain ⟨b,off,cs,hbo,hp,hE⟩ :=Kj hS.order.isL hsx
   have hbo2 :qo=some ⟨b,off,none⟩ :=HQO.out.trans hbo
   subst hbo2
   have HBO :Hid _ :=hbo
   have hp1 :=hp.range;have hp2 : (Tryz.prog.info? 34).map (·.size) =some cs.length :=Ai.trans (congrArg some hp.len.symm);have hp3 :=hp.one;have hp4 : (Tryz.prog.info? 34).map (·.size) =some cs.toArray.size :=hp2
   have hp5 :=Ab V (.cells eZ 34);have hp6 :Hid (8=cs.toArray.size) :=hp.len.symm
   have hb3 :=Below.row (Aq V (.cells eZ 34)) (Nat.le_refl _) cs.toArray
   have hS3 :=hS.below hb3
   have hxb : ((V.alloc (.cells eZ 34)).setRow V.heap.size cs.toArray).heap[V.heap.size]? =some (.cells cs.toArray 34) :=An hp5
   have hE3 :=Hm (IsE.keep (Ag hb3) _ _ hE)
   have hO3 :=E1 hS3.own
   have hg0 :=HGE.out x (List.mem_of_getElem? hx)
   have j0 : (0 :Int) ≤ (k :Int) :=by omega
   have j1 : (k :Int) < (st.order.length :Int) :=by omega
   clear hx hsx hE hbo hp
   cases har :Bm v.S x with
   | error m=>
    have HX :Hid (Ba (Bm v.S) st.order= .error m) :=by
     show _=_
     rw [←List.take_append_drop (k+1) st.order]
     exact Ek _ _ _ _ (by rw [HZ.out,har])
    have HB :=R6 GS hE3 hO3 (Nat.le_refl _) hg0 har
    have m1 : (m !=0) =true :=by rcases Py har with rfl | rfl<;>rfl
    clear har HZ HY HYL HLS hE3 hO3 hg0
    go_wp2_with (first | (refine wpList_load_mid rfl 34 _ rfl b (off+k*8) ?_ cs _ hp1 Tryz.underlying34 rfl ?_ ?_;exact rfl;exact hp2) | (refine wpList_store_row rfl 34 _ _ rfl V.heap.size cs.toArray ?_ ?_ 34 eZ ?_ ?_ ?_ ?_ ?_;exact rfl;exact rfl;exact hp5;exact hp4;exact hp6.out;exact hp3) | (refine wpList_load_row rfl 34 _ rfl V.heap.size rfl 34 _ _ _ hxb Tryz.underlying34 rfl hp4 ?_) | (go_at_call 28;go_fit HB;rintro e W1 ⟨arr,kd,rfl,hA⟩;have hA1 :=Ab W1 (.cells eZ 34);have hA2 :=hA.one;have hA3 :=hA.info;have hA4 :Hid (8=arr.size) :=hA.size.symm;have hG :=Hl W1 arr;have h7 :=hS3.below (hA.bel.trans ((Gr W1 arr).mono hA.bel.size))) | (refine wpList_store_row rfl 34 _ _ rfl W1.heap.size arr ?_ ?_ 34 eZ ?_ ?_ ?_ ?_ ?_;exact rfl;exact rfl;exact hA1;exact hA3;exact hA4.out;exact hA2) | (go_at_call 24;go_fit (Cr m _);rintro e W9 ⟨rfl,hb9⟩;have h9 :=h7.below hb9;have bR9 :=h9.room;have bel9 :=h9.bel) | (refine wpList_store_row rfl 36 _ _ rfl (w.heap.size+2) Ah ?_ ?_ 36 Ah ?_ ?_ ?_ ?_ ?_;exact rfl;exact rfl;exact bR9;exact Am;exact rfl;exact Bn))
    exact HER.out m HX.out _ _ (B9 bel9 bR9 m rfl rfl rfl)
   | ok y=>
    have HB :=Pz GS hE3 hO3 (Nat.le_refl _) hg0 har
    have HN2 :Hid (Ba (Bm v.S) (st.order.take (k+1)) = .ok (ys++ [y])) :=by show _=_;rw [HZ.out,har]
    clear har HZ hE3 hO3 hg0
    go_wp2_with (first | (refine wpList_load_mid rfl 34 _ rfl b (off+k*8) ?_ cs _ hp1 Tryz.underlying34 rfl ?_ ?_;exact rfl;exact hp2) | (refine wpList_store_row rfl 34 _ _ rfl V.heap.size cs.toArray ?_ ?_ 34 eZ ?_ ?_ ?_ ?_ ?_;exact rfl;exact rfl;exact hp5;exact hp4;exact hp6.out;exact hp3) | (refine wpList_load_row rfl 34 _ rfl V.heap.size rfl 34 _ _ _ hxb Tryz.underlying34 rfl hp4 ?_) | (go_at_call 28;go_fit HB;rintro e W1 ⟨arr,kd,rfl,hA⟩;have hA1 :=Ab W1 (.cells eZ 34);have hA2 :=hA.one;have hA3 :=hA.info;have hA4 :Hid (8=arr.size) :=hA.size.symm;have hG :=Hl W1 arr;have hAt :=hA.at;have hmd :=hS3.made hAt (14+1);have hput :=hmd.putA_order (j :=k) (by rw [HLS.out];exact hlt) HBO.out (hAt.elem (lab :=lab1) hS3.dlt);simp only at hput;rw [Mg HYL.out hlt] at hput;have hth :=hput.1;have hS8 :=hput.2;have e18 : (evW W1 arr).cell? ⟨w.heap.size+1,17,none⟩ =some (.slice (some ⟨b,off,none⟩) st.order.length v.qc) := (by rw [←HBO.out,←HLS.out];exact Aa hmd.stm rfl);clear hput hmd hAt hS3 hS) | (refine wpList_store_row rfl 34 _ _ rfl W1.heap.size arr ?_ ?_ 34 eZ ?_ ?_ ?_ ?_ ?_;exact rfl;exact rfl;exact hA1;exact hA3;exact hA4.out;exact hA2) | (refine wpList_load_row rfl 34 _ rfl W1.heap.size rfl 34 _ _ _ hG Tryz.underlying34 rfl hA3 ?_) | (refine wpList_store_mid rfl 34 _ _ rfl b (off+k*8) arr ?_ ?_ ?_ ?_ ?_ ?_;exact rfl;exact rfl;exact hth;exact hA3;exact hA2))
    go_roundw
    case rel=>exact ⟨k+1,ys++ [y],_,by omega,by go_num,HN2,(by show _=_;rw [List.length_append,HYL.out];rfl),hS8⟩
    case measure=>simp [intOf];omega
  ·have hkn :k=st.order.length :=by omega
   subst hkn
   rw [List.drop_length,List.append_nil] at hS
   have j1 : ¬ ((st.order.length :Int) < (st.order.length :Int)) :=by omega
   have HYF :Hid (Ba (Bm v.S) st.order= .ok ys) :=by show _=_;rw [←List.take_length (l :=st.order)];exact HY.out
   go_wp2_with fail
   exact HN.out ys lab1 V _ _ _ _ _ _ _ _ _ _ _ _ _ _ (by kernel_rfl) HYF.out hS
set_option maxRecDepth 100000 in
set_option maxHeartbeats 8000000 in
theorem Z6 (w V0 :World) (D :Nat) (lab :Nat→Nat) (cat :Array Value) (v :Lv) (st :Stm) (h :BdSt w V0 D lab cat v st) (GS :GoodS v.S) (hol :st.out.length≤16777216) (hge : ∀e∈st.out,geB 40 e=true) (Q :Exit→Act→World→Prop)
  (hE : ∀m,Ba (Bm v.S) st.out= .error m→ ∀a W',bodyPost Tryz.prog Tryz.f7 (Dc (.error m) w) .ret a W'→Q .ret a W')
  (hN : ∀ (ys :List E) (lab' :Nat→Nat) (V' :World) (q0 q1 q5 v7 v8 q9 q10 q11 q12 q13 q14 v15 v16 :Value) (l :List Value),l.length=494→Ba (Bm v.S) st.out= .ok ys→BdSt w V' D lab' cat v {st with out :=ys} →Q .normal ⟨frm w.heap.size q0 q1 q5 v7 v8 q9 q10 q11 q12 q13 q14 v15 v16 (.slice v.ko (Ax v.S).length v.kc) l,[]⟩ V')
  (q0 q1 q5 v7 v8 q9 q10 q11 q12 q13 q14 v15 v16 :Value) (l :List Value) (hll :l.length=494) :
  Code.wp Tryz.prog (Yq Tryz.f7 [1,0]) Q ⟨frm w.heap.size q0 q1 q5 v7 v8 q9 q10 q11 q12 q13 q14 v15 v16 (.slice v.ko (Ax v.S).length v.kc) l,[]⟩ V0 :=by
 obtain ⟨q,rfl⟩ :=lay hll
 clear hll
 have HN :Hid _ :=hN
 have HER :Hid _ :=hE
 have HGE :Hid (∀e∈st.out,geB 40 e=true) :=hge
 obtain ⟨qo,hqo⟩ : ∃z,z=v.uo := ⟨_,rfl⟩
 have HQO :Hid (qo=v.uo) :=hqo
 have e17 :V0.cell? ⟨w.heap.size+1,8,none⟩ =some (.slice qo st.out.length v.uc) :=by rw [hqo];exact Aa h.stm rfl
 clear hN hE hge hqo
 conv=>arg 2;whnf
 simp only [frm,List.range,List.range.loop,List.map]
 go_wp2_with fail
 clear e17
 go_loopw [438] (fun iv wr=> ∃ (k :Nat) (ys :List E) (lab' :Nat→Nat),k≤st.out.length∧iv= .int .i64 k∧Hid (Ba (Bm v.S) (st.out.take k) = .ok ys) ∧Hid (ys.length=k) ∧BdSt w wr D lab' cat v {st with out :=ys++st.out.drop k}) (fun iv _=>st.out.length - (intOf iv).toNat)
 case atStart=>exact ⟨0,[],lab,Nat.zero_le _,rfl,rfl,rfl,h⟩
 case round=>
  obtain ⟨k,ys,lab1,hk,rfl,HY,HYL,hS⟩ :=hrel
  obtain ⟨V,hV⟩ : ∃V,V=wr := ⟨_,rfl⟩
  subst hV
  clear h
  by_cases hlt :k<st.out.length
  ·obtain ⟨x,hx⟩ : ∃x,st.out[k]? =some x := ⟨_,List.getElem?_eq_getElem hlt⟩
   have HZ :Hid (Ba (Bm v.S) (st.out.take (k+1)) =match Bm v.S x with | .error m=> .error m | .ok b=> .ok (ys++ [b])) :=by
    show _=_
    rw [List.take_add_one,hx]
    show Ba _ (_++ [_]) =_
    rw [Ec,HY.out]
    cases Bm v.S x<;>rfl
   have hsx : (ys++st.out.drop k)[k]? =some x :=by rw [List.getElem?_append_right (Nat.le_of_eq HYL.out),HYL.out,Nat.sub_self,List.getElem?_drop,Nat.add_zero];exact hx
   have HLS :Hid ((ys++st.out.drop k).length=st.out.length) :=by show _=_;rw [List.length_append,HYL.out,List.length_drop];omega
   obtain ⟨b,off,cs,hbo,hp,hE⟩ :=Kj hS.out.isL hsx
   have hbo2 :qo=some ⟨b,off,none⟩ :=HQO.out.trans hbo
   subst hbo2
   have HBO :Hid _ :=hbo
   have hp1 :=hp.range;have hp2 : (Tryz.prog.info? 34).map (·.size) =some cs.length :=Ai.trans (congrArg some hp.len.symm);have hp3 :=hp.one;have hp4 : (Tryz.prog.info? 34).map (·.size) =some cs.toArray.size :=hp2
   have hp5 :=Ab V (.cells eZ 34);have hp6 :Hid (8=cs.toArray.size) :=hp.len.symm
   have hb3 :=Below.row (Aq V (.cells eZ 34)) (Nat.le_refl _) cs.toArray
   have hS3 :=hS.below hb3
   have hxb : ((V.alloc (.cells eZ 34)).setRow V.heap.size cs.toArray).heap[V.heap.size]? =some (.cells cs.toArray 34) :=An hp5
   have hE3 :=Hm (IsE.keep (Ag hb3) _ _ hE)
   have hO3 :=E1 hS3.own
   have hg0 :=HGE.out x (List.mem_of_getElem? hx)
   have j0 : (0 :Int) ≤ (k :Int) :=by omega
   have j1 : (k :Int) < (st.out.length :Int) :=by omega
   clear hx hsx hE hbo hp
   cases har :Bm v.S x with
   | error m=>
    have HX :Hid (Ba (Bm v.S) st.out= .error m) :=by
     show _=_
     rw [←List.take_append_drop (k+1) st.out]
     exact Ek _ _ _ _ (by rw [HZ.out,har])
    have HB :=R6 GS hE3 hO3 (Nat.le_refl _) hg0 har
    have m1 : (m !=0) =true :=by rcases Py har with rfl | rfl<;>rfl
    clear har HZ HY HYL HLS hE3 hO3 hg0
    go_wp2_with (first | (refine wpList_load_mid rfl 34 _ rfl b (off+k*8) ?_ cs _ hp1 Tryz.underlying34 rfl ?_ ?_;exact rfl;exact hp2) | (refine wpList_store_row rfl 34 _ _ rfl V.heap.size cs.toArray ?_ ?_ 34 eZ ?_ ?_ ?_ ?_ ?_;exact rfl;exact rfl;exact hp5;exact hp4;exact hp6.out;exact hp3) | (refine wpList_load_row rfl 34 _ rfl V.heap.size rfl 34 _ _ _ hxb Tryz.underlying34 rfl hp4 ?_) | (go_at_call 28;go_fit HB;rintro e W1 ⟨arr,kd,rfl,hA⟩;have hA1 :=Ab W1 (.cells eZ 34);have hA2 :=hA.one;have hA3 :=hA.info;have hA4 :Hid (8=arr.size) :=hA.size.symm;have hG :=Hl W1 arr;have h7 :=hS3.below (hA.bel.trans ((Gr W1 arr).mono hA.bel.size))) | (refine wpList_store_row rfl 34 _ _ rfl W1.heap.size arr ?_ ?_ 34 eZ ?_ ?_ ?_ ?_ ?_;exact rfl;exact rfl;exact hA1;exact hA3;exact hA4.out;exact hA2) | (go_at_call 24;go_fit (Cr m _);rintro e W9 ⟨rfl,hb9⟩;have h9 :=h7.below hb9;have bR9 :=h9.room;have bel9 :=h9.bel) | (refine wpList_store_row rfl 36 _ _ rfl (w.heap.size+2) Ah ?_ ?_ 36 Ah ?_ ?_ ?_ ?_ ?_;exact rfl;exact rfl;exact bR9;exact Am;exact rfl;exact Bn))
    exact HER.out m HX.out _ _ (B9 bel9 bR9 m rfl rfl rfl)
   | ok y=>
    have HB :=Pz GS hE3 hO3 (Nat.le_refl _) hg0 har
    have HN2 :Hid (Ba (Bm v.S) (st.out.take (k+1)) = .ok (ys++ [y])) :=by show _=_;rw [HZ.out,har]
    clear har HZ hE3 hO3 hg0
    go_wp2_with (first | (refine wpList_load_mid rfl 34 _ rfl b (off+k*8) ?_ cs _ hp1 Tryz.underlying34 rfl ?_ ?_;exact rfl;exact hp2) | (refine wpList_store_row rfl 34 _ _ rfl V.heap.size cs.toArray ?_ ?_ 34 eZ ?_ ?_ ?_ ?_ ?_;exact rfl;exact rfl;exact hp5;exact hp4;exact hp6.out;exact hp3) | (refine wpList_load_row rfl 34 _ rfl V.heap.size rfl 34 _ _ _ hxb Tryz.underlying34 rfl hp4 ?_) | (go_at_call 28;go_fit HB;rintro e W1 ⟨arr,kd,rfl,hA⟩;have hA1 :=Ab W1 (.cells eZ 34);have hA2 :=hA.one;have hA3 :=hA.info;have hA4 :Hid (8=arr.size) :=hA.size.symm;have hG :=Hl W1 arr;have hAt :=hA.at;have hmd :=hS3.made hAt (10+1);have hput :=hmd.putA_out (j :=k) (by rw [HLS.out];exact hlt) HBO.out (hAt.elem (lab :=lab1) hS3.dlt);simp only at hput;rw [Mg HYL.out hlt] at hput;have hth :=hput.1;have hS8 :=hput.2;have e18 : (evW W1 arr).cell? ⟨w.heap.size+1,8,none⟩ =some (.slice (some ⟨b,off,none⟩) st.out.length v.uc) := (by rw [←HBO.out,←HLS.out];exact Aa hmd.stm rfl);clear hput hmd hAt hS3 hS) | (refine wpList_store_row rfl 34 _ _ rfl W1.heap.size arr ?_ ?_ 34 eZ ?_ ?_ ?_ ?_ ?_;exact rfl;exact rfl;exact hA1;exact hA3;exact hA4.out;exact hA2) | (refine wpList_load_row rfl 34 _ rfl W1.heap.size rfl 34 _ _ _ hG Tryz.underlying34 rfl hA3 ?_) | (refine wpList_store_mid rfl 34 _ _ rfl b (off+k*8) arr ?_ ?_ ?_ ?_ ?_ ?_;exact rfl;exact rfl;exact hth;exact hA3;exact hA2))
    go_roundw
    case rel=>exact ⟨k+1,ys++ [y],_,by omega,by go_num,HN2,(by show _=_;rw [List.length_append,HYL.out];rfl),hS8⟩
    case measure=>simp [intOf];omega
  ·have hkn :k=st.out.length :=by omega
   subst hkn
   rw [List.drop_length,List.append_nil] at hS
   have j1 : ¬ ((st.out.length :Int) < (st.out.length :Int)) :=by omega
   have HYF :Hid (Ba (Bm v.S) st.out= .ok ys) :=by show _=_;rw [←List.take_length (l :=st.out)];exact HY.out
   go_wp2_with fail
   exact HN.out ys lab1 V _ _ _ _ _ _ _ _ _ _ _ _ _ _ (by kernel_rfl) HYF.out hS
end Go.Proofs.YtmgkcjiejmhgcaaGreatDoor

