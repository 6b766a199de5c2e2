/-
  6 texts of this proof in one, in build order: BGaS, BAll, BPre, BSelM, BSelW, BSelT.
-/
import Derived.Deep.CutBlock
import Derived.Deep.DeepCutAuto
import Derived.Test.YtmgkcjiejmhgcaaGreatDoorJ25
import Derived.Test.YtmgkcjiejmhgcaaGreatDoorJ26
import Derived.Test.YtmgkcjiejmhgcaaGreatDoorJ29
import Derived.Test.YtmgkcjiejmhgcaaGreatDoorJ36
import Derived.Test.YtmgkcjiejmhgcaaGreatDoorJ44
import Derived.Test.YtmgkcjiejmhgcaaGreatDoorJ45
set_option linter.unusedSimpArgs false
set_option linter.unusedVariables false
namespace Go.Proofs.YtmgkcjiejmhgcaaGreatDoor
open Go.RowKit Go.Maps
set_option maxRecDepth 100000 in
set_option maxHeartbeats 8000000 in
theorem W8 (X :Except Int Stm) (w W :World) (cat arr0 :Array Value) (hstm :W.heap[w.heap.size+1]? =some (.cells arr0 36)) (hbel :Below w.heap.size w W) (hbig :w.heap.size+3≤W.heap.size) (okb :Bool) (A :List E) (zo :Option Addr) (zc n C :Nat) (hC :C≤w.heap.size)
  (hA :Gath C (w.heap.size+3) W zo zc n A) (rows :List (Wd×E)) (ro :Option Addr) (rc :Nat) (h5 :arr0[6]? =some (.slice ro rows.length rc)) (hl :IsL C5 (fun k=>k<C) w (.slice ro rows.length rc) rows) (hn :A.length+rows.length≤80000000)
  (hgo : ∀ (W' :World) (zo' :Option Addr) (zc' n' :Nat) (q0 q1 q5 q9 q10 q11 q12 q13 q14 v15 v16 v17 :Value) (l :List Value),l.length=494→Below (w.heap.size+3) W W'→Gath C (w.heap.size+3) W' zo' zc' n' (A++rows.map Prod.snd) →
   Code.wp Tryz.prog (Db 6 (C4 Tryz.f7)) (bodyPost Tryz.prog Tryz.f7 (Dc X w)) ⟨frm w.heap.size q0 q1 q5 (.bool okb) (.slice zo' n' zc') q9 q10 q11 q12 q13 q14 v15 v16 v17 l,[]⟩ W')
  (q0 q1 q5 q9 q10 q11 q12 q13 q14 v15 v16 v17 :Value) (l :List Value) (hll :l.length=494) :
  Code.wp Tryz.prog (Db 5 (C4 Tryz.f7)) (bodyPost Tryz.prog Tryz.f7 (Dc X w)) ⟨frm w.heap.size q0 q1 q5 (.bool okb) (.slice zo n zc) q9 q10 q11 q12 q13 q14 v15 v16 v17 l,[]⟩ W :=by
 obtain ⟨q,rfl⟩ :=lay hll
 clear hll
 have HG :Hid _ :=hgo
 have k5 :=Aa hstm h5
 have HL :Hid _ :=hl
 obtain ⟨p0,ei,e0,e1,e2⟩ :=info_parts Eb
 clear hgo h5 hl hstm
 conv=>arg 2;whnf
 refine wp_seq_k fun K1 hK1=> ?_
 have HK1 :Hid _ :=hK1
 clear hK1
 simp only [frm,List.range,List.range.loop,List.map]
 go_wp2_with fail
 clear k5
 go_loopw [8,88] (fun av iv wr=> ∃ (k :Nat) (zo' :Option Addr) (zc' n' :Nat),k≤rows.length∧iv= .int .i64 k∧av= .slice zo' n' zc'∧Gath C (w.heap.size+3) wr zo' zc' n' (A++ (rows.take k).map Prod.snd) ∧Below (w.heap.size+3) W wr) (fun _ iv _=>rows.length - (intOf iv).toNat)
 case atStart=>exact ⟨0,zo,zc,n,Nat.zero_le _,rfl,rfl,by simpa using hA,Below.refl _ _⟩
 case round=>
  obtain ⟨k,zo',zc',n',hk,rfl,rfl,hG,hbw⟩ :=hrel
  obtain ⟨V,hV⟩ : ∃V,V=wr := ⟨_,rfl⟩
  subst hV
  clear hA
  by_cases hlt :k<rows.length
  ·obtain ⟨⟨cn,ex⟩,hr⟩ : ∃r,rows[k]? =some r := ⟨_,List.getElem?_eq_getElem hlt⟩
   have HFL :Hid ((rows.take (k+1)).map Prod.snd= (rows.take k).map Prod.snd++ [ex]) :=by show _=_;rw [List.take_add_one,hr];simp
   have hbwW :Below w.heap.size w V :=hbel.trans (hbw.mono (by omega))
   obtain ⟨b,off,cs0,hbo,_,hbl,hRR,hcell⟩ :=Av (IsL.keep HL.out (Ag (hbwW.mono hC))) hr
   cases hbo
   obtain ⟨d,hcs,hd8,hE⟩ :=hRR
   have honed : ∀u∈d,u.oneCell'=true :=Jc ex d ⟨hd8,hE⟩
   have hp :RowIn V b (off+k*9) 9 cs0 := ⟨hcell,by rw [hcs];simp [hd8],all_oneCell_toArray (by rw [hcs];intro u hu;rcases List.mem_cons.1 hu with rfl | hu;rfl;exact honed u hu)⟩
   have hp1 :=hp.range;have hp2 : (Tryz.prog.info? 56).map (·.size) =some cs0.length :=Xx.trans (congrArg some hp.len.symm);have hp3 :=hp.one;have hp4 : (Tryz.prog.info? 56).map (·.size) =some cs0.toArray.size :=hp2
   have hp5 :=Ab V (.cells F4 56);have hp6 :Hid (9=cs0.toArray.size) :=hp.len.symm
   have hb3 :=Below.row (Aq V (.cells F4 56)) (Nat.le_refl _) cs0.toArray
   have hxb : ((V.alloc (.cells F4 56)).setRow V.heap.size cs0.toArray).heap[V.heap.size]? =some (.cells cs0.toArray 56) :=An hp5
   have ra :=Ga hxb (o :=1) (cs :=d) (by rw [hcs];simp)
   have hdi : (Tryz.prog.info? 34).map (·.size) =some d.length :=Ai.trans (congrArg some hd8.symm)
   generalize hV1 : (V.alloc (.cells F4 56)).setRow V.heap.size cs0.toArray=V1 at*
   have HV1 :Hid _ :=hV1
   obtain ⟨hl1,css,hos,hall⟩ :=hG
   rw [List.length_append,List.length_map,List.length_take] at hl1
   have hnb :n'+1≤80000001 :=by omega
   have j0 : (0 :Int) ≤ (k :Int) :=by omega
   have j1 : (k :Int) < (rows.length :Int) :=by omega
   have hks :Hid ((Fk d).size=8) :=hd8
   have hb1 :=Aq V1 (.cells d.toArray 34)
   have hb31 :=hb3.trans (hb1.mono hb3.size)
   have hosB : (V1.alloc (.cells d.toArray 34)).ownsRow (w.heap.size+3) 34 (Fk d).size (.slice zo' n' zc') n' css :=by rw [hks.out];exact Az hos hb31
   have hfix :=Gp V1 d 34
   have hbb :w.heap.size+3≤V.heap.size :=Nat.le_trans hbig hbw.size
   have hsB :w.heap.size+3≤ (V1.alloc (.cells d.toArray 34)).heap.size :=Nat.le_trans hbb hb31.size
   have hfo :=Y8 hd8
   have hEE :As.R (fun k=>k<C) V ex d := ⟨hd8,hE⟩
   rw [←hfo] at hb1 hosB hfix hsB hb31
   have HL1 :Hid (A.length+ (rows.take k).length=n') :=by show _=_;rw [List.length_take];exact hl1
   have HEE :Hid _ :=hEE
   clear hfo hr hcell hcs hE hV1 hxb hl1 hp hEE
   go_upto_region 12 with (first | (refine wpList_load_mid rfl 56 _ rfl b (off+k*9) ?_ cs0 _ hp1 Tryz.underlying56 rfl ?_ ?_;exact rfl;exact hp2) | (refine wpList_store_row rfl 56 _ _ rfl V.heap.size cs0.toArray ?_ ?_ 56 F4 ?_ ?_ ?_ ?_ ?_;exact rfl;exact rfl;exact hp5;exact hp4;exact hp6.out;exact hp3))
   rw [HV1.out]
   simp only [Act.put]
   go_wp2_with (first | (refine wpList_load_mid rfl 34 _ rfl V.heap.size 1 ?_ d _ ra Tryz.underlying34 rfl ?_ ?_;exact rfl;exact hdi) | (at_builtin;go_must (refine By (K :=Fk d) (l := [()]) rfl _ _ 30 rfl (w.heap.size+3) 34 p0 _ 104 Tryz.underlying30 ei e0 (e1.trans hks.out.symm) e2 (show (8 :Nat) =_ from hks.out.symm) (by rw [hks.out];decide) _ n' css rfl hosB rfl hfix (Hj honed) (by simp only [maxLen,List.length_singleton];omega) (by simp only [List.length_singleton];omega) hsB ?h2)))
   case h2=>
    intro z' W4 csn hown hall4 hg hat
    have hcsn :=Hi hall4
    subst hcsn
    rw [hks.out] at hown
    have hb4 := (hbw.trans (hb31.mono hbb)).grown hg hsB fun k hk=> (hos.lt k hk).1
    obtain ⟨zo4,zc4,rfl,hA4⟩ :=L5 (l := [ex]) (m :=1) (by omega) hb31 (by rw [List.length_append,List.length_map];exact HL1.out) rfl hos hall (All.one (As.keep (Ar hb31) HEE.out)) hown hg
    rw [List.append_assoc,←HFL.out] at hA4
    clear hown hat hg hall4 hos hall hosB hfix
    go_wp2_with fail
    go_roundw
    case rel=>exact ⟨k+1,zo4,zc4,_,by omega,by go_num,rfl,hA4,hb4⟩
    case measure=>simp [intOf];omega
  ·have hkn :k=rows.length :=by omega
   subst hkn
   rw [List.take_length] at hG
   have j1 : ¬ ((rows.length :Int) < (rows.length :Int)) :=by omega
   go_wp2_with fail
   refine HK1.out _ _ ?_
   exact HG.out V zo' zc' n' _ _ _ _ _ _ _ _ _ _ _ _ _ (by kernel_rfl) hbw hG
end Go.Proofs.YtmgkcjiejmhgcaaGreatDoor

namespace Go.Proofs.YtmgkcjiejmhgcaaGreatDoor
open Go.RowKit Go.Maps
def Mi (st :Stm) :List E :=st.out++st.order++st.rows.flatten++st.sets.map Prod.snd++ (if st.wher.opn=0 then [] else [st.wher])
def okB (ct :CatD) (st :Stm) :Bool :=Cq ct&&decide (1≤st.kind) &&decide (st.kind≤7)
theorem Px (st :Stm) : (Mi st).all (geB 40) =De st :=by
 have e1 : ∀l :List E,l.all (geB 40) = !Da l :=fun l=>by
  rw [Da,Bool.eq_iff_iff]
  simp [Eh,List.any_eq_false]
 have e2 :st.rows.flatten.all (geB 40) = !st.rows.any Da :=by
  rw [Bool.eq_iff_iff]
  simp only [List.all_eq_true,List.mem_flatten,Bool.not_eq_true',List.any_eq_false]
  constructor
  ·intro h r hr
   have :=e1 r
   rw [Bool.not_eq_true,←Bool.not_eq_true',←this,List.all_eq_true]
   exact fun x hx=>h x ⟨r,hr,hx⟩
  ·rintro h x ⟨r,hr,hx⟩
   have h1 :=h r hr
   have h2 :=e1 r
   rw [Bool.not_eq_true,←Bool.not_eq_true',←h2,List.all_eq_true] at h1
   exact h1 x hx
 have e3 : (st.sets.map Prod.snd).all (geB 40) = !st.sets.any fun t=>Eh t.2 :=by
  rw [Bool.eq_iff_iff]
  simp [Eh,List.any_eq_false]
 unfold Mi De
 rw [List.all_append,List.all_append,List.all_append,List.all_append,e1,e1,e2,e3]
 by_cases h :st.wher.opn=0
 ·simp only [h,if_true,List.all_nil,decide_true,Bool.true_or,Bool.and_true]
  cases Da st.out<;>cases Da st.order<;>cases st.rows.any Da<;>cases (st.sets.any fun t=>Eh t.2) <;>rfl
 ·simp only [h,if_false,List.all_cons,List.all_nil,decide_false,Bool.false_or,Bool.and_true,Eh,Bool.not_not]
  cases Da st.out<;>cases Da st.order<;>cases st.rows.any Da<;>cases (st.sets.any fun t=> !geB 40 t.2) <;>cases geB 40 st.wher<;>rfl
end Go.Proofs.YtmgkcjiejmhgcaaGreatDoor

namespace Go.Proofs.YtmgkcjiejmhgcaaGreatDoor
open Go.RowKit Go.Maps
theorem G0.append {α :Type} {K :Elem α} {ty :TypeId} {C base :Nat} {w w' :World} {z z' :Value} {A l :List α} {xs cs :List Value} (hC :C≤base) (h1 :w.ownsRow base ty K.size z A.length xs) (h3 :All K (fun k=>k<C) w A xs)
  (ha :All K (fun k=>k<C) w l cs) (hn :w'.ownsRow base ty K.size z' (A.length+l.length) (xs++cs)) (hg :w.grownBy w' z.ownBlock) :G0 K ty base (fun k=>k<C) w' z' (A++l) :=by
 refine ⟨xs++cs,by rw [List.length_append];exact hn,fun k hk hf=>by have := (hn.lt k hk).1;omega,(h3.append ha).keep ⟨hg.size,fun k hk hl=>hg.block k hl fun e=> ?_⟩⟩
 have := (h1.lt k e.symm).1
 omega
structure PrSt (w W :World) (cat arr :Array Value) :Prop where
 cat :W.heap[w.heap.size]? =some (.cells cat 25)
 stm :W.heap[w.heap.size+1]? =some (.cells arr 36)
 room :W.heap[w.heap.size+2]? =some (.cells Ah 36)
 bel :Below w.heap.size w W
 big :w.heap.size+3≤W.heap.size
theorem PrSt.below {w W W' :World} {cat arr :Array Value} (h :PrSt w W cat arr) (hb :Below (w.heap.size+3) W W') :PrSt w W' cat arr :=
 ⟨(hb.block _ (by omega)).trans h.cat,(hb.block _ (by omega)).trans h.stm,(hb.block _ (by omega)).trans h.room,h.bel.trans (hb.mono (by omega)),Nat.le_trans h.big hb.size⟩
theorem PrSt.grown {w W W' :World} {cat arr :Array Value} {ty :TypeId} {n m :Nat} {z :Value} {xs :List Value} (h :PrSt w W cat arr) (hg :W.grownBy W' z.ownBlock) (ho :W.ownsRow (w.heap.size+3) ty n z m xs) :PrSt w W' cat arr :=
 h.below ((Below.refl _ _).grown hg h.big fun k hk=> (ho.lt k hk).1)
set_option maxRecDepth 100000 in
set_option maxHeartbeats 8000000 in
theorem Z4 (ct :CatD) (tv iv :Value) (st :Stm) (o1 :Option Addr) (c1 :Nat) (o2 :Option Addr) (c2 :Nat) (o3 :Option Addr) (c3 :Nat) (o4 :Option Addr) (c4 :Nat) (o5 :Option Addr) (c5 :Nat) (op xk xn :Int) (xs s nmv :Wd) (n8 :Int) (o6 :Option Addr) (k6 c6 :Nat) (o7 :Option Addr) (c7 :Nat) (C :Nat) (w :World) (hc :Bh (fun k=>k<C) w ct (.agg #[tv,iv]))
  (i5 :IsL As (fun k=>k<C) w (.slice o5 st.out.length c5) st.out) (i7 :IsL As (fun k=>k<C) w (.slice o7 st.order.length c7) st.order) (hC :C≤w.heap.size) (hen :EnvM w) (hlen :st.out.length+st.order.length≤80000000) (R :Ending→World→Prop)
  (hgo : ∀ (W :World) (zo :Option Addr) (zc n :Nat) (q0 q1 q5 q9 q10 q11 q12 q13 q14 v15 v16 v17 :Value) (l :List Value),l.length=494→PrSt w W #[tv,iv] (sA st.kind st.name st.table st.col (.slice o1 st.cols.length c1) (.slice o2 st.rows.length c2) (.slice o3 st.sets.length c3) (.slice o4 st.frm.length c4) (.slice o5 st.out.length c5) op xk xn xs s nmv n8 (.slice o6 k6 c6) (.slice o7 st.order.length c7) st.down st.n) →Gath C (w.heap.size+3) W zo zc n (st.out++st.order) →
   Code.wp Tryz.prog (Db 4 (C4 Tryz.f7)) (bodyPost Tryz.prog Tryz.f7 R) ⟨frm w.heap.size q0 q1 q5 (.bool (okB ct st)) (.slice zo n zc) q9 q10 q11 q12 q13 q14 v15 v16 v17 l,[]⟩ W) :
  Calls Tryz.prog 7 #[.agg #[tv,iv], .agg (sA st.kind st.name st.table st.col (.slice o1 st.cols.length c1) (.slice o2 st.rows.length c2) (.slice o3 st.sets.length c3) (.slice o4 st.frm.length c4) (.slice o5 st.out.length c5) op xk xn xs s nmv n8 (.slice o6 k6 c6) (.slice o7 st.order.length c7) st.down st.n)] w R :=by
 obtain ⟨p0,ei,e0,e1,e2⟩ :=info_parts Eb
 have hb3 :=Fc w (.cells #[tv,iv] 25) (.cells (sA st.kind st.name st.table st.col (.slice o1 st.cols.length c1) (.slice o2 st.rows.length c2) (.slice o3 st.sets.length c3) (.slice o4 st.frm.length c4) (.slice o5 st.out.length c5) op xk xn xs s nmv n8 (.slice o6 k6 c6) (.slice o7 st.order.length c7) st.down st.n) 36) (.cells Ah 36)
 have S0 :PrSt w (((w.alloc (.cells #[tv,iv] 25)).alloc (.cells (sA st.kind st.name st.table st.col (.slice o1 st.cols.length c1) (.slice o2 st.rows.length c2) (.slice o3 st.sets.length c3) (.slice o4 st.frm.length c4) (.slice o5 st.out.length c5) op xk xn xs s nmv n8 (.slice o6 k6 c6) (.slice o7 st.order.length c7) st.down st.n) 36)).alloc (.cells Ah 36)) #[tv,iv] (sA st.kind st.name st.table st.col (.slice o1 st.cols.length c1) (.slice o2 st.rows.length c2) (.slice o3 st.sets.length c3) (.slice o4 st.frm.length c4) (.slice o5 st.out.length c5) op xk xn xs s nmv n8 (.slice o6 k6 c6) (.slice o7 st.order.length c7) st.down st.n) := ⟨Ae (Ae (Ab _ _) _) _,Ae (A0 w _ _) _,Dl w _ _ _,hb3,by simp⟩
 generalize hW : ((w.alloc (.cells #[tv,iv] 25)).alloc (.cells (sA st.kind st.name st.table st.col (.slice o1 st.cols.length c1) (.slice o2 st.rows.length c2) (.slice o3 st.sets.length c3) (.slice o4 st.frm.length c4) (.slice o5 st.out.length c5) op xk xn xs s nmv n8 (.slice o6 k6 c6) (.slice o7 st.order.length c7) st.down st.n) 36)).alloc (.cells Ah 36) =W0 at hb3 S0
 have HW :Hid _ :=hW
 have HCat :=Kv ct (.agg #[tv,iv]) C W0 (by obtain ⟨a,b,e,h1,h2⟩ :=hc;exact ⟨a,b,e,h1.keep (Ag (hb3.mono hC)),h2.keep (Ag (hb3.mono hC))⟩) (Nat.le_trans hC hb3.size) (hen.next hb3)
 rw [Rt] at HCat
 have HG :Hid _ :=hgo
 have ct0 :=Aa S0.cat (j :=0) rfl
 have ct1 :=Aa S0.cat (j :=1) rfl
 have k0 :=Aa S0.stm (j :=0) rfl
 clear hW hen hgo hc
 go_enter Tryz.func7,Tryz.ntmps7
 go_upto_region 2 with fail
 rw [HW.out]
 go_cut [7] from 56 to 67 (fun c wx=>c= .bool (okB ct st) ∧Below W0.heap.size W0 wx)
 case first=>
  cases hcb :Cq ct
  ·have HB :Hid (okB ct st=false) :=by show _=_;rw [okB,hcb];rfl
   rw [hcb] at HCat
   go_wp2_with (go_at_call 10;go_fit HCat;rintro e w1 ⟨rfl,hb1⟩)
   go_meet
   case rel=>exact ⟨by rw [HB.out];all_goals (simp;omega),hb1⟩
  ·rw [hcb] at HCat
   by_cases hk1 :1≤st.kind
   ·by_cases hk7 :st.kind≤7
    ·have HB :Hid (okB ct st=true) :=by show _=_;rw [okB,hcb];simp [hk1,hk7]
     go_wp2_with (go_at_call 10;go_fit HCat;rintro e w1 ⟨rfl,hb1⟩;have k1 := (hb1.cell (p := ⟨w.heap.size+1,0,none⟩) (lt_of_block S0.stm)).trans k0)
     go_meet
     case rel=>exact ⟨by rw [HB.out];all_goals (simp;omega),hb1⟩
    ·have HB :Hid (okB ct st=false) :=by show _=_;rw [okB,hcb];simp [hk1,hk7]
     go_wp2_with (go_at_call 10;go_fit HCat;rintro e w1 ⟨rfl,hb1⟩;have k1 := (hb1.cell (p := ⟨w.heap.size+1,0,none⟩) (lt_of_block S0.stm)).trans k0)
     go_meet
     case rel=>exact ⟨by rw [HB.out];all_goals (simp;omega),hb1⟩
   ·have HB :Hid (okB ct st=false) :=by show _=_;rw [okB,hcb];simp [hk1]
    go_wp2_with (go_at_call 10;go_fit HCat;rintro e w1 ⟨rfl,hb1⟩;have k1 := (hb1.cell (p := ⟨w.heap.size+1,0,none⟩) (lt_of_block S0.stm)).trans k0)
    go_meet
    case rel=>exact ⟨by rw [HB.out];all_goals (simp;omega),hb1⟩
 case rest=>
  obtain ⟨rfl,hb1⟩ :=hcut
  obtain ⟨W1,hW1⟩ : ∃V,V=wc := ⟨_,rfl⟩
  subst hW1
  have S1 :=S0.below (hb1.mono S0.big)
  clear HCat ct0 ct1 k0 S0
  generalize okB ct st=bk at*
  have a8 :=Aa S1.stm (j :=8) rfl
  have a17 :=Aa S1.stm (j :=17) rfl
  have l5 :IsL As (fun k=>k<C) W1.drew _ _ :=i5.keep (Ag ((S1.bel.mono hC).drew))
  have l7 :IsL As (fun k=>k<C) W1.drew _ _ :=i7.keep (Ag ((S1.bel.mono hC).drew))
  have hbg1 :=S1.big
  go_upto_region 3 with fail
  rename_i K3 hK3
  have HK3 :Hid _ :=hK3
  clear hK3
  refine Fb (S := (fun W=>W.cell? ⟨w.heap.size+1,8,none⟩ =some (.slice o5 st.out.length c5) ∧W.cell? ⟨w.heap.size+1,17,none⟩ =some (.slice o7 st.order.length c7))) (z :=6) (by kernel_rfl) ?_
  refine Bc (i :=0) (v := ?_) rfl (by kernel_rfl) (by kernel_rfl) (by kernel_rfl) (by kernel_rfl) (fun _ _ _ h=>h) (Or.inl ⟨by rfl, ?_⟩) ⟨a8,a17⟩ ?_
  rotate_left
  ·intro W0 hSw;(try dsimp only at hSw);go_simp;all_goals (with_reducible rfl)
  try simp only [Act.put,List.setIfInBounds_toArray,List.set_cons_zero,List.set_cons_succ]
  refine Bc (i :=1) (v := ?_) rfl (by kernel_rfl) (by kernel_rfl) (by kernel_rfl) (by kernel_rfl) (fun _ _ _ h=>h) (Or.inl ⟨by rfl, ?_⟩) ⟨a8,a17⟩ ?_
  rotate_left
  ·intro W0 hSw;(try dsimp only at hSw);go_simp;all_goals (with_reducible rfl)
  try simp only [Act.put,List.setIfInBounds_toArray,List.set_cons_zero,List.set_cons_succ]
  refine Bc (i :=3) (v := ?_) rfl (by kernel_rfl) (by kernel_rfl) (by kernel_rfl) (by kernel_rfl) (fun _ _ _ h=>h) (Or.inl ⟨by rfl, ?_⟩) ⟨a8,a17⟩ ?_
  rotate_left
  ·intro W0 hSw;(try dsimp only at hSw);go_simp;all_goals (with_reducible rfl)
  try simp only [Act.put,List.setIfInBounds_toArray,List.set_cons_zero,List.set_cons_succ]
  refine Bc (i :=4) (v := ?_) rfl (by kernel_rfl) (by kernel_rfl) (by kernel_rfl) (by kernel_rfl) (fun _ _ _ h=>h) (Or.inl ⟨by rfl, ?_⟩) ⟨a8,a17⟩ ?_
  rotate_left
  ·intro W0 hSw;(try dsimp only at hSw);go_simp;all_goals (with_reducible rfl)
  try simp only [Act.put,List.setIfInBounds_toArray,List.set_cons_zero,List.set_cons_succ]
  refine Bd (i :=2) (by kernel_rfl) rfl (fun K hK=> ?_)
  refine Dz (K :=As) (l :=st.out) rfl _ _ 30 rfl (w.heap.size+3) 34 p0 _ 104 Tryz.underlying30 ei e0 e1 e2 rfl (by decide) _ 0 [] rfl (World.ownsRow_nil _ _ _ _) rfl l5 Jc (by simp only [maxLen];omega) (by omega) hbg1 ?_;intro z5 W2 cs5 own5 all5 g5 at5;have hk5 :Below (w.heap.size+3) W1 W2 := ((Below.refl _ _).drew).grown g5 hbg1 (fun k hk=>absurd (show (none :Option Nat) =some k from hk) (by simp));have S2 :=S1.below hk5;have hO5 :G0 As 34 (w.heap.size+3) (fun k=>k<C) W2 z5 ([] ++st.out) :=G0.append (w :=W1.drew) (by omega) (World.ownsRow_nil _ _ _ _) rfl all5 own5 g5;have l7b :IsL As (fun k=>k<C) W2 _ _ :=i7.keep (Ag (S2.bel.mono hC));have b8 :=Aa S2.stm (j :=8) rfl;have b17 :=Aa S2.stm (j :=17) rfl;obtain ⟨xs5,own5',_,all5'⟩ :=hO5;simp only [List.nil_append] at own5' all5';obtain ⟨z5o,z5c,hz5⟩ := (Cu.of_own (F :=fun _=>True) own5' (fun _ _=>trivial)).shape;subst hz5;have hbg2 :=S2.big
  refine hK.out _ _ (fun _=> ⟨b8,b17⟩) ?_
  clear hK K
  try simp only [Act.put,List.setIfInBounds_toArray,List.set_cons_zero,List.set_cons_succ]
  refine Bd (i :=5) (by kernel_rfl) rfl (fun K hK=> ?_)
  refine Dz (K :=As) (l :=st.order) rfl _ _ 30 rfl (w.heap.size+3) 34 p0 _ 104 Tryz.underlying30 ei e0 e1 e2 rfl (by decide) _ st.out.length xs5 rfl own5' rfl l7b Jc (by simp only [maxLen];omega) (by omega) hbg2 ?_;intro z7 W3 cs7 own7 all7 g7 at7;have hk7 :Below (w.heap.size+3) W2 W3 := (Below.refl _ _).grown g7 hbg2 (fun k hk=> (own5'.lt k hk).1);have S3 :=S2.below hk7;have hO7 :G0 As 34 (w.heap.size+3) (fun k=>k<C) W3 z7 (st.out++st.order) :=G0.append (by omega) own5' all5' all7 own7 g7
  refine hK.out _ _ (fun _=> ⟨Aa S3.stm (j :=8) rfl,Aa S3.stm (j :=17) rfl⟩) ?_
  clear hK K
  try simp only [Act.put,List.setIfInBounds_toArray,List.set_cons_zero,List.set_cons_succ]
  refine Bd (i :=6) (by kernel_rfl) rfl (fun K hK=> ?_)
  go_simp
  go_wp2_with fail
  refine hK.out _ _ (fun h=>nomatch (show true=false from h)) ?_
  clear hK K
  try simp only [Act.put,List.setIfInBounds_toArray,List.set_cons_zero,List.set_cons_succ]
  refine Hv (by kernel_rfl) ?_ _
  refine HK3.out _ _ ?_
  obtain ⟨xs7,own7',_,all7'⟩ :=hO7
  obtain ⟨z7o,z7c,hz7⟩ := (Cu.of_own (F :=fun _=>True) own7' (fun _ _=>trivial)).shape
  subst hz7
  exact HG.out W3 z7o z7c _ _ _ _ _ _ _ _ _ _ _ _ _ _ (by kernel_rfl) S3 ⟨rfl,xs7,own7',all7'⟩
end Go.Proofs.YtmgkcjiejmhgcaaGreatDoor

namespace Go.Proofs.YtmgkcjiejmhgcaaGreatDoor
open Go.RowKit Go.Maps
def Bm (S :List TabD) (e :E) :Except Int E :=match A3 S e with
 | .error m=> .error m
 | .ok r=> .ok r.1
theorem R3 (S :List TabD) (l :List E) :Ej S l=Ba (Bm S) l :=by
 rw [Ej]
 induction l with
 | nil=>rw [Bb];rfl
 | cons e l ih=>
  rw [Bb,Ba,Bm]
  cases A3 S e with
  | error m=>rfl
  | ok r=>
   simp only
   cases h :Bb S l with
   | error m=>rw [h] at ih;rw [←ih]
   | ok rs=>rw [h] at ih;rw [←ih];rfl
theorem Py {S :List TabD} {e :E} {m :Int} (h :Bm S e= .error m) :m=3∨m=5 :=by
 rw [Bm] at h
 cases hb :A3 S e with
 | error k=>rw [hb] at h;obtain rfl :=Except.error.inj h;exact Ew S e _ hb
 | ok r=>rw [hb] at h;cases h
theorem R4 {α β γ :Type} {f :γ→Except Int β} (h :α→γ) (g :α→Nat→β) : ∀ (l :List α) (k :Nat),(∀i x,l[i]? =some x→f (h x) = .ok (g x (k+i))) →Ba f (l.map h) = .ok ((l.zipIdx k).map fun p=>g p.1 p.2)
 | [],_,_=>rfl
 | x ::l,k,hf=>by
  rw [List.map_cons,Ba,hf 0 x rfl,R4 h g l (k+1) fun i y hi=>by rw [hf (i+1) y (by simpa using hi)];congr 2;omega]
  rfl
def C6 (S :List TabD) :List E := (Bv S).map fun p=> .mk 2 zero p.1 p.2 0 []
theorem Te {S :List TabD} (ha : ∀t∈S,Is t.cols) (hn : ∀t∈S,t.name.size≠0) (hd : (Bv S).Nodup) :Ba (Bm S) (C6 S) = .ok (J9 S) :=by
 have hp :Bv S= (Ax S).map fun q=> (q.1,q.2.name) :=by
  simp only [Bv,Ax,List.map_flatMap,List.map_map]
  rfl
 refine R4 (fun p :Wd×Wd=>E.mk 2 zero p.1 p.2 0 []) (fun p i=>E.mk 2 zero p.1 p.2 (i :Int) []) (Bv S) 0 fun i x hx=> ?_
 rw [Nat.zero_add]
 obtain ⟨q,hq,he⟩ : ∃q,(Ax S)[i]? =some q∧x= (q.1,q.2.name) :=by
  rw [hp,List.getElem?_map] at hx
  cases h : (Ax S)[i]? with
  | none=>rw [h] at hx;cases hx
  | some q=>rw [h] at hx;exact ⟨q,rfl,(Option.some.inj hx).symm⟩
 subst he
 have hi := (List.getElem?_eq_some_iff.1 hq).1
 have hx0 :q.1.size≠0 :=by
  have hm :=List.mem_of_getElem? hq
  simp only [Ax,List.mem_flatMap,List.mem_map] at hm
  obtain ⟨t,ht,c,_,rfl⟩ :=hm
  exact hn t ht
 have hno : ∀j p,(Ax S)[j]? =some p→j≠i→Fm q.1 q.2.name p=false :=fun j p hj hne=>by
  rw [Fm,Bool.and_eq_false_iff]
  by_cases h1 :p.2.name=q.2.name
  ·right
   simp only [hx0,decide_false,Bool.false_or,decide_eq_false_iff_not]
   intro h2
   refine hne ((List.getElem?_inj (by rw [hp,List.length_map];exact (List.getElem?_eq_some_iff.1 hj).1) hd).1 ?_)
   rw [hp,List.getElem?_map,List.getElem?_map,hj,hq]
   simp [h1,h2]
  ·exact .inl (by simpa using h1)
 have hhit :Fm q.1 q.2.name q=true :=by simp [Fm]
 have hsp :Ax S= (Ax S).take i++q :: (Ax S).drop (i+1) :=by
  rw [← (List.getElem?_eq_some_iff.1 hq).2,←List.drop_eq_getElem_cons hi,List.take_append_drop]
 have hall :C9 q.1 q.2.name (Ax S) = ((Ax S).length,i,1) :=by
  rw [C9]
  conv=>lhs;rw [hsp]
  rw [List.foldl_append,List.foldl_cons,Gq ((Ax S).take i) _ fun p hp=> ?_,Gq _ _ fun p hp=> ?_]
  ·simp only [Dk,hhit,List.length_take,List.length_drop,Nat.min_eq_left (Nat.le_of_lt hi)]
   simp;omega
  ·obtain ⟨j,hj⟩ :=List.mem_iff_getElem?.1 hp
   rw [List.getElem?_drop] at hj
   exact hno _ p hj (by omega)
  ·obtain ⟨j,hj⟩ :=List.mem_iff_getElem?.1 hp
   have hji :j<i :=by have := (List.getElem?_eq_some_iff.1 hj).1;rw [List.length_take] at this;omega
   rw [List.getElem?_take_of_lt hji] at hj
   exact hno _ p hj (by omega)
 obtain ⟨_,h2,h3⟩ :=Nf q.1 q.2.name 0 S ha
 rw [hall] at h2 h3
 have h4 := (h3 (by simp only at h2;omega)).1
 simp only at h2 h4
 rw [Bm,A3,if_neg (by decide),if_pos rfl,if_pos h2.symm,←h4]
theorem Tf {S :List TabD} (ha : ∀t∈S,Is t.cols) (hl :S.length≤2) (hd : (S.map TabD.name).Nodup) : (Bv S).Nodup :=by
 have h1 : ∀t∈S,(t.cols.map fun c=> (t.name,c.name)).Nodup :=fun t ht=>by
  refine List.pairwise_iff_getElem.2 fun i j hi hj hij=> ?_
  rw [List.length_map] at hi hj
  rw [List.getElem_map,List.getElem_map]
  intro e
  have :=ha t ht i j _ _ (List.getElem?_eq_getElem hi) (List.getElem?_eq_getElem hj) (by simpa using e)
  omega
 match S,hl,h1,hd with
 | [],_,_,_=>exact List.nodup_nil
 | [t],_,h1,_=>simpa [Bv] using h1 t (by simp)
 | [t,u],_,h1,hd=>
  simp only [List.map_cons,List.map_nil,List.nodup_cons,List.mem_singleton,List.not_mem_nil,not_false_eq_true,List.nodup_nil,and_true] at hd
  rw [Bv,List.flatMap_cons,List.flatMap_cons,List.flatMap_nil,List.append_nil]
  refine List.nodup_append.2 ⟨h1 t (by simp),h1 u (by simp),fun a ha' b hb=> ?_⟩
  obtain ⟨c,_,rfl⟩ :=List.mem_map.1 ha'
  obtain ⟨c',_,rfl⟩ :=List.mem_map.1 hb
  intro e
  exact hd (Prod.mk.inj e).1
theorem Oe {T :List TabD} : ∀ {l seen :List Wd} {S :List TabD},Br (Cd T) seen l= .ok S→S.map TabD.name=l∧ (∀s∈l,s∉seen) ∧l.Nodup∧ ∀t∈S,t∈T
 | [],seen,S,h=>by simp [Br] at h;subst h;simp
 | x ::l,seen,S,h=>by
  rw [Br] at h
  cases hx :Cd T seen x with
  | error m=>rw [hx] at h;cases h
  | ok t=>
   rw [hx] at h
   simp only at h
   cases hl :Br (Cd T) (seen++ [x]) l with
   | error m=>rw [hl] at h;cases h
   | ok S'=>
    rw [hl] at h
    obtain rfl :=Except.ok.inj h
    obtain ⟨h1,h2,h3,h4⟩ :=Oe hl
    rw [Cd] at hx
    cases ht :A5 T x with
    | none=>rw [ht] at hx;cases hx
    | some t'=>
     rw [ht] at hx
     simp only at hx
     split at hx
     ·cases hx
     ·rename_i hm
      obtain rfl :=Except.ok.inj hx
      have htn :t'.name=x :=by simpa using List.find?_some ht
      refine ⟨by rw [List.map_cons,htn,h1],fun s hs=> ?_,List.nodup_cons.2 ⟨fun hm'=>h2 x hm' (by simp),h3⟩,fun u hu=> ?_⟩
      ·rcases List.mem_cons.1 hs with rfl | hs
       ·rw [My] at hm;exact hm
       ·exact fun e=>h2 s hs (List.mem_append_left _ e)
      ·rcases List.mem_cons.1 hu with rfl | hu
       ·exact List.mem_of_find?_eq_some ht
       ·exact h4 u hu
end Go.Proofs.YtmgkcjiejmhgcaaGreatDoor

namespace Go.Proofs.YtmgkcjiejmhgcaaGreatDoor
open Go.RowKit Go.Maps
theorem Tz {S :List TabD} (hS :GoodS S) {e :E} {v cv :Value} {C :Nat} {w :World} (he :IsE (fun k=>k<C) w e v) (hl :IsL B8 (fun k=>k<C) w cv (Ax S)) (hC :C≤w.heap.size) (hg :geB 40 e=true) :
  Calls Tryz.prog 28 #[cv,v] w fun r w'=> ∃arr kd f,r= .returned (.tuple #[.agg arr, .int .i64 kd, .int .i64 f]) ∧EvF w w' (Bm S e) arr f :=
 (Lx S hS 40 e v cv C w he hl hC hg).mono (by
  rintro r w' ⟨⟨u,rfl,hu⟩,hb⟩
  cases hr :A3 S e with
  | error m=>
   exact ⟨_,_,_,by rw [(A9 hr).1 hu],rfl,A8 _ _ _ _ _ _ _ _,hb,by rw [Bm,hr]⟩
  | ok r2=>
   obtain ⟨op,x,s,nm,n,ao,k,c,rfl,hE⟩ := (Bi hr).1 hu
   exact ⟨_,_,_,rfl,rfl,A8 _ _ _ _ _ _ _ _,hb,by rw [Bm,hr];exact ⟨rfl,hE⟩⟩)
section
variable {w W W' :World} {D :Nat} {lab :Nat→Nat} {cat :Array Value} {v :Lv} {st :Stm}
theorem BdSt.keep17 (h :BdSt w W D lab cat v st) (kb :Md lab 17 W W') (hb :Below w.heap.size w W') :BdSt w W' D lab cat v st :=by
 obtain ⟨l0,l1,l2⟩ :=h.lows
 have e : ∀u,lab u≠17→u<W.heap.size→W'.heap[u]? =W.heap[u]? :=fun u hk hs=>kb.2 u hs hk
 exact ⟨(e _ (by omega) (lt_of_block h.cat)).trans h.cat,(e _ (by omega) (lt_of_block h.stm)).trans h.stm,(e _ (by omega) (lt_of_block h.room)).trans h.room,hb,h.big,Nat.le_trans h.dlt kb.1,h.low,(e _ (by rw [h.lz];decide) (lt_of_block h.tab)).trans h.tab,h.lz,h.own.keep ⟨kb.1,fun u hc hl=>e u (by rw [hc.2];decide) hl⟩,h.cols.keep (fun u _ hl hc=>e u (by omega) hl) kb.1,h.rows.keep (fun u _ hl hc=>e u (by omega) hl) kb.1,h.sets.keep (fun u _ hl hc=>e u (by omega) hl) kb.1,h.frm.keep (fun u _ hl hc=>e u (by omega) hl) kb.1,h.out.keep (fun u _ hl hc=>e u (by omega) hl) kb.1,IsE.keep ⟨kb.1,fun u hc hl=>e u (by rw [hc.2];decide) hl⟩ _ _ h.wher,h.order.keep (fun u _ hl hc=>e u (by omega) hl) kb.1⟩
theorem BdSt.cols2 (h :BdSt w W D lab cat v st) {S :List TabD} {ko :Option Addr} {kc :Nat} (ho :IsL B8 (fun k=>D≤k∧lab k=0) W (.slice ko (Ax S).length kc) (Ax S)) :BdSt w W D lab cat {v with S :=S,ko :=ko,kc :=kc} st := {h with own :=ho}
theorem BdSt.push_out (h :BdSt w W D lab cat v st) {cs d :List Value} {a :E} {zo :Option Addr} {zc :Nat} (ho :W.ownsRow D 34 8 (.slice v.uo st.out.length v.uc) st.out.length cs) (hall :All As (fun k=>D≤k∧lab k=10+1) W st.out cs) (ha :As.R (fun k=>D≤k∧lab k=10+1) W a d)
  (hn :W'.ownsRow D 34 8 (.slice zo (st.out.length+1) zc) (st.out.length+1) (cs++d)) (hg :W.grownBy W' (Value.slice v.uo st.out.length v.uc).ownBlock) (hat : (Value.slice zo (st.out.length+1) zc).ownBlock= (Value.slice v.uo st.out.length v.uc).ownBlock∨ (Value.slice zo (st.out.length+1) zc).ownBlock=some W.heap.size) :
  (W'.frozen? ⟨w.heap.size+1,8,none⟩ =false) ∧BdSt w (W'.setCell ⟨w.heap.size+1,8,none⟩ (.slice zo (st.out.length+1) zc)) D (C3 lab W.heap.size 10) cat {v with uo :=zo,uc :=zc} {st with out :=st.out++ [a]} :=by
 have hp :=Ck.push (c :=10) (K :=As) (lab :=lab) ho h.out.2 hall ha hn hg hat
 have he :=Do lab W.heap.size 10
 have h1 :=h.ext he
 obtain ⟨l0,l1,l2⟩ :=h.lows
 have e0 : ∀u,C3 lab W.heap.size 10 u≠10→u<W.heap.size→W'.heap[u]? =W.heap[u]? :=fun u hk hs=>hg.block u hs fun hb=>hk (by rw [he u hs];exact h.out.2 u hb.symm)
 have hlt :=h.dlt
 have hbig :=h.big
 have e : ∀u,C3 lab W.heap.size 10 u≠10→u≠w.heap.size+1→u<W.heap.size→ (W'.setCell ⟨w.heap.size+1,8,none⟩ (.slice zo (st.out.length+1) zc)).heap[u]? =W.heap[u]? :=fun u hk hne hs=> (Below.heap_setCell _ _ _ u (show u≠w.heap.size+1 from hne)).trans (e0 u hk hs)
 have hw : ∀u,u<D→C3 lab W.heap.size 10 u=0 :=h1.low
 have hs :W.heap.size≤ (W'.setCell ⟨w.heap.size+1,8,none⟩ (.slice zo (st.out.length+1) zc)).heap.size :=by simp [World.setCell];exact hg.size
 have hstm :W'.heap[w.heap.size+1]? =some (.cells (v.arr st) 36) := (e0 _ (by rw [hw _ (by omega)];decide) (lt_of_block h.stm)).trans h.stm
 have hb1 :v.b≠w.heap.size+1 :=fun e=>by
  have h1 :=h.tab
  rw [e,h.stm] at h1
  exact absurd (show (20 :Nat) =2 from congrArg Array.size (Obj.cells.inj (Option.some.inj h1)).1) (by decide)
 have hu : ∀u,D≤u→u≠w.heap.size+1 :=fun u hu=>by omega
 refine ⟨by simp only [World.frozen?,hstm];rfl,(e _ (by rw [hw _ (by omega)];decide) (by omega) (lt_of_block h.cat)).trans h.cat, ?_,(e _ (by rw [hw _ (by omega)];decide) (by omega) (lt_of_block h.room)).trans h.room, ?_,h.big,Nat.le_trans h.dlt hs,hw,(e _ (by rw [h1.lz];decide) hb1 (lt_of_block h.tab)).trans h.tab,h1.lz,h1.own.keep ⟨hs,fun u hc hl=>e u (by rw [hc.2];decide) (hu u hc.1) hl⟩,h1.cols.keep (fun u hd hl hc=>e u (by omega) (hu u hd) hl) hs,h1.rows.keep (fun u hd hl hc=>e u (by omega) (hu u hd) hl) hs,h1.sets.keep (fun u hd hl hc=>e u (by omega) (hu u hd) hl) hs,h1.frm.keep (fun u hd hl hc=>e u (by omega) (hu u hd) hl) hs, ?_,IsE.keep ⟨hs,fun u hc hl=>e u (by rw [hc.2];decide) (hu u hc.1) hl⟩ _ _ h1.wher,h1.order.keep (fun u hd hl hc=>e u (by omega) (hu u hd) hl) hs⟩
 ·have :=upd hstm 8 (.slice zo (st.out.length+1) zc)
  simp only [List.setIfInBounds_toArray,List.set_cons_zero,List.set_cons_succ] at this
  simpa only [Lv.arr,List.length_append,List.length_singleton] using this
 ·exact (h.bel.grown hg h.bel.size fun k hk=>Nat.le_trans (by omega) (ho.lt k hk).1).setCell (show w.heap.size≤w.heap.size+1 by omega) _
 ·simp only [List.length_append,List.length_singleton]
  exact hp.keep (fun u hd _ _=>Below.heap_setCell _ _ _ u (show u≠w.heap.size+1 from hu u hd)) (by simp [World.setCell])
end
end Go.Proofs.YtmgkcjiejmhgcaaGreatDoor

namespace Go.Proofs.YtmgkcjiejmhgcaaGreatDoor
open Go.RowKit Go.Maps
theorem Yp {t :TabD} (h :Cv t=true) :t.name.size≠0 :=by
 simp only [Cv,nm,Bool.and_eq_true,decide_eq_true_eq] at h
 omega
structure Tv where
 nm :Wd
 ao :Option Addr
 n :Nat
 c :Nat
abbrev Tv.arr (u :Tv) :Array Value := #[.string u.nm, .slice u.ao u.n u.c]
theorem R5 (u :Tv) : ∀z∈u.arr.toList,z.oneCell'=true :=by
 intro z hz
 simp only [List.mem_cons,List.not_mem_nil,or_false] at hz
 rcases hz with rfl | rfl<;>rfl
end Go.Proofs.YtmgkcjiejmhgcaaGreatDoor

