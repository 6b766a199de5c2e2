/-
  4 texts of this proof in one, in build order: BGaS, BAll, BPre, BMid.
-/
import Derived.Deep.CutBlock
import Derived.Deep.DeepCutAuto
import Derived.Test.YtmgkcjiejmhgcaaGreatDoorJ26
import Derived.Test.YtmgkcjiejmhgcaaGreatDoorJ36
import Derived.Test.YtmgkcjiejmhgcaaGreatDoorJ44
import Derived.Test.YtmgkcjiejmhgcaaGreatDoorJ45
import Derived.Test.YtmgkcjiejmhgcaaGreatDoorJ46
set_option linter.unusedSimpArgs false
set_option linter.unusedVariables false
namespace Go.Proofs.YtmgkcjiejmhgcaaGreatDoor
open Go.RowKit Go.Maps
set_option maxRecDepth 100000 in
set_option maxHeartbeats 8000000 in
theorem W8 (X :Except Int Stm) (w W :World) (cat arr0 :Array Value) (hstm :W.heap[w.heap.size+1]? =some (.cells arr0 36)) (hbel :Below w.heap.size w W) (hbig :w.heap.size+3≤W.heap.size) (okb :Bool) (A :List E) (zo :Option Addr) (zc n C :Nat) (hC :C≤w.heap.size)
  (hA :Gath C (w.heap.size+3) W zo zc n A) (rows :List (Wd×E)) (ro :Option Addr) (rc :Nat) (h5 :arr0[6]? =some (.slice ro rows.length rc)) (hl :IsL C5 (fun k=>k<C) w (.slice ro rows.length rc) rows) (hn :A.length+rows.length≤80000000)
  (hgo : ∀ (W' :World) (zo' :Option Addr) (zc' n' :Nat) (q0 q1 q5 q9 q10 q11 q12 q13 q14 v15 v16 v17 :Value) (l :List Value),l.length=494→Below (w.heap.size+3) W W'→Gath C (w.heap.size+3) W' zo' zc' n' (A++rows.map Prod.snd) →
   Code.wp Tryz.prog (Db 6 (C4 Tryz.f7)) (bodyPost Tryz.prog Tryz.f7 (Dc X w)) ⟨frm w.heap.size q0 q1 q5 (.bool okb) (.slice zo' n' zc') q9 q10 q11 q12 q13 q14 v15 v16 v17 l,[]⟩ W')
  (q0 q1 q5 q9 q10 q11 q12 q13 q14 v15 v16 v17 :Value) (l :List Value) (hll :l.length=494) :
  Code.wp Tryz.prog (Db 5 (C4 Tryz.f7)) (bodyPost Tryz.prog Tryz.f7 (Dc X w)) ⟨frm w.heap.size q0 q1 q5 (.bool okb) (.slice zo n zc) q9 q10 q11 q12 q13 q14 v15 v16 v17 l,[]⟩ W :=by
 obtain ⟨q,rfl⟩ :=lay hll
 clear hll
 have HG :Hid _ :=hgo
 have k5 :=Aa hstm h5
 have HL :Hid _ :=hl
 obtain ⟨p0,ei,e0,e1,e2⟩ :=info_parts Eb
 clear hgo h5 hl hstm
 conv=>arg 2;whnf
 refine wp_seq_k fun K1 hK1=> ?_
 have HK1 :Hid _ :=hK1
 clear hK1
 simp only [frm,List.range,List.range.loop,List.map]
 go_wp2_with fail
 clear k5
 go_loopw [8,88] (fun av iv wr=> ∃ (k :Nat) (zo' :Option Addr) (zc' n' :Nat),k≤rows.length∧iv= .int .i64 k∧av= .slice zo' n' zc'∧Gath C (w.heap.size+3) wr zo' zc' n' (A++ (rows.take k).map Prod.snd) ∧Below (w.heap.size+3) W wr) (fun _ iv _=>rows.length - (intOf iv).toNat)
 case atStart=>exact ⟨0,zo,zc,n,Nat.zero_le _,rfl,rfl,by simpa using hA,Below.refl _ _⟩
 case round=>
  obtain ⟨k,zo',zc',n',hk,rfl,rfl,hG,hbw⟩ :=hrel
  obtain ⟨V,hV⟩ : ∃V,V=wr := ⟨_,rfl⟩
  subst hV
  clear hA
  by_cases hlt :k<rows.length
  ·obtain ⟨⟨cn,ex⟩,hr⟩ : ∃r,rows[k]? =some r := ⟨_,List.getElem?_eq_getElem hlt⟩
   have HFL :Hid ((rows.take (k+1)).map Prod.snd= (rows.take k).map Prod.snd++ [ex]) :=by show _=_;rw [List.take_add_one,hr];simp
   have hbwW :Below w.heap.size w V :=hbel.trans (hbw.mono (by omega))
   obtain ⟨b,off,cs0,hbo,_,hbl,hRR,hcell⟩ :=Av (IsL.keep HL.out (Ag (hbwW.mono hC))) hr
   cases hbo
   obtain ⟨d,hcs,hd8,hE⟩ :=hRR
   have honed : ∀u∈d,u.oneCell'=true :=Jc ex d ⟨hd8,hE⟩
   have hp :RowIn V b (off+k*9) 9 cs0 := ⟨hcell,by rw [hcs];simp [hd8],all_oneCell_toArray (by rw [hcs];intro u hu;rcases List.mem_cons.1 hu with rfl | hu;rfl;exact honed u hu)⟩
   have hp1 :=hp.range;have hp2 : (Tryz.prog.info? 56).map (·.size) =some cs0.length :=Xx.trans (congrArg some hp.len.symm);have hp3 :=hp.one;have hp4 : (Tryz.prog.info? 56).map (·.size) =some cs0.toArray.size :=hp2
   have hp5 :=Ab V (.cells F4 56);have hp6 :Hid (9=cs0.toArray.size) :=hp.len.symm
   have hb3 :=Below.row (Aq V (.cells F4 56)) (Nat.le_refl _) cs0.toArray
   have hxb : ((V.alloc (.cells F4 56)).setRow V.heap.size cs0.toArray).heap[V.heap.size]? =some (.cells cs0.toArray 56) :=An hp5
   have ra :=Ga hxb (o :=1) (cs :=d) (by rw [hcs];simp)
   have hdi : (Tryz.prog.info? 34).map (·.size) =some d.length :=Ai.trans (congrArg some hd8.symm)
   generalize hV1 : (V.alloc (.cells F4 56)).setRow V.heap.size cs0.toArray=V1 at*
   have HV1 :Hid _ :=hV1
   obtain ⟨hl1,css,hos,hall⟩ :=hG
   rw [List.length_append,List.length_map,List.length_take] at hl1
   have hnb :n'+1≤80000001 :=by omega
   have j0 : (0 :Int) ≤ (k :Int) :=by omega
   have j1 : (k :Int) < (rows.length :Int) :=by omega
   have hks :Hid ((Fk d).size=8) :=hd8
   have hb1 :=Aq V1 (.cells d.toArray 34)
   have hb31 :=hb3.trans (hb1.mono hb3.size)
   have hosB : (V1.alloc (.cells d.toArray 34)).ownsRow (w.heap.size+3) 34 (Fk d).size (.slice zo' n' zc') n' css :=by rw [hks.out];exact Az hos hb31
   have hfix :=Gp V1 d 34
   have hbb :w.heap.size+3≤V.heap.size :=Nat.le_trans hbig hbw.size
   have hsB :w.heap.size+3≤ (V1.alloc (.cells d.toArray 34)).heap.size :=Nat.le_trans hbb hb31.size
   have hfo :=Y8 hd8
   have hEE :As.R (fun k=>k<C) V ex d := ⟨hd8,hE⟩
   rw [←hfo] at hb1 hosB hfix hsB hb31
   have HL1 :Hid (A.length+ (rows.take k).length=n') :=by show _=_;rw [List.length_take];exact hl1
   have HEE :Hid _ :=hEE
   clear hfo hr hcell hcs hE hV1 hxb hl1 hp hEE
   go_upto_region 12 with (first | (refine wpList_load_mid rfl 56 _ rfl b (off+k*9) ?_ cs0 _ hp1 Tryz.underlying56 rfl ?_ ?_;exact rfl;exact hp2) | (refine wpList_store_row rfl 56 _ _ rfl V.heap.size cs0.toArray ?_ ?_ 56 F4 ?_ ?_ ?_ ?_ ?_;exact rfl;exact rfl;exact hp5;exact hp4;exact hp6.out;exact hp3))
   rw [HV1.out]
   simp only [Act.put]
   go_wp2_with (first | (refine wpList_load_mid rfl 34 _ rfl V.heap.size 1 ?_ d _ ra Tryz.underlying34 rfl ?_ ?_;exact rfl;exact hdi) | (at_builtin;go_must (refine By (K :=Fk d) (l := [()]) rfl _ _ 30 rfl (w.heap.size+3) 34 p0 _ 104 Tryz.underlying30 ei e0 (e1.trans hks.out.symm) e2 (show (8 :Nat) =_ from hks.out.symm) (by rw [hks.out];decide) _ n' css rfl hosB rfl hfix (Hj honed) (by simp only [maxLen,List.length_singleton];omega) (by simp only [List.length_singleton];omega) hsB ?h2)))
   case h2=>
    intro z' W4 csn hown hall4 hg hat
    have hcsn :=Hi hall4
    subst hcsn
    rw [hks.out] at hown
    have hb4 := (hbw.trans (hb31.mono hbb)).grown hg hsB fun k hk=> (hos.lt k hk).1
    obtain ⟨zo4,zc4,rfl,hA4⟩ :=L5 (l := [ex]) (m :=1) (by omega) hb31 (by rw [List.length_append,List.length_map];exact HL1.out) rfl hos hall (All.one (As.keep (Ar hb31) HEE.out)) hown hg
    rw [List.append_assoc,←HFL.out] at hA4
    clear hown hat hg hall4 hos hall hosB hfix
    go_wp2_with fail
    go_roundw
    case rel=>exact ⟨k+1,zo4,zc4,_,by omega,by go_num,rfl,hA4,hb4⟩
    case measure=>simp [intOf];omega
  ·have hkn :k=rows.length :=by omega
   subst hkn
   rw [List.take_length] at hG
   have j1 : ¬ ((rows.length :Int) < (rows.length :Int)) :=by omega
   go_wp2_with fail
   refine HK1.out _ _ ?_
   exact HG.out V zo' zc' n' _ _ _ _ _ _ _ _ _ _ _ _ _ (by kernel_rfl) hbw hG
end Go.Proofs.YtmgkcjiejmhgcaaGreatDoor

namespace Go.Proofs.YtmgkcjiejmhgcaaGreatDoor
open Go.RowKit Go.Maps
def Mi (st :Stm) :List E :=st.out++st.order++st.rows.flatten++st.sets.map Prod.snd++ (if st.wher.opn=0 then [] else [st.wher])
def okB (ct :CatD) (st :Stm) :Bool :=Cq ct&&decide (1≤st.kind) &&decide (st.kind≤7)
theorem Px (st :Stm) : (Mi st).all (geB 40) =De st :=by
 have e1 : ∀l :List E,l.all (geB 40) = !Da l :=fun l=>by
  rw [Da,Bool.eq_iff_iff]
  simp [Eh,List.any_eq_false]
 have e2 :st.rows.flatten.all (geB 40) = !st.rows.any Da :=by
  rw [Bool.eq_iff_iff]
  simp only [List.all_eq_true,List.mem_flatten,Bool.not_eq_true',List.any_eq_false]
  constructor
  ·intro h r hr
   have :=e1 r
   rw [Bool.not_eq_true,←Bool.not_eq_true',←this,List.all_eq_true]
   exact fun x hx=>h x ⟨r,hr,hx⟩
  ·rintro h x ⟨r,hr,hx⟩
   have h1 :=h r hr
   have h2 :=e1 r
   rw [Bool.not_eq_true,←Bool.not_eq_true',←h2,List.all_eq_true] at h1
   exact h1 x hx
 have e3 : (st.sets.map Prod.snd).all (geB 40) = !st.sets.any fun t=>Eh t.2 :=by
  rw [Bool.eq_iff_iff]
  simp [Eh,List.any_eq_false]
 unfold Mi De
 rw [List.all_append,List.all_append,List.all_append,List.all_append,e1,e1,e2,e3]
 by_cases h :st.wher.opn=0
 ·simp only [h,if_true,List.all_nil,decide_true,Bool.true_or,Bool.and_true]
  cases Da st.out<;>cases Da st.order<;>cases st.rows.any Da<;>cases (st.sets.any fun t=>Eh t.2) <;>rfl
 ·simp only [h,if_false,List.all_cons,List.all_nil,decide_false,Bool.false_or,Bool.and_true,Eh,Bool.not_not]
  cases Da st.out<;>cases Da st.order<;>cases st.rows.any Da<;>cases (st.sets.any fun t=> !geB 40 t.2) <;>cases geB 40 st.wher<;>rfl
end Go.Proofs.YtmgkcjiejmhgcaaGreatDoor

namespace Go.Proofs.YtmgkcjiejmhgcaaGreatDoor
open Go.RowKit Go.Maps
theorem G0.append {α :Type} {K :Elem α} {ty :TypeId} {C base :Nat} {w w' :World} {z z' :Value} {A l :List α} {xs cs :List Value} (hC :C≤base) (h1 :w.ownsRow base ty K.size z A.length xs) (h3 :All K (fun k=>k<C) w A xs)
  (ha :All K (fun k=>k<C) w l cs) (hn :w'.ownsRow base ty K.size z' (A.length+l.length) (xs++cs)) (hg :w.grownBy w' z.ownBlock) :G0 K ty base (fun k=>k<C) w' z' (A++l) :=by
 refine ⟨xs++cs,by rw [List.length_append];exact hn,fun k hk hf=>by have := (hn.lt k hk).1;omega,(h3.append ha).keep ⟨hg.size,fun k hk hl=>hg.block k hl fun e=> ?_⟩⟩
 have := (h1.lt k e.symm).1
 omega
structure PrSt (w W :World) (cat arr :Array Value) :Prop where
 cat :W.heap[w.heap.size]? =some (.cells cat 25)
 stm :W.heap[w.heap.size+1]? =some (.cells arr 36)
 room :W.heap[w.heap.size+2]? =some (.cells Ah 36)
 bel :Below w.heap.size w W
 big :w.heap.size+3≤W.heap.size
theorem PrSt.below {w W W' :World} {cat arr :Array Value} (h :PrSt w W cat arr) (hb :Below (w.heap.size+3) W W') :PrSt w W' cat arr :=
 ⟨(hb.block _ (by omega)).trans h.cat,(hb.block _ (by omega)).trans h.stm,(hb.block _ (by omega)).trans h.room,h.bel.trans (hb.mono (by omega)),Nat.le_trans h.big hb.size⟩
theorem PrSt.grown {w W W' :World} {cat arr :Array Value} {ty :TypeId} {n m :Nat} {z :Value} {xs :List Value} (h :PrSt w W cat arr) (hg :W.grownBy W' z.ownBlock) (ho :W.ownsRow (w.heap.size+3) ty n z m xs) :PrSt w W' cat arr :=
 h.below ((Below.refl _ _).grown hg h.big fun k hk=> (ho.lt k hk).1)
set_option maxRecDepth 100000 in
set_option maxHeartbeats 8000000 in
theorem Z4 (ct :CatD) (tv iv :Value) (st :Stm) (o1 :Option Addr) (c1 :Nat) (o2 :Option Addr) (c2 :Nat) (o3 :Option Addr) (c3 :Nat) (o4 :Option Addr) (c4 :Nat) (o5 :Option Addr) (c5 :Nat) (op xk xn :Int) (xs s nmv :Wd) (n8 :Int) (o6 :Option Addr) (k6 c6 :Nat) (o7 :Option Addr) (c7 :Nat) (C :Nat) (w :World) (hc :Bh (fun k=>k<C) w ct (.agg #[tv,iv]))
  (i5 :IsL As (fun k=>k<C) w (.slice o5 st.out.length c5) st.out) (i7 :IsL As (fun k=>k<C) w (.slice o7 st.order.length c7) st.order) (hC :C≤w.heap.size) (hen :EnvM w) (hlen :st.out.length+st.order.length≤80000000) (R :Ending→World→Prop)
  (hgo : ∀ (W :World) (zo :Option Addr) (zc n :Nat) (q0 q1 q5 q9 q10 q11 q12 q13 q14 v15 v16 v17 :Value) (l :List Value),l.length=494→PrSt w W #[tv,iv] (sA st.kind st.name st.table st.col (.slice o1 st.cols.length c1) (.slice o2 st.rows.length c2) (.slice o3 st.sets.length c3) (.slice o4 st.frm.length c4) (.slice o5 st.out.length c5) op xk xn xs s nmv n8 (.slice o6 k6 c6) (.slice o7 st.order.length c7) st.down st.n) →Gath C (w.heap.size+3) W zo zc n (st.out++st.order) →
   Code.wp Tryz.prog (Db 4 (C4 Tryz.f7)) (bodyPost Tryz.prog Tryz.f7 R) ⟨frm w.heap.size q0 q1 q5 (.bool (okB ct st)) (.slice zo n zc) q9 q10 q11 q12 q13 q14 v15 v16 v17 l,[]⟩ W) :
  Calls Tryz.prog 7 #[.agg #[tv,iv], .agg (sA st.kind st.name st.table st.col (.slice o1 st.cols.length c1) (.slice o2 st.rows.length c2) (.slice o3 st.sets.length c3) (.slice o4 st.frm.length c4) (.slice o5 st.out.length c5) op xk xn xs s nmv n8 (.slice o6 k6 c6) (.slice o7 st.order.length c7) st.down st.n)] w R :=by
 obtain ⟨p0,ei,e0,e1,e2⟩ :=info_parts Eb
 have hb3 :=Fc w (.cells #[tv,iv] 25) (.cells (sA st.kind st.name st.table st.col (.slice o1 st.cols.length c1) (.slice o2 st.rows.length c2) (.slice o3 st.sets.length c3) (.slice o4 st.frm.length c4) (.slice o5 st.out.length c5) op xk xn xs s nmv n8 (.slice o6 k6 c6) (.slice o7 st.order.length c7) st.down st.n) 36) (.cells Ah 36)
 have S0 :PrSt w (((w.alloc (.cells #[tv,iv] 25)).alloc (.cells (sA st.kind st.name st.table st.col (.slice o1 st.cols.length c1) (.slice o2 st.rows.length c2) (.slice o3 st.sets.length c3) (.slice o4 st.frm.length c4) (.slice o5 st.out.length c5) op xk xn xs s nmv n8 (.slice o6 k6 c6) (.slice o7 st.order.length c7) st.down st.n) 36)).alloc (.cells Ah 36)) #[tv,iv] (sA st.kind st.name st.table st.col (.slice o1 st.cols.length c1) (.slice o2 st.rows.length c2) (.slice o3 st.sets.length c3) (.slice o4 st.frm.length c4) (.slice o5 st.out.length c5) op xk xn xs s nmv n8 (.slice o6 k6 c6) (.slice o7 st.order.length c7) st.down st.n) := ⟨Ae (Ae (Ab _ _) _) _,Ae (A0 w _ _) _,Dl w _ _ _,hb3,by simp⟩
 generalize hW : ((w.alloc (.cells #[tv,iv] 25)).alloc (.cells (sA st.kind st.name st.table st.col (.slice o1 st.cols.length c1) (.slice o2 st.rows.length c2) (.slice o3 st.sets.length c3) (.slice o4 st.frm.length c4) (.slice o5 st.out.length c5) op xk xn xs s nmv n8 (.slice o6 k6 c6) (.slice o7 st.order.length c7) st.down st.n) 36)).alloc (.cells Ah 36) =W0 at hb3 S0
 have HW :Hid _ :=hW
 have HCat :=Kv ct (.agg #[tv,iv]) C W0 (by obtain ⟨a,b,e,h1,h2⟩ :=hc;exact ⟨a,b,e,h1.keep (Ag (hb3.mono hC)),h2.keep (Ag (hb3.mono hC))⟩) (Nat.le_trans hC hb3.size) (hen.next hb3)
 rw [Rt] at HCat
 have HG :Hid _ :=hgo
 have ct0 :=Aa S0.cat (j :=0) rfl
 have ct1 :=Aa S0.cat (j :=1) rfl
 have k0 :=Aa S0.stm (j :=0) rfl
 clear hW hen hgo hc
 go_enter Tryz.func7,Tryz.ntmps7
 go_upto_region 2 with fail
 rw [HW.out]
 go_cut [7] from 56 to 67 (fun c wx=>c= .bool (okB ct st) ∧Below W0.heap.size W0 wx)
 case first=>
  cases hcb :Cq ct
  ·have HB :Hid (okB ct st=false) :=by show _=_;rw [okB,hcb];rfl
   rw [hcb] at HCat
   go_wp2_with (go_at_call 10;go_fit HCat;rintro e w1 ⟨rfl,hb1⟩)
   go_meet
   case rel=>exact ⟨by rw [HB.out];all_goals (simp;omega),hb1⟩
  ·rw [hcb] at HCat
   by_cases hk1 :1≤st.kind
   ·by_cases hk7 :st.kind≤7
    ·have HB :Hid (okB ct st=true) :=by show _=_;rw [okB,hcb];simp [hk1,hk7]
     go_wp2_with (go_at_call 10;go_fit HCat;rintro e w1 ⟨rfl,hb1⟩;have k1 := (hb1.cell (p := ⟨w.heap.size+1,0,none⟩) (lt_of_block S0.stm)).trans k0)
     go_meet
     case rel=>exact ⟨by rw [HB.out];all_goals (simp;omega),hb1⟩
    ·have HB :Hid (okB ct st=false) :=by show _=_;rw [okB,hcb];simp [hk1,hk7]
     go_wp2_with (go_at_call 10;go_fit HCat;rintro e w1 ⟨rfl,hb1⟩;have k1 := (hb1.cell (p := ⟨w.heap.size+1,0,none⟩) (lt_of_block S0.stm)).trans k0)
     go_meet
     case rel=>exact ⟨by rw [HB.out];all_goals (simp;omega),hb1⟩
   ·have HB :Hid (okB ct st=false) :=by show _=_;rw [okB,hcb];simp [hk1]
    go_wp2_with (go_at_call 10;go_fit HCat;rintro e w1 ⟨rfl,hb1⟩;have k1 := (hb1.cell (p := ⟨w.heap.size+1,0,none⟩) (lt_of_block S0.stm)).trans k0)
    go_meet
    case rel=>exact ⟨by rw [HB.out];all_goals (simp;omega),hb1⟩
 case rest=>
  obtain ⟨rfl,hb1⟩ :=hcut
  obtain ⟨W1,hW1⟩ : ∃V,V=wc := ⟨_,rfl⟩
  subst hW1
  have S1 :=S0.below (hb1.mono S0.big)
  clear HCat ct0 ct1 k0 S0
  generalize okB ct st=bk at*
  have a8 :=Aa S1.stm (j :=8) rfl
  have a17 :=Aa S1.stm (j :=17) rfl
  have l5 :IsL As (fun k=>k<C) W1.drew _ _ :=i5.keep (Ag ((S1.bel.mono hC).drew))
  have l7 :IsL As (fun k=>k<C) W1.drew _ _ :=i7.keep (Ag ((S1.bel.mono hC).drew))
  have hbg1 :=S1.big
  go_upto_region 3 with fail
  rename_i K3 hK3
  have HK3 :Hid _ :=hK3
  clear hK3
  refine Fb (S := (fun W=>W.cell? ⟨w.heap.size+1,8,none⟩ =some (.slice o5 st.out.length c5) ∧W.cell? ⟨w.heap.size+1,17,none⟩ =some (.slice o7 st.order.length c7))) (z :=6) (by kernel_rfl) ?_
  refine Bc (i :=0) (v := ?_) rfl (by kernel_rfl) (by kernel_rfl) (by kernel_rfl) (by kernel_rfl) (fun _ _ _ h=>h) (Or.inl ⟨by rfl, ?_⟩) ⟨a8,a17⟩ ?_
  rotate_left
  ·intro W0 hSw;(try dsimp only at hSw);go_simp;all_goals (with_reducible rfl)
  try simp only [Act.put,List.setIfInBounds_toArray,List.set_cons_zero,List.set_cons_succ]
  refine Bc (i :=1) (v := ?_) rfl (by kernel_rfl) (by kernel_rfl) (by kernel_rfl) (by kernel_rfl) (fun _ _ _ h=>h) (Or.inl ⟨by rfl, ?_⟩) ⟨a8,a17⟩ ?_
  rotate_left
  ·intro W0 hSw;(try dsimp only at hSw);go_simp;all_goals (with_reducible rfl)
  try simp only [Act.put,List.setIfInBounds_toArray,List.set_cons_zero,List.set_cons_succ]
  refine Bc (i :=3) (v := ?_) rfl (by kernel_rfl) (by kernel_rfl) (by kernel_rfl) (by kernel_rfl) (fun _ _ _ h=>h) (Or.inl ⟨by rfl, ?_⟩) ⟨a8,a17⟩ ?_
  rotate_left
  ·intro W0 hSw;(try dsimp only at hSw);go_simp;all_goals (with_reducible rfl)
  try simp only [Act.put,List.setIfInBounds_toArray,List.set_cons_zero,List.set_cons_succ]
  refine Bc (i :=4) (v := ?_) rfl (by kernel_rfl) (by kernel_rfl) (by kernel_rfl) (by kernel_rfl) (fun _ _ _ h=>h) (Or.inl ⟨by rfl, ?_⟩) ⟨a8,a17⟩ ?_
  rotate_left
  ·intro W0 hSw;(try dsimp only at hSw);go_simp;all_goals (with_reducible rfl)
  try simp only [Act.put,List.setIfInBounds_toArray,List.set_cons_zero,List.set_cons_succ]
  refine Bd (i :=2) (by kernel_rfl) rfl (fun K hK=> ?_)
  refine Dz (K :=As) (l :=st.out) rfl _ _ 30 rfl (w.heap.size+3) 34 p0 _ 104 Tryz.underlying30 ei e0 e1 e2 rfl (by decide) _ 0 [] rfl (World.ownsRow_nil _ _ _ _) rfl l5 Jc (by simp only [maxLen];omega) (by omega) hbg1 ?_;intro z5 W2 cs5 own5 all5 g5 at5;have hk5 :Below (w.heap.size+3) W1 W2 := ((Below.refl _ _).drew).grown g5 hbg1 (fun k hk=>absurd (show (none :Option Nat) =some k from hk) (by simp));have S2 :=S1.below hk5;have hO5 :G0 As 34 (w.heap.size+3) (fun k=>k<C) W2 z5 ([] ++st.out) :=G0.append (w :=W1.drew) (by omega) (World.ownsRow_nil _ _ _ _) rfl all5 own5 g5;have l7b :IsL As (fun k=>k<C) W2 _ _ :=i7.keep (Ag (S2.bel.mono hC));have b8 :=Aa S2.stm (j :=8) rfl;have b17 :=Aa S2.stm (j :=17) rfl;obtain ⟨xs5,own5',_,all5'⟩ :=hO5;simp only [List.nil_append] at own5' all5';obtain ⟨z5o,z5c,hz5⟩ := (Cu.of_own (F :=fun _=>True) own5' (fun _ _=>trivial)).shape;subst hz5;have hbg2 :=S2.big
  refine hK.out _ _ (fun _=> ⟨b8,b17⟩) ?_
  clear hK K
  try simp only [Act.put,List.setIfInBounds_toArray,List.set_cons_zero,List.set_cons_succ]
  refine Bd (i :=5) (by kernel_rfl) rfl (fun K hK=> ?_)
  refine Dz (K :=As) (l :=st.order) rfl _ _ 30 rfl (w.heap.size+3) 34 p0 _ 104 Tryz.underlying30 ei e0 e1 e2 rfl (by decide) _ st.out.length xs5 rfl own5' rfl l7b Jc (by simp only [maxLen];omega) (by omega) hbg2 ?_;intro z7 W3 cs7 own7 all7 g7 at7;have hk7 :Below (w.heap.size+3) W2 W3 := (Below.refl _ _).grown g7 hbg2 (fun k hk=> (own5'.lt k hk).1);have S3 :=S2.below hk7;have hO7 :G0 As 34 (w.heap.size+3) (fun k=>k<C) W3 z7 (st.out++st.order) :=G0.append (by omega) own5' all5' all7 own7 g7
  refine hK.out _ _ (fun _=> ⟨Aa S3.stm (j :=8) rfl,Aa S3.stm (j :=17) rfl⟩) ?_
  clear hK K
  try simp only [Act.put,List.setIfInBounds_toArray,List.set_cons_zero,List.set_cons_succ]
  refine Bd (i :=6) (by kernel_rfl) rfl (fun K hK=> ?_)
  go_simp
  go_wp2_with fail
  refine hK.out _ _ (fun h=>nomatch (show true=false from h)) ?_
  clear hK K
  try simp only [Act.put,List.setIfInBounds_toArray,List.set_cons_zero,List.set_cons_succ]
  refine Hv (by kernel_rfl) ?_ _
  refine HK3.out _ _ ?_
  obtain ⟨xs7,own7',_,all7'⟩ :=hO7
  obtain ⟨z7o,z7c,hz7⟩ := (Cu.of_own (F :=fun _=>True) own7' (fun _ _=>trivial)).shape
  subst hz7
  exact HG.out W3 z7o z7c _ _ _ _ _ _ _ _ _ _ _ _ _ _ (by kernel_rfl) S3 ⟨rfl,xs7,own7',all7'⟩
end Go.Proofs.YtmgkcjiejmhgcaaGreatDoor

namespace Go.Proofs.YtmgkcjiejmhgcaaGreatDoor
open Go.RowKit Go.Maps
def Gb (ct :CatD) (s :Wd) :TabD := (A5 ct.tables s).getD ⟨noW,[]⟩
theorem Abc {ct :CatD} {tv iv :Value} (hiv :Dx iv) (s :Wd) {C :Nat} {w :World} (hl :IsL A4 (fun k=>k<C) w tv ct.tables) (hC :C≤w.heap.size) :
  Calls Tryz.prog 18 #[.agg #[tv,iv], .string s] w fun r w'=> ∃u :Tv,r= .returned (.tuple #[.agg u.arr, .bool (A5 ct.tables s).isSome]) ∧ (A4.R (fun k=>k<C) w' (Gb ct s) u.arr.toList∧ (A5 ct.tables s=none→u.nm=noW∧u.ao=none∧u.n=0∧u.c=0)) ∧Below w.heap.size w w' :=
 (F8 ct.tables tv iv hiv s C w hl hC).mono (by
  rintro r w' ⟨nmv,ao,n,c,there,rfl,hm,hb⟩
  refine ⟨⟨nmv,ao,n,c⟩, ?_, ?_,hb⟩
  ·cases hf :A5 ct.tables s<;>rw [hf] at hm<;>rw [hm.1] <;>rfl
  ·rw [Gb]
   cases hf :A5 ct.tables s with
   | none=>
    rw [hf] at hm
    obtain ⟨_,rfl,rfl,rfl,rfl⟩ :=hm
    exact ⟨⟨_,rfl,IsL.nil _ _ _⟩,fun _=> ⟨rfl,rfl,rfl,rfl⟩⟩
   | some t=>
    rw [hf] at hm
    obtain ⟨_,rfl,h3⟩ :=hm
    exact ⟨⟨_,rfl,h3⟩,fun h=>by cases h⟩)
set_option maxRecDepth 100000 in
set_option maxHeartbeats 8000000 in
theorem Z5 (ct :CatD) (te io :Option Addr) (tc ic C :Nat) (X :Except Int Stm) (w W :World) (st :Stm) (arr0 :Array Value) (hz0 :arr0.size=20) (hone0 :arr0.all (·.oneCell') =true) (hcat :W.heap[w.heap.size]? =some (.cells #[.slice te ct.tables.length tc, .slice io ct.indexes.length ic] 25)) (hstm :W.heap[w.heap.size+1]? =some (.cells arr0 36)) (hroom :W.heap[w.heap.size+2]? =some (.cells Ah 36)) (hbel :Below w.heap.size w W) (hbig :w.heap.size+3≤W.heap.size)
  (htl :IsL A4 (fun k=>k<C) w (.slice te ct.tables.length tc) ct.tables) (hC :C≤w.heap.size) (hR :Abs.R (fun k=>k<C) W st arr0.toList) (hf :FitP st) (hcl : (Gb ct st.table).cols.length≤1000000)
  (hgo : ∀ (v :Lv) (lab :Nat→Nat) (W4 :World) (q0 q1 q5 v7 v8 q9 q10 q11 q12 q13 q14 :Value) (l :List Value),l.length=494→BdSt w W4 W.heap.size lab #[.slice te ct.tables.length tc, .slice io ct.indexes.length ic] v st→Mf ct st.table C W4 v→v.S= [Gb ct st.table] →
   Code.wp Tryz.prog (Db 12 (C4 Tryz.f7)) (bodyPost Tryz.prog Tryz.f7 (Dc X w)) ⟨frm w.heap.size q0 q1 q5 v7 v8 q9 q10 q11 q12 q13 q14 (.pointer (some ⟨v.b,0,none⟩)) (.bool (A5 ct.tables st.table).isSome) (.slice v.ko (Ax v.S).length v.kc) l,[]⟩ W4)
  (q0 q1 q5 v7 v8 q9 q10 q11 q12 q13 q14 v15 v16 v17 :Value) (l :List Value) (hll :l.length=494) :
  Code.wp Tryz.prog (Db 9 (C4 Tryz.f7)) (bodyPost Tryz.prog Tryz.f7 (Dc X w)) ⟨frm w.heap.size q0 q1 q5 v7 v8 q9 q10 q11 q12 q13 q14 v15 v16 v17 l,[]⟩ W :=by
 obtain ⟨q,rfl⟩ :=lay hll
 clear hll
 have HCP :=Tx st arr0 _ W hR hf
 have hi0 :=Iy hz0
 have HG :Hid _ :=hgo
 have HZ :Hid (arr0.size=20) :=hz0
 have HTL :Hid _ :=htl
 clear hgo hR hf hz0 htl
 conv=>arg 2;whnf
 refine wp_seq_k fun K1 hK1=> ?_
 have HK1 :Hid _ :=hK1
 clear hK1
 simp only [frm,List.range,List.range.loop,List.map]
 go_wp2_with (first | (refine wpList_load_row rfl 36 _ rfl (w.heap.size+1) ?_ 36 _ (0,0) _ hstm Tryz.underlying36 ?_ ?_ ?_;exact rfl;exact rfl;exact hi0) | (go_at_call 5;go_fit HCP;rintro e W1 ⟨v,rfl,lab,hcp⟩;have hstm1 := (hcp.bel.block (w.heap.size+1) (by omega)).trans hstm) | (refine wpList_store_row rfl 36 _ _ rfl (w.heap.size+1) (v.arr st) ?_ ?_ 36 arr0 ?_ ?_ ?_ ?_ ?_;exact rfl;exact rfl;exact hstm1;exact Am;exact HZ.out;exact It))
 refine HK1.out _ _ ?_
 simp only [Act.put]
 refine wp_seq_k fun K2 hK2=> ?_
 have HK2 :Hid _ :=hK2
 have hs1 :=hcp.bel.size
 have hstm2 : (W1.setRow (w.heap.size+1) (v.arr st)).heap[w.heap.size+1]? =some (.cells (v.arr st) 36) :=An hstm1
 have k2 : (W1.setRow (w.heap.size+1) (v.arr st)).cell? ⟨w.heap.size+1,2,none⟩ =some (.string st.table) :=Aa hstm2 rfl
 have hcat2 : (W1.setRow (w.heap.size+1) (v.arr st)).heap[w.heap.size]? =some (.cells #[.slice te ct.tables.length tc, .slice io ct.indexes.length ic] 25) :=Aw ((hcp.bel.block _ (by omega)).trans hcat) (by omega) _
 have hbW2 :Below w.heap.size w (W1.setRow (w.heap.size+1) (v.arr st)) :=Below.row (hbel.trans (hcp.bel.mono hbel.size)) (by omega) _
 have HTB :=Abc (iv := .slice io ct.indexes.length ic) ⟨_,_,_,rfl⟩ st.table (IsL.keep HTL.out (Ag (hbW2.mono hC))) (Nat.le_trans hC hbW2.size)
 have hsz2 : (W1.setRow (w.heap.size+1) (v.arr st)).heap.size=W1.heap.size :=by simp [World.setRow]
 have HSZ :Hid _ :=hsz2
 generalize hW2 :W1.setRow (w.heap.size+1) (v.arr st) =W2 at*
 have HW2 :Hid _ :=hW2
 clear hK2 HK1 HCP hi0 hW2 hsz2 hstm2 hstm1
 go_wp2_with (first | (refine wpList_load_row rfl 25 _ rfl w.heap.size ?_ 25 _ (0,0) _ hcat2 Tryz.underlying25 ?_ ?_ ?_;exact rfl;exact rfl;exact Dp) | (go_at_call 18;go_fit HTB;rintro e W3 ⟨u,rfl,hu,hb3⟩))
 refine HK2.out _ _ ?_
 refine wp_seq_k fun K3 hK3=> ?_
 have HK3 :Hid _ :=hK3
 have bU :=Ab W3 (.cells u.arr 47)
 have hbA :=Aq W3 (.cells u.arr 47)
 have hbB :=Aq (W3.alloc (.cells u.arr 47)) (.cells u.arr 47)
 have hbC :=hbA.trans (hbB.mono hbA.size)
 have hlt :IsL A4 (fun k=>k< ((W3.alloc (.cells u.arr 47)).alloc (.cells u.arr 47)).heap.size) ((W3.alloc (.cells u.arr 47)).alloc (.cells u.arr 47)) (.slice (some ⟨(W3.alloc (.cells u.arr 47)).heap.size,0,none⟩) 1 1) [Gb ct st.table] :=
  E1 ⟨u.arr.toList,Cu.of_own (F :=fun _=>True) (Tj (W3.alloc (.cells u.arr 47)) 0 47 u.arr.toList 2 rfl (Nat.zero_le _)) (fun _ _=>trivial),All.one (A4.mono (fun _ _ _=>trivial) (A4.keep (Ar hbC) hu.1))⟩
 have HCO :=N9 [Gb ct st.table] (by simp) (fun t ht=>by rw [List.mem_singleton] at ht;rw [ht];exact hcl) _ _ _ hlt (Nat.le_refl _)
 rw [show (W3.alloc (.cells u.arr 47)).heap.size=W3.heap.size+1 by simp] at HCO
 clear hK3 HK2 HTB hlt
 go_wp2_with (first | (refine wpList_load_row rfl 47 _ rfl W3.heap.size rfl 47 _ _ _ bU Tryz.underlying47 rfl Cj ?_) | (go_at_call 26;go_fit HCO;rintro e W6 ⟨⟨z,rfl,hz⟩,hb6⟩))
 refine HK3.out _ _ ?_
 obtain ⟨ko,kc,rfl⟩ :=hz.shape
 have hb36 :=hbC.trans (hb6.mono hbC.size)
 have hbD :=hbB.trans (hb6.mono hbB.size)
 have hs13 :W1.heap.size≤W3.heap.size :=by have :=hb3.size;have :=HSZ.out;omega
 have hbf :Below W1.heap.size (W1.setRow (w.heap.size+1) (v.arr st)) W6 :=by
  rw [HW2.out,←HSZ.out]
  exact hb3.trans (hb36.mono hb3.size)
 have hbd :=Aba (b :=W3.heap.size) (S := [Gb ct st.table]) hcat hstm hroom hbel hbig hcp hbf hs13 ((hbD.block _ (lt_of_block bU)).trans bU) (hz.mono fun k _ (hk :_≤k) =>show W1.heap.size≤k by have :=hbC.size;omega)
 refine HG.out _ _ _ _ _ _ _ _ _ _ _ _ _ _ _ (by kernel_rfl) hbd ?_ rfl
 rw [Mf]
 cases hf :A5 ct.tables st.table with
 | none=>exact hu.2 hf
 | some t=>
  obtain ⟨sv,he,hk⟩ :=hu.1
  rw [Gb,hf] at he hk
  simp only [List.cons.injEq,Value.string.injEq,and_true] at he
  obtain ⟨he1,rfl⟩ :=he
  exact ⟨he1,hk.keep (Ar hb36)⟩
end Go.Proofs.YtmgkcjiejmhgcaaGreatDoor

