/-
  3 texts of this proof in one, in build order: BChk, BGat, BGaR.
-/
import Derived.Deep.MidRow
import Derived.Test.YtmgkcjiejmhgcaaGreatDoorJ36
set_option linter.unusedSimpArgs false
set_option linter.unusedVariables false
namespace Go.Proofs.YtmgkcjiejmhgcaaGreatDoor
open Go.RowKit Go.Maps
set_option maxRecDepth 100000 in
set_option maxHeartbeats 8000000 in
theorem Wy (X :Except Int Stm) (w W :World) (cat arr0 :Array Value) (hcat :W.heap[w.heap.size]? =some (.cells cat 25)) (hstm :W.heap[w.heap.size+1]? =some (.cells arr0 36)) (hroom :W.heap[w.heap.size+2]? =some (.cells Ah 36)) (hbel :Below w.heap.size w W) (hen :EnvM w) (okb :Bool) (A :List E) (zo :Option Addr) (zc :Nat)
  (hl :IsL As (fun k=>k<W.heap.size) W (.slice zo A.length zc) A) (hfx : ∀e∈A,D4 e) (hn :A.length≤100000000) (herr : (okb&&A.all (geB 40)) =false→X= .error 1)
  (hgo : (okb&&A.all (geB 40)) =true→ ∀ (W' :World) (q0 q1 q5 v7 v8 q9 q10 q11 q12 q13 q14 v15 v16 v17 :Value) (l :List Value),l.length=494→Below W.heap.size W W'→Code.wp Tryz.prog (Db 9 (C4 Tryz.f7)) (bodyPost Tryz.prog Tryz.f7 (Dc X w)) ⟨frm w.heap.size q0 q1 q5 v7 v8 q9 q10 q11 q12 q13 q14 v15 v16 v17 l,[]⟩ W')
  (q0 q1 q5 q9 q10 q11 q12 q13 q14 v15 v16 v17 :Value) (l :List Value) (hll :l.length=494) :
  Code.wp Tryz.prog (Db 7 (C4 Tryz.f7)) (bodyPost Tryz.prog Tryz.f7 (Dc X w)) ⟨frm w.heap.size q0 q1 q5 (.bool okb) (.slice zo A.length zc) q9 q10 q11 q12 q13 q14 v15 v16 v17 l,[]⟩ W :=by
 obtain ⟨q,rfl⟩ :=lay hll
 clear hll
 have HG :Hid _ :=hgo
 have HER :Hid _ :=herr
 have HFX :Hid (∀e∈A,D4 e) :=hfx
 have HEN :Hid (EnvM w) :=hen
 obtain ⟨so,hso⟩ : ∃z,z=zo := ⟨_,rfl⟩
 rw [←hso] at hl⊢
 have HSO :Hid (so=zo) :=hso
 have HL :Hid _ :=hl
 clear hgo herr hfx hen hso hl
 conv=>arg 2;whnf
 refine wp_seq_k fun K1 hK1=> ?_
 have HK1 :Hid _ :=hK1
 clear hK1
 simp only [frm,List.range,List.range.loop,List.map]
 go_wp2_with fail
 go_loopw [7,109] (fun ov iv wr=> ∃k :Nat,k≤A.length∧iv= .int .i64 k∧ov= .bool (okb&& (A.take k).all (geB 40)) ∧Below W.heap.size W wr) (fun _ iv _=>A.length - (intOf iv).toNat)
 case atStart=>exact ⟨0,Nat.zero_le _,rfl,by simp,Below.refl _ _⟩
 case round=>
  obtain ⟨k,hk,rfl,rfl,hbw⟩ :=hrel
  obtain ⟨V,hV⟩ : ∃V,V=wr := ⟨_,rfl⟩
  subst hV
  by_cases hlt :k<A.length
  ·obtain ⟨x,hx⟩ : ∃x,A[k]? =some x := ⟨_,List.getElem?_eq_getElem hlt⟩
   obtain ⟨b,off,cs,hbo,hp,hE⟩ :=Kj (IsL.keep HL.out (Ag hbw)) hx
   subst hbo
   have hp1 :=hp.range;have hp2 : (Tryz.prog.info? 34).map (·.size) =some cs.length :=Ai.trans (congrArg some hp.len.symm);have hp3 :=hp.one;have hp4 : (Tryz.prog.info? 34).map (·.size) =some cs.toArray.size :=hp2
   have hp5 :=Ab V (.cells eZ 34);have hp6 :Hid (8=cs.toArray.size) :=hp.len.symm
   have hb3 :=Below.row (Aq V (.cells eZ 34)) (Nat.le_refl _) cs.toArray
   have hxb : ((V.alloc (.cells eZ 34)).setRow V.heap.size cs.toArray).heap[V.heap.size]? =some (.cells cs.toArray 34) :=An hp5
   have hb4 :=hbw.trans (hb3.mono hbw.size)
   have IH :=N3 40 (Nat.le_refl _) x _ V.heap.size _ (IsE.keep (Ag hb3) _ _ hE) hb3.size (HFX.out x (List.mem_of_getElem? hx)) ((HEN.out.next hbel).next hb4)
   have ET :Hid ((A.take (k+1)).all (geB 40) = ((A.take k).all (geB 40) &&geB 40 x)) :=by show _=_;rw [List.take_add_one,hx];simp
   have j0 : (0 :Int) ≤ (k :Int) :=by omega
   have j1 : (k :Int) < (A.length :Int) :=by omega
   generalize geB 40 x=gx at*
   generalize (A.take k).all (geB 40) =qq at*
   clear hx hE hp hb3
   cases hlf : (okb&&qq)
   ·go_wp2_with (first | (refine wpList_load_mid rfl 34 _ rfl b (off+k*8) ?_ cs _ hp1 Tryz.underlying34 rfl ?_ ?_;exact rfl;exact hp2) | (refine wpList_store_row rfl 34 _ _ rfl V.heap.size cs.toArray ?_ ?_ 34 eZ ?_ ?_ ?_ ?_ ?_;exact rfl;exact rfl;exact hp5;exact hp4;exact hp6.out;exact hp3))
    go_roundw
    case rel=>exact ⟨k+1,by omega,by go_num,by rw [ET.out,←Bool.and_assoc,hlf];rfl,hb4⟩
    case measure=>simp [intOf];omega
   ·go_wp2_with (first | (refine wpList_load_mid rfl 34 _ rfl b (off+k*8) ?_ cs _ hp1 Tryz.underlying34 rfl ?_ ?_;exact rfl;exact hp2) | (refine wpList_store_row rfl 34 _ _ rfl V.heap.size cs.toArray ?_ ?_ 34 eZ ?_ ?_ ?_ ?_ ?_;exact rfl;exact rfl;exact hp5;exact hp4;exact hp6.out;exact hp3) | (refine Cx ?_ 34 _ rfl V.heap.size ?_ 34 _ _ _ hxb Tryz.underlying34 ?_ ?_ ?_;exact rfl;exact rfl;exact rfl;exact hp4) | (go_at_call 25;go_fit IH;rintro e W6 ⟨rfl,hb8⟩))
    go_roundw
    case rel=>exact ⟨k+1,by omega,by go_num,by rw [ET.out,←Bool.and_assoc,hlf];rfl,hb4.trans (hb8.mono hb4.size)⟩
    case measure=>simp [intOf];omega
  ·have hkn :k=A.length :=by omega
   subst hkn
   rw [List.take_length]
   have v1 : ¬ ((A.length :Int) < (A.length :Int)) :=by omega
   go_wp2_with fail
   refine HK1.out _ _ ?_
   refine wp_seq_k fun K2 hK2=> ?_
   have HK2 :Hid _ :=hK2
   clear hK2
   have hrm := (hbw.block _ (lt_of_block hroom)).trans hroom
   have hbl :=hbel.trans (hbw.mono hbel.size)
   cases hlf : (okb&&A.all (geB 40))
   ·have HE :Hid (X= .error 1) :=HER.out hlf
    go_wp2_with (first | (go_at_call 24;go_fit (Cr 1 _);rintro e W9 ⟨rfl,hb9⟩;have bR9 := (hb9.block _ (lt_of_block hrm)).trans hrm;have bel9 :=hbl.trans (hb9.mono hbl.size)) | (refine wpList_store_row rfl 36 _ _ rfl (w.heap.size+2) Ah ?_ ?_ 36 Ah ?_ ?_ ?_ ?_ ?_;exact rfl;exact rfl;exact bR9;exact Am;exact rfl;exact Bn))
    exact B9 bel9 bR9 1 HE.out rfl rfl
   ·go_wp2_with fail
    refine HK2.out _ _ ?_
    exact HG.out hlf V _ _ _ _ _ _ _ _ _ _ _ _ _ _ _ (by kernel_rfl) hbw
end Go.Proofs.YtmgkcjiejmhgcaaGreatDoor

namespace Go.Proofs.YtmgkcjiejmhgcaaGreatDoor
open Go.RowKit Go.Maps
structure Gath (C base :Nat) (W :World) (zo :Option Addr) (zc n :Nat) (A :List E) :Prop where
 len :A.length=n
 own : ∃cs,W.ownsRow base 34 8 (.slice zo n zc) n cs∧All As (fun k=>k<C) W A cs
theorem Gath.isL {C base :Nat} {W :World} {zo :Option Addr} {zc n :Nat} {A :List E} (h :Gath C base W zo zc n A) :IsL As (fun k=>k<W.heap.size) W (.slice zo A.length zc) A :=by
 obtain ⟨h1,cs,h2,h3⟩ :=h
 rw [h1]
 exact E1 (F :=fun _=>True) ⟨cs,Cu.of_own (by rw [h1];exact h2) (fun _ _=>trivial),h3.mono fun _ _ _=>trivial⟩
theorem Y8 {cw :List Value} (h :cw.length=8) :List.foldl (fun (cs :Array Value) (x :Value×Nat) =>cs.setIfInBounds x.snd x.fst) #[Value.int .i64 0, .int .i64 0, .int .i64 0, .string ⟨#[]⟩, .string ⟨#[]⟩, .string ⟨#[]⟩, .int .i64 0, .slice none 0 0] cw.zipIdx=cw.toArray :=by
 match cw,h with
 | [a,b,c,d,e,f,g,i],_=>simp [List.zipIdx]
theorem L5 {C base n m :Nat} {V W3 W4 :World} {zo :Option Addr} {zc :Nat} {A l :List E} {cs d :List Value} {z' :Value} (hC :C≤base) (hb :Below V.heap.size V W3) (hl :A.length=n) (hm :l.length=m) (ho :V.ownsRow base 34 8 (.slice zo n zc) n cs) (ha :All As (fun k=>k<C) V A cs) (hd :All As (fun k=>k<C) W3 l d)
  (hn :W4.ownsRow base 34 8 z' (n+m) (cs++d)) (hg :W3.grownBy W4 (Value.slice zo n zc).ownBlock) : ∃zo' zc',z'= .slice zo' (n+m) zc'∧Gath C base W4 zo' zc' (n+m) (A++l) :=by
 obtain ⟨zo',zc',hz⟩ := (Cu.of_own (F :=fun _=>True) hn (fun _ _=>trivial)).shape
 subst hz
 have kC :Keeps (fun u=>u<C) W3 W4 := ⟨hg.size,fun u hu hs=>hg.block u hs fun e=>by have := (ho.lt u e.symm).1;omega⟩
 exact ⟨zo',zc',rfl,by rw [List.length_append,hl,hm],cs++d,hn,((ha.keep (Ar hb)).keep kC).append (hd.keep kC)⟩
set_option maxRecDepth 100000 in
set_option maxHeartbeats 8000000 in
theorem Wz (X :Except Int Stm) (w W :World) (cat arr0 :Array Value) (hcat :W.heap[w.heap.size]? =some (.cells cat 25)) (hstm :W.heap[w.heap.size+1]? =some (.cells arr0 36)) (hroom :W.heap[w.heap.size+2]? =some (.cells Ah 36)) (hbel :Below w.heap.size w W) (hbig :w.heap.size+3≤W.heap.size) (okb :Bool) (A :List E) (zo :Option Addr) (zc n C :Nat) (hC :C≤w.heap.size)
  (hA :Gath C (w.heap.size+3) W zo zc n A) (hn :n≤90000000) (e :E) (cw :List Value) (hcw : (arr0.toList.drop 9).take cw.length=cw) (hw8 :cw.length=8) (hw0 :cw[0]? =some (.int .i64 e.opn)) (hone : ∀u∈cw,u.oneCell'=true) (hE :As.R (fun k=>k<C) w e cw)
  (hgo : ∀ (W' :World) (zo' :Option Addr) (zc' n' :Nat) (q0 q1 q5 q9 q10 q11 q12 q13 q14 v15 v16 v17 :Value) (l :List Value),l.length=494→Below (w.heap.size+3) W W'→Gath C (w.heap.size+3) W' zo' zc' n' (A++ (if e.opn=0 then [] else [e])) →n'≤n+1→
   Code.wp Tryz.prog (Db 7 (C4 Tryz.f7)) (bodyPost Tryz.prog Tryz.f7 (Dc X w)) ⟨frm w.heap.size q0 q1 q5 (.bool okb) (.slice zo' n' zc') q9 q10 q11 q12 q13 q14 v15 v16 v17 l,[]⟩ W')
  (q0 q1 q5 q9 q10 q11 q12 q13 q14 v15 v16 v17 :Value) (l :List Value) (hll :l.length=494) :
  Code.wp Tryz.prog (Db 6 (C4 Tryz.f7)) (bodyPost Tryz.prog Tryz.f7 (Dc X w)) ⟨frm w.heap.size q0 q1 q5 (.bool okb) (.slice zo n zc) q9 q10 q11 q12 q13 q14 v15 v16 v17 l,[]⟩ W :=by
 obtain ⟨q,rfl⟩ :=lay hll
 clear hll
 have HG :Hid _ :=hgo
 have k9 :W.cell? ⟨w.heap.size+1,9,none⟩ =some (.int .i64 e.opn) :=by
  have :=Ga hstm hcw 0 _ hw0
  simpa using this
 have ra :=Ga hstm hcw
 have hi : (Tryz.prog.info? 34).map (·.size) =some cw.length :=Ai.trans (congrArg some hw8.symm)
 obtain ⟨p0,ei,e0,e1,e2⟩ :=info_parts Eb
 clear hgo hcw
 conv=>arg 2;whnf
 refine wp_seq_k fun K1 hK1=> ?_
 have HK1 :Hid _ :=hK1
 clear hK1
 simp only [frm,List.range,List.range.loop,List.map]
 by_cases h0 :e.opn=0
 ·have q1 : (e.opn !=0) =false :=by rw [h0];rfl
  have HA0 :Hid (A++ (if e.opn=0 then [] else [e]) =A) :=by show _=_;rw [if_pos h0,List.append_nil]
  clear h0
  go_wp2_with fail
  refine HK1.out _ _ ?_
  exact HG.out W zo zc n _ _ _ _ _ _ _ _ _ _ _ _ _ (by kernel_rfl) (Below.refl _ _) (by rw [HA0.out];exact hA) (by omega)
 ·have q1 : (e.opn !=0) =true :=by simpa using h0
  have HA0 :Hid (A++ (if e.opn=0 then [] else [e]) =A++ [e]) :=by show _=_;rw [if_neg h0]
  clear h0
  obtain ⟨hl1,css,hos,hall⟩ :=hA
  have hks :Hid ((Fk cw).size=8) :=hw8
  have hb1 :=Aq W (.cells cw.toArray 34)
  have hosB : (W.alloc (.cells cw.toArray 34)).ownsRow (w.heap.size+3) 34 (Fk cw).size (.slice zo n zc) n css :=by rw [hks.out];exact Az hos hb1
  have hfix :=Gp W cw 34
  have hsB :w.heap.size+3≤ (W.alloc (.cells cw.toArray 34)).heap.size :=Nat.le_trans hbig hb1.size
  have hfo :=Y8 hw8
  rw [←hfo] at hb1 hosB hfix hsB
  clear hfo
  go_wp2_with (first | (refine wpList_load_mid rfl 34 _ rfl (w.heap.size+1) 9 ?_ cw _ ra Tryz.underlying34 rfl ?_ ?_;exact rfl;exact hi) | (at_builtin;go_must (refine By (K :=Fk cw) (l := [()]) rfl _ _ 30 rfl (w.heap.size+3) 34 p0 _ 104 Tryz.underlying30 ei e0 (e1.trans hks.out.symm) e2 (show (8 :Nat) =_ from hks.out.symm) (by rw [hks.out];decide) _ n css rfl hosB rfl hfix (Hj hone) (by simp only [maxLen,List.length_singleton];omega) (by simp only [List.length_singleton];omega) hsB ?h2)))
  case h2=>
   intro z' W4 csn hown hall4 hg hat
   have hcsn :=Hi hall4
   subst hcsn
   rw [hks.out] at hown
   have hbw :Below (w.heap.size+3) W W4 := (hb1.mono hbig).grown hg hsB fun k hk=> (hos.lt k hk).1
   have hp :=L5 (l := [e]) (m :=1) (by omega) hb1 hl1 rfl hos hall (All.one (As.keep (Ag ((hbel.trans (hb1.mono hbel.size)).mono hC)) hE)) hown hg
   obtain ⟨zo',zc',rfl,hA4⟩ :=hp
   clear hown hat hg hall4 hosB hfix
   go_wp2_with fail
   refine HK1.out _ _ ?_
   exact HG.out W4 zo' zc' (n+1) _ _ _ _ _ _ _ _ _ _ _ _ _ (by kernel_rfl) hbw (by rw [HA0.out];exact hA4) (Nat.le_refl _)
end Go.Proofs.YtmgkcjiejmhgcaaGreatDoor

namespace Go.Proofs.YtmgkcjiejmhgcaaGreatDoor
open Go.RowKit Go.Maps
set_option maxRecDepth 100000 in
set_option maxHeartbeats 8000000 in
theorem Yo (X :Except Int Stm) (w W :World) (cat arr0 :Array Value) (hstm :W.heap[w.heap.size+1]? =some (.cells arr0 36)) (hbel :Below w.heap.size w W) (hbig :w.heap.size+3≤W.heap.size) (okb :Bool) (A :List E) (zo :Option Addr) (zc n C :Nat) (hC :C≤w.heap.size)
  (hA :Gath C (w.heap.size+3) W zo zc n A) (rows :List (List E)) (ro :Option Addr) (rc :Nat) (h5 :arr0[5]? =some (.slice ro rows.length rc)) (hl :IsL Ds (fun k=>k<C) w (.slice ro rows.length rc) rows) (hn :A.length+rows.flatten.length≤80000000) (hrl :rows.length≤80000000)
  (hgo : ∀ (W' :World) (zo' :Option Addr) (zc' n' :Nat) (q0 q1 q5 q9 q10 q11 q12 q13 q14 v15 v16 v17 :Value) (l :List Value),l.length=494→Below (w.heap.size+3) W W'→Gath C (w.heap.size+3) W' zo' zc' n' (A++rows.flatten) →
   Code.wp Tryz.prog (Db 5 (C4 Tryz.f7)) (bodyPost Tryz.prog Tryz.f7 (Dc X w)) ⟨frm w.heap.size q0 q1 q5 (.bool okb) (.slice zo' n' zc') q9 q10 q11 q12 q13 q14 v15 v16 v17 l,[]⟩ W')
  (q0 q1 q5 q9 q10 q11 q12 q13 q14 v15 v16 v17 :Value) (l :List Value) (hll :l.length=494) :
  Code.wp Tryz.prog (Db 4 (C4 Tryz.f7)) (bodyPost Tryz.prog Tryz.f7 (Dc X w)) ⟨frm w.heap.size q0 q1 q5 (.bool okb) (.slice zo n zc) q9 q10 q11 q12 q13 q14 v15 v16 v17 l,[]⟩ W :=by
 obtain ⟨q,rfl⟩ :=lay hll
 clear hll
 have HG :Hid _ :=hgo
 have k5 :=Aa hstm h5
 have HL :Hid _ :=hl
 obtain ⟨p0,ei,e0,e1,e2⟩ :=info_parts Eb
 clear hgo h5 hl hstm
 conv=>arg 2;whnf
 refine wp_seq_k fun K1 hK1=> ?_
 have HK1 :Hid _ :=hK1
 clear hK1
 simp only [frm,List.range,List.range.loop,List.map]
 go_wp2_with fail
 clear k5
 go_loopw [8,77] (fun av iv wr=> ∃ (k :Nat) (zo' :Option Addr) (zc' n' :Nat),k≤rows.length∧iv= .int .i64 k∧av= .slice zo' n' zc'∧Gath C (w.heap.size+3) wr zo' zc' n' (A++ (rows.take k).flatten) ∧Below (w.heap.size+3) W wr) (fun _ iv _=>rows.length - (intOf iv).toNat)
 case atStart=>exact ⟨0,zo,zc,n,Nat.zero_le _,rfl,rfl,by simpa using hA,Below.refl _ _⟩
 case round=>
  obtain ⟨k,zo',zc',n',hk,rfl,rfl,hG,hbw⟩ :=hrel
  obtain ⟨V,hV⟩ : ∃V,V=wr := ⟨_,rfl⟩
  subst hV
  clear hA
  by_cases hlt :k<rows.length
  ·obtain ⟨r,hr⟩ : ∃r,rows[k]? =some r := ⟨_,List.getElem?_eq_getElem hlt⟩
   have hfl : (rows.take (k+1)).flatten= (rows.take k).flatten++r :=by rw [List.take_add_one,hr];simp
   have HFL :Hid _ :=hfl
   have hle : (rows.take (k+1)).flatten.length≤rows.flatten.length :=by
    have :=congrArg (fun z=>z.flatten.length) (List.take_append_drop (k+1) rows)
    simp only [List.flatten_append,List.length_append] at this
    omega
   have hbwW :Below w.heap.size w V :=hbel.trans (hbw.mono (by omega))
   obtain ⟨b,off,cs,hbo,_,hbl,⟨v,rfl,hlr⟩,hcell⟩ :=Av HL.out hr
   cases hbo
   obtain ⟨lo,lc,rfl⟩ :=hlr.shape
   have g0 := (hbwW.cell (p := ⟨b,_,none⟩) hbl).trans (hcell 0 _ rfl)
   simp only [Ds,Nat.mul_one,Nat.add_zero] at g0
   have hlv :=hlr.keep (Ag (hbwW.mono hC))
   obtain ⟨hl1,css,hos,hall⟩ :=hG
   rw [List.length_append] at hl1
   rw [hfl,List.length_append] at hle
   have hnb :n'+r.length≤80000000 :=by omega
   have j0 : (0 :Int) ≤ (k :Int) :=by omega
   have j1 : (k :Int) < (rows.length :Int) :=by omega
   have hbb :w.heap.size+3≤V.heap.size :=Nat.le_trans hbig hbw.size
   have HL1 :Hid _ :=hl1
   clear hr hfl hcell hlr hle hl1
   go_wp2_with (at_builtin;go_must (refine By (K :=As) (l :=r) rfl _ _ 30 rfl (w.heap.size+3) 34 p0 _ 104 Tryz.underlying30 ei e0 e1 e2 rfl (by decide) _ n' css rfl hos rfl hlv Jc (by simp only [maxLen];omega) (by omega) hbb ?h2))
   case h2=>
    intro z' W4 csn hown hall4 hg hat
    obtain ⟨zo4,zc4,rfl,hA4⟩ :=L5 (l :=r) (m :=r.length) (by omega) (Below.refl _ _) (by rw [List.length_append];exact HL1.out) rfl hos hall hall4 hown hg
    have hb4 :=hbw.grown hg hbb fun k hk=> (hos.lt k hk).1
    rw [List.append_assoc,←HFL.out] at hA4
    clear hown hat hg hall4 hos hall
    go_wp2_with fail
    go_roundw
    case rel=>exact ⟨k+1,zo4,zc4,_,by omega,by go_num,rfl,hA4,hb4⟩
    case measure=>simp [intOf];omega
  ·have hkn :k=rows.length :=by omega
   subst hkn
   rw [List.take_length] at hG
   have j1 : ¬ ((rows.length :Int) < (rows.length :Int)) :=by omega
   go_wp2_with fail
   refine HK1.out _ _ ?_
   exact HG.out V zo' zc' n' _ _ _ _ _ _ _ _ _ _ _ _ _ (by kernel_rfl) hbw hG
end Go.Proofs.YtmgkcjiejmhgcaaGreatDoor

