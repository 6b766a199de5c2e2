/-
  1 texts of this proof in one, in build order: BSel.
-/
import Derived.Test.YtmgkcjiejmhgcaaGreatDoorJ45
import Derived.Test.YtmgkcjiejmhgcaaGreatDoorJ46
set_option linter.unusedSimpArgs false
set_option linter.unusedVariables false
namespace Go.Proofs.YtmgkcjiejmhgcaaGreatDoor
open Go.RowKit Go.Maps
def Uz (T :List TabD) (s :Wd) (C :Nat) (w :World) (u :Tv) :Prop :=match A5 T s with
 | some t=>A4.R (fun k=>k<C) w t u.arr.toList
 | none=>True
theorem Abd {T :List TabD} {tv iv :Value} (hiv :Dx iv) (s :Wd) {C :Nat} {w :World} (hl :IsL A4 (fun k=>k<C) w tv T) (hC :C≤w.heap.size) :
  Calls Tryz.prog 18 #[.agg #[tv,iv], .string s] w fun r w'=> ∃u :Tv,r= .returned (.tuple #[.agg u.arr, .bool (A5 T s).isSome]) ∧Uz T s C w' u∧Below w.heap.size w w' :=
 (F8 T tv iv hiv s C w hl hC).mono (by
  rintro r w' ⟨nmv,ao,n,c,there,rfl,hm,hb⟩
  refine ⟨⟨nmv,ao,n,c⟩, ?_, ?_,hb⟩
  ·cases hf :A5 T s<;>rw [hf] at hm<;>rw [hm.1] <;>rfl
  ·rw [Uz]
   cases hf :A5 T s with
   | none=>trivial
   | some t=>
    rw [hf] at hm
    obtain ⟨_,rfl,h3⟩ :=hm
    exact ⟨_,rfl,h3⟩)
structure FrSt (C :Nat) (W :World) (n0 :Nat) (zo :Option Addr) (zc :Nat) (ts :List TabD) :Prop where
 own : ∃cs,W.ownsRow n0 47 2 (.slice zo ts.length zc) ts.length cs∧All A4 (fun k=>k<C) W ts cs
theorem T0 {w V W3 W4 :World} {D n0 C k :Nat} {lab :Nat→Nat} {cat :Array Value} {v :Lv} {st :Stm} {zo :Option Addr} {zc :Nat} {ts :List TabD} {t :TabD} {cs d :List Value} {z' :Value} (hS :BdSt w V D (C3 lab n0 17) cat v st) (hb :Below V.heap.size V W3) (hD :w.heap.size≤n0) (hn0 :n0≤V.heap.size) (hC :C≤n0)
  (ho :V.ownsRow n0 47 2 (.slice zo k zc) k cs) (ha :All A4 (fun k=>k<C) V ts cs) (ht :A4.R (fun k=>k<C) W3 t d) (hl :ts.length=k) (hn :W4.ownsRow n0 47 2 z' (k+1) (cs++d)) (hg :W3.grownBy W4 (Value.slice zo k zc).ownBlock) :
  ∃zo' zc',z'= .slice zo' (k+1) zc'∧FrSt C W4 n0 zo' zc' (ts++ [t]) ∧BdSt w W4 D (C3 lab n0 17) cat v st :=by
 obtain ⟨zo',zc',hz⟩ := (Cu.of_own (F :=fun _=>True) hn (fun _ _=>trivial)).shape
 subst hz
 have h3 :=hS.below hb
 have hbk : ∀u,(Value.slice zo k zc).ownBlock=some u→n0≤u :=fun u hu=> (ho.lt u hu).1
 have kC :Keeps (fun u=>u<C) W3 W4 := ⟨hg.size,fun u hu hs=>hg.block u hs fun e=>by have :=hbk u e.symm;omega⟩
 refine ⟨zo',zc',rfl,⟨⟨cs++d,by rw [List.length_append,List.length_singleton,hl];exact hn,((ha.keep (Ar hb)).keep kC).append (All.one (A4.keep kC ht))⟩⟩,h3.keep17 ⟨hg.size,fun u hu hne=>hg.block u hu fun e=> ?_⟩ (h3.bel.grown hg h3.bel.size fun u hu=>Nat.le_trans hD (hbk u hu))⟩
 have :=hbk u e.symm
 exact hne (by rw [C3,if_neg (by omega)])
theorem R7 {F :Nat→Prop} {w :World} {ao :Option Addr} {n c :Nat} {l :List Wd} (h :IsL Fz F w (.slice ao n c) l) {k :Nat} {x :Wd} (hx :l[k]? =some x) : ∃b off,ao=some ⟨b,off,none⟩ ∧w.cell? ⟨b,off+k,none⟩ =some (.string x) :=by
 obtain ⟨b,off,cs,h1,_,_,h4,h5⟩ :=Av h hx
 obtain rfl :cs= [.string x] :=h4
 have :=h5 0 _ rfl
 simp only [Fz,Nat.mul_one,Nat.add_zero] at this
 exact ⟨b,off,h1,this⟩
set_option maxRecDepth 100000 in
set_option maxHeartbeats 8000000 in
theorem U0 (ct :CatD) (te io :Option Addr) (tc ic C :Nat) (X :Except Int Stm) (w W :World) (D :Nat) (lab :Nat→Nat) (v :Lv) (st :Stm) (h :BdSt w W D lab #[.slice te ct.tables.length tc, .slice io ct.indexes.length ic] v st) (htl :IsL A4 (fun k=>k<C) w (.slice te ct.tables.length tc) ct.tables) (hil :IsL B7 (fun k=>k<C) w (.slice io ct.indexes.length ic) ct.indexes) (hC :C≤w.heap.size) (hen :EnvM w) (hcb :Cq ct=true) (hk :st.kind=7) (hgx :De st=true) (hol :st.out.length≤16777216) (hdl :st.order.length≤16777216)
  (hX :X=C7 ct st) (q0 q1 q5 v7 v8 q9 q10 q11 q12 q13 q14 v15 v16 v17 :Value) (l :List Value) (hll :l.length=494) :
  Code.wp Tryz.prog (Db 12 (C4 Tryz.f7)) (bodyPost Tryz.prog Tryz.f7 (Dc X w)) ⟨frm w.heap.size q0 q1 q5 v7 v8 q9 q10 q11 q12 q13 q14 v15 v16 v17 l,[]⟩ W :=by
 obtain ⟨q,rfl⟩ :=lay hll
 clear hll
 have k0 := (Aa h.stm (j :=0) rfl).trans (congrArg (fun z=>some (Value.int .i64 z)) hk)
 obtain ⟨_,_,hgo,hgd,hgw⟩ :=Jo hgx
 have HGO :Hid _ :=hgo
 have HGD :Hid _ :=hgd
 have HGW :Hid _ :=hgw
 have HCT :Hid _ :=O4 hcb
 have HTL :Hid _ :=htl
 have HC :Hid (C≤w.heap.size) :=hC
 have HX :Hid (X=C7 ct st) :=hX
 obtain ⟨fo,hfo⟩ : ∃z,z=v.fo := ⟨_,rfl⟩
 have HFO :Hid (fo=v.fo) :=hfo
 have e7 :W.cell? ⟨w.heap.size+1,7,none⟩ =some (.slice fo st.frm.length v.fc) :=by rw [hfo];exact Aa h.stm rfl
 clear hk hcb hen htl hil hgx hgo hgd hgw hC hX hfo
 conv=>arg 2;whnf
 refine wp_seq_k fun KF hKF=> ?_
 have HKF :Hid _ :=hKF
 clear hKF
 simp only [frm,List.range,List.range.loop,List.map]
 by_cases hb :st.frm.length<1∨2<st.frm.length
 ·have HE :Hid (X= .error 1) :=by show _=_;rw [HX.out,C7,Df,if_pos hb]
  rcases hb with hb | hb
  ·have p1 : (st.frm.length :Int) <1 :=by omega
   clear HX hb
   go_wp2_with (first | (go_at_call 24;go_fit (Cr 1 _);rintro e W9 ⟨rfl,hb9⟩;have h9 :=h.below hb9;have bR9 :=h9.room;have bel9 :=h9.bel) | (refine wpList_store_row rfl 36 _ _ rfl (w.heap.size+2) Ah ?_ ?_ 36 Ah ?_ ?_ ?_ ?_ ?_;exact rfl;exact rfl;exact bR9;exact Am;exact rfl;exact Bn))
   exact B9 bel9 bR9 1 HE.out rfl rfl
  ·have p1 : ¬ (st.frm.length :Int) <1 :=by omega
   have p2 : (2 :Int) < (st.frm.length :Int) :=by omega
   clear HX hb
   go_wp2_with (first | (go_at_call 24;go_fit (Cr 1 _);rintro e W9 ⟨rfl,hb9⟩;have h9 :=h.below hb9;have bR9 :=h9.room;have bel9 :=h9.bel) | (refine wpList_store_row rfl 36 _ _ rfl (w.heap.size+2) Ah ?_ ?_ 36 Ah ?_ ?_ ?_ ?_ ?_;exact rfl;exact rfl;exact bR9;exact Am;exact rfl;exact Bn))
   exact B9 bel9 bR9 1 HE.out rfl rfl
 ·have p1 : ¬ (st.frm.length :Int) <1 :=by omega
  have p2 : ¬ (2 :Int) < (st.frm.length :Int) :=by omega
  have hf2 :st.frm.length≤2 :=by omega
  have HS1 :Hid (Df ct.tables st.frm=Br (Cd ct.tables) [] st.frm) :=by show _=_;rw [Df,if_neg hb]
  clear hb
  obtain ⟨p0,ti,t0,tz1,tz2⟩ :=info_parts Rl
  have h17 :=h.ext (Do lab W.heap.size 17)
  have HWW :Hid (w.heap.size≤W.heap.size) :=h.bel.size
  clear h
  go_upto_region 92 with fail
  go_wp2_with fail
  clear k0 p1 p2 e7
  go_loopw [24,375] (fun tv iv wr=> ∃ (k :Nat) (ts :List TabD) (zo :Option Addr) (zc :Nat),k≤st.frm.length∧iv= .int .i64 k∧tv= .slice zo k zc∧Hid (Br (Cd ct.tables) [] (st.frm.take k) = .ok ts) ∧Hid (ts.length=k) ∧FrSt C wr W.heap.size zo zc ts∧BdSt w wr D (C3 lab W.heap.size 17) #[.slice te ct.tables.length tc, .slice io ct.indexes.length ic] v st∧W.heap.size≤wr.heap.size) (fun _ iv _=>st.frm.length - (intOf iv).toNat)
  case atStart=>exact ⟨0,[],none,0,Nat.zero_le _,rfl,rfl,rfl,rfl,⟨⟨[],World.ownsRow_nil _ _ _ _,rfl⟩⟩,h17,Nat.le_refl _⟩
  case round=>
   obtain ⟨k,ts,zo,zc,hk,rfl,rfl,HT,HL,hF,hS,hsz⟩ :=hrel
   obtain ⟨V,hV⟩ : ∃V,V=wr := ⟨_,rfl⟩
   subst hV
   clear h17
   by_cases hlt :k<st.frm.length
   ·obtain ⟨x,hx⟩ : ∃x,st.frm[k]? =some x := ⟨_,List.getElem?_eq_getElem hlt⟩
    have HN :Hid (Br (Cd ct.tables) [] (st.frm.take (k+1)) =match Cd ct.tables (st.frm.take k) x with | .error m=> .error m | .ok b=> .ok (ts++ [b])) :=by
     show _=_
     rw [List.take_add_one,hx]
     show Br _ _ (_++ [_]) =_
     rw [Iq,HT.out,List.nil_append]
     cases Cd ct.tables (st.frm.take k) x<;>rfl
    have HEX :Hid (∀m,Cd ct.tables (st.frm.take k) x= .error m→X= .error m) :=fun m hm=>by
     rw [HX.out,C7,HS1.out,show Br (Cd ct.tables) [] st.frm= .error m from by
      rw [←List.take_append_drop (k+1) st.frm]
      exact Jb _ _ _ _ _ (by rw [HN.out,hm])]
    obtain ⟨b,off,hbo,hc⟩ :=R7 hS.frm.isL hx
    have hbo2 :fo=some ⟨b,off,none⟩ :=HFO.out.trans hbo
    subst hbo2
    have HBO :Hid _ :=hbo
    have hTB :=Abd (iv := .slice io ct.indexes.length ic) ⟨_,_,_,rfl⟩ x (IsL.keep HTL.out (Ag (hS.bel.mono HC.out))) (Nat.le_trans HC.out hS.bel.size)
    have j0 : (0 :Int) ≤ (k :Int) :=by omega
    have j1 : (k :Int) < (st.frm.length :Int) :=by omega
    have HXK :Hid (st.frm[k]? =some x) :=hx
    clear hx hbo
    cases hf :A5 ct.tables x with
    | none=>
     have HE :Hid (X= .error 3) :=HEX.out 3 (by rw [Cd,hf])
     rw [hf,Option.isSome_none] at hTB
     clear hf HN HEX HX
     go_wp2_with (first | (refine wpList_load_row rfl 25 _ rfl w.heap.size ?_ 25 _ (0,0) _ hS.cat Tryz.underlying25 ?_ ?_ ?_;exact rfl;exact rfl;exact Dp) | (go_at_call 18;go_fit hTB;rintro e W1 ⟨u,rfl,_,hb1⟩;have h1 := (hS.below hb1).below (Aq W1 (.cells u.arr 47))) | (go_at_call 24;go_fit (Cr 3 _);rintro e W9 ⟨rfl,hb9⟩;have h9 :=h1.below hb9;have bR9 :=h9.room;have bel9 :=h9.bel) | (refine wpList_store_row rfl 36 _ _ rfl (w.heap.size+2) Ah ?_ ?_ 36 Ah ?_ ?_ ?_ ?_ ?_;exact rfl;exact rfl;exact bR9;exact Am;exact rfl;exact Bn))
     exact B9 bel9 bR9 3 HE.out rfl rfl
    | some t=>
     rw [hf,Option.isSome_some] at hTB
     obtain ⟨⟨css,hos,hall⟩⟩ :=hF
     have hosK :=hos
     rw [HL.out] at hosK
     have HAL :Hid _ :=hall
     have e7 :V.cell? ⟨w.heap.size+1,7,none⟩ =some (.slice (some ⟨b,off,none⟩) st.frm.length v.fc) :=by rw [←HBO.out];exact Aa hS.stm rfl
     have l7 :w.heap.size+1<V.heap.size :=lt_of_block hS.stm
     have hkf :Hid (∀W1,Uz ct.tables x C W1=fun u :Tv=>A4.R (fun k=>k<C) W1 t u.arr.toList) :=fun W1=>by funext u;rw [Uz,hf]
     have HFR :Hid (Cd ct.tables (st.frm.take k) x=if Dy (st.frm.take k) x then .error 4 else .ok t) :=by show _=_;rw [Cd,hf]
     have h01 :k=0∨k=1 :=by omega
     clear hos hall hf
     have key :Hid (k=0∧Dy (st.frm.take k) x=false) ∨ ∃y :Wd,((k :Int) ==1) =true∧Dy (st.frm.take k) x=decide (y=x) ∧V.cell? ⟨b,off,none⟩ =some (.string y) ∧b<V.heap.size :=by
      rcases h01 with e | e
      ·exact .inl ⟨e,by rw [e];rfl⟩
      ·obtain ⟨y,hy⟩ : ∃y,st.frm[0]? =some y := ⟨_,List.getElem?_eq_getElem (by omega)⟩
       obtain ⟨b2,off2,hb2,hc2⟩ :=R7 hS.frm.isL hy
       have h3 :=Option.some.inj (HBO.out.symm.trans hb2)
       injection h3 with h4 h5
       subst h4
       subst h5
       rw [Nat.add_zero] at hc2
       refine .inr ⟨y,by rw [e];rfl, ?_,hc2, ?_⟩
       ·rw [e]
        cases hfl :st.frm with
        | nil=>rw [hfl] at hy;cases hy
        | cons a l=>
         rw [hfl] at hy
         obtain rfl :=Option.some.inj hy
         simp [Dy]
       ·exact Nat.lt_of_not_le fun hge=>by rw [World.cell?,Array.getElem?_eq_none hge] at hc2;cases hc2
     clear h01
     have e16 : (ct.tables.length :Int) =ct.tables.length :=rfl
     clear e16
     rcases key with hk0 | ⟨y,hk1,hm,hcy,hby⟩
     ·have HOK :Hid (Br (Cd ct.tables) [] (st.frm.take (k+1)) = .ok (ts++ [t])) :=HN.out.trans (by rw [HFR.out,hk0.out.2];rfl)
      have hkz :=hk0.out.1
      clear hk0 HN HEX HFR
      subst hkz
      rw [Nat.add_zero] at hc
      go_wp2_with (first | (refine wpList_load_row rfl 25 _ rfl w.heap.size ?_ 25 _ (0,0) _ hS.cat Tryz.underlying25 ?_ ?_ ?_;exact rfl;exact rfl;exact Dp) | (go_at_call 18;go_fit hTB;rintro e W1 ⟨u,rfl,hu,hb1⟩;have hbA :=hb1.trans ((Aq W1 (.cells u.arr 47)).mono hb1.size);have h1 :=hS.below hbA;have bU :=Ab W1 (.cells u.arr 47);have e71 := (hbA.cell (p := ⟨w.heap.size+1,7,none⟩) l7).trans e7;have hbB :=hbA.trans ((Aq (W1.alloc (.cells u.arr 47)) (.cells u.arr 47)).mono hbA.size);have hfix :IsL (Fk u.arr.toList) (fun _=>True) ((W1.alloc (.cells u.arr 47)).alloc (.cells u.arr 47)) (.slice (some ⟨(W1.alloc (.cells u.arr 47)).heap.size,0,none⟩) 1 1) [()] :=Gp (W1.alloc (.cells u.arr 47)) u.arr.toList 47;rw [show (W1.alloc (.cells u.arr 47)).heap.size=W1.heap.size+1 by simp] at hfix;have hos2 :=Az hosK hbB;have hsz2 :=Nat.le_trans hsz hbB.size;have hon2 : ∀z∈u.arr.toList,z.oneCell'=true :=R5 u;try (have cy1 := (hbA.cell (p := ⟨b,off,none⟩) hby).trans hcy)) | (refine wpList_load_row rfl 47 _ rfl W1.heap.size rfl 47 _ _ _ bU Tryz.underlying47 rfl Cj ?_) | (at_builtin;go_must (refine By (K :=Fk u.arr.toList) (l := [()]) rfl _ _ 22 rfl W.heap.size 47 p0 _ 40 Tryz.underlying22 ti t0 tz1 tz2 rfl (Nat.succ_pos _) _ _ css rfl hos2 rfl hfix (Hj hon2) (by simp only [maxLen,List.length_singleton];omega) (by simp only [List.length_singleton];omega) hsz2 ?h2)))
      case h2=>
       intro z' W4 csn hown4 hall4 hg4 hat4
       have hcsn :=Hi hall4
       subst hcsn
       have ht4 := (congrFun (hkf.out W1) u).mp hu
       have hp4 :=T0 hS hbB HWW.out hsz (Nat.le_trans HC.out HWW.out) hosK HAL.out (A4.keep (Ar (((Aq W1 (.cells u.arr 47)).trans ((Aq (W1.alloc (.cells u.arr 47)) (.cells u.arr 47)).mono (Aq W1 _).size)))) ht4) HL.out hown4 hg4
       have hs4 :=Nat.le_trans hsz2 hg4.size
       clear hat4 hg4 hown4 hall4 hosK hfix hos2 hS h1
       obtain ⟨zo4,zc4,rfl,hF4,hS4⟩ :=hp4
       go_wp2_with fail
       go_roundw
       case rel=>exact ⟨_,ts++ [t],zo4,zc4,by omega,by go_num,rfl,HOK,(by show _=_;rw [List.length_append,HL.out];rfl),hF4,hS4,hs4⟩
       case measure=>simp [intOf];omega
     ·have heq : (y.toList==x.toList) =decide (y=x) :=Bu _ _
      cases hdec :decide (y=x)
      ·have HOK :Hid (Br (Cd ct.tables) [] (st.frm.take (k+1)) = .ok (ts++ [t])) :=HN.out.trans (by rw [HFR.out,hm,hdec];rfl)
       rw [hdec] at heq
       clear hdec hm HN HEX HFR
       have j2 : (0 :Int) < (st.frm.length :Int) :=by omega
       go_wp2_with (first | (refine wpList_load_row rfl 25 _ rfl w.heap.size ?_ 25 _ (0,0) _ hS.cat Tryz.underlying25 ?_ ?_ ?_;exact rfl;exact rfl;exact Dp) | (go_at_call 18;go_fit hTB;rintro e W1 ⟨u,rfl,hu,hb1⟩;have hbA :=hb1.trans ((Aq W1 (.cells u.arr 47)).mono hb1.size);have h1 :=hS.below hbA;have bU :=Ab W1 (.cells u.arr 47);have e71 := (hbA.cell (p := ⟨w.heap.size+1,7,none⟩) l7).trans e7;have hbB :=hbA.trans ((Aq (W1.alloc (.cells u.arr 47)) (.cells u.arr 47)).mono hbA.size);have hfix :IsL (Fk u.arr.toList) (fun _=>True) ((W1.alloc (.cells u.arr 47)).alloc (.cells u.arr 47)) (.slice (some ⟨(W1.alloc (.cells u.arr 47)).heap.size,0,none⟩) 1 1) [()] :=Gp (W1.alloc (.cells u.arr 47)) u.arr.toList 47;rw [show (W1.alloc (.cells u.arr 47)).heap.size=W1.heap.size+1 by simp] at hfix;have hos2 :=Az hosK hbB;have hsz2 :=Nat.le_trans hsz hbB.size;have hon2 : ∀z∈u.arr.toList,z.oneCell'=true :=R5 u;try (have cy1 := (hbA.cell (p := ⟨b,off,none⟩) hby).trans hcy)) | (refine wpList_load_row rfl 47 _ rfl W1.heap.size rfl 47 _ _ _ bU Tryz.underlying47 rfl Cj ?_) | (at_builtin;go_must (refine By (K :=Fk u.arr.toList) (l := [()]) rfl _ _ 22 rfl W.heap.size 47 p0 _ 40 Tryz.underlying22 ti t0 tz1 tz2 rfl (Nat.succ_pos _) _ _ css rfl hos2 rfl hfix (Hj hon2) (by simp only [maxLen,List.length_singleton];omega) (by simp only [List.length_singleton];omega) hsz2 ?h2)))
       case h2=>
        intro z' W4 csn hown4 hall4 hg4 hat4
        have hcsn :=Hi hall4
        subst hcsn
        have ht4 := (congrFun (hkf.out W1) u).mp hu
        have hp4 :=T0 hS hbB HWW.out hsz (Nat.le_trans HC.out HWW.out) hosK HAL.out (A4.keep (Ar (((Aq W1 (.cells u.arr 47)).trans ((Aq (W1.alloc (.cells u.arr 47)) (.cells u.arr 47)).mono (Aq W1 _).size)))) ht4) HL.out hown4 hg4
        have hs4 :=Nat.le_trans hsz2 hg4.size
        clear hat4 hg4 hown4 hall4 hosK hfix hos2 hS h1
        obtain ⟨zo4,zc4,rfl,hF4,hS4⟩ :=hp4
        go_wp2_with fail
        go_roundw
        case rel=>exact ⟨_,ts++ [t],zo4,zc4,by omega,by go_num,rfl,HOK,(by show _=_;rw [List.length_append,HL.out];rfl),hF4,hS4,hs4⟩
        case measure=>simp [intOf];omega
      ·have HE :Hid (X= .error 4) :=HEX.out 4 (by rw [HFR.out,hm,hdec];rfl)
       rw [hdec] at heq
       clear hdec hm HN HEX HFR HX
       have j2 : (0 :Int) < (st.frm.length :Int) :=by omega
       go_wp2_with (first | (refine wpList_load_row rfl 25 _ rfl w.heap.size ?_ 25 _ (0,0) _ hS.cat Tryz.underlying25 ?_ ?_ ?_;exact rfl;exact rfl;exact Dp) | (go_at_call 18;go_fit hTB;rintro e W1 ⟨u,rfl,hu,hb1⟩;have hbA :=hb1.trans ((Aq W1 (.cells u.arr 47)).mono hb1.size);have h1 :=hS.below hbA;have bU :=Ab W1 (.cells u.arr 47);have e71 := (hbA.cell (p := ⟨w.heap.size+1,7,none⟩) l7).trans e7;have hbB :=hbA.trans ((Aq (W1.alloc (.cells u.arr 47)) (.cells u.arr 47)).mono hbA.size);have hfix :IsL (Fk u.arr.toList) (fun _=>True) ((W1.alloc (.cells u.arr 47)).alloc (.cells u.arr 47)) (.slice (some ⟨(W1.alloc (.cells u.arr 47)).heap.size,0,none⟩) 1 1) [()] :=Gp (W1.alloc (.cells u.arr 47)) u.arr.toList 47;rw [show (W1.alloc (.cells u.arr 47)).heap.size=W1.heap.size+1 by simp] at hfix;have hos2 :=Az hosK hbB;have hsz2 :=Nat.le_trans hsz hbB.size;have hon2 : ∀z∈u.arr.toList,z.oneCell'=true :=R5 u;try (have cy1 := (hbA.cell (p := ⟨b,off,none⟩) hby).trans hcy)) | (go_at_call 24;go_fit (Cr 4 _);rintro e W9 ⟨rfl,hb9⟩;have h9 :=h1.below hb9;have bR9 :=h9.room;have bel9 :=h9.bel) | (refine wpList_store_row rfl 36 _ _ rfl (w.heap.size+2) Ah ?_ ?_ 36 Ah ?_ ?_ ?_ ?_ ?_;exact rfl;exact rfl;exact bR9;exact Am;exact rfl;exact Bn))
       exact B9 bel9 bR9 4 HE.out rfl rfl
   ·have hkn :k=st.frm.length :=by omega
    subst hkn
    have HW :Hid (Br (Cd ct.tables) [] st.frm= .ok ts) :=by show _=_;rw [←List.take_length (l :=st.frm)];exact HT.out
    obtain ⟨hn1,_,hn3,hn4⟩ :=Oe HW.out
    have htb : ∀t∈ts,Cv t=true :=fun t ht=>HCT.out t (hn4 t ht)
    have hl2 :ts.length≤2 :=by rw [HL.out];exact hf2
    have GS :GoodS ts :=Ng htb (by omega)
    have HCX :Hid (Ba (Bm ts) (C6 ts) = .ok (J9 ts)) :=Te GS.ap (fun t ht=>Yp (htb t ht)) (Tf GS.ap hl2 (by rw [hn1];exact hn3))
    have HY :Hid (X=match Hc ts st.out with
     | .error m=> .error m
     | .ok out=>match Ej ts st.order with
      | .error m=> .error m
      | .ok order=>match whR ts st.wher with
       | .error m=> .error m
       | .ok wh=> .ok {st with out :=out,order :=order,wher :=wh}) :=by show _=_;rw [HX.out,C7,HS1.out,HW.out];rfl
    have hsc : ∀t∈ts,t.cols.length≤1000000 :=fun t ht=>by
     have :=htb t ht
     simp only [Cv,Bool.and_eq_true,decide_eq_true_eq] at this
     omega
    obtain ⟨⟨css,hos,hall⟩⟩ :=hF
    rw [HL.out] at hos
    have hlt :IsL A4 (fun k=>k<V.heap.size) V (.slice zo st.frm.length zc) ts :=E1 ⟨css,Cu.of_own (F :=fun _=>True) (by rw [HL.out];exact hos) (fun _ _=>trivial),hall.mono fun _ _ _=>trivial⟩
    have HCO :=N9 ts (by omega) hsc _ V.heap.size V hlt (Nat.le_refl _)
    have j1 : ¬ ((st.frm.length :Int) < (st.frm.length :Int)) :=by omega
    have hDV :Hid (D≤V.heap.size) :=hS.dlt
    have HXG :Hid (∀e∈If ts st.out,geB 40 e=true) :=by
     show∀_,_
     rw [If]
     split
     ·exact Yr htb
     ·exact HGO.out
    have HXN :Hid ((If ts st.out).length≤16777216∧ (Ax ts).length≤16777216) :=by
     have hcd : (Ax ts).length≤16777216 :=by
      rw [Pp]
      have :=Ka ts hsc
      omega
     refine ⟨?_,hcd⟩
     rw [If]
     split
     ·rw [Nk,List.length_map];exact hcd
     ·exact hol
    have HOM :Hid (Ba (Bm ts) (If ts st.out) =Hc ts st.out) :=Ys HCX.out
    have HDM :Hid (Ba (Bm ts) st.order=Ej ts st.order) := (R3 ts st.order).symm
    clear hos hall hlt HT HW HX HS1 hn1 hn3 hn4 hsc htb
    go_upto_region 102 with fail
    rename_i K2 hK2
    have HK2 :Hid _ :=hK2
    clear hK2
    go_wp2_with (go_at_call 26;go_fit HCO;rintro e W1 ⟨⟨z,rfl,hz⟩,hb1⟩)
    refine HK2.out _ _ ?_
    obtain ⟨ko,kc,rfl⟩ :=hz.shape
    have hB1 := ((hS.ext (Do _ V.heap.size 0)).below hb1).cols2 (S :=ts) (ko :=ko) (kc :=kc) (hz.mono fun k _ (hk :V.heap.size≤k) => ⟨Nat.le_trans hDV.out hk,by rw [C3,if_neg (by omega)]⟩)
    refine wp_seq_k fun K3 hK3=> ?_
    refine Yu w W1 D _ _ _ st hB1 HXN.out.2 _ ?_ _ _ _ _ _ _ _ _ _ _ _ _ _ _ (by kernel_rfl)
    intro uo uc lab3 V3 _ _ _ _ _ _ _ _ _ _ _ _ _ l3 hl3 hB3
    refine hK3 _ _ ?_
    refine wp_seq_k fun K4 hK4=> ?_
    refine Z6 w V3 D lab3 _ _ _ hB3 GS HXN.out.1 HXG.out _ ?_ ?_ _ _ _ _ _ _ _ _ _ _ _ _ _ l3 hl3
    ·intro m hm a W' hp
     have hx :X= .error m :=by rw [HY.out,←HOM.out,show Ba (Bm ts) (If ts st.out) = .error m from hm]
     rw [←hx] at hp
     exact hp
    intro ys lab4 V4 _ _ _ _ _ _ _ _ _ _ _ _ _ l4 hl4 hys hB4
    refine hK4 _ _ ?_
    have HY2 :Hid (X=match Ej ts st.order with
     | .error m=> .error m
     | .ok order=>match whR ts st.wher with
      | .error m=> .error m
      | .ok wh=> .ok {st with out :=ys,order :=order,wher :=wh}) :=by show _=_;rw [HY.out,←HOM.out,show Ba (Bm ts) (If ts st.out) = .ok ys from hys]
    refine Xa w V4 D lab4 _ _ _ hB4 GS hdl HGD.out _ ?_ ?_ _ _ _ _ _ _ _ _ _ _ _ _ _ l4 hl4
    ·intro m hm a W' hp
     have hx :X= .error m :=by rw [HY2.out,←HDM.out,show Ba (Bm ts) st.order= .error m from hm]
     rw [←hx] at hp
     exact hp
    intro zs lab5 V5 _ _ _ _ _ _ _ _ _ _ _ _ _ l5 hl5 hzs hB5
    refine HKF.out _ _ ?_
    have HY3 :Hid (X=match whR ts st.wher with
     | .error m=> .error m
     | .ok wh=> .ok {st with out :=ys,order :=zs,wher :=wh}) :=by show _=_;rw [HY2.out,←HDM.out,show Ba (Bm ts) st.order= .ok zs from hzs]
    exact Tt X w V5 D lab5 _ _ _ hB5 GS HGW.out HY3.out _ _ _ _ _ _ _ _ _ _ _ _ _ l5 hl5
end Go.Proofs.YtmgkcjiejmhgcaaGreatDoor

