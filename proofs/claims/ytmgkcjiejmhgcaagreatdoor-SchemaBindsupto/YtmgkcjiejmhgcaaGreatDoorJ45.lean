/-
  1 texts of this proof in one, in build order: BChg.
-/
import Derived.Test.YtmgkcjiejmhgcaaGreatDoorJ36
set_option linter.unusedSimpArgs false
set_option linter.unusedVariables false
namespace Go.Proofs.YtmgkcjiejmhgcaaGreatDoor
open Go.RowKit Go.Maps
theorem O4 {ct :CatD} (h :Cq ct=true) : ∀t∈ct.tables,Cv t=true :=by
 simp only [Cq,Bool.and_eq_true,Ij,Bool.not_eq_true',decide_eq_true_eq] at h
 obtain ⟨⟨_,h2,_⟩,_⟩ :=h
 rw [D9] at h2
 intro t ht
 have := (List.any_eq_false.1 h2) t ht
 simpa using this
abbrev F4 :Array Value := #[.string ⟨#[]⟩, .int .i64 0, .int .i64 0, .int .i64 0, .string ⟨#[]⟩, .string ⟨#[]⟩, .string ⟨#[]⟩, .int .i64 0, .slice none 0 0]
theorem R2 {F :Nat→Prop} {w :World} {ao :Option Addr} {n c :Nat} {l :List ColD} (h :IsL Bg F w (.slice ao n c) l) {k :Nat} {x :ColD} (hx :l[k]? =some x) : ∃b off,ao=some ⟨b,off,none⟩ ∧b<w.heap.size∧w.cell? ⟨b,off+k*3+1,none⟩ =some (.int .i64 x.ty) :=by
 obtain ⟨b,off,cs,h1,_,h3,rfl,h5⟩ :=Av h hx
 exact ⟨b,off,h1,h3,h5 1 _ rfl⟩
set_option maxRecDepth 100000 in
set_option maxHeartbeats 8000000 in
theorem Ux (ct :CatD) (te io :Option Addr) (tc ic C :Nat) (X :Except Int Stm) (w W :World) (D :Nat) (lab :Nat→Nat) (v :Lv) (st :Stm) (h :BdSt w W D lab #[.slice te ct.tables.length tc, .slice io ct.indexes.length ic] v st) (htl :IsL A4 (fun k=>k<C) w (.slice te ct.tables.length tc) ct.tables) (hil :IsL B7 (fun k=>k<C) w (.slice io ct.indexes.length ic) ct.indexes) (hC :C≤w.heap.size) (hen :EnvM w) (hcb :Cq ct=true) (ht :Mf ct st.table C W v) (hv :v.S= [(A5 ct.tables st.table).getD ⟨noW,[]⟩]) (hk :st.kind=4∨st.kind=5∨st.kind=6) (hgx :De st=true) (hrl :st.rows.length≤16777216) (hsl :st.sets.length≤16777216)
  (hX :X=Cz ct st) (q0 q1 q5 v7 v8 q9 q10 q11 q12 q13 q14 :Value) (l :List Value) (hll :l.length=494) :
  Code.wp Tryz.prog (Db 12 (C4 Tryz.f7)) (bodyPost Tryz.prog Tryz.f7 (Dc X w)) ⟨frm w.heap.size q0 q1 q5 v7 v8 q9 q10 q11 q12 q13 q14 (.pointer (some ⟨v.b,0,none⟩)) (.bool (A5 ct.tables st.table).isSome) (.slice v.ko (Ax v.S).length v.kc) l,[]⟩ W :=by
 obtain ⟨q,rfl⟩ :=lay hll
 clear hll
 have k0 :W.cell? ⟨w.heap.size+1,0,none⟩ =some (.int .i64 st.kind) :=Aa h.stm rfl
 have q1 : (st.kind==1) =false :=by rcases hk with e | e | e<;>rw [e] <;>rfl
 have q2 : (st.kind==2) =false :=by rcases hk with e | e | e<;>rw [e] <;>rfl
 have q3 : (st.kind==3) =false :=by rcases hk with e | e | e<;>rw [e] <;>rfl
 have q7 : (st.kind==7) =false :=by rcases hk with e | e | e<;>rw [e] <;>rfl
 obtain ⟨hgr,hgs,_,_,hgw⟩ :=Jo hgx
 have HG :Hid _ :=hgr
 have HGS :Hid _ :=hgs
 have HGW :Hid _ :=hgw
 have HCT :Hid _ :=O4 hcb
 have HCA :Hid (C≤w.heap.size) :=hC
 clear hk hcb hen htl hil hgx hgr hgs hgw hC
 conv=>arg 2;whnf
 refine wp_seq_k fun KF hKF=> ?_
 have HKF :Hid _ :=hKF
 clear hKF
 simp only [frm,List.range,List.range.loop,List.map]
 cases hf :A5 ct.tables st.table with
 | none=>
  have HE :Hid (X= .error 3) :=by show _=_;rw [hX,Cz,hf]
  clear hX ht hf hv
  rw [Option.isSome_none]
  go_wp2_with (first | (go_at_call 24;go_fit (Cr 3 _);rintro e W9 ⟨rfl,hb9⟩;have h9 :=h.below hb9;have bR9 :=h9.room;have bel9 :=h9.bel) | (refine wpList_store_row rfl 36 _ _ rfl (w.heap.size+2) Ah ?_ ?_ 36 Ah ?_ ?_ ?_ ?_ ?_;exact rfl;exact rfl;exact bR9;exact Am;exact rfl;exact Bn))
  exact B9 bel9 bR9 3 HE.out rfl rfl
 | some t=>
  have HX :Hid (X=match Fu t.cols st.rows with
   | .error m=> .error m
   | .ok rows=>match Bq t [] st.sets with
    | .error m=> .error m
    | .ok sets=>match whR [t] st.wher with
     | .error m=> .error m
     | .ok wh=> .ok {st with rows :=rows,sets :=sets,wher :=wh}) :=by show _=_;rw [hX,Cz,hf];rfl
  rw [hf] at hv
  rw [Mf,hf] at ht
  have HV :Hid (v.S= [t]) :=hv
  have HTB :Hid (Cv t=true) :=HCT.out t (List.mem_of_find?_eq_some hf)
  have htc :=ht.2
  rw [Option.isSome_some]
  clear hX ht hf hv
  have HTL :Hid (v.tl=t.cols.length) := (Bj htc).1
  have HTC :Hid _ :=htc
  clear htc
  obtain ⟨ro,hro⟩ : ∃z,z=v.ro := ⟨_,rfl⟩
  have HRO :Hid (ro=v.ro) :=hro
  have e5 :W.cell? ⟨w.heap.size+1,5,none⟩ =some (.slice ro st.rows.length v.rc) :=by rw [hro];exact Aa h.stm rfl
  clear hro
  go_upto_region 29 with fail
  go_wp2_with fail
  clear e5 k0 q1 q2 q3 q7
  go_loopw [148] (fun iv wr=> ∃ (k :Nat) (rs :List (List E)) (lab' :Nat→Nat),k≤st.rows.length∧iv= .int .i64 k∧Hid (Ba (Es t.cols) (st.rows.take k) = .ok rs) ∧Hid (rs.length=k) ∧BdSt w wr D lab' #[.slice te ct.tables.length tc, .slice io ct.indexes.length ic] v {st with rows :=rs++st.rows.drop k} ∧W.heap.size≤wr.heap.size) (fun iv _=>st.rows.length - (intOf iv).toNat)
  case atStart=>exact ⟨0,[],lab,Nat.zero_le _,rfl,rfl,rfl,h,Nat.le_refl _⟩
  case round=>
   obtain ⟨k,rs,lab1,hk,rfl,HR,HRL,hS,hsz⟩ :=hrel
   obtain ⟨V,hV⟩ : ∃V,V=wr := ⟨_,rfl⟩
   subst hV
   by_cases hlt :k<st.rows.length
   ·obtain ⟨r,hr⟩ : ∃r,st.rows[k]? =some r := ⟨_,List.getElem?_eq_getElem hlt⟩
    have hd :st.rows.drop k=r ::st.rows.drop (k+1) :=by rw [List.drop_eq_getElem_cons hlt,(List.getElem?_eq_some_iff.1 hr).2]
    rw [hd] at hS
    have HRG :Hid (∀a∈r,geB 40 a=true) :=HG.out r (List.mem_of_getElem? hr)
    have HT :Hid (Ba (Es t.cols) (st.rows.take (k+1)) =match Es t.cols r with | .error m=> .error m | .ok b=> .ok (rs++ [b])) :=by show _=_;rw [List.take_add_one,hr];show Ba _ (_++ [r]) =_;rw [Ec,HR.out];cases Es t.cols r<;>rfl
    have HEX :Hid (∀m,Es t.cols r= .error m→X= .error m) :=fun m hm=>by
     rw [HX.out,show Fu t.cols st.rows= .error m from by
      rw [Fu,←List.take_append_drop (k+1) st.rows]
      exact Ek _ _ _ _ (by rw [HT.out,hm])]
    obtain ⟨hor,_,hrr⟩ :=hS.rows
    obtain ⟨vr,hvr,hol⟩ :=hrr k r (by rw [List.getElem?_append_right (Nat.le_of_eq HRL.out),HRL.out,Nat.sub_self];rfl)
    obtain ⟨ra,rc,rfl⟩ :=hol.shape
    have HVR :Hid _ :=hvr
    obtain ⟨b,off,hbo,hcell⟩ :=Yh hor hvr
    have hbo2 :ro=some ⟨b,off,none⟩ :=HRO.out.trans hbo
    subst hbo2
    have x1 :V.cell? ⟨v.b,1,none⟩ =some (.slice v.ta v.tl v.tk) :=Aa hS.tab rfl
    have j0 : (0 :Int) ≤ (k :Int) :=by omega
    have j1 : (k :Int) < (st.rows.length :Int) :=by omega
    clear hd hr hor hrr hvr hbo hol
    by_cases hlen :r.length=t.cols.length
    ·have y1 : ((r.length :Int) != (v.tl :Int)) =false :=by rw [HTL.out,hlen];simp
     have hrb :r.length≤16777216 :=by
      have :=HTB.out
      simp only [Cv,Bool.and_eq_true,decide_eq_true_eq] at this
      omega
     have HLEN :Hid _ :=hlen
     have HRR :Hid (Es t.cols r=Ba Fa (t.cols.zip r)) :=if_pos hlen
     clear hlen
     go_wp2_with fail
     go_loopw [164] (fun iv wr=> ∃ (j :Nat) (ys :List E) (lab2 :Nat→Nat),j≤r.length∧iv= .int .i64 j∧Hid (Ba Fa ((t.cols.zip r).take j) = .ok ys) ∧Hid (ys.length=j) ∧BdSt w wr D lab2 #[.slice te ct.tables.length tc, .slice io ct.indexes.length ic] v {st with rows :=rs++ (ys++r.drop j) ::st.rows.drop (k+1)} ∧W.heap.size≤wr.heap.size) (fun iv _=>r.length - (intOf iv).toNat)
     case atStart=>exact ⟨0,[],lab1,Nat.zero_le _,rfl,rfl,rfl,hS,hsz⟩
     case round=>
      obtain ⟨j,ys,lab2,hj,rfl,HY,HYL,hS2,hsz2⟩ :=hrel
      obtain ⟨V2,hV2⟩ : ∃V,V=wr := ⟨_,rfl⟩
      subst hV2
      clear hS x1 hcell y1 j0 j1
      by_cases hjl :j<r.length
      ·obtain ⟨x,hx⟩ : ∃x,r[j]? =some x := ⟨_,List.getElem?_eq_getElem hjl⟩
       obtain ⟨cd,hcd⟩ : ∃cd,t.cols[j]? =some cd := ⟨_,List.getElem?_eq_getElem (show j<t.cols.length by rw [←HLEN.out];exact hjl)⟩
       have HZ :Hid (Ba Fa ((t.cols.zip r).take (j+1)) =match asR [] cd.ty x with | .error m=> .error m | .ok b=> .ok (ys++ [b])) :=by
        show _=_
        rw [List.take_add_one,(List.getElem?_zip_eq_some (z := (cd,x))).2 ⟨hcd,hx⟩]
        show Ba _ (_++ [_]) =_
        rw [Ec,HY.out,show Fa (cd,x) =asR [] cd.ty x from rfl]
        cases asR [] cd.ty x<;>rfl
       have hrk : (rs++ (ys++r.drop j) ::st.rows.drop (k+1))[k]? =some (ys++r.drop j) :=by rw [List.getElem?_append_right (Nat.le_of_eq HRL.out),HRL.out,Nat.sub_self];rfl
       obtain ⟨_,_,hrr⟩ :=hS2.rows
       obtain ⟨vr2,hvr2,hol⟩ :=hrr k _ hrk
       obtain rfl :Value.slice ra r.length rc=vr2 :=Option.some.inj (HVR.out.symm.trans hvr2)
       obtain ⟨b2,off2,cs,hso,hp,hE⟩ :=Kj hol.isL (k :=j) (x :=x) (by rw [List.getElem?_append_right (Nat.le_of_eq HYL.out),HYL.out,Nat.sub_self,List.getElem?_drop,Nat.add_zero];exact hx)
       cases hso
       have hp1 :=hp.range;have hp2 : (Tryz.prog.info? 34).map (·.size) =some cs.length :=Ai.trans (congrArg some hp.len.symm);have hp3 :=hp.one;have hp4 : (Tryz.prog.info? 34).map (·.size) =some cs.toArray.size :=hp2
       have hp5 :=Ab V2 (.cells eZ 34);have hp6 :Hid (8=cs.toArray.size) :=hp.len.symm
       have hb3 :=Below.row (Aq V2 (.cells eZ 34)) (Nat.le_refl _) cs.toArray
       have hS3 :=hS2.below hb3
       obtain ⟨cb,co,hco,hcl,hty⟩ :=R2 (IsL.keep HTC.out (L2 h.bel hS2.bel HCA.out hsz2)) hcd
       have hxb : ((V2.alloc (.cells eZ 34)).setRow V2.heap.size cs.toArray).heap[V2.heap.size]? =some (.cells cs.toArray 34) :=An hp5
       have x1 : ((V2.alloc (.cells eZ 34)).setRow V2.heap.size cs.toArray).cell? ⟨v.b,1,none⟩ =some (.slice (some ⟨cb,co,none⟩) v.tl v.tk) :=by rw [←hco];exact Aa hS3.tab rfl
       have x2 := (hb3.cell (p := ⟨cb,_,none⟩) hcl).trans hty
       have hE3 :=IsE.keep (Ag hb3) _ _ hE
       have hge :=HRG.out x (List.mem_of_getElem? hx)
       have j0 : (0 :Int) ≤ (j :Int) :=by omega
       have j1 : (j :Int) < (r.length :Int) :=by omega
       have j2 : (j :Int) < (v.tl :Int) :=by rw [HTL.out,←HLEN.out];exact j1
       have hsz3 :=Nat.le_trans hsz2 hb3.size
       have HRK :Hid _ :=hrk
       clear hcd hx hrk hrr hvr2 hol hE hco hty hS2 hp
       go_upto_region 37 with (first | (refine wpList_load_mid rfl 34 _ rfl b2 (off2+j*8) ?_ cs _ hp1 Tryz.underlying34 rfl ?_ ?_;exact rfl;exact hp2) | (refine wpList_store_row rfl 34 _ _ rfl V2.heap.size cs.toArray ?_ ?_ 34 eZ ?_ ?_ ?_ ?_ ?_;exact rfl;exact rfl;exact hp5;exact hp4;exact hp6.out;exact hp3))
       generalize hW3 : (V2.alloc (.cells eZ 34)).setRow V2.heap.size cs.toArray=V3 at*
       have l0 :=lt_of_block hxb
       have l1 :=lt_of_block hS3.tab
       have l2 :cb<V3.heap.size :=Nat.lt_of_lt_of_le hcl hb3.size
       have l3 :V2.heap.size≤V3.heap.size :=hb3.size
       have KP :Hid (∀W',Below V3.heap.size V3 W'→ (fun W'=>W'.heap[V2.heap.size]? =some (.cells cs.toArray 34) ∧W'.cell? ⟨v.b,1,none⟩ =some (.slice (some ⟨cb,co,none⟩) v.tl v.tk) ∧W'.cell? ⟨cb,co+j*3+1,none⟩ =some (.int .i64 cd.ty)) W') :=fun W' hb=> ⟨(hb.block _ l0).trans hxb,(hb.cell (p := ⟨v.b,1,none⟩) l1).trans x1,(hb.cell (p := ⟨cb,_,none⟩) l2).trans x2⟩
       have HTa :=Ki Ps (want :=cd.ty) (IsE.keep (Ag ((Below.refl V2.heap.size V3).drew)) _ _ hE3) (show IsL B8 _ _ (.slice none 0 0) [] from IsL.nil _ _ _) (show V2.heap.size≤V3.drew.heap.size from l3) hge
       have hbq := ((Below.refl V3.heap.size V3).drew).trans (Aq V3.drew (.cells eZ 34))
       have HTb :=Ki Ps (want :=cd.ty) (IsE.keep (Ag (hbq.mono l3)) _ _ hE3) (show IsL B8 _ _ (.slice none 0 0) [] from IsL.nil _ _ _) (Nat.le_trans l3 hbq.size) hge
       clear hW3 x1 x2 hxb l0 l1 l2 hE3
       simp only [Act.put]
       go_cut [45,46] from 169 to 179 (fun pv fv wx=> ∃nb arr f,pv= .pointer (some ⟨nb,0,none⟩) ∧fv= .int .i64 f∧EvFAt V3 wx nb (asR [] cd.ty x) arr f)
       case first=>
        refine wp_region_held_drew (S := (fun W'=>W'.heap[V2.heap.size]? =some (.cells cs.toArray 34) ∧W'.cell? ⟨v.b,1,none⟩ =some (.slice (some ⟨cb,co,none⟩) v.tl v.tk) ∧W'.cell? ⟨cb,co+j*3+1,none⟩ =some (.int .i64 cd.ty))) (by kernel_rfl) ?_ (fun hHeld=> ?_)
        ·exact KP.out _ (Below.refl _ _).drew
        refine wpAnyH_take (i :=0) (oi := {dst :=some 170,op :=Go.Op.load 34 (Go.Operand.tmp 44),type :=34,pos := "high.go:336",after := #[],guard :=none}) (v := .agg cs.toArray) rfl (by kernel_rfl) (by kernel_rfl) (by kernel_rfl) (fun _ _ _ h=>h) (Bt rfl 34 _ rfl V2.heap.size rfl cs.toArray 34 _ (fun _ h=>h.1) Tryz.underlying34 rfl hp4) (by assumption) ?_
        try simp only [Act.put,List.setIfInBounds_toArray,List.set_cons_zero,List.set_cons_succ]
        refine wpAnyH_take (i :=1) (oi := {dst :=some 171,op :=Go.Op.fieldAddr 47 (Go.Operand.tmp 15) 1,type :=0,pos := "high.go:336",after := #[],guard :=none}) (v := ?_) rfl (by kernel_rfl) (by kernel_rfl) (by kernel_rfl) (fun _ _ _ h=>h) (Or.inl ⟨by rfl, ?_⟩) (by assumption) ?_
        rotate_left
        ·intro w hSw;(try dsimp only at hSw);go_simp;all_goals (with_reducible rfl)
        try simp only [Act.put,List.setIfInBounds_toArray,List.set_cons_zero,List.set_cons_succ]
        refine wpAnyH_take (i :=2) (oi := {dst :=some 172,op :=Go.Op.load 26 (Go.Operand.tmp 171),type :=26,pos := "high.go:336",after := #[{on :=1,ground :=Go.Ground.data}],guard :=none}) (v := ?_) rfl (by kernel_rfl) (by kernel_rfl) (by kernel_rfl) (fun _ _ _ h=>h) (Or.inl ⟨by rfl, ?_⟩) (by assumption) ?_
        rotate_left
        ·intro w hSw;(try dsimp only at hSw);go_simp;all_goals (with_reducible rfl)
        try simp only [Act.put,List.setIfInBounds_toArray,List.set_cons_zero,List.set_cons_succ]
        refine wpAnyH_take (i :=3) (oi := {dst :=some 173,op :=Go.Op.move (Go.Operand.tmp 43),type :=3,pos := "high.go:336",after := #[],guard :=none}) (v := ?_) rfl (by kernel_rfl) (by kernel_rfl) (by kernel_rfl) (fun _ _ _ h=>h) (Or.inl ⟨by rfl, ?_⟩) (by assumption) ?_
        rotate_left
        ·intro w hSw;(try dsimp only at hSw);go_simp;all_goals (with_reducible rfl)
        try simp only [Act.put,List.setIfInBounds_toArray,List.set_cons_zero,List.set_cons_succ]
        refine wpAnyH_take (i :=4) (oi := {dst :=some 174,op :=Go.Op.indexAddr 26 (Go.Operand.tmp 172) (Go.Operand.tmp 173),type :=0,pos := "high.go:336",after := #[{on :=2,ground :=Go.Ground.data},{on :=3,ground :=Go.Ground.data}],guard :=none}) (v := ?_) rfl (by kernel_rfl) (by kernel_rfl) (by kernel_rfl) (fun _ _ _ h=>h) (Or.inl ⟨by rfl, ?_⟩) (by assumption) ?_
        rotate_left
        ·intro w hSw;(try dsimp only at hSw);go_simp;all_goals (with_reducible rfl)
        try simp only [Act.put,List.setIfInBounds_toArray,List.set_cons_zero,List.set_cons_succ]
        refine wpAnyH_take (i :=5) (oi := {dst :=some 175,op :=Go.Op.fieldAddr 66 (Go.Operand.tmp 174) 1,type :=0,pos := "high.go:336",after := #[{on :=4,ground :=Go.Ground.data}],guard :=none}) (v := ?_) rfl (by kernel_rfl) (by kernel_rfl) (by kernel_rfl) (fun _ _ _ h=>h) (Or.inl ⟨by rfl, ?_⟩) (by assumption) ?_
        rotate_left
        ·intro w hSw;(try dsimp only at hSw);go_simp;all_goals (with_reducible rfl)
        try simp only [Act.put,List.setIfInBounds_toArray,List.set_cons_zero,List.set_cons_succ]
        refine wpAnyH_take (i :=6) (oi := {dst :=some 176,op :=Go.Op.load 3 (Go.Operand.tmp 175),type :=3,pos := "high.go:336",after := #[{on :=5,ground :=Go.Ground.data}],guard :=none}) (v := ?_) rfl (by kernel_rfl) (by kernel_rfl) (by kernel_rfl) (fun _ _ _ h=>h) (Or.inl ⟨by rfl, ?_⟩) (by assumption) ?_
        rotate_left
        ·intro w hSw;(try dsimp only at hSw);go_simp;all_goals (with_reducible rfl)
        try simp only [Act.put,List.setIfInBounds_toArray,List.set_cons_zero,List.set_cons_succ]
        refine wpAnyH_ready (rs := [7,11]) (by kernel_rfl) (by simp) ?_
        refine (AllReadyH.cons (o := {dst :=some 177,op :=Go.Op.call {callee :=Go.Callee.value (Go.Operand.func 29),args := #[Go.Operand.const (Go.Value.slice none 0 0),Go.Operand.tmp 170,Go.Operand.tmp 176],argTypes := #[60,34,3]},type :=71,pos := "high.go:336",after := #[{on :=0,ground :=Go.Ground.data},{on :=6,ground :=Go.Ground.data}],guard :=none}) rfl (fun K hK=> ?_) (AllReadyH.cons (o := {dst :=some 45,op :=Go.Op.alloc 34,type :=0,pos := "high.go:336",after := #[],guard :=none}) rfl (fun K hK=> ?_) AllReadyH.nil))
        ·go_simp
         (go_at_call 29;go_fit HTa;rintro e W1 ⟨arr,f,rfl,hA⟩;have hA2 :=hA.one;have hA3 :=hA.info;have hA4 :Hid (8=arr.size) :=hA.size.symm;have HA :Hid _ :=hA;clear hA)
         go_wp2_with fail
         refine hK.out _ _ ?_ (fun hHeld=> ?_)
         ·exact KP.out _ ((Below.refl _ _).drew.trans HA.out.bel)
         clear hK K
         try simp only [Act.put,List.setIfInBounds_toArray,List.set_cons_zero,List.set_cons_succ]
         refine wpAnyH_take (i :=8) (oi := {dst :=some 169,op :=Go.Op.move (Go.Operand.tmp 177),type :=71,pos := "high.go:336",after := #[{on :=7,ground :=Go.Ground.data}],guard :=none}) (v := ?_) rfl (by kernel_rfl) (by kernel_rfl) (by kernel_rfl) (fun _ _ _ h=>h) (Or.inl ⟨by rfl, ?_⟩) (by assumption) ?_
         rotate_left
         ·intro w hSw;(try dsimp only at hSw);go_simp;all_goals (with_reducible rfl)
         try simp only [Act.put,List.setIfInBounds_toArray,List.set_cons_zero,List.set_cons_succ]
         refine wpAnyH_take (i :=9) (oi := {dst :=some 178,op :=Go.Op.extract (Go.Operand.tmp 169) 0,type :=34,pos := "high.go:336",after := #[{on :=8,ground :=Go.Ground.data}],guard :=none}) (v := ?_) rfl (by kernel_rfl) (by kernel_rfl) (by kernel_rfl) (fun _ _ _ h=>h) (Or.inl ⟨by rfl, ?_⟩) (by assumption) ?_
         rotate_left
         ·intro w hSw;(try dsimp only at hSw);go_simp;all_goals (with_reducible rfl)
         try simp only [Act.put,List.setIfInBounds_toArray,List.set_cons_zero,List.set_cons_succ]
         refine wpAnyH_take (i :=10) (oi := {dst :=some 179,op :=Go.Op.extract (Go.Operand.tmp 169) 1,type :=39,pos := "high.go:336",after := #[{on :=8,ground :=Go.Ground.data},{on :=12,ground :=Go.Ground.gcOnly Go.Departure.lateStores}],guard :=none}) (v := ?_) rfl (by kernel_rfl) (by kernel_rfl) (by kernel_rfl) (fun _ _ _ h=>h) (Or.inl ⟨by rfl, ?_⟩) (by assumption) ?_
         rotate_left
         ·intro w hSw;(try dsimp only at hSw);go_simp;all_goals (with_reducible rfl)
         try simp only [Act.put,List.setIfInBounds_toArray,List.set_cons_zero,List.set_cons_succ]
         refine wpAnyH_ready (rs := [11]) (by kernel_rfl) (by simp) ?_
         refine (AllReadyH.cons (o := {dst :=some 45,op :=Go.Op.alloc 34,type :=0,pos := "high.go:336",after := #[],guard :=none}) rfl (fun K hK=> ?_) AllReadyH.nil)
         go_simp
         go_wp2_with fail
         refine hK.out _ _ ?_ (fun hHeld=> ?_)
         ·exact KP.out _ (((Below.refl _ _).drew.trans HA.out.bel).alloc ((Below.refl _ _).drew.trans HA.out.bel).size _)
         clear hK K
         try simp only [Act.put,List.setIfInBounds_toArray,List.set_cons_zero,List.set_cons_succ]
         refine wpAnyH_ready (rs := [12]) (by kernel_rfl) (by simp) ?_
         refine (AllReadyH.cons (o := {dst :=none,op :=Go.Op.store 34 (Go.Operand.tmp 45) (Go.Operand.tmp 178),type :=0,pos := "high.go:336",after := #[{on :=11,ground :=Go.Ground.data},{on :=9,ground :=Go.Ground.data},{on :=7,ground :=Go.Ground.chain},{on :=0,ground :=Go.Ground.phase},{on :=1,ground :=Go.Ground.phase},{on :=2,ground :=Go.Ground.phase},{on :=3,ground :=Go.Ground.phase},{on :=4,ground :=Go.Ground.phase},{on :=5,ground :=Go.Ground.phase},{on :=6,ground :=Go.Ground.phase},{on :=7,ground :=Go.Ground.phase},{on :=8,ground :=Go.Ground.phase},{on :=9,ground :=Go.Ground.phase},{on :=10,ground :=Go.Ground.textOnly Go.Departure.lateStores},{on :=11,ground :=Go.Ground.phase}],guard :=none}) rfl (fun K hK=> ?_) AllReadyH.nil)
         refine At rfl 34 _ _ rfl W1.heap.size arr ?_ ?_ 34 eZ ?_ ?_ ?_ ?_ ?_;exact rfl;exact rfl;exact Ab _ _;exact hA3;exact hA4.out;exact hA2
         refine hK.out _ _ ?_ (fun hHeld=> ?_)
         ·exact KP.out _ (Below.row (((Below.refl _ _).drew.trans HA.out.bel).alloc ((Below.refl _ _).drew.trans HA.out.bel).size _) ((Below.refl _ _).drew.trans HA.out.bel).size _)
         clear hK K
         try simp only [Act.put]
         refine wpAnyH_take (i :=13) (oi := {dst :=some 46,op :=Go.Op.assign (Go.Operand.tmp 179),type :=39,pos := "high.go:336",after := #[{on :=10,ground :=Go.Ground.data},{on :=12,ground :=Go.Ground.chain},{on :=0,ground :=Go.Ground.phase},{on :=1,ground :=Go.Ground.phase},{on :=2,ground :=Go.Ground.phase},{on :=3,ground :=Go.Ground.phase},{on :=4,ground :=Go.Ground.phase},{on :=5,ground :=Go.Ground.phase},{on :=6,ground :=Go.Ground.phase},{on :=7,ground :=Go.Ground.phase},{on :=8,ground :=Go.Ground.phase},{on :=9,ground :=Go.Ground.phase},{on :=10,ground :=Go.Ground.phase},{on :=11,ground :=Go.Ground.phase},{on :=12,ground :=Go.Ground.phase}],guard :=none}) (v := ?_) rfl (by kernel_rfl) (by kernel_rfl) (by kernel_rfl) (fun _ _ _ h=>h) (Or.inl ⟨by rfl, ?_⟩) (by assumption) ?_
         rotate_left
         ·intro w hSw;(try dsimp only at hSw);go_simp;all_goals (with_reducible rfl)
         try simp only [Act.put,List.setIfInBounds_toArray,List.set_cons_zero,List.set_cons_succ]
         refine wpAnyH_done (by kernel_rfl) ?_ _
         go_wp2_with fail
         go_meet
         case rel=>first | exact ⟨_,_,_,rfl,rfl,HA.out.at.undrew⟩ | exact ⟨_,_,_,rfl,rfl,HA.out.ahead.undrew⟩
        ·go_simp
         go_wp2_with fail
         refine hK.out _ _ ?_ (fun hHeld=> ?_)
         ·exact KP.out _ ((Below.refl _ _).drew.trans (Aq V3.drew (.cells eZ 34)))
         clear hK K
         try simp only [Act.put,List.setIfInBounds_toArray,List.set_cons_zero,List.set_cons_succ]
         refine wpAnyH_ready (rs := [7]) (by kernel_rfl) (by simp) ?_
         refine (AllReadyH.cons (o := {dst :=some 177,op :=Go.Op.call {callee :=Go.Callee.value (Go.Operand.func 29),args := #[Go.Operand.const (Go.Value.slice none 0 0),Go.Operand.tmp 170,Go.Operand.tmp 176],argTypes := #[60,34,3]},type :=71,pos := "high.go:336",after := #[{on :=0,ground :=Go.Ground.data},{on :=6,ground :=Go.Ground.data}],guard :=none}) rfl (fun K hK=> ?_) AllReadyH.nil)
         go_simp
         (go_at_call 29;go_fit HTb;rintro e W1 ⟨arr,f,rfl,hA⟩;have hA2 :=hA.one;have hA3 :=hA.info;have hA4 :Hid (8=arr.size) :=hA.size.symm;have HA :Hid _ :=hA;clear hA)
         go_wp2_with fail
         refine hK.out _ _ ?_ (fun hHeld=> ?_)
         ·exact KP.out _ (((Below.refl _ _).drew.trans (Aq V3.drew (.cells eZ 34))).trans (HA.out.bel.mono (Aq V3.drew (.cells eZ 34)).size))
         clear hK K
         try simp only [Act.put,List.setIfInBounds_toArray,List.set_cons_zero,List.set_cons_succ]
         refine wpAnyH_take (i :=8) (oi := {dst :=some 169,op :=Go.Op.move (Go.Operand.tmp 177),type :=71,pos := "high.go:336",after := #[{on :=7,ground :=Go.Ground.data}],guard :=none}) (v := ?_) rfl (by kernel_rfl) (by kernel_rfl) (by kernel_rfl) (fun _ _ _ h=>h) (Or.inl ⟨by rfl, ?_⟩) (by assumption) ?_
         rotate_left
         ·intro w hSw;(try dsimp only at hSw);go_simp;all_goals (with_reducible rfl)
         try simp only [Act.put,List.setIfInBounds_toArray,List.set_cons_zero,List.set_cons_succ]
         refine wpAnyH_take (i :=9) (oi := {dst :=some 178,op :=Go.Op.extract (Go.Operand.tmp 169) 0,type :=34,pos := "high.go:336",after := #[{on :=8,ground :=Go.Ground.data}],guard :=none}) (v := ?_) rfl (by kernel_rfl) (by kernel_rfl) (by kernel_rfl) (fun _ _ _ h=>h) (Or.inl ⟨by rfl, ?_⟩) (by assumption) ?_
         rotate_left
         ·intro w hSw;(try dsimp only at hSw);go_simp;all_goals (with_reducible rfl)
         try simp only [Act.put,List.setIfInBounds_toArray,List.set_cons_zero,List.set_cons_succ]
         refine wpAnyH_take (i :=10) (oi := {dst :=some 179,op :=Go.Op.extract (Go.Operand.tmp 169) 1,type :=39,pos := "high.go:336",after := #[{on :=8,ground :=Go.Ground.data},{on :=12,ground :=Go.Ground.gcOnly Go.Departure.lateStores}],guard :=none}) (v := ?_) rfl (by kernel_rfl) (by kernel_rfl) (by kernel_rfl) (fun _ _ _ h=>h) (Or.inl ⟨by rfl, ?_⟩) (by assumption) ?_
         rotate_left
         ·intro w hSw;(try dsimp only at hSw);go_simp;all_goals (with_reducible rfl)
         try simp only [Act.put,List.setIfInBounds_toArray,List.set_cons_zero,List.set_cons_succ]
         refine wpAnyH_ready (rs := [12]) (by kernel_rfl) (by simp) ?_
         refine (AllReadyH.cons (o := {dst :=none,op :=Go.Op.store 34 (Go.Operand.tmp 45) (Go.Operand.tmp 178),type :=0,pos := "high.go:336",after := #[{on :=11,ground :=Go.Ground.data},{on :=9,ground :=Go.Ground.data},{on :=7,ground :=Go.Ground.chain},{on :=0,ground :=Go.Ground.phase},{on :=1,ground :=Go.Ground.phase},{on :=2,ground :=Go.Ground.phase},{on :=3,ground :=Go.Ground.phase},{on :=4,ground :=Go.Ground.phase},{on :=5,ground :=Go.Ground.phase},{on :=6,ground :=Go.Ground.phase},{on :=7,ground :=Go.Ground.phase},{on :=8,ground :=Go.Ground.phase},{on :=9,ground :=Go.Ground.phase},{on :=10,ground :=Go.Ground.textOnly Go.Departure.lateStores},{on :=11,ground :=Go.Ground.phase}],guard :=none}) rfl (fun K hK=> ?_) AllReadyH.nil)
         refine At rfl 34 _ _ rfl V3.heap.size arr ?_ ?_ 34 eZ ?_ ?_ ?_ ?_ ?_;exact rfl;exact rfl;exact ((HA.out.bel.block _ (by simp)).trans (Ab V3.drew (.cells eZ 34)));exact hA3;exact hA4.out;exact hA2
         refine hK.out _ _ ?_ (fun hHeld=> ?_)
         ·exact KP.out _ (Below.row (((Below.refl _ _).drew.trans (Aq V3.drew (.cells eZ 34))).trans (HA.out.bel.mono (Aq V3.drew (.cells eZ 34)).size)) (Nat.le_refl _) _)
         clear hK K
         try simp only [Act.put]
         refine wpAnyH_take (i :=13) (oi := {dst :=some 46,op :=Go.Op.assign (Go.Operand.tmp 179),type :=39,pos := "high.go:336",after := #[{on :=10,ground :=Go.Ground.data},{on :=12,ground :=Go.Ground.chain},{on :=0,ground :=Go.Ground.phase},{on :=1,ground :=Go.Ground.phase},{on :=2,ground :=Go.Ground.phase},{on :=3,ground :=Go.Ground.phase},{on :=4,ground :=Go.Ground.phase},{on :=5,ground :=Go.Ground.phase},{on :=6,ground :=Go.Ground.phase},{on :=7,ground :=Go.Ground.phase},{on :=8,ground :=Go.Ground.phase},{on :=9,ground :=Go.Ground.phase},{on :=10,ground :=Go.Ground.phase},{on :=11,ground :=Go.Ground.phase},{on :=12,ground :=Go.Ground.phase}],guard :=none}) (v := ?_) rfl (by kernel_rfl) (by kernel_rfl) (by kernel_rfl) (fun _ _ _ h=>h) (Or.inl ⟨by rfl, ?_⟩) (by assumption) ?_
         rotate_left
         ·intro w hSw;(try dsimp only at hSw);go_simp;all_goals (with_reducible rfl)
         try simp only [Act.put,List.setIfInBounds_toArray,List.set_cons_zero,List.set_cons_succ]
         refine wpAnyH_done (by kernel_rfl) ?_ _
         go_wp2_with fail
         go_meet
         case rel=>first | exact ⟨_,_,_,rfl,rfl,HA.out.at.undrew⟩ | exact ⟨_,_,_,rfl,rfl,HA.out.ahead.undrew⟩
       case rest=>
        obtain ⟨nb,arr,f,rfl,rfl,hF⟩ :=hcut
        obtain ⟨W4,hW4⟩ : ∃V,V=wc := ⟨_,rfl⟩
        subst hW4
        clear HTa HTb KP hbq hp1 hp2 hp3 hp4 hp5 hp6
        cases har :asR [] cd.ty x with
        | error m=>
         rw [har] at hF
         have hfm :f=m :=hF.is
         subst hfm
         have HE :Hid (X= .error f) :=HEX.out f (by rw [HRR.out,←List.take_append_drop (j+1) (t.cols.zip r)];exact Ek _ _ _ _ (by rw [HZ.out,har]))
         have h4 :=hS3.below hF.bel
         have m1 : (f !=0) =true :=by rcases Ft har with rfl | rfl<;>rfl
         clear har hF hS3 HZ HRG HEX HRK HVR
         go_wp2_with (first | (go_at_call 24;go_fit (Cr f _);rintro e W9 ⟨rfl,hb9⟩;have h9 :=h4.below hb9;have bR9 :=h9.room;have bel9 :=h9.bel) | (refine wpList_store_row rfl 36 _ _ rfl (w.heap.size+2) Ah ?_ ?_ 36 Ah ?_ ?_ ?_ ?_ ?_;exact rfl;exact rfl;exact bR9;exact Am;exact rfl;exact Bn))
         exact B9 bel9 bR9 f HE.out rfl rfl
        | ok y=>
         rw [har] at hF
         have hA :=hF.ok.2
         have hf0 :=hF.ok.1
         subst hf0
         have hput := (hS3.made hA (20+2*k+1)).put_rowA HRK.out (j :=j) (by rw [List.length_append,HYL.out,List.length_drop];omega) HVR.out (hA.elem (lab :=lab2) hS3.dlt)
         rw [Yg HRL.out,Mg HYL.out hjl] at hput
         have hth :=hput.1
         have hS5 :=hput.2
         have b1 :=hA.box
         have i1 :=hA.info
         have o1 :=hA.one
         have hs5 :=Nat.le_trans hsz3 hA.bel.size
         have HN :Hid (Ba Fa ((t.cols.zip r).take (j+1)) = .ok (ys++ [y])) :=HZ.out.trans (by rw [har])
         clear har hF hA hput hS3
         go_wp2_with (first | (refine wpList_load_row rfl 34 _ rfl nb rfl 34 _ _ _ b1 Tryz.underlying34 rfl i1 ?_) | (refine wpList_store_mid rfl 34 _ _ rfl b2 (off2+j*8) arr ?_ ?_ ?_ ?_ ?_ ?_;exact rfl;exact rfl;exact hth;exact i1;exact o1))
         go_roundw
         case rel=>exact ⟨j+1,ys++ [y],_,by omega,by go_num,HN,(by show _=_;rw [List.length_append,HYL.out];rfl),hS5,by rw [Bp];exact hs5⟩
         case measure=>simp [intOf];omega
      ·have hjn :j=r.length :=by omega
       subst hjn
       have j1 : ¬ ((r.length :Int) < (r.length :Int)) :=by omega
       rw [List.drop_length,List.append_nil] at hS2
       have HW :Hid (Ba (Es t.cols) (st.rows.take (k+1)) = .ok (rs++ [ys])) :=by
        show _=_
        have :=HY.out
        rw [List.take_of_length_le (by rw [List.length_zip];omega)] at this
        rw [HT.out,HRR.out,this]
       have hS6 :BdSt w V2 D lab2 #[.slice te ct.tables.length tc, .slice io ct.indexes.length ic] v {st with rows := (rs++ [ys]) ++st.rows.drop (k+1)} :=by rw [List.append_assoc];exact hS2
       clear hS2
       go_wp2_with fail
       go_roundw
       case rel=>exact ⟨k+1,rs++ [ys],lab2,by omega,by go_num,HW,(by show _=_;rw [List.length_append,HRL.out];rfl),hS6,hsz2⟩
       case measure=>simp [intOf];omega
    ·have HE :Hid (X= .error 5) :=HEX.out 5 (if_neg hlen)
     have y1 : ((r.length :Int) != (v.tl :Int)) =true :=by rw [HTL.out];simp;omega
     clear hlen
     go_wp2_with (first | (go_at_call 24;go_fit (Cr 5 _);rintro e W9 ⟨rfl,hb9⟩;have h9 :=hS.below hb9;have bR9 :=h9.room;have bel9 :=h9.bel) | (refine wpList_store_row rfl 36 _ _ rfl (w.heap.size+2) Ah ?_ ?_ 36 Ah ?_ ?_ ?_ ?_ ?_;exact rfl;exact rfl;exact bR9;exact Am;exact rfl;exact Bn))
     exact B9 bel9 bR9 5 HE.out rfl rfl
   ·have hkn :k=st.rows.length :=by omega
    subst hkn
    rw [List.drop_length,List.append_nil] at hS
    have HRS :Hid (Fu t.cols st.rows= .ok rs) :=by show Ba _ _=_;rw [←List.take_length (l :=st.rows)];exact HR.out
    have HX2 :Hid (X=match Bq t [] st.sets with
     | .error m=> .error m
     | .ok sets=>match whR [t] st.wher with
      | .error m=> .error m
      | .ok wh=> .ok {st with rows :=rs,sets :=sets,wher :=wh}) :=by show _=_;rw [HX.out,HRS.out]
    have j1 : ¬ ((st.rows.length :Int) < (st.rows.length :Int)) :=by omega
    obtain ⟨so,hso⟩ : ∃z,z=v.so := ⟨_,rfl⟩
    have HSO :Hid (so=v.so) :=hso
    have e6 :V.cell? ⟨w.heap.size+1,6,none⟩ =some (.slice so st.sets.length v.sc) :=by rw [hso];exact Aa hS.stm rfl
    have hcap :Hid (st.sets.length≤v.sc) :=by obtain ⟨⟨cs,ho,_⟩,_⟩ :=hS.sets;exact Zz ho
    clear hso HR HRL HX HRS HG
    go_wp2_with fail
    clear e6 j1
    go_loopw [196] (fun iv wr=> ∃ (k :Nat) (qs :List (Wd×E)) (lab' :Nat→Nat),k≤st.sets.length∧iv= .int .i64 k∧Hid (Bq t [] (st.sets.take k) = .ok qs) ∧Hid (qs.length=k) ∧Hid (qs.map Prod.fst= (st.sets.take k).map Prod.fst) ∧BdSt w wr D lab' #[.slice te ct.tables.length tc, .slice io ct.indexes.length ic] v {st with rows :=rs,sets :=qs++st.sets.drop k} ∧W.heap.size≤wr.heap.size) (fun iv _=>st.sets.length - (intOf iv).toNat)
    case atStart=>exact ⟨0,[],lab1,Nat.zero_le _,rfl,rfl,rfl,rfl,hS,hsz⟩
    case round=>
     obtain ⟨k,qs,lab2,hk,rfl,HQ,HQL,HQN,hS2,hsz2⟩ :=hrel
     obtain ⟨V2,hV2⟩ : ∃V,V=wr := ⟨_,rfl⟩
     subst hV2
     clear hS
     by_cases hlt :k<st.sets.length
     ·obtain ⟨⟨cn,ex⟩,hx⟩ : ∃x,st.sets[k]? =some x := ⟨_,List.getElem?_eq_getElem hlt⟩
      have hd :st.sets.drop k= (cn,ex) ::st.sets.drop (k+1) :=by rw [List.drop_eq_getElem_cons hlt,(List.getElem?_eq_some_iff.1 hx).2]
      have HT :Hid (Bq t [] (st.sets.take (k+1)) =match Ff t ((st.sets.take k).map Prod.fst) (cn,ex) with | .error m=> .error m | .ok b=> .ok (qs++ [b])) :=by
       show _=_
       rw [List.take_add_one,hx]
       show Bq _ _ (_++ [_]) =_
       rw [Ik,HQ.out,List.nil_append]
       cases Ff t ((st.sets.take k).map Prod.fst) (cn,ex) <;>rfl
      have HEX :Hid (∀m,Ff t ((st.sets.take k).map Prod.fst) (cn,ex) = .error m→X= .error m) :=fun m hm=>by
       rw [HX2.out,show Bq t [] st.sets= .error m from by
        rw [←List.take_append_drop (k+1) st.sets]
        exact I7 _ _ _ _ _ (by rw [HT.out,hm])]
      have hge :geB 40 ex=true :=HGS.out _ (List.mem_of_getElem? hx)
      have HLS :Hid ((qs++st.sets.drop k).length=st.sets.length) :=by show _=_;rw [List.length_append,HQL.out,List.length_drop];omega
      have hsx : (qs++st.sets.drop k)[k]? =some (cn,ex) :=by rw [List.getElem?_append_right (Nat.le_of_eq HQL.out),HQL.out,Nat.sub_self,hd];rfl
      obtain ⟨b,off,d,hbo,hp0,hE,hd8⟩ :=Tw hS2.sets.isL hsx
      have hbo2 :so=some ⟨b,off,none⟩ :=HSO.out.trans hbo
      subst hbo2
      have HBO :Hid _ :=hbo
      obtain ⟨cs,hcs⟩ : ∃cs,cs=Value.string cn ::d := ⟨_,rfl⟩
      rw [←hcs] at hp0
      have hp :=hp0
      have hp1 :=hp.range;have hp2 : (Tryz.prog.info? 56).map (·.size) =some cs.length :=Xx.trans (congrArg some hp.len.symm);have hp3 :=hp.one;have hp4 : (Tryz.prog.info? 56).map (·.size) =some cs.toArray.size :=hp2
      have hp5 :=Ab V2 (.cells F4 56);have hp6 :Hid (9=cs.toArray.size) :=hp.len.symm
      have hb3 :=Below.row (Aq V2 (.cells F4 56)) (Nat.le_refl _) cs.toArray
      have hS3 :=hS2.below hb3
      have hxb : ((V2.alloc (.cells F4 56)).setRow V2.heap.size cs.toArray).heap[V2.heap.size]? =some (.cells cs.toArray 56) :=An hp5
      have x0 : ((V2.alloc (.cells F4 56)).setRow V2.heap.size cs.toArray).cell? ⟨V2.heap.size,0,none⟩ =some (.string cn) :=Aa hxb (by rw [hcs];rfl)
      have hE3 :=IsE.keep (Ag hb3) _ _ hE
      have HXR :Hid ((cs.toArray.toList.drop 1).take d.length=d) :=by show _=_;rw [hcs];simp
      have hHC :=H9 t.cols v.tn (.slice v.ta v.tl v.tk) cn C _ (IsL.keep HTC.out (L2 h.bel hS3.bel HCA.out (Nat.le_trans hsz2 hb3.size)))
      have j0 : (0 :Int) ≤ (k :Int) :=by omega
      have j1 : (k :Int) < (st.sets.length :Int) :=by omega
      have HSX :Hid _ :=hsx
      have HXX :Hid _ :=hx
      have hsz3 :=Nat.le_trans hsz2 hb3.size
      clear hd hx hE hsx hcs hS2 hp0 hp hbo
      rcases Fq t.cols (fun x=>decide (x.name=cn)) with ⟨hc0,_⟩ | ⟨n,cd,hc0,hc1,_,_⟩
      ·have hcc :Bk t.cols cn= -1 :=hc0
       have HE :Hid (X= .error 3) :=HEX.out 3 (if_pos (by rw [hcc];decide))
       rw [hcc] at hHC
       clear hc0 hcc HEX HT
       go_wp2_with (first | (refine wpList_load_mid rfl 56 _ rfl b (off+k*9) ?_ cs _ hp1 Tryz.underlying56 rfl ?_ ?_;exact rfl;exact hp2) | (refine wpList_store_row rfl 56 _ _ rfl V2.heap.size cs.toArray ?_ ?_ 56 F4 ?_ ?_ ?_ ?_ ?_;exact rfl;exact rfl;exact hp5;exact hp4;exact hp6.out;exact hp3) | (refine wpList_load_row rfl 47 _ rfl v.b ?_ 47 _ (0,0) _ hS3.tab Tryz.underlying47 ?_ ?_ ?_;exact rfl;exact rfl;exact Cj) | (go_at_call 16;go_fit hHC;rintro e W5 ⟨rfl,hb5⟩;have h5 :=hS3.below hb5) | (go_at_call 24;go_fit (Cr 3 _);rintro e W9 ⟨rfl,hb9⟩;have h9 :=h5.below hb9;have bR9 :=h9.room;have bel9 :=h9.bel) | (refine wpList_store_row rfl 36 _ _ rfl (w.heap.size+2) Ah ?_ ?_ 36 Ah ?_ ?_ ?_ ?_ ?_;exact rfl;exact rfl;exact bR9;exact Am;exact rfl;exact Bn))
       exact B9 bel9 bR9 3 HE.out rfl rfl
      ·have hcc :Bk t.cols cn= (n :Int) :=hc0
       have HNN :Hid (¬Bk t.cols cn<0) :=by show ¬_;rw [hcc];omega
       have HTY :Hid (M8 t.cols cn=cd.ty) :=by show _=_;rw [M8,hcc,Int.toNat_natCast,hc1];rfl
       rw [hcc] at hHC
       have q5 : ((n :Int) <0) =False :=by simp
       obtain ⟨cb,co,hco,hcl,hty⟩ :=R2 (IsL.keep HTC.out (L2 h.bel hS3.bel HCA.out hsz3)) hc1
       have hnl :n<t.cols.length := (List.getElem?_eq_some_iff.1 hc1).1
       have j2 : (n :Int) < (v.tl :Int) :=by rw [HTL.out];omega
       have j3 : (0 :Int) ≤ (n :Int) :=by omega
       have HCO :Hid _ :=hco
       clear hc0 hcc hc1 hco
       go_upto_region 49 with (first | (refine wpList_load_mid rfl 56 _ rfl b (off+k*9) ?_ cs _ hp1 Tryz.underlying56 rfl ?_ ?_;exact rfl;exact hp2) | (refine wpList_store_row rfl 56 _ _ rfl V2.heap.size cs.toArray ?_ ?_ 56 F4 ?_ ?_ ?_ ?_ ?_;exact rfl;exact rfl;exact hp5;exact hp4;exact hp6.out;exact hp3) | (refine wpList_load_row rfl 47 _ rfl v.b ?_ 47 _ (0,0) _ hS3.tab Tryz.underlying47 ?_ ?_ ?_;exact rfl;exact rfl;exact Cj) | (go_at_call 16;(go_fit hHC;rintro e W5 ⟨rfl,hb5⟩;have hS5 :=hS3.below hb5;have e65 :W5.cell? ⟨w.heap.size+1,6,none⟩ =some (.slice (some ⟨b,off,none⟩) st.sets.length v.sc) :=by rw [←HBO.out,←HLS.out];exact Aa hS5.stm rfl)))
       have hkc : (k :Int) ≤ (v.sc :Int) :=by have :=hcap.out;omega
       have hxb5 := (hb5.block _ (lt_of_block hxb)).trans hxb
       have x05 := (hb5.cell (p := ⟨V2.heap.size,0,none⟩) (lt_of_block hxb)).trans x0
       have hE5 :=IsE.keep (Ag (hb5.mono hb3.size)) _ _ hE3
       have hty5 := (hb5.cell (p := ⟨cb,_,none⟩) hcl).trans hty
       have hcl5 :cb<W5.heap.size :=Nat.lt_of_lt_of_le hcl hb5.size
       have hsz5 :=Nat.le_trans hsz3 hb5.size
       have hl5 :V2.heap.size≤W5.heap.size :=Nat.le_trans hb3.size hb5.size
       clear hHC hS3 hxb x0 hE3 hty hcl hsz3 hb5 hb3
       go_wp2_with fail
       have GS :GoodS v.S :=by
        rw [HV.out]
        exact Ng (fun t' ht'=>by rw [List.mem_singleton] at ht';rw [ht'];exact HTB.out) (Nat.le_of_ble_eq_true rfl)
       go_loopw [216] (fun iv wr=> ∃i :Nat,i≤k∧iv= .int .i64 i∧Hid (Dy ((st.sets.take i).map Prod.fst) cn=false) ∧Below W5.heap.size W5 wr) (fun iv _=>k - (intOf iv).toNat)
       case atStart=>exact ⟨0,Nat.zero_le _,rfl,rfl,Below.refl _ _⟩
       case round=>
        obtain ⟨i,hi,rfl,HM,hbi⟩ :=hrel
        obtain ⟨V6,hV6⟩ : ∃V,V=wr := ⟨_,rfl⟩
        subst hV6
        have hS6 :=hS5.below hbi
        have hxb6 := (hbi.block _ (lt_of_block hxb5)).trans hxb5
        have x06 := (hbi.cell (p := ⟨V2.heap.size,0,none⟩) (lt_of_block hxb5)).trans x05
        clear hS5 x05 e65
        by_cases hil :i<k
        ·have hiq :i<qs.length :=by rw [HQL.out];exact hil
         have hqi : (qs++st.sets.drop k)[i]? =some qs[i] :=by rw [List.getElem?_append_left hiq,List.getElem?_eq_getElem hiq]
         have HNI :Hid ((st.sets.take (i+1)).map Prod.fst= (st.sets.take i).map Prod.fst++ [qs[i].1]) :=by
          have e : ∀u,u≤k→ (st.sets.take u).map Prod.fst= (qs.map Prod.fst).take u :=fun u hu=>by
           rw [HQN.out,←List.map_take,List.take_take,Nat.min_eq_left hu]
          show _=_
          rw [e _ hil,e _ hi,List.take_add_one,List.getElem?_map,List.getElem?_eq_getElem hiq]
          rfl
         have HME :Hid (qs[i].1=cn→Dy ((st.sets.take k).map Prod.fst) cn=true) :=fun e=>by
          rw [My,←HQN.out,←e]
          exact List.mem_map_of_mem (List.getElem_mem hiq)
         obtain ⟨b6,off6,d6,hbo6,hp0,_,_⟩ :=Tw hS6.sets.isL hqi
         obtain ⟨rfl,rfl⟩ :b=b6∧off=off6 :=by
          have h1 :=Option.some.inj (HBO.out.symm.trans hbo6)
          injection h1 with h1 h2
          exact ⟨h1,h2⟩
         generalize qs[i].1=nm2 at*
         obtain ⟨cs6,hcs⟩ : ∃cs,cs=Value.string nm2 ::d6 := ⟨_,rfl⟩
         rw [←hcs] at hp0
         have hr :=hp0
         have hr1 :=hr.range;have hr2 : (Tryz.prog.info? 56).map (·.size) =some cs6.length :=Xx.trans (congrArg some hr.len.symm);have hr3 :=hr.one;have hr4 : (Tryz.prog.info? 56).map (·.size) =some cs6.toArray.size :=hr2
         have hr5 :=Ab V6 (.cells F4 56);have hr6 :Hid (9=cs6.toArray.size) :=hr.len.symm
         have hb7 :=Below.row (Aq V6 (.cells F4 56)) (Nat.le_refl _) cs6.toArray
         have y0 : ((V6.alloc (.cells F4 56)).setRow V6.heap.size cs6.toArray).cell? ⟨V6.heap.size,0,none⟩ =some (.string nm2) :=Aa (An hr5) (by rw [hcs];rfl)
         have x07 := (hb7.cell (p := ⟨V2.heap.size,0,none⟩) (lt_of_block hxb6)).trans x06
         have hS7 :=hS6.below hb7
         have j4 : (0 :Int) ≤ (i :Int) :=by omega
         have j5 : (i :Int) < (k :Int) :=by omega
         have heq : (nm2.toList==cn.toList) =decide (nm2=cn) :=Bu _ _
         have hb8 :=hbi.trans (hb7.mono hbi.size)
         clear hqi hbo6 hcs hp0 hr hS6 hb7 x06
         cases hdec :decide (nm2=cn)
         ·rw [hdec] at heq
          have HMN :Hid (Dy ((st.sets.take (i+1)).map Prod.fst) cn=false) :=by
           have hm : (((st.sets.take i).map Prod.fst).any fun x=>decide (x=cn)) =false :=HM.out
           show List.any _ _=false
           rw [HNI.out,List.any_append,hm]
           simp [hdec]
          clear hdec
          go_wp2_with (first | (refine wpList_load_mid rfl 56 _ rfl b (off+i*9) ?_ cs6 _ hr1 Tryz.underlying56 rfl ?_ ?_;exact rfl;exact hr2) | (refine wpList_store_row rfl 56 _ _ rfl V6.heap.size cs6.toArray ?_ ?_ 56 F4 ?_ ?_ ?_ ?_ ?_;exact rfl;exact rfl;exact hr5;exact hr4;exact hr6.out;exact hr3))
          go_roundw
          case rel=>exact ⟨i+1,by omega,by go_num,HMN,hb8⟩
          case measure=>simp [intOf];omega
         ·rw [hdec] at heq
          have HE :Hid (X= .error 4) :=HEX.out 4 (by rw [Ff,if_neg (show ¬ (Bk t.cols cn<0) by have :=HNN.out;omega),if_pos (HME.out (of_decide_eq_true hdec))])
          clear hdec HEX HT HX2
          go_wp2_with (first | (refine wpList_load_mid rfl 56 _ rfl b (off+i*9) ?_ cs6 _ hr1 Tryz.underlying56 rfl ?_ ?_;exact rfl;exact hr2) | (refine wpList_store_row rfl 56 _ _ rfl V6.heap.size cs6.toArray ?_ ?_ 56 F4 ?_ ?_ ?_ ?_ ?_;exact rfl;exact rfl;exact hr5;exact hr4;exact hr6.out;exact hr3) | (go_at_call 24;go_fit (Cr 4 _);rintro e W9 ⟨rfl,hb9⟩;have h9 :=hS7.below hb9;have bR9 :=h9.room;have bel9 :=h9.bel) | (refine wpList_store_row rfl 36 _ _ rfl (w.heap.size+2) Ah ?_ ?_ 36 Ah ?_ ?_ ?_ ?_ ?_;exact rfl;exact rfl;exact bR9;exact Am;exact rfl;exact Bn))
          exact B9 bel9 bR9 4 HE.out rfl rfl
        ·have hik :i=k :=by omega
         subst hik
         have HSR :Hid (Ff t ((st.sets.take i).map Prod.fst) (cn,ex) =match asR v.S cd.ty ex with | .error m=> .error m | .ok e=> .ok (cn,e)) :=by
          show _=_
          rw [Ff,if_neg (show ¬ (Bk t.cols cn<0) by have :=HNN.out;omega),if_neg (by rw [HM.out];decide),HTY.out,HV.out]
          cases asR [t] cd.ty ex<;>rfl
         have j4 : ¬ ((i :Int) < (i :Int)) :=by omega
         go_upto_region 55 with fail
         have l0 :=lt_of_block hxb6
         have l1 :=lt_of_block hS6.tab
         have l2 :cb<V6.heap.size :=Nat.lt_of_lt_of_le hcl5 hbi.size
         have l3 :V2.heap.size≤V6.heap.size :=Nat.le_trans hl5 hbi.size
         have ra :=Ga hxb6 HXR.out
         have x1 :V6.cell? ⟨v.b,1,none⟩ =some (.slice (some ⟨cb,co,none⟩) v.tl v.tk) :=by rw [←HCO.out];exact Aa hS6.tab rfl
         have x2 := (hbi.cell (p := ⟨cb,_,none⟩) hcl5).trans hty5
         have KP :Hid (∀W',Below V6.heap.size V6 W'→ (fun W'=>W'.rangeAt V2.heap.size 1 d∧W'.cell? ⟨v.b,1,none⟩ =some (.slice (some ⟨cb,co,none⟩) v.tl v.tk) ∧W'.cell? ⟨cb,co+n*3+1,none⟩ =some (.int .i64 cd.ty)) W') :=fun W' hb=> ⟨fun j u hj=> (hb.cell (p := ⟨V2.heap.size,1+j,none⟩) l0).trans (ra j u hj),(hb.cell (p := ⟨v.b,1,none⟩) l1).trans x1,(hb.cell (p := ⟨cb,_,none⟩) l2).trans x2⟩
         have hdi : (Tryz.prog.info? 34).map (·.size) =some d.length :=Ai.trans (congrArg some hd8.symm)
         have hEE :=Hm (IsE.keep (Ag (hbi.mono hl5)) _ _ hE5)
         have hbd := (Below.refl V6.heap.size V6).drew
         have HTa :=Ki GS (want :=cd.ty) (IsE.keep (Ag hbd) _ _ hEE) ((E1 hS6.own).keep (Ag hbd)) (Nat.le_refl _) hge
         have hbq :=hbd.trans (Aq V6.drew (.cells eZ 34))
         have HTb :=Ki GS (want :=cd.ty) (IsE.keep (Ag hbq) _ _ hEE) ((E1 hS6.own).keep (Ag hbq)) hbq.size hge
         have hsz6 :=Nat.le_trans hsz5 hbi.size
         clear x1 x2 l0 l1 l2 ra hEE hE5 hty5 hxb6 x06 hbd hp1 hp2 hp3 hp4 hp5 hp6
         go_cut [52,53] from 230 to 242 (fun pv fv wx=> ∃nb arr f,pv= .pointer (some ⟨nb,0,none⟩) ∧fv= .int .i64 f∧EvFAt V6 wx nb (asR v.S cd.ty ex) arr f)
         case first=>
          refine wp_region_held_drew (S := (fun W'=>W'.rangeAt V2.heap.size 1 d∧W'.cell? ⟨v.b,1,none⟩ =some (.slice (some ⟨cb,co,none⟩) v.tl v.tk) ∧W'.cell? ⟨cb,co+n*3+1,none⟩ =some (.int .i64 cd.ty))) (by kernel_rfl) ?_ (fun hHeld=> ?_)
          ·exact KP.out _ (Below.refl _ _).drew
          refine wpAnyH_take (i :=0) (oi := {dst :=some 231,op :=Go.Op.move (Go.Operand.tmp 17),type :=60,pos := "high.go:353",after := #[],guard :=none}) (v := ?_) rfl (by kernel_rfl) (by kernel_rfl) (by kernel_rfl) (fun _ _ _ h=>h) (Or.inl ⟨by rfl, ?_⟩) (by assumption) ?_
          rotate_left
          ·intro w hSw;(try dsimp only at hSw);go_simp;all_goals (with_reducible rfl)
          try simp only [Act.put,List.setIfInBounds_toArray,List.set_cons_zero,List.set_cons_succ]
          refine wpAnyH_take (i :=1) (oi := {dst :=some 232,op :=Go.Op.fieldAddr 56 (Go.Operand.tmp 48) 1,type :=0,pos := "high.go:353",after := #[],guard :=none}) (v := ?_) rfl (by kernel_rfl) (by kernel_rfl) (by kernel_rfl) (fun _ _ _ h=>h) (Or.inl ⟨by rfl, ?_⟩) (by assumption) ?_
          rotate_left
          ·intro w hSw;(try dsimp only at hSw);go_simp;all_goals (with_reducible rfl)
          try simp only [Act.put,List.setIfInBounds_toArray,List.set_cons_zero,List.set_cons_succ]
          refine wpAnyH_take (i :=2) (oi := {dst :=some 233,op :=Go.Op.load 34 (Go.Operand.tmp 232),type :=34,pos := "high.go:353",after := #[{on :=1,ground :=Go.Ground.data}],guard :=none}) (v := .agg d.toArray) rfl (by kernel_rfl) (by kernel_rfl) (by kernel_rfl) (fun _ _ _ h=>h) (yieldsIf_load_mid rfl 34 _ rfl V2.heap.size 1 rfl d _ (fun _ h=>h.1) Tryz.underlying34 rfl hdi) (by assumption) ?_
          try simp only [Act.put,List.setIfInBounds_toArray,List.set_cons_zero,List.set_cons_succ]
          refine wpAnyH_take (i :=3) (oi := {dst :=some 234,op :=Go.Op.fieldAddr 47 (Go.Operand.tmp 15) 1,type :=0,pos := "high.go:353",after := #[],guard :=none}) (v := ?_) rfl (by kernel_rfl) (by kernel_rfl) (by kernel_rfl) (fun _ _ _ h=>h) (Or.inl ⟨by rfl, ?_⟩) (by assumption) ?_
          rotate_left
          ·intro w hSw;(try dsimp only at hSw);go_simp;all_goals (with_reducible rfl)
          try simp only [Act.put,List.setIfInBounds_toArray,List.set_cons_zero,List.set_cons_succ]
          refine wpAnyH_take (i :=4) (oi := {dst :=some 235,op :=Go.Op.load 26 (Go.Operand.tmp 234),type :=26,pos := "high.go:353",after := #[{on :=3,ground :=Go.Ground.data}],guard :=none}) (v := ?_) rfl (by kernel_rfl) (by kernel_rfl) (by kernel_rfl) (fun _ _ _ h=>h) (Or.inl ⟨by rfl, ?_⟩) (by assumption) ?_
          rotate_left
          ·intro w hSw;(try dsimp only at hSw);go_simp;all_goals (with_reducible rfl)
          try simp only [Act.put,List.setIfInBounds_toArray,List.set_cons_zero,List.set_cons_succ]
          refine wpAnyH_take (i :=5) (oi := {dst :=some 236,op :=Go.Op.move (Go.Operand.tmp 49),type :=3,pos := "high.go:353",after := #[],guard :=none}) (v := ?_) rfl (by kernel_rfl) (by kernel_rfl) (by kernel_rfl) (fun _ _ _ h=>h) (Or.inl ⟨by rfl, ?_⟩) (by assumption) ?_
          rotate_left
          ·intro w hSw;(try dsimp only at hSw);go_simp;all_goals (with_reducible rfl)
          try simp only [Act.put,List.setIfInBounds_toArray,List.set_cons_zero,List.set_cons_succ]
          refine wpAnyH_take (i :=6) (oi := {dst :=some 237,op :=Go.Op.indexAddr 26 (Go.Operand.tmp 235) (Go.Operand.tmp 236),type :=0,pos := "high.go:353",after := #[{on :=4,ground :=Go.Ground.data},{on :=5,ground :=Go.Ground.data}],guard :=none}) (v := ?_) rfl (by kernel_rfl) (by kernel_rfl) (by kernel_rfl) (fun _ _ _ h=>h) (Or.inl ⟨by rfl, ?_⟩) (by assumption) ?_
          rotate_left
          ·intro w hSw;(try dsimp only at hSw);go_simp;all_goals (with_reducible rfl)
          try simp only [Act.put,List.setIfInBounds_toArray,List.set_cons_zero,List.set_cons_succ]
          refine wpAnyH_take (i :=7) (oi := {dst :=some 238,op :=Go.Op.fieldAddr 66 (Go.Operand.tmp 237) 1,type :=0,pos := "high.go:353",after := #[{on :=6,ground :=Go.Ground.data}],guard :=none}) (v := ?_) rfl (by kernel_rfl) (by kernel_rfl) (by kernel_rfl) (fun _ _ _ h=>h) (Or.inl ⟨by rfl, ?_⟩) (by assumption) ?_
          rotate_left
          ·intro w hSw;(try dsimp only at hSw);go_simp;all_goals (with_reducible rfl)
          try simp only [Act.put,List.setIfInBounds_toArray,List.set_cons_zero,List.set_cons_succ]
          refine wpAnyH_take (i :=8) (oi := {dst :=some 239,op :=Go.Op.load 3 (Go.Operand.tmp 238),type :=3,pos := "high.go:353",after := #[{on :=7,ground :=Go.Ground.data}],guard :=none}) (v := ?_) rfl (by kernel_rfl) (by kernel_rfl) (by kernel_rfl) (fun _ _ _ h=>h) (Or.inl ⟨by rfl, ?_⟩) (by assumption) ?_
          rotate_left
          ·intro w hSw;(try dsimp only at hSw);go_simp;all_goals (with_reducible rfl)
          try simp only [Act.put,List.setIfInBounds_toArray,List.set_cons_zero,List.set_cons_succ]
          refine wpAnyH_ready (rs := [9,13]) (by kernel_rfl) (by simp) ?_
          refine (AllReadyH.cons (o := {dst :=some 240,op :=Go.Op.call {callee :=Go.Callee.value (Go.Operand.func 29),args := #[Go.Operand.tmp 231,Go.Operand.tmp 233,Go.Operand.tmp 239],argTypes := #[60,34,3]},type :=71,pos := "high.go:353",after := #[{on :=0,ground :=Go.Ground.data},{on :=2,ground :=Go.Ground.data},{on :=8,ground :=Go.Ground.data}],guard :=none}) rfl (fun K hK=> ?_) (AllReadyH.cons (o := {dst :=some 52,op :=Go.Op.alloc 34,type :=0,pos := "high.go:353",after := #[],guard :=none}) rfl (fun K hK=> ?_) AllReadyH.nil))
          ·go_simp
           (go_at_call 29;go_fit HTa;rintro e W1 ⟨arr,f,rfl,hA⟩;have hA2 :=hA.one;have hA3 :=hA.info;have hA4 :Hid (8=arr.size) :=hA.size.symm;have HA :Hid _ :=hA;clear hA)
           go_wp2_with fail
           refine hK.out _ _ ?_ (fun hHeld=> ?_)
           ·exact KP.out _ ((Below.refl _ _).drew.trans HA.out.bel)
           clear hK K
           try simp only [Act.put,List.setIfInBounds_toArray,List.set_cons_zero,List.set_cons_succ]
           refine wpAnyH_take (i :=10) (oi := {dst :=some 230,op :=Go.Op.move (Go.Operand.tmp 240),type :=71,pos := "high.go:353",after := #[{on :=9,ground :=Go.Ground.data}],guard :=none}) (v := ?_) rfl (by kernel_rfl) (by kernel_rfl) (by kernel_rfl) (fun _ _ _ h=>h) (Or.inl ⟨by rfl, ?_⟩) (by assumption) ?_
           rotate_left
           ·intro w hSw;(try dsimp only at hSw);go_simp;all_goals (with_reducible rfl)
           try simp only [Act.put,List.setIfInBounds_toArray,List.set_cons_zero,List.set_cons_succ]
           refine wpAnyH_take (i :=11) (oi := {dst :=some 241,op :=Go.Op.extract (Go.Operand.tmp 230) 0,type :=34,pos := "high.go:353",after := #[{on :=10,ground :=Go.Ground.data}],guard :=none}) (v := ?_) rfl (by kernel_rfl) (by kernel_rfl) (by kernel_rfl) (fun _ _ _ h=>h) (Or.inl ⟨by rfl, ?_⟩) (by assumption) ?_
           rotate_left
           ·intro w hSw;(try dsimp only at hSw);go_simp;all_goals (with_reducible rfl)
           try simp only [Act.put,List.setIfInBounds_toArray,List.set_cons_zero,List.set_cons_succ]
           refine wpAnyH_take (i :=12) (oi := {dst :=some 242,op :=Go.Op.extract (Go.Operand.tmp 230) 1,type :=39,pos := "high.go:353",after := #[{on :=10,ground :=Go.Ground.data},{on :=14,ground :=Go.Ground.gcOnly Go.Departure.lateStores}],guard :=none}) (v := ?_) rfl (by kernel_rfl) (by kernel_rfl) (by kernel_rfl) (fun _ _ _ h=>h) (Or.inl ⟨by rfl, ?_⟩) (by assumption) ?_
           rotate_left
           ·intro w hSw;(try dsimp only at hSw);go_simp;all_goals (with_reducible rfl)
           try simp only [Act.put,List.setIfInBounds_toArray,List.set_cons_zero,List.set_cons_succ]
           refine wpAnyH_ready (rs := [13]) (by kernel_rfl) (by simp) ?_
           refine (AllReadyH.cons (o := {dst :=some 52,op :=Go.Op.alloc 34,type :=0,pos := "high.go:353",after := #[],guard :=none}) rfl (fun K hK=> ?_) AllReadyH.nil)
           go_simp
           go_wp2_with fail
           refine hK.out _ _ ?_ (fun hHeld=> ?_)
           ·exact KP.out _ (((Below.refl _ _).drew.trans HA.out.bel).alloc ((Below.refl _ _).drew.trans HA.out.bel).size _)
           clear hK K
           try simp only [Act.put,List.setIfInBounds_toArray,List.set_cons_zero,List.set_cons_succ]
           refine wpAnyH_ready (rs := [14]) (by kernel_rfl) (by simp) ?_
           refine (AllReadyH.cons (o := {dst :=none,op :=Go.Op.store 34 (Go.Operand.tmp 52) (Go.Operand.tmp 241),type :=0,pos := "high.go:353",after := #[{on :=13,ground :=Go.Ground.data},{on :=11,ground :=Go.Ground.data},{on :=9,ground :=Go.Ground.chain},{on :=0,ground :=Go.Ground.phase},{on :=1,ground :=Go.Ground.phase},{on :=2,ground :=Go.Ground.phase},{on :=3,ground :=Go.Ground.phase},{on :=4,ground :=Go.Ground.phase},{on :=5,ground :=Go.Ground.phase},{on :=6,ground :=Go.Ground.phase},{on :=7,ground :=Go.Ground.phase},{on :=8,ground :=Go.Ground.phase},{on :=9,ground :=Go.Ground.phase},{on :=10,ground :=Go.Ground.phase},{on :=11,ground :=Go.Ground.phase},{on :=12,ground :=Go.Ground.textOnly Go.Departure.lateStores},{on :=13,ground :=Go.Ground.phase}],guard :=none}) rfl (fun K hK=> ?_) AllReadyH.nil)
           refine At rfl 34 _ _ rfl W1.heap.size arr ?_ ?_ 34 eZ ?_ ?_ ?_ ?_ ?_;exact rfl;exact rfl;exact Ab _ _;exact hA3;exact hA4.out;exact hA2
           refine hK.out _ _ ?_ (fun hHeld=> ?_)
           ·exact KP.out _ (Below.row (((Below.refl _ _).drew.trans HA.out.bel).alloc ((Below.refl _ _).drew.trans HA.out.bel).size _) ((Below.refl _ _).drew.trans HA.out.bel).size _)
           clear hK K
           try simp only [Act.put]
           refine wpAnyH_take (i :=15) (oi := {dst :=some 53,op :=Go.Op.assign (Go.Operand.tmp 242),type :=39,pos := "high.go:353",after := #[{on :=12,ground :=Go.Ground.data},{on :=14,ground :=Go.Ground.chain},{on :=0,ground :=Go.Ground.phase},{on :=1,ground :=Go.Ground.phase},{on :=2,ground :=Go.Ground.phase},{on :=3,ground :=Go.Ground.phase},{on :=4,ground :=Go.Ground.phase},{on :=5,ground :=Go.Ground.phase},{on :=6,ground :=Go.Ground.phase},{on :=7,ground :=Go.Ground.phase},{on :=8,ground :=Go.Ground.phase},{on :=9,ground :=Go.Ground.phase},{on :=10,ground :=Go.Ground.phase},{on :=11,ground :=Go.Ground.phase},{on :=12,ground :=Go.Ground.phase},{on :=13,ground :=Go.Ground.phase},{on :=14,ground :=Go.Ground.phase}],guard :=none}) (v := ?_) rfl (by kernel_rfl) (by kernel_rfl) (by kernel_rfl) (fun _ _ _ h=>h) (Or.inl ⟨by rfl, ?_⟩) (by assumption) ?_
           rotate_left
           ·intro w hSw;(try dsimp only at hSw);go_simp;all_goals (with_reducible rfl)
           try simp only [Act.put,List.setIfInBounds_toArray,List.set_cons_zero,List.set_cons_succ]
           refine wpAnyH_done (by kernel_rfl) ?_ _
           go_wp2_with fail
           go_meet
           case rel=>first | exact ⟨_,_,_,rfl,rfl,HA.out.at.undrew⟩ | exact ⟨_,_,_,rfl,rfl,HA.out.ahead.undrew⟩
          ·go_simp
           go_wp2_with fail
           refine hK.out _ _ ?_ (fun hHeld=> ?_)
           ·exact KP.out _ ((Below.refl _ _).drew.trans (Aq V6.drew (.cells eZ 34)))
           clear hK K
           try simp only [Act.put,List.setIfInBounds_toArray,List.set_cons_zero,List.set_cons_succ]
           refine wpAnyH_ready (rs := [9]) (by kernel_rfl) (by simp) ?_
           refine (AllReadyH.cons (o := {dst :=some 240,op :=Go.Op.call {callee :=Go.Callee.value (Go.Operand.func 29),args := #[Go.Operand.tmp 231,Go.Operand.tmp 233,Go.Operand.tmp 239],argTypes := #[60,34,3]},type :=71,pos := "high.go:353",after := #[{on :=0,ground :=Go.Ground.data},{on :=2,ground :=Go.Ground.data},{on :=8,ground :=Go.Ground.data}],guard :=none}) rfl (fun K hK=> ?_) AllReadyH.nil)
           go_simp
           (go_at_call 29;go_fit HTb;rintro e W1 ⟨arr,f,rfl,hA⟩;have hA2 :=hA.one;have hA3 :=hA.info;have hA4 :Hid (8=arr.size) :=hA.size.symm;have HA :Hid _ :=hA;clear hA)
           go_wp2_with fail
           refine hK.out _ _ ?_ (fun hHeld=> ?_)
           ·exact KP.out _ (((Below.refl _ _).drew.trans (Aq V6.drew (.cells eZ 34))).trans (HA.out.bel.mono (Aq V6.drew (.cells eZ 34)).size))
           clear hK K
           try simp only [Act.put,List.setIfInBounds_toArray,List.set_cons_zero,List.set_cons_succ]
           refine wpAnyH_take (i :=10) (oi := {dst :=some 230,op :=Go.Op.move (Go.Operand.tmp 240),type :=71,pos := "high.go:353",after := #[{on :=9,ground :=Go.Ground.data}],guard :=none}) (v := ?_) rfl (by kernel_rfl) (by kernel_rfl) (by kernel_rfl) (fun _ _ _ h=>h) (Or.inl ⟨by rfl, ?_⟩) (by assumption) ?_
           rotate_left
           ·intro w hSw;(try dsimp only at hSw);go_simp;all_goals (with_reducible rfl)
           try simp only [Act.put,List.setIfInBounds_toArray,List.set_cons_zero,List.set_cons_succ]
           refine wpAnyH_take (i :=11) (oi := {dst :=some 241,op :=Go.Op.extract (Go.Operand.tmp 230) 0,type :=34,pos := "high.go:353",after := #[{on :=10,ground :=Go.Ground.data}],guard :=none}) (v := ?_) rfl (by kernel_rfl) (by kernel_rfl) (by kernel_rfl) (fun _ _ _ h=>h) (Or.inl ⟨by rfl, ?_⟩) (by assumption) ?_
           rotate_left
           ·intro w hSw;(try dsimp only at hSw);go_simp;all_goals (with_reducible rfl)
           try simp only [Act.put,List.setIfInBounds_toArray,List.set_cons_zero,List.set_cons_succ]
           refine wpAnyH_take (i :=12) (oi := {dst :=some 242,op :=Go.Op.extract (Go.Operand.tmp 230) 1,type :=39,pos := "high.go:353",after := #[{on :=10,ground :=Go.Ground.data},{on :=14,ground :=Go.Ground.gcOnly Go.Departure.lateStores}],guard :=none}) (v := ?_) rfl (by kernel_rfl) (by kernel_rfl) (by kernel_rfl) (fun _ _ _ h=>h) (Or.inl ⟨by rfl, ?_⟩) (by assumption) ?_
           rotate_left
           ·intro w hSw;(try dsimp only at hSw);go_simp;all_goals (with_reducible rfl)
           try simp only [Act.put,List.setIfInBounds_toArray,List.set_cons_zero,List.set_cons_succ]
           refine wpAnyH_ready (rs := [14]) (by kernel_rfl) (by simp) ?_
           refine (AllReadyH.cons (o := {dst :=none,op :=Go.Op.store 34 (Go.Operand.tmp 52) (Go.Operand.tmp 241),type :=0,pos := "high.go:353",after := #[{on :=13,ground :=Go.Ground.data},{on :=11,ground :=Go.Ground.data},{on :=9,ground :=Go.Ground.chain},{on :=0,ground :=Go.Ground.phase},{on :=1,ground :=Go.Ground.phase},{on :=2,ground :=Go.Ground.phase},{on :=3,ground :=Go.Ground.phase},{on :=4,ground :=Go.Ground.phase},{on :=5,ground :=Go.Ground.phase},{on :=6,ground :=Go.Ground.phase},{on :=7,ground :=Go.Ground.phase},{on :=8,ground :=Go.Ground.phase},{on :=9,ground :=Go.Ground.phase},{on :=10,ground :=Go.Ground.phase},{on :=11,ground :=Go.Ground.phase},{on :=12,ground :=Go.Ground.textOnly Go.Departure.lateStores},{on :=13,ground :=Go.Ground.phase}],guard :=none}) rfl (fun K hK=> ?_) AllReadyH.nil)
           refine At rfl 34 _ _ rfl V6.heap.size arr ?_ ?_ 34 eZ ?_ ?_ ?_ ?_ ?_;exact rfl;exact rfl;exact ((HA.out.bel.block _ (by simp)).trans (Ab V6.drew (.cells eZ 34)));exact hA3;exact hA4.out;exact hA2
           refine hK.out _ _ ?_ (fun hHeld=> ?_)
           ·exact KP.out _ (Below.row (((Below.refl _ _).drew.trans (Aq V6.drew (.cells eZ 34))).trans (HA.out.bel.mono (Aq V6.drew (.cells eZ 34)).size)) (Nat.le_refl _) _)
           clear hK K
           try simp only [Act.put]
           refine wpAnyH_take (i :=15) (oi := {dst :=some 53,op :=Go.Op.assign (Go.Operand.tmp 242),type :=39,pos := "high.go:353",after := #[{on :=12,ground :=Go.Ground.data},{on :=14,ground :=Go.Ground.chain},{on :=0,ground :=Go.Ground.phase},{on :=1,ground :=Go.Ground.phase},{on :=2,ground :=Go.Ground.phase},{on :=3,ground :=Go.Ground.phase},{on :=4,ground :=Go.Ground.phase},{on :=5,ground :=Go.Ground.phase},{on :=6,ground :=Go.Ground.phase},{on :=7,ground :=Go.Ground.phase},{on :=8,ground :=Go.Ground.phase},{on :=9,ground :=Go.Ground.phase},{on :=10,ground :=Go.Ground.phase},{on :=11,ground :=Go.Ground.phase},{on :=12,ground :=Go.Ground.phase},{on :=13,ground :=Go.Ground.phase},{on :=14,ground :=Go.Ground.phase}],guard :=none}) (v := ?_) rfl (by kernel_rfl) (by kernel_rfl) (by kernel_rfl) (fun _ _ _ h=>h) (Or.inl ⟨by rfl, ?_⟩) (by assumption) ?_
           rotate_left
           ·intro w hSw;(try dsimp only at hSw);go_simp;all_goals (with_reducible rfl)
           try simp only [Act.put,List.setIfInBounds_toArray,List.set_cons_zero,List.set_cons_succ]
           refine wpAnyH_done (by kernel_rfl) ?_ _
           go_wp2_with fail
           go_meet
           case rel=>first | exact ⟨_,_,_,rfl,rfl,HA.out.at.undrew⟩ | exact ⟨_,_,_,rfl,rfl,HA.out.ahead.undrew⟩
         case rest=>
          obtain ⟨nb,arr,f,rfl,rfl,hF⟩ :=hcut
          obtain ⟨W7,hW7⟩ : ∃V,V=wc := ⟨_,rfl⟩
          subst hW7
          clear HTa HTb KP hbq
          cases har :asR v.S cd.ty ex with
          | error m=>
           rw [har] at hF
           have hfm :f=m :=hF.is
           subst hfm
           have HE :Hid (X= .error f) :=HEX.out f (by rw [HSR.out,har])
           have h7 :=hS6.below hF.bel
           have m1 : (f !=0) =true :=by rcases Ft har with rfl | rfl<;>rfl
           clear har hF hS6 HEX HX2 HT
           go_wp2_with (first | (go_at_call 24;go_fit (Cr f _);rintro e W9 ⟨rfl,hb9⟩;have h9 :=h7.below hb9;have bR9 :=h9.room;have bel9 :=h9.bel) | (refine wpList_store_row rfl 36 _ _ rfl (w.heap.size+2) Ah ?_ ?_ 36 Ah ?_ ?_ ?_ ?_ ?_;exact rfl;exact rfl;exact bR9;exact Am;exact rfl;exact Bn))
           exact B9 bel9 bR9 f HE.out rfl rfl
          | ok y=>
           rw [har] at hF
           have hA :=hF.ok.2
           have hf0 :=hF.ok.1
           subst hf0
           have hS7 :=hS6.made hA 7
           have hput :=hS7.put_setA (j :=i) (by rw [HLS.out];exact hlt) HBO.out (hA.elem (lab :=lab2) hS6.dlt)
           simp only at hput
           rw [(List.getElem?_eq_some_iff.1 HSX.out).2,Mg HQL.out hlt] at hput
           have hth :=hput.1
           have hS8 :=hput.2
           have e67 :W7.cell? ⟨w.heap.size+1,6,none⟩ =some (.slice (some ⟨b,off,none⟩) st.sets.length v.sc) :=by rw [←HBO.out,←HLS.out];exact Aa hS7.stm rfl
           have b1 :=hA.box
           have i1 :=hA.info
           have o1 :=hA.one
           have hs8 :=Nat.le_trans hsz6 hA.bel.size
           have HN :Hid (Bq t [] (st.sets.take (i+1)) = .ok (qs++ [(cn,y)])) :=HT.out.trans (by rw [HSR.out,har])
           have HN2 :Hid ((qs++ [(cn,y)]).map Prod.fst= (st.sets.take (i+1)).map Prod.fst) :=by
            show _=_
            rw [List.take_add_one,HXX.out,List.map_append,List.map_append,HQN.out]
            rfl
           clear har hF hA hput hS6 hS7
           go_wp2_with (first | (refine wpList_load_row rfl 34 _ rfl nb rfl 34 _ _ _ b1 Tryz.underlying34 rfl i1 ?_) | (refine wpList_store_mid rfl 34 _ _ rfl b (off+i*9+1) arr ?_ ?_ ?_ ?_ ?_ ?_;exact rfl;exact rfl;exact hth;exact i1;exact o1))
           go_roundw
           case rel=>exact ⟨i+1,qs++ [(cn,y)],_,by omega,by go_num,HN,(by show _=_;rw [List.length_append,HQL.out];rfl),HN2,hS8,by rw [Bp];exact hs8⟩
           case measure=>simp [intOf];omega
     ·have hkn :k=st.sets.length :=by omega
      subst hkn
      rw [List.drop_length,List.append_nil] at hS2
      have j1 : ¬ ((st.sets.length :Int) < (st.sets.length :Int)) :=by omega
      have GS :GoodS v.S :=by
       rw [HV.out]
       exact Ng (fun t' ht'=>by rw [List.mem_singleton] at ht';rw [ht'];exact HTB.out) (Nat.le_of_ble_eq_true rfl)
      have HZ :Hid (X=match whR v.S st.wher with
       | .error m=> .error m
       | .ok wh=> .ok {st with rows :=rs,sets :=qs,wher :=wh}) :=by
       show _=_
       rw [HX2.out,show Bq t [] st.sets= .ok qs by rw [←List.take_length (l :=st.sets)];exact HQ.out,HV.out]
      go_wp2_with fail
      refine HKF.out _ _ ?_
      exact Tt X w V2 D lab2 _ v {st with rows :=rs,sets :=qs} hS2 GS HGW.out HZ.out _ _ _ _ _ _ _ _ _ _ _ _ _ _ (by kernel_rfl)
end Go.Proofs.YtmgkcjiejmhgcaaGreatDoor

