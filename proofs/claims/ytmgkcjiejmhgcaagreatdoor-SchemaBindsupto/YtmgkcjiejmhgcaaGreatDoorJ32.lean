/-
  2 texts of this proof in one, in build order: BTyped, KCat.
-/
import Derived.Test.YtmgkcjiejmhgcaaGreatDoorJ09
import Derived.Test.YtmgkcjiejmhgcaaGreatDoorJ14
import Derived.Test.YtmgkcjiejmhgcaaGreatDoorJ30
import Derived.Test.YtmgkcjiejmhgcaaGreatDoorJ31
set_option linter.unusedSimpArgs false
set_option linter.unusedVariables false
namespace Go.Proofs.YtmgkcjiejmhgcaaGreatDoor
open Go.RowKit Go.Maps
structure GoodS (S :List TabD) :Prop where
 ap : ∀t∈S,Is t.cols
 ty : ∀t∈S,∀c∈t.cols,c.ty=1∨c.ty=2
 len : (Ax S).length≤1000000000
theorem Ps :GoodS [] := ⟨(fun _ h=>by cases h),(fun _ h=>by cases h),Nat.zero_le _⟩
theorem Ng {S :List TabD} (h : ∀t∈S,Cv t=true) (hl :S.length≤1000) :GoodS S :=
 ⟨fun t ht=> (Pr (h t ht)).1,fun t ht=> (Pr (h t ht)).2,by
  have :=Ku S hl (fun t ht=>by
   have :=h t ht
   simp only [Cv,Bool.and_eq_true,decide_eq_true_eq] at this
   omega) S.length
  rwa [List.take_length] at this⟩
theorem Wm {d :Nat} {op :Int} {x :V} {s name :Wd} {n :Int} {l :List E} (h :geB (d+1) (.mk op x s name n l) =true) : (1≤op∧op≤10) ∧ (op=1→l= []) ∧ (op=2→l= []) ∧l.length≤2∧ ∀a∈l,geB d a=true :=by
 simp only [geB,Bool.and_eq_true,decide_eq_true_eq,List.all_eq_true] at h
 obtain ⟨⟨h1,_⟩,h3⟩ :=h
 have hb : (1≤op∧op≤10) ∧ ((op=1∨op=2) → (l.length :Int) =0) ∧ (l.length :Int) ≤2 :=by
  unfold Fd at h1
  split at h1
  ·exact ⟨by omega,fun _=>h1,by omega⟩
  ·split at h1
   ·exact ⟨by omega,by omega,by omega⟩
   ·split at h1
    ·exact ⟨by omega,by omega,by omega⟩
    ·omega
 exact ⟨hb.1,fun e=>List.eq_nil_of_length_eq_zero (by have :=hb.2.1 (.inl e);omega),fun e=>List.eq_nil_of_length_eq_zero (by have :=hb.2.1 (.inr e);omega),by omega,h3⟩
theorem Lx (S :List TabD) (hS :GoodS S) : ∀d :Nat,Y6 S d
 | 0=>fun e v cv C w _ _ _ hg=>by cases e;cases hg
 | d+1=>fun e v cv C w he hl hC hg=>by
  cases e with
  | mk op x s name n l=>
  obtain ⟨sv,rfl,hes⟩ :=he.open
  obtain ⟨ao,c,rfl⟩ :=hes.shape
  obtain ⟨h1,h2,h3,h4,h5⟩ :=Wm hg
  by_cases ho :op=2
  ·have hl0 :=h3 ho
   subst hl0
   subst ho
   have hc := (I5 he).2
   exact Wl S hS.ap hS.len x s name n ao c C cv w hc hl hC
  ·exact Yc S hS.ap hS.ty d (Lx S hS d) op ho x s name n l ao c C cv w (Abf.2 hes) hl hC h1 h2 h4 h5
set_option maxRecDepth 100000 in
set_option maxHeartbeats 8000000 in
theorem Ly (S :List TabD) (hS :GoodS S) (want :Int) (e :E) (v cv :Value) (C :Nat) (w :World) (he :IsE (fun k=>k<C) w e v) (hl :IsL B8 (fun k=>k<C) w cv (Ax S)) (hC :C≤w.heap.size) (hg :geB 40 e=true) :
  Calls Tryz.prog 29 #[cv,v, .int .i64 want] w fun r w'=> (∃u,r= .returned u∧Mc (asR S want e) (Fr w.heap.size) w' u) ∧Below w.heap.size w w' :=by
 obtain ⟨co,cc,rfl⟩ :=hl.shape
 obtain ⟨yo,⟨yk,yi,ys2⟩,ys,ym,yn,ya,yl,yc,rfl⟩ :=he.shape
 have hb2 :=Bz w (.cells (Ad yo ⟨yk,yi,ys2⟩ ys ym yn (.slice ya yl yc)) 34) (.cells #[.int .i64 0, .int .i64 0, .int .i64 0, .string ⟨#[]⟩, .string ⟨#[]⟩, .string ⟨#[]⟩, .int .i64 0, .slice none 0 0] 34)
 have hB0 :=Ae (Ab w (.cells (Ad yo ⟨yk,yi,ys2⟩ ys ym yn (.slice ya yl yc)) 34)) (.cells #[.int .i64 0, .int .i64 0, .int .i64 0, .string ⟨#[]⟩, .string ⟨#[]⟩, .string ⟨#[]⟩, .int .i64 0, .slice none 0 0] 34)
 have hB1 : ((w.alloc (.cells (Ad yo ⟨yk,yi,ys2⟩ ys ym yn (.slice ya yl yc)) 34)).alloc (.cells #[.int .i64 0, .int .i64 0, .int .i64 0, .string ⟨#[]⟩, .string ⟨#[]⟩, .string ⟨#[]⟩, .int .i64 0, .slice none 0 0] 34)).heap[w.heap.size+1]? =some (.cells (Ad 0 zero noW noW 0 (.slice none 0 0)) 34) :=A0 _ _ _
 generalize hW : (w.alloc (.cells (Ad yo ⟨yk,yi,ys2⟩ ys ym yn (.slice ya yl yc)) 34)).alloc (.cells #[.int .i64 0, .int .i64 0, .int .i64 0, .string ⟨#[]⟩, .string ⟨#[]⟩, .string ⟨#[]⟩, .int .i64 0, .slice none 0 0] 34) =W0 at hb2 hB0 hB1
 have HW :Hid _ :=hW
 have BD :=Lx S hS 40 e _ (.slice co (Ax S).length cc) C W0 (IsE.keep (Ag (hb2.mono hC)) _ _ he) (hl.keep (Ag (hb2.mono hC))) (Nat.le_trans hC hb2.size) hg
 obtain ⟨y0,y1,y2,y3,y4,y5,y6,y7⟩ :=H0 hB0
 simp only at y1 y2 y3
 have hone0 :=A8 0 zero noW noW 0 none 0 0
 have hl1 :=lt_of_block hB1
 have hs2 :=hb2.size
 clear hW he hl
 rcases hbr :A3 S e with m | r
 ·have HR :Hid (asR S want e= .error m) :=by show _=_;rw [asR,hbr]
  have hm :m=3∨m=5 :=Ew S e m hbr
  have BD2 :=BD.mono (R' :=fun e w'=>e= .returned (.tuple #[.agg (Ad 0 zero noW noW 0 (.slice none 0 0)), .int .i64 0, .int .i64 m]) ∧Below W0.heap.size W0 w') (by
   rintro e w' ⟨⟨v,rfl,hv⟩,hb'⟩
   obtain rfl := (A9 hbr).1 hv
   exact ⟨rfl,hb'⟩)
  have q1 : (m==0) =false :=by rcases hm with rfl | rfl<;>rfl
  clear BD hbr hm
  go_enter Tryz.func29,Tryz.ntmps29
  go_upto_region 1 with fail
  rw [HW.out]
  go_wp2_with (first | (go_at_call 28;go_fit BD2;rintro e W1 ⟨rfl,hb1⟩;have bZ1 :=Ae ((hb1.block _ hl1).trans hB1) (.cells #[.int .i64 0, .int .i64 0, .int .i64 0, .string ⟨#[]⟩, .string ⟨#[]⟩, .string ⟨#[]⟩, .int .i64 0, .slice none 0 0] 34);have bG :=Ab W1 (.cells (Ad 0 zero noW noW 0 (.slice none 0 0)) 34)) | (refine wpList_load_row rfl 34 _ rfl W1.heap.size rfl 34 _ _ _ bG Tryz.underlying34 rfl Ai ?_) | (refine wpList_store_row rfl 34 _ _ rfl (w.heap.size+1) (Ad 0 zero noW noW 0 (.slice none 0 0)) ?_ ?_ 34 (Ad 0 zero noW noW 0 (.slice none 0 0)) ?_ ?_ ?_ ?_ ?_;exact rfl;exact rfl;exact bZ1;exact Ai;exact rfl;exact hone0))
  have hbw :Below w.heap.size w W1 :=hb2.trans (hb1.mono hs2)
  refine bodyPost_ret (v := .tuple #[.agg (Ad 0 zero noW noW 0 (.slice none 0 0)), .int .i64 m]) (A2 Tryz.results29 _ _ (w.heap.size+1) 34 _ _ _ _ rfl rfl (An bZ1) Tryz.underlying34 rfl Ai) rfl ⟨⟨_,rfl, ?_⟩,Below.row (hbw.alloc hbw.size _) (by omega) _⟩
  rw [HR.out]
  rfl
 ·obtain ⟨r1,r2⟩ :=r
  have BD2 :=BD.mono (R' :=fun e w'=> ∃op2 x2k x2n x2s s2 nm2 n2 ao2 k2 c2,e= .returned (.tuple #[.agg (Ad op2 ⟨x2k,x2n,x2s⟩ s2 nm2 n2 (.slice ao2 k2 c2)), .int .i64 r2, .int .i64 0]) ∧IsE (Fr W0.heap.size) w' r1 (.agg (Ad op2 ⟨x2k,x2n,x2s⟩ s2 nm2 n2 (.slice ao2 k2 c2))) ∧Below W0.heap.size W0 w') (by
   rintro e w' ⟨⟨v,rfl,hv⟩,hb'⟩
   obtain ⟨op2,⟨x2k,x2n,x2s⟩,s2,nm2,n2,ao2,k2,c2,rfl,hE'⟩ := (Bi hbr).1 hv
   exact ⟨op2,x2k,x2n,x2s,s2,nm2,n2,ao2,k2,c2,rfl,hE',hb'⟩)
  have HR :Hid (asR S want e=if Dg r2 want then .ok r1 else .error 5) :=by show _=_;rw [asR,hbr]
  clear BD hbr
  by_cases hc :r2≠0∧r2≠want
  ·have HE :Hid (asR S want e= .error 5) :=by show _=_;rw [HR.out,Dg];simp [hc.1,hc.2]
   have q1 : (r2 !=0) =true :=by simpa using hc.1
   have q2 : (r2 !=want) =true :=by simpa using hc.2
   clear hc HR
   go_enter Tryz.func29,Tryz.ntmps29
   go_upto_region 1 with fail
   rw [HW.out]
   go_wp2_with (first | (go_at_call 28;go_fit BD2;rintro e W1 ⟨op2,x2k,x2n,x2s,s2,nm2,n2,ao2,k2,c2,rfl,hE2,hb1⟩;have bZ1 :=Ae ((hb1.block _ hl1).trans hB1) (.cells (Ad op2 ⟨x2k,x2n,x2s⟩ s2 nm2 n2 (.slice ao2 k2 c2)) 34)) | (refine wpList_store_row rfl 34 _ _ rfl (w.heap.size+1) (Ad 0 zero noW noW 0 (.slice none 0 0)) ?_ ?_ 34 (Ad 0 zero noW noW 0 (.slice none 0 0)) ?_ ?_ ?_ ?_ ?_;exact rfl;exact rfl;exact bZ1;exact Ai;exact rfl;exact hone0))
   have hbw :Below w.heap.size w W1 :=hb2.trans (hb1.mono hs2)
   refine bodyPost_ret (v := .tuple #[.agg (Ad 0 zero noW noW 0 (.slice none 0 0)), .int .i64 5]) (A2 Tryz.results29 _ _ (w.heap.size+1) 34 _ _ _ _ rfl rfl (An bZ1) Tryz.underlying34 rfl Ai) rfl ⟨⟨_,rfl, ?_⟩,Below.row (hbw.alloc hbw.size _) (by omega) _⟩
   rw [HE.out]
   rfl
  ·have HE :Hid (asR S want e= .ok r1) :=by
    show _=_
    rw [HR.out,if_pos]
    simp only [Dg,Bool.or_eq_true,decide_eq_true_eq]
    omega
   have key : (r2 !=0) =false∨ ((r2 !=0) =true∧ (r2 !=want) =false) :=by
    by_cases h0 :r2=0
    ·exact .inl (by simp [h0])
    ·exact .inr ⟨by simpa using h0,by have :r2=want :=(by omega);simp [this]⟩
   clear hc HR
   rcases key with q1 | ⟨q1,q2⟩
   all_goals
    go_enter Tryz.func29,Tryz.ntmps29
    go_upto_region 1 with fail
    rw [HW.out]
    go_wp2_with (first | (go_at_call 28;go_fit BD2;rintro e W1 ⟨op2,x2k,x2n,x2s,s2,nm2,n2,ao2,k2,c2,rfl,hE2,hb1⟩;have bZ1 :=Ae ((hb1.block _ hl1).trans hB1) (.cells (Ad op2 ⟨x2k,x2n,x2s⟩ s2 nm2 n2 (.slice ao2 k2 c2)) 34);have bG :=Ab W1 (.cells (Ad op2 ⟨x2k,x2n,x2s⟩ s2 nm2 n2 (.slice ao2 k2 c2)) 34);have hone :=A8 op2 ⟨x2k,x2n,x2s⟩ s2 nm2 n2 ao2 k2 c2) | (refine wpList_load_row rfl 34 _ rfl W1.heap.size rfl 34 _ _ _ bG Tryz.underlying34 rfl Ai ?_) | (refine wpList_store_row rfl 34 _ _ rfl (w.heap.size+1) (Ad op2 ⟨x2k,x2n,x2s⟩ s2 nm2 n2 (.slice ao2 k2 c2)) ?_ ?_ 34 (Ad 0 zero noW noW 0 (.slice none 0 0)) ?_ ?_ ?_ ?_ ?_;exact rfl;exact rfl;exact bZ1;exact Ai;exact rfl;exact hone))
    have hbw :Below w.heap.size w W1 :=hb2.trans (hb1.mono hs2)
    have hE3 :IsE (Fr w.heap.size) ((W1.alloc (.cells (Ad op2 ⟨x2k,x2n,x2s⟩ s2 nm2 n2 (.slice ao2 k2 c2)) 34)).setRow (w.heap.size+1) (Ad op2 ⟨x2k,x2n,x2s⟩ s2 nm2 n2 (.slice ao2 k2 c2))) r1 (.agg (Ad op2 ⟨x2k,x2n,x2s⟩ s2 nm2 n2 (.slice ao2 k2 c2))) :=IsE.mono (fun k _ h=>Nat.le_trans hs2 h) _ _ (IsE.keep ((((Keeps.refl _ _).alloc _)).row (show ¬W0.heap.size≤w.heap.size+1 by omega) _) _ _ hE2)
    refine bodyPost_ret (v := .tuple #[.agg (Ad op2 ⟨x2k,x2n,x2s⟩ s2 nm2 n2 (.slice ao2 k2 c2)), .int .i64 0]) (A2 Tryz.results29 _ _ (w.heap.size+1) 34 _ _ _ _ rfl rfl (An bZ1) Tryz.underlying34 rfl Ai) rfl ⟨⟨_,rfl, ?_⟩,Below.row (hbw.alloc hbw.size _) (by omega) _⟩
    rw [HE.out]
    exact ⟨op2,⟨x2k,x2n,x2s⟩,s2,nm2,n2,ao2,k2,c2,rfl,hE3⟩
end Go.Proofs.YtmgkcjiejmhgcaaGreatDoor

namespace Go.Proofs.YtmgkcjiejmhgcaaGreatDoor
open Go.RowKit
def Jx (l :List ColD) (k :Nat) (c :ColD) :Bool :=nm c.name&& (decide (c.ty=1) || decide (c.ty=2)) &&decide (Bk l c.name= (k :Int)) && (decide (0<k) || c.must)
def C8 (t :TabD) :Nat→Bool
 | 0=>nm t.name&&decide (0<t.cols.length) &&decide (t.cols.length<5)
 | k+1=>C8 t k&&match t.cols[k]? with
  | some c=>Jx t.cols k c
  | none=>true
def F9 (t :TabD) :Bool :=C8 t t.cols.length
theorem Pt {t :TabD} : ∀ {k :Nat},C8 t k=true→C8 t 0=true
 | 0,h=>h
 | k+1,h=>Pt (k :=k) (by rw [C8,Bool.and_eq_true] at h;exact h.1)
theorem Lz {t :TabD} (h :F9 t=true) :nm t.name=true∧0<t.cols.length∧t.cols.length≤4 :=by
 have :=Pt h
 simp only [C8,Bool.and_eq_true,decide_eq_true_eq] at this
 exact ⟨this.1.1,this.1.2,by omega⟩
set_option maxRecDepth 100000 in
set_option maxHeartbeats 8000000 in
theorem Jp (t :TabD) (sv :Value) (C :Nat) (w :World) (hl :IsL Bg (fun k=>k<C) w sv t.cols) (hC :C≤w.heap.size) (he :EnvM w) :
  Calls Tryz.prog 14 #[.agg #[.string t.name,sv]] w fun e w'=>e= .returned (.bool (F9 t)) ∧Below w.heap.size w w' :=by
 obtain ⟨ao,c,rfl⟩ :=hl.shape
 have hlm := (Bj hl).2
 unfold maxLen at hlm
 have hb1 :=Aq w (.cells #[.string t.name, .slice ao t.cols.length c] 47)
 have bT :=Ab w (.cells #[.string t.name, .slice ao t.cols.length c] 47)
 have HCo :=fun s W (h :Below w.heap.size w W) =>H9 t.cols t.name (.slice ao t.cols.length c) s C W (hl.keep (Ag (h.mono hC)))
 have HL :Hid (∀ (k :Nat) (x :ColD),t.cols[k]? =some x→ ∃b off,ao=some ⟨b,off,none⟩ ∧b<w.heap.size∧w.cell? ⟨b,off+k*3,none⟩ =some (.string x.name) ∧w.cell? ⟨b,off+k*3+1,none⟩ =some (.int .i64 x.ty) ∧w.cell? ⟨b,off+k*3+2,none⟩ =some (.bool x.must)) :=fun k x hx=>by
  obtain ⟨b,off,cs,hso,hbC,hbl,hR1,hcell⟩ :=Av hl hx
  obtain rfl :=hR1
  exact ⟨b,off,hso,hbl,hcell 0 _ rfl,hcell 1 _ rfl,hcell 2 _ rfl⟩
 have HN :=fun s W (h :Below w.heap.size w W) =>Gx s W (he.next h)
 have EA :Hid (∀k x,t.cols[k]? =some x→C8 t (k+1) = (C8 t k&& (nm x.name&& (decide (x.ty=1) || decide (x.ty=2)) &&decide (Bk t.cols x.name= (k :Int)) && (decide (0<k) || x.must)))) :=fun k x hx=>by rw [C8,hx];rfl
 have E :Hid (F9 t=C8 t t.cols.length) :=rfl
 have E0 :Hid (C8 t 0= (nm t.name&&decide (0<t.cols.length) &&decide (t.cols.length<5))) :=rfl
 generalize F9 t=q at E
 have HNt :=HN t.name _ hb1
 generalize hW :w.alloc (.cells #[.string t.name, .slice ao t.cols.length c] 47) =W1 at hb1 bT HNt
 have HW :Hid _ :=hW
 clear hW hl
 have c0 :=Aa bT (j :=0) rfl
 have c1 :=Aa bT (j :=1) rfl
 go_enter Tryz.func14,Tryz.ntmps14
 go_upto_region 1 with fail
 rw [HW.out]
 go_cut [3] from 6 (fun s3 wx=>s3= .bool (C8 t 0) ∧Below W1.heap.size W1 wx)
 case first=>
  generalize nm t.name=b0 at HNt E0
  cases b0
  ·go_wp2_with (go_at_call 27;go_fit HNt;rintro e w2 ⟨rfl,hb2⟩)
   go_meet
   case rel=>exact ⟨by rw [E0.out];rfl,hb2⟩
  ·by_cases h0 :0<t.cols.length
   ·by_cases h5 :t.cols.length<5
    ·have q0 : (0 :Int) < (t.cols.length :Int) :=by omega
     have q1 : (t.cols.length :Int) <5 :=by omega
     go_wp2_with (go_at_call 27;go_fit HNt;rintro e w2 ⟨rfl,hb2⟩;have d1 := (hb2.cell (p := ⟨w.heap.size,1,none⟩) (lt_of_block bT)).trans c1)
     go_meet
     case rel=>exact ⟨by rw [E0.out];simp [h0,h5],hb2⟩
    ·have q0 : (0 :Int) < (t.cols.length :Int) :=by omega
     have q1 : ¬ (t.cols.length :Int) <5 :=by omega
     go_wp2_with (go_at_call 27;go_fit HNt;rintro e w2 ⟨rfl,hb2⟩;have d1 := (hb2.cell (p := ⟨w.heap.size,1,none⟩) (lt_of_block bT)).trans c1)
     go_meet
     case rel=>exact ⟨by rw [E0.out,decide_eq_false h5];simp;try omega,hb2⟩
   ·have q0 : ¬ (0 :Int) < (t.cols.length :Int) :=by omega
    go_wp2_with (go_at_call 27;go_fit HNt;rintro e w2 ⟨rfl,hb2⟩;have d1 := (hb2.cell (p := ⟨w.heap.size,1,none⟩) (lt_of_block bT)).trans c1)
    go_meet
    case rel=>exact ⟨by rw [E0.out,decide_eq_false h0];rfl,hb2⟩
 case rest=>
  obtain ⟨rfl,hbc⟩ :=hcut
  have e1 := (hbc.cell (p := ⟨w.heap.size,1,none⟩) (lt_of_block bT)).trans c1
  clear HNt E0
  go_wp2
  go_loopw [3,24] (fun okv i wr=> ∃k :Nat,k≤t.cols.length∧i= .int .i64 k∧okv= .bool (C8 t k) ∧Below W1.heap.size W1 wr) (fun _ i _=>t.cols.length - (intOf i).toNat)
  case atStart=>exact ⟨0,Nat.zero_le _,rfl,rfl,hbc⟩
  case round=>
   obtain ⟨k,hk,rfl,rfl,hbel⟩ :=hrel
   by_cases hlt :k<t.cols.length
   ·obtain ⟨x,hx⟩ : ∃x,t.cols[k]? =some x := ⟨_,List.getElem?_eq_getElem hlt⟩
    obtain ⟨b,off,hso,hbl,g0,g1,g2⟩ :=HL.out k x hx
    cases hso
    have hbw :Below w.heap.size w wr :=hb1.trans (hbel.mono hb1.size)
    have hs1 :=hb1.size
    have hsz :=hbel.size
    have d0 := (hbw.cell (p := ⟨b,off+k*3,none⟩) hbl).trans g0
    have d1 := (hbw.cell (p := ⟨b,off+k*3+1,none⟩) hbl).trans g1
    have d2 := (hbw.cell (p := ⟨b,off+k*3+2,none⟩) hbl).trans g2
    have hbx :=Aq wr (.cells #[.string x.name, .int .i64 x.ty, .bool x.must] 66)
    have bX :=Ab wr (.cells #[.string x.name, .int .i64 x.ty, .bool x.must] 66)
    have hbwx :Below w.heap.size w (wr.alloc (.cells #[.string x.name, .int .i64 x.ty, .bool x.must] 66)) :=hbw.alloc (by omega) _
    have EK :=EA.out k x hx
    have v0 : (0 :Int) ≤ (k :Int) :=by omega
    have v1 : (k :Int) < (t.cols.length :Int) :=by omega
    have HNx :=HN x.name _ hbwx
    have HCx :=fun W (h :Below w.heap.size w W) =>HCo x.name W h
    have bT' := (hbel.block _ (lt_of_block bT)).trans bT
    have bTx := (hbx.block _ (lt_of_block bT')).trans bT'
    clear hx g0 g1 g2
    have HEK :Hid _ :=EK
    clear EK
    obtain ⟨r,hrr⟩ : ∃r,C8 t (k+1) =r := ⟨_,rfl⟩
    rw [hrr] at HEK
    have HR0 :Hid _ :=hrr
    clear hrr
    generalize hok :C8 t k=ok at HEK
    have HOK :Hid _ :=hok
    clear hok
    generalize nm x.name=b1 at HNx HEK
    generalize Bk t.cols x.name=ca at HCx HEK
    obtain ⟨xn,xt,xm⟩ :=x
    simp only at*
    cases ok
    ·have HR :Hid (r=false) :=by show _=_;rw [HEK.out];rfl
     clear HEK
     go_wp2
     go_roundw
     case rel=>exact ⟨k+1,by omega,by go_num,by rw [HR0.out,HR.out],hbel.trans (hbx.mono hsz)⟩
     case measure=>simp [intOf];omega
    cases b1
    ·have HR :Hid (r=false) :=by show _=_;rw [HEK.out];rfl
     clear HEK
     go_wp2_with (first | (go_at_call 27;go_fit HNx;rintro e w2 ⟨rfl,hb2⟩;have hB2 :Below wr.heap.size wr w2 :=Ak hbx hb2;have bX2 := (hb2.block _ (lt_of_block bX)).trans bX;have bT2 := (hb2.block _ (lt_of_block bTx)).trans bTx;have x0 :=Aa bX2 (j :=0) rfl;have x1 :=Aa bX2 (j :=1) rfl;have x2 :=Aa bX2 (j :=2) rfl;have x3 :=Aa bT2 (j :=0) rfl;have x4 :=Aa bT2 (j :=1) rfl))
     go_roundw
     case rel=>exact ⟨k+1,by omega,by go_num,by rw [HR0.out,HR.out],hbel.trans (hB2.mono hsz)⟩
     case measure=>simp [intOf];omega
    by_cases hty :xt=1
    ·by_cases hca :ca= (k :Int)
     rotate_left
     ·have hq1 : (xt==1) =true :=by simp [hty]
      have hq3 : (ca== (k :Int)) =false :=by simp [hca]
      have HR :Hid (r=false) :=by show _=_;rw [HEK.out];rw [decide_eq_false hca];simp
      clear HEK hty hca
      go_wp2_with (first | (go_at_call 27;go_fit HNx;rintro e w2 ⟨rfl,hb2⟩;have hB2 :Below wr.heap.size wr w2 :=Ak hbx hb2;have bX2 := (hb2.block _ (lt_of_block bX)).trans bX;have bT2 := (hb2.block _ (lt_of_block bTx)).trans bTx;have x0 :=Aa bX2 (j :=0) rfl;have x1 :=Aa bX2 (j :=1) rfl;have x2 :=Aa bX2 (j :=2) rfl;have x3 :=Aa bT2 (j :=0) rfl;have x4 :=Aa bT2 (j :=1) rfl) | (go_at_call 16;go_fit (HCx _ (hbw.trans (hB2.mono (by omega))));rintro e w3 ⟨rfl,hb3⟩;have hB3 :Below wr.heap.size wr w3 :=Ak hB2 hb3;have bX3 := (hb3.block _ (lt_of_block bX2)).trans bX2;have y2 :=Aa bX3 (j :=2) rfl))
      go_roundw
      case rel=>exact ⟨k+1,by omega,by go_num,by rw [HR0.out,HR.out],hbel.trans (hB3.mono hsz)⟩
      case measure=>simp [intOf];omega
     by_cases hk0 :0<k
     ·have hq1 : (xt==1) =true :=by simp [hty]
      have hq3 : (ca== (k :Int)) =true :=by simp [hca]
      have hq4 : (0 :Int) < (k :Int) :=by omega
      have HR :Hid (r=true) :=by show _=_;rw [HEK.out];rw [decide_eq_true hty,decide_eq_true hca,decide_eq_true hk0];rfl
      clear HEK hty hca
      go_wp2_with (first | (go_at_call 27;go_fit HNx;rintro e w2 ⟨rfl,hb2⟩;have hB2 :Below wr.heap.size wr w2 :=Ak hbx hb2;have bX2 := (hb2.block _ (lt_of_block bX)).trans bX;have bT2 := (hb2.block _ (lt_of_block bTx)).trans bTx;have x0 :=Aa bX2 (j :=0) rfl;have x1 :=Aa bX2 (j :=1) rfl;have x2 :=Aa bX2 (j :=2) rfl;have x3 :=Aa bT2 (j :=0) rfl;have x4 :=Aa bT2 (j :=1) rfl) | (go_at_call 16;go_fit (HCx _ (hbw.trans (hB2.mono (by omega))));rintro e w3 ⟨rfl,hb3⟩;have hB3 :Below wr.heap.size wr w3 :=Ak hB2 hb3;have bX3 := (hb3.block _ (lt_of_block bX2)).trans bX2;have y2 :=Aa bX3 (j :=2) rfl))
      go_roundw
      case rel=>exact ⟨k+1,by omega,by go_num,by rw [HR0.out,HR.out],hbel.trans (hB3.mono hsz)⟩
      case measure=>simp [intOf];omega
     cases xm
     ·have hq1 : (xt==1) =true :=by simp [hty]
      have hq3 : (ca== (k :Int)) =true :=by simp [hca]
      have hq4 : ¬ (0 :Int) < (k :Int) :=by omega
      have HR :Hid (r=false) :=by show _=_;rw [HEK.out];rw [decide_eq_true hty,decide_eq_true hca,decide_eq_false hk0];rfl
      clear HEK hty hca
      go_wp2_with (first | (go_at_call 27;go_fit HNx;rintro e w2 ⟨rfl,hb2⟩;have hB2 :Below wr.heap.size wr w2 :=Ak hbx hb2;have bX2 := (hb2.block _ (lt_of_block bX)).trans bX;have bT2 := (hb2.block _ (lt_of_block bTx)).trans bTx;have x0 :=Aa bX2 (j :=0) rfl;have x1 :=Aa bX2 (j :=1) rfl;have x2 :=Aa bX2 (j :=2) rfl;have x3 :=Aa bT2 (j :=0) rfl;have x4 :=Aa bT2 (j :=1) rfl) | (go_at_call 16;go_fit (HCx _ (hbw.trans (hB2.mono (by omega))));rintro e w3 ⟨rfl,hb3⟩;have hB3 :Below wr.heap.size wr w3 :=Ak hB2 hb3;have bX3 := (hb3.block _ (lt_of_block bX2)).trans bX2;have y2 :=Aa bX3 (j :=2) rfl))
      go_roundw
      case rel=>exact ⟨k+1,by omega,by go_num,by rw [HR0.out,HR.out],hbel.trans (hB3.mono hsz)⟩
      case measure=>simp [intOf];omega
     ·have hq1 : (xt==1) =true :=by simp [hty]
      have hq3 : (ca== (k :Int)) =true :=by simp [hca]
      have hq4 : ¬ (0 :Int) < (k :Int) :=by omega
      have HR :Hid (r=true) :=by show _=_;rw [HEK.out];rw [decide_eq_true hty,decide_eq_true hca,decide_eq_false hk0];rfl
      clear HEK hty hca
      go_wp2_with (first | (go_at_call 27;go_fit HNx;rintro e w2 ⟨rfl,hb2⟩;have hB2 :Below wr.heap.size wr w2 :=Ak hbx hb2;have bX2 := (hb2.block _ (lt_of_block bX)).trans bX;have bT2 := (hb2.block _ (lt_of_block bTx)).trans bTx;have x0 :=Aa bX2 (j :=0) rfl;have x1 :=Aa bX2 (j :=1) rfl;have x2 :=Aa bX2 (j :=2) rfl;have x3 :=Aa bT2 (j :=0) rfl;have x4 :=Aa bT2 (j :=1) rfl) | (go_at_call 16;go_fit (HCx _ (hbw.trans (hB2.mono (by omega))));rintro e w3 ⟨rfl,hb3⟩;have hB3 :Below wr.heap.size wr w3 :=Ak hB2 hb3;have bX3 := (hb3.block _ (lt_of_block bX2)).trans bX2;have y2 :=Aa bX3 (j :=2) rfl))
      go_roundw
      case rel=>exact ⟨k+1,by omega,by go_num,by rw [HR0.out,HR.out],hbel.trans (hB3.mono hsz)⟩
      case measure=>simp [intOf];omega
    have hty1 :=hty
    clear hty
    by_cases hty :xt=2
    ·by_cases hca :ca= (k :Int)
     rotate_left
     ·have hq1 : (xt==1) =false :=by simp [hty1]
      have hq2 : (xt==2) =true :=by simp [hty]
      have hq3 : (ca== (k :Int)) =false :=by simp [hca]
      have HR :Hid (r=false) :=by show _=_;rw [HEK.out];rw [decide_eq_false hca];simp
      clear HEK hty hca
      go_wp2_with (first | (go_at_call 27;go_fit HNx;rintro e w2 ⟨rfl,hb2⟩;have hB2 :Below wr.heap.size wr w2 :=Ak hbx hb2;have bX2 := (hb2.block _ (lt_of_block bX)).trans bX;have bT2 := (hb2.block _ (lt_of_block bTx)).trans bTx;have x0 :=Aa bX2 (j :=0) rfl;have x1 :=Aa bX2 (j :=1) rfl;have x2 :=Aa bX2 (j :=2) rfl;have x3 :=Aa bT2 (j :=0) rfl;have x4 :=Aa bT2 (j :=1) rfl) | (go_at_call 16;go_fit (HCx _ (hbw.trans (hB2.mono (by omega))));rintro e w3 ⟨rfl,hb3⟩;have hB3 :Below wr.heap.size wr w3 :=Ak hB2 hb3;have bX3 := (hb3.block _ (lt_of_block bX2)).trans bX2;have y2 :=Aa bX3 (j :=2) rfl))
      go_roundw
      case rel=>exact ⟨k+1,by omega,by go_num,by rw [HR0.out,HR.out],hbel.trans (hB3.mono hsz)⟩
      case measure=>simp [intOf];omega
     by_cases hk0 :0<k
     ·have hq1 : (xt==1) =false :=by simp [hty1]
      have hq2 : (xt==2) =true :=by simp [hty]
      have hq3 : (ca== (k :Int)) =true :=by simp [hca]
      have hq4 : (0 :Int) < (k :Int) :=by omega
      have HR :Hid (r=true) :=by show _=_;rw [HEK.out];rw [decide_eq_false hty1,decide_eq_true hty,decide_eq_true hca,decide_eq_true hk0];rfl
      clear HEK hty hca
      go_wp2_with (first | (go_at_call 27;go_fit HNx;rintro e w2 ⟨rfl,hb2⟩;have hB2 :Below wr.heap.size wr w2 :=Ak hbx hb2;have bX2 := (hb2.block _ (lt_of_block bX)).trans bX;have bT2 := (hb2.block _ (lt_of_block bTx)).trans bTx;have x0 :=Aa bX2 (j :=0) rfl;have x1 :=Aa bX2 (j :=1) rfl;have x2 :=Aa bX2 (j :=2) rfl;have x3 :=Aa bT2 (j :=0) rfl;have x4 :=Aa bT2 (j :=1) rfl) | (go_at_call 16;go_fit (HCx _ (hbw.trans (hB2.mono (by omega))));rintro e w3 ⟨rfl,hb3⟩;have hB3 :Below wr.heap.size wr w3 :=Ak hB2 hb3;have bX3 := (hb3.block _ (lt_of_block bX2)).trans bX2;have y2 :=Aa bX3 (j :=2) rfl))
      go_roundw
      case rel=>exact ⟨k+1,by omega,by go_num,by rw [HR0.out,HR.out],hbel.trans (hB3.mono hsz)⟩
      case measure=>simp [intOf];omega
     cases xm
     ·have hq1 : (xt==1) =false :=by simp [hty1]
      have hq2 : (xt==2) =true :=by simp [hty]
      have hq3 : (ca== (k :Int)) =true :=by simp [hca]
      have hq4 : ¬ (0 :Int) < (k :Int) :=by omega
      have HR :Hid (r=false) :=by show _=_;rw [HEK.out];rw [decide_eq_false hty1,decide_eq_true hty,decide_eq_true hca,decide_eq_false hk0];rfl
      clear HEK hty hca
      go_wp2_with (first | (go_at_call 27;go_fit HNx;rintro e w2 ⟨rfl,hb2⟩;have hB2 :Below wr.heap.size wr w2 :=Ak hbx hb2;have bX2 := (hb2.block _ (lt_of_block bX)).trans bX;have bT2 := (hb2.block _ (lt_of_block bTx)).trans bTx;have x0 :=Aa bX2 (j :=0) rfl;have x1 :=Aa bX2 (j :=1) rfl;have x2 :=Aa bX2 (j :=2) rfl;have x3 :=Aa bT2 (j :=0) rfl;have x4 :=Aa bT2 (j :=1) rfl) | (go_at_call 16;go_fit (HCx _ (hbw.trans (hB2.mono (by omega))));rintro e w3 ⟨rfl,hb3⟩;have hB3 :Below wr.heap.size wr w3 :=Ak hB2 hb3;have bX3 := (hb3.block _ (lt_of_block bX2)).trans bX2;have y2 :=Aa bX3 (j :=2) rfl))
      go_roundw
      case rel=>exact ⟨k+1,by omega,by go_num,by rw [HR0.out,HR.out],hbel.trans (hB3.mono hsz)⟩
      case measure=>simp [intOf];omega
     ·have hq1 : (xt==1) =false :=by simp [hty1]
      have hq2 : (xt==2) =true :=by simp [hty]
      have hq3 : (ca== (k :Int)) =true :=by simp [hca]
      have hq4 : ¬ (0 :Int) < (k :Int) :=by omega
      have HR :Hid (r=true) :=by show _=_;rw [HEK.out];rw [decide_eq_false hty1,decide_eq_true hty,decide_eq_true hca,decide_eq_false hk0];rfl
      clear HEK hty hca
      go_wp2_with (first | (go_at_call 27;go_fit HNx;rintro e w2 ⟨rfl,hb2⟩;have hB2 :Below wr.heap.size wr w2 :=Ak hbx hb2;have bX2 := (hb2.block _ (lt_of_block bX)).trans bX;have bT2 := (hb2.block _ (lt_of_block bTx)).trans bTx;have x0 :=Aa bX2 (j :=0) rfl;have x1 :=Aa bX2 (j :=1) rfl;have x2 :=Aa bX2 (j :=2) rfl;have x3 :=Aa bT2 (j :=0) rfl;have x4 :=Aa bT2 (j :=1) rfl) | (go_at_call 16;go_fit (HCx _ (hbw.trans (hB2.mono (by omega))));rintro e w3 ⟨rfl,hb3⟩;have hB3 :Below wr.heap.size wr w3 :=Ak hB2 hb3;have bX3 := (hb3.block _ (lt_of_block bX2)).trans bX2;have y2 :=Aa bX3 (j :=2) rfl))
      go_roundw
      case rel=>exact ⟨k+1,by omega,by go_num,by rw [HR0.out,HR.out],hbel.trans (hB3.mono hsz)⟩
      case measure=>simp [intOf];omega
    have hq1 : (xt==1) =false :=by simp [hty1]
    have hq2 : (xt==2) =false :=by simp [hty]
    have HR :Hid (r=false) :=by show _=_;rw [HEK.out];rw [decide_eq_false hty1,decide_eq_false hty];simp
    clear HEK hty hty1
    go_wp2_with (first | (go_at_call 27;go_fit HNx;rintro e w2 ⟨rfl,hb2⟩;have hB2 :Below wr.heap.size wr w2 :=Ak hbx hb2;have bX2 := (hb2.block _ (lt_of_block bX)).trans bX;have bT2 := (hb2.block _ (lt_of_block bTx)).trans bTx;have x0 :=Aa bX2 (j :=0) rfl;have x1 :=Aa bX2 (j :=1) rfl;have x2 :=Aa bX2 (j :=2) rfl;have x3 :=Aa bT2 (j :=0) rfl;have x4 :=Aa bT2 (j :=1) rfl))
    go_roundw
    case rel=>exact ⟨k+1,by omega,by go_num,by rw [HR0.out,HR.out],hbel.trans (hB2.mono hsz)⟩
    case measure=>simp [intOf];omega
   ·have hkn :k=t.cols.length :=by omega
    subst hkn
    have v1 : ¬ ((t.cols.length :Int) < (t.cols.length :Int)) :=by omega
    go_wp2
    go_ret
    exact ⟨Aj (by rw [E.out]),hb1.trans (hbel.mono hb1.size)⟩
end Go.Proofs.YtmgkcjiejmhgcaaGreatDoor

