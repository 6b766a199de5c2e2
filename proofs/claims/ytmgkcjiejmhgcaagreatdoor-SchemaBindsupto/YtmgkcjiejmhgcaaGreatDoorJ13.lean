/-
  6 texts of this proof in one, in build order: YColumn, BApp, Truth, Compare, XMath, KShelf.
-/
import Derived.Maps.AppendAt
import Derived.Laws.AppendOwnNone
import Derived.Test.YtmgkcjiejmhgcaaGreatDoorRows
import Derived.WalkKit
import Derived.WalkSpells
import Derived.WalkLawsBesides
import Derived.Deep.RegionHeld3
import Derived.Shelf.Strings.SlTrimAscii
import Derived.Shelf.Strings.Search3
import Derived.Shelf.LaysM
import Derived.Test.YtmgkcjiejmhgcaaGreatDoorProg
import Derived.Test.YtmgkcjiejmhgcaaGreatDoorJ01
import Derived.Test.YtmgkcjiejmhgcaaGreatDoorJ12
set_option linter.unusedSimpArgs false
set_option linter.unusedVariables false
namespace Go.Proofs.YtmgkcjiejmhgcaaGreatDoor
open Go.RowKit Go.Maps
def FX (C base :Nat) (z :Value) :Nat→Prop :=fun k=>k<C∨FO base z k
def Bl {α :Type} (K :Elem α) (ty :TypeId) (C base :Nat) (z :Value) (A :List α) (w :World) :Prop := ∃cs,w.ownsRow base ty K.size z A.length cs∧All K (FX C base z) w A cs
theorem Ed {α :Type} (K :Elem α) (ty :TypeId) (C base :Nat) (w :World) :Bl K ty C base (.slice none 0 0) [] w := ⟨[],World.ownsRow_nil _ _ _ _,rfl⟩
theorem Xz {C base :Nat} {z :Value} {W w3 :World} (gr :W.grownBy w3 z.ownBlock) (hz : ∀k,z.ownBlock=some k→base≤k) (hC :C≤base) :Keeps (FX C base z) W w3 :=
 ⟨gr.size,fun k hk hl=>gr.block k hl (by
  rcases hk with h | h
  ·intro e
   have :=hz k e.symm
   omega
  ·exact h.2)⟩
theorem Cb {α :Type} {K :Elem α} {ty :TypeId} {C base :Nat} {z z' :Value} {A :List α} {cs c :List Value} {a :α} {W w3 :World} (hC :C≤base) (hz : ∀k,z.ownBlock=some k→base≤k) (own3 :w3.ownsRow base ty K.size z' (A.length+1) (cs++c)) (hall :All K (FX C base z) W A cs) (hR :K.R (FX C base z) W a c) (gr :W.grownBy w3 z.ownBlock) (at3 :z'.ownBlock=z.ownBlock∨z'.ownBlock=some W.heap.size) :
  Bl K ty C base z' (A++ [a]) w3 :=by
 have h1 :All K (fun k=>FX C base z k∧k<W.heap.size) W (A++ [a]) (cs++c) :=All.append (hall.mono fun k hk h=> ⟨h,hk⟩) (All.one (K.mono (fun k hk h=> ⟨h,hk⟩) hR))
 have h2 :=h1.keep ((Xz gr hz hC).mono fun k h=>h.1)
 refine ⟨cs++c,by rw [List.length_append];exact own3,h2.mono fun k _ h=> ?_⟩
 rcases h.1 with h3 | h3
 ·exact .inl h3
 ·exact .inr (Y9 at3 k h.2 h3)
theorem Bl.below {α :Type} {K :Elem α} {ty :TypeId} {C base :Nat} {z :Value} {A :List α} {w w' :World} (h :Bl K ty C base z A w) (hb :Below w.heap.size w w') :Bl K ty C base z A w' :=by
 obtain ⟨cs,h1,h2⟩ :=h
 exact ⟨cs,Az h1 hb,h2.keep (Ar hb)⟩
theorem Bl.isL {α :Type} {K :Elem α} {ty :TypeId} {C base :Nat} {z :Value} {A :List α} {w :World} (h :Bl K ty C base z A w) :IsL K (Fx C base) w z A :=by
 obtain ⟨cs,h1,h2⟩ :=h
 exact ⟨cs,Cu.of_own h1 (fun k hk=> .inr hk),h2.mono fun k _ h=>h.imp id (fun h=>h.1)⟩
theorem Bl.shape {α :Type} {K :Elem α} {ty :TypeId} {C base :Nat} {z :Value} {A :List α} {w :World} (h :Bl K ty C base z A w) : ∃ao c,z= .slice ao A.length c :=h.isL.shape
def Bv (S :List TabD) :List (Wd×Wd) :=S.flatMap fun t=>t.cols.map fun c=> (t.name,c.name)
def Hb (L :List (Wd×Wd)) :List E :=L.zipIdx.map fun p=> .mk 2 zero p.1.1 p.1.2 (p.2 :Int) []
theorem Vs (L :List (Wd×Wd)) (x :Wd×Wd) :Hb (L++ [x]) =Hb L++ [.mk 2 zero x.1 x.2 (L.length :Int) []] :=by
 simp [Hb,List.zipIdx_append]
theorem Sd (L :List (Wd×Wd)) : (Hb L).length=L.length :=by simp [Hb]
def J9 (S :List TabD) :List E :=Hb (Bv S)
theorem Q6 {S :List TabD} {j :Nat} {t :TabD} (h :S[j]? =some t) :Bv (S.take (j+1)) =Bv (S.take j) ++t.cols.map fun c=> (t.name,c.name) :=by
 rw [List.take_add_one,h];simp [Bv]
theorem Ka : ∀ (S :List TabD),(∀t∈S,t.cols.length≤1000000) → (Bv S).length≤S.length*1000000
 | [],_=>by simp [Bv]
 | t ::S,h=>by
  have h1 :=Ka S (fun x hx=>h x (List.mem_cons_of_mem _ hx))
  have h2 :=h t List.mem_cons_self
  simp only [Bv,List.flatMap_cons,List.length_append,List.length_map,List.length_cons] at h1⊢
  omega
theorem Je (S :List TabD) (hS :S.length≤1000) (hsc : ∀t∈S,t.cols.length≤1000000) (j :Nat) : (Bv (S.take j)).length≤1000000000 :=by
 have :=Ka (S.take j) (fun t ht=>hsc t (List.mem_of_mem_take ht))
 have h2 : (S.take j).length≤1000 :=by rw [List.length_take];omega
 omega
set_option maxRecDepth 100000 in
set_option maxHeartbeats 8000000 in
theorem Se (S :List TabD) (hS :S.length≤1000) (hsc : ∀t∈S,t.cols.length≤1000000) (sv :Value) (C :Nat) (w :World) (hl :IsL A4 (fun k=>k<C) w sv S) (_hC :C≤w.heap.size) :
  Calls Tryz.prog 119 #[sv] w fun r w'=> (∃u,r= .returned u∧IsL As (Fr w.heap.size) w' u (J9 S)) ∧Below w.heap.size w w' :=by
 obtain ⟨so,sc,rfl⟩ :=hl.shape
 obtain ⟨i0,hi,hz0,hz1,hz2⟩ :=info_parts Eb
 go_enter Tryz.func119,Tryz.ntmps119
 go_wp2_with fail
 go_loopw [3,10] (fun zv i wr=> ∃j :Nat,j≤S.length∧i= .int .i64 j∧Bl As 34 0 w.heap.size zv (Hb (Bv (S.take j))) wr∧Below w.heap.size w wr) (fun _ i _=>S.length - (intOf i).toNat)
 case atStart=>exact ⟨0,Nat.zero_le _,rfl,Ed _ _ _ _ _,Below.refl _ _⟩
 case round=>
  obtain ⟨j,hj,rfl,hA,hbel⟩ :=hrel
  by_cases hjl :j<S.length
  ·obtain ⟨t,ht⟩ : ∃t,S[j]? =some t := ⟨_,List.getElem?_eq_getElem hjl⟩
   have HP :Hid (Bv (S.take (j+1)) =Bv (S.take j) ++t.cols.map fun c=> (t.name,c.name)) :=Q6 ht
   have htc :=hsc t (List.mem_of_getElem? ht)
   have hPl :=Je S hS hsc j
   obtain ⟨b,off,cs,rfl,hbC,hb,⟨cv,rfl,hcv⟩,hcell⟩ :=Av hl ht
   obtain ⟨co,cc,rfl⟩ :=hcv.shape
   have e0 :=hcell 0 _ rfl
   have e1 :=hcell 1 _ rfl
   simp only [A4,Nat.add_zero] at e0 e1
   have d0 := (hbel.cell (p := ⟨b,off+j*2,none⟩) hb).trans e0
   have d1 := (hbel.cell (p := ⟨b,off+j*2+1,none⟩) hb).trans e1
   have j0 : (0 :Int) ≤ (j :Int) :=by omega
   have j1 : (j :Int) < (S.length :Int) :=by omega
   have hbx :=Aq wr (.cells #[.string t.name, .slice co t.cols.length cc] 47)
   have hT1 :=Ab wr (.cells #[.string t.name, .slice co t.cols.length cc] 47)
   have hA1 :=hA.below hbx
   have hz0' : ∀k,u3.ownBlock=some k→k<wr.heap.size :=by obtain ⟨cs0,hown0,_⟩ :=hA;exact fun k hk=> (hown0.lt k hk).2
   have hbx2 :Below w.heap.size w (wr.alloc (.cells #[.string t.name, .slice co t.cols.length cc] 47)) :=hbel.trans (hbx.mono hbel.size)
   have tt0 :=Aa hT1 (j :=1) rfl
   generalize Bv (S.take j) =P at hA1 HP hPl
   clear hcell ht hA
   go_wp2_with fail
   generalize hpb :wr.heap.size=pb at*
   go_loopw [3,17] (fun zv i wi=> ∃m :Nat,m≤t.cols.length∧i= .int .i64 m∧Bl As 34 0 w.heap.size zv (Hb (P++ (t.cols.take m).map fun c=> (t.name,c.name))) wi∧wi.heap[pb]? =some (.cells #[.string t.name, .slice co t.cols.length cc] 47) ∧zv.ownBlock≠some pb∧Below w.heap.size w wi) (fun _ i _=>t.cols.length - (intOf i).toNat)
   case atStart=>exact ⟨0,Nat.zero_le _,rfl,by simpa using hA1,hT1,fun e=>by have :=hz0' _ e;omega,hbx2⟩
   case round=>
    obtain ⟨m,hm,rfl,hA2,hT2,hne,hbi⟩ :=hrel
    clear hA1 hT1 tt0 hbx2 hbx d0 d1 e0 e1 hbel
    have hlt2 :=lt_of_block hT2
    by_cases hml :m<t.cols.length
    ·obtain ⟨cd,hcd⟩ : ∃a,t.cols[m]? =some a := ⟨_,List.getElem?_eq_getElem hml⟩
     have HT :Hid (Hb (P++ (t.cols.take (m+1)).map fun c=> (t.name,c.name)) =Hb (P++ (t.cols.take m).map fun c=> (t.name,c.name)) ++ [.mk 2 zero t.name cd.name ((P.length+m :Nat) :Int) []]) :=by
      show _=_
      rw [List.take_add_one,hcd]
      simp only [Option.toList_some,List.map_append,List.map_cons,List.map_nil,←List.append_assoc,Vs]
      rw [List.length_append,List.length_map,List.length_take,Nat.min_eq_left hm]
     have HN :Hid ((Hb (P++ (t.cols.take m).map fun c=> (t.name,c.name))).length=P.length+m) :=by
      show _=_
      rw [Sd,List.length_append,List.length_map,List.length_take,Nat.min_eq_left hm]
     generalize Hb (P++ (t.cols.take m).map fun c=> (t.name,c.name)) =A at hA2 HT HN
     obtain ⟨zo,zc,hzv⟩ :=hA2.shape
     obtain ⟨cs2,hown2,hall2⟩ :=hA2
     rw [HN.out] at hzv hown2
     have hn64 :P.length+m≤1001000000 :=by omega
     generalize P.length+m=n at*
     subst hzv
     obtain ⟨cb,cof,ccs,rfl,hcbC,hcb,hcR,hccell⟩ :=Av hcv hcd
     obtain rfl :=hcR
     have f0 :=hccell 0 _ rfl
     have f1 :=hccell 1 _ rfl
     have f2 :=hccell 2 _ rfl
     simp only [Bg,Nat.add_zero] at f0 f1 f2
     have g0 := (hbi.cell (p := ⟨cb,cof+m*3,none⟩) hcb).trans f0
     have g1 := (hbi.cell (p := ⟨cb,cof+m*3+1,none⟩) hcb).trans f1
     have g2 := (hbi.cell (p := ⟨cb,cof+m*3+2,none⟩) hcb).trans f2
     have m0 : (0 :Int) ≤ (m :Int) :=by omega
     have m1 : (m :Int) < (t.cols.length :Int) :=by omega
     have hbc :=Aq wr (.cells #[.string cd.name, .int .i64 cd.ty, .bool cd.must] 66)
     have t0 :=Aa ((hbc.block _ hlt2).trans hT2) (j :=0) rfl
     have hB3 :Below wr.heap.size wr ((wr.alloc (.cells #[.string cd.name, .int .i64 cd.ty, .bool cd.must] 66)).alloc (.cells [.int .i64 2, .int .i64 0, .int .i64 0, .string ⟨#[]⟩, .string t.name, .string cd.name, .int .i64 (n :Int), .slice none 0 0].toArray 34)) :=Bz _ _ _
     have hown3 :=Az hown2 hB3
     have hall3 :=hall2.keep (Ar hB3)
     have hnew :=Cp (wr.alloc (.cells #[.string cd.name, .int .i64 cd.ty, .bool cd.must] 66)) [.int .i64 2, .int .i64 0, .int .i64 0, .string ⟨#[]⟩, .string t.name, .string cd.name, .int .i64 (n :Int), .slice none 0 0] 34
     have hbase :w.heap.size≤ ((wr.alloc (.cells #[.string cd.name, .int .i64 cd.ty, .bool cd.must] 66)).alloc (.cells [.int .i64 2, .int .i64 0, .int .i64 0, .string ⟨#[]⟩, .string t.name, .string cd.name, .int .i64 (n :Int), .slice none 0 0].toArray 34)).heap.size :=Nat.le_trans hbi.size hB3.size
     have hT3 := (hB3.block _ hlt2).trans hT2
     clear f0 f1 f2 hccell hcd hcv
     go_wp2_with (first | (at_builtin;go_must (refine wpList_append_own_at _ rfl _ _ 30 rfl w.heap.size 34 i0 _ 8 104 Tryz.underlying30 hi hz0 hz1 hz2 rfl (by decide) _ _ _ rfl hown3 ⟨wr.heap.size+1,0,none⟩ 1 1 [.int .i64 2, .int .i64 0, .int .i64 0, .string ⟨#[]⟩, .string t.name, .string cd.name, .int .i64 (n :Int), .slice none 0 0] rfl rfl ?h0 ?h1 (by simp only [maxLen];omega) (by omega) hbase ?h2)))
     case h0=>simpa using hnew
     case h1=>simp only [List.forall_mem_cons];repeat (first | exact fun _ h=>absurd h List.not_mem_nil | refine ⟨rfl, ?_⟩)
     case h2=>
      intro z2 w4 hown4 hg4 _ hat
      have hat' :z2.ownBlock= (Value.slice zo n zc).ownBlock∨z2.ownBlock=some ((wr.alloc (.cells #[.string cd.name, .int .i64 cd.ty, .bool cd.must] 66)).alloc (.cells [.int .i64 2, .int .i64 0, .int .i64 0, .string ⟨#[]⟩, .string t.name, .string cd.name, .int .i64 (n :Int), .slice none 0 0].toArray 34)).heap.size :=by simpa using hat
      have hst :=Cb (K :=As) (ty :=34) (a := .mk 2 zero t.name cd.name (n :Int) []) (Nat.zero_le _) (fun k hk=> (hown2.lt k hk).1) (by rw [HN.out];exact hown4) hall3 ⟨rfl,Dn (op :=2) (x :=zero) (s :=t.name) (name :=cd.name) (n := (n :Int)) (ao :=none) (c :=0) fun _=>rfl⟩ hg4 hat'
      have hbb :Below w.heap.size w w4 := (hbi.trans (hB3.mono hbi.size)).grown hg4 hbase fun k hk=> (hown2.lt k hk).1
      have hT4 :=Bf hg4 hT3 (fun e=>hne e.symm)
      have hne4 :z2.ownBlock≠some pb :=by
       rcases hat' with h | h
       ·rw [h];exact hne
       ·rw [h];intro e;have :=Option.some.inj e;have :=hB3.size;omega
      go_wp2_with fail
      go_roundw
      case rel=>exact ⟨m+1,by omega,by go_num,by rw [HT.out];exact hst,hT4,hne4,hbb⟩
      case measure=>simp [intOf];omega
    ·have hml2 :m=t.cols.length :=by omega
     subst hml2
     rw [List.take_length] at hA2
     have hA3 :Bl As 34 0 w.heap.size u3 (Hb (Bv (S.take (j+1)))) wr :=by rw [HP.out];exact hA2
     go_wp2_with fail
     go_roundw
     case rel=>exact ⟨j+1,by omega,by go_num,hA3,hbi⟩
     case measure=>simp [intOf];omega
  ·have hjl2 :j=S.length :=by omega
   subst hjl2
   have hA2 :=hA.isL
   rw [List.take_length] at hA2
   go_wp2_with fail
   go_ret
   exact ⟨⟨_,rfl,hA2.mono (fun k _ hk=>by rcases hk with h | h;exact absurd h (Nat.not_lt_zero _);exact h)⟩,hbel⟩
def Hc (S :List TabD) (l :List E) :Except Int (List E) :=if l.length=0 then .ok (J9 S) else Ej S l
set_option maxRecDepth 100000 in
set_option maxHeartbeats 4000000 in
theorem Sf (S :List TabD) (hS :S.length≤1000) (hsc : ∀t∈S,t.cols.length≤1000000) (d :Nat) (l :List E) (lv sv :Value) (C :Nat) (w :World) (he :IsL As (fun k=>k<C) w lv l) (hl :IsL A4 (fun k=>k<C) w sv S) (hC :C≤w.heap.size) (hg : ∀a∈l,geB d a=true) (hn :l.length≤1000000000) :
  Calls Tryz.prog 100 #[sv,lv] w fun r w'=> (∃u,r= .returned u∧Ha As (Hc S l) (Fr w.heap.size) w' u) ∧Below w.heap.size w w' :=by
 have HC :=Se S hS hsc sv C w hl hC
 have HL :=Mq S hS hsc d l lv sv C w he hl hC hg hn
 obtain ⟨so,sc,rfl⟩ :=hl.shape
 obtain ⟨ao,c,rfl⟩ :=he.shape
 clear he hl hg hS hsc
 by_cases h0 :l.length=0
 ·have HE :Hid (Hc S l= .ok (J9 S)) :=if_pos h0
  rw [h0]
  have HC2 :=HC.mono (R' :=fun r w'=> ∃ (ao :Option Addr) (k c :Nat),r= .returned (.slice ao k c) ∧IsL As (Fr w.heap.size) w' (.slice ao k c) (J9 S) ∧Below w.heap.size w w') (by
   rintro r w' ⟨⟨u,rfl,hu⟩,hb⟩
   obtain ⟨ao,c,rfl⟩ :=hu.shape
   exact ⟨ao,_,c,rfl,hu,hb⟩)
  clear HC HL
  go_enter Tryz.func100,Tryz.ntmps100
  go_wp2_with (go_at_call 119;refine HC2.mono ?_;rintro r w1 ⟨ao2,k2,c2,rfl,hL2,hb1⟩)
  go_ret2
  refine ⟨⟨_,rfl, ?_⟩,hb1⟩
  rw [HE.out]
  exact ⟨_,_,_,rfl,hL2⟩
 ·have HE :Hid (Hc S l=Ej S l) :=if_neg h0
  have e0 : ((l.length :Int) ==0) =false :=by rw [beq_eq_false_iff_ne];omega
  have HL2 :=HL.mono (R' :=fun r w'=> ∃ (ao :Option Addr) (k c :Nat) (z :Int),r= .returned (.tuple #[.slice ao k c, .int .i64 z]) ∧Ha As (Ej S l) (Fr w.heap.size) w' (.tuple #[.slice ao k c, .int .i64 z]) ∧Below w.heap.size w w') (by
   rintro r w' ⟨⟨u,rfl,hu⟩,hb⟩
   cases hr :Ej S l with
   | error m=>
    rw [hr] at hu
    obtain rfl :=hu
    exact ⟨none,0,0,m,rfl,rfl,hb⟩
   | ok l2=>
    rw [hr] at hu
    have hu2 :=hu
    obtain ⟨ao,k,c,rfl,_⟩ :=hu
    exact ⟨ao,k,c,0,rfl,hu2,hb⟩)
  clear HC HL
  generalize Ej S l=R at HE HL2
  go_enter Tryz.func100,Tryz.ntmps100
  go_wp2_with (go_at_call 101;refine HL2.mono ?_;rintro r w1 ⟨ao2,k2,c2,z,rfl,hL2,hb1⟩)
  go_ret2
  refine ⟨⟨_,rfl, ?_⟩,hb1⟩
  rw [HE.out]
  exact hL2
end Go.Proofs.YtmgkcjiejmhgcaaGreatDoor

namespace Go.Proofs.YtmgkcjiejmhgcaaGreatDoor
open Go.RowKit Go.Maps
theorem Ny (w :World) (b :Option Nat) :w.grownBy w b := ⟨rfl,rfl,rfl,Nat.le_refl _,fun _ _ _=>rfl⟩
theorem Oy {α :Type} {K :Elem α} {F :Nat→Prop} {w :World} : ∀ {l :List α} {cs :List Value},All K F w l cs→ (∀x c,K.R F w x c→ ∀u∈c,u.oneCell'=true) → ∀u∈cs,u.oneCell'=true
 | [],cs,h,_,u,hu=>by have :cs= [] :=h;subst this;cases hu
 | a ::l,cs,h,h1,u,hu=>by
  obtain ⟨c,rest,rfl,h2,h3⟩ :=h
  rcases List.mem_append.1 hu with h4 | h4
  ·exact h1 a c h2 u h4
  ·exact Oy h3 h1 u h4
section
variable {P :Program} {w :World} {ops :Array Oper} {rest :List Oper} {o :Oper} {a :Act} {Q :Exit→Act→World→Prop} {α :Type} {K :Elem α} {F :Nat→Prop} {l :List α} {xv :Value} {K2 :Act→World→Prop} {X :Prop}
theorem Pa (hr : ∃cs,Cu F K.size w xv l.length cs∧All K F w l cs) : ∃cs,All K F w l cs∧ ((xv= .slice none 0 0∧l= [] ∧cs= []) ∨ ∃ad cap,xv= .slice (some ad) l.length cap∧ ∀j u,cs[j]? =some u→w.cell? (ad.add j) =some u) :=by
 obtain ⟨cs,hr,ha⟩ :=hr
 refine ⟨cs,ha, ?_⟩
 rcases hr.2 with ⟨h0,ao,cap,hsv,hc⟩ | ⟨_,b,off,cap,hsv,_,_,_,_,hcell⟩
 ·have hl0 :l= [] :=List.eq_nil_of_length_eq_zero h0
  subst hl0
  have hcs :cs= [] :=ha
  cases ao with
  | none=>exact .inl ⟨by rw [hsv,hc rfl],rfl,hcs⟩
  | some ad=>exact .inr ⟨ad,cap,hsv,fun j u hj=>by rw [hcs] at hj;simp at hj⟩
 ·exact .inr ⟨_,cap,hsv,fun j u hj=>by rw [Addr.add_lit];exact hcell j u hj⟩
theorem By (hgd :o.guard=none) (s x :Operand) (t :TypeId)
  (ho :o.op= .call {callee := .builtin .append,args := #[s,x],argTypes := #[t,t]})
  (base :Nat) (e :TypeId) (i :TypeInfo) (z :Value) (bytes :Nat) (ht :P.underlying t=some (.slice e)) (hi :P.info? e=some i) (hz :i.zero=some z)
  (hsize :i.size=K.size) (hby :i.bytes=bytes) (hzs :z.cells.size=K.size) (hsz :0<K.size)
  (v :Value) (n :Nat) (xs :List Value) (hs :a.eval s=v) (hown :w.ownsRow base e K.size v n xs)
  (hx :a.eval x=xv) (hl :IsL K F w xv l) (h1 : ∀x c,K.R F w x c→ ∀u∈c,u.oneCell'=true)
  (h63 :n+l.length≤maxLen) (hbytes : (n+l.length) *bytes≤140737488355328) (hbase :base≤w.heap.size)
  (h : ∀v' w' cs,w'.ownsRow base e K.size v' (n+l.length) (xs++cs) →All K F w l cs→w.grownBy w' v.ownBlock→ (v'.ownBlock=v.ownBlock∨v'.ownBlock=some w.heap.size) →wpList P ops Q rest (a.put o.dst v') w') :
  wpList P ops Q (o ::rest) a w :=by
 obtain ⟨cs,ha,key⟩ :=Pa hl
 rcases key with ⟨e1,rfl,rfl⟩ | ⟨ad,cap,e1,hc⟩
 ·exact wpList_append_own_none hgd s x t ho base e i K.size ht hi v n xs hs hown (hx.trans e1) (h v w [] (by rw [List.append_nil];exact hown) rfl (Ny _ _) (.inl rfl))
 ·exact wpList_append_own_at w hgd s x t ho base e i z K.size bytes ht hi hz hsize hby hzs hsz v n xs hs hown ad l.length cap cs (hx.trans e1) ha.length hc (Oy ha h1) h63 hbytes hbase fun v' w' g1 g2 _ g4=>h v' w' cs g1 ha g2 g4
theorem Dz (hgd :o.guard=none) (s x :Operand) (t :TypeId)
  (ho :o.op= .call {callee := .builtin .append,args := #[s,x],argTypes := #[t,t]})
  (base :Nat) (e :TypeId) (i :TypeInfo) (z :Value) (bytes :Nat) (ht :P.underlying t=some (.slice e)) (hi :P.info? e=some i) (hz :i.zero=some z)
  (hsize :i.size=K.size) (hby :i.bytes=bytes) (hzs :z.cells.size=K.size) (hsz :0<K.size)
  (v :Value) (n :Nat) (xs :List Value) (hs :a.eval s=v) (hown :w.ownsRow base e K.size v n xs)
  (hx :a.eval x=xv) (hl :IsL K F w xv l) (h1 : ∀x c,K.R F w x c→ ∀u∈c,u.oneCell'=true)
  (h63 :n+l.length≤maxLen) (hbytes : (n+l.length) *bytes≤140737488355328) (hbase :base≤w.heap.size)
  (h : ∀v' w' cs,w'.ownsRow base e K.size v' (n+l.length) (xs++cs) →All K F w l cs→w.grownBy w' v.ownBlock→ (v'.ownBlock=v.ownBlock∨v'.ownBlock=some w.heap.size) →K2 (a.put o.dst v') w') :
  if Region.wanted o (yielded ops a.tmps) =true then Oper.wp P o a w K2 Q else X :=by
 obtain ⟨cs,ha,key⟩ :=Pa hl
 rw [if_pos (by simp [Region.wanted,hgd])]
 rcases key with ⟨e1,rfl,rfl⟩ | ⟨ad,cap,e1,hc⟩
 ·have hrun :=run_append_owned_none (P :=P) (w :=w) base t o.type e i K.size ht hi v n xs hown
  unfold Oper.wp
  simp [execOp,ho,resolve,invoke,builtin,hs,hx.trans e1,hrun,Result.andThen]
  exact h v w [] (by rw [List.append_nil];exact hown) rfl (Ny _ _) (.inl rfl)
 ·obtain ⟨v',w',hr,h2,h3,h4,h5⟩ :=run_append_own_at (P :=P) w base t o.type e i z K.size bytes ht hi hz hsize hby hzs hsz v n xs hown ad l.length cap cs ha.length hc (Oy ha h1) h63 hbytes hbase
  unfold Oper.wp execOp
  simp only [ho,resolve,invoke,builtin,Sem.run_bind,Sem.run_pure,Result.andThen_ok,List.map_toArray,List.map_cons,List.map_nil,hs,hx.trans e1,hr]
  exact h v' w' cs h2 ha h3 h5
end
end Go.Proofs.YtmgkcjiejmhgcaaGreatDoor

namespace Go.Proofs.YtmgkcjiejmhgcaaGreatDoor
open Go.RowKit
def Abk (a b :Int) :Int :=if a=0∨b=0 then 0 else if a=1∧b=1 then 1 else 2
def tOr (a b :Int) :Int :=if a=1∨b=1 then 1 else if a=0∧b=0 then 0 else 2
def Abl (a :Int) :Int :=if a=0 then 1 else if a=1 then 0 else 2
end Go.Proofs.YtmgkcjiejmhgcaaGreatDoor

namespace Go.Proofs.YtmgkcjiejmhgcaaGreatDoor
open Go.RowKit
def Aal (a b :Int) :Int :=if a<b then -1 else if b<a then 1 else 0
def Fg (a b :ByteArray) :Int :=if Op.bytesLess a.toList b.toList then -1 else if a.toList==b.toList then 0 else 1
def or3 (x y z :Int) :Int :=if x=0 then if y=0 then z else y else x
def Aam (a b :V) :Int :=or3 (Aal a.k b.k) (Aal a.n b.n) (Fg a.s b.s)
set_option maxHeartbeats 400000 in
theorem Nz (a b :ByteArray) (w :World) :Calls Tryz.prog 79 #[.string a, .string b] w fun e w'=>e= .returned (.int .i64 (Fg a b)) ∧w'=w :=by
 cases h :Op.bytesLess a.toList b.toList<;>cases h2 :a.toList==b.toList
 all_goals
  have E :Hid (Fg a b= (if Op.bytesLess a.toList b.toList then -1 else if a.toList==b.toList then 0 else 1)) :=rfl
  go_enter Tryz.func79,Tryz.ntmps79
  go_wp2
  go_ret
  exact ⟨A6 (by rw [E.out,h,h2];rfl),rfl⟩
end Go.Proofs.YtmgkcjiejmhgcaaGreatDoor

namespace Go.Proofs.YtmgkcjiejmhgcaaGreatDoor
def Aan (op :Int) :Nat :=if op=9∨op=10 then 1 else if 3≤op∧op≤8 then 2 else 0
def Aao (op :Int) (l :List E) :List E :=if l.length=Aan op then l else []
def E.kids :E→List E
 | .mk op _ _ _ _ l=>Aao op l
def ofV (v :V) :Int :=if v.k=3 then v.n %2 else 2
def Q7 (n :Int) :V :=if n=0∨n=1 then ⟨3,n,noW⟩ else zero
def whV (b :Bool) :V := ⟨3,if b then 1 else 0,noW⟩
def Aap (n :Int) :V :=if Ey ⟨1,n,noW⟩ then ⟨1,n,noW⟩ else zero
def Abm (row :List V) (n :Int) :V :=if 0≤n then (row[n.toNat]?).getD zero else zero
def Aa9 (op :Int) (x :V) (n :Int) (row :List V) :V :=if op=1 then x else if op=2 then Abm row n else zero
def Abn (op :Int) (a :V) :V :=if op=9 then Q7 (Abl (ofV a)) else if op=10 then whV (decide (a.k=0)) else zero
def Vt (v :V) :Bool := !decide (v.k=0) &&Ey v
def knV (op :Int) (a b :V) :V :=
 if op=5 then whV (decide (Aam a b=0)) else if op=6 then whV (decide (Aam a b<0)) else if a.k=1 then (if op=3 then Aap (a.n+b.n) else if op=4 then Aap (a.n - b.n) else zero) else zero
def Abo (op :Int) (a b :V) :V :=
 if op=7 then Q7 (Abk (ofV a) (ofV b)) else if op=8 then Q7 (tOr (ofV a) (ofV b)) else if Vt a=true∧Vt b=true∧a.k=b.k then knV op a b else zero
def Abp (op :Int) (x :V) (n :Int) (cs row :List V) :V :=
 match cs with
 | [a] =>Abn op a
 | [a,b] =>Abo op a b
 | _=>Aa9 op x n row
mutual
def ev (row :List V) :E→V
 | .mk op x _ _ n l=>Abp op x n (if l.length=Aan op then evs row l else []) row
def evs (row :List V) :List E→List V
 | [] => []
 | e ::l=>ev row e ::evs row l
end
mutual
def E.nodes :E→Nat
 | .mk _ _ _ _ _ l=>Bs l+1
def Bs :List E→Nat
 | [] =>0
 | e ::l=>e.nodes+Bs l
end
theorem Kr : ∀a b :List E,Bs (a++b) =Bs a+Bs b
 | [],b=>by simp [Bs]
 | e ::a,b=>by simp [Bs,Kr a b];omega
theorem Vu (e :E) :0<e.nodes :=by cases e;simp [E.nodes]
theorem Kb : ∀l :List E,l.length≤Bs l
 | [] =>by simp [Bs]
 | e ::l=>by have :=Kb l;have :=Vu e;simp [Bs];omega
structure Queue (e :E) (L :List E) (i :Nat) :Prop where
 eq :L=e :: (L.take i).flatMap E.kids
 le :i≤L.length
 few :i+Bs (L.drop i) ≤e.nodes
 ahead : ∀j,j<i→j<1+ ((L.take j).flatMap E.kids).length
 all : ∀P :E→Prop,P e→ (∀y,P y→ ∀z∈y.kids,P z) → ∀x∈L,P x
theorem Queue.len {e :E} {L :List E} {i :Nat} (h :Queue e L i) :L.length≤e.nodes :=by
 have :=Kb (L.drop i)
 have :=h.few
 rw [List.length_drop] at*
 omega
def beg (L :List E) (i :Nat) :Nat :=1+ ((L.take i).flatMap E.kids).length
theorem Queue.whole {e :E} {L :List E} (h :Queue e L L.length) :beg L L.length=L.length :=by
 unfold beg
 conv=>rhs;rw [h.eq]
 simp;omega
theorem Queue.own {e :E} {L :List E} (h :Queue e L L.length) {i :Nat} {x :E} (hx :L[i]? =some x) : (L.drop (beg L i)).take x.kids.length=x.kids :=by
 have hi :i<L.length :=by rw [List.getElem?_eq_some_iff] at hx;exact hx.1
 have hL :=h.eq
 rw [List.take_length] at hL
 have hd :L.drop i=x ::L.drop (i+1) :=by
  rw [List.drop_eq_getElem_cons hi]
  rw [List.getElem?_eq_getElem hi] at hx
  simp at hx
  rw [hx]
 have hsplit :L.flatMap E.kids= (L.take i).flatMap E.kids++ (x.kids++ (L.drop (i+1)).flatMap E.kids) :=by
  conv=>lhs;rw [←List.take_append_drop i L,hd]
  simp
 conv=>lhs;rw [hL]
 rw [show beg (e ::L.flatMap E.kids) i= ((L.take i).flatMap E.kids).length+1 from by
  unfold beg
  rw [←hL];omega]
 rw [List.drop_succ_cons,hsplit,List.drop_left,List.take_left]
theorem Queue.behind {e :E} {L :List E} (h :Queue e L L.length) {i :Nat} (hi :i<L.length) :i<beg L i :=h.ahead i hi
theorem Queue.at {e :E} {L :List E} (h :Queue e L L.length) {i :Nat} {x :E} (hx :L[i]? =some x) {j :Nat} {y :E} (hy :x.kids[j]? =some y) :L[beg L i+j]? =some y :=by
 rw [←h.own hx,List.getElem?_take] at hy
 split at hy
 ·rwa [List.getElem?_drop] at hy
 ·cases hy
theorem Queue.first {e :E} {L :List E} {i :Nat} (h :Queue e L i) :L[0]? =some e :=by rw [h.eq];rfl
end Go.Proofs.YtmgkcjiejmhgcaaGreatDoor

namespace Go.Proofs
open Go.Shelf
def Tryz.lays160_ren :Go.Shelf.Ren := ⟨fun | 160=>61 | 232=>103 | 231=>102 | 227=>104 | 234=>106 | 233=>105 | 236=>108 | 235=>107 | 228=>121 | 271=>124 | 151=>123 | 197=>122 | 120=>135 | 152=>134 | 260=>133 | 137=>146 | 119=>147 | 224=>138 | 225=>137 | 217=>136 | 266=>148 | n=>n,fun | 9=>9 | 4=>4 | 3=>3 | 5=>5 | 117=>137 | 116=>136 | 0=>0 | 124=>140 | 21=>21 | 105=>151 | 46=>142 | 119=>162 | 139=>165 | 138=>164 | n=>n,fun | 3=>1 | 4=>2 | n=>n⟩
theorem Tryz.lays160 :Go.Proofs.Lays.n160 Tryz.prog Tryz.lays160_ren := {
 mixed :=by kernel_rfl
 f119 :=Tryz.func147.trans (congrArg some (by kernel_rfl))
 f120 :=Tryz.func135.trans (congrArg some (by kernel_rfl))
 f137 :=Tryz.func146.trans (congrArg some (by kernel_rfl))
 f151 :=Tryz.func123.trans (congrArg some (by kernel_rfl))
 f152 :=Tryz.func134.trans (congrArg some (by kernel_rfl))
 f160 :=Tryz.func61.trans (congrArg some (by kernel_rfl))
 f197 :=Tryz.func122.trans (congrArg some (by kernel_rfl))
 f217 :=Tryz.func136.trans (congrArg some (by kernel_rfl))
 f224 :=Tryz.func138.trans (congrArg some (by kernel_rfl))
 f225 :=Tryz.func137.trans (congrArg some (by kernel_rfl))
 f227 :=Tryz.func104.trans (congrArg some (by kernel_rfl))
 f228 :=Tryz.func121.trans (congrArg some (by kernel_rfl))
 f231 :=Tryz.func102.trans (congrArg some (by kernel_rfl))
 f232 :=Tryz.func103.trans (congrArg some (by kernel_rfl))
 f233 :=Tryz.func105.trans (congrArg some (by kernel_rfl))
 f234 :=Tryz.func106.trans (congrArg some (by kernel_rfl))
 f235 :=Tryz.func107.trans (congrArg some (by kernel_rfl))
 f236 :=Tryz.func108.trans (congrArg some (by kernel_rfl))
 f260 :=Tryz.func133.trans (congrArg some (by kernel_rfl))
 f266 :=Tryz.func148.trans (congrArg some (by kernel_rfl))
 f271 :=Tryz.func124.trans (congrArg some (by kernel_rfl))
 t0 :=Tryz.underlying0
 a0 :=Tryz.isAgg0
 z0 :=Tryz.sizeOf0
 v0 :=Tryz.zeroValue0
 t3 :=Tryz.underlying3
 a3 :=Tryz.isAgg3
 z3 :=Tryz.sizeOf3
 v3 :=Tryz.zeroValue3
 t4 :=Tryz.underlying4
 a4 :=Tryz.isAgg4
 z4 :=Tryz.sizeOf4
 v4 :=Tryz.zeroValue4
 t5 :=Tryz.underlying5
 a5 :=Tryz.isAgg5
 z5 :=Tryz.sizeOf5
 v5 :=Tryz.zeroValue5
 t9 :=Tryz.underlying9
 a9 :=Tryz.isAgg9
 z9 :=Tryz.sizeOf9
 v9 :=Tryz.zeroValue9
 t21 :=Tryz.underlying21
 a21 :=Tryz.isAgg21
 z21 :=Tryz.sizeOf21
 v21 :=Tryz.zeroValue21
 t46 :=Tryz.underlying142
 a46 :=Tryz.isAgg142
 z46 :=Tryz.sizeOf142
 v46 :=Tryz.zeroValue142
 t105 :=Tryz.underlying151
 a105 :=Tryz.isAgg151
 z105 :=Tryz.sizeOf151
 v105 :=Tryz.zeroValue151
 t116 :=Tryz.underlying136
 a116 :=Tryz.isAgg136
 z116 :=Tryz.sizeOf136
 t117 :=Tryz.underlying137
 a117 :=Tryz.isAgg137
 z117 :=Tryz.sizeOf137
 v117 :=Tryz.zeroValue137
 t119 :=Tryz.underlying162
 a119 :=Tryz.isAgg162
 z119 :=Tryz.sizeOf162
 t124 :=Tryz.underlying140
 a124 :=Tryz.isAgg140
 z124 :=Tryz.sizeOf140
 v124 :=Tryz.zeroValue140
 t138 :=Tryz.underlying164
 a138 :=Tryz.isAgg164
 z138 :=Tryz.sizeOf164
 v138 :=Tryz.zeroValue164
 t139 :=Tryz.underlying165
 a139 :=Tryz.isAgg165
 z139 :=Tryz.sizeOf165
 v139 :=Tryz.zeroValue165
 g3 :=by kernel_rfl
 g4 :=by kernel_rfl}
def Tryz.lays144_ren :Go.Shelf.Ren := ⟨fun | 144=>62 | 143=>109 | 219=>125 | 217=>136 | 225=>137 | 224=>138 | 267=>139 | 266=>148 | 314=>149 | n=>n,fun | 9=>9 | 4=>4 | 3=>3 | 5=>5 | 46=>142 | 146=>168 | 51=>167 | n=>n,fun | 1=>0 | n=>n⟩
theorem Tryz.lays144 :Go.Proofs.Lays.n144 Tryz.prog Tryz.lays144_ren := {
 mixed :=by kernel_rfl
 f143 :=Tryz.func109.trans (congrArg some (by kernel_rfl))
 f144 :=Tryz.func62.trans (congrArg some (by kernel_rfl))
 f217 :=Tryz.func136.trans (congrArg some (by kernel_rfl))
 f219 :=Tryz.func125.trans (congrArg some (by kernel_rfl))
 f224 :=Tryz.func138.trans (congrArg some (by kernel_rfl))
 f225 :=Tryz.func137.trans (congrArg some (by kernel_rfl))
 f266 :=Tryz.func148.trans (congrArg some (by kernel_rfl))
 f267 :=Tryz.func139.trans (congrArg some (by kernel_rfl))
 f314 :=Tryz.func149.trans (congrArg some (by kernel_rfl))
 t3 :=Tryz.underlying3
 a3 :=Tryz.isAgg3
 z3 :=Tryz.sizeOf3
 v3 :=Tryz.zeroValue3
 t4 :=Tryz.underlying4
 a4 :=Tryz.isAgg4
 z4 :=Tryz.sizeOf4
 v4 :=Tryz.zeroValue4
 t5 :=Tryz.underlying5
 a5 :=Tryz.isAgg5
 z5 :=Tryz.sizeOf5
 v5 :=Tryz.zeroValue5
 t9 :=Tryz.underlying9
 a9 :=Tryz.isAgg9
 z9 :=Tryz.sizeOf9
 v9 :=Tryz.zeroValue9
 t46 :=Tryz.underlying142
 a46 :=Tryz.isAgg142
 z46 :=Tryz.sizeOf142
 v46 :=Tryz.zeroValue142
 t51 :=Tryz.underlying167
 a51 :=Tryz.isAgg167
 z51 :=Tryz.sizeOf167
 v51 :=Tryz.zeroValue167
 t146 :=Tryz.underlying168
 a146 :=Tryz.isAgg168
 z146 :=Tryz.sizeOf168
 v146 :=Tryz.zeroValue168
 g1 :=by kernel_rfl}
end Go.Proofs

