/-
  3 texts of this proof in one, in build order: YColumn, YScope, YMay.
-/
import Derived.Maps.AppendAt
import Derived.Test.YthehiijgnepcfaaGreatJ22
set_option linter.unusedSimpArgs false
set_option linter.unusedVariables false
namespace Go.Proofs.YthehiijgnepcfaaGreat
open Go.RowKit Go.Maps
def FX (C base :Nat) (z :Value) :Nat→Prop :=fun k=>k<C∨FO base z k
def Gb {α :Type} (K :Elem α) (ty :TypeId) (C base :Nat) (z :Value) (A :List α) (w :World) :Prop := ∃cs,w.ownsRow base ty K.size z A.length cs∧All K (FX C base z) w A cs
theorem R7 {α :Type} (K :Elem α) (ty :TypeId) (C base :Nat) (w :World) :Gb K ty C base (.slice none 0 0) [] w := ⟨[],World.ownsRow_nil _ _ _ _,rfl⟩
theorem Ae3 {C base :Nat} {z :Value} {W w3 :World} (gr :W.grownBy w3 z.ownBlock) (hz : ∀k,z.ownBlock=some k→base≤k) (hC :C≤base) :Keeps (FX C base z) W w3 :=
 ⟨gr.size,fun k hk hl=>gr.block k hl (by
  rcases hk with h | h
  ·intro e
   have :=hz k e.symm
   omega
  ·exact h.2)⟩
theorem Pw {α :Type} {K :Elem α} {ty :TypeId} {C base :Nat} {z z' :Value} {A :List α} {cs c :List Value} {a :α} {W w3 :World} (hC :C≤base) (hz : ∀k,z.ownBlock=some k→base≤k) (own3 :w3.ownsRow base ty K.size z' (A.length+1) (cs++c)) (hall :All K (FX C base z) W A cs) (hR :K.R (FX C base z) W a c) (gr :W.grownBy w3 z.ownBlock) (at3 :z'.ownBlock=z.ownBlock∨z'.ownBlock=some W.heap.size) :
  Gb K ty C base z' (A++ [a]) w3 :=by
 have h1 :All K (fun k=>FX C base z k∧k<W.heap.size) W (A++ [a]) (cs++c) :=All.append (hall.mono fun k hk h=> ⟨h,hk⟩) (All.one (K.mono (fun k hk h=> ⟨h,hk⟩) hR))
 have h2 :=h1.keep ((Ae3 gr hz hC).mono fun k h=>h.1)
 refine ⟨cs++c,by rw [List.length_append];exact own3,h2.mono fun k _ h=> ?_⟩
 rcases h.1 with h3 | h3
 ·exact .inl h3
 ·exact .inr (Y3 at3 k h.2 h3)
theorem Gb.below {α :Type} {K :Elem α} {ty :TypeId} {C base :Nat} {z :Value} {A :List α} {w w' :World} (h :Gb K ty C base z A w) (hb :Below w.heap.size w w') :Gb K ty C base z A w' :=by
 obtain ⟨cs,h1,h2⟩ :=h
 exact ⟨cs,Ar h1 hb,h2.keep (Bd hb)⟩
theorem Gb.isL {α :Type} {K :Elem α} {ty :TypeId} {C base :Nat} {z :Value} {A :List α} {w :World} (h :Gb K ty C base z A w) :IsL K (Fx C base) w z A :=by
 obtain ⟨cs,h1,h2⟩ :=h
 exact ⟨cs,Fm.of_own h1 (fun k hk=> .inr hk),h2.mono fun k _ h=>h.imp id (fun h=>h.1)⟩
theorem Gb.shape {α :Type} {K :Elem α} {ty :TypeId} {C base :Nat} {z :Value} {A :List α} {w :World} (h :Gb K ty C base z A w) : ∃ao c,z= .slice ao A.length c :=h.isL.shape
def Ew (S :List TabD) :List (Wd×Wd) :=S.flatMap fun t=>t.cols.map fun c=> (t.name,c.name)
def Je (L :List (Wd×Wd)) :List E :=L.zipIdx.map fun p=> .mk 2 zero p.1.1 p.1.2 (p.2 :Int) []
theorem Ac4 (L :List (Wd×Wd)) (x :Wd×Wd) :Je (L++ [x]) =Je L++ [.mk 2 zero x.1 x.2 (L.length :Int) []] :=by
 simp [Je,List.zipIdx_append]
theorem Yl (L :List (Wd×Wd)) : (Je L).length=L.length :=by simp [Je]
def Vh (S :List TabD) :List E :=Je (Ew S)
theorem Xa {S :List TabD} {j :Nat} {t :TabD} (h :S[j]? =some t) :Ew (S.take (j+1)) =Ew (S.take j) ++t.cols.map fun c=> (t.name,c.name) :=by
 rw [List.take_add_one,h];simp [Ew]
theorem R8 : ∀ (S :List TabD),(∀t∈S,t.cols.length≤1000000) → (Ew S).length≤S.length*1000000
 | [],_=>by simp [Ew]
 | t ::S,h=>by
  have h1 :=R8 S (fun x hx=>h x (List.mem_cons_of_mem _ hx))
  have h2 :=h t List.mem_cons_self
  simp only [Ew,List.flatMap_cons,List.length_append,List.length_map,List.length_cons] at h1⊢
  omega
theorem Sa (S :List TabD) (hS :S.length≤1000) (hsc : ∀t∈S,t.cols.length≤1000000) (j :Nat) : (Ew (S.take j)).length≤1000000000 :=by
 have :=R8 (S.take j) (fun t ht=>hsc t (List.mem_of_mem_take ht))
 have h2 : (S.take j).length≤1000 :=by rw [List.length_take];omega
 omega
set_option maxRecDepth 100000 in
set_option maxHeartbeats 8000000 in
theorem Ym (S :List TabD) (hS :S.length≤1000) (hsc : ∀t∈S,t.cols.length≤1000000) (sv :Value) (C :Nat) (w :World) (hl :IsL Cq (fun k=>k<C) w sv S) (_hC :C≤w.heap.size) :
  Calls Tryz.prog 135 #[sv] w fun r w'=> (∃u,r= .returned u∧IsL Az (Fr w.heap.size) w' u (Vh S)) ∧Below w.heap.size w w' :=by
 obtain ⟨so,sc,rfl⟩ :=hl.shape
 obtain ⟨i0,hi,hz0,hz1,hz2⟩ :=info_parts Uh
 go_enter Tryz.func135,Tryz.ntmps135
 go_wp2_with fail
 go_loopw [3,10] (fun zv i wr=> ∃j :Nat,j≤S.length∧i= .int .i64 j∧Gb Az 34 0 w.heap.size zv (Je (Ew (S.take j))) wr∧Below w.heap.size w wr) (fun _ i _=>S.length - (intOf i).toNat)
 case atStart=>exact ⟨0,Nat.zero_le _,rfl,R7 _ _ _ _ _,Below.refl _ _⟩
 case round=>
  obtain ⟨j,hj,rfl,hA,hbel⟩ :=hrel
  by_cases hjl :j<S.length
  ·obtain ⟨t,ht⟩ : ∃t,S[j]? =some t := ⟨_,List.getElem?_eq_getElem hjl⟩
   have HP :Hid (Ew (S.take (j+1)) =Ew (S.take j) ++t.cols.map fun c=> (t.name,c.name)) :=Xa ht
   have htc :=hsc t (List.mem_of_getElem? ht)
   have hPl :=Sa S hS hsc j
   obtain ⟨b,off,cs,rfl,hbC,hb,⟨cv,rfl,hcv⟩,hcell⟩ :=A4 hl ht
   obtain ⟨co,cc,rfl⟩ :=hcv.shape
   have e0 :=hcell 0 _ rfl
   have e1 :=hcell 1 _ rfl
   simp only [Cq,Nat.add_zero] at e0 e1
   have d0 := (hbel.cell (p := ⟨b,off+j*2,none⟩) hb).trans e0
   have d1 := (hbel.cell (p := ⟨b,off+j*2+1,none⟩) hb).trans e1
   have j0 : (0 :Int) ≤ (j :Int) :=by omega
   have j1 : (j :Int) < (S.length :Int) :=by omega
   have hbx :=Ao wr (.cells #[.string t.name, .slice co t.cols.length cc] 43)
   have hT1 :=Ab wr (.cells #[.string t.name, .slice co t.cols.length cc] 43)
   have hA1 :=hA.below hbx
   have hz0' : ∀k,u3.ownBlock=some k→k<wr.heap.size :=by obtain ⟨cs0,hown0,_⟩ :=hA;exact fun k hk=> (hown0.lt k hk).2
   have hbx2 :Below w.heap.size w (wr.alloc (.cells #[.string t.name, .slice co t.cols.length cc] 43)) :=hbel.trans (hbx.mono hbel.size)
   have tt0 :=Aa hT1 (j :=1) rfl
   generalize Ew (S.take j) =P at hA1 HP hPl
   clear hcell ht hA
   go_wp2_with fail
   generalize hpb :wr.heap.size=pb at*
   go_loopw [3,17] (fun zv i wi=> ∃m :Nat,m≤t.cols.length∧i= .int .i64 m∧Gb Az 34 0 w.heap.size zv (Je (P++ (t.cols.take m).map fun c=> (t.name,c.name))) wi∧wi.heap[pb]? =some (.cells #[.string t.name, .slice co t.cols.length cc] 43) ∧zv.ownBlock≠some pb∧Below w.heap.size w wi) (fun _ i _=>t.cols.length - (intOf i).toNat)
   case atStart=>exact ⟨0,Nat.zero_le _,rfl,by simpa using hA1,hT1,fun e=>by have :=hz0' _ e;omega,hbx2⟩
   case round=>
    obtain ⟨m,hm,rfl,hA2,hT2,hne,hbi⟩ :=hrel
    clear hA1 hT1 tt0 hbx2 hbx d0 d1 e0 e1 hbel
    have hlt2 :=lt_of_block hT2
    by_cases hml :m<t.cols.length
    ·obtain ⟨cd,hcd⟩ : ∃a,t.cols[m]? =some a := ⟨_,List.getElem?_eq_getElem hml⟩
     have HT :Hid (Je (P++ (t.cols.take (m+1)).map fun c=> (t.name,c.name)) =Je (P++ (t.cols.take m).map fun c=> (t.name,c.name)) ++ [.mk 2 zero t.name cd.name ((P.length+m :Nat) :Int) []]) :=by
      show _=_
      rw [List.take_add_one,hcd]
      simp only [Option.toList_some,List.map_append,List.map_cons,List.map_nil,←List.append_assoc,Ac4]
      rw [List.length_append,List.length_map,List.length_take,Nat.min_eq_left hm]
     have HN :Hid ((Je (P++ (t.cols.take m).map fun c=> (t.name,c.name))).length=P.length+m) :=by
      show _=_
      rw [Yl,List.length_append,List.length_map,List.length_take,Nat.min_eq_left hm]
     generalize Je (P++ (t.cols.take m).map fun c=> (t.name,c.name)) =A at hA2 HT HN
     obtain ⟨zo,zc,hzv⟩ :=hA2.shape
     obtain ⟨cs2,hown2,hall2⟩ :=hA2
     rw [HN.out] at hzv hown2
     have hn64 :P.length+m≤1001000000 :=by omega
     generalize P.length+m=n at*
     subst hzv
     obtain ⟨cb,cof,ccs,rfl,hcbC,hcb,hcR,hccell⟩ :=A4 hcv hcd
     obtain rfl :=hcR
     have f0 :=hccell 0 _ rfl
     have f1 :=hccell 1 _ rfl
     have f2 :=hccell 2 _ rfl
     simp only [Cc,Nat.add_zero] at f0 f1 f2
     have g0 := (hbi.cell (p := ⟨cb,cof+m*3,none⟩) hcb).trans f0
     have g1 := (hbi.cell (p := ⟨cb,cof+m*3+1,none⟩) hcb).trans f1
     have g2 := (hbi.cell (p := ⟨cb,cof+m*3+2,none⟩) hcb).trans f2
     have m0 : (0 :Int) ≤ (m :Int) :=by omega
     have m1 : (m :Int) < (t.cols.length :Int) :=by omega
     have hbc :=Ao wr (.cells #[.string cd.name, .int .i64 cd.ty, .bool cd.must] 63)
     have t0 :=Aa ((hbc.block _ hlt2).trans hT2) (j :=0) rfl
     have hB3 :Below wr.heap.size wr ((wr.alloc (.cells #[.string cd.name, .int .i64 cd.ty, .bool cd.must] 63)).alloc (.cells [.int .i64 2, .int .i64 0, .int .i64 0, .string ⟨#[]⟩, .string t.name, .string cd.name, .int .i64 (n :Int), .slice none 0 0].toArray 34)) :=Bb _ _ _
     have hown3 :=Ar hown2 hB3
     have hall3 :=hall2.keep (Bd hB3)
     have hnew :=Cl (wr.alloc (.cells #[.string cd.name, .int .i64 cd.ty, .bool cd.must] 63)) [.int .i64 2, .int .i64 0, .int .i64 0, .string ⟨#[]⟩, .string t.name, .string cd.name, .int .i64 (n :Int), .slice none 0 0] 34
     have hbase :w.heap.size≤ ((wr.alloc (.cells #[.string cd.name, .int .i64 cd.ty, .bool cd.must] 63)).alloc (.cells [.int .i64 2, .int .i64 0, .int .i64 0, .string ⟨#[]⟩, .string t.name, .string cd.name, .int .i64 (n :Int), .slice none 0 0].toArray 34)).heap.size :=Nat.le_trans hbi.size hB3.size
     have hT3 := (hB3.block _ hlt2).trans hT2
     clear f0 f1 f2 hccell hcd hcv
     go_wp2_with (first | (at_builtin;go_must (refine wpList_append_own_at _ rfl _ _ 30 rfl w.heap.size 34 i0 _ 8 104 Tryz.underlying30 hi hz0 hz1 hz2 rfl (by decide) _ _ _ rfl hown3 ⟨wr.heap.size+1,0,none⟩ 1 1 [.int .i64 2, .int .i64 0, .int .i64 0, .string ⟨#[]⟩, .string t.name, .string cd.name, .int .i64 (n :Int), .slice none 0 0] rfl rfl ?h0 ?h1 (by simp only [maxLen];omega) (by omega) hbase ?h2)))
     case h0=>simpa using hnew
     case h1=>simp only [List.forall_mem_cons];repeat (first | exact fun _ h=>absurd h List.not_mem_nil | refine ⟨rfl, ?_⟩)
     case h2=>
      intro z2 w4 hown4 hg4 _ hat
      have hat' :z2.ownBlock= (Value.slice zo n zc).ownBlock∨z2.ownBlock=some ((wr.alloc (.cells #[.string cd.name, .int .i64 cd.ty, .bool cd.must] 63)).alloc (.cells [.int .i64 2, .int .i64 0, .int .i64 0, .string ⟨#[]⟩, .string t.name, .string cd.name, .int .i64 (n :Int), .slice none 0 0].toArray 34)).heap.size :=by simpa using hat
      have hst :=Pw (K :=Az) (ty :=34) (a := .mk 2 zero t.name cd.name (n :Int) []) (Nat.zero_le _) (fun k hk=> (hown2.lt k hk).1) (by rw [HN.out];exact hown4) hall3 ⟨rfl,G1 (op :=2) (x :=zero) (s :=t.name) (name :=cd.name) (n := (n :Int)) (ao :=none) (c :=0) fun _=>rfl⟩ hg4 hat'
      have hbb :Below w.heap.size w w4 := (hbi.trans (hB3.mono hbi.size)).grown hg4 hbase fun k hk=> (hown2.lt k hk).1
      have hT4 :=D6 hg4 hT3 (fun e=>hne e.symm)
      have hne4 :z2.ownBlock≠some pb :=by
       rcases hat' with h | h
       ·rw [h];exact hne
       ·rw [h];intro e;have :=Option.some.inj e;have :=hB3.size;omega
      go_wp2_with fail
      go_roundw
      case rel=>exact ⟨m+1,by omega,by go_num,by rw [HT.out];exact hst,hT4,hne4,hbb⟩
      case measure=>simp [intOf];omega
    ·have hml2 :m=t.cols.length :=by omega
     subst hml2
     rw [List.take_length] at hA2
     have hA3 :Gb Az 34 0 w.heap.size u3 (Je (Ew (S.take (j+1)))) wr :=by rw [HP.out];exact hA2
     go_wp2_with fail
     go_roundw
     case rel=>exact ⟨j+1,by omega,by go_num,hA3,hbi⟩
     case measure=>simp [intOf];omega
  ·have hjl2 :j=S.length :=by omega
   subst hjl2
   have hA2 :=hA.isL
   rw [List.take_length] at hA2
   go_wp2_with fail
   go_ret
   exact ⟨⟨_,rfl,hA2.mono (fun k _ hk=>by rcases hk with h | h;exact absurd h (Nat.not_lt_zero _);exact h)⟩,hbel⟩
def Mw (S :List TabD) (l :List E) :Except Int (List E) :=if l.length=0 then .ok (Vh S) else Hf S l
set_option maxRecDepth 100000 in
set_option maxHeartbeats 4000000 in
theorem Yn (S :List TabD) (hS :S.length≤1000) (hsc : ∀t∈S,t.cols.length≤1000000) (d :Nat) (l :List E) (lv sv :Value) (C :Nat) (w :World) (he :IsL Az (fun k=>k<C) w lv l) (hl :IsL Cq (fun k=>k<C) w sv S) (hC :C≤w.heap.size) (hg : ∀a∈l,geB d a=true) (hn :l.length≤1000000000) :
  Calls Tryz.prog 95 #[sv,lv] w fun r w'=> (∃u,r= .returned u∧Jb Az (Mw S l) (Fr w.heap.size) w' u) ∧Below w.heap.size w w' :=by
 have HC :=Ym S hS hsc sv C w hl hC
 have HL :=Pv S hS hsc d l lv sv C w he hl hC hg hn
 obtain ⟨so,sc,rfl⟩ :=hl.shape
 obtain ⟨ao,c,rfl⟩ :=he.shape
 clear he hl hg hS hsc
 by_cases h0 :l.length=0
 ·have HE :Hid (Mw S l= .ok (Vh S)) :=if_pos h0
  rw [h0]
  have HC2 :=HC.mono (R' :=fun r w'=> ∃ (ao :Option Addr) (k c :Nat),r= .returned (.slice ao k c) ∧IsL Az (Fr w.heap.size) w' (.slice ao k c) (Vh S) ∧Below w.heap.size w w') (by
   rintro r w' ⟨⟨u,rfl,hu⟩,hb⟩
   obtain ⟨ao,c,rfl⟩ :=hu.shape
   exact ⟨ao,_,c,rfl,hu,hb⟩)
  clear HC HL
  go_enter Tryz.func95,Tryz.ntmps95
  go_wp2_with (go_at_call 135;refine HC2.mono ?_;rintro r w1 ⟨ao2,k2,c2,rfl,hL2,hb1⟩)
  go_ret2
  refine ⟨⟨_,rfl, ?_⟩,hb1⟩
  rw [HE.out]
  exact ⟨_,_,_,rfl,hL2⟩
 ·have HE :Hid (Mw S l=Hf S l) :=if_neg h0
  have e0 : ((l.length :Int) ==0) =false :=by rw [beq_eq_false_iff_ne];omega
  have HL2 :=HL.mono (R' :=fun r w'=> ∃ (ao :Option Addr) (k c :Nat) (z :Int),r= .returned (.tuple #[.slice ao k c, .int .i64 z]) ∧Jb Az (Hf S l) (Fr w.heap.size) w' (.tuple #[.slice ao k c, .int .i64 z]) ∧Below w.heap.size w w') (by
   rintro r w' ⟨⟨u,rfl,hu⟩,hb⟩
   cases hr :Hf S l with
   | error m=>
    rw [hr] at hu
    obtain rfl :=hu
    exact ⟨none,0,0,m,rfl,rfl,hb⟩
   | ok l2=>
    rw [hr] at hu
    have hu2 :=hu
    obtain ⟨ao,k,c,rfl,_⟩ :=hu
    exact ⟨ao,k,c,0,rfl,hu2,hb⟩)
  clear HC HL
  generalize Hf S l=R at HE HL2
  go_enter Tryz.func95,Tryz.ntmps95
  go_wp2_with (go_at_call 96;refine HL2.mono ?_;rintro r w1 ⟨ao2,k2,c2,z,rfl,hL2,hb1⟩)
  go_ret2
  refine ⟨⟨_,rfl, ?_⟩,hb1⟩
  rw [HE.out]
  exact hL2
end Go.Proofs.YthehiijgnepcfaaGreat

namespace Go.Proofs.YthehiijgnepcfaaGreat
open Go.RowKit Go.Maps
def C3 {α β :Type} (f :List α→α→Except Int β) :List α→List α→Except Int (List β)
 | _,[] => .ok []
 | seen,p ::l=>match f seen p with
  | .error m=> .error m
  | .ok q=>match C3 f (seen++ [p]) l with
   | .error m=> .error m
   | .ok qs=> .ok (q ::qs)
theorem Mx {α β :Type} (f :List α→α→Except Int β) : ∀ (seen l :List α) (p :α),C3 f seen (l++ [p]) =match C3 f seen l with
  | .error m=> .error m
  | .ok qs=>match f (seen++l) p with
   | .error m=> .error m
   | .ok q=> .ok (qs++ [q])
 | seen,[],p=>by
  simp only [List.nil_append,C3,List.append_nil]
 | seen,x ::l,p=>by
  simp only [List.cons_append,C3,Mx f (seen++ [x]) l p]
  rw [show seen++ [x] ++l=seen++x ::l by simp]
  cases f seen x with
  | error m=>rfl
  | ok r=>
   cases C3 f (seen++ [x]) l with
   | error m=>rfl
   | ok rs=>cases f (seen++x ::l) p<;>rfl
theorem Oj {α β :Type} (f :List α→α→Except Int β) : ∀ (seen l m :List α) (k :Int),C3 f seen l= .error k→C3 f seen (l++m) = .error k
 | seen,[],m,k,h=>by simp [C3] at h
 | seen,x ::l,m,k,h=>by
  simp only [List.cons_append,C3] at h⊢
  cases hx :f seen x with
  | error j=>rw [hx] at h;exact h
  | ok r=>
   rw [hx] at h
   simp only at h⊢
   cases hl :C3 f (seen++ [x]) l with
   | error j=>
    rw [hl] at h
    rw [Oj f _ l m j hl]
    exact h
   | ok rs=>rw [hl] at h;cases h
def Gm (T :List TabD) (seen :List Wd) (s :Wd) :Except Int TabD :=
 match Cr T s with
 | none=> .error 3
 | some t=>if Ip seen s then .error 4 else .ok t
def Ez (T :List TabD) (l :List Wd) :Except Int (List TabD) :=if l.length<1∨2<l.length then .error 1 else C3 (Gm T) [] l
theorem Ae4 : (Tryz.prog.info? 43).map (fun i=> (i.zero,i.size,i.bytes)) =some (some (.agg #[.string ⟨#[]⟩, .slice none 0 0]),2,40) :=by kernel_rfl
theorem Gb.kept {α :Type} {K :Elem α} {ty :TypeId} {C base b :Nat} {z :Value} {A :List α} {w w' :World} (h :Gb K ty C base z A w) (hg :w.grownBy w' (some b)) (h1 :C≤b) (h2 :b<base) :Gb K ty C base z A w' :=by
 obtain ⟨cs,h3,h4⟩ :=h
 have hz :=h3.lt
 refine ⟨cs,h3.kept hg (by
  cases hb :z.ownBlock with
  | none=>exact .inl rfl
  | some k=>exact .inr (fun e=>by have := (hz k hb).1;have :=Option.some.inj e;omega)),h4.keep ⟨hg.size,fun k hk hl=>hg.block k hl (fun e=>by
   have :=Option.some.inj e
   rcases hk with h | h
   ·omega
   ·have :=h.1;omega)⟩⟩
set_option maxRecDepth 100000 in
set_option maxHeartbeats 8000000 in
theorem Yo (T :List TabD) (tv iv :Value) (hiv :E1 iv) (l :List Wd) (fv :Value) (C :Nat) (w :World) (ht :IsL Cq (fun k=>k<C) w tv T) (hl :IsL So (fun k=>k<C) w fv l) (hC :C≤w.heap.size) (hs : ∀s∈l,s.size≤maxLen) :
  Calls Tryz.prog 94 #[.agg #[tv,iv],fv] w fun r w'=> (∃u,r= .returned u∧Jb Cq (Ez T l) (Fx C w.heap.size) w' u) ∧Below w.heap.size w w' :=by
 obtain ⟨to',tc,rfl⟩ :=ht.shape
 obtain ⟨fo,fc,rfl⟩ :=hl.shape
 obtain ⟨io,iN,ic,rfl⟩ :=hiv
 obtain ⟨i0,hi,hz0,hz1,hz2⟩ :=info_parts Ae4
 have hb1 :=Ao w (.cells #[.slice to' T.length tc, .slice io iN ic] 25)
 by_cases hout :l.length<1∨2<l.length
 ·have HE :Hid (Ez T l= .error 1) :=if_pos hout
  clear ht hl hs
  by_cases h1 :l.length<1
  ·have q1 : (l.length :Int) <1 :=by omega
   go_enter Tryz.func94,Tryz.ntmps94
   go_wp2_with fail
   go_ret2
   refine ⟨⟨_,rfl, ?_⟩,hb1⟩
   rw [HE.out]
   rfl
  ·have q1 : ¬ (l.length :Int) <1 :=by omega
   have q2 : (2 :Int) < (l.length :Int) :=by omega
   go_enter Tryz.func94,Tryz.ntmps94
   go_wp2_with fail
   go_ret2
   refine ⟨⟨_,rfl, ?_⟩,hb1⟩
   rw [HE.out]
   rfl
 ·have HE0 :Hid (Ez T l=C3 (Gm T) [] l) :=if_neg hout
  have q1 : ¬ (l.length :Int) <1 :=by omega
  have q2 : ¬ (2 :Int) < (l.length :Int) :=by omega
  have hl2 :l.length≤2 :=by omega
  have hT0 : ((w.alloc (.cells #[.slice to' T.length tc, .slice io iN ic] 25)).alloc (.map #[] 0)).heap[w.heap.size]? =some (.cells #[.slice to' T.length tc, .slice io iN ic] 25) :=Ac (Ab _ _) _
  have hC0 :Cnt ((w.alloc (.cells #[.slice to' T.length tc, .slice io iN ic] 25)).alloc (.map #[] 0)) (w.heap.size+1) [] :=by
   have :=P8 (w.alloc (.cells #[.slice to' T.length tc, .slice io iN ic] 25))
   rwa [show (w.alloc (.cells #[.slice to' T.length tc, .slice io iN ic] 25)).heap.size=w.heap.size+1 by simp] at this
  have hbW :=Bb w (.cells #[.slice to' T.length tc, .slice io iN ic] 25) (.map #[] 0)
  have hmm := @run_makeMap Tryz.prog
  clear hout
  go_enter Tryz.func94,Tryz.ntmps94
  go_wp2_with fail
  clear hmm
  go_loopw [7,23] (fun zv i wr=> ∃ (j :Nat) (rs :List TabD),j≤l.length∧i= .int .i64 j∧Hid (C3 (Gm T) [] (l.take j) = .ok rs) ∧Hid (rs.length=j) ∧wr.heap[w.heap.size]? =some (.cells #[.slice to' T.length tc, .slice io iN ic] 25) ∧Cnt wr (w.heap.size+1) (l.take j) ∧Gb Cq 43 C (w.heap.size+2) zv rs wr∧Below w.heap.size w wr∧w.heap.size+2≤wr.heap.size) (fun _ i _=>l.length - (intOf i).toNat)
  case atStart=>exact ⟨0,[],Nat.zero_le _,rfl,by show _=_;rw [List.take_zero,C3],rfl,hT0,hC0,R7 _ _ _ _ _,hbW,by simp⟩
  case round=>
   obtain ⟨j,rs,hj,rfl,HQ,HL,hT,hCn,hA,hbel,hsz⟩ :=hrel
   clear hT0 hC0 hbW
   have q3 :=HL.out
   subst q3
   by_cases hjl :rs.length<l.length
   ·obtain ⟨a,ha⟩ : ∃a,l[rs.length]? =some a := ⟨_,List.getElem?_eq_getElem hjl⟩
    have HT :Hid (l.take (rs.length+1) =l.take rs.length++ [a]) :=by show _=_;rw [List.take_add_one,ha];rfl
    have hsa :=hs a (List.mem_of_getElem? ha)
    have HX : ∀m,Gm T (l.take rs.length) a= .error m→Ez T l= .error m :=fun m hm=>by
     have hs :C3 (Gm T) [] (l.take (rs.length+1)) = .error m :=by rw [HT.out,Mx,HQ.out];simp only [List.nil_append,hm]
     have :=Oj (Gm T) [] (l.take (rs.length+1)) (l.drop (rs.length+1)) m hs
     rw [List.take_append_drop] at this
     rw [HE0.out,this]
    have HY : ∀q,Gm T (l.take rs.length) a= .ok q→C3 (Gm T) [] (l.take (rs.length+1)) = .ok (rs++ [q]) :=fun q hq=>by
     rw [HT.out,Mx,HQ.out];simp only [List.nil_append,hq]
    have HZ :Hid (Gm T (l.take rs.length) a=match Cr T a with
     | none=> .error 3
     | some t=>if Ip (l.take rs.length) a then .error 4 else .ok t) :=rfl
    obtain ⟨b,off,cs,rfl,hbC,hb,hR,hcell⟩ :=A4 (hl.keep (Af (hbel.mono hC))) ha
    obtain rfl :=hR
    have d0 :=hcell 0 _ rfl
    simp only [So,Nat.mul_one,Nat.add_zero] at d0
    have j0 : (0 :Int) ≤ (rs.length :Int) :=by omega
    have j1 : (rs.length :Int) < (l.length :Int) :=by omega
    have t0 :=Aa hT (j :=0) rfl
    have t1 :=Aa hT (j :=1) rfl
    have hlt0 :=lt_of_block hT
    have HA :=fun (W :World) (h :Cnt W (w.heap.size+1) (l.take rs.length)) =>Nu (w.heap.size+1) (l.take rs.length) a W h hsa (by simp;omega)
    have htl :=ht.keep (Af (hbel.mono hC))
    clear hcell ha hs hl
    rcases htab :Cr T a with _ | t
    ·have HE :Hid (Ez T l= .error 3) :=HX 3 (by rw [HZ.out,htab])
     have HF :=Fp htab (.slice to' T.length tc) (.slice io iN ic) ⟨io,iN,ic,rfl⟩ C wr htl (Nat.le_trans hC hbel.size)
     clear HA HX HY HZ HQ HL HT htab
     go_wp2_with (first | (go_at_call 6;go_fit HF;rintro e w1 ⟨rfl,hb1⟩))
     go_ret2
     refine ⟨⟨_,rfl, ?_⟩,(hbel.trans (hb1.mono hbel.size)).alloc (Nat.le_trans hbel.size hb1.size) _⟩
     rw [HE.out]
     rfl
    ·have HF :=Ev htab (.slice to' T.length tc) (.slice io iN ic) ⟨io,iN,ic,rfl⟩ C wr htl (Nat.le_trans hC hbel.size)
     rw [htab] at HZ
     simp only at HZ
     cases hmb :Ip (l.take rs.length) a
     ·rw [hmb] at HA HZ
      simp only [Bool.false_eq_true,if_false] at HZ
      have HS :Hid (C3 (Gm T) [] (l.take (rs.length+1)) = .ok (rs++ [t])) :=HY t HZ.out
      have HL2 :Hid ((rs++ [t]).length=rs.length+1) :=by show _=_;rw [List.length_append];rfl
      have HT2 :Hid (l.take rs.length++ [a] =l.take (rs.length+1)) :=HT.out.symm
      have hrs :rs.length≤2 :=by omega
      obtain ⟨zo,zc,hzv⟩ :=hA.shape
      clear HX HY HZ HQ HL HT htab hmb
      subst hzv
      go_wp2_with (first | (go_at_call 6;go_fit HF;rintro e w1 ⟨ao2,n2,c2,rfl,hcL,hb1⟩;have hbx :Below wr.heap.size wr (w1.alloc (.cells #[.string t.name, .slice ao2 n2 c2] 43)) :=hb1.alloc hb1.size _;have hC1 :=hCn.below hbx;have hP :=Ab w1 (.cells #[.string t.name, .slice ao2 n2 c2] 43)) | (go_at_call 133;go_fit (HA _ hC1);rintro e w2 ⟨rfl,hC2,hg2⟩;have hP2 :=D6 hg2 hP (by have :=hb1.size;simp;omega);have p0 :=Aa hP2 (j :=0) rfl;have p1 :=Aa hP2 (j :=1) rfl;obtain ⟨cs2,hown2,hall2⟩ := (hA.below hbx).kept hg2 (by omega) (by omega);have hB3 :=Ao w2 (.cells [.string t.name, .slice ao2 n2 c2].toArray 43);have hown3 :=Ar hown2 hB3;have hall3 :=hall2.keep (Bd hB3);have hnew :=Cl w2 [.string t.name, .slice ao2 n2 c2] 43;have hsz2 :w.heap.size+2≤w2.heap.size :=Nat.le_trans hsz (Nat.le_trans hbx.size hg2.size);have hbase :w.heap.size+2≤ (w2.alloc (.cells [.string t.name, .slice ao2 n2 c2].toArray 43)).heap.size :=Nat.le_trans hsz2 hB3.size) | (at_builtin;go_must (refine wpList_append_own_at _ rfl _ _ 145 rfl (w.heap.size+2) 43 i0 _ 2 40 Tryz.underlying145 hi hz0 hz1 hz2 rfl (by decide) _ _ _ rfl hown3 ⟨w2.heap.size,0,none⟩ 1 1 [.string t.name, .slice ao2 n2 c2] rfl rfl hnew ?h1 (by simp only [maxLen];omega) (by omega) hbase ?h2)))
      case h1=>simp only [List.forall_mem_cons];repeat (first | exact fun _ h=>absurd h List.not_mem_nil | refine ⟨rfl, ?_⟩)
      case h2=>
       intro z2 w4 hown4 hg4 _ hat
       have hat' :z2.ownBlock= (Value.slice zo rs.length zc).ownBlock∨z2.ownBlock=some (w2.alloc (.cells [.string t.name, .slice ao2 n2 c2].toArray 43)).heap.size :=by simpa using hat
       have hz : ∀k,(Value.slice zo rs.length zc).ownBlock=some k→w.heap.size+2≤k :=fun k hk=> (hown2.lt k hk).1
       have hcL2 :IsL Cc (fun k=>k<C) (w2.alloc (.cells [.string t.name, .slice ao2 n2 c2].toArray 43)) (.slice ao2 n2 c2) t.cols := ((hcL.keep (Af ((Ao w1 _).mono (Nat.le_trans hC (Nat.le_trans hbel.size hb1.size))))).keep ⟨hg2.size,fun k hk hl=>hg2.block k hl (fun e=>by have :=Option.some.inj e;have :k<C :=hk;omega)⟩).keep (Bd hB3)
       have hst :=Pw (K :=Cq) (ty :=43) (a :=t) (c := [.string t.name, .slice ao2 n2 c2]) (by omega) hz hown4 hall3 ⟨_,rfl,hcL2.mono (fun k _ h=> .inl h)⟩ hg4 hat'
       have hb2w :Below w.heap.size w w2 :=Below.grow (hbel.trans (hbx.mono hbel.size)) hg2 (Nat.le_trans hbel.size hbx.size) (by omega)
       have hbb :Below w.heap.size w w4 := (hb2w.trans (hB3.mono hb2w.size)).grown hg4 (Nat.le_trans (by omega) hbase) fun k hk=>Nat.le_trans (by omega) (hz k hk)
       have hnz : ∀k,k<w.heap.size+2→some k≠ (Value.slice zo rs.length zc).ownBlock :=fun k hk e=>by have :=hz k e.symm;omega
       have hT4 :w4.heap[w.heap.size]? =some (.cells #[.slice to' T.length tc, .slice io iN ic] 25) :=D6 hg4 ((hB3.block _ (by omega)).trans (D6 hg2 ((hbx.block _ hlt0).trans hT) (by simp))) (hnz _ (by omega))
       have hC4 :Cnt w4 (w.heap.size+1) (l.take (rs.length+1)) :=by rw [←HT2.out];exact (hC2.below hB3).kept hg4 (hnz _ (by omega))
       have hs4 :w.heap.size+2≤w4.heap.size :=Nat.le_trans hbase hg4.size
       go_wp2_with fail
       go_roundw
       case rel=>exact ⟨rs.length+1,rs++ [t],by omega,by go_num,HS,HL2,hT4,hC4,hst,hbb,hs4⟩
       case measure=>simp [intOf];omega
     ·rw [hmb] at HA HZ
      have HE :Hid (Ez T l= .error 4) :=HX 4 (by rw [HZ.out];rfl)
      clear HX HY HZ HQ HL HT htab hmb
      go_wp2_with (first | (go_at_call 6;go_fit HF;rintro e w1 ⟨ao2,n2,c2,rfl,hcL,hb1⟩;have hbx :Below wr.heap.size wr (w1.alloc (.cells #[.string t.name, .slice ao2 n2 c2] 43)) :=hb1.alloc hb1.size _;have hC1 :=hCn.below hbx) | (go_at_call 133;go_fit (HA _ hC1);rintro e w2 ⟨rfl,hC2,hg2⟩))
      go_ret2
      refine ⟨⟨_,rfl, ?_⟩,Below.grow (hbel.trans (hbx.mono hbel.size)) hg2 (Nat.le_trans hbel.size hbx.size) (by omega)⟩
      rw [HE.out]
      rfl
   ·have hjl2 :rs.length=l.length :=by omega
    have HE :Hid (Ez T l= .ok rs) :=by
     show _=_
     have :=HQ.out
     rw [hjl2,List.take_length] at this
     rw [HE0.out,this]
    obtain ⟨zo,zc,hzv⟩ :=hA.shape
    subst hzv
    have hw1 :=hA.isL.mono (F' :=Fx C w.heap.size) (fun k _ h=>h.imp id (fun h=>Nat.le_trans (by omega) h))
    clear HL HQ
    go_wp2_with fail
    go_ret2
    refine ⟨⟨_,rfl, ?_⟩,hbel⟩
    rw [HE.out]
    exact ⟨_,_,_,rfl,hw1⟩
end Go.Proofs.YthehiijgnepcfaaGreat

namespace Go.Proofs.YthehiijgnepcfaaGreat
open Go.RowKit Go.Maps
def If (ct :CatD) (name :Wd) (cols :List ColD) :Int :=if Hy ⟨name,cols⟩ =false then 1 else if (Cr ct.tables name).isSome then 4 else if 3≤ct.tables.length then 8 else 0
def Li (s :Wd) (x :IdxD) :Bool :=decide (x.name=s)
def My (ct :CatD) (name table col :Wd) :Int :=if nm name=false then 1 else if I5 ct.tables table col=false then 3 else if Ay (atI ct.indexes (Li name)) 0 ct.indexes.length then 4 else if 4≤ct.indexes.length then 8 else 0
def Kg (ct :CatD) (name :Wd) :Int :=if (Cr ct.tables name).isSome then 0 else 3
set_option maxRecDepth 100000 in
set_option maxHeartbeats 4000000 in
theorem Yp (ct :CatD) (cv :Value) (C :Nat) (w :World) (hc :Cz (fun k=>k<C) w ct cv) (hC :C≤w.heap.size)
  (kind :Int) (name table col :Wd) (colsv rowsv setsv frmv outv :Value) (op xk xn :Int) (xs s nmv :Wd) (n8 :Int) (sl order :Value) (down :Bool) (n :Int) :
  Calls Tryz.prog 48 #[cv, .agg (sA kind name table col colsv rowsv setsv frmv outv op xk xn xs s nmv n8 sl order down n)] w fun r w'=>r= .returned (.int .i64 (Kg ct name)) ∧Below w.heap.size w w' :=by
 obtain ⟨tv,iv,rfl,htl,hil⟩ :=hc
 have hb2 :=Bb w (.cells #[tv,iv] 25) (.cells (sA kind name table col colsv rowsv setsv frmv outv op xk xn xs s nmv n8 sl order down n) 36)
 have hsl :=Ge hil
 rcases htab :Cr ct.tables name with _ | t
 ·have HE :Hid (Kg ct name=3) :=by show _=_;unfold Kg;rw [htab];rfl
  have HF :=Fp htab tv iv hsl C _ (htl.keep (Af (hb2.mono hC))) (Nat.le_trans hC hb2.size)
  clear htl hil htab
  go_enter Tryz.func48,Tryz.ntmps48
  go_wp2_with (first | (go_at_call 6;go_fit HF;rintro e w1 ⟨rfl,hb1⟩))
  go_ret
  exact ⟨An HE.out.symm,(Ad hb2 hb1).alloc (Ad hb2 hb1).size _⟩
 ·have HE :Hid (Kg ct name=0) :=by show _=_;unfold Kg;rw [htab];rfl
  have HF :=Ev htab tv iv hsl C _ (htl.keep (Af (hb2.mono hC))) (Nat.le_trans hC hb2.size)
  clear htl hil htab
  go_enter Tryz.func48,Tryz.ntmps48
  go_wp2_with (first | (go_at_call 6;go_fit HF;rintro e w1 ⟨ao2,n2,c2,rfl,hcL,hb1⟩))
  go_ret
  exact ⟨An HE.out.symm,(Ad hb2 hb1).alloc (Ad hb2 hb1).size _⟩
set_option maxRecDepth 100000 in
set_option maxHeartbeats 8000000 in
theorem Vb (ct :CatD) (cv :Value) (C :Nat) (w :World) (hc :Cz (fun k=>k<C) w ct cv) (hC :C≤w.heap.size) (cols :List ColD)
  (kind :Int) (name table col :Wd) (colsv rowsv setsv frmv outv :Value) (op xk xn :Int) (xs s nmv :Wd) (n8 :Int) (sl order :Value) (down :Bool) (n :Int) (hcl :IsL Cc (fun k=>k<C) w colsv cols) (hf :L5 ⟨name,cols⟩) :
  Calls Tryz.prog 46 #[cv, .agg (sA kind name table col colsv rowsv setsv frmv outv op xk xn xs s nmv n8 sl order down n)] w fun r w'=>r= .returned (.int .i64 (If ct name cols)) ∧Below w.heap.size w w' :=by
 obtain ⟨tv,iv,rfl,htl,hil⟩ :=hc
 obtain ⟨to',tc,rfl⟩ :=htl.shape
 obtain ⟨co,cc,rfl⟩ :=hcl.shape
 have hb2 :=Bb w (.cells #[.slice to' ct.tables.length tc,iv] 25) (.cells (sA kind name table col (.slice co cols.length cc) rowsv setsv frmv outv op xk xn xs s nmv n8 sl order down n) 36)
 have hB0 : ((w.alloc (.cells #[.slice to' ct.tables.length tc,iv] 25)).alloc (.cells (sA kind name table col (.slice co cols.length cc) rowsv setsv frmv outv op xk xn xs s nmv n8 sl order down n) 36)).heap[w.heap.size]? =some (.cells #[.slice to' ct.tables.length tc,iv] 25) :=Ac (Ab _ _) _
 have hB1 :=Aq w (.cells #[.slice to' ct.tables.length tc,iv] 25) (.cells (sA kind name table col (.slice co cols.length cc) rowsv setsv frmv outv op xk xn xs s nmv n8 sl order down n) 36)
 have hsl :=Ge hil
 have HG :=fun (W :World) (h :Below w.heap.size w W) =>Nb ⟨name,cols⟩ (.slice co cols.length cc) C W (hcl.keep (Af (h.mono hC))) (Nat.le_trans hC h.size) hf
 have HX : ∃ (b :Bool),(Cr ct.tables name).isSome=b∧Calls Tryz.prog 6 #[.agg #[.slice to' ct.tables.length tc,iv], .string name] ((w.alloc (.cells #[.slice to' ct.tables.length tc,iv] 25)).alloc (.cells (sA kind name table col (.slice co cols.length cc) rowsv setsv frmv outv op xk xn xs s nmv n8 sl order down n) 36)) fun e w'=> ∃ (tn :Wd) (ao :Option Addr) (k c :Nat),e= .returned (.tuple #[.agg #[.string tn, .slice ao k c], .bool b]) ∧Below ((w.alloc (.cells #[.slice to' ct.tables.length tc,iv] 25)).alloc (.cells (sA kind name table col (.slice co cols.length cc) rowsv setsv frmv outv op xk xn xs s nmv n8 sl order down n) 36)).heap.size ((w.alloc (.cells #[.slice to' ct.tables.length tc,iv] 25)).alloc (.cells (sA kind name table col (.slice co cols.length cc) rowsv setsv frmv outv op xk xn xs s nmv n8 sl order down n) 36)) w' :=by
  rcases htab :Cr ct.tables name with _ | t
  ·refine ⟨false,rfl,(Fp htab (.slice to' ct.tables.length tc) iv hsl C _ (htl.keep (Af (hb2.mono hC))) (Nat.le_trans hC hb2.size)).mono ?_⟩
   rintro e w1 ⟨rfl,hb1⟩
   exact ⟨_,_,_,_,rfl,hb1⟩
  ·refine ⟨true,rfl,(Ev htab (.slice to' ct.tables.length tc) iv hsl C _ (htl.keep (Af (hb2.mono hC))) (Nat.le_trans hC hb2.size)).mono ?_⟩
   rintro e w1 ⟨ao2,n2,c2,rfl,hcL,hb1⟩
   exact ⟨_,_,_,_,rfl,hb1⟩
 obtain ⟨b,hb,HF⟩ :=HX
 have HE :Hid (If ct name cols=if Hy ⟨name,cols⟩ =false then 1 else if b then 4 else if 3≤ct.tables.length then 8 else 0) :=by show _=_;unfold If;rw [hb]
 generalize If ct name cols=R at HE
 generalize Hy ⟨name,cols⟩ =g at HE HG
 generalize ct.tables.length=tl at*
 clear htl hil hcl hb hsl
 have hlt0 :=lt_of_block hB0
 have hlt1 :=lt_of_block hB1
 have hlq : (3≤tl∧ (3 :Int) ≤ (tl :Int)) ∨ (¬3≤tl∧ ¬ (3 :Int) ≤ (tl :Int)) :=by omega
 cases g
 ·go_enter Tryz.func46,Tryz.ntmps46
  go_wp2_with (first | (go_at_call 6;go_fit HF;rintro e w1 ⟨tn,ao2,n2,c2,rfl,hb1⟩;have hbx :Below w.heap.size w (w1.alloc (.cells #[.string tn, .slice ao2 n2 c2] 43)) := (Ad hb2 hb1).alloc (Ad hb2 hb1).size _;have z1 :=Aa (Ac ((hb1.block _ hlt1).trans hB1) (.cells #[.string tn, .slice ao2 n2 c2] 43)) (j :=1) rfl;have z4 :=Aa (Ac ((hb1.block _ hlt1).trans hB1) (.cells #[.string tn, .slice ao2 n2 c2] 43)) (j :=4) rfl) | (go_at_call 77;go_fit (HG _ hbx);rintro e w2 ⟨rfl,hb3⟩))
  go_ret
  exact ⟨An (by rw [HE.out];rfl),Ad hbx hb3⟩
 ·cases b
  ·rcases hlq with ⟨l1,l2⟩ | ⟨l1,l2⟩
   all_goals
    go_enter Tryz.func46,Tryz.ntmps46
    go_wp2_with (first | (go_at_call 6;go_fit HF;rintro e w1 ⟨tn,ao2,n2,c2,rfl,hb1⟩;have hbx :Below w.heap.size w (w1.alloc (.cells #[.string tn, .slice ao2 n2 c2] 43)) := (Ad hb2 hb1).alloc (Ad hb2 hb1).size _;have z1 :=Aa (Ac ((hb1.block _ hlt1).trans hB1) (.cells #[.string tn, .slice ao2 n2 c2] 43)) (j :=1) rfl;have z4 :=Aa (Ac ((hb1.block _ hlt1).trans hB1) (.cells #[.string tn, .slice ao2 n2 c2] 43)) (j :=4) rfl;have y0 :=Aa (Ac ((hb1.block _ hlt0).trans hB0) (.cells #[.string tn, .slice ao2 n2 c2] 43)) (j :=0) rfl;have hltx :=lt_of_block (Ac ((hb1.block _ hlt0).trans hB0) (.cells #[.string tn, .slice ao2 n2 c2] 43))) | (go_at_call 77;go_fit (HG _ hbx);rintro e w2 ⟨rfl,hb3⟩;have x0 := (hb3.cell (p := ⟨w.heap.size,0,none⟩) hltx).trans y0))
    go_ret
    exact ⟨An (by rw [HE.out];simp [l1]),Ad hbx hb3⟩
  ·go_enter Tryz.func46,Tryz.ntmps46
   go_wp2_with (first | (go_at_call 6;go_fit HF;rintro e w1 ⟨tn,ao2,n2,c2,rfl,hb1⟩;have hbx :Below w.heap.size w (w1.alloc (.cells #[.string tn, .slice ao2 n2 c2] 43)) := (Ad hb2 hb1).alloc (Ad hb2 hb1).size _;have z1 :=Aa (Ac ((hb1.block _ hlt1).trans hB1) (.cells #[.string tn, .slice ao2 n2 c2] 43)) (j :=1) rfl;have z4 :=Aa (Ac ((hb1.block _ hlt1).trans hB1) (.cells #[.string tn, .slice ao2 n2 c2] 43)) (j :=4) rfl) | (go_at_call 77;go_fit (HG _ hbx);rintro e w2 ⟨rfl,hb3⟩))
   go_ret
   exact ⟨An (by rw [HE.out];rfl),Ad hbx hb3⟩
set_option maxRecDepth 100000 in
set_option maxHeartbeats 2000000 in
theorem Xb (x :IdxD) (pb :Nat) (name :Wd) (w :World) (hp :w.cell? ⟨pb,1,none⟩ =some (.string name)) (hpb :pb<w.heap.size) :
  Calls Tryz.prog 90 #[.agg #[.string x.name, .string x.table, .string x.col], .pointer (some ⟨pb,0,none⟩)] w fun e w'=>e= .returned (.bool (Li name x)) ∧Below w.heap.size w w' :=by
 have hbx :=Ao w (.cells #[.string x.name, .string x.table, .string x.col] 89)
 have h1 := (hbx.cell (p := ⟨pb,1,none⟩) hpb).trans hp
 have E :Hid (Li name x= (x.name.toList==name.toList)) :=by show _=_;rw [Li,G5]
 generalize Li name x=r at E
 go_enter Tryz.func90,Tryz.ntmps90
 go_wp2
 go_ret
 exact ⟨Ag E.out.symm,hbx⟩
set_option maxRecDepth 100000 in
set_option maxHeartbeats 8000000 in
theorem Yq (ct :CatD) (cv :Value) (C :Nat) (w :World) (hc :Cz (fun k=>k<C) w ct cv) (hC :C≤w.heap.size)
  (kind :Int) (name table col :Wd) (colsv rowsv setsv frmv outv :Value) (op xk xn :Int) (xs s nmv :Wd) (n8 :Int) (sl order :Value) (down :Bool) (n :Int) (hs :name.size≤maxLen) :
  Calls Tryz.prog 47 #[cv, .agg (sA kind name table col colsv rowsv setsv frmv outv op xk xn xs s nmv n8 sl order down n)] w fun r w'=>r= .returned (.int .i64 (My ct name table col)) ∧Below w.heap.size w w' :=by
 obtain ⟨tv,iv,rfl,htl,hil⟩ :=hc
 obtain ⟨io,ic,rfl⟩ :=hil.shape
 obtain ⟨to',tc,rfl⟩ :=htl.shape
 have hb2 :=Bb w (.cells #[.slice to' ct.tables.length tc, .slice io ct.indexes.length ic] 25) (.cells (sA kind name table col colsv rowsv setsv frmv outv op xk xn xs s nmv n8 sl order down n) 36)
 have hB0 : ((w.alloc (.cells #[.slice to' ct.tables.length tc, .slice io ct.indexes.length ic] 25)).alloc (.cells (sA kind name table col colsv rowsv setsv frmv outv op xk xn xs s nmv n8 sl order down n) 36)).heap[w.heap.size]? =some (.cells #[.slice to' ct.tables.length tc, .slice io ct.indexes.length ic] 25) :=Ac (Ab _ _) _
 have hB1 :=Aq w (.cells #[.slice to' ct.tables.length tc, .slice io ct.indexes.length ic] 25) (.cells (sA kind name table col colsv rowsv setsv frmv outv op xk xn xs s nmv n8 sl order down n) 36)
 have HN :=fun W=>Ib name W hs
 have HH :=Rn ct.tables (.slice to' ct.tables.length tc) (.slice io ct.indexes.length ic) ⟨_,_,_,rfl⟩ table col C _ (htl.keep (Af (hb2.mono hC))) (Nat.le_trans hC hb2.size)
 have hlt0 :=lt_of_block hB0
 have hlt1 :=lt_of_block hB1
 have b1 :=Aa hB1 (j :=1) rfl
 have HC :=fun (W :World) (hW :Below ((w.alloc (.cells #[.slice to' ct.tables.length tc, .slice io ct.indexes.length ic] 25)).alloc (.cells (sA kind name table col colsv rowsv setsv frmv outv op xk xn xs s nmv n8 sl order down n) 36)).heap.size ((w.alloc (.cells #[.slice to' ct.tables.length tc, .slice io ct.indexes.length ic] 25)).alloc (.cells (sA kind name table col colsv rowsv setsv frmv outv op xk xn xs s nmv n8 sl order down n) 36)) W) =>Qh ct.indexes (fun k=>k<C) io ct.indexes.length ic (.pointer (some ⟨w.heap.size+1,0,none⟩)) (atI ct.indexes (Li name))
  (fun _ W'=>Below W.heap.size W W') (fun W'=>Below W.heap.size W W') W (fun _ _ h=>h) (fun _ W' h=> (hil.keep (Af (hb2.mono hC))).keep (Af ((hW.trans (h.mono hW.size)).mono (Nat.le_trans hC hb2.size))))
  (by
   rintro i x cs W' hx h rfl
   refine (Xb x (w.heap.size+1) name W' ((h.cell (p := ⟨w.heap.size+1,1,none⟩) (Nat.lt_of_lt_of_le hlt1 hW.size)).trans ((hW.cell (p := ⟨w.heap.size+1,1,none⟩) hlt1).trans b1)) (Nat.lt_of_lt_of_le hlt1 (Nat.le_trans hW.size h.size))).mono ?_
   rintro e W2 ⟨rfl,hb⟩
   exact ⟨by simp [atI,hx],Ad h hb,fun _=>Ad h hb⟩)
  (Below.refl _ _)
 have HE :Hid (My ct name table col=if nm name=false then 1 else if I5 ct.tables table col=false then 3 else if Ay (atI ct.indexes (Li name)) 0 ct.indexes.length then 4 else if 4≤ct.indexes.length then 8 else 0) :=rfl
 generalize My ct name table col=R at HE
 generalize nm name=gn at HE HN
 generalize I5 ct.tables table col=gh at HE HH
 generalize Ay (atI ct.indexes (Li name)) 0 ct.indexes.length=gc at HE HC
 generalize ct.indexes.length=il at*
 clear htl hil
 have hlq : (4≤il∧ (4 :Int) ≤ (il :Int)) ∨ (¬4≤il∧ ¬ (4 :Int) ≤ (il :Int)) :=by omega
 cases gn
 ·go_enter Tryz.func47,Tryz.ntmps47
  go_wp2_with (first | (go_at_call 82;go_fit (HN _);rintro e w1 ⟨rfl,rfl⟩))
  go_ret
  exact ⟨An (by rw [HE.out];rfl),hb2⟩
 ·cases gh
  ·go_enter Tryz.func47,Tryz.ntmps47
   go_wp2_with (first | (go_at_call 82;go_fit (HN _);rintro e w1 ⟨rfl,rfl⟩) | (go_at_call 83;go_fit HH;rintro e w2 ⟨rfl,hb3⟩))
   go_ret
   exact ⟨An (by rw [HE.out];rfl),Ad hb2 hb3⟩
  ·cases gc
   ·rcases hlq with ⟨l1,l2⟩ | ⟨l1,l2⟩
    all_goals
     go_enter Tryz.func47,Tryz.ntmps47
     go_wp2_with (first | (go_at_call 82;go_fit (HN _);rintro e w1 ⟨rfl,rfl⟩) | (go_at_call 83;go_fit HH;rintro e w2 ⟨rfl,hb3⟩;have y1 := (hb3.cell (p := ⟨w.heap.size,1,none⟩) hlt0).trans (Aa hB0 (j :=1) rfl);have hlx :=Nat.lt_of_lt_of_le hlt0 hb3.size) | (go_at_call 84;go_fit (HC _ hb3);rintro e w4 ⟨rfl,hb4⟩;have y2 := (hb4.cell (p := ⟨w.heap.size,1,none⟩) hlx).trans y1))
     go_ret
     exact ⟨An (by rw [HE.out];simp [l1]),Ad (Ad hb2 hb3) hb4⟩
   ·go_enter Tryz.func47,Tryz.ntmps47
    go_wp2_with (first | (go_at_call 82;go_fit (HN _);rintro e w1 ⟨rfl,rfl⟩) | (go_at_call 83;go_fit HH;rintro e w2 ⟨rfl,hb3⟩;have y1 := (hb3.cell (p := ⟨w.heap.size,1,none⟩) hlt0).trans (Aa hB0 (j :=1) rfl)) | (go_at_call 84;go_fit (HC _ hb3);rintro e w4 ⟨rfl,hb4⟩))
    go_ret
    exact ⟨An (by rw [HE.out];rfl),Ad (Ad hb2 hb3) hb4⟩
end Go.Proofs.YthehiijgnepcfaaGreat

