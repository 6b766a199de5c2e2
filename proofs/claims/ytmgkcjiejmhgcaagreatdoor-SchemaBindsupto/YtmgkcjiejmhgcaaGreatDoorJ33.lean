/-
  2 texts of this proof in one, in build order: KCat2, BCat.
-/
import Derived.Test.YtmgkcjiejmhgcaaGreatDoorJ05
import Derived.Test.YtmgkcjiejmhgcaaGreatDoorJ19
import Derived.Test.YtmgkcjiejmhgcaaGreatDoorJ29
import Derived.Test.YtmgkcjiejmhgcaaGreatDoorJ32
set_option linter.unusedSimpArgs false
set_option linter.unusedVariables false
namespace Go.Proofs.YtmgkcjiejmhgcaaGreatDoor
open Go.RowKit
def Dt (l :List Wd) :Nat→Wd
 | 0=>noW
 | k+1=>l.getD k noW
def Dm (T :List TabD) (n :Nat) :Nat→Bool
 | 0=>decide (T.length<4) &&decide (n<5)
 | k+1=>Dm T n k&&match T[k]? with
  | some t=>F9 t&&Op.bytesLess (Dt (T.map TabD.name) k).toList t.name.toList
  | none=>true
def Me (T :List TabD) (la :Wd) (x :IdxD) :Bool :=match A5 T x.table with
 | none=>false
 | some t=>nm x.name&&Op.bytesLess la.toList x.name.toList&&decide (0≤Bk t.cols x.col)
def Ev (T :List TabD) (I :List IdxD) :Nat→Bool
 | 0=>Dm T I.length T.length
 | k+1=>Ev T I k&&match I[k]? with
  | some x=>Me T (Dt (I.map IdxD.name) k) x
  | none=>true
def L0 (c :CatD) :Bool :=Ev c.tables c.indexes c.indexes.length
theorem Wn (a b :Wd) : (!Op.bytesLess a.toList b.toList&& !(a.toList==b.toList)) =Op.bytesLess b.toList a.toList :=by
 have h1 :Op.bytesLess a.toList b.toList=klt a b :=rfl
 have h2 :Op.bytesLess b.toList a.toList=klt b a :=rfl
 rw [h1,h2,Bu]
 cases hk :klt b a with
 | true=>rw [Ln hk,decide_eq_false (Rd hk).symm];rfl
 | false=>
  rcases Zo hk with rfl | h3
  ·simp
  ·rw [h3];rfl
set_option maxRecDepth 100000 in
set_option maxHeartbeats 8000000 in
theorem Kv (ct :CatD) (v :Value) (C :Nat) (w :World) (h :Bh (fun k=>k<C) w ct v) (hC :C≤w.heap.size) (he :EnvM w) :
  Calls Tryz.prog 10 #[v] w fun e w'=>e= .returned (.bool (L0 ct)) ∧Below w.heap.size w w' :=by
 obtain ⟨T,I⟩ :=ct
 obtain ⟨tv,iv,rfl,hl,hi⟩ :=h
 simp only at hl hi
 obtain ⟨to',tc,rfl⟩ :=hl.shape
 obtain ⟨io,ic,rfl⟩ :=hi.shape
 have hlm := (Bj hl).2
 have him := (Bj hi).2
 unfold maxLen at hlm him
 have HT0 :Hid (∀ (k :Nat) (x :TabD),T[k]? =some x→ ∃b off so sc,to'=some ⟨b,off,none⟩ ∧b<w.heap.size∧w.cell? ⟨b,off+k*2,none⟩ =some (.string x.name) ∧w.cell? ⟨b,off+k*2+1,none⟩ =some (.slice so x.cols.length sc) ∧IsL Bg (fun k=>k<C) w (.slice so x.cols.length sc) x.cols) :=fun k x hx=>by
  obtain ⟨b,off,cs,hso,hbC,hbl,⟨sv,rfl,hsv⟩,hcell⟩ :=Av hl hx
  obtain ⟨so,sc,rfl⟩ :=hsv.shape
  exact ⟨b,off,so,sc,hso,hbl,hcell 0 _ rfl,hcell 1 _ rfl,hsv⟩
 have HI0 :Hid (∀ (k :Nat) (x :IdxD),I[k]? =some x→ ∃b off,io=some ⟨b,off,none⟩ ∧b<w.heap.size∧w.cell? ⟨b,off+k*3,none⟩ =some (.string x.name) ∧w.cell? ⟨b,off+k*3+1,none⟩ =some (.string x.table) ∧w.cell? ⟨b,off+k*3+2,none⟩ =some (.string x.col)) :=fun k x hx=>by
  obtain ⟨b,off,cs,hso,hbC,hbl,hR1,hcell⟩ :=Av hi hx
  obtain rfl :=hR1
  exact ⟨b,off,hso,hbl,hcell 0 _ rfl,hcell 1 _ rfl,hcell 2 _ rfl⟩
 have HTo0 :=fun s W (h :Below w.heap.size w W) =>F8 T (.slice to' T.length tc) (.slice io I.length ic) (Au _ _ _) s C W (hl.keep (Ag (h.mono hC))) (Nat.le_trans hC h.size)
 have hb1 :=Aq w (.cells #[.slice to' T.length tc, .slice io I.length ic] 25)
 have bC :=Ab w (.cells #[.slice to' T.length tc, .slice io I.length ic] 25)
 generalize hW :w.alloc (.cells #[.slice to' T.length tc, .slice io I.length ic] 25) =W1 at hb1 bC
 have HW :Hid _ :=hW
 clear hW hl hi
 have c0 :=Aa bC (j :=0) rfl
 have c1 :=Aa bC (j :=1) rfl
 have E :Hid (L0 ⟨T,I⟩ =Ev T I I.length) :=rfl
 generalize L0 ⟨T,I⟩ =q at E
 have E0 :Hid (Dm T I.length 0= (decide (T.length<4) &&decide (I.length<5))) :=rfl
 have EA :Hid (∀k x,T[k]? =some x→Dm T I.length (k+1) = (Dm T I.length k&& (F9 x&&Op.bytesLess (Dt (T.map TabD.name) k).toList x.name.toList)) ∧Dt (T.map TabD.name) (k+1) =x.name) :=fun k x hx=> ⟨by rw [Dm,hx],by simp [Dt,List.getD_eq_getElem?_getD,hx]⟩
 have EB :Hid (∀k x,I[k]? =some x→Ev T I (k+1) = (Ev T I k&& (match A5 T x.table with | none=>false | some t=>nm x.name&&Op.bytesLess (Dt (I.map IdxD.name) k).toList x.name.toList&&decide (0≤Bk t.cols x.col))) ∧Dt (I.map IdxD.name) (k+1) =x.name) :=fun k x hx=> ⟨by rw [Ev,hx];rfl,by simp [Dt,List.getD_eq_getElem?_getD,hx]⟩
 go_enter Tryz.func10,Tryz.ntmps10
 go_upto_region 1 with fail
 rw [HW.out]
 go_cut [3] from 11 (fun s3 wx=>s3= .bool (Dm T I.length 0) ∧Hid (W1=wx))
 case first=>
  by_cases h4 :T.length<4
  ·by_cases h5 :I.length<5
   ·have q0 : (T.length :Int) <4 :=by omega
    have q1 : (I.length :Int) <5 :=by omega
    go_wp2
    go_meet
    case rel=>exact ⟨by rw [E0.out,decide_eq_true h4,decide_eq_true h5];rfl,Fn (by first | exact rfl | exact trivial)⟩
   ·have q0 : (T.length :Int) <4 :=by omega
    have q1 : ¬ (I.length :Int) <5 :=by omega
    go_wp2
    go_meet
    case rel=>exact ⟨by rw [E0.out,decide_eq_false h5];simp;try omega,Fn (by first | exact rfl | exact trivial)⟩
  ·have q0 : ¬ (T.length :Int) <4 :=by omega
   go_wp2
   go_meet
   case rel=>exact ⟨by rw [E0.out,decide_eq_false h4];rfl,Fn (by first | exact rfl | exact trivial)⟩
 case rest=>
  obtain ⟨rfl,HWc⟩ :=hcut
  have hwc :=HWc.out
  subst hwc
  clear HWc E0
  go_wp2
  go_loopw [3,4,24] (fun okv lv i wr=> ∃k :Nat,k≤T.length∧i= .int .i64 k∧okv= .bool (Dm T I.length k) ∧lv= .string (Dt (T.map TabD.name) k) ∧Below W1.heap.size W1 wr) (fun _ _ i _=>T.length - (intOf i).toNat)
  case atStart=>exact ⟨0,Nat.zero_le _,rfl,rfl,rfl,Below.refl _ _⟩
  case round=>
   obtain ⟨k,hk,rfl,rfl,rfl,hbel⟩ :=hrel
   have hbw :Below w.heap.size w wr :=hb1.trans (hbel.mono hb1.size)
   have hs1 :=hb1.size
   have hsz :=hbel.size
   by_cases hlt :k<T.length
   ·obtain ⟨x,hx⟩ : ∃x,T[k]? =some x := ⟨_,List.getElem?_eq_getElem hlt⟩
    obtain ⟨b,off,so,sc,hso,hbl,g0,g1,hcol⟩ :=HT0.out k x hx
    cases hso
    have d0 := (hbw.cell (p := ⟨b,off+k*2,none⟩) hbl).trans g0
    have d1 := (hbw.cell (p := ⟨b,off+k*2+1,none⟩) hbl).trans g1
    have hbx :=Aq wr (.cells #[.string x.name, .slice so x.cols.length sc] 47)
    have bX :=Ab wr (.cells #[.string x.name, .slice so x.cols.length sc] 47)
    have hbwx :Below w.heap.size w (wr.alloc (.cells #[.string x.name, .slice so x.cols.length sc] 47)) :=hbw.alloc (by omega) _
    have HTx :=Jp x (.slice so x.cols.length sc) C (wr.alloc (.cells #[.string x.name, .slice so x.cols.length sc] 47)) (hcol.keep (Ag (hbwx.mono hC))) (Nat.le_trans hC hbwx.size) (he.next hbwx)
    have v0 : (0 :Int) ≤ (k :Int) :=by omega
    have v1 : (k :Int) < (T.length :Int) :=by omega
    have hEK := (EA.out k x hx).1
    have HLN :Hid _ := (EA.out k x hx).2
    obtain ⟨r,hrr⟩ : ∃r,Dm T I.length (k+1) =r := ⟨_,rfl⟩
    rw [hrr] at hEK
    have HR0 :Hid _ :=hrr
    have HEK :Hid _ :=hEK
    clear hrr hEK hx g0 g1 hcol
    generalize Dm T I.length k=ok at HEK
    generalize Dt (T.map TabD.name) k=la at HEK
    generalize F9 x=b1 at HTx HEK
    obtain ⟨xn,xcols⟩ :=x
    simp only at*
    generalize xcols.length=xl at*
    cases ok
    ·have x0 :=Aa bX (j :=0) rfl
     have HR :Hid (r=false) :=by show _=_;rw [HEK.out];rfl
     clear HEK
     go_wp2
     go_roundw
     case rel=>exact ⟨k+1,by omega,by go_num,by rw [HR0.out,HR.out],by rw [HLN.out],hbel.trans (hbx.mono hsz)⟩
     case measure=>simp [intOf];omega
    cases b1
    ·have HR :Hid (r=false) :=by show _=_;rw [HEK.out];rfl
     clear HEK
     go_wp2_with (first | (go_at_call 14;go_fit HTx;rintro e w2 ⟨rfl,hb2⟩;have hB2 :Below wr.heap.size wr w2 :=Ak hbx hb2;have bX2 := (hb2.block _ (lt_of_block bX)).trans bX;have x0 :=Aa bX2 (j :=0) rfl;have x1 :=Aa bX2 (j :=1) rfl))
     go_roundw
     case rel=>exact ⟨k+1,by omega,by go_num,by rw [HR0.out,HR.out],by rw [HLN.out],hbel.trans (hB2.mono hsz)⟩
     case measure=>simp [intOf];omega
    have HR :Hid (r=Op.bytesLess la.toList xn.toList) :=by show _=_;rw [HEK.out];rfl
    clear HEK
    go_wp2_with (first | (go_at_call 14;go_fit HTx;rintro e w2 ⟨rfl,hb2⟩;have hB2 :Below wr.heap.size wr w2 :=Ak hbx hb2;have bX2 := (hb2.block _ (lt_of_block bX)).trans bX;have x0 :=Aa bX2 (j :=0) rfl;have x1 :=Aa bX2 (j :=1) rfl))
    go_roundw
    case rel=>exact ⟨k+1,by omega,by go_num,by rw [HR0.out,HR.out,Wn],by rw [HLN.out],hbel.trans (hB2.mono hsz)⟩
    case measure=>simp [intOf];omega
   ·have hkn :k=T.length :=by omega
    subst hkn
    have v1 : ¬ ((T.length :Int) < (T.length :Int)) :=by omega
    have bC' := (hbel.block _ (lt_of_block bC)).trans bC
    have e1 :=Aa bC' (j :=1) rfl
    clear EA HT0
    go_wp2
    go_loopw [3,4,45] (fun okv lv i wr=> ∃k :Nat,k≤I.length∧i= .int .i64 k∧okv= .bool (Ev T I k) ∧lv= .string (Dt (I.map IdxD.name) k) ∧Below W1.heap.size W1 wr) (fun _ _ i _=>I.length - (intOf i).toNat)
    case atStart=>exact ⟨0,Nat.zero_le _,rfl,rfl,rfl,hbel⟩
    case round=>
     obtain ⟨k,hk,rfl,rfl,rfl,hbel⟩ :=hrel
     have hbw :Below w.heap.size w wr :=hb1.trans (hbel.mono hb1.size)
     have hsz :=hbel.size
     by_cases hlt :k<I.length
     ·obtain ⟨x,hx⟩ : ∃x,I[k]? =some x := ⟨_,List.getElem?_eq_getElem hlt⟩
      obtain ⟨b,off,hso,hbl,g0,g1,g2⟩ :=HI0.out k x hx
      cases hso
      have d0 := (hbw.cell (p := ⟨b,off+k*3,none⟩) hbl).trans g0
      have d1 := (hbw.cell (p := ⟨b,off+k*3+1,none⟩) hbl).trans g1
      have d2 := (hbw.cell (p := ⟨b,off+k*3+2,none⟩) hbl).trans g2
      have hbx :=Aq wr (.cells #[.string x.name, .string x.table, .string x.col] 64)
      have bX :=Ab wr (.cells #[.string x.name, .string x.table, .string x.col] 64)
      have hbwx :Below w.heap.size w (wr.alloc (.cells #[.string x.name, .string x.table, .string x.col] 64)) :=hbw.alloc (by omega) _
      have bCx := (hbx.block _ (lt_of_block ((hbel.block _ (lt_of_block bC)).trans bC))).trans ((hbel.block _ (lt_of_block bC)).trans bC)
      have f0 :=Aa bCx (j :=0) rfl
      have f1 :=Aa bCx (j :=1) rfl
      have HTo :=HTo0 x.table _ hbwx
      unfold J1 at HTo
      have HNx :=fun W (h :Below w.heap.size w W) =>Gx x.name W (he.next h)
      have v0 : (0 :Int) ≤ (k :Int) :=by omega
      have v1 : (k :Int) < (I.length :Int) :=by omega
      have hEK := (EB.out k x hx).1
      have HLN :Hid _ := (EB.out k x hx).2
      obtain ⟨r,hrr⟩ : ∃r,Ev T I (k+1) =r := ⟨_,rfl⟩
      rw [hrr] at hEK
      have HR0 :Hid _ :=hrr
      have HEK :=hEK
      clear hrr hEK hx g0 g1 g2
      generalize Ev T I k=ok at HEK
      generalize Dt (I.map IdxD.name) k=la at HEK
      generalize nm x.name=b1 at HNx HEK
      obtain ⟨xn,xt,xc⟩ :=x
      simp only at*
      cases hto :A5 T xt
      ·rw [hto] at HTo
       simp only at HTo
       cases ok
       ·have HR :Hid (r=false) :=by show _=_;rw [HEK];rfl
        clear HEK hto
        go_wp2_with (first | (go_at_call 18;go_fit HTo;rintro e w2 ⟨nmv,so,sn,sc,th,rfl,⟨rfl,rfl,rfl,rfl,rfl⟩,hb2⟩;have hB2 :Below wr.heap.size wr w2 :=Ak hbx hb2;have bX2 := (hb2.block _ (lt_of_block bX)).trans bX;have hbt :=Aq w2 (.cells #[.string noW, .slice none 0 0] 47);have bX3 := (hbt.block _ (lt_of_block bX2)).trans bX2;have x0 :=Aa bX3 (j :=0) rfl;have x2 :=Aa bX3 (j :=2) rfl;have hB3 :=Ak hB2 hbt))
        go_roundw
        case rel=>exact ⟨k+1,by omega,by go_num,by rw [HR0.out,HR.out],by rw [HLN.out],hbel.trans (hB3.mono hsz)⟩
        case measure=>simp [intOf];omega
       ·have HR :Hid (r=false) :=by show _=_;rw [HEK];rw [hto];rfl
        clear HEK hto
        go_wp2_with (first | (go_at_call 18;go_fit HTo;rintro e w2 ⟨nmv,so,sn,sc,th,rfl,⟨rfl,rfl,rfl,rfl,rfl⟩,hb2⟩;have hB2 :Below wr.heap.size wr w2 :=Ak hbx hb2;have bX2 := (hb2.block _ (lt_of_block bX)).trans bX;have hbt :=Aq w2 (.cells #[.string noW, .slice none 0 0] 47);have bX3 := (hbt.block _ (lt_of_block bX2)).trans bX2;have x0 :=Aa bX3 (j :=0) rfl;have x2 :=Aa bX3 (j :=2) rfl;have hB3 :=Ak hB2 hbt))
        go_roundw
        case rel=>exact ⟨k+1,by omega,by go_num,by rw [HR0.out,HR.out],by rw [HLN.out],hbel.trans (hB3.mono hsz)⟩
        case measure=>simp [intOf];omega
      ·rename_i t
       rw [hto] at HTo
       simp only at HTo
       rw [hto] at HEK
       simp only at HEK
       have HCx :=fun W sv hl=>H9 t.cols t.name sv xc C W hl
       generalize Bk t.cols xc=ca at HEK HCx
       clear hto
       cases ok
       ·have HR :Hid (r=false) :=by show _=_;rw [HEK];rfl
        clear HEK
        go_wp2_with (first | (go_at_call 18;go_fit HTo;rintro e w2 ⟨nmv,so,sn,sc,th,rfl,⟨rfl,rfl,hl2⟩,hb2⟩;have hB2 :Below wr.heap.size wr w2 :=Ak hbx hb2;have bX2 := (hb2.block _ (lt_of_block bX)).trans bX;have hbt :=Aq w2 (.cells #[.string t.name, .slice so sn sc] 47);have bt :=Ab w2 (.cells #[.string t.name, .slice so sn sc] 47);have bX3 := (hbt.block _ (lt_of_block bX2)).trans bX2;have x0 :=Aa bX3 (j :=0) rfl;have x2 :=Aa bX3 (j :=2) rfl;have hB3 :=Ak hB2 hbt))
        go_roundw
        case rel=>exact ⟨k+1,by omega,by go_num,by rw [HR0.out,HR.out],by rw [HLN.out],hbel.trans (hB3.mono hsz)⟩
        case measure=>simp [intOf];omega
       cases b1
       ·have HR :Hid (r=false) :=by show _=_;rw [HEK];rfl
        clear HEK
        go_wp2_with (first | (go_at_call 18;go_fit HTo;rintro e w2 ⟨nmv,so,sn,sc,th,rfl,⟨rfl,rfl,hl2⟩,hb2⟩;have hB2 :Below wr.heap.size wr w2 :=Ak hbx hb2;have bX2 := (hb2.block _ (lt_of_block bX)).trans bX;have hbt :=Aq w2 (.cells #[.string t.name, .slice so sn sc] 47);have bt :=Ab w2 (.cells #[.string t.name, .slice so sn sc] 47);have bX3 := (hbt.block _ (lt_of_block bX2)).trans bX2;have x0 :=Aa bX3 (j :=0) rfl;have x2 :=Aa bX3 (j :=2) rfl;have hB3 :=Ak hB2 hbt) | (go_at_call 27;go_fit (HNx _ (hbw.trans (hB3.mono (by omega))));rintro e w4 ⟨rfl,hb4⟩;have hB4 :=Ak hB3 hb4;have bX4 := (hb4.block _ (lt_of_block bX3)).trans bX3;have y0 :=Aa bX4 (j :=0) rfl;have y2 :=Aa bX4 (j :=2) rfl;have bt4 := (hb4.block _ (lt_of_block bt)).trans bt;have z0 :=Aa bt4 (j :=0) rfl;have z1 :=Aa bt4 (j :=1) rfl))
        go_roundw
        case rel=>exact ⟨k+1,by omega,by go_num,by rw [HR0.out,HR.out],by rw [HLN.out],hbel.trans (hB4.mono hsz)⟩
        case measure=>simp [intOf];omega
       have hgs :=Wn xn la
       cases hgt :Op.bytesLess la.toList xn.toList
       ·rw [hgt] at hgs
        have HR :Hid (r=false) :=by show _=_;rw [HEK];rw [hgt];rfl
        clear HEK hgt
        go_wp2_with (first | (go_at_call 18;go_fit HTo;rintro e w2 ⟨nmv,so,sn,sc,th,rfl,⟨rfl,rfl,hl2⟩,hb2⟩;have hB2 :Below wr.heap.size wr w2 :=Ak hbx hb2;have bX2 := (hb2.block _ (lt_of_block bX)).trans bX;have hbt :=Aq w2 (.cells #[.string t.name, .slice so sn sc] 47);have bt :=Ab w2 (.cells #[.string t.name, .slice so sn sc] 47);have bX3 := (hbt.block _ (lt_of_block bX2)).trans bX2;have x0 :=Aa bX3 (j :=0) rfl;have x2 :=Aa bX3 (j :=2) rfl;have hB3 :=Ak hB2 hbt) | (go_at_call 27;go_fit (HNx _ (hbw.trans (hB3.mono (by omega))));rintro e w4 ⟨rfl,hb4⟩;have hB4 :=Ak hB3 hb4;have bX4 := (hb4.block _ (lt_of_block bX3)).trans bX3;have y0 :=Aa bX4 (j :=0) rfl;have y2 :=Aa bX4 (j :=2) rfl;have bt4 := (hb4.block _ (lt_of_block bt)).trans bt;have z0 :=Aa bt4 (j :=0) rfl;have z1 :=Aa bt4 (j :=1) rfl))
        go_roundw
        case rel=>exact ⟨k+1,by omega,by go_num,by rw [HR0.out,HR.out],by rw [HLN.out],hbel.trans (hB4.mono hsz)⟩
        case measure=>simp [intOf];omega
       rw [hgt] at hgs
       by_cases hca :0≤ca
       ·have HR :Hid (r=true) :=by show _=_;rw [HEK];rw [hgt,decide_eq_true hca];rfl
        clear HEK hgt
        go_wp2_with (first | (go_at_call 18;go_fit HTo;rintro e w2 ⟨nmv,so,sn,sc,th,rfl,⟨rfl,rfl,hl2⟩,hb2⟩;have hB2 :Below wr.heap.size wr w2 :=Ak hbx hb2;have bX2 := (hb2.block _ (lt_of_block bX)).trans bX;have hbt :=Aq w2 (.cells #[.string t.name, .slice so sn sc] 47);have bt :=Ab w2 (.cells #[.string t.name, .slice so sn sc] 47);have bX3 := (hbt.block _ (lt_of_block bX2)).trans bX2;have x0 :=Aa bX3 (j :=0) rfl;have x2 :=Aa bX3 (j :=2) rfl;have hB3 :=Ak hB2 hbt) | (go_at_call 27;go_fit (HNx _ (hbw.trans (hB3.mono (by omega))));rintro e w4 ⟨rfl,hb4⟩;have hB4 :=Ak hB3 hb4;have bX4 := (hb4.block _ (lt_of_block bX3)).trans bX3;have y0 :=Aa bX4 (j :=0) rfl;have y2 :=Aa bX4 (j :=2) rfl;have bt4 := (hb4.block _ (lt_of_block bt)).trans bt;have z0 :=Aa bt4 (j :=0) rfl;have z1 :=Aa bt4 (j :=1) rfl) | (go_at_call 16;go_fit (HCx _ _ (IsL.keep (IsL.keep hl2 (Ar hbt)) (Ar hb4)));rintro e w5 ⟨rfl,hb5⟩;have hB5 :=Ak hB4 hb5;have bX5 := (hb5.block _ (lt_of_block bX4)).trans bX4;have a0 :=Aa bX5 (j :=0) rfl))
        go_roundw
        case rel=>exact ⟨k+1,by omega,by go_num,by rw [HR0.out,HR.out],by rw [HLN.out],hbel.trans (hB5.mono hsz)⟩
        case measure=>simp [intOf];omega
       ·have HR :Hid (r=false) :=by show _=_;rw [HEK];rw [hgt,decide_eq_false hca];rfl
        clear HEK hgt
        go_wp2_with (first | (go_at_call 18;go_fit HTo;rintro e w2 ⟨nmv,so,sn,sc,th,rfl,⟨rfl,rfl,hl2⟩,hb2⟩;have hB2 :Below wr.heap.size wr w2 :=Ak hbx hb2;have bX2 := (hb2.block _ (lt_of_block bX)).trans bX;have hbt :=Aq w2 (.cells #[.string t.name, .slice so sn sc] 47);have bt :=Ab w2 (.cells #[.string t.name, .slice so sn sc] 47);have bX3 := (hbt.block _ (lt_of_block bX2)).trans bX2;have x0 :=Aa bX3 (j :=0) rfl;have x2 :=Aa bX3 (j :=2) rfl;have hB3 :=Ak hB2 hbt) | (go_at_call 27;go_fit (HNx _ (hbw.trans (hB3.mono (by omega))));rintro e w4 ⟨rfl,hb4⟩;have hB4 :=Ak hB3 hb4;have bX4 := (hb4.block _ (lt_of_block bX3)).trans bX3;have y0 :=Aa bX4 (j :=0) rfl;have y2 :=Aa bX4 (j :=2) rfl;have bt4 := (hb4.block _ (lt_of_block bt)).trans bt;have z0 :=Aa bt4 (j :=0) rfl;have z1 :=Aa bt4 (j :=1) rfl) | (go_at_call 16;go_fit (HCx _ _ (IsL.keep (IsL.keep hl2 (Ar hbt)) (Ar hb4)));rintro e w5 ⟨rfl,hb5⟩;have hB5 :=Ak hB4 hb5;have bX5 := (hb5.block _ (lt_of_block bX4)).trans bX4;have a0 :=Aa bX5 (j :=0) rfl))
        go_roundw
        case rel=>exact ⟨k+1,by omega,by go_num,by rw [HR0.out,HR.out,decide_eq_false (show ¬0≤ca by omega)],by rw [HLN.out],hbel.trans (hB5.mono hsz)⟩
        case measure=>simp [intOf];omega
     ·have hkn :k=I.length :=by omega
      subst hkn
      have v1 : ¬ ((I.length :Int) < (I.length :Int)) :=by omega
      go_wp2
      go_ret
      exact ⟨Aj (by rw [E.out]),hb1.trans (hbel.mono hb1.size)⟩
end Go.Proofs.YtmgkcjiejmhgcaaGreatDoor

namespace Go.Proofs.YtmgkcjiejmhgcaaGreatDoor
open Go.RowKit
theorem Od {t :TabD} : ∀ {k :Nat},C8 t k=true↔C8 t 0=true∧ ∀j c,j<k→t.cols[j]? =some c→Jx t.cols j c=true
 | 0=> ⟨fun h=> ⟨h,fun j c hj=>absurd hj (Nat.not_lt_zero _)⟩,fun h=>h.1⟩
 | k+1=>by
  rw [show C8 t (k+1) = (C8 t k&&match t.cols[k]? with | some c=>Jx t.cols k c | none=>true) from rfl,Bool.and_eq_true,Od (k :=k)]
  constructor
  ·rintro ⟨⟨h1,h2⟩,h3⟩
   refine ⟨h1,fun j c hj hc=> ?_⟩
   rcases Nat.lt_succ_iff_lt_or_eq.1 hj with h | h
   ·exact h2 j c h hc
   ·subst h;rw [hc] at h3;exact h3
  ·rintro ⟨h1,h2⟩
   refine ⟨⟨h1,fun j c hj hc=>h2 j c (by omega) hc⟩, ?_⟩
   cases hc :t.cols[k]? with
   | none=>rfl
   | some c=>exact h2 k c (by omega) hc
theorem Wo {l :List ColD} {k :Nat} {c :ColD} (hc :l[k]? =some c) :Bk l c.name= (k :Int) ↔ ∀y∈l.take k,y.name≠c.name :=by
 have hk := (List.getElem?_eq_some_iff.1 hc).1
 rcases F5 (atI l fun x=>decide (x.name=c.name)) l.length 0 with ⟨h1,h2⟩ | ⟨m,_,h2,h3,h4,h5⟩
 ·have :=h2 k (Nat.zero_le _) (by omega)
  rw [Cn hc] at this
  simp at this
 ·have e :Bk l c.name= (m :Int) :=h3
  rw [e]
  constructor
  ·intro hm y hy
   have :m=k :=by omega
   subst this
   obtain ⟨j,hj⟩ :=List.mem_iff_getElem?.1 hy
   have hjm :j<m :=by have := (List.getElem?_eq_some_iff.1 hj).1;rw [List.length_take] at this;omega
   rw [List.getElem?_take_of_lt hjm] at hj
   have :=h5 j (Nat.zero_le _) hjm
   rw [Cn hj] at this
   simpa using this
  ·intro h
   have hle :m≤k :=by
    rcases Nat.lt_or_ge k m with hlt | hge
    ·have :=h5 k (Nat.zero_le _) hlt
     rw [Cn hc] at this
     simp at this
    ·exact hge
   rcases Nat.eq_or_lt_of_le hle with rfl | hlt
   ·rfl
   ·exfalso
    have hml :m<l.length :=by omega
    have hx :=List.getElem?_eq_getElem hml
    rw [Cn hx] at h4
    exact h l[m] (List.mem_of_getElem? (i :=m) (by rw [List.getElem?_take_of_lt hlt];exact hx)) (by simpa using h4)
theorem Hk (t :TabD) :F9 t=Cv t :=by
 rw [Bool.eq_iff_iff,F9,Od]
 simp only [C8,Cv,Ii,Bool.and_eq_true,decide_eq_true_eq,Bool.not_eq_true']
 have hcb :A1 (Em t.cols) 0 t.cols.length=false↔ ∀i c,t.cols[i]? =some c→Em t.cols i=false :=by
  constructor
  ·intro h i c hc
   exact Ir h i (Nat.zero_le _) (by have := (List.getElem?_eq_some_iff.1 hc).1;omega)
  ·intro h
   have : ∀n i,i+n≤t.cols.length→A1 (Em t.cols) i n=false :=by
    intro n
    induction n with
    | zero=>intro i _;rfl
    | succ n ih=>
     intro i hi
     rw [A1,h i _ (List.getElem?_eq_getElem (by omega)),ih (i+1) (by omega)]
     rfl
   exact this _ 0 (by omega)
 rw [hcb]
 have hst : ∀ (j :Nat) (c :ColD),t.cols[j]? =some c→ (Jx t.cols j c=true↔Em t.cols j=false∧ (0<j∨c.must=true)) :=fun j c hc=>by
  simp only [Jx,Em,hc,Gc,Bool.and_eq_true,Bool.or_eq_true,decide_eq_true_eq,Bool.or_eq_false_iff,Bool.not_eq_false',Wo hc,Dy,List.any_eq_false,List.mem_map]
  constructor
  ·rintro ⟨⟨⟨h1,h2⟩,h3⟩,h4⟩
   exact ⟨⟨⟨h1,h2⟩,by rintro x ⟨y,hy,rfl⟩;exact h3 y hy⟩,h4⟩
  ·rintro ⟨⟨⟨h1,h2⟩,h3⟩,h4⟩
   exact ⟨⟨⟨h1,h2⟩,fun y hy=>h3 _ ⟨y,hy,rfl⟩⟩,h4⟩
 constructor
 ·rintro ⟨⟨⟨h1,h2⟩,h3⟩,h4⟩
  refine ⟨⟨⟨⟨h1,by omega⟩,by omega⟩, ?_⟩,fun i c hc=> ((hst i c hc).1 (h4 i c (List.getElem?_eq_some_iff.1 hc).1 hc)).1⟩
  cases hcl :t.cols with
  | nil=>rw [hcl] at h2;simp at h2
  | cons c l=>
   have hc0 :t.cols[0]? =some c :=by rw [hcl];rfl
   rcases ((hst 0 c hc0).1 (h4 0 c h2 hc0)).2 with h | h
   ·omega
   ·exact h
 ·rintro ⟨⟨⟨⟨h1,h2⟩,h3⟩,h4⟩,h5⟩
  refine ⟨⟨⟨h1,by omega⟩,by omega⟩,fun j c _ hc=> (hst j c hc).2 ⟨h5 j c hc, ?_⟩⟩
  rcases Nat.eq_zero_or_pos j with rfl | h
  ·right
   cases hcl :t.cols with
   | nil=>rw [hcl] at hc;cases hc
   | cons c' l=>
    rw [hcl] at hc h4
    simp at hc
    subst hc
    exact h4
  ·exact .inl h
theorem Jj : ∀ (l :List Wd),(∀x∈l,x.size≠0) → ((∀ (j :Nat) (x :Wd),l[j]? =some x→Op.bytesLess (Dt l j).toList x.toList=true) ↔Dj l) :=by
 intro l hne
 constructor
 ·intro h
  have key : ∀ (i j :Nat) (x y :Wd),l[i]? =some x→l[j]? =some y→i<j→klt x y=true :=by
   intro i j
   induction j with
   | zero=>intro x y _ _ hij;omega
   | succ j ih=>
    intro x y hx hy hij
    have h1 :=h (j+1) y hy
    have hj :j<l.length :=by have := (List.getElem?_eq_some_iff.1 hy).1;omega
    have hl :Dt l (j+1) =l[j] :=by simp [Dt,List.getD,List.getElem?_eq_getElem hj]
    rw [hl] at h1
    rcases Nat.lt_succ_iff_lt_or_eq.1 hij with hh | hh
    ·exact H7 (ih x l[j] hx (List.getElem?_eq_getElem hj) hh) h1
    ·subst hh
     have :x=l[i] :=by rw [List.getElem?_eq_getElem hj] at hx;exact (Option.some.inj hx).symm
     rw [this]
     exact h1
  rw [Dj,List.pairwise_iff_getElem]
  intro i j hi hj hij
  exact key i j _ _ (List.getElem?_eq_getElem hi) (List.getElem?_eq_getElem hj) hij
 ·intro h j x hx
  have hjl := (List.getElem?_eq_some_iff.1 hx).1
  cases j with
  | zero=>
   have hx0 :=hne x (List.mem_of_getElem? hx)
   show Op.bytesLess (ByteArray.toList noW) x.toList=true
   rw [ByteArray.toList_eq,ByteArray.toList_eq]
   cases hd :x.data.toList with
   | nil=>exact absurd (show x.size=0 by rw [←ByteArray.size_data,←Array.length_toList,hd];rfl) hx0
   | cons a r=>rfl
  | succ j=>
   have hj :j<l.length :=by omega
   have hl :Dt l (j+1) =l[j] :=by simp [Dt,List.getD,List.getElem?_eq_getElem hj]
   rw [hl]
   rw [Dj,List.pairwise_iff_getElem] at h
   have :=h j (j+1) hj hjl (by omega)
   rw [List.getElem?_eq_getElem hjl] at hx
   rw [←Option.some.inj hx]
   exact this
theorem Mt {T :List TabD} {n :Nat} : ∀ {k :Nat},Dm T n k=true↔ (T.length<4∧n<5) ∧ ∀ (j :Nat) (t :TabD),j<k→T[j]? =some t→F9 t=true∧Op.bytesLess (Dt (T.map TabD.name) j).toList t.name.toList=true
 | 0=>by
  simp only [Dm,Bool.and_eq_true,decide_eq_true_eq]
  exact ⟨fun h=> ⟨h,fun j t hj=>absurd hj (Nat.not_lt_zero _)⟩,fun h=>h.1⟩
 | k+1=>by
  rw [Dm,Bool.and_eq_true,Mt (k :=k)]
  constructor
  ·rintro ⟨⟨h1,h2⟩,h3⟩
   refine ⟨h1,fun j t hj ht=> ?_⟩
   rcases Nat.lt_succ_iff_lt_or_eq.1 hj with h | h
   ·exact h2 j t h ht
   ·subst h;rw [ht] at h3;simpa using h3
  ·rintro ⟨h1,h2⟩
   refine ⟨⟨h1,fun j t hj ht=>h2 j t (by omega) ht⟩, ?_⟩
   cases ht :T[k]? with
   | none=>rfl
   | some t=>simpa using h2 k t (by omega) ht
theorem Mu {T :List TabD} {I :List IdxD} : ∀ {k :Nat},Ev T I k=true↔Dm T I.length T.length=true∧ ∀ (j :Nat) (x :IdxD),j<k→I[j]? =some x→Me T (Dt (I.map IdxD.name) j) x=true
 | 0=> ⟨fun h=> ⟨h,fun j x hj=>absurd hj (Nat.not_lt_zero _)⟩,fun h=>h.1⟩
 | k+1=>by
  rw [Ev,Bool.and_eq_true,Mu (k :=k)]
  constructor
  ·rintro ⟨⟨h1,h2⟩,h3⟩
   refine ⟨h1,fun j t hj ht=> ?_⟩
   rcases Nat.lt_succ_iff_lt_or_eq.1 hj with h | h
   ·exact h2 j t h ht
   ·subst h;rw [ht] at h3;exact h3
  ·rintro ⟨h1,h2⟩
   refine ⟨⟨h1,fun j t hj ht=>h2 j t (by omega) ht⟩, ?_⟩
   cases ht :I[k]? with
   | none=>rfl
   | some t=>exact h2 k t (by omega) ht
theorem Qm {s :Wd} (h :nm s=true) :s.size≠0 :=by
 simp only [nm,Bool.and_eq_true,decide_eq_true_eq] at h
 omega
theorem Aa1 {T :List TabD} {la :Wd} {x :IdxD} :Me T la x=true↔Eq T x=false∧Op.bytesLess la.toList x.name.toList=true :=by
 rw [Me,Eq,E8]
 cases A5 T x.table with
 | none=>simp
 | some t=>
  simp only [Bool.and_eq_true,Bool.or_eq_false_iff,Bool.not_eq_false']
  exact ⟨fun h=> ⟨⟨h.1.1,h.2⟩,h.1.2⟩,fun h=> ⟨⟨h.1.1,h.2⟩,h.1.2⟩⟩
theorem Pu {T :List TabD} {x :IdxD} (h :Eq T x=false) :nm x.name=true :=by
 rw [Eq,Bool.or_eq_false_iff] at h
 simpa using h.1
theorem Rt (c :CatD) :L0 c=Cq c :=by
 rw [Bool.eq_iff_iff,L0,Mu,Mt,Rs]
 constructor
 ·rintro ⟨⟨⟨h1,h2⟩,h3⟩,h4⟩
  have hT : ∀t∈c.tables,Cv t=true :=fun t ht=>by
   obtain ⟨j,hj⟩ :=List.mem_iff_getElem?.1 ht
   rw [←Hk]
   exact (h3 j t (List.getElem?_eq_some_iff.1 hj).1 hj).1
  have hX : ∀x∈c.indexes,Eq c.tables x=false :=fun x hx=>by
   obtain ⟨j,hj⟩ :=List.mem_iff_getElem?.1 hx
   exact (Aa1.1 (h4 j x (List.getElem?_eq_some_iff.1 hj).1 hj)).1
  refine ⟨by omega,by omega,hT,(Jj _ ?_).1 ?_,hX,(Jj _ ?_).1 ?_⟩
  ·intro s hs
   obtain ⟨t,ht,rfl⟩ :=List.mem_map.1 hs
   have :=hT t ht
   rw [←Hk] at this
   exact Qm (Lz this).1
  ·intro j s hs
   rw [List.getElem?_map] at hs
   obtain ⟨t,ht,rfl⟩ :=Option.map_eq_some_iff.1 hs
   exact (h3 j t (List.getElem?_eq_some_iff.1 ht).1 ht).2
  ·intro s hs
   obtain ⟨x,hx,rfl⟩ :=List.mem_map.1 hs
   exact Qm (Pu (hX x hx))
  ·intro j s hs
   rw [List.getElem?_map] at hs
   obtain ⟨x,hx,rfl⟩ :=Option.map_eq_some_iff.1 hs
   exact (Aa1.1 (h4 j x (List.getElem?_eq_some_iff.1 hx).1 hx)).2
 ·rintro ⟨h1,h2,h3,h4,h5,h6⟩
  have hT : ∀s∈c.tables.map TabD.name,s.size≠0 :=fun s hs=>by
   obtain ⟨t,ht,rfl⟩ :=List.mem_map.1 hs
   have :=h3 t ht
   rw [←Hk] at this
   exact Qm (Lz this).1
  have hX : ∀s∈c.indexes.map IdxD.name,s.size≠0 :=fun s hs=>by
   obtain ⟨x,hx,rfl⟩ :=List.mem_map.1 hs
   exact Qm (Pu (h5 x hx))
  refine ⟨⟨⟨by omega,by omega⟩,fun j t _ ht=> ⟨by rw [Hk];exact h3 t (List.mem_of_getElem? ht), ?_⟩⟩,fun j x _ hx=>Aa1.2 ⟨h5 x (List.mem_of_getElem? hx), ?_⟩⟩
  ·exact (Jj _ hT).2 h4 j t.name (by rw [List.getElem?_map,ht];rfl)
  ·exact (Jj _ hX).2 h6 j x.name (by rw [List.getElem?_map,hx];rfl)
end Go.Proofs.YtmgkcjiejmhgcaaGreatDoor

