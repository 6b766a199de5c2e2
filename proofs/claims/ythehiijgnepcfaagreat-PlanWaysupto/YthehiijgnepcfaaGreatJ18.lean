/-
  4 texts of this proof in one, in build order: QChoose2, Same, QSame, YIndexD.
-/
import Derived.WalkKit
import Derived.WalkSpells
import Derived.WalkLawsBesides
import Derived.Deep.QuietTactic
import Derived.BigQuiet
import Derived.Laws.StructEq
import Derived.Test.YthehiijgnepcfaaGreatJ01
import Derived.Test.YthehiijgnepcfaaGreatJ06
import Derived.Test.YthehiijgnepcfaaGreatJ07
import Derived.Test.YthehiijgnepcfaaGreatJ08
import Derived.Test.YthehiijgnepcfaaGreatJ17
set_option linter.unusedSimpArgs false
set_option linter.unusedVariables false
namespace Go.Proofs.YthehiijgnepcfaaGreat
open Go.RowKit Go.Maps
def Sp.short (s :Sp) :Prop :=s.lo.size≤100∧s.hi.size≤100
theorem Lg {k :Wd} (h :k.size≤50) : (Ey k).short := ⟨Nat.le_trans h (by decide),by show (k++ffW).size≤100;rw [I2];have :ffW.size=1 :=rfl;omega⟩
theorem Aem (k :Wd) : (k.extract 0 1).size≤1 :=by simp [ByteArray.size_extract];omega
theorem K5 (v :V) : (skS v).short :=Lg (Nat.le_trans (Aem _) (by decide))
theorem ffs (v :V) : (kb v++ffW).size≤100 :=by rw [I2];have :=Rl v;have :ffW.size=1 :=rfl;omega
theorem kbs (v :V) : (kb v).size≤100 :=Nat.le_trans (Rl v) (by decide)
theorem Rx (v :V) (yes :Bool) : (Kd v yes).short :=by
 cases yes
 ·exact K5 v
 ·exact Lg (Nat.le_trans (Rl v) (by decide))
theorem Yh (v :V) (yes :Bool) : (Kv v yes).short :=by
 cases yes
 ·exact ⟨kbs v,(K5 v).2⟩
 ·exact ⟨(K5 v).1,kbs v⟩
theorem Wq (v :V) (yes :Bool) : (I4 v yes).short :=by
 cases yes
 ·exact ⟨(K5 v).1,ffs v⟩
 ·exact ⟨ffs v,(K5 v).2⟩
theorem Aat {s o :Sp} (h :s.short) (g :o.short) : (s.both o).short :=by
 constructor
 ·show (Hc s.lo o.lo).size≤100
  unfold Hc;split
  ·exact g.1
  ·exact h.1
 ·show (Hd s.hi o.hi).size≤100
  unfold Hd;split
  ·exact g.2
  ·exact h.2
theorem Wr {s o :Sp} (h :s.short) (g :o.short) : (s.either o).short :=by
 unfold Sp.either
 split
 ·exact g
 ·split
  ·exact h
  ·constructor
   ·show (Hd s.lo o.lo).size≤100
    unfold Hd;split
    ·exact g.1
    ·exact h.1
   ·show (Hc s.hi o.hi).size≤100
    unfold Hc;split
    ·exact g.2
    ·exact h.2
theorem Fv : (Ey noW).short :=Lg (by decide)
theorem Ws :noS.short := ⟨by decide,by decide⟩
theorem Gg (at' col :Int) : ∀ (d :Nat) (e :E) (yes :Bool),(A3 at' col d e yes).short
 | 0,e,yes=>by unfold A3;exact Fv
 | d+1, .mk op x s name n l,yes=>by
  unfold A3
  split
  ·split
   ·exact Gg at' col d _ _
   ·exact Fv
  split
  ·split
   ·split
    ·exact Aat (Gg at' col d _ _) (Gg at' col d _ _)
    ·exact Wr (Gg at' col d _ _) (Gg at' col d _ _)
   ·exact Fv
  split
  ·split
   ·unfold isS
    split
    ·split
     ·exact Lg (Nat.le_trans (Rl zero) (by decide))
     ·exact ⟨ffs zero,by decide⟩
    ·exact Fv
   ·exact Fv
  split
  ·split
   ·unfold Ch
    split
    ·exact Ws
    split
    ·exact Rx _ _
    split
    ·exact Rx _ _
    split
    ·exact Yh _ _
    split
    ·exact Wq _ _
    ·exact Fv
   ·exact Fv
  split
  ·exact Ws
  ·exact Fv
theorem Aau {w :World} {g :Nat} {p q r a b c :Value} {t :TypeId} (h :w.heap[g]? =some (.cells #[p,q,r] t)) : (((w.setCell ⟨g,0,none⟩ a).setCell ⟨g,1,none⟩ b).setCell ⟨g,2,none⟩ c).heap[g]? =some (.cells #[a,b,c] t) :=by
 rw [upd (upd (upd h 0 a) 1 b) 2 c];rfl
theorem Eb {w :World} {g b :Nat} {x :Obj} {p q r :Value} (h :w.heap[b]? =some x) (hn :b≠g) : (((w.setCell ⟨g,0,none⟩ p).setCell ⟨g,1,none⟩ q).setCell ⟨g,2,none⟩ r).heap[b]? =some x :=by
 simp only [World.setCell,Array.getElem?_modify]
 rw [if_neg (fun e=>hn e.symm),if_neg (fun e=>hn e.symm),if_neg (fun e=>hn e.symm)];exact h
theorem Agr {V w3 :World} {x lo hi :Wd} (hz :Below V.heap.size V w3) : (w3.alloc (.cells #[.string x, .string lo, .string hi] 53)).heap[w3.heap.size]? =some (.cells #[.string x, .string lo, .string hi] 53) ∧Below V.heap.size V (w3.alloc (.cells #[.string x, .string lo, .string hi] 53)) ∧V.heap.size≤w3.heap.size := ⟨Ab _ _,hz.alloc hz.size _,hz.size⟩
theorem Ags {V w3 :World} {x lo hi :Wd} {g :Nat} (hz :Below V.heap.size V w3) (p :w3.heap[g]? =some (.cells #[.string noW, .string noW, .string noW] 53)) (hg :V.heap.size≤g) :
  (((w3.setCell ⟨g,0,none⟩ (.string x)).setCell ⟨g,1,none⟩ (.string lo)).setCell ⟨g,2,none⟩ (.string hi)).heap[g]? =some (.cells #[.string x, .string lo, .string hi] 53) ∧Below V.heap.size V (((w3.setCell ⟨g,0,none⟩ (.string x)).setCell ⟨g,1,none⟩ (.string lo)).setCell ⟨g,2,none⟩ (.string hi)) ∧V.heap.size≤g :=
 ⟨by rw [upd (upd (upd p 0 _) 1 _) 2 _];rfl,((hz.setCell hg _).setCell hg _).setCell hg _,hg⟩
set_option maxRecDepth 100000 in
set_option maxHeartbeats 8000000 in
theorem Aav (ct :CatD) (t :TabD) (at' :Int) (eop ek en :Int) (ex es em :Wd) (ei :Int) (ea :Option Addr) (el ec :Nat) (e0 :E) (to1 :Option Addr) (tl1 tc1 :Nat) (io :Option Addr) (il ic :Nat) (co :Option Addr) (cc :Nat) (C :Nat) (w :World) (he :IsE (fun k=>k<C) w e0 (.agg #[.int .i64 eop, .int .i64 ek, .int .i64 en, .string ex, .string es, .string em, .int .i64 ei, .slice ea el ec])) (hC :C≤w.heap.size) (hx :De e0) (hrf :K0 40 e0) (hg :geB 40 e0=true) (ht :t.name.size≤100000)
  (hct :Cz (fun k=>k<C) w ct (.agg #[.slice to1 tl1 tc1, .slice io il ic])) (hfc :Gv ct) (hcols :IsL Cc (fun k=>k<C) w (.slice co t.cols.length cc) t.cols) (hin : ∀x∈ct.indexes,x.name.size≤1000) :
  Calls Tryz.prog 9 #[.agg #[.slice to1 tl1 tc1, .slice io il ic], .agg #[.string t.name, .slice co t.cols.length cc], .int .i64 at', .agg #[.int .i64 eop, .int .i64 ek, .int .i64 en, .string ex, .string es, .string em, .int .i64 ei, .slice ea el ec]] w fun e w'=>e= .returned (Fi (Cu ct t at' e0).x (Cu ct t at' e0).lo (Cu ct t at' e0).hi) ∧Below w.heap.size w w' :=by
 have B0 : ((((w.alloc (.cells #[.slice to1 tl1 tc1, .slice io il ic] 25)).alloc (.cells #[.string t.name, .slice co t.cols.length cc] 43)).alloc (.cells #[.int .i64 eop, .int .i64 ek, .int .i64 en, .string ex, .string es, .string em, .int .i64 ei, .slice ea el ec] 34)).alloc (.cells #[.string noW, .string noW, .string noW] 53)).heap[w.heap.size]? =some (.cells #[.slice to1 tl1 tc1, .slice io il ic] 25) :=Ac (Ac (Ac (Ab _ _) _) _) _
 have B1 : ((((w.alloc (.cells #[.slice to1 tl1 tc1, .slice io il ic] 25)).alloc (.cells #[.string t.name, .slice co t.cols.length cc] 43)).alloc (.cells #[.int .i64 eop, .int .i64 ek, .int .i64 en, .string ex, .string es, .string em, .int .i64 ei, .slice ea el ec] 34)).alloc (.cells #[.string noW, .string noW, .string noW] 53)).heap[w.heap.size+1]? =some (.cells #[.string t.name, .slice co t.cols.length cc] 43) :=Ac (Ac (Aq _ _ _) _) _
 have B2 : ((((w.alloc (.cells #[.slice to1 tl1 tc1, .slice io il ic] 25)).alloc (.cells #[.string t.name, .slice co t.cols.length cc] 43)).alloc (.cells #[.int .i64 eop, .int .i64 ek, .int .i64 en, .string ex, .string es, .string em, .int .i64 ei, .slice ea el ec] 34)).alloc (.cells #[.string noW, .string noW, .string noW] 53)).heap[w.heap.size+2]? =some (.cells #[.int .i64 eop, .int .i64 ek, .int .i64 en, .string ex, .string es, .string em, .int .i64 ei, .slice ea el ec] 34) :=Ac (A6 _ _ _ _) _
 have B3 : ((((w.alloc (.cells #[.slice to1 tl1 tc1, .slice io il ic] 25)).alloc (.cells #[.string t.name, .slice co t.cols.length cc] 43)).alloc (.cells #[.int .i64 eop, .int .i64 ek, .int .i64 en, .string ex, .string es, .string em, .int .i64 ei, .slice ea el ec] 34)).alloc (.cells #[.string noW, .string noW, .string noW] 53)).heap[w.heap.size+3]? =some (.cells #[.string noW, .string noW, .string noW] 53) :=Wj _ _ _ _ _
 have hbW :=Aeg w (.cells #[.slice to1 tl1 tc1, .slice io il ic] 25) (.cells #[.string t.name, .slice co t.cols.length cc] 43) (.cells #[.int .i64 eop, .int .i64 ek, .int .i64 en, .string ex, .string es, .string em, .int .i64 ei, .slice ea el ec] 34) (.cells #[.string noW, .string noW, .string noW] 53)
 generalize hW : (((w.alloc (.cells #[.slice to1 tl1 tc1, .slice io il ic] 25)).alloc (.cells #[.string t.name, .slice co t.cols.length cc] 43)).alloc (.cells #[.int .i64 eop, .int .i64 ek, .int .i64 en, .string ex, .string es, .string em, .int .i64 ei, .slice ea el ec] 34)).alloc (.cells #[.string noW, .string noW, .string noW] 53) =V at B0 B1 B2 B3 hbW
 have HW :Hid _ :=hW
 clear hW
 have keepE : ∀W,Below w.heap.size w W→IsE (fun k=>k<C) W e0 (.agg #[.int .i64 eop, .int .i64 ek, .int .i64 en, .string ex, .string es, .string em, .int .i64 ei, .slice ea el ec]) :=fun W hW=>IsE.keep (Af (hW.mono hC)) _ _ he
 have HG1 :=Iu 40 (Nat.le_refl _) e0 (.agg #[.int .i64 eop, .int .i64 ek, .int .i64 en, .string ex, .string es, .string em, .int .i64 ei, .slice ea el ec]) C V (keepE V hbW) (Nat.le_trans hC hbW.size) hx
 rw [hg] at HG1
 have HWh :=fun col W (hW :Below w.heap.size w W) =>Acp at' col 40 e0 (.agg #[.int .i64 eop, .int .i64 ek, .int .i64 en, .string ex, .string es, .string em, .int .i64 ei, .slice ea el ec]) true C W (keepE W hW) (Nat.le_trans hC hW.size) hg hx hrf
 have HRB :=fun W=>Jw t.name W (by omega)
 have hsh :=fun col=>Gg at' col 40 e0 true
 have HWy :=fun W=>Sy (A3 at' 0 40 e0 true).lo (A3 at' 0 40 e0 true).hi noW (Ek t.name) W (by have := (hsh 0).1;omega) (by have := (hsh 0).2;omega) (by rw [Ld];omega)
 have HIx :=fun W (hW :Below w.heap.size w W) =>Rv ct to1 tl1 tc1 io il ic C W (hct.keep (Af (hW.mono hC))) (Nat.le_trans hC hW.size) hfc
 have ES :Hid (Cu ct t at' e0= ((if C8 ct then ct.indexes else []).foldl (B7 at' e0 t) (Fd at' e0 t)).2) :=by show _=_;unfold Cu;rw [if_pos hg]
 rw [ES.out]
 clear ES
 obtain ⟨tv,iv,hcv,hTl,hIl⟩ :=hct
 obtain ⟨rfl,rfl⟩ :tv= .slice to1 tl1 tc1∧iv= .slice io il ic :=by simpa using hcv.symm
 obtain ⟨I,iv2,hI1,hI2,hI3⟩ : ∃ (I :List IdxD) (iv2 :Value),(if C8 ct then ct.indexes else []) =I∧ (if C8 ct then Value.slice io il ic else .slice none 0 0) =iv2∧ (∀W,Below w.heap.size w W→IsL Fg (fun k=>k<C) W iv2 I) :=by
  cases C8 ct
  ·exact ⟨[], .slice none 0 0,rfl,rfl,fun W _=>IsL.nil _ _ _⟩
  ·exact ⟨ct.indexes,_,rfl,rfl,fun W hW=>hIl.keep (Af (hW.mono hC))⟩
 have hIn : ∀x∈I,x.name.size≤1000 :=fun x hx'=>by
  rw [←hI1] at hx'
  split at hx'
  ·exact hin x hx'
  ·cases hx'
 rw [hI2] at HIx
 rw [hI1]
 generalize hFF :I.foldl (B7 at' e0 t) (Fd at' e0 t) =FF
 have HFF :Hid _ :=hFF
 clear hFF
 obtain ⟨io2,ic2,rfl⟩ := (hI3 w (Below.refl _ _)).shape
 have HI3 :Hid _ :=hI3
 have HIN :Hid _ :=hIn
 have HSH :Hid _ :=hsh
 have HCO :Hid _ :=hcols
 clear hI1 hI2 hI3 hin hIn hTl hIl hcv he hsh hcols
 have EB :Hid (Fd at' e0 t= (A3 at' 0 40 e0 true,⟨noW,Ek t.name++ (A3 at' 0 40 e0 true).lo,Ek t.name++ (A3 at' 0 40 e0 true).hi⟩)) :=rfl
 have HWh0 :=HWh 0
 generalize hb0 :A3 at' 0 40 e0 true=b0 at HWh0 HWy EB
 generalize hrb :Ek t.name=rb at HRB HWy EB
 simp only [Sp.val] at HWh0
 have BX :Hid _ :=And.intro B1 (And.intro B2 B3)
 have HB00 :Hid _ :=B0
 have a0 :=Aa B2 (j :=0) (u := .int .i64 eop) rfl
 have a1 :=Aa B2 (j :=1) (u := .int .i64 ek) rfl
 have a2 :=Aa B2 (j :=2) (u := .int .i64 en) rfl
 have a3 :=Aa B2 (j :=3) (u := .string ex) rfl
 have a4 :=Aa B2 (j :=4) (u := .string es) rfl
 have a5 :=Aa B2 (j :=5) (u := .string em) rfl
 have a6 :=Aa B2 (j :=6) (u := .int .i64 ei) rfl
 have a7 :=Aa B2 (j :=7) (u := .slice ea el ec) rfl
 go_enter Tryz.func9,Tryz.ntmps9
 go_upto_region 1 with fail
 rw [HW.out]
 go_upto_region 4 with (first
  | (go_at_call 29;go_must (go_fit HG1;rintro e w1 ⟨rfl,hb1⟩;have D2 := (hb1.block _ (lt_of_block B2)).trans B2;have c0 :=Aa D2 (j :=0) (u := .int .i64 eop) rfl;have c1 :=Aa D2 (j :=1) (u := .int .i64 ek) rfl;have c2 :=Aa D2 (j :=2) (u := .int .i64 en) rfl;have c3 :=Aa D2 (j :=3) (u := .string ex) rfl;have c4 :=Aa D2 (j :=4) (u := .string es) rfl;have c5 :=Aa D2 (j :=5) (u := .string em) rfl;have c6 :=Aa D2 (j :=6) (u := .int .i64 ei) rfl;have c7 :=Aa D2 (j :=7) (u := .slice ea el ec) rfl;have HWh1 :=HWh0 w1 (Ad hbW hb1)))
  | (go_at_call 30;go_must (go_fit HWh1;rintro e w2 ⟨rfl,hb2⟩)))
 obtain ⟨V2,hV2⟩ : ∃V2,w2.alloc (.cells #[.string b0.lo, .string b0.hi] 81) =V2 := ⟨_,rfl⟩
 rw [hV2]
 have B9 :V2.heap[w2.heap.size]? =some (.cells #[.string b0.lo, .string b0.hi] 81) :=by rw [←hV2];exact Ab _ _
 have zV2 :Below V.heap.size V V2 :=by rw [←hV2];exact (Ad hb1 hb2).alloc (Ad hb1 hb2).size _
 have lV :w.heap.size+3<V.heap.size :=lt_of_block B3
 have g9l :V.heap.size≤w2.heap.size := (Ad hb1 hb2).size
 have zw2 :Below w.heap.size w V2 :=Ad hbW zV2
 clear hV2 HG1 HWh0 HWh1
 generalize hg9 :w2.heap.size=g9 at*
 clear hg9
 have KS :Hid (∀W,Below V2.heap.size V2 W→ (W.cell? ⟨g9,0,none⟩ =some (.string b0.lo) ∧W.cell? ⟨g9,1,none⟩ =some (.string b0.hi) ∧W.cell? ⟨w.heap.size+1,0,none⟩ =some (.string t.name))) :=fun W hW=>by
  have D9 := (hW.block _ (lt_of_block B9)).trans B9
  have D1 := ((Ad zV2 hW).block _ (lt_of_block B1)).trans B1
  exact ⟨Aa D9 (j :=0) rfl,Aa D9 (j :=1) rfl,Aa D1 (j :=0) rfl⟩
 go_cut [10] from 11 to 63 (fun s10 wx=> ∃g10,s10= .pointer (some ⟨g10,0,none⟩) ∧wx.heap[g10]? =some (.cells #[.string noW, .string (rb++b0.lo), .string (rb++b0.hi)] 53) ∧Below V2.heap.size V2 wx∧V2.heap.size≤g10)
 case first=>
  have z0 :Below V2.heap.size V2 V2.drew := (Below.refl _ _).drew
  have zA :Below V2.heap.size V2 (V2.drew.alloc (.cells #[.string noW, .string noW, .string noW] 53)) :=z0.alloc (Nat.le_refl _) _
  have zD :Below V2.heap.size V2 (V2.alloc (.cells #[.string noW, .string noW, .string noW] 53)).drew := ((Below.refl _ _).alloc (Nat.le_refl _) _).drew
  have y0 :=KS.out _ z0
  have yA :=KS.out _ zA
  have yD :=KS.out _ zD
  unfold Fi at HWy
  go_region_held3 (fun W=> (W.cell? ⟨g9,0,none⟩ =some (.string b0.lo) ∧W.cell? ⟨g9,1,none⟩ =some (.string b0.hi) ∧W.cell? ⟨w.heap.size+1,0,none⟩ =some (.string t.name)))
   (with_reducible first | exact y0 | exact yA | exact yD | exact y3 | exact KS.out _ (zz3.alloc zz3.size _) | exact KS.out _ (((zz3.setCell (Nat.le_refl _) _).setCell (Nat.le_refl _) _).setCell (Nat.le_refl _) _) | exact KS.out _ ((((zz3.alloc zz3.size _).setCell zz3.size _).setCell zz3.size _).setCell zz3.size _))
   (first
    | (go_at_call 32;refine (HRB _).mono ?_;rintro e w9 ⟨rfl,rfl⟩)
    | (go_at_call 31;refine (HWy _).mono ?_;rintro e w3 ⟨rfl,hb3⟩;have zz3 :Below V2.heap.size V2 w3 :=Ad (by with_reducible first | exact z0 | exact zA | exact zD) hb3;have y3 :=KS.out _ zz3;(first | (have pA :w3.heap[V2.heap.size]? =some (.cells #[.string noW, .string noW, .string noW] 53) := (by first | exact (hb3.block _ (lt_of_block (w := (V2.alloc (.cells #[.string noW, .string noW, .string noW] 53)).drew) (Ab V2 _))).trans (Ab V2 _) | exact (hb3.block _ (lt_of_block (Ab V2.drew _))).trans (Ab V2.drew _));have q0 :=Aa pA (j :=0) (u := .string noW) rfl;have q1 :=Aa pA (j :=1) (u := .string noW) rfl;have q2 :=Aa pA (j :=2) (u := .string noW) rfl;have f0 :w3.frozen? ⟨V2.heap.size,0,none⟩ =false := (by simp [World.frozen?,pA]);have f1 :w3.frozen? ⟨V2.heap.size,1,none⟩ =false := (by simp [World.frozen?,pA]);have f2 :w3.frozen? ⟨V2.heap.size,2,none⟩ =false := (by simp [World.frozen?,pA])) | skip)))
  all_goals go_wp2_with fail
  all_goals go_meet
  all_goals
   refine ⟨_,rfl, ?_⟩
   first | exact Agr zz3 | exact Ags zz3 pA (Nat.le_refl _)
 case rest=>
  obtain ⟨g10,rfl,P10,hbx,hge⟩ :=hcut
  have zc :Below w.heap.size w wc :=Ad zw2 hbx
  have zVc :=Ad zV2 hbx
  have C0 := (zVc.block _ (lt_of_block HB00.out)).trans HB00.out
  have k0 :=Aa C0 (j :=0) (u := .slice to1 tl1 tc1) rfl
  have k1 :=Aa C0 (j :=1) (u := .slice io il ic) rfl
  have HIx1 :=HIx wc zc
  have g9lt :=lt_of_block B9
  have hg9V2 :=hbx.size
  have g910 :g9≠g10 :=by omega
  go_wp2_with (go_at_call 33;go_must (go_fit HIx1;rintro e w5 ⟨rfl,hb5⟩))
  have D9 := (hb5.block _ (Nat.lt_of_lt_of_le g9lt hbx.size)).trans ((hbx.block _ g9lt).trans B9)
  have D10 := (hb5.block _ (lt_of_block P10)).trans P10
  have zV5 :=Ad zVc hb5
  have D1 := (zV5.block _ (lt_of_block BX.out.1)).trans BX.out.1
  have D2 := (zV5.block _ (lt_of_block BX.out.2.1)).trans BX.out.2.1
  have D3 := (zV5.block _ (lt_of_block BX.out.2.2)).trans BX.out.2.2
  have hIlm :I.length≤9223372036854775807 := (Cj (HI3.out w (Below.refl _ _))).2
  clear HIx HIx1 k0 k1 C0 HWy HRB
  go_loopw [33] (fun i wr=> ∃ (k :Nat) (best :Sp) (way :Wy),k≤I.length∧i= .int .i64 k∧Hid ((I.take k).foldl (B7 at' e0 t) (Fd at' e0 t) = (best,way)) ∧wr.heap[g9]? =some (.cells #[.string best.lo, .string best.hi] 81) ∧wr.heap[g10]? =some (.cells #[.string way.x, .string way.lo, .string way.hi] 53) ∧wr.heap[w.heap.size+1]? =some (.cells #[.string t.name, .slice co t.cols.length cc] 43) ∧wr.heap[w.heap.size+2]? =some (.cells #[.int .i64 eop, .int .i64 ek, .int .i64 en, .string ex, .string es, .string em, .int .i64 ei, .slice ea el ec] 34) ∧wr.heap[w.heap.size+3]? =some (.cells #[.string noW, .string noW, .string noW] 53) ∧Below w.heap.size w wr∧best.short) (fun i _=>I.length - (intOf i).toNat)
  case atStart=>exact ⟨0,b0,⟨noW,rb++b0.lo,rb++b0.hi⟩,Nat.zero_le _,rfl,by show _=_;rw [List.take_zero,List.foldl_nil];exact EB.out,D9,D10,D1,D2,D3,Ad zc hb5,by rw [←hb0];exact HSH.out 0⟩
  case round=>
   obtain ⟨k,best,way,hk,rfl,HF,R9,R10,R1,R2,R3,hbel,hshort⟩ :=hrel
   by_cases hlt :k<I.length
   ·obtain ⟨x,hxI⟩ : ∃x,I[k]? =some x := ⟨_,List.getElem?_eq_getElem hlt⟩
    obtain ⟨b,off,cs,rfl,hbC,hbl,hR1,hcell⟩ :=A4 (HI3.out wr hbel) hxI
    obtain rfl :=hR1
    have d0 :wr.cell? ⟨b,off+k*3,none⟩ =some (.string x.name) :=by have :=hcell 0 _ rfl;simpa [Fg] using this
    have d1 :wr.cell? ⟨b,off+k*3+1,none⟩ =some (.string x.table) :=by have :=hcell 1 _ rfl;simpa [Fg] using this
    have d2 :wr.cell? ⟨b,off+k*3+2,none⟩ =some (.string x.col) :=by have :=hcell 2 _ rfl;simpa [Fg] using this
    have j0 : (0 :Int) ≤ (k :Int) :=by omega
    have j1 : (k :Int) < (I.length :Int) :=by omega
    have hxn :=HIN.out x (List.mem_of_getElem? hxI)
    have HST :Hid ((I.take (k+1)).foldl (B7 at' e0 t) (Fd at' e0 t) =B7 at' e0 t (best,way) x) :=by
     show _=_
     rw [List.take_add_one,hxI,List.foldl_append,HF.out];rfl
    have zx :Below w.heap.size w (wr.alloc (.cells #[.string x.name, .string x.table, .string x.col] 89)) :=hbel.alloc hbel.size _
    have T1 :=Ac R1 (.cells #[.string x.name, .string x.table, .string x.col] 89)
    have t0 :=Aa T1 (j :=0) (u := .string t.name) rfl
    have t1 :=Aa T1 (j :=1) (u := .slice co t.cols.length cc) rfl
    have HX :=L4 t x (.slice co t.cols.length cc) C (wr.alloc (.cells #[.string x.name, .string x.table, .string x.col] 89)) (IsL.keep HCO.out (Af (zx.mono hC))) (Nat.le_trans hC zx.size)
    clear hcell hxI
    rcases Qd t x with hq | ⟨p,hq,hp⟩
    ·have E2 :Hid (B7 at' e0 t (best,way) x= (best,way)) :=by show _=_;unfold B7;rw [if_pos (by rw [hq];decide)]
     rw [hq] at HX
     go_wp2_with (go_at_call 34;go_must (go_fit HX;rintro e w6 ⟨rfl,hb6⟩))
     have hz6 :Below wr.heap.size wr w6 :=Ad (Ao _ _) hb6
     go_roundw
     case rel=>exact ⟨k+1,best,way,by omega,by go_num,by show _=_;rw [HST.out,E2.out],(hz6.block _ (lt_of_block R9)).trans R9,(hz6.block _ (lt_of_block R10)).trans R10,(hz6.block _ (lt_of_block R1)).trans R1,(hz6.block _ (lt_of_block R2)).trans R2,(hz6.block _ (lt_of_block R3)).trans R3,hbel.trans (hz6.mono hbel.size),hshort⟩
     case measure=>simp [intOf];omega
    ·have HWp :=HWh (p :Int)
     have hsp :=HSH.out (p :Int)
     have E2 :Hid (B7 at' e0 t (best,way) x=if (A3 at' (p :Int) 40 e0 true).rank<best.rank then (A3 at' (p :Int) 40 e0 true,⟨x.name,Dp x.name++ (A3 at' (p :Int) 40 e0 true).lo,Dp x.name++ (A3 at' (p :Int) 40 e0 true).hi⟩) else (best,way)) :=by
      show _=_;unfold B7;rw [hq,if_neg (by omega)]
     rw [hq] at HX
     clear hq hp
     generalize A3 at' (p :Int) 40 e0 true=sp at HWp hsp E2
     have HR1 :=fun W=>Wp sp W (by have :=hsp.1;omega)
     have HR2 :=fun W=>Wp best W (by have :=hshort.1;omega)
     have HIB :=fun W=>I3 x.name W (by omega)
     have HWy2 :=fun W=>Sy sp.lo sp.hi x.name (Dp x.name) W (by have :=hsp.1;omega) (by have :=hsp.2;omega) (by rw [N0];omega)
     generalize sp.rank=r1 at HR1 E2
     generalize best.rank=r2 at HR2 E2
     generalize Dp x.name=ib at HIB HWy2 E2
     simp only [Sp.val] at HWp HR1 HR2
     unfold Fi at HWy2
     have p0 : ¬ (p :Int) <0 :=by omega
     have HHS :Hid _ :=hsp
     have HHS2 :Hid _ :=hshort
     clear hsp hshort
     go_upto_region 11 with (first
      | (go_at_call 34;go_must (go_fit HX;rintro e w6 ⟨rfl,hb6⟩;have hz6 :Below wr.heap.size wr w6 :=Ad (Ao _ _) hb6;have T2 := (hz6.block _ (lt_of_block R2)).trans R2;have c0 :=Aa T2 (j :=0) (u := .int .i64 eop) rfl;have c1 :=Aa T2 (j :=1) (u := .int .i64 ek) rfl;have c2 :=Aa T2 (j :=2) (u := .int .i64 en) rfl;have c3 :=Aa T2 (j :=3) (u := .string ex) rfl;have c4 :=Aa T2 (j :=4) (u := .string es) rfl;have c5 :=Aa T2 (j :=5) (u := .string em) rfl;have c6 :=Aa T2 (j :=6) (u := .int .i64 ei) rfl;have c7 :=Aa T2 (j :=7) (u := .slice ea el ec) rfl;have HWp1 :=HWp w6 (hbel.trans (hz6.mono hbel.size))))
      | (go_at_call 30;go_must (go_fit HWp1;rintro e w7 ⟨rfl,hb7⟩)))
     have hz7 :Below wr.heap.size wr (w7.alloc (.cells #[.string sp.lo, .string sp.hi] 81)) := (Ad hz6 hb7).alloc (Ad hz6 hb7).size _
     have P14 :=Ab w7 (.cells #[.string sp.lo, .string sp.hi] 81)
     have P12 := ((Ad hb6 hb7).block _ (lt_of_block (Ab wr (.cells #[.string x.name, .string x.table, .string x.col] 89)))).trans (Ab wr (.cells #[.string x.name, .string x.table, .string x.col] 89))
     have P12' :=Ac P12 (.cells #[.string sp.lo, .string sp.hi] 81)
     have l7 :wr.heap.size≤w7.heap.size := (Ad hz6 hb7).size
     obtain ⟨V7,hV7⟩ : ∃V7,w7.alloc (.cells #[.string sp.lo, .string sp.hi] 81) =V7 := ⟨_,rfl⟩
     rw [hV7] at hz7 P14 P12'⊢
     clear hV7 HX HWp HWp1 HWh P12
     have Q9 := (hz7.block _ (lt_of_block R9)).trans R9
     have Q10 := (hz7.block _ (lt_of_block R10)).trans R10
     have l9 :=lt_of_block R9
     have l10 :=lt_of_block R10
     have KS2 :Hid (∀W,Below V7.heap.size V7 W→ (W.cell? ⟨w7.heap.size,0,none⟩ =some (.string sp.lo) ∧W.cell? ⟨w7.heap.size,1,none⟩ =some (.string sp.hi) ∧W.cell? ⟨g9,0,none⟩ =some (.string best.lo) ∧W.cell? ⟨g9,1,none⟩ =some (.string best.hi))) :=fun W hW=>by
      have A := (hW.block _ (lt_of_block P14)).trans P14
      have B := (hW.block _ (lt_of_block Q9)).trans Q9
      exact ⟨Aa A (j :=0) rfl,Aa A (j :=1) rfl,Aa B (j :=0) rfl,Aa B (j :=1) rfl⟩
     have s0 :=KS2.out _ (Below.refl _ V7).drew
     go_region_held3 (fun W=> (W.cell? ⟨w7.heap.size,0,none⟩ =some (.string sp.lo) ∧W.cell? ⟨w7.heap.size,1,none⟩ =some (.string sp.hi) ∧W.cell? ⟨g9,0,none⟩ =some (.string best.lo) ∧W.cell? ⟨g9,1,none⟩ =some (.string best.hi)))
      (with_reducible first | exact s0 | exact s8 | exact s9)
      (first
       | (go_at_call_of 35 (Value.agg #[.string sp.lo, .string sp.hi]);refine (HR1 _).mono ?_;rintro e w8 ⟨rfl,hb8⟩;have z8 :Below V7.heap.size V7 w8 :=Ad (by with_reducible first | exact (Below.refl _ V7).drew | exact z9) hb8;have s8 :=KS2.out _ z8)
       | (go_at_call_of 35 (Value.agg #[.string best.lo, .string best.hi]);refine (HR2 _).mono ?_;rintro e w9 ⟨rfl,hb9⟩;have z9 :Below V7.heap.size V7 w9 :=Ad (by with_reducible first | exact z8 | exact (Below.refl _ V7).drew) hb9;have s9 :=KS2.out _ z9))
     have hzr :Below wr.heap.size wr w9 :=hz7.trans (z9.mono hz7.size)
     have A14 := (z9.block _ (lt_of_block P14)).trans P14
     have A12 := (z9.block _ (lt_of_block P12')).trans P12'
     have A9 := (z9.block _ (lt_of_block Q9)).trans Q9
     have A10 := (z9.block _ (lt_of_block Q10)).trans Q10
     by_cases hlt2 :r1<r2
     ·have HE2 :Hid (B7 at' e0 t (best,way) x= (sp,⟨x.name,ib++sp.lo,ib++sp.hi⟩)) :=by show _=_;rw [E2.out,if_pos hlt2]
      go_upto_region 12 with fail
      have KS3 :Hid (∀W :World,W.heap[w7.heap.size]? =some (.cells #[.string sp.lo, .string sp.hi] 81) →W.heap[wr.heap.size]? =some (.cells #[.string x.name, .string x.table, .string x.col] 89) → (W.cell? ⟨w7.heap.size,0,none⟩ =some (.string sp.lo) ∧W.cell? ⟨w7.heap.size,1,none⟩ =some (.string sp.hi) ∧W.cell? ⟨wr.heap.size,0,none⟩ =some (.string x.name))) :=fun W h1 h2=>
       ⟨Aa h1 (j :=0) rfl,Aa h1 (j :=1) rfl,Aa h2 (j :=0) rfl⟩
      have s1 :=KS3.out w9.drew A14 A12
      have ne1 :w7.heap.size≠g9 :=by omega
      have ne2 :wr.heap.size≠g9 :=by omega
      have ne3 :w7.heap.size≠g10 :=by omega
      have ne4 :wr.heap.size≠g10 :=by omega
      go_region_held3 (fun W=> (W.cell? ⟨w7.heap.size,0,none⟩ =some (.string sp.lo) ∧W.cell? ⟨w7.heap.size,1,none⟩ =some (.string sp.hi) ∧W.cell? ⟨wr.heap.size,0,none⟩ =some (.string x.name)))
       (with_reducible first | exact s1 | exact s2 | exact KS3.out _ (Ct G14 ne1) (Ct G12 ne2) | exact KS3.out _ (Eb (Ct G14 ne1) ne3) (Eb (Ct G12 ne2) ne4) | exact KS3.out _ (Eb G14 ne3) (Eb G12 ne4) | exact KS3.out _ (Ct (Eb G14 ne3) ne1) (Ct (Eb G12 ne4) ne2))
       (first
        | (go_at_call 36;refine (HIB _).mono ?_;rintro e w19 ⟨rfl,rfl⟩)
        | (go_at_call 31;refine (HWy2 _).mono ?_;rintro e w10 ⟨rfl,hb10⟩;have z10 :Below w9.heap.size w9 w10 :=Ad (Below.refl _ w9).drew hb10;have G14 := (z10.block _ (lt_of_block A14)).trans A14;have G12 := (z10.block _ (lt_of_block A12)).trans A12;have G9 := (z10.block _ (lt_of_block A9)).trans A9;have G10 := (z10.block _ (lt_of_block A10)).trans A10;have s2 :=KS3.out w10 G14 G12;have u0 :=Aa G9 (j :=0) (u := .string best.lo) rfl;have u1 :=Aa G9 (j :=1) (u := .string best.hi) rfl;have v0 :=Aa G10 (j :=0) (u := .string way.x) rfl;have v1 :=Aa G10 (j :=1) (u := .string way.lo) rfl;have v2 :=Aa G10 (j :=2) (u := .string way.hi) rfl;have fu0 :w10.frozen? ⟨g9,0,none⟩ =false := (by simp [World.frozen?,G9]);have fu1 :w10.frozen? ⟨g9,1,none⟩ =false := (by simp [World.frozen?,G9]);have fv0 :w10.frozen? ⟨g10,0,none⟩ =false := (by simp [World.frozen?,G10]);have fv1 :w10.frozen? ⟨g10,1,none⟩ =false := (by simp [World.frozen?,G10]);have fv2 :w10.frozen? ⟨g10,2,none⟩ =false := (by simp [World.frozen?,G10])))
      go_wp2
      have hzA :Below wr.heap.size wr w10 :=hzr.trans (z10.mono hzr.size)
      have hg10g :w.heap.size≤g10 :=by omega
      have hg9g :w.heap.size≤g9 :=by omega
      have m1 :w.heap.size+1≠g9 :=by omega
      have m2 :w.heap.size+2≠g9 :=by omega
      have m3 :w.heap.size+3≠g9 :=by omega
      have m4 :w.heap.size+1≠g10 :=by have :=zV2.size;omega
      have m5 :w.heap.size+2≠g10 :=by have :=zV2.size;omega
      have m6 :w.heap.size+3≠g10 :=by have :=zV2.size;omega
      go_roundw
      case rel=>
       refine ⟨k+1,sp,⟨x.name,ib++sp.lo,ib++sp.hi⟩,by omega,by go_num,by show _=_;rw [HST.out,HE2.out], ?_, ?_, ?_, ?_, ?_, ?_,HHS.out⟩
       ·exact Eb (Iv G9) g910
       ·exact Aau (Ct G10 (Ne.symm g910))
       ·exact Eb (Ct ((hzA.block _ (lt_of_block R1)).trans R1) m1) m4
       ·exact Eb (Ct ((hzA.block _ (lt_of_block R2)).trans R2) m2) m5
       ·exact Eb (Ct ((hzA.block _ (lt_of_block R3)).trans R3) m3) m6
       ·exact (((((hbel.trans (hzA.mono hbel.size)).setCell hg9g _).setCell hg9g _).setCell hg10g _).setCell hg10g _).setCell hg10g _
      case measure=>simp [intOf];omega
     ·have HE2 :Hid (B7 at' e0 t (best,way) x= (best,way)) :=by show _=_;rw [E2.out,if_neg hlt2]
      go_wp2
      go_roundw
      case rel=>exact ⟨k+1,best,way,by omega,by go_num,by show _=_;rw [HST.out,HE2.out],A9,A10,(hzr.block _ (lt_of_block R1)).trans R1,(hzr.block _ (lt_of_block R2)).trans R2,(hzr.block _ (lt_of_block R3)).trans R3,hbel.trans (hzr.mono hbel.size),HHS2.out⟩
      case measure=>simp [intOf];omega
   ·have hkn :k=I.length :=by omega
    subst hkn
    rw [List.take_length] at HF
    have eFF :=HFF.out
    rw [HF.out] at eFF
    subst eFF
    clear HFF HF
    have v1 : ¬ ((I.length :Int) < (I.length :Int)) :=by omega
    have y0 :=Aa R10 (j :=0) (u := .string way.x) rfl
    have y1 :=Aa R10 (j :=1) (u := .string way.lo) rfl
    have y2 :=Aa R10 (j :=2) (u := .string way.hi) rfl
    have r0 :=Aa R3 (j :=0) (u := .string noW) rfl
    have r1 :=Aa R3 (j :=1) (u := .string noW) rfl
    have r2 :=Aa R3 (j :=2) (u := .string noW) rfl
    have f0 :wr.frozen? ⟨w.heap.size+3,0,none⟩ =false :=by simp [World.frozen?,R3]
    have f1 :wr.frozen? ⟨w.heap.size+3,1,none⟩ =false :=by simp [World.frozen?,R3]
    have f2 :wr.frozen? ⟨w.heap.size+3,2,none⟩ =false :=by simp [World.frozen?,R3]
    go_wp2
    exact N3 _ _ _ Tryz.results9 rfl rfl R3 hbel (by omega) Tryz.underlying53 (by kernel_rfl)
end Go.Proofs.YthehiijgnepcfaaGreat

namespace Go.Proofs.YthehiijgnepcfaaGreat
open Go.RowKit
set_option maxHeartbeats 400000 in
theorem Ry (ao bo :Option Addr) (ca cb :Nat) (w :World) :
  Calls Tryz.prog 10 #[.slice ao 0 ca, .slice bo 0 cb] w fun e w'=>e= .returned (.bool true) ∧Below w.heap.size w w' :=by
 go_enter Tryz.func10,Tryz.ntmps10
 go_wp2
 refine wp_loop_rounds 1 ?_
 rw [rounds_succ]
 go_wp2
 go_ret
 exact ⟨rfl,Below.refl _ _⟩
set_option maxHeartbeats 2000000 in
theorem Acu (L :List V) (ba oa ca bb ob cb :Nat) (w :World) (ha :Fl w ba oa L) (hb :Fl w bb ob L) (hba :ba<w.heap.size) (hbb :bb<w.heap.size) (hl :L.length≤maxLen) :
  Calls Tryz.prog 10 #[.slice (some ⟨ba,oa,none⟩) L.length ca, .slice (some ⟨bb,ob,none⟩) L.length cb] w fun e w'=>e= .returned (.bool true) ∧Below w.heap.size w w' :=by
 unfold maxLen at hl
 go_enter Tryz.func10,Tryz.ntmps10
 go_wp2
 go_loopw [13] (fun i wr=> ∃k :Nat,k≤L.length∧i= .int .i64 k∧Below w.heap.size w wr) (fun i _=>L.length - (intOf i).toNat)
 case atStart=>exact ⟨0,Nat.zero_le _,rfl,Below.refl _ _⟩
 case round=>
  obtain ⟨k,hk,rfl,hbel⟩ :=hrel
  by_cases hlt :k<L.length
  ·obtain ⟨⟨k1,n1,s1⟩,hv⟩ : ∃v,L[k]? =some v := ⟨_,List.getElem?_eq_getElem hlt⟩
   obtain ⟨c0,c1,c2⟩ :=ha.below hbel hba k _ hv
   obtain ⟨d0,d1,d2⟩ :=hb.below hbel hbb k _ hv
   have i0 : (0 :Int) ≤ (k :Int) :=by omega
   have i1 : (k :Int) < (L.length :Int) :=by omega
   clear hv
   go_wp2
   go_quiet (fail)
   go_wp2
   go_roundw
   case rel=>exact ⟨k+1,by omega,by go_num,below_drewN hbel _⟩
   case measure=>simp [intOf];omega
  ·go_wp2
   go_ret
   exact ⟨rfl,hbel⟩
theorem Aen (L :List V) (av bv :Value) (w :World) (ha :Bp w av L) (hb :Bp w bv L) (hl :L.length≤maxLen) :
  Calls Tryz.prog 10 #[av,bv] w fun e w'=>e= .returned (.bool true) ∧Below w.heap.size w w' :=by
 rcases ha with ⟨⟨ao,ca,rfl,_⟩,rfl⟩ | ⟨ba,oa,ca,rfl,hba,ha⟩
 ·obtain ⟨bo,cb,rfl⟩ :=hb.shape
  exact Ry ao bo ca cb w
 ·rcases hb with ⟨⟨bo,cb,rfl,_⟩,rfl⟩ | ⟨bb,ob,cb,rfl,hbb,hb⟩
  ·exact Ry _ bo ca cb w
  ·exact Acu L ba oa ca bb ob cb w ha hb hba hbb hl
end Go.Proofs.YthehiijgnepcfaaGreat

namespace Go.Proofs.YthehiijgnepcfaaGreat
open Go.RowKit
def eqV (a b :V) :Bool :=decide (a.k=b.k) &&decide (a.n=b.n) &&decide (a.s=b.s)
def E0 :List V→List V→Bool
 | [],[] =>true
 | a ::A,b ::B=>eqV a b&&E0 A B
 | _,_=>false
theorem Agt (a b :V) :eqV a b=true↔a=b :=by
 obtain ⟨k,n,s⟩ :=a
 obtain ⟨k',n',s'⟩ :=b
 simp [eqV,and_assoc]
theorem Jr : ∀ (A B :List V),E0 A B=true↔A=B
 | [],[] =>by simp [E0]
 | [],_ ::_=>by simp [E0]
 | _ ::_,[] =>by simp [E0]
 | a ::A,b ::B=>by simp [E0,Agt,Jr A B]
theorem Rz : ∀ {A B :List V},A.length=B.length→A≠B→ ∃m,m<A.length∧A.take m=B.take m∧A[m]? ≠B[m]?
 | [],[],_,h=>absurd rfl h
 | [],_ ::_,h,_=>by simp at h
 | _ ::_,[],h,_=>by simp at h
 | a ::A,b ::B,hl,hn=>by
  by_cases hab :a=b
  ·subst hab
   obtain ⟨m,h1,h2,h3⟩ :=Rz (A :=A) (B :=B) (by simpa using hl) (fun e=>hn (by rw [e]))
   exact ⟨m+1,by simpa using h1,by simpa using h2,by simpa using h3⟩
  ·exact ⟨0,by simp,rfl,by simpa using hab⟩
set_option maxHeartbeats 2000000 in
theorem Aaw (A B :List V) (av bv :Value) (w :World) (ha :Bp w av A) (hb :Bp w bv B) (hl :A.length≠B.length) :
  Calls Tryz.prog 10 #[av,bv] w fun e w'=>e= .returned (.bool false) ∧Below w.heap.size w w' :=by
 obtain ⟨ao,ca,rfl⟩ :=ha.shape
 obtain ⟨bo,cb,rfl⟩ :=hb.shape
 have h1 : ((A.length :Int) != (B.length :Int)) =true :=by rw [bne_iff_ne];omega
 have h2 : ¬ ((A.length :Int) = (B.length :Int)) :=by omega
 clear ha hb hl
 go_enter Tryz.func10,Tryz.ntmps10
 go_wp2
 go_ret
 exact ⟨rfl,Below.refl _ _⟩
set_option maxHeartbeats 4000000 in
theorem Acv (A B :List V) (m ba oa ca bb ob cb :Nat) (w :World) (ha :Fl w ba oa A) (hb :Fl w bb ob B) (hba :ba<w.heap.size) (hbb :bb<w.heap.size) (hl :A.length≤maxLen) (he :B.length=A.length) (hm :m<A.length) (ht :A.take m=B.take m) (hd :A[m]? ≠B[m]?) :
  Calls Tryz.prog 10 #[.slice (some ⟨ba,oa,none⟩) A.length ca, .slice (some ⟨bb,ob,none⟩) A.length cb] w fun e w'=>e= .returned (.bool false) ∧Below w.heap.size w w' :=by
 unfold maxLen at hl
 have HE :Hid _ :=he
 have HT :Hid _ :=ht
 have HD :Hid _ :=hd
 clear he ht hd
 go_enter Tryz.func10,Tryz.ntmps10
 go_wp2
 go_loopw [13] (fun i wr=> ∃k :Nat,k≤m∧i= .int .i64 k∧Below w.heap.size w wr) (fun i _=>A.length - (intOf i).toNat)
 case atStart=>exact ⟨0,Nat.zero_le _,rfl,Below.refl _ _⟩
 case round=>
  obtain ⟨k,hk,rfl,hbel⟩ :=hrel
  have i0 : (0 :Int) ≤ (k :Int) :=by omega
  have i1 : (k :Int) < (A.length :Int) :=by omega
  by_cases hlt :k<m
  ·obtain ⟨⟨k1,n1,s1⟩,hv⟩ : ∃v,A[k]? =some v := ⟨_,List.getElem?_eq_getElem (by omega)⟩
   have hv2 :B[k]? =some ⟨k1,n1,s1⟩ :=by
    rw [←hv,←List.getElem?_take_of_lt (l :=B) hlt,←HT.out,List.getElem?_take_of_lt hlt]
   obtain ⟨c0,c1,c2⟩ :=ha.below hbel hba k _ hv
   obtain ⟨d0,d1,d2⟩ :=hb.below hbel hbb k _ hv2
   clear hv hv2
   go_wp2
   go_quiet (fail)
   go_wp2
   go_roundw
   case rel=>exact ⟨k+1,by omega,by go_num,below_drewN hbel _⟩
   case measure=>simp [intOf];omega
  ·have hkm :k=m :=by omega
   obtain ⟨⟨k1,n1,s1⟩,hv⟩ : ∃v,A[k]? =some v := ⟨_,List.getElem?_eq_getElem (by omega)⟩
   obtain ⟨⟨k2,n2,s2⟩,hv2⟩ : ∃v,B[k]? =some v := ⟨_,List.getElem?_eq_getElem (by rw [HE.out];omega)⟩
   have hne : ¬ (k1=k2∧n1=n2∧s1=s2) :=by
    rintro ⟨rfl,rfl,rfl⟩
    refine HD.out ?_
    rw [←hkm,hv,hv2]
   obtain ⟨c0,c1,c2⟩ :=ha.below hbel hba k _ hv
   obtain ⟨d0,d1,d2⟩ :=hb.below hbel hbb k _ hv2
   clear hv hv2 hkm HD HT HE
   by_cases q1 :k1=k2
   ·subst q1
    by_cases q2 :n1=n2
    ·subst q2
     have q3 : (s1.toList==s2.toList) =false :=by
      rw [Lib.toList_data,Lib.toList_data,beq_eq_false_iff_ne]
      intro e
      refine hne ⟨rfl,rfl, ?_⟩
      cases s1;cases s2
      simpa using e
     have q4 : ¬ (s1.toList=s2.toList) :=by simpa using q3
     clear hne
     go_wp2
     go_quiet (fail)
     go_wp2
     go_ret
     exact ⟨rfl,below_drewN hbel _⟩
    ·have q3 : (n1==n2) =false :=by simpa using q2
     clear hne
     go_wp2
     go_quiet (fail)
     go_wp2
     go_ret
     exact ⟨rfl,below_drewN hbel _⟩
   ·have q3 : (k1==k2) =false :=by simpa using q1
    clear hne
    go_wp2
    go_quiet (fail)
    go_wp2
    go_ret
    exact ⟨rfl,below_drewN hbel _⟩
theorem Aeo (A B :List V) (av bv :Value) (w :World) (ha :Bp w av A) (hb :Bp w bv B) (hl :A.length≤maxLen) :
  Calls Tryz.prog 10 #[av,bv] w fun e w'=>e= .returned (.bool (E0 A B)) ∧Below w.heap.size w w' :=by
 by_cases hAB :A=B
 ·rw [(Jr A B).2 hAB]
  subst hAB
  exact Aen A av bv w ha hb hl
 ·rw [show E0 A B=false from by cases h :E0 A B with | false=>rfl | true=>exact absurd ((Jr A B).1 h) hAB]
  by_cases hll :A.length=B.length
  ·obtain ⟨m,hm,ht,hd⟩ :=Rz hll hAB
   rcases ha with ⟨_,rfl⟩ | ⟨ba,oa,ca,rfl,hba,ha⟩
   ·simp at hm
   ·rcases hb with ⟨_,rfl⟩ | ⟨bb,ob,cb,rfl,hbb,hb⟩
    ·rw [hll] at hm;simp at hm
    ·rw [←hll]
     exact Acv A B m ba oa ca bb ob cb w ha hb hba hbb hl hll.symm hm ht hd
  ·exact Aaw A B av bv w ha hb hll
end Go.Proofs.YthehiijgnepcfaaGreat

namespace Go.Proofs.YthehiijgnepcfaaGreat
open Go.RowKit
set_option maxRecDepth 100000 in
set_option maxHeartbeats 2000000 in
theorem Ql (l :List (List E)) (F :Nat→Prop) (ao :Option Addr) (n c :Nat) (f0 :Value) (p :Nat→Bool) (St :Nat→World→Prop) (En :World→Prop) (w :World) (hEn : ∀i W,St i W→En W) (hIs : ∀i W,St i W→IsL Gi F W (.slice ao n c) l)
  (hcall : ∀i x cs W,l[i]? =some x→St i W→Gi.R F W x cs→Calls Tryz.prog 41 #[cs.headD (.bool false),f0] W fun e W'=>e= .returned (.bool (p i)) ∧En W'∧ (p i=false→St (i+1) W')) (h0 :St 0 w) :
  Calls Tryz.prog 88 #[.slice ao n c, .func (.func 41) #[] #[f0]] w fun e W'=>e= .returned (.int .i64 (Ah p 0 l.length)) ∧En W' :=by
 obtain ⟨hn,hlm⟩ :=Cj (hIs 0 w h0)
 subst hn
 unfold maxLen at hlm
 go_enter Tryz.func88,Tryz.ntmps88
 go_wp2
 go_loopw [8] (fun i wr=> ∃k :Nat,k≤l.length∧i= .int .i64 k∧St k wr∧Hid (Ah p 0 l.length=Ah p k (l.length - k))) (fun i _=>l.length - (intOf i).toNat)
 case atStart=>exact ⟨0,Nat.zero_le _,rfl,h0,rfl⟩
 case round=>
  obtain ⟨k,hk,rfl,hSt,HP⟩ :=hrel
  by_cases hlt :k<l.length
  ·obtain ⟨x,hx⟩ : ∃x,l[k]? =some x := ⟨_,List.getElem?_eq_getElem hlt⟩
   obtain ⟨b,off,cs,rfl,_,hb,hR,hcell⟩ :=A4 (hIs k wr hSt) hx
   have HC :=hcall k x cs wr hx hSt hR
   obtain ⟨xa,xl,xc,rfl⟩ :=Abx hR
   have d0 :=hcell 0 _ rfl
   simp only [Gi,Nat.add_zero,Nat.mul_one] at d0
   have k0 : (0 :Int) ≤ (k :Int) :=by omega
   have k1 : (k :Int) < (l.length :Int) :=by omega
   have hst :Hid (Ah p k (l.length - k) =if p k then (k :Int) else Ah p (k+1) (l.length - (k+1))) :=C5 p k l.length hlt
   clear hcell hx
   generalize hq :p k=q at HC hst
   clear hq
   cases q
   ·go_wp2_with (go_at_call 41;go_must (go_fit HC;rintro e W' ⟨rfl,_,hS1⟩))
    go_roundw
    case rel=>exact ⟨k+1,by omega,by go_num,hS1 (by first | rfl | trivial),by rw [HP.out,hst.out];rfl⟩
    case measure=>simp [intOf];omega
   ·go_wp2_with (go_at_call 41;go_must (go_fit HC;rintro e W' ⟨rfl,hS1,_⟩))
    go_ret
    exact ⟨An (by rw [HP.out,hst.out];rfl),hS1⟩
  ·have HE :Hid (Ah p k (l.length - k) = -1) :=by show _=_;rw [show l.length - k=0 from by omega,Ah]
   go_wp2
   go_ret
   exact ⟨An (by rw [HP.out,HE.out]),hEn k _ hSt⟩
set_option maxHeartbeats 2000000 in
theorem Ni (l :List (List E)) (F :Nat→Prop) (ao :Option Addr) (n c :Nat) (f0 :Value) (p :Nat→Bool) (St :Nat→World→Prop) (En :World→Prop) (w :World) (hEn : ∀i W,St i W→En W) (hIs : ∀i W,St i W→IsL Gi F W (.slice ao n c) l)
  (hcall : ∀i x cs W,l[i]? =some x→St i W→Gi.R F W x cs→Calls Tryz.prog 41 #[cs.headD (.bool false),f0] W fun e W'=>e= .returned (.bool (p i)) ∧En W'∧ (p i=false→St (i+1) W')) (h0 :St 0 w) :
  Calls Tryz.prog 44 #[.slice ao n c, .func (.func 41) #[] #[f0]] w fun e W'=>e= .returned (.bool (Ay p 0 l.length)) ∧En W' :=by
 have HI :=Ql l F ao n c f0 p St En w hEn hIs hcall h0
 have HA :Hid (Ay p 0 l.length=decide (0≤Ah p 0 l.length)) :=Fn p l.length 0
 generalize Ay p 0 l.length=r at HA
 generalize Ah p 0 l.length=q at HI HA
 clear hIs hcall h0 hEn
 go_enter Tryz.func44,Tryz.ntmps44
 go_wp2_with (go_at_call 88;go_must (go_fit HI;rintro e W' ⟨rfl,hS1⟩))
 go_ret
 exact ⟨Ag (by rw [HA.out]),hS1⟩
set_option maxRecDepth 100000 in
set_option maxHeartbeats 2000000 in
theorem Qm (l :List (Wd×E)) (F :Nat→Prop) (ao :Option Addr) (n c :Nat) (f0 :Value) (p :Nat→Bool) (St :Nat→World→Prop) (En :World→Prop) (w :World) (hEn : ∀i W,St i W→En W) (hIs : ∀i W,St i W→IsL Ei F W (.slice ao n c) l)
  (hcall : ∀i x cs W,l[i]? =some x→St i W→Ei.R F W x cs→Calls Tryz.prog 43 #[.agg cs.toArray,f0] W fun e W'=>e= .returned (.bool (p i)) ∧En W'∧ (p i=false→St (i+1) W')) (h0 :St 0 w) :
  Calls Tryz.prog 89 #[.slice ao n c, .func (.func 43) #[] #[f0]] w fun e W'=>e= .returned (.int .i64 (Ah p 0 l.length)) ∧En W' :=by
 obtain ⟨hn,hlm⟩ :=Cj (hIs 0 w h0)
 subst hn
 unfold maxLen at hlm
 go_enter Tryz.func89,Tryz.ntmps89
 go_wp2
 go_loopw [8] (fun i wr=> ∃k :Nat,k≤l.length∧i= .int .i64 k∧St k wr∧Hid (Ah p 0 l.length=Ah p k (l.length - k))) (fun i _=>l.length - (intOf i).toNat)
 case atStart=>exact ⟨0,Nat.zero_le _,rfl,h0,rfl⟩
 case round=>
  obtain ⟨k,hk,rfl,hSt,HP⟩ :=hrel
  by_cases hlt :k<l.length
  ·obtain ⟨x,hx⟩ : ∃x,l[k]? =some x := ⟨_,List.getElem?_eq_getElem hlt⟩
   obtain ⟨b,off,cs,rfl,_,hb,hR,hcell⟩ :=A4 (hIs k wr hSt) hx
   have HC :=hcall k x cs wr hx hSt hR
   obtain ⟨cn,xo,xk,xn,xs2,xs,xm,xi,xa,xl,xc,rfl⟩ :=Aby hR
   have d0 :=hcell 0 _ rfl
   have d1 :=hcell 1 _ rfl
   have d2 :=hcell 2 _ rfl
   have d3 :=hcell 3 _ rfl
   have d4 :=hcell 4 _ rfl
   have d5 :=hcell 5 _ rfl
   have d6 :=hcell 6 _ rfl
   have d7 :=hcell 7 _ rfl
   have d8 :=hcell 8 _ rfl
   simp only [Ei,Nat.add_zero] at d0 d1 d2 d3 d4 d5 d6 d7 d8
   have k0 : (0 :Int) ≤ (k :Int) :=by omega
   have k1 : (k :Int) < (l.length :Int) :=by omega
   have hst :Hid (Ah p k (l.length - k) =if p k then (k :Int) else Ah p (k+1) (l.length - (k+1))) :=C5 p k l.length hlt
   clear hcell hx
   generalize hq :p k=q at HC hst
   clear hq
   cases q
   ·go_wp2_with (go_at_call 43;go_must (go_fit HC;rintro e W' ⟨rfl,_,hS1⟩))
    go_roundw
    case rel=>exact ⟨k+1,by omega,by go_num,hS1 (by first | rfl | trivial),by rw [HP.out,hst.out];rfl⟩
    case measure=>simp [intOf];omega
   ·go_wp2_with (go_at_call 43;go_must (go_fit HC;rintro e W' ⟨rfl,hS1,_⟩))
    go_ret
    exact ⟨An (by rw [HP.out,hst.out];rfl),hS1⟩
  ·have HE :Hid (Ah p k (l.length - k) = -1) :=by show _=_;rw [show l.length - k=0 from by omega,Ah]
   go_wp2
   go_ret
   exact ⟨An (by rw [HP.out,HE.out]),hEn k _ hSt⟩
set_option maxHeartbeats 2000000 in
theorem Nj (l :List (Wd×E)) (F :Nat→Prop) (ao :Option Addr) (n c :Nat) (f0 :Value) (p :Nat→Bool) (St :Nat→World→Prop) (En :World→Prop) (w :World) (hEn : ∀i W,St i W→En W) (hIs : ∀i W,St i W→IsL Ei F W (.slice ao n c) l)
  (hcall : ∀i x cs W,l[i]? =some x→St i W→Ei.R F W x cs→Calls Tryz.prog 43 #[.agg cs.toArray,f0] W fun e W'=>e= .returned (.bool (p i)) ∧En W'∧ (p i=false→St (i+1) W')) (h0 :St 0 w) :
  Calls Tryz.prog 45 #[.slice ao n c, .func (.func 43) #[] #[f0]] w fun e W'=>e= .returned (.bool (Ay p 0 l.length)) ∧En W' :=by
 have HI :=Qm l F ao n c f0 p St En w hEn hIs hcall h0
 have HA :Hid (Ay p 0 l.length=decide (0≤Ah p 0 l.length)) :=Fn p l.length 0
 generalize Ay p 0 l.length=r at HA
 generalize Ah p 0 l.length=q at HI HA
 clear hIs hcall h0 hEn
 go_enter Tryz.func45,Tryz.ntmps45
 go_wp2_with (go_at_call 89;go_must (go_fit HI;rintro e W' ⟨rfl,hS1⟩))
 go_ret
 exact ⟨Ag (by rw [HA.out]),hS1⟩
end Go.Proofs.YthehiijgnepcfaaGreat

