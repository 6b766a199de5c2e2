/-
  3 texts of this proof in one, in build order: QRows3, QSpan, YRise.
-/
import Derived.Deep.RegionHeld3
import Derived.Deep.Cut
import Derived.Test.YthehiijgnepcfaaGreatJ06
import Derived.Test.YthehiijgnepcfaaGreatJ08
import Derived.Test.YthehiijgnepcfaaGreatJ10
set_option linter.unusedSimpArgs false
set_option linter.unusedVariables false
namespace Go.Proofs.YthehiijgnepcfaaGreat
open Go.RowKit
def Rj (n :Nat) (T :List Pg) (t ix lo hi :Wd) :List (List V) :=Bn n (Em T (F5 (rk1 t ix ((rng T lo hi).map Prod.fst))))
theorem N6 (L :List Wd) : (F5 L).length≤L.length :=by
 unfold F5
 rw [List.length_map]
 refine Nat.le_trans ?_ (Nat.le_of_eq (Ir L))
 unfold Lib.compact Lib.compactUpTo
 rw [List.length_map]
 exact Nat.le_trans (List.length_filter_le _ _) (by simp)
theorem Km {T :List Pg} {lo hi :Wd} {x :Wd×Wd} (h :x∈rng T lo hi) :x∈flat T := (List.mem_filter.1 h).1
theorem Qf {F :List (Wd×Wd)} {k y :Wd} (h :Cw F k=some y) : (k,y) ∈F :=by
 unfold Cw at h
 cases hf :F.find? fun x=>decide (x.1=k) with
 | none=>rw [hf] at h;cases h
 | some p=>
  rw [hf] at h
  obtain rfl :p.2=y :=by simpa using h
  have h1 :=List.find?_some hf
  obtain rfl :p.1=k :=by simpa using h1
  exact List.mem_of_find?_eq_some hf
set_option maxRecDepth 100000 in
set_option maxHeartbeats 4000000 in
theorem Pq (nmv ix :Wd) (T :List Pg) (pv :Value) (so :Option Addr) (n sc :Nat) (lo hi :Wd) (w :World) (hp :A5 w pv T) (hg :Ap T) (hT :T.length≤100000) (hix0 :ix≠ ⟨#[]⟩) (hixs :ix.size≤1000000) (hns :nmv.size≤1000000) (hx : ∀x∈flat T,x.1.size≤1000000∧x.2.size≤1000000) :
  Calls Tryz.prog 8 #[pv, .agg #[.string nmv, .slice so n sc],Fi ix lo hi] w fun e w'=>Oy w w' e (Rj n T nmv ix lo hi) :=by
 obtain ⟨psv,rfl,hpp⟩ :=hp
 obtain ⟨po,pc,rfl⟩ :=Dk hpp
 obtain ⟨i0,hi0,hz0,hz1,hz2⟩ :=info_parts N5
 have hb3 :=Cb w (.cells #[.slice po T.length pc] 48) (.cells #[.string nmv, .slice so n sc] 43) (.cells #[.string ix, .string lo, .string hi] 53)
 have bT :=Ac (Aq w (.cells #[.slice po T.length pc] 48) (.cells #[.string nmv, .slice so n sc] 43)) (.cells #[.string ix, .string lo, .string hi] 53)
 have bW :=A6 w (.cells #[.slice po T.length pc] 48) (.cells #[.string nmv, .slice so n sc] 43) (.cells #[.string ix, .string lo, .string hi] 53)
 have HR :=Tx true T ⟨fun _=>hg,fun _=>rfl⟩ (.agg #[.slice po T.length pc]) lo hi _ ⟨_,rfl,hpp.below hb3⟩ (by omega)
 rw [show Hv true T lo hi=rng T lo hi from rfl] at HR
 have hrl : (rng T lo hi).length≤400000 :=by
  have h1 :=Ph true T ⟨fun _=>hg,fun _=>rfl⟩ (lo :=lo) (hi :=hi)
  rw [show Hv true T lo hi=rng T lo hi from rfl] at h1
  omega
 have hkl : ((rng T lo hi).map Prod.fst).length≤1000000 :=by rw [List.length_map];omega
 have HKS :Hid (∀x∈ (rng T lo hi).map Prod.fst,x.size≤1000000) :=fun x hh=>by obtain ⟨y,hy,rfl⟩ :=List.mem_map.1 hh;exact (hx y (Km hy)).1
 have hxl : (Em T (F5 (rk1 nmv ix ((rng T lo hi).map Prod.fst)))).length≤400000 :=Nat.le_trans (Pp _ _) (Nat.le_trans (N6 _) (Nat.le_trans (Kc _ _ _) (by rw [List.length_map];exact hrl)))
 have hol : (F5 (rk1 nmv ix ((rng T lo hi).map Prod.fst))).length≤1000000 :=Nat.le_trans (N6 _) (Nat.le_trans (Kc _ _ _) hkl)
 have HX :Hid (∀x∈Em T (F5 (rk1 nmv ix ((rng T lo hi).map Prod.fst))),x.size≤1000000) :=fun x hh=>by
  obtain ⟨y,hy,h2⟩ :=List.mem_filterMap.1 hh
  exact (hx _ (Qf h2)).2
 clear hx hrl
 unfold H9 at HR
 have ER :Hid (Rj n T nmv ix lo hi=Bn n (Em T (F5 (rk1 nmv ix ((rng T lo hi).map Prod.fst))))) :=rfl
 rw [ER.out]
 clear ER
 generalize (rng T lo hi).map Prod.fst=Y at HR hxl HX hkl HKS hol⊢
 generalize (rng T lo hi).map Prod.snd=X0 at HR
 have HB :=fun kv W h1 h2=>Ri T (.agg #[.slice po T.length pc]) kv (F5 (rk1 nmv ix Y)) W h1 hg hT h2 hol
 have HKk :=fun kv W h1=>Yc nmv ix kv Y W h1 hkl hns hixs HKS.out
 have HPP :Hid (Aw w (.slice po T.length pc) T) :=hpp
 generalize F5 (rk1 nmv ix Y) =Z at HB HKk hxl HX hol⊢
 generalize hXX :Em T Z=X at HB hxl HX⊢
 clear hXX hol
 generalize hW : ((w.alloc (.cells #[.slice po T.length pc] 48)).alloc (.cells #[.string nmv, .slice so n sc] 43)).alloc (.cells #[.string ix, .string lo, .string hi] 53) =W3 at hb3 HR bT bW
 have bP :W3.heap[w.heap.size]? =some (.cells #[.slice po T.length pc] 48) :=by rw [←hW];exact Ac (Ac (Ab w _) _) _
 have HW :Hid _ :=hW
 clear hW
 have c0 :=Aa bP (j :=0) rfl
 have c1 :=Aa bW (j :=0) rfl
 have c2 :=Aa bW (j :=1) rfl
 have c3 :=Aa bW (j :=2) rfl
 have hix1 : (ByteArray.toList ix).isEmpty=false :=by
  rw [Gr]
  refine decide_eq_false fun h=>hix0 ?_
  cases ix with | mk d=>exact congrArg ByteArray.mk (Array.eq_empty_of_size_eq_zero h)
 clear hix0
 unfold Fi
 go_enter Tryz.func8,Tryz.ntmps8
 go_upto_region 1 with fail
 rw [HW.out]
 go_wp2_with (go_at_call 24;go_fit HR;rintro e w0 ⟨kv,vv,rfl,hk1,hv0,hb0⟩;obtain ⟨vo0,vc0,rfl⟩ :=Dz.shape hv0;obtain ⟨ko0,kc0,rfl⟩ :=Dz.shape hk1;have c1' :=Aa ((hb0.block _ (lt_of_block bW)).trans bW) (j :=0) rfl)
 have hW0 :Below w.heap.size w w0 :=hb3.trans (hb0.mono hb3.size)
 have bT0 := (hb0.block _ (lt_of_block bT)).trans bT
 have bP0 := (hb0.block _ (lt_of_block bP)).trans bP
 have bW0 := (hb0.block _ (lt_of_block bW)).trans bW
 have KS :Hid (∀W,Below w0.heap.size w0 W→W.cell? ⟨w.heap.size,0,none⟩ =some (.slice po T.length pc) ∧W.cell? ⟨w.heap.size+1,0,none⟩ =some (.string nmv) ∧W.cell? ⟨w.heap.size+2,0,none⟩ =some (.string ix)) :=fun W hb=>
  ⟨Aa ((hb.block _ (lt_of_block bP0)).trans bP0) (j :=0) rfl,Aa ((hb.block _ (lt_of_block bT0)).trans bT0) (j :=0) rfl,Aa ((hb.block _ (lt_of_block bW0)).trans bW0) (j :=0) rfl⟩
 have s0 :=KS.out w0.drew (Below.refl _ _).drew
 clear hv0 HR hpp
 go_region_held3 (fun W=>W.cell? ⟨w.heap.size,0,none⟩ =some (.slice po T.length pc) ∧W.cell? ⟨w.heap.size+1,0,none⟩ =some (.string nmv) ∧W.cell? ⟨w.heap.size+2,0,none⟩ =some (.string ix))
  (with_reducible first | exact s2 | exact s1 | exact s0)
  (first
   | (go_at_call 26;go_fit (HKk _ _ (Dz.below hk1 (Below.refl _ _).drew));rintro e wk ⟨zv,rfl,hzk,hbk⟩;have hBk :Below w0.heap.size w0 wk :=Ad (Below.refl _ _).drew hbk;have s1 :=KS.out wk hBk)
   | (go_at_call 25;go_fit (HB _ _ ⟨_,rfl,Aw.below HPP.out (hW0.trans (hBk.mono hW0.size))⟩ hzk);rintro e w1 ⟨tv1,rfl,hv1,hbt⟩;obtain ⟨vo,vc,rfl⟩ :=Dz.shape hv1;have hb1 :Below w0.heap.size w0 w1 :=Ad hBk hbt;have s2 :=KS.out w1 hb1))
 go_wp2
 have bT1 := (hb1.block _ (lt_of_block bT0)).trans bT0
 have hW1 :Below w.heap.size w w1 :=hW0.trans (hb1.mono hW0.size)
 go_loopw [9,36] (fun zv i wr=> ∃k :Nat,k≤X.length∧i= .int .i64 k∧Hk w1.heap.size zv (Bn n (X.take k)) wr∧Below w1.heap.size w1 wr) (fun _ i _=>X.length - (intOf i).toNat)
 case atStart=>exact ⟨0,Nat.zero_le _,rfl,Rh _ _,Below.refl _ _⟩
 case round=>
  obtain ⟨k,hk,rfl,⟨cs,hown,hall⟩,hbel⟩ :=hrel
  by_cases hlt :k<X.length
  ·obtain ⟨x,hx⟩ : ∃x,X[k]? =some x := ⟨_,List.getElem?_eq_getElem hlt⟩
   obtain ⟨b,off,cap,hsl,hb,_,_,hcell⟩ :=hv1.at (by omega)
   cases hsl
   have d0 := (hbel.cell (p := ⟨b,off+k,none⟩) hb).trans (hcell k x hx)
   have HV :=fun W=>Iq x W (by have :=HX.out x (List.mem_of_getElem? hx);omega)
   have HXI :Hid (Bn n (X.take (k+1)) =Bn n (X.take k) ++ (Dt n x).toList) :=Pm hx
   have v0 : (0 :Int) ≤ (k :Int) :=by omega
   have v1 : (k :Int) < (X.length :Int) :=by omega
   have hsz :=hbel.size
   have ho0 :=hown.lt
   have bT2 := (hbel.block _ (lt_of_block bT1)).trans bT1
   have hal : (Bn n (X.take k)).length≤400000 :=Nat.le_trans (Na _ _) (by simp;omega)
   clear hx hcell
   unfold El at HV
   cases hvx :vals x.data.toList with
   | none=>
    have E2 :Hid (Bn n (X.take (k+1)) =Bn n (X.take k)) :=by show _=_;rw [HXI.out,Dt,hvx];simp
    rw [hvx] at HV
    simp only at HV
    go_wp2_with (go_at_call 27;go_fit (HV _);rintro e w2 ⟨rfl,hb2⟩)
    go_roundw
    case rel=>exact ⟨k+1,by omega,by go_num,by rw [E2.out];exact Hk.below ⟨cs,hown,hall⟩ hb2,hbel.trans (hb2.mono hsz)⟩
    case measure=>simp [intOf];omega
   | some L=>
    rw [hvx] at HV
    simp only at HV
    have t0 :=Aa bT2 (j :=0) rfl
    have t1 :=Aa bT2 (j :=1) rfl
    have HF :=fun ao c W=>Ku nmv so n sc ao L.length c W
    by_cases hf :0<L.length∧L.length=n
    ·have E2 :Hid (Bn n (X.take (k+1)) =Bn n (X.take k) ++ [L]) :=by show _=_;rw [HXI.out,Dt,hvx];simp only;rw [if_pos hf];rfl
     rw [show (decide (0<L.length) &&decide (L.length=n)) =true by rw [decide_eq_true hf.1,decide_eq_true hf.2];rfl] at HF
     clear hf HXI
     go_wp2_with (first
      | (go_at_call 27;go_fit (HV _);rintro e w2 ⟨⟨lv,rfl,hl2⟩,hb2⟩;obtain ⟨lo2,lc2,rfl⟩ :=Dz.shape (Dz.of_own hl2);have t2 :=Aa ((hb2.block _ (lt_of_block bT2)).trans bT2) (j :=0) rfl;have t3 :=Aa ((hb2.block _ (lt_of_block bT2)).trans bT2) (j :=1) rfl)
      | (go_at_call 28;go_fit (HF _ _ _);rintro e w3 ⟨rfl,hb3'⟩;have hB3 :Below wr.heap.size wr (w3.alloc (.cells [.slice lo2 L.length lc2].toArray 55)) := (Ad hb2 hb3').alloc (Ad hb2 hb3').size _;have hown3 :=Ar hown hB3;have hnew :=Cl w3 [.slice lo2 L.length lc2] 55;have hbase :w1.heap.size≤ (w3.alloc (.cells [.slice lo2 L.length lc2].toArray 55)).heap.size :=Nat.le_trans hsz hB3.size)
      | (at_builtin;go_must (refine wpList_append_own_at _ rfl _ _ 37 rfl w1.heap.size 55 i0 (.slice none 0 0) 1 24 Tryz.underlying37 hi0 hz0 hz1 hz2 rfl (by decide) _ _ _ rfl hown3 ⟨w3.heap.size,0,none⟩ 1 1 [.slice lo2 L.length lc2] rfl rfl hnew ?h1 (by simp only [maxLen];omega) (by omega) hbase ?h2)))
     case h1=>simp only [List.forall_mem_cons];repeat (first | exact fun _ h=>absurd h List.not_mem_nil | refine ⟨rfl, ?_⟩)
     case h2=>
      intro z2 w4 hown4 hg4 _ hat
      have hat' :z2.ownBlock=u9.ownBlock∨z2.ownBlock=some (w3.alloc (.cells [.slice lo2 L.length lc2].toArray 55)).heap.size :=by rw [World.size_alloc];exact hat
      have hLf :IsL Mj (FO w1.heap.size u9) (w3.alloc (.cells [.slice lo2 L.length lc2].toArray 55)) (.slice lo2 L.length lc2) L :=
       (Y8 hl2 fun k hk=> ⟨Nat.le_trans hsz hk,fun e=>by have := (ho0 k e.symm).2;omega⟩).keep (Bd ((Ad hb3' (Ao _ _))))
      have hst :=Pk hown4 (hall.keep (Bd hB3)) hLf hg4 hat'
      have hbb :Below w1.heap.size w1 w4 := (hbel.trans (hB3.mono hsz)).grown hg4 hbase fun k hk=> (ho0 k hk).1
      go_wp2_with fail
      go_roundw
      case rel=>exact ⟨k+1,by omega,by go_num,by rw [E2.out];exact hst,hbb⟩
      case measure=>simp [intOf];omega
    ·have E2 :Hid (Bn n (X.take (k+1)) =Bn n (X.take k)) :=by show _=_;rw [HXI.out,Dt,hvx];simp only;rw [if_neg hf];simp
     rw [show (decide (0<L.length) &&decide (L.length=n)) =false by rw [Bool.and_eq_false_iff,decide_eq_false_iff_not,decide_eq_false_iff_not];omega] at HF
     go_wp2_with (first | (go_at_call 27;go_fit (HV _);rintro e w2 ⟨⟨lv,rfl,hl2⟩,hb2⟩;obtain ⟨lo2,lc2,rfl⟩ :=Dz.shape (Dz.of_own hl2);have t2 :=Aa ((hb2.block _ (lt_of_block bT2)).trans bT2) (j :=0) rfl;have t3 :=Aa ((hb2.block _ (lt_of_block bT2)).trans bT2) (j :=1) rfl) | (go_at_call 28;go_fit (HF _ _ _);rintro e w3 ⟨rfl,hb3'⟩))
     go_roundw
     case rel=>exact ⟨k+1,by omega,by go_num,by rw [E2.out];exact Hk.below (Hk.below ⟨cs,hown,hall⟩ hb2) hb3',(hbel.trans (hb2.mono hsz)).trans (hb3'.mono (by have :=hb2.size;omega))⟩
     case measure=>simp [intOf];omega
  ·have hkn :k=X.length :=by omega
   subst hkn
   have v1 : ¬ ((X.length :Int) < (X.length :Int)) :=by omega
   rw [List.take_length] at hown hall
   go_wp2
   go_ret
   exact ⟨_,rfl,Hk.base ⟨cs,hown,hall⟩ hW1.size,hW1.trans (hbel.mono hW1.size)⟩
theorem Yd (nmv ix :Wd) (T :List Pg) (pv :Value) (so :Option Addr) (n sc :Nat) (lo hi :Wd) (w :World) (hp :A5 w pv T) (hg :Ap T) (hT :T.length≤100000) (hix0 :ix≠ ⟨#[]⟩) (hixs :ix.size≤1000000) (hns :nmv.size≤1000000) (hx : ∀x∈flat T,x.1.size≤1000000∧x.2.size≤1000000) :
  Calls Tryz.prog 8 #[pv, .agg #[.string nmv, .slice so n sc],Fi ix lo hi] w fun e w'=>Oz w w' e (Rj n T nmv ix lo hi) :=
 (Pq nmv ix T pv so n sc lo hi w hp hg hT hix0 hixs hns hx).mono fun _ _ h=>h.ans
end Go.Proofs.YthehiijgnepcfaaGreat

namespace Go.Proofs.YthehiijgnepcfaaGreat
open Go.RowKit
structure Sp where
 lo :Wd
 hi :Wd
def Sp.val (s :Sp) :Value := .agg #[.string s.lo, .string s.hi]
def ffW :Wd := ⟨#[255]⟩
def Ey (s :Wd) :Sp := ⟨s,s++ffW⟩
def kb (v :V) :Wd :=str (Ax [v]).1
def skS (v :V) :Sp :=Ey ((kb v).extract 0 1)
def Kd (v :V) (yes :Bool) :Sp :=if yes then Ey (kb v) else skS v
def Kv (v :V) (yes :Bool) :Sp :=if yes then ⟨(skS v).lo,kb v⟩ else ⟨kb v,(skS v).hi⟩
def I4 (v :V) (yes :Bool) :Sp :=if yes then ⟨kb v++ffW,(skS v).hi⟩ else ⟨(skS v).lo,kb v++ffW⟩
def Sp.empty (s :Sp) :Bool := !klt s.lo s.hi
def Hc (a b :Wd) :Wd :=if klt a b then b else a
def Hd (a b :Wd) :Wd :=if klt b a then b else a
def Sp.both (s o :Sp) :Sp := ⟨Hc s.lo o.lo,Hd s.hi o.hi⟩
def Sp.either (s o :Sp) :Sp :=if s.empty then o else if o.empty then s else ⟨Hd s.lo o.lo,Hc s.hi o.hi⟩
def noS :Sp := ⟨noW,noW⟩
theorem A7 {fn :Func} {p :Tmp} {w0 w :World} {g :Nat} {a :Act} {c0 c1 :Value} {t ty :TypeId} {fs :Array Field} (x y :Value) (hr :fn.results= #[.cell p ty]) (hp :a.tmps.getD p undef= .pointer (some ⟨g,0,none⟩)) (hd :a.defers= [])
  (hg :w.heap[g]? =some (.cells #[c0,c1] t)) (hb :Below w0.heap.size w0 w) (hlt :w0.heap.size≤g)
  (hu :Tryz.prog.underlying ty=some (.struct fs)) (hi : (Tryz.prog.info? ty).map (·.size) =some 2) :
  bodyPost Tryz.prog fn (fun e w'=>e= .returned (.agg #[x,y]) ∧Below w0.heap.size w0 w') .ret a ((w.setCell ⟨g,0,none⟩ x).setCell ⟨g,1,none⟩ y) :=
 bodyPost_ret (results_cell_row hr a.tmps _ g t #[x,y] (0,0) _ hp (by rw [upd (upd hg 0 x) 1 y];rfl) hu rfl hi) hd ⟨rfl,(hb.setCell hlt _).setCell hlt _⟩
theorem Am {w w' :World} {g :Nat} {t :TypeId} {c0 c1 :Value} (hg :w.heap[g]? =some (.cells #[c0,c1] t)) (hb :Below w.heap.size w w') :w'.heap[g]? =some (.cells #[c0,c1] t) ∧w'.cell? ⟨g,0,none⟩ =some c0∧w'.cell? ⟨g,1,none⟩ =some c1∧w'.frozen? ⟨g,0,none⟩ =false∧w'.frozen? ⟨g,1,none⟩ =false :=by
 have h := (hb.block g (lt_of_block hg)).trans hg
 exact ⟨h,Aa h (j :=0) rfl,Aa h (j :=1) rfl,by simp [World.frozen?,h],by simp [World.frozen?,h]⟩
theorem Rk {v :V} (h :good v=true) :1≤ (kb v).size∧ (kb v).size≤10 :=by
 have h1 :=Kl h
 have h2 :=Vl v h
 unfold kb
 rw [P3,h1]
 refine ⟨?_,h2⟩
 unfold keyOf
 split
 ·simp
 ·split<;>simp
theorem Rl (v :V) : (kb v).size≤10 :=Hj [v]
theorem Is (v :V) (vb :Nat) (w :World) (hs :v.s.size≤maxLen) (hv :w.heap[vb]? =some (.cells #[.int .i64 v.k, .int .i64 v.n, .string v.s] 32)) :
  Calls Tryz.prog 52 #[.slice (some ⟨vb,0,none⟩) 1 1] w fun e w'=>e= .returned (.string (kb v)) ∧Below w.heap.size w w' :=
 J9 [v] (.slice (some ⟨vb,0,none⟩) 1 1) w (.inr ⟨_,_,_,rfl,lt_of_block hv,fun i x hi=>by
  match i,hi with
  | 0,hi=>simp at hi;subst hi;exact ⟨Aa hv rfl,Aa hv rfl,Aa hv rfl⟩⟩) (by simp) (by simpa using hs)
theorem Le {W :World} {g n :Nat} (hn :n≠g) (a b :Value) (o :Nat) : ((W.setCell ⟨g,0,none⟩ a).setCell ⟨g,1,none⟩ b).cell? ⟨n,o,none⟩ =W.cell? ⟨n,o,none⟩ :=by
 rw [World.cell?_setCell_other _ _ _ _ (by intro e;cases e;exact hn rfl),World.cell?_setCell_other _ _ _ _ (by intro e;cases e;exact hn rfl)]
theorem Ft {W :World} {g n :Nat} {c0 c1 c2 :Value} (h :W.cell? ⟨n,0,none⟩ =some c0∧W.cell? ⟨n,1,none⟩ =some c1∧W.cell? ⟨n,2,none⟩ =some c2) (hn :n≠g) (a b :Value) :
  ((W.setCell ⟨g,0,none⟩ a).setCell ⟨g,1,none⟩ b).cell? ⟨n,0,none⟩ =some c0∧ ((W.setCell ⟨g,0,none⟩ a).setCell ⟨g,1,none⟩ b).cell? ⟨n,1,none⟩ =some c1∧ ((W.setCell ⟨g,0,none⟩ a).setCell ⟨g,1,none⟩ b).cell? ⟨n,2,none⟩ =some c2 :=
 ⟨(Le hn a b 0).trans h.1,(Le hn a b 1).trans h.2.1,(Le hn a b 2).trans h.2.2⟩
theorem Aai (a b :Wd) (W :World) : (Instr.field 81 (.agg #[.string a, .string b]) 0).run Tryz.prog W= .ok (.string a) W :=by kernel_rfl
theorem Wf (a b :Wd) (W :World) : (Instr.field 81 (.agg #[.string a, .string b]) 1).run Tryz.prog W= .ok (.string b) W :=by kernel_rfl
set_option maxHeartbeats 2000000 in
theorem Kw (v :V) (w :World) (hg :good v=true) (hs :v.s.size≤maxLen) :Calls Tryz.prog 156 #[v.val] w fun e w'=>e= .returned (skS v).val∧Below w.heap.size w w' :=by
 have hz :=Rk hg
 have HK :=fun (W :World) (vb :Nat) h=>Is v vb W hs h
 obtain ⟨vk,vn,vs⟩ :=v
 simp only at HK
 have E :Hid ((skS ⟨vk,vn,vs⟩).val= .agg #[.string ((kb ⟨vk,vn,vs⟩).extract 0 1), .string ((kb ⟨vk,vn,vs⟩).extract 0 1++ffW)]) :=rfl
 rw [E.out]
 generalize kb ⟨vk,vn,vs⟩ =k at HK hz
 have hp : (k.extract 0 1).size≤1000000 :=by simp [ByteArray.size_extract];omega
 have HB :=fun W=>Fa (k.extract 0 1) W hp
 have z1 : (1 :Int) ≤ (k.size :Int) :=by omega
 clear hs hg E hp
 simp only [V.val]
 generalize hq :k.extract 0 1=q at HB
 unfold ffW
 have blk :=Aq w (.cells #[.int .i64 vk, .int .i64 vn, .string vs] 32) (.cells #[.string noW, .string noW] 81)
 go_enter Tryz.func156,Tryz.ntmps156
 go_wp2_with (first
  | (go_at_call 52;go_must (go_fit (HK _ _ (A6 _ _ _ _));rintro e w1 ⟨rfl,hb1⟩))
  | (go_at_call 54;go_must (go_fit (HB _);rintro e w2 ⟨rfl,hb2⟩;obtain ⟨r0,r1,r2,r3,r4⟩ :=Am blk (Ad (Ao _ _) (Ad hb1 hb2)))))
 exact A7 _ _ Tryz.results156 rfl rfl r0 (Ad (Cb w _ _ _) (Ad hb1 hb2)) (by omega) Tryz.underlying81 (by kernel_rfl)
set_option maxRecDepth 100000 in
set_option maxHeartbeats 4000000 in
theorem Wg (v :V) (yes :Bool) (w :World) (hg :good v=true) (hs :v.s.size≤maxLen) :Calls Tryz.prog 117 #[v.val, .bool yes] w fun e w'=>e= .returned (Kd v yes).val∧Below w.heap.size w w' :=by
 have hz :=Rk hg
 have HK :=fun (W :World) (vb :Nat) h=>Is v vb W hs h
 have HS :=fun W=>Kw v W hg hs
 have HB :=fun W=>Fa (kb v) W (by omega)
 have E :Hid ((Kd v true).val= .agg #[.string (kb v), .string (kb v++ffW)] ∧ (Kd v false).val= .agg #[.string (skS v).lo, .string (skS v).hi]) := ⟨rfl,rfl⟩
 obtain ⟨vk,vn,vs⟩ :=v
 simp only at HK
 simp only [V.val] at HS⊢
 have ES :Hid ((skS ⟨vk,vn,vs⟩).val= .agg #[.string (skS ⟨vk,vn,vs⟩).lo, .string (skS ⟨vk,vn,vs⟩).hi]) :=rfl
 rw [ES.out] at HS
 clear hs hg hz ES
 unfold ffW at E
 have blk :=Aq w (.cells #[.int .i64 vk, .int .i64 vn, .string vs] 32) (.cells #[.string noW, .string noW] 81)
 have blv :=Ac (Ab w (.cells #[.int .i64 vk, .int .i64 vn, .string vs] 32)) (.cells #[.string noW, .string noW] 81)
 have hb2 :=Bb w (.cells #[.int .i64 vk, .int .i64 vn, .string vs] 32) (.cells #[.string noW, .string noW] 81)
 generalize (skS ⟨vk,vn,vs⟩).lo=slo at HS E
 generalize (skS ⟨vk,vn,vs⟩).hi=shi at HS E
 generalize kb ⟨vk,vn,vs⟩ =k at HK HB E
 cases yes
 ·rw [E.out.2]
  go_enter Tryz.func117,Tryz.ntmps117
  go_wp2_with (go_at_call 156;go_must (go_fit (HS _);rintro e w1 ⟨rfl,hb1⟩;obtain ⟨r0,r1,r2,r3,r4⟩ :=Am blk hb1))
  exact A7 _ _ Tryz.results117 rfl rfl r0 (Ad hb2 hb1) (by omega) Tryz.underlying81 (by kernel_rfl)
 ·rw [E.out.1]
  go_enter Tryz.func117,Tryz.ntmps117
  go_wp2_with (first
   | (go_at_call 52;go_must (go_fit (HK _ _ (A6 _ _ _ _));rintro e w1 ⟨rfl,hb1⟩))
   | (go_at_call 54;go_must (go_fit (HB _);rintro e w2 ⟨rfl,hb2'⟩;obtain ⟨r0,r1,r2,r3,r4⟩ :=Am blk (Ad (Ao _ _) (Ad hb1 hb2')))))
  exact A7 _ _ Tryz.results117 rfl rfl r0 (Ad (Cb w _ _ _) (Ad hb1 hb2')) (by omega) Tryz.underlying81 (by kernel_rfl)
set_option maxRecDepth 100000 in
set_option maxHeartbeats 4000000 in
theorem Ace (v :V) (yes :Bool) (w :World) (hg :good v=true) (hs :v.s.size≤maxLen) :Calls Tryz.prog 118 #[v.val, .bool yes] w fun e w'=>e= .returned (Kv v yes).val∧Below w.heap.size w w' :=by
 have hz :=Rk hg
 have HK :=fun (W :World) (vb :Nat) h=>Is v vb W hs h
 have HS :=fun W=>Kw v W hg hs
 have HB :=fun W=>Fa (kb v) W (by omega)
 have E :Hid ((Kv v true).val= .agg #[.string (skS v).lo, .string (kb v)] ∧ (Kv v false).val= .agg #[.string (kb v), .string (skS v).hi]) := ⟨rfl,rfl⟩
 obtain ⟨vk,vn,vs⟩ :=v
 simp only at HK
 simp only [V.val] at HS⊢
 have ES :Hid ((skS ⟨vk,vn,vs⟩).val= .agg #[.string (skS ⟨vk,vn,vs⟩).lo, .string (skS ⟨vk,vn,vs⟩).hi]) :=rfl
 rw [ES.out] at HS
 clear hs hg hz ES
 unfold ffW at E
 have blk :=Aq w (.cells #[.int .i64 vk, .int .i64 vn, .string vs] 32) (.cells #[.string noW, .string noW] 81)
 have blv :=Ac (Ab w (.cells #[.int .i64 vk, .int .i64 vn, .string vs] 32)) (.cells #[.string noW, .string noW] 81)
 have hb2 :=Bb w (.cells #[.int .i64 vk, .int .i64 vn, .string vs] 32) (.cells #[.string noW, .string noW] 81)
 generalize (skS ⟨vk,vn,vs⟩).lo=slo at HS E
 generalize (skS ⟨vk,vn,vs⟩).hi=shi at HS E
 generalize kb ⟨vk,vn,vs⟩ =k at HK HB E
 generalize hW : (w.alloc (.cells #[.int .i64 vk, .int .i64 vn, .string vs] 32)).alloc (.cells #[.string noW, .string noW] 81) =V at blk blv hb2
 cases yes
 ·rw [E.out.2]
  have HW :Hid _ :=hW
  clear hW
  have KS :Hid (∀W,Below V.heap.size V W→W.cell? ⟨w.heap.size,0,none⟩ =some (.int .i64 vk) ∧W.cell? ⟨w.heap.size,1,none⟩ =some (.int .i64 vn) ∧W.cell? ⟨w.heap.size,2,none⟩ =some (.string vs)) :=fun W hW=>by
   have b := (hW.block _ (lt_of_block blv)).trans blv
   exact ⟨Aa b (j :=0) rfl,Aa b (j :=1) rfl,Aa b (j :=2) rfl⟩
  have z0 :Below V.heap.size V V.drew := (Below.refl _ V).drew
  have zA :Below V.heap.size V (V.drew.alloc (.cells #[.int .i64 vk, .int .i64 vn, .string vs] 32)) :=z0.alloc (Nat.le_refl _) _
  have zD :Below V.heap.size V (V.alloc (.cells #[.int .i64 vk, .int .i64 vn, .string vs] 32)).drew := ((Below.refl _ V).alloc (Nat.le_refl _) _).drew
  have hne1 :w.heap.size≠w.heap.size+1 :=by omega
  have F0 :=Aai
  have F1 :=Wf
  have y0 :=KS.out _ z0
  have yA :=KS.out _ zA
  have yD :=KS.out _ zD
  go_enter Tryz.func118,Tryz.ntmps118
  go_upto_region 3 with fail
  rw [HW.out]
  go_region_held3 (fun W=>W.cell? ⟨w.heap.size,0,none⟩ =some (.int .i64 vk) ∧W.cell? ⟨w.heap.size,1,none⟩ =some (.int .i64 vn) ∧W.cell? ⟨w.heap.size,2,none⟩ =some (.string vs))
   (with_reducible first | exact y0 | exact yA | exact yD | exact yS | exact ySA | exact yK | exact yB | exact Ft yS hne1 _ _ | exact Ft yB hne1 _ _)
   (first
    | (go_at_call 156;refine (HS _).mono ?_;rintro e wS ⟨rfl,hbS⟩;have zS :Below V.heap.size V wS :=Ad (by with_reducible first | exact z0 | exact zA | exact zD | exact zK | exact zB) hbS;have zL :Below V.heap.size V wS :=zS;obtain ⟨r0,r1,r2,r3,r4⟩ :=Am blk zS;have yS :=KS.out _ zS;have ySA :=KS.out _ (zS.alloc zS.size (.cells #[.int .i64 vk, .int .i64 vn, .string vs] 32)))
    | (go_at_call 52;refine (HK _ _ (by first | exact Ab _ _ | exact (hbS.block _ (lt_of_block (Ab V (.cells #[.int .i64 vk, .int .i64 vn, .string vs] 32)))).trans (Ab V (.cells #[.int .i64 vk, .int .i64 vn, .string vs] 32)))).mono ?_;rintro e wK ⟨rfl,hbK⟩;have zK :Below V.heap.size V wK :=Ad (by with_reducible first | exact zA | exact zD | exact zS | exact zS.alloc zS.size _) hbK;have yK :=KS.out _ zK)
    | (go_at_call 54;refine (HB _).mono ?_;rintro e wB ⟨rfl,hbB⟩;have zB :Below V.heap.size V wB :=Ad (by with_reducible first | exact zK | exact zS) hbB;have zL :Below V.heap.size V wB :=zB;obtain ⟨r0,r1,r2,r3,r4⟩ :=Am blk zB;have yB :=KS.out _ zB))
  all_goals
   go_wp2
   exact A7 _ _ Tryz.results118 rfl rfl r0 (Ad hb2 zL) (by omega) Tryz.underlying81 (by kernel_rfl)
 ·rw [E.out.1]
  have HW :Hid _ :=hW
  clear hW
  have KS :Hid (∀W,Below V.heap.size V W→W.cell? ⟨w.heap.size,0,none⟩ =some (.int .i64 vk) ∧W.cell? ⟨w.heap.size,1,none⟩ =some (.int .i64 vn) ∧W.cell? ⟨w.heap.size,2,none⟩ =some (.string vs)) :=fun W hW=>by
   have b := (hW.block _ (lt_of_block blv)).trans blv
   exact ⟨Aa b (j :=0) rfl,Aa b (j :=1) rfl,Aa b (j :=2) rfl⟩
  have z0 :Below V.heap.size V V.drew := (Below.refl _ V).drew
  have zA :Below V.heap.size V (V.drew.alloc (.cells #[.int .i64 vk, .int .i64 vn, .string vs] 32)) :=z0.alloc (Nat.le_refl _) _
  have zD :Below V.heap.size V (V.alloc (.cells #[.int .i64 vk, .int .i64 vn, .string vs] 32)).drew := ((Below.refl _ V).alloc (Nat.le_refl _) _).drew
  have hne1 :w.heap.size≠w.heap.size+1 :=by omega
  have F0 :=Aai
  have F1 :=Wf
  have y0 :=KS.out _ z0
  have yA :=KS.out _ zA
  have yD :=KS.out _ zD
  go_enter Tryz.func118,Tryz.ntmps118
  go_upto_region 2 with fail
  rw [HW.out]
  go_region_held3 (fun W=>W.cell? ⟨w.heap.size,0,none⟩ =some (.int .i64 vk) ∧W.cell? ⟨w.heap.size,1,none⟩ =some (.int .i64 vn) ∧W.cell? ⟨w.heap.size,2,none⟩ =some (.string vs))
   (with_reducible first | exact y0 | exact yA | exact yD | exact yS | exact ySA | exact yK | exact yB | exact Ft yS hne1 _ _ | exact Ft yB hne1 _ _)
   (first
    | (go_at_call 156;refine (HS _).mono ?_;rintro e wS ⟨rfl,hbS⟩;have zS :Below V.heap.size V wS :=Ad (by with_reducible first | exact z0 | exact zA | exact zD | exact zK | exact zB) hbS;have zL :Below V.heap.size V wS :=zS;obtain ⟨r0,r1,r2,r3,r4⟩ :=Am blk zS;have yS :=KS.out _ zS;have ySA :=KS.out _ (zS.alloc zS.size (.cells #[.int .i64 vk, .int .i64 vn, .string vs] 32)))
    | (go_at_call 52;refine (HK _ _ (by first | exact Ab _ _ | exact (hbS.block _ (lt_of_block (Ab V (.cells #[.int .i64 vk, .int .i64 vn, .string vs] 32)))).trans (Ab V (.cells #[.int .i64 vk, .int .i64 vn, .string vs] 32)))).mono ?_;rintro e wK ⟨rfl,hbK⟩;have zK :Below V.heap.size V wK :=Ad (by with_reducible first | exact zA | exact zD | exact zS | exact zS.alloc zS.size _) hbK;have yK :=KS.out _ zK)
    | (go_at_call 54;refine (HB _).mono ?_;rintro e wB ⟨rfl,hbB⟩;have zB :Below V.heap.size V wB :=Ad (by with_reducible first | exact zK | exact zS) hbB;have zL :Below V.heap.size V wB :=zB;obtain ⟨r0,r1,r2,r3,r4⟩ :=Am blk zB;have yB :=KS.out _ zB))
  all_goals
   go_wp2
   exact A7 _ _ Tryz.results118 rfl rfl r0 (Ad hb2 zL) (by omega) Tryz.underlying81 (by kernel_rfl)
set_option maxRecDepth 100000 in
set_option maxHeartbeats 4000000 in
theorem Aaj (v :V) (yes :Bool) (w :World) (hg :good v=true) (hs :v.s.size≤maxLen) :Calls Tryz.prog 119 #[v.val, .bool yes] w fun e w'=>e= .returned (I4 v yes).val∧Below w.heap.size w w' :=by
 have hz :=Rk hg
 have HK :=fun (W :World) (vb :Nat) h=>Is v vb W hs h
 have HS :=fun W=>Kw v W hg hs
 have HB :=fun W=>Fa (kb v) W (by omega)
 have E :Hid ((I4 v true).val= .agg #[.string (kb v++ffW), .string (skS v).hi] ∧ (I4 v false).val= .agg #[.string (skS v).lo, .string (kb v++ffW)]) := ⟨rfl,rfl⟩
 obtain ⟨vk,vn,vs⟩ :=v
 simp only at HK
 simp only [V.val] at HS⊢
 have ES :Hid ((skS ⟨vk,vn,vs⟩).val= .agg #[.string (skS ⟨vk,vn,vs⟩).lo, .string (skS ⟨vk,vn,vs⟩).hi]) :=rfl
 rw [ES.out] at HS
 clear hs hg hz ES
 unfold ffW at E
 have blk :=Aq w (.cells #[.int .i64 vk, .int .i64 vn, .string vs] 32) (.cells #[.string noW, .string noW] 81)
 have blv :=Ac (Ab w (.cells #[.int .i64 vk, .int .i64 vn, .string vs] 32)) (.cells #[.string noW, .string noW] 81)
 have hb2 :=Bb w (.cells #[.int .i64 vk, .int .i64 vn, .string vs] 32) (.cells #[.string noW, .string noW] 81)
 generalize (skS ⟨vk,vn,vs⟩).lo=slo at HS E
 generalize (skS ⟨vk,vn,vs⟩).hi=shi at HS E
 generalize kb ⟨vk,vn,vs⟩ =k at HK HB E
 generalize hW : (w.alloc (.cells #[.int .i64 vk, .int .i64 vn, .string vs] 32)).alloc (.cells #[.string noW, .string noW] 81) =V at blk blv hb2
 cases yes
 ·rw [E.out.2]
  have HW :Hid _ :=hW
  clear hW
  have KS :Hid (∀W,Below V.heap.size V W→W.cell? ⟨w.heap.size,0,none⟩ =some (.int .i64 vk) ∧W.cell? ⟨w.heap.size,1,none⟩ =some (.int .i64 vn) ∧W.cell? ⟨w.heap.size,2,none⟩ =some (.string vs)) :=fun W hW=>by
   have b := (hW.block _ (lt_of_block blv)).trans blv
   exact ⟨Aa b (j :=0) rfl,Aa b (j :=1) rfl,Aa b (j :=2) rfl⟩
  have z0 :Below V.heap.size V V.drew := (Below.refl _ V).drew
  have zA :Below V.heap.size V (V.drew.alloc (.cells #[.int .i64 vk, .int .i64 vn, .string vs] 32)) :=z0.alloc (Nat.le_refl _) _
  have zD :Below V.heap.size V (V.alloc (.cells #[.int .i64 vk, .int .i64 vn, .string vs] 32)).drew := ((Below.refl _ V).alloc (Nat.le_refl _) _).drew
  have hne1 :w.heap.size≠w.heap.size+1 :=by omega
  have F0 :=Aai
  have F1 :=Wf
  have y0 :=KS.out _ z0
  have yA :=KS.out _ zA
  have yD :=KS.out _ zD
  go_enter Tryz.func119,Tryz.ntmps119
  go_upto_region 3 with fail
  rw [HW.out]
  go_region_held3 (fun W=>W.cell? ⟨w.heap.size,0,none⟩ =some (.int .i64 vk) ∧W.cell? ⟨w.heap.size,1,none⟩ =some (.int .i64 vn) ∧W.cell? ⟨w.heap.size,2,none⟩ =some (.string vs))
   (with_reducible first | exact y0 | exact yA | exact yD | exact yS | exact ySA | exact yK | exact yB | exact Ft yS hne1 _ _ | exact Ft yB hne1 _ _)
   (first
    | (go_at_call 156;refine (HS _).mono ?_;rintro e wS ⟨rfl,hbS⟩;have zS :Below V.heap.size V wS :=Ad (by with_reducible first | exact z0 | exact zA | exact zD | exact zK | exact zB) hbS;have zL :Below V.heap.size V wS :=zS;obtain ⟨r0,r1,r2,r3,r4⟩ :=Am blk zS;have yS :=KS.out _ zS;have ySA :=KS.out _ (zS.alloc zS.size (.cells #[.int .i64 vk, .int .i64 vn, .string vs] 32)))
    | (go_at_call 52;refine (HK _ _ (by first | exact Ab _ _ | exact (hbS.block _ (lt_of_block (Ab V (.cells #[.int .i64 vk, .int .i64 vn, .string vs] 32)))).trans (Ab V (.cells #[.int .i64 vk, .int .i64 vn, .string vs] 32)))).mono ?_;rintro e wK ⟨rfl,hbK⟩;have zK :Below V.heap.size V wK :=Ad (by with_reducible first | exact zA | exact zD | exact zS | exact zS.alloc zS.size _) hbK;have yK :=KS.out _ zK)
    | (go_at_call 54;refine (HB _).mono ?_;rintro e wB ⟨rfl,hbB⟩;have zB :Below V.heap.size V wB :=Ad (by with_reducible first | exact zK | exact zS) hbB;have zL :Below V.heap.size V wB :=zB;obtain ⟨r0,r1,r2,r3,r4⟩ :=Am blk zB;have yB :=KS.out _ zB))
  all_goals
   go_wp2
   exact A7 _ _ Tryz.results119 rfl rfl r0 (Ad hb2 zL) (by omega) Tryz.underlying81 (by kernel_rfl)
 ·rw [E.out.1]
  have HW :Hid _ :=hW
  clear hW
  have KS :Hid (∀W,Below V.heap.size V W→W.cell? ⟨w.heap.size,0,none⟩ =some (.int .i64 vk) ∧W.cell? ⟨w.heap.size,1,none⟩ =some (.int .i64 vn) ∧W.cell? ⟨w.heap.size,2,none⟩ =some (.string vs)) :=fun W hW=>by
   have b := (hW.block _ (lt_of_block blv)).trans blv
   exact ⟨Aa b (j :=0) rfl,Aa b (j :=1) rfl,Aa b (j :=2) rfl⟩
  have z0 :Below V.heap.size V V.drew := (Below.refl _ V).drew
  have zA :Below V.heap.size V (V.drew.alloc (.cells #[.int .i64 vk, .int .i64 vn, .string vs] 32)) :=z0.alloc (Nat.le_refl _) _
  have zD :Below V.heap.size V (V.alloc (.cells #[.int .i64 vk, .int .i64 vn, .string vs] 32)).drew := ((Below.refl _ V).alloc (Nat.le_refl _) _).drew
  have hne1 :w.heap.size≠w.heap.size+1 :=by omega
  have F0 :=Aai
  have F1 :=Wf
  have y0 :=KS.out _ z0
  have yA :=KS.out _ zA
  have yD :=KS.out _ zD
  go_enter Tryz.func119,Tryz.ntmps119
  go_upto_region 2 with fail
  rw [HW.out]
  go_region_held3 (fun W=>W.cell? ⟨w.heap.size,0,none⟩ =some (.int .i64 vk) ∧W.cell? ⟨w.heap.size,1,none⟩ =some (.int .i64 vn) ∧W.cell? ⟨w.heap.size,2,none⟩ =some (.string vs))
   (with_reducible first | exact y0 | exact yA | exact yD | exact yS | exact ySA | exact yK | exact yB | exact Ft yS hne1 _ _ | exact Ft yB hne1 _ _)
   (first
    | (go_at_call 156;refine (HS _).mono ?_;rintro e wS ⟨rfl,hbS⟩;have zS :Below V.heap.size V wS :=Ad (by with_reducible first | exact z0 | exact zA | exact zD | exact zK | exact zB) hbS;have zL :Below V.heap.size V wS :=zS;obtain ⟨r0,r1,r2,r3,r4⟩ :=Am blk zS;have yS :=KS.out _ zS;have ySA :=KS.out _ (zS.alloc zS.size (.cells #[.int .i64 vk, .int .i64 vn, .string vs] 32)))
    | (go_at_call 52;refine (HK _ _ (by first | exact Ab _ _ | exact (hbS.block _ (lt_of_block (Ab V (.cells #[.int .i64 vk, .int .i64 vn, .string vs] 32)))).trans (Ab V (.cells #[.int .i64 vk, .int .i64 vn, .string vs] 32)))).mono ?_;rintro e wK ⟨rfl,hbK⟩;have zK :Below V.heap.size V wK :=Ad (by with_reducible first | exact zA | exact zD | exact zS | exact zS.alloc zS.size _) hbK;have yK :=KS.out _ zK)
    | (go_at_call 54;refine (HB _).mono ?_;rintro e wB ⟨rfl,hbB⟩;have zB :Below V.heap.size V wB :=Ad (by with_reducible first | exact zK | exact zS) hbB;have zL :Below V.heap.size V wB :=zB;obtain ⟨r0,r1,r2,r3,r4⟩ :=Am blk zB;have yB :=KS.out _ zB))
  all_goals
   go_wp2
   exact A7 _ _ Tryz.results119 rfl rfl r0 (Ad hb2 zL) (by omega) Tryz.underlying81 (by kernel_rfl)
end Go.Proofs.YthehiijgnepcfaaGreat

namespace Go.Proofs.YthehiijgnepcfaaGreat
open Go.RowKit Go.Maps
theorem Ua (p :Nat→Bool) (k n :Nat) (h :k<n) :Ay p k (n - k) = (p k || Ay p (k+1) (n - (k+1))) :=by
 rw [show n - k= (n - (k+1)) +1 from by omega,Ay]
def C7 (l :List Wd) (i :Nat) :Bool :=match l[i]?,l[i+1]? with
 | some a,some b=> !Op.bytesLess a.toList b.toList
 | _,_=>false
def Gk (l :List Wd) :Bool := !Ay (C7 l) 0 (l.length - 1)
set_option maxHeartbeats 400000 in
theorem Hp (nmv :Wd) (ao :Option Addr) (n c :Nat) (w :World) :Calls Tryz.prog 80 #[.agg #[.string nmv, .slice ao n c]] w fun e w'=>e= .returned (.string nmv) ∧Below w.heap.size w w' :=by
 go_enter Tryz.func80,Tryz.ntmps80
 go_wp2
 go_ret
 exact ⟨rfl,Ao _ _⟩
set_option maxHeartbeats 400000 in
theorem Hq (nmv t c :Wd) (w :World) :Calls Tryz.prog 86 #[.agg #[.string nmv, .string t, .string c]] w fun e w'=>e= .returned (.string nmv) ∧Below w.heap.size w w' :=by
 go_enter Tryz.func86,Tryz.ntmps86
 go_wp2
 go_ret
 exact ⟨rfl,Ao _ _⟩
theorem Hr {W W' :World} {b off k :Nat} {a0 a1 a2 a3 :Value} (h :W.cell? ⟨b,off+k*2,none⟩ =some a0∧W.cell? ⟨b,off+k*2+1,none⟩ =some a1∧W.cell? ⟨b,off+ (k+1) *2,none⟩ =some a2∧W.cell? ⟨b,off+ (k+1) *2+1,none⟩ =some a3) (hb :Below W.heap.size W W') (hl :b<W.heap.size) :W'.cell? ⟨b,off+k*2,none⟩ =some a0∧W'.cell? ⟨b,off+k*2+1,none⟩ =some a1∧W'.cell? ⟨b,off+ (k+1) *2,none⟩ =some a2∧W'.cell? ⟨b,off+ (k+1) *2+1,none⟩ =some a3 :=by
 have kc : ∀o,W'.cell? ⟨b,o,none⟩ =W.cell? ⟨b,o,none⟩ :=fun o=>hb.cell (p := ⟨b,o,none⟩) hl
 obtain ⟨h0,h1,h2,h3⟩ :=h
 exact ⟨(kc _).trans h0,(kc _).trans h1,(kc _).trans h2,(kc _).trans h3⟩
set_option maxRecDepth 100000 in
set_option maxHeartbeats 4000000 in
theorem Aed (l :List TabD) (sv :Value) (C :Nat) (w :World) (hl :IsL Cq (fun k=>k<C) w sv l) (hC :C≤w.heap.size) :
  Calls Tryz.prog 79 #[sv, .func (.func 80) #[] #[]] w fun e w'=>e= .returned (.bool (Gk (l.map TabD.name))) ∧Below w.heap.size w w' :=by
 obtain ⟨ao,c,rfl⟩ :=hl.shape
 have hlm := (Cj hl).2
 unfold maxLen at hlm
 have E :Hid (Gk (l.map TabD.name) = !Ay (C7 (l.map TabD.name)) 0 (l.length - 1)) :=by show _=_;rw [Gk,List.length_map]
 generalize Gk (l.map TabD.name) =r at E
 go_enter Tryz.func79,Tryz.ntmps79
 go_wp2
 go_loopw [5] (fun i wr=> ∃k :Nat,k≤l.length - 1∧i= .int .i64 ((k :Int) +1) ∧Below w.heap.size w wr∧Hid (Ay (C7 (l.map TabD.name)) 0 (l.length - 1) =Ay (C7 (l.map TabD.name)) k (l.length - 1 - k))) (fun i _=>l.length - (intOf i).toNat)
 case atStart=>exact ⟨0,Nat.zero_le _,rfl,Below.refl _ _,rfl⟩
 case round=>
  obtain ⟨k,hk,rfl,hbel,HP⟩ :=hrel
  by_cases hlt :k+1<l.length
  ·obtain ⟨x,hx⟩ : ∃x,l[k]? =some x := ⟨_,List.getElem?_eq_getElem (by omega)⟩
   obtain ⟨y,hy⟩ : ∃y,l[k+1]? =some y := ⟨_,List.getElem?_eq_getElem hlt⟩
   have hlr :=hl.keep (Af (hbel.mono hC))
   obtain ⟨b,off,cs0,rfl,_,hb,hR0,hcell0⟩ :=A4 hlr hx
   obtain ⟨b',off',cs1,hbe,_,_,hR1,hcell1⟩ :=A4 hlr hy
   simp only [Option.some.injEq,Addr.mk.injEq,and_true] at hbe
   obtain ⟨rfl,rfl⟩ :=hbe
   obtain ⟨sv0,rfl,hsv0⟩ :=hR0
   obtain ⟨so0,sc0,rfl⟩ :=hsv0.shape
   obtain ⟨sv1,rfl,hsv1⟩ :=hR1
   obtain ⟨so1,sc1,rfl⟩ :=hsv1.shape
   have d0 :=hcell0 0 _ rfl
   have d1 :=hcell0 1 _ rfl
   have e0 :=hcell1 0 _ rfl
   have e1 :=hcell1 1 _ rfl
   simp only [Cq,Nat.add_zero] at d0 d1 e0 e1
   have hst :Hid (Ay (C7 (l.map TabD.name)) k (l.length - 1 - k) = (!Op.bytesLess x.name.toList y.name.toList || Ay (C7 (l.map TabD.name)) (k+1) (l.length - 1 - (k+1)))) :=by
    show _=_
    rw [Ua _ k _ (by omega),C7,List.getElem?_map,List.getElem?_map,hx,hy]
    rfl
   have k0 : (0 :Int) ≤ (k :Int) +1 :=by omega
   have k1 : (k :Int) +1< (l.length :Int) :=by omega
   have k2 :wrap64 ((k :Int) +1 - 1) = (k :Int) :=by unfold wrap64;omega
   have k3 : (0 :Int) ≤ (k :Int) :=by omega
   have k4 : (k :Int) < (l.length :Int) :=by omega
   have k5 : ((k :Int) +1).toNat=k+1 :=by omega
   have k6 :IntKind.i64.wrap (k :Int) = (k :Int) :=by rw [IntKind.wrap_i64];omega
   have S0 := (show wr.cell? ⟨b,off+k*2,none⟩ =some (.string x.name) ∧wr.cell? ⟨b,off+k*2+1,none⟩ =some (.slice so0 x.cols.length sc0) ∧wr.cell? ⟨b,off+ (k+1) *2,none⟩ =some (.string y.name) ∧wr.cell? ⟨b,off+ (k+1) *2+1,none⟩ =some (.slice so1 y.cols.length sc1) from ⟨d0,d1,e0,e1⟩)
   clear hcell0 hcell1 hx hy hlr
   cases hq :Op.bytesLess x.name.toList y.name.toList
   ·have hst2 :Hid (Ay (C7 (l.map TabD.name)) k (l.length - 1 - k) =true) :=by show _=_;rw [hst.out,hq];rfl
    clear hst
    go_wp2_with fail
    go_region_held3 (fun w'=>w'.cell? ⟨b,off+k*2,none⟩ =some (.string x.name) ∧w'.cell? ⟨b,off+k*2+1,none⟩ =some (.slice so0 x.cols.length sc0) ∧w'.cell? ⟨b,off+ (k+1) *2,none⟩ =some (.string y.name) ∧w'.cell? ⟨b,off+ (k+1) *2+1,none⟩ =some (.slice so1 y.cols.length sc1)) (first | assumption | exact S0)
     (first | (go_at_call_of 80 (Value.agg #[.string x.name, .slice so0 x.cols.length sc0]);go_fit (Hp x.name so0 x.cols.length sc0 _);rintro r0 w2 ⟨rfl,hb0⟩;have S1 :=Hr (W :=wr.drew) S0 hb0 hb;have z1 :=Nat.lt_of_lt_of_le hb hb0.size) | (go_at_call_of 80 (Value.agg #[.string y.name, .slice so1 y.cols.length sc1]);go_fit (Hp y.name so1 y.cols.length sc1 _);rintro r1 w3 ⟨rfl,hb1⟩;have S2 :=Hr S1 hb1 z1;have z2 :=Nat.lt_of_lt_of_le z1 hb1.size))
    go_wp2
    go_ret
    exact ⟨Ag (by rw [E.out,HP.out,hst2.out];rfl),hbel.trans ((Ad (Ad (Below.refl _ _).drew hb0) hb1).mono hbel.size)⟩
   ·have hst2 :Hid (Ay (C7 (l.map TabD.name)) k (l.length - 1 - k) =Ay (C7 (l.map TabD.name)) (k+1) (l.length - 1 - (k+1))) :=by show _=_;rw [hst.out,hq];rfl
    clear hst
    go_wp2_with fail
    go_region_held3 (fun w'=>w'.cell? ⟨b,off+k*2,none⟩ =some (.string x.name) ∧w'.cell? ⟨b,off+k*2+1,none⟩ =some (.slice so0 x.cols.length sc0) ∧w'.cell? ⟨b,off+ (k+1) *2,none⟩ =some (.string y.name) ∧w'.cell? ⟨b,off+ (k+1) *2+1,none⟩ =some (.slice so1 y.cols.length sc1)) (first | assumption | exact S0)
     (first | (go_at_call_of 80 (Value.agg #[.string x.name, .slice so0 x.cols.length sc0]);go_fit (Hp x.name so0 x.cols.length sc0 _);rintro r0 w2 ⟨rfl,hb0⟩;have S1 :=Hr (W :=wr.drew) S0 hb0 hb;have z1 :=Nat.lt_of_lt_of_le hb hb0.size) | (go_at_call_of 80 (Value.agg #[.string y.name, .slice so1 y.cols.length sc1]);go_fit (Hp y.name so1 y.cols.length sc1 _);rintro r1 w3 ⟨rfl,hb1⟩;have S2 :=Hr S1 hb1 z1;have z2 :=Nat.lt_of_lt_of_le z1 hb1.size))
    go_wp2
    go_roundw
    case rel=>exact ⟨k+1,by omega,by go_num,hbel.trans ((Ad (Ad (Below.refl _ _).drew hb0) hb1).mono hbel.size),HP.out.trans hst2.out⟩
    case measure=>simp [intOf];omega
  ·have HE :Hid (Ay (C7 (l.map TabD.name)) k (l.length - 1 - k) =false) :=by show _=_;rw [show l.length - 1 - k=0 from by omega];rfl
   have k1 : ¬ (k :Int) +1< (l.length :Int) :=by omega
   go_wp2
   go_ret
   exact ⟨Ag (by rw [E.out,HP.out,HE.out];rfl),hbel⟩
theorem Hs {W W' :World} {b off k :Nat} {a0 a1 a2 a3 a4 a5 :Value} (h :W.cell? ⟨b,off+k*3,none⟩ =some a0∧W.cell? ⟨b,off+k*3+1,none⟩ =some a1∧W.cell? ⟨b,off+k*3+2,none⟩ =some a2∧W.cell? ⟨b,off+ (k+1) *3,none⟩ =some a3∧W.cell? ⟨b,off+ (k+1) *3+1,none⟩ =some a4∧W.cell? ⟨b,off+ (k+1) *3+2,none⟩ =some a5) (hb :Below W.heap.size W W') (hl :b<W.heap.size) :W'.cell? ⟨b,off+k*3,none⟩ =some a0∧W'.cell? ⟨b,off+k*3+1,none⟩ =some a1∧W'.cell? ⟨b,off+k*3+2,none⟩ =some a2∧W'.cell? ⟨b,off+ (k+1) *3,none⟩ =some a3∧W'.cell? ⟨b,off+ (k+1) *3+1,none⟩ =some a4∧W'.cell? ⟨b,off+ (k+1) *3+2,none⟩ =some a5 :=by
 have kc : ∀o,W'.cell? ⟨b,o,none⟩ =W.cell? ⟨b,o,none⟩ :=fun o=>hb.cell (p := ⟨b,o,none⟩) hl
 obtain ⟨h0,h1,h2,h3,h4,h5⟩ :=h
 exact ⟨(kc _).trans h0,(kc _).trans h1,(kc _).trans h2,(kc _).trans h3,(kc _).trans h4,(kc _).trans h5⟩
set_option maxRecDepth 100000 in
set_option maxHeartbeats 4000000 in
theorem Aee (l :List IdxD) (sv :Value) (C :Nat) (w :World) (hl :IsL Fg (fun k=>k<C) w sv l) (hC :C≤w.heap.size) :
  Calls Tryz.prog 85 #[sv, .func (.func 86) #[] #[]] w fun e w'=>e= .returned (.bool (Gk (l.map IdxD.name))) ∧Below w.heap.size w w' :=by
 obtain ⟨ao,c,rfl⟩ :=hl.shape
 have hlm := (Cj hl).2
 unfold maxLen at hlm
 have E :Hid (Gk (l.map IdxD.name) = !Ay (C7 (l.map IdxD.name)) 0 (l.length - 1)) :=by show _=_;rw [Gk,List.length_map]
 generalize Gk (l.map IdxD.name) =r at E
 go_enter Tryz.func85,Tryz.ntmps85
 go_wp2
 go_loopw [5] (fun i wr=> ∃k :Nat,k≤l.length - 1∧i= .int .i64 ((k :Int) +1) ∧Below w.heap.size w wr∧Hid (Ay (C7 (l.map IdxD.name)) 0 (l.length - 1) =Ay (C7 (l.map IdxD.name)) k (l.length - 1 - k))) (fun i _=>l.length - (intOf i).toNat)
 case atStart=>exact ⟨0,Nat.zero_le _,rfl,Below.refl _ _,rfl⟩
 case round=>
  obtain ⟨k,hk,rfl,hbel,HP⟩ :=hrel
  by_cases hlt :k+1<l.length
  ·obtain ⟨x,hx⟩ : ∃x,l[k]? =some x := ⟨_,List.getElem?_eq_getElem (by omega)⟩
   obtain ⟨y,hy⟩ : ∃y,l[k+1]? =some y := ⟨_,List.getElem?_eq_getElem hlt⟩
   have hlr :=hl.keep (Af (hbel.mono hC))
   obtain ⟨b,off,cs0,rfl,_,hb,hR0,hcell0⟩ :=A4 hlr hx
   obtain ⟨b',off',cs1,hbe,_,_,hR1,hcell1⟩ :=A4 hlr hy
   simp only [Option.some.injEq,Addr.mk.injEq,and_true] at hbe
   obtain ⟨rfl,rfl⟩ :=hbe
   obtain rfl :=hR0
   obtain rfl :=hR1
   have d0 :=hcell0 0 _ rfl
   have d1 :=hcell0 1 _ rfl
   have d2 :=hcell0 2 _ rfl
   have e0 :=hcell1 0 _ rfl
   have e1 :=hcell1 1 _ rfl
   have e2 :=hcell1 2 _ rfl
   simp only [Fg,Nat.add_zero] at d0 d1 d2 e0 e1 e2
   have hst :Hid (Ay (C7 (l.map IdxD.name)) k (l.length - 1 - k) = (!Op.bytesLess x.name.toList y.name.toList || Ay (C7 (l.map IdxD.name)) (k+1) (l.length - 1 - (k+1)))) :=by
    show _=_
    rw [Ua _ k _ (by omega),C7,List.getElem?_map,List.getElem?_map,hx,hy]
    rfl
   have k0 : (0 :Int) ≤ (k :Int) +1 :=by omega
   have k1 : (k :Int) +1< (l.length :Int) :=by omega
   have k2 :wrap64 ((k :Int) +1 - 1) = (k :Int) :=by unfold wrap64;omega
   have k3 : (0 :Int) ≤ (k :Int) :=by omega
   have k4 : (k :Int) < (l.length :Int) :=by omega
   have k5 : ((k :Int) +1).toNat=k+1 :=by omega
   have k6 :IntKind.i64.wrap (k :Int) = (k :Int) :=by rw [IntKind.wrap_i64];omega
   have S0 := (show wr.cell? ⟨b,off+k*3,none⟩ =some (.string x.name) ∧wr.cell? ⟨b,off+k*3+1,none⟩ =some (.string x.table) ∧wr.cell? ⟨b,off+k*3+2,none⟩ =some (.string x.col) ∧wr.cell? ⟨b,off+ (k+1) *3,none⟩ =some (.string y.name) ∧wr.cell? ⟨b,off+ (k+1) *3+1,none⟩ =some (.string y.table) ∧wr.cell? ⟨b,off+ (k+1) *3+2,none⟩ =some (.string y.col) from ⟨d0,d1,d2,e0,e1,e2⟩)
   clear hcell0 hcell1 hx hy hlr
   cases hq :Op.bytesLess x.name.toList y.name.toList
   ·have hst2 :Hid (Ay (C7 (l.map IdxD.name)) k (l.length - 1 - k) =true) :=by show _=_;rw [hst.out,hq];rfl
    clear hst
    go_wp2_with fail
    go_region_held3 (fun w'=>w'.cell? ⟨b,off+k*3,none⟩ =some (.string x.name) ∧w'.cell? ⟨b,off+k*3+1,none⟩ =some (.string x.table) ∧w'.cell? ⟨b,off+k*3+2,none⟩ =some (.string x.col) ∧w'.cell? ⟨b,off+ (k+1) *3,none⟩ =some (.string y.name) ∧w'.cell? ⟨b,off+ (k+1) *3+1,none⟩ =some (.string y.table) ∧w'.cell? ⟨b,off+ (k+1) *3+2,none⟩ =some (.string y.col)) (first | assumption | exact S0)
     (first | (go_at_call_of 86 (Value.agg #[.string x.name, .string x.table, .string x.col]);go_fit (Hq x.name x.table x.col _);rintro r0 w2 ⟨rfl,hb0⟩;have S1 :=Hs (W :=wr.drew) S0 hb0 hb;have z1 :=Nat.lt_of_lt_of_le hb hb0.size) | (go_at_call_of 86 (Value.agg #[.string y.name, .string y.table, .string y.col]);go_fit (Hq y.name y.table y.col _);rintro r1 w3 ⟨rfl,hb1⟩;have S2 :=Hs S1 hb1 z1;have z2 :=Nat.lt_of_lt_of_le z1 hb1.size))
    go_wp2
    go_ret
    exact ⟨Ag (by rw [E.out,HP.out,hst2.out];rfl),hbel.trans ((Ad (Ad (Below.refl _ _).drew hb0) hb1).mono hbel.size)⟩
   ·have hst2 :Hid (Ay (C7 (l.map IdxD.name)) k (l.length - 1 - k) =Ay (C7 (l.map IdxD.name)) (k+1) (l.length - 1 - (k+1))) :=by show _=_;rw [hst.out,hq];rfl
    clear hst
    go_wp2_with fail
    go_region_held3 (fun w'=>w'.cell? ⟨b,off+k*3,none⟩ =some (.string x.name) ∧w'.cell? ⟨b,off+k*3+1,none⟩ =some (.string x.table) ∧w'.cell? ⟨b,off+k*3+2,none⟩ =some (.string x.col) ∧w'.cell? ⟨b,off+ (k+1) *3,none⟩ =some (.string y.name) ∧w'.cell? ⟨b,off+ (k+1) *3+1,none⟩ =some (.string y.table) ∧w'.cell? ⟨b,off+ (k+1) *3+2,none⟩ =some (.string y.col)) (first | assumption | exact S0)
     (first | (go_at_call_of 86 (Value.agg #[.string x.name, .string x.table, .string x.col]);go_fit (Hq x.name x.table x.col _);rintro r0 w2 ⟨rfl,hb0⟩;have S1 :=Hs (W :=wr.drew) S0 hb0 hb;have z1 :=Nat.lt_of_lt_of_le hb hb0.size) | (go_at_call_of 86 (Value.agg #[.string y.name, .string y.table, .string y.col]);go_fit (Hq y.name y.table y.col _);rintro r1 w3 ⟨rfl,hb1⟩;have S2 :=Hs S1 hb1 z1;have z2 :=Nat.lt_of_lt_of_le z1 hb1.size))
    go_wp2
    go_roundw
    case rel=>exact ⟨k+1,by omega,by go_num,hbel.trans ((Ad (Ad (Below.refl _ _).drew hb0) hb1).mono hbel.size),HP.out.trans hst2.out⟩
    case measure=>simp [intOf];omega
  ·have HE :Hid (Ay (C7 (l.map IdxD.name)) k (l.length - 1 - k) =false) :=by show _=_;rw [show l.length - 1 - k=0 from by omega];rfl
   have k1 : ¬ (k :Int) +1< (l.length :Int) :=by omega
   go_wp2
   go_ret
   exact ⟨Ag (by rw [E.out,HP.out,HE.out];rfl),hbel⟩
end Go.Proofs.YthehiijgnepcfaaGreat

