/-
  3 texts of this proof in one, in build order: RParts2, RGrow, RStmT0.
-/
import Derived.BigRegion
import Derived.Deep.Cut
import Derived.Deep.CutRange
import Derived.Deep.RegionHeld3
import Derived.Test.YtifjaegfpdjikaaGreatDoorJ11
import Derived.Test.YtifjaegfpdjikaaGreatDoorJ16
set_option linter.unusedSimpArgs false
set_option linter.unusedVariables false
namespace Go.Proofs.YtifjaegfpdjikaaGreatDoor
open Go.RowKit
def Yi (w0 :World) (Ls :List (List Wd)) (w :World) (e :Ending) (w' :World) :Prop := ∃sv vs,e= .returned sv∧E8 (Fr w.heap.size) 1 w' sv Ls.length vs∧Ig w0 vs Ls∧Below w.heap.size w w'
set_option maxRecDepth 100000 in
set_option maxHeartbeats 4000000 in
theorem Ii (sl :Value) (L :List Wd) (w0 w :World) (hl :L.length≤1600) (hL :Ak w0 sl L) (hb0 :Below w0.heap.size w0 w) :
  Calls Tryz.prog 34 #[sl] w (Yi w0 (Bf L) w) :=by
 obtain ⟨i0,hi,hz0,hz1,hz2⟩ :=info_parts Sl
 obtain ⟨ao,cap,rfl⟩ :=hL.shape
 have HT0 :Hid (Bf L= [] ++Dr L.length L∧L.length≤L.length) := ⟨rfl,Nat.le_refl _⟩
 generalize Bf L=T at HT0⊢
 go_enter Tryz.func34,Tryz.ntmps34
 go_wp2_with fail
 go_loopg [0,3] (L.length) (fun f x z wr=> ∃ (acc :List (List Wd)) (vs :List Value) (M :List Wd),Ak w0 x M∧Ig w0 vs acc∧wr.ownsRow w.heap.size 32 1 z acc.length vs∧Hid (T=acc++Dr f M∧M.length≤f) ∧acc.length+M.length≤1600∧Below w.heap.size w wr)
 case atStart=>exact ⟨[],[],L,hL,trivial,⟨rfl, .inl ⟨rfl,rfl⟩⟩,HT0,by simpa using hl,Below.refl _ _⟩
 case round=>
  obtain ⟨acc,vs,M,hM,hP,hown,HT,hlen,hB⟩ :=hrel
  obtain ⟨a1,c1,rfl⟩ :=hM.shape
  have CU :=Gu _ _ M [Av] _ (by omega) ((hM.below (hb0.trans (hB.mono hb0.size))).below ((Below.refl _ _).alloc (Nat.le_refl _) (.cells #[.string Av] 9))) (Gv wr Av)
  cases hc :B1 [Av] 0 0 M with
  | none=>
   rw [hc] at CU
   have HE :Hid (T=acc++ [M]) :=by show _=_;rw [HT.out.1,Sm hc]
   clear HT hc
   go_wp2_with (first
    | (go_at_call 31;go_must (go_fit CU;rintro e w2 ⟨a,c,k,rfl,⟨rfl,rfl,rfl⟩,hb2⟩;have hown3 := (Ip (hown.alloc (.cells #[.string Av] 9)) hb2).alloc (.cells [.slice a1 M.length c1].toArray 32);have hnew :=B2 w2 [.slice a1 M.length c1] 32;have hB2 :Below w.heap.size w w2 := (hB.alloc hB.size _).trans (hb2.mono (Nat.le_trans hB.size (by simp)));have hbase :w.heap.size≤ (w2.alloc (.cells [.slice a1 M.length c1].toArray 32)).heap.size :=Nat.le_trans hB2.size (by simp)))
    | (at_builtin;go_must (refine wpList_append_own_at _ rfl _ _ 69 rfl w.heap.size 32 i0 (.slice none 0 0) 1 24 Tryz.underlying69 hi hz0 hz1 hz2 rfl (by decide) _ _ _ rfl hown3 ⟨w2.heap.size,0,none⟩ 1 1 [.slice a1 M.length c1] rfl rfl hnew ?h1 (by simp only [maxLen];omega) (by omega) hbase ?h2)))
   case h1=>first | rfl | exact fun u hu=>by cases hu with | head=>rfl | tail _ h=>cases h
   case h2=>
    intro z2 w4 hown4 hg4 _ _
    have hB4 :Below w.heap.size w w4 := ((hB2.alloc hB2.size _).trans (Bn hown3 hbase hg4))
    go_wp2_with fail
    go_ret
    refine ⟨_,vs++ [.slice a1 M.length c1],rfl, ?_, ?_,hB4⟩
    ·rw [HE.out]
     have :=E8.of_own (F :=Fr w.heap.size) hown4 (fun k hk=>hk)
     simpa using this
    ·rw [HE.out]
     exact hP.add hM
  | some r=>
   obtain ⟨i,j⟩ :=r
   rw [hc] at CU
   obtain ⟨f',hf',HNx⟩ : ∃f',f'<gk∧Hid (T= (acc++ [M.take i]) ++Dr f' (M.drop (i+1)) ∧ (M.drop (i+1)).length≤f') :=by
    obtain ⟨f',h1,h2,h3⟩ :=Ui hc HT.out.2
    exact ⟨f',h1,by rw [HT.out.1,h2];simp,h3⟩
   clear HT hc
   go_wp2_with (first
    | (go_at_call 31;go_must (go_fit CU;rintro e w2 ⟨a,c,k,rfl,⟨hs,rfl,hil⟩,hb2⟩;obtain ⟨a2,n2,c2,rfl,hn2⟩ :=Ax (hs w0 hM).1;obtain ⟨a3,n3,c3,rfl,hn3⟩ :=Ax (hs w0 hM).2;have HS :Hid _ :=hs;clear hs hn2 hn3;have hown3 := (Ip (hown.alloc (.cells #[.string Av] 9)) hb2).alloc (.cells [.slice a2 n2 c2].toArray 32);have hnew :=B2 w2 [.slice a2 n2 c2] 32;have hB2 :Below w.heap.size w w2 := (hB.alloc hB.size _).trans (hb2.mono (Nat.le_trans hB.size (by simp)));have hbase :w.heap.size≤ (w2.alloc (.cells [.slice a2 n2 c2].toArray 32)).heap.size :=Nat.le_trans hB2.size (by simp)))
    | (at_builtin;go_must (refine wpList_append_own_at _ rfl _ _ 69 rfl w.heap.size 32 i0 (.slice none 0 0) 1 24 Tryz.underlying69 hi hz0 hz1 hz2 rfl (by decide) _ _ _ rfl hown3 ⟨w2.heap.size,0,none⟩ 1 1 [.slice a2 n2 c2] rfl rfl hnew ?h1 (by simp only [maxLen];omega) (by omega) hbase ?h2)))
   case h1=>first | rfl | exact fun u hu=>by cases hu with | head=>rfl | tail _ h=>cases h
   case h2=>
    intro z2 w4 hown4 hg4 _ _
    have hB4 :Below w.heap.size w w4 := ((hB2.alloc hB2.size _).trans (Bn hown3 hbase hg4))
    go_wp2_with fail
    go_roundg f'
    case measure=>exact hf'
    case rel=>exact ⟨acc++ [M.take i],_,M.drop (i+1),(HS.out w0 hM).2,hP.add (HS.out w0 hM).1,by rw [List.length_append];exact hown4,HNx,by simp;omega,hB4⟩
end Go.Proofs.YtifjaegfpdjikaaGreatDoor

namespace Go.Proofs.YtifjaegfpdjikaaGreatDoor
open Go.RowKit
structure Side where
 P : (Nat→Prop) →World→Prop
 keep : ∀ {F w w'},Keeps F w w'→P F w→P F w'
 mono : ∀ {F F' :Nat→Prop} {w},(∀k,k<w.heap.size→F k→F' k) →P F w→P F' w
def Side.none :Side := ⟨fun _ _=>True,fun _ h=>h,fun _ h=>h⟩
def Side.and (S T :Side) :Side := ⟨fun F w=>S.P F w∧T.P F w,fun k h=> ⟨S.keep k h.1,T.keep k h.2⟩,fun k h=> ⟨S.mono k h.1,T.mono k h.2⟩⟩
def Side.expr (x :E) (v :Value) :Side := ⟨fun F w=>IsE F w x v,fun k h=>IsE.keep k _ _ h,fun k h=>IsE.mono k _ _ h⟩
def Side.row (size :Nat) (sv :Value) (n :Nat) (cs :List Value) :Side := ⟨fun F w=>E8 F size w sv n cs,fun k h=>h.keep k,fun k h=>h.mono k⟩
def Side.list {α :Type} (K :Elem α) (sv :Value) (l :List α) :Side := ⟨fun F w=>IsL K F w sv l,fun k h=>h.keep k,fun k h=>h.mono k⟩
def E5 {α :Type} (K :Elem α) (t :TypeId) (base :Nat) (S :Side) (w :World) (z :Value) (acc :List α) :Prop := ∃cs,w.ownsRow base t K.size z acc.length cs∧All K (FO base z) w acc cs∧S.P (FO base z) w
theorem E5.nil {α :Type} {K :Elem α} {t :TypeId} {base :Nat} {S :Side} {w :World} (h :S.P (Fr base) w) :E5 K t base S w (.slice Option.none 0 0) [] :=
 ⟨[],⟨by simp, .inl ⟨rfl,rfl⟩⟩,rfl,S.mono (fun k _ hk=> ⟨hk,by simp [Value.ownBlock]⟩) h⟩
theorem E5.keep {α :Type} {K :Elem α} {t :TypeId} {base :Nat} {S :Side} {w w' :World} {z :Value} {acc :List α} (h :E5 K t base S w z acc) (hk : ∀k,base≤k→k<w.heap.size→w'.heap[k]? =w.heap[k]?) (hs :w.heap.size≤w'.heap.size) :E5 K t base S w' z acc :=by
 obtain ⟨cs,h1,h2,h3⟩ :=h
 have kk :Keeps (FO base z) w w' := ⟨hs,fun k hf hl=>hk k hf.1 hl⟩
 refine ⟨cs, ?_,All.keep kk h2,S.keep kk h3⟩
 obtain ⟨g1,g2⟩ :=h1
 refine ⟨g1, ?_⟩
 rcases g2 with g2 | ⟨g,cap,cur,hv,hg,hh,r⟩
 ·exact .inl g2
 ·exact .inr ⟨g,cap,cur,hv,hg,by rw [hk g hg (lt_of_block hh)];exact hh,r⟩
theorem E5.below {α :Type} {K :Elem α} {t :TypeId} {base :Nat} {S :Side} {w w' :World} {z :Value} {acc :List α} (h :E5 K t base S w z acc) (hb :Below w.heap.size w w') :E5 K t base S w' z acc :=h.keep (fun k _ hl=>hb.block k hl) hb.size
theorem E5.set {α :Type} {K :Elem α} {t :TypeId} {base :Nat} {S :Side} {w :World} {z :Value} {acc :List α} (h :E5 K t base S w z acc) {b :Nat} (hb :b<base) (o :Nat) (u :Value) :E5 K t base S (w.setCell ⟨b,o,Option.none⟩ u) z acc :=
 h.keep (fun k hk _=>Below.heap_setCell w ⟨b,o,Option.none⟩ u k (show k≠b by omega)) (by simp [World.setCell])
theorem E5.isL {α :Type} {K :Elem α} {t :TypeId} {base :Nat} {S :Side} {w :World} {z :Value} {acc :List α} (h :E5 K t base S w z acc) :IsL K (Fr base) w z acc :=by
 obtain ⟨cs,h1,h2,_⟩ :=h
 exact ⟨cs,E8.of_own h1 (fun k hk=>hk),All.mono (fun k _ hk=>hk.1) h2⟩
theorem E5.side {α :Type} {K :Elem α} {t :TypeId} {base :Nat} {S :Side} {w :World} {z :Value} {acc :List α} (h :E5 K t base S w z acc) :S.P (Fr base) w :=by
 obtain ⟨cs,_,_,h3⟩ :=h
 exact S.mono (fun k _ hk=>hk.1) h3
theorem E5.add {α :Type} {K :Elem α} {t :TypeId} {base :Nat} {S :Side} {V w4 :World} {z z2 :Value} {acc :List α} {cs c :List Value} {x :α}
  (hall :All K (FO base z) V acc cs) (hside :S.P (FO base z) V) (hx :K.R (FO base z) V x c) (hown4 :w4.ownsRow base t K.size z2 (acc.length+1) (cs++c)) (hg :V.grownBy w4 z.ownBlock) (hat :z2.ownBlock=z.ownBlock∨z2.ownBlock=some V.heap.size) :
  E5 K t base S w4 z2 (acc++ [x]) :=by
 have kk :Keeps (fun k=>base≤k∧some k≠z.ownBlock∧some k≠z2.ownBlock) V w4 := ⟨hg.size,fun k hk hl=>hg.block k hl hk.2.1⟩
 have mm : ∀k,k<V.heap.size→FO base z k→ (base≤k∧some k≠z.ownBlock∧some k≠z2.ownBlock) :=fun k hk hf=> ⟨hf.1,hf.2,(I7 hat k hk hf).2⟩
 refine ⟨cs++c,by rw [List.length_append];exact hown4, ?_, ?_⟩
 ·exact All.mono (fun k _ hf=> ⟨hf.1,hf.2.2⟩) (All.keep kk (All.mono mm (hall.append (All.one hx))))
 ·exact S.mono (fun k _ hf=> ⟨hf.1,hf.2.2⟩) (S.keep kk (S.mono mm hside))
theorem S3.low {w wx wy :World} {sl :Value} {arr :Array Value} (h :S3 w wx sl arr) (hb :Below (w.heap.size+3) wx wy) :S3 w wy sl arr :=
 ⟨(hb.block _ (by omega)).trans h.l,(hb.block _ (by omega)).trans h.r,(hb.block _ (by omega)).trans h.s,h.b.trans (hb.mono (by omega))⟩
theorem H8 {w :World} : ∀ {vs :List Value} {Ls :List (List Wd)} {k :Nat} {P :List Wd},Ig w vs Ls→Ls[k]? =some P→ ∃v,vs[k]? =some v∧Ak w v P
 | v ::_,L ::_,0,P,h,hk=>by simp at hk;subst hk;exact ⟨v,rfl,h.1⟩
 | _ ::vs,_ ::Ls,k+1,P,h,hk=>by
  simp only [List.getElem?_cons_succ] at hk⊢
  exact H8 h.2 hk
 | _,[],_,_,_,hk=>by simp at hk
 | [],_ ::_,_,_,h,_=>absurd h (by simp [Ig])
theorem H9 {α β :Type} {f :α→Option β} : ∀ {l :List α} {k :Nat} {x :α},l[k]? =some x→Bt f (l.take (k+1)) = (Bt f (l.take k)).bind fun bs=> (f x).map fun b=>bs++ [b]
 | x ::l,0,y,h=>by simp at h;subst h;simp only [List.take_succ_cons,List.take_zero,Bt];cases f x<;>rfl
 | x ::l,k+1,y,h=>by
  simp only [List.getElem?_cons_succ] at h
  simp only [List.take_succ_cons,Bt,H9 h]
  cases f x with
  | none=>rfl
  | some b=>cases Bt f (l.take k) <;>cases f y<;>rfl
 | [],_,_,h=>by simp at h
theorem I0 {α β :Type} {f :α→Option β} : ∀ {l :List α} {k :Nat} {x :α},l[k]? =some x→f x=none→Bt f l=none
 | x ::l,0,y,h,hf=>by simp at h;subst h;simp [Bt,hf]
 | x ::l,k+1,y,h,hf=>by
  simp only [List.getElem?_cons_succ] at h
  rw [Bt,I0 h hf]
  cases f x<;>rfl
 | [],_,_,h,_=>by simp at h
theorem Ij (L :List Wd) : (Bf L).length≤L.length+1 :=by
 have : ∀f l,(Dr f l).length≤f+1 :=by
  intro f
  induction f with
  | zero=>intro l;simp [Dr]
  | succ f ih=>
   intro l
   unfold Dr
   split
   ·simp;exact ih _
   ·simp
 exact this _ _
theorem Hh {L :List Wd} (h :Whole L) : ∀P∈Bf L,Whole P∧P.length≤L.length :=by
 have : ∀f l,Whole l→ ∀P∈Dr f l,Whole P∧P.length≤l.length :=by
  intro f
  induction f with
  | zero=>intro l hl P hP;simp [Dr] at hP;subst hP;exact ⟨hl,Nat.le_refl _⟩
  | succ f ih=>
   intro l hl P hP
   unfold Dr at hP
   split at hP
   ·simp only [List.mem_cons] at hP
    rcases hP with rfl | hP
    ·exact ⟨hl.take _,by simp;omega⟩
    ·have :=ih _ (hl.drop _) P hP
     exact ⟨this.1,by have h2 :=this.2;simp at h2;omega⟩
   ·simp at hP;subst hP;exact ⟨hl,Nat.le_refl _⟩
 exact this _ _ h
theorem Gz {b off cap k :Nat} {L :List Wd} (h0 :0<k) (hk :k≤L.length) : (cap=k∧ ∀W,Ak W (.slice (some ⟨b,off,none⟩) L.length cap) L→Ak W (.slice (some ⟨b,off,none⟩) (L.length - k) 0) (L.drop k)) ∨ (¬cap=k∧ ∀W,Ak W (.slice (some ⟨b,off,none⟩) L.length cap) L→Ak W (.slice (some ⟨b,off+k,none⟩) (L.length - k) (cap - k)) (L.drop k)) :=by
 rcases So (b :=b) (off :=off) (cap :=cap) h0 hk with ⟨h1,h2⟩ | h
 ·refine .inl ⟨h1,fun W h=> ?_⟩
  have := (A7 h (by omega)).2.1
  rw [show L.length - k=0 from by omega]
  exact h2 W h
 ·exact .inr h
end Go.Proofs.YtifjaegfpdjikaaGreatDoor

namespace Go.Proofs.YtifjaegfpdjikaaGreatDoor
open Go.RowKit
set_option maxRecDepth 100000 in
set_option maxHeartbeats 4000000 in
theorem P4 (sl :Value) (L :List Wd) (w :World) (he :Env w) (hL :Ak w sl L) (hw :Whole L) (hk0 :L.take 2= [Au,A5]) (hrest :L.drop 2= []) :
  Calls Tryz.prog 13 #[sl] w (Cv (none) w) :=by
 have H0 :=D4 Ch he hL hw hk0 (Ai 0)
 rw [show (L.drop [Au,A5].length) = [] from hrest] at H0
 clear hk0 hrest hw
 have s1 :=Dj w sl
 have s0 :=Di w sl
 obtain ⟨a0,n0,cap0,rfl,hn0⟩ :=Ax hL
 clear hL hn0
 generalize hW0 : ((((w.alloc (.cells #[.slice a0 n0 cap0] 32)).alloc (.cells Ah 39)).alloc (.cells Ah 39)).setRow (w.heap.size+2) (Ai 0)) =W0 at s0
 have HW0 :Hid _ :=hW0
 clear hW0
 go_enter Tryz.func13,Tryz.ntmps13
 go_upto_region 2 with (refine wpList_store_row rfl 39 _ _ rfl (w.heap.size+2) (Ai 0) rfl rfl 39 Ah s1 Af rfl Fc ?_)
 rw [HW0.out,show w.heap.size+1+1=w.heap.size+2 from rfl]
 have hS :=s0
 clear s0 s1 HW0
 go_upto_region 7 with (first
   | (go_at_call 27;go_fit (H0 _ hS);clear hS;rintro e W ⟨rfl,ao,n,c,hS,hl⟩;have c0 :W.cell? ⟨w.heap.size,0,none⟩ =some (.slice ao n c) :=Aa hS.l rfl))
 obtain ⟨ao1,n1,c1,hsl,hn1⟩ :=Ax hl
 cases hsl
 simp only [List.length_nil] at hn1
 subst hn1
 clear hl
 have hone : (sA 0 noW noW noW (.slice none 0 0) (.slice none 0 0) (.slice none 0 0) (.slice none 0 0) (.slice none 0 0) 0 0 0 noW noW noW 0 (.slice none 0 0) (.slice none 0 0) false (-1)).all (·.oneCell') =true :=Bc (sl7 _ _ _ _ _ _ _ _ _ _ _ _ _ _ _ _ _ _ _ _ _)
 go_wp2_with (first
  | refine wpList_load_row rfl 39 _ rfl (w.heap.size+2) rfl 39 _ _ _ hS.s Tryz.underlying39 rfl Af ?_
  | refine wpList_store_row rfl 39 _ _ rfl (w.heap.size+1) _ rfl rfl 39 Ah hS.r Af rfl hone ?_)
 exact bodyPost_ret (v := .tuple #[.agg (sA 0 noW noW noW (.slice none 0 0) (.slice none 0 0) (.slice none 0 0) (.slice none 0 0) (.slice none 0 0) 0 0 0 noW noW noW 0 (.slice none 0 0) (.slice none 0 0) false (-1)), .bool false]) (Ay Tryz.results13 _ _ (w.heap.size+1) 39 _ _ _ _ rfl rfl (Am hS.r) Tryz.underlying39 rfl Af) rfl (A4 (ok :=false) hS (sl7 _ _ _ _ _ _ _ _ _ _ _ _ _ _ _ _ _ _ _ _ _) rfl)
set_option maxRecDepth 100000 in
set_option maxHeartbeats 4000000 in
theorem P5 (sl :Value) (L :List Wd) (x :Wd) (m :List Wd) (hn :nm x=false) (w :World) (he :Env w) (hL :Ak w sl L) (hw :Whole L) (hk0 :L.take 2= [Au,A5]) (hrest :L.drop 2= (x ::m)) :
  Calls Tryz.prog 13 #[sl] w (Cv (none) w) :=by
 have H0 :=D4 Ch he hL hw hk0 (Ai 0)
 rw [show (L.drop [Au,A5].length) = (x ::m) from hrest] at H0
 clear hk0 hrest hw
 have s1 :=Dj w sl
 have s0 :=Di w sl
 obtain ⟨a0,n0,cap0,rfl,hn0⟩ :=Ax hL
 clear hL hn0
 generalize hW0 : ((((w.alloc (.cells #[.slice a0 n0 cap0] 32)).alloc (.cells Ah 39)).alloc (.cells Ah 39)).setRow (w.heap.size+2) (Ai 0)) =W0 at s0
 have HW0 :Hid _ :=hW0
 clear hW0
 go_enter Tryz.func13,Tryz.ntmps13
 go_upto_region 2 with (refine wpList_store_row rfl 39 _ _ rfl (w.heap.size+2) (Ai 0) rfl rfl 39 Ah s1 Af rfl Fc ?_)
 rw [HW0.out,show w.heap.size+1+1=w.heap.size+2 from rfl]
 have hS :=s0
 clear s0 s1 HW0
 go_upto_region 7 with (first
   | (go_at_call 27;go_fit (H0 _ hS);clear hS;rintro e W ⟨rfl,ao,n,c,hS,hl⟩;have c0 :W.cell? ⟨w.heap.size,0,none⟩ =some (.slice ao n c) :=Aa hS.l rfl))
 obtain ⟨b,off,cap,hsl,hcap,hcell⟩ :=A0 (hl.below hS.b) (by simp)
 cases hsl
 have x0 :W.cell? ⟨b,off,none⟩ =some (.string x) :=hcell 0 _ rfl
 obtain ⟨hblw,hq1,hq2,hcw⟩ :=A7 hl (by simp)
 have KS :Hid (∀V,Below w.heap.size w V→V.cell? ⟨b,off,none⟩ =some (.string x)) :=fun V h=> (h.cell (p := ⟨b,off,none⟩) hblw).trans (hcw 0 _ rfl)
 have q0 : (((x ::m).length :Int) ==0) =false :=beq_eq_false_iff_ne.2 (by simp only [List.length_cons];omega)
 have q1 : (0 :Int) < ((x ::m).length :Int) :=by simp only [List.length_cons];omega
 have NM :=Da he hn W hS.b
 clear hcell hcw hq1 hq2 hcap hl hblw KS
 generalize (x ::m).length=nn at*
 go_upto_region 8 with (go_at_call 7;go_must (go_fit NM;rintro e W1 ⟨rfl,hb1⟩;have hS1 :=hS.next hb1))
 have hone : (sA 0 noW noW noW (.slice none 0 0) (.slice none 0 0) (.slice none 0 0) (.slice none 0 0) (.slice none 0 0) 0 0 0 noW noW noW 0 (.slice none 0 0) (.slice none 0 0) false (-1)).all (·.oneCell') =true :=Bc (sl7 _ _ _ _ _ _ _ _ _ _ _ _ _ _ _ _ _ _ _ _ _)
 go_wp2_with (first
  | refine wpList_load_row rfl 39 _ rfl (w.heap.size+2) rfl 39 _ _ _ hS1.s Tryz.underlying39 rfl Af ?_
  | refine wpList_store_row rfl 39 _ _ rfl (w.heap.size+1) _ rfl rfl 39 Ah hS1.r Af rfl hone ?_)
 exact bodyPost_ret (v := .tuple #[.agg (sA 0 noW noW noW (.slice none 0 0) (.slice none 0 0) (.slice none 0 0) (.slice none 0 0) (.slice none 0 0) 0 0 0 noW noW noW 0 (.slice none 0 0) (.slice none 0 0) false (-1)), .bool false]) (Ay Tryz.results13 _ _ (w.heap.size+1) 39 _ _ _ _ rfl rfl (Am hS1.r) Tryz.underlying39 rfl Af) rfl (A4 (ok :=false) hS1 (sl7 _ _ _ _ _ _ _ _ _ _ _ _ _ _ _ _ _ _ _ _ _) rfl)
set_option maxRecDepth 100000 in
set_option maxHeartbeats 4000000 in
theorem Ra (sl :Value) (L :List Wd) (x :Wd) (m :List Wd) (hn :nm x=true) (hml :m.length≤1600) (hin :D3 m=none) (w :World) (he :Env w) (hL :Ak w sl L) (hw :Whole L) (hk0 :L.take 2= [Au,A5]) (hrest :L.drop 2= (x ::m)) :
  Calls Tryz.prog 13 #[sl] w (Cv (none) w) :=by
 have H0 :=D4 Ch he hL hw hk0 (Ai 0)
 rw [show (L.drop [Au,A5].length) = (x ::m) from hrest] at H0
 clear hk0 hrest hw
 have s1 :=Dj w sl
 have s0 :=Di w sl
 obtain ⟨a0,n0,cap0,rfl,hn0⟩ :=Ax hL
 clear hL hn0
 generalize hW0 : ((((w.alloc (.cells #[.slice a0 n0 cap0] 32)).alloc (.cells Ah 39)).alloc (.cells Ah 39)).setRow (w.heap.size+2) (Ai 0)) =W0 at s0
 have HW0 :Hid _ :=hW0
 clear hW0
 go_enter Tryz.func13,Tryz.ntmps13
 go_upto_region 2 with (refine wpList_store_row rfl 39 _ _ rfl (w.heap.size+2) (Ai 0) rfl rfl 39 Ah s1 Af rfl Fc ?_)
 rw [HW0.out,show w.heap.size+1+1=w.heap.size+2 from rfl]
 have hS :=s0
 clear s0 s1 HW0
 go_upto_region 7 with (first
   | (go_at_call 27;go_fit (H0 _ hS);clear hS;rintro e W ⟨rfl,ao,n,c,hS,hl⟩;have c0 :W.cell? ⟨w.heap.size,0,none⟩ =some (.slice ao n c) :=Aa hS.l rfl))
 obtain ⟨b,off,cap,hsl,hcap,hcell⟩ :=A0 (hl.below hS.b) (by simp)
 cases hsl
 have x0 :W.cell? ⟨b,off,none⟩ =some (.string x) :=hcell 0 _ rfl
 obtain ⟨hblw,hq1,hq2,hcw⟩ :=A7 hl (by simp)
 have KS :Hid (∀V,Below w.heap.size w V→V.cell? ⟨b,off,none⟩ =some (.string x)) :=fun V h=> (h.cell (p := ⟨b,off,none⟩) hblw).trans (hcw 0 _ rfl)
 have q0 : (((x ::m).length :Int) ==0) =false :=beq_eq_false_iff_ne.2 (by simp only [List.length_cons];omega)
 have q1 : (0 :Int) < ((x ::m).length :Int) :=by simp only [List.length_cons];omega
 have NM :=Da he hn W hS.b
 have HL1 :Hid (Ak w (.slice (some ⟨b,off,none⟩) (x ::m).length c) (x ::m)) :=hl
 have key :Hid _ :=Gz (b :=b) (off :=off) (cap :=c) (k :=1) (L :=x ::m) (by omega) (by simp)
 have q2 : (1 :Int) ≤ ((x ::m).length :Int) :=by simp only [List.length_cons];omega
 have q3 :0< (x ::m).length :=by simp
 have hbne :b≠w.heap.size+2 :=by omega
 clear hcell hcw hq1 hq2 hcap hl
 generalize hnn : (x ::m).length=nn at*
 go_upto_region 9 with (go_at_call 7;go_must (go_fit NM;rintro e W1 ⟨rfl,hb1⟩;have hS1 :=hS.next hb1))
 have c1 :W1.cell? ⟨w.heap.size,0,none⟩ =some (.slice (some ⟨b,off,none⟩) nn c) :=Aa hS1.l rfl
 have x1 :=KS.out W1 hS1.b
 have s0 :W1.cell? ⟨w.heap.size+2,0,none⟩ =some (.int .i64 0) :=Aa hS1.s rfl
 have s1 :W1.cell? ⟨w.heap.size+2,1,none⟩ =some (.string noW) :=Aa hS1.s rfl
 have f0 :=Ab hS1.s 0
 have f1 :=Ab hS1.s 1
 go_region
 have hS2 := (((hS1).set 0 (.int .i64 1)).set 1 (.string x)).drew
 simp only [List.setIfInBounds_toArray,List.set_cons_zero,List.set_cons_succ] at hS2
 clear c1 x1 s0 s1 f0 f1 NM c0 x0 hS hb1
 generalize ((W1.setCell ⟨w.heap.size+2,0,none⟩ (.int .i64 1)).setCell ⟨w.heap.size+2,1,none⟩ (.string x)).drew=W2 at hS2⊢
 clear hS1 KS
 have c2 :W2.cell? ⟨w.heap.size,0,none⟩ =some (.slice (some ⟨b,off,none⟩) nn c) :=Aa hS2.l rfl
 have IN :=fun v (h :Ak W2 v m) =>M7 v m W2 hml h
 rw [hin] at IN
 subst hnn
 have key2 :=key.out
 rcases key2 with ⟨hcc,hdr⟩ | ⟨hcc,hdr⟩
 all_goals
  have IN2 :=IN _ (hdr W2 (HL1.out.below hS2.b))
  clear hdr IN key HL1 hin hml
  generalize (x ::m).length=nn at*
  go_upto_region 12 with (go_at_call 33;go_must (go_fit IN2;rintro e W3 ⟨ao3,n3,c3,ok3,rfl,hok,hb3⟩;have hS3 :=hS2.next hb3;obtain rfl :ok3=false := (by cases ok3 with | false=>rfl | true=>simp at hok);clear hok))
  have hone : (sA 1 x noW noW (.slice none 0 0) (.slice none 0 0) (.slice none 0 0) (.slice none 0 0) (.slice none 0 0) 0 0 0 noW noW noW 0 (.slice none 0 0) (.slice none 0 0) false (-1)).all (·.oneCell') =true :=Bc (sl7 _ _ _ _ _ _ _ _ _ _ _ _ _ _ _ _ _ _ _ _ _)
  go_wp2_with (first
   | refine wpList_load_row rfl 39 _ rfl (w.heap.size+2) rfl 39 _ _ _ hS3.s Tryz.underlying39 rfl Af ?_
   | refine wpList_store_row rfl 39 _ _ rfl (w.heap.size+1) _ rfl rfl 39 Ah hS3.r Af rfl hone ?_)
  exact bodyPost_ret (v := .tuple #[.agg (sA 1 x noW noW (.slice none 0 0) (.slice none 0 0) (.slice none 0 0) (.slice none 0 0) (.slice none 0 0) 0 0 0 noW noW noW 0 (.slice none 0 0) (.slice none 0 0) false (-1)), .bool false]) (Ay Tryz.results13 _ _ (w.heap.size+1) 39 _ _ _ _ rfl rfl (Am hS3.r) Tryz.underlying39 rfl Af) rfl (A4 (ok :=false) hS3 (sl7 _ _ _ _ _ _ _ _ _ _ _ _ _ _ _ _ _ _ _ _ _) rfl)
end Go.Proofs.YtifjaegfpdjikaaGreatDoor

