/-
  2 texts of this proof in one, in build order: TMath, WWith.
-/
import Derived.WalkKit
import Derived.WalkSpells
import Derived.Lib.Strings
import Derived.Lib.Walk
import Derived.Sort.Walk0
import Derived.Deep.RegionHeld3
import Derived.Deep.Cut
import Derived.Test.YtmgkcjiejmhgcaaGreatDoorJ18
set_option linter.unusedSimpArgs false
set_option linter.unusedVariables false
namespace Go.Proofs.YtmgkcjiejmhgcaaGreatDoor
def klt (a b :ByteArray) :Bool :=Op.bytesLess a.toList b.toList
theorem Iw (a b :ByteArray) :klt a b=true↔a.data.toList<b.data.toList :=by
 unfold klt
 rw [Go.Proofs.bytesLess_eq,Lib.toList_data,Lib.toList_data]
 exact decide_eq_true_iff
theorem Im (a :ByteArray) :klt a a=false :=by
 cases h :klt a a with
 | false=>rfl
 | true=>exact absurd ((Iw a a).1 h) (List.lt_irrefl _)
theorem H7 {a b c :ByteArray} (h :klt a b=true) (k :klt b c=true) :klt a c=true :=
 (Iw _ _).2 (List.lt_trans ((Iw _ _).1 h) ((Iw _ _).1 k))
theorem Ln {a b :ByteArray} (h :klt a b=true) :klt b a=false :=by
 cases k :klt b a with
 | false=>rfl
 | true=>have :=H7 h k;rw [Im] at this;cases this
theorem Vz {a b :ByteArray} (h :a.data.toList=b.data.toList) :a=b :=by
 cases a with
 | mk x=>cases b with
  | mk y=>exact congrArg ByteArray.mk (Array.toList_inj.1 h)
theorem Zo {a b :ByteArray} (h :klt a b=false) :a=b∨klt b a=true :=by
 by_cases e :a=b
 ·exact .inl e
 ·right
  have h' : ¬a.data.toList<b.data.toList :=fun k=>by rw [(Iw a b).2 k] at h;cases h
  rw [Iw]
  rcases Decidable.em (b.data.toList<a.data.toList) with g | g
  ·exact g
  ·exact absurd (Vz (List.le_antisymm (show a.data.toList≤b.data.toList from g) h')) e
theorem Rd {a b :ByteArray} (h :klt a b=true) :a≠b :=by
 rintro rfl;rw [Im] at h;cases h
structure Pg where
 K :List ByteArray
 V :List ByteArray
def Pg.ok (p :Pg) :Prop :=1≤p.K.length∧p.K.length≤4∧p.V.length=p.K.length
abbrev Dj (l :List ByteArray) :Prop :=l.Pairwise (fun a b=>klt a b=true)
def In (T :List Pg) :List ByteArray :=T.flatMap Pg.K
def Re (T :List Pg) :List (ByteArray×ByteArray) :=T.flatMap fun p=>p.K.zip p.V
def Ql (T :List Pg) :Prop := (∀p∈T,p.ok) ∧Dj (In T)
theorem Ub (p :Pg) (T :List Pg) :In (p ::T) =p.K++In T :=by simp [In]
theorem Rf (A B :List Pg) :In (A++B) =In A++In B :=by simp [In]
theorem V7 (p :Pg) (T :List Pg) :Re (p ::T) =p.K.zip p.V++Re T :=by simp [Re]
theorem X3 {K V :List ByteArray} (h :V.length=K.length) : (K.zip V).map Prod.fst=K :=by
 rw [List.map_fst_zip (by omega)]
theorem Pf : ∀ {T :List Pg},(∀p∈T,p.ok) → (Re T).map Prod.fst=In T
 | [],_=>rfl
 | p ::T,h=>by
  rw [V7,Ub,List.map_append,X3 (h p (by simp)).2.2,Pf fun q hq=>h q (by simp [hq])]
structure Cut (F :List (ByteArray×ByteArray)) (k :ByteArray) (F1 :List (ByteArray×ByteArray)) (o :Option ByteArray) (F2 :List (ByteArray×ByteArray)) :Prop where
 eq :F=F1++ ((o.toList.map fun v=> (k,v)) ++F2)
 lo : ∀x∈F1,klt x.1 k=true
 hi : ∀x∈F2,klt k x.1=true
def Aat (F :List (ByteArray×ByteArray)) (k v :ByteArray) :List (ByteArray×ByteArray) := (F.filter fun x=>klt x.1 k) ++ (k,v) :: (F.filter fun x=>klt k x.1)
def Y5 (F :List (ByteArray×ByteArray)) (k :ByteArray) :List (ByteArray×ByteArray) :=F.filter fun x=>decide (x.1≠k)
theorem Io {α :Type} {p :α→Bool} {l :List α} (h : ∀x∈l,p x=true) :l.filter p=l :=List.filter_eq_self.2 h
theorem Hu {α :Type} {p :α→Bool} {l :List α} (h : ∀x∈l,p x=false) :l.filter p= [] :=by
 rw [List.filter_eq_nil_iff];intro x hx;rw [h x hx];simp
theorem Cut.put {F k F1 o F2} (c :Cut F k F1 o F2) (v :ByteArray) :Aat F k v=F1++ (k,v) ::F2 :=by
 unfold Aat
 rw [c.eq,List.filter_append,List.filter_append,List.filter_append,List.filter_append,Io c.lo,Hu (l :=F2) fun x hx=>Ln (c.hi x hx),
  Hu (l :=F1) fun x hx=>Ln (c.lo x hx),Io c.hi]
 have : ∀q : (ByteArray×ByteArray) →Bool,(∀v,q (k,v) =false) → (o.toList.map fun v=> (k,v)).filter q= [] :=by
  intro q hq;apply Hu;intro x hx;simp at hx;obtain ⟨v,_,rfl⟩ :=hx;exact hq v
 rw [this _ fun v=>Im k,this _ fun v=>Im k]
 simp
theorem Cut.drop {F k F1 o F2} (c :Cut F k F1 o F2) :Y5 F k=F1++F2 :=by
 unfold Y5
 rw [c.eq,List.filter_append,List.filter_append,Io fun x hx=>by simpa using Rd (c.lo x hx),Io (l :=F2) fun x hx=>by simpa using (Rd (c.hi x hx)).symm]
 have : (o.toList.map fun v=> (k,v)).filter (fun x=>decide (x.1≠k)) = [] :=by
  apply Hu;intro x hx;simp at hx;obtain ⟨v,_,rfl⟩ :=hx;simp
 rw [this];simp
theorem Sq {A B :List ByteArray} :Dj (A++B) ↔Dj A∧Dj B∧ ∀a∈A,∀b∈B,klt a b=true :=List.pairwise_append
theorem Ql.rise {T :List Pg} (h :Ql T) :Dj ((Re T).map Prod.fst) :=by rw [Pf h.1];exact h.2
theorem Ql.part {A B :List Pg} (h :Ql (A++B)) :Ql A∧Ql B :=by
 obtain ⟨h1,h2⟩ :=h
 rw [Rf,Sq] at h2
 exact ⟨⟨fun p hp=>h1 p (by simp [hp]),h2.1⟩,⟨fun p hp=>h1 p (by simp [hp]),h2.2.1⟩⟩
end Go.Proofs.YtmgkcjiejmhgcaaGreatDoor

namespace Go.Proofs.YtmgkcjiejmhgcaaGreatDoor
open Go.RowKit
open Go.Maps
theorem H8 {w :World} {B base :Nat} {e :TypeId} {k n :Nat} {v :Value} {xs :List Value} (h :w.ownsRow B e k v n xs) (hb :base≤B) :w.ownsRow base e k v n xs :=by
 refine ⟨h.1, ?_⟩
 rcases h.2 with h | ⟨g,cap,cur,h1,h2,h3⟩
 ·exact .inl h
 ·exact .inr ⟨g,cap,cur,h1,Nat.le_trans hb h2,h3⟩
set_option maxRecDepth 100000 in
set_option maxHeartbeats 8000000 in
theorem Uc (CS1 CS2 :List (List Value)) (nm :List Value→Wd) (sv :Value) (s0 :Wd) (a1 :Option Addr) (n1 c1 :Nat) (w :World) (h :IsL Fv (fun _=>True) w sv (CS1++CS2)) (hsh : ∀c∈CS1++CS2,Gg c) (hnm : ∀c∈CS1++CS2,∀s r,c= .string s ::r→nm c=s)
  (h1 : ∀c∈CS1,Op.bytesLess (nm c).toList s0.toList=true) (h2 : ∀c∈CS2,Op.bytesLess (nm c).toList s0.toList=false) (hl : (CS1++CS2).length≤1000000) :
  Calls Tryz.prog 40 #[sv, .agg [.string s0, .slice a1 n1 c1].toArray, .func (.func 41) #[] #[]] w fun e w'=> ∃v,e= .returned v∧w'.ownsRow w.heap.size 47 2 v (CS1.length+CS2.length+1) (CS1.flatten++ ([.string s0, .slice a1 n1 c1] ++CS2.flatten)) ∧Below w.heap.size w w' :=by
 obtain ⟨ao,c,rfl⟩ :=h.shape
 have hb2 :=Bz w (.cells [.string s0, .slice a1 n1 c1].toArray 47) (.cells #[.func (.func 41) #[] #[]] 81)
 have B4 : ((w.alloc (.cells [.string s0, .slice a1 n1 c1].toArray 47)).alloc (.cells #[.func (.func 41) #[] #[]] 81)).heap[w.heap.size]? =some (.cells [.string s0, .slice a1 n1 c1].toArray 47) :=Ae (Ab _ _) _
 have B5 : ((w.alloc (.cells [.string s0, .slice a1 n1 c1].toArray 47)).alloc (.cells #[.func (.func 41) #[] #[]] 81)).heap[w.heap.size+1]? =some (.cells #[.func (.func 41) #[] #[]] 81) :=A0 _ _ _
 generalize hW : (w.alloc (.cells [.string s0, .slice a1 n1 c1].toArray 47)).alloc (.cells #[.func (.func 41) #[] #[]] 81) =W at hb2 B4 B5
 have hflat : (CS1++CS2).flatten=CS1.flatten++CS2.flatten :=List.flatten_append
 have hlk : ∀c∈CS1++CS2,c.length=2 :=fun c hc=>Pb (hsh c hc)
 have hl1 :CS1.flatten.length=CS1.length*2 :=E7 fun c hc=>hlk c (by simp [hc])
 have hl2 :CS2.flatten.length=CS2.length*2 :=E7 fun c hc=>hlk c (by simp [hc])
 have hone : ∀u∈CS1.flatten++CS2.flatten,u.oneCell'=true :=fun u hu=>by
  rw [←hflat] at hu
  obtain ⟨c,hc,hu⟩ :=List.mem_flatten.1 hu
  exact Pc (hsh c hc) u hu
 have hrow : ∀V,Below w.heap.size w V→Cu (fun _=>True) 2 V (.slice ao (CS1++CS2).length c) (CS1++CS2).length (CS1.flatten++CS2.flatten) :=fun V hV=>by
  obtain ⟨cs,hr,ha⟩ :=h.keep (Ar hV)
  obtain ⟨CS,rfl,he,hR⟩ :=Jv ha
  have hCS :CS=CS1++CS2 :=by
   apply List.ext_getElem he
   intro i q1 q2
   exact (hR i _ _ (List.getElem?_eq_getElem q2) (List.getElem?_eq_getElem q1)).1
  rw [hCS,hflat] at hr;exact hr
 have HS :=fun V (hV :Below w.heap.size w V) (hc :V.cell? ⟨w.heap.size+1,0,none⟩ =some (.func (.func 41) #[] #[])) (hlt :w.heap.size+1<V.heap.size) =>Vx (CS1++CS2) ao (CS1++CS2).length c (.pointer (some ⟨w.heap.size+1,0,none⟩)) s0 (fun i=>Fg (nm ((CS1++CS2).getD i [])) s0) CS1.length V (fun V' hV'=>h.keep (Ar (hV.trans (hV'.mono hV.size)))) (by simp)
  (fun t ht=>by
   have hm : (CS1++CS2).getD t [] ∈CS1 :=by rw [List.getD_eq_getElem?_getD,List.getElem?_append_left ht,List.getElem?_eq_getElem ht];exact List.getElem_mem ht
   show Fg _ _<0
   unfold Fg
   rw [if_pos (h1 _ hm)];decide)
  (fun t ht htl=>by
   have htl' :t - CS1.length<CS2.length :=by rw [List.length_append] at htl;omega
   have hm : (CS1++CS2).getD t [] ∈CS2 :=by rw [List.getD_eq_getElem?_getD,List.getElem?_append_right ht,List.getElem?_eq_getElem htl'];exact List.getElem_mem htl'
   show ¬Fg _ _<0
   unfold Fg
   rw [if_neg (by rw [h2 _ hm];decide)]
   split<;>decide) hl
  (fun i cs V' hi hV'=>by
   obtain ⟨r0,a1,n1,c1,rfl⟩ :=hsh cs (List.mem_of_getElem? hi)
   refine (So r0 s0 a1 n1 c1 (w.heap.size+1) V' ((hV'.cell (p := ⟨w.heap.size+1,0,none⟩) hlt).trans hc) (Nat.lt_of_lt_of_le hlt hV'.size)).mono ?_
   rintro e V'' ⟨rfl,hb⟩
   refine ⟨?_,hb⟩
   simp only [List.getD_eq_getElem?_getD,hi,Option.getD_some]
   rw [hnm _ (List.mem_of_getElem? hi) r0 _ rfl])
 have HCl :=fun V (hV :Below w.heap.size w V) =>Ll (CS1.flatten++CS2.flatten) (CS1++CS2).length (.slice ao (CS1++CS2).length c) (fun _=>True) V (hrow V hV) hone (by omega)
 have hlen2 : (CS1++CS2).length=CS1.length+CS2.length :=List.length_append
 have HIn :=fun (v :Value) (B vb :Nat) (V :World) ho hv hne hB=>Aar CS1.flatten CS2.flatten [.string s0, .slice a1 n1 c1] CS1.length CS2.length v B vb V ho hl1 hl2 rfl hone (by simp [Value.oneCell']) (by omega) hv hne hB
 rw [hlen2] at HS HCl⊢
 have HW :Hid _ :=hW
 have hWl :w.heap.size+1<W.heap.size :=lt_of_block B5
 clear hW hrow h hflat hone hsh hnm h1 h2 hlk
 have cB :=Aa B5 (j :=0) (u := .func (.func 41) #[] #[]) rfl
 have d0 :=Aa B4 (j :=0) (u := .string s0) rfl
 have d1 :=Aa B4 (j :=1) (u := .slice a1 n1 c1) rfl
 go_enter Tryz.func40,Tryz.ntmps40
 go_upto_region 1 with fail
 rw [HW.out]
 go_wp2_with (first
  | (go_at_call 41;go_must (go_fit (D6 s0 a1 n1 c1 _);rintro e W1 ⟨rfl,hbW⟩;have HSx :=HS W1 (Ak hb2 hbW) ((hbW.cell (p := ⟨w.heap.size+1,0,none⟩) hWl).trans cB) (Nat.lt_of_lt_of_le hWl hbW.size)))
  | (go_at_call 80;go_must (go_fit HSx;rintro e V1 ⟨fnd,rfl,hbS⟩)))
 have hbV :Below w.heap.size w V1 :=Ak hb2 (Ak hbW hbS)
 have BV := (hbS.block _ (Nat.lt_of_lt_of_le (lt_of_block B4) hbW.size)).trans ((hbW.block _ (lt_of_block B4)).trans B4)
 have KS :Hid (∀V,Below V1.heap.size V1 V→V.cell? ⟨w.heap.size,0,none⟩ =some (.string s0) ∧V.cell? ⟨w.heap.size,1,none⟩ =some (.slice a1 n1 c1)) :=fun V hV=>by
  have B := (hV.block _ (lt_of_block BV)).trans BV
  exact ⟨Aa B (j :=0) rfl,Aa B (j :=1) rfl⟩
 have y0 :=KS.out V1.drew (Below.refl _ _).drew
 have y4 :=KS.out (V1.drew.alloc (.cells [.string s0, .slice a1 n1 c1].toArray 47)) ((Below.refl _ V1).drew.alloc (Nat.le_refl _) _)
 have y5 :=KS.out (V1.alloc (.cells [.string s0, .slice a1 n1 c1].toArray 47)).drew ((Below.refl _ V1).alloc (Nat.le_refl _) _).drew
 have hA :Below w.heap.size w V1.drew :=hbV.drew
 have hBw :Below w.heap.size w (V1.alloc (.cells [.string s0, .slice a1 n1 c1].toArray 47)).drew := (hbV.alloc hbV.size _).drew
 have HCA :=HCl _ hA
 have HCB :=HCl _ hBw
 have hVs :V1.drew.heap.size=V1.heap.size :=rfl
 have hVs2 : (V1.alloc (.cells [.string s0, .slice a1 n1 c1].toArray 47)).drew.heap.size=V1.heap.size+1 :=World.size_alloc _ _
 rw [hVs] at HCA
 rw [hVs2] at HCB
 have bVB : (V1.alloc (.cells [.string s0, .slice a1 n1 c1].toArray 47)).drew.heap[V1.heap.size]? =some (.cells [.string s0, .slice a1 n1 c1].toArray 47) :=Ab V1 _
 clear HCl HS HSx
 go_region_held3 (fun V=>V.cell? ⟨w.heap.size,0,none⟩ =some (.string s0) ∧V.cell? ⟨w.heap.size,1,none⟩ =some (.slice a1 n1 c1))
  (with_reducible first | exact y0 | exact y4 | exact y5 | exact y1 | exact y2 | exact y3)
  (first
   | (go_at_call 82;refine HCA.mono ?_;rintro e w2 ⟨v,rfl,own2,bel2'⟩;have hz :Below V1.heap.size V1 w2 := (Below.refl _ _).drew.trans bel2';have y1 :=KS.out _ hz;have y2 :=KS.out _ (hz.alloc hz.size (.cells [.string s0, .slice a1 n1 c1].toArray 47));have HI :=HIn v V1.heap.size w2.heap.size (w2.alloc (.cells [.string s0, .slice a1 n1 c1].toArray 47)) (Az own2 (Aq _ _)) (Ab _ _) (fun hh=>by have := (own2.lt _ hh).2;omega) (Nat.le_trans hz.size (by simp)))
   | (go_at_call 82;refine HCB.mono ?_;rintro e w2 ⟨v,rfl,own2,bel2'⟩;have hz :Below V1.heap.size V1 w2 := ((Below.refl _ _).alloc (Nat.le_refl _) _).drew.trans (bel2'.mono (Nat.le_succ _));have y1 :=KS.out _ hz;have HI :=HIn v (V1.heap.size+1) V1.heap.size w2 own2 ((bel2'.block _ (Nat.lt_succ_self _)).trans bVB) (fun hh=>by have := (own2.lt _ hh).1;omega) (by have :=bel2'.size;rw [hVs2] at this;exact this))
   | (go_at_call 81;refine HI.mono ?_;rintro e w3 ⟨v3,rfl,own3,bel3'⟩;have hz3 :Below V1.heap.size V1 w3 := (hz.alloc hz.size (.cells [.string s0, .slice a1 n1 c1].toArray 47)).trans (bel3'.mono (Nat.le_refl _));have y3 :=KS.out _ hz3)
   | (go_at_call 81;refine HI.mono ?_;rintro e w3 ⟨v3,rfl,own3,bel3'⟩;have hz3 :Below V1.heap.size V1 w3 :=hz.trans (bel3'.mono (Nat.le_succ _));have y3 :=KS.out _ hz3))
 ·go_wp2
  go_ret
  exact ⟨_,rfl,H8 own3 hbV.size,hbV.trans (hz3.mono hbV.size)⟩
 ·go_wp2
  go_ret
  exact ⟨_,rfl,H8 own3 (Nat.le_succ_of_le hbV.size),hbV.trans (hz3.mono hbV.size)⟩
set_option maxRecDepth 100000 in
set_option maxHeartbeats 8000000 in
theorem Ud (CS1 CS2 :List (List Value)) (nm :List Value→Wd) (sv :Value) (s0 :Wd) (s1 s2 :Wd) (w :World) (h :IsL Fw (fun _=>True) w sv (CS1++CS2)) (hsh : ∀c∈CS1++CS2,Gh c) (hnm : ∀c∈CS1++CS2,∀s r,c= .string s ::r→nm c=s)
  (h1 : ∀c∈CS1,Op.bytesLess (nm c).toList s0.toList=true) (h2 : ∀c∈CS2,Op.bytesLess (nm c).toList s0.toList=false) (hl : (CS1++CS2).length≤1000000) :
  Calls Tryz.prog 42 #[sv, .agg [.string s0, .string s1, .string s2].toArray, .func (.func 43) #[] #[]] w fun e w'=> ∃v,e= .returned v∧w'.ownsRow w.heap.size 64 3 v (CS1.length+CS2.length+1) (CS1.flatten++ ([.string s0, .string s1, .string s2] ++CS2.flatten)) ∧Below w.heap.size w w' :=by
 obtain ⟨ao,c,rfl⟩ :=h.shape
 have hb2 :=Bz w (.cells [.string s0, .string s1, .string s2].toArray 64) (.cells #[.func (.func 43) #[] #[]] 83)
 have B4 : ((w.alloc (.cells [.string s0, .string s1, .string s2].toArray 64)).alloc (.cells #[.func (.func 43) #[] #[]] 83)).heap[w.heap.size]? =some (.cells [.string s0, .string s1, .string s2].toArray 64) :=Ae (Ab _ _) _
 have B5 : ((w.alloc (.cells [.string s0, .string s1, .string s2].toArray 64)).alloc (.cells #[.func (.func 43) #[] #[]] 83)).heap[w.heap.size+1]? =some (.cells #[.func (.func 43) #[] #[]] 83) :=A0 _ _ _
 generalize hW : (w.alloc (.cells [.string s0, .string s1, .string s2].toArray 64)).alloc (.cells #[.func (.func 43) #[] #[]] 83) =W at hb2 B4 B5
 have hflat : (CS1++CS2).flatten=CS1.flatten++CS2.flatten :=List.flatten_append
 have hlk : ∀c∈CS1++CS2,c.length=3 :=fun c hc=>Pd (hsh c hc)
 have hl1 :CS1.flatten.length=CS1.length*3 :=E7 fun c hc=>hlk c (by simp [hc])
 have hl2 :CS2.flatten.length=CS2.length*3 :=E7 fun c hc=>hlk c (by simp [hc])
 have hone : ∀u∈CS1.flatten++CS2.flatten,u.oneCell'=true :=fun u hu=>by
  rw [←hflat] at hu
  obtain ⟨c,hc,hu⟩ :=List.mem_flatten.1 hu
  exact Pe (hsh c hc) u hu
 have hrow : ∀V,Below w.heap.size w V→Cu (fun _=>True) 3 V (.slice ao (CS1++CS2).length c) (CS1++CS2).length (CS1.flatten++CS2.flatten) :=fun V hV=>by
  obtain ⟨cs,hr,ha⟩ :=h.keep (Ar hV)
  obtain ⟨CS,rfl,he,hR⟩ :=Jv ha
  have hCS :CS=CS1++CS2 :=by
   apply List.ext_getElem he
   intro i q1 q2
   exact (hR i _ _ (List.getElem?_eq_getElem q2) (List.getElem?_eq_getElem q1)).1
  rw [hCS,hflat] at hr;exact hr
 have HS :=fun V (hV :Below w.heap.size w V) (hc :V.cell? ⟨w.heap.size+1,0,none⟩ =some (.func (.func 43) #[] #[])) (hlt :w.heap.size+1<V.heap.size) =>Vy (CS1++CS2) ao (CS1++CS2).length c (.pointer (some ⟨w.heap.size+1,0,none⟩)) s0 (fun i=>Fg (nm ((CS1++CS2).getD i [])) s0) CS1.length V (fun V' hV'=>h.keep (Ar (hV.trans (hV'.mono hV.size)))) (by simp)
  (fun t ht=>by
   have hm : (CS1++CS2).getD t [] ∈CS1 :=by rw [List.getD_eq_getElem?_getD,List.getElem?_append_left ht,List.getElem?_eq_getElem ht];exact List.getElem_mem ht
   show Fg _ _<0
   unfold Fg
   rw [if_pos (h1 _ hm)];decide)
  (fun t ht htl=>by
   have htl' :t - CS1.length<CS2.length :=by rw [List.length_append] at htl;omega
   have hm : (CS1++CS2).getD t [] ∈CS2 :=by rw [List.getD_eq_getElem?_getD,List.getElem?_append_right ht,List.getElem?_eq_getElem htl'];exact List.getElem_mem htl'
   show ¬Fg _ _<0
   unfold Fg
   rw [if_neg (by rw [h2 _ hm];decide)]
   split<;>decide) hl
  (fun i cs V' hi hV'=>by
   obtain ⟨r0,s1,s2,rfl⟩ :=hsh cs (List.mem_of_getElem? hi)
   refine (Sp r0 s0 s1 s2 (w.heap.size+1) V' ((hV'.cell (p := ⟨w.heap.size+1,0,none⟩) hlt).trans hc) (Nat.lt_of_lt_of_le hlt hV'.size)).mono ?_
   rintro e V'' ⟨rfl,hb⟩
   refine ⟨?_,hb⟩
   simp only [List.getD_eq_getElem?_getD,hi,Option.getD_some]
   rw [hnm _ (List.mem_of_getElem? hi) r0 _ rfl])
 have HCl :=fun V (hV :Below w.heap.size w V) =>Lm (CS1.flatten++CS2.flatten) (CS1++CS2).length (.slice ao (CS1++CS2).length c) (fun _=>True) V (hrow V hV) hone (by omega)
 have hlen2 : (CS1++CS2).length=CS1.length+CS2.length :=List.length_append
 have HIn :=fun (v :Value) (B vb :Nat) (V :World) ho hv hne hB=>Aas CS1.flatten CS2.flatten [.string s0, .string s1, .string s2] CS1.length CS2.length v B vb V ho hl1 hl2 rfl hone (by simp [Value.oneCell']) (by omega) hv hne hB
 rw [hlen2] at HS HCl⊢
 have HW :Hid _ :=hW
 have hWl :w.heap.size+1<W.heap.size :=lt_of_block B5
 clear hW hrow h hflat hone hsh hnm h1 h2 hlk
 have cB :=Aa B5 (j :=0) (u := .func (.func 43) #[] #[]) rfl
 have d0 :=Aa B4 (j :=0) (u := .string s0) rfl
 have d1 :=Aa B4 (j :=1) (u := .string s1) rfl
 have d2 :=Aa B4 (j :=2) (u := .string s2) rfl
 go_enter Tryz.func42,Tryz.ntmps42
 go_upto_region 1 with fail
 rw [HW.out]
 go_wp2_with (first
  | (go_at_call 43;go_must (go_fit (D7 s0 s1 s2 _);rintro e W1 ⟨rfl,hbW⟩;have HSx :=HS W1 (Ak hb2 hbW) ((hbW.cell (p := ⟨w.heap.size+1,0,none⟩) hWl).trans cB) (Nat.lt_of_lt_of_le hWl hbW.size)))
  | (go_at_call 84;go_must (go_fit HSx;rintro e V1 ⟨fnd,rfl,hbS⟩)))
 have hbV :Below w.heap.size w V1 :=Ak hb2 (Ak hbW hbS)
 have BV := (hbS.block _ (Nat.lt_of_lt_of_le (lt_of_block B4) hbW.size)).trans ((hbW.block _ (lt_of_block B4)).trans B4)
 have KS :Hid (∀V,Below V1.heap.size V1 V→V.cell? ⟨w.heap.size,0,none⟩ =some (.string s0) ∧V.cell? ⟨w.heap.size,1,none⟩ =some (.string s1) ∧V.cell? ⟨w.heap.size,2,none⟩ =some (.string s2)) :=fun V hV=>by
  have B := (hV.block _ (lt_of_block BV)).trans BV
  exact ⟨Aa B (j :=0) rfl,Aa B (j :=1) rfl,Aa B (j :=2) rfl⟩
 have y0 :=KS.out V1.drew (Below.refl _ _).drew
 have y4 :=KS.out (V1.drew.alloc (.cells [.string s0, .string s1, .string s2].toArray 64)) ((Below.refl _ V1).drew.alloc (Nat.le_refl _) _)
 have y5 :=KS.out (V1.alloc (.cells [.string s0, .string s1, .string s2].toArray 64)).drew ((Below.refl _ V1).alloc (Nat.le_refl _) _).drew
 have hA :Below w.heap.size w V1.drew :=hbV.drew
 have hBw :Below w.heap.size w (V1.alloc (.cells [.string s0, .string s1, .string s2].toArray 64)).drew := (hbV.alloc hbV.size _).drew
 have HCA :=HCl _ hA
 have HCB :=HCl _ hBw
 have hVs :V1.drew.heap.size=V1.heap.size :=rfl
 have hVs2 : (V1.alloc (.cells [.string s0, .string s1, .string s2].toArray 64)).drew.heap.size=V1.heap.size+1 :=World.size_alloc _ _
 rw [hVs] at HCA
 rw [hVs2] at HCB
 have bVB : (V1.alloc (.cells [.string s0, .string s1, .string s2].toArray 64)).drew.heap[V1.heap.size]? =some (.cells [.string s0, .string s1, .string s2].toArray 64) :=Ab V1 _
 clear HCl HS HSx
 go_region_held3 (fun V=>V.cell? ⟨w.heap.size,0,none⟩ =some (.string s0) ∧V.cell? ⟨w.heap.size,1,none⟩ =some (.string s1) ∧V.cell? ⟨w.heap.size,2,none⟩ =some (.string s2))
  (with_reducible first | exact y0 | exact y4 | exact y5 | exact y1 | exact y2 | exact y3)
  (first
   | (go_at_call 86;refine HCA.mono ?_;rintro e w2 ⟨v,rfl,own2,bel2'⟩;have hz :Below V1.heap.size V1 w2 := (Below.refl _ _).drew.trans bel2';have y1 :=KS.out _ hz;have y2 :=KS.out _ (hz.alloc hz.size (.cells [.string s0, .string s1, .string s2].toArray 64));have HI :=HIn v V1.heap.size w2.heap.size (w2.alloc (.cells [.string s0, .string s1, .string s2].toArray 64)) (Az own2 (Aq _ _)) (Ab _ _) (fun hh=>by have := (own2.lt _ hh).2;omega) (Nat.le_trans hz.size (by simp)))
   | (go_at_call 86;refine HCB.mono ?_;rintro e w2 ⟨v,rfl,own2,bel2'⟩;have hz :Below V1.heap.size V1 w2 := ((Below.refl _ _).alloc (Nat.le_refl _) _).drew.trans (bel2'.mono (Nat.le_succ _));have y1 :=KS.out _ hz;have HI :=HIn v (V1.heap.size+1) V1.heap.size w2 own2 ((bel2'.block _ (Nat.lt_succ_self _)).trans bVB) (fun hh=>by have := (own2.lt _ hh).1;omega) (by have :=bel2'.size;rw [hVs2] at this;exact this))
   | (go_at_call 85;refine HI.mono ?_;rintro e w3 ⟨v3,rfl,own3,bel3'⟩;have hz3 :Below V1.heap.size V1 w3 := (hz.alloc hz.size (.cells [.string s0, .string s1, .string s2].toArray 64)).trans (bel3'.mono (Nat.le_refl _));have y3 :=KS.out _ hz3)
   | (go_at_call 85;refine HI.mono ?_;rintro e w3 ⟨v3,rfl,own3,bel3'⟩;have hz3 :Below V1.heap.size V1 w3 :=hz.trans (bel3'.mono (Nat.le_succ _));have y3 :=KS.out _ hz3))
 ·go_wp2
  go_ret
  exact ⟨_,rfl,H8 own3 hbV.size,hbV.trans (hz3.mono hbV.size)⟩
 ·go_wp2
  go_ret
  exact ⟨_,rfl,H8 own3 (Nat.le_succ_of_le hbV.size),hbV.trans (hz3.mono hbV.size)⟩
end Go.Proofs.YtmgkcjiejmhgcaaGreatDoor

