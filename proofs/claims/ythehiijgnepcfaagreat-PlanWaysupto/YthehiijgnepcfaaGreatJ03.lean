/-
  4 texts of this proof in one, in build order: TGet, TConcat, TInsert, TParts.
-/
import Derived.Deep.Upon
import Derived.Lib.EndianMore
import Derived.Lib.ReflectliteSwap
import Derived.Test.YthehiijgnepcfaaGreatJ01
import Derived.Test.YthehiijgnepcfaaGreatJ02
set_option linter.unusedSimpArgs false
set_option linter.unusedVariables false
namespace Go.Proofs.YthehiijgnepcfaaGreat
open Go.RowKit
theorem A5.keysLen {w :World} {tv :Value} {T :List Pg} (h :A5 w tv T) : ∀p∈T,p.K.length≤maxLen :=by
 intro p hp
 obtain ⟨sv,_,rows,_,hr⟩ :=h
 obtain ⟨i,hi⟩ :=List.getElem?_of_mem hp
 obtain ⟨r,_,hk,_⟩ :=hr.at hi
 rcases Nat.eq_zero_or_pos p.K.length with h0 | h0
 ·omega
 ·obtain ⟨b,off,cap,_,_,h1,h2,_⟩ :=hk.at h0
  omega
theorem Ts (T :List Pg) (tv :Value) (w :World) (h :A5 w tv T) :
  Calls Tryz.prog 55 #[tv] w fun e w'=>J4 e (Ap T) ∧Below w.heap.size w w' :=by
 have hl :=h.keysLen
 obtain ⟨sv,rfl,hs⟩ :=h
 rcases Nat.eq_zero_or_pos T.length with h0 | h0
 ·obtain ⟨ao,cap,rfl,_⟩ :=hs.empty h0
  obtain rfl :=List.eq_nil_of_length_eq_zero h0
  exact Z2 ao cap w
 ·obtain ⟨b,off,cap,rfl,hb,hc,hm,hT⟩ :=hs.at h0
  exact Abp T b off cap w hb hT hc hm hl
theorem Gp (T :List Pg) (tv :Value) (w :World) (h :A5 w tv T) (hg :Ap T) :
  Calls Tryz.prog 55 #[tv] w fun e w'=>e= .returned (.bool true) ∧Below w.heap.size w w' :=
 (Ts T tv w h).mono fun _ _ h=> ⟨h.1.yes hg,h.2⟩
theorem Sk (T :List Pg) (tv :Value) (w :World) (h :A5 w tv T) (hg : ¬Ap T) :
  Calls Tryz.prog 55 #[tv] w fun e w'=>e= .returned (.bool false) ∧Below w.heap.size w w' :=
 (Ts T tv w h).mono fun _ _ h=> ⟨h.1.no hg,h.2⟩
def Kq (o :Option ByteArray) :Value := .tuple #[.string (o.getD ⟨#[]⟩), .bool o.isSome]
theorem Aha {K1 K3 V :List ByteArray} {y :ByteArray} (h :V.length= (K1++y ::K3).length) : ∃V1 v V3,V=V1++v ::V3∧V1.length=K1.length∧V3.length=K3.length∧ (K1++y ::K3).zip V=K1.zip V1++ (y,v) ::K3.zip V3 :=by
 have hl :K1.length<V.length :=by rw [h];simp
 refine ⟨V.take K1.length,V[K1.length],V.drop (K1.length+1), ?_, ?_, ?_, ?_⟩
 ·rw [←List.drop_eq_getElem_cons hl,List.take_append_drop]
 ·simp;omega
 ·simp at h⊢;omega
 ·have e :V=V.take K1.length++V[K1.length] ::V.drop (K1.length+1) :=by rw [←List.drop_eq_getElem_cons hl,List.take_append_drop]
  conv=>lhs;rw [e]
  rw [List.zip_append (by simp;omega)]
  rfl
theorem Pe {A B :List Pg} {p :Pg} {K1 K3 :List ByteArray} {k :ByteArray} (hg :Ap (A++p ::B)) (hp :p.K=K1++k ::K3) (hA : ∀x∈Bc A,klt x k=true) (hK : ∀x∈K1,klt x k=true) :
  ∃V1 v V3,p.V=V1++v ::V3∧V1.length=K1.length∧V3.length=K3.length∧Cut (flat (A++p ::B)) k (flat A++K1.zip V1) (some v) (K3.zip V3++flat B) :=by
 have hok :=hg.1 p (by simp)
 have hpv :=hok.2.2
 rw [hp] at hpv
 obtain ⟨V1,v,V3,e,h1,h3,hz⟩ :=Aha hpv
 have hAo : ∀q∈A,q.ok :=fun q hq=>hg.1 q (by simp [hq])
 have hBo : ∀q∈B,q.ok :=fun q hq=>hg.1 q (by simp [hq])
 have hr :=hg.2
 rw [B8,Da,hp] at hr
 have hr2 := (D8.1 hr).2.1
 rw [List.append_assoc] at hr2
 have hr3 := (D8.1 hr2).2.1
 rw [Bo,List.cons_append,List.pairwise_cons] at hr3
 refine ⟨V1,v,V3,e,h1,h3, ?_, ?_, ?_⟩
 ·rw [Dj,H8,hp,hz]
  simp
 ·intro x hx
  rcases List.mem_append.1 hx with hx | hx
  ·exact hA _ (by rw [←Eq hAo];exact List.mem_map.2 ⟨x,hx,rfl⟩)
  ·exact hK _ (List.of_mem_zip hx).1
 ·intro x hx
  rcases List.mem_append.1 hx with hx | hx
  ·exact hr3.1 _ (List.mem_append_left _ (List.of_mem_zip hx).1)
  ·exact hr3.1 _ (List.mem_append_right _ (by rw [←Eq hBo];exact List.mem_map.2 ⟨x,hx,rfl⟩))
set_option maxHeartbeats 2000000 in
theorem Vq (T :List Pg) (tv :Value) (k :ByteArray) (w :World) (h :A5 w tv T) (hg :Ap T) (hn :T.length*48≤140737488355328) :
  Calls Tryz.prog 20 #[tv, .string k] w fun e w'=>e= .returned (Kq (Cw (flat T) k)) ∧Below w.heap.size w w' :=by
 obtain ⟨pg,pl,th,hF,fi⟩ :=Vp T k hg hn
 have gc :=fun W (hW :Below w.heap.size w W) =>Gp T tv W (h.below hW) hg
 have fc :=fun W (hW :Below w.heap.size w W) =>fi tv W (h.below hW)
 obtain ⟨sv,rfl,hs⟩ :=h
 have hs2 :=hs
 obtain ⟨so,scap,rfl⟩ : ∃so scap,sv= .slice so T.length scap :=by obtain ⟨rows,h1,_⟩ :=hs;exact h1.shape
 have hB0 :Below w.heap.size w (w.alloc (.cells #[.slice so T.length scap] 48)) := (Below.refl _ w).alloc (Nat.le_refl _) _
 have cbox : (w.alloc (.cells #[.slice so T.length scap] 48)).cell? ⟨w.heap.size,0,none⟩ =some (.slice so T.length scap) :=Aa (Ab w _) rfl
 have g0 :=gc _ hB0
 have hsz :w.heap.size< (w.alloc (.cells #[.slice so T.length scap] 48)).heap.size :=by simp
 cases th with
 | false=>
  obtain ⟨F1,o,F2,c,ho⟩ :=hF.cut hg
  have hon :o=none :=by
   cases o with
   | none=>rfl
   | some v=>have :=ho.2 rfl;cases this
  rw [c.get,hon]
  clear c ho hon hF fi hg hs hs2 gc
  generalize T.length=n at*
  go_enter Tryz.func20,Tryz.ntmps20
  go_wp2_with (first
   | (go_at_call 55;go_must (refine g0.mono ?_;rintro e w1 ⟨rfl,hb1⟩;have cb1 := (hb1.cell (p := ⟨w.heap.size,0,none⟩) hsz).trans cbox;have hbz :=hB0.trans (hb1.mono hB0.size)))
   | (go_at_call 56;go_must (refine (fc _ hbz).mono ?_;rintro e w2 ⟨rfl,hb2⟩)))
  go_ret2
  exact ⟨rfl,hbz.trans (hb2.mono hbz.size)⟩
 | true=>
  rcases hF with ⟨_,_,h,_⟩ | ⟨A,p,B,K1,y,K3,rfl,hp,rfl,rfl,hA,hK,hy,hth⟩
  ·cases h
  have hyk :y=k :=of_decide_eq_true hth.symm
  subst hyk
  obtain ⟨V1,v,V3,hV,hl1,hl3,c⟩ :=Pe hg hp hA hK
  rw [c.get]
  have hpi : (A++p ::B)[A.length]? =some p :=by simp
  have hlt :A.length< (A++p ::B).length :=by simp
  obtain ⟨b,off,cap,hsv,hbl,_,_,hT⟩ :=hs.at (by omega)
  simp only [Value.slice.injEq] at hsv
  obtain ⟨rfl,_,rfl⟩ :=hsv
  obtain ⟨kv,vv,c0,c1,hk,hv⟩ :=hT _ p hpi
  have hvl :K1.length<p.V.length :=by rw [hV,List.length_append,List.length_cons];omega
  obtain ⟨vb,vo,vc,rfl,hvb,hvc,_,hvcell⟩ :=hv.at (by omega)
  have cv :=hvcell K1.length v (by rw [hV,←hl1];simp)
  clear c hs hs2 gc fi hg hT hvcell hk hv hp hA hK hy hth hV hl1 hl3 hpi
  generalize A.length=a at*
  generalize K1.length=kl at*
  generalize p.V.length=vl at*
  generalize (A++p ::B).length=n at*
  have i0 : (0 :Int) ≤ (a :Int) :=by omega
  have i1 : (a :Int) < (n :Int) :=by omega
  have i2 : (0 :Int) ≤ (kl :Int) :=by omega
  have i3 : (kl :Int) < (vl :Int) :=by omega
  go_enter Tryz.func20,Tryz.ntmps20
  go_wp2_with (first
   | (go_at_call 55;go_must (refine g0.mono ?_;rintro e w1 ⟨rfl,hb1⟩;have cb1 := (hb1.cell (p := ⟨w.heap.size,0,none⟩) hsz).trans cbox;have hbz :=hB0.trans (hb1.mono hB0.size);have hsz1 :=Nat.lt_of_lt_of_le hsz hb1.size))
   | (go_at_call 56;go_must (refine (fc _ hbz).mono ?_;rintro e w2 ⟨rfl,hb2⟩;have cb2 := (hb2.cell (p := ⟨w.heap.size,0,none⟩) hsz1).trans cb1;have hbz2 :=hbz.trans (hb2.mono hbz.size);have c12 := (hbz2.cell (p := ⟨b,off+a*2+1,none⟩) hbl).trans c1;have cv2 := (hbz2.cell (p := ⟨vb,vo+kl,none⟩) hvb).trans cv)))
  go_ret2
  exact ⟨rfl,hbz2⟩
set_option maxHeartbeats 1000000 in
theorem Aj0 (T :List Pg) (tv :Value) (k :ByteArray) (w :World) (h :A5 w tv T) (hg : ¬Ap T) :
  Calls Tryz.prog 20 #[tv, .string k] w fun e w'=>e= .returned (Kq none) ∧Below w.heap.size w w' :=by
 have gc :=fun W (hW :Below w.heap.size w W) =>Sk T tv W (h.below hW) hg
 obtain ⟨sv,rfl,hs⟩ :=h
 obtain ⟨so,scap,rfl⟩ : ∃so scap,sv= .slice so T.length scap :=by obtain ⟨rows,h1,_⟩ :=hs;exact h1.shape
 have hB0 :Below w.heap.size w (w.alloc (.cells #[.slice so T.length scap] 48)) := (Below.refl _ w).alloc (Nat.le_refl _) _
 have g0 :=gc _ hB0
 clear gc hs hg
 generalize T.length=n at*
 go_enter Tryz.func20,Tryz.ntmps20
 go_wp2_with (go_at_call 55;go_must (refine g0.mono ?_;rintro e w1 ⟨rfl,hb1⟩))
 go_ret2
 exact ⟨rfl,hB0.trans (hb1.mono hB0.size)⟩
theorem Aiy (T :List Pg) (k :Nat) (p :Pg) (h :T[k]? =some p) : (Bc (T.take (k+1))).length= (Bc (T.take k)).length+p.K.length :=by
 rw [List.take_add_one,h,B8,List.length_append]
 simp [Bc]
theorem Ahb (T :List Pg) (k :Nat) : (Bc (T.take k)).length≤ (Bc T).length :=by
 conv=>rhs;rw [←List.take_append_drop k T]
 rw [B8,List.length_append];omega
end Go.Proofs.YthehiijgnepcfaaGreat

namespace Go.Proofs.YthehiijgnepcfaaGreat
open Go.RowKit
abbrev Ow :=List (Value×Nat×List Value)
def Ow.sum (X :Ow) :Nat := (X.map fun x=>x.2.1).sum
def Ow.all (X :Ow) :List Value :=X.flatMap fun x=>x.2.2
theorem Ow.sum_take (X :Ow) (i :Nat) (x :Value×Nat×List Value) (h :X[i]? =some x) :Ow.sum (X.take (i+1)) =Ow.sum (X.take i) +x.2.1 :=by
 unfold Ow.sum
 rw [List.take_add_one,h]
 simp
theorem Ow.all_take (X :Ow) (i :Nat) (x :Value×Nat×List Value) (h :X[i]? =some x) :Ow.all (X.take (i+1)) =Ow.all (X.take i) ++x.2.2 :=by
 unfold Ow.all
 rw [List.take_add_one,h]
 simp
theorem Ow.sum_le (X :Ow) (i :Nat) :Ow.sum (X.take i) ≤Ow.sum X :=by
 unfold Ow.sum
 conv=>rhs;rw [←List.take_append_drop i X]
 rw [List.map_append,List.sum_append]
 omega
set_option maxHeartbeats 2000000 in
theorem Af2 (X :Ow) (g :Nat) (cap :Nat) (w :World) (hg :g<w.heap.size) (hc : ∀i x,X[i]? =some x→w.cell? ⟨g,i,none⟩ =some x.1) (hX : ∀x∈X,Dz 2 w x.1 x.2.1 x.2.2∧ ∀u∈x.2.2,u.oneCell'=true)
  (hlen :X.length≤3) (hs :Ow.sum X*48≤140737488355328) :
  Calls Tryz.prog 138 #[.slice (some ⟨g,0,none⟩) X.length cap] w fun e w'=> ∃v,e= .returned v∧Dz 2 w' v (Ow.sum X) (Ow.all X) ∧Below w.heap.size w w' :=by
 obtain ⟨i0,hi,hz0,hz1,hz2⟩ :=info_parts Tm
 have HX :=hid hX
 have HC :=hid hc
 clear hX hc
 generalize hsum :Ow.sum X=S at hs⊢
 have HS :=hid hsum
 clear hsum
 go_enter Tryz.func138,Tryz.ntmps138
 go_wp2
 go_loopw [3,11] (fun z i wr=> ∃k s :Nat,k≤X.length∧s≤S∧i= .int .i64 k∧z= .int .i64 s∧w=wr∧Hid (s=Ow.sum (X.take k))) (fun _ i _=>X.length - (intOf i).toNat)
 case atStart=>exact ⟨0,0,Nat.zero_le _,Nat.zero_le _,rfl,rfl,rfl,hid (by simp [Ow.sum])⟩
 case round=>
  obtain ⟨k,s,hk,hsS,rfl,rfl,rfl,HT⟩ :=hrel
  by_cases hlt :k<X.length
  ·obtain ⟨x,hx⟩ : ∃x,X[k]? =some x := ⟨_,List.getElem?_eq_getElem hlt⟩
   have c0 :=HC.out k x hx
   obtain ⟨ao,c,hsv⟩ := (HX.out x (List.mem_of_getElem? hx)).1.shape
   have hT1 :=Ow.sum_take X k x hx
   have hT2 :=Ow.sum_le X (k+1)
   rw [HS.out,hT1,←HT.out] at hT2
   rw [←HT.out] at hT1
   have HT1 :=hid hT1
   clear hx hT1
   rw [hsv] at c0
   generalize x.2.1=m at*
   clear hsv
   have i0' : (0 :Int) ≤ (k :Int) :=by omega
   have i1' : (k :Int) < (X.length :Int) :=by omega
   have hnn : ¬ ((s :Int) + (m :Int) <0) :=by omega
   go_wp2
   go_roundw
   case rel=>exact ⟨k+1,s+m,by omega,by omega,by go_num,by go_num,by first | trivial | rfl,hid (by rw [HT1.out])⟩
   case measure=>simp [intOf];omega
  ·have hkX :k=X.length :=by omega
   have hsS' :s=S :=by rw [HT.out,hkX,List.take_length,HS.out]
   subst hsS'
   go_wp2_with (go_at_call 171;go_must (refine (Aid s w hs).mono ?_;rintro e w1 ⟨v,rfl,hv,hb1⟩))
   go_loopw [6,27] (fun z i wr=> ∃k :Nat,k≤X.length∧i= .int .i64 k∧wr.ownsRow w.heap.size 111 2 z (Ow.sum (X.take k)) (Ow.all (X.take k)) ∧Below w.heap.size w wr) (fun _ i _=>X.length - (intOf i).toNat)
   case atStart=>exact ⟨0,Nat.zero_le _,rfl,by simpa [Ow.sum,Ow.all] using hv,hb1⟩
   case round=>
    obtain ⟨k,hk,rfl,hown,hbel⟩ :=hrel
    by_cases hlt :k<X.length
    ·obtain ⟨x,hx⟩ : ∃x,X[k]? =some x := ⟨_,List.getElem?_eq_getElem hlt⟩
     have c0 :=HC.out k x hx
     rw [←hbel.cell (p := ⟨g,k,none⟩) hg] at c0
     obtain ⟨hr,h1⟩ :=HX.out x (List.mem_of_getElem? hx)
     replace hr :=hr.below hbel
     have hT1 :=Ow.sum_take X k x hx
     have hA1 :=Ow.all_take X k x hx
     have hT2 :=Ow.sum_le X (k+1)
     rw [HS.out,hT1] at hT2
     obtain ⟨sv,m,cs⟩ :=x
     simp only at c0 hr h1 hT1 hA1 hT2
     have HT1 :=hid hT1
     have HA1 :=hid hA1
     clear hx hT1 hA1
     generalize Ow.sum (X.take k) =s1 at*
     generalize Ow.all (X.take k) =a1 at*
     have i0' : (0 :Int) ≤ (k :Int) :=by omega
     have i1' : (k :Int) < (X.length :Int) :=by omega
     rcases hr.2 with ⟨rfl,ao,c,rfl,hnil⟩ | ⟨hm0,b,off,c,rfl,hb,hmc,hcm,hcell⟩
     ·obtain rfl :cs= [] :=List.eq_nil_of_length_eq_zero (by simpa using hr.1)
      rcases ao with _ | ad
      ·obtain rfl :=hnil rfl
       go_wp2_with (at_builtin;go_must (refine wpList_append_own_none rfl _ _ 46 rfl w.heap.size 111 i0 2 Tryz.underlying46 hi _ _ _ rfl hown rfl ?_))
       go_roundw
       case rel=>exact ⟨k+1,by omega,by go_num,by rw [HT1.out,HA1.out,Nat.add_zero,List.append_nil];exact hown,hbel⟩
       case measure=>simp [intOf];omega
      ·have hcl : ∀j u,([] :List Value)[j]? =some u→wr.cell? (ad.add j) =some u :=fun j u h=>by simp at h
       go_wp2_with (at_builtin;go_must (refine wpList_append_own _ rfl _ _ 46 rfl w.heap.size 111 i0 (.agg #[.slice none 0 0, .slice none 0 0]) 2 48 Tryz.underlying46 hi hz0 hz1 hz2 rfl (by decide) _ _ _ rfl hown ad 0 c [] rfl (by simp) hcl (by simp) (by simp only [maxLen];omega) (by omega) hbel.size ?_))
       intro v2 w2 hown2 hg2 _
       go_wp2
       go_roundw
       case rel=>exact ⟨k+1,by omega,by go_num,by rw [HT1.out,HA1.out];first | exact hown2 | (rw [Nat.add_zero,List.append_nil];exact hown2),hbel.grown hg2 hbel.size (fun j hj=> (hown.lt j hj).1)⟩
       case measure=>simp [intOf];omega
     ·have hcl : ∀j u,cs[j]? =some u→wr.cell? ((⟨b,off,none⟩ :Addr).add j) =some u :=fun j u h=>by rw [Addr.add_lit];exact hcell j u h
      go_wp2_with (at_builtin;go_must (refine wpList_append_own _ rfl _ _ 46 rfl w.heap.size 111 i0 (.agg #[.slice none 0 0, .slice none 0 0]) 2 48 Tryz.underlying46 hi hz0 hz1 hz2 rfl (by decide) _ _ _ rfl hown ⟨b,off,none⟩ m c cs rfl hr.1 hcl h1 (by simp only [maxLen];omega) (by omega) hbel.size ?_))
      intro v2 w2 hown2 hg2 _
      go_wp2
      go_roundw
      case rel=>exact ⟨k+1,by omega,by go_num,by rw [HT1.out,HA1.out];first | exact hown2 | (rw [Nat.add_zero,List.append_nil];exact hown2),hbel.grown hg2 hbel.size (fun j hj=> (hown.lt j hj).1)⟩
      case measure=>simp [intOf];omega
    ·have hkX :k=X.length :=by omega
     subst hkX
     rw [List.take_length,HS.out] at hown
     go_wp2
     go_ret
     exact ⟨_,rfl, .of_own hown,hbel⟩
end Go.Proofs.YthehiijgnepcfaaGreat

namespace Go.Proofs.YthehiijgnepcfaaGreat
open Go.RowKit
theorem Et {w :World} (g o :Nat) (vs :List Value) :w.grownBy (w.setCells g o vs) (some g) :=by
 have h :=Lib.below_setCells_w (B :=0) (g :=g) (Nat.zero_le _) vs o w
 exact ⟨h.os,h.tape,h.output,h.size,fun k hk hne=>World.heap_setCells_other w g o vs hk (fun e=>hne (by rw [e]))⟩
theorem Ji {a b c :World} {r :Option Nat} (h :a.grownBy b r) (k :b.grownBy c r) :a.grownBy c r :=
 ⟨k.os.trans h.os,k.tape.trans h.tape,k.output.trans h.output,Nat.le_trans h.size k.size,fun i hi hne=> (k.block i (Nat.lt_of_lt_of_le hi h.size) hne).trans (h.block i hi hne)⟩
theorem Q4 {w w' :World} {r :Option Nat} (h :w.grownBy w' r) :w.grownBy w'.drew r := ⟨h.os,h.tape,h.output,h.size,h.block⟩
theorem Q5 (w :World) (r :Option Nat) :w.grownBy w r := ⟨rfl,rfl,rfl,Nat.le_refl _,fun _ _ _=>rfl⟩
theorem Pf {w w' :World} (r :Option Nat) (h :Below w.heap.size w w') :w.grownBy w' r := ⟨h.os,h.tape,h.output,h.size,fun k hk _=>h.block k hk⟩
theorem Aj.grown {w w' :World} {sv :Value} {L :List ByteArray} {r :Option Nat} (h :Aj w sv L) (hg :w.grownBy w' r) (hne :r=none∨sv.ownBlock≠r) :Aj w' sv L :=by
 obtain ⟨h1,h2⟩ :=h
 refine ⟨h1, ?_⟩
 rcases h2 with h2 | ⟨h0,b,off,cap,rfl,hlt,hc,hm,hcell⟩
 ·exact .inl h2
 ·exact .inr ⟨h0,b,off,cap,rfl,Nat.lt_of_lt_of_le hlt hg.size,hc,hm,fun j u hj=>hg.cell (hcell j u hj) (by
   rcases hne with rfl | hne
   ·simp
   ·simpa [Value.ownBlock] using hne)⟩
theorem Kr (L :List ByteArray) : ∀u∈L.map Value.string,u.oneCell'=true :=by
 intro u hu;obtain ⟨x,_,rfl⟩ :=List.mem_map.1 hu;rfl
theorem J6 (L1 L2 :List ByteArray) (x :ByteArray) (v :Value) (B vb vc :Nat) (w :World) (ho :w.ownsRow B 9 1 v (L1++L2).length ((L1++L2).map .string)) (h0 :0< (L1++L2).length) (h4 : (L1++L2).length≤4)
  (hv :w.heap[vb]? =some (.cells #[.string x] 9)) (hne :v.ownBlock≠some vb) :
  Calls Tryz.prog 99 #[v, .int .i64 L1.length, .slice (some ⟨vb,0,none⟩) 1 vc] w fun e w'=> ∃v',e= .returned v'∧Aj w' v' (L1++x ::L2) ∧w.grownBy w' v.ownBlock∧ (v'.ownBlock=v.ownBlock∨ ∃b,v'.ownBlock=some b∧w.heap.size≤b) :=by
 have hvs : ∀ (j :Nat) (u :Value),([Value.string x] :List Value)[j]? =some u→w.cell? ⟨vb,0+j,none⟩ =some u :=by
  intro j u hj
  rw [Nat.zero_add]
  exact Aa hv (by simpa using hj)
 have hxl : (L1++x ::L2).length= (L1++L2).length+1 :=by simp;omega
 rcases ho.2 with ⟨rfl,hz⟩ | ⟨g,cap,cur,rfl,hg,hh,hn,hm,hsz,htk⟩
 ·omega
 ·have hcs : ∀ (j :Nat) (u :Value),((L1++L2).map Value.string)[j]? =some u→w.cell? ⟨g,0+j,none⟩ =some u :=by
   intro j u hj
   have :=ho.cells (g :=g) rfl j u hj
   rwa [Addr.add_lit] at this
  have hall : ∀j,j<cap→ (w.cell? ⟨g,0+j,none⟩).isSome=true :=by
   intro j hj
   rw [Nat.zero_add,Aa hh (Array.getElem?_eq_getElem (by omega))];rfl
  have hfz : ∀j,w.frozen? ⟨g,0+j,none⟩ =false :=by
   intro j;simp [World.frozen?,hh]
  have hgv :vb≠g :=by rintro rfl;exact hne rfl
  have hm' :cap≤9223372036854775807 :=by simpa [maxLen] using hm
  generalize hn' : (L1++L2).length=n at*
  have hl :L1.length≤n :=by rw [←hn'];simp
  by_cases hroom :n+1≤cap
  ·by_cases hi :L1.length<n
   ·refine (Any2.slices_Insert_string_shift Tryz.laysInsert g 0 n cap L1.length vb 0 1 vc ((L1++L2).map .string) [.string x] w hi (by decide) hroom hm' hgv (by rw [List.length_map,hn']) rfl hcs
     (fun j hj=>hall j (by omega)) (fun j _=>hfz j) hvs (Kr _) (by simp [Value.oneCell']) 9 9 1 cur.size (by simp [World.shape?,hv]) (by simp [World.shape?,hh]) (by omega) (by simp [World.frozen?,hv]) (by simp [World.frozen?,hv])).mono ?_
    rintro e w' ⟨rfl,rfl⟩
    refine ⟨_,rfl,⟨by simp, .inr ⟨by omega,g,0,cap,by rw [hxl], ?_,by omega,hm, ?_⟩⟩, ?_, .inl rfl⟩
    ·have := (Ji (Q4 (Q5 w (some g))) (Ji (Et (w :=w.drew) g (0+ (L1.length+1)) (((L1++L2).map Value.string).drop L1.length)) (Et g (0+L1.length) [Value.string x]))).size
     exact Nat.lt_of_lt_of_le (lt_of_block hh) this
    ·intro j u hj
     have hd : ((L1++L2).map Value.string).drop L1.length=L2.map Value.string :=by simp
     rw [hd]
     have hln :L1.length+L2.length=n :=by rw [←hn',List.length_append]
     have hs1 : ∀k,k<n+1→ ((w.drew.setCells g (0+ (L1.length+1)) (L2.map Value.string)).cell? ⟨g,0+k,none⟩).isSome=true :=fun k hk=>Lib.isSome_setCells g _ _ _ _ (hall k (by omega))
     rcases Nat.lt_trichotomy j L1.length with hj1 | rfl | hj1
     ·rw [World.cell?_setCells_out _ _ _ _ _ (fun _ _=> .inl (by simp;omega)),World.cell?_setCells_out _ _ _ _ _ (fun _ _=> .inl (by simp;omega))]
      refine hcs j u ?_
      rw [List.map_append,List.getElem?_append_left (by simpa using hj1)] at hj⊢
      exact hj
     ·have :=World.cell?_setCells_in g [Value.string x] (0+L1.length) (w.drew.setCells g (0+ (L1.length+1)) (L2.map Value.string)) (fun k hk=>by simp at hk;subst hk;exact hs1 _ (by omega)) 0 (by simp)
      refine this.trans ?_
      rw [List.map_append,List.getElem?_append_right (by simp)] at hj
      simpa using hj
     ·rw [World.cell?_setCells_out _ _ _ _ _ (fun _ _=> .inr (by simp;omega))]
      obtain ⟨d,rfl⟩ : ∃d,j=L1.length+1+d := ⟨j - (L1.length+1),by omega⟩
      rw [List.map_append,List.getElem?_append_right (by simp;omega)] at hj
      simp only [List.length_map,List.map_cons] at hj
      rw [show L1.length+1+d - L1.length=d+1 by omega,List.getElem?_cons_succ] at hj
      have hdl :d< (L2.map Value.string).length := (List.getElem?_eq_some_iff.1 hj).1
      have :=World.cell?_setCells_in g (L2.map Value.string) (0+ (L1.length+1)) w.drew (fun k hk=>by rw [Nat.add_assoc];exact hall _ (by simp at hk;omega)) d hdl
      rw [Nat.add_assoc] at this
      rw [this]
      rw [List.getElem?_eq_getElem hdl] at hj
      exact hj
    ·exact Ji (Q4 (Q5 w _)) (Ji (Et (w :=w.drew) g _ _) (Et g _ _))
   ·have hL2 :L2= [] :=List.eq_nil_of_length_eq_zero (by rw [List.length_append] at hn';omega)
    subst hL2
    rw [List.append_nil] at hn'
    rw [hn']
    refine (Any2.slices_Insert_string_end_room Tryz.laysInsert g 0 n cap vb 0 1 vc [.string x] w (by decide) hroom hm' rfl (fun j hj=>by rw [Nat.add_assoc];exact hall _ (by omega)) (fun j _=>by rw [Nat.add_assoc];exact hfz _) hvs (by simp [Value.oneCell'])).mono ?_
    rintro e w' ⟨rfl,rfl⟩
    refine ⟨_,rfl,⟨by simp, .inr ⟨by omega,g,0,cap,by rw [hxl],Nat.lt_of_lt_of_le (lt_of_block hh) (Et g _ _).size,by omega,hm, ?_⟩⟩,Et g _ _, .inl rfl⟩
    intro j u hj
    rcases Nat.lt_or_ge j n with hj1 | hj1
    ·rw [World.cell?_setCells_out _ _ _ _ _ (fun _ _=> .inl (by simp;omega))]
     refine hcs j u ?_
     rw [List.append_nil]
     rw [List.map_append,List.getElem?_append_left (by simp;omega)] at hj
     exact hj
    ·have hjn :j=n :=by
      have := (List.getElem?_eq_some_iff.1 hj).1
      simp at this;omega
     subst hjn
     have :=World.cell?_setCells_in g [Value.string x] (0+j) w (fun k hk=>by simp at hk;subst hk;exact hall _ (by omega)) 0 (by simp)
     refine this.trans ?_
     rw [List.map_append,List.getElem?_append_right (by simp;omega)] at hj
     simpa [hn'] using hj
  ·have hc1 :cap=n :=by omega
   have hbig : (n+1) *16≤140737488355328 :=by omega
   have hG :grownCap w (n+1) cap 9≤maxLen :=grownCap_le_maxLen w (n+1) cap _ (by unfold maxLen;omega)
   have hGe :=grownCap_ge w (n+1) cap 9
   by_cases hi :L1.length<n
   ·refine (Any2.slices_Insert_string_grow Tryz.laysInsert g 0 n cap L1.length vb 0 1 vc ((L1++L2).map .string) [.string x] w hi (by decide) hn (by omega) hbig (by rw [List.length_map,hn']) rfl hcs hvs (Kr _) (by simp [Value.oneCell'])).mono ?_
    rintro e w' ⟨rfl,rfl⟩
    change grownCap w (n+1) cap 9≤maxLen at hG
    generalize hGd :grownCap w (n+1) cap 9=G at*
    have hGd' :grownCap w (n+1) cap (Go.Shelf.Ren.t Tryz.laysInsert_ren 9) =G :=hGd
    rw [hGd']
    have hd : ((L1++L2).map Value.string).drop L1.length=L2.map Value.string :=by simp
    have ht : ((L1++L2).map Value.string).take L1.length=L1.map Value.string :=by simp
    rw [hd,ht]
    have hln :L1.length+L2.length=n :=by rw [←hn',List.length_append]
    generalize hrow : (L1.map Value.string).toArray++Builtin.zeroCells (Value.string ⟨#[]⟩).cells (n+1 - L1.length) ++Builtin.zeroCells (Value.string ⟨#[]⟩).cells (G - (n+1)) =row
    have hrs :row.size=G :=by
     rw [←hrow,Array.size_append,Array.size_append,G3,G3]
     simp [Value.cells];omega
    have hrt : ∀ (j :Nat) (u :Value),(L1.map Value.string)[j]? =some u→row[j]? =some u :=by
     intro j u hj
     have := (List.getElem?_eq_some_iff.1 hj).1
     rw [←hrow,Array.append_assoc,Array.getElem?_append_left (by simpa using this)]
     simpa using hj
    generalize hW1 : (w.alloc (.cells row (Go.Shelf.Ren.t Tryz.laysInsert_ren 9))).drew=W1
    have hb1 :W1.heap[w.heap.size]? =some (.cells row 9) :=by rw [←hW1];exact Ab w _
    have hbl :Below w.heap.size w W1 :=by rw [←hW1];exact ((Below.refl _ w).alloc (Nat.le_refl _) _).drew
    have hs0 : ∀k,k<G→ (W1.cell? ⟨w.heap.size,k,none⟩).isSome=true :=fun k hk=>by
     rw [Aa hb1 (Array.getElem?_eq_getElem (by omega))];rfl
    have hs1 : ∀k,k<G→ ((W1.setCells w.heap.size L1.length [Value.string x]).drew.cell? ⟨w.heap.size,k,none⟩).isSome=true :=fun k hk=>Lib.isSome_setCells _ _ _ _ _ (hs0 k hk)
    have hblw :Below w.heap.size w (((W1.setCells w.heap.size L1.length [Value.string x]).drew).setCells w.heap.size (L1.length+1) (L2.map Value.string)) :=
     ((hbl.trans (Lib.below_setCells_w (Nat.le_refl _) _ _ W1)).drew).trans (Lib.below_setCells_w (Nat.le_refl _) _ _ _)
    refine ⟨_,rfl,⟨by simp, .inr ⟨by omega,w.heap.size,0,G,by rw [hxl], ?_,by omega,hG, ?_⟩⟩,Pf _ hblw, .inr ⟨_,rfl,Nat.le_refl _⟩⟩
    ·have h1 := (Lib.below_setCells_w (B :=0) (g :=w.heap.size) (Nat.zero_le _) (L2.map Value.string) (L1.length+1) (W1.setCells w.heap.size L1.length [Value.string x]).drew).size
     have h2 := (Lib.below_setCells_w (B :=0) (g :=w.heap.size) (Nat.zero_le _) [Value.string x] L1.length W1).size
     exact Nat.lt_of_lt_of_le (lt_of_block hb1) (Nat.le_trans h2 h1)
    ·intro j u hj
     rw [Nat.zero_add]
     rcases Nat.lt_trichotomy j L1.length with hj1 | rfl | hj1
     ·rw [World.cell?_setCells_out _ _ _ _ _ (fun _ _=> .inl (by simp;omega))]
      show (W1.setCells w.heap.size L1.length [Value.string x]).cell? _=_
      rw [World.cell?_setCells_out _ _ _ _ _ (fun _ _=> .inl (by simp;omega))]
      rw [List.map_append,List.getElem?_append_left (by simpa using hj1)] at hj
      exact Aa hb1 (hrt j u hj)
     ·rw [World.cell?_setCells_out _ _ _ _ _ (fun _ _=> .inl (by simp))]
      show (W1.setCells w.heap.size L1.length [Value.string x]).cell? _=_
      have :=World.cell?_setCells_in w.heap.size [Value.string x] L1.length W1 (fun k hk=>by simp at hk;subst hk;exact hs0 _ (by omega)) 0 (by simp)
      refine this.trans ?_
      rw [List.map_append,List.getElem?_append_right (by simp)] at hj
      simpa using hj
     ·obtain ⟨d,rfl⟩ : ∃d,j=L1.length+1+d := ⟨j - (L1.length+1),by omega⟩
      rw [List.map_append,List.getElem?_append_right (by simp;omega)] at hj
      simp only [List.length_map,List.map_cons] at hj
      rw [show L1.length+1+d - L1.length=d+1 by omega,List.getElem?_cons_succ] at hj
      have hdl :d< (L2.map Value.string).length := (List.getElem?_eq_some_iff.1 hj).1
      have :=World.cell?_setCells_in w.heap.size (L2.map Value.string) (L1.length+1) (W1.setCells w.heap.size L1.length [Value.string x]).drew (fun k hk=>hs1 _ (by simp at hk;omega)) d hdl
      rw [this]
      rw [List.getElem?_eq_getElem hdl] at hj
      exact hj
   ·have hL2 :L2= [] :=List.eq_nil_of_length_eq_zero (by rw [List.length_append] at hn';omega)
    subst hL2
    simp only [List.append_nil] at hn' hcs ho
    rw [hn']
    refine (Any2.slices_Insert_string_end_grow Tryz.laysInsert (some ⟨g,0,none⟩) n cap vb 0 1 vc (L1.map .string) [.string x] w (by decide) hn (by omega) hbig (by rw [List.length_map,hn']) rfl (fun h=>by cases h)
     (fun a ha j u hj=>by cases ha;rw [Addr.add_lit];exact hcs j u hj) hvs (by simp [Value.oneCell'])).mono ?_
    rintro e w' ⟨rfl,rfl⟩
    have hGd' :grownCap w (n+1) cap (Go.Shelf.Ren.t Tryz.laysInsert_ren 9) =grownCap w (n+1) cap 9 :=rfl
    rw [hGd']
    generalize grownCap w (n+1) cap 9=G at*
    have hblw :Below w.heap.size w (w.drew.alloc (.cells ((L1.map Value.string++ [Value.string x]).toArray++Builtin.zeroCells (Value.string ⟨#[]⟩).cells (G - (n+1))) (Go.Shelf.Ren.t Tryz.laysInsert_ren 9))) :=
     ((Below.refl _ w).drew).alloc (Nat.le_refl _) _
    refine ⟨_,rfl,⟨by simp, .inr ⟨by omega,w.heap.size,0,G,by rw [hxl],by simp,by omega,hG, ?_⟩⟩,Pf _ hblw, .inr ⟨_,rfl,Nat.le_refl _⟩⟩
    intro j u hj
    rw [Nat.zero_add]
    refine Aa (Ab w.drew _) ?_
    rw [Array.getElem?_append_left (by have := (List.getElem?_eq_some_iff.1 hj).1;simpa using this)]
    simpa using hj
end Go.Proofs.YthehiijgnepcfaaGreat

attribute [local go_sem↓] Go.wp_at_zero Go.wp_at_succ
namespace Go.Proofs.YthehiijgnepcfaaGreat
open Go.RowKit
theorem Bi.base {w :World} {B B' g cap :Nat} {L :List ByteArray} (h :Bi w B g cap L) (hB :B'≤B) :Bi w B' g cap L :=by
 obtain ⟨h1,h2,h3⟩ :=h
 refine ⟨by omega,h2, ?_⟩
 rcases h3 with h3 | ⟨g',c',cur,e,hg,r⟩
 ·exact .inl h3
 ·exact .inr ⟨g',c',cur,e,by omega,r⟩
theorem Bi.setCell {w :World} {B g cap :Nat} {L :List ByteArray} (h :Bi w B g cap L) {a :Addr} (ha :a.block<B) (u :Value) :Bi (w.setCell a u) B g cap L := ⟨h.1,ownsRow_setCell_below h.2 ha u⟩
theorem Bi.below {w w' :World} {B g cap :Nat} {L :List ByteArray} (h :Bi w B g cap L) (hb :Below w.heap.size w w') :Bi w' B g cap L := ⟨h.1,Ar h.2 hb⟩
theorem Bi.strs {w :World} {B g cap :Nat} {L :List ByteArray} (h :Bi w B g cap L) :Aj w (.slice (some ⟨g,0,none⟩) L.length cap) L :=Dz.of_own h.2
theorem Bi.lt {w :World} {B g cap :Nat} {L :List ByteArray} (h :Bi w B g cap L) :g<w.heap.size := (h.2.lt g rfl).2
set_option maxHeartbeats 2000000 in
theorem Im (p :Pg) (kv vv :Value) (w :World) (hk :Aj w kv p.K) (hv :Aj w vv p.V) (h0 :0<p.K.length) (h8 :p.K.length≤8) (hl :p.V.length=p.K.length) :
  Calls Tryz.prog 97 #[.agg #[kv,vv]] w fun e w'=> ∃g1 c1 g2 c2,e= .returned (.agg #[.slice (some ⟨g1,0,none⟩) p.K.length c1, .slice (some ⟨g2,0,none⟩) p.V.length c2]) ∧Bi w' w.heap.size g1 c1 p.K∧Bi w' w.heap.size g2 c2 p.V∧g1<g2∧Below w.heap.size w w' :=by
 have kc :=fun W (h :Below w.heap.size w W) =>Tn p.K kv W (hk.below h) h0 h8
 have vc :=fun W (h :Below w.heap.size w W) =>Tn p.V vv W (hv.below h) (by omega) (by omega)
 obtain ⟨ka,kcap,rfl⟩ :=hk.shape
 obtain ⟨va,vcap,rfl⟩ :=hv.shape
 have HL :=hid hl
 clear hl hk hv
 generalize hn :p.K.length=n at*
 generalize hm :p.V.length=m at*
 generalize hW0 : (w.alloc (.cells #[.slice ka n kcap, .slice va m vcap] 111)).alloc (.cells #[.slice none 0 0, .slice none 0 0] 111) =W0
 have hB0 :Below w.heap.size w W0 :=by rw [←hW0];exact ((Below.refl _ w).alloc (Nat.le_refl _) _).alloc (by simp) _
 have hs0 :W0.heap.size=w.heap.size+1+1 :=by rw [←hW0];simp
 have c0 :W0.cell? ⟨w.heap.size,0,none⟩ =some (.slice ka n kcap) :=by rw [←hW0];exact Aa (Ac (Ab w _) _) rfl
 have c1 :W0.cell? ⟨w.heap.size,1,none⟩ =some (.slice va m vcap) :=by rw [←hW0];exact Aa (Ac (Ab w _) _) rfl
 have r0 :W0.heap[w.heap.size+1]? =some (.cells #[.slice none 0 0, .slice none 0 0] 111) :=by
  rw [←hW0];have :=Ab (w.alloc (.cells #[.slice ka n kcap, .slice va m vcap] 111)) (.cells #[.slice none 0 0, .slice none 0 0] 111)
  rwa [World.size_alloc] at this
 have q0 :W0.cell? ⟨w.heap.size+1,0,none⟩ =some (.slice none 0 0) :=Aa r0 rfl
 have q1 :W0.cell? ⟨w.heap.size+1,1,none⟩ =some (.slice none 0 0) :=Aa r0 rfl
 have f0 :W0.frozen? ⟨w.heap.size+1,0,none⟩ =false :=by simp [World.frozen?,r0]
 have f1 :W0.frozen? ⟨w.heap.size+1,1,none⟩ =false :=by simp [World.frozen?,r0]
 have hne1 : ∀i j,(⟨w.heap.size+1,i,none⟩ :Addr) ≠ ⟨w.heap.size,j,none⟩ :=fun i j h=>by simp at h
 go_enter Tryz.func97,Tryz.ntmps97
 go_wp2
 clear hW0 r0
 go_region_held3 (fun w'=>w'.cell? ⟨w.heap.size,0,none⟩ =some (.slice ka n kcap) ∧w'.cell? ⟨w.heap.size,1,none⟩ =some (.slice va m vcap))
  (first | exact ⟨(World.cell?_setCell_other _ _ _ _ (hne1 _ _)).trans ((World.cell?_setCell_other _ _ _ _ (hne1 _ _)).trans s02),(World.cell?_setCell_other _ _ _ _ (hne1 _ _)).trans ((World.cell?_setCell_other _ _ _ _ (hne1 _ _)).trans s12)⟩ | exact ⟨s02,s12⟩ | exact ⟨s01,s11⟩ | exact ⟨c0,c1⟩)
  (first
   | (go_at_call_of 137 (Value.slice ka n kcap);refine (kc _ hB0.drew).mono ?_;rintro e w1 ⟨g1,k1,rfl,ho1,hb1⟩;obtain ⟨hcc,hff⟩ :=C9 hb1;have hA :w.heap.size<W0.drew.heap.size := (by show _<W0.heap.size;omega);have hA' :w.heap.size+1<W0.drew.heap.size := (by show _<W0.heap.size;omega);have hz1 :=hB0.drew.trans (hb1.mono (show w.heap.size≤W0.drew.heap.size from hB0.size));have q01 := (hcc _ _ hA').trans q0;have q11 := (hcc _ _ hA').trans q1;have f01 := (hff _ _ hA').trans f0;have f11 := (hff _ _ hA').trans f1;have s01 := (hcc _ _ hA).trans c0;have s11 := (hcc _ _ hA).trans c1)
   | (go_at_call_of 137 (Value.slice va m vcap);refine (vc _ hz1).mono ?_;rintro e w2 ⟨g2,k2,rfl,ho2,hb2⟩;obtain ⟨hcc,hff⟩ :=C9 hb2;replace hA :=Nat.lt_of_lt_of_le hA hb1.size;replace hA' :=Nat.lt_of_lt_of_le hA' hb1.size;have q02 := (hcc _ _ hA').trans q01;have q12 := (hcc _ _ hA').trans q11;have f02 := (hff _ _ hA').trans f01;have f12 := (hff _ _ hA').trans f11;have s02 := (hcc _ _ hA).trans s01;have s12 := (hcc _ _ hA).trans s11))
 go_wp2
 have hz2 :Below w.heap.size w w2 :=hz1.trans (hb2.mono hz1.size)
 have hbw :w.heap.size+2≤W0.drew.heap.size := (by show _≤W0.heap.size;omega)
 refine bodyPost_ret (v := .agg #[.slice (some ⟨g1,0,none⟩) n k1, .slice (some ⟨g2,0,none⟩) m k2]) (by simp [results,Tryz.results97,go_sem, *]) rfl ?_
 refine ⟨g1,k1,g2,k2,rfl, ?_, ?_,Nat.lt_of_lt_of_le ho1.lt ho2.1, ?_⟩
 ·exact (((ho1.below hb2).setCell (by simp only;omega) _).setCell (by simp only;omega) _).base (by omega)
 ·have :=hb1.size
  exact ((ho2.setCell (by simp only;omega) _).setCell (by simp only;omega) _).base (by omega)
 ·exact (hz2.setCell (by simp) _).setCell (by simp) _
end Go.Proofs.YthehiijgnepcfaaGreat

