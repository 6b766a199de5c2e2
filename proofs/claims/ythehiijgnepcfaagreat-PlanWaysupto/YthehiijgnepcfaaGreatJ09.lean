/-
  2 texts of this proof in one, in build order: TPut, TPutEnd.
-/
import Derived.Deep.Cut
import Derived.Deep.DeepCutAuto
import Derived.Deep.DeepFit
import Derived.Test.YthehiijgnepcfaaGreatJ04
set_option linter.unusedSimpArgs false
set_option linter.unusedVariables false
attribute [local go_sem↓] Go.wp_at_zero Go.wp_at_succ
namespace Go.Proofs.YthehiijgnepcfaaGreat
open Go.RowKit
theorem Aw.shape {w :World} {sv :Value} {T :List Pg} (h :Aw w sv T) : ∃ao c,sv= .slice ao T.length c :=by
 obtain ⟨rows,h1,_⟩ :=h;exact h1.shape
theorem Aw.grown {w0 w w' :World} {sv :Value} {T :List Pg} {r :Nat} (h :Aw w0 sv T) (hb :Below w0.heap.size w0 w) (hg :w.grownBy w' (some r)) (hr :w0.heap.size≤r) :Aw w' sv T :=
 h.below (hb.grown hg hb.size (fun k hk=>by cases hk;exact hr))
theorem Bi.block {w :World} {B g cap :Nat} {L :List ByteArray} (h :Bi w B g cap L) : ∃cur,w.heap[g]? =some (.cells cur 9) ∧L.length≤cap∧cap≤maxLen∧cur.size=cap :=by
 rcases h.2.2 with ⟨h1,_⟩ | ⟨g',c',cur,e,_,hh,hn,hm,hs,_⟩
 ·cases h1
 ·simp only [Value.slice.injEq,Option.some.injEq,Addr.mk.injEq] at e
  obtain ⟨⟨rfl,_⟩,_,rfl⟩ :=e
  exact ⟨cur,hh,hn,hm,by omega⟩
theorem Bi.grown {w w' :World} {B g cap r :Nat} {L :List ByteArray} (h :Bi w B g cap L) (hg :w.grownBy w' (some r)) (hne :g≠r) :Bi w' B g cap L :=by
 obtain ⟨h1,h2,h3⟩ :=h
 refine ⟨h1,h2, ?_⟩
 rcases h3 with h3 | ⟨g',c',cur,e,hg',hh,rest⟩
 ·exact .inl h3
 ·have e' :=e
  simp only [Value.slice.injEq,Option.some.injEq,Addr.mk.injEq] at e'
  obtain ⟨⟨rfl,_⟩,_⟩ :=e'
  exact .inr ⟨g,c',cur,e,hg',(hg.block g (lt_of_block hh) (by simpa using hne)).trans hh,rest⟩
theorem Bi.alloc {w :World} {B g cap :Nat} {L :List ByteArray} (h :Bi w B g cap L) (o :Obj) :Bi (w.alloc o) B g cap L :=h.below ((Below.refl _ _).alloc (Nat.le_refl _) o)
theorem Bi.setOther {w :World} {B g cap :Nat} {L :List ByteArray} (h :Bi w B g cap L) {q i :Nat} (hne :g≠q) (u :Value) :Bi (w.setCell ⟨q,i,none⟩ u) B g cap L :=by
 refine h.grown (r :=q) ?_ hne
 have hb := (Below.refl 0 w).setCell (p := ⟨q,i,none⟩) (Nat.zero_le _) u
 exact ⟨hb.os,hb.tape,hb.output,hb.size,fun k hk hne=>Below.heap_setCell w ⟨q,i,none⟩ u k (fun e=>hne (by rw [e]))⟩
theorem Co {w :World} {sv :Value} {L :List ByteArray} (h :Aj w sv L) {q i :Nat} (hne :sv.ownBlock≠some q) (u :Value) :Aj (w.setCell ⟨q,i,none⟩ u) sv L :=L0 h u hne
theorem Aho {w :World} {B g cap i :Nat} {L :List ByteArray} {x :ByteArray} (h :Bi w B g cap L) (hx :L[i]? =some x) :w.cell? ⟨g,i,none⟩ =some (.string x) :=by
 have hs :=h.strs
 obtain ⟨b,off,c,e,hb,hc,hm,hcell⟩ :=hs.at (by have := (List.getElem?_eq_some_iff.1 hx).1;omega)
 simp only [Value.slice.injEq,Option.some.injEq,Addr.mk.injEq] at e
 obtain ⟨⟨rfl,rfl,_⟩,_,rfl⟩ :=e
 have :=hcell i x hx
 rwa [Nat.zero_add] at this
theorem Bi.set {w :World} {B g cap :Nat} {V1 V3 :List ByteArray} {y :ByteArray} (h :Bi w B g cap (V1++y ::V3)) (v :ByteArray) :Aj (w.setCell ⟨g,V1.length,none⟩ (.string v)) (.slice (some ⟨g,0,none⟩) (V1++y ::V3).length cap) (V1++v ::V3) :=by
 have hs :=h.strs
 have hl : (V1++v ::V3).length= (V1++y ::V3).length :=by simp
 obtain ⟨b,off,c,e,hb,hc,hm,hcell⟩ :=hs.at (by simp<;>omega)
 simp only [Value.slice.injEq,Option.some.injEq,Addr.mk.injEq] at e
 obtain ⟨⟨rfl,rfl,_⟩,_,rfl⟩ :=e
 refine ⟨by simp, .inr ⟨by simp<;>omega,g,0,cap,by rw [hl], ?_,by omega,hm,fun j u hj=> ?_⟩⟩
 ·exact Nat.lt_of_lt_of_le hb ((Below.refl 0 w).setCell (p := ⟨g,V1.length,none⟩) (Nat.zero_le _) _).size
 ·rw [Nat.zero_add]
  by_cases hjv :j=V1.length
  ·subst hjv
   have hu :u= .string v :=by simpa using hj.symm
   rw [hu]
   exact World.cell?_setCell_same _ _ _ (by have :=hcell V1.length y (by simp);rwa [Nat.zero_add] at this)
  ·rw [World.cell?_setCell_other _ _ _ _ (by intro e;simp only [Addr.mk.injEq] at e;omega)]
   have hj2 : ((V1++y ::V3).map Value.string)[j]? =some u :=by
    rw [List.getElem?_map] at hj⊢
    rw [←hj]
    congr 1
    rcases Nat.lt_or_ge j V1.length with h1 | h1
    ·rw [List.getElem?_append_left h1,List.getElem?_append_left h1]
    ·rw [List.getElem?_append_right h1,List.getElem?_append_right h1]
     obtain ⟨d,hd⟩ : ∃d,j - V1.length=d+1 := ⟨j - V1.length - 1,by omega⟩
     rw [hd,List.getElem?_cons_succ,List.getElem?_cons_succ]
   rw [List.getElem?_map] at hj2
   cases hx : (V1++y ::V3)[j]? with
   | none=>rw [hx] at hj2;cases hj2
   | some s=>
    rw [hx] at hj2
    have :=hcell j s hx
    rw [Nat.zero_add] at this
    rw [this]
    exact hj2
set_option maxHeartbeats 4000000 in
theorem Ab7 (A B :List Pg) (p :Pg) (K1 K3 V1 V3 :List ByteArray) (y k v :ByteArray) (tv :Value) (w :World) (h :A5 w tv (A++p ::B)) (hg :Ap (A++p ::B)) (hK :p.K.length=K1.length+1+K3.length) (hV :p.V=V1++y ::V3) (hl :V1.length=K1.length)
  (fi :Lz (A++p ::B) k A.length K1.length true) (hn : ((A++p ::B).length+1) *48≤140737488355328) :
  Calls Tryz.prog 51 #[tv, .string k, .string v] w fun e w'=> ∃tv',e= .returned tv'∧A5 w' tv' (A++ [⟨p.K,V1++v ::V3⟩] ++B) ∧Below w.heap.size w w' :=by
 have gc :=fun W (hW :Below w.heap.size w W) =>Gp (A++p ::B) tv W (h.below hW) hg
 have fc :=fun W (hW :Below w.heap.size w W) =>fi tv W (h.below hW)
 have ht0 :=h
 obtain ⟨sv,rfl,hs⟩ :=h
 have hpi : (A++p ::B)[A.length]? =some p :=by simp
 obtain ⟨b,off,cap,rfl,hbl,hcap,hcm,hT⟩ :=hs.at (by simp<;>omega)
 obtain ⟨kv,vv,c0,c1,hk,hv⟩ :=hT _ p hpi
 have hpk :=hg.1 p (by simp)
 have cp :=fun W (hW :Below w.heap.size w W) =>Im p kv vv W (hk.below hW) (hv.below hW) (by have :=hpk.1;omega) (by have :=hpk.2.1;omega) hpk.2.2
 obtain ⟨ka,kc,rfl⟩ :=hk.shape
 obtain ⟨va,vc,rfl⟩ :=hv.shape
 have hlt :A.length< (A++p ::B).length :=by simp
 have hlB : (A++p ::B).length=A.length+1+B.length :=by simp;omega
 generalize hW0 : (w.alloc (.cells #[.slice (some ⟨b,off,none⟩) (A++p ::B).length cap] 48)).alloc (.cells #[.slice none 0 0] 48) =W0
 have hB0 :Below w.heap.size w W0 :=by rw [←hW0];exact ((Below.refl _ w).alloc (Nat.le_refl _) _).alloc (by simp) _
 have hs0 :W0.heap.size=w.heap.size+1+1 :=by rw [←hW0];simp
 have b0 :W0.heap[w.heap.size]? =some (.cells #[.slice (some ⟨b,off,none⟩) (A++p ::B).length cap] 48) :=by rw [←hW0];exact Ac (Ab w _) _
 have r0 :W0.heap[w.heap.size+1]? =some (.cells #[.slice none 0 0] 48) :=by
  rw [←hW0];have :=Ab (w.alloc (.cells #[.slice (some ⟨b,off,none⟩) (A++p ::B).length cap] 48)) (.cells #[.slice none 0 0] 48)
  rwa [World.size_alloc] at this
 have cb0 :=Aa b0 (j :=0) rfl
 have hA :w.heap.size<W0.heap.size :=by omega
 have hA' :w.heap.size+1<W0.heap.size :=by omega
 have g0 :=gc _ hB0
 have rp :=fun W pv (hW :Below w.heap.size w W) (hp :Aw W pv [⟨p.K,V1++v ::V3⟩]) =>Ks A [p] B [⟨p.K,V1++v ::V3⟩] _ pv (A.length+1) W (ht0.below hW) hp (by simp) (by simp) (by simp only [List.length_cons,List.length_nil];omega)
 have hvl :p.V.length=V1.length+1+V3.length :=by rw [hV];simp;omega
 have HV :=hid hV
 have HL :=hid hl
 clear hV hT hs gc fi hg ht0 hk hv hpi hcap hK
 generalize hres :A++ [⟨p.K,V1++v ::V3⟩] ++B=R at*
 have hrl :R.length≤ (A++p ::B).length :=by rw [←hres];simp<;>omega
 generalize hal :A.length=a at*
 generalize hnl : (A++p ::B).length=n at*
 rw [←hl] at fc
 generalize hkl :V1.length=pl at*
 generalize hpl :p.K.length=m at*
 generalize hml :p.V.length=mv at*
 unfold maxLen at hcm
 have i0 : (0 :Int) ≤ (a :Int) :=by omega
 have i1 : (a :Int) < (n :Int) :=by omega
 have i2 : ¬ ((n :Int) =0) :=by omega
 have i3 : ¬ ((a :Int) = (n :Int)) :=by omega
 have i4 : (0 :Int) ≤ (pl :Int) :=by omega
 have i5 : (pl :Int) < (mv :Int) :=by omega
 have i6 :IntKind.i64.wrap ((a :Int) +1) = ((a+1 :Nat) :Int) :=by rw [IntKind.wrap_i64];omega
 have hplv :pl<mv :=by omega
 have HR :=hid hres
 have HLs :=hid (And.intro hal (And.intro hnl (And.intro hkl (And.intro hpl hml))))
 clear hlB hvl hres hal hnl hkl hpl hml hl hn hlt hrl
 go_enter Tryz.func51,Tryz.ntmps51
 go_upto_region 11 with (first
  | (go_at_call 55;go_must (refine g0.mono ?_;rintro e w1 ⟨rfl,hb1⟩;have cb1 := (hb1.cell (p := ⟨w.heap.size,0,none⟩) hA).trans cb0;have hbz :=hB0.trans (hb1.mono hB0.size);have hZ1 :=Nat.lt_of_lt_of_le hA hb1.size;have hZ1' :=Nat.lt_of_lt_of_le hA' hb1.size;have r1 := (hb1.block _ hA').trans r0))
  | (go_at_call 56;go_must (refine (fc _ hbz).mono ?_;rintro e w2 ⟨rfl,hb2⟩;have cb2 := (hb2.cell (p := ⟨w.heap.size,0,none⟩) hZ1).trans cb1;have hbz2 :=hbz.trans (hb2.mono hbz.size);have c02 := (hbz2.cell (p := ⟨b,off+a*2,none⟩) hbl).trans c0;have c12 := (hbz2.cell (p := ⟨b,off+a*2+1,none⟩) hbl).trans c1;have hZ2 :=Nat.lt_of_lt_of_le hZ1 hb2.size;have hZ2' :=Nat.lt_of_lt_of_le hZ1' hb2.size;have r2 := (hb2.block _ hZ1').trans r1))
  | (go_at_call 97;go_must (refine (cp _ hbz2).mono ?_;rintro e w3 ⟨g1,d1,g2,d2,rfl,ho1,ho2,hgg,hb3⟩;have cb3 := (hb3.cell (p := ⟨w.heap.size,0,none⟩) hZ2).trans cb2;have hbz3 :=hbz2.trans (hb3.mono hbz2.size);have hZ3 :=Nat.lt_of_lt_of_le hZ2 hb3.size;have hZ3' :=Nat.lt_of_lt_of_le hZ2' hb3.size;have r3 := (hb3.block _ hZ2').trans r2;obtain ⟨cur,hcur,hcv,hcx,hcz⟩ :=ho2.block;have hg2lt :=ho2.lt;have cset :w3.cell? ⟨g2,pl,none⟩ =some (.string y) :=Aho ho2 (by rw [HV.out,←HLs.out.2.2.1];simp);have fset :w3.frozen? ⟨g2,pl,none⟩ =false := (by simp [World.frozen?,hcur]))))
 obtain ⟨W4,hW4⟩ : ∃W4,w3.setCell ⟨g2,pl,none⟩ (.string v) =W4 := ⟨_,rfl⟩
 have hg2B :w.heap.size+1<g2 :=Nat.lt_of_lt_of_le hZ2' (Nat.le_trans (Nat.le_refl _) ho2.1)
 have hz4 :Below w.heap.size w W4 :=by rw [←hW4];exact hbz3.setCell (by simp only;omega) _
 have hsz4 :W4.heap.size=w3.heap.size :=by rw [←hW4];simp [World.setCell]
 have cb4 :W4.cell? ⟨w.heap.size,0,none⟩ =some (.slice (some ⟨b,off,none⟩) n cap) :=by rw [←hW4,World.cell?_setCell_other _ _ _ _ (by intro e;simp only [Addr.mk.injEq] at e;omega)];exact cb3
 have r4 :W4.heap[w.heap.size+1]? =some (.cells #[.slice none 0 0] 48) :=by rw [←hW4,Below.heap_setCell _ _ _ _ (by simp only;omega)];exact r3
 have hk4 :Aj W4 (.slice (some ⟨g1,0,none⟩) m d1) p.K :=by
  have :=ho1.setOther (q :=g2) (i :=pl) (by omega) (.string v)
  rw [hW4] at this
  have h :=this.strs
  rw [HLs.out.2.2.2.1] at h
  exact h
 have hv4 :Aj W4 (.slice (some ⟨g2,0,none⟩) mv d2) (V1++v ::V3) :=by
  have h :=ho2
  rw [HV.out] at h
  have :=h.set v
  rw [HLs.out.2.2.1,hW4,←HV.out,HLs.out.2.2.2.2] at this
  exact this
 obtain ⟨W4a,hW4a⟩ : ∃W4a,W4.alloc (.cells #[.slice (some ⟨g1,0,none⟩) m d1, .slice (some ⟨g2,0,none⟩) mv d2] 111) =W4a := ⟨_,rfl⟩
 have hz4a :Below W4.heap.size W4 W4a :=by rw [←hW4a];exact (Below.refl _ _).alloc (Nat.le_refl _) _
 have hsz4a :W4a.heap.size=w3.heap.size+1 :=by rw [←hW4a,World.size_alloc,hsz4]
 have b4a :W4a.heap[w3.heap.size]? =some (.cells #[.slice (some ⟨g1,0,none⟩) m d1, .slice (some ⟨g2,0,none⟩) mv d2] 111) :=by rw [←hW4a,←hsz4];exact Ab W4 _
 have cb4a :W4a.cell? ⟨w.heap.size,0,none⟩ =some (.slice (some ⟨b,off,none⟩) n cap) := (hz4a.cell (p := ⟨w.heap.size,0,none⟩) (by simp only;omega)).trans cb4
 have pv0 :W4a.cell? ⟨w3.heap.size,0,none⟩ =some (.slice (some ⟨g1,0,none⟩) m d1) :=Aa b4a rfl
 have pv1 :W4a.cell? ⟨w3.heap.size,1,none⟩ =some (.slice (some ⟨g2,0,none⟩) mv d2) :=Aa b4a rfl
 obtain ⟨W5,hW5⟩ : ∃W5,W4a.alloc (.cells #[.slice (some ⟨g1,0,none⟩) m d1, .slice (some ⟨g2,0,none⟩) mv d2] 111) =W5 := ⟨_,rfl⟩
 have hz5 :Below W4.heap.size W4 W5 :=by rw [←hW5];exact hz4a.alloc hz4a.size _
 have b5 :W5.heap[w3.heap.size+1]? =some (.cells #[.slice (some ⟨g1,0,none⟩) m d1, .slice (some ⟨g2,0,none⟩) mv d2] 111) :=by rw [←hW5,←hsz4a];exact Ab W4a _
 have hz45 :Below w.heap.size w W5 :=hz4.trans (hz5.mono hz4.size)
 have rw5 :=rp W5 (.slice (some ⟨w3.heap.size+1,0,none⟩) 1 1) hz45 (Ns b5 (hk4.below hz5) (hv4.below hz5) (by decide) (by decide))
 have hlast :w.heap.size+1<W4.heap.size :=by rw [hsz4];exact hZ3'
 have r5 := (hz5.block _ hlast).trans r4
 have hlast5 :=Nat.lt_of_lt_of_le hlast hz5.size
 clear cb3 r3 hk4 hv4 cp fc rp g0
 subst hW5
 subst hW4a
 subst hW4
 go_wp2_with (go_at_call 98;go_must (refine rw5.mono ?_;rintro e w6 ⟨tv',rfl,⟨sv',rfl,hP⟩,hb6⟩;obtain ⟨ao,cc,rfl⟩ :=hP.shape;have r6 := (hb6.block _ hlast5).trans r5;have q6 :=Aa r6 (j :=0) rfl;have f6 :w6.frozen? ⟨w.heap.size+1,0,none⟩ =false := (by simp [World.frozen?,r6])))
 refine bodyPost_ret (v := .agg #[.slice ao R.length cc]) (by simp [results,Tryz.results51,go_sem, *]) rfl ?_
 have hz :Below w.heap.size w w6 :=hz45.trans (hb6.mono hz45.size)
 exact ⟨_,rfl,⟨_,rfl,Gq hP r6 _⟩,hz.setCell (by simp) _⟩
theorem Gf {w :World} {sv :Value} {L :List ByteArray} (h :Aj w sv L) (h0 :0<L.length) {q :Nat} {ao bo :Option Addr} {n m c d :Nat} {t :TypeId} (hb :w.heap[q]? =some (.cells #[.slice ao n c, .slice bo m d] t)) :sv.ownBlock≠some q :=by
 obtain ⟨b,off,cap,rfl,_,_,_,hc⟩ :=h.at h0
 intro e
 obtain rfl :b=q :=by simpa [Value.ownBlock] using e
 obtain ⟨x,hx⟩ : ∃x,L[0]? =some x := ⟨_,List.getElem?_eq_getElem h0⟩
 have :=hc 0 x hx
 simp only [World.cell?,hb,Nat.add_zero] at this
 match off,this with
 | 0,this=>simp at this
 | 1,this=>simp at this
 | k+2,this=>simp at this
def Aad (ao :Option Addr) (n c g :Nat) :Prop := (Value.slice ao n c).ownBlock≠some g
theorem Ic {w :World} {q :Nat} {arr :Array Value} {t :TypeId} (hb :w.heap[q]? =some (.cells arr t)) (i :Nat) (v :Value) : (w.setCell ⟨q,i,none⟩ v).heap[q]? =some (.cells (arr.setIfInBounds i v) t) :=by
 simp [World.setCell,Array.getElem?_modify,hb]
set_option maxHeartbeats 4000000 in
theorem Aae (A B :List Pg) (p :Pg) (K1 K2 V1 V2 :List ByteArray) (k v :ByteArray) (tv :Value) (w :World) (h :A5 w tv (A++p ::B)) (hg :Ap (A++p ::B)) (hK :p.K=K1++K2) (hV :p.V=V1++V2) (hl :V1.length=K1.length)
  (fi :Lz (A++p ::B) k A.length K1.length false) (hn : ((A++p ::B).length+1) *48≤140737488355328) :
  Calls Tryz.prog 51 #[tv, .string k, .string v] w fun e w'=> ∃tv',e= .returned tv'∧A5 w' tv' (A++Cx ⟨K1++k ::K2,V1++v ::V2⟩ ++B) ∧Below w.heap.size w w' :=by
 have gc :=fun W (hW :Below w.heap.size w W) =>Gp (A++p ::B) tv W (h.below hW) hg
 have fc :=fun W (hW :Below w.heap.size w W) =>fi tv W (h.below hW)
 have ht0 :=h
 obtain ⟨sv,rfl,hs⟩ :=h
 have hpi : (A++p ::B)[A.length]? =some p :=by simp
 obtain ⟨b,off,cap,rfl,hbl,hcap,hcm,hT⟩ :=hs.at (by simp<;>omega)
 obtain ⟨kv,vv,c0,c1,hk,hv⟩ :=hT _ p hpi
 have hpk :=hg.1 p (by simp)
 have cp :=fun W (hW :Below w.heap.size w W) =>Im p kv vv W (hk.below hW) (hv.below hW) (by have :=hpk.1;omega) (by have :=hpk.2.1;omega) hpk.2.2
 obtain ⟨ka,kc,rfl⟩ :=hk.shape
 obtain ⟨va,vc,rfl⟩ :=hv.shape
 have hlt :A.length< (A++p ::B).length :=by simp
 have hlB : (A++p ::B).length=A.length+1+B.length :=by simp;omega
 generalize hW0 : (w.alloc (.cells #[.slice (some ⟨b,off,none⟩) (A++p ::B).length cap] 48)).alloc (.cells #[.slice none 0 0] 48) =W0
 have hB0 :Below w.heap.size w W0 :=by rw [←hW0];exact ((Below.refl _ w).alloc (Nat.le_refl _) _).alloc (by simp) _
 have hs0 :W0.heap.size=w.heap.size+1+1 :=by rw [←hW0];simp
 have b0 :W0.heap[w.heap.size]? =some (.cells #[.slice (some ⟨b,off,none⟩) (A++p ::B).length cap] 48) :=by rw [←hW0];exact Ac (Ab w _) _
 have r0 :W0.heap[w.heap.size+1]? =some (.cells #[.slice none 0 0] 48) :=by
  rw [←hW0];have :=Ab (w.alloc (.cells #[.slice (some ⟨b,off,none⟩) (A++p ::B).length cap] 48)) (.cells #[.slice none 0 0] 48)
  rwa [World.size_alloc] at this
 have cb0 :=Aa b0 (j :=0) rfl
 have hA :w.heap.size<W0.heap.size :=by omega
 have hA' :w.heap.size+1<W0.heap.size :=by omega
 have g0 :=gc _ hB0
 have hPl : (Cx ⟨K1++k ::K2,V1++v ::V2⟩).length≤2 :=by unfold Cx;split<;>simp
 have rp :=fun W pv (hW :Below w.heap.size w W) (hp :Aw W pv (Cx ⟨K1++k ::K2,V1++v ::V2⟩)) =>Ks A [p] B (Cx ⟨K1++k ::K2,V1++v ::V2⟩) _ pv (A.length+1) W (ht0.below hW) hp (by simp) (by simp) (by omega)
 have hvk :=hpk.2.2
 have HV :=hid hV
 have HK :=hid hK
 have HL :=hid hl
 clear hV hK hT hs gc fi hg ht0 hk hv hpi hcap
 generalize hHf :Cx ⟨K1++k ::K2,V1++v ::V2⟩ =HP at*
 generalize hres :A++HP++B=R at*
 generalize hal :A.length=a at*
 generalize hnl : (A++p ::B).length=n at*
 rw [←hl] at fc
 generalize hkl :V1.length=pl at*
 generalize hpl :p.K.length=m at*
 generalize hml :p.V.length=mv at*
 unfold maxLen at hcm
 have i0 : (0 :Int) ≤ (a :Int) :=by omega
 have i1 : (a :Int) < (n :Int) :=by omega
 have i2 : ¬ ((n :Int) =0) :=by omega
 have i3 : ¬ ((a :Int) = (n :Int)) :=by omega
 have i4 : (0 :Int) ≤ (pl :Int) :=by omega
 have i6 :IntKind.i64.wrap ((a :Int) +1) = ((a+1 :Nat) :Int) :=by rw [IntKind.wrap_i64];omega
 have HPL :=hid hkl
 have HVK :=hid hvk
 have HR :=hid hres
 have HLs :=hid (And.intro hal (And.intro hnl (And.intro hl (And.intro hpl hml))))
 clear hlB hres hal hnl hpl hml hn hlt hvk hPl hkl hl
 go_enter Tryz.func51,Tryz.ntmps51
 go_upto_region 13 with (first
  | (go_at_call 55;go_must (refine g0.mono ?_;rintro e w1 ⟨rfl,hb1⟩;have cb1 := (hb1.cell (p := ⟨w.heap.size,0,none⟩) hA).trans cb0;have hbz :=hB0.trans (hb1.mono hB0.size);have hZ1 :=Nat.lt_of_lt_of_le hA hb1.size;have hZ1' :=Nat.lt_of_lt_of_le hA' hb1.size;have bb1 := (hb1.block _ hA).trans b0;have r1 := (hb1.block _ hA').trans r0))
  | (go_at_call 56;go_must (refine (fc _ hbz).mono ?_;rintro e w2 ⟨rfl,hb2⟩;have cb2 := (hb2.cell (p := ⟨w.heap.size,0,none⟩) hZ1).trans cb1;have hbz2 :=hbz.trans (hb2.mono hbz.size);have c02 := (hbz2.cell (p := ⟨b,off+a*2,none⟩) hbl).trans c0;have c12 := (hbz2.cell (p := ⟨b,off+a*2+1,none⟩) hbl).trans c1;have hZ2 :=Nat.lt_of_lt_of_le hZ1 hb2.size;have hZ2' :=Nat.lt_of_lt_of_le hZ1' hb2.size;have bb2 := (hb2.block _ hZ1).trans bb1;have r2 := (hb2.block _ hZ1').trans r1))
  | (go_at_call 97;go_must (refine (cp _ hbz2).mono ?_;rintro e w3 ⟨g1,d1,g2,d2,rfl,ho1,ho2,hgg,hb3⟩;have cb3 := (hb3.cell (p := ⟨w.heap.size,0,none⟩) hZ2).trans cb2;have hbz3 :=hbz2.trans (hb3.mono hbz2.size);have hZ3 :=Nat.lt_of_lt_of_le hZ2 hb3.size;have hZ3' :=Nat.lt_of_lt_of_le hZ2' hb3.size;have bb3 := (hb3.block _ hZ2).trans bb2;have r3 := (hb3.block _ hZ2').trans r2)))
 have hg1B :w.heap.size+1<g1 :=Nat.lt_of_lt_of_le hZ2' ho1.1
 have hg1l :=ho1.lt
 have hg2l :=ho2.lt
 obtain ⟨X1,hX1⟩ : ∃X1,(w3.alloc (.cells #[.slice (some ⟨g1,0,none⟩) m d1, .slice (some ⟨g2,0,none⟩) mv d2] 111)).alloc (.cells #[.string k] 9) =X1 := ⟨_,rfl⟩
 have hx1 :Below w3.heap.size w3 X1 :=by rw [←hX1];exact ((Below.refl _ _).alloc (Nat.le_refl _) _).alloc (by simp) _
 have hxs :X1.heap.size=w3.heap.size+1+1 :=by rw [←hX1];simp
 have xq :X1.heap[w3.heap.size]? =some (.cells #[.slice (some ⟨g1,0,none⟩) m d1, .slice (some ⟨g2,0,none⟩) mv d2] 111) :=by rw [←hX1];exact Ac (Ab w3 _) _
 have xk :X1.heap[w3.heap.size+1]? =some (.cells #[.string k] 9) :=by
  rw [←hX1];have :=Ab (w3.alloc (.cells #[.slice (some ⟨g1,0,none⟩) m d1, .slice (some ⟨g2,0,none⟩) mv d2] 111)) (.cells #[.string k] 9)
  rwa [World.size_alloc] at this
 have oK :Bi X1 w2.heap.size g1 d1 (K1++K2) :=by have :=ho1.below hx1;rwa [HK.out] at this
 have oV :Bi X1 w2.heap.size g2 d2 (V1++V2) :=by have :=ho2.below hx1;rwa [HV.out] at this
 have hm1 : (K1++K2).length=m :=by rw [←HK.out];exact HLs.out.2.2.2.1
 have hm2 : (V1++V2).length=mv :=by rw [←HV.out];exact HLs.out.2.2.2.2
 have in1 :=J6 K1 K2 k (.slice (some ⟨g1,0,none⟩) (K1++K2).length d1) w2.heap.size (w3.heap.size+1) 1 X1 oK.2 (by have :=hpk.1;rw [HK.out] at this;omega) (by have :=hpk.2.1;rw [HK.out] at this;omega) xk (by simp [Value.ownBlock];omega)
 rw [hm1,←HLs.out.2.2.1] at in1
 have HM3 :=hid (show (K1++k ::K2).length=m+1 by rw [←hm1];simp<;>omega)
 have HM4 :=hid (show (V1++v ::V2).length=mv+1 by rw [←hm2];simp<;>omega)
 have HM1 :=hid hm1
 have HM2 :=hid hm2
 clear hm1 hm2
 have bbx := (hx1.block _ hZ3).trans bb3
 have rx := (hx1.block _ hZ3').trans r3
 clear cb3
 go_upto_region 14 with (go_at_call 99;go_must (go_fit in1;rintro e w4 ⟨v1,rfl,hs1,gr1,own1⟩;obtain ⟨ao1,cc1,e1⟩ :=hs1.shape;rw [HM3.out] at e1;subst e1;have q4 :w4.heap[w3.heap.size]? =some (.cells #[.slice (some ⟨g1,0,none⟩) m d1, .slice (some ⟨g2,0,none⟩) mv d2] 111) := (gr1.block _ (by omega) (by simp [Value.ownBlock];omega)).trans xq;have q40 :=Aa q4 (j :=0) rfl;have f40 :w4.frozen? ⟨w3.heap.size,0,none⟩ =false := (by simp [World.frozen?,q4])))
 have bb4 :w4.heap[w.heap.size]? =some (.cells #[.slice (some ⟨b,off,none⟩) n cap] 48) := (gr1.block _ (by omega) (by simp [Value.ownBlock];omega)).trans bbx
 have r4 :w4.heap[w.heap.size+1]? =some (.cells #[.slice none 0 0] 48) := (gr1.block _ (by omega) (by simp [Value.ownBlock];omega)).trans rx
 have oV4 :Bi w4 w2.heap.size g2 d2 (V1++V2) :=oV.grown (r :=g1) gr1 (by omega)
 obtain ⟨Y,hY⟩ : ∃Y,w4.setCell ⟨w3.heap.size,0,none⟩ (.slice ao1 (m+1) cc1) =Y := ⟨_,rfl⟩
 have yq :Y.heap[w3.heap.size]? =some (.cells #[.slice ao1 (m+1) cc1, .slice (some ⟨g2,0,none⟩) mv d2] 111) :=by rw [←hY];exact Ic q4 0 _
 have yb :Y.heap[w.heap.size]? =some (.cells #[.slice (some ⟨b,off,none⟩) n cap] 48) :=by rw [←hY,Below.heap_setCell _ _ _ _ (by simp only;omega)];exact bb4
 have yr :Y.heap[w.heap.size+1]? =some (.cells #[.slice none 0 0] 48) :=by rw [←hY,Below.heap_setCell _ _ _ _ (by simp only;omega)];exact r4
 have ysz :Y.heap.size=w4.heap.size :=by rw [←hY];simp [World.setCell]
 have oVY :Bi Y w2.heap.size g2 d2 (V1++V2) :=by rw [←hY];exact oV4.setOther (by omega) _
 have hs1Y :Aj Y (.slice ao1 (m+1) cc1) (K1++k ::K2) :=by rw [←hY];exact Co hs1 (Gf hs1 (by rw [HM3.out];omega) q4) _
 have w4sz :=gr1.size
 have hzY :Below w.heap.size w Y :=by
  have hzx :Below w.heap.size w X1 :=hbz3.trans (hx1.mono hbz3.size)
  have hz4 :Below w.heap.size w w4 :=hzx.grown gr1 hzx.size (fun j hj=>by simp [Value.ownBlock] at hj;omega)
  rw [←hY];exact hz4.setCell (by simp only;omega) _
 have hb2' :Aad ao1 (m+1) cc1 g2 :=by
  unfold Aad
  rcases own1 with e | ⟨bb,e,hbb⟩
  ·rw [e];simp [Value.ownBlock];omega
  ·rw [e];simp;omega
 obtain ⟨X2,hX2⟩ : ∃X2,Y.alloc (.cells #[.string v] 9) =X2 := ⟨_,rfl⟩
 have hx2 :Below Y.heap.size Y X2 :=by rw [←hX2];exact (Below.refl _ _).alloc (Nat.le_refl _) _
 have x2s :X2.heap.size=w4.heap.size+1 :=by rw [←hX2,World.size_alloc,ysz]
 have xv :X2.heap[w4.heap.size]? =some (.cells #[.string v] 9) :=by rw [←hX2,←ysz];exact Ab Y _
 have in2 :=J6 V1 V2 v (.slice (some ⟨g2,0,none⟩) (V1++V2).length d2) w2.heap.size w4.heap.size 1 X2 (oVY.below hx2).2 (by rw [HM2.out,HVK.out];have :=hpk.1;rw [HLs.out.2.2.2.1] at this;omega) (by rw [HM2.out,HVK.out];have :=hpk.2.1;rw [HLs.out.2.2.2.1] at this;omega) xv (by simp [Value.ownBlock];omega)
 rw [HM2.out,HPL.out] at in2
 have x2q := (hx2.block _ (by omega)).trans yq
 have x2b := (hx2.block _ (by omega)).trans yb
 have x2r := (hx2.block _ (by omega)).trans yr
 have yc1 :=Aa yq (j :=1) rfl
 clear q40 f40
 go_upto_region 15 with (go_at_call 99;go_must (go_fit in2;rintro e w5 ⟨v2,rfl,hs2,gr2,own2⟩;obtain ⟨ao2,cc2,e2⟩ :=hs2.shape;rw [HM4.out] at e2;subst e2;have q5 := (gr2.block _ (by omega) (by simp [Value.ownBlock];omega)).trans x2q;have q50 :=Aa q5 (j :=1) rfl;have f50 :w5.frozen? ⟨w3.heap.size,1,none⟩ =false := (by simp [World.frozen?,q5])))
 have w5sz :=gr2.size
 have hs15 :Aj w5 (.slice ao1 (m+1) cc1) (K1++k ::K2) := (hs1Y.below hx2).grown gr2 (.inr hb2')
 have b5 := (gr2.block _ (by omega) (by simp [Value.ownBlock];omega)).trans x2b
 have r5 := (gr2.block _ (by omega) (by simp [Value.ownBlock];omega)).trans x2r
 have hz5 :Below w.heap.size w w5 := (hzY.trans (hx2.mono hzY.size)).grown gr2 (by have :=hzY.size;omega) (fun j hj=>by simp [Value.ownBlock] at hj;omega)
 generalize hZ :w5.setCell ⟨w3.heap.size,1,none⟩ (.slice ao2 (mv+1) cc2) =Z
 have zq :Z.heap[w3.heap.size]? =some (.cells #[.slice ao1 (m+1) cc1, .slice ao2 (mv+1) cc2] 111) :=by rw [←hZ];exact Ic q5 1 _
 have zb :Z.heap[w.heap.size]? =some (.cells #[.slice (some ⟨b,off,none⟩) n cap] 48) :=by rw [←hZ,Below.heap_setCell _ _ _ _ (by simp only;omega)];exact b5
 have zr :Z.heap[w.heap.size+1]? =some (.cells #[.slice none 0 0] 48) :=by rw [←hZ,Below.heap_setCell _ _ _ _ (by simp only;omega)];exact r5
 have hzZ :Below w.heap.size w Z :=by rw [←hZ];exact hz5.setCell (by simp only;omega) _
 have hk1 :Aj Z (.slice ao1 (m+1) cc1) (K1++k ::K2) :=by rw [←hZ];exact Co hs15 (Gf hs15 (by rw [HM3.out];omega) q5) _
 have hv1 :Aj Z (.slice ao2 (mv+1) cc2) (V1++v ::V2) :=by rw [←hZ];exact Co hs2 (Gf hs2 (by rw [HM4.out];omega) q5) _
 have zlt :=lt_of_block zr
 have zltq :=lt_of_block zq
 have hvw :=Q6 ⟨K1++k ::K2,V1++v ::V2⟩ _ _ Z.drew (hk1.below (Below.refl _ _).drew) (hv1.below (Below.refl _ _).drew) (by simp only;rw [HM3.out];have :=hpk.2.1;rw [HLs.out.2.2.2.1] at this;omega) (by simp only;rw [HM3.out,HM4.out,HVK.out])
 rw [hHf] at hvw
 have z0 :=Aa zb (j :=0) rfl
 have z1 :=Aa zq (j :=0) rfl
 have z2 :=Aa zq (j :=1) rfl
 have hne1 : ∀i j,(⟨w.heap.size+1,i,none⟩ :Addr) ≠ ⟨w.heap.size,j,none⟩ :=fun i j h=>by simp at h
 have hne2 : ∀i j,(⟨w.heap.size+1,i,none⟩ :Addr) ≠ ⟨w3.heap.size,j,none⟩ :=fun i j h=>by simp only [Addr.mk.injEq] at h;omega
 have zz0 :w.heap.size<Z.drew.heap.size :=Nat.lt_of_succ_lt zlt
 have zz1 :w3.heap.size<Z.drew.heap.size :=zltq
 have zz2 :w.heap.size+1<Z.drew.heap.size :=zlt
 clear hZ q50 f50 fc cp g0 in1 in2 yc1 c02 c12 hHf own1 own2 gr1 gr2 q4 q5 yq yb yr x2q x2b x2r b5 r5 xq xk xv bb1 bb2 bb3 bb4 bbx r0 r1 r2 r3 r4 rx b0 cb0 cb1 cb2 hs1 hs2 hs15 hs1Y oK oV oV4 oVY ho1 ho2
 go_region_held3 (fun w'=>w'.cell? ⟨w.heap.size,0,none⟩ =some (.slice (some ⟨b,off,none⟩) n cap) ∧w'.cell? ⟨w3.heap.size,0,none⟩ =some (.slice ao1 (m+1) cc1) ∧w'.cell? ⟨w3.heap.size,1,none⟩ =some (.slice ao2 (mv+1) cc2))
  (first | exact ⟨(World.cell?_setCell_other _ _ _ _ (hne1 _ _)).trans s02,(World.cell?_setCell_other _ _ _ _ (hne2 _ _)).trans s12,(World.cell?_setCell_other _ _ _ _ (hne2 _ _)).trans s22⟩ | exact ⟨s02,s12,s22⟩ | exact ⟨s01,s11,s21⟩ | exact ⟨z0,z1,z2⟩)
  (first
   | (go_at_call 100;refine hvw.mono ?_;rintro e w6 ⟨pv,rfl,hP6,hb6⟩;obtain ⟨po,pc,rfl⟩ :=hP6.shape;obtain ⟨hcc,hff⟩ :=C9 hb6;have s01 := (hcc _ _ zz0).trans z0;have s11 := (hcc _ _ zz1).trans z1;have s21 := (hcc _ _ zz1).trans z2;have hz6 :Below w.heap.size w w6 :=hzZ.drew.trans (hb6.mono (show w.heap.size≤Z.drew.heap.size from hzZ.size));have r6 :w6.heap[w.heap.size+1]? =some (.cells #[.slice none 0 0] 48) := (hb6.block _ zz2).trans zr;have y0 :=Nat.lt_of_lt_of_le zz0 hb6.size;have y1 :=Nat.lt_of_lt_of_le zz1 hb6.size;have y2 :=Nat.lt_of_lt_of_le zz2 hb6.size;clear hcc hff)
   | (go_at_call 98;refine (rp _ _ hz6 hP6).mono ?_;rintro e w7 ⟨tv',rfl,⟨sv',rfl,hP⟩,hb7⟩;obtain ⟨ao,cc,rfl⟩ :=hP.shape;obtain ⟨hcc,hff⟩ :=C9 hb7;have s02 := (hcc _ _ y0).trans s01;have s12 := (hcc _ _ y1).trans s11;have s22 := (hcc _ _ y1).trans s21;have r7 := (hb7.block _ y2).trans r6;have q7 :w7.cell? ⟨w.heap.size+1,0,none⟩ =some (.slice none 0 0) :=Aa r7 rfl;have f7 :w7.frozen? ⟨w.heap.size+1,0,none⟩ =false := (by simp [World.frozen?,r7]);clear hcc hff))
 go_wp2
 refine bodyPost_ret (v := .agg #[.slice ao R.length cc]) (by simp [results,Tryz.results51,go_sem, *]) rfl ?_
 have hz :Below w.heap.size w w7 :=hz6.trans (hb7.mono hz6.size)
 exact ⟨_,rfl,⟨_,rfl,Gq hP r7 _⟩,hz.setCell (by simp) _⟩
end Go.Proofs.YthehiijgnepcfaaGreat

attribute [local go_sem↓] Go.wp_at_zero Go.wp_at_succ
namespace Go.Proofs.YthehiijgnepcfaaGreat
open Go.RowKit
set_option maxHeartbeats 4000000 in
theorem Agf (A B :List Pg) (p :Pg) (K1 K2 V1 V2 :List ByteArray) (k v :ByteArray) (tv :Value) (w :World) (h :A5 w tv (A++p ::B)) (hg :Ap (A++p ::B)) (hK :p.K=K1++K2) (hV :p.V=V1++V2) (hl :V1.length=K1.length)
  (fi :Lz (A++p ::B) k (A++p ::B).length 0 false) (hB :B= []) (hK2 :K2= []) (hn : ((A++p ::B).length+1) *48≤140737488355328) :
  Calls Tryz.prog 51 #[tv, .string k, .string v] w fun e w'=> ∃tv',e= .returned tv'∧A5 w' tv' (A++Cx ⟨K1++k ::K2,V1++v ::V2⟩ ++B) ∧Below w.heap.size w w' :=by
 have gc :=fun W (hW :Below w.heap.size w W) =>Gp (A++p ::B) tv W (h.below hW) hg
 have fc :=fun W (hW :Below w.heap.size w W) =>fi tv W (h.below hW)
 have ht0 :=h
 obtain ⟨sv,rfl,hs⟩ :=h
 have hpi : (A++p ::B)[A.length]? =some p :=by simp
 obtain ⟨b,off,cap,rfl,hbl,hcap,hcm,hT⟩ :=hs.at (by simp<;>omega)
 obtain ⟨kv,vv,c0,c1,hk,hv⟩ :=hT _ p hpi
 have hpk :=hg.1 p (by simp)
 have cp :=fun W (hW :Below w.heap.size w W) =>Im p kv vv W (hk.below hW) (hv.below hW) (by have :=hpk.1;omega) (by have :=hpk.2.1;omega) hpk.2.2
 obtain ⟨ka,kc,rfl⟩ :=hk.shape
 obtain ⟨va,vc,rfl⟩ :=hv.shape
 have hlt :A.length< (A++p ::B).length :=by simp
 have hlB : (A++p ::B).length=A.length+1+B.length :=by simp;omega
 generalize hW0 : (w.alloc (.cells #[.slice (some ⟨b,off,none⟩) (A++p ::B).length cap] 48)).alloc (.cells #[.slice none 0 0] 48) =W0
 have hB0 :Below w.heap.size w W0 :=by rw [←hW0];exact ((Below.refl _ w).alloc (Nat.le_refl _) _).alloc (by simp) _
 have hs0 :W0.heap.size=w.heap.size+1+1 :=by rw [←hW0];simp
 have b0 :W0.heap[w.heap.size]? =some (.cells #[.slice (some ⟨b,off,none⟩) (A++p ::B).length cap] 48) :=by rw [←hW0];exact Ac (Ab w _) _
 have r0 :W0.heap[w.heap.size+1]? =some (.cells #[.slice none 0 0] 48) :=by
  rw [←hW0];have :=Ab (w.alloc (.cells #[.slice (some ⟨b,off,none⟩) (A++p ::B).length cap] 48)) (.cells #[.slice none 0 0] 48)
  rwa [World.size_alloc] at this
 have cb0 :=Aa b0 (j :=0) rfl
 have hA :w.heap.size<W0.heap.size :=by omega
 have hA' :w.heap.size+1<W0.heap.size :=by omega
 have g0 :=gc _ hB0
 have hBl :B.length=0 :=by rw [hB];rfl
 clear hB
 have hPl : (Cx ⟨K1++k ::K2,V1++v ::V2⟩).length≤2 :=by unfold Cx;split<;>simp
 have rp :=fun W pv (hW :Below w.heap.size w W) (hp :Aw W pv (Cx ⟨K1++k ::K2,V1++v ::V2⟩)) =>Ks A [p] B (Cx ⟨K1++k ::K2,V1++v ::V2⟩) _ pv (A.length+1) W (ht0.below hW) hp (by simp) (by simp) (by omega)
 have hvk :=hpk.2.2
 have HV :=hid hV
 have HK :=hid hK
 have HL :=hid hl
 clear hV hK hT hs gc fi hg ht0 hk hv hpi hcap
 generalize hHf :Cx ⟨K1++k ::K2,V1++v ::V2⟩ =HP at*
 generalize hres :A++HP++B=R at*
 generalize hal :A.length=a at*
 generalize hnl : (A++p ::B).length=n at*
 generalize hkl :V1.length=pl at*
 generalize hpl :p.K.length=m at*
 generalize hml :p.V.length=mv at*
 unfold maxLen at hcm
 have i0 : (0 :Int) ≤ (a :Int) :=by omega
 have i1 : (a :Int) < (n :Int) :=by omega
 have i2 : ¬ ((n :Int) =0) :=by omega
 have i3 : (n :Int) - 1= (a :Int) :=by omega
 have i9 : (n :Int) ≤1000000000000000 :=by omega
 have i10 : (1 :Int) ≤ (n :Int) :=by omega
 have HME :=hid (show pl=m by have :=hpl;rw [HK.out,hK2,List.append_nil] at this;omega)
 clear hK2 hBl
 have i4 : (0 :Int) ≤ (pl :Int) :=by omega
 have i6 :IntKind.i64.wrap ((a :Int) +1) = ((a+1 :Nat) :Int) :=by rw [IntKind.wrap_i64];omega
 have HPL :=hid hkl
 have HVK :=hid hvk
 have HR :=hid hres
 have HLs :=hid (And.intro hal (And.intro hnl (And.intro hl (And.intro hpl hml))))
 clear hlB hres hal hnl hpl hml hn hlt hvk hPl hkl hl
 go_enter Tryz.func51,Tryz.ntmps51
 go_upto_region 13 with (first
  | (go_at_call 55;go_must (go_fit g0;rintro e w1 ⟨rfl,hb1⟩;have cb1 := (hb1.cell (p := ⟨w.heap.size,0,none⟩) hA).trans cb0;have hbz :=hB0.trans (hb1.mono hB0.size);have hZ1 :=Nat.lt_of_lt_of_le hA hb1.size;have hZ1' :=Nat.lt_of_lt_of_le hA' hb1.size;have bb1 := (hb1.block _ hA).trans b0;have r1 := (hb1.block _ hA').trans r0))
  | (go_at_call 56;go_must (go_fit (fc _ hbz);rintro e w2 ⟨rfl,hb2⟩;have cb2 := (hb2.cell (p := ⟨w.heap.size,0,none⟩) hZ1).trans cb1;have hbz2 :=hbz.trans (hb2.mono hbz.size);have c02 := (hbz2.cell (p := ⟨b,off+a*2,none⟩) hbl).trans c0;have c12 := (hbz2.cell (p := ⟨b,off+a*2+1,none⟩) hbl).trans c1;have hZ2 :=Nat.lt_of_lt_of_le hZ1 hb2.size;have hZ2' :=Nat.lt_of_lt_of_le hZ1' hb2.size;have bb2 := (hb2.block _ hZ1).trans bb1;have r2 := (hb2.block _ hZ1').trans r1))
  | (go_at_call 97;go_must (go_fit (cp _ hbz2);rintro e w3 ⟨g1,d1,g2,d2,rfl,ho1,ho2,hgg,hb3⟩;have cb3 := (hb3.cell (p := ⟨w.heap.size,0,none⟩) hZ2).trans cb2;have hbz3 :=hbz2.trans (hb3.mono hbz2.size);have hZ3 :=Nat.lt_of_lt_of_le hZ2 hb3.size;have hZ3' :=Nat.lt_of_lt_of_le hZ2' hb3.size;have bb3 := (hb3.block _ hZ2).trans bb2;have r3 := (hb3.block _ hZ2').trans r2)))
 have hg1B :w.heap.size+1<g1 :=Nat.lt_of_lt_of_le hZ2' ho1.1
 have hg1l :=ho1.lt
 have hg2l :=ho2.lt
 obtain ⟨X1,hX1⟩ : ∃X1,(w3.alloc (.cells #[.slice (some ⟨g1,0,none⟩) m d1, .slice (some ⟨g2,0,none⟩) mv d2] 111)).alloc (.cells #[.string k] 9) =X1 := ⟨_,rfl⟩
 have hx1 :Below w3.heap.size w3 X1 :=by rw [←hX1];exact ((Below.refl _ _).alloc (Nat.le_refl _) _).alloc (by simp) _
 have hxs :X1.heap.size=w3.heap.size+1+1 :=by rw [←hX1];simp
 have xq :X1.heap[w3.heap.size]? =some (.cells #[.slice (some ⟨g1,0,none⟩) m d1, .slice (some ⟨g2,0,none⟩) mv d2] 111) :=by rw [←hX1];exact Ac (Ab w3 _) _
 have xk :X1.heap[w3.heap.size+1]? =some (.cells #[.string k] 9) :=by
  rw [←hX1];have :=Ab (w3.alloc (.cells #[.slice (some ⟨g1,0,none⟩) m d1, .slice (some ⟨g2,0,none⟩) mv d2] 111)) (.cells #[.string k] 9)
  rwa [World.size_alloc] at this
 have oK :Bi X1 w2.heap.size g1 d1 (K1++K2) :=by have :=ho1.below hx1;rwa [HK.out] at this
 have oV :Bi X1 w2.heap.size g2 d2 (V1++V2) :=by have :=ho2.below hx1;rwa [HV.out] at this
 have hm1 : (K1++K2).length=m :=by rw [←HK.out];exact HLs.out.2.2.2.1
 have hm2 : (V1++V2).length=mv :=by rw [←HV.out];exact HLs.out.2.2.2.2
 have in1 :=J6 K1 K2 k (.slice (some ⟨g1,0,none⟩) (K1++K2).length d1) w2.heap.size (w3.heap.size+1) 1 X1 oK.2 (by have :=hpk.1;rw [HK.out] at this;omega) (by have :=hpk.2.1;rw [HK.out] at this;omega) xk (by simp [Value.ownBlock];omega)
 rw [hm1,←HLs.out.2.2.1,HME.out] at in1
 have HM3 :=hid (show (K1++k ::K2).length=m+1 by rw [←hm1];simp<;>omega)
 have HM4 :=hid (show (V1++v ::V2).length=mv+1 by rw [←hm2];simp<;>omega)
 have HM1 :=hid hm1
 have HM2 :=hid hm2
 clear hm1 hm2
 have bbx := (hx1.block _ hZ3).trans bb3
 have rx := (hx1.block _ hZ3').trans r3
 clear cb3
 go_upto_region 14 with (go_at_call 99;go_must (go_fit in1;rintro e w4 ⟨v1,rfl,hs1,gr1,own1⟩;obtain ⟨ao1,cc1,e1⟩ :=hs1.shape;rw [HM3.out] at e1;subst e1;have q4 :w4.heap[w3.heap.size]? =some (.cells #[.slice (some ⟨g1,0,none⟩) m d1, .slice (some ⟨g2,0,none⟩) mv d2] 111) := (gr1.block _ (by omega) (by simp [Value.ownBlock];omega)).trans xq;have q40 :=Aa q4 (j :=0) rfl;have f40 :w4.frozen? ⟨w3.heap.size,0,none⟩ =false := (by simp [World.frozen?,q4])))
 have bb4 :w4.heap[w.heap.size]? =some (.cells #[.slice (some ⟨b,off,none⟩) n cap] 48) := (gr1.block _ (by omega) (by simp [Value.ownBlock];omega)).trans bbx
 have r4 :w4.heap[w.heap.size+1]? =some (.cells #[.slice none 0 0] 48) := (gr1.block _ (by omega) (by simp [Value.ownBlock];omega)).trans rx
 have oV4 :Bi w4 w2.heap.size g2 d2 (V1++V2) :=oV.grown (r :=g1) gr1 (by omega)
 obtain ⟨Y,hY⟩ : ∃Y,w4.setCell ⟨w3.heap.size,0,none⟩ (.slice ao1 (m+1) cc1) =Y := ⟨_,rfl⟩
 have yq :Y.heap[w3.heap.size]? =some (.cells #[.slice ao1 (m+1) cc1, .slice (some ⟨g2,0,none⟩) mv d2] 111) :=by rw [←hY];exact Ic q4 0 _
 have yb :Y.heap[w.heap.size]? =some (.cells #[.slice (some ⟨b,off,none⟩) n cap] 48) :=by rw [←hY,Below.heap_setCell _ _ _ _ (by simp only;omega)];exact bb4
 have yr :Y.heap[w.heap.size+1]? =some (.cells #[.slice none 0 0] 48) :=by rw [←hY,Below.heap_setCell _ _ _ _ (by simp only;omega)];exact r4
 have ysz :Y.heap.size=w4.heap.size :=by rw [←hY];simp [World.setCell]
 have oVY :Bi Y w2.heap.size g2 d2 (V1++V2) :=by rw [←hY];exact oV4.setOther (by omega) _
 have hs1Y :Aj Y (.slice ao1 (m+1) cc1) (K1++k ::K2) :=by rw [←hY];exact Co hs1 (Gf hs1 (by rw [HM3.out];omega) q4) _
 have w4sz :=gr1.size
 have hzY :Below w.heap.size w Y :=by
  have hzx :Below w.heap.size w X1 :=hbz3.trans (hx1.mono hbz3.size)
  have hz4 :Below w.heap.size w w4 :=hzx.grown gr1 hzx.size (fun j hj=>by simp [Value.ownBlock] at hj;omega)
  rw [←hY];exact hz4.setCell (by simp only;omega) _
 have hb2' :Aad ao1 (m+1) cc1 g2 :=by
  unfold Aad
  rcases own1 with e | ⟨bb,e,hbb⟩
  ·rw [e];simp [Value.ownBlock];omega
  ·rw [e];simp;omega
 obtain ⟨X2,hX2⟩ : ∃X2,Y.alloc (.cells #[.string v] 9) =X2 := ⟨_,rfl⟩
 have hx2 :Below Y.heap.size Y X2 :=by rw [←hX2];exact (Below.refl _ _).alloc (Nat.le_refl _) _
 have x2s :X2.heap.size=w4.heap.size+1 :=by rw [←hX2,World.size_alloc,ysz]
 have xv :X2.heap[w4.heap.size]? =some (.cells #[.string v] 9) :=by rw [←hX2,←ysz];exact Ab Y _
 have in2 :=J6 V1 V2 v (.slice (some ⟨g2,0,none⟩) (V1++V2).length d2) w2.heap.size w4.heap.size 1 X2 (oVY.below hx2).2 (by rw [HM2.out,HVK.out];have :=hpk.1;rw [HLs.out.2.2.2.1] at this;omega) (by rw [HM2.out,HVK.out];have :=hpk.2.1;rw [HLs.out.2.2.2.1] at this;omega) xv (by simp [Value.ownBlock];omega)
 rw [HM2.out,HPL.out,HME.out] at in2
 have x2q := (hx2.block _ (by omega)).trans yq
 have x2b := (hx2.block _ (by omega)).trans yb
 have x2r := (hx2.block _ (by omega)).trans yr
 have yc1 :=Aa yq (j :=1) rfl
 clear q40 f40
 go_upto_region 15 with (go_at_call 99;go_must (go_fit in2;rintro e w5 ⟨v2,rfl,hs2,gr2,own2⟩;obtain ⟨ao2,cc2,e2⟩ :=hs2.shape;rw [HM4.out] at e2;subst e2;have q5 := (gr2.block _ (by omega) (by simp [Value.ownBlock];omega)).trans x2q;have q50 :=Aa q5 (j :=1) rfl;have f50 :w5.frozen? ⟨w3.heap.size,1,none⟩ =false := (by simp [World.frozen?,q5])))
 have w5sz :=gr2.size
 have hs15 :Aj w5 (.slice ao1 (m+1) cc1) (K1++k ::K2) := (hs1Y.below hx2).grown gr2 (.inr hb2')
 have b5 := (gr2.block _ (by omega) (by simp [Value.ownBlock];omega)).trans x2b
 have r5 := (gr2.block _ (by omega) (by simp [Value.ownBlock];omega)).trans x2r
 have hz5 :Below w.heap.size w w5 := (hzY.trans (hx2.mono hzY.size)).grown gr2 (by have :=hzY.size;omega) (fun j hj=>by simp [Value.ownBlock] at hj;omega)
 generalize hZ :w5.setCell ⟨w3.heap.size,1,none⟩ (.slice ao2 (mv+1) cc2) =Z
 have zq :Z.heap[w3.heap.size]? =some (.cells #[.slice ao1 (m+1) cc1, .slice ao2 (mv+1) cc2] 111) :=by rw [←hZ];exact Ic q5 1 _
 have zb :Z.heap[w.heap.size]? =some (.cells #[.slice (some ⟨b,off,none⟩) n cap] 48) :=by rw [←hZ,Below.heap_setCell _ _ _ _ (by simp only;omega)];exact b5
 have zr :Z.heap[w.heap.size+1]? =some (.cells #[.slice none 0 0] 48) :=by rw [←hZ,Below.heap_setCell _ _ _ _ (by simp only;omega)];exact r5
 have hzZ :Below w.heap.size w Z :=by rw [←hZ];exact hz5.setCell (by simp only;omega) _
 have hk1 :Aj Z (.slice ao1 (m+1) cc1) (K1++k ::K2) :=by rw [←hZ];exact Co hs15 (Gf hs15 (by rw [HM3.out];omega) q5) _
 have hv1 :Aj Z (.slice ao2 (mv+1) cc2) (V1++v ::V2) :=by rw [←hZ];exact Co hs2 (Gf hs2 (by rw [HM4.out];omega) q5) _
 have zlt :=lt_of_block zr
 have zltq :=lt_of_block zq
 have hvw :=Q6 ⟨K1++k ::K2,V1++v ::V2⟩ _ _ Z.drew (hk1.below (Below.refl _ _).drew) (hv1.below (Below.refl _ _).drew) (by simp only;rw [HM3.out];have :=hpk.2.1;rw [HLs.out.2.2.2.1] at this;omega) (by simp only;rw [HM3.out,HM4.out,HVK.out])
 rw [hHf] at hvw
 have z0 :=Aa zb (j :=0) rfl
 have z1 :=Aa zq (j :=0) rfl
 have z2 :=Aa zq (j :=1) rfl
 have hne1 : ∀i j,(⟨w.heap.size+1,i,none⟩ :Addr) ≠ ⟨w.heap.size,j,none⟩ :=fun i j h=>by simp at h
 have hne2 : ∀i j,(⟨w.heap.size+1,i,none⟩ :Addr) ≠ ⟨w3.heap.size,j,none⟩ :=fun i j h=>by simp only [Addr.mk.injEq] at h;omega
 have zz0 :w.heap.size<Z.drew.heap.size :=Nat.lt_of_succ_lt zlt
 have zz1 :w3.heap.size<Z.drew.heap.size :=zltq
 have zz2 :w.heap.size+1<Z.drew.heap.size :=zlt
 clear hZ q50 f50 fc cp g0 in1 in2 yc1 c02 c12 hHf own1 own2 gr1 gr2 q4 q5 yq yb yr x2q x2b x2r b5 r5 xq xk xv bb1 bb2 bb3 bb4 bbx r0 r1 r2 r3 r4 rx b0 cb0 cb1 cb2 hs1 hs2 hs15 hs1Y oK oV oV4 oVY ho1 ho2
 go_region_held3 (fun w'=>w'.cell? ⟨w.heap.size,0,none⟩ =some (.slice (some ⟨b,off,none⟩) n cap) ∧w'.cell? ⟨w3.heap.size,0,none⟩ =some (.slice ao1 (m+1) cc1) ∧w'.cell? ⟨w3.heap.size,1,none⟩ =some (.slice ao2 (mv+1) cc2))
  (first | exact ⟨(World.cell?_setCell_other _ _ _ _ (hne1 _ _)).trans s02,(World.cell?_setCell_other _ _ _ _ (hne2 _ _)).trans s12,(World.cell?_setCell_other _ _ _ _ (hne2 _ _)).trans s22⟩ | exact ⟨s02,s12,s22⟩ | exact ⟨s01,s11,s21⟩ | exact ⟨z0,z1,z2⟩)
  (first
   | (go_at_call 100;refine hvw.mono ?_;rintro e w6 ⟨pv,rfl,hP6,hb6⟩;obtain ⟨po,pc,rfl⟩ :=hP6.shape;obtain ⟨hcc,hff⟩ :=C9 hb6;have s01 := (hcc _ _ zz0).trans z0;have s11 := (hcc _ _ zz1).trans z1;have s21 := (hcc _ _ zz1).trans z2;have hz6 :Below w.heap.size w w6 :=hzZ.drew.trans (hb6.mono (show w.heap.size≤Z.drew.heap.size from hzZ.size));have r6 :w6.heap[w.heap.size+1]? =some (.cells #[.slice none 0 0] 48) := (hb6.block _ zz2).trans zr;have y0 :=Nat.lt_of_lt_of_le zz0 hb6.size;have y1 :=Nat.lt_of_lt_of_le zz1 hb6.size;have y2 :=Nat.lt_of_lt_of_le zz2 hb6.size;clear hcc hff)
   | (go_at_call 98;refine (rp _ _ hz6 hP6).mono ?_;rintro e w7 ⟨tv',rfl,⟨sv',rfl,hP⟩,hb7⟩;obtain ⟨ao,cc,rfl⟩ :=hP.shape;obtain ⟨hcc,hff⟩ :=C9 hb7;have s02 := (hcc _ _ y0).trans s01;have s12 := (hcc _ _ y1).trans s11;have s22 := (hcc _ _ y1).trans s21;have r7 := (hb7.block _ y2).trans r6;have q7 :w7.cell? ⟨w.heap.size+1,0,none⟩ =some (.slice none 0 0) :=Aa r7 rfl;have f7 :w7.frozen? ⟨w.heap.size+1,0,none⟩ =false := (by simp [World.frozen?,r7]);clear hcc hff))
 go_wp2
 refine bodyPost_ret (v := .agg #[.slice ao R.length cc]) (by simp [results,Tryz.results51,go_sem, *]) rfl ?_
 have hz :Below w.heap.size w w7 :=hz6.trans (hb7.mono hz6.size)
 exact ⟨_,rfl,⟨_,rfl,Gq hP r7 _⟩,hz.setCell (by simp) _⟩
end Go.Proofs.YthehiijgnepcfaaGreat

