/-
  9 texts of this proof in one, in build order: TPutAny, TJoin, TDrop, TDropAt, TDropAny, PTree, PRows, QRows, QRows2.
-/
import Derived.Deep.Cut
import Derived.Deep.CutRange
import Derived.Deep.DeepCutAuto
import Derived.Shelf.Slices.In.SortNone
import Derived.Test.YthehiijgnepcfaaGreatJ02
import Derived.Test.YthehiijgnepcfaaGreatJ08
import Derived.Test.YthehiijgnepcfaaGreatJ09
set_option linter.unusedSimpArgs false
set_option linter.unusedVariables false
namespace Go.Proofs.YthehiijgnepcfaaGreat
open Go.RowKit
set_option maxHeartbeats 2000000 in
theorem Aj6 (T :List Pg) (tv :Value) (k v :ByteArray) (w :World) (h :A5 w tv T) (hg : ¬Ap T) :
  Calls Tryz.prog 51 #[tv, .string k, .string v] w fun e w'=> ∃tv',e= .returned tv'∧A5 w' tv' T∧Below w.heap.size w w' :=by
 have gc :=fun W (hW :Below w.heap.size w W) =>Sk T tv W (h.below hW) hg
 obtain ⟨sv,rfl,hs⟩ :=h
 obtain ⟨so,scap,rfl⟩ :=hs.shape
 have HS :=hid hs
 clear hs hg
 generalize T.length=n at*
 generalize hW0 : (w.alloc (.cells #[.slice so n scap] 48)).alloc (.cells #[.slice none 0 0] 48) =W0
 have hB0 :Below w.heap.size w W0 :=by rw [←hW0];exact ((Below.refl _ w).alloc (Nat.le_refl _) _).alloc (by simp) _
 have hs0 :W0.heap.size=w.heap.size+1+1 :=by rw [←hW0];simp
 have b0 :W0.heap[w.heap.size]? =some (.cells #[.slice so n scap] 48) :=by rw [←hW0];exact Ac (Ab w _) _
 have r0 :W0.heap[w.heap.size+1]? =some (.cells #[.slice none 0 0] 48) :=by
  rw [←hW0];have :=Ab (w.alloc (.cells #[.slice so n scap] 48)) (.cells #[.slice none 0 0] 48)
  rwa [World.size_alloc] at this
 have cb0 :=Aa b0 (j :=0) rfl
 have hA :w.heap.size<W0.heap.size :=by omega
 have hA' :w.heap.size+1<W0.heap.size :=by omega
 have g0 :=gc _ hB0
 go_enter Tryz.func51,Tryz.ntmps51
 go_wp2_with (go_at_call 55;go_must (go_fit g0;rintro e w1 ⟨rfl,hb1⟩;have cb1 :w1.cell? ⟨w.heap.size,0,none⟩ =some (.slice so n scap) :=Aa ((hb1.block _ hA).trans b0) rfl;have r1 := (hb1.block _ hA').trans r0;have q1 :w1.cell? ⟨w.heap.size+1,0,none⟩ =some (.slice none 0 0) :=Aa r1 rfl;have f1 :w1.frozen? ⟨w.heap.size+1,0,none⟩ =false := (by simp [World.frozen?,r1])))
 refine bodyPost_ret (v := .agg #[.slice so n scap]) (by simp [results,Tryz.results51,go_sem, *]) rfl ?_
 have hz :Below w.heap.size w w1 :=hB0.trans (hb1.mono hB0.size)
 exact ⟨_,rfl,⟨_,rfl,Gq (HS.out.below hz) r1 _⟩,hz.setCell (by simp) _⟩
set_option maxHeartbeats 2000000 in
theorem Ab8 (tv :Value) (k v :ByteArray) (w :World) (h :A5 w tv []) :
  Calls Tryz.prog 51 #[tv, .string k, .string v] w fun e w'=> ∃tv',e= .returned tv'∧A5 w' tv' [⟨[k],[v]⟩] ∧Below w.heap.size w w' :=by
 have gc :=fun W (hW :Below w.heap.size w W) =>Gp [] tv W (h.below hW) ⟨by simp,by simp [Bc,Bo]⟩
 obtain ⟨sv,rfl,hs⟩ :=h
 obtain ⟨so,scap,rfl⟩ :=hs.shape
 change∀W,Below w.heap.size w W→Calls Tryz.prog 55 #[.agg #[.slice so 0 scap]] W _ at gc
 clear hs
 generalize hW0 : (w.alloc (.cells #[.slice so 0 scap] 48)).alloc (.cells #[.slice none 0 0] 48) =W0
 have hB0 :Below w.heap.size w W0 :=by rw [←hW0];exact ((Below.refl _ w).alloc (Nat.le_refl _) _).alloc (by simp) _
 have hs0 :W0.heap.size=w.heap.size+1+1 :=by rw [←hW0];simp
 have b0 :W0.heap[w.heap.size]? =some (.cells #[.slice so 0 scap] 48) :=by rw [←hW0];exact Ac (Ab w _) _
 have r0 :W0.heap[w.heap.size+1]? =some (.cells #[.slice none 0 0] 48) :=by
  rw [←hW0];have :=Ab (w.alloc (.cells #[.slice so 0 scap] 48)) (.cells #[.slice none 0 0] 48)
  rwa [World.size_alloc] at this
 have cb0 :=Aa b0 (j :=0) rfl
 have hA :w.heap.size<W0.heap.size :=by omega
 have hA' :w.heap.size+1<W0.heap.size :=by omega
 have g0 :=gc _ hB0
 go_enter Tryz.func51,Tryz.ntmps51
 go_wp2_with (go_at_call 55;go_must (go_fit g0;rintro e w1 ⟨rfl,hb1⟩;have cb1 :w1.cell? ⟨w.heap.size,0,none⟩ =some (.slice so 0 scap) :=Aa ((hb1.block _ hA).trans b0) rfl;have r1 := (hb1.block _ hA').trans r0;have q1 :w1.cell? ⟨w.heap.size+1,0,none⟩ =some (.slice none 0 0) :=Aa r1 rfl;have f1 :w1.frozen? ⟨w.heap.size+1,0,none⟩ =false := (by simp [World.frozen?,r1]);have hl1 :=lt_of_block r1;obtain ⟨W2,hW2⟩ : ∃W2,((w1.alloc (.cells #[.string k] 9)).alloc (.cells #[.string v] 9)).alloc (.cells #[.slice (some ⟨w1.heap.size,0,none⟩) 1 1, .slice (some ⟨w1.heap.size+1,0,none⟩) 1 1] 111) =W2 := ⟨_,rfl⟩;have hz2 :Below w1.heap.size w1 W2 := (by rw [←hW2];exact (((Below.refl _ w1).alloc (Nat.le_refl _) _).alloc (by simp) _).alloc (by simp;omega) _);have r2 := (hz2.block _ hl1).trans r1;have q2 :W2.cell? ⟨w.heap.size+1,0,none⟩ =some (.slice none 0 0) :=Aa r2 rfl;have f2 :W2.frozen? ⟨w.heap.size+1,0,none⟩ =false := (by simp [World.frozen?,r2])))
 have hz :Below w.heap.size w w1 :=hB0.trans (hb1.mono hB0.size)
 have hzz :Below w.heap.size w W2 :=hz.trans (hz2.mono hz.size)
 have e1 :W2.heap[w1.heap.size]? =some (.cells #[.string k] 9) :=by rw [←hW2];exact Ac (Ac (Ab w1 _) _) _
 have e2 :W2.heap[w1.heap.size+1]? =some (.cells #[.string v] 9) :=by
  rw [←hW2];refine Ac ?_ _
  have :=Ab (w1.alloc (.cells #[.string k] 9)) (.cells #[.string v] 9)
  rwa [World.size_alloc] at this
 have e3 :W2.heap[w1.heap.size+1+1]? =some (.cells #[.slice (some ⟨w1.heap.size,0,none⟩) 1 1, .slice (some ⟨w1.heap.size+1,0,none⟩) 1 1] 111) :=by
  rw [←hW2]
  have :=Ab ((w1.alloc (.cells #[.string k] 9)).alloc (.cells #[.string v] 9)) (.cells #[.slice (some ⟨w1.heap.size,0,none⟩) 1 1, .slice (some ⟨w1.heap.size+1,0,none⟩) 1 1] 111)
  rwa [World.size_alloc,World.size_alloc] at this
 have one : ∀ {g :Nat} {x :ByteArray},W2.heap[g]? =some (.cells #[.string x] 9) →Aj W2 (.slice (some ⟨g,0,none⟩) 1 1) [x] :=fun {g x} hb=>
  ⟨by simp, .inr ⟨by simp,g,0,1,rfl,lt_of_block hb,by simp,by decide,fun j u hj=>by rw [Nat.zero_add];exact Aa hb (by simpa using hj)⟩⟩
 refine bodyPost_ret (v := .agg #[.slice (some ⟨w1.heap.size+1+1,0,none⟩) 1 1]) (by simp [results,Tryz.results51,go_sem, *]) rfl ?_
 exact ⟨_,rfl,⟨_,rfl,Gq (Ns (p := ⟨[k],[v]⟩) e3 (one e1) (one e2) (by decide) (by decide)) r2 _⟩,hzz.setCell (by simp) _⟩
theorem Rg (p :Pg) (hl :p.V.length=p.K.length) :flat (Cx p) =p.K.zip p.V :=by
 unfold Cx
 split
 ·simp [flat]
 ·rw [H8,H8,Vj,List.append_nil]
  simp only
  rw [←List.zip_append (by simp;omega),List.take_append_drop,List.take_append_drop]
theorem We (p :Pg) (h1 :1≤p.K.length) (h5 :p.K.length≤5) (hl :p.V.length=p.K.length) : ∀q∈Cx p,q.ok :=by
 unfold Cx
 intro q hq
 split at hq
 ·rename_i h4
  obtain rfl :q=p :=by simpa using hq
  exact ⟨h1,h4,hl⟩
 ·rename_i h4
  simp only [List.mem_cons,List.not_mem_nil,or_false] at hq
  rcases hq with rfl | rfl
  ·refine ⟨?_, ?_, ?_⟩ <;>simp<;>omega
  ·refine ⟨?_, ?_, ?_⟩ <;>simp<;>omega
theorem Za {A B :List Pg} {p :Pg} {K1 K2 V1 V2 :List ByteArray} {k :ByteArray} (hg :Ap (A++p ::B)) (hp :p.K=K1++K2) (hv :p.V=V1++V2) (hl :V1.length=K1.length) (hA : ∀x∈Bc A,klt x k=true) (hK : ∀x∈K1,klt x k=true) (hK2 : ∀x∈K2,klt k x=true) (hB : ∀x∈Bc B,klt k x=true) :
  Cut (flat (A++p ::B)) k (flat A++K1.zip V1) none (K2.zip V2++flat B) :=by
 have hAo : ∀q∈A,q.ok :=fun q hq=>hg.1 q (by simp [hq])
 have hBo : ∀q∈B,q.ok :=fun q hq=>hg.1 q (by simp [hq])
 refine ⟨?_, ?_, ?_⟩
 ·rw [Dj,H8,hp,hv,List.zip_append hl.symm]
  simp
 ·intro x hx
  rcases List.mem_append.1 hx with hx | hx
  ·exact hA _ (by rw [←Eq hAo];exact List.mem_map.2 ⟨x,hx,rfl⟩)
  ·exact hK _ (List.of_mem_zip hx).1
 ·intro x hx
  rcases List.mem_append.1 hx with hx | hx
  ·exact hK2 _ (List.of_mem_zip hx).1
  ·exact hB _ (by rw [←Eq hBo];exact List.mem_map.2 ⟨x,hx,rfl⟩)
theorem Qe {A B M :List Pg} {p :Pg} {k v :ByteArray} {F1 F2 :List (ByteArray×ByteArray)} {o :Option ByteArray} (hg :Ap (A++p ::B)) (c :Cut (flat (A++p ::B)) k F1 o F2) (hM : ∀q∈M,q.ok) (hf :flat (A++M++B) =F1++ (k,v) ::F2) :Ap (A++M++B) ∧flat (A++M++B) =Ec (flat (A++p ::B)) k v :=by
 refine ⟨Vk ?_ (by rw [hf];exact c.rise_put hg.rise v),by rw [hf,c.put]⟩
 intro q hq
 simp only [List.append_assoc,List.mem_append] at hq
 rcases hq with hq | hq | hq
 ·exact hg.1 q (by simp [hq])
 ·exact hM q hq
 ·exact hg.1 q (by simp [hq])
def Agg (w w' :World) (e :Ending) (T :List Pg) (k v :ByteArray) :Prop :=
 ∃tv' T',e= .returned tv'∧A5 w' tv' T'∧Below w.heap.size w w'∧Ap T'∧flat T'=Ec (flat T) k v∧T'.length≤T.length+1
theorem Zb (T :List Pg) (tv :Value) (k v :ByteArray) (w :World) (h :A5 w tv T) (hg :Ap T) (hn : (T.length+1) *48≤140737488355328) :
  Calls Tryz.prog 51 #[tv, .string k, .string v] w fun e w'=>Agg w w' e T k v :=by
 rcases Nat.eq_zero_or_pos T.length with h0 | h0
 ·obtain rfl :=List.eq_nil_of_length_eq_zero h0
  refine (Ab8 tv k v w h).mono ?_
  rintro e w' ⟨tv',he,ht,hb⟩
  have h1 : ∀q∈ ([⟨[k],[v]⟩] :List Pg),q.ok :=by
   intro q hq
   obtain rfl :q=_ :=List.mem_singleton.1 hq
   exact ⟨by simp,by simp,rfl⟩
  exact ⟨tv',_,he,ht,hb,⟨h1,by simp [Bc,Bo]⟩,by simp [flat,Ec],by simp⟩
 ·obtain ⟨pg,pl,th,hF,fi⟩ :=Vp T k hg (by omega)
  rcases hF with ⟨rfl,rfl,rfl,hall⟩ | ⟨A,p,B,K1,y,K3,rfl,hp,rfl,rfl,hA,hK,hy,rfl⟩
  ·obtain ⟨A,p,rfl⟩ : ∃A p,T=A++ [p] := ⟨T.dropLast,T.getLast (by rintro rfl;simp at h0),(List.dropLast_concat_getLast _).symm⟩
   have hok :=hg.1 p (by simp)
   have hkk : ∀x∈Bc A,klt x k=true :=fun x hx=>hall x (by rw [B8];exact List.mem_append_left _ hx)
   have hkp : ∀x∈p.K,klt x k=true :=fun x hx=>hall x (by rw [B8];exact List.mem_append_right _ (by simpa [Bc] using hx))
   have c :=Za (B := []) (K2 := []) (V2 := []) (V1 :=p.V) hg (List.append_nil _).symm (List.append_nil _).symm hok.2.2 hkk hkp (by simp) (by simp [Bc])
   refine (Agf A [] p p.K [] p.V [] k v tv w h hg (List.append_nil _).symm (List.append_nil _).symm hok.2.2 fi rfl rfl hn).mono ?_
   rintro e w' ⟨tv',he,ht,hb⟩
   have hM :=We ⟨p.K++ [k],p.V++ [v]⟩ (by simp) (by simp;exact hok.2.1) (by simp;exact hok.2.2)
   have hq :=Qe (M :=Cx ⟨p.K++ [k],p.V++ [v]⟩) (v :=v) hg c hM (by
    rw [Dj,Dj,Rg _ (by simp;exact hok.2.2)]
    simp only
    rw [List.zip_append hok.2.2.symm]
    simp [flat])
   refine ⟨tv',_,he,ht,hb,hq.1,hq.2, ?_⟩
   have : (Cx ⟨p.K++ [k],p.V++ [v]⟩).length≤2 :=by unfold Cx;split<;>simp
   simp only [List.length_append,List.length_cons,List.length_nil]
   omega
  ·have hok :=hg.1 p (by simp)
   by_cases hyk :y=k
   ·subst hyk
    obtain ⟨V1,v0,V3,hV,hl1,hl3,c⟩ :=Pe hg hp hA hK
    have fi' :Lz (A++p ::B) y A.length K1.length true :=by simpa using fi
    refine (Ab7 A B p K1 K3 V1 V3 v0 y v tv w h hg (by rw [hp];simp;omega) hV hl1 fi' hn).mono ?_
    rintro e w' ⟨tv',he,ht,hb⟩
    have hq :=Qe (M := [⟨p.K,V1++v ::V3⟩]) (v :=v) hg c (by
     intro q hq
     obtain rfl :q=_ :=by simpa using hq
     refine ⟨hok.1,hok.2.1, ?_⟩
     have :=hok.2.2
     rw [hV] at this
     simpa using this) (by
     rw [Dj,Dj,H8,Vj,hp]
     simp only
     rw [List.zip_append hl1.symm]
     simp)
    exact ⟨tv',_,he,ht,hb,hq.1,hq.2,by simp⟩
   ·have hky :klt k y=true :=by
     rcases I0 hy with e | e
     ·exact absurd e hyk
     ·exact e
    have fi' :Lz (A++p ::B) k A.length K1.length false :=by simpa [hyk] using fi
    have hr :=hg.2
    rw [B8,Da,hp] at hr
    have hr2 := (D8.1 hr).2.1
    rw [List.append_assoc] at hr2
    have hr3 := (D8.1 hr2).2.1
    rw [Bo,List.cons_append,List.pairwise_cons] at hr3
    have hk2 : ∀x∈y ::K3,klt k x=true :=by
     intro x hx
     rcases List.mem_cons.1 hx with rfl | hx
     ·exact hky
     ·exact Bu hky (hr3.1 x (List.mem_append_left _ hx))
    have hkB : ∀x∈Bc B,klt k x=true :=fun x hx=>Bu hky (hr3.1 x (List.mem_append_right _ hx))
    have hvl :=hok.2.2
    have hlv :K1.length≤p.V.length :=by rw [hvl,hp];simp
    have hV :p.V=p.V.take K1.length++p.V.drop K1.length := (List.take_append_drop _ _).symm
    have hl1 : (p.V.take K1.length).length=K1.length :=by simp;omega
    have c :=Za hg hp hV hl1 hA hK hk2 hkB
    refine (Aae A B p K1 (y ::K3) (p.V.take K1.length) (p.V.drop K1.length) k v tv w h hg hp hV hl1 fi' hn).mono ?_
    rintro e w' ⟨tv',he,ht,hb⟩
    have hkl : (K1++k ::y ::K3).length=p.K.length+1 :=by rw [hp];simp;omega
    have hvl2 : (p.V.take K1.length++v ::p.V.drop K1.length).length=p.V.length+1 :=by simp;omega
    have hM :=We ⟨K1++k ::y ::K3,p.V.take K1.length++v ::p.V.drop K1.length⟩ (by simp only;omega) (by simp only;have :=hok.2.1;omega) (by simp only;omega)
    have hq :=Qe (M :=Cx ⟨K1++k ::y ::K3,p.V.take K1.length++v ::p.V.drop K1.length⟩) (v :=v) hg c hM (by
     rw [Dj,Dj,Rg _ (by simp only;omega)]
     simp only
     rw [List.zip_append hl1.symm]
     simp)
    refine ⟨tv',_,he,ht,hb,hq.1,hq.2, ?_⟩
    have : (Cx ⟨K1++k ::y ::K3,p.V.take K1.length++v ::p.V.drop K1.length⟩).length≤2 :=by unfold Cx;split<;>simp
    simp only [List.length_append,List.length_cons]
    omega
end Go.Proofs.YthehiijgnepcfaaGreat

namespace Go.Proofs.YthehiijgnepcfaaGreat
open Go.RowKit
theorem At {w W :World} (h :Below w.heap.size w W) (o :Obj) :Below w.heap.size w (W.alloc o) :=h.alloc h.size o
theorem Cs {w W :World} (h :Below w.heap.size w W) {p :Addr} (hp :w.heap.size≤p.block) (v :Value) :Below w.heap.size w (W.setCell p v) :=h.setCell hp v
theorem A0 {W :World} {g :Nat} (h :W.heap.size=g) (o :Obj) : (W.alloc o).heap[g]? =some o :=by rw [←h];exact Ab W o
theorem Be (W :World) (o :Obj) : (W.alloc o).heap.size=W.heap.size+1 :=World.size_alloc _ _
theorem Bf (W :World) (o p :Obj) : ((W.alloc o).alloc p).heap.size=W.heap.size+1+1 :=by rw [World.size_alloc,World.size_alloc]
theorem A8 (W :World) :W.drew.heap.size=W.heap.size :=rfl
theorem Db {W :World} {g :Nat} {x :Obj} (h :W.heap[g]? =some x) :W.drew.heap[g]? =some x :=h
theorem Ajo {Wd w2 :World} {ko vo :Option Addr} {n kc vc :Nat} {K V :List ByteArray} (hk :Aj w2 (.slice ko n kc) K) (hv :Aj w2 (.slice vo n vc) V) (hz :Below Wd.heap.size Wd w2) :
  (w2.alloc (.cells #[.slice ko n kc, .slice vo n vc] 111)).heap[w2.heap.size]? =some (.cells #[.slice ko n kc, .slice vo n vc] 111) ∧Aj (w2.alloc (.cells #[.slice ko n kc, .slice vo n vc] 111)) (.slice ko n kc) K∧Aj (w2.alloc (.cells #[.slice ko n kc, .slice vo n vc] 111)) (.slice vo n vc) V∧Below Wd.heap.size Wd (w2.alloc (.cells #[.slice ko n kc, .slice vo n vc] 111)) :=
 ⟨Ab _ _,hk.below (At (Below.refl _ _) _),hv.below (At (Below.refl _ _) _),At hz _⟩
theorem Ajp {Wd w2 :World} {ko vo :Option Addr} {g n kc vc :Nat} {K V :List ByteArray} (hk :Aj w2 (.slice ko n kc) K) (hv :Aj w2 (.slice vo n vc) V) (hk0 :0<K.length) (hv0 :0<V.length) (hz :Below Wd.heap.size Wd w2) (hg :Wd.heap.size≤g) (p7 :w2.heap[g]? =some (.cells #[.slice none 0 0, .slice none 0 0] 111)) :
  ((w2.setCell ⟨g,0,none⟩ (.slice ko n kc)).setCell ⟨g,1,none⟩ (.slice vo n vc)).heap[g]? =some (.cells #[.slice ko n kc, .slice vo n vc] 111) ∧Aj ((w2.setCell ⟨g,0,none⟩ (.slice ko n kc)).setCell ⟨g,1,none⟩ (.slice vo n vc)) (.slice ko n kc) K∧Aj ((w2.setCell ⟨g,0,none⟩ (.slice ko n kc)).setCell ⟨g,1,none⟩ (.slice vo n vc)) (.slice vo n vc) V∧Below Wd.heap.size Wd ((w2.setCell ⟨g,0,none⟩ (.slice ko n kc)).setCell ⟨g,1,none⟩ (.slice vo n vc)) :=by
 have b1 : (w2.setCell ⟨g,0,none⟩ (.slice ko n kc)).heap[g]? =some (.cells #[.slice ko n kc, .slice none 0 0] 111) :=Ic p7 0 _
 have k1 :=Co hk (Gf hk hk0 p7) (i :=0) (.slice ko n kc)
 have v1 :=Co hv (Gf hv hv0 p7) (i :=0) (.slice ko n kc)
 exact ⟨Ic b1 1 _,Co k1 (Gf k1 hk0 b1) _,Co v1 (Gf v1 hv0 b1) _,Cs (Cs hz hg _) hg _⟩
end Go.Proofs.YthehiijgnepcfaaGreat

namespace Go.Proofs.YthehiijgnepcfaaGreat
open Go.RowKit
def Ajq (w w' :World) (e :Ending) (T :List Pg) :Prop :=
 ∃tv' T',e= .returned tv'∧A5 w' tv' T'∧Below w.heap.size w w'∧ (∀p∈T',p.ok) ∧flat T'=flat T∧T'.length≤T.length
end Go.Proofs.YthehiijgnepcfaaGreat

namespace Go.Proofs.YthehiijgnepcfaaGreat
open Go.RowKit
end Go.Proofs.YthehiijgnepcfaaGreat

namespace Go.Proofs.YthehiijgnepcfaaGreat
open Go.RowKit
def Ajr (w w' :World) (e :Ending) (T :List Pg) (k :ByteArray) :Prop :=
 ∃tv' T',e= .returned tv'∧A5 w' tv' T'∧Below w.heap.size w w'∧Ap T'∧flat T'=Fz (flat T) k∧T'.length≤T.length
theorem Ai4 {T :List Pg} {k :ByteArray} {pg pl :Nat} (hg :Ap T) (f :Zt T k pg pl false) :Fz (flat T) k=flat T :=by
 obtain ⟨F1,o,F2,c,ho⟩ :=f.cut hg
 cases o with
 | some v=>have :=ho.2 rfl;cases this
 | none=>rw [c.drop,c.eq];simp
end Go.Proofs.YthehiijgnepcfaaGreat

namespace Go.Proofs.YthehiijgnepcfaaGreat
open Go.RowKit
theorem N4 {w :World} {sv :Value} {L :List ByteArray} (h :Aj w sv L) {g :Nat} {t :TypeId} {ao :Option Addr} {n c :Nat} (hb :w.heap[g]? =some (.cells #[.slice ao n c] t)) (v :Value) :Aj (w.setCell ⟨g,0,none⟩ v) sv L :=by
 rcases Nat.eq_zero_or_pos L.length with h0 | h0
 ·refine ⟨h.1, ?_⟩
  rcases h.2 with h2 | ⟨h1,_⟩
  ·exact .inl h2
  ·omega
 ·obtain ⟨b,off,cap,rfl,_,_,_,hc⟩ :=h.at h0
  refine L0 h v fun e=> ?_
  obtain rfl :b=g :=by simpa [Value.ownBlock] using e
  obtain ⟨x,hx⟩ : ∃x,L[0]? =some x := ⟨_,List.getElem?_eq_getElem h0⟩
  have :=hc 0 x hx
  simp only [World.cell?,hb,Nat.add_zero] at this
  cases off with
  | zero=>simp at this
  | succ k=>simp at this
theorem Pgs.set2 {w :World} {g :Nat} {t :TypeId} {ao :Option Addr} {n c :Nat} (hb :w.heap[g]? =some (.cells #[.slice ao n c] t)) (v :Value) : ∀ {rs :List (Value×Value)} {T :List Pg},Pgs w rs T→Pgs (w.setCell ⟨g,0,none⟩ v) rs T
 | [],[],_=>trivial
 | _ ::_,_ ::_,h=> ⟨N4 h.1 hb v,N4 h.2.1 hb v,Pgs.set2 hb v h.2.2⟩
theorem Ka {w :World} {sv :Value} {T :List Pg} (h :Aw w sv T) {g :Nat} {t :TypeId} {ao :Option Addr} {n c :Nat} (hb :w.heap[g]? =some (.cells #[.slice ao n c] t)) (v :Value) :Aw (w.setCell ⟨g,0,none⟩ v) sv T :=by
 obtain ⟨rows,h1,h2⟩ :=h
 refine ⟨rows, ?_,Pgs.set2 hb v h2⟩
 rcases Nat.eq_zero_or_pos T.length with h0 | h0
 ·refine ⟨h1.1, ?_⟩
  rcases h1.2 with h3 | ⟨h3,_⟩
  ·exact .inl h3
  ·omega
 ·have h1' :=h1
  rcases h1.2 with ⟨h3,_⟩ | ⟨_,b,off,cap,rfl,_,_,_,hc⟩
  ·omega
  ·refine L0 h1' v fun e=> ?_
   obtain rfl :b=g :=by simpa [Value.ownBlock] using e
   have hl :=h1'.1
   obtain ⟨x,hx⟩ : ∃x,(Bg rows)[1]? =some x := ⟨_,List.getElem?_eq_getElem (by omega)⟩
   have :=hc 1 x hx
   simp only [World.cell?,hb] at this
   simp at this
structure TrSt (w :World) (cv tb :Array Value) (F :PL) (n :Nat) (ao :Option Addr) (k c :Nat) (T :List Pg) (wx :World) :Prop where
 blk :wx.heap[w.heap.size]? =some (.cells #[.slice ao k c] 48)
 pgs :Aw wx (.slice ao k c) T
 good :Ap T
 flat :flat T=F
 len :T.length≤n
 cat :wx.heap[w.heap.size+1]? =some (.cells cv 25)
 tab :wx.heap[w.heap.size+2]? =some (.cells tb 43)
 res :wx.heap[w.heap.size+3]? =some (.cells #[.slice none 0 0] 48)
 bel :Below w.heap.size w wx
theorem TrSt.below {w :World} {cv tb :Array Value} {F :PL} {n :Nat} {ao :Option Addr} {k c :Nat} {T :List Pg} {W V :World} (h :TrSt w cv tb F n ao k c T W) (hb :Below W.heap.size W V) :TrSt w cv tb F n ao k c T V :=
 ⟨(hb.block _ (lt_of_block h.blk)).trans h.blk,h.pgs.below hb,h.good,h.flat,h.len,(hb.block _ (lt_of_block h.cat)).trans h.cat,(hb.block _ (lt_of_block h.tab)).trans h.tab,(hb.block _ (lt_of_block h.res)).trans h.res,h.bel.trans (hb.mono h.bel.size)⟩
theorem Fo {w :World} {b g :Nat} (h :b≠g) (j :Nat) (x :Value) : (w.setCell ⟨g,j,none⟩ x).heap[b]? =w.heap[b]? :=Below.heap_setCell w ⟨g,j,none⟩ x b h
theorem TrSt.store {w :World} {cv tb :Array Value} {F F' :PL} {n n' :Nat} {ao ao' :Option Addr} {k c k' c' :Nat} {T T' :List Pg} {W V :World} (h :TrSt w cv tb F n ao k c T W) (hb :Below W.heap.size W V) (hp :Aw V (.slice ao' k' c') T') (hg :Ap T') (hf :Go.Proofs.YthehiijgnepcfaaGreat.flat T'=F') (hl :T'.length≤n') :
  TrSt w cv tb F' n' ao' k' c' T' (V.setCell ⟨w.heap.size,0,none⟩ (.slice ao' k' c')) :=by
 have hV :=h.below hb
 exact ⟨by have :=Do hV.blk 0 (.slice ao' k' c');simpa using this,Ka hp hV.blk _,hg,hf,hl,(Fo (by omega) _ _).trans hV.cat,(Fo (by omega) _ _).trans hV.tab,(Fo (by omega) _ _).trans hV.res,hV.bel.setCell (Nat.le_refl _) _⟩
theorem Aaf {w :World} {ao :Option Addr} {k c :Nat} {T :List Pg} (a b d e :Value) (hp :Aw w (.slice ao k c) T) (hg :Ap T) :
  TrSt w #[a,b] #[d,e] (flat T) T.length ao k c T ((((w.alloc (.cells #[.slice ao k c] 48)).alloc (.cells #[a,b] 25)).alloc (.cells #[d,e] 43)).alloc (.cells #[.slice none 0 0] 48)) :=by
 have b3 := (Cb w (.cells #[.slice ao k c] 48) (.cells #[a,b] 25) (.cells #[d,e] 43))
 have b4 :=b3.alloc (o := .cells #[.slice none 0 0] 48) (by simp;omega)
 refine ⟨Ac (Ac (Ac (Ab w _) _) _) _,hp.below b4,hg,rfl,Nat.le_refl _,Ac (Ac (Aq _ _ _) _) _,Ac (A6 _ _ _ _) _, ?_,b4⟩
 have :=Ab (((w.alloc (.cells #[.slice ao k c] 48)).alloc (.cells #[a,b] 25)).alloc (.cells #[d,e] 43)) (.cells #[.slice none 0 0] 48)
 rwa [show (((w.alloc (.cells #[.slice ao k c] 48)).alloc (.cells #[a,b] 25)).alloc (.cells #[d,e] 43)).heap.size=w.heap.size+3 from by simp] at this
def Agh (w w' :World) (e :Ending) (F :PL) (n :Nat) :Prop := ∃pv T,e= .returned pv∧A5 w' pv T∧Ap T∧flat T=F∧T.length≤n∧Below w.heap.size w w'
theorem Aag {F :PL} {K :List Wd} {k :Nat} {x :Wd} (h :K[k]? =some x) :Ho F (K.take (k+1)) =Ec (Ho F (K.take k)) x noW :=by
 rw [List.take_add_one,h];simp [Ho]
theorem Ah9 {F :PL} {K :List Wd} {k :Nat} {x :Wd} (h :K[k]? =some x) :Jo F (K.take (k+1)) =Fz (Jo F (K.take k)) x :=by
 rw [List.take_add_one,h];simp [Jo]
theorem Dk {w :World} {sv :Value} {T :List Pg} (h :Aw w sv T) : ∃ao c,sv= .slice ao T.length c :=by
 obtain ⟨rows,h1,_⟩ :=h
 exact h1.shape
theorem Ab9 {W :World} {a b o :Nat} {x0 x1 x2 x3 :Value} (h0 :W.cell? ⟨a,0,none⟩ =some x0) (h1 :W.cell? ⟨b,o,none⟩ =some x1) (h2 :W.cell? ⟨b,o+1,none⟩ =some x2) (h3 :W.cell? ⟨b,o+2,none⟩ =some x3) :
  W.cell? ⟨a,0,none⟩ =some x0∧W.cell? ⟨b,o,none⟩ =some x1∧W.cell? ⟨b,o+1,none⟩ =some x2∧W.cell? ⟨b,o+2,none⟩ =some x3 := ⟨h0,h1,h2,h3⟩
theorem U5 {W :World} {a b o g :Nat} {x x0 x1 x2 x3 :Value} (h :W.cell? ⟨a,0,none⟩ =some x0∧W.cell? ⟨b,o,none⟩ =some x1∧W.cell? ⟨b,o+1,none⟩ =some x2∧W.cell? ⟨b,o+2,none⟩ =some x3) (ha :a≠g) (hb :b≠g) :
  (W.setCell ⟨g,0,none⟩ x).cell? ⟨a,0,none⟩ =some x0∧ (W.setCell ⟨g,0,none⟩ x).cell? ⟨b,o,none⟩ =some x1∧ (W.setCell ⟨g,0,none⟩ x).cell? ⟨b,o+1,none⟩ =some x2∧ (W.setCell ⟨g,0,none⟩ x).cell? ⟨b,o+2,none⟩ =some x3 :=
 ⟨(Av ha _ _ _).trans h.1,(Av hb _ _ _).trans h.2.1,(Av hb _ _ _).trans h.2.2.1,(Av hb _ _ _).trans h.2.2.2⟩
end Go.Proofs.YthehiijgnepcfaaGreat

namespace Go.Proofs.YthehiijgnepcfaaGreat
open Go.RowKit
theorem N5 : (Tryz.prog.info? 55).map (fun i=> (i.zero,i.size,i.bytes)) =some (some (.slice none 0 0),1,24) :=by kernel_rfl
def Hk (base :Nat) (z :Value) (A :List (List V)) (w :World) :Prop := ∃cs,w.ownsRow base 55 1 z A.length cs∧All E9 (FO base z) w A cs
theorem Rh (base :Nat) (w :World) :Hk base (.slice none 0 0) [] w := ⟨[],World.ownsRow_nil _ _ _ _,rfl⟩
theorem Pk {base :Nat} {z z' sv :Value} {A :List (List V)} {cs :List Value} {L :List V} {W w3 :World} (own3 :w3.ownsRow base 55 1 z' (A.length+1) (cs++ [sv])) (hall :All E9 (FO base z) W A cs) (hL :IsL Mj (FO base z) W sv L) (gr :W.grownBy w3 z.ownBlock) (at3 :z'.ownBlock=z.ownBlock∨z'.ownBlock=some W.heap.size) :
  Hk base z' (A++ [L]) w3 :=by
 have h1 :All E9 (fun k=>FO base z k∧k<W.heap.size) W (A++ [L]) (cs++ [sv]) :=All.append (hall.mono fun k hk h=> ⟨h,hk⟩) (All.one ⟨sv,rfl,hL.mono fun k hk h=> ⟨h,hk⟩⟩)
 have h2 :=h1.keep ((X7 (n :=base) gr).mono fun k h=>h.1)
 refine ⟨cs++ [sv],by rw [List.length_append];exact own3,h2.mono fun k _ h=>Y3 at3 k h.2 h.1⟩
theorem Hk.isL {base :Nat} {z :Value} {A :List (List V)} {w :World} (h :Hk base z A w) {F :Nat→Prop} (hF : ∀k,base≤k→F k) :IsL E9 F w z A :=by
 obtain ⟨cs,h1,h2⟩ :=h
 exact ⟨cs,Fm.of_own h1 hF,h2.mono fun k _ h=>hF k h.1⟩
theorem Hk.below {base :Nat} {z :Value} {A :List (List V)} {w w' :World} (h :Hk base z A w) (hb :Below w.heap.size w w') :Hk base z A w' :=by
 obtain ⟨cs,h1,h2⟩ :=h
 exact ⟨cs,Ar h1 hb,h2.keep (Bd hb)⟩
def Bn (n :Nat) (X :List Wd) :List (List V) :=X.filterMap (Dt n)
theorem Pm {n :Nat} {X :List Wd} {k :Nat} {x :Wd} (h :X[k]? =some x) :Bn n (X.take (k+1)) =Bn n (X.take k) ++ (Dt n x).toList :=by
 rw [List.take_add_one,h]
 simp only [Bn,List.filterMap_append,Option.toList_some]
 cases hx :Dt n x<;>simp [hx]
theorem Na (n :Nat) (X :List Wd) : (Bn n X).length≤X.length :=List.length_filterMap_le _ _
theorem Hk.base {B B' :Nat} {z :Value} {A :List (List V)} {w :World} (h :Hk B z A w) (hB :B'≤B) :Hk B' z A w :=by
 obtain ⟨cs,h1,h2⟩ :=h
 refine ⟨cs,⟨h1.1, ?_⟩,h2.mono fun k _ hk=> ⟨Nat.le_trans hB hk.1,hk.2⟩⟩
 rcases h1.2 with h3 | ⟨g,cap,cur,hv,hg,hh⟩
 ·exact .inl h3
 ·exact .inr ⟨g,cap,cur,hv,Nat.le_trans hB hg,hh⟩
def Oy (w w' :World) (e :Ending) (A :List (List V)) :Prop := ∃rv,e= .returned rv∧Hk w.heap.size rv A w'∧Below w.heap.size w w'
def Oz (w w' :World) (e :Ending) (A :List (List V)) :Prop := ∃rv,e= .returned rv∧IsL E9 (fun k=>w.heap.size≤k) w' rv A∧Below w.heap.size w w'
set_option maxRecDepth 100000 in
set_option maxHeartbeats 4000000 in
theorem Pn (nmv :Wd) (T :List Pg) (pv :Value) (so :Option Addr) (n sc :Nat) (lo hi :Wd) (w :World) (hp :A5 w pv T) (hg :Ap T) (hT :T.length≤100000) (hx : ∀x∈rng T lo hi,x.2.size≤1000000) :
  Calls Tryz.prog 8 #[pv, .agg #[.string nmv, .slice so n sc],Fi noW lo hi] w fun e w'=>Oy w w' e (Df n (rng T lo hi)) :=by
 obtain ⟨psv,rfl,hpp⟩ :=hp
 obtain ⟨po,pc,rfl⟩ :=Dk hpp
 obtain ⟨i0,hi0,hz0,hz1,hz2⟩ :=info_parts N5
 have hb3 :=Cb w (.cells #[.slice po T.length pc] 48) (.cells #[.string nmv, .slice so n sc] 43) (.cells #[.string noW, .string lo, .string hi] 53)
 have bT :=Ac (Aq w (.cells #[.slice po T.length pc] 48) (.cells #[.string nmv, .slice so n sc] 43)) (.cells #[.string noW, .string lo, .string hi] 53)
 have bW :=A6 w (.cells #[.slice po T.length pc] 48) (.cells #[.string nmv, .slice so n sc] 43) (.cells #[.string noW, .string lo, .string hi] 53)
 have HR :=Tx true T ⟨fun _=>hg,fun _=>rfl⟩ (.agg #[.slice po T.length pc]) lo hi _ ⟨_,rfl,hpp.below hb3⟩ (by omega)
 rw [show Hv true T lo hi=rng T lo hi from rfl] at HR
 have hrl : (rng T lo hi).length≤400000 :=by
  have h1 :=Ph true T ⟨fun _=>hg,fun _=>rfl⟩ (lo :=lo) (hi :=hi)
  rw [show Hv true T lo hi=rng T lo hi from rfl] at h1
  omega
 have ER :Hid (Df n (rng T lo hi) =Bn n ((rng T lo hi).map Prod.snd)) :=rfl
 rw [ER.out]
 clear ER
 have hxl : ((rng T lo hi).map Prod.snd).length≤400000 :=by rw [List.length_map];exact hrl
 have HX :Hid (∀x∈ (rng T lo hi).map Prod.snd,x.size≤1000000) :=fun x hh=>by obtain ⟨y,hy,rfl⟩ :=List.mem_map.1 hh;exact hx y hy
 clear hx hrl
 unfold H9 at HR
 generalize (rng T lo hi).map Prod.fst=Y at HR
 generalize (rng T lo hi).map Prod.snd=X at HR hxl HX⊢
 generalize hW : ((w.alloc (.cells #[.slice po T.length pc] 48)).alloc (.cells #[.string nmv, .slice so n sc] 43)).alloc (.cells #[.string noW, .string lo, .string hi] 53) =W3 at hb3 HR bT bW
 have bP :W3.heap[w.heap.size]? =some (.cells #[.slice po T.length pc] 48) :=by rw [←hW];exact Ac (Ac (Ab w _) _) _
 have HW :Hid _ :=hW
 clear hW
 have c0 :=Aa bP (j :=0) rfl
 have c1 :=Aa bW (j :=0) rfl
 have c2 :=Aa bW (j :=1) rfl
 have c3 :=Aa bW (j :=2) rfl
 unfold Fi
 go_enter Tryz.func8,Tryz.ntmps8
 go_upto_region 1 with fail
 rw [HW.out]
 go_wp2_with (go_at_call 24;go_fit HR;rintro e w1 ⟨kv,vv,rfl,hk1,hv1,hb1⟩;obtain ⟨vo,vc,rfl⟩ :=Dz.shape hv1;have c1' :=Aa ((hb1.block _ (lt_of_block bW)).trans bW) (j :=0) rfl)
 have bT1 := (hb1.block _ (lt_of_block bT)).trans bT
 have hW1 :Below w.heap.size w w1 :=hb3.trans (hb1.mono hb3.size)
 clear hk1 HR hpp
 go_loopw [9,36] (fun zv i wr=> ∃k :Nat,k≤X.length∧i= .int .i64 k∧Hk w1.heap.size zv (Bn n (X.take k)) wr∧Below w1.heap.size w1 wr) (fun _ i _=>X.length - (intOf i).toNat)
 case atStart=>exact ⟨0,Nat.zero_le _,rfl,Rh _ _,Below.refl _ _⟩
 case round=>
  obtain ⟨k,hk,rfl,⟨cs,hown,hall⟩,hbel⟩ :=hrel
  by_cases hlt :k<X.length
  ·obtain ⟨x,hx⟩ : ∃x,X[k]? =some x := ⟨_,List.getElem?_eq_getElem hlt⟩
   obtain ⟨b,off,cap,hsl,hb,_,_,hcell⟩ :=hv1.at (by omega)
   cases hsl
   have d0 := (hbel.cell (p := ⟨b,off+k,none⟩) hb).trans (hcell k x hx)
   have HV :=fun W=>Iq x W (by have :=HX.out x (List.mem_of_getElem? hx);omega)
   have HXI :Hid (Bn n (X.take (k+1)) =Bn n (X.take k) ++ (Dt n x).toList) :=Pm hx
   have v0 : (0 :Int) ≤ (k :Int) :=by omega
   have v1 : (k :Int) < (X.length :Int) :=by omega
   have hsz :=hbel.size
   have ho0 :=hown.lt
   have bT2 := (hbel.block _ (lt_of_block bT1)).trans bT1
   have hal : (Bn n (X.take k)).length≤400000 :=Nat.le_trans (Na _ _) (by simp;omega)
   clear hx hcell
   unfold El at HV
   cases hvx :vals x.data.toList with
   | none=>
    have E2 :Hid (Bn n (X.take (k+1)) =Bn n (X.take k)) :=by show _=_;rw [HXI.out,Dt,hvx];simp
    rw [hvx] at HV
    simp only at HV
    go_wp2_with (go_at_call 27;go_fit (HV _);rintro e w2 ⟨rfl,hb2⟩)
    go_roundw
    case rel=>exact ⟨k+1,by omega,by go_num,by rw [E2.out];exact Hk.below ⟨cs,hown,hall⟩ hb2,hbel.trans (hb2.mono hsz)⟩
    case measure=>simp [intOf];omega
   | some L=>
    rw [hvx] at HV
    simp only at HV
    have t0 :=Aa bT2 (j :=0) rfl
    have t1 :=Aa bT2 (j :=1) rfl
    have HF :=fun ao c W=>Ku nmv so n sc ao L.length c W
    by_cases hf :0<L.length∧L.length=n
    ·have E2 :Hid (Bn n (X.take (k+1)) =Bn n (X.take k) ++ [L]) :=by show _=_;rw [HXI.out,Dt,hvx];simp only;rw [if_pos hf];rfl
     rw [show (decide (0<L.length) &&decide (L.length=n)) =true by rw [decide_eq_true hf.1,decide_eq_true hf.2];rfl] at HF
     clear hf HXI
     go_wp2_with (first
      | (go_at_call 27;go_fit (HV _);rintro e w2 ⟨⟨lv,rfl,hl2⟩,hb2⟩;obtain ⟨lo2,lc2,rfl⟩ :=Dz.shape (Dz.of_own hl2);have t2 :=Aa ((hb2.block _ (lt_of_block bT2)).trans bT2) (j :=0) rfl;have t3 :=Aa ((hb2.block _ (lt_of_block bT2)).trans bT2) (j :=1) rfl)
      | (go_at_call 28;go_fit (HF _ _ _);rintro e w3 ⟨rfl,hb3'⟩;have hB3 :Below wr.heap.size wr (w3.alloc (.cells [.slice lo2 L.length lc2].toArray 55)) := (Ad hb2 hb3').alloc (Ad hb2 hb3').size _;have hown3 :=Ar hown hB3;have hnew :=Cl w3 [.slice lo2 L.length lc2] 55;have hbase :w1.heap.size≤ (w3.alloc (.cells [.slice lo2 L.length lc2].toArray 55)).heap.size :=Nat.le_trans hsz hB3.size)
      | (at_builtin;go_must (refine wpList_append_own_at _ rfl _ _ 37 rfl w1.heap.size 55 i0 (.slice none 0 0) 1 24 Tryz.underlying37 hi0 hz0 hz1 hz2 rfl (by decide) _ _ _ rfl hown3 ⟨w3.heap.size,0,none⟩ 1 1 [.slice lo2 L.length lc2] rfl rfl hnew ?h1 (by simp only [maxLen];omega) (by omega) hbase ?h2)))
     case h1=>simp only [List.forall_mem_cons];repeat (first | exact fun _ h=>absurd h List.not_mem_nil | refine ⟨rfl, ?_⟩)
     case h2=>
      intro z2 w4 hown4 hg4 _ hat
      have hat' :z2.ownBlock=u9.ownBlock∨z2.ownBlock=some (w3.alloc (.cells [.slice lo2 L.length lc2].toArray 55)).heap.size :=by rw [World.size_alloc];exact hat
      have hLf :IsL Mj (FO w1.heap.size u9) (w3.alloc (.cells [.slice lo2 L.length lc2].toArray 55)) (.slice lo2 L.length lc2) L :=
       (Y8 hl2 fun k hk=> ⟨Nat.le_trans hsz hk,fun e=>by have := (ho0 k e.symm).2;omega⟩).keep (Bd ((Ad hb3' (Ao _ _))))
      have hst :=Pk hown4 (hall.keep (Bd hB3)) hLf hg4 hat'
      have hbb :Below w1.heap.size w1 w4 := (hbel.trans (hB3.mono hsz)).grown hg4 hbase fun k hk=> (ho0 k hk).1
      go_wp2_with fail
      go_roundw
      case rel=>exact ⟨k+1,by omega,by go_num,by rw [E2.out];exact hst,hbb⟩
      case measure=>simp [intOf];omega
    ·have E2 :Hid (Bn n (X.take (k+1)) =Bn n (X.take k)) :=by show _=_;rw [HXI.out,Dt,hvx];simp only;rw [if_neg hf];simp
     rw [show (decide (0<L.length) &&decide (L.length=n)) =false by rw [Bool.and_eq_false_iff,decide_eq_false_iff_not,decide_eq_false_iff_not];omega] at HF
     go_wp2_with (first | (go_at_call 27;go_fit (HV _);rintro e w2 ⟨⟨lv,rfl,hl2⟩,hb2⟩;obtain ⟨lo2,lc2,rfl⟩ :=Dz.shape (Dz.of_own hl2);have t2 :=Aa ((hb2.block _ (lt_of_block bT2)).trans bT2) (j :=0) rfl;have t3 :=Aa ((hb2.block _ (lt_of_block bT2)).trans bT2) (j :=1) rfl) | (go_at_call 28;go_fit (HF _ _ _);rintro e w3 ⟨rfl,hb3'⟩))
     go_roundw
     case rel=>exact ⟨k+1,by omega,by go_num,by rw [E2.out];exact Hk.below (Hk.below ⟨cs,hown,hall⟩ hb2) hb3',(hbel.trans (hb2.mono hsz)).trans (hb3'.mono (by have :=hb2.size;omega))⟩
     case measure=>simp [intOf];omega
  ·have hkn :k=X.length :=by omega
   subst hkn
   have v1 : ¬ ((X.length :Int) < (X.length :Int)) :=by omega
   rw [List.take_length] at hown hall
   go_wp2
   go_ret
   exact ⟨_,rfl,Hk.base ⟨cs,hown,hall⟩ hW1.size,hW1.trans (hbel.mono hW1.size)⟩
theorem Oy.ans {w w' :World} {e :Ending} {A :List (List V)} (h :Oy w w' e A) :Oz w w' e A :=by
 obtain ⟨rv,h1,h2,h3⟩ :=h
 exact ⟨rv,h1,h2.isL fun k hk=>hk,h3⟩
theorem Po (nmv :Wd) (T :List Pg) (pv :Value) (so :Option Addr) (n sc :Nat) (lo hi :Wd) (w :World) (hp :A5 w pv T) (hg :Ap T) (hT :T.length≤100000) (hx : ∀x∈rng T lo hi,x.2.size≤1000000) :
  Calls Tryz.prog 8 #[pv, .agg #[.string nmv, .slice so n sc],Fi noW lo hi] w fun e w'=>Oz w w' e (Df n (rng T lo hi)) :=
 (Pn nmv T pv so n sc lo hi w hp hg hT hx).mono fun _ _ h=>h.ans
end Go.Proofs.YthehiijgnepcfaaGreat

namespace Go.Proofs.YthehiijgnepcfaaGreat
open Go.RowKit
def Em (T :List Pg) (K :List Wd) :List Wd :=K.filterMap (Cw (flat T))
theorem Aca {T :List Pg} {K :List Wd} {k :Nat} {x :Wd} (h :K[k]? =some x) :Em T (K.take (k+1)) =Em T (K.take k) ++ (Cw (flat T) x).toList :=by
 rw [List.take_add_one,h]
 simp only [Em,List.filterMap_append,Option.toList_some]
 cases hx :Cw (flat T) x<;>simp [hx]
theorem Pp (T :List Pg) (K :List Wd) : (Em T K).length≤K.length :=List.length_filterMap_le _ _
set_option maxRecDepth 100000 in
set_option maxHeartbeats 4000000 in
theorem Ri (T :List Pg) (pv kv :Value) (K :List Wd) (w :World) (hp :A5 w pv T) (hg :Ap T) (hT :T.length≤100000) (hK :Aj w kv K) (hl :K.length≤1000000) :
  Calls Tryz.prog 25 #[pv,kv] w fun e w'=> ∃tv,e= .returned tv∧Aj w' tv (Em T K) ∧Below w.heap.size w w' :=by
 obtain ⟨psv,rfl,hpp⟩ :=hp
 obtain ⟨po,pc,rfl⟩ :=Dk hpp
 obtain ⟨ko,kc,rfl⟩ :=Dz.shape hK
 obtain ⟨i0,hi0,hz0,hz1,hz2⟩ :=info_parts Hh
 have hb1 :=Ao w (.cells #[.slice po T.length pc] 48)
 have bT :=Ab w (.cells #[.slice po T.length pc] 48)
 generalize hW :w.alloc (.cells #[.slice po T.length pc] 48) =W1 at hb1 bT
 have HP :Hid (Aw W1 (.slice po T.length pc) T) :=hpp.below hb1
 have hK1 :Hid _ :=hK.below hb1
 have HW :Hid _ :=hW
 clear hW hpp hK
 go_enter Tryz.func25,Tryz.ntmps25
 go_upto_region 1 with fail
 rw [HW.out]
 go_wp2
 go_loopw [5,12] (fun zv i wr=> ∃k :Nat,k≤K.length∧i= .int .i64 k∧wr.ownsRow W1.heap.size 9 1 zv (Em T (K.take k)).length ((Em T (K.take k)).map .string) ∧Below W1.heap.size W1 wr) (fun _ i _=>K.length - (intOf i).toNat)
 case atStart=>exact ⟨0,Nat.zero_le _,rfl,World.ownsRow_nil _ _ _ _,Below.refl _ _⟩
 case round=>
  obtain ⟨k,hk,rfl,hown,hbel⟩ :=hrel
  by_cases hlt :k<K.length
  ·obtain ⟨x,hx⟩ : ∃x,K[k]? =some x := ⟨_,List.getElem?_eq_getElem hlt⟩
   obtain ⟨b,off,cap,hsl,hb,_,_,hcell⟩ :=Aj.at hK1.out (by omega)
   cases hsl
   have d0 := (hbel.cell (p := ⟨b,off+k,none⟩) hb).trans (hcell k x hx)
   have HG :=Vq T (.agg #[.slice po T.length pc]) x wr ⟨_,rfl,Aw.below HP.out hbel⟩ hg (by omega)
   have HXI :Hid (Em T (K.take (k+1)) =Em T (K.take k) ++ (Cw (flat T) x).toList) :=Aca hx
   have v0 : (0 :Int) ≤ (k :Int) :=by omega
   have v1 : (k :Int) < (K.length :Int) :=by omega
   have hsz :=hbel.size
   have ho0 :=hown.lt
   have bT2 := (hbel.block _ (lt_of_block bT)).trans bT
   have t0 :=Aa bT2 (j :=0) rfl
   have hal : (Em T (K.take k)).length≤1000000 :=Nat.le_trans (Pp _ _) (by simp;omega)
   clear hx hcell
   cases hgo :Cw (flat T) x with
   | none=>
    have E2 :Hid (Em T (K.take (k+1)) =Em T (K.take k)) :=by show _=_;rw [HXI.out,hgo];simp
    rw [hgo] at HG
    simp only [Kq,Option.getD_none,Option.isSome_none] at HG
    clear hgo HXI
    go_wp2_with (go_at_call 20;go_fit HG;rintro e w2 ⟨rfl,hb2⟩)
    go_roundw
    case rel=>exact ⟨k+1,by omega,by go_num,by rw [E2.out];exact Ar hown hb2,hbel.trans (hb2.mono hsz)⟩
    case measure=>simp [intOf];omega
   | some y=>
    have E2 :Hid (Em T (K.take (k+1)) =Em T (K.take k) ++ [y]) :=by show _=_;rw [HXI.out,hgo];rfl
    rw [hgo] at HG
    simp only [Kq,Option.getD_some,Option.isSome_some] at HG
    clear hgo HXI
    go_wp2_with (first
     | (go_at_call 20;go_fit HG;rintro e w2 ⟨rfl,hb2⟩;have hB3 :Below wr.heap.size wr (w2.alloc (.cells [.string y].toArray 9)) :=hb2.alloc hb2.size _;have hown3 :=Ar hown hB3;have hnew :=Cl w2 [.string y] 9;have hbase :W1.heap.size≤ (w2.alloc (.cells [.string y].toArray 9)).heap.size :=Nat.le_trans hsz hB3.size)
     | (at_builtin;go_must (refine wpList_append_own_at _ rfl _ _ 29 rfl W1.heap.size 9 i0 (.string ⟨#[]⟩) 1 16 Tryz.underlying29 hi0 hz0 hz1 hz2 rfl (by decide) _ _ _ rfl hown3 ⟨w2.heap.size,0,none⟩ 1 1 [.string y] rfl rfl hnew ?h1 (by simp only [maxLen];omega) (by omega) hbase ?h2)))
    case h1=>simp only [List.forall_mem_cons];repeat (first | exact fun _ h=>absurd h List.not_mem_nil | refine ⟨rfl, ?_⟩)
    case h2=>
     intro z2 w4 hown4 hg4 _ _
     have hbb :Below W1.heap.size W1 w4 := (hbel.trans (hB3.mono hsz)).grown hg4 hbase fun k hk=> (ho0 k hk).1
     go_wp2_with fail
     go_roundw
     case rel=>exact ⟨k+1,by omega,by go_num,by rw [E2.out,List.length_append,List.map_append];exact hown4,hbb⟩
     case measure=>simp [intOf];omega
  ·have hkn :k=K.length :=by omega
   subst hkn
   have v1 : ¬ ((K.length :Int) < (K.length :Int)) :=by omega
   rw [List.take_length] at hown
   go_wp2
   go_ret
   exact ⟨_,rfl,Dz.of_own hown,hb1.trans (hbel.mono hb1.size)⟩
def Kb (ix key :Wd) :Wd := ⟨(Lib.trimPrefix key.data.toList (Dp ix).data.toList).toArray⟩
def Ml (t ix key :Wd) :Option Wd :=
 if Lib.hasPrefix key.data.toList (Dp ix).data.toList=true then
  match vals (Kb ix key).data.toList with
  | some L=>if L.length=2 then some (Gs t (L.getD 1 zero)) else none
  | none=>none
 else none
def rk1 (t ix :Wd) (K :List Wd) :List Wd :=K.filterMap (Ml t ix)
theorem Aec {t ix :Wd} {K :List Wd} {k :Nat} {x :Wd} (h :K[k]? =some x) :rk1 t ix (K.take (k+1)) =rk1 t ix (K.take k) ++ (Ml t ix x).toList :=by
 rw [List.take_add_one,h]
 simp only [rk1,List.filterMap_append,Option.toList_some]
 cases hx :Ml t ix x<;>simp [hx]
theorem Kc (t ix :Wd) (K :List Wd) : (rk1 t ix K).length≤K.length :=List.length_filterMap_le _ _
theorem Aah (ix key :Wd) : (Kb ix key).size≤key.size :=by
 show (Lib.trimPrefix key.data.toList (Dp ix).data.toList).toArray.size≤key.data.size
 rw [List.size_toArray,Lib.trimPrefix]
 split
 ·rw [List.length_drop];simp
 ·simp
theorem Acb {v :V} (h :good v=true) :v.s.size≤8 :=by
 unfold good at h
 split at h
 ·simp only [Bool.and_eq_true,decide_eq_true_eq] at h;omega
 split at h
 ·simp only [Bool.and_eq_true,decide_eq_true_eq] at h;omega
 split at h
 ·simp only [Bool.and_eq_true,decide_eq_true_eq] at h;omega
 ·cases h
theorem Acc :Ik [] = [] :=by simp [Ik]
theorem Ir (L :List Wd) : (Ik L).length=L.length :=by unfold Ik;rw [List.length_mergeSort,List.length_map]
theorem Acd {w :World} {B g cap :Nat} {L :List ByteArray} (h :w.ownsRow B 9 1 (.slice (some ⟨g,0,none⟩) L.length cap) L.length (L.map .string)) :Go.Sort.Holds encStr w g 0 (L.map fun s=>s.data.toList).toArray :=
 Z1 (fun j u hj=>by
  have hjl :j<L.length*1 :=by have := (List.getElem?_eq_some_iff.1 hj).1;simpa using this
  rw [Nat.zero_add,h.cellAt j hjl];exact hj) (fun j=>by rw [Nat.zero_add];exact h.frozenAt j)
end Go.Proofs.YthehiijgnepcfaaGreat

namespace Go.Proofs.YthehiijgnepcfaaGreat
open Go.RowKit
theorem Yb (s :ByteArray) (w :World) (hs :s.size*32≤140737488355328) :
  Calls Tryz.prog 27 #[.string s] w fun e w'=> ∃ao n c m,e= .returned (.tuple #[.slice ao n c, .int .i64 m]) ∧Below w.heap.size w w' :=by
 refine (Iq s w hs).mono ?_
 rintro e w' ⟨h,hb⟩
 unfold El at h
 split at h
 ·obtain ⟨lv,rfl,hl⟩ :=h
  obtain ⟨ao,c,rfl⟩ :=Dz.shape (Dz.of_own hl)
  exact ⟨ao,_,c,0,rfl,hb⟩
 ·subst h
  exact ⟨none,0,0,1,rfl,hb⟩
theorem Agi {w :World} {B :Nat} {lv :Value} {a b :V} (h :w.ownsRow B 32 3 lv 2 (Bw [a,b])) : ∃g c,lv= .slice (some ⟨g,0,none⟩) 2 c∧w.cell? ⟨g,3,none⟩ =some (.int .i64 b.k) ∧w.cell? ⟨g,4,none⟩ =some (.int .i64 b.n) ∧w.cell? ⟨g,5,none⟩ =some (.string b.s) :=by
 rcases h.2 with ⟨_,h0⟩ | ⟨g,cap,cur,rfl,_⟩
 ·cases h0
 ·exact ⟨g,cap,rfl,h.cellAt 3 (by omega),h.cellAt 4 (by omega),h.cellAt 5 (by omega)⟩
set_option maxRecDepth 100000 in
set_option maxHeartbeats 4000000 in
theorem Yc (t ix :Wd) (kv :Value) (K :List Wd) (w :World) (hK :Aj w kv K) (hl :K.length≤1000000) (ht :t.size≤1000000) (hix :ix.size≤1000000) (hks : ∀x∈K,x.size≤1000000) :
  Calls Tryz.prog 26 #[.string t, .string ix,kv] w fun e w'=> ∃tv,e= .returned tv∧Aj w' tv (F5 (rk1 t ix K)) ∧Below w.heap.size w w' :=by
 obtain ⟨ko,kc,rfl⟩ :=Dz.shape hK
 obtain ⟨i0,hi0,hz0,hz1,hz2⟩ :=info_parts Hh
 have hK1 :Hid _ :=hK
 have HKS :Hid _ :=hks
 clear hK hks
 go_enter Tryz.func26,Tryz.ntmps26
 go_wp2
 go_loopw [7,16] (fun zv i wr=> ∃k :Nat,k≤K.length∧i= .int .i64 k∧wr.ownsRow w.heap.size 9 1 zv (rk1 t ix (K.take k)).length ((rk1 t ix (K.take k)).map .string) ∧Below w.heap.size w wr) (fun _ i _=>K.length - (intOf i).toNat)
 case atStart=>exact ⟨0,Nat.zero_le _,rfl,World.ownsRow_nil _ _ _ _,Below.refl _ _⟩
 case round=>
  obtain ⟨k,hk,rfl,hown,hbel⟩ :=hrel
  by_cases hlt :k<K.length
  ·obtain ⟨x,hx⟩ : ∃x,K[k]? =some x := ⟨_,List.getElem?_eq_getElem hlt⟩
   obtain ⟨b,off,cap,hsl,hb,_,_,hcell⟩ :=Aj.at hK1.out (by omega)
   cases hsl
   have d0 := (hbel.cell (p := ⟨b,off+k,none⟩) hb).trans (hcell k x hx)
   have HXI :Hid (rk1 t ix (K.take (k+1)) =rk1 t ix (K.take k) ++ (Ml t ix x).toList) :=Aec hx
   have hxs :=HKS.out x (List.mem_of_getElem? hx)
   have hrs : (Kb ix x).size*32≤140737488355328 :=by have :=Aah ix x;omega
   have v0 : (0 :Int) ≤ (k :Int) :=by omega
   have v1 : (k :Int) < (K.length :Int) :=by omega
   have hsz :=hbel.size
   have ho0 :=hown.lt
   have hal : (rk1 t ix (K.take k)).length≤1000000 :=Nat.le_trans (Kc _ _ _) (by simp;omega)
   have HIB :=fun W=>I3 ix W hix
   have HC : ∀W,Calls Tryz.prog 60 #[.string x, .string (Dp ix)] W fun e w'=>e= .returned (.tuple #[.string (Kb ix x), .bool (Lib.hasPrefix x.data.toList (Dp ix).data.toList)]) ∧w'=W :=fun W=>Any.strings_CutPrefix Tryz.laysCut x (Dp ix) W
   have HV :=fun W=>Iq (Kb ix x) W hrs
   have HV0 :=fun W=>Yb (Kb ix x) W hrs
   have hgv :Hid (∀L,vals (Kb ix x).data.toList=some L→ ∀v∈L,good v=true) :=fun L h=> (Abv _ _ L (Nat.le_refl _) h).1
   unfold El at HV
   unfold Ml at HXI
   clear hx hcell hrs
   generalize Dp ix=ib at HXI HIB HC
   generalize Kb ix x=y at HXI HC HV HV0 hgv
   cases hp :Lib.hasPrefix x.data.toList ib.data.toList with
   | false=>
    have E2 :Hid (rk1 t ix (K.take (k+1)) =rk1 t ix (K.take k)) :=by show _=_;rw [HXI.out,hp];simp
    rw [hp] at HC
    clear hp HXI HV hgv
    go_wp2_with (first
     | (go_at_call 36;go_fit (HIB _);rintro e w1 ⟨rfl,hw1⟩;rw [hw1])
     | (go_at_call 60;go_fit (HC _);rintro e w2 ⟨rfl,hw2⟩;rw [hw2])
     | (go_at_call 27;go_fit (HV0 _);rintro e w3 ⟨vo,vn,vc,vm,rfl,hb3⟩))
    go_roundw
    case rel=>exact ⟨k+1,by omega,by go_num,by rw [E2.out];exact Ar hown hb3,hbel.trans (hb3.mono hsz)⟩
    case measure=>simp [intOf];omega
   | true=>
    rw [hp] at HC
    cases hvx :vals y.data.toList with
    | none=>
     have E2 :Hid (rk1 t ix (K.take (k+1)) =rk1 t ix (K.take k)) :=by show _=_;rw [HXI.out,hp,hvx];simp
     rw [hvx] at HV
     simp only at HV
     clear hp HXI hvx hgv HV0
     go_wp2_with (first
      | (go_at_call 36;go_fit (HIB _);rintro e w1 ⟨rfl,hw1⟩;rw [hw1])
      | (go_at_call 60;go_fit (HC _);rintro e w2 ⟨rfl,hw2⟩;rw [hw2])
      | (go_at_call 27;go_fit (HV _);rintro e w3 ⟨rfl,hb3⟩))
     go_roundw
     case rel=>exact ⟨k+1,by omega,by go_num,by rw [E2.out];exact Ar hown hb3,hbel.trans (hb3.mono hsz)⟩
     case measure=>simp [intOf];omega
    | some L=>
     rw [hvx] at HV
     simp only at HV
     by_cases hL :L.length=2
     ·match L,hL with
      | [v0',id],_=>
       have E2 :Hid (rk1 t ix (K.take (k+1)) =rk1 t ix (K.take k) ++ [Gs t id]) :=by show _=_;rw [HXI.out,hp,hvx];simp
       have hid8 :=Acb (hgv.out _ hvx id (by simp))
       have HK :=fun W=>Mk t id W ht (by simp only [maxLen];omega)
       clear hp HXI hvx hgv HV0 hid8
       generalize Gs t id=key at E2 HK
       obtain ⟨uk,un,us⟩ :=id
       simp only [V.val] at HK
       simp only [List.length_cons,List.length_nil,Nat.zero_add,Nat.reduceAdd] at HV
       go_wp2_with (first
        | (go_at_call 36;go_fit (HIB _);rintro e w1 ⟨rfl,hw1⟩;rw [hw1])
        | (go_at_call 60;go_fit (HC _);rintro e w2 ⟨rfl,hw2⟩;rw [hw2])
        | (go_at_call 27;go_fit (HV _);rintro e w3 ⟨⟨lv,rfl,hl3⟩,hb3⟩;obtain ⟨g3,c3,rfl,e0,e1,e2⟩ :=Agi hl3)
        | (go_at_call 21;go_fit (HK _);rintro e w4 ⟨rfl,hb4⟩;have hB3 :Below wr.heap.size wr (w4.alloc (.cells [.string key].toArray 9)) := (Ad hb3 hb4).alloc (Ad hb3 hb4).size _;have hown3 :=Ar hown hB3;have hnew :=Cl w4 [.string key] 9;have hbase :w.heap.size≤ (w4.alloc (.cells [.string key].toArray 9)).heap.size :=Nat.le_trans hsz hB3.size)
        | (at_builtin;go_must (refine wpList_append_own_at _ rfl _ _ 29 rfl w.heap.size 9 i0 (.string ⟨#[]⟩) 1 16 Tryz.underlying29 hi0 hz0 hz1 hz2 rfl (by decide) _ _ _ rfl hown3 ⟨w4.heap.size,0,none⟩ 1 1 [.string key] rfl rfl hnew ?h1 (by simp only [maxLen];omega) (by omega) hbase ?h2)))
       case h1=>simp only [List.forall_mem_cons];repeat (first | exact fun _ h=>absurd h List.not_mem_nil | refine ⟨rfl, ?_⟩)
       case h2=>
        intro z2 w5 hown5 hg5 _ _
        have hbb :Below w.heap.size w w5 := (hbel.trans (hB3.mono hsz)).grown hg5 hbase fun k hk=> (ho0 k hk).1
        go_wp2_with fail
        go_roundw
        case rel=>exact ⟨k+1,by omega,by go_num,by rw [E2.out,List.length_append,List.map_append];exact hown5,hbb⟩
        case measure=>simp [intOf];omega
     ·have E2 :Hid (rk1 t ix (K.take (k+1)) =rk1 t ix (K.take k)) :=by show _=_;rw [HXI.out,hp,hvx];simp [hL]
      have l1 : ¬ ((L.length :Int) =2) :=by omega
      clear hp HXI hvx hgv HV0 hL
      go_wp2_with (first
       | (go_at_call 36;go_fit (HIB _);rintro e w1 ⟨rfl,hw1⟩;rw [hw1])
       | (go_at_call 60;go_fit (HC _);rintro e w2 ⟨rfl,hw2⟩;rw [hw2])
       | (go_at_call 27;go_fit (HV _);rintro e w3 ⟨⟨lv,rfl,hl3⟩,hb3⟩;obtain ⟨lo3,lc3,rfl⟩ :=Dz.shape (Dz.of_own hl3)))
      go_roundw
      case rel=>exact ⟨k+1,by omega,by go_num,by rw [E2.out];exact Ar hown hb3,hbel.trans (hb3.mono hsz)⟩
      case measure=>simp [intOf];omega
  ·have hkn :k=K.length :=by omega
   subst hkn
   have v1 : ¬ ((K.length :Int) < (K.length :Int)) :=by omega
   rw [List.take_length] at hown
   have hal : (rk1 t ix K).length≤1000000 :=Nat.le_trans (Kc _ _ _) hl
   generalize hR :rk1 t ix K=R at hown hal
   have HR :Hid _ :=hR
   clear hR
   rcases hown.2 with ⟨rfl,h0⟩ | ⟨g,cap,cur,rfl,hg,hh,hn,hm,_⟩
   ·obtain rfl :=List.eq_nil_of_length_eq_zero h0
    have HS :=fun W=>Any.slices_Sort_string_none Tryz.laysSort none 0 W
    have HD :=fun W=>Any.slices_Compact_string_empty Tryz.laysCompact none 0 W
    go_wp2_with (first
     | (go_at_call 61;refine (HS _).mono ?_;rintro e w5 ⟨rfl,hw5⟩;rw [hw5])
     | (go_at_call 62;refine (HD _).mono ?_;rintro e w6 ⟨rfl,hw6⟩;rw [hw6]))
    go_ret
    refine ⟨_,rfl, ?_,hbel⟩
    rw [HR.out,F5,Acc]
    exact Dz.nil _ _
   ·have HS :=Adz R g cap w.heap.size wr (Acd hown) (lt_of_block hh) hg hal
    have HD :=fun W h1 h2=>Xz (Ik R) g cap w.heap.size W h1 h2 hg (by rw [Ir];exact hal) (by rw [Ir];exact hn) hm
    simp only [Ir] at HD
    go_wp2_with (first
     | (go_at_call 61;refine HS.mono ?_;rintro e w5 ⟨rfl,h5,g5,hb5⟩)
     | (go_at_call 62;refine (HD _ h5 g5).mono ?_;rintro e w6 ⟨vz,rfl,hvz,hb6⟩))
    go_ret
    exact ⟨_,rfl,by rw [HR.out];exact hvz,hbel.trans (hb5.trans hb6)⟩
end Go.Proofs.YthehiijgnepcfaaGreat

