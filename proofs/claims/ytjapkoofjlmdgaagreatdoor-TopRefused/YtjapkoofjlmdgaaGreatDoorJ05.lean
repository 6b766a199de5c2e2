/-
  8 texts of this proof in one,in build order:SRef,SStmt,SStmtR,SToks,SShelf,SLex,SLex2,SRd.
-/
import Derived.Lib.Bytealg
import Derived.Lib.IndexLaws
import Derived.Lib.SlTrimSet
import Derived.Lib.AtoiAll
import Derived.Lib.AtoiAllCases
import Derived.Shelf.Strings.Builder1
import Derived.Shelf.Strings.Builder2
import Derived.Shelf.Strings.OnBuilder
import Derived.Shelf.Strings.SlTrimAscii
import Derived.Shelf.Small.Strs
import Derived.Shelf.LaysM
import Derived.Shelf.LaysC
import Derived.Shelf.Strconv.AtoiAll
import Derived.Shelf.Strconv.ErrVarAll
import Derived.Shelf.Strings.Search3
import Derived.Shelf.Strings.Shaped
import Derived.Shelf.Strings.Fields
import Derived.Test.YtjapkoofjlmdgaaGreatDoorProg
import Derived.Test.YtjapkoofjlmdgaaGreatDoorRows
import Derived.WalkKit
import Derived.WalkSpells
import Derived.WalkLawsBesides
import Derived.BigRegion
import Derived.Test.YtjapkoofjlmdgaaGreatDoorJ01
import Derived.Test.YtjapkoofjlmdgaaGreatDoorJ02
import Derived.Test.YtjapkoofjlmdgaaGreatDoorJ04
set_option linter.unusedSimpArgs false
set_option linter.unusedVariables false
set_option maxRecDepth 100000
set_option maxHeartbeats 0
open Go.Lib renaming indexByte→H,indexByte_ge→j,indexByte_some→aN
open Prod renaming ext→C
open Prod.mk renaming injEq→K
open Go.Proofs.Tryz renaming func38→R,isAgg3→aH,isAgg5→aG,isAgg9→aF,ntmps38→O,prog→M,sizeOf3→aE,sizeOf5→aD,sizeOf9→aC,underlying0→aQ,underlying21→aM,underlying257→aJ,underlying3→g,underlying4→aP,underlying5→Z,underlying9→Y,zeroValue0→aT,zeroValue21→aO,zeroValue257→aL,zeroValue3→z,zeroValue4→aS,zeroValue5→y,zeroValue9→q
open Array renaming getElem?_modify→U
open Bool renaming false→J,false_eq_true→aK,true→A
open Option renaming none→I,some→F
open Go.World renaming setCell→X
open Go.Shelf renaming Ren→aA
open List renaming getElem?_eq_some_iff→aB,length_cons→aR,mem_append→aU
open Go.Value renaming string→S
open Go.Proofs.Any renaming strings_IndexByte→aI
open Go renaming Calls→N,maxLen→T
open Go.Ending renaming returned→aV
namespace Go.Proofs.YtjapkoofjlmdgaaGreatDoor
section
def Pq (d:Int)(w:Wd):Int:=if w=Dj then d+1 else if w=C9 then d-1 else d
def Rz (d:Int)(l:List Wd):Int:=l.foldl Pq d
def Ib:Int→List Wd→List Wd
 |_,[]=>[]
 |d,w::l=>if d=0 then w::Ib (Pq d w) l else Ib (Pq d w) l
theorem Aao (d:Int)(l m:List Wd):Rz d (l++m)=Rz (Rz d l) m:=by simp[Rz]
theorem Ag4 (d:Int)(w:Wd)(m:List Wd):Rz d (w::m)=Rz (Pq d w) m:=rfl
theorem Og:∀(l m:List Wd) (d:Int),Ib d (l++m)=Ib d l++Ib (Rz d l) m
 |[],m,d=>rfl
 |w::l,m,d=>by
  simp only[List.cons_append,Ib,Og l m,Ag4];split<;>simp
def Bal (l:List Wd):Prop:=∀d:Int,0≤d→Rz d l=d∧(0<d→Ib d l=[])
theorem Bal.append {l m:List Wd}(h:Bal l)(k:Bal m):Bal (l++m):=by
 intro d hd;rw[Aao,Og,(h d hd).1];exact⟨(k d hd).1,fun h0=>by rw[(h d hd).2 h0,(k d hd).2 h0];rfl⟩
theorem Aap {w:Wd}(h1:w≠Dj)(h2:w≠C9)(d:Int):Pq d w=d:=by simp[Pq,h1,h2]
theorem Bal.one {w:Wd}(h1:w≠Dj)(h2:w≠C9):Bal [w]:=by
 intro d hd;simp only[Rz,List.foldl_cons,List.foldl_nil,Ib,Aap h1 h2];exact⟨trivial,fun h=>by rw[if_neg (by omega)]⟩
theorem Bal.cons {w:Wd}{l:List Wd}(h1:w≠Dj)(h2:w≠C9)(h:Bal l):Bal (w::l):=(Bal.one h1 h2).append h
theorem Bal.br {l:List Wd}(h:Bal l):Bal (Dj::(l++[C9])):=by
 intro d hd;have e1:Pq d Dj=d+1:=by simp[Pq]
 have e2:Pq (d+1) C9=d:=by
  unfold Pq;rw[if_neg (by decide),if_pos rfl];omega
 rw[Ag4,e1,Aao,(h (d+1) (by omega)).1];refine⟨by simp[Rz,e2],fun h0=>?_⟩;unfold Ib;rw[if_neg (by omega),e1,Og,(h (d+1) (by omega)).1,(h (d+1) (by omega)).2 (by omega)];simp only[Ib];rw[if_neg (by omega)];rfl
theorem Bal.end {l:List Wd}(h:Bal l):Rz 0 l=0:=(h 0 (by omega)).1
theorem Anr {l m:List Wd}(h:Bal l):Ib 0 (l++m)=Ib 0 l++Ib 0 m:=by rw[Og,h.end]
theorem At9 {w:Wd}{m:List Wd}(h1:w≠Dj)(h2:w≠C9):Ib 0 (w::m)=w::Ib 0 m:=by
 rw[Ib,if_pos rfl,Aap h1 h2]
def A3s (w:Wd):Bool:=nm w||(Kn w).isSome||fst Dr w||decide (w=Ft)||decide (w=Gd)||decide (w=Kz)||decide (w=Dj)
def A39 (w:Wd):Bool:=A3s w||decide (w=A0e)
def A3t (w:Wd):Bool:=A39 w||decide (w=Nx)||decide (w=kIs)||decide (w=kEq)||decide (w=kLt)
def A3u (w:Wd):Bool:=A3t w||decide (w=Axm)
def A3v (w:Wd):Bool:=A3u w||decide (w=kOr)
def Axy (w:Wd):Bool:=A3v w||decide (w=C9)
structure Neat (t:Wd→Bool) (l:List Wd):Prop where
 bal:Bal l
 tops:∀w∈Ib 0 l,t w=A
 all:∀w∈l,Axy w=A
theorem Neat.mono {t t':Wd→Bool}{l:List Wd}(h:Neat t l)(ht:∀w,t w=A→t' w=A):Neat t' l:=⟨h.bal,fun w hw=>ht w (h.tops w hw),h.all⟩
theorem Neat.append {t:Wd→Bool}{l m:List Wd}(h:Neat t l)(k:Neat t m):Neat t (l++m):=
 ⟨h.bal.append k.bal,fun w hw=>by rw[Anr h.bal,aU]at hw;exact hw.elim (h.tops w) (k.tops w),fun w hw=>(aU.1 hw).elim (h.all w) (k.all w)⟩
theorem Neat.one {t:Wd→Bool}{w:Wd}(h1:w≠Dj)(h2:w≠C9)(ht:t w=A)(ha:Axy w=A):Neat t [w]:=
 ⟨.one h1 h2,fun x hx=>by rw[At9 h1 h2]at hx;simp[Ib]at hx;subst hx;exact ht,fun x hx=>by simp at hx;subst hx;exact ha⟩
theorem Neat.cons {t:Wd→Bool}{w:Wd}{l:List Wd}(h1:w≠Dj)(h2:w≠C9)(ht:t w=A)(ha:Axy w=A)(h:Neat t l):Neat t (w::l):=(Neat.one h1 h2 ht ha).append h
def Lp (s:St):Int×St:=if(Ag To s).1 then(1,(Ag To s).2)else(2,Ce Zm (Ag To s).2)
def O4 (s:St):ColD×St:=(⟨(Bm s).1,(Lp (Bm s).2).1,(Ag Va (Lp (Bm s).2).2).1⟩,(Ag Va (Lp (Bm s).2).2).2)
def Uo (s:St):Stm×St:=({Ai 1 with name:=(Bm s).1,cols:=(Ht O4 (Bm s).2).1},(Ht O4 (Bm s).2).2)
def Up (s:St):Stm×St:=
 let s1:=Bm s
 let s2:=Bm (Ce kOn s1.2)
 let s3:=Bm (Ce Dj s2.2)
 ({Ai 2 with name:=s1.1,table:=s2.1,col:=s3.1},Ce C9 s3.2)
def Nf (s:St):Stm×St:=if(Ag J8 s).1 then Uo (Ag J8 s).2 else Up (Ce Xq (Ag J8 s).2)
def Zt (s:St):Stm×St:=({Ai 3 with name:=(Bm (Ce J8 s)).1},(Bm (Ce J8 s)).2)
def Aks (s:St):List E×St:=Ht Mg s
def Rh (s:St):Stm×St:=
 let s1:=Bm (Ce Ajj s)
 let s2:=Ia Aks (Ce Zn s1.2)
 ({Ai 4 with table:=s1.1,rows:=s2.1},s2.2)
def L8 (s:St):E×St:=if(Ag Nz s).1 then Mg (Ag Nz s).2 else(E.nil,(Ag Nz s).2)
def Ri (s:St):Stm×St:=
 let s1:=Bm (Ce U9 s)
 let s2:=L8 s1.2
 ({Ai 5 with table:=s1.1,wher:=s2.1},s2.2)
def Rj (s:St):(Wd×E)×St:=
 let s1:=Bm s
 let s2:=Mg (Ce kEq s1.2)
 ((s1.1,s2.1),s2.2)
def Rk (s:St):Stm×St:=
 let s1:=Bm s
 let s2:=Ia Rj (Ce Aq7 s1.2)
 let s3:=L8 s2.2
 ({Ai 6 with table:=s1.1,sets:=s2.1,wher:=s3.1},s3.2)
def Afq (s:St):List E×St:=if(Ag Zo s).1 then([],(Ag Zo s).2)else Ia Mg (Ag Zo s).2
def Uq (s:St):(List E×Bool)×St:=
 if(Ag Ny s).1 then
  let s1:=Mg (Ce kBy (Ag Ny s).2)
  (([s1.1],(Ag Zl s1.2).1),(Ag Zl s1.2).2)
 else(([],J),(Ag Ny s).2)
def Ur (s:St):Int×St:=if(Ag Rt s).1 then Cy (Ag Rt s).2 else(-1,(Ag Rt s).2)
def Us (s:St):Stm×St:=
 let s1:=Afq s
 let s2:=Ia Bm (Ce U9 s1.2)
 let s3:=L8 s2.2
 let s4:=Uq s3.2
 let s5:=Ur s4.2
 ({Ai 7 with out:=s1.1,frm:=s2.1,wher:=s3.1,order:=s4.1.1,down:=s4.1.2,n:=s5.1},s5.2)
def C4 (s:St):Stm×St:=
 if(Ag Ji s).1 then Nf (Ag Ji s).2
 else if(Ag Sx s).1 then Zt (Ag Sx s).2
 else if(Ag M7 s).1 then Rh (Ag M7 s).2
 else if(Ag M6 s).1 then Ri (Ag M6 s).2
 else if(Ag M9 s).1 then Rk (Ag M9 s).2
 else if(Ag M8 s).1 then Us (Ag M8 s).2
 else(Stm.nil,I)
def Ee:Nat→List Stm→St→List Stm×St
 |0,acc,s=>(acc,s)
 |f+1,acc,s=>match s with
  |some (w::l)=>Ee f (acc++[(C4 (F (w::l))).1]) (Ce N0 (C4 (F (w::l))).2)
  |s=>(acc,s)
inductive ListG {α:Type}(P:List Wd→α→Prop):List Wd→List α→Prop
 |one {l a}:P l a→ListG P l [a]
 |more {l a m az}:P l a→ListG P m az→ListG P (l++Ei::m) (a::az)
def A2w (l:List Wd)(c:ColD):Prop:=nm c.name=A∧∃t,(t=To∧c.ty=1∨t=Zm∧c.ty=2)∧l=c.name::t::(if c.must then[Va]else[])
def BrG {α:Type}(P:List Wd→List α→Prop)(l:List Wd)(az:List α):Prop:=∃m,l=Dj::(m++[C9])∧P m az
abbrev A2x:List Wd→List E→Prop:=BrG (ListG S8)
def X8 (l:List Wd)(e:E):Prop:=l=[]∧e=E.nil∨∃m,l=Nz::m∧S8 m e
def A2y (l:List Wd)(c:Wd×E):Prop:=nm c.1=A∧∃m,l=c.1::kEq::m∧S8 m c.2
def A0f (l:List Wd)(a:Wd):Prop:=nm a=A∧l=[a]
def A2z (l:List Wd)(es:List E):Prop:=l=[Zo]∧es=[]∨ListG S8 l es
def Aua (l:List Wd)(o:List E×Bool):Prop:=l=[]∧o=([],J)∨∃m e,S8 m e∧o.1=[e]∧l=Ny::kBy::(m++if o.2 then[Zl]else[])
def Aub (l:List Wd)(n:Int):Prop:=l=[]∧n= -1∨∃w,Kn w=F n∧l=[Rt,w]
inductive StmG:List Wd→Stm→Prop
 |table {n cs l}:nm n=A→ListG A2w l cs→StmG (Ji::J8::n::Dj::(l++[C9])) {Ai 1 with name:=n,cols:=cs}
 |index {a b c}:nm a=A→nm b=A→nm c=A→StmG [Ji,Xq,a,kOn,b,Dj,c,C9] {Ai 2 with name:=a,table:=b,col:=c}
 |drop {n}:nm n=A→StmG [Sx,J8,n] {Ai 3 with name:=n}
 |insert {t l rs}:nm t=A→ListG A2x l rs→StmG (M7::Ajj::t::Zn::l) {Ai 4 with table:=t,rows:=rs}
 |delete {t w e}:nm t=A→X8 w e→StmG (M6::U9::t::w) {Ai 5 with table:=t,wher:=e}
 |update {t l ss w e}:nm t=A→ListG A2y l ss→X8 w e→StmG (M9::t::Aq7::(l++w)) {Ai 6 with table:=t,sets:=ss,wher:=e}
 |select {o os f fs w e r es m n}:A2z o os→ListG A0f f fs→X8 w e→Aua r es→Aub m n→StmG (M8::(o++U9::(f++(w++(r++m))))) {Ai 7 with out:=os,frm:=fs,wher:=e,order:=es.1,down:=es.2,n:=n}
theorem Oh:Cg Mg S8:=(X7 5).1
theorem Auc {α}(one)(f)(acc:List α):J1 one f acc I=(acc,I):=by
 cases f<;>simp[J1,At5]
theorem Ark {α}{one}{P:List Wd→α→Prop}(hp:Cg one P):∀f acc s az r,J1 one f acc s=(az,F r)→(s=F r∧az=acc)∨∃l bs,s=F (Ei::(l++r))∧ListG P l bs∧az=acc++bs:=by
 intro f
 induction f with
 |zero=>intro acc s az r h;simp[J1]at h;grind
 |succ f ih=>
  intro acc s az r h;unfold J1 at h;split at h
  ·rename_i h0;obtain⟨b,s2,hb⟩:∃b s2,one (Ag Ei s).2=(b,s2):=⟨_,_,rfl⟩;rw[hb]at h;simp only at h;cases s2 with
   |none=>grind
   |some r2=>
    obtain⟨m,h1,hm⟩:=hp _ _ _ hb;obtain⟨rfl,_⟩:=Dt h0 h1;rcases ih _ _ _ _ h with⟨h2,h3⟩|⟨l,bs,h2,h3,h4⟩
    ·simp at h2;subst h2;exact .inr ⟨m,[b],rfl,.one hm,h3⟩
    ·simp at h2;subst h2;exact .inr ⟨_,_,by simp,.more hm h3,by grind⟩
  ·rename_i h0;rw[Bo (by grind)]at h;grind
theorem Oi {α}{one}{P:List Wd→α→Prop}(hp:Cg one P):Cg (Ia one) (ListG P):=by
 intro s az r h;unfold Ia at h;obtain⟨b,s2,hb⟩:∃b s2,one s=(b,s2):=⟨_,_,rfl⟩;rw[hb]at h;simp only at h;cases s2 with
 |none=>rw[Auc]at h;grind
 |some r2=>
  obtain⟨m,rfl,hm⟩:=hp _ _ _ hb;rcases Ark hp _ _ _ _ _ h with⟨h2,h3⟩|⟨l,bs,h2,h3,h4⟩
  ·simp at h2;subst h2;subst h3;exact⟨m,rfl,.one hm⟩
  ·simp at h2;subst h2;exact⟨m++Ei::l,by simp,by rw[h4];exact .more hm h3⟩
theorem Ut {α}{one}{P:List Wd→α→Prop}(hp:Cg one P):Cg (Ht one) (BrG (ListG P)):=by
 intro s az r h;simp only[Ht,K]at h;obtain⟨h1,_⟩:=Dl h.2;obtain⟨l,h2,h3⟩:=Oi hp _ _ _ (C h.1 h1);obtain⟨rfl,_⟩:=Dl h2;exact⟨_,by simp,l,rfl,h3⟩
theorem Arl:Cg Bm A0f:=by
 intro s a r h;obtain⟨rfl,h1,_⟩:=E9 h;exact⟨[a],rfl,h1,rfl⟩
theorem Adp (k)(s)(r)(h:(Ag k s).2=F r):(Ag k s).1=A∧s=F (k::r)∧Qb r∨(Ag k s).1=J∧s=F r:=by
 cases hb:(Ag k s).1
 ·rw[Bo hb]at h;grind
 ·obtain⟨h1,h2⟩:=Dt hb h;grind
theorem Ans {s}{t}{r}(h:Lp s=(t,F r)):∃w,s=F (w::r)∧(w=To∧t=1∨w=Zm∧t=2):=by
 unfold Lp at h;split at h
 ·rename_i h0;simp at h;obtain⟨rfl,_⟩:=Dt h0 h.2;grind
 ·rename_i h0;rw[Bo (by grind)]at h;simp at h;obtain⟨rfl,_⟩:=Dl h.2;grind
theorem Akt:Cg O4 A2w:=by
 intro s c r h;simp only[O4,K]at h;obtain⟨rfl,h⟩:=h;rcases Adp _ _ _ h with⟨h1,h2,_⟩|⟨h1,h2⟩
 all_goals
  obtain⟨w,h3,h4⟩:=Ans (C rfl h2);obtain⟨h5,h6,_⟩:=E9 (C rfl h3)
 ·exact⟨[_,w,Va],h5,h6,w,h4,by grind⟩
 ·exact⟨[_,w],h5,h6,w,h4,by grind⟩
theorem R0:Cg L8 X8:=by
 intro s e r h;unfold L8 at h;split at h
 ·rename_i h0;obtain⟨l,h1,h2⟩:=Oh _ _ _ h;obtain⟨rfl,_⟩:=Dt h0 h1;exact⟨_,by simp,.inr ⟨l,rfl,h2⟩⟩
 ·rename_i h0;rw[Bo (by grind)]at h;simp at h;exact⟨[],h.2,.inl ⟨rfl,h.1.symm⟩⟩
theorem Aku:Cg Rj A2y:=by
 intro s c r h;simp only[Rj,K]at h;obtain⟨rfl,h⟩:=h;obtain⟨l,h1,h2⟩:=Oh _ _ _ (C rfl h);obtain⟨h3,_⟩:=Dl h1;obtain⟨h4,h5,_⟩:=E9 (C rfl h3);exact⟨_,h4,h5,l,rfl,h2⟩
theorem Aud:Cg Afq A2z:=by
 intro s e r h;unfold Afq at h;split at h
 ·rename_i h0;simp at h;obtain⟨rfl,_⟩:=Dt h0 h.2;exact⟨_,rfl,.inl ⟨rfl,h.1⟩⟩
 ·rename_i h0;rw[Bo (by grind)]at h;obtain⟨l,h1,h2⟩:=Oi Oh _ _ _ h;exact⟨l,h1,.inr h2⟩
theorem Ant:Cg Uq Aua:=by
 intro s o r h;unfold Uq at h;split at h
 ·rename_i h0;simp only[K]at h;obtain⟨rfl,h⟩:=h;rcases Adp _ _ _ h with⟨h1,h2,_⟩|⟨h1,h2⟩
  all_goals
   obtain⟨l,h3,h4⟩:=Oh _ _ _ (C rfl h2);obtain⟨h5,_⟩:=Dl h3;obtain⟨rfl,_⟩:=Dt h0 h5
  ·exact⟨Ny::kBy::(l++[Zl]),by simp,.inr ⟨l,_,h4,rfl,by grind⟩⟩
  ·exact⟨Ny::kBy::l,by simp,.inr ⟨l,_,h4,rfl,by grind⟩⟩
 ·rename_i h0;rw[Bo (by grind)]at h;simp at h;exact⟨[],h.2,.inl ⟨rfl,h.1.symm⟩⟩
theorem Anu:Cg Ur Aub:=by
 intro s n r h;unfold Ur at h;split at h
 ·rename_i h0;obtain⟨w,h1,h2,_⟩:=Tq h;obtain⟨rfl,_⟩:=Dt h0 h1;exact⟨_,rfl,.inr ⟨w,h2,rfl⟩⟩
 ·rename_i h0;rw[Bo (by grind)]at h;simp at h;exact⟨[],h.2,.inl ⟨rfl,h.1.symm⟩⟩
theorem Anv:Cg Uo fun l st=>StmG (Ji::J8::l) st:=by
 intro s st r h;simp only[Uo,K]at h;obtain⟨rfl,h⟩:=h;obtain⟨l,h2,m,rfl,h3⟩:=Ut Akt _ _ _ (C rfl h);obtain⟨h4,h5,_⟩:=E9 (C rfl h2);exact⟨_,h4,.table h5 h3⟩
theorem Anw:Cg Up fun l st=>StmG (Ji::Xq::l) st:=by
 intro s st r h;simp only[Up,K]at h;obtain⟨rfl,h⟩:=h;obtain⟨h2,_⟩:=Dl h;obtain⟨h3,n3,_⟩:=E9 (C rfl h2);obtain⟨h4,_⟩:=Dl h3;obtain⟨h5,n5,_⟩:=E9 (C rfl h4);obtain⟨h6,_⟩:=Dl h5;obtain⟨h7,n7,_⟩:=E9 (C rfl h6);exact⟨_,h7,.index n7 n5 n3⟩
theorem Akv:Cg Nf fun l st=>StmG (Ji::l) st:=by
 intro s st r h;unfold Nf at h;split at h
 ·rename_i h1;obtain⟨l,h2,h3⟩:=Anv _ _ _ h;obtain⟨h4,_⟩:=Dt h1 h2;grind
 ·rename_i h1;rw[Bo (by grind)]at h;obtain⟨l,h2,h3⟩:=Anw _ _ _ h;obtain⟨h4,_⟩:=Dl h2;grind
theorem Arm:Cg Zt fun l st=>StmG (Sx::l) st:=by
 intro s st r h;simp only[Zt,K]at h;obtain⟨rfl,h⟩:=h;obtain⟨h1,h2,_⟩:=E9 (C rfl h);obtain⟨h3,_⟩:=Dl h1;exact⟨_,h3,.drop h2⟩
theorem Aue:Cg Aks A2x:=Ut Oh
theorem Akw:Cg Rh fun l st=>StmG (M7::l) st:=by
 intro s st r h;simp only[Rh,K]at h;obtain⟨rfl,h⟩:=h;obtain⟨l,h1,h2⟩:=Oi Aue _ _ _ (C rfl h);obtain⟨h3,_⟩:=Dl h1;obtain⟨h4,h5,_⟩:=E9 (C rfl h3);obtain⟨h6,_⟩:=Dl h4;exact⟨_,h6,.insert h5 h2⟩
theorem Akx:Cg Ri fun l st=>StmG (M6::l) st:=by
 intro s st r h;simp only[Ri,K]at h;obtain⟨rfl,h⟩:=h;obtain⟨l,h1,h2⟩:=R0 _ _ _ (C rfl h);obtain⟨h4,h5,_⟩:=E9 (C rfl h1);obtain⟨h6,_⟩:=Dl h4;exact⟨_,h6,.delete h5 h2⟩
theorem Aky:Cg Rk fun l st=>StmG (M9::l) st:=by
 intro s st r h;simp only[Rk,K]at h;obtain⟨rfl,h⟩:=h;obtain⟨l,h1,h2⟩:=R0 _ _ _ (C rfl h);obtain⟨m,h3,h4⟩:=Oi Aku _ _ _ (C rfl h1);obtain⟨h5,_⟩:=Dl h3;obtain⟨h6,h7,_⟩:=E9 (C rfl h5);exact⟨_,h6.trans (by simp),.update h7 h4 h2⟩
theorem Anx:Cg Us fun l st=>StmG (M8::l) st:=by
 intro s st r h;simp only[Us,K]at h;obtain⟨rfl,h⟩:=h;obtain⟨l5,h1,g1⟩:=Anu _ _ _ (C rfl h);obtain⟨l4,h2,g2⟩:=Ant _ _ _ (C rfl h1);obtain⟨l3,h3,g3⟩:=R0 _ _ _ (C rfl h2);obtain⟨l2,h4,g4⟩:=Oi Arl _ _ _ (C rfl h3);obtain⟨h5,_⟩:=Dl h4;obtain⟨l1,h6,g6⟩:=Aud _ _ _ (C rfl h5);exact⟨_,by grind,.select g6 g4 g3 g2 g1⟩
theorem Aix:Cg C4 StmG:=by
 intro s st r h;have aa:∀{k}{p},(Ag k s).1=A→Cg p (fun l st=>StmG (k::l) st)→p (Ag k s).2=(st,F r)→∃l,s=F (l++r)∧StmG l st:=by
  intro k p h0 hp h;obtain⟨l,h1,h2⟩:=hp _ _ _ h;obtain⟨h3,_⟩:=Dt h0 h1;exact⟨k::l,h3,h2⟩
 unfold C4 at h;split at h
 ·rename_i h0;exact aa h0 Akv h
 ·split at h
  ·rename_i h0;exact aa h0 Arm h
  ·split at h
   ·rename_i h0;exact aa h0 Akw h
   ·split at h
    ·rename_i h0;exact aa h0 Akx h
    ·split at h
     ·rename_i h0;exact aa h0 Aky h
     ·split at h
      ·rename_i h0;exact aa h0 Anx h
      grind
theorem A20 {f:Nat}{acc:List Stm}:Ee f acc I=(acc,I)∧Ee f acc (F [])=(acc,F []):=by cases f<;>exact⟨rfl,rfl⟩
theorem Cg.shrinks {α:Type}{p:St→α×St}{G:List Wd→α→Prop}(h:Cg p G)(s:St):Bf (p s).2≤Bf s:=by
 cases h2:(p s).2 with
 |none=>simp[Bf]
 |some r=>
  obtain⟨l,rfl,_⟩:=h s _ r (C rfl h2);simp[Bf]
theorem Akz (k:Wd)(s:St):Bf (Ce k s)≤Bf s-1:=by
 cases h:Ce k s with
 |none=>simp[Bf]
 |some r=>obtain⟨rfl,_⟩:=Dl h;simp[Bf]
theorem X9 {k:Wd}{s:St}(h:(Ag k s).1=A):Bf (Ag k s).2+1≤Bf s:=by
 cases h2:(Ag k s).2 with
 |none=>
  cases s with
  |none=>simp[Ag]at h
  |some l=>cases l with
   |nil=>simp[Ag]at h
   |cons w l=>simp[Bf]
 |some r=>obtain⟨rfl,_⟩:=Dt h h2;simp[Bf]
theorem Adq {aa:List (Wd×Int)}{s:St}(h:(Ap aa s).1≠0):Bf (Ap aa s).2+1≤Bf s:=by
 induction aa with
 |nil=>simp[Ap]at h
 |cons o aa ih=>
  unfold Ap at h⊢;split at h
  ·rename_i hs;rw[if_pos hs];exact X9 hs
  ·rename_i hs;rw[if_neg hs];exact ih h
end
section
open Go.RowKit
abbrev Ajo:List UInt8:=[40,41,44,59,46,61,60,43,45,42]
def Dz (c:UInt8):Bool:=([32,10]:List UInt8).contains c
def C3 (l:List UInt8):Nat:=match l with
 |[]=>0
 |c::r=>if Cc c then I7 Cc (c::r)else if Bn c then I7 Bn (c::r)else if Dr c then(if H r 39<0 then 0 else(H r 39).toNat+2)else if 0≤H Ajo c then 1 else 0
theorem Abq (l):C3 l≤l.length:=by
 unfold C3;split
 ·simp
 ·rename_i c r;split
  ·exact Afd _ _
  ·split
   ·exact Afd _ _
   ·split
    ·split
     ·simp
     ·rename_i h0;obtain⟨n,hn⟩:∃n:Nat,H r 39=n:=⟨(H r 39).toNat,by omega⟩;have:=(aB.1 (aN hn).1).1;grind
    grind
def Vm:Nat→List UInt8→List Wd
 |0,_=>[]
 |f+1,l=>if l.dropWhile Dz=[]then[]else if C3 (l.dropWhile Dz)=0 then[noW]else str ((l.dropWhile Dz).take (C3 (l.dropWhile Dz)))::Vm f ((l.dropWhile Dz).drop (C3 (l.dropWhile Dz)))
def Ie (l:List UInt8):List Wd:=Vm l.length l
theorem Oj (f)(l:List UInt8):(l.dropWhile f).length≤l.length:=(List.dropWhile_suffix f).length_le
theorem Abr:∀(f:Nat) (l:List UInt8),l.length≤f→Vm f l=Vm l.length l
 |0,l,h=>by grind
 |f+1,[],_=>by rfl
 |f+1,c::r,h=>by
  have hd:=Oj Dz (c::r);rw[aR,Vm,Vm];split
  ·rfl
  ·split
   ·rfl
   ·rename_i h1 h2;have hl:((List.dropWhile Dz (c::r)).drop (C3 (List.dropWhile Dz (c::r)))).length≤r.length:=by
     simp at hd⊢;omega
    rw[Abr f _ (by grind),Abr _ _ hl]
theorem Apw (l):Ie l=if l.dropWhile Dz=[]then[]else if C3 (l.dropWhile Dz)=0 then[noW]else str ((l.dropWhile Dz).take (C3 (l.dropWhile Dz)))::Ie ((l.dropWhile Dz).drop (C3 (l.dropWhile Dz))):=by
 cases l with
 |nil=>rfl
 |cons c r=>
  have hd:=Oj Dz (c::r)
  conv=>lhs;rw[Ie,aR,Vm]
  split
  ·rfl
  ·split
   ·rfl
   ·rw[Abr _ _ (by grind)];rfl
structure IsTok (w:Wd):Prop where
 pos:0<w.size
 dig:fst Bn w=A→w.data.toList.all Bn=A
 ltr:fst Cc w=A→w.data.toList.all Cc=A
 quo:fst Dr w=A→2≤w.size
 one:fst Bn w=J→fst Cc w=J→fst Dr w=J→w.size=1
theorem Vn {f}{c}{r}{n}(h:0<n):fst f (str ((c::r).take n))=f c:=by
 obtain⟨m,rfl⟩:∃m,n=m+1:=⟨n-1,by omega⟩;rfl
theorem Adr {l}(h:0<C3 l):IsTok (str (l.take (C3 l))):=by
 have hl:=Abq l;have ab:(str (l.take (C3 l))).size=C3 l:=by rw[Jx,List.length_take];omega
 cases l with
 |nil=>grind
 |cons c r=>
  refine⟨by omega,fun hd=>?_,fun hd=>?_,fun hd=>?_,fun h1 h2 h3=>?_⟩
  ·rw[Vn h]at hd;have aa:Cc c=J:=by cases hx:Cc c;rfl;rw[Rw c hx]at hd;cases hd
   rw[Br,C3,aa,hd];simp only[aK,if_false,if_true];exact Xr _ _
  ·rw[Vn h]at hd;rw[Br,C3,hd];simp only[if_true];exact Xr _ _
  ·rw[Vn h]at hd;have aa:Cc c=J:=by cases hx:Cc c;rfl;rw[Rx c hx]at hd;cases hd
   rw[ab];rw[C3,aa,Aam c hd,hd]at h⊢;grind
  ·rw[Vn h]at h1 h2 h3;rw[ab];rw[C3,h1,h2,h3]at h⊢;grind
theorem Apx:∀(n:Nat) (l:List UInt8),l.length≤n→∃ws,(Ie l=ws∨Ie l=ws++[noW])∧(∀w∈ws,IsTok w)∧ws.length≤l.length:=by
 intro n
 induction n with
 |zero=>intro l h;simp at h;subst h;exact⟨[],.inl rfl,by simp,by simp⟩
 |succ n ih=>
  intro l h;have hd:=Oj Dz l;rw[Apw];split
  ·exact⟨[],.inl rfl,by simp,by simp⟩
  ·split
   ·exact⟨[],.inr rfl,by simp,by simp⟩
   ·rename_i h1 h2;have hw:=Abq (l.dropWhile Dz);obtain⟨ws,h3,h4,h5⟩:=ih ((l.dropWhile Dz).drop (C3 (l.dropWhile Dz))) (by simp;omega);refine⟨str ((l.dropWhile Dz).take (C3 (l.dropWhile Dz)))::ws,?_,?_,?_⟩
    ·grind
    ·intro w hw;rcases List.mem_cons.1 hw with rfl|hw
     ·exact Adr (by omega)
     grind
    grind
end
end Go.Proofs.YtjapkoofjlmdgaaGreatDoor
namespace Go.Proofs
open Go.Shelf
def Tryz.lays161_ren:aA:=⟨fun|161=>37|231=>61|227=>62|233=>63|235=>64|228=>132|197=>133|151=>134|260=>210|152=>211|137=>69|119=>276|224=>277|225=>278|217=>135|266=>212|n=>n,fun|9=>9|4=>4|3=>3|5=>5|117=>119|116=>118|0=>0|124=>122|105=>183|21=>21|119=>321|46=>257|139=>324|138=>323|n=>n,fun|3=>0|4=>1|n=>n⟩
theorem Tryz.lays161:Go.Proofs.Lays.n161 M Tryz.lays161_ren:={
 mixed:=by kernel_rfl
 f119:=sF Tryz.func276
 f137:=sF Tryz.func69
 f151:=sF Tryz.func134
 f152:=sF Tryz.func211
 f161:=sF Tryz.func37
 f197:=sF Tryz.func133
 f217:=sF Tryz.func135
 f224:=sF Tryz.func277
 f225:=sF Tryz.func278
 f227:=sF Tryz.func62
 f228:=sF Tryz.func132
 f231:=sF Tryz.func61
 f233:=sF Tryz.func63
 f235:=sF Tryz.func64
 f260:=sF Tryz.func210
 f266:=sF Tryz.func212
 t0:=aQ
 a0:=Tryz.isAgg0
 z0:=Tryz.sizeOf0
 v0:=aT
 t3:=g
 a3:=aH
 z3:=aE
 v3:=z
 t4:=aP
 a4:=Tryz.isAgg4
 z4:=Tryz.sizeOf4
 v4:=aS
 t5:=Z
 a5:=aG
 z5:=aD
 v5:=y
 t9:=Y
 a9:=aF
 z9:=aC
 v9:=q
 t21:=aM
 a21:=Tryz.isAgg21
 z21:=Tryz.sizeOf21
 v21:=aO
 t46:=aJ
 a46:=Tryz.isAgg257
 z46:=Tryz.sizeOf257
 v46:=aL
 t105:=Tryz.underlying183
 a105:=Tryz.isAgg183
 z105:=Tryz.sizeOf183
 v105:=Tryz.zeroValue183
 t116:=Tryz.underlying118
 a116:=Tryz.isAgg118
 z116:=Tryz.sizeOf118
 t117:=Tryz.underlying119
 a117:=Tryz.isAgg119
 z117:=Tryz.sizeOf119
 v117:=Tryz.zeroValue119
 t119:=Tryz.underlying321
 a119:=Tryz.isAgg321
 z119:=Tryz.sizeOf321
 t124:=Tryz.underlying122
 a124:=Tryz.isAgg122
 z124:=Tryz.sizeOf122
 v124:=Tryz.zeroValue122
 t138:=Tryz.underlying323
 a138:=Tryz.isAgg323
 z138:=Tryz.sizeOf323
 v138:=Tryz.zeroValue323
 t139:=Tryz.underlying324
 a139:=Tryz.isAgg324
 z139:=Tryz.sizeOf324
 v139:=Tryz.zeroValue324
 g3:=by kernel_rfl
 g4:=by kernel_rfl}
def Tryz.lays137_ren:aA:=⟨fun|137=>69|217=>135|266=>212|n=>n,fun|9=>9|5=>5|3=>3|n=>n,fun|n=>n⟩
theorem Tryz.lays137:Go.Proofs.Lays.n137 M Tryz.lays137_ren:={
 mixed:=by kernel_rfl
 f137:=sF Tryz.func69
 f217:=sF Tryz.func135
 f266:=sF Tryz.func212
 t3:=g
 a3:=aH
 z3:=aE
 v3:=z
 t5:=Z
 a5:=aG
 z5:=aD
 v5:=y
 t9:=Y
 a9:=aF
 z9:=aC
 v9:=q}
def Tryz.laysC172_ren:aA:=⟨fun|172=>142|244=>219|245=>220|247=>281|279=>282|280=>283|281=>284|282=>285|287=>326|316=>327|171=>329|205=>328|321=>362|322=>363|243=>364|246=>370|283=>372|284=>373|285=>374|286=>375|129=>265|317=>376|318=>377|319=>378|320=>379|337=>380|338=>381|n=>n,fun|9=>9|3=>3|75=>192|76=>193|4=>4|5=>5|167=>327|37=>294|0=>0|85=>328|2=>2|168=>330|53=>313|175=>356|46=>257|210=>359|127=>383|145=>386|143=>384|21=>21|171=>392|173=>394|212=>397|51=>311|20=>20|213=>398|232=>399|233=>400|80=>127|n=>n,fun|15=>3|16=>4|17=>5|18=>6|19=>7|n=>n⟩
theorem Tryz.laysC172:Go.Proofs.LaysC.n172 M Tryz.laysC172_ren:={
 mixed:=by kernel_rfl
 f129:=sF Tryz.func265
 f171:=sF Tryz.func329
 f172:=sF Tryz.func142
 f205:=sF Tryz.func328
 f243:=sF Tryz.func364
 f244:=sF Tryz.func219
 f245:=sF Tryz.func220
 f246:=sF Tryz.func370
 f247:=sF Tryz.func281
 f279:=sF Tryz.func282
 f280:=sF Tryz.func283
 f281:=sF Tryz.func284
 f282:=sF Tryz.func285
 f283:=sF Tryz.func372
 f284:=sF Tryz.func373
 f285:=sF Tryz.func374
 f286:=sF Tryz.func375
 f287:=sF Tryz.func326
 f316:=sF Tryz.func327
 f317:=sF Tryz.func376
 f318:=sF Tryz.func377
 f319:=sF Tryz.func378
 f320:=sF Tryz.func379
 f321:=sF Tryz.func362
 f322:=sF Tryz.func363
 f337:=sF Tryz.func380
 f338:=sF Tryz.func381
 t0:=aQ
 a0:=Tryz.isAgg0
 z0:=Tryz.sizeOf0
 v0:=aT
 t2:=Tryz.underlying2
 a2:=Tryz.isAgg2
 z2:=Tryz.sizeOf2
 v2:=Tryz.zeroValue2
 t3:=g
 a3:=aH
 z3:=aE
 v3:=z
 t4:=aP
 a4:=Tryz.isAgg4
 z4:=Tryz.sizeOf4
 v4:=aS
 t5:=Z
 a5:=aG
 z5:=aD
 v5:=y
 t9:=Y
 a9:=aF
 z9:=aC
 v9:=q
 t20:=Tryz.underlying20
 a20:=Tryz.isAgg20
 z20:=Tryz.sizeOf20
 v20:=Tryz.zeroValue20
 t21:=aM
 a21:=Tryz.isAgg21
 z21:=Tryz.sizeOf21
 v21:=aO
 t37:=Tryz.underlying294
 a37:=Tryz.isAgg294
 z37:=Tryz.sizeOf294
 v37:=Tryz.zeroValue294
 t46:=aJ
 a46:=Tryz.isAgg257
 z46:=Tryz.sizeOf257
 v46:=aL
 t51:=Tryz.underlying311
 a51:=Tryz.isAgg311
 z51:=Tryz.sizeOf311
 v51:=Tryz.zeroValue311
 t53:=Tryz.underlying313
 a53:=Tryz.isAgg313
 z53:=Tryz.sizeOf313
 v53:=Tryz.zeroValue313
 t75:=Tryz.underlying192
 a75:=Tryz.isAgg192
 z75:=Tryz.sizeOf192
 v75:=Tryz.zeroValue192
 t76:=Tryz.underlying193
 a76:=Tryz.isAgg193
 z76:=Tryz.sizeOf193
 v76:=Tryz.zeroValue193
 t85:=Tryz.underlying328
 a85:=Tryz.isAgg328
 z85:=Tryz.sizeOf328
 v85:=Tryz.zeroValue328
 t127:=Tryz.underlying383
 a127:=Tryz.isAgg383
 z127:=Tryz.sizeOf383
 v127:=Tryz.zeroValue383
 t143:=Tryz.underlying384
 a143:=Tryz.isAgg384
 z143:=Tryz.sizeOf384
 v143:=Tryz.zeroValue384
 t145:=Tryz.underlying386
 a145:=Tryz.isAgg386
 z145:=Tryz.sizeOf386
 v145:=Tryz.zeroValue386
 t167:=Tryz.underlying327
 a167:=Tryz.isAgg327
 z167:=Tryz.sizeOf327
 v167:=Tryz.zeroValue327
 t168:=Tryz.underlying330
 a168:=Tryz.isAgg330
 z168:=Tryz.sizeOf330
 v168:=Tryz.zeroValue330
 t171:=Tryz.underlying392
 a171:=Tryz.isAgg392
 z171:=Tryz.sizeOf392
 v171:=Tryz.zeroValue392
 t173:=Tryz.underlying394
 a173:=Tryz.isAgg394
 z173:=Tryz.sizeOf394
 v173:=Tryz.zeroValue394
 t175:=Tryz.underlying356
 a175:=Tryz.isAgg356
 z175:=Tryz.sizeOf356
 v175:=Tryz.zeroValue356
 t210:=Tryz.underlying359
 a210:=Tryz.isAgg359
 z210:=Tryz.sizeOf359
 v210:=Tryz.zeroValue359
 t212:=Tryz.underlying397
 a212:=Tryz.isAgg397
 z212:=Tryz.sizeOf397
 v212:=Tryz.zeroValue397
 t213:=Tryz.underlying398
 a213:=Tryz.isAgg398
 z213:=Tryz.sizeOf398
 t232:=Tryz.underlying399
 a232:=Tryz.isAgg399
 z232:=Tryz.sizeOf399
 v232:=Tryz.zeroValue399
 t233:=Tryz.underlying400
 a233:=Tryz.isAgg400
 z233:=Tryz.sizeOf400
 v233:=Tryz.zeroValue400
 g15:=by kernel_rfl
 g16:=by kernel_rfl
 g17:=by kernel_rfl
 g18:=by kernel_rfl
 g19:=by kernel_rfl
 t80:=Tryz.underlying127
 a80:=Tryz.isAgg127
 z80:=Tryz.sizeOf127
 v80:=Tryz.zeroValue127
 i0:=by kernel_rfl
 i2:=by kernel_rfl
 i3:=by kernel_rfl
 i4:=by kernel_rfl
 i5:=by kernel_rfl
 i9:=by kernel_rfl
 i20:=by kernel_rfl
 i21:=by kernel_rfl
 i37:=by kernel_rfl
 i46:=by kernel_rfl
 i51:=by kernel_rfl
 i53:=by kernel_rfl
 i75:=by kernel_rfl
 i76:=by kernel_rfl
 i80:=by kernel_rfl
 i85:=by kernel_rfl
 i127:=by kernel_rfl
 i143:=by kernel_rfl
 i145:=by kernel_rfl
 i167:=by kernel_rfl
 i168:=by kernel_rfl
 i171:=by kernel_rfl
 i173:=by kernel_rfl
 i175:=by kernel_rfl
 i210:=by kernel_rfl
 i212:=by kernel_rfl
 i232:=by kernel_rfl
 i233:=by kernel_rfl
 m15:=by kernel_rfl
 m16:=by kernel_rfl
 m17:=by kernel_rfl
 m18:=by kernel_rfl
 m19:=by kernel_rfl
 c0:=by kernel_rfl
 c2:=by kernel_rfl
 c3:=by kernel_rfl
 c4:=by kernel_rfl
 c5:=by kernel_rfl
 c9:=by kernel_rfl
 c20:=by kernel_rfl
 c21:=by kernel_rfl
 c37:=by kernel_rfl
 c46:=by kernel_rfl
 c51:=by kernel_rfl
 c53:=by kernel_rfl
 c75:=by kernel_rfl
 c76:=by kernel_rfl
 c80:=by kernel_rfl
 c85:=by kernel_rfl
 c127:=by kernel_rfl
 c143:=by kernel_rfl
 c145:=by kernel_rfl
 c167:=by kernel_rfl
 c168:=by kernel_rfl
 c171:=by kernel_rfl
 c173:=by kernel_rfl
 c175:=by kernel_rfl
 c210:=by kernel_rfl
 c212:=by kernel_rfl
 c213:=by kernel_rfl
 c232:=by kernel_rfl
 c233:=by kernel_rfl}
end Go.Proofs
namespace Go.Proofs.YtjapkoofjlmdgaaGreatDoor
section
open Go.RowKit
theorem S9 (c)(w):N M 67 #[.int .u8 c] w fun e w'=>e=aV (.bool (Ug c))∧w'=w:=by
 by_cases h1:48≤c<;>by_cases h2:c≤57
 all_goals
  go_enter Tryz.func67,Tryz.ntmps67;go_wp2
  all_goals
   go_ret;exact⟨Ah (by simp_all [Ug]),rfl⟩
theorem Anz (c)(w):N M 359 #[.int .u8 c] w fun e w'=>e=aV (.bool (c==39))∧w'=w:=by
 go_enter Tryz.func359,Tryz.ntmps359;go_wp2;go_ret;simp
theorem An0 (s)(w)(hs:s.size≤T):N M 66 #[.func (.func 67) #[] #[],.string s] w fun e w'=>e=.returned (.int .i64 (I7 Bn s.data.toList:Nat))∧w'=w:=by
 unfold T at hs;go_enter Tryz.func66,Tryz.ntmps66;go_wp2
 go_loop [5] (fun i=>∃k,k≤s.size∧i=.int .i64 k∧Hid ((s.data.toList.take k).all Bn=A)) (fun i=>s.size-(intOf i).toNat)
 case atStart=>exact⟨0,Nat.zero_le _,rfl,rfl⟩
 case round=>
  obtain⟨k,hk,rfl,HG⟩:=hrel
  by_cases aa:k<s.size
  ·cases hc:Bn s[k]
   ·have ab:Ug (s[k].toNat:Int)=J:=by rw[Sy];exact hc
    have HE:Hid _:=Ow HG.out (fun c h=>by rw[Aj8 aa]at h;grind) (by simp_all);clear hc;go_wp2_with(refine(S9 _ _).mono ?_;rintro e w' ⟨rfl,rfl⟩);go_ret;exact⟨Au (by rw[HE.out]),rfl⟩
   ·have ab:Ug (s[k].toNat:Int)=A:=by rw[Sy];exact hc
    have HN:Hid _:=Wu aa HG.out hc;clear hc;go_wp2_with(refine(S9 _ _).mono ?_;rintro e w' ⟨rfl,rfl⟩);go_round
    case rel=>grind
    case measure=>simp[intOf];omega
  ·have HE:Hid _:=Ow HG.out (fun c h=>by simp_all) (by simp_all);go_wp2;go_ret;exact⟨Au (by rw[HE.out]),rfl⟩
theorem Auf (s:ByteArray):(s.extract 1 s.size).data.toList=s.data.toList.drop 1:=by
 rw[Lib.extract_data];simp[List.take_of_length_le]
theorem Afr (s:ByteArray)(w:World)(hs:s.size≤T)(h0:1≤s.size):N M 68 #[.string s] w fun e w'=>e=.returned (.int .i64 (if H (s.data.toList.drop 1) 39<0 then 0 else H (s.data.toList.drop 1) 39+2))∧w'=w:=by
 unfold T at hs;have ix:=aI Tryz.lays137 (s.extract 1 s.size) 39 w;rw[Auf,show(39:Int).toNat.toUInt8=39 from rfl]at ix;have aa:=j (s.data.toList.drop 1) 39;have ab:H (s.data.toList.drop 1) 39+1<s.size:=by
  rcases Int.lt_or_le (H (s.data.toList.drop 1) 39) 0 with h|h
  ·omega
  ·obtain⟨n,hn⟩:∃n:Nat,H (s.data.toList.drop 1) 39=n:=⟨(H (s.data.toList.drop 1) 39).toNat,by omega⟩;have:=(aB.1 (aN hn).1).1;simp at this;omega
 generalize H _ 39=n at ix aa ab⊢
 by_cases hn:n<0
 ·rw[if_pos hn];go_enter Tryz.func68,Tryz.ntmps68;go_wp2_with(go_fit ix;rintro e w' ⟨rfl,rfl⟩);go_ret;simp
 ·rw[if_neg hn];go_enter Tryz.func68,Tryz.ntmps68;go_wp2_with(go_fit ix;rintro e w' ⟨rfl,rfl⟩);go_ret;exact⟨Au (by omega),rfl⟩
theorem J3 (s:ByteArray)(h0:1≤s.size):s.data.toList=s[0]::s.data.toList.drop 1:=by
 have h:0<s.data.toList.length:=by rw[Dm];omega
 conv=>lhs;rw[←List.drop_zero (l:=s.data.toList)]
 rw[List.drop_eq_getElem_cons h];rfl
theorem Ak0 (s)(w)(hs:s.size≤T):N M 38 #[.string s] w fun e w'=>e=.returned (.int .i64 (C3 s.data.toList:Nat))∧w'=w:=by
 have ac:=hs;unfold T at ac
 by_cases h0:s.size=0
 ·have hl:s.data.toList=[]:=List.length_eq_zero_iff.1 (by rw[Dm];exact h0);have he:(s.toList.isEmpty)=A:=by rw[Lib.toList_data,hl];rfl
  have hw:C3 s.data.toList=0:=by rw[hl];rfl
  rw[hw];clear hw;go_enter R,O;go_wp2_with fail;go_ret;exact⟨rfl,rfl⟩
 ·have h1:1≤s.size:=by omega
  have hf:=J3 s h1;have he:(s.toList.isEmpty)=J:=by rw[Lib.toList_data,hf];rfl
  have hw:C3 s.data.toList=if Cc s[0]then I7 Cc s.data.toList else if Bn s[0]then I7 Bn s.data.toList else if Dr s[0]then(if H (s.data.toList.drop 1) 39<0 then 0 else(H (s.data.toList.drop 1) 39).toNat+2)else if 0≤H Ajo s[0]then 1 else 0:=by
   conv=>lhs;rw[hf]
   conv=>rhs;rw[hf]
   rfl
  have L:=fun W=>Vc (s[0].toNat:Int) W
  have D:=fun W=>S9 (s[0].toNat:Int) W
  simp only[Vb,Sy]at L D;have RL:=fun W=>Ru s W hs
  have RD:=fun W=>An0 s W hs
  have Q:=fun W=>Afr s W hs h1
  have IX:=fun W=>aI Tryz.lays137 ⟨#[40,41,44,59,46,61,60,43,45,42]⟩ (s[0].toNat:Int) W
  have ec:((s[0].toNat:Int)).toNat.toUInt8=s[0]:=by simp
  simp only[ec]at IX;have hq:((s[0].toNat:Int)==39)=Dr s[0]:=by
   unfold Dr;rw[Bool.eq_iff_iff,beq_iff_eq,beq_iff_eq,←UInt8.toNat_inj];simp;omega
  generalize C3 _=W at hw⊢;have HW:Hid _:=hw;clear hw hf;generalize I7 Cc _=rl at RL HW;generalize I7 Bn _=rd at RD HW;have ad:=j (s.data.toList.drop 1) 39;generalize H _ 39=n at Q HW ad;have aa:-1≤H Ajo s[0]:=j _ _;have ab:H Ajo _=H (⟨#[40,41,44,59,46,61,60,43,45,42]⟩:ByteArray).data.toList s[0]:=rfl;rw[ab]at HW aa;generalize H _ _=m at IX HW aa;clear ab;generalize Cc _=bl at L HW;generalize Bn _=bd at D HW;generalize Dr _=bq at hq HW;cases bl
  ·cases bd
   ·cases bq
    ·by_cases hm:0≤m
     ·go_enter R,O;go_wp2_with(first
       |(go_fit(L _);rintro e w' ⟨rfl,rfl⟩)
       |(go_fit(D _);rintro e w' ⟨rfl,rfl⟩)
       |(go_fit(IX _);rintro e w' ⟨rfl,rfl⟩))
      go_ret;exact⟨Au (by rw[HW.out];grind),rfl⟩
     ·go_enter R,O;go_wp2_with(first
       |(go_fit(L _);rintro e w' ⟨rfl,rfl⟩)
       |(go_fit(D _);rintro e w' ⟨rfl,rfl⟩)
       |(go_fit(IX _);rintro e w' ⟨rfl,rfl⟩))
      go_ret;exact⟨Au (by rw[HW.out];grind),rfl⟩
    ·go_enter R,O;go_wp2_with(first
      |(go_fit(L _);rintro e w' ⟨rfl,rfl⟩)
      |(go_fit(D _);rintro e w' ⟨rfl,rfl⟩)
      |(go_fit(Q _);rintro e w' ⟨rfl,rfl⟩))
     all_goals
      go_ret;exact⟨Au (by rw[HW.out];simp only[aK,if_false,if_true];split<;>omega),rfl⟩
   ·go_enter R,O;go_wp2_with(first
     |(go_fit(L _);rintro e w' ⟨rfl,rfl⟩)
     |(go_fit(D _);rintro e w' ⟨rfl,rfl⟩)
     |(go_fit(RD _);rintro e w' ⟨rfl,rfl⟩))
    go_ret;exact⟨Au (by rw[HW.out];simp),rfl⟩
  ·go_enter R,O;go_wp2_with(first
    |(go_fit(L _);rintro e w' ⟨rfl,rfl⟩)
    |(go_fit(RL _);rintro e w' ⟨rfl,rfl⟩))
   go_ret;exact⟨Au (by rw[HW.out];simp),rfl⟩
structure But (a:Nat) (w w':World):Prop where
 os:w'.os=w.os
 tape:w'.tape=w.tape
 output:w'.output=w.output
 size:w.heap.size≤w'.heap.size
 block:∀k,k<w.heap.size→k≠a→w'.heap[k]?=w.heap[k]?
theorem But.refl (a)(w):But a w w:=⟨rfl,rfl,rfl,Nat.le_refl _,fun _ _ _=>rfl⟩
theorem But.trans {a}{u v w}(h:But a u v)(k:But a v w):But a u w:=
 ⟨k.os.trans h.os,k.tape.trans h.tape,k.output.trans h.output,Nat.le_trans h.size k.size,fun i hi hn=>(k.block i (Nat.lt_of_lt_of_le hi h.size) hn).trans (h.block i hi hn)⟩
theorem But.of_below {a}{w w'}(h:Below w.heap.size w w'):But a w w':=⟨h.os,h.tape,h.output,h.size,fun k hk _=>h.block k hk⟩
theorem But.set {a}{w w'}(h:But a w w')(o)(u):But a w (w'.setCell ⟨a,o,I⟩ u):=
 h.trans ⟨rfl,rfl,rfl,by simp,fun k _ hn=>Below.heap_setCell _ _ _ _ hn⟩
theorem But.drew {a}{w w'}(h:But a w w'):But a w w'.drew:=⟨h.os,h.tape,h.output,h.size,h.block⟩
theorem But.alloc {a}{w w'}(h:But a w w')(o):But a w (w'.alloc o):=h.trans (.of_below ((Below.refl _ _).alloc (Nat.le_refl _) o))
theorem But.below {a B}{w w'}(h:But a w w')(hB:B≤a)(ha:B≤w.heap.size):Below B w w':=⟨h.os,h.tape,h.output,h.size,fun k hk=>h.block k (by omega) (by omega)⟩
def RdC (w:World)(a:Nat)(word rest:Wd)(d:Int)(wrong:Bool):Prop:=
 w.heap[a]?=F (.cells #[S word,S rest,.int .i64 d,.bool wrong] 87)
theorem RdC.lt {w}{a}{word rest}{d}{wrong}(h:RdC w a word rest d wrong):a<w.heap.size:=lt_of_block h
theorem RdC.cells {w}{a}{word rest}{d}{wrong}(h:RdC w a word rest d wrong):
  w.cell? ⟨a,0,I⟩=F (S word)∧w.cell? ⟨a,1,I⟩=F (S rest)∧w.cell? ⟨a,2,I⟩=F (.int .i64 d)∧w.cell? ⟨a,3,I⟩=F (.bool wrong):=
 ⟨Aa h rfl,Aa h rfl,Aa h rfl,Aa h rfl⟩
theorem RdC.frozen {w}{a}{word rest}{d}{wrong}(h:RdC w a word rest d wrong)(o):w.frozen? ⟨a,o,I⟩=J:=by
 simp[World.frozen?,show w.heap[a]?=_ from h]
theorem RdC.below {w w'}{a}{word rest}{d}{wrong}(h:RdC w a word rest d wrong)(hb:Below w.heap.size w w'):RdC w' a word rest d wrong:=(hb.block a h.lt).trans h
theorem RdC.set0 {w}{a}{word rest}{d}{wrong}(h:RdC w a word rest d wrong)(x:Wd):RdC (w.setCell ⟨a,0,I⟩ (S x)) a x rest d wrong:=by
 unfold RdC at h⊢;simp only[X,U,if_true,h];rfl
theorem RdC.set1 {w}{a}{word rest}{d}{wrong}(h:RdC w a word rest d wrong)(x:Wd):RdC (w.setCell ⟨a,1,I⟩ (S x)) a word x d wrong:=by
 unfold RdC at h⊢;simp only[X,U,if_true,h];rfl
theorem RdC.set2 {w}{a}{word rest}{d}{wrong}(h:RdC w a word rest d wrong)(x):RdC (w.setCell ⟨a,2,I⟩ (.int .i64 x)) a word rest x wrong:=by
 unfold RdC at h⊢;simp only[X,U,if_true,h];rfl
theorem RdC.set3 {w}{a}{word rest}{d}{wrong}(h:RdC w a word rest d wrong)(x):RdC (w.setCell ⟨a,3,I⟩ (.bool x)) a word rest d x:=by
 unfold RdC at h⊢;simp only[X,U,if_true,h];rfl
theorem RdC.drew {w}{a}{word rest}{d}{wrong}(h:RdC w a word rest d wrong):RdC w.drew a word rest d wrong:=h
inductive Reads:Wd→Wd→Bool→St→Prop
 |wrong:Reads noW noW A I
 |over:Reads noW noW J (F [])
 |word {x r:Wd}:IsTok x→x.size≤1500→r.size≤1500→Reads x r J (F (x::Ie r.data.toList))
def Rd (w:World)(a:Nat)(s:St)(d:Int):Prop:=∃x r b,RdC w a x r d b∧Reads x r b s
theorem Rd.below {w w'}{a}{s}{d}(h:Rd w a s d)(hb:Below w.heap.size w w'):Rd w' a s d:=by
 obtain⟨x,r,b,h1,h2⟩:=h;exact⟨x,r,b,h1.below hb,h2⟩
theorem Rd.lt {w}{a}{s}{d}(h:Rd w a s d):a<w.heap.size:=by
 obtain⟨x,r,b,h1,h2⟩:=h;exact h1.lt
theorem R4 (a)(w)(x r)(d)(b)(h:RdC w a x r d b):
  N M 39 #[.pointer (F ⟨a,0,I⟩)] w fun e w'=>e=aV (.tuple #[])∧RdC w' a noW noW d A∧But a w w':=by
 obtain⟨c0,c1,c2,c3⟩:=h.cells;have f0:=h.frozen 0;have f1:=h.frozen 1;have f3:=h.frozen 3;go_enter Tryz.func39,Tryz.ntmps39;go_wp2
 go_end0
 exact⟨rfl,((h.set0 _).set1 _).set3 _,(((But.refl a w).set _ _).set _ _).set _ _⟩
theorem Ak1 (s)(w):N M 37 #[.string s,.string ⟨#[32,10]⟩] w fun e w'=>e=.returned (.string (str (s.data.toList.dropWhile Dz)))∧Below w.heap.size w w':=
 Any.strings_TrimLeft_laid Tryz.lays161 (by kernel_rfl) s ⟨#[32,10]⟩ w (by decide) (ascii_of_all (by rfl))
end
end Go.Proofs.YtjapkoofjlmdgaaGreatDoor
