/-
  11 texts of this proof in one,in build order:YRef,YBindM,WWith2,YMade,YBind,YBind2,YBindAs,YBindAll,YBindRow,YBindSet,YColumn.
-/
import Derived.Deep.MidRow
import Derived.Laws.MakeOwn
import Derived.Deep.RegionHeld3
import Derived.Deep.CutRange
import Derived.Maps.AppendAt
import Derived.Test.YtjapkoofjlmdgaaGreatDoorJ01
import Derived.Test.YtjapkoofjlmdgaaGreatDoorJ06
set_option linter.unusedSimpArgs false
set_option linter.unusedVariables false
set_option maxRecDepth 100000
set_option maxHeartbeats 0
open Go.Value renaming agg→U,int→I,oneCell'→cS,pointer→cE,slice→D,string→T,tuple→aJ
open List renaming append_assoc→cP,cons_append→aW,eq_nil_of_length_eq_zero→bW,filter_cons→bK,getElem?_eq_getElem→aD,getElem?_eq_some_iff→cC,getElem_of_mem→cJ,length_append→aI,length_map→bB,length_take→cQ,map_append→cV,mem_of_getElem?→aG,nil_append→bZ,pairwise_cons→cM,setIfInBounds_toArray→aA,set_cons_succ→aC,set_cons_zero→aB,take_add_one→aS,take_append_drop→aQ,take_length→aV,take_zero→bG
open Nat renaming add_zero→aU,le_refl→aX,le_trans→Y,lt_of_lt_of_le→aH,mul_le_mul_right→cI,mul_one→bY,zero_le→aZ
open Go.Obj renaming cells→J
open Except renaming error→O
open Option renaming none→G,some→H
open Go.Act renaming put→Z
open Go.IntKind renaming i64→M
open Go.Proofs.Tryz renaming func226→cF,func228→bS,ntmps226→cD,ntmps228→bP,prog→aM,results160→cU,results226→bX,results228→aY,results291→cT,underlying67→cO,underlying69→aE
open Go.Ending renaming returned→aF
open Go renaming Calls→bN,Value→aK,World→aT,bodyPost_ret→aP,info_parts→bV,lt_of_block→aR,run_make→cR,size_madeCells→bR,undef→cK,wpAnyH_done→bQ,wpList_store_mid→bA,wpList_store_row→aL,wp_region_held_drew→bU
open Go.RowKit.Below renaming heap_setCell→aN
open Prod renaming fst→aO,snd→bT
open Go.World renaming cell?→cH,drew→bD,frozen?→cB,setCells→bC
open Except.error renaming inj→bE,injEq→bM
open Go.Proofs renaming intOf→bF
open Bool renaming false→bO,false_eq_true→cN,true→bH
open Go.Region renaming wanted→bI
open Int renaming le_refl→cA,toNat_natCast→bJ
open Go.Instr renaming makeSlice→bL
open Array renaming getElem?_modify→cG
open Go.Value.agg renaming inj→cL
namespace Go.Proofs.YtjapkoofjlmdgaaGreatDoor
section
open Go.RowKit Go.Maps
structure RefS where
 found:Nat
 kind:Int
 n:Int
 ahead:Nat
def Qc (t:TabD)(s name:Wd):Bool:=decide (0≤Dy t.cols name)&&(decide (s.size=0)||decide (s=t.name))
def Fq (s name:Wd)(r:RefS)(t:TabD):RefS:=
 ⟨if Qc t s name then r.found+1 else r.found,if Qc t s name then((t.cols[(Dy t.cols name).toNat]?).map ColD.ty).getD 0 else r.kind,if Qc t s name then(r.ahead:Int)+Dy t.cols name else r.n,r.ahead+t.cols.length⟩
def Er (S:List TabD)(s name:Wd)(n:Int):RefS:=S.foldl (Fq s name) ⟨0,0,n,0⟩
theorem An5 (S)(t)(s name)(n):Er (S++[t]) s name n=Fq s name (Er S s name n) t:=by simp[Er]
theorem Kj (l)(s):Dy l s= -1∨∃(k:Nat) (x:ColD),Dy l s=(k:Int)∧l[k]?=H x∧x.name=s:=by
 rcases N4 l (fun x=>decide (x.name=s))with⟨h1,_⟩|⟨k,x,h1,h2,h3,_⟩
 ·exact .inl h1
 ·exact .inr ⟨k,x,h1,h2,by grind⟩
theorem Arq {a}(h:0≤a)(h2:a≤4000000000):IntKind.i64.wrap a=a:=by rw[IntKind.wrap_i64];omega
theorem Fi {P}{fn}{p q r:Tmp}{ty}(h:fn.results=#[.cell p ty,.tmp q,.tmp r])(tmps:Array aK)(w)(g)(t)(cs)(fr)(d)(v u)
  (hp:tmps.getD p cK=cE (H ⟨g,0,G⟩)) (hq:tmps.getD q cK=v) (hr:tmps.getD r cK=u) (hg:w.heap[g]?=H (J cs t fr))
  (hu:P.underlying ty=H d) (hd:(match d with|.struct _|.array _ _=>bH|_=>bO)=bH) (hi:(P.info? ty).map (·.size)=H cs.size):
  (results fn tmps).run P w=.ok (aJ #[U cs,v,u]) w:=by
 have aa:tmps[p]?.getD cK=cE (H ⟨g,0,G⟩):=by simpa using hp
 have ab:tmps[q]?.getD cK=v:=by simpa using hq
 have ac:tmps[r]?.getD cK=u:=by simpa using hr
 simp[results,h,aa,ab,ac,asAddr,run_loadVar_row w g t ty cs fr d hg hu hd hi]
theorem Ay:(Tryz.prog.info? 69).map (·.size)=H 8:=by kernel_rfl
theorem C5 (op)(x)(s name)(n)(ao)(k c):(Af op x s name n (D ao k c)).all (·.oneCell')=bH:=by simp[cS]
def Uu (op:Int)(x:V)(s name:Wd)(ao:Option Addr)(k c:Nat)(r:RefS):aK:=
 if r.found=1 then aJ #[U (Af op x s name r.n (D ao k c)),I M r.kind,I M 0]else aJ #[U (Af 0 zero noW noW 0 (D G 0 0)),I M 0,I M 3]
theorem Adx {op}{x}{s name}{ao}{k c}{r}(h:r.found=1):Uu op x s name ao k c r=aJ #[U (Af op x s name r.n (D ao k c)),I M r.kind,I M 0]:=if_pos h
theorem Ady {op}{x}{s name}{ao}{k c}{r}(h:¬r.found=1):Uu op x s name ao k c r=aJ #[U (Af 0 zero noW noW 0 (D G 0 0)),I M 0,I M 3]:=if_neg h
theorem An6 (S:List TabD)(sv:aK)(op:Int)(x:V)(s name:Wd)(n:Int)(ao:Option Addr)(k c:Nat)(C:Nat)(w:aT)(hl:IsL Ci (fun k=>k<C) w sv S)(hC:C≤w.heap.size)(hS:S.length≤1000)(bf:∀t∈S,t.cols.length≤1000000):
  bN aM 291 #[sv,U (Af op x s name n (D ao k c))] w fun e w'=>e=aF (Uu op x s name ao k c (Er S s name n))∧Below w.heap.size w w':=by
 obtain⟨so,sc,rfl⟩:=hl.shape;obtain⟨xk,xn,xs⟩:=x;obtain⟨bg,ay,az,-⟩:=al2 w (J (Af op ⟨xk,xn,xs⟩ s name n (D ao k c)) 69) (J (Af 0 zero noW noW 0 (D G 0 0)) 69);generalize hr:Uu op ⟨xk,xn,xs⟩ s name ao k c (Er S s name n)=R;have HR:Hid (Uu op ⟨xk,xn,xs⟩ s name ao k c (Er S s name n)=R):=hr;clear hr;go_enter Tryz.func291,Tryz.ntmps291;go_wp2
 go_loopw[7,8,9,15] (fun fv kv av i wr=>∃(j:Nat) (q:RefS),j≤S.length∧i=I M j∧fv=I M (q.found:Nat)∧kv=I M q.kind∧av=I M (q.ahead:Nat)∧Hid (Er (S.take j) s name n=q)∧q.found≤j∧q.ahead≤j*1000000∧wr.heap[w.heap.size]?=H (J (Af op ⟨xk,xn,xs⟩ s name q.n (D ao k c)) 69)∧wr.heap[w.heap.size+1]?=H (J (Af 0 zero noW noW 0 (D G 0 0)) 69)∧Below w.heap.size w wr) (fun _ _ _ i _=>S.length-(bF i).toNat)
 case atStart=>exact⟨0,⟨0,0,n,0⟩,aZ _,rfl,rfl,rfl,rfl,rfl,aX _,by simp,ay,az,bg⟩
 case round=>
  obtain⟨j,q,hj,rfl,rfl,rfl,rfl,HQ,bo,bp,hE,hZ,ad⟩:=hrel;clear ay az;have bh:=aR hE;have bi:=aR hZ
  by_cases bj:j<S.length
  ·obtain⟨t,ht⟩:∃t,S[j]?=H t:=⟨_,aD bj⟩;have ab:Hid (Er (S.take (j+1)) s name n=Fq s name q t):=by
    show _=_;rw[aS,ht];exact(An5 _ _ _ _ _).trans (by rw[HQ.out])
   have bq:=bf t (aG ht);obtain⟨b,bt,cs,rfl,bu,hb,⟨cv,rfl,ap⟩,aq⟩:=Av (hl.keep (Ae (ad.mono hC))) ht;obtain⟨co,cc,rfl⟩:=ap.shape;have d0:=aq 0 _ rfl;have d1:=aq 1 _ rfl;simp only[Ci,aU]at d0 d1;have j0:(0:Int)≤(j:Int):=by omega
   have j1:(j:Int)<(S.length:Int):=by omega
   have e2:=Aa hE (j:=4) rfl;have e3:=Aa hE (j:=5) rfl;have ar:=Aq wr (J #[T t.name,D co t.cols.length cc] 74);have HF:=L6 t.cols t.name (D co t.cols.length cc) name C _ (ap.keep (Ae (ar.mono (Y hC ad.size)))) (Y (Y hC ad.size) ar.size);clear aq ht;go_upto_region 6 with(go_fit HF;rintro e w1 ⟨rfl,ba⟩);have ah:=Ac ar ba;have ai:Below w.heap.size w w1:=ad.trans (ah.mono ad.size);have ae:=(ah.block _ bh).trans hE;have aj:=(ah.block _ bi).trans hZ;have bb:w1.heap[wr.heap.size]?=H (J #[T t.name,D co t.cols.length cc] 74):=(ba.block _ (by simp)).trans (Ab _ _);have g4:=Aa ae (j:=4) rfl;have t0:=Aa bb (j:=0) rfl;have t1:=Aa bb (j:=1) rfl;have w3:wrap64 ((q.ahead:Int)+(t.cols.length:Int))=(q.ahead:Int)+(t.cols.length:Int):=by unfold wrap64;omega
   have ak:Hid (Fq s name q t=⟨if Qc t s name then q.found+1 else q.found,if Qc t s name then((t.cols[(Dy t.cols name).toNat]?).map ColD.ty).getD 0 else q.kind,if Qc t s name then(q.ahead:Int)+Dy t.cols name else q.n,q.ahead+t.cols.length⟩):=rfl;have ac:Hid (Qc t s name=(decide (0≤Dy t.cols name)&&(s.toList.isEmpty||(s.toList==t.name.toList)))):=by show _=_;rw[Qc,Ky,Jj]
   have HM:Qc t s name=bO→Fq s name q t=⟨q.found,q.kind,q.n,q.ahead+t.cols.length⟩:=fun h=>by rw[ak.out,h];rfl
   by_cases al:Dy t.cols name= -1
   ·have aa:Hid _:=HM (by rw[ac.out,al];rfl);rw[al];clear HF HM ac ak al;generalize Fq s name q t=q' at ab aa;have af:Hid _:=ab.out.trans aa.out;go_wp2_with fail;go_roundw
    case rel=>exact⟨_,⟨_,_,q.n,q.ahead+t.cols.length⟩,by omega,by rfl,rfl,rfl,by simp,af,by grind,by grind,ae,aj,ai⟩
    case measure=>(try clear q4);(try clear w3);simp[bF];omega
   ·obtain⟨kk,x,am,au,_⟩:∃(k:Nat) (x:ColD),Dy _ name=k∧t.cols[k]?=H x∧x.name=name:=by
     rcases Kj t.cols name with h|h
     ·omega
     omega
    rw[am];rw[am]at ac;have bv:kk<t.cols.length:=(cC.1 au).1;obtain⟨cb,an,bw,rfl,bk,bx,bl,bc⟩:=Av (ap.keep (Ae (ah.mono (Y hC ad.size)))) au;obtain rfl:=bl;have c1:=bc 1 _ rfl;simp only[Cp]at c1;have q0:(0:Int)≤kk:=by omega
    have q1:kk<(t.cols.length:Int):=by omega
    have q4:IntKind.i64.wrap _=q.ahead+kk:=Arq (by omega) (by omega);have HH:Qc t s name=bH→Fq s name q t=⟨q.found+1,x.ty,q.ahead+kk,q.ahead+t.cols.length⟩:=fun h=>by
     rw[ak.out,h,am];simp_all
    have g6:=Aa ae (j:=6) rfl;have f6:∀o,w1.frozen? ⟨w.heap.size,o,G⟩=bO:=fun o=>by simp[cB,ae]
    have bz:=aH bk hC;clear HF ak al am au bc;cases aw:s.toList.isEmpty
    ·cases bd:(s.toList==t.name.toList)
     ·have aa:Hid _:=HM (by rw[ac.out,aw,bd];simp);clear HM ac HH;generalize Fq s name q t=q' at ab aa;have af:Hid _:=ab.out.trans aa.out;clear ab aa;go_wp2_with fail;go_roundw
      case rel=>clear q4 w3;exact⟨_,⟨_,_,q.n,q.ahead+t.cols.length⟩,by omega,by rfl,rfl,rfl,by simp,af,by grind,by grind,ae,aj,ai⟩
      case measure=>(try clear q4);(try clear w3);simp[bF];omega
     ·have aa:Hid _:=HH (by rw[ac.out,aw,bd];simp);clear HM ac HH;generalize Fq s name q t=q' at ab aa;have af:Hid _:=ab.out.trans aa.out;clear ab aa;go_wp2_with fail
      go_region_held3(fun w'=>w'.cell? ⟨wr.heap.size,1,G⟩=H (D (H ⟨cb,an,G⟩) t.cols.length cc)∧w'.cell? ⟨cb,an+kk*3+1,G⟩=H (I M x.ty)) (first|exact⟨t1,c1⟩|exact⟨(A1 (by omega) _ _ _).trans t1,(A1 (by omega) _ _ _).trans c1⟩)
       (first|fail)
      go_wp2;go_roundw
      case rel=>clear q4 w3;exact⟨_,_,by omega,by rfl,by simp,rfl,by simp,af,by grind,by grind,Dh ae 6 _,(aN _ _ _ _ (show w.heap.size+1≠w.heap.size by omega)).trans aj,ai.drew.setCell (show w.heap.size≤w.heap.size from aX _) _⟩
      case measure=>(try clear q4);(try clear w3);simp[bF];omega
    ·have aa:Hid _:=HH (by rw[ac.out,aw];simp);clear HM ac HH;generalize Fq s name q t=q' at ab aa;have af:Hid _:=ab.out.trans aa.out;clear ab aa;go_wp2_with fail
     go_region_held3(fun w'=>w'.cell? ⟨wr.heap.size,1,G⟩=H (D (H ⟨cb,an,G⟩) t.cols.length cc)∧w'.cell? ⟨cb,an+kk*3+1,G⟩=H (I M x.ty)) (first|exact⟨t1,c1⟩|exact⟨(A1 (by omega) _ _ _).trans t1,(A1 (by omega) _ _ _).trans c1⟩)
      (first|fail)
     go_wp2;go_roundw
     case rel=>clear q4 w3;exact⟨_,_,by omega,by rfl,by simp,rfl,by simp,af,by grind,by grind,Dh ae 6 _,(aN _ _ _ _ (show w.heap.size+1≠w.heap.size by omega)).trans aj,ai.drew.setCell (show w.heap.size≤w.heap.size from aX _) _⟩
     case measure=>(try clear q4);(try clear w3);simp[bF];omega
  ·have bm:j=S.length:=by omega
   subst bm;have be:Hid (R=Uu op ⟨xk,xn,xs⟩ s name ao k c q):=by show _=_;rw[←HR.out,←HQ.out,aV]
   have j1:¬S.length<(S.length:Int):=by omega
   clear HQ HR
   by_cases ag:q.found=1
   ·have bn:((q.found:Int)!=1)=bO:=by rw[ag];rfl
    have ax:Hid _:=ag;clear ag;go_wp2_with(first|refine wpList_load_row rfl 69 _ rfl _ rfl 69 _ _ _ hE aE rfl Ay ?_|refine aL rfl 69 _ _ rfl _ _ rfl rfl 69 _ hZ Ay rfl (C5 op ⟨xk,xn,xs⟩ s name q.n ao k c) ?_);exact aP (v:=aJ #[U _,I _ _,I _ 0]) (Fi cT _ _ _ 69 _ _ _ _ _ rfl rfl rfl (Ao hZ) aE rfl Ay) rfl ⟨by rw[be.out,Adx ax.out],Below.row ad (by omega) _⟩
   ·have bn:((q.found:Int)!=1)=bH:=by simp;omega
    have ax:Hid (¬q.found=1):=ag;clear ag;go_wp2_with(first|refine aL rfl 69 _ _ rfl _ _ rfl rfl 69 _ hZ Ay rfl (C5 0 zero noW noW 0 G 0 0) ?_);exact aP (v:=aJ #[U (Af 0 zero noW noW 0 _),I _ 0,I _ 3]) (Fi cT _ _ _ 69 _ _ _ _ _ rfl rfl rfl (Ao hZ) aE rfl Ay) rfl ⟨by rw[be.out,Ady ax.out],Below.row ad (by omega) _⟩
end
section
mutual
def Cu (S:List TabD):E→Except Int (E×Int)
 |.mk op x s name n l=>
  if op=1 then .ok (.mk op x s name n l,x.k)
  else if op=2 then
   if(Er S s name n).found=1 then .ok (.mk op x s name (Er S s name n).n l,(Er S s name n).kind)else O 3
  else match Bd S l with
   |O m=>O m
   |.ok r=>if Abv op (r.map bT)then .ok (.mk op x s name n (r.map aO),Pr op)else O 5
def Bd (S:List TabD):List E→Except Int (List (E×Int))
 |[]=>.ok []
 |e::l=>match Cu S e with
  |O m=>O m
  |.ok r=>match Bd S l with
   |O m=>O m
   |.ok rs=>.ok (r::rs)
end
theorem Kk (S):∀(l:List E) (e:E),Bd S (l++[e])=match Bd S l with
  |O m=>O m
  |.ok rs=>match Cu S e with
   |O m=>O m
   |.ok r=>.ok (rs++[r])
 |[],e=>by rfl
 |x::l,e=>by
  simp only[aW,Bd,Kk S l e];cases Cu S x with
  |error m=>rfl
  |ok r=>
   cases Bd S l with
   |error m=>rfl
   |ok rs=>grind
theorem Mj (S):∀(l m:List E),(∀k,Bd S l=O k→Bd S (l++m)=O k)
 |[],m,k,h=>by simp[Bd]at h
 |x::l,m,k,h=>by
  simp only[aW,Bd]at h⊢;cases hx:Cu S x with
  |error j=>grind
  |ok r=>
   rw[hx]at h;simp only at h⊢;cases hl:Bd S l with
   |error j=>
    rw[hl]at h;rw[Mj S l m j hl];omega
   |ok rs=>grind
theorem Adz (S):∀(l:List E) (rs:List (E×Int)),Bd S l=.ok rs→rs.length=l.length
 |[],rs,h=>by simp[Bd]at h;grind
 |x::l,rs,h=>by
  simp only[Bd]at h;cases hx:Cu S x with
  |error j=>grind
  |ok r=>
   rw[hx]at h;simp only at h;cases hl:Bd S l with
   |error j=>grind
   |ok rs'=>
    rw[hl]at h;simp only[Except.ok.injEq]at h;subst h;simp[Adz S l rs' hl]
end
section
open Go.RowKit Go.Maps
def Ec {α:Type}(nm:α→Wd)(l:List α)(x:α):List α:=l.filter (fun y=>klt (nm y) (nm x))++x::l.filter (fun y=>!klt (nm y) (nm x))
def A7 (ct:CatD)(st:Stm):CatD:=
 if st.kind=1 then⟨Ec TabD.name ct.tables ⟨st.name,st.cols⟩,ct.indexes⟩
 else if st.kind=2 then⟨ct.tables,Ec IdxD.name ct.indexes ⟨st.name,st.table,st.col⟩⟩
 else if st.kind=3 then⟨ct.tables.filter (fun t=>!decide (t.name=st.name)),ct.indexes.filter (fun x=>!decide (x.table=st.name))⟩
 else ct
theorem All.split {α}{K}{F}{w}:∀{l m:List α}{cs:List aK},All K F w (l++m) cs→∃c1 c2,cs=c1++c2∧All K F w l c1∧All K F w m c2
 |[],m,cs,h=>⟨[],cs,rfl,rfl,h⟩
 |a::l,m,cs,h=>by
  obtain⟨c,rest,rfl,h2,h3⟩:=h;obtain⟨c1,c2,rfl,h4,h5⟩:=All.split h3;exact⟨_,c2,by simp,⟨c,c1,rfl,h2,h4⟩,h5⟩
theorem Sb {α:Type}(nm:α→Wd)(s:Wd):∀(l:List α),Cb (l.map nm)→l=l.filter (fun y=>klt (nm y) s)++l.filter (fun y=>!klt (nm y) s)
 |[],_=>rfl
 |a::l,h=>by
  have hr:Cb _:=(cM.1 h).2;cases hk:klt _ s with
  |true=>
   rw[bK,bK,hk];simp only[if_true,Bool.not_true,aW];have:=Sb nm s l hr;grind
  |false=>
   have hn:∀y∈l,klt _ s=bO:=fun y hy=>by
    cases aa:klt _ s with
    |false=>rfl
    |true=>
     have:=Co (((cM.1 h).1) _ (List.mem_map_of_mem hy)) aa;grind
   rw[bK,bK,hk];simp only[cN,if_false,Bool.not_false,if_true];rw[List.filter_eq_nil_iff.2 (fun y hy=>by grind),List.filter_eq_self.2 (fun y hy=>by grind)];rfl
def nmC:List aK→Wd
 |T s::_=>s
 |_=>noW
theorem Auj (c)(s:Wd)(r)(h:c=T s::r):nmC c=s:=by subst h;rfl
theorem Yd {F}{w}{x}{c}(h:Ci.R F w x c):Lm c∧nmC c=x.name:=by
 obtain⟨sv,rfl,aa⟩:=h;obtain⟨ao,cp,rfl⟩:=aa.shape;exact⟨⟨_,_,_,_,rfl⟩,rfl⟩
theorem Ye {F}{w}{x}{c}(h:D6.R F w x c):Md c∧nmC c=x.name:=by
 obtain rfl:=h;exact⟨⟨_,_,_,rfl⟩,rfl⟩
theorem Ak7 {F:Nat→Prop}{w:aT}{l:List TabD}{cs:List aK}(h:All Ci F w l cs):∃CS:List (List aK),cs=CS.flatten∧CS.length=l.length∧(∀c∈CS,Lm c)∧(∀(i:Nat) (x:TabD) (c:List aK),l[i]?=H x→CS[i]?=H c→Ci.R F w x c∧nmC c=x.name):=by
 obtain⟨CS,h1,h2,h3⟩:=Uk h;have hs:∀(i:Nat) (x:TabD) (c:List aK),l[i]?=H x→CS[i]?=H c→Lm c∧nmC c=x.name:=fun i x c hx hc=>Yd (h3 i x c hx hc)
 refine⟨CS,h1,h2,fun c hc=>?_,fun i x c hx hc=>⟨h3 i x c hx hc,(hs i x c hx hc).2⟩⟩;obtain⟨i,hi,rfl⟩:=cJ hc;exact(hs i _ _ (aD (by omega)) (aD hi)).1
theorem Ax3 {F:Nat→Prop}{w:aT}{sv:aK}{CS:List (List aK)}(hr:Bp F 2 w sv CS.length CS.flatten)(hs:∀c∈CS,Lm c):IsL Ng (fun _=>True) w sv CS:=
 ⟨CS.flatten,hr.mono fun _ _ _=>trivial,Lo rfl fun i x c h1 h2=>by rw[h1]at h2;cases h2;exact⟨rfl,hs _ (aG h1)⟩⟩
theorem Ak8 {F:Nat→Prop}{w:aT}{l:List IdxD}{cs:List aK}(h:All D6 F w l cs):∃CS:List (List aK),cs=CS.flatten∧CS.length=l.length∧(∀c∈CS,Md c)∧(∀(i:Nat) (x:IdxD) (c:List aK),l[i]?=H x→CS[i]?=H c→D6.R F w x c∧nmC c=x.name):=by
 obtain⟨CS,h1,h2,h3⟩:=Uk h;have hs:∀(i:Nat) (x:IdxD) (c:List aK),l[i]?=H x→CS[i]?=H c→Md c∧nmC c=x.name:=fun i x c hx hc=>Ye (h3 i x c hx hc)
 refine⟨CS,h1,h2,fun c hc=>?_,fun i x c hx hc=>⟨h3 i x c hx hc,(hs i x c hx hc).2⟩⟩;obtain⟨i,hi,rfl⟩:=cJ hc;exact(hs i _ _ (aD (by omega)) (aD hi)).1
theorem Ax4 {F:Nat→Prop}{w:aT}{sv:aK}{CS:List (List aK)}(hr:Bp F 3 w sv CS.length CS.flatten)(hs:∀c∈CS,Md c):IsL Nh (fun _=>True) w sv CS:=
 ⟨CS.flatten,hr.mono fun _ _ _=>trivial,Lo rfl fun i x c h1 h2=>by rw[h1]at h2;cases h2;exact⟨rfl,hs _ (aG h1)⟩⟩
end
section
open Go.RowKit
theorem Xc {b}{t}{fr}:∀(vs old aa post:List aK) (w:aT),w.heap[b]?=H (J (aa++old++post).toArray t fr)→old.length=vs.length→(w.setCells b aa.length vs).heap[b]?=H (J (aa++vs++post).toArray t fr)
 |[],old,aa,post,w,h,hl=>by
  have:=bW (by omega);subst this;assumption
 |v::vs,[],aa,post,w,h,hl=>by grind
 |v::vs,y::old,aa,post,w,h,hl=>by
  have h1:=Dh h aa.length v;have e:(aa++(y::old)++post).toArray.setIfInBounds aa.length v=((aa++[v])++old++post).toArray:=by simp
  rw[e]at h1;have:=Xc vs old _ post _ h1 (by grind);rw[bC];grind
theorem Ey {B g}(hB:B≤g){a}:∀(vs:List aK) (o:Nat) (w:aT),Below B a w→Below B a (w.setCells g o vs)
 |[],_,_,h=>h
 |v::vs,o,_,h=>Ey hB vs (o+1) _ (h.setCell (p:=⟨g,o,G⟩) hB v)
theorem Gb (g):∀(vs:List aK) (o:Nat) (w:aT),(w.setCells g o vs).heap.size=w.heap.size
 |[],_,_=>rfl
 |v::vs,o,w=>by rw[bC,Gb g vs];simp
theorem Dx {g k}(aa:k≠g):∀(vs:List aK) (o:Nat) (w:aT),(w.setCells g o vs).heap[k]?=w.heap[k]?
 |[],_,_=>rfl
 |v::vs,o,w=>by rw[bC,Dx aa vs,aN w _ v k aa]
theorem Uv {F}{g}(hg:¬F g)(vs)(o)(w):Keeps F w (w.setCells g o vs):=
 ⟨by rw[Gb];simp,fun k hk _=>Dx (by grind) vs o w⟩
def El {α:Type}(K:Elem α)(F:Nat→Prop)(w:aT)(g n:Nat)(l:List α):Prop:=
 ∃cs rest t,w.heap[g]?=H (J (cs++rest).toArray t)∧(cs++rest).length=n*K.size∧All K F w l cs
theorem O7 {α}(K:Elem α)(F){w:aT}{arr}{t}{n}(h:arr.size=n*K.size):El K F (w.alloc (J arr t)) w.heap.size n []:=
 ⟨[],arr.toList,t,by simpa using Ab w _,by grind,rfl⟩
theorem El.keep {α}{K}{F}{w w'}{g n}{l:List α}(h:El K F w g n l)(hk:Keeps F w w')(hg:w'.heap[g]?=w.heap[g]?):El K F w' g n l:=by
 obtain⟨cs,rest,t,h1,h2,h3⟩:=h;exact⟨cs,rest,t,hg.trans h1,h2,h3.keep hk⟩
theorem El.lt {α}{K}{F}{w}{g n}{l:List α}(h:El K F w g n l):g<w.heap.size:=by
 obtain⟨cs,rest,t,h1,_⟩:=h;grind
theorem El.below {α}{K}{F}{w w'}{g n}{l:List α}(h:El K F w g n l)(hb:Below w.heap.size w w'):El K F w' g n l:=h.keep (Ak hb) (hb.block g h.lt)
theorem El.there {α}{K}{F}{w}{g n}{l:List α}(h:El K F w g n l){i}(hi:i<n):w.there g (i*K.size) K.size:=by
 obtain⟨cs,rest,t,h1,h2,_⟩:=h;intro j hj;have aa:i*K.size+j<(cs++rest).length:=by
  rw[h2];have:(i+1) *K.size≤n*K.size:=cI _ hi;rw[Nat.add_mul]at this;omega
 refine⟨?_,by simp[cB,h1]⟩;rw[Aa h1 (u:=(cs++rest)[i*K.size+j]) (by simp)];rfl
theorem El.set {α}{K}{F}{w}{g n}{l}(h:El K F w g n l)(hl:l.length<n)(hg:¬F g){a:α}{c}(hc:K.R F w a c):El K F (w.setCells g (l.length*K.size) c) g n (l++[a]):=by
 obtain⟨cs,rest,t,h1,h2,h3⟩:=h;have e1:=h3.length;have e2:=K.len hc;have ab:K.size≤rest.length:=by
  rw[aI]at h2;have:(l.length+1) *K.size≤n*K.size:=cI _ hl;rw[Nat.add_mul]at this;omega
 have hk:=Uv hg c (l.length*K.size) w;refine⟨_,rest.drop K.size,t,?_,?_,(h3.keep hk).append (All.one (K.keep hk hc))⟩
 ·have aa:w.heap[g]?=H (J (cs++rest.take K.size++rest.drop K.size).toArray t):=by rw[cP,aQ];exact h1
  have:=Xc c _ cs _ w aa (by grind);grind
 grind
theorem El.set1 {α}{K}{F}{w}{g n}{l}(h:El K F w g n l)(hl:l.length<n)(hg:¬F g)(hK:K.size=1){a:α}{v}(hc:K.R F w a [v]):El K F (w.setCell ⟨g,l.length,G⟩ v) g n (l++[a]):=by
 have:=h.set hl hg hc;rw[hK,bY]at this;exact this
theorem El.whole {α}{K}{F F'}{w}{g n}{l:List α}(h:El K F w g n l)(hl:l.length=n)(hF:∀k,F k→F' k)(hg:F' g)(hn:n≤maxLen):IsL K F' w (D (H ⟨g,0,G⟩) n n) l:=by
 obtain⟨cs,rest,t,h1,h2,h3⟩:=h;subst hl;have e1:=h3.length;have hr:rest=[]:=bW (by grind);subst hr;refine⟨cs,⟨e1,?_⟩,h3.mono fun k _=>hF k⟩
 by_cases h0:l.length=0
 ·exact .inl ⟨h0,_,_,by rw[h0],fun h=>by rfl⟩
 ·refine .inr ⟨by omega,g,0,_,rfl,hg,aR h1,aX _,hn,fun j u hj=>?_⟩;rw[Nat.zero_add];exact Aa h1 (by grind)
theorem Aaq {w:aT}{g o n}(h:w.there g o n){j}(hj:j<n):(∃u,w.cell? ⟨g,o+j,G⟩=H u)∧w.frozen? ⟨g,o+j,G⟩=bO:=
 ⟨Option.isSome_iff_exists.1 (h j hj).1,(h j hj).2⟩
end
section
open Go.RowKit Go.Maps
def Nk (S:List TabD)(e:E)(B:Nat)(w':aT)(v:aK):Prop:=
 match Cu S e with
 |O m=>v=aJ #[U (Af 0 zero noW noW 0 (D G 0 0)),I M 0,I M m]
 |.ok r=>∃(op:Int) (x:V) (s name:Wd) (n:Int) (ao:Option Addr) (k c:Nat),v=aJ #[U (Af op x s name n (D ao k c)),I M r.2,I M 0]∧IsE (Fr B) w' r.1 (U (Af op x s name n (D ao k c)))
theorem Gc {S}{e}{m}(h:Cu S e=O m){B}{w'}{v}:Nk S e B w' v↔v=aJ #[U (Af 0 zero noW noW 0 (D G 0 0)),I M 0,I M m]:=by unfold Nk;rw[h]
theorem Lq {S}{e}{r}(h:Cu S e=.ok r){B}{w'}{v}:Nk S e B w' v↔∃(op:Int) (x:V) (s name:Wd) (n:Int) (ao:Option Addr) (k c:Nat),v=aJ #[U (Af op x s name n (D ao k c)),I M r.2,I M 0]∧IsE (Fr B) w' r.1 (U (Af op x s name n (D ao k c))):=by unfold Nk;rw[h]
mutual
theorem P0 (S:List TabD):∀(e:E) (m:Int),Cu S e=O m→m=3∨m=5
 |.mk op x s name n l,m,h=>by
  rw[Cu]at h;split at h
  ·grind
  ·split at h
   ·grind
   ·cases hl:Bd S l with
    |error j=>
     rw[hl]at h;simp only[bM]at h;subst h;exact Vo S l _ hl
    |ok r=>
     grind
theorem Vo (S:List TabD):∀(l:List E) (m:Int),Bd S l=O m→m=3∨m=5
 |[],m,h=>by rw[Bd]at h;grind
 |e::l,m,h=>by
  rw[Bd]at h;cases he:Cu S e with
  |error j=>
   rw[he]at h;simp only[bM]at h;subst h;exact P0 S e _ he
  |ok r=>
   rw[he]at h;simp only at h;cases hl:Bd S l with
   |error j=>
    rw[hl]at h;simp only[bM]at h;subst h;exact Vo S l _ hl
   |ok rs=>grind
end
theorem Aha (S)(x)(s name)(n)(l):Cu S (.mk 1 x s name n l)=.ok (.mk 1 x s name n l,x.k):=by rfl
theorem Ahb (S)(x)(s name)(n)(l):Cu S (.mk 2 x s name n l)=if(Er S s name n).found=1 then .ok (.mk 2 x s name (Er S s name n).n l,(Er S s name n).kind)else O 3:=by rfl
theorem Ak9 (S){op}(h1:op≠1)(h2:op≠2)(x)(s name)(n)(l):Cu S (.mk op x s name n l)=match Bd S l with
   |O m=>O m
   |.ok r=>if Abv op (r.map bT)then .ok (.mk op x s name n (r.map aO),Pr op)else O 5:=by
 rw[Cu,if_neg h1,if_neg h2];try rfl
def Ala (S:List TabD)(d:Nat):Prop:=∀(e:E) (v sv:aK) (C:Nat) (w:aT),IsE (fun k=>k<C) w e v→IsL Ci (fun k=>k<C) w sv S→C≤w.heap.size→geB d e=bH→
  bN aM 228 #[sv,v] w fun r w'=>(∃v,r=aF v∧Nk S e w.heap.size w' v)∧Below w.heap.size w w'
theorem J4 {F}{w}{op}{x}{s name}{n}{ao}{c}(h:ao=G→c=0):IsE F w (.mk op x s name n []) (U (Af op x s name n (D ao 0 c))):=
 Ns ⟨[],⟨rfl,.inl ⟨rfl,ao,c,rfl,h⟩⟩,by rfl⟩
theorem Yf {F}{w}{op}{x}{s name}{n}{ao}{k c}(h:IsE F w (.mk op x s name n []) (U (Af op x s name n (D ao k c)))):k=0∧(ao=G→c=0):=by
 obtain⟨sv,h1,cs,hr,_⟩:=h.open;have h2:=by simpa using(cL h1).symm
 subst h2;rcases hr.2 with⟨_,a,c',h3,h4⟩|⟨h0,_⟩
 ·grind
 grind
def Sc (w:aT)(g:Nat)(op:Int)(xk xn:Int)(xs s name:Wd)(n:Int)(sv:aK):Prop:=w.cell? ⟨g,0,G⟩=H (I M op)∧w.cell? ⟨g,1,G⟩=H (I M xk)∧w.cell? ⟨g,2,G⟩=H (I M xn)∧w.cell? ⟨g,3,G⟩=H (T xs)∧w.cell? ⟨g,4,G⟩=H (T s)∧w.cell? ⟨g,5,G⟩=H (T name)∧w.cell? ⟨g,6,G⟩=H (I M n)∧w.cell? ⟨g,7,G⟩=H sv
theorem Tb {w}{g}{op xk xn}{xs s name}{n}{sv}{t}{fr}(h:w.heap[g]?=H (J (Af op ⟨xk,xn,xs⟩ s name n sv) t fr)):Sc w g op xk xn xs s name n sv:=
 ⟨Aa h rfl,Aa h rfl,Aa h rfl,Aa h rfl,Aa h rfl,Aa h rfl,Aa h rfl,Aa h rfl⟩
theorem Arr (w:aT)(op xk xn)(xs s name:Wd)(n)(sv)(t)(o):Sc ((w.alloc (J (Af op ⟨xk,xn,xs⟩ s name n sv) t)).alloc o) w.heap.size op xk xn xs s name n sv:=Tb (Ad (Ab _ _) _)
theorem Ax5 (S)(sv)(x)(s name)(n)(ao)(c)(w)(hc:ao=G→c=0)(aa:Hj sv):
  bN aM 228 #[sv,U (Af 1 x s name n (D ao 0 c))] w fun r w'=>(∃v,r=aF v∧Nk S (.mk 1 x s name n []) w.heap.size w' v)∧Below w.heap.size w w':=by
 obtain⟨so,sl,sc,rfl⟩:=aa;obtain⟨xk,xn,xs⟩:=x;obtain⟨ab,ac,ad,-⟩:=al2 w (J (Af 1 ⟨xk,xn,xs⟩ s name n (D ao 0 c)) 69) (J (Af 0 zero noW noW 0 (D G 0 0)) 69);go_enter bS,bP;go_wp2_with fail
 go_region_held3(fun w'=>w'.cell? ⟨w.heap.size,0,G⟩=H (I M 1)∧w'.cell? ⟨w.heap.size,1,G⟩=H (I M xk)∧w'.cell? ⟨w.heap.size,2,G⟩=H (I M xn)∧w'.cell? ⟨w.heap.size,3,G⟩=H (T xs)∧w'.cell? ⟨w.heap.size,4,G⟩=H (T s)∧w'.cell? ⟨w.heap.size,5,G⟩=H (T name)∧w'.cell? ⟨w.heap.size,6,G⟩=H (I M n)∧w'.cell? ⟨w.heap.size,7,G⟩=H (D ao 0 c)) (exact Arr _ _ _ _ _ _ _ _ _ _ _)
  (first|fail)
 go_wp2;exact aP (v:=aJ #[U (Af 1 ⟨xk,xn,xs⟩ s name n (D ao 0 c)),I M xk,I M 0]) (Fi aY _ _ (w.heap.size+1) 69 _ _ _ _ _ rfl rfl rfl (Ca _ _ _) aE rfl Ay) rfl ⟨⟨_,rfl,(Lq (Aha S _ _ _ _ _)).2 ⟨1,⟨xk,xn,xs⟩,s,name,n,ao,0,c,rfl,J4 hc⟩⟩,(Da _ _ _).drew⟩
theorem Ax6 (S)(sv)(x)(s name)(n)(ao)(c C)(w)(hc:ao=G→c=0)(hl:IsL Ci (fun k=>k<C) w sv S)(hC:C≤w.heap.size)(hS:S.length≤1000)(ae:∀t∈S,t.cols.length≤1000000):
  bN aM 228 #[sv,U (Af 2 x s name n (D ao 0 c))] w fun r w'=>(∃v,r=aF v∧Nk S (.mk 2 x s name n []) w.heap.size w' v)∧Below w.heap.size w w':=by
 obtain⟨so,sc,rfl⟩:=hl.shape;obtain⟨xk,xn,xs⟩:=x;have ac:=Da w (J (Af 2 ⟨xk,xn,xs⟩ s name n (D ao 0 c)) 69) (J (Af 0 zero noW noW 0 (D G 0 0)) 69);have HR:=An6 S _ 2 ⟨xk,xn,xs⟩ s name n ao 0 c C _ (hl.keep (Ae (ac.mono hC))) (Y hC ac.size) hS ae;have HB:Hid (Cu S _=if(Er S s name n).found=1 then .ok (.mk 2 ⟨xk,xn,xs⟩ s name _ [],(Er S s name n).kind)else O 3):=Ahb S _ _ _ _ _;generalize Er S s name n=q at HR HB;clear hl
 by_cases aa:q.found=1
 ·rw[Adx aa]at HR;have ad:Hid _:=HB.out.trans (if_pos aa);clear HB aa;go_enter bS,bP;go_upto_region 6 with(first|(go_fit HR;rintro e w1 ⟨rfl,ab⟩;have hZ:=(ab.block _ (by simp)).trans (Ca _ _ _))|refine aL rfl 69 _ _ rfl _ _ rfl rfl 69 _ hZ Ay rfl ((fun n=>C5 2 ⟨xk,xn,xs⟩ s name n ao 0 c) _) ?_);exact aP (v:=aJ #[U (Af 2 ⟨xk,xn,xs⟩ s name q.n (D ao 0 c)),I M q.kind,I M 0]) (Fi aY _ _ (w.heap.size+1) 69 _ _ _ _ _ rfl rfl rfl (Ao hZ) aE rfl Ay) rfl ⟨⟨_,rfl,(Lq ad.out).2 ⟨2,⟨xk,xn,xs⟩,s,name,q.n,ao,0,c,rfl,J4 hc⟩⟩,Below.row (Ac ac ab) (by omega) _⟩
 ·rw[Ady aa]at HR;have ad:Hid _:=HB.out.trans (if_neg aa);clear HB aa;go_enter bS,bP;go_upto_region 6 with(first|(go_fit HR;rintro e w1 ⟨rfl,ab⟩;have hZ:=(ab.block _ (by simp)).trans (Ca _ _ _))|refine aL rfl 69 _ _ rfl _ _ rfl rfl 69 _ hZ Ay rfl (C5 0 zero noW noW 0 G 0 0) ?_);exact aP (v:=aJ #[U (Af 0 zero noW noW 0 (D G 0 0)),I M 0,I M 3]) (Fi aY _ _ (w.heap.size+1) 69 _ _ _ _ _ rfl rfl rfl (Ao hZ) aE rfl Ay) rfl ⟨⟨_,rfl,(Gc ad.out).2 rfl⟩,Below.row (Ac ac ab) (by omega) _⟩
theorem Hw {P}{w}{ops}{o}{a}{K}{Q}{X}(aa:o.guard=G)(ty)(x y)(ho:o.op=.store ty x y)
  (g) (cells) (hx:a.eval x=cE (H ⟨g,0,G⟩)) (hy:a.eval y=U cells)
  (t) (old) (hg:w.heap[g]?=H (J old t (0,0))) (hi:(P.info? ty).map (·.size)=H cells.size)
  (ab:old.size=cells.size) (h1:cells.all (·.oneCell')=bH)
  (h:K (a.put o.dst cK) (w.setRow g cells)):if bI o (yielded ops a.tmps)=bH then Oper.wp P o a w K Q else X:=by
 rw[if_pos (by simp[bI,aa])];exact wp_store_row ty x y ho g cells hx hy t old hg hi ab h1 h
theorem Sc.row {w}{g}{op xk xn}{xs s name}{n}{sv}(h:Sc w g op xk xn xs s name n sv){b}(hb:g≠b)(cells):Sc (w.setRow b cells) g op xk xn xs s name n sv:=by
 have e:∀o,(w.setRow b cells).cell? ⟨g,o,G⟩=w.cell? ⟨g,o,G⟩:=fun o=>by simp[World.setRow,cH,cG,Ne.symm hb]
 unfold Sc;simp only[e];exact h
theorem Ahc:(Tryz.prog.info? 69).map (fun i=>(i.zero,i.size,i.bytes))=H (H (U #[I M 0,I M 0,I M 0,T ⟨#[]⟩,T ⟨#[]⟩,T ⟨#[]⟩,I M 0,D G 0 0]),8,104):=by kernel_rfl
theorem Ax7:(Tryz.prog.info? 3).map (fun i=>(i.zero,i.size,i.bytes))=H (H (I M 0),1,8):=by kernel_rfl
theorem Vp (W)(n)(hn:n≤1000000000000):∃aa:Array aK,aa.size=n*8∧(bL 67 (I M (n:Int)) (I M (n:Int))).run aM W=.ok (D (H ⟨W.heap.size,0,G⟩) n n) (W.alloc (J aa 69)):=by
 obtain⟨i0,hi,ac,ad,ae⟩:=bV Ahc;have ab:=cR W 67 69 i0 _ cO hi ac .i64 .i64 n n (by omega) (cA _) (by grind) (by omega);rw[ad,bJ]at ab;exact⟨_,bR _ _,ab⟩
theorem Auk (W)(n)(hn:n≤1000000000000):∃aa:Array aK,aa.size=n*1∧(bL 262 (I M (n:Int)) (I M (n:Int))).run aM W=.ok (D (H ⟨W.heap.size,0,G⟩) n n) (W.alloc (J aa 3)):=by
 obtain⟨i0,hi,ac,ad,ae⟩:=bV Ax7;have ab:=cR W 262 3 i0 _ Tryz.underlying262 hi ac .i64 .i64 n n (by omega) (cA _) (by grind) (by omega);rw[ad,bJ]at ab;exact⟨_,bR _ _,ab⟩
theorem Ax8 (w)(o1 o2)(a1 a2)(t1 t2)(n)(F)(h1:a1.size=n*8)(h2:a2.size=n*1):
  ((((w.alloc o1).alloc o2).alloc (J a1 t1)).alloc (J a2 t2)).heap[w.heap.size]?=H o1∧((((w.alloc o1).alloc o2).alloc (J a1 t1)).alloc (J a2 t2)).heap[w.heap.size+1]?=H o2∧
  El Az F ((((w.alloc o1).alloc o2).alloc (J a1 t1)).alloc (J a2 t2)) (w.heap.size+1+1) n []∧El Ov F ((((w.alloc o1).alloc o2).alloc (J a1 t1)).alloc (J a2 t2)) (w.heap.size+1+1+1) n []∧
  Below w.heap.size w ((((w.alloc o1).alloc o2).alloc (J a1 t1)).alloc (J a2 t2))∧w.heap.size+4≤((((w.alloc o1).alloc o2).alloc (J a1 t1)).alloc (J a2 t2)).heap.size:=by
 have m1:=by
  have:=O7 Az F (w:=(w.alloc o1).alloc o2) (t:=t1) (n:=n) h1;rwa[show((w.alloc o1).alloc o2).heap.size=w.heap.size+1+1 from by simp]at this
 have m2:=by
  have:=O7 Ov F (w:=((w.alloc o1).alloc o2).alloc (J a1 t1)) (t:=t2) (n:=n) h2;rwa[show(((w.alloc o1).alloc o2).alloc (J a1 t1)).heap.size=w.heap.size+1+1+1 from by simp]at this
 exact⟨Ad (Ad (Ad (Ab _ _) _) _) _,Ad (Ad (Ca _ _ _) _) _,m1.below (Aq _ _),m2,(Hx _ _ _ _).alloc (by simp;omega) _,by simp⟩
theorem Yg {W w1}{g n j}{le}{li}{op}{x}{s name}{i}{ao}{k c}{e}{ty}
  (h1:El Az (Fr (g+4)) W (g+1+1) n le) (h2:El Ov (Fr (g+4)) W (g+1+1+1) n li) (hb:Below W.heap.size W w1) (hj:j<n) (l1:le.length=j) (l2:li.length=j)
  (he:IsE (Fr (g+4)) w1 e (U (Af op x s name i (D ao k c)))):
  w1.there (g+1+1) (j*8) 8∧(∃u,(w1.setCells (g+1+1) (j*8) (Af op x s name i (D ao k c)).toList).cell? ⟨g+1+1+1,j,G⟩=H u)∧(w1.setCells (g+1+1) (j*8) (Af op x s name i (D ao k c)).toList).frozen? ⟨g+1+1+1,j,G⟩=bO∧
  El Az (Fr (g+4)) ((w1.setCells (g+1+1) (j*8) (Af op x s name i (D ao k c)).toList).setCell ⟨g+1+1+1,j,G⟩ (I M ty)) (g+1+1) n (le++[e])∧
  El Ov (Fr (g+4)) ((w1.setCells (g+1+1) (j*8) (Af op x s name i (D ao k c)).toList).setCell ⟨g+1+1+1,j,G⟩ (I M ty)) (g+1+1+1) n (li++[ty]):=by
 subst l1;have m1:=h1.below hb;have aa:¬Fr (g+4) (g+1+1):=by show¬_≤_;omega
 have ab:¬Fr (g+4) (g+1+1+1):=by show¬_≤_;omega
 have n2:El Ov _ (w1.setCells _ (le.length*8) (Af op x s name i (D ao k c)).toList) _ n li:=(h2.below hb).keep (Uv aa _ _ _) (Dx (by omega) _ _ _);have t2:=Aaq (n2.there hj) (j:=0) (by decide);simp only[Ov,bY,aU]at t2;refine⟨m1.there hj,t2.1,t2.2,(m1.set hj aa (c:=(Af op x s name i _).toList) ⟨rfl,he⟩).keep ((Keeps.refl _ _).set ab _ _) (aN _ _ _ _ (by simp)),?_⟩;have:=n2.set1 (by omega) ab rfl (a:=ty) rfl;grind
theorem Ap1 {w w1}{g k}{x}(hk:k<w.heap.size)(hn:k<g+1+1)(hb:Below w.heap.size w w1)(hx:w.heap[k]?=H x)(o)(vs)(i)(v):
  ((w1.setCells (g+1+1) o vs).setCell ⟨g+1+1+1,i,G⟩ v).heap[k]?=H x:=
 (aN _ _ _ _ (show k≠g+1+1+1 by omega)).trans ((Dx (show k≠g+1+1 by omega) _ _ _).trans ((hb.block _ hk).trans hx))
theorem A01 (S)(d:Nat)(ih:Ala S d)(sv:aK)(op:Int)(x:V)(s name:Wd)(n:Int)(l:List E)(ao:Option Addr)(c C:Nat)(w:aT)(h1:op≠1)(h2:op≠2)(he:IsL Az (fun k=>k<C) w (D ao l.length c) l)(hl:IsL Ci (fun k=>k<C) w sv S)(hC:C≤w.heap.size)(hg:∀a∈l,geB d a=bH)(bm:l.length≤2):
  bN aM 228 #[sv,U (Af op x s name n (D ao l.length c))] w fun r w'=>(∃v,r=aF v∧Nk S (.mk op x s name n l) w.heap.size w' v)∧Below w.heap.size w w':=by
 obtain⟨so,sc,rfl⟩:=hl.shape;obtain⟨xk,xn,xs⟩:=x;have e1:(op==1)=bO:=by simpa using h1
 have e2:(op==2)=bO:=by simpa using h2
 have HB:Hid (Cu S (.mk op ⟨xk,xn,xs⟩ s name n l)=match Bd S l with
   |O m=>O m
   |.ok r=>if Abv op (r.map bT)then .ok (.mk op ⟨xk,xn,xs⟩ s name n (r.map aO),Pr op)else O 5):=Ak9 S h1 h2 _ _ _ _ _
 obtain⟨ck,cl,cm,-⟩:=al2 w (J (Af op ⟨xk,xn,xs⟩ s name n (D ao l.length c)) 69) (J (Af 0 zero noW noW 0 (D G 0 0)) 69);clear h1 h2;go_enter bS,bP;go_wp2_with fail;obtain⟨bn,bo,bp⟩:=Vp ((w.alloc (J (Af op ⟨xk,xn,xs⟩ s name n (D ao l.length c)) 69)).alloc (J (Af 0 zero noW noW 0 (D G 0 0)) 69)) l.length (by omega)
 erw[bp]
 go_wp2_with fail;obtain⟨cn,bq,bt⟩:=Auk (((w.alloc (J (Af op ⟨xk,xn,xs⟩ s name n (D ao l.length c)) 69)).alloc (J (Af 0 zero noW noW 0 (D G 0 0)) 69)).alloc (J bn 69)) l.length (by omega)
 erw[bt]
 have co:=Ax8 w (J (Af op ⟨xk,xn,xs⟩ s name n (D ao l.length c)) 69) (J (Af 0 zero noW noW 0 (D G 0 0)) 69) bn cn 69 3 l.length (Fr (w.heap.size+4)) bo bq;clear bp bt bo bq ck cl cm;obtain⟨bu,bv,bw,bx,bz,ca⟩:=co;go_wp2_with fail
 go_loopw[39] (fun i wr=>∃(j:Nat) (rs:List (E×Int)),j≤l.length∧i=I M j∧Hid (Bd S (l.take j)=.ok rs)∧Hid (rs.length=j)∧wr.heap[w.heap.size]?=H (J (Af op ⟨xk,xn,xs⟩ s name n (D ao l.length c)) 69)∧wr.heap[w.heap.size+1]?=H (J (Af 0 zero noW noW 0 (D G 0 0)) 69)∧El Az (Fr (w.heap.size+4)) wr (w.heap.size+1+1) l.length (rs.map aO)∧El Ov (Fr (w.heap.size+4)) wr (w.heap.size+1+1+1) l.length (rs.map bT)∧Below w.heap.size w wr∧w.heap.size+4≤wr.heap.size) (fun i _=>l.length-(bF i).toNat)
 case atStart=>exact⟨0,[],aZ _,rfl,by show _=_;rw[bG,Bd],rfl,bu,bv,bw,bx,bz,ca⟩
 case round=>
  obtain⟨j,rs,hj,rfl,HQ,HL,hE,hZ,ap,aq,aa,cv⟩:=hrel;clear bu bv bw bx bz ca
  by_cases be:j<l.length
  ·obtain⟨a,ha⟩:∃a,l[j]?=H a:=⟨_,aD be⟩;have HT:Hid (l.take (j+1)=l.take j++[a]):=by show _=_;rw[aS,ha];rfl
   obtain⟨b,cx,cs,rfl,cy,hb,hR,ak⟩:=Av (he.keep (Ae (aa.mono hC))) ha;obtain⟨ar,au,av,aw,s',ax,n',bf,k',c',rfl⟩:=Fh hR;have d0:=ak 0 _ rfl;have d1:=ak 1 _ rfl;have d2:=ak 2 _ rfl;have d3:=ak 3 _ rfl;have d4:=ak 4 _ rfl;have d5:=ak 5 _ rfl;have d6:=ak 6 _ rfl;have d7:=ak 7 _ rfl;simp only[Az,aU]at d0 d1 d2 d3 d4 d5 d6 d7;have j0:(0:Int)≤j:=by omega
   have j1:j<(l.length:Int):=by omega
   have am:=Aq wr (J (Af ar ⟨au,av,aw⟩ s' ax n' (D bf k' c')) 69);have HI:=ih a (U (Af ar ⟨au,av,aw⟩ s' ax n' _)) _ C _ (IsE.keep (Ae (am.mono (Y hC aa.size))) _ _ hR.2) ((hl.keep (Ae (aa.mono hC))).keep (Ae (am.mono (Y hC aa.size)))) (Y (Y hC aa.size) am.size) (hg a (aG ha));clear ak hR ha ih hg;have bg:=aR hE;have al:=aR hZ;have q2:=HL.out;have l1:(rs.map aO).length=j:=by rw[bB];exact q2
   have l2:(rs.map bT).length=j:=by rw[bB];exact q2
   rcases ad:Cu S a with m|r
   ·rcases P0 S a m ad with rfl|rfl
    ·have ay:=HI.mono (R':=fun e w'=>∃(op:Int) (x:V) (s name:Wd) (n:Int) (ao:Option Addr) (k c:Nat) (z:Int),e=aF (aJ #[U (Af op x s name n (D ao k c)),I _ z,I _ 3])∧IsE (Fr (w.heap.size+4)) w' _ (U (Af op x s name n (D ao k c)))∧Below (wr.heap.size+1) (wr.alloc (J (Af ar ⟨au,av,aw⟩ s' ax n' (D bf k' c')) 69)) w') (by
      rintro e w' ⟨⟨v,rfl,hv⟩,cb⟩;obtain rfl:=(Gc ad).1 hv;exact⟨0,zero,noW,noW,0,G,0,0,0,rfl,J4 fun _=>rfl,by simp_all⟩)
     have HE:Hid (Cu S (.mk op ⟨xk,xn,xs⟩ s name n l)=O 3):=by
      show _=_;have hs:Bd S (l.take (j+1))=O 3:=by rw[HT.out,Kk,HQ.out,ad]
      have:=Mj S (l.take (j+1)) (l.drop (j+1)) 3 hs;rw[aQ]at this;rw[HB.out,this]
     clear HI ad HB HQ HL HT q2;go_wp2_with(first|(refine ay.mono ?_;rintro e w1 ⟨ae,x2,s2,af,n2,ag,k2,c2,z,rfl,az,ab⟩;obtain⟨ah,ai,aj⟩:=x2;have ac:=Ac am (by simpa using ab);obtain⟨mt,⟨u,mu⟩,mf,cc,cd⟩:=Yg (ty:=z) ap aq ac be l1 l2 az;have ba:=C5 ae ⟨ah,ai,aj⟩ s2 af n2 ag k2 c2;have bb:=Ap1 (g:=w.heap.size) al (by omega) ac hZ (j*8) (Af ae ⟨ah,ai,aj⟩ s2 af n2 (D ag k2 c2)).toList j (I M z))|(refine aL rfl 69 _ _ rfl (w.heap.size+1) (Af 0 zero noW noW 0 (D G 0 0)) ?_ ?_ 69 (Af 0 zero noW noW 0 (D G 0 0)) ?_ ?_ ?_ ?_ ?_;exact rfl;exact rfl;exact bb;exact Ay;exact rfl;exact C5 0 zero noW noW 0 G 0 0)|(refine bA rfl 69 _ _ rfl (w.heap.size+1+1) (j*8) (Af ae ⟨ah,ai,aj⟩ s2 af n2 (D ag k2 c2)) ?_ ?_ ?_ ?_ ?_ ?_;exact rfl;exact rfl;exact mt;exact Ay;exact ba));have bc:=aa.trans (ac.mono aa.size);exact aP (v:=aJ #[U (Af 0 zero noW noW 0 (D G 0 0)),I M 0,I M 3]) (Fi aY _ _ (w.heap.size+1) 69 _ _ _ _ _ rfl rfl rfl (Ao bb) aE rfl Ay) rfl ⟨⟨_,rfl,(Gc HE.out).2 rfl⟩,Below.row ((Ey (show w.heap.size≤w.heap.size+1+1 by omega) _ _ _ bc).setCell (show w.heap.size≤w.heap.size+1+1+1 by omega) _) (by omega) _⟩
    ·have ay:=HI.mono (R':=fun e w'=>∃(op:Int) (x:V) (s name:Wd) (n:Int) (ao:Option Addr) (k c:Nat) (z:Int),e=aF (aJ #[U (Af op x s name n (D ao k c)),I _ z,I _ 5])∧IsE (Fr (w.heap.size+4)) w' _ (U (Af op x s name n (D ao k c)))∧Below (wr.heap.size+1) (wr.alloc (J (Af ar ⟨au,av,aw⟩ s' ax n' (D bf k' c')) 69)) w') (by
      rintro e w' ⟨⟨v,rfl,hv⟩,cb⟩;obtain rfl:=(Gc ad).1 hv;exact⟨0,zero,noW,noW,0,G,0,0,0,rfl,J4 fun _=>rfl,by simp_all⟩)
     have HE:Hid (Cu S (.mk op ⟨xk,xn,xs⟩ s name n l)=O 5):=by
      show _=_;have hs:Bd S (l.take (j+1))=O 5:=by rw[HT.out,Kk,HQ.out,ad]
      have:=Mj S (l.take (j+1)) (l.drop (j+1)) 5 hs;rw[aQ]at this;rw[HB.out,this]
     clear HI ad HB HQ HL HT q2;go_wp2_with(first|(refine ay.mono ?_;rintro e w1 ⟨ae,x2,s2,af,n2,ag,k2,c2,z,rfl,az,ab⟩;obtain⟨ah,ai,aj⟩:=x2;have ac:=Ac am (by simpa using ab);obtain⟨mt,⟨u,mu⟩,mf,cc,cd⟩:=Yg (ty:=z) ap aq ac be l1 l2 az;have ba:=C5 ae ⟨ah,ai,aj⟩ s2 af n2 ag k2 c2;have bb:=Ap1 (g:=w.heap.size) al (by omega) ac hZ (j*8) (Af ae ⟨ah,ai,aj⟩ s2 af n2 (D ag k2 c2)).toList j (I M z))|(refine aL rfl 69 _ _ rfl (w.heap.size+1) (Af 0 zero noW noW 0 (D G 0 0)) ?_ ?_ 69 (Af 0 zero noW noW 0 (D G 0 0)) ?_ ?_ ?_ ?_ ?_;exact rfl;exact rfl;exact bb;exact Ay;exact rfl;exact C5 0 zero noW noW 0 G 0 0)|(refine bA rfl 69 _ _ rfl (w.heap.size+1+1) (j*8) (Af ae ⟨ah,ai,aj⟩ s2 af n2 (D ag k2 c2)) ?_ ?_ ?_ ?_ ?_ ?_;exact rfl;exact rfl;exact mt;exact Ay;exact ba));have bc:=aa.trans (ac.mono aa.size);exact aP (v:=aJ #[U (Af 0 zero noW noW 0 (D G 0 0)),I M 0,I M 5]) (Fi aY _ _ (w.heap.size+1) 69 _ _ _ _ _ rfl rfl rfl (Ao bb) aE rfl Ay) rfl ⟨⟨_,rfl,(Gc HE.out).2 rfl⟩,Below.row ((Ey (show w.heap.size≤w.heap.size+1+1 by omega) _ _ _ bc).setCell (show w.heap.size≤w.heap.size+1+1+1 by omega) _) (by omega) _⟩
   ·have ay:=HI.mono (R':=fun e w'=>∃(op:Int) (x:V) (s name:Wd) (n:Int) (ao:Option Addr) (k c:Nat),e=aF (aJ #[U (Af op x s name n (D ao k c)),I _ r.2,I _ 0])∧IsE (Fr (w.heap.size+4)) w' r.1 (U (Af op x s name n (D ao k c)))∧Below (wr.heap.size+1) (wr.alloc (J (Af ar ⟨au,av,aw⟩ s' ax n' (D bf k' c')) 69)) w') (by
     rintro e w' ⟨⟨v,rfl,hv⟩,cb⟩;obtain⟨op,x,s,name,n,ao,k,c,rfl,cp⟩:=(Lq ad).1 hv;exact⟨op,x,s,name,n,ao,k,c,rfl,IsE.mono (fun k _ hk=>by exact Y (by simp;omega) hk) _ _ cp,by simp_all⟩)
    have ce:Hid _:=ad;clear HI ad;have HS:Hid (Bd S (l.take (j+1))=.ok (rs++[r])):=by show _=_;rw[HT.out,Kk,HQ.out,ce.out]
    have cq:Hid ((rs++[r]).length=j+1):=by show _=_;rw[aI,q2];rfl
    clear HQ HL HT ce q2;go_wp2_with(first|(refine ay.mono ?_;rintro e w1 ⟨ae,x2,s2,af,n2,ag,k2,c2,rfl,az,ab⟩;obtain⟨r1,r2⟩:=r;obtain⟨ah,ai,aj⟩:=x2;have ac:=Ac am (by simpa using ab);obtain⟨mt,⟨u,mu⟩,mf,cc,cd⟩:=Yg (ty:=r2) ap aq ac be l1 l2 az;have ba:=C5 ae ⟨ah,ai,aj⟩ s2 af n2 ag k2 c2)|(refine bA rfl 69 _ _ rfl (w.heap.size+1+1) (j*8) (Af ae ⟨ah,ai,aj⟩ s2 af n2 (D ag k2 c2)) ?_ ?_ ?_ ?_ ?_ ?_;exact rfl;exact rfl;exact mt;exact Ay;exact ba));have bc:=aa.trans (ac.mono aa.size);go_roundw
    case rel=>exact⟨_,_,by omega,by rfl,HS,cq,(aN _ _ _ _ (show w.heap.size≠w.heap.size+1+1+1 by omega)).trans ((Dx (show w.heap.size≠w.heap.size+1+1 by omega) _ _ _).trans ((ac.block _ bg).trans hE)),(aN _ _ _ _ (show w.heap.size+1≠w.heap.size+1+1+1 by omega)).trans ((Dx (show w.heap.size+1≠w.heap.size+1+1 by omega) _ _ _).trans ((ac.block _ al).trans hZ)),by grind,by grind,(Ey (show w.heap.size≤w.heap.size+1+1 by omega) _ _ _ bc).setCell (show w.heap.size≤w.heap.size+1+1+1 by omega) _,by have:=ac.size;simp[Gb];omega⟩
    case measure=>simp[bF];omega
  ·have cr:j=l.length:=by omega
   subst cr;have bg:=aR hE;have al:=aR hZ;have q2:=HL.out;have bh:Hid (Bd S l=.ok rs):=by
    have:=HQ.out;rw[aV]at this;exact this
   have bj:IsL Az (Fr _) wr _ _:=ap.whole (by grind) (fun k hk=>Y (by omega) hk) (show w.heap.size+2≤w.heap.size+1+1 by omega) (Y bm (by decide));have cf:IsL Ov (Fr _) wr _ _:=aq.whole (by grind) (fun k hk=>Y (by omega) hk) (show w.heap.size≤w.heap.size+1+1+1 by omega) (Y bm (by decide));have HF:=A00 op _ _ _ wr cf;have e0:=Aa hE (j:=0) rfl;clear q2 ap aq cf HQ HL ih hg he hl;cases an:Abv op (rs.map bT)
   ·rw[an]at HF;have HE:Hid (Cu S (.mk op ⟨xk,xn,xs⟩ s name n l)=O 5):=by
     show _=_;rw[HB.out,bh.out];simp only[an];rfl
    clear HB bh an bj;go_wp2_with(first|(go_fit HF;rintro e w1 ⟨rfl,ab⟩;have bd:=(ab.block _ al).trans hZ)|(refine aL rfl 69 _ _ rfl (w.heap.size+1) (Af 0 zero noW noW 0 (D G 0 0)) ?_ ?_ 69 (Af 0 zero noW noW 0 (D G 0 0)) ?_ ?_ ?_ ?_ ?_;exact rfl;exact rfl;exact bd;exact Ay;exact rfl;exact C5 0 zero noW noW 0 G 0 0));exact aP (v:=aJ #[U (Af 0 zero noW noW 0 (D G 0 0)),I M 0,I M 5]) (Fi aY _ _ (w.heap.size+1) 69 _ _ _ _ _ rfl rfl rfl (Ao bd) aE rfl Ay) rfl ⟨⟨_,rfl,(Gc HE.out).2 rfl⟩,Below.row (aa.trans (ab.mono aa.size)) (by omega) _⟩
   ·rw[an]at HF;have HE:Hid (Cu S (.mk op ⟨xk,xn,xs⟩ s name n l)=.ok (.mk op ⟨xk,xn,xs⟩ s name n (rs.map aO),Pr op)):=by
     show _=_;rw[HB.out,bh.out];simp only[an];rfl
    have HT:=fun W=>Arp op W
    generalize ct:Pr op=ty at HT HE;clear HB bh an ct;go_wp2_with(first|(go_fit HF;rintro e w1 ⟨rfl,ab⟩;have bd:=(ab.block _ al).trans hZ;have bi:=(ab.block _ bg).trans hE;have g7:=Aa bi (j:=7) rfl;have f7:w1.frozen? ⟨w.heap.size,7,G⟩=bO:=by simp[cB,bi]));have cg:(w1.setCell _ _).heap[w.heap.size]?=H (J (Af op _ s name n (D (H ⟨w.heap.size+1+1,0,G⟩) l.length l.length)) 69):=Dh bi 7 _;have bk:(w1.setCell ⟨w.heap.size,7,G⟩ (D (H ⟨w.heap.size+1+1,0,G⟩) l.length l.length)).heap[w.heap.size+1]?=H _:=(aN _ _ _ _ (show w.heap.size+1≠w.heap.size by omega)).trans bd;have ch:Below _ w (w1.setCell ⟨w.heap.size,7,G⟩ (D (H ⟨w.heap.size+1+1,0,G⟩) l.length l.length)):=(aa.trans (ab.mono aa.size)).setCell (aX _) _;have cj:IsL Az _ (w1.setCell ⟨_,7,G⟩ (D (H ⟨w.heap.size+1+1,0,G⟩) l.length l.length)) _ _:=bj.keep ((Ak ab).trans ((Keeps.refl _ _).set (show¬w.heap.size+2≤w.heap.size by omega) _ _));generalize w1.setCell _ _=W at cg bk ch cj⊢;clear bi bd g7 f7 ab bj hE hZ bg al aa;refine bU (S:=(fun w'=>Sc w' w.heap.size op xk xn xs s name n (D (H ⟨w.heap.size+1+1,0,G⟩) l.length l.length))) (by rfl) ?_ (fun hHeld=>?_)
    ·exact Tb cg
    refine tk 0 ?_ (hy:=by intro W' bl;obtain⟨a0,a1,a2,a3,a4,a5,a6,a7⟩:=bl;go_simp;all_goals(with_reducible rfl));refine tk 1 ?_;refine tk 2 ?_ (hy:=by intro W' bl;obtain⟨a0,a1,a2,a3,a4,a5,a6,a7⟩:=bl;go_simp;all_goals(with_reducible rfl));refine Bh 3 (fun K hK=>?_);go_simp
    (refine(HT _).mono ?_;rintro e w2 ⟨rfl,rfl⟩)
    go_wp2_with fail;refine hK.out _ _ ?_ (fun hHeld=>?_)
    ·omega
    clear hK K;refine Bh 4 (fun K hK=>?_);refine Hw rfl 69 _ _ rfl (w.heap.size+1) (Af op ⟨xk,xn,xs⟩ s name n (D (H ⟨w.heap.size+1+1,0,G⟩) l.length l.length)) ?_ ?_ 69 (Af 0 zero noW noW 0 (D G 0 0)) ?_ ?_ ?_ ?_ ?_;exact rfl;exact rfl;exact bk;exact Ay;exact rfl;exact C5 op ⟨xk,xn,xs⟩ s name n (H ⟨w.heap.size+1+1,0,G⟩) l.length l.length;refine hK.out _ _ ?_ (fun hHeld=>?_)
    ·exact hHeld.row (by omega) _
    clear hK K
    try simp only[Z]
    refine tk 5 ?_;refine tk 6 ?_;refine bQ (by kernel_rfl) ?_ _;go_wp2_with fail;have cu:=(cj.keep ((Keeps.refl _ W).drew.row (show¬w.heap.size+2≤w.heap.size+1 by omega) (Af op ⟨xk,xn,xs⟩ s name n (D (H ⟨w.heap.size+1+1,0,G⟩) l.length l.length)))).mono (F':=Fr w.heap.size) (fun k _ hk=>Y (by omega) hk);exact aP (v:=aJ #[U (Af op ⟨xk,xn,xs⟩ s name n (D (H ⟨w.heap.size+1+1,0,G⟩) l.length l.length)),I M ty,I M 0]) (Fi aY _ _ (w.heap.size+1) 69 _ _ _ _ _ rfl rfl rfl (Ao bk) aE rfl Ay) rfl ⟨⟨_,rfl,(Lq HE.out).2 ⟨op,⟨xk,xn,xs⟩,s,name,n,_,_,_,rfl,Ns (Aj7.1 cu)⟩⟩,Below.row ch.drew (by omega) _⟩
theorem Aul {d}{op}{x}{s name}{n}{l}(h:geB (d+1) (.mk op x s name n l)=bH):(∀a∈l,geB d a=bH)∧l.length≤2∧(op=1∨op=2→l=[]):=by
 simp only[geB,Bool.and_eq_true,decide_eq_true_eq,List.all_eq_true]at h;obtain⟨⟨h1,_⟩,h3⟩:=h;refine⟨h3,?_,fun ho=>?_⟩
 ·unfold Gi at h1;omega
 ·rw[Gi,if_pos ho]at h1;simp_all
theorem Abw (S:List TabD)(hS:S.length≤1000)(aa:∀t∈S,t.cols.length≤1000000):∀d,Ala S d
 |0=>by
  intro e v sv C w _ _ _ hg;simp[geB]at hg
 |d+1=>by
  intro e v sv C w he hl hC hg;obtain⟨op,x,s,name,n,l⟩:=e;obtain⟨ac,rfl,ab⟩:=he.open;obtain⟨h3,h2,h0⟩:=Aul hg;have hL:=Aj7.2 ab;obtain⟨ao,c,rfl⟩:=hL.shape
  by_cases o1:op=1
  ·subst o1;obtain rfl:=h0 (.inl rfl);exact Ax5 S sv x s name n ao c w (Yf he).2 (Gf hl)
  ·by_cases o2:op=2
   ·subst o2;obtain rfl:=h0 (.inr rfl);exact Ax6 S sv x s name n ao c C w (Yf he).2 hl hC hS aa
   ·exact A01 S d (Abw S hS aa d) sv op x s name n l ao c C w o1 o2 hL hl hC h3 h2
def asR (S:List TabD)(want:Int)(e:E):Except Int E:=
 match Cu S e with
 |O m=>O m
 |.ok r=>if Jo r.2 want then .ok r.1 else O 5
theorem Rl {S}{want}{e}{m}(h:asR S want e=O m):m=3∨m=5:=by
 unfold asR at h;cases hb:Cu S e with
 |error k=>
  rw[hb]at h;obtain rfl:=bE h;exact P0 S e _ hb
 |ok r=>
  grind
def Zu (R:Except Int E)(F:Nat→Prop)(w':aT)(v:aK):Prop:=
 match R with
 |O m=>v=aJ #[U (Af 0 zero noW noW 0 (D G 0 0)),I M m]
 |.ok e=>∃(op:Int) (x:V) (s name:Wd) (n:Int) (ao:Option Addr) (k c:Nat),v=aJ #[U (Af op x s name n (D ao k c)),I M 0]∧IsE F w' e (U (Af op x s name n (D ao k c)))
theorem Alb (w:aT)(o1 o2){w1}(hb:Below ((w.alloc o1).alloc o2).heap.size ((w.alloc o1).alloc o2) w1)(o3):(w1.alloc o3).heap[w.heap.size+1]?=H o2:=
 Ad ((hb.block _ (by simp)).trans (Ca w o1 o2)) _
theorem Vq (S)(hS:S.length≤1000)(au:∀t∈S,t.cols.length≤1000000)(d)(want)(e)(v sv)(C)(w)(he:IsE (fun k=>k<C) w e v)(hl:IsL Ci (fun k=>k<C) w sv S)(hC:C≤w.heap.size)(hg:geB d e=bH):
  bN aM 226 #[sv,I M want,v] w fun r w'=>(∃u,r=aF u∧Zu (asR S want e) (Fr w.heap.size) w' u)∧Below w.heap.size w w':=by
 obtain⟨so,sc,rfl⟩:=hl.shape;obtain⟨al,⟨am,an,ap⟩,s',aq,n',ar,k',c',rfl⟩:∃(op:Int) (x:V) (s name:Wd) (n:Int) (ao:Option Addr) (k c:Nat),v=U (Af op x s name n (D ao k c)):=by
  obtain⟨op,x,s,name,n,l⟩:=e;obtain⟨ba,rfl,ax⟩:=he.open;obtain⟨ao,c,rfl⟩:=(Aj7.2 ax).shape;grind
 have ad:=Da w (J (Af al ⟨am,an,ap⟩ s' aq n' (D ar k' c')) 69) (J (Af 0 zero noW noW 0 (D G 0 0)) 69);have HI:=Abw S hS au d e _ _ C _ (IsE.keep (Ae (ad.mono hC)) _ _ he) (hl.keep (Ae (ad.mono hC))) (Y hC ad.size) hg;have av:=C5 0 zero noW noW 0 G 0 0;clear he hl hg hS au;rcases ac:Cu S e with m|r
 ·have HA:Hid (asR S want e=O m):=by show _=_;unfold asR;rw[ac]
  have hm:=P0 S e m ac;have ah:=HI.mono (R':=fun r w'=>∃(op:Int) (x:V) (s name:Wd) (n:Int) (ao:Option Addr) (k c:Nat) (z:Int),r=aF (aJ #[U (Af op x s name n (D ao k c)),I M z,I M m])∧Below ((w.alloc (J (Af al ⟨am,an,ap⟩ s' aq n' (D ar k' c')) 69)).alloc (J (Af 0 zero noW noW 0 (D G 0 0)) 69)).heap.size ((w.alloc (J (Af al ⟨am,an,ap⟩ s' aq n' (D ar k' c')) 69)).alloc (J (Af 0 zero noW noW 0 (D G 0 0)) 69)) w') (by
   rintro e w' ⟨⟨v,rfl,hv⟩,aw⟩;obtain rfl:=(Gc ac).1 hv;grind)
  clear HI ac;rcases hm with rfl|rfl
  all_goals
   go_enter cF,cD;go_wp2_with(first|(refine ah.mono ?_;rintro e w1 ⟨ae,x2,s2,af,n2,ag,k2,c2,z,rfl,aa⟩;obtain⟨ai,aj,ak⟩:=x2;have hZ:=fun o3=>Alb w _ _ aa o3;have ab:=Ac ad aa)|(refine aL rfl 69 _ _ rfl (w.heap.size+1) (Af 0 zero noW noW 0 (D G 0 0)) ?_ ?_ 69 (Af 0 zero noW noW 0 (D G 0 0)) ?_ ?_ ?_ ?_ ?_;exact rfl;exact rfl;exact hZ _;exact Ay;exact rfl;exact av));refine aP (Dn bX _ _ _ 69 _ _ _ _ rfl rfl (Ao (hZ _)) aE rfl Ay) rfl ⟨⟨_,rfl,?_⟩,Below.row (ab.alloc ab.size _) (by omega) _⟩;rw[HA.out];rfl
 ·obtain⟨e2,ty⟩:=r;have HA:Hid (asR S want e=if Jo ty want then .ok e2 else O 5):=by show _=_;unfold asR;rw[ac]
  have ah:=HI.mono (R':=fun r w'=>∃(op:Int) (x:V) (s name:Wd) (n:Int) (ao:Option Addr) (k c:Nat),r=aF (aJ #[U (Af op x s name n (D ao k c)),I _ ty,I _ 0])∧IsE (Fr (w.heap.size+2)) w' e2 (U (Af op x s name n (D ao k c)))∧Below _ _ w') (by
   rintro e w' ⟨⟨v,rfl,hv⟩,aw⟩;obtain⟨op,x,s,name,n,ao,k,c,rfl,ay⟩:=(Lq ac).1 hv;exact⟨op,x,s,name,n,ao,k,c,rfl,IsE.mono (fun k _ hk=>Y (by simp) hk) _ _ ay,aw⟩)
  have HC:=fun W=>Yc ty want W
  clear HI ac;generalize Jo ty want=cb at HA HC;cases cb
  ·go_enter cF,cD;go_wp2_with(first|(refine ah.mono ?_;rintro e w1 ⟨ae,x2,s2,af,n2,ag,k2,c2,rfl,hE,aa⟩;obtain⟨ai,aj,ak⟩:=x2;have hZ:=fun o3=>Alb w _ _ aa o3;have ab:=Ac ad aa)|(refine(HC _).mono ?_;rintro e w2 ⟨rfl,rfl⟩)|(refine aL rfl 69 _ _ rfl (w.heap.size+1) (Af 0 zero noW noW 0 (D G 0 0)) ?_ ?_ 69 (Af 0 zero noW noW 0 (D G 0 0)) ?_ ?_ ?_ ?_ ?_;exact rfl;exact rfl;exact hZ _;exact Ay;exact rfl;exact av));refine aP (Dn bX _ _ _ 69 _ _ _ _ rfl rfl (Ao (hZ _)) aE rfl Ay) rfl ⟨⟨_,rfl,?_⟩,Below.row (ab.alloc ab.size _) (by omega) _⟩;rw[HA.out];rfl
  ·go_enter cF,cD;go_wp2_with(first|(refine ah.mono ?_;rintro e w1 ⟨ae,x2,s2,af,n2,ag,k2,c2,rfl,hE,aa⟩;obtain⟨ai,aj,ak⟩:=x2;have hZ:=fun o3=>Alb w _ _ aa o3;have ab:=Ac ad aa;have az:=C5 ae ⟨ai,aj,ak⟩ s2 af n2 ag k2 c2)|(refine(HC _).mono ?_;rintro e w2 ⟨rfl,rfl⟩)|(refine aL rfl 69 _ _ rfl (w.heap.size+1) (Af ae ⟨ai,aj,ak⟩ s2 af n2 (D ag k2 c2)) ?_ ?_ 69 (Af 0 zero noW noW 0 (D G 0 0)) ?_ ?_ ?_ ?_ ?_;exact rfl;exact rfl;exact hZ _;exact Ay;exact rfl;exact az));refine aP (Dn bX _ _ _ 69 _ _ _ _ rfl rfl (Ao (hZ _)) aE rfl Ay) rfl ⟨⟨_,rfl,?_⟩,Below.row (ab.alloc ab.size _) (by omega) _⟩;rw[HA.out];refine⟨ae,_,s2,af,n2,ag,k2,c2,rfl,?_⟩;exact IsE.mono (fun k _ hk=>Y (by omega) hk) _ _ (IsE.keep (((Keeps.refl _ _).alloc _).row (show¬w.heap.size+2≤w.heap.size+1 by omega) _) _ _ hE)
def whR (S:List TabD)(e:E):Except Int E:=if e.opn=0 then .ok e else asR S 3 e
def Fx (C B:Nat):Nat→Prop:=fun k=>k<C∨B≤k
theorem Afx {P}{w}{ops}{o}{a}{K}{Q}{X}(aa:o.guard=G)(ty)(x y)(ho:o.op=.store ty x y)
  (b i) (cells) (hx:a.eval x=cE (H ⟨b,i,G⟩)) (hy:a.eval y=U cells)
  (ht:w.there b i cells.size) (hi:(P.info? ty).map (·.size)=H cells.size) (h1:cells.all (·.oneCell')=bH)
  (h:K (a.put o.dst cK) (w.setCells b i cells.toList)):if bI o (yielded ops a.tmps)=bH then Oper.wp P o a w K Q else X:=by
 rw[if_pos (by simp[bI,aa])];exact wp_store_mid ty x y ho b i cells hx hy ht hi h1 h
theorem Rm {F}{w}{e}{v}(he:IsE F w e v):∃(op:Int) (x:V) (s name:Wd) (n:Int) (ao:Option Addr) (k c:Nat),v=U (Af op x s name n (D ao k c))∧e.opn=op:=by
 obtain⟨op,x,s,name,n,l⟩:=e;obtain⟨ab,rfl,aa⟩:=he.open;obtain⟨ao,c,rfl⟩:=(Aj7.2 aa).shape;exact⟨op,x,s,name,n,ao,_,c,rfl,rfl⟩
theorem Xd (S)(hS:S.length≤1000)(ah:∀t∈S,t.cols.length≤1000000)(d)(e)(v sv)(C C2)(w)(he:IsE (fun k=>k<C) w e v)(hl:IsL Ci (fun k=>k<C2) w sv S)(aj:C≤C2)(ai:C2≤w.heap.size)(hg:e.opn≠0→geB d e=bH):
  bN aM 160 #[sv,v] w fun r w'=>(∃u,r=aF u∧Zu (whR S e) (Fx C w.heap.size) w' u)∧Below w.heap.size w w':=by
 have hC:=Y aj ai;obtain⟨so,sc,rfl⟩:=hl.shape;obtain⟨af,⟨ab,ac,ad⟩,s',aa,n',ae,k',c',rfl,ho⟩:=Rm he;have ag:=Da w (J (Af af ⟨ab,ac,ad⟩ s' aa n' (D ae k' c')) 69) (J (Af 0 zero noW noW 0 (D G 0 0)) 69);have ba:=C5 af ⟨ab,ac,ad⟩ s' aa n' ae k' c'
 by_cases h0:af=0
 ·subst h0;have HA:Hid (whR S e=.ok e):=if_pos ho;have ax:=IsE.mono (F':=Fx C w.heap.size) (fun k _ hk=>.inl hk) _ _ (IsE.keep (Ae ((Da w (J (Af 0 ⟨ab,ac,ad⟩ s' aa n' (D ae k' c')) 69) (J (Af 0 ⟨ab,ac,ad⟩ s' aa n' (D ae k' c')) 69)).mono hC)) _ _ he);clear he hl hg hS ah ho;go_enter Tryz.func160,Tryz.ntmps160;go_wp2_with fail;refine aP (Dn cU _ _ _ 69 (Af 0 ⟨ab,ac,ad⟩ s' aa n' _) _ _ _ rfl rfl (Ca _ _ _) aE rfl Ay) rfl ⟨⟨_,rfl,?_⟩,Da _ _ _⟩;rw[HA.out];exact⟨0,_,s',aa,n',ae,k',c',rfl,ax⟩
 ·have HA:Hid (whR S e=asR S 3 e):=if_neg (by omega);have HI:=Vq S hS ah d 3 e _ _ C2 _ (IsE.mono (fun k _ hk=>aH hk aj) _ _ (IsE.keep (Ae (ag.mono hC)) _ _ he)) (hl.keep (Ae (ag.mono ai))) (Y ai ag.size) (hg (by omega));have e0:(af==0)=bO:=by simpa using h0
  have ak:=HI.mono (R':=fun r w'=>∃(op:Int) (x:V) (s name:Wd) (n:Int) (ao:Option Addr) (k c:Nat) (z:Int),r=aF (aJ #[U (Af op x s name n (D ao k c)),I _ z])∧Zu (asR S 3 e) _ w' (aJ #[U (Af op x s name n (D ao k c)),I _ z])∧Below _ _ w') (by
   rintro r w' ⟨⟨v,rfl,hv⟩,al⟩;rw[show((w.alloc _).alloc _).heap.size=w.heap.size+2 by simp]at hv;cases hr:asR S 3 e with
   |error m=>
    rw[hr]at hv;obtain rfl:=hv;exact⟨0,zero,noW,noW,0,G,0,0,m,rfl,rfl,al⟩
   |ok e2=>
    rw[hr]at hv;have ay:=hv;obtain⟨op,x,s,name,n,ao,k,c,rfl,bb⟩:=hv;exact⟨op,x,s,name,n,ao,k,c,0,rfl,ay,al⟩)
  clear he hl hg hS ah ho HI h0;generalize asR S 3 e=R at HA ak;go_enter Tryz.func160,Tryz.ntmps160;go_wp2_with(first|(refine ak.mono ?_;rintro r w1 ⟨am,x2,s2,an,n2,ap,k2,c2,z,rfl,aq,ar⟩;obtain⟨au,av,aw⟩:=x2;have hZ:=(ar.block _ (by simp)).trans (Ca w _ _);have az:=C5 am ⟨au,av,aw⟩ s2 an n2 ap k2 c2)|(refine aL rfl 69 _ _ rfl (w.heap.size+1) (Af am ⟨au,av,aw⟩ s2 an n2 (D ap k2 c2)) ?_ ?_ 69 (Af 0 zero noW noW 0 (D G 0 0)) ?_ ?_ ?_ ?_ ?_;exact rfl;exact rfl;exact hZ;exact Ay;exact rfl;exact az));refine aP (Dn cU _ _ _ 69 _ _ _ _ rfl rfl (Ao hZ) aE rfl Ay) rfl ⟨⟨_,rfl,?_⟩,Below.row (Ac ag ar) (by omega) _⟩;rw[HA.out];cases R with
  |error m=>exact aq
  |ok e2=>
   obtain⟨op,x,s,name,n,ao,k,c,hq,hE⟩:=aq;refine⟨op,x,s,name,n,ao,k,c,hq,?_⟩;exact IsE.mono (fun k _ hk=>.inr (Y (by omega) hk)) _ _ (IsE.keep ((Keeps.refl _ _).row (show¬w.heap.size+2≤w.heap.size+1 by omega) _) _ _ hE)
def Nl {α:Type}(K:Elem α)(R:Except Int (List α))(F:Nat→Prop)(w':aT)(v:aK):Prop:=
 match R with
 |O m=>v=aJ #[D G 0 0,I M m]
 |.ok l=>∃(ao:Option Addr) (k c:Nat),v=aJ #[D ao k c,I M 0]∧IsL K F w' (D ao k c) l
def I8 (S:List TabD)(l:List E):Except Int (List E):=
 match Bd S l with
 |O m=>O m
 |.ok rs=>.ok (rs.map aO)
theorem Abx {W w1}{g n j}{le}{op}{x}{s name}{i}{ao}{k c}{e}
  (h1:El Az (Fr (g+1)) W g n le) (hb:Below W.heap.size W w1) (hj:j<n) (l1:le.length=j) (he:IsE (Fr (g+1)) w1 e (U (Af op x s name i (D ao k c)))):
  w1.there g (j*8) 8∧El Az (Fr (g+1)) (w1.setCells g (j*8) (Af op x s name i (D ao k c)).toList) g n (le++[e]):=by
 subst l1;have m1:=h1.below hb;exact⟨m1.there hj,m1.set hj (show¬g+1≤g by omega) ⟨rfl,he⟩⟩
theorem Aar (S:List TabD)(hS:S.length≤1000)(ba:∀t∈S,t.cols.length≤1000000)(d:Nat)(l:List E)(lv sv:aK)(C:Nat)(w:aT)(he:IsL Az (fun k=>k<C) w lv l)(hl:IsL Ci (fun k=>k<C) w sv S)(hC:C≤w.heap.size)(hg:∀a∈l,geB d a=bH)(hn:l.length≤1000000000):
  bN aM 163 #[sv,lv] w fun r w'=>(∃u,r=aF u∧Nl Az (I8 S l) (Fr w.heap.size) w' u)∧Below w.heap.size w w':=by
 obtain⟨so,sc,rfl⟩:=hl.shape;obtain⟨ao,c,rfl⟩:=he.shape;have ih:=Abw S hS ba d;clear hS ba;obtain⟨bb,bc,bf⟩:=Vp w l.length (by omega);have bd:El Az (Fr (w.heap.size+1)) (w.alloc (J bb 69)) w.heap.size l.length []:=O7 Az _ bc;have be:=Aq w (J bb 69);go_enter Tryz.func163,Tryz.ntmps163;go_wp2_with fail;clear bf
 go_loopw[15] (fun i wr=>∃(j:Nat) (rs:List (E×Int)),j≤l.length∧i=I M j∧Hid (Bd S (l.take j)=.ok rs)∧Hid (rs.length=j)∧El Az (Fr (w.heap.size+1)) wr w.heap.size l.length (rs.map aO)∧Below w.heap.size w wr∧w.heap.size+1≤wr.heap.size) (fun i _=>l.length-(bF i).toNat)
 case atStart=>exact⟨0,[],aZ _,rfl,by show _=_;rw[bG,Bd],rfl,bd,be,by simp⟩
 case round=>
  obtain⟨j,rs,hj,rfl,HQ,HL,ar,aa,bm⟩:=hrel;clear bd be bc;have q2:=HL.out;have l1:(rs.map aO).length=j:=by rw[bB];exact q2
  by_cases au:j<l.length
  ·obtain⟨a,ha⟩:∃a,l[j]?=H a:=⟨_,aD au⟩;have HT:Hid (l.take (j+1)=l.take j++[a]):=by show _=_;rw[aS,ha];rfl
   obtain⟨b,bn,cs,rfl,bo,hb,hR,ab⟩:=Av (he.keep (Ae (aa.mono hC))) ha;obtain⟨al,am,an,ap,s',aq,n',av,k',c',rfl⟩:=Fh hR;have d0:=ab 0 _ rfl;have d1:=ab 1 _ rfl;have d2:=ab 2 _ rfl;have d3:=ab 3 _ rfl;have d4:=ab 4 _ rfl;have d5:=ab 5 _ rfl;have d6:=ab 6 _ rfl;have d7:=ab 7 _ rfl;simp only[Az,aU]at d0 d1 d2 d3 d4 d5 d6 d7;have j0:(0:Int)≤j:=by omega
   have j1:j<(l.length:Int):=by omega
   have ae:=Aq wr (J (Af al ⟨am,an,ap⟩ s' aq n' (D av k' c')) 69);have HI:=ih a (U (Af al ⟨am,an,ap⟩ s' aq n' _)) _ C _ (IsE.keep (Ae (ae.mono (Y hC aa.size))) _ _ hR.2) ((hl.keep (Ae (aa.mono hC))).keep (Ae (ae.mono (Y hC aa.size)))) (Y (Y hC aa.size) ae.size) (hg a (aG ha));clear ab hR ha ih hg;rcases ac:Cu S a with m|r
   ·have hm:=P0 S a m ac;have aw:=HI.mono (R':=fun e w'=>∃(op:Int) (x:V) (s name:Wd) (n:Int) (ao:Option Addr) (k c:Nat) (z:Int),e=aF (aJ #[U (Af op x s name n (D ao k c)),I _ z,I _ m])∧IsE (Fr (w.heap.size+1)) w' _ (U (Af op x s name n (D ao k c)))∧Below (wr.heap.size+1) (wr.alloc (J (Af al ⟨am,an,ap⟩ s' aq n' (D av k' c')) 69)) w') (by
     rintro e w' ⟨⟨v,rfl,hv⟩,bg⟩;obtain rfl:=(Gc ac).1 hv;exact⟨0,zero,noW,noW,0,G,0,0,0,rfl,J4 fun _=>rfl,by simp_all⟩)
    have HE:Hid (I8 S l=O m):=by
     show _=_;have hs:Bd S (l.take (j+1))=O m:=by rw[HT.out,Kk,HQ.out,ac]
     have:=Mj S (l.take (j+1)) (l.drop (j+1)) m hs;rw[aQ]at this;unfold I8;rw[this]
    clear HI ac HQ HL HT q2;rcases hm with rfl|rfl
    all_goals
     go_wp2_with(first|(refine aw.mono ?_;rintro e w1 ⟨af,x2,s2,ag,n2,ah,k2,c2,z,rfl,ax,ay⟩;obtain⟨ai,aj,ak⟩:=x2;have ad:=Ac ae (by simpa using ay);obtain⟨mt,bh⟩:=Abx ar ad au l1 ax;have az:=C5 af ⟨ai,aj,ak⟩ s2 ag n2 ah k2 c2)|(refine bA rfl 69 _ _ rfl w.heap.size (j*8) (Af af ⟨ai,aj,ak⟩ s2 ag n2 (D ah k2 c2)) ?_ ?_ ?_ ?_ ?_ ?_;exact rfl;exact rfl;exact mt;exact Ay;exact az));go_ret2;refine⟨⟨_,rfl,?_⟩,Ey (aX _) _ _ _ (aa.trans (ad.mono aa.size))⟩;rw[HE.out];rfl
   ·have aw:=HI.mono (R':=fun e w'=>∃(op:Int) (x:V) (s name:Wd) (n:Int) (ao:Option Addr) (k c:Nat),e=aF (aJ #[U (Af op x s name n (D ao k c)),I _ r.2,I _ 0])∧IsE (Fr (w.heap.size+1)) w' r.1 (U (Af op x s name n (D ao k c)))∧Below (wr.heap.size+1) (wr.alloc (J (Af al ⟨am,an,ap⟩ s' aq n' (D av k' c')) 69)) w') (by
     rintro e w' ⟨⟨v,rfl,hv⟩,bg⟩;obtain⟨op,x,s,name,n,ao,k,c,rfl,bi⟩:=(Lq ac).1 hv;exact⟨op,x,s,name,n,ao,k,c,rfl,IsE.mono (fun k _ hk=>by exact Y (by simp;omega) hk) _ _ bi,by simp_all⟩)
    have HS:Hid (Bd S (l.take (j+1))=.ok (rs++[r])):=by show _=_;rw[HT.out,Kk,HQ.out,ac]
    have bj:Hid ((rs++[r]).length=j+1):=by show _=_;rw[aI,q2];rfl
    clear HI ac HQ HL HT q2;go_wp2_with(first|(refine aw.mono ?_;rintro e w1 ⟨af,x2,s2,ag,n2,ah,k2,c2,rfl,ax,ay⟩;obtain⟨r1,r2⟩:=r;obtain⟨ai,aj,ak⟩:=x2;have ad:=Ac ae (by simpa using ay);obtain⟨mt,bh⟩:=Abx ar ad au l1 ax;have az:=C5 af ⟨ai,aj,ak⟩ s2 ag n2 ah k2 c2)|(refine bA rfl 69 _ _ rfl w.heap.size (j*8) (Af af ⟨ai,aj,ak⟩ s2 ag n2 (D ah k2 c2)) ?_ ?_ ?_ ?_ ?_ ?_;exact rfl;exact rfl;exact mt;exact Ay;exact az));go_roundw
    case rel=>exact⟨_,_,by omega,by rfl,HS,bj,by grind,Ey (aX _) _ _ _ (aa.trans (ad.mono aa.size)),by have:=ad.size;simp[Gb];omega⟩
    case measure=>simp[bF];omega
  ·have bk:j=l.length:=by omega
   subst bk;have HE:Hid (I8 S l=.ok (rs.map aO)):=by
    show _=_;have:=HQ.out;rw[aV]at this;unfold I8;rw[this]
   have bl:IsL Az (Fr _) wr _ _:=ar.whole l1 (fun k hk=>Y (by omega) hk) (aX _) (Y hn (by decide));clear q2 HL HQ;go_wp2_with fail;go_ret2;refine⟨⟨_,rfl,?_⟩,aa⟩;rw[HE.out];exact⟨_,_,_,rfl,bl⟩
def Gj {α β:Type}(f:α→Except Int β):List α→Except Int (List β)
 |[]=>.ok []
 |a::l=>match f a with
  |O m=>O m
  |.ok b=>match Gj f l with
   |O m=>O m
   |.ok bs=>.ok (b::bs)
theorem P3 {α β}(f:α→Except Int β):∀(l:List α) (a:α),Gj f (l++[a])=match Gj f l with
  |O m=>O m
  |.ok bs=>match f a with
   |O m=>O m
   |.ok b=>.ok (bs++[b])
 |[],a=>by rfl
 |x::l,a=>by
  simp only[aW,Gj,P3 f l a];cases f x with
  |error m=>rfl
  |ok r=>
   grind
theorem Tr {α β}(f:α→Except Int β):∀(l m:List α) (k:Int),Gj f l=O k→Gj f (l++m)=O k
 |[],m,k,h=>by simp[Gj]at h
 |x::l,m,k,h=>by
  simp only[aW,Gj]at h⊢;cases hx:f x with
  |error j=>grind
  |ok r=>
   rw[hx]at h;simp only at h⊢;cases hl:Gj f l with
   |error j=>
    rw[hl]at h;rw[Tr f l m j hl];omega
   |ok rs=>grind
theorem Aby {α β}(f:α→Except Int β)(P:Int→Prop)(hf:∀a m,f a=O m→P m):∀(l:List α) (m:Int),Gj f l=O m→P m
 |[],m,h=>by simp[Gj]at h
 |x::l,m,h=>by
  simp only[Gj]at h;cases hx:f x with
  |error j=>
   rw[hx]at h;obtain rfl:=bE h;exact hf x _ hx
  |ok r=>
   rw[hx]at h;simp only at h;cases hl:Gj f l with
   |error j=>
    rw[hl]at h;obtain rfl:=bE h;exact Aby f P hf l _ hl
   |ok rs=>rw[hl]at h;cases h
def Qy (p:ColD×E):Except Int E:=asR [] p.1.ty p.2
def La (cols:List ColD)(row:List E):Except Int (List E):=if row.length=cols.length then Gj Qy (cols.zip row)else O 5
theorem Alc {cols}{row}{m}(h:La cols row=O m):m=3∨m=5:=by
 unfold La at h;split at h
 ·exact Aby Qy _ (fun a m ha=>Rl ha) _ m h
 grind
def Is (cols:List ColD)(rows:List (List E)):Except Int (List (List E)):=Gj (La cols) rows
theorem Ahd {cols}{rows}{m}(h:Is cols rows=O m):m=3∨m=5:=Aby _ (fun m=>m=3∨m=5) (fun _ _ ha=>Alc ha) _ m h
theorem Ax9 {cols:List ColD}{row}{j}{c}{a:E}(hc:cols[j]?=H c)(ha:row[j]?=H a):(cols.zip row).take (j+1)=(cols.zip row).take j++[(c,a)]:=by
 rw[aS];grind
def Afy (w':aT)(g gc o1 ge:Nat)(cv:aK)(ty op xk xn:Int)(xs s name:Wd)(n:Int)(sv:aK):Prop:=
 w'.cell? ⟨g,1,G⟩=H cv∧w'.cell? ⟨gc,o1,G⟩=H (I M ty)∧Sc w' ge op xk xn xs s name n sv
theorem Afy.below {w w'}{B g gc o1 ge}{cv}{ty op xk xn}{xs s name}{n}{sv}(h:Afy w g gc o1 ge cv ty op xk xn xs s name n sv)(hb:Below B w w')(h1:g<B)(h2:gc<B)(h3:ge<B):Afy w' g gc o1 ge cv ty op xk xn xs s name n sv:=by
 obtain⟨a,b,c0,c1,c2,c3,c4,c5,c6,c7⟩:=h;exact⟨(hb.cell h1).trans a,(hb.cell h2).trans b,(hb.cell h3).trans c0,(hb.cell h3).trans c1,(hb.cell h3).trans c2,(hb.cell h3).trans c3,(hb.cell h3).trans c4,(hb.cell h3).trans c5,(hb.cell h3).trans c6,(hb.cell h3).trans c7⟩
theorem Afy.cells {w}{g gc o1 ge}{cv}{ty op xk xn}{xs s name}{n}{sv}(h:Afy w g gc o1 ge cv ty op xk xn xs s name n sv){b}(h1:g≠b)(h2:gc≠b)(h3:ge≠b)(o)(vs):Afy (w.setCells b o vs) g gc o1 ge cv ty op xk xn xs s name n sv:=by
 have e:∀(k p),k≠b→(w.setCells b o vs).cell? ⟨k,p,G⟩=w.cell? ⟨k,p,G⟩:=fun k p hk=>by unfold cH;simp only[Dx hk vs o w]
 obtain⟨a,b,c0,c1,c2,c3,c4,c5,c6,c7⟩:=h;exact⟨(e _ _ h1).trans a,(e _ _ h2).trans b,(e _ _ h3).trans c0,(e _ _ h3).trans c1,(e _ _ h3).trans c2,(e _ _ h3).trans c3,(e _ _ h3).trans c4,(e _ _ h3).trans c5,(e _ _ h3).trans c6,(e _ _ h3).trans c7⟩
def Lb {α:Type}:Except Int (List α)→List α
 |.ok l=>l
 |O _=>[]
def Lc {α:Type}:Except Int α→Int
 |.ok _=>0
 |O m=>m
def Ald:Except Int E→E
 |.ok e=>e
 |O _=>.mk 0 zero noW noW 0 []
theorem An7 (tn:Wd)(cols:List ColD)(cv:aK)(d:Nat)(l:List E)(lv:aK)(C:Nat)(w:aT)(he:IsL Az (fun k=>k<C) w lv l)(hl:IsL Cp (fun k=>k<C) w cv cols)(hC:C≤w.heap.size)(hg:∀a∈l,geB d a=bH)(hn:l.length≤1000000000):
  bN aM 224 #[U #[T tn,cv],lv] w fun r w'=>(∃u,r=aF u∧Nl Az (La cols l) (Fr w.heap.size) w' u)∧Below w.heap.size w w':=by
 obtain⟨so,sc,rfl⟩:=hl.shape;obtain⟨ao,c,rfl⟩:=he.shape;have am:=Aq w (J #[T tn,D so cols.length sc] 74)
 by_cases ar:l.length=cols.length
 ·have HR:Hid (La cols l=Gj Qy (cols.zip l)):=if_pos ar;obtain⟨ax,ay,bn⟩:=Vp (w.alloc (J #[T tn,D so cols.length sc] 74)) cols.length (by omega);have az:El Az (Fr (w.heap.size+2)) ((w.alloc (J #[T tn,D so cols.length sc] 74)).alloc (J ax 69)) (w.heap.size+1) cols.length []:=by
   have:=O7 Az (Fr (w.heap.size+2)) (w:=w.alloc (J #[T tn,D so cols.length sc] 74)) (t:=69) (n:=cols.length) ay;rwa[show(w.alloc (J #[T tn,D so cols.length sc] 74)).heap.size=w.heap.size+1 by simp]at this
  obtain⟨ba,bb,-,-⟩:=al2 w (J #[T tn,D so cols.length sc] 74) (J ax 69);rw[ar];go_enter Tryz.func224,Tryz.ntmps224;go_wp2_with fail;clear bn
  go_loopw[21] (fun i wr=>∃(j:Nat) (rs:List E),j≤cols.length∧i=I M j∧Hid (Gj Qy ((cols.zip l).take j)=.ok rs)∧Hid (rs.length=j)∧wr.heap[w.heap.size]?=H (J #[T tn,D so cols.length sc] 74)∧El Az (Fr (w.heap.size+2)) wr (w.heap.size+1) cols.length rs∧Below w.heap.size w wr∧w.heap.size+2≤wr.heap.size) (fun i _=>cols.length-(bF i).toNat)
  case atStart=>exact⟨0,[],aZ _,rfl,by show _=_;rw[bG,Gj],rfl,bb,az,ba,by simp⟩
  case round=>
   obtain⟨j,rs,hj,rfl,HQ,HL,hT,bc,aa,bo⟩:=hrel;clear az ba ay bb;have q2:=HL.out
   by_cases bd:j<cols.length
   ·obtain⟨a,ha⟩:∃a,l[j]?=H a:=⟨_,aD (by omega)⟩;obtain⟨cd,au⟩:∃a,cols[j]?=H a:=⟨_,aD bd⟩;have HT:Hid _:=Ax9 au ha;have bp:=hg a (aG ha);obtain⟨b,ch,cs,rfl,cj,hb,hR,ab⟩:=Av (he.keep (Ae (aa.mono hC))) ha;obtain⟨ad,af,ag,ah,s',ai,n',av,k',c',rfl⟩:=Fh hR;obtain⟨cb,be,ck,rfl,bq,aw,bt,bf⟩:=Av (hl.keep (Ae (aa.mono hC))) au;obtain rfl:=bt;have c1:=bf 1 _ rfl;have d0:=ab 0 _ rfl;have d1:=ab 1 _ rfl;have d2:=ab 2 _ rfl;have d3:=ab 3 _ rfl;have d4:=ab 4 _ rfl;have d5:=ab 5 _ rfl;have d6:=ab 6 _ rfl;have d7:=ab 7 _ rfl;simp only[Az,Cp,aU]at c1 d0 d1 d2 d3 d4 d5 d6 d7;have j0:(0:Int)≤j:=by omega
    have j1:j<(cols.length:Int):=by omega
    have aj:=Aq wr (J (Af ad ⟨af,ag,ah⟩ s' ai n' (D av k' c')) 69);have HI:∀(W) (ae) (ce),(ae=G→ce=0)→Below _ wr W→bN _ 226 #[D ae 0 ce,I _ _,U (Af ad ⟨af,ag,ah⟩ s' ai n' _)] W fun r w'=>(∃u,r=aF u∧Zu (asR [] _ a) (Fr (w.heap.size+2)) w' u)∧Below _ W w':=fun W ae ce bu hW=>(Vq [] (by simp) (fun _ h=>by grind) d cd.ty a _ _ C W (IsE.keep (Ae (hW.mono (Y hC aa.size))) _ _ hR.2) ⟨[],⟨rfl,.inl ⟨rfl,ae,ce,rfl,bu⟩⟩,rfl⟩ (Y (Y hC aa.size) hW.size) bp).mono (fun r w' ⟨⟨u,hu,ha⟩,an⟩=>⟨⟨u,hu,by
     revert ha
     cases asR [] _ a with
     |error m=>exact id
     |ok e2=>
      rintro⟨o1,o2,o3,o4,o5,o6,o7,o8,hq,hE⟩;exact⟨o1,o2,o3,o4,o5,o6,o7,o8,hq,IsE.mono (fun k _ hk=>Y (Y bo hW.size) hk) _ _ hE⟩⟩,an⟩)
    have t1:=Aa hT (j:=1) rfl;have ap:=aR hT;have S0:Afy (wr.alloc _).drew _ cb _ _ (D _ _ sc) _ ad af ag ah s' ai n' _:=⟨(aj.cell ap).trans t1,(aj.cell aw).trans c1,Tb (Ab _ _)⟩;have S1:=Afy.below (w:=wr.alloc _) S0 (Aq _ (J #[] 74)).drew (aH ap aj.size) (aH aw aj.size) (by simp);have aq:Below _ wr ((wr.alloc (J (Af ad ⟨af,ag,ah⟩ s' ai n' (D av k' c')) 69)).alloc (J #[] 74)).drew:=(Da wr _ _).drew;have bg:=HI _ (H ⟨wr.heap.size+1,0,G⟩) 0 (fun h=>by rfl) aq;have cl:=aH bq hC;clear ab bf hR ha au HI hg he hl aj;have bv:=bg.mono (R':=fun r w'=>∃(op:Int) (x:V) (s name:Wd) (n:Int) (ao:Option Addr) (k c:Nat),r=aF (aJ #[U (Af op x s name n (D ao k c)),I _ (Lc (asR [] cd.ty a))])∧IsE (Fr (w.heap.size+1+1)) w' (Ald (asR [] cd.ty a)) (U (Af op x s name n (D ao k c)))∧Below _ _ w') (by
     rintro e w' ⟨⟨v,rfl,hv⟩,an⟩;cases ac:asR [] _ a with
     |error m=>
      rw[ac]at hv;obtain rfl:=hv;exact⟨0,zero,noW,noW,0,G,0,0,rfl,J4 fun _=>rfl,an⟩
     |ok e2=>
      rw[ac]at hv;obtain⟨op,x,s,name,n,ao,k,c,rfl,bw⟩:=hv;exact⟨op,x,s,name,n,ao,k,c,rfl,bw,an⟩)
    have HZ:Hid ((Lc (asR [] cd.ty a)=0∧Gj Qy ((cols.zip l).take (j+1))=.ok (rs++[Ald (asR [] cd.ty a)]))∨((Lc (asR [] cd.ty a)!=0)=bH∧La cols l=O (Lc (asR [] cd.ty a)))):=by
     show _∨_;cases ac:asR [] cd.ty a with
     |ok e2=>exact .inl ⟨rfl,by rw[HT.out,P3,HQ.out];simp only[Qy,ac];rfl⟩
     |error m=>
      have hs:Gj Qy ((cols.zip l).take (j+1))=O m:=by rw[HT.out,P3,HQ.out];simp only[Qy,ac]
      have:=Tr Qy _ ((cols.zip l).drop (j+1)) m hs;rw[aQ]at this;exact .inr ⟨by rcases Rl ac with rfl|rfl<;>decide,by rw[HR.out,this];rfl⟩
    clear bg HQ HL HT HR;generalize Lc _=z at*;generalize Ald _=e2 at*;go_wp2_with fail;refine bU (S:=(fun w'=>Afy w' w.heap.size cb (be+j*3+1) wr.heap.size (D (H ⟨cb,be,G⟩) cols.length sc) cd.ty ad af ag ah s' ai n' (D av k' c'))) (by rfl) ?_ (fun hHeld=>?_)
    ·omega
    refine tk 0 ?_
    try simp only[Z,aA]
    refine tk 1 ?_
    try simp only[Z]
    refine tk 3 ?_
    try simp only[Z]
    refine tk 4 ?_ (hy:=by intro W' ak;obtain⟨a0,a1,b0,b1,b2,b3,b4,b5,b6,b7⟩:=ak;go_simp;all_goals(with_reducible rfl))
    try simp only[Z]
    refine tk 5 ?_
    try simp only[Z]
    refine tk 6 ?_
    try simp only[Z]
    refine tk 7 ?_
    try simp only[Z]
    refine tk 8 ?_ (hy:=by intro W' ak;obtain⟨a0,a1,b0,b1,b2,b3,b4,b5,b6,b7⟩:=ak;go_simp;all_goals(with_reducible rfl))
    try simp only[Z]
    refine tk 9 ?_ (hy:=by intro W' ak;obtain⟨a0,a1,b0,b1,b2,b3,b4,b5,b6,b7⟩:=ak;go_simp;all_goals(with_reducible rfl))
    try simp only[Z]
    refine Bh 2 (fun K hK=>?_);go_simp;go_wp2_with fail;refine hK.out _ _ ?_ (fun hHeld=>?_)
    ·omega
    clear hK K
    try simp only[Z,aA,aB,aC]
    refine Bh 10 (fun K hK=>?_);go_simp
    (refine bv.mono ?_;rintro r w1 ⟨bh,x2,s2,bi,n2,bj,k2,c2,rfl,bx,am⟩;obtain⟨bk,bl,bm⟩:=x2;have al:=Ac aq am;obtain⟨mt,bz⟩:=Abx bc al bd q2 bx;have ca:=C5 bh ⟨bk,bl,bm⟩ s2 bi n2 bj k2 c2;have S2:=S1.below am (aH ap aq.size) (aH aw aq.size) (by simp[bD];omega))
    go_wp2_with fail;refine hK.out _ _ ?_ (fun hHeld=>?_)
    ·omega
    clear hK K
    try simp only[Z,aA,aB,aC]
    refine tk 11 ?_
    try simp only[Z,aA]
    refine tk 12 ?_
    try simp only[Z]
    refine tk 13 ?_
    try simp only[Z]
    refine tk 14 ?_
    try simp only[Z]
    refine Bh 15 (fun K hK=>?_);refine Afx rfl 69 _ _ rfl (w.heap.size+1) (j*8) (Af bh ⟨bk,bl,bm⟩ s2 bi n2 (D bj k2 c2)) ?_ ?_ ?_ ?_ ?_ ?_;exact rfl;exact rfl;exact mt;exact Ay;exact ca;refine hK.out _ _ ?_ (fun hHeld=>?_)
    ·exact S2.cells (by omega) (by omega) (by omega) _ _
    clear hK K
    try simp only[Z]
    refine tk 16 ?_
    try simp only[Z]
    refine bQ (by kernel_rfl) ?_ _;rcases HZ.out with⟨rfl,HS⟩|⟨hz,HE⟩
    ·clear HZ;replace HS:Hid _:=HS;have cc:Hid ((rs++[e2]).length=j+1):=by show _=_;rw[aI,q2];rfl
     go_wp2_with fail;go_roundw
     case rel=>exact⟨_,_,by omega,by rfl,HS,cc,(Dx (show w.heap.size≠w.heap.size+1 by omega) _ _ _).trans ((al.block _ ap).trans hT),bz,Ey (show w.heap.size≤w.heap.size+1 by omega) _ _ _ (aa.trans (al.mono aa.size)),by have:=al.size;simp[Gb];omega⟩
     case measure=>simp[bF];omega
    ·clear HZ;replace HE:Hid _:=HE;go_wp2_with fail;go_ret2;refine⟨⟨_,rfl,?_⟩,Ey (show w.heap.size≤w.heap.size+1 by omega) _ _ _ (aa.trans (al.mono aa.size))⟩;rw[HE.out];rfl
   ·have cf:j=cols.length:=by omega
    subst cf;have HE:Hid (La cols l=.ok rs):=by
     show _=_;have:=HQ.out;rw[List.take_of_length_le (by grind)]at this;rw[HR.out,this]
    have cg:IsL Az (Fr _) wr _ rs:=bc.whole q2 (fun k hk=>Y (by omega) hk) (show w.heap.size≤w.heap.size+1 by omega) (Y (show cols.length≤1000000000 by omega) (by decide));clear q2 HL HQ HR;go_wp2_with fail;go_ret2;refine⟨⟨_,rfl,?_⟩,aa⟩;rw[HE.out];exact⟨_,_,_,rfl,cg⟩
 ·have HE:Hid (La cols l=O 5):=if_neg ar;have cm:(l.length==(cols.length:Int))=bO:=by simp;omega
  clear he hl hg;go_enter Tryz.func224,Tryz.ntmps224;go_wp2_with fail;go_ret2;refine⟨⟨_,rfl,?_⟩,am⟩;rw[HE.out];rfl
theorem Aya:(Tryz.prog.info? 67).map (fun i=>(i.zero,i.size,i.bytes))=H (H (D G 0 0),1,24):=by kernel_rfl
theorem Aum (W)(n)(hn:n≤1000000000000):∃aa:Array aK,aa.size=n*1∧(bL 65 (I M (n:Int)) (I M (n:Int))).run aM W=.ok (D (H ⟨W.heap.size,0,G⟩) n n) (W.alloc (J aa 67)):=by
 obtain⟨i0,hi,ac,ad,ae⟩:=bV Aya;have ab:=cR W 65 67 i0 _ Tryz.underlying65 hi ac .i64 .i64 n n (by omega) (cA _) (by grind) (by omega);rw[ad,bJ]at ab;exact⟨_,bR _ _,ab⟩
theorem Ale {W w1}{g n j}{le}{ao}{k c}{e}
  (h1:El H6 (Fr (g+1)) W g n le) (hb:Below W.heap.size W w1) (hj:j<n) (l1:le.length=j) (he:IsL Az (Fr (g+1)) w1 (D ao k c) e):
  (∃u,w1.cell? ⟨g,j,G⟩=H u)∧w1.frozen? ⟨g,j,G⟩=bO∧El H6 (Fr (g+1)) (w1.setCell ⟨g,j,G⟩ (D ao k c)) g n (le++[e]):=by
 subst l1;have m1:=h1.below hb;have t1:=Aaq (m1.there hj) (j:=0) (by decide);simp only[H6,bY,aU]at t1;exact⟨t1.1,t1.2,m1.set1 hj (show¬g+1≤g by omega) rfl ⟨_,rfl,he⟩⟩
theorem Alf (tn:Wd)(cols:List ColD)(cv:aK)(d:Nat)(l:List (List E))(lv:aK)(C:Nat)(w:aT)(he:IsL H6 (fun k=>k<C) w lv l)(hl:IsL Cp (fun k=>k<C) w cv cols)(hC:C≤w.heap.size)(hg:∀r∈l,∀a∈r,geB d a=bH)(hn:l.length≤1000000000)(ah:∀r∈l,r.length≤1000000000):
  bN aM 158 #[U #[T tn,cv],lv] w fun r w'=>(∃u,r=aF u∧Nl H6 (Is cols l) (Fr w.heap.size) w' u)∧Below w.heap.size w w':=by
 obtain⟨so,sc,rfl⟩:=hl.shape;obtain⟨ao,c,rfl⟩:=he.shape;obtain⟨ai,aj,ar⟩:=Aum (w.alloc (J #[T tn,D so cols.length sc] 74)) l.length (by omega);have ak:El H6 (Fr (w.heap.size+1+1)) ((w.alloc (J #[T tn,D so cols.length sc] 74)).alloc (J ai 67)) (w.heap.size+1) l.length []:=by
  have:=O7 H6 (Fr (w.heap.size+1+1)) (w:=w.alloc (J #[T tn,D so cols.length sc] 74)) (t:=67) (n:=l.length) aj;rwa[show(w.alloc (J #[T tn,D so cols.length sc] 74)).heap.size=w.heap.size+1 by simp]at this
 obtain⟨al,am,-,-⟩:=al2 w (J #[T tn,D so cols.length sc] 74) (J ai 67);go_enter Tryz.func158,Tryz.ntmps158;go_wp2_with fail;clear ar
 go_loopw[15] (fun i wr=>∃(j:Nat) (rs:List (List E)),j≤l.length∧i=I M j∧Hid (Gj (La cols) (l.take j)=.ok rs)∧Hid (rs.length=j)∧wr.heap[w.heap.size]?=H (J #[T tn,D so cols.length sc] 74)∧El H6 (Fr (w.heap.size+1+1)) wr (w.heap.size+1) l.length rs∧Below w.heap.size w wr∧w.heap.size+2≤wr.heap.size) (fun i _=>l.length-(bF i).toNat)
 case atStart=>exact⟨0,[],aZ _,rfl,by show _=_;rw[bG,Gj],rfl,am,ak,al,by simp⟩
 case round=>
  obtain⟨j,rs,hj,rfl,HQ,HL,hT,ad,aa,au⟩:=hrel;clear ak al aj am;have q2:=HL.out
  by_cases ae:j<l.length
  ·obtain⟨a,ha⟩:∃a,l[j]?=H a:=⟨_,aD ae⟩;have HT:Hid (l.take (j+1)=l.take j++[a]):=by show _=_;rw[aS,ha];rfl
   obtain⟨b,ba,cs,rfl,bb,hb,hR,an⟩:=Av (he.keep (Ae (aa.mono hC))) ha;obtain⟨bc,rfl,af⟩:=hR;obtain⟨bd,c',rfl⟩:=af.shape;have d0:=an 0 _ rfl;simp only[H6,bY,aU]at d0;have t0:=Aa hT (j:=0) rfl;have t1:=Aa hT (j:=1) rfl;have av:=aR hT;have j0:(0:Int)≤j:=by omega
   have j1:j<(l.length:Int):=by omega
   have HI:=An7 tn cols _ d a _ C wr af (hl.keep (Ae (aa.mono hC))) (Y hC aa.size) (hg a (aG ha)) (ah a (aG ha));clear an af ha hg he hl ah;rcases ab:La cols a with m|r
   ·have hm:=Alc ab;have ag:=HI.mono (R':=fun e w'=>e=aF (aJ #[D G 0 0,I M m])∧Below wr.heap.size wr w') (by
     rintro e w' ⟨⟨v,rfl,hv⟩,ap⟩;rw[ab]at hv;obtain rfl:=hv;grind)
    have HE:Hid (Is cols l=O m):=by
     show _=_;have hs:Gj (La cols) (l.take (j+1))=O m:=by rw[HT.out,P3,HQ.out];simp only[ab]
     have:=Tr (La cols) (l.take (j+1)) (l.drop (j+1)) m hs;rw[aQ]at this;unfold Is;exact this
    clear HI ab HQ HL HT;rcases hm with rfl|rfl
    all_goals
     go_wp2_with(first|(refine ag.mono ?_;rintro e w1 ⟨rfl,ac⟩;obtain⟨⟨u,mu⟩,mf,aq⟩:=Ale ad ac ae q2 (IsL.nil Az _ w1)));go_ret2;refine⟨⟨_,rfl,?_⟩,(aa.trans (ac.mono aa.size)).setCell (show w.heap.size≤w.heap.size+1 by omega) _⟩;rw[HE.out];rfl
   ·have ag:=HI.mono (R':=fun e w'=>∃(ao:Option Addr) (k c:Nat),e=aF (aJ #[D ao k c,I _ 0])∧IsL Az (Fr (w.heap.size+1+1)) w' (D ao k c) r∧Below _ wr w') (by
     rintro e w' ⟨⟨v,rfl,hv⟩,ap⟩;rw[ab]at hv;obtain⟨ao,k,c,rfl,hL⟩:=hv;exact⟨ao,k,c,rfl,hL.mono (fun k _ hk=>Y au hk),ap⟩)
    have HS:Hid (Gj (La cols) (l.take (j+1))=.ok (rs++[r])):=by show _=_;rw[HT.out,P3,HQ.out];simp only[ab]
    have aw:Hid ((rs++[r]).length=j+1):=by show _=_;rw[aI,q2];rfl
    clear HI ab HQ HL HT;go_wp2_with(first|(refine ag.mono ?_;rintro e w1 ⟨be,k2,c2,rfl,ax,ac⟩;obtain⟨⟨u,mu⟩,mf,aq⟩:=Ale ad ac ae q2 ax));go_roundw
    case rel=>exact⟨_,_,by omega,by rfl,HS,aw,(aN _ _ _ _ (show w.heap.size≠w.heap.size+1 by omega)).trans ((ac.block _ av).trans hT),aq,(aa.trans (ac.mono aa.size)).setCell (show w.heap.size≤w.heap.size+1 by omega) _,by have:=ac.size;simp;omega⟩
    case measure=>simp[bF];omega
  ·have ay:j=l.length:=by omega
   subst ay;have HE:Hid (Is cols l=.ok rs):=by
    show _=_;have:=HQ.out;rw[aV]at this;exact this
   have az:IsL H6 (Fr _) wr _ rs:=ad.whole q2 (fun k hk=>Y (by omega) hk) (show w.heap.size≤w.heap.size+1 by omega) (Y hn (by decide));clear q2 HL HQ;go_wp2_with fail;go_ret2;refine⟨⟨_,rfl,?_⟩,aa⟩;rw[HE.out];exact⟨_,_,_,rfl,az⟩
def Abz (cols:List ColD)(s:Wd):Int:=((cols[(Dy cols s).toNat]?).map ColD.ty).getD 0
def Sd (t:TabD)(seen:List Wd)(p:Wd×E):Except Int (Wd×E):=
 if Dy t.cols p.1<0 then O 3 else if Nw seen p.1 then O 4 else match asR [t] (Abz t.cols p.1) p.2 with
  |O m=>O m
  |.ok e=>.ok (p.1,e)
def Cr (t:TabD):List Wd→List (Wd×E)→Except Int (List (Wd×E))
 |_,[]=>.ok []
 |seen,p::l=>match Sd t seen p with
  |O m=>O m
  |.ok q=>match Cr t (seen++[p.1]) l with
   |O m=>O m
   |.ok qs=>.ok (q::qs)
theorem Vr (t):∀(seen:List Wd) (l:List (Wd×E)) (p:Wd×E),Cr t seen (l++[p])=match Cr t seen l with
  |O m=>O m
  |.ok qs=>match Sd t (seen++l.map aO) p with
   |O m=>O m
   |.ok q=>.ok (qs++[q])
 |seen,[],p=>by
  simp only[bZ,Cr,List.map_nil,List.append_nil]
 |seen,x::l,p=>by
  simp only[aW,Cr,Vr t (seen++[x.1]) l p,List.map_cons];grind
theorem Yh (t):∀(seen:List Wd) (l m:List (Wd×E)) (k:Int),Cr t seen l=O k→Cr t seen (l++m)=O k
 |seen,[],m,k,h=>by simp[Cr]at h
 |seen,x::l,m,k,h=>by
  simp only[aW,Cr]at h⊢;cases hx:Sd t seen x with
  |error j=>grind
  |ok r=>
   rw[hx]at h;simp only at h⊢;cases hl:Cr t _ l with
   |error j=>
    rw[hl]at h;rw[Yh t _ l m j hl];omega
   |ok rs=>grind
theorem Ayb {t}{seen}{p}{m}(h:Sd t seen p=O m):m=3∨m=4∨m=5:=by
 unfold Sd at h;split at h
 ·grind
 ·split at h
  ·grind
  ·cases ha:asR [t] _ p.2 with
   |error k=>
    rw[ha]at h;obtain rfl:=bE h;rcases Rl ha with h|h
    ·omega
    omega
   |ok e=>grind
theorem Ayc:(Tryz.prog.info? 133).map (fun i=>(i.zero,i.size,i.bytes))=H (H (U #[T ⟨#[]⟩,I M 0,I M 0,I M 0,T ⟨#[]⟩,T ⟨#[]⟩,T ⟨#[]⟩,I M 0,D G 0 0]),9,120):=by kernel_rfl
theorem Ayd:(Tryz.prog.info? 133).map (·.size)=H 9:=by kernel_rfl
theorem Aun (W)(n)(hn:n≤1000000000000):∃aa:Array aK,aa.size=n*9∧(bL 66 (I M (n:Int)) (I M (n:Int))).run aM W=.ok (D (H ⟨W.heap.size,0,G⟩) n n) (W.alloc (J aa 133)):=by
 obtain⟨i0,hi,ac,ad,ae⟩:=bV Ayc;have ab:=cR W 66 133 i0 _ Tryz.underlying66 hi ac .i64 .i64 n n (by omega) (cA _) (by grind) (by omega);rw[ad,bJ]at ab;exact⟨_,bR _ _,ab⟩
abbrev L9 (c:Wd)(op xk xn:Int)(xs s name:Wd)(n:Int)(sv:aK):Array aK:=#[T c,I M op,I M xk,I M xn,T xs,T s,T name,I M n,sv]
theorem Aye {W}{g n j}{le}{cw}{op xk xn}{xs s name:Wd}{i}{ao}{k c}{e}
  (h1:El E8 (Fr (g+1)) W g n le) (hj:j<n) (l1:le.length=j) (he:IsE (Fr (g+1)) W e (U (Af op ⟨xk,xn,xs⟩ s name i (D ao k c)))):
  W.there g (j*9) 9∧El E8 (Fr (g+1)) (W.setCells g (j*9) (L9 cw op xk xn xs s name i (D ao k c)).toList) g n (le++[(cw,e)]):=by
 subst l1;exact⟨h1.there hj,h1.set hj (show¬g+1≤g by omega) ⟨_,rfl,rfl,he⟩⟩
theorem Ars (c)(op xk xn)(xs s name)(n)(ao)(k cp):(L9 c op xk xn xs s name n (D ao k cp)).all (·.oneCell')=bH:=by simp[cS]
theorem Afz (w:aT)(g o):∀vs:List aK,w.grownBy (w.setCells g o vs) (H g):=by
 intro vs;refine⟨?_,?_,?_,by rw[Gb];simp,fun k _ hk=>Dx (by grind) vs o w⟩
 ·induction vs generalizing o w with
  |nil=>rfl
  |cons v vs ih=>rw[bC,ih];rfl
 ·induction vs generalizing o w with
  |nil=>rfl
  |cons v vs ih=>rw[bC,ih];rfl
 ·induction vs generalizing o w with
  |nil=>rfl
  |cons v vs ih=>rw[bC,ih];rfl
theorem Ap2 {W}{q}{tn}{cols}{cv}{ty}(hq:W.heap[q]?=H (J #[T tn,cv] ty))(hc:IsL Cp (fun k=>k<W.heap.size) W cv cols):IsL Ci (fun k=>k<W.heap.size) W (D (H ⟨q,0,G⟩) 1 1) [⟨tn,cols⟩]:=by
 refine⟨[T tn,cv],⟨rfl,.inr ⟨Nat.one_pos,q,0,1,rfl,aR hq,aR hq,aX _,by decide,fun j u hj=>?_⟩⟩,All.one ⟨cv,rfl,hc⟩⟩;rw[Nat.zero_add];exact Aa hq (by grind)
def Yi (w':aT)(g gc o1 ge:Nat)(tn:Wd)(cv:aK)(ty:Int)(cw:Wd)(op xk xn:Int)(xs s name:Wd)(n:Int)(sv:aK):Prop:=
 w'.heap[g]?=H (J #[T tn,cv] 74)∧w'.cell? ⟨gc,o1,G⟩=H (I M ty)∧w'.heap[ge]?=H (J (L9 cw op xk xn xs s name n sv) 133)
theorem Yi.below {w w'}{B g gc o1 ge}{tn}{cv}{ty}{cw}{op xk xn}{xs s name}{n}{sv}(h:Yi w g gc o1 ge tn cv ty cw op xk xn xs s name n sv)(hb:Below B w w')(h1:g<B)(h2:gc<B)(h3:ge<B):Yi w' g gc o1 ge tn cv ty cw op xk xn xs s name n sv:=by
 obtain⟨a,b,c⟩:=h;exact⟨(hb.block _ h1).trans a,(hb.cell h2).trans b,(hb.block _ h3).trans c⟩
theorem Yi.row {w}{g gc o1 ge}{tn}{cv}{ty}{cw}{op xk xn}{xs s name}{n}{sv}(h:Yi w g gc o1 ge tn cv ty cw op xk xn xs s name n sv){b}(h1:g≠b)(h2:gc≠b)(h3:ge≠b)(cells):Yi (w.setRow b cells) g gc o1 ge tn cv ty cw op xk xn xs s name n sv:=by
 obtain⟨a,c,d⟩:=h;exact⟨By a h1 _,by rw[←c];simp[World.setRow,cH,cG,Ne.symm h2],By d h3 _⟩
theorem Yi.cells {w'}{g gc o1 ge}{tn}{cv}{ty}{cw}{op xk xn}{xs s name}{n}{sv}(h:Yi w' g gc o1 ge tn cv ty cw op xk xn xs s name n sv):
  w'.cell? ⟨g,0,G⟩=H (T tn)∧w'.cell? ⟨g,1,G⟩=H cv∧w'.cell? ⟨gc,o1,G⟩=H (I M ty)∧w'.cell? ⟨ge,0,G⟩=H (T cw)∧w'.cell? ⟨ge,1,G⟩=H (I M op)∧w'.cell? ⟨ge,2,G⟩=H (I M xk)∧w'.cell? ⟨ge,3,G⟩=H (I M xn)∧w'.cell? ⟨ge,4,G⟩=H (T xs)∧w'.cell? ⟨ge,5,G⟩=H (T s)∧w'.cell? ⟨ge,6,G⟩=H (T name)∧w'.cell? ⟨ge,7,G⟩=H (I M n)∧w'.cell? ⟨ge,8,G⟩=H sv:=
 ⟨Aa h.1 rfl,Aa h.1 rfl,h.2.1,Aa h.2.2 rfl,Aa h.2.2 rfl,Aa h.2.2 rfl,Aa h.2.2 rfl,Aa h.2.2 rfl,Aa h.2.2 rfl,Aa h.2.2 rfl,Aa h.2.2 rfl,Aa h.2.2 rfl⟩
theorem tkS {P:Program}{md:Region.Mode}{aa:Array Oper}{Q:Exit→Act→aT→Prop}{S:aT→Prop}{v:aK}{ac:Nat}{ab:Array Bool}{a:Act}{w:aT}{oi:Oper}(i d:Nat)
  (h:wpAnyH P md aa Q S ac (ab.setIfInBounds i bH) (a.put (H d) v) w)
  (hi:aa[i]?=H oi:=by rfl) (hd:oi.dst=H d:=by rfl) (hs:Region.noSelect aa=bH:=by kernel_rfl)
  (hf:Region.free md aa ab i=bH:=by kernel_rfl) (hr:(Region.ready md aa ab).contains i=bH:=by kernel_rfl)
  (hw:bI oi (yielded aa a.tmps)=bH:=by rfl)
  (hy:∀w,S w→(execOp a.eval oi).run P w=.ok (.value v) w:=by intro W' ad;obtain⟨a0,a1,a2,b0,b1,b2,b3,b4,b5,b6,b7,b8⟩:=Yi.cells ad;go_simp;all_goals(with_reducible rfl))
  (hQ:∀c a w,Q (.panic c) (a.put (H d) v) w→Q (.panic c) a w:=by exact fun _ _ _ h=>h)
  (hS:S w:=by assumption):
  wpAnyH P md aa Q S (ac+1) ab a w:=wpAnyH_take hi hs hf hr (hd▸hQ) (.inl ⟨hw,hy⟩) hS (hd▸h)
def Auo (W wx:aT)(B:Nat)(e:E)(p:Nat):Prop:=
 W.heap.size≤p∧Below W.heap.size W wx∧∃(op:Int) (x:V) (s name:Wd) (n:Int) (ao:Option Addr) (k c:Nat),wx.heap[p]?=H (J (Af op x s name n (D ao k c)) 69)∧IsE (Fr B) wx e (U (Af op x s name n (D ao k c)))
theorem Yj {W wa}{B p}{e}{op}{x}{s name}{n}{ao}{k c}{old}(hp:W.heap.size≤p)(hb:Below W.heap.size W wa)(hz:wa.heap[p]?=H (J old 69))(hE:IsE (fun k=>B≤k∧k≠p) wa e (U (Af op x s name n (D ao k c)))):Auo W (wa.setRow p (Af op x s name n (D ao k c))) B e p:=
 ⟨hp,Below.row hb hp _,op,x,s,name,n,ao,k,c,Ao hz,IsE.mono (fun _ _ h=>h.1) _ _ (IsE.keep ((Keeps.refl _ _).row (fun h=>h.2 rfl) _) _ _ hE)⟩
theorem Alg (tn:Wd)(cols:List ColD)(cv:aK)(d:Nat)(l:List (Wd×E))(lv:aK)(C:Nat)(w:aT)(he:IsL E8 (fun k=>k<C) w lv l)(hl:IsL Cp (fun k=>k<C) w cv cols)(hC:C≤w.heap.size)(hg:∀p∈l,geB d p.2=bH)(hn:l.length≤16777216)(hs:∀p∈l,p.1.size≤maxLen)(cl:cols.length≤1000000):
  bN aM 159 #[U #[T tn,cv],lv] w fun r w'=>(∃u,r=aF u∧Nl E8 (Cr ⟨tn,cols⟩ [] l) (Fr w.heap.size) w' u)∧Below w.heap.size w w':=by
 obtain⟨so,sc,rfl⟩:=hl.shape;obtain⟨ao,c,rfl⟩:=he.shape;obtain⟨be,bn,cm⟩:=Aun ((w.alloc (J #[T tn,D so cols.length sc] 74)).alloc (.map #[] 0)) l.length (by omega);have bo:El E8 (Fr (w.heap.size+1+1+1)) (((w.alloc (J #[T tn,D so cols.length sc] 74)).alloc (.map #[] 0)).alloc (J be 133)) (w.heap.size+1+1) l.length []:=by
  have:=O7 E8 (Fr (w.heap.size+1+1+1)) (w:=(w.alloc (J #[T tn,D so cols.length sc] 74)).alloc (.map #[] 0)) (t:=133) (n:=l.length) bn;rwa[show((w.alloc (J #[T tn,D so cols.length sc] 74)).alloc (.map #[] 0)).heap.size=w.heap.size+1+1 by simp]at this
 have bp:(((w.alloc (J #[T tn,D so cols.length sc] 74)).alloc (.map #[] 0)).alloc (J be 133)).heap[w.heap.size]?=H (J #[T tn,D so cols.length sc] 74):=Ad (Ad (Ab _ _) _) _;have bq:Cnt (((w.alloc (J #[T tn,D so cols.length sc] 74)).alloc (.map #[] 0)).alloc (J be 133)) (w.heap.size+1) []:=by
  have:=Abm (w.alloc (J #[T tn,D so cols.length sc] 74));rw[show(w.alloc (J #[T tn,D so cols.length sc] 74)).heap.size=w.heap.size+1 by simp]at this;exact Agw this _
 have bt:Below w.heap.size w (((w.alloc (J #[T tn,D so cols.length sc] 74)).alloc (.map #[] 0)).alloc (J be 133)):=(Da w _ _).alloc (by simp;omega) _;have cn:=@run_makeMap aM;go_enter Tryz.func159,Tryz.ntmps159;go_wp2_with fail;clear cm cn
 go_loopw[19] (fun i wr=>∃(j:Nat) (rs:List (Wd×E)),j≤l.length∧i=I M j∧Hid (Cr ⟨tn,cols⟩ [] (l.take j)=.ok rs)∧Hid (rs.length=j)∧wr.heap[w.heap.size]?=H (J #[T tn,D so cols.length sc] 74)∧Cnt wr (w.heap.size+1) ((l.take j).map aO)∧El E8 (Fr (w.heap.size+1+1+1)) wr (w.heap.size+1+1) l.length rs∧Below w.heap.size w wr∧w.heap.size+3≤wr.heap.size) (fun i _=>l.length-(bF i).toNat)
 case atStart=>exact⟨0,[],aZ _,rfl,by show _=_;rw[bG,Cr],rfl,bp,bq,bo,bt,by simp⟩
 case round=>
  obtain⟨j,rs,hj,rfl,HQ,HL,hT,bi,bf,ac,co⟩:=hrel;clear bo bt bn bp bq;have q2:=HL.out
  by_cases bu:j<l.length
  ·obtain⟨a,ha⟩:∃a,l[j]?=H a:=⟨_,aD bu⟩;have HT:Hid (l.take (j+1)=l.take j++[a]):=by show _=_;rw[aS,ha];rfl
   have bv:=hg a (aG ha);have bw:=hs a (aG ha);obtain⟨cw,ae⟩:=a;simp only at bv bw;obtain⟨b,dj,cs,rfl,dk,hb,hR,am⟩:=Av (he.keep (Ae (ac.mono hC))) ha;obtain⟨d8,rfl,cp,bb⟩:=hR;obtain⟨ar,⟨au,av,aw⟩,s',ax,n',ay,k',c',bx,_⟩:=Rm bb;obtain rfl:d8=[I M ar,I M au,I M av,T aw,T s',T ax,I M n',D ay k' c']:=by have:=congrArg Array.toList (cL bx);simpa using this
   clear cp bx;have d0:=am 0 _ rfl;have d1:=am 1 _ rfl;have d2:=am 2 _ rfl;have d3:=am 3 _ rfl;have d4:=am 4 _ rfl;have d5:=am 5 _ rfl;have d6:=am 6 _ rfl;have d7:=am 7 _ rfl;have d8:=am 8 _ rfl;simp only[E8,aU]at d0 d1 d2 d3 d4 d5 d6 d7 d8;have j0:(0:Int)≤(j:Int):=by omega
   have j1:(j:Int)<(l.length:Int):=by omega
   have t0:=Aa hT (j:=0) rfl;have t1:=Aa hT (j:=1) rfl;have bz:=aR hT;have bc:=Aq wr (J (L9 cw ar au av aw s' ax n' (D ay k' c')) 133);have HF:=L6 cols tn (D so cols.length sc) cw C _ ((hl.keep (Ae (ac.mono hC))).keep (Ae (bc.mono (Y hC ac.size)))) (Y (Y hC ac.size) bc.size);have HA:=fun(W:aT) (h:Cnt W (w.heap.size+1) ((l.take j).map aO))=>Xp (w.heap.size+1) ((l.take j).map aO) cw W h bw (by simp;omega)
   have HX:∀m,Sd ⟨tn,cols⟩ ((l.take j).map aO) (cw,ae)=O m→Cr ⟨tn,cols⟩ [] l=O m:=fun m hm=>by
    have hs:Cr ⟨tn,cols⟩ [] (l.take (j+1))=O m:=by rw[HT.out,Vr,HQ.out];simp only[bZ,hm]
    have:=Yh ⟨tn,cols⟩ [] (l.take (j+1)) (l.drop (j+1)) m hs;rwa[aQ]at this
   have HY:∀q,Sd ⟨tn,cols⟩ ((l.take j).map aO) (cw,ae)=.ok q→Cr ⟨tn,cols⟩ [] (l.take (j+1))=.ok (rs++[q]):=fun q hq=>by
    rw[HT.out,Vr,HQ.out];simp only[bZ,hq]
   have HN:Hid ((l.take (j+1)).map aO=(l.take j).map aO++[cw]):=by show _=_;rw[HT.out,cV];rfl
   have HZ:Hid (Sd ⟨tn,cols⟩ ((l.take j).map aO) (cw,ae)=if Dy cols cw<0 then O 3 else if Nw ((l.take j).map aO) cw then O 4 else match asR [⟨tn,cols⟩] (Abz cols cw) ae with
    |O m=>O m
    |.ok e=>.ok (cw,e)):=rfl
   generalize(l.take j).map aO=N at*;rcases Kj cols cw with hneg|⟨kk,x,hk1,hk2,_⟩
   ·have HE:Hid (Cr ⟨tn,cols⟩ [] l=O 3):=HX 3 (by rw[HZ.out,hneg];rfl);rw[hneg]at HF;clear HA HX HY HZ HN HQ HL HT am bb ha hg hs he hl hneg;go_wp2_with(first|(go_fit HF;rintro e w1 ⟨rfl,aq⟩;have aa:=Ac bc aq));go_ret2;refine⟨⟨_,rfl,?_⟩,ac.trans (aa.mono ac.size)⟩;rw[HE.out];rfl
   ·have cq:Abz cols cw=x.ty:=by unfold Abz;rw[hk1];simp[hk2]
    have dl:kk<cols.length:=(cC.1 hk2).1;obtain⟨cb,af,dm,rfl,cr,ca,ct,bj⟩:=Av (hl.keep (Ae (ac.mono hC))) hk2;obtain rfl:=ct;have c1:=bj 1 _ rfl;simp only[Cp]at c1;have k0:(0:Int)≤(kk:Int):=by omega
    have k1:(kk:Int)<(cols.length:Int):=by omega
    rw[hk1]at HF HZ;rw[cq]at HZ;have cu:¬((kk:Int)<0):=by omega
    rw[if_neg cu]at HZ;cases bg:Nw N cw
    ·rw[bg]at HA HZ;simp only[cN,if_false]at HZ;clear hk1 hk2 bj bg am ha hg hs;go_wp2_with(first|(go_fit HF;rintro e w1 ⟨rfl,aq⟩;have aa:=Ac bc aq;have cc:=bi.below aa;have bh:=(aq.block _ (show wr.heap.size<_ by simp)).trans (Ab wr _);have s0:=Aa bh (j:=0) rfl)|(go_fit(HA _ cc);rintro e w2 ⟨rfl,cd,ad⟩));have cx:wr.heap.size<w1.heap.size:=aR bh;have ce:Below w.heap.size w w2:=Below.grow (ac.trans (aa.mono ac.size)) ad (Y ac.size aa.size) (by omega);have cf:w2.heap[w.heap.size]?=H (J #[T tn,D (H ⟨cb,af,G⟩) cols.length sc] 74):=Gq ad ((aa.block _ bz).trans hT) (by simp);have dn:cb<w.heap.size:=aH cr hC;have SS:Yi w2 w.heap.size cb (af+kk*3+1) wr.heap.size tn (D (H ⟨cb,af,G⟩) cols.length sc) x.ty cw ar au av aw s' ax n' (D ay k' c'):=⟨cf,ad.cell ((aa.cell (p:=⟨cb,af+kk*3+1,G⟩) ca).trans c1) (by simp;omega),Gq ad bh (by simp;omega)⟩;have KS:∀W,Below w2.heap.size w2 W→Yi W w.heap.size cb (af+kk*3+1) wr.heap.size tn (D (H ⟨cb,af,G⟩) cols.length sc) x.ty cw ar au av aw s' ax n' (D ay k' c'):=fun W hW=>SS.below hW (aH bz (Y aa.size ad.size)) (aH ca (Y aa.size ad.size)) (aH cx ad.size)
     have cy:El E8 (Fr (w.heap.size+1+1+1)) w2 (w.heap.size+1+1) l.length rs:=(bf.below aa).keep ⟨ad.size,fun k hk hl=>ad.block k hl (by intro h;simp at h;have:w.heap.size+1+1+1≤k:=hk;omega)⟩ (ad.block _ (bf.below aa).lt (by simp));have bk:Keeps (fun k=>k<C) wr w2:=(Ae (aa.mono (Y hC ac.size))).trans ⟨ad.size,fun k hk hl=>ad.block k hl (by intro h;simp at h;have:k<C:=hk;omega)⟩;have cg:=IsE.mono (F':=fun k=>k<w2.heap.size) (fun k hk _=>hk) _ _ (IsE.keep bk _ _ bb);have ch:=((hl.keep (Ae (ac.mono hC))).keep bk).mono (F':=fun k=>k<w2.heap.size) (fun k hk _=>hk);have HI:∀(Wc:aT) (q:Nat),Below w2.heap.size w2 Wc→Wc.heap[q]?=H (J #[T tn,D (H ⟨cb,af,G⟩) cols.length sc] 74)→bN aM 226 #[D (H ⟨q,0,G⟩) 1 1,I M x.ty,U (Af ar ⟨au,av,aw⟩ s' ax n' (D ay k' c'))] Wc fun r w'=>(∃u,r=aF u∧Zu (asR [⟨tn,cols⟩] x.ty ae) (Fr Wc.heap.size) w' u)∧Below Wc.heap.size Wc w':=fun Wc q hW hq=>Vq [⟨tn,cols⟩] (show 1≤1000 by decide) (by simpa using cl) d x.ty ae _ _ Wc.heap.size Wc (IsE.mono (fun k hk _=>hk) _ _ (IsE.keep (Ak hW) _ _ cg)) (Ap2 hq ((ch.keep (Ak hW)).mono (fun k hk _=>hk))) (aX _) bv
     have dp:w.heap.size+3≤w2.heap.size:=Y co (Y aa.size ad.size);obtain⟨m,e3,cj,bd⟩:∃(m:Int) (e3:E),((asR [⟨tn,cols⟩] x.ty ae=O m∧(m=3∨m=5))∨(asR [⟨tn,cols⟩] x.ty ae=.ok e3∧m=0))∧∀(Wc:aT) (q:Nat),Below w2.heap.size w2 Wc→Wc.heap[q]?=H (J #[T tn,D (H ⟨cb,af,G⟩) cols.length sc] 74)→bN aM 226 #[D (H ⟨q,0,G⟩) 1 1,I M x.ty,U (Af ar ⟨au,av,aw⟩ s' ax n' (D ay k' c'))] Wc fun r w'=>∃(op:Int) (x:V) (s name:Wd) (n:Int) (ao:Option Addr) (k c:Nat),r=aF (aJ #[U (Af op x s name n (D ao k c)),I M m])∧IsE (Fr Wc.heap.size) w' e3 (U (Af op x s name n (D ao k c)))∧Below Wc.heap.size Wc w':=by
      rcases an:asR [⟨tn,cols⟩] x.ty ae with m|e2
      ·refine⟨m,.mk 0 zero noW noW 0 [],.inl ⟨rfl,Rl an⟩,fun Wc q h1 h2=>(HI Wc q h1 h2).mono ?_⟩;rintro r w' ⟨⟨u,rfl,hu⟩,bl⟩;rw[an]at hu;obtain rfl:=hu;exact⟨0,zero,noW,noW,0,G,0,0,rfl,J4 fun _=>rfl,bl⟩
      ·refine⟨0,e2,.inr ⟨rfl,rfl⟩,fun Wc q h1 h2=>(HI Wc q h1 h2).mono ?_⟩;rintro r w' ⟨⟨u,rfl,hu⟩,bl⟩;rw[an]at hu;obtain⟨op,x,s,name,n,ao,k,c,rfl,cz⟩:=hu;exact⟨op,x,s,name,n,ao,k,c,rfl,cz,bl⟩
     have bm:Hid ((asR [⟨tn,cols⟩] x.ty ae=O m∧(m=3∨m=5))∨(asR [⟨tn,cols⟩] x.ty ae=.ok e3∧m=0)):=cj;clear HI cj cg ch bk bf cc ad SS cf s0 bh aq bi bb he hl HA HF c1 t0 t1 d0 d1 d2 d3 d4 d5 d6 d7 d8
     go_cut[11,12]from 34 to 48 (fun da db wx=>∃p,da=cE (H ⟨p,0,G⟩)∧db=I M m∧Auo w2 wx (w.heap.size+1+1+1) e3 p)
     case first=>
      refine bU (S:=(fun w'=>Yi w' w.heap.size cb (af+kk*3+1) wr.heap.size tn (D (H ⟨cb,af,G⟩) cols.length sc) x.ty cw ar au av aw s' ax n' (D ay k' c'))) (by kernel_rfl) ?_ (fun hHeld=>?_)
      ·exact KS _ (Below.refl _ _).drew
      refine tkS 0 35 ?_
      try simp only[Z,aA,aB,aC]
      refine tkS 2 37 ?_
      try simp only[Z,aA,aB,aC]
      refine tkS 3 38 ?_
      try simp only[Z,aA,aB,aC]
      refine tkS 4 39 ?_
      try simp only[Z,aA,aB,aC]
      refine tkS 5 40 ?_
      try simp only[Z,aA,aB,aC]
      refine tkS 6 41 ?_
      try simp only[Z,aA,aB,aC]
      refine tkS 7 42 ?_
      try simp only[Z,aA,aB,aC]
      refine tkS 8 43 ?_
      try simp only[Z,aA,aB,aC]
      refine tkS 9 44 ?_
      try simp only[Z,aA,aB,aC]
      refine Abi 1 14 (fun K hK=>?_) (fun K hK=>?_)
      ·go_simp;go_wp2_with fail;refine hK.out _ _ ?_ (fun hHeld=>?_)
       ·exact KS _ (Aq w2 _).drew
       clear hK K
       try simp only[Z,aA,aB,aC]
       refine Abi 10 14 (fun K hK=>?_) (fun K hK=>?_)
       ·go_simp
        (refine(bd (w2.alloc (J #[T tn,D (H ⟨cb,af,G⟩) cols.length sc] 74)).drew w2.heap.size (Aq w2 _).drew (Ab _ _)).mono ?_;rintro r w3 ⟨ag,x2,s2,ah,n2,ai,k2,c2,rfl,az,ap⟩;obtain⟨aj,ak,al⟩:=x2;have dc:=C5 ag ⟨aj,ak,al⟩ s2 ah n2 ai k2 c2;have ab:Below w2.heap.size w2 w3:=Ac (Aq w2 _).drew ap)
        go_wp2_with fail;refine hK.out _ _ ?_ (fun hHeld=>?_)
        ·exact KS _ ab
        clear hK K
        try simp only[Z,aA,aB,aC]
        refine tkS 11 34 ?_
        try simp only[Z,aA,aB,aC]
        refine tkS 12 46 ?_
        try simp only[Z,aA,aB,aC]
        refine tkS 13 47 ?_
        try simp only[Z,aA,aB,aC]
        refine Bh 14 (fun K hK=>?_);go_simp;go_wp2_with fail;refine hK.out _ _ ?_ (fun hHeld=>?_)
        ·exact KS _ (ab.alloc ab.size _)
        clear hK K
        try simp only[Z,aA,aB,aC]
        refine Bh 15 (fun K hK=>?_);refine Hw rfl 69 _ _ rfl w3.heap.size (Af ag ⟨aj,ak,al⟩ s2 ah n2 (D ai k2 c2)) ?_ ?_ 69 (Af 0 zero noW noW 0 (D G 0 0)) ?_ ?_ ?_ ?_ ?_;exact rfl;exact rfl;exact(Ab w3 _);exact Ay;exact rfl;exact dc;refine hK.out _ _ ?_ (fun hHeld=>?_)
        ·exact KS _ (Below.row (ab.alloc ab.size _) ab.size _)
        clear hK K
        try simp only[Z]
        refine tkS 16 12 ?_
        try simp only[Z,aA,aB,aC]
        refine bQ (by kernel_rfl) ?_ _;go_wp2_with fail;go_meet
        case rel=>exact⟨w3.heap.size,rfl,rfl,Yj ab.size (ab.alloc ab.size _) (Ab w3 _) (IsE.keep (Ak (Aq _ _)) _ _ (IsE.mono (fun k hk h=>⟨Y (by simp[bD];omega) h,Nat.ne_of_lt hk⟩) _ _ az))⟩
       ·go_simp;go_wp2_with fail;refine hK.out _ _ ?_ (fun hHeld=>?_)
        ·exact KS _ (Da w2 _ _).drew
        clear hK K
        try simp only[Z,aA,aB,aC]
        refine Bh 10 (fun K hK=>?_);go_simp
        (refine(bd ((w2.alloc (J #[T tn,D (H ⟨cb,af,G⟩) cols.length sc] 74)).alloc (J (Af 0 zero noW noW 0 (D G 0 0)) 69)).drew w2.heap.size (Da w2 _ _).drew (Ad (Ab _ _) _)).mono ?_;rintro r w3 ⟨ag,x2,s2,ah,n2,ai,k2,c2,rfl,az,ap⟩;obtain⟨aj,ak,al⟩:=x2;have ab:Below w2.heap.size w2 w3:=Ac (Da w2 _ _).drew ap)
        go_wp2_with fail;refine hK.out _ _ ?_ (fun hHeld=>?_)
        ·exact KS _ ab
        clear hK K
        try simp only[Z,aA,aB,aC]
        refine tkS 11 34 ?_
        try simp only[Z,aA,aB,aC]
        refine tkS 12 46 ?_
        try simp only[Z,aA,aB,aC]
        refine tkS 13 47 ?_
        try simp only[Z,aA,aB,aC]
        refine Bh 15 (fun K hK=>?_);refine Hw rfl 69 _ _ rfl (w2.heap.size+1) (Af ag ⟨aj,ak,al⟩ s2 ah n2 (D ai k2 c2)) ?_ ?_ 69 (Af 0 zero noW noW 0 (D G 0 0)) ?_ ?_ ?_ ?_ ?_;exact rfl;exact rfl;exact((ap.block _ (by simp[bD])).trans (Ca _ _ _));exact Ay;exact rfl;exact C5 ag ⟨aj,ak,al⟩ s2 ah n2 ai k2 c2;refine hK.out _ _ ?_ (fun hHeld=>?_)
        ·exact KS _ (Below.row ab (show w2.heap.size≤(w2.heap.size+1) by omega) _)
        clear hK K
        try simp only[Z]
        refine tkS 16 12 ?_
        try simp only[Z,aA,aB,aC]
        refine bQ (by kernel_rfl) ?_ _;go_wp2_with fail;go_meet
        case rel=>exact⟨(w2.heap.size+1),rfl,rfl,Yj (show w2.heap.size≤(w2.heap.size+1) by omega) ab ((ap.block _ (by simp[bD])).trans (Ca _ _ _)) (IsE.mono (fun k _ h=>by have h2:w2.heap.size+2≤k:=Y (by simp[bD]) h;exact⟨by omega,by omega⟩) _ _ az)⟩
      ·go_simp;go_wp2_with fail;refine hK.out _ _ ?_ (fun hHeld=>?_)
       ·exact KS _ (Aq w2 _).drew
       clear hK K
       try simp only[Z,aA,aB,aC]
       refine Bh 1 (fun K hK=>?_);go_simp;go_wp2_with fail;refine hK.out _ _ ?_ (fun hHeld=>?_)
       ·exact KS _ (Da w2 _ _).drew
       clear hK K
       try simp only[Z,aA,aB,aC]
       refine Bh 10 (fun K hK=>?_);go_simp
       (refine(bd ((w2.alloc (J (Af 0 zero noW noW 0 (D G 0 0)) 69)).alloc (J #[T tn,D (H ⟨cb,af,G⟩) cols.length sc] 74)).drew (w2.heap.size+1) (Da w2 _ _).drew (Ca _ _ _)).mono ?_;rintro r w3 ⟨ag,x2,s2,ah,n2,ai,k2,c2,rfl,az,ap⟩;obtain⟨aj,ak,al⟩:=x2;have ab:Below w2.heap.size w2 w3:=Ac (Da w2 _ _).drew ap)
       go_wp2_with fail;refine hK.out _ _ ?_ (fun hHeld=>?_)
       ·exact KS _ ab
       clear hK K
       try simp only[Z,aA,aB,aC]
       refine tkS 11 34 ?_
       try simp only[Z,aA,aB,aC]
       refine tkS 12 46 ?_
       try simp only[Z,aA,aB,aC]
       refine tkS 13 47 ?_
       try simp only[Z,aA,aB,aC]
       refine Bh 15 (fun K hK=>?_);refine Hw rfl 69 _ _ rfl w2.heap.size (Af ag ⟨aj,ak,al⟩ s2 ah n2 (D ai k2 c2)) ?_ ?_ 69 (Af 0 zero noW noW 0 (D G 0 0)) ?_ ?_ ?_ ?_ ?_;exact rfl;exact rfl;exact((ap.block _ (by simp[bD];omega)).trans (Ad (Ab _ _) _));exact Ay;exact rfl;exact C5 ag ⟨aj,ak,al⟩ s2 ah n2 ai k2 c2;refine hK.out _ _ ?_ (fun hHeld=>?_)
       ·exact KS _ (Below.row ab (show w2.heap.size≤w2.heap.size by omega) _)
       clear hK K
       try simp only[Z]
       refine tkS 16 12 ?_
       try simp only[Z,aA,aB,aC]
       refine bQ (by kernel_rfl) ?_ _;go_wp2_with fail;go_meet
       case rel=>exact⟨w2.heap.size,rfl,rfl,Yj (show w2.heap.size≤w2.heap.size by omega) ab ((ap.block _ (by simp[bD];omega)).trans (Ad (Ab _ _) _)) (IsE.mono (fun k _ h=>by have h2:w2.heap.size+2≤k:=Y (by simp[bD]) h;exact⟨by omega,by omega⟩) _ _ az)⟩
     case rest=>
      obtain⟨p,rfl,rfl,hp,ba,ag,⟨aj,ak,al⟩,s2,ah,n2,ai,k2,c2,hP,az⟩:=hcut;have ck:Below w.heap.size w wc:=ce.trans (ba.mono ce.size);rcases bm.out with⟨an,hm⟩|⟨an,rfl⟩
      ·have HE:Hid (Cr ⟨tn,cols⟩ [] l=O m):=HX m (by rw[HZ.out,an]);clear HX HY HZ HN HQ HL HT KS bd bm an;rcases hm with rfl|rfl
       all_goals
        go_wp2_with fail;go_ret2;refine⟨⟨_,rfl,?_⟩,ck⟩;rw[HE.out];rfl
      ·have HS:Hid (Cr ⟨tn,cols⟩ [] (l.take (j+1))=.ok (rs++[(cw,e3)])):=HY (cw,e3) (by rw[HZ.out,an]);have dd:Hid ((rs++[(cw,e3)]).length=j+1):=by show _=_;rw[aI,q2];rfl
       obtain⟨z0,z1,z2,z3,z4,z5,z6,z7⟩:=Tb hP;have dq:=(Yi.cells (KS wc ba)).2.2.2.1;obtain⟨mt,de⟩:=Aye (cw:=cw) (cy.below ba) bu q2 az;have df:Cnt (wc.setCells (w.heap.size+1+1) (j*9) (L9 cw ag aj ak al s2 ah n2 (D ai k2 c2)).toList) (w.heap.size+1) ((l.take (j+1)).map aO):=by
        rw[HN.out];exact(cd.below ba).kept (Afz _ _ _ _) (by simp)
       have dg:(wc.setCells (w.heap.size+1+1) (j*9) (L9 cw ag aj ak al s2 ah n2 (D ai k2 c2)).toList).heap[w.heap.size]?=H (J #[T tn,D (H ⟨cb,af,G⟩) cols.length sc] 74):=(Dx (by omega) _ _ _).trans (KS wc ba).1;clear HX HY HZ HN HQ HL HT KS bd bm an hP;go_wp2_with(refine bA rfl 133 _ _ rfl (w.heap.size+1+1) (j*9) (L9 cw ag aj ak al s2 ah n2 (D ai k2 c2)) ?_ ?_ ?_ ?_ ?_ ?_;exact rfl;exact rfl;exact mt;exact Ayd;exact Ars cw ag aj ak al s2 ah n2 ai k2 c2);go_roundw
       case rel=>exact⟨j+1,rs++[(cw,e3)],by omega,by go_num,HS,dd,dg,df,de,Ey (show w.heap.size≤w.heap.size+1+1 by omega) _ _ _ ck,by have:=ba.size;simp[Gb];omega⟩
       case measure=>simp[bF];omega
    ·rw[bg]at HA HZ;have HE:Hid (Cr ⟨tn,cols⟩ [] l=O 4):=HX 4 HZ.out;clear HX HY HZ HN HQ HL HT am bb ha hg hs he hl bg hk1 hk2 bj;go_wp2_with(first|(go_fit HF;rintro e w1 ⟨rfl,aq⟩;have aa:=Ac bc aq;have s0:=Aa ((aq.block _ (show wr.heap.size<_ by simp)).trans (Ab wr _)) (j:=0) rfl)|(go_fit(HA _ (bi.below aa));rintro e w2 ⟨rfl,cd,ad⟩));go_ret2;refine⟨⟨_,rfl,?_⟩,Below.grow (ac.trans (aa.mono ac.size)) ad (Y ac.size aa.size) (by omega)⟩;rw[HE.out];rfl
  ·have dh:j=l.length:=by omega
   subst dh;have HE:Hid (Cr ⟨tn,cols⟩ [] l=.ok rs):=by
    show _=_;have:=HQ.out;rw[aV]at this;exact this
   have di:IsL E8 (Fr w.heap.size) wr (D (H ⟨w.heap.size+1+1,0,G⟩) l.length l.length) rs:=bf.whole q2 (fun k hk=>Y (by omega) hk) (show w.heap.size≤w.heap.size+1+1 by omega) (Y hn (by decide));clear q2 HL HQ;go_wp2_with fail;go_ret2;refine⟨⟨_,rfl,?_⟩,ac⟩;rw[HE.out];exact⟨_,_,_,rfl,di⟩
def FX (C base:Nat)(z:aK):Nat→Prop:=fun k=>k<C∨FO base z k
def Kc {α:Type}(K:Elem α)(ty:TypeId)(C base:Nat)(z:aK)(A:List α)(w:aT):Prop:=∃cs,w.ownsRow base ty K.size z A.length cs∧All K (FX C base z) w A cs
theorem Ad0 {α}(K:Elem α)(ty)(C base)(w):Kc K ty C base (D G 0 0) [] w:=⟨[],World.ownsRow_nil _ _ _ _,rfl⟩
theorem Ayf {C base}{z}{W w3}(gr:W.grownBy w3 z.ownBlock)(hz:∀k,z.ownBlock=H k→base≤k)(hC:C≤base):Keeps (FX C base z) W w3:=
 ⟨gr.size,fun k hk hl=>gr.block k hl (by
  rcases hk with h|h
  ·grind
  grind)⟩
theorem Aas {α}{K}{ty}{C base}{z z'}{A}{cs c}{a:α}{W w3}(hC:C≤base)(hz:∀k,z.ownBlock=H k→base≤k)(aa:w3.ownsRow base ty K.size z' (A.length+1) (cs++c))(ab:All K (FX C base z) W A cs)(hR:K.R (FX C base z) W a c)(gr:W.grownBy w3 z.ownBlock)(ac:z'.ownBlock=z.ownBlock∨z'.ownBlock=H W.heap.size):
  Kc K ty C base z' (A++[a]) w3:=by
 have h1:All K (fun k=>FX C base z k∧k<W.heap.size) W _ _:=All.append (ab.mono fun k hk h=>⟨h,hk⟩) (All.one (K.mono (fun k hk h=>⟨h,hk⟩) hR));refine⟨_,by rw[aI];exact aa,(h1.keep ((Ayf gr hz hC).mono fun k h=>h.1)).mono fun k _ h=>?_⟩;rcases h.1 with h3|h3
 ·exact .inl h3
 ·exact .inr (Ud ac k h.2 h3)
theorem Kc.below {α}{K}{ty}{C base}{z}{A:List α}{w w'}(h:Kc K ty C base z A w)(hb:Below w.heap.size w w'):Kc K ty C base z A w':=by
 obtain⟨cs,h1,h2⟩:=h;exact⟨cs,Aj h1 hb,h2.keep (Ak hb)⟩
theorem Kc.isL {α}{K}{ty}{C base}{z}{A:List α}{w}(h:Kc K ty C base z A w):IsL K (Fx C base) w z A:=by
 obtain⟨cs,h1,h2⟩:=h;exact⟨cs,Bp.of_own h1 (fun k hk=>.inr hk),h2.mono fun k _ h=>h.imp id (fun h=>h.1)⟩
theorem Kc.shape {α}{K}{ty}{C base}{z}{A:List α}{w}(h:Kc K ty C base z A w):∃ao c,z=D ao A.length c:=h.isL.shape
def Ha (S:List TabD):List (Wd×Wd):=S.flatMap fun t=>t.cols.map fun c=>(t.name,c.name)
def O8 (L:List (Wd×Wd)):List E:=L.zipIdx.map fun p=>.mk 2 zero p.1.1 p.1.2 (p.2:Int) []
theorem Aup (L)(x):O8 (L++[x])=O8 L++[.mk 2 zero x.1 x.2 (L.length:Int) []]:=by
 simp[O8,List.zipIdx_append]
theorem Aat (L):(O8 L).length=L.length:=by simp[O8]
def Vs (S:List TabD):List E:=O8 (Ha S)
theorem Alh {S:List TabD}{j}{t}(h:S[j]?=H t):Ha (S.take (j+1))=Ha (S.take j)++t.cols.map fun c=>(t.name,c.name):=by
 rw[aS,h];simp[Ha]
theorem Ad1:∀(S:List TabD),(∀t∈S,t.cols.length≤1000000)→(Ha S).length≤S.length*1000000
 |[],_=>by simp[Ha]
 |t::S,h=>by
  have h1:=Ad1 S (fun x hx=>h x (List.mem_cons_of_mem _ hx));have h2:=h t List.mem_cons_self;simp only[Ha,List.flatMap_cons,aI,bB,List.length_cons]at h1⊢;omega
theorem Ad2 (S:List TabD)(hS:S.length≤1000)(aa:∀t∈S,t.cols.length≤1000000)(j):(Ha (S.take j)).length≤1000000000:=by
 have:=Ad1 (S.take j) (fun t ht=>aa t (List.mem_of_mem_take ht));grind
theorem An8 (S:List TabD)(hS:S.length≤1000)(aq:∀t∈S,t.cols.length≤1000000)(sv:aK)(C:Nat)(w:aT)(hl:IsL Ci (fun k=>k<C) w sv S)(_hC:C≤w.heap.size):
  bN aM 227 #[sv] w fun r w'=>(∃u,r=aF u∧IsL Az (Fr w.heap.size) w' u (Vs S))∧Below w.heap.size w w':=by
 obtain⟨so,sc,rfl⟩:=hl.shape;obtain⟨i0,hi,az,ba,bb⟩:=bV Ahc;go_enter Tryz.func227,Tryz.ntmps227;go_wp2_with fail
 go_loopw[3,10] (fun zv i wr=>∃j:Nat,j≤S.length∧i=I M j∧Kc Az 69 0 w.heap.size zv (O8 (Ha (S.take j))) wr∧Below w.heap.size w wr) (fun _ i _=>S.length-(bF i).toNat)
 case atStart=>exact⟨0,aZ _,rfl,Ad0 _ _ _ _ _,Below.refl _ _⟩
 case round=>
  obtain⟨j,hj,rfl,hA,ab⟩:=hrel
  by_cases bc:j<S.length
  ·obtain⟨t,ht⟩:∃t,S[j]?=H t:=⟨_,aD bc⟩;have HP:Hid (Ha (S.take (j+1))=Ha (S.take j)++t.cols.map fun c=>(t.name,c.name)):=Alh ht;have bt:=aq t (aG ht);have bd:=Ad2 S hS aq j;obtain⟨b,ar,cs,rfl,bu,hb,⟨cv,rfl,ag⟩,ah⟩:=Av hl ht;obtain⟨co,cc,rfl⟩:=ag.shape;have e0:=ah 0 _ rfl;have e1:=ah 1 _ rfl;simp only[Ci,aU]at e0 e1;have d0:=(ab.cell (p:=⟨b,ar+j*2,G⟩) hb).trans e0;have d1:=(ab.cell (p:=⟨b,ar+j*2+1,G⟩) hb).trans e1;have j0:(0:Int)≤(j:Int):=by omega
   have j1:(j:Int)<(S.length:Int):=by omega
   obtain⟨ai,aj,-⟩:=al1 wr (J #[T t.name,D co t.cols.length cc] 74);have ak:=hA.below ai;have be:∀k,u3.ownBlock=H k→k<wr.heap.size:=by obtain⟨bv,bf,_⟩:=hA;exact fun k hk=>(bf.lt k hk).2
   have au:Below w.heap.size w (wr.alloc (J #[T t.name,D co t.cols.length cc] 74)):=ab.trans (ai.mono ab.size);have bg:=Aa aj (j:=1) rfl;generalize Ha _=P at ak HP bd;clear ah ht hA;go_wp2_with fail;generalize bw:wr.heap.size=pb at*
   go_loopw[3,17] (fun zv i wi=>∃m:Nat,m≤t.cols.length∧i=I M m∧Kc Az 69 0 w.heap.size zv (O8 (P++(t.cols.take m).map fun c=>(t.name,c.name))) wi∧wi.heap[pb]?=H (J #[T t.name,D co t.cols.length cc] 74)∧zv.ownBlock≠H pb∧Below w.heap.size w wi) (fun _ i _=>t.cols.length-(bF i).toNat)
   case atStart=>exact⟨0,aZ _,rfl,by simpa using ak,aj,fun e=>by have:=be _ e;omega,au⟩
   case round=>
    obtain⟨m,hm,rfl,aa,al,bh,ac⟩:=hrel;clear ak aj bg au ai d0 d1 e0 e1 ab;have av:=aR al
    by_cases bi:m<t.cols.length
    ·obtain⟨cd,am⟩:∃a,t.cols[m]?=H a:=⟨_,aD bi⟩;have HT:Hid (O8 (P++(t.cols.take (m+1)).map fun c=>(t.name,c.name))=O8 (P++(t.cols.take m).map fun c=>(t.name,c.name))++[.mk 2 zero t.name cd.name ((P.length+m:Nat):Int) []]):=by
      show _=_;rw[aS,am];simp only[Option.toList_some,cV,List.map_cons,List.map_nil,←cP,Aup];rw[aI,bB,cQ,Nat.min_eq_left hm]
     have HN:Hid ((O8 (P++(t.cols.take m).map fun c=>(t.name,c.name))).length=P.length+m):=by
      show _=_;rw[Aat,aI,bB,cQ,Nat.min_eq_left hm]
     generalize O8 _=A at aa HT HN;obtain⟨zo,zc,aw⟩:=aa.shape;obtain⟨bx,ae,bj⟩:=aa;rw[HN.out]at aw ae;have bz:P.length+m≤1001000000:=by omega
     generalize P.length+m=n at*;subst aw;obtain⟨cb,ca,ce,rfl,cf,an,bk,af⟩:=Av ag am;obtain rfl:=bk;have f0:=af 0 _ rfl;have f1:=af 1 _ rfl;have f2:=af 2 _ rfl;simp only[Cp,aU]at f0 f1 f2;have g0:=(ac.cell an).trans f0;have g1:=(ac.cell an).trans f1;have g2:=(ac.cell an).trans f2;have m0:(0:Int)≤m:=by omega
     have m1:m<(t.cols.length:Int):=by omega
     have t0:=Aa (((Aq wr (J #[T cd.name,I M cd.ty,.bool cd.must] 76)).block _ av).trans al) (j:=0) rfl;have ad:Below _ wr ((wr.alloc (J #[T cd.name,I M cd.ty,.bool cd.must] 76)).alloc (J [I M 2,I M 0,I M 0,T ⟨#[]⟩,T t.name,T cd.name,I M n,D G 0 0].toArray 69)):=Da _ _ _;have cg:=B8 (wr.alloc (J #[T cd.name,I M cd.ty,.bool cd.must] 76)) [I M 2,I M 0,I M 0,T ⟨#[]⟩,T t.name,T cd.name,I M n,D G 0 0] 69;have ax:=Y ac.size ad.size;have bl:=(ad.block _ av).trans al;clear f0 f1 f2 af am ag;go_wp2_with(first|(at_builtin;go_must(refine wpList_append_own_at _ rfl _ _ 67 rfl _ 69 i0 _ 8 104 cO hi az ba bb rfl (by simp) _ _ _ rfl (Aj ae ad) _ 1 1 [.int .i64 2,.int .i64 0,.int .i64 0,.string ⟨#[]⟩,.string t.name,.string cd.name,.int .i64 n,.slice G 0 0] rfl rfl ?h0 ?h1 (by simp only[maxLen];omega) (by omega) ax ?h2)))
     case h0=>simp_all
     case h1=>simp only[List.forall_mem_cons];repeat(first|exact fun _ h=>absurd h List.not_mem_nil|refine⟨rfl,?_⟩)
     case h2=>
      intro z2 w4 bm ap _ bn;have ay:z2.ownBlock=(Value.slice zo n zc).ownBlock∨z2.ownBlock=H ((wr.alloc (J #[T cd.name,I M cd.ty,.bool cd.must] 76)).alloc (J [I M 2,I M 0,I M 0,T ⟨#[]⟩,T t.name,T cd.name,I M n,D G 0 0].toArray 69)).heap.size:=by simpa using bn
      have ch:=Aas (K:=Az) (ty:=69) (a:=.mk 2 zero t.name cd.name (n:Int) []) (aZ _) (fun k hk=>(ae.lt k hk).1) (by rw[HN.out];exact bm) (bj.keep (Ak ad)) ⟨rfl,J4 (op:=2) (x:=zero) (s:=t.name) (name:=cd.name) (n:=(n:Int)) (ao:=none) (c:=0) fun _=>rfl⟩ ap ay;have bo:z2.ownBlock≠H pb:=by
       rcases ay with h|h
       ·simp_all
       ·rw[h];intro e;simp_all
      go_wp2_with fail;go_roundw
      case rel=>exact⟨m+1,by omega,by rfl,by rw[HT.out];omega,Gq ap bl (fun e=>bh e.symm),bo,(ac.trans (ad.mono ac.size)).grown ap ax fun k hk=>(ae.lt k hk).1⟩
      case measure=>simp[bF];omega
    ·have bp:m=t.cols.length:=by omega
     subst bp;rw[aV]at aa;have cj:Kc Az 69 0 w.heap.size u3 (O8 (Ha (S.take (j+1)))) wr:=by rw[HP.out];exact aa
     go_wp2_with fail;go_roundw
     case rel=>grind
     case measure=>simp[bF];omega
  ·have bq:j=S.length:=by omega
   subst bq;have aa:=hA.isL;rw[aV]at aa;go_wp2_with fail;go_ret;exact⟨⟨_,rfl,aa.mono (fun k _ hk=>by rcases hk with h|h;exact absurd h (Nat.not_lt_zero _);omega)⟩,ab⟩
def Lx (S:List TabD)(l:List E):Except Int (List E):=if l.length=0 then .ok (Vs S)else I8 S l
theorem An9 (S)(hS:S.length≤1000)(aa:∀t∈S,t.cols.length≤1000000)(d)(l)(lv sv)(C)(w)(he:IsL Az (fun k=>k<C) w lv l)(hl:IsL Ci (fun k=>k<C) w sv S)(hC:C≤w.heap.size)(hg:∀a∈l,geB d a=bH)(hn:l.length≤1000000000):
  bN aM 162 #[sv,lv] w fun r w'=>(∃u,r=aF u∧Nl Az (Lx S l) (Fr w.heap.size) w' u)∧Below w.heap.size w w':=by
 have HC:=An8 S hS aa sv C w hl hC;have HL:=Aar S hS aa d l lv sv C w he hl hC hg hn;obtain⟨so,sc,rfl⟩:=hl.shape;obtain⟨ao,c,rfl⟩:=he.shape;clear he hl hg hS aa
 by_cases h0:l.length=0
 ·have HE:Hid (Lx S l=.ok _):=if_pos h0;rw[h0];have ae:=HC.mono (R':=fun r w'=>∃(ao:Option Addr) (k c:Nat),r=aF (D ao k c)∧IsL Az (Fr w.heap.size) w' (D ao k c) (Vs S)∧Below w.heap.size w w') (by
   rintro r w' ⟨⟨u,rfl,hu⟩,hb⟩;obtain⟨ao,c,rfl⟩:=hu.shape;grind)
  clear HC HL;go_enter Tryz.func162,Tryz.ntmps162;go_wp2_with(refine ae.mono ?_;rintro r w1 ⟨af,k2,c2,rfl,ab,ac⟩);go_ret2;refine⟨⟨_,rfl,?_⟩,ac⟩;rw[HE.out];exact⟨_,_,_,rfl,ab⟩
 ·have HE:Hid (Lx S l=I8 S l):=if_neg h0;have e0:((l.length:Int)==0)=bO:=by rw[beq_eq_false_iff_ne];omega
  have ad:=HL.mono (R':=fun r w'=>∃(ao:Option Addr) (k c:Nat) (z:Int),r=aF (aJ #[D ao k c,I _ z])∧Nl Az (I8 S l) (Fr w.heap.size) w' (aJ #[D ao k c,I _ z])∧Below _ w w') (by
   rintro r w' ⟨⟨u,rfl,hu⟩,hb⟩;cases hr:I8 S l with
   |error m=>
    rw[hr]at hu;obtain rfl:=hu;exact⟨G,0,0,m,rfl,rfl,hb⟩
   |ok l2=>
    rw[hr]at hu;have ag:=hu;obtain⟨ao,k,c,rfl,_⟩:=hu;grind)
  clear HC HL;generalize I8 S l=R at HE ad;go_enter Tryz.func162,Tryz.ntmps162;go_wp2_with(refine ad.mono ?_;rintro r w1 ⟨af,k2,c2,z,rfl,ab,ac⟩);go_ret2;refine⟨⟨_,rfl,?_⟩,ac⟩;rw[HE.out];exact ab
end
end Go.Proofs.YtjapkoofjlmdgaaGreatDoor
