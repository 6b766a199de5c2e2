/-
  18 texts of this proof in one,in build order:GUpd,GBound5,GBound6,GOne0,GOut,GDull,GDrop,GDele,GUpd2,GOne1,GOne2,GOne,SNext,SSkip,SName,SEnv,SMem,SOps.
-/
import Derived.BigRegion
import Derived.Test.YtjapkoofjlmdgaaGreatDoorJ01
import Derived.Test.YtjapkoofjlmdgaaGreatDoorJ02
import Derived.Test.YtjapkoofjlmdgaaGreatDoorJ04
import Derived.Test.YtjapkoofjlmdgaaGreatDoorJ05
import Derived.Test.YtjapkoofjlmdgaaGreatDoorJ06
import Derived.Test.YtjapkoofjlmdgaaGreatDoorJ08
import Derived.Test.YtjapkoofjlmdgaaGreatDoorJ10
import Derived.Test.YtjapkoofjlmdgaaGreatDoorJ11
import Derived.Test.YtjapkoofjlmdgaaGreatDoorJ12
set_option linter.unusedSimpArgs false
set_option linter.unusedVariables false
set_option maxRecDepth 100000
set_option maxHeartbeats 0
open Go.Value renaming agg→aU,int→J,pointer→aF,slice→C,string→O,tuple→bA
open Go renaming Calls→aN,Value→aT,World→aW,bodyPost_ret→aH,lt_of_block→Y,maxLen→bN,results→cM,results_cell_row→aK,wpAnyH_done→cU,wpList_load_row→cA,wpList_store_row→aJ,wp_region_held_drew→bL
open Option renaming none→H,some→I
open Go.IntKind renaming i64→M
open List renaming foldl_cons→bV,getElem?_eq_getElem→aA,getElem?_eq_some_iff→bZ,getElem_of_mem→cK,length_cons→cR,length_drop→cQ,length_filter_le→cG,length_map→bU,length_set→bQ,length_take→cP,mem_filter→aR,mem_of_getElem?→aP,take_add_one→bK,take_length→cO,take_of_length_le→cD
open Go.Proofs.Tryz renaming func25→cI,func358→bJ,func82→bF,ntmps25→cC,ntmps358→bH,ntmps82→bC,prog→aB,results19→aM,underlying32→aI,underlying71→aV
open Go.RowKit.Below renaming heap_setCell→aS,refl→aC
open Nat renaming le_refl→aD,le_trans→aG,ne_of_lt→aY,zero_le→aZ
open Go.Obj renaming cells→Z
open Go.Ending renaming returned→aE
open Bool renaming and_eq_false_iff→cH,and_eq_true→aQ,eq_iff_iff→cW,false→aL,not_eq_false'→cL,or_eq_false_iff→cJ,or_eq_true→bX,true→U
open Go.Lib renaming atoiAll→bW,atoiAll_plain→cS,extract_data→bP,parseUint10→bD,toList_data→aO
open Go.World renaming cell?→bM,cell?_of_block→cF,frozen?→aX,size_alloc→cN
open UInt8 renaming toNat_inj→bB
open Option.some renaming inj→bI,injEq→bE
open Go.Value.slice renaming inj→bG
open Go.Value.agg renaming inj→bO
open Go.Addr.mk renaming injEq→bY
open Array renaming toList→cB
open Go.Proofs renaming intOf→cE
open Int renaming toNat_natCast→cT
open Go.Region renaming wanted→cV
open And renaming intro→cX
open Except renaming error→cY
namespace Go.Proofs.YtjapkoofjlmdgaaGreatDoor
section
open Go.RowKit
def Gl (t:TabD)(sets:List (Wd×E))(r:List V):List V:=sets.foldl (fun nx p=>nx.set (Dy t.cols p.1).toNat (ev r p.2)) r
theorem Amm (t:TabD)(r):∀(sets:List (Wd×E)) (nx:List V),(sets.foldl (fun nx p=>nx.set (Dy t.cols p.1).toNat (ev r p.2)) nx).length=nx.length
 |[],_=>rfl
 |p::l,nx=>by rw[bV,Amm t r l,bQ]
theorem Av7 {t}{sets:List (Wd×E)}{r}{j}{p}(h:sets[j]?=I p):Gl t (sets.take (j+1)) r=(Gl t (sets.take j) r).set (Dy t.cols p.1).toNat (ev r p.2):=by
 unfold Gl;rw[bK,h,Option.toList_some,List.foldl_append];rfl
theorem Aeq:∀(L:List V) (k:Nat) (v:V),Ax (L.set k v)=(((Ax L).set (k*3) (J M v.k)).set (k*3+1) (J M v.n)).set (k*3+2) (O v.s)
 |[],k,v=>by rfl
 |a::L,0,v=>by rfl
 |a::L,k+1,v=>by
  have e:∀l,Ax (a::l)=a.cells++Ax l:=fun l=>by rfl
  rw[List.set_cons_succ,e,e,Aeq L k v];have h3:a.cells.length=3:=rfl;grind
theorem Azg {w:aW}{g k}{X:List aT}{ty}(h:w.heap[g]?=I (Z X.toArray ty))(a b c):(((w.setCell ⟨g,k*3,H⟩ a).setCell ⟨g,k*3+1,H⟩ b).setCell ⟨g,k*3+2,H⟩ c).heap[g]?=I (Z (((X.set (k*3) a).set (k*3+1) b).set (k*3+2) c).toArray ty):=by
 have h3:=Dh (Dh (Dh h (k*3) a) (k*3+1) b) (k*3+2) c;simp_all
theorem G5 {w:aW}{g b o k}{x y z u}(h:w.cell? ⟨b,o,H⟩=I u)(hn:b≠g):(((w.setCell ⟨g,k*3,H⟩ x).setCell ⟨g,k*3+1,H⟩ y).setCell ⟨g,k*3+2,H⟩ z).cell? ⟨b,o,H⟩=I u:=by
 rw[cF (w:=w)]
 ·omega
 ·exact((aS _ _ _ _ hn).trans (aS _ _ _ _ hn)).trans (aS _ _ _ _ hn)
theorem Ao1 (t:TabD)(so:Option Addr)(sc:Nat)(sets:List (Wd×E))(sv:aT)(rows:List (List V))(rv:aT)(w:aW)(hl:IsL Cp (fun k=>k<w.heap.size) w (C so t.cols.length sc) t.cols)(hs:IsL E8 (fun k=>k<w.heap.size) w sv sets)(hr:IsL Ek (fun k=>k<w.heap.size) w rv rows)(fe:sets.length≤16777216)(ff:rows.length≤1000000)(bl:∀p∈sets,Fg p.2∧∃k:Nat,Dy t.cols p.1=(k:Int)∧k<t.cols.length)(bm:∀r∈rows,r.length=t.cols.length∧∀v∈r,good v=U)(da:0<t.cols.length)(fg:t.cols.length≤4):
  aN aB 58 #[aU #[O t.name,C so t.cols.length sc],sv,rv] w fun e w'=>Nd w w' e (rows.map (Gl t sets)):=by
 obtain⟨i0,db,dc,dd,de⟩:=info_parts Py;obtain⟨eo,ec,rfl⟩:=hs.shape;obtain⟨ro,rc,rfl⟩:=hr.shape;obtain⟨ak,bT,-⟩:=al1 w (Z #[O t.name,C so t.cols.length sc] 74);generalize hW:w.alloc (Z #[O t.name,C so t.cols.length sc] 74)=W1 at ak bT;have HW:Hid _:=hW;have HL:Hid _:=hl;have HS:Hid _:=hs;have HR:Hid _:=hr;have df:Hid _:=bl;have dg:Hid _:=bm;have dh:Hid _:=da;have di:Hid ((rows.map (Gl t sets)).length=rows.length):=bU _;clear hW hl hs hr bl bm;go_enter Tryz.func58,Tryz.ntmps58;go_upto_region 1 with fail;rw[HW.out];go_wp2
 go_loopw[7,15] (fun zv i wr=>∃k:Nat,k≤rows.length∧i=J M k∧Hid (Dq W1.heap.size zv ((rows.map (Gl t sets)).take k) wr)∧Below W1.heap.size W1 wr) (fun _ i _=>rows.length-(cE i).toNat)
 case atStart=>exact⟨0,aZ _,rfl,Cd _ _,aC _ _⟩
 case round=>
  obtain⟨k,hk,rfl,bn,am⟩:=hrel;have ar:=am.size
  by_cases bo:k<rows.length
  ·obtain⟨r,hx⟩:∃r,rows[k]?=I r:=⟨_,aA bo⟩;have bc:Below w.heap.size w wr:=ak.trans (am.mono ak.size);obtain⟨b,dj,fh,dk,_,fi,⟨yv,rfl,bd⟩,bp⟩:=Av (IsL.keep HR.out (Ae bc)) hx;cases dk;obtain⟨yo,yc,rfl⟩:=bd.shape;have bq:=F4 bd;have d0:wr.cell? ⟨b,dj+k,H⟩=I (C yo r.length yc):=by have:=bp 0 _ rfl;simpa[Ek]using this
   obtain⟨bt,bu⟩:=dg.out r (aP hx);have bv:∀v∈r,v.s.size≤bN:=fun v hv=>Iw (bu v hv)
   have dl:r.length≤4:=by omega
   obtain⟨fj,bw,bx⟩:=bd;have dm:=A36.1 bx;subst dm;have bz:=Aml (Ax r) r.length (C yo r.length yc) _ wr bw (Ve r) (by omega);have dn:Hid ((rows.map (Gl t sets)).take (k+1)=(rows.map (Gl t sets)).take k++[Gl t sets r]):=by
    show _=_;rw[bK,List.getElem?_map,hx];rfl
   obtain⟨ca,cb,cc⟩:=bn.out;have be:((rows.map (Gl t sets)).take k).length=k:=by rw[cP,di.out];omega
   have dp:Hid _:=be;have cd:wr.ownsRow W1.heap.size 57 1 u7 k ca:=by have:=cb;rwa[be]at this
   have ce:Hid _:=cd;have dq:Hid _:=cc;have cf:Hid _:=bt;have ds:Hid _:=bv;have v0:(0:Int)≤(k:Int):=by omega
   have v1:(k:Int)<(rows.length:Int):=by omega
   obtain⟨wo,dt⟩:∃x,x=wr:=⟨_,rfl⟩;subst dt;have du:Hid _:=bq;have HJ:Hid (k+1≤rows.length):=bo;clear hx bp bw bx bu bv bt cb cc be cd bq;go_wp2_with(go_fit bz;rintro e w5 ⟨dv,rfl,cg,dw⟩);have dx:0<r.length∨r.length=0:=by omega
   obtain⟨g,cap,X0,dy,au,dz,ea,eb,ed,ee⟩:∃(g cap:Nat) (X:List aT),dv=C (I ⟨g,0,H⟩) r.length cap∧wo.heap.size≤g∧w5.heap[g]?=I (Z X.toArray 59)∧r.length≤cap∧cap≤bN∧X.length=cap*3∧X.take (r.length*3)=Ax r:=by
    rcases G1 cg with⟨_,h0⟩|h
    ·exact absurd h0 (by have:=cf.out;have:=dh.out;omega)
    ·exact h
   subst dy;clear cg bz dx
   go_loopw[23] (fun i wq=>∃(j:Nat) (X:List aT),j≤sets.length∧i=J M j∧wq.heap[g]?=I (Z X.toArray 59)∧X.length=cap*3∧Hid (X.take (r.length*3)=Ax (Gl t (sets.take j) r))∧Below wo.heap.size wo wq) (fun i _=>sets.length-(cE i).toNat)
   case atStart=>exact⟨0,X0,aZ _,rfl,dz,ed,ee,dw⟩
   case round=>
    obtain⟨j,X,hj,rfl,av,bf,ch,an⟩:=hrel;have aw:Below w.heap.size w wr:=bc.trans (an.mono bc.size)
    by_cases cj:j<sets.length
    ·obtain⟨⟨cw,e'⟩,hq⟩:∃q,sets[j]?=I q:=⟨_,aA cj⟩;obtain⟨ax,kk,ay,ef⟩:=df.out _ (aP hq);simp only at ax ay;obtain⟨b9,fk,fl,eg,_,fm,⟨d8,rfl,eh,bg⟩,ab⟩:=Av (IsL.keep HS.out (Ae aw)) hq;cases eg;obtain⟨ad,⟨ae,af,ag⟩,s',ah,n',ai,k',c',ck,_⟩:=Rm bg;obtain rfl:d8=[J M ad,J M ae,J M af,O ag,O s',O ah,J M n',C ai k' c']:=by have:=congrArg cB (bO ck);simpa using this
     have e0:=ab 0 _ rfl;have e1:=ab 1 _ rfl;have e2:=ab 2 _ rfl;have e3:=ab 3 _ rfl;have e4:=ab 4 _ rfl;have e5:=ab 5 _ rfl;have e6:=ab 6 _ rfl;have e7:=ab 7 _ rfl;have e8:=ab 8 _ rfl;simp only[E8,Nat.add_zero]at e0 e1 e2 e3 e4 e5 e6 e7 e8;have j0:(0:Int)≤(j:Int):=by omega
     have j1:(j:Int)<(sets.length:Int):=by omega
     have cl:Hid (j+1≤sets.length):=cj;have fn:kk<r.length:=by rw[cf.out];exact ef
     have p0:(0:Int)≤(kk:Int):=by omega
     have p1:(kk:Int)<(r.length:Int):=by omega
     obtain⟨al,aa,-⟩:=al1 wr (Z (L9 cw ad ae af ag s' ah n' (C ai k' c')) 133);have hX:=(al.block g (Y av)).trans av;have cm:=((am.trans (an.mono ar)).block _ (Y bT)).trans bT;have ap:=(al.block _ (Y cm)).trans cm;have ac:g≠wr.heap.size:=aY (Y av);have cn:g≠w.heap.size:=by have:=Y bT;omega
     have aq:Below w.heap.size w (wr.alloc (Z (L9 cw ad ae af ag s' ah n' (C ai k' c')) 133)):=aw.trans (al.mono aw.size);have az:=an.trans (al.mono an.size);have bh:=IsE.keep (Ae (al.mono aw.size)) _ _ bg;have co:Hid (Gl t (sets.take (j+1)) r=(Gl t (sets.take j) r).set kk (ev r e')):=by
      show _=_;rw[Av7 hq,ay];rfl
     generalize fo:wr.alloc (Z (L9 cw ad ae af ag s' ah n' (C ai k' c')) 133)=W8 at al aa hX ap aq az bh;have cp:=fun W (h:Below W8.heap.size W8 W)=>L6 t.cols t.name (C so t.cols.length sc) cw w.heap.size W (IsL.keep HL.out (Ae (Ac aq h))) (Ac aq h).size
     simp only[ay]at cp;have bi:=fun W (h:Below W8.heap.size W8 W)=>Ab8 e' (aU (Af ad ⟨ae,af,ag⟩ s' ah n' (C ai k' c'))) (C yo r.length yc) r w.heap.size W (IsE.keep (Ae (h.mono aq.size)) _ _ bh) (Ac aq h).size ax.1 ax.2 (Cq.below (Cq.below du.out az) h) ds.out (aG dl (by decide))
     generalize ev r e'=vv at bi co;obtain⟨vk,vn,vs⟩:=vv;simp only[V.val]at bi;have ei:kk*3+2<X.length:=by rw[bf];omega
     obtain⟨x0,cq⟩:∃u,X[kk*3]?=I u:=⟨_,aA (by omega)⟩;obtain⟨x1,cr⟩:∃u,X[kk*3+1]?=I u:=⟨_,aA (by omega)⟩;obtain⟨x2,cs⟩:∃u,X[kk*3+2]?=I u:=⟨_,aA ei⟩;have ej:Hid _:=cq;have ek:Hid _:=cr;have el:Hid _:=cs;generalize fp:wr.heap.size=gS at aa ac;have KS:Hid _:=fun W (h:Below W8.heap.size W8 W)=>(show(W.cell? ⟨w.heap.size,0,H⟩=I (O t.name)∧W.cell? ⟨w.heap.size,1,H⟩=I (C so t.cols.length sc))∧(W.cell? ⟨gS,0,H⟩=I (O cw)∧W.cell? ⟨gS,1,H⟩=I (J M ad)∧W.cell? ⟨gS,2,H⟩=I (J M ae)∧W.cell? ⟨gS,3,H⟩=I (J M af)∧W.cell? ⟨gS,4,H⟩=I (O ag)∧W.cell? ⟨gS,5,H⟩=I (O s')∧W.cell? ⟨gS,6,H⟩=I (O ah)∧W.cell? ⟨gS,7,H⟩=I (J M n')∧W.cell? ⟨gS,8,H⟩=I (C ai k' c'))from⟨⟨Aa ((h.block _ (Y ap)).trans ap) (j:=0) rfl,Aa ((h.block _ (Y ap)).trans ap) (j:=1) rfl⟩,Aa ((h.block _ (Y aa)).trans aa) (j:=0) rfl,Aa ((h.block _ (Y aa)).trans aa) (j:=1) rfl,Aa ((h.block _ (Y aa)).trans aa) (j:=2) rfl,Aa ((h.block _ (Y aa)).trans aa) (j:=3) rfl,Aa ((h.block _ (Y aa)).trans aa) (j:=4) rfl,Aa ((h.block _ (Y aa)).trans aa) (j:=5) rfl,Aa ((h.block _ (Y aa)).trans aa) (j:=6) rfl,Aa ((h.block _ (Y aa)).trans aa) (j:=7) rfl,Aa ((h.block _ (Y aa)).trans aa) (j:=8) rfl⟩)
     have KT:Hid _:=fun W (h:Below W8.heap.size W8 W) (x y z:aT)=>(show((((W.setCell ⟨g,kk*3,H⟩ x).setCell ⟨g,kk*3+1,H⟩ y).setCell ⟨g,kk*3+2,H⟩ z).cell? ⟨w.heap.size,0,H⟩=I (O t.name)∧(((W.setCell ⟨g,kk*3,H⟩ x).setCell ⟨g,kk*3+1,H⟩ y).setCell ⟨g,kk*3+2,H⟩ z).cell? ⟨w.heap.size,1,H⟩=I (C so t.cols.length sc))∧((((W.setCell ⟨g,kk*3,H⟩ x).setCell ⟨g,kk*3+1,H⟩ y).setCell ⟨g,kk*3+2,H⟩ z).cell? ⟨gS,0,H⟩=I (O cw)∧(((W.setCell ⟨g,kk*3,H⟩ x).setCell ⟨g,kk*3+1,H⟩ y).setCell ⟨g,kk*3+2,H⟩ z).cell? ⟨gS,1,H⟩=I (J M ad)∧(((W.setCell ⟨g,kk*3,H⟩ x).setCell ⟨g,kk*3+1,H⟩ y).setCell ⟨g,kk*3+2,H⟩ z).cell? ⟨gS,2,H⟩=I (J M ae)∧(((W.setCell ⟨g,kk*3,H⟩ x).setCell ⟨g,kk*3+1,H⟩ y).setCell ⟨g,kk*3+2,H⟩ z).cell? ⟨gS,3,H⟩=I (J M af)∧(((W.setCell ⟨g,kk*3,H⟩ x).setCell ⟨g,kk*3+1,H⟩ y).setCell ⟨g,kk*3+2,H⟩ z).cell? ⟨gS,4,H⟩=I (O ag)∧(((W.setCell ⟨g,kk*3,H⟩ x).setCell ⟨g,kk*3+1,H⟩ y).setCell ⟨g,kk*3+2,H⟩ z).cell? ⟨gS,5,H⟩=I (O s')∧(((W.setCell ⟨g,kk*3,H⟩ x).setCell ⟨g,kk*3+1,H⟩ y).setCell ⟨g,kk*3+2,H⟩ z).cell? ⟨gS,6,H⟩=I (O ah)∧(((W.setCell ⟨g,kk*3,H⟩ x).setCell ⟨g,kk*3+1,H⟩ y).setCell ⟨g,kk*3+2,H⟩ z).cell? ⟨gS,7,H⟩=I (J M n')∧(((W.setCell ⟨g,kk*3,H⟩ x).setCell ⟨g,kk*3+1,H⟩ y).setCell ⟨g,kk*3+2,H⟩ z).cell? ⟨gS,8,H⟩=I (C ai k' c'))from by
      obtain⟨⟨t0,t1⟩,s0,s1,s2,s3,s4,s5,s6,s7,s8⟩:=KS.out W h;exact⟨⟨G5 t0 (fun e=>cn e.symm),G5 t1 (fun e=>cn e.symm)⟩,G5 s0 (fun e=>ac e.symm),G5 s1 (fun e=>ac e.symm),G5 s2 (fun e=>ac e.symm),G5 s3 (fun e=>ac e.symm),G5 s4 (fun e=>ac e.symm),G5 s5 (fun e=>ac e.symm),G5 s6 (fun e=>ac e.symm),G5 s7 (fun e=>ac e.symm),G5 s8 (fun e=>ac e.symm)⟩)
     clear cq cr cs hq ab bg bh ck eh ax ay;go_upto_region 9 with fail
     try rw[HW8.out]
     refine bL (S:=(fun W=>(W.cell? ⟨w.heap.size,0,H⟩=I (O t.name)∧W.cell? ⟨w.heap.size,1,H⟩=I (C so t.cols.length sc))∧(W.cell? ⟨gS,0,H⟩=I (O cw)∧W.cell? ⟨gS,1,H⟩=I (J M ad)∧W.cell? ⟨gS,2,H⟩=I (J M ae)∧W.cell? ⟨gS,3,H⟩=I (J M af)∧W.cell? ⟨gS,4,H⟩=I (O ag)∧W.cell? ⟨gS,5,H⟩=I (O s')∧W.cell? ⟨gS,6,H⟩=I (O ah)∧W.cell? ⟨gS,7,H⟩=I (J M n')∧W.cell? ⟨gS,8,H⟩=I (C ai k' c')))) (by kernel_rfl) ?_ (fun hHeld=>?_)
     ·exact KS.out _ (aC _ _).drew
     refine tk 0 ?_;refine tk 1 ?_;refine tk 2 ?_;refine tk 3 ?_;refine tk 5 ?_;refine tk 6 ?_;refine tk 7 ?_;refine Bh 4 (fun K hK=>?_);go_simp
     (go_fit(cp _ (aC _ _).drew);rintro e w7 ⟨rfl,en⟩;have bj:Below W8.heap.size W8 w7:=Ac (aC _ _).drew en)
     go_wp2_with fail;refine hK.out _ _ ?_ (fun hHeld=>?_)
     ·exact KS.out _ bj
     clear hK K;refine Bh 8 (fun K hK=>?_);go_simp
     (go_fit(bi _ bj);rintro e w8 ⟨rfl,ep⟩;have ba:Below W8.heap.size W8 w8:=Ac bj ep;have aj:=(ba.block g (Y hX)).trans hX;have y0:w8.cell? ⟨g,kk*3,H⟩=I x0:=(Aa aj (by simpa using ej.out));have y1:w8.cell? ⟨g,kk*3+1,H⟩=I x1:=(Aa aj (by simpa using ek.out));have y2:w8.cell? ⟨g,kk*3+2,H⟩=I x2:=(Aa aj (by simpa using el.out));have z0:w8.frozen? ⟨g,kk*3,H⟩=aL:=(by simp[aX,aj]);have z1:w8.frozen? ⟨g,kk*3+1,H⟩=aL:=(by simp[aX,aj]);have z2:w8.frozen? ⟨g,kk*3+2,H⟩=aL:=(by simp[aX,aj]))
     go_wp2_with fail;refine hK.out _ _ ?_ (fun hHeld=>?_)
     ·exact KS.out _ ba
     clear hK K;refine tk 9 ?_;refine Bh 10 (fun K hK=>?_);go_simp;go_wp2_with fail;refine hK.out _ _ ?_ (fun hHeld=>?_)
     ·exact KT.out _ ba _ _ _
     clear hK K;refine cU (by kernel_rfl) ?_ _;go_wp2_with fail;go_roundw
     case rel=>exact⟨j+1,_,cl.out,by go_num,Azg aj _ _ _,by simp only[bQ];exact bf,by
      show _=_;rw[co.out,Aeq,←ch.out];simp only[List.take_set,V.k],(((az.trans (ba.mono az.size)).setCell au _).setCell au _).setCell au _⟩
     case measure=>have:=cl.out;simp[cE];omega
    ·have et:j=sets.length:=by omega
     subst et;have j1:¬((sets.length:Int)<(sets.length:Int)):=by omega
     have bk:=ch.out;rw[cO]at bk;have ct:(Gl t sets r).length=r.length:=Amm t r sets r;have cu:wr.ownsRow wo.heap.size 59 3 (C (I ⟨g,0,H⟩) r.length cap) (Gl t sets r).length (Ax (Gl t sets r)):=by
      rw[ct];exact Jl au av ea eb bf bk
     have eu:Hid _:=cu;have bb:Below wo.heap.size wo (wr.alloc (Z [C (I ⟨g,0,H⟩) r.length cap].toArray 57)):=Ac an (Aq _ _);have cv:=Aj ce.out bb;have cx:W1.heap.size≤(wr.alloc (Z [C (I ⟨g,0,H⟩) r.length cap].toArray 57)).heap.size:=aG ar bb.size;have ew:Hid _:=(World.ownsRow.lt ce.out);clear bk ct cu;go_wp2_with(at_builtin;go_must(refine wpList_append_own_at _ rfl _ _ 30 rfl W1.heap.size 57 i0 (C H 0 0) 1 24 Tryz.underlying30 db dc dd de rfl (by decide) _ _ _ rfl cv ⟨wr.heap.size,0,H⟩ 1 1 [.slice (I ⟨g,0,H⟩) r.length cap] rfl rfl (B8 wr [.slice (I ⟨g,0,H⟩) r.length cap] 57) ?h1 (by simp only[bN];omega) (by omega) cx ?h2))
     case h1=>first|rfl|(intro u hu;simp at hu;subst hu;rfl)
     case h2=>
      intro z2 w4 ex cy _ ey;have ez:z2.ownBlock=u7.ownBlock∨z2.ownBlock=I (wr.alloc (Z [C (I ⟨g,0,H⟩) r.length cap].toArray 57)).heap.size:=by rw[cN];exact ey
      have fa:IsL Lw (FO W1.heap.size u7) (wr.alloc (Z [C (I ⟨g,0,H⟩) r.length cap].toArray 57)) (C (I ⟨g,0,H⟩) r.length cap) (Gl t sets r):=
       (Nc eu.out fun k hk=>⟨aG ar hk,fun e=>by have:=(ew.out k e.symm).2;omega⟩).keep (Ak (Aq _ _))
      have fb:w4.ownsRow W1.heap.size 57 1 z2 (((rows.map (Gl t sets)).take k).length+1) (ca++[C (I ⟨g,0,H⟩) r.length cap]):=by rw[dp.out];exact ex
      have fc:Below W1.heap.size W1 w4:=(am.trans (bb.mono ar)).grown cy cx fun k hk=>(cv.lt k hk).1
      go_wp2_with fail;go_roundw
      case rel=>exact⟨k+1,HJ.out,by go_num,by show Dq _ _ _ _;rw[dn.out];exact L7 fb (All.keep (Ak bb) dq.out) fa cy ez,fc⟩
      case measure=>have:=HJ.out;simp[cE];omega
  ·have fd:k=rows.length:=by omega
   subst fd;have v1:¬((rows.length:Int)<(rows.length:Int)):=by omega
   have cz:=bn.out;rw[cD (by simp)]at cz;go_wp2;go_ret;exact⟨_,rfl,cz.base ak.size,ak.trans (am.mono ak.size)⟩
theorem Av8 {t}{nx}{k}{c}{v}(h:Jg t nx)(hc:t.cols[k]?=I c)(hv:good v=U∧(v.k=c.ty∨v.k=0)):Jg t (nx.set k v):=by
 refine⟨by rw[bQ];exact h.1,fun i c' u aa hu=>?_⟩
 by_cases ab:k=i
 ·grind
 ·rw[List.getElem?_set_ne ab]at hu;exact h.2 i c' u aa hu
theorem Av9 {t:TabD}(ac:∀c∈t.cols,c.ty≠3){ab sets:List (Wd×E)}(h:Cr t [] ab=.ok sets)(hg:∀p∈ab,geB 40 p.2=U)(r:List V)(hr:F9 t r=U):Jg t (Gl t sets r):=by
 have aa:=Asc hr;have h0:Jg t r:=⟨aa.1,fun i c v h1 h2=>⟨(aa.2 i c v h1 h2).1,(aa.2 i c v h1 h2).2.symm⟩⟩;have ad:∀(l:List (Wd×E)) (nx:List V),(∀q∈l,q∈sets)→Jg t nx→Jg t (l.foldl (fun nx p=>nx.set (Dy t.cols p.1).toNat (ev r p.2)) nx):=by
  intro l
  induction l with
  |nil=>exact fun nx _ hx=>hx
  |cons q l ih=>
   intro nx hm hx;rw[bV];refine ih _ (fun p hp=>hm p (List.mem_cons_of_mem _ hp)) ?_;obtain⟨p,hp,hq,af,has⟩:=Y1 h q (hm q List.mem_cons_self);rcases Kj t.cols q.1 with hc|⟨k,c,hc,hck,_⟩
   ·omega
   ·have ae:Abz t.cols q.1=c.ty:=by unfold Abz;rw[hc,cT,hck];rfl
    obtain⟨⟨h5,h6⟩,_⟩:=Avv aa has (hg p hp);rw[ae]at h5;have h7:=ac c (aP hck);rw[hc,cT];exact Av8 hx hck ⟨h6 (by omega),h5.symm⟩
 exact ad sets r (fun _ h=>h) h0
theorem Awa {t}{src sets}(h:Cr t [] src=.ok sets):∀q∈sets,∃p∈src,(q.2.nodes=p.2.nodes∧(Ef p.2→Ef q.2))∧∃k:Nat,Dy t.cols q.1=(k:Int)∧k<t.cols.length:=fun q hq=>by
 obtain⟨p,hp,_,aa,has⟩:=Y1 h q hq;rcases Kj t.cols q.1 with hc|⟨k,c,hc,hck,_⟩
 ·omega
 ·exact⟨p,hp,Y5 has,k,hc,(bZ.1 hck).1⟩
theorem Azh {S}:∀e∈Vs S,Fg e:=fun e he=>by
 obtain⟨p,_,rfl⟩:=List.mem_map.1 he;refine⟨by simp[E.nodes,Es],?_⟩;simp only[Ef,Qe,zero,and_true];exact aZ _
theorem A1v {S}{l l'}(h:Lx S l=.ok l')(hl:∀e∈l,Fg e):(∀e∈l',Fg e)∧(l'.length=l.length∨l'.length=(Vs S).length):=by
 unfold Lx at h;split at h
 ·obtain rfl:=Except.ok.inj h;exact⟨Azh,.inr rfl⟩
 ·obtain⟨h1,h2⟩:=Ah2 h;refine⟨fun e' he=>?_,.inl h1⟩;obtain⟨e,aa,h3,h4⟩:=h2 e' he;exact⟨by rw[h3];exact(hl e aa).1,h4 (hl e aa).2⟩
structure Rep where
 code:Int
 n:Int
 rows:List (List V)
structure FitC (st:Stm):Prop where
 b:FitB st
 rowsl:st.rows.length≤1000000
 rows:∀r∈st.rows,r≠[]∧∀e∈r,Fg e
 sets:∀p∈st.sets,Fg p.2
 out:∀e∈st.out,Fg e
 order:st.order.length≤1000000∧∀e∈st.order,Fg e
 wher:Fg st.wher
def Amn (c:CatD)(l:List Wd):List TabD:=l.filterMap (Bu c.tables)
theorem Ah3 {c:CatD}:∀{l:List Wd}{S:List TabD},S.length=l.length→(∀(k:Nat) (nm:Wd) (t:TabD),l[k]?=I nm→S[k]?=I t→Bu c.tables nm=I t)→Amn c l=S
 |[],[],_,_=>rfl
 |[],_::_,h,_=>by simp at h
 |_::_,[],h,_=>by simp at h
 |a::l,t::S,h,hk=>by
  have h0:=hk 0 a t rfl rfl;have ih:=Ah3 (c:=c) (l:=l) (S:=S) (by simpa using h) fun k nm t h1 h2=>hk (k+1) nm t (by simpa using h1) (by simpa using h2)
  unfold Amn at ih⊢;grind
def Aer (d:Db)(b:Stm):List Fnd:=((Ch (Hc d) 0 [⟨[],[],[]⟩] (Amn d.c b.frm)).filter fun f=>At b.wher f.row).map (G4 b)
def Agb (d:Db)(b:Stm):List Fnd:=(Aer d b).mergeSort fun x y=>decide (Ks (Hg b) x y≤0)
def Asq (d:Db)(b:Stm):List (List V):=(Aso b (Agb d b)).map fun f=>b.out.map (ev f.row)
theorem Ao2 (d)(b):(Agb d b).Perm (Aer d b):=List.mergeSort_perm _ _
theorem Azi (b):Hg b=1∨Hg b= -1:=by unfold Hg;simp
theorem Ajd (d)(b):(Agb d b).Pairwise fun x y=>¬Ks (Hg b) y x<0:=by
 have hc:=Ab9 (Azi b);have:=List.pairwise_mergeSort (le:=fun x y=>decide (Ks _ x y≤0)) (fun x y z h1 h2=>by
  rw[decide_eq_true_eq]at*;exact hc.trans x y z h1 h2) (fun x y=>by
  rw[bX,decide_eq_true_eq,decide_eq_true_eq];have:=hc.anti y x;omega) (Aer d b)
 refine this.imp fun{x y} h h2=>?_
 rw[decide_eq_true_eq]at h;have:=(hc.anti y x).1 h2;omega
def Fk (d:Db)(b:Stm):Rep×Db:=
 if b.kind=1 then(⟨0,0,[]⟩,⟨A7 d.c b,d.R⟩)
 else if b.kind=2 then(⟨0,0,[]⟩,⟨A7 d.c b,d.R⟩)
 else if b.kind=3 then(⟨0,0,[]⟩,⟨A7 d.c b,(d.upd b.name []).R⟩)
 else if b.kind=4 then match Bu d.c.tables b.table with
  |some t=>let A:=b.rows.map fun l=>l.map (ev [])
   (⟨(C7 t d A).2,if(C7 t d A).2=0 then(A.length:Int)else 0,[]⟩,(C7 t d A).1)
  |none=>(⟨0,0,[]⟩,d)
 else if b.kind=5 then match Bu d.c.tables b.table with
  |some t=>(⟨0,(((d.R t.name).filter (At b.wher)).length:Int),[]⟩,d.upd t.name ((d.R t.name).filter fun r=>!At b.wher r))
  |none=>(⟨0,0,[]⟩,d)
 else if b.kind=6 then match Bu d.c.tables b.table with
  |some t=>let A:=((d.R t.name).filter (At b.wher)).map (Gl t b.sets)
   let d1:=d.upd t.name ((d.R t.name).filter fun r=>!At b.wher r)
   (⟨(C7 t d1 A).2,if(C7 t d1 A).2=0 then(A.length:Int)else 0,[]⟩,(C7 t d1 A).1)
  |none=>(⟨0,0,[]⟩,d)
 else(⟨0,0,Asq d b⟩,d)
def F8 (d:Db)(st:Stm):Rep×Db:=match Cn d.c st with
 |cY m=>(⟨m,0,[]⟩,d)
 |.ok b=>Fk d b
theorem De {s}(h:nm s=U):s.size≤bN:=aG (Af6 h) (by simp[bN])
theorem Ah4 {t}(h:Kp t=U):∀x∈t.cols,N5 x=U:=fun x hx=>by
 simp only[Kp,Vd,aQ,Bool.not_eq_true']at h;obtain⟨i,hi,rfl⟩:=cK hx;have:=Jz h.2 i (aZ _) (by omega);simp only[Xt,aA hi,cJ,cL]at this;grind
theorem Awb {x}(h:N5 x=U):nm x.name=U∧(x.ty=1∨x.ty=2):=by
 simpa only[N5,aQ,bX,decide_eq_true_eq]using h
theorem Ah5 {T}{tb cl}(h:Kq T tb cl=U):∃t,Bu T tb=I t∧∃x∈t.cols,x.name=cl:=by
 unfold Kq at h;split at h
 ·rename_i t ht;rw[decide_eq_true_eq]at h;rcases Kj t.cols cl with e|⟨k,x,e,hx,hn⟩
  ·omega
  grind
 grind
theorem Wg {c}(h:Ds c=U):K7 c:=by
 obtain⟨h1,h2,h3,h4,h5,h6⟩:=(Cv c).1 h;have hT:∀t∈c.tables,nm t.name=U∧∀x∈t.cols,nm _=U:=fun t ht=>by
  have:=h3 t ht;refine⟨?_,fun x hx=>(Awb (Ah4 this x hx)).1⟩;simp only[Kp,aQ]at this;grind
 refine⟨fun t ht=>⟨De (hT t ht).1,fun x hx=>De ((hT t ht).2 x hx)⟩,fun x hx=>?_⟩;have:=h5 x hx;simp only[Ka,cJ,cL]at this;obtain⟨t,ht,y,hy,hn⟩:=Ah5 this.2;obtain⟨aa,ab⟩:=Ea ht;exact⟨De this.1,by rw[←ab];exact De (hT t aa).1,by rw[←hn];exact De ((hT t aa).2 y hy)⟩
theorem Aqi {c}(h:Ds c=U){t}(ht:t∈c.tables):∀x∈t.cols,x.ty≠3:=fun x hx h3=>by
 have:=(Awb (Ah4 (((Cv c).1 h).2.2.1 t ht) x hx)).2;omega
theorem Amo {c}{st b}(h:Cn c st=.ok b)(hk:b.kind=1):(∀u∈c.tables,u.name≠b.name)∧A7 c b=⟨Ec TabD.name c.tables ⟨b.name,b.cols⟩,c.indexes⟩∧Ds (A7 c b)=U:=by
 refine⟨?_,by unfold A7;grind,(Yn h).1⟩;obtain⟨aa,ab,_⟩:=G3 h;obtain⟨_,_,hb⟩:=Fa h;rw[Ep,if_pos (aa.symm.trans hk)]at hb;obtain⟨hc,e⟩:=Ii hb;subst e;unfold Kl at hc;split at hc
 ·omega
 split at hc
 ·omega
 rename_i c2;exact A3x.1 (by simp_all)
theorem Aes {c}{st b}(h:Cn c st=.ok b)(hk:b.kind=2):(∃t,Bu c.tables b.table=I t)∧A7 c b=⟨c.tables,Ec IdxD.name c.indexes ⟨b.name,b.table,b.col⟩⟩∧Ds (A7 c b)=U:=by
 refine⟨?_,by unfold A7;grind,(Yn h).1⟩;obtain⟨aa,ab,_⟩:=G3 h;obtain⟨_,_,hb⟩:=Fa h;rw[Ep,if_neg (by omega),if_pos (aa.symm.trans hk)]at hb;obtain⟨hc,e⟩:=Ii hb;subst e;unfold Qz at hc;split at hc
 ·omega
 split at hc
 ·omega
 rename_i c2;have:Kq c.tables b.table b.col=U:=by cases hq:Kq c.tables b.table b.col<;>simp_all
 obtain⟨t,ht,_⟩:=Ah5 this;grind
theorem Aet {c}{st b}(h:Cn c st=.ok b)(hk:b.kind=3):(∃t,Bu c.tables b.name=I t)∧A7 c b=⟨c.tables.filter (fun t=>!decide (t.name=b.name)),c.indexes.filter (fun x=>!decide (x.table=b.name))⟩∧Ds (A7 c b)=U:=by
 refine⟨?_,by unfold A7;grind,(Yn h).1⟩;obtain⟨aa,ab,_⟩:=G3 h;obtain⟨_,_,hb⟩:=Fa h;rw[Ep,if_neg (by omega),if_neg (by omega),if_pos (aa.symm.trans hk)]at hb;obtain⟨hc,e⟩:=Ii hb;subst e;unfold Ol at hc;split at hc
 ·rename_i c1;exact Option.isSome_iff_exists.1 c1
 omega
theorem Asr {c}{st b}(h:Cn c st=.ok b)(hk:b.kind=1∨b.kind=2∨b.kind=3):b=st:=by
 obtain⟨aa,ab,_⟩:=G3 h;obtain⟨_,_,hb⟩:=Fa h;unfold Ep at hb;rcases hk with hk|hk|hk
 ·rw[if_pos (aa.symm.trans hk)]at hb;exact(Ii hb).2
 ·rw[if_neg (by omega),if_pos (aa.symm.trans hk)]at hb;exact(Ii hb).2
 ·rw[if_neg (by omega),if_neg (by omega),if_pos (aa.symm.trans hk)]at hb;exact(Ii hb).2
theorem Ao3 {d}(ok:DbOk d){F}(hh:Has d F){st b}(h:Cn d.c st=.ok b)(hk:b.kind=1):DbOk ⟨A7 d.c b,d.R⟩∧Has ⟨A7 d.c b,d.R⟩ F:=by
 obtain⟨h1,h2,h3⟩:=Amo h hk;rw[h2]at h3⊢;exact⟨Avg ok h1 h3,Ar3 ok hh h1⟩
theorem Awc {d}(ok:DbOk d){st b}(h:Cn d.c st=.ok b)(hk:b.kind=2):DbOk ⟨A7 d.c b,d.R⟩:=by
 obtain⟨h1,h2,h3⟩:=Aes h hk;rw[h2]at h3⊢;exact A1h ok h3
theorem Awd {d}(ok:DbOk d){st b}(h:Cn d.c st=.ok b)(hk:b.kind=3):DbOk ⟨A7 d.c b,(d.upd b.name []).R⟩:=by
 obtain⟨⟨t,ht⟩,h2,h3⟩:=Aet h hk;obtain⟨aa,ab⟩:=Ea ht;rw[h2]at h3⊢;have ac:=by
  have:=Af9 ok aa (fun _=>aL);rw[ab,List.filter_eq_nil_iff.2 (by simp)]at this;exact this
 exact A1i ac (by show(if b.name=b.name then[]else _)=[];simp) h3
theorem Ah6 {F}{w}{l}{cs}(h:Fw F w l cs)(h0:0<l.length):∃(j:Nat) (s:Wd),cs[j]?=I (O s):=by
 cases l with
 |nil=>grind
 |cons e l=>
  rw[Fw]at h;obtain⟨c,rest,rfl,h2,h3,_⟩:=h;obtain⟨op,x,s,name,n,ao,k,cap,h4⟩:=h3.shape;have h5:=congrArg cB (bO h4);simp only[Af]at h5;refine⟨4,s,?_⟩;simp_all
mutual
theorem Agc {E':List Nat}{F:Nat→Prop}{w:aW}(hE:Cl E' w):∀(e:E) (v:aT),IsE F w e v→IsE (fun k=>k∉E') w e v
 |.mk op x s name n l,v,h=>by
  rw[IsE]at h⊢;obtain⟨sv,cs,h1,h2,h3⟩:=h;exact⟨sv,cs,h1,Le hE h2 fun h0=>Ah6 h3 h0,Acf hE l cs h3⟩
theorem Acf {E':List Nat}{F:Nat→Prop}{w:aW}(hE:Cl E' w):∀(l:List E) (cs:List aT),Fw F w l cs→Fw (fun k=>k∉E') w l cs
 |[],cs,h=>by assumption
 |e::l,cs,h=>by
  rw[Fw]at h⊢;obtain⟨c,rest,h1,h2,h3,h4⟩:=h;exact⟨c,rest,h1,h2,Agc hE e _ h3,Acf hE l rest h4⟩
end
theorem Y8 {E'}{F}{w}(hE:Cl E' w){sv}{l}(h:IsL Az F w sv l):IsL Az (fun k=>k∉E') w sv l:=by
 rw[Aj7]at h⊢;obtain⟨cs,h1,h2⟩:=h;exact⟨cs,Le hE h1 fun h0=>Ah6 h2 h0,Acf hE l cs h2⟩
theorem Ph {α}{K}{F G}{w}:∀{l:List α}{cs:List aT},(∀a∈l,∀c,K.R F w a c→K.R G w a c)→All K F w l cs→All K G w l cs
 |[],_,_,h=>h
 |a::l,cs,hf,h=>by
  obtain⟨c,rest,h1,h2,h3⟩:=h;exact⟨c,rest,h1,hf a (by simp) c h2,Ph (fun b hb=>hf b (by grind)) h3⟩
theorem Azj {E'}{F}{w}(hE:Cl E' w){sv}{l}(h:IsL E8 F w sv l):IsL E8 (fun k=>k∉E') w sv l:=by
 obtain⟨cs,h1,h2⟩:=h;refine⟨cs,Le hE h1 fun h0=>?_,Ph (fun a _ c h=>?_) h2⟩
 ·cases l with
  |nil=>grind
  |cons x l=>
   obtain⟨c,rest,rfl,⟨d,rfl,_⟩,_⟩:=h2;exact⟨0,x.1,rfl⟩
 ·obtain⟨d,h3,h4,h5⟩:=h;exact⟨d,h3,h4,Agc hE _ _ h5⟩
theorem Awe {E'}{F}{w}(hE:Cl E' w){sv}{l}(h:IsL Ou F w sv l):IsL Ou (fun k=>k∉E') w sv l:=by
 obtain⟨cs,h1,h2⟩:=h;refine⟨cs,Le hE h1 fun h0=>?_,Ph (fun a _ c h=>(show c=_ from h)) h2⟩;cases l with
 |nil=>grind
 |cons x l=>
  obtain⟨c,rest,rfl,h3,_⟩:=h2;obtain rfl:=h3;exact⟨0,x,rfl⟩
theorem Ass {F}{w}{sv}{l}(h:IsL Az F w sv l)(h0:l≠[]):∃b o c i,sv=C (I ⟨b,o,H⟩) l.length c∧w.cell? ⟨b,o,H⟩=I (J M i):=by
 rw[Aj7]at h;obtain⟨cs,⟨_,h1⟩,h2⟩:=h;rcases h1 with⟨hz,_⟩|⟨_,b,o,c,rfl,_,_,_,_,hc⟩
 ·grind
 ·cases l with
  |nil=>grind
  |cons e l=>
   rw[Fw]at h2;obtain⟨c1,rest,rfl,h3,h4,_⟩:=h2;obtain⟨op,x,s,name,n,ao,k,cap,h5⟩:=h4.shape;have h6:=congrArg cB (bO h5);simp only[Af]at h6;exact⟨b,o,c,op,rfl,hc 0 _ (by grind)⟩
theorem Azk {E':List Nat}{F:Nat→Prop}{w:aW}(hE:Cl E' w){sv:aT}{l:List (List E)}(h:IsL H6 F w sv l)(ac:∀r∈l,r≠[]):IsL H6 (fun k=>k∉E') w sv l:=by
 obtain⟨cs,h1,h2⟩:=h;refine⟨cs,Wa h1.row (fun b ae cap _ h0 _ hc hb=>?_) (rfl:F=F),Ph (fun a _ c h=>?_) h2⟩
 ·cases l with
  |nil=>simp at h0
  |cons x l=>
   obtain⟨c,rest,rfl,⟨xv,rfl,hx⟩,_⟩:=h2;obtain⟨b1,o1,c1,i,rfl,hi⟩:=Ass hx (ac x (by simp));have a0:=hc 0 _ rfl;obtain⟨cc,T',a,tv,iv,pv,he,ah⟩:=hE b hb;obtain⟨ai,tc,rfl⟩:=he.tabs.shape;obtain⟨io,ic,rfl⟩:=he.idxs.shape;obtain⟨po,pc,rfl⟩:=Ct he.pages.pages;simp only[bM,he.blk]at a0;have ad:0<x.length:=List.length_pos_iff.2 (ac x (by simp))
   match ae,a0 with
   |0,a0=>
    obtain⟨e1,e2,_⟩:=bG (bI (show I _=I _ from a0));subst e1;obtain⟨t,ht⟩:∃t,cc.tables[0]?=I t:=⟨_,aA (by rw[e2];exact ad)⟩;obtain⟨b',o',cs,e,_,_,⟨sv,rfl,_⟩,aa⟩:=Av he.tabs ht;simp only[bE,bY]at e;obtain⟨rfl,rfl,_⟩:=e;have:=aa 0 _ rfl;grind
   |1,a0=>
    obtain⟨e1,e2,_⟩:=bG (bI (show I _=I _ from a0));subst e1;obtain⟨t,ht⟩:∃t,cc.indexes[0]?=I t:=⟨_,aA (by rw[e2];exact ad)⟩;obtain⟨b',o',cs,e,_,_,h3,aa⟩:=Av he.idxs ht;obtain rfl:=h3;simp only[bE,bY]at e;obtain⟨rfl,rfl,_⟩:=e;have:=aa 0 _ rfl;grind
   |2,a0=>
    obtain⟨e1,e2,_⟩:=bG (bI (show I _=I _ from a0));subst e1;obtain⟨rows,ab,af⟩:=he.pages;obtain⟨_,ab⟩:=ab;rcases ab with⟨hz,_⟩|⟨_,b3,o3,c3,e3,_,_,_,_,hc3⟩
    ·omega
    ·simp only[Value.slice.injEq,bE,bY]at e3;obtain⟨⟨rfl,rfl,_⟩,_⟩:=e3;cases T' with
     |nil=>grind
     |cons p T'=>
      cases rows with
      |nil=>assumption
      |cons r rows=>
       obtain⟨kv,vv⟩:=r;obtain⟨ag,_⟩:=af;obtain⟨ko,kc,rfl⟩:=ag.shape;have:=hc3 0 _ rfl;grind
   |3,a0=>grind
   |o+4,a0=>grind
 ·obtain⟨sv,h3,h4⟩:=h;exact⟨sv,h3,Y8 hE h4⟩
theorem A1w {E'}{F}{w}(hE:Cl E' w){st}{cs}(h:I6.R F w st cs)(aa:∀r∈st.rows,r≠[]):I6.R (fun k=>k∉E') w st cs:=by
 obtain⟨cols,rows,sets,frm,out,w8,order,hc,h8,h1,h2,h3,h4,h5,h6,h7⟩:=h.is;exact⟨⟨cols,rows,sets,frm,out,w8,order,hc,h8,Mw hE h1,Azk hE h2 aa,Azj hE h3,Awe hE h4,Y8 hE h5,Agc hE _ _ h6,Y8 hE h7⟩⟩
structure Dull (w:aW) (g:Nat):Prop where
 text:∀(o:Nat) (s:Wd),w.cell? ⟨g,o,H⟩≠I (O s)
 lists:∀(o:Nat) (a a':Option Addr) (n c n' c':Nat),w.cell? ⟨g,o,H⟩=I (C a n c)→w.cell? ⟨g,o+1,H⟩≠I (C a' n' c')
theorem Cm {w}{g}{x y}{so}{n c}{t}(h:w.heap[g]?=I (Z #[J M x,J M y,C so n c] t)):Dull w g:=by
 refine⟨fun o s=>?_,fun o a a' n c n' c'=>?_⟩
 ·simp only[bM,h];grind
 ·simp only[bM,h];grind
section
variable {F:Nat→Prop}{w:aW}{g:Nat}(hd:Dull w g)
include hd
theorem Th {size:Nat}{sv:aT}{n:Nat}{cs:List aT}(h:Bp F size w sv n cs)(ht:0<n→∃(j:Nat) (s:Wd),cs[j]?=I (O s)):Bp (fun k=>F k∧k≠g) size w sv n cs:=by
 obtain⟨h1,h2⟩:=h;refine⟨h1,?_⟩;rcases h2 with h2|⟨h0,b,off,cap,rfl,hF,h3⟩
 ·grind
 ·refine .inr ⟨h0,b,off,cap,rfl,⟨hF,fun e=>?_⟩,h3⟩;subst e;obtain⟨j,s,hj⟩:=ht h0;exact hd.text _ _ (h3.2.2.2 j _ hj)
theorem Awf {sv:aT}{l:List ColD}(h:IsL Cp F w sv l):IsL Cp (fun k=>F k∧k≠g) w sv l:=by
 obtain⟨cs,h1,h2⟩:=h;refine⟨cs,Th hd h1 fun h0=>?_,Ph (fun a _ c h=>(show c=_ from h)) h2⟩;cases l with
 |nil=>grind
 |cons x l=>
  obtain⟨c,rest,rfl,h3,_⟩:=h2;obtain rfl:=h3;exact⟨0,_,rfl⟩
theorem Awg {sv:aT}{l:List TabD}(h:IsL Ci F w sv l):IsL Ci (fun k=>F k∧k≠g) w sv l:=by
 obtain⟨cs,h1,h2⟩:=h;refine⟨cs,Th hd h1 fun h0=>?_,Ph (fun a _ c h=>?_) h2⟩
 ·cases l with
  |nil=>grind
  |cons x l=>
   obtain⟨c,rest,rfl,⟨sv,rfl,_⟩,_⟩:=h2;exact⟨0,_,rfl⟩
 ·obtain⟨sv,h4,h5⟩:=h;exact⟨sv,h4,Awf hd h5⟩
theorem Awh {sv:aT}{l:List IdxD}(h:IsL D6 F w sv l):IsL D6 (fun k=>F k∧k≠g) w sv l:=by
 obtain⟨cs,h1,h2⟩:=h;refine⟨cs,Th hd h1 fun h0=>?_,Ph (fun a _ c h=>(show c=_ from h)) h2⟩;cases l with
 |nil=>grind
 |cons x l=>
  obtain⟨c,rest,rfl,h3,_⟩:=h2;obtain rfl:=h3;exact⟨0,_,rfl⟩
theorem Ah7 {sv:aT}{L:List Wd}(h:Bp F 1 w sv L.length (L.map O)):Bp (fun k=>F k∧k≠g) 1 w sv L.length (L.map O):=
 Th hd h fun h0=>by
  cases L with
  |nil=>grind
  |cons s L=>exact⟨0,s,rfl⟩
theorem Amp:∀{rs:List (aT×aT)}{T:List Pg},Kr F w rs T→Kr (fun k=>F k∧k≠g) w rs T
 |[],[],_=>trivial
 |_::_,_::_,h=>⟨Ah7 hd h.1,Ah7 hd h.2.1,Amp h.2.2⟩
theorem Ast {sv:aT}{T:List Pg}(h:Kd F w sv T):Kd (fun k=>F k∧k≠g) w sv T:=by
 obtain⟨rows,⟨h1,h3⟩,h2⟩:=h;refine⟨rows,⟨h1,?_⟩,Amp hd h2⟩;rcases h3 with h3|⟨h0,b,off,cap,rfl,hF,h4⟩
 ·grind
 ·refine .inr ⟨h0,b,off,cap,rfl,⟨hF,fun e=>?_⟩,h4⟩;subst e;cases T with
  |nil=>grind
  |cons p T=>
   cases rows with
   |nil=>assumption
   |cons r rows=>
    obtain⟨kv,vv⟩:=r;obtain⟨aa,ab,_⟩:=h2;obtain⟨ko,kc,rfl⟩:=aa.shape;obtain⟨vo,vc,rfl⟩:=ab.shape;exact hd.lists _ _ _ _ _ _ _ (h4.2.2.2 0 _ rfl) (h4.2.2.2 1 _ rfl)
end
theorem EngC.row {E}{w}{n}{c}{T}{a}{tv iv pv}(h:EngC E w n c T a tv iv pv){g}(hd:Dull w g)(hn:n≠g)(cells):EngC E (w.setRow g cells) n c T a tv iv pv:=by
 have hk:Keeps (fun k=>k∉E∧k≠g) w (w.setRow g cells):=(Keeps.refl _ _).row (fun h=>h.2 rfl) _;exact⟨By h.blk hn _,((Awg hd h.tabs).keep hk).mono fun k _ h=>h.1,((Awh hd h.idxs).keep hk).mono fun k _ h=>h.1,((Ast hd h.pages).keep hk).mono fun k _ h=>h.1,h.good⟩
theorem Dq.row {base}{z}{A}{w}(h:Dq base z A w){g}(hg:g<base)(cells):Dq base z A (w.setRow g cells):=by
 obtain⟨cs,⟨h1,h3⟩,h2⟩:=h;refine⟨cs,⟨h1,?_⟩,h2.keep ((Keeps.refl _ _).row (fun h=>by omega) _)⟩;rcases h3 with h3|⟨b,cap,cur,hv,hb,hh,r⟩
 ·grind
 ·exact .inr ⟨b,cap,cur,hv,hb,By hh (by omega) _,r⟩
theorem But.rowB {a}{w w'}(h:But a w w'){b}(hb:w.heap.size≤b)(cells):But a w (w'.setRow b cells):=
 ⟨h.os,h.tape,h.output,by simp[World.setRow];exact h.size,fun k hk hn=>by
  rw[←h.block k hk hn];simp only[World.setRow,Array.getElem?_modify];grind⟩
theorem Ao4 {E}{n}{c}{T}{a}{to' io po}{tc ic pc}{w}(hE:Cl E w)(hn:n∈E)(he:EngC E w n c T a (C to' c.tables.length tc) (C io c.indexes.length ic) (C po T.length pc))(aq:Ds c=U)(st)(cs)(hR:I6.R (fun k=>k∉E) w st cs)(R)(ok:DbOk ⟨c,R⟩)(ab:Has ⟨c,R⟩ (flat T)){t}(ar:Bu c.tables st.name=I t)(hw:A7 c st=⟨c.tables.filter (fun t=>!decide (t.name=st.name)),c.indexes.filter (fun x=>!decide (x.table=st.name))⟩):
  aN aB 31 #[aF (I ⟨n,0,H⟩),aU cs.toArray] w fun e w'=>e=aE (bA #[])∧∃bz ca cb cd ce cf T2,EngC E w' n (A7 c st) T2 a (C bz (A7 c st).tables.length ca) (C cb (A7 c st).indexes.length cd) (C ce T2.length cf)∧Has ⟨(A7 c st),((⟨c,R⟩:Db).upd t.name []).R⟩ (flat T2)∧But n w w':=by
 obtain⟨ak,be⟩:=Ea ar;obtain⟨bf,cg,ch⟩:=(D8 ok.cat).2.2 t ak;have hT:=aG (Ja he.good) (Lt ok he.good ab);obtain⟨o1,c1,o2,c2,o3,c3,o4,c4,o5,c5,op,xk,xn,xs,s,ae,n8,o6,k6,c6,o7,c7,rfl,i1,i2,i3,i4,i5,i6,i7⟩:=Ba hR;obtain⟨ac,bS,-⟩:=al1 w (Z (sA st.kind st.name st.table st.col (C o1 st.cols.length c1) (C o2 st.rows.length c2) (C o3 st.sets.length c3) (C o4 st.frm.length c4) (C o5 st.out.length c5) op xk xn xs s ae n8 (C o6 k6 c6) (C o7 st.order.length c7) st.down st.n) 71);have af:=he.below ac;have au:=hE.below ac;have av:=I6.keep (Ak ac) hR;have bg:=(aY he.lt).symm;have aw:=No af ar;have bh:=Aa bS (j:=1) rfl;generalize hW:w.alloc _=W1 at ac bS af au aw bh av;have HW:Hid _:=hW;have bi:Hid _:=au;have bj:Hid _:=av;have HA:Hid (F3 _ _=R _):=Ab4 ok he.good ab ak;have cj:Hid (∀r∈R _,r.length=t.cols.length∧∀v∈r,good v=U):=fun r hr=>B6 (ok.fit t ak r hr)
 have ck:=P8 ab;have bk:Hid (Has ⟨(A7 c st),((⟨c,R⟩:Db).upd t.name []).R⟩ (G0 (flat T) c.indexes t (R t.name))):=by
  show Has _ _;have h1:=Ab5 ok ak ab (A:=R t.name) (p:=fun _=>U) (fun r=>by simp);rw[show((R t.name).filter fun r=>!(fun _=>U) r)=[]from by simp]at h1;have h2:=Ayt h1 (s:=st.name) (by rw[←be];show(if t.name=t.name then _ else _)=_;simp);rw[hw];exact h2
 have cl:Hid _:=P7 ok ab;have ag:Hid _:=(Cv c).1 aq;clear hW hE au hR av i1 i2 i3 i4 i5 i6 i7 ok ab ar hw be;go_enter Tryz.func31,Tryz.ntmps31;go_upto_region 1 with fail;rw[HW.out];go_upto_region 2 with(go_fit aw;rintro e w2 ⟨ao,cc,rfl,bl,al⟩);obtain⟨am,bT,-⟩:=al1 w2 (Z #[O t.name,C ao t.cols.length cc] 74);have aa:=al.trans (am.mono al.size);have ax:=(aa.block _ (Y bS)).trans bS;have ay:=af.below aa;have an:=Cl.below bi.out aa;have bm:=Mw an (bl.keep (Ak am));have bn:=ac.trans (aa.mono ac.size);have az:=I6.keep (Ak aa) bj.out;have ba:w2.heap.size≠n:=by have:=Y af.blk;have:=al.size;omega
 generalize w2.alloc _=W3 at am aa bT ax ay an bm bn az⊢;generalize w2.heap.size=gT at bT ba⊢;have bb:=fun W (h:Below _ W3 W)=>Ty (ay.below h) t ao cc (by omega) (aG bf (by simp)) cl.out
 rw[HA.out]at bb;have bo:=fun rv W h (hr:IsL Ek _ W rv _)=>Acc (Cl.below an h) hn (ay.below h) aq t ao cc (bm.keep (Ak h)) _ rv hr cj.out cg ch bf (by omega) ck
 have bp:Hid _:=an;have cm:Hid _:=az;have KS:Hid _:=fun W (h:But n W3 W)=>cX (show W.cell? _=I (O _)from Aa ((h.block _ (Y bT) ba).trans bT) (j:=0) rfl) (show W.cell? _=I (C ao _ cc)from Aa ((h.block _ (Y bT) ba).trans bT) (j:=1) rfl)
 have s0:=KS.out _ (But.refl _ _).drew;clear aw bl al am aa bS af bi bh HW bj az;generalize cn:R _=rows at*;clear cn
 go_region_held3(fun W=>W.cell? ⟨gT,0,H⟩=I (O t.name)∧W.cell? ⟨gT,1,H⟩=I (C ao t.cols.length cc)) (with_reducible omega)
  (first
   |(go_fit(bb _ (aC _ _).drew);rintro e w6 ⟨dc,rfl,bc,co⟩;obtain⟨ro,rc,rfl⟩:=bc.shape;have bd:=Ac (aC _ _).drew co;have bq:=Ah0 (Cl.below bp.out (aC _ _).drew) bc;have s1:=KS.out w6 (But.of_below bd))
   |(go_fit(bo _ _ bd bq);rintro e w7 ⟨rfl,cp,cq,T7,ad,bt,dd,cr⟩;have ah:=(But.of_below bd).trans cr;have s2:=KS.out w7 ah))
 have ap:=(ah.block _ (Y ax) bg).trans ax;have bu:=Cl.put bp.out ah hn ad aq;have bv:=I6.keep (Jq ah hn) cm.out;have ct:=fun W h=>Acd c _ st (sA _ _ _ _ _ _ _ _ _ op xk xn xs s ae n8 _ _ _ _).toList _ W ⟨_,_,rfl,(ad.tabs.mono fun k hk _=>hk).keep (Ae h),(ad.idxs.mono fun k hk _=>hk).keep (Ae h)⟩ (I6.keep (Ae h) (I6.mono (fun k hk _=>hk) bv)) h.size (by have:=ag.out.1;omega) (by have:=ag.out.2.1;omega) ag.out.2.2.2.1 ag.out.2.2.2.2.2
 have q0:=Aa ad.blk (j:=0) rfl;have q1:=Aa ad.blk (j:=1) rfl;have cu:Hid _:=bu;have cv:Hid (Has ⟨(A7 c st),((⟨c,R⟩:Db).upd t.name []).R⟩ (flat T7)):=by show Has _ _;rw[bt];exact bk.out
 clear KS s0 s1 s2 bb bo bu bv bt bk bq bc ag;go_wp2_with fail;refine bL (S:=(fun W=>W.heap[w.heap.size]?=I (Z (sA st.kind st.name st.table st.col (C o1 st.cols.length c1) (C o2 st.rows.length c2) (C o3 st.sets.length c3) (C o4 st.frm.length c4) (C o5 st.out.length c5) op xk xn xs s ae n8 (C o6 k6 c6) (C o7 st.order.length c7) st.down st.n) 71))) (by rfl) ?_ (fun hHeld=>?_)
 ·assumption
 refine tk 0 ?_;refine tk 1 ?_;refine tk 2 ?_;refine tk 3 ?_;refine wpAnyH_take (i:=5) (v:=aU (sA st.kind st.name st.table st.col (C o1 st.cols.length c1) (C o2 st.rows.length c2) (C o3 st.sets.length c3) (C o4 st.frm.length c4) (C o5 st.out.length c5) op xk xn xs s ae n8 (C o6 k6 c6) (C o7 st.order.length c7) st.down st.n)) rfl (by kernel_rfl) (by kernel_rfl) (by kernel_rfl) (fun _ _ _ h=>h) (Iu rfl 71 _ rfl w.heap.size rfl (sA st.kind st.name st.table st.col (C o1 st.cols.length c1) (C o2 st.rows.length c2) (C o3 st.sets.length c3) (C o4 st.frm.length c4) (C o5 st.out.length c5) op xk xn xs s ae n8 (C o6 k6 c6) (C o7 st.order.length c7) st.down st.n) 71 _ (fun _ h=>h) aV rfl D5) (by assumption) ?_;refine Bh 4 (fun K hK=>?_);go_simp;go_wp2_with fail;refine hK.out _ _ ?_ (fun hHeld=>?_)
 ·omega
 clear hK K;refine Bh 6 (fun K hK=>?_);go_simp
 (refine(ct _ (aC _ _).drew).mono ?_;rintro e w4 ⟨v4,rfl,⟨de,df,rfl,bw,bx⟩,cx⟩;obtain⟨cy,cz,rfl⟩:=bw.shape;obtain⟨da,db,rfl⟩:=bx.shape;have ai:=Ac (aC _ _).drew cx;have aj:=ad.below ai;have q4:=Aa aj.blk (j:=0) rfl;have q5:=Aa aj.blk (j:=1) rfl;have z4:w4.frozen? ⟨n,0,H⟩=aL:=(by simp only[aX,aj.blk];rfl);have z5:w4.frozen? ⟨n,1,H⟩=aL:=(by simp only[aX,aj.blk];rfl))
 go_wp2_with fail;refine hK.out _ _ ?_ (fun hHeld=>?_)
 ·exact(ai.block _ (Y ap)).trans ap
 clear hK K;refine tk 7 ?_;refine tk 8 ?_;refine Bh 9 (fun K hK=>?_);go_simp;go_wp2_with fail;refine hK.out _ _ ?_ (fun hHeld=>?_)
 ·exact Zz ((ai.block _ (Y ap)).trans ap) bg
 clear hK K;refine cU (by kernel_rfl) ?_ _;go_wp2_with fail
 go_end0
 exact⟨rfl,cy,cz,da,db,cp,cq,T7,aj.storeCat (Cl.below cu.out ai) hn bw bx,cv.out,(((But.of_below bn).trans ah).trans (But.of_below ai)).set _ _ |>.set _ _⟩
theorem Aje {Eg}{n}{d}{T}{a}{to' io po}{tc ic pc}{w}(hE:Cl Eg w)(hn:n∈Eg)(he:EngC Eg w n d.c T a (C to' d.c.tables.length tc) (C io d.c.indexes.length ic) (C po T.length pc))(ok:DbOk d)(ad:Has d (flat T))(bi:K7 d.c)(st)(cs)(hR:I6.R (fun k=>k∉Eg) w st cs){t}(am:Bu d.c.tables st.table=I t)(bj:Fg st.wher)(bk:Dd st.wher)(bl:geB 40 st.wher=U→Mt 40 st.wher):
  aN aB 34 #[aF (I ⟨n,0,H⟩),aU cs.toArray] w fun e w'=>e=aE (bA #[J M (((d.R t.name).filter (At st.wher)).length:Int),J M 0])∧∃bm bn T',EngC Eg w' n d.c T' a (C to' d.c.tables.length tc) (C io d.c.indexes.length ic) (C bm T'.length bn)∧DbOk (d.upd t.name ((d.R t.name).filter fun r=>!At st.wher r))∧Has (d.upd t.name ((d.R t.name).filter fun r=>!At st.wher r)) (flat T')∧But n w w':=by
 obtain⟨o1,c1,o2,c2,o3,c3,o4,c4,o5,c5,op,xk,xn,xs,s,av,n8,o6,k6,c6,o7,c7,rfl,i1,i2,i3,i4,i5,i6,i7⟩:=Ba hR;generalize aw:(d.R t.name).filter (At st.wher)=rows;have bo:Hid _:=aw;clear aw;have ab:=(Ea am).1;obtain⟨bp,bq,bt⟩:=(D8 ok.cat).2.2 t ab;have hT:=aG (Ja he.good) (Lt ok he.good ad);obtain⟨ae,bS,-⟩:=al1 w (Z (sA st.kind st.name st.table st.col (C o1 st.cols.length c1) (C o2 st.rows.length c2) (C o3 st.sets.length c3) (C o4 st.frm.length c4) (C o5 st.out.length c5) op xk xn xs s av n8 (C o6 k6 c6) (C o7 st.order.length c7) st.down st.n) 71);have ag:=he.below ae;have ax:=hE.below ae;have da:=(aY he.lt).symm;have ay:=IsE.keep (Ak ae) _ _ i6;have az:=No ag am;have bu:=Aa bS (j:=2) rfl;generalize hW:w.alloc _=W1 at*;have HW:Hid _:=hW;have ba:Hid _:=ax;have bv:Hid _:=ok;have bw:Hid _:=ad;have bb:Hid _:=ay;clear hW hE ax hR i1 i2 i4 i5 i6 i7 am ay;go_enter Tryz.func34,Tryz.ntmps34;go_upto_region 1 with fail;rw[HW.out];go_upto_region 2 with(go_fit az;rintro e w2 ⟨ao,cc,rfl,bc,ah⟩);obtain⟨ai,bT,-⟩:=al1 w2 (Z #[O t.name,C ao t.cols.length cc] 74);have ac:=ah.trans (ai.mono ah.size);have aa:=(ac.block _ (Y bS)).trans bS;have an:=ag.below ac;have aj:=Cl.below ba.out ac;have ak:=Mw aj (bc.keep (Ak ai));have bd:=ae.trans (ac.mono ae.size);have ap:=IsE.keep (Ak ac) _ _ bb.out;have bx:w2.heap.size≠n:=by have:=Y ag.blk;have:=ah.size;omega
 generalize w2.alloc _=W3 at ai ac bT aa an aj ak bd ap⊢;generalize w2.heap.size=gT at bT bx⊢;have aq:=Ahw an bv.out bw.out t ao cc (ak.mono (fun k hk _=>hk)) ab _ op xk xn xs s av n8 o6 k6 c6 (IsE.mono (fun k hk _=>hk) _ _ ap) bj bk bl bi;have ar:Hid _:=aj;have be:Hid _:=ak;have a0:=Aa bT (j:=0) rfl;have a1:=Aa bT (j:=1) rfl;have b9:=Aa aa (j:=9) rfl;have bz:=Aa aa (j:=10) rfl;have ca:=Aa aa (j:=11) rfl;have cb:=Aa aa (j:=12) rfl;have cd:=Aa aa (j:=13) rfl;have ce:=Aa aa (j:=14) rfl;have cf:=Aa aa (j:=15) rfl;have cg:=Aa aa (j:=16) rfl;have bf:Hid (∀r∈(d.R _).filter (At st.wher),r.length=t.cols.length∧∀v∈r,good v=U):=fun r hr=>B6 (ok.fit t ab r (aR.1 hr).1)
 have ch:Hid (Has _ (G0 _ _ t ((d.R _).filter (At st.wher)))):=Ab5 ok ab ad fun r=>aR
 have cj:Hid (DbOk (d.upd _ ((d.R _).filter fun r=>!At st.wher r))):=Af9 ok ab _;have ck:Hid (∀r∈(d.R _).filter (At st.wher),F9 t r=U):=fun r hr=>ok.fit t ab r (aR.1 hr).1
 have cl:=P8 ad;have cm:Hid (((d.R _).filter (At st.wher)).length≤30):=aG (cG _ _) (ok.len t ab);have cn:Hid _:=ok.cat;clear az bc ah ai ac bS ag ba bu aj ak HW bb ap ok ad;rw[bo.out]at aq bf ch ck cm;go_upto_region 3 with(go_fit aq;rintro e w6 ⟨co,rfl,bg,af⟩);have al:IsL Ek (fun k=>k∉Eg) w6 co rows:=bg.isL fun k hk hb=>by have:=Cl.lt ar.out hb;omega
 obtain⟨ro,rc,cp⟩:=al.shape;subst cp;have cq:=an.below af;have au:=Cl.below ar.out af;have bh:=(af.block _ (Y bT)).trans bT;have cr:Hid _:=IsL.keep be.out (Ak af);have ct:=Acc au hn cq cn.out t ao cc cr.out rows _ al bf.out bq bt bp (by omega) cl;have db:Hid _:=au;have dc:Hid _:=al;have e0:=Aa bh (j:=0) rfl;have e1:=Aa bh (j:=1) rfl;clear aq a0 a1 b9 bz ca cb cd ce cf cg au bg al ar be;go_wp2_with(go_fit ct;rintro e w7 ⟨rfl,cu,cv,T7,cx,cy,dd,cz⟩);go_ret2;refine⟨rfl,cu,cv,T7,cx,cj.out,by rw[cy];assumption,?_⟩;exact(But.of_below (Ac bd af)).trans cz
theorem Ajf {Eg}{n}{d}{T}{a}{to' io po}{tc ic pc}{w}(hE:Cl Eg w)(hn:n∈Eg)(he:EngC Eg w n d.c T a (C to' d.c.tables.length tc) (C io d.c.indexes.length ic) (C po T.length pc))(ok:DbOk d)(ag:Has d (flat T))(cq:K7 d.c)(st)(cs)(hR:I6.R (fun k=>k∉Eg) w st cs){t}(av:Bu d.c.tables st.table=I t)(cr:Fg st.wher)(ct:Dd st.wher)(cu:geB 40 st.wher=U→Mt 40 st.wher)(cv:st.sets.length≤16777216)(cx:∀p∈st.sets,Fg p.2∧∃k:Nat,Dy t.cols p.1=(k:Int)∧k<t.cols.length)(cy:∀r,F9 t r=U→Jg t (Gl t st.sets r)):
  aN aB 35 #[aF (I ⟨n,0,H⟩),aU cs.toArray] w fun e w'=>Lg Eg n t (d.upd t.name ((d.R t.name).filter fun r=>!At st.wher r)) (((d.R t.name).filter (At st.wher)).map (Gl t st.sets)) a (C to' d.c.tables.length tc) (C io d.c.indexes.length ic) w w' e:=by
 obtain⟨o1,c1,o2,c2,o3,c3,o4,c4,o5,c5,op,xk,xn,xs,s,bg,n8,o6,k6,c6,o7,c7,rfl,i1,i2,i3,i4,i5,i6,i7⟩:=Ba hR;generalize bh:(d.R t.name).filter (At st.wher)=rows;have cz:Hid _:=bh;clear bh;have ab:=(Ea av).1;obtain⟨da,bi,bj⟩:=(D8 ok.cat).2.2 t ab;have hT:=aG (Ja he.good) (Lt ok he.good ag);obtain⟨af,bS,-⟩:=al1 w (Z (sA st.kind st.name st.table st.col (C o1 st.cols.length c1) (C o2 st.rows.length c2) (C o3 st.sets.length c3) (C o4 st.frm.length c4) (C o5 st.out.length c5) op xk xn xs s bg n8 (C o6 k6 c6) (C o7 st.order.length c7) st.down st.n) 71);have ah:=he.below af;have bk:=hE.below af;have bl:=(aY he.lt).symm;have bm:=IsE.keep (Ak af) _ _ i6;have bn:=i3.keep (Ak af);have db:Hid _:=bn;have bo:=No ah av;have dc:=Aa bS (j:=2) rfl;generalize hW:w.alloc _=W1 at*;have HW:Hid _:=hW;have bp:Hid _:=bk;have dd:Hid _:=ok;have de:Hid _:=ag;have bq:Hid _:=bm;clear hW hE bk hR i1 i2 i3 i4 i5 i6 i7 av bm bn;go_enter Tryz.func35,Tryz.ntmps35;go_upto_region 1 with fail;rw[HW.out];go_upto_region 2 with(go_fit bo;rintro e w2 ⟨ao,cc,rfl,bt,ai⟩);obtain⟨aj,bT,-⟩:=al1 w2 (Z #[O t.name,C ao t.cols.length cc] 74);have ac:=ai.trans (aj.mono ai.size);have aa:=(ac.block _ (Y bS)).trans bS;have aw:=ah.below ac;have ak:=Cl.below bp.out ac;have al:=Mw ak (bt.keep (Ak aj));have bu:=af.trans (ac.mono af.size);have ax:=IsE.keep (Ak ac) _ _ bq.out;have am:w2.heap.size≠n:=by have:=Y ah.blk;have:=ai.size;omega
 have ay:=ac;generalize w2.alloc _=W3 at aj ac ay bT aa aw ak al bu ax⊢;generalize w2.heap.size=gT at bT am⊢;have az:=Ahw aw dd.out de.out t ao cc (al.mono (fun k hk _=>hk)) ab _ op xk xn xs s bg n8 o6 k6 c6 (IsE.mono (fun k hk _=>hk) _ _ ax) cr ct cu cq;have ba:Hid _:=ak;have bv:Hid _:=al;have a0:=Aa bT (j:=0) rfl;have a1:=Aa bT (j:=1) rfl;have b9:=Aa aa (j:=9) rfl;have df:=Aa aa (j:=10) rfl;have dg:=Aa aa (j:=11) rfl;have dh:=Aa aa (j:=12) rfl;have di:=Aa aa (j:=13) rfl;have dj:=Aa aa (j:=14) rfl;have dk:=Aa aa (j:=15) rfl;have dl:=Aa aa (j:=16) rfl;have an:Hid (∀r∈(d.R _).filter (At st.wher),r.length=t.cols.length∧∀v∈r,good v=U):=fun r hr=>B6 (ok.fit t ab r (aR.1 hr).1)
 have bb:Hid (Has _ (G0 _ _ t ((d.R _).filter (At st.wher)))):=Ab5 ok ab ag fun r=>aR
 have dm:Hid (DbOk (d.upd _ ((d.R _).filter fun r=>!At st.wher r))):=Af9 ok ab _;have bc:Hid (∀r∈(d.R _).filter (At st.wher),F9 t r=U):=fun r hr=>ok.fit t ab r (aR.1 hr).1
 have bw:=P8 ag;have bx:Hid (((d.R _).filter (At st.wher)).length≤30):=aG (cG _ _) (ok.len t ab);have bz:Hid _:=ok.cat;clear bo bt ai aj ac bS ah bp dc ak al HW bq ax ok ag;rw[cz.out]at az an bb bc bx;go_upto_region 3 with(go_fit az;rintro e w6 ⟨dn,rfl,ca,ad⟩);have ap:IsL Ek (fun k=>k∉Eg) w6 dn rows:=ca.isL fun k hk hb=>by have:=Cl.lt ba.out hb;omega
 obtain⟨ro,rc,dp⟩:=ap.shape;subst dp;have bd:=Cl.below ba.out ad;have aq:=(ad.block _ (Y bT)).trans bT;have cb:Hid _:=IsL.keep bv.out (Ak ad);have cd:=Acc bd hn (aw.below ad) bz.out t ao cc cb.out rows _ ap an.out bi bj da (by omega) bw;have ce:Hid _:=bd;have cf:Hid _:=ap;have e0:=Aa aq (j:=0) rfl;have e1:=Aa aq (j:=1) rfl;clear az a0 a1 b9 df dg dh di dj dk dl bd ca ap ba bv;have cg:Hid (IsL E8 _ w6 _ _):=IsL.keep db.out (Ak (ay.trans (ad.mono ay.size)));go_upto_region 4 with(go_fit cd;rintro e w7 ⟨rfl,dz,ea,T7,ch,dq,eb,ae⟩);have ar:=(ae.block _ (Y aq) am).trans aq;have cj:=(ad.block _ (Y aa)).trans aa;have ck:=(ae.block _ (Y cj) bl).trans cj;have be:=Cl.put ce.out ae hn ch bz.out;have bf:=IsL.keep cb.out (Jq ae hn);have cl:=IsL.keep cf.out (Jq ae hn);have cm:=IsL.keep cg.out (Jq ae hn);have ds:=fun W h=>Ao1 t ao cc _ _ rows _ W ((bf.keep (Ak h)).mono (fun k hk _=>hk)) ((cm.keep (Ak h)).mono (fun k hk _=>hk)) ((cl.keep (Ak h)).mono (fun k hk _=>hk)) cv (by have:=bx.out;omega) cx an.out bi bj
 have dt:Hid (Has (d.upd t.name ((d.R t.name).filter fun r=>!At st.wher r)) (flat T7)):=by show Has _ _;rw[dq];exact bb.out
 have du:=fun rv W h (hr:IsL Ek _ W rv _)=>Aeo (d:=d.upd _ _) (Cl.below be h) hn (ch.below h) dm.out dt.out t ao cc (bf.keep (Ak h)) _ rv hr (fun r hr=>by
  obtain⟨q,hq,rfl⟩:=List.mem_map.1 hr;exact cy q (bc.out q hq)) ab
 have dv:Hid _:=be;have KS:Hid _:=fun W (h:But n w7 W)=>cX (show W.cell? _=I (O _)from Aa ((h.block _ (Y ar) am).trans ar) (j:=0) rfl) (cX (show W.cell? _=I (C ao _ cc)from Aa ((h.block _ (Y ar) am).trans ar) (j:=1) rfl) (show W.cell? _=I (C o3 _ c3)from Aa ((h.block _ (Y ck) bl).trans ck) (j:=6) rfl))
 have s0:=KS.out _ (But.refl _ _).drew;clear cd e0 e1 bf cl cm cg ce cf be bb an bc bw
 go_region_held3(fun W=>W.cell? ⟨gT,0,H⟩=I (O t.name)∧W.cell? ⟨gT,1,H⟩=I (C ao t.cols.length cc)∧W.cell? ⟨w.heap.size,6,H⟩=I (C o3 st.sets.length c3)) (with_reducible omega)
  (first
   |(go_fit(ds _ (aC _ _).drew);rintro e w8 ⟨dw,rfl,dx,dy⟩;have au:=Ac (aC _ _).drew dy;have cn:IsL Ek (fun k=>k∉Eg) w8 dw _:=(dx.isL fun k hk hb=>(by have:=Cl.lt dv.out hb;have ec:w7.heap.size≤k:=hk;omega));obtain⟨ed,ee,co⟩:=cn.shape;rw[bU]at co;subst co;have s1:=KS.out w8 (But.of_below au))
   |(go_fit((du _ _ au cn).mono (fun e w' h=>Lg.ltr h));rintro e w9 ⟨N9,m9,rfl,cp⟩;have s2:=KS.out w9 ((But.of_below au).trans cp.out.2.choose_spec.choose_spec.choose_spec.2.2.2.2)))
 go_wp2_with fail;go_ret2;exact Lg.from cp.out ((((But.of_below (Ac bu ad)).trans ae)).trans (But.of_below au))
def Fl (E:List Nat)(w:aW)(n:Nat)(d:Db)(a:Int)(q:Bool):Prop:=∃T to' tc io ic po pc,EngC E w n d.c T a (C to' d.c.tables.length tc) (C io d.c.indexes.length ic) (C po T.length pc)∧Has d (flat T)∧(q=U→T.length≤1)
theorem Fl.row {E}{w}{n}{d}{a}{q}(h:Fl E w n d a q){g}(hd:Dull w g)(hn:n≠g)(cells):Fl E (w.setRow g cells) n d a q:=by
 obtain⟨T,aa,tc,io,ic,po,pc,h1,h2⟩:=h;exact⟨T,aa,tc,io,ic,po,pc,h1.row hd hn _,h2⟩
theorem Fl.below {E}{w w'}{n}{d}{a}{q}(h:Fl E w n d a q)(hb:Below w.heap.size w w'):Fl E w' n d a q:=by
 obtain⟨T,aa,tc,io,ic,po,pc,h1,h2⟩:=h;exact⟨T,aa,tc,io,ic,po,pc,h1.below hb,h2⟩
def Y9 (E:List Nat)(n:Nat)(p:Rep×Db)(a:Int)(q:Bool)(w w':aW):Prop:=Fl E w' n p.2 a q∧DbOk p.2∧But n w w'
def G6 (d:Db)(b:Stm):Bool:=decide (b.kind=1)||decide (b.kind=7)||(decide (b.kind=4)&&decide (d.c.indexes.length=0)&&d.c.tables.all (fun t=>decide ((d.R t.name).length=0))&&decide (b.rows.length≤4))
theorem Amq {t}:∀{seen:List Wd}{l rs:List (Wd×E)},Cr t seen l=.ok rs→rs.length=l.length
 |_,[],rs,h=>by rw[Cr]at h;grind
 |seen,p::l,rs,h=>by
  rw[Cr]at h;split at h
  ·grind
  ·split at h
   ·grind
   ·rename_i qs hq;cases h;rw[cR,cR,Amq hq]
section
variable {E:List Nat}{n:Nat}{d:Db}{T:List Pg}{a:Int}{to' io po:Option Addr}{tc ic pc:Nat}{w:aW}(hE:Cl E w) (hn:n∈E) (he:EngC E w n d.c T a (C to' d.c.tables.length tc) (C io d.c.indexes.length ic) (C po T.length pc)) (ok:DbOk d) (hhas:Has d (flat T)) (q:Bool) (hq:q=U→T.length≤1) {st b:Stm}(hb:Cn d.c st=.ok b) {cs:List aT}
include hE hn he ok hhas hb
include hq in
theorem Ao5 (hR:I6.R (fun k=>k<w.heap.size) w b cs)(hk:b.kind=1):aN aB 29 #[aF (I ⟨n,0,H⟩),aU cs.toArray] w fun e w'=>e=aE (bA #[])∧Y9 E n (Fk d b) a (q&&G6 d b) w w':=by
 refine(Ajb hE hn he ok.cat b cs hR).mono ?_;rintro e w' ⟨rfl,aa,ab,ac,ad,h1,h2⟩;obtain⟨h3,h4⟩:=Ao3 ok hhas hb hk;unfold Fk;rw[if_pos hk];exact⟨rfl,⟨T,aa,ab,ac,ad,po,pc,h1,h4,fun h=>hq (by grind)⟩,h3,h2⟩
theorem Awi (hR:I6.R (fun k=>k<w.heap.size) w b cs)(hk:b.kind=2):aN aB 30 #[aF (I ⟨n,0,H⟩),aU cs.toArray] w fun e w'=>e=aE (bA #[])∧Y9 E n (Fk d b) a (q&&G6 d b) w w':=by
 obtain⟨⟨t,ht⟩,h2,h3⟩:=Aes hb hk;refine(Azd hE hn he ok.cat b cs hR d.R ok hhas ht h3 h2).mono ?_;rintro e w' ⟨rfl,aa,ab,ac,ad,ae,af,T2,h4,h5,h6⟩;have h7:=Awc ok hb hk;unfold Fk;rw[if_neg (by omega),if_pos hk];exact⟨rfl,⟨T2,aa,ab,ac,ad,ae,af,h4,h5,fun h=>by simp[G6,hk]at h⟩,h7,h6⟩
theorem Awj (hR:I6.R (fun k=>k∉E) w b cs)(hk:b.kind=3):aN aB 31 #[aF (I ⟨n,0,H⟩),aU cs.toArray] w fun e w'=>e=aE (bA #[])∧Y9 E n (Fk d b) a (q&&G6 d b) w w':=by
 obtain⟨⟨t,ht⟩,h2,h3⟩:=Aet hb hk;refine(Ao4 hE hn he ok.cat b cs hR d.R ok hhas ht h2).mono ?_;rintro e w' ⟨rfl,aa,ab,ac,ad,ae,af,T2,h4,h5,h6⟩;have h7:=Awd ok hb hk;rw[(Ea ht).2]at h5;unfold Fk;rw[if_neg (by omega),if_neg (by omega),if_pos hk];exact⟨rfl,⟨T2,aa,ab,ac,ad,ae,af,h4,h5,fun h=>by simp[G6,hk]at h⟩,h7,h6⟩
end
def Wh (E:List Nat)(n:Nat)(p:Rep×Db)(a:Int)(q:Bool)(w w':aW)(e:Ending):Prop:=∃N m:Int,e=aE (bA #[J M N,J M m])∧Hid (p.1=⟨m,N,[]⟩)∧Y9 E n p a q w w'
theorem Ah8 {E}{n}{t}{d0 d:Db}{rows}{a}{to' io}{tc ic}{w w'}{e}{q b}(h:Lg E n t d rows a (C to' d0.c.tables.length tc) (C io d0.c.indexes.length ic) w w' e b)(hc:d.c=d0.c)(hq:q=b):Wh E n (⟨(C7 t d rows).2,if(C7 t d rows).2=0 then(rows.length:Int)else 0,[]⟩,(C7 t d rows).1) a q w w' e:=by
 subst hq;obtain⟨rfl,aa,ab,T',h1,h2,h3,h6,h4⟩:=h;refine⟨_,_,rfl,rfl,⟨T',to',tc,io,ic,aa,ab,?_,h3,h6⟩,h2,h4⟩;show EngC E w' n (C7 t d rows).1.c T' a _ _ _;rw[Aqh];grind
section
variable {E:List Nat}{n:Nat}{d:Db}{T:List Pg}{a:Int}{to' io po:Option Addr}{tc ic pc:Nat}{w:aW}(hE:Cl E w) (hn:n∈E) (he:EngC E w n d.c T a (C to' d.c.tables.length tc) (C io d.c.indexes.length ic) (C po T.length pc)) (ok:DbOk d) (hhas:Has d (flat T)) (q:Bool) {st b:Stm}(hb:Cn d.c st=.ok b) (hf:FitC st) {cs:List aT}(hR:I6.R (fun k=>k∉E) w b cs)
include hE hn he ok hhas hb hf hR
theorem Ao6 (hq:q=U→T.length≤1)(hk:b.kind=4):aN aB 33 #[aF (I ⟨n,0,H⟩),aU cs.toArray] w fun e w'=>Wh E n (Fk d b) a (q&&G6 d b) w w' e:=by
 obtain⟨ae,_,af,_⟩:=G3 hb;obtain⟨t,ht,hr,hs,hw⟩:=Oq hb (.inl (ae.symm.trans hk));obtain⟨ag,_⟩:=Wf (Fa hb).2.1;obtain⟨hl,ah⟩:=Aep hr;rw[←af]at ht;have ac:=(Ea ht).1;have e1:Fk d b=(⟨(C7 t d (b.rows.map fun l=>l.map (ev []))).2,if(C7 t d (b.rows.map fun l=>l.map (ev []))).2=0 then((b.rows.map fun l=>l.map (ev [])).length:Int)else 0,[]⟩,(C7 t d (b.rows.map fun l=>l.map (ev []))).1):=by
  unfold Fk;rw[if_neg (by omega),if_neg (by omega),if_neg (by omega),if_pos hk,ht]
 have ai:∀l∈b.rows,l.length≤16777216∧∀e∈l,Fg e:=fun l aa=>by
  obtain⟨h1,row,aj,h2⟩:=ah l aa;refine⟨by have:=(He ok.cat ac).2;omega,fun e' ak=>?_⟩;obtain⟨e0,al,h3,h4⟩:=h2 e' ak;have h5:=(hf.rows row aj).2 e0 al;exact⟨by rw[h3];exact h5.1,h4 h5.2⟩
 rw[e1];refine(Ajc hE hn he ok hhas b cs hR ht (by rw[hl];exact hf.rowsl) ai (fun l aa=>Asp (Aqi ok.cat ac) hr ag l aa) (q&&G6 d b) fun ab=>?_).mono fun e w' h=>Ah8 h rfl rfl
 rw[aQ]at ab;have ad:=ab.2;simp only[G6,hk,bX,aQ,decide_eq_true_eq,List.all_eq_true]at ad;have am:(d.c.indexes.length=0∧∀t∈d.c.tables,(d.R t.name).length=0)∧b.rows.length≤4:=by
  rcases ad with(h|h)|h
  ·omega
  ·omega
  ·exact⟨⟨h.1.1.2,h.1.2⟩,h.2⟩
 refine⟨by omega,hq ab.1,?_⟩;cases hF:flat T with
 |nil=>grind
 |cons x F=>
  obtain⟨u,hu,r,an,_⟩:=(hhas x).1 (by rw[hF];simp);grind
theorem Ao7 (hk:b.kind=5):aN aB 34 #[aF (I ⟨n,0,H⟩),aU cs.toArray] w fun e w'=>Wh E n (Fk d b) a (q&&G6 d b) w w' e:=by
 obtain⟨ac,_,ad,_⟩:=G3 hb;obtain⟨t,ht,hr,hs,hw⟩:=Oq hb (.inr (.inl (ac.symm.trans hk)));obtain⟨_,_,_,_,ae⟩:=Wf (Fa hb).2.1;rw[←ad]at ht;have aa:=Y6 hw;have ab:=Y7 (by have:=(He ok.cat ((Ea ht).1)).2;simp[F7];omega) hw ae;refine(Aje hE hn he ok hhas (Wg ok.cat) b cs hR ht ⟨by rw[aa.1];exact hf.wher.1,aa.2 hf.wher.2⟩ (ab.1 hf.b.fs.wher) ab.2).mono ?_;rintro e w' ⟨rfl,af,ag,T',h1,h2,h3,h4⟩;have e1:Fk d b=(⟨0,(((d.R t.name).filter (At b.wher)).length:Int),[]⟩,d.upd t.name ((d.R t.name).filter fun r=>!At b.wher r)):=by
  unfold Fk;rw[if_neg (by omega),if_neg (by omega),if_neg (by omega),if_neg (by omega),if_pos hk,ht]
 rw[e1];exact⟨_,_,rfl,rfl,⟨T',to',tc,io,ic,af,ag,h1,h3,fun h=>by simp[G6,hk]at h⟩,h2,h4⟩
theorem Ao8 (hk:b.kind=6):aN aB 35 #[aF (I ⟨n,0,H⟩),aU cs.toArray] w fun e w'=>Wh E n (Fk d b) a (q&&G6 d b) w w' e:=by
 obtain⟨ad,_,ae,_⟩:=G3 hb;obtain⟨t,ht,hr,hs,hw⟩:=Oq hb (.inr (.inr (ad.symm.trans hk)));obtain⟨_,af,_,_,ag⟩:=Wf (Fa hb).2.1;rw[←ae]at ht;have aa:=(Ea ht).1;have ab:=Y6 hw;have ac:=Y7 (by have:=(He ok.cat aa).2;simp[F7];omega) hw ag;refine(Ajf hE hn he ok hhas (Wg ok.cat) b cs hR ht ⟨by rw[ab.1];exact hf.wher.1,ab.2 hf.wher.2⟩ (ac.1 hf.b.fs.wher) ac.2 (by rw[Amq hs];exact hf.b.sets) (fun p hp=>?_) (fun r ah=>Av9 (Aqi ok.cat aa) hs af r ah)).mono fun e w' h=>?_
 ·obtain⟨p0,ai,⟨h3,h4⟩,h5⟩:=Awa hs p hp;have h6:=hf.sets p0 ai;exact⟨⟨by rw[h3];exact h6.1,h4 h6.2⟩,h5⟩
 ·have e1:Fk d b=(⟨(C7 t (d.upd t.name ((d.R t.name).filter fun r=>!At b.wher r)) (((d.R t.name).filter (At b.wher)).map (Gl t b.sets))).2,if(C7 t (d.upd t.name ((d.R t.name).filter fun r=>!At b.wher r)) (((d.R t.name).filter (At b.wher)).map (Gl t b.sets))).2=0 then((((d.R t.name).filter (At b.wher)).map (Gl t b.sets)).length:Int)else 0,[]⟩,(C7 t (d.upd t.name ((d.R t.name).filter fun r=>!At b.wher r)) (((d.R t.name).filter (At b.wher)).map (Gl t b.sets))).1):=by
   unfold Fk;rw[if_neg (by omega),if_neg (by omega),if_neg (by omega),if_neg (by omega),if_neg (by omega),if_pos hk,ht]
  rw[e1];exact Ah8 h rfl (by simp[G6,hk])
end
section
variable {E:List Nat}{n:Nat}{d:Db}{T:List Pg}{a:Int}{to' io po:Option Addr}{tc ic pc:Nat}{w:aW}(he:EngC E w n d.c T a (C to' d.c.tables.length tc) (C io d.c.indexes.length ic) (C po T.length pc)) (ok:DbOk d) (hhas:Has d (flat T)) {st b:Stm}(hb:Cn d.c st=.ok b) (hf:FitC st) {cs:List aT}(hR:I6.R (fun k=>k<w.heap.size) w b cs)
include he ok hhas hb hf hR
theorem Ao9 (hk:b.kind=7):aN aB 36 #[aF (I ⟨n,0,H⟩),aU cs.toArray] w fun e w'=>Nd w w' e (Asq d b):=by
 obtain⟨ag,_⟩:=G3 hb;obtain⟨S,hS,ho,hr,hw,ah,_,_⟩:=Amj hb (ag.symm.trans hk);obtain⟨ab,ar,ai,aa⟩:=Av3 hS;obtain⟨_,_,_,_,aj⟩:=Wf (Fa hb).2.1;rw[←ah]at ab aa;have ac:∀t∈S,t∈d.c.tables:=fun t ht=>by
  obtain⟨k,hk,rfl⟩:=cK ht;exact(Ea (aa k _ _ (aA (show k<b.frm.length by omega)) (aA hk))).1
 have ak:(F7 S).length≤1000:=by
  have h4:∀t∈S,t.cols.length≤4:=fun t ht=>(He ok.cat (ac t ht)).2
  have:=J6 TabD.cols 4 S h4;unfold F7;omega
 have ad:=Y6 hw;have ae:=Y7 ak hw aj;obtain⟨al,am⟩:=Ah2 hr;obtain⟨an,ap⟩:=A1v ho hf.out;have au:(Vs S).length≤16777216:=by
  have:=J6 (fun t:TabD=>t.cols.map fun c=>(t.name,c.name)) 4 S fun t ht=>by rw[bU];exact(He ok.cat (ac t ht)).2
  unfold Vs;rw[Aat];unfold Ha;omega
 refine(Amh he ok hhas (Wg ok.cat) b cs hR S ab aa ai ⟨by rw[ad.1];exact hf.wher.1,ad.2 hf.wher.2⟩ (ae.1 hf.b.fs.wher) ae.2 (by rw[al];exact hf.order.1) (fun e he=>?_) (by rcases ap with h|h<;>rw[h];exact hf.b.out;omega) an).mono ?_
 ·obtain⟨e0,aq,h3,h4⟩:=am e he;have h5:=hf.order.2 e0 aq;exact⟨by rw[h3];exact h5.1,h4 h5.2⟩
 ·rintro e w' ⟨A2,hp,hs,af⟩;have e1:=by
   refine A1u ok b S ac hp ?_ hs (Ajd d b);have:=Ao2 d b;unfold Aer at this;rw[(Ah3 ab aa)]at this;exact this
  rw[e1]at af;exact af
end
theorem Awk {d}{b}(hk:b.kind=1∨b.kind=2∨b.kind=3):(Fk d b).1=⟨0,0,[]⟩:=by
 unfold Fk;grind
theorem Apa {d}{b}(hk:b.kind=7):Fk d b=(⟨0,0,Asq d b⟩,d):=by
 unfold Fk;grind
theorem Ajg {P}{w}{ops}{o}{a}{K}{Q}{X}(aa:o.guard=H)(ty)(x)(ho:o.op=.load ty x)
  (g) (hx:a.eval x=aF (I ⟨g,0,H⟩)) (t) (cs) (fr) (d) (hg:w.heap[g]?=I (Z cs t fr))
  (hu:P.underlying ty=I d) (hd:(match d with|.struct _|.array _ _=>U|_=>aL)=U) (hi:(P.info? ty).map (·.size)=I cs.size)
  (h:K (a.put o.dst (aU cs)) w):if cV o (yielded ops a.tmps)=U then Oper.wp P o a w K Q else X:=by
 rw[if_pos (by simp[cV,aa])];exact wp_load_row ty x ho g hx t cs fr d hg hu hd hi h
theorem Cz (x y)(so)(n c):(#[J M x,J M y,C so n c]:Array aT).all (·.oneCell')=U:=by simp[Value.oneCell']
theorem Ar:(Tryz.prog.info? 32).map (·.size)=I 3:=by kernel_rfl
theorem Amr {ct}{st}{m}(h:Cn ct st=cY m):m=1∨m=3∨m=4∨m=5∨m=8:=by
 unfold Cn at h;split at h
 ·grind
 ·exact Ahf h
def Ams (E:List Nat)(n:Nat)(p:Rep×Db)(a:Int)(q:Bool)(w w':aW)(e:Ending):Prop:=(∃rv,e=aE (aU #[J M p.1.code,J M p.1.n,rv])∧Dq w.heap.size rv p.1.rows w')∧Y9 E n p a q w w'
def Sn (d:Db)(st:Stm)(q:Bool):Bool:=match Cn d.c st with
 |cY _=>q
 |.ok b=>q&&G6 d b
theorem Asu {c:CatD}{st b:Stm}(h:Cn c st=.ok b)(hf:FitC st):∀r∈b.rows,r≠[]:=by
 obtain⟨hk,_,_,_,_,h1,h7⟩:=G3 h
 by_cases h3:st.kind≤3
 ·rw[Asr h (by omega)];exact fun r hr=>(hf.rows r hr).1
 ·by_cases h4:st.kind=7
  ·obtain⟨_,_,hb⟩:=Fa h;rw[Ep,if_neg (by omega),if_neg (by omega),if_neg (by omega),if_neg (by omega),if_pos h4]at hb;have e:b.rows=st.rows:=by
    unfold Fc at hb;split at hb
    ·grind
    split at hb
    ·grind
    split at hb
    ·grind
    split at hb
    ·grind
    cases hb;rfl
   rw[e];exact fun r hr=>(hf.rows r hr).1
  ·obtain⟨t,ht,hr,_⟩:=Oq h (by omega);obtain⟨_,aa⟩:=Aep hr;intro r ab e;obtain⟨hl,row,ac,_⟩:=aa r ab;have hc:=(D8 (Fa h).1).2.2 t (Ea ht).1;grind
theorem A1x {E}{n}{d}{T}{a}{to' io po}{tc ic pc}{w}(hE:Cl E w)(hn:n∈E)(he:EngC E w n d.c T a (C to' d.c.tables.length tc) (C io d.c.indexes.length ic) (C po T.length pc))(ok:DbOk d)(ac:Has d (flat T))(q)(hq:q=U→T.length≤1)(st)(cs)(hR:I6.R (fun k=>k<w.heap.size) w st cs)(hf:FitC st):
  aN aB 19 #[aF (I ⟨n,0,H⟩),aU cs.toArray] w fun e w'=>Ams E n (F8 d st) a (Sn d st q) w w' e:=by
 obtain⟨o1,c1,o2,c2,o3,c3,o4,c4,o5,c5,op,xk,xn,xs,s,aj,n8,o6,k6,c6,o7,c7,rfl,-⟩:=Ba hR;obtain⟨ak,am,ar,be⟩:=al2 w (Z (sA st.kind st.name st.table st.col (C o1 st.cols.length c1) (C o2 st.rows.length c2) (C o3 st.sets.length c3) (C o4 st.frm.length c4) (C o5 st.out.length c5) op xk xn xs s aj n8 (C o6 k6 c6) (C o7 st.order.length c7) st.down st.n) 71) (Z #[J M 0,J M 0,C H 0 0] 32);have an:=he.below ak;have HB:∀W,Below ((w.alloc (Z (sA st.kind st.name st.table st.col (C o1 st.cols.length c1) (C o2 st.rows.length c2) (C o3 st.sets.length c3) (C o4 st.frm.length c4) (C o5 st.out.length c5) op xk xn xs s aj n8 (C o6 k6 c6) (C o7 st.order.length c7) st.down st.n) 71)).alloc (Z #[J M 0,J M 0,C H 0 0] 32)).heap.size ((w.alloc (Z (sA st.kind st.name st.table st.col (C o1 st.cols.length c1) (C o2 st.rows.length c2) (C o3 st.sets.length c3) (C o4 st.frm.length c4) (C o5 st.out.length c5) op xk xn xs s aj n8 (C o6 k6 c6) (C o7 st.order.length c7) st.down st.n) 71)).alloc (Z #[J M 0,J M 0,C H 0 0] 32)) W→aN aB 28 #[aU #[C to' d.c.tables.length tc,C io d.c.indexes.length ic],aU (sA st.kind st.name st.table st.col (C o1 st.cols.length c1) (C o2 st.rows.length c2) (C o3 st.sets.length c3) (C o4 st.frm.length c4) (C o5 st.out.length c5) op xk xn xs s aj n8 (C o6 k6 c6) (C o7 st.order.length c7) st.down st.n)] W fun r w'=>∃(ad:Array aT) (z:Int),r=aE (bA #[aU ad,J M z])∧ad.size=20∧ad.all (·.oneCell')=U∧Hid (match Cn d.c st with|cY m=>z=m|.ok b=>z=0∧I6.R (Fx w.heap.size (w.heap.size+2)) w' b ad.toList)∧Below W.heap.size W w':=fun W h=>(Avu d.c _ st (sA st.kind st.name st.table st.col (C o1 st.cols.length c1) (C o2 st.rows.length c2) (C o3 st.sets.length c3) (C o4 st.frm.length c4) (C o5 st.out.length c5) op xk xn xs s aj n8 (C o6 k6 c6) (C o7 st.order.length c7) st.down st.n).toList w.heap.size W ⟨_,_,rfl,(he.tabs.mono (F':=fun k=>k<w.heap.size) fun k hk _=>hk).keep (Ae (Ac ak h)),(he.idxs.mono (F':=fun k=>k<w.heap.size) fun k hk _=>hk).keep (Ae (Ac ak h))⟩ (I6.keep (Ae (Ac ak h)) hR) (Ac ak h).size (Wg ok.cat) hf.b).mono (by
  rintro r w' ⟨⟨u,rfl,hu⟩,bf⟩;cases aa:Cn d.c st with
  |error m=>
   rw[aa]at hu;obtain rfl:u=_:=hu;exact⟨Bq,m,rfl,rfl,Pv (B7 _ _ _) (B7 _ _ _) (B7 _ _ _) (B7 _ _ _) (B7 _ _ _) (B7 _ _ _) (B7 _ _ _),rfl,bf⟩
  |ok b=>
   rw[aa]at hu;obtain⟨ad,rfl,bp,h1,hk⟩:=hu;exact⟨ad,0,rfl,bp,h1,⟨rfl,I6.mono (fun k _ hk=>hk.imp id (fun h3=>aG (aG (Nat.le_of_eq be.symm) h.size) h3)) hk⟩,bf⟩)
 have bg:=he.lt;generalize hW:((w.alloc _).alloc _)=W2 at ak am ar be an HB;have HW:Hid _:=hW;have v0:=Aa an.blk (j:=0) rfl;have v1:=Aa an.blk (j:=1) rfl;clear hW;clear hR;go_enter Tryz.func19,Tryz.ntmps19;go_upto_region 1 with fail;rw[HW.out];refine bL (S:=(fun W=>W.cell? ⟨n,0,H⟩=I (C to' d.c.tables.length tc)∧W.cell? ⟨n,1,H⟩=I (C io d.c.indexes.length ic))) (by rfl) ?_ (fun hHeld=>?_)
 ·simp_all
 refine tk 0 ?_;refine tk 1 ?_;refine tk 2 ?_;refine tk 3 ?_;refine Bh 4 (fun K hK=>?_);refine Ajg rfl 71 _ rfl w.heap.size ?_ 71 (sA st.kind st.name st.table st.col (C o1 st.cols.length c1) (C o2 st.rows.length c2) (C o3 st.sets.length c3) (C o4 st.frm.length c4) (C o5 st.out.length c5) op xk xn xs s aj n8 (C o6 k6 c6) (C o7 st.order.length c7) st.down st.n) (0,0) _ ?_ aV ?_ ?_ ?_;exact rfl;exact am;exact rfl;exact D5;refine hK.out _ _ ?_ (fun hHeld=>?_)
 ·omega
 clear hK K;refine Bh 5 (fun K hK=>?_);go_simp
 (refine(HB _ (aC _ _).drew).mono ?_;rintro e w1 ⟨ad,z,rfl,ap,au,bh,bi⟩;have av:=Ac (aC _ _).drew bi;have bb:=(av.block _ (Y am)).trans am;have bj:=(av.block _ (Y ar)).trans ar;have aq:=an.below av;have aw:=Nm ap)
 go_wp2_with fail;refine hK.out _ _ ?_ (fun hHeld=>?_)
 ·exact⟨Aa aq.blk rfl,Aa aq.blk rfl⟩
 clear hK K;refine tk 6 ?_;refine tk 7 ?_;refine tk 8 ?_;refine Bh 9 (fun K hK=>?_);refine Hw rfl 71 _ _ rfl w.heap.size ad ?_ ?_ 71 (sA st.kind st.name st.table st.col (C o1 st.cols.length c1) (C o2 st.rows.length c2) (C o3 st.sets.length c3) (C o4 st.frm.length c4) (C o5 st.out.length c5) op xk xn xs s aj n8 (C o6 k6 c6) (C o7 st.order.length c7) st.down st.n) ?_ ?_ ?_ ?_ ?_;exact rfl;exact rfl;exact bb;exact aw;exact ap.symm;exact au;refine hK.out _ _ ?_ (fun hHeld=>?_)
 ·exact⟨Aa (By aq.blk (aY bg) _) rfl,Aa (By aq.blk (aY bg) _) rfl⟩
 clear hK K
 try simp only[Act.put]
 refine tk 10 ?_;refine cU (by kernel_rfl) ?_ _;have bS:=Ao (cells:=ad) bb;have bR:=By (g:=w.heap.size) bj (by omega) ad;have hb:=Below.row (Ac ak av) (aD _) ad;have bc:Hid (match Cn d.c st with|cY m=>z=m|.ok b=>z=0∧I6.R (Fx w.heap.size (w.heap.size+2)) (w1.setRow w.heap.size ad) b ad.toList):=by
  have h:=bh.out
  revert h
  show _→_;cases Cn d.c st with
  |error m=>exact fun h=>h
  |ok b=>exact fun h=>⟨h.1,I6.keep ((Keeps.refl _ _).row (fun h=>by rcases h with h|h<;>omega) _) h.2⟩
 clear bb bj am ar HB aq an v0 v1 bi bh HW;generalize w1.setRow _ ad=V at bS bR hb bc⊢;have ax:=bc.out;clear bc;cases aa:Cn d.c st with
 |error m=>
  rw[aa]at ax;obtain rfl:=ax;have HE:Hid (F8 d st=(⟨z,0,[]⟩,d)):=by show _=_;rw[F8,aa]
  have HQ:Hid (Sn d st q=q):=by show _=_;rw[Sn,aa]
  have hm:=Amr aa;clear aa;rcases hm with rfl|rfl|rfl|rfl|rfl
  ·go_wp2_with(refine aJ rfl 32 _ _ rfl (w.heap.size+1) #[J M 1,J M 0,C H 0 0] ?_ ?_ 32 #[J M 0,J M 0,C H 0 0] ?_ ?_ ?_ ?_ ?_;exact rfl;exact rfl;exact bR;exact Ar;exact rfl;exact Cz _ _ _ _ _);refine aH (v:=aU #[J M 1,J M 0,C H 0 0]) (aK aM _ _ (w.heap.size+1) 32 #[J M 1,J M 0,C H 0 0] _ _ rfl (Ao bR) aI rfl Ar) rfl ?_;rw[HE.out,HQ.out];have ab:=Below.row hb (show w.heap.size≤w.heap.size+1 by omega) #[J M 1,J M 0,C H 0 0];exact⟨⟨_,rfl,Cd _ _⟩,⟨T,to',tc,io,ic,po,pc,he.below ab,ac,hq⟩,ok,But.of_below ab⟩
  ·go_wp2_with(refine aJ rfl 32 _ _ rfl (w.heap.size+1) #[J M 3,J M 0,C H 0 0] ?_ ?_ 32 #[J M 0,J M 0,C H 0 0] ?_ ?_ ?_ ?_ ?_;exact rfl;exact rfl;exact bR;exact Ar;exact rfl;exact Cz _ _ _ _ _);refine aH (v:=aU #[J M 3,J M 0,C H 0 0]) (aK aM _ _ (w.heap.size+1) 32 #[J M 3,J M 0,C H 0 0] _ _ rfl (Ao bR) aI rfl Ar) rfl ?_;rw[HE.out,HQ.out];have ab:=Below.row hb (show w.heap.size≤w.heap.size+1 by omega) #[J M 3,J M 0,C H 0 0];exact⟨⟨_,rfl,Cd _ _⟩,⟨T,to',tc,io,ic,po,pc,he.below ab,ac,hq⟩,ok,But.of_below ab⟩
  ·go_wp2_with(refine aJ rfl 32 _ _ rfl (w.heap.size+1) #[J M 4,J M 0,C H 0 0] ?_ ?_ 32 #[J M 0,J M 0,C H 0 0] ?_ ?_ ?_ ?_ ?_;exact rfl;exact rfl;exact bR;exact Ar;exact rfl;exact Cz _ _ _ _ _);refine aH (v:=aU #[J M 4,J M 0,C H 0 0]) (aK aM _ _ (w.heap.size+1) 32 #[J M 4,J M 0,C H 0 0] _ _ rfl (Ao bR) aI rfl Ar) rfl ?_;rw[HE.out,HQ.out];have ab:=Below.row hb (show w.heap.size≤w.heap.size+1 by omega) #[J M 4,J M 0,C H 0 0];exact⟨⟨_,rfl,Cd _ _⟩,⟨T,to',tc,io,ic,po,pc,he.below ab,ac,hq⟩,ok,But.of_below ab⟩
  ·go_wp2_with(refine aJ rfl 32 _ _ rfl (w.heap.size+1) #[J M 5,J M 0,C H 0 0] ?_ ?_ 32 #[J M 0,J M 0,C H 0 0] ?_ ?_ ?_ ?_ ?_;exact rfl;exact rfl;exact bR;exact Ar;exact rfl;exact Cz _ _ _ _ _);refine aH (v:=aU #[J M 5,J M 0,C H 0 0]) (aK aM _ _ (w.heap.size+1) 32 #[J M 5,J M 0,C H 0 0] _ _ rfl (Ao bR) aI rfl Ar) rfl ?_;rw[HE.out,HQ.out];have ab:=Below.row hb (show w.heap.size≤w.heap.size+1 by omega) #[J M 5,J M 0,C H 0 0];exact⟨⟨_,rfl,Cd _ _⟩,⟨T,to',tc,io,ic,po,pc,he.below ab,ac,hq⟩,ok,But.of_below ab⟩
  ·go_wp2_with(refine aJ rfl 32 _ _ rfl (w.heap.size+1) #[J M 8,J M 0,C H 0 0] ?_ ?_ 32 #[J M 0,J M 0,C H 0 0] ?_ ?_ ?_ ?_ ?_;exact rfl;exact rfl;exact bR;exact Ar;exact rfl;exact Cz _ _ _ _ _);refine aH (v:=aU #[J M 8,J M 0,C H 0 0]) (aK aM _ _ (w.heap.size+1) 32 #[J M 8,J M 0,C H 0 0] _ _ rfl (Ao bR) aI rfl Ar) rfl ?_;rw[HE.out,HQ.out];have ab:=Below.row hb (show w.heap.size≤w.heap.size+1 by omega) #[J M 8,J M 0,C H 0 0];exact⟨⟨_,rfl,Cd _ _⟩,⟨T,to',tc,io,ic,po,pc,he.below ab,ac,hq⟩,ok,But.of_below ab⟩
 |ok b=>
  rw[aa]at ax;obtain⟨rfl,ai⟩:=ax;have HE:Hid (F8 d st=Fk d b):=by show _=_;rw[F8,aa]
  have HQ:Hid (Sn d st q=(q&&G6 d b)):=by show _=_;rw[Sn,aa]
  have ae:=hE.below hb;have af:=he.below hb;obtain⟨p1,d1,p2,d2,p3,d3,p4,d4,p5,d5,yo,yk,yn,ys,y0,bw,y8,p6,m6,d6,p7,d7,bk,-⟩:=Ba ai;obtain rfl:=Array.toList_inj.1 bk;clear bk;have a0:=Aa bS (j:=0) rfl;have al:=A1w ae ai (Asu aa hf);have ay:w.heap.size+1≠n:=by omega
  have bq:=G3 aa;rcases(show(b.kind=1∨b.kind=2∨b.kind=3)∨(b.kind=4∨b.kind=5∨b.kind=6)∨b.kind=7 by omega)with hk|hk|hk
  all_goals clear bq
  all_goals have HK:Hid _:=hk
  ·rcases hk with hk|hk|hk
   all_goals rw[hk]at a0
   focus have HI:=Ao5 ae hn af ok ac q hq aa (I6.mono (fun k hk _=>hk) ai) hk
   rotate_left
   focus have HI:=Awi ae hn af ok ac q aa (I6.mono (fun k hk _=>hk) ai) hk
   rotate_left
   focus have HI:=Awj ae hn af ok ac q aa al hk
   all_goals
    clear aa hk hf ai al af ae ap au hE he ac;generalize(q&&G6 d b)=q2 at HI HQ;generalize hp:Fk d b=p at HI HE;go_wp2_with(first
     |(go_fit HI;rintro e w8 ⟨rfl,ag⟩;have ah:=(ag.2.2.block _ (Y bR) ay).trans bR)
     |(refine cA rfl 71 _ rfl _ ?_ 71 _ _ _ bS aV ?_ ?_ ?_;exact rfl;exact rfl;exact aw)
     |(refine aJ rfl 32 _ _ rfl (w.heap.size+1) #[J M 0,J M 0,C H 0 0] ?_ ?_ 32 #[J M 0,J M 0,C H 0 0] ?_ ?_ ?_ ?_ ?_;exact rfl;exact rfl;exact ah;exact Ar;exact rfl;exact Cz _ _ _ _ _))
    refine aH (v:=aU #[J M 0,J M 0,C H 0 0]) (aK aM _ _ (w.heap.size+1) 32 #[J M 0,J M 0,C H 0 0] _ _ rfl (Ao ah) aI rfl Ar) rfl ?_;have bl:p.1=⟨0,0,[]⟩:=by rw[←hp];exact Awk (by have:=HK.out;omega)
    rw[HE.out,HQ.out];refine⟨⟨_,by rw[bl],by rw[bl];exact Cd _ _⟩,ag.1.row (Cm ah) (Ne.symm ay) _,ag.2.1,((But.of_below hb).trans ag.2.2).rowB (by omega) _⟩
  ·rcases hk with hk|hk|hk
   all_goals rw[hk]at a0
   focus have HI:=Ao6 ae hn af ok ac q aa hf al hq hk
   rotate_left
   focus have HI:=Ao7 ae hn af ok ac q aa hf al hk
   rotate_left
   focus have HI:=Ao8 ae hn af ok ac q aa hf al hk
   all_goals
    clear aa hk hf ai al af ae ap au hE he ac;generalize(q&&G6 d b)=q2 at HI HQ;generalize hp:Fk d b=p at HI HE;clear hp;go_wp2_with(first
     |(go_fit HI;rintro e w8 ⟨N8,m8,rfl,bm,ag⟩;have ah:=(ag.2.2.block _ (Y bR) ay).trans bR)
     |(go_fit(Ao0 _ _ _);rintro e w9 ⟨rfl,ab⟩;have bd:=(ab.block _ (Y ah)).trans ah)
     |(refine cA rfl 71 _ rfl _ ?_ 71 _ _ _ bS aV ?_ ?_ ?_;exact rfl;exact rfl;exact aw)
     |(refine aJ rfl 32 _ _ rfl (w.heap.size+1) #[J M m8,J M N8,C H 0 0] ?_ ?_ 32 #[J M 0,J M 0,C H 0 0] ?_ ?_ ?_ ?_ ?_;exact rfl;exact rfl;exact bd;exact Ar;exact rfl;exact Cz _ _ _ _ _))
    refine aH (v:=aU #[J M m8,J M N8,C H 0 0]) (aK aM _ _ (w.heap.size+1) 32 #[J M m8,J M N8,C H 0 0] _ _ rfl (Ao bd) aI rfl Ar) rfl ?_;rw[HE.out,HQ.out];refine⟨⟨_,by rw[bm.out],by rw[bm.out];exact Cd _ _⟩,(ag.1.below ab).row (Cm bd) (Ne.symm ay) _,ag.2.1,(((But.of_below hb).trans ag.2.2).trans (But.of_below ab)).rowB (by omega) _⟩
  ·rw[hk]at a0;have HI:=Ao9 af ok ac aa hf (I6.mono (fun k hk _=>hk) ai) hk;have bt:(q&&G6 d b)=U→T.length≤1:=fun h=>hq (by grind)
   clear aa hk hf ai al af ae ap au hE;have HD:Hid (Fk d b=(⟨0,0,_⟩,d)):=Apa HK.out;generalize Asq d b=A at HI HD;have bu:Hid _:=ac;have bv:Hid _:=he;clear he ac;go_wp2_with(first
    |(go_fit HI;rintro e w8 ⟨bx,rfl,bn,bo⟩;obtain⟨az,ba,rfl⟩:=(Rb bn).shape;have ah:=(bo.block _ (Y bR)).trans bR)
    |(refine cA rfl 71 _ rfl _ ?_ 71 _ _ _ bS aV ?_ ?_ ?_;exact rfl;exact rfl;exact aw)
    |(refine aJ rfl 32 _ _ rfl (w.heap.size+1) #[J M 0,J M 0,C az A.length ba] ?_ ?_ 32 #[J M 0,J M 0,C H 0 0] ?_ ?_ ?_ ?_ ?_;exact rfl;exact rfl;exact ah;exact Ar;exact rfl;exact Cz _ _ _ _ _))
   refine aH (v:=aU #[J M 0,J M 0,C az A.length ba]) (aK aM _ _ (w.heap.size+1) 32 #[J M 0,J M 0,C az A.length ba] _ _ rfl (Ao ah) aI rfl Ar) rfl ?_;rw[HE.out,HQ.out,HD.out];have ab:=Below.row (Ac hb bo) (show w.heap.size≤w.heap.size+1 by omega) #[J M 0,J M 0,C az A.length ba];refine⟨⟨_,rfl,(bn.row (by grind) _).base hb.size⟩,⟨T,to',tc,io,ic,po,pc,bv.out.below ab,bu.out,bt⟩,ok,But.of_below ab⟩
theorem Azl (m)(n):(str m).extract 0 n=str (m.take n):=by
 have:((str m).extract 0 n).data.toList=m.take n:=by
  rw[bP];simp[Br]
 rw[←Qi ((str m).extract 0 n),this]
theorem Azm (m)(n):(str m).extract n (str m).size=str (m.drop n):=by
 have:((str m).extract n (str m).size).data.toList=m.drop n:=by
  rw[bP,Jx,Br,cD (by simp)]
 rw[←Qi ((str m).extract n _),this]
theorem So (a)(w)(x r)(d)(h:RdC w a x r d aL)(hr:r.size≤1500):
  aN aB 25 #[.pointer (I ⟨a,0,H⟩)] w fun e w'=>e=.returned (.tuple #[])∧Rd w' a (adv (Ie r.data.toList)) d∧But a w w':=by
 obtain⟨c0,c1,c2,c3⟩:=h.cells;have TL:=Ak1 r w;have ht:=Apw r.data.toList;have ah:(r.data.toList.dropWhile Dz).length≤1500:=by
  have:=Oj Dz r.data.toList;rw[Dm]at this;omega
 generalize Ie _=T at ht⊢;generalize r.data.toList.dropWhile Dz=m at TL ht ah;have HT:Hid _:=ht;clear ht;have ai:(str m).size≤1500:=by rw[Jx];exact ah
 have WS:=fun W=>Ak0 (str m) W (by unfold bN;omega)
 rw[Br]at WS;have ab:=Abq m
 by_cases ad:C3 m=0∧m≠[]
 ·obtain⟨ae,hm⟩:=ad;have he:(str m).toList.isEmpty=aL:=by rw[aO,Br];cases m with|nil=>grind|cons c m=>rfl
  have HF:Hid (T=[noW]):=by have:=HT.out;rw[if_neg hm,if_pos ae]at this;exact this
  rw[ae]at WS;clear HT hm ae ab;go_enter cI,cC;go_wp2_with(first
   |(go_fit TL;rintro e w1 ⟨rfl,aa⟩;have aj:=(fun W y z hW=>R4 a W y z d aL hW) w1 _ _ (h.below aa))
   |(go_fit(WS _);rintro e w' ⟨rfl,rfl⟩)
   |(go_fit aj;rintro e w2 ⟨rfl,ak,al⟩))
  refine aH (v:=bA #[]) (by simp[cM,Tryz.results25,go_sem]) rfl ⟨rfl,?_,(But.of_below aa).trans al⟩;rw[HF.out];exact⟨_,_,_,ak,.wrong⟩
 ·have HF:Hid (T=[]∧m=[]∧C3 m=0∨0<C3 m∧T=str (m.take (C3 m))::Ie (m.drop (C3 m))):=by
   have:=HT.out
   by_cases hm:m=[]
   ·grind
   ·have h0:C3 m≠0:=fun e=>ad ⟨e,hm⟩
    rw[if_neg hm,if_neg h0]at this;exact .inr ⟨by omega,this⟩
  have af:(C3 m=0∧(str m).toList.isEmpty=U)∨0<C3 m:=by
   rcases HF.out with⟨_,h1,h2⟩|⟨h1,_⟩
   ·exact .inl ⟨h2,by rw[aO,Br,h1];rfl⟩
   ·omega
  have ac:0<C3 m→IsTok _:=fun h=>Adr h
  have e1:=Azl m (C3 m);have e2:=Azm m (C3 m);have ht:(str (m.take (C3 m))).size≤1500:=by rw[Jx,cP];omega
  have hd:(str (m.drop (C3 m))).size≤1500:=by rw[Jx,cQ];omega
  have ed:(str _).data.toList=m.drop (C3 m):=Br _;rw[←Jx m]at ab;generalize C3 m=n at WS ab HF af ac e1 e2 ht hd ed;have ag:Hid (Reads ((str m).extract 0 n) ((str m).extract n (str m).size) aL (adv T)):=by
   show Reads _ _ _ _;rw[e1,e2];rcases HF.out with⟨rfl,rfl,rfl⟩|⟨h0,rfl⟩
   ·exact .over
   ·rw[Mn (ac h0).pos];have:=Reads.word (ac h0) ht hd;grind
  clear HF HT e1 e2 ht hd ed ac ad;generalize str m=sm at TL WS ab ai af ag;have i0:(0:Int)≤n:=by omega
  have i1:n≤(sm.size:Int):=by omega
  rcases af with⟨hn',he⟩|hn'
  ·have am:((n:Int)==0)=U:=beq_iff_eq.2 (by omega);clear hn';go_enter cI,cC;go_wp2_with(first
    |(go_fit TL;rintro e w1 ⟨rfl,aa⟩)
    |(go_fit(WS _);rintro e w' ⟨rfl,rfl⟩))
   have hR:=h.below aa;obtain⟨d0,d1,d2,d3⟩:=hR.cells;have f0:=hR.frozen 0;have f1:=hR.frozen 1
   go_region
   go_end0
   exact⟨rfl,⟨_,_,_,((hR.set0 _).set1 _).drew,ag.out⟩,(((But.of_below aa).set _ _).set _ _).drew⟩
  ·have am:((n:Int)==0)=aL:=beq_eq_false_iff_ne.2 (by omega);go_enter cI,cC;go_wp2_with(first
    |(go_fit TL;rintro e w1 ⟨rfl,aa⟩)
    |(go_fit(WS _);rintro e w' ⟨rfl,rfl⟩))
   have hR:=h.below aa;obtain⟨d0,d1,d2,d3⟩:=hR.cells;have f0:=hR.frozen 0;have f1:=hR.frozen 1
   go_region
   go_end0
   exact⟨rfl,⟨_,_,_,((hR.set0 _).set1 _).drew,ag.out⟩,(((But.of_below aa).set _ _).set _ _).drew⟩
theorem Ajh (s)(w)(hs:s.size≤1500):
  aN aB 17 #[.string s] w fun e w'=>∃a,e=.returned (.pointer (I ⟨a,0,H⟩))∧w.heap.size≤a∧Rd w' a (adv (Ie s.data.toList)) 0∧Below w.heap.size w w':=by
 have hR:RdC _ _ noW s 0 aL:=Ab w _;have aa:Below _ w (w.alloc (Z #[O noW,O s,J M 0,.bool aL] 87)):=(aC _ _).alloc (aD _) _;go_enter Tryz.func17,Tryz.ntmps17;go_wp2_with(go_fit(So _ _ noW s 0 hR hs);rintro e w1 ⟨rfl,ab,ac⟩);go_ret;exact⟨_,rfl,aD _,ab,aa.trans (ac.below (aD _) (by simp))⟩
theorem Reads.empty {x r}{b}{s}(h:Reads x r b s)(hx:x.size=0):s=H∧b=U∨s=I []∧b=aL:=by
 cases h with
 |wrong=>simp
 |over=>simp
 |word h1 _ _=>have:=h1.pos;omega
theorem Reads.at {x r}{b}{s}(h:Reads x r b s)(hx:0<x.size):s=I (x::Ie r.data.toList)∧b=aL∧IsTok x∧r.size≤1500:=by
 cases h with
 |wrong=>cases hx
 |over=>cases hx
 |word h1 _ h2=>grind
theorem Asv {x r}{b}{s}{k}(h:Reads x r b s)(hk:0<k.size):(x≠k∧Ag k s=(aL,s))∨(x=k∧b=aL∧r.size≤1500∧Ag k s=(U,adv (Ie r.data.toList))):=by
 cases h with
 |wrong=>exact .inl ⟨by rintro rfl;exact absurd hk (by decide),rfl⟩
 |over=>exact .inl ⟨by rintro rfl;exact absurd hk (by decide),rfl⟩
 |word h1 _ h2=>
  by_cases e:x=k
  ·subst e;exact .inr ⟨rfl,rfl,h2,J2⟩
  ·exact .inl ⟨e,Fb e⟩
theorem A1y (x k:Wd):(x.toList==k.toList)=decide (x=k):=by rw[aO k,Atr]
theorem Pi {x}(h:x.size=0):x=noW:=by
 cases x with
 |mk d=>
  have:d.size=0:=h;grind
theorem C6 (a)(k:Wd)(s)(d)(w)(h:Rd w a s d)(hk:0<k.size):
  aN aB 40 #[aF (I ⟨a,0,H⟩),O k] w fun e w'=>e=aE (.bool (Ag k s).1)∧Rd w' a (Ag k s).2 d∧But a w w':=by
 obtain⟨x,r,b,h1,h2⟩:=h;obtain⟨c0,c1,c2,c3⟩:=h1.cells;rcases Asv h2 hk with⟨hx,e⟩|⟨rfl,rfl,hr,e⟩
 ·rw[e];have hb:(x.toList==k.toList)=aL:=by rw[A1y];simpa using hx
  clear hx;go_enter Tryz.func40,Tryz.ntmps40;go_wp2_with fail;go_ret;exact⟨rfl,⟨x,r,b,h1,h2⟩,But.refl _ _⟩
 ·rw[e];have hb:(x.toList==x.toList)=U:=beq_self_eq_true _;go_enter Tryz.func40,Tryz.ntmps40;go_wp2_with(go_fit(So a w x r d h1 hr);rintro e w1 ⟨rfl,aa,ab⟩);go_ret;simp_all
theorem Wi (a)(s)(d)(w)(h:Rd w a s d):
  aN aB 39 #[aF (I ⟨a,0,H⟩)] w fun e w'=>e=aE (bA #[])∧Rd w' a H d∧But a w w':=by
 obtain⟨x,r,b,h1,h2⟩:=h;exact(R4 a w x r d b h1).mono fun e w' ⟨he,hr,hb⟩=>⟨he,⟨_,_,_,hr,.wrong⟩,hb⟩
theorem Pj {a}{w w'}(h:But a w w'){b o}{v}(hc:w.cell? ⟨b,o,H⟩=I v)(hn:b≠a):w'.cell? ⟨b,o,H⟩=I v:=by
 have aa:b<w.heap.size:=by
  rcases Nat.lt_or_ge b w.heap.size with h|h
  ·omega
  ·have:=Array.getElem?_eq_none h;simp[bM,this]at hc
 rw[cF (h.block b aa hn)];omega
theorem Awl (a b ad cap:Nat)(ks:List Wd)(s:St)(d:Int)(w:aW)(h:Rd w a s d)(ae:∀k∈ks,0<k.size)(ag:b≠a)(hc:∀i k,ks[i]?=I k→w.cell? ⟨b,ad+i,H⟩=I (O k))(hl:ks.length≤1000):
  aN aB 27 #[aF (I ⟨a,0,H⟩),C (I ⟨b,ad,H⟩) ks.length cap] w fun e w'=>e=aE (bA #[])∧Rd w' a (Um ks s) d∧But a w w':=by
 have HC:Hid _:=hc;have HK:Hid _:=ae;clear hc ae;generalize hn:ks.length=n at*;have HN:Hid _:=hn;clear hn;go_enter Tryz.func27,Tryz.ntmps27;go_wp2_with fail
 go_loopw[5,8] (fun _ i wr=>∃k:Nat,k≤n∧i=J M k∧Rd wr a (Um (ks.take k) s) d∧But a w wr) (fun _ i _=>n-(cE i).toNat)
 case atStart=>exact⟨0,aZ _,rfl,h,But.refl _ _⟩
 case round=>
  obtain⟨k,hk,rfl,aa,ab⟩:=hrel
  by_cases ah:k<n
  ·obtain⟨x,hx⟩:∃x,ks[k]?=I x:=⟨_,aA (by rw[HN.out];exact ah)⟩;have hc:=Pj ab (HC.out k x hx) ag;have ai:=HK.out x (aP hx);have HW:Hid (Um (ks.take (k+1)) s=Ce x (Um (ks.take k) s)):=by
    show _=_;rw[bK,hx];simp[Um]
   clear hx;generalize Um _ s=t at aa HW;have SK:=C6 a x t d wr aa ai;have aj:Ce x t=if(Ag x t).1 then(Ag x t).2 else H:=rfl;rw[aj]at HW;generalize Ag x t=q at SK HW;obtain⟨q1,q2⟩:=q;have j0:(0:Int)≤k:=by omega
   have j1:k<(n:Int):=by omega
   cases q1
   ·go_wp2_with(first
     |(go_fit SK;rintro e w1 ⟨rfl,af,ac⟩;have FA:=Wi a _ d w1 af)
     |(go_fit FA;rintro e w2 ⟨rfl,am,ak⟩))
    go_roundw
    case rel=>exact⟨k+1,by omega,by rfl,by rw[HW.out];grind,(ab.trans ac).trans ak⟩
    case measure=>simp[cE];omega
   ·go_wp2_with(first
     |(go_fit SK;rintro e w1 ⟨rfl,af,ac⟩))
    go_roundw
    case rel=>exact⟨k+1,by omega,by rfl,by rw[HW.out];grind,ab.trans ac⟩
    case measure=>simp[cE];omega
  ·have al:k=n:=by omega
   subst al;have e1:ks.take k=ks:=by rw[←HN.out,cO]
   rw[e1]at aa;go_wp2_with fail
   go_end0
   grind
theorem Azn (a b cap)(k:Wd)(s)(d)(w)(h:Rd w a s d)(hk:0<k.size)(aa:b≠a)(hc:w.cell? ⟨b,0,H⟩=I (O k)):
  aN aB 27 #[aF (I ⟨a,0,H⟩),C (I ⟨b,0,H⟩) 1 cap] w fun e w'=>e=aE (bA #[])∧Rd w' a (Ce k s) d∧But a w w':=
 Awl a b 0 cap [k] s d w h (by grind) aa (fun i x hx=>by grind) (by simp)
theorem Wj {x r}{b}{s}(h:Reads x r b s)(f):Gh f s=fst f x:=by
 cases h<;>rfl
theorem Np {f}{x}(h:1≤x.size):fst f x=f x[0]:=by
 unfold fst;rw[J3 x h]
theorem Amt (a)(s)(d)(w)(h:Rd w a s d):
  aN aB 358 #[aF (I ⟨a,0,H⟩),.func (.func 67) #[] #[]] w fun e w'=>e=aE (.bool (Gh Bn s))∧w'=w:=by
 obtain⟨x,r,b,h1,h2⟩:=h;obtain⟨c0,c1,c2,c3⟩:=h1.cells;rw[Wj h2]
 by_cases hx:x.size=0
 ·have he:x.toList.isEmpty=U:=by rw[Pi hx];rw[aO];rfl
  have hf:fst Bn x=aL:=by rw[Pi hx];rfl
  rw[hf];clear hf hx;go_enter bJ,bH;go_wp2_with fail;go_ret;simp
 ·have aa:1≤x.size:=by omega
  have he:x.toList.isEmpty=aL:=by rw[aO,J3 x aa];rfl
  have D:=fun W=>S9 (x[0].toNat:Int) W
  simp only[Sy]at D;rw[Np aa];generalize Bn _=v at D⊢;clear hx;go_enter bJ,bH;go_wp2_with(go_fit(D _);rintro e w' ⟨rfl,rfl⟩);go_ret;exact⟨rfl,rfl⟩
theorem Amu (a)(s)(d)(w)(h:Rd w a s d):
  aN aB 358 #[aF (I ⟨a,0,H⟩),.func (.func 359) #[] #[]] w fun e w'=>e=aE (.bool (Gh Dr s))∧w'=w:=by
 obtain⟨x,r,b,h1,h2⟩:=h;obtain⟨c0,c1,c2,c3⟩:=h1.cells;rw[Wj h2]
 by_cases hx:x.size=0
 ·have he:x.toList.isEmpty=U:=by rw[Pi hx];rw[aO];rfl
  have hf:fst Dr x=aL:=by rw[Pi hx];rfl
  rw[hf];clear hf hx;go_enter bJ,bH;go_wp2_with fail;go_ret;simp
 ·have aa:1≤x.size:=by omega
  have he:x.toList.isEmpty=aL:=by rw[aO,J3 x aa];rfl
  have D:=fun W=>Anz (x[0].toNat:Int) W
  rw[Np aa];have hq:((x[0].toNat:Int)==39)=Dr x[0]:=by
   unfold Dr;rw[cW,beq_iff_eq,beq_iff_eq,←bB];simp;omega
  simp only[hq]at D;clear hq;generalize Dr _=v at D⊢;clear hx;go_enter bJ,bH;go_wp2_with(go_fit(D _);rintro e w' ⟨rfl,rfl⟩);go_ret;exact⟨rfl,rfl⟩
theorem Wk {x r}{b}{s}(h:Reads x r b s):x.size≤1500:=by
 cases h with
 |wrong=>decide
 |over=>decide
 |word _ h1 _=>omega
theorem Gm (a:Nat)(s:St)(d:Int)(w:aW)(h:Rd w a s d):
  aN aB 73 #[aF (I ⟨a,0,H⟩)] w fun e w'=>e=aE (O (Bm s).1)∧Rd w' a (Bm s).2 d∧But a w w':=by
 obtain⟨x,r,b,h1,h2⟩:=h;obtain⟨c0,c1,c2,c3⟩:=h1.cells;have ac:=Wk h2;have NM:=K5 x w (by unfold bN;omega);cases hn:nm x
 ·have e:Bm s=(noW,H):=by cases h2<;>simp[Bm,hn]
  rw[e];rw[hn]at NM;have FA:=R4 a w x r d b h1;go_enter Tryz.func73,Tryz.ntmps73;go_wp2_with(first
   |(go_fit NM;rintro e w' ⟨rfl,rfl⟩)
   |(go_fit FA;rintro e w2 ⟨rfl,aa,ab⟩))
  go_ret;exact⟨rfl,⟨_,_,_,aa,.wrong⟩,ab⟩
 ·obtain⟨rfl,rfl,_,hr⟩:=h2.at (Adn hn);have e:=Vk (r:=Ie r.data.toList) hn;rw[e];rw[hn]at NM;clear e;have NX:=So a w x r d h1 hr;go_enter Tryz.func73,Tryz.ntmps73;go_wp2_with(first
   |(go_fit NM;rintro e w' ⟨rfl,rfl⟩)
   |(go_fit NX;rintro e w2 ⟨rfl,aa,ab⟩))
  go_ret;simp_all
structure Env (w:aW):Prop where
 mx:∃m,w.cell? ⟨2,0,H⟩=I (J M m)
 es:∃t p,w.cell? ⟨3,0,H⟩=I (.iface t p)
 er:∃t p,w.cell? ⟨4,0,H⟩=I (.iface t p)
 tab:True
 low:8≤w.heap.size
theorem Env.below {B}{w w'}(h:Env w)(hb:Below B w w')(hB:8≤B):Env w':=by
 obtain⟨⟨m,h1⟩,⟨t2,p2,h2⟩,⟨t3,p3,h3⟩,h4,h5⟩:=h;refine⟨⟨m,?_⟩,⟨t2,p2,?_⟩,⟨t3,p3,?_⟩,?_,aG h5 hb.size⟩
 ·exact(hb.cell (show 2<B by omega)).trans h1
 ·exact(hb.cell (show 3<B by omega)).trans h2
 ·exact(hb.cell (show 4<B by omega)).trans h3
 simp
theorem Env.next {w w'}(h:Env w)(hb:Below w.heap.size w w'):Env w':=h.below hb h.low
theorem Env.but {a}{w w'}(h:Env w)(hb:But a w w')(ha:8≤a):Env w':=h.below (hb.below (B:=8) ha h.low) (aD _)
theorem Za:∀(l:List UInt8) (acc:Nat),l.all Bn=U→acc<18446744073709551616→(∃u,bD acc l=.ok u∧u=l.foldl (fun n c=>10*n+(c.toNat-48)) acc)∨(bD acc l=.range∧18446744073709551616≤l.foldl (fun n c=>10*n+(c.toNat-48)) acc)
 |[],acc,_,_=>.inl ⟨acc,rfl,rfl⟩
 |c::l,acc,h,ha=>by
  simp only[List.all_cons,aQ]at h;have hc:=by have:=h.1;simpa[Bn]using this
  have ge:∀(l:List UInt8) (x),x≤l.foldl (fun n c=>10*n+(c.toNat-48)) x:=by
   intro l
   induction l with
   |nil=>simp
   |cons c l ih=>grind
  unfold bD;rw[if_pos hc,bV];split
  ·grind
  ·split
   ·grind
   ·rename_i h1 h2;rw[show 10*acc+(c.toNat-48)=acc*10+(c.toNat-48)from by omega];exact Za l _ h.2 (by omega)
theorem Aa7 {x:Wd}(h:x.data.toList.all Bn=U)(h0:0<x.size):(bW x.data.toList=.ok (Ip x.data.toList:Int)∧Ip x.data.toList<9223372036854775808)∨(bW x.data.toList=.range∧9223372036854775808≤Ip x.data.toList):=by
 have hf:=J3 x h0;have hd:Bn x[0]=U:=by rw[hf]at h;simp at h;exact h.1
 have ab:48≤x[0].toNat∧x[0].toNat≤57:=by simpa[Bn]using hd
 have e1:=cS x[0] (x.data.toList.drop 1) (by omega) (by omega);rw[←hf]at e1;rw[e1];have aa:x.data.toList≠[]:=by rw[hf];simp
 rw[Lib.parseMag,if_neg aa];rcases Za x.data.toList 0 h (by omega)with⟨u,h1,h2⟩|⟨h1,h2⟩
 ·rw[h1];have e2:u=Ip _:=h2;rw[←e2];simp only[Lib.signless];grind
 ·rw[h1];exact .inr ⟨rfl,by have:Ip x.data.toList=_:=rfl;unfold Ip;omega⟩
theorem Asw {x}(h:IsTok x∨x.size=0)(hd:fst Bn x=aL):bW x.data.toList=bW []:=by
 rcases h with h|h
 ·have h0:=h.pos;have hf:=J3 x h.pos;have aa:Bn x[0]=aL:=by rw[Np h.pos]at hd;exact hd
  by_cases hs:x[0].toNat=43∨x[0].toNat=45
  ·have hl:fst Cc x=aL:=by rw[Np h.pos];simp only[Cc,cH,decide_eq_false_iff_not];omega
   have hq:fst Dr x=aL:=by
    rw[Np h.pos];cases hq:Dr x[0]
    ·rfl
    ·simp only[Dr,beq_iff_eq]at hq;simp_all
   have h1:=h.one hd hl hq;have e:x.data.toList.drop 1=[]:=by
    apply List.eq_nil_of_length_eq_zero;rw[cQ,Dm];omega
   rw[hf,e];rcases hs with hs|hs
   ·have:x[0]=43:=by rw[←bB];exact hs
    rw[this];rfl
   ·have:x[0]=45:=by rw[←bB];exact hs
    rw[this];rfl
  ·rw[hf,cS _ _ (fun e=>hs (.inl e)) (fun e=>hs (.inr e)),Lib.parseMag,if_neg (by simp),bD,if_neg]
   ·rfl
   ·intro c;simp only[Bn,cH,decide_eq_false_iff_not]at aa;omega
 ·rw[Pi h]
theorem A1z (x)(w)(h:IsTok x)(hd:fst Bn x=U)(hn:Ip x.data.toList<9223372036854775808)(hs:x.size≤1500):
  aN aB 142 #[.string x] w fun e w'=>e=.returned (.tuple #[.int .i64 (Ip x.data.toList:Nat),.nilIface])∧Below w.heap.size w w':=by
 rcases Aa7 (h.dig hd) h.pos with⟨h6,h7⟩|⟨h6,h7⟩
 ·refine(Any.strconv_Atoi_ok Tryz.laysC172 x (by omega) _ h6 w).mono fun e w' hx=>?_
  obtain⟨h4,h5⟩:=hx;refine⟨h4,?_⟩;rcases h5 with rfl|⟨t,rfl⟩
  ·exact aC _ _
  ·exact Lib.bytesWorld_below _ _ _
 ·omega
theorem Azo (x:Wd)(w:aW)(he:Env w)(h:IsTok x∨x.size=0)(hb:fst Bn x=aL∨9223372036854775808≤Ip x.data.toList)(hs:x.size≤1500):
  aN aB 142 #[O x] w fun e w'=>∃n t p,e=aE (bA #[J M n,.iface t p])∧Below w.heap.size w w':=by
 obtain⟨t2,p2,h2⟩:=he.es;obtain⟨t3,p3,h3⟩:=he.er;cases hd:fst Bn x
 ·refine(Any.strconv_Atoi_syntax Tryz.laysC172 x (by omega) (Asw h hd) _ w h2 (.inr ⟨t2,p2,rfl⟩)).mono fun e w' hx=>?_
  obtain⟨N,h4,_,_,h5⟩:=hx;exact⟨_,_,_,h4,h5⟩
 ·have h0:=Rg hd;have ht:IsTok x:=by rcases h with h|h;exact h;omega
  rcases Aa7 (ht.dig hd) h0 with⟨h6,h7⟩|⟨h6,h7⟩
  ·rcases hb with hb|hb
   ·rw[hd]at hb;cases hb
   ·omega
  ·refine(Any.strconv_Atoi_range Tryz.laysC172 x (by omega) h6 _ w h3 (.inr ⟨t3,p3,rfl⟩)).mono fun e w' hx=>?_
   grind
theorem Asx {x}(h):fst (fun c=>c==48) x=((x[0].toNat:Int)==48):=by
 rw[Np h,cW,beq_iff_eq,beq_iff_eq,←bB];grind
theorem Apb {x}(h:IsTok x)(hd:fst Bn x=U):Kn x=if(x.size=1∨((x[0]'h.pos).toNat:Int)≠48)∧Ip x.data.toList≤1000000 then I (Ip x.data.toList:Int)else H:=by
 have h1:decide (1≤x.size)=U:=decide_eq_true h.pos;rw[Kn,h1,h.dig hd,Asx h.pos];simp
theorem Wl (a)(s)(d)(w)(h:Rd w a s d)(he:Env w):
  aN aB 82 #[aF (I ⟨a,0,H⟩)] w fun e w'=>e=aE (J M (Cy s).1)∧Rd w' a (Cy s).2 d∧But a w w':=by
 obtain⟨x,r,b,h1,h2⟩:=h;obtain⟨c0,c1,c2,c3⟩:=h1.cells;have ah:=Wk h2;have ai:IsTok x∨x.size=0:=by cases h2 with|wrong=>exact .inr rfl|over=>exact .inr rfl|word h _ _=>grind
 have FA:=fun W hb=>R4 a W x r d b (h1.below hb)
 by_cases ad:fst Bn x=aL∨9223372036854775808≤Ip x.data.toList
 ·have AT:=Azo x w he ai ad ah;have hn:Kn x=H:=by
   rw[Kn];rcases ad with hb|hb
   ·cases hx:Kn x with
    |none=>assumption
    |some n=>rw[X4 hx]at hb;grind
   ·grind
  have e:Cy s=(0,H):=by cases h2<;>simp[Cy,hn]
  rw[e];clear e ad hn;go_enter bF,bC;go_wp2_with(first
   |(go_fit AT;rintro e w1 ⟨n,t,p,rfl,aa⟩;have ae:=FA w1 aa)
   |(go_fit ae;rintro e w2 ⟨rfl,ab,ac⟩))
  go_ret;exact⟨rfl,⟨_,_,_,ab,.wrong⟩,(But.of_below aa).trans ac⟩
 ·have hd:fst Bn x=U:=by cases hx:fst Bn x;exact absurd (.inl hx) ad;rfl
  have af:Ip x.data.toList<9223372036854775808:=by
   rcases Nat.lt_or_ge (Ip x.data.toList) 9223372036854775808 with h|h
   ·omega
   ·omega
  have ht:IsTok x:=by rcases ai with h|h;exact h;have:=Rg hd;omega
  have h0:=ht.pos;obtain⟨rfl,rfl,_,hr⟩:=h2.at h0;have AT:=A1z x w ht hd af ah;have hw:=Apb ht hd;have NX:=fun W hb=>So a W x r d (h1.below hb) hr
  generalize Ip _=n at AT hw af;have q0:(0:Int)<x.size:=by omega
  clear ad af
  by_cases hz:x.size=1∨(x[0].toNat:Int)≠48
  ·by_cases hm:n≤1000000
   ·rw[if_pos ⟨hz,hm⟩]at hw;rw[Vl hw];clear hw;have g1:¬(1000000<(n:Int)):=by omega
    rcases hz with hz|hz
    ·have g2:¬((1:Int)<x.size):=by omega
     go_enter bF,bC;go_wp2_with(first
      |(go_fit AT;rintro e w1 ⟨rfl,aa⟩;have ag:=NX w1 aa)
      |(go_fit ag;rintro e w2 ⟨rfl,ab,ac⟩))
     go_ret;exact⟨rfl,ab,(But.of_below aa).trans ac⟩
    ·have g3:=beq_eq_false_iff_ne.2 hz;clear hz
     by_cases g2:(1:Int)<x.size
     all_goals
      go_enter bF,bC;go_wp2_with(first
       |(go_fit AT;rintro e w1 ⟨rfl,aa⟩;have ag:=NX w1 aa)
       |(go_fit ag;rintro e w2 ⟨rfl,ab,ac⟩))
      go_ret;exact⟨rfl,ab,(But.of_below aa).trans ac⟩
   ·rw[if_neg (fun c=>hm c.2)]at hw;have e:Cy (I (x::Ie r.data.toList))=(0,H):=by simp[Cy,hw]
    rw[e];clear e hw;have g1:1000000<(n:Int):=by omega
    by_cases g2:(1:Int)<x.size<;>cases g3:((x[0].toNat:Int)==48)
    all_goals
     go_enter bF,bC;go_wp2_with(first
      |(go_fit AT;rintro e w1 ⟨rfl,aa⟩;have ae:=FA w1 aa)
      |(go_fit ae;rintro e w2 ⟨rfl,ab,ac⟩))
     go_ret;exact⟨rfl,⟨_,_,_,ab,.wrong⟩,(But.of_below aa).trans ac⟩
  ·rw[if_neg (fun c=>hz c.1)]at hw;have e:Cy (I (x::Ie r.data.toList))=(0,H):=by simp[Cy,hw]
   rw[e];clear e hw;have g2:(1:Int)<x.size:=by
    have:x.size≠1:=fun e=>hz (.inl e)
    omega
   have g3:((x[0].toNat:Int)==48)=U:=by
    rw[beq_iff_eq];cases hx:((x[0].toNat:Int)==48)
    ·omega
    ·omega
   clear hz;go_enter bF,bC;go_wp2_with(first
    |(go_fit AT;rintro e w1 ⟨rfl,aa⟩;have ae:=FA w1 aa)
    |(go_fit ae;rintro e w2 ⟨rfl,ab,ac⟩))
   go_ret;exact⟨rfl,⟨_,_,_,ab,.wrong⟩,(But.of_below aa).trans ac⟩
theorem But.keeps {a}{F}{w w'}(h:But a w w')(hF:¬F a):Keeps F w w':=⟨h.size,fun k h1 h2=>h.block k h2 (by grind)⟩
theorem Z0 (k n:Int)(s:Wd)(w:aW):aN aB 357 #[aU #[J M k,J M n,O s]] w fun e w'=>e=aE (aU (Af 1 ⟨k,n,s⟩ noW noW 0 (C H 0 0)))∧Below w.heap.size w w':=by
 go_enter Tryz.func357,Tryz.ntmps357;go_wp2;exact aH (v:=aU #[J M 1,J M k,J M n,O s,O noW,O noW,J M 0,C H 0 0]) (by simp[cM,Tryz.results357,go_sem]) rfl ⟨rfl,((aC _ _).alloc (aD _) _).alloc (by simp) _⟩
theorem Wm (op)(ao)(n c)(w):aN aB 217 #[J M op,C ao n c] w fun e w'=>e=aE (aU (Af op zero noW noW 0 (C ao n c)))∧Below w.heap.size w w':=by
 go_enter Tryz.func217,Tryz.ntmps217;go_wp2;exact aH (v:=aU #[J _ op,J _ 0,J _ 0,O noW,O noW,O noW,J _ 0,C ao n c]) (by simp[cM,go_sem]) rfl ⟨rfl,(aC _ _).alloc (aD _) _⟩
theorem Aw {w:aW}{b}{arr}{t}(h:w.heap[b]?=I (Z arr t))(o):w.frozen? ⟨b,o,H⟩=aL:=by
 simp[aX,h]
theorem But.new {a}{w w'}(h:But a w w'){b}(hb:w.heap.size≤b)(o)(u):But a w (w'.setCell ⟨b,o,H⟩ u):=
 ⟨h.os,h.tape,h.output,by simp[World.setCell];exact h.size,fun k hk hn=>(aS w' ⟨b,o,H⟩ u k (show k≠b by omega)).trans (h.block k hk hn)⟩
theorem Rd.other {w}{a}{s}{d}(h:Rd w a s d){b}(hb:b≠a)(o)(u):Rd (w.setCell ⟨b,o,H⟩ u) a s d:=by
 obtain⟨x,r,v,h1,h2⟩:=h;exact⟨x,r,v,(aS w _ u a (fun e=>hb e.symm)).trans h1,h2⟩
theorem Jw {a}{w w'}(h:But a w w'){b}{x}(hx:w.heap[b]?=I x)(hn:b≠a):w'.heap[b]?=I x:=(h.block b (Y hx) hn).trans hx
theorem Rd.drew {w}{a}{s}{d}(h:Rd w a s d):Rd w.drew a s d:=h
theorem Sq (a b cap:Nat)(aa:List (Wd×Int))(s:St)(d:Int)(w:aW)(h:Rd w a s d)(ag:∀o∈aa,0<o.1.size)(ah:b≠a)(hc:∀i o,aa[i]?=I o→w.cell? ⟨b,i*2,H⟩=I (O o.1)∧w.cell? ⟨b,i*2+1,H⟩=I (J M o.2))(hl:aa.length≤1000):
  aN aB 216 #[aF (I ⟨a,0,H⟩),C (I ⟨b,0,H⟩) aa.length cap] w fun e w'=>e=aE (J M (Ap aa s).1)∧Rd w' a (Ap aa s).2 d∧But a w w':=by
 have HC:Hid _:=hc;have HK:Hid _:=ag;clear hc ag;generalize hn:aa.length=n at*;have HN:Hid _:=hn;clear hn;go_enter Tryz.func216,Tryz.ntmps216;go_wp2_with fail
 go_loopw[6,9] (fun _ i wr=>∃k:Nat,k≤n∧i=J M k∧Rd wr a s d∧Hid (Ap (aa.drop k) s=Ap aa s)∧But a w wr) (fun _ i _=>n-(cE i).toNat)
 case atStart=>exact⟨0,aZ _,rfl,h,rfl,But.refl _ _⟩
 case round=>
  obtain⟨k,hk,rfl,ai,HE,ab⟩:=hrel
  by_cases ak:k<n
  ·obtain⟨o,ho⟩:∃o,aa[k]?=I o:=⟨_,aA (by rw[HN.out];exact ak)⟩;obtain⟨x,y⟩:=o;have al:=Pj ab (HC.out k _ ho).1 ah;have am:=Pj ab (HC.out k _ ho).2 ah;have aj:=HK.out _ (aP ho);simp only at al am aj;have ac:Hid (Ap aa s=if(Ag x s).1 then(y,(Ag x s).2)else Ap (aa.drop (k+1)) s):=by
    rw[←HE.out];obtain⟨an,ap⟩:=bZ.1 ho;rw[List.drop_eq_getElem_cons an,ap];rfl
   clear ho;have j0:(0:Int)≤k:=by omega
   have j1:k<(n:Int):=by omega
   have ae:Below _ wr (wr.alloc (Z #[O x,J M y] 190)):=(aC _ _).alloc (aD _) _;have SK:=C6 a x s d _ (ai.below ae) aj;have aq:wr.heap.size≠a:=by have:=ai.lt;omega
   have cx:(wr.alloc (Z #[O x,J _ y] 190)).cell? ⟨_,1,H⟩=I (J M y):=Aa (Ab wr _) rfl;have HF:Hid ((Ag x s).1=aL→(Ag x s).2=s):=Bo;generalize Ag x s=q at SK ac HF;obtain⟨q1,q2⟩:=q;cases q1
   ·have e2:q2=s:=HF.out rfl;subst e2;go_wp2_with(go_fit SK;rintro e w1 ⟨rfl,af,ad⟩);go_roundw
    case rel=>exact⟨k+1,by omega,by rfl,af,by grind,(ab.trans (.of_below ae)).trans ad⟩
    case measure=>simp[cE];omega
   ·go_wp2_with(go_fit SK;rintro e w1 ⟨rfl,af,ad⟩;have cy:=Pj ad cx aq);go_ret;rw[ac.out];exact⟨rfl,af,(ab.trans (.of_below ae)).trans ad⟩
  ·have ar:k=n:=by omega
   subst ar;have e1:aa.drop k=[]:=by rw[←HN.out,List.drop_length]
   have ac:Hid (Ap aa s=(0,s)):=by rw[←HE.out,e1];rfl
   go_wp2_with fail;go_ret;rw[ac.out];simp_all
theorem Aa8 {x}:x.extract 1 (x.size-1)=(Rv x).s:=by
 have:(x.extract 1 (x.size-1)).data.toList=(x.data.toList.drop 1).take (x.size-2):=by
  rw[bP,Nat.sub_sub]
 unfold Rv;rw[←Qi (x.extract 1 _),this];rfl
theorem Azp (a)(s)(d)(w)(h:Rd w a s d)(hq:Gh Dr s=U):
  aN aB 360 #[aF (I ⟨a,0,H⟩)] w fun e w'=>e=aE (aU #[J M (Oe s).1.k,J M (Oe s).1.n,O (Oe s).1.s])∧Rd w' a (Oe s).2 d∧But a w w':=by
 obtain⟨x,r,b,h1,h2⟩:=h;rw[Wj h2]at hq;obtain⟨rfl,rfl,ht,hr⟩:=h2.at (Rg hq);have ah:=ht.quo hq;have ai:=Wk h2;obtain⟨c0,c1,c2,c3⟩:=h1.cells;have ex:=Aa8 (x:=x);have e0:Oe (I (x::Ie _))=if good _ then(Rv x,adv (Ie r.data.toList))else(zero,H):=rfl;rw[e0];have ev:Rv x=⟨2,0,(Rv x).s⟩:=rfl;rw[←ex]at ev;rw[ev];clear ex ev e0;have i0:(1:Int)≤x.size-1:=by omega
 have i1:x.size-1≤(x.size:Int):=by omega
 have i2:((x.size:Int)-1).toNat=x.size-1:=by omega
 have k1:=fun o=>(h1.below ((aC _ _).alloc (aD _) o)).cells.1
 have k2:=fun o o'=>(h1.below (((aC _ _).alloc (aD _) o).alloc (by simp) o')).cells.1
 have hl:=h1.lt;have af:(x.extract 1 (x.size-1)).size≤bN:=by unfold bN;simp;omega
 have hy:Hid (Rv x=⟨2,0,x.extract 1 (x.size-1)⟩):=by show Rv x=_;rw[Aa8 (x:=x)];rfl
 generalize hW:((w.alloc (Z #[J M 0,J M 0,O ⟨#[]⟩] 59)).alloc (Z #[J M 2,J M 0,O (x.extract 1 (x.size-1))] 59)).drew=W;have HW:Hid _:=hW;have ad:Below w.heap.size w W:=by rw[←hW];exact(((aC _ _).alloc (aD _) _).alloc (by simp) _).drew
 have b0:W.heap[w.heap.size]?=I (Z #[J M 0,J M 0,O ⟨#[]⟩] 59):=by
  rw[←hW];exact Ad (Ab w _) _
 have b1:W.heap[w.heap.size+1]?=I (Z #[J M 2,J M 0,O (x.extract 1 (x.size-1))] 59):=by
  rw[←hW];have:=Ab (w.alloc (Z #[J M 0,J M 0,O ⟨#[]⟩] 59)) (Z #[J M 2,J M 0,O (x.extract 1 (x.size-1))] 59);rw[cN]at this;exact this
 clear hW;have p0:=Aa b1 (j:=0) rfl;have p1:=Aa b1 (j:=1) rfl;have p2:=Aa b1 (j:=2) rfl;have G:=Ml ⟨2,0,x.extract 1 _⟩ W af;simp only[V.val]at G;have G':aN _ 223 _ W fun e w'=>e=aE _∧Below _ W w':=
  G.mono fun e w' ⟨h,h'⟩=>⟨h,by rw[h'];exact(aC _ _).alloc (aD _) _⟩
 clear G;have aa:w.heap.size≠a:=by omega
 have ag:w.heap.size+1≠a:=by omega
 cases hg:good _
 ·rw[hg]at G';simp only[Bool.false_eq_true,if_false];go_enter Tryz.func360,Tryz.ntmps360;go_wp2_with fail
  go_region
  rw[HW.out];go_wp2_with(first
   |(go_fit G';rintro e w1 ⟨rfl,ab⟩;have b2:=(ab.block _ (Y b0)).trans b0)
   |(go_fit(R4 a w1 x r d aL (h1.below (Ac ad ab)));rintro e w2 ⟨rfl,ae,ac⟩;have b3:=Jw ac b2 aa;have q0:=Aa b3 (j:=0) rfl;have q1:=Aa b3 (j:=1) rfl;have q2:=Aa b3 (j:=2) rfl;have f0:=Aw b3 0;have f1:=Aw b3 1;have f2:=Aw b3 2))
  refine aH (v:=aU #[J _ 0,J _ 0,O noW]) (by simp[cM,go_sem,q0,q1,q2]) rfl ⟨rfl,?_,?_⟩
  ·exact(((Rd.other ⟨_,_,_,ae,.wrong⟩ aa _ _).other aa _ _).other aa _ _)
  ·exact((((But.of_below (Ac ad ab)).trans ac).new (aD _) _ _).new (aD _) _ _).new (aD _) _ _
 ·rw[hg]at G';simp only[if_true];go_enter Tryz.func360,Tryz.ntmps360;go_wp2_with fail
  go_region
  rw[HW.out];go_wp2_with(first
   |(go_fit G';rintro e w1 ⟨rfl,ab⟩;have b4:=(ab.block _ (Y b1)).trans b1)
   |(go_fit(So a w1 x r d (h1.below (Ac ad ab)) hr);rintro e w2 ⟨rfl,ae,ac⟩;have b3:=Jw ac ((ab.block _ (Y b0)).trans b0) aa;have q0:=Aa b3 (j:=0) rfl;have q1:=Aa b3 (j:=1) rfl;have q2:=Aa b3 (j:=2) rfl;have f0:=Aw b3 0;have f1:=Aw b3 1;have f2:=Aw b3 2;have b5:=Jw ac b4 ag;have r0:=Aa b5 (j:=0) rfl;have r1:=Aa b5 (j:=1) rfl;have r2:=Aa b5 (j:=2) rfl))
  refine aH (by simp[cM,go_sem,q0,q1,q2]) rfl ⟨rfl,?_,?_⟩
  ·exact(((ae.other aa _ _).other aa _ _).other aa _ _)
  ·exact((((But.of_below (Ac ad ab)).trans ac).new (aD _) _ _).new (aD _) _ _).new (aD _) _ _
end
end Go.Proofs.YtjapkoofjlmdgaaGreatDoor
