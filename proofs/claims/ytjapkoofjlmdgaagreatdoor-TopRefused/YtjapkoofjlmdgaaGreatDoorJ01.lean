/-
  26 texts of this proof in one,in build order:URefFA,URefFB,URefFC,URefFD,URefFE,Plain,XPlain,Mem,Row,XMem,Als,RTake,Shelf,GShelf,Compare,TMath,TKeepMath,TMem,TMath2,TGood,TLib,TFind,TGet,TConcat,TInsert,TParts.
-/
import Derived.Test.YtjapkoofjlmdgaaGreatDoorRows
import Derived.ProofKit
import Derived.JoinedCond
import Derived.WalkKit
import Derived.Lib.Bytealg
import Derived.Lib.IndexLaws
import Derived.WalkSpells
import Derived.Laws.AppendOwn
import Derived.Deep.RegionHeld3
import Derived.Shelf.SlGeneric
import Derived.Ground.Names2Prog
import Derived.Ground.Names8Prog
import Derived.Ground.SlsoProg
import Derived.Shelf.Slices.Clone
import Derived.Shelf.Slices.Cells
import Derived.Shelf.Spec.SearchS
import Derived.Shelf.Spec.SlicesInsert
import Derived.Shelf.Spec.SlicesInsertGrow
import Derived.Shelf.Spec.SlicesGrow
import Derived.Shelf.SlSorted.Search
import Derived.Test.YtjapkoofjlmdgaaGreatDoorProg
import Derived.Shelf.SlSortCmp.Whole1
import Derived.Shelf.SlSortCmp.WholeK
import Derived.Shelf.SlSortCmp.NoneTotal
import Derived.Ground.SlsfProg
import Derived.WalkLawsBesides
import Derived.Lib.Strings
import Derived.Lib.Walk
import Derived.Sort.Walk0
import Derived.Deep.QuietTactic
import Derived.BigQuiet
import Derived.Deep.DrawnRows
import Derived.Laws.AppendOwnNone
import Derived.Deep.Upon
import Derived.Lib.EndianMore
import Derived.Lib.ReflectliteSwap
set_option linter.unusedSimpArgs false
set_option linter.unusedVariables false
set_option maxRecDepth 100000
set_option maxHeartbeats 0
open Option renaming none→H,some→D
open Go.Value renaming agg→cH,bool→cQ,int→N,oneCell'→dD,ownBlock→fR,slice→I,string→Y,string→aB,tuple→fU
open Nat renaming add_zero→cD,eq_zero_or_pos→aK,le_refl→aA,le_trans→bV,lt_of_lt_of_le→aF,lt_trichotomy→fN,zero_add→bU,zero_le→aN
open List renaming append_assoc→dN,append_nil→aO,cons_append→fP,countP_cons→dQ,eq_nil_of_length_eq_zero→aI,filter_append→bI,find?_eq_none→eS,getD_eq_getElem?_getD→bO,getElem?_append_left→bW,getElem?_append_right→bN,getElem?_cons_succ→cY,getElem?_eq_getElem→aG,getElem?_eq_some_iff→aC,length_append→bH,length_cons→aM,length_map→bZ,length_nil→dU,map_append→aT,map_cons→cS,mem_append→bC,mem_append_left→eF,mem_cons→bY,mem_flatMap→fO,mem_map→dM,mem_of_getElem?→aL,of_mem_zip→fT,pairwise_cons→cK,take_add_one→bK,take_append_drop→dB,take_length→bF,take_of_length_le→dY
open Go.Proofs.Tryz renaming func203→dW,func240→dL,isAgg0→cG,isAgg257→dG,isAgg3→cB,isAgg4→bM,isAgg54→dA,isAgg9→cA,ntmps203→dV,ntmps240→dF,prog→aD,sizeOf0→cC,sizeOf257→dE,sizeOf3→bS,sizeOf4→bG,sizeOf54→cR,sizeOf9→bR,underlying0→bE,underlying20→fH,underlying216→eR,underlying257→cI,underlying3→aV,underlying304→eQ,underlying305→eP,underlying311→eO,underlying313→eN,underlying348→eM,underlying352→eL,underlying375→eK,underlying376→eJ,underlying4→aP,underlying42→cP,underlying5→fM,underlying54→aR,underlying9→aU,zeroValue0→bJ,zeroValue20→fL,zeroValue216→fG,zeroValue257→cO,zeroValue3→bB,zeroValue304→fF,zeroValue305→fE,zeroValue311→fD,zeroValue313→fC,zeroValue348→fB,zeroValue352→fA,zeroValue375→eZ,zeroValue376→eY,zeroValue4→aS,zeroValue5→fS,zeroValue54→cF,zeroValue9→bA
open Go.RowKit.Below renaming heap_setCell→eH,refl→aE
open Go.RowKit renaming Below→M
open Go.Ending renaming returned→aH,returned→fK
open Go renaming Calls→bL,Program→dX,Value→O,World→R,below_drewN→dK,bodyPost_ret→eW,grownCap→cW,grownCap_ge→fQ,grownCap_le_maxLen→dS,info_parts→eB,lt_of_block→bX,maxLen→aW,rounds_succ→dJ,wpAnyH→dR,wpList_append_own→cZ,wpList_append_own_none→eV,wp_at_succ→eA,wp_at_zero→dZ,yielded→eU
open Bool renaming false→aZ,true→J
open Go.Obj renaming cells→Z
open Go.World renaming cell?_of_block→eC,cell?_setCell_other→bQ,cell?_setCells_in→aQ,cell?_setCells_out→aJ,frozen?→cE,ownsRow_nil→eI,size_alloc→eX
open Go.IntKind renaming i64→U,wrap_i64→eG
open Go.Shelf renaming Ren→aX
open Go.Builtin renaming zeroCells→aY
open Go.Op renaming bytesLess→bD
open Go.Lib renaming below_setCells_w→bP,indexByte→cX,isSome_setCells→eT,strsOf→fJ
open Go.Addr renaming add_lit→bT
open Prod renaming fst→cJ
open Array renaming getElem?_eq_getElem→cL,size_append→cN
open Go.Region renaming Mode→dO,noSelect→fI,ready→dI,wanted→cM
open Go.Shelf.Ren renaming t→cT
open ByteArray renaming empty→cU
open Go.Proofs renaming intOf→cV
open Go.Value.slice renaming injEq→dC
open Go.Proofs.SlLaysF0 renaming n6→dH
open UInt8 renaming ofNat→dP
open Go.Proofs.Lays8 renaming n4→dT
open Go.Proofs.Any8 renaming slices_Grow_grow→eE,slices_Grow_room→eD
namespace Go.Proofs.YtjapkoofjlmdgaaGreatDoor
section
open Go.RowKit
theorem topRefused_laidOut:laidOutB aD=J:=by kernel_rfl
theorem A0j:mapsRowed aD=J:=by kernel_rfl
theorem A0k:(Rows.topRefusedRow.plainKeys==Tryz.prog.plainKeys)=J:=by kernel_rfl
theorem Axa:Tryz.prog.stopsHeard=J:=by kernel_rfl
theorem Axb:Tryz.prog.mayEnter=J:=by kernel_rfl
theorem Axc:(Rows.topRefusedRow.inPlace==Tryz.prog.inPlace 3)=J:=by kernel_rfl
theorem Aio:(Rows.topRefusedRow.unfollowed==Tryz.prog.unfollowed 3)=J:=by kernel_rfl
theorem Ana:(Rows.topRefusedRow.recurses==Tryz.prog.recurses 3)=J:=by kernel_rfl
theorem Axd:(Rows.topRefusedRow.named==Tryz.prog.varsNamed 3)=J:=by kernel_rfl
structure V where
 k:Int
 n:Int
 s:ByteArray
def V.val (v:V):O:=cH #[N U v.k,N U v.n,Y v.s]
def V.cells (v:V):List O:=[N U v.k,N U v.n,Y v.s]
def Qh (c:Int):Bool:=decide (32≤c)&&decide (c≤126)&&(c !=39)
def Lh (l:List UInt8):Bool:=l.all fun c=>Qh (c.toNat:Int)
def good (v:V):Bool:=
 if v.k=0 then decide (v.n=0)&&decide (v.s.size=0)
 else if v.k=1 then decide (-1000000≤v.n)&&decide (v.n≤1000000)&&decide (v.s.size=0)
 else if v.k=2 then decide (v.n=0)&&decide (v.s.size≤8)&&Lh v.s.data.toList
 else aZ
theorem Au {k}{a b}(h:a=b):fK (N k a)=aH (N k b):=by rw[h]
theorem Ah {a b}(h:a=b):fK (cQ a)=aH (cQ b):=by rw[h]
theorem Agg (s:ByteArray)(k)(h):s.data.toList.take (k+1)=s.data.toList.take k++[s[k]]:=by
 rw[List.take_succ_eq_append_getElem (by simpa using h)];rfl
theorem Axe (s:ByteArray)(k)(h:s.size≤k):s.data.toList.take k=s.data.toList:=
 dY (by simp_all)
theorem Aqt (l)(c):Lh (l++[c])=(Lh l&&Qh (c.toNat:Int)):=by
 simp[Lh]
theorem Ate (s:ByteArray)(k)(h:k<s.size)(hb:Qh (s[k].toNat:Int)=aZ):Lh s.data.toList=aZ:=by
 unfold Lh;rw[List.all_eq_false];refine⟨s[k],?_,by grind⟩;have:s[k]=s.data.toList[k]'(by simpa using h):=rfl;grind
def be4 (m:Nat):List UInt8:=[dP (m/16777216),dP (m/65536),dP (m/256),dP m]
def keyOf (v:V):List UInt8:=
 if v.k=0 then[1]else if v.k=1 then 2::be4 (v.n+1073741824).toNat else 3::(v.s.data.toList++[0])
def Eq (l:List UInt8):List O:=l.map fun b=>Value.int .u8 (b.toNat:Int)
theorem If (a b):Eq (a++b)=Eq a++Eq b:=by simp[Eq]
theorem A34 (m)(h0:0≤m)(h1:m<4294967296):
  Eq (be4 m.toNat)=[N .u8 (m/16777216),N .u8 (m/65536%256),N .u8 (m/256%256),N .u8 (m%256)]:=by
 simp only[Eq,be4,cS,List.map_nil,UInt8.toNat_ofNat',List.cons.injEq,Value.int.injEq,true_and,and_true];omega
theorem Et {v}(h:v.k=0):keyOf v=[1]:=by simp[keyOf,h]
theorem Fv {v}(h:v.k=1):keyOf v=2::be4 (v.n+1073741824).toNat:=by simp[keyOf,h]
theorem Hh {v}(h:v.k=2):keyOf v=3::(v.s.data.toList++[0]):=by simp[keyOf,h]
theorem Dm (s:ByteArray):s.data.toList.length=s.size:=by simp
def str (l:List UInt8):ByteArray:=⟨l.toArray⟩
theorem Br (l):(str l).data.toList=l:=by rfl
theorem Jx (l):(str l).size=l.length:=by rfl
theorem Qi (s):str s.data.toList=s:=by rfl
def Dv (L:List V):List UInt8:=L.flatMap keyOf
theorem Atf (L)(v):Dv (L++[v])=Dv L++keyOf v:=by simp[Dv]
theorem Ajr (v)(h:good v=J):(keyOf v).length≤10:=by
 by_cases h0:v.k=0
 ·rw[Et h0];simp
 by_cases h1:v.k=1
 ·rw[Fv h1];simp[be4]
 by_cases h2:v.k=2
 ·rw[Hh h2,aM,bH,Dm];simp[good,h2]at h;grind
 ·simp[good,h0,h1,h2]at h
theorem Apk (L)(h:∀v∈L,good v=J):(Dv L).length≤10*L.length:=by
 induction L with
 |nil=>simp[Dv]
 |cons v L ih=>
  have a:=Ajr v (h v (by simp));have b:=ih fun x hx=>h x (by grind)
  simp[Dv]at b⊢;omega
def Nr (w:R)(b off:Nat)(L:List V):Prop:=
 ∀i v,L[i]?=D v→w.cell? ⟨b,off+i*3,H⟩=D (N U v.k)∧w.cell? ⟨b,off+i*3+1,H⟩=D (N U v.n)∧w.cell? ⟨b,off+i*3+2,H⟩=D (Y v.s)
theorem Nr.below {w w'}{b off B}{L}(h:Nr w b off L)(hb:M B w w')(aa:b<B):Nr w' b off L:=by
 intro i v hi;obtain⟨h1,h2,h3⟩:=h i v hi;exact⟨(hb.cell aa).trans h1,(hb.cell aa).trans h2,(hb.cell aa).trans h3⟩
def zero:V:=⟨0,0,⟨#[]⟩⟩
def n4 (l:List UInt8):Int:=((l.getD 1 0).toNat:Int) *16777216+((l.getD 2 0).toNat:Int) *65536+((l.getD 3 0).toNat:Int) *256+((l.getD 4 0).toNat:Int)
def fv (l:List UInt8):V×Nat:=
 if l.getD 0 0=1 then(zero,1)
 else if l.getD 0 0=2 then(if l.length<5 then(zero,0)else(⟨1,n4 l-1073741824,⟨#[]⟩⟩,5))
 else if l.getD 0 0=3 then(if cX l 0<0 then(zero,0)else(⟨2,0,str ((l.drop 1).take ((cX l 0).toNat-1))⟩,(cX l 0).toNat+1))
 else(zero,0)
theorem Pt (s:ByteArray)(i)(h):s.data.toList.getD i 0=s[i]:=by
 have h':i<s.data.toList.length:=by simpa using h
 rw[bO,aG h'];rfl
def dec:Nat→List UInt8→Option (List V)
 |0,l=>if l=[]then D []else H
 |f+1,l=>if l=[]then D []else if(fv l).2=0∨good (fv l).1=aZ then H else(dec f (l.drop (fv l).2)).map ((fv l).1::·)
def vals (l:List UInt8):Option (List V):=dec l.length l
theorem Apl (f):dec f []=D []:=by cases f<;>simp[dec]
theorem Axf:∀(f:Nat) (l:List UInt8),l.length≤f→dec f l=dec l.length l:=by
 intro f
 induction f using Nat.strongRecOn with
 |ind f ih=>
  intro l hl
  match l,f with
  |[],f=>rw[Apl,Apl]
  |c::l,0=>grind
  |c::l,f+1=>
   simp only[aM]at hl⊢;simp only[dec];grind
theorem Ajs:vals []=D []:=rfl
theorem Abf {l}(hl:l≠[])(h:(fv l).2=0∨good (fv l).1=aZ):vals l=H:=by
 unfold vals
 match l,hl with
 |c::l,_=>simp only[aM,dec];grind
theorem Xh {l}(hl:l≠[])(h:(fv l).2≠0)(hg:good (fv l).1=J):vals l=(vals (l.drop (fv l).2)).map ((fv l).1::·):=by
 unfold vals
 match l,hl with
 |c::l,_=>
  simp only[aM,dec];rw[if_neg (by simp),if_neg (by grind),Axf _ _ (by grind)]
theorem A3l (l:List UInt8)(hl:l≠[]):(fv l).2≤l.length:=by
 have h1:1≤l.length:=by cases l<;>simp_all
 unfold fv;split
 ·omega
 ·split
  ·grind
  ·split
   ·split
    ·simp
    ·rename_i hi;obtain⟨i,aa⟩:∃i:Nat,cX l 0=i:=⟨(cX l 0).toNat,by omega⟩;have:=(aC.1 (Lib.indexByte_some aa).1).1;omega
   simp
theorem Anb (t:ByteArray)(z):(t.extract z t.size).data.toList=t.data.toList.drop z:=by
 rw[Lib.extract_data,dY];simp
theorem Aqu (l):(fv l).1.s.size≤l.length:=by
 unfold fv;split
 ·exact aN _
 ·split
  ·split<;>exact aN _
  ·split
   ·split
    ·exact aN _
    ·simp only[Jx];grind
   ·exact aN _
end
section
abbrev Wd:=ByteArray
inductive E where
 |mk (op:Int) (v:V) (s name:Wd) (n:Int) (l:List E):E
abbrev noW:Wd:=⟨#[]⟩
def E.nil:E:=.mk 0 zero noW noW 0 []
def Lv (v:V):E:=.mk 1 v noW noW 0 []
def Tk (s name:Wd):E:=.mk 2 zero s name 0 []
def Hi (op:Int)(l:List E):E:=.mk op zero noW noW 0 l
end
section
open Go.RowKit
theorem Aa {w:R}{b}{arr}{t}{fr}(h:w.heap[b]?=D (Z arr t fr)){j}{u}(hj:arr[j]?=D u):w.cell? ⟨b,j,H⟩=D u:=by
 simp[World.cell?,h,hj]
theorem Ack {w:R}{base}{e}{size}{v}{n}{xs}(aa:w.ownsRow base e size v n xs){b}{arr}{t}{fr}
  (hb:w.heap[b]?=D (Z arr t fr)) (ab:t≠e):D b≠v.ownBlock:=by
 intro hh;rcases aa.2 with⟨h2,_⟩|⟨g,cap,cur,hv,_,hg,_⟩
 ·rw[h2]at hh;simp[fR]at hh
 ·rw[hv]at hh;simp[fR]at hh;grind
theorem Ab (w:R)(o):(w.alloc o).heap[w.heap.size]?=D o:=by
 show(w.heap.push o)[w.heap.size]?=_;simp
theorem Ad {w:R}{b:Nat}{x}(h:w.heap[b]?=D x)(o):(w.alloc o).heap[b]?=D x:=by
 have:=bX h;rw[Below.heap_alloc _ _ _ this];omega
theorem Gq {w w':R}{row}(hg:w.grownBy w' row){b}{x}(h:w.heap[b]?=D x)(aa:D b≠row):w'.heap[b]?=D x:=by
 rw[hg.block b (bX h) aa];omega
theorem B8 (w:R)(l:List O)(t):∀j u,l[j]?=D u→(w.alloc (Z l.toArray t)).cell? ((⟨w.heap.size,0,H⟩:Addr).add j)=D u:=by
 intro j u hj;rw[bT];simp_all
theorem Gx {w w'}{base}{e}{size}{v}{n}{xs}(aa:w.ownsRow base e size v n xs)(hb:base≤w.heap.size)(hg:w.grownBy w' v.ownBlock):M base w w':=
 (aE _ _).grown hg hb fun k hk=>(aa.lt k hk).1
theorem E5 {W w1}(hb:M W.heap.size W w1):(∀b o,b<W.heap.size→w1.cell? ⟨b,o,H⟩=W.cell? ⟨b,o,H⟩)∧(∀b o,b<W.heap.size→w1.frozen? ⟨b,o,H⟩=W.frozen? ⟨b,o,H⟩):=
 ⟨fun b o h=>hb.cell (p:=⟨b,o,H⟩) h,fun b o h=>hb.frozen (p:=⟨b,o,H⟩) h⟩
theorem Aj {w w'}{base}{e}{size}{v}{n}{xs}(h:w.ownsRow base e size v n xs)(hb:M w.heap.size w w'):w'.ownsRow base e size v n xs:=by
 obtain⟨h1,h2⟩:=h;refine⟨h1,?_⟩;rcases h2 with h2|⟨g,cap,cur,hv,hg,hh,r⟩
 ·grind
 ·exact Or.inr ⟨g,cap,cur,hv,hg,by rw[hb.block g (bX hh)];omega,r⟩
theorem Ac {w a b}(h:M w.heap.size w a)(k:M a.heap.size a b):M w.heap.size w b:=h.trans (k.mono h.size)
def Eu (size:Nat)(w:R)(sv:O)(n:Nat)(cs:List O):Prop:=
 cs.length=n*size∧
 ((n=0∧∃ao cap,sv=I ao 0 cap∧(ao=H→cap=0))∨
 (0<n∧∃b off cap,sv=I (D ⟨b,off,H⟩) n cap∧b<w.heap.size∧n≤cap∧cap≤aW∧∀j u,cs[j]?=D u→w.cell? ⟨b,off+j,H⟩=D u))
theorem Eu.keep {size}{w w'}{B}{sv}{n}{cs}(h:Eu size w sv n cs)(hb:M B w w')(hB:w.heap.size≤B):Eu size w' sv n cs:=by
 obtain⟨h1,h2⟩:=h;refine⟨h1,?_⟩;rcases h2 with h2|⟨h0,b,off,cap,rfl,hlt,hc,hm,hcell⟩
 ·grind
 ·exact .inr ⟨h0,b,off,cap,rfl,aF hlt (hb.size),hc,hm,fun j u hj=>by rw[hb.cell (aF hlt hB)];grind⟩
theorem Eu.below {size}{w w'}{sv}{n}{cs}(h:Eu size w sv n cs)(hb:M w.heap.size w w'):Eu size w' sv n cs:=h.keep hb (aA _)
theorem Eu.shape {size}{w}{sv}{n}{cs}(h:Eu size w sv n cs):∃ao cap,sv=I ao n cap:=by
 rcases h.2 with⟨rfl,ao,cap,rfl,_⟩|⟨_,b,off,cap,rfl,_⟩
 ·simp
 simp
theorem Eu.nil (size)(w):Eu size w (I H 0 0) 0 []:=⟨by simp,.inl ⟨rfl,H,0,rfl,fun _=>rfl⟩⟩
theorem Eu.of_own {size}{w}{base}{e}{v}{n}{cs}(h:w.ownsRow base e size v n cs):Eu size w v n cs:=by
 refine⟨h.1,?_⟩;rcases h.2 with⟨rfl,rfl⟩|⟨g,cap,cur,rfl,hg,hh,hn,hm,_⟩
 ·grind
 ·rcases aK n with rfl|h0
  ·grind
  ·refine .inr ⟨h0,g,0,cap,rfl,bX hh,hn,hm,fun j u hj=>?_⟩;have:=h.cells (g:=g) rfl j u hj;rwa[bT]at this
def An (w:R)(sv:O)(L:List ByteArray):Prop:=Eu 1 w sv L.length (L.map Y)
theorem An.below {w w'}{sv}{L}(h:An w sv L)(hb:M w.heap.size w w'):An w' sv L:=Eu.below h hb
theorem An.keep {w w'}{B}{sv}{L}(h:An w sv L)(hb:M B w w')(hB:w.heap.size≤B):An w' sv L:=Eu.keep h hb hB
theorem An.at {w}{sv}{L}(h:An w sv L)(h0:0<L.length):∃b aa cap,sv=I (D ⟨b,aa,H⟩) L.length cap∧b<w.heap.size∧L.length≤cap∧cap≤aW∧∀i s,L[i]?=D s→w.cell? ⟨b,aa+i,H⟩=D (Y s):=by
 rcases h.2 with⟨h1,_⟩|⟨_,b,aa,cap,rfl,hb,hc,hm,hcell⟩
 ·omega
 grind
structure Keeps (F:Nat→Prop) (w w':R):Prop where
 size:w.heap.size≤w'.heap.size
 block:∀k,F k→k<w.heap.size→w'.heap[k]?=w.heap[k]?
theorem Keeps.refl (F)(w):Keeps F w w:=⟨aA _,fun _ _ _=>rfl⟩
theorem Keeps.trans {F}{u v w}(h:Keeps F u v)(k:Keeps F v w):Keeps F u w:=
 ⟨bV h.size k.size,fun i h1 h2=>(k.block i h1 (aF h2 h.size)).trans (h.block i h1 h2)⟩
theorem Ak {F}{w w'}(h:M w.heap.size w w'):Keeps F w w':=⟨h.size,fun k _ hk=>h.block k hk⟩
theorem Keeps.set {F}{w w'}(h:Keeps F w w'){b}(hb:¬F b)(o)(u):Keeps F w (w'.setCell ⟨b,o,H⟩ u):=
 ⟨by simp[World.setCell];exact h.size,fun k hk hl=>(eH w' ⟨b,o,H⟩ u k (show k≠b by grind)).trans (h.block k hk hl)⟩
theorem Keeps.alloc {F}{w w'}(h:Keeps F w w')(o):Keeps F w (w'.alloc o):=h.trans (Ak ((aE _ _).alloc (aA _) o))
theorem Keeps.drew {F}{w w'}(h:Keeps F w w'):Keeps F w w'.drew:=⟨h.size,h.block⟩
theorem Keeps.below {F}{w v v'}(h:Keeps F w v)(hb:M v.heap.size v v'):Keeps F w v':=h.trans (Ak hb)
theorem Keeps.mono {F F'}{w w'}(h:Keeps F w w')(hF:∀k,F' k→F k):Keeps F' w w':=⟨h.size,fun k hk=>h.block k (hF k hk)⟩
abbrev Fr (n:Nat):Nat→Prop:=fun k=>n≤k
def Bp (F:Nat→Prop)(size:Nat)(w:R)(sv:O)(n:Nat)(cs:List O):Prop:=
 cs.length=n*size∧
 ((n=0∧∃ao cap,sv=I ao 0 cap∧(ao=H→cap=0))∨
 (0<n∧∃b off cap,sv=I (D ⟨b,off,H⟩) n cap∧F b∧b<w.heap.size∧n≤cap∧cap≤aW∧∀j u,cs[j]?=D u→w.cell? ⟨b,off+j,H⟩=D u))
theorem Bp.keep {F}{size}{w w'}{sv}{n}{cs}(h:Bp F size w sv n cs)(hk:Keeps F w w'):Bp F size w' sv n cs:=by
 obtain⟨h1,h2⟩:=h;refine⟨h1,?_⟩;rcases h2 with h2|⟨h0,b,off,cap,rfl,hB,hlt,hc,hm,hcell⟩
 ·grind
 ·refine .inr ⟨h0,b,off,cap,rfl,hB,aF hlt hk.size,hc,hm,fun j u hj=>?_⟩;rw[eC (hk.block b hB hlt)];grind
theorem Bp.mono {F F'}{size}{w}{sv}{n}{cs}(h:Bp F size w sv n cs)(hB:∀k,k<w.heap.size→F k→F' k):Bp F' size w sv n cs:=by
 obtain⟨h1,h2⟩:=h;refine⟨h1,?_⟩;grind
theorem Bp.row {F}{size}{w}{sv}{n}{cs}(h:Bp F size w sv n cs):Eu size w sv n cs:=by
 obtain⟨h1,h2⟩:=h;refine⟨h1,?_⟩;grind
theorem Bp.shape {F}{size}{w}{sv}{n}{cs}(h:Bp F size w sv n cs):∃ao cap,sv=I ao n cap:=h.row.shape
theorem Bp.nil (F)(size)(w):Bp F size w (I H 0 0) 0 []:=⟨by simp,.inl ⟨rfl,H,0,rfl,fun _=>rfl⟩⟩
theorem Bp.of_own {F}{size}{w}{base}{e}{v}{n}{cs}(h:w.ownsRow base e size v n cs)(hB:∀k,base≤k→F k):Bp F size w v n cs:=by
 refine⟨h.1,?_⟩;rcases h.2 with⟨rfl,rfl⟩|⟨g,cap,cur,rfl,hg,hh,hn,hm,_⟩
 ·grind
 ·rcases aK n with rfl|h0
  ·grind
  ·refine .inr ⟨h0,g,0,cap,rfl,hB g hg,bX hh,hn,hm,fun j u hj=>?_⟩;have:=h.cells (g:=g) rfl j u hj;rwa[bT]at this
theorem Bp.new {F}{size n}{w:R}(l)(t)(hl:l.length=n*size)(hB:F w.heap.size)(hn:0<n)(hm:n≤aW):Bp F size (w.alloc (Z l.toArray t)) (I (D ⟨w.heap.size,0,H⟩) n n) n l:=
 ⟨hl,.inr ⟨hn,w.heap.size,0,n,rfl,hB,by simp,aA _,hm,fun j u hj=>by simp_all⟩⟩
abbrev Af (op:Int)(x:V)(s name:Wd)(n:Int)(sv:O):Array O:=#[N U op,N U x.k,N U x.n,Y x.s,Y s,Y name,N U n,sv]
mutual
def IsE (F:Nat→Prop)(w:R):E→O→Prop
 |.mk op x s name n l,v=>∃sv cs,v=cH (Af op x s name n sv)∧Bp F 8 w sv l.length cs∧Fw F w l cs
def Fw (F:Nat→Prop)(w:R):List E→List O→Prop
 |[],cs=>cs=[]
 |e::l,cs=>∃c rest,cs=c++rest∧c.length=8∧IsE F w e (cH c.toArray)∧Fw F w l rest
end
mutual
theorem IsE.keep {F:Nat→Prop}{w w':R}(hk:Keeps F w w'):∀(e:E) (v:O),IsE F w e v→IsE F w' e v
 |.mk op x s name n l,v,h=>by
  rw[IsE]at h⊢;obtain⟨sv,cs,h1,h2,h3⟩:=h;exact⟨sv,cs,h1,h2.keep hk,Fw.keep hk l cs h3⟩
theorem Fw.keep {F:Nat→Prop}{w w':R}(hk:Keeps F w w'):∀(l:List E) (cs:List O),Fw F w l cs→Fw F w' l cs
 |[],cs,h=>by assumption
 |e::l,cs,h=>by
  rw[Fw]at h⊢;obtain⟨c,rest,h1,h2,h3,h4⟩:=h;exact⟨c,rest,h1,h2,IsE.keep hk e _ h3,Fw.keep hk l rest h4⟩
end
mutual
theorem IsE.mono {F F':Nat→Prop}{w:R}(hk:∀k,k<w.heap.size→F k→F' k):∀(e:E) (v:O),IsE F w e v→IsE F' w e v
 |.mk op x s name n l,v,h=>by
  rw[IsE]at h⊢;obtain⟨sv,cs,h1,h2,h3⟩:=h;exact⟨sv,cs,h1,h2.mono hk,Fw.mono hk l cs h3⟩
theorem Fw.mono {F F':Nat→Prop}{w:R}(hk:∀k,k<w.heap.size→F k→F' k):∀(l:List E) (cs:List O),Fw F w l cs→Fw F' w l cs
 |[],cs,h=>by assumption
 |e::l,cs,h=>by
  rw[Fw]at h⊢;obtain⟨c,rest,h1,h2,h3,h4⟩:=h;exact⟨c,rest,h1,h2,IsE.mono hk e _ h3,Fw.mono hk l rest h4⟩
end
def Iz (F:Nat→Prop)(w:R)(sv:O)(l:List E):Prop:=∃cs,Bp F 8 w sv l.length cs∧Fw F w l cs
theorem Iz.keep {F}{w w'}{sv}{l}(h:Iz F w sv l)(hk:Keeps F w w'):Iz F w' sv l:=by
 obtain⟨cs,h1,h2⟩:=h;exact⟨cs,h1.keep hk,Fw.keep hk l cs h2⟩
theorem Iz.mono {F F'}{w}{sv}{l}(h:Iz F w sv l)(hk:∀k,k<w.heap.size→F k→F' k):Iz F' w sv l:=by
 obtain⟨cs,h1,h2⟩:=h;exact⟨cs,h1.mono hk,Fw.mono hk l cs h2⟩
theorem Iz.nil (F)(w):Iz F w (I H 0 0) []:=⟨[],Bp.nil F 8 w,by rfl⟩
theorem Iz.shape {F}{w}{sv}{l}(h:Iz F w sv l):∃ao cap,sv=I ao l.length cap:=by
 obtain⟨cs,h1,_⟩:=h;exact h1.shape
theorem Ns {F}{w}{op}{x}{s name}{n}{l}{sv}(h:Iz F w sv l):IsE F w (.mk op x s name n l) (cH (Af op x s name n sv)):=by
 obtain⟨cs,h1,h2⟩:=h;rw[IsE];grind
theorem IsE.open {F}{w}{op}{x}{s name}{n}{l}{v}(h:IsE F w (.mk op x s name n l) v):∃sv,v=cH (Af op x s name n sv)∧Iz F w sv l:=by
 rw[IsE]at h;obtain⟨sv,cs,h1,h2,h3⟩:=h;exact⟨sv,h1,cs,h2,h3⟩
theorem Zi (F)(w):IsE F w E.nil (cH (Af 0 zero noW noW 0 (I H 0 0))):=Ns (Iz.nil F w)
theorem Zj (F)(w)(v):IsE F w (Lv v) (cH (Af 1 v noW noW 0 (I H 0 0))):=Ns (Iz.nil F w)
theorem Apm (F)(w)(s name):IsE F w (Tk s name) (cH (Af 2 zero s name 0 (I H 0 0))):=Ns (Iz.nil F w)
theorem IsE.shape {F}{w}{e}{v}(h:IsE F w e v):∃op x s name n ao k c,v=cH (Af op x s name n (I ao k c)):=by
 cases e with
 |mk op x s name n l=>
  obtain⟨sv,h1,h2⟩:=h.open;obtain⟨ao,c,rfl⟩:=h2.shape;grind
theorem Z8 {F}{w}:∀{l m:List E}{cs ds:List O},Fw F w l cs→Fw F w m ds→Fw F w (l++m) (cs++ds)
 |[],m,cs,ds,h,k=>by rw[Fw]at h;grind
 |e::l,m,cs,ds,h,k=>by
  rw[Fw]at h;obtain⟨c,rest,rfl,h2,h3,h4⟩:=h;rw[fP,Fw];exact⟨c,_,by simp,h2,h3,Z8 h4 k⟩
theorem Abg {F}{w}{e}{c}(hc:c.length=8)(h:IsE F w e (cH c.toArray)):Fw F w [e] c:=by
 rw[Fw];exact⟨c,[],by simp,hc,h,by rfl⟩
theorem Abh {F}{w}{e}{op}{x}{s name}{n}{sv}(h:IsE F w e (cH (Af op x s name n sv)))(hB:F w.heap.size):
  Iz F (w.alloc (Z (Af op x s name n sv) 69)) (I (D ⟨w.heap.size,0,H⟩) 1 1) [e]:=by
 have hb:M _ w (w.alloc (Z (Af op x s name n sv) 69)):=(aE _ _).alloc (aA _) _;exact⟨_,Bp.new _ _ rfl hB (by simp) (by decide),Abg rfl (IsE.keep (Ak hb) e _ h)⟩
theorem Ajt {F}{w}{e e'}{op op'}{x x'}{s name s' name'}{n n'}{sv sv'}(h:IsE F w e (cH (Af op x s name n sv)))(h':IsE F w e' (cH (Af op' x' s' name' n' sv')))(hB:F w.heap.size):
  Iz F (w.alloc (Z (Af op x s name n sv++Af op' x' s' name' n' sv') 69)) (I (D ⟨w.heap.size,0,H⟩) 2 2) [e,e']:=by
 have hb:M _ w (w.alloc (Z (Af op x s name n sv++Af op' x' s' name' n' sv') 69)):=(aE _ _).alloc (aA _) _;refine⟨_,Bp.new (Af op x s name n sv++Af op' x' s' name' n' sv').toList _ rfl hB (by simp) (by decide),?_⟩;exact Z8 (Abg rfl (IsE.keep (Ak hb) e _ h)) (Abg rfl (IsE.keep (Ak hb) e' _ h'))
theorem Aju {F}{w}:∀{l:List E}{cs:List O}{k:Nat}{e:E},Fw F w l cs→l[k]?=D e→∃c:List O,c.length=8∧IsE F w e (cH c.toArray)∧∀j u,c[j]?=D u→cs[k*8+j]?=D u
 |e::l,cs,0,x,h,hk=>by
  rw[Fw]at h;grind
 |e::l,cs,k+1,x,h,hk=>by
  rw[Fw]at h;obtain⟨c,rest,rfl,h2,_,h4⟩:=h;simp only[cY]at hk;obtain⟨d,d1,d2,d3⟩:=Aju h4 hk;grind
 |[],_,_,_,_,hk=>by grind
theorem Ajv {F}{w}{b off n cap}{l}{cs}(hr:Bp F 8 w (I (D ⟨b,off,H⟩) n cap) l.length cs)(ha:Fw F w l cs){k}{e}(hk:l[k]?=D e):
  ∃xo xk xn aa xs xm xi xa xl xc,IsE F w e (cH #[N U xo,N U xk,N U xn,Y aa,Y xs,Y xm,N U xi,I xa xl xc])∧∀V,M w.heap.size w V→V.cell? ⟨b,off+k*8,H⟩=D (N U xo)∧V.cell? ⟨b,off+k*8+1,H⟩=D (N U xk)∧V.cell? ⟨b,off+k*8+2,H⟩=D (N U xn)∧V.cell? ⟨b,off+k*8+3,H⟩=D (Y aa)∧V.cell? ⟨b,off+k*8+4,H⟩=D (Y xs)∧V.cell? ⟨b,off+k*8+5,H⟩=D (Y xm)∧V.cell? ⟨b,off+k*8+6,H⟩=D (N U xi)∧V.cell? ⟨b,off+k*8+7,H⟩=D (I xa xl xc):=by
 obtain⟨c,c1,c2,c3⟩:=Aju ha hk;obtain⟨xo,⟨xk,xn,aa⟩,xs,xm,xi,xa,xl,xc,h⟩:=c2.shape;have hc:=by
  have:=congrArg Array.toList (Value.agg.inj h);simpa using this
 subst hc;refine⟨xo,xk,xn,aa,xs,xm,xi,xa,xl,xc,c2,fun V hV=>?_⟩;have h0:0<l.length:=by have:=(aC.1 hk).1;omega
 rcases hr.2 with⟨h1,_⟩|⟨_,b',o',c',he,_,hlt,_,_,hcell⟩
 ·omega
 ·cases he;have g:∀j u,([N _ xo,N _ xk,N _ xn,Y aa,Y xs,Y xm,N _ xi,I xa xl xc]:List O)[j]?=D u→V.cell? ⟨b,off+k*8+j,H⟩=D u:=fun j u hj=>by
   rw[Nat.add_assoc];exact(hV.cell hlt).trans (hcell _ u (c3 j u hj))
  exact⟨g 0 _ rfl,g 1 _ rfl,g 2 _ rfl,g 3 _ rfl,g 4 _ rfl,g 5 _ rfl,g 6 _ rfl,g 7 _ rfl⟩
theorem Dh {w:R}{g}{arr}{t}{fr}(h:w.heap[g]?=D (Z arr t fr))(j)(x):(w.setCell ⟨g,j,H⟩ x).heap[g]?=D (Z (arr.setIfInBounds j x) t fr):=by
 simp only[World.setCell,Array.getElem?_modify,if_true,h,Option.map_some];rfl
theorem set3 {w:R}{g}{a b c x y z}{t}{fr}(h:w.heap[g]?=D (Z #[a,b,c] t fr)):
  (((w.setCell ⟨g,0,H⟩ x).setCell ⟨g,1,H⟩ y).setCell ⟨g,2,H⟩ z).heap[g]?=D (Z #[x,y,z] t fr):=Dh (Dh (Dh h 0 x) 1 y) 2 z
theorem Ca (w:R)(o1 o2):((w.alloc o1).alloc o2).heap[w.heap.size+1]?=D o2:=by
 have:=Ab (w.alloc o1) o2;simp_all
theorem Fe (w:R)(o1 o2 o3):(((w.alloc o1).alloc o2).alloc o3).heap[w.heap.size+2]?=D o3:=by
 have:=Ab ((w.alloc o1).alloc o2) o3;simp_all
theorem Aq (w)(o1):M w.heap.size w (w.alloc o1):=(aE _ _).alloc (aA _) _
theorem Da (w)(o1 o2):M w.heap.size w ((w.alloc o1).alloc o2):=(Aq w o1).alloc (by simp) _
theorem Hx (w)(o1 o2 o3):M w.heap.size w (((w.alloc o1).alloc o2).alloc o3):=(Da w o1 o2).alloc (by simp;omega) _
theorem A1 {w:R}{b g}(h:b≠g)(o j)(x):(w.setCell ⟨g,j,H⟩ x).cell? ⟨b,o,H⟩=w.cell? ⟨b,o,H⟩:=eC (eH w ⟨g,j,H⟩ x b h)
theorem Jb {W w1}{g}(h:M W.heap.size W w1)(hg:g+3≤W.heap.size):
  g+3≤w1.heap.size∧(∀o,w1.cell? ⟨g,o,H⟩=W.cell? ⟨g,o,H⟩)∧(∀o,w1.cell? ⟨g+1,o,H⟩=W.cell? ⟨g+1,o,H⟩)∧(∀o,w1.cell? ⟨g+2,o,H⟩=W.cell? ⟨g+2,o,H⟩)∧(∀o,w1.frozen? ⟨g+2,o,H⟩=W.frozen? ⟨g+2,o,H⟩):=
 ⟨bV hg h.size,fun o=>h.cell (p:=⟨g,o,H⟩) (by grind),fun o=>h.cell (p:=⟨g+1,o,H⟩) (by grind),fun o=>h.cell (p:=⟨g+2,o,H⟩) (by grind),fun o=>h.frozen (p:=⟨g+2,o,H⟩) (by grind)⟩
theorem Atg {W w1}{g b}(h:M W.heap.size W w1)(hg:g+2≤W.heap.size)(hb:b<g):
  g+2≤w1.heap.size∧(∀o,w1.cell? ⟨g,o,H⟩=W.cell? ⟨g,o,H⟩)∧(∀o,w1.cell? ⟨g+1,o,H⟩=W.cell? ⟨g+1,o,H⟩)∧(∀o,w1.frozen? ⟨g+1,o,H⟩=W.frozen? ⟨g+1,o,H⟩)∧(∀o,w1.cell? ⟨b,o,H⟩=W.cell? ⟨b,o,H⟩):=
 ⟨bV hg h.size,fun o=>h.cell (p:=⟨g,o,H⟩) (by grind),fun o=>h.cell (p:=⟨g+1,o,H⟩) (by grind),fun o=>h.frozen (p:=⟨g+1,o,H⟩) (by grind),fun o=>h.cell (p:=⟨b,o,H⟩) (by grind)⟩
theorem Aqv {W w1}{a b g}(h:M W.heap.size W w1)(ha:a<W.heap.size)(hb:b<W.heap.size)(hg:g<W.heap.size):
  (∀o,w1.cell? ⟨a,o,H⟩=W.cell? ⟨a,o,H⟩)∧(∀o,w1.cell? ⟨b,o,H⟩=W.cell? ⟨b,o,H⟩)∧(∀o,w1.cell? ⟨g,o,H⟩=W.cell? ⟨g,o,H⟩)∧(∀o,w1.frozen? ⟨g,o,H⟩=W.frozen? ⟨g,o,H⟩):=
 ⟨fun o=>h.cell (p:=⟨a,o,H⟩) ha,fun o=>h.cell (p:=⟨b,o,H⟩) hb,fun o=>h.cell (p:=⟨g,o,H⟩) hg,fun o=>h.frozen (p:=⟨g,o,H⟩) hg⟩
theorem Ae {C}{w w'}(h:M C w w'):Keeps (fun k=>k<C) w w':=⟨h.size,fun k hk _=>h.block k hk⟩
theorem al1 (w o1):M w.heap.size w (w.alloc o1)∧(w.alloc o1).heap[w.heap.size]?=D o1∧(w.alloc o1).heap.size=w.heap.size+1:=⟨Aq w o1,Ab _ _,by simp⟩
theorem al2 (w o1 o2):M w.heap.size w ((w.alloc o1).alloc o2)∧((w.alloc o1).alloc o2).heap[w.heap.size]?=D o1∧((w.alloc o1).alloc o2).heap[w.heap.size+1]?=D o2∧((w.alloc o1).alloc o2).heap.size=w.heap.size+2:=
 ⟨Da w o1 o2,Ad (Ab _ _) _,Ca _ _ _,by simp⟩
theorem al3 (w o1 o2 o3):M w.heap.size w (((w.alloc o1).alloc o2).alloc o3)∧(((w.alloc o1).alloc o2).alloc o3).heap[w.heap.size]?=D o1∧(((w.alloc o1).alloc o2).alloc o3).heap[w.heap.size+1]?=D o2∧(((w.alloc o1).alloc o2).alloc o3).heap[w.heap.size+2]?=D o3∧(((w.alloc o1).alloc o2).alloc o3).heap.size=w.heap.size+3:=
 ⟨Hx w o1 o2 o3,Ad (Ad (Ab _ _) _) _,Ad (Ca _ _ _) _,Fe _ _ _ _,by simp⟩
theorem al4 (w o1 o2 o3 o4):M w.heap.size w ((((w.alloc o1).alloc o2).alloc o3).alloc o4)∧((((w.alloc o1).alloc o2).alloc o3).alloc o4).heap[w.heap.size]?=D o1∧((((w.alloc o1).alloc o2).alloc o3).alloc o4).heap[w.heap.size+1]?=D o2∧((((w.alloc o1).alloc o2).alloc o3).alloc o4).heap[w.heap.size+2]?=D o3∧((((w.alloc o1).alloc o2).alloc o3).alloc o4).heap[w.heap.size+3]?=D o4∧((((w.alloc o1).alloc o2).alloc o3).alloc o4).heap.size=w.heap.size+4:=by
 obtain⟨h,h0,h1,h2,h3⟩:=al3 w o1 o2 o3;have h4:=Ab (((w.alloc o1).alloc o2).alloc o3) o4;rw[h3]at h4;exact⟨h.alloc (by omega) _,Ad h0 _,Ad h1 _,Ad h2 _,h4,by simp⟩
theorem tk {P:dX}{md:dO}{aa:Array Oper}{Q:Exit→Act→R→Prop}{S:R→Prop}{v:O}{ac:Nat}{ab:Array Bool}{a:Act}{w:R}{oi:Oper}(i:Nat)
  (h:dR P md aa Q S ac (ab.setIfInBounds i J) (a.put oi.dst v) w)
  (hi:aa[i]?=D oi:=by exact rfl) (hs:fI aa=J:=by kernel_rfl)
  (hf:Region.free md aa ab i=J:=by kernel_rfl) (hr:(dI md aa ab).contains i=J:=by kernel_rfl)
  (hw:cM oi (eU aa a.tmps)=J:=by rfl)
  (hy:∀w,S w→(execOp a.eval oi).run P w=.ok (.value v) w:=by intro w ad;(try dsimp only at ad);go_simp;all_goals(with_reducible rfl))
  (hQ:∀c a w,Q (.panic c) (a.put oi.dst v) w→Q (.panic c) a w:=by exact fun _ _ _ h=>h)
  (hS:S w:=by assumption):
  dR P md aa Q S (ac+1) ab a w:=wpAnyH_take hi hs hf hr hQ (.inl ⟨hw,hy⟩) hS h
theorem tkd {P:dX}{md:dO}{aa:Array Oper}{Q:Exit→Act→R→Prop}{S:R→Prop}{v:O}{ac:Nat}{ab:Array Bool}{a:Act}{w:R}{oi:Oper}(i d:Nat)
  (h:dR P md aa Q S ac (ab.setIfInBounds i J) (a.put (D d) v) w)
  (hi:aa[i]?=D oi:=by exact rfl) (hd:oi.dst=D d:=by exact rfl) (hs:fI aa=J:=by kernel_rfl)
  (hf:Region.free md aa ab i=J:=by kernel_rfl) (hr:(dI md aa ab).contains i=J:=by kernel_rfl)
  (hw:cM oi (eU aa a.tmps)=J:=by rfl)
  (hy:∀w,S w→(execOp a.eval oi).run P w=.ok (.value v) w:=by intro w ad;(try dsimp only at ad);go_simp;all_goals(with_reducible rfl))
  (hQ:∀c a w,Q (.panic c) (a.put (D d) v) w→Q (.panic c) a w:=by exact fun _ _ _ h=>h)
  (hS:S w:=by assumption):
  dR P md aa Q S (ac+1) ab a w:=wpAnyH_take hi hs hf hr (hd▸hQ) (.inl ⟨hw,hy⟩) hS (hd▸h)
theorem Bh {P:dX}{md:dO}{aa:Array Oper}{Q:Exit→Act→R→Prop}{S:R→Prop}{ac:Nat}{ab:Array Bool}{a:Act}{w:R}{o:Oper}(i:Nat)
  (h:∀K':Act→R→Prop,Shut (∀a w,S w→(S w→dR P md aa Q S ac (ab.setIfInBounds i J) a w)→K' a w)→if cM o (eU aa a.tmps)=J then Oper.wp P o a w K' Q else K' (a.put o.dst undef) w)
  (ho:aa[i]?=D o:=by exact rfl) (hr:dI md aa ab=[i]:=by kernel_rfl):dR P md aa Q S (ac+1) ab a w:=
 wpAnyH_ready hr (by simp) (.cons ho h .nil)
theorem Abi {P:dX}{md:dO}{aa:Array Oper}{Q:Exit→Act→R→Prop}{S:R→Prop}{ac:Nat}{ab:Array Bool}{a:Act}{w:R}{o o':Oper}(i j:Nat)
  (h:∀K':Act→R→Prop,Shut (∀a w,S w→(S w→dR P md aa Q S ac (ab.setIfInBounds i J) a w)→K' a w)→if cM o (eU aa a.tmps)=J then Oper.wp P o a w K' Q else K' (a.put o.dst undef) w)
  (h':∀K':Act→R→Prop,Shut (∀a w,S w→(S w→dR P md aa Q S ac (ab.setIfInBounds j J) a w)→K' a w)→if cM o' (eU aa a.tmps)=J then Oper.wp P o' a w K' Q else K' (a.put o'.dst undef) w)
  (ho:aa[i]?=D o:=by exact rfl) (ad:aa[j]?=D o':=by exact rfl) (hr:dI md aa ab=[i,j]:=by kernel_rfl):dR P md aa Q S (ac+1) ab a w:=
 wpAnyH_ready hr (by simp) (.cons ho h (.cons ad h' .nil))
end
end Go.Proofs.YtjapkoofjlmdgaaGreatDoor
namespace Go.Proofs
open Go.Shelf
theorem sN {P:dX}{F:FuncId}{f:Func}{B:Func}(h:P.funcs[F]?=D f)(hd:(f.name== "runtime.NumGoroutine")=aZ:=by decide)(e:f={B with name:=f.name}:=by kernel_rfl):Bears P F B:=⟨f.name,hd,h.trans (congrArg D e)⟩
theorem sF {P:dX}{F:FuncId}{f g:Func}(h:P.funcs[F]?=D f)(e:f=g:=by kernel_rfl):P.funcs[F]?=D g:=h.trans (congrArg D e)
end Go.Proofs
namespace Go.Proofs.YtjapkoofjlmdgaaGreatDoor
end Go.Proofs.YtjapkoofjlmdgaaGreatDoor
namespace Go.Proofs
open Go.Shelf
def Tryz.laysClone_ren:aX:=⟨fun|16=>24|n=>n,fun|24=>54|9=>9|4=>4|n=>n,fun|n=>n⟩
theorem Tryz.laysClone:Go.Proofs.Lays2.n16 aD Tryz.laysClone_ren:={
 mixed:=by kernel_rfl
 f16:=sF Tryz.func24
 t4:=aP
 a4:=bM
 z4:=bG
 v4:=aS
 t9:=aU
 a9:=cA
 z9:=bR
 v9:=bA
 t24:=aR
 a24:=dA
 z24:=cR
 v24:=cF
 i9:=by kernel_rfl}
def Tryz.laysInsert_ren:aX:=⟨fun|22=>186|29=>243|30=>244|36=>305|17=>345|n=>n,fun|24=>54|9=>9|3=>3|4=>4|0=>0|n=>n,fun|n=>n⟩
theorem Tryz.laysInsert:Go.Proofs.Lays2.n22 aD Tryz.laysInsert_ren:={
 mixed:=by kernel_rfl
 f17:=sF Tryz.func345
 f22:=sF Tryz.func186
 f29:=sF Tryz.func243
 f30:=sF Tryz.func244
 f36:=sF Tryz.func305
 t0:=bE
 a0:=cG
 z0:=cC
 v0:=bJ
 t3:=aV
 a3:=cB
 z3:=bS
 v3:=bB
 t4:=aP
 a4:=bM
 z4:=bG
 v4:=aS
 t9:=aU
 a9:=cA
 z9:=bR
 v9:=bA
 t24:=aR
 a24:=dA
 z24:=cR
 v24:=cF
 i9:=by kernel_rfl}
def Tryz.laysDelete_ren:aX:=⟨fun|24=>246|n=>n,fun|24=>54|9=>9|3=>3|4=>4|0=>0|n=>n,fun|n=>n⟩
theorem Tryz.laysDelete:Go.Proofs.Lays2.n24 aD Tryz.laysDelete_ren:={
 mixed:=by kernel_rfl
 f24:=sF Tryz.func246
 t0:=bE
 a0:=cG
 z0:=cC
 v0:=bJ
 t3:=aV
 a3:=cB
 z3:=bS
 v3:=bB
 t4:=aP
 a4:=bM
 z4:=bG
 v4:=aS
 t9:=aU
 a9:=cA
 z9:=bR
 v9:=bA
 t24:=aR
 a24:=dA
 z24:=cR
 v24:=cF
 i9:=by kernel_rfl}
def Tryz.laysFind_ren:aX:=⟨fun|26=>235|33=>298|34=>299|38=>229|n=>n,fun|24=>54|9=>9|3=>3|4=>4|40=>257|0=>0|n=>n,fun|n=>n⟩
theorem Tryz.laysFind:Go.Proofs.Lays2.n26 aD Tryz.laysFind_ren:={
 mixed:=by kernel_rfl
 f26:=sF Tryz.func235
 f33:=sF Tryz.func298
 f34:=sF Tryz.func299
 f38:=sF Tryz.func229
 t0:=bE
 a0:=cG
 z0:=cC
 v0:=bJ
 t3:=aV
 a3:=cB
 z3:=bS
 v3:=bB
 t4:=aP
 a4:=bM
 z4:=bG
 v4:=aS
 t9:=aU
 a9:=cA
 z9:=bR
 v9:=bA
 t24:=aR
 a24:=dA
 z24:=cR
 v24:=cF
 t40:=cI
 a40:=dG
 z40:=dE
 v40:=cO}
def Tryz.laysSearch_ren:aX:=⟨fun|16=>296|n=>n,fun|3=>3|35=>314|4=>4|38=>257|n=>n,fun|n=>n⟩
theorem Tryz.laysSearch:Go.Proofs.SlLaysO.n16 aD Tryz.laysSearch_ren:={
 mixed:=by kernel_rfl
 f16:=sF Tryz.func296
 t3:=aV
 a3:=cB
 z3:=bS
 v3:=bB
 t4:=aP
 a4:=bM
 z4:=bG
 v4:=aS
 t35:=Tryz.underlying314
 a35:=Tryz.isAgg314
 z35:=Tryz.sizeOf314
 v35:=Tryz.zeroValue314
 t38:=cI
 a38:=dG
 z38:=dE
 v38:=cO}
def Tryz.laysGrowP_ren:aX:=⟨fun|4=>304|n=>n,fun|22=>42|25=>83|3=>3|4=>4|9=>9|20=>20|0=>0|n=>n,fun|n=>n⟩
theorem Tryz.laysGrowP:dT aD Tryz.laysGrowP_ren:={
 mixed:=by kernel_rfl
 f4:=sN Tryz.func304
 t0:=bE
 a0:=cG
 z0:=cC
 v0:=bJ
 t3:=aV
 a3:=cB
 z3:=bS
 v3:=bB
 t4:=aP
 a4:=bM
 z4:=bG
 v4:=aS
 t9:=aU
 a9:=cA
 z9:=bR
 v9:=bA
 t20:=fH
 a20:=Tryz.isAgg20
 z20:=Tryz.sizeOf20
 v20:=fL
 t22:=cP
 a22:=Tryz.isAgg42
 z22:=Tryz.sizeOf42
 v22:=Tryz.zeroValue42}
def Tryz.laysGrowS_ren:aX:=⟨fun|4=>346|n=>n,fun|22=>54|25=>9|3=>3|4=>4|9=>9|20=>20|0=>0|n=>n,fun|n=>n⟩
theorem Tryz.laysGrowS:dT aD Tryz.laysGrowS_ren:={
 mixed:=by kernel_rfl
 f4:=sN Tryz.func346
 t0:=bE
 a0:=cG
 z0:=cC
 v0:=bJ
 t3:=aV
 a3:=cB
 z3:=bS
 v3:=bB
 t4:=aP
 a4:=bM
 z4:=bG
 v4:=aS
 t9:=aU
 a9:=cA
 z9:=bR
 v9:=bA
 t20:=fH
 a20:=Tryz.isAgg20
 z20:=Tryz.sizeOf20
 v20:=fL
 t22:=aR
 a22:=dA
 z22:=cR
 v22:=cF}
end Go.Proofs
namespace Go.Proofs.YtjapkoofjlmdgaaGreatDoor
end Go.Proofs.YtjapkoofjlmdgaaGreatDoor
namespace Go.Proofs
open Go.Shelf
def Tryz.sortRows_ren:aX:=⟨fun|6=>120|15=>202|14=>201|28=>264|29=>265|20=>256|21=>257|22=>258|23=>259|24=>260|25=>261|26=>262|27=>263|46=>317|47=>318|48=>319|49=>320|50=>321|57=>355|n=>n,fun|22=>30|24=>57|25=>174|3=>3|39=>257|0=>0|53=>311|55=>313|4=>4|46=>305|45=>304|50=>216|5=>5|9=>9|66=>348|70=>352|76=>375|77=>376|n=>n,fun|n=>n⟩
theorem Tryz.sortRows:Go.Proofs.SlLaysF.n6 aD Tryz.sortRows_ren:={
 mixed:=by kernel_rfl
 f6:=sN Tryz.func120
 f14:=sN Tryz.func201
 f15:=sF Tryz.func202
 f20:=sN Tryz.func256
 f21:=sN Tryz.func257
 f22:=sN Tryz.func258
 f23:=sN Tryz.func259
 f24:=sN Tryz.func260
 f25:=sN Tryz.func261
 f26:=sN Tryz.func262
 f27:=sN Tryz.func263
 f28:=sF Tryz.func264
 f29:=sF Tryz.func265
 f46:=sN Tryz.func317
 f47:=sF Tryz.func318
 f48:=sF Tryz.func319
 f49:=sN Tryz.func320
 f50:=sN Tryz.func321
 f57:=sN Tryz.func355
 t0:=bE
 a0:=cG
 z0:=cC
 v0:=bJ
 t3:=aV
 a3:=cB
 z3:=bS
 v3:=bB
 t4:=aP
 a4:=bM
 z4:=bG
 v4:=aS
 t5:=fM
 a5:=Tryz.isAgg5
 z5:=Tryz.sizeOf5
 v5:=fS
 t9:=aU
 a9:=cA
 z9:=bR
 v9:=bA
 t22:=Tryz.underlying30
 a22:=Tryz.isAgg30
 z22:=Tryz.sizeOf30
 v22:=Tryz.zeroValue30
 a24:=Tryz.isAgg57
 z24:=Tryz.sizeOf57
 t25:=Tryz.underlying174
 a25:=Tryz.isAgg174
 z25:=Tryz.sizeOf174
 v25:=Tryz.zeroValue174
 t39:=cI
 a39:=dG
 z39:=dE
 v39:=cO
 t45:=eQ
 a45:=Tryz.isAgg304
 z45:=Tryz.sizeOf304
 v45:=fF
 t46:=eP
 a46:=Tryz.isAgg305
 z46:=Tryz.sizeOf305
 v46:=fE
 t50:=eR
 a50:=Tryz.isAgg216
 z50:=Tryz.sizeOf216
 v50:=fG
 t53:=eO
 a53:=Tryz.isAgg311
 z53:=Tryz.sizeOf311
 v53:=fD
 t55:=eN
 a55:=Tryz.isAgg313
 z55:=Tryz.sizeOf313
 v55:=fC
 t66:=eM
 a66:=Tryz.isAgg348
 z66:=Tryz.sizeOf348
 v66:=fB
 t70:=eL
 a70:=Tryz.isAgg352
 z70:=Tryz.sizeOf352
 v70:=fA
 t76:=eK
 a76:=Tryz.isAgg375
 z76:=Tryz.sizeOf375
 v76:=eZ
 t77:=eJ
 a77:=Tryz.isAgg376
 z77:=Tryz.sizeOf376
 v77:=eY}
def Tryz.sortFound_ren:aX:=⟨fun|6=>125|15=>202|14=>206|28=>264|29=>265|20=>267|21=>268|22=>269|23=>270|24=>271|25=>272|26=>273|27=>274|46=>322|47=>318|48=>319|49=>323|50=>324|57=>356|n=>n,fun|22=>111|24=>115|25=>179|3=>3|39=>257|0=>0|53=>311|55=>313|4=>4|46=>305|45=>304|50=>216|5=>5|9=>9|66=>348|70=>352|76=>375|77=>376|n=>n,fun|n=>n⟩
theorem Tryz.sortFound:dH aD Tryz.sortFound_ren:={
 mixed:=by kernel_rfl
 f6:=sN Tryz.func125
 f14:=sN Tryz.func206
 f15:=sF Tryz.func202
 f20:=sN Tryz.func267
 f21:=sN Tryz.func268
 f22:=sN Tryz.func269
 f23:=sN Tryz.func270
 f24:=sN Tryz.func271
 f25:=sN Tryz.func272
 f26:=sN Tryz.func273
 f27:=sN Tryz.func274
 f28:=sF Tryz.func264
 f29:=sF Tryz.func265
 f46:=sN Tryz.func322
 f47:=sF Tryz.func318
 f48:=sF Tryz.func319
 f49:=sN Tryz.func323
 f50:=sN Tryz.func324
 f57:=sN Tryz.func356
 t0:=bE
 a0:=cG
 z0:=cC
 v0:=bJ
 t3:=aV
 a3:=cB
 z3:=bS
 v3:=bB
 t4:=aP
 a4:=bM
 z4:=bG
 v4:=aS
 t5:=fM
 a5:=Tryz.isAgg5
 z5:=Tryz.sizeOf5
 v5:=fS
 t9:=aU
 a9:=cA
 z9:=bR
 v9:=bA
 t22:=Tryz.underlying111
 a22:=Tryz.isAgg111
 z22:=Tryz.sizeOf111
 v22:=Tryz.zeroValue111
 t25:=Tryz.underlying179
 a25:=Tryz.isAgg179
 z25:=Tryz.sizeOf179
 v25:=Tryz.zeroValue179
 t39:=cI
 a39:=dG
 z39:=dE
 v39:=cO
 t45:=eQ
 a45:=Tryz.isAgg304
 z45:=Tryz.sizeOf304
 v45:=fF
 t46:=eP
 a46:=Tryz.isAgg305
 z46:=Tryz.sizeOf305
 v46:=fE
 t50:=eR
 a50:=Tryz.isAgg216
 z50:=Tryz.sizeOf216
 v50:=fG
 t53:=eO
 a53:=Tryz.isAgg311
 z53:=Tryz.sizeOf311
 v53:=fD
 t55:=eN
 a55:=Tryz.isAgg313
 z55:=Tryz.sizeOf313
 v55:=fC
 t66:=eM
 a66:=Tryz.isAgg348
 z66:=Tryz.sizeOf348
 v66:=fB
 t70:=eL
 a70:=Tryz.isAgg352
 z70:=Tryz.sizeOf352
 v70:=fA
 t76:=eK
 a76:=Tryz.isAgg375
 z76:=Tryz.sizeOf375
 v76:=eZ
 t77:=eJ
 a77:=Tryz.isAgg376
 z77:=Tryz.sizeOf376
 v77:=eY}
def Tryz.sortRows0_ren:aX:=⟨fun|6=>120|15=>202|14=>201|28=>264|29=>265|20=>256|21=>257|22=>258|23=>259|24=>260|25=>261|26=>262|27=>263|46=>317|47=>318|48=>319|49=>320|50=>321|57=>355|n=>n,fun|22=>30|24=>57|25=>174|3=>3|39=>257|0=>0|53=>311|55=>313|4=>4|46=>305|45=>304|50=>216|5=>5|9=>9|66=>348|70=>352|76=>375|77=>376|n=>n,fun|n=>n⟩
theorem Tryz.sortRows0:dH aD Tryz.sortRows0_ren:={Tryz.sortRows with mixed:=Tryz.sortRows.mixed}
end Go.Proofs
namespace Go.Proofs.YtjapkoofjlmdgaaGreatDoor
section
open Go.RowKit
def Hd (a b:Int):Int:=if a<b then-1 else if b<a then 1 else 0
def Fy (a b:ByteArray):Int:=if bD a.toList b.toList then-1 else if a.toList==b.toList then 0 else 1
def or3 (x y z:Int):Int:=if x=0 then if y=0 then z else y else x
def Bs (a b:V):Int:=or3 (Hd a.k b.k) (Hd a.n b.n) (Fy a.s b.s)
theorem Acl (a b)(w):bL aD 203 #[N U a,N U b] w fun e w'=>e=aH (N U (Hd a b))∧w'=w:=by
 rcases(show a<b∨b<a∨a=b from by omega)with h|h|h
 ·have hn:¬b<a:=by omega
  go_enter dW,dV;go_wp2;go_ret;exact⟨Au (by simp[Hd,h]),rfl⟩
 ·have hn:¬a<b:=by omega
  have E:Hid (Hd a b=1):=by show Hd a b=1;simp[Hd,hn,h]
  go_enter dW,dV;go_wp2;go_ret;exact⟨Au E.out.symm,rfl⟩
 ·subst h;have E:Hid (Hd a a=0):=by show Hd a a=0;simp[Hd]
  go_enter dW,dV;go_wp2;go_ret;exact⟨Au E.out.symm,rfl⟩
theorem Qj (a b)(w):bL aD 165 #[Y a,Y b] w fun e w'=>e=aH (N U (Fy a b))∧w'=w:=by
 cases h:bD a.toList b.toList<;>cases h2:a.toList==b.toList
 all_goals
  have E:Hid (Fy a b=(if bD _ _ then-1 else if a.toList==b.toList then 0 else 1)):=rfl;go_enter Tryz.func165,Tryz.ntmps165;go_wp2;go_ret;exact⟨Au (by rw[E.out,h,h2];rfl),rfl⟩
theorem Ajw (x y z)(b c)(w)(h0:w.cell? ⟨b,0,H⟩=D (N U x))(h1:w.cell? ⟨b,1,H⟩=D (N U y))(h2:w.cell? ⟨b,2,H⟩=D (N U z)):
  bL aD 127 #[I (D ⟨b,0,H⟩) 3 c] w fun e w'=>e=aH (N U (or3 x y z))∧w'=w:=by
 by_cases hx:x=0<;>by_cases hy:y=0<;>by_cases hz:z=0
 all_goals
  have E:Hid (or3 x y z=if x=0 then if y=0 then z else y else x):=rfl;go_enter Tryz.func127,Tryz.ntmps127;go_wp2;refine wp_loop_rounds 4 ?_;rw[dJ];go_wp2
  all_goals(try(rw[dJ];go_wp2))
  all_goals(try(rw[dJ];go_wp2))
  all_goals(try(rw[dJ];go_wp2))
  all_goals go_ret
  all_goals exact⟨Au (by rw[E.out];omega),rfl⟩
theorem Anc (a b)(w):bL aD 122 #[a.val,b.val] w fun e w'=>e=aH (N U (Bs a b))∧M w.heap.size w w':=by
 obtain⟨k1,n1,s1⟩:=a;obtain⟨k2,n2,s2⟩:=b;show bL _ 122 #[cH #[N _ k1,N _ n1,Y s1],cH #[N _ k2,N _ n2,Y s2]] w _;go_enter Tryz.func122,Tryz.ntmps122;go_wp2
 go_region_held3(fun w'=>w'.cell? ⟨w.heap.size,0,H⟩=D (N U k1)∧w'.cell? ⟨w.heap.size,1,H⟩=D (N U n1)∧w'.cell? ⟨w.heap.size,2,H⟩=D (Y s1)∧w'.cell? ⟨w.heap.size+1,0,H⟩=D (N U k2)∧w'.cell? ⟨w.heap.size+1,1,H⟩=D (N U n2)∧w'.cell? ⟨w.heap.size+1,2,H⟩=D (Y s2)) (go_keep)
  (first|(go_at_call 203;refine(Acl _ _ _).mono ?_;rintro e w' ⟨rfl,rfl⟩)|(go_at_call 165;refine(Qj _ _ _).mono ?_;rintro e w' ⟨rfl,rfl⟩)|(go_at_call 127;refine(Ajw (Hd k1 k2) (Hd n1 n2) (Fy s1 s2) _ _ _ ?_ ?_ ?_).mono ?_;(simp[go_sem]);(simp[go_sem]);(simp[go_sem]);rintro e w' ⟨rfl,rfl⟩))
 go_wp2;go_ret;refine⟨rfl,?_⟩
 repeat first|exact aE _ _|apply Below.drew|refine Below.alloc ?_ (by simp;try omega) _
end
section
def klt (a b:ByteArray):Bool:=bD a.toList b.toList
theorem Rc (a b):klt a b=J↔a.data.toList<b.data.toList:=by
 unfold klt;rw[Go.Proofs.bytesLess_eq,Lib.toList_data,Lib.toList_data];simp
theorem Gs (a):klt a a=aZ:=by
 cases h:klt a a with
 |false=>rfl
 |true=>exact absurd ((Rc a a).1 h) (List.lt_irrefl _)
theorem Co {a b c}(h:klt a b=J)(k:klt b c=J):klt a c=J:=
 (Rc _ _).2 (List.lt_trans ((Rc _ _).1 h) ((Rc _ _).1 k))
theorem Kv {a b}(h:klt a b=J):klt b a=aZ:=by
 cases k:klt b a with
 |false=>rfl
 |true=>have:=Co h k;rw[Gs]at this;grind
theorem Ath {a b:ByteArray}(h:a.data.toList=b.data.toList):a=b:=by
 cases a with
 |mk x=>simp_all
theorem Jh {a b}(h:klt a b=aZ):a=b∨klt b a=J:=by
 by_cases e:a=b
 ·grind
 ·right
  have h':¬a.data.toList<b.data.toList:=fun k=>by rw[(Rc a b).2 k]at h;grind
  rw[Rc];rcases Decidable.em (b.data.toList<a.data.toList)with g|g
  ·omega
  ·exact absurd (Ath (List.le_antisymm (show a.data.toList≤b.data.toList from g) h')) e
theorem Fz {a b}(h:klt a b=J):a≠b:=by
 rintro rfl;rw[Gs]at h;grind
theorem Xi {a b c}(h:klt b a=aZ)(k:klt b c=J):klt a c=J:=by
 rcases Jh h with rfl|h
 ·omega
 ·exact Co h k
theorem Rq {a b c}(h:klt a b=J)(k:klt c b=aZ):klt a c=J:=by
 rcases Jh k with rfl|k
 ·omega
 ·exact Co h k
structure Pg where
 K:List ByteArray
 V:List ByteArray
def pg0:Pg:=⟨[],[]⟩
def Pg.ok (p:Pg):Prop:=1≤p.K.length∧p.K.length≤4∧p.V.length=p.K.length
abbrev Cb (l:List ByteArray):Prop:=l.Pairwise (fun a b=>klt a b=J)
def Cf (T:List Pg):List ByteArray:=T.flatMap Pg.K
def flat (T:List Pg):List (ByteArray×ByteArray):=T.flatMap fun p=>p.K.zip p.V
def As (T:List Pg):Prop:=(∀p∈T,p.ok)∧Cb (Cf T)
theorem Ev (p)(T):Cf (p::T)=p.K++Cf T:=by rfl
theorem Di (A B):Cf (A++B)=Cf A++Cf B:=by simp[Cf]
theorem E6 (p)(T):flat (p::T)=p.K.zip p.V++flat T:=by rfl
theorem Bg (A B):flat (A++B)=flat A++flat B:=by simp[flat]
theorem Rr:flat []=[]:=rfl
theorem Axg {K V:List ByteArray}(h:V.length=K.length):(K.zip V).map cJ=K:=by
 rw[List.map_fst_zip (by omega)]
theorem Hs:∀{T:List Pg},(∀p∈T,p.ok)→(flat T).map cJ=Cf T
 |[],_=>rfl
 |p::T,h=>by
  rw[E6,Ev,aT,Axg (h p (by simp)).2.2,Hs fun q hq=>h q (by grind)]
theorem Z9:∀{T:List Pg},(∀p∈T,p.ok)→(flat T).length=(Cf T).length:=by
 intro T h;rw[←Hs h,bZ]
theorem Aaa:∀{T:List Pg},(∀p∈T,p.ok)→(Cf T).length≤4*T.length
 |[],_=>by simp[Cf]
 |p::T,h=>by
  have:=Aaa fun q hq=>h q (List.mem_cons_of_mem _ hq)
  have:=(h p (by simp)).2.1;rw[Ev,bH,aM];omega
structure Cut (F:List (ByteArray×ByteArray)) (k:ByteArray) (F1:List (ByteArray×ByteArray)) (o:Option ByteArray) (F2:List (ByteArray×ByteArray)):Prop where
 eq:F=F1++((o.toList.map fun v=>(k,v))++F2)
 lo:∀x∈F1,klt x.1 k=J
 hi:∀x∈F2,klt k x.1=J
def Hy (F:List (ByteArray×ByteArray))(k:ByteArray):Option ByteArray:=(F.find? fun x=>decide (x.1=k)).map Prod.snd
def I0 (F:List (ByteArray×ByteArray))(k v:ByteArray):List (ByteArray×ByteArray):=(F.filter fun x=>klt x.1 k)++(k,v)::(F.filter fun x=>klt k x.1)
def Jy (F:List (ByteArray×ByteArray))(k:ByteArray):List (ByteArray×ByteArray):=F.filter fun x=>decide (x.1≠k)
theorem Nt {α:Type}{p}{l:List α}(h:∀x∈l,p x=J):l.filter p=l:=List.filter_eq_self.2 h
theorem I1 {α:Type}{p}{l:List α}(h:∀x∈l,p x=aZ):l.filter p=[]:=by simp_all
theorem Cut.get {F k F1 o F2}(c:Cut F k F1 o F2):Hy F k=o:=by
 have h1:F1.find? (fun x=>decide (x.1=k))=H:=by
  rw[eS];intro x hx;simpa using Fz (c.lo x hx)
 have h2:F2.find? (fun x=>decide (x.1=k))=H:=by
  rw[eS];intro x hx;simpa using(Fz (c.hi x hx)).symm
 unfold Hy;rw[c.eq,List.find?_append,h1];cases o with
 |none=>grind
 |some v=>simp
theorem Cut.put {F k F1 o F2}(c:Cut F k F1 o F2)(v:ByteArray):I0 F k v=F1++(k,v)::F2:=by
 unfold I0;rw[c.eq,bI,bI,bI,bI,Nt c.lo,I1 (l:=F2) fun x hx=>Kv (c.hi x hx),
  I1 (l:=F1) fun x hx=>Kv (c.lo x hx),Nt c.hi]
 have:∀q:(ByteArray×ByteArray)→Bool,(∀v,q (k,v)=aZ)→(o.toList.map fun v=>(k,v)).filter q=[]:=by
  intro q hq;apply I1;intro x hx;simp at hx;obtain⟨v,_,rfl⟩:=hx;exact hq v
 rw[this _ fun v=>Gs k,this _ fun v=>Gs k];simp
theorem Cut.drop {F k F1 o F2}(c:Cut F k F1 o F2):Jy F k=F1++F2:=by
 unfold Jy;rw[c.eq,bI,bI,Nt fun x hx=>by simpa using Fz (c.lo x hx),Nt (l:=F2) fun x hx=>by simpa using(Fz (c.hi x hx)).symm];simp
theorem Ane (F)(h:Cb (F.map cJ))(k):∃F1 o F2,Cut F k F1 o F2:=by
 induction F with
 |nil=>exact⟨[],H,[],rfl,by simp,by simp⟩
 |cons x F ih=>
  rw[cS,Cb,cK]at h
  by_cases h1:klt x.1 k=J
  ·obtain⟨F1,o,F2,c⟩:=ih h.2;exact⟨x::F1,o,F2,by rw[c.eq];rfl,by intro y hy;rcases bY.1 hy with rfl|hy;exact h1;exact c.lo y hy,c.hi⟩
  ·have aa:=fun y hy=>h.1 _ (dM.2 ⟨y,hy,rfl⟩)
   rcases Jh (by simpa using h1)with e|h2
   ·exact⟨[],D x.2,F,by grind,by simp,fun y hy=>by grind⟩
   ·exact⟨[],H,x::F,by simp,by simp,fun y hy=>by
     rcases bY.1 hy with rfl|hy
     ·omega
     ·exact Co h2 (aa y hy)⟩
theorem Gt {A B}:Cb (A++B)↔Cb A∧Cb B∧∀a∈A,∀b∈B,klt a b=J:=List.pairwise_append
theorem Cut.rise_put {F k F1 o F2}(c:Cut F k F1 o F2)(h:Cb (F.map cJ))(v):Cb ((F1++(k,v)::F2).map cJ):=by
 rw[c.eq]at h;simp only[aT,cS]at h⊢;rw[Gt]at h⊢;obtain⟨h1,h2,h3⟩:=h;rw[Gt]at h2;refine⟨h1,?_,?_⟩
 ·rw[Cb,cK];refine⟨?_,h2.2.1⟩;intro a ha;obtain⟨x,hx,rfl⟩:=dM.1 ha;exact c.hi x hx
 ·intro a ha b hb;rcases bY.1 hb with rfl|hb
  ·obtain⟨x,hx,rfl⟩:=dM.1 ha;exact c.lo x hx
  grind
theorem Cut.rise_drop {F k F1 o F2}(c:Cut F k F1 o F2)(h:Cb (F.map cJ)):Cb ((F1++F2).map cJ):=by
 refine List.Pairwise.sublist ?_ h;rw[c.eq];simp
theorem Xj {T}(h:∀p∈T,p.ok)(k:Cb ((flat T).map cJ)):As T:=⟨h,by rw[←Hs h];omega⟩
theorem As.rise {T}(h:As T):Cb ((flat T).map cJ):=by rw[Hs h.1];exact h.2
theorem As.part {A B}(h:As (A++B)):As A∧As B:=by
 obtain⟨h1,h2⟩:=h;rw[Di,Gt]at h2;exact⟨⟨fun p hp=>h1 p (by grind),h2.1⟩,⟨fun p hp=>h1 p (by grind),h2.2.1⟩⟩
theorem U2 (l)(h:Cb l)(k):∃a b,l=a++b∧(∀x∈a,klt x k=J)∧(∀x∈b,klt x k=aZ):=by
 induction l with
 |nil=>exact⟨[],[],rfl,by simp,by simp⟩
 |cons x l ih=>
  rw[Cb,cK]at h;cases h1:klt x k with
  |true=>
   grind
  |false=>
   refine⟨[],_,rfl,by simp,?_⟩;intro y hy;rcases bY.1 hy with rfl|hy
   ·omega
   ·cases h2:klt y k with
    |false=>rfl
    |true=>have:=Co (h.1 y hy) h2;grind
def Eh (p:Pg):ByteArray:=p.K.getLastD cU
theorem Kw {p}(h:p.ok):Eh p∈p.K:=by
 obtain⟨h1,_⟩:=h;unfold Eh;grind
theorem Agh {p}(hr:Cb p.K){x}(hx:x∈p.K):x=Eh p∨klt x (Eh p)=J:=by
 obtain⟨l,hl⟩:∃l,p.K=l++[Eh p]:=by
  unfold Eh;cases hk:p.K with
  |nil=>grind
  |cons a l=>exact⟨(a::l).dropLast,by rw[←List.dropLast_concat_getLast (l:=a::l) (by simp)];simp⟩
 grind
def Aqw (T:List Pg)(k:ByteArray)(pg pl:Nat)(th:Bool):Prop:=
 (pg=T.length∧pl=0∧th=aZ∧∀x∈Cf T,klt x k=J)∨
 ∃A p B K1 y K3,T=A++p::B∧p.K=K1++y::K3∧pg=A.length∧pl=K1.length∧(∀x∈Cf A,klt x k=J)∧(∀x∈K1,klt x k=J)∧klt y k=aZ∧th=decide (y=k)
theorem Tl (T)(h:As T)(k):∃A B,T=A++B∧T.countP (fun p=>klt (Eh p) k)=A.length∧(∀x∈Cf A,klt x k=J)∧(∀p∈B,klt (Eh p) k=aZ):=by
 induction T with
 |nil=>exact⟨[],[],rfl,rfl,by simp[Cf],by simp⟩
 |cons p T ih=>
  obtain⟨h1,h2⟩:=h;rw[Ev,Gt]at h2;obtain⟨A,B,e,hc,ha,hb⟩:=ih ⟨fun q hq=>h1 q (by simp[hq]),h2.2.1⟩;cases hl:klt (Eh p) k with
  |true=>
   refine⟨p::A,B,by rw[e];rfl,by rw[dQ,hc,hl];simp,?_,hb⟩;intro x hx;rw[Ev]at hx;rcases bC.1 hx with hx|hx
   ·rcases Agh h2.1 hx with rfl|hx
    ·omega
    ·exact Co hx hl
   grind
  |false=>
   have aa:∀q∈p::T,klt (Eh q) k=aZ:=by
    intro q hq;rcases bY.1 hq with rfl|hq
    ·omega
    ·cases h3:klt _ k with
     |false=>rfl
     |true=>
      have:=h2.2.2 _ (Kw (h1 p (by simp))) _ (fO.2 ⟨q,hq,Kw (h1 q (by omega))⟩);have:=Co this h3;grind
   refine⟨[],_,rfl,?_,by simp[Cf],aa⟩;grind
theorem Aqw.cut {T k pg pl th}(h:As T)(f:Aqw T k pg pl th):∃F1 o F2,Cut (flat T) k F1 o F2∧(th=J↔o.isSome=J):=by
 obtain⟨F1,o,F2,c⟩:=Ane _ h.rise k;refine⟨F1,o,F2,c,?_⟩;have hk:k∈Cf T↔o.isSome=J:=by
  rw[←Hs h.1,c.eq];constructor
  ·intro hk;cases o with
   |some v=>rfl
   |none=>
    simp at hk;rcases hk with⟨x,hx⟩|⟨x,hx⟩
    ·exact absurd rfl (Fz (c.lo _ hx))
    ·exact absurd rfl (Fz (c.hi _ hx))
  ·intro ho;obtain⟨v,rfl⟩:=Option.isSome_iff_exists.1 ho;simp
 rw[←hk];rcases f with⟨_,_,rfl,hlt⟩|⟨A,p,B,K1,y,K3,rfl,hp,_,_,hA,hK,hy,rfl⟩
 ·constructor
  ·simp
  ·intro h;exact absurd rfl (Fz (hlt _ h))
 ·have hr:=h.2;rw[Di,Ev,hp]at hr⊢;constructor
  ·grind
  ·intro hm;refine decide_eq_true ?_;rcases bC.1 hm with hm|hm
   ·exact absurd rfl (Fz (hA _ hm))
   ·rw[dN]at hm;rcases bC.1 hm with hm|hm
    ·exact absurd rfl (Fz (hK _ hm))
    ·rcases bY.1 hm with hm|hm
     ·grind
     ·have aa:=(Gt.1 hr).2.1;rw[dN]at aa;have ab:=(Gt.1 aa).2.1;simp_all
end
section
open Go.RowKit
def A3 (rows:List (O×O)):List O:=rows.flatMap fun r=>[r.1,r.2]
theorem Mc:∀rows:List (O×O),(A3 rows).length=rows.length*2
 |[]=>rfl
 |r::rows=>by
  have:=Mc rows;simp only[A3,List.flatMap_cons,bH,aM,dU]at this⊢;omega
theorem Wt (a b):A3 (a++b)=A3 a++A3 b:=by simp[A3]
theorem Agi:∀(rows:List (O×O)) (i:Nat) (r:O×O),rows[i]?=D r→(A3 rows)[i*2]?=D r.1∧(A3 rows)[i*2+1]?=D r.2
 |x::rows,0,r,h=>by
  simp at h;subst h;simp[A3]
 |x::rows,i+1,r,h=>by
  have:=Agi rows i r (by grind);have e:A3 (x::rows)=x.1::x.2::A3 rows:=by simp[A3]
  grind
def Pgs (w:R):List (O×O)→List Pg→Prop
 |[],[]=>True
 |r::rs,p::ps=>An w r.1 p.K∧An w r.2 p.V∧Pgs w rs ps
 |_,_=>False
theorem Pgs.length {w}:∀{rs:List (O×O)}{T:List Pg},Pgs w rs T→rs.length=T.length
 |[],[],_=>rfl
 |_::_,_::_,h=>by rw[aM,aM,Pgs.length h.2.2]
theorem Pgs.keep {w w'}{B}(hb:M B w w')(hB:w.heap.size≤B):∀{rs:List (O×O)}{T:List Pg},Pgs w rs T→Pgs w' rs T
 |[],[],_=>trivial
 |_::_,_::_,h=>⟨h.1.keep hb hB,h.2.1.keep hb hB,Pgs.keep hb hB h.2.2⟩
theorem Pgs.append {w}:∀{rs aa:List (O×O)}{T T':List Pg},Pgs w rs T→Pgs w aa T'→Pgs w (rs++aa) (T++T')
 |[],_,[],_,_,h=>h
 |_::_,_,_::_,_,h,k=>⟨h.1,h.2.1,Pgs.append h.2.2 k⟩
theorem Pgs.part {w}:∀{rs:List (O×O)}{A B:List Pg},Pgs w rs (A++B)→Pgs w (rs.take A.length) A∧Pgs w (rs.drop A.length) B
 |rs,[],B,h=>⟨by rw[dU,List.take_zero];trivial,by grind⟩
 |r::rs,p::A,B,h=>by
  have:=Pgs.part h.2.2;exact⟨⟨h.1,h.2.1,this.1⟩,this.2⟩
theorem Pgs.at {w}:∀{rs:List (O×O)}{T:List Pg},Pgs w rs T→∀{i:Nat}{p:Pg},T[i]?=D p→∃r,rs[i]?=D r∧An w r.1 p.K∧An w r.2 p.V
 |[],[],_,i,p,hi=>by grind
 |r::_,_::_,h,0,p,hi=>by simp at hi;subst hi;exact⟨r,rfl,h.1,h.2.1⟩
 |_::_,_::_,h,i+1,p,hi=>by
  obtain⟨r,h1,h2⟩:=Pgs.at h.2.2 (by simpa using hi);grind
def A8 (w:R)(sv:O)(T:List Pg):Prop:=∃rows,Eu 2 w sv T.length (A3 rows)∧Pgs w rows T
def Bi (w:R)(tv:O)(T:List Pg):Prop:=∃sv,tv=cH #[sv]∧A8 w sv T
theorem A8.keep {w w'}{B}{sv}{T}(h:A8 w sv T)(hb:M B w w')(hB:w.heap.size≤B):A8 w' sv T:=by
 obtain⟨rows,h1,h2⟩:=h;exact⟨rows,h1.keep hb hB,Pgs.keep hb hB h2⟩
theorem A8.below {w w'}{sv}{T}(h:A8 w sv T)(hb:M w.heap.size w w'):A8 w' sv T:=h.keep hb (aA _)
theorem Bi.keep {w w'}{B}{tv}{T}(h:Bi w tv T)(hb:M B w w')(hB:w.heap.size≤B):Bi w' tv T:=by
 obtain⟨sv,rfl,h⟩:=h;exact⟨sv,rfl,h.keep hb hB⟩
theorem Bi.below {w w'}{tv}{T}(h:Bi w tv T)(hb:M w.heap.size w w'):Bi w' tv T:=h.keep hb (aA _)
def T8 (w:R)(b off:Nat)(T:List Pg):Prop:=∀i p,T[i]?=D p→∃kv vv,w.cell? ⟨b,off+i*2,H⟩=D kv∧w.cell? ⟨b,off+i*2+1,H⟩=D vv∧An w kv p.K∧An w vv p.V
theorem T8.below {w w'}{b off}{T}(h:T8 w b off T)(hb:M w.heap.size w w')(aa:b<w.heap.size):T8 w' b off T:=by
 intro i p hi;obtain⟨kv,vv,h1,h2,h3,h4⟩:=h i p hi;exact⟨kv,vv,by rw[hb.cell aa];omega,by rw[hb.cell aa];omega,h3.below hb,h4.below hb⟩
theorem A8.at {w}{sv}{T}(h:A8 w sv T)(h0:0<T.length):∃b aa cap,sv=I (D ⟨b,aa,H⟩) T.length cap∧b<w.heap.size∧T.length≤cap∧cap≤aW∧T8 w b aa T:=by
 obtain⟨rows,h1,h2⟩:=h;rcases h1.2 with⟨h3,_⟩|⟨_,b,aa,cap,rfl,hb,hc,hm,hcell⟩
 ·omega
 ·refine⟨b,aa,cap,rfl,hb,hc,hm,fun i p hi=>?_⟩;obtain⟨r,hr,hk,hv⟩:=h2.at hi;obtain⟨c1,c2⟩:=Agi rows i r hr;grind
theorem A8.empty {w}{sv}{T}(h:A8 w sv T)(h0:T.length=0):∃ao cap,sv=I ao 0 cap∧(ao=H→cap=0):=by
 obtain⟨rows,h1,h2⟩:=h;rcases h1.2 with⟨_,ao,cap,rfl,hc⟩|⟨h3,_⟩
 ·grind
 omega
theorem A8.nil (w):A8 w (I H 0 0) []:=⟨[],Eu.nil 2 w,trivial⟩
def Qk (e:Ending)(p:Prop):Prop:=∃r,e=aH (cQ r)∧(r=J↔p)
theorem Xk {p}(h:p):Qk (aH (cQ J)) p:=⟨J,rfl,fun _=>h,fun _=>rfl⟩
theorem Ql {p}(h:¬p):Qk (aH (cQ aZ)) p:=⟨aZ,rfl,fun x=>(by cases x),fun x=>absurd x h⟩
theorem Qk.yes {e}{p}(h:Qk e p)(k:p):e=aH (cQ J):=by
 obtain⟨r,rfl,hr⟩:=h;grind
theorem Qk.no {e}{p}(h:Qk e p)(k:¬p):e=aH (cQ aZ):=by
 obtain⟨r,rfl,hr⟩:=h;grind
theorem hid {p}(h:p):Hid p:=h
end
section
theorem Ati {l}{a b}(h:Cb (l++[a]))(k:klt a b=J):Cb (l++[a]++[b]):=by
 rw[Gt];refine⟨h,by simp,?_⟩;intro x hx y hy;obtain rfl:y=b:=by grind
 rcases bC.1 hx with hx|hx
 ·exact Co ((Gt.1 h).2.2 x hx a (by simp)) k
 grind
theorem Ae8 {K:List ByteArray}{k}{a b}(h:Cb (K.take (k+1)))(ha:K[k]?=D a)(hb:K[k+1]?=D b)(aa:klt a b=J):Cb (K.take (k+1+1)):=by
 rw[bK,hb];rw[bK,ha]at h⊢;exact Ati h aa
theorem A0l {K}(h:Cb K){k}{a b}(ha:K[k]?=D a)(hb:K[k+1]?=D b):klt a b=J:=by
 obtain⟨h1,rfl⟩:=aC.1 ha;obtain⟨h2,rfl⟩:=aC.1 hb;exact List.pairwise_iff_getElem.1 h k _ h1 h2 (by omega)
def Hz (p:Pg):ByteArray:=p.K.headD cU
theorem Acm {p}(h:p.ok):Hz p∈p.K:=by
 obtain⟨h1,_⟩:=h;unfold Hz;cases hk:p.K with
 |nil=>grind
 |cons a l=>simp
theorem Acn {p}(h:Cb p.K){x}(hx:x∈p.K):x=Hz p∨klt (Hz p) x=J:=by
 unfold Hz;cases hk:p.K with
 |nil=>grind
 |cons a l=>
  rw[hk]at hx h;rcases bY.1 hx with rfl|hx
  ·simp
  simp_all
theorem As.take {T}(h:As T)(k):As (T.take k):=by
 rw[←dB k T]at h;exact h.part.1
theorem As.page {T}(h:As T){k:Nat}{p}(hp:T[k]?=D p):p.ok∧Cb p.K:=by
 have hm:=aL hp;refine⟨h.1 p hm,?_⟩;obtain⟨A,B,rfl⟩:=List.append_of_mem hm;have:=h.2;rw[Di,Ev,Gt]at this;grind
theorem Agj {T}{k}{q p:Pg}(hq:T[k]?=D q)(hp:T[k+1]?=D p):T=T.take k++q::p::T.drop (k+2):=by
 obtain⟨h1,rfl⟩:=aC.1 hq;obtain⟨h2,rfl⟩:=aC.1 hp;simp
theorem As.next {T}(h:As T){k}{q p}(hq:T[k]?=D q)(hp:T[k+1]?=D p):klt (Eh q) (Hz p)=J:=by
 have h1:=(h.page hq).1;have h2:=(h.page hp).1;rw[Agj hq hp]at h;have:=h.2;rw[Di,Ev,Ev,Gt]at this;exact(Gt.1 this.2.1).2.2 _ (Kw h1) _ (eF _ (Acm h2))
theorem Agk {T:List Pg}{k}{p}(h:As (T.take k))(hp:T[k]?=D p)(h1:p.ok)(h2:Cb p.K)(h3:k=0∨∃q,T[k-1]?=D q∧klt (Eh q) (Hz p)=J):As (T.take (k+1)):=by
 rw[bK,hp];refine⟨?_,?_⟩
 ·intro q hq;rcases bC.1 hq with hq|hq
  ·exact h.1 q hq
  grind
 ·rw[Di,Gt];refine⟨h.2,by simpa[Cf]using h2,?_⟩;intro a ha b hb;have ab:=by simpa[Cf]using hb
  rcases h3 with rfl|⟨q,hq,hlt⟩
  ·simp[Cf]at ha
  ·have aa:klt (Eh q) b=J:=by
    rcases Acn h2 ab with rfl|hx
    ·omega
    ·exact Co hlt hx
   have hk:k-1+1=k∨k=0:=by omega
   rcases hk with hk|rfl
   ·have e:T.take k=T.take (k-1)++[q]:=by rw[←hk,bK];simp only[Nat.add_sub_cancel];rw[hq];rfl
    rw[e,Di]at ha;have hg:=h;rw[e]at hg;have ac:=by simpa[Cf]using hg.part.2.2
    rcases bC.1 ha with ha|ha
    ·have:=hg.2;rw[Di,Gt]at this;exact Co (this.2.2 a ha _ (by simpa[Cf]using Kw (hg.1 q (by simp)))) aa
    ·rcases Agh ac (by simpa[Cf]using ha)with rfl|hx
     ·omega
     ·exact Co hx aa
   ·simp[Cf]at ha
theorem Axh {p}{m}(h:p.K.length=m+1):p.K[m]?=D (Eh p):=by
 unfold Eh;grind
theorem Agl {p}(h:0<p.K.length):p.K[0]?=D (Hz p):=by
 unfold Hz;cases hk:p.K with
 |nil=>grind
 |cons a l=>rfl
attribute [local go_sem↓] dZ eA
set_option maxRecDepth 100000
open Go.RowKit
theorem Aab (p)(kv vv)(w)(hk:An w kv p.K)(h0:0<p.K.length)(h4:p.K.length≤4):
  bL aD 241 #[cH #[kv,vv]] w fun e w'=>e=aH (Y (Eh p))∧w'=w.alloc (Z #[kv,vv] 83):=by
 obtain⟨b,ac,cap,rfl,hb,hc,hm,aa⟩:=hk.at h0;obtain⟨m,ab⟩:∃m,p.K.length=m+1:=⟨p.K.length-1,by omega⟩;have c0:=aa m _ (Axh ab);generalize Eh p=s at c0⊢;rw[ab]at hc⊢;have i2:(((m+1:Nat):Int)-1).toNat=m:=by omega
 clear aa hk;go_enter Tryz.func241,Tryz.ntmps241;go_wp2;go_ret;simp
theorem Aip (p:Pg)(b aa cap:Nat)(vv:O)(w:R)(hb:b<w.heap.size)(ad:∀i s,p.K[i]?=D s→w.cell? ⟨b,aa+i,H⟩=D (Y s))(hv:∃ao c,vv=I ao p.K.length c)(h0:0<p.K.length)(h4:p.K.length≤4):
  bL aD 240 #[cH #[I (D ⟨b,aa,H⟩) p.K.length cap,vv]] w fun e w'=>Qk e (Cb p.K)∧M w.heap.size w w':=by
 obtain⟨ao,c,rfl⟩:=hv;have HC:=hid ad;clear ad;generalize hn:p.K.length=n at*;have HN:=hid hn;clear hn;have t1:¬((n:Int)<1):=by omega
 have t2:¬((n:Int)>4):=by omega
 go_enter dL,dF;go_wp2
 go_loopw[3] (fun i wr=>∃k:Nat,k+1≤n∧i=N U ((k:Int)+1)∧M w.heap.size w wr∧wr.cell? ⟨w.heap.size,0,H⟩=D (I (D ⟨b,aa,H⟩) n cap)∧Hid (Cb (p.K.take (k+1)))) (fun i _=>n-(cV i).toNat)
 case atStart=>exact⟨0,h0,rfl,by first|exact(aE _ _).alloc (aA _) _|skip,by first|exact Aa (Ab w _) rfl|skip,hid (by
   have:(p.K.take 1).length≤1:=by simp;omega
   match hx:p.K.take 1,this with
   |[],_=>exact List.Pairwise.nil
   |[a],_=>simp[Cb]
   |_::_::_,h=>simp at h)⟩
 case round=>
  obtain⟨k,hk,rfl,ab,ae,HR⟩:=hrel
  by_cases ah:k+1<n
  ·obtain⟨a,ha⟩:∃a,p.K[k]?=D a:=⟨_,aG (by rw[HN.out];omega)⟩;obtain⟨d,hd⟩:∃d,p.K[k+1]?=D d:=⟨_,aG (by rw[HN.out];omega)⟩;have c0:wr.cell? ⟨b,aa+k,H⟩=D (Y a):=by rw[ab.cell (p:=⟨b,aa+k,H⟩) hb];exact HC.out k a ha
   have c1:wr.cell? ⟨b,aa+(k+1),H⟩=D (Y d):=by rw[ab.cell (p:=⟨b,aa+(k+1),H⟩) hb];exact HC.out (k+1) d hd
   have HS:=hid (fun h=>Ae8 HR.out ha hd h);have HF:=hid (fun h=>A0l h ha hd);clear ha hd;have j0:(0:Int)≤k:=by omega
   have j1:k<(n:Int):=by omega
   have j2:(0:Int)≤k+1:=by omega
   have j3:k+1<(n:Int):=by omega
   have j4:k+1-1=(k:Int):=by omega
   have j5:((k:Int)+1).toNat=k+1:=by omega
   cases ac:klt a d
   ·have af:bD _ _=aZ:=ac;go_wp2;go_quiet(fail);go_wp2;go_ret;exact⟨Ql (fun h=>by have:=HF.out h;grind),by first|exact dK ab _|exact ab.drew⟩
   ·have af:bD _ _=J:=ac;go_wp2;go_quiet(fail);go_wp2;go_roundw
    case rel=>exact⟨_,by omega,by rfl,by first|exact dK ab _|exact ab.drew,ae,hid (HS.out ac)⟩
    case measure=>simp[cV];omega
  ·have ag:k+1=n:=by omega
   have j3:¬(k+1<(n:Int)):=by omega
   go_wp2;go_ret;exact⟨Xk (by have:=HR.out;rwa[ag,←HN.out,bF]at this),ab⟩
theorem Ajx (n m)(ao bo)(c d)(w)(aa:n<1∨4<n∨m≠n)(hn:n≤aW):
  bL aD 240 #[cH #[I ao n c,I bo m d]] w fun e w'=>e=aH (cQ aZ)∧M w.heap.size w w':=by
 unfold aW at hn
 by_cases h1:n<1
 ·obtain rfl:n=0:=by omega
  go_enter dL,dF;go_wp2;go_ret;exact⟨rfl,(aE _ _).alloc (aA _) _⟩
 ·have t1:¬((n:Int)<1):=by omega
  by_cases h2:4<n
  ·have t2:(n:Int)>4:=by omega
   go_enter dL,dF;go_wp2;go_ret;exact⟨rfl,(aE _ _).alloc (aA _) _⟩
  ·have t2:¬((n:Int)>4):=by omega
   have t3:¬(m=(n:Int)):=by omega
   go_enter dL,dF;go_wp2;go_ret;exact⟨rfl,(aE _ _).alloc (aA _) _⟩
theorem Ajy (p:Pg)(kv vv)(w)(hk:An w kv p.K)(hv:An w vv p.V)(hl:p.K.length≤aW):
  bL aD 240 #[cH #[kv,vv]] w fun e w'=>Qk e (p.ok∧Cb p.K)∧M w.heap.size w w':=by
 by_cases h:p.ok
 ·obtain⟨b,aa,cap,rfl,hb,_,_,ab⟩:=hk.at h.1;refine(Aip p b aa cap vv w hb ab (by obtain⟨ao,c,e⟩:=hv.shape;exact⟨ao,c,by rw[e,h.2.2]⟩) h.1 h.2.1).mono ?_;grind
 ·obtain⟨ao,c,rfl⟩:=hk.shape;obtain⟨bo,d,rfl⟩:=hv.shape;refine(Ajx _ _ ao bo c d w (by unfold Pg.ok at h;omega) hl).mono ?_;rintro e w' ⟨rfl,ac⟩;exact⟨Ql fun x=>h x.1,ac⟩
theorem Aqx (ao)(c)(w):bL aD 182 #[cH #[I ao 0 c]] w fun e w'=>Qk e (As [])∧M w.heap.size w w':=by
 go_enter Tryz.func182,Tryz.ntmps182;go_wp2;refine wp_loop_rounds 1 ?_;rw[dJ];go_wp2;go_ret;exact⟨Xk ⟨by simp,by simp[Cf]⟩,(aE _ _).alloc (aA _) _⟩
theorem Ajz {w a b c}(h:M w.heap.size w a)(k:M a.heap.size a b)(l:M b.heap.size b c):M w.heap.size w c:=Ac (Ac h k) l
theorem Atj (T:List Pg)(b ac cap:Nat)(w:R)(hb:b<w.heap.size)(hT:T8 w b ac T)(hn:T.length≤cap)(hm:cap≤aW)(hl:∀p∈T,p.K.length≤aW):
  bL aD 182 #[cH #[I (D ⟨b,ac,H⟩) T.length cap]] w fun e w'=>Qk e (As T)∧M w.heap.size w w':=by
 have HL:=hid hl;clear hl;generalize hN:T.length=n at*;have HN:=hid hN;clear hN;unfold aW at hm;go_enter Tryz.func182,Tryz.ntmps182;go_wp2
 go_loopw[8] (fun i wr=>∃k:Nat,k≤n∧i=N U k∧M w.heap.size w wr∧wr.cell? ⟨w.heap.size,0,H⟩=D (I (D ⟨b,ac,H⟩) n cap)∧Hid (As (T.take k))) (fun i _=>n-(cV i).toNat)
 case atStart=>exact⟨0,aN _,rfl,(aE _ _).alloc (aA _) _,Aa (Ab w _) rfl,hid ⟨by simp,by simp[Cf,Cb]⟩⟩
 case round=>
  obtain⟨k,hk,rfl,ad,ag,HG⟩:=hrel
  by_cases bg:k<n
  ·obtain⟨p,hp⟩:∃p,T[k]?=D p:=⟨_,aG (by rw[HN.out];omega)⟩;have ai:T8 wr b ac T:=by
    intro i q hi;obtain⟨kv,vv,h1,h2,h3,h4⟩:=hT i q hi;exact⟨kv,vv,by rw[ad.cell (p:=⟨b,ac+i*2,H⟩) hb];exact h1,by rw[ad.cell (p:=⟨b,ac+i*2+1,H⟩) hb];exact h2,h3.keep ad (aA _),h4.keep ad (aA _)⟩
   obtain⟨kv,vv,c0,c1,aj,an⟩:=ai k p hp;obtain⟨va,vc,rfl⟩:=an.shape;have ap:b<wr.heap.size:=aF hb ad.size;have aq:w.heap.size<wr.heap.size:=block_lt_of_cell ag;have ar:=HL.out p (aL hp);obtain⟨aa,-,bb⟩:=al1 wr (Z #[kv,I va p.V.length vc] 83);have gp:=Ajy p kv (I va p.V.length vc) (wr.alloc (Z #[kv,I va p.V.length vc] 83)) (aj.below aa) (an.below aa) ar;have au:(wr.alloc (Z #[kv,I va p.V.length vc] 83)).cell? ⟨wr.heap.size,0,H⟩=D kv:=Aa (Ab wr _) rfl;have i0:(0:Int)≤(k:Int):=by omega
   have i1:(k:Int)<(n:Int):=by omega
   clear hT ar
   by_cases ae:p.ok∧Cb p.K
   ·have af:=gp.mono (R':=fun e w'=>e=aH (cQ J)∧M (wr.alloc (Z #[kv,I va p.V.length vc] 83)).heap.size (wr.alloc (Z #[kv,I va p.V.length vc] 83)) w') (fun e w' h=>⟨h.1.yes ae,h.2⟩);clear gp;have av:0<p.K.length:=ae.1.1;obtain⟨kb,ko,kc,rfl,bc,bh,bi,aw⟩:=aj.at av;have cf:=aw 0 _ (Agl av);rcases aK k with rfl|hkp
    ·simp only[Nat.zero_mul,cD]at c0 c1;go_wp2_with(refine af.mono ?_;rintro e w2 ⟨rfl,ab⟩);go_quiet(fail);go_wp2;go_roundw
     case rel=>exact⟨_,by omega,by rfl,by first|exact dK (Ajz ad aa ab) _|exact(Ajz ad aa ab).drew,by first|exact(ab.cell (by grind)).trans ((aa.cell aq).trans ag)|skip,hid (Agk HG.out hp ae.1 ae.2 (.inl rfl))⟩
     case measure=>simp[cV];omega
    ·obtain⟨j,ax⟩:∃j,k=j+1:=⟨k-1,by omega⟩;obtain⟨q,hq⟩:∃q,T[j]?=D q:=⟨_,aG (by rw[HN.out];omega)⟩;obtain⟨kq,vq,d0,d1,bd,bj⟩:=ai j q hq;have ay:=by have:=HG.out;exact this.1 q (aL (i:=j) (by grind))
     have az:=hid (fun h=>Agk HG.out hp ae.1 ae.2 (.inr ⟨q,by grind,h⟩));have ba:=hid (fun h:As T=>h.next hq (by rw[←ax];exact hp));have j0:(0:Int)≤j:=by omega
     have j1:j<(n:Int):=by omega
     have j2:k-1=(j:Int):=by omega
     have j3:(k:Int)>0:=by omega
     have j5:IntKind.i64.wrap (k-1)=j:=by rw[eG];omega
     have j6:IntKind.i64.wrap j=j:=by rw[eG];omega
     clear ai hp hq ax;go_wp2_with(refine af.mono ?_;rintro e w2 ⟨rfl,ab⟩);have ah:=Ajz ad aa ab;have e0:=(ab.cell (by simp;omega)).trans ((aa.cell aq).trans ag);have e1:=(ab.cell (by simp;omega)).trans ((aa.cell ap).trans d0);have e2:=(ab.cell (by simp;omega)).trans ((aa.cell ap).trans d1);have e3:=(ab.cell (by simp)).trans au;have e4:=(ab.cell (by simp;omega)).trans ((aa.cell (p:=⟨kb,ko,H⟩) bc).trans cf);have lk:=fun W hW=>Aab q kq vq W (((bd.below aa).below ab).below hW) ay.1 ay.2.1
     have g0:(0:Int)<p.K.length:=by omega
     generalize p.K.length=pn at*;have ak:=hid (show klt _ _=J→As _ from az.out);have al:=hid (show As T→klt _ _=J from ba.out);generalize Eh q=lq at lk ak al;generalize Hz p=fp at e4 ak al;clear az ba d0 d1 ag au cf c0 c1 aw af bb;cases am:klt lq fp
     ·have be:bD _ _=aZ:=am
      go_region_held3(fun w'=>w'.cell? ⟨w.heap.size,0,H⟩=D (I (D ⟨b,ac,H⟩) n cap)∧w'.cell? ⟨b,ac+j*2,H⟩=D kq∧w'.cell? ⟨b,ac+j*2+1,H⟩=D vq∧w'.cell? ⟨wr.heap.size,0,H⟩=D (I (D ⟨kb,ko,H⟩) pn kc)∧w'.cell? ⟨kb,ko,H⟩=D (Y fp)) (first|go_keep|skip)
       (first|(refine(lk _ ((aE _ _).drew)).mono ?_;rintro e w3 ⟨rfl,rfl⟩))
      go_wp2;go_ret;exact⟨Ql (fun h=>by have:=al.out h;grind),ah.drew.alloc (by simp;exact bV ah.size (aA _)) _⟩
     ·have be:bD _ _=J:=am
      go_region_held3(fun w'=>w'.cell? ⟨w.heap.size,0,H⟩=D (I (D ⟨b,ac,H⟩) n cap)∧w'.cell? ⟨b,ac+j*2,H⟩=D kq∧w'.cell? ⟨b,ac+j*2+1,H⟩=D vq∧w'.cell? ⟨wr.heap.size,0,H⟩=D (I (D ⟨kb,ko,H⟩) pn kc)∧w'.cell? ⟨kb,ko,H⟩=D (Y fp)) (first|go_keep|skip)
       (first|(refine(lk _ ((aE _ _).drew)).mono ?_;rintro e w3 ⟨rfl,rfl⟩))
      go_wp2;go_roundw
      case rel=>exact⟨_,by omega,by rfl,ah.drew.alloc (by simp;exact bV ah.size (aA _)) _,by grind,hid (ak.out am)⟩
      case measure=>simp[cV];omega
   ·obtain⟨ka,kc,rfl⟩:=aj.shape;have af:=gp.mono (R':=fun e w'=>e=aH _∧M _ _ w') (fun e w' h=>⟨h.1.no ae,h.2⟩);clear gp;go_wp2_with(refine af.mono ?_;rintro e w2 ⟨rfl,ab⟩);go_ret;exact⟨Ql fun h=>ae (h.page hp),(ad.trans (aa.mono ad.size)).trans (ab.mono (bV ad.size aa.size))⟩
  ·have bf:k=n:=by omega
   subst bf;go_wp2;go_ret;exact⟨Xk (by have:=HG.out;rwa[←HN.out,bF]at this),ad⟩
end
section
open Go.RowKit
theorem Li (z:O)(n):(aY z.cells n).size=n*z.cells.size:=by
 simp[aY]
theorem Abj {w:R}{t}{z:O}{size n G}(hz:z.cells.size=size)(hn:n≤G)(hG:G≤aW):
  (w.drew.alloc (Z (([]:List O).toArray++aY z.cells n++aY z.cells (G-n)) t)).ownsRow w.heap.size t size (I (D ⟨w.heap.size,0,H⟩) 0 G) 0 []:=by
 refine⟨by simp,.inr ⟨_,G,_,rfl,aA _,Ab _ _,aN _,hG,?_,by simp⟩⟩;rw[cN,cN,Li,Li,hz];simp only[List.size_toArray,dU,bU];rw[←Nat.add_mul];grind
theorem Agm:(Tryz.prog.info? 83).map (fun i=>(i.zero,i.size,i.bytes))=D (D (cH #[I H 0 0,I H 0 0]),2,48):=by kernel_rfl
theorem Ke:(Tryz.prog.info? 9).map (fun i=>(i.zero,i.size,i.bytes))=D (D (Y ⟨#[]⟩),1,16):=by kernel_rfl
theorem A3m (n:Nat)(w)(hn:n*48≤140737488355328):
  bL aD 304 #[I H 0 0,N U n] w fun e w'=>∃v,e=aH v∧w'.ownsRow w.heap.size 83 2 v 0 []∧M w.heap.size w w':=by
 obtain⟨i0,hi,aa,ab,ac⟩:=eB Agm;rcases aK n with rfl|h0
 ·refine(eD Tryz.laysGrowP H 0 0 0 w (aA _) (by omega) (by omega) (by omega)).mono ?_;rintro e w' ⟨rfl,rfl⟩;exact⟨_,rfl,eI _ _ _ _,aE _ _⟩
 ·refine(eE Tryz.laysGrowP i0 _ hi aa (by omega) H 0 0 n [] w (by omega) (by omega) (by grind) (by omega) (by simp) (fun _=>rfl) (fun a h=>by simp)).mono ?_;rintro e w' ⟨rfl,rfl⟩;rw[bU];have hG:cW w n 0 83≤aW:=dS w n 0 _ (by unfold aW;omega);exact⟨_,rfl,Abj rfl (fQ w n 0 83) hG,((aE _ w).drew).alloc (aA _) _⟩
theorem A3n (n:Nat)(w)(hn:n*16≤140737488355328):
  bL aD 346 #[I H 0 0,N U n] w fun e w'=>∃v,e=aH v∧w'.ownsRow w.heap.size 9 1 v 0 []∧M w.heap.size w w':=by
 obtain⟨i0,hi,aa,ab,ac⟩:=eB Ke;rcases aK n with rfl|h0
 ·refine(eD Tryz.laysGrowS H 0 0 0 w (aA _) (by omega) (by omega) (by omega)).mono ?_;rintro e w' ⟨rfl,rfl⟩;exact⟨_,rfl,eI _ _ _ _,aE _ _⟩
 ·refine(eE Tryz.laysGrowS i0 _ hi aa (by omega) H 0 0 n [] w (by omega) (by omega) (by grind) (by omega) (by simp) (fun _=>rfl) (fun a h=>by simp)).mono ?_;rintro e w' ⟨rfl,rfl⟩;rw[bU];have hG:cW w n 0 9≤aW:=dS w n 0 _ (by unfold aW;omega);exact⟨_,rfl,Abj rfl (fQ w n 0 9) hG,((aE _ w).drew).alloc (aA _) _⟩
theorem A0m (K1 K2:List ByteArray)(k)(h1:∀x∈K1,klt x k=J)(h2:∀x∈K2,klt x k=aZ):
  Lib.bsGo (fun t=>bD ((K1++K2).getD t k).toList k.toList) (K1++K2).length 0 (K1++K2).length=K1.length:=by
 refine Lib.bsGo_spec _ _ ?_ ?_ _ _ _ (by omega) (by omega) (by simp)
 ·intro t ht;show klt _ k=J;grind
 ·intro t ht;show klt _ k=aZ;rw[bO,bN ht];cases hg:K2[t-K1.length]? with
  |none=>exact Gs k
  |some x=>grind
theorem U3 (K1 K2)(k)(kv)(w)(hk:An w kv (K1++K2))(h1:∀x∈K1,klt x k=J)(h2:∀x∈K2,klt x k=aZ)(ab:(K1++K2).length≤4):
  bL aD 235 #[kv,Y k] w fun e w'=>e=aH (fU #[N U K1.length,cQ (decide (K2.head? =D k))])∧M w.heap.size w w':=by
 rcases aK (K1++K2).length with h0|h0
 ·have he:=aI h0;obtain⟨rfl,rfl⟩:=List.append_eq_nil_iff.1 he;obtain⟨ao,cap,rfl⟩:=hk.shape;refine(Any2.slices_BinarySearch_string_empty Tryz.laysFind ao cap k w).mono ?_;rintro e w' ⟨rfl,rfl⟩;exact⟨rfl,aE _ _⟩
 ·obtain⟨b,aa,cap,rfl,hb,_,_,hc⟩:=hk.at h0;refine(Any2.slices_BinarySearch_string Tryz.laysFind b aa _ cap (fun t=>(K1++K2).getD t k) k w (by omega) ?_).mono ?_
  ·grind
  ·rintro e w' ⟨rfl,q,rfl⟩;rw[A0m K1 K2 k h1 h2];refine⟨?_,dK (aE _ _) q⟩;have hd:(K1.length<(K1++K2).length∧(K1++K2).getD K1.length k=k)↔K2.head? =D k:=by
    cases K2 with
    |nil=>simp
    |cons y K=>simp
   grind
def Cs (w:R)(B g cap:Nat)(L:List ByteArray):Prop:=B≤g∧w.ownsRow B 9 1 (I (D ⟨g,0,H⟩) L.length cap) L.length (L.map Y)
theorem Agn (L)(sv)(w)(h:An w sv L)(h0:0<L.length)(hl:L.length≤8):
  bL aD 24 #[sv] w fun e w'=>∃g cap,e=aH (I (D ⟨g,0,H⟩) L.length cap)∧Cs w' w.heap.size g cap L∧M w.heap.size w w':=by
 obtain⟨b,aa,cap,rfl,hb,_,_,hc⟩:=h.at h0;refine(Any.slices_Clone_string Tryz.laysClone b aa _ cap L w (aA _) (by omega) ?_).mono ?_
 ·grind
 ·rintro e w' ⟨v,rfl,ho,_,hb⟩;rw[bF]at ho;rcases ho.2 with⟨_,hz⟩|⟨g,c,cur,rfl,hg,_⟩
  ·omega
  ·exact⟨g,c,rfl,⟨hg,ho⟩,hb⟩
attribute [local go_sem↓] dZ eA
end
section
set_option maxRecDepth 100000
open Go.RowKit Go.Sort
theorem Atk (T)(tb xb b aa cap i:Nat)(p)(k)(W)(hp:T[i]?=D p)(ab:p.ok)(hT:T8 W b aa T)
  (ht:W.cell? ⟨tb,0,H⟩=D (I (D ⟨b,aa,H⟩) T.length cap)) (hx:W.cell? ⟨xb,0,H⟩=D (Y k)):
  bL aD 297 (#[N U i]++#[.pointer (D ⟨tb,0,H⟩),.pointer (D ⟨xb,0,H⟩)]) W fun e w'=>e=aH (cQ (!klt (Eh p) k))∧∃q os,w'=grow (W.drewN q) os:=by
 obtain⟨kv,vv,c0,c1,hk,hv⟩:=hT i p hp;have ac:=(aC.1 hp).1;have lk:=fun W' h=>Aab p kv vv W' (hk.below h) ab.1 ab.2.1
 obtain⟨va,vc,rfl⟩:=hv.shape;obtain⟨ka,kc,rfl⟩:=hk.shape;unfold klt;generalize Eh p=lq at lk⊢;generalize T.length=n at*;have i0:(0:Int)≤i:=by omega
 have i1:i<(n:Int):=by omega
 clear hT hk hv hp ab;generalize ad:bD _ _=bl;go_enter Tryz.func297,Tryz.ntmps297;go_wp2
 go_region_held3(fun w'=>w'.cell? ⟨tb,0,H⟩=D (I (D ⟨b,aa,H⟩) n cap)∧w'.cell? ⟨b,aa+i*2,H⟩=D (I ka p.K.length kc)∧w'.cell? ⟨b,aa+i*2+1,H⟩=D (I va p.V.length vc)∧w'.cell? ⟨xb,0,H⟩=D (Y k)) (first|go_keep|skip)
  (first|(refine(lk _ ((aE _ _).drew)).mono ?_;rintro e w3 ⟨rfl,rfl⟩))
 all_goals go_wp2
 all_goals go_ret
 all_goals exact⟨by rfl,1,_,alloc_eq_grow W.drew _⟩
theorem Anf (T:List Pg)(f):(List.range T.length).countP (fun i=>f (T.getD i pg0))=T.countP f:=by
 induction T with
 |nil=>rfl
 |cons x T ih=>
  rw[aM,List.range_succ_eq_map,dQ,List.countP_map,dQ]
  congr 1
theorem Atl {T}(h:As T)(k):∀a b,a≤b→b<T.length→(!klt (Eh (T.getD a pg0)) k)=J→(!klt (Eh (T.getD b pg0)) k)=J:=by
 obtain⟨A,B,e,hc,ha,hb⟩:=Tl T h k;intro a b ab ac h1;have hA:A.length≤a:=by
  rcases Nat.lt_or_ge a A.length with hlt|hge
  ·exfalso;have hg:T.getD a pg0=A[a]:=by rw[e,bO,bW hlt,aG hlt];rfl
   rw[hg]at h1;have aa:A[a].ok:=h.1 _ (by grind);have:=ha _ (fO.2 ⟨_,List.getElem_mem hlt,Kw aa⟩);grind
  ·omega
 grind
def pf (T:List Pg)(k:ByteArray):Nat:=T.countP fun p=>klt (Eh p) k
theorem Nu (T)(tv)(k)(w)(ht:Bi w tv T)(hg:As T)(hn:T.length*48≤140737488355328):
  bL aD 234 #[tv,Y k] w fun e w'=>e=aH (N U (pf T k))∧M w.heap.size w w':=by
 obtain⟨sv,rfl,hs⟩:=ht;obtain⟨so,aa,rfl⟩:∃so aa,sv=I so T.length aa:=by obtain⟨rows,h1,_⟩:=hs;exact h1.shape
 obtain⟨W0,ab⟩:∃W0,W0=(w.alloc (Z #[I so T.length aa] 44)).alloc (Z #[Y k] 9):=⟨_,rfl⟩;have aj:W0.heap.size=w.heap.size+1+1:=by rw[ab];simp
 have ad:M w.heap.size w W0:=by rw[ab];exact((aE _ w).alloc (aA _) _).alloc (by simp) _
 have ca:W0.cell? ⟨w.heap.size,0,H⟩=D (I so T.length aa):=by
  rw[ab];exact Aa (Ad (Ab w _) _) rfl
 have cx:W0.cell? ⟨w.heap.size+1,0,H⟩=D (Y k):=by
  rw[ab];have:=Ab (w.alloc (Z #[I so T.length aa] 44)) (Z #[Y k] 9);rw[eX]at this;exact Aa this rfl
 have eg:∀args w,(callFunc 297 args).run _ w=.ok _ w:=enters_of Tryz.func297 (by rfl) rfl;have hS:=Any.sort_Search Tryz.laysSearch 297 _ _ _ W0 eg (by omega)
  (fun m os i hi=>by
   have ac:M W0.heap.size W0 (grow (W0.drewN m) os):=below_grown_sl W0.heap.size W0 m os (aA _);obtain⟨b,ah,cap,ae,hb,_,_,hT⟩:=hs.at (by omega);have af:T[i]?=D (T.getD i pg0):=by rw[bO,aG hi];rfl
   have ai:b<W0.heap.size:=by omega
   refine Atk T w.heap.size (w.heap.size+1) b ah aa i (T.getD i pg0) k _ af (hg.1 _ (aL af)) ((hT.below ad hb).below ac ai) ?_ ?_
   ·rw[ac.cell (p:=⟨w.heap.size,0,H⟩) (by simp only;omega),ca];simp only[dC]at ae;rw[ae.1]
   ·rw[ac.cell (p:=⟨w.heap.size+1,0,H⟩) (by simp only;omega),cx])
  (Atl hg k)
 have ag:(List.range T.length).countP (fun i=>!(!klt (Eh (T.getD i pg0)) k))=pf T k:=by
  simp only[Bool.not_not];exact Anf T fun p=>klt (Eh p) k
 rw[ag]at hS;clear ca cx ag;generalize pf T k=r at hS⊢;generalize T.length=n at*;go_enter Tryz.func234,Tryz.ntmps234;go_wp2_with(go_at_call 296;go_must(rw[←ab];refine hS.mono ?_;rintro e w' ⟨rfl,q,os,rfl⟩));go_ret;refine⟨rfl,?_⟩;rw[←ab];exact ad.trans (below_grown_sl _ W0 q os (by omega))
def Ua (T:List Pg)(k:ByteArray)(pg pl:Nat)(th:Bool):Prop:=
 ∀(tv:O) (w:R),Bi w tv T→bL aD 183 #[tv,Y k] w fun e w'=>e=aH (fU #[N U pg,N U pl,cQ th])∧M w.heap.size w w'
theorem U4 (T)(k)(hg:As T)(hn:T.length*48≤140737488355328):∃(pg pl:Nat) (th:Bool),Aqw T k pg pl th∧Ua T k pg pl th:=by
 obtain⟨A,B,e,hc,ha,hb⟩:=Tl T hg k
 change pf T k=A.length at hc
 cases B with
 |nil=>
  refine⟨_,0,aZ,.inl ⟨rfl,rfl,rfl,by grind⟩,fun tv w ht=>?_⟩;have ab:=fun W h=>Nu T tv k W (ht.below h) hg hn
  obtain⟨sv,rfl,hs⟩:=ht;rw[hc]at ab;obtain⟨so,aa,rfl⟩:∃so aa,sv=I so T.length aa:=by obtain⟨rows,h1,_⟩:=hs;exact h1.shape
  have ac:M _ w (w.alloc (Z #[I so T.length aa] 44)):=(aE _ w).alloc (aA _) _;have ai:(w.alloc (Z #[I so _ aa] 44)).cell? ⟨_,0,H⟩=D (I so T.length aa):=Aa (Ab w _) rfl;have ae:=ab _ ac;have aj:w.heap.size<(w.alloc (Z #[I so T.length aa] 44)).heap.size:=by simp
  have hl:A.length=T.length:=by rw[e,aO]
  clear e ha hb hs hg ab;rw[hl]at ae;generalize T.length=n at*;go_enter Tryz.func183,Tryz.ntmps183;go_wp2_with(refine ae.mono ?_;rintro e w1 ⟨rfl,ad⟩;have ar:w1.cell? ⟨w.heap.size,0,H⟩=D (I so n aa):=(ad.cell (p:=⟨w.heap.size,0,H⟩) aj).trans ai);refine eW (v:=fU #[N U n,N U 0,cQ aZ]) (by simp[results,Tryz.results183,go_sem]) rfl ?_;exact⟨rfl,ac.trans (ad.mono ac.size)⟩
 |cons p B=>
  have aw:A.length<T.length:=by rw[e];simp
  have ak:T[A.length]?=D p:=by rw[e];simp
  have af:=hg.page ak;obtain⟨K1,K2,hK,ag,al⟩:=U2 p.K af.2 k;cases an:K2 with
  |nil=>
   exfalso;subst an;have:=ag (Eh p) (by have:=Kw af.1;grind);grind
  |cons y K3=>
   subst an;refine⟨A.length,K1.length,decide (y=k),.inr ⟨A,p,B,K1,y,K3,e,hK,rfl,rfl,ha,ag,al y (by simp),rfl⟩,fun tv w ht=>?_⟩;have ab:=fun W (h:M w.heap.size w W)=>Nu T tv k W (ht.below h) hg hn
   obtain⟨sv,rfl,hs⟩:=ht;rw[hc]at ab;obtain⟨so,aa,rfl⟩:∃so aa,sv=I so T.length aa:=by obtain⟨rows,h1,_⟩:=hs;exact h1.shape
   have ac:M w.heap.size w (w.alloc (Z #[I so T.length aa] 44)):=(aE _ w).alloc (aA _) _;have ai:(w.alloc (Z #[I so T.length aa] 44)).cell? ⟨w.heap.size,0,H⟩=D (I so T.length aa):=Aa (Ab w _) rfl;have ae:=ab _ ac;have aj:w.heap.size<(w.alloc (Z #[I so T.length aa] 44)).heap.size:=by simp
   obtain⟨b,ax,cap,ap,au,_,_,hT⟩:=hs.at (by omega);simp only[dC]at ap;obtain⟨rfl,_,rfl⟩:=ap;obtain⟨kv,vv,c0,c1,hk,hv⟩:=hT _ p ak;have am:=hk;rw[hK]at am;have sr:=fun W h=>U3 K1 _ k kv W (am.below h) ag al (by rw[←hK];exact af.1.2.1)
   obtain⟨ka,kc,rfl⟩:=hk.shape;have aq:(decide ((y::K3).head? =D k))=decide (y=k):=by simp
   rw[aq]at sr;generalize decide (y=k)=th at sr⊢;clear e ha hb hs hg ab hK am af hT ak hv ag al aq;generalize ay:A.length=a at*;generalize az:K1.length=kl at*;have i0:(0:Int)≤a:=by omega
   have i1:a<(T.length:Int):=by omega
   generalize ba:T.length=n at*;go_enter Tryz.func183,Tryz.ntmps183;go_wp2_with(first
    |(refine ae.mono ?_;rintro e w1 ⟨rfl,ad⟩;have ar:=(ad.cell aj).trans ai;have ah:=ac.trans (ad.mono ac.size);have ck:=(ah.cell au).trans c0)
    |(refine(sr _ ah).mono ?_;rintro e w2 ⟨rfl,av⟩))
   refine eW (v:=fU #[N U a,N U kl,cQ th]) (by simp[results]) rfl ?_;exact⟨rfl,ah.trans (av.mono ah.size)⟩
end
section
open Go.RowKit
theorem Bi.keysLen {w}{tv}{T}(h:Bi w tv T):∀p∈T,p.K.length≤aW:=by
 intro p hp;obtain⟨sv,_,rows,_,hr⟩:=h;obtain⟨i,hi⟩:=List.getElem?_of_mem hp;obtain⟨r,_,hk,_⟩:=hr.at hi;rcases aK p.K.length with h0|h0
 ·omega
 ·obtain⟨b,aa,cap,_,_,h1,h2,_⟩:=hk.at h0;omega
theorem Ago (T)(tv)(w)(h:Bi w tv T):
  bL aD 182 #[tv] w fun e w'=>Qk e (As T)∧M w.heap.size w w':=by
 have hl:=h.keysLen;obtain⟨sv,rfl,hs⟩:=h;rcases aK T.length with h0|h0
 ·obtain⟨ao,cap,rfl,_⟩:=hs.empty h0;obtain rfl:=aI h0;exact Aqx ao cap w
 ·obtain⟨b,aa,cap,rfl,hb,hc,hm,hT⟩:=hs.at h0;exact Atj T b aa cap w hb hT hc hm hl
theorem I3 (T)(tv)(w)(h:Bi w tv T)(hg:As T):
  bL aD 182 #[tv] w fun e w'=>e=aH (cQ J)∧M w.heap.size w w':=
 (Ago T tv w h).mono fun _ _ h=>⟨h.1.yes hg,h.2⟩
theorem A0n (T)(tv)(w)(h:Bi w tv T)(hg:¬As T):
  bL aD 182 #[tv] w fun e w'=>e=aH (cQ aZ)∧M w.heap.size w w':=
 (Ago T tv w h).mono fun _ _ h=>⟨h.1.no hg,h.2⟩
def Aco (o:Option ByteArray):O:=fU #[Y (o.getD ⟨#[]⟩),cQ o.isSome]
theorem A2o {K1 K3 V:List ByteArray}{y}(h:V.length=(K1++y::K3).length):∃V1 v V3,V=V1++v::V3∧V1.length=K1.length∧V3.length=K3.length∧(K1++y::K3).zip V=K1.zip V1++(y,v)::K3.zip V3:=by
 have hl:K1.length<V.length:=by rw[h];simp
 refine⟨V.take K1.length,V[K1.length],V.drop (K1.length+1),?_,?_,?_,?_⟩
 ·simp
 ·grind
 ·grind
 ·have e:V=V.take K1.length++V[K1.length]::V.drop (K1.length+1):=by rw[←List.drop_eq_getElem_cons hl,dB]
  conv=>lhs;rw[e]
  rw[List.zip_append (by grind)];rfl
theorem Pk {A B}{p}{K1 K3}{k}(hg:As (A++p::B))(hp:p.K=K1++k::K3)(hA:∀x∈Cf A,klt x k=J)(hK:∀x∈K1,klt x k=J):
  ∃V1 v V3,p.V=V1++v::V3∧V1.length=K1.length∧V3.length=K3.length∧Cut (flat (A++p::B)) k (flat A++K1.zip V1) (D v) (K3.zip V3++flat B):=by
 have ab:=(hg.1 p (by simp)).2.2;rw[hp]at ab;obtain⟨V1,v,V3,e,h1,h3,hz⟩:=A2o ab;have ad:∀q∈A,q.ok:=fun q hq=>hg.1 q (by grind)
 have ae:∀q∈B,q.ok:=fun q hq=>hg.1 q (by grind)
 have hr:=hg.2;rw[Di,Ev,hp]at hr;have ac:=(Gt.1 hr).2.1;rw[dN]at ac;have aa:=(Gt.1 ac).2.1;rw[Cb,fP,cK]at aa;refine⟨V1,v,V3,e,h1,h3,?_,?_,?_⟩
 ·rw[Bg,E6,hp,hz];simp
 ·intro x hx;rcases bC.1 hx with hx|hx
  ·exact hA _ (by rw[←Hs ad];grind)
  ·exact hK _ (fT hx).1
 ·intro x hx;rcases bC.1 hx with hx|hx
  ·exact aa.1 _ (eF _ (fT hx).1)
  ·exact aa.1 _ (List.mem_append_right _ (by rw[←Hs ae];grind))
theorem Aj0 (T:List Pg)(tv:O)(k:ByteArray)(w:R)(h:Bi w tv T)(hg:As T)(hn:T.length*48≤140737488355328):
  bL aD 193 #[tv,Y k] w fun e w'=>e=aH (Aco (Hy (flat T) k))∧M w.heap.size w w':=by
 obtain⟨pg,pl,th,hF,fi⟩:=U4 T k hg hn;have gc:=fun W (hW:M w.heap.size w W)=>I3 T tv W (h.below hW) hg
 have fc:=fun W (hW:M w.heap.size w W)=>fi tv W (h.below hW)
 obtain⟨sv,rfl,hs⟩:=h;have ah:=hs;obtain⟨so,ab,rfl⟩:∃so ab,sv=I so T.length ab:=by obtain⟨rows,h1,_⟩:=hs;exact h1.shape
 have ad:M w.heap.size w (w.alloc (Z #[I so T.length ab] 44)):=(aE _ w).alloc (aA _) _;have ai:(w.alloc (Z #[I so T.length ab] 44)).cell? ⟨w.heap.size,0,H⟩=D (I so T.length ab):=Aa (Ab w _) rfl;have g0:=gc _ ad;have af:w.heap.size<(w.alloc (Z #[I so T.length ab] 44)).heap.size:=by simp
 cases th with
 |false=>
  obtain⟨F1,o,F2,c,ho⟩:=hF.cut hg;have aj:o=H:=by
   cases o with
   |none=>rfl
   |some v=>grind
  rw[c.get,aj];clear c ho aj hF fi hg hs ah gc;generalize T.length=n at*;go_enter Tryz.func193,Tryz.ntmps193;go_wp2_with(first
   |(refine g0.mono ?_;rintro e w1 ⟨rfl,ac⟩;have ak:=(ac.cell (p:=⟨w.heap.size,0,H⟩) af).trans ai;have aa:=ad.trans (ac.mono ad.size))
   |(refine(fc _ aa).mono ?_;rintro e w2 ⟨rfl,ae⟩))
  go_ret2;exact⟨rfl,aa.trans (ae.mono aa.size)⟩
 |true=>
  rcases hF with⟨_,_,h,_⟩|⟨A,p,B,K1,y,K3,rfl,hp,rfl,rfl,hA,hK,hy,hth⟩
  ·cases h
  have ap:y=k:=of_decide_eq_true hth.symm;subst ap;obtain⟨V1,v,V3,hV,aq,ar,c⟩:=Pk hg hp hA hK;rw[c.get];have al:(A++p::B)[A.length]?=D p:=by simp
  have ax:A.length<(A++p::B).length:=by simp
  obtain⟨b,ay,cap,am,au,_,_,hT⟩:=hs.at (by omega);simp only[dC]at am;obtain⟨rfl,_,rfl⟩:=am;obtain⟨kv,vv,c0,c1,hk,hv⟩:=hT _ p al;have az:K1.length<p.V.length:=by rw[hV,bH,aM];omega
  obtain⟨vb,vo,vc,rfl,av,ba,_,an⟩:=hv.at (by omega);have cv:=an K1.length v (by grind);clear c hs ah gc fi hg hT an hk hv hp hA hK hy hth hV aq ar al;generalize A.length=a at*;generalize K1.length=kl at*;generalize p.V.length=vl at*;generalize(A++p::B).length=n at*;have i0:(0:Int)≤a:=by omega
  have i1:a<(n:Int):=by omega
  have i2:(0:Int)≤kl:=by omega
  have i3:kl<(vl:Int):=by omega
  go_enter Tryz.func193,Tryz.ntmps193;go_wp2_with(first
   |(refine g0.mono ?_;rintro e w1 ⟨rfl,ac⟩;have ak:=(ac.cell af).trans ai;have aa:=ad.trans (ac.mono ad.size);have aw:=aF af ac.size)
   |(refine(fc _ aa).mono ?_;rintro e w2 ⟨rfl,ae⟩;have bb:=(ae.cell aw).trans ak;have ag:=aa.trans (ae.mono aa.size);have bc:=(ag.cell au).trans c1;have bd:=(ag.cell av).trans cv))
  go_ret2;exact⟨rfl,ag⟩
abbrev U5:=List (O×Nat×List O)
def U5.sum (X:U5):Nat:=(X.map fun x=>x.2.1).sum
def U5.all (X:U5):List O:=X.flatMap fun x=>x.2.2
theorem U5.sum_take (X:U5)(i)(x)(h:X[i]?=D x):U5.sum (X.take (i+1))=U5.sum (X.take i)+x.2.1:=by
 unfold U5.sum;rw[bK,h];simp
theorem U5.all_take (X:U5)(i)(x)(h:X[i]?=D x):U5.all (X.take (i+1))=U5.all (X.take i)++x.2.2:=by
 unfold U5.all;rw[bK,h];simp
theorem U5.sum_le (X)(i):U5.sum (X.take i)≤U5.sum X:=by
 unfold U5.sum
 conv=>rhs;rw[←dB i X]
 grind
theorem A0o (X:U5)(g:Nat)(cap:Nat)(w:R)(hg:g<w.heap.size)(hc:∀i x,X[i]?=D x→w.cell? ⟨g,i,H⟩=D x.1)(hX:∀x∈X,Eu 2 w x.1 x.2.1 x.2.2∧∀u∈x.2.2,u.oneCell'=J)
  (az:X.length≤3) (hs:U5.sum X*48≤140737488355328):
  bL aD 242 #[I (D ⟨g,0,H⟩) X.length cap] w fun e w'=>∃v,e=aH v∧Eu 2 w' v (U5.sum X) (U5.all X)∧M w.heap.size w w':=by
 obtain⟨i0,hi,an,ap,aq⟩:=eB Agm;have HX:=hid hX;have HC:=hid hc;clear hX hc;generalize ar:U5.sum X=S at hs⊢;have HS:=hid ar;clear ar;go_enter Tryz.func242,Tryz.ntmps242;go_wp2
 go_loopw[3,11] (fun z i wr=>∃k s:Nat,k≤X.length∧s≤S∧i=N U k∧z=N U s∧w=wr∧Hid (s=U5.sum (X.take k))) (fun _ i _=>X.length-(cV i).toNat)
 case atStart=>exact⟨0,0,aN _,aN _,rfl,rfl,rfl,hid (by simp[U5.sum])⟩
 case round=>
  obtain⟨k,s,hk,ba,rfl,rfl,rfl,HT⟩:=hrel
  by_cases ah:k<X.length
  ·obtain⟨x,hx⟩:∃x,X[k]?=D x:=⟨_,aG ah⟩;have c0:=HC.out k x hx;obtain⟨ao,c,au⟩:=(HX.out x (aL hx)).1.shape;have ab:=U5.sum_take X k x hx;have ag:=U5.sum_le X (k+1);rw[HS.out,ab,←HT.out]at ag;rw[←HT.out]at ab;have ae:=hid ab;clear hx ab;rw[au]at c0;generalize x.2.1=m at*;clear au;have av:(0:Int)≤(k:Int):=by omega
   have aw:(k:Int)<(X.length:Int):=by omega
   have bb:¬((s:Int)+(m:Int)<0):=by omega
   go_wp2;go_roundw
   case rel=>exact⟨k+1,s+m,by omega,by omega,by go_num,by go_num,by first|trivial|rfl,hid (by rw[ae.out])⟩
   case measure=>simp[cV];omega
  ·have ai:k=X.length:=by omega
   have ax:s=S:=by rw[HT.out,ai,bF,HS.out]
   subst ax;go_wp2_with(refine(A3m s w hs).mono ?_;rintro e w1 ⟨v,rfl,hv,ay⟩)
   go_loopw[6,27] (fun z i wr=>∃k:Nat,k≤X.length∧i=N U k∧wr.ownsRow w.heap.size 83 2 z (U5.sum (X.take k)) (U5.all (X.take k))∧M w.heap.size w wr) (fun _ i _=>X.length-(cV i).toNat)
   case atStart=>exact⟨0,aN _,rfl,by simpa[U5.sum,U5.all]using hv,ay⟩
   case round=>
    obtain⟨k,hk,rfl,ac,aa⟩:=hrel
    by_cases ah:k<X.length
    ·obtain⟨x,hx⟩:∃x,X[k]?=D x:=⟨_,aG ah⟩;have c0:=HC.out k x hx;rw[←aa.cell hg]at c0;obtain⟨hr,h1⟩:=HX.out x (aL hx);replace hr:=hr.below aa;have ab:=U5.sum_take X k x hx;have aj:=U5.all_take X k x hx;have ag:=U5.sum_le X (k+1);rw[HS.out,ab]at ag;obtain⟨sv,m,cs⟩:=x;simp only at c0 hr h1 ab aj ag;have ae:=hid ab;have ak:=hid aj;clear hx ab aj;generalize U5.sum (X.take k)=s1 at*;generalize U5.all (X.take k)=a1 at*;have av:(0:Int)≤k:=by omega
     have aw:k<(X.length:Int):=by omega
     rcases hr.2 with⟨rfl,ao,c,rfl,hnil⟩|⟨hm0,b,off,c,rfl,hb,hmc,hcm,hcell⟩
     ·obtain rfl:=aI (by simpa using hr.1);rcases ao with _|ad
      ·obtain rfl:=hnil rfl;go_wp2_with(at_builtin;go_must(refine eV rfl _ _ 42 rfl _ 83 i0 2 cP hi _ _ _ rfl ac rfl ?_));go_roundw
       case rel=>exact⟨k+1,by omega,by rfl,by rw[ae.out,ak.out,cD,aO];exact ac,aa⟩
       case measure=>simp[cV];omega
      ·have al:∀j u,([]:List O)[j]?=D u→wr.cell? (ad.add j)=D u:=fun j u h=>by grind
       go_wp2_with(at_builtin;go_must(refine cZ _ rfl _ _ 42 rfl _ 83 i0 _ 2 48 cP hi an ap aq rfl (by simp) _ _ _ rfl ac ad 0 c [] rfl (by simp) al (by simp) (by simp only[aW];omega) (by omega) aa.size ?_));intro v2 w2 af am _;go_wp2;go_roundw
       case rel=>exact⟨k+1,by omega,by rfl,by rw[ae.out,ak.out];first|exact af|(rw[cD,aO];exact af),aa.grown am aa.size (fun j hj=>(ac.lt j hj).1)⟩
       case measure=>simp[cV];omega
     ·have al:∀j u,cs[j]?=D u→wr.cell? ((⟨b,off,H⟩:Addr).add j)=D u:=fun j u h=>by rw[bT];grind
      go_wp2_with(at_builtin;go_must(refine cZ _ rfl _ _ 42 rfl _ 83 i0 _ 2 48 cP hi an ap aq rfl (by simp) _ _ _ rfl ac _ m c cs rfl hr.1 al h1 (by simp only[aW];omega) (by omega) aa.size ?_));intro v2 w2 af am _;go_wp2;go_roundw
      case rel=>exact⟨k+1,by omega,by rfl,by rw[ae.out,ak.out];first|exact af|(rw[cD,aO];exact af),aa.grown am aa.size (fun j hj=>(ac.lt j hj).1)⟩
      case measure=>simp[cV];omega
    ·have ai:k=X.length:=by omega
     subst ai;rw[bF,HS.out]at ac;go_wp2;go_ret;exact⟨_,rfl,.of_own ac,aa⟩
theorem A0p (X:U5)(g:Nat)(cap:Nat)(w:R)(hg:g<w.heap.size)(hc:∀i x,X[i]?=D x→w.cell? ⟨g,i,H⟩=D x.1)(hX:∀x∈X,Eu 1 w x.1 x.2.1 x.2.2∧∀u∈x.2.2,u.oneCell'=J)
  (az:X.length≤3) (hs:U5.sum X*16≤140737488355328):
  bL aD 306 #[I (D ⟨g,0,H⟩) X.length cap] w fun e w'=>∃v,e=aH v∧Eu 1 w' v (U5.sum X) (U5.all X)∧M w.heap.size w w':=by
 obtain⟨i0,hi,an,ap,aq⟩:=eB Ke;have HX:=hid hX;have HC:=hid hc;clear hX hc;generalize ar:U5.sum X=S at hs⊢;have HS:=hid ar;clear ar;go_enter Tryz.func306,Tryz.ntmps306;go_wp2
 go_loopw[3,11] (fun z i wr=>∃k s:Nat,k≤X.length∧s≤S∧i=N U k∧z=N U s∧w=wr∧Hid (s=U5.sum (X.take k))) (fun _ i _=>X.length-(cV i).toNat)
 case atStart=>exact⟨0,0,aN _,aN _,rfl,rfl,rfl,hid (by simp[U5.sum])⟩
 case round=>
  obtain⟨k,s,hk,ba,rfl,rfl,rfl,HT⟩:=hrel
  by_cases ah:k<X.length
  ·obtain⟨x,hx⟩:∃x,X[k]?=D x:=⟨_,aG ah⟩;have c0:=HC.out k x hx;obtain⟨ao,c,au⟩:=(HX.out x (aL hx)).1.shape;have ab:=U5.sum_take X k x hx;have ag:=U5.sum_le X (k+1);rw[HS.out,ab,←HT.out]at ag;rw[←HT.out]at ab;have ae:=hid ab;clear hx ab;rw[au]at c0;generalize x.2.1=m at*;clear au;have av:(0:Int)≤(k:Int):=by omega
   have aw:(k:Int)<(X.length:Int):=by omega
   have bb:¬((s:Int)+(m:Int)<0):=by omega
   go_wp2;go_roundw
   case rel=>exact⟨k+1,s+m,by omega,by omega,by go_num,by go_num,by first|trivial|rfl,hid (by rw[ae.out])⟩
   case measure=>simp[cV];omega
  ·have ai:k=X.length:=by omega
   have ax:s=S:=by rw[HT.out,ai,bF,HS.out]
   subst ax;go_wp2_with(refine(A3n s w hs).mono ?_;rintro e w1 ⟨v,rfl,hv,ay⟩)
   go_loopw[6,27] (fun z i wr=>∃k:Nat,k≤X.length∧i=N U k∧wr.ownsRow w.heap.size 9 1 z (U5.sum (X.take k)) (U5.all (X.take k))∧M w.heap.size w wr) (fun _ i _=>X.length-(cV i).toNat)
   case atStart=>exact⟨0,aN _,rfl,by simpa[U5.sum,U5.all]using hv,ay⟩
   case round=>
    obtain⟨k,hk,rfl,ac,aa⟩:=hrel
    by_cases ah:k<X.length
    ·obtain⟨x,hx⟩:∃x,X[k]?=D x:=⟨_,aG ah⟩;have c0:=HC.out k x hx;rw[←aa.cell hg]at c0;obtain⟨hr,h1⟩:=HX.out x (aL hx);replace hr:=hr.below aa;have ab:=U5.sum_take X k x hx;have aj:=U5.all_take X k x hx;have ag:=U5.sum_le X (k+1);rw[HS.out,ab]at ag;obtain⟨sv,m,cs⟩:=x;simp only at c0 hr h1 ab aj ag;have ae:=hid ab;have ak:=hid aj;clear hx ab aj;generalize U5.sum (X.take k)=s1 at*;generalize U5.all (X.take k)=a1 at*;have av:(0:Int)≤k:=by omega
     have aw:k<(X.length:Int):=by omega
     rcases hr.2 with⟨rfl,ao,c,rfl,hnil⟩|⟨hm0,b,off,c,rfl,hb,hmc,hcm,hcell⟩
     ·obtain rfl:=aI (by simpa using hr.1);rcases ao with _|ad
      ·obtain rfl:=hnil rfl;go_wp2_with(at_builtin;go_must(refine eV rfl _ _ 54 rfl _ 9 i0 1 aR hi _ _ _ rfl ac rfl ?_));go_roundw
       case rel=>exact⟨k+1,by omega,by rfl,by rw[ae.out,ak.out,cD,aO];exact ac,aa⟩
       case measure=>simp[cV];omega
      ·have al:∀j u,([]:List O)[j]?=D u→wr.cell? (ad.add j)=D u:=fun j u h=>by grind
       go_wp2_with(at_builtin;go_must(refine cZ _ rfl _ _ 54 rfl _ 9 i0 _ 1 16 aR hi an ap aq rfl (by simp) _ _ _ rfl ac ad 0 c [] rfl (by simp) al (by simp) (by simp only[aW];omega) (by omega) aa.size ?_));intro v2 w2 af am _;go_wp2;go_roundw
       case rel=>exact⟨k+1,by omega,by rfl,by rw[ae.out,ak.out];first|exact af|(rw[cD,aO];exact af),aa.grown am aa.size (fun j hj=>(ac.lt j hj).1)⟩
       case measure=>simp[cV];omega
     ·have al:∀j u,cs[j]?=D u→wr.cell? ((⟨b,off,H⟩:Addr).add j)=D u:=fun j u h=>by rw[bT];grind
      go_wp2_with(at_builtin;go_must(refine cZ _ rfl _ _ 54 rfl _ 9 i0 _ 1 16 aR hi an ap aq rfl (by simp) _ _ _ rfl ac _ m c cs rfl hr.1 al h1 (by simp only[aW];omega) (by omega) aa.size ?_));intro v2 w2 af am _;go_wp2;go_roundw
      case rel=>exact⟨k+1,by omega,by rfl,by rw[ae.out,ak.out];first|exact af|(rw[cD,aO];exact af),aa.grown am aa.size (fun j hj=>(ac.lt j hj).1)⟩
      case measure=>simp[cV];omega
    ·have ai:k=X.length:=by omega
     subst ai;rw[bF,HS.out]at ac;go_wp2;go_ret;exact⟨_,rfl,.of_own ac,aa⟩
theorem Ge {w:R}(g o)(vs):w.grownBy (w.setCells g o vs) (D g):=by
 have h:=bP (g:=g) (aN _) vs o w;exact⟨h.os,h.tape,h.output,h.size,fun k hk aa=>World.heap_setCells_other w g o vs hk (fun e=>aa (by rw[e]))⟩
theorem L4 {a b c:R}{r}(h:a.grownBy b r)(k:b.grownBy c r):a.grownBy c r:=
 ⟨k.os.trans h.os,k.tape.trans h.tape,k.output.trans h.output,bV h.size k.size,fun i hi aa=>(k.block i (aF hi h.size) aa).trans (h.block i hi aa)⟩
theorem Acp {w w':R}{r}(h:w.grownBy w' r):w.grownBy w'.drew r:=⟨h.os,h.tape,h.output,h.size,h.block⟩
theorem Acq (w:R)(r):w.grownBy w r:=⟨rfl,rfl,rfl,aA _,fun _ _ _=>rfl⟩
theorem Tm {w w'}(r)(h:M w.heap.size w w'):w.grownBy w' r:=⟨h.os,h.tape,h.output,h.size,fun k hk _=>h.block k hk⟩
theorem An.grown {w w'}{sv}{L}{r}(h:An w sv L)(hg:w.grownBy w' r)(aa:r=H∨sv.ownBlock≠r):An w' sv L:=by
 obtain⟨h1,h2⟩:=h;refine⟨h1,?_⟩;rcases h2 with h2|⟨h0,b,off,cap,rfl,hlt,hc,hm,hcell⟩
 ·grind
 ·exact .inr ⟨h0,b,off,cap,rfl,aF hlt hg.size,hc,hm,fun j u hj=>hg.cell (hcell j u hj) (by
   rcases aa with rfl|aa
   ·simp
   assumption)⟩
theorem Ot (L:List ByteArray):∀u∈L.map aB,u.oneCell'=J:=by
 intro u hu;obtain⟨x,_,rfl⟩:=dM.1 hu;rfl
theorem Qm (L1 L2)(x)(v)(B vb vc)(w)(ho:w.ownsRow B 9 1 v (L1++L2).length ((L1++L2).map Y))(h0:0<(L1++L2).length)(h4:(L1++L2).length≤4)
  (hv:w.heap[vb]?=D (Z #[Y x] 9)) (aq:v.ownBlock≠D vb):
  bL aD 186 #[v,N U L1.length,I (D ⟨vb,0,H⟩) 1 vc] w fun e w'=>∃v',e=aH v'∧An w' v' (L1++x::L2)∧w.grownBy w' v.ownBlock∧(v'.ownBlock=v.ownBlock∨∃b,v'.ownBlock=D b∧w.heap.size≤b):=by
 have ac:∀(j:Nat) (u:O),([aB x]:List O)[j]?=D u→w.cell? ⟨vb,0+j,H⟩=D u:=by
  intro j u hj;rw[bU];exact Aa hv (by simpa using hj)
 have ai:(L1++x::L2).length=(L1++L2).length+1:=by simp;omega
 rcases ho.2 with⟨rfl,hz⟩|⟨g,cap,cur,rfl,hg,hh,hn,hm,hsz,htk⟩
 ·omega
 ·have ab:∀(j:Nat) (u:O),((L1++L2).map aB)[j]?=D u→w.cell? ⟨g,0+j,H⟩=D u:=by
   intro j u hj;have:=ho.cells (g:=g) rfl j u hj;rwa[bT]at this
  have ad:∀j,j<cap→(w.cell? ⟨g,0+j,H⟩).isSome=J:=by
   intro j hj;rw[bU,Aa hh (cL (by omega))];rfl
  have ar:∀j,w.frozen? ⟨g,0+j,H⟩=aZ:=by
   intro j;simp[cE,hh]
  have au:vb≠g:=by rintro rfl;exact aq rfl
  have aj:cap≤9223372036854775807:=by simpa[aW]using hm
  generalize aa:(L1++L2).length=n at*;have hl:L1.length≤n:=by rw[←aa];simp
  by_cases ak:n+1≤cap
  ·by_cases hi:L1.length<n
   ·refine(Any2.slices_Insert_string_shift Tryz.laysInsert g 0 n cap L1.length vb 0 1 vc ((L1++L2).map Y) [Y x] w hi (by decide) ak aj au (by rw[bZ,aa]) rfl ab
     (fun j hj=>ad j (by omega)) (fun j _=>ar j) ac (Ot _) (by simp[dD]) 9 9 1 cur.size (by simp[World.shape?,hv]) (by simp[World.shape?,hh]) (by omega) (by simp[cE,hv]) (by simp[cE,hv])).mono ?_
    rintro e w' ⟨rfl,rfl⟩;refine⟨_,rfl,⟨by simp,.inr ⟨by omega,g,0,cap,by rw[ai],?_,by omega,hm,?_⟩⟩,?_,.inl rfl⟩
    ·have:=(L4 (Acp (Acq w (D g))) (L4 (Ge (w:=w.drew) g (0+(L1.length+1)) (((L1++L2).map aB).drop L1.length)) (Ge g (0+L1.length) [aB x]))).size;exact aF (bX hh) this
    ·intro j u hj;have hd:((L1++L2).map aB).drop L1.length=L2.map aB:=by simp
     rw[hd];have av:L1.length+L2.length=n:=by rw[←aa,bH]
     have al:∀k,k<n+1→((w.drew.setCells g (0+(L1.length+1)) (L2.map aB)).cell? ⟨g,0+k,H⟩).isSome=J:=fun k hk=>eT g _ _ _ _ (ad k (by omega))
     rcases fN j L1.length with hj1|rfl|hj1
     ·rw[aJ _ _ _ _ _ (fun _ _=>.inl (by grind)),aJ _ _ _ _ _ (fun _ _=>.inl (by grind))];refine ab j u ?_;grind
     ·have:=aQ g [aB x] (0+L1.length) (w.drew.setCells g (0+(L1.length+1)) (L2.map aB)) (fun k hk=>by grind) 0 (by simp);grind
     ·rw[aJ _ _ _ _ _ (fun _ _=>.inr (by grind))];obtain⟨d,rfl⟩:∃d,j=L1.length+1+d:=⟨j-(L1.length+1),by omega⟩;rw[aT,bN (by grind)]at hj;simp only[bZ,cS]at hj;rw[show L1.length+1+d-L1.length=d+1 by omega,cY]at hj;have aw:=(aC.1 hj).1;have:=aQ g _ (0+(L1.length+1)) w.drew (fun k hk=>by rw[Nat.add_assoc];exact ad _ (by grind)) d aw;grind
    ·exact L4 (Acp (Acq w _)) (L4 (Ge g _ _) (Ge g _ _))
   ·have ae:L2=[]:=aI (by grind);subst ae;rw[aO]at aa;rw[aa];refine(Any2.slices_Insert_string_end_room Tryz.laysInsert g 0 n cap vb 0 1 vc _ w (by simp) ak aj rfl (fun j hj=>by grind) (fun j _=>by grind) ac (by simp[dD])).mono ?_;rintro e w' ⟨rfl,rfl⟩;refine⟨_,rfl,⟨by simp,.inr ⟨by omega,g,0,cap,by grind,aF (bX hh) (Ge g _ _).size,by omega,hm,?_⟩⟩,Ge g _ _,.inl rfl⟩;intro j u hj;rcases Nat.lt_or_ge j n with hj1|hj1
    ·rw[aJ _ _ _ _ _ (fun _ _=>.inl (by simp;omega))];refine ab j u ?_;rw[aO];rw[aT,bW (by simp;omega)]at hj;exact hj
    ·have ax:j=n:=by
      have:=(aC.1 hj).1;simp at this;omega
     subst ax;have:=aQ g [aB x] (0+j) w (fun k hk=>by simp at hk;subst hk;exact ad _ (by omega)) 0 (by simp);refine this.trans ?_;rw[aT,bN (by simp;omega)]at hj;simpa[aa]using hj
  ·have bc:cap=n:=by omega
   have am:(n+1) *16≤140737488355328:=by omega
   have hG:cW w (n+1) cap 9≤aW:=dS w (n+1) cap _ (by unfold aW;omega);have bd:=fQ w (n+1) cap 9
   by_cases hi:L1.length<n
   ·refine(Any2.slices_Insert_string_grow Tryz.laysInsert g 0 n cap L1.length vb 0 1 vc ((L1++L2).map Y) [Y x] w hi (by decide) hn (by omega) am (by rw[bZ,aa]) rfl ab ac (Ot _) (by simp[dD])).mono ?_;rintro e w' ⟨rfl,rfl⟩
    change cW w (n+1) cap 9≤aW at hG
    generalize ay:cW w (n+1) cap 9=G at*;have af:cW w (n+1) cap (cT Tryz.laysInsert_ren 9)=G:=ay;rw[af];have hd:((L1++L2).map aB).drop L1.length=L2.map aB:=by simp
    have ht:((L1++L2).map aB).take L1.length=L1.map aB:=by simp
    rw[hd,ht];have av:L1.length+L2.length=n:=by rw[←aa,bH]
    generalize an:(L1.map aB).toArray++aY (aB ⟨#[]⟩).cells (n+1-L1.length)++aY (aB ⟨#[]⟩).cells (G-(n+1))=row;have be:row.size=G:=by
     rw[←an,cN,cN,Li,Li];simp[Value.cells];omega
    have az:∀(j:Nat) (u:O),(L1.map aB)[j]?=D u→row[j]?=D u:=by
     intro j u hj;have:=(aC.1 hj).1;rw[←an,Array.append_assoc,Array.getElem?_append_left (by simpa using this)];simpa using hj
    generalize ap:(w.alloc (Z row (cT Tryz.laysInsert_ren 9))).drew=W1;have ag:W1.heap[w.heap.size]?=D (Z row 9):=by rw[←ap];exact Ab w _
    have ba:M w.heap.size w W1:=by rw[←ap];exact((aE _ w).alloc (aA _) _).drew
    have bb:∀k,k<G→(W1.cell? ⟨w.heap.size,k,H⟩).isSome=J:=fun k hk=>by
     rw[Aa ag (cL (by omega))];rfl
    have al:∀k,k<G→((W1.setCells w.heap.size L1.length [aB x]).drew.cell? ⟨w.heap.size,k,H⟩).isSome=J:=fun k hk=>eT _ _ _ _ _ (bb k hk)
    have ah:M w.heap.size w (((W1.setCells w.heap.size L1.length [aB x]).drew).setCells w.heap.size (L1.length+1) (L2.map aB)):=
     ((ba.trans (bP (aA _) _ _ W1)).drew).trans (bP (aA _) _ _ _)
    refine⟨_,rfl,⟨by simp,.inr ⟨by omega,w.heap.size,0,G,by rw[ai],?_,by omega,hG,?_⟩⟩,Tm _ ah,.inr ⟨_,rfl,aA _⟩⟩
    ·have h1:=(bP (B:=0) (g:=w.heap.size) (aN _) (L2.map aB) (L1.length+1) (W1.setCells w.heap.size L1.length [aB x]).drew).size;exact aF (bX ag) (bV ((bP (g:=w.heap.size) (aN _) [aB x] L1.length W1).size) h1)
    ·intro j u hj;rw[bU];rcases fN j L1.length with hj1|rfl|hj1
     ·rw[aJ _ _ _ _ _ (fun _ _=>.inl (by grind))];show(W1.setCells _ _ _).cell? _=_;rw[aJ _ _ _ _ _ (fun _ _=>.inl (by omega))];rw[aT,bW (by grind)]at hj;exact Aa ag (az j u hj)
     ·rw[aJ _ _ _ _ _ (fun _ _=>.inl (by simp))];show(W1.setCells _ _ _).cell? _=_;have:=aQ w.heap.size [aB x] L1.length W1 (fun k hk=>by grind) 0 (by simp);grind
     ·obtain⟨d,rfl⟩:∃d,j=L1.length+1+d:=⟨j-(L1.length+1),by omega⟩;rw[aT,bN (by grind)]at hj;simp only[bZ,cS]at hj;rw[show L1.length+1+d-L1.length=d+1 by omega,cY]at hj;have:=aQ _ _ (L1.length+1) _ (fun k hk=>al _ (by grind)) d ((aC.1 hj).1);grind
   ·have ae:L2=[]:=aI (by grind);subst ae;simp only[aO]at aa ab ho;rw[aa];refine(Any2.slices_Insert_string_end_grow Tryz.laysInsert _ n cap vb 0 1 vc (L1.map Y) _ w (by simp) hn (by omega) am (by grind) rfl (fun h=>by grind)
     (fun a ha j u hj=>by cases ha;rw[bT];grind) ac (by simp[dD])).mono ?_
    rintro e w' ⟨rfl,rfl⟩;have af:cW w _ cap (cT Tryz.laysInsert_ren 9)=cW w (n+1) cap 9:=rfl;rw[af];generalize cW w _ cap 9=G at*;have ah:M w.heap.size w (w.drew.alloc (Z ((L1.map aB++[aB x]).toArray++aY (aB ⟨#[]⟩).cells (G-(n+1))) (cT Tryz.laysInsert_ren 9))):=
     ((aE _ w).drew).alloc (aA _) _
    refine⟨_,rfl,⟨by simp,.inr ⟨by omega,w.heap.size,0,G,by grind,by simp,by omega,hG,?_⟩⟩,Tm _ ah,.inr ⟨_,rfl,aA _⟩⟩;intro j u hj;rw[bU];refine Aa (Ab _ _) ?_;grind
theorem Acr (L1 L2)(y)(v)(B)(w)(ho:w.ownsRow B 9 1 v (L1++y::L2).length ((L1++y::L2).map Y)):
  bL aD 246 #[v,N U L1.length,N U (L1.length+1)] w fun e w'=>∃v',e=aH v'∧An w' v' (L1++L2)∧w.grownBy w' v.ownBlock∧v'.ownBlock=v.ownBlock:=by
 rcases ho.2 with⟨rfl,hz⟩|⟨g,cap,cur,rfl,hg,hh,hn,hm,hsz,htk⟩
 ·simp at hz
 ·have ad:∀(j) (u),((L1++y::L2).map aB)[j]?=D u→w.cell? ⟨g,0+j,H⟩=D u:=by
   intro j u hj;have:=ho.cells (g:=g) rfl j u hj;rwa[bT]at this
  have ae:=by simpa[aW]using hm
  have ah:(L1++y::L2).length=L1.length+L2.length+1:=by simp;omega
  have aa:=Any.slices_Delete_string_cells Tryz.laysDelete g 0 _ cap L1.length (L1.length+1) (fun t=>(L1++y::L2).getD t cU) w hn ae (by omega) (by omega)
   (fun j hj=>ad j _ (by grind)) (fun j _=>by simp[cE,hh])
  have he:fJ (fun t=>(L1++y::L2).getD t cU) (L1++y::L2).length=(L1++y::L2).map (fun s=>s.data.toList):=by
   apply List.ext_getElem
   ·simp[fJ]
   ·intro i h1 h2;simp only[bZ]at h2;simp only[fJ,List.getElem_map,List.getElem_range];grind
  rw[he]at aa;refine aa.mono ?_;rintro e w' ⟨rfl,q,rfl⟩;have hl:(L1++L2).length=(L1++y::L2).length-(L1.length+1-L1.length):=by simp<;>omega
  generalize ab:((((L1++y::L2).map (fun s=>s.data.toList)).take _++((L1++y::L2).map (fun s=>s.data.toList)).drop _++List.replicate _ ([]:List UInt8)).map encStr)=vs;have ai:vs.length=(L1++y::L2).length:=by rw[←ab];simp<;>omega
  have af:∀(j:Nat) (u),((L1++L2).map aB)[j]?=D u→vs[j]?=D u:=by
   intro j u hj;have aj:=(aC.1 hj).1;have e1:((L1++y::L2).map (fun s=>s.data.toList)).take L1.length=L1.map (fun s=>s.data.toList):=by simp
   have e2:((L1++y::L2).map (fun s=>s.data.toList)).drop (L1.length+1)=L2.map (fun s=>s.data.toList):=by
    rw[←List.drop_drop];simp
   rw[←ab,e1,e2,←aT,aT (f:=encStr),bW (by grind),List.map_map];rw[List.getElem?_map]at hj⊢;cases hx:(L1++L2)[j]? with
   |none=>grind
   |some s=>simp_all
  have ag:∀j,j<vs.length→((w.drewN q).cell? ⟨g,0+j,H⟩).isSome=J:=by
   intro j hj;show(w.cell? ⟨g,0+j,H⟩).isSome=J;rw[bU,Aa hh (cL (by omega))];rfl
  have ac:=L4 (Tm _ (dK (aE _ w) q)) (Ge g 0 vs);refine⟨_,rfl,⟨by simp,?_⟩,ac,rfl⟩;rcases aK (L1++L2).length with h0|h0
  ·exact .inl ⟨h0,_,cap,by rw[←hl,h0],fun h=>by grind⟩
  ·refine .inr ⟨h0,g,0,cap,by simp,aF (bX hh) ac.size,by omega,hm,?_⟩;intro j u hj;rw[aQ g vs 0 _ ag j ((aC.1 (af j u hj)).1)];grind
attribute [local go_sem↓] dZ eA
theorem Cs.base {w}{B B' g cap}{L}(h:Cs w B g cap L)(hB:B'≤B):Cs w B' g cap L:=by
 obtain⟨h1,h2,h3⟩:=h;refine⟨by omega,h2,?_⟩;rcases h3 with h3|⟨g',c',cur,e,hg,r⟩
 ·grind
 ·exact .inr ⟨g',c',cur,e,by omega,r⟩
theorem Cs.setCell {w}{B g cap}{L}(h:Cs w B g cap L){a}(ha:a.block<B)(u):Cs (w.setCell a u) B g cap L:=⟨h.1,ownsRow_setCell_below h.2 ha u⟩
theorem Cs.below {w w'}{B g cap}{L}(h:Cs w B g cap L)(hb:M w.heap.size w w'):Cs w' B g cap L:=⟨h.1,Aj h.2 hb⟩
theorem Cs.strs {w}{B g cap}{L}(h:Cs w B g cap L):An w (I (D ⟨g,0,H⟩) L.length cap) L:=Eu.of_own h.2
theorem Cs.lt {w}{B g cap}{L}(h:Cs w B g cap L):g<w.heap.size:=(h.2.lt g rfl).2
theorem Lj (p:Pg)(kv vv)(w)(hk:An w kv p.K)(hv:An w vv p.V)(h0:0<p.K.length)(h8:p.K.length≤8)(hl:p.V.length=p.K.length):
  bL aD 184 #[cH #[kv,vv]] w fun e w'=>∃g1 c1 g2 c2,e=aH (cH #[I (D ⟨g1,0,H⟩) p.K.length c1,I (D ⟨g2,0,H⟩) p.V.length c2])∧Cs w' w.heap.size g1 c1 p.K∧Cs w' w.heap.size g2 c2 p.V∧g1<g2∧M w.heap.size w w':=by
 have kc:=fun W h=>Agn p.K kv W (hk.below h) h0 h8
 have vc:=fun W h=>Agn p.V vv W (hv.below h) (by omega) (by omega)
 obtain⟨ka,ad,rfl⟩:=hk.shape;obtain⟨va,ae,rfl⟩:=hv.shape;have HL:=hid hl;clear hl hk hv;generalize hn:p.K.length=n at*;generalize hm:p.V.length=m at*;generalize ac:(w.alloc (Z #[I ka n ad,I va m ae] 83)).alloc (Z #[I H 0 0,I H 0 0] 83)=W0;have ai:M w.heap.size w W0:=by rw[←ac];exact((aE _ w).alloc (aA _) _).alloc (by simp) _
 have az:W0.heap.size=w.heap.size+1+1:=by rw[←ac];simp
 have c0:W0.cell? ⟨w.heap.size,0,H⟩=D (I ka n ad):=by rw[←ac];exact Aa (Ad (Ab w _) _) rfl
 have c1:W0.cell? ⟨w.heap.size,1,H⟩=D (I va m ae):=by rw[←ac];exact Aa (Ad (Ab w _) _) rfl
 have r0:W0.heap[w.heap.size+1]?=D (Z #[I H 0 0,I H 0 0] 83):=by
  rw[←ac];have:=Ab (w.alloc (Z #[I ka n ad,I va m ae] 83)) (Z #[I H 0 0,I H 0 0] 83);rwa[eX]at this
 have q0:W0.cell? ⟨_,0,H⟩=D (I H 0 0):=Aa r0 rfl;have q1:W0.cell? ⟨_,1,H⟩=D (I H 0 0):=Aa r0 rfl;have f0:W0.frozen? ⟨w.heap.size+1,0,H⟩=aZ:=by simp[cE,r0]
 have f1:W0.frozen? ⟨w.heap.size+1,1,H⟩=aZ:=by simp[cE,r0]
 have ah:∀i j,(⟨w.heap.size+1,i,H⟩:Addr)≠⟨w.heap.size,j,H⟩:=fun i j h=>by grind
 go_enter Tryz.func184,Tryz.ntmps184;go_wp2;clear ac r0
 go_region_held3(fun w'=>w'.cell? ⟨w.heap.size,0,H⟩=D (I ka n ad)∧w'.cell? ⟨w.heap.size,1,H⟩=D (I va m ae))
  (first|exact⟨(bQ _ _ _ _ (ah _ _)).trans ((bQ _ _ _ _ (ah _ _)).trans an),(bQ _ _ _ _ (ah _ _)).trans ((bQ _ _ _ _ (ah _ _)).trans ap)⟩|grind|grind|simp_all)
  (first
   |(go_at_call_of 24 (Value.slice ka n ad);refine(kc _ ai.drew).mono ?_;rintro e w1 ⟨g1,k1,rfl,al,af⟩;obtain⟨ab,ag⟩:=E5 af;have hA:w.heap.size<W0.drew.heap.size:=(by show _<W0.heap.size;omega);have aa:w.heap.size+1<W0.drew.heap.size:=(by simp_all);have aj:=ai.drew.trans (af.mono (show w.heap.size≤W0.drew.heap.size from ai.size));have aq:=(ab _ _ aa).trans q0;have ar:=(ab _ _ aa).trans q1;have au:=(ag _ _ aa).trans f0;have av:=(ag _ _ aa).trans f1;have aw:=(ab _ _ hA).trans c0;have ax:=(ab _ _ hA).trans c1)
   |(go_at_call_of 24 (Value.slice va m ae);refine(vc _ aj).mono ?_;rintro e w2 ⟨g2,k2,rfl,am,ak⟩;obtain⟨ab,ag⟩:=E5 ak;replace hA:=aF hA af.size;replace aa:=aF aa af.size;have ba:=(ab _ _ aa).trans aq;have bb:=(ab _ _ aa).trans ar;have bc:=(ag _ _ aa).trans au;have bd:=(ag _ _ aa).trans av;have an:=(ab _ _ hA).trans aw;have ap:=(ab _ _ hA).trans ax))
 go_wp2;have ay:=aj.trans (ak.mono aj.size);have be:w.heap.size+2≤W0.drew.heap.size:=(by simp_all);refine eW (v:=cH #[I (D ⟨g1,0,H⟩) n k1,I (D ⟨g2,0,H⟩) m k2]) (by simp[results,go_sem, *]) rfl ?_;refine⟨g1,k1,g2,k2,rfl,?_,?_,aF al.lt am.1,?_⟩
 ·exact(((al.below ak).setCell (by grind) _).setCell (by grind) _).base (by omega)
 ·have:=af.size;exact((am.setCell (by omega) _).setCell (by omega) _).base (by omega)
 ·exact(ay.setCell (by simp) _).setCell (by simp) _
end
end Go.Proofs.YtjapkoofjlmdgaaGreatDoor
