/-
  37 texts of this proof in one,in build order:Plain,XPlain,Mem,Row,XMem,Als,TMath,TKeepMath,TMem,TMath2,TGood,Shelf,TLib,TFind,TGet,TConcat,TInsert,TParts,TReplaced,TRange,Compare,OrderMath,BackMath,Good,AppendKey,Key,StmPlain,Elems,YIndex,YMap,NPlain,Named,IdxF,YGood,YFind,Vals,FMath.
-/
import Derived.WalkKit
import Derived.Lib.Bytealg
import Derived.Lib.IndexLaws
import Derived.WalkSpells
import Derived.Laws.AppendOwn
import Derived.Lib.Strings
import Derived.Lib.Walk
import Derived.Sort.Walk0
import Derived.Test.YtocegbpmmiabmaaGreatDoorProg
import Derived.WalkLawsBesides
import Derived.Deep.QuietTactic
import Derived.BigQuiet
import Derived.Deep.RegionHeld3
import Derived.Deep.DrawnRows
import Derived.Shelf.SlSorted.Search
import Derived.Shelf.SlGeneric
import Derived.Ground.Names2Prog
import Derived.Ground.Names8Prog
import Derived.Ground.SlsoProg
import Derived.Shelf.Slices.Clone
import Derived.Shelf.Slices.Cells
import Derived.Shelf.Spec.SearchS
import Derived.Shelf.Spec.SlicesInsert
import Derived.Shelf.Spec.SlicesInsertGrow
import Derived.Shelf.Spec.SlicesGrow
import Derived.Laws.AppendOwnNone
import Derived.Deep.Upon
import Derived.Lib.EndianMore
import Derived.Lib.ReflectliteSwap
import Derived.Maps.AppendAt
import Derived.Deep.Cut
import Derived.Deep.DeepFit
import Derived.Test.YtocegbpmmiabmaaGreatDoorRows
import Derived.Lib.AppendStr
import Derived.Laws.IdiomStrings
import Derived.OwnWalk
import Derived.Laws.Rows
import Derived.Laws.Tables
import Derived.Maps.Own
import Derived.Maps.OwnOps
import Derived.Maps.Views
import Derived.StringKeys
import Derived.Shelf.Abstract
set_option linter.unusedSimpArgs false
set_option linter.unusedVariables false
set_option maxRecDepth 100000
set_option maxHeartbeats 0
open Go.Value renaming agg→bU,bool→bF,int→aM,int→aO,oneCell'→dL,ownBlock→dK,pointer→eD,slice→Q,string→Y,string→aH,tuple→eF
open Option renaming none→O,some→J
open Go.Proofs.Tryz renaming func145→fA,func182→eZ,func210→fS,func230→cP,func247→eY,func252→fR,func294→fQ,isAgg0→eG,isAgg3→dS,isAgg4→dD,isAgg43→dZ,isAgg9→dR,ntmps145→eO,ntmps182→eN,ntmps210→fO,ntmps230→cJ,ntmps247→eM,ntmps252→fN,prog→aA,results112→gZ,sizeOf0→dY,sizeOf3→dI,sizeOf4→cZ,sizeOf43→dT,sizeOf9→dH,underlying0→dB,underlying20→gJ,underlying265→gD,underlying284→eP,underlying3→bR,underlying302→bQ,underlying4→cF,underlying43→bI,underlying5→gT,underlying63→dQ,underlying9→bG,zeroValue0→dE,zeroValue20→gS,zeroValue265→gI,zeroValue3→cV,zeroValue4→cH,zeroValue43→dA,zeroValue9→cU
open Go.Op renaming bytesLess→aB
open Nat renaming add_assoc→eQ,add_sub_cancel→gK,add_zero→bY,eq_zero_or_pos→aQ,le_refl→aC,le_trans→bT,lt_of_lt_of_le→aJ,lt_trichotomy→gV,zero_add→cE,zero_le→aX
open List renaming all_eq_false→gM,append_assoc→bJ,append_nil→bE,cons_append→bL,countP_cons→fD,drop_eq_getElem_cons→cR,eq_nil_of_length_eq_zero→aK,filter_append→bD,find?_eq_none→eR,getD_cons_zero→eL,getD_eq_getElem?_getD→cN,getElem?_append_left→cQ,getElem?_append_right→cB,getElem?_cons_succ→cY,getElem?_eq_getElem→aD,getElem?_eq_some_iff→aF,getElem?_map→gL,getElem_of_mem→gA,length_append→aN,length_cons→aZ,length_map→cI,length_nil→fI,map_append→aU,map_cons→dU,map_fst_zip→gW,mem_append→bO,mem_append_left→eH,mem_cons→bZ,mem_flatMap→fC,mem_map→eB,mem_of_getElem?→aT,nil_append→hH,of_mem_zip→cW,pairwise_cons→dM,take_add_one→bM,take_append_drop→aS,take_length→cA,take_of_length_le→eA,zip_append→fH
open Go.Ending renaming returned→aE,returned→gP
open Go.Obj renaming cells→aG,cells→bS
open Go.RowKit.Below renaming heap_setCell→gC,refl→aI
open Go renaming Calls→aV,Value→Z,World→aR,below_drewN→eU,bodyPost_ret→dP,grownCap→dX,grownCap_ge→gY,grownCap_le_maxLen→fE,info_parts→dF,lt_of_block→bA,maxLen→aP,results→fK,rounds_succ→dJ,wpList_append_own→bP,wpList_append_own_at→gX,wpList_append_own_none→gH,wp_at_succ→eX,wp_at_zero→eW,wp_loop_rounds→eS
open Bool renaming and_eq_false_iff→fV,and_eq_true→dC,eq_iff_iff→eC,false→aL,false_eq_true→gG,or_eq_false_iff→eI,or_eq_true→fJ,true→U
open Go.IntKind renaming i64→aW,i64→aY,u8→bB,wrap_i64→gB
open UInt8 renaming lt_iff_toNat_lt→fP,ofNat→bC,toNat_inj→gR
open Go.World renaming cell?→fU,cell?_alloc_past→bW,cell?_of_block→fT,cell?_setCell_other→bH,cell?_setCells_in→bV,cell?_setCells_out→bK,frozen?→cS,ownsRow_nil→cK,setCell→fM,setRow→dG,size_alloc→fB
open Go.Lib renaming below_setCells_w→cO,indexByte→bN,indexByte_some→gO,isSome_setCells→gE,strsOf→gN,toList_data→fL
open Go.Addr renaming add_lit→bX
open Array renaming getElem?_eq_getElem→dN,getElem?_modify→cC,size_append→dO,toList_inj→gQ
open Go.Builtin renaming zeroCells→cD
open Go.Value.slice renaming injEq→cG
open Go.Proofs renaming intOf→cL
open Go.ByteArray renaming toList_eq→cM
open Prod renaming fst→cT,snd→fY
open Go.Shelf renaming Ren→cX
open Go.Shelf.Ren renaming t→dV
open ByteArray renaming empty→dW,ext→gF
open Option.some renaming injEq→eE
open Go.Addr.mk renaming injEq→eJ
open Go.Proofs.Lays8 renaming n4→fF
open And renaming intro→fG
open Go.Proofs.Any8 renaming slices_Grow_grow→fX,slices_Grow_room→fW
open List.cons renaming injEq→fZ
open Prod.mk renaming injEq→gU
namespace Go.Proofs.YtocegbpmmiabmaaGreatDoor
section
open Go.RowKit
structure V where
 k:Int
 n:Int
 s:ByteArray
def V.val (v:V):Z:=bU #[aO aW v.k,aO aW v.n,Y v.s]
def V.cells (v:V):List Z:=[aO aW v.k,aO aW v.n,Y v.s]
def Qm (c:Int):Bool:=decide (32≤c)&&decide (c≤126)&&(c !=39)
def Lj (l:List UInt8):Bool:=l.all fun c=>Qm (c.toNat:Int)
def good (v:V):Bool:=
 if v.k=0 then decide (v.n=0)&&decide (v.s.size=0)
 else if v.k=1 then decide (-1000000≤v.n)&&decide (v.n≤1000000)&&decide (v.s.size=0)
 else if v.k=2 then decide (v.n=0)&&decide (v.s.size≤8)&&Lj v.s.data.toList
 else aL
theorem Av {k}{a b}(h:a=b):gP (aO k a)=aE (aO k b):=by rw[h]
theorem Ah {a b}(h:a=b):gP (bF a)=aE (bF b):=by rw[h]
theorem Agt (s:ByteArray)(k)(h):s.data.toList.take (k+1)=s.data.toList.take k++[s[k]]:=by
 rw[List.take_succ_eq_append_getElem (by simpa using h)];rfl
theorem Ax9 (s:ByteArray)(k)(h:s.size≤k):s.data.toList.take k=s.data.toList:=
 eA (by simp_all)
theorem Arr (l)(c):Lj (l++[c])=(Lj l&&Qm (c.toNat:Int)):=by
 simp[Lj]
theorem Auc (s:ByteArray)(k)(h:k<s.size)(hb:Qm (s[k].toNat:Int)=aL):Lj s.data.toList=aL:=by
 unfold Lj;rw[gM];refine⟨s[k],?_,by grind⟩;have:s[k]=s.data.toList[k]'(by simpa using h):=rfl;grind
def be4 (m:Nat):List UInt8:=[bC (m/16777216),bC (m/65536),bC (m/256),bC m]
def keyOf (v:V):List UInt8:=
 if v.k=0 then[1]else if v.k=1 then 2::be4 (v.n+1073741824).toNat else 3::(v.s.data.toList++[0])
def Et (l:List UInt8):List Z:=l.map fun b=>aM .u8 (b.toNat:Int)
theorem Ih (a b):Et (a++b)=Et a++Et b:=by simp[Et]
theorem A47 (m)(h0:0≤m)(h1:m<4294967296):
  Et (be4 m.toNat)=[aO .u8 (m/16777216),aO .u8 (m/65536%256),aO .u8 (m/256%256),aO .u8 (m%256)]:=by
 simp only[Et,be4,dU,List.map_nil,UInt8.toNat_ofNat',fZ,Value.int.injEq,true_and,and_true];omega
theorem Ew {v}(h:v.k=0):keyOf v=[1]:=by simp[keyOf,h]
theorem Fy {v}(h:v.k=1):keyOf v=2::be4 (v.n+1073741824).toNat:=by simp[keyOf,h]
theorem Hi {v}(h:v.k=2):keyOf v=3::(v.s.data.toList++[0]):=by simp[keyOf,h]
theorem Dp (s:ByteArray):s.data.toList.length=s.size:=by simp
def str (l:List UInt8):ByteArray:=⟨l.toArray⟩
theorem Bs (l):(str l).data.toList=l:=by rfl
theorem Jy (l):(str l).size=l.length:=by rfl
theorem Qn (s):str s.data.toList=s:=by rfl
def Dy (L:List V):List UInt8:=L.flatMap keyOf
theorem Aud (L)(v):Dy (L++[v])=Dy L++keyOf v:=by simp[Dy]
theorem Akb (v)(h:good v=U):(keyOf v).length≤10:=by
 by_cases h0:v.k=0
 ·rw[Ew h0];simp
 by_cases h1:v.k=1
 ·rw[Fy h1];simp[be4]
 by_cases h2:v.k=2
 ·rw[Hi h2,aZ,aN,Dp];simp[good,h2]at h;grind
 ·simp[good,h0,h1,h2]at h
theorem Aqe (L)(h:∀v∈L,good v=U):(Dy L).length≤10*L.length:=by
 induction L with
 |nil=>simp[Dy]
 |cons v L ih=>
  have a:=Akb v (h v (by simp));have b:=ih fun x hx=>h x (by grind)
  simp[Dy]at b⊢;omega
def Nv (w:aR)(b off:Nat)(L:List V):Prop:=
 ∀i v,L[i]?=J v→w.cell? ⟨b,off+i*3,O⟩=J (aO aW v.k)∧w.cell? ⟨b,off+i*3+1,O⟩=J (aO aW v.n)∧w.cell? ⟨b,off+i*3+2,O⟩=J (Y v.s)
theorem Nv.below {w w'}{b off B}{L}(h:Nv w b off L)(hb:Below B w w')(aa:b<B):Nv w' b off L:=by
 intro i v hi;obtain⟨h1,h2,h3⟩:=h i v hi;exact⟨(hb.cell aa).trans h1,(hb.cell aa).trans h2,(hb.cell aa).trans h3⟩
def zero:V:=⟨0,0,⟨#[]⟩⟩
def n4 (l:List UInt8):Int:=((l.getD 1 0).toNat:Int) *16777216+((l.getD 2 0).toNat:Int) *65536+((l.getD 3 0).toNat:Int) *256+((l.getD 4 0).toNat:Int)
def fv (l:List UInt8):V×Nat:=
 if l.getD 0 0=1 then(zero,1)
 else if l.getD 0 0=2 then(if l.length<5 then(zero,0)else(⟨1,n4 l-1073741824,⟨#[]⟩⟩,5))
 else if l.getD 0 0=3 then(if bN l 0<0 then(zero,0)else(⟨2,0,str ((l.drop 1).take ((bN l 0).toNat-1))⟩,(bN l 0).toNat+1))
 else(zero,0)
theorem Py (s:ByteArray)(i)(h):s.data.toList.getD i 0=s[i]:=by
 have h':i<s.data.toList.length:=by simpa using h
 rw[cN,aD h'];rfl
def dec:Nat→List UInt8→Option (List V)
 |0,l=>if l=[]then J []else O
 |f+1,l=>if l=[]then J []else if(fv l).2=0∨good (fv l).1=aL then O else(dec f (l.drop (fv l).2)).map ((fv l).1::·)
def vals (l:List UInt8):Option (List V):=dec l.length l
theorem Aqf (f):dec f []=J []:=by cases f<;>simp[dec]
theorem Aya:∀(f:Nat) (l:List UInt8),l.length≤f→dec f l=dec l.length l:=by
 intro f
 induction f using Nat.strongRecOn with
 |ind f ih=>
  intro l hl
  match l,f with
  |[],f=>rw[Aqf,Aqf]
  |c::l,0=>grind
  |c::l,f+1=>
   simp only[aZ]at hl⊢;simp only[dec];grind
theorem Akc:vals []=J []:=rfl
theorem Abo {l}(hl:l≠[])(h:(fv l).2=0∨good (fv l).1=aL):vals l=O:=by
 unfold vals
 match l,hl with
 |c::l,_=>simp only[aZ,dec];grind
theorem Xp {l}(hl:l≠[])(h:(fv l).2≠0)(hg:good (fv l).1=U):vals l=(vals (l.drop (fv l).2)).map ((fv l).1::·):=by
 unfold vals
 match l,hl with
 |c::l,_=>
  simp only[aZ,dec];rw[if_neg (by simp),if_neg (by grind),Aya _ _ (by grind)]
theorem A4o (l:List UInt8)(hl:l≠[]):(fv l).2≤l.length:=by
 have h1:1≤l.length:=by cases l<;>simp_all
 unfold fv;split
 ·omega
 ·split
  ·grind
  ·split
   ·split
    ·simp
    ·rename_i hi;obtain⟨i,aa⟩:∃i:Nat,bN l 0=i:=⟨(bN l 0).toNat,by omega⟩;have:=(aF.1 (gO aa).1).1;omega
   simp
theorem An0 (t:ByteArray)(z):(t.extract z t.size).data.toList=t.data.toList.drop z:=by
 rw[Lib.extract_data,eA];simp
theorem Ars (l):(fv l).1.s.size≤l.length:=by
 unfold fv;split
 ·exact aX _
 ·split
  ·split<;>exact aX _
  ·split
   ·split
    ·exact aX _
    ·simp only[Jy];grind
   ·exact aX _
end
section
abbrev Wd:=ByteArray
inductive E where
 |mk (op:Int) (v:V) (s name:Wd) (n:Int) (l:List E):E
abbrev noW:Wd:=⟨#[]⟩
def E.nil:E:=.mk 0 zero noW noW 0 []
def Lx (v:V):E:=.mk 1 v noW noW 0 []
def Tq (s name:Wd):E:=.mk 2 zero s name 0 []
def Hj (op:Int)(l:List E):E:=.mk op zero noW noW 0 l
end
section
open Go.RowKit
theorem Aa {w:aR}{b}{arr}{t}{fr}(h:w.heap[b]?=J (aG arr t fr)){j}{u}(hj:arr[j]?=J u):w.cell? ⟨b,j,O⟩=J u:=by
 simp[fU,h,hj]
theorem Acu {w:aR}{base}{e}{size}{v}{n}{xs}(aa:w.ownsRow base e size v n xs){b}{arr}{t}{fr}
  (hb:w.heap[b]?=J (aG arr t fr)) (ab:t≠e):J b≠v.ownBlock:=by
 intro hh;rcases aa.2 with⟨h2,_⟩|⟨g,cap,cur,hv,_,hg,_⟩
 ·rw[h2]at hh;simp[dK]at hh
 ·rw[hv]at hh;simp[dK]at hh;grind
theorem Ab (w:aR)(o):(w.alloc o).heap[w.heap.size]?=J o:=by
 show(w.heap.push o)[w.heap.size]?=_;simp
theorem Ad {w:aR}{b:Nat}{x}(h:w.heap[b]?=J x)(o):(w.alloc o).heap[b]?=J x:=by
 have:=bA h;rw[Below.heap_alloc _ _ _ this];omega
theorem Gs {w w':aR}{row}(hg:w.grownBy w' row){b}{x}(h:w.heap[b]?=J x)(aa:J b≠row):w'.heap[b]?=J x:=by
 rw[hg.block b (bA h) aa];omega
theorem Cb (w:aR)(l:List Z)(t):∀j u,l[j]?=J u→(w.alloc (aG l.toArray t)).cell? ((⟨w.heap.size,0,O⟩:Addr).add j)=J u:=by
 intro j u hj;rw[bX];simp_all
theorem Gy {w w'}{base}{e}{size}{v}{n}{xs}(aa:w.ownsRow base e size v n xs)(hb:base≤w.heap.size)(hg:w.grownBy w' v.ownBlock):Below base w w':=
 (aI _ _).grown hg hb fun k hk=>(aa.lt k hk).1
theorem E9 {W w1}(hb:Below W.heap.size W w1):(∀b o,b<W.heap.size→w1.cell? ⟨b,o,O⟩=W.cell? ⟨b,o,O⟩)∧(∀b o,b<W.heap.size→w1.frozen? ⟨b,o,O⟩=W.frozen? ⟨b,o,O⟩):=
 ⟨fun b o h=>hb.cell (p:=⟨b,o,O⟩) h,fun b o h=>hb.frozen (p:=⟨b,o,O⟩) h⟩
theorem Ak {w w'}{base}{e}{size}{v}{n}{xs}(h:w.ownsRow base e size v n xs)(hb:Below w.heap.size w w'):w'.ownsRow base e size v n xs:=by
 obtain⟨h1,h2⟩:=h;refine⟨h1,?_⟩;rcases h2 with h2|⟨g,cap,cur,hv,hg,hh,r⟩
 ·grind
 ·exact Or.inr ⟨g,cap,cur,hv,hg,by rw[hb.block g (bA hh)];omega,r⟩
theorem Ac {w a b}(h:Below w.heap.size w a)(k:Below a.heap.size a b):Below w.heap.size w b:=h.trans (k.mono h.size)
def Ex (size:Nat)(w:aR)(sv:Z)(n:Nat)(cs:List Z):Prop:=
 cs.length=n*size∧
 ((n=0∧∃ao cap,sv=Q ao 0 cap∧(ao=O→cap=0))∨
 (0<n∧∃b off cap,sv=Q (J ⟨b,off,O⟩) n cap∧b<w.heap.size∧n≤cap∧cap≤aP∧∀j u,cs[j]?=J u→w.cell? ⟨b,off+j,O⟩=J u))
theorem Ex.keep {size}{w w'}{B}{sv}{n}{cs}(h:Ex size w sv n cs)(hb:Below B w w')(hB:w.heap.size≤B):Ex size w' sv n cs:=by
 obtain⟨h1,h2⟩:=h;refine⟨h1,?_⟩;rcases h2 with h2|⟨h0,b,off,cap,rfl,hlt,hc,hm,hcell⟩
 ·grind
 ·exact .inr ⟨h0,b,off,cap,rfl,aJ hlt (hb.size),hc,hm,fun j u hj=>by rw[hb.cell (aJ hlt hB)];grind⟩
theorem Ex.below {size}{w w'}{sv}{n}{cs}(h:Ex size w sv n cs)(hb:Below w.heap.size w w'):Ex size w' sv n cs:=h.keep hb (aC _)
theorem Ex.shape {size}{w}{sv}{n}{cs}(h:Ex size w sv n cs):∃ao cap,sv=Q ao n cap:=by
 rcases h.2 with⟨rfl,ao,cap,rfl,_⟩|⟨_,b,off,cap,rfl,_⟩
 ·simp
 simp
theorem Ex.nil (size)(w):Ex size w (Q O 0 0) 0 []:=⟨by simp,.inl ⟨rfl,O,0,rfl,fun _=>rfl⟩⟩
theorem Ex.of_own {size}{w}{base}{e}{v}{n}{cs}(h:w.ownsRow base e size v n cs):Ex size w v n cs:=by
 refine⟨h.1,?_⟩;rcases h.2 with⟨rfl,rfl⟩|⟨g,cap,cur,rfl,hg,hh,hn,hm,_⟩
 ·grind
 ·rcases aQ n with rfl|h0
  ·grind
  ·refine .inr ⟨h0,g,0,cap,rfl,bA hh,hn,hm,fun j u hj=>?_⟩;have:=h.cells (g:=g) rfl j u hj;rwa[bX]at this
def An (w:aR)(sv:Z)(L:List ByteArray):Prop:=Ex 1 w sv L.length (L.map Y)
theorem An.below {w w'}{sv}{L}(h:An w sv L)(hb:Below w.heap.size w w'):An w' sv L:=Ex.below h hb
theorem An.keep {w w'}{B}{sv}{L}(h:An w sv L)(hb:Below B w w')(hB:w.heap.size≤B):An w' sv L:=Ex.keep h hb hB
theorem An.at {w}{sv}{L}(h:An w sv L)(h0:0<L.length):∃b aa cap,sv=Q (J ⟨b,aa,O⟩) L.length cap∧b<w.heap.size∧L.length≤cap∧cap≤aP∧∀i s,L[i]?=J s→w.cell? ⟨b,aa+i,O⟩=J (Y s):=by
 rcases h.2 with⟨h1,_⟩|⟨_,b,aa,cap,rfl,hb,hc,hm,hcell⟩
 ·omega
 grind
structure Keeps (F:Nat→Prop) (w w':aR):Prop where
 size:w.heap.size≤w'.heap.size
 block:∀k,F k→k<w.heap.size→w'.heap[k]?=w.heap[k]?
theorem Keeps.refl (F)(w):Keeps F w w:=⟨aC _,fun _ _ _=>rfl⟩
theorem Keeps.trans {F}{u v w}(h:Keeps F u v)(k:Keeps F v w):Keeps F u w:=
 ⟨bT h.size k.size,fun i h1 h2=>(k.block i h1 (aJ h2 h.size)).trans (h.block i h1 h2)⟩
theorem Ai {F}{w w'}(h:Below w.heap.size w w'):Keeps F w w':=⟨h.size,fun k _ hk=>h.block k hk⟩
theorem Keeps.set {F}{w w'}(h:Keeps F w w'){b}(hb:¬F b)(o)(u):Keeps F w (w'.setCell ⟨b,o,O⟩ u):=
 ⟨by simp[fM];exact h.size,fun k hk hl=>(gC w' ⟨b,o,O⟩ u k (show k≠b by grind)).trans (h.block k hk hl)⟩
theorem Keeps.alloc {F}{w w'}(h:Keeps F w w')(o):Keeps F w (w'.alloc o):=h.trans (Ai ((aI _ _).alloc (aC _) o))
theorem Keeps.drew {F}{w w'}(h:Keeps F w w'):Keeps F w w'.drew:=⟨h.size,h.block⟩
theorem Keeps.below {F}{w v v'}(h:Keeps F w v)(hb:Below v.heap.size v v'):Keeps F w v':=h.trans (Ai hb)
theorem Keeps.mono {F F'}{w w'}(h:Keeps F w w')(hF:∀k,F' k→F k):Keeps F' w w':=⟨h.size,fun k hk=>h.block k (hF k hk)⟩
abbrev Fr (n:Nat):Nat→Prop:=fun k=>n≤k
def Bq (F:Nat→Prop)(size:Nat)(w:aR)(sv:Z)(n:Nat)(cs:List Z):Prop:=
 cs.length=n*size∧
 ((n=0∧∃ao cap,sv=Q ao 0 cap∧(ao=O→cap=0))∨
 (0<n∧∃b off cap,sv=Q (J ⟨b,off,O⟩) n cap∧F b∧b<w.heap.size∧n≤cap∧cap≤aP∧∀j u,cs[j]?=J u→w.cell? ⟨b,off+j,O⟩=J u))
theorem Bq.keep {F}{size}{w w'}{sv}{n}{cs}(h:Bq F size w sv n cs)(hk:Keeps F w w'):Bq F size w' sv n cs:=by
 obtain⟨h1,h2⟩:=h;refine⟨h1,?_⟩;rcases h2 with h2|⟨h0,b,off,cap,rfl,hB,hlt,hc,hm,hcell⟩
 ·grind
 ·refine .inr ⟨h0,b,off,cap,rfl,hB,aJ hlt hk.size,hc,hm,fun j u hj=>?_⟩;rw[fT (hk.block b hB hlt)];grind
theorem Bq.mono {F F'}{size}{w}{sv}{n}{cs}(h:Bq F size w sv n cs)(hB:∀k,k<w.heap.size→F k→F' k):Bq F' size w sv n cs:=by
 obtain⟨h1,h2⟩:=h;refine⟨h1,?_⟩;grind
theorem Bq.row {F}{size}{w}{sv}{n}{cs}(h:Bq F size w sv n cs):Ex size w sv n cs:=by
 obtain⟨h1,h2⟩:=h;refine⟨h1,?_⟩;grind
theorem Bq.shape {F}{size}{w}{sv}{n}{cs}(h:Bq F size w sv n cs):∃ao cap,sv=Q ao n cap:=h.row.shape
theorem Bq.nil (F)(size)(w):Bq F size w (Q O 0 0) 0 []:=⟨by simp,.inl ⟨rfl,O,0,rfl,fun _=>rfl⟩⟩
theorem Bq.of_own {F}{size}{w}{base}{e}{v}{n}{cs}(h:w.ownsRow base e size v n cs)(hB:∀k,base≤k→F k):Bq F size w v n cs:=by
 refine⟨h.1,?_⟩;rcases h.2 with⟨rfl,rfl⟩|⟨g,cap,cur,rfl,hg,hh,hn,hm,_⟩
 ·grind
 ·rcases aQ n with rfl|h0
  ·grind
  ·refine .inr ⟨h0,g,0,cap,rfl,hB g hg,bA hh,hn,hm,fun j u hj=>?_⟩;have:=h.cells (g:=g) rfl j u hj;rwa[bX]at this
theorem Bq.new {F}{size n}{w:aR}(l)(t)(hl:l.length=n*size)(hB:F w.heap.size)(hn:0<n)(hm:n≤aP):Bq F size (w.alloc (aG l.toArray t)) (Q (J ⟨w.heap.size,0,O⟩) n n) n l:=
 ⟨hl,.inr ⟨hn,w.heap.size,0,n,rfl,hB,by simp,aC _,hm,fun j u hj=>by simp_all⟩⟩
abbrev Af (op:Int)(x:V)(s name:Wd)(n:Int)(sv:Z):Array Z:=#[aO aW op,aO aW x.k,aO aW x.n,Y x.s,Y s,Y name,aO aW n,sv]
mutual
def IsE (F:Nat→Prop)(w:aR):E→Z→Prop
 |.mk op x s name n l,v=>∃sv cs,v=bU (Af op x s name n sv)∧Bq F 8 w sv l.length cs∧Fz F w l cs
def Fz (F:Nat→Prop)(w:aR):List E→List Z→Prop
 |[],cs=>cs=[]
 |e::l,cs=>∃c rest,cs=c++rest∧c.length=8∧IsE F w e (bU c.toArray)∧Fz F w l rest
end
mutual
theorem IsE.keep {F:Nat→Prop}{w w':aR}(hk:Keeps F w w'):∀(e:E) (v:Z),IsE F w e v→IsE F w' e v
 |.mk op x s name n l,v,h=>by
  rw[IsE]at h⊢;obtain⟨sv,cs,h1,h2,h3⟩:=h;exact⟨sv,cs,h1,h2.keep hk,Fz.keep hk l cs h3⟩
theorem Fz.keep {F:Nat→Prop}{w w':aR}(hk:Keeps F w w'):∀(l:List E) (cs:List Z),Fz F w l cs→Fz F w' l cs
 |[],cs,h=>by assumption
 |e::l,cs,h=>by
  rw[Fz]at h⊢;obtain⟨c,rest,h1,h2,h3,h4⟩:=h;exact⟨c,rest,h1,h2,IsE.keep hk e _ h3,Fz.keep hk l rest h4⟩
end
mutual
theorem IsE.mono {F F':Nat→Prop}{w:aR}(hk:∀k,k<w.heap.size→F k→F' k):∀(e:E) (v:Z),IsE F w e v→IsE F' w e v
 |.mk op x s name n l,v,h=>by
  rw[IsE]at h⊢;obtain⟨sv,cs,h1,h2,h3⟩:=h;exact⟨sv,cs,h1,h2.mono hk,Fz.mono hk l cs h3⟩
theorem Fz.mono {F F':Nat→Prop}{w:aR}(hk:∀k,k<w.heap.size→F k→F' k):∀(l:List E) (cs:List Z),Fz F w l cs→Fz F' w l cs
 |[],cs,h=>by assumption
 |e::l,cs,h=>by
  rw[Fz]at h⊢;obtain⟨c,rest,h1,h2,h3,h4⟩:=h;exact⟨c,rest,h1,h2,IsE.mono hk e _ h3,Fz.mono hk l rest h4⟩
end
def I1 (F:Nat→Prop)(w:aR)(sv:Z)(l:List E):Prop:=∃cs,Bq F 8 w sv l.length cs∧Fz F w l cs
theorem I1.keep {F}{w w'}{sv}{l}(h:I1 F w sv l)(hk:Keeps F w w'):I1 F w' sv l:=by
 obtain⟨cs,h1,h2⟩:=h;exact⟨cs,h1.keep hk,Fz.keep hk l cs h2⟩
theorem I1.mono {F F'}{w}{sv}{l}(h:I1 F w sv l)(hk:∀k,k<w.heap.size→F k→F' k):I1 F' w sv l:=by
 obtain⟨cs,h1,h2⟩:=h;exact⟨cs,h1.mono hk,Fz.mono hk l cs h2⟩
theorem I1.nil (F)(w):I1 F w (Q O 0 0) []:=⟨[],Bq.nil F 8 w,by rfl⟩
theorem I1.shape {F}{w}{sv}{l}(h:I1 F w sv l):∃ao cap,sv=Q ao l.length cap:=by
 obtain⟨cs,h1,_⟩:=h;exact h1.shape
theorem Nw {F}{w}{op}{x}{s name}{n}{l}{sv}(h:I1 F w sv l):IsE F w (.mk op x s name n l) (bU (Af op x s name n sv)):=by
 obtain⟨cs,h1,h2⟩:=h;rw[IsE];grind
theorem IsE.open {F}{w}{op}{x}{s name}{n}{l}{v}(h:IsE F w (.mk op x s name n l) v):∃sv,v=bU (Af op x s name n sv)∧I1 F w sv l:=by
 rw[IsE]at h;obtain⟨sv,cs,h1,h2,h3⟩:=h;exact⟨sv,h1,cs,h2,h3⟩
theorem Zr (F)(w):IsE F w E.nil (bU (Af 0 zero noW noW 0 (Q O 0 0))):=Nw (I1.nil F w)
theorem Zs (F)(w)(v):IsE F w (Lx v) (bU (Af 1 v noW noW 0 (Q O 0 0))):=Nw (I1.nil F w)
theorem Aqg (F)(w)(s name):IsE F w (Tq s name) (bU (Af 2 zero s name 0 (Q O 0 0))):=Nw (I1.nil F w)
theorem IsE.shape {F}{w}{e}{v}(h:IsE F w e v):∃op x s name n ao k c,v=bU (Af op x s name n (Q ao k c)):=by
 cases e with
 |mk op x s name n l=>
  obtain⟨sv,h1,h2⟩:=h.open;obtain⟨ao,c,rfl⟩:=h2.shape;grind
theorem Aaj {F}{w}:∀{l m:List E}{cs ds:List Z},Fz F w l cs→Fz F w m ds→Fz F w (l++m) (cs++ds)
 |[],m,cs,ds,h,k=>by rw[Fz]at h;grind
 |e::l,m,cs,ds,h,k=>by
  rw[Fz]at h;obtain⟨c,rest,rfl,h2,h3,h4⟩:=h;rw[bL,Fz];exact⟨c,_,by simp,h2,h3,Aaj h4 k⟩
theorem Abp {F}{w}{e}{c}(hc:c.length=8)(h:IsE F w e (bU c.toArray)):Fz F w [e] c:=by
 rw[Fz];exact⟨c,[],by simp,hc,h,by rfl⟩
theorem Abq {F}{w}{e}{op}{x}{s name}{n}{sv}(h:IsE F w e (bU (Af op x s name n sv)))(hB:F w.heap.size):
  I1 F (w.alloc (aG (Af op x s name n sv) 48)) (Q (J ⟨w.heap.size,0,O⟩) 1 1) [e]:=by
 have hb:Below _ w (w.alloc (aG (Af op x s name n sv) 48)):=(aI _ _).alloc (aC _) _;exact⟨_,Bq.new _ _ rfl hB (by simp) (by decide),Abp rfl (IsE.keep (Ai hb) e _ h)⟩
theorem Akd {F}{w}{e e'}{op op'}{x x'}{s name s' name'}{n n'}{sv sv'}(h:IsE F w e (bU (Af op x s name n sv)))(h':IsE F w e' (bU (Af op' x' s' name' n' sv')))(hB:F w.heap.size):
  I1 F (w.alloc (aG (Af op x s name n sv++Af op' x' s' name' n' sv') 48)) (Q (J ⟨w.heap.size,0,O⟩) 2 2) [e,e']:=by
 have hb:Below _ w (w.alloc (aG (Af op x s name n sv++Af op' x' s' name' n' sv') 48)):=(aI _ _).alloc (aC _) _;refine⟨_,Bq.new (Af op x s name n sv++Af op' x' s' name' n' sv').toList _ rfl hB (by simp) (by decide),?_⟩;exact Aaj (Abp rfl (IsE.keep (Ai hb) e _ h)) (Abp rfl (IsE.keep (Ai hb) e' _ h'))
theorem Ake {F}{w}:∀{l:List E}{cs:List Z}{k:Nat}{e:E},Fz F w l cs→l[k]?=J e→∃c:List Z,c.length=8∧IsE F w e (bU c.toArray)∧∀j u,c[j]?=J u→cs[k*8+j]?=J u
 |e::l,cs,0,x,h,hk=>by
  rw[Fz]at h;grind
 |e::l,cs,k+1,x,h,hk=>by
  rw[Fz]at h;obtain⟨c,rest,rfl,h2,_,h4⟩:=h;simp only[cY]at hk;obtain⟨d,d1,d2,d3⟩:=Ake h4 hk;grind
 |[],_,_,_,_,hk=>by grind
theorem Akf {F}{w}{b off n cap}{l}{cs}(hr:Bq F 8 w (Q (J ⟨b,off,O⟩) n cap) l.length cs)(ha:Fz F w l cs){k}{e}(hk:l[k]?=J e):
  ∃xo xk xn aa xs xm xi xa xl xc,IsE F w e (bU #[aO aW xo,aO aW xk,aO aW xn,Y aa,Y xs,Y xm,aO aW xi,Q xa xl xc])∧∀V,Below w.heap.size w V→V.cell? ⟨b,off+k*8,O⟩=J (aO aW xo)∧V.cell? ⟨b,off+k*8+1,O⟩=J (aO aW xk)∧V.cell? ⟨b,off+k*8+2,O⟩=J (aO aW xn)∧V.cell? ⟨b,off+k*8+3,O⟩=J (Y aa)∧V.cell? ⟨b,off+k*8+4,O⟩=J (Y xs)∧V.cell? ⟨b,off+k*8+5,O⟩=J (Y xm)∧V.cell? ⟨b,off+k*8+6,O⟩=J (aO aW xi)∧V.cell? ⟨b,off+k*8+7,O⟩=J (Q xa xl xc):=by
 obtain⟨c,c1,c2,c3⟩:=Ake ha hk;obtain⟨xo,⟨xk,xn,aa⟩,xs,xm,xi,xa,xl,xc,h⟩:=c2.shape;have hc:=by
  have:=congrArg Array.toList (Value.agg.inj h);simpa using this
 subst hc;refine⟨xo,xk,xn,aa,xs,xm,xi,xa,xl,xc,c2,fun V hV=>?_⟩;have h0:0<l.length:=by have:=(aF.1 hk).1;omega
 rcases hr.2 with⟨h1,_⟩|⟨_,b',o',c',he,_,hlt,_,_,hcell⟩
 ·omega
 ·cases he;have g:∀j u,([aO _ xo,aO _ xk,aO _ xn,Y aa,Y xs,Y xm,aO _ xi,Q xa xl xc]:List Z)[j]?=J u→V.cell? ⟨b,off+k*8+j,O⟩=J u:=fun j u hj=>by
   rw[eQ];exact(hV.cell hlt).trans (hcell _ u (c3 j u hj))
  exact⟨g 0 _ rfl,g 1 _ rfl,g 2 _ rfl,g 3 _ rfl,g 4 _ rfl,g 5 _ rfl,g 6 _ rfl,g 7 _ rfl⟩
theorem Dj {w:aR}{g}{arr}{t}{fr}(h:w.heap[g]?=J (aG arr t fr))(j)(x):(w.setCell ⟨g,j,O⟩ x).heap[g]?=J (aG (arr.setIfInBounds j x) t fr):=by
 simp only[fM,cC,if_true,h,Option.map_some];rfl
theorem set3 {w:aR}{g}{a b c x y z}{t}{fr}(h:w.heap[g]?=J (aG #[a,b,c] t fr)):
  (((w.setCell ⟨g,0,O⟩ x).setCell ⟨g,1,O⟩ y).setCell ⟨g,2,O⟩ z).heap[g]?=J (aG #[x,y,z] t fr):=Dj (Dj (Dj h 0 x) 1 y) 2 z
theorem Cc (w:aR)(o1 o2):((w.alloc o1).alloc o2).heap[w.heap.size+1]?=J o2:=by
 have:=Ab (w.alloc o1) o2;simp_all
theorem Fi (w:aR)(o1 o2 o3):(((w.alloc o1).alloc o2).alloc o3).heap[w.heap.size+2]?=J o3:=by
 have:=Ab ((w.alloc o1).alloc o2) o3;simp_all
theorem Aq (w)(o1):Below w.heap.size w (w.alloc o1):=(aI _ _).alloc (aC _) _
theorem Dd (w)(o1 o2):Below w.heap.size w ((w.alloc o1).alloc o2):=(Aq w o1).alloc (by simp) _
theorem Hy (w)(o1 o2 o3):Below w.heap.size w (((w.alloc o1).alloc o2).alloc o3):=(Dd w o1 o2).alloc (by simp;omega) _
theorem A3 {w:aR}{b g}(h:b≠g)(o j)(x):(w.setCell ⟨g,j,O⟩ x).cell? ⟨b,o,O⟩=w.cell? ⟨b,o,O⟩:=fT (gC w ⟨g,j,O⟩ x b h)
theorem Jc {W w1}{g}(h:Below W.heap.size W w1)(hg:g+3≤W.heap.size):
  g+3≤w1.heap.size∧(∀o,w1.cell? ⟨g,o,O⟩=W.cell? ⟨g,o,O⟩)∧(∀o,w1.cell? ⟨g+1,o,O⟩=W.cell? ⟨g+1,o,O⟩)∧(∀o,w1.cell? ⟨g+2,o,O⟩=W.cell? ⟨g+2,o,O⟩)∧(∀o,w1.frozen? ⟨g+2,o,O⟩=W.frozen? ⟨g+2,o,O⟩):=
 ⟨bT hg h.size,fun o=>h.cell (p:=⟨g,o,O⟩) (by grind),fun o=>h.cell (p:=⟨g+1,o,O⟩) (by grind),fun o=>h.cell (p:=⟨g+2,o,O⟩) (by grind),fun o=>h.frozen (p:=⟨g+2,o,O⟩) (by grind)⟩
theorem Aue {W w1}{g b}(h:Below W.heap.size W w1)(hg:g+2≤W.heap.size)(hb:b<g):
  g+2≤w1.heap.size∧(∀o,w1.cell? ⟨g,o,O⟩=W.cell? ⟨g,o,O⟩)∧(∀o,w1.cell? ⟨g+1,o,O⟩=W.cell? ⟨g+1,o,O⟩)∧(∀o,w1.frozen? ⟨g+1,o,O⟩=W.frozen? ⟨g+1,o,O⟩)∧(∀o,w1.cell? ⟨b,o,O⟩=W.cell? ⟨b,o,O⟩):=
 ⟨bT hg h.size,fun o=>h.cell (p:=⟨g,o,O⟩) (by grind),fun o=>h.cell (p:=⟨g+1,o,O⟩) (by grind),fun o=>h.frozen (p:=⟨g+1,o,O⟩) (by grind),fun o=>h.cell (p:=⟨b,o,O⟩) (by grind)⟩
theorem Art {W w1}{a b g}(h:Below W.heap.size W w1)(ha:a<W.heap.size)(hb:b<W.heap.size)(hg:g<W.heap.size):
  (∀o,w1.cell? ⟨a,o,O⟩=W.cell? ⟨a,o,O⟩)∧(∀o,w1.cell? ⟨b,o,O⟩=W.cell? ⟨b,o,O⟩)∧(∀o,w1.cell? ⟨g,o,O⟩=W.cell? ⟨g,o,O⟩)∧(∀o,w1.frozen? ⟨g,o,O⟩=W.frozen? ⟨g,o,O⟩):=
 ⟨fun o=>h.cell (p:=⟨a,o,O⟩) ha,fun o=>h.cell (p:=⟨b,o,O⟩) hb,fun o=>h.cell (p:=⟨g,o,O⟩) hg,fun o=>h.frozen (p:=⟨g,o,O⟩) hg⟩
theorem Ae {C}{w w'}(h:Below C w w'):Keeps (fun k=>k<C) w w':=⟨h.size,fun k hk _=>h.block k hk⟩
theorem al1 (w o1):Below w.heap.size w (w.alloc o1)∧(w.alloc o1).heap[w.heap.size]?=J o1∧(w.alloc o1).heap.size=w.heap.size+1:=⟨Aq w o1,Ab _ _,by simp⟩
theorem al2 (w o1 o2):Below w.heap.size w ((w.alloc o1).alloc o2)∧((w.alloc o1).alloc o2).heap[w.heap.size]?=J o1∧((w.alloc o1).alloc o2).heap[w.heap.size+1]?=J o2∧((w.alloc o1).alloc o2).heap.size=w.heap.size+2:=
 ⟨Dd w o1 o2,Ad (Ab _ _) _,Cc _ _ _,by simp⟩
theorem al3 (w o1 o2 o3):Below w.heap.size w (((w.alloc o1).alloc o2).alloc o3)∧(((w.alloc o1).alloc o2).alloc o3).heap[w.heap.size]?=J o1∧(((w.alloc o1).alloc o2).alloc o3).heap[w.heap.size+1]?=J o2∧(((w.alloc o1).alloc o2).alloc o3).heap[w.heap.size+2]?=J o3∧(((w.alloc o1).alloc o2).alloc o3).heap.size=w.heap.size+3:=
 ⟨Hy w o1 o2 o3,Ad (Ad (Ab _ _) _) _,Ad (Cc _ _ _) _,Fi _ _ _ _,by simp⟩
theorem al4 (w o1 o2 o3 o4):Below w.heap.size w ((((w.alloc o1).alloc o2).alloc o3).alloc o4)∧((((w.alloc o1).alloc o2).alloc o3).alloc o4).heap[w.heap.size]?=J o1∧((((w.alloc o1).alloc o2).alloc o3).alloc o4).heap[w.heap.size+1]?=J o2∧((((w.alloc o1).alloc o2).alloc o3).alloc o4).heap[w.heap.size+2]?=J o3∧((((w.alloc o1).alloc o2).alloc o3).alloc o4).heap[w.heap.size+3]?=J o4∧((((w.alloc o1).alloc o2).alloc o3).alloc o4).heap.size=w.heap.size+4:=by
 obtain⟨h,h0,h1,h2,h3⟩:=al3 w o1 o2 o3;have h4:=Ab (((w.alloc o1).alloc o2).alloc o3) o4;rw[h3]at h4;exact⟨h.alloc (by omega) _,Ad h0 _,Ad h1 _,Ad h2 _,h4,by simp⟩
end
section
def klt (a b:ByteArray):Bool:=aB a.toList b.toList
theorem Ri (a b):klt a b=U↔a.data.toList<b.data.toList:=by
 unfold klt;rw[Go.Proofs.bytesLess_eq,fL,fL];simp
theorem Gt (a):klt a a=aL:=by
 cases h:klt a a with
 |false=>rfl
 |true=>exact absurd ((Ri a a).1 h) (List.lt_irrefl _)
theorem Co {a b c}(h:klt a b=U)(k:klt b c=U):klt a c=U:=
 (Ri _ _).2 (List.lt_trans ((Ri _ _).1 h) ((Ri _ _).1 k))
theorem Kx {a b}(h:klt a b=U):klt b a=aL:=by
 cases k:klt b a with
 |false=>rfl
 |true=>have:=Co h k;rw[Gt]at this;grind
theorem Auf {a b:ByteArray}(h:a.data.toList=b.data.toList):a=b:=by
 cases a with
 |mk x=>simp_all
theorem Ji {a b}(h:klt a b=aL):a=b∨klt b a=U:=by
 by_cases e:a=b
 ·grind
 ·right
  have h':¬a.data.toList<b.data.toList:=fun k=>by rw[(Ri a b).2 k]at h;grind
  rw[Ri];rcases Decidable.em (b.data.toList<a.data.toList)with g|g
  ·omega
  ·exact absurd (Auf (List.le_antisymm (show a.data.toList≤b.data.toList from g) h')) e
theorem F3 {a b}(h:klt a b=U):a≠b:=by
 rintro rfl;rw[Gt]at h;grind
theorem Xq {a b c}(h:klt b a=aL)(k:klt b c=U):klt a c=U:=by
 rcases Ji h with rfl|h
 ·omega
 ·exact Co h k
theorem Rv {a b c}(h:klt a b=U)(k:klt c b=aL):klt a c=U:=by
 rcases Ji k with rfl|k
 ·omega
 ·exact Co h k
structure Pg where
 K:List ByteArray
 V:List ByteArray
def pg0:Pg:=⟨[],[]⟩
def Pg.ok (p:Pg):Prop:=1≤p.K.length∧p.K.length≤4∧p.V.length=p.K.length
abbrev Cd (l:List ByteArray):Prop:=l.Pairwise (fun a b=>klt a b=U)
def Ch (T:List Pg):List ByteArray:=T.flatMap Pg.K
def flat (T:List Pg):List (ByteArray×ByteArray):=T.flatMap fun p=>p.K.zip p.V
def As (T:List Pg):Prop:=(∀p∈T,p.ok)∧Cd (Ch T)
theorem Ey (p)(T):Ch (p::T)=p.K++Ch T:=by rfl
theorem Dk (A B):Ch (A++B)=Ch A++Ch B:=by simp[Ch]
theorem Fa (p)(T):flat (p::T)=p.K.zip p.V++flat T:=by rfl
theorem Bh (A B):flat (A++B)=flat A++flat B:=by simp[flat]
theorem Rw:flat []=[]:=rfl
theorem Ayb {K V:List ByteArray}(h:V.length=K.length):(K.zip V).map cT=K:=by
 rw[gW (by omega)]
theorem Ht:∀{T:List Pg},(∀p∈T,p.ok)→(flat T).map cT=Ch T
 |[],_=>rfl
 |p::T,h=>by
  rw[Fa,Ey,aU,Ayb (h p (by simp)).2.2,Ht fun q hq=>h q (by grind)]
theorem Aak:∀{T:List Pg},(∀p∈T,p.ok)→(flat T).length=(Ch T).length:=by
 intro T h;rw[←Ht h,cI]
theorem Aal:∀{T:List Pg},(∀p∈T,p.ok)→(Ch T).length≤4*T.length
 |[],_=>by simp[Ch]
 |p::T,h=>by
  have:=Aal fun q hq=>h q (List.mem_cons_of_mem _ hq)
  have:=(h p (by simp)).2.1;rw[Ey,aN,aZ];omega
structure Cut (F:List (ByteArray×ByteArray)) (k:ByteArray) (F1:List (ByteArray×ByteArray)) (o:Option ByteArray) (F2:List (ByteArray×ByteArray)):Prop where
 eq:F=F1++((o.toList.map fun v=>(k,v))++F2)
 lo:∀x∈F1,klt x.1 k=U
 hi:∀x∈F2,klt k x.1=U
def Hz (F:List (ByteArray×ByteArray))(k:ByteArray):Option ByteArray:=(F.find? fun x=>decide (x.1=k)).map fY
def I3 (F:List (ByteArray×ByteArray))(k v:ByteArray):List (ByteArray×ByteArray):=(F.filter fun x=>klt x.1 k)++(k,v)::(F.filter fun x=>klt k x.1)
def Jz (F:List (ByteArray×ByteArray))(k:ByteArray):List (ByteArray×ByteArray):=F.filter fun x=>decide (x.1≠k)
theorem Nx {α:Type}{p}{l:List α}(h:∀x∈l,p x=U):l.filter p=l:=List.filter_eq_self.2 h
theorem I4 {α:Type}{p}{l:List α}(h:∀x∈l,p x=aL):l.filter p=[]:=by simp_all
theorem Cut.get {F k F1 o F2}(c:Cut F k F1 o F2):Hz F k=o:=by
 have h1:F1.find? (fun x=>decide (x.1=k))=O:=by
  rw[eR];intro x hx;simpa using F3 (c.lo x hx)
 have h2:F2.find? (fun x=>decide (x.1=k))=O:=by
  rw[eR];intro x hx;simpa using(F3 (c.hi x hx)).symm
 unfold Hz;rw[c.eq,List.find?_append,h1];cases o with
 |none=>grind
 |some v=>simp
theorem Cut.put {F k F1 o F2}(c:Cut F k F1 o F2)(v:ByteArray):I3 F k v=F1++(k,v)::F2:=by
 unfold I3;rw[c.eq,bD,bD,bD,bD,Nx c.lo,I4 (l:=F2) fun x hx=>Kx (c.hi x hx),
  I4 (l:=F1) fun x hx=>Kx (c.lo x hx),Nx c.hi]
 have:∀q:(ByteArray×ByteArray)→Bool,(∀v,q (k,v)=aL)→(o.toList.map fun v=>(k,v)).filter q=[]:=by
  intro q hq;apply I4;intro x hx;simp at hx;obtain⟨v,_,rfl⟩:=hx;exact hq v
 rw[this _ fun v=>Gt k,this _ fun v=>Gt k];simp
theorem Cut.drop {F k F1 o F2}(c:Cut F k F1 o F2):Jz F k=F1++F2:=by
 unfold Jz;rw[c.eq,bD,bD,Nx fun x hx=>by simpa using F3 (c.lo x hx),Nx (l:=F2) fun x hx=>by simpa using(F3 (c.hi x hx)).symm];simp
theorem An1 (F)(h:Cd (F.map cT))(k):∃F1 o F2,Cut F k F1 o F2:=by
 induction F with
 |nil=>exact⟨[],O,[],rfl,by simp,by simp⟩
 |cons x F ih=>
  rw[dU,Cd,dM]at h
  by_cases h1:klt x.1 k=U
  ·obtain⟨F1,o,F2,c⟩:=ih h.2;exact⟨x::F1,o,F2,by rw[c.eq];rfl,by intro y hy;rcases bZ.1 hy with rfl|hy;exact h1;exact c.lo y hy,c.hi⟩
  ·have aa:=fun y hy=>h.1 _ (eB.2 ⟨y,hy,rfl⟩)
   rcases Ji (by simpa using h1)with e|h2
   ·exact⟨[],J x.2,F,by grind,by simp,fun y hy=>by grind⟩
   ·exact⟨[],O,x::F,by simp,by simp,fun y hy=>by
     rcases bZ.1 hy with rfl|hy
     ·omega
     ·exact Co h2 (aa y hy)⟩
theorem Gu {A B}:Cd (A++B)↔Cd A∧Cd B∧∀a∈A,∀b∈B,klt a b=U:=List.pairwise_append
theorem Cut.rise_put {F k F1 o F2}(c:Cut F k F1 o F2)(h:Cd (F.map cT))(v):Cd ((F1++(k,v)::F2).map cT):=by
 rw[c.eq]at h;simp only[aU,dU]at h⊢;rw[Gu]at h⊢;obtain⟨h1,h2,h3⟩:=h;rw[Gu]at h2;refine⟨h1,?_,?_⟩
 ·rw[Cd,dM];refine⟨?_,h2.2.1⟩;intro a ha;obtain⟨x,hx,rfl⟩:=eB.1 ha;exact c.hi x hx
 ·intro a ha b hb;rcases bZ.1 hb with rfl|hb
  ·obtain⟨x,hx,rfl⟩:=eB.1 ha;exact c.lo x hx
  grind
theorem Cut.rise_drop {F k F1 o F2}(c:Cut F k F1 o F2)(h:Cd (F.map cT)):Cd ((F1++F2).map cT):=by
 refine List.Pairwise.sublist ?_ h;rw[c.eq];simp
theorem Xr {T}(h:∀p∈T,p.ok)(k:Cd ((flat T).map cT)):As T:=⟨h,by rw[←Ht h];omega⟩
theorem As.rise {T}(h:As T):Cd ((flat T).map cT):=by rw[Ht h.1];exact h.2
theorem As.part {A B}(h:As (A++B)):As A∧As B:=by
 obtain⟨h1,h2⟩:=h;rw[Dk,Gu]at h2;exact⟨⟨fun p hp=>h1 p (by grind),h2.1⟩,⟨fun p hp=>h1 p (by grind),h2.2.1⟩⟩
theorem U8 (l)(h:Cd l)(k):∃a b,l=a++b∧(∀x∈a,klt x k=U)∧(∀x∈b,klt x k=aL):=by
 induction l with
 |nil=>exact⟨[],[],rfl,by simp,by simp⟩
 |cons x l ih=>
  rw[Cd,dM]at h;cases h1:klt x k with
  |true=>
   grind
  |false=>
   refine⟨[],_,rfl,by simp,?_⟩;intro y hy;rcases bZ.1 hy with rfl|hy
   ·omega
   ·cases h2:klt y k with
    |false=>rfl
    |true=>have:=Co (h.1 y hy) h2;grind
def El (p:Pg):ByteArray:=p.K.getLastD dW
theorem Ky {p}(h:p.ok):El p∈p.K:=by
 obtain⟨h1,_⟩:=h;unfold El;grind
theorem Agu {p}(hr:Cd p.K){x}(hx:x∈p.K):x=El p∨klt x (El p)=U:=by
 obtain⟨l,hl⟩:∃l,p.K=l++[El p]:=by
  unfold El;cases hk:p.K with
  |nil=>grind
  |cons a l=>exact⟨(a::l).dropLast,by rw[←List.dropLast_concat_getLast (l:=a::l) (by simp)];simp⟩
 grind
def Aru (T:List Pg)(k:ByteArray)(pg pl:Nat)(th:Bool):Prop:=
 (pg=T.length∧pl=0∧th=aL∧∀x∈Ch T,klt x k=U)∨
 ∃A p B K1 y K3,T=A++p::B∧p.K=K1++y::K3∧pg=A.length∧pl=K1.length∧(∀x∈Ch A,klt x k=U)∧(∀x∈K1,klt x k=U)∧klt y k=aL∧th=decide (y=k)
theorem Tr (T)(h:As T)(k):∃A B,T=A++B∧T.countP (fun p=>klt (El p) k)=A.length∧(∀x∈Ch A,klt x k=U)∧(∀p∈B,klt (El p) k=aL):=by
 induction T with
 |nil=>exact⟨[],[],rfl,rfl,by simp[Ch],by simp⟩
 |cons p T ih=>
  obtain⟨h1,h2⟩:=h;rw[Ey,Gu]at h2;obtain⟨A,B,e,hc,ha,hb⟩:=ih ⟨fun q hq=>h1 q (by simp[hq]),h2.2.1⟩;cases hl:klt (El p) k with
  |true=>
   refine⟨p::A,B,by rw[e];rfl,by rw[fD,hc,hl];simp,?_,hb⟩;intro x hx;rw[Ey]at hx;rcases bO.1 hx with hx|hx
   ·rcases Agu h2.1 hx with rfl|hx
    ·omega
    ·exact Co hx hl
   grind
  |false=>
   have aa:∀q∈p::T,klt (El q) k=aL:=by
    intro q hq;rcases bZ.1 hq with rfl|hq
    ·omega
    ·cases h3:klt _ k with
     |false=>rfl
     |true=>
      have:=h2.2.2 _ (Ky (h1 p (by simp))) _ (fC.2 ⟨q,hq,Ky (h1 q (by omega))⟩);have:=Co this h3;grind
   refine⟨[],_,rfl,?_,by simp[Ch],aa⟩;grind
theorem Aru.cut {T k pg pl th}(h:As T)(f:Aru T k pg pl th):∃F1 o F2,Cut (flat T) k F1 o F2∧(th=U↔o.isSome=U):=by
 obtain⟨F1,o,F2,c⟩:=An1 _ h.rise k;refine⟨F1,o,F2,c,?_⟩;have hk:k∈Ch T↔o.isSome=U:=by
  rw[←Ht h.1,c.eq];constructor
  ·intro hk;cases o with
   |some v=>rfl
   |none=>
    simp at hk;rcases hk with⟨x,hx⟩|⟨x,hx⟩
    ·exact absurd rfl (F3 (c.lo _ hx))
    ·exact absurd rfl (F3 (c.hi _ hx))
  ·intro ho;obtain⟨v,rfl⟩:=Option.isSome_iff_exists.1 ho;simp
 rw[←hk];rcases f with⟨_,_,rfl,hlt⟩|⟨A,p,B,K1,y,K3,rfl,hp,_,_,hA,hK,hy,rfl⟩
 ·constructor
  ·simp
  ·intro h;exact absurd rfl (F3 (hlt _ h))
 ·have hr:=h.2;rw[Dk,Ey,hp]at hr⊢;constructor
  ·grind
  ·intro hm;refine decide_eq_true ?_;rcases bO.1 hm with hm|hm
   ·exact absurd rfl (F3 (hA _ hm))
   ·rw[bJ]at hm;rcases bO.1 hm with hm|hm
    ·exact absurd rfl (F3 (hK _ hm))
    ·rcases bZ.1 hm with hm|hm
     ·grind
     ·have aa:=(Gu.1 hr).2.1;rw[bJ]at aa;have ab:=(Gu.1 aa).2.1;simp_all
end
section
open Go.RowKit
def A4 (rows:List (Z×Z)):List Z:=rows.flatMap fun r=>[r.1,r.2]
theorem Me:∀rows:List (Z×Z),(A4 rows).length=rows.length*2
 |[]=>rfl
 |r::rows=>by
  have:=Me rows;simp only[A4,List.flatMap_cons,aN,aZ,fI]at this⊢;omega
theorem Xc (a b):A4 (a++b)=A4 a++A4 b:=by simp[A4]
theorem Agv:∀(rows:List (Z×Z)) (i:Nat) (r:Z×Z),rows[i]?=J r→(A4 rows)[i*2]?=J r.1∧(A4 rows)[i*2+1]?=J r.2
 |x::rows,0,r,h=>by
  simp at h;subst h;simp[A4]
 |x::rows,i+1,r,h=>by
  have:=Agv rows i r (by grind);have e:A4 (x::rows)=x.1::x.2::A4 rows:=by simp[A4]
  grind
def Pgs (w:aR):List (Z×Z)→List Pg→Prop
 |[],[]=>True
 |r::rs,p::ps=>An w r.1 p.K∧An w r.2 p.V∧Pgs w rs ps
 |_,_=>False
theorem Pgs.length {w}:∀{rs:List (Z×Z)}{T:List Pg},Pgs w rs T→rs.length=T.length
 |[],[],_=>rfl
 |_::_,_::_,h=>by rw[aZ,aZ,Pgs.length h.2.2]
theorem Pgs.keep {w w'}{B}(hb:Below B w w')(hB:w.heap.size≤B):∀{rs:List (Z×Z)}{T:List Pg},Pgs w rs T→Pgs w' rs T
 |[],[],_=>trivial
 |_::_,_::_,h=>⟨h.1.keep hb hB,h.2.1.keep hb hB,Pgs.keep hb hB h.2.2⟩
theorem Pgs.append {w}:∀{rs aa:List (Z×Z)}{T T':List Pg},Pgs w rs T→Pgs w aa T'→Pgs w (rs++aa) (T++T')
 |[],_,[],_,_,h=>h
 |_::_,_,_::_,_,h,k=>⟨h.1,h.2.1,Pgs.append h.2.2 k⟩
theorem Pgs.part {w}:∀{rs:List (Z×Z)}{A B:List Pg},Pgs w rs (A++B)→Pgs w (rs.take A.length) A∧Pgs w (rs.drop A.length) B
 |rs,[],B,h=>⟨by rw[fI,List.take_zero];trivial,by grind⟩
 |r::rs,p::A,B,h=>by
  have:=Pgs.part h.2.2;exact⟨⟨h.1,h.2.1,this.1⟩,this.2⟩
theorem Pgs.at {w}:∀{rs:List (Z×Z)}{T:List Pg},Pgs w rs T→∀{i:Nat}{p:Pg},T[i]?=J p→∃r,rs[i]?=J r∧An w r.1 p.K∧An w r.2 p.V
 |[],[],_,i,p,hi=>by grind
 |r::_,_::_,h,0,p,hi=>by simp at hi;subst hi;exact⟨r,rfl,h.1,h.2.1⟩
 |_::_,_::_,h,i+1,p,hi=>by
  obtain⟨r,h1,h2⟩:=Pgs.at h.2.2 (by simpa using hi);grind
def Ba (w:aR)(sv:Z)(T:List Pg):Prop:=∃rows,Ex 2 w sv T.length (A4 rows)∧Pgs w rows T
def Bj (w:aR)(tv:Z)(T:List Pg):Prop:=∃sv,tv=bU #[sv]∧Ba w sv T
theorem Ba.keep {w w'}{B}{sv}{T}(h:Ba w sv T)(hb:Below B w w')(hB:w.heap.size≤B):Ba w' sv T:=by
 obtain⟨rows,h1,h2⟩:=h;exact⟨rows,h1.keep hb hB,Pgs.keep hb hB h2⟩
theorem Ba.below {w w'}{sv}{T}(h:Ba w sv T)(hb:Below w.heap.size w w'):Ba w' sv T:=h.keep hb (aC _)
theorem Bj.keep {w w'}{B}{tv}{T}(h:Bj w tv T)(hb:Below B w w')(hB:w.heap.size≤B):Bj w' tv T:=by
 obtain⟨sv,rfl,h⟩:=h;exact⟨sv,rfl,h.keep hb hB⟩
theorem Bj.below {w w'}{tv}{T}(h:Bj w tv T)(hb:Below w.heap.size w w'):Bj w' tv T:=h.keep hb (aC _)
def Uf (w:aR)(b off:Nat)(T:List Pg):Prop:=∀i p,T[i]?=J p→∃kv vv,w.cell? ⟨b,off+i*2,O⟩=J kv∧w.cell? ⟨b,off+i*2+1,O⟩=J vv∧An w kv p.K∧An w vv p.V
theorem Uf.below {w w'}{b off}{T}(h:Uf w b off T)(hb:Below w.heap.size w w')(aa:b<w.heap.size):Uf w' b off T:=by
 intro i p hi;obtain⟨kv,vv,h1,h2,h3,h4⟩:=h i p hi;exact⟨kv,vv,by rw[hb.cell aa];omega,by rw[hb.cell aa];omega,h3.below hb,h4.below hb⟩
theorem Ba.at {w}{sv}{T}(h:Ba w sv T)(h0:0<T.length):∃b aa cap,sv=Q (J ⟨b,aa,O⟩) T.length cap∧b<w.heap.size∧T.length≤cap∧cap≤aP∧Uf w b aa T:=by
 obtain⟨rows,h1,h2⟩:=h;rcases h1.2 with⟨h3,_⟩|⟨_,b,aa,cap,rfl,hb,hc,hm,hcell⟩
 ·omega
 ·refine⟨b,aa,cap,rfl,hb,hc,hm,fun i p hi=>?_⟩;obtain⟨r,hr,hk,hv⟩:=h2.at hi;obtain⟨c1,c2⟩:=Agv rows i r hr;grind
theorem Ba.empty {w}{sv}{T}(h:Ba w sv T)(h0:T.length=0):∃ao cap,sv=Q ao 0 cap∧(ao=O→cap=0):=by
 obtain⟨rows,h1,h2⟩:=h;rcases h1.2 with⟨_,ao,cap,rfl,hc⟩|⟨h3,_⟩
 ·grind
 omega
theorem Ba.nil (w):Ba w (Q O 0 0) []:=⟨[],Ex.nil 2 w,trivial⟩
def Qo (e:Ending)(p:Prop):Prop:=∃r,e=aE (bF r)∧(r=U↔p)
theorem Xs {p}(h:p):Qo (aE (bF U)) p:=⟨U,rfl,fun _=>h,fun _=>rfl⟩
theorem Qp {p}(h:¬p):Qo (aE (bF aL)) p:=⟨aL,rfl,fun x=>(by cases x),fun x=>absurd x h⟩
theorem Qo.yes {e}{p}(h:Qo e p)(k:p):e=aE (bF U):=by
 obtain⟨r,rfl,hr⟩:=h;grind
theorem Qo.no {e}{p}(h:Qo e p)(k:¬p):e=aE (bF aL):=by
 obtain⟨r,rfl,hr⟩:=h;grind
theorem hid {p}(h:p):Hid p:=h
end
section
theorem Aug {l}{a b}(h:Cd (l++[a]))(k:klt a b=U):Cd (l++[a]++[b]):=by
 rw[Gu];refine⟨h,by simp,?_⟩;intro x hx y hy;obtain rfl:y=b:=by grind
 rcases bO.1 hx with hx|hx
 ·exact Co ((Gu.1 h).2.2 x hx a (by simp)) k
 grind
theorem Afi {K:List ByteArray}{k}{a b}(h:Cd (K.take (k+1)))(ha:K[k]?=J a)(hb:K[k+1]?=J b)(aa:klt a b=U):Cd (K.take (k+1+1)):=by
 rw[bM,hb];rw[bM,ha]at h⊢;exact Aug h aa
theorem A1i {K}(h:Cd K){k}{a b}(ha:K[k]?=J a)(hb:K[k+1]?=J b):klt a b=U:=by
 obtain⟨h1,rfl⟩:=aF.1 ha;obtain⟨h2,rfl⟩:=aF.1 hb;exact List.pairwise_iff_getElem.1 h k _ h1 h2 (by omega)
def H6 (p:Pg):ByteArray:=p.K.headD dW
theorem Acv {p}(h:p.ok):H6 p∈p.K:=by
 obtain⟨h1,_⟩:=h;unfold H6;cases hk:p.K with
 |nil=>grind
 |cons a l=>simp
theorem Acw {p}(h:Cd p.K){x}(hx:x∈p.K):x=H6 p∨klt (H6 p) x=U:=by
 unfold H6;cases hk:p.K with
 |nil=>grind
 |cons a l=>
  rw[hk]at hx h;rcases bZ.1 hx with rfl|hx
  ·simp
  simp_all
theorem As.take {T}(h:As T)(k):As (T.take k):=by
 rw[←aS k T]at h;exact h.part.1
theorem As.page {T}(h:As T){k:Nat}{p}(hp:T[k]?=J p):p.ok∧Cd p.K:=by
 have hm:=aT hp;refine⟨h.1 p hm,?_⟩;obtain⟨A,B,rfl⟩:=List.append_of_mem hm;have:=h.2;rw[Dk,Ey,Gu]at this;grind
theorem Agw {T}{k}{q p:Pg}(hq:T[k]?=J q)(hp:T[k+1]?=J p):T=T.take k++q::p::T.drop (k+2):=by
 obtain⟨h1,rfl⟩:=aF.1 hq;obtain⟨h2,rfl⟩:=aF.1 hp;simp
theorem As.next {T}(h:As T){k}{q p}(hq:T[k]?=J q)(hp:T[k+1]?=J p):klt (El q) (H6 p)=U:=by
 have h1:=(h.page hq).1;have h2:=(h.page hp).1;rw[Agw hq hp]at h;have:=h.2;rw[Dk,Ey,Ey,Gu]at this;exact(Gu.1 this.2.1).2.2 _ (Ky h1) _ (eH _ (Acv h2))
theorem Agx {T:List Pg}{k}{p}(h:As (T.take k))(hp:T[k]?=J p)(h1:p.ok)(h2:Cd p.K)(h3:k=0∨∃q,T[k-1]?=J q∧klt (El q) (H6 p)=U):As (T.take (k+1)):=by
 rw[bM,hp];refine⟨?_,?_⟩
 ·intro q hq;rcases bO.1 hq with hq|hq
  ·exact h.1 q hq
  grind
 ·rw[Dk,Gu];refine⟨h.2,by simpa[Ch]using h2,?_⟩;intro a ha b hb;have ab:=by simpa[Ch]using hb
  rcases h3 with rfl|⟨q,hq,hlt⟩
  ·simp[Ch]at ha
  ·have aa:klt (El q) b=U:=by
    rcases Acw h2 ab with rfl|hx
    ·omega
    ·exact Co hlt hx
   have hk:k-1+1=k∨k=0:=by omega
   rcases hk with hk|rfl
   ·have e:T.take k=T.take (k-1)++[q]:=by rw[←hk,bM];simp only[gK];rw[hq];rfl
    rw[e,Dk]at ha;have hg:=h;rw[e]at hg;have ac:=by simpa[Ch]using hg.part.2.2
    rcases bO.1 ha with ha|ha
    ·have:=hg.2;rw[Dk,Gu]at this;exact Co (this.2.2 a ha _ (by simpa[Ch]using Ky (hg.1 q (by simp)))) aa
    ·rcases Agu ac (by simpa[Ch]using ha)with rfl|hx
     ·omega
     ·exact Co hx aa
   ·simp[Ch]at ha
theorem Ayc {p}{m}(h:p.K.length=m+1):p.K[m]?=J (El p):=by
 unfold El;grind
theorem Agy {p}(h:0<p.K.length):p.K[0]?=J (H6 p):=by
 unfold H6;cases hk:p.K with
 |nil=>grind
 |cons a l=>rfl
attribute [local go_sem↓] eW eX
set_option maxRecDepth 100000
open Go.RowKit
theorem Aam (p)(kv vv)(w)(hk:An w kv p.K)(h0:0<p.K.length)(h4:p.K.length≤4):
  aV aA 248 #[bU #[kv,vv]] w fun e w'=>e=aE (Y (El p))∧w'=w.alloc (aG #[kv,vv] 91):=by
 obtain⟨b,ac,cap,rfl,hb,hc,hm,aa⟩:=hk.at h0;obtain⟨m,ab⟩:∃m,p.K.length=m+1:=⟨p.K.length-1,by omega⟩;have c0:=aa m _ (Ayc ab);generalize El p=s at c0⊢;rw[ab]at hc⊢;have i2:(((m+1:Nat):Int)-1).toNat=m:=by omega
 clear aa hk;go_enter Tryz.func248,Tryz.ntmps248;go_wp2;go_ret;simp
theorem Ai4 (p:Pg)(b aa cap:Nat)(vv:Z)(w:aR)(hb:b<w.heap.size)(ad:∀i s,p.K[i]?=J s→w.cell? ⟨b,aa+i,O⟩=J (Y s))(hv:∃ao c,vv=Q ao p.K.length c)(h0:0<p.K.length)(h4:p.K.length≤4):
  aV aA 247 #[bU #[Q (J ⟨b,aa,O⟩) p.K.length cap,vv]] w fun e w'=>Qo e (Cd p.K)∧Below w.heap.size w w':=by
 obtain⟨ao,c,rfl⟩:=hv;have HC:=hid ad;clear ad;generalize hn:p.K.length=n at*;have HN:=hid hn;clear hn;have t1:¬((n:Int)<1):=by omega
 have t2:¬((n:Int)>4):=by omega
 go_enter eY,eM;go_wp2
 go_loopw[3] (fun i wr=>∃k:Nat,k+1≤n∧i=aO aW ((k:Int)+1)∧Below w.heap.size w wr∧wr.cell? ⟨w.heap.size,0,O⟩=J (Q (J ⟨b,aa,O⟩) n cap)∧Hid (Cd (p.K.take (k+1)))) (fun i _=>n-(cL i).toNat)
 case atStart=>exact⟨0,h0,rfl,by first|exact(aI _ _).alloc (aC _) _|skip,by first|exact Aa (Ab w _) rfl|skip,hid (by
   have:(p.K.take 1).length≤1:=by simp;omega
   match hx:p.K.take 1,this with
   |[],_=>exact List.Pairwise.nil
   |[a],_=>simp[Cd]
   |_::_::_,h=>simp at h)⟩
 case round=>
  obtain⟨k,hk,rfl,ab,ae,HR⟩:=hrel
  by_cases ah:k+1<n
  ·obtain⟨a,ha⟩:∃a,p.K[k]?=J a:=⟨_,aD (by rw[HN.out];omega)⟩;obtain⟨d,hd⟩:∃d,p.K[k+1]?=J d:=⟨_,aD (by rw[HN.out];omega)⟩;have c0:wr.cell? ⟨b,aa+k,O⟩=J (Y a):=by rw[ab.cell (p:=⟨b,aa+k,O⟩) hb];exact HC.out k a ha
   have c1:wr.cell? ⟨b,aa+(k+1),O⟩=J (Y d):=by rw[ab.cell (p:=⟨b,aa+(k+1),O⟩) hb];exact HC.out (k+1) d hd
   have HS:=hid (fun h=>Afi HR.out ha hd h);have HF:=hid (fun h=>A1i h ha hd);clear ha hd;have j0:(0:Int)≤k:=by omega
   have j1:k<(n:Int):=by omega
   have j2:(0:Int)≤k+1:=by omega
   have j3:k+1<(n:Int):=by omega
   have j4:k+1-1=(k:Int):=by omega
   have j5:((k:Int)+1).toNat=k+1:=by omega
   cases ac:klt a d
   ·have af:aB _ _=aL:=ac;go_wp2;go_quiet(fail);go_wp2;go_ret;exact⟨Qp (fun h=>by have:=HF.out h;grind),by first|exact eU ab _|exact ab.drew⟩
   ·have af:aB _ _=U:=ac;go_wp2;go_quiet(fail);go_wp2;go_roundw
    case rel=>exact⟨_,by omega,by rfl,by first|exact eU ab _|exact ab.drew,ae,hid (HS.out ac)⟩
    case measure=>simp[cL];omega
  ·have ag:k+1=n:=by omega
   have j3:¬(k+1<(n:Int)):=by omega
   go_wp2;go_ret;exact⟨Xs (by have:=HR.out;rwa[ag,←HN.out,cA]at this),ab⟩
theorem Akg (n m)(ao bo)(c d)(w)(aa:n<1∨4<n∨m≠n)(hn:n≤aP):
  aV aA 247 #[bU #[Q ao n c,Q bo m d]] w fun e w'=>e=aE (bF aL)∧Below w.heap.size w w':=by
 unfold aP at hn
 by_cases h1:n<1
 ·obtain rfl:n=0:=by omega
  go_enter eY,eM;go_wp2;go_ret;exact⟨rfl,(aI _ _).alloc (aC _) _⟩
 ·have t1:¬((n:Int)<1):=by omega
  by_cases h2:4<n
  ·have t2:(n:Int)>4:=by omega
   go_enter eY,eM;go_wp2;go_ret;exact⟨rfl,(aI _ _).alloc (aC _) _⟩
  ·have t2:¬((n:Int)>4):=by omega
   have t3:¬(m=(n:Int)):=by omega
   go_enter eY,eM;go_wp2;go_ret;exact⟨rfl,(aI _ _).alloc (aC _) _⟩
theorem Akh (p:Pg)(kv vv)(w)(hk:An w kv p.K)(hv:An w vv p.V)(hl:p.K.length≤aP):
  aV aA 247 #[bU #[kv,vv]] w fun e w'=>Qo e (p.ok∧Cd p.K)∧Below w.heap.size w w':=by
 by_cases h:p.ok
 ·obtain⟨b,aa,cap,rfl,hb,_,_,ab⟩:=hk.at h.1;refine(Ai4 p b aa cap vv w hb ab (by obtain⟨ao,c,e⟩:=hv.shape;exact⟨ao,c,by rw[e,h.2.2]⟩) h.1 h.2.1).mono ?_;grind
 ·obtain⟨ao,c,rfl⟩:=hk.shape;obtain⟨bo,d,rfl⟩:=hv.shape;refine(Akg _ _ ao bo c d w (by unfold Pg.ok at h;omega) hl).mono ?_;rintro e w' ⟨rfl,ac⟩;exact⟨Qp fun x=>h x.1,ac⟩
theorem Arv (ao)(c)(w):aV aA 189 #[bU #[Q ao 0 c]] w fun e w'=>Qo e (As [])∧Below w.heap.size w w':=by
 go_enter Tryz.func189,Tryz.ntmps189;go_wp2;refine eS 1 ?_;rw[dJ];go_wp2;go_ret;exact⟨Xs ⟨by simp,by simp[Ch]⟩,(aI _ _).alloc (aC _) _⟩
theorem Aki {w a b c}(h:Below w.heap.size w a)(k:Below a.heap.size a b)(l:Below b.heap.size b c):Below w.heap.size w c:=Ac (Ac h k) l
theorem Auh (T:List Pg)(b ac cap:Nat)(w:aR)(hb:b<w.heap.size)(hT:Uf w b ac T)(hn:T.length≤cap)(hm:cap≤aP)(hl:∀p∈T,p.K.length≤aP):
  aV aA 189 #[bU #[Q (J ⟨b,ac,O⟩) T.length cap]] w fun e w'=>Qo e (As T)∧Below w.heap.size w w':=by
 have HL:=hid hl;clear hl;generalize hN:T.length=n at*;have HN:=hid hN;clear hN;unfold aP at hm;go_enter Tryz.func189,Tryz.ntmps189;go_wp2
 go_loopw[8] (fun i wr=>∃k:Nat,k≤n∧i=aO aW k∧Below w.heap.size w wr∧wr.cell? ⟨w.heap.size,0,O⟩=J (Q (J ⟨b,ac,O⟩) n cap)∧Hid (As (T.take k))) (fun i _=>n-(cL i).toNat)
 case atStart=>exact⟨0,aX _,rfl,(aI _ _).alloc (aC _) _,Aa (Ab w _) rfl,hid ⟨by simp,by simp[Ch,Cd]⟩⟩
 case round=>
  obtain⟨k,hk,rfl,ad,ag,HG⟩:=hrel
  by_cases bg:k<n
  ·obtain⟨p,hp⟩:∃p,T[k]?=J p:=⟨_,aD (by rw[HN.out];omega)⟩;have ai:Uf wr b ac T:=by
    intro i q hi;obtain⟨kv,vv,h1,h2,h3,h4⟩:=hT i q hi;exact⟨kv,vv,by rw[ad.cell (p:=⟨b,ac+i*2,O⟩) hb];exact h1,by rw[ad.cell (p:=⟨b,ac+i*2+1,O⟩) hb];exact h2,h3.keep ad (aC _),h4.keep ad (aC _)⟩
   obtain⟨kv,vv,c0,c1,aj,an⟩:=ai k p hp;obtain⟨va,vc,rfl⟩:=an.shape;have ap:b<wr.heap.size:=aJ hb ad.size;have aq:w.heap.size<wr.heap.size:=block_lt_of_cell ag;have ar:=HL.out p (aT hp);obtain⟨aa,-,bb⟩:=al1 wr (aG #[kv,Q va p.V.length vc] 91);have gp:=Akh p kv (Q va p.V.length vc) (wr.alloc (aG #[kv,Q va p.V.length vc] 91)) (aj.below aa) (an.below aa) ar;have au:(wr.alloc (aG #[kv,Q va p.V.length vc] 91)).cell? ⟨wr.heap.size,0,O⟩=J kv:=Aa (Ab wr _) rfl;have i0:(0:Int)≤(k:Int):=by omega
   have i1:(k:Int)<(n:Int):=by omega
   clear hT ar
   by_cases ae:p.ok∧Cd p.K
   ·have af:=gp.mono (R':=fun e w'=>e=aE (bF U)∧Below (wr.alloc (aG #[kv,Q va p.V.length vc] 91)).heap.size (wr.alloc (aG #[kv,Q va p.V.length vc] 91)) w') (fun e w' h=>⟨h.1.yes ae,h.2⟩);clear gp;have av:0<p.K.length:=ae.1.1;obtain⟨kb,ko,kc,rfl,bc,bh,bi,aw⟩:=aj.at av;have cf:=aw 0 _ (Agy av);rcases aQ k with rfl|hkp
    ·simp only[Nat.zero_mul,bY]at c0 c1;go_wp2_with(refine af.mono ?_;rintro e w2 ⟨rfl,ab⟩);go_quiet(fail);go_wp2;go_roundw
     case rel=>exact⟨_,by omega,by rfl,by first|exact eU (Aki ad aa ab) _|exact(Aki ad aa ab).drew,by first|exact(ab.cell (by grind)).trans ((aa.cell aq).trans ag)|skip,hid (Agx HG.out hp ae.1 ae.2 (.inl rfl))⟩
     case measure=>simp[cL];omega
    ·obtain⟨j,ax⟩:∃j,k=j+1:=⟨k-1,by omega⟩;obtain⟨q,hq⟩:∃q,T[j]?=J q:=⟨_,aD (by rw[HN.out];omega)⟩;obtain⟨kq,vq,d0,d1,bd,bj⟩:=ai j q hq;have ay:=by have:=HG.out;exact this.1 q (aT (i:=j) (by grind))
     have az:=hid (fun h=>Agx HG.out hp ae.1 ae.2 (.inr ⟨q,by grind,h⟩));have ba:=hid (fun h:As T=>h.next hq (by rw[←ax];exact hp));have j0:(0:Int)≤j:=by omega
     have j1:j<(n:Int):=by omega
     have j2:k-1=(j:Int):=by omega
     have j3:(k:Int)>0:=by omega
     have j5:IntKind.i64.wrap (k-1)=j:=by rw[gB];omega
     have j6:IntKind.i64.wrap j=j:=by rw[gB];omega
     clear ai hp hq ax;go_wp2_with(refine af.mono ?_;rintro e w2 ⟨rfl,ab⟩);have ah:=Aki ad aa ab;have e0:=(ab.cell (by simp;omega)).trans ((aa.cell aq).trans ag);have e1:=(ab.cell (by simp;omega)).trans ((aa.cell ap).trans d0);have e2:=(ab.cell (by simp;omega)).trans ((aa.cell ap).trans d1);have e3:=(ab.cell (by simp)).trans au;have e4:=(ab.cell (by simp;omega)).trans ((aa.cell (p:=⟨kb,ko,O⟩) bc).trans cf);have lk:=fun W hW=>Aam q kq vq W (((bd.below aa).below ab).below hW) ay.1 ay.2.1
     have g0:(0:Int)<p.K.length:=by omega
     generalize p.K.length=pn at*;have ak:=hid (show klt _ _=U→As _ from az.out);have al:=hid (show As T→klt _ _=U from ba.out);generalize El q=lq at lk ak al;generalize H6 p=fp at e4 ak al;clear az ba d0 d1 ag au cf c0 c1 aw af bb;cases am:klt lq fp
     ·have be:aB _ _=aL:=am
      go_region_held3(fun w'=>w'.cell? ⟨w.heap.size,0,O⟩=J (Q (J ⟨b,ac,O⟩) n cap)∧w'.cell? ⟨b,ac+j*2,O⟩=J kq∧w'.cell? ⟨b,ac+j*2+1,O⟩=J vq∧w'.cell? ⟨wr.heap.size,0,O⟩=J (Q (J ⟨kb,ko,O⟩) pn kc)∧w'.cell? ⟨kb,ko,O⟩=J (Y fp)) (first|go_keep|skip)
       (first|(refine(lk _ ((aI _ _).drew)).mono ?_;rintro e w3 ⟨rfl,rfl⟩))
      go_wp2;go_ret;exact⟨Qp (fun h=>by have:=al.out h;grind),ah.drew.alloc (by simp;exact bT ah.size (aC _)) _⟩
     ·have be:aB _ _=U:=am
      go_region_held3(fun w'=>w'.cell? ⟨w.heap.size,0,O⟩=J (Q (J ⟨b,ac,O⟩) n cap)∧w'.cell? ⟨b,ac+j*2,O⟩=J kq∧w'.cell? ⟨b,ac+j*2+1,O⟩=J vq∧w'.cell? ⟨wr.heap.size,0,O⟩=J (Q (J ⟨kb,ko,O⟩) pn kc)∧w'.cell? ⟨kb,ko,O⟩=J (Y fp)) (first|go_keep|skip)
       (first|(refine(lk _ ((aI _ _).drew)).mono ?_;rintro e w3 ⟨rfl,rfl⟩))
      go_wp2;go_roundw
      case rel=>exact⟨_,by omega,by rfl,ah.drew.alloc (by simp;exact bT ah.size (aC _)) _,by grind,hid (ak.out am)⟩
      case measure=>simp[cL];omega
   ·obtain⟨ka,kc,rfl⟩:=aj.shape;have af:=gp.mono (R':=fun e w'=>e=aE _∧Below _ _ w') (fun e w' h=>⟨h.1.no ae,h.2⟩);clear gp;go_wp2_with(refine af.mono ?_;rintro e w2 ⟨rfl,ab⟩);go_ret;exact⟨Qp fun h=>ae (h.page hp),(ad.trans (aa.mono ad.size)).trans (ab.mono (bT ad.size aa.size))⟩
  ·have bf:k=n:=by omega
   subst bf;go_wp2;go_ret;exact⟨Xs (by have:=HG.out;rwa[←HN.out,cA]at this),ad⟩
end
end Go.Proofs.YtocegbpmmiabmaaGreatDoor
namespace Go.Proofs
open Go.Shelf
theorem sN {P:Program}{F:FuncId}{f:Func}{B:Func}(h:P.funcs[F]?=J f)(hd:(f.name== "runtime.NumGoroutine")=aL:=by decide)(e:f={B with name:=f.name}:=by kernel_rfl):Bears P F B:=⟨f.name,hd,h.trans (congrArg J e)⟩
theorem sF {P:Program}{F:FuncId}{f g:Func}(h:P.funcs[F]?=J f)(e:f=g:=by kernel_rfl):P.funcs[F]?=J g:=h.trans (congrArg J e)
end Go.Proofs
namespace Go.Proofs.YtocegbpmmiabmaaGreatDoor
end Go.Proofs.YtocegbpmmiabmaaGreatDoor
namespace Go.Proofs
open Go.Shelf
def Tryz.laysClone_ren:cX:=⟨fun|16=>31|n=>n,fun|24=>43|9=>9|4=>4|n=>n,fun|n=>n⟩
theorem Tryz.laysClone:Go.Proofs.Lays2.n16 aA Tryz.laysClone_ren:={
 mixed:=by kernel_rfl
 f16:=sF Tryz.func31
 t4:=cF
 a4:=dD
 z4:=cZ
 v4:=cH
 t9:=bG
 a9:=dR
 z9:=dH
 v9:=cU
 t24:=bI
 a24:=dZ
 z24:=dT
 v24:=dA
 i9:=by kernel_rfl}
def Tryz.laysInsert_ren:cX:=⟨fun|22=>193|29=>250|30=>251|36=>312|17=>352|n=>n,fun|24=>43|9=>9|3=>3|4=>4|0=>0|n=>n,fun|n=>n⟩
theorem Tryz.laysInsert:Go.Proofs.Lays2.n22 aA Tryz.laysInsert_ren:={
 mixed:=by kernel_rfl
 f17:=sF Tryz.func352
 f22:=sF Tryz.func193
 f29:=sF Tryz.func250
 f30:=sF Tryz.func251
 f36:=sF Tryz.func312
 t0:=dB
 a0:=eG
 z0:=dY
 v0:=dE
 t3:=bR
 a3:=dS
 z3:=dI
 v3:=cV
 t4:=cF
 a4:=dD
 z4:=cZ
 v4:=cH
 t9:=bG
 a9:=dR
 z9:=dH
 v9:=cU
 t24:=bI
 a24:=dZ
 z24:=dT
 v24:=dA
 i9:=by kernel_rfl}
def Tryz.laysDelete_ren:cX:=⟨fun|24=>253|n=>n,fun|24=>43|9=>9|3=>3|4=>4|0=>0|n=>n,fun|n=>n⟩
theorem Tryz.laysDelete:Go.Proofs.Lays2.n24 aA Tryz.laysDelete_ren:={
 mixed:=by kernel_rfl
 f24:=sF Tryz.func253
 t0:=dB
 a0:=eG
 z0:=dY
 v0:=dE
 t3:=bR
 a3:=dS
 z3:=dI
 v3:=cV
 t4:=cF
 a4:=dD
 z4:=cZ
 v4:=cH
 t9:=bG
 a9:=dR
 z9:=dH
 v9:=cU
 t24:=bI
 a24:=dZ
 z24:=dT
 v24:=dA
 i9:=by kernel_rfl}
def Tryz.laysFind_ren:cX:=⟨fun|26=>242|33=>305|34=>306|38=>236|n=>n,fun|24=>43|9=>9|3=>3|4=>4|40=>265|0=>0|n=>n,fun|n=>n⟩
theorem Tryz.laysFind:Go.Proofs.Lays2.n26 aA Tryz.laysFind_ren:={
 mixed:=by kernel_rfl
 f26:=sF Tryz.func242
 f33:=sF Tryz.func305
 f34:=sF Tryz.func306
 f38:=sF Tryz.func236
 t0:=dB
 a0:=eG
 z0:=dY
 v0:=dE
 t3:=bR
 a3:=dS
 z3:=dI
 v3:=cV
 t4:=cF
 a4:=dD
 z4:=cZ
 v4:=cH
 t9:=bG
 a9:=dR
 z9:=dH
 v9:=cU
 t24:=bI
 a24:=dZ
 z24:=dT
 v24:=dA
 t40:=gD
 a40:=Tryz.isAgg265
 z40:=Tryz.sizeOf265
 v40:=gI}
def Tryz.laysSearch_ren:cX:=⟨fun|16=>303|n=>n,fun|3=>3|35=>322|4=>4|38=>265|n=>n,fun|n=>n⟩
theorem Tryz.laysSearch:Go.Proofs.SlLaysO.n16 aA Tryz.laysSearch_ren:={
 mixed:=by kernel_rfl
 f16:=sF Tryz.func303
 t3:=bR
 a3:=dS
 z3:=dI
 v3:=cV
 t4:=cF
 a4:=dD
 z4:=cZ
 v4:=cH
 t35:=Tryz.underlying322
 a35:=Tryz.isAgg322
 z35:=Tryz.sizeOf322
 v35:=Tryz.zeroValue322
 t38:=gD
 a38:=Tryz.isAgg265
 z38:=Tryz.sizeOf265
 v38:=gI}
def Tryz.laysGrowP_ren:cX:=⟨fun|4=>311|n=>n,fun|22=>63|25=>91|3=>3|4=>4|9=>9|20=>20|0=>0|n=>n,fun|n=>n⟩
theorem Tryz.laysGrowP:fF aA Tryz.laysGrowP_ren:={
 mixed:=by kernel_rfl
 f4:=sN Tryz.func311
 t0:=dB
 a0:=eG
 z0:=dY
 v0:=dE
 t3:=bR
 a3:=dS
 z3:=dI
 v3:=cV
 t4:=cF
 a4:=dD
 z4:=cZ
 v4:=cH
 t9:=bG
 a9:=dR
 z9:=dH
 v9:=cU
 t20:=gJ
 a20:=Tryz.isAgg20
 z20:=Tryz.sizeOf20
 v20:=gS
 t22:=dQ
 a22:=Tryz.isAgg63
 z22:=Tryz.sizeOf63
 v22:=Tryz.zeroValue63}
def Tryz.laysGrowS_ren:cX:=⟨fun|4=>353|n=>n,fun|22=>43|25=>9|3=>3|4=>4|9=>9|20=>20|0=>0|n=>n,fun|n=>n⟩
theorem Tryz.laysGrowS:fF aA Tryz.laysGrowS_ren:={
 mixed:=by kernel_rfl
 f4:=sN Tryz.func353
 t0:=dB
 a0:=eG
 z0:=dY
 v0:=dE
 t3:=bR
 a3:=dS
 z3:=dI
 v3:=cV
 t4:=cF
 a4:=dD
 z4:=cZ
 v4:=cH
 t9:=bG
 a9:=dR
 z9:=dH
 v9:=cU
 t20:=gJ
 a20:=Tryz.isAgg20
 z20:=Tryz.sizeOf20
 v20:=gS
 t22:=bI
 a22:=dZ
 z22:=dT
 v22:=dA}
end Go.Proofs
namespace Go.Proofs.YtocegbpmmiabmaaGreatDoor
section
open Go.RowKit
theorem Lk (z:Z)(n):(cD z.cells n).size=n*z.cells.size:=by
 simp[cD]
theorem Abr {w:aR}{t}{z:Z}{size n G}(hz:z.cells.size=size)(hn:n≤G)(hG:G≤aP):
  (w.drew.alloc (aG (([]:List Z).toArray++cD z.cells n++cD z.cells (G-n)) t)).ownsRow w.heap.size t size (Q (J ⟨w.heap.size,0,O⟩) 0 G) 0 []:=by
 refine⟨by simp,.inr ⟨_,G,_,rfl,aC _,Ab _ _,aX _,hG,?_,by simp⟩⟩;rw[dO,dO,Lk,Lk,hz];simp only[List.size_toArray,fI,cE];rw[←Nat.add_mul];grind
theorem Agz:(Tryz.prog.info? 91).map (fun i=>(i.zero,i.size,i.bytes))=J (J (bU #[Q O 0 0,Q O 0 0]),2,48):=by kernel_rfl
theorem Kg:(Tryz.prog.info? 9).map (fun i=>(i.zero,i.size,i.bytes))=J (J (Y ⟨#[]⟩),1,16):=by kernel_rfl
theorem A4p (n:Nat)(w)(hn:n*48≤140737488355328):
  aV aA 311 #[Q O 0 0,aO aW n] w fun e w'=>∃v,e=aE v∧w'.ownsRow w.heap.size 91 2 v 0 []∧Below w.heap.size w w':=by
 obtain⟨i0,hi,aa,ab,ac⟩:=dF Agz;rcases aQ n with rfl|h0
 ·refine(fW Tryz.laysGrowP O 0 0 0 w (aC _) (by omega) (by omega) (by omega)).mono ?_;rintro e w' ⟨rfl,rfl⟩;exact⟨_,rfl,cK _ _ _ _,aI _ _⟩
 ·refine(fX Tryz.laysGrowP i0 _ hi aa (by omega) O 0 0 n [] w (by omega) (by omega) (by grind) (by omega) (by simp) (fun _=>rfl) (fun a h=>by simp)).mono ?_;rintro e w' ⟨rfl,rfl⟩;rw[cE];have hG:dX w n 0 91≤aP:=fE w n 0 _ (by unfold aP;omega);exact⟨_,rfl,Abr rfl (gY w n 0 91) hG,((aI _ w).drew).alloc (aC _) _⟩
theorem A4q (n:Nat)(w)(hn:n*16≤140737488355328):
  aV aA 353 #[Q O 0 0,aO aW n] w fun e w'=>∃v,e=aE v∧w'.ownsRow w.heap.size 9 1 v 0 []∧Below w.heap.size w w':=by
 obtain⟨i0,hi,aa,ab,ac⟩:=dF Kg;rcases aQ n with rfl|h0
 ·refine(fW Tryz.laysGrowS O 0 0 0 w (aC _) (by omega) (by omega) (by omega)).mono ?_;rintro e w' ⟨rfl,rfl⟩;exact⟨_,rfl,cK _ _ _ _,aI _ _⟩
 ·refine(fX Tryz.laysGrowS i0 _ hi aa (by omega) O 0 0 n [] w (by omega) (by omega) (by grind) (by omega) (by simp) (fun _=>rfl) (fun a h=>by simp)).mono ?_;rintro e w' ⟨rfl,rfl⟩;rw[cE];have hG:dX w n 0 9≤aP:=fE w n 0 _ (by unfold aP;omega);exact⟨_,rfl,Abr rfl (gY w n 0 9) hG,((aI _ w).drew).alloc (aC _) _⟩
theorem A1j (K1 K2:List ByteArray)(k)(h1:∀x∈K1,klt x k=U)(h2:∀x∈K2,klt x k=aL):
  Lib.bsGo (fun t=>aB ((K1++K2).getD t k).toList k.toList) (K1++K2).length 0 (K1++K2).length=K1.length:=by
 refine Lib.bsGo_spec _ _ ?_ ?_ _ _ _ (by omega) (by omega) (by simp)
 ·intro t ht;show klt _ k=U;grind
 ·intro t ht;show klt _ k=aL;rw[cN,cB ht];cases hg:K2[t-K1.length]? with
  |none=>exact Gt k
  |some x=>grind
theorem U9 (K1 K2)(k)(kv)(w)(hk:An w kv (K1++K2))(h1:∀x∈K1,klt x k=U)(h2:∀x∈K2,klt x k=aL)(ab:(K1++K2).length≤4):
  aV aA 242 #[kv,Y k] w fun e w'=>e=aE (eF #[aO aW K1.length,bF (decide (K2.head? =J k))])∧Below w.heap.size w w':=by
 rcases aQ (K1++K2).length with h0|h0
 ·have he:=aK h0;obtain⟨rfl,rfl⟩:=List.append_eq_nil_iff.1 he;obtain⟨ao,cap,rfl⟩:=hk.shape;refine(Any2.slices_BinarySearch_string_empty Tryz.laysFind ao cap k w).mono ?_;rintro e w' ⟨rfl,rfl⟩;exact⟨rfl,aI _ _⟩
 ·obtain⟨b,aa,cap,rfl,hb,_,_,hc⟩:=hk.at h0;refine(Any2.slices_BinarySearch_string Tryz.laysFind b aa _ cap (fun t=>(K1++K2).getD t k) k w (by omega) ?_).mono ?_
  ·grind
  ·rintro e w' ⟨rfl,q,rfl⟩;rw[A1j K1 K2 k h1 h2];refine⟨?_,eU (aI _ _) q⟩;have hd:(K1.length<(K1++K2).length∧(K1++K2).getD K1.length k=k)↔K2.head? =J k:=by
    cases K2 with
    |nil=>simp
    |cons y K=>simp
   grind
def Cs (w:aR)(B g cap:Nat)(L:List ByteArray):Prop:=B≤g∧w.ownsRow B 9 1 (Q (J ⟨g,0,O⟩) L.length cap) L.length (L.map Y)
theorem Ag0 (L)(sv)(w)(h:An w sv L)(h0:0<L.length)(hl:L.length≤8):
  aV aA 31 #[sv] w fun e w'=>∃g cap,e=aE (Q (J ⟨g,0,O⟩) L.length cap)∧Cs w' w.heap.size g cap L∧Below w.heap.size w w':=by
 obtain⟨b,aa,cap,rfl,hb,_,_,hc⟩:=h.at h0;refine(Any.slices_Clone_string Tryz.laysClone b aa _ cap L w (aC _) (by omega) ?_).mono ?_
 ·grind
 ·rintro e w' ⟨v,rfl,ho,_,hb⟩;rw[cA]at ho;rcases ho.2 with⟨_,hz⟩|⟨g,c,cur,rfl,hg,_⟩
  ·omega
  ·exact⟨g,c,rfl,⟨hg,ho⟩,hb⟩
attribute [local go_sem↓] eW eX
end
section
set_option maxRecDepth 100000
open Go.RowKit Go.Sort
theorem Aui (T)(tb xb b aa cap i:Nat)(p)(k)(W)(hp:T[i]?=J p)(ab:p.ok)(hT:Uf W b aa T)
  (ht:W.cell? ⟨tb,0,O⟩=J (Q (J ⟨b,aa,O⟩) T.length cap)) (hx:W.cell? ⟨xb,0,O⟩=J (Y k)):
  aV aA 304 (#[aO aW i]++#[eD (J ⟨tb,0,O⟩),eD (J ⟨xb,0,O⟩)]) W fun e w'=>e=aE (bF (!klt (El p) k))∧∃q os,w'=grow (W.drewN q) os:=by
 obtain⟨kv,vv,c0,c1,hk,hv⟩:=hT i p hp;have ac:=(aF.1 hp).1;have lk:=fun W' h=>Aam p kv vv W' (hk.below h) ab.1 ab.2.1
 obtain⟨va,vc,rfl⟩:=hv.shape;obtain⟨ka,kc,rfl⟩:=hk.shape;unfold klt;generalize El p=lq at lk⊢;generalize T.length=n at*;have i0:(0:Int)≤i:=by omega
 have i1:i<(n:Int):=by omega
 clear hT hk hv hp ab;generalize ad:aB _ _=bl;go_enter Tryz.func304,Tryz.ntmps304;go_wp2
 go_region_held3(fun w'=>w'.cell? ⟨tb,0,O⟩=J (Q (J ⟨b,aa,O⟩) n cap)∧w'.cell? ⟨b,aa+i*2,O⟩=J (Q ka p.K.length kc)∧w'.cell? ⟨b,aa+i*2+1,O⟩=J (Q va p.V.length vc)∧w'.cell? ⟨xb,0,O⟩=J (Y k)) (first|go_keep|skip)
  (first|(refine(lk _ ((aI _ _).drew)).mono ?_;rintro e w3 ⟨rfl,rfl⟩))
 all_goals go_wp2
 all_goals go_ret
 all_goals exact⟨by rfl,1,_,alloc_eq_grow W.drew _⟩
theorem An2 (T:List Pg)(f):(List.range T.length).countP (fun i=>f (T.getD i pg0))=T.countP f:=by
 induction T with
 |nil=>rfl
 |cons x T ih=>
  rw[aZ,List.range_succ_eq_map,fD,List.countP_map,fD]
  congr 1
theorem Auj {T}(h:As T)(k):∀a b,a≤b→b<T.length→(!klt (El (T.getD a pg0)) k)=U→(!klt (El (T.getD b pg0)) k)=U:=by
 obtain⟨A,B,e,hc,ha,hb⟩:=Tr T h k;intro a b ab ac h1;have hA:A.length≤a:=by
  rcases Nat.lt_or_ge a A.length with hlt|hge
  ·exfalso;have hg:T.getD a pg0=A[a]:=by rw[e,cN,cQ hlt,aD hlt];rfl
   rw[hg]at h1;have aa:A[a].ok:=h.1 _ (by grind);have:=ha _ (fC.2 ⟨_,List.getElem_mem hlt,Ky aa⟩);grind
  ·omega
 grind
def pf (T:List Pg)(k:ByteArray):Nat:=T.countP fun p=>klt (El p) k
theorem Ny (T)(tv)(k)(w)(ht:Bj w tv T)(hg:As T)(hn:T.length*48≤140737488355328):
  aV aA 241 #[tv,Y k] w fun e w'=>e=aE (aO aW (pf T k))∧Below w.heap.size w w':=by
 obtain⟨sv,rfl,hs⟩:=ht;obtain⟨so,aa,rfl⟩:∃so aa,sv=Q so T.length aa:=by obtain⟨rows,h1,_⟩:=hs;exact h1.shape
 obtain⟨W0,ab⟩:∃W0,W0=(w.alloc (aG #[Q so T.length aa] 65)).alloc (aG #[Y k] 9):=⟨_,rfl⟩;have aj:W0.heap.size=w.heap.size+1+1:=by rw[ab];simp
 have ad:Below w.heap.size w W0:=by rw[ab];exact((aI _ w).alloc (aC _) _).alloc (by simp) _
 have ca:W0.cell? ⟨w.heap.size,0,O⟩=J (Q so T.length aa):=by
  rw[ab];exact Aa (Ad (Ab w _) _) rfl
 have cx:W0.cell? ⟨w.heap.size+1,0,O⟩=J (Y k):=by
  rw[ab];have:=Ab (w.alloc (aG #[Q so T.length aa] 65)) (aG #[Y k] 9);rw[fB]at this;exact Aa this rfl
 have eg:∀args w,(callFunc 304 args).run _ w=.ok _ w:=enters_of Tryz.func304 (by rfl) rfl;have hS:=Any.sort_Search Tryz.laysSearch 304 _ _ _ W0 eg (by omega)
  (fun m os i hi=>by
   have ac:Below W0.heap.size W0 (grow (W0.drewN m) os):=below_grown_sl W0.heap.size W0 m os (aC _);obtain⟨b,ah,cap,ae,hb,_,_,hT⟩:=hs.at (by omega);have af:T[i]?=J (T.getD i pg0):=by rw[cN,aD hi];rfl
   have ai:b<W0.heap.size:=by omega
   refine Aui T w.heap.size (w.heap.size+1) b ah aa i (T.getD i pg0) k _ af (hg.1 _ (aT af)) ((hT.below ad hb).below ac ai) ?_ ?_
   ·rw[ac.cell (p:=⟨w.heap.size,0,O⟩) (by simp only;omega),ca];simp only[cG]at ae;rw[ae.1]
   ·rw[ac.cell (p:=⟨w.heap.size+1,0,O⟩) (by simp only;omega),cx])
  (Auj hg k)
 have ag:(List.range T.length).countP (fun i=>!(!klt (El (T.getD i pg0)) k))=pf T k:=by
  simp only[Bool.not_not];exact An2 T fun p=>klt (El p) k
 rw[ag]at hS;clear ca cx ag;generalize pf T k=r at hS⊢;generalize T.length=n at*;go_enter Tryz.func241,Tryz.ntmps241;go_wp2_with(go_at_call 303;go_must(rw[←ab];refine hS.mono ?_;rintro e w' ⟨rfl,q,os,rfl⟩));go_ret;refine⟨rfl,?_⟩;rw[←ab];exact ad.trans (below_grown_sl _ W0 q os (by omega))
def Ug (T:List Pg)(k:ByteArray)(pg pl:Nat)(th:Bool):Prop:=
 ∀(tv:Z) (w:aR),Bj w tv T→aV aA 190 #[tv,Y k] w fun e w'=>e=aE (eF #[aO aW pg,aO aW pl,bF th])∧Below w.heap.size w w'
theorem Va (T)(k)(hg:As T)(hn:T.length*48≤140737488355328):∃(pg pl:Nat) (th:Bool),Aru T k pg pl th∧Ug T k pg pl th:=by
 obtain⟨A,B,e,hc,ha,hb⟩:=Tr T hg k
 change pf T k=A.length at hc
 cases B with
 |nil=>
  refine⟨_,0,aL,.inl ⟨rfl,rfl,rfl,by grind⟩,fun tv w ht=>?_⟩;have ab:=fun W h=>Ny T tv k W (ht.below h) hg hn
  obtain⟨sv,rfl,hs⟩:=ht;rw[hc]at ab;obtain⟨so,aa,rfl⟩:∃so aa,sv=Q so T.length aa:=by obtain⟨rows,h1,_⟩:=hs;exact h1.shape
  have ac:Below _ w (w.alloc (aG #[Q so T.length aa] 65)):=(aI _ w).alloc (aC _) _;have ai:(w.alloc (aG #[Q so _ aa] 65)).cell? ⟨_,0,O⟩=J (Q so T.length aa):=Aa (Ab w _) rfl;have ae:=ab _ ac;have aj:w.heap.size<(w.alloc (aG #[Q so T.length aa] 65)).heap.size:=by simp
  have hl:A.length=T.length:=by rw[e,bE]
  clear e ha hb hs hg ab;rw[hl]at ae;generalize T.length=n at*;go_enter Tryz.func190,Tryz.ntmps190;go_wp2_with(refine ae.mono ?_;rintro e w1 ⟨rfl,ad⟩;have ar:w1.cell? ⟨w.heap.size,0,O⟩=J (Q so n aa):=(ad.cell (p:=⟨w.heap.size,0,O⟩) aj).trans ai);refine dP (v:=eF #[aO aW n,aO aW 0,bF aL]) (by simp[fK,Tryz.results190,go_sem]) rfl ?_;exact⟨rfl,ac.trans (ad.mono ac.size)⟩
 |cons p B=>
  have aw:A.length<T.length:=by rw[e];simp
  have ak:T[A.length]?=J p:=by rw[e];simp
  have af:=hg.page ak;obtain⟨K1,K2,hK,ag,al⟩:=U8 p.K af.2 k;cases an:K2 with
  |nil=>
   exfalso;subst an;have:=ag (El p) (by have:=Ky af.1;grind);grind
  |cons y K3=>
   subst an;refine⟨A.length,K1.length,decide (y=k),.inr ⟨A,p,B,K1,y,K3,e,hK,rfl,rfl,ha,ag,al y (by simp),rfl⟩,fun tv w ht=>?_⟩;have ab:=fun W (h:Below w.heap.size w W)=>Ny T tv k W (ht.below h) hg hn
   obtain⟨sv,rfl,hs⟩:=ht;rw[hc]at ab;obtain⟨so,aa,rfl⟩:∃so aa,sv=Q so T.length aa:=by obtain⟨rows,h1,_⟩:=hs;exact h1.shape
   have ac:Below w.heap.size w (w.alloc (aG #[Q so T.length aa] 65)):=(aI _ w).alloc (aC _) _;have ai:(w.alloc (aG #[Q so T.length aa] 65)).cell? ⟨w.heap.size,0,O⟩=J (Q so T.length aa):=Aa (Ab w _) rfl;have ae:=ab _ ac;have aj:w.heap.size<(w.alloc (aG #[Q so T.length aa] 65)).heap.size:=by simp
   obtain⟨b,ax,cap,ap,au,_,_,hT⟩:=hs.at (by omega);simp only[cG]at ap;obtain⟨rfl,_,rfl⟩:=ap;obtain⟨kv,vv,c0,c1,hk,hv⟩:=hT _ p ak;have am:=hk;rw[hK]at am;have sr:=fun W h=>U9 K1 _ k kv W (am.below h) ag al (by rw[←hK];exact af.1.2.1)
   obtain⟨ka,kc,rfl⟩:=hk.shape;have aq:(decide ((y::K3).head? =J k))=decide (y=k):=by simp
   rw[aq]at sr;generalize decide (y=k)=th at sr⊢;clear e ha hb hs hg ab hK am af hT ak hv ag al aq;generalize ay:A.length=a at*;generalize az:K1.length=kl at*;have i0:(0:Int)≤a:=by omega
   have i1:a<(T.length:Int):=by omega
   generalize ba:T.length=n at*;go_enter Tryz.func190,Tryz.ntmps190;go_wp2_with(first
    |(refine ae.mono ?_;rintro e w1 ⟨rfl,ad⟩;have ar:=(ad.cell aj).trans ai;have ah:=ac.trans (ad.mono ac.size);have ck:=(ah.cell au).trans c0)
    |(refine(sr _ ah).mono ?_;rintro e w2 ⟨rfl,av⟩))
   refine dP (v:=eF #[aO aW a,aO aW kl,bF th]) (by simp[fK]) rfl ?_;exact⟨rfl,ah.trans (av.mono ah.size)⟩
end
section
open Go.RowKit
theorem Bj.keysLen {w}{tv}{T}(h:Bj w tv T):∀p∈T,p.K.length≤aP:=by
 intro p hp;obtain⟨sv,_,rows,_,hr⟩:=h;obtain⟨i,hi⟩:=List.getElem?_of_mem hp;obtain⟨r,_,hk,_⟩:=hr.at hi;rcases aQ p.K.length with h0|h0
 ·omega
 ·obtain⟨b,aa,cap,_,_,h1,h2,_⟩:=hk.at h0;omega
theorem Ag1 (T)(tv)(w)(h:Bj w tv T):
  aV aA 189 #[tv] w fun e w'=>Qo e (As T)∧Below w.heap.size w w':=by
 have hl:=h.keysLen;obtain⟨sv,rfl,hs⟩:=h;rcases aQ T.length with h0|h0
 ·obtain⟨ao,cap,rfl,_⟩:=hs.empty h0;obtain rfl:=aK h0;exact Arv ao cap w
 ·obtain⟨b,aa,cap,rfl,hb,hc,hm,hT⟩:=hs.at h0;exact Auh T b aa cap w hb hT hc hm hl
theorem I5 (T)(tv)(w)(h:Bj w tv T)(hg:As T):
  aV aA 189 #[tv] w fun e w'=>e=aE (bF U)∧Below w.heap.size w w':=
 (Ag1 T tv w h).mono fun _ _ h=>⟨h.1.yes hg,h.2⟩
theorem A1k (T)(tv)(w)(h:Bj w tv T)(hg:¬As T):
  aV aA 189 #[tv] w fun e w'=>e=aE (bF aL)∧Below w.heap.size w w':=
 (Ag1 T tv w h).mono fun _ _ h=>⟨h.1.no hg,h.2⟩
def Acx (o:Option ByteArray):Z:=eF #[Y (o.getD ⟨#[]⟩),bF o.isSome]
theorem A3m {K1 K3 V:List ByteArray}{y}(h:V.length=(K1++y::K3).length):∃V1 v V3,V=V1++v::V3∧V1.length=K1.length∧V3.length=K3.length∧(K1++y::K3).zip V=K1.zip V1++(y,v)::K3.zip V3:=by
 have hl:K1.length<V.length:=by rw[h];simp
 refine⟨V.take K1.length,V[K1.length],V.drop (K1.length+1),?_,?_,?_,?_⟩
 ·simp
 ·grind
 ·grind
 ·have e:V=V.take K1.length++V[K1.length]::V.drop (K1.length+1):=by rw[←cR hl,aS]
  conv=>lhs;rw[e]
  rw[fH (by grind)];rfl
theorem Pq {A B}{p}{K1 K3}{k}(hg:As (A++p::B))(hp:p.K=K1++k::K3)(hA:∀x∈Ch A,klt x k=U)(hK:∀x∈K1,klt x k=U):
  ∃V1 v V3,p.V=V1++v::V3∧V1.length=K1.length∧V3.length=K3.length∧Cut (flat (A++p::B)) k (flat A++K1.zip V1) (J v) (K3.zip V3++flat B):=by
 have ab:=(hg.1 p (by simp)).2.2;rw[hp]at ab;obtain⟨V1,v,V3,e,h1,h3,hz⟩:=A3m ab;have ad:∀q∈A,q.ok:=fun q hq=>hg.1 q (by grind)
 have ae:∀q∈B,q.ok:=fun q hq=>hg.1 q (by grind)
 have hr:=hg.2;rw[Dk,Ey,hp]at hr;have ac:=(Gu.1 hr).2.1;rw[bJ]at ac;have aa:=(Gu.1 ac).2.1;rw[Cd,bL,dM]at aa;refine⟨V1,v,V3,e,h1,h3,?_,?_,?_⟩
 ·rw[Bh,Fa,hp,hz];simp
 ·intro x hx;rcases bO.1 hx with hx|hx
  ·exact hA _ (by rw[←Ht ad];grind)
  ·exact hK _ (cW hx).1
 ·intro x hx;rcases bO.1 hx with hx|hx
  ·exact aa.1 _ (eH _ (cW hx).1)
  ·exact aa.1 _ (List.mem_append_right _ (by rw[←Ht ae];grind))
theorem Akj (T:List Pg)(tv:Z)(k:ByteArray)(w:aR)(h:Bj w tv T)(hg:As T)(hn:T.length*48≤140737488355328):
  aV aA 200 #[tv,Y k] w fun e w'=>e=aE (Acx (Hz (flat T) k))∧Below w.heap.size w w':=by
 obtain⟨pg,pl,th,hF,fi⟩:=Va T k hg hn;have gc:=fun W (hW:Below w.heap.size w W)=>I5 T tv W (h.below hW) hg
 have fc:=fun W (hW:Below w.heap.size w W)=>fi tv W (h.below hW)
 obtain⟨sv,rfl,hs⟩:=h;have ah:=hs;obtain⟨so,ab,rfl⟩:∃so ab,sv=Q so T.length ab:=by obtain⟨rows,h1,_⟩:=hs;exact h1.shape
 have ad:Below w.heap.size w (w.alloc (aG #[Q so T.length ab] 65)):=(aI _ w).alloc (aC _) _;have ai:(w.alloc (aG #[Q so T.length ab] 65)).cell? ⟨w.heap.size,0,O⟩=J (Q so T.length ab):=Aa (Ab w _) rfl;have g0:=gc _ ad;have af:w.heap.size<(w.alloc (aG #[Q so T.length ab] 65)).heap.size:=by simp
 cases th with
 |false=>
  obtain⟨F1,o,F2,c,ho⟩:=hF.cut hg;have aj:o=O:=by
   cases o with
   |none=>rfl
   |some v=>grind
  rw[c.get,aj];clear c ho aj hF fi hg hs ah gc;generalize T.length=n at*;go_enter Tryz.func200,Tryz.ntmps200;go_wp2_with(first
   |(refine g0.mono ?_;rintro e w1 ⟨rfl,ac⟩;have ak:=(ac.cell (p:=⟨w.heap.size,0,O⟩) af).trans ai;have aa:=ad.trans (ac.mono ad.size))
   |(refine(fc _ aa).mono ?_;rintro e w2 ⟨rfl,ae⟩))
  go_ret2;exact⟨rfl,aa.trans (ae.mono aa.size)⟩
 |true=>
  rcases hF with⟨_,_,h,_⟩|⟨A,p,B,K1,y,K3,rfl,hp,rfl,rfl,hA,hK,hy,hth⟩
  ·cases h
  have ap:y=k:=of_decide_eq_true hth.symm;subst ap;obtain⟨V1,v,V3,hV,aq,ar,c⟩:=Pq hg hp hA hK;rw[c.get];have al:(A++p::B)[A.length]?=J p:=by simp
  have ax:A.length<(A++p::B).length:=by simp
  obtain⟨b,ay,cap,am,au,_,_,hT⟩:=hs.at (by omega);simp only[cG]at am;obtain⟨rfl,_,rfl⟩:=am;obtain⟨kv,vv,c0,c1,hk,hv⟩:=hT _ p al;have az:K1.length<p.V.length:=by rw[hV,aN,aZ];omega
  obtain⟨vb,vo,vc,rfl,av,ba,_,an⟩:=hv.at (by omega);have cv:=an K1.length v (by grind);clear c hs ah gc fi hg hT an hk hv hp hA hK hy hth hV aq ar al;generalize A.length=a at*;generalize K1.length=kl at*;generalize p.V.length=vl at*;generalize(A++p::B).length=n at*;have i0:(0:Int)≤a:=by omega
  have i1:a<(n:Int):=by omega
  have i2:(0:Int)≤kl:=by omega
  have i3:kl<(vl:Int):=by omega
  go_enter Tryz.func200,Tryz.ntmps200;go_wp2_with(first
   |(refine g0.mono ?_;rintro e w1 ⟨rfl,ac⟩;have ak:=(ac.cell af).trans ai;have aa:=ad.trans (ac.mono ad.size);have aw:=aJ af ac.size)
   |(refine(fc _ aa).mono ?_;rintro e w2 ⟨rfl,ae⟩;have bb:=(ae.cell aw).trans ak;have ag:=aa.trans (ae.mono aa.size);have bc:=(ag.cell au).trans c1;have bd:=(ag.cell av).trans cv))
  go_ret2;exact⟨rfl,ag⟩
abbrev Vb:=List (Z×Nat×List Z)
def Vb.sum (X:Vb):Nat:=(X.map fun x=>x.2.1).sum
def Vb.all (X:Vb):List Z:=X.flatMap fun x=>x.2.2
theorem Vb.sum_take (X:Vb)(i)(x)(h:X[i]?=J x):Vb.sum (X.take (i+1))=Vb.sum (X.take i)+x.2.1:=by
 unfold Vb.sum;rw[bM,h];simp
theorem Vb.all_take (X:Vb)(i)(x)(h:X[i]?=J x):Vb.all (X.take (i+1))=Vb.all (X.take i)++x.2.2:=by
 unfold Vb.all;rw[bM,h];simp
theorem Vb.sum_le (X)(i):Vb.sum (X.take i)≤Vb.sum X:=by
 unfold Vb.sum
 conv=>rhs;rw[←aS i X]
 grind
theorem A1l (X:Vb)(g:Nat)(cap:Nat)(w:aR)(hg:g<w.heap.size)(hc:∀i x,X[i]?=J x→w.cell? ⟨g,i,O⟩=J x.1)(hX:∀x∈X,Ex 2 w x.1 x.2.1 x.2.2∧∀u∈x.2.2,u.oneCell'=U)
  (az:X.length≤3) (hs:Vb.sum X*48≤140737488355328):
  aV aA 249 #[Q (J ⟨g,0,O⟩) X.length cap] w fun e w'=>∃v,e=aE v∧Ex 2 w' v (Vb.sum X) (Vb.all X)∧Below w.heap.size w w':=by
 obtain⟨i0,hi,an,ap,aq⟩:=dF Agz;have HX:=hid hX;have HC:=hid hc;clear hX hc;generalize ar:Vb.sum X=S at hs⊢;have HS:=hid ar;clear ar;go_enter Tryz.func249,Tryz.ntmps249;go_wp2
 go_loopw[3,11] (fun z i wr=>∃k s:Nat,k≤X.length∧s≤S∧i=aO aW k∧z=aO aW s∧w=wr∧Hid (s=Vb.sum (X.take k))) (fun _ i _=>X.length-(cL i).toNat)
 case atStart=>exact⟨0,0,aX _,aX _,rfl,rfl,rfl,hid (by simp[Vb.sum])⟩
 case round=>
  obtain⟨k,s,hk,ba,rfl,rfl,rfl,HT⟩:=hrel
  by_cases ah:k<X.length
  ·obtain⟨x,hx⟩:∃x,X[k]?=J x:=⟨_,aD ah⟩;have c0:=HC.out k x hx;obtain⟨ao,c,au⟩:=(HX.out x (aT hx)).1.shape;have ab:=Vb.sum_take X k x hx;have ag:=Vb.sum_le X (k+1);rw[HS.out,ab,←HT.out]at ag;rw[←HT.out]at ab;have ae:=hid ab;clear hx ab;rw[au]at c0;generalize x.2.1=m at*;clear au;have av:(0:Int)≤(k:Int):=by omega
   have aw:(k:Int)<(X.length:Int):=by omega
   have bb:¬((s:Int)+(m:Int)<0):=by omega
   go_wp2;go_roundw
   case rel=>exact⟨k+1,s+m,by omega,by omega,by go_num,by go_num,by first|trivial|rfl,hid (by rw[ae.out])⟩
   case measure=>simp[cL];omega
  ·have ai:k=X.length:=by omega
   have ax:s=S:=by rw[HT.out,ai,cA,HS.out]
   subst ax;go_wp2_with(refine(A4p s w hs).mono ?_;rintro e w1 ⟨v,rfl,hv,ay⟩)
   go_loopw[6,27] (fun z i wr=>∃k:Nat,k≤X.length∧i=aO aW k∧wr.ownsRow w.heap.size 91 2 z (Vb.sum (X.take k)) (Vb.all (X.take k))∧Below w.heap.size w wr) (fun _ i _=>X.length-(cL i).toNat)
   case atStart=>exact⟨0,aX _,rfl,by simpa[Vb.sum,Vb.all]using hv,ay⟩
   case round=>
    obtain⟨k,hk,rfl,ac,aa⟩:=hrel
    by_cases ah:k<X.length
    ·obtain⟨x,hx⟩:∃x,X[k]?=J x:=⟨_,aD ah⟩;have c0:=HC.out k x hx;rw[←aa.cell hg]at c0;obtain⟨hr,h1⟩:=HX.out x (aT hx);replace hr:=hr.below aa;have ab:=Vb.sum_take X k x hx;have aj:=Vb.all_take X k x hx;have ag:=Vb.sum_le X (k+1);rw[HS.out,ab]at ag;obtain⟨sv,m,cs⟩:=x;simp only at c0 hr h1 ab aj ag;have ae:=hid ab;have ak:=hid aj;clear hx ab aj;generalize Vb.sum (X.take k)=s1 at*;generalize Vb.all (X.take k)=a1 at*;have av:(0:Int)≤k:=by omega
     have aw:k<(X.length:Int):=by omega
     rcases hr.2 with⟨rfl,ao,c,rfl,hnil⟩|⟨hm0,b,off,c,rfl,hb,hmc,hcm,hcell⟩
     ·obtain rfl:=aK (by simpa using hr.1);rcases ao with _|ad
      ·obtain rfl:=hnil rfl;go_wp2_with(at_builtin;go_must(refine gH rfl _ _ 63 rfl _ 91 i0 2 dQ hi _ _ _ rfl ac rfl ?_));go_roundw
       case rel=>exact⟨k+1,by omega,by rfl,by rw[ae.out,ak.out,bY,bE];exact ac,aa⟩
       case measure=>simp[cL];omega
      ·have al:∀j u,([]:List Z)[j]?=J u→wr.cell? (ad.add j)=J u:=fun j u h=>by grind
       go_wp2_with(at_builtin;go_must(refine bP _ rfl _ _ 63 rfl _ 91 i0 _ 2 48 dQ hi an ap aq rfl (by simp) _ _ _ rfl ac ad 0 c [] rfl (by simp) al (by simp) (by simp only[aP];omega) (by omega) aa.size ?_));intro v2 w2 af am _;go_wp2;go_roundw
       case rel=>exact⟨k+1,by omega,by rfl,by rw[ae.out,ak.out];first|exact af|(rw[bY,bE];exact af),aa.grown am aa.size (fun j hj=>(ac.lt j hj).1)⟩
       case measure=>simp[cL];omega
     ·have al:∀j u,cs[j]?=J u→wr.cell? ((⟨b,off,O⟩:Addr).add j)=J u:=fun j u h=>by rw[bX];grind
      go_wp2_with(at_builtin;go_must(refine bP _ rfl _ _ 63 rfl _ 91 i0 _ 2 48 dQ hi an ap aq rfl (by simp) _ _ _ rfl ac _ m c cs rfl hr.1 al h1 (by simp only[aP];omega) (by omega) aa.size ?_));intro v2 w2 af am _;go_wp2;go_roundw
      case rel=>exact⟨k+1,by omega,by rfl,by rw[ae.out,ak.out];first|exact af|(rw[bY,bE];exact af),aa.grown am aa.size (fun j hj=>(ac.lt j hj).1)⟩
      case measure=>simp[cL];omega
    ·have ai:k=X.length:=by omega
     subst ai;rw[cA,HS.out]at ac;go_wp2;go_ret;exact⟨_,rfl,.of_own ac,aa⟩
theorem A1m (X:Vb)(g:Nat)(cap:Nat)(w:aR)(hg:g<w.heap.size)(hc:∀i x,X[i]?=J x→w.cell? ⟨g,i,O⟩=J x.1)(hX:∀x∈X,Ex 1 w x.1 x.2.1 x.2.2∧∀u∈x.2.2,u.oneCell'=U)
  (az:X.length≤3) (hs:Vb.sum X*16≤140737488355328):
  aV aA 313 #[Q (J ⟨g,0,O⟩) X.length cap] w fun e w'=>∃v,e=aE v∧Ex 1 w' v (Vb.sum X) (Vb.all X)∧Below w.heap.size w w':=by
 obtain⟨i0,hi,an,ap,aq⟩:=dF Kg;have HX:=hid hX;have HC:=hid hc;clear hX hc;generalize ar:Vb.sum X=S at hs⊢;have HS:=hid ar;clear ar;go_enter Tryz.func313,Tryz.ntmps313;go_wp2
 go_loopw[3,11] (fun z i wr=>∃k s:Nat,k≤X.length∧s≤S∧i=aO aW k∧z=aO aW s∧w=wr∧Hid (s=Vb.sum (X.take k))) (fun _ i _=>X.length-(cL i).toNat)
 case atStart=>exact⟨0,0,aX _,aX _,rfl,rfl,rfl,hid (by simp[Vb.sum])⟩
 case round=>
  obtain⟨k,s,hk,ba,rfl,rfl,rfl,HT⟩:=hrel
  by_cases ah:k<X.length
  ·obtain⟨x,hx⟩:∃x,X[k]?=J x:=⟨_,aD ah⟩;have c0:=HC.out k x hx;obtain⟨ao,c,au⟩:=(HX.out x (aT hx)).1.shape;have ab:=Vb.sum_take X k x hx;have ag:=Vb.sum_le X (k+1);rw[HS.out,ab,←HT.out]at ag;rw[←HT.out]at ab;have ae:=hid ab;clear hx ab;rw[au]at c0;generalize x.2.1=m at*;clear au;have av:(0:Int)≤(k:Int):=by omega
   have aw:(k:Int)<(X.length:Int):=by omega
   have bb:¬((s:Int)+(m:Int)<0):=by omega
   go_wp2;go_roundw
   case rel=>exact⟨k+1,s+m,by omega,by omega,by go_num,by go_num,by first|trivial|rfl,hid (by rw[ae.out])⟩
   case measure=>simp[cL];omega
  ·have ai:k=X.length:=by omega
   have ax:s=S:=by rw[HT.out,ai,cA,HS.out]
   subst ax;go_wp2_with(refine(A4q s w hs).mono ?_;rintro e w1 ⟨v,rfl,hv,ay⟩)
   go_loopw[6,27] (fun z i wr=>∃k:Nat,k≤X.length∧i=aO aW k∧wr.ownsRow w.heap.size 9 1 z (Vb.sum (X.take k)) (Vb.all (X.take k))∧Below w.heap.size w wr) (fun _ i _=>X.length-(cL i).toNat)
   case atStart=>exact⟨0,aX _,rfl,by simpa[Vb.sum,Vb.all]using hv,ay⟩
   case round=>
    obtain⟨k,hk,rfl,ac,aa⟩:=hrel
    by_cases ah:k<X.length
    ·obtain⟨x,hx⟩:∃x,X[k]?=J x:=⟨_,aD ah⟩;have c0:=HC.out k x hx;rw[←aa.cell hg]at c0;obtain⟨hr,h1⟩:=HX.out x (aT hx);replace hr:=hr.below aa;have ab:=Vb.sum_take X k x hx;have aj:=Vb.all_take X k x hx;have ag:=Vb.sum_le X (k+1);rw[HS.out,ab]at ag;obtain⟨sv,m,cs⟩:=x;simp only at c0 hr h1 ab aj ag;have ae:=hid ab;have ak:=hid aj;clear hx ab aj;generalize Vb.sum (X.take k)=s1 at*;generalize Vb.all (X.take k)=a1 at*;have av:(0:Int)≤k:=by omega
     have aw:k<(X.length:Int):=by omega
     rcases hr.2 with⟨rfl,ao,c,rfl,hnil⟩|⟨hm0,b,off,c,rfl,hb,hmc,hcm,hcell⟩
     ·obtain rfl:=aK (by simpa using hr.1);rcases ao with _|ad
      ·obtain rfl:=hnil rfl;go_wp2_with(at_builtin;go_must(refine gH rfl _ _ 43 rfl _ 9 i0 1 bI hi _ _ _ rfl ac rfl ?_));go_roundw
       case rel=>exact⟨k+1,by omega,by rfl,by rw[ae.out,ak.out,bY,bE];exact ac,aa⟩
       case measure=>simp[cL];omega
      ·have al:∀j u,([]:List Z)[j]?=J u→wr.cell? (ad.add j)=J u:=fun j u h=>by grind
       go_wp2_with(at_builtin;go_must(refine bP _ rfl _ _ 43 rfl _ 9 i0 _ 1 16 bI hi an ap aq rfl (by simp) _ _ _ rfl ac ad 0 c [] rfl (by simp) al (by simp) (by simp only[aP];omega) (by omega) aa.size ?_));intro v2 w2 af am _;go_wp2;go_roundw
       case rel=>exact⟨k+1,by omega,by rfl,by rw[ae.out,ak.out];first|exact af|(rw[bY,bE];exact af),aa.grown am aa.size (fun j hj=>(ac.lt j hj).1)⟩
       case measure=>simp[cL];omega
     ·have al:∀j u,cs[j]?=J u→wr.cell? ((⟨b,off,O⟩:Addr).add j)=J u:=fun j u h=>by rw[bX];grind
      go_wp2_with(at_builtin;go_must(refine bP _ rfl _ _ 43 rfl _ 9 i0 _ 1 16 bI hi an ap aq rfl (by simp) _ _ _ rfl ac _ m c cs rfl hr.1 al h1 (by simp only[aP];omega) (by omega) aa.size ?_));intro v2 w2 af am _;go_wp2;go_roundw
      case rel=>exact⟨k+1,by omega,by rfl,by rw[ae.out,ak.out];first|exact af|(rw[bY,bE];exact af),aa.grown am aa.size (fun j hj=>(ac.lt j hj).1)⟩
      case measure=>simp[cL];omega
    ·have ai:k=X.length:=by omega
     subst ai;rw[cA,HS.out]at ac;go_wp2;go_ret;exact⟨_,rfl,.of_own ac,aa⟩
theorem Gg {w:aR}(g o)(vs):w.grownBy (w.setCells g o vs) (J g):=by
 have h:=cO (g:=g) (aX _) vs o w;exact⟨h.os,h.tape,h.output,h.size,fun k hk aa=>World.heap_setCells_other w g o vs hk (fun e=>aa (by rw[e]))⟩
theorem L6 {a b c:aR}{r}(h:a.grownBy b r)(k:b.grownBy c r):a.grownBy c r:=
 ⟨k.os.trans h.os,k.tape.trans h.tape,k.output.trans h.output,bT h.size k.size,fun i hi aa=>(k.block i (aJ hi h.size) aa).trans (h.block i hi aa)⟩
theorem Acy {w w':aR}{r}(h:w.grownBy w' r):w.grownBy w'.drew r:=⟨h.os,h.tape,h.output,h.size,h.block⟩
theorem Acz (w:aR)(r):w.grownBy w r:=⟨rfl,rfl,rfl,aC _,fun _ _ _=>rfl⟩
theorem Ts {w w'}(r)(h:Below w.heap.size w w'):w.grownBy w' r:=⟨h.os,h.tape,h.output,h.size,fun k hk _=>h.block k hk⟩
theorem An.grown {w w'}{sv}{L}{r}(h:An w sv L)(hg:w.grownBy w' r)(aa:r=O∨sv.ownBlock≠r):An w' sv L:=by
 obtain⟨h1,h2⟩:=h;refine⟨h1,?_⟩;rcases h2 with h2|⟨h0,b,off,cap,rfl,hlt,hc,hm,hcell⟩
 ·grind
 ·exact .inr ⟨h0,b,off,cap,rfl,aJ hlt hg.size,hc,hm,fun j u hj=>hg.cell (hcell j u hj) (by
   rcases aa with rfl|aa
   ·simp
   assumption)⟩
theorem Oy (L:List ByteArray):∀u∈L.map aH,u.oneCell'=U:=by
 intro u hu;obtain⟨x,_,rfl⟩:=eB.1 hu;rfl
theorem Qq (L1 L2)(x)(v)(B vb vc)(w)(ho:w.ownsRow B 9 1 v (L1++L2).length ((L1++L2).map Y))(h0:0<(L1++L2).length)(h4:(L1++L2).length≤4)
  (hv:w.heap[vb]?=J (aG #[Y x] 9)) (aq:v.ownBlock≠J vb):
  aV aA 193 #[v,aO aW L1.length,Q (J ⟨vb,0,O⟩) 1 vc] w fun e w'=>∃v',e=aE v'∧An w' v' (L1++x::L2)∧w.grownBy w' v.ownBlock∧(v'.ownBlock=v.ownBlock∨∃b,v'.ownBlock=J b∧w.heap.size≤b):=by
 have ac:∀(j:Nat) (u:Z),([aH x]:List Z)[j]?=J u→w.cell? ⟨vb,0+j,O⟩=J u:=by
  intro j u hj;rw[cE];exact Aa hv (by simpa using hj)
 have ai:(L1++x::L2).length=(L1++L2).length+1:=by simp;omega
 rcases ho.2 with⟨rfl,hz⟩|⟨g,cap,cur,rfl,hg,hh,hn,hm,hsz,htk⟩
 ·omega
 ·have ab:∀(j:Nat) (u:Z),((L1++L2).map aH)[j]?=J u→w.cell? ⟨g,0+j,O⟩=J u:=by
   intro j u hj;have:=ho.cells (g:=g) rfl j u hj;rwa[bX]at this
  have ad:∀j,j<cap→(w.cell? ⟨g,0+j,O⟩).isSome=U:=by
   intro j hj;rw[cE,Aa hh (dN (by omega))];rfl
  have ar:∀j,w.frozen? ⟨g,0+j,O⟩=aL:=by
   intro j;simp[cS,hh]
  have au:vb≠g:=by rintro rfl;exact aq rfl
  have aj:cap≤9223372036854775807:=by simpa[aP]using hm
  generalize aa:(L1++L2).length=n at*;have hl:L1.length≤n:=by rw[←aa];simp
  by_cases ak:n+1≤cap
  ·by_cases hi:L1.length<n
   ·refine(Any2.slices_Insert_string_shift Tryz.laysInsert g 0 n cap L1.length vb 0 1 vc ((L1++L2).map Y) [Y x] w hi (by decide) ak aj au (by rw[cI,aa]) rfl ab
     (fun j hj=>ad j (by omega)) (fun j _=>ar j) ac (Oy _) (by simp[dL]) 9 9 1 cur.size (by simp[World.shape?,hv]) (by simp[World.shape?,hh]) (by omega) (by simp[cS,hv]) (by simp[cS,hv])).mono ?_
    rintro e w' ⟨rfl,rfl⟩;refine⟨_,rfl,⟨by simp,.inr ⟨by omega,g,0,cap,by rw[ai],?_,by omega,hm,?_⟩⟩,?_,.inl rfl⟩
    ·have:=(L6 (Acy (Acz w (J g))) (L6 (Gg (w:=w.drew) g (0+(L1.length+1)) (((L1++L2).map aH).drop L1.length)) (Gg g (0+L1.length) [aH x]))).size;exact aJ (bA hh) this
    ·intro j u hj;have hd:((L1++L2).map aH).drop L1.length=L2.map aH:=by simp
     rw[hd];have av:L1.length+L2.length=n:=by rw[←aa,aN]
     have al:∀k,k<n+1→((w.drew.setCells g (0+(L1.length+1)) (L2.map aH)).cell? ⟨g,0+k,O⟩).isSome=U:=fun k hk=>gE g _ _ _ _ (ad k (by omega))
     rcases gV j L1.length with hj1|rfl|hj1
     ·rw[bK _ _ _ _ _ (fun _ _=>.inl (by grind)),bK _ _ _ _ _ (fun _ _=>.inl (by grind))];refine ab j u ?_;grind
     ·have:=bV g [aH x] (0+L1.length) (w.drew.setCells g (0+(L1.length+1)) (L2.map aH)) (fun k hk=>by grind) 0 (by simp);grind
     ·rw[bK _ _ _ _ _ (fun _ _=>.inr (by grind))];obtain⟨d,rfl⟩:∃d,j=L1.length+1+d:=⟨j-(L1.length+1),by omega⟩;rw[aU,cB (by grind)]at hj;simp only[cI,dU]at hj;rw[show L1.length+1+d-L1.length=d+1 by omega,cY]at hj;have aw:=(aF.1 hj).1;have:=bV g _ (0+(L1.length+1)) w.drew (fun k hk=>by rw[eQ];exact ad _ (by grind)) d aw;grind
    ·exact L6 (Acy (Acz w _)) (L6 (Gg g _ _) (Gg g _ _))
   ·have ae:L2=[]:=aK (by grind);subst ae;rw[bE]at aa;rw[aa];refine(Any2.slices_Insert_string_end_room Tryz.laysInsert g 0 n cap vb 0 1 vc _ w (by simp) ak aj rfl (fun j hj=>by grind) (fun j _=>by grind) ac (by simp[dL])).mono ?_;rintro e w' ⟨rfl,rfl⟩;refine⟨_,rfl,⟨by simp,.inr ⟨by omega,g,0,cap,by grind,aJ (bA hh) (Gg g _ _).size,by omega,hm,?_⟩⟩,Gg g _ _,.inl rfl⟩;intro j u hj;rcases Nat.lt_or_ge j n with hj1|hj1
    ·rw[bK _ _ _ _ _ (fun _ _=>.inl (by simp;omega))];refine ab j u ?_;rw[bE];rw[aU,cQ (by simp;omega)]at hj;exact hj
    ·have ax:j=n:=by
      have:=(aF.1 hj).1;simp at this;omega
     subst ax;have:=bV g [aH x] (0+j) w (fun k hk=>by simp at hk;subst hk;exact ad _ (by omega)) 0 (by simp);refine this.trans ?_;rw[aU,cB (by simp;omega)]at hj;simpa[aa]using hj
  ·have bc:cap=n:=by omega
   have am:(n+1) *16≤140737488355328:=by omega
   have hG:dX w (n+1) cap 9≤aP:=fE w (n+1) cap _ (by unfold aP;omega);have bd:=gY w (n+1) cap 9
   by_cases hi:L1.length<n
   ·refine(Any2.slices_Insert_string_grow Tryz.laysInsert g 0 n cap L1.length vb 0 1 vc ((L1++L2).map Y) [Y x] w hi (by decide) hn (by omega) am (by rw[cI,aa]) rfl ab ac (Oy _) (by simp[dL])).mono ?_;rintro e w' ⟨rfl,rfl⟩
    change dX w (n+1) cap 9≤aP at hG
    generalize ay:dX w (n+1) cap 9=G at*;have af:dX w (n+1) cap (dV Tryz.laysInsert_ren 9)=G:=ay;rw[af];have hd:((L1++L2).map aH).drop L1.length=L2.map aH:=by simp
    have ht:((L1++L2).map aH).take L1.length=L1.map aH:=by simp
    rw[hd,ht];have av:L1.length+L2.length=n:=by rw[←aa,aN]
    generalize an:(L1.map aH).toArray++cD (aH ⟨#[]⟩).cells (n+1-L1.length)++cD (aH ⟨#[]⟩).cells (G-(n+1))=row;have be:row.size=G:=by
     rw[←an,dO,dO,Lk,Lk];simp[Value.cells];omega
    have az:∀(j:Nat) (u:Z),(L1.map aH)[j]?=J u→row[j]?=J u:=by
     intro j u hj;have:=(aF.1 hj).1;rw[←an,Array.append_assoc,Array.getElem?_append_left (by simpa using this)];simpa using hj
    generalize ap:(w.alloc (aG row (dV Tryz.laysInsert_ren 9))).drew=W1;have ag:W1.heap[w.heap.size]?=J (aG row 9):=by rw[←ap];exact Ab w _
    have ba:Below w.heap.size w W1:=by rw[←ap];exact((aI _ w).alloc (aC _) _).drew
    have bb:∀k,k<G→(W1.cell? ⟨w.heap.size,k,O⟩).isSome=U:=fun k hk=>by
     rw[Aa ag (dN (by omega))];rfl
    have al:∀k,k<G→((W1.setCells w.heap.size L1.length [aH x]).drew.cell? ⟨w.heap.size,k,O⟩).isSome=U:=fun k hk=>gE _ _ _ _ _ (bb k hk)
    have ah:Below w.heap.size w (((W1.setCells w.heap.size L1.length [aH x]).drew).setCells w.heap.size (L1.length+1) (L2.map aH)):=
     ((ba.trans (cO (aC _) _ _ W1)).drew).trans (cO (aC _) _ _ _)
    refine⟨_,rfl,⟨by simp,.inr ⟨by omega,w.heap.size,0,G,by rw[ai],?_,by omega,hG,?_⟩⟩,Ts _ ah,.inr ⟨_,rfl,aC _⟩⟩
    ·have h1:=(cO (B:=0) (g:=w.heap.size) (aX _) (L2.map aH) (L1.length+1) (W1.setCells w.heap.size L1.length [aH x]).drew).size;exact aJ (bA ag) (bT ((cO (g:=w.heap.size) (aX _) [aH x] L1.length W1).size) h1)
    ·intro j u hj;rw[cE];rcases gV j L1.length with hj1|rfl|hj1
     ·rw[bK _ _ _ _ _ (fun _ _=>.inl (by grind))];show(W1.setCells _ _ _).cell? _=_;rw[bK _ _ _ _ _ (fun _ _=>.inl (by omega))];rw[aU,cQ (by grind)]at hj;exact Aa ag (az j u hj)
     ·rw[bK _ _ _ _ _ (fun _ _=>.inl (by simp))];show(W1.setCells _ _ _).cell? _=_;have:=bV w.heap.size [aH x] L1.length W1 (fun k hk=>by grind) 0 (by simp);grind
     ·obtain⟨d,rfl⟩:∃d,j=L1.length+1+d:=⟨j-(L1.length+1),by omega⟩;rw[aU,cB (by grind)]at hj;simp only[cI,dU]at hj;rw[show L1.length+1+d-L1.length=d+1 by omega,cY]at hj;have:=bV _ _ (L1.length+1) _ (fun k hk=>al _ (by grind)) d ((aF.1 hj).1);grind
   ·have ae:L2=[]:=aK (by grind);subst ae;simp only[bE]at aa ab ho;rw[aa];refine(Any2.slices_Insert_string_end_grow Tryz.laysInsert _ n cap vb 0 1 vc (L1.map Y) _ w (by simp) hn (by omega) am (by grind) rfl (fun h=>by grind)
     (fun a ha j u hj=>by cases ha;rw[bX];grind) ac (by simp[dL])).mono ?_
    rintro e w' ⟨rfl,rfl⟩;have af:dX w _ cap (dV Tryz.laysInsert_ren 9)=dX w (n+1) cap 9:=rfl;rw[af];generalize dX w _ cap 9=G at*;have ah:Below w.heap.size w (w.drew.alloc (aG ((L1.map aH++[aH x]).toArray++cD (aH ⟨#[]⟩).cells (G-(n+1))) (dV Tryz.laysInsert_ren 9))):=
     ((aI _ w).drew).alloc (aC _) _
    refine⟨_,rfl,⟨by simp,.inr ⟨by omega,w.heap.size,0,G,by grind,by simp,by omega,hG,?_⟩⟩,Ts _ ah,.inr ⟨_,rfl,aC _⟩⟩;intro j u hj;rw[cE];refine Aa (Ab _ _) ?_;grind
theorem Ac0 (L1 L2)(y)(v)(B)(w)(ho:w.ownsRow B 9 1 v (L1++y::L2).length ((L1++y::L2).map Y)):
  aV aA 253 #[v,aO aW L1.length,aO aW (L1.length+1)] w fun e w'=>∃v',e=aE v'∧An w' v' (L1++L2)∧w.grownBy w' v.ownBlock∧v'.ownBlock=v.ownBlock:=by
 rcases ho.2 with⟨rfl,hz⟩|⟨g,cap,cur,rfl,hg,hh,hn,hm,hsz,htk⟩
 ·simp at hz
 ·have ad:∀(j) (u),((L1++y::L2).map aH)[j]?=J u→w.cell? ⟨g,0+j,O⟩=J u:=by
   intro j u hj;have:=ho.cells (g:=g) rfl j u hj;rwa[bX]at this
  have ae:=by simpa[aP]using hm
  have ah:(L1++y::L2).length=L1.length+L2.length+1:=by simp;omega
  have aa:=Any.slices_Delete_string_cells Tryz.laysDelete g 0 _ cap L1.length (L1.length+1) (fun t=>(L1++y::L2).getD t dW) w hn ae (by omega) (by omega)
   (fun j hj=>ad j _ (by grind)) (fun j _=>by simp[cS,hh])
  have he:gN (fun t=>(L1++y::L2).getD t dW) (L1++y::L2).length=(L1++y::L2).map (fun s=>s.data.toList):=by
   apply List.ext_getElem
   ·simp[gN]
   ·intro i h1 h2;simp only[cI]at h2;simp only[gN,List.getElem_map,List.getElem_range];grind
  rw[he]at aa;refine aa.mono ?_;rintro e w' ⟨rfl,q,rfl⟩;have hl:(L1++L2).length=(L1++y::L2).length-(L1.length+1-L1.length):=by simp<;>omega
  generalize ab:((((L1++y::L2).map (fun s=>s.data.toList)).take _++((L1++y::L2).map (fun s=>s.data.toList)).drop _++List.replicate _ ([]:List UInt8)).map encStr)=vs;have ai:vs.length=(L1++y::L2).length:=by rw[←ab];simp<;>omega
  have af:∀(j:Nat) (u),((L1++L2).map aH)[j]?=J u→vs[j]?=J u:=by
   intro j u hj;have aj:=(aF.1 hj).1;have e1:((L1++y::L2).map (fun s=>s.data.toList)).take L1.length=L1.map (fun s=>s.data.toList):=by simp
   have e2:((L1++y::L2).map (fun s=>s.data.toList)).drop (L1.length+1)=L2.map (fun s=>s.data.toList):=by
    rw[←List.drop_drop];simp
   rw[←ab,e1,e2,←aU,aU (f:=encStr),cQ (by grind),List.map_map];rw[gL]at hj⊢;cases hx:(L1++L2)[j]? with
   |none=>grind
   |some s=>simp_all
  have ag:∀j,j<vs.length→((w.drewN q).cell? ⟨g,0+j,O⟩).isSome=U:=by
   intro j hj;show(w.cell? ⟨g,0+j,O⟩).isSome=U;rw[cE,Aa hh (dN (by omega))];rfl
  have ac:=L6 (Ts _ (eU (aI _ w) q)) (Gg g 0 vs);refine⟨_,rfl,⟨by simp,?_⟩,ac,rfl⟩;rcases aQ (L1++L2).length with h0|h0
  ·exact .inl ⟨h0,_,cap,by rw[←hl,h0],fun h=>by grind⟩
  ·refine .inr ⟨h0,g,0,cap,by simp,aJ (bA hh) ac.size,by omega,hm,?_⟩;intro j u hj;rw[bV g vs 0 _ ag j ((aF.1 (af j u hj)).1)];grind
attribute [local go_sem↓] eW eX
theorem Cs.base {w}{B B' g cap}{L}(h:Cs w B g cap L)(hB:B'≤B):Cs w B' g cap L:=by
 obtain⟨h1,h2,h3⟩:=h;refine⟨by omega,h2,?_⟩;rcases h3 with h3|⟨g',c',cur,e,hg,r⟩
 ·grind
 ·exact .inr ⟨g',c',cur,e,by omega,r⟩
theorem Cs.setCell {w}{B g cap}{L}(h:Cs w B g cap L){a}(ha:a.block<B)(u):Cs (w.setCell a u) B g cap L:=⟨h.1,ownsRow_setCell_below h.2 ha u⟩
theorem Cs.below {w w'}{B g cap}{L}(h:Cs w B g cap L)(hb:Below w.heap.size w w'):Cs w' B g cap L:=⟨h.1,Ak h.2 hb⟩
theorem Cs.strs {w}{B g cap}{L}(h:Cs w B g cap L):An w (Q (J ⟨g,0,O⟩) L.length cap) L:=Ex.of_own h.2
theorem Cs.lt {w}{B g cap}{L}(h:Cs w B g cap L):g<w.heap.size:=(h.2.lt g rfl).2
theorem Ll (p:Pg)(kv vv)(w)(hk:An w kv p.K)(hv:An w vv p.V)(h0:0<p.K.length)(h8:p.K.length≤8)(hl:p.V.length=p.K.length):
  aV aA 191 #[bU #[kv,vv]] w fun e w'=>∃g1 c1 g2 c2,e=aE (bU #[Q (J ⟨g1,0,O⟩) p.K.length c1,Q (J ⟨g2,0,O⟩) p.V.length c2])∧Cs w' w.heap.size g1 c1 p.K∧Cs w' w.heap.size g2 c2 p.V∧g1<g2∧Below w.heap.size w w':=by
 have kc:=fun W h=>Ag0 p.K kv W (hk.below h) h0 h8
 have vc:=fun W h=>Ag0 p.V vv W (hv.below h) (by omega) (by omega)
 obtain⟨ka,ad,rfl⟩:=hk.shape;obtain⟨va,ae,rfl⟩:=hv.shape;have HL:=hid hl;clear hl hk hv;generalize hn:p.K.length=n at*;generalize hm:p.V.length=m at*;generalize ac:(w.alloc (aG #[Q ka n ad,Q va m ae] 91)).alloc (aG #[Q O 0 0,Q O 0 0] 91)=W0;have ai:Below w.heap.size w W0:=by rw[←ac];exact((aI _ w).alloc (aC _) _).alloc (by simp) _
 have az:W0.heap.size=w.heap.size+1+1:=by rw[←ac];simp
 have c0:W0.cell? ⟨w.heap.size,0,O⟩=J (Q ka n ad):=by rw[←ac];exact Aa (Ad (Ab w _) _) rfl
 have c1:W0.cell? ⟨w.heap.size,1,O⟩=J (Q va m ae):=by rw[←ac];exact Aa (Ad (Ab w _) _) rfl
 have r0:W0.heap[w.heap.size+1]?=J (aG #[Q O 0 0,Q O 0 0] 91):=by
  rw[←ac];have:=Ab (w.alloc (aG #[Q ka n ad,Q va m ae] 91)) (aG #[Q O 0 0,Q O 0 0] 91);rwa[fB]at this
 have q0:W0.cell? ⟨_,0,O⟩=J (Q O 0 0):=Aa r0 rfl;have q1:W0.cell? ⟨_,1,O⟩=J (Q O 0 0):=Aa r0 rfl;have f0:W0.frozen? ⟨w.heap.size+1,0,O⟩=aL:=by simp[cS,r0]
 have f1:W0.frozen? ⟨w.heap.size+1,1,O⟩=aL:=by simp[cS,r0]
 have ah:∀i j,(⟨w.heap.size+1,i,O⟩:Addr)≠⟨w.heap.size,j,O⟩:=fun i j h=>by grind
 go_enter Tryz.func191,Tryz.ntmps191;go_wp2;clear ac r0
 go_region_held3(fun w'=>w'.cell? ⟨w.heap.size,0,O⟩=J (Q ka n ad)∧w'.cell? ⟨w.heap.size,1,O⟩=J (Q va m ae))
  (first|exact⟨(bH _ _ _ _ (ah _ _)).trans ((bH _ _ _ _ (ah _ _)).trans an),(bH _ _ _ _ (ah _ _)).trans ((bH _ _ _ _ (ah _ _)).trans ap)⟩|grind|grind|simp_all)
  (first
   |(go_at_call_of 31 (Value.slice ka n ad);refine(kc _ ai.drew).mono ?_;rintro e w1 ⟨g1,k1,rfl,al,af⟩;obtain⟨ab,ag⟩:=E9 af;have hA:w.heap.size<W0.drew.heap.size:=(by show _<W0.heap.size;omega);have aa:w.heap.size+1<W0.drew.heap.size:=(by simp_all);have aj:=ai.drew.trans (af.mono (show w.heap.size≤W0.drew.heap.size from ai.size));have aq:=(ab _ _ aa).trans q0;have ar:=(ab _ _ aa).trans q1;have au:=(ag _ _ aa).trans f0;have av:=(ag _ _ aa).trans f1;have aw:=(ab _ _ hA).trans c0;have ax:=(ab _ _ hA).trans c1)
   |(go_at_call_of 31 (Value.slice va m ae);refine(vc _ aj).mono ?_;rintro e w2 ⟨g2,k2,rfl,am,ak⟩;obtain⟨ab,ag⟩:=E9 ak;replace hA:=aJ hA af.size;replace aa:=aJ aa af.size;have ba:=(ab _ _ aa).trans aq;have bb:=(ab _ _ aa).trans ar;have bc:=(ag _ _ aa).trans au;have bd:=(ag _ _ aa).trans av;have an:=(ab _ _ hA).trans aw;have ap:=(ab _ _ hA).trans ax))
 go_wp2;have ay:=aj.trans (ak.mono aj.size);have be:w.heap.size+2≤W0.drew.heap.size:=(by simp_all);refine dP (v:=bU #[Q (J ⟨g1,0,O⟩) n k1,Q (J ⟨g2,0,O⟩) m k2]) (by simp[fK,go_sem, *]) rfl ?_;refine⟨g1,k1,g2,k2,rfl,?_,?_,aJ al.lt am.1,?_⟩
 ·exact(((al.below ak).setCell (by grind) _).setCell (by grind) _).base (by omega)
 ·have:=af.size;exact((am.setCell (by omega) _).setCell (by omega) _).base (by omega)
 ·exact(ay.setCell (by simp) _).setCell (by simp) _
attribute [local go_sem↓] eW eX
theorem Pgs.one {w}:∀{rs:List (Z×Z)}{T:List Pg},Pgs w rs T→∀u∈A4 rs,u.oneCell'=U
 |[],[],_,u,hu=>by simp[A4]at hu
 |r::rs,p::T,h,u,hu=>by
  have e:A4 (r::rs)=r.1::r.2::A4 rs:=by simp[A4]
  rw[e]at hu;rcases bZ.1 hu with rfl|hu
  ·obtain⟨a,c,e⟩:=h.1.shape;rw[e];rfl
  ·rcases bZ.1 hu with rfl|hu
   ·obtain⟨a,c,e⟩:=h.2.1.shape;rw[e];rfl
   ·exact Pgs.one h.2.2 u hu
theorem Ex.head {size}{w}{b off n cap}{cs ds}{m}(h:Ex size w (Q (J ⟨b,off,O⟩) n cap) n (cs++ds))(h0:0<n)(hc:cs.length=m*size)(hm:m≤n):Ex size w (Q (J ⟨b,off,O⟩) m cap) m cs:=by
 refine⟨hc,?_⟩;rcases h.2 with⟨rfl,_⟩|⟨_,b',off',cap',e,hb,hn,hx,hcell⟩
 ·omega
 ·simp only[cG,eE,eJ]at e;obtain⟨⟨rfl,rfl,_⟩,_,rfl⟩:=e;rcases aQ m with rfl|hm0
  ·grind
  grind
theorem Ex.rest {size}{w}{b off n cap}{cs ds}{m}(h:Ex size w (Q (J ⟨b,off,O⟩) n cap) n (cs++ds))(h0:0<n)(hc:cs.length=m*size)(hm:m<n):Ex size w (Q (J ⟨b,off+m*size,O⟩) (n-m) (cap-m)) (n-m) ds:=by
 have hl:=h.1;rw[aN,hc]at hl;refine⟨by rw[Nat.sub_mul];omega,?_⟩;rcases h.2 with⟨rfl,_⟩|⟨_,b',off',cap',e,hb,hn,hx,hcell⟩
 ·omega
 ·simp only[cG,eE,eJ]at e;obtain⟨⟨rfl,rfl,_⟩,_,rfl⟩:=e;refine .inr ⟨by omega,b,_,_,rfl,hb,by omega,by omega,fun j u hj=>?_⟩;rw[eQ,←hc];exact hcell _ u (by grind)
theorem Ex.none {size}{w}{ad}{cap}:Ex size w (Q (J ad) 0 cap) 0 []:=⟨by simp,.inl ⟨rfl,_,cap,rfl,fun h=>by grind⟩⟩
theorem Ag2 {w}{b off cap}{L M}(h:An w (Q (J ⟨b,off,O⟩) (L++M).length cap) (L++M))(h0:0<(L++M).length):An w (Q (J ⟨b,off,O⟩) L.length cap) L:=by
 unfold An at h;rw[aU]at h;exact Ex.head h h0 (by simp) (by simp)
theorem Ag3 {w}{b off cap}{L M}(h:An w (Q (J ⟨b,off,O⟩) (L++M).length cap) (L++M))(h0:0<M.length):An w (Q (J ⟨b,off+L.length,O⟩) M.length (cap-L.length)) M:=by
 unfold An at h;rw[aU]at h;have:=Ex.rest h (by grind) (m:=L.length) (by simp) (by grind);rw[Nat.mul_one,aN,Nat.add_sub_cancel_left]at this;exact this
def Fb (p:Pg):List Pg:=if p.K.length≤4 then[p]else[⟨p.K.take 2,p.V.take 2⟩,⟨p.K.drop 2,p.V.drop 2⟩]
theorem Pz {w}{g cap}{kv vv}{p}(hb:w.heap[g]?=J (aG #[kv,vv] 91))(hk:An w kv p.K)(hv:An w vv p.V)(hc:1≤cap)(hm:cap≤aP):Ba w (Q (J ⟨g,0,O⟩) 1 cap) [p]:=by
 refine⟨[(kv,vv)],⟨by rfl,.inr ⟨by simp,g,0,cap,rfl,bA hb,by omega,hm,fun j u hj=>?_⟩⟩,hk,hv,trivial⟩;rw[cE];exact Aa hb (by simpa[A4]using hj)
theorem Auk {w}{g cap}{kv vv kv' vv'}{p q}(hb:w.heap[g]?=J (aG #[kv,vv,kv',vv'] 91))(hk:An w kv p.K)(hv:An w vv p.V)(aa:An w kv' q.K)(ab:An w vv' q.V)(hc:2≤cap)(hm:cap≤aP):Ba w (Q (J ⟨g,0,O⟩) 2 cap) [p,q]:=by
 refine⟨[(kv,vv),(kv',vv')],⟨by rfl,.inr ⟨by simp,g,0,cap,rfl,bA hb,by omega,hm,fun j u hj=>?_⟩⟩,hk,hv,aa,ab,trivial⟩;rw[cE];exact Aa hb (by simpa[A4]using hj)
theorem Akk (p)(kv vv)(w)(hk:An w kv p.K)(hv:An w vv p.V)(h4:p.K.length≤4):
  aV aA 194 #[bU #[kv,vv]] w fun e w'=>∃sv,e=aE sv∧Ba w' sv (Fb p)∧Below w.heap.size w w':=by
 rw[Fb,if_pos h4];have ab:=hid hk;have ac:=hid hv;obtain⟨ka,kc,rfl⟩:=hk.shape;obtain⟨va,vc,rfl⟩:=hv.shape;clear hk hv;generalize p.K.length=n at*;generalize p.V.length=m at*;have i0:(n:Int)≤4:=by omega
 go_enter Tryz.func194,Tryz.ntmps194;go_wp2;go_ret;have aa:Below _ w ((w.alloc (aG #[Q ka n kc,Q va m vc] 91)).alloc (aG #[Q ka n kc,Q va m vc] 91)):=((aI _ w).alloc (aC _) _).alloc (by simp) _;refine⟨_,rfl,Pz (by have:=Ab (w.alloc (aG #[Q ka n kc,Q va m vc] 91)) (aG #[Q ka n kc,Q va m vc] 91);simp_all) (ab.out.below aa) (ac.out.below aa) (by simp) (by decide),aa⟩
theorem Arw (K1 K2 V1 V2)(kb ko kc vb vo vc)(w)(hk:An w (Q (J ⟨kb,ko,O⟩) (K1++K2).length kc) (K1++K2))(hv:An w (Q (J ⟨vb,vo,O⟩) (V1++V2).length vc) (V1++V2))(ay:5≤kc)(ak:kc≤aP)(az:5≤vc)(al:vc≤aP)
  (h1:K1.length=2) (h2:K2.length=3) (h3:V1.length=2) (h4:V2.length=3):
  aV aA 194 #[bU #[Q (J ⟨kb,ko,O⟩) 5 kc,Q (J ⟨vb,vo,O⟩) 5 vc]] w fun e w'=>∃sv,e=aE sv∧Ba w' sv [⟨K1,V1⟩,⟨K2,V2⟩]∧Below w.heap.size w w':=by
 have a1:=Ag2 hk (by grind);have a2:=Ag3 hk (by omega);have b1:=Ag2 hv (by grind);have b2:=Ag3 hv (by omega);rw[h1]at a1 a2;rw[h2]at a2;rw[h3]at b1 b2;rw[h4]at b2;have ah:=fun W h=>Ll ⟨K1,V1⟩ _ _ W (a1.below h) (b1.below h) (by grind) (by grind) (by grind)
 have ai:=fun W h=>Ll ⟨K2,V2⟩ _ _ W (a2.below h) (b2.below h) (by grind) (by grind) (by grind)
 simp only[h1,h2,h3,h4]at ah ai;have H:=hid (fG h1 (fG h2 (fG h3 h4)));clear a1 a2 b1 b2 hk hv h1 h2 h3 h4;unfold aP at ak al;have i1:(2:Int)≤kc:=by omega
 have i2:(2:Int)≤vc:=by omega
 have i3:¬(kc=2):=by omega
 have i4:¬(vc=2):=by omega
 have i5:(5:Int)≤kc:=by omega
 have i6:(5:Int)≤vc:=by omega
 generalize aa:w.alloc (aG #[Q (J ⟨kb,ko,O⟩) 5 kc,Q (J ⟨vb,vo,O⟩) 5 vc] 91)=W0;have ae:Below w.heap.size w W0:=by rw[←aa];exact(aI _ w).alloc (aC _) _
 have ba:W0.heap.size=w.heap.size+1:=by rw[←aa];simp
 have c0:W0.cell? ⟨w.heap.size,0,O⟩=J (Q (J ⟨kb,ko,O⟩) 5 kc):=by rw[←aa];exact Aa (Ab w _) rfl
 have c1:W0.cell? ⟨w.heap.size,1,O⟩=J (Q (J ⟨vb,vo,O⟩) 5 vc):=by rw[←aa];exact Aa (Ab w _) rfl
 go_enter Tryz.func194,Tryz.ntmps194;go_wp2;clear aa
 go_region_held3(fun w'=>w'.cell? ⟨w.heap.size,0,O⟩=J (Q (J ⟨kb,ko,O⟩) 5 kc)∧w'.cell? ⟨w.heap.size,1,O⟩=J (Q (J ⟨vb,vo,O⟩) 5 vc))
  (first|exact⟨(bW _ _ _ hZ).trans am,(bW _ _ _ hZ).trans an⟩|grind|grind|simp_all)
  (first
   |(go_at_call_of 191 (Value.agg #[Q (J ⟨kb,ko,O⟩) 2 kc,Q (J ⟨vb,vo,O⟩) 2 vc]);refine(ah _ ae.drew).mono ?_;rintro e w1 ⟨g1,k1,g2,k2,rfl,ap,aq,bb,af⟩;obtain⟨ab,ar⟩:=E9 af;have hA:w.heap.size<W0.drew.heap.size:=(by simp_all);have ag:=ae.drew.trans (af.mono (show w.heap.size≤W0.drew.heap.size from ae.size));have au:=(ab _ _ hA).trans c0;have av:=(ab _ _ hA).trans c1)
   |(go_at_call 191;refine(ai _ ag).mono ?_;rintro e w2 ⟨g3,k3,g4,k4,rfl,aw,ax,bc,ac⟩;obtain⟨ab,ar⟩:=E9 ac;replace hA:=aJ hA af.size;have hZ:=aJ hA ac.size;have am:=(ab _ _ hA).trans au;have an:=(ab _ _ hA).trans av))
 go_wp2;go_ret;have aj:=ag.trans (ac.mono ag.size);obtain⟨h1,h2,h3,h4⟩:=H.out;have ad:Below _ w2 (w2.alloc (aG #[Q (J ⟨g1,0,O⟩) 2 k1,Q (J ⟨g2,0,O⟩) 2 k2,Q (J ⟨g3,0,O⟩) 3 k3,Q (J ⟨g4,0,O⟩) 3 k4] 91)):=(aI _ _).alloc (aC _) _;have q1:=((ap.strs).below ac).below ad;have q2:=((aq.strs).below ac).below ad;have q3:=(aw.strs).below ad;have q4:=(ax.strs).below ad;simp only[h1,h2,h3,h4]at q1 q2 q3 q4;exact⟨_,rfl,Auk (Ab w2 _) q1 q2 q3 q4 (by simp) (by decide),aj.trans (ad.mono aj.size)⟩
theorem Ac1 (p:Pg)(kv vv:Z)(w:aR)(hk:An w kv p.K)(hv:An w vv p.V)(h5:p.K.length≤5)(hl:p.V.length=p.K.length):
  aV aA 194 #[bU #[kv,vv]] w fun e w'=>∃sv,e=aE sv∧Ba w' sv (Fb p)∧Below w.heap.size w w':=by
 by_cases h4:p.K.length≤4
 ·exact Akk p kv vv w hk hv h4
 ·rw[Fb,if_neg h4];have hn:p.K.length=5:=by omega
  have hm:p.V.length=5:=by omega
  obtain⟨kb,ko,kc,rfl,_,aa,ac,_⟩:=hk.at (by omega);obtain⟨vb,vo,vc,rfl,_,ab,ad,_⟩:=hv.at (by omega);rw[hn]at aa;rw[hm]at ab;have:=Arw (p.K.take 2) (p.K.drop 2) (p.V.take 2) (p.V.drop 2) kb ko kc vb vo vc w (by simp_all) (by simp_all) aa ac ab ad (by grind) (by grind) (by grind) (by grind);rw[hn,hm];exact this
theorem Arx {w}{b off n cap}{A M}(h:Ba w (Q (J ⟨b,off,O⟩) n cap) (A++M))(hn:n=(A++M).length)(h0:0<n):Ba w (Q (J ⟨b,off,O⟩) A.length cap) A:=by
 obtain⟨rows,h1,h2⟩:=h;have hp:=h2.part;refine⟨_,?_,hp.1⟩;subst hn;rw[←aS A.length rows,Xc]at h1;refine Ex.head h1 h0 ?_ (by simp);rw[Me,hp.1.length]
theorem Ary {w}{b off n cap}{A M}(h:Ba w (Q (J ⟨b,off,O⟩) n cap) (A++M))(hn:n=(A++M).length)(h0:0<M.length):Ba w (Q (J ⟨b,off+A.length*2,O⟩) M.length (cap-A.length)) M:=by
 obtain⟨rows,h1,h2⟩:=h;have hp:=h2.part;refine⟨_,?_,hp.2⟩;subst hn;rw[←aS A.length rows,Xc]at h1;have:=Ex.rest h1 (by grind) (by rw[Me,hp.1.length]) (by grind);grind
theorem A1n (A P B)(s1 s2 s3)(g cap)(w)(hb:w.heap[g]?=J (aG #[s1,s2,s3] 63))(h1:Ba w s1 A)(h2:Ba w s2 P)(h3:Ba w s3 B)(hs:(A.length+P.length+B.length) *48≤140737488355328):
  aV aA 249 #[Q (J ⟨g,0,O⟩) 3 cap] w fun e w'=>∃ao c,e=aE (Q ao (A++P++B).length c)∧Ba w' (Q ao (A++P++B).length c) (A++P++B)∧Below w.heap.size w w':=by
 obtain⟨r1,a1,p1⟩:=h1;obtain⟨r2,a2,p2⟩:=h2;obtain⟨r3,a3,p3⟩:=h3;have ab:=A1l [(s1,A.length,A4 r1),(s2,P.length,A4 r2),(s3,B.length,A4 r3)] g cap w (bA hb) (by
   intro i x hx
   match i,hx with
   |0,hx=>simp at hx;subst hx;exact Aa hb rfl
   |1,hx=>simp at hx;subst hx;exact Aa hb rfl
   |2,hx=>simp at hx;subst hx;exact Aa hb rfl
   |n+3,hx=>grind) (by
   intro x hx;simp only[bZ,List.not_mem_nil,or_false]at hx;rcases hx with rfl|rfl|rfl
   ·exact⟨a1,p1.one⟩
   ·exact⟨a2,p2.one⟩
   ·exact⟨a3,p3.one⟩) (by simp) (by simp[Vb.sum];omega)
 refine ab.mono ?_;rintro e w' ⟨v,rfl,hr,aa⟩;have ac:Vb.sum [(s1,A.length,A4 r1),(s2,P.length,A4 r2),(s3,B.length,A4 r3)]=(A++P++B).length:=by simp[Vb.sum]<;>omega
 have ad:Vb.all [(s1,A.length,A4 r1),(s2,P.length,A4 r2),(s3,B.length,A4 r3)]=A4 (r1++r2++r3):=by simp[Vb.all,A4]
 rw[ac,ad]at hr;obtain⟨ao,c,rfl⟩:=hr.shape;exact⟨ao,c,rfl,⟨_,hr,((p1.keep aa (aC _)).append (p2.keep aa (aC _))).append (p3.keep aa (aC _))⟩,aa⟩
theorem Uh {size}{w}{sv}{n}{cs}(h:Ex size w sv n cs){g}{i}(v)(hn:sv.ownBlock≠J g):Ex size (w.setCell ⟨g,i,O⟩ v) sv n cs:=by
 refine⟨h.1,?_⟩;rcases h.2 with h2|⟨h0,b,off,cap,rfl,hlt,hc,hm,hcell⟩
 ·grind
 ·refine .inr ⟨h0,b,off,cap,rfl,?_,hc,hm,fun j u hj=>?_⟩
  ·simp_all
  ·rw[bH]
   ·grind
   ·intro e;simp only[eJ]at e;exact hn (by simp[dK,e.1])
theorem Akl {w:aR}{sv:Z}{L:List ByteArray}(h:An w sv L){g:Nat}{t:TypeId}(hb:w.heap[g]?=J (aG #[Q O 0 0] t))(v:Z):An (w.setCell ⟨g,0,O⟩ v) sv L:=by
 rcases aQ L.length with h0|h0
 ·refine⟨h.1,?_⟩;rcases h.2 with h2|⟨h1,_⟩
  ·exact .inl h2
  ·omega
 ·obtain⟨b,aa,cap,rfl,_,_,_,hc⟩:=h.at h0;refine Uh h v fun e=>?_
  obtain rfl:=by simpa[dK]using e
  obtain⟨x,hx⟩:∃x,L[0]?=J x:=⟨_,aD h0⟩;have:=hc 0 x hx;simp only[fU,hb,bY]at this;grind
theorem Pgs.set {w}{g}{t}(hb:w.heap[g]?=J (aG #[Q O 0 0] t))(v):∀{rs:List (Z×Z)}{T:List Pg},Pgs w rs T→Pgs (w.setCell ⟨g,0,O⟩ v) rs T
 |[],[],_=>trivial
 |_::_,_::_,h=>⟨Akl h.1 hb v,Akl h.2.1 hb v,Pgs.set hb v h.2.2⟩
theorem Gz {w:aR}{sv:Z}{T:List Pg}(h:Ba w sv T){g:Nat}{t:TypeId}(hb:w.heap[g]?=J (aG #[Q O 0 0] t))(v:Z):Ba (w.setCell ⟨g,0,O⟩ v) sv T:=by
 obtain⟨rows,h1,h2⟩:=h;refine⟨rows,?_,Pgs.set hb v h2⟩;rcases aQ T.length with h0|h0
 ·refine⟨h1.1,?_⟩;rcases h1.2 with h3|⟨h3,_⟩
  ·exact .inl h3
  ·omega
 ·have aa:=h1;rcases h1.2 with⟨h3,_⟩|⟨_,b,off,cap,rfl,_,_,_,hc⟩
  ·omega
  ·refine Uh aa v fun e=>?_
   obtain rfl:b=g:=by simpa[dK]using e
   have hl:=aa.1;obtain⟨x,hx⟩:∃x,(A4 rows)[1]?=J x:=⟨_,aD (by omega)⟩;have:=hc 1 x hx;simp only[fU,hb]at this;grind
theorem Kz (A M B P:List Pg)(tv pv:Z)(t:Nat)(w:aR)(ht:Bj w tv (A++(M++B)))(hp:Ba w pv P)(hM:0<M.length)(aw:t=A.length+M.length)(hs:(A.length+P.length+B.length) *48≤140737488355328):
  aV aA 192 #[tv,aO aW A.length,aO aW t,pv] w fun e w'=>∃ar,e=aE ar∧Bj w' ar (A++P++B)∧Below w.heap.size w w':=by
 obtain⟨sv,rfl,hT⟩:=ht;have ax:(A++(M++B)).length=A.length+M.length+B.length:=by simp;omega
 obtain⟨b,aa,cap,rfl,hb,bd,ay,az⟩:=hT.at (by omega);have e1:=Arx hT rfl (by omega);have ah:=hT;rw[←bJ]at ah;have e3:∃s3,s3=(if cap=t then(⟨b,aa,O⟩:Addr)else⟨b,aa+t*2,O⟩)∧Ba w (Q (J s3) ((A++(M++B)).length-t) (cap-t)) B:=by
  refine⟨_,rfl,?_⟩;rcases aQ B.length with h0|h0
  ·have hl:(A++(M++B)).length-t=0:=by omega
   rw[hl];obtain rfl:=aK h0;exact⟨[],Ex.none,trivial⟩
  ·rw[if_neg (by omega)];have:=Ary ah (by rfl) h0;grind
 obtain⟨s3,af,e3⟩:=e3;have cc:=fun W g hW hb=>A1n A P B _ pv _ g 3 W hb (e1.below hW) (hp.below hW) (e3.below hW) hs
 have be:t≤(A++(M++B)).length:=by omega
 have bf:A.length≤(A++(M++B)).length:=by omega
 obtain⟨po,pc,rfl⟩:∃po pc,pv=Q po P.length pc:=by obtain⟨rows,h1,_⟩:=hp;exact h1.shape
 clear hT ah e1 e3 hp az ax hs aw;generalize bg:A++P++B=R at*;generalize A.length=a at*;generalize(A++(M++B)).length=n at*;generalize P.length=pl at*;clear hM;unfold aP at ay;have i1:(0:Int)≤a:=by omega
 have i2:a≤(cap:Int):=by omega
 have i3:(0:Int)≤t:=by omega
 have i4:t≤(n:Int):=by omega
 have i5:n≤(cap:Int):=by omega
 have i6:a≤(n:Int):=by omega
 generalize ad:(w.alloc (aG #[Q (J ⟨b,aa,O⟩) n cap] 65)).alloc (aG #[Q O 0 0] 65)=W0;have ag:Below w.heap.size w W0:=by rw[←ad];exact((aI _ w).alloc (aC _) _).alloc (by simp) _
 have au:W0.heap.size=w.heap.size+1+1:=by rw[←ad];simp
 have c0:W0.cell? ⟨w.heap.size,0,O⟩=J (Q (J ⟨b,aa,O⟩) n cap):=by rw[←ad];exact Aa (Ad (Ab w _) _) rfl
 have r0:W0.heap[w.heap.size+1]?=J (aG #[Q O 0 0] 65):=by
  rw[←ad];have:=Ab (w.alloc (aG #[Q (J ⟨b,aa,O⟩) n cap] 65)) (aG #[Q O 0 0] 65);rwa[fB]at this
 have q0:W0.cell? ⟨_,0,O⟩=J (Q O 0 0):=Aa r0 rfl;have f0:W0.frozen? ⟨w.heap.size+1,0,O⟩=aL:=by simp[cS,r0]
 have av:∀i j,(⟨w.heap.size+1,i,O⟩:Addr)≠⟨w.heap.size,j,O⟩:=fun i j h=>by grind
 have hA:w.heap.size<W0.heap.size:=by omega
 have ae:w.heap.size+1<W0.heap.size:=by omega
 by_cases ai:cap=t
 ·rw[if_pos ai]at af;subst af;subst ai;obtain rfl:n=cap:=by omega
  simp only[Nat.sub_self]at cc;have ab:Below _ w (W0.alloc (aG #[Q (J ⟨b,aa,O⟩) a n,Q po pl pc,Q (J ⟨b,aa,O⟩) 0 0] 63)).drew:=(ag.alloc ag.size _).drew;have cw:=cc _ (w.heap.size+1+1) ab (by rw[←au];exact Ab W0 _);have aj:w.heap.size<(W0.alloc (aG #[Q (J ⟨b,aa,O⟩) a n,Q po pl pc,Q (J ⟨b,aa,O⟩) 0 0] 63)).drew.heap.size:=by
   show _<(W0.alloc _).heap.size;simp;omega
  have ak:w.heap.size+1<(W0.alloc (aG #[Q (J ⟨b,aa,O⟩) a n,Q po pl pc,Q (J ⟨b,aa,O⟩) 0 0] 63)).drew.heap.size:=by
   show _<(W0.alloc _).heap.size;simp;omega
  have al:(W0.alloc (aG #[Q (J ⟨b,aa,O⟩) a n,Q po pl pc,Q (J ⟨b,aa,O⟩) 0 0] 63)).drew.cell? _=J _:=(bW _ _ _ hA).trans c0;have ba:(W0.alloc (aG #[Q (J ⟨b,aa,O⟩) a n,Q po pl pc,Q (J ⟨b,aa,O⟩) 0 0] 63)).drew.cell? _=J _:=(bW _ _ _ ae).trans q0;have bb:(W0.alloc (aG #[Q (J ⟨b,aa,O⟩) a n,Q po pl pc,Q (J ⟨b,aa,O⟩) 0 0] 63)).drew.frozen? _=aL:=((aI _ W0).alloc (aC _) _).frozen ae |>.trans f0;have am:=((aI _ W0).alloc (aC _) (aG #[Q (J ⟨b,aa,O⟩) a n,Q po pl pc,Q (J ⟨b,aa,O⟩) 0 0] 63)).block _ ae |>.trans r0;clear cc;go_enter Tryz.func192,Tryz.ntmps192;go_wp2;clear ad r0
  go_region_held3(fun w'=>w'.cell? ⟨w.heap.size,0,O⟩=J (Q (J ⟨b,aa,O⟩) n n))
   (first|exact(bH _ _ _ _ (av _ _)).trans an|omega|omega|exact c0)
   (first
    |(go_at_call 249;refine cw.mono ?_;rintro e w1 ⟨ao,c,rfl,ho,ac⟩;obtain⟨ap,bc⟩:=E9 ac;have an:=(ap _ _ aj).trans al;have aq:=(ac.block _ ak).trans am))
  go_wp2;refine dP (v:=bU #[Q ao R.length c]) (by simp[fK,go_sem, *]) rfl ?_;have hz:=ab.trans (ac.mono ab.size);refine⟨_,rfl,⟨_,rfl,?_⟩,hz.setCell (by simp) _⟩;exact Gz ho aq _
 ·rw[if_neg ai]at af;subst af;have ab:Below _ w (W0.alloc (aG #[Q (J ⟨b,aa,O⟩) a cap,Q po pl pc,Q (J ⟨b,aa+t*2,O⟩) (n-t) (cap-t)] 63)).drew:=(ag.alloc ag.size _).drew;have cw:=cc _ (w.heap.size+1+1) ab (by rw[←au];exact Ab W0 _);have aj:w.heap.size<(W0.alloc (aG #[Q (J ⟨b,aa,O⟩) a cap,Q po pl pc,Q (J ⟨b,aa+t*2,O⟩) (n-t) (cap-t)] 63)).drew.heap.size:=by
   show _<(W0.alloc _).heap.size;simp;omega
  have ak:w.heap.size+1<(W0.alloc (aG #[Q (J ⟨b,aa,O⟩) a cap,Q po pl pc,Q (J ⟨b,aa+t*2,O⟩) (n-t) (cap-t)] 63)).drew.heap.size:=by
   show _<(W0.alloc _).heap.size;simp;omega
  have al:(W0.alloc (aG #[Q (J ⟨b,aa,O⟩) a cap,Q po pl pc,Q (J ⟨b,aa+t*2,O⟩) (n-t) (cap-t)] 63)).drew.cell? _=J _:=(bW _ _ _ hA).trans c0;have ba:(W0.alloc (aG #[Q (J ⟨b,aa,O⟩) a cap,Q po pl pc,Q (J ⟨b,aa+t*2,O⟩) (n-t) (cap-t)] 63)).drew.cell? _=J _:=(bW _ _ _ ae).trans q0;have bb:(W0.alloc (aG #[Q (J ⟨b,aa,O⟩) a cap,Q po pl pc,Q (J ⟨b,aa+t*2,O⟩) (n-t) (cap-t)] 63)).drew.frozen? _=aL:=((aI _ W0).alloc (aC _) _).frozen ae |>.trans f0;have am:=((aI _ W0).alloc (aC _) (aG #[Q (J ⟨b,aa,O⟩) a cap,Q po pl pc,Q (J ⟨b,aa+t*2,O⟩) (n-t) (cap-t)] 63)).block _ ae |>.trans r0;clear cc;go_enter Tryz.func192,Tryz.ntmps192;go_wp2;clear ad r0
  go_region_held3(fun w'=>w'.cell? ⟨w.heap.size,0,O⟩=J (Q (J ⟨b,aa,O⟩) n cap))
   (first|exact(bH _ _ _ _ (av _ _)).trans an|omega|omega|exact c0)
   (first
    |(go_at_call 249;refine cw.mono ?_;rintro e w1 ⟨ao,c,rfl,ho,ac⟩;obtain⟨ap,bc⟩:=E9 ac;have an:=(ap _ _ aj).trans al;have aq:=(ac.block _ ak).trans am))
  go_wp2;refine dP (v:=bU #[Q ao R.length c]) (by simp[fK,go_sem, *]) rfl ?_;refine⟨_,rfl,⟨_,rfl,?_⟩,(ab.trans (ac.mono ab.size)).setCell (by simp) _⟩;exact Gz ho aq _
def rq (lo hi:ByteArray)(x:ByteArray×ByteArray):Bool:=!klt x.1 lo&&klt x.1 hi
def rng (T:List Pg)(lo hi:ByteArray):List (ByteArray×ByteArray):=(flat T).filter (rq lo hi)
theorem Aul {T:List Pg}{k}{p}(h:T[k]?=J p):flat (T.take (k+1))=flat (T.take k)++p.K.zip p.V:=by
 rw[bM,h,Bh];simp[flat]
theorem Akm {T}{lo hi}(h:∀p∈T,p.ok)(hk:∀x∈Ch T,klt x lo=U∨klt x hi=aL):rng T lo hi=[]:=by
 refine I4 fun x hx=>?_
 have:x.1∈Ch T:=by rw[←Ht h];exact eB.2 ⟨x,hx,rfl⟩
 unfold rq;grind
theorem Arz {p}(aa:p.ok)(hr:Cd p.K){lo hi}(ac:klt lo hi=U)(hl:klt (El p) lo=aL):
  ∃K1 M K4 V1 MV V4,p.K=K1++(M++K4)∧p.V=V1++(MV++V4)∧V1.length=K1.length∧MV.length=M.length∧(∀x∈K1,klt x lo=U)∧(∀x∈M++K4,klt x lo=aL)∧(∀x∈K1++M,klt x hi=U)∧(∀x∈K4,klt x hi=aL)∧0<(M++K4).length∧(p.K.zip p.V).filter (rq lo hi)=M.zip MV:=by
 obtain⟨K1,K2,e,h1,h2⟩:=U8 p.K hr lo;have ad:=by rw[e]at hr;exact(Gu.1 hr).2.1
 obtain⟨M,K4,rfl,h3,h4⟩:=U8 K2 ad hi;have ab:=aa.2.2;rw[e]at ab;simp only[aN]at ab;refine⟨K1,M,K4,p.V.take K1.length,(p.V.drop K1.length).take M.length,(p.V.drop K1.length).drop M.length,e,?_,by grind,by grind,h1,h2,?_,h4,?_,?_⟩
 ·rw[aS,aS]
 ·intro x hx;rcases bO.1 hx with hx|hx
  ·exact Co (h1 x hx) ac
  grind
 ·rcases aQ (M++K4).length with h0|h0
  ·exfalso;have:=aK h0;rw[this,bE]at e;have:=h1 (El p) (by have:=Ky aa;grind);grind
  omega
 ·have ev:p.V=p.V.take K1.length++((p.V.drop K1.length).take M.length++(p.V.drop K1.length).drop M.length):=by rw[aS,aS]
  conv=>lhs;rw[e,ev]
  rw[fH (by grind),fH (by simp;omega),bD,bD];rw[I4 fun x hx=>by unfold rq;rw[h1 _ (cW hx).1];rfl];rw[I4 (l:=K4.zip _) fun x hx=>by unfold rq;rw[h4 _ (cW hx).1];simp];rw[Nx fun x hx=>by unfold rq;rw[h2 _ (eH _ (cW hx).1),h3 _ (cW hx).1];rfl];simp
theorem Akn {w:aR}{b aa cap:Nat}{A M B:List ByteArray}(h:An w (Q (J ⟨b,aa,O⟩) (A++(M++B)).length cap) (A++(M++B))):∀j u,(M.map aH)[j]?=J u→w.cell? ((⟨b,aa+A.length,O⟩:Addr).add j)=J u:=by
 intro j u hj;have ab:=(aF.1 hj).1;simp only[cI]at ab;obtain⟨b',ac,c,e,_,_,_,hc⟩:=h.at (by simp;omega);simp only[cG,eE,eJ]at e;obtain⟨⟨rfl,rfl,_⟩,_,rfl⟩:=e;rw[bX,eQ];rw[gL]at hj;cases hx:M[j]? with
 |none=>grind
 |some s=>
  rw[hx]at hj;have:=hc (A.length+j) s (by grind);grind
theorem Ag4 {w w':aR}{base}{e}{size}{v}{n}{xs}{r}(h:w.ownsRow base e size v n xs)(hg:w.grownBy w' r)(aa:r=O∨v.ownBlock≠r):w'.ownsRow base e size v n xs:=by
 obtain⟨h1,h2⟩:=h;refine⟨h1,?_⟩;rcases h2 with h2|⟨g,cap,cur,hv,hgb,hh,rest⟩
 ·grind
 ·refine .inr ⟨g,cap,cur,hv,hgb,(hg.block g (bA hh) ?_).trans hh,rest⟩;rcases aa with rfl|aa
  ·simp
  ·rw[hv]at aa;assumption
theorem Aum {a8 a9 b8 b9}{h4 h5:Nat}(h:a8=O∨a8≠a9)(e8:b8=a8∨b8=J h4)(e9:b9=a9∨b9=J h5)(l8:∀k,b8=J k→k<h5)(l9:∀k,a9=J k→k<h4):(b8=O∨b8≠b9)∧(a9=O∨b8≠a9):=by grind
def M7 (w w':aR)(e:Ending)(R:List (ByteArray×ByteArray)):Prop:=
 ∃kv vv,e=aE (eF #[kv,vv])∧An w' kv (R.map cT)∧An w' vv (R.map fY)∧Below w.heap.size w w'
theorem Ar0 (T)(tv)(lo hi)(w)(h:Bj w tv T)(hg:As T)(bf:klt lo hi=U)(hn:T.length≤1048576)(h0:0<T.length):
  aV aA 182 #[tv,Y lo,Y hi] w fun e w'=>M7 w w' e (rng T lo hi):=by
 obtain⟨i0,bg,bh,bi,bj⟩:=dF Kg;have gc:=fun W (hW:Below w.heap.size w W)=>I5 T tv W (h.below hW) hg
 have pc:=fun W (hW:Below w.heap.size w W)=>Ny T tv lo W (h.below hW) hg (by omega)
 obtain⟨A,B,eT,ak,hA,hB⟩:=Tr T hg lo
 change pf T lo=A.length at ak
 rw[ak]at pc;obtain⟨sv,rfl,hs⟩:=h;obtain⟨b,ab,cap,rfl,bk,cr,cs,hT⟩:=hs.at h0;have du:aB lo.toList hi.toList=U:=bf;generalize bl:w.alloc (aG #[Q (J ⟨b,ab,O⟩) T.length cap] 65)=W0;have al:Below w.heap.size w W0:=by rw[←bl];exact(aI _ w).alloc (aC _) _
 have b0:W0.heap[w.heap.size]?=J (aG #[Q (J ⟨b,ab,O⟩) T.length cap] 65):=by rw[←bl];exact Ab w _
 have ct:W0.cell? ⟨w.heap.size,0,O⟩=J (Q (J ⟨b,ab,O⟩) T.length cap):=Aa b0 rfl;have bm:=bA b0;have g0:=gc _ al;have cu:A.length≤T.length:=by rw[eT];simp
 have bn:rng (T.take A.length) lo hi=[]:=by
  have e:T.take A.length=A:=by rw[eT];simp
  rw[e];exact Akm (fun q hq=>hg.1 q (by rw[eT];simp[hq])) fun x hx=>.inl (hA x hx)
 have bo:∀k p,A.length≤k→T[k]?=J p→klt (El p) lo=aL:=by
  intro k p hk hp;rw[eT,cB hk]at hp;exact hB p (aT hp)
 have cv:=hid bo;have cx:=hid bn;have HG:=hid hg;have HT:=hid hT;have cy:=hid bf;clear bo bn hg hT hs gc eT hA hB ak;generalize hN:T.length=n at*;have HN:=hid hN;clear hN;generalize A.length=a at*;unfold aP at cs;go_enter eZ,eN;go_wp2_with(first
  |(go_fit g0;rintro e w1 ⟨rfl,am⟩;have cz:=(am.cell (p:=⟨w.heap.size,0,O⟩) bm).trans ct;have an:=al.trans (am.mono al.size);have bp:=aJ bm am.size)
  |(go_fit(pc _ an);rintro e w2 ⟨rfl,ap⟩;have da:=(ap.cell (p:=⟨w.heap.size,0,O⟩) bp).trans cz;have ag:=an.trans (ap.mono an.size);have db:=aJ bp ap.size))
 go_loopw[8,9,10] (fun z8 z9 i wr=>∃(k:Nat) (KL VL:List ByteArray),a≤k∧k≤n∧i=aO aW k∧KL.length≤4*k∧VL.length=KL.length∧wr.ownsRow w2.heap.size 9 1 z8 KL.length (KL.map Y)∧wr.ownsRow w2.heap.size 9 1 z9 VL.length (VL.map Y)∧(z8.ownBlock=O∨z8.ownBlock≠z9.ownBlock)∧Below w2.heap.size w2 wr∧Hid (KL=(rng (T.take k) lo hi).map cT∧VL=(rng (T.take k) lo hi).map fY)) (fun _ _ i _=>n-(cL i).toNat)
 case atStart=>exact⟨a,[],[],aC _,cu,rfl,by simp,rfl,cK _ _ _ _,cK _ _ _ _,.inl rfl,aI _ _,hid (by rw[cx.out];exact⟨rfl,rfl⟩)⟩
 case round=>
  obtain⟨k,KL,VL,dc,dv,rfl,dw,bq,aq,ar,bt,ad,HR⟩:=hrel;have ac:Below w.heap.size w wr:=ag.trans (ad.mono ag.size);have dx:wr.cell? ⟨w.heap.size,0,O⟩=J (Q (J ⟨b,ab,O⟩) n cap):=(ad.cell (p:=⟨w.heap.size,0,O⟩) db).trans da
  by_cases dy:k<n
  ·obtain⟨p,hp⟩:∃p,T[k]?=J p:=⟨_,aD (by rw[HN.out];omega)⟩;obtain⟨aa,au⟩:=HG.out.page hp;obtain⟨kv,vv,d0,d1,bu,av⟩:=HT.out k p hp;have hk:=bu.below ac;have hv:=av.below ac;have c0:=(ac.cell (p:=⟨b,ab+k*2,O⟩) bk).trans d0;have c1:=(ac.cell (p:=⟨b,ab+k*2+1,O⟩) bk).trans d1;clear bu d0 d1;obtain⟨kb,ko,kc,rfl,dz,ea,dd,bv⟩:=hk.at aa.1;obtain⟨vb,vo,vc,rfl,eb,ec,de,df⟩:=hv.at (by rw[aa.2.2];exact aa.1);have cf:wr.cell? ⟨kb,ko,O⟩=J (Y (H6 p)):=by have:=bv 0 _ (Agy aa.1);rwa[bY]at this
   have ed:(0:Int)<(p.K.length:Int):=by have:=aa.1;omega
   have j0:(0:Int)≤(k:Int):=by omega
   have j1:(k:Int)<(n:Int):=by omega
   clear bv df;cases hf:klt (H6 p) hi
   ·have dg:aB _ _=aL:=hf;have ae:rng T lo hi=rng (T.take k) lo hi:=by
     have hd:rng (T.drop k) lo hi=[]:=by
      have bw:As (T.take k++T.drop k):=by rw[aS];exact HG.out
      refine Akm (bw.part.2.1) fun x hx=>.inr ?_
      have aw:k<T.length:=by rw[HN.out];omega
      have bx:T[k]=p:=by rw[aD aw]at hp;simpa using hp
      rw[cR aw,bx]at hx;have hr:=bw.part.2.2;rw[cR aw,bx,Ey]at hr;rw[Ey]at hx;have ax:x=H6 p∨klt (H6 p) x=U:=by
       rcases bO.1 hx with hx|hx
       ·exact Acw au hx
       ·exact .inr ((Gu.1 hr).2.2 _ (Acv aa) x hx)
      rcases ax with rfl|ax
      ·omega
      ·cases dh:klt x hi with
       |false=>rfl
       |true=>have:=Co ax dh;grind
     have e:rng T lo hi=rng (T.take k++T.drop k) lo hi:=by rw[aS]
     rw[e,rng,Bh,bD];show _++rng (T.drop k) lo hi=_;rw[hd,bE];rfl
    have HE:=hid ae;clear ae;go_wp2;go_ret2;refine⟨_,_,rfl,?_,?_,ac⟩
    ·rw[HE.out,←HR.out.1];exact Ex.of_own aq
    ·rw[HE.out,←HR.out.2];exact Ex.of_own ar
   ·have dg:aB (H6 p).toList hi.toList=U:=hf;obtain⟨K1,M,K4,V1,MV,V4,eK,eV,l1,lM,q1,q2,q3,q4,q5,bz⟩:=Arz aa au cy.out (cv.out k p dc hp);have ay:=fun W hW=>U9 K1 _ lo _ W (by rw[←eK];exact hk.below hW) q1 q2 (by rw[←eK];exact aa.2.1)
    have ah:=fun W hW=>U9 _ K4 hi _ W (by rw[bJ,←eK];exact hk.below hW) q3 q4 (by rw[bJ,←eK];exact aa.2.1)
    have nk:=fun W hW=>Akn (w:=W) (by rw[←eK];exact hk.below hW)
    have nv:=fun W hW=>Akn (w:=W) (by rw[←eV];exact av.below hW)
    rw[l1]at nv;have ca:p.K.length=K1.length+M.length+K4.length:=by rw[eK];simp;omega
    have ee:=aa.2.1;have cb:=aa.2.2;have ef:=by simpa using q5
    have cc:=hid (show(rng (T.take (k+1)) lo hi).map cT=KL++M∧(rng _ lo hi).map fY=VL++MV by
     rw[HR.out.1,HR.out.2,rng,Aul hp,bD,bz,aU,aU,gW (by omega),List.map_snd_zip (by omega)];exact⟨rfl,rfl⟩)
    have tl:(K1++M).length=K1.length+M.length:=by simp
    rw[tl]at ah;clear eK eV q1 q2 q3 q4 q5 bz hp hk hv av au l1 tl;generalize di:p.K.length=pl at*;generalize dj:p.V.length=pv at*;generalize K1.length=f at*;generalize cd:M.length=ml at*;generalize K4.length=x4 at*;generalize decide ((M++K4).head? =J lo)=t1 at ay;generalize decide (K4.head? =J hi)=t2 at ah;unfold aP at dd de;have u0:(0:Int)≤f:=by omega
    have u1:f≤f+(ml:Int):=by omega
    have u2:f+ml≤(kc:Int):=by omega
    have u3:f+ml≤(vc:Int):=by omega
    have u6:(f+(ml:Int)).toNat=f+ml:=by omega
    have u7:(0:Int)≤f+ml:=by omega
    have u4:¬(kc=f):=by omega
    have u5:¬(vc=f):=by omega
    have ai:=hid (fG ca (fG cb cd));have eg:f+ml-f=ml:=by omega
    have ce:=lM;have eh:KL.length+ml≤4*(k+1):=by omega
    clear ca cb lM cd di dj;obtain⟨W1,az⟩:∃W1,wr.alloc (aG #[Q (J ⟨kb,ko,O⟩) pl kc,Q (J ⟨vb,vo,O⟩) pv vc] 91)=W1:=⟨_,rfl⟩;have ba:Below wr.heap.size wr W1:=by rw[←az];exact(aI _ _).alloc (aC _) _
    have bb:W1.heap[wr.heap.size]?=J (aG #[Q (J ⟨kb,ko,O⟩) pl kc,Q (J ⟨vb,vo,O⟩) pv vc] 91):=by rw[←az];exact Ab wr _
    have dk:W1.cell? ⟨_,0,O⟩=J (Q _ pl kc):=Aa bb rfl;go_upto_region 10 with(first
     |(go_fit(ay W1 ba);rintro e w3 ⟨rfl,cg⟩;have b3:=(cg.block _ (bA bb)).trans bb;have k3:w3.cell? ⟨_,0,O⟩=J (Q _ pl kc):=Aa b3 rfl;have bc:=ba.trans (cg.mono ba.size);have l3:=bA b3)
     |(go_fit(ah w3 bc);rintro e w4 ⟨rfl,ch⟩;have b4:=(ch.block _ l3).trans b3;have k4:w4.cell? ⟨_,0,O⟩=J (Q _ pl kc):=Aa b4 rfl;have af:=bc.trans (ch.mono bc.size)))
    have aj:=Ak aq af;have cj:=Ak ar af;have ck:=nk w4 af;have cl:=bT ad.size af.size;clear ay ah nk cr;go_wp2_with(at_builtin;go_must(refine gX _ rfl _ _ 43 rfl _ 9 i0 _ 1 16 bI bg bh bi bj rfl (by simp) _ _ _ rfl aj _ ml _ _ (by first|rfl|(simp;done)) (by simp;exact ai.out.2.2) ck (Oy _) (by simp only[aP];omega) (by omega) cl ?_));intro z8 w5 cm bd _ dl;have cn:=Ag4 cj bd (by rcases bt with e|e;exact .inl e;exact .inr (Ne.symm e));have v5:w5.cell? ⟨_,1,O⟩=J (Q _ pv vc):=Aa ((bd.block _ (bA b4) (Acu aj b4 (by simp))).trans b4) rfl;have be:=(ad.trans (af.mono ad.size)).grown bd cl (fun j hj=>(aj.lt j hj).1);have dm:=ag.trans (be.mono ag.size);have dn:=nv w5 dm;have co:=be.size;clear nv ck aj dk k3 k4 az;go_wp2_with(at_builtin;go_must(refine gX _ rfl _ _ 43 rfl _ 9 i0 _ 1 16 bI bg bh bi bj rfl (by simp) _ _ _ rfl cn _ ml _ _ (by first|rfl|(simp;done)) (by simp_all) dn (Oy _) (by simp only[aP];omega) (by omega) co ?_));intro z9 w6 cp cq _ dp;obtain⟨dq,ds⟩:=Aum bt dl dp (fun j hj=>(cm.lt j hj).2) (fun j hj=>(cj.lt j hj).2);go_wp2;go_roundw
    case rel=>
     refine⟨_,_,_,by omega,by omega,by rfl,?_,?_,?_,?_,dq,be.grown cq co (fun j hj=>(cn.lt j hj).1),hid ⟨cc.out.1.symm,cc.out.2.symm⟩⟩
     ·rw[aN,ai.out.2.2];omega
     ·rw[aN,aN,ai.out.2.2,ce,bq]
     ·rw[aN,aU,ai.out.2.2];exact Ag4 cm cq ds
     ·rw[aN,aU,ce];first|exact cp|(rw[bq];exact cp)
    case measure=>simp[cL];omega
  ·have dt:k=n:=by omega
   subst dt;have ae:rng T lo hi=rng (T.take k) lo hi:=by rw[←HN.out,cA]
   have HE:=hid ae;clear ae;go_wp2;go_ret2;refine⟨_,_,rfl,?_,?_,ac⟩
   ·rw[HE.out,←HR.out.1];exact Ex.of_own aq
   ·rw[HE.out,←HR.out.2];exact Ex.of_own ar
theorem Ag5 (n)(so)(sc)(lo hi)(w)(bad)(g0:aV aA 189 #[bU #[Q so n sc]] (w.alloc (aG #[Q so n sc] 65)) fun e w'=>e=aE (bF bad)∧Below (w.alloc (aG #[Q so n sc] 65)).heap.size (w.alloc (aG #[Q so n sc] 65)) w')(hb:bad=aL∨klt lo hi=aL):
  aV aA 182 #[bU #[Q so n sc],Y lo,Y hi] w fun e w'=>M7 w w' e []:=by
 have aa:Below _ w (w.alloc (aG #[Q so n sc] 65)):=(aI _ w).alloc (aC _) _;cases bad
 ·go_enter eZ,eN;go_wp2_with(go_fit g0;rintro e w1 ⟨rfl,ab⟩);go_ret2;exact⟨_,_,rfl,Ex.nil 1 _,Ex.nil 1 _,aa.trans (ab.mono aa.size)⟩
 ·have hl:aB lo.toList hi.toList=aL:=by rcases hb with h|h;cases h;exact h
  go_enter eZ,eN;go_wp2_with(go_fit g0;rintro e w1 ⟨rfl,ab⟩);go_ret2;exact⟨_,_,rfl,Ex.nil 1 _,Ex.nil 1 _,aa.trans (ab.mono aa.size)⟩
theorem An3 (so)(sc)(lo hi)(w)(h:Bj w (bU #[Q so 0 sc]) [])(ag:klt lo hi=U):
  aV aA 182 #[bU #[Q so 0 sc],Y lo,Y hi] w fun e w'=>M7 w w' e []:=by
 have hl:aB _ _=U:=ag;have ac:As []:=⟨by simp,by simp[Ch]⟩;have aa:Below _ w (w.alloc (aG #[Q so 0 sc] 65)):=(aI _ w).alloc (aC _) _;have pc:=fun W hW=>Ny [] _ lo W (h.below hW) ac (by simp)
 change∀W,_→aV _ 241 _ W fun e w'=>e=aE (aO _ ((0:Nat):Int))∧_ at pc
 go_enter eZ,eN;go_wp2_with(first
  |(go_fit(I5 [] _ _ (h.below aa) ac);rintro e w1 ⟨rfl,ad⟩;have ae:w1.cell? ⟨_,0,O⟩=J (Q so 0 sc):=Aa ((ad.block _ (by simp)).trans (Ab w _)) rfl;have ab:=aa.trans (ad.mono aa.size);have ah:w.heap.size<w1.heap.size:=block_lt_of_cell ae)
  |(go_fit(pc _ ab);rintro e w2 ⟨rfl,af⟩;have ai:=(af.cell ah).trans ae))
 refine eS 1 ?_;rw[dJ];go_wp2;go_ret2;exact⟨_,_,rfl,Ex.nil 1 _,Ex.nil 1 _,ab.trans (af.mono ab.size)⟩
def Vc (g:Bool)(T:List Pg)(lo hi:ByteArray):List (ByteArray×ByteArray):=if g then rng T lo hi else[]
theorem A3n (T)(lo hi)(h:klt lo hi=aL):rng T lo hi=[]:=by
 refine I4 fun x _=>?_
 unfold rq;cases h1:klt x.1 hi with
 |false=>simp
 |true=>
  have:klt x.1 lo=U:=by
   rcases Ji h with rfl|h2
   ·omega
   ·exact Co h1 h2
  grind
theorem Ag6 (g)(T)(ab:g=U↔As T)(tv)(lo hi)(w)(h:Bj w tv T)(hn:T.length≤1048576):
  aV aA 182 #[tv,Y lo,Y hi] w fun e w'=>M7 w w' e (Vc g T lo hi):=by
 have h':=h;obtain⟨sv,rfl,hs⟩:=h';obtain⟨so,sc,rfl⟩:∃ao c,sv=Q ao T.length c:=by obtain⟨rows,h1,_⟩:=hs;exact h1.shape
 have ac:Below _ w (w.alloc (aG #[Q so T.length sc] 65)):=(aI _ w).alloc (aC _) _
 by_cases hg:As T
 ·rw[Vc,if_pos (ab.2 hg)];cases aa:klt lo hi with
  |false=>rw[A3n T lo hi aa];exact Ag5 _ _ _ _ _ _ U (I5 T _ _ (h.below ac) hg) (.inr aa)
  |true=>
   rcases aQ T.length with h0|h0
   ·obtain rfl:=aK h0;exact An3 so sc lo hi w h aa
   ·exact Ar0 T _ lo hi w h hg aa hn h0
 ·rw[Vc,if_neg (fun e=>hg (ab.1 e))];exact Ag5 _ _ _ _ _ _ aL (A1k T _ _ (h.below ac) hg) (.inl rfl)
theorem Aan (g)(T)(aa:g=U↔As T){lo hi}:(Vc g T lo hi).length≤4*T.length:=by
 unfold Vc;split
 ·rename_i e;have h:=aa.1 e;have h1:=List.length_filter_le (rq lo hi) (flat T);have h2:=Aak h.1;have h3:=Aal h.1;unfold rng;omega
 simp
def He (a b:Int):Int:=if a<b then-1 else if b<a then 1 else 0
def F4 (a b:ByteArray):Int:=if aB a.toList b.toList then-1 else if a.toList==b.toList then 0 else 1
def or3 (x y z:Int):Int:=if x=0 then if y=0 then z else y else x
def Bt (a b:V):Int:=or3 (He a.k b.k) (He a.n b.n) (F4 a.s b.s)
theorem Ac2 (a b)(w):aV aA 210 #[aO aW a,aO aW b] w fun e w'=>e=aE (aO aW (He a b))∧w'=w:=by
 rcases(show a<b∨b<a∨a=b from by omega)with h|h|h
 ·have hn:¬b<a:=by omega
  go_enter fS,fO;go_wp2;go_ret;exact⟨Av (by simp[He,h]),rfl⟩
 ·have hn:¬a<b:=by omega
  have E:Hid (He a b=1):=by show He a b=1;simp[He,hn,h]
  go_enter fS,fO;go_wp2;go_ret;exact⟨Av E.out.symm,rfl⟩
 ·subst h;have E:Hid (He a a=0):=by show He a a=0;simp[He]
  go_enter fS,fO;go_wp2;go_ret;exact⟨Av E.out.symm,rfl⟩
theorem Qr (a b)(w):aV aA 172 #[Y a,Y b] w fun e w'=>e=aE (aO aW (F4 a b))∧w'=w:=by
 cases h:aB a.toList b.toList<;>cases h2:a.toList==b.toList
 all_goals
  have E:Hid (F4 a b=(if aB _ _ then-1 else if a.toList==b.toList then 0 else 1)):=rfl;go_enter Tryz.func172,Tryz.ntmps172;go_wp2;go_ret;exact⟨Av (by rw[E.out,h,h2];rfl),rfl⟩
theorem Ako (x y z)(b c)(w)(h0:w.cell? ⟨b,0,O⟩=J (aO aW x))(h1:w.cell? ⟨b,1,O⟩=J (aO aW y))(h2:w.cell? ⟨b,2,O⟩=J (aO aW z)):
  aV aA 134 #[Q (J ⟨b,0,O⟩) 3 c] w fun e w'=>e=aE (aO aW (or3 x y z))∧w'=w:=by
 by_cases hx:x=0<;>by_cases hy:y=0<;>by_cases hz:z=0
 all_goals
  have E:Hid (or3 x y z=if x=0 then if y=0 then z else y else x):=rfl;go_enter Tryz.func134,Tryz.ntmps134;go_wp2;refine eS 4 ?_;rw[dJ];go_wp2
  all_goals(try(rw[dJ];go_wp2))
  all_goals(try(rw[dJ];go_wp2))
  all_goals(try(rw[dJ];go_wp2))
  all_goals go_ret
  all_goals exact⟨Av (by rw[E.out];omega),rfl⟩
theorem An4 (a b)(w):aV aA 129 #[a.val,b.val] w fun e w'=>e=aE (aO aW (Bt a b))∧Below w.heap.size w w':=by
 obtain⟨k1,n1,s1⟩:=a;obtain⟨k2,n2,s2⟩:=b;show aV _ 129 #[bU #[aO _ k1,aO _ n1,Y s1],bU #[aO _ k2,aO _ n2,Y s2]] w _;go_enter Tryz.func129,Tryz.ntmps129;go_wp2
 go_region_held3(fun w'=>w'.cell? ⟨w.heap.size,0,O⟩=J (aO aW k1)∧w'.cell? ⟨w.heap.size,1,O⟩=J (aO aW n1)∧w'.cell? ⟨w.heap.size,2,O⟩=J (Y s1)∧w'.cell? ⟨w.heap.size+1,0,O⟩=J (aO aW k2)∧w'.cell? ⟨w.heap.size+1,1,O⟩=J (aO aW n2)∧w'.cell? ⟨w.heap.size+1,2,O⟩=J (Y s2)) (go_keep)
  (first|(go_at_call 210;refine(Ac2 _ _ _).mono ?_;rintro e w' ⟨rfl,rfl⟩)|(go_at_call 172;refine(Qr _ _ _).mono ?_;rintro e w' ⟨rfl,rfl⟩)|(go_at_call 134;refine(Ako (He k1 k2) (He n1 n2) (F4 s1 s2) _ _ _ ?_ ?_ ?_).mono ?_;(simp[go_sem]);(simp[go_sem]);(simp[go_sem]);rintro e w' ⟨rfl,rfl⟩))
 go_wp2;go_ret;refine⟨rfl,?_⟩
 repeat first|exact aI _ _|apply Below.drew|refine Below.alloc ?_ (by simp;try omega) _
theorem Dz (l p q):aB (l++p) (l++q)=aB p q:=by
 induction l with
 |nil=>rfl
 |cons a l ih=>simp[aB,ih]
theorem G8 {a b}(h:a<b)(p q):aB (a::p) (b::q)=U:=by simp[aB,h]
theorem Tt (l):aB l l=aL:=by
 induction l with
 |nil=>rfl
 |cons a l ih=>simp[aB,ih]
theorem Lm:∀(p q:List UInt8),aB p q=U→aB q p=aL
 |_,[],h=>by simp[aB]at h
 |[],_::_,_=>by rfl
 |a::p,b::q,h=>by
  simp only[aB,fJ,dC,decide_eq_true_eq,beq_iff_eq]at h;simp only[aB,eI,fV,decide_eq_false_iff_not,beq_eq_false_iff_ne];rcases h with h|⟨rfl,h⟩
  ·grind
  ·exact⟨UInt8.lt_irrefl _,.inr (Lm p q h)⟩
theorem Ac3:∀(p q:List UInt8),aB p q=aL→p≠q→aB q p=U
 |[],[],_,h=>absurd rfl h
 |_::_,[],_,_=>by rfl
 |[],_::_,h,_=>by simp[aB]at h
 |a::p,b::q,h,hne=>by
  simp only[aB,eI,fV,decide_eq_false_iff_not,beq_eq_false_iff_ne]at h;simp only[aB,fJ,dC,decide_eq_true_eq,beq_iff_eq]
  by_cases e:a=b
  ·subst e;refine .inr ⟨rfl,Ac3 p q ?_ fun e=>hne (by rw[e])⟩;grind
  grind
theorem Aqh (p q):∀(s t:List UInt8),(∀c∈t,0<c)→aB s t=U→aB (s++0::p) (t++0::q)=U
 |_,[],_,h=>by simp[aB]at h
 |[],b::t,ht,_=>G8 (ht b (by simp)) _ _
 |a::s,b::t,ht,h=>by
  simp only[aB,fJ,dC,decide_eq_true_eq,beq_iff_eq]at h;rcases h with h|⟨rfl,h⟩
  ·exact G8 h _ _
  ·show aB ([a]++_) ([a]++_)=U;rw[Dz];exact Aqh p q s t (fun c hc=>ht c (by grind)) h
theorem A4r {a b:Nat}(ha:a<256)(hb:b<256)(h:a<b):bC a<bC b:=by
 rw[fP];simp;omega
theorem Ar1 {a b:Nat}(h:a%256=b%256):bC a=bC b:=by
 apply gR.1;simp_all
theorem Xt {a b:Nat}(h:a%256<b%256):bC a<bC b:=by assumption
theorem A3o (m m')(p q)(h:m<m')(h':m'<4294967296):aB (be4 m++p) (be4 m'++q)=U:=by
 simp only[be4,bL,hH]
 by_cases e1:m/16777216=m'/16777216
 ·rw[Ar1 (show m/16777216%256=m'/16777216%256 by omega)];show aB ([bC _]++_) ([bC _]++_)=U;rw[Dz]
  by_cases e2:m/65536=m'/65536
  ·rw[Ar1 (show m/65536%256=m'/65536%256 by omega)];show aB ([bC _]++_) ([bC _]++_)=U;rw[Dz]
   by_cases e3:m/256=m'/256
   ·rw[Ar1 (show m/256%256=m'/256%256 by omega)];show aB ([bC _]++_) ([bC _]++_)=U;rw[Dz];exact G8 (Xt (by omega)) _ _
   ·exact G8 (Xt (by omega)) _ _
  ·exact G8 (Xt (by omega)) _ _
 ·exact G8 (Xt (by omega)) _ _
theorem Ac4 (a b):(a<b∧He a b= -1)∨(a=b∧He a b=0)∨(b<a∧He a b=1):=by
 unfold He;omega
theorem Ar2 (a b):(aB a.data.toList b.data.toList=U∧F4 a b= -1)∨(a.data.toList=b.data.toList∧F4 a b=0)∨(aB b.data.toList a.data.toList=U∧F4 a b=1):=by
 unfold F4;rw[cM,cM]
 by_cases h:aB a.data.toList b.data.toList=U
 ·grind
 ·have h':=by simpa using h
  by_cases e:a.data.toList=b.data.toList
  ·grind
  ·right;right
   refine⟨Ac3 _ _ h' e,?_⟩;grind
theorem Ac5 {v}(hk:v.k=2)(hg:good v=U):∀c∈v.s.data.toList,0<c:=by
 intro c hc;simp[good,hk]at hg;have h0:=hg.2;unfold Lj at h0;have h:=List.all_eq_true.1 h0 c hc;simp[Qm]at h;rw[fP];grind
theorem G0 {v}(hg:good v=U):v.k=0∨v.k=1∨v.k=2:=by
 by_cases h0:v.k=0
 ·omega
 by_cases h1:v.k=1
 ·omega
 by_cases h2:v.k=2
 ·omega
 ·simp[good,h0,h1,h2]at hg
theorem Vd {v}(hk:v.k=1)(hg:good v=U):-1000000≤v.n∧v.n≤1000000:=by
 simp[good,hk]at hg;omega
theorem Ln {v}(hg:good v=U):∃t,keyOf v=bC (v.k.toNat+1)::t:=by
 rcases G0 hg with h|h|h
 ·exact⟨_,by rw[Ew h,h];rfl⟩
 ·exact⟨_,by rw[Fy h,h];rfl⟩
 ·exact⟨_,by rw[Hi h,h];rfl⟩
theorem An5 {v u}(hv:good v=U)(hu:good u=U)(h:v.k<u.k)(p q):aB (keyOf v++p) (keyOf u++q)=U:=by
 obtain⟨a,ha⟩:=Ln hv;obtain⟨b,hb⟩:=Ln hu;rw[ha,hb,bL,bL];refine G8 (Xt ?_) _ _;rcases G0 hv with e|e|e<;>rcases G0 hu with f|f|f<;>rw[e,f]at h⊢<;>first|omega|simp
theorem Ui {v u}(hv:good v=U)(hu:good u=U)(h:v.k<u.k∨(v.k=u.k∧(v.n<u.n∨(v.n=u.n∧aB v.s.data.toList u.s.data.toList=U))))(p q):
  aB (keyOf v++p) (keyOf u++q)=U:=by
 rcases h with h|⟨hk,h⟩
 ·exact An5 hv hu h p q
 rcases G0 hv with e|e|e
 ·have e':=hk▸e;simp[good,e]at hv;simp[good,e']at hu;rcases h with h|⟨_,h⟩
  ·omega
  ·have h0:v.s.data.toList=[]:=by rw[hv.2];rfl
   have h1:u.s.data.toList=[]:=by rw[hu.2];rfl
   rw[h0,h1]at h;simp[aB]at h
 ·have e':=hk▸e;have bv:=Vd e hv;have bu:=Vd e' hu;simp[good,e]at hv;simp[good,e']at hu;rcases h with h|⟨_,h⟩
  ·rw[Fy e,Fy e'];show aB ([2]++(be4 _++p)) ([2]++(be4 _++q))=U;rw[Dz];exact A3o _ _ _ _ (by omega) (by omega)
  ·have h0:v.s.data.toList=[]:=by rw[hv.2];rfl
   have h1:u.s.data.toList=[]:=by rw[hu.2];rfl
   rw[h0,h1]at h;simp[aB]at h
 ·have e':=hk▸e;have gu:=Ac5 e' hu;simp[good,e]at hv;simp[good,e']at hu;rcases h with h|⟨_,h⟩
  ·omega
  ·rw[Hi e,Hi e'];show aB ([3]++((v.s.data.toList++[0])++p)) ([3]++((u.s.data.toList++[0])++q))=U;rw[Dz,bJ,bJ];exact Aqh p q _ _ gu h
theorem Im (v u)(hv:good v=U)(hu:good u=U):
  (Bt v u= -1∧∀p q,aB (keyOf v++p) (keyOf u++q)=U)∨(Bt v u=0∧keyOf v=keyOf u)∨(Bt v u=1∧∀p q,aB (keyOf u++q) (keyOf v++p)=U):=by
 unfold Bt or3;rcases Ac4 v.k u.k with⟨h,e⟩|⟨hk,e⟩|⟨h,e⟩
 ·left;rw[e];exact⟨rfl,fun p q=>Ui hv hu (.inl h) p q⟩
 ·rw[e];rcases Ac4 v.n u.n with⟨h,e⟩|⟨hn,e⟩|⟨h,e⟩
  ·left;rw[e];exact⟨rfl,fun p q=>Ui hv hu (.inr ⟨hk,.inl h⟩) p q⟩
  ·rw[e];rcases Ar2 v.s u.s with⟨h,e⟩|⟨h,e⟩|⟨h,e⟩
   ·left;rw[e];exact⟨rfl,fun p q=>Ui hv hu (.inr ⟨hk,.inr ⟨hn,h⟩⟩) p q⟩
   ·right;left;rw[e];refine⟨rfl,?_⟩;unfold keyOf;grind
   ·right;right;rw[e];exact⟨rfl,fun p q=>Ui hu hv (.inr ⟨hk.symm,.inr ⟨hn.symm,h⟩⟩) q p⟩
  ·right;right;rw[e];exact⟨rfl,fun p q=>Ui hu hv (.inr ⟨hk.symm,.inl h⟩) q p⟩
 ·right;right;rw[e];exact⟨rfl,fun p q=>Ui hu hv (.inl h) q p⟩
def Rx:List V→List V→Int
 |a::A,b::B=>if Bt a b=0 then Rx A B else Bt a b
 |_,_=>0
theorem Aao:∀(A B:List V),A.length=B.length→(∀v∈A,good v=U)→(∀v∈B,good v=U)→
  (Rx A B= -1∧aB (Dy A) (Dy B)=U)∨(Rx A B=0∧Dy A=Dy B)∨(Rx A B=1∧aB (Dy B) (Dy A)=U)
 |[],[],_,_,_=>.inr (.inl ⟨rfl,rfl⟩)
 |a::A,b::B,h,hA,hB=>by
  have ih:=Aao A B (by simpa using h) (fun v hv=>hA v (by simp[hv])) (fun v hv=>hB v (by simp[hv]));have ka:Dy (a::A)=keyOf a++Dy A:=by simp[Dy]
  have kb:Dy (b::B)=keyOf b++Dy B:=by simp[Dy]
  rw[ka,kb];unfold Rx;rcases Im a b (hA a (by simp)) (hB b (by simp))with⟨e,h1⟩|⟨e,h1⟩|⟨e,h1⟩
  ·grind
  ·rw[e,h1,Dz,Dz];grind
  grind
theorem Xu (p):∀(l:List UInt8),(∀c∈l,c≠0)→bN (l++0::p) 0=l.length
 |[],_=>by rfl
 |b::l,h=>by
  have ih:=Xu p l fun c hc=>h c (by grind)
  have hb:(b==0)=aL:=by rw[beq_eq_false_iff_ne];exact h b (by simp)
  have h1:(bN (l++0::p) 0== -1)=aL:=by rw[ih,beq_eq_false_iff_ne];omega
  simp only[bL,bN,hb,h1,gG,if_false];grind
theorem A3p (c)(m)(h:m<4294967296)(p):n4 (c::(be4 m++p))=m:=by
 simp[n4,be4];omega
theorem A3q (v)(hg:good v=U)(p):fv (keyOf v++p)=(v,(keyOf v).length):=by
 rcases G0 hg with e|e|e
 ·have hz:v=zero:=by
   obtain⟨k,n,s⟩:=v;simp[good,show k=0 from e]at hg;simp only[zero,V.mk.injEq];exact⟨e,hg.1,by rw[hg.2];rfl⟩
  rw[Ew e,hz];rfl
 ·have hn:=Vd e hg;have hs:v.s=⟨#[]⟩:=by simp[good,e]at hg;rw[hg.2];rfl
  rw[Fy e,bL];have hl:¬(2::(be4 (v.n+1073741824).toNat++p)).length<5:=by simp[be4]
  have h4:n4 _=((v.n+1073741824).toNat:Nat):=A3p 2 _ (by omega) p;unfold fv;rw[eL,if_neg (by simp),if_pos rfl,if_neg hl,h4];obtain⟨k,n,s⟩:=v;simp only[gU,V.mk.injEq];refine⟨⟨e.symm,?_,hs.symm⟩,by rfl⟩;grind
 ·have hb:=Ac5 e hg;have h0:=by simp[good,e]at hg;exact hg.1.1
  rw[Hi e,bL];have hi:bN (3::(v.s.data.toList++[0]++p)) 0=((3::v.s.data.toList).length:Nat):=by
   have:=Xu p (3::v.s.data.toList) (by grind);rw[←this];simp
  unfold fv;rw[eL,if_neg (by simp),if_neg (by simp),if_pos rfl,hi,if_neg (by omega)];obtain⟨k,n,s⟩:=v;simp only[gU,V.mk.injEq];refine⟨⟨e.symm,h0.symm,?_⟩,by simp⟩;have:List.take (((3::s.data.toList).length:Nat):Int).toNat.pred (List.drop 1 (3::(s.data.toList++[0]++p)))=s.data.toList:=by simp
  have e2:((((3::s.data.toList).length:Nat):Int).toNat-1)=(((3::s.data.toList).length:Nat):Int).toNat.pred:=rfl;rw[e2,this,Qn]
theorem Ag7 (v):keyOf v≠[]:=by
 unfold keyOf;grind
theorem S3 (L)(h:∀v∈L,good v=U):vals (Dy L)=J L:=by
 induction L with
 |nil=>rfl
 |cons v L ih=>
  have hv:=h v (by simp);have e:Dy (v::L)=keyOf v++Dy L:=by simp[Dy]
  have hf:=A3q v hv (Dy L);have aa:keyOf v++Dy L≠[]:=by simp[Ag7 v]
  have hz:(keyOf v).length≠0:=by intro x;exact Ag7 v (aK x)
  rw[e,Xp aa (by grind) (by grind),hf];grind
theorem A3r (c1 c2 c3 c4):be4 ((c1.toNat:Int) *16777216+(c2.toNat:Int) *65536+(c3.toNat:Int) *256+(c4.toNat:Int)).toNat=[c1,c2,c3,c4]:=by
 have h1:=c1.toNat_lt;have h2:=c2.toNat_lt;have h3:=c3.toNat_lt;have h4:=c4.toNat_lt;unfold be4;simp only[fZ,and_true];refine⟨?_,?_,?_,?_⟩<;>(apply gR.1;simp;omega)
theorem A48 {c}:∀(l:List UInt8),¬(c::l).length<5→∃c1 c2 c3 c4 t,l=c1::c2::c3::c4::t
 |c1::c2::c3::c4::t,_=>⟨c1,c2,c3,c4,t,rfl⟩
 |[],h=>absurd (by simp) h
 |[_],h=>absurd (by simp) h
 |[_,_],h=>absurd (by simp) h
 |[_,_,_],h=>absurd (by simp) h
theorem A3s (l:List UInt8)(hl:l≠[])(hz:(fv l).2≠0)(hg:good (fv l).1=U):l=keyOf (fv l).1++l.drop (fv l).2:=by
 match l,hl with
 |c::l,_=>
  unfold fv at hz hg⊢;rw[eL]at hz hg⊢
  by_cases h1:c=1
  ·rw[if_pos h1]at hz hg⊢;rw[Ew rfl,h1];simp
  rw[if_neg h1]at hz hg⊢
  by_cases h2:c=2
  ·rw[if_pos h2]at hz hg⊢
   by_cases aa:(c::l).length<5
   ·rw[if_pos aa]at hz;exact absurd rfl hz
   rw[if_neg aa]at hz hg⊢;obtain⟨c1,c2,c3,c4,t,rfl⟩:=A48 l aa;rw[Fy rfl,h2];have e:(n4 (2::c1::c2::c3::c4::t)-1073741824+1073741824).toNat=((c1.toNat:Int) *16777216+(c2.toNat:Int) *65536+(c3.toNat:Int) *256+(c4.toNat:Int)).toNat:=by
    rw[Int.sub_add_cancel];rfl
   simp only;rw[e,A3r];rfl
  rw[if_neg h2]at hz hg⊢
  by_cases h3:c=3
  ·rw[if_pos h3]at hz hg⊢
   by_cases hi:bN (c::l) 0<0
   ·grind
   rw[if_neg hi]at hz hg⊢;obtain⟨i,ab⟩:∃i:Nat,bN (c::l) 0=i:=⟨(bN (c::l) 0).toNat,by omega⟩;have hs:=(gO ab).1;rw[ab,Hi rfl];simp only[Bs]
   match i,hs with
   |0,hs=>grind
   |i+1,hs=>
    simp at hs;simp only[Int.toNat_natCast,gK,List.drop_succ_cons,List.drop_zero];rw[h3,bL,bJ]
    congr 1
    have hd:l.drop i=0::l.drop (i+1):=by
     rw[cR ((aF.1 hs).1),(aF.1 hs).2]
    rw[bL,hH,←hd,aS]
  grind
theorem Aun:∀(n:Nat) (l:List UInt8) (L:List V),l.length≤n→vals l=J L→(∀v∈L,good v=U)∧Dy L=l∧L.length≤l.length:=by
 intro n
 induction n with
 |zero=>
  intro l L hl h;obtain rfl:=aK (Nat.le_zero.1 hl);rw[Akc]at h;simp at h;subst h;exact⟨by simp,rfl,by simp⟩
 |succ n ih=>
  intro l L hl h
  by_cases aa:l=[]
  ·grind
  by_cases hb:(fv l).2=0∨good (fv l).1=aL
  ·rw[Abo aa hb]at h;grind
  have hz:(fv l).2≠0:=fun e=>hb (.inl e)
  have hg:good (fv l).1=U:=by cases hh:good (fv l).1 with|true=>rfl|false=>grind
  rw[Xp aa hz hg]at h;obtain⟨L',h1,h2⟩:=Option.map_eq_some_iff.1 h;have ac:=List.length_pos_iff.2 aa;have ab:(l.drop (fv l).2).length≤n:=by rw[List.length_drop];omega
  obtain⟨a,b,c⟩:=ih _ L' ab h1;have hk:=A3s l aa hz hg;subst h2;refine⟨?_,?_,?_⟩
  ·grind
  ·have e:Dy ((fv l).1::L')=keyOf (fv l).1++Dy L':=by simp[Dy]
   grind
  grind
theorem Akp (c)(w):aV aA 337 #[aO .u8 c] w fun e w'=>e=aE (bF (Qm c))∧w'=w:=by
 by_cases h1:32≤c<;>by_cases h2:c≤126<;>by_cases h3:c=39
 all_goals
  go_enter Tryz.func337,Tryz.ntmps337;go_wp2
  all_goals
   go_ret;exact⟨Ah (by simp_all [Qm]),rfl⟩
theorem Ai5 (s)(w)(h:8<s.size)(hs:s.size≤aP):
  aV aA 296 #[Y s] w fun e w'=>e=aE (bF aL)∧w'=w:=by
 unfold aP at hs;go_enter Tryz.func296,Tryz.ntmps296;go_wp2;go_ret;simp
theorem Afj (s)(w)(h:s.size≤8):
  aV aA 296 #[.string s] w fun e w'=>e=.returned (.bool (Lj s.data.toList))∧w'=w:=by
 go_enter Tryz.func296,Tryz.ntmps296;go_wp2
 go_loop [9] (fun i=>∃k,k≤s.size∧i=.int .i64 k∧Lj (s.data.toList.take k)=U) (fun i=>s.size-(cL i).toNat)
 case atStart=>exact⟨0,aX _,rfl,rfl⟩
 case round=>
  obtain⟨k,hk,rfl,aa⟩:=hrel;have hg:Hid _:=aa;clear aa
  by_cases ab:k<s.size
  ·have ac:Hid (Lj (s.data.toList.take (k+1))=(Lj (s.data.toList.take k)&&Qm (s[k].toNat:Int))):=by rw[Agt s k ab,Arr];rfl
   have ad:Hid _:=Auc s k ab;cases hb:Qm (s[k].toNat:Int)
   all_goals
    go_wp2_with(refine(Akp _ _).mono ?_;rintro e w' ⟨rfl,rfl⟩)
   ·go_ret;exact⟨Ah (ad.out hb).symm,rfl⟩
   ·go_round
    case rel=>exact⟨k+1,by omega,by rfl,by rw[ac.out,hg.out,hb];rfl⟩
    case measure=>simp[cL];omega
  ·go_wp2;go_ret;exact⟨Ah (by have:=hg.out;rw[Ax9 s k (by omega)]at this;grind),rfl⟩
theorem K5 (s:ByteArray):s.toList.isEmpty=decide (s.size=0):=by
 rw[cM,show s.size=s.data.toList.length from by simp];grind
theorem Mn (v)(w)(hs:v.s.size≤aP):
  aV aA 230 #[v.val] w fun e w'=>e=aE (bF (good v))∧w'=w.alloc (aG #[aO aW v.k,aO aW v.n,Y v.s] 46):=by
 obtain⟨k,n,s⟩:=v;show aV _ 230 #[bU #[aO _ k,aO _ n,Y s]] w _
 by_cases h0:k=0
 ·subst h0
  by_cases hn:n=0
  all_goals
   go_enter cP,cJ;go_wp2;go_ret;exact⟨Ah (by simp[good,hn,K5]),rfl⟩
 by_cases h1:k=1
 ·subst h1;rcases(show n< -1000000∨1000000<n∨(-1000000≤n∧n≤1000000)from by omega)with hn|hn|⟨hn,hm⟩
  ·have e:decide (-1000000≤n)=aL:=by simp;omega
   go_enter cP,cJ;go_wp2;go_ret;exact⟨Ah (by simp[good,e]),rfl⟩
  ·have e:decide (n≤1000000)=aL:=by simp;omega
   go_enter cP,cJ;go_wp2;go_ret;exact⟨Ah (by simp[good,e]),rfl⟩
  ·go_enter cP,cJ;go_wp2;go_ret;exact⟨Ah (by simp[good,hn,hm,K5]),rfl⟩
 by_cases h2:k=2
 ·subst h2
  by_cases hn:n=0
  ·subst hn
   by_cases h8:s.size≤8
   ·go_enter cP,cJ;go_wp2_with(refine(Afj _ _ h8).mono ?_;rintro e w' ⟨rfl,rfl⟩);go_ret;exact⟨Ah (by simp[good,h8]),rfl⟩
   ·have h9:8<s.size:=by omega
    have e:decide (s.size≤8)=aL:=by simp;omega
    have E:Hid _:=e;clear e h8;go_enter cP,cJ;go_wp2_with(refine(Ai5 s _ h9 hs).mono ?_;rintro e w' ⟨rfl,rfl⟩);go_ret;exact⟨Ah (by have:=E.out;simp[good,this]),rfl⟩
  ·go_enter cP,cJ;go_wp2;go_ret;exact⟨Ah (by simp[good,hn]),rfl⟩
 go_enter cP,cJ;go_wp2;go_ret;exact⟨Ah (by simp[good,h0,h1,h2]),rfl⟩
theorem Afk:(Tryz.prog.info? 5).map (fun i=>(i.zero,i.size,i.bytes))=J (J (aO .u8 0),1,1):=by kernel_rfl
theorem Aad (n)(s)(kv)(bs)(base)(w)(ab:w.ownsRow base 5 1 kv bs.length (Et bs))
  (hb:base≤w.heap.size) (ai:bs.length+10≤140737488355328):
  aV aA 252 #[kv,bU #[aO aW 0,aO aW n,Y s]] w fun e w'=>∃ac,e=aE ac∧w'.ownsRow base 5 1 ac (bs.length+1) (Et (bs++[1]))∧Below base w w':=by
 obtain⟨i0,hi,ae,af,ag⟩:=dF Afk;have H1:((w.alloc (bS #[aM aY 0,aM aY n,aH s] 46)).alloc (bS #[aM bB 1] 5)).ownsRow base 5 1 kv _ _:=(ab.alloc _).alloc _;have B1:=Ad (Ab w (bS #[aM aY 0,aM aY n,aH s] 46)) (bS #[aM bB 1] 5);have N1:=Cb (w.alloc (bS #[aM aY 0,aM aY n,aH s] 46)) [aM bB 1] 5;go_enter fR,fN;go_wp2_with(at_builtin;go_must(refine bP _ rfl _ _ 302 rfl base 5 i0 _ 1 1 bQ hi ae af ag rfl (by simp) kv _ _ rfl H1 _ 1 1 [.int .u8 1] rfl rfl ?_ ?_ ?_ ?_ ?_ ?_))
 ·simp_all
 ·intro u hu;simp at hu;subst hu;rfl
 ·unfold aP;omega
 ·omega
 ·grind
 ·intro ah w1 ad aa _;have B2:=Gs aa B1 (Acu H1 B1 (by simp));have C0:=Aa B2 (j:=0) rfl;have Bl:=(((aI _ _).alloc hb _).alloc (by simp;omega) _).trans (Gy H1 (by grind) aa);have O1:w1.ownsRow base 5 1 ah (bs.length+1) (Et (bs++[1])):=by rw[Ih];exact ad
  clear B2 aa H1 B1 N1 ad ab;go_wp2;go_ret;exact⟨_,rfl,O1,Bl⟩
theorem Abs (n)(s)(kv)(bs)(base)(w)(ab:w.ownsRow base 5 1 kv bs.length (Et bs))
  (hb:base≤w.heap.size) (am:bs.length+10≤140737488355328) (hn:-1000000≤n) (hm:n≤1000000):
  aV aA 252 #[kv,bU #[aO aW 1,aO aW n,Y s]] w fun e w'=>∃ac,e=aE ac∧w'.ownsRow base 5 1 ac (bs.length+5) (Et (bs++2::be4 (n+1073741824).toNat))∧Below base w w':=by
 obtain⟨i0,hi,ad,ae,af⟩:=dF Afk;have H1:((w.alloc (bS #[aM aY 1,aM aY n,aH s] 46)).alloc (bS #[aM bB 2] 5)).ownsRow base 5 1 kv _ _:=(ab.alloc _).alloc _;have B1:=Ad (Ab w (bS #[aM aY 1,aM aY n,aH s] 46)) (bS #[aM bB 2] 5);have N1:=Cb (w.alloc (bS #[aM aY 1,aM aY n,aH s] 46)) [aM bB 2] 5;go_enter fR,fN;go_wp2_with(at_builtin;go_must(refine bP _ rfl _ _ 302 rfl base 5 i0 _ 1 1 bQ hi ad ae af rfl (by simp) kv _ _ rfl H1 _ 1 1 [.int .u8 2] rfl rfl ?_ ?_ ?_ ?_ ?_ ?_))
 ·simp_all
 ·intro u hu;simp at hu;subst hu;rfl
 ·unfold aP;omega
 ·omega
 ·grind
 ·intro ag w1 ah aa _;have B2:=Gs aa B1 (Acu H1 B1 (by simp));have C0:=Aa B2 (j:=0) rfl;have C1:=Aa B2 (j:=1) rfl;have Bl:=(((aI _ _).alloc hb _).alloc (by simp;omega) _).trans (Gy H1 (by grind) aa);have O1:w1.ownsRow base 5 1 ag (bs.length+1) (Et (bs++[2])):=by rw[Ih];exact ah
  have S1:=aa.size;simp at S1;clear B2 aa H1 B1 N1 ah ab;have M0:0≤n+1073741824:=by omega
  have M1:n+1073741824<4294967296:=by omega
  have E:=A47 _ M0 M1;have O2:=O1.alloc (bS #[aM bB ((n+1073741824)/16777216),aM bB ((n+1073741824)/65536%256),aM bB ((n+1073741824)/256%256),aM bB ((n+1073741824)%256)] 5);have N2:=Cb w1 [aM bB ((n+1073741824)/16777216),aM bB ((n+1073741824)/65536%256),aM bB ((n+1073741824)/256%256),aM bB ((n+1073741824)%256)] 5;have EH:Hid _:=E;clear E;go_wp2_with(at_builtin;go_must(refine bP _ rfl _ _ 302 rfl base 5 i0 _ 1 1 bQ hi ad ae af rfl (by simp) ag _ _ rfl O2 _ 4 4 _ rfl rfl N2 ?_ ?_ ?_ ?_ ?_))
  ·intro u hu;simp at hu;rcases hu with rfl|rfl|rfl|rfl<;>rfl
  ·unfold aP;omega
  ·omega
  ·simp;omega
  ·intro ak w2 ai aj _;have al:=(Bl.alloc (by omega) _).trans (Gy O2 (by simp;omega) aj);have O3:w2.ownsRow base 5 1 ak (bs.length+5) (Et (bs++2::be4 (n+1073741824).toNat)):=by
    rw[show bs++2::be4 (n+1073741824).toNat=(bs++[2])++be4 (n+1073741824).toNat from by simp,Ih,EH.out];exact ai
   clear O2 N2 ai aj O1 Bl EH;go_wp2;go_ret;exact⟨_,rfl,O3,al⟩
theorem Afl (n)(s)(kv)(bs)(base)(w)(af:w.ownsRow base 5 1 kv bs.length (Et bs))
  (hb:base≤w.heap.size) (ar:bs.length+10≤140737488355328) (h8:s.size≤8):
  aV aA 252 #[kv,.agg #[.int .i64 2,.int .i64 n,.string s]] w fun e w'=>∃ag,e=.returned ag∧w'.ownsRow base 5 1 ag (bs.length+(s.size+2)) (Et (bs++3::(s.data.toList++[0])))∧Below base w w':=by
 obtain⟨i0,hi,ab,ac,ad⟩:=dF Afk;have H1:((w.alloc (bS #[aM aY 2,aM aY n,aH s] 46)).alloc (bS #[aM bB 3] 5)).ownsRow base 5 1 kv _ _:=(af.alloc _).alloc _;have B1:=Ad (Ab w (bS #[aM aY 2,aM aY n,aH s] 46)) (bS #[aM bB 3] 5);have N1:=Cb (w.alloc (bS #[aM aY 2,aM aY n,aH s] 46)) [aM bB 3] 5;go_enter fR,fN;go_wp2_with(at_builtin;go_must(refine bP _ rfl _ _ 302 rfl base 5 i0 _ 1 1 bQ hi ab ac ad rfl (by simp) kv _ _ rfl H1 _ 1 1 [.int .u8 3] rfl rfl ?_ ?_ ?_ ?_ ?_ ?_))
 ·simp_all
 ·intro u hu;simp at hu;subst hu;rfl
 ·unfold aP;omega
 ·omega
 ·grind
 ·intro ah w1 ai aa _;have B2:=Gs aa B1 (Acu H1 B1 (by simp));have C0:=Aa B2 (j:=0) rfl;have C2:=Aa B2 (j:=2) rfl;have Bl:=(((aI _ _).alloc hb _).alloc (by simp;omega) _).trans (Gy H1 (by grind) aa);have O1:w1.ownsRow base 5 1 ah (bs.length+1) (Et (bs++[3])):=by rw[Ih];exact ai
  have S1:=aa.size;simp at S1;clear B2 aa H1 B1 N1 ai af;go_wp2_with(at_builtin;go_must(refine Lib.wpList_append_own_string _ rfl _ _ 302 9 rfl base 5 i0 bQ bG hi ab ac ad ah _ _ rfl O1 s rfl ?_ ?_ ?_ ?_))
  ·unfold aP;omega
  ·omega
  ·omega
  ·intro an w2 aj ae _;have ak:=Bl.trans (Gy O1 (by omega) ae);have S2:=ae.size;have O2:=aj.alloc (bS #[aM bB 0] 5);have N2:=Cb w2 [aM bB 0] 5;clear ae aj O1 Bl;go_wp2_with(at_builtin;go_must(refine bP _ rfl _ _ 302 rfl base 5 i0 _ 1 1 bQ hi ab ac ad rfl (by simp) an _ _ rfl O2 _ 1 1 _ rfl rfl N2 ?_ ?_ ?_ ?_ ?_))
   ·intro u hu;simp at hu;subst hu;rfl
   ·unfold aP;omega
   ·omega
   ·simp;omega
   ·intro ap w3 al am _;have aq:=(ak.alloc (by omega) _).trans (Gy O2 (by simp;omega) am);have O3:w3.ownsRow base 5 1 ap (bs.length+(s.size+2)) (Et (bs++3::(s.data.toList++[0]))):=by
     rw[show bs++3::(s.data.toList++[0])=((bs++[3])++s.data.toList)++[0]from by simp,Ih,Ih (bs++[3]),show bs.length+(s.size+2)=bs.length+1+s.size+1 from by omega,bJ];exact al
    clear O2 N2 al am ak;go_wp2;go_ret;exact⟨_,rfl,O3,aq⟩
theorem Ai6 (v)(hg:good v=U)(kv)(bs)(base)(w)(aa:w.ownsRow base 5 1 kv bs.length (Et bs))
  (hb:base≤w.heap.size) (ab:bs.length+10≤140737488355328):
  aV aA 252 #[kv,v.val] w fun e w'=>∃ac,e=aE ac∧w'.ownsRow base 5 1 ac (bs++keyOf v).length (Et (bs++keyOf v))∧Below base w w':=by
 obtain⟨k,n,s⟩:=v;unfold good at hg;simp only at hg
 by_cases h0:k=0
 ·subst h0;have e:(bs++keyOf ⟨0,n,s⟩).length=bs.length+1:=by rw[Ew rfl];simp
  rw[e,Ew rfl];exact Aad n s kv bs base w aa hb ab
 by_cases h1:k=1
 ·subst h1;simp at hg;have e:(bs++keyOf ⟨1,n,s⟩).length=bs.length+5:=by rw[Fy rfl];simp[be4]
  rw[e,Fy rfl];exact Abs n s kv bs base w aa hb ab (by omega) (by omega)
 by_cases h2:k=2
 ·subst h2;simp at hg;have:=Afl n s kv bs base w aa hb ab (by omega);have e:(bs++keyOf ⟨2,n,s⟩).length=bs.length+(s.size+2):=by rw[Hi rfl,aN,aZ,aN,Dp];rfl
  rw[e,Hi rfl];exact this
 ·simp[h0,h1,h2]at hg
theorem Aap {w}{base n}{kv}{bs}(aa:w.ownsRow base 5 1 kv n (Et bs))(hn:n=bs.length):
  (convert 302 9 kv).run aA w=.ok (Y (str bs)) w:=by
 subst hn;rcases aa.2 with⟨rfl,h0⟩|⟨g,c,cur,rfl,_,_,_⟩
 ·obtain rfl:bs=[]:=by grind
  exact run_convert_bytes_nil w 302 5 bQ gT 0 0 9 bG
 ·refine run_convert_bytes_back w 302 9 5 _ c bs bQ gT bG fun j hj=>?_
  exact aa.cells rfl j _ (by simp[Et,hj])
def Bc (L:List V):List UInt8×Int:=if L.all good then(Dy L,0)else([],1)
theorem I6 {L}(h:∀v∈L,good v=U):Bc L=(Dy L,0):=by
 have:L.all good=U:=by simpa using h
 simp[Bc,this]
theorem Ar3 {L}{v}(hv:v∈L)(h:good v=aL):Bc L=([],1):=by
 have:L.all good=aL:=by rw[gM];exact⟨v,hv,by grind⟩
 simp[Bc,this]
theorem Akq {L:List V}{k}{v}(h:L[k]?=J v):L.take (k+1)=L.take k++[v]:=by
 rw[bM,h];rfl
theorem Ayd (L:List V)(b ad cap:Nat)(w:aR)(hL:Nv w b ad L)(hb:b<w.heap.size)(an:L.length*32≤140737488351232)(ah:∀v∈L,v.s.size≤aP):
  aV aA 195 #[Q (J ⟨b,ad,O⟩) L.length cap] w fun e w'=>e=aE (eF #[Y (str (Bc L).1),aO aW (Bc L).2])∧Below w.heap.size w w':=by
 go_enter Tryz.func195,Tryz.ntmps195;go_wp2
 go_loopw[4,9] (fun kv i wr=>∃k:Nat,k≤L.length∧i=aO aW k∧(∀v∈L.take k,good v=U)∧wr.ownsRow w.heap.size 5 1 kv (Dy (L.take k)).length (Et (Dy (L.take k)))∧Below w.heap.size w wr) (fun _ i _=>L.length-(cL i).toNat)
 case atStart=>exact⟨0,aX _,rfl,by simp,cK _ _ _ _,aI _ _⟩
 case round=>
  obtain⟨k,hk,rfl,aa,ac,ab⟩:=hrel
  by_cases ai:k<L.length
  ·obtain⟨v,hv⟩:∃v,L[k]?=J v:=⟨_,aD ai⟩;obtain⟨c0,c1,c2⟩:=hL.below ab hb k v hv;have hs:=ah v (aT hv);have ae:=ab.size;have ap:=Aqe _ aa;have aq:(L.take k).length≤k:=List.length_take_le _ _;have HG:Hid _:=aa;have HV:Hid _:=hv;clear aa hv;cases hg:good v
   ·go_wp2_with(refine(Mn v _ hs).mono ?_;rintro e w' ⟨rfl,rfl⟩);go_ret2;refine⟨?_,(ab.alloc ae _).alloc (by simp;omega) _⟩;rw[Ar3 (aT HV.out) hg];rfl
   ·go_wp2_with(first|(refine(Mn v _ hs).mono ?_;rintro e w' ⟨rfl,rfl⟩)|(refine(Ai6 v hg _ _ _ _ ((ac.alloc _).alloc _) ?_ ?_).mono ?_))
    ·simp;omega
    ·omega
    ·rintro e w1 ⟨aj,rfl,af,ag⟩;have ak:=((ab.alloc ae _).alloc (by simp;omega) _).trans ag;have ht:=Akq HV.out;have al:w1.ownsRow w.heap.size 5 1 aj (Dy (L.take (k+1))).length (Et (Dy (L.take (k+1)))):=by rw[ht,Aud];exact af
     have am:Hid (∀v∈L.take (k+1),good v=U):=by
      rw[ht];intro x hx;simp at hx;rcases hx with hx|rfl
      ·exact HG.out x hx
      ·omega
     clear af ag ac ab ht;go_wp2;go_roundw
     case rel=>exact⟨_,by omega,by rfl,am.out,al,ak⟩
     case measure=>simp[cL];omega
  ·have e:L.take k=L:=eA (by omega);rw[e]at ac aa;have hc:=Aap ac rfl;have HA:Hid _:=I6 aa;clear aa e;go_wp2;go_ret2;exact⟨by rw[HA.out];rfl,ab⟩
theorem Aye (ao)(cap)(w):
  aV aA 195 #[Q ao 0 cap] w fun e w'=>e=aE (eF #[Y (str (Bc []).1),aO aW (Bc []).2])∧Below w.heap.size w w':=by
 go_enter Tryz.func195,Tryz.ntmps195;go_wp2;refine eS 1 ?_;rw[dJ];have hc:=Aap (cK w w.heap.size 5 1) (bs:=[]) rfl;go_wp2;go_ret2;exact⟨rfl,aI _ _⟩
end
section
structure ColD where
 name:Wd
 ty:Int
 must:Bool
structure Stm where
 kind:Int
 name:Wd
 table:Wd
 col:Wd
 cols:List ColD
 rows:List (List E)
 sets:List (Wd×E)
 frm:List Wd
 out:List E
 wher:E
 order:List E
 down:Bool
 n:Int
def Stm.nil:Stm:=⟨0,noW,noW,noW,[],[],[],[],[],E.nil,[],aL,0⟩
def Aj (k:Int):Stm:=⟨k,noW,noW,noW,[],[],[],[],[],E.nil,[],aL,-1⟩
end
section
open Go.RowKit
structure Elem (α:Type) where
 size:Nat
 R:(Nat→Prop)→aR→α→List Z→Prop
 len:∀{F w a c},R F w a c→c.length=size
 keep:∀{F w w' a c},Keeps F w w'→R F w a c→R F w' a c
 mono:∀{F F':Nat→Prop}{w a c},(∀k,k<w.heap.size→F k→F' k)→R F w a c→R F' w a c
def All {α:Type}(K:Elem α)(F:Nat→Prop)(w:aR):List α→List Z→Prop
 |[],cs=>cs=[]
 |a::l,cs=>∃c rest,cs=c++rest∧K.R F w a c∧All K F w l rest
theorem All.keep {α}{K}{F}{w w'}(hk:Keeps F w w'):∀{l:List α}{cs:List Z},All K F w l cs→All K F w' l cs
 |[],cs,h=>h
 |a::l,cs,h=>by
  obtain⟨c,rest,h1,h2,h3⟩:=h;exact⟨c,rest,h1,K.keep hk h2,All.keep hk h3⟩
theorem All.mono {α}{K}{F F'}{w}(hk:∀k,k<w.heap.size→F k→F' k):∀{l:List α}{cs:List Z},All K F w l cs→All K F' w l cs
 |[],cs,h=>h
 |a::l,cs,h=>by
  obtain⟨c,rest,h1,h2,h3⟩:=h;exact⟨c,rest,h1,K.mono hk h2,All.mono hk h3⟩
theorem All.append {α}{K}{F}{w}:∀{l m:List α}{cs ds:List Z},All K F w l cs→All K F w m ds→All K F w (l++m) (cs++ds)
 |[],m,cs,ds,h,k=>by have:cs=[]:=h;grind
 |a::l,m,cs,ds,h,k=>by
  obtain⟨c,rest,rfl,h2,h3⟩:=h;exact⟨c,_,by simp,h2,All.append h3 k⟩
theorem All.one {α}{K}{F}{w}{a:α}{c}(h:K.R F w a c):All K F w [a] c:=⟨c,[],by simp,h,rfl⟩
theorem All.length {α}{K}{F}{w}:∀{l:List α}{cs:List Z},All K F w l cs→cs.length=l.length*K.size
 |[],cs,h=>by have:cs=[]:=h;grind
 |a::l,cs,h=>by
  obtain⟨c,rest,rfl,h2,h3⟩:=h;have e1:=K.len h2;have e2:=All.length h3;grind
def IsL {α:Type}(K:Elem α)(F:Nat→Prop)(w:aR)(sv:Z)(l:List α):Prop:=∃cs,Bq F K.size w sv l.length cs∧All K F w l cs
theorem IsL.keep {α}{K}{F}{w w'}{sv}{l:List α}(h:IsL K F w sv l)(hk:Keeps F w w'):IsL K F w' sv l:=by
 obtain⟨cs,h1,h2⟩:=h;exact⟨cs,h1.keep hk,h2.keep hk⟩
theorem IsL.mono {α}{K}{F F'}{w}{sv}{l:List α}(h:IsL K F w sv l)(hk:∀k,k<w.heap.size→F k→F' k):IsL K F' w sv l:=by
 obtain⟨cs,h1,h2⟩:=h;exact⟨cs,h1.mono hk,h2.mono hk⟩
theorem IsL.shape {α}{K}{F}{w}{sv}{l:List α}(h:IsL K F w sv l):∃ao c,sv=Q ao l.length c:=by
 obtain⟨cs,h1,_⟩:=h;exact h1.shape
theorem IsL.nil {α}(K)(F)(w):IsL K F w (Q O 0 0) ([]:List α):=⟨[],Bq.nil F _ w,rfl⟩
theorem Ve {F}{w}{K}(hK:∀F w e c,K.R F w e c↔c.length=8∧IsE F w e (bU c.toArray)):∀{l:List E}{cs:List Z},All K F w l cs↔Fz F w l cs
 |[],cs=>by rfl
 |e::l,cs=>by
  rw[Fz];constructor
  ·rintro⟨c,rest,h1,h2,h3⟩;exact⟨c,rest,h1,((hK _ _ _ _).1 h2).1,((hK _ _ _ _).1 h2).2,(Ve hK).1 h3⟩
  ·rintro⟨c,rest,h1,h2,h3,h4⟩;exact⟨c,rest,h1,(hK _ _ _ _).2 ⟨h2,h3⟩,(Ve hK).2 h4⟩
def Az:Elem E where
 size:=8
 R F w e c:=c.length=8∧IsE F w e (bU c.toArray)
 len h:=h.1
 keep hk h:=⟨h.1,IsE.keep hk _ _ h.2⟩
 mono hk h:=⟨h.1,IsE.mono hk _ _ h.2⟩
theorem Akr {F}{w}{sv}{l}:IsL Az F w sv l↔I1 F w sv l:=
 ⟨fun⟨cs,h1,h2⟩=>⟨cs,h1,(Ve fun _ _ _ _=>Iff.rfl).1 h2⟩,fun⟨cs,h1,h2⟩=>⟨cs,h1,(Ve fun _ _ _ _=>Iff.rfl).2 h2⟩⟩
def H7:Elem (List E) where
 size:=1
 R F w l c:=∃sv,c=[sv]∧IsL Az F w sv l
 len h:=by grind
 keep hk h:=by obtain⟨sv,h1,h2⟩:=h;exact⟨sv,h1,h2.keep hk⟩
 mono hk h:=by obtain⟨sv,h1,h2⟩:=h;exact⟨sv,h1,h2.mono hk⟩
def Fc:Elem (Wd×E) where
 size:=9
 R F w s c:=∃d,c=Y s.1::d∧d.length=8∧IsE F w s.2 (bU d.toArray)
 len h:=by grind
 keep hk h:=by obtain⟨d,h1,h2,h3⟩:=h;exact⟨d,h1,h2,IsE.keep hk _ _ h3⟩
 mono hk h:=by obtain⟨d,h1,h2,h3⟩:=h;exact⟨d,h1,h2,IsE.mono hk _ _ h3⟩
def Nz:Elem Wd where
 size:=1
 R _ _ s c:=c=[Y s]
 len h:=by grind
 keep _ h:=h
 mono _ h:=h
def Cp:Elem ColD where
 size:=3
 R _ _ x c:=c=[Y x.name,aO aW x.ty,bF x.must]
 len h:=by grind
 keep _ h:=h
 mono _ h:=h
def I7 (c:List Z):Z:=bU c.toArray
def Afm (c:List Z):Z:=c.headD (bF aL)
theorem Fl {F}{w}{e}{c}(h:Az.R F w e c):∃op xk xn xs s name n ao k cap,c=[aO aW op,aO aW xk,aO aW xn,Y xs,Y s,Y name,aO aW n,Q ao k cap]:=by
 obtain⟨op,⟨xk,xn,xs⟩,s,name,n,ao,k,cap,h1⟩:=h.2.shape;grind
theorem Xv {F}{w}{l}{c}(h:H7.R F w l c):∃ao k cap,c=[Q ao k cap]:=by
 obtain⟨sv,rfl,h⟩:=h;obtain⟨ao,cap,rfl⟩:=h.shape;simp
theorem S5 {F}{w}{e}{c}(h:Fc.R F w e c):∃cn op xk xn xs s name n ao k cap,c=[Y cn,aO aW op,aO aW xk,aO aW xn,Y xs,Y s,Y name,aO aW n,Q ao k cap]:=by
 obtain⟨d,rfl,h1,h2⟩:=h;obtain⟨op,xk,xn,xs,s,name,n,ao,k,cap,rfl⟩:=Fl ⟨h1,h2⟩;simp
theorem Ag8 {F}{w}{e}{c}(h:Nz.R F w e c):∃s,c=[Y s]:=⟨e,h⟩
theorem Xw {F}{w}{e}{c}(h:Cp.R F w e c):∃s t m,c=[Y s,aO aW t,bF m]:=⟨e.name,e.ty,e.must,h⟩
theorem A1o (w:aR)(base)(t)(l)(size)(hl:l.length=size)(hb:base≤w.heap.size):(w.alloc (aG l.toArray t)).ownsRow base t size (Q (J ⟨w.heap.size,0,O⟩) 1 1) 1 l:=
 by subst hl;exact⟨by simp,.inr ⟨_,1,_,rfl,hb,Ab w _,aC _,by decide,by simp,by simp⟩⟩
abbrev FO (n:Nat)(z:Z):Nat→Prop:=fun k=>n≤k∧J k≠z.ownBlock
theorem Aaq {n}{z}{w w'}(hg:w.grownBy w' z.ownBlock):Keeps (FO n z) w w':=⟨hg.size,fun k hk hl=>hg.block k hl hk.2⟩
theorem Uj {n}{z z'}{w:aR}(h:z'.ownBlock=z.ownBlock∨z'.ownBlock=J w.heap.size):∀k,k<w.heap.size→FO n z k→FO n z' k:=by grind
def Ar4 (kind:Int)(name table col:Wd)(cols rows sets frm out:Z)(w8:List Z)(order:Z)(down:Bool)(n:Int):List Z:=
 [aO aW kind,Y name,Y table,Y col,cols,rows,sets,frm,out]++w8++[order,bF down,aO aW n]
structure IsS (F:Nat→Prop) (w:aR) (s:Stm) (c:List Z):Prop where
 is:∃cols rows sets frm out w8 order,c=Ar4 s.kind s.name s.table s.col cols rows sets frm out w8 order s.down s.n∧w8.length=8∧IsL Cp F w cols s.cols∧IsL H7 F w rows s.rows∧IsL Fc F w sets s.sets∧IsL Nz F w frm s.frm∧IsL Az F w out s.out∧IsE F w s.wher (bU w8.toArray)∧IsL Az F w order s.order
def Ie:Elem Stm where
 size:=20
 R:=IsS
 len h:=by obtain⟨cols,rows,sets,frm,out,w8,order,rfl,h8,_⟩:=h.is;simp[Ar4,h8]
 keep hk h:=by
  obtain⟨cols,rows,sets,frm,out,w8,order,h1,h2,h3,h4,h5,h6,h7,h8,h9⟩:=h.is;exact⟨cols,rows,sets,frm,out,w8,order,h1,h2,h3.keep hk,h4.keep hk,h5.keep hk,h6.keep hk,h7.keep hk,IsE.keep hk _ _ h8,h9.keep hk⟩
 mono hk h:=by
  obtain⟨cols,rows,sets,frm,out,w8,order,h1,h2,h3,h4,h5,h6,h7,h8,h9⟩:=h.is;exact⟨cols,rows,sets,frm,out,w8,order,h1,h2,h3.mono hk,h4.mono hk,h5.mono hk,h6.mono hk,h7.mono hk,IsE.mono hk _ _ h8,h9.mono hk⟩
abbrev sA (kind:Int)(name table col:Wd)(cols rows sets frm out:Z)(op xk xn:Int)(xs s nmv:Wd)(n8:Int)(sl order:Z)(down:Bool)(n:Int):Array Z:=
 #[aO aW kind,Y name,Y table,Y col,cols,rows,sets,frm,out,aO aW op,aO aW xk,aO aW xn,Y xs,Y s,Y nmv,aO aW n8,sl,order,bF down,aO aW n]
abbrev Bn:Array Z:=sA 0 noW noW noW (Q O 0 0) (Q O 0 0) (Q O 0 0) (Q O 0 0) (Q O 0 0) 0 0 0 noW noW noW 0 (Q O 0 0) (Q O 0 0) aL 0
abbrev Uk (k:Int):Array Z:=sA k noW noW noW (Q O 0 0) (Q O 0 0) (Q O 0 0) (Q O 0 0) (Q O 0 0) 0 0 0 noW noW noW 0 (Q O 0 0) (Q O 0 0) aL (-1)
def Hk (v:Z):Prop:=∃ao n c,v=Q ao n c
theorem Ca (ao)(n c):Hk (Q ao n c):=⟨ao,n,c,rfl⟩
theorem P0 {kind}{name table col}{cols rows sets frm out}{op xk xn}{xs s nmv}{n8}{sl order}{down}{n}(h1:Hk cols)(h2:Hk rows)(h3:Hk sets)(h4:Hk frm)(h5:Hk out)(h6:Hk sl)(h7:Hk order):
  (sA kind name table col cols rows sets frm out op xk xn xs s nmv n8 sl order down n).all (·.oneCell')=U:=by
 obtain⟨_,_,_,rfl⟩:=h1;obtain⟨_,_,_,rfl⟩:=h2;obtain⟨_,_,_,rfl⟩:=h3;obtain⟨_,_,_,rfl⟩:=h4;obtain⟨_,_,_,rfl⟩:=h5;obtain⟨_,_,_,rfl⟩:=h6;obtain⟨_,_,_,rfl⟩:=h7;simp[dL]
theorem Gh {α}{K}{F}{w}{sv}{l:List α}(h:IsL K F w sv l):Hk sv:=by obtain⟨ao,c,rfl⟩:=h.shape;exact Ca _ _ _
theorem N0 {F}{w}{kind}{name table col}{cols rows sets frm out}{op xk xn}{xs s aa:Wd}{n8}{sl order}{down}{n}{lc}{lr}{ls}{lf}{lo}{e}{ld}
  (h1:IsL Cp F w cols lc) (h2:IsL H7 F w rows lr) (h3:IsL Fc F w sets ls) (h4:IsL Nz F w frm lf) (h5:IsL Az F w out lo) (h6:IsE F w e (bU (Af op ⟨xk,xn,xs⟩ s aa n8 sl))) (h7:IsL Az F w order ld):
  Ie.R F w ⟨kind,name,table,col,lc,lr,ls,lf,lo,e,ld,down,n⟩ (sA kind name table col cols rows sets frm out op xk xn xs s aa n8 sl order down n).toList:=
 ⟨cols,rows,sets,frm,out,(Af op ⟨xk,xn,xs⟩ s aa n8 sl).toList,order,rfl,rfl,h1,h2,h3,h4,h5,h6,h7⟩
theorem Bb {F}{w}{st}{c}(h:Ie.R F w st c):∃o1 c1 o2 c2 o3 c3 o4 c4 o5 c5 op xk xn xs s aa n8 o6 k6 c6 o7 c7,
  c=(sA st.kind st.name st.table st.col (Q o1 st.cols.length c1) (Q o2 st.rows.length c2) (Q o3 st.sets.length c3) (Q o4 st.frm.length c4) (Q o5 st.out.length c5) op xk xn xs s aa n8 (Q o6 k6 c6) (Q o7 st.order.length c7) st.down st.n).toList∧
  IsL Cp F w (Q o1 st.cols.length c1) st.cols∧IsL H7 F w (Q o2 st.rows.length c2) st.rows∧IsL Fc F w (Q o3 st.sets.length c3) st.sets∧IsL Nz F w (Q o4 st.frm.length c4) st.frm∧IsL Az F w (Q o5 st.out.length c5) st.out∧IsE F w st.wher (bU (Af op ⟨xk,xn,xs⟩ s aa n8 (Q o6 k6 c6)))∧IsL Az F w (Q o7 st.order.length c7) st.order:=by
 obtain⟨cols,rows,sets,frm,out,w8,order,hc,h8,h1,h2,h3,h4,h5,h6,h7⟩:=h.is;obtain⟨o1,c1,rfl⟩:=h1.shape;obtain⟨o2,c2,rfl⟩:=h2.shape;obtain⟨o3,c3,rfl⟩:=h3.shape;obtain⟨o4,c4,rfl⟩:=h4.shape;obtain⟨o5,c5,rfl⟩:=h5.shape;obtain⟨o7,c7,rfl⟩:=h7.shape;obtain⟨op,xk,xn,xs,s,aa,n8,o6,k6,c6,rfl⟩:=Fl ⟨h8,h6⟩;exact⟨o1,c1,o2,c2,o3,c3,o4,c4,o5,c5,op,xk,xn,xs,s,aa,n8,o6,k6,c6,o7,c7,hc,h1,h2,h3,h4,h5,h6,h7⟩
theorem upd {w:aR}{b}{arr}{t}(h:w.heap[b]?=J (aG arr t))(i)(v):(w.setCell ⟨b,i,O⟩ v).heap[b]?=J (aG (arr.setIfInBounds i v) t):=by
 simp only[fM,cC,if_true,h];rfl
theorem D4:(Tryz.prog.info? 50).map (·.size)=J 20:=by kernel_rfl
theorem Ao {w:aR}{g}{old cells}{t}(h:w.heap[g]?=J (aG old t)):(w.setRow g cells).heap[g]?=J (aG cells t):=by
 simp only[dG,cC,if_true,h];rfl
theorem Bz {w:aR}{g b}{x}(h:w.heap[b]?=J x)(hn:b≠g)(cells):(w.setRow g cells).heap[b]?=J x:=by
 simp only[dG,cC];grind
theorem Below.row {B}{w w'}(h:Below B w w'){b}(hb:B≤b)(cells):Below B w (w'.setRow b cells):=
 ⟨h.os,h.tape,h.output,by simp[dG];exact h.size,fun k hk=>by
  have:=h.block k hk;simp only[dG,cC];grind⟩
theorem Keeps.row {F}{w w'}(h:Keeps F w w'){b}(hb:¬F b)(cells):Keeps F w (w'.setRow b cells):=
 ⟨by simp[dG];exact h.size,fun k hk hl=>by
  have:=h.block k hk hl;simp only[dG,cC];grind⟩
theorem Dq {P}{fn}{p q:Tmp}{ty}(h:fn.results=#[.cell p ty,.tmp q])(tmps:Array Z)(w)(g)(t)(cs)(fr)(d)(v)
  (hp:tmps.getD p undef=eD (J ⟨g,0,O⟩)) (hq:tmps.getD q undef=v) (hg:w.heap[g]?=J (aG cs t fr))
  (hu:P.underlying ty=J d) (hd:(match d with|.struct _|.array _ _=>U|_=>aL)=U) (hi:(P.info? ty).map (·.size)=J cs.size):
  (fK fn tmps).run P w=.ok (eF #[bU cs,v]) w:=by
 have aa:tmps[p]?.getD undef=eD (J ⟨g,0,O⟩):=by simpa using hp
 have ab:tmps[q]?.getD undef=v:=by simpa using hq
 simp[fK,h,aa,ab,asAddr,run_loadVar_row w g t ty cs fr d hg hu hd hi]
def Bk (p:Nat→Bool):Nat→Nat→Int
 |_,0=> -1
 |i,n+1=>if p i then(i:Int)else Bk p (i+1) n
def B6 (p:Nat→Bool):Nat→Nat→Bool
 |_,0=>aL
 |i,n+1=>p i||B6 p (i+1) n
theorem Zt (p):∀(n i:Nat),B6 p i n=decide (0≤Bk p i n)
 |0,i=>by rfl
 |n+1,i=>by
  rw[B6,Bk,Zt p n _];grind
theorem L7 (p)(k n)(h:k<n):Bk p k (n-k)=if p k then(k:Int)else Bk p (k+1) (n-(k+1)):=by
 rw[show n-k=(n-(k+1))+1 from by omega,Bk]
structure IdxD where
 name:Wd
 table:Wd
 col:Wd
def Eb:Elem IdxD where
 size:=3
 R _ _ x c:=c=[Y x.name,Y x.table,Y x.col]
 len h:=by grind
 keep _ h:=h
 mono _ h:=h
def Oz:Elem Int where
 size:=1
 R _ _ x c:=c=[aO aW x]
 len h:=by grind
 keep _ h:=h
 mono _ h:=h
structure TabD where
 name:Wd
 cols:List ColD
def Ck:Elem TabD where
 size:=2
 R F w x c:=∃sv,c=[Y x.name,sv]∧IsL Cp F w sv x.cols
 len h:=by grind
 keep hk h:=by obtain⟨sv,h1,h2⟩:=h;exact⟨sv,h1,h2.keep hk⟩
 mono hk h:=by obtain⟨sv,h1,h2⟩:=h;exact⟨sv,h1,h2.mono hk⟩
theorem Ul {α}{K}{F}{w}:∀{l:List α}{cs:List Z}{i:Nat}{x:α},All K F w l cs→l[i]?=J x→∃c,K.R F w x c∧∀j u,c[j]?=J u→cs[i*K.size+j]?=J u
 |a::l,cs,0,x,h,hx=>by
  obtain⟨c,rest,rfl,h2,_⟩:=h;grind
 |a::l,cs,i+1,x,h,hx=>by
  obtain⟨c,rest,rfl,h2,h3⟩:=h;simp only[cY]at hx;obtain⟨d,d1,d2⟩:=Ul h3 hx;refine⟨d,d1,fun j u hj=>?_⟩;have:=K.len h2;grind
 |[],_,_,_,_,hx=>by grind
theorem At {α}{K}{F}{w}{ao}{n c}{l}(h:IsL K F w (Q ao n c) l){i}{x:α}(hx:l[i]?=J x):
  ∃b aa cs,ao=J ⟨b,aa,O⟩∧F b∧b<w.heap.size∧K.R F w x cs∧∀j u,cs[j]?=J u→w.cell? ⟨b,aa+i*K.size+j,O⟩=J u:=by
 obtain⟨cs,hr,ha⟩:=h;obtain⟨d,d1,d2⟩:=Ul ha hx;have hi:=(aF.1 hx).1;rcases hr.2 with⟨h0,_⟩|⟨_,b,aa,cap,he,hF,hb,_,_,hc⟩
 ·omega
 grind
theorem D5 {α}{K}{F}{w}{ao}{n c}{l:List α}(h:IsL K F w (Q ao n c) l):n=l.length∧l.length≤aP:=by
 obtain⟨cs,hr,_⟩:=h;rcases hr.2 with⟨h0,ao',c',he,_⟩|⟨_,b,off,cap,he,_,_,h1,h2,_⟩
 ·grind
 grind
end
section
open Go.RowKit Go.Maps
theorem Abt:Keyed aA 9:=string_keyed bG
theorem Aqi (w):(zeroValue 3).run aA w=.ok (aO aW 0) w:=by simp
def Mo (N:List Wd)(s:Wd):Nat:=N.countP fun x=>decide (x=s)
theorem Auo (N)(s t):Mo (N++[s]) t=Mo N t+if s=t then 1 else 0:=by
 unfold Mo;simp
theorem A1p (N)(s):Mo N s≤N.length:=List.countP_le_length
theorem Ayf (N)(s):0<Mo N s↔s∈N:=by
 unfold Mo;simp
def N3 (N:List Wd)(s:Wd):Bool:=N.any fun x=>decide (x=s)
theorem Ayg (N)(s):N3 N s=U↔s∈N:=by simp[N3]
def Cnt (w:aR)(b:Nat)(N:List Wd):Prop:=
 ∃(D:DataW Unit),w.ownsMap aA 9 (plainElem aA 3) b N.length D∧IsMap D∧∀s:Wd,s.size≤aP→D.atKey (.string s.data.toList) (.lit (.int .i64 0))=.lit (.int .i64 (Mo N s:Nat))
theorem Abu (w:aR):Cnt (w.alloc (.map #[] 0)) w.heap.size []:=
 ⟨.map [],World.ownsMap_made _ _ _ _,isMap_empty,fun _ _=>rfl⟩
theorem Cnt.lt {w}{b}{N}(h:Cnt w b N):b<w.heap.size:=by obtain⟨D,h1,_⟩:=h;exact h1.lt
theorem Cnt.kept {w w'}{b}{N}{row}(h:Cnt w b N)(hg:w.grownBy w' row)(aa:J b≠row):Cnt w' b N:=by
 obtain⟨D,h1,h2⟩:=h;exact⟨D,h1.kept hg aa,h2⟩
theorem Ar5 {w w'}(h:Below w.heap.size w w'):w.grownBy w' O:=⟨h.os,h.tape,h.output,h.size,fun k hk _=>h.block k hk⟩
theorem Cnt.below {w w'}{b}{N}(h:Cnt w b N)(hb:Below w.heap.size w w'):Cnt w' b N:=h.kept (Ar5 hb) (by simp)
theorem Xx (b:Nat)(N:List Wd)(s:Wd)(w:aR)(h:Cnt w b N)(hs:s.size≤aP)(hN:N.length≤16777216):
  aV aA 232 #[.map (J b),Y s] w fun e w'=>e=aE (bF (N3 N s))∧Cnt w' b (N++[s])∧w.grownBy w' (J b):=by
 obtain⟨D,ae,aa,hD⟩:=h;have ab:Go.keyOf aA 9 (.string s)=J (.string s.data.toList):=WideMaps.keyOf_string_mk bG hs;have ah:=A1p N s;obtain⟨c1,ai,af,_⟩:=ae.lookup_int Abt eP bR (Aqi _) ab;have aj:c1=(Mo N s:Nat):=by
  have:=hD s hs;rw[af]at this;simpa using this
 subst aj;have ak:wrap64 ((Mo N s:Int)+1)=(Mo N s:Int)+1:=by
  unfold wrap64;omega
 have al:Hid (N3 N s=decide ((1:Int)<(Mo N s:Int)+1)):=by
  show _=_;rw[eC,Ayg,decide_eq_true_eq,←Ayf];omega
 have HD:Hid (∀t:Wd,t.size≤aP→(D.put (.string s.data.toList) (.lit (.int .i64 ((Mo N s:Int)+1)))).atKey (.string t.data.toList) (.lit (.int .i64 0))=.lit (.int .i64 (Mo (N++[s]) t:Nat))):=by
  intro t ht;rw[Auo]
  by_cases ac:s=t
  ·subst ac;rw[atKey_put_same aa (k:=.string s.data.toList) (show True from trivial),if_pos rfl];simp
  ·rw[atKey_put_other (fun e=>ac (by
    have:t.data.toList=s.data.toList:=by simpa using e
    exact(gF (gQ.1 this)).symm)),hD t ht,if_neg ac]
   simp
 have am:IsMap (D.put (.string s.data.toList) (.lit (.int .i64 ((Mo N s:Int)+1)))):=aa.put _ _;have an:Hid (IsMap D):=aa;generalize ap:Mo N s=cc at*;clear ap hD af ah aa;go_enter Tryz.func232,Tryz.ntmps232;have aq:plainElem (H:=Unit) aA 3 (.int .i64 (wrap64 ((cc:Int)+1)))=J (.lit (.int .i64 ((cc:Int)+1)),[]):=by
  rw[plainElem_int bR (wrap64_wf _),ak]
 go_wp2_with(at_mapUpdate;refine wpList_mapUpdate_own _ rfl _ _ _ 284 rfl 9 3 Abt eP _ b N.length _ rfl ae (by unfold aP;omega) _ _ _ rfl rfl ab (.lit (.int .i64 ((cc:Int)+1))) [] aq ?_);intro w1 ag ar;obtain⟨c2,av,ad,_⟩:=ag.lookup_int Abt eP bR (Aqi _) ab;have au:=by
  rw[atKey_put_same an.out (k:=.string s.data.toList) (show True from trivial)]at ad;simpa using ad.symm
 subst au;clear ad ai;go_wp2;go_ret;exact⟨Ah (by rw[al.out]),⟨_,by rw[aN];exact ag,am,HD.out⟩,ar⟩
end
section
abbrev Ayh:Wd:=⟨#[97,110,100]⟩
abbrev kBy:Wd:=⟨#[98,121]⟩
abbrev Jj:Wd:=⟨#[99,114,101,97,116,101]⟩
abbrev M8:Wd:=⟨#[100,101,108,101,116,101]⟩
abbrev Zu:Wd:=⟨#[100,101,115,99]⟩
abbrev S6:Wd:=⟨#[100,114,111,112]⟩
abbrev Vf:Wd:=⟨#[102,114,111,109]⟩
abbrev Xy:Wd:=⟨#[105,110,100,101,120]⟩
abbrev M9:Wd:=⟨#[105,110,115,101,114,116]⟩
abbrev Tu:Wd:=⟨#[105,110,116]⟩
abbrev Aj3:Wd:=⟨#[105,110,116,111]⟩
abbrev kIs:Wd:=⟨#[105,115]⟩
abbrev Ry:Wd:=⟨#[108,105,109,105,116]⟩
abbrev Vg:Wd:=⟨#[109,117,115,116]⟩
abbrev N4:Wd:=⟨#[110,111,116]⟩
abbrev Fw:Wd:=⟨#[110,117,108,108]⟩
abbrev kOn:Wd:=⟨#[111,110]⟩
abbrev kOr:Wd:=⟨#[111,114]⟩
abbrev N5:Wd:=⟨#[111,114,100,101,114]⟩
abbrev Na:Wd:=⟨#[115,101,108,101,99,116]⟩
abbrev Ar6:Wd:=⟨#[115,101,116]⟩
abbrev Ka:Wd:=⟨#[116,97,98,108,101]⟩
abbrev Zv:Wd:=⟨#[116,101,120,116]⟩
abbrev Nb:Wd:=⟨#[117,112,100,97,116,101]⟩
abbrev Zw:Wd:=⟨#[118,97,108,117,101,115]⟩
abbrev N7:Wd:=⟨#[119,104,101,114,101]⟩
abbrev Dl:Wd:=⟨#[40]⟩
abbrev Dc:Wd:=⟨#[41]⟩
abbrev Zx:Wd:=⟨#[42]⟩
abbrev A1e:Wd:=⟨#[43]⟩
abbrev Em:Wd:=⟨#[44]⟩
abbrev Gf:Wd:=⟨#[45]⟩
abbrev K6:Wd:=⟨#[46]⟩
abbrev Oa:Wd:=⟨#[59]⟩
abbrev kLt:Wd:=⟨#[60]⟩
abbrev kEq:Wd:=⟨#[61]⟩
def Ce (c:UInt8):Bool:=decide (97≤c.toNat)&&decide (c.toNat≤122)
def Bo (c:UInt8):Bool:=decide (48≤c.toNat)&&decide (c.toNat≤57)
def Nc (w:Wd):Bool:=
 decide (w=Ayh)||decide (w=kBy)||decide (w=Jj)||decide (w=M8)||decide (w=Zu)||decide (w=S6)||decide (w=Vf)||decide (w=Xy)||decide (w=M9)||decide (w=Tu)||decide (w=Aj3)||decide (w=kIs)||decide (w=Ry)||decide (w=Vg)||decide (w=N4)||decide (w=Fw)||decide (w=kOn)||decide (w=kOr)||decide (w=N5)||decide (w=Na)||decide (w=Ar6)||decide (w=Ka)||decide (w=Zv)||decide (w=Nb)||decide (w=Zw)||decide (w=N7)
def nm (w:Wd):Bool:=decide (1≤w.size)&&decide (w.size≤8)&&w.data.toList.all Ce&& !Nc w
def I8 (f:UInt8→Bool)(l:List UInt8):Nat:=(l.takeWhile f).length
theorem O0 {f:UInt8→Bool}:∀{l:List UInt8}{k:Nat},(l.take k).all f=U→(∀c,l[k]?=J c→f c=aL)→k≤l.length→I8 f l=k
 |[],k,_,_,h=>by simp at h;subst h;rfl
 |c::l,0,_,h,_=>by have:=h c rfl;simp[I8,this]
 |c::l,k+1,h1,h2,h3=>by
  simp at h1;have:=O0 (f:=f) (l:=l) (k:=k) (by simpa using h1.2) (fun x hx=>h2 x (by simpa using hx)) (by simpa using h3);simp only[I8,List.takeWhile_cons,h1.1,if_true,aZ]at this⊢;omega
theorem Afn (f)(l):I8 f l≤l.length:=(List.takeWhile_prefix f).length_le
theorem Xz (f)(l:List UInt8):(l.take (I8 f l)).all f=U:=by
 induction l with
 |nil=>rfl
 |cons c l ih=>
  unfold I8 at ih⊢;cases h:f c
  ·simp[h]
  simp_all
end
section
open Go.RowKit
def Rj (c:Int):Bool:=decide (97≤c)&&decide (c≤122)
def Um (c:Int):Bool:=decide (48≤c)&&decide (c≤57)
theorem Vh (c):Rj (c.toNat:Int)=Ce c:=by simp only[Rj,Ce];grind
theorem S7 (c):Um (c.toNat:Int)=Bo c:=by simp only[Um,Bo];grind
theorem Vi (c)(w):aV aA 72 #[aO .u8 c] w fun e w'=>e=aE (bF (Rj c))∧w'=w:=by
 by_cases h1:97≤c<;>by_cases h2:c≤122
 all_goals
  go_enter Tryz.func72,Tryz.ntmps72;go_wp2
  all_goals
   go_ret;exact⟨Ah (by simp_all [Rj]),rfl⟩
theorem Xd {f}{s:ByteArray}{k}(h)(h1:(s.data.toList.take k).all f=U)(h2:f s[k]=U):(s.data.toList.take (k+1)).all f=U:=by
 rw[Agt s k h];grind
theorem Aks {s:ByteArray}{k}(h:k<s.size):s.data.toList[k]?=J s[k]:=by
 rw[aD (by simpa using h)];rfl
theorem Rz (s)(w)(hs:s.size≤aP):aV aA 73 #[.func (.func 72) #[] #[],.string s] w fun e w'=>e=.returned (.int .i64 (I8 Ce s.data.toList:Nat))∧w'=w:=by
 unfold aP at hs;go_enter Tryz.func73,Tryz.ntmps73;go_wp2
 go_loop [5] (fun i=>∃k,k≤s.size∧i=.int .i64 k∧Hid ((s.data.toList.take k).all Ce=U)) (fun i=>s.size-(cL i).toNat)
 case atStart=>exact⟨0,aX _,rfl,rfl⟩
 case round=>
  obtain⟨k,hk,rfl,HG⟩:=hrel
  by_cases aa:k<s.size
  ·cases hc:Ce s[k]
   ·have ab:Rj (s[k].toNat:Int)=aL:=by rw[Vh];exact hc
    have HE:Hid _:=O0 HG.out (fun c h=>by rw[Aks aa]at h;grind) (by simp_all);clear hc;go_wp2_with(refine(Vi _ _).mono ?_;rintro e w' ⟨rfl,rfl⟩);go_ret;exact⟨Av (by rw[HE.out]),rfl⟩
   ·have ab:Rj (s[k].toNat:Int)=U:=by rw[Vh];exact hc
    have HN:Hid _:=Xd aa HG.out hc;clear hc;go_wp2_with(refine(Vi _ _).mono ?_;rintro e w' ⟨rfl,rfl⟩);go_round
    case rel=>grind
    case measure=>simp[cL];omega
  ·have HE:Hid _:=O0 HG.out (fun c h=>by simp_all) (by simp_all);go_wp2;go_ret;exact⟨Av (by rw[HE.out]),rfl⟩
theorem Aup (w:Wd)(l):(w.toList==l)=decide (w=⟨l.toArray⟩):=by
 rw[fL,eC,beq_iff_eq,decide_eq_true_eq];constructor
 ·intro h;have:=congrArg List.toArray h;cases w;simpa using this
 grind
theorem Akt (w):Nc w=(w.toList==[97,110,100]||w.toList==[98,121]||w.toList==[99,114,101,97,116,101]||w.toList==[100,101,108,101,116,101]||w.toList==[100,101,115,99]||w.toList==[100,114,111,112]||w.toList==[102,114,111,109]||w.toList==[105,110,100,101,120]||w.toList==[105,110,115,101,114,116]||w.toList==[105,110,116]||w.toList==[105,110,116,111]||w.toList==[105,115]||w.toList==[108,105,109,105,116]||w.toList==[109,117,115,116]||w.toList==[110,111,116]||w.toList==[110,117,108,108]||w.toList==[111,110]||w.toList==[111,114]||w.toList==[111,114,100,101,114]||w.toList==[115,101,108,101,99,116]||w.toList==[115,101,116]||w.toList==[116,97,98,108,101]||w.toList==[116,101,120,116]||w.toList==[117,112,100,97,116,101]||w.toList==[118,97,108,117,101,115]||w.toList==[119,104,101,114,101]):=by
 simp only[Aup];rfl
theorem Aku (s)(w):aV aA 222 #[Y s] w fun e w'=>e=aE (bF (Nc s))∧w'=w:=by
 have hr:=Akt s;generalize Nc s=b at hr⊢;have HR:Hid _:=hr;clear hr;go_enter Tryz.func222,Tryz.ntmps222;go_wp2
 all_goals first
  |(exfalso;grind)
  |(go_ret;refine⟨Ah ?_,rfl⟩;rw[HR.out];simp[*];done)
theorem A1q {f}{l}:(decide (I8 f l=l.length))=l.all f:=by
 rw[eC,decide_eq_true_eq];constructor
 ·intro h;have:=Xz f l;grind
 ·intro h;exact O0 (by grind) (fun c hc=>by grind) (aC _)
theorem K7 (s)(w)(hs:s.size≤aP):aV aA 145 #[Y s] w fun e w'=>e=aE (bF (nm s))∧w'=w:=by
 have ab:=hs;unfold aP at ab;have hn:nm s=(decide (1≤s.size)&&decide (s.size≤8)&&decide (I8 Ce s.data.toList=s.size)&& !Nc s):=by
  rw[show decide (I8 Ce s.data.toList=s.size)=decide (I8 Ce s.data.toList=s.data.toList.length)from by rfl,A1q];rfl
 generalize nm s=b at hn⊢;have HN:Hid _:=hn;clear hn
 by_cases h1:1≤s.size
 ·by_cases h2:s.size≤8
  ·have aa:=Afn Ce s.data.toList;rw[Dp]at aa
   by_cases h3:I8 Ce s.data.toList=s.size
   ·have RO:=Rz s w hs;generalize I8 Ce _=n at RO HN h3 aa;subst h3;have RV:=Aku s w;generalize Nc s=r at RV HN;have b1:(1:Int)≤s.size:=by omega
    have b2:(s.size:Int)≤8:=by omega
    have b3:(s.size==(s.size:Int))=U:=beq_self_eq_true _;cases r
    all_goals
     go_enter fA,eO;go_wp2_with(first
      |(go_fit RO;rintro e w' ⟨rfl,rfl⟩)
      |(go_fit RV;rintro e w' ⟨rfl,rfl⟩))
     go_ret;exact⟨Ah (by rw[HN.out];grind),rfl⟩
   ·have RO:=Rz s w hs;generalize I8 Ce _=n at RO HN h3 aa;have b1:(1:Int)≤s.size:=by omega
    have b2:(s.size:Int)≤8:=by omega
    have b3:(n==(s.size:Int))=aL:=beq_eq_false_iff_ne.2 (by omega);go_enter fA,eO;go_wp2_with(first
     |(go_fit RO;rintro e w' ⟨rfl,rfl⟩))
    go_ret;exact⟨Ah (by rw[HN.out];grind),rfl⟩
  ·go_enter fA,eO;go_wp2_with fail;go_ret;exact⟨Ah (by rw[HN.out];grind),rfl⟩
 ·go_enter fA,eO;go_wp2_with fail;go_ret;exact⟨Ah (by rw[HN.out];grind),rfl⟩
def Afo (k:Nat)(sh:List Z→Prop):Elem (List Z) where
 size:=k
 R _ _ c cs:=cs=c∧sh c∧c.length=k
 len h:=by rw[h.1];exact h.2.2
 keep _ h:=h
 mono _ h:=h
def Lo (c:List Z):Prop:=∃a b n k,c=[Y a,Q b n k]
def Mf (c:List Z):Prop:=∃a b d,c=[Y a,Y b,Y d]
def Ac6 (c:List Z):Prop:=∃a n k,c=[Q a n k]
def Ac7 (c:List Z):Prop:=∃a n k a2 n2 k2 a3 n3 k3,c=[Q a n k,Q a2 n2 k2,Q a3 n3 k3]
theorem Auq {F}{w}{x}{c}(h:Ck.R F w x c):Lo c:=by
 obtain⟨sv,rfl,h⟩:=h;obtain⟨a,k,rfl⟩:=h.shape;exact⟨_,_,_,_,rfl⟩
theorem X3 {k sh F}{w}{x}{c}(h:(Afo k sh).R F w x c):sh c:=h.1▸h.2.1
def Ob (c:List Z):Z:=bU c.toArray
def Afp (c:List Z):Z:=c.headD (bF aL)
def Fq {α:Type}(gb:Bool)(g:FuncId)(K:Elem α)(val:List Z→Z):Prop:=∀(G:FuncId),(∀args w,(callFunc G args).run aA w=.ok (.enter G args) w)→∀(cap:Array Z) (ar:Z→Array Z),(∀v,ar v=#[v]++cap)→
  ∀(l:List α) (F:Nat→Prop) (ao:Option Addr) (n c:Nat) (p:Nat→Bool) (St:Nat→aR→Prop) (En:aR→Prop) (w:aR),(∀i W,St i W→En W)→(∀i W,St i W→IsL K F W (Q ao n c) l)→
  (∀i x cs W,l[i]?=J x→St i W→K.R F W x cs→aV aA G (ar (val cs)) W fun e W'=>e=aE (bF (p i))∧En W'∧(p i=aL→St (i+1) W'))→St 0 w→
  aV aA g #[Q ao n c,.func (.func G) #[] cap] w fun e W'=>e=aE (if gb then bF (B6 p 0 l.length)else aO aW (Bk p 0 l.length))∧En W'
set_option maxRecDepth 100000
set_option maxHeartbeats 8000000
theorem A5p:Fq aL 180 Ck Ob∧Fq aL 211 Cp Ob∧Fq aL 229 Eb Ob∧Fq aL 161 Az Ob∧Fq aL 372 Oz Afp∧Fq aL 162 H7 Afp∧Fq aL 163 Fc Ob∧Fq aL 180 (Afo 2 Lo) Ob∧Fq aL 229 (Afo 3 Mf) Ob∧Fq aL 206 (Afo 1 Ac6) Afp∧Fq aL 216 (Afo 3 Ac7) Ob:=by
 refine⟨?_,?_,?_,?_,?_,?_,?_,?_,?_,?_,?_⟩
 all_goals
  intro G ak cap ar ae l F ao n c p St En w ai af ag h0;obtain⟨hn,aj⟩:=D5 (af 0 w h0);subst hn;unfold aP at aj;simp only[ae]at ag;clear ae
  first
   |go_enter Tryz.func162,Tryz.ntmps162
   |go_enter Tryz.func206,Tryz.ntmps206
   |go_enter Tryz.func211,Tryz.ntmps211
   |go_enter Tryz.func161,Tryz.ntmps161
   |go_enter Tryz.func229,Tryz.ntmps229
   |go_enter Tryz.func163,Tryz.ntmps163
   |go_enter Tryz.func180,Tryz.ntmps180
   |go_enter Tryz.func216,Tryz.ntmps216
   |go_enter Tryz.func372,Tryz.ntmps372
  go_wp2
  go_loopw[8] (fun i wr=>∃k:Nat,k≤l.length∧i=aO aW k∧St k wr∧Hid (Bk p 0 l.length=Bk p k (l.length-k))) (fun i _=>l.length-(cL i).toNat)
  case atStart=>exact⟨0,aX _,rfl,h0,rfl⟩
  case round=>
   obtain⟨k,hk,rfl,ab,HP⟩:=hrel
   by_cases ah:k<l.length
   ·obtain⟨x,hx⟩:∃x,l[k]?=J x:=⟨_,aD ah⟩;obtain⟨b,al,cs,rfl,_,hb,hR,aa⟩:=At (af k wr ab) hx;have HC:=ag k x cs wr hx ab hR;simp only[Ck,Cp,Eb,Oz,Az,H7,Fc,Afo,Nat.mul_one]at aa
    first
     |obtain⟨_,_,_,_,rfl⟩:=Auq hR
     |obtain⟨_,_,_,_,_,_,_,_,_,_,rfl⟩:=Fl hR
     |obtain⟨_,_,_,rfl⟩:=Xv hR
     |obtain⟨_,_,_,_,_,_,_,_,_,_,_,rfl⟩:=S5 hR
     |obtain⟨_,_,_,_,_,_,_,_,_,rfl⟩:=X3 hR
     |obtain⟨_,_,_,_,rfl⟩:=X3 hR
     |obtain⟨_,_,_,rfl⟩:=X3 hR
     |obtain rfl:=hR
    have d0:=aa 0 _ rfl
    try have d1:=aa 1 _ rfl
    try have d2:=aa 2 _ rfl
    try have d3:=aa 3 _ rfl
    try have d4:=aa 4 _ rfl
    try have d5:=aa 5 _ rfl
    try have d6:=aa 6 _ rfl
    try have d7:=aa 7 _ rfl
    try have d8:=aa 8 _ rfl
    simp only[bY]at d0;have k0:(0:Int)≤k:=by omega
    have k1:k<(l.length:Int):=by omega
    have ac:Hid _:=L7 p k _ ah;clear aa hx;simp only[Ob,Afp,List.headD_cons]at HC;generalize hq:p k=q at HC ac;clear hq;cases q
    ·go_wp2_with(go_fit HC;rintro e W' ⟨rfl,_,ad⟩);go_roundw
     case rel=>exact⟨_,by omega,by rfl,ad (by simp),by rw[HP.out,ac.out];rfl⟩
     case measure=>simp[cL];omega
    ·go_wp2_with(go_fit HC;rintro e W' ⟨rfl,ad,_⟩);go_ret;exact⟨Av (by rw[HP.out,ac.out];rfl),ad⟩
   ·have HE:Hid (Bk p k (l.length-k)= -1):=by show _=_;rw[show l.length-k=0 from by omega,Bk]
    go_wp2;go_ret;exact⟨Av (by rw[HP.out,HE.out]),ai k _ ab⟩
theorem A46:Fq U 152 Ck Ob∧Fq U 293 Cp Ob∧Fq U 156 Eb Ob∧Fq U 95 Az Ob∧Fq U 339 Oz Afp∧Fq U 97 H7 Afp∧Fq U 98 Fc Ob:=by
 refine⟨?_,?_,?_,?_,?_,?_,?_⟩;have I:=A5p.1;rotate_left;have I:=A5p.2.1;rotate_left;have I:=A5p.2.2.1;rotate_left;have I:=A5p.2.2.2.1;rotate_left;have I:=A5p.2.2.2.2.1;rotate_left;have I:=A5p.2.2.2.2.2.1;rotate_left;have I:=A5p.2.2.2.2.2.2.1
 all_goals
  intro G ae cap ar aa l F ao n c p St En w ab ac ad h0;have HI:=I G ae cap ar aa l F ao n c p St En w ab ac ad h0;have HA:Hid _:=Zt p l.length 0;generalize B6 p 0 _=r at HA⊢;simp only[gG,if_false]at HI;generalize Bk p 0 _=q at HI HA;clear ac ad h0 ab I aa
  first
   |go_enter Tryz.func152,Tryz.ntmps152
   |go_enter Tryz.func293,Tryz.ntmps293
   |go_enter Tryz.func156,Tryz.ntmps156
   |go_enter Tryz.func95,Tryz.ntmps95
   |go_enter Tryz.func339,Tryz.ntmps339
   |go_enter Tryz.func97,Tryz.ntmps97
   |go_enter Tryz.func98,Tryz.ntmps98
  go_wp2_with(go_fit HI;rintro e W' ⟨rfl,af⟩);go_ret;exact⟨Ah (by rw[HA.out]),af⟩
theorem Fq.at {α:Type}{g}{K:Elem α}{val}(I:Fq aL g K val){G}{fn:Func}(hf:Tryz.prog.funcs[G]?=J fn)(cap:Array Z)(ar:Z→Array Z)(l:List α)(F:Nat→Prop)(ao:Option Addr)(n c:Nat)(p:Nat→Bool)(St:Nat→aR→Prop)(En:aR→Prop)(w:aR)(aa:∀i W,St i W→En W)(ab:∀i W,St i W→IsL K F W (Q ao n c) l)
  (ac:∀i x cs W,l[i]?=J x→St i W→K.R F W x cs→aV aA G (ar (val cs)) W fun e W'=>e=aE (bF (p i))∧En W'∧(p i=aL→St (i+1) W')) (h0:St 0 w)
  (hn:(fn.name== "runtime.NumGoroutine")=aL:=by decide) {b}(hb:fn.body=J b:=by rfl) (ad:∀v,ar v=#[v]++cap:=by intro v;rfl):
  aV aA g #[Q ao n c,.func (.func G) #[] cap] w fun e W'=>e=aE (aO aW (Bk p 0 l.length))∧En W':=
 I G (enters_of hf hn hb) cap ar ad l F ao n c p St En w aa ab ac h0
theorem Fq.has {α:Type}{g}{K:Elem α}{val}(I:Fq U g K val){G}{fn:Func}(hf:Tryz.prog.funcs[G]?=J fn)(cap:Array Z)(ar:Z→Array Z)(l:List α)(F:Nat→Prop)(ao:Option Addr)(n c:Nat)(p:Nat→Bool)(St:Nat→aR→Prop)(En:aR→Prop)(w:aR)(aa:∀i W,St i W→En W)(ab:∀i W,St i W→IsL K F W (Q ao n c) l)
  (ac:∀i x cs W,l[i]?=J x→St i W→K.R F W x cs→aV aA G (ar (val cs)) W fun e W'=>e=aE (bF (p i))∧En W'∧(p i=aL→St (i+1) W')) (h0:St 0 w)
  (hn:(fn.name== "runtime.NumGoroutine")=aL:=by decide) {b}(hb:fn.body=J b:=by rfl) (ad:∀v,ar v=#[v]++cap:=by intro v;rfl):
  aV aA g #[Q ao n c,.func (.func G) #[] cap] w fun e W'=>e=aE (bF (B6 p 0 l.length))∧En W':=
 I G (enters_of hf hn hb) cap ar ad l F ao n c p St En w aa ab ac h0
end
section
open Go.RowKit Go.Maps
theorem Aar (p):∀(n i:Nat),(Bk p i n= -1∧∀j,i≤j→j<i+n→p j=aL)∨∃k,i≤k∧k<i+n∧Bk p i n=(k:Int)∧p k=U∧∀j,i≤j→j<k→p j=aL
 |0,i=>.inl ⟨rfl,fun j h1 h2=>absurd h2 (by omega)⟩
 |n+1,i=>by
  rw[Bk]
  by_cases hp:p i=U
  ·grind
  ·rw[if_neg hp];have aa:=Bool.eq_false_iff.2 hp;rcases Aar p n (i+1)with⟨h1,h2⟩|⟨k,h1,h2,h3,h4,h5⟩
   ·grind
   grind
def atI {α:Type}(l:List α)(q:α→Bool)(i:Nat):Bool:=match l[i]? with
 |some x=>q x
 |none=>aL
theorem Hv {α}{l}{q}{i}{x:α}(h:l[i]?=J x):atI l q i=q x:=by simp[atI,h]
theorem Oc {α}(l)(q):(Bk (atI l q) 0 l.length= -1∧l.find? q=O)∨∃(k:Nat) (x:α),Bk (atI l q) 0 l.length=(k:Int)∧l[k]?=J x∧q x=U∧l.find? q=J x:=by
 rcases Aar (atI l q) l.length 0 with⟨h1,h2⟩|⟨k,_,h2,h3,h4,h5⟩
 ·refine .inl ⟨h1,eR.2 fun x hx=>?_⟩;obtain⟨i,hi,rfl⟩:=gA hx;have:=h2 i (aX _) (by omega);rw[Hv (aD hi)]at this;grind
 ·have hk:k<l.length:=by omega
  have hx:=aD hk;rw[Hv hx]at h4;refine .inr ⟨k,_,h3,hx,h4,?_⟩;rw[List.find?_eq_some_iff_getElem];exact⟨h4,k,hk,rfl,fun j hj=>by
   have:=h5 j (aX _) hj;rw[Hv (aD (by omega))]at this;grind⟩
def Od (x:ColD):Bool:=nm x.name&&(decide (x.ty=1)||decide (x.ty=2))
def X4 (l:List ColD)(i:Nat):Bool:=match l[i]? with
 |some x=>!Od x||N3 ((l.take i).map ColD.name) x.name
 |none=>aL
def Vj (l:List ColD):Bool:=!B6 (X4 l) 0 l.length
def Zy (l:List ColD):Prop:=∀x∈l,x.name.size≤aP
theorem An6 (x)(w)(hs:x.name.size≤aP):aV aA 295 #[bU #[Y x.name,aO aW x.ty,bF x.must]] w fun e w'=>e=aE (bF (Od x))∧Below w.heap.size w w':=by
 obtain⟨name,ty,must⟩:=x;simp only at hs⊢;have hN:=fun w=>K7 name w hs
 have E:Hid (Od ⟨name,ty,must⟩=(nm name&&(decide (ty=1)||decide (ty=2)))):=rfl;generalize Od _=r at E;generalize nm name=b at hN E;clear hs;cases b<;>by_cases h1:ty=1<;>by_cases h2:ty=2
 all_goals(try omega)
 all_goals
  go_enter Tryz.func295,Tryz.ntmps295;go_wp2_with(go_fit(hN _);rintro e w1 ⟨rfl,rfl⟩);go_ret;exact⟨Ah (by rw[E.out];simp_all),(aI _ _).alloc (aC _) _⟩
theorem Below.grow {B}{a w w'}{b}(h:Below B a w)(hg:w.grownBy w' (J b))(hB:B≤w.heap.size)(hb:B≤b):Below B a w':=h.grown hg hB fun k hk=>by grind
theorem Ai7 (x)(mb pb)(N)(w)(hs:x.name.size≤aP)(hN:N.length≤16777215)(hc:Cnt w mb N)(hp:w.cell? ⟨pb,0,O⟩=J (.map (J mb)))(ae:pb<w.heap.size):
  aV aA 294 #[bU #[Y x.name,aO aW x.ty,bF x.must],eD (J ⟨pb,0,O⟩)] w fun e w'=>e=aE (bF (!Od x||N3 N x.name))∧w.grownBy w' (J mb)∧(Od x=U→Cnt w' mb (N++[x.name])):=by
 have hG:=fun w=>An6 x w hs
 generalize Od x=b at hG;obtain⟨name,ty,must⟩:=x;simp only at hs hG⊢;have ad:=Aq w (aG #[Y name,aO aW ty,bF must] 84);cases b
 ·go_enter fQ,Tryz.ntmps294;go_wp2_with(go_fit(hG _);rintro e w1 ⟨rfl,ab⟩);go_ret;have aa:=Ac ad ab;exact⟨Ah (by simp),⟨aa.os,aa.tape,aa.output,aa.size,fun k hk _=>aa.block k hk⟩,fun h=>by grind⟩
 ·have hA:=fun w' h=>Xx mb N name w' (hc.below h) hs (by omega)
  generalize N3 N name=q at hA;clear hc;go_enter fQ,Tryz.ntmps294;go_wp2_with(first|(go_fit(hG _);rintro e w1 ⟨rfl,ab⟩;have ah:=((Ac ad ab).cell ae).trans hp;obtain⟨ai,aj⟩:=E9 ab)|(go_fit(hA _ (Ac ad ab));rintro e w2 ⟨rfl,af,ac⟩));go_ret;have aa:=Ac ad ab;exact⟨Ah (by simp),⟨ac.os.trans aa.os,ac.tape.trans aa.tape,ac.output.trans aa.output,bT aa.size ac.size,fun k hk ag=>(ac.block k (aJ hk aa.size) ag).trans (aa.block k hk)⟩,fun _=>af⟩
theorem Ag9 {w}{b}{N}(h:Cnt w b N)(o):Cnt (w.alloc o) b N:=h.below (Aq _ _)
theorem Akv (l)(sv)(C)(w)(hl:IsL Cp (fun k=>k<C) w sv l)(hC:C≤w.heap.size)(hf:Zy l)(hn:l.length≤16777215):
  aV aA 228 #[sv] w fun e w'=>e=aE (bF (Vj l))∧Below w.heap.size w w':=by
 obtain⟨ao,c,rfl⟩:=hl.shape;have HC:=A46.2.1.has fQ #[_] (fun v=>#[v,_]) l _ ao _ c (X4 l)
  (fun i W=>Cnt W _ ((l.take i).map ColD.name)∧W.cell? _=J _∧Below _ w W∧w.heap.size+2≤W.heap.size) _
  _ (fun i W h=>h.2.2.1) (fun i W h=>hl.keep (Ae (h.2.2.1.mono hC)))
  (by
   rintro i x cs W hx ⟨h1,h2,h3,h4⟩ rfl;refine(Ai7 x _ _ _ W (hf x (aT hx)) (by grind) h1 h2 (by omega)).mono ?_;rintro e W' ⟨rfl,hg,hc⟩;have aa:=Below.grow h3 hg (by omega) (aC _);have hE:X4 l i=(!Od x||N3 ((l.take i).map ColD.name) x.name):=by simp[X4,hx]
   refine⟨by grind,aa,fun hp=>⟨?_,?_,aa,bT h4 hg.size⟩⟩
   ·rw[hE]at hp;rw[bM,hx,aU];grind
   ·exact hg.cell h2 (by simp))
  ⟨Ag9 (Abu w) _,Aa (Cc _ _ _) rfl,Dd w (.map #[] 0) (aG #[.map (J w.heap.size)] 284),by simp⟩
 have E:Hid (Vj l= !B6 _ 0 _):=rfl;generalize Vj l=r at E;generalize B6 _ 0 _=q at E HC;clear hl hf;have ac:=@run_makeMap aA;go_enter Tryz.func228,Tryz.ntmps228;go_wp2_with(go_fit HC;rintro e w1 ⟨rfl,ab⟩);go_ret;exact⟨Ah (by rw[E.out]),ab⟩
theorem Jk (a b:Wd):(a.toList==b.toList)=decide (a=b):=by
 rw[eC,beq_iff_eq,decide_eq_true_eq,cM,cM];constructor
 ·intro h;exact gF (gQ.1 h)
 grind
def D7 (l:List ColD)(s:Wd):Int:=Bk (atI l fun x=>decide (x.name=s)) 0 l.length
def Bv (T:List TabD)(s:Wd):Option TabD:=T.find? fun x=>decide (x.name=s)
theorem Akw (x:ColD)(pb)(s:Wd)(w)(hp:w.cell? ⟨pb,0,O⟩=J (Y s))(aa:pb<w.heap.size):
  aV aA 212 #[bU #[Y x.name,aO aW x.ty,bF x.must],eD (J ⟨pb,0,O⟩)] w fun e w'=>e=aE (bF (decide (x.name=s)))∧Below w.heap.size w w':=by
 obtain⟨name,ty,must⟩:=x;simp only;have E:Hid (decide _=(name.toList==s.toList)):=(Jk _ _).symm;generalize decide (name=s)=r at E;have ab:=((Aq w (aG #[Y name,aO aW ty,bF must] 84)).cell aa).trans hp;go_enter Tryz.func212,Tryz.ntmps212;go_wp2;go_ret;exact⟨Ah (by rw[E.out]),Aq _ _⟩
theorem Afq (x:TabD)(sv)(aa:Hk sv)(pb)(s:Wd)(w)(hp:w.cell? ⟨pb,0,O⟩=J (Y s))(ab:pb<w.heap.size):
  aV aA 181 #[bU #[Y x.name,sv],eD (J ⟨pb,0,O⟩)] w fun e w'=>e=aE (bF (decide (x.name=s)))∧Below w.heap.size w w':=by
 obtain⟨name,cols⟩:=x;obtain⟨ao,n,c,rfl⟩:=aa;simp only;have E:Hid (decide _=(name.toList==s.toList)):=(Jk _ _).symm;generalize decide (name=s)=r at E;have ac:=((Aq w (aG #[Y name,Q ao n c] 82)).cell ab).trans hp;go_enter Tryz.func181,Tryz.ntmps181;go_wp2;go_ret;exact⟨Ah (by rw[E.out]),Aq _ _⟩
theorem L8 (l)(aa:Wd)(sv)(s:Wd)(C)(w)(hl:IsL Cp (fun k=>k<C) w sv l)(hC:C≤w.heap.size):
  aV aA 131 #[bU #[Y aa,sv],Y s] w fun e w'=>e=aE (aO aW (D7 l s))∧Below w.heap.size w w':=by
 obtain⟨ao,c,rfl⟩:=hl.shape;have HC:=A5p.2.1.at Tryz.func212 #[_] (fun v=>#[v,_]) l _ ao _ c (atI l _)
  (fun _ W=>W.cell? _=J _∧Below _ w W∧w.heap.size+2≤W.heap.size) _
  _ (fun i W h=>h.2.1) (fun i W h=>hl.keep (Ae (h.2.1.mono hC)))
  (by
   rintro i x cs W hx ⟨h1,h2,h3⟩ rfl;refine(Akw x _ s W h1 (by omega)).mono ?_;rintro e W' ⟨rfl,hb⟩;have ab:=h2.trans (hb.mono h2.size);exact⟨by rw[Hv hx],ab,fun _=>⟨(hb.cell (show w.heap.size+1<W.heap.size by omega)).trans h1,ab,bT h3 hb.size⟩⟩)
  ⟨Aa (Cc _ _ _) rfl,Dd w (aG #[Y aa,Q ao l.length c] 82) (aG #[Y s] 9),by simp⟩
 have E:Hid (D7 l s=Bk _ 0 _):=rfl;generalize D7 l s=r at E;generalize Bk _ 0 _=q at E HC;clear hl;go_enter Tryz.func131,Tryz.ntmps131;go_wp2_with(go_fit HC;rintro e w1 ⟨rfl,ac⟩);go_ret;exact⟨Av (by rw[E.out]),ac⟩
theorem Aqj {fn}{p q:Tmp}{w:aR}{g}{a}{c0 c1}{t}{fr}{R}(aa:Wd)(sv)(there)(hr:fn.results=#[.cell p 82,.tmp q])(hp:a.tmps.getD p undef=eD (J ⟨g,0,O⟩))(hq:a.tmps.getD q undef=bF there)(hd:a.defers=[])
  (hg:w.heap[g]?=J (aG #[c0,c1] t fr)) (hR:R (aE (eF #[bU #[Y aa,sv],bF there])) ((w.setCell ⟨g,0,O⟩ (Y aa)).setCell ⟨g,1,O⟩ sv)):
  bodyPost aA fn R .ret a ((w.setCell ⟨g,0,O⟩ (Y aa)).setCell ⟨g,1,O⟩ sv):=
 dP (Dq hr a.tmps _ g t _ fr _ _ hp hq (Dj (Dj hg 0 _) 1 _) Tryz.underlying82 rfl (by kernel_rfl)) hd hR
def Ayi (T:List TabD)(s:Wd)(F:Nat→Prop)(w:aR)(e:Ending)(w':aR):Prop:=
 ∃nmv ao n c there,e=aE (eF #[bU #[Y nmv,Q ao n c],bF there])∧(match Bv T s with|some t=>there=U∧nmv=t.name∧IsL Cp F w' (Q ao n c) t.cols|none=>there=aL∧nmv=noW∧ao=O∧n=0∧c=0)∧Below w.heap.size w w'
theorem Xe (T:List TabD)(tv iv:Z)(ak:Hk iv)(s:Wd)(C:Nat)(w:aR)(hl:IsL Ck (fun k=>k<C) w tv T)(hC:C≤w.heap.size):
  aV aA 112 #[bU #[tv,iv],Y s] w (Ayi T s (fun k=>k<C) w):=by
 obtain⟨ao,c,rfl⟩:=hl.shape;obtain⟨io,il,ic,rfl⟩:=ak;have ae:=Hy w (aG #[Q ao T.length c,Q io il ic] 62) (aG #[Y s] 9) (aG #[Y noW,Q O 0 0] 82);have HC:=A5p.1.at Tryz.func181 #[_] (fun v=>#[v,_]) T (fun k=>k<C) ao _ c (atI T fun x=>decide (x.name=s))
  (fun _ W=>W.cell? _=J _∧Below (w.heap.size+3) _ W) _
  _ (fun i W h=>h.2) (fun i W h=>hl.keep (Ae ((ae.mono hC).trans (h.2.mono (by omega)))))
  (by
   rintro i x cs W hx ⟨h1,h2⟩ ⟨sv,rfl,ac⟩;have ag:=h2.size;rw[show(((w.alloc _).alloc (aG #[Y s] 9)).alloc (aG #[Y noW,Q O 0 0] 82)).heap.size=w.heap.size+3 from by simp]at ag;refine(Afq x sv (Gh ac) (w.heap.size+1) s W h1 (by omega)).mono ?_;rintro e W' ⟨rfl,hb⟩;have ah:=h2.trans (hb.mono ag);exact⟨by rw[Hv hx],ah,fun _=>⟨(hb.cell (p:=⟨w.heap.size+1,0,O⟩) (show w.heap.size+1<W.heap.size by omega)).trans h1,ah⟩⟩)
  ⟨Aa (Ad (Cc _ _ _) _) rfl,aI _ _⟩
 rcases Oc T (fun x=>decide (x.name=s))with⟨h1,h2⟩|⟨k,t,h1,h2,h3,h4⟩
 ·rw[h1]at HC;have HP:Hid (Bv T s=O):=h2;clear h1 h2;go_enter Tryz.func112,Tryz.ntmps112;go_wp2_with(go_fit HC;rintro e w1 ⟨rfl,aa⟩;obtain⟨z1,q1,r1,s1,t1⟩:=Jc (g:=w.heap.size) (aa.mono (by simp)) (by simp));have ad:=(aa.block (w.heap.size+2) (by omega)).trans (Fi w (aG #[Q ao T.length c,Q io il ic] 62) (aG #[Y s] 9) (aG #[Y noW,Q O 0 0] 82));have ab:Below w.heap.size w w1:=ae.trans (aa.mono (by omega));exact Aqj noW (Q O 0 0) aL gZ rfl rfl rfl ad ⟨noW,O,0,0,aL,rfl,by rw[HP.out];exact⟨rfl,rfl,rfl,rfl,rfl⟩,(ab.setCell (show w.heap.size≤w.heap.size+2 by omega) _).setCell (show w.heap.size≤w.heap.size+2 by omega) _⟩
 ·rw[h1]at HC;have HP:Hid (Bv T s=J t):=h4;obtain⟨b,ai,cs,rfl,al,ad,⟨sv,rfl,ac⟩,af⟩:=At hl h2;obtain⟨so,sc,rfl⟩:=ac.shape;have d0:=af 0 _ rfl;have d1:=af 1 _ rfl;simp only[Ck,bY]at d0 d1;have hk:k<T.length:=(aF.1 h2).1;have k0:(0:Int)≤(k:Int):=by omega
  have k1:(k:Int)<(T.length:Int):=by omega
  clear h1 h2 h3 h4 af;go_enter Tryz.func112,Tryz.ntmps112;go_wp2_with(go_fit HC;rintro e w1 ⟨rfl,aa⟩;obtain⟨z1,q1,r1,s1,t1⟩:=Jc (g:=w.heap.size) (aa.mono (by simp)) (by simp);have ab:Below w.heap.size w w1:=ae.trans (aa.mono (by omega));have d2:=(ab.cell (p:=⟨b,ai+k*2,O⟩) ad).trans d0;have d3:=(ab.cell (p:=⟨b,ai+k*2+1,O⟩) ad).trans d1);have aj:Below _ w ((w1.setCell ⟨_,0,O⟩ (Y t.name)).setCell ⟨_,1,O⟩ (Q so t.cols.length sc)):=(ab.setCell (show w.heap.size≤w.heap.size+2 by omega) _).setCell (show w.heap.size≤w.heap.size+2 by omega) _;exact Aqj _ _ U gZ rfl rfl rfl ((aa.block _ (by omega)).trans (Fi w _ _ _)) ⟨_,so,_,sc,U,rfl,by rw[HP.out];exact⟨rfl,rfl,ac.keep (Ae (aj.mono hC))⟩,aj⟩
end
section
open Go.RowKit
def Cq (w:aR)(v:Z)(L:List V):Prop:=
 ((∃ao cap,v=Q ao 0 cap∧(ao=O→cap=0))∧L=[])∨∃b off cap,v=Q (J ⟨b,off,O⟩) L.length cap∧b<w.heap.size∧Nv w b off L
theorem Cq.below {w w'}{v}{L}(h:Cq w v L)(hb:Below w.heap.size w w'):Cq w' v L:=by
 rcases h with h|⟨b,off,cap,h1,h2,h3⟩
 ·exact .inl h
 ·exact .inr ⟨b,off,cap,h1,aJ h2 hb.size,h3.below hb h2⟩
theorem Cq.shape {w}{v}{L}(h:Cq w v L):∃ao cap,v=Q ao L.length cap:=by
 rcases h with⟨⟨ao,cap,rfl,_⟩,rfl⟩|⟨b,off,cap,rfl,_,_⟩
 ·simp
 simp
def Ax (L:List V):List Z:=L.flatMap V.cells
theorem Aas (L)(v):Ax (L++[v])=Ax L++v.cells:=by simp[Ax]
theorem S8:∀(L:List V) (i:Nat) (v:V),L[i]?=J v→(Ax L)[i*3]?=J (aO aW v.k)∧(Ax L)[i*3+1]?=J (aO aW v.n)∧(Ax L)[i*3+2]?=J (Y v.s)
 |x::L,0,v,h=>by
  simp at h;subst h;simp[Ax,V.cells]
 |x::L,i+1,v,h=>by
  have:=S8 L i v (by grind);have e:Ax (x::L)=aO aW x.k::aO aW x.n::Y x.s::Ax L:=by simp[Ax,V.cells]
  grind
theorem Cq.of_own {w}{base}{lv}{L}(h:w.ownsRow base 46 3 lv L.length (Ax L)):Cq w lv L:=by
 rcases h.2 with⟨rfl,h0⟩|⟨g,cap,cur,rfl,_,hg,_⟩
 ·exact .inl ⟨⟨O,0,rfl,fun _=>rfl⟩,aK h0⟩
 ·refine .inr ⟨g,0,cap,rfl,bA hg,fun i v hi=>?_⟩;obtain⟨h0,h1,h2⟩:=S8 L i v hi;have c0:=h.cells (g:=g) rfl _ _ h0;have c1:=h.cells (g:=g) rfl _ _ h1;have c2:=h.cells (g:=g) rfl _ _ h2;rw[bX]at c0 c1 c2;grind
theorem Nv.cells {w:aR}{b aa:Nat}:∀{L:List V},Nv w b aa L→∀j u,(Ax L)[j]?=J u→w.cell? ((⟨b,aa,O⟩:Addr).add j)=J u:=by
 intro L h j u hj;have hl:(Ax L).length=L.length*3:=by
  clear h hj
  induction L with
  |nil=>rfl
  |cons x L ih=>simp[Ax,V.cells]at ih⊢;omega
 have ab:=(aF.1 hj).1;obtain⟨v,hv⟩:∃v,L[j/3]?=J v:=⟨_,aD (by omega)⟩;obtain⟨a0,a1,a2⟩:=S8 L _ _ hv;obtain⟨c0,c1,c2⟩:=h _ _ hv;rw[bX];grind
theorem Ai8 (L):(Ax L).length=L.length*3:=by
 induction L with
 |nil=>rfl
 |cons x L ih=>simp[Ax,V.cells]at ih⊢;omega
theorem Vk (L):∀u∈Ax L,u.oneCell'=U:=by
 intro u hu;simp only[Ax,fC]at hu;obtain⟨v,_,hu⟩:=hu;simp[V.cells]at hu;rcases hu with rfl|rfl|rfl<;>rfl
end
section
def Ar7 (c:ColD)(v:V):Bool:=good v&&(decide (v.k=c.ty)||(!c.must&&decide (v.k=0)))
def Aj4 (t:TabD)(r:List V)(i:Nat):Bool:=match t.cols[i]?,r[i]? with
 |some c,J v=>!Ar7 c v
 |_,_=>aL
def Ga (t:TabD)(r:List V):Bool:=decide (r.length=t.cols.length)&& !B6 (Aj4 t r) 0 t.cols.length
theorem J0 {p}:∀{n i:Nat},B6 p i n=aL→∀j,i≤j→j<i+n→p j=aL
 |0,i,_,j,h1,h2=>by omega
 |n+1,i,h,j,h1,h2=>by
  rw[B6,eI]at h;rcases Nat.eq_or_lt_of_le h1 with e|e
  ·grind
  ·exact J0 h.2 j e (by omega)
theorem B7 {t}{r}(h:Ga t r=U):r.length=t.cols.length∧∀v∈r,good v=U:=by
 simp only[Ga,dC,decide_eq_true_eq,Bool.not_eq_true']at h;refine⟨h.1,fun v hv=>?_⟩;obtain⟨i,hi,rfl⟩:=gA hv;have:=J0 h.2 i (aX _) (by omega);unfold Aj4 at this;rw[aD hi,aD (by omega:i<t.cols.length)]at this;simp only[Bool.not_eq_false']at this;simp only[Ar7,dC]at this;grind
end
end Go.Proofs.YtocegbpmmiabmaaGreatDoor
