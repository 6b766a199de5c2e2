/-
  25 texts of this proof in one,in build order:PMath,First,Values,Args,PMem,PKeys,DStep,PIdx,TPut,TPutEnd,TPutAny,TJoin,TDrop,TDropAt,TDropAny,PTree,PRows,USameR,RTake,GShelf,GSort,GCmp,WRow,GDel,SGram.
-/
import Derived.Test.YtocegbpmmiabmaaGreatDoorRows
import Derived.WalkKit
import Derived.WalkSpells
import Derived.WalkLawsBesides
import Derived.Lib.Bytealg
import Derived.Lib.IndexLaws
import Derived.Lib.EndianBits
import Derived.Deep.QuietTactic
import Derived.BigQuiet
import Derived.Deep.RegionHeld3
import Derived.Deep.RegionLaw
import Derived.Laws.AppendOwnNone
import Derived.Deep.Cut
import Derived.Deep.DeepCutAuto
import Derived.Deep.DeepFit
import Derived.Deep.CutRange
import Derived.Shelf.SlSortCmp.Whole1
import Derived.Shelf.SlSortCmp.WholeK
import Derived.Shelf.SlSortCmp.NoneTotal
import Derived.Ground.SlsfProg
import Derived.Test.YtocegbpmmiabmaaGreatDoorProg
import Derived.Lib.QuietBelow
import Derived.Laws.CopyRow
import Derived.Laws.CopyOwn
import Derived.Laws.IdiomCopy
import Derived.Deep.MidRow
import Derived.Lib.AppendZerosOnto
import Derived.Lib.Overlaps
import Derived.Lib.SliceRun
import Derived.Laws.Externs
import Derived.Test.YtocegbpmmiabmaaGreatDoorJ01
set_option linter.unusedSimpArgs false
set_option linter.unusedVariables false
set_option maxRecDepth 100000
set_option maxHeartbeats 0
open Go.Value renaming agg→bM,bool→eM,int→aL,int→cF,oneCell'→gR,ownBlock→aI,pointer→gD,slice→O,slice→eS,string→aA,string→cV,tuple→cJ
open Option renaming none→J,some→D,toList_some→cS
open Go.Obj renaming cells→U,cells→dV
open Nat renaming add_zero→cB,eq_zero_or_pos→cG,le_refl→aG,le_trans→aZ,lt_of_lt_of_le→aB,lt_of_succ_lt→gJ,min→eA,min_eq_left→bZ,mul_le_mul_right→eZ,mul_one→dB,zero_add→cX,zero_le→bO
open Go.World renaming cell?→eR,cell?_of_block→bI,cell?_setCell_other→aW,frozen?→aJ,ownsRow_nil→dI,setCell→cL,setCells→gQ,size_alloc→aC
open List renaming append_assoc→dO,append_nil→bJ,cons_append→gM,drop_eq_getElem_cons→cC,drop_length→dQ,eq_nil_of_length_eq_zero→aP,ext_getElem?→gB,filterMap_append→eU,flatMap_cons→gA,flatMap_nil→gL,flatten_append→fA,getElem?_append_right→eB,getElem?_eq_getElem→aD,getElem?_eq_some_iff→aQ,getElem?_take_of_lt→cD,head?_eq_getElem?→cW,headD_eq_head?_getD→cT,length_append→bH,length_cons→cN,length_filterMap_le→eK,length_nil→hD,length_take→bU,map_toArray→gK,mem_append→bY,mem_append_right→eT,mem_cons→cP,mem_map→eP,mem_of_getElem?→aX,mem_of_mem_take→eW,not_mem_nil→cM,of_mem_zip→gZ,take_add_one→cK,take_append_drop→bF,take_length→cU,zip_append→cE
open Go.RowKit.Below renaming heap_setCell→aO,refl→aE,refl→cQ
open Go.Proofs.Tryz renaming func115→eO,func116→dM,func246→dL,func254→eN,ntmps115→eI,ntmps116→dE,ntmps246→dD,ntmps254→eH,prog→aF,results246→gY,results254→gX,underlying0→gI,underlying119→fN,underlying224→fM,underlying265→fL,underlying3→gH,underlying30→dK,underlying312→fK,underlying313→fJ,underlying319→fI,underlying321→fH,underlying356→fG,underlying360→fF,underlying383→fE,underlying384→fD,underlying4→gG,underlying5→gF,underlying9→gE,zeroValue0→gW,zeroValue224→fX,zeroValue265→fW,zeroValue3→gV,zeroValue312→fV,zeroValue313→fU,zeroValue319→fT,zeroValue321→fS,zeroValue356→fR,zeroValue360→fQ,zeroValue383→fP,zeroValue384→fO,zeroValue4→gU,zeroValue5→gT,zeroValue9→gS
open Go.Ending renaming returned→aH
open Go renaming Calls→aY,Ending→eV,Program→fZ,TypeId→dA,Value→aS,World→aN,below_drewN→gP,bodyPost_ret→aR,info_parts→dU,length_splice→eX,lt_of_block→aK,maxLen→bE,results→bL,run_storeCells_cells→gO,run_underlying→eQ,splice→cO,wpAnyH→dS,yielded→cZ,zeroValue→eE
open Go.IntKind renaming i64→aM,i64→bV,u32→eL,wrap_i64→bS
open Bool renaming and_eq_true→dR,false→aT,true→aV
open Go.Builtin renaming clear_→dX,copy_→dY,zeroCells→aU
open And renaming intro→bD
open Go.Region renaming Mode→dP,noSelect→fY,ready→dH,wanted→bG
open Go.Lib renaming indexByte→bK,toList_data→cY
open Go.Proofs renaming intOf→cI,ltOf→bQ,sortWorld→bN
open Go.Op renaming bytesLess→bR
open Array renaming getElem?_modify→cA,length_toList→dC,toList_append→cR,toList_map→gC
open ByteArray renaming data_append→cH,size→fC
open Go.Proofs.SlLaysF0 renaming n6→dF
open Go.RowKit renaming Below→dG
open Go.Sort renaming mapBlock→dJ,putRow→dW
open Go.Oper renaming wp→dN
open Prod renaming snd→dZ
open List.Pairwise renaming nil→eC
open Go.Shelf renaming Ren→eD
open Go.Proofs.AnyF renaming slices_SortFunc_none→eF
open Go.Value.slice renaming injEq→eG
open Option.some renaming injEq→eJ
open Go.Result renaming andThen_ok→eY
open List.Perm renaming refl→fB
open Go.Addr.mk renaming injEq→gN
open Go.BinOp renaming or→hE
namespace Go.Proofs.YtocegbpmmiabmaaGreatDoor
section
abbrev PL:=List (ByteArray×ByteArray)
theorem Abv {F:PL}{k v}{x}:x∈I3 F k v↔x=(k,v)∨(x∈F∧x.1≠k):=by
 unfold I3;simp only[bY,cP,List.mem_filter];constructor
 ·rintro(⟨h1,h2⟩|h|⟨h1,h2⟩)
  ·exact .inr ⟨h1,F3 h2⟩
  ·grind
  ·exact .inr ⟨h1,(F3 h2).symm⟩
 ·rintro(h|⟨h1,h2⟩)
  ·grind
  ·cases hk:klt x.1 k with
   |true=>grind
   |false=>
    rcases Ji hk with e|e
    ·grind
    grind
theorem Aha {F:PL}{k}{x}:x∈Jz F k↔x∈F∧x.1≠k:=by simp[Jz]
theorem Aur {F:PL}{k}:Hz F k=J↔∀x∈F,x.1≠k:=by simp[Hz]
def De (t:Wd):Wd:=(⟨#[114]⟩++t)++⟨#[0]⟩
def Hl (x:Wd):Wd:=(⟨#[120]⟩++x)++⟨#[0]⟩
def H8 (t:Wd)(id:V):Wd:=De t++str (Bc [id]).1
def If (x:Wd)(v id:V):Wd:=Hl x++str (Bc [v,id]).1
theorem P3 (t):(De t).data.toList=114::(t.data.toList++[0]):=by rfl
theorem Aus (t):(Hl t).data.toList=120::(t.data.toList++[0]):=by rfl
theorem Js (t)(id):(H8 t id).data.toList=114::(t.data.toList++0::(Bc [id]).1):=by
 rw[H8,cH,cR,P3,Bs];simp
theorem P4 (x)(v id):(If x v id).data.toList=120::(x.data.toList++0::(Bc [v,id]).1):=by
 rw[If,cH,cR,Aus,Bs];simp
theorem Jl (t x)(a v id):H8 t a≠If x v id:=by
 intro h;have:=congrArg (fun s=>s.data.toList) h;simp only[Js,P4,List.cons.injEq]at this;grind
def Eo (t:TabD)(x:IdxD):Int:=if x.table=t.name then D7 t.cols x.col else-1
def X5 (t:TabD)(r:List V)(x:IdxD):Option Wd:=if 0≤Eo t x then D (If x.name (r.getD (Eo t x).toNat zero) (r.headD zero))else J
def iks (I:List IdxD)(t:TabD)(r:List V):List Wd:=I.filterMap (X5 t r)
def Lp (F:PL)(l:List Wd):PL:=l.foldl (fun F k=>I3 F k noW) F
def Kb (F:PL)(l:List Wd):PL:=l.foldl Jz F
def rk (t:TabD)(r:List V):Wd:=H8 t.name (r.headD zero)
def putRow (F:PL)(I:List IdxD)(t:TabD)(r:List V):PL:=Lp (I3 F (rk t r) (str (Bc r).1)) (iks I t r)
def Kh (F:PL)(I:List IdxD)(t:TabD)(r:List V):PL:=Kb (Jz F (rk t r)) (iks I t r)
theorem X6 {x}:∀(l:List Wd) (F:PL),(∀y∈F,y.1∈l→y.2=noW)→(x∈Lp F l↔x∈F∨(x.1∈l∧x.2=noW))
 |[],F,_=>by simp[Lp]
 |k::l,F,h=>by
  have ih:=X6 (x:=x) l (I3 F k noW) (fun y hy hl=>by
   rcases Abv.1 hy with e|⟨h1,_⟩
   ·rw[e]
   grind)
  have e:Lp F (k::l)=Lp (I3 F k noW) l:=rfl;rw[e,ih,Abv];grind
theorem Vl {x}:∀(l:List Wd) (F:PL),x∈Kb F l↔x∈F∧x.1∉l
 |[],F=>by simp[Kb]
 |k::l,F=>by
  have e:Kb F (k::l)=Kb _ l:=rfl;rw[e,Vl l,Aha];grind
theorem Nd {I}{t}{r}{k}(h:k∈iks I t r):∃x v id,k=If x v id:=by
 obtain⟨x,_,hx⟩:=List.mem_filterMap.1 h;unfold X5 at hx;grind
theorem Qs (I)(t)(r):(iks I t r).length≤I.length:=eK _ _
def A4s (I:List IdxD)(t:TabD)(r:List V)(x:ByteArray×ByteArray):Prop:=x=(rk t r,str (Bc r).1)∨(x.1∈iks I t r∧x.2=noW)
def Hm (t:Wd):Wd:=De t++noW
def Hn (t:Wd):Wd:=De t++(noW++⟨#[255]⟩)
theorem Ar8 (t):(Hm t).data.toList=114::(t.data.toList++[0]):=by
 rw[Hm,cH,cR,P3];simp
theorem Ar9 (t):(Hn t).data.toList=114::(t.data.toList++[0,255]):=by
 rw[Hn,cH,cR,P3];simp
theorem Cx (a b):klt a b=bR a.data.toList b.data.toList:=by
 unfold klt;rw[cY,cY]
theorem Rk {v}(h:good v=aV):(Bc [v]).1=keyOf v:=by rw[I6 (by grind)];simp[Dy]
theorem Ayj (l):bR l []=aT:=by cases l<;>rfl
theorem Aut {t}{v}(h:good v=aV)(x):rq (Hm t) (Hn t) (H8 t v,x)=aV:=by
 unfold rq;rw[Cx,Cx,Js,Ar8,Ar9,Rk h];obtain⟨r,hr⟩:=Ln h;rw[hr];have e1:∀(a b),bR (114::(t.data.toList++a)) (114::(t.data.toList++b))=bR a b:=fun a b=>by
  have:=Dz (114::t.data.toList) a b;grind
 rw[e1,e1];have e2:∀(a b),bR (0::a) (0::b)=bR a b:=fun a b=>by rfl
 rw[e2,e2,Ayj];have:bR (UInt8.ofNat (v.k.toNat+1)::r) [255]=aV:=by
  refine G8 ?_ _ _;rcases G0 h with e|e|e<;>rw[e]<;>decide
 grind
def In (n:Nat)(x:Wd):Option (List V):=match vals x.data.toList with
 |some L=>if 0<L.length∧L.length=n then D L else J
 |none=>J
def F5 (n:Nat)(R:PL):List (List V):=(R.map dZ).filterMap (In n)
theorem Ahb {n}{r}(h0:0<n)(hl:r.length=n)(h:∀v∈r,good v=aV):In n (str (Bc r).1)=D r:=by
 unfold In;rw[Bs,I6 h,S3 r h];grind
theorem X7 {α:Type}[DecidableEq α]:∀{A B:List α},A.Nodup→(∀x∈A,x∈B)→A.length≤B.length
 |[],B,_,_=>bO _
 |a::A,B,hn,hs=>by
  rw[List.nodup_cons]at hn;have ha:=hs a (by simp);have:=X7 (A:=A) (B:=B.erase a) hn.2 fun x hx=>(List.mem_erase_of_ne (show x≠a from fun e=>hn.1 (by rw[←e];exact hx))).2 (hs x (by simp[hx]))
  grind
theorem A1r {t:TabD}{a b:List V}(ha:good (a.headD zero)=aV)(hb:good (b.headD zero)=aV)(h:klt (rk t a) (rk t b)=aV):Bt (a.headD zero) (b.headD zero)<0:=by
 rw[Cx,rk,rk,Js,Js,Rk ha,Rk hb]at h;have e1:bR (114::(t.name.data.toList++0::keyOf (a.headD zero))) (114::(t.name.data.toList++0::keyOf (b.headD zero)))=bR (keyOf (a.headD zero)) (keyOf (b.headD zero)):=by
  have:=Dz (114::(t.name.data.toList++[0])) (keyOf (a.headD zero)) (keyOf (b.headD zero));simpa using this
 rw[e1]at h;rcases Aao [a.headD zero] [b.headD zero] rfl (by simpa using ha) (by simpa using hb)with⟨e,_⟩|⟨_,e⟩|⟨_,e⟩
 ·have:Rx [a.headD zero] [b.headD zero]=Bt (a.headD zero) (b.headD zero):=by
   unfold Rx;split
   ·rename_i h0;rw[h0];rfl
   ·rfl
  omega
 ·simp only[Dy,gA,gL,bJ]at e;rw[e,Tt]at h;grind
 ·simp only[Dy,gA,gL,bJ]at e;rw[Lm _ _ e]at h;grind
def G1 (F:PL)(I:List IdxD)(t:TabD)(A:List (List V)):PL:=A.foldl (fun F r=>Kh F I t r) F
theorem An7 (F)(I)(t)(A)(r):G1 F I t (A++[r])=Kh (G1 F I t A) I t r:=by simp[G1]
theorem Ac8 {I}{t}{x}:∀(A:List (List V)) (F:PL),x∈G1 F I t A↔x∈F∧∀r∈A,x.1≠rk t r∧x.1∉iks I t r
 |[],F=>by simp[G1]
 |r::A,F=>by
  have e:G1 F I t (r::A)=G1 (Kh F I t r) I t A:=rfl;rw[e,Ac8 A,Kh,Vl,Aha];grind
end
section
open Go.RowKit
theorem X8 (s)(c)(w):
  aY aF 142 #[.string s,.int .u8 c] w fun e w'=>e=.returned (.int .i64 (bK s.data.toList c.toNat.toUInt8))∧w'=w:=by
 go_enter Tryz.func142,Tryz.ntmps142;go_wp2;rw[run_callFunc_extern Tryz.func219 (by rfl) (by rfl) (by kernel_rfl) (by kernel_rfl),Lib.run_indexByteString];simp only[Result.andThen];rw[Oper.upon_value];go_wp2;go_ret;simp
theorem Xf (s)(c)(w):
  aY aF 76 #[.string s,.int .u8 c] w fun e w'=>e=.returned (.int .i64 (bK s.data.toList c.toNat.toUInt8))∧w'=w:=by
 go_enter Tryz.func76,Tryz.ntmps76;go_wp2_with(refine(X8 _ _ _).mono ?_;rintro e w' ⟨rfl,rfl⟩);go_ret;simp
theorem Aae (s:ByteArray)(w:aN)(h:s.size<5):
  aY aF 309 #[aA s] w fun e w'=>e=aH (cJ #[bM #[aL aM 0,aL aM 0,aA ⟨#[]⟩],aL aM 0])∧Below w.heap.size w w':=by
 go_enter Tryz.func309,Tryz.ntmps309;go_wp2;exact aR (v:=cJ #[bM #[aL aM 0,aL aM 0,aA ⟨#[]⟩],aL aM 0]) (by simp[bL,Tryz.results309,go_sem]) rfl ⟨rfl,(aE _ _).alloc (aG _) _⟩
theorem or4 (a b c d:Nat)(ha:a<256)(hb:b<256)(hc:c<256)(hd:d<256):
  bits hE eL (bits hE eL (bits hE eL ((a:Int) *16777216) ((b:Int) *65536)) ((c:Int) *256)) (d:Int)=(a:Int) *16777216+(b:Int) *65536+(c:Int) *256+(d:Int):=by
 have e1:=bits_join _ 32 (by decide) wraps_u32 24 (a*16777216) (b*65536) (by omega) (by omega) (by omega) (by omega) (by omega) (by omega);have e2:=bits_join _ 32 (by decide) wraps_u32 16 (a*16777216+b*65536) (c*256) (by omega) (by omega) (by omega) (by omega) (by omega) (by omega);have e3:=bits_join _ 32 (by decide) wraps_u32 8 (a*16777216+b*65536+c*256) d (by omega) (by omega) (by omega) (by omega) (by omega) (by omega);grind
theorem Abw (s)(w)(h:5≤s.size)(hs:s.size≤bE):
  aY aF 309 #[.string s] w fun e w'=>e=.returned (.tuple #[.agg #[.int .i64 1,.int .i64 (n4 s.data.toList-1073741824),.string ⟨#[]⟩],.int .i64 5])∧Below w.heap.size w w':=by
 unfold bE at hs;have h1:(1:Int)<s.size:=by omega
 have h2:(2:Int)<s.size:=by omega
 have h3:(3:Int)<s.size:=by omega
 have h4:(4:Int)<s.size:=by omega
 have b1:s[1].toNat<256:=s[1].toNat_lt;have b2:s[2].toNat<256:=s[2].toNat_lt;have b3:s[3].toNat<256:=s[3].toNat_lt;have b4:s[4].toNat<256:=s[4].toNat_lt;have ho:=or4 _ _ _ _ b1 b2 b3 b4;have hn:n4 s.data.toList=(s[1].toNat:Int) *(16777216:Int)+(s[2].toNat:Int) *(65536:Int)+(s[3].toNat:Int) *(256:Int)+(s[4].toNat:Int):=by
  unfold n4;rw[Py s 1 (by omega),Py s 2 (by omega),Py s 3 (by omega),Py s 4 (by omega)]
 rw[←hn]at ho;have aa:0≤n4 s.data.toList:=by omega
 have ab:n4 s.data.toList<4294967296:=by omega
 clear hn;generalize n4 _=m at ho aa ab⊢;go_enter Tryz.func309,Tryz.ntmps309;go_wp2;go_quiet(fail);go_wp2;refine aR (by simp[bL,go_sem]) rfl ⟨rfl,?_⟩;exact(((gP ((aE _ _).alloc (aG _) _) _).setCell (aG _) _).setCell (aG _) _).setCell (aG _) _
theorem Afr (s:ByteArray)(w:aN)(h:bK s.data.toList 0<0):
  aY aF 310 #[aA s] w fun e w'=>e=aH (cJ #[bM #[aL aM 0,aL aM 0,aA ⟨#[]⟩],aL aM 0])∧Below w.heap.size w w':=by
 generalize hi:bK _ 0=i at h;have HI:Hid _:=hi;clear hi;go_enter Tryz.func310,Tryz.ntmps310;go_wp2_with(refine(Xf _ _ _).mono ?_;rintro e w' ⟨rfl,rfl⟩;rw[show bK _ (0:Int).toNat.toUInt8=i from HI.out]);exact aR (v:=cJ #[bM #[aL aM 0,aL aM 0,aA ⟨#[]⟩],aL aM 0]) (by simp[bL,Tryz.results310,go_sem]) rfl ⟨rfl,(aE _ _).alloc (aG _) _⟩
theorem Afs (s)(w)(i:Nat)(hi:bK s.data.toList 0=i)(h1:1≤i)(h2:i<s.size)(hs:s.size≤bE):
  aY aF 310 #[aA s] w fun e w'=>e=aH (cJ #[bM #[aL aM 2,aL aM 0,aA (s.extract 1 i)],aL aM (i+1)])∧Below w.heap.size w w':=by
 unfold bE at hs;have HI:Hid _:=hi;clear hi;go_enter Tryz.func310,Tryz.ntmps310;go_wp2_with(refine(Xf _ _ _).mono ?_;rintro e w' ⟨rfl,rfl⟩;rw[show bK _ (0:Int).toNat.toUInt8=i from HI.out]);refine aR (by simp[bL,go_sem]) rfl ⟨rfl,?_⟩;exact(aE _ _).alloc (aG _) _
theorem Kv (s)(w)(f:Nat)(h0)(k n)(t)(sz)
  (hf:(f=309∧s[0].toNat=2)∨(f=310∧s[0].toNat=3))
  (hc:∀w:aN,aY aF f #[aA s] w fun e w'=>e=aH (cJ #[bM #[aL aM k,aL aM n,aA t],aL aM sz])∧Below w.heap.size w w'):
  aY aF 246 #[aA s] w fun e w'=>e=aH (cJ #[bM #[aL aM k,aL aM n,aA t],aL aM sz])∧Below w.heap.size w w':=by
 rcases hf with⟨rfl,hb⟩|⟨rfl,hb⟩
 ·have h1:(s[0].toNat:Int)=2:=by omega
  go_enter dL,dD;go_wp2_with(refine(hc _).mono ?_;rintro e w1 ⟨rfl,aa⟩;obtain⟨ab,ac⟩:=E9 aa);refine aR (by simp[bL,go_sem,ab]) rfl ⟨rfl,?_⟩;exact(((((aE _ _).alloc (aG _) _).trans (aa.mono (by simp))).setCell (aG _) _).setCell (aG _) _).setCell (aG _) _
 ·have h1:(s[0].toNat:Int)=3:=by omega
  go_enter dL,dD;go_wp2_with(refine(hc _).mono ?_;rintro e w1 ⟨rfl,aa⟩;obtain⟨ab,ac⟩:=E9 aa);refine aR (by simp[bL,go_sem,ab]) rfl ⟨rfl,?_⟩;exact(((((aE _ _).alloc (aG _) _).trans (aa.mono (by simp))).setCell (aG _) _).setCell (aG _) _).setCell (aG _) _
theorem Aft (s:ByteArray)(w:aN)(h0:0<s.size)(hb:s[0].toNat=1):
  aY aF 246 #[aA s] w fun e w'=>e=aH (cJ #[bM #[aL aM 0,aL aM 0,aA ⟨#[]⟩],aL aM 1])∧Below w.heap.size w w':=by
 go_enter dL,dD;go_wp2;exact aR (v:=cJ #[bM #[aL aM 0,aL aM 0,aA ⟨#[]⟩],aL aM 1]) (by simp[bL,gY,go_sem]) rfl ⟨rfl,(aE _ _).alloc (aG _) _⟩
theorem Abx (s:ByteArray)(w:aN)(h0:0<s.size)(aa:¬s[0].toNat=1)(ab:¬s[0].toNat=2)(ac:¬s[0].toNat=3):
  aY aF 246 #[aA s] w fun e w'=>e=aH (cJ #[bM #[aL aM 0,aL aM 0,aA ⟨#[]⟩],aL aM 0])∧Below w.heap.size w w':=by
 have ad:s[0].toNat<256:=s[0].toNat_lt;go_enter dL,dD;go_wp2;exact aR (v:=cJ #[bM #[aL aM 0,aL aM 0,aA ⟨#[]⟩],aL aM 0]) (by simp[bL,gY,go_sem]) rfl ⟨rfl,(aE _ _).alloc (aG _) _⟩
theorem Afu (c)(n:Nat)(hn:n<256):c=UInt8.ofNat n↔c.toNat=n:=by
 constructor
 ·simp_all
 ·intro h;rw[←h];simp
theorem Afv (s:ByteArray)(w:aN)(hs:s.size≤bE)(h0:0<s.size):
  aY aF 246 #[.string s] w fun e w'=>e=.returned (.tuple #[(fv s.data.toList).1.val,.int .i64 (fv s.data.toList).2])∧Below w.heap.size w w':=by
 have g0:s.data.toList.getD 0 0=s[0]:=Py s 0 h0;have q1:s[0]=1↔s[0].toNat=1:=Afu s[0] 1 (by omega);have q2:s[0]=2↔s[0].toNat=2:=Afu s[0] 2 (by omega);have q3:s[0]=3↔s[0].toNat=3:=Afu s[0] 3 (by omega)
 by_cases h1:s[0].toNat=1
 ·have e:fv s.data.toList=(zero,1):=by unfold fv;rw[g0,if_pos (q1.2 h1)]
  rw[e];exact Aft s w h0 h1
 have n1:¬s[0]=1:=fun h=>h1 (q1.1 h)
 by_cases h2:s[0].toNat=2
 ·by_cases hl:s.size<5
  ·have e:fv s.data.toList=(zero,0):=by unfold fv;rw[g0,if_neg n1,if_pos (q2.2 h2),if_pos (by rw[Dp];exact hl)]
   rw[e];exact Kv s w 309 h0 0 0 ⟨#[]⟩ 0 (.inl ⟨rfl,h2⟩) fun w=>Aae s w hl
  ·have e:fv s.data.toList=(⟨1,n4 s.data.toList-1073741824,⟨#[]⟩⟩,5):=by unfold fv;rw[g0,if_neg n1,if_pos (q2.2 h2),if_neg (by rw[Dp];exact hl)]
   rw[e];exact Kv s w 309 h0 1 _ ⟨#[]⟩ 5 (.inl ⟨rfl,h2⟩) fun w=>Abw s w (by omega) hs
 have n2:¬s[0]=2:=fun h=>h2 (q2.1 h)
 by_cases h3:s[0].toNat=3
 ·by_cases hl:bK s.data.toList 0<0
  ·have e:fv s.data.toList=(zero,0):=by unfold fv;rw[g0,if_neg n1,if_neg n2,if_pos (q3.2 h3),if_pos hl]
   rw[e];exact Kv s w 310 h0 0 0 _ 0 (.inr ⟨rfl,h3⟩) fun w=>Afr s w hl
  ·obtain⟨i,hi⟩:∃i:Nat,bK s.data.toList 0=i:=⟨(bK s.data.toList 0).toNat,by omega⟩;have aa:=(Lib.indexByte_some hi).1;have ab:i<s.size:=by rw[←Dp];exact(aQ.1 aa).1
   have ac:1≤i:=by
    rcases cG i with rfl|h
    ·grind
    ·omega
   have e:fv s.data.toList=(⟨2,0,str ((s.data.toList.drop 1).take (i-1))⟩,i+1):=by
    unfold fv;rw[g0,if_neg n1,if_neg n2,if_pos (q3.2 h3),if_neg hl,hi];simp
   have e2:s.extract 1 i=str _:=Lib.extract_eq s 1 i;rw[e];refine Kv s w 310 h0 2 0 _ _ (.inr ⟨rfl,h3⟩) fun w=>?_
   rw[←e2];exact Afs s w i hi ac ab hs
 have n3:¬s[0]=3:=fun h=>h3 (q3.1 h)
 have e:fv s.data.toList=(zero,0):=by unfold fv;rw[g0,if_neg n1,if_neg n2,if_neg n3]
 rw[e];exact Abx s w h0 h1 h2 h3
theorem Qt:(Tryz.prog.info? 46).map (fun i=>(i.zero,i.size,i.bytes))=D (D (bM #[aL aM 0,aL aM 0,aA ⟨#[]⟩]),3,32):=by kernel_rfl
def Ho (base:Nat)(l:List UInt8)(e:eV)(w':aN):Prop:=
 match vals l with
 |some L=>∃lv,e=aH (cJ #[lv,aL aM 0])∧w'.ownsRow base 46 3 lv L.length (Ax L)
 |none=>e=aH (cJ #[O J 0 0,aL aM 1])
theorem Oe (s)(w)(hs:s.size*32≤140737488355328):
  aY aF 185 #[.string s] w fun e w'=>Ho w.heap.size s.data.toList e w'∧Below w.heap.size w w':=by
 obtain⟨i0,hi,av,aw,ax⟩:=dU Qt;go_enter Tryz.func185,Tryz.ntmps185;go_wp2
 go_loopw[0,4] (fun sv lv wr=>∃(t:ByteArray) (L:List V),sv=.string t∧L.length+t.size≤s.size∧vals s.data.toList=(vals t.data.toList).map (L++·)∧wr.ownsRow w.heap.size 46 3 lv L.length (Ax L)∧Below w.heap.size w wr) (fun sv _ _=>match sv with|.string t=>t.size|_=>0)
 case atStart=>exact⟨s,[],rfl,by simp,by simp,dI _ _ _ _,aE _ _⟩
 case round=>
  obtain⟨t,L,rfl,bd,hv,ae,ab⟩:=hrel;have HV:Hid _:=hv;clear hv;have ah:=ab.size
  by_cases ht:t.size=0
  ·have ay:t.toList.isEmpty=aV:=by rw[K5];simp[ht]
   have an:=by have:=Dp t;rw[ht]at this;exact aP this
   have HL:Hid (vals s.data.toList=D L):=by show vals s.data.toList=D L;have:=HV.out;rw[an,Akc]at this;simpa using this
   clear an ht;go_wp2;go_ret2;refine⟨?_,ab⟩;unfold Ho;rw[HL.out];exact⟨_,rfl,ae⟩
  ·have az:0<t.size:=by omega
   have ai:t.size≤bE:=by simp only[bE];omega
   have aj:t.data.toList≠[]:=by intro h;have:=Dp t;rw[h]at this;simp at this;omega
   have ak:=A4o _ aj;rw[Dp]at ak;have ay:t.toList.isEmpty=aT:=by rw[K5];exact decide_eq_false ht
   have al:=fun w=>Afv t w ai az
   obtain⟨⟨k,n,x⟩,z,af⟩:∃v z,fv t.data.toList=(v,z):=⟨_,_,rfl⟩;rw[af]at ak al;simp only at ak;have ag:∀w,aY _ 246 _ w fun e w'=>e=aH (cJ #[bM #[aL _ k,aL _ n,aA x],aL _ z])∧Below _ w w':=al
   clear al;have ac:Hid _:=af;have am:Hid (t.data.toList≠[]):=aj;have hx:x.size≤bE:=by
    have:=Ars t.data.toList;rw[af,Dp]at this;exact aZ this ai
   clear af aj;unfold bE at ai;have ad:=fun w=>Mn ⟨k,n,x⟩ w hx
   by_cases hz:z=0
   ·subst hz;have HN:Hid (vals s.data.toList=J):=by show vals s.data.toList=J;have:=HV.out;rw[Abo am.out (by rw[ac.out];simp)]at this;simpa using this
    go_wp2_with(refine(ag _).mono ?_;rintro e w1 ⟨rfl,aa⟩);go_ret2;have ap:=aa.size;refine⟨by unfold Ho;rw[HN.out];rfl,(ab.trans (aa.mono ah)).alloc (by omega) _⟩
   ·have be:(z:Int)≠0:=by omega
    cases hg:good ⟨k,n,x⟩
    ·have HN:Hid (vals s.data.toList=J):=by show vals s.data.toList=J;have:=HV.out;rw[Abo am.out (by rw[ac.out];grind)]at this;simpa using this
     rw[hg]at ad;have hd:((z:Int)==0)=aT:=by simp;omega
     go_wp2_with(first|(refine(ag _).mono ?_;rintro e w1 ⟨rfl,aa⟩)|(refine(ad _).mono ?_;rintro e w2 ⟨rfl,rfl⟩));go_ret2;have ap:=aa.size;refine⟨by unfold Ho;rw[HN.out];rfl,((ab.trans (aa.mono ah)).alloc (by omega) _).alloc (by simp;omega) _⟩
    ·have HS:Hid (vals s.data.toList=(vals (t.extract z t.size).data.toList).map ((L++[⟨k,n,x⟩])++·)):=by
      have h1:=HV.out;have h2:=Xp am.out (by rw[ac.out];omega) (by rw[ac.out];omega);rw[ac.out]at h2;rw[h2]at h1;show _=_;rw[h1,An0];cases vals (t.data.toList.drop z)<;>simp
     rw[hg]at ad;have hd:((z:Int)==0)=aT:=by simp;omega
     go_wp2_with(first|(refine(ag _).mono ?_;rintro e w1 ⟨rfl,aa⟩)|(refine(ad _).mono ?_;rintro e w2 ⟨rfl,rfl⟩)|(at_builtin;go_must(refine wpList_append_own _ rfl (.tmp 21) _ 79 rfl _ 46 i0 _ 3 32 Tryz.underlying79 hi av aw ax rfl (by simp) _ _ _ rfl ((((Ak ae aa).alloc _).alloc _).alloc _) _ 1 1 [.int .i64 k,.int .i64 n,.string x] rfl rfl ?_ ?_ ?_ ?_ ?_ ?_)))
     ·have N:=Cb ((w1.alloc (dV #[cF bV k,cF bV n,cV x] 46)).alloc (dV #[cF bV k,cF bV n,cV x] 46)) [aL aM k,aL aM n,aA x] 46;simp_all
     ·intro u hu;simp at hu;rcases hu with rfl|rfl|rfl<;>rfl
     ·simp only[bE];omega
     ·omega
     ·have:=aa.size;simp;omega
     ·intro ba w2 aq ar _;have ap:=aa.size;have au:=(((Ak ae aa).alloc (dV #[cF bV k,cF bV n,cV x] 46)).alloc (dV #[cF bV k,cF bV n,cV x] 46)).alloc (dV #[cF bV k,cF bV n,cV x] 46);have bb:=((((ab.trans (aa.mono ah)).alloc (by omega) _).alloc (by simp;omega) _).alloc (by simp;omega) _).trans (Gy au (by simp;omega) ar);have bc:w2.ownsRow w.heap.size 46 3 ba (L++[(⟨k,n,x⟩:V)]).length (Ax (L++[⟨k,n,x⟩])):=by rw[Aas,bH];exact aq
      clear au aq ar ae ab aa ag ad;go_wp2;go_roundw
      case rel=>exact⟨_,_,rfl,by simp;omega,HS.out,bc,bb⟩
      case measure=>simp;omega
theorem A1s (L)(v)(w)(hv:Cq w v L)(aa:L.length*32≤140737488351232)(ab:∀v∈L,v.s.size≤bE):
  aY aF 195 #[v] w fun e w'=>e=aH (cJ #[aA (str (Bc L).1),aL aM (Bc L).2])∧Below w.heap.size w w':=by
 rcases hv with⟨⟨ao,cap,rfl,_⟩,rfl⟩|⟨b,off,cap,rfl,hb,hL⟩
 ·exact Aye ao cap w
 ·exact Ayd L b off cap w hL hb aa ab
def Ly:Elem V where
 size:=3
 R _ _ v c:=c=v.cells
 len h:=by subst h;rfl
 keep _ h:=h
 mono _ h:=h
def C8:Elem (List V) where
 size:=1
 R F w l c:=∃sv,c=[sv]∧IsL Ly F w sv l
 len h:=by grind
 keep hk h:=by obtain⟨sv,h1,h2⟩:=h;exact⟨sv,h1,h2.keep hk⟩
 mono hk h:=by obtain⟨sv,h1,h2⟩:=h;exact⟨sv,h1,h2.mono hk⟩
theorem A49 {F}{w}:∀{l:List V}{cs:List aS},All Ly F w l cs↔cs=Ax l
 |[],cs=>Iff.rfl
 |v::l,cs=>by
  have e:Ax (v::l)=v.cells++Ax l:=by simp[Ax]
  rw[e];constructor
  ·rintro⟨c,rest,rfl,h2,h3⟩;rw[A49.1 h3,show c=v.cells from h2]
  ·rintro rfl;exact⟨_,_,rfl,rfl,A49.2 rfl⟩
theorem F6 {F}{w}{sv}{l}(h:IsL Ly F w sv l):Cq w sv l:=by
 obtain⟨cs,h1,h2⟩:=h;have:=A49.1 h2;subst this;rcases h1.2 with⟨h0,ao,cap,rfl,hc⟩|⟨h0,b,off,cap,rfl,_,hb,_,_,hcell⟩
 ·exact .inl ⟨⟨ao,cap,rfl,hc⟩,aP h0⟩
 ·refine .inr ⟨b,off,cap,rfl,hb,fun i v hi=>?_⟩;obtain⟨a0,a1,a2⟩:=S8 l i v hi;grind
theorem Nf {F}{w}{base}{lv}{L}(h:w.ownsRow base 46 3 lv L.length (Ax L))(hF:∀k,base≤k→F k):IsL Ly F w lv L:=
 ⟨Ax L,Bq.of_own h hF,A49.2 rfl⟩
theorem O4 (a b:ByteArray):(a++b).size=a.size+b.size:=ByteArray.size_append
theorem Qf (t:Wd)(w)(ht:t.size≤1000000):aY aF 188 #[aA t] w fun e w'=>e=aH (aA (De t))∧w'=w:=by
 have E:Hid (De t=(⟨_⟩++t)++⟨_⟩):=rfl;generalize De t=r at E;go_enter Tryz.func188,Tryz.ntmps188;go_wp2;go_ret;exact⟨by rw[E.out];rfl,rfl⟩
theorem O5 (t:Wd)(w)(ht:t.size≤1000000):aY aF 205 #[aA t] w fun e w'=>e=aH (aA (Hl t))∧w'=w:=by
 have E:Hid (Hl t=(⟨_⟩++t)++⟨_⟩):=rfl;generalize Hl t=r at E;go_enter Tryz.func205,Tryz.ntmps205;go_wp2;go_ret;exact⟨by rw[E.out];rfl,rfl⟩
theorem Qu (L)(v)(w)(hv:Cq w v L)(ab:L.length*32≤140737488351232)(aa:∀v∈L,v.s.size≤bE):
  aY aF 118 #[v] w fun e w'=>e=aH (aA (str (Bc L).1))∧Below w.heap.size w w':=by
 have HK:=A1s L v w hv ab aa;obtain⟨ao,cap,rfl⟩:=hv.shape;generalize str _=s at HK;generalize(Bc L).2=n at HK;clear hv aa;go_enter Tryz.func118,Tryz.ntmps118;go_wp2_with(go_fit HK;rintro e w1 ⟨rfl,ac⟩);go_ret;simp_all
theorem S9 (t):(De t).size=t.size+2:=by simp only[De,O4];show 1+t.size+1=_;omega
theorem X9 (t):(Hl t).size=t.size+2:=by simp only[Hl,O4];show 1+t.size+1=_;omega
theorem Ki (L):(str (Bc L).1).size≤10*L.length:=by
 rw[Jy];unfold Bc;split
 ·rename_i h;exact Aqe L (by grind)
 simp
theorem Qv (t:Wd)(id)(w)(ht:t.size≤1000000)(hs:id.s.size≤bE):
  aY aF 117 #[aA t,id.val] w fun e w'=>e=aH (aA (H8 t id))∧Below w.heap.size w w':=by
 have E:Hid (H8 t id=De t++str _):=rfl;have HR:=fun w=>Qf t w ht
 have ab:=fun(w:aN)=>Qu [id] (O (D ⟨w.heap.size,0,J⟩) 1 1) (w.alloc (U #[aL aM id.k,aL aM id.n,aA id.s] 46))
  (.inr ⟨_,_,_,rfl,by simp,fun i v hi=>by
   match i,hi with
   |0,hi=>simp_all⟩) (by simp) (by grind)
 have HK:=ab (w.alloc (U #[aL aM id.k,aL aM id.n,aA id.s] 46)).drew;rw[show(w.alloc _).drew.heap.size=w.heap.size+1 from by simp]at HK;clear ab;have hz:(De t).size≤1000002:=by rw[S9];omega
 have ac:(str _).size≤10:=Ki [id];generalize H8 t id=r at E;generalize De t=a at E HR hz;generalize str _=b at E HK ac;have ae:¬9223372036854775807<a.size+b.size:=by omega
 clear hz ac;obtain⟨ik,aa,is⟩:=id;simp only[V.val]at HK⊢;clear hs ht;have blk:((w.alloc _).drew.alloc (U #[aL aM ik,aL aM aa,aA is] 46)).heap[w.heap.size]?=D _:=Ad (w:=(w.alloc (U #[aL aM ik,aL aM aa,aA is] 46)).drew) (Ab w _) _;have HB:Hid _:=blk;clear blk;go_enter Tryz.func117,Tryz.ntmps117;go_wp2_with fail
 go_region_held3(fun w'=>w'.cell? ⟨w.heap.size,0,J⟩=D (aL aM ik)∧w'.cell? ⟨w.heap.size,1,J⟩=D (aL aM aa)∧w'.cell? ⟨w.heap.size,2,J⟩=D (aA is)) (first|grind|simp)
  (first|(go_fit(HR _);rintro e w1 ⟨rfl,rfl⟩)|(go_fit HK;rintro e w2 ⟨rfl,ad⟩;have hq:=(ad.block _ (aK HB.out)).trans HB.out;have S1:_∧_∧_:=⟨Aa hq (j:=0) rfl,Aa hq (j:=1) rfl,Aa hq (j:=2) rfl⟩))
 all_goals
  go_wp2;go_ret;exact⟨by rw[E.out];rfl,((Aq w _).drew.alloc (Aq w _).size _).trans (ad.mono (by simp;omega))⟩
theorem Akx (t:Wd)(x id)(w)(ht:t.size≤1000000)(hx:x.s.size≤bE)(hs:id.s.size≤bE):
  aY aF 197 #[aA t,x.val,id.val] w fun e w'=>e=aH (aA (If t x id))∧Below w.heap.size w w':=by
 have E:Hid (If t x id=Hl t++str _):=rfl;have HR:=fun w=>O5 t w ht
 have ad:=fun(w:aN)=>Qu [x,id] (O (D ⟨w.heap.size,0,J⟩) 2 2) (w.alloc (U #[aL aM x.k,aL aM x.n,aA x.s,aL aM id.k,aL aM id.n,aA id.s] 46))
  (.inr ⟨_,_,_,rfl,by simp,fun i v hi=>by
   match i,hi with
   |0,hi=>simp_all
   |1,hi=>simp_all⟩) (by simp) (by grind)
 have HK:=ad ((w.alloc (U #[aL aM x.k,aL aM x.n,aA x.s] 46)).alloc (U #[aL aM id.k,aL aM id.n,aA id.s] 46)).drew;rw[show((w.alloc _).alloc _).drew.heap.size=w.heap.size+2 from by simp]at HK;clear ad;have hz:(Hl t).size≤1000002:=by rw[X9];omega
 have ae:(str _).size≤20:=Ki [x,id];generalize If t x id=r at E;generalize Hl t=a at E HR hz;generalize str _=b at E HK ae;have ah:¬9223372036854775807<a.size+b.size:=by omega
 clear hz ae;obtain⟨ik,aa,is⟩:=id;obtain⟨xk,xn,xs⟩:=x;simp only[V.val]at HK⊢;clear hs hx ht;have af:Hid _:=Ad (w:=((w.alloc _).alloc _).drew) (Ad (Ab w (U #[aL aM xk,aL aM xn,aA xs] 46)) (U #[aL aM ik,aL aM aa,aA is] 46)) (U #[aL aM xk,aL aM xn,aA xs,aL aM ik,aL aM aa,aA is] 46);have ag:Hid _:=Ad (w:=((w.alloc _).alloc _).drew) (Cc w (U #[aL aM xk,aL aM xn,aA xs] 46) (U #[aL aM ik,aL aM aa,aA is] 46)) (U #[aL aM xk,aL aM xn,aA xs,aL aM ik,aL aM aa,aA is] 46);go_enter Tryz.func197,Tryz.ntmps197;go_wp2_with fail
 go_region_held3(fun w'=>w'.cell? ⟨w.heap.size,0,J⟩=D (aL aM xk)∧w'.cell? ⟨w.heap.size,1,J⟩=D (aL aM xn)∧w'.cell? ⟨w.heap.size,2,J⟩=D (aA xs)∧w'.cell? ⟨w.heap.size+1,0,J⟩=D (aL aM ik)∧w'.cell? ⟨w.heap.size+1,1,J⟩=D (aL aM aa)∧w'.cell? ⟨w.heap.size+1,2,J⟩=D (aA is)) (first|grind|(go_keep;done))
  (first|(go_fit(HR _);rintro e w1 ⟨rfl,rfl⟩)|(go_fit HK;rintro e w2 ⟨rfl,ab⟩;have hq:=(ab.block _ (aK af.out)).trans af.out;have ac:=(ab.block _ (aK ag.out)).trans ag.out;have S1:_∧_∧_∧_∧_∧_:=⟨Aa hq (j:=0) rfl,Aa hq (j:=1) rfl,Aa hq (j:=2) rfl,Aa ac (j:=0) rfl,Aa ac (j:=1) rfl,Aa ac (j:=2) rfl⟩))
 all_goals
  go_wp2;go_ret;exact⟨by rw[E.out];rfl,((Dd w _ _).drew.alloc (Dd w _ _).size _).trans (ab.mono (by simp;omega))⟩
theorem Ya {fn}{p:Tmp}{w0 w}{g}{a}{c0 c1 c2}{t ty}{fr}{fs}(x y z)(hr:fn.results=#[.cell p ty])(hp:a.tmps.getD p undef=gD (D ⟨g,0,J⟩))(hd:a.defers=[])
  (hg:w.heap[g]?=D (U #[c0,c1,c2] t fr)) (hb:Below w0.heap.size w0 w) (aa:w0.heap.size≤g)
  (hu:Tryz.prog.underlying ty=D (.struct fs)) (hi:(Tryz.prog.info? ty).map (·.size)=D 3):
  bodyPost aF fn (fun e w'=>e=aH (bM #[x,y,z])∧Below w0.heap.size w0 w') .ret a (((w.setCell ⟨g,0,J⟩ x).setCell ⟨g,1,J⟩ y).setCell ⟨g,2,J⟩ z):=
 aR (results_cell_row hr a.tmps _ g t _ fr _ hp (set3 hg) hu rfl hi) hd ⟨rfl,((hb.setCell aa _).setCell aa _).setCell aa _⟩
def J1 (x lo hi:Wd):aS:=bM #[aA x,aA lo,aA hi]
theorem Jt (s:Wd)(w)(hs:s.size≤1000000):aY aF 186 #[aA s] w fun e w'=>e=aH (bM #[aA s,aA (s++⟨#[255]⟩)])∧Below w.heap.size w w':=by
 go_enter Tryz.func186,Tryz.ntmps186;go_wp2;refine aR (by simp[bL,go_sem]) rfl ⟨rfl,?_⟩;exact Aq w _
theorem Afw (lo hi x b:Wd)(w)(hl:lo.size≤1000000)(hh:hi.size≤1000000)(hb:b.size≤1000000):aY aF 187 #[bM #[aA lo,aA hi],aA x,aA b] w fun e w'=>e=aH (J1 x (b++lo) (b++hi))∧Below w.heap.size w w':=by
 have h1:¬9223372036854775807<b.size+lo.size:=by omega
 have h2:¬9223372036854775807<b.size+hi.size:=by omega
 clear hl hh hb;go_enter Tryz.func187,Tryz.ntmps187;go_wp2;refine aR (by simp[bL,J1,go_sem]) rfl ⟨rfl,?_⟩;exact Dd w _ _
theorem Aqk (t:Wd)(w)(ht:t.size≤100000):aY aF 114 #[aA t] w fun e w'=>e=aH (J1 noW (Hm t) (Hn t))∧Below w.heap.size w w':=by
 have HB:=fun w=>Jt noW w (by decide)
 have HR:=fun w=>Qf t w (by omega)
 have HW:=fun w=>Afw noW (noW++⟨#[255]⟩) noW (De t) w (by decide) (by decide) (by rw[S9];omega)
 have e1:Hid (Hm t=De t++noW):=rfl;have e2:Hid (Hn t=De t++(noW++⟨_⟩)):=rfl;rw[←e1.out,←e2.out]at HW;generalize Hm t=lo at e1 HW⊢;generalize Hn t=hi at e2 HW⊢;generalize De t=b at HR HW;generalize(noW++⟨_⟩:Wd)=f at HB HW;clear e1 e2 ht;unfold J1 at HW⊢;go_enter Tryz.func114,Tryz.ntmps114;go_wp2_with(first|(go_fit(HB _);rintro e w1 ⟨rfl,aa⟩;have b1:=(aa.block _ (by simp)).trans (Ab w (U #[aA noW,aA noW,aA noW] 167)))|(go_fit(HR _);rintro e w2 ⟨rfl,rfl⟩)|(go_fit(HW _);rintro e w3 ⟨rfl,ab⟩;have b3:=(ab.block _ (aK b1)).trans b1;have d0:=Aa b3 (j:=0) rfl;have d1:=Aa b3 (j:=1) rfl;have d2:=Aa b3 (j:=2) rfl;have d3:∀o,w3.frozen? ⟨w.heap.size,o,J⟩=aT:=(fun o=>by simp[aJ,b3])));exact Ya _ _ _ Tryz.results114 rfl rfl b3 (Ac (Ac (Aq w _) aa) ab) (aG _) Tryz.underlying167 (by kernel_rfl)
theorem Of (aa:Wd)(so)(sn sc)(ro)(rn rc)(w):
  aY aF 115 #[bM #[aA aa,O so sn sc],O ro rn rc] w fun e w'=>e=aH (eM (decide (0<rn)&&decide (rn=sn)))∧Below w.heap.size w w':=by
 by_cases h0:0<rn
 ·by_cases h1:rn=sn
  ·subst h1;go_enter eO,eI;go_wp2;go_ret;exact⟨Ah (by grind),Aq _ _⟩
  ·have q0:(0:Int)<rn:=by omega
   have q1:¬rn=(sn:Int):=by omega
   go_enter eO,eI;go_wp2;go_ret;exact⟨Ah (by grind),Aq _ _⟩
 ·have q0:¬(0:Int)<rn:=by omega
  go_enter eO,eI;go_wp2;go_ret;exact⟨Ah (by simp),Aq _ _⟩
theorem Un (t)(x)(sv)(C)(w)(hl:IsL Cp (fun k=>k<C) w sv t.cols)(hC:C≤w.heap.size):
  aY aF 196 #[bM #[aA t.name,sv],bM #[aA x.name,aA x.table,aA x.col]] w fun e w'=>e=aH (aL aM (Eo t x))∧Below w.heap.size w w':=by
 obtain⟨tn,cols⟩:=t;obtain⟨xn,xt,xc⟩:=x;simp only at hl⊢;obtain⟨ao,c,rfl⟩:=hl.shape;have aa:=Dd w (U #[aA tn,O ao cols.length c] 82) (U #[aA xn,aA xt,aA xc] 86);have HF:=L8 cols tn _ xc C _ (hl.keep (Ae (aa.mono hC))) (aZ hC aa.size);have E:Hid (Eo ⟨tn,cols⟩ ⟨xn,xt,xc⟩=if xt=tn then D7 cols xc else-1):=rfl;generalize Eo _ _=r at E;generalize D7 cols xc=q at E HF;clear hl
 by_cases h:xt=tn
 ·have hq:(xt.toList==tn.toList)=aV:=by rw[Jk];simp[h]
  have E2:Hid (r=q):=by show _=_;rw[E.out,if_pos h]
  clear E;clear h;go_enter Tryz.func196,Tryz.ntmps196;go_wp2_with(go_fit HF;rintro e w1 ⟨rfl,ab⟩);go_ret;exact⟨Av (by rw[E2.out]),Ac aa ab⟩
 ·have hq:(xt.toList==tn.toList)=aT:=by rw[Jk];simp[h]
  have E2:Hid (r= -1):=by show _=_;rw[E.out,if_neg h]
  clear E HF;go_enter Tryz.func196,Tryz.ntmps196;go_wp2;go_ret;exact⟨Av (by rw[E2.out]),aa⟩
theorem Io {P}{w}{ops}{o}{a}{K}{Q}{E}(aa:o.guard=J)(s x)(t)
  (ho:o.op=.call {callee:=.builtin .append,args:=#[s,x],argTypes:=#[t,t]})
  (base) (e) (i) (z) (size bytes) (ht:P.underlying t=D (.slice e)) (hi:P.info? e=D i) (hz:i.zero=D z)
  (ab:i.size=size) (ac:i.bytes=bytes) (ae:z.cells.size=size) (af:0<size)
  (v) (n) (xs) (hs:a.eval s=v) (ag:w.ownsRow base e size v n xs)
  (ad) (m c) (news) (hx:a.eval x=O (D ad) m c) (hl:news.length=m*size) (ah:∀j u,news[j]?=D u→w.cell? (ad.add j)=D u) (h1:∀u∈news,u.oneCell'=aV)
  (ai:n+m≤bE) (aj:(n+m) *bytes≤140737488355328) (ak:base≤w.heap.size)
  (h:∀v' w',w'.ownsRow base e size v' (n+m) (xs++news)→w.grownBy w' v.ownBlock→(v'.ownBlock=v.ownBlock∨v'.ownBlock=D w.heap.size)→K (a.put o.dst v') w'):
  if bG o (cZ ops a.tmps)=aV then dN P o a w K Q else E:=by
 have hw:bG o (cZ ops a.tmps)=aV:=by simp[bG,aa]
 rw[if_pos hw];obtain⟨v',w',hr,h2,h3,h4,h5⟩:=run_append_own_at w base t o.type e i z size bytes ht hi hz ab ac ae af v n xs ag ad m c news hl ah h1 ai aj ak;unfold dN execOp;simp only[ho,resolve,invoke,builtin,Sem.run_bind,Sem.run_pure,eY,gK,List.map_cons,List.map_nil,hs,hx,hr];exact h v' w' h2 h3 h5
theorem Ayk {I:List IdxD}{t}{r}{k}{x}(h:I[k]?=D x):iks (I.take (k+1)) t r=iks (I.take k) t r++(X5 t r x).toList:=by
 rw[cK,h];simp only[iks,eU,cS];rfl
theorem Ayl {l}{s}:D7 l s= -1∨∃p:Nat,D7 l s=(p:Int)∧p<l.length:=by
 rcases Oc l (fun x=>decide (x.name=s))with⟨h1,_⟩|⟨k,x,h1,h2,_⟩
 ·exact .inl h1
 ·exact .inr ⟨k,h1,(aQ.1 h2).1⟩
theorem Vm (t)(x):Eo t x= -1∨∃p:Nat,Eo t x=(p:Int)∧p<t.cols.length:=by
 unfold Eo;split
 ·exact Ayl
 simp
theorem Auu {G W:aN}{g rb}{a0 a1 a2 a3 a4 a5 a6}{o1 o2}
  (h:G.cell? ⟨g,0,J⟩=D a0∧G.cell? ⟨rb,o1,J⟩=D a1∧G.cell? ⟨rb,o1+1,J⟩=D a2∧G.cell? ⟨rb,o1+2,J⟩=D a3∧G.cell? ⟨rb,o2,J⟩=D a4∧G.cell? ⟨rb,o2+1,J⟩=D a5∧G.cell? ⟨rb,o2+2,J⟩=D a6)
  (h1:W.heap[g]?=G.heap[g]?) (h2:W.heap[rb]?=G.heap[rb]?):
  W.cell? ⟨g,0,J⟩=D a0∧W.cell? ⟨rb,o1,J⟩=D a1∧W.cell? ⟨rb,o1+1,J⟩=D a2∧W.cell? ⟨rb,o1+2,J⟩=D a3∧W.cell? ⟨rb,o2,J⟩=D a4∧W.cell? ⟨rb,o2+1,J⟩=D a5∧W.cell? ⟨rb,o2+2,J⟩=D a6:=by
 obtain⟨c0,c1,c2,c3,c4,c5,c6⟩:=h;exact⟨(bI h1).trans c0,(bI h2).trans c1,(bI h2).trans c2,(bI h2).trans c3,(bI h2).trans c4,(bI h2).trans c5,(bI h2).trans c6⟩
theorem Xg (I)(t)(r)(tv iv sv rv)(C)(w)(az:Hk tv)
  (hi:IsL Eb (fun k=>k<C) w iv I) (hl:IsL Cp (fun k=>k<C) w sv t.cols) (hC:C≤w.heap.size) (hr:Cq w rv r) (au:r.length=t.cols.length) (h0:0<r.length) (hs:∀v∈r,v.s.size≤bE) (av:∀x∈I,x.name.size≤1000000) (hn:I.length≤1000000):
  aY aF 119 #[bM #[tv,iv],bM #[aA t.name,sv],rv] w fun e w'=>∃kv,e=aH kv∧An w' kv (iks I t r)∧Below w.heap.size w w':=by
 obtain⟨am,tn,tc,rfl⟩:=az;obtain⟨io,ic,rfl⟩:=hi.shape;obtain⟨so,sc,rfl⟩:=hl.shape;obtain⟨i0,ba,bb,bc,bd⟩:=dU Kg;rcases hr with⟨_,rfl⟩|⟨rb,ro,rcap,rfl,hrb,hR⟩
 ·simp at h0
 have ad:=Dd w (U #[O am tn tc,O io I.length ic] 62) (U #[aA t.name,O so t.cols.length sc] 82);generalize hW:(w.alloc (U #[O am tn tc,O io I.length ic] 62)).alloc (U #[aA t.name,O so t.cols.length sc] 82)=W2 at ad;have bC:W2.heap[w.heap.size]?=D (U #[O am tn tc,O io I.length ic] 62):=by rw[←hW];exact Ad (Ab w _) _
 have bT:W2.heap[w.heap.size+1]?=D (U #[aA t.name,O so t.cols.length sc] 82):=by rw[←hW];exact Cc _ _ _
 have bm:=Aa bC (j:=1) rfl;have be:Hid (W2.heap.size=w.heap.size+2):=by show _=_;rw[←hW];simp
 have HW:Hid _:=hW;clear hW;have HI:Hid _:=hi;have HL:Hid _:=hl;have HS:Hid _:=hs;have HN:Hid _:=av;clear hi hl hs av;have bf:Hid _:=au;clear au;go_enter Tryz.func119,Tryz.ntmps119;go_upto_region 1 with fail;rw[HW.out];go_wp2
 go_loopw[7,14] (fun kv i wr=>∃k:Nat,k≤I.length∧i=aL aM k∧wr.ownsRow W2.heap.size 9 1 kv (iks (I.take k) t r).length ((iks (I.take k) t r).map aA)∧Below W2.heap.size W2 wr) (fun _ i _=>I.length-(cI i).toNat)
 case atStart=>exact⟨0,bO _,rfl,dI _ _ _ _,aE _ _⟩
 case round=>
  obtain⟨k,hk,rfl,ag,ae⟩:=hrel
  by_cases bg:k<I.length
  ·obtain⟨x,hx⟩:∃x,I[k]?=D x:=⟨_,aD bg⟩;obtain⟨b,an,cs,rfl,bn,ap,bh,ah⟩:=At HI.out hx;obtain rfl:=bh;have af:Below w.heap.size w wr:=ad.trans (ae.mono (by have:=ad.size;omega));have d0:=(af.cell (p:=⟨b,an+k*3,J⟩) ap).trans (by have:=ah 0 _ rfl;simpa[Eb]using this);have d1:=(af.cell (p:=⟨b,an+k*3+1,J⟩) ap).trans (by have:=ah 1 _ rfl;simpa[Eb]using this);have d2:=(af.cell (p:=⟨b,an+k*3+2,J⟩) ap).trans (by have:=ah 2 _ rfl;simpa[Eb]using this);have aw:=ae.size;have bo:w.heap.size+2≤wr.heap.size:=by have:=be.out;omega
   have k0:(0:Int)≤(k:Int):=by omega
   have k1:(k:Int)<(I.length:Int):=by omega
   have ax:=(ae.block (w.heap.size+1) (aK bT)).trans bT;have bp:=((Aq wr (U #[aA x.name,aA x.table,aA x.col] 86)).cell (p:=⟨w.heap.size+1,0,J⟩) (show w.heap.size+1<_ by omega)).trans (Aa ax (j:=0) rfl);have bq:=((Aq wr (U #[aA x.name,aA x.table,aA x.col] 86)).cell (p:=⟨w.heap.size+1,1,J⟩) (show w.heap.size+1<_ by omega)).trans (Aa ax (j:=1) rfl);have HX:=Un t x (O so t.cols.length sc) C (wr.alloc (U #[aA x.name,aA x.table,aA x.col] 86)) (IsL.keep HL.out (Ae ((af.alloc (by omega) _).mono hC))) (aZ hC (af.alloc (by omega) _).size);have ai:Hid (iks (I.take (k+1)) t r=iks (I.take k) t r++(X5 t r x).toList):=Ayk hx;have bi:=HN.out x (aX hx);clear hx ah;rcases Vm t x with hq|⟨p,hq,hp⟩
   ·have E2:Hid (iks (I.take (k+1)) t r=iks (I.take k) t r):=by show _=_;rw[ai.out,X5,hq];simp
    rw[hq]at HX;clear hq ai;go_wp2_with(go_fit HX;rintro e w1 ⟨rfl,ab⟩);go_roundw
    case rel=>exact⟨k+1,by omega,by go_num,by rw[E2.out];exact Ak ag (Ac (Aq _ _) ab),ae.trans ((Ac (Aq _ _) ab).mono aw)⟩
    case measure=>simp[cI];omega
   ·have ay:p<r.length:=by rw[bf.out];exact hp
    obtain⟨v,hv⟩:∃v,r[p]?=D v:=⟨_,aD ay⟩;obtain⟨u,hu⟩:∃u,r[0]?=D u:=⟨_,aD h0⟩;have E2:Hid (iks (I.take (k+1)) t r=iks (I.take k) t r++[If x.name v u]):=by
     show _=_;rw[ai.out,X5,hq,if_pos (by omega)];simp only[Int.toNat_natCast,cS];rw[List.getD_eq_getElem?_getD,hv,show r.headD zero=u from by rw[cT,cW,hu];rfl];rfl
    rw[hq]at HX;obtain⟨e0,e1,e2⟩:=hR p v hv;obtain⟨f0,f1,f2⟩:=hR 0 u hu;simp only[Nat.zero_mul,cB]at f0 f1 f2;have HK:=fun W=>Akx _ v u W bi (HS.out v (aX hv)) (HS.out u (aX hu))
    have p0:(0:Int)≤p:=by omega
    have p1:p<(r.length:Int):=by omega
    clear hq ai hv hu ay hp;generalize If _ v u=key at E2 HK;obtain⟨vk,vn,vs⟩:=v;obtain⟨uk,un,us⟩:=u;simp only[V.val]at HK;have bt:(iks (I.take k) t r).length≤1000000:=aZ (Qs _ _ _) (by grind);have aq:=ag.lt;go_wp2_with(go_fit HX;rintro e w1 ⟨rfl,ab⟩);have ac:=af.trans ((Ac (Aq _ _) ab).mono (by omega));have bX:=(ab.block _ (by simp)).trans (Ab wr _);have aj:=aK bX;have ak:=aB hrb ac.size;have KS:Hid _:=fun W=>Auu (W:=W) ⟨Aa bX (u:=aA _) rfl,(ac.cell hrb).trans e0,(ac.cell hrb).trans e1,(ac.cell hrb).trans e2,(ac.cell hrb).trans f0,(ac.cell hrb).trans f1,(ac.cell hrb).trans f2⟩
    have s0:=KS.out w1.drew rfl rfl
    go_region_held3(fun W=>W.cell? ⟨wr.heap.size,0,J⟩=D (aA x.name)∧W.cell? ⟨rb,ro+p*3,J⟩=D (aL aM vk)∧W.cell? ⟨rb,ro+p*3+1,J⟩=D (aL aM vn)∧W.cell? ⟨rb,ro+p*3+2,J⟩=D (aA vs)∧W.cell? ⟨rb,ro,J⟩=D (aL aM uk)∧W.cell? ⟨rb,ro+1,J⟩=D (aL aM un)∧W.cell? ⟨rb,ro+2,J⟩=D (aA us))
     (with_reducible omega)
     (first
      |(go_fit(HK _);rintro e w2 ⟨rfl,bj⟩;have al:=Ac (aE _ _).drew bj;have s2:=KS.out w2 (al.block _ aj) (al.block _ ak);have aa:Below _ w1 (w2.alloc (U #[aA key] 9)):=al.alloc al.size _;have s3:=KS.out _ (aa.block _ aj) (aa.block _ ak))
      |(refine Io (by rfl) _ _ 43 (by rfl) _ 9 i0 _ 1 16 Tryz.underlying43 ba bb bc bd rfl (by decide) u7 _ _ (by rfl) (Ak (Ak ag (Ac (Aq _ _) ab)) aa) _ 1 1 _ (by rfl) rfl (Cb _ _ _) (by simp;rfl) (by simp only[bE];omega) (by omega) (by have:=aa.size;omega) ?_;intro zv w3 bk ar bu;have s4:=KS.out w3 ((ar.block _ (aB aj aa.size) (fun h=>by have:=(aq _ h.symm).2;omega)).trans (aa.block _ aj)) ((ar.block _ (aB ak aa.size) (fun h=>by have:=(aq _ h.symm).1;have:=ad.size;omega)).trans (aa.block _ ak))))
    go_wp2;go_roundw
    case rel=>
     refine⟨k+1,by omega,by rfl,?_,?_⟩
     ·rw[E2.out,bH,List.map_append];exact bk
     ·exact Below.grown (ae.trans ((Ac (Ac (Aq _ _) ab) aa).mono aw)) ar (by have:=aa.size;omega) (fun q hq=>(aq q hq).1)
    case measure=>simp[cI];omega
  ·have bl:k=I.length:=by omega
   subst bl;have v1:¬(I.length<(I.length:Int)):=by omega
   rw[cU]at ag;go_wp2;go_ret;exact⟨_,rfl,Ex.of_own ag,ad.trans (ae.mono ad.size)⟩
attribute [local go_sem↓] Go.wp_at_zero Go.wp_at_succ
theorem Ba.shape {w}{sv}{T}(h:Ba w sv T):∃ao c,sv=O ao T.length c:=by
 obtain⟨rows,h1,_⟩:=h;exact h1.shape
theorem Ba.grown {w0 w w'}{sv}{T}{r}(h:Ba w0 sv T)(hb:Below w0.heap.size w0 w)(hg:w.grownBy w' (D r))(hr:w0.heap.size≤r):Ba w' sv T:=
 h.below (hb.grown hg hb.size (fun k hk=>by grind))
theorem Cs.block {w}{B g cap}{L}(h:Cs w B g cap L):∃aa,w.heap[g]?=D (U aa 9)∧L.length≤cap∧cap≤bE∧aa.size=cap:=by
 rcases h.2.2 with⟨h1,_⟩|⟨g',c',aa,e,_,hh,hn,hm,hs,_⟩
 ·grind
 grind
theorem Cs.grown {w w'}{B g cap r}{L}(h:Cs w B g cap L)(hg:w.grownBy w' (D r))(aa:g≠r):Cs w' B g cap L:=by
 obtain⟨h1,h2,h3⟩:=h;refine⟨h1,h2,?_⟩;rcases h3 with h3|⟨g',c',cur,e,hg',hh,rest⟩
 ·grind
 ·have e':=e;simp only[eG,eJ,gN]at e';obtain⟨⟨rfl,_⟩,_⟩:=e';exact .inr ⟨g,c',cur,e,hg',(hg.block g (aK hh) (by grind)).trans hh,rest⟩
theorem Cs.alloc {w}{B g cap}{L}(h:Cs w B g cap L)(o):Cs (w.alloc o) B g cap L:=h.below ((aE _ _).alloc (aG _) o)
theorem Cs.setOther {w}{B g cap}{L}(h:Cs w B g cap L){q i}(aa:g≠q)(u):Cs (w.setCell ⟨q,i,J⟩ u) B g cap L:=by
 refine h.grown ?_ aa;have hb:=(aE 0 w).setCell (p:=⟨q,i,J⟩) (bO _) u;exact⟨hb.os,hb.tape,hb.output,hb.size,fun k hk aa=>aO w _ u k (fun e=>aa (by rw[e]))⟩
theorem Dh {w}{sv}{L}(h:An w sv L){q i}(aa:sv.ownBlock≠D q)(u):An (w.setCell ⟨q,i,J⟩ u) sv L:=Uh h u aa
theorem A3t {w:aN}{B g cap i:Nat}{L:List ByteArray}{x:ByteArray}(h:Cs w B g cap L)(hx:L[i]?=D x):w.cell? ⟨g,i,J⟩=D (aA x):=by
 obtain⟨b,aa,c,e,hb,hc,hm,ab⟩:=h.strs.at (by have:=(aQ.1 hx).1;omega);grind
theorem Cs.set {w:aN}{B g cap:Nat}{V1 V3:List ByteArray}{y:ByteArray}(h:Cs w B g cap (V1++y::V3))(v:ByteArray):An (w.setCell ⟨g,V1.length,J⟩ (aA v)) (O (D ⟨g,0,J⟩) (V1++y::V3).length cap) (V1++v::V3):=by
 have hl:(V1++v::V3).length=(V1++y::V3).length:=by simp
 obtain⟨b,ac,c,e,hb,hc,hm,aa⟩:=h.strs.at (by simp<;>omega);simp only[eG,eJ,gN]at e;obtain⟨⟨rfl,rfl,_⟩,_,rfl⟩:=e;refine⟨by simp,.inr ⟨by grind,g,0,cap,by simp,?_,by omega,hm,fun j u hj=>?_⟩⟩
 ·simp_all
 ·rw[cX]
  by_cases ab:j=V1.length
  ·subst ab;have hu:=by simpa using hj.symm
   rw[hu];exact World.cell?_setCell_same _ _ _ (by have:=aa V1.length y (by simp);rwa[cX]at this)
  ·rw[aW _ _ _ _ (by simp)];grind
theorem Ahc (A B)(p)(K1 K3 V1 V3:List ByteArray)(y k v:ByteArray)(tv:aS)(w:aN)(h:Bj w tv (A++p::B))(hg:As (A++p::B))(hK:p.K.length=K1.length+1+K3.length)(hV:p.V=V1++y::V3)(hl:V1.length=K1.length)
  (fi:Ug (A++p::B) k A.length K1.length aV) (hn:((A++p::B).length+1) *48≤140737488355328):
  aY aF 116 #[tv,aA k,aA v] w fun e w'=>∃am,e=aH am∧Bj w' am (A++[⟨p.K,V1++v::V3⟩]++B)∧Below w.heap.size w w':=by
 have gc:=fun W (hW:Below w.heap.size w W)=>I5 (A++p::B) tv W (h.below hW) hg
 have fc:=fun W (hW:Below w.heap.size w W)=>fi tv W (h.below hW)
 have ay:=h;obtain⟨sv,rfl,hs⟩:=h;have az:(A++p::B)[A.length]?=D p:=by simp
 obtain⟨b,ai,cap,rfl,ba,bu,bv,hT⟩:=hs.at (by simp<;>omega);obtain⟨kv,vv,c0,c1,hk,hv⟩:=hT _ p az;have bb:=hg.1 p (by simp);have cp:=fun W hW=>Ll p kv vv W (hk.below hW) (hv.below hW) (by omega) (by have:=bb.2.1;omega) bb.2.2
 obtain⟨ka,kc,rfl⟩:=hk.shape;obtain⟨va,vc,rfl⟩:=hv.shape;have bw:A.length<(A++p::B).length:=by simp
 have bx:(A++p::B).length=A.length+1+B.length:=by simp;omega
 generalize aj:(w.alloc (U #[O (D ⟨b,ai,J⟩) (A++p::B).length cap] 65)).alloc (U #[O J 0 0] 65)=W0;have an:Below w.heap.size w W0:=by rw[←aj];exact((aE _ w).alloc (aG _) _).alloc (by simp) _
 have co:W0.heap.size=w.heap.size+1+1:=by rw[←aj];simp
 have b0:W0.heap[w.heap.size]?=D (U #[O (D ⟨b,ai,J⟩) (A++p::B).length cap] 65):=by rw[←aj];exact Ad (Ab w _) _
 have r0:W0.heap[w.heap.size+1]?=D (U #[O J 0 0] 65):=by
  rw[←aj];have:=Ab (w.alloc (U #[O (D ⟨b,ai,J⟩) (A++p::B).length cap] 65)) (U #[O J 0 0] 65);rwa[aC]at this
 have bz:=Aa b0 (j:=0) rfl;have hA:w.heap.size<W0.heap.size:=by omega
 have bc:w.heap.size+1<W0.heap.size:=by omega
 have g0:=gc _ an;have rp:=fun W pv hW hp=>Kz A [p] B [⟨p.K,V1++v::V3⟩] _ pv (A.length+1) W (ay.below hW) hp (by simp) (by simp) (by grind)
 have ca:p.V.length=V1.length+1+V3.length:=by rw[hV];simp;omega
 have HV:=hid hV;have HL:=hid hl;clear hV hT hs gc fi hg ay hk hv az bu hK;generalize ap:A++[⟨p.K,_⟩]++B=R at*;have cb:R.length≤(A++p::B).length:=by rw[←ap];simp<;>omega
 generalize bd:A.length=a at*;generalize be:(A++p::B).length=n at*;rw[←hl]at fc;generalize bf:V1.length=pl at*;generalize bg:p.K.length=m at*;generalize bh:p.V.length=mv at*;unfold bE at bv;have i0:(0:Int)≤a:=by omega
 have i1:a<(n:Int):=by omega
 have i2:¬((n:Int)=0):=by omega
 have i3:¬(a=(n:Int)):=by omega
 have i4:(0:Int)≤pl:=by omega
 have i5:pl<(mv:Int):=by omega
 have i6:IntKind.i64.wrap (a+1)=((a+1:Nat):Int):=by rw[bS];omega
 have cq:pl<mv:=by omega
 have HR:=hid ap;have ak:=hid (bD bd (bD be (bD bf (bD bg bh))));clear bx ca ap bd be bf bg bh hl hn bw cb;go_enter dM,dE;go_upto_region 11 with(first
  |(go_at_call 189;go_must(refine g0.mono ?_;rintro e w1 ⟨rfl,ac⟩;have cd:=(ac.cell hA).trans bz;have aq:=an.trans (ac.mono an.size);have bi:=aB hA ac.size;have bj:=aB bc ac.size;have r1:=(ac.block _ bc).trans r0))
  |(go_at_call 190;go_must(refine(fc _ aq).mono ?_;rintro e w2 ⟨rfl,ad⟩;have ce:=(ad.cell bi).trans cd;have ae:=aq.trans (ad.mono aq.size);have cr:=(ae.cell ba).trans c0;have cs:=(ae.cell ba).trans c1;have bk:=aB bi ad.size;have ar:=aB bj ad.size;have r2:=(ad.block _ bj).trans r1))
  |(go_at_call 191;go_must(refine(cp _ ae).mono ?_;rintro e w3 ⟨g1,d1,g2,d2,rfl,cf,af,ct,ag⟩;have bl:=(ag.cell bk).trans ce;have cg:=ae.trans (ag.mono ae.size);have cu:=aB bk ag.size;have ch:=aB ar ag.size;have r3:=(ag.block _ ar).trans r2;obtain⟨cv,cj,cx,cy,cz⟩:=af.block;have da:=af.lt;have db:w3.cell? ⟨g2,pl,J⟩=D (aA y):=A3t af (by rw[HV.out,←ak.out.2.2.1];simp);have dc:w3.frozen? ⟨g2,pl,J⟩=aT:=(by simp[aJ,cj]))))
 obtain⟨W4,ab⟩:∃W4,w3.setCell ⟨g2,pl,J⟩ (aA v)=W4:=⟨_,rfl⟩;have dd:=aB ar (aZ (aG _) af.1);have bm:Below w.heap.size w W4:=by rw[←ab];exact cg.setCell (by grind) _
 have au:W4.heap.size=w3.heap.size:=by rw[←ab];simp[cL]
 have ck:W4.cell? ⟨w.heap.size,0,J⟩=D (O (D ⟨b,ai,J⟩) n cap):=by rw[←ab,aW _ _ _ _ (by simp)];exact bl
 have r4:W4.heap[w.heap.size+1]?=D (U #[O J 0 0] 65):=by rw[←ab,aO _ _ _ _ (by grind)];exact r3
 have bn:An W4 (O (D ⟨g1,0,J⟩) m d1) p.K:=by
  have:=cf.setOther (q:=g2) (i:=pl) (by omega) (aA v);rw[ab]at this;have h:=this.strs;rw[ak.out.2.2.2.1]at h;exact h
 have bo:An W4 (O (D ⟨g2,0,J⟩) mv d2) (V1++v::V3):=by
  have h:=af;rw[HV.out]at h;have:=h.set v;rw[ak.out.2.2.1,ab,←HV.out,ak.out.2.2.2.2]at this;exact this
 obtain⟨aa,al⟩:∃aa,W4.alloc (U #[O (D ⟨g1,0,J⟩) m d1,O (D ⟨g2,0,J⟩) mv d2] 91)=aa:=⟨_,rfl⟩;have av:Below W4.heap.size W4 aa:=by rw[←al];exact(aE _ _).alloc (aG _) _
 have cl:aa.heap.size=w3.heap.size+1:=by rw[←al,aC,au]
 have bp:aa.heap[w3.heap.size]?=D (U #[O (D ⟨g1,0,J⟩) m d1,O (D ⟨g2,0,J⟩) mv d2] 91):=by rw[←al,←au];exact Ab W4 _
 have de:=(av.cell (by grind)).trans ck;have df:aa.cell? ⟨_,0,J⟩=D (O _ m d1):=Aa bp rfl;have dg:aa.cell? ⟨_,1,J⟩=D (O _ mv d2):=Aa bp rfl;obtain⟨W5,aw⟩:∃W5,aa.alloc (U #[O (D ⟨g1,0,J⟩) m d1,O (D ⟨g2,0,J⟩) mv d2] 91)=W5:=⟨_,rfl⟩;have ah:Below W4.heap.size W4 W5:=by rw[←aw];exact av.alloc av.size _
 have b5:W5.heap[w3.heap.size+1]?=D (U #[O (D ⟨g1,0,J⟩) m d1,O (D ⟨g2,0,J⟩) mv d2] 91):=by rw[←aw,←cl];exact Ab aa _
 have ax:=bm.trans (ah.mono bm.size);have cm:=rp W5 (O _ 1 1) ax (Pz b5 (bn.below ah) (bo.below ah) (by simp) (by decide));have bq:w.heap.size+1<W4.heap.size:=by rw[au];exact ch
 have r5:=(ah.block _ bq).trans r4;have cn:=aB bq ah.size;clear bl r3 bn bo cp fc rp g0;subst aw;subst al;subst ab;go_wp2_with(go_at_call 192;go_must(refine cm.mono ?_;rintro e w6 ⟨am,rfl,⟨dh,rfl,hP⟩,bt⟩;obtain⟨ao,cc,rfl⟩:=hP.shape;have r6:=(bt.block _ cn).trans r5;have q6:=Aa r6 (j:=0) rfl;have f6:w6.frozen? ⟨w.heap.size+1,0,J⟩=aT:=(by simp[aJ,r6])));refine aR (v:=bM #[O ao R.length cc]) (by simp[bL,go_sem, *]) rfl ?_;have hz:=ax.trans (bt.mono ax.size);exact⟨_,rfl,⟨_,rfl,Gz hP r6 _⟩,hz.setCell (by simp) _⟩
theorem Kj {w}{sv}{L}(h:An w sv L)(h0:0<L.length){q}{ao bo}{n m c d}{t}(hb:w.heap[q]?=D (U #[O ao n c,O bo m d] t)):sv.ownBlock≠D q:=by
 obtain⟨b,aa,cap,rfl,_,_,_,hc⟩:=h.at h0;intro e;obtain rfl:=by simpa[aI]using e
 obtain⟨x,hx⟩:∃x,L[0]?=D x:=⟨_,aD h0⟩;have:=hc 0 x hx;simp only[eR,hb,cB]at this;grind
def Asa (ao:Option Addr)(n c g:Nat):Prop:=(eS ao n c).ownBlock≠D g
theorem Ju {w:aN}{q}{arr}{t}(hb:w.heap[q]?=D (U arr t))(i)(v):(w.setCell ⟨q,i,J⟩ v).heap[q]?=D (U (arr.setIfInBounds i v) t):=by
 simp[cL,cA,hb]
theorem Ac9 (A B)(p)(K1 K2 V1 V2:List ByteArray)(k v:ByteArray)(tv:aS)(w:aN)(h:Bj w tv (A++p::B))(hg:As (A++p::B))(hK:p.K=K1++K2)(hV:p.V=V1++V2)(hl:V1.length=K1.length)
  (fi:Ug (A++p::B) k A.length K1.length aT) (hn:((A++p::B).length+1) *48≤140737488355328):
  aY aF 116 #[tv,aA k,aA v] w fun e w'=>∃ax,e=aH ax∧Bj w' ax (A++Fb ⟨K1++k::K2,V1++v::V2⟩++B)∧Below w.heap.size w w':=by
 have gc:=fun W (hW:Below w.heap.size w W)=>I5 (A++p::B) tv W (h.below hW) hg
 have fc:=fun W (hW:Below w.heap.size w W)=>fi tv W (h.below hW)
 have bv:=h;obtain⟨sv,rfl,hs⟩:=h;have bw:(A++p::B)[A.length]?=D p:=by simp
 obtain⟨b,ag,cap,rfl,bx,dq,ds,hT⟩:=hs.at (by simp<;>omega);obtain⟨kv,vv,c0,c1,hk,hv⟩:=hT _ p bw;have aa:=hg.1 p (by simp);have cp:=fun W hW=>Ll p kv vv W (hk.below hW) (hv.below hW) (by have:=aa.1;omega) (by have:=aa.2.1;omega) aa.2.2
 obtain⟨ka,kc,rfl⟩:=hk.shape;obtain⟨va,vc,rfl⟩:=hv.shape;have dt:A.length<(A++p::B).length:=by simp
 have du:(A++p::B).length=A.length+1+B.length:=by simp;omega
 generalize aq:(w.alloc (U #[O (D ⟨b,ag,J⟩) (A++p::B).length cap] 65)).alloc (U #[O J 0 0] 65)=W0;have ay:Below w.heap.size w W0:=by rw[←aq];exact((aE _ w).alloc (aG _) _).alloc (by simp) _
 have fa:W0.heap.size=w.heap.size+1+1:=by rw[←aq];simp
 have b0:W0.heap[w.heap.size]?=D (U #[O (D ⟨b,ag,J⟩) (A++p::B).length cap] 65):=by rw[←aq];exact Ad (Ab w _) _
 have r0:W0.heap[w.heap.size+1]?=D (U #[O J 0 0] 65):=by
  rw[←aq];have:=Ab (w.alloc (U #[O (D ⟨b,ag,J⟩) (A++p::B).length cap] 65)) (U #[O J 0 0] 65);rwa[aC]at this
 have bz:=Aa b0 (j:=0) rfl;have hA:w.heap.size<W0.heap.size:=by omega
 have ca:w.heap.size+1<W0.heap.size:=by omega
 have g0:=gc _ ay;have dv:(Fb ⟨K1++k::K2,V1++v::V2⟩).length≤2:=by unfold Fb;split<;>simp
 have rp:=fun W pv hW hp=>Kz A [p] B (Fb ⟨K1++k::K2,V1++v::V2⟩) _ pv (A.length+1) W (bv.below hW) hp (by simp) (by simp) (by omega)
 have cb:=aa.2.2;have HV:=hid hV;have HK:=hid hK;have HL:=hid hl;clear hV hK hT hs gc fi hg bv hk hv bw dq;generalize cd:Fb _=HP at*;generalize ce:A++HP++B=R at*;generalize cf:A.length=a at*;generalize cg:(A++p::B).length=n at*;rw[←hl]at fc;generalize ch:V1.length=pl at*;generalize cj:p.K.length=m at*;generalize ck:p.V.length=mv at*;unfold bE at ds;have i0:(0:Int)≤a:=by omega
 have i1:a<(n:Int):=by omega
 have i2:¬((n:Int)=0):=by omega
 have i3:¬(a=(n:Int)):=by omega
 have i4:(0:Int)≤pl:=by omega
 have i6:IntKind.i64.wrap (a+1)=((a+1:Nat):Int):=by rw[bS];omega
 have dw:=hid ch;have az:=hid cb;have HR:=hid ce;have ah:=hid (bD cf (bD cg (bD hl (bD cj ck))));clear du ce cf cg cj ck hn dt cb dv ch hl;go_enter dM,dE;go_upto_region 13 with(first
  |(go_at_call 189;go_must(refine g0.mono ?_;rintro e w1 ⟨rfl,ai⟩;have cl:=(ai.cell hA).trans bz;have ba:=ay.trans (ai.mono ay.size);have bc:=aB hA ai.size;have cm:=aB ca ai.size;have cn:=(ai.block _ hA).trans b0;have r1:=(ai.block _ ca).trans r0))
  |(go_at_call 190;go_must(refine(fc _ ba).mono ?_;rintro e w2 ⟨rfl,aj⟩;have co:=(aj.cell bc).trans cl;have an:=ba.trans (aj.mono ba.size);have dx:=(an.cell bx).trans c0;have dy:=(an.cell bx).trans c1;have bd:=aB bc aj.size;have be:=aB cm aj.size;have cq:=(aj.block _ bc).trans cn;have r2:=(aj.block _ cm).trans r1))
  |(go_at_call 191;go_must(refine(cp _ an).mono ?_;rintro e w3 ⟨g1,d1,g2,d2,rfl,ar,bf,fb,ak⟩;have dz:=(ak.cell bd).trans co;have cr:=an.trans (ak.mono an.size);have ea:=aB bd ak.size;have eb:=aB be ak.size;have cs:=(ak.block _ bd).trans cq;have r3:=(ak.block _ be).trans r2)))
 have fd:=aB be ar.1;have fe:=ar.lt;have ff:=bf.lt;obtain⟨X1,au⟩:∃X1,(w3.alloc (U #[O (D ⟨g1,0,J⟩) m d1,O (D ⟨g2,0,J⟩) mv d2] 91)).alloc (U #[aA k] 9)=X1:=⟨_,rfl⟩;have ap:Below w3.heap.size w3 X1:=by rw[←au];exact((aE _ _).alloc (aG _) _).alloc (by simp) _
 have fg:X1.heap.size=w3.heap.size+1+1:=by rw[←au];simp
 have xq:X1.heap[w3.heap.size]?=D (U #[O (D ⟨g1,0,J⟩) m d1,O (D ⟨g2,0,J⟩) mv d2] 91):=by rw[←au];exact Ad (Ab w3 _) _
 have xk:X1.heap[w3.heap.size+1]?=D (U #[aA k] 9):=by
  rw[←au];have:=Ab (w3.alloc (U #[O (D ⟨g1,0,J⟩) m d1,O (D ⟨g2,0,J⟩) mv d2] 91)) (U #[aA k] 9);rwa[aC]at this
 have oK:Cs X1 w2.heap.size g1 d1 (K1++K2):=by have:=ar.below ap;rwa[HK.out]at this
 have oV:Cs X1 w2.heap.size g2 d2 (V1++V2):=by have:=bf.below ap;rwa[HV.out]at this
 have bg:(K1++K2).length=m:=by rw[←HK.out];exact ah.out.2.2.2.1
 have ct:(V1++V2).length=mv:=by rw[←HV.out];exact ah.out.2.2.2.2
 have bh:=Qq K1 K2 k _ _ _ 1 X1 oK.2 (by have:=aa.1;rw[HK.out]at this;omega) (by have:=aa.2.1;rw[HK.out]at this;omega) xk (by simp[aI];omega);rw[bg,←ah.out.2.2.1]at bh;have bi:=hid (show(K1++k::K2).length=m+1 by grind);have cu:=hid (show(V1++v::V2).length=mv+1 by grind);have fh:=hid bg;have bj:=hid ct;clear bg ct;have cv:=(ap.block _ ea).trans cs;have rx:=(ap.block _ eb).trans r3;clear dz;go_upto_region 14 with(go_at_call 193;go_must(go_fit bh;rintro e w4 ⟨v1,rfl,av,ac,cx⟩;obtain⟨ad,ae,e1⟩:=av.shape;rw[bi.out]at e1;subst e1;have q4:=(ac.block _ (by omega) (by simp[aI];omega)).trans xq;have ec:=Aa q4 (j:=0) rfl;have ed:w4.frozen? ⟨w3.heap.size,0,J⟩=aT:=(by simp[aJ,q4])));have cy:=(ac.block _ (by omega) (by simp[aI];omega)).trans cv;have r4:=(ac.block _ (by omega) (by simp[aI];omega)).trans rx;have cz:=oV.grown (r:=g1) ac (by omega);obtain⟨Y,hY⟩:∃Y,w4.setCell ⟨w3.heap.size,0,J⟩ (O ad (m+1) ae)=Y:=⟨_,rfl⟩;have yq:Y.heap[w3.heap.size]?=D (U #[O ad (m+1) ae,O (D ⟨g2,0,J⟩) mv d2] 91):=by rw[←hY];exact Ju q4 0 _
 have yb:Y.heap[w.heap.size]?=D (U #[O (D ⟨b,ag,J⟩) n cap] 65):=by rw[←hY,aO _ _ _ _ (by grind)];exact cy
 have yr:Y.heap[w.heap.size+1]?=D (U #[O J 0 0] 65):=by rw[←hY,aO _ _ _ _ (by grind)];exact r4
 have da:Y.heap.size=w4.heap.size:=by rw[←hY];simp[cL]
 have db:Cs Y w2.heap.size g2 d2 (V1++V2):=by rw[←hY];exact cz.setOther (by omega) _
 have dc:An Y (O ad (m+1) ae) (K1++k::K2):=by rw[←hY];exact Dh av (Kj av (by grind) q4) _
 have fj:=ac.size;have dd:Below w.heap.size w Y:=by
  have de:Below w.heap.size w X1:=cr.trans (ap.mono cr.size);have ee:Below w.heap.size w w4:=de.grown ac de.size (fun j hj=>by simp[aI]at hj;omega);rw[←hY];exact ee.setCell (by grind) _
 have ef:Asa ad (m+1) ae g2:=by
  unfold Asa;rcases cx with e|⟨bb,e,hbb⟩
  ·rw[e];simp[aI];omega
  ·grind
 obtain⟨X2,bk⟩:∃X2,Y.alloc (U #[aA v] 9)=X2:=⟨_,rfl⟩;have al:Below Y.heap.size Y X2:=by rw[←bk];exact(aE _ _).alloc (aG _) _
 have fk:X2.heap.size=w4.heap.size+1:=by rw[←bk,aC,da]
 have xv:X2.heap[w4.heap.size]?=D (U #[aA v] 9):=by rw[←bk,←da];exact Ab Y _
 have bl:=Qq V1 V2 v _ _ _ 1 X2 (db.below al).2 (by rw[bj.out,az.out];have:=aa.1;rw[ah.out.2.2.2.1]at this;omega) (by rw[bj.out,az.out];have:=aa.2.1;rw[ah.out.2.2.2.1]at this;omega) xv (by simp[aI];omega);rw[bj.out,dw.out]at bl;have df:=(al.block _ (by omega)).trans yq;have dg:=(al.block _ (by omega)).trans yb;have dh:=(al.block _ (by omega)).trans yr;have eg:=Aa yq (j:=1) rfl;clear ec ed;go_upto_region 15 with(go_at_call 193;go_must(go_fit bl;rintro e w5 ⟨v2,rfl,aw,af,eh⟩;obtain⟨bm,bn,e2⟩:=aw.shape;rw[cu.out]at e2;subst e2;have q5:=(af.block _ (by omega) (by simp[aI];omega)).trans df;have ei:=Aa q5 (j:=1) rfl;have ej:w5.frozen? ⟨w3.heap.size,1,J⟩=aT:=(by simp[aJ,q5])));have fl:=af.size;have bo:=(dc.below al).grown af (.inr ef);have b5:=(af.block _ (by omega) (by simp[aI];omega)).trans dg;have r5:=(af.block _ (by omega) (by simp[aI];omega)).trans dh;have ek:=(dd.trans (al.mono dd.size)).grown af (by omega) (fun j hj=>by simp[aI]at hj;omega);generalize hZ:w5.setCell _ _=Z;have zq:Z.heap[w3.heap.size]?=D (U #[O ad (m+1) ae,O bm (mv+1) bn] 91):=by rw[←hZ];exact Ju q5 1 _
 have zb:Z.heap[w.heap.size]?=D (U #[O (D ⟨b,ag,J⟩) n cap] 65):=by rw[←hZ,aO _ _ _ _ (by grind)];exact b5
 have zr:Z.heap[w.heap.size+1]?=D (U #[O J 0 0] 65):=by rw[←hZ,aO _ _ _ _ (by grind)];exact r5
 have di:Below w.heap.size w Z:=by rw[←hZ];exact ek.setCell (by grind) _
 have el:An Z (O ad (m+1) ae) (K1++k::K2):=by rw[←hZ];exact Dh bo (Kj bo (by grind) q5) _
 have en:An Z (O bm (mv+1) bn) (V1++v::V2):=by rw[←hZ];exact Dh aw (Kj aw (by grind) q5) _
 have dj:=aK zr;have eo:=aK zq;have dk:=Ac1 ⟨_,_⟩ _ _ _ (el.below (aE _ _).drew) (en.below (aE _ _).drew) (by simp only;rw[bi.out];have:=aa.2.1;rw[ah.out.2.2.2.1]at this;omega) (by simp only;rw[bi.out,cu.out,az.out]);rw[cd]at dk;have z0:=Aa zb (j:=0) rfl;have z1:=Aa zq (j:=0) rfl;have z2:=Aa zq (j:=1) rfl;have ep:∀i j,(⟨w.heap.size+1,i,J⟩:Addr)≠⟨w.heap.size,j,J⟩:=fun i j h=>by grind
 have dl:∀i j,(⟨w.heap.size+1,i,J⟩:Addr)≠⟨w3.heap.size,j,J⟩:=fun i j h=>by grind
 have dm:w.heap.size<Z.drew.heap.size:=gJ dj;have bp:w3.heap.size<Z.drew.heap.size:=eo;have dn:w.heap.size+1<Z.drew.heap.size:=dj;clear hZ ei ej fc cp g0 bh bl eg dx dy cd cx eh ac af q4 q5 yq yb yr df dg dh b5 r5 xq xk xv cn cq cs cy cv r0 r1 r2 r3 r4 rx b0 bz cl co av aw bo dc oK oV cz db ar bf
 go_region_held3(fun w'=>w'.cell? ⟨w.heap.size,0,J⟩=D (O (D ⟨b,ag,J⟩) n cap)∧w'.cell? ⟨w3.heap.size,0,J⟩=D (O ad (m+1) ae)∧w'.cell? ⟨w3.heap.size,1,J⟩=D (O bm (mv+1) bn))
  (first|exact⟨(aW _ _ _ _ (ep _ _)).trans et,(aW _ _ _ _ (dl _ _)).trans eu,(aW _ _ _ _ (dl _ _)).trans ew⟩|grind|grind|simp_all)
  (first
   |(go_at_call 194;refine dk.mono ?_;rintro e w6 ⟨pv,rfl,dp,am⟩;obtain⟨po,pc,rfl⟩:=dp.shape;obtain⟨ab,bq⟩:=E9 am;have ex:=(ab _ _ dm).trans z0;have ey:=(ab _ _ bp).trans z1;have ez:=(ab _ _ bp).trans z2;have bt:=di.drew.trans (am.mono (show w.heap.size≤Z.drew.heap.size from di.size));have r6:=(am.block _ dn).trans zr;have y0:=aB dm am.size;have y1:=aB bp am.size;have y2:=aB dn am.size;clear ab bq)
   |(go_at_call 192;refine(rp _ _ bt dp).mono ?_;rintro e w7 ⟨ax,rfl,⟨fm,rfl,hP⟩,bu⟩;obtain⟨ao,cc,rfl⟩:=hP.shape;obtain⟨ab,bq⟩:=E9 bu;have et:=(ab _ _ y0).trans ex;have eu:=(ab _ _ y1).trans ey;have ew:=(ab _ _ y1).trans ez;have r7:=(bu.block _ y2).trans r6;have q7:w7.cell? ⟨_,0,J⟩=D (O J 0 0):=Aa r7 rfl;have f7:w7.frozen? ⟨w.heap.size+1,0,J⟩=aT:=(by simp[aJ,r7]);clear ab bq))
 go_wp2;refine aR (v:=bM #[O ao R.length cc]) (by simp[bL,go_sem, *]) rfl ?_;have hz:=bt.trans (bu.mono bt.size);exact⟨_,rfl,⟨_,rfl,Gz hP r7 _⟩,hz.setCell (by simp) _⟩
attribute [local go_sem↓] Go.wp_at_zero Go.wp_at_succ
theorem Aql (A B)(p)(K1 K2 V1 V2)(k v)(tv:aS)(w:aN)(h:Bj w tv (A++p::B))(hg:As (A++p::B))(hK:p.K=K1++K2)(hV:p.V=V1++V2)(hl:V1.length=K1.length)
  (fi:Ug (A++p::B) k (A++p::B).length 0 aT) (hB:B=[]) (bw:K2=[]) (hn:((A++p::B).length+1) *48≤140737488355328):
  aY aF 116 #[tv,aA k,aA v] w fun e w'=>∃ax,e=aH ax∧Bj w' ax (A++Fb ⟨K1++k::K2,V1++v::V2⟩++B)∧Below w.heap.size w w':=by
 have gc:=fun W (hW:Below w.heap.size w W)=>I5 (A++p::B) tv W (h.below hW) hg
 have fc:=fun W (hW:Below w.heap.size w W)=>fi tv W (h.below hW)
 have bx:=h;obtain⟨sv,rfl,hs⟩:=h;have bz:(A++p::B)[A.length]?=D p:=by simp
 obtain⟨b,ag,cap,rfl,ca,dt,du,hT⟩:=hs.at (by simp<;>omega);obtain⟨kv,vv,c0,c1,hk,hv⟩:=hT _ p bz;have aa:=hg.1 p (by simp);have cp:=fun W hW=>Ll p kv vv W (hk.below hW) (hv.below hW) (by have:=aa.1;omega) (by have:=aa.2.1;omega) aa.2.2
 obtain⟨ka,kc,rfl⟩:=hk.shape;obtain⟨va,vc,rfl⟩:=hv.shape;have dv:A.length<(A++p::B).length:=by simp
 have dw:(A++p::B).length=A.length+1+B.length:=by simp;omega
 generalize aq:(w.alloc (U #[O (D ⟨b,ag,J⟩) (A++p::B).length cap] 65)).alloc (U #[O J 0 0] 65)=W0;have ay:Below w.heap.size w W0:=by rw[←aq];exact((aE _ w).alloc (aG _) _).alloc (by simp) _
 have fe:W0.heap.size=w.heap.size+1+1:=by rw[←aq];simp
 have b0:W0.heap[w.heap.size]?=D (U #[O (D ⟨b,ag,J⟩) (A++p::B).length cap] 65):=by rw[←aq];exact Ad (Ab w _) _
 have r0:W0.heap[w.heap.size+1]?=D (U #[O J 0 0] 65):=by
  rw[←aq];have:=Ab (w.alloc (U #[O (D ⟨b,ag,J⟩) (A++p::B).length cap] 65)) (U #[O J 0 0] 65);rwa[aC]at this
 have cb:=Aa b0 (j:=0) rfl;have hA:w.heap.size<W0.heap.size:=by omega
 have cd:w.heap.size+1<W0.heap.size:=by omega
 have g0:=gc _ ay;have dx:B.length=0:=by rw[hB];rfl
 clear hB;have dy:(Fb ⟨K1++k::K2,V1++v::V2⟩).length≤2:=by unfold Fb;split<;>simp
 have rp:=fun W pv hW hp=>Kz A [p] B (Fb ⟨K1++k::K2,V1++v::V2⟩) _ pv (A.length+1) W (bx.below hW) hp (by simp) (by simp) (by omega)
 have ce:=aa.2.2;have HV:=hid hV;have HK:=hid hK;have HL:=hid hl;clear hV hK hT hs gc fi hg bx hk hv bz dt;generalize cf:Fb _=HP at*;generalize cg:A++HP++B=R at*;generalize ch:A.length=a at*;generalize cj:(A++p::B).length=n at*;generalize ck:V1.length=pl at*;generalize az:p.K.length=m at*;generalize cl:p.V.length=mv at*;unfold bE at du;have i0:(0:Int)≤a:=by omega
 have i1:a<(n:Int):=by omega
 have i2:¬((n:Int)=0):=by omega
 have i3:n-1=(a:Int):=by omega
 have i9:(n:Int)≤1000000000000000:=by omega
 have ff:(1:Int)≤n:=by omega
 have cm:=hid (show pl=m by have:=az;rw[HK.out,bw,bJ]at this;omega);clear bw dx;have i4:(0:Int)≤pl:=by omega
 have i6:IntKind.i64.wrap (a+1)=((a+1:Nat):Int):=by rw[bS];omega
 have dz:=hid ck;have ba:=hid ce;have HR:=hid cg;have ah:=hid (bD ch (bD cj (bD hl (bD az cl))));clear dw cg ch cj az cl hn dv ce dy ck hl;go_enter dM,dE;go_upto_region 13 with(first
  |(go_fit g0;rintro e w1 ⟨rfl,ai⟩;have cn:=(ai.cell hA).trans cb;have bc:=ay.trans (ai.mono ay.size);have bd:=aB hA ai.size;have co:=aB cd ai.size;have cq:=(ai.block _ hA).trans b0;have r1:=(ai.block _ cd).trans r0)
  |(go_fit(fc _ bc);rintro e w2 ⟨rfl,aj⟩;have cr:=(aj.cell bd).trans cn;have an:=bc.trans (aj.mono bc.size);have ea:=(an.cell ca).trans c0;have eb:=(an.cell ca).trans c1;have be:=aB bd aj.size;have bf:=aB co aj.size;have cs:=(aj.block _ bd).trans cq;have r2:=(aj.block _ co).trans r1)
  |(go_fit(cp _ an);rintro e w3 ⟨g1,d1,g2,d2,rfl,ar,bg,fg,ak⟩;have ec:=(ak.cell be).trans cr;have ct:=an.trans (ak.mono an.size);have ed:=aB be ak.size;have ee:=aB bf ak.size;have cu:=(ak.block _ be).trans cs;have r3:=(ak.block _ bf).trans r2))
 have fh:=aB bf ar.1;have fj:=ar.lt;have fk:=bg.lt;obtain⟨X1,au⟩:∃X1,(w3.alloc (U #[O (D ⟨g1,0,J⟩) m d1,O (D ⟨g2,0,J⟩) mv d2] 91)).alloc (U #[aA k] 9)=X1:=⟨_,rfl⟩;have ap:Below w3.heap.size w3 X1:=by rw[←au];exact((aE _ _).alloc (aG _) _).alloc (by simp) _
 have fl:X1.heap.size=w3.heap.size+1+1:=by rw[←au];simp
 have xq:X1.heap[w3.heap.size]?=D (U #[O (D ⟨g1,0,J⟩) m d1,O (D ⟨g2,0,J⟩) mv d2] 91):=by rw[←au];exact Ad (Ab w3 _) _
 have xk:X1.heap[w3.heap.size+1]?=D (U #[aA k] 9):=by
  rw[←au];have:=Ab (w3.alloc (U #[O (D ⟨g1,0,J⟩) m d1,O (D ⟨g2,0,J⟩) mv d2] 91)) (U #[aA k] 9);rwa[aC]at this
 have oK:Cs X1 w2.heap.size g1 d1 (K1++K2):=by have:=ar.below ap;rwa[HK.out]at this
 have oV:Cs X1 w2.heap.size g2 d2 (V1++V2):=by have:=bg.below ap;rwa[HV.out]at this
 have bh:(K1++K2).length=m:=by rw[←HK.out];exact ah.out.2.2.2.1
 have cv:(V1++V2).length=mv:=by rw[←HV.out];exact ah.out.2.2.2.2
 have bi:=Qq K1 K2 k _ _ _ 1 X1 oK.2 (by have:=aa.1;rw[HK.out]at this;omega) (by have:=aa.2.1;rw[HK.out]at this;omega) xk (by simp[aI];omega);rw[bh,←ah.out.2.2.1,cm.out]at bi;have bj:=hid (show(K1++k::K2).length=m+1 by grind);have cx:=hid (show(V1++v::V2).length=mv+1 by grind);have fm:=hid bh;have bk:=hid cv;clear bh cv;have cy:=(ap.block _ ed).trans cu;have rx:=(ap.block _ ee).trans r3;clear ec;go_upto_region 14 with(go_fit bi;rintro e w4 ⟨v1,rfl,av,ac,cz⟩;obtain⟨ad,ae,e1⟩:=av.shape;rw[bj.out]at e1;subst e1;have q4:=(ac.block _ (by omega) (by simp[aI];omega)).trans xq;have ef:=Aa q4 (j:=0) rfl;have eg:w4.frozen? ⟨w3.heap.size,0,J⟩=aT:=(by simp[aJ,q4]));have da:=(ac.block _ (by omega) (by simp[aI];omega)).trans cy;have r4:=(ac.block _ (by omega) (by simp[aI];omega)).trans rx;have db:=oV.grown (r:=g1) ac (by omega);obtain⟨Y,hY⟩:∃Y,w4.setCell ⟨w3.heap.size,0,J⟩ (O ad (m+1) ae)=Y:=⟨_,rfl⟩;have yq:Y.heap[w3.heap.size]?=D (U #[O ad (m+1) ae,O (D ⟨g2,0,J⟩) mv d2] 91):=by rw[←hY];exact Ju q4 0 _
 have yb:Y.heap[w.heap.size]?=D (U #[O (D ⟨b,ag,J⟩) n cap] 65):=by rw[←hY,aO _ _ _ _ (by grind)];exact da
 have yr:Y.heap[w.heap.size+1]?=D (U #[O J 0 0] 65):=by rw[←hY,aO _ _ _ _ (by grind)];exact r4
 have dc:Y.heap.size=w4.heap.size:=by rw[←hY];simp[cL]
 have dd:Cs Y w2.heap.size g2 d2 (V1++V2):=by rw[←hY];exact db.setOther (by omega) _
 have de:An Y (O ad (m+1) ae) (K1++k::K2):=by rw[←hY];exact Dh av (Kj av (by grind) q4) _
 have fn:=ac.size;have df:Below w.heap.size w Y:=by
  have dg:Below w.heap.size w X1:=ct.trans (ap.mono ct.size);have eh:Below w.heap.size w w4:=dg.grown ac dg.size (fun j hj=>by simp[aI]at hj;omega);rw[←hY];exact eh.setCell (by grind) _
 have ei:Asa ad (m+1) ae g2:=by
  unfold Asa;rcases cz with e|⟨bb,e,hbb⟩
  ·rw[e];simp[aI];omega
  ·grind
 obtain⟨X2,bl⟩:∃X2,Y.alloc (U #[aA v] 9)=X2:=⟨_,rfl⟩;have al:Below Y.heap.size Y X2:=by rw[←bl];exact(aE _ _).alloc (aG _) _
 have fo:X2.heap.size=w4.heap.size+1:=by rw[←bl,aC,dc]
 have xv:X2.heap[w4.heap.size]?=D (U #[aA v] 9):=by rw[←bl,←dc];exact Ab Y _
 have bm:=Qq V1 V2 v _ _ _ 1 X2 (dd.below al).2 (by rw[bk.out,ba.out];have:=aa.1;rw[ah.out.2.2.2.1]at this;omega) (by rw[bk.out,ba.out];have:=aa.2.1;rw[ah.out.2.2.2.1]at this;omega) xv (by simp[aI];omega);rw[bk.out,dz.out,cm.out]at bm;have dh:=(al.block _ (by omega)).trans yq;have di:=(al.block _ (by omega)).trans yb;have dj:=(al.block _ (by omega)).trans yr;have ej:=Aa yq (j:=1) rfl;clear ef eg;go_upto_region 15 with(go_fit bm;rintro e w5 ⟨v2,rfl,aw,af,ek⟩;obtain⟨bn,bo,e2⟩:=aw.shape;rw[cx.out]at e2;subst e2;have q5:=(af.block _ (by omega) (by simp[aI];omega)).trans dh;have el:=Aa q5 (j:=1) rfl;have en:w5.frozen? ⟨w3.heap.size,1,J⟩=aT:=(by simp[aJ,q5]));have fp:=af.size;have bp:=(de.below al).grown af (.inr ei);have b5:=(af.block _ (by omega) (by simp[aI];omega)).trans di;have r5:=(af.block _ (by omega) (by simp[aI];omega)).trans dj;have eo:=(df.trans (al.mono df.size)).grown af (by omega) (fun j hj=>by simp[aI]at hj;omega);generalize hZ:w5.setCell _ _=Z;have zq:Z.heap[w3.heap.size]?=D (U #[O ad (m+1) ae,O bn (mv+1) bo] 91):=by rw[←hZ];exact Ju q5 1 _
 have zb:Z.heap[w.heap.size]?=D (U #[O (D ⟨b,ag,J⟩) n cap] 65):=by rw[←hZ,aO _ _ _ _ (by grind)];exact b5
 have zr:Z.heap[w.heap.size+1]?=D (U #[O J 0 0] 65):=by rw[←hZ,aO _ _ _ _ (by grind)];exact r5
 have dk:Below w.heap.size w Z:=by rw[←hZ];exact eo.setCell (by grind) _
 have ep:An Z (O ad (m+1) ae) (K1++k::K2):=by rw[←hZ];exact Dh bp (Kj bp (by grind) q5) _
 have et:An Z (O bn (mv+1) bo) (V1++v::V2):=by rw[←hZ];exact Dh aw (Kj aw (by grind) q5) _
 have dl:=aK zr;have eu:=aK zq;have dm:=Ac1 ⟨_,_⟩ _ _ _ (ep.below (aE _ _).drew) (et.below (aE _ _).drew) (by simp only;rw[bj.out];have:=aa.2.1;rw[ah.out.2.2.2.1]at this;omega) (by simp only;rw[bj.out,cx.out,ba.out]);rw[cf]at dm;have z0:=Aa zb (j:=0) rfl;have z1:=Aa zq (j:=0) rfl;have z2:=Aa zq (j:=1) rfl;have ew:∀i j,(⟨w.heap.size+1,i,J⟩:Addr)≠⟨w.heap.size,j,J⟩:=fun i j h=>by grind
 have dn:∀i j,(⟨w.heap.size+1,i,J⟩:Addr)≠⟨w3.heap.size,j,J⟩:=fun i j h=>by grind
 have dp:w.heap.size<Z.drew.heap.size:=gJ dl;have bq:w3.heap.size<Z.drew.heap.size:=eu;have dq:w.heap.size+1<Z.drew.heap.size:=dl;clear hZ el en fc cp g0 bi bm ej ea eb cf cz ek ac af q4 q5 yq yb yr dh di dj b5 r5 xq xk xv cq cs cu da cy r0 r1 r2 r3 r4 rx b0 cb cn cr av aw bp de oK oV db dd ar bg
 go_region_held3(fun w'=>w'.cell? ⟨w.heap.size,0,J⟩=D (O (D ⟨b,ag,J⟩) n cap)∧w'.cell? ⟨w3.heap.size,0,J⟩=D (O ad (m+1) ae)∧w'.cell? ⟨w3.heap.size,1,J⟩=D (O bn (mv+1) bo))
  (first|exact⟨(aW _ _ _ _ (ew _ _)).trans ex,(aW _ _ _ _ (dn _ _)).trans ey,(aW _ _ _ _ (dn _ _)).trans ez⟩|grind|grind|simp_all)
  (first
   |(go_at_call 194;refine dm.mono ?_;rintro e w6 ⟨pv,rfl,ds,am⟩;obtain⟨po,pc,rfl⟩:=ds.shape;obtain⟨ab,bt⟩:=E9 am;have fa:=(ab _ _ dp).trans z0;have fb:=(ab _ _ bq).trans z1;have fd:=(ab _ _ bq).trans z2;have bu:=dk.drew.trans (am.mono (show w.heap.size≤Z.drew.heap.size from dk.size));have r6:=(am.block _ dq).trans zr;have y0:=aB dp am.size;have y1:=aB bq am.size;have y2:=aB dq am.size;clear ab bt)
   |(go_at_call 192;refine(rp _ _ bu ds).mono ?_;rintro e w7 ⟨ax,rfl,⟨fq,rfl,hP⟩,bv⟩;obtain⟨ao,cc,rfl⟩:=hP.shape;obtain⟨ab,bt⟩:=E9 bv;have ex:=(ab _ _ y0).trans fa;have ey:=(ab _ _ y1).trans fb;have ez:=(ab _ _ y1).trans fd;have r7:=(bv.block _ y2).trans r6;have q7:w7.cell? ⟨_,0,J⟩=D (O J 0 0):=Aa r7 rfl;have f7:w7.frozen? ⟨w.heap.size+1,0,J⟩=aT:=(by simp[aJ,r7]);clear ab bt))
 go_wp2;refine aR (v:=bM #[O ao R.length cc]) (by simp[bL,go_sem, *]) rfl ?_;have hz:=bu.trans (bv.mono bu.size);exact⟨_,rfl,⟨_,rfl,Gz hP r7 _⟩,hz.setCell (by simp) _⟩
theorem Ahd (tv)(k v)(w)(h:Bj w tv []):
  aY aF 116 #[tv,aA k,aA v] w fun e w'=>∃af,e=aH af∧Bj w' af [⟨[k],[v]⟩]∧Below w.heap.size w w':=by
 have gc:=fun W hW=>I5 [] tv W (h.below hW) ⟨by simp,by simp[Ch]⟩
 obtain⟨sv,rfl,hs⟩:=h;obtain⟨so,aa,rfl⟩:=hs.shape
 change∀W,Below _ w W→aY _ 189 #[bM #[O so 0 aa]] W _ at gc
 clear hs;generalize ab:(w.alloc (U #[O so 0 aa] 65)).alloc (U #[O J 0 0] 65)=W0;have ad:Below w.heap.size w W0:=by rw[←ab];exact((aE _ w).alloc (aG _) _).alloc (by simp) _
 have ai:W0.heap.size=w.heap.size+1+1:=by rw[←ab];simp
 have b0:W0.heap[w.heap.size]?=D (U #[O so 0 aa] 65):=by rw[←ab];exact Ad (Ab w _) _
 have r0:W0.heap[w.heap.size+1]?=D (U #[O J 0 0] 65):=by
  rw[←ab];have:=Ab (w.alloc (U #[O so 0 aa] 65)) (U #[O J 0 0] 65);rwa[aC]at this
 have aj:=Aa b0 (j:=0) rfl;have hA:w.heap.size<W0.heap.size:=by omega
 have ah:w.heap.size+1<W0.heap.size:=by omega
 go_enter dM,dE;go_wp2_with(go_fit(gc _ ad);rintro e w1 ⟨rfl,ae⟩;have ak:w1.cell? ⟨_,0,J⟩=D (O so 0 aa):=Aa ((ae.block _ hA).trans b0) rfl;have r1:=(ae.block _ ah).trans r0;obtain⟨W2,ac⟩:∃W2,((w1.alloc (U #[aA k] 9)).alloc (U #[aA v] 9)).alloc (U #[O (D ⟨w1.heap.size,0,J⟩) 1 1,O (D ⟨w1.heap.size+1,0,J⟩) 1 1] 91)=W2:=⟨_,rfl⟩;have ag:Below _ w1 W2:=(by rw[←ac];exact(((aE _ w1).alloc (aG _) _).alloc (by simp) _).alloc (by simp;omega) _);have r2:=(ag.block _ (aK r1)).trans r1;have q2:W2.cell? ⟨_,0,J⟩=D (O J 0 0):=Aa r2 rfl;have f2:W2.frozen? ⟨w.heap.size+1,0,J⟩=aT:=(by simp[aJ,r2]));have hz:=ad.trans (ae.mono ad.size);have e1:W2.heap[w1.heap.size]?=D (U #[aA k] 9):=by rw[←ac];exact Ad (Ad (Ab w1 _) _) _
 have e2:W2.heap[w1.heap.size+1]?=D (U #[aA v] 9):=by
  rw[←ac];refine Ad ?_ _;have:=Ab (w1.alloc (U #[aA k] 9)) (U #[aA v] 9);rwa[aC]at this
 have e3:W2.heap[w1.heap.size+1+1]?=D (U #[O (D ⟨w1.heap.size,0,J⟩) 1 1,O (D ⟨w1.heap.size+1,0,J⟩) 1 1] 91):=by
  rw[←ac];have:=Ab ((w1.alloc (U #[aA k] 9)).alloc (U #[aA v] 9)) (U #[O (D ⟨w1.heap.size,0,J⟩) 1 1,O (D ⟨w1.heap.size+1,0,J⟩) 1 1] 91);rwa[aC,aC]at this
 have one:∀{g}{x},W2.heap[g]?=D (U #[aA x] 9)→An W2 (O (D ⟨g,0,J⟩) 1 1) [x]:=fun{g x} hb=>
  ⟨by simp,.inr ⟨by simp,g,0,1,rfl,aK hb,by simp,by decide,fun j u hj=>by rw[cX];exact Aa hb (by grind)⟩⟩
 refine aR (v:=bM #[O (D ⟨w1.heap.size+1+1,0,J⟩) 1 1]) (by simp[bL,go_sem, *]) rfl ?_;exact⟨_,rfl,⟨_,rfl,Gz (Pz e3 (one e1) (one e2) (by simp) (by decide)) r2 _⟩,(hz.trans (ag.mono hz.size)).setCell (by simp) _⟩
theorem Qw (p)(hl:p.V.length=p.K.length):flat (Fb p)=p.K.zip p.V:=by
 unfold Fb;split
 ·simp[flat]
 ·rw[Fa,Fa,Rw,bJ];simp only;rw[←cE (by grind),bF,bF]
theorem Vn (p)(h1:1≤p.K.length)(h5:p.K.length≤5)(hl:p.V.length=p.K.length):∀q∈Fb p,q.ok:=by
 unfold Fb;intro q hq;split at hq
 ·rename_i h4;obtain rfl:q=p:=by grind
  exact⟨h1,h4,hl⟩
 ·rename_i h4;simp only[cP,cM,or_false]at hq;rcases hq with rfl|rfl
  ·refine⟨?_,?_,?_⟩<;>simp<;>omega
  ·refine⟨?_,?_,?_⟩<;>simp<;>omega
theorem Zz {A B}{p}{K1 K2 V1 V2}{k}(hg:As (A++p::B))(hp:p.K=K1++K2)(hv:p.V=V1++V2)(hl:V1.length=K1.length)(hA:∀x∈Ch A,klt x k=aV)(hK:∀x∈K1,klt x k=aV)(aa:∀x∈K2,klt k x=aV)(hB:∀x∈Ch B,klt k x=aV):
  Cut (flat (A++p::B)) k (flat A++K1.zip V1) J (K2.zip V2++flat B):=by
 have ab:∀q∈A,q.ok:=fun q hq=>hg.1 q (by grind)
 have ac:∀q∈B,q.ok:=fun q hq=>hg.1 q (by grind)
 refine⟨?_,?_,?_⟩
 ·rw[Bh,Fa,hp,hv,cE hl.symm];simp
 ·intro x hx;rcases bY.1 hx with hx|hx
  ·exact hA _ (by rw[←Ht ab];grind)
  ·exact hK _ (gZ hx).1
 ·intro x hx;rcases bY.1 hx with hx|hx
  ·exact aa _ (gZ hx).1
  ·exact hB _ (by rw[←Ht ac];grind)
theorem O6 {A B M}{p}{k v}{F1 F2}{o}(hg:As (A++p::B))(c:Cut (flat (A++p::B)) k F1 o F2)(hM:∀q∈M,q.ok)(hf:flat (A++M++B)=F1++(k,v)::F2):As (A++M++B)∧flat (A++M++B)=I3 (flat (A++p::B)) k v:=by
 refine⟨Xr ?_ (by rw[hf];exact c.rise_put hg.rise v),by rw[hf,c.put]⟩;intro q hq;simp only[dO,bY]at hq;rcases hq with hq|hq|hq
 ·exact hg.1 q (by grind)
 ·grind
 ·exact hg.1 q (by grind)
def A1t (w w':aN)(e:eV)(T:List Pg)(k v:ByteArray):Prop:=
 ∃tv' T',e=aH tv'∧Bj w' tv' T'∧Below w.heap.size w w'∧As T'∧flat T'=I3 (flat T) k v∧T'.length≤T.length+1
theorem Aqm (T)(tv)(k v)(w)(h:Bj w tv T)(hg:As T)(hn:(T.length+1) *48≤140737488355328):
  aY aF 116 #[tv,aA k,aA v] w fun e w'=>A1t w w' e T k v:=by
 rcases cG T.length with h0|h0
 ·obtain rfl:=aP h0;refine(Ahd tv k v w h).mono ?_;rintro e w' ⟨ab,he,ht,hb⟩;have h1:∀q∈([⟨[k],[v]⟩]:List Pg),q.ok:=by
   intro q hq;obtain rfl:q=_:=List.mem_singleton.1 hq;exact⟨by simp,by simp,rfl⟩
  exact⟨ab,_,he,ht,hb,⟨h1,by simp[Ch]⟩,by rfl,by simp⟩
 ·obtain⟨pg,pl,th,hF,fi⟩:=Va T k hg (by omega);rcases hF with⟨rfl,rfl,rfl,hall⟩|⟨A,p,B,K1,y,K3,rfl,hp,rfl,rfl,hA,hK,hy,rfl⟩
  ·obtain⟨A,p,rfl⟩:∃A p,T=A++[p]:=⟨T.dropLast,T.getLast (by rintro rfl;simp at h0),(List.dropLast_concat_getLast _).symm⟩;have aa:=hg.1 p (by simp);have ai:∀x∈Ch A,klt x k=aV:=fun x hx=>hall x (by rw[Dk];grind)
   have c:=Zz hg (bJ _).symm (bJ _).symm aa.2.2 ai (fun x hx=>hall x (by rw[Dk];exact eT _ (by simpa[Ch]using hx))) (by simp) (by simp[Ch]);refine(Aql A [] p p.K [] p.V [] k v tv w h hg (bJ _).symm (bJ _).symm aa.2.2 fi rfl rfl hn).mono ?_;rintro e w' ⟨ab,he,ht,hb⟩;have hM:=Vn ⟨p.K++[k],p.V++[v]⟩ (by simp) (by simp;exact aa.2.1) (by simp;exact aa.2.2);have hq:=O6 (v:=v) hg c hM (by
    rw[Bh,Bh,Qw _ (by simp;exact aa.2.2)];simp only;rw[cE aa.2.2.symm];simp)
   refine⟨ab,_,he,ht,hb,hq.1,hq.2,?_⟩;have:(Fb ⟨p.K++[k],p.V++[v]⟩).length≤2:=by unfold Fb;split<;>simp
   grind
  ·have aa:=hg.1 p (by simp)
   by_cases af:y=k
   ·subst af;obtain⟨V1,v0,V3,hV,ac,am,c⟩:=Pq hg hp hA hK;have ad:=by simpa using fi
    refine(Ahc A B p K1 K3 V1 V3 v0 y v tv w h hg (by grind) hV ac ad hn).mono ?_;rintro e w' ⟨ab,he,ht,hb⟩;have hq:=O6 (M:=[⟨p.K,V1++v::V3⟩]) (v:=v) hg c (by
     intro q hq;obtain rfl:=by simpa using hq
     refine⟨aa.1,aa.2.1,?_⟩;grind) (by
     rw[Bh,Bh,Fa,Rw,hp];simp only;rw[cE ac.symm];simp)
    exact⟨ab,_,he,ht,hb,hq.1,hq.2,by simp⟩
   ·have ag:klt k y=aV:=by
     rcases Ji hy with e|e
     ·grind
     ·omega
    have ad:=by simpa[af]using fi
    have hr:=hg.2;rw[Dk,Ey,hp]at hr;have ah:=(Gu.1 hr).2.1;rw[dO]at ah;have ae:=(Gu.1 ah).2.1;rw[Cd,gM,List.pairwise_cons]at ae;have aj:∀x∈y::K3,klt k x=aV:=by
     intro x hx;rcases cP.1 hx with rfl|hx
     ·omega
     ·exact Co ag (ae.1 x (List.mem_append_left _ hx))
    have ak:=fun x hx=>Co ag (ae.1 x (eT _ hx))
    have al:=aa.2.2;have an:K1.length≤p.V.length:=by rw[al,hp];simp
    have hV:p.V=p.V.take _++p.V.drop K1.length:=(bF _ _).symm;have ac:(p.V.take K1.length).length=K1.length:=by simp;omega
    have c:=Zz hg hp hV ac hA hK aj ak;refine(Ac9 A B p K1 _ _ _ k v tv w h hg hp hV ac ad hn).mono ?_;rintro e w' ⟨ab,he,ht,hb⟩;have ap:(K1++k::y::K3).length=p.K.length+1:=by rw[hp];simp;omega
    have aq:(p.V.take K1.length++v::p.V.drop K1.length).length=p.V.length+1:=by simp;omega
    have hM:=Vn ⟨K1++k::y::K3,p.V.take K1.length++v::p.V.drop K1.length⟩ (by grind) (by simp only;have:=aa.2.1;omega) (by grind);have hq:=O6 (v:=v) hg c hM (by
     rw[Bh,Bh,Qw _ (by grind)];simp only;rw[cE ac.symm];simp)
    refine⟨ab,_,he,ht,hb,hq.1,hq.2,?_⟩;have:(Fb ⟨K1++k::y::K3,p.V.take K1.length++v::p.V.drop K1.length⟩).length≤2:=by unfold Fb;split<;>simp
    grind
theorem Asb (T)(tv)(i)(w)(h:Bj w tv T)(ac:i<0∨(T.length:Int)≤i+1)(ae:-1≤i)(hi:i≤4611686018427387904):
  aY aF 254 #[tv,aL aM i] w fun e w'=>∃ad,e=aH ad∧Bj w' ad T∧Below w.heap.size w w':=by
 obtain⟨sv,rfl,hs⟩:=h;obtain⟨so,aa,rfl⟩:=hs.shape;have HS:=hid hs;clear hs;generalize T.length=n at*;have ab:Below _ w ((w.alloc (U #[O so n aa] 65)).alloc (U #[O so n aa] 65)):=((aE _ w).alloc (aG _) _).alloc (by simp) _
 by_cases af:i<0
 ·clear ac;go_enter eN,eH;go_wp2;refine aR (v:=bM #[O so n aa]) (by simp[bL,go_sem]) rfl ?_;exact⟨_,rfl,⟨_,rfl,HS.out.below ab⟩,ab⟩
 ·have ag:n≤i+1:=by omega
  clear ac;go_enter eN,eH;go_wp2;refine aR (v:=bM #[O so n aa]) (by simp[bL,go_sem]) rfl ?_;exact⟨_,rfl,⟨_,rfl,HS.out.below ab⟩,ab⟩
theorem Am {w W}(h:Below w.heap.size w W)(o):Below w.heap.size w (W.alloc o):=h.alloc h.size o
theorem Hp {w W}(h:Below w.heap.size w W){p}(hp:w.heap.size≤p.block)(v):Below w.heap.size w (W.setCell p v):=h.setCell hp v
theorem Al {W:aN}{g}(h:W.heap.size=g)(o):(W.alloc o).heap[g]?=D o:=by rw[←h];exact Ab W o
theorem A7 (W:aN)(o):(W.alloc o).heap.size=W.heap.size+1:=aC _ _
theorem Bf (W:aN)(o p):((W.alloc o).alloc p).heap.size=W.heap.size+1+1:=by simp
theorem Bd (W:aN):W.drew.heap.size=W.heap.size:=rfl
theorem A5 {W:aN}{g:Nat}{x}(h:W.heap[g]?=D x):W.drew.heap[g]?=D x:=h
theorem Aqn (K L)(s1 s2)(g cap)(w)(hb:w.heap[g]?=D (U #[s1,s2] 43))(h1:An w s1 K)(h2:An w s2 L)(hl:K.length+L.length≤8):
  aY aF 313 #[O (D ⟨g,0,J⟩) 2 cap] w fun e w'=>∃ao c,e=aH (O ao (K.length+L.length) c)∧An w' (O ao (K.length+L.length) c) (K++L)∧Below w.heap.size w w':=by
 have aa:=A1m [(s1,K.length,K.map aA),(s2,L.length,L.map aA)] g cap w (aK hb) (by
   intro i x hx
   match i,hx with
   |0,hx=>simp at hx;subst hx;exact Aa hb rfl
   |1,hx=>simp at hx;subst hx;exact Aa hb rfl
   |n+2,hx=>grind) (by
   intro x hx;simp only[cP,cM,or_false]at hx;rcases hx with rfl|rfl
   ·exact⟨h1,Oy K⟩
   ·exact⟨h2,Oy L⟩) (by simp) (by simp[Vb.sum];omega)
 refine aa.mono ?_;rintro e w' ⟨v,rfl,hr,ab⟩;have ac:Vb.sum [(s1,K.length,K.map aA),(s2,L.length,L.map aA)]=K.length+L.length:=by simp[Vb.sum]
 have ad:Vb.all [(s1,K.length,K.map aA),(s2,L.length,L.map aA)]=(K++L).map aA:=by simp[Vb.all]
 rw[ac,ad]at hr;obtain⟨ao,c,rfl⟩:=hr.shape;refine⟨ao,c,rfl,?_,ab⟩;have e:(K++L).length=K.length+L.length:=by simp
 unfold An;grind
theorem Aym {Wd w2}{ko vo}{n kc vc}{K V}(hk:An w2 (O ko n kc) K)(hv:An w2 (O vo n vc) V)(hz:Below Wd.heap.size Wd w2):
  (w2.alloc (U #[O ko n kc,O vo n vc] 91)).heap[w2.heap.size]?=D (U #[O ko n kc,O vo n vc] 91)∧An (w2.alloc (U #[O ko n kc,O vo n vc] 91)) (O ko n kc) K∧An (w2.alloc (U #[O ko n kc,O vo n vc] 91)) (O vo n vc) V∧Below Wd.heap.size Wd (w2.alloc (U #[O ko n kc,O vo n vc] 91)):=
 ⟨Ab _ _,hk.below (Am (aE _ _) _),hv.below (Am (aE _ _) _),Am hz _⟩
theorem Ayn {Wd w2}{ko vo}{g n kc vc}{K V}(hk:An w2 (O ko n kc) K)(hv:An w2 (O vo n vc) V)(aa:0<K.length)(ab:0<V.length)(hz:Below Wd.heap.size Wd w2)(hg:Wd.heap.size≤g)(p7:w2.heap[g]?=D (U #[O J 0 0,O J 0 0] 91)):
  ((w2.setCell ⟨g,0,J⟩ (O ko n kc)).setCell ⟨g,1,J⟩ (O vo n vc)).heap[g]?=D (U #[O ko n kc,O vo n vc] 91)∧An ((w2.setCell ⟨g,0,J⟩ (O ko n kc)).setCell ⟨g,1,J⟩ (O vo n vc)) (O ko n kc) K∧An ((w2.setCell ⟨g,0,J⟩ (O ko n kc)).setCell ⟨g,1,J⟩ (O vo n vc)) (O vo n vc) V∧Below Wd.heap.size Wd ((w2.setCell ⟨g,0,J⟩ (O ko n kc)).setCell ⟨g,1,J⟩ (O vo n vc)):=by
 have b1:(w2.setCell _ _).heap[g]?=D (U #[O ko n kc,O J 0 0] 91):=Ju p7 0 _;have k1:=Dh hk (Kj hk aa p7) (i:=0) (O ko n kc);have v1:=Dh hv (Kj hv ab p7) (i:=0) (O ko n kc);exact⟨Ju b1 1 _,Dh k1 (Kj k1 aa b1) _,Dh v1 (Kj v1 ab b1) _,Hp (Hp hz hg _) hg _⟩
theorem Asc (A B:List Pg)(a b:Pg)(tv:aS)(w:aN)(h:Bj w tv (A++a::b::B))(ha:a.ok)(hb:b.ok)(hn:(A++a::b::B).length*48≤140737488355328):
  aY aF 254 #[tv,aL aM A.length] w fun e w'=>∃bn,e=aH bn∧Bj w' bn (if a.K.length+b.K.length≤4 then A++[⟨a.K++b.K,a.V++b.V⟩]++B else A++a::b::B)∧Below w.heap.size w w':=by
 have cb:=h;obtain⟨sv,rfl,hs⟩:=h;obtain⟨bb,aa,cap,rfl,au,dw,de,hT⟩:=hs.at (by simp<;>omega);obtain⟨ak,av,c0,c1,bo,bc⟩:=hT A.length a (by simp);obtain⟨bk,bv,c2,c3,bp,bd⟩:=hT (A.length+1) b (by simp);obtain⟨ag,ah,rfl⟩:=bo.shape;obtain⟨ai,aj,rfl⟩:=bc.shape;obtain⟨al,am,rfl⟩:=bp.shape;obtain⟨an,ap,rfl⟩:=bd.shape;have df:(A++a::b::B).length=A.length+B.length+2:=by simp;omega
 obtain⟨a1,a4,bq⟩:=ha;obtain⟨b1,b4,bt⟩:=hb;rw[bq]at c1 bc;rw[bt]at c3 bd;have HS:=hid hs;have dg:=hid bo;have dh:=hid bc;have di:=hid bp;have dj:=hid bd;have aw:=hid (bD bq bt);clear hs bo bc bp bd hT;generalize cd:A.length=x at*;generalize dk:(A++a::b::B).length=n at*;generalize ce:a.K.length=ka at*;generalize dl:b.K.length=kb at*;clear bq bt;unfold bE at de;have i0:(0:Int)≤(x:Int):=by omega
 have i1:(x:Int)<(n:Int):=by omega
 have i2:(x:Int)+1<(n:Int):=by omega
 have i3:(0:Int)≤(x:Int)+1:=by omega
 have i4:((x:Int)+1).toNat=x+1:=by omega
 have i5:IntKind.i64.wrap ((x:Int)+1)=(x:Int)+1:=by rw[bS];omega
 generalize ax:(w.alloc (U #[O (D ⟨bb,aa,J⟩) n cap] 65)).alloc (U #[O J 0 0] 65)=W0;have aq:Below w.heap.size w W0:=by rw[←ax];exact((aE _ w).alloc (aG _) _).alloc (by simp) _
 have ay:W0.heap.size=w.heap.size+1+1:=by rw[←ax];simp
 have b0:W0.heap[w.heap.size]?=D (U #[O (D ⟨bb,aa,J⟩) n cap] 65):=by rw[←ax];exact Ad (Ab w _) _
 have r0:W0.heap[w.heap.size+1]?=D (U #[O J 0 0] 65):=by
  rw[←ax];have:=Ab (w.alloc (U #[O (D ⟨bb,aa,J⟩) n cap] 65)) (U #[O J 0 0] 65);rwa[aC]at this
 have t0:=Aa b0 (j:=0) rfl;have d0:=(aq.cell (p:=⟨bb,aa+x*2,J⟩) au).trans c0;have d1:=(aq.cell (p:=⟨bb,aa+x*2+1,J⟩) au).trans c1;have d2:=(aq.cell (p:=⟨bb,aa+(x+1) *2,J⟩) au).trans c2;have d3:=(aq.cell (p:=⟨bb,aa+(x+1) *2+1,J⟩) au).trans c3;have be:bb<W0.heap.size:=aB au aq.size;clear c0 c1 c2 c3 df;have ks:∀W,Below W0.heap.size W0 W→(W.cell? ⟨w.heap.size,0,J⟩=D (O (D ⟨bb,aa,J⟩) n cap)∧W.cell? ⟨bb,aa+x*2,J⟩=D (O ag ka ah)∧W.cell? ⟨bb,aa+x*2+1,J⟩=D (O ai ka aj)∧W.cell? ⟨bb,aa+(x+1) *2,J⟩=D (O al kb am)∧W.cell? ⟨bb,aa+(x+1) *2+1,J⟩=D (O an kb ap)):=fun W hW=>
  ⟨(hW.cell (p:=⟨w.heap.size,0,J⟩) (by simp only;omega)).trans t0,(hW.cell (p:=⟨bb,aa+x*2,J⟩) be).trans d0,(hW.cell (p:=⟨bb,aa+x*2+1,J⟩) be).trans d1,(hW.cell (p:=⟨bb,aa+(x+1) *2,J⟩) be).trans d2,(hW.cell (p:=⟨bb,aa+(x+1) *2+1,J⟩) be).trans d3⟩
 have cf:w.heap.size<W0.heap.size:=by omega
 have cg:w.heap.size+1<W0.heap.size:=by omega
 go_enter eN,eH;go_upto_region 3 with fail;clear ax
 go_cut[5,6]from 18 (fun s5 s6 wx=>∃pa pb,s5=gD (D ⟨pa,0,J⟩)∧s6=gD (D ⟨pb,0,J⟩)∧wx.heap[pa]?=D (U #[O ag ka ah,O ai ka aj] 91)∧wx.heap[pb]?=D (U #[O al kb am,O an kb ap] 91)∧Below W0.heap.size W0 wx)
 case first=>
  go_region_held3(fun w'=>w'.cell? ⟨w.heap.size,0,J⟩=D (O (D ⟨bb,aa,J⟩) n cap)∧w'.cell? ⟨bb,aa+x*2,J⟩=D (O ag ka ah)∧w'.cell? ⟨bb,aa+x*2+1,J⟩=D (O ai ka aj)∧w'.cell? ⟨bb,aa+(x+1) *2,J⟩=D (O al kb am)∧w'.cell? ⟨bb,aa+(x+1) *2+1,J⟩=D (O an kb ap))
   (first|exact ks _ (aE _ _).drew|exact ks _ (Am (aE _ _) _).drew|exact ks _ (Am (Am (aE _ _) _) _).drew|go_keep)
   (fail)
  all_goals
   go_wp2_with fail;go_meet
   case rel=>
    first
     |exact⟨_,_,rfl,rfl,A5 (Ad (Al ay _) _),A5 (Al (by rw[aC,ay]) _),(Am (Am (aE _ _) _) _).drew⟩
     |exact⟨_,_,rfl,rfl,A5 (Al (by rw[aC,ay]) _),A5 (Ad (Al ay _) _),(Am (Am (aE _ _) _) _).drew⟩
 case rest=>
  obtain⟨pa,pb,rfl,rfl,bf,bg,ar⟩:=hcut;obtain⟨Wd,dm⟩:∃W,W=wc:=⟨_,rfl⟩;subst dm;have ch:Wd.cell? ⟨pa,0,J⟩=D (O ag ka ah):=Aa bf rfl;have cj:Wd.cell? ⟨pa,1,J⟩=D (O ai ka aj):=Aa bf rfl;have cl:Wd.cell? ⟨pb,0,J⟩=D (O al kb am):=Aa bg rfl;have cm:Wd.cell? ⟨pb,1,J⟩=D (O an kb ap):=Aa bg rfl;have ct:Wd.cell? ⟨w.heap.size,0,J⟩=D (O (D ⟨bb,aa,J⟩) n cap):=(ar.cell (p:=⟨w.heap.size,0,J⟩) cf).trans t0;have cr:=(ar.block _ cg).trans r0;have dn:Wd.cell? ⟨w.heap.size+1,0,J⟩=D (O J 0 0):=Aa cr rfl;have dp:Wd.frozen? ⟨w.heap.size+1,0,J⟩=aT:=by simp[aJ,cr]
  have ad:Below w.heap.size w Wd:=aq.trans (ar.mono aq.size);have dq:w.heap.size<Wd.heap.size:=aB cf ar.size;have cn:w.heap.size+1<Wd.heap.size:=aB cg ar.size;have co:=aK bf;have cp:=aK bg;clear ks d0 d1 d2 d3 t0 b0 r0 ay ar
  by_cases cq:ka+kb≤4
  ·have j0:(ka:Int)+(kb:Int)≤4:=by omega
   have ck:=fun W g (hW:Below Wd.heap.size Wd W) hb=>Aqn a.K b.K (O ag ka ah) (O al kb am) g 2 W hb (dg.out.below (ad.trans (hW.mono ad.size))) (di.out.below (ad.trans (hW.mono ad.size))) (by omega)
   have cv:=fun W g (hW:Below Wd.heap.size Wd W) hb=>Aqn a.V b.V (O ai ka aj) (O an kb ap) g 2 W hb (dh.out.below (ad.trans (hW.mono ad.size))) (dj.out.below (ad.trans (hW.mono ad.size))) (by rw[aw.out.1,aw.out.2];omega)
   rw[ce,dl]at ck;rw[aw.out.1,aw.out.2]at cv;have ae:∀W,Below Wd.heap.size Wd W→(W.cell? ⟨pa,0,J⟩=D (O ag ka ah)∧W.cell? ⟨pa,1,J⟩=D (O ai ka aj)∧W.cell? ⟨pb,0,J⟩=D (O al kb am)∧W.cell? ⟨pb,1,J⟩=D (O an kb ap)):=fun W hW=>
    ⟨(hW.cell (p:=⟨pa,0,J⟩) co).trans ch,(hW.cell (p:=⟨pa,1,J⟩) co).trans cj,(hW.cell (p:=⟨pb,0,J⟩) cp).trans cl,(hW.cell (p:=⟨pb,1,J⟩) cp).trans cm⟩
   go_upto_region 6 with fail
   go_cut[7]from 18 (fun s7 wx=>∃pc ko kc vo vc,s7=gD (D ⟨pc,0,J⟩)∧wx.heap[pc]?=D (U #[O ko (ka+kb) kc,O vo (ka+kb) vc] 91)∧An wx (O ko (ka+kb) kc) (a.K++b.K)∧An wx (O vo (ka+kb) vc) (a.V++b.V)∧Below Wd.heap.size Wd wx)
   case first=>
    go_region_held3(fun w'=>w'.cell? ⟨pa,0,J⟩=D (O ag ka ah)∧w'.cell? ⟨pa,1,J⟩=D (O ai ka aj)∧w'.cell? ⟨pb,0,J⟩=D (O al kb am)∧w'.cell? ⟨pb,1,J⟩=D (O an kb ap))
     (with_reducible first|exact ae _ az|exact ae _ (Am az _)|exact ae _ af|exact ae _ (Am af _)|exact ae _ (Am (Am af _) _)|exact ae _ (aE _ _).drew|exact ae _ (Am (aE _ _) _).drew|exact ae _ (Am (Am (aE _ _) _) _).drew|exact ae _ (Am (Am (Am (aE _ _) _) _) _).drew|exact ae _ (Hp (Hp az (by simp only;omega) _) (by simp only;omega) _))
     (first
      |(go_at_call 313;refine(ck _ _ (by with_reducible first|exact(aE _ _).drew|exact(Am (aE _ _) _).drew|exact(Am (Am (aE _ _) _) _).drew|exact(Am (Am (Am (aE _ _) _) _) _).drew) (by with_reducible first|exact A5 (Al (by with_reducible first|exact rfl|exact A7 _ _|exact Bf _ _ _) _)|exact A5 (Ad (Al (by with_reducible first|exact rfl|exact A7 _ _|exact Bf _ _ _) _) _)|exact A5 (Ad (Ad (Al (by with_reducible first|exact rfl|exact A7 _ _|exact Bf _ _ _) _) _) _))).mono ?_;rintro e w1 ⟨ko,kc,rfl,bu,ab⟩;have af:Below Wd.heap.size Wd w1:=Ac (by with_reducible first|exact(aE _ _).drew|exact(Am (aE _ _) _).drew|exact(Am (Am (aE _ _) _) _).drew|exact(Am (Am (Am (aE _ _) _) _) _).drew) ab;have ds:=ab.size;simp only[aC,Bd]at ds)
      |(go_at_call 313;refine(cv _ _ (by with_reducible first|exact af|exact Am af _|exact Am (Am af _) _) (by with_reducible first|exact Al (by with_reducible first|exact rfl|exact A7 _ _|exact Bf _ _ _) _|exact Ad (Al (by with_reducible first|exact rfl|exact A7 _ _|exact Bf _ _ _) _) _|exact(ab.block _ (by simp only[aC,Bd];omega)).trans (A5 (Al (by with_reducible first|exact rfl|exact A7 _ _|exact Bf _ _ _) _))|exact Ad ((ab.block _ (by simp only[aC,Bd];omega)).trans (A5 (Al (by with_reducible first|exact rfl|exact A7 _ _|exact Bf _ _ _) _))) _|exact Ad (Ad ((ab.block _ (by simp only[aC,Bd];omega)).trans (A5 (Al (by with_reducible first|exact rfl|exact A7 _ _|exact Bf _ _ _) _))) _) _|exact(ab.block _ (by simp only[aC,Bd];omega)).trans (A5 (Ad (Al (by with_reducible first|exact rfl|exact A7 _ _|exact Bf _ _ _) _) _))|exact Ad ((ab.block _ (by simp only[aC,Bd];omega)).trans (A5 (Ad (Al (by with_reducible first|exact rfl|exact A7 _ _|exact Bf _ _ _) _) _))) _|exact Ad (Ad ((ab.block _ (by simp only[aC,Bd];omega)).trans (A5 (Ad (Al (by with_reducible first|exact rfl|exact A7 _ _|exact Bf _ _ _) _) _))) _) _|exact(ab.block _ (by simp only[aC,Bd];omega)).trans (A5 (Ad (Ad (Al (by with_reducible first|exact rfl|exact A7 _ _|exact Bf _ _ _) _) _) _))|exact Ad ((ab.block _ (by simp only[aC,Bd];omega)).trans (A5 (Ad (Ad (Al (by with_reducible first|exact rfl|exact A7 _ _|exact Bf _ _ _) _) _) _))) _|exact Ad (Ad ((ab.block _ (by simp only[aC,Bd];omega)).trans (A5 (Ad (Ad (Al (by with_reducible first|exact rfl|exact A7 _ _|exact Bf _ _ _) _) _) _))) _) _)).mono ?_;rintro e w2 ⟨vo,vc,rfl,cs,ac⟩;have az:Below Wd.heap.size Wd w2:=Ac (by with_reducible first|exact af|exact Am af _|exact Am (Am af _) _) ac;have cu:An w2 (O ko (ka+kb) kc) (a.K++b.K):=(by with_reducible first|exact bu.below ac|exact(bu.below (Am (aE _ _) _)).below ac|exact(bu.below (Am (Am (aE _ _) _) _)).below ac);(try simp only[aC]at hs2);(first|(have p7:w2.heap[Wd.heap.size]?=D (U #[O J 0 0,O J 0 0] 91):=(by with_reducible first|exact(ac.block _ (by first|omega|(simp only[aC];omega))).trans ((ab.block _ (by simp only[aC,Bd];omega)).trans (A5 (Ad (Al (by with_reducible first|exact rfl|exact A7 _ _|exact Bf _ _ _) _) _)))|exact(ac.block _ (by first|omega|(simp only[aC];omega))).trans (Ad ((ab.block _ (by simp only[aC,Bd];omega)).trans (A5 (Ad (Al (by with_reducible first|exact rfl|exact A7 _ _|exact Bf _ _ _) _) _))) _)|exact(ac.block _ (by first|omega|(simp only[aC];omega))).trans ((ab.block _ (by simp only[aC,Bd];omega)).trans (A5 (Ad (Ad (Al (by with_reducible first|exact rfl|exact A7 _ _|exact Bf _ _ _) _) _) _)))|exact(ac.block _ (by first|omega|(simp only[aC];omega))).trans (Ad ((ab.block _ (by simp only[aC,Bd];omega)).trans (A5 (Ad (Ad (Al (by with_reducible first|exact rfl|exact A7 _ _|exact Bf _ _ _) _) _) _))) _));have bh:w2.cell? ⟨Wd.heap.size,0,J⟩=D (O J 0 0):=Aa p7 rfl;have bi:w2.cell? ⟨Wd.heap.size,1,J⟩=D (O J 0 0):=Aa p7 rfl;have bj:w2.frozen? ⟨Wd.heap.size,0,J⟩=aT:=(by simp[aJ,p7]);have bl:w2.frozen? ⟨Wd.heap.size,1,J⟩=aT:=(by simp[aJ,p7]))|(have p7:w2.heap[Wd.heap.size+1]?=D (U #[O J 0 0,O J 0 0] 91):=(by with_reducible first|exact(ac.block _ (by first|omega|(simp only[aC];omega))).trans ((ab.block _ (by simp only[aC,Bd];omega)).trans (A5 (Al (by with_reducible first|exact rfl|exact A7 _ _|exact Bf _ _ _) _)))|exact(ac.block _ (by first|omega|(simp only[aC];omega))).trans (Ad ((ab.block _ (by simp only[aC,Bd];omega)).trans (A5 (Al (by with_reducible first|exact rfl|exact A7 _ _|exact Bf _ _ _) _))) _)|exact(ac.block _ (by first|omega|(simp only[aC];omega))).trans ((ab.block _ (by simp only[aC,Bd];omega)).trans (A5 (Ad (Al (by with_reducible first|exact rfl|exact A7 _ _|exact Bf _ _ _) _) _)))|exact(ac.block _ (by first|omega|(simp only[aC];omega))).trans (Ad ((ab.block _ (by simp only[aC,Bd];omega)).trans (A5 (Ad (Al (by with_reducible first|exact rfl|exact A7 _ _|exact Bf _ _ _) _) _))) _));have bh:w2.cell? ⟨Wd.heap.size+1,0,J⟩=D (O J 0 0):=Aa p7 rfl;have bi:w2.cell? ⟨Wd.heap.size+1,1,J⟩=D (O J 0 0):=Aa p7 rfl;have bj:w2.frozen? ⟨Wd.heap.size+1,0,J⟩=aT:=(by simp[aJ,p7]);have bl:w2.frozen? ⟨Wd.heap.size+1,1,J⟩=aT:=(by simp[aJ,p7]))|(have p7:w2.heap[Wd.heap.size+1+1]?=D (U #[O J 0 0,O J 0 0] 91):=(by with_reducible first|exact(ac.block _ (by first|omega|(simp only[aC];omega))).trans ((ab.block _ (by simp only[aC,Bd];omega)).trans (A5 (Al (by with_reducible first|exact rfl|exact A7 _ _|exact Bf _ _ _) _)))|exact(ac.block _ (by first|omega|(simp only[aC];omega))).trans (Ad ((ab.block _ (by simp only[aC,Bd];omega)).trans (A5 (Al (by with_reducible first|exact rfl|exact A7 _ _|exact Bf _ _ _) _))) _));have bh:w2.cell? ⟨Wd.heap.size+1+1,0,J⟩=D (O J 0 0):=Aa p7 rfl;have bi:w2.cell? ⟨Wd.heap.size+1+1,1,J⟩=D (O J 0 0):=Aa p7 rfl;have bj:w2.frozen? ⟨Wd.heap.size+1+1,0,J⟩=aT:=(by simp[aJ,p7]);have bl:w2.frozen? ⟨Wd.heap.size+1+1,1,J⟩=aT:=(by simp[aJ,p7]))|(have p7:w2.heap[w1.heap.size]?=D (U #[O J 0 0,O J 0 0] 91):=(by with_reducible first|exact(ac.block _ (by first|omega|(simp only[aC];omega))).trans (Al (by with_reducible first|exact rfl|exact A7 _ _|exact Bf _ _ _) _)|exact(ac.block _ (by first|omega|(simp only[aC];omega))).trans (Ad (Al (by with_reducible first|exact rfl|exact A7 _ _|exact Bf _ _ _) _) _));have bh:w2.cell? ⟨w1.heap.size,0,J⟩=D (O J 0 0):=Aa p7 rfl;have bi:w2.cell? ⟨w1.heap.size,1,J⟩=D (O J 0 0):=Aa p7 rfl;have bj:w2.frozen? ⟨w1.heap.size,0,J⟩=aT:=(by simp[aJ,p7]);have bl:w2.frozen? ⟨w1.heap.size,1,J⟩=aT:=(by simp[aJ,p7]))|(have p7:w2.heap[w1.heap.size+1]?=D (U #[O J 0 0,O J 0 0] 91):=(by with_reducible first|exact(ac.block _ (by first|omega|(simp only[aC];omega))).trans (Al (by with_reducible first|exact rfl|exact A7 _ _|exact Bf _ _ _) _));have bh:w2.cell? ⟨w1.heap.size+1,0,J⟩=D (O J 0 0):=Aa p7 rfl;have bi:w2.cell? ⟨w1.heap.size+1,1,J⟩=D (O J 0 0):=Aa p7 rfl;have bj:w2.frozen? ⟨w1.heap.size+1,0,J⟩=aT:=(by simp[aJ,p7]);have bl:w2.frozen? ⟨w1.heap.size+1,1,J⟩=aT:=(by simp[aJ,p7]))|skip)))
    all_goals go_wp2_with fail
    all_goals go_meet
    all_goals
     have dt:0<(a.K++b.K).length:=by rw[bH,ce];omega
     have du:0<(a.V++b.V).length:=by rw[bH,aw.out.1];omega
     have dx:=af.size
     first
      |exact⟨_,_,_,_,_,rfl,Aym cu cs az⟩
      |exact⟨_,_,_,_,_,rfl,Ayn cu cs dt du az (by omega) p7⟩
   case rest=>
    obtain⟨pc,ko,kc,vo,vc,rfl,bw,cx,cy,bm⟩:=hcut;have cz:Below w.heap.size w wc:=ad.trans (bm.mono ad.size);have dy:wc.cell? ⟨pc,0,J⟩=D (O ko (ka+kb) kc):=Aa bw rfl;have dz:wc.cell? ⟨pc,1,J⟩=D (O vo (ka+kb) vc):=Aa bw rfl;have ea:wc.cell? ⟨w.heap.size,0,J⟩=D (O (D ⟨bb,aa,J⟩) n cap):=(bm.cell (p:=⟨w.heap.size,0,J⟩) dq).trans ct;have dv:=(bm.block _ cn).trans cr;have da:=aB cn bm.size;obtain⟨W5,bx⟩:∃W5,wc.alloc (U #[O ko (ka+kb) kc,O vo (ka+kb) vc] 91)=W5:=⟨_,rfl⟩;have ba:Below wc.heap.size wc W5:=by rw[←bx];exact Am (aE _ _) _
    have b5:W5.heap[wc.heap.size]?=D (U #[O ko (ka+kb) kc,O vo (ka+kb) vc] 91):=by rw[←bx];exact Ab wc _
    have bz:Below w.heap.size w W5:=cz.trans (ba.mono cz.size);have ca:=Kz A [a,b] B [⟨a.K++b.K,a.V++b.V⟩] _ (O (D ⟨wc.heap.size,0,J⟩) 1 1) (x+2) W5 (cb.below bz) (Pz b5 (cx.below ba) (cy.below ba) (by decide) (by decide)) (by simp) (by rw[cd];rfl) (by simp only[cN,hD];simp only[bH,cN]at dk;omega);rw[cd]at ca;generalize db:A++[⟨a.K++b.K,a.V++b.V⟩]++B=R at ca;have i6:IntKind.i64.wrap ((x:Int)+2)=((x+2:Nat):Int):=by rw[bS];omega
    have dc:=hid db;clear ck cv ae bf bg ch cj cl cm ct cr dn dp cx cy bw db cb;subst bx;go_wp2_with(go_at_call 192;go_must(refine ca.mono ?_;rintro e w6 ⟨bn,rfl,⟨eb,rfl,hP⟩,dd⟩;obtain⟨ao,cc,rfl⟩:=hP.shape;have r6:=(dd.block _ (aB da ba.size)).trans ((ba.block _ da).trans dv);have q6:w6.cell? ⟨w.heap.size+1,0,J⟩=D (O J 0 0):=Aa r6 rfl;have f6:w6.frozen? ⟨w.heap.size+1,0,J⟩=aT:=(by simp[aJ,r6])));refine aR (v:=bM #[O ao R.length cc]) (by simp[bL,gX,go_sem, *]) rfl ?_;have hz:Below w.heap.size w w6:=bz.trans (dd.mono bz.size);refine⟨_,rfl,?_,hz.setCell (by simp) _⟩
    first|rw[if_pos cq]|skip
    have hR:A++⟨a.K++b.K,a.V++b.V⟩::B=R:=by rw[←dc.out];simp
    first|rw[dc.out]|rw[hR]
    exact⟨_,rfl,Gz hP r6 _⟩
  ·have j0:¬((ka:Int)+(kb:Int)≤4):=by omega
   have j1:(4:Int)<(ka:Int)+(kb:Int):=by omega
   go_wp2;refine aR (v:=bM #[O (D ⟨bb,aa,J⟩) n cap]) (by simp[bL,gX,go_sem, *]) rfl ?_;refine⟨_,rfl,?_,ad.setCell (by simp) _⟩
   first|rw[if_neg cq]|skip
   exact⟨_,rfl,Gz (HS.out.below ad) cr _⟩
def Aky (w w':aN)(e:eV)(T:List Pg):Prop:=
 ∃tv' T',e=aH tv'∧Bj w' tv' T'∧Below w.heap.size w w'∧(∀p∈T',p.ok)∧flat T'=flat T∧T'.length≤T.length
theorem Ada (T)(tv)(i)(w)(h:Bj w tv T)(aa:∀p∈T,p.ok)(ac:-1≤i)(hi:i≤4611686018427387904)(hn:T.length*48≤140737488355328):
  aY aF 254 #[tv,aL aM i] w fun e w'=>Aky w w' e T:=by
 by_cases ad:i<0∨(T.length:Int)≤i+1
 ·refine(Asb T tv i w h ad ac hi).mono ?_;rintro e w' ⟨ab,he,ht,hb⟩;exact⟨ab,T,he,ht,hb,aa,rfl,aG _⟩
 ·obtain⟨k,rfl⟩:∃k:Nat,i=k:=⟨i.toNat,by omega⟩;obtain⟨a,ha⟩:∃a,T[k]?=D a:=⟨_,aD (by omega)⟩;obtain⟨b,hb⟩:∃b,T[k+1]?=D b:=⟨_,aD (by omega)⟩;have hT:=Agw ha hb;have hl:(T.take k).length=k:=by rw[bU];omega
  generalize T.take k=A at hT hl;generalize T.drop _=B at hT;subst hT;subst hl;have oa:=aa a (by simp);have ob:=aa b (by simp);refine(Asc A B a b tv w h oa ob hn).mono ?_;rintro e w' ⟨ab,he,ht,ae⟩;refine⟨ab,_,he,ht,ae,?_⟩;split
  ·rename_i h4;refine⟨?_,?_,?_⟩
   ·intro q hq;simp only[bY,cP,cM,or_false]at hq;rcases hq with(hq|rfl)|hq
    ·grind
    ·refine⟨?_,?_,?_⟩
     ·have:=oa.1;grind
     ·grind
     ·simp only[bH,oa.2.2,ob.2.2]
    grind
   ·rw[Bh,Bh,Bh,Fa,Fa,Fa,Rw];simp only;rw[cE oa.2.2.symm];simp
   simp
  grind
theorem An8 (T)(tv)(k)(pg pl)(w)(h:Bj w tv T)(hg:As T)(fi:Ug T k pg pl aT):
  aY aF 198 #[tv,aA k] w fun e w'=>∃ah,e=aH ah∧Bj w' ah T∧Below w.heap.size w w':=by
 have gc:=fun W hW=>I5 T tv W (h.below hW) hg
 have fc:=fun W hW=>fi tv W (h.below hW)
 obtain⟨sv,rfl,hs⟩:=h;obtain⟨so,aa,rfl⟩:=hs.shape;have HS:=hid hs;clear hs hg fi;generalize T.length=n at*;generalize ab:(w.alloc (U #[O so n aa] 65)).alloc (U #[O J 0 0] 65)=W0;have ac:Below w.heap.size w W0:=by rw[←ab];exact((aE _ w).alloc (aG _) _).alloc (by simp) _
 have aj:W0.heap.size=w.heap.size+1+1:=by rw[←ab];simp
 have b0:W0.heap[w.heap.size]?=D (U #[O so n aa] 65):=by rw[←ab];exact Ad (Ab w _) _
 have r0:W0.heap[w.heap.size+1]?=D (U #[O J 0 0] 65):=by rw[←ab];exact Al (A7 _ _) _
 have ak:=Aa b0 (j:=0) rfl;have hA:w.heap.size<W0.heap.size:=by omega
 have ai:w.heap.size+1<W0.heap.size:=by omega
 have g0:=gc _ ac;go_enter Tryz.func198,Tryz.ntmps198;go_wp2_with(first
  |(go_fit g0;rintro e w1 ⟨rfl,ad⟩;have ae:=(ad.block _ hA).trans b0;have al:w1.cell? ⟨_,0,J⟩=D (O so n aa):=Aa ae rfl;have r1:=(ad.block _ ai).trans r0;have af:=ac.trans (ad.mono ac.size))
  |(go_fit(fc _ af);rintro e w2 ⟨rfl,ag⟩;have am:w2.cell? ⟨_,0,J⟩=D (O so n aa):=Aa ((ag.block _ (aK ae)).trans ae) rfl;have r2:=(ag.block _ (aK r1)).trans r1;have q2:w2.cell? ⟨_,0,J⟩=D (O J 0 0):=Aa r2 rfl;have f2:w2.frozen? ⟨w.heap.size+1,0,J⟩=aT:=(by simp[aJ,r2])))
 refine aR (v:=bM #[O so n aa]) (by simp[bL,go_sem, *]) rfl ?_;have hz:=af.trans (ag.mono af.size);exact⟨_,rfl,⟨_,rfl,Gz (HS.out.below hz) r2 _⟩,hz.setCell (by simp) _⟩
theorem Asd (A B:List Pg)(p:Pg)(K1 K3 V1 V3:List ByteArray)(y k:ByteArray)(tv:aS)(w:aN)(h:Bj w tv (A++p::B))(hg:As (A++p::B))(hK:p.K=K1++k::K3)(hV:p.V=V1++y::V3)(hl:V1.length=K1.length)
  (fi:Ug (A++p::B) k A.length K1.length aV) (hn:((A++p::B).length+1) *48≤140737488355328):
  aY aF 198 #[tv,aA k] w fun e w'=>Aky w w' e (A++(if(K1++K3).length=0 then[]else[⟨K1++K3,V1++V3⟩])++B):=by
 have gc:=fun W (hW:Below w.heap.size w W)=>I5 (A++p::B) tv W (h.below hW) hg
 have fc:=fun W (hW:Below w.heap.size w W)=>fi tv W (h.below hW)
 have bx:=h;obtain⟨sv,rfl,hs⟩:=h;have bz:(A++p::B)[A.length]?=D p:=by simp
 obtain⟨b,av,cap,rfl,ca,dy,dz,hT⟩:=hs.at (by simp<;>omega);obtain⟨kv,vv,c0,c1,hk,hv⟩:=hT _ p bz;have aw:=hg.1 p (by simp);have cp:=fun W hW=>Ll p kv vv W (hk.below hW) (hv.below hW) (by grind) (by have:=aw.2.1;omega) aw.2.2
 obtain⟨ka,kc,rfl⟩:=hk.shape;obtain⟨va,vc,rfl⟩:=hv.shape;have ea:A.length<(A++p::B).length:=by simp
 have cb:(A++p::B).length=A.length+1+B.length:=by simp;omega
 generalize ax:(w.alloc (U #[O (D ⟨b,av,J⟩) (A++p::B).length cap] 65)).alloc (U #[O J 0 0] 65)=W0;have bc:Below w.heap.size w W0:=by rw[←ax];exact((aE _ w).alloc (aG _) _).alloc (by simp) _
 have fq:W0.heap.size=w.heap.size+1+1:=by rw[←ax];simp
 have b0:W0.heap[w.heap.size]?=D (U #[O (D ⟨b,av,J⟩) (A++p::B).length cap] 65):=by rw[←ax];exact Ad (Ab w _) _
 have r0:W0.heap[w.heap.size+1]?=D (U #[O J 0 0] 65):=by rw[←ax];exact Al (A7 _ _) _
 have cd:=Aa b0 (j:=0) rfl;have hA:w.heap.size<W0.heap.size:=by omega
 have ce:w.heap.size+1<W0.heap.size:=by omega
 have g0:=gc _ bc;have rp:=fun P W pv hW hp (hP:P.length≤1)=>Kz A [p] B P _ pv (A.length+1) W (bx.below hW) hp (by simp) (by simp) (by omega)
 have cf:∀q∈A,q.ok:=fun q hq=>hg.1 q (by grind)
 have cg:∀q∈B,q.ok:=fun q hq=>hg.1 q (by grind)
 have ch:=aw.2.2;have HV:=hid hV;have HK:=hid hK;have HL:=hid hl;have ay:=hid (bD cf cg);clear hV hK hT hs gc fi hg bx hk hv bz dy cf cg;generalize cj:A.length=a at*;generalize ck:(A++p::B).length=n at*;rw[←hl]at fc;generalize cl:V1.length=pl at*;generalize bd:p.K.length=m at*;generalize cm:p.V.length=mv at*;unfold bE at dz;have fr:m≤4:=by have:=aw.2.1;omega
 have cn:m=K1.length+1+K3.length:=by rw[←bd,HK.out];simp;omega
 have eb:pl<m:=by omega
 have i0:(0:Int)≤a:=by omega
 have i1:a<(n:Int):=by omega
 have i4:(0:Int)≤pl:=by omega
 have i5:(pl:Int)≤4:=by omega
 have i6:IntKind.i64.wrap (a+1)=((a+1:Nat):Int):=by rw[bS];omega
 have i7:IntKind.i64.wrap (a-1)=a-1:=by rw[bS];omega
 obtain⟨TT,be⟩:∃TT,A++(if(K1++K3).length=0 then[]else[⟨K1++K3,V1++V3⟩])++B=TT:=⟨_,rfl⟩;rw[be];have co:=hid be;have ec:=hid cl;have ed:=hid ch;have HN:=hid hn;have ft:=hid (bD cn eb);have HB:=hid cb;have az:=hid (bD cj (bD ck (bD hl (bD bd cm))));clear cb cj ck bd cm hn ea ch cl hl cn be;go_enter Tryz.func198,Tryz.ntmps198;go_upto_region 7 with(first
  |(go_at_call 189;go_must(refine g0.mono ?_;rintro e w1 ⟨rfl,ah⟩;have cq:=(ah.cell hA).trans cd;have bf:=bc.trans (ah.mono bc.size);have bg:=aB hA ah.size;have cr:=aB ce ah.size;have cs:=(ah.block _ hA).trans b0;have r1:=(ah.block _ ce).trans r0))
  |(go_at_call 190;go_must(refine(fc _ bf).mono ?_;rintro e w2 ⟨rfl,ai⟩;have ct:=(ai.cell bg).trans cq;have am:=bf.trans (ai.mono bf.size);have ee:=(am.cell ca).trans c0;have ef:=(am.cell ca).trans c1;have bh:=aB bg ai.size;have bi:=aB cr ai.size;have cu:=(ai.block _ bg).trans cs;have r2:=(ai.block _ cr).trans r1))
  |(go_at_call 191;go_must(refine(cp _ am).mono ?_;rintro e w3 ⟨g1,d1,g2,d2,rfl,ba,bj,fu,aj⟩;have eg:=(aj.cell bh).trans ct;have cv:=am.trans (aj.mono am.size);have eh:=aB bh aj.size;have ei:=aB bi aj.size;have cx:=(aj.block _ bh).trans cu;have r3:=(aj.block _ bi).trans r2)))
 have fw:=aB bi ba.1;have fx:=ba.lt;have fy:=bj.lt;obtain⟨X1,bk⟩:∃X1,w3.alloc (U #[O (D ⟨g1,0,J⟩) m d1,O (D ⟨g2,0,J⟩) mv d2] 91)=X1:=⟨_,rfl⟩;have an:Below w3.heap.size w3 X1:=by rw[←bk];exact(aE _ _).alloc (aG _) _
 have fz:X1.heap.size=w3.heap.size+1:=by rw[←bk];simp
 have xq:X1.heap[w3.heap.size]?=D (U #[O (D ⟨g1,0,J⟩) m d1,O (D ⟨g2,0,J⟩) mv d2] 91):=by rw[←bk];exact Ab w3 _
 have oK:Cs X1 w2.heap.size g1 d1 (K1++k::K3):=by have:=ba.below an;rwa[HK.out]at this
 have oV:Cs X1 w2.heap.size g2 d2 (V1++y::V3):=by have:=bj.below an;rwa[HV.out]at this
 have bb:(K1++k::K3).length=m:=by rw[←HK.out];exact az.out.2.2.2.1
 have cy:(V1++y::V3).length=mv:=by rw[←HV.out];exact az.out.2.2.2.2
 have bl:=Ac0 K1 K3 k _ _ X1 oK.2;rw[bb,←az.out.2.2.1]at bl;obtain⟨m',bm⟩:∃m',(K1++K3).length=m':=⟨_,rfl⟩;have cz:m=m'+1:=by rw[←bb,←bm];simp<;>omega
 have ak:=hid bm;have da:=hid (show(V1++V3).length=m' by have:=ed.out;grind);have ga:=hid bb;have ej:=hid cy;have ek:=hid cz;clear bb cy bm cz;have db:=(an.block _ eh).trans cx;have rx:=(an.block _ ei).trans r3;have el:X1.cell? ⟨_,0,J⟩=D (O _ m d1):=Aa xq rfl;clear eg;go_upto_region 8 with(go_fit bl;rintro e w4 ⟨v1,rfl,bn,ad,dc⟩;obtain⟨aa,ab,e1⟩:=bn.shape;rw[ak.out]at e1;subst e1;have q4:=(ad.block _ (by omega) (by simp[aI];omega)).trans xq;have en:=Aa q4 (j:=0) rfl;have eo:w4.frozen? ⟨w3.heap.size,0,J⟩=aT:=(by simp[aJ,q4]));have dd:=(ad.block _ (by omega) (by simp[aI];omega)).trans db;have r4:=(ad.block _ (by omega) (by simp[aI];omega)).trans rx;have de:=oV.grown (r:=g1) ad (by omega);have ep:(eS aa m' ab).ownBlock=D g1:=dc;obtain⟨Y,hY⟩:∃Y,w4.setCell ⟨w3.heap.size,0,J⟩ (O aa m' ab)=Y:=⟨_,rfl⟩;have yq:Y.heap[w3.heap.size]?=D (U #[O aa m' ab,O (D ⟨g2,0,J⟩) mv d2] 91):=by rw[←hY];exact Ju q4 0 _
 have yb:Y.heap[w.heap.size]?=D (U #[O (D ⟨b,av,J⟩) n cap] 65):=by rw[←hY,aO _ _ _ _ (by grind)];exact dd
 have yr:Y.heap[w.heap.size+1]?=D (U #[O J 0 0] 65):=by rw[←hY,aO _ _ _ _ (by grind)];exact r4
 have gb:Y.heap.size=w4.heap.size:=by rw[←hY];simp[cL]
 have df:Cs Y w2.heap.size g2 d2 (V1++y::V3):=by rw[←hY];exact de.setOther (by omega) _
 have dg:An Y (O aa m' ab) (K1++K3):=by rw[←hY];exact Dh bn (by grind) _
 have gd:=ad.size;have dh:Below w.heap.size w Y:=by
  have di:Below w.heap.size w X1:=cv.trans (an.mono cv.size);have et:Below w.heap.size w w4:=di.grown ad di.size (fun j hj=>by grind);rw[←hY];exact et.setCell (by grind) _
 have bo:=Ac0 V1 V3 y _ _ Y df.2;rw[ej.out,ec.out]at bo;have eu:Y.cell? ⟨_,1,J⟩=D (O _ mv d2):=Aa yq rfl;clear en eo el;go_upto_region 9 with(go_fit bo;rintro e w5 ⟨v2,rfl,bp,ae,dj⟩;obtain⟨af,ag,e2⟩:=bp.shape;rw[da.out]at e2;subst e2;have q5:=(ae.block _ (by omega) (by simp[aI];omega)).trans yq;have ew:=Aa q5 (j:=1) rfl;have ex:w5.frozen? ⟨w3.heap.size,1,J⟩=aT:=(by simp[aJ,q5]));have ge:=ae.size;have ey:(eS af m' ag).ownBlock=D g2:=dj;have dk:=dg.grown ae (.inr (by grind));have b5:=(ae.block _ (by omega) (by grind)).trans yb;have r5:=(ae.block _ (by omega) (by grind)).trans yr;have ez:=dh.grown ae dh.size (fun j hj=>by grind);obtain⟨Z,hZ⟩:∃Z,w5.setCell ⟨w3.heap.size,1,J⟩ (O af m' ag)=Z:=⟨_,rfl⟩;have zq:Z.heap[w3.heap.size]?=D (U #[O aa m' ab,O af m' ag] 91):=by rw[←hZ];exact Ju q5 1 _
 have zb:Z.heap[w.heap.size]?=D (U #[O (D ⟨b,av,J⟩) n cap] 65):=by rw[←hZ,aO _ _ _ _ (by grind)];exact b5
 have zr:Z.heap[w.heap.size+1]?=D (U #[O J 0 0] 65):=by rw[←hZ,aO _ _ _ _ (by grind)];exact r5
 have ap:Below w.heap.size w Z:=by rw[←hZ];exact ez.setCell (by grind) _
 have dl:An Z (O aa m' ab) (K1++K3):=by rw[←hZ];exact Dh dk (by grind) _
 have dm:An Z (O af m' ag) (V1++V3):=by rw[←hZ];exact Dh bp (by grind) _
 have bq:=aK zr;have z0:Z.cell? ⟨_,0,J⟩=D (O _ n cap):=Aa zb rfl;have z1:Z.cell? ⟨_,0,J⟩=D (O aa m' ab):=Aa zq rfl;have z2:Z.cell? ⟨_,1,J⟩=D (O af m' ag):=Aa zq rfl;clear ew ex fc cp g0 bl bo eu ee ef dc dj ep ey ad ae q4 q5 yq yb yr b5 r5 xq cs cu cx dd db r0 r1 r2 r3 r4 rx b0 cd cq ct bn bp dk dg oK oV de df ba bj;rw[hZ]
 by_cases h0:m'=0
 ·subst h0;have aq:=rp [] Z _ ap (Ba.nil Z) (by simp);generalize ac:A++[]++B=R at aq;have bt:=hid (show TT=R by rw[←co.out,if_pos ak.out,ac]);have fa:=hid ac;clear rp hZ ac;go_wp2_with(go_at_call 192;go_must(refine aq.mono ?_;rintro e w6 ⟨ar,rfl,⟨fb,rfl,hP⟩,al⟩;obtain⟨ao,cc,rfl⟩:=hP.shape;have r6:=(al.block _ bq).trans zr;have q6:w6.cell? ⟨_,0,J⟩=D (O J 0 0):=Aa r6 rfl;have f6:w6.frozen? ⟨w.heap.size+1,0,J⟩=aT:=(by simp[aJ,r6])));refine aR (v:=bM #[O ao R.length cc]) (by simp[bL,go_sem, *]) rfl ?_;have hz:=ap.trans (al.mono ap.size);rw[bt.out];refine⟨_,R,rfl,⟨_,rfl,Gz hP r6 _⟩,hz.setCell (by simp) _,?_,rfl,aG _⟩;rw[←fa.out];intro q hq;simp only[bJ,bY]at hq;rcases hq with hq|hq
  ·exact ay.out.1 q hq
  ·exact ay.out.2 q hq
 ·have j0:¬((m':Int)=0):=by omega
  obtain⟨W5,bu⟩:∃W5,Z.alloc (U #[O aa m' ab,O af m' ag] 91)=W5:=⟨_,rfl⟩;have au:Below Z.heap.size Z W5:=by rw[←bu];exact Am (aE _ _) _
  have fd:W5.heap[Z.heap.size]?=D (U #[O aa m' ab,O af m' ag] 91):=by rw[←bu];exact Ab Z _
  have bv:=ap.trans (au.mono ap.size);have aq:=rp [⟨_,_⟩] W5 (O _ 1 1) bv (Pz fd (dl.below au) (dm.below au) (by simp) (by decide)) (by simp);generalize ac:A++[⟨_,_⟩]++B=R at aq;have bt:=hid (show TT=R by rw[←co.out,if_neg (by rw[ak.out];omega),ac]);have dn:∀q∈R,q.ok:=by
   rw[←ac];intro q hq;simp only[bY,cP,cM,or_false]at hq;rcases hq with(hq|rfl)|hq
   ·exact ay.out.1 q hq
   ·refine⟨?_,?_,?_⟩
    ·simp only[ak.out];omega
    ·simp only[ak.out];have:=ek.out;omega
    ·simp only[ak.out,da.out]
   ·exact ay.out.2 q hq
  have fe:R.length*48≤140737488355328:=by
   rw[←ac];have h1:=HN.out;have h2:=HB.out;have h3:=az.out.1;simp only[bH,cN,hD];omega
  have ff:(a:Int)≤4611686018427387904:=by have h1:=HN.out;omega
  have fg:=fun ar W hW=>Ada R ar _ W hW dn (by omega) ff fe
  have fh:=fun T2 ar W hW fj (gf:T2.length≤R.length)=>Ada T2 ar (a-1) W hW fj (by omega) (by omega) (by omega)
  have fk:=(au.block _ bq).trans zr;have dp:=aB bq au.size;clear rp hZ ac dl dm dn;subst bu;go_wp2_with(first
   |(go_at_call 192;go_must(refine aq.mono ?_;rintro e w6 ⟨ar,rfl,⟨fb,rfl,hP⟩,al⟩;obtain⟨ao,cc,rfl⟩:=hP.shape;have r6:=(al.block _ dp).trans fk;have l6:=aB dp al.size))
   |(go_at_call_of 254 (Value.agg #[O ao R.length cc]);go_must(refine(fg _ _ ⟨_,rfl,hP⟩).mono ?_;rintro e w7 ⟨gg,T2,rfl,⟨gh,rfl,dq⟩,bw,fl,ds,dt⟩;obtain⟨gi,gj,rfl⟩:=dq.shape;have r7:=(bw.block _ l6).trans r6;have l7:=aB l6 bw.size))
   |(go_at_call 254;go_must(refine(fh T2 _ _ ⟨_,rfl,dq⟩ fl dt).mono ?_;rintro e w8 ⟨gk,T3,rfl,⟨gl,rfl,du⟩,dv,fm,dw,fn⟩;obtain⟨fo,fp,rfl⟩:=du.shape;have r8:=(dv.block _ l7).trans r7;have q8:w8.cell? ⟨_,0,J⟩=D (O J 0 0):=Aa r8 rfl;have f8:w8.frozen? ⟨w.heap.size+1,0,J⟩=aT:=(by simp[aJ,r8]);have dx:=hid (bD ds dw);clear ds dw)))
  refine aR (v:=bM #[O fo T3.length fp]) (by simp[bL,go_sem, *]) rfl ?_;have hz:=Ac (Ac (bv.trans (al.mono bv.size)) bw) dv;rw[bt.out];exact⟨_,T3,rfl,⟨_,rfl,Gz du r8 _⟩,hz.setCell (by simp) _,fm,dx.out.2.trans dx.out.1,aZ fn dt⟩
def Ayo (w w':aN)(e:eV)(T:List Pg)(k:ByteArray):Prop:=
 ∃tv' T',e=aH tv'∧Bj w' tv' T'∧Below w.heap.size w w'∧As T'∧flat T'=Jz (flat T) k∧T'.length≤T.length
theorem Auv {T}{k}{pg pl}(hg:As T)(f:Aru T k pg pl aT):Jz (flat T) k=flat T:=by
 obtain⟨F1,o,F2,c,ho⟩:=f.cut hg;cases o with
 |some v=>grind
 |none=>rw[c.drop,c.eq];simp
theorem Akz (T)(tv)(k)(w)(h:Bj w tv T)(hg:As T)(hn:(T.length+1) *48≤140737488355328):
  aY aF 198 #[tv,aA k] w fun e w'=>Ayo w w' e T k:=by
 obtain⟨pg,pl,th,hF,fi⟩:=Va T k hg (by omega);cases th with
 |false=>
  refine(An8 T tv k pg pl w h hg fi).mono ?_;rintro e w' ⟨aa,he,ht,hb⟩;exact⟨aa,T,he,ht,hb,hg,(Auv hg hF).symm,aG _⟩
 |true=>
  rcases hF with⟨_,_,hc,_⟩|⟨A,p,B,K1,y,K3,rfl,hp,rfl,rfl,hA,hK,hy,hth⟩
  ·cases hc
  ·have ac:=of_decide_eq_true hth.symm;subst ac;obtain⟨V1,v0,V3,hV,ad,ai,c⟩:=Pq hg hp hA hK;refine(Asd A B p K1 K3 V1 V3 v0 y tv w h hg hp hV ad fi hn).mono ?_;rintro e w' ⟨aa,T',he,ht,hb,ok,fl,le⟩;have ab:flat T'=Jz (flat (A++p::B)) y:=by
    rw[fl,c.drop];split
    ·rename_i h0;have ae:K1=[]:=aP (by grind);have af:K3=[]:=aP (by grind);subst ae;subst af;have ag:V1=[]:=aP (by omega);have ah:V3=[]:=aP (by omega);subst ag;subst ah;simp[Bh]
    ·rw[Bh,Bh,Fa,Rw];grind
   refine⟨aa,T',he,ht,hb,Xr ok ?_,ab,?_⟩
   ·rw[ab,c.drop];exact c.rise_drop hg.rise
   grind
theorem Ta {w:aN}{sv:aS}{L:List ByteArray}(h:An w sv L){g:Nat}{t:dA}{ao:Option Addr}{n c:Nat}(hb:w.heap[g]?=D (U #[O ao n c] t))(v:aS):An (w.setCell ⟨g,0,J⟩ v) sv L:=by
 rcases cG L.length with h0|h0
 ·refine⟨h.1,?_⟩;rcases h.2 with h2|⟨h1,_⟩
  ·exact .inl h2
  ·omega
 ·obtain⟨b,aa,cap,rfl,_,_,_,hc⟩:=h.at h0;refine Uh h v fun e=>?_
  obtain rfl:=by simpa[aI]using e
  obtain⟨x,hx⟩:∃x,L[0]?=D x:=⟨_,aD h0⟩;have:=hc 0 x hx;simp only[eR,hb,cB]at this;grind
theorem Pgs.set2 {w}{g}{t}{ao}{n c}(hb:w.heap[g]?=D (U #[O ao n c] t))(v):∀{rs:List (aS×aS)}{T:List Pg},Pgs w rs T→Pgs (w.setCell ⟨g,0,J⟩ v) rs T
 |[],[],_=>trivial
 |_::_,_::_,h=>⟨Ta h.1 hb v,Ta h.2.1 hb v,Pgs.set2 hb v h.2.2⟩
theorem Qx {w:aN}{sv:aS}{T:List Pg}(h:Ba w sv T){g:Nat}{t:dA}{ao:Option Addr}{n c:Nat}(hb:w.heap[g]?=D (U #[O ao n c] t))(v:aS):Ba (w.setCell ⟨g,0,J⟩ v) sv T:=by
 obtain⟨rows,h1,h2⟩:=h;refine⟨rows,?_,Pgs.set2 hb v h2⟩;rcases cG T.length with h0|h0
 ·refine⟨h1.1,?_⟩;rcases h1.2 with h3|⟨h3,_⟩
  ·exact .inl h3
  ·omega
 ·have aa:=h1;rcases h1.2 with⟨h3,_⟩|⟨_,b,off,cap,rfl,_,_,_,hc⟩
  ·omega
  ·refine Uh aa v fun e=>?_
   obtain rfl:b=g:=by simpa[aI]using e
   have hl:=aa.1;obtain⟨x,hx⟩:∃x,(A4 rows)[1]?=D x:=⟨_,aD (by omega)⟩;have:=hc 1 x hx;simp only[eR,hb]at this;grind
structure TrSt (w:aN) (cv tb:Array aS) (F:PL) (n:Nat) (ao:Option Addr) (k c:Nat) (T:List Pg) (wx:aN):Prop where
 blk:wx.heap[w.heap.size]?=D (U #[O ao k c] 65)
 pgs:Ba wx (O ao k c) T
 good:As T
 flat:flat T=F
 len:T.length≤n
 cat:wx.heap[w.heap.size+1]?=D (U cv 62)
 tab:wx.heap[w.heap.size+2]?=D (U tb 82)
 res:wx.heap[w.heap.size+3]?=D (U #[O J 0 0] 65)
 bel:Below w.heap.size w wx
theorem TrSt.below {w}{cv tb}{F}{n}{ao}{k c}{T}{W V}(h:TrSt w cv tb F n ao k c T W)(hb:Below W.heap.size W V):TrSt w cv tb F n ao k c T V:=
 ⟨(hb.block _ (aK h.blk)).trans h.blk,h.pgs.below hb,h.good,h.flat,h.len,(hb.block _ (aK h.cat)).trans h.cat,(hb.block _ (aK h.tab)).trans h.tab,(hb.block _ (aK h.res)).trans h.res,h.bel.trans (hb.mono h.bel.size)⟩
theorem Og {w:aN}{b g}(h:b≠g)(j)(x):(w.setCell ⟨g,j,J⟩ x).heap[b]?=w.heap[b]?:=aO w ⟨g,j,J⟩ x b h
theorem TrSt.store {w}{cv tb}{F F':PL}{n n'}{ao ao'}{k c k' c'}{T T'}{W V}(h:TrSt w cv tb F n ao k c T W)(hb:Below W.heap.size W V)(hp:Ba V (O ao' k' c') T')(hg:As T')(hf:Go.Proofs.YtocegbpmmiabmaaGreatDoor.flat T'=F')(hl:T'.length≤n'):
  TrSt w cv tb F' n' ao' k' c' T' (V.setCell ⟨w.heap.size,0,J⟩ (O ao' k' c')):=by
 have hV:=h.below hb;exact⟨by have:=Dj hV.blk 0 (O ao' k' c');grind,Qx hp hV.blk _,hg,hf,hl,(Og (by omega) _ _).trans hV.cat,(Og (by omega) _ _).trans hV.tab,(Og (by omega) _ _).trans hV.res,hV.bel.setCell (aG _) _⟩
theorem Adb {w}{ao}{k c}{T}(a b d e)(hp:Ba w (O ao k c) T)(hg:As T):
  TrSt w #[a,b] #[d,e] (flat T) T.length ao k c T ((((w.alloc (U #[O ao k c] 65)).alloc (U #[a,b] 62)).alloc (U #[d,e] 82)).alloc (U #[O J 0 0] 65)):=by
 have b4:=(Hy w (U #[O ao k c] 65) (U #[a,b] 62) (U #[d,e] 82)).alloc (o:=U #[O J 0 0] 65) (by simp;omega);refine⟨Ad (Ad (Ad (Ab w _) _) _) _,hp.below b4,hg,rfl,aG _,Ad (Ad (Cc _ _ _) _) _,Ad (Fi _ _ _ _) _,?_,b4⟩;have:=Ab (((w.alloc (U #[O ao k c] 65)).alloc (U #[a,b] 62)).alloc (U #[d,e] 82)) (U #[O J 0 0] 65);simp_all
def Aqo (w w':aN)(e:eV)(F:PL)(n:Nat):Prop:=∃pv T,e=aH pv∧Bj w' pv T∧As T∧flat T=F∧T.length≤n∧Below w.heap.size w w'
theorem Ase {F}{K:List Wd}{k}{x:Wd}(h:K[k]?=D x):Lp F (K.take (k+1))=I3 (Lp F (K.take k)) x noW:=by
 rw[cK,h];simp[Lp]
theorem An9 {F}{K:List Wd}{k}{x:Wd}(h:K[k]?=D x):Kb F (K.take (k+1))=Jz (Kb F (K.take k)) x:=by
 rw[cK,h];simp[Kb]
theorem Ct {w}{sv}{T}(h:Ba w sv T):∃ao c,sv=O ao T.length c:=by
 obtain⟨rows,h1,_⟩:=h;exact h1.shape
theorem Ahe {W:aN}{a b o}{x0 x1 x2 x3}(h0:W.cell? ⟨a,0,J⟩=D x0)(h1:W.cell? ⟨b,o,J⟩=D x1)(h2:W.cell? ⟨b,o+1,J⟩=D x2)(h3:W.cell? ⟨b,o+2,J⟩=D x3):
  W.cell? ⟨a,0,J⟩=D x0∧W.cell? ⟨b,o,J⟩=D x1∧W.cell? ⟨b,o+1,J⟩=D x2∧W.cell? ⟨b,o+2,J⟩=D x3:=⟨h0,h1,h2,h3⟩
theorem Xh {W:aN}{a b o g}{x x0 x1 x2 x3}(h:W.cell? ⟨a,0,J⟩=D x0∧W.cell? ⟨b,o,J⟩=D x1∧W.cell? ⟨b,o+1,J⟩=D x2∧W.cell? ⟨b,o+2,J⟩=D x3)(ha:a≠g)(hb:b≠g):
  (W.setCell ⟨g,0,J⟩ x).cell? ⟨a,0,J⟩=D x0∧(W.setCell ⟨g,0,J⟩ x).cell? ⟨b,o,J⟩=D x1∧(W.setCell ⟨g,0,J⟩ x).cell? ⟨b,o+1,J⟩=D x2∧(W.setCell ⟨g,0,J⟩ x).cell? ⟨b,o+2,J⟩=D x3:=
 ⟨(A3 ha _ _ _).trans h.1,(A3 hb _ _ _).trans h.2.1,(A3 hb _ _ _).trans h.2.2.1,(A3 hb _ _ _).trans h.2.2.2⟩
theorem P5:(Tryz.prog.info? 79).map (fun i=>(i.zero,i.size,i.bytes))=D (D (O J 0 0),1,24):=by kernel_rfl
def Dm (base:Nat)(z:aS)(A:List (List V))(w:aN):Prop:=∃cs,w.ownsRow base 79 1 z A.length cs∧All C8 (FO base z) w A cs
theorem B8 (base)(w):Dm base (O J 0 0) [] w:=⟨[],dI _ _ _ _,rfl⟩
theorem L9 {base}{z z' sv}{A}{cs}{L}{W w3}(aa:w3.ownsRow base 79 1 z' (A.length+1) (cs++[sv]))(ab:All C8 (FO base z) W A cs)(hL:IsL Ly (FO base z) W sv L)(gr:W.grownBy w3 z.ownBlock)(ac:z'.ownBlock=z.ownBlock∨z'.ownBlock=D W.heap.size):
  Dm base z' (A++[L]) w3:=by
 have h1:All C8 (fun k=>FO base z k∧k<W.heap.size) W _ _:=All.append (ab.mono fun k hk h=>⟨h,hk⟩) (All.one ⟨sv,rfl,hL.mono fun k hk h=>⟨h,hk⟩⟩);refine⟨_,by rw[bH];exact aa,(h1.keep ((Aaq gr).mono fun k h=>h.1)).mono fun k _ h=>Uj ac k h.2 h.1⟩
theorem Dm.isL {base}{z}{A}{w}(h:Dm base z A w){F}(hF:∀k,base≤k→F k):IsL C8 F w z A:=by
 obtain⟨cs,h1,h2⟩:=h;exact⟨cs,Bq.of_own h1 hF,h2.mono fun k _ h=>hF k h.1⟩
theorem Dm.below {base}{z}{A}{w w'}(h:Dm base z A w)(hb:Below w.heap.size w w'):Dm base z A w':=by
 obtain⟨cs,h1,h2⟩:=h;exact⟨cs,Ak h1 hb,h2.keep (Ai hb)⟩
def Cy (n:Nat)(X:List Wd):List (List V):=X.filterMap (In n)
theorem Aat {n}{X:List Wd}{k}{x}(h:X[k]?=D x):Cy n (X.take (k+1))=Cy n (X.take k)++(In n x).toList:=by
 rw[cK,h];simp only[Cy,eU,cS];rfl
theorem Xi (n)(X):(Cy n X).length≤X.length:=eK _ _
theorem Dm.base {B B'}{z}{A}{w}(h:Dm B z A w)(hB:B'≤B):Dm B' z A w:=by
 obtain⟨cs,h1,h2⟩:=h;refine⟨cs,⟨h1.1,?_⟩,h2.mono fun k _ hk=>⟨aZ hB hk.1,hk.2⟩⟩;rcases h1.2 with h3|⟨g,cap,cur,hv,hg,hh⟩
 ·grind
 ·exact .inr ⟨g,cap,cur,hv,aZ hB hg,hh⟩
def Ng (w w':aN)(e:eV)(A:List (List V)):Prop:=∃rv,e=aH rv∧Dm w.heap.size rv A w'∧Below w.heap.size w w'
def Afx (w w':aN)(e:eV)(A:List (List V)):Prop:=∃rv,e=aH rv∧IsL C8 (fun k=>w.heap.size≤k) w' rv A∧Below w.heap.size w w'
theorem Aau (af:Wd)(T:List Pg)(pv:aS)(so:Option Addr)(n sc:Nat)(lo hi:Wd)(w:aN)(hp:Bj w pv T)(hg:As T)(hT:T.length≤100000)(hx:∀x∈rng T lo hi,x.2.size≤1000000):
  aY aF 113 #[pv,bM #[aA af,O so n sc],J1 noW lo hi] w fun e w'=>Ng w w' e (F5 n (rng T lo hi)):=by
 obtain⟨bp,rfl,aq⟩:=hp;obtain⟨po,pc,rfl⟩:=Ct aq;obtain⟨i0,bc,bd,be,bf⟩:=dU P5;obtain⟨al,-,-,bW,-⟩:=al3 w (U #[O po T.length pc] 65) (U #[aA af,O so n sc] 82) (U #[aA noW,aA lo,aA hi] 167);have bT:=Ad (Cc w (U #[O po T.length pc] 65) (U #[aA af,O so n sc] 82)) (U #[aA noW,aA lo,aA hi] 167);have HR:=Ag6 aV T ⟨fun _=>hg,fun _=>rfl⟩ (bM #[O po T.length pc]) lo hi _ ⟨_,rfl,aq.below al⟩ (by omega);rw[show Vc aV T lo hi=rng T lo hi from rfl]at HR;have av:(rng T lo hi).length≤400000:=by
  have h1:=Aan aV T ⟨fun _=>hg,fun _=>rfl⟩ (lo:=lo) (hi:=hi);rw[show Vc aV T lo hi=rng T lo hi from rfl]at h1;omega
 have ER:Hid (F5 n (rng T lo hi)=Cy n ((rng T lo hi).map dZ)):=rfl;rw[ER.out];clear ER;have bg:((rng T lo hi).map dZ).length≤400000:=by rw[List.length_map];exact av
 have HX:Hid (∀x∈(rng T lo hi).map dZ,x.size≤1000000):=fun x hh=>by obtain⟨y,hy,rfl⟩:=eP.1 hh;exact hx y hy
 clear hx av;unfold M7 at HR;generalize(rng T lo hi).map Prod.fst=Y at HR;generalize(rng T lo hi).map dZ=X at HR bg HX⊢;generalize hW:((w.alloc (U #[O po T.length pc] 65)).alloc (U #[aA af,O so n sc] 82)).alloc (U #[aA noW,aA lo,aA hi] 167)=W3 at al HR bT bW;have bP:W3.heap[w.heap.size]?=D (U #[O po T.length pc] 65):=by rw[←hW];exact Ad (Ad (Ab w _) _) _
 have HW:Hid _:=hW;clear hW;have c0:=Aa bP (j:=0) rfl;have c2:=Aa bW (j:=1) rfl;have c3:=Aa bW (j:=2) rfl;unfold J1;go_enter Tryz.func113,Tryz.ntmps113;go_upto_region 1 with fail;rw[HW.out];go_wp2_with(go_fit HR;rintro e w1 ⟨kv,vv,rfl,bh,aw,ar⟩;obtain⟨vo,vc,rfl⟩:=Ex.shape aw;have bq:=Aa ((ar.block _ (aK bW)).trans bW) (j:=0) rfl);have ax:=(ar.block _ (aK bT)).trans bT;have au:Below w.heap.size w w1:=al.trans (ar.mono al.size);clear bh HR aq
 go_loopw[9,36] (fun zv i wr=>∃k:Nat,k≤X.length∧i=aL aM k∧Dm w1.heap.size zv (Cy n (X.take k)) wr∧Below w1.heap.size w1 wr) (fun _ i _=>X.length-(cI i).toNat)
 case atStart=>exact⟨0,bO _,rfl,B8 _ _,aE _ _⟩
 case round=>
  obtain⟨k,hk,rfl,⟨cs,ad,ag⟩,ac⟩:=hrel
  by_cases bi:k<X.length
  ·obtain⟨x,hx⟩:∃x,X[k]?=D x:=⟨_,aD bi⟩;obtain⟨b,bt,cap,bj,hb,_,_,ay⟩:=aw.at (by omega);cases bj;have d0:=(ac.cell hb).trans (ay k x hx);have HV:=fun W=>Oe x W (by have:=HX.out x (aX hx);omega)
   have am:Hid (Cy n _=Cy n _++(In n x).toList):=Aat hx;have v0:(0:Int)≤k:=by omega
   have v1:k<(X.length:Int):=by omega
   have ah:=ac.size;have az:=ad.lt;have ab:=(ac.block _ (aK ax)).trans ax;have bu:(Cy n (X.take k)).length≤400000:=aZ (Xi _ _) (by grind);clear hx ay;unfold Ho at HV;cases ai:vals x.data.toList with
   |none=>
    have E2:Hid (Cy n (X.take (k+1))=Cy n (X.take k)):=by show _=_;rw[am.out,In,ai];simp
    rw[ai]at HV;simp only at HV;go_wp2_with(go_fit(HV _);rintro e w2 ⟨rfl,aa⟩);go_roundw
    case rel=>exact⟨k+1,by omega,by rfl,by rw[E2.out];exact Dm.below ⟨cs,ad,ag⟩ aa,ac.trans (aa.mono ah)⟩
    case measure=>simp[cI];omega
   |some L=>
    rw[ai]at HV;simp only at HV;have HF:=fun ao c W=>Of af so n sc ao L.length c W
    by_cases hf:0<L.length∧L.length=n
    ·have E2:Hid (Cy n (X.take (k+1))=Cy n (X.take k)++[L]):=by show _=_;rw[am.out,In,ai];simp only;rw[if_pos hf];rfl
     rw[show(decide _&&decide _)=aV by grind]at HF;clear hf am;go_wp2_with(first
      |(go_fit(HV _);rintro e w2 ⟨⟨lv,rfl,an⟩,aa⟩;obtain⟨aj,ak,rfl⟩:=Ex.shape (Ex.of_own an);have t2:=Aa ((aa.block _ (aK ab)).trans ab) (j:=0) rfl;have t3:=Aa ((aa.block _ (aK ab)).trans ab) (j:=1) rfl)
      |(go_fit(HF _ _ _);rintro e w3 ⟨rfl,ae⟩;have ap:Below _ wr (w3.alloc (U [O aj L.length ak].toArray 79)):=(Ac aa ae).alloc (Ac aa ae).size _;have ba:=aZ ah ap.size)
      |(at_builtin;go_must(refine wpList_append_own_at _ rfl _ _ 30 rfl _ 79 i0 _ 1 24 dK bc bd be bf rfl (by simp) _ _ _ rfl (Ak ad ap) _ 1 1 _ rfl rfl (Cb w3 [.slice aj L.length ak] 79) ?h1 (by simp only[bE];omega) (by omega) ba ?h2)))
     case h1=>simp only[List.forall_mem_cons];repeat(first|exact fun _ h=>absurd h cM|refine⟨rfl,?_⟩)
     case h2=>
      intro z2 w4 bk bb _ bl;have bm:z2.ownBlock=u9.ownBlock∨z2.ownBlock=D (w3.alloc (U [O aj L.length ak].toArray 79)).heap.size:=by rw[aC];exact bl
      have bn:IsL Ly (FO _ u9) (w3.alloc (U [O aj L.length ak].toArray 79)) _ L:=
       (Nf an fun k hk=>⟨aZ ah hk,fun e=>by have:=(az k e.symm).2;omega⟩).keep (Ai ((Ac ae (Aq _ _))))
      have bv:=L9 bk (ag.keep (Ai ap)) bn bb bm;go_wp2_with fail;go_roundw
      case rel=>exact⟨k+1,by omega,by rfl,by rw[E2.out];omega,(ac.trans (ap.mono ah)).grown bb ba fun k hk=>(az k hk).1⟩
      case measure=>simp[cI];omega
    ·have E2:Hid (Cy n (X.take (k+1))=Cy n (X.take k)):=by show _=_;rw[am.out,In,ai];simp only;rw[if_neg hf];simp
     rw[show(decide _&&decide _)=aT by grind]at HF;go_wp2_with(first|(go_fit(HV _);rintro e w2 ⟨⟨lv,rfl,an⟩,aa⟩;obtain⟨aj,ak,rfl⟩:=Ex.shape (Ex.of_own an);have t2:=Aa ((aa.block _ (aK ab)).trans ab) (j:=0) rfl;have t3:=Aa ((aa.block _ (aK ab)).trans ab) (j:=1) rfl)|(go_fit(HF _ _ _);rintro e w3 ⟨rfl,ae⟩));go_roundw
     case rel=>exact⟨k+1,by omega,by rfl,by rw[E2.out];exact Dm.below (Dm.below ⟨cs,ad,ag⟩ aa) ae,(ac.trans (aa.mono ah)).trans (ae.mono (by have:=aa.size;omega))⟩
     case measure=>simp[cI];omega
  ·have bo:k=X.length:=by omega
   subst bo;have v1:¬(X.length<(X.length:Int)):=by omega
   rw[cU]at ad ag;go_wp2;go_ret;exact⟨_,rfl,Dm.base ⟨cs,ad,ag⟩ au.size,au.trans (ac.mono au.size)⟩
theorem Ng.ans {w w'}{e}{A}(h:Ng w w' e A):Afx w w' e A:=by
 obtain⟨rv,h1,h2,h3⟩:=h;exact⟨rv,h1,h2.isL fun k hk=>hk,h3⟩
theorem Aoa (aa:Wd)(T)(pv)(so)(n sc)(lo hi:Wd)(w)(hp:Bj w pv T)(hg:As T)(hT:T.length≤100000)(hx:∀x∈rng T lo hi,x.2.size≤1000000):
  aY aF 113 #[pv,bM #[aA aa,O so n sc],J1 noW lo hi] w fun e w'=>Afx w w' e (F5 n (rng T lo hi)):=
 (Aau aa T pv so n sc lo hi w hp hg hT hx).mono fun _ _ h=>h.ans
def A1u (w:aN)(ao:Option Addr)(R:List (List V)):Prop:=∀(k:Nat) (x:List V),R[k]?=D x→∃b off so sc,ao=D ⟨b,off,J⟩∧b<w.heap.size∧w.cell? ⟨b,off+k,J⟩=D (O so x.length sc)∧x.length≤9223372036854775807∧∀(j:Nat) (y:V),x[j]?=D y→∃b' off',so=D ⟨b',off',J⟩∧b'<w.heap.size∧w.cell? ⟨b',off'+j*3,J⟩=D (aL aM y.k)∧w.cell? ⟨b',off'+j*3+1,J⟩=D (aL aM y.n)∧w.cell? ⟨b',off'+j*3+2,J⟩=D (aA y.s)
theorem Aqp {F}{w}{ao}{n c}{R}(h:IsL C8 F w (O ao n c) R):A1u w ao R:=fun k x hx=>by
 obtain⟨b,ac,cs,ad,_,ae,⟨sv,rfl,aa⟩,af⟩:=At h hx;obtain⟨so,sc,rfl⟩:=aa.shape;have ag:=(D5 aa).2;unfold bE at ag;refine⟨b,ac,so,sc,ad,ae,by have:=af 0 _ rfl;simpa[C8]using this,by omega,fun j y hy=>?_⟩;obtain⟨b',ah,ak,ai,_,aj,hR,ab⟩:=At aa hy;obtain rfl:=hR;exact⟨b',ah,ai,aj,ab 0 _ rfl,ab 1 _ rfl,ab 2 _ rfl⟩
theorem Aob (R:List (List V))(va vb:aS)(F G:Nat→Prop)(w:aN)(ha:IsL C8 F w va R)(hb:IsL C8 G w vb R):
  aY aF 25 #[va,vb] w fun e w'=>e=aH (eM aV)∧Below w.heap.size w w':=by
 obtain⟨ao,ac,rfl⟩:=ha.shape;obtain⟨bo,bc,rfl⟩:=hb.shape;have al:=(D5 ha).2;unfold bE at al;have HA:Hid _:=Aqp ha;have HB:Hid _:=Aqp hb;clear ha hb;go_enter Tryz.func25,Tryz.ntmps25;go_wp2
 go_loopw[14] (fun i wr=>∃k:Nat,k≤R.length∧i=aL aM k∧Below w.heap.size w wr) (fun i _=>R.length-(cI i).toNat)
 case atStart=>exact⟨0,bO _,rfl,aE _ _⟩
 case round=>
  obtain⟨k,hk,rfl,ad⟩:=hrel
  by_cases am:k<R.length
  ·obtain⟨x,hx⟩:∃x,R[k]?=D x:=⟨_,aD am⟩;obtain⟨b,ar,so,sc,ab,ah,g0,au,ai⟩:=HA.out k x hx;cases ab;obtain⟨d,av,aw,ax,ab,aj,h0,-,ak⟩:=HB.out k x hx;cases ab;have d0:=(ad.cell ah).trans g0;have e0:=(ad.cell aj).trans h0;have v0:(0:Int)≤(k:Int):=by omega
   have v1:(k:Int)<(R.length:Int):=by omega
   have an:Hid _:=ai;have ap:Hid _:=ak;clear ai ak hx;go_wp2_with fail;go_quiet(fail);go_wp2
   go_loopw[33] (fun i wr=>∃k2:Nat,k2≤x.length∧i=aL aM k2∧Below w.heap.size w wr) (fun i _=>x.length-(cI i).toNat)
   case atStart=>exact⟨0,bO _,rfl,gP ad _⟩
   case round=>
    obtain⟨k2,ay,rfl,aa⟩:=hrel
    by_cases aq:k2<x.length
    ·obtain⟨p,hp⟩:∃p,x[k2]?=D p:=⟨_,aD aq⟩;obtain⟨pb,po,ab,ae,p0,p1,p2⟩:=an.out k2 p hp;cases ab;obtain⟨qb,qo,ab,af,q3,q4,q5⟩:=ap.out k2 p hp;cases ab;have m0:=(aa.cell ae).trans p0;have m1:=(aa.cell ae).trans p1;have m2:=(aa.cell ae).trans p2;have m3:=(aa.cell af).trans q3;have m4:=(aa.cell af).trans q4;have m5:=(aa.cell af).trans q5;have r0:=(aa.cell ah).trans g0;have r1:=(aa.cell aj).trans h0;have u0:(0:Int)≤k2:=by omega
     have u1:k2<(x.length:Int):=by omega
     clear hp p0 p1 p2 q3 q4 q5;obtain⟨pn,pt,pm⟩:=p;simp only at m0 m1 m2 m3 m4 m5;go_wp2_with fail;go_quiet(fail);go_wp2;go_roundw
     case rel=>exact⟨k2+1,by omega,by go_num,gP aa _⟩
     case measure=>simp[cI];omega
    ·have ag:k2=x.length:=by omega
     subst ag;have u1:¬((x.length:Int)<(x.length:Int)):=by omega
     go_wp2;go_roundw
     case rel=>exact⟨k+1,by omega,by go_num,aa⟩
     case measure=>simp[cI];omega
  ·have ag:k=R.length:=by omega
   subst ag;have v1:¬((R.length:Int)<(R.length:Int)):=by omega
   go_wp2;go_ret;exact⟨rfl,ad⟩
theorem Yb (C N:Int)(R:List (List V))(va vb:aS)(F G:Nat→Prop)(w:aN)(ha:IsL C8 F w va R)(hb:IsL C8 G w vb R):
  aY aF 14 #[bM #[aL aM C,aL aM N,va],bM #[aL aM C,aL aM N,vb]] w fun e w'=>e=aH (eM aV)∧Below w.heap.size w w':=by
 obtain⟨ao,ac,rfl⟩:=ha.shape;obtain⟨bo,bc,rfl⟩:=hb.shape;obtain⟨aa,bA,bB,-⟩:=al2 w (U #[aL aM C,aL aM N,O ao R.length ac] 32) (U #[aL aM C,aL aM N,O bo R.length bc] 32);have HS:=Aob R _ _ F G _ (ha.keep (Ai aa)) (hb.keep (Ai aa));generalize hW:(w.alloc (U #[aL aM C,aL aM N,O ao R.length ac] 32)).alloc (U #[aL aM C,aL aM N,O bo R.length bc] 32)=W2 at aa bA bB HS;have HW:Hid _:=hW;clear hW ha hb;have a0:=Aa bA (j:=0) rfl;have a1:=Aa bA (j:=1) rfl;have a2:=Aa bA (j:=2) rfl;have b0:=Aa bB (j:=0) rfl;have b1:=Aa bB (j:=1) rfl;have b2:=Aa bB (j:=2) rfl;go_enter Tryz.func14,Tryz.ntmps14;go_upto_region 1 with fail;rw[HW.out];go_wp2_with(go_fit HS;rintro e w3 ⟨rfl,ab⟩);go_ret;exact⟨rfl,Ac aa ab⟩
theorem tk {P:fZ}{md:dP}{aa:Array Oper}{Q:Exit→Act→aN→Prop}{S:aN→Prop}{v:aS}{ac:Nat}{ab:Array Bool}{a:Act}{w:aN}{oi:Oper}(i:Nat)
  (h:dS P md aa Q S ac (ab.setIfInBounds i aV) (a.put oi.dst v) w)
  (hi:aa[i]?=D oi:=by exact rfl) (hs:fY aa=aV:=by kernel_rfl)
  (hf:Region.free md aa ab i=aV:=by kernel_rfl) (hr:(dH md aa ab).contains i=aV:=by kernel_rfl)
  (hw:bG oi (cZ aa a.tmps)=aV:=by rfl)
  (hy:∀w,S w→(execOp a.eval oi).run P w=.ok (.value v) w:=by intro w ad;(try dsimp only at ad);go_simp;all_goals(with_reducible rfl))
  (hQ:∀c a w,Q (.panic c) (a.put oi.dst v) w→Q (.panic c) a w:=by exact fun _ _ _ h=>h)
  (hS:S w:=by assumption):
  dS P md aa Q S (ac+1) ab a w:=wpAnyH_take hi hs hf hr hQ (.inl ⟨hw,hy⟩) hS h
theorem tkd {P:fZ}{md:dP}{aa:Array Oper}{Q:Exit→Act→aN→Prop}{S:aN→Prop}{v:aS}{ac:Nat}{ab:Array Bool}{a:Act}{w:aN}{oi:Oper}(i d:Nat)
  (h:dS P md aa Q S ac (ab.setIfInBounds i aV) (a.put (D d) v) w)
  (hi:aa[i]?=D oi:=by exact rfl) (hd:oi.dst=D d:=by exact rfl) (hs:fY aa=aV:=by kernel_rfl)
  (hf:Region.free md aa ab i=aV:=by kernel_rfl) (hr:(dH md aa ab).contains i=aV:=by kernel_rfl)
  (hw:bG oi (cZ aa a.tmps)=aV:=by rfl)
  (hy:∀w,S w→(execOp a.eval oi).run P w=.ok (.value v) w:=by intro w ad;(try dsimp only at ad);go_simp;all_goals(with_reducible rfl))
  (hQ:∀c a w,Q (.panic c) (a.put (D d) v) w→Q (.panic c) a w:=by exact fun _ _ _ h=>h)
  (hS:S w:=by assumption):
  dS P md aa Q S (ac+1) ab a w:=wpAnyH_take hi hs hf hr (hd▸hQ) (.inl ⟨hw,hy⟩) hS (hd▸h)
theorem Bi {P:fZ}{md:dP}{aa:Array Oper}{Q:Exit→Act→aN→Prop}{S:aN→Prop}{ac:Nat}{ab:Array Bool}{a:Act}{w:aN}{o:Oper}(i:Nat)
  (h:∀K':Act→aN→Prop,Shut (∀a w,S w→(S w→dS P md aa Q S ac (ab.setIfInBounds i aV) a w)→K' a w)→if bG o (cZ aa a.tmps)=aV then dN P o a w K' Q else K' (a.put o.dst undef) w)
  (ho:aa[i]?=D o:=by exact rfl) (hr:dH md aa ab=[i]:=by kernel_rfl):dS P md aa Q S (ac+1) ab a w:=
 wpAnyH_ready hr (by simp) (.cons ho h .nil)
theorem Aby {P:fZ}{md:dP}{aa:Array Oper}{Q:Exit→Act→aN→Prop}{S:aN→Prop}{ac:Nat}{ab:Array Bool}{a:Act}{w:aN}{o o':Oper}(i j:Nat)
  (h:∀K':Act→aN→Prop,Shut (∀a w,S w→(S w→dS P md aa Q S ac (ab.setIfInBounds i aV) a w)→K' a w)→if bG o (cZ aa a.tmps)=aV then dN P o a w K' Q else K' (a.put o.dst undef) w)
  (h':∀K':Act→aN→Prop,Shut (∀a w,S w→(S w→dS P md aa Q S ac (ab.setIfInBounds j aV) a w)→K' a w)→if bG o' (cZ aa a.tmps)=aV then dN P o' a w K' Q else K' (a.put o'.dst undef) w)
  (ho:aa[i]?=D o:=by exact rfl) (ad:aa[j]?=D o':=by exact rfl) (hr:dH md aa ab=[i,j]:=by kernel_rfl):dS P md aa Q S (ac+1) ab a w:=
 wpAnyH_ready hr (by simp) (.cons ho h (.cons ad h' .nil))
end
end Go.Proofs.YtocegbpmmiabmaaGreatDoor
namespace Go.Proofs
open Go.Shelf
def Tryz.sortRows_ren:eD:=⟨fun|6=>127|15=>209|14=>208|28=>271|29=>272|20=>263|21=>264|22=>265|23=>266|24=>267|25=>268|26=>269|27=>270|46=>324|47=>325|48=>326|49=>327|50=>328|57=>362|n=>n,fun|22=>30|24=>79|25=>182|3=>3|39=>265|0=>0|53=>319|55=>321|4=>4|46=>313|45=>312|50=>224|5=>5|9=>9|66=>356|70=>360|76=>383|77=>384|n=>n,fun|n=>n⟩
theorem Tryz.sortRows:Go.Proofs.SlLaysF.n6 aF Tryz.sortRows_ren:={
 mixed:=by kernel_rfl
 f6:=sN Tryz.func127
 f14:=sN Tryz.func208
 f15:=sF Tryz.func209
 f20:=sN Tryz.func263
 f21:=sN Tryz.func264
 f22:=sN Tryz.func265
 f23:=sN Tryz.func266
 f24:=sN Tryz.func267
 f25:=sN Tryz.func268
 f26:=sN Tryz.func269
 f27:=sN Tryz.func270
 f28:=sF Tryz.func271
 f29:=sF Tryz.func272
 f46:=sN Tryz.func324
 f47:=sF Tryz.func325
 f48:=sF Tryz.func326
 f49:=sN Tryz.func327
 f50:=sN Tryz.func328
 f57:=sN Tryz.func362
 t0:=gI
 a0:=Tryz.isAgg0
 z0:=Tryz.sizeOf0
 v0:=gW
 t3:=gH
 a3:=Tryz.isAgg3
 z3:=Tryz.sizeOf3
 v3:=gV
 t4:=gG
 a4:=Tryz.isAgg4
 z4:=Tryz.sizeOf4
 v4:=gU
 t5:=gF
 a5:=Tryz.isAgg5
 z5:=Tryz.sizeOf5
 v5:=gT
 t9:=gE
 a9:=Tryz.isAgg9
 z9:=Tryz.sizeOf9
 v9:=gS
 t22:=dK
 a22:=Tryz.isAgg30
 z22:=Tryz.sizeOf30
 v22:=Tryz.zeroValue30
 a24:=Tryz.isAgg79
 z24:=Tryz.sizeOf79
 t25:=Tryz.underlying182
 a25:=Tryz.isAgg182
 z25:=Tryz.sizeOf182
 v25:=Tryz.zeroValue182
 t39:=fL
 a39:=Tryz.isAgg265
 z39:=Tryz.sizeOf265
 v39:=fW
 t45:=fK
 a45:=Tryz.isAgg312
 z45:=Tryz.sizeOf312
 v45:=fV
 t46:=fJ
 a46:=Tryz.isAgg313
 z46:=Tryz.sizeOf313
 v46:=fU
 t50:=fM
 a50:=Tryz.isAgg224
 z50:=Tryz.sizeOf224
 v50:=fX
 t53:=fI
 a53:=Tryz.isAgg319
 z53:=Tryz.sizeOf319
 v53:=fT
 t55:=fH
 a55:=Tryz.isAgg321
 z55:=Tryz.sizeOf321
 v55:=fS
 t66:=fG
 a66:=Tryz.isAgg356
 z66:=Tryz.sizeOf356
 v66:=fR
 t70:=fF
 a70:=Tryz.isAgg360
 z70:=Tryz.sizeOf360
 v70:=fQ
 t76:=fE
 a76:=Tryz.isAgg383
 z76:=Tryz.sizeOf383
 v76:=fP
 t77:=fD
 a77:=Tryz.isAgg384
 z77:=Tryz.sizeOf384
 v77:=fO}
def Tryz.sortFound_ren:eD:=⟨fun|6=>132|15=>209|14=>213|28=>271|29=>272|20=>274|21=>275|22=>276|23=>277|24=>278|25=>279|26=>280|27=>281|46=>329|47=>325|48=>326|49=>330|50=>331|57=>363|n=>n,fun|22=>119|24=>123|25=>187|3=>3|39=>265|0=>0|53=>319|55=>321|4=>4|46=>313|45=>312|50=>224|5=>5|9=>9|66=>356|70=>360|76=>383|77=>384|n=>n,fun|n=>n⟩
theorem Tryz.sortFound:dF aF Tryz.sortFound_ren:={
 mixed:=by kernel_rfl
 f6:=sN Tryz.func132
 f14:=sN Tryz.func213
 f15:=sF Tryz.func209
 f20:=sN Tryz.func274
 f21:=sN Tryz.func275
 f22:=sN Tryz.func276
 f23:=sN Tryz.func277
 f24:=sN Tryz.func278
 f25:=sN Tryz.func279
 f26:=sN Tryz.func280
 f27:=sN Tryz.func281
 f28:=sF Tryz.func271
 f29:=sF Tryz.func272
 f46:=sN Tryz.func329
 f47:=sF Tryz.func325
 f48:=sF Tryz.func326
 f49:=sN Tryz.func330
 f50:=sN Tryz.func331
 f57:=sN Tryz.func363
 t0:=gI
 a0:=Tryz.isAgg0
 z0:=Tryz.sizeOf0
 v0:=gW
 t3:=gH
 a3:=Tryz.isAgg3
 z3:=Tryz.sizeOf3
 v3:=gV
 t4:=gG
 a4:=Tryz.isAgg4
 z4:=Tryz.sizeOf4
 v4:=gU
 t5:=gF
 a5:=Tryz.isAgg5
 z5:=Tryz.sizeOf5
 v5:=gT
 t9:=gE
 a9:=Tryz.isAgg9
 z9:=Tryz.sizeOf9
 v9:=gS
 t22:=fN
 a22:=Tryz.isAgg119
 z22:=Tryz.sizeOf119
 v22:=Tryz.zeroValue119
 t25:=Tryz.underlying187
 a25:=Tryz.isAgg187
 z25:=Tryz.sizeOf187
 v25:=Tryz.zeroValue187
 t39:=fL
 a39:=Tryz.isAgg265
 z39:=Tryz.sizeOf265
 v39:=fW
 t45:=fK
 a45:=Tryz.isAgg312
 z45:=Tryz.sizeOf312
 v45:=fV
 t46:=fJ
 a46:=Tryz.isAgg313
 z46:=Tryz.sizeOf313
 v46:=fU
 t50:=fM
 a50:=Tryz.isAgg224
 z50:=Tryz.sizeOf224
 v50:=fX
 t53:=fI
 a53:=Tryz.isAgg319
 z53:=Tryz.sizeOf319
 v53:=fT
 t55:=fH
 a55:=Tryz.isAgg321
 z55:=Tryz.sizeOf321
 v55:=fS
 t66:=fG
 a66:=Tryz.isAgg356
 z66:=Tryz.sizeOf356
 v66:=fR
 t70:=fF
 a70:=Tryz.isAgg360
 z70:=Tryz.sizeOf360
 v70:=fQ
 t76:=fE
 a76:=Tryz.isAgg383
 z76:=Tryz.sizeOf383
 v76:=fP
 t77:=fD
 a77:=Tryz.isAgg384
 z77:=Tryz.sizeOf384
 v77:=fO}
def Tryz.sortRows0_ren:eD:=⟨fun|6=>127|15=>209|14=>208|28=>271|29=>272|20=>263|21=>264|22=>265|23=>266|24=>267|25=>268|26=>269|27=>270|46=>324|47=>325|48=>326|49=>327|50=>328|57=>362|n=>n,fun|22=>30|24=>79|25=>182|3=>3|39=>265|0=>0|53=>319|55=>321|4=>4|46=>313|45=>312|50=>224|5=>5|9=>9|66=>356|70=>360|76=>383|77=>384|n=>n,fun|n=>n⟩
theorem Tryz.sortRows0:dF aF Tryz.sortRows0_ren:={Tryz.sortRows with mixed:=Tryz.sortRows.mixed}
end Go.Proofs
namespace Go.Proofs.YtocegbpmmiabmaaGreatDoor
section
open Go.RowKit
open Go.Sort (Holds holds_grow holds_putRow holds_ahead grow grow_empty heap_grow_old heap_ahead SWO PermIn SortedIn putCells)
structure Gro (w w':aN):Prop where
 bel:dG w.heap.size w w'
 dr:w.drawn≤w'.drawn
theorem Gro.refl (w):Gro w w:=⟨cQ _ _,aG _⟩
theorem Gro.trans {u v w}(h:Gro u v)(k:Gro v w):Gro u w:=⟨h.bel.trans (k.bel.mono h.bel.size),aZ h.dr k.dr⟩
theorem Gro.drew {w w'}(h:Gro w w'):Gro w w'.drew:=⟨h.bel.drew,aZ h.dr (by simp)⟩
theorem Gro.alloc {w w'}(h:Gro w w')(o):Gro w (w'.alloc o):=⟨h.bel.alloc h.bel.size _,h.dr⟩
theorem Gro.grow {w w'}(h:Gro w w'):∃q os,w'=Go.Sort.grow (w.drewN q) os:=by
 obtain⟨p,hp⟩:=regrown_of_below h.bel;have hd:w'.drawn=p.d:=by rw[hp];rfl
 refine⟨w'.drawn-w.drawn,p.os,?_⟩;have aa:=h.dr;have e:redrawn w p.d=w.drewN (w'.drawn-w.drawn):=by
  unfold redrawn World.drewN;rw[show w.drawn+(w'.drawn-w.drawn)=p.d from by omega]
 grind
theorem Adc (a b)(w):aY aF 129 #[a.val,b.val] w fun e w'=>e=aH (aL aM (Bt a b))∧Gro w w':=by
 obtain⟨k1,n1,s1⟩:=a;obtain⟨k2,n2,s2⟩:=b;show aY _ 129 #[bM #[aL _ k1,aL _ n1,aA s1],bM #[aL _ k2,aL _ n2,aA s2]] w _;go_enter Tryz.func129,Tryz.ntmps129;go_wp2
 go_region_held3(fun w'=>w'.cell? ⟨w.heap.size,0,J⟩=D (aL aM k1)∧w'.cell? ⟨w.heap.size,1,J⟩=D (aL aM n1)∧w'.cell? ⟨w.heap.size,2,J⟩=D (aA s1)∧w'.cell? ⟨w.heap.size+1,0,J⟩=D (aL aM k2)∧w'.cell? ⟨w.heap.size+1,1,J⟩=D (aL aM n2)∧w'.cell? ⟨w.heap.size+1,2,J⟩=D (aA s2)) (go_keep)
  (first|(go_at_call 210;refine(Ac2 _ _ _).mono ?_;rintro e w' ⟨rfl,rfl⟩)|(go_at_call 172;refine(Qr _ _ _).mono ?_;rintro e w' ⟨rfl,rfl⟩)|(go_at_call 134;refine(Ako (He k1 k2) (He n1 n2) (F4 s1 s2) _ _ _ ?_ ?_ ?_).mono ?_;(simp[go_sem]);(simp[go_sem]);(simp[go_sem]);rintro e w' ⟨rfl,rfl⟩))
 go_wp2;go_ret;refine⟨rfl,?_⟩
 repeat first|exact Gro.refl _|apply Gro.drew|apply Gro.alloc
theorem Auw {G W}{b c o1 o2}{x1 x2 x3 x4 x5 x6}
  (h:G.cell? ⟨b,o1,J⟩=D x1∧G.cell? ⟨b,o1+1,J⟩=D x2∧G.cell? ⟨b,o1+2,J⟩=D x3∧G.cell? ⟨c,o2,J⟩=D x4∧G.cell? ⟨c,o2+1,J⟩=D x5∧G.cell? ⟨c,o2+2,J⟩=D x6) (hb:dG G.heap.size G W) (h1:b<G.heap.size) (h2:c<G.heap.size):
  W.cell? ⟨b,o1,J⟩=D x1∧W.cell? ⟨b,o1+1,J⟩=D x2∧W.cell? ⟨b,o1+2,J⟩=D x3∧W.cell? ⟨c,o2,J⟩=D x4∧W.cell? ⟨c,o2+1,J⟩=D x5∧W.cell? ⟨c,o2+2,J⟩=D x6:=by
 have k:=(E9 hb).1;grind
theorem Ak0 (x y)(xv yv)(w)(hx:Cq w xv x)(hy:Cq w yv y)(h1:0<x.length)(h2:0<y.length):
  aY aF 128 #[xv,yv] w fun e w'=>e=aH (aL aM (Bt (x.headD zero) (y.headD zero)))∧Gro w w':=by
 obtain⟨u,hu⟩:∃u,x[0]?=D u:=⟨_,aD h1⟩;obtain⟨v,hv⟩:∃v,y[0]?=D v:=⟨_,aD h2⟩;have e1:x.headD zero=u:=by rw[cT,cW,hu];rfl
 have e2:y.headD zero=v:=by rw[cT,cW,hv];rfl
 rw[e1,e2];rcases hx with⟨_,rfl⟩|⟨b,o1,c1,rfl,hb,hX⟩
 ·simp at h1
 rcases hy with⟨_,rfl⟩|⟨c,o2,c2,rfl,hc,hY⟩
 ·simp at h2
 obtain⟨f0,f1,f2⟩:=hX 0 u hu;obtain⟨g0,g1,g2⟩:=hY 0 v hv;simp only[Nat.zero_mul,cB]at f0 f1 f2 g0 g1 g2;have HC:=fun W=>Adc u v W
 generalize Bt u v=m at HC;obtain⟨uk,un,us⟩:=u;obtain⟨vk,vn,vs⟩:=v;simp only[V.val]at HC;simp only at f0 f1 f2 g0 g1 g2;have p1:(0:Int)<x.length:=by omega
 have p2:(0:Int)<y.length:=by omega
 have KS:Hid _:=fun W h=>Auw (W:=W) ⟨f0,f1,f2,g0,g1,g2⟩ h hb hc
 have s0:=KS.out _ (cQ _ _).drew;clear hX hY hu hv e1 e2 f0 f1 f2 g0 g1 g2;generalize x.length=nx at*;generalize y.length=ny at*;go_enter Tryz.func128,Tryz.ntmps128;go_wp2_with fail
 go_region_held3(fun W=>W.cell? ⟨b,o1,J⟩=D (aL aM uk)∧W.cell? ⟨b,o1+1,J⟩=D (aL aM un)∧W.cell? ⟨b,o1+2,J⟩=D (aA us)∧W.cell? ⟨c,o2,J⟩=D (aL aM vk)∧W.cell? ⟨c,o2+1,J⟩=D (aL aM vn)∧W.cell? ⟨c,o2+2,J⟩=D (aA vs)) (with_reducible omega)
  (first|(go_fit(HC _);rintro e w2 ⟨rfl,aa⟩;have ab:=(Gro.refl w).drew.trans aa;have s1:=KS.out w2 ab.bel))
 go_wp2_with fail;go_ret;simp_all
theorem Uo (a b):Bt a b<0↔a.k<b.k∨(a.k=b.k∧(a.n<b.n∨(a.n=b.n∧klt a.s b.s=aV))):=by
 unfold Bt or3;have hS:F4 a.s b.s<0↔klt a.s b.s=aV:=by
  unfold F4 klt;split
  ·grind
  ·grind
 have hI:∀x y,(He x y=0↔x=y)∧(He x y<0↔x<y):=fun x y=>by
  unfold He;omega
 grind
theorem Aav (a):¬Bt a a<0:=by
 rw[Uo,Gt];simp
theorem Add {a b c}(h1:Bt a b<0)(h2:Bt b c<0):Bt a c<0:=by
 rw[Uo]at*;rcases h1 with h1|⟨e1,h1|⟨f1,h1⟩⟩<;>rcases h2 with h2|⟨e2,h2|⟨f2,h2⟩⟩
 ·omega
 ·omega
 ·omega
 ·omega
 ·omega
 ·omega
 ·omega
 ·omega
 ·exact .inr ⟨by omega,.inr ⟨by omega,Co h1 h2⟩⟩
theorem Aaw {a b c}(h1:¬Bt a b<0)(h2:¬Bt b c<0):¬Bt a c<0:=by
 rw[Uo]at*;rintro(h|⟨e,h|⟨f,h⟩⟩)
 ·omega
 ·omega
 ·by_cases aa:a.k<b.k
  ·omega
  ·by_cases ab:b.k<c.k
   ·omega
   ·by_cases hn:a.n<b.n
    ·omega
    ·by_cases ac:b.n<c.n
     ·omega
     ·have k1:klt a.s b.s=aT:=by
       cases hk:klt a.s b.s with
       |false=>rfl
       |true=>grind
      have:=Xq k1 h;grind
abbrev Aj5 (B:Nat)(z:aS)(w:aN):Type:={p:aS×List V//IsL Ly (FO B z) w p.1 p.2∧0<p.2.length}
def Aj5.enc {B:Nat}{z:aS}{w:aN}(x:Aj5 B z w):aS:=x.1.1
def Aj5.cmp {B:Nat}{z:aS}{w:aN}(x y:Aj5 B z w):Int:=Bt (x.1.2.headD zero) (y.1.2.headD zero)
theorem Ahf {B}{z}{w}:∀{A:List (List V)}{cs:List aS},All C8 (FO B z) w A cs→(∀r∈A,0<r.length)→∃L:List (Aj5 B z w),L.map Aj5.enc=cs∧L.map (fun x=>x.1.2)=A
 |[],cs,h,_=>⟨[],by have:cs=[]:=h;grind,rfl⟩
 |r::A,cs,h,hn=>by
  obtain⟨c,rest,rfl,⟨sv,rfl,h1⟩,h2⟩:=h;obtain⟨L,h3,h4⟩:=Ahf h2 fun q hq=>hn q (by simp[hq])
  exact⟨⟨(sv,r),h1,hn r (by simp)⟩::L,by simp[h3,Aj5.enc],by grind⟩
theorem Ade {B}{z}{w}:∀(L:List (Aj5 B z w)),All C8 (FO B z) w (L.map fun x=>x.1.2) (L.map Aj5.enc)
 |[]=>rfl
 |x::L=>⟨[x.enc],L.map Aj5.enc,rfl,⟨x.enc,rfl,x.2.1⟩,Ade L⟩
theorem Aux {B}{z}{w}:Go.Proofs.OneCell (Aj5.enc (B:=B) (z:=z) (w:=w)):=fun x=>by
 obtain⟨ao,c,h⟩:=x.2.1.shape;unfold Aj5.enc;rw[h];rfl
theorem Auy {B}{z}{w}:SWO (bQ (Aj5.cmp (B:=B) (z:=z) (w:=w))) where
 irrefl x:=by unfold bQ Aj5.cmp;exact decide_eq_false (Aav _)
 trans x y z h1 h2:=by
  unfold bQ Aj5.cmp at*;exact decide_eq_true (Add (of_decide_eq_true h1) (of_decide_eq_true h2))
 ntrans x y z h1 h2:=by
  unfold bQ Aj5.cmp at*;exact decide_eq_false (Aaw (of_decide_eq_false h1) (of_decide_eq_false h2))
theorem Qy {α}[Inhabited α]{B}{w}{g cap n}(enc)(m)(d:Array α)(os):Keeps (FO B (O (D ⟨g,0,J⟩) n cap)) w (bN enc w g 0 m d os):=by
 unfold bN;refine⟨by simp,fun k hk hl=>?_⟩;have aa:g≠k:=fun e=>hk.2 (by simp[aI,e])
 rw[heap_grow_old _ _ (by simp_all)];simp[dW,dJ,cA,aa]
theorem Adf {α}[Inhabited α]{B}{w}{g}(hB:B≤g)(hw:B≤w.heap.size)(enc)(m)(d:Array α)(os):dG B w (bN enc w g 0 m d os):=by
 unfold bN;refine⟨rfl,rfl,rfl,by simp,fun k hk=>?_⟩;rw[heap_grow_old _ _ (by simp;omega)];have aa:g≠k:=by omega
 simp[dW,dJ,cA,aa]
theorem Ak1 {α}[Inhabited α](enc)(cur)(ts:List α)(h:ts.length≤cur.size):(putCells enc 0 ts.toArray cur).toList.take ts.length=ts.map enc:=by
 apply gB;intro j
 by_cases hj:j<ts.length
 ·rw[cD hj,Array.getElem?_toList];simp[putCells,hj,show j<cur.size by omega]
 grind
theorem Ahg {α}[Inhabited α]{w}{g}{cur}{t}(h:w.heap[g]?=D (U cur t (0,0)))(enc)(m)(d:Array α)(os):(bN enc w g 0 m d os).heap[g]?=D (U (putCells enc 0 d cur) t (0,0)):=by
 unfold bN;rw[heap_grow_old _ _ (by simpa using aK h)];simp[dW,dJ,cA,h,Go.Sort.onCells]
theorem Mg {α:Type}{d:Array α}{n}(h:d.size=n):d.extract 0 n=d:=by grind
theorem Ak2 (A)(z)(B)(w)(h:Dm B z A w)(hB:B≤w.heap.size)(ag:∀r∈A,0<r.length)(hl:A.length≤1000000):
  aY aF 127 #[z,.func (.func 128) #[] #[]] w fun e w'=>e=aH (cJ #[])∧∃A',A'.Perm A∧(A'.Pairwise fun a b=>¬Bt (b.headD zero) (a.headD zero)<0)∧Dm B z A' w'∧dG B w w':=by
 obtain⟨cs,ac,aa⟩:=h;have ad:=ac;rcases ac.2 with⟨rfl,h0⟩|⟨g,cap,cur,rfl,hBg,hh,hnc,hcm,hcs,htake⟩
 ·have hA:=aP h0;subst hA;refine(eF Tryz.sortRows0 J 0 _ w).mono ?_;rintro e w' ⟨rfl,rfl⟩;exact⟨rfl,[],fB _,eC,⟨cs,ad,aa⟩,cQ _ _⟩
 ·rcases A with _|⟨r0,A0⟩
  ·refine(eF Tryz.sortRows0 _ cap _ w).mono ?_;rintro e w' ⟨rfl,rfl⟩;exact⟨rfl,[],fB _,eC,⟨cs,ad,aa⟩,cQ _ _⟩
  generalize ah:r0::A0=A at*;obtain⟨L,ai,aj⟩:=Ahf aa ag;have ae:=by have:=congrArg List.length aj;simpa using this
  have aq:0<L.length:=by rw[ae,←ah];simp
  have ar:Inhabited _:=⟨L[0]⟩;have hH:Holds (Aj5.enc) w g 0 L.toArray:=by
   intro j hj;have ab:j<L.length:=by simpa using hj
   refine⟨?_,by simp[aJ,hh]⟩;have hc:cs[j]?=D (Aj5.enc L[j]):=by rw[←ai,List.getElem?_map,aD ab];rfl
   rw[getElem!_pos _ j hj,cX];refine Aa hh ?_;rw[←htake,cD (by omega)]at hc;simpa using hc
  have eg:∀args w,(callFunc 128 args).run _ w=.ok _ w:=enters_of Tryz.func128 (by rfl) rfl;have ak:Go.Proofs.CmpLays1 aF 128 #[] (Aj5.enc) (Aj5.cmp (B:=B) (z:=O (D ⟨g,0,J⟩) A.length cap) (w:=w)) g 0 L.toArray.size w:=by
   intro m os dk _ x y;have hk:=Qy (B:=B) (w:=w) (g:=g) (cap:=cap) (n:=A.length) (Aj5.enc (B:=B) (z:=O (D ⟨g,0,J⟩) A.length cap) (w:=w)) m dk os;refine(Ak0 x.1.2 y.1.2 x.1.1 y.1.1 _ (F6 (x.2.1.keep hk)) (F6 (y.2.1.keep hk)) x.2.2 y.2.2).mono ?_;rintro e w' ⟨rfl,hg⟩;exact⟨rfl,hg.grow⟩
  have hS:=Any.slices_SortFunc Tryz.sortRows _ Aux _ Auy 128 #[] g 0 cap _ w eg ak hH (aK hh) (by grind);have es:L.toArray.size=A.length:=by simp[ae]
  rw[es]at hS;refine hS.mono ?_;rintro e w' ⟨rfl,d',n',os,hp,hs,rfl⟩;obtain⟨al,_,af⟩:=hp;have am:d'.size=A.length:=by rw[al];exact es
  have au:=by
   have e1:d'.extract 0 A.length=d':=Mg am;have e2:L.toArray.extract 0 A.length=L.toArray:=Mg es;rw[e1,e2]at af;simpa using af
  refine⟨rfl,d'.toList.map (fun x=>x.1.2),?_,?_,?_,Adf hBg hB _ _ _ _⟩
  ·grind
  ·rw[List.pairwise_map,List.pairwise_iff_getElem];intro i j hi hj an;have ap:=by simpa using hi
   have ab:=by simpa using hj
   have:=hs i j (bO _) an (by omega);rw[getElem!_pos d' i ap,getElem!_pos d' j ab]at this;have h2:=of_decide_eq_false this;assumption
  ·refine⟨d'.toList.map Aj5.enc,⟨by simp,.inr ⟨g,cap,_,by grind,hBg,Ahg hh _ _ _ _,by grind,hcm,by simp[putCells,hcs],?_⟩⟩,?_⟩
   ·have:=Ak1 (Aj5.enc) cur d'.toList (by grind);simp_all
   ·exact All.keep (Qy _ n' d' os) (Ade _)
end
section
open Go.RowKit
open Go.Sort (SWO)
structure Cmp {α:Type}(c:α→α→Int):Prop where
 anti:∀x y,c x y<0↔0<c y x
 trans:∀x y z,c x y≤0→c y z≤0→c x z≤0
theorem Cmp.swo {α}{c:α→α→Int}(h:Cmp c):SWO (bQ c) where
 irrefl x:=by unfold bQ;refine decide_eq_false fun hl=>?_;have:=(h.anti x x).1 hl;omega
 trans x y z h1 h2:=by
  unfold bQ at*;have a:=of_decide_eq_true h1;have b:=of_decide_eq_true h2;refine decide_eq_true ?_;have h3:=h.trans x y z (by omega) (by omega);rcases Int.lt_or_eq_of_le h3 with h4|h4
  ·omega
  ·have h5:c z x≤0:=by
    have:=h.anti x z;have:=h.anti z x;omega
   have h6:=h.trans z x y h5 (by omega);have:=(h.anti y z).1 b;omega
 ntrans x y z h1 h2:=by
  unfold bQ at*;have a:=of_decide_eq_false h1;have b:=of_decide_eq_false h2;refine decide_eq_false fun h3=>?_
  have e1:=h.anti x y;have e2:=h.anti y z;have e3:=h.anti x z;have h4:=h.trans z y x (by omega) (by omega);omega
theorem Cmp.pull {α β}{c}(h:Cmp c)(f:β→α):Cmp (fun x y=>c (f x) (f y)):=⟨fun x y=>h.anti _ _,fun x y z=>h.trans _ _ _⟩
theorem Cmp.neg {α}{c:α→α→Int}(h:Cmp c):Cmp (fun x y=> -1*c x y):=by
 refine⟨fun x y=>?_,fun x y z h1 h2=>?_⟩
 ·have:=h.anti y x;omega
 ·have a:=h.anti x y;have b:=h.anti y z;have d:=h.anti x z;have a':=h.anti y x;have b':=h.anti z y;have d':=h.anti z x;have:=h.trans z y x (by omega) (by omega);omega
theorem Cmp.one {α}{c:α→α→Int}(h:Cmp c):Cmp (fun x y=>1*c x y):=by grind
def Ak3 {α:Type}(c d:α→α→Int)(x y:α):Int:=if c x y=0 then d x y else c x y
theorem Cmp.lex {α}{c d:α→α→Int}(h:Cmp c)(k:Cmp d):Cmp (Ak3 c d):=by
 refine⟨fun x y=>?_,fun x y z h1 h2=>?_⟩
 ·have a:=h.anti x y;have b:=h.anti y x;have e:=k.anti x y;unfold Ak3;omega
 ·unfold Ak3 at*;have ax:=h.anti x y;have ay:=h.anti y z;have az:=h.anti x z;have bx:=h.anti y x;have aa:=h.anti z y;have bz:=h.anti z x;have hx:c x y≤0:=by split at h1<;>omega
  have hy:c y z≤0:=by split at h2<;>omega
  have hz:=h.trans x y z hx hy
  by_cases h0:c x z=0
  ·rw[if_pos h0];have e1:c x y=0:=by
    have:=h.trans y z x hy (by omega);omega
   have e2:c y z=0:=by
    have:=h.trans z x y (by omega) hx;omega
   rw[if_pos e1]at h1;rw[if_pos e2]at h2;exact k.trans x y z h1 h2
  omega
theorem Qz (a b):(a<b∧He a b= -1)∨(a=b∧He a b=0)∨(b<a∧He a b=1):=by
 unfold He;omega
theorem Adg (a b):(klt a b=aV∧F4 a b= -1)∨(a=b∧F4 a b=0)∨(klt b a=aV∧F4 a b=1):=by
 unfold F4;have e:bR _ _=klt a b:=rfl;rw[e];cases h:klt a b with
 |true=>simp
 |false=>
  rcases Ji h with h2|h2
  ·grind
  ·refine .inr (.inr ⟨h2,?_⟩);have:(a.toList==b.toList)=aT:=by
    rw[beq_eq_false_iff_ne];intro he;rw[cY,cY]at he;have:a=b:=by
     obtain⟨a⟩:=a;obtain⟨b⟩:=b;exact congrArg ByteArray.mk (Array.toList_inj.1 he)
    rw[this,Gt]at h2;cases h2
   grind
theorem Adh (a b):Bt a b= -1∨Bt a b=0∨Bt a b=1:=by
 unfold Bt or3;have h1:=Qz a.k b.k;have h2:=Qz a.n b.n;have h3:=Adg a.s b.s;omega
theorem A5a:Cmp Bt:=by
 have aa:∀a b,0<Bt b a↔(b.k>a.k∨(b.k=a.k∧(b.n>a.n∨(b.n=a.n∧klt a.s b.s=aV)))):=fun a b=>by
  unfold Bt or3;have h1:=Qz b.k a.k;have h2:=Qz b.n a.n;split
  ·split
   ·rcases(Adg b.s a.s)with⟨h,h'⟩|⟨h,h'⟩|⟨h,h'⟩
    ·have:=Kx h;grind
    ·rw[h',h,Gt];grind
    grind
   omega
  omega
 have anti:∀a b,Bt a b<0↔0<Bt b a:=fun a b=>by
  rw[Uo,aa];grind
 refine⟨anti,fun a b c h1 h2=>?_⟩;have e1:=anti b a;have e2:=anti c b;have e3:=anti c a;have:=Aaw (a:=c) (b:=b) (c:=a) (by omega) (by omega);omega
def Ez:List V→List V→Int
 |[],[]=>0
 |[],_::_=> -1
 |_::_,[]=>1
 |a::l,b::m=>if Bt a b=0 then Ez l m else Bt a b
theorem Adi:∀A B:List V,Ez A B= -1∨Ez A B=0∨Ez A B=1
 |[],[]=>.inr (.inl rfl)
 |[],_::_=>.inl rfl
 |_::_,[]=>.inr (.inr rfl)
 |a::l,b::m=>by
  unfold Ez;split
  ·exact Adi l m
  ·exact Adh a b
theorem A5b:Cmp Ez:=by
 have anti:∀x y,Ez x y<0↔0<Ez y x:=by
  intro x
  induction x with
  |nil=>intro y;cases y<;>simp[Ez]
  |cons a l ih=>
   intro y;cases y with
   |nil=>rfl
   |cons b m=>
    have h1:=A5a.anti a b;have h2:=A5a.anti b a;unfold Ez;grind
 refine⟨anti,fun x=>?_⟩
 induction x with
 |nil=>
  intro y z _ _;cases z<;>simp[Ez]
 |cons a l ih=>
  intro y z h1 h2;cases y with
  |nil=>simp[Ez]at h1
  |cons b m=>
   cases z with
   |nil=>assumption
   |cons c o=>
    unfold Ez at h1 h2⊢;have ax:=A5a.anti a b;have bx:=A5a.anti b a;have ay:=A5a.anti b c;have aa:=A5a.anti c b;have az:=A5a.anti a c;have bz:=A5a.anti c a;have hx:Bt a b≤0:=by split at h1<;>omega
    have hy:Bt b c≤0:=by split at h2<;>omega
    have hz:=A5a.trans a b c hx hy
    by_cases h0:Bt a c=0
    ·rw[if_pos h0];have e1:Bt a b=0:=by
      have:=A5a.trans b c a hy (by omega);omega
     have e2:Bt b c=0:=by
      have:=A5a.trans c a b (by omega) hx;omega
     grind
    omega
theorem Auz {A B:List V}{k}{a b}(ha:A[k]?=D a)(hb:B[k]?=D b):Ez (A.drop k) (B.drop k)=if Bt a b=0 then Ez (A.drop (k+1)) (B.drop (k+1))else Bt a b:=by
 obtain⟨h1,rfl⟩:=aQ.1 ha;obtain⟨h2,rfl⟩:=aQ.1 hb;rw[cC h1,cC h2,Ez]
theorem Adj (A B:List V)(av bv:aS)(w:aN)(ha:Cq w av A)(hb:Cq w bv B)(al:A.length≤1000000)(am:B.length≤1000000):
  aY aF 214 #[av,bv,.func (.func 129) #[] #[]] w fun e w'=>e=aH (aL aM (Ez A B))∧Gro w w':=by
 obtain⟨ao,ac,ah⟩:=ha.shape;subst ah;obtain⟨bo,bc,ai⟩:=hb.shape;subst ai;have HA:Hid _:=ha;have HB:Hid _:=hb;have af:Hid (Ez A B=Ez (A.drop 0) (B.drop 0)):=by show _=_;simp
 generalize aj:Ez A B=res at af;clear ha hb aj;go_enter Tryz.func214,Tryz.ntmps214;go_wp2
 go_loopw[13] (fun i wr=>∃k:Nat,k≤A.length∧k≤B.length∧i=aL aM k∧Hid (res=Ez (A.drop k) (B.drop k))∧Gro w wr) (fun i _=>A.length-(cI i).toNat)
 case atStart=>exact⟨0,bO _,bO _,rfl,af.out,Gro.refl _⟩
 case round=>
  obtain⟨k,hk,an,rfl,HE,hg⟩:=hrel
  by_cases ab:k<A.length
  ·obtain⟨u,hu⟩:∃u,A[k]?=D u:=⟨_,aD ab⟩;rcases Cq.below HA.out hg.bel with⟨_,h0⟩|⟨b1,o1,c1,hv1,hb1,hR1⟩
   ·rw[h0]at ab;simp at ab
   cases hv1;obtain⟨f0,f1,f2⟩:=hR1 k u hu;have v0:(0:Int)≤(k:Int):=by omega
   have v1:(k:Int)<(A.length:Int):=by omega
   by_cases ae:k<B.length
   ·obtain⟨x,hx⟩:∃x,B[k]?=D x:=⟨_,aD ae⟩;have ag:=Aq wr (U #[aL aM u.k,aL aM u.n,aA u.s] 46);rcases Cq.below (Cq.below HB.out hg.bel) ag with⟨_,h0⟩|⟨b2,o2,c2,hv2,hb2,hR2⟩
    ·rw[h0]at ae;simp at ae
    cases hv2;obtain⟨g0,g1,g2⟩:=hR2 k x hx;have HD:Hid _:=Auz hu hx;have HC:=fun W=>Adc u x W
    have hm:=Adh u x;generalize Bt u x=m at HC HD hm;obtain⟨uk,un,us⟩:=u;obtain⟨xk,xn,xs⟩:=x;simp only[V.val]at HC;simp only at f0 f1 f2 g0 g1 g2 ag;have v2:k<(B.length:Int):=by omega
    have v3:¬(B.length≤(k:Int)):=by omega
    have HJ:Hid (k+1≤A.length∧k+1≤B.length):=⟨ab,ae⟩;clear hu hx hR1 hR2;rcases hm with rfl|rfl|rfl
    ·go_wp2_with(go_fit(HC _);rintro e w2 ⟨rfl,ad⟩);go_ret;exact⟨Av (by rw[HE.out,HD.out];rfl),(hg.trans (((Gro.refl _).alloc _).alloc _)).trans ad⟩
    ·go_wp2_with(go_fit(HC _);rintro e w2 ⟨rfl,ad⟩);go_roundw
     case rel=>exact⟨_,HJ.out.1,HJ.out.2,by rfl,by show _=_;rw[HE.out,HD.out];rfl,(hg.trans (((Gro.refl _).alloc _).alloc _)).trans ad⟩
     case measure=>have:=HJ.out.1;simp[cI];omega
    ·go_wp2_with(go_fit(HC _);rintro e w2 ⟨rfl,ad⟩);go_ret;exact⟨Av (by rw[HE.out,HD.out];rfl),(hg.trans (((Gro.refl _).alloc _).alloc _)).trans ad⟩
   ·have aa:k=B.length:=by omega
    have v3:(B.length≤(k:Int)):=by omega
    have HR:Hid (res=1):=by
     show _=_;rw[HE.out,aa,dQ,←aa,cC ab];rfl
    obtain⟨uk,un,us⟩:=u;simp only at f0 f1 f2;clear hu hR1 aa;go_wp2;go_ret;exact⟨Av (by rw[HR.out]),hg.alloc _⟩
  ·have aa:k=A.length:=by omega
   have v1:¬(k<(A.length:Int)):=by omega
   by_cases ak:A.length<B.length
   ·have v2:(A.length<(B.length:Int)):=by omega
    have HR:Hid (res= -1):=by
     show _=_;rw[HE.out,aa,dQ,cC ak];rfl
    clear aa;go_wp2;go_ret;exact⟨Av (by rw[HR.out]),hg⟩
   ·have v2:¬(A.length<(B.length:Int)):=by omega
    have HR:Hid (res=0):=by
     show _=_;rw[HE.out,aa,dQ,List.drop_of_length_le (by omega)];rfl
    clear aa;go_wp2;go_ret;exact⟨Av (by rw[HR.out]),hg⟩
theorem Up (A B)(av bv)(w)(ha:Cq w av A)(hb:Cq w bv B)(aa:A.length≤1000000)(ab:B.length≤1000000):
  aY aF 135 #[av,bv] w fun e w'=>e=aH (aL aM (Ez A B))∧Gro w w':=by
 have H:=Adj A B av bv w ha hb aa ab;generalize Ez A B=r at H;obtain⟨ao,ac,ad⟩:=ha.shape;subst ad;obtain⟨bo,bc,ae⟩:=hb.shape;subst ae;clear ha hb;go_enter Tryz.func135,Tryz.ntmps135;go_wp2_with(go_fit H;rintro e w2 ⟨rfl,af⟩);go_ret;simp_all
end
section
open Go.RowKit
theorem Asf {α}(X:List α)(o):cO X o []=X:=by simp[cO]
theorem Aoc {α}(X)(o)(v)(cs:List α)(h:o<X.length):cO (X.set o v) (o+1) cs=cO X o (v::cs):=by
 have h1:(X.set o v).take (o+1)=X.take o++[v]:=by
  apply gB;intro i
  by_cases hi:i<o
  ·grind
  ·grind
 have h2:(X.set o v).drop _=X.drop (o+1+cs.length):=List.drop_set_of_lt (by omega);simp only[cO,cN];grind
theorem Fs {g}{t}:∀(cs:List aS) (o:Nat) (X:List aS) (w:aN),w.heap[g]?=D (U X.toArray t)→o+cs.length≤X.length→
  (w.setCells g o cs).heap[g]?=D (U (cO X o cs).toArray t)
 |[],o,X,w,h,_=>by rw[gQ,Asf];omega
 |v::cs,o,X,w,h,hl=>by
  rw[gQ];have hb:(w.setCell ⟨g,o,J⟩ v).heap[g]?=D (U (X.set o v).toArray t):=by
   rw[upd h o v];simp
  have:=Fs cs (o+1) _ _ hb (by grind);rw[this,Aoc X o v cs (by grind)]
theorem Gi {w:aN}(g o)(vs):w.grownBy (w.setCells g o vs) (D g):=by
 induction vs generalizing w o with
 |nil=>exact⟨rfl,rfl,rfl,aG _,fun _ _ _=>rfl⟩
 |cons v vs ih=>
  have h1:w.grownBy (w.setCell ⟨g,o,J⟩ v) (D g):=⟨rfl,rfl,rfl,by simp,fun k _ aa=>by
   simp only[cL,cA];grind⟩
  have h2:=ih (w:=w.setCell ⟨g,o,J⟩ v) (o:=o+1);exact⟨h2.os.trans h1.os,h2.tape.trans h1.tape,h2.output.trans h1.output,aZ h1.size h2.size,fun i hi aa=>(h2.block i (aB hi h1.size) aa).trans (h1.block i hi aa)⟩
theorem Cl {a b c:aN}{r}(h:a.grownBy b r)(k:b.grownBy c r):a.grownBy c r:=
 ⟨k.os.trans h.os,k.tape.trans h.tape,k.output.trans h.output,aZ h.size k.size,fun i hi aa=>(k.block i (aB hi h.size) aa).trans (h.block i hi aa)⟩
theorem A1v (w:aN)(r):w.grownBy w r:=⟨rfl,rfl,rfl,aG _,fun _ _ _=>rfl⟩
theorem Cm {w w'}(r)(h:Below w.heap.size w w'):w.grownBy w' r:=⟨h.os,h.tape,h.output,h.size,fun k hk _=>h.block k hk⟩
theorem K8 {B}{w w'}{g}(hg:w.grownBy w' (D g))(hB:B≤g)(hw:B≤w.heap.size):Below B w w':=
 ⟨hg.os,hg.tape,hg.output,hg.size,fun k hk=>hg.block k (by omega) (fun e=>by grind)⟩
theorem Tv {α}(X)(o)(cs:List α)(h:o≤X.length):(cO X o cs).take o=X.take o:=by
 simp only[cO];grind
theorem F7 {α}(X)(o)(cs:List α)(h:o≤X.length):(cO X o cs).take (o+cs.length)=X.take o++cs:=by
 simp only[cO];grind
theorem Jd {α}(X)(o)(cs:List α)(j)(h:o≤X.length)(hj:o+cs.length≤j):(cO X o cs)[j]?=X[j]?:=by
 simp only[cO];rw[←dO,eB (by grind),List.getElem?_drop];grind
section
variable {P:fZ}
theorem Adk (w:aN)(dT sT ty ab:dA)(g o ac af:Nat)(a:Addr)(aa ad:Nat)(X:List aS)(t:dA)(cs:List aS)(k:Nat)
  (hu:P.underlying dT=D (.slice ab)) (hs:(P.info? ab).map (·.size)=D k)
  (hg:w.heap[g]?=D (U X.toArray t)) (hn:cs.length=eA aa ac*k)
  (ag:∀j v,cs[j]?=D v→w.cell? (a.add j)=D v) (ah:o+cs.length≤X.length) (h1:∀v∈cs,v.oneCell'=aV):
  (dY #[dT,sT] ty #[O (D ⟨g,o,J⟩) ac af,O (D a) aa ad]).run P w=.ok (goInt (eA aa ac)) (w.setCells g o cs):=by
 have ae:=gO (P:=P) g o cs 0 w (fun j hj=>by
   rw[Aa hg (u:=X[o+0+j]'(by omega)) (by simp)];rfl) (fun j hj=>by simp[aJ,hg]) h1
 cases hq:P.info? ab with
 |none=>grind
 |some i=>
  have hi:=by simpa[hq]using hs
  simp only[cB]at ae;simp[dY,eQ hu,Builtin.lenOf,sizeOf,typeInfo,hq,hi,run_firstCells_some (P:=P) (w:=w) k _ a aa ad cs hn ag,ae]
theorem Pr {w:aN}(dT sT ac:dA)(k:Nat)(hu:P.underlying dT=D (.slice ac))(hs:(P.info? ac).map (·.size)=D k)(g o aa ad:Nat)(a:Addr)(ab ae:Nat)(X:List aS)(t:dA)
  (hg:w.heap[g]?=D (U X.toArray t)) (cs:List aS) (hn:cs.length=eA ab aa*k)
  (ag:∀j v,cs[j]?=D v→w.cell? (a.add j)=D v) (af:o+cs.length≤X.length) (h1:∀v∈cs,v.oneCell'=aV):
  ∃w':aN,(∀ty,(dY #[dT,sT] ty #[O (D ⟨g,o,J⟩) aa ad,O (D a) ab ae]).run P w=.ok (goInt (eA ab aa)) w')∧w'.heap[g]?=D (U (cO X o cs).toArray t)∧w.grownBy w' (D g):=
 ⟨_,fun ty=>Adk w dT sT ty ac g o aa ad a ab ae X t cs k hu hs hg hn ag af h1,Fs cs o X w hg af,Gi g o cs⟩
theorem Ps {w:aN}{af:Array Oper}{o:Oper}{a:Act}{K:Act→aN→Prop}{Q:Exit→Act→aN→Prop}{E:Prop}(aj:o.guard=J)(d s:Operand)(dT sT:dA)
  (ho:o.op=.call {callee:=.builtin .copy,args:=#[d,s],argTypes:=#[dT,sT]}) (ae:dA) (k:Nat) (hu:P.underlying dT=D (.slice ae)) (ak:(P.info? ae).map (·.size)=D k)
  (g aa ab ag:Nat) (ad:Addr) (ac ah:Nat) (hd:a.eval d=O (D ⟨g,aa,J⟩) ab ag) (hs:a.eval s=O (D ad) ac ah)
  (X:List aS) (t:dA) (hg:w.heap[g]?=D (U X.toArray t)) (cs:List aS) (hn:cs.length=eA ac ab*k)
  (al:∀j v,cs[j]?=D v→w.cell? (ad.add j)=D v) (ai:aa+cs.length≤X.length) (h1:∀v∈cs,v.oneCell'=aV)
  (h:∀w',w'.heap[g]?=D (U (cO X aa cs).toArray t)→w.grownBy w' (D g)→K (a.put o.dst (goInt (eA ac ab))) w'):
  if bG o (cZ af a.tmps)=aV then dN P o a w K Q else E:=by
 have hw:bG o (cZ af a.tmps)=aV:=by simp[bG,aj]
 rw[if_pos hw];unfold dN execOp;simp only[ho,resolve,invoke,builtin,Sem.run_bind,Sem.run_pure,eY,gK,List.map_cons,List.map_nil,hd,hs,(Adk w dT sT o.type ae g aa ab ag ad ac ah X t cs k hu ak hg hn al ai h1)];exact h _ (Fs cs aa X w hg ai) (Gi g aa cs)
theorem Ayp (z:aS)(n):(aU z.cells n).toList.length=n*z.cells.size:=by simp[aU]
theorem Pt {w:aN}(dT ab:dA)(k:Nat)(z:aS)(hu:P.underlying dT=D (.slice ab))(hz:∀w,(eE ab).run P w=.ok z w)(hk:z.cells.size=k)(ad:∀n,∀v∈(aU z.cells n).toList,v.oneCell'=aV)
  (g aa n c:Nat) (X:List aS) (t:dA) (hg:w.heap[g]?=D (U X.toArray t)) (ae:aa+n*k≤X.length):
  ∃(w':aN) (Y:List aS),(∀ty,(dX #[dT] ty #[O (D ⟨g,aa,J⟩) n c]).run P w=.ok (cJ #[]) w')∧w'.heap[g]?=D (U Y.toArray t)∧Y.length=X.length∧Y.take aa=X.take aa∧w.grownBy w' (D g):=by
 rcases cG n with rfl|h0
 ·exact⟨w,X,fun ty=>by simp[dX,eQ hu],hg,rfl,rfl,A1v _ _⟩
 ·have af:(aU z.cells n).toList.length=n*k:=by rw[Ayp,hk]
  have ac:=gO (P:=P) g aa (aU z.cells n).toList 0 w (fun j hj=>by
   rw[Aa hg (u:=X[aa+0+j]'(by omega)) (by simp)];rfl) (fun j hj=>by simp[aJ,hg]) (ad n)
  simp only[cB]at ac;obtain⟨m,rfl⟩:∃m,n=m+1:=⟨n-1,by omega⟩;exact⟨w.setCells g aa (aU z.cells (m+1)).toList,_,fun ty=>by simp[dX,eQ hu,hz,ac],Fs _ aa X w hg (by omega),eX _ _ _ (by omega),Tv _ _ _ (by omega),Gi g aa _⟩
end
theorem G2 {w:aN}{B}{e}{k n}{v}{xs}(h:w.ownsRow B e k v n xs):(v=O J 0 0∧n=0)∨
  ∃(g cap:Nat) (X:List aS),v=O (D ⟨g,0,J⟩) n cap∧B≤g∧w.heap[g]?=D (U X.toArray e)∧n≤cap∧cap≤bE∧X.length=cap*k∧X.take (n*k)=xs:=by
 rcases h.2 with h|⟨g,cap,cur,h1,h2,h3,h4,h5,h6,h7⟩
 ·grind
 ·exact .inr ⟨g,cap,_,h1,h2,by omega,h4,h5,by omega,h7⟩
theorem Jm {w:aN}{B}{e}{k n g cap}{X xs:List aS}(h2:B≤g)(h3:w.heap[g]?=D (U X.toArray e))(h4:n≤cap)(h5:cap≤bE)(h6:X.length=cap*k)(h7:X.take (n*k)=xs):
  w.ownsRow B e k (O (D ⟨g,0,J⟩) n cap) n xs:=by
 refine⟨by rw[←h7,bU,h6];simp_all,.inr ⟨g,cap,_,rfl,h2,h3,h4,h5,by omega,by omega⟩⟩
theorem Uq {α}{K}{F}{w}:∀{l:List α}{cs:List aS},All K F w l cs→∃CS:List (List aS),cs=CS.flatten∧CS.length=l.length∧∀(i:Nat) (x:α) (c:List aS),l[i]?=D x→CS[i]?=D c→K.R F w x c
 |[],cs,h=>⟨[],h,rfl,fun i x c hx=>by simp⟩
 |a::l,cs,h=>by
  obtain⟨c,rest,rfl,h2,h3⟩:=h;obtain⟨CS,rfl,h5,h6⟩:=Uq h3;refine⟨c::CS,rfl,by grind,fun i x d hx hd=>?_⟩;grind
theorem Lq {α}{K}{F}{w}:∀{l:List α}{CS:List (List aS)},CS.length=l.length→(∀(i:Nat) (x:α) (c:List aS),l[i]?=D x→CS[i]?=D c→K.R F w x c)→All K F w l CS.flatten
 |[],CS,h,_=>by have:=aP h;subst this;rfl
 |a::l,[],h,_=>by grind
 |a::l,c::CS,h,hr=>⟨c,CS.flatten,rfl,hr 0 a c rfl rfl,Lq (by grind) fun i x d hx hd=>hr (i+1) x d (by grind) (by grind)⟩
def Bw {α:Type}(p:Nat→Bool):Nat→List α→List α
 |_,[]=>[]
 |i,a::l=>if p i then Bw p (i+1) l else a::Bw p (i+1) l
theorem Yc {α}(p):∀(l m:List α) (i:Nat),Bw p i (l++m)=Bw p i l++Bw p (i+l.length) m
 |[],m,i=>by rfl
 |a::l,m,i=>by
  rw[gM,Bw,Bw,Yc p l m _,cN,show i+1+l.length=i+(l.length+1) by omega];grind
theorem Ip {α}(p)(l:List α)(j)(x)(h:l[j]?=D x):Bw p 0 (l.take (j+1))=Bw p 0 (l.take j)++(if p j then[]else[x]):=by
 rw[cK,h,Yc];simp only[cS,bU,cX,bZ (Nat.le_of_lt ((aQ.1 h).1)),Bw]
theorem Iq {α}(p):∀(l:List α) (i:Nat),(∀j,i≤j→j<i+l.length→p j=aT)→Bw p i l=l
 |[],i,_=>rfl
 |a::l,i,h=>by
  rw[Bw,if_neg (by grind),Iq p l _ fun j h1 h2=>h j (by omega) (by grind)]
theorem Oh (p):∀(n i:Nat),Bk p i n= -1→∀j,i≤j→j<i+n→p j=aT
 |0,i,_,j,h1,h2=>by omega
 |n+1,i,h,j,h1,h2=>by
  rw[Bk]at h;split at h
  ·omega
  ·rename_i hp
   by_cases hj:j=i
   ·grind
   ·exact Oh p n _ h j (by omega) (by omega)
theorem Oi (p):∀(n i:Nat),Bk p i n= -1∨∃m:Nat,Bk p i n=(m:Int)∧i≤m∧m<i+n∧p m=aV∧∀j,i≤j→j<m→p j=aT
 |0,i=>.inl rfl
 |n+1,i=>by
  rw[Bk];split
  ·grind
  ·rename_i hp;rcases Oi p n (i+1)with h|⟨m,h1,h2,h3,h4,h5⟩
   ·omega
   grind
theorem Gv {CS:List (List aS)}{k}(h:∀c∈CS,c.length=k):CS.flatten.length=CS.length*k:=by
 induction CS with
 |nil=>simp
 |cons c CS ih=>
  grind
theorem Kk {k}:∀{CS:List (List aS)},(∀c∈CS,c.length=k)→∀{i:Nat}{c:List aS},CS[i]?=D c→∀r u,c[r]?=D u→CS.flatten[i*k+r]?=D u
 |[],_,i,c,hc=>by grind
 |d::CS,h,0,c,hc=>fun r u hr=>by grind
 |d::CS,h,i+1,c,hc=>fun r u hr=>by
  rw[List.flatten_cons,eB (by grind),h d (by simp),show(i+1) *k+r-k=i*k+r from by grind];exact Kk (fun x hx=>h x (by grind)) (by grind) r u hr
def Afy:Elem (List aS) where
 size:=1
 R _ _ c cs:=cs=c∧Ac6 c
 len h:=by obtain⟨rfl,a1,n1,c1,rfl⟩:=h;rfl
 keep _ h:=h
 mono _ h:=h
theorem Au0 {c}(h:Ac6 c):c.length=1:=by obtain⟨a1,n1,c1,rfl⟩:=h;rfl
theorem Ayq:(Tryz.prog.info? 79).map (fun i=>(i.zero,i.size,i.bytes))=D (D (O J 0 0),1,24):=by kernel_rfl
theorem Adl {w}{B}{v}{CS}(h:w.ownsRow B 79 1 v CS.length CS.flatten)(hs:∀c∈CS,Ac6 c):IsL Afy (fun _=>True) w v CS:=
 ⟨CS.flatten,Bq.of_own h fun _ _=>trivial,Lq rfl fun i x c h1 h2=>by rw[h1]at h2;cases h2;exact⟨rfl,hs _ (aX h1)⟩⟩
def Afz:Elem (List aS) where
 size:=3
 R _ _ c cs:=cs=c∧Ac7 c
 len h:=by obtain⟨rfl,a1,n1,c1,a2,n2,c2,a3,n3,c3,rfl⟩:=h;rfl
 keep _ h:=h
 mono _ h:=h
theorem Au1 {c}(h:Ac7 c):c.length=3:=by obtain⟨a1,n1,c1,a2,n2,c2,a3,n3,c3,rfl⟩:=h;rfl
theorem Ak4:(Tryz.prog.info? 123).map (fun i=>(i.zero,i.size,i.bytes))=D (D (bM #[O J 0 0,O J 0 0,O J 0 0]),3,72):=by kernel_rfl
theorem Ayr:(Tryz.prog.info? 123).map (·.size)=D 3:=by kernel_rfl
theorem Adm {w}{B}{v}{CS}(h:w.ownsRow B 123 3 v CS.length CS.flatten)(hs:∀c∈CS,Ac7 c):IsL Afz (fun _=>True) w v CS:=
 ⟨CS.flatten,Bq.of_own h fun _ _=>trivial,Lq rfl fun i x c h1 h2=>by rw[h1]at h2;cases h2;exact⟨rfl,hs _ (aX h1)⟩⟩
theorem Aod (n):∀u∈(aU ((O J 0 0):aS).cells n).toList,u.oneCell'=aV:=by
 intro u hu;simp only[aU,gC,eP]at hu;obtain⟨i,_,rfl⟩:=hu;have aa:i%1<1:=Nat.mod_lt _ (by simp);have ab:∀j,j<1→(((O J 0 0):aS).cells[j]!).oneCell'=aV:=by
  intro j hj;obtain rfl:j=0:=by omega
  all_goals rfl
 exact ab _ aa
theorem Aoe (n):∀u∈(aU ((bM #[O J 0 0,O J 0 0,O J 0 0]):aS).cells n).toList,u.oneCell'=aV:=by
 intro u hu;simp only[aU,gC,eP]at hu;obtain⟨i,_,rfl⟩:=hu;have aa:i%3<3:=Nat.mod_lt _ (by simp);have ab:∀j,j<3→(((bM #[O J 0 0,O J 0 0,O J 0 0]):aS).cells[j]!).oneCell'=aV:=by
  intro j hj;rcases(by omega:j=0∨j=1∨j=2)with rfl|rfl|rfl
  all_goals rfl
 exact ab _ aa
theorem Aof (l)(ao)(n c:Nat)(f0:aS)(p:Nat→Bool)(St:Nat→aN→Prop)(En:aN→Prop)(w:aN)(ag:∀i W,St i W→En W)(ad:∀i W,St i W→IsL Afy (fun _=>True) W (O ao n c) l)
  (ah:∀i cs W,l[i]?=D cs→St i W→aY aF 125 #[cs.headD (eM aT),f0] W fun e W'=>e=aH (eM (p i))∧En W'∧(p i=aT→St (i+1) W')) (h0:St 0 w):
  aY aF 206 #[O ao n c,.func (.func 125) #[] #[f0]] w fun e W'=>e=aH (aL aM (Bk p 0 l.length))∧En W':=by
 obtain⟨hn,ai⟩:=D5 (ad 0 w h0);subst hn;unfold bE at ai;go_enter Tryz.func206,Tryz.ntmps206;go_wp2
 go_loopw[8] (fun i wr=>∃k:Nat,k≤l.length∧i=aL aM k∧St k wr∧Hid (Bk p 0 l.length=Bk p k (l.length-k))) (fun i _=>l.length-(cI i).toNat)
 case atStart=>exact⟨0,bO _,rfl,h0,rfl⟩
 case round=>
  obtain⟨k,hk,rfl,aa,HP⟩:=hrel
  by_cases ae:k<l.length
  ·obtain⟨x,hx⟩:∃x,l[k]?=D x:=⟨_,aD ae⟩;obtain⟨b,ak,cs,rfl,_,hb,hR,af⟩:=At (ad k wr aa) hx;have HC:=ah k x wr hx aa;obtain⟨rfl,aj⟩:=hR;obtain⟨a1,n1,c1,rfl⟩:=aj;have d0:=af 0 _ rfl;simp only[Afy,cB,dB]at d0;have k0:(0:Int)≤k:=by omega
   have k1:k<(l.length:Int):=by omega
   have ab:Hid _:=L7 p k _ ae;clear af hx;generalize hq:p k=q at HC ab;clear hq;cases q
   ·go_wp2_with(go_fit HC;rintro e W' ⟨rfl,_,ac⟩);go_roundw
    case rel=>exact⟨_,by omega,by rfl,ac (by simp),by rw[HP.out,ab.out];rfl⟩
    case measure=>simp[cI];omega
   ·go_wp2_with(go_fit HC;rintro e W' ⟨rfl,ac,_⟩);go_ret;exact⟨Av (by rw[HP.out,ab.out];rfl),ac⟩
  ·have HE:Hid (Bk p k (l.length-k)= -1):=by show _=_;rw[show l.length-k=0 from by omega,Bk]
   go_wp2;go_ret;exact⟨Av (by rw[HP.out,HE.out]),ag k _ aa⟩
theorem Ak5 (CS)(v)(f0)(p)(B)(w)(ad:w.ownsRow B 79 1 v CS.length CS.flatten)(hs:∀c∈CS,Ac6 c)(hB:B≤w.heap.size)
  (ak:∀i cs W,CS[i]?=D cs→w.grownBy W v.ownBlock→aY aF 125 #[cs.headD (eM aT),f0] W fun e W'=>e=aH (eM (p i))∧Below W.heap.size W W'):
  aY aF 124 #[v,.func (.func 125) #[] #[f0]] w fun e w'=>∃v',e=aH v'∧w'.ownsRow B 79 1 v' (Bw p 0 CS).length (Bw p 0 CS).flatten∧v'.ownBlock=v.ownBlock∧w.grownBy w' v.ownBlock∧Below B w w':=by
 have ae:∀c∈CS,c.length=1:=fun c hc=>Au0 (hs c hc)
 obtain⟨ao,cap,rfl⟩:=(Adl ad hs).shape;have HI:=Aof CS ao CS.length cap f0 p (fun _ W=>Below w.heap.size w W) (fun W=>Below w.heap.size w W) w (fun _ _ h=>h) (fun _ W h=>Adl (Ak ad h) hs)
  (fun i cs W hi hW=>(ak i cs W hi (Cm _ hW)).mono fun e W' ⟨he,hb⟩=>⟨he,Ac hW hb,fun _=>Ac hW hb⟩) (aE _ _)
 rcases Oi p CS.length 0 with hf|⟨i0,hf,_,hi0,hp0,hpre⟩
 ·have av:Hid (Bw p 0 CS=CS):=Iq p CS 0 (Oh p _ _ hf);rw[hf]at HI;go_enter Tryz.func124,Tryz.ntmps124;go_wp2_with(go_fit HI;rintro e w1 ⟨rfl,aa⟩);go_ret;rw[av.out];exact⟨_,rfl,Ak ad aa,rfl,Cm _ aa,aa.mono hB⟩
 ·rw[hf]at HI;rcases G2 ad with⟨_,h0⟩|⟨g,cap',X0,hv,hBg,hX0,hncap,hcapm,hXl,hXt⟩
  ·omega
  cases hv;have al:Hid (Bw p 0 (CS.take (i0+1))=CS.take i0):=by
   show _=_;have hx:CS[i0]?=D (CS[i0]'(by omega)):=aD (by omega);rw[Ip p CS i0 _ hx,hp0,Iq p (CS.take i0) 0 fun j h1 h2=>hpre j h1 (by simp at h2;omega)];simp
  have bj:CS.length≤9223372036854775807:=by
   simp only[bE]at hcapm;omega
  clear hf hp0 hpre;have aw:=aK hX0;go_enter Tryz.func124,Tryz.ntmps124;go_wp2_with(go_fit HI;rintro e w1 ⟨rfl,aa⟩);have ab:=(aa.block g aw).trans hX0
  go_loopw[5,6] (fun iv jv wr=>∃i j:Nat,∃X:List aS,i<j∧j≤CS.length∧iv=aL aM i∧jv=aL aM j∧wr.heap[g]?=D (U X.toArray 79)∧X.length=cap*1∧Hid (X.take (i*1)=(Bw p 0 (CS.take j)).flatten)∧Hid (i=(Bw p 0 (CS.take j)).length)∧(∀m c,j≤m→CS[m]?=D c→∀r u,c[r]?=D u→X[m*1+r]?=D u)∧w.grownBy wr (D g)) (fun _ j _=>CS.length-(cI j).toNat)
  case atStart=>
   refine⟨i0,i0+1,X0,by omega,by omega,rfl,by rfl,ab,hXl,?_,?_,?_,Cm _ aa⟩
   ·show _=_;rw[al.out];have e1:X0.take (i0*1)=(X0.take (CS.length*1)).take (i0*1):=by rw[List.take_take,bZ (by omega)]
    rw[e1,hXt,←bF i0 CS,fA,bF];have ax:(CS.take i0).flatten.length=i0*1:=by rw[Gv fun c hc=>ae c (eW hc),bU,bZ (by omega)]
    rw[←ax,List.take_left]
   ·show _=_;rw[al.out,bU,bZ (by omega)]
   ·intro m c hm hc r u hr;have h1:=Kk ae hc r u hr;have bk:=(aQ.1 hc).1;have ay:=(aQ.1 hr).1;rw[ae c (aX hc)]at ay;rw[←hXt,cD (by omega)]at h1;exact h1
  case round=>
   obtain⟨i,j,X,bl,hj,rfl,rfl,hX,af,HT,HL,ag,am⟩:=hrel
   by_cases az:j<CS.length
   ·obtain⟨x,hx⟩:∃x,CS[j]?=D x:=⟨_,aD az⟩;have HC:=fun W hW=>ak j x W hx hW
    have an:=Ip p CS j x hx;obtain⟨a1,n1,c1,rfl⟩:=hs x (aX hx);have d0:wr.cell? ⟨g,j,J⟩=D (O a1 n1 c1):=Aa hX (by have:=ag j _ (aG _) hx 0 _ rfl;rw[dB]at this;simpa using this);have j0:(0:Int)≤(j:Int):=by omega
    have j1:(j:Int)<(CS.length:Int):=by omega
    have ah:=am;have ai:=HC _ ah;have ab:=hX;obtain⟨xi,ap⟩:∃u,X[i]?=D u:=⟨_,aD (by omega)⟩;have ba:Hid _:=ap;clear ap;have HX:Hid _:=hx;have HR:Hid _:=ag;have HS:Hid _:=an;have bm:=aK hX;clear hx ag HC an;generalize hq:p j=q at ai HS;cases q
    ·have bn:(#[O a1 n1 c1]:Array aS).all (·.oneCell')=aV:=by simp[gR]
     go_wp2_with(first
      |(go_fit ai;rintro e W' ⟨rfl,ac⟩;have aj:=(ac.block g (aK ab)).trans ab;have y0:=(Aa aj (by simpa using ba.out));have z0:W'.frozen? ⟨g,i,J⟩=aT:=(by simp[aJ,aj]);have bb:(0:Int)≤i:=(by omega);have bc:i<(CS.length:Int):=(by omega))
      |fail)
     go_roundw
     case rel=>
      (first|refine⟨_,_,_,_,_,_,_,_,_,_,_,_,_,_,_,_,_,_,_,_,_,?_,rfl⟩|refine⟨_,_,_,_,_,_,_,_,_,_,_,_,_,_,_,_,_,_,_,_,_,_,?_,rfl⟩|refine⟨_,_,_,_,_,_,_,_,_,_,_,_,_,_,_,_,_,_,_,_,?_,rfl⟩|refine⟨_,_,_,_,_,_,_,_,_,_,_,_,_,_,_,_,_,_,_,_,_,_,_,?_,rfl⟩|refine⟨_,_,_,_,_,_,_,_,_,_,_,_,_,_,_,_,_,_,_,?_,rfl⟩)
      refine⟨i+1,j+1,cO X (i*1) [O a1 n1 c1],by omega,by omega,by rfl,by rfl,?_,?_,?_,?_,?_,?_⟩
      ·exact by have:=Fs [O a1 n1 c1] (i*1) X _ aj (by grind);rw[dB]at this⊢;exact this
      ·rw[eX _ _ _ (by grind)];omega
      ·show _=_;rw[HS.out];have e1:(i+1) *1=i*1+([O a1 n1 c1]:List aS).length:=by simp
       rw[e1,F7 _ _ _ (by omega),HT.out];simp
      ·show _=_;rw[HS.out];have:=HL.out;grind
      ·intro m c hm hc r u hr;rw[Jd _ _ _ _ (by omega) (by grind)];exact HR.out m c (by omega) hc r u hr
      ·exact Cl (Cl ah (Cm _ ac)) (Gi g i [O a1 n1 c1])
     case measure=>simp[cI];omega
    ·go_wp2_with(go_fit ai;rintro e W' ⟨rfl,ac⟩);go_roundw
     case rel=>
      (first|refine⟨_,_,_,_,_,_,_,_,_,_,_,_,_,_,_,_,_,_,_,_,_,?_,rfl⟩|refine⟨_,_,_,_,_,_,_,_,_,_,_,_,_,_,_,_,_,_,_,_,_,_,?_,rfl⟩|refine⟨_,_,_,_,_,_,_,_,_,_,_,_,_,_,_,_,_,_,_,_,?_,rfl⟩|refine⟨_,_,_,_,_,_,_,_,_,_,_,_,_,_,_,_,_,_,_,_,_,_,_,?_,rfl⟩|refine⟨_,_,_,_,_,_,_,_,_,_,_,_,_,_,_,_,_,_,_,?_,rfl⟩)
      refine⟨i,j+1,X,by omega,by omega,by first|rfl|go_num,by go_num,(ac.block g (aK ab)).trans ab,af,?_,?_,fun m c hm hc r u hr=>HR.out m c (by omega) hc r u hr,Cl ah (Cm _ ac)⟩
      ·show _=_;rw[HS.out,HT.out];simp
      ·show _=_;rw[HS.out];simpa using HL.out
     case measure=>simp[cI];omega
   ·have bd:j=CS.length:=by omega
    subst bd;rw[cU]at HT HL;have v1:¬((CS.length:Int)<(CS.length:Int)):=by omega
    have bb:(0:Int)≤(i:Int):=by omega
    have bc:(i:Int)≤(CS.length:Int):=by omega
    have bo:¬(cap=i):=by omega
    have bp:(i:Int)≤(cap:Int):=by omega
    have hz:∀w,(eE 79).run aF w=.ok (O J 0 0) w:=fun w=>by
     obtain⟨i9,be,bf,_,_⟩:=dU Ayq;simp[eE,typeInfo,be,bf]
    have aq:∀n,∀u∈(aU ((O J 0 0):aS).cells n).toList,u.oneCell'=aV:=fun n u hu=>Aod n u hu
    obtain⟨w2,Y,bq,hY,bg,ar,bh⟩:=Pt (P:=aF) (w:=wr) 30 79 1 (O J 0 0) dK hz rfl aq g (i) (CS.length-i) (cap-i) X 79 hX (by rw[af,Nat.sub_mul];have:CS.length*1≤cap*1:=eZ _ hncap;omega);have HY:Hid _:=hY;have bi:Hid _:=ar;clear hY ar hz aq;go_wp2;go_ret;have au:=Cl am bh;refine⟨_,rfl,?_,rfl,au,K8 au hBg hB⟩;rw[←HL.out];exact Jm hBg HY.out (by omega) hcapm (bg.trans af) (by rw[dB];have:=HT.out;rw[dB]at this;exact bi.out.trans this)
theorem Ak6 (l)(ao)(n c:Nat)(f0:aS)(p:Nat→Bool)(St:Nat→aN→Prop)(En:aN→Prop)(w:aN)(ag:∀i W,St i W→En W)(ae:∀i W,St i W→IsL Afz (fun _=>True) W (O ao n c) l)
  (ah:∀i cs W,l[i]?=D cs→St i W→aY aF 138 #[bM cs.toArray,f0] W fun e W'=>e=aH (eM (p i))∧En W'∧(p i=aT→St (i+1) W')) (h0:St 0 w):
  aY aF 216 #[O ao n c,.func (.func 138) #[] #[f0]] w fun e W'=>e=aH (aL aM (Bk p 0 l.length))∧En W':=by
 obtain⟨hn,ai⟩:=D5 (ae 0 w h0);subst hn;unfold bE at ai;go_enter Tryz.func216,Tryz.ntmps216;go_wp2
 go_loopw[8] (fun i wr=>∃k:Nat,k≤l.length∧i=aL aM k∧St k wr∧Hid (Bk p 0 l.length=Bk p k (l.length-k))) (fun i _=>l.length-(cI i).toNat)
 case atStart=>exact⟨0,bO _,rfl,h0,rfl⟩
 case round=>
  obtain⟨k,hk,rfl,ab,HP⟩:=hrel
  by_cases af:k<l.length
  ·obtain⟨x,hx⟩:∃x,l[k]?=D x:=⟨_,aD af⟩;obtain⟨b,ak,cs,rfl,_,hb,hR,aa⟩:=At (ae k wr ab) hx;have HC:=ah k x wr hx ab;obtain⟨rfl,aj⟩:=hR;obtain⟨a1,n1,c1,a2,n2,c2,a3,n3,c3,rfl⟩:=aj;have d0:=aa 0 _ rfl;have d1:=aa 1 _ rfl;have d2:=aa 2 _ rfl;simp only[Afz,cB]at d0 d1 d2;have k0:(0:Int)≤k:=by omega
   have k1:k<(l.length:Int):=by omega
   have ac:Hid _:=L7 p k _ af;clear aa hx;generalize hq:p k=q at HC ac;clear hq;cases q
   ·go_wp2_with(go_fit HC;rintro e W' ⟨rfl,_,ad⟩);go_roundw
    case rel=>exact⟨_,by omega,by rfl,ad (by simp),by rw[HP.out,ac.out];rfl⟩
    case measure=>simp[cI];omega
   ·go_wp2_with(go_fit HC;rintro e W' ⟨rfl,ad,_⟩);go_ret;exact⟨Av (by rw[HP.out,ac.out];rfl),ad⟩
  ·have HE:Hid (Bk p k (l.length-k)= -1):=by show _=_;rw[show l.length-k=0 from by omega,Bk]
   go_wp2;go_ret;exact⟨Av (by rw[HP.out,HE.out]),ag k _ ab⟩
theorem Ai9 (CS)(v)(f0)(p)(B)(w)(ad:w.ownsRow B 123 3 v CS.length CS.flatten)(hs:∀c∈CS,Ac7 c)(hB:B≤w.heap.size)
  (ak:∀i cs W,CS[i]?=D cs→w.grownBy W v.ownBlock→aY aF 138 #[bM cs.toArray,f0] W fun e W'=>e=aH (eM (p i))∧Below W.heap.size W W'):
  aY aF 137 #[v,.func (.func 138) #[] #[f0]] w fun e w'=>∃v',e=aH v'∧w'.ownsRow B 123 3 v' (Bw p 0 CS).length (Bw p 0 CS).flatten∧v'.ownBlock=v.ownBlock∧w.grownBy w' v.ownBlock∧Below B w w':=by
 have ae:∀c∈CS,c.length=3:=fun c hc=>Au1 (hs c hc)
 obtain⟨ao,cap,rfl⟩:=(Adm ad hs).shape;have HI:=Ak6 CS ao CS.length cap f0 p (fun _ W=>Below w.heap.size w W) (fun W=>Below w.heap.size w W) w (fun _ _ h=>h) (fun _ W h=>Adm (Ak ad h) hs)
  (fun i cs W hi hW=>(ak i cs W hi (Cm _ hW)).mono fun e W' ⟨he,hb⟩=>⟨he,Ac hW hb,fun _=>Ac hW hb⟩) (aE _ _)
 rcases Oi p CS.length 0 with hf|⟨i0,hf,_,hi0,hp0,hpre⟩
 ·have au:Hid (Bw p 0 CS=CS):=Iq p CS 0 (Oh p _ _ hf);rw[hf]at HI;go_enter Tryz.func137,Tryz.ntmps137;go_wp2_with(go_fit HI;rintro e w1 ⟨rfl,aa⟩);go_ret;rw[au.out];exact⟨_,rfl,Ak ad aa,rfl,Cm _ aa,aa.mono hB⟩
 ·rw[hf]at HI;rcases G2 ad with⟨_,h0⟩|⟨g,cap',X0,hv,hBg,hX0,hncap,hcapm,hXl,hXt⟩
  ·omega
  cases hv;have al:Hid (Bw p 0 (CS.take (i0+1))=CS.take i0):=by
   show _=_;have hx:CS[i0]?=D (CS[i0]'(by omega)):=aD (by omega);rw[Ip p CS i0 _ hx,hp0,Iq p (CS.take i0) 0 fun j h1 h2=>hpre j h1 (by simp at h2;omega)];simp
  have bi:CS.length≤9223372036854775807:=by
   simp only[bE]at hcapm;omega
  clear hf hp0 hpre;go_enter Tryz.func137,Tryz.ntmps137;go_wp2_with(go_fit HI;rintro e w1 ⟨rfl,aa⟩);have ab:=(aa.block g (aK hX0)).trans hX0
  go_loopw[5,6] (fun iv jv wr=>∃i j:Nat,∃X:List aS,i<j∧j≤CS.length∧iv=aL aM i∧jv=aL aM j∧wr.heap[g]?=D (U X.toArray 123)∧X.length=cap*3∧Hid (X.take (i*3)=(Bw p 0 (CS.take j)).flatten)∧Hid (i=(Bw p 0 (CS.take j)).length)∧(∀m c,j≤m→CS[m]?=D c→∀r u,c[r]?=D u→X[m*3+r]?=D u)∧w.grownBy wr (D g)) (fun _ j _=>CS.length-(cI j).toNat)
  case atStart=>
   refine⟨i0,i0+1,X0,by omega,by omega,rfl,by rfl,ab,hXl,?_,?_,?_,Cm _ aa⟩
   ·show _=_;rw[al.out];have e1:X0.take (i0*3)=(X0.take (CS.length*3)).take (i0*3):=by rw[List.take_take,bZ (by omega)]
    rw[e1,hXt,←bF i0 CS,fA,bF];have av:(CS.take i0).flatten.length=i0*3:=by rw[Gv fun c hc=>ae c (eW hc),bU,bZ (by omega)]
    rw[←av,List.take_left]
   ·show _=_;rw[al.out,bU,bZ (by omega)]
   ·intro m c hm hc r u hr;have h1:=Kk ae hc r u hr;have bj:=(aQ.1 hc).1;have aw:=(aQ.1 hr).1;rw[ae c (aX hc)]at aw;rw[←hXt,cD (by omega)]at h1;exact h1
  case round=>
   obtain⟨i,j,X,bk,hj,rfl,rfl,hX,af,HT,HL,ag,am⟩:=hrel
   by_cases ax:j<CS.length
   ·obtain⟨x,hx⟩:∃x,CS[j]?=D x:=⟨_,aD ax⟩;have HC:=fun W hW=>ak j x W hx hW
    have an:=Ip p CS j x hx;obtain⟨a1,n1,c1,a2,n2,c2,a3,n3,c3,rfl⟩:=hs x (aX hx);have d0:wr.cell? ⟨g,j*3,J⟩=D (O a1 n1 c1):=Aa hX (by have:=ag j _ (aG _) hx 0 _ rfl;grind);have d1:wr.cell? ⟨g,j*3+1,J⟩=D (O a2 n2 c2):=Aa hX (by simp_all);have d2:wr.cell? ⟨g,j*3+2,J⟩=D (O a3 n3 c3):=Aa hX (by simp_all);have j0:(0:Int)≤j:=by omega
    have j1:j<(CS.length:Int):=by omega
    have ah:w.grownBy (wr.alloc (U [O a1 n1 c1,O a2 n2 c2,O a3 n3 c3].toArray 123)) _:=Cl am (Cm _ (Aq _ _));have ai:=HC _ ah;have ab:=Ad hX (U [O a1 n1 c1,O a2 n2 c2,O a3 n3 c3].toArray 123);have HR:Hid _:=ag;have HS:Hid _:=an;clear hx ag HC an;generalize hq:p j=q at ai HS;cases q
    ·have ay:(#[O a1 n1 c1,O a2 n2 c2,O a3 n3 c3]:Array aS).all (·.oneCell')=aV:=by simp[gR]
     go_wp2_with(first
      |(go_fit ai;rintro e W' ⟨rfl,ac⟩;have aj:=(ac.block g (aK ab)).trans ab;have t0:=(ac.block _ (by simp)).trans (Ab wr _);have x0:=Aa t0 (j:=0) rfl;have x1:=Aa t0 (j:=1) rfl;have x2:=Aa t0 (j:=2) rfl;have az:W'.there g (i*3) 3:=(fun r hr=>⟨by rw[Aa aj (u:=X[i*3+r]'(by omega)) (by simp)];rfl,by simp[aJ,aj]⟩);have ba:(0:Int)≤i:=(by omega);have bb:i<(CS.length:Int):=(by omega))
      |(refine wpList_store_mid rfl 123 _ _ rfl g (i*3) #[O a1 n1 c1,O a2 n2 c2,O a3 n3 c3] ?_ ?_ ?_ ?_ ?_ ?_;exact rfl;exact rfl;exact az;exact Ayr;exact ay))
     go_roundw
     case rel=>
      refine⟨_,_,_,_,_,_,_,_,_,_,_,_,_,_,_,_,_,_,_,_,_,_,_,?_,rfl⟩;refine⟨i+1,j+1,cO X (i*3) [O a1 n1 c1,O a2 n2 c2,O a3 n3 c3],by omega,by omega,by rfl,by rfl,?_,?_,?_,?_,?_,?_⟩
      ·exact Fs _ _ X _ aj (by grind)
      ·rw[eX _ _ _ (by grind)];omega
      ·show _=_;rw[HS.out];have e1:(i+1) *3=i*3+([O a1 n1 c1,O a2 n2 c2,O a3 n3 c3]:List aS).length:=by simp;omega
       rw[e1,F7 _ _ _ (by omega),HT.out];simp
      ·show _=_;rw[HS.out];have:=HL.out;grind
      ·intro m c hm hc r u hr;rw[Jd _ _ _ _ (by omega) (by grind)];exact HR.out m c (by omega) hc r u hr
      ·exact Cl (Cl ah (Cm _ ac)) (Gi g _ _)
     case measure=>simp[cI];omega
    ·go_wp2_with(go_fit ai;rintro e W' ⟨rfl,ac⟩);go_roundw
     case rel=>
      refine⟨_,_,_,_,_,_,_,_,_,_,_,_,_,_,_,_,_,_,_,_,_,_,_,?_,rfl⟩;refine⟨i,j+1,X,by omega,by omega,by first|rfl|go_num,by go_num,(ac.block g (aK ab)).trans ab,af,?_,?_,fun m c hm hc r u hr=>HR.out m c (by omega) hc r u hr,Cl ah (Cm _ ac)⟩
      ·show _=_;rw[HS.out,HT.out];simp
      ·show _=_;rw[HS.out];simpa using HL.out
     case measure=>simp[cI];omega
   ·have bc:j=CS.length:=by omega
    subst bc;rw[cU]at HT HL;have v1:¬((CS.length:Int)<(CS.length:Int)):=by omega
    have ba:(0:Int)≤(i:Int):=by omega
    have bb:(i:Int)≤(CS.length:Int):=by omega
    have bl:¬(cap=i):=by omega
    have bm:(i:Int)≤(cap:Int):=by omega
    have hz:∀w,(eE 123).run aF w=.ok (bM #[O J 0 0,O J 0 0,O J 0 0]) w:=fun w=>by
     obtain⟨i9,bd,be,_,_⟩:=dU Ak4;simp[eE,typeInfo,bd,be]
    have ap:∀n,∀u∈(aU ((bM #[O J 0 0,O J 0 0,O J 0 0]):aS).cells n).toList,u.oneCell'=aV:=fun n u hu=>Aoe n u hu
    obtain⟨w2,Y,bn,hY,bf,aq,bg⟩:=Pt (P:=aF) (w:=wr) 119 123 3 (bM #[O J 0 0,O J 0 0,O J 0 0]) fN hz rfl ap g (i*3) (CS.length-i) (cap-i) X 123 hX (by rw[af,Nat.sub_mul];have:CS.length*3≤cap*3:=eZ _ hncap;omega);have HY:Hid _:=hY;have bh:Hid _:=aq;clear hY aq hz ap;go_wp2;go_ret;have ar:=Cl am bg;refine⟨_,rfl,?_,rfl,ar,K8 ar hBg hB⟩;rw[←HL.out];exact Jm hBg HY.out (by omega) hcapm (bf.trans af) (bh.out.trans HT.out)
end
section
def fst (f:UInt8→Bool)(w:Wd):Bool:=match w.data.toList with|[]=>aT|c::_=>f c
def Ir (l:List UInt8):Nat:=l.foldl (fun n c=>10*n+(c.toNat-48)) 0
def Kp (w:Wd):Option Int:=
 if decide (1≤w.size)&&w.data.toList.all Bo&&(decide (w.size=1)|| !fst (fun c=>c==48) w)&&decide (Ir w.data.toList≤1000000)then D (Ir w.data.toList:Int)else J
def R0 (w:Wd):V:=⟨2,0,⟨((w.data.toList.drop 1).take (w.size-2)).toArray⟩⟩
def Du (c:UInt8):Bool:=c==39
theorem Tb {w k}(h:nm w=aV)(hk:nm k=aT):w≠k:=by grind
theorem Adn {w k}{n}(h:Kp w=D n)(hk:Kp k=J):w≠k:=by grind
theorem Ado {f}{w k}(h:fst f w=aV)(hk:fst f k=aT):w≠k:=by grind
theorem Yd {w}{n}(h:Kp w=D n):fst Bo w=aV:=by
 unfold Kp at h;split at h
 ·rename_i c;simp only[dR,decide_eq_true_eq]at c;obtain⟨⟨⟨c1,c2⟩,_⟩,_⟩:=c;unfold fst
  match hw:w.data.toList with
  |[]=>simp[fC,←dC,hw]at c1
  |c::l=>grind
 grind
theorem P6 {w}(h:nm w=aV):fst Ce w=aV:=by
 simp only[nm,dR,decide_eq_true_eq]at h;obtain⟨⟨⟨c1,_⟩,c2⟩,_⟩:=h;unfold fst
 match hw:w.data.toList with
 |[]=>simp[fC,←dC,hw]at c1
 |c::l=>grind
theorem Ur {f g}{w}(h:fst f w=aV)(hg:∀c,f c=aV→g c=aT):fst g w=aT:=by
 unfold fst at h⊢;split at h
 ·rfl
 grind
theorem Rl {f}{w}(h:fst f w=aV):0<w.size:=by
 unfold fst at h;split at h
 ·grind
 ·rename_i c l hw;have:w.data.toList.length=l.length+1:=by rw[hw];rfl
  rw[show w.size=w.data.toList.length from(dC).symm];omega
theorem R4 (c)(h:Ce c=aV):Bo c=aT:=by
 simp only[Ce,Bo,dR,Bool.and_eq_false_iff,decide_eq_true_eq,decide_eq_false_iff_not]at h⊢;omega
theorem Aax (c)(h:Du c=aV):Bo c=aT:=by
 simp only[Du,beq_iff_eq]at h;subst h;rfl
theorem R5 (c)(h:Ce c=aV):Du c=aT:=by
 cases hq:Du c
 ·rfl
 ·simp only[Du,beq_iff_eq]at hq;subst hq;revert h;decide
abbrev St:=Option (List Wd)
def adv (l:List Wd):St:=match l with|[]=>D []|w::l=>if w.size=0 then J else D (w::l)
def Ag (k:Wd)(s:St):Bool×St:=match s with|some (w::l)=>if w=k then(aV,adv l)else(aT,D (w::l))|s=>(aT,s)
def Cg (k:Wd)(s:St):St:=if(Ag k s).1 then(Ag k s).2 else J
def Us (ks:List Wd)(s:St):St:=ks.foldl (fun s k=>Cg k s) s
def Bm (s:St):Wd×St:=match s with|some (w::l)=>if nm w then(w,adv l)else(noW,J)|_=>(noW,J)
def Cz (s:St):Int×St:=match s with|some (w::l)=>(match Kp w with|some n=>(n,adv l)|none=>(0,J))|_=>(0,J)
def Gj (f:UInt8→Bool)(s:St):Bool:=match s with|some (w::_)=>fst f w|_=>aT
def Bg (s:St):Nat:=match s with|some l=>l.length|none=>0
def J2 {α:Type}(one:St→α×St):Nat→List α→St→List α×St
 |0,acc,s=>(acc,s)
 |f+1,acc,s=>if(Ag Em s).1 then J2 one f (acc++[(one (Ag Em s).2).1]) (one (Ag Em s).2).2 else(acc,(Ag Em s).2)
def Ib {α:Type}(one:St→α×St)(s:St):List α×St:=J2 one (Bg (one s).2) [(one s).1] (one s).2
def Hu {α:Type}(one:St→α×St)(s:St):List α×St:=((Ib one (Cg Dl s)).1,Cg Dc (Ib one (Cg Dl s)).2)
def Ap (ops:List (Wd×Int))(s:St):Int×St:=match ops with|[]=>(0,s)|o::ops=>if(Ag o.1 s).1 then(o.2,(Ag o.1 s).2)else Ap ops s
def Dn (part:St→E×St)(ops:List (Wd×Int)):Nat→E→St→E×St
 |0,e,s=>(e,s)
 |f+1,e,s=>if(Ap ops s).1=0 then(e,(Ap ops s).2)else Dn part ops f (Hj (Ap ops s).1 [e,(part (Ap ops s).2).1]) (part (Ap ops s).2).2
def Is (part:St→E×St)(ops:List (Wd×Int))(s:St):E×St:=Dn part ops (Bg (part s).2) (part s).1 (part s).2
def Oj (s:St):V×St:=match s with|some (w::l)=>if good (R0 w)then(R0 w,adv l)else(zero,J)|_=>(zero,J)
def Vo (s:St):E×St:=if(Ag K6 (Bm s).2).1 then(Tq (Bm s).1 (Bm (Ag K6 (Bm s).2).2).1,(Bm (Ag K6 (Bm s).2).2).2)else(Tq noW (Bm s).1,(Ag K6 (Bm s).2).2)
def Ok (_:St):E×St:=(E.nil,J)
def Ha (sub:St→E×St)(s:St):E×St:=
 if(Ag Dl s).1 then((sub (Ag Dl s).2).1,Cg Dc (sub (Ag Dl s).2).2)
 else if(Ag Fw s).1 then(Lx zero,(Ag Fw s).2)
 else if(Ag Gf s).1 then(Lx ⟨1,-(Cz (Ag Gf s).2).1,noW⟩,(Cz (Ag Gf s).2).2)
 else if Gj Bo s then(Lx ⟨1,(Cz s).1,noW⟩,(Cz s).2)
 else if Gj Du s then(Lx (Oj s).1,(Oj s).2)
 else Vo s
abbrev Adp:List (Wd×Int):=[(A1e,3),(Gf,4)]
abbrev Fj:List (Wd×Int):=[(kEq,5),(kLt,6)]
abbrev Adq:List (Wd×Int):=[(Ayh,7)]
abbrev Aj6:List (Wd×Int):=[(kOr,8)]
def Fo (sub:St→E×St)(s:St):E×St:=Is (Ha sub) Adp s
def It (sub subT:St→E×St)(s:St):E×St:=
 if(Ag N4 s).1 then(Hj 9 [(subT (Ag N4 s).2).1],(subT (Ag N4 s).2).2)
 else if(Ag kIs (Fo sub s).2).1 then(Hj 10 [(Fo sub s).1],Cg Fw (Ag kIs (Fo sub s).2).2)
 else if(Ap Fj (Fo sub s).2).1=0 then((Fo sub s).1,(Ap Fj (Fo sub s).2).2)
 else(Hj (Ap Fj (Fo sub s).2).1 [(Fo sub s).1,(Fo sub (Ap Fj (Fo sub s).2).2).1],(Fo sub (Ap Fj (Fo sub s).2).2).2)
def Asg (sub subT:St→E×St)(s:St):E×St:=Is (It sub subT) Adq s
def Ak7 (sub subT:St→E×St)(s:St):E×St:=Is (Asg sub subT) Aj6 s
def Jn:Nat→(St→E×St)×(St→E×St)
 |0=>(Ak7 Ok Ok,It Ok Ok)
 |d+1=>(Ak7 (Jn d).1 (Jn d).2,It (Jn d).1 (Jn d).2)
def Kw:Nat→St→E×St|0=>Ok|d+1=>(Jn d).1
def Mh:Nat→St→E×St|0=>Ok|d+1=>(Jn d).2
theorem Au2 (d):Jn d=(Ak7 (Kw d) (Mh d),It (Kw d) (Mh d)):=by cases d<;>rfl
def Mi (s:St):E×St:=(Jn 5).1 s
abbrev Gr:=List Wd→E→Prop
inductive Atom (sub:Gr):Gr
 |null:Atom sub [Fw] (Lx zero)
 |num {w n}:Kp w=D n→Atom sub [w] (Lx ⟨1,n,noW⟩)
 |neg {w n}:Kp w=D n→Atom sub [Gf,w] (Lx ⟨1,-n,noW⟩)
 |text {w}:fst Du w=aV→good (R0 w)=aV→Atom sub [w] (Lx (R0 w))
 |ref {w}:nm w=aV→Atom sub [w] (Tq noW w)
 |dot {a b}:nm a=aV→nm b=aV→Atom sub [a,K6,b] (Tq a b)
 |br {l e}:sub l e→Atom sub (Dl::(l++[Dc])) e
inductive Chain (P:Gr) (ops:List (Wd×Int)):Gr
 |one {l e}:P l e→Chain P ops l e
 |more {l a o k m b}:Chain P ops l a→(o,k)∈ops→P m b→Chain P ops (l++o::m) (Hj k [a,b])
inductive Test (S subT:Gr):Gr
 |neg {l e}:subT l e→Test S subT (N4::l) (Hj 9 [e])
 |sum {l e}:S l e→Test S subT l e
 |is {l e}:S l e→Test S subT (l++[kIs,Fw]) (Hj 10 [e])
 |cmp {l a o k m b}:S l a→(o,k)∈Fj→S m b→Test S subT (l++o::m) (Hj k [a,b])
abbrev Ak8 (sub:Gr):Gr:=Chain (Atom sub) Adp
abbrev Tc (sub subT:Gr):Gr:=Test (Ak8 sub) subT
abbrev A4t (sub subT:Gr):Gr:=Chain (Tc sub subT) Adq
abbrev Aj7 (sub subT:Gr):Gr:=Chain (A4t sub subT) Aj6
def Kq:Nat→Gr×Gr
 |0=>(Aj7 (fun _ _=>False) (fun _ _=>False),Tc (fun _ _=>False) (fun _ _=>False))
 |d+1=>(Aj7 (Kq d).1 (Kq d).2,Tc (Kq d).1 (Kq d).2)
def Adr:Nat→Gr|0=>fun _ _=>False|d+1=>(Kq d).1
def Ads:Nat→Gr|0=>fun _ _=>False|d+1=>(Kq d).2
theorem A1w (d):Kq d=(Aj7 (Adr d) (Ads d),Tc (Adr d) (Ads d)):=by cases d<;>rfl
abbrev Td:Gr:=(Kq 5).1
def Ci {α:Type}(p:St→α×St)(G:List Wd→α→Prop):Prop:=∀s a r,p s=(a,D r)→∃l,s=D (l++r)∧G l a
def Qg (l:List Wd):Prop:=adv l=D l
def Vp (F:List Wd)(r:List Wd):Prop:=∀x,r.head? =D x→∀k∈F,x≠k
def E8 {α:Type}(p:St→α×St)(G:List Wd→α→Prop)(F:List Wd):Prop:=∀l a r,G l a→Qg r→Vp F r→p (D (l++r))=(a,D r)∧Qg (l++r)∧l≠[]
theorem Mp {w}{l}(h:0<w.size):adv (w::l)=D (w::l):=if_neg (by omega)
theorem A1x {w}{l}(h:w.size=0):adv (w::l)=J:=if_pos h
theorem Ft {w}{l}(h:0<w.size):Qg (w::l):=Mp h
theorem Ye {l r}(h:adv l=D r):l=r∧Qg r:=by
 cases l with
 |nil=>simp[adv]at h;subst h;exact⟨rfl,rfl⟩
 |cons w l=>
  by_cases hw:w.size=0
  ·rw[A1x hw]at h;grind
  ·rw[Mp (by omega)]at h;cases h;exact⟨rfl,Ft (by omega)⟩
theorem J3 {k}{l}:Ag k (D (k::l))=(aV,adv l):=by simp[Ag]
theorem Z0 {k}{r}(h:∀x,r.head? =D x→x≠k):Ag k (D r)=(aT,D r):=by
 cases r with
 |nil=>rfl
 |cons w l=>simp[Ag,h w rfl]
theorem Au3 {k}:Ag k J=(aT,J):=rfl
theorem Dw {k}{s}{r}(h:(Ag k s).1=aV)(h2:(Ag k s).2=D r):s=D (k::r)∧Qg r:=by
 unfold Ag at h h2;split at h
 ·rename_i w l;split at h
  ·rename_i e;subst e;simp at h2;obtain⟨rfl,hf⟩:=Ye h2;grind
  grind
 grind
theorem Bp {k}{s}(h:(Ag k s).1=aT):(Ag k s).2=s:=by
 unfold Ag at h⊢;grind
theorem Ak9 {k}{l}:Cg k (D (k::l))=adv l:=by simp[Cg,J3]
theorem Do {k}{s}{r}(h:Cg k s=D r):s=D (k::r)∧Qg r:=by
 unfold Cg at h;split at h
 ·rename_i e;exact Dw e h
 grind
theorem Fd {s}{a}{r}(h:Bm s=(a,D r)):s=D (a::r)∧nm a=aV∧Qg r:=by
 unfold Bm at h;split at h
 ·split at h
  ·rename_i hn;simp at h;obtain⟨rfl,h⟩:=h;obtain⟨rfl,hf⟩:=Ye h;grind
  grind
 grind
theorem Vq {a}{r}(h:nm a=aV):Bm (D (a::r))=(a,adv r):=by simp[Bm,h]
theorem Tw {s}{n}{r}(h:Cz s=(n,D r)):∃w,s=D (w::r)∧Kp w=D n∧Qg r:=by
 unfold Cz at h;split at h
 ·rename_i w l;split at h
  ·rename_i m hn;simp at h;obtain⟨rfl,h⟩:=h;obtain⟨rfl,hf⟩:=Ye h;grind
  grind
 grind
theorem Vr {w}{n}{r}(h:Kp w=D n):Cz (D (w::r))=(n,adv r):=by simp[Cz,h]
theorem Q0 {F}{w}{l}(h:∀k∈F,w≠k):Vp F (w::l):=by intro x hx;grind
theorem Vp.sub {F F'}{r}(h:Vp F r)(hs:∀k∈F',k∈F):Vp F' r:=fun x hx k hk=>h x hx k (hs k hk)
end
end Go.Proofs.YtocegbpmmiabmaaGreatDoor
