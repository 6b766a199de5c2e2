/-
  13 texts of this proof in one,in build order:PMath,First,Values,Args,PMem,PKeys,DStep,PIdx,TPut,TPutEnd,TPutAny,TJoin,TDrop.
-/
import Derived.Test.YtjapkoofjlmdgaaGreatDoorRows
import Derived.WalkKit
import Derived.WalkSpells
import Derived.WalkLawsBesides
import Derived.Lib.Bytealg
import Derived.Lib.IndexLaws
import Derived.Lib.EndianBits
import Derived.Deep.QuietTactic
import Derived.BigQuiet
import Derived.Deep.RegionHeld3
import Derived.Deep.RegionLaw
import Derived.Laws.AppendOwnNone
import Derived.Deep.Cut
import Derived.Deep.DeepCutAuto
import Derived.Deep.DeepFit
import Derived.Deep.CutRange
import Derived.Test.YtjapkoofjlmdgaaGreatDoorJ01
import Derived.Test.YtjapkoofjlmdgaaGreatDoorJ02
set_option linter.unusedSimpArgs false
set_option linter.unusedVariables false
set_option maxRecDepth 100000
set_option maxHeartbeats 0
open Go.Value renaming agg→bF,int→U,int→bB,ownBlock→aE,pointer→cQ,slice→J,string→O,string→bM,tuple→bH
open Go.World renaming cell?_of_block→aO,cell?_setCell_other→aK,frozen?→aF,ownsRow_nil→cM,setCell→bR,size_alloc→aA
open Option renaming none→D,some→H,toList_some→cK
open Nat renaming eq_zero_or_pos→cN,le_refl→aD,le_trans→bN,lt_of_lt_of_le→aB,lt_of_succ_lt→cR,zero_add→cI,zero_le→cL
open Go.Obj renaming cells→S,cells→bZ
open Go.RowKit.Below renaming heap_setCell→aM,refl→aC
open Go.RowKit renaming Below→X
open Go.Proofs.Tryz renaming func108→cH,func109→bW,func239→bV,func247→cG,ntmps108→cD,ntmps109→bU,ntmps239→bS,ntmps247→cC,prog→aG,results239→cW,results247→cV
open Go.Ending renaming returned→aH
open Go renaming Calls→aP,World→bA,bodyPost_ret→aI,lt_of_block→aL,maxLen→aV,results→aS
open Go.IntKind renaming i64→aJ,i64→aU,u32→cF,wrap_i64→bE
open List renaming append_assoc→cP,append_nil→aR,eq_nil_of_length_eq_zero→bG,flatMap_cons→cO,flatMap_nil→cT,getElem?_eq_getElem→aN,getElem?_eq_some_iff→bK,length_append→aX,length_cons→cS,mem_append→bI,mem_append_right→cJ,mem_cons→bL,mem_of_getElem?→bP,not_mem_nil→bY,of_mem_zip→cX,take_append_drop→bO,zip_append→aZ
open Go.Lib renaming indexByte→aQ
open Bool renaming false→aT,true→bQ
open And renaming intro→aW
open Go.Op renaming bytesLess→aY
open ByteArray renaming data_append→bD
open Array renaming toList_append→bJ
open Go.Region renaming wanted→cA
open Go.Value.slice renaming injEq→cB
open Option.some renaming injEq→cE
open Go.Addr.mk renaming injEq→cU
open Go.BinOp renaming or→cY
namespace Go.Proofs.YtjapkoofjlmdgaaGreatDoor
section
abbrev PL:=List (ByteArray×ByteArray)
theorem Abn {F:PL}{k v}{x}:x∈I0 F k v↔x=(k,v)∨(x∈F∧x.1≠k):=by
 unfold I0;simp only[bI,bL,List.mem_filter];constructor
 ·rintro(⟨h1,h2⟩|h|⟨h1,h2⟩)
  ·exact .inr ⟨h1,Fz h2⟩
  ·grind
  ·exact .inr ⟨h1,(Fz h2).symm⟩
 ·rintro(h|⟨h1,h2⟩)
  ·grind
  ·cases hk:klt x.1 k with
   |true=>grind
   |false=>
    rcases Jh hk with e|e
    ·grind
    grind
theorem Agx {F:PL}{k}{x}:x∈Jy F k↔x∈F∧x.1≠k:=by simp[Jy]
theorem Att {F:PL}{k}:Hy F k=D↔∀x∈F,x.1≠k:=by simp[Hy]
def Dc (t:Wd):Wd:=(⟨#[114]⟩++t)++⟨#[0]⟩
def Hk (x:Wd):Wd:=(⟨#[120]⟩++x)++⟨#[0]⟩
def H7 (t:Wd)(id:V):Wd:=Dc t++str (Bb [id]).1
def Id (x:Wd)(v id:V):Wd:=Hk x++str (Bb [v,id]).1
theorem Pw (t):(Dc t).data.toList=114::(t.data.toList++[0]):=by rfl
theorem Atu (t):(Hk t).data.toList=120::(t.data.toList++[0]):=by rfl
theorem Jr (t)(id):(H7 t id).data.toList=114::(t.data.toList++0::(Bb [id]).1):=by
 rw[H7,bD,bJ,Pw,Br];simp
theorem Px (x)(v id):(Id x v id).data.toList=120::(x.data.toList++0::(Bb [v,id]).1):=by
 rw[Id,bD,bJ,Atu,Br];simp
theorem Jk (t x)(a v id):H7 t a≠Id x v id:=by
 intro h;have:=congrArg (fun s=>s.data.toList) h;simp only[Jr,Px,List.cons.injEq]at this;grind
def Ej (t:TabD)(x:IdxD):Int:=if x.table=t.name then Dy t.cols x.col else-1
def Xu (t:TabD)(r:List V)(x:IdxD):Option Wd:=if 0≤Ej t x then H (Id x.name (r.getD (Ej t x).toNat zero) (r.headD zero))else D
def iks (I:List IdxD)(t:TabD)(r:List V):List Wd:=I.filterMap (Xu t r)
def Ln (F:PL)(l:List Wd):PL:=l.foldl (fun F k=>I0 F k noW) F
def J9 (F:PL)(l:List Wd):PL:=l.foldl Jy F
def rk (t:TabD)(r:List V):Wd:=H7 t.name (r.headD zero)
def putRow (F:PL)(I:List IdxD)(t:TabD)(r:List V):PL:=Ln (I0 F (rk t r) (str (Bb r).1)) (iks I t r)
def Kf (F:PL)(I:List IdxD)(t:TabD)(r:List V):PL:=J9 (Jy F (rk t r)) (iks I t r)
theorem Xv {x}:∀(l:List Wd) (F:PL),(∀y∈F,y.1∈l→y.2=noW)→(x∈Ln F l↔x∈F∨(x.1∈l∧x.2=noW))
 |[],F,_=>by simp[Ln]
 |k::l,F,h=>by
  have ih:=Xv (x:=x) l (I0 F k noW) (fun y hy hl=>by
   rcases Abn.1 hy with e|⟨h1,_⟩
   ·rw[e]
   grind)
  have e:Ln F (k::l)=Ln (I0 F k noW) l:=rfl;rw[e,ih,Abn];grind
theorem Vf {x}:∀(l:List Wd) (F:PL),x∈J9 F l↔x∈F∧x.1∉l
 |[],F=>by simp[J9]
 |k::l,F=>by
  have e:J9 F (k::l)=J9 _ l:=rfl;rw[e,Vf l,Agx];grind
theorem Nb {I}{t}{r}{k}(h:k∈iks I t r):∃x v id,k=Id x v id:=by
 obtain⟨x,_,hx⟩:=List.mem_filterMap.1 h;unfold Xu at hx;grind
theorem Qn (I)(t)(r):(iks I t r).length≤I.length:=List.length_filterMap_le _ _
def A3p (I:List IdxD)(t:TabD)(r:List V)(x:ByteArray×ByteArray):Prop:=x=(rk t r,str (Bb r).1)∨(x.1∈iks I t r∧x.2=noW)
def Hl (t:Wd):Wd:=Dc t++noW
def Hm (t:Wd):Wd:=Dc t++(noW++⟨#[255]⟩)
theorem Aq9 (t):(Hl t).data.toList=114::(t.data.toList++[0]):=by
 rw[Hl,bD,bJ,Pw];simp
theorem Ara (t):(Hm t).data.toList=114::(t.data.toList++[0,255]):=by
 rw[Hm,bD,bJ,Pw];simp
theorem Cw (a b):klt a b=aY a.data.toList b.data.toList:=by
 unfold klt;rw[Lib.toList_data,Lib.toList_data]
theorem Rf {v}(h:good v=bQ):(Bb [v]).1=keyOf v:=by rw[I4 (by grind)];simp[Dv]
theorem Axo (l):aY l []=aT:=by cases l<;>rfl
theorem Atv {t}{v}(h:good v=bQ)(x):rq (Hl t) (Hm t) (H7 t v,x)=bQ:=by
 unfold rq;rw[Cw,Cw,Jr,Aq9,Ara,Rf h];obtain⟨r,hr⟩:=Ll h;rw[hr];have e1:∀(a b),aY (114::(t.data.toList++a)) (114::(t.data.toList++b))=aY a b:=fun a b=>by
  have:=Dw (114::t.data.toList) a b;grind
 rw[e1,e1];have e2:∀(a b),aY (0::a) (0::b)=aY a b:=fun a b=>by rfl
 rw[e2,e2,Axo];have:aY (UInt8.ofNat (v.k.toNat+1)::r) [255]=bQ:=by
  refine G7 ?_ _ _;rcases Gz h with e|e|e<;>rw[e]<;>decide
 grind
def Il (n:Nat)(x:Wd):Option (List V):=match vals x.data.toList with
 |some L=>if 0<L.length∧L.length=n then H L else D
 |none=>D
def F3 (n:Nat)(R:PL):List (List V):=(R.map Prod.snd).filterMap (Il n)
theorem Agy {n}{r}(h0:0<n)(hl:r.length=n)(h:∀v∈r,good v=bQ):Il n (str (Bb r).1)=H r:=by
 unfold Il;rw[Br,I4 h,Sv r h];grind
theorem Xw {α:Type}[DecidableEq α]:∀{A B:List α},A.Nodup→(∀x∈A,x∈B)→A.length≤B.length
 |[],B,_,_=>cL _
 |a::A,B,hn,hs=>by
  rw[List.nodup_cons]at hn;have ha:=hs a (by simp);have:=Xw (A:=A) (B:=B.erase a) hn.2 fun x hx=>(List.mem_erase_of_ne (show x≠a from fun e=>hn.1 (by rw[←e];exact hx))).2 (hs x (by simp[hx]))
  grind
theorem A0u {t:TabD}{a b:List V}(ha:good (a.headD zero)=bQ)(hb:good (b.headD zero)=bQ)(h:klt (rk t a) (rk t b)=bQ):Bs (a.headD zero) (b.headD zero)<0:=by
 rw[Cw,rk,rk,Jr,Jr,Rf ha,Rf hb]at h;have e1:aY (114::(t.name.data.toList++0::keyOf (a.headD zero))) (114::(t.name.data.toList++0::keyOf (b.headD zero)))=aY (keyOf (a.headD zero)) (keyOf (b.headD zero)):=by
  have:=Dw (114::(t.name.data.toList++[0])) (keyOf (a.headD zero)) (keyOf (b.headD zero));simpa using this
 rw[e1]at h;rcases Aad [a.headD zero] [b.headD zero] rfl (by simpa using ha) (by simpa using hb)with⟨e,_⟩|⟨_,e⟩|⟨_,e⟩
 ·have:Rs [a.headD zero] [b.headD zero]=Bs (a.headD zero) (b.headD zero):=by
   unfold Rs;split
   ·rename_i h0;rw[h0];rfl
   ·rfl
  omega
 ·simp only[Dv,cO,cT,aR]at e;rw[e,Tn]at h;grind
 ·simp only[Dv,cO,cT,aR]at e;rw[Lk _ _ e]at h;grind
def G0 (F:PL)(I:List IdxD)(t:TabD)(A:List (List V)):PL:=A.foldl (fun F r=>Kf F I t r) F
theorem Anj (F)(I)(t)(A)(r):G0 F I t (A++[r])=Kf (G0 F I t A) I t r:=by simp[G0]
theorem Acz {I}{t}{x}:∀(A:List (List V)) (F:PL),x∈G0 F I t A↔x∈F∧∀r∈A,x.1≠rk t r∧x.1∉iks I t r
 |[],F=>by simp[G0]
 |r::A,F=>by
  have e:G0 F I t (r::A)=G0 (Kf F I t r) I t A:=rfl;rw[e,Acz A,Kf,Vf,Agx];grind
end
section
open Go.RowKit
theorem Xx (s)(c)(w):
  aP aG 135 #[.string s,.int .u8 c] w fun e w'=>e=.returned (.int .i64 (aQ s.data.toList c.toNat.toUInt8))∧w'=w:=by
 go_enter Tryz.func135,Tryz.ntmps135;go_wp2;rw[run_callFunc_extern Tryz.func212 (by rfl) (by rfl) (by kernel_rfl) (by kernel_rfl),Lib.run_indexByteString];simp only[Result.andThen];rw[Oper.upon_value];go_wp2;go_ret;simp
theorem Ww (s)(c)(w):
  aP aG 69 #[.string s,.int .u8 c] w fun e w'=>e=.returned (.int .i64 (aQ s.data.toList c.toNat.toUInt8))∧w'=w:=by
 go_enter Tryz.func69,Tryz.ntmps69;go_wp2_with(refine(Xx _ _ _).mono ?_;rintro e w' ⟨rfl,rfl⟩);go_ret;simp
theorem Z4 (s:ByteArray)(w:bA)(h:s.size<5):
  aP aG 302 #[O s] w fun e w'=>e=aH (bH #[bF #[U aJ 0,U aJ 0,O ⟨#[]⟩],U aJ 0])∧X w.heap.size w w':=by
 go_enter Tryz.func302,Tryz.ntmps302;go_wp2;exact aI (v:=bH #[bF #[U aJ 0,U aJ 0,O ⟨#[]⟩],U aJ 0]) (by simp[aS,Tryz.results302,go_sem]) rfl ⟨rfl,(aC _ _).alloc (aD _) _⟩
theorem or4 (a b c d:Nat)(ha:a<256)(hb:b<256)(hc:c<256)(hd:d<256):
  bits cY cF (bits cY cF (bits cY cF ((a:Int) *16777216) ((b:Int) *65536)) ((c:Int) *256)) (d:Int)=(a:Int) *16777216+(b:Int) *65536+(c:Int) *256+(d:Int):=by
 have e1:=bits_join _ 32 (by decide) wraps_u32 24 (a*16777216) (b*65536) (by omega) (by omega) (by omega) (by omega) (by omega) (by omega);have e2:=bits_join _ 32 (by decide) wraps_u32 16 (a*16777216+b*65536) (c*256) (by omega) (by omega) (by omega) (by omega) (by omega) (by omega);have e3:=bits_join _ 32 (by decide) wraps_u32 8 (a*16777216+b*65536+c*256) d (by omega) (by omega) (by omega) (by omega) (by omega) (by omega);grind
theorem Abo (s)(w)(h:5≤s.size)(hs:s.size≤aV):
  aP aG 302 #[.string s] w fun e w'=>e=.returned (.tuple #[.agg #[.int .i64 1,.int .i64 (n4 s.data.toList-1073741824),.string ⟨#[]⟩],.int .i64 5])∧X w.heap.size w w':=by
 unfold aV at hs;have h1:(1:Int)<s.size:=by omega
 have h2:(2:Int)<s.size:=by omega
 have h3:(3:Int)<s.size:=by omega
 have h4:(4:Int)<s.size:=by omega
 have b1:s[1].toNat<256:=s[1].toNat_lt;have b2:s[2].toNat<256:=s[2].toNat_lt;have b3:s[3].toNat<256:=s[3].toNat_lt;have b4:s[4].toNat<256:=s[4].toNat_lt;have ho:=or4 _ _ _ _ b1 b2 b3 b4;have hn:n4 s.data.toList=(s[1].toNat:Int) *(16777216:Int)+(s[2].toNat:Int) *(65536:Int)+(s[3].toNat:Int) *(256:Int)+(s[4].toNat:Int):=by
  unfold n4;rw[Pt s 1 (by omega),Pt s 2 (by omega),Pt s 3 (by omega),Pt s 4 (by omega)]
 rw[←hn]at ho;have aa:0≤n4 s.data.toList:=by omega
 have ab:n4 s.data.toList<4294967296:=by omega
 clear hn;generalize n4 _=m at ho aa ab⊢;go_enter Tryz.func302,Tryz.ntmps302;go_wp2;go_quiet(fail);go_wp2;refine aI (by simp[aS,go_sem]) rfl ⟨rfl,?_⟩;exact(((below_drewN ((aC _ _).alloc (aD _) _) _).setCell (aD _) _).setCell (aD _) _).setCell (aD _) _
theorem Afh (s:ByteArray)(w:bA)(h:aQ s.data.toList 0<0):
  aP aG 303 #[O s] w fun e w'=>e=aH (bH #[bF #[U aJ 0,U aJ 0,O ⟨#[]⟩],U aJ 0])∧X w.heap.size w w':=by
 generalize hi:aQ _ 0=i at h;have HI:Hid _:=hi;clear hi;go_enter Tryz.func303,Tryz.ntmps303;go_wp2_with(refine(Ww _ _ _).mono ?_;rintro e w' ⟨rfl,rfl⟩;rw[show aQ _ (0:Int).toNat.toUInt8=i from HI.out]);exact aI (v:=bH #[bF #[U aJ 0,U aJ 0,O ⟨#[]⟩],U aJ 0]) (by simp[aS,Tryz.results303,go_sem]) rfl ⟨rfl,(aC _ _).alloc (aD _) _⟩
theorem Afi (s)(w)(i:Nat)(hi:aQ s.data.toList 0=i)(h1:1≤i)(h2:i<s.size)(hs:s.size≤aV):
  aP aG 303 #[O s] w fun e w'=>e=aH (bH #[bF #[U aJ 2,U aJ 0,O (s.extract 1 i)],U aJ (i+1)])∧X w.heap.size w w':=by
 unfold aV at hs;have HI:Hid _:=hi;clear hi;go_enter Tryz.func303,Tryz.ntmps303;go_wp2_with(refine(Ww _ _ _).mono ?_;rintro e w' ⟨rfl,rfl⟩;rw[show aQ _ (0:Int).toNat.toUInt8=i from HI.out]);refine aI (by simp[aS,go_sem]) rfl ⟨rfl,?_⟩;exact(aC _ _).alloc (aD _) _
theorem Kt (s)(w)(f:Nat)(h0)(k n)(t)(sz)
  (hf:(f=302∧s[0].toNat=2)∨(f=303∧s[0].toNat=3))
  (hc:∀w:bA,aP aG f #[O s] w fun e w'=>e=aH (bH #[bF #[U aJ k,U aJ n,O t],U aJ sz])∧X w.heap.size w w'):
  aP aG 239 #[O s] w fun e w'=>e=aH (bH #[bF #[U aJ k,U aJ n,O t],U aJ sz])∧X w.heap.size w w':=by
 rcases hf with⟨rfl,hb⟩|⟨rfl,hb⟩
 ·have h1:(s[0].toNat:Int)=2:=by omega
  go_enter bV,bS;go_wp2_with(refine(hc _).mono ?_;rintro e w1 ⟨rfl,aa⟩;obtain⟨ab,ac⟩:=E5 aa);refine aI (by simp[aS,go_sem,ab]) rfl ⟨rfl,?_⟩;exact(((((aC _ _).alloc (aD _) _).trans (aa.mono (by simp))).setCell (aD _) _).setCell (aD _) _).setCell (aD _) _
 ·have h1:(s[0].toNat:Int)=3:=by omega
  go_enter bV,bS;go_wp2_with(refine(hc _).mono ?_;rintro e w1 ⟨rfl,aa⟩;obtain⟨ab,ac⟩:=E5 aa);refine aI (by simp[aS,go_sem,ab]) rfl ⟨rfl,?_⟩;exact(((((aC _ _).alloc (aD _) _).trans (aa.mono (by simp))).setCell (aD _) _).setCell (aD _) _).setCell (aD _) _
theorem Afj (s:ByteArray)(w:bA)(h0:0<s.size)(hb:s[0].toNat=1):
  aP aG 239 #[O s] w fun e w'=>e=aH (bH #[bF #[U aJ 0,U aJ 0,O ⟨#[]⟩],U aJ 1])∧X w.heap.size w w':=by
 go_enter bV,bS;go_wp2;exact aI (v:=bH #[bF #[U aJ 0,U aJ 0,O ⟨#[]⟩],U aJ 1]) (by simp[aS,cW,go_sem]) rfl ⟨rfl,(aC _ _).alloc (aD _) _⟩
theorem Abp (s:ByteArray)(w:bA)(h0:0<s.size)(aa:¬s[0].toNat=1)(ab:¬s[0].toNat=2)(ac:¬s[0].toNat=3):
  aP aG 239 #[O s] w fun e w'=>e=aH (bH #[bF #[U aJ 0,U aJ 0,O ⟨#[]⟩],U aJ 0])∧X w.heap.size w w':=by
 have ad:s[0].toNat<256:=s[0].toNat_lt;go_enter bV,bS;go_wp2;exact aI (v:=bH #[bF #[U aJ 0,U aJ 0,O ⟨#[]⟩],U aJ 0]) (by simp[aS,cW,go_sem]) rfl ⟨rfl,(aC _ _).alloc (aD _) _⟩
theorem Afk (c)(n:Nat)(hn:n<256):c=UInt8.ofNat n↔c.toNat=n:=by
 constructor
 ·simp_all
 ·intro h;rw[←h];simp
theorem Afl (s:ByteArray)(w:bA)(hs:s.size≤aV)(h0:0<s.size):
  aP aG 239 #[.string s] w fun e w'=>e=.returned (.tuple #[(fv s.data.toList).1.val,.int .i64 (fv s.data.toList).2])∧X w.heap.size w w':=by
 have g0:s.data.toList.getD 0 0=s[0]:=Pt s 0 h0;have q1:s[0]=1↔s[0].toNat=1:=Afk s[0] 1 (by omega);have q2:s[0]=2↔s[0].toNat=2:=Afk s[0] 2 (by omega);have q3:s[0]=3↔s[0].toNat=3:=Afk s[0] 3 (by omega)
 by_cases h1:s[0].toNat=1
 ·have e:fv s.data.toList=(zero,1):=by unfold fv;rw[g0,if_pos (q1.2 h1)]
  rw[e];exact Afj s w h0 h1
 have n1:¬s[0]=1:=fun h=>h1 (q1.1 h)
 by_cases h2:s[0].toNat=2
 ·by_cases hl:s.size<5
  ·have e:fv s.data.toList=(zero,0):=by unfold fv;rw[g0,if_neg n1,if_pos (q2.2 h2),if_pos (by rw[Dm];exact hl)]
   rw[e];exact Kt s w 302 h0 0 0 ⟨#[]⟩ 0 (.inl ⟨rfl,h2⟩) fun w=>Z4 s w hl
  ·have e:fv s.data.toList=(⟨1,n4 s.data.toList-1073741824,⟨#[]⟩⟩,5):=by unfold fv;rw[g0,if_neg n1,if_pos (q2.2 h2),if_neg (by rw[Dm];exact hl)]
   rw[e];exact Kt s w 302 h0 1 _ ⟨#[]⟩ 5 (.inl ⟨rfl,h2⟩) fun w=>Abo s w (by omega) hs
 have n2:¬s[0]=2:=fun h=>h2 (q2.1 h)
 by_cases h3:s[0].toNat=3
 ·by_cases hl:aQ s.data.toList 0<0
  ·have e:fv s.data.toList=(zero,0):=by unfold fv;rw[g0,if_neg n1,if_neg n2,if_pos (q3.2 h3),if_pos hl]
   rw[e];exact Kt s w 303 h0 0 0 _ 0 (.inr ⟨rfl,h3⟩) fun w=>Afh s w hl
  ·obtain⟨i,hi⟩:∃i:Nat,aQ s.data.toList 0=i:=⟨(aQ s.data.toList 0).toNat,by omega⟩;have aa:=(Lib.indexByte_some hi).1;have ab:i<s.size:=by rw[←Dm];exact(bK.1 aa).1
   have ac:1≤i:=by
    rcases cN i with rfl|h
    ·grind
    ·omega
   have e:fv s.data.toList=(⟨2,0,str ((s.data.toList.drop 1).take (i-1))⟩,i+1):=by
    unfold fv;rw[g0,if_neg n1,if_neg n2,if_pos (q3.2 h3),if_neg hl,hi];simp
   have e2:s.extract 1 i=str _:=Lib.extract_eq s 1 i;rw[e];refine Kt s w 303 h0 2 0 _ _ (.inr ⟨rfl,h3⟩) fun w=>?_
   rw[←e2];exact Afi s w i hi ac ab hs
 have n3:¬s[0]=3:=fun h=>h3 (q3.1 h)
 have e:fv s.data.toList=(zero,0):=by unfold fv;rw[g0,if_neg n1,if_neg n2,if_neg n3]
 rw[e];exact Abp s w h0 h1 h2 h3
theorem Qo:(Tryz.prog.info? 59).map (fun i=>(i.zero,i.size,i.bytes))=H (H (bF #[U aJ 0,U aJ 0,O ⟨#[]⟩]),3,32):=by kernel_rfl
def Hn (base:Nat)(l:List UInt8)(e:Ending)(w':bA):Prop:=
 match vals l with
 |some L=>∃lv,e=aH (bH #[lv,U aJ 0])∧w'.ownsRow base 59 3 lv L.length (Ax L)
 |none=>e=aH (bH #[J D 0 0,U aJ 1])
theorem N7 (s)(w)(hs:s.size*32≤140737488355328):
  aP aG 178 #[.string s] w fun e w'=>Hn w.heap.size s.data.toList e w'∧X w.heap.size w w':=by
 obtain⟨i0,hi,av,aw,ax⟩:=info_parts Qo;go_enter Tryz.func178,Tryz.ntmps178;go_wp2
 go_loopw[0,4] (fun sv lv wr=>∃(t:ByteArray) (L:List V),sv=.string t∧L.length+t.size≤s.size∧vals s.data.toList=(vals t.data.toList).map (L++·)∧wr.ownsRow w.heap.size 59 3 lv L.length (Ax L)∧X w.heap.size w wr) (fun sv _ _=>match sv with|.string t=>t.size|_=>0)
 case atStart=>exact⟨s,[],rfl,by simp,by simp,cM _ _ _ _,aC _ _⟩
 case round=>
  obtain⟨t,L,rfl,bd,hv,ae,ab⟩:=hrel;have HV:Hid _:=hv;clear hv;have ah:=ab.size
  by_cases ht:t.size=0
  ·have ay:t.toList.isEmpty=bQ:=by rw[Ky];simp[ht]
   have an:=by have:=Dm t;rw[ht]at this;exact bG this
   have HL:Hid (vals s.data.toList=H L):=by show vals s.data.toList=H L;have:=HV.out;rw[an,Ajs]at this;simpa using this
   clear an ht;go_wp2;go_ret2;refine⟨?_,ab⟩;unfold Hn;rw[HL.out];exact⟨_,rfl,ae⟩
  ·have az:0<t.size:=by omega
   have ai:t.size≤aV:=by simp only[aV];omega
   have aj:t.data.toList≠[]:=by intro h;have:=Dm t;rw[h]at this;simp at this;omega
   have ak:=A3l _ aj;rw[Dm]at ak;have ay:t.toList.isEmpty=aT:=by rw[Ky];exact decide_eq_false ht
   have al:=fun w=>Afl t w ai az
   obtain⟨⟨k,n,x⟩,z,af⟩:∃v z,fv t.data.toList=(v,z):=⟨_,_,rfl⟩;rw[af]at ak al;simp only at ak;have ag:∀w,aP _ 239 _ w fun e w'=>e=aH (bH #[bF #[U _ k,U _ n,O x],U _ z])∧X _ w w':=al
   clear al;have ac:Hid _:=af;have am:Hid (t.data.toList≠[]):=aj;have hx:x.size≤aV:=by
    have:=Aqu t.data.toList;rw[af,Dm]at this;exact bN this ai
   clear af aj;unfold aV at ai;have ad:=fun w=>Ml ⟨k,n,x⟩ w hx
   by_cases hz:z=0
   ·subst hz;have HN:Hid (vals s.data.toList=D):=by show vals s.data.toList=D;have:=HV.out;rw[Abf am.out (by rw[ac.out];simp)]at this;simpa using this
    go_wp2_with(refine(ag _).mono ?_;rintro e w1 ⟨rfl,aa⟩);go_ret2;have ap:=aa.size;refine⟨by unfold Hn;rw[HN.out];rfl,(ab.trans (aa.mono ah)).alloc (by omega) _⟩
   ·have be:(z:Int)≠0:=by omega
    cases hg:good ⟨k,n,x⟩
    ·have HN:Hid (vals s.data.toList=D):=by show vals s.data.toList=D;have:=HV.out;rw[Abf am.out (by rw[ac.out];grind)]at this;simpa using this
     rw[hg]at ad;have hd:((z:Int)==0)=aT:=by simp;omega
     go_wp2_with(first|(refine(ag _).mono ?_;rintro e w1 ⟨rfl,aa⟩)|(refine(ad _).mono ?_;rintro e w2 ⟨rfl,rfl⟩));go_ret2;have ap:=aa.size;refine⟨by unfold Hn;rw[HN.out];rfl,((ab.trans (aa.mono ah)).alloc (by omega) _).alloc (by simp;omega) _⟩
    ·have HS:Hid (vals s.data.toList=(vals (t.extract z t.size).data.toList).map ((L++[⟨k,n,x⟩])++·)):=by
      have h1:=HV.out;have h2:=Xh am.out (by rw[ac.out];omega) (by rw[ac.out];omega);rw[ac.out]at h2;rw[h2]at h1;show _=_;rw[h1,Anb];cases vals (t.data.toList.drop z)<;>simp
     rw[hg]at ad;have hd:((z:Int)==0)=aT:=by simp;omega
     go_wp2_with(first|(refine(ag _).mono ?_;rintro e w1 ⟨rfl,aa⟩)|(refine(ad _).mono ?_;rintro e w2 ⟨rfl,rfl⟩)|(at_builtin;go_must(refine wpList_append_own _ rfl (.tmp 21) _ 57 rfl _ 59 i0 _ 3 32 Tryz.underlying57 hi av aw ax rfl (by simp) _ _ _ rfl ((((Aj ae aa).alloc _).alloc _).alloc _) _ 1 1 [.int .i64 k,.int .i64 n,.string x] rfl rfl ?_ ?_ ?_ ?_ ?_ ?_)))
     ·have N:=B8 ((w1.alloc (bZ #[bB aU k,bB aU n,bM x] 59)).alloc (bZ #[bB aU k,bB aU n,bM x] 59)) [U aJ k,U aJ n,O x] 59;simp_all
     ·intro u hu;simp at hu;rcases hu with rfl|rfl|rfl<;>rfl
     ·simp only[aV];omega
     ·omega
     ·have:=aa.size;simp;omega
     ·intro ba w2 aq ar _;have ap:=aa.size;have au:=(((Aj ae aa).alloc (bZ #[bB aU k,bB aU n,bM x] 59)).alloc (bZ #[bB aU k,bB aU n,bM x] 59)).alloc (bZ #[bB aU k,bB aU n,bM x] 59);have bb:=((((ab.trans (aa.mono ah)).alloc (by omega) _).alloc (by simp;omega) _).alloc (by simp;omega) _).trans (Gx au (by simp;omega) ar);have bc:w2.ownsRow w.heap.size 59 3 ba (L++[(⟨k,n,x⟩:V)]).length (Ax (L++[⟨k,n,x⟩])):=by rw[Aah,aX];exact aq
      clear au aq ar ae ab aa ag ad;go_wp2;go_roundw
      case rel=>exact⟨_,_,rfl,by simp;omega,HS.out,bc,bb⟩
      case measure=>simp;omega
theorem A0v (L)(v)(w)(hv:Cq w v L)(aa:L.length*32≤140737488351232)(ab:∀v∈L,v.s.size≤aV):
  aP aG 188 #[v] w fun e w'=>e=aH (bH #[O (str (Bb L).1),U aJ (Bb L).2])∧X w.heap.size w w':=by
 rcases hv with⟨⟨ao,cap,rfl,_⟩,rfl⟩|⟨b,off,cap,rfl,hb,hL⟩
 ·exact Axj ao cap w
 ·exact Axi L b off cap w hL hb aa ab
def Lw:Elem V where
 size:=3
 R _ _ v c:=c=v.cells
 len h:=by subst h;rfl
 keep _ h:=h
 mono _ h:=h
def Ek:Elem (List V) where
 size:=1
 R F w l c:=∃sv,c=[sv]∧IsL Lw F w sv l
 len h:=by grind
 keep hk h:=by obtain⟨sv,h1,h2⟩:=h;exact⟨sv,h1,h2.keep hk⟩
 mono hk h:=by obtain⟨sv,h1,h2⟩:=h;exact⟨sv,h1,h2.mono hk⟩
theorem A36 {F}{w}:∀{l:List V}{cs:List Value},All Lw F w l cs↔cs=Ax l
 |[],cs=>Iff.rfl
 |v::l,cs=>by
  have e:Ax (v::l)=v.cells++Ax l:=by simp[Ax]
  rw[e];constructor
  ·rintro⟨c,rest,rfl,h2,h3⟩;rw[A36.1 h3,show c=v.cells from h2]
  ·rintro rfl;exact⟨_,_,rfl,rfl,A36.2 rfl⟩
theorem F4 {F}{w}{sv}{l}(h:IsL Lw F w sv l):Cq w sv l:=by
 obtain⟨cs,h1,h2⟩:=h;have:=A36.1 h2;subst this;rcases h1.2 with⟨h0,ao,cap,rfl,hc⟩|⟨h0,b,off,cap,rfl,_,hb,_,_,hcell⟩
 ·exact .inl ⟨⟨ao,cap,rfl,hc⟩,bG h0⟩
 ·refine .inr ⟨b,off,cap,rfl,hb,fun i v hi=>?_⟩;obtain⟨a0,a1,a2⟩:=Sz l i v hi;grind
theorem Nc {F}{w}{base}{lv}{L}(h:w.ownsRow base 59 3 lv L.length (Ax L))(hF:∀k,base≤k→F k):IsL Lw F w lv L:=
 ⟨Ax L,Bp.of_own h hF,A36.2 rfl⟩
theorem Ox (a b:ByteArray):(a++b).size=a.size+b.size:=ByteArray.size_append
theorem Qa (t:Wd)(w)(ht:t.size≤1000000):aP aG 181 #[O t] w fun e w'=>e=aH (O (Dc t))∧w'=w:=by
 have E:Hid (Dc t=(⟨_⟩++t)++⟨_⟩):=rfl;generalize Dc t=r at E;go_enter Tryz.func181,Tryz.ntmps181;go_wp2;go_ret;exact⟨by rw[E.out];rfl,rfl⟩
theorem Oy (t:Wd)(w)(ht:t.size≤1000000):aP aG 198 #[O t] w fun e w'=>e=aH (O (Hk t))∧w'=w:=by
 have E:Hid (Hk t=(⟨_⟩++t)++⟨_⟩):=rfl;generalize Hk t=r at E;go_enter Tryz.func198,Tryz.ntmps198;go_wp2;go_ret;exact⟨by rw[E.out];rfl,rfl⟩
theorem Qp (L)(v)(w)(hv:Cq w v L)(ab:L.length*32≤140737488351232)(aa:∀v∈L,v.s.size≤aV):
  aP aG 111 #[v] w fun e w'=>e=aH (O (str (Bb L).1))∧X w.heap.size w w':=by
 have HK:=A0v L v w hv ab aa;obtain⟨ao,cap,rfl⟩:=hv.shape;generalize str _=s at HK;generalize(Bb L).2=n at HK;clear hv aa;go_enter Tryz.func111,Tryz.ntmps111;go_wp2_with(go_fit HK;rintro e w1 ⟨rfl,ac⟩);go_ret;simp_all
theorem S3 (t):(Dc t).size=t.size+2:=by simp only[Dc,Ox];show 1+t.size+1=_;omega
theorem Xy (t):(Hk t).size=t.size+2:=by simp only[Hk,Ox];show 1+t.size+1=_;omega
theorem Kg (L):(str (Bb L).1).size≤10*L.length:=by
 rw[Jx];unfold Bb;split
 ·rename_i h;exact Apk L (by grind)
 simp
theorem Qq (t:Wd)(id)(w)(ht:t.size≤1000000)(hs:id.s.size≤aV):
  aP aG 110 #[O t,id.val] w fun e w'=>e=aH (O (H7 t id))∧X w.heap.size w w':=by
 have E:Hid (H7 t id=Dc t++str _):=rfl;have HR:=fun w=>Qa t w ht
 have ab:=fun(w:bA)=>Qp [id] (J (H ⟨w.heap.size,0,D⟩) 1 1) (w.alloc (S #[U aJ id.k,U aJ id.n,O id.s] 59))
  (.inr ⟨_,_,_,rfl,by simp,fun i v hi=>by
   match i,hi with
   |0,hi=>simp_all⟩) (by simp) (by grind)
 have HK:=ab (w.alloc (S #[U aJ id.k,U aJ id.n,O id.s] 59)).drew;rw[show(w.alloc _).drew.heap.size=w.heap.size+1 from by simp]at HK;clear ab;have hz:(Dc t).size≤1000002:=by rw[S3];omega
 have ac:(str _).size≤10:=Kg [id];generalize H7 t id=r at E;generalize Dc t=a at E HR hz;generalize str _=b at E HK ac;have ae:¬9223372036854775807<a.size+b.size:=by omega
 clear hz ac;obtain⟨ik,aa,is⟩:=id;simp only[V.val]at HK⊢;clear hs ht;have blk:((w.alloc _).drew.alloc (S #[U aJ ik,U aJ aa,O is] 59)).heap[w.heap.size]?=H _:=Ad (w:=(w.alloc (S #[U aJ ik,U aJ aa,O is] 59)).drew) (Ab w _) _;have HB:Hid _:=blk;clear blk;go_enter Tryz.func110,Tryz.ntmps110;go_wp2_with fail
 go_region_held3(fun w'=>w'.cell? ⟨w.heap.size,0,D⟩=H (U aJ ik)∧w'.cell? ⟨w.heap.size,1,D⟩=H (U aJ aa)∧w'.cell? ⟨w.heap.size,2,D⟩=H (O is)) (first|grind|simp)
  (first|(go_fit(HR _);rintro e w1 ⟨rfl,rfl⟩)|(go_fit HK;rintro e w2 ⟨rfl,ad⟩;have hq:=(ad.block _ (aL HB.out)).trans HB.out;have S1:_∧_∧_:=⟨Aa hq (j:=0) rfl,Aa hq (j:=1) rfl,Aa hq (j:=2) rfl⟩))
 all_goals
  go_wp2;go_ret;exact⟨by rw[E.out];rfl,((Aq w _).drew.alloc (Aq w _).size _).trans (ad.mono (by simp;omega))⟩
theorem Akd (t:Wd)(x id)(w)(ht:t.size≤1000000)(hx:x.s.size≤aV)(hs:id.s.size≤aV):
  aP aG 190 #[O t,x.val,id.val] w fun e w'=>e=aH (O (Id t x id))∧X w.heap.size w w':=by
 have E:Hid (Id t x id=Hk t++str _):=rfl;have HR:=fun w=>Oy t w ht
 have ad:=fun(w:bA)=>Qp [x,id] (J (H ⟨w.heap.size,0,D⟩) 2 2) (w.alloc (S #[U aJ x.k,U aJ x.n,O x.s,U aJ id.k,U aJ id.n,O id.s] 59))
  (.inr ⟨_,_,_,rfl,by simp,fun i v hi=>by
   match i,hi with
   |0,hi=>simp_all
   |1,hi=>simp_all⟩) (by simp) (by grind)
 have HK:=ad ((w.alloc (S #[U aJ x.k,U aJ x.n,O x.s] 59)).alloc (S #[U aJ id.k,U aJ id.n,O id.s] 59)).drew;rw[show((w.alloc _).alloc _).drew.heap.size=w.heap.size+2 from by simp]at HK;clear ad;have hz:(Hk t).size≤1000002:=by rw[Xy];omega
 have ae:(str _).size≤20:=Kg [x,id];generalize Id t x id=r at E;generalize Hk t=a at E HR hz;generalize str _=b at E HK ae;have ah:¬9223372036854775807<a.size+b.size:=by omega
 clear hz ae;obtain⟨ik,aa,is⟩:=id;obtain⟨xk,xn,xs⟩:=x;simp only[V.val]at HK⊢;clear hs hx ht;have af:Hid _:=Ad (w:=((w.alloc _).alloc _).drew) (Ad (Ab w (S #[U aJ xk,U aJ xn,O xs] 59)) (S #[U aJ ik,U aJ aa,O is] 59)) (S #[U aJ xk,U aJ xn,O xs,U aJ ik,U aJ aa,O is] 59);have ag:Hid _:=Ad (w:=((w.alloc _).alloc _).drew) (Ca w (S #[U aJ xk,U aJ xn,O xs] 59) (S #[U aJ ik,U aJ aa,O is] 59)) (S #[U aJ xk,U aJ xn,O xs,U aJ ik,U aJ aa,O is] 59);go_enter Tryz.func190,Tryz.ntmps190;go_wp2_with fail
 go_region_held3(fun w'=>w'.cell? ⟨w.heap.size,0,D⟩=H (U aJ xk)∧w'.cell? ⟨w.heap.size,1,D⟩=H (U aJ xn)∧w'.cell? ⟨w.heap.size,2,D⟩=H (O xs)∧w'.cell? ⟨w.heap.size+1,0,D⟩=H (U aJ ik)∧w'.cell? ⟨w.heap.size+1,1,D⟩=H (U aJ aa)∧w'.cell? ⟨w.heap.size+1,2,D⟩=H (O is)) (first|grind|(go_keep;done))
  (first|(go_fit(HR _);rintro e w1 ⟨rfl,rfl⟩)|(go_fit HK;rintro e w2 ⟨rfl,ab⟩;have hq:=(ab.block _ (aL af.out)).trans af.out;have ac:=(ab.block _ (aL ag.out)).trans ag.out;have S1:_∧_∧_∧_∧_∧_:=⟨Aa hq (j:=0) rfl,Aa hq (j:=1) rfl,Aa hq (j:=2) rfl,Aa ac (j:=0) rfl,Aa ac (j:=1) rfl,Aa ac (j:=2) rfl⟩))
 all_goals
  go_wp2;go_ret;exact⟨by rw[E.out];rfl,((Da w _ _).drew.alloc (Da w _ _).size _).trans (ab.mono (by simp;omega))⟩
theorem Xz {fn}{p:Tmp}{w0 w}{g}{a}{c0 c1 c2}{t ty}{fr}{fs}(x y z)(hr:fn.results=#[.cell p ty])(hp:a.tmps.getD p undef=cQ (H ⟨g,0,D⟩))(hd:a.defers=[])
  (hg:w.heap[g]?=H (S #[c0,c1,c2] t fr)) (hb:X w0.heap.size w0 w) (aa:w0.heap.size≤g)
  (hu:Tryz.prog.underlying ty=H (.struct fs)) (hi:(Tryz.prog.info? ty).map (·.size)=H 3):
  bodyPost aG fn (fun e w'=>e=aH (bF #[x,y,z])∧X w0.heap.size w0 w') .ret a (((w.setCell ⟨g,0,D⟩ x).setCell ⟨g,1,D⟩ y).setCell ⟨g,2,D⟩ z):=
 aI (results_cell_row hr a.tmps _ g t _ fr _ hp (set3 hg) hu rfl hi) hd ⟨rfl,((hb.setCell aa _).setCell aa _).setCell aa _⟩
def J0 (x lo hi:Wd):Value:=bF #[O x,O lo,O hi]
theorem Js (s:Wd)(w)(hs:s.size≤1000000):aP aG 179 #[O s] w fun e w'=>e=aH (bF #[O s,O (s++⟨#[255]⟩)])∧X w.heap.size w w':=by
 go_enter Tryz.func179,Tryz.ntmps179;go_wp2;refine aI (by simp[aS,go_sem]) rfl ⟨rfl,?_⟩;exact Aq w _
theorem Afm (lo hi x b:Wd)(w)(hl:lo.size≤1000000)(hh:hi.size≤1000000)(hb:b.size≤1000000):aP aG 180 #[bF #[O lo,O hi],O x,O b] w fun e w'=>e=aH (J0 x (b++lo) (b++hi))∧X w.heap.size w w':=by
 have h1:¬9223372036854775807<b.size+lo.size:=by omega
 have h2:¬9223372036854775807<b.size+hi.size:=by omega
 clear hl hh hb;go_enter Tryz.func180,Tryz.ntmps180;go_wp2;refine aI (by simp[aS,J0,go_sem]) rfl ⟨rfl,?_⟩;exact Da w _ _
theorem Apq (t:Wd)(w)(ht:t.size≤100000):aP aG 107 #[O t] w fun e w'=>e=aH (J0 noW (Hl t) (Hm t))∧X w.heap.size w w':=by
 have HB:=fun w=>Js noW w (by decide)
 have HR:=fun w=>Qa t w (by omega)
 have HW:=fun w=>Afm noW (noW++⟨#[255]⟩) noW (Dc t) w (by decide) (by decide) (by rw[S3];omega)
 have e1:Hid (Hl t=Dc t++noW):=rfl;have e2:Hid (Hm t=Dc t++(noW++⟨_⟩)):=rfl;rw[←e1.out,←e2.out]at HW;generalize Hl t=lo at e1 HW⊢;generalize Hm t=hi at e2 HW⊢;generalize Dc t=b at HR HW;generalize(noW++⟨_⟩:Wd)=f at HB HW;clear e1 e2 ht;unfold J0 at HW⊢;go_enter Tryz.func107,Tryz.ntmps107;go_wp2_with(first|(go_fit(HB _);rintro e w1 ⟨rfl,aa⟩;have b1:=(aa.block _ (by simp)).trans (Ab w (S #[O noW,O noW,O noW] 159)))|(go_fit(HR _);rintro e w2 ⟨rfl,rfl⟩)|(go_fit(HW _);rintro e w3 ⟨rfl,ab⟩;have b3:=(ab.block _ (aL b1)).trans b1;have d0:=Aa b3 (j:=0) rfl;have d1:=Aa b3 (j:=1) rfl;have d2:=Aa b3 (j:=2) rfl;have d3:∀o,w3.frozen? ⟨w.heap.size,o,D⟩=aT:=(fun o=>by simp[aF,b3])));exact Xz _ _ _ Tryz.results107 rfl rfl b3 (Ac (Ac (Aq w _) aa) ab) (aD _) Tryz.underlying159 (by kernel_rfl)
theorem Oa (aa:Wd)(so)(sn sc)(ro)(rn rc)(w):
  aP aG 108 #[bF #[O aa,J so sn sc],J ro rn rc] w fun e w'=>e=aH (.bool (decide (0<rn)&&decide (rn=sn)))∧X w.heap.size w w':=by
 by_cases h0:0<rn
 ·by_cases h1:rn=sn
  ·subst h1;go_enter cH,cD;go_wp2;go_ret;exact⟨Ah (by grind),Aq _ _⟩
  ·have q0:(0:Int)<rn:=by omega
   have q1:¬rn=(sn:Int):=by omega
   go_enter cH,cD;go_wp2;go_ret;exact⟨Ah (by grind),Aq _ _⟩
 ·have q0:¬(0:Int)<rn:=by omega
  go_enter cH,cD;go_wp2;go_ret;exact⟨Ah (by simp),Aq _ _⟩
theorem Uh (t)(x)(sv)(C)(w)(hl:IsL Cp (fun k=>k<C) w sv t.cols)(hC:C≤w.heap.size):
  aP aG 189 #[bF #[O t.name,sv],bF #[O x.name,O x.table,O x.col]] w fun e w'=>e=aH (U aJ (Ej t x))∧X w.heap.size w w':=by
 obtain⟨tn,cols⟩:=t;obtain⟨xn,xt,xc⟩:=x;simp only at hl⊢;obtain⟨ao,c,rfl⟩:=hl.shape;have aa:=Da w (S #[O tn,J ao cols.length c] 74) (S #[O xn,O xt,O xc] 78);have HF:=L6 cols tn _ xc C _ (hl.keep (Ae (aa.mono hC))) (bN hC aa.size);have E:Hid (Ej ⟨tn,cols⟩ ⟨xn,xt,xc⟩=if xt=tn then Dy cols xc else-1):=rfl;generalize Ej _ _=r at E;generalize Dy cols xc=q at E HF;clear hl
 by_cases h:xt=tn
 ·have hq:(xt.toList==tn.toList)=bQ:=by rw[Jj];simp[h]
  have E2:Hid (r=q):=by show _=_;rw[E.out,if_pos h]
  clear E;clear h;go_enter Tryz.func189,Tryz.ntmps189;go_wp2_with(go_fit HF;rintro e w1 ⟨rfl,ab⟩);go_ret;exact⟨Au (by rw[E2.out]),Ac aa ab⟩
 ·have hq:(xt.toList==tn.toList)=aT:=by rw[Jj];simp[h]
  have E2:Hid (r= -1):=by show _=_;rw[E.out,if_neg h]
  clear E HF;go_enter Tryz.func189,Tryz.ntmps189;go_wp2;go_ret;exact⟨Au (by rw[E2.out]),aa⟩
theorem Im {P}{w}{ops}{o}{a}{K}{Q}{E}(aa:o.guard=D)(s x)(t)
  (ho:o.op=.call {callee:=.builtin .append,args:=#[s,x],argTypes:=#[t,t]})
  (base) (e) (i) (z) (size bytes) (ht:P.underlying t=H (.slice e)) (hi:P.info? e=H i) (hz:i.zero=H z)
  (ab:i.size=size) (ac:i.bytes=bytes) (ae:z.cells.size=size) (af:0<size)
  (v) (n) (xs) (hs:a.eval s=v) (ag:w.ownsRow base e size v n xs)
  (ad) (m c) (news) (hx:a.eval x=J (H ad) m c) (hl:news.length=m*size) (ah:∀j u,news[j]?=H u→w.cell? (ad.add j)=H u) (h1:∀u∈news,u.oneCell'=bQ)
  (ai:n+m≤aV) (aj:(n+m) *bytes≤140737488355328) (ak:base≤w.heap.size)
  (h:∀v' w',w'.ownsRow base e size v' (n+m) (xs++news)→w.grownBy w' v.ownBlock→(v'.ownBlock=v.ownBlock∨v'.ownBlock=H w.heap.size)→K (a.put o.dst v') w'):
  if cA o (yielded ops a.tmps)=bQ then Oper.wp P o a w K Q else E:=by
 have hw:cA o (yielded ops a.tmps)=bQ:=by simp[cA,aa]
 rw[if_pos hw];obtain⟨v',w',hr,h2,h3,h4,h5⟩:=run_append_own_at w base t o.type e i z size bytes ht hi hz ab ac ae af v n xs ag ad m c news hl ah h1 ai aj ak;unfold Oper.wp execOp;simp only[ho,resolve,invoke,builtin,Sem.run_bind,Sem.run_pure,Result.andThen_ok,List.map_toArray,List.map_cons,List.map_nil,hs,hx,hr];exact h v' w' h2 h3 h5
theorem Axp {I:List IdxD}{t}{r}{k}{x}(h:I[k]?=H x):iks (I.take (k+1)) t r=iks (I.take k) t r++(Xu t r x).toList:=by
 rw[List.take_add_one,h];simp only[iks,List.filterMap_append,cK];rfl
theorem Axq {l}{s}:Dy l s= -1∨∃p:Nat,Dy l s=(p:Int)∧p<l.length:=by
 rcases N4 l (fun x=>decide (x.name=s))with⟨h1,_⟩|⟨k,x,h1,h2,_⟩
 ·exact .inl h1
 ·exact .inr ⟨k,h1,(bK.1 h2).1⟩
theorem Vg (t)(x):Ej t x= -1∨∃p:Nat,Ej t x=(p:Int)∧p<t.cols.length:=by
 unfold Ej;split
 ·exact Axq
 simp
theorem Atw {G W:bA}{g rb}{a0 a1 a2 a3 a4 a5 a6}{o1 o2}
  (h:G.cell? ⟨g,0,D⟩=H a0∧G.cell? ⟨rb,o1,D⟩=H a1∧G.cell? ⟨rb,o1+1,D⟩=H a2∧G.cell? ⟨rb,o1+2,D⟩=H a3∧G.cell? ⟨rb,o2,D⟩=H a4∧G.cell? ⟨rb,o2+1,D⟩=H a5∧G.cell? ⟨rb,o2+2,D⟩=H a6)
  (h1:W.heap[g]?=G.heap[g]?) (h2:W.heap[rb]?=G.heap[rb]?):
  W.cell? ⟨g,0,D⟩=H a0∧W.cell? ⟨rb,o1,D⟩=H a1∧W.cell? ⟨rb,o1+1,D⟩=H a2∧W.cell? ⟨rb,o1+2,D⟩=H a3∧W.cell? ⟨rb,o2,D⟩=H a4∧W.cell? ⟨rb,o2+1,D⟩=H a5∧W.cell? ⟨rb,o2+2,D⟩=H a6:=by
 obtain⟨c0,c1,c2,c3,c4,c5,c6⟩:=h;exact⟨(aO h1).trans c0,(aO h2).trans c1,(aO h2).trans c2,(aO h2).trans c3,(aO h2).trans c4,(aO h2).trans c5,(aO h2).trans c6⟩
theorem Wz (I)(t)(r)(tv iv sv rv)(C)(w)(az:Hj tv)
  (hi:IsL D6 (fun k=>k<C) w iv I) (hl:IsL Cp (fun k=>k<C) w sv t.cols) (hC:C≤w.heap.size) (hr:Cq w rv r) (au:r.length=t.cols.length) (h0:0<r.length) (hs:∀v∈r,v.s.size≤aV) (av:∀x∈I,x.name.size≤1000000) (hn:I.length≤1000000):
  aP aG 112 #[bF #[tv,iv],bF #[O t.name,sv],rv] w fun e w'=>∃kv,e=aH kv∧An w' kv (iks I t r)∧X w.heap.size w w':=by
 obtain⟨am,tn,tc,rfl⟩:=az;obtain⟨io,ic,rfl⟩:=hi.shape;obtain⟨so,sc,rfl⟩:=hl.shape;obtain⟨i0,ba,bb,bc,bd⟩:=info_parts Ke;rcases hr with⟨_,rfl⟩|⟨rb,ro,rcap,rfl,hrb,hR⟩
 ·simp at h0
 have ad:=Da w (S #[J am tn tc,J io I.length ic] 41) (S #[O t.name,J so t.cols.length sc] 74);generalize hW:(w.alloc (S #[J am tn tc,J io I.length ic] 41)).alloc (S #[O t.name,J so t.cols.length sc] 74)=W2 at ad;have bC:W2.heap[w.heap.size]?=H (S #[J am tn tc,J io I.length ic] 41):=by rw[←hW];exact Ad (Ab w _) _
 have bT:W2.heap[w.heap.size+1]?=H (S #[O t.name,J so t.cols.length sc] 74):=by rw[←hW];exact Ca _ _ _
 have bm:=Aa bC (j:=1) rfl;have be:Hid (W2.heap.size=w.heap.size+2):=by show _=_;rw[←hW];simp
 have HW:Hid _:=hW;clear hW;have HI:Hid _:=hi;have HL:Hid _:=hl;have HS:Hid _:=hs;have HN:Hid _:=av;clear hi hl hs av;have bf:Hid _:=au;clear au;go_enter Tryz.func112,Tryz.ntmps112;go_upto_region 1 with fail;rw[HW.out];go_wp2
 go_loopw[7,14] (fun kv i wr=>∃k:Nat,k≤I.length∧i=U aJ k∧wr.ownsRow W2.heap.size 9 1 kv (iks (I.take k) t r).length ((iks (I.take k) t r).map O)∧X W2.heap.size W2 wr) (fun _ i _=>I.length-(intOf i).toNat)
 case atStart=>exact⟨0,cL _,rfl,cM _ _ _ _,aC _ _⟩
 case round=>
  obtain⟨k,hk,rfl,ag,ae⟩:=hrel
  by_cases bg:k<I.length
  ·obtain⟨x,hx⟩:∃x,I[k]?=H x:=⟨_,aN bg⟩;obtain⟨b,an,cs,rfl,bn,ap,bh,ah⟩:=Av HI.out hx;obtain rfl:=bh;have af:X w.heap.size w wr:=ad.trans (ae.mono (by have:=ad.size;omega));have d0:=(af.cell (p:=⟨b,an+k*3,D⟩) ap).trans (by have:=ah 0 _ rfl;simpa[D6]using this);have d1:=(af.cell (p:=⟨b,an+k*3+1,D⟩) ap).trans (by have:=ah 1 _ rfl;simpa[D6]using this);have d2:=(af.cell (p:=⟨b,an+k*3+2,D⟩) ap).trans (by have:=ah 2 _ rfl;simpa[D6]using this);have aw:=ae.size;have bo:w.heap.size+2≤wr.heap.size:=by have:=be.out;omega
   have k0:(0:Int)≤(k:Int):=by omega
   have k1:(k:Int)<(I.length:Int):=by omega
   have ax:=(ae.block (w.heap.size+1) (aL bT)).trans bT;have bp:=((Aq wr (S #[O x.name,O x.table,O x.col] 78)).cell (p:=⟨w.heap.size+1,0,D⟩) (show w.heap.size+1<_ by omega)).trans (Aa ax (j:=0) rfl);have bq:=((Aq wr (S #[O x.name,O x.table,O x.col] 78)).cell (p:=⟨w.heap.size+1,1,D⟩) (show w.heap.size+1<_ by omega)).trans (Aa ax (j:=1) rfl);have HX:=Uh t x (J so t.cols.length sc) C (wr.alloc (S #[O x.name,O x.table,O x.col] 78)) (IsL.keep HL.out (Ae ((af.alloc (by omega) _).mono hC))) (bN hC (af.alloc (by omega) _).size);have ai:Hid (iks (I.take (k+1)) t r=iks (I.take k) t r++(Xu t r x).toList):=Axp hx;have bi:=HN.out x (bP hx);clear hx ah;rcases Vg t x with hq|⟨p,hq,hp⟩
   ·have E2:Hid (iks (I.take (k+1)) t r=iks (I.take k) t r):=by show _=_;rw[ai.out,Xu,hq];simp
    rw[hq]at HX;clear hq ai;go_wp2_with(go_fit HX;rintro e w1 ⟨rfl,ab⟩);go_roundw
    case rel=>exact⟨k+1,by omega,by go_num,by rw[E2.out];exact Aj ag (Ac (Aq _ _) ab),ae.trans ((Ac (Aq _ _) ab).mono aw)⟩
    case measure=>simp[intOf];omega
   ·have ay:p<r.length:=by rw[bf.out];exact hp
    obtain⟨v,hv⟩:∃v,r[p]?=H v:=⟨_,aN ay⟩;obtain⟨u,hu⟩:∃u,r[0]?=H u:=⟨_,aN h0⟩;have E2:Hid (iks (I.take (k+1)) t r=iks (I.take k) t r++[Id x.name v u]):=by
     show _=_;rw[ai.out,Xu,hq,if_pos (by omega)];simp only[Int.toNat_natCast,cK];rw[List.getD_eq_getElem?_getD,hv,show r.headD zero=u from by rw[List.headD_eq_head?_getD,List.head?_eq_getElem?,hu];rfl];rfl
    rw[hq]at HX;obtain⟨e0,e1,e2⟩:=hR p v hv;obtain⟨f0,f1,f2⟩:=hR 0 u hu;simp only[Nat.zero_mul,Nat.add_zero]at f0 f1 f2;have HK:=fun W=>Akd _ v u W bi (HS.out v (bP hv)) (HS.out u (bP hu))
    have p0:(0:Int)≤p:=by omega
    have p1:p<(r.length:Int):=by omega
    clear hq ai hv hu ay hp;generalize Id _ v u=key at E2 HK;obtain⟨vk,vn,vs⟩:=v;obtain⟨uk,un,us⟩:=u;simp only[V.val]at HK;have bt:(iks (I.take k) t r).length≤1000000:=bN (Qn _ _ _) (by grind);have aq:=ag.lt;go_wp2_with(go_fit HX;rintro e w1 ⟨rfl,ab⟩);have ac:=af.trans ((Ac (Aq _ _) ab).mono (by omega));have bX:=(ab.block _ (by simp)).trans (Ab wr _);have aj:=aL bX;have ak:=aB hrb ac.size;have KS:Hid _:=fun W=>Atw (W:=W) ⟨Aa bX (u:=O _) rfl,(ac.cell hrb).trans e0,(ac.cell hrb).trans e1,(ac.cell hrb).trans e2,(ac.cell hrb).trans f0,(ac.cell hrb).trans f1,(ac.cell hrb).trans f2⟩
    have s0:=KS.out w1.drew rfl rfl
    go_region_held3(fun W=>W.cell? ⟨wr.heap.size,0,D⟩=H (O x.name)∧W.cell? ⟨rb,ro+p*3,D⟩=H (U aJ vk)∧W.cell? ⟨rb,ro+p*3+1,D⟩=H (U aJ vn)∧W.cell? ⟨rb,ro+p*3+2,D⟩=H (O vs)∧W.cell? ⟨rb,ro,D⟩=H (U aJ uk)∧W.cell? ⟨rb,ro+1,D⟩=H (U aJ un)∧W.cell? ⟨rb,ro+2,D⟩=H (O us))
     (with_reducible omega)
     (first
      |(go_fit(HK _);rintro e w2 ⟨rfl,bj⟩;have al:=Ac (aC _ _).drew bj;have s2:=KS.out w2 (al.block _ aj) (al.block _ ak);have aa:X _ w1 (w2.alloc (S #[O key] 9)):=al.alloc al.size _;have s3:=KS.out _ (aa.block _ aj) (aa.block _ ak))
      |(refine Im (by rfl) _ _ 54 (by rfl) _ 9 i0 _ 1 16 Tryz.underlying54 ba bb bc bd rfl (by decide) u7 _ _ (by rfl) (Aj (Aj ag (Ac (Aq _ _) ab)) aa) _ 1 1 _ (by rfl) rfl (B8 _ _ _) (by simp;rfl) (by simp only[aV];omega) (by omega) (by have:=aa.size;omega) ?_;intro zv w3 bk ar bu;have s4:=KS.out w3 ((ar.block _ (aB aj aa.size) (fun h=>by have:=(aq _ h.symm).2;omega)).trans (aa.block _ aj)) ((ar.block _ (aB ak aa.size) (fun h=>by have:=(aq _ h.symm).1;have:=ad.size;omega)).trans (aa.block _ ak))))
    go_wp2;go_roundw
    case rel=>
     refine⟨k+1,by omega,by rfl,?_,?_⟩
     ·rw[E2.out,aX,List.map_append];exact bk
     ·exact Below.grown (ae.trans ((Ac (Ac (Aq _ _) ab) aa).mono aw)) ar (by have:=aa.size;omega) (fun q hq=>(aq q hq).1)
    case measure=>simp[intOf];omega
  ·have bl:k=I.length:=by omega
   subst bl;have v1:¬(I.length<(I.length:Int)):=by omega
   rw[List.take_length]at ag;go_wp2;go_ret;exact⟨_,rfl,Eu.of_own ag,ad.trans (ae.mono ad.size)⟩
attribute [local go_sem↓] Go.wp_at_zero Go.wp_at_succ
theorem A8.shape {w}{sv}{T}(h:A8 w sv T):∃ao c,sv=J ao T.length c:=by
 obtain⟨rows,h1,_⟩:=h;exact h1.shape
theorem A8.grown {w0 w w'}{sv}{T}{r}(h:A8 w0 sv T)(hb:X w0.heap.size w0 w)(hg:w.grownBy w' (H r))(hr:w0.heap.size≤r):A8 w' sv T:=
 h.below (hb.grown hg hb.size (fun k hk=>by grind))
theorem Cs.block {w}{B g cap}{L}(h:Cs w B g cap L):∃aa,w.heap[g]?=H (S aa 9)∧L.length≤cap∧cap≤aV∧aa.size=cap:=by
 rcases h.2.2 with⟨h1,_⟩|⟨g',c',aa,e,_,hh,hn,hm,hs,_⟩
 ·grind
 grind
theorem Cs.grown {w w'}{B g cap r}{L}(h:Cs w B g cap L)(hg:w.grownBy w' (H r))(aa:g≠r):Cs w' B g cap L:=by
 obtain⟨h1,h2,h3⟩:=h;refine⟨h1,h2,?_⟩;rcases h3 with h3|⟨g',c',cur,e,hg',hh,rest⟩
 ·grind
 ·have e':=e;simp only[cB,cE,cU]at e';obtain⟨⟨rfl,_⟩,_⟩:=e';exact .inr ⟨g,c',cur,e,hg',(hg.block g (aL hh) (by grind)).trans hh,rest⟩
theorem Cs.alloc {w}{B g cap}{L}(h:Cs w B g cap L)(o):Cs (w.alloc o) B g cap L:=h.below ((aC _ _).alloc (aD _) o)
theorem Cs.setOther {w}{B g cap}{L}(h:Cs w B g cap L){q i}(aa:g≠q)(u):Cs (w.setCell ⟨q,i,D⟩ u) B g cap L:=by
 refine h.grown ?_ aa;have hb:=(aC 0 w).setCell (p:=⟨q,i,D⟩) (cL _) u;exact⟨hb.os,hb.tape,hb.output,hb.size,fun k hk aa=>aM w _ u k (fun e=>aa (by rw[e]))⟩
theorem Df {w}{sv}{L}(h:An w sv L){q i}(aa:sv.ownBlock≠H q)(u):An (w.setCell ⟨q,i,D⟩ u) sv L:=Ub h u aa
theorem A2v {w:bA}{B g cap i:Nat}{L:List ByteArray}{x:ByteArray}(h:Cs w B g cap L)(hx:L[i]?=H x):w.cell? ⟨g,i,D⟩=H (O x):=by
 obtain⟨b,aa,c,e,hb,hc,hm,ab⟩:=h.strs.at (by have:=(bK.1 hx).1;omega);grind
theorem Cs.set {w:bA}{B g cap:Nat}{V1 V3:List ByteArray}{y:ByteArray}(h:Cs w B g cap (V1++y::V3))(v:ByteArray):An (w.setCell ⟨g,V1.length,D⟩ (O v)) (J (H ⟨g,0,D⟩) (V1++y::V3).length cap) (V1++v::V3):=by
 have hl:(V1++v::V3).length=(V1++y::V3).length:=by simp
 obtain⟨b,ac,c,e,hb,hc,hm,aa⟩:=h.strs.at (by simp<;>omega);simp only[cB,cE,cU]at e;obtain⟨⟨rfl,rfl,_⟩,_,rfl⟩:=e;refine⟨by simp,.inr ⟨by grind,g,0,cap,by simp,?_,by omega,hm,fun j u hj=>?_⟩⟩
 ·simp_all
 ·rw[cI]
  by_cases ab:j=V1.length
  ·subst ab;have hu:=by simpa using hj.symm
   rw[hu];exact World.cell?_setCell_same _ _ _ (by have:=aa V1.length y (by simp);rwa[cI]at this)
  ·rw[aK _ _ _ _ (by simp)];grind
theorem Agz (A B)(p)(K1 K3 V1 V3:List ByteArray)(y k v:ByteArray)(tv:Value)(w:bA)(h:Bi w tv (A++p::B))(hg:As (A++p::B))(hK:p.K.length=K1.length+1+K3.length)(hV:p.V=V1++y::V3)(hl:V1.length=K1.length)
  (fi:Ua (A++p::B) k A.length K1.length bQ) (hn:((A++p::B).length+1) *48≤140737488355328):
  aP aG 109 #[tv,O k,O v] w fun e w'=>∃am,e=aH am∧Bi w' am (A++[⟨p.K,V1++v::V3⟩]++B)∧X w.heap.size w w':=by
 have gc:=fun W (hW:X w.heap.size w W)=>I3 (A++p::B) tv W (h.below hW) hg
 have fc:=fun W (hW:X w.heap.size w W)=>fi tv W (h.below hW)
 have ay:=h;obtain⟨sv,rfl,hs⟩:=h;have az:(A++p::B)[A.length]?=H p:=by simp
 obtain⟨b,ai,cap,rfl,ba,bu,bv,hT⟩:=hs.at (by simp<;>omega);obtain⟨kv,vv,c0,c1,hk,hv⟩:=hT _ p az;have bb:=hg.1 p (by simp);have cp:=fun W hW=>Lj p kv vv W (hk.below hW) (hv.below hW) (by omega) (by have:=bb.2.1;omega) bb.2.2
 obtain⟨ka,kc,rfl⟩:=hk.shape;obtain⟨va,vc,rfl⟩:=hv.shape;have bw:A.length<(A++p::B).length:=by simp
 have bx:(A++p::B).length=A.length+1+B.length:=by simp;omega
 generalize aj:(w.alloc (S #[J (H ⟨b,ai,D⟩) (A++p::B).length cap] 44)).alloc (S #[J D 0 0] 44)=W0;have an:X w.heap.size w W0:=by rw[←aj];exact((aC _ w).alloc (aD _) _).alloc (by simp) _
 have co:W0.heap.size=w.heap.size+1+1:=by rw[←aj];simp
 have b0:W0.heap[w.heap.size]?=H (S #[J (H ⟨b,ai,D⟩) (A++p::B).length cap] 44):=by rw[←aj];exact Ad (Ab w _) _
 have r0:W0.heap[w.heap.size+1]?=H (S #[J D 0 0] 44):=by
  rw[←aj];have:=Ab (w.alloc (S #[J (H ⟨b,ai,D⟩) (A++p::B).length cap] 44)) (S #[J D 0 0] 44);rwa[aA]at this
 have bz:=Aa b0 (j:=0) rfl;have hA:w.heap.size<W0.heap.size:=by omega
 have bc:w.heap.size+1<W0.heap.size:=by omega
 have g0:=gc _ an;have rp:=fun W pv hW hp=>Kx A [p] B [⟨p.K,V1++v::V3⟩] _ pv (A.length+1) W (ay.below hW) hp (by simp) (by simp) (by grind)
 have ca:p.V.length=V1.length+1+V3.length:=by rw[hV];simp;omega
 have HV:=hid hV;have HL:=hid hl;clear hV hT hs gc fi hg ay hk hv az bu hK;generalize ap:A++[⟨p.K,_⟩]++B=R at*;have cb:R.length≤(A++p::B).length:=by rw[←ap];simp<;>omega
 generalize bd:A.length=a at*;generalize be:(A++p::B).length=n at*;rw[←hl]at fc;generalize bf:V1.length=pl at*;generalize bg:p.K.length=m at*;generalize bh:p.V.length=mv at*;unfold aV at bv;have i0:(0:Int)≤a:=by omega
 have i1:a<(n:Int):=by omega
 have i2:¬((n:Int)=0):=by omega
 have i3:¬(a=(n:Int)):=by omega
 have i4:(0:Int)≤pl:=by omega
 have i5:pl<(mv:Int):=by omega
 have i6:IntKind.i64.wrap (a+1)=((a+1:Nat):Int):=by rw[bE];omega
 have cq:pl<mv:=by omega
 have HR:=hid ap;have ak:=hid (aW bd (aW be (aW bf (aW bg bh))));clear bx ca ap bd be bf bg bh hl hn bw cb;go_enter bW,bU;go_upto_region 11 with(first
  |(go_at_call 182;go_must(refine g0.mono ?_;rintro e w1 ⟨rfl,ac⟩;have cd:=(ac.cell hA).trans bz;have aq:=an.trans (ac.mono an.size);have bi:=aB hA ac.size;have bj:=aB bc ac.size;have r1:=(ac.block _ bc).trans r0))
  |(go_at_call 183;go_must(refine(fc _ aq).mono ?_;rintro e w2 ⟨rfl,ad⟩;have ce:=(ad.cell bi).trans cd;have ae:=aq.trans (ad.mono aq.size);have cr:=(ae.cell ba).trans c0;have cs:=(ae.cell ba).trans c1;have bk:=aB bi ad.size;have ar:=aB bj ad.size;have r2:=(ad.block _ bj).trans r1))
  |(go_at_call 184;go_must(refine(cp _ ae).mono ?_;rintro e w3 ⟨g1,d1,g2,d2,rfl,cf,af,ct,ag⟩;have bl:=(ag.cell bk).trans ce;have cg:=ae.trans (ag.mono ae.size);have cu:=aB bk ag.size;have ch:=aB ar ag.size;have r3:=(ag.block _ ar).trans r2;obtain⟨cv,cj,cx,cy,cz⟩:=af.block;have da:=af.lt;have db:w3.cell? ⟨g2,pl,D⟩=H (O y):=A2v af (by rw[HV.out,←ak.out.2.2.1];simp);have dc:w3.frozen? ⟨g2,pl,D⟩=aT:=(by simp[aF,cj]))))
 obtain⟨W4,ab⟩:∃W4,w3.setCell ⟨g2,pl,D⟩ (O v)=W4:=⟨_,rfl⟩;have dd:=aB ar (bN (aD _) af.1);have bm:X w.heap.size w W4:=by rw[←ab];exact cg.setCell (by grind) _
 have au:W4.heap.size=w3.heap.size:=by rw[←ab];simp[bR]
 have ck:W4.cell? ⟨w.heap.size,0,D⟩=H (J (H ⟨b,ai,D⟩) n cap):=by rw[←ab,aK _ _ _ _ (by simp)];exact bl
 have r4:W4.heap[w.heap.size+1]?=H (S #[J D 0 0] 44):=by rw[←ab,aM _ _ _ _ (by grind)];exact r3
 have bn:An W4 (J (H ⟨g1,0,D⟩) m d1) p.K:=by
  have:=cf.setOther (q:=g2) (i:=pl) (by omega) (O v);rw[ab]at this;have h:=this.strs;rw[ak.out.2.2.2.1]at h;exact h
 have bo:An W4 (J (H ⟨g2,0,D⟩) mv d2) (V1++v::V3):=by
  have h:=af;rw[HV.out]at h;have:=h.set v;rw[ak.out.2.2.1,ab,←HV.out,ak.out.2.2.2.2]at this;exact this
 obtain⟨aa,al⟩:∃aa,W4.alloc (S #[J (H ⟨g1,0,D⟩) m d1,J (H ⟨g2,0,D⟩) mv d2] 83)=aa:=⟨_,rfl⟩;have av:X W4.heap.size W4 aa:=by rw[←al];exact(aC _ _).alloc (aD _) _
 have cl:aa.heap.size=w3.heap.size+1:=by rw[←al,aA,au]
 have bp:aa.heap[w3.heap.size]?=H (S #[J (H ⟨g1,0,D⟩) m d1,J (H ⟨g2,0,D⟩) mv d2] 83):=by rw[←al,←au];exact Ab W4 _
 have de:=(av.cell (by grind)).trans ck;have df:aa.cell? ⟨_,0,D⟩=H (J _ m d1):=Aa bp rfl;have dg:aa.cell? ⟨_,1,D⟩=H (J _ mv d2):=Aa bp rfl;obtain⟨W5,aw⟩:∃W5,aa.alloc (S #[J (H ⟨g1,0,D⟩) m d1,J (H ⟨g2,0,D⟩) mv d2] 83)=W5:=⟨_,rfl⟩;have ah:X W4.heap.size W4 W5:=by rw[←aw];exact av.alloc av.size _
 have b5:W5.heap[w3.heap.size+1]?=H (S #[J (H ⟨g1,0,D⟩) m d1,J (H ⟨g2,0,D⟩) mv d2] 83):=by rw[←aw,←cl];exact Ab aa _
 have ax:=bm.trans (ah.mono bm.size);have cm:=rp W5 (J _ 1 1) ax (Pu b5 (bn.below ah) (bo.below ah) (by simp) (by decide));have bq:w.heap.size+1<W4.heap.size:=by rw[au];exact ch
 have r5:=(ah.block _ bq).trans r4;have cn:=aB bq ah.size;clear bl r3 bn bo cp fc rp g0;subst aw;subst al;subst ab;go_wp2_with(go_at_call 185;go_must(refine cm.mono ?_;rintro e w6 ⟨am,rfl,⟨dh,rfl,hP⟩,bt⟩;obtain⟨ao,cc,rfl⟩:=hP.shape;have r6:=(bt.block _ cn).trans r5;have q6:=Aa r6 (j:=0) rfl;have f6:w6.frozen? ⟨w.heap.size+1,0,D⟩=aT:=(by simp[aF,r6])));refine aI (v:=bF #[J ao R.length cc]) (by simp[aS,go_sem, *]) rfl ?_;have hz:=ax.trans (bt.mono ax.size);exact⟨_,rfl,⟨_,rfl,Gy hP r6 _⟩,hz.setCell (by simp) _⟩
theorem Kh {w}{sv}{L}(h:An w sv L)(h0:0<L.length){q}{ao bo}{n m c d}{t}(hb:w.heap[q]?=H (S #[J ao n c,J bo m d] t)):sv.ownBlock≠H q:=by
 obtain⟨b,aa,cap,rfl,_,_,_,hc⟩:=h.at h0;intro e;obtain rfl:=by simpa[aE]using e
 obtain⟨x,hx⟩:∃x,L[0]?=H x:=⟨_,aN h0⟩;have:=hc 0 x hx;simp only[World.cell?,hb,Nat.add_zero]at this;grind
def Arb (ao:Option Addr)(n c g:Nat):Prop:=(Value.slice ao n c).ownBlock≠H g
theorem Jt {w:bA}{q}{arr}{t}(hb:w.heap[q]?=H (S arr t))(i)(v):(w.setCell ⟨q,i,D⟩ v).heap[q]?=H (S (arr.setIfInBounds i v) t):=by
 simp[bR,Array.getElem?_modify,hb]
theorem Ac0 (A B)(p)(K1 K2 V1 V2:List ByteArray)(k v:ByteArray)(tv:Value)(w:bA)(h:Bi w tv (A++p::B))(hg:As (A++p::B))(hK:p.K=K1++K2)(hV:p.V=V1++V2)(hl:V1.length=K1.length)
  (fi:Ua (A++p::B) k A.length K1.length aT) (hn:((A++p::B).length+1) *48≤140737488355328):
  aP aG 109 #[tv,O k,O v] w fun e w'=>∃ax,e=aH ax∧Bi w' ax (A++E7 ⟨K1++k::K2,V1++v::V2⟩++B)∧X w.heap.size w w':=by
 have gc:=fun W (hW:X w.heap.size w W)=>I3 (A++p::B) tv W (h.below hW) hg
 have fc:=fun W (hW:X w.heap.size w W)=>fi tv W (h.below hW)
 have bv:=h;obtain⟨sv,rfl,hs⟩:=h;have bw:(A++p::B)[A.length]?=H p:=by simp
 obtain⟨b,ag,cap,rfl,bx,dq,ds,hT⟩:=hs.at (by simp<;>omega);obtain⟨kv,vv,c0,c1,hk,hv⟩:=hT _ p bw;have aa:=hg.1 p (by simp);have cp:=fun W hW=>Lj p kv vv W (hk.below hW) (hv.below hW) (by have:=aa.1;omega) (by have:=aa.2.1;omega) aa.2.2
 obtain⟨ka,kc,rfl⟩:=hk.shape;obtain⟨va,vc,rfl⟩:=hv.shape;have dt:A.length<(A++p::B).length:=by simp
 have du:(A++p::B).length=A.length+1+B.length:=by simp;omega
 generalize aq:(w.alloc (S #[J (H ⟨b,ag,D⟩) (A++p::B).length cap] 44)).alloc (S #[J D 0 0] 44)=W0;have ay:X w.heap.size w W0:=by rw[←aq];exact((aC _ w).alloc (aD _) _).alloc (by simp) _
 have fa:W0.heap.size=w.heap.size+1+1:=by rw[←aq];simp
 have b0:W0.heap[w.heap.size]?=H (S #[J (H ⟨b,ag,D⟩) (A++p::B).length cap] 44):=by rw[←aq];exact Ad (Ab w _) _
 have r0:W0.heap[w.heap.size+1]?=H (S #[J D 0 0] 44):=by
  rw[←aq];have:=Ab (w.alloc (S #[J (H ⟨b,ag,D⟩) (A++p::B).length cap] 44)) (S #[J D 0 0] 44);rwa[aA]at this
 have bz:=Aa b0 (j:=0) rfl;have hA:w.heap.size<W0.heap.size:=by omega
 have ca:w.heap.size+1<W0.heap.size:=by omega
 have g0:=gc _ ay;have dv:(E7 ⟨K1++k::K2,V1++v::V2⟩).length≤2:=by unfold E7;split<;>simp
 have rp:=fun W pv hW hp=>Kx A [p] B (E7 ⟨K1++k::K2,V1++v::V2⟩) _ pv (A.length+1) W (bv.below hW) hp (by simp) (by simp) (by omega)
 have cb:=aa.2.2;have HV:=hid hV;have HK:=hid hK;have HL:=hid hl;clear hV hK hT hs gc fi hg bv hk hv bw dq;generalize cd:E7 _=HP at*;generalize ce:A++HP++B=R at*;generalize cf:A.length=a at*;generalize cg:(A++p::B).length=n at*;rw[←hl]at fc;generalize ch:V1.length=pl at*;generalize cj:p.K.length=m at*;generalize ck:p.V.length=mv at*;unfold aV at ds;have i0:(0:Int)≤a:=by omega
 have i1:a<(n:Int):=by omega
 have i2:¬((n:Int)=0):=by omega
 have i3:¬(a=(n:Int)):=by omega
 have i4:(0:Int)≤pl:=by omega
 have i6:IntKind.i64.wrap (a+1)=((a+1:Nat):Int):=by rw[bE];omega
 have dw:=hid ch;have az:=hid cb;have HR:=hid ce;have ah:=hid (aW cf (aW cg (aW hl (aW cj ck))));clear du ce cf cg cj ck hn dt cb dv ch hl;go_enter bW,bU;go_upto_region 13 with(first
  |(go_at_call 182;go_must(refine g0.mono ?_;rintro e w1 ⟨rfl,ai⟩;have cl:=(ai.cell hA).trans bz;have ba:=ay.trans (ai.mono ay.size);have bc:=aB hA ai.size;have cm:=aB ca ai.size;have cn:=(ai.block _ hA).trans b0;have r1:=(ai.block _ ca).trans r0))
  |(go_at_call 183;go_must(refine(fc _ ba).mono ?_;rintro e w2 ⟨rfl,aj⟩;have co:=(aj.cell bc).trans cl;have an:=ba.trans (aj.mono ba.size);have dx:=(an.cell bx).trans c0;have dy:=(an.cell bx).trans c1;have bd:=aB bc aj.size;have be:=aB cm aj.size;have cq:=(aj.block _ bc).trans cn;have r2:=(aj.block _ cm).trans r1))
  |(go_at_call 184;go_must(refine(cp _ an).mono ?_;rintro e w3 ⟨g1,d1,g2,d2,rfl,ar,bf,fb,ak⟩;have dz:=(ak.cell bd).trans co;have cr:=an.trans (ak.mono an.size);have ea:=aB bd ak.size;have eb:=aB be ak.size;have cs:=(ak.block _ bd).trans cq;have r3:=(ak.block _ be).trans r2)))
 have fd:=aB be ar.1;have fe:=ar.lt;have ff:=bf.lt;obtain⟨X1,au⟩:∃X1,(w3.alloc (S #[J (H ⟨g1,0,D⟩) m d1,J (H ⟨g2,0,D⟩) mv d2] 83)).alloc (S #[O k] 9)=X1:=⟨_,rfl⟩;have ap:X w3.heap.size w3 X1:=by rw[←au];exact((aC _ _).alloc (aD _) _).alloc (by simp) _
 have fg:X1.heap.size=w3.heap.size+1+1:=by rw[←au];simp
 have xq:X1.heap[w3.heap.size]?=H (S #[J (H ⟨g1,0,D⟩) m d1,J (H ⟨g2,0,D⟩) mv d2] 83):=by rw[←au];exact Ad (Ab w3 _) _
 have xk:X1.heap[w3.heap.size+1]?=H (S #[O k] 9):=by
  rw[←au];have:=Ab (w3.alloc (S #[J (H ⟨g1,0,D⟩) m d1,J (H ⟨g2,0,D⟩) mv d2] 83)) (S #[O k] 9);rwa[aA]at this
 have oK:Cs X1 w2.heap.size g1 d1 (K1++K2):=by have:=ar.below ap;rwa[HK.out]at this
 have oV:Cs X1 w2.heap.size g2 d2 (V1++V2):=by have:=bf.below ap;rwa[HV.out]at this
 have bg:(K1++K2).length=m:=by rw[←HK.out];exact ah.out.2.2.2.1
 have ct:(V1++V2).length=mv:=by rw[←HV.out];exact ah.out.2.2.2.2
 have bh:=Qm K1 K2 k _ _ _ 1 X1 oK.2 (by have:=aa.1;rw[HK.out]at this;omega) (by have:=aa.2.1;rw[HK.out]at this;omega) xk (by simp[aE];omega);rw[bg,←ah.out.2.2.1]at bh;have bi:=hid (show(K1++k::K2).length=m+1 by grind);have cu:=hid (show(V1++v::V2).length=mv+1 by grind);have fh:=hid bg;have bj:=hid ct;clear bg ct;have cv:=(ap.block _ ea).trans cs;have rx:=(ap.block _ eb).trans r3;clear dz;go_upto_region 14 with(go_at_call 186;go_must(go_fit bh;rintro e w4 ⟨v1,rfl,av,ac,cx⟩;obtain⟨ad,ae,e1⟩:=av.shape;rw[bi.out]at e1;subst e1;have q4:=(ac.block _ (by omega) (by simp[aE];omega)).trans xq;have ec:=Aa q4 (j:=0) rfl;have ed:w4.frozen? ⟨w3.heap.size,0,D⟩=aT:=(by simp[aF,q4])));have cy:=(ac.block _ (by omega) (by simp[aE];omega)).trans cv;have r4:=(ac.block _ (by omega) (by simp[aE];omega)).trans rx;have cz:=oV.grown (r:=g1) ac (by omega);obtain⟨Y,hY⟩:∃Y,w4.setCell ⟨w3.heap.size,0,D⟩ (J ad (m+1) ae)=Y:=⟨_,rfl⟩;have yq:Y.heap[w3.heap.size]?=H (S #[J ad (m+1) ae,J (H ⟨g2,0,D⟩) mv d2] 83):=by rw[←hY];exact Jt q4 0 _
 have yb:Y.heap[w.heap.size]?=H (S #[J (H ⟨b,ag,D⟩) n cap] 44):=by rw[←hY,aM _ _ _ _ (by grind)];exact cy
 have yr:Y.heap[w.heap.size+1]?=H (S #[J D 0 0] 44):=by rw[←hY,aM _ _ _ _ (by grind)];exact r4
 have da:Y.heap.size=w4.heap.size:=by rw[←hY];simp[bR]
 have db:Cs Y w2.heap.size g2 d2 (V1++V2):=by rw[←hY];exact cz.setOther (by omega) _
 have dc:An Y (J ad (m+1) ae) (K1++k::K2):=by rw[←hY];exact Df av (Kh av (by grind) q4) _
 have fj:=ac.size;have dd:X w.heap.size w Y:=by
  have de:X w.heap.size w X1:=cr.trans (ap.mono cr.size);have ee:X w.heap.size w w4:=de.grown ac de.size (fun j hj=>by simp[aE]at hj;omega);rw[←hY];exact ee.setCell (by grind) _
 have ef:Arb ad (m+1) ae g2:=by
  unfold Arb;rcases cx with e|⟨bb,e,hbb⟩
  ·rw[e];simp[aE];omega
  ·grind
 obtain⟨X2,bk⟩:∃X2,Y.alloc (S #[O v] 9)=X2:=⟨_,rfl⟩;have al:X Y.heap.size Y X2:=by rw[←bk];exact(aC _ _).alloc (aD _) _
 have fk:X2.heap.size=w4.heap.size+1:=by rw[←bk,aA,da]
 have xv:X2.heap[w4.heap.size]?=H (S #[O v] 9):=by rw[←bk,←da];exact Ab Y _
 have bl:=Qm V1 V2 v _ _ _ 1 X2 (db.below al).2 (by rw[bj.out,az.out];have:=aa.1;rw[ah.out.2.2.2.1]at this;omega) (by rw[bj.out,az.out];have:=aa.2.1;rw[ah.out.2.2.2.1]at this;omega) xv (by simp[aE];omega);rw[bj.out,dw.out]at bl;have df:=(al.block _ (by omega)).trans yq;have dg:=(al.block _ (by omega)).trans yb;have dh:=(al.block _ (by omega)).trans yr;have eg:=Aa yq (j:=1) rfl;clear ec ed;go_upto_region 15 with(go_at_call 186;go_must(go_fit bl;rintro e w5 ⟨v2,rfl,aw,af,eh⟩;obtain⟨bm,bn,e2⟩:=aw.shape;rw[cu.out]at e2;subst e2;have q5:=(af.block _ (by omega) (by simp[aE];omega)).trans df;have ei:=Aa q5 (j:=1) rfl;have ej:w5.frozen? ⟨w3.heap.size,1,D⟩=aT:=(by simp[aF,q5])));have fl:=af.size;have bo:=(dc.below al).grown af (.inr ef);have b5:=(af.block _ (by omega) (by simp[aE];omega)).trans dg;have r5:=(af.block _ (by omega) (by simp[aE];omega)).trans dh;have ek:=(dd.trans (al.mono dd.size)).grown af (by omega) (fun j hj=>by simp[aE]at hj;omega);generalize hZ:w5.setCell _ _=Z;have zq:Z.heap[w3.heap.size]?=H (S #[J ad (m+1) ae,J bm (mv+1) bn] 83):=by rw[←hZ];exact Jt q5 1 _
 have zb:Z.heap[w.heap.size]?=H (S #[J (H ⟨b,ag,D⟩) n cap] 44):=by rw[←hZ,aM _ _ _ _ (by grind)];exact b5
 have zr:Z.heap[w.heap.size+1]?=H (S #[J D 0 0] 44):=by rw[←hZ,aM _ _ _ _ (by grind)];exact r5
 have di:X w.heap.size w Z:=by rw[←hZ];exact ek.setCell (by grind) _
 have el:An Z (J ad (m+1) ae) (K1++k::K2):=by rw[←hZ];exact Df bo (Kh bo (by grind) q5) _
 have en:An Z (J bm (mv+1) bn) (V1++v::V2):=by rw[←hZ];exact Df aw (Kh aw (by grind) q5) _
 have dj:=aL zr;have eo:=aL zq;have dk:=Acs ⟨_,_⟩ _ _ _ (el.below (aC _ _).drew) (en.below (aC _ _).drew) (by simp only;rw[bi.out];have:=aa.2.1;rw[ah.out.2.2.2.1]at this;omega) (by simp only;rw[bi.out,cu.out,az.out]);rw[cd]at dk;have z0:=Aa zb (j:=0) rfl;have z1:=Aa zq (j:=0) rfl;have z2:=Aa zq (j:=1) rfl;have ep:∀i j,(⟨w.heap.size+1,i,D⟩:Addr)≠⟨w.heap.size,j,D⟩:=fun i j h=>by grind
 have dl:∀i j,(⟨w.heap.size+1,i,D⟩:Addr)≠⟨w3.heap.size,j,D⟩:=fun i j h=>by grind
 have dm:w.heap.size<Z.drew.heap.size:=cR dj;have bp:w3.heap.size<Z.drew.heap.size:=eo;have dn:w.heap.size+1<Z.drew.heap.size:=dj;clear hZ ei ej fc cp g0 bh bl eg dx dy cd cx eh ac af q4 q5 yq yb yr df dg dh b5 r5 xq xk xv cn cq cs cy cv r0 r1 r2 r3 r4 rx b0 bz cl co av aw bo dc oK oV cz db ar bf
 go_region_held3(fun w'=>w'.cell? ⟨w.heap.size,0,D⟩=H (J (H ⟨b,ag,D⟩) n cap)∧w'.cell? ⟨w3.heap.size,0,D⟩=H (J ad (m+1) ae)∧w'.cell? ⟨w3.heap.size,1,D⟩=H (J bm (mv+1) bn))
  (first|exact⟨(aK _ _ _ _ (ep _ _)).trans et,(aK _ _ _ _ (dl _ _)).trans eu,(aK _ _ _ _ (dl _ _)).trans ew⟩|grind|grind|simp_all)
  (first
   |(go_at_call 187;refine dk.mono ?_;rintro e w6 ⟨pv,rfl,dp,am⟩;obtain⟨po,pc,rfl⟩:=dp.shape;obtain⟨ab,bq⟩:=E5 am;have ex:=(ab _ _ dm).trans z0;have ey:=(ab _ _ bp).trans z1;have ez:=(ab _ _ bp).trans z2;have bt:=di.drew.trans (am.mono (show w.heap.size≤Z.drew.heap.size from di.size));have r6:=(am.block _ dn).trans zr;have y0:=aB dm am.size;have y1:=aB bp am.size;have y2:=aB dn am.size;clear ab bq)
   |(go_at_call 185;refine(rp _ _ bt dp).mono ?_;rintro e w7 ⟨ax,rfl,⟨fm,rfl,hP⟩,bu⟩;obtain⟨ao,cc,rfl⟩:=hP.shape;obtain⟨ab,bq⟩:=E5 bu;have et:=(ab _ _ y0).trans ex;have eu:=(ab _ _ y1).trans ey;have ew:=(ab _ _ y1).trans ez;have r7:=(bu.block _ y2).trans r6;have q7:w7.cell? ⟨_,0,D⟩=H (J D 0 0):=Aa r7 rfl;have f7:w7.frozen? ⟨w.heap.size+1,0,D⟩=aT:=(by simp[aF,r7]);clear ab bq))
 go_wp2;refine aI (v:=bF #[J ao R.length cc]) (by simp[aS,go_sem, *]) rfl ?_;have hz:=bt.trans (bu.mono bt.size);exact⟨_,rfl,⟨_,rfl,Gy hP r7 _⟩,hz.setCell (by simp) _⟩
attribute [local go_sem↓] Go.wp_at_zero Go.wp_at_succ
theorem Apr (A B)(p)(K1 K2 V1 V2)(k v)(tv:Value)(w:bA)(h:Bi w tv (A++p::B))(hg:As (A++p::B))(hK:p.K=K1++K2)(hV:p.V=V1++V2)(hl:V1.length=K1.length)
  (fi:Ua (A++p::B) k (A++p::B).length 0 aT) (hB:B=[]) (bw:K2=[]) (hn:((A++p::B).length+1) *48≤140737488355328):
  aP aG 109 #[tv,O k,O v] w fun e w'=>∃ax,e=aH ax∧Bi w' ax (A++E7 ⟨K1++k::K2,V1++v::V2⟩++B)∧X w.heap.size w w':=by
 have gc:=fun W (hW:X w.heap.size w W)=>I3 (A++p::B) tv W (h.below hW) hg
 have fc:=fun W (hW:X w.heap.size w W)=>fi tv W (h.below hW)
 have bx:=h;obtain⟨sv,rfl,hs⟩:=h;have bz:(A++p::B)[A.length]?=H p:=by simp
 obtain⟨b,ag,cap,rfl,ca,dt,du,hT⟩:=hs.at (by simp<;>omega);obtain⟨kv,vv,c0,c1,hk,hv⟩:=hT _ p bz;have aa:=hg.1 p (by simp);have cp:=fun W hW=>Lj p kv vv W (hk.below hW) (hv.below hW) (by have:=aa.1;omega) (by have:=aa.2.1;omega) aa.2.2
 obtain⟨ka,kc,rfl⟩:=hk.shape;obtain⟨va,vc,rfl⟩:=hv.shape;have dv:A.length<(A++p::B).length:=by simp
 have dw:(A++p::B).length=A.length+1+B.length:=by simp;omega
 generalize aq:(w.alloc (S #[J (H ⟨b,ag,D⟩) (A++p::B).length cap] 44)).alloc (S #[J D 0 0] 44)=W0;have ay:X w.heap.size w W0:=by rw[←aq];exact((aC _ w).alloc (aD _) _).alloc (by simp) _
 have fe:W0.heap.size=w.heap.size+1+1:=by rw[←aq];simp
 have b0:W0.heap[w.heap.size]?=H (S #[J (H ⟨b,ag,D⟩) (A++p::B).length cap] 44):=by rw[←aq];exact Ad (Ab w _) _
 have r0:W0.heap[w.heap.size+1]?=H (S #[J D 0 0] 44):=by
  rw[←aq];have:=Ab (w.alloc (S #[J (H ⟨b,ag,D⟩) (A++p::B).length cap] 44)) (S #[J D 0 0] 44);rwa[aA]at this
 have cb:=Aa b0 (j:=0) rfl;have hA:w.heap.size<W0.heap.size:=by omega
 have cd:w.heap.size+1<W0.heap.size:=by omega
 have g0:=gc _ ay;have dx:B.length=0:=by rw[hB];rfl
 clear hB;have dy:(E7 ⟨K1++k::K2,V1++v::V2⟩).length≤2:=by unfold E7;split<;>simp
 have rp:=fun W pv hW hp=>Kx A [p] B (E7 ⟨K1++k::K2,V1++v::V2⟩) _ pv (A.length+1) W (bx.below hW) hp (by simp) (by simp) (by omega)
 have ce:=aa.2.2;have HV:=hid hV;have HK:=hid hK;have HL:=hid hl;clear hV hK hT hs gc fi hg bx hk hv bz dt;generalize cf:E7 _=HP at*;generalize cg:A++HP++B=R at*;generalize ch:A.length=a at*;generalize cj:(A++p::B).length=n at*;generalize ck:V1.length=pl at*;generalize az:p.K.length=m at*;generalize cl:p.V.length=mv at*;unfold aV at du;have i0:(0:Int)≤a:=by omega
 have i1:a<(n:Int):=by omega
 have i2:¬((n:Int)=0):=by omega
 have i3:n-1=(a:Int):=by omega
 have i9:(n:Int)≤1000000000000000:=by omega
 have ff:(1:Int)≤n:=by omega
 have cm:=hid (show pl=m by have:=az;rw[HK.out,bw,aR]at this;omega);clear bw dx;have i4:(0:Int)≤pl:=by omega
 have i6:IntKind.i64.wrap (a+1)=((a+1:Nat):Int):=by rw[bE];omega
 have dz:=hid ck;have ba:=hid ce;have HR:=hid cg;have ah:=hid (aW ch (aW cj (aW hl (aW az cl))));clear dw cg ch cj az cl hn dv ce dy ck hl;go_enter bW,bU;go_upto_region 13 with(first
  |(go_fit g0;rintro e w1 ⟨rfl,ai⟩;have cn:=(ai.cell hA).trans cb;have bc:=ay.trans (ai.mono ay.size);have bd:=aB hA ai.size;have co:=aB cd ai.size;have cq:=(ai.block _ hA).trans b0;have r1:=(ai.block _ cd).trans r0)
  |(go_fit(fc _ bc);rintro e w2 ⟨rfl,aj⟩;have cr:=(aj.cell bd).trans cn;have an:=bc.trans (aj.mono bc.size);have ea:=(an.cell ca).trans c0;have eb:=(an.cell ca).trans c1;have be:=aB bd aj.size;have bf:=aB co aj.size;have cs:=(aj.block _ bd).trans cq;have r2:=(aj.block _ co).trans r1)
  |(go_fit(cp _ an);rintro e w3 ⟨g1,d1,g2,d2,rfl,ar,bg,fg,ak⟩;have ec:=(ak.cell be).trans cr;have ct:=an.trans (ak.mono an.size);have ed:=aB be ak.size;have ee:=aB bf ak.size;have cu:=(ak.block _ be).trans cs;have r3:=(ak.block _ bf).trans r2))
 have fh:=aB bf ar.1;have fj:=ar.lt;have fk:=bg.lt;obtain⟨X1,au⟩:∃X1,(w3.alloc (S #[J (H ⟨g1,0,D⟩) m d1,J (H ⟨g2,0,D⟩) mv d2] 83)).alloc (S #[O k] 9)=X1:=⟨_,rfl⟩;have ap:X w3.heap.size w3 X1:=by rw[←au];exact((aC _ _).alloc (aD _) _).alloc (by simp) _
 have fl:X1.heap.size=w3.heap.size+1+1:=by rw[←au];simp
 have xq:X1.heap[w3.heap.size]?=H (S #[J (H ⟨g1,0,D⟩) m d1,J (H ⟨g2,0,D⟩) mv d2] 83):=by rw[←au];exact Ad (Ab w3 _) _
 have xk:X1.heap[w3.heap.size+1]?=H (S #[O k] 9):=by
  rw[←au];have:=Ab (w3.alloc (S #[J (H ⟨g1,0,D⟩) m d1,J (H ⟨g2,0,D⟩) mv d2] 83)) (S #[O k] 9);rwa[aA]at this
 have oK:Cs X1 w2.heap.size g1 d1 (K1++K2):=by have:=ar.below ap;rwa[HK.out]at this
 have oV:Cs X1 w2.heap.size g2 d2 (V1++V2):=by have:=bg.below ap;rwa[HV.out]at this
 have bh:(K1++K2).length=m:=by rw[←HK.out];exact ah.out.2.2.2.1
 have cv:(V1++V2).length=mv:=by rw[←HV.out];exact ah.out.2.2.2.2
 have bi:=Qm K1 K2 k _ _ _ 1 X1 oK.2 (by have:=aa.1;rw[HK.out]at this;omega) (by have:=aa.2.1;rw[HK.out]at this;omega) xk (by simp[aE];omega);rw[bh,←ah.out.2.2.1,cm.out]at bi;have bj:=hid (show(K1++k::K2).length=m+1 by grind);have cx:=hid (show(V1++v::V2).length=mv+1 by grind);have fm:=hid bh;have bk:=hid cv;clear bh cv;have cy:=(ap.block _ ed).trans cu;have rx:=(ap.block _ ee).trans r3;clear ec;go_upto_region 14 with(go_fit bi;rintro e w4 ⟨v1,rfl,av,ac,cz⟩;obtain⟨ad,ae,e1⟩:=av.shape;rw[bj.out]at e1;subst e1;have q4:=(ac.block _ (by omega) (by simp[aE];omega)).trans xq;have ef:=Aa q4 (j:=0) rfl;have eg:w4.frozen? ⟨w3.heap.size,0,D⟩=aT:=(by simp[aF,q4]));have da:=(ac.block _ (by omega) (by simp[aE];omega)).trans cy;have r4:=(ac.block _ (by omega) (by simp[aE];omega)).trans rx;have db:=oV.grown (r:=g1) ac (by omega);obtain⟨Y,hY⟩:∃Y,w4.setCell ⟨w3.heap.size,0,D⟩ (J ad (m+1) ae)=Y:=⟨_,rfl⟩;have yq:Y.heap[w3.heap.size]?=H (S #[J ad (m+1) ae,J (H ⟨g2,0,D⟩) mv d2] 83):=by rw[←hY];exact Jt q4 0 _
 have yb:Y.heap[w.heap.size]?=H (S #[J (H ⟨b,ag,D⟩) n cap] 44):=by rw[←hY,aM _ _ _ _ (by grind)];exact da
 have yr:Y.heap[w.heap.size+1]?=H (S #[J D 0 0] 44):=by rw[←hY,aM _ _ _ _ (by grind)];exact r4
 have dc:Y.heap.size=w4.heap.size:=by rw[←hY];simp[bR]
 have dd:Cs Y w2.heap.size g2 d2 (V1++V2):=by rw[←hY];exact db.setOther (by omega) _
 have de:An Y (J ad (m+1) ae) (K1++k::K2):=by rw[←hY];exact Df av (Kh av (by grind) q4) _
 have fn:=ac.size;have df:X w.heap.size w Y:=by
  have dg:X w.heap.size w X1:=ct.trans (ap.mono ct.size);have eh:X w.heap.size w w4:=dg.grown ac dg.size (fun j hj=>by simp[aE]at hj;omega);rw[←hY];exact eh.setCell (by grind) _
 have ei:Arb ad (m+1) ae g2:=by
  unfold Arb;rcases cz with e|⟨bb,e,hbb⟩
  ·rw[e];simp[aE];omega
  ·grind
 obtain⟨X2,bl⟩:∃X2,Y.alloc (S #[O v] 9)=X2:=⟨_,rfl⟩;have al:X Y.heap.size Y X2:=by rw[←bl];exact(aC _ _).alloc (aD _) _
 have fo:X2.heap.size=w4.heap.size+1:=by rw[←bl,aA,dc]
 have xv:X2.heap[w4.heap.size]?=H (S #[O v] 9):=by rw[←bl,←dc];exact Ab Y _
 have bm:=Qm V1 V2 v _ _ _ 1 X2 (dd.below al).2 (by rw[bk.out,ba.out];have:=aa.1;rw[ah.out.2.2.2.1]at this;omega) (by rw[bk.out,ba.out];have:=aa.2.1;rw[ah.out.2.2.2.1]at this;omega) xv (by simp[aE];omega);rw[bk.out,dz.out,cm.out]at bm;have dh:=(al.block _ (by omega)).trans yq;have di:=(al.block _ (by omega)).trans yb;have dj:=(al.block _ (by omega)).trans yr;have ej:=Aa yq (j:=1) rfl;clear ef eg;go_upto_region 15 with(go_fit bm;rintro e w5 ⟨v2,rfl,aw,af,ek⟩;obtain⟨bn,bo,e2⟩:=aw.shape;rw[cx.out]at e2;subst e2;have q5:=(af.block _ (by omega) (by simp[aE];omega)).trans dh;have el:=Aa q5 (j:=1) rfl;have en:w5.frozen? ⟨w3.heap.size,1,D⟩=aT:=(by simp[aF,q5]));have fp:=af.size;have bp:=(de.below al).grown af (.inr ei);have b5:=(af.block _ (by omega) (by simp[aE];omega)).trans di;have r5:=(af.block _ (by omega) (by simp[aE];omega)).trans dj;have eo:=(df.trans (al.mono df.size)).grown af (by omega) (fun j hj=>by simp[aE]at hj;omega);generalize hZ:w5.setCell _ _=Z;have zq:Z.heap[w3.heap.size]?=H (S #[J ad (m+1) ae,J bn (mv+1) bo] 83):=by rw[←hZ];exact Jt q5 1 _
 have zb:Z.heap[w.heap.size]?=H (S #[J (H ⟨b,ag,D⟩) n cap] 44):=by rw[←hZ,aM _ _ _ _ (by grind)];exact b5
 have zr:Z.heap[w.heap.size+1]?=H (S #[J D 0 0] 44):=by rw[←hZ,aM _ _ _ _ (by grind)];exact r5
 have dk:X w.heap.size w Z:=by rw[←hZ];exact eo.setCell (by grind) _
 have ep:An Z (J ad (m+1) ae) (K1++k::K2):=by rw[←hZ];exact Df bp (Kh bp (by grind) q5) _
 have et:An Z (J bn (mv+1) bo) (V1++v::V2):=by rw[←hZ];exact Df aw (Kh aw (by grind) q5) _
 have dl:=aL zr;have eu:=aL zq;have dm:=Acs ⟨_,_⟩ _ _ _ (ep.below (aC _ _).drew) (et.below (aC _ _).drew) (by simp only;rw[bj.out];have:=aa.2.1;rw[ah.out.2.2.2.1]at this;omega) (by simp only;rw[bj.out,cx.out,ba.out]);rw[cf]at dm;have z0:=Aa zb (j:=0) rfl;have z1:=Aa zq (j:=0) rfl;have z2:=Aa zq (j:=1) rfl;have ew:∀i j,(⟨w.heap.size+1,i,D⟩:Addr)≠⟨w.heap.size,j,D⟩:=fun i j h=>by grind
 have dn:∀i j,(⟨w.heap.size+1,i,D⟩:Addr)≠⟨w3.heap.size,j,D⟩:=fun i j h=>by grind
 have dp:w.heap.size<Z.drew.heap.size:=cR dl;have bq:w3.heap.size<Z.drew.heap.size:=eu;have dq:w.heap.size+1<Z.drew.heap.size:=dl;clear hZ el en fc cp g0 bi bm ej ea eb cf cz ek ac af q4 q5 yq yb yr dh di dj b5 r5 xq xk xv cq cs cu da cy r0 r1 r2 r3 r4 rx b0 cb cn cr av aw bp de oK oV db dd ar bg
 go_region_held3(fun w'=>w'.cell? ⟨w.heap.size,0,D⟩=H (J (H ⟨b,ag,D⟩) n cap)∧w'.cell? ⟨w3.heap.size,0,D⟩=H (J ad (m+1) ae)∧w'.cell? ⟨w3.heap.size,1,D⟩=H (J bn (mv+1) bo))
  (first|exact⟨(aK _ _ _ _ (ew _ _)).trans ex,(aK _ _ _ _ (dn _ _)).trans ey,(aK _ _ _ _ (dn _ _)).trans ez⟩|grind|grind|simp_all)
  (first
   |(go_at_call 187;refine dm.mono ?_;rintro e w6 ⟨pv,rfl,ds,am⟩;obtain⟨po,pc,rfl⟩:=ds.shape;obtain⟨ab,bt⟩:=E5 am;have fa:=(ab _ _ dp).trans z0;have fb:=(ab _ _ bq).trans z1;have fd:=(ab _ _ bq).trans z2;have bu:=dk.drew.trans (am.mono (show w.heap.size≤Z.drew.heap.size from dk.size));have r6:=(am.block _ dq).trans zr;have y0:=aB dp am.size;have y1:=aB bq am.size;have y2:=aB dq am.size;clear ab bt)
   |(go_at_call 185;refine(rp _ _ bu ds).mono ?_;rintro e w7 ⟨ax,rfl,⟨fq,rfl,hP⟩,bv⟩;obtain⟨ao,cc,rfl⟩:=hP.shape;obtain⟨ab,bt⟩:=E5 bv;have ex:=(ab _ _ y0).trans fa;have ey:=(ab _ _ y1).trans fb;have ez:=(ab _ _ y1).trans fd;have r7:=(bv.block _ y2).trans r6;have q7:w7.cell? ⟨_,0,D⟩=H (J D 0 0):=Aa r7 rfl;have f7:w7.frozen? ⟨w.heap.size+1,0,D⟩=aT:=(by simp[aF,r7]);clear ab bt))
 go_wp2;refine aI (v:=bF #[J ao R.length cc]) (by simp[aS,go_sem, *]) rfl ?_;have hz:=bu.trans (bv.mono bu.size);exact⟨_,rfl,⟨_,rfl,Gy hP r7 _⟩,hz.setCell (by simp) _⟩
theorem Ag0 (tv)(k v)(w)(h:Bi w tv []):
  aP aG 109 #[tv,O k,O v] w fun e w'=>∃af,e=aH af∧Bi w' af [⟨[k],[v]⟩]∧X w.heap.size w w':=by
 have gc:=fun W hW=>I3 [] tv W (h.below hW) ⟨by simp,by simp[Cf]⟩
 obtain⟨sv,rfl,hs⟩:=h;obtain⟨so,aa,rfl⟩:=hs.shape
 change∀W,X _ w W→aP _ 182 #[bF #[J so 0 aa]] W _ at gc
 clear hs;generalize ab:(w.alloc (S #[J so 0 aa] 44)).alloc (S #[J D 0 0] 44)=W0;have ad:X w.heap.size w W0:=by rw[←ab];exact((aC _ w).alloc (aD _) _).alloc (by simp) _
 have ai:W0.heap.size=w.heap.size+1+1:=by rw[←ab];simp
 have b0:W0.heap[w.heap.size]?=H (S #[J so 0 aa] 44):=by rw[←ab];exact Ad (Ab w _) _
 have r0:W0.heap[w.heap.size+1]?=H (S #[J D 0 0] 44):=by
  rw[←ab];have:=Ab (w.alloc (S #[J so 0 aa] 44)) (S #[J D 0 0] 44);rwa[aA]at this
 have aj:=Aa b0 (j:=0) rfl;have hA:w.heap.size<W0.heap.size:=by omega
 have ah:w.heap.size+1<W0.heap.size:=by omega
 go_enter bW,bU;go_wp2_with(go_fit(gc _ ad);rintro e w1 ⟨rfl,ae⟩;have ak:w1.cell? ⟨_,0,D⟩=H (J so 0 aa):=Aa ((ae.block _ hA).trans b0) rfl;have r1:=(ae.block _ ah).trans r0;obtain⟨W2,ac⟩:∃W2,((w1.alloc (S #[O k] 9)).alloc (S #[O v] 9)).alloc (S #[J (H ⟨w1.heap.size,0,D⟩) 1 1,J (H ⟨w1.heap.size+1,0,D⟩) 1 1] 83)=W2:=⟨_,rfl⟩;have ag:X _ w1 W2:=(by rw[←ac];exact(((aC _ w1).alloc (aD _) _).alloc (by simp) _).alloc (by simp;omega) _);have r2:=(ag.block _ (aL r1)).trans r1;have q2:W2.cell? ⟨_,0,D⟩=H (J D 0 0):=Aa r2 rfl;have f2:W2.frozen? ⟨w.heap.size+1,0,D⟩=aT:=(by simp[aF,r2]));have hz:=ad.trans (ae.mono ad.size);have e1:W2.heap[w1.heap.size]?=H (S #[O k] 9):=by rw[←ac];exact Ad (Ad (Ab w1 _) _) _
 have e2:W2.heap[w1.heap.size+1]?=H (S #[O v] 9):=by
  rw[←ac];refine Ad ?_ _;have:=Ab (w1.alloc (S #[O k] 9)) (S #[O v] 9);rwa[aA]at this
 have e3:W2.heap[w1.heap.size+1+1]?=H (S #[J (H ⟨w1.heap.size,0,D⟩) 1 1,J (H ⟨w1.heap.size+1,0,D⟩) 1 1] 83):=by
  rw[←ac];have:=Ab ((w1.alloc (S #[O k] 9)).alloc (S #[O v] 9)) (S #[J (H ⟨w1.heap.size,0,D⟩) 1 1,J (H ⟨w1.heap.size+1,0,D⟩) 1 1] 83);rwa[aA,aA]at this
 have one:∀{g}{x},W2.heap[g]?=H (S #[O x] 9)→An W2 (J (H ⟨g,0,D⟩) 1 1) [x]:=fun{g x} hb=>
  ⟨by simp,.inr ⟨by simp,g,0,1,rfl,aL hb,by simp,by decide,fun j u hj=>by rw[cI];exact Aa hb (by grind)⟩⟩
 refine aI (v:=bF #[J (H ⟨w1.heap.size+1+1,0,D⟩) 1 1]) (by simp[aS,go_sem, *]) rfl ?_;exact⟨_,rfl,⟨_,rfl,Gy (Pu e3 (one e1) (one e2) (by simp) (by decide)) r2 _⟩,(hz.trans (ag.mono hz.size)).setCell (by simp) _⟩
theorem Qr (p)(hl:p.V.length=p.K.length):flat (E7 p)=p.K.zip p.V:=by
 unfold E7;split
 ·simp[flat]
 ·rw[E6,E6,Rr,aR];simp only;rw[←aZ (by grind),bO,bO]
theorem Vh (p)(h1:1≤p.K.length)(h5:p.K.length≤5)(hl:p.V.length=p.K.length):∀q∈E7 p,q.ok:=by
 unfold E7;intro q hq;split at hq
 ·rename_i h4;obtain rfl:q=p:=by grind
  exact⟨h1,h4,hl⟩
 ·rename_i h4;simp only[bL,bY,or_false]at hq;rcases hq with rfl|rfl
  ·refine⟨?_,?_,?_⟩<;>simp<;>omega
  ·refine⟨?_,?_,?_⟩<;>simp<;>omega
theorem Zq {A B}{p}{K1 K2 V1 V2}{k}(hg:As (A++p::B))(hp:p.K=K1++K2)(hv:p.V=V1++V2)(hl:V1.length=K1.length)(hA:∀x∈Cf A,klt x k=bQ)(hK:∀x∈K1,klt x k=bQ)(aa:∀x∈K2,klt k x=bQ)(hB:∀x∈Cf B,klt k x=bQ):
  Cut (flat (A++p::B)) k (flat A++K1.zip V1) D (K2.zip V2++flat B):=by
 have ab:∀q∈A,q.ok:=fun q hq=>hg.1 q (by grind)
 have ac:∀q∈B,q.ok:=fun q hq=>hg.1 q (by grind)
 refine⟨?_,?_,?_⟩
 ·rw[Bg,E6,hp,hv,aZ hl.symm];simp
 ·intro x hx;rcases bI.1 hx with hx|hx
  ·exact hA _ (by rw[←Hs ab];grind)
  ·exact hK _ (cX hx).1
 ·intro x hx;rcases bI.1 hx with hx|hx
  ·exact aa _ (cX hx).1
  ·exact hB _ (by rw[←Hs ac];grind)
theorem Oz {A B M}{p}{k v}{F1 F2}{o}(hg:As (A++p::B))(c:Cut (flat (A++p::B)) k F1 o F2)(hM:∀q∈M,q.ok)(hf:flat (A++M++B)=F1++(k,v)::F2):As (A++M++B)∧flat (A++M++B)=I0 (flat (A++p::B)) k v:=by
 refine⟨Xj ?_ (by rw[hf];exact c.rise_put hg.rise v),by rw[hf,c.put]⟩;intro q hq;simp only[cP,bI]at hq;rcases hq with hq|hq|hq
 ·exact hg.1 q (by grind)
 ·grind
 ·exact hg.1 q (by grind)
def A0w (w w':bA)(e:Ending)(T:List Pg)(k v:ByteArray):Prop:=
 ∃tv' T',e=aH tv'∧Bi w' tv' T'∧X w.heap.size w w'∧As T'∧flat T'=I0 (flat T) k v∧T'.length≤T.length+1
theorem Aps (T)(tv)(k v)(w)(h:Bi w tv T)(hg:As T)(hn:(T.length+1) *48≤140737488355328):
  aP aG 109 #[tv,O k,O v] w fun e w'=>A0w w w' e T k v:=by
 rcases cN T.length with h0|h0
 ·obtain rfl:=bG h0;refine(Ag0 tv k v w h).mono ?_;rintro e w' ⟨ab,he,ht,hb⟩;have h1:∀q∈([⟨[k],[v]⟩]:List Pg),q.ok:=by
   intro q hq;obtain rfl:q=_:=List.mem_singleton.1 hq;exact⟨by simp,by simp,rfl⟩
  exact⟨ab,_,he,ht,hb,⟨h1,by simp[Cf]⟩,by rfl,by simp⟩
 ·obtain⟨pg,pl,th,hF,fi⟩:=U4 T k hg (by omega);rcases hF with⟨rfl,rfl,rfl,hall⟩|⟨A,p,B,K1,y,K3,rfl,hp,rfl,rfl,hA,hK,hy,rfl⟩
  ·obtain⟨A,p,rfl⟩:∃A p,T=A++[p]:=⟨T.dropLast,T.getLast (by rintro rfl;simp at h0),(List.dropLast_concat_getLast _).symm⟩;have aa:=hg.1 p (by simp);have ai:∀x∈Cf A,klt x k=bQ:=fun x hx=>hall x (by rw[Di];grind)
   have c:=Zq hg (aR _).symm (aR _).symm aa.2.2 ai (fun x hx=>hall x (by rw[Di];exact cJ _ (by simpa[Cf]using hx))) (by simp) (by simp[Cf]);refine(Apr A [] p p.K [] p.V [] k v tv w h hg (aR _).symm (aR _).symm aa.2.2 fi rfl rfl hn).mono ?_;rintro e w' ⟨ab,he,ht,hb⟩;have hM:=Vh ⟨p.K++[k],p.V++[v]⟩ (by simp) (by simp;exact aa.2.1) (by simp;exact aa.2.2);have hq:=Oz (v:=v) hg c hM (by
    rw[Bg,Bg,Qr _ (by simp;exact aa.2.2)];simp only;rw[aZ aa.2.2.symm];simp)
   refine⟨ab,_,he,ht,hb,hq.1,hq.2,?_⟩;have:(E7 ⟨p.K++[k],p.V++[v]⟩).length≤2:=by unfold E7;split<;>simp
   grind
  ·have aa:=hg.1 p (by simp)
   by_cases af:y=k
   ·subst af;obtain⟨V1,v0,V3,hV,ac,am,c⟩:=Pk hg hp hA hK;have ad:=by simpa using fi
    refine(Agz A B p K1 K3 V1 V3 v0 y v tv w h hg (by grind) hV ac ad hn).mono ?_;rintro e w' ⟨ab,he,ht,hb⟩;have hq:=Oz (M:=[⟨p.K,V1++v::V3⟩]) (v:=v) hg c (by
     intro q hq;obtain rfl:=by simpa using hq
     refine⟨aa.1,aa.2.1,?_⟩;grind) (by
     rw[Bg,Bg,E6,Rr,hp];simp only;rw[aZ ac.symm];simp)
    exact⟨ab,_,he,ht,hb,hq.1,hq.2,by simp⟩
   ·have ag:klt k y=bQ:=by
     rcases Jh hy with e|e
     ·grind
     ·omega
    have ad:=by simpa[af]using fi
    have hr:=hg.2;rw[Di,Ev,hp]at hr;have ah:=(Gt.1 hr).2.1;rw[cP]at ah;have ae:=(Gt.1 ah).2.1;rw[Cb,List.cons_append,List.pairwise_cons]at ae;have aj:∀x∈y::K3,klt k x=bQ:=by
     intro x hx;rcases bL.1 hx with rfl|hx
     ·omega
     ·exact Co ag (ae.1 x (List.mem_append_left _ hx))
    have ak:=fun x hx=>Co ag (ae.1 x (cJ _ hx))
    have al:=aa.2.2;have an:K1.length≤p.V.length:=by rw[al,hp];simp
    have hV:p.V=p.V.take _++p.V.drop K1.length:=(bO _ _).symm;have ac:(p.V.take K1.length).length=K1.length:=by simp;omega
    have c:=Zq hg hp hV ac hA hK aj ak;refine(Ac0 A B p K1 _ _ _ k v tv w h hg hp hV ac ad hn).mono ?_;rintro e w' ⟨ab,he,ht,hb⟩;have ap:(K1++k::y::K3).length=p.K.length+1:=by rw[hp];simp;omega
    have aq:(p.V.take K1.length++v::p.V.drop K1.length).length=p.V.length+1:=by simp;omega
    have hM:=Vh ⟨K1++k::y::K3,p.V.take K1.length++v::p.V.drop K1.length⟩ (by grind) (by simp only;have:=aa.2.1;omega) (by grind);have hq:=Oz (v:=v) hg c hM (by
     rw[Bg,Bg,Qr _ (by grind)];simp only;rw[aZ ac.symm];simp)
    refine⟨ab,_,he,ht,hb,hq.1,hq.2,?_⟩;have:(E7 ⟨K1++k::y::K3,p.V.take K1.length++v::p.V.drop K1.length⟩).length≤2:=by unfold E7;split<;>simp
    grind
theorem Arc (T)(tv)(i)(w)(h:Bi w tv T)(ac:i<0∨(T.length:Int)≤i+1)(ae:-1≤i)(hi:i≤4611686018427387904):
  aP aG 247 #[tv,U aJ i] w fun e w'=>∃ad,e=aH ad∧Bi w' ad T∧X w.heap.size w w':=by
 obtain⟨sv,rfl,hs⟩:=h;obtain⟨so,aa,rfl⟩:=hs.shape;have HS:=hid hs;clear hs;generalize T.length=n at*;have ab:X _ w ((w.alloc (S #[J so n aa] 44)).alloc (S #[J so n aa] 44)):=((aC _ w).alloc (aD _) _).alloc (by simp) _
 by_cases af:i<0
 ·clear ac;go_enter cG,cC;go_wp2;refine aI (v:=bF #[J so n aa]) (by simp[aS,go_sem]) rfl ?_;exact⟨_,rfl,⟨_,rfl,HS.out.below ab⟩,ab⟩
 ·have ag:n≤i+1:=by omega
  clear ac;go_enter cG,cC;go_wp2;refine aI (v:=bF #[J so n aa]) (by simp[aS,go_sem]) rfl ?_;exact⟨_,rfl,⟨_,rfl,HS.out.below ab⟩,ab⟩
theorem Am {w W}(h:X w.heap.size w W)(o):X w.heap.size w (W.alloc o):=h.alloc h.size o
theorem Ho {w W}(h:X w.heap.size w W){p}(hp:w.heap.size≤p.block)(v):X w.heap.size w (W.setCell p v):=h.setCell hp v
theorem Al {W:bA}{g}(h:W.heap.size=g)(o):(W.alloc o).heap[g]?=H o:=by rw[←h];exact Ab W o
theorem A6 (W:bA)(o):(W.alloc o).heap.size=W.heap.size+1:=aA _ _
theorem Be (W:bA)(o p):((W.alloc o).alloc p).heap.size=W.heap.size+1+1:=by simp
theorem Bc (W:bA):W.drew.heap.size=W.heap.size:=rfl
theorem A4 {W:bA}{g:Nat}{x}(h:W.heap[g]?=H x):W.drew.heap[g]?=H x:=h
theorem Apt (K L)(s1 s2)(g cap)(w)(hb:w.heap[g]?=H (S #[s1,s2] 54))(h1:An w s1 K)(h2:An w s2 L)(hl:K.length+L.length≤8):
  aP aG 306 #[J (H ⟨g,0,D⟩) 2 cap] w fun e w'=>∃ao c,e=aH (J ao (K.length+L.length) c)∧An w' (J ao (K.length+L.length) c) (K++L)∧X w.heap.size w w':=by
 have aa:=A0p [(s1,K.length,K.map O),(s2,L.length,L.map O)] g cap w (aL hb) (by
   intro i x hx
   match i,hx with
   |0,hx=>simp at hx;subst hx;exact Aa hb rfl
   |1,hx=>simp at hx;subst hx;exact Aa hb rfl
   |n+2,hx=>grind) (by
   intro x hx;simp only[bL,bY,or_false]at hx;rcases hx with rfl|rfl
   ·exact⟨h1,Ot K⟩
   ·exact⟨h2,Ot L⟩) (by simp) (by simp[U5.sum];omega)
 refine aa.mono ?_;rintro e w' ⟨v,rfl,hr,ab⟩;have ac:U5.sum [(s1,K.length,K.map O),(s2,L.length,L.map O)]=K.length+L.length:=by simp[U5.sum]
 have ad:U5.all [(s1,K.length,K.map O),(s2,L.length,L.map O)]=(K++L).map O:=by simp[U5.all]
 rw[ac,ad]at hr;obtain⟨ao,c,rfl⟩:=hr.shape;refine⟨ao,c,rfl,?_,ab⟩;have e:(K++L).length=K.length+L.length:=by simp
 unfold An;grind
theorem Axr {Wd w2}{ko vo}{n kc vc}{K V}(hk:An w2 (J ko n kc) K)(hv:An w2 (J vo n vc) V)(hz:X Wd.heap.size Wd w2):
  (w2.alloc (S #[J ko n kc,J vo n vc] 83)).heap[w2.heap.size]?=H (S #[J ko n kc,J vo n vc] 83)∧An (w2.alloc (S #[J ko n kc,J vo n vc] 83)) (J ko n kc) K∧An (w2.alloc (S #[J ko n kc,J vo n vc] 83)) (J vo n vc) V∧X Wd.heap.size Wd (w2.alloc (S #[J ko n kc,J vo n vc] 83)):=
 ⟨Ab _ _,hk.below (Am (aC _ _) _),hv.below (Am (aC _ _) _),Am hz _⟩
theorem Axs {Wd w2}{ko vo}{g n kc vc}{K V}(hk:An w2 (J ko n kc) K)(hv:An w2 (J vo n vc) V)(aa:0<K.length)(ab:0<V.length)(hz:X Wd.heap.size Wd w2)(hg:Wd.heap.size≤g)(p7:w2.heap[g]?=H (S #[J D 0 0,J D 0 0] 83)):
  ((w2.setCell ⟨g,0,D⟩ (J ko n kc)).setCell ⟨g,1,D⟩ (J vo n vc)).heap[g]?=H (S #[J ko n kc,J vo n vc] 83)∧An ((w2.setCell ⟨g,0,D⟩ (J ko n kc)).setCell ⟨g,1,D⟩ (J vo n vc)) (J ko n kc) K∧An ((w2.setCell ⟨g,0,D⟩ (J ko n kc)).setCell ⟨g,1,D⟩ (J vo n vc)) (J vo n vc) V∧X Wd.heap.size Wd ((w2.setCell ⟨g,0,D⟩ (J ko n kc)).setCell ⟨g,1,D⟩ (J vo n vc)):=by
 have b1:(w2.setCell _ _).heap[g]?=H (S #[J ko n kc,J D 0 0] 83):=Jt p7 0 _;have k1:=Df hk (Kh hk aa p7) (i:=0) (J ko n kc);have v1:=Df hv (Kh hv ab p7) (i:=0) (J ko n kc);exact⟨Jt b1 1 _,Df k1 (Kh k1 aa b1) _,Df v1 (Kh v1 ab b1) _,Ho (Ho hz hg _) hg _⟩
theorem Ard (A B:List Pg)(a b:Pg)(tv:Value)(w:bA)(h:Bi w tv (A++a::b::B))(ha:a.ok)(hb:b.ok)(hn:(A++a::b::B).length*48≤140737488355328):
  aP aG 247 #[tv,U aJ A.length] w fun e w'=>∃bn,e=aH bn∧Bi w' bn (if a.K.length+b.K.length≤4 then A++[⟨a.K++b.K,a.V++b.V⟩]++B else A++a::b::B)∧X w.heap.size w w':=by
 have cb:=h;obtain⟨sv,rfl,hs⟩:=h;obtain⟨bb,aa,cap,rfl,au,dw,de,hT⟩:=hs.at (by simp<;>omega);obtain⟨ak,av,c0,c1,bo,bc⟩:=hT A.length a (by simp);obtain⟨bk,bv,c2,c3,bp,bd⟩:=hT (A.length+1) b (by simp);obtain⟨ag,ah,rfl⟩:=bo.shape;obtain⟨ai,aj,rfl⟩:=bc.shape;obtain⟨al,am,rfl⟩:=bp.shape;obtain⟨an,ap,rfl⟩:=bd.shape;have df:(A++a::b::B).length=A.length+B.length+2:=by simp;omega
 obtain⟨a1,a4,bq⟩:=ha;obtain⟨b1,b4,bt⟩:=hb;rw[bq]at c1 bc;rw[bt]at c3 bd;have HS:=hid hs;have dg:=hid bo;have dh:=hid bc;have di:=hid bp;have dj:=hid bd;have aw:=hid (aW bq bt);clear hs bo bc bp bd hT;generalize cd:A.length=x at*;generalize dk:(A++a::b::B).length=n at*;generalize ce:a.K.length=ka at*;generalize dl:b.K.length=kb at*;clear bq bt;unfold aV at de;have i0:(0:Int)≤(x:Int):=by omega
 have i1:(x:Int)<(n:Int):=by omega
 have i2:(x:Int)+1<(n:Int):=by omega
 have i3:(0:Int)≤(x:Int)+1:=by omega
 have i4:((x:Int)+1).toNat=x+1:=by omega
 have i5:IntKind.i64.wrap ((x:Int)+1)=(x:Int)+1:=by rw[bE];omega
 generalize ax:(w.alloc (S #[J (H ⟨bb,aa,D⟩) n cap] 44)).alloc (S #[J D 0 0] 44)=W0;have aq:X w.heap.size w W0:=by rw[←ax];exact((aC _ w).alloc (aD _) _).alloc (by simp) _
 have ay:W0.heap.size=w.heap.size+1+1:=by rw[←ax];simp
 have b0:W0.heap[w.heap.size]?=H (S #[J (H ⟨bb,aa,D⟩) n cap] 44):=by rw[←ax];exact Ad (Ab w _) _
 have r0:W0.heap[w.heap.size+1]?=H (S #[J D 0 0] 44):=by
  rw[←ax];have:=Ab (w.alloc (S #[J (H ⟨bb,aa,D⟩) n cap] 44)) (S #[J D 0 0] 44);rwa[aA]at this
 have t0:=Aa b0 (j:=0) rfl;have d0:=(aq.cell (p:=⟨bb,aa+x*2,D⟩) au).trans c0;have d1:=(aq.cell (p:=⟨bb,aa+x*2+1,D⟩) au).trans c1;have d2:=(aq.cell (p:=⟨bb,aa+(x+1) *2,D⟩) au).trans c2;have d3:=(aq.cell (p:=⟨bb,aa+(x+1) *2+1,D⟩) au).trans c3;have be:bb<W0.heap.size:=aB au aq.size;clear c0 c1 c2 c3 df;have ks:∀W,X W0.heap.size W0 W→(W.cell? ⟨w.heap.size,0,D⟩=H (J (H ⟨bb,aa,D⟩) n cap)∧W.cell? ⟨bb,aa+x*2,D⟩=H (J ag ka ah)∧W.cell? ⟨bb,aa+x*2+1,D⟩=H (J ai ka aj)∧W.cell? ⟨bb,aa+(x+1) *2,D⟩=H (J al kb am)∧W.cell? ⟨bb,aa+(x+1) *2+1,D⟩=H (J an kb ap)):=fun W hW=>
  ⟨(hW.cell (p:=⟨w.heap.size,0,D⟩) (by simp only;omega)).trans t0,(hW.cell (p:=⟨bb,aa+x*2,D⟩) be).trans d0,(hW.cell (p:=⟨bb,aa+x*2+1,D⟩) be).trans d1,(hW.cell (p:=⟨bb,aa+(x+1) *2,D⟩) be).trans d2,(hW.cell (p:=⟨bb,aa+(x+1) *2+1,D⟩) be).trans d3⟩
 have cf:w.heap.size<W0.heap.size:=by omega
 have cg:w.heap.size+1<W0.heap.size:=by omega
 go_enter cG,cC;go_upto_region 3 with fail;clear ax
 go_cut[5,6]from 18 (fun s5 s6 wx=>∃pa pb,s5=cQ (H ⟨pa,0,D⟩)∧s6=cQ (H ⟨pb,0,D⟩)∧wx.heap[pa]?=H (S #[J ag ka ah,J ai ka aj] 83)∧wx.heap[pb]?=H (S #[J al kb am,J an kb ap] 83)∧X W0.heap.size W0 wx)
 case first=>
  go_region_held3(fun w'=>w'.cell? ⟨w.heap.size,0,D⟩=H (J (H ⟨bb,aa,D⟩) n cap)∧w'.cell? ⟨bb,aa+x*2,D⟩=H (J ag ka ah)∧w'.cell? ⟨bb,aa+x*2+1,D⟩=H (J ai ka aj)∧w'.cell? ⟨bb,aa+(x+1) *2,D⟩=H (J al kb am)∧w'.cell? ⟨bb,aa+(x+1) *2+1,D⟩=H (J an kb ap))
   (first|exact ks _ (aC _ _).drew|exact ks _ (Am (aC _ _) _).drew|exact ks _ (Am (Am (aC _ _) _) _).drew|go_keep)
   (fail)
  all_goals
   go_wp2_with fail;go_meet
   case rel=>
    first
     |exact⟨_,_,rfl,rfl,A4 (Ad (Al ay _) _),A4 (Al (by rw[aA,ay]) _),(Am (Am (aC _ _) _) _).drew⟩
     |exact⟨_,_,rfl,rfl,A4 (Al (by rw[aA,ay]) _),A4 (Ad (Al ay _) _),(Am (Am (aC _ _) _) _).drew⟩
 case rest=>
  obtain⟨pa,pb,rfl,rfl,bf,bg,ar⟩:=hcut;obtain⟨Wd,dm⟩:∃W,W=wc:=⟨_,rfl⟩;subst dm;have ch:Wd.cell? ⟨pa,0,D⟩=H (J ag ka ah):=Aa bf rfl;have cj:Wd.cell? ⟨pa,1,D⟩=H (J ai ka aj):=Aa bf rfl;have cl:Wd.cell? ⟨pb,0,D⟩=H (J al kb am):=Aa bg rfl;have cm:Wd.cell? ⟨pb,1,D⟩=H (J an kb ap):=Aa bg rfl;have ct:Wd.cell? ⟨w.heap.size,0,D⟩=H (J (H ⟨bb,aa,D⟩) n cap):=(ar.cell (p:=⟨w.heap.size,0,D⟩) cf).trans t0;have cr:=(ar.block _ cg).trans r0;have dn:Wd.cell? ⟨w.heap.size+1,0,D⟩=H (J D 0 0):=Aa cr rfl;have dp:Wd.frozen? ⟨w.heap.size+1,0,D⟩=aT:=by simp[aF,cr]
  have ad:X w.heap.size w Wd:=aq.trans (ar.mono aq.size);have dq:w.heap.size<Wd.heap.size:=aB cf ar.size;have cn:w.heap.size+1<Wd.heap.size:=aB cg ar.size;have co:=aL bf;have cp:=aL bg;clear ks d0 d1 d2 d3 t0 b0 r0 ay ar
  by_cases cq:ka+kb≤4
  ·have j0:(ka:Int)+(kb:Int)≤4:=by omega
   have ck:=fun W g (hW:X Wd.heap.size Wd W) hb=>Apt a.K b.K (J ag ka ah) (J al kb am) g 2 W hb (dg.out.below (ad.trans (hW.mono ad.size))) (di.out.below (ad.trans (hW.mono ad.size))) (by omega)
   have cv:=fun W g (hW:X Wd.heap.size Wd W) hb=>Apt a.V b.V (J ai ka aj) (J an kb ap) g 2 W hb (dh.out.below (ad.trans (hW.mono ad.size))) (dj.out.below (ad.trans (hW.mono ad.size))) (by rw[aw.out.1,aw.out.2];omega)
   rw[ce,dl]at ck;rw[aw.out.1,aw.out.2]at cv;have ae:∀W,X Wd.heap.size Wd W→(W.cell? ⟨pa,0,D⟩=H (J ag ka ah)∧W.cell? ⟨pa,1,D⟩=H (J ai ka aj)∧W.cell? ⟨pb,0,D⟩=H (J al kb am)∧W.cell? ⟨pb,1,D⟩=H (J an kb ap)):=fun W hW=>
    ⟨(hW.cell (p:=⟨pa,0,D⟩) co).trans ch,(hW.cell (p:=⟨pa,1,D⟩) co).trans cj,(hW.cell (p:=⟨pb,0,D⟩) cp).trans cl,(hW.cell (p:=⟨pb,1,D⟩) cp).trans cm⟩
   go_upto_region 6 with fail
   go_cut[7]from 18 (fun s7 wx=>∃pc ko kc vo vc,s7=cQ (H ⟨pc,0,D⟩)∧wx.heap[pc]?=H (S #[J ko (ka+kb) kc,J vo (ka+kb) vc] 83)∧An wx (J ko (ka+kb) kc) (a.K++b.K)∧An wx (J vo (ka+kb) vc) (a.V++b.V)∧X Wd.heap.size Wd wx)
   case first=>
    go_region_held3(fun w'=>w'.cell? ⟨pa,0,D⟩=H (J ag ka ah)∧w'.cell? ⟨pa,1,D⟩=H (J ai ka aj)∧w'.cell? ⟨pb,0,D⟩=H (J al kb am)∧w'.cell? ⟨pb,1,D⟩=H (J an kb ap))
     (with_reducible first|exact ae _ az|exact ae _ (Am az _)|exact ae _ af|exact ae _ (Am af _)|exact ae _ (Am (Am af _) _)|exact ae _ (aC _ _).drew|exact ae _ (Am (aC _ _) _).drew|exact ae _ (Am (Am (aC _ _) _) _).drew|exact ae _ (Am (Am (Am (aC _ _) _) _) _).drew|exact ae _ (Ho (Ho az (by simp only;omega) _) (by simp only;omega) _))
     (first
      |(go_at_call 306;refine(ck _ _ (by with_reducible first|exact(aC _ _).drew|exact(Am (aC _ _) _).drew|exact(Am (Am (aC _ _) _) _).drew|exact(Am (Am (Am (aC _ _) _) _) _).drew) (by with_reducible first|exact A4 (Al (by with_reducible first|exact rfl|exact A6 _ _|exact Be _ _ _) _)|exact A4 (Ad (Al (by with_reducible first|exact rfl|exact A6 _ _|exact Be _ _ _) _) _)|exact A4 (Ad (Ad (Al (by with_reducible first|exact rfl|exact A6 _ _|exact Be _ _ _) _) _) _))).mono ?_;rintro e w1 ⟨ko,kc,rfl,bu,ab⟩;have af:X Wd.heap.size Wd w1:=Ac (by with_reducible first|exact(aC _ _).drew|exact(Am (aC _ _) _).drew|exact(Am (Am (aC _ _) _) _).drew|exact(Am (Am (Am (aC _ _) _) _) _).drew) ab;have ds:=ab.size;simp only[aA,Bc]at ds)
      |(go_at_call 306;refine(cv _ _ (by with_reducible first|exact af|exact Am af _|exact Am (Am af _) _) (by with_reducible first|exact Al (by with_reducible first|exact rfl|exact A6 _ _|exact Be _ _ _) _|exact Ad (Al (by with_reducible first|exact rfl|exact A6 _ _|exact Be _ _ _) _) _|exact(ab.block _ (by simp only[aA,Bc];omega)).trans (A4 (Al (by with_reducible first|exact rfl|exact A6 _ _|exact Be _ _ _) _))|exact Ad ((ab.block _ (by simp only[aA,Bc];omega)).trans (A4 (Al (by with_reducible first|exact rfl|exact A6 _ _|exact Be _ _ _) _))) _|exact Ad (Ad ((ab.block _ (by simp only[aA,Bc];omega)).trans (A4 (Al (by with_reducible first|exact rfl|exact A6 _ _|exact Be _ _ _) _))) _) _|exact(ab.block _ (by simp only[aA,Bc];omega)).trans (A4 (Ad (Al (by with_reducible first|exact rfl|exact A6 _ _|exact Be _ _ _) _) _))|exact Ad ((ab.block _ (by simp only[aA,Bc];omega)).trans (A4 (Ad (Al (by with_reducible first|exact rfl|exact A6 _ _|exact Be _ _ _) _) _))) _|exact Ad (Ad ((ab.block _ (by simp only[aA,Bc];omega)).trans (A4 (Ad (Al (by with_reducible first|exact rfl|exact A6 _ _|exact Be _ _ _) _) _))) _) _|exact(ab.block _ (by simp only[aA,Bc];omega)).trans (A4 (Ad (Ad (Al (by with_reducible first|exact rfl|exact A6 _ _|exact Be _ _ _) _) _) _))|exact Ad ((ab.block _ (by simp only[aA,Bc];omega)).trans (A4 (Ad (Ad (Al (by with_reducible first|exact rfl|exact A6 _ _|exact Be _ _ _) _) _) _))) _|exact Ad (Ad ((ab.block _ (by simp only[aA,Bc];omega)).trans (A4 (Ad (Ad (Al (by with_reducible first|exact rfl|exact A6 _ _|exact Be _ _ _) _) _) _))) _) _)).mono ?_;rintro e w2 ⟨vo,vc,rfl,cs,ac⟩;have az:X Wd.heap.size Wd w2:=Ac (by with_reducible first|exact af|exact Am af _|exact Am (Am af _) _) ac;have cu:An w2 (J ko (ka+kb) kc) (a.K++b.K):=(by with_reducible first|exact bu.below ac|exact(bu.below (Am (aC _ _) _)).below ac|exact(bu.below (Am (Am (aC _ _) _) _)).below ac);(try simp only[aA]at hs2);(first|(have p7:w2.heap[Wd.heap.size]?=H (S #[J D 0 0,J D 0 0] 83):=(by with_reducible first|exact(ac.block _ (by first|omega|(simp only[aA];omega))).trans ((ab.block _ (by simp only[aA,Bc];omega)).trans (A4 (Ad (Al (by with_reducible first|exact rfl|exact A6 _ _|exact Be _ _ _) _) _)))|exact(ac.block _ (by first|omega|(simp only[aA];omega))).trans (Ad ((ab.block _ (by simp only[aA,Bc];omega)).trans (A4 (Ad (Al (by with_reducible first|exact rfl|exact A6 _ _|exact Be _ _ _) _) _))) _)|exact(ac.block _ (by first|omega|(simp only[aA];omega))).trans ((ab.block _ (by simp only[aA,Bc];omega)).trans (A4 (Ad (Ad (Al (by with_reducible first|exact rfl|exact A6 _ _|exact Be _ _ _) _) _) _)))|exact(ac.block _ (by first|omega|(simp only[aA];omega))).trans (Ad ((ab.block _ (by simp only[aA,Bc];omega)).trans (A4 (Ad (Ad (Al (by with_reducible first|exact rfl|exact A6 _ _|exact Be _ _ _) _) _) _))) _));have bh:w2.cell? ⟨Wd.heap.size,0,D⟩=H (J D 0 0):=Aa p7 rfl;have bi:w2.cell? ⟨Wd.heap.size,1,D⟩=H (J D 0 0):=Aa p7 rfl;have bj:w2.frozen? ⟨Wd.heap.size,0,D⟩=aT:=(by simp[aF,p7]);have bl:w2.frozen? ⟨Wd.heap.size,1,D⟩=aT:=(by simp[aF,p7]))|(have p7:w2.heap[Wd.heap.size+1]?=H (S #[J D 0 0,J D 0 0] 83):=(by with_reducible first|exact(ac.block _ (by first|omega|(simp only[aA];omega))).trans ((ab.block _ (by simp only[aA,Bc];omega)).trans (A4 (Al (by with_reducible first|exact rfl|exact A6 _ _|exact Be _ _ _) _)))|exact(ac.block _ (by first|omega|(simp only[aA];omega))).trans (Ad ((ab.block _ (by simp only[aA,Bc];omega)).trans (A4 (Al (by with_reducible first|exact rfl|exact A6 _ _|exact Be _ _ _) _))) _)|exact(ac.block _ (by first|omega|(simp only[aA];omega))).trans ((ab.block _ (by simp only[aA,Bc];omega)).trans (A4 (Ad (Al (by with_reducible first|exact rfl|exact A6 _ _|exact Be _ _ _) _) _)))|exact(ac.block _ (by first|omega|(simp only[aA];omega))).trans (Ad ((ab.block _ (by simp only[aA,Bc];omega)).trans (A4 (Ad (Al (by with_reducible first|exact rfl|exact A6 _ _|exact Be _ _ _) _) _))) _));have bh:w2.cell? ⟨Wd.heap.size+1,0,D⟩=H (J D 0 0):=Aa p7 rfl;have bi:w2.cell? ⟨Wd.heap.size+1,1,D⟩=H (J D 0 0):=Aa p7 rfl;have bj:w2.frozen? ⟨Wd.heap.size+1,0,D⟩=aT:=(by simp[aF,p7]);have bl:w2.frozen? ⟨Wd.heap.size+1,1,D⟩=aT:=(by simp[aF,p7]))|(have p7:w2.heap[Wd.heap.size+1+1]?=H (S #[J D 0 0,J D 0 0] 83):=(by with_reducible first|exact(ac.block _ (by first|omega|(simp only[aA];omega))).trans ((ab.block _ (by simp only[aA,Bc];omega)).trans (A4 (Al (by with_reducible first|exact rfl|exact A6 _ _|exact Be _ _ _) _)))|exact(ac.block _ (by first|omega|(simp only[aA];omega))).trans (Ad ((ab.block _ (by simp only[aA,Bc];omega)).trans (A4 (Al (by with_reducible first|exact rfl|exact A6 _ _|exact Be _ _ _) _))) _));have bh:w2.cell? ⟨Wd.heap.size+1+1,0,D⟩=H (J D 0 0):=Aa p7 rfl;have bi:w2.cell? ⟨Wd.heap.size+1+1,1,D⟩=H (J D 0 0):=Aa p7 rfl;have bj:w2.frozen? ⟨Wd.heap.size+1+1,0,D⟩=aT:=(by simp[aF,p7]);have bl:w2.frozen? ⟨Wd.heap.size+1+1,1,D⟩=aT:=(by simp[aF,p7]))|(have p7:w2.heap[w1.heap.size]?=H (S #[J D 0 0,J D 0 0] 83):=(by with_reducible first|exact(ac.block _ (by first|omega|(simp only[aA];omega))).trans (Al (by with_reducible first|exact rfl|exact A6 _ _|exact Be _ _ _) _)|exact(ac.block _ (by first|omega|(simp only[aA];omega))).trans (Ad (Al (by with_reducible first|exact rfl|exact A6 _ _|exact Be _ _ _) _) _));have bh:w2.cell? ⟨w1.heap.size,0,D⟩=H (J D 0 0):=Aa p7 rfl;have bi:w2.cell? ⟨w1.heap.size,1,D⟩=H (J D 0 0):=Aa p7 rfl;have bj:w2.frozen? ⟨w1.heap.size,0,D⟩=aT:=(by simp[aF,p7]);have bl:w2.frozen? ⟨w1.heap.size,1,D⟩=aT:=(by simp[aF,p7]))|(have p7:w2.heap[w1.heap.size+1]?=H (S #[J D 0 0,J D 0 0] 83):=(by with_reducible first|exact(ac.block _ (by first|omega|(simp only[aA];omega))).trans (Al (by with_reducible first|exact rfl|exact A6 _ _|exact Be _ _ _) _));have bh:w2.cell? ⟨w1.heap.size+1,0,D⟩=H (J D 0 0):=Aa p7 rfl;have bi:w2.cell? ⟨w1.heap.size+1,1,D⟩=H (J D 0 0):=Aa p7 rfl;have bj:w2.frozen? ⟨w1.heap.size+1,0,D⟩=aT:=(by simp[aF,p7]);have bl:w2.frozen? ⟨w1.heap.size+1,1,D⟩=aT:=(by simp[aF,p7]))|skip)))
    all_goals go_wp2_with fail
    all_goals go_meet
    all_goals
     have dt:0<(a.K++b.K).length:=by rw[aX,ce];omega
     have du:0<(a.V++b.V).length:=by rw[aX,aw.out.1];omega
     have dx:=af.size
     first
      |exact⟨_,_,_,_,_,rfl,Axr cu cs az⟩
      |exact⟨_,_,_,_,_,rfl,Axs cu cs dt du az (by omega) p7⟩
   case rest=>
    obtain⟨pc,ko,kc,vo,vc,rfl,bw,cx,cy,bm⟩:=hcut;have cz:X w.heap.size w wc:=ad.trans (bm.mono ad.size);have dy:wc.cell? ⟨pc,0,D⟩=H (J ko (ka+kb) kc):=Aa bw rfl;have dz:wc.cell? ⟨pc,1,D⟩=H (J vo (ka+kb) vc):=Aa bw rfl;have ea:wc.cell? ⟨w.heap.size,0,D⟩=H (J (H ⟨bb,aa,D⟩) n cap):=(bm.cell (p:=⟨w.heap.size,0,D⟩) dq).trans ct;have dv:=(bm.block _ cn).trans cr;have da:=aB cn bm.size;obtain⟨W5,bx⟩:∃W5,wc.alloc (S #[J ko (ka+kb) kc,J vo (ka+kb) vc] 83)=W5:=⟨_,rfl⟩;have ba:X wc.heap.size wc W5:=by rw[←bx];exact Am (aC _ _) _
    have b5:W5.heap[wc.heap.size]?=H (S #[J ko (ka+kb) kc,J vo (ka+kb) vc] 83):=by rw[←bx];exact Ab wc _
    have bz:X w.heap.size w W5:=cz.trans (ba.mono cz.size);have ca:=Kx A [a,b] B [⟨a.K++b.K,a.V++b.V⟩] _ (J (H ⟨wc.heap.size,0,D⟩) 1 1) (x+2) W5 (cb.below bz) (Pu b5 (cx.below ba) (cy.below ba) (by decide) (by decide)) (by simp) (by rw[cd];rfl) (by simp only[cS,List.length_nil];simp only[aX,cS]at dk;omega);rw[cd]at ca;generalize db:A++[⟨a.K++b.K,a.V++b.V⟩]++B=R at ca;have i6:IntKind.i64.wrap ((x:Int)+2)=((x+2:Nat):Int):=by rw[bE];omega
    have dc:=hid db;clear ck cv ae bf bg ch cj cl cm ct cr dn dp cx cy bw db cb;subst bx;go_wp2_with(go_at_call 185;go_must(refine ca.mono ?_;rintro e w6 ⟨bn,rfl,⟨eb,rfl,hP⟩,dd⟩;obtain⟨ao,cc,rfl⟩:=hP.shape;have r6:=(dd.block _ (aB da ba.size)).trans ((ba.block _ da).trans dv);have q6:w6.cell? ⟨w.heap.size+1,0,D⟩=H (J D 0 0):=Aa r6 rfl;have f6:w6.frozen? ⟨w.heap.size+1,0,D⟩=aT:=(by simp[aF,r6])));refine aI (v:=bF #[J ao R.length cc]) (by simp[aS,cV,go_sem, *]) rfl ?_;have hz:X w.heap.size w w6:=bz.trans (dd.mono bz.size);refine⟨_,rfl,?_,hz.setCell (by simp) _⟩
    first|rw[if_pos cq]|skip
    have hR:A++⟨a.K++b.K,a.V++b.V⟩::B=R:=by rw[←dc.out];simp
    first|rw[dc.out]|rw[hR]
    exact⟨_,rfl,Gy hP r6 _⟩
  ·have j0:¬((ka:Int)+(kb:Int)≤4):=by omega
   have j1:(4:Int)<(ka:Int)+(kb:Int):=by omega
   go_wp2;refine aI (v:=bF #[J (H ⟨bb,aa,D⟩) n cap]) (by simp[aS,cV,go_sem, *]) rfl ?_;refine⟨_,rfl,?_,ad.setCell (by simp) _⟩
   first|rw[if_neg cq]|skip
   exact⟨_,rfl,Gy (HS.out.below ad) cr _⟩
def Ake (w w':bA)(e:Ending)(T:List Pg):Prop:=
 ∃tv' T',e=aH tv'∧Bi w' tv' T'∧X w.heap.size w w'∧(∀p∈T',p.ok)∧flat T'=flat T∧T'.length≤T.length
theorem Ac1 (T)(tv)(i)(w)(h:Bi w tv T)(aa:∀p∈T,p.ok)(ac:-1≤i)(hi:i≤4611686018427387904)(hn:T.length*48≤140737488355328):
  aP aG 247 #[tv,U aJ i] w fun e w'=>Ake w w' e T:=by
 by_cases ad:i<0∨(T.length:Int)≤i+1
 ·refine(Arc T tv i w h ad ac hi).mono ?_;rintro e w' ⟨ab,he,ht,hb⟩;exact⟨ab,T,he,ht,hb,aa,rfl,aD _⟩
 ·obtain⟨k,rfl⟩:∃k:Nat,i=k:=⟨i.toNat,by omega⟩;obtain⟨a,ha⟩:∃a,T[k]?=H a:=⟨_,aN (by omega)⟩;obtain⟨b,hb⟩:∃b,T[k+1]?=H b:=⟨_,aN (by omega)⟩;have hT:=Agj ha hb;have hl:(T.take k).length=k:=by rw[List.length_take];omega
  generalize T.take k=A at hT hl;generalize T.drop _=B at hT;subst hT;subst hl;have oa:=aa a (by simp);have ob:=aa b (by simp);refine(Ard A B a b tv w h oa ob hn).mono ?_;rintro e w' ⟨ab,he,ht,ae⟩;refine⟨ab,_,he,ht,ae,?_⟩;split
  ·rename_i h4;refine⟨?_,?_,?_⟩
   ·intro q hq;simp only[bI,bL,bY,or_false]at hq;rcases hq with(hq|rfl)|hq
    ·grind
    ·refine⟨?_,?_,?_⟩
     ·have:=oa.1;grind
     ·grind
     ·simp only[aX,oa.2.2,ob.2.2]
    grind
   ·rw[Bg,Bg,Bg,E6,E6,E6,Rr];simp only;rw[aZ oa.2.2.symm];simp
   simp
  grind
theorem Ank (T)(tv)(k)(pg pl)(w)(h:Bi w tv T)(hg:As T)(fi:Ua T k pg pl aT):
  aP aG 191 #[tv,O k] w fun e w'=>∃ah,e=aH ah∧Bi w' ah T∧X w.heap.size w w':=by
 have gc:=fun W hW=>I3 T tv W (h.below hW) hg
 have fc:=fun W hW=>fi tv W (h.below hW)
 obtain⟨sv,rfl,hs⟩:=h;obtain⟨so,aa,rfl⟩:=hs.shape;have HS:=hid hs;clear hs hg fi;generalize T.length=n at*;generalize ab:(w.alloc (S #[J so n aa] 44)).alloc (S #[J D 0 0] 44)=W0;have ac:X w.heap.size w W0:=by rw[←ab];exact((aC _ w).alloc (aD _) _).alloc (by simp) _
 have aj:W0.heap.size=w.heap.size+1+1:=by rw[←ab];simp
 have b0:W0.heap[w.heap.size]?=H (S #[J so n aa] 44):=by rw[←ab];exact Ad (Ab w _) _
 have r0:W0.heap[w.heap.size+1]?=H (S #[J D 0 0] 44):=by rw[←ab];exact Al (A6 _ _) _
 have ak:=Aa b0 (j:=0) rfl;have hA:w.heap.size<W0.heap.size:=by omega
 have ai:w.heap.size+1<W0.heap.size:=by omega
 have g0:=gc _ ac;go_enter Tryz.func191,Tryz.ntmps191;go_wp2_with(first
  |(go_fit g0;rintro e w1 ⟨rfl,ad⟩;have ae:=(ad.block _ hA).trans b0;have al:w1.cell? ⟨_,0,D⟩=H (J so n aa):=Aa ae rfl;have r1:=(ad.block _ ai).trans r0;have af:=ac.trans (ad.mono ac.size))
  |(go_fit(fc _ af);rintro e w2 ⟨rfl,ag⟩;have am:w2.cell? ⟨_,0,D⟩=H (J so n aa):=Aa ((ag.block _ (aL ae)).trans ae) rfl;have r2:=(ag.block _ (aL r1)).trans r1;have q2:w2.cell? ⟨_,0,D⟩=H (J D 0 0):=Aa r2 rfl;have f2:w2.frozen? ⟨w.heap.size+1,0,D⟩=aT:=(by simp[aF,r2])))
 refine aI (v:=bF #[J so n aa]) (by simp[aS,go_sem, *]) rfl ?_;have hz:=af.trans (ag.mono af.size);exact⟨_,rfl,⟨_,rfl,Gy (HS.out.below hz) r2 _⟩,hz.setCell (by simp) _⟩
end
end Go.Proofs.YtjapkoofjlmdgaaGreatDoor
