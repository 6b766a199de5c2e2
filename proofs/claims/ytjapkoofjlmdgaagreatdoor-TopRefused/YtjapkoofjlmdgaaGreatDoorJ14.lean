/-
  17 texts of this proof in one,in build order:SRx,SExp,SExp2,SElem,SList,SBr,SStm1,SRq,SRun,SQry,SScript,SScript3,GParse,GAll0,GAll,GDo0,GDo.
-/
import Derived.Deep.MidRow
import Derived.Deep.LoopGhost
import Derived.Deep.RegionWith
import Derived.Maps.AppendAt
import Derived.OwnWalk
import Derived.Deep.CutRange
import Derived.Deep.QuietTactic
import Derived.BigQuiet
import Derived.Test.YtjapkoofjlmdgaaGreatDoorJ01
import Derived.Test.YtjapkoofjlmdgaaGreatDoorJ02
import Derived.Test.YtjapkoofjlmdgaaGreatDoorJ13
set_option linter.unusedSimpArgs false
set_option linter.unusedVariables false
set_option maxRecDepth 100000
set_option maxHeartbeats 0
open Go.Value renaming agg→aW,bool→bD,int→D,oneCell'→aY,pointer→aJ,slice→J,string→U
open Go.IntKind renaming i64→G
open Go.Proofs.Tryz renaming prog→aE,results11→aV,results218→bG,results26→aU,results279→cI,results325→aX,results361→cH,results6→aQ,underlying32→aA,underlying46→cD,underlying69→bK,underlying71→aZ
open Go renaming Calls→bF,FuncId→bU,TypeId→bC,Value→aR,World→aN,bodyPost_ret→aI,lt_of_block→aG,maxLen→bI,results_cell_row→aF,undef→bM,wpList→aT,wpList_append_own_at→cG,wpList_load_row→aL,wpList_store_row→aB
open Option renaming none→O,some→aH
open Go.Obj renaming cells→aC
open Nat renaming le_of_lt→bL,le_refl→aD,le_trans→aP,lt_of_lt_of_le→bE
open List renaming forall_mem_cons→bW,headD_cons→cJ,length_append→aK,length_cons→aM,mem_cons_of_mem→bV,mem_singleton→cB,not_mem_nil→cF,setIfInBounds_toArray→bO,set_cons_succ→cA,set_cons_zero→bY,size_toArray→cE
open Go.RowKit.Below renaming refl→aO
open Go.Ending renaming returned→aS
open Bool renaming false→bH,true→bN
open Go.World renaming setRow→bJ,size_alloc→cC
open Array renaming getElem?_eq_getElem→bP,getElem?_modify→bS
namespace Go.Proofs.YtjapkoofjlmdgaaGreatDoor
section
open Go.RowKit
def E1 (g:bU)(p:St→E×St)(d:Int):Prop:=∀(a:Nat) (s:St) (w:aN),Rd w a s d→Env w→8≤a→
 bF aE g #[aJ (aH ⟨a,0,O⟩)] w fun e w'=>∃v,e=aS v∧IsE (Fr w.heap.size) w' (p s).1 v∧Rd w' a (p s).2 d∧But a w w'
def H9 (g:bU){α:Type}(K:Elem α)(val:List aR→aR)(p:St→α×St)(d:Int):Prop:=∀(a:Nat) (s:St) (w:aN),Rd w a s d→Env w→8≤a→
 bF aE g #[aJ (aH ⟨a,0,O⟩)] w fun e w'=>∃c,e=aS (val c)∧K.R (Fr w.heap.size) w' (p s).1 c∧Rd w' a (p s).2 d∧But a w w'
def Z1 (g:bU)(p:St→E×St)(d:Int):Prop:=∀(a:Nat) (s:St) (w:aN),Rd w a s d→Env w→8≤a→
 bF aE 279 #[aJ (aH ⟨a,0,O⟩),.func (.func g) #[aJ (aH ⟨a,0,O⟩)] #[]] w fun e w'=>∃v,e=aS v∧IsE (Fr w.heap.size) w' (p s).1 v∧Rd w' a (p s).2 d∧But a w w'
abbrev E3:Array aR:=#[D G 0,D G 0,D G 0,U noW,U noW,U noW,D G 0,J O 0 0]
theorem Z2 {w:aN}{b:Nat}{aa:Array aR}{t:bC}(h:w.heap[b]?=aH (aC aa t)){v0 v1 v2 v3 v4 v5 v6 v7:aR}(ha:aa=#[v0,v1,v2,v3,v4,v5,v6,v7]):
  w.cell? ⟨b,0,O⟩=aH v0∧w.cell? ⟨b,1,O⟩=aH v1∧w.cell? ⟨b,2,O⟩=aH v2∧w.cell? ⟨b,3,O⟩=aH v3∧w.cell? ⟨b,4,O⟩=aH v4∧w.cell? ⟨b,5,O⟩=aH v5∧w.cell? ⟨b,6,O⟩=aH v6∧w.cell? ⟨b,7,O⟩=aH v7:=by
 subst ha;exact⟨Aa h rfl,Aa h rfl,Aa h rfl,Aa h rfl,Aa h rfl,Aa h rfl,Aa h rfl,Aa h rfl⟩
theorem P9 {w:aN}{b:Nat}{x:Obj}(h:w.heap[b]?=aH x){a:Nat}(hn:b≠a)(o:Nat)(u:aR):(w.setCell ⟨a,o,O⟩ u).heap[b]?=aH x:=(Below.heap_setCell w ⟨a,o,O⟩ u b hn).trans h
theorem But.row {a:Nat}{w w':aN}(h:But a w w'){b:Nat}(hb:w.heap.size≤b)(cells:Array aR):But a w (w'.setRow b cells):=
 ⟨h.os,h.tape,h.output,by simp[bJ];exact h.size,fun k hk hn=>by
  have:=h.block k hk hn;simp only[bJ,bS];rw[if_neg (by omega)];exact this⟩
theorem Rd.row {w:aN}{a:Nat}{s:St}{d:Int}(h:Rd w a s d){b:Nat}(hb:b≠a)(cells:Array aR):Rd (w.setRow b cells) a s d:=by
 obtain⟨x,r,v,h1,h2⟩:=h;exact⟨x,r,v,By h1 (fun e=>hb e.symm) cells,h2⟩
theorem Fd (a:Nat)(k:Wd)(s:St)(d:Int)(w:aN)(h:Rd w a s d)(hk:0<k.size)(m:Nat)(hm:w.heap.size=m):
  bF aE 27 #[aJ (aH ⟨a,0,O⟩),J (aH ⟨m,0,O⟩) 1 1] (w.alloc (aC #[U k] 9)) fun e w'=>e=aS (.tuple #[])∧Rd w' a (Ce k s) d∧But a w w':=by
 have hl:=h.lt;subst hm;refine(Azn a w.heap.size 1 k s d _ (h.below ((aO _ _).alloc (aD _) _)) hk (by omega) (Aa (Ab w _) rfl)).mono fun e w' hx=>?_
 exact⟨hx.1,hx.2.1,((But.refl a w).alloc _).trans hx.2.2⟩
theorem Rd.depth {w:aN}{a:Nat}{s:St}{d:Int}(h:Rd w a s d):w.cell? ⟨a,2,O⟩=aH (D G d)∧w.frozen? ⟨a,2,O⟩=bH:=by
 obtain⟨x,r,b,h1,_⟩:=h;exact⟨h1.cells.2.2.1,h1.frozen 2⟩
theorem Rd.set2 {w:aN}{a:Nat}{s:St}{d:Int}(h:Rd w a s d)(x:Int):Rd (w.setCell ⟨a,2,O⟩ (D G x)) a s x:=by
 obtain⟨y,r,b,h1,h2⟩:=h;exact⟨y,r,b,h1.set2 x,h2⟩
structure Rowed {α:Type}(K:Elem α) (T:bC) (z:Array aR):Prop where
 info:(Tryz.prog.info? T).map (·.size)=aH z.size
 und:∃d,Tryz.prog.underlying T=aH d∧(match d with|.struct _|.array _ _=>bN|_=>bH)=bN
 one:∀{F w x c},K.R F w x c→c.toArray.all (·.oneCell')=bN∧c.toArray.size=z.size
theorem Aeu:Rowed Az 69 E3:=
 ⟨by kernel_rfl,⟨_,bK,rfl⟩,fun h=>by obtain⟨_,_,_,_,_,_,_,_,_,_,rfl⟩:=Fh h;exact⟨by simp[aY],rfl⟩⟩
theorem Ah9:Rowed E8 133 #[U noW,D G 0,D G 0,D G 0,U noW,U noW,U noW,D G 0,J O 0 0]:=
 ⟨by kernel_rfl,⟨_,Tryz.underlying133,rfl⟩,fun h=>by obtain⟨_,_,_,_,_,_,_,_,_,_,_,rfl⟩:=Sw h;exact⟨by simp[aY],rfl⟩⟩
theorem Aia:Rowed Cp 76 #[U noW,D G 0,bD bH]:=
 ⟨by kernel_rfl,⟨_,Tryz.underlying76,rfl⟩,fun h=>by obtain⟨_,_,_,rfl⟩:=Xo h;exact⟨by simp[aY],rfl⟩⟩
theorem Bw:Rowed I6 71 Bq:=
 ⟨by kernel_rfl,⟨_,aZ,rfl⟩,fun h=>by
  obtain⟨_,_,_,_,_,_,_,_,_,_,_,_,_,_,_,_,_,_,_,_,_,_,rfl,_⟩:=Ba h;exact⟨Pv (B7 _ _ _) (B7 _ _ _) (B7 _ _ _) (B7 _ _ _) (B7 _ _ _) (B7 _ _ _) (B7 _ _ _),rfl⟩⟩
structure RmSt (T:bC) (z:Array aR) (a:Nat) (w W:aN) (s:St) (d:Int):Prop where
 room:W.heap[w.heap.size]?=aH (aC z T)
 but:But a w W
 rd:Rd W a s d
 lt:a<w.heap.size
structure RmEnd {α:Type}(K:Elem α) (T:bC) (a:Nat) (w X:aN) (s:St) (d:Int) (x:α) (c:List aR):Prop where
 room:X.heap[w.heap.size]?=aH (aC c.toArray T)
 is:K.R (Fr w.heap.size) X x c
 rd:Rd X a s d
 but:But a w X
structure VrSt (T:bC) (z:Array aR) (a L:Nat) (w W:aN) (s:St) (d:Int) (e:E):Prop where
 rm:RmSt T z a w W s d
 var:∃c,W.heap[L]?=aH (aC c 69)∧IsE (fun k=>w.heap.size<k∧k≠L) W e (aW c)
 lt:w.heap.size<L
section
variable {α:Type}{K:Elem α}{T:bC}{z:Array aR}{a L:Nat}{w W W':aN}{s s':St}{d:Int}{ops:Array Oper}{rest:List Oper}{o o':Oper}{act:Act}{Q:Exit→Act→aN→Prop}{x y x' y':Operand}{e:E}{q:α}{c:List aR}
theorem Do (h:Rd w a s d):RmSt T z a w (w.alloc (aC z T)) s d:=
 have hb:=(aO _ w).alloc (aD _) (aC z T)
 ⟨Ab w _,.of_below hb,h.below hb,h.lt⟩
theorem RmSt.call (h:RmSt T z a w W s d)(hb:But a W W')(hr:Rd W' a s' d):RmSt T z a w W' s' d:=⟨Jw hb h.room (by have:=h.lt;omega),h.but.trans hb,hr,h.lt⟩
theorem RmSt.below (h:RmSt T z a w W s d)(hb:Below W.heap.size W W'):RmSt T z a w W' s d:=h.call (.of_below hb) (h.rd.below hb)
theorem RmSt.env (h:RmSt T z a w W s d)(he:Env w)(ha:8≤a):Env W:=he.but h.but ha
theorem RmSt.new (h:RmSt T z a w W s d):∀k,Fr W.heap.size k→w.heap.size<k:=fun k hk=>bE (aG h.room) hk
theorem RmSt.put (h:RmSt T z a w W s d)(R:Rowed K T z){F:Nat→Prop}(hR:K.R F W q c)(hF:∀k,F k→w.heap.size<k)
  (g:∀X,RmEnd K T a w X s d q c→aT aE ops Q rest (act.put o.dst bM) X)
  (aa:o.guard=O:=by rfl) (ho:o.op=.store T x y:=by rfl) (hx:act.eval x=aJ (aH ⟨w.heap.size,0,O⟩):=by rfl) (hy:act.eval y=aW c.toArray:=by rfl):aT aE ops Q (o::rest) act W:=by
 have hc:=R.one hR;refine aB aa _ x y ho _ _ hx hy _ _ h.room (by rw[hc.2];exact R.info) hc.2.symm hc.1 (g _ ⟨Ao h.room,?_,h.rd.row (by have:=h.lt;omega) _,h.but.row (aD _) _⟩);exact K.mono (fun k _ hk=>bL (hF k hk)) (K.keep ((Keeps.refl _ _).row (fun hk=>Nat.lt_irrefl _ (hF _ hk)) _) hR)
theorem RmSt.putE (h:RmSt 69 E3 a w W s d){F:Nat→Prop}{v:aR}(hR:IsE F W e v)(hF:∀k,F k→w.heap.size<k)
  (g:∀X c,RmEnd Az 69 a w X s d e c→aT aE ops Q rest (act.put o.dst bM) X)
  (aa:o.guard=O:=by rfl) (ho:o.op=.store 69 x y:=by rfl) (hx:act.eval x=aJ (aH ⟨w.heap.size,0,O⟩):=by rfl) (hy:act.eval y=v:=by rfl):aT aE ops Q (o::rest) act W:=by
 obtain⟨op,x,xs,nm,n,ao,k,cc,rfl⟩:=hR.shape;exact h.put Aeu (c:=(Af op x xs nm n (J ao k cc)).toList) ⟨rfl,hR⟩ hF (g · _) aa ho hx hy
theorem RmEnd.fin (h:RmEnd K T a w W s d q c)(R:Rowed K T z){fn:Func}{p:Tmp}(hr:fn.results=#[.cell p T])(hp:act.tmps.getD p bM=aJ (aH ⟨w.heap.size,0,O⟩):=by rfl)(hd:act.defers=[]:=by rfl):
  bodyPost aE fn (fun e w'=>∃c,e=aS (I5 c)∧K.R (Fr w.heap.size) w' q c∧Rd w' a s d∧But a w w') .ret act W:=by
 obtain⟨b,hu,hb⟩:=R.und;exact aI (aF hr _ _ _ _ _ _ _ hp h.room hu (by cases b<;>first|rfl|exact hb) (by rw[(R.one h.is).2];exact R.info)) hd ⟨c,rfl,h.is,h.rd,h.but⟩
theorem RmEnd.finE (h:RmEnd Az 69 a w W s d e c){fn:Func}{p:Tmp}(hr:fn.results=#[.cell p 69])(hp:act.tmps.getD p bM=aJ (aH ⟨w.heap.size,0,O⟩):=by rfl)(hd:act.defers=[]:=by rfl):
  bodyPost aE fn (fun r w'=>∃v,r=aS v∧IsE (Fr w.heap.size) w' e v∧Rd w' a s d∧But a w w') .ret act W:=
 aI (aF hr _ _ _ _ _ _ _ hp h.room bK rfl (by rw[(Aeu.one h.is).2];exact Aeu.info)) hd ⟨_,rfl,h.is.2,h.rd,h.but⟩
theorem RmSt.var (h:RmSt T z a w W s d){F:Nat→Prop}{v:aR}(hR:IsE F W e v)(hF:∀k,F k→w.heap.size<k)
  (g:∀X,VrSt T z a W.heap.size w X s d e→aT aE ops Q rest (act.put o.dst bM) X)
  (aa:o.guard=O:=by rfl) (ho:o.op=.store 69 x y:=by rfl) (hx:act.eval x=aJ (aH ⟨W.heap.size,0,O⟩):=by rfl) (hy:act.eval y=v:=by rfl):aT aE ops Q (o::rest) act (W.alloc (aC E3 69)):=by
 obtain⟨op,x',xs,nm,n,ao,k,cc,rfl⟩:=hR.shape;have hb:=(aO _ W).alloc (aD _) (aC E3 69);have hl:=aG h.room;have ab:=h.lt;have hL:=h.below hb;refine aB aa _ x y ho _ _ hx hy _ _ (Ab W _) Aeu.info rfl (by simp[aY]) (g _ ⟨⟨By hL.room (by omega) _,hL.but.row (by omega) _,hL.rd.row (by omega) _,h.lt⟩,⟨_,Ao (Ab W _),?_⟩,hl⟩);exact IsE.keep (((Ak hb)).row (fun hk=>hk.2 rfl) _) _ _ (IsE.mono (fun k hk hf=>⟨hF k hf,Nat.ne_of_lt hk⟩) _ _ hR)
theorem VrSt.call (h:VrSt T z a L w W s d e)(hb:But a W W')(hr:Rd W' a s' d):VrSt T z a L w W' s' d e:=by
 obtain⟨c,h1,h2⟩:=h.var;have:=h.rm.lt;have:=h.lt;exact⟨h.rm.call hb hr,⟨c,Jw hb h1 (by omega),IsE.keep (hb.keeps fun hk=>by have:=hk.1;omega) _ _ h2⟩,h.lt⟩
theorem VrSt.below (h:VrSt T z a L w W s d e)(hb:Below W.heap.size W W'):VrSt T z a L w W' s d e:=h.call (.of_below hb) (h.rm.rd.below hb)
theorem VrSt.alloc (h:VrSt T z a L w W s d e)(x:Obj):VrSt T z a L w (W.alloc x) s d e:=h.below ((aO _ _).alloc (aD _) x)
theorem VrSt.le (h:VrSt T z a L w W s d e):L<W.heap.size:=by obtain⟨c,h1,_⟩:=h.var;exact aG h1
theorem VrSt.load (h:VrSt T z a L w W s d e)(g:∀op x xs nm n ao k cc,IsE (fun k=>w.heap.size<k∧k≠L) W e (aW (Af op x xs nm n (J ao k cc)))→aT aE ops Q rest (act.put o.dst (aW (Af op x xs nm n (J ao k cc)))) W)
  (aa:o.guard=O:=by rfl) (ho:o.op=.load 69 x:=by rfl) (hx:act.eval x=aJ (aH ⟨L,0,O⟩):=by rfl):aT aE ops Q (o::rest) act W:=by
 obtain⟨c,h1,h2⟩:=h.var;obtain⟨op,x',xs,nm,n,ao,k,cc,he⟩:=h2.shape;cases he;exact aL aa _ x ho L hx _ _ _ _ h1 bK rfl Aeu.info (g _ _ _ _ _ _ _ _ h2)
theorem VrSt.lds (h:VrSt 69 E3 a L w W s d e)(g:∀X c,RmEnd Az 69 a w X s d e c→aT aE ops Q rest ((act.put o.dst (aW c.toArray)).put o'.dst bM) X)
  (aa:o.guard=O:=by rfl) (ho:o.op=.load 69 x:=by rfl) (hx:act.eval x=aJ (aH ⟨L,0,O⟩):=by rfl)
  (ab:o'.guard=O:=by rfl) (ac:o'.op=.store 69 x' y':=by rfl) (ad:∀v,(act.put o.dst v).eval x'=aJ (aH ⟨w.heap.size,0,O⟩):=by intro v;rfl) (ae:∀v,(act.put o.dst v).eval y'=v:=by intro v;rfl):aT aE ops Q (o::o'::rest) act W:=by
 refine h.load (fun op x xs nm n ao k cc hE=>?_) aa ho hx;exact h.rm.put Aeu (c:=(Af op x xs nm n (J ao k cc)).toList) ⟨rfl,hE⟩ (fun k hk=>hk.1) (fun X hX=>g X _ hX) ab ac (ad _) (ae _)
end
abbrev set8 (w:aN)(b:Nat)(v0 v1 v2 v3 v4 v5 v6 v7:aR):aN:=
 (((((((w.setCell ⟨b,0,O⟩ v0).setCell ⟨b,1,O⟩ v1).setCell ⟨b,2,O⟩ v2).setCell ⟨b,3,O⟩ v3).setCell ⟨b,4,O⟩ v4).setCell ⟨b,5,O⟩ v5).setCell ⟨b,6,O⟩ v6).setCell ⟨b,7,O⟩ v7
theorem Amv {P:aN→Prop}{L:Nat}(hP:∀W i v,P W→P (W.setCell ⟨L,i,O⟩ v)){W:aN}(h:P W)(v0 v1 v2 v3 v4 v5 v6 v7:aR):P (set8 W L v0 v1 v2 v3 v4 v5 v6 v7):=
 hP _ _ _ (hP _ _ _ (hP _ _ _ (hP _ _ _ (hP _ _ _ (hP _ _ _ (hP _ _ _ (hP _ _ _ h)))))))
theorem Aev {w:aN}{b:Nat}{t:bC}{op aa:Int}{x x':V}{s s' nm ab:Wd}{n n':Int}{sl ac:aR}(h:w.heap[b]?=aH (aC (Af op x s nm n sl) t)):
  (set8 w b (D G aa) (D G x'.k) (D G x'.n) (U x'.s) (U s') (U ab) (D G n') ac).heap[b]?=aH (aC (Af aa x' s' ab n' ac) t):=by
 have g:=upd (upd (upd (upd (upd (upd (upd (upd h 0 (D G aa)) 1 (D G x'.k)) 2 (D G x'.n)) 3 (U x'.s)) 4 (U s')) 5 (U ab)) 6 (D G n')) 7 ac;simp only[bO,cA,bY]at g;exact g
section
variable {T:bC}{z:Array aR}{a L:Nat}{w W:aN}{s:St}{d:Int}{e e':E}{op:Int}{x:V}{s1 nm:Wd}{n:Int}{sl:aR}
theorem RmSt.dep (h:RmSt T z a w W s d)(d':Int):RmSt T z a w (W.setCell ⟨a,2,O⟩ (D G d')) s d':=⟨P9 h.room (by have:=h.lt;omega) _ _,h.but.set _ _,h.rd.set2 d',h.lt⟩
theorem RmSt.drew (h:RmSt T z a w W s d):RmSt T z a w W.drew s d:=⟨h.room,h.but.drew,h.rd.drew,h.lt⟩
theorem VrSt.drew (h:VrSt T z a L w W s d e):VrSt T z a L w W.drew s d e:=by
 obtain⟨c,h1,h2⟩:=h.var;exact⟨h.rm.drew,⟨c,h1,IsE.keep (Keeps.refl _ _).drew _ _ h2⟩,h.lt⟩
theorem VrSt.dep (h:VrSt T z a L w W s d e)(d':Int):VrSt T z a L w (W.setCell ⟨a,2,O⟩ (D G d')) s d' e:=by
 obtain⟨c,h1,h2⟩:=h.var;have:=h.rm.lt;have:=h.lt;exact⟨h.rm.dep d',⟨c,P9 h1 (by omega) _ _,IsE.keep ((Keeps.refl _ _).set (fun hk=>by have:=hk.1;omega) _ _) _ _ h2⟩,h.lt⟩
theorem VrSt.set8 (h:VrSt T z a L w W s d e)(hE:IsE (fun k=>w.heap.size<k∧k≠L) W e' (aW (Af op x s1 nm n sl))):
  VrSt T z a L w (set8 W L (D G op) (D G x.k) (D G x.n) (U x.s) (U s1) (U nm) (D G n) sl) s d e':=by
 obtain⟨c,h1,h2⟩:=h.var;obtain⟨_,_,_,_,_,_,_,_,he⟩:=h2.shape;cases he;have:=h.rm.lt;have:=h.lt;have g:=Amv (P:=fun X=>X.heap[w.heap.size]?=aH (aC z T)∧But a w X∧Rd X a s d∧Keeps (fun k=>w.heap.size<k∧k≠L) W X) (L:=L) (fun X i u ⟨p1,p2,p3,p4⟩=>⟨P9 p1 (by omega) _ _,p2.new (by omega) _ _,p3.other (by omega) _ _,p4.set (fun hk=>hk.2 rfl) _ _⟩) ⟨h.rm.room,h.rm.but,h.rm.rd,Keeps.refl _ _⟩ (D G op) (D G x.k) (D G x.n) (U x.s) (U s1) (U nm) (D G n) sl;exact⟨⟨g.1,g.2.1,g.2.2.1,h.rm.lt⟩,⟨_,Aev h1,IsE.keep g.2.2.2 _ _ hE⟩,h.lt⟩
theorem RmSt.set8 (h:RmSt 69 E3 a w W s d){F:Nat→Prop}(hE:IsE F W e (aW (Af op x s1 nm n sl)))(hF:∀k,F k→w.heap.size<k):
  ∃c,RmEnd Az 69 a w (set8 W w.heap.size (D G op) (D G x.k) (D G x.n) (U x.s) (U s1) (U nm) (D G n) sl) s d e c:=by
 have:=h.lt;have g:=Amv (P:=fun X=>But a w X∧Rd X a s d∧Keeps F W X) (L:=w.heap.size) (fun X i u ⟨p2,p3,p4⟩=>⟨p2.new (by omega) _ _,p3.other (by omega) _ _,p4.set (fun hk=>Nat.lt_irrefl _ (hF _ hk)) _ _⟩) ⟨h.but,h.rd,Keeps.refl _ _⟩ (D G op) (D G x.k) (D G x.n) (U x.s) (U s1) (U nm) (D G n) sl;exact⟨(Af op x s1 nm n sl).toList,Aev (x:=zero) h.room,⟨rfl,IsE.mono (fun k _ hk=>bL (hF k hk)) _ _ (IsE.keep g.2.2 _ _ hE)⟩,g.2.1,g.1⟩
theorem VrSt.cells (h:VrSt T z a L w W s d e):∃op x s1 nm n ao k c,W.heap[L]?=aH (aC (Af op x s1 nm n (J ao k c)) 69)∧IsE (fun k=>w.heap.size<k∧k≠L) W e (aW (Af op x s1 nm n (J ao k c))):=by
 obtain⟨c,h1,h2⟩:=h.var;obtain⟨_,_,_,_,_,_,_,_,he⟩:=h2.shape;cases he;exact⟨_,_,_,_,_,_,_,_,h1,h2⟩
end
set_option maxHeartbeats 8000000
set_option maxRecDepth 100000
theorem Amw (a:Nat)(k:Wd)(s:St)(d:Int)(w:aN)(h:Rd w a s d)(hk:0<k.size)(hn:(Ag k s).1=bH):
  bF aE 40 #[aJ (aH ⟨a,0,O⟩),U k] w fun e w'=>e=aS (bD bH)∧Rd w' a s d∧But a w w':=by
 refine(C6 a k s d w h hk).mono fun e w' hx=>?_
 rw[hn,Bo hn]at hx;exact hx
theorem Amx (a:Nat)(k:Wd)(s:St)(d:Int)(w:aN)(h:Rd w a s d)(hk:0<k.size)(hn:(Ag k s).1=bN):
  bF aE 40 #[aJ (aH ⟨a,0,O⟩),U k] w fun e w'=>e=aS (bD bN)∧Rd w' a (Ag k s).2 d∧But a w w':=by
 refine(C6 a k s d w h hk).mono fun e w' hx=>?_
 rw[hn]at hx;exact hx
theorem Aji (s:St):0≤(Cy s).1∧(Cy s).1≤1000000:=by
 unfold Cy;split
 ·split
  ·rename_i w l n hn;simp only;rw[Kn]at hn;split at hn
   ·rename_i c;cases hn;simp only[Bool.and_eq_true,decide_eq_true_eq]at c;omega
   ·cases hn
  ·simp
 ·simp
theorem A11 (d:Int):E1 361 Vi d:=by
 intro a s w h _ _;generalize e1:Vi s=q;go_enter Tryz.func361,Tryz.ntmps361;go_wp2_with fail;have M:=Do (T:=69) (z:=E3) h;generalize w.alloc (aC E3 69)=W at M⊢;go_fit(Gm a _ d _ M.rd);rintro e v ⟨rfl,hr,hb⟩;replace M:=M.call hb hr;go_wp2_with fail;go_fit(C6 a Kz _ d _ M.rd (by decide));rintro e v ⟨rfl,hr,hb⟩;replace M:=M.call hb hr;cases h1:(Ag Kz (Bm s).2).1
 ·go_wp2_with(refine M.putE (Apm (fun _=>False) _ _ _) nofun fun X c H=>?_);obtain rfl:(Tk noW (Bm s).1,(Ag Kz (Bm s).2).2)=q:=by rw[←e1,Vi,h1];rfl
  exact H.finE cH
 ·go_wp2_with fail;go_fit(Gm a _ d _ M.rd);rintro e v ⟨rfl,hr,hb⟩;replace M:=M.call hb hr;go_wp2_with(refine M.putE (Apm (fun _=>False) _ _ _) nofun fun X c H=>?_);obtain rfl:(Tk (Bm s).1 (Bm (Ag Kz (Bm s).2).2).1,(Bm (Ag Kz (Bm s).2).2).2)=q:=by rw[←e1,Vi,h1];rfl
  exact H.finE cH
theorem Aew {F:bU}:Z1 F Of 5:=by
 intro a s w h _ _;go_enter Tryz.func279,Tryz.ntmps279;go_upto_region 1 with fail;have M:=Do (T:=69) (z:=E3) h;generalize w.alloc (aC E3 69)=W at M⊢;obtain⟨k1,k2⟩:=M.rd.depth;go_wp2_with fail;go_fit(Wi a s 5 _ M.rd);rintro e v ⟨rfl,hr,hb⟩;go_wp2_with(refine(M.call hb hr).putE (Zi (fun _=>False) _) nofun fun X c H=>?_);exact H.finE cI
theorem Aib {F:bU}(aa:∀args w,(callFunc F args).run aE w=.ok (.enter F args) w)(p:St→E×St)(d:Int)(h0:0≤d)(h5:d<5)(hp:E1 F p (d+1)):Z1 F p d:=by
 intro a s w h he ha;have hd:(d==5)=bH:=beq_eq_false_iff_ne.2 (by omega);go_enter Tryz.func279,Tryz.ntmps279;go_upto_region 1 with fail;have M:=Do (T:=69) (z:=E3) h;generalize w.alloc (aC E3 69)=W at M⊢;obtain⟨k1,k2⟩:=M.rd.depth;go_wp2_with fail;replace M:=M.dep (d+1);clear k1 k2;generalize W.setCell ⟨a,2,O⟩ (D G (d+1))=W at M⊢;go_fit(hp a _ _ M.rd (M.env he ha) ha);rintro e v ⟨u,rfl,hE,hr,hb⟩;go_upto_region 6 with(refine(M.call hb hr).var hE M.new fun X V=>?_);obtain⟨k1,k2⟩:=V.rm.rd.depth;go_wp2_with(refine(V.dep d).lds fun X c H=>?_);exact H.finE cI
theorem Asy {p:St→E×St}{aa:List (Wd×Int)}{f:Nat}{e:E}{s:St}(hz:∀o∈aa,o.2≠0)(h:(Ap aa s).1=0):Dk p aa f e s=(e,(Ap aa s).2):=by
 cases f with
 |zero=>rw[Ry hz h];rfl
 |succ f=>rw[Dk,if_pos h]
theorem Azq {p:St→E×St}{aa:List (Wd×Int)}{f:Nat}{e:E}{s:St}(hp:∀s,Bf (p s).2≤Bf s)(h:(Ap aa s).1≠0)(hf:Bf s≤f):
  ∃f',f'<f∧Dk p aa f e s=Dk p aa f' (Hi (Ap aa s).1 [e,(p (Ap aa s).2).1]) (p (Ap aa s).2).2∧Bf (p (Ap aa s).2).2≤f':=by
 have h1:=Adq h;have h2:=hp (Ap aa s).2;cases f with
 |zero=>omega
 |succ f=>exact⟨f,by omega,by rw[Dk,if_neg h],by omega⟩
def Aex (w:aN)(b:Nat)(ops:List (Wd×Int)):Prop:=∀i o,ops[i]?=aH o→w.cell? ⟨b,i*2,O⟩=aH (U o.1)∧w.cell? ⟨b,i*2+1,O⟩=aH (D G o.2)
theorem Aex.but {a:Nat}{w w':aN}{b:Nat}{aa:List (Wd×Int)}(h:Aex w b aa)(hb:But a w w')(hn:b≠a):Aex w' b aa:=
 fun i o ho=>⟨Pj hb (h i o ho).1 hn,Pj hb (h i o ho).2 hn⟩
theorem Aic {w:aN}{b:Nat}{k:Wd}{o:Int}{t:bC}(h:w.heap[b]?=aH (aC #[U k,D G o] t)):Aex w b [(k,o)]:=by
 intro i x hx
 match i,hx with
 |0,hx=>simp at hx;subst hx;exact⟨Aa h rfl,Aa h rfl⟩
 |i+1,hx=>simp at hx
theorem Aid {w:aN}{b:Nat}{k k':Wd}{o o':Int}{t:bC}(h:w.heap[b]?=aH (aC #[U k,D G o,U k',D G o'] t)):Aex w b [(k,o),(k',o')]:=by
 intro i x hx
 match i,hx with
 |0,hx=>simp at hx;subst hx;exact⟨Aa h rfl,Aa h rfl⟩
 |1,hx=>simp at hx;subst hx;exact⟨Aa h rfl,Aa h rfl⟩
 |i+2,hx=>simp at hx
theorem Zb {F:bU}(aq:∀args w,(callFunc F args).run aE w=.ok (.enter F args) w)(p:St→E×St)(aa:List (Wd×Int))(d:Int)(hp:E1 F p d)(hs:∀s,Bf (p s).2≤Bf s)(hz:∀o∈aa,o.2≠0)(hk:∀o∈aa,0<o.1.size)(hl:aa.length≤1000)
  (a:Nat) (s:St) (w:aN) (h:Rd w a s d) (he:Env w) (ha:8≤a) (b cap:Nat) (ad:b≠a) (ar:b<w.heap.size) (ho:Aex w b aa):
  bF aE 140 #[aJ (aH ⟨a,0,O⟩),.func (.func F) #[aJ (aH ⟨a,0,O⟩)] #[],J (aH ⟨b,0,O⟩) aa.length cap] w fun e w'=>∃v,e=aS v∧IsE (Fr w.heap.size) w' (Iq p aa s).1 v∧Rd w' a (Iq p aa s).2 d∧But a w w':=by
 generalize e1:Iq p aa s=R;have ah:Hid _:=e1;have HO:Hid _:=ho;have HP:Hid _:=hp;have HS:Hid _:=hs;have HZ:Hid _:=hz;have HK:Hid _:=hk;clear e1 ho hp hs hz hk;go_enter Tryz.func140,Tryz.ntmps140;go_wp2_with fail;have M:=Do (T:=69) (z:=E3) h;generalize w.alloc (aC E3 69)=W at M⊢;go_fit(HP.out a _ _ M.rd (M.env he ha) ha);rintro e v ⟨u,rfl,hE,hr,hb⟩;go_upto_region 2 with(refine(M.call hb hr).var hE M.new fun X V=>?_);generalize v.heap.size=L at V⊢;go_wp2_with fail;go_fit(Sq a b cap aa _ d _ V.rm.rd HK.out ad (Aex.but HO.out V.rm.but ad) hl);rintro e v ⟨rfl,hr,hb⟩;replace V:=V.call hb hr;clear hb hr hE M;go_wp2_with fail
 go_loopg[8] (Bf (p s).2) (fun f o wr=>∃σ e,o=D G (Ap aa σ).1∧VrSt 69 E3 a L w wr (Ap aa σ).2 d e∧Hid (R=Dk p aa f e σ∧Bf σ≤f))
 case atStart=>exact⟨_,_,rfl,V,ah.out.symm,aD _⟩
 case round=>
  clear V ah;obtain⟨σ,e,rfl,V,HF⟩:=hrel
  by_cases af:(Ap aa σ).1=0
  ·obtain rfl:(e,(Ap aa σ).2)=R:=(HF.out.1.trans (Asy HZ.out af)).symm;clear HF;go_wp2_with(refine V.lds fun X c H=>?_);exact H.finE Tryz.results140
  ·obtain⟨f',al,h2,h3⟩:=Azq (e:=e) HS.out af HF.out.2;have ac:Hid (R=Dk p aa f' (Hi (Ap aa σ).1 [e,(p (Ap aa σ).2).1]) (p (Ap aa σ).2).2∧Bf (p (Ap aa σ).2).2≤f'):=⟨HF.out.1.trans h2,h3⟩;clear HF h2 h3;have ai:((Ap aa σ).1==0)=bH:=beq_eq_false_iff_ne.2 af;generalize Ap aa σ=q at V ac ai⊢;obtain⟨o1,s2⟩:=q;dsimp only at V ac ai⊢;have P2:=HP.out a _ _ V.drew.rm.rd (V.drew.rm.env he ha) ha;generalize p s2=q at P2 ac;obtain⟨E2,s3⟩:=q;dsimp only at P2 ac;obtain⟨op,⟨xk,xn,xs⟩,s4,nm,n,ao,k,cc,aj,hE⟩:=V.cells;obtain⟨l0,l1,l2,l3,l4,l5,l6,l7⟩:=Z2 aj rfl;have au:=V.lt;have av:=V.rm.lt;have HE:Hid _:=hE;clear hE;go_wp2_with fail
   go_region_with(first
    |(go_fit P2;rintro e' w3 ⟨v2,rfl,ag,am,ae⟩;obtain⟨aw,⟨ax,ay,az⟩,s5,ba,n2,bb,k2,bc,rfl⟩:=ag.shape;obtain⟨m0,m1,m2,m3,m4,m5,m6,m7⟩:=Z2 (Jw ae (w:=wr.drew) aj (show L≠a by omega)) rfl)
    |(refine(Wm _ _ _ _ _).mono ?_;rintro e' w4 ⟨rfl,ak⟩;have V4:=((V.drew.call ae am).alloc _).below ak;obtain⟨bd,⟨be,bf,bg⟩,s6,bh,n3,bi,k3,bj,ab,bk⟩:=V4.cells;obtain⟨y0,y1,y2,y3,y4,y5,y6,y7⟩:=Z2 ab rfl;have z0:=Aw ab 0;have z1:=Aw ab 1;have z2:=Aw ab 2;have z3:=Aw ab 3;have z4:=Aw ab 4;have z5:=Aw ab 5;have z6:=Aw ab 6;have z7:=Aw ab 7))
   all_goals
    have bl:wr.heap.size≤w3.heap.size:=ae.size;have bm:=V.le;have V5:=V4.set8 (IsE.keep (Ak ak) _ _ (Ns (op:=o1) (x:=zero) (s:=noW) (name:=noW) (n:=0) (Ajt (IsE.keep (ae.keeps (w:=wr.drew) fun hk=>by have:=hk.1;omega) _ _ (IsE.keep (Keeps.drew (Keeps.refl _ _)) _ _ HE.out)) (IsE.mono (F':=fun k=>w.heap.size<k∧k≠L) (fun k _ h2=>by have:wr.heap.size≤k:=h2;exact⟨by omega,by omega⟩) _ _ ag) ⟨by omega,by omega⟩)));clear l0 l1 l2 l3 l4 l5 l6 l7 m0 m1 m2 m3 m4 m5 m6 m7 y0 y1 y2 y3 y4 y5 y6 y7 z0 z1 z2 z3 z4 z5 z6 z7 ag;go_wp2_with(go_fit(Sq a b cap aa s3 d _ V5.rm.rd HK.out ad (Aex.but HO.out V5.rm.but ad) hl);rintro e' w6 ⟨rfl,an,ap⟩)
    go_roundg f'
    case measure=>exact al
    case rel=>exact⟨s3,_,rfl,V5.call ap an,ac⟩
set_option maxHeartbeats 8000000
set_option maxRecDepth 100000
theorem A13 (p:St→E×St)(d:Int)(hp:E1 325 p d)(hs:∀s,Bf (p s).2≤Bf s):E1 280 (Iq p Adg) d:=by
 intro a s w h he ha;go_enter Tryz.func280,Tryz.ntmps280;go_upto_region 1 with fail;have M:=Do (T:=69) (z:=E3) h;generalize w.alloc (aC E3 69)=W at M⊢;have hM:=aG M.room;have aa:=M.lt;replace M:=M.below ((aO _ _).alloc (aD _) (aC #[U ⟨#[43]⟩,D G 3,U ⟨#[45]⟩,D G 4] 190));go_wp2_with fail;go_fit(Zb (fun _ _=>rfl) p Adg d hp hs (by decide) (by decide) (by decide) a s _ M.rd (M.env he ha) ha W.heap.size 2 (by omega) (by simp) (Aid (Ab W _)));rintro e v ⟨u,rfl,hE,hr,hb⟩;go_wp2_with(refine(M.call hb hr).putE hE M.new fun X c H=>?_);exact H.finE Tryz.results280
theorem Aey (p:St→E×St)(d:Int)(hp:E1 218 p d)(hs:∀s,Bf (p s).2≤Bf s):E1 141 (Iq p Adh) d:=by
 intro a s w h he ha;go_enter Tryz.func141,Tryz.ntmps141;go_upto_region 1 with fail;have M:=Do (T:=69) (z:=E3) h;generalize w.alloc (aC E3 69)=W at M⊢;have hM:=aG M.room;have aa:=M.lt;replace M:=M.below ((aO _ _).alloc (aD _) (aC #[U ⟨#[97,110,100]⟩,D G 7] 190));go_wp2_with fail;go_fit(Zb (fun _ _=>rfl) p Adh d hp hs (by decide) (by decide) (by decide) a s _ M.rd (M.env he ha) ha W.heap.size 1 (by omega) (by simp) (Aic (Ab W _)));rintro e v ⟨u,rfl,hE,hr,hb⟩;go_wp2_with(refine(M.call hb hr).putE hE M.new fun X c H=>?_);exact H.finE Tryz.results141
theorem Agd (p:St→E×St)(d:Int)(hp:E1 141 p d)(hs:∀s,Bf (p s).2≤Bf s):E1 80 (Iq p Ajm) d:=by
 intro a s w h he ha;go_enter Tryz.func80,Tryz.ntmps80;go_upto_region 1 with fail;have M:=Do (T:=69) (z:=E3) h;generalize w.alloc (aC E3 69)=W at M⊢;have hM:=aG M.room;have aa:=M.lt;replace M:=M.below ((aO _ _).alloc (aD _) (aC #[U ⟨#[111,114]⟩,D G 8] 190));go_wp2_with fail;go_fit(Zb (fun _ _=>rfl) p Ajm d hp hs (by decide) (by decide) (by decide) a s _ M.rd (M.env he ha) ha W.heap.size 1 (by omega) (by simp) (Aic (Ab W _)));rintro e v ⟨u,rfl,hE,hr,hb⟩;go_wp2_with(refine(M.call hb hr).putE hE M.new fun X c H=>?_);exact H.finE Tryz.results80
theorem Azr (sub:St→E×St)(d:Int)(hp:Z1 80 sub d):E1 325 (G8 sub) d:=by
 intro a s w h he ha;generalize e1:G8 sub s=q;have HP:Hid _:=hp;clear hp;go_enter Tryz.func325,Tryz.ntmps325;go_wp2_with fail;have M:=Do (T:=69) (z:=E3) h;generalize w.alloc (aC E3 69)=W at M⊢;go_fit(C6 a Dj _ d _ M.rd (by decide));rintro e v ⟨rfl,hr,hb⟩;replace M:=M.call hb hr;cases h1:(Ag Dj s).1;rotate_left
 ·go_wp2_with fail;go_fit(HP.out a _ _ M.rd (M.env he ha) ha);rintro e v2 ⟨u,rfl,hE,hr,hb⟩;go_wp2_with(refine(M.call hb hr).var hE M.new fun X V=>?_);go_fit(Fd a C9 _ d _ V.rm.rd (by decide) _ rfl);rintro e v3 ⟨rfl,hr,hb⟩;go_wp2_with(refine(V.call hb hr).lds fun X c H=>?_);obtain rfl:((sub (Ag Dj s).2).1,Ce C9 (sub (Ag Dj s).2).2)=q:=by simp[←e1,G8,h1]
  exact H.finE aX
 rw[Bo h1]at M;go_wp2_with fail;go_fit(C6 a Ft _ d _ M.rd (by decide));rintro e v ⟨rfl,hr,hb⟩;replace M:=M.call hb hr;cases h2:(Ag Ft s).1;rotate_left
 ·go_wp2_with fail;go_fit(Z0 0 0 noW _);rintro e v2 ⟨rfl,hb⟩;go_wp2_with(refine(M.below hb).putE (Zj (fun _=>False) _ zero) nofun fun X c H=>?_);obtain rfl:(Lv zero,(Ag Ft s).2)=q:=by simp[←e1,G8,h1,h2]
  exact H.finE aX
 rw[Bo h2]at M;go_wp2_with fail;go_fit(C6 a Gd _ d _ M.rd (by decide));rintro e v ⟨rfl,hr,hb⟩;replace M:=M.call hb hr;cases h3:(Ag Gd s).1;rotate_left
 ·obtain⟨n0,n1⟩:=Aji (Ag Gd s).2;go_wp2_with fail;go_fit(Wl a _ d _ M.rd (M.env he ha));rintro e v2 ⟨rfl,hr,hb⟩;replace M:=M.call hb hr;go_wp2_with fail;go_fit(Z0 1 (-(Cy (Ag Gd s).2).1) noW _);rintro e v2 ⟨rfl,hb⟩;go_wp2_with(refine(M.below hb).putE (Zj (fun _=>False) _ ⟨_,_,_⟩) nofun fun X c H=>?_);obtain rfl:(Lv ⟨1,-(Cy (Ag Gd s).2).1,noW⟩,(Cy (Ag Gd s).2).2)=q:=by simp[←e1,G8,h1,h2,h3]
  exact H.finE aX
 rw[Bo h3]at M;go_wp2_with fail;go_fit(Amt a _ d _ M.rd);rintro e v2 ⟨rfl,rfl⟩;cases h4:Gh Bn s;rotate_left
 ·go_wp2_with fail;go_fit(Wl a _ d _ M.rd (M.env he ha));rintro e v2 ⟨rfl,hr,hb⟩;replace M:=M.call hb hr;go_wp2_with fail;go_fit(Z0 1 _ noW _);rintro e v2 ⟨rfl,hb⟩;go_wp2_with(refine(M.below hb).putE (Zj (fun _=>False) _ ⟨_,_,_⟩) nofun fun X c H=>?_);obtain rfl:(Lv ⟨1,(Cy s).1,noW⟩,(Cy s).2)=q:=by simp[←e1,G8,h1,h2,h3,h4]
  exact H.finE aX
 go_wp2_with fail;go_fit(Amu a _ d _ M.rd);rintro e v2 ⟨rfl,rfl⟩;cases h5:Gh Dr s;rotate_left
 ·go_wp2_with fail;go_fit(Azp a _ d _ M.rd h5);rintro e v2 ⟨rfl,hr,hb⟩;replace M:=M.call hb hr;go_wp2_with fail;go_fit(Z0 _ _ _ _);rintro e v2 ⟨rfl,hb⟩;go_wp2_with(refine(M.below hb).putE (Zj (fun _=>False) _ ⟨_,_,_⟩) nofun fun X c H=>?_);obtain rfl:(Lv (Oe s).1,(Oe s).2)=q:=by simp[←e1,G8,h1,h2,h3,h4,h5]
  exact H.finE aX
 go_wp2_with fail;go_fit(A11 d a _ _ M.rd (M.env he ha) ha);rintro e v2 ⟨u,rfl,hE,hr,hb⟩;go_wp2_with(refine(M.call hb hr).putE hE M.new fun X c H=>?_);obtain rfl:Vi s=q:=by simp[←e1,G8,h1,h2,h3,h4,h5]
 exact H.finE aX
theorem Azs (sub aa:St→E×St)(d:Int)(hs:E1 280 (Fm sub) d)(hp:Z1 218 aa d):E1 218 (Ir sub aa) d:=by
 intro a s w h he ha;generalize e1:Ir sub aa s=q;have HP:Hid _:=hp;have HS:Hid _:=hs;clear hp hs;go_enter Tryz.func218,Tryz.ntmps218;go_wp2_with fail;have M:=Do (T:=69) (z:=E3) h;generalize w.alloc (aC E3 69)=W at M⊢;go_fit(C6 a Nx _ d _ M.rd (by decide));rintro e v ⟨rfl,hr,hb⟩;replace M:=M.call hb hr;cases h1:(Ag Nx s).1;rotate_left
 ·go_wp2_with fail;go_fit(HP.out a _ _ M.rd (M.env he ha) ha);rintro e v2 ⟨u,rfl,hE,hr,hb⟩;obtain⟨op,⟨xk,xn,xs⟩,s4,nm,n,ao,k,cc,rfl⟩:=hE.shape;go_wp2_with fail;go_fit(Wm 9 _ 1 1 _);rintro e v3 ⟨rfl,ab⟩;go_wp2_with(refine((M.call hb hr).below (((aO _ _).alloc (aD _) _).trans (ab.mono (by simp)))).putE (Ns (op:=9) (x:=zero) (s:=noW) (name:=noW) (n:=0) ((Abh (IsE.mono (F':=fun k=>w.heap.size<k) (fun k _ hk=>M.new k hk) _ _ hE) (aG (M.call hb hr).room)).keep (Ak ab))) (fun _ h=>h) fun X c H=>?_);obtain rfl:(Hi 9 [(aa (Ag Nx s).2).1],(aa (Ag Nx s).2).2)=q:=by simp[←e1,Ir,h1]
  exact H.finE bG
 rw[Bo h1]at M;go_wp2_with fail;go_fit(HS.out a _ _ M.rd (M.env he ha) ha);rintro e v2 ⟨u,rfl,hE,hr,hb⟩;go_wp2_with(refine(M.call hb hr).var hE M.new fun X V=>?_);go_fit(C6 a kIs _ d _ V.rm.rd (by decide));rintro e v3 ⟨rfl,hr,hb⟩;replace V:=V.call hb hr;clear hr hb hE M;generalize v2.heap.size=L at V⊢;have h0:Ir sub aa s=if(Ag kIs (Fm sub s).2).1 then(Hi 10 [(Fm sub s).1],Ce Ft (Ag kIs (Fm sub s).2).2)
   else if(Ap Ff (Fm sub s).2).1=0 then((Fm sub s).1,(Ap Ff (Fm sub s).2).2)
   else(Hi (Ap Ff (Fm sub s).2).1 [(Fm sub s).1,(Fm sub (Ap Ff (Fm sub s).2).2).1],(Fm sub (Ap Ff (Fm sub s).2).2).2):=by rw[Ir,h1];rfl
 rw[e1]at h0;generalize Fm sub s=R at V h0⊢;have HQ:Hid _:=h0;clear h0 e1 h1;cases h2:(Ag kIs R.2).1;rotate_left
 ·go_wp2_with fail;go_fit(Fd a Ft _ d _ V.rm.rd (by decide) _ rfl);rintro e v4 ⟨rfl,hr,hb⟩;replace V:=V.call hb hr;go_wp2_with(refine V.load fun op x xs nm n ao k cc hE=>?_);go_fit(Wm 10 _ 1 1 _);rintro e v5 ⟨rfl,ab⟩;go_wp2_with(refine(V.rm.below (((aO _ _).alloc (aD _) _).trans (ab.mono (by simp)))).putE (Ns (op:=10) (x:=zero) (s:=noW) (name:=noW) (n:=0) ((Abh (IsE.mono (F':=fun k=>w.heap.size<k) (fun k _ hk=>hk.1) _ _ hE) (aG V.rm.room)).keep (Ak ab))) (fun _ h=>h) fun X c H=>?_);obtain rfl:(Hi 10 [R.1],Ce Ft (Ag kIs R.2).2)=q:=by rw[HQ.out,h2];rfl
  exact H.finE bG
 rw[Bo h2]at V;have ae:=V.le;have ak:=V.lt;have al:=V.rm.lt;have hO:=Aid (Ab v3 (aC #[U ⟨#[61]⟩,D G 5,U ⟨#[60]⟩,D G 6] 190));replace V:=V.alloc (aC #[U ⟨#[61]⟩,D G 5,U ⟨#[60]⟩,D G 6] 190);go_wp2_with fail;go_fit(Sq a v3.heap.size 2 Ff _ d _ V.rm.rd (by decide) (by omega) hO (by simp));rintro e v4 ⟨rfl,hr,hb⟩;replace V:=V.call hb hr;clear hO hr hb ae
 by_cases h3:(Ap Ff R.2).1=0
 ·obtain rfl:(R.1,(Ap Ff R.2).2)=q:=by rw[HQ.out,h2,h3];rfl
  clear HQ;go_wp2_with(refine V.lds fun X c H=>?_);exact H.finE bG
 have af:((Ap Ff R.2).1==0)=bH:=beq_eq_false_iff_ne.2 h3;have ac:Hid ((Hi (Ap Ff R.2).1 [R.1,(Fm sub (Ap Ff R.2).2).1],(Fm sub (Ap Ff R.2).2).2)=q):=by show _=_;rw[HQ.out,h2,if_neg h3];rfl
 clear HQ h2 h3;generalize Ap Ff R.2=S at V ac af⊢;obtain⟨o1,s2⟩:=S;dsimp only at V ac af⊢;have P2:=HS.out a _ _ V.drew.rm.rd (V.drew.rm.env he ha) ha;generalize Fm sub s2=S at P2 ac;obtain⟨E2,s3⟩:=S;dsimp only at P2 ac;obtain⟨op,⟨xk,xn,xs⟩,s4,nm,n,ao,k,cc,ag,hE⟩:=V.cells;obtain⟨l0,l1,l2,l3,l4,l5,l6,l7⟩:=Z2 ag rfl;have HE:Hid _:=hE;clear hE;go_upto_region 9 with fail
 go_region_with(first
  |(go_fit P2;rintro e' w3 ⟨v2,rfl,ah,aj,ad⟩;obtain⟨am,⟨an,ap,aq⟩,s5,ar,n2,au,k2,av,rfl⟩:=ah.shape;obtain⟨m0,m1,m2,m3,m4,m5,m6,m7⟩:=Z2 (Jw ad (w:=v4.drew) ag (show L≠a by omega)) rfl)
  |(refine(Wm _ _ _ _ _).mono ?_;rintro e' w4 ⟨rfl,ai⟩;have V4:=((V.drew.call ad aj).alloc _).below ai;obtain⟨y0,y1,y2,y3,y4,y5,y6,y7⟩:=Z2 V4.rm.room rfl;have z0:=Aw V4.rm.room 0;have z1:=Aw V4.rm.room 1;have z2:=Aw V4.rm.room 2;have z3:=Aw V4.rm.room 3;have z4:=Aw V4.rm.room 4;have z5:=Aw V4.rm.room 5;have z6:=Aw V4.rm.room 6;have z7:=Aw V4.rm.room 7))
 all_goals
  have aw:v4.heap.size≤w3.heap.size:=ad.size;have ae:=V.le;obtain⟨c,H⟩:=V4.rm.set8 (IsE.keep (Ak ai) _ _ (Ns (op:=o1) (x:=zero) (s:=noW) (name:=noW) (n:=0) (Ajt (IsE.keep (ad.keeps (w:=v4.drew) fun hk=>by have:=hk.1;omega) _ _ (IsE.keep (Keeps.drew (Keeps.refl _ _)) _ _ HE.out)) (IsE.mono (F':=fun k=>w.heap.size<k∧k≠L) (fun k _ h2=>by have:v4.heap.size≤k:=h2;exact⟨by omega,by omega⟩) _ _ ah) ⟨by omega,by omega⟩))) fun k hk=>hk.1
  obtain rfl:=ac.out;go_wp2_with fail;exact H.finE bG
theorem A32 (d:Nat)(hd:d≤5):E1 80 (Jm d).1 (5-d:Nat)∧E1 218 (Jm d).2 (5-d:Nat):=by
 have aa:∀n:Nat,Z1 80 (Ku n) (5-n:Nat)→Z1 218 (Mf n) (5-n:Nat)→E1 80 (Jm n).1 (5-n:Nat)∧E1 218 (Jm n).2 (5-n:Nat):=by
  intro n h1 h2;rw[At4];have hs:Cg (Ku n) (Adi n)∧Cg (Mf n) (Adj n):=by
   cases n with
   |zero=>exact⟨fun s a r h=>by simp[Ku,Of]at h,fun s a r h=>by simp[Mf,Of]at h⟩
   |succ n=>exact⟨(X7 n).1,(X7 n).2.1⟩
  have ht:=Azs (Ku n) (Mf n) _ (A13 (G8 (Ku n)) _ (Azr (Ku n) _ h1) (Adm hs.1).shrinks) h2;have st:=Ado hs.1 hs.2;exact⟨Agd (Arh (Ku n) (Mf n)) _ (Aey (Ir (Ku n) (Mf n)) _ ht st.shrinks) (Pp st (by decide):Cg (Arh (Ku n) (Mf n)) _).shrinks,ht⟩
 induction d with
 |zero=>exact aa 0 Aew Aew
 |succ n ih=>
  obtain⟨i1,i2⟩:=ih (by omega);have e:((5-(n+1):Nat):Int)+1=((5-n:Nat):Int):=by omega
  refine aa (n+1) (Aib (fun _ _=>rfl) _ _ (by omega) (by omega) ?_) (Aib (fun _ _=>rfl) _ _ (by omega) (by omega) ?_)
  ·rw[e];exact i1
  ·rw[e];exact i2
theorem Sr:E1 80 Mg 0:=(A32 5 (aD _)).1
theorem Aa9 {g}{p}{d}(h:E1 g p d):H9 g Az I5 p d:=by
 intro a s w h1 h2 h3;refine(h a s w h1 h2 h3).mono fun e w' hx=>?_
 obtain⟨v,h4,h5,h6⟩:=hx;obtain⟨op,x,xs,aa,n,ao,k,c,rfl⟩:=h5.shape;exact⟨_,h4,⟨rfl,h5⟩,h6⟩
theorem Awm {α}{one}{f}{acc:List α}{s}(h:(Ag Ei s).1=bH):J1 one f acc s=(acc,(Ag Ei s).2):=by
 cases f with
 |zero=>rw[Bo h];rfl
 |succ f=>rw[J1,h];rfl
theorem A15 {α}{one}{f}{acc:List α}{s}(hs:∀s,Bf (one s).2≤Bf s)(h:(Ag Ei s).1=bN)(hf:Bf s≤f):
  ∃f',f'<f∧J1 one f acc s=J1 one f' (acc++[(one (Ag Ei s).2).1]) (one (Ag Ei s).2).2∧Bf (one (Ag Ei s).2).2≤f'∧Bf (one (Ag Ei s).2).2+1≤Bf s:=by
 have h1:=X9 h;have h2:=hs (Ag Ei s).2;cases f with
 |zero=>omega
 |succ f=>exact⟨f,by omega,by rw[J1,if_pos h],by omega,by omega⟩
theorem Rd.len {w}{a}{s}{d}(h:Rd w a s d):Bf s≤1502:=by
 obtain⟨x,r,b,_,h2⟩:=h;cases h2 with
 |wrong=>simp[Bf]
 |over=>simp[Bf]
 |word _ _ hr=>
  obtain⟨ws,h1,_,h3⟩:=Apx _ r.data.toList (aD _);rw[Dm]at h3;rcases h1 with h1|h1
  ·rw[h1];simp[Bf];omega
  ·rw[h1];simp[Bf];omega
theorem Uz {a}{w w'}{base}{e}{size}{v}{n}{xs}(h:w.ownsRow base e size v n xs)(hb:But a w w')(ha:a<base):w'.ownsRow base e size v n xs:=by
 obtain⟨h1,h2⟩:=h;refine⟨h1,?_⟩;rcases h2 with h2|⟨g,cap,cur,hv,hg,hh,r⟩
 ·grind
 ·exact .inr ⟨g,cap,cur,hv,hg,by rw[hb.block g (aG hh) (by omega)];omega,r⟩
theorem Aie {a}{w w'}{base}{e}{size}{v}{n}{xs}{u}(h:w.ownsRow base e size v n xs)(hg:w.grownBy w' v.ownBlock)(hu:But a u w)(hb:u.heap.size≤base):But a u w':=
 ⟨hg.os.trans hu.os,hg.tape.trans hu.tape,hg.output.trans hu.output,aP hu.size hg.size,fun k hk hn=>(hg.block k (bE hk hu.size) (fun e=>by have:=(h.lt k e.symm).1;omega)).trans (hu.block k hk hn)⟩
theorem Rd.grown {a}{w w'}{base}{e}{size}{v}{n}{xs}{s}{d}(h:w.ownsRow base e size v n xs)(hg:w.grownBy w' v.ownBlock)(hr:Rd w a s d)(ha:a<base):Rd w' a s d:=by
 obtain⟨x,r,b,h1,h2⟩:=hr;exact⟨x,r,b,(hg.block a h1.lt (fun e=>by have:=(h.lt a e.symm).1;omega)).trans h1,h2⟩
theorem Asz:(Tryz.prog.info? 69).map (fun i=>(i.zero,i.size,i.bytes))=aH (aH (aW #[D G 0,D G 0,D G 0,U ⟨#[]⟩,U ⟨#[]⟩,U ⟨#[]⟩,D G 0,J O 0 0]),8,104):=by kernel_rfl
theorem Awn:(Tryz.prog.info? 67).map (fun i=>(i.zero,i.size,i.bytes))=aH (aH (J O 0 0),1,24):=by kernel_rfl
theorem Awo:(Tryz.prog.info? 133).map (fun i=>(i.zero,i.size,i.bytes))=aH (aH (aW #[U ⟨#[]⟩,D G 0,D G 0,D G 0,U ⟨#[]⟩,U ⟨#[]⟩,U ⟨#[]⟩,D G 0,J O 0 0]),9,120):=by kernel_rfl
theorem Awp:(Tryz.prog.info? 9).map (fun i=>(i.zero,i.size,i.bytes))=aH (aH (U ⟨#[]⟩),1,16):=by kernel_rfl
theorem Awq:(Tryz.prog.info? 76).map (fun i=>(i.zero,i.size,i.bytes))=aH (aH (aW #[U ⟨#[]⟩,D G 0,bD bH]),3,32):=by kernel_rfl
def Age (TS T:bC)(k bytes:Nat):Prop:=Tryz.prog.underlying TS=aH (.slice T)∧∃z,(Tryz.prog.info? T).map (fun i=>(i.zero,i.size,i.bytes))=aH (aH z,k,bytes)∧z.cells.size=k
theorem Awr:Age 67 69 8 104:=⟨Tryz.underlying67,_,Asz,rfl⟩
theorem Azt:Age 65 67 1 24:=⟨Tryz.underlying65,_,Awn,rfl⟩
theorem Azu:Age 66 133 9 120:=⟨Tryz.underlying66,_,Awo,rfl⟩
theorem Azv:Age 54 9 1 16:=⟨Tryz.underlying54,_,Awp,rfl⟩
theorem Azw:Age 64 76 3 32:=⟨Tryz.underlying64,_,Awq,rfl⟩
theorem Zc {k bytes:Nat}{TS T:bC}{ab:Array Oper}{rest:List Oper}{o:Oper}{aa:Act}{Q:Exit→Act→aN→Prop}{s x:Operand}{base n:Nat}{v:aR}{xs c:List aR}{w3:aN}(I:Age TS T k bytes)
  (ac:(w3.alloc (aC c.toArray T)).ownsRow base T k v n xs) (hn:n≤1600) (ad:base≤w3.heap.size) (h1:∀u∈c,u.oneCell'=bN)
  (h:∀v' w',w'.ownsRow base T k v' (n+1) (xs++c)→(w3.alloc (aC c.toArray T)).grownBy w' v.ownBlock→(v'.ownBlock=v.ownBlock∨v'.ownBlock=aH (w3.heap.size+1))→aT aE ab Q rest (aa.put o.dst v') w')
  (ae:o.guard=O:=by exact rfl) (ho:o.op=.call {callee:=.builtin .append,args:=#[s,x],argTypes:=#[TS,TS]}:=by exact rfl) (hs:aa.eval s=v:=by exact rfl) (hx:aa.eval x=J (aH ⟨w3.heap.size,0,O⟩) 1 1:=by exact rfl)
  (hl:c.length=k:=by exact rfl) (hb:0<k∧bytes≤1000:=by decide):aT aE ab Q (o::rest) aa (w3.alloc (aC c.toArray T)):=by
 obtain⟨hu,z,hz,af⟩:=I;obtain⟨i,hi,h2,h3,h4⟩:=info_parts hz;refine cG _ ae s x TS ho base T i z k bytes hu hi h2 h3 h4 af hb.1 v n xs hs ac ⟨w3.heap.size,0,O⟩ 1 1 c hx (by omega) (B8 w3 c T) h1 (by simp only[bI];omega) ?_ (aP ad (by simp)) fun v' w' a b _ d=>h v' w' a b (by simpa using d)
 exact aP (Nat.mul_le_mul (show n+1≤1601 by omega) hb.2) (by decide)
theorem Aws {α:Type}{K:Elem α}{T:bC}{k a:Nat}{w wr w2 w3:aN}{z:aR}{acc:List α}{cs c3:List aR}{x2:α}{s3:St}{d:Int}(ad:a<w.heap.size)(ag:wr.ownsRow w.heap.size T k z acc.length cs)(aj:All K (FO w.heap.size z) wr acc cs)(ae:But a w wr)(aa:But a wr w2)(ab:But a w2 w3)(ak:K.R (Fr w2.heap.size) w3 x2 c3)(al:Rd w3 a s3 d):
  (w3.alloc (aC c3.toArray T)).ownsRow w.heap.size T k z acc.length cs∧w.heap.size≤w3.heap.size∧∀z2 w4,(w3.alloc (aC c3.toArray T)).grownBy w4 z.ownBlock→(z2.ownBlock=z.ownBlock∨z2.ownBlock=aH (w3.heap.size+1))→All K (FO w.heap.size z2) w4 (acc++[x2]) (cs++c3)∧Rd w4 a s3 d∧But a w w4:=by
 have af:=(Uz (Uz ag aa ad) ab ad).alloc (aC c3.toArray T);refine⟨af,(ae.trans (aa.trans ab)).size,fun z2 w4 ac am=>?_⟩;have ah:=Aq w3 (aC c3.toArray T);have ai:¬FO w.heap.size z a:=by intro hf;have:=hf.1;omega
 have aq:wr.heap.size≤w2.heap.size:=aa.size;have an:z2.ownBlock=z.ownBlock∨z2.ownBlock=aH (w3.alloc (aC c3.toArray T)).heap.size:=by rw[cC];exact am
 have ap:∀k,aH k=z.ownBlock→k<wr.heap.size:=fun k e=>(ag.lt k e.symm).2
 exact⟨All.mono (fun k hk hf=>⟨hf.1,hf.2.2⟩) (All.keep (F:=fun k=>w.heap.size≤k∧aH k≠z.ownBlock∧aH k≠z2.ownBlock) ⟨ac.size,fun k hk hl=>ac.block k hl hk.2.1⟩ (All.mono (fun k hk hf=>⟨hf.1,hf.2,(Ud an k hk hf).2⟩) ((All.keep (((aa.keeps ai).trans (ab.keeps ai)).alloc (aC c3.toArray T)) aj).append (All.keep (Ak ah) (All.one (K.mono (F':=FO w.heap.size z) (fun k _ hf=>⟨by have:w2.heap.size≤k:=hf;have:=ae.size;omega,fun e=>by have:w2.heap.size≤k:=hf;have:=ap k e;omega⟩) ak)))))),Rd.grown af ac (al.below ah) ad,Aie af ac (((ae.trans aa).trans ab).alloc _) (aD _)⟩
def Wn {α:Type}(P:(St→α×St)→St→List α×St)(g F:bU)(K0:Elem α)(val:List aR→aR)(T0:bC)(k0:Nat):Prop:=∀(K:Elem α) (T:bC) (k:Nat),K=K0∧T=T0∧k=k0→∀(p:St→α×St) (d:Int),H9 F K val p d→(∀s,Bf (p s).2≤Bf s)→∀(a:Nat) (s:St) (w:aN),Rd w a s d→Env w→8≤a→
  bF aE g #[aJ (aH ⟨a,0,O⟩),.func (.func F) #[aJ (aH ⟨a,0,O⟩)] #[]] w fun e w'=>∃sv,e=aS sv∧IsL K (Fr w.heap.size) w' sv (P p s).1∧Rd w' a (P p s).2 d∧But a w w'
theorem lists:Wn Ia 79 80 Az I5 69 8∧Wn Ia 74 75 H6 Afc 67 1∧Wn Ia 77 78 E8 I5 133 9∧Wn Ia 81 73 Ou Afc 9 1∧Wn Ia 213 137 Cp I5 76 3:=by
 refine⟨?_,?_,?_,?_,?_⟩
 all_goals
  intro K T k hK p d hp hs a s w h he ha;have aq:Hid (k=K.size):=by rw[hK.1,hK.2.2];rfl
  have ah:=h.lt;have P1:=hp a s w h he ha;have ae:Ia p s=J1 p (Bf (p s).2) [(p s).1] (p s).2:=rfl;have bd:=h.len;have ai:=hs s;generalize Ia p s=R at ae⊢;generalize p s=q at P1 ae ai;obtain⟨x1,s1⟩:=q;simp only at P1 ae ai;have aj:Hid _:=ae;have HP:Hid _:=hp;have HS:Hid _:=hs;clear ae hp hs;obtain⟨Q,hQ⟩:∃Q:Nat→aR→aN→Prop,Q=fun f z wr=>∃acc cs σ,wr.ownsRow w.heap.size T k z acc.length cs∧All K (FO w.heap.size z) wr acc cs∧Rd wr a σ d∧Hid (R=J1 p f acc σ∧Bf σ≤f)∧acc.length+Bf σ≤1600∧But a w wr:=⟨_,rfl⟩
  have HQ:Hid _:=hQ;clear hQ
  first
   |go_enter Tryz.func79,Tryz.ntmps79
   |go_enter Tryz.func74,Tryz.ntmps74
   |go_enter Tryz.func77,Tryz.ntmps77
   |go_enter Tryz.func81,Tryz.ntmps81
   |go_enter Tryz.func213,Tryz.ntmps213
  go_wp2_with(go_fit P1;rintro e w1 ⟨c1,rfl,aa,ar,ak⟩;have S:Q (Bf s1) (J (aH ⟨w1.heap.size,0,O⟩) 1 1) (w1.alloc (aC c1.toArray T)):=(by rw[HQ.out];exact⟨[x1],c1,s1,A0r w1 w.heap.size T c1 k ((K.len aa).trans aq.out.symm) ak.size,All.keep (Ak (Aq _ _)) (All.one (K.mono (fun k hk hf=>⟨hf,fun e=>by simp[Value.ownBlock]at e;omega⟩) aa)),ar.below (Aq _ _),⟨aj.out,aD _⟩,by simp;omega,ak.alloc _⟩);obtain⟨rfl,rfl,rfl⟩:=hK;(first|obtain⟨_,_,_,_,_,_,_,_,_,_,rfl⟩:=Fh aa|obtain⟨_,_,_,rfl⟩:=Xn aa|obtain⟨_,_,_,_,_,_,_,_,_,_,_,rfl⟩:=Sw aa|obtain⟨_,rfl⟩:=Agv aa|obtain⟨_,_,_,rfl⟩:=Xo aa);simp only[I5,Afc,cJ])
  go_loopg[5] (Bf s1) (fun f z wr=>Q f z wr)
  case atStart=>exact S
  case round=>
   clear S aj;rw[HQ.out]at hrel;obtain⟨acc,cs,σ,al,am,an,HF,be,af⟩:=hrel;have ap:Hid _:=am;clear am;cases hc:(Ag Ei σ).1
   ·have SK:=Amw a Ei σ d wr an (by decide) hc;have au:Hid (R=(acc,σ)):=by show R=_;rw[HF.out.1,Awm hc,Bo hc]
    clear HF hc;go_wp2_with(go_fit SK;rintro e w2 ⟨rfl,ag,ab⟩);go_ret;rw[au.out];refine⟨_,rfl,?_,ag,af.trans ab⟩;exact⟨cs,Bp.of_own (Uz al ab ah) (fun k hk=>hk),All.mono (fun k _ hk=>hk.1) (All.keep (ab.keeps (by intro hf;have:=hf.1;omega)) ap.out)⟩
   ·have SK:=Amx a Ei σ d wr an (by decide) hc;obtain⟨f',bf,ac⟩:∃f',f'<gk∧Hid (R=J1 p f' (acc++[(p (Ag Ei σ).2).1]) (p (Ag Ei σ).2).2∧Bf (p (Ag Ei σ).2).2≤f'∧Bf (p (Ag Ei σ).2).2+1≤Bf σ):=by
     obtain⟨f',h1,h2,h3,h4⟩:=A15 HS.out hc HF.out.2;exact⟨f',h1,HF.out.1.trans h2,h3,h4⟩
    clear HF hc;generalize(Ag Ei σ).2=s2 at SK ac;have PF:=fun w2 (h2:Rd w2 a s2 d) (e2:Env w2)=>HP.out a s2 w2 h2 e2 ha
    generalize p s2=q at PF ac;obtain⟨x2,s3⟩:=q;simp only at PF ac;go_wp2_with(first
     |(go_fit SK;rintro e w2 ⟨rfl,ag,ab⟩;have P2:=PF w2 ag (he.but (af.trans ab) ha))
     |(go_fit P2;rintro e w3 ⟨c3,rfl,ad,av,aw⟩;have L3:=Aws ah al ap.out af ab aw ad av;(first|obtain⟨_,_,_,_,_,_,_,_,_,_,rfl⟩:=Fh ad|obtain⟨_,_,_,rfl⟩:=Xn ad|obtain⟨_,_,_,_,_,_,_,_,_,_,_,rfl⟩:=Sw ad|obtain⟨_,rfl⟩:=Agv ad|obtain⟨_,_,_,rfl⟩:=Xo ad);simp only[I5,Afc,cJ])
     |(at_builtin;first|refine Zc Awr L3.1 ?h0 L3.2.1 ?h1 ?h2|refine Zc Azt L3.1 ?h0 L3.2.1 ?h1 ?h2|refine Zc Azu L3.1 ?h0 L3.2.1 ?h1 ?h2|refine Zc Azv L3.1 ?h0 L3.2.1 ?h1 ?h2|refine Zc Azw L3.1 ?h0 L3.2.1 ?h1 ?h2))
    case h0=>omega
    case h1=>simp only[bW];repeat(first|exact fun _ h=>absurd h cF|refine⟨rfl,?_⟩)
    case h2=>
     intro z2 w4 ax ay az;obtain⟨ba,bb,bc⟩:=L3.2.2 z2 w4 ay az;go_wp2_with fail
     go_roundg f'
     case measure=>omega
     case rel=>
      rw[HQ.out];refine⟨acc++[x2],_,s3,by rw[aK];exact ax,ba,bb,⟨ac.out.1,ac.out.2.1⟩,?_,bc⟩;have:=ac.out.2.2;simp only[aK,List.length_singleton];omega
set_option maxHeartbeats 4000000
set_option maxRecDepth 100000
theorem A4j:Wn Ht 139 80 Az I5 69 8∧Wn Ht 136 137 Cp I5 76 3:=by
 refine⟨?_,?_⟩;have LL:=lists.1;rotate_left;have LL:=lists.2.2.2.2
 all_goals
  intro K T k hK p d hp hs a s w h he ha;have ah:=h.lt;have W1:=Fd a Dj s d w h (by decide) _ rfl;have ab:Ht p s=((Ia p _).1,Ce C9 _):=rfl;rw[ab];generalize Ce Dj s=s1 at W1⊢;have LF:=fun w1 (h1:Rd w1 a s1 d) (e1:Env w1)=>LL K T k hK p d hp hs a s1 w1 h1 e1 ha
  generalize Ia p s1=q at LF⊢;obtain⟨l,s2⟩:=q;simp only at LF⊢;clear ab hp hs LL hK
  first
   |go_enter Tryz.func139,Tryz.ntmps139
   |go_enter Tryz.func136,Tryz.ntmps136
  go_wp2_with(first
   |(go_fit W1;rintro e w1 ⟨rfl,ad,aa⟩;have L1:=LF w1 ad (he.but aa ha))
   |(go_fit L1;rintro e w2 ⟨sv,rfl,hL,ae,af⟩;have W2:=Fd a C9 s2 d w2 ae (by decide) _ rfl)
   |(go_fit W2;rintro e w3 ⟨rfl,ag,ac⟩))
  go_ret;have h1:=aa.size;exact⟨_,rfl,(hL.mono (fun k _ hk=>by omega)).keep (ac.keeps (show¬w.heap.size≤a by omega)),ag,(aa.trans af).trans ac⟩
theorem A16:H9 75 H6 Afc Aks 0:=by
 intro a s w h he ha;have B:=A4j.1 _ _ _ ⟨rfl,rfl,rfl⟩ Mg 0 (Aa9 Sr) Oh.shrinks a s w h he ha;have hr:Aks s=Ht Mg s:=rfl;rw[hr];generalize Ht Mg s=q at B⊢;obtain⟨l,s1⟩:=q;simp only at B⊢;clear hr;go_enter Tryz.func75,Tryz.ntmps75;go_wp2_with(go_fit B;rintro e w1 ⟨sv,rfl,hL,aa,ab⟩);go_ret;exact⟨[sv],rfl,⟨sv,rfl,hL⟩,aa,ab⟩
theorem Azx (a:Nat)(s:St)(d:Int)(w:aN)(h:Rd w a s d):
  bF aE 214 #[aJ (aH ⟨a,0,O⟩)] w fun e w'=>e=aS (D G (Lp s).1)∧Rd w' a (Lp s).2 d∧But a w w':=by
 cases hc:(Ag To s).1
 ·have e:Lp s=(2,Ce Zm s):=by simp only[Lp,hc,Bool.false_eq_true,if_false,Bo hc]
  rw[e];have SK:=Amw a To s d w h (by decide) hc;have WF:=fun w1 (h1:Rd w1 a s d)=>Fd a Zm s d w1 h1 (by decide) _ rfl
  clear hc e;go_enter Tryz.func214,Tryz.ntmps214;go_wp2_with(first
   |(go_fit SK;rintro e w1 ⟨rfl,aa,ab⟩;have W1:=WF w1 aa)
   |(go_fit W1;rintro e w2 ⟨rfl,ac,ad⟩))
  go_ret;exact⟨rfl,ac,ab.trans ad⟩
 ·have e:Lp s=(1,(Ag To s).2):=by simp only[Lp,hc,if_true]
  rw[e];have SK:=Amx a To s d w h (by decide) hc;clear hc e;go_enter Tryz.func214,Tryz.ntmps214;go_wp2_with(go_fit SK;rintro e w1 ⟨rfl,aa,ab⟩);go_ret;exact⟨rfl,aa,ab⟩
theorem As0 (d:Int):H9 137 Cp I5 O4 d:=by
 intro a s w h _ _;generalize e1:O4 s=q;go_enter Tryz.func137,Tryz.ntmps137;go_wp2_with fail;have M:=Do (T:=76) (z:=#[U noW,D G 0,bD bH]) h;generalize w.alloc (aC #[U noW,D G 0,bD bH] 76)=W at M⊢;go_fit(Gm a _ d _ M.rd);rintro e v ⟨rfl,hr,hb⟩;replace M:=M.call hb hr;go_wp2_with fail;go_fit(Azx a _ d _ M.rd);rintro e v ⟨rfl,hr,hb⟩;replace M:=M.call hb hr;go_wp2_with fail;go_fit(C6 a Va _ d _ M.rd (by decide));rintro e v ⟨rfl,hr,hb⟩;go_wp2_with(refine(M.call hb hr).put Aia (F:=fun _=>False) (q:=⟨(Bm s).1,(Lp (Bm s).2).1,(Ag Va (Lp (Bm s).2).2).1⟩) rfl nofun fun X H=>?_);subst e1;exact H.fin Aia Tryz.results137
theorem T6:E1 76 L8 0:=by
 intro a s w h he ha;generalize e1:L8 s=q;go_enter Tryz.func76,Tryz.ntmps76;go_wp2_with fail;have M:=Do (T:=69) (z:=E3) h;generalize w.alloc (aC E3 69)=W at M⊢;go_fit(C6 a Nz _ 0 _ M.rd (by decide));rintro e v ⟨rfl,hr,hb⟩;replace M:=M.call hb hr;cases h1:(Ag Nz s).1
 ·go_wp2_with(refine M.putE (Zi (fun _=>False) _) nofun fun X c H=>?_);obtain rfl:(E.nil,(Ag Nz s).2)=q:=by rw[←e1,L8,h1];rfl
  exact H.finE Tryz.results76
 ·go_wp2_with fail;go_fit(Sr a _ _ M.rd (M.env he ha) ha);rintro e v ⟨u,rfl,hE,hr,hb⟩;go_wp2_with(refine(M.call hb hr).putE hE M.new fun X c H=>?_);obtain rfl:Mg (Ag Nz s).2=q:=by rw[←e1,L8,h1];rfl
  exact H.finE Tryz.results76
theorem As1:H9 78 E8 I5 Rj 0:=by
 intro a s w h he ha;generalize e1:Rj s=q;go_enter Tryz.func78,Tryz.ntmps78;go_wp2_with fail;have M:=Do (T:=133) (z:=#[U noW,D G 0,D G 0,D G 0,U noW,U noW,U noW,D G 0,J O 0 0]) h;generalize w.alloc (aC #[U noW,D G 0,D G 0,D G 0,U noW,U noW,U noW,D G 0,J O 0 0] 133)=W at M⊢;go_fit(Gm a _ 0 _ M.rd);rintro e v ⟨rfl,hr,hb⟩;replace M:=M.call hb hr;go_wp2_with fail;go_fit(Fd a kEq _ 0 _ M.rd (by decide) _ rfl);rintro e v ⟨rfl,hr,hb⟩;replace M:=M.call hb hr;go_wp2_with fail;go_fit(Sr a _ _ M.rd (M.env he ha) ha);rintro e v2 ⟨u,rfl,hE,hr,hb⟩;obtain⟨op,⟨xk,xn,xs⟩,s4,nm,n,ao,k,cc,rfl⟩:=hE.shape;go_wp2_with(refine(M.call hb hr).put Ah9 (q:=((Bm s).1,_)) (c:=U (Bm s).1::(Af op ⟨xk,xn,xs⟩ s4 nm n (J ao k cc)).toList) ⟨_,rfl,rfl,hE⟩ M.new fun X H=>?_);subst e1;exact H.fin Ah9 Tryz.results78
theorem J7 (k)(w):bF aE 72 #[D G k] w fun e w'=>e=aS (aW (Ue k))∧Below w.heap.size w w':=by
 have b0:=Ab w (aC Bq 71);have h1:(Ue k).all _=bN:=Pv (B7 _ _ _) (B7 _ _ _) (B7 _ _ _) (B7 _ _ _) (B7 _ _ _) (B7 _ _ _) (B7 _ _ _);go_enter Tryz.func72,Tryz.ntmps72;go_wp2_with(refine aB rfl 71 _ _ rfl _ (Ue k) rfl rfl 71 Bq b0 D5 rfl h1 ?_);exact aI (v:=aW (Ue k)) (aF Tryz.results72 _ _ w.heap.size 71 _ _ _ rfl (Ao b0) aZ rfl D5) rfl ⟨rfl,Below.row ((aO _ _).alloc (aD _) _) (aD _) _⟩
theorem As2:(Tryz.prog.info? 69).map (·.size)=aH 8:=by kernel_rfl
theorem Agf {F}{w}{s}{c}(h:I6.R F w s c):c.toArray.all (·.oneCell')=bN∧c.toArray.size=20:=by
 have hl:c.length=20:=I6.len h;obtain⟨cols,rows,sets,frm,out,w8,order,rfl,h8,h1,h2,h3,h4,h5,h6,h7⟩:=h.is;refine⟨?_,by omega⟩;obtain⟨op,xk,xn,xs,sx,nm,n,ao,k,cap,rfl⟩:=Fh ⟨h8,h6⟩;exact Pv (Gf h1) (Gf h2) (Gf h3) (Gf h4) (Gf h5) (B7 _ _ _) (Gf h7)
theorem Z7 {P}{ops}{rest}{op}{a}{w}{Q}(aa:op.guard=O)(ty)(x y)(ho:op.op=.store ty x y)
  (b o) (v) (hx:a.eval x=aJ (aH ⟨b,o,O⟩)) (hy:a.eval y=v)
  (ht:w.there b o 1) (hi:(P.info? ty).map (·.size)=aH 1) (h1:v.oneCell'=bN)
  (h:aT P ops Q rest (a.put op.dst bM) (w.setCell ⟨b,o,O⟩ v)):aT P ops Q (op::rest) a w:=
 wpList_plain aa fun _ hK=>by
  have:=run_storeCells_cells (P:=P) b o [v] 0 w (fun j hj=>by simpa using(ht j (by omega)).1) (fun j hj=>by simpa using(ht j (by omega)).2) (fun x hx=>by grind);have hc:v.cells=#[v]:=by cases v<;>first|rfl|cases h1
  have hs:(storeVar ty ⟨b,o,O⟩ v).run P w=.ok () (w.setCell ⟨b,o,O⟩ v):=by
   cases hq:P.info? ty with
   |none=>grind
   |some i=>
    have hs:=by simpa[hq]using hi
    simp only[Nat.add_zero]at this;simp[storeVar,sizeOf,typeInfo,hq,hc,hs,this];rfl
  unfold Oper.wp execOp;simp only[ho,hx,hy,Instr.storeAt,Instr.sureAddr,Sem.run_bind,Sem.run_pure,Result.andThen_ok,hs];exact hK _ _ h
structure RqSt (a L:Nat) (w W:aN) (s:St) (st:Stm):Prop where
 rm:RmSt 71 Bq a w W s 0
 stm:∃c,W.heap[L]?=aH (aC c.toArray 71)∧I6.R (Fr (L+1)) W st c
 lt:w.heap.size<L
section
variable {a L:Nat}{w W W':aN}{s s':St}{st:Stm}{ops:Array Oper}{rest:List Oper}{o o':Oper}{act:Act}{Q:Exit→Act→aN→Prop}{x y x' y':Operand}
theorem RmSt.begun (h:RmSt 71 Bq a w W s 0){w1:aN}{k:Int}(hb:Below W.heap.size W w1)
  (g:∀X,RqSt a w1.heap.size w X s (Ai k)→aT aE ops Q rest (act.put o.dst bM) X)
  (ab:o.guard=O:=by rfl) (ho:o.op=.store 71 x y:=by rfl) (hx:act.eval x=aJ (aH ⟨w1.heap.size,0,O⟩):=by rfl) (hy:act.eval y=aW (Ue k):=by rfl):aT aE ops Q (o::rest) act (w1.alloc (aC Bq 71)):=by
 have hl:=aG h.room;have hz:=hb.size;have aa:=hb.alloc hz (aC Bq 71);refine aB ab _ x y ho _ _ hx hy _ _ (Ab w1 _) D5 rfl (Pv (B7 _ _ _) (B7 _ _ _) (B7 _ _ _) (B7 _ _ _) (B7 _ _ _) (B7 _ _ _) (B7 _ _ _)) (g _ ⟨⟨By ((aa.block _ hl).trans h.room) (by omega) _,(h.but.trans (.of_below aa)).row (by omega) _,(h.rd.below aa).row (by have:=h.lt;omega) _,h.lt⟩,⟨(Ue k).toList,Ao (Ab w1 _),?_⟩,by omega⟩);exact Nv (IsL.nil _ _ _) (IsL.nil _ _ _) (IsL.nil _ _ _) (IsL.nil _ _ _) (IsL.nil _ _ _) (Zi _ _) (IsL.nil _ _ _)
theorem RqSt.call (h:RqSt a L w W s st)(hb:But a W W')(hr:Rd W' a s' 0):RqSt a L w W' s' st:=by
 obtain⟨c,h1,h2⟩:=h.stm;have:=h.rm.lt;have:=h.lt;exact⟨h.rm.call hb hr,⟨c,Jw hb h1 (by omega),I6.keep (hb.keeps (show¬L+1≤a by omega)) h2⟩,h.lt⟩
theorem RqSt.alloc (h:RqSt a L w W s st)(x:Obj):RqSt a L w (W.alloc x) s st:=h.call (.of_below ((aO _ _).alloc (aD _) x)) (h.rm.rd.below ((aO _ _).alloc (aD _) x))
theorem RqSt.le (h:RqSt a L w W s st):L+1≤W.heap.size:=by obtain⟨c,h1,h2⟩:=h.stm;grind
theorem RqSt.new (h:RqSt a L w W s st):∀k,k<W'.heap.size→Fr W.heap.size k→Fr (L+1) k:=fun k _ hk=>aP h.le hk
theorem RqSt.sto (h:RqSt a L w W s st)(j:Nat){t:bC}{v:aR}(aa:Stm)
  (g:∀X,RqSt a L w X s aa→aT aE ops Q rest (act.put o.dst bM) X)
  (ab:o.guard=O:=by rfl) (ho:o.op=.store t x y:=by rfl) (hx:act.eval x=aJ (aH ⟨L,j,O⟩):=by rfl) (hy:act.eval y=v:=by rfl)
  (hs:∀c,I6.R (Fr (L+1)) W st c→I6.R (Fr (L+1)) W aa (c.set j v):=by
   intro c hc;obtain⟨_,_,_,_,_,_,_,_,_,_,_,_,_,_,_,_,_,_,_,_,_,_,rfl,_,_,_,_,_,_,_⟩:=Ba hc;exact Nv (by assumption) (by assumption) (by assumption) (by assumption) (by assumption) (by assumption) (by assumption))
  (h1:v.oneCell'=bN:=by rfl) (hi:(Tryz.prog.info? t).map (·.size)=aH 1:=by kernel_rfl) (hj:j<20:=by decide):aT aE ops Q (o::rest) act W:=by
 obtain⟨c,h2,h3⟩:=h.stm;have:=h.rm.lt;have:=h.lt;have hl:=(Agf h3).2;refine Z7 ab t x y ho L j v hx hy (fun i hi=>?_) hi h1 (g _ ⟨⟨P9 h.rm.room (by omega) _ _,h.rm.but.new (by omega) _ _,h.rm.rd.other (by omega) _ _,h.rm.lt⟩,⟨_,?_,I6.keep ((Keeps.refl _ _).set (show¬L+1≤L by omega) _ _) (hs c h3)⟩,h.lt⟩)
 ·have:i=0:=by omega
  subst this;exact⟨by rw[Aa h2 (bP (show j+0<_ by omega))];rfl,Aw h2 _⟩
 ·have:=upd h2 j v;grind
theorem Aif {P:aN→Prop}{L}(hP:∀W i v,P W→P (W.setCell ⟨L,i,O⟩ v)):∀(vs:List aR) (o:Nat) (W:aN),P W→P (W.setCells L o vs)
 |[],_,_,h=>h
 |_::vs,_,_,h=>Aif hP vs _ _ (hP _ _ _ h)
theorem RqSt.stoW (h:RqSt a L w W s st){e:E}{v:aR}(hE:IsE (Fr (L+1)) W e v)
  (g:∀X,RqSt a L w X s {st with wher:=e}→aT aE ops Q rest (act.put o.dst bM) X)
  (aa:o.guard=O:=by rfl) (ho:o.op=.store 69 x y:=by rfl) (hx:act.eval x=aJ (aH ⟨L,9,O⟩):=by rfl) (hy:act.eval y=v:=by rfl):aT aE ops Q (o::rest) act W:=by
 obtain⟨c,h2,h3⟩:=h.stm;have:=h.rm.lt;have:=h.lt;obtain⟨op,⟨xk,xn,xs⟩,s1,nm,n,ao,k,cc,rfl⟩:=hE.shape;obtain⟨_,_,_,_,_,_,_,_,_,_,_,_,_,_,_,_,_,_,_,_,_,_,rfl,i1,i2,i3,i4,i5,_,i7⟩:=Ba h3;have h4:=Aif (P:=fun X=>X.heap[w.heap.size]?=aH (aC Bq 71)∧But a w X∧Rd X a s 0∧Keeps (Fr (L+1)) W X) (L:=L) (fun X i u ⟨p1,p2,p3,p4⟩=>⟨P9 p1 (by omega) _ _,p2.new (by omega) _ _,p3.other (by omega) _ _,p4.set (show¬L+1≤L by omega) _ _⟩) (Af op ⟨xk,xn,xs⟩ s1 nm n (J ao k cc)).toList 9 W ⟨h.rm.room,h.rm.but,h.rm.rd,Keeps.refl _ _⟩;have h5:=upd (upd (upd (upd (upd (upd (upd (upd h2 9 (D G op)) 10 (D G xk)) 11 (D G xn)) 12 (U xs)) 13 (U s1)) 14 (U nm)) 15 (D G n)) 16 (J ao k cc);simp only[bO,cA,bY]at h5;refine wpList_store_mid aa _ x y ho L 9 _ hx hy (fun j hj=>?_) As2 (by simp[aY]) (g _ ⟨⟨h4.1,h4.2.1,h4.2.2.1,h.rm.lt⟩,⟨_,h5,I6.keep h4.2.2.2 (Nv i1 i2 i3 i4 i5 hE i7)⟩,h.lt⟩);have ab:j<8:=hj;exact⟨by rw[Aa h2 (bP (show 9+j<20 by omega))];rfl,Aw h2 _⟩
theorem RqSt.lds (h:RqSt a L w W s st)(g:∀X c,RmEnd I6 71 a w X s 0 st c→aT aE ops Q rest ((act.put o.dst (aW c.toArray)).put o'.dst bM) X)
  (aa:o.guard=O:=by rfl) (ho:o.op=.load 71 x:=by rfl) (hx:act.eval x=aJ (aH ⟨L,0,O⟩):=by rfl)
  (ab:o'.guard=O:=by rfl) (ac:o'.op=.store 71 x' y':=by rfl) (ad:∀v,(act.put o.dst v).eval x'=aJ (aH ⟨w.heap.size,0,O⟩):=by intro v;rfl) (ae:∀v,(act.put o.dst v).eval y'=v:=by intro v;rfl):aT aE ops Q (o::o'::rest) act W:=by
 obtain⟨c,h2,h3⟩:=h.stm;refine aL aa _ x ho L hx _ _ _ _ h2 aZ rfl (by rw[(Agf h3).2];exact D5) ?_;exact h.rm.put Bw h3 (fun k hk=>bE h.lt (Nat.le_of_succ_le hk)) (fun X hX=>g X c hX) ab ac (ad _) (ae _)
end
set_option maxHeartbeats 4000000
set_option maxRecDepth 100000
theorem Apc:H9 73 Ou Afc Bm 0:=by
 intro a s w h _ _;exact(Gm a s 0 w h).mono fun e w' ⟨h1,h2,h3⟩=>⟨[U _],h1,rfl,h2,h3⟩
theorem Awt:H9 42 I6 I5 Zt 0:=by
 intro a s w h he ha;simp only[Zt];go_enter Tryz.func42,Tryz.ntmps42;go_wp2_with fail;have M:=Do (T:=71) (z:=Bq) h;generalize w.alloc _=W at M⊢;go_fit(J7 3 W);rintro e X ⟨rfl,hb⟩;go_wp2_with(refine M.begun hb fun X S=>?_);go_fit(Fd a J8 _ 0 X S.rm.rd (by decide) _ rfl);rintro e v ⟨rfl,hr,hb⟩;replace S:=S.call hb hr;go_wp2_with(fail);go_fit(Gm a _ 0 _ S.rm.rd);rintro e v ⟨rfl,hr,hb⟩;replace S:=S.call hb hr;go_wp2_with(first|refine S.sto 1 _ fun X S=>?_|refine S.lds fun X c H=>?_);exact H.fin Bw Tryz.results42
theorem Aez:H9 71 I6 I5 Up 0:=by
 intro a s w h he ha;simp only[Up];go_enter Tryz.func71,Tryz.ntmps71;go_wp2_with fail;have M:=Do (T:=71) (z:=Bq) h;generalize w.alloc _=W at M⊢;go_fit(J7 2 W);rintro e X ⟨rfl,hb⟩;go_wp2_with(refine M.begun hb fun X S=>?_);go_fit(Gm a _ 0 _ S.rm.rd);rintro e v ⟨rfl,hr,hb⟩;replace S:=S.call hb hr;go_wp2_with(refine S.sto 1 _ fun X S=>?_);go_fit(Fd a kOn _ 0 X S.rm.rd (by decide) _ rfl);rintro e v ⟨rfl,hr,hb⟩;replace S:=S.call hb hr;go_wp2_with(fail);go_fit(Gm a _ 0 _ S.rm.rd);rintro e v ⟨rfl,hr,hb⟩;replace S:=S.call hb hr;go_wp2_with(refine S.sto 2 _ fun X S=>?_);go_fit(Fd a Dj _ 0 X S.rm.rd (by decide) _ rfl);rintro e v ⟨rfl,hr,hb⟩;replace S:=S.call hb hr;go_wp2_with(fail);go_fit(Gm a _ 0 _ S.rm.rd);rintro e v ⟨rfl,hr,hb⟩;replace S:=S.call hb hr;go_wp2_with(refine S.sto 3 _ fun X S=>?_);go_fit(Fd a C9 _ 0 X S.rm.rd (by decide) _ rfl);rintro e v ⟨rfl,hr,hb⟩;replace S:=S.call hb hr;go_wp2_with(refine S.lds fun X c H=>?_);exact H.fin Bw Tryz.results71
theorem Ae0:H9 70 I6 I5 Uo 0:=by
 intro a s w h he ha;simp only[Uo];go_enter Tryz.func70,Tryz.ntmps70;go_wp2_with fail;have M:=Do (T:=71) (z:=Bq) h;generalize w.alloc _=W at M⊢;go_fit(J7 1 W);rintro e X ⟨rfl,hb⟩;go_wp2_with(refine M.begun hb fun X S=>?_);go_fit(Gm a _ 0 _ S.rm.rd);rintro e v ⟨rfl,hr,hb⟩;replace S:=S.call hb hr;go_wp2_with(refine S.sto 1 _ fun X S=>?_);go_fit(A4j.2 _ _ _ ⟨rfl,rfl,rfl⟩ O4 0 (As0 0) Akt.shrinks a _ _ S.rm.rd (S.rm.env he ha) ha);rintro e v ⟨sv,rfl,hI,hr,hb⟩;obtain⟨ao,cp,rfl⟩:=hI.shape;replace hI:=hI.mono S.new;replace S:=S.call hb hr;go_wp2_with(first|refine S.sto 4 _ fun X S=>?_|refine S.lds fun X c H=>?_);exact H.fin Bw Tryz.results70
theorem Apd:H9 43 I6 I5 Rh 0:=by
 intro a s w h he ha;simp only[Rh];go_enter Tryz.func43,Tryz.ntmps43;go_wp2_with fail;have M:=Do (T:=71) (z:=Bq) h;generalize w.alloc _=W at M⊢;go_fit(J7 4 W);rintro e X ⟨rfl,hb⟩;go_wp2_with(refine M.begun hb fun X S=>?_);go_fit(Fd a Ajj _ 0 X S.rm.rd (by decide) _ rfl);rintro e v ⟨rfl,hr,hb⟩;replace S:=S.call hb hr;go_wp2_with(fail);go_fit(Gm a _ 0 _ S.rm.rd);rintro e v ⟨rfl,hr,hb⟩;replace S:=S.call hb hr;go_wp2_with(refine S.sto 2 _ fun X S=>?_);go_fit(Fd a Zn _ 0 X S.rm.rd (by decide) _ rfl);rintro e v ⟨rfl,hr,hb⟩;replace S:=S.call hb hr;go_wp2_with(fail);go_fit(lists.2.1 _ _ _ ⟨rfl,rfl,rfl⟩ Aks 0 A16 Aue.shrinks a _ _ S.rm.rd (S.rm.env he ha) ha);rintro e v ⟨sv,rfl,hI,hr,hb⟩;obtain⟨ao,cp,rfl⟩:=hI.shape;replace hI:=hI.mono S.new;replace S:=S.call hb hr;go_wp2_with(first|refine S.sto 5 _ fun X S=>?_|refine S.lds fun X c H=>?_);exact H.fin Bw Tryz.results43
theorem Ape:H9 44 I6 I5 Ri 0:=by
 intro a s w h he ha;simp only[Ri];go_enter Tryz.func44,Tryz.ntmps44;go_wp2_with fail;have M:=Do (T:=71) (z:=Bq) h;generalize w.alloc _=W at M⊢;go_fit(J7 5 W);rintro e X ⟨rfl,hb⟩;go_wp2_with(refine M.begun hb fun X S=>?_);go_fit(Fd a U9 _ 0 X S.rm.rd (by decide) _ rfl);rintro e v ⟨rfl,hr,hb⟩;replace S:=S.call hb hr;go_wp2_with(fail);go_fit(Gm a _ 0 _ S.rm.rd);rintro e v ⟨rfl,hr,hb⟩;replace S:=S.call hb hr;go_wp2_with(refine S.sto 2 _ fun X S=>?_);go_fit(T6 a _ _ S.rm.rd (S.rm.env he ha) ha);rintro e v ⟨y,rfl,hI,hr,hb⟩;replace hI:=IsE.mono S.new _ _ hI;replace S:=S.call hb hr;go_wp2_with(first|refine S.stoW hI fun X S=>?_|refine S.lds fun X c H=>?_);exact H.fin Bw Tryz.results44
theorem As3:H9 45 I6 I5 Rk 0:=by
 intro a s w h he ha;simp only[Rk];go_enter Tryz.func45,Tryz.ntmps45;go_wp2_with fail;have M:=Do (T:=71) (z:=Bq) h;generalize w.alloc _=W at M⊢;go_fit(J7 6 W);rintro e X ⟨rfl,hb⟩;go_wp2_with(refine M.begun hb fun X S=>?_);go_fit(Gm a _ 0 _ S.rm.rd);rintro e v ⟨rfl,hr,hb⟩;replace S:=S.call hb hr;go_wp2_with(refine S.sto 2 _ fun X S=>?_);go_fit(Fd a Aq7 _ 0 X S.rm.rd (by decide) _ rfl);rintro e v ⟨rfl,hr,hb⟩;replace S:=S.call hb hr;go_wp2_with(fail);go_fit(lists.2.2.1 _ _ _ ⟨rfl,rfl,rfl⟩ Rj 0 As1 Aku.shrinks a _ _ S.rm.rd (S.rm.env he ha) ha);rintro e v ⟨sv,rfl,hI,hr,hb⟩;obtain⟨ao,cp,rfl⟩:=hI.shape;replace hI:=hI.mono S.new;replace S:=S.call hb hr;go_wp2_with(refine S.sto 6 _ fun X S=>?_);go_fit(T6 a _ _ S.rm.rd (S.rm.env he ha) ha);rintro e v ⟨y,rfl,hI,hr,hb⟩;replace hI:=IsE.mono S.new _ _ hI;replace S:=S.call hb hr;go_wp2_with(first|refine S.stoW hI fun X S=>?_|refine S.lds fun X c H=>?_);exact H.fin Bw Tryz.results45
set_option maxHeartbeats 4000000
set_option maxRecDepth 100000
theorem Awu:H9 46 I6 I5 Us 0:=by
 intro a s w h he ha;simp only[Us];generalize e1:Afq s=q1;generalize e2:Ia Bm _=q2;generalize e3:L8 _=q3;generalize e4:Uq _=q4;generalize e5:Ur _=q5;go_enter Tryz.func46,Tryz.ntmps46;go_wp2_with fail;have M:=Do (T:=71) (z:=Bq) h;generalize w.alloc _=W at M⊢;go_fit(J7 7 W);rintro e X0 ⟨rfl,hb⟩;go_wp2_with(refine M.begun hb fun X S=>?_);generalize X0.heap.size=L at S⊢;go_fit(C6 a Zo _ 0 _ S.rm.rd (by decide));rintro e v ⟨rfl,hr,hb⟩;replace S:=S.call hb hr;clear hr hb M;go_upto_if 7 with fail
 go_cut[]from 6 to 12 (fun wx=>RqSt a L w wx q1.2 {Ai 7 with out:=q1.1})
 case first=>
  cases h1:(Ag Zo s).1
  ·go_wp2_with fail;go_fit(lists.1 _ _ _ ⟨rfl,rfl,rfl⟩ Mg 0 (Aa9 Sr) Oh.shrinks a _ _ S.rm.rd (S.rm.env he ha) ha);rintro e v ⟨sv,rfl,hI,hr,hb⟩;obtain⟨ao,cp,rfl⟩:=hI.shape;replace hI:=hI.mono S.new;replace S:=S.call hb hr;go_wp2_with(refine S.sto 8 _ fun X S=>?_);go_meet;rw[←e1,Afq,h1];grind
  ·go_wp2_with fail;go_meet;rw[←e1,Afq,h1];exact S
 clear S;go_wp2_with fail;go_fit(Fd a U9 _ 0 _ hcut.rm.rd (by decide) _ rfl);rintro e v ⟨rfl,hr,hb⟩;have S:=hcut.call hb hr;go_wp2_with fail;go_fit(lists.2.2.2.1 _ _ _ ⟨rfl,rfl,rfl⟩ Bm 0 Apc Arl.shrinks a _ _ S.rm.rd (S.rm.env he ha) ha);rintro e v ⟨sv,rfl,hI,hr,hb⟩;obtain⟨ao,cp,rfl⟩:=hI.shape;replace hI:=hI.mono S.new;replace S:=S.call hb hr;rw[e2]at hI S;go_wp2_with(refine S.sto 7 _ fun X S=>?_);go_fit(T6 a _ _ S.rm.rd (S.rm.env he ha) ha);rintro e v ⟨y,rfl,hI,hr,hb⟩;replace hI:=IsE.mono S.new _ _ hI;replace S:=S.call hb hr;rw[e3]at hI S;go_wp2_with(refine S.stoW hI fun X S=>?_);go_fit(C6 a Ny _ 0 _ S.rm.rd (by decide));rintro e v ⟨rfl,hr,hb⟩;replace S:=S.call hb hr;clear hr hb hI hcut;go_upto_if 25 with fail
 go_cut[]from 25 to 35 (fun wx=>RqSt a L w wx q4.2 {Ai 7 with out:=q1.1,frm:=q2.1,wher:=q3.1,order:=q4.1.1,down:=q4.1.2})
 case first=>
  cases h1:(Ag Ny _).1
  ·go_wp2_with fail;go_meet;rw[←e4,Uq,h1];exact S
  ·go_wp2_with fail;go_fit(Fd a kBy _ 0 _ S.rm.rd (by decide) _ rfl);rintro e v ⟨rfl,hr,hb⟩;replace S:=S.call hb hr;go_wp2_with fail;go_fit(Sr a _ _ S.rm.rd (S.rm.env he ha) ha);rintro e v ⟨y,rfl,hI,hr,hb⟩;replace hI:=IsE.mono S.new _ _ hI;replace S:=S.call hb hr;obtain⟨op,⟨xk,xn,xs⟩,s4,nm,n,ao,k,cc,rfl⟩:=hI.shape;have hL:=Aj7.2 (Abh hI S.le);replace S:=S.alloc (aC (Af op ⟨xk,xn,xs⟩ s4 nm n (J ao k cc)) 69);go_wp2_with(refine S.sto 17 _ fun X S=>?_);go_fit(C6 a Zl _ 0 _ S.rm.rd (by decide));rintro e v ⟨rfl,hr,hb⟩;replace S:=S.call hb hr;go_wp2_with(refine S.sto 18 _ fun X S=>?_);go_meet;rw[←e4,Uq,h1];grind
 clear S;go_wp2_with fail;go_fit(C6 a Rt _ 0 _ hcut.rm.rd (by decide));rintro e v ⟨rfl,hr,hb⟩;have S:=hcut.call hb hr;clear hr hb hcut;go_upto_if 37 with fail
 go_cut[]from 37 to 40 (fun wx=>RqSt a L w wx q5.2 {Ai 7 with out:=q1.1,frm:=q2.1,wher:=q3.1,order:=q4.1.1,down:=q4.1.2,n:=q5.1})
 case first=>
  cases h1:(Ag Rt _).1
  ·go_wp2_with fail;go_meet;rw[←e5,Ur,h1];exact S
  ·go_wp2_with fail;go_fit(Wl a _ 0 _ S.rm.rd (S.rm.env he ha));rintro e v ⟨rfl,hr,hb⟩;replace S:=S.call hb hr;go_wp2_with(refine S.sto 19 _ fun X S=>?_);go_meet;rw[←e5,Ur,h1];grind
 go_wp2_with(refine hcut.lds fun X c H=>?_);exact H.fin Bw Tryz.results46
theorem As4:H9 41 I6 I5 Nf 0:=by
 intro a s w h he ha;generalize e1:Nf s=q;go_enter Tryz.func41,Tryz.ntmps41;go_wp2_with fail;have M:=Do (T:=71) (z:=Bq) h;generalize w.alloc _=W at M⊢;go_fit(C6 a J8 _ 0 _ M.rd (by decide));rintro e v ⟨rfl,hr,hb⟩;replace M:=M.call hb hr;cases h1:(Ag J8 s).1
 ·go_wp2_with fail;go_fit(Fd a Xq _ 0 _ M.rd (by decide) _ rfl);rintro e v ⟨rfl,hr,hb⟩;replace M:=M.call hb hr;go_wp2_with fail;go_fit(Aez a _ _ M.rd (M.env he ha) ha);rintro e v2 ⟨c,rfl,hR,hr,hb⟩;go_wp2_with(refine(M.call hb hr).put Bw hR M.new fun X H=>?_);obtain rfl:Up _=q:=by rw[←e1,Nf,h1];rfl
  exact H.fin Bw Tryz.results41
 ·go_wp2_with fail;go_fit(Ae0 a _ _ M.rd (M.env he ha) ha);rintro e v2 ⟨c,rfl,hR,hr,hb⟩;go_wp2_with(refine(M.call hb hr).put Bw hR M.new fun X H=>?_);obtain rfl:Uo _=q:=by rw[←e1,Nf,h1];rfl
  exact H.fin Bw Tryz.results41
theorem Apf:H9 26 I6 I5 C4 0:=by
 intro a s w h he ha;generalize e1:C4 s=q;go_enter Tryz.func26,Tryz.ntmps26;go_wp2_with fail;have M:=Do (T:=71) (z:=Bq) h;generalize w.alloc _=W at M⊢;go_fit(C6 a Ji _ 0 _ M.rd (by decide));rintro e v ⟨rfl,hr,hb⟩;replace M:=M.call hb hr;cases h1:(Ag Ji s).1;rotate_left
 ·go_wp2_with fail;go_fit(As4 a _ _ M.rd (M.env he ha) ha);rintro e v2 ⟨c,rfl,hR,hr,hb⟩;go_wp2_with(refine(M.call hb hr).put Bw hR M.new fun X H=>?_);obtain rfl:Nf (Ag Ji s).2=q:=by simp[←e1,C4,h1]
  exact H.fin Bw aU
 rw[Bo h1]at M;go_wp2_with fail;go_fit(C6 a Sx _ 0 _ M.rd (by decide));rintro e v ⟨rfl,hr,hb⟩;replace M:=M.call hb hr;cases h2:(Ag Sx s).1;rotate_left
 ·go_wp2_with fail;go_fit(Awt a _ _ M.rd (M.env he ha) ha);rintro e v2 ⟨c,rfl,hR,hr,hb⟩;go_wp2_with(refine(M.call hb hr).put Bw hR M.new fun X H=>?_);obtain rfl:Zt (Ag Sx s).2=q:=by simp[←e1,C4,h1,h2]
  exact H.fin Bw aU
 rw[Bo h2]at M;go_wp2_with fail;go_fit(C6 a M7 _ 0 _ M.rd (by decide));rintro e v ⟨rfl,hr,hb⟩;replace M:=M.call hb hr;cases h3:(Ag M7 s).1;rotate_left
 ·go_wp2_with fail;go_fit(Apd a _ _ M.rd (M.env he ha) ha);rintro e v2 ⟨c,rfl,hR,hr,hb⟩;go_wp2_with(refine(M.call hb hr).put Bw hR M.new fun X H=>?_);obtain rfl:Rh (Ag M7 s).2=q:=by simp[←e1,C4,h1,h2,h3]
  exact H.fin Bw aU
 rw[Bo h3]at M;go_wp2_with fail;go_fit(C6 a M6 _ 0 _ M.rd (by decide));rintro e v ⟨rfl,hr,hb⟩;replace M:=M.call hb hr;cases h4:(Ag M6 s).1;rotate_left
 ·go_wp2_with fail;go_fit(Ape a _ _ M.rd (M.env he ha) ha);rintro e v2 ⟨c,rfl,hR,hr,hb⟩;go_wp2_with(refine(M.call hb hr).put Bw hR M.new fun X H=>?_);obtain rfl:Ri (Ag M6 s).2=q:=by simp[←e1,C4,h1,h2,h3,h4]
  exact H.fin Bw aU
 rw[Bo h4]at M;go_wp2_with fail;go_fit(C6 a M9 _ 0 _ M.rd (by decide));rintro e v ⟨rfl,hr,hb⟩;replace M:=M.call hb hr;cases h5:(Ag M9 s).1;rotate_left
 ·go_wp2_with fail;go_fit(As3 a _ _ M.rd (M.env he ha) ha);rintro e v2 ⟨c,rfl,hR,hr,hb⟩;go_wp2_with(refine(M.call hb hr).put Bw hR M.new fun X H=>?_);obtain rfl:Rk (Ag M9 s).2=q:=by simp[←e1,C4,h1,h2,h3,h4,h5]
  exact H.fin Bw aU
 rw[Bo h5]at M;go_wp2_with fail;go_fit(C6 a M8 _ 0 _ M.rd (by decide));rintro e v ⟨rfl,hr,hb⟩;replace M:=M.call hb hr;cases h6:(Ag M8 s).1;rotate_left
 ·go_wp2_with fail;go_fit(Awu a _ _ M.rd (M.env he ha) ha);rintro e v2 ⟨c,rfl,hR,hr,hb⟩;go_wp2_with(refine(M.call hb hr).put Bw hR M.new fun X H=>?_);obtain rfl:Us (Ag M8 s).2=q:=by simp[←e1,C4,h1,h2,h3,h4,h5,h6]
  exact H.fin Bw aU
 rw[Bo h6]at M;go_wp2_with fail;go_fit(Wi a s 0 _ M.rd);rintro e v ⟨rfl,hr,hb⟩;go_wp2_with(refine(M.call hb hr).put Bw (F:=fun _=>False) (c:=Bq.toList) (Nv (IsL.nil _ _ _) (IsL.nil _ _ _) (IsL.nil _ _ _) (IsL.nil _ _ _) (IsL.nil _ _ _) (Zi _ _) (IsL.nil _ _ _)) nofun fun X H=>?_);obtain rfl:(Stm.nil,O)=q:=by simp[←e1,C4,h1,h2,h3,h4,h5,h6]
 exact H.fin Bw aU
theorem Awv {F}{w}{s}{c}(h:I6.R F w s c):∃kd nm tb cl a1 k1 c1 a2 k2 c2 a3 k3 c3 a4 k4 c4 a5 k5 c5 op xk xn xs sx nx n8 a6 k6 c6 a7 k7 c7 dn nn,c=[D G kd,U nm,U tb,U cl,J a1 k1 c1,J a2 k2 c2,J a3 k3 c3,J a4 k4 c4,J a5 k5 c5,D G op,D G xk,D G xn,U xs,U sx,U nx,D G n8,J a6 k6 c6,J a7 k7 c7,bD dn,D G nn]:=by
 obtain⟨cols,rows,sets,frm,out,w8,order,rfl,h8,h1,h2,h3,h4,h5,h6,h7⟩:=h.is;obtain⟨op,xk,xn,xs,sx,nx,n8,a6,k6,c6,rfl⟩:=Fh ⟨h8,h6⟩;obtain⟨a1,c1,rfl⟩:=h1.shape;obtain⟨a2,c2,rfl⟩:=h2.shape;obtain⟨a3,c3,rfl⟩:=h3.shape;obtain⟨a4,c4,rfl⟩:=h4.shape;obtain⟨a5,c5,rfl⟩:=h5.shape;obtain⟨a7,c7,rfl⟩:=h7.shape;exact⟨_,_,_,_,a1,_,c1,a2,_,c2,a3,_,c3,a4,_,c4,a5,_,c5,op,xk,xn,xs,sx,nx,n8,a6,k6,c6,a7,_,c7,_,s.n,rfl⟩
theorem Apg {f}{acc}{x}{l}(hf:Bf (aH (x::l))≤f):
  ∃f',f'<f∧Ee f acc (aH (x::l))=Ee f' (acc++[(C4 (aH (x::l))).1]) (Ce N0 (C4 (aH (x::l))).2)∧Bf (Ce N0 (C4 (aH (x::l))).2)≤f'∧Bf (Ce N0 (C4 (aH (x::l))).2)+1≤Bf (aH (x::l)):=by
 have h1:=Aix.shrinks (aH (x::l));have h2:=Akz N0 (C4 (aH (x::l))).2;have h3:1≤Bf (aH (x::l)):=by simp[Bf]
 cases f with
 |zero=>omega
 |succ f=>exact⟨f,by omega,rfl,by omega,by omega⟩
theorem Azy:(Tryz.prog.info? 71).map (fun i=>(i.zero,i.size,i.bytes))=aH (aH (aW Bq),20,320):=by kernel_rfl
theorem Amy (a:Nat)(s:St)(w:aN)(h:Rd w a s 0)(he:Env w)(ha:8≤a):
  bF aE 18 #[aJ (aH ⟨a,0,O⟩)] w fun e w'=>∃sv ok,e=aS (.tuple #[sv,bD ok])∧IsL I6 (Fr w.heap.size) w' sv (Ee (Bf s) [] s).1∧(ok=bN↔(Ee (Bf s) [] s).2=aH [])∧But a w w':=by
 obtain⟨i0,hi,ax,ay,az⟩:=info_parts Azy;have ag:=h.lt;have bk:=h.len;generalize hR:Ee (Bf s) [] s=R;have HR:Hid _:=hR;clear hR;go_enter Tryz.func18,Tryz.ntmps18;go_wp2_with fail
 go_loopg[4] (Bf s) (fun f z wr=>∃acc cs σ,wr.ownsRow w.heap.size 71 20 z acc.length cs∧All I6 (FO w.heap.size z) wr acc cs∧Rd wr a σ 0∧Hid (R=Ee f acc σ∧Bf σ≤f)∧acc.length+Bf σ≤1600∧But a w wr)
 case atStart=>exact⟨[],[],s,World.ownsRow_nil _ _ _ _,rfl,h,⟨HR.out.symm,aD _⟩,by simp;omega,But.refl _ _⟩
 case round=>
  clear HR;obtain⟨acc,cs,σ,ah,al,am,HF,bl,ab⟩:=hrel;have an:Hid _:=al;clear al;have ba:Hid _:=am;obtain⟨x,r,b,hc,ac⟩:=am;obtain⟨d0,d1,d2,d3⟩:=hc.cells
  by_cases hx:x.size=0
  ·have bb:x.toList.isEmpty=bN:=by rw[Pi hx,Lib.toList_data];rfl
   have ai:Hid (R=(acc,σ)∧(b=bH↔σ=aH [])):=by
    rcases ac.empty hx with⟨rfl,rfl⟩|⟨rfl,rfl⟩
    ·exact⟨HF.out.1.trans A20.1,by simp⟩
    ·exact⟨HF.out.1.trans A20.2,by simp⟩
   clear HF ac hx;go_wp2_with fail;go_quiet(fail);go_wp2_with fail;go_ret2;refine⟨_,_,rfl,?_,?_,ab.trans (.of_below (below_drewN (aO _ _) _))⟩
   ·rw[ai.out.1];have g:IsL I6 (Fr w.heap.size) wr u4 acc:=⟨cs,Bp.of_own ah (fun k hk=>hk),All.mono (F:=FO w.heap.size u4) (fun k _ hk=>hk.1) an.out⟩;exact g.keep (Ak (below_drewN (aO _ _) _))
   ·rw[ai.out.1,←ai.out.2];cases b<;>simp
  ·have bb:x.toList.isEmpty=bH:=by rw[Lib.toList_data,J3 x (by omega)];rfl
   obtain⟨hσ,_,_,_⟩:=ac.at (by omega);obtain⟨f',bm,aa⟩:∃f',f'<gk∧Hid (R=Ee f' (acc++[(C4 σ).1]) (Ce N0 (C4 σ).2)∧Bf (Ce N0 (C4 σ).2)≤f'∧Bf (Ce N0 (C4 σ).2)+1≤Bf σ):=by
    have h2:=HF.out.2;have h1:=HF.out.1;rw[hσ]at h1 h2⊢;obtain⟨f',g1,g2,g3,g4⟩:=Apg (acc:=acc) h2;grind
   clear HF ac hσ hx;have CM:=Apf a σ wr ba.out (he.but ab ha) ha;generalize C4 σ=q at CM aa;obtain⟨st,s2⟩:=q;simp only at CM aa;have WF:=fun v h1=>Fd a N0 s2 0 v h1 (by decide)
   generalize Ce N0 s2=s3 at WF aa;have bc:Hid _:=aa.out.2.2;go_wp2_with(first
    |(go_fit CM;rintro e w3 ⟨c3,rfl,aj,bd,ad⟩;obtain⟨kd,nm,tb,cl,a1,k1,c1,a2,k2,c2,a3,k3,c3,a4,k4,c4,a5,k5,c5,op,xk,xn,xs,sx,nx,n8,a6,k6,c6,a7,k7,c7,dn,nn,rfl⟩:=Awv aj;simp only[I5];have ae:=(Uz ah ad ag).alloc (aC [D G kd,U nm,U tb,U cl,J a1 k1 c1,J a2 k2 c2,J a3 k3 c3,J a4 k4 c4,J a5 k5 c5,D G op,D G xk,D G xn,U xs,U sx,U nx,D G n8,J a6 k6 c6,J a7 k7 c7,bD dn,D G nn].toArray 71);have ap:=B8 w3 [D G kd,U nm,U tb,U cl,J a1 k1 c1,J a2 k2 c2,J a3 k3 c3,J a4 k4 c4,J a5 k5 c5,D G op,D G xk,D G xn,U xs,U sx,U nx,D G n8,J a6 k6 c6,J a7 k7 c7,bD dn,D G nn] 71;have aq:w.heap.size≤(w3.alloc (aC [D G kd,U nm,U tb,U cl,J a1 k1 c1,J a2 k2 c2,J a3 k3 c3,J a4 k4 c4,J a5 k5 c5,D G op,D G xk,D G xn,U xs,U sx,U nx,D G n8,J a6 k6 c6,J a7 k7 c7,bD dn,D G nn].toArray 71)).heap.size:=aP (ab.trans ad).size (by simp))
    |(at_builtin;go_must(refine cG _ rfl _ _ 47 rfl _ 71 i0 _ 20 320 Tryz.underlying47 hi ax ay az rfl (by simp) _ _ _ rfl ae _ 1 1 _ rfl rfl ap ?h1 (by simp only[bI];omega) (by omega) aq ?h2)))
   case h1=>simp only[bW];repeat(first|exact fun _ h=>absurd h cF|refine⟨rfl,?_⟩)
   case h2=>
    intro z2 w4 ar af _ be;have au:Below _ w3 (w3.alloc (aC [D G kd,U nm,U tb,U cl,J a1 k1 c1,J a2 k2 c2,J a3 k3 c3,J a4 k4 c4,J a5 k5 c5,D G op,D G xk,D G xn,U xs,U sx,U nx,D G n8,J a6 k6 c6,J a7 k7 c7,bD dn,D G nn].toArray 71)):=(aO _ _).alloc (aD _) _;have bf:=Rd.grown ae af (bd.below au) ag;have bg:=Aie ae af ((ab.trans ad).alloc _) (aD _);have av:Hid (All I6 (FO w.heap.size z2) w4 (acc++[st]) (cs++[D G kd,U nm,U tb,U cl,J a1 k1 c1,J a2 k2 c2,J a3 k3 c3,J a4 k4 c4,J a5 k5 c5,D G op,D G xk,D G xn,U xs,U sx,U nx,D G n8,J a6 k6 c6,J a7 k7 c7,bD dn,D G nn])):=by
     have bh:¬FO w.heap.size u4 a:=by intro hf;have:=hf.1;omega
     have g1:All I6 (FO w.heap.size u4) (w3.alloc (aC [D G kd,U nm,U tb,U cl,J a1 k1 c1,J a2 k2 c2,J a3 k3 c3,J a4 k4 c4,J a5 k5 c5,D G op,D G xk,D G xn,U xs,U sx,U nx,D G n8,J a6 k6 c6,J a7 k7 c7,bD dn,D G nn].toArray 71)) acc cs:=All.keep ((ad.keeps bh).alloc _) an.out;have bi:z2.ownBlock=u4.ownBlock∨z2.ownBlock=aH (w3.alloc (aC [D G kd,U nm,U tb,U cl,J a1 k1 c1,J a2 k2 c2,J a3 k3 c3,J a4 k4 c4,J a5 k5 c5,D G op,D G xk,D G xn,U xs,U sx,U nx,D G n8,J a6 k6 c6,J a7 k7 c7,bD dn,D G nn].toArray 71)).heap.size:=by rw[cC];exact be
     have bn:∀k,aH k=u4.ownBlock→k<wr.heap.size:=fun k e=>(ah.lt k e.symm).2
     have g2:All I6 (FO w.heap.size u4) (w3.alloc (aC [D G kd,U nm,U tb,U cl,J a1 k1 c1,J a2 k2 c2,J a3 k3 c3,J a4 k4 c4,J a5 k5 c5,D G op,D G xk,D G xn,U xs,U sx,U nx,D G n8,J a6 k6 c6,J a7 k7 c7,bD dn,D G nn].toArray 71)) [st] [D G kd,U nm,U tb,U cl,J a1 k1 c1,J a2 k2 c2,J a3 k3 c3,J a4 k4 c4,J a5 k5 c5,D G op,D G xk,D G xn,U xs,U sx,U nx,D G n8,J a6 k6 c6,J a7 k7 c7,bD dn,D G nn]:=All.keep (Ak au) (All.one (I6.mono (fun k _ hf=>⟨by have:wr.heap.size≤k:=hf;have:=ab.size;omega,fun e=>by grind⟩) aj));exact All.mono (fun k hk hf=>⟨hf.1,hf.2.2⟩) (All.keep (F:=fun k=>w.heap.size≤k∧aH k≠u4.ownBlock∧aH k≠z2.ownBlock) ⟨af.size,fun k hk hl=>af.block k hl hk.2.1⟩ (All.mono (fun k hk hf=>⟨hf.1,hf.2,(Ud bi k hk hf).2⟩) (g1.append g2)))
    have aw:w4.ownsRow w.heap.size 71 20 z2 (acc++[st]).length (cs++[D G kd,U nm,U tb,U cl,J a1 k1 c1,J a2 k2 c2,J a3 k3 c3,J a4 k4 c4,J a5 k5 c5,D G op,D G xk,D G xn,U xs,U sx,U nx,D G n8,J a6 k6 c6,J a7 k7 c7,bD dn,D G nn]):=by rw[aK];exact ar
    have bo:(acc++[st]).length=acc.length+1:=by simp
    clear ar ap aq ae aj CM;generalize cs++[D _ kd,U nm,U tb,U cl,J a1 k1 c1,J a2 k2 c2,J a3 k3 c3,J a4 k4 c4,J a5 k5 c5,D _ op,D _ xk,D _ xn,U xs,U sx,U nx,D _ n8,J a6 k6 c6,J a7 k7 c7,bD dn,D _ nn]=cs2 at aw av;go_wp2_with(go_fit(WF w4 bf _ rfl);rintro e w5 ⟨rfl,bj,ak⟩)
    go_roundg f'
    case measure=>omega
    case rel=>
     refine⟨_,cs2,s3,Uz aw ak ag,All.keep (ak.keeps (by omega)) av.out,bj,⟨aa.out.1,aa.out.2.1⟩,?_,bg.trans ak⟩;have:=bc.out;omega
def Bj (t:List UInt8):List Stm×Int:=
 if 1500<t.length then([],2)else match Ee (Bf (adv (Ie t))) [] (adv (Ie t))with
  |(l,aH [])=>if 6<l.length then([],2)else(l,0)
  |_=>([],1)
theorem As5 (t)(w)(he:Env w):
  bF aE 10 #[.string t] w fun e w'=>∃sv,e=.returned (.tuple #[sv,.int .i64 (Bj t.data.toList).2])∧IsL I6 (Fr w.heap.size) w' sv (Bj t.data.toList).1∧Below w.heap.size w w':=by
 by_cases hl:1500<t.size
 ·have e:Bj t.data.toList=([],2):=by rw[Bj,if_pos (by simp_all)]
  rw[e];have h1:(1500:Int)<t.size:=by omega
  go_enter Tryz.func10,Tryz.ntmps10;go_wp2_with fail;go_ret2;exact⟨_,rfl,IsL.nil _ _ _,aO _ _⟩
 ·have e:Bj t.data.toList=match Ee (Bf (adv (Ie t.data.toList))) [] (adv (Ie t.data.toList))with
    |(l,aH [])=>if 6<l.length then([],2)else(l,0)
    |_=>([],1):=by rw[Bj,if_neg (by simp_all)]
  have h1:¬(1500:Int)<t.size:=by omega
  have NR:=Ajh t w (by omega);generalize adv _=s at NR e;have CF:=fun a v hr e1 ha=>Amy a s v hr e1 ha
  generalize Ee _ [] s=R at CF e;obtain⟨l,sf⟩:=R;simp only at CF;have HE:Hid ((sf=aH []→Bj t.data.toList=if 6<l.length then([],2)else(l,0))∧(sf≠aH []→Bj t.data.toList=([],1))):=by
   constructor
   ·grind
   ·grind
  generalize Bj _=A at HE⊢;clear e;go_enter Tryz.func10,Tryz.ntmps10;go_wp2_with(go_fit NR;rintro e w1 ⟨a,rfl,ha,af,aa⟩);have ah:=he.low;go_fit(CF a w1 af (he.next aa) (by omega));rintro e w2 ⟨sv,ok,rfl,hL,ad,ag⟩;have ab:=aa.trans (ag.below ha aa.size);have ac:IsL I6 (Fr w.heap.size) w2 sv l:=hL.mono (fun k _ hk=>by have h1:w1.heap.size≤k:=hk;have:=aa.size;omega);obtain⟨ao,cp,rfl⟩:=ac.shape;have ae:Hid _:=ad;have HL:Hid _:=ac;clear ad hL ac;cases ok
  ·have hA:=HE.out.2 (fun h=>by have:=ae.out.2 h;grind);subst hA;go_wp2_with fail;go_ret2;exact⟨_,rfl,IsL.nil _ _ _,ab⟩
  ·have hA:=HE.out.1 (ae.out.1 rfl)
   by_cases h6:6<l.length
   ·rw[if_pos h6]at hA;subst hA;have g6:(6:Int)<l.length:=by omega
    go_wp2_with fail;go_ret2;exact⟨_,rfl,IsL.nil _ _ _,ab⟩
   ·rw[if_neg h6]at hA;subst hA;have g6:¬(6:Int)<l.length:=by omega
    go_wp2_with fail;go_ret2;exact⟨_,rfl,HL.out,ab⟩
mutual
theorem Aww:∀{e:E},Dd e→Ef e
 |.mk _ x s name _ l,h=>by
  rw[Dd]at h;rw[Ef];exact⟨h.1,Aqj h.2.2.2⟩
theorem Aqj:∀{l:List E},D7 l→Qe l
 |[],_=>by assumption
 |e::l,h=>by
  rw[D7]at h;rw[Qe];exact⟨Aww h.1,Aqj h.2⟩
end
def Sm (l:List Wd)(e:E):Prop:=e.nodes≤l.length∧Dd e
theorem Bx:noW.size≤bI:=Nat.zero_le _
theorem As6 {v}(h:good v=bN):v.s.size≤bI:=by
 have h8:v.s.size≤8:=by
  unfold good at h;split at h
  ·grind
  ·grind
 exact aP h8 (by simp[bI])
theorem Ae1 {w}{l}{v}(h:v.s.size≤bI):Sm (w::l) (Lv v):=by
 refine⟨by simp[Lv,E.nodes,Es],?_⟩;rw[Lv,Dd,D7];exact⟨h,Bx,Bx,trivial⟩
theorem Awx {w}{l}{a b}(h1:a.size≤bI)(h2:b.size≤bI):Sm (w::l) (Tk a b):=by
 refine⟨by simp[Tk,E.nodes,Es],?_⟩;rw[Tk,Dd,D7];exact⟨Fj,h1,h2,trivial⟩
theorem Ti {k}{l}(h:D7 l):Dd (Hi k l):=by
 rw[Hi,Dd];exact⟨Fj,Bx,Bx,h⟩
theorem Aig {a b}(h:Dd a)(h2:Dd b):D7 [a,b]:=by rw[D7,D7,D7];grind
theorem Aih {a}(h:Dd a):D7 [a]:=by rw[D7,D7];grind
theorem A17 {sub}(hs:∀l e,sub l e→Sm l e){l}{e}(h:Atom sub l e):Sm l e:=by
 cases h with
 |null=>exact Ae1 Fj
 |num h=>exact Ae1 Bx
 |neg h=>exact Ae1 Bx
 |text h1 h2=>exact Ae1 (As6 h2)
 |ref h=>exact Awx Bx (De h)
 |dot h1 h2=>exact Awx (De h1) (De h2)
 |br h=>
  have:=hs _ _ h;exact⟨by simp only[aM,aK];have:=this.1;omega,this.2⟩
theorem Aii (k)(a b):(Hi k [a,b]).nodes=a.nodes+b.nodes+1:=by rfl
theorem Aij (k)(a):(Hi k [a]).nodes=a.nodes+1:=by rfl
theorem Acg {P}{ops}(hs:∀l e,P l e→Sm l e){l}{e}(h:Chain P ops l e):Sm l e:=by
 induction h with
 |one h=>grind
 |more h1 h2 h3 ih=>
  have h4:=hs _ _ h3;refine⟨?_,Ti (Aig ih.2 h4.2)⟩;rw[Aii,aK,aM];have:=ih.1;have:=h4.1;omega
theorem A18 {S T}(hs:∀l e,S l e→Sm l e)(ht:∀l e,T l e→Sm l e){l}{e}(h:Test S T l e):Sm l e:=by
 cases h with
 |neg h=>
  have h4:=ht _ _ h;refine⟨?_,Ti (Aih h4.2)⟩;rw[Aij,aM];have:=h4.1;omega
 |sum h=>grind
 |is h=>
  have h4:=hs _ _ h;refine⟨?_,Ti (Aih h4.2)⟩;rw[Aij,aK];have:=h4.1;grind
 |cmp h1 h2 h3=>
  have h4:=hs _ _ h1;have h5:=hs _ _ h3;refine⟨?_,Ti (Aig h4.2 h5.2)⟩;rw[Aii,aK,aM];have:=h4.1;have:=h5.1;omega
theorem Aqk {sub T}(hs:∀l e,sub l e→Sm l e)(ht:∀l e,T l e→Sm l e):(∀l e,Ajn sub T l e→Sm l e)∧∀l e,S7 sub T l e→Sm l e:=by
 have h1:∀l e,S7 sub T l e→Sm l e:=fun l e h=>A18 (fun l e h=>Acg (fun l e h=>A17 hs h) h) ht h
 exact⟨fun l e h=>Acg (fun l e h=>Acg h1 h) h,h1⟩
theorem Amz:∀d,(∀l e,(Ko d).1 l e→Sm l e)∧∀l e,(Ko d).2 l e→Sm l e
 |0=>Aqk (fun _ _ h=>h.elim) (fun _ _ h=>h.elim)
 |d+1=>Aqk (Amz d).1 (Amz d).2
theorem Mx {l}{e}(h:S8 l e):Sm l e:=(Amz 5).1 l e h
theorem Sm.fit {l}{e}(h:Sm l e)(hl:l.length≤16777216):Fg e:=⟨aP h.1 hl,Aww h.2⟩
theorem Nq {α}{P}{l}{bs:List α}(h:ListG P l bs):bs.length≤l.length+1∧bs≠[]∧∀a∈bs,∃m,P m a∧m.length≤l.length:=by
 induction h with
 |one h=>grind
 |more h1 h2 ih=>
  grind
theorem Tj:∀{l:List E},(∀e∈l,Dd e)→D7 l
 |[],_=>by rw[D7];simp
 |e::l,h=>by rw[D7];exact⟨h e (by simp),Tj fun x hx=>h x (by grind)⟩
theorem Awy:Fg E.nil∧Dd E.nil:=by
 refine⟨⟨by simp[E.nil,E.nodes,Es],?_⟩,?_⟩
 ·rw[E.nil,Ef,Qe];exact⟨Fj,trivial⟩
 ·rw[E.nil,Dd,D7];exact⟨Fj,Bx,Bx,trivial⟩
theorem Wo {l}{e}(h:X8 l e)(hl:l.length≤1000000):Fg e∧Dd e:=by
 rcases h with⟨_,rfl⟩|⟨m,rfl,h⟩
 ·exact Awy
 ·have:=Mx h;exact⟨this.fit (by grind),this.2⟩
theorem Aik {l}{es}(h:ListG S8 l es)(hl:l.length≤999999):es.length≤1000000∧(∀e∈es,Fg e)∧(∀e∈es,Dd e):=by
 obtain⟨h1,_,h3⟩:=Nq h;refine⟨by omega,fun e he=>?_,fun e he=>?_⟩
 ·obtain⟨m,hm,aa⟩:=h3 e he;exact(Mx hm).fit (by omega)
 ·obtain⟨m,hm,aa⟩:=h3 e he;exact(Mx hm).2
theorem Azz {l:List Wd}{st:Stm}(h:StmG l st)(hl:l.length≤100000):FitC st:=by
 obtain⟨n1,n2⟩:=Awy;have f0:D7 ([]:List E):=by rw[D7];trivial
 cases h with
 |@table n cs l h1 h2=>
  obtain⟨a1,a2,a3⟩:=Nq h2;have ab:∀x,x∈cs→x.name.size≤bI:=fun x hx=>by
   obtain⟨m,hm,_⟩:=a3 x hx;exact De hm.1
  exact⟨⟨⟨by simp[Ai],by simp[Ai],f0,f0,n2,De h1,Bx,Bx,ab,by simp[Ai]⟩,De h1,ab,by simp[Ai],by simp[Ai],by simp[Ai],by simp[Ai],by simp[Ai],by simp[Ai],by simp[Ai]⟩,by simp[Ai],by simp[Ai],by simp[Ai],by simp[Ai],by simp[Ai],n1⟩
 |index h1 h2 h3=>
  exact⟨⟨⟨by simp[Ai],by simp[Ai],f0,f0,n2,De h1,De h2,De h3,fun x hx=>by simp[Ai]at hx,by simp[Ai]⟩,De h1,fun x hx=>by simp[Ai]at hx,by simp[Ai],by simp[Ai],by simp[Ai],by simp[Ai],by simp[Ai],by simp[Ai],by simp[Ai]⟩,by simp[Ai],by simp[Ai],by simp[Ai],by simp[Ai],by simp[Ai],n1⟩
 |drop h1=>
  exact⟨⟨⟨by simp[Ai],by simp[Ai],f0,f0,n2,De h1,Bx,Bx,fun x hx=>by simp[Ai]at hx,by simp[Ai]⟩,De h1,fun x hx=>by simp[Ai]at hx,by simp[Ai],by simp[Ai],by simp[Ai],by simp[Ai],by simp[Ai],by simp[Ai],by simp[Ai]⟩,by simp[Ai],by simp[Ai],by simp[Ai],by simp[Ai],by simp[Ai],n1⟩
 |@insert t l rs h1 h2=>
  obtain⟨a1,a2,a3⟩:=Nq h2;simp only[aM]at hl;have hr:∀r∈rs,(r.length≤1000000∧(∀e∈r,Fg e)∧∀e∈r,Dd e)∧r≠[]:=fun r hr=>by
   obtain⟨m,⟨m',rfl,hm⟩,aa⟩:=a3 r hr;simp only[aM,aK]at aa;exact⟨Aik hm (by omega),(Nq hm).2.1⟩
  exact⟨⟨⟨fun r h=>Tj (hr r h).1.2.2,by simp[Ai],f0,f0,n2,Bx,De h1,Bx,fun x hx=>by simp[Ai]at hx,by simp[Ai]⟩,Bx,fun x hx=>by simp[Ai]at hx,by grind,fun r h=>aP (hr r h).1.1 (by omega),by simp[Ai],by simp[Ai],by simp[Ai],by simp[Ai],by simp[Ai]⟩,by grind,fun r h=>⟨(hr r h).2,(hr r h).1.2.1⟩,by simp[Ai],by simp[Ai],by simp[Ai],n1⟩
 |@delete t w e h1 h2=>
  simp only[aM]at hl;obtain⟨b1,b2⟩:=Wo h2 (by omega);exact⟨⟨⟨by simp[Ai],by simp[Ai],f0,f0,b2,Bx,De h1,Bx,fun x hx=>by simp[Ai]at hx,by simp[Ai]⟩,Bx,fun x hx=>by simp[Ai]at hx,by simp[Ai],by simp[Ai],by simp[Ai],by simp[Ai],by simp[Ai],by simp[Ai],by simp[Ai]⟩,by simp[Ai],by simp[Ai],by simp[Ai],by simp[Ai],by simp[Ai],b1⟩
 |@update t l ss w e h1 h2 h3=>
  simp only[aM,aK]at hl;obtain⟨b1,b2⟩:=Wo h3 (by omega);obtain⟨a1,a2,a3⟩:=Nq h2;have hr:∀p∈ss,p.1.size≤bI∧Fg p.2∧Dd p.2:=fun p hp=>by
   obtain⟨m,⟨hn,m',rfl,hm⟩,aa⟩:=a3 p hp;simp only[aM]at aa;exact⟨De hn,(Mx hm).fit (by omega),(Mx hm).2⟩
  exact⟨⟨⟨by simp[Ai],fun p hp=>⟨(hr p hp).2.2,(hr p hp).1⟩,f0,f0,b2,Bx,De h1,Bx,fun x hx=>by simp[Ai]at hx,by simp[Ai]⟩,Bx,fun x hx=>by simp[Ai]at hx,by simp[Ai],by simp[Ai],by grind,fun p hp=>(hr p hp).1,by simp[Ai],by simp[Ai],by simp[Ai]⟩,by simp[Ai],by simp[Ai],fun p hp=>(hr p hp).2.1,by simp[Ai],by simp[Ai],b1⟩
 |@select o os f fs w e r es m n h1 h2 h3 h4 h5=>
  simp only[aM,aK]at hl;obtain⟨b1,b2⟩:=Wo h3 (by omega);have ac:∀s∈fs,s.size≤bI:=fun s hs=>by
   obtain⟨m,hm,_⟩:=(Nq h2).2.2 s hs;exact De hm.1
  have ho:os.length≤1000000∧(∀e∈os,Fg e)∧∀e∈os,Dd e:=by
   rcases h1 with⟨_,rfl⟩|h1
   ·simp
   ·exact Aik h1 (by omega)
  have hr:es.1.length≤1000000∧(∀e∈es.1,Fg e)∧∀e∈es.1,Dd e:=by
   rcases h4 with⟨_,rfl⟩|⟨m',e',hm,h6,rfl⟩
   ·simp
   ·simp only[aM,aK]at hl;rw[h6];refine⟨by simp,fun x hx=>?_,fun x hx=>?_⟩<;>rw[cB]at hx<;>subst hx
    ·exact(Mx hm).fit (by omega)
    ·exact(Mx hm).2
  exact⟨⟨⟨by simp[Ai],by simp[Ai],Tj ho.2.2,Tj hr.2.2,b2,Bx,Bx,Bx,fun x hx=>by simp[Ai]at hx,ac⟩,Bx,fun x hx=>by simp[Ai]at hx,by simp[Ai],by simp[Ai],by simp[Ai],by simp[Ai],aP ho.1 (by omega),aP hr.1 (by omega),ac⟩,by simp[Ai],by simp[Ai],by simp[Ai],ho.2.1,⟨hr.1,hr.2.1⟩,b1⟩
theorem Xg:∀(f:Nat) (acc:List Stm) (s:St) (az:List Stm),Bf s≤100000→Ee f acc s=(az,aH [])→(∀st∈acc,FitC st)→∀st∈az,FitC st
 |0,acc,s,az,_,h,ha=>by rw[Ee]at h;grind
 |f+1,acc,O,az,_,h,ha=>by rw[A20.1]at h;grind
 |f+1,acc,aH [],az,_,h,ha=>by rw[A20.2]at h;grind
 |f+1,acc,aH (w::l),az,hl,h,ha=>by
  rw[Ee]at h;cases h2:Ce N0 _ with
  |none=>rw[h2,A20.1]at h;grind
  |some r=>
   rw[h2]at h;obtain⟨h3,_⟩:=Dl h2;obtain⟨m,hm,hg⟩:=Aix _ _ _ (Prod.ext rfl h3);simp only[Option.some.injEq]at hm;have h4:=congrArg List.length hm;simp at h4;have ab:l.length+1≤100000:=by simpa[Bf]using hl
   refine Xg f _ _ az (by simp[Bf];omega) h fun st aa=>?_
   rcases List.mem_append.1 aa with aa|aa
   ·grind
   ·rw[cB]at aa;subst aa;exact Azz hg (by omega)
theorem As7 {t}:∀st∈(Bj t).1,FitC st:=by
 unfold Bj;split
 ·simp
 ·split
  ·rename_i h1 _ l hl;split
   ·simp
   ·obtain⟨ws,h2,_,h3⟩:=Apx t.length t (aD _);refine Xg _ _ _ _ ?_ hl (by simp);have h4:(Ie t).length≤2000:=by rcases h2 with h2|h2<;>rw[h2]<;>(try simp)<;>omega
    cases h5:adv _ with
    |none=>simp[Bf]
    |some r=>obtain⟨rfl,_⟩:=X5 h5;simp[Bf];omega
  simp
theorem As8 {t}:(Bj t).1.length≤6:=by
 unfold Bj;grind
def My:Rep:=⟨0,0,[]⟩
def Fu:Db→List Stm→Nat→Rep→Rep×Db
 |d,[],_,last=>(last,d)
 |d,s::l,i,_=>if(F8 d s).1.code=0 then Fu (F8 d s).2 l (i+1) (F8 d s).1 else(⟨(F8 d s).1.code,(i:Int)+1,[]⟩,(F8 d s).2)
def Ss:Db→List Stm→Bool→Bool
 |_,[],q=>q
 |d,s::l,q=>if(F8 d s).1.code=0 then Ss (F8 d s).2 l (Sn d s q)else Sn d s q
def doR (d:Db)(a:Int)(t:Wd):Rep×Db×Int:=
 if 150≤a then(⟨8,0,[]⟩,d,a)
 else if(Bj t.data.toList).2≠0 then(⟨(Bj t.data.toList).2,0,[]⟩,d,a+1)
 else if(Fu d (Bj t.data.toList).1 0 My).1.code=0 then((Fu d (Bj t.data.toList).1 0 My).1,(Fu d (Bj t.data.toList).1 0 My).2,a+1)
 else((Fu d (Bj t.data.toList).1 0 My).1,d,a+1)
def doQ (d:Db)(a:Int)(t:Wd)(q:Bool):Bool:=
 if 150≤a then q
 else if(Bj t.data.toList).2≠0 then q
 else if(Fu d (Bj t.data.toList).1 0 My).1.code=0 then Ss d (Bj t.data.toList).1 q
 else q
theorem Zd (t):∀(rows:List (List V)) (d:Db),(C7 t d rows).2=0∨(C7 t d rows).2=4∨(C7 t d rows).2=7∨(C7 t d rows).2=8
 |[],_=>.inl rfl
 |r::rows,d=>by
  unfold C7;split
  ·exact Zd t rows _
  ·exact Ahu d t r
theorem Am0 (d)(st):((F8 d st).1.code=0∨(F8 d st).1.code=1∨(F8 d st).1.code=3∨(F8 d st).1.code=4∨(F8 d st).1.code=5∨(F8 d st).1.code=7∨(F8 d st).1.code=8):=by
 unfold F8;split
 ·rename_i m hm;have:=Amr hm;grind
 ·rename_i b hb;unfold Fk;split
  ·simp
  split
  ·simp
  split
  ·simp
  split
  ·split
   ·rename_i t _;have:=Zd t (b.rows.map fun l=>l.map (ev [])) d;grind
   simp
  split
  ·grind
  split
  ·split
   ·rename_i t _;have:=Zd t (((d.R t.name).filter (At b.wher)).map (Gl t b.sets)) (d.upd t.name ((d.R t.name).filter fun r=>!At b.wher r));grind
   simp
  simp
theorem Ach:∀(l:List Stm) (d:Db) (i:Nat) (aa:Rep),aa.code=0→((Fu d l i aa).1.code=0∨(Fu d l i aa).1.code=1∨(Fu d l i aa).1.code=3∨(Fu d l i aa).1.code=4∨(Fu d l i aa).1.code=5∨(Fu d l i aa).1.code=7∨(Fu d l i aa).1.code=8)
 |[],_,_,_,h=>.inl h
 |s::l,d,i,aa,_=>by
  unfold Fu;split
  ·rename_i h;exact Ach l _ _ _ h
  ·exact Am0 d s
theorem Aba (t):(Bj t).2=0∨(Bj t).2=1∨(Bj t).2=2:=by
 unfold Bj;grind
theorem Dq.shape {base}{z}{A}{w}(h:Dq base z A w):∃vo vc,z=J vo A.length vc:=(Rb h).shape
theorem Cl.row {E}{w}(h:Cl E w){g}(hd:Dull w g)(hn:g∉E)(cells):Cl E (w.setRow g cells):=fun n aa=>by
 obtain⟨c,T,a,tv,iv,pv,h1,h2⟩:=h n aa;exact⟨c,T,a,tv,iv,pv,h1.row hd (fun e=>hn (by grind)) _,h2⟩
def A0h (n:Nat)(w:aN)(so:Option Addr)(sc:Nat)(ss:List Stm):Prop:=IsL I6 (fun k=>k<w.heap.size∧k≠n) w (J so ss.length sc) ss
theorem As9 {E:List Nat}{n:Nat}{d:Db}{a:Int}{w:aN}(hE:Cl E w)(hn:n∈E)(q:Bool)(he:Fl E w n d a q)(ok:DbOk d)(ss:List Stm)(so:Option Addr)(sc:Nat)(hs:A0h n w so sc ss)(hf:∀st∈ss,FitC st)(hl:ss.length≤6):
  bF aE 11 #[aJ (aH ⟨n,0,O⟩),J so ss.length sc] w fun e w'=>Ams E n (Fu d ss 0 My) a (Ss d ss q) w w' e:=by
 have cl:n<w.heap.size:=Cl.lt hE hn;have bc:∀k,w.heap.size≤k→k∉E:=fun k hk h=>by have:=Cl.lt hE h;omega
 obtain⟨aw,bA,bB,-⟩:=al2 w (aC #[D G 0,D G 0,J O 0 0] 32) (aC #[D G 0,D G 0,J O 0 0] 32);have HS:Hid _:=hs;have HF:Hid _:=hf;have bu:Hid _:=he;have bv:Hid _:=hE;have bw:Hid _:=ok;have bx:Hid _:=bc;clear hs hf he hE ok bc;go_enter Tryz.func11,Tryz.ntmps11;go_wp2_with fail
 go_loopw[10] (fun i wr=>∃(k:Nat) (d1:Db) (N:Int) (rows:List (List V)) (q1:Bool) (vo:Option Addr) (vc:Nat),k≤ss.length∧i=D G k∧Hid (Fu d ss 0 My=Fu d1 (ss.drop k) k ⟨0,N,rows⟩∧Ss d ss q=Ss d1 (ss.drop k) q1)∧Hid (Fl E wr n d1 a q1)∧Hid (DbOk d1)∧Hid (Cl E wr)∧wr.heap[w.heap.size]?=aH (aC #[D G 0,D G 0,J O 0 0] 32)∧wr.heap[w.heap.size+1]?=aH (aC #[D G 0,D G N,J vo rows.length vc] 32)∧Hid (Dq (w.heap.size+2) (J vo rows.length vc) rows wr)∧But n w wr) (fun i _=>ss.length-(intOf i).toNat)
 case atStart=>exact⟨0,d,0,[],q,O,0,Nat.zero_le _,rfl,⟨rfl,rfl⟩,Fl.below bu.out aw,bw.out,Cl.below bv.out aw,bA,bB,Cd _ _,But.of_below aw⟩
 case round=>
  obtain⟨k,d1,N,rows,q1,vo,vc,hk,rfl,ab,ax,bd,be,b4,b5,bf,aq⟩:=hrel
  by_cases bz:k<ss.length
  ·obtain⟨st,hx⟩:∃x,ss[k]?=aH x:=⟨_,List.getElem?_eq_getElem bz⟩;have bg:=HS.out.keep (aq.keeps fun h=>h.2 rfl);obtain⟨b,ca,cs,cb,_,hb,hR,bh⟩:=Av bg hx;cases cb;have bi:cs.length=20:=I6.len hR;have bj:wr.rangeAt b (ca+k*20) cs:=bh;have bk:(Tryz.prog.info? 71).map (·.size)=aH cs.length:=by rw[bi];exact D5
   have bl:(Tryz.prog.info? 71).map (·.size)=aH cs.toArray.size:=by rw[cE];exact bk
   have cc:cs.toArray.size=20:=by rw[cE];exact bi
   have bm:=(Agf hR).1;have bZ:=Ab wr (aC Bq 71);have bX:=Ao (cells:=cs.toArray) bZ;have ak:Below _ wr ((wr.alloc (aC Bq 71)).setRow _ cs.toArray):=Below.row (Aq wr _) (aD _) _;have bn:Hid _:=Sj hx;have cd:Hid _:=HF.out st (List.mem_of_getElem? hx);have v0:(0:Int)≤k:=by omega
   have v1:k<(ss.length:Int):=by omega
   have ce:=aq.size;have cf:Hid _:=I6.mono (fun k hk _=>hk) hR;clear bh bg hx hR;go_upto_region 5 with(first
    |(refine wpList_load_mid rfl 71 _ rfl b _ ?_ cs _ bj aZ ?_ ?_ ?_;exact rfl;exact rfl;exact bk)
    |(refine aB rfl 71 _ _ rfl wr.heap.size cs.toArray ?_ ?_ 71 Bq ?_ ?_ ?_ ?_ ?_;exact rfl;exact rfl;exact bZ;exact bl;exact cc.symm;exact bm))
   have ar:=(ak.block _ (aG b4)).trans b4;have am:=(ak.block _ (aG b5)).trans b5;have ay:Hid _:=Fl.below ax.out ak;have au:Hid _:=Cl.below be.out ak;have az:=aq.trans (But.of_below ak);have av:Hid _:=I6.keep (Ak ak) cf.out;clear bZ bj ak hb bm;generalize(wr.alloc _).setRow _ _=V at ar am ay au az av bX⊢;generalize wr.heap.size=g at bX av ce⊢;have HI:bF aE 19 #[aJ (aH ⟨n,0,O⟩),aW cs.toArray] V fun e w'=>Ams E n (F8 d1 st) a (Sn d1 st q1) V w' e:=by
    obtain⟨T,cg,tc,io,ic,po,pc,h1,h2,h3⟩:=ay.out;exact A1x au.out hn h1 bd.out h2 q1 h3 st cs (I6.mono (fun k hk _=>hk) av.out) cd.out
   have an:=Am0 d1 st;have ad:Hid (Fu d1 (ss.drop k) k ⟨0,N,rows⟩=if(F8 d1 st).1.code=0 then Fu (F8 d1 st).2 (ss.drop (k+1)) (k+1) (F8 d1 st).1 else(⟨(F8 d1 st).1.code,k+1,[]⟩,(F8 d1 st).2)):=by show _=_;rw[bn.out,Fu]
   have ac:Hid (Ss d1 (ss.drop k) q1=if(F8 d1 st).1.code=0 then Ss (F8 d1 st).2 (ss.drop (k+1)) (Sn d1 st q1)else Sn d1 st q1):=by show _=_;rw[bn.out,Ss]
   generalize Sn d1 st q1=q2 at HI ac;generalize F8 d1 st=p at HI ad ac an;obtain⟨⟨C,N2,af⟩,d2⟩:=p;simp only at an ad ac;go_upto_region 6 with(first
    |(go_fit HI;rintro e w8 ⟨⟨cm,rfl,ba⟩,ae⟩;obtain⟨ag,ah,rfl⟩:=ba.shape;have ap:=(ae.2.2.block _ (aG am) (by omega)).trans am;have bo:=(ae.2.2.block _ (aG ar) (by omega)).trans ar)
    |(refine aL rfl 71 _ rfl g ?_ 71 _ _ _ bX aZ ?_ ?_ ?_;exact rfl;exact rfl;exact bl)
    |(refine aB rfl 32 _ _ rfl (w.heap.size+1) #[D G C,D G N2,J ag af.length ah] ?_ ?_ 32 #[D G 0,D G N,J vo rows.length vc] ?_ ?_ ?_ ?_ ?_;exact rfl;exact rfl;exact ap;exact Ar;exact rfl;exact Cz _ _ _ _ _))
   have bb:=Ao (cells:=#[D G C,D G N2,J ag af.length ah]) ap;have aa:=By (g:=w.heap.size+1) bo (by omega) #[D G C,D G N2,J ag af.length ah];have ai:Hid _:=Fl.row ae.1 (Cm ap) (show n≠w.heap.size+1 by omega) #[D G C,D G N2,J ag af.length ah];have bp:Cl E w8:=by
    obtain⟨T,cg,tc,io,ic,po,pc,h1,_⟩:=ae.1;exact Cl.put au.out ae.2.2 hn h1 ae.2.1.cat
   have bq:Hid _:=Cl.row bp (Cm ap) (bx.out _ (show w.heap.size≤w.heap.size+1 by omega)) #[D G C,D G N2,J ag af.length ah];have aj:=(az.trans ae.2.2).rowB (show w.heap.size≤w.heap.size+1 by omega) #[D G C,D G N2,J ag af.length ah];have ch:w.heap.size+2≤V.heap.size:=by have:=aG am;omega
   have bt:Hid _:=(ba.base ch).row (show w.heap.size+1<w.heap.size+2 by omega) #[D G C,D G N2,J ag af.length ah];have al:Hid _:=ae.2.1;have c0:=Aa bb (j:=0) rfl;clear HI ae ba bo ap ar am bX ay au az av bp be ax bf;generalize w8.setRow _ _=Z at bb aa ai bq aj bt c0⊢;rcases an with rfl|an
   ·rw[if_pos rfl]at ad ac;go_wp2_with fail;go_roundw
    case rel=>exact⟨_,d2,N2,af,q2,ag,ah,by omega,by rfl,⟨ab.out.1.trans ad.out,ab.out.2.trans ac.out⟩,ai,al,bq,aa,bb,bt,aj⟩
    case measure=>simp[intOf];omega
   ·have cj:Hid (C≠0):=by show _≠_;omega
    rw[if_neg cj.out]at ad ac;have cn:k≤6:=by omega
    rcases an with rfl|rfl|rfl|rfl|rfl|rfl
    ·go_wp2_with(refine aB rfl 32 _ _ rfl w.heap.size #[D G 1,D G (k+1),J O 0 0] ?_ ?_ 32 #[D G 0,D G 0,J O 0 0] ?_ ?_ ?_ ?_ ?_;exact rfl;exact(by go_num);exact aa;exact Ar;exact rfl;exact Cz _ _ _ _ _);refine aI (v:=aW #[D G 1,D G ((k:Int)+1),J O 0 0]) (aF aV _ _ w.heap.size 32 #[D G 1,D G ((k:Int)+1),J O 0 0] _ _ rfl (Ao aa) aA rfl Ar) rfl ?_;rw[ab.out.1,ab.out.2,ad.out,ac.out];exact⟨⟨_,rfl,Cd _ _⟩,Fl.row ai.out (Cm aa) (show n≠w.heap.size by omega) _,al.out,aj.rowB (aD _) _⟩
    ·go_wp2_with(refine aB rfl 32 _ _ rfl w.heap.size #[D G 3,D G (k+1),J O 0 0] ?_ ?_ 32 #[D G 0,D G 0,J O 0 0] ?_ ?_ ?_ ?_ ?_;exact rfl;exact(by go_num);exact aa;exact Ar;exact rfl;exact Cz _ _ _ _ _);refine aI (v:=aW #[D G 3,D G ((k:Int)+1),J O 0 0]) (aF aV _ _ w.heap.size 32 #[D G 3,D G ((k:Int)+1),J O 0 0] _ _ rfl (Ao aa) aA rfl Ar) rfl ?_;rw[ab.out.1,ab.out.2,ad.out,ac.out];exact⟨⟨_,rfl,Cd _ _⟩,Fl.row ai.out (Cm aa) (show n≠w.heap.size by omega) _,al.out,aj.rowB (aD _) _⟩
    ·go_wp2_with(refine aB rfl 32 _ _ rfl w.heap.size #[D G 4,D G (k+1),J O 0 0] ?_ ?_ 32 #[D G 0,D G 0,J O 0 0] ?_ ?_ ?_ ?_ ?_;exact rfl;exact(by go_num);exact aa;exact Ar;exact rfl;exact Cz _ _ _ _ _);refine aI (v:=aW #[D G 4,D G ((k:Int)+1),J O 0 0]) (aF aV _ _ w.heap.size 32 #[D G 4,D G ((k:Int)+1),J O 0 0] _ _ rfl (Ao aa) aA rfl Ar) rfl ?_;rw[ab.out.1,ab.out.2,ad.out,ac.out];exact⟨⟨_,rfl,Cd _ _⟩,Fl.row ai.out (Cm aa) (show n≠w.heap.size by omega) _,al.out,aj.rowB (aD _) _⟩
    ·go_wp2_with(refine aB rfl 32 _ _ rfl w.heap.size #[D G 5,D G (k+1),J O 0 0] ?_ ?_ 32 #[D G 0,D G 0,J O 0 0] ?_ ?_ ?_ ?_ ?_;exact rfl;exact(by go_num);exact aa;exact Ar;exact rfl;exact Cz _ _ _ _ _);refine aI (v:=aW #[D G 5,D G ((k:Int)+1),J O 0 0]) (aF aV _ _ w.heap.size 32 #[D G 5,D G ((k:Int)+1),J O 0 0] _ _ rfl (Ao aa) aA rfl Ar) rfl ?_;rw[ab.out.1,ab.out.2,ad.out,ac.out];exact⟨⟨_,rfl,Cd _ _⟩,Fl.row ai.out (Cm aa) (show n≠w.heap.size by omega) _,al.out,aj.rowB (aD _) _⟩
    ·go_wp2_with(refine aB rfl 32 _ _ rfl w.heap.size #[D G 7,D G (k+1),J O 0 0] ?_ ?_ 32 #[D G 0,D G 0,J O 0 0] ?_ ?_ ?_ ?_ ?_;exact rfl;exact(by go_num);exact aa;exact Ar;exact rfl;exact Cz _ _ _ _ _);refine aI (v:=aW #[D G 7,D G ((k:Int)+1),J O 0 0]) (aF aV _ _ w.heap.size 32 #[D G 7,D G ((k:Int)+1),J O 0 0] _ _ rfl (Ao aa) aA rfl Ar) rfl ?_;rw[ab.out.1,ab.out.2,ad.out,ac.out];exact⟨⟨_,rfl,Cd _ _⟩,Fl.row ai.out (Cm aa) (show n≠w.heap.size by omega) _,al.out,aj.rowB (aD _) _⟩
    ·go_wp2_with(refine aB rfl 32 _ _ rfl w.heap.size #[D G 8,D G (k+1),J O 0 0] ?_ ?_ 32 #[D G 0,D G 0,J O 0 0] ?_ ?_ ?_ ?_ ?_;exact rfl;exact(by go_num);exact aa;exact Ar;exact rfl;exact Cz _ _ _ _ _);refine aI (v:=aW #[D G 8,D G ((k:Int)+1),J O 0 0]) (aF aV _ _ w.heap.size 32 #[D G 8,D G ((k:Int)+1),J O 0 0] _ _ rfl (Ao aa) aA rfl Ar) rfl ?_;rw[ab.out.1,ab.out.2,ad.out,ac.out];exact⟨⟨_,rfl,Cd _ _⟩,Fl.row ai.out (Cm aa) (show n≠w.heap.size by omega) _,al.out,aj.rowB (aD _) _⟩
  ·have ck:k=ss.length:=by omega
   subst ck;have v1:¬(ss.length<(ss.length:Int)):=by omega
   have HD:Hid (ss.drop _=[]):=List.drop_length;go_wp2_with(first
    |(refine aL rfl 32 _ rfl _ ?_ 32 _ _ _ b5 aA ?_ ?_ ?_;exact rfl;exact rfl;exact Ar)
    |(refine aB rfl 32 _ _ rfl (w.heap.size) #[D G 0,D G N,J vo rows.length vc] ?_ ?_ 32 #[D G 0,D G 0,J O 0 0] ?_ ?_ ?_ ?_ ?_;exact rfl;exact rfl;exact b4;exact Ar;exact rfl;exact Cz _ _ _ _ _))
   refine aI (v:=aW #[D G 0,D G N,J vo rows.length vc]) (aF aV _ _ w.heap.size 32 #[D G 0,D G N,J vo rows.length vc] _ _ rfl (Ao b4) aA rfl Ar) rfl ?_;rw[ab.out.1,ab.out.2,HD.out,Fu,Ss];exact⟨⟨_,rfl,(bf.out.row (show w.heap.size<w.heap.size+2 by omega) _).base (by omega)⟩,Fl.row ax.out (Cm b4) (show n≠w.heap.size by omega) _,bd.out,aq.rowB (aD _) _⟩
theorem EngC.mono {E E'}{w}{n}{c}{T}{a}{tv iv pv}(h:EngC E w n c T a tv iv pv)(hk:∀k,k<w.heap.size→k∉E→k∉E'):EngC E' w n c T a tv iv pv:=
 ⟨h.blk,h.tabs.mono hk,h.idxs.mono hk,h.pages.mono hk,h.good⟩
theorem Az0 {E}{w}{n}{c}{T}{a}{tv iv pv}(hE:Cl E w)(h:EngC E w n c T a tv iv pv)(hc:Ds c=bN)(z):
  Cl (w.heap.size::E) ((w.alloc (aC z 46)).setRow w.heap.size #[tv,iv,pv,D G a])∧EngC (w.heap.size::E) ((w.alloc (aC z 46)).setRow w.heap.size #[tv,iv,pv,D G a]) w.heap.size c T a tv iv pv∧Below w.heap.size w ((w.alloc (aC z 46)).setRow w.heap.size #[tv,iv,pv,D G a]):=by
 have hb:Below _ w ((w.alloc (aC z 46)).setRow _ #[tv,iv,pv,D G a]):=Below.row (Aq w _) (aD _) _;have hk:∀k,k<w.heap.size→k∉E→k∉w.heap.size::E:=fun k h1 h2 h3=>by grind
 have new:EngC (w.heap.size::E) ((w.alloc (aC z 46)).setRow w.heap.size #[tv,iv,pv,D G a]) w.heap.size c T a tv iv pv:=by
  have h1:=(h.mono hk).below hb;exact⟨Ao (Ab w _),h1.tabs,h1.idxs,h1.pages,h1.good⟩
 refine⟨fun m hm=>?_,new,hb⟩;rcases List.mem_cons.1 hm with rfl|hm
 ·grind
 ·obtain⟨c',T',a',aa,ab,ac,h1,h2⟩:=hE m hm;exact⟨c',T',a',aa,ab,ac,(h1.mono hk).below hb,h2⟩
theorem Az1 {E}{w}{m n}{c}{T}{a}{tv iv pv}(h:EngC (m::E) w m c T a tv iv pv)(hn:n∈E){old}(hb:w.heap[n]?=aH (aC old 46)):EngC E (w.setRow n #[tv,iv,pv,D G a]) n c T a tv iv pv:=by
 have hk:Keeps (fun k=>k∉m::E) w (w.setRow n #[tv,iv,pv,D G a]):=(Keeps.refl _ _).row (fun h=>h (bV _ hn)) _;have hm:∀k,k<(w.setRow n #[tv,iv,pv,D G a]).heap.size→k∉m::E→k∉E:=fun k _ h1 h2=>h1 (bV _ h2)
 exact⟨Ao hb,(h.tabs.keep hk).mono hm,(h.idxs.keep hk).mono hm,(h.pages.keep hk).mono hm,h.good⟩
theorem EngC.tick {E}{w}{n}{c}{T}{a}{tv iv pv}(h:EngC E w n c T a tv iv pv)(hn:n∈E)(a'):EngC E (w.setCell ⟨n,3,O⟩ (D G a')) n c T a' tv iv pv:=by
 have hk:Keeps _ w (w.setCell _ (D G a')):=Jq ((But.refl n w).set 3 _) hn;exact⟨Dh h.blk 3 _,h.tabs.keep hk,h.idxs.keep hk,h.pages.keep hk,h.good⟩
theorem But.newB {a m}{u v w}(h:But a u v)(k:But m v w)(hm:u.heap.size≤m):But a u w:=
 ⟨k.os.trans h.os,k.tape.trans h.tape,k.output.trans h.output,aP h.size k.size,fun i hi hn=>(k.block i (bE hi h.size) (by omega)).trans (h.block i hi hn)⟩
theorem But.same {a}{u v}(h:But a u v)(cells):But a u (v.setRow a cells):=
 ⟨h.os,h.tape,h.output,by simp[bJ];exact h.size,fun k hk hn=>by
  rw[←h.block k hk hn];simp only[bJ,bS];grind⟩
theorem A19 {B}{w W}{so}{sc}{ss}(h:IsL I6 (Fr B) w (J so ss.length sc) ss)(hb:Below w.heap.size w W):A0h w.heap.size W so sc ss:=by
 refine((h.mono fun k hk _=>hk).keep (Ae hb)).mono fun k hk h=>⟨hk,by omega⟩
theorem Aql (a b c:Option Addr)(n m k n' m' k':Nat)(x:Int):(#[J a n n',J b m m',J c k k',D G x]:Array aR).all (·.oneCell')=bN:=by simp[aY]
theorem Wp:(Tryz.prog.info? 46).map (·.size)=aH 4:=by kernel_rfl
def A0i (E:List Nat)(n:Nat)(p:Rep×Db×Int)(q:Bool)(w w':aN)(e:Ending):Prop:=(∃rv,e=aS (aW #[D G p.1.code,D G p.1.n,rv])∧Dq w.heap.size rv p.1.rows w')∧Fl E w' n p.2.1 p.2.2 q∧DbOk p.2.1∧But n w w'
theorem Ae2 {E:List Nat}{n:Nat}{d:Db}{a:Int}{w:aN}(hE:Cl E w)(hn:n∈E)(q:Bool)(cl:Fl E w n d a q)(ok:DbOk d)(ha:0≤a)(cm:Env w)(cn:8≤n)(t:Wd):
  bF aE 6 #[aJ (aH ⟨n,0,O⟩),aW #[U t]] w fun e w'=>A0i E n (doR d a t) (doQ d a t q) w w' e:=by
 obtain⟨T,ac,tc,io,ic,po,pc,he,ae,hq⟩:=cl;have cy:n<w.heap.size:=he.lt;obtain⟨aj,bT,bR,-⟩:=al2 w (aC #[U t] 24) (aC #[D G 0,D G 0,J O 0 0] 32);have an:=he.below aj;have bk:=hE.below aj;have bl:=cm.next aj;generalize hW:((w.alloc (aC #[U t] 24)).alloc (aC #[D G 0,D G 0,J O 0 0] 32))=W2 at aj bT bR an bk bl;have HW:Hid _:=hW;have v3:=Aa an.blk (j:=3) rfl;have f3:W2.frozen? ⟨n,3,O⟩=bH:=by simp[World.frozen?,an.blk]
 have v9:=Aa bT (j:=0) rfl;have cz:=aj.size;clear hW
 by_cases aw:150≤a
 ·have HE:Hid (doR d a t=(⟨8,0,[]⟩,d,a)):=by show _=_;rw[doR,if_pos aw]
  have HQ:Hid (doQ d a t q=q):=by show _=_;rw[doQ,if_pos aw]
  go_enter Tryz.func6,Tryz.ntmps6;go_upto_region 1 with fail;rw[HW.out];go_wp2_with(refine aB rfl 32 _ _ rfl (w.heap.size+1) #[D G 8,D G 0,J O 0 0] ?_ ?_ 32 #[D G 0,D G 0,J O 0 0] ?_ ?_ ?_ ?_ ?_;exact rfl;exact rfl;exact bR;exact Ar;exact rfl;exact Cz _ _ _ _ _);refine aI (v:=aW #[D G 8,D G 0,J O 0 0]) (aF aQ _ _ (w.heap.size+1) 32 #[D G 8,D G 0,J O 0 0] _ _ rfl (Ao bR) aA rfl Ar) rfl ?_;rw[HE.out,HQ.out];exact⟨⟨_,rfl,Cd _ _⟩,⟨T,ac,tc,io,ic,po,pc,an.row (Cm bR) (show n≠w.heap.size+1 by omega) _,ae,hq⟩,ok,(But.of_below aj).rowB (by omega) _⟩
 ·have da:a≤149:=by omega
  have ax:∀W,But n W2 W→bF aE 10 #[U t] W _:=fun W h=>As5 t W (bl.but h cn)
  have ay:=Aba t.data.toList;have ce:Hid (∀st∈(Bj t.data.toList).1,FitC st):=As7;have cf:Hid ((Bj t.data.toList).1.length≤6):=As8;have HE:Hid (doR d a t=if(Bj t.data.toList).2≠0 then(⟨(Bj t.data.toList).2,0,[]⟩,d,a+1)
    else if(Fu d (Bj t.data.toList).1 0 My).1.code=0 then((Fu d (Bj t.data.toList).1 0 My).1,(Fu d (Bj t.data.toList).1 0 My).2,a+1)
    else((Fu d (Bj t.data.toList).1 0 My).1,d,a+1)):=by show _=_;rw[doR,if_neg aw]
  have HQ:Hid (doQ d a t q=if(Bj t.data.toList).2≠0 then q else if(Fu d (Bj t.data.toList).1 0 My).1.code=0 then Ss d (Bj t.data.toList).1 q else q):=by show _=_;rw[doQ,if_neg aw]
  generalize(Bj t.data.toList).1=ss at ax ce cf HE HQ;generalize(Bj t.data.toList).2=e2 at ax ay HE HQ;have h5:=(But.refl n W2).set 3 (D G (a+1));have az:=an.tick hn (a+1);have bm:Cl E (W2.setCell ⟨n,3,O⟩ (D G (a+1))):=bk.put h5 hn az ok.cat;have ba:=(h5.block _ (aG bR) (by omega)).trans bR;have bn:=(h5.block _ (aG bT) (by omega)).trans bT;have cg:=Aa bn (j:=0) rfl;have bo:=ax _ h5;have co:=h5.size;go_enter Tryz.func6,Tryz.ntmps6;go_upto_region 1 with fail;rw[HW.out];go_upto_region 6 with fail;generalize W2.setCell ⟨n,3,O⟩ (D G (a+1))=W5 at h5 az bm ba bn cg bo co⊢;clear ax;go_upto_region 7 with(go_fit bo;rintro e w6 ⟨db,rfl,bp,ap⟩);obtain⟨so,sc,rfl⟩:=bp.shape;have ak:=az.below ap;have ch:=bm.below ap;have af:=(ap.block _ (aG ba)).trans ba;have bq:=((But.of_below aj).trans h5).trans (But.of_below (a:=n) ap);have dc:=ap.size;have dd:=aG af;clear bo az bm ba bn cg v9 v3 f3 an bk bT bl;rcases ay with rfl|ay
  ·rw[if_neg (by simp)]at HE HQ;obtain⟨bt,bb,aq⟩:=Az0 ch ak ok.cat #[J O 0 0,J O 0 0,J O 0 0,D G 0];have bu:=A19 bp aq;have ar:=(aq.block _ (aG af)).trans af;have bc:=(aq.block _ (aG ak.blk)).trans ak.blk;have bZ:=Ab w6 (aC #[J O 0 0,J O 0 0,J O 0 0,D G 0] 46);have b6:=ak.blk;have hM:w6.heap.size<((w6.alloc (aC #[J O 0 0,J O 0 0,J O 0 0,D G 0] 46)).setRow w6.heap.size #[J ac d.c.tables.length tc,J io d.c.indexes.length ic,J po T.length pc,D G (a+1)]).heap.size:=bb.lt;go_upto_region 10 with(first
    |(refine aL rfl 46 _ rfl n ?_ 46 _ (0,0) _ b6 cD ?_ ?_ ?_;exact rfl;exact rfl;exact Wp)
    |(refine aB rfl 46 _ _ rfl w6.heap.size #[J ac d.c.tables.length tc,J io d.c.indexes.length ic,J po T.length pc,D G (a+1)] ?_ ?_ 46 #[J O 0 0,J O 0 0,J O 0 0,D G 0] ?_ ?_ ?_ ?_ ?_;exact rfl;exact rfl;exact bZ;exact Wp;exact rfl;exact Aql _ _ _ _ _ _ _ _ _ _))
   clear bZ b6;generalize(w6.alloc (aC #[J O 0 0,J O 0 0,J O 0 0,D G 0] 46)).setRow w6.heap.size #[J ac d.c.tables.length tc,J io d.c.indexes.length ic,J po T.length pc,D G (a+1)]=W9 at bt bb aq bu ar bc hM⊢;have bd:=As9 bt (List.mem_cons_self) q ⟨T,ac,tc,io,ic,po,pc,bb,ae,hq⟩ ok ss so sc bu ce.out cf.out;have av:=Ach ss d 0 My rfl;have cp:=bq.trans (But.of_below (a:=n) aq);generalize Ss d ss q=q2 at bd HQ;generalize Fu d ss 0 My=p at bd HE HQ av;obtain⟨⟨C,N2,aa⟩,d2⟩:=p;simp only at HE HQ av;have cq:w6.heap.size≠n:=by omega
   go_upto_region 11 with(first
    |(go_fit bd;rintro e ad ⟨⟨rv,rfl,bv⟩,cr⟩;obtain⟨vo,vc,rfl⟩:=bv.shape;have bw:=Ab ad (aC #[D G 0,D G 0,J O 0 0] 32))
    |(refine aB rfl 32 _ _ rfl ad.heap.size #[D G C,D G N2,J vo aa.length vc] ?_ ?_ 32 #[D G 0,D G 0,J O 0 0] ?_ ?_ ?_ ?_ ?_;exact rfl;exact rfl;exact bw;exact Ar;exact rfl;exact Cz _ _ _ _ _))
   obtain⟨⟨T2,be,bf,bg,bh,bi,bj,cj,cs,ct⟩,cu,ag⟩:=cr;have al:Below ad.heap.size ad ((ad.alloc (aC #[D G 0,D G 0,J O 0 0] 32)).setRow ad.heap.size #[D G C,D G N2,J vo aa.length vc]):=Below.row (Aq ad _) (aD _) _;have bQ:=Ao (cells:=#[D G C,D G N2,J vo aa.length vc]) bw;have bx:=cj.below al;have bz:=(ag.block _ (aG ar) (by omega)).trans ar;have ca:=(ag.block _ (aG bc) (Ne.symm cq)).trans bc;have ab:=(al.block _ (aG bz)).trans bz;have cb:=(al.block _ (aG ca)).trans ca;have ah:=(cp.newB ag (by omega)).trans (But.of_below (a:=n) al);have ai:=bv.below al;have ck:Below w6.heap.size w6 ((ad.alloc (aC #[D G 0,D G 0,J O 0 0] 32)).setRow ad.heap.size #[D G C,D G N2,J vo aa.length vc]):=(aq.trans (ag.below (aD _) (bL hM))).trans (al.mono (aP (bL hM) ag.size));have cv:w.heap.size+1<ad.heap.size:=by have:=ag.size;have:=aG ar;omega
   have c0:=Aa bQ (j:=0) rfl;have am:w.heap.size+1<W9.heap.size:=aG ar;have cx:=ag.size;clear bd bw cj bz ca al bv ag bt bb bu ar bc ch af ap bp;generalize(ad.alloc (aC #[D G 0,D G 0,J O 0 0] 32)).setRow ad.heap.size #[D G C,D G N2,J vo aa.length vc]=Y at bQ bx ab cb ah ai ck c0⊢;generalize ad.heap.size=g at bQ cv c0 cx⊢;rcases av with rfl|av
   ·rw[if_pos rfl]at HE HQ;have cc:=By (g:=n) ab (show w.heap.size+1≠n by omega) #[J be d2.c.tables.length bf,J bg d2.c.indexes.length bh,J bi T2.length bj,D G (a+1)];go_wp2_with(first
     |(refine aL rfl 46 _ rfl w6.heap.size ?_ 46 _ (0,0) _ bx.blk cD ?_ ?_ ?_;exact rfl;exact rfl;exact Wp)
     |(refine aB rfl 46 _ _ rfl n #[J be d2.c.tables.length bf,J bg d2.c.indexes.length bh,J bi T2.length bj,D G (a+1)] ?_ ?_ 46 #[J ac d.c.tables.length tc,J io d.c.indexes.length ic,J po T.length pc,D G (a+1)] ?_ ?_ ?_ ?_ ?_;exact rfl;exact rfl;exact cb;exact Wp;exact rfl;exact Aql _ _ _ _ _ _ _ _ _ _)
     |(refine aL rfl 32 _ rfl g ?_ 32 _ (0,0) _ (By (g:=n) bQ (show g≠n by omega) #[J be d2.c.tables.length bf,J bg d2.c.indexes.length bh,J bi T2.length bj,D G (a+1)]) aA ?_ ?_ ?_;exact rfl;exact rfl;exact Ar)
     |(refine aB rfl 32 _ _ rfl (w.heap.size+1) #[D G 0,D G N2,J vo aa.length vc] ?_ ?_ 32 #[D G 0,D G 0,J O 0 0] ?_ ?_ ?_ ?_ ?_;exact rfl;exact rfl;exact cc;exact Ar;exact rfl;exact Cz _ _ _ _ _))
    refine aI (v:=aW #[D G 0,D G N2,J vo aa.length vc]) (aF aQ _ _ (w.heap.size+1) 32 #[D G 0,D G N2,J vo aa.length vc] _ _ rfl (Ao cc) aA rfl Ar) rfl ?_;rw[HE.out,HQ.out];refine⟨⟨_,rfl,((ai.row (show n<W9.heap.size by omega) _).row am _).base (by omega)⟩,⟨T2,be,bf,bg,bh,bi,bj,(Az1 bx hn cb).row (Cm cc) (show n≠w.heap.size+1 by omega) _,cs,ct⟩,cu,(ah.same _).rowB (by omega) _⟩
   ·have cd:Hid (C≠0):=by show _≠_;omega
    rw[if_neg cd.out]at HE HQ;have au:=ak.below ck;rcases av with rfl|rfl|rfl|rfl|rfl|rfl
    ·go_wp2_with(first
      |(refine aL rfl 32 _ rfl g ?_ 32 _ (0,0) _ bQ aA ?_ ?_ ?_;exact rfl;exact rfl;exact Ar)
      |(refine aB rfl 32 _ _ rfl (w.heap.size+1) #[D G 1,D G N2,J vo aa.length vc] ?_ ?_ 32 #[D G 0,D G 0,J O 0 0] ?_ ?_ ?_ ?_ ?_;exact rfl;exact rfl;exact ab;exact Ar;exact rfl;exact Cz _ _ _ _ _))
     refine aI (v:=aW #[D G 1,D G N2,J vo aa.length vc]) (aF aQ _ _ (w.heap.size+1) 32 #[D G 1,D G N2,J vo aa.length vc] _ _ rfl (Ao ab) aA rfl Ar) rfl ?_;rw[HE.out,HQ.out];exact⟨⟨_,rfl,(ai.row am _).base (by omega)⟩,⟨T,ac,tc,io,ic,po,pc,au.row (Cm ab) (show n≠w.heap.size+1 by omega) _,ae,hq⟩,ok,ah.rowB (by omega) _⟩
    ·go_wp2_with(first
      |(refine aL rfl 32 _ rfl g ?_ 32 _ (0,0) _ bQ aA ?_ ?_ ?_;exact rfl;exact rfl;exact Ar)
      |(refine aB rfl 32 _ _ rfl (w.heap.size+1) #[D G 3,D G N2,J vo aa.length vc] ?_ ?_ 32 #[D G 0,D G 0,J O 0 0] ?_ ?_ ?_ ?_ ?_;exact rfl;exact rfl;exact ab;exact Ar;exact rfl;exact Cz _ _ _ _ _))
     refine aI (v:=aW #[D G 3,D G N2,J vo aa.length vc]) (aF aQ _ _ (w.heap.size+1) 32 #[D G 3,D G N2,J vo aa.length vc] _ _ rfl (Ao ab) aA rfl Ar) rfl ?_;rw[HE.out,HQ.out];exact⟨⟨_,rfl,(ai.row am _).base (by omega)⟩,⟨T,ac,tc,io,ic,po,pc,au.row (Cm ab) (show n≠w.heap.size+1 by omega) _,ae,hq⟩,ok,ah.rowB (by omega) _⟩
    ·go_wp2_with(first
      |(refine aL rfl 32 _ rfl g ?_ 32 _ (0,0) _ bQ aA ?_ ?_ ?_;exact rfl;exact rfl;exact Ar)
      |(refine aB rfl 32 _ _ rfl (w.heap.size+1) #[D G 4,D G N2,J vo aa.length vc] ?_ ?_ 32 #[D G 0,D G 0,J O 0 0] ?_ ?_ ?_ ?_ ?_;exact rfl;exact rfl;exact ab;exact Ar;exact rfl;exact Cz _ _ _ _ _))
     refine aI (v:=aW #[D G 4,D G N2,J vo aa.length vc]) (aF aQ _ _ (w.heap.size+1) 32 #[D G 4,D G N2,J vo aa.length vc] _ _ rfl (Ao ab) aA rfl Ar) rfl ?_;rw[HE.out,HQ.out];exact⟨⟨_,rfl,(ai.row am _).base (by omega)⟩,⟨T,ac,tc,io,ic,po,pc,au.row (Cm ab) (show n≠w.heap.size+1 by omega) _,ae,hq⟩,ok,ah.rowB (by omega) _⟩
    ·go_wp2_with(first
      |(refine aL rfl 32 _ rfl g ?_ 32 _ (0,0) _ bQ aA ?_ ?_ ?_;exact rfl;exact rfl;exact Ar)
      |(refine aB rfl 32 _ _ rfl (w.heap.size+1) #[D G 5,D G N2,J vo aa.length vc] ?_ ?_ 32 #[D G 0,D G 0,J O 0 0] ?_ ?_ ?_ ?_ ?_;exact rfl;exact rfl;exact ab;exact Ar;exact rfl;exact Cz _ _ _ _ _))
     refine aI (v:=aW #[D G 5,D G N2,J vo aa.length vc]) (aF aQ _ _ (w.heap.size+1) 32 #[D G 5,D G N2,J vo aa.length vc] _ _ rfl (Ao ab) aA rfl Ar) rfl ?_;rw[HE.out,HQ.out];exact⟨⟨_,rfl,(ai.row am _).base (by omega)⟩,⟨T,ac,tc,io,ic,po,pc,au.row (Cm ab) (show n≠w.heap.size+1 by omega) _,ae,hq⟩,ok,ah.rowB (by omega) _⟩
    ·go_wp2_with(first
      |(refine aL rfl 32 _ rfl g ?_ 32 _ (0,0) _ bQ aA ?_ ?_ ?_;exact rfl;exact rfl;exact Ar)
      |(refine aB rfl 32 _ _ rfl (w.heap.size+1) #[D G 7,D G N2,J vo aa.length vc] ?_ ?_ 32 #[D G 0,D G 0,J O 0 0] ?_ ?_ ?_ ?_ ?_;exact rfl;exact rfl;exact ab;exact Ar;exact rfl;exact Cz _ _ _ _ _))
     refine aI (v:=aW #[D G 7,D G N2,J vo aa.length vc]) (aF aQ _ _ (w.heap.size+1) 32 #[D G 7,D G N2,J vo aa.length vc] _ _ rfl (Ao ab) aA rfl Ar) rfl ?_;rw[HE.out,HQ.out];exact⟨⟨_,rfl,(ai.row am _).base (by omega)⟩,⟨T,ac,tc,io,ic,po,pc,au.row (Cm ab) (show n≠w.heap.size+1 by omega) _,ae,hq⟩,ok,ah.rowB (by omega) _⟩
    ·go_wp2_with(first
      |(refine aL rfl 32 _ rfl g ?_ 32 _ (0,0) _ bQ aA ?_ ?_ ?_;exact rfl;exact rfl;exact Ar)
      |(refine aB rfl 32 _ _ rfl (w.heap.size+1) #[D G 8,D G N2,J vo aa.length vc] ?_ ?_ 32 #[D G 0,D G 0,J O 0 0] ?_ ?_ ?_ ?_ ?_;exact rfl;exact rfl;exact ab;exact Ar;exact rfl;exact Cz _ _ _ _ _))
     refine aI (v:=aW #[D G 8,D G N2,J vo aa.length vc]) (aF aQ _ _ (w.heap.size+1) 32 #[D G 8,D G N2,J vo aa.length vc] _ _ rfl (Ao ab) aA rfl Ar) rfl ?_;rw[HE.out,HQ.out];exact⟨⟨_,rfl,(ai.row am _).base (by omega)⟩,⟨T,ac,tc,io,ic,po,pc,au.row (Cm ab) (show n≠w.heap.size+1 by omega) _,ae,hq⟩,ok,ah.rowB (by omega) _⟩
  ·have cd:Hid (e2≠0):=by show _≠_;omega
   rw[if_pos cd.out]at HE HQ;rcases ay with rfl|rfl
   ·go_wp2_with(refine aB rfl 32 _ _ rfl (w.heap.size+1) #[D G 1,D G 0,J O 0 0] ?_ ?_ 32 #[D G 0,D G 0,J O 0 0] ?_ ?_ ?_ ?_ ?_;exact rfl;exact rfl;exact af;exact Ar;exact rfl;exact Cz _ _ _ _ _);refine aI (v:=aW #[D G 1,D G 0,J O 0 0]) (aF aQ _ _ (w.heap.size+1) 32 #[D G 1,D G 0,J O 0 0] _ _ rfl (Ao af) aA rfl Ar) rfl ?_;rw[HE.out,HQ.out];exact⟨⟨_,rfl,Cd _ _⟩,⟨T,ac,tc,io,ic,po,pc,ak.row (Cm af) (show n≠w.heap.size+1 by omega) _,ae,hq⟩,ok,bq.rowB (by omega) _⟩
   ·go_wp2_with(refine aB rfl 32 _ _ rfl (w.heap.size+1) #[D G 2,D G 0,J O 0 0] ?_ ?_ 32 #[D G 0,D G 0,J O 0 0] ?_ ?_ ?_ ?_ ?_;exact rfl;exact rfl;exact af;exact Ar;exact rfl;exact Cz _ _ _ _ _);refine aI (v:=aW #[D G 2,D G 0,J O 0 0]) (aF aQ _ _ (w.heap.size+1) 32 #[D G 2,D G 0,J O 0 0] _ _ rfl (Ao af) aA rfl Ar) rfl ?_;rw[HE.out,HQ.out];exact⟨⟨_,rfl,Cd _ _⟩,⟨T,ac,tc,io,ic,po,pc,ak.row (Cm af) (show n≠w.heap.size+1 by omega) _,ae,hq⟩,ok,bq.rowB (by omega) _⟩
end
end Go.Proofs.YtjapkoofjlmdgaaGreatDoor
