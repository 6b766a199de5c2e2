/-
  For every list of scripts and one more: where that one is refused, it told no rows and changed nothing (P7.2). No condition; the card ties the listed tables and errors of the library.
-/
import Derived.Test.YtjapkoofjlmdgaaGreatDoorJ15
import Derived.Test.YtjapkoofjlmdgaaGreatDoorRows
import Derived.Test.YtjapkoofjlmdgaaGreatDoorCards
import Derived.Test.YtjapkoofjlmdgaaGreatDoorTie
import Derived.WalkKit
import Derived.WalkSpells
import Derived.WalkLawsBesides
import Derived.Deep.RegionHeld3
import Derived.ProofKit
import Derived.OpenShut
import Derived.Lib.SmallJoins
import Derived.Deep.DeepHandedRow
import Derived.Lib.LaidTab
import Derived.LaidMore
import Derived.ChangeSame
import Derived.LaidLaws
import Derived.Clock
set_option linter.unusedSimpArgs false
set_option linter.unusedVariables false
namespace Go.Proofs.YtjapkoofjlmdgaaGreatDoor
open Go.ChangeShapes Go.WideShapes Go.ChangeAt Go.RowKit Go.Joins
theorem Zg:Tryz.prog.cellsOf 24=1:=by kernel_rfl
theorem Ae6:Tryz.prog.cellsOf 9=1:=by kernel_rfl
theorem Aqs:∃f0:Field,Tryz.prog.underlying 24=some (.struct #[f0])∧f0.offset=0∧f0.type=9:=
 ⟨_,Tryz.underlying24,rfl,rfl⟩
set_option maxRecDepth 100000 in
theorem A0b {H:Type}{enc:TypeId×Value→H}{w:World}{base:Nat}{ab:Nat→Bool}{held:Bool}{r:Reach}{b0:Nat}{v:Value}{d:DataW H}{p:List MemPlace}
  (hv:Value.okWide Tryz.prog w r b0 24 v) (h:DataW.Trod enc Tryz.prog w base ab held 24 v d p):∃t:ByteArray,v=.agg #[.string t]:=by
 obtain⟨cs,rfl,aa⟩:=okWide_struct Tryz.underlying24 hv;obtain⟨ac,hf⟩:=h;obtain⟨f0,hu,o0,t0⟩:=Aqs;obtain⟨y0,n,_,hl,h0⟩:=trod_struct1 hu hf;rw[Zg]at aa;rw[o0,t0,Ae6]at h0;obtain⟨c0,rfl⟩:∃c0,cs=#[c0]:=Array.size_eq_one_iff.1 aa;simp only[Value.cells,List.drop_zero,List.take_succ_cons,List.take_zero]at h0;obtain⟨s,e2,_,hs⟩:=DataW.trod_string Tryz.underlying9 h0;simp only[List.cons.injEq,and_true]at e2;subst e2;exact⟨s,rfl⟩
theorem Aw9 {H:Type}{enc:TypeId×Value→H}{w:World}{base:Nat}{aa:Nat→Bool}{held:Bool}{ab:Nat}{cs:List Value}{x:DataW H×List MemPlace}
  (hf:DataW.trod enc Tryz.prog w base aa held ab 24 cs=some x):∃t:Wd,Ou.R (fun k=>k<w.heap.size) w t cs∧True:=by
 obtain⟨d,p⟩:=x;obtain⟨f0,hu,o0,t0⟩:=Aqs;obtain⟨y0,n,_,hl,h0⟩:=trod_struct1 hu hf;rw[Zg]at hl;rw[o0,t0,Ae6]at h0
 match cs,hl with
 |[c0],_=>
  simp only[List.drop_zero,List.take_succ_cons,List.take_zero]at h0;obtain⟨s,e2,_,hs⟩:=DataW.trod_string Tryz.underlying9 h0;simp only[List.cons.injEq,and_true]at e2;subst e2;exact⟨s,rfl,trivial⟩
theorem A2n {F:Nat→Prop}{w:World}{sv:Value}{l:List Wd}(h:IsL Ou F w sv l):An w sv l:=by
 obtain⟨cs,h1,h2⟩:=h;have e:∀{l:List Wd}{cs:List Value},All Ou F w l cs→cs=l.map .string:=by
  intro l
  induction l with
  |nil=>intro cs h;exact h
  |cons a l ih=>
   rintro cs ⟨c,rest,rfl,h3,h4⟩;obtain rfl:c=_:=h3;rw[ih h4];rfl
 have:=h1.row;rw[e h2]at this;exact this
set_option maxRecDepth 100000 in
theorem Am9 {w:World}{g:Nat}{t:TypeId}{zero:Array Value}(h:w.ShapedOpen Tryz.prog)(hg:g<Tryz.prog.globals.size)
  (h0:((begin Tryz.prog (fun _ _=>0) default).world.heap[g]?).bind Obj.row? =some (zero,t)) (hz:zero.size=1)
  (hb:Tryz.prog.buildable t=true) (hc:Tryz.prog.cellTypes Tryz.prog.depth t=some [t]) (hu:Tryz.prog.underlying t=some (.int .i64)):∃m,w.cell? ⟨g,0,none⟩=some (.int .i64 m):=by
 obtain⟨cs,hh,hs,hr⟩:=h.1 g zero t hg h0;obtain⟨ts,ab,_,ac⟩:=hr hb;rw[hc]at ab;cases ab;have h1:0<cs.size:=by omega
 obtain⟨u,ad,aa⟩:=ac 0 cs[0] (by simp[h1]);have:u=t:=by simpa using ad.symm
 subst this;have ae:w.cell? ⟨g,0,none⟩=some cs[0]:=by simp[World.cell?,hh,h1]
 rw[ae];unfold Cell.ok at aa;rw[hu]at aa;cases hv:cs[0]<;>rw[hv]at aa<;>first|(simp at aa;obtain⟨rfl,_⟩:=aa;exact⟨_,rfl⟩)|simp at aa
theorem Ae7 {W:World}{n:String}{nm:String}{d:DataW Unit}{g:Nat}{t:TypeId}{ms:Array (String×TypeId)}{cs:Array Value}{aa:Nat}{p:List MemPlace}(hg:Tryz.prog.globalNamed n=some g)(hi:Tryz.prog.underlying t=some (.interface ms))
  (ab:W.var? Tryz.prog n=some cs) (hd:DataW.trod (fun _=>()) Tryz.prog W 0 (fun _=>true) false aa t cs.toList=some (.iface nm d,p)):∃u v,W.cell? ⟨g,0,none⟩=some (.iface u v):=by
 obtain⟨f',u,v,e,_⟩:=iface_of_trod hi hd;have hc:=World.var?_cell hg ab 0;have:cs[0]?=some (.iface u v):=by rw[←Array.getElem?_toList,e];rfl
 rw[this]at hc;exact⟨u,v,hc⟩
set_option maxRecDepth 100000 in
theorem A3j {W:World}(aa:W.ShapedOpen Tryz.prog)(hl:laidMetH Tryz.prog Rows.topRefusedRow.laid W):Env W:=by
 have hm:laidMet Tryz.prog Rows.topRefusedRow.laid W:=by
  unfold laidMetH at hl;rw[show(Rows.topRefusedRow.laid.filter fun x=>x.2.handleName?.isSome)=[] by kernel_rfl]at hl;exact hl
 obtain⟨ps,hV,_⟩:=hm;unfold Rows.topRefusedRow at hV;obtain⟨_,_,_,_,_,_,_,_,_,_,hV,_⟩:=hV;obtain⟨_,_,_,_,_,_,_,_,_,_,hV,_⟩:=hV;obtain⟨_,_,_,_,_,_,_,_,_,_,hV,_⟩:=hV;obtain⟨_,_,_,_,_,_,_,_,_,_,hV,_⟩:=hV;obtain⟨g1,t1,aj,f1,p1,q1,ab,ac,ad,ae,hV,_⟩:=hV;obtain⟨g2,t2,ak,f2,p2,q2,af,ag,ah,ai,_,_⟩:=hV;obtain rfl:=Option.some.inj ((show Tryz.prog.globalNamed "strconv.ErrRange" =some 4 by kernel_rfl).symm.trans ab);obtain rfl:=Option.some.inj ((show Tryz.prog.globalNamed "strconv.ErrSyntax" =some 3 by kernel_rfl).symm.trans af);obtain rfl:=Option.some.inj ((show(Tryz.prog.globals[4]?).map (·.type)=some 192 by kernel_rfl).symm.trans ac);obtain rfl:=Option.some.inj ((show(Tryz.prog.globals[3]?).map (·.type)=some 192 by kernel_rfl).symm.trans ag);obtain⟨u1,w1,c1⟩:=Ae7 (by kernel_rfl) Tryz.underlying192 ad ae;obtain⟨u2,w2,c2⟩:=Ae7 (by kernel_rfl) Tryz.underlying192 ah ai;refine⟨Am9 (t:=3) (zero:=#[.int .i64 0]) aa (of_decide_eq_true (by kernel_rfl)) (by kernel_rfl) rfl (by kernel_rfl) (by kernel_rfl) Tryz.underlying3,⟨u2,w2,c2⟩,⟨u1,w1,c1⟩,trivial,?_⟩;have h7:(((begin Tryz.prog (fun _ _=>0) default).world.heap[7]?).bind Obj.row?).isSome=true:=by kernel_rfl
 obtain⟨⟨z,t⟩,hz⟩:=Option.isSome_iff_exists.1 h7;obtain⟨cs,hh,_⟩:=aa.1 7 z t (of_decide_eq_true (by kernel_rfl)) hz;have:=lt_of_block hh;omega
theorem topRefused_own:ownKnob Tryz.prog.godebug=none:=by kernel_rfl
set_option maxRecDepth 100000 in
theorem topRefused_contract (H:Type)(enc:TypeId×Value→H)(W:World)(base:Nat)(args:Array Value)(ds gs:List (DataW H))(ad:List MemPlace)
  (aa:∀(j:Nat) t v,Tryz.f3.params[j]?=some t→args[j]?=some v→Value.okWide Tryz.prog W .any base t v)
  (hW:DataW.Whole enc Tryz.prog Tryz.f3.params.toList Rows.topRefusedSpec.vars false W args.toList ds gs ad) (ae:Env W):
  Calls Tryz.prog 3 args W fun e W'=>∃v,e=.returned v∧Rows.topRefusedSpec.post enc Tryz.prog Tryz.f3 false true false false W args v W':=by
 have af:=hW;obtain⟨p,q,ab,hV,rfl,_,_⟩:=hW;have hA:DataW.TrodAll enc Tryz.prog W 0 (fun _=>true) true Tryz.f3.params.toList args.toList ds p:=ab;rw[Tryz.params3]at hA aa;obtain⟨v0,v1,d0,d1,p0,p1,rfl,rfl,rfl,h0,h1⟩:=trodAll_two hA;obtain⟨rfl,rfl⟩:=trodVars_none hV;obtain⟨a0,ag,ah,rfl⟩:=okWide_slice Tryz.underlying22 (aa 0 22 v0 rfl rfl);have k0:=h0;have k1:=h1;have ai:∀x∈p0,x.block<W.heap.size:=by obtain⟨m,hm⟩:=k0;exact DataW.trod_lt m _ _ _ hm
 have aj:∀x∈p1,x.block<W.heap.size:=by obtain⟨m,hm⟩:=k1;exact DataW.trod_lt m _ _ _ hm
 obtain⟨t,rfl⟩:=A0b (aa 1 24 v1 rfl rfl) h1;obtain⟨n0,f0⟩:=h0;obtain⟨L,hL,_,_⟩:=Aw8 (α:=Wd) noW Ou 22 24 Tryz.underlying22 Zg (by decide) (Rows.uptoBulk d0) (fun _=>True) (fun ak cs x _ hf=>Aw9 hf) (sv:=.slice a0 ag ah) (Nat.le_refl _) f0;have ac:=(Ew hL).2;have hs:=A2n hL;obtain⟨ao,cc,he⟩:=hL.shape;cases he;unfold maxLen at ac;clear ab;refine(topRefused_any L _ _ t W ae hs ac).mono fun e W' ⟨he,bel⟩=>?_
 subst he;exact⟨_,rfl,_,_,_,[],_,[],af,trodAll_mk1 (shut_bool Tryz.underlying4 _),(trodAll_cons_mk (Below.trod topRefused_laidOut (by kernel_rfl) (of_decide_eq_true (by kernel_rfl)) k0 bel ai) (trodAll_cons_mk (Below.trod topRefused_laidOut (by kernel_rfl) (of_decide_eq_true (by kernel_rfl)) k1 bel aj) trodAll_mk0)),rfl,bel.frame _,fun h=>by cases h⟩
def A4k:DataW Unit→Value
 |.lit (.int k n)=>.int k n
 |_=>undef
def Gn:DataW Unit→List Value
 |.agg l=>l.map A4k
 |_=>[]
def Zh:DataW Unit→List Value
 |.agg l=>l.flatMap Gn
 |_=>[]
theorem A3k (os:Os):laidMet Tryz.prog Rows.topRefusedRow.laid (({World.holding Tryz.prog os ⟨#[.cells #[.string ⟨#[105,110,118,97,108,105,100,32,115,121,110,116,97,120]⟩] 386,.cells #[.string ⟨#[118,97,108,117,101,32,111,117,116,32,111,102,32,114,97,110,103,101]⟩] 386],#[],[]⟩with heap:=((((((((World.holding Tryz.prog os ⟨#[.cells #[.string ⟨#[105,110,118,97,108,105,100,32,115,121,110,116,97,120]⟩] 386,.cells #[.string ⟨#[118,97,108,117,101,32,111,117,116,32,111,102,32,114,97,110,103,101]⟩] 386],#[],[]⟩).heap).modify 0 fun|.cells _ t frozen=>.cells (Gn Go.Pinned.utf8First).toArray t frozen|o=>o).modify 1 fun|.cells _ t frozen=>.cells (Zh Rows.laid_unicode_utf8_acceptRanges).toArray t frozen|o=>o).modify 3 fun|.cells _ t frozen=>.cells #[.iface 384 (.pointer (some ⟨13,0,none⟩))] t frozen|o=>o).modify 4 fun|.cells _ t frozen=>.cells #[.iface 384 (.pointer (some ⟨14,0,none⟩))] t frozen|o=>o).modify 5 fun|.cells _ t frozen=>.cells (Gn Rows.laid_internal_strconv_uint64pow10).toArray t frozen|o=>o).modify 6 fun|.cells _ t frozen=>.cells (Gn Rows.laid_math_bits_deBruijn32tab).toArray t frozen|o=>o).modify 7 fun|.cells _ t frozen=>.cells (Gn Rows.laid_math_bits_deBruijn64tab).toArray t frozen|o=>o}:World).forCall (fun _ _=>0) ⟨#[],#[.slice none 0 0,.agg #[.string .empty]],[]⟩).memory:=
 laidMet_of_run' 8 (by kernel_rfl) (by kernel_rfl)
theorem A0c (os:Os){H:Type}(enc:TypeId×Value→H):∃aa,DataW.whole enc Tryz.prog (({World.holding Tryz.prog os ⟨#[.cells #[.string ⟨#[105,110,118,97,108,105,100,32,115,121,110,116,97,120]⟩] 386,.cells #[.string ⟨#[118,97,108,117,101,32,111,117,116,32,111,102,32,114,97,110,103,101]⟩] 386],#[],[]⟩with heap:=((((((((World.holding Tryz.prog os ⟨#[.cells #[.string ⟨#[105,110,118,97,108,105,100,32,115,121,110,116,97,120]⟩] 386,.cells #[.string ⟨#[118,97,108,117,101,32,111,117,116,32,111,102,32,114,97,110,103,101]⟩] 386],#[],[]⟩).heap).modify 0 fun|.cells _ t frozen=>.cells (Gn Go.Pinned.utf8First).toArray t frozen|o=>o).modify 1 fun|.cells _ t frozen=>.cells (Zh Rows.laid_unicode_utf8_acceptRanges).toArray t frozen|o=>o).modify 3 fun|.cells _ t frozen=>.cells #[.iface 384 (.pointer (some ⟨13,0,none⟩))] t frozen|o=>o).modify 4 fun|.cells _ t frozen=>.cells #[.iface 384 (.pointer (some ⟨14,0,none⟩))] t frozen|o=>o).modify 5 fun|.cells _ t frozen=>.cells (Gn Rows.laid_internal_strconv_uint64pow10).toArray t frozen|o=>o).modify 6 fun|.cells _ t frozen=>.cells (Gn Rows.laid_math_bits_deBruijn32tab).toArray t frozen|o=>o).modify 7 fun|.cells _ t frozen=>.cells (Gn Rows.laid_math_bits_deBruijn64tab).toArray t frozen|o=>o}:World).forCall (fun _ _=>0) ⟨#[],#[.slice none 0 0,.agg #[.string .empty]],[]⟩).memory Tryz.f3.params.toList Rows.topRefusedSpec.vars false (#[.slice none 0 0,.agg #[.string .empty]]:Array Value).toList 8=some ([.nil,.agg [.lit (.string [])]],[],aa):=
 ⟨[],by kernel_rfl⟩
set_option maxRecDepth 100000 in
theorem topRefused_lifted (os:Os)(aa:os.Started)(H:Type)(enc:TypeId×Value→H)(F:Stop.Interp):
  ReturnsInHanded {} Tryz.checked os 3 .any ((OpenSpec.ofChange Rows.topRefusedSpec).preRow enc Tryz.prog Tryz.f3 Rows.topRefusedRow.domain false Rows.topRefusedRow.laid) (((OpenSpec.ofChange Rows.topRefusedSpec).at F).post enc Tryz.prog Tryz.f3 false true false false):=by
 obtain⟨af,hx⟩:=A0c os enc;refine returnsInHanded_of_row (C:=Tryz.checked) (s:=OpenSpec.ofChange Rows.topRefusedSpec) topRefused_own aa (by kernel_rfl) Tryz.func3
  (witness_row_at (enc:=enc) (C:=Tryz.checked) false ({World.holding Tryz.prog os ⟨#[.cells #[.string ⟨#[105,110,118,97,108,105,100,32,115,121,110,116,97,120]⟩] 386,.cells #[.string ⟨#[118,97,108,117,101,32,111,117,116,32,111,102,32,114,97,110,103,101]⟩] 386],#[],[]⟩with heap:=((((((((World.holding Tryz.prog os ⟨#[.cells #[.string ⟨#[105,110,118,97,108,105,100,32,115,121,110,116,97,120]⟩] 386,.cells #[.string ⟨#[118,97,108,117,101,32,111,117,116,32,111,102,32,114,97,110,103,101]⟩] 386],#[],[]⟩).heap).modify 0 fun|.cells _ t frozen=>.cells (Gn Go.Pinned.utf8First).toArray t frozen|o=>o).modify 1 fun|.cells _ t frozen=>.cells (Zh Rows.laid_unicode_utf8_acceptRanges).toArray t frozen|o=>o).modify 3 fun|.cells _ t frozen=>.cells #[.iface 384 (.pointer (some ⟨13,0,none⟩))] t frozen|o=>o).modify 4 fun|.cells _ t frozen=>.cells #[.iface 384 (.pointer (some ⟨14,0,none⟩))] t frozen|o=>o).modify 5 fun|.cells _ t frozen=>.cells (Gn Rows.laid_internal_strconv_uint64pow10).toArray t frozen|o=>o).modify 6 fun|.cells _ t frozen=>.cells (Gn Rows.laid_math_bits_deBruijn32tab).toArray t frozen|o=>o).modify 7 fun|.cells _ t frozen=>.cells (Gn Rows.laid_math_bits_deBruijn64tab).toArray t frozen|o=>o}:World) #[.slice none 0 0,.agg #[.string .empty]] rfl (by kernel_rfl) (by kernel_rfl) (by kernel_rfl)
   (OpenSpec.preRow_of_cond 8 hx (by kernel_rfl) (fun k hk=>by cases hk) (by kernel_rfl) (A3k os))) ?_
 intro W base args ds gs ab ac hW _ _ _ ad ae _;exact topRefused_contract H enc W base args ds gs ab ac hW (A3j ae ad)
theorem topRefused_said:Rows.TopRefusedSaid:=
 OpenClaim.holds_of_cond 3 Tryz.f3 rfl rfl rfl rfl rfl rfl rfl ⟨rfl,rfl,rfl,rfl,rfl⟩ rfl rfl rfl rfl rfl (by kernel_rfl) Tryz.func3 topRefused_closed
  (of_decide_eq_true (by kernel_rfl)) (by unfold Func.isWrapper;first|(rw[if_pos (by decide+kernel)];kernel_rfl)|(rw[if_neg (by decide+kernel)];exact⟨rfl,rfl⟩))
  (fun os aa H enc _ F=>by rw[OpenClaim.pre_eq_preRow];exact topRefused_lifted os aa H enc F)
theorem topRefused_plain (f:FuncId)(fn:Func)(hf:Tryz.pinned.checked.prog.funcNamed "askance/askancetop.TopRefused" =some f)(aa:Tryz.pinned.checked.prog.funcs[f]?=some fn):
  true=Tryz.pinned.checked.prog.looks []∧∀(j:Nat) t,fn.params[j]?=some t→Tryz.pinned.checked.prog.wantsStandIn t=false:=by
 obtain rfl:f=3:=Option.some.inj ((show Tryz.prog.funcNamed "askance/askancetop.TopRefused" =some 3 by kernel_rfl).symm.trans hf) |>.symm;obtain rfl:fn=Tryz.f3:=(Option.some.inj (Tryz.func3.symm.trans aa)).symm;refine⟨by kernel_rfl,fun j t ht=>?_⟩;rw[Tryz.params3]at ht;have h1:t=22∨t=24:=by have:=Array.mem_of_getElem? ht;simp at this;omega
 rcases h1 with rfl|rfl
 ·exact(show Tryz.prog.wantsStandIn 22=false by kernel_rfl)
 ·exact(show Tryz.prog.wantsStandIn 24=false by kernel_rfl)
theorem topRefused_card:Rows.TopRefusedCardSaid:=
 Claim7.holds_tied_plain_at .later [] _ _ _ _ topRefused_said (fun _ h=>by cases h) (by kernel_rfl) (fun _ h=>by cases h) topRefused_row_tie rfl ⟨rfl,rfl⟩ (by kernel_rfl) rfl topRefused_plain (by kernel_rfl)
#print axioms topRefused_card
end Go.Proofs.YtjapkoofjlmdgaaGreatDoor
