/-
  For every list of scripts: whoever leaves out those that were refused is, after each of them, where the other one is, and who was refused told no rows (P7.2). No condition; the card ties the listed tables and errors of the library.
-/
import Derived.Test.YtocegbpmmiabmaaGreatDoorRows
import Derived.Test.YtocegbpmmiabmaaGreatDoorCards
import Derived.Test.YtocegbpmmiabmaaGreatDoorTie
import Derived.WalkKit
import Derived.WalkSpells
import Derived.WalkLawsBesides
import Derived.Deep.RegionHeld3
import Derived.ProofKit
import Derived.OpenShut
import Derived.Lib.SmallJoins
import Derived.Deep.DeepHandedRow
import Derived.Lib.LaidTab
import Derived.LaidMore
import Derived.ChangeSame
import Derived.LaidLaws
import Derived.Clock
import Derived.Test.YtocegbpmmiabmaaGreatDoorJ34
import Derived.Test.YtocegbpmmiabmaaGreatDoorJ36
import Derived.Test.YtocegbpmmiabmaaGreatDoorJ33
set_option linter.unusedSimpArgs false
set_option linter.unusedVariables false
set_option maxRecDepth 100000
set_option maxHeartbeats 0
open Go.Obj renaming cells→A
open Go renaming frozen→B
open Go.Proofs.Tryz renaming checked→R,prog→D,underlying200→S,underlying22→T
open Option.some renaming inj→M
open Go.World renaming holding→N
open Go.Value renaming pointer→O,string→I
open Go.Pinned renaming utf8First→P
open Go.OpenSpec renaming ofChange→Q
open Bool renaming false→J
open Option renaming none→K,some→G
namespace Go.Proofs.YtocegbpmmiabmaaGreatDoor
open Go.ChangeShapes Go.WideShapes Go.ChangeAt Go.RowKit Go.Joins
theorem A69 {W:World}(aa:W.ShapedOpen D)(hl:laidMetH D Rows.topWholeRow.laid W):Env W:=by
 have hm:laidMet D Rows.topWholeRow.laid W:=by
  unfold laidMetH at hl;rw[show(Rows.topWholeRow.laid.filter fun x=>x.2.handleName?.isSome)=[] by kernel_rfl]at hl;exact hl
 obtain⟨ps,hV,_⟩:=hm;unfold Rows.topWholeRow at hV;obtain⟨_,_,_,_,_,_,_,_,_,_,hV,_⟩:=hV;obtain⟨_,_,_,_,_,_,_,_,_,_,hV,_⟩:=hV;obtain⟨_,_,_,_,_,_,_,_,_,_,hV,_⟩:=hV;obtain⟨_,_,_,_,_,_,_,_,_,_,hV,_⟩:=hV;obtain⟨g1,t1,aj,f1,p1,q1,ab,ac,ad,ae,hV,_⟩:=hV;obtain⟨g2,t2,ak,f2,p2,q2,af,ag,ah,ai,_,_⟩:=hV;obtain rfl:=M ((show Tryz.prog.globalNamed "strconv.ErrRange" =G 4 by kernel_rfl).symm.trans ab);obtain rfl:=M ((show Tryz.prog.globalNamed "strconv.ErrSyntax" =G 3 by kernel_rfl).symm.trans af);obtain rfl:=M ((show(Tryz.prog.globals[4]?).map (·.type)=G 200 by kernel_rfl).symm.trans ac);obtain rfl:=M ((show(Tryz.prog.globals[3]?).map (·.type)=G 200 by kernel_rfl).symm.trans ag);obtain⟨u1,w1,c1⟩:=Rh (by kernel_rfl) S ad ae;obtain⟨u2,w2,c2⟩:=Rh (by kernel_rfl) S ah ai;refine⟨Zq (t:=3) (zero:=#[.int .i64 0]) aa (of_decide_eq_true (by kernel_rfl)) (by kernel_rfl) rfl (by kernel_rfl) (by kernel_rfl) Tryz.underlying3,⟨u2,w2,c2⟩,⟨u1,w1,c1⟩,trivial,?_⟩;have h7:(((begin D (fun _ _=>0) default).world.heap[7]?).bind Obj.row?).isSome=true:=by kernel_rfl
 obtain⟨⟨z,t⟩,hz⟩:=Option.isSome_iff_exists.1 h7;obtain⟨cs,hh,_⟩:=aa.1 7 z t (of_decide_eq_true (by kernel_rfl)) hz;have:=lt_of_block hh;omega
theorem A6g:ownKnob Tryz.prog.godebug=K:=by kernel_rfl
theorem A5w (H:Type)(enc:TypeId×Value→H)(W:World)(base:Nat)(args:Array Value)(ds gs:List (DataW H))(ad:List MemPlace)
  (aa:∀(j:Nat) t v,Tryz.f3.params[j]?=G t→args[j]?=G v→Value.okWide D W .any base t v)
  (hW:DataW.Whole enc D Tryz.f3.params.toList Rows.topWholeSpec.vars J W args.toList ds gs ad) (ae:Env W):
  Calls D 3 args W fun e W'=>∃v,e=.returned v∧Rows.topWholeSpec.post enc D Tryz.f3 J true J J W args v W':=by
 have af:=hW;obtain⟨p,q,ab,hV,rfl,_,_⟩:=hW;have hA:DataW.TrodAll enc D W 0 (fun _=>true) true Tryz.f3.params.toList args.toList ds p:=ab;rw[Tryz.params3]at hA aa;obtain⟨v0,d0,rfl,rfl,h0⟩:=trodAll_one hA;obtain⟨rfl,rfl⟩:=trodVars_none hV;obtain⟨a0,ag,ah,rfl⟩:=okWide_slice T (aa 0 22 v0 rfl rfl);have k0:=h0;have ai:∀x∈p,x.block<W.heap.size:=by obtain⟨m,hm⟩:=k0;exact DataW.trod_lt m _ _ _ hm
 obtain⟨n0,f0⟩:=h0;obtain⟨L,hL,_,_⟩:=Ai1 (α:=Wd) noW Nz 22 28 T Tp (by decide) (Rows.uptoBulk d0) (fun _=>True) (fun aj cs x _ hf=>Ai2 hf) (sv:=.slice a0 ag ah) (Nat.le_refl _) f0;have ac:=(D5 hL).2;have hs:=Aro hL;obtain⟨ao,cc,he⟩:=hL.shape;cases he;unfold maxLen at ac;clear ab;refine(A6f L _ _ W ae hs ac).mono fun e W' ⟨he,bel⟩=>?_
 subst he;exact⟨_,rfl,_,_,_,[],_,[],af,trodAll_mk1 (shut_bool Tryz.underlying4 _),(trodAll_cons_mk (Below.trod Nu (by kernel_rfl) (of_decide_eq_true (by kernel_rfl)) k0 bel ai) trodAll_mk0),rfl,bel.frame _,fun h=>by cases h⟩
theorem A7a (os:Os):laidMet D Rows.topWholeRow.laid (({N D os ⟨#[A #[I ⟨#[105,110,118,97,108,105,100,32,115,121,110,116,97,120]⟩] 394,A #[I ⟨#[118,97,108,117,101,32,111,117,116,32,111,102,32,114,97,110,103,101]⟩] 394],#[],[]⟩with heap:=((((((((N D os ⟨#[A #[I ⟨#[105,110,118,97,108,105,100,32,115,121,110,116,97,120]⟩] 394,A #[I ⟨#[118,97,108,117,101,32,111,117,116,32,111,102,32,114,97,110,103,101]⟩] 394],#[],[]⟩).heap).modify 0 fun|A _ t B=>A (Cu P).toArray t B|o=>o).modify 1 fun|A _ t B=>A (Nt Rows.laid_unicode_utf8_acceptRanges).toArray t B|o=>o).modify 3 fun|A _ t B=>A #[.iface 392 (O (G ⟨13,0,K⟩))] t B|o=>o).modify 4 fun|A _ t B=>A #[.iface 392 (O (G ⟨14,0,K⟩))] t B|o=>o).modify 5 fun|A _ t B=>A (Cu Rows.laid_internal_strconv_uint64pow10).toArray t B|o=>o).modify 6 fun|A _ t B=>A (Cu Rows.laid_math_bits_deBruijn32tab).toArray t B|o=>o).modify 7 fun|A _ t B=>A (Cu Rows.laid_math_bits_deBruijn64tab).toArray t B|o=>o}:World).forCall (fun _ _=>0) ⟨#[],#[.slice K 0 0],[]⟩).memory:=
 laidMet_of_run' 8 (by kernel_rfl) (by kernel_rfl)
theorem A6z (os:Os){H:Type}(enc:TypeId×Value→H):∃aa,DataW.whole enc D (({N D os ⟨#[A #[I ⟨#[105,110,118,97,108,105,100,32,115,121,110,116,97,120]⟩] 394,A #[I ⟨#[118,97,108,117,101,32,111,117,116,32,111,102,32,114,97,110,103,101]⟩] 394],#[],[]⟩with heap:=((((((((N D os ⟨#[A #[I ⟨#[105,110,118,97,108,105,100,32,115,121,110,116,97,120]⟩] 394,A #[I ⟨#[118,97,108,117,101,32,111,117,116,32,111,102,32,114,97,110,103,101]⟩] 394],#[],[]⟩).heap).modify 0 fun|A _ t B=>A (Cu P).toArray t B|o=>o).modify 1 fun|A _ t B=>A (Nt Rows.laid_unicode_utf8_acceptRanges).toArray t B|o=>o).modify 3 fun|A _ t B=>A #[.iface 392 (O (G ⟨13,0,K⟩))] t B|o=>o).modify 4 fun|A _ t B=>A #[.iface 392 (O (G ⟨14,0,K⟩))] t B|o=>o).modify 5 fun|A _ t B=>A (Cu Rows.laid_internal_strconv_uint64pow10).toArray t B|o=>o).modify 6 fun|A _ t B=>A (Cu Rows.laid_math_bits_deBruijn32tab).toArray t B|o=>o).modify 7 fun|A _ t B=>A (Cu Rows.laid_math_bits_deBruijn64tab).toArray t B|o=>o}:World).forCall (fun _ _=>0) ⟨#[],#[.slice K 0 0],[]⟩).memory Tryz.f3.params.toList Rows.topWholeSpec.vars J (#[.slice K 0 0]:Array Value).toList 8=G ([.nil],[],aa):=
 ⟨[],by kernel_rfl⟩
theorem A50 (os:Os)(aa:os.Started)(H:Type)(enc:TypeId×Value→H)(F:Stop.Interp):
  ReturnsInHanded {} R os 3 .any ((Q Rows.topWholeSpec).preRow enc D Tryz.f3 Rows.topWholeRow.domain J Rows.topWholeRow.laid) (((Q Rows.topWholeSpec).at F).post enc D Tryz.f3 J true J J):=by
 obtain⟨af,hx⟩:=A6z os enc;refine returnsInHanded_of_row (C:=R) (s:=Q Rows.topWholeSpec) A6g aa (by kernel_rfl) Tryz.func3
  (witness_row_at (enc:=enc) (C:=R) J ({N D os ⟨#[A #[I ⟨#[105,110,118,97,108,105,100,32,115,121,110,116,97,120]⟩] 394,A #[I ⟨#[118,97,108,117,101,32,111,117,116,32,111,102,32,114,97,110,103,101]⟩] 394],#[],[]⟩with heap:=((((((((N D os ⟨#[A #[I ⟨#[105,110,118,97,108,105,100,32,115,121,110,116,97,120]⟩] 394,A #[I ⟨#[118,97,108,117,101,32,111,117,116,32,111,102,32,114,97,110,103,101]⟩] 394],#[],[]⟩).heap).modify 0 fun|A _ t B=>A (Cu P).toArray t B|o=>o).modify 1 fun|A _ t B=>A (Nt Rows.laid_unicode_utf8_acceptRanges).toArray t B|o=>o).modify 3 fun|A _ t B=>A #[.iface 392 (O (G ⟨13,0,K⟩))] t B|o=>o).modify 4 fun|A _ t B=>A #[.iface 392 (O (G ⟨14,0,K⟩))] t B|o=>o).modify 5 fun|A _ t B=>A (Cu Rows.laid_internal_strconv_uint64pow10).toArray t B|o=>o).modify 6 fun|A _ t B=>A (Cu Rows.laid_math_bits_deBruijn32tab).toArray t B|o=>o).modify 7 fun|A _ t B=>A (Cu Rows.laid_math_bits_deBruijn64tab).toArray t B|o=>o}:World) #[.slice K 0 0] rfl (by kernel_rfl) (by kernel_rfl) (by kernel_rfl)
   (OpenSpec.preRow_of_cond 8 hx (by kernel_rfl) (fun k hk=>by cases hk) (by kernel_rfl) (A7a os))) ?_
 intro W base args ds gs ab ac hW _ _ _ ad ae _;exact A5w H enc W base args ds gs ab ac hW (A69 ae ad)
theorem A6b:Rows.TopWholeSaid:=
 OpenClaim.holds_of_cond 3 Tryz.f3 rfl rfl rfl rfl rfl rfl rfl ⟨rfl,rfl,rfl,rfl,rfl⟩ rfl rfl rfl rfl rfl (by kernel_rfl) Tryz.func3 A5z
  (of_decide_eq_true (by kernel_rfl)) (by unfold Func.isWrapper;first|(rw[if_pos (by decide+kernel)];kernel_rfl)|(rw[if_neg (by decide+kernel)];exact⟨rfl,rfl⟩))
  (fun os aa H enc _ F=>by rw[OpenClaim.pre_eq_preRow];exact A50 os aa H enc F)
theorem A57 (f:FuncId)(fn:Func)(hf:Tryz.pinned.checked.prog.funcNamed "askance/askancetop.TopWhole" =G f)(aa:Tryz.pinned.checked.prog.funcs[f]?=G fn):
  true=Tryz.pinned.checked.prog.looks []∧∀(j:Nat) t,fn.params[j]?=G t→Tryz.pinned.checked.prog.wantsStandIn t=J:=by
 obtain rfl:f=3:=M ((show Tryz.prog.funcNamed "askance/askancetop.TopWhole" =G 3 by kernel_rfl).symm.trans hf) |>.symm;obtain rfl:fn=Tryz.f3:=(M (Tryz.func3.symm.trans aa)).symm;refine⟨by kernel_rfl,fun j t ht=>?_⟩;rw[Tryz.params3]at ht;have h1:t=22:=by have:=Array.mem_of_getElem? ht;simp at this;omega
 subst h1;exact(show Tryz.prog.wantsStandIn 22=J by kernel_rfl)
theorem A6c:Rows.TopWholeCardSaid:=
 Claim7.holds_tied_plain_at .later [] _ _ _ _ A6b (fun _ h=>by cases h) (by as_aux_lemma=>kernel_rfl) (fun _ h=>by cases h) topWhole_row_tie rfl ⟨rfl,rfl⟩ (by as_aux_lemma=>kernel_rfl) rfl A57 (by as_aux_lemma=>kernel_rfl)
#print axioms A6c
end Go.Proofs.YtocegbpmmiabmaaGreatDoor
