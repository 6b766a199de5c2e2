/-
  26 texts of this proof in one,in build order:YExprs,YFit,YRef,YBindM,WWith2,YMade,YBind,YBind2,YBindAs,YBindAll,YBindRow,YBindSet,YColumn,YScope,YMay,YCm,YChange,YSelect,YBk,YKind,WMath,QShelf,QSort,QOnce,QRows,QRows2.
-/
import Derived.Deep.Cut
import Derived.Deep.LoopGhost
import Derived.Deep.CutRange
import Derived.Laws.EntriesVeiled
import Derived.Deep.MidRow
import Derived.Laws.MakeOwn
import Derived.Deep.RegionHeld3
import Derived.Maps.AppendAt
import Derived.Shelf.Lays
import Derived.Shelf.Sort.Plain
import Derived.Shelf.Slices.CompactS
import Derived.Shelf.Small.Wraps
import Derived.Test.YtocegbpmmiabmaaGreatDoorProg
import Derived.Shelf.Slices.In.SortNone
import Derived.Test.YtocegbpmmiabmaaGreatDoorJ01
import Derived.Test.YtocegbpmmiabmaaGreatDoorJ02
import Derived.Test.YtocegbpmmiabmaaGreatDoorJ03
set_option linter.unusedSimpArgs false
set_option linter.unusedVariables false
set_option maxRecDepth 100000
set_option maxHeartbeats 0
open Go.Value renaming agg→Z,bool→cX,int→O,int→dZ,oneCell'→fW,pointer→bV,slice→D,slice→bO,string→Y,tuple→aQ
open Nat renaming add_zero→bJ,le_refl→aT,le_trans→aA,lt_of_lt_of_le→aL,mul_le_mul_right→fJ,mul_one→dJ,zero_add→dE,zero_le→bK
open List renaming any_eq_false→dY,any_eq_true→fT,append_assoc→fO,append_nil→gB,cons_append→bI,eq_nil_of_length_eq_zero→cI,filterMap_append→fD,filter_cons→cW,filter_sublist→dO,find?_some→gA,forall_mem_cons→cH,getElem?_eq_getElem→aG,getElem?_eq_some_iff→bZ,getElem_of_mem→dN,length_append→aN,length_cons→cV,length_filterMap_le→eT,length_filter_le→dG,length_map→bN,length_take→fS,map_append→cJ,map_cons→eS,mem_cons→cG,mem_filter→bB,mem_map→bP,mem_map_of_mem→dM,mem_mergeSort→fK,mem_of_find?_eq_some→bY,mem_of_getElem?→aI,mem_range→eK,nil_append→cA,not_mem_nil→cU,pairwise_cons→bL,pairwise_map→fN,setIfInBounds_toArray→aB,set_cons_succ→aD,set_cons_zero→aC,size_toArray→fM,take_add_one→aX,take_append_drop→bA,take_length→bE,take_zero→cC
open Go.Obj renaming cells→J
open Except renaming error→M
open Option renaming isSome_iff_exists→eJ,none→G,some→I,toList_some→dL
open Go.Ending renaming returned→aE
open Go.Proofs.Tryz renaming func100→dW,func168→fA,func233→eZ,func235→dV,func299→cZ,func300→eY,func55→cR,func99→fI,isAgg3→fH,isAgg4→fG,isAgg9→fF,ntmps100→dQ,ntmps168→eQ,ntmps233→eP,ntmps235→dP,ntmps299→cS,ntmps300→eO,ntmps55→cL,ntmps99→eX,prog→aF,results102→dD,results103→dC,results167→fZ,results233→eG,results235→bR,results298→fY,results56→dH,sizeOf3→eW,sizeOf4→eV,sizeOf9→eU,underlying0→fR,underlying3→eC,underlying4→eB,underlying43→cQ,underlying44→fL,underlying48→aK,underlying50→aW,underlying62→bU,underlying9→eA,zeroValue0→fX,zeroValue3→eF,zeroValue4→eE,zeroValue43→fQ,zeroValue9→eD
open Go.IntKind renaming i64→U
open Go.Act renaming put→aH
open Array renaming getElem?_modify→dF,toArray_toList→bW,toList_inj→aJ
open Except.error renaming inj→aM,injEq→dB
open Go renaming Calls→bC,Value→aO,World→aV,bodyPost_ret→aS,info_parts→cK,lt_of_block→aP,maxLen→bS,run_make→fV,size_madeCells→dS,undef→eI,wpAnyH_done→cY,wpAnyH_take→eN,wpList_append_own_at→cM,wpList_load_row→bH,wpList_store_mid→bM,wpList_store_row→aR,wp_region_held_drew→cP
open Go.RowKit.Below renaming block→fE,heap_setCell→aU,refl→aY
open Bool renaming and_eq_true→bX,false→aZ,false_eq_true→dR,not_eq_true'→cD,true→bF
open Prod renaming fst→bD,snd→dX
open Go.Lib renaming compact→bG,trimPrefix→eM
open Go.Proofs renaming encStr→fB,intOf→bQ
open Go.World renaming cell?→fC,drew→cE,frozen?→dK,ownsRow_nil→dT,setCells→cB
open Go.Region renaming wanted→cF
open Go.Value.agg renaming inj→cN
open List.Pairwise renaming sublist→cO
open Int renaming le_refl→eH,toNat_natCast→cT
open Go.Instr renaming makeSlice→dA
open List.Sublist renaming map→dI
open Except.ok renaming injEq→dU
open Go.Shelf renaming Ren→eL
open Go.RowKit renaming Below→eR
open Go.Sort renaming ahead→fU,putRow→fP
namespace Go.Proofs.YtocegbpmmiabmaaGreatDoor
section
open Go.RowKit Go.Maps
def E.opn:E→Int
 |.mk op _ _ _ _ _=>op
def Lb (e:E):Bool:=!geB 40 e
def Je (l:List E):Bool:=l.any Lb
def Kd (st:Stm):Bool:=!st.rows.any Je&& !st.sets.any (fun t=>Lb t.2)&& !Je st.out&& !Je st.order&&(decide (st.wher.opn=0)|| !Lb st.wher)
structure FitS (st:Stm):Prop where
 rows:∀r∈st.rows,Ec r
 sets:∀t∈st.sets,Df t.2∧t.1.size≤bS
 out:Ec st.out
 order:Ec st.order
 wher:Df st.wher
 name:st.name.size≤bS
 table:st.table.size≤bS
 col:st.col.size≤bS
 cols:Zy st.cols
 frm:∀s∈st.frm,s.size≤bS
theorem O9 (e)(v)(C)(w)(he:IsE (fun k=>k<C) w e v)(hC:C≤w.heap.size)(hf:Df e):
  bC aF 92 #[v] w fun r w'=>r=aE (cX (Lb e))∧Below w.heap.size w w':=by
 obtain⟨op,⟨xk,xn,xs⟩,s,name,n,ao,k,c,rfl⟩:=he.shape;have aa:=Aq w (J (Af op ⟨xk,xn,xs⟩ s name n (D ao k c)) 48);have HG:bC _ 93 #[Z _,O _ 40] _ _:=Oq 40 (aT _) e _ C _ (IsE.keep (Ae (aa.mono hC)) e _ he) (aA hC aa.size) hf;have E:Hid (Lb e= !geB 40 e):=rfl;generalize Lb e=r at E;generalize geB 40 e=g at HG E;clear he hf;go_enter Tryz.func92,Tryz.ntmps92;go_wp2_with(go_fit HG;rintro e w1 ⟨rfl,ab⟩);go_ret;exact⟨Ah (by rw[E.out]),Ac aa ab⟩
theorem Alr (l)(sv)(C)(w)(hl:IsL Az (fun k=>k<C) w sv l)(hC:C≤w.heap.size)(hf:Ec l):
  bC aF 95 #[sv,.func (.func 92) #[] #[]] w fun e w'=>e=aE (cX (Je l))∧Below w.heap.size w w':=by
 obtain⟨ao,c,rfl⟩:=hl.shape;have:=A46.2.2.2.1.has Tryz.func92 #[] (fun v=>#[v]) l _ ao _ c (atI l Lb) _ (fun W=>Below _ w W) w (fun i W h=>h) (fun i W h=>hl.keep (Ae (h.mono hC)))
  (by
   rintro i x cs W hx h1 hR;refine(O9 x _ C W hR.2 (aA hC h1.size) (La hf (aI hx))).mono ?_;rintro e W' ⟨rfl,hb⟩;exact⟨by rw[Hv hx],h1.trans (hb.mono h1.size),fun _=>h1.trans (hb.mono h1.size)⟩)
  (aY _ _)
 rw[Nl]at this;exact this
theorem Pa (l)(sv)(pb C)(w)(hl:IsL Az (fun k=>k<C) w sv l)(hC:C≤w.heap.size)(hf:Ec l)(hp:w.cell? ⟨pb,0,G⟩=I (.func (.func 92) #[] #[])):
  bC aF 94 #[sv,bV (I ⟨pb,0,G⟩)] w fun r w'=>r=aE (cX (Je l))∧Below w.heap.size w w':=by
 obtain⟨ao,c,rfl⟩:=hl.shape;have HC:=Alr l _ C w hl hC hf;generalize Je l=r at HC;clear hl hf;go_enter Tryz.func94,Tryz.ntmps94;go_wp2_with(go_fit HC;rintro e w1 ⟨rfl,aa⟩);go_ret;simp_all
theorem Af6 (t)(cs)(pb C)(w)(hR:Fc.R (fun k=>k<C) w t cs)(hC:C≤w.heap.size)(hf:Df t.2)(hp:w.cell? ⟨pb,0,G⟩=I (.func (.func 92) #[] #[]))(ab:pb<w.heap.size):
  bC aF 96 #[Z cs.toArray,bV (I ⟨pb,0,G⟩)] w fun r w'=>r=aE (cX (Lb t.2))∧Below w.heap.size w w':=by
 obtain⟨d,rfl,hd,he⟩:=hR;obtain⟨xo,xk,xn,ac,xs,xm,xi,xa,xl,xc,rfl⟩:=Fl ⟨hd,he⟩;have aa:=Aq w (J #[Y t.1,O U xo,O U xk,O U xn,Y ac,Y xs,Y xm,O U xi,D xa xl xc] 141);have HG:=O9 t.2 _ C _ (IsE.keep (Ae (aa.mono hC)) t.2 _ he) (aA hC aa.size) hf;have ae:=(aa.cell ab).trans hp;generalize Lb t.2=r at HG;clear he hf hd;go_enter Tryz.func96,Tryz.ntmps96;go_wp2_with(go_fit HG;rintro e w1 ⟨rfl,ad⟩);go_ret;exact⟨rfl,Ac aa ad⟩
theorem Aji (st)(cs)(C)(w)(hR:Ie.R (fun k=>k<C) w st cs)(hC:C≤w.heap.size)(hf:FitS st):
  bC aF 55 #[Z cs.toArray] w fun r w'=>r=aE (cX (Kd st))∧Below w.heap.size w w':=by
 obtain⟨o1,c1,o2,c2,o3,c3,o4,c4,o5,c5,op,xk,xn,xs,s,au,n8,o6,k6,c6,o7,c7,rfl,_,h2,h3,_,h5,h6,h7⟩:=Bb hR;obtain⟨ag,ab,ah,av⟩:=al2 w (J (sA st.kind st.name st.table st.col (D o1 st.cols.length c1) (D o2 st.rows.length c2) (D o3 st.sets.length c3) (D o4 st.frm.length c4) (D o5 st.out.length c5) op xk xn xs s au n8 (D o6 k6 c6) (D o7 st.order.length c7) st.down st.n) 50) (J #[.func (.func 92) #[] #[]] 148);generalize ai:((w.alloc _).alloc _)=W0 at ag ab ah av;have ad:Hid _:=ai;clear ai hR;have KB:∀W,Below _ W0 W→Below _ w W:=fun W h=>Ac ag h
 have KP:∀W,Below _ W0 W→W.cell? _=I (.func _ #[] #[]):=fun W h=>(h.cell (p:=⟨_,0,G⟩) (show w.heap.size+1<W0.heap.size by omega)).trans (Aa ah rfl)
 have KL:∀W,Below W0.heap.size W0 W→w.heap.size+1<W.heap.size:=fun W h=>aL (show w.heap.size+1<W0.heap.size by omega) h.size
 have KC:=fun W h=>aA hC (KB W h).size
 have H1:=A46.2.2.2.2.2.1.has Tryz.func94 #[_] (fun v=>#[v,_]) _ _ o2 _ c2 (atI _ Je) _ (fun W=>Below _ W0 W) W0 (fun i W h=>h) (fun i W h=>h2.keep (Ae ((KB W h).mono hC)))
  (by
   rintro i x cs W hx h1 ⟨sv,rfl,aw⟩;refine(Pa x sv _ C W aw (KC W h1) (hf.rows x (aI hx)) (KP W h1)).mono ?_;rintro e W' ⟨rfl,hb⟩;exact⟨by rw[Hv hx],Ac h1 hb,fun _=>Ac h1 hb⟩)
  (aY _ _)
 have H2:=fun W1 aa=>A46.2.2.2.2.2.2.has Tryz.func96 #[_] (fun v=>#[v,_]) _ _ o3 _ c3 (atI st.sets _) _ (fun W=>Below _ W0 W) W1 (fun i W h=>h) (fun i W h=>h3.keep (Ae ((KB W h).mono hC)))
  (by
   rintro i x cs W hx h1 hR;refine(Af6 x cs _ C W hR (KC W h1) (hf.sets x (aI hx)).1 (KP W h1) (KL W h1)).mono ?_;rintro e W' ⟨rfl,hb⟩;exact⟨by rw[Hv hx],Ac h1 hb,fun _=>Ac h1 hb⟩)
  aa
 have H3:=fun W1 aa=>Pa _ _ _ C W1 (h5.keep (Ae ((KB W1 aa).mono hC))) (KC W1 aa) hf.out (KP W1 aa)
 have H4:=fun W1 aa=>Pa _ _ _ C W1 (h7.keep (Ae ((KB W1 aa).mono hC))) (KC W1 aa) hf.order (KP W1 aa)
 have H5:=fun W1 aa=>O9 _ _ C W1 (IsE.keep (Ae ((KB W1 aa).mono hC)) _ _ h6) (KC W1 aa) hf.wher
 have aj:st.wher.opn=op:=by
  cases hw:st.wher with
  |mk op' x' s' nm' n' l'=>
   rw[hw]at h6;obtain⟨sv,he,_⟩:=h6.open;simp only[Value.agg.injEq,Array.mk.injEq,List.cons.injEq,Value.int.injEq,true_and]at he;exact he.1.symm
 have E:Hid (Kd st=(!st.rows.any Je&& !st.sets.any (fun t=>Lb t.2)&& !Je st.out&& !Je st.order&&(decide (op=0)|| !Lb st.wher))):=by show _=_;rw[Kd,aj]
 rw[Nl]at H1;simp only[Nl]at H2;generalize Kd st=r at E;generalize st.rows.any Je=b1 at H1 E;generalize st.sets.any _=b2 at H2 E;generalize Je _=b3 at H3 E;generalize Je _=b4 at H4 E;generalize Lb _=b5 at H5 E;clear h2 h3 h5 h6 h7 aj hf;have KS:Hid (∀W,Below _ W0 W→W.heap[w.heap.size]?=I _):=fun W h=>(h.block _ (show w.heap.size<W0.heap.size by omega)).trans ab
 cases b1;rotate_left
 ·go_enter cR,cL;go_upto_region 4 with fail;rw[ad.out];have g5:=Aa ab (j:=5) rfl;go_wp2_with(first|(go_fit H1;rintro e w1 ⟨rfl,B1⟩;have S1:=KS.out _ B1;have g6:=Aa S1 (j:=6) rfl;have g8:=Aa S1 (j:=8) rfl));go_ret;exact⟨Ah (by rw[E.out];rfl),KB _ B1⟩
 cases b2;rotate_left
 ·go_enter cR,cL;go_upto_region 4 with fail;rw[ad.out];have g5:=Aa ab (j:=5) rfl;go_wp2_with(first|(go_fit H1;rintro e w1 ⟨rfl,B1⟩;have S1:=KS.out _ B1;have g6:=Aa S1 (j:=6) rfl;have g8:=Aa S1 (j:=8) rfl)|(go_fit(H2 _ B1);rintro e w2 ⟨rfl,B2⟩;have S2:=KS.out _ B2;have g8:=Aa S2 (j:=8) rfl));go_ret;exact⟨Ah (by rw[E.out];rfl),KB _ B2⟩
 cases b3;rotate_left
 ·go_enter cR,cL;go_upto_region 4 with fail;rw[ad.out];have g5:=Aa ab (j:=5) rfl;go_wp2_with(first|(go_fit H1;rintro e w1 ⟨rfl,B1⟩;have S1:=KS.out _ B1;have g6:=Aa S1 (j:=6) rfl;have g8:=Aa S1 (j:=8) rfl)|(go_fit(H2 _ B1);rintro e w2 ⟨rfl,B2⟩;have S2:=KS.out _ B2;have g8:=Aa S2 (j:=8) rfl)|(go_at_call_of 94 (bO o5 st.out.length c5);go_fit(H3 _ B2);rintro e w3 ⟨rfl,ac⟩;have B3:=Ac B2 ac;have ax:=KS.out _ B3;have af:=Aa ax (j:=17) rfl));go_ret;exact⟨Ah (by rw[E.out];rfl),KB _ B3⟩
 cases b4;rotate_left
 ·go_enter cR,cL;go_upto_region 4 with fail;rw[ad.out];have g5:=Aa ab (j:=5) rfl;go_wp2_with(first|(go_fit H1;rintro e w1 ⟨rfl,B1⟩;have S1:=KS.out _ B1;have g6:=Aa S1 (j:=6) rfl;have g8:=Aa S1 (j:=8) rfl)|(go_fit(H2 _ B1);rintro e w2 ⟨rfl,B2⟩;have g8:=Aa (KS.out _ B2) (j:=8) rfl)|(go_at_call_of 94 (bO o5 st.out.length c5);go_fit(H3 _ B2);rintro e w3 ⟨rfl,ac⟩;have B3:=Ac B2 ac;have af:=Aa (KS.out _ B3) (j:=17) rfl)|(go_at_call_of 94 (bO o7 st.order.length c7);go_fit(H4 _ B3);rintro e w4 ⟨rfl,ae⟩;have B4:=Ac B3 ae;have S4:=KS.out _ B4;have gp:=KP _ B4;have g9:=Aa S4 (j:=9) rfl;have ak:=Aa S4 (j:=10) rfl;have al:=Aa S4 (j:=11) rfl;have am:=Aa S4 (j:=12) rfl;have an:=Aa S4 (j:=13) rfl;have ap:=Aa S4 (j:=14) rfl;have aq:=Aa S4 (j:=15) rfl;have ar:=Aa S4 (j:=16) rfl));go_ret;exact⟨Ah (by rw[E.out];rfl),KB _ B4⟩
 by_cases h0:op=0
 ·subst h0;go_enter cR,cL;go_upto_region 4 with fail;rw[ad.out];have g5:=Aa ab (j:=5) rfl;go_wp2_with(first|(go_fit H1;rintro e w1 ⟨rfl,B1⟩;have S1:=KS.out _ B1;have g6:=Aa S1 (j:=6) rfl;have g8:=Aa S1 (j:=8) rfl)|(go_fit(H2 _ B1);rintro e w2 ⟨rfl,B2⟩;have g8:=Aa (KS.out _ B2) (j:=8) rfl)|(go_at_call_of 94 (bO o5 st.out.length c5);go_fit(H3 _ B2);rintro e w3 ⟨rfl,ac⟩;have B3:=Ac B2 ac;have af:=Aa (KS.out _ B3) (j:=17) rfl)|(go_at_call_of 94 (bO o7 st.order.length c7);go_fit(H4 _ B3);rintro e w4 ⟨rfl,ae⟩;have B4:=Ac B3 ae;have S4:=KS.out _ B4;have gp:=KP _ B4;have g9:=Aa S4 (j:=9) rfl;have ak:=Aa S4 (j:=10) rfl;have al:=Aa S4 (j:=11) rfl;have am:=Aa S4 (j:=12) rfl;have an:=Aa S4 (j:=13) rfl;have ap:=Aa S4 (j:=14) rfl;have aq:=Aa S4 (j:=15) rfl;have ar:=Aa S4 (j:=16) rfl));go_ret;exact⟨Ah (by rw[E.out];rfl),KB _ B4⟩
 ·have az:(op==0)=aZ:=by simpa using h0
  have E2:Hid (r= !b5):=by show _=_;rw[E.out];simp[h0]
  go_enter cR,cL;go_upto_region 4 with fail;rw[ad.out];have g5:=Aa ab (j:=5) rfl;go_wp2_with(first|(go_fit H1;rintro e w1 ⟨rfl,B1⟩;have S1:=KS.out _ B1;have g6:=Aa S1 (j:=6) rfl;have g8:=Aa S1 (j:=8) rfl)|(go_fit(H2 _ B1);rintro e w2 ⟨rfl,B2⟩;have g8:=Aa (KS.out _ B2) (j:=8) rfl)|(go_at_call_of 94 (bO o5 st.out.length c5);go_fit(H3 _ B2);rintro e w3 ⟨rfl,ac⟩;have B3:=Ac B2 ac;have af:=Aa (KS.out _ B3) (j:=17) rfl)|(go_at_call_of 94 (bO o7 st.order.length c7);go_fit(H4 _ B3);rintro e w4 ⟨rfl,ae⟩;have B4:=Ac B3 ae;have S4:=KS.out _ B4;have gp:=KP _ B4;have g9:=Aa S4 (j:=9) rfl;have ak:=Aa S4 (j:=10) rfl;have al:=Aa S4 (j:=11) rfl;have am:=Aa S4 (j:=12) rfl;have an:=Aa S4 (j:=13) rfl;have ap:=Aa S4 (j:=14) rfl;have aq:=Aa S4 (j:=15) rfl;have ar:=Aa S4 (j:=16) rfl)|(go_fit(H5 _ B4);rintro e w5 ⟨rfl,ay⟩;have B5:=Ac B4 ay));go_ret;exact⟨Ah (by rw[E2.out]),KB _ B5⟩
def Jp (k want:Int):Bool:=decide (k=want)||decide (k=0)
def Pw (op:Int):Int:=if op=3∨op=4 then 1 else 3
def Mq (ts:List Int)(want:Int):Bool:=ts.all fun k=>Jp k want
def Ab4 (op:Int)(ts:List Int):Bool:=
 if op=3∨op=4 then Mq ts 1 else if op=5∨op=6 then Mq ts 1||Mq ts 2 else if op=7∨op=8∨op=9 then Mq ts 3 else bF
theorem Yl (k want)(w):bC aF 297 #[O U k,O U want] w fun e w'=>e=aE (cX (Jp k want))∧w'=w:=by
 by_cases h1:k=want<;>by_cases h2:k=0
 all_goals
  go_enter Tryz.func297,Tryz.ntmps297;go_wp2;go_ret;exact⟨Ah (by simp_all [Jp]),rfl⟩
theorem Aso (op)(w):bC aF 300 #[O U op] w fun e w'=>e=aE (O U (Pw op))∧w'=w:=by
 by_cases h1:op=3
 ·subst h1;go_enter eY,eO;go_wp2;go_ret;exact⟨rfl,rfl⟩
 by_cases h2:op=4
 ·subst h2;go_enter eY,eO;go_wp2;go_ret;exact⟨rfl,rfl⟩
 have E:Hid (Pw op=3):=by show _=_;simp[Pw,h1,h2]
 have e3:(op==3)=aZ:=by simpa using h1
 have e4:(op==4)=aZ:=by simpa using h2
 go_enter eY,eO;go_wp2;go_ret;exact⟨Av (by rw[E.out]),rfl⟩
theorem Avg (k want)(pb)(w)(hp:w.cell? ⟨pb,0,G⟩=I (O U want)):bC aF 340 #[O U k,bV (I ⟨pb,0,G⟩)] w fun e w'=>e=aE (cX (!Jp k want))∧w'=w:=by
 have HC:=fun w=>Yl k want w
 generalize Jp k want=b at HC;go_enter Tryz.func340,Tryz.ntmps340;go_wp2_with(go_fit(HC _);rintro e w1 ⟨rfl,rfl⟩);go_ret;simp
theorem Ayx (ts)(tv)(want)(pb)(F)(w)(hl:IsL Oz F w tv ts)(hp:w.cell? ⟨pb,0,G⟩=I tv)(ab:pb<w.heap.size):
  bC aF 338 #[O U want,bV (I ⟨pb,0,G⟩)] w fun e w'=>e=aE (cX (Mq ts want))∧Below w.heap.size w w':=by
 obtain⟨ao,c,rfl⟩:=hl.shape;obtain⟨aa,ac,-⟩:=al1 w (J #[O U want] 3);have ad:=(aa.cell ab).trans hp;have HC:=A46.2.2.2.2.1.has Tryz.func340 #[_] (fun v=>#[v,_]) ts F ao _ c (atI ts _) _ (fun W=>W=w.alloc _) _ (fun i W h=>h)
  (fun i W h=>by rw[h];exact hl.keep (Ai aa))
  (by
   rintro i x cs W hx rfl rfl;refine(Avg x want _ _ (Aa ac rfl)).mono ?_;rintro e W' ⟨rfl,rfl⟩;exact⟨by rw[Hv hx],rfl,fun _=>rfl⟩)
  rfl
 rw[Nl]at HC;have E:Hid (Mq ts want= !ts.any fun k=>!Jp k want):=by show _=_;rw[Mq,List.all_eq_not_any_not]
 generalize Mq ts want=r at E;generalize(ts.any _)=q at HC E;clear hl;go_enter Tryz.func338,Tryz.ntmps338;go_wp2_with(go_fit HC;rintro e w1 ⟨rfl,rfl⟩);go_ret;exact⟨Ah (by rw[E.out]),aa⟩
theorem A1y (op)(ts)(tv)(F)(w)(hl:IsL Oz F w tv ts):
  bC aF 299 #[O U op,tv] w fun e w'=>e=aE (cX (Ab4 op ts))∧Below w.heap.size w w':=by
 obtain⟨ao,c,rfl⟩:=hl.shape;obtain⟨ad,af,-⟩:=al1 w (J #[D ao ts.length c] 270);have H:=fun ag W h=>Ayx ts _ ag _ F W ((hl.keep (Ai ad)).keep (Ai h)) ((h.cell (by simp)).trans (Aa af rfl)) (aL (by simp) h.size)
 have E:Hid (Ab4 op ts=if op=3∨op=4 then Mq ts 1 else if op=5∨op=6 then Mq ts 1||Mq ts 2 else if op=7∨op=8∨op=9 then Mq ts 3 else bF):=rfl;generalize Ab4 op ts=r at E;have H1:=H 1;have H2:=H 2;have H3:=H 3;clear H hl;generalize Mq ts 1=b1 at H1 E;generalize Mq ts 2=b2 at H2 E;generalize Mq ts 3=b3 at H3 E
 by_cases aa:op=3∨op=4
 ·have E2:Hid (r=b1):=by show _=_;rw[E.out,if_pos aa]
  clear E;rcases aa with rfl|rfl
  all_goals
   go_enter cZ,cS;go_wp2_with(go_at_call_of 338 (dZ U 1);go_fit(H1 _ (aY _ _));rintro e w1 ⟨rfl,ab⟩);go_ret;exact⟨Ah (by rw[E2.out]),Ac ad ab⟩
 by_cases ac:op=5∨op=6
 ·have E2:Hid (r=(b1||b2)):=by show _=_;rw[E.out,if_neg aa,if_pos ac]
  clear E aa;cases b1
  ·rcases ac with rfl|rfl
   all_goals
    go_enter cZ,cS;go_wp2_with(first|(go_at_call_of 338 (dZ U 1);go_fit(H1 _ (aY _ _));rintro e w1 ⟨rfl,ab⟩)|(go_at_call_of 338 (dZ U 2);go_fit(H2 _ ab);rintro e w2 ⟨rfl,ah⟩));go_ret;exact⟨Ah (by rw[E2.out];rfl),Ac ad (Ac ab ah)⟩
  ·rcases ac with rfl|rfl
   all_goals
    go_enter cZ,cS;go_wp2_with(go_at_call_of 338 (dZ U 1);go_fit(H1 _ (aY _ _));rintro e w1 ⟨rfl,ab⟩);go_ret;exact⟨Ah (by rw[E2.out];rfl),Ac ad ab⟩
 by_cases ae:op=7∨op=8∨op=9
 ·have E2:Hid (r=b3):=by show _=_;rw[E.out,if_neg aa,if_neg ac,if_pos ae]
  clear E aa ac;rcases ae with rfl|rfl|rfl
  all_goals
   go_enter cZ,cS;go_wp2_with(go_at_call_of 338 (dZ U 3);go_fit(H3 _ (aY _ _));rintro e w1 ⟨rfl,ab⟩);go_ret;exact⟨Ah (by rw[E2.out]),Ac ad ab⟩
 have E2:Hid (r=bF):=by show _=_;rw[E.out,if_neg aa,if_neg ac,if_neg ae]
 have e3:(op==3)=aZ:=by simp;omega
 have e4:(op==4)=aZ:=by simp;omega
 have e5:(op==5)=aZ:=by simp;omega
 have e6:(op==6)=aZ:=by simp;omega
 have e7:(op==7)=aZ:=by simp;omega
 have e8:(op==8)=aZ:=by simp;omega
 have e9:(op==9)=aZ:=by simp;omega
 clear H1 H2 H3 E aa ac ae;go_enter cZ,cS;go_wp2_with fail;go_ret;exact⟨Ah (by rw[E2.out]),ad⟩
structure RefS where
 found:Nat
 kind:Int
 n:Int
 ahead:Nat
def Qh (t:TabD)(s name:Wd):Bool:=decide (0≤D7 t.cols name)&&(decide (s.size=0)||decide (s=t.name))
def Fu (s name:Wd)(r:RefS)(t:TabD):RefS:=
 ⟨if Qh t s name then r.found+1 else r.found,if Qh t s name then((t.cols[(D7 t.cols name).toNat]?).map ColD.ty).getD 0 else r.kind,if Qh t s name then(r.ahead:Int)+D7 t.cols name else r.n,r.ahead+t.cols.length⟩
def Eu (S:List TabD)(s name:Wd)(n:Int):RefS:=S.foldl (Fu s name) ⟨0,0,n,0⟩
theorem Aot (S)(t)(s name)(n):Eu (S++[t]) s name n=Fu s name (Eu S s name n) t:=by simp[Eu]
theorem Kl (l)(s):D7 l s= -1∨∃(k:Nat) (x:ColD),D7 l s=(k:Int)∧l[k]?=I x∧x.name=s:=by
 rcases Oc l (fun x=>decide (x.name=s))with⟨h1,_⟩|⟨k,x,h1,h2,h3,_⟩
 ·exact .inl h1
 ·exact .inr ⟨k,x,h1,h2,by grind⟩
theorem Asp {a}(h:0≤a)(h2:a≤4000000000):IntKind.i64.wrap a=a:=by rw[IntKind.wrap_i64];omega
theorem Fm {P}{fn}{p q r:Tmp}{ty}(h:fn.results=#[.cell p ty,.tmp q,.tmp r])(tmps:Array aO)(w)(g)(t)(cs)(fr)(d)(v u)
  (hp:tmps.getD p eI=bV (I ⟨g,0,G⟩)) (hq:tmps.getD q eI=v) (hr:tmps.getD r eI=u) (hg:w.heap[g]?=I (J cs t fr))
  (hu:P.underlying ty=I d) (hd:(match d with|.struct _|.array _ _=>bF|_=>aZ)=bF) (hi:(P.info? ty).map (·.size)=I cs.size):
  (results fn tmps).run P w=.ok (aQ #[Z cs,v,u]) w:=by
 have aa:tmps[p]?.getD eI=bV (I ⟨g,0,G⟩):=by simpa using hp
 have ab:tmps[q]?.getD eI=v:=by simpa using hq
 have ac:tmps[r]?.getD eI=u:=by simpa using hr
 simp[results,h,aa,ab,ac,asAddr,run_loadVar_row w g t ty cs fr d hg hu hd hi]
theorem Ay:(Tryz.prog.info? 48).map (·.size)=I 8:=by kernel_rfl
theorem C6 (op)(x)(s name)(n)(ao)(k c):(Af op x s name n (D ao k c)).all (·.oneCell')=bF:=by simp[fW]
def U0 (op:Int)(x:V)(s name:Wd)(ao:Option Addr)(k c:Nat)(r:RefS):aO:=
 if r.found=1 then aQ #[Z (Af op x s name r.n (D ao k c)),O U r.kind,O U 0]else aQ #[Z (Af 0 zero noW noW 0 (D G 0 0)),O U 0,O U 3]
theorem Ad6 {op}{x}{s name}{ao}{k c}{r}(h:r.found=1):U0 op x s name ao k c r=aQ #[Z (Af op x s name r.n (D ao k c)),O U r.kind,O U 0]:=if_pos h
theorem Ad7 {op}{x}{s name}{ao}{k c}{r}(h:¬r.found=1):U0 op x s name ao k c r=aQ #[Z (Af 0 zero noW noW 0 (D G 0 0)),O U 0,O U 3]:=if_neg h
theorem Aou (S:List TabD)(sv:aO)(op:Int)(x:V)(s name:Wd)(n:Int)(ao:Option Addr)(k c:Nat)(C:Nat)(w:aV)(hl:IsL Ck (fun k=>k<C) w sv S)(hC:C≤w.heap.size)(hS:S.length≤1000)(bf:∀t∈S,t.cols.length≤1000000):
  bC aF 298 #[sv,Z (Af op x s name n (D ao k c))] w fun e w'=>e=aE (U0 op x s name ao k c (Eu S s name n))∧Below w.heap.size w w':=by
 obtain⟨so,sc,rfl⟩:=hl.shape;obtain⟨xk,xn,xs⟩:=x;obtain⟨bg,ay,az,-⟩:=al2 w (J (Af op ⟨xk,xn,xs⟩ s name n (D ao k c)) 48) (J (Af 0 zero noW noW 0 (D G 0 0)) 48);generalize hr:U0 op ⟨xk,xn,xs⟩ s name ao k c (Eu S s name n)=R;have HR:Hid (U0 op ⟨xk,xn,xs⟩ s name ao k c (Eu S s name n)=R):=hr;clear hr;go_enter Tryz.func298,Tryz.ntmps298;go_wp2
 go_loopw[7,8,9,15] (fun fv kv av i wr=>∃(j:Nat) (q:RefS),j≤S.length∧i=O U j∧fv=O U (q.found:Nat)∧kv=O U q.kind∧av=O U (q.ahead:Nat)∧Hid (Eu (S.take j) s name n=q)∧q.found≤j∧q.ahead≤j*1000000∧wr.heap[w.heap.size]?=I (J (Af op ⟨xk,xn,xs⟩ s name q.n (D ao k c)) 48)∧wr.heap[w.heap.size+1]?=I (J (Af 0 zero noW noW 0 (D G 0 0)) 48)∧Below w.heap.size w wr) (fun _ _ _ i _=>S.length-(bQ i).toNat)
 case atStart=>exact⟨0,⟨0,0,n,0⟩,bK _,rfl,rfl,rfl,rfl,rfl,aT _,by simp,ay,az,bg⟩
 case round=>
  obtain⟨j,q,hj,rfl,rfl,rfl,rfl,HQ,bo,bp,hE,hZ,ad⟩:=hrel;clear ay az;have bh:=aP hE;have bi:=aP hZ
  by_cases bj:j<S.length
  ·obtain⟨t,ht⟩:∃t,S[j]?=I t:=⟨_,aG bj⟩;have ab:Hid (Eu (S.take (j+1)) s name n=Fu s name q t):=by
    show _=_;rw[aX,ht];exact(Aot _ _ _ _ _).trans (by rw[HQ.out])
   have bq:=bf t (aI ht);obtain⟨b,bt,cs,rfl,bu,hb,⟨cv,rfl,ap⟩,aq⟩:=At (hl.keep (Ae (ad.mono hC))) ht;obtain⟨co,cc,rfl⟩:=ap.shape;have d0:=aq 0 _ rfl;have d1:=aq 1 _ rfl;simp only[Ck,bJ]at d0 d1;have j0:(0:Int)≤(j:Int):=by omega
   have j1:(j:Int)<(S.length:Int):=by omega
   have e2:=Aa hE (j:=4) rfl;have e3:=Aa hE (j:=5) rfl;have ar:=Aq wr (J #[Y t.name,D co t.cols.length cc] 82);have HF:=L8 t.cols t.name (D co t.cols.length cc) name C _ (ap.keep (Ae (ar.mono (aA hC ad.size)))) (aA (aA hC ad.size) ar.size);clear aq ht;go_upto_region 6 with(go_fit HF;rintro e w1 ⟨rfl,ba⟩);have ah:=Ac ar ba;have ai:Below w.heap.size w w1:=ad.trans (ah.mono ad.size);have ae:=(ah.block _ bh).trans hE;have aj:=(ah.block _ bi).trans hZ;have bb:w1.heap[wr.heap.size]?=I (J #[Y t.name,D co t.cols.length cc] 82):=(ba.block _ (by simp)).trans (Ab _ _);have g4:=Aa ae (j:=4) rfl;have t0:=Aa bb (j:=0) rfl;have t1:=Aa bb (j:=1) rfl;have w3:wrap64 ((q.ahead:Int)+(t.cols.length:Int))=(q.ahead:Int)+(t.cols.length:Int):=by unfold wrap64;omega
   have ak:Hid (Fu s name q t=⟨if Qh t s name then q.found+1 else q.found,if Qh t s name then((t.cols[(D7 t.cols name).toNat]?).map ColD.ty).getD 0 else q.kind,if Qh t s name then(q.ahead:Int)+D7 t.cols name else q.n,q.ahead+t.cols.length⟩):=rfl;have ac:Hid (Qh t s name=(decide (0≤D7 t.cols name)&&(s.toList.isEmpty||(s.toList==t.name.toList)))):=by show _=_;rw[Qh,K5,Jk]
   have HM:Qh t s name=aZ→Fu s name q t=⟨q.found,q.kind,q.n,q.ahead+t.cols.length⟩:=fun h=>by rw[ak.out,h];rfl
   by_cases al:D7 t.cols name= -1
   ·have aa:Hid _:=HM (by rw[ac.out,al];rfl);rw[al];clear HF HM ac ak al;generalize Fu s name q t=q' at ab aa;have af:Hid _:=ab.out.trans aa.out;go_wp2_with fail;go_roundw
    case rel=>exact⟨_,⟨_,_,q.n,q.ahead+t.cols.length⟩,by omega,by rfl,rfl,rfl,by simp,af,by grind,by grind,ae,aj,ai⟩
    case measure=>(try clear q4);(try clear w3);simp[bQ];omega
   ·obtain⟨kk,x,am,au,_⟩:∃(k:Nat) (x:ColD),D7 _ name=k∧t.cols[k]?=I x∧x.name=name:=by
     rcases Kl t.cols name with h|h
     ·omega
     omega
    rw[am];rw[am]at ac;have bv:kk<t.cols.length:=(bZ.1 au).1;obtain⟨cb,an,bw,rfl,bk,bx,bl,bc⟩:=At (ap.keep (Ae (ah.mono (aA hC ad.size)))) au;obtain rfl:=bl;have c1:=bc 1 _ rfl;simp only[Cp]at c1;have q0:(0:Int)≤kk:=by omega
    have q1:kk<(t.cols.length:Int):=by omega
    have q4:IntKind.i64.wrap _=q.ahead+kk:=Asp (by omega) (by omega);have HH:Qh t s name=bF→Fu s name q t=⟨q.found+1,x.ty,q.ahead+kk,q.ahead+t.cols.length⟩:=fun h=>by
     rw[ak.out,h,am];simp_all
    have g6:=Aa ae (j:=6) rfl;have f6:∀o,w1.frozen? ⟨w.heap.size,o,G⟩=aZ:=fun o=>by simp[dK,ae]
    have bz:=aL bk hC;clear HF ak al am au bc;cases aw:s.toList.isEmpty
    ·cases bd:(s.toList==t.name.toList)
     ·have aa:Hid _:=HM (by rw[ac.out,aw,bd];simp);clear HM ac HH;generalize Fu s name q t=q' at ab aa;have af:Hid _:=ab.out.trans aa.out;clear ab aa;go_wp2_with fail;go_roundw
      case rel=>clear q4 w3;exact⟨_,⟨_,_,q.n,q.ahead+t.cols.length⟩,by omega,by rfl,rfl,rfl,by simp,af,by grind,by grind,ae,aj,ai⟩
      case measure=>(try clear q4);(try clear w3);simp[bQ];omega
     ·have aa:Hid _:=HH (by rw[ac.out,aw,bd];simp);clear HM ac HH;generalize Fu s name q t=q' at ab aa;have af:Hid _:=ab.out.trans aa.out;clear ab aa;go_wp2_with fail
      go_region_held3(fun w'=>w'.cell? ⟨wr.heap.size,1,G⟩=I (D (I ⟨cb,an,G⟩) t.cols.length cc)∧w'.cell? ⟨cb,an+kk*3+1,G⟩=I (O U x.ty)) (first|exact⟨t1,c1⟩|exact⟨(A3 (by omega) _ _ _).trans t1,(A3 (by omega) _ _ _).trans c1⟩)
       (first|fail)
      go_wp2;go_roundw
      case rel=>clear q4 w3;exact⟨_,_,by omega,by rfl,by simp,rfl,by simp,af,by grind,by grind,Dj ae 6 _,(aU _ _ _ _ (show w.heap.size+1≠w.heap.size by omega)).trans aj,ai.drew.setCell (show w.heap.size≤w.heap.size from aT _) _⟩
      case measure=>(try clear q4);(try clear w3);simp[bQ];omega
    ·have aa:Hid _:=HH (by rw[ac.out,aw];simp);clear HM ac HH;generalize Fu s name q t=q' at ab aa;have af:Hid _:=ab.out.trans aa.out;clear ab aa;go_wp2_with fail
     go_region_held3(fun w'=>w'.cell? ⟨wr.heap.size,1,G⟩=I (D (I ⟨cb,an,G⟩) t.cols.length cc)∧w'.cell? ⟨cb,an+kk*3+1,G⟩=I (O U x.ty)) (first|exact⟨t1,c1⟩|exact⟨(A3 (by omega) _ _ _).trans t1,(A3 (by omega) _ _ _).trans c1⟩)
      (first|fail)
     go_wp2;go_roundw
     case rel=>clear q4 w3;exact⟨_,_,by omega,by rfl,by simp,rfl,by simp,af,by grind,by grind,Dj ae 6 _,(aU _ _ _ _ (show w.heap.size+1≠w.heap.size by omega)).trans aj,ai.drew.setCell (show w.heap.size≤w.heap.size from aT _) _⟩
     case measure=>(try clear q4);(try clear w3);simp[bQ];omega
  ·have bm:j=S.length:=by omega
   subst bm;have be:Hid (R=U0 op ⟨xk,xn,xs⟩ s name ao k c q):=by show _=_;rw[←HR.out,←HQ.out,bE]
   have j1:¬S.length<(S.length:Int):=by omega
   clear HQ HR
   by_cases ag:q.found=1
   ·have bn:((q.found:Int)!=1)=aZ:=by rw[ag];rfl
    have ax:Hid _:=ag;clear ag;go_wp2_with(first|refine bH rfl 48 _ rfl _ rfl 48 _ _ _ hE aK rfl Ay ?_|refine aR rfl 48 _ _ rfl _ _ rfl rfl 48 _ hZ Ay rfl (C6 op ⟨xk,xn,xs⟩ s name q.n ao k c) ?_);exact aS (v:=aQ #[Z _,O _ _,O _ 0]) (Fm fY _ _ _ 48 _ _ _ _ _ rfl rfl rfl (Ao hZ) aK rfl Ay) rfl ⟨by rw[be.out,Ad6 ax.out],Below.row ad (by omega) _⟩
   ·have bn:((q.found:Int)!=1)=bF:=by simp;omega
    have ax:Hid (¬q.found=1):=ag;clear ag;go_wp2_with(first|refine aR rfl 48 _ _ rfl _ _ rfl rfl 48 _ hZ Ay rfl (C6 0 zero noW noW 0 G 0 0) ?_);exact aS (v:=aQ #[Z (Af 0 zero noW noW 0 _),O _ 0,O _ 3]) (Fm fY _ _ _ 48 _ _ _ _ _ rfl rfl rfl (Ao hZ) aK rfl Ay) rfl ⟨by rw[be.out,Ad7 ax.out],Below.row ad (by omega) _⟩
end
section
mutual
def Cv (S:List TabD):E→Except Int (E×Int)
 |.mk op x s name n l=>
  if op=1 then .ok (.mk op x s name n l,x.k)
  else if op=2 then
   if(Eu S s name n).found=1 then .ok (.mk op x s name (Eu S s name n).n l,(Eu S s name n).kind)else M 3
  else match Be S l with
   |M m=>M m
   |.ok r=>if Ab4 op (r.map dX)then .ok (.mk op x s name n (r.map bD),Pw op)else M 5
def Be (S:List TabD):List E→Except Int (List (E×Int))
 |[]=>.ok []
 |e::l=>match Cv S e with
  |M m=>M m
  |.ok r=>match Be S l with
   |M m=>M m
   |.ok rs=>.ok (r::rs)
end
theorem Km (S):∀(l:List E) (e:E),Be S (l++[e])=match Be S l with
  |M m=>M m
  |.ok rs=>match Cv S e with
   |M m=>M m
   |.ok r=>.ok (rs++[r])
 |[],e=>by rfl
 |x::l,e=>by
  simp only[bI,Be,Km S l e];cases Cv S x with
  |error m=>rfl
  |ok r=>
   cases Be S l with
   |error m=>rfl
   |ok rs=>grind
theorem Ml (S):∀(l m:List E),(∀k,Be S l=M k→Be S (l++m)=M k)
 |[],m,k,h=>by simp[Be]at h
 |x::l,m,k,h=>by
  simp only[bI,Be]at h⊢;cases hx:Cv S x with
  |error j=>grind
  |ok r=>
   rw[hx]at h;simp only at h⊢;cases hl:Be S l with
   |error j=>
    rw[hl]at h;rw[Ml S l m j hl];omega
   |ok rs=>grind
theorem Ad8 (S):∀(l:List E) (rs:List (E×Int)),Be S l=.ok rs→rs.length=l.length
 |[],rs,h=>by simp[Be]at h;grind
 |x::l,rs,h=>by
  simp only[Be]at h;cases hx:Cv S x with
  |error j=>grind
  |ok r=>
   rw[hx]at h;simp only at h;cases hl:Be S l with
   |error j=>grind
   |ok rs'=>
    rw[hl]at h;simp only[dU]at h;subst h;simp[Ad8 S l rs' hl]
end
section
open Go.RowKit Go.Maps
def Eh {α:Type}(nm:α→Wd)(l:List α)(x:α):List α:=l.filter (fun y=>klt (nm y) (nm x))++x::l.filter (fun y=>!klt (nm y) (nm x))
def A8 (ct:CatD)(st:Stm):CatD:=
 if st.kind=1 then⟨Eh TabD.name ct.tables ⟨st.name,st.cols⟩,ct.indexes⟩
 else if st.kind=2 then⟨ct.tables,Eh IdxD.name ct.indexes ⟨st.name,st.table,st.col⟩⟩
 else if st.kind=3 then⟨ct.tables.filter (fun t=>!decide (t.name=st.name)),ct.indexes.filter (fun x=>!decide (x.table=st.name))⟩
 else ct
theorem All.split {α}{K}{F}{w}:∀{l m:List α}{cs:List aO},All K F w (l++m) cs→∃c1 c2,cs=c1++c2∧All K F w l c1∧All K F w m c2
 |[],m,cs,h=>⟨[],cs,rfl,rfl,h⟩
 |a::l,m,cs,h=>by
  obtain⟨c,rest,rfl,h2,h3⟩:=h;obtain⟨c1,c2,rfl,h4,h5⟩:=All.split h3;exact⟨_,c2,by simp,⟨c,c1,rfl,h2,h4⟩,h5⟩
theorem Sg {α:Type}(nm:α→Wd)(s:Wd):∀(l:List α),Cd (l.map nm)→l=l.filter (fun y=>klt (nm y) s)++l.filter (fun y=>!klt (nm y) s)
 |[],_=>rfl
 |a::l,h=>by
  have hr:Cd _:=(bL.1 h).2;cases hk:klt _ s with
  |true=>
   rw[cW,cW,hk];simp only[if_true,Bool.not_true,bI];have:=Sg nm s l hr;grind
  |false=>
   have hn:∀y∈l,klt _ s=aZ:=fun y hy=>by
    cases aa:klt _ s with
    |false=>rfl
    |true=>
     have:=Co (((bL.1 h).1) _ (dM hy)) aa;grind
   rw[cW,cW,hk];simp only[dR,if_false,Bool.not_false,if_true];rw[List.filter_eq_nil_iff.2 (fun y hy=>by grind),List.filter_eq_self.2 (fun y hy=>by grind)];rfl
def nmC:List aO→Wd
 |Y s::_=>s
 |_=>noW
theorem Avh (c)(s:Wd)(r)(h:c=Y s::r):nmC c=s:=by subst h;rfl
theorem Ym {F}{w}{x}{c}(h:Ck.R F w x c):Lo c∧nmC c=x.name:=by
 obtain⟨sv,rfl,aa⟩:=h;obtain⟨ao,cp,rfl⟩:=aa.shape;exact⟨⟨_,_,_,_,rfl⟩,rfl⟩
theorem Yn {F}{w}{x}{c}(h:Eb.R F w x c):Mf c∧nmC c=x.name:=by
 obtain rfl:=h;exact⟨⟨_,_,_,rfl⟩,rfl⟩
theorem Als {F:Nat→Prop}{w:aV}{l:List TabD}{cs:List aO}(h:All Ck F w l cs):∃CS:List (List aO),cs=CS.flatten∧CS.length=l.length∧(∀c∈CS,Lo c)∧(∀(i:Nat) (x:TabD) (c:List aO),l[i]?=I x→CS[i]?=I c→Ck.R F w x c∧nmC c=x.name):=by
 obtain⟨CS,h1,h2,h3⟩:=Uq h;have hs:∀(i:Nat) (x:TabD) (c:List aO),l[i]?=I x→CS[i]?=I c→Lo c∧nmC c=x.name:=fun i x c hx hc=>Ym (h3 i x c hx hc)
 refine⟨CS,h1,h2,fun c hc=>?_,fun i x c hx hc=>⟨h3 i x c hx hc,(hs i x c hx hc).2⟩⟩;obtain⟨i,hi,rfl⟩:=dN hc;exact(hs i _ _ (aG (by omega)) (aG hi)).1
theorem Ayy {F:Nat→Prop}{w:aV}{sv:aO}{CS:List (List aO)}(hr:Bq F 2 w sv CS.length CS.flatten)(hs:∀c∈CS,Lo c):IsL Ni (fun _=>True) w sv CS:=
 ⟨CS.flatten,hr.mono fun _ _ _=>trivial,Lq rfl fun i x c h1 h2=>by rw[h1]at h2;cases h2;exact⟨rfl,hs _ (aI h1)⟩⟩
theorem Alt {F:Nat→Prop}{w:aV}{l:List IdxD}{cs:List aO}(h:All Eb F w l cs):∃CS:List (List aO),cs=CS.flatten∧CS.length=l.length∧(∀c∈CS,Mf c)∧(∀(i:Nat) (x:IdxD) (c:List aO),l[i]?=I x→CS[i]?=I c→Eb.R F w x c∧nmC c=x.name):=by
 obtain⟨CS,h1,h2,h3⟩:=Uq h;have hs:∀(i:Nat) (x:IdxD) (c:List aO),l[i]?=I x→CS[i]?=I c→Mf c∧nmC c=x.name:=fun i x c hx hc=>Yn (h3 i x c hx hc)
 refine⟨CS,h1,h2,fun c hc=>?_,fun i x c hx hc=>⟨h3 i x c hx hc,(hs i x c hx hc).2⟩⟩;obtain⟨i,hi,rfl⟩:=dN hc;exact(hs i _ _ (aG (by omega)) (aG hi)).1
theorem Ayz {F:Nat→Prop}{w:aV}{sv:aO}{CS:List (List aO)}(hr:Bq F 3 w sv CS.length CS.flatten)(hs:∀c∈CS,Mf c):IsL Nj (fun _=>True) w sv CS:=
 ⟨CS.flatten,hr.mono fun _ _ _=>trivial,Lq rfl fun i x c h1 h2=>by rw[h1]at h2;cases h2;exact⟨rfl,hs _ (aI h1)⟩⟩
end
section
open Go.RowKit
theorem Xk {b}{t}{fr}:∀(vs old aa post:List aO) (w:aV),w.heap[b]?=I (J (aa++old++post).toArray t fr)→old.length=vs.length→(w.setCells b aa.length vs).heap[b]?=I (J (aa++vs++post).toArray t fr)
 |[],old,aa,post,w,h,hl=>by
  have:=cI (by omega);subst this;assumption
 |v::vs,[],aa,post,w,h,hl=>by grind
 |v::vs,y::old,aa,post,w,h,hl=>by
  have h1:=Dj h aa.length v;have e:(aa++(y::old)++post).toArray.setIfInBounds aa.length v=((aa++[v])++old++post).toArray:=by simp
  rw[e]at h1;have:=Xk vs old _ post _ h1 (by grind);rw[cB];grind
theorem E1 {B g}(hB:B≤g){a}:∀(vs:List aO) (o:Nat) (w:aV),Below B a w→Below B a (w.setCells g o vs)
 |[],_,_,h=>h
 |v::vs,o,_,h=>E1 hB vs (o+1) _ (h.setCell (p:=⟨g,o,G⟩) hB v)
theorem Gc (g):∀(vs:List aO) (o:Nat) (w:aV),(w.setCells g o vs).heap.size=w.heap.size
 |[],_,_=>rfl
 |v::vs,o,w=>by rw[cB,Gc g vs];simp
theorem D6 {g k}(aa:k≠g):∀(vs:List aO) (o:Nat) (w:aV),(w.setCells g o vs).heap[k]?=w.heap[k]?
 |[],_,_=>rfl
 |v::vs,o,w=>by rw[cB,D6 aa vs,aU w _ v k aa]
theorem U1 {F}{g}(hg:¬F g)(vs)(o)(w):Keeps F w (w.setCells g o vs):=
 ⟨by rw[Gc];simp,fun k hk _=>D6 (by grind) vs o w⟩
def Eq {α:Type}(K:Elem α)(F:Nat→Prop)(w:aV)(g n:Nat)(l:List α):Prop:=
 ∃cs rest t,w.heap[g]?=I (J (cs++rest).toArray t)∧(cs++rest).length=n*K.size∧All K F w l cs
theorem Pb {α}(K:Elem α)(F){w:aV}{arr}{t}{n}(h:arr.size=n*K.size):Eq K F (w.alloc (J arr t)) w.heap.size n []:=
 ⟨[],arr.toList,t,by simpa using Ab w _,by grind,rfl⟩
theorem Eq.keep {α}{K}{F}{w w'}{g n}{l:List α}(h:Eq K F w g n l)(hk:Keeps F w w')(hg:w'.heap[g]?=w.heap[g]?):Eq K F w' g n l:=by
 obtain⟨cs,rest,t,h1,h2,h3⟩:=h;exact⟨cs,rest,t,hg.trans h1,h2,h3.keep hk⟩
theorem Eq.lt {α}{K}{F}{w}{g n}{l:List α}(h:Eq K F w g n l):g<w.heap.size:=by
 obtain⟨cs,rest,t,h1,_⟩:=h;grind
theorem Eq.below {α}{K}{F}{w w'}{g n}{l:List α}(h:Eq K F w g n l)(hb:Below w.heap.size w w'):Eq K F w' g n l:=h.keep (Ai hb) (hb.block g h.lt)
theorem Eq.there {α}{K}{F}{w}{g n}{l:List α}(h:Eq K F w g n l){i}(hi:i<n):w.there g (i*K.size) K.size:=by
 obtain⟨cs,rest,t,h1,h2,_⟩:=h;intro j hj;have aa:i*K.size+j<(cs++rest).length:=by
  rw[h2];have:(i+1) *K.size≤n*K.size:=fJ _ hi;rw[Nat.add_mul]at this;omega
 refine⟨?_,by simp[dK,h1]⟩;rw[Aa h1 (u:=(cs++rest)[i*K.size+j]) (by simp)];rfl
theorem Eq.set {α}{K}{F}{w}{g n}{l}(h:Eq K F w g n l)(hl:l.length<n)(hg:¬F g){a:α}{c}(hc:K.R F w a c):Eq K F (w.setCells g (l.length*K.size) c) g n (l++[a]):=by
 obtain⟨cs,rest,t,h1,h2,h3⟩:=h;have e1:=h3.length;have e2:=K.len hc;have ab:K.size≤rest.length:=by
  rw[aN]at h2;have:(l.length+1) *K.size≤n*K.size:=fJ _ hl;rw[Nat.add_mul]at this;omega
 have hk:=U1 hg c (l.length*K.size) w;refine⟨_,rest.drop K.size,t,?_,?_,(h3.keep hk).append (All.one (K.keep hk hc))⟩
 ·have aa:w.heap[g]?=I (J (cs++rest.take K.size++rest.drop K.size).toArray t):=by rw[fO,bA];exact h1
  have:=Xk c _ cs _ w aa (by grind);grind
 grind
theorem Eq.set1 {α}{K}{F}{w}{g n}{l}(h:Eq K F w g n l)(hl:l.length<n)(hg:¬F g)(hK:K.size=1){a:α}{v}(hc:K.R F w a [v]):Eq K F (w.setCell ⟨g,l.length,G⟩ v) g n (l++[a]):=by
 have:=h.set hl hg hc;rw[hK,dJ]at this;exact this
theorem Eq.whole {α}{K}{F F'}{w}{g n}{l:List α}(h:Eq K F w g n l)(hl:l.length=n)(hF:∀k,F k→F' k)(hg:F' g)(hn:n≤bS):IsL K F' w (D (I ⟨g,0,G⟩) n n) l:=by
 obtain⟨cs,rest,t,h1,h2,h3⟩:=h;subst hl;have e1:=h3.length;have hr:rest=[]:=cI (by grind);subst hr;refine⟨cs,⟨e1,?_⟩,h3.mono fun k _=>hF k⟩
 by_cases h0:l.length=0
 ·exact .inl ⟨h0,_,_,by rw[h0],fun h=>by rfl⟩
 ·refine .inr ⟨by omega,g,0,_,rfl,hg,aP h1,aT _,hn,fun j u hj=>?_⟩;rw[dE];exact Aa h1 (by grind)
theorem Aa1 {w:aV}{g o n}(h:w.there g o n){j}(hj:j<n):(∃u,w.cell? ⟨g,o+j,G⟩=I u)∧w.frozen? ⟨g,o+j,G⟩=aZ:=
 ⟨eJ.1 (h j hj).1,(h j hj).2⟩
end
section
open Go.RowKit Go.Maps
def Nm (S:List TabD)(e:E)(B:Nat)(w':aV)(v:aO):Prop:=
 match Cv S e with
 |M m=>v=aQ #[Z (Af 0 zero noW noW 0 (D G 0 0)),O U 0,O U m]
 |.ok r=>∃(op:Int) (x:V) (s name:Wd) (n:Int) (ao:Option Addr) (k c:Nat),v=aQ #[Z (Af op x s name n (D ao k c)),O U r.2,O U 0]∧IsE (Fr B) w' r.1 (Z (Af op x s name n (D ao k c)))
theorem Gd {S}{e}{m}(h:Cv S e=M m){B}{w'}{v}:Nm S e B w' v↔v=aQ #[Z (Af 0 zero noW noW 0 (D G 0 0)),O U 0,O U m]:=by unfold Nm;rw[h]
theorem Ls {S}{e}{r}(h:Cv S e=.ok r){B}{w'}{v}:Nm S e B w' v↔∃(op:Int) (x:V) (s name:Wd) (n:Int) (ao:Option Addr) (k c:Nat),v=aQ #[Z (Af op x s name n (D ao k c)),O U r.2,O U 0]∧IsE (Fr B) w' r.1 (Z (Af op x s name n (D ao k c))):=by unfold Nm;rw[h]
mutual
theorem P7 (S:List TabD):∀(e:E) (m:Int),Cv S e=M m→m=3∨m=5
 |.mk op x s name n l,m,h=>by
  rw[Cv]at h;split at h
  ·grind
  ·split at h
   ·grind
   ·cases hl:Be S l with
    |error j=>
     rw[hl]at h;simp only[dB]at h;subst h;exact Vu S l _ hl
    |ok r=>
     grind
theorem Vu (S:List TabD):∀(l:List E) (m:Int),Be S l=M m→m=3∨m=5
 |[],m,h=>by rw[Be]at h;grind
 |e::l,m,h=>by
  rw[Be]at h;cases he:Cv S e with
  |error j=>
   rw[he]at h;simp only[dB]at h;subst h;exact P7 S e _ he
  |ok r=>
   rw[he]at h;simp only at h;cases hl:Be S l with
   |error j=>
    rw[hl]at h;simp only[dB]at h;subst h;exact Vu S l _ hl
   |ok rs=>grind
end
theorem Ahn (S)(x)(s name)(n)(l):Cv S (.mk 1 x s name n l)=.ok (.mk 1 x s name n l,x.k):=by rfl
theorem Aho (S)(x)(s name)(n)(l):Cv S (.mk 2 x s name n l)=if(Eu S s name n).found=1 then .ok (.mk 2 x s name (Eu S s name n).n l,(Eu S s name n).kind)else M 3:=by rfl
theorem Alu (S){op}(h1:op≠1)(h2:op≠2)(x)(s name)(n)(l):Cv S (.mk op x s name n l)=match Be S l with
   |M m=>M m
   |.ok r=>if Ab4 op (r.map dX)then .ok (.mk op x s name n (r.map bD),Pw op)else M 5:=by
 rw[Cv,if_neg h1,if_neg h2]
 try rfl
def Alv (S:List TabD)(d:Nat):Prop:=∀(e:E) (v sv:aO) (C:Nat) (w:aV),IsE (fun k=>k<C) w e v→IsL Ck (fun k=>k<C) w sv S→C≤w.heap.size→geB d e=bF→
  bC aF 235 #[sv,v] w fun r w'=>(∃v,r=aE v∧Nm S e w.heap.size w' v)∧Below w.heap.size w w'
theorem J5 {F}{w}{op}{x}{s name}{n}{ao}{c}(h:ao=G→c=0):IsE F w (.mk op x s name n []) (Z (Af op x s name n (D ao 0 c))):=
 Nw ⟨[],⟨rfl,.inl ⟨rfl,ao,c,rfl,h⟩⟩,by rfl⟩
theorem Yo {F}{w}{op}{x}{s name}{n}{ao}{k c}(h:IsE F w (.mk op x s name n []) (Z (Af op x s name n (D ao k c)))):k=0∧(ao=G→c=0):=by
 obtain⟨sv,h1,cs,hr,_⟩:=h.open;have h2:=by simpa using(cN h1).symm
 subst h2;rcases hr.2 with⟨_,a,c',h3,h4⟩|⟨h0,_⟩
 ·grind
 grind
def Sh (w:aV)(g:Nat)(op:Int)(xk xn:Int)(xs s name:Wd)(n:Int)(sv:aO):Prop:=w.cell? ⟨g,0,G⟩=I (O U op)∧w.cell? ⟨g,1,G⟩=I (O U xk)∧w.cell? ⟨g,2,G⟩=I (O U xn)∧w.cell? ⟨g,3,G⟩=I (Y xs)∧w.cell? ⟨g,4,G⟩=I (Y s)∧w.cell? ⟨g,5,G⟩=I (Y name)∧w.cell? ⟨g,6,G⟩=I (O U n)∧w.cell? ⟨g,7,G⟩=I sv
theorem Tg {w}{g}{op xk xn}{xs s name}{n}{sv}{t}{fr}(h:w.heap[g]?=I (J (Af op ⟨xk,xn,xs⟩ s name n sv) t fr)):Sh w g op xk xn xs s name n sv:=
 ⟨Aa h rfl,Aa h rfl,Aa h rfl,Aa h rfl,Aa h rfl,Aa h rfl,Aa h rfl,Aa h rfl⟩
theorem Asq (w:aV)(op xk xn)(xs s name:Wd)(n)(sv)(t)(o):Sh ((w.alloc (J (Af op ⟨xk,xn,xs⟩ s name n sv) t)).alloc o) w.heap.size op xk xn xs s name n sv:=Tg (Ad (Ab _ _) _)
theorem Ay0 (S)(sv)(x)(s name)(n)(ao)(c)(w)(hc:ao=G→c=0)(aa:Hk sv):
  bC aF 235 #[sv,Z (Af 1 x s name n (D ao 0 c))] w fun r w'=>(∃v,r=aE v∧Nm S (.mk 1 x s name n []) w.heap.size w' v)∧Below w.heap.size w w':=by
 obtain⟨so,sl,sc,rfl⟩:=aa;obtain⟨xk,xn,xs⟩:=x;obtain⟨ab,ac,ad,-⟩:=al2 w (J (Af 1 ⟨xk,xn,xs⟩ s name n (D ao 0 c)) 48) (J (Af 0 zero noW noW 0 (D G 0 0)) 48);go_enter dV,dP;go_wp2_with fail
 go_region_held3(fun w'=>w'.cell? ⟨w.heap.size,0,G⟩=I (O U 1)∧w'.cell? ⟨w.heap.size,1,G⟩=I (O U xk)∧w'.cell? ⟨w.heap.size,2,G⟩=I (O U xn)∧w'.cell? ⟨w.heap.size,3,G⟩=I (Y xs)∧w'.cell? ⟨w.heap.size,4,G⟩=I (Y s)∧w'.cell? ⟨w.heap.size,5,G⟩=I (Y name)∧w'.cell? ⟨w.heap.size,6,G⟩=I (O U n)∧w'.cell? ⟨w.heap.size,7,G⟩=I (D ao 0 c)) (exact Asq _ _ _ _ _ _ _ _ _ _ _)
  (first|fail)
 go_wp2;exact aS (v:=aQ #[Z (Af 1 ⟨xk,xn,xs⟩ s name n (D ao 0 c)),O U xk,O U 0]) (Fm bR _ _ (w.heap.size+1) 48 _ _ _ _ _ rfl rfl rfl (Cc _ _ _) aK rfl Ay) rfl ⟨⟨_,rfl,(Ls (Ahn S _ _ _ _ _)).2 ⟨1,⟨xk,xn,xs⟩,s,name,n,ao,0,c,rfl,J5 hc⟩⟩,(Dd _ _ _).drew⟩
theorem Ay1 (S)(sv)(x)(s name)(n)(ao)(c C)(w)(hc:ao=G→c=0)(hl:IsL Ck (fun k=>k<C) w sv S)(hC:C≤w.heap.size)(hS:S.length≤1000)(ae:∀t∈S,t.cols.length≤1000000):
  bC aF 235 #[sv,Z (Af 2 x s name n (D ao 0 c))] w fun r w'=>(∃v,r=aE v∧Nm S (.mk 2 x s name n []) w.heap.size w' v)∧Below w.heap.size w w':=by
 obtain⟨so,sc,rfl⟩:=hl.shape;obtain⟨xk,xn,xs⟩:=x;have ac:=Dd w (J (Af 2 ⟨xk,xn,xs⟩ s name n (D ao 0 c)) 48) (J (Af 0 zero noW noW 0 (D G 0 0)) 48);have HR:=Aou S _ 2 ⟨xk,xn,xs⟩ s name n ao 0 c C _ (hl.keep (Ae (ac.mono hC))) (aA hC ac.size) hS ae;have HB:Hid (Cv S _=if(Eu S s name n).found=1 then .ok (.mk 2 ⟨xk,xn,xs⟩ s name _ [],(Eu S s name n).kind)else M 3):=Aho S _ _ _ _ _;generalize Eu S s name n=q at HR HB;clear hl
 by_cases aa:q.found=1
 ·rw[Ad6 aa]at HR;have ad:Hid _:=HB.out.trans (if_pos aa);clear HB aa;go_enter dV,dP;go_upto_region 6 with(first|(go_fit HR;rintro e w1 ⟨rfl,ab⟩;have hZ:=(ab.block _ (by simp)).trans (Cc _ _ _))|refine aR rfl 48 _ _ rfl _ _ rfl rfl 48 _ hZ Ay rfl ((fun n=>C6 2 ⟨xk,xn,xs⟩ s name n ao 0 c) _) ?_);exact aS (v:=aQ #[Z (Af 2 ⟨xk,xn,xs⟩ s name q.n (D ao 0 c)),O U q.kind,O U 0]) (Fm bR _ _ (w.heap.size+1) 48 _ _ _ _ _ rfl rfl rfl (Ao hZ) aK rfl Ay) rfl ⟨⟨_,rfl,(Ls ad.out).2 ⟨2,⟨xk,xn,xs⟩,s,name,q.n,ao,0,c,rfl,J5 hc⟩⟩,Below.row (Ac ac ab) (by omega) _⟩
 ·rw[Ad7 aa]at HR;have ad:Hid _:=HB.out.trans (if_neg aa);clear HB aa;go_enter dV,dP;go_upto_region 6 with(first|(go_fit HR;rintro e w1 ⟨rfl,ab⟩;have hZ:=(ab.block _ (by simp)).trans (Cc _ _ _))|refine aR rfl 48 _ _ rfl _ _ rfl rfl 48 _ hZ Ay rfl (C6 0 zero noW noW 0 G 0 0) ?_);exact aS (v:=aQ #[Z (Af 0 zero noW noW 0 (D G 0 0)),O U 0,O U 3]) (Fm bR _ _ (w.heap.size+1) 48 _ _ _ _ _ rfl rfl rfl (Ao hZ) aK rfl Ay) rfl ⟨⟨_,rfl,(Gd ad.out).2 rfl⟩,Below.row (Ac ac ab) (by omega) _⟩
theorem Hx {P}{w}{ops}{o}{a}{K}{Q}{X}(aa:o.guard=G)(ty)(x y)(ho:o.op=.store ty x y)
  (g) (cells) (hx:a.eval x=bV (I ⟨g,0,G⟩)) (hy:a.eval y=Z cells)
  (t) (old) (hg:w.heap[g]?=I (J old t (0,0))) (hi:(P.info? ty).map (·.size)=I cells.size)
  (ab:old.size=cells.size) (h1:cells.all (·.oneCell')=bF)
  (h:K (a.put o.dst eI) (w.setRow g cells)):if cF o (yielded ops a.tmps)=bF then Oper.wp P o a w K Q else X:=by
 rw[if_pos (by simp[cF,aa])];exact wp_store_row ty x y ho g cells hx hy t old hg hi ab h1 h
theorem Sh.row {w}{g}{op xk xn}{xs s name}{n}{sv}(h:Sh w g op xk xn xs s name n sv){b}(hb:g≠b)(cells):Sh (w.setRow b cells) g op xk xn xs s name n sv:=by
 have e:∀o,(w.setRow b cells).cell? ⟨g,o,G⟩=w.cell? ⟨g,o,G⟩:=fun o=>by simp[World.setRow,fC,dF,Ne.symm hb]
 unfold Sh;simp only[e];exact h
theorem Ahp:(Tryz.prog.info? 48).map (fun i=>(i.zero,i.size,i.bytes))=I (I (Z #[O U 0,O U 0,O U 0,Y ⟨#[]⟩,Y ⟨#[]⟩,Y ⟨#[]⟩,O U 0,D G 0 0]),8,104):=by kernel_rfl
theorem Ay2:(Tryz.prog.info? 3).map (fun i=>(i.zero,i.size,i.bytes))=I (I (O U 0),1,8):=by kernel_rfl
theorem Vv (W)(n)(hn:n≤1000000000000):∃aa:Array aO,aa.size=n*8∧(dA 44 (O U (n:Int)) (O U (n:Int))).run aF W=.ok (D (I ⟨W.heap.size,0,G⟩) n n) (W.alloc (J aa 48)):=by
 obtain⟨i0,hi,ac,ad,ae⟩:=cK Ahp;have ab:=fV W 44 48 i0 _ fL hi ac .i64 .i64 n n (by omega) (eH _) (by grind) (by omega);rw[ad,cT]at ab;exact⟨_,dS _ _,ab⟩
theorem Avi (W)(n)(hn:n≤1000000000000):∃aa:Array aO,aa.size=n*1∧(dA 270 (O U (n:Int)) (O U (n:Int))).run aF W=.ok (D (I ⟨W.heap.size,0,G⟩) n n) (W.alloc (J aa 3)):=by
 obtain⟨i0,hi,ac,ad,ae⟩:=cK Ay2;have ab:=fV W 270 3 i0 _ Tryz.underlying270 hi ac .i64 .i64 n n (by omega) (eH _) (by grind) (by omega);rw[ad,cT]at ab;exact⟨_,dS _ _,ab⟩
theorem Ay3 (w)(o1 o2)(a1 a2)(t1 t2)(n)(F)(h1:a1.size=n*8)(h2:a2.size=n*1):
  ((((w.alloc o1).alloc o2).alloc (J a1 t1)).alloc (J a2 t2)).heap[w.heap.size]?=I o1∧((((w.alloc o1).alloc o2).alloc (J a1 t1)).alloc (J a2 t2)).heap[w.heap.size+1]?=I o2∧
  Eq Az F ((((w.alloc o1).alloc o2).alloc (J a1 t1)).alloc (J a2 t2)) (w.heap.size+1+1) n []∧Eq Oz F ((((w.alloc o1).alloc o2).alloc (J a1 t1)).alloc (J a2 t2)) (w.heap.size+1+1+1) n []∧
  Below w.heap.size w ((((w.alloc o1).alloc o2).alloc (J a1 t1)).alloc (J a2 t2))∧w.heap.size+4≤((((w.alloc o1).alloc o2).alloc (J a1 t1)).alloc (J a2 t2)).heap.size:=by
 have m1:=by
  have:=Pb Az F (w:=(w.alloc o1).alloc o2) (t:=t1) (n:=n) h1;rwa[show((w.alloc o1).alloc o2).heap.size=w.heap.size+1+1 from by simp]at this
 have m2:=by
  have:=Pb Oz F (w:=((w.alloc o1).alloc o2).alloc (J a1 t1)) (t:=t2) (n:=n) h2;rwa[show(((w.alloc o1).alloc o2).alloc (J a1 t1)).heap.size=w.heap.size+1+1+1 from by simp]at this
 exact⟨Ad (Ad (Ad (Ab _ _) _) _) _,Ad (Ad (Cc _ _ _) _) _,m1.below (Aq _ _),m2,(Hy _ _ _ _).alloc (by simp;omega) _,by simp⟩
theorem Yp {W w1}{g n j}{le}{li}{op}{x}{s name}{i}{ao}{k c}{e}{ty}
  (h1:Eq Az (Fr (g+4)) W (g+1+1) n le) (h2:Eq Oz (Fr (g+4)) W (g+1+1+1) n li) (hb:Below W.heap.size W w1) (hj:j<n) (l1:le.length=j) (l2:li.length=j)
  (he:IsE (Fr (g+4)) w1 e (Z (Af op x s name i (D ao k c)))):
  w1.there (g+1+1) (j*8) 8∧(∃u,(w1.setCells (g+1+1) (j*8) (Af op x s name i (D ao k c)).toList).cell? ⟨g+1+1+1,j,G⟩=I u)∧(w1.setCells (g+1+1) (j*8) (Af op x s name i (D ao k c)).toList).frozen? ⟨g+1+1+1,j,G⟩=aZ∧
  Eq Az (Fr (g+4)) ((w1.setCells (g+1+1) (j*8) (Af op x s name i (D ao k c)).toList).setCell ⟨g+1+1+1,j,G⟩ (O U ty)) (g+1+1) n (le++[e])∧
  Eq Oz (Fr (g+4)) ((w1.setCells (g+1+1) (j*8) (Af op x s name i (D ao k c)).toList).setCell ⟨g+1+1+1,j,G⟩ (O U ty)) (g+1+1+1) n (li++[ty]):=by
 subst l1;have m1:=h1.below hb;have aa:¬Fr (g+4) (g+1+1):=by show¬_≤_;omega
 have ab:¬Fr (g+4) (g+1+1+1):=by show¬_≤_;omega
 have n2:Eq Oz _ (w1.setCells _ (le.length*8) (Af op x s name i (D ao k c)).toList) _ n li:=(h2.below hb).keep (U1 aa _ _ _) (D6 (by omega) _ _ _);have t2:=Aa1 (n2.there hj) (j:=0) (by decide);simp only[Oz,dJ,bJ]at t2;refine⟨m1.there hj,t2.1,t2.2,(m1.set hj aa (c:=(Af op x s name i _).toList) ⟨rfl,he⟩).keep ((Keeps.refl _ _).set ab _ _) (aU _ _ _ _ (by simp)),?_⟩;have:=n2.set1 (by omega) ab rfl (a:=ty) rfl;grind
theorem Aqw {w w1}{g k}{x}(hk:k<w.heap.size)(hn:k<g+1+1)(hb:Below w.heap.size w w1)(hx:w.heap[k]?=I x)(o)(vs)(i)(v):
  ((w1.setCells (g+1+1) o vs).setCell ⟨g+1+1+1,i,G⟩ v).heap[k]?=I x:=
 (aU _ _ _ _ (show k≠g+1+1+1 by omega)).trans ((D6 (show k≠g+1+1 by omega) _ _ _).trans ((hb.block _ hk).trans hx))
theorem A1z (S)(d:Nat)(ih:Alv S d)(sv:aO)(op:Int)(x:V)(s name:Wd)(n:Int)(l:List E)(ao:Option Addr)(c C:Nat)(w:aV)(h1:op≠1)(h2:op≠2)(he:IsL Az (fun k=>k<C) w (D ao l.length c) l)(hl:IsL Ck (fun k=>k<C) w sv S)(hC:C≤w.heap.size)(hg:∀a∈l,geB d a=bF)(bm:l.length≤2):
  bC aF 235 #[sv,Z (Af op x s name n (D ao l.length c))] w fun r w'=>(∃v,r=aE v∧Nm S (.mk op x s name n l) w.heap.size w' v)∧Below w.heap.size w w':=by
 obtain⟨so,sc,rfl⟩:=hl.shape;obtain⟨xk,xn,xs⟩:=x;have e1:(op==1)=aZ:=by simpa using h1
 have e2:(op==2)=aZ:=by simpa using h2
 have HB:Hid (Cv S (.mk op ⟨xk,xn,xs⟩ s name n l)=match Be S l with
   |M m=>M m
   |.ok r=>if Ab4 op (r.map dX)then .ok (.mk op ⟨xk,xn,xs⟩ s name n (r.map bD),Pw op)else M 5):=Alu S h1 h2 _ _ _ _ _
 obtain⟨ck,cl,cm,-⟩:=al2 w (J (Af op ⟨xk,xn,xs⟩ s name n (D ao l.length c)) 48) (J (Af 0 zero noW noW 0 (D G 0 0)) 48);clear h1 h2;go_enter dV,dP;go_wp2_with fail;obtain⟨bn,bo,bp⟩:=Vv ((w.alloc (J (Af op ⟨xk,xn,xs⟩ s name n (D ao l.length c)) 48)).alloc (J (Af 0 zero noW noW 0 (D G 0 0)) 48)) l.length (by omega)
 erw[bp]
 go_wp2_with fail;obtain⟨cn,bq,bt⟩:=Avi (((w.alloc (J (Af op ⟨xk,xn,xs⟩ s name n (D ao l.length c)) 48)).alloc (J (Af 0 zero noW noW 0 (D G 0 0)) 48)).alloc (J bn 48)) l.length (by omega)
 erw[bt]
 have co:=Ay3 w (J (Af op ⟨xk,xn,xs⟩ s name n (D ao l.length c)) 48) (J (Af 0 zero noW noW 0 (D G 0 0)) 48) bn cn 48 3 l.length (Fr (w.heap.size+4)) bo bq;clear bp bt bo bq ck cl cm;obtain⟨bu,bv,bw,bx,bz,ca⟩:=co;go_wp2_with fail
 go_loopw[39] (fun i wr=>∃(j:Nat) (rs:List (E×Int)),j≤l.length∧i=O U j∧Hid (Be S (l.take j)=.ok rs)∧Hid (rs.length=j)∧wr.heap[w.heap.size]?=I (J (Af op ⟨xk,xn,xs⟩ s name n (D ao l.length c)) 48)∧wr.heap[w.heap.size+1]?=I (J (Af 0 zero noW noW 0 (D G 0 0)) 48)∧Eq Az (Fr (w.heap.size+4)) wr (w.heap.size+1+1) l.length (rs.map bD)∧Eq Oz (Fr (w.heap.size+4)) wr (w.heap.size+1+1+1) l.length (rs.map dX)∧Below w.heap.size w wr∧w.heap.size+4≤wr.heap.size) (fun i _=>l.length-(bQ i).toNat)
 case atStart=>exact⟨0,[],bK _,rfl,by show _=_;rw[cC,Be],rfl,bu,bv,bw,bx,bz,ca⟩
 case round=>
  obtain⟨j,rs,hj,rfl,HQ,HL,hE,hZ,ap,aq,aa,cv⟩:=hrel;clear bu bv bw bx bz ca
  by_cases be:j<l.length
  ·obtain⟨a,ha⟩:∃a,l[j]?=I a:=⟨_,aG be⟩;have HT:Hid (l.take (j+1)=l.take j++[a]):=by show _=_;rw[aX,ha];rfl
   obtain⟨b,cx,cs,rfl,cy,hb,hR,ak⟩:=At (he.keep (Ae (aa.mono hC))) ha;obtain⟨ar,au,av,aw,s',ax,n',bf,k',c',rfl⟩:=Fl hR;have d0:=ak 0 _ rfl;have d1:=ak 1 _ rfl;have d2:=ak 2 _ rfl;have d3:=ak 3 _ rfl;have d4:=ak 4 _ rfl;have d5:=ak 5 _ rfl;have d6:=ak 6 _ rfl;have d7:=ak 7 _ rfl;simp only[Az,bJ]at d0 d1 d2 d3 d4 d5 d6 d7;have j0:(0:Int)≤j:=by omega
   have j1:j<(l.length:Int):=by omega
   have am:=Aq wr (J (Af ar ⟨au,av,aw⟩ s' ax n' (D bf k' c')) 48);have HI:=ih a (Z (Af ar ⟨au,av,aw⟩ s' ax n' _)) _ C _ (IsE.keep (Ae (am.mono (aA hC aa.size))) _ _ hR.2) ((hl.keep (Ae (aa.mono hC))).keep (Ae (am.mono (aA hC aa.size)))) (aA (aA hC aa.size) am.size) (hg a (aI ha));clear ak hR ha ih hg;have bg:=aP hE;have al:=aP hZ;have q2:=HL.out;have l1:(rs.map bD).length=j:=by rw[bN];exact q2
   have l2:(rs.map dX).length=j:=by rw[bN];exact q2
   rcases ad:Cv S a with m|r
   ·rcases P7 S a m ad with rfl|rfl
    ·have ay:=HI.mono (R':=fun e w'=>∃(op:Int) (x:V) (s name:Wd) (n:Int) (ao:Option Addr) (k c:Nat) (z:Int),e=aE (aQ #[Z (Af op x s name n (D ao k c)),O _ z,O _ 3])∧IsE (Fr (w.heap.size+4)) w' _ (Z (Af op x s name n (D ao k c)))∧Below (wr.heap.size+1) (wr.alloc (J (Af ar ⟨au,av,aw⟩ s' ax n' (D bf k' c')) 48)) w') (by
      rintro e w' ⟨⟨v,rfl,hv⟩,cb⟩;obtain rfl:=(Gd ad).1 hv;exact⟨0,zero,noW,noW,0,G,0,0,0,rfl,J5 fun _=>rfl,by simp_all⟩)
     have HE:Hid (Cv S (.mk op ⟨xk,xn,xs⟩ s name n l)=M 3):=by
      show _=_;have hs:Be S (l.take (j+1))=M 3:=by rw[HT.out,Km,HQ.out,ad]
      have:=Ml S (l.take (j+1)) (l.drop (j+1)) 3 hs;rw[bA]at this;rw[HB.out,this]
     clear HI ad HB HQ HL HT q2;go_wp2_with(first|(refine ay.mono ?_;rintro e w1 ⟨ae,x2,s2,af,n2,ag,k2,c2,z,rfl,az,ab⟩;obtain⟨ah,ai,aj⟩:=x2;have ac:=Ac am (by simpa using ab);obtain⟨mt,⟨u,mu⟩,mf,cc,cd⟩:=Yp (ty:=z) ap aq ac be l1 l2 az;have ba:=C6 ae ⟨ah,ai,aj⟩ s2 af n2 ag k2 c2;have bb:=Aqw (g:=w.heap.size) al (by omega) ac hZ (j*8) (Af ae ⟨ah,ai,aj⟩ s2 af n2 (D ag k2 c2)).toList j (O U z))|(refine aR rfl 48 _ _ rfl (w.heap.size+1) (Af 0 zero noW noW 0 (D G 0 0)) ?_ ?_ 48 (Af 0 zero noW noW 0 (D G 0 0)) ?_ ?_ ?_ ?_ ?_;exact rfl;exact rfl;exact bb;exact Ay;exact rfl;exact C6 0 zero noW noW 0 G 0 0)|(refine bM rfl 48 _ _ rfl (w.heap.size+1+1) (j*8) (Af ae ⟨ah,ai,aj⟩ s2 af n2 (D ag k2 c2)) ?_ ?_ ?_ ?_ ?_ ?_;exact rfl;exact rfl;exact mt;exact Ay;exact ba));have bc:=aa.trans (ac.mono aa.size);exact aS (v:=aQ #[Z (Af 0 zero noW noW 0 (D G 0 0)),O U 0,O U 3]) (Fm bR _ _ (w.heap.size+1) 48 _ _ _ _ _ rfl rfl rfl (Ao bb) aK rfl Ay) rfl ⟨⟨_,rfl,(Gd HE.out).2 rfl⟩,Below.row ((E1 (show w.heap.size≤w.heap.size+1+1 by omega) _ _ _ bc).setCell (show w.heap.size≤w.heap.size+1+1+1 by omega) _) (by omega) _⟩
    ·have ay:=HI.mono (R':=fun e w'=>∃(op:Int) (x:V) (s name:Wd) (n:Int) (ao:Option Addr) (k c:Nat) (z:Int),e=aE (aQ #[Z (Af op x s name n (D ao k c)),O _ z,O _ 5])∧IsE (Fr (w.heap.size+4)) w' _ (Z (Af op x s name n (D ao k c)))∧Below (wr.heap.size+1) (wr.alloc (J (Af ar ⟨au,av,aw⟩ s' ax n' (D bf k' c')) 48)) w') (by
      rintro e w' ⟨⟨v,rfl,hv⟩,cb⟩;obtain rfl:=(Gd ad).1 hv;exact⟨0,zero,noW,noW,0,G,0,0,0,rfl,J5 fun _=>rfl,by simp_all⟩)
     have HE:Hid (Cv S (.mk op ⟨xk,xn,xs⟩ s name n l)=M 5):=by
      show _=_;have hs:Be S (l.take (j+1))=M 5:=by rw[HT.out,Km,HQ.out,ad]
      have:=Ml S (l.take (j+1)) (l.drop (j+1)) 5 hs;rw[bA]at this;rw[HB.out,this]
     clear HI ad HB HQ HL HT q2;go_wp2_with(first|(refine ay.mono ?_;rintro e w1 ⟨ae,x2,s2,af,n2,ag,k2,c2,z,rfl,az,ab⟩;obtain⟨ah,ai,aj⟩:=x2;have ac:=Ac am (by simpa using ab);obtain⟨mt,⟨u,mu⟩,mf,cc,cd⟩:=Yp (ty:=z) ap aq ac be l1 l2 az;have ba:=C6 ae ⟨ah,ai,aj⟩ s2 af n2 ag k2 c2;have bb:=Aqw (g:=w.heap.size) al (by omega) ac hZ (j*8) (Af ae ⟨ah,ai,aj⟩ s2 af n2 (D ag k2 c2)).toList j (O U z))|(refine aR rfl 48 _ _ rfl (w.heap.size+1) (Af 0 zero noW noW 0 (D G 0 0)) ?_ ?_ 48 (Af 0 zero noW noW 0 (D G 0 0)) ?_ ?_ ?_ ?_ ?_;exact rfl;exact rfl;exact bb;exact Ay;exact rfl;exact C6 0 zero noW noW 0 G 0 0)|(refine bM rfl 48 _ _ rfl (w.heap.size+1+1) (j*8) (Af ae ⟨ah,ai,aj⟩ s2 af n2 (D ag k2 c2)) ?_ ?_ ?_ ?_ ?_ ?_;exact rfl;exact rfl;exact mt;exact Ay;exact ba));have bc:=aa.trans (ac.mono aa.size);exact aS (v:=aQ #[Z (Af 0 zero noW noW 0 (D G 0 0)),O U 0,O U 5]) (Fm bR _ _ (w.heap.size+1) 48 _ _ _ _ _ rfl rfl rfl (Ao bb) aK rfl Ay) rfl ⟨⟨_,rfl,(Gd HE.out).2 rfl⟩,Below.row ((E1 (show w.heap.size≤w.heap.size+1+1 by omega) _ _ _ bc).setCell (show w.heap.size≤w.heap.size+1+1+1 by omega) _) (by omega) _⟩
   ·have ay:=HI.mono (R':=fun e w'=>∃(op:Int) (x:V) (s name:Wd) (n:Int) (ao:Option Addr) (k c:Nat),e=aE (aQ #[Z (Af op x s name n (D ao k c)),O _ r.2,O _ 0])∧IsE (Fr (w.heap.size+4)) w' r.1 (Z (Af op x s name n (D ao k c)))∧Below (wr.heap.size+1) (wr.alloc (J (Af ar ⟨au,av,aw⟩ s' ax n' (D bf k' c')) 48)) w') (by
     rintro e w' ⟨⟨v,rfl,hv⟩,cb⟩;obtain⟨op,x,s,name,n,ao,k,c,rfl,cp⟩:=(Ls ad).1 hv;exact⟨op,x,s,name,n,ao,k,c,rfl,IsE.mono (fun k _ hk=>by exact aA (by simp;omega) hk) _ _ cp,by simp_all⟩)
    have ce:Hid _:=ad;clear HI ad;have HS:Hid (Be S (l.take (j+1))=.ok (rs++[r])):=by show _=_;rw[HT.out,Km,HQ.out,ce.out]
    have cq:Hid ((rs++[r]).length=j+1):=by show _=_;rw[aN,q2];rfl
    clear HQ HL HT ce q2;go_wp2_with(first|(refine ay.mono ?_;rintro e w1 ⟨ae,x2,s2,af,n2,ag,k2,c2,rfl,az,ab⟩;obtain⟨r1,r2⟩:=r;obtain⟨ah,ai,aj⟩:=x2;have ac:=Ac am (by simpa using ab);obtain⟨mt,⟨u,mu⟩,mf,cc,cd⟩:=Yp (ty:=r2) ap aq ac be l1 l2 az;have ba:=C6 ae ⟨ah,ai,aj⟩ s2 af n2 ag k2 c2)|(refine bM rfl 48 _ _ rfl (w.heap.size+1+1) (j*8) (Af ae ⟨ah,ai,aj⟩ s2 af n2 (D ag k2 c2)) ?_ ?_ ?_ ?_ ?_ ?_;exact rfl;exact rfl;exact mt;exact Ay;exact ba));have bc:=aa.trans (ac.mono aa.size);go_roundw
    case rel=>exact⟨_,_,by omega,by rfl,HS,cq,(aU _ _ _ _ (show w.heap.size≠w.heap.size+1+1+1 by omega)).trans ((D6 (show w.heap.size≠w.heap.size+1+1 by omega) _ _ _).trans ((ac.block _ bg).trans hE)),(aU _ _ _ _ (show w.heap.size+1≠w.heap.size+1+1+1 by omega)).trans ((D6 (show w.heap.size+1≠w.heap.size+1+1 by omega) _ _ _).trans ((ac.block _ al).trans hZ)),by grind,by grind,(E1 (show w.heap.size≤w.heap.size+1+1 by omega) _ _ _ bc).setCell (show w.heap.size≤w.heap.size+1+1+1 by omega) _,by have:=ac.size;simp[Gc];omega⟩
    case measure=>simp[bQ];omega
  ·have cr:j=l.length:=by omega
   subst cr;have bg:=aP hE;have al:=aP hZ;have q2:=HL.out;have bh:Hid (Be S l=.ok rs):=by
    have:=HQ.out;rw[bE]at this;exact this
   have bj:IsL Az (Fr _) wr _ _:=ap.whole (by grind) (fun k hk=>aA (by omega) hk) (show w.heap.size+2≤w.heap.size+1+1 by omega) (aA bm (by decide));have cf:IsL Oz (Fr _) wr _ _:=aq.whole (by grind) (fun k hk=>aA (by omega) hk) (show w.heap.size≤w.heap.size+1+1+1 by omega) (aA bm (by decide));have HF:=A1y op _ _ _ wr cf;have e0:=Aa hE (j:=0) rfl;clear q2 ap aq cf HQ HL ih hg he hl;cases an:Ab4 op (rs.map dX)
   ·rw[an]at HF;have HE:Hid (Cv S (.mk op ⟨xk,xn,xs⟩ s name n l)=M 5):=by
     show _=_;rw[HB.out,bh.out];simp only[an];rfl
    clear HB bh an bj;go_wp2_with(first|(go_fit HF;rintro e w1 ⟨rfl,ab⟩;have bd:=(ab.block _ al).trans hZ)|(refine aR rfl 48 _ _ rfl (w.heap.size+1) (Af 0 zero noW noW 0 (D G 0 0)) ?_ ?_ 48 (Af 0 zero noW noW 0 (D G 0 0)) ?_ ?_ ?_ ?_ ?_;exact rfl;exact rfl;exact bd;exact Ay;exact rfl;exact C6 0 zero noW noW 0 G 0 0));exact aS (v:=aQ #[Z (Af 0 zero noW noW 0 (D G 0 0)),O U 0,O U 5]) (Fm bR _ _ (w.heap.size+1) 48 _ _ _ _ _ rfl rfl rfl (Ao bd) aK rfl Ay) rfl ⟨⟨_,rfl,(Gd HE.out).2 rfl⟩,Below.row (aa.trans (ab.mono aa.size)) (by omega) _⟩
   ·rw[an]at HF;have HE:Hid (Cv S (.mk op ⟨xk,xn,xs⟩ s name n l)=.ok (.mk op ⟨xk,xn,xs⟩ s name n (rs.map bD),Pw op)):=by
     show _=_;rw[HB.out,bh.out];simp only[an];rfl
    have HT:=fun W=>Aso op W
    generalize ct:Pw op=ty at HT HE;clear HB bh an ct;go_wp2_with(first|(go_fit HF;rintro e w1 ⟨rfl,ab⟩;have bd:=(ab.block _ al).trans hZ;have bi:=(ab.block _ bg).trans hE;have g7:=Aa bi (j:=7) rfl;have f7:w1.frozen? ⟨w.heap.size,7,G⟩=aZ:=by simp[dK,bi]));have cg:(w1.setCell _ _).heap[w.heap.size]?=I (J (Af op _ s name n (D (I ⟨w.heap.size+1+1,0,G⟩) l.length l.length)) 48):=Dj bi 7 _;have bk:(w1.setCell ⟨w.heap.size,7,G⟩ (D (I ⟨w.heap.size+1+1,0,G⟩) l.length l.length)).heap[w.heap.size+1]?=I _:=(aU _ _ _ _ (show w.heap.size+1≠w.heap.size by omega)).trans bd;have ch:Below _ w (w1.setCell ⟨w.heap.size,7,G⟩ (D (I ⟨w.heap.size+1+1,0,G⟩) l.length l.length)):=(aa.trans (ab.mono aa.size)).setCell (aT _) _;have cj:IsL Az _ (w1.setCell ⟨_,7,G⟩ (D (I ⟨w.heap.size+1+1,0,G⟩) l.length l.length)) _ _:=bj.keep ((Ai ab).trans ((Keeps.refl _ _).set (show¬w.heap.size+2≤w.heap.size by omega) _ _));generalize w1.setCell _ _=W at cg bk ch cj⊢;clear bi bd g7 f7 ab bj hE hZ bg al aa;refine cP (S:=(fun w'=>Sh w' w.heap.size op xk xn xs s name n (D (I ⟨w.heap.size+1+1,0,G⟩) l.length l.length))) (by rfl) ?_ (fun hHeld=>?_)
    ·exact Tg cg
    refine tk 0 ?_ (hy:=by intro W' bl;obtain⟨a0,a1,a2,a3,a4,a5,a6,a7⟩:=bl;go_simp;all_goals(with_reducible rfl));refine tk 1 ?_;refine tk 2 ?_ (hy:=by intro W' bl;obtain⟨a0,a1,a2,a3,a4,a5,a6,a7⟩:=bl;go_simp;all_goals(with_reducible rfl));refine Bi 3 (fun K hK=>?_);go_simp
    (refine(HT _).mono ?_;rintro e w2 ⟨rfl,rfl⟩)
    go_wp2_with fail;refine hK.out _ _ ?_ (fun hHeld=>?_)
    ·omega
    clear hK K;refine Bi 4 (fun K hK=>?_);refine Hx rfl 48 _ _ rfl (w.heap.size+1) (Af op ⟨xk,xn,xs⟩ s name n (D (I ⟨w.heap.size+1+1,0,G⟩) l.length l.length)) ?_ ?_ 48 (Af 0 zero noW noW 0 (D G 0 0)) ?_ ?_ ?_ ?_ ?_;exact rfl;exact rfl;exact bk;exact Ay;exact rfl;exact C6 op ⟨xk,xn,xs⟩ s name n (I ⟨w.heap.size+1+1,0,G⟩) l.length l.length;refine hK.out _ _ ?_ (fun hHeld=>?_)
    ·exact hHeld.row (by omega) _
    clear hK K
    try simp only[aH]
    refine tk 5 ?_;refine tk 6 ?_;refine cY (by kernel_rfl) ?_ _;go_wp2_with fail;have cu:=(cj.keep ((Keeps.refl _ W).drew.row (show¬w.heap.size+2≤w.heap.size+1 by omega) (Af op ⟨xk,xn,xs⟩ s name n (D (I ⟨w.heap.size+1+1,0,G⟩) l.length l.length)))).mono (F':=Fr w.heap.size) (fun k _ hk=>aA (by omega) hk);exact aS (v:=aQ #[Z (Af op ⟨xk,xn,xs⟩ s name n (D (I ⟨w.heap.size+1+1,0,G⟩) l.length l.length)),O U ty,O U 0]) (Fm bR _ _ (w.heap.size+1) 48 _ _ _ _ _ rfl rfl rfl (Ao bk) aK rfl Ay) rfl ⟨⟨_,rfl,(Ls HE.out).2 ⟨op,⟨xk,xn,xs⟩,s,name,n,_,_,_,rfl,Nw (Akr.1 cu)⟩⟩,Below.row ch.drew (by omega) _⟩
theorem Avj {d}{op}{x}{s name}{n}{l}(h:geB (d+1) (.mk op x s name n l)=bF):(∀a∈l,geB d a=bF)∧l.length≤2∧(op=1∨op=2→l=[]):=by
 simp only[geB,bX,decide_eq_true_eq,List.all_eq_true]at h;obtain⟨⟨h1,_⟩,h3⟩:=h;refine⟨h3,?_,fun ho=>?_⟩
 ·unfold Gk at h1;omega
 ·rw[Gk,if_pos ho]at h1;simp_all
theorem Ab5 (S:List TabD)(hS:S.length≤1000)(aa:∀t∈S,t.cols.length≤1000000):∀d,Alv S d
 |0=>by
  intro e v sv C w _ _ _ hg;simp[geB]at hg
 |d+1=>by
  intro e v sv C w he hl hC hg;obtain⟨op,x,s,name,n,l⟩:=e;obtain⟨ac,rfl,ab⟩:=he.open;obtain⟨h3,h2,h0⟩:=Avj hg;have hL:=Akr.2 ab;obtain⟨ao,c,rfl⟩:=hL.shape
  by_cases o1:op=1
  ·subst o1;obtain rfl:=h0 (.inl rfl);exact Ay0 S sv x s name n ao c w (Yo he).2 (Gh hl)
  ·by_cases o2:op=2
   ·subst o2;obtain rfl:=h0 (.inr rfl);exact Ay1 S sv x s name n ao c C w (Yo he).2 hl hC hS aa
   ·exact A1z S d (Ab5 S hS aa d) sv op x s name n l ao c C w o1 o2 hL hl hC h3 h2
def asR (S:List TabD)(want:Int)(e:E):Except Int E:=
 match Cv S e with
 |M m=>M m
 |.ok r=>if Jp r.2 want then .ok r.1 else M 5
theorem Rq {S}{want}{e}{m}(h:asR S want e=M m):m=3∨m=5:=by
 unfold asR at h;cases hb:Cv S e with
 |error k=>
  rw[hb]at h;obtain rfl:=aM h;exact P7 S e _ hb
 |ok r=>
  grind
def Z3 (R:Except Int E)(F:Nat→Prop)(w':aV)(v:aO):Prop:=
 match R with
 |M m=>v=aQ #[Z (Af 0 zero noW noW 0 (D G 0 0)),O U m]
 |.ok e=>∃(op:Int) (x:V) (s name:Wd) (n:Int) (ao:Option Addr) (k c:Nat),v=aQ #[Z (Af op x s name n (D ao k c)),O U 0]∧IsE F w' e (Z (Af op x s name n (D ao k c)))
theorem Alw (w:aV)(o1 o2){w1}(hb:Below ((w.alloc o1).alloc o2).heap.size ((w.alloc o1).alloc o2) w1)(o3):(w1.alloc o3).heap[w.heap.size+1]?=I o2:=
 Ad ((hb.block _ (by simp)).trans (Cc w o1 o2)) _
theorem Vw (S)(hS:S.length≤1000)(au:∀t∈S,t.cols.length≤1000000)(d)(want)(e)(v sv)(C)(w)(he:IsE (fun k=>k<C) w e v)(hl:IsL Ck (fun k=>k<C) w sv S)(hC:C≤w.heap.size)(hg:geB d e=bF):
  bC aF 233 #[sv,O U want,v] w fun r w'=>(∃u,r=aE u∧Z3 (asR S want e) (Fr w.heap.size) w' u)∧Below w.heap.size w w':=by
 obtain⟨so,sc,rfl⟩:=hl.shape;obtain⟨al,⟨am,an,ap⟩,s',aq,n',ar,k',c',rfl⟩:∃(op:Int) (x:V) (s name:Wd) (n:Int) (ao:Option Addr) (k c:Nat),v=Z (Af op x s name n (D ao k c)):=by
  obtain⟨op,x,s,name,n,l⟩:=e;obtain⟨ba,rfl,ax⟩:=he.open;obtain⟨ao,c,rfl⟩:=(Akr.2 ax).shape;grind
 have ad:=Dd w (J (Af al ⟨am,an,ap⟩ s' aq n' (D ar k' c')) 48) (J (Af 0 zero noW noW 0 (D G 0 0)) 48);have HI:=Ab5 S hS au d e _ _ C _ (IsE.keep (Ae (ad.mono hC)) _ _ he) (hl.keep (Ae (ad.mono hC))) (aA hC ad.size) hg;have av:=C6 0 zero noW noW 0 G 0 0;clear he hl hg hS au;rcases ac:Cv S e with m|r
 ·have HA:Hid (asR S want e=M m):=by show _=_;unfold asR;rw[ac]
  have hm:=P7 S e m ac;have ah:=HI.mono (R':=fun r w'=>∃(op:Int) (x:V) (s name:Wd) (n:Int) (ao:Option Addr) (k c:Nat) (z:Int),r=aE (aQ #[Z (Af op x s name n (D ao k c)),O U z,O U m])∧Below ((w.alloc (J (Af al ⟨am,an,ap⟩ s' aq n' (D ar k' c')) 48)).alloc (J (Af 0 zero noW noW 0 (D G 0 0)) 48)).heap.size ((w.alloc (J (Af al ⟨am,an,ap⟩ s' aq n' (D ar k' c')) 48)).alloc (J (Af 0 zero noW noW 0 (D G 0 0)) 48)) w') (by
   rintro e w' ⟨⟨v,rfl,hv⟩,aw⟩;obtain rfl:=(Gd ac).1 hv;grind)
  clear HI ac;rcases hm with rfl|rfl
  all_goals
   go_enter eZ,eP;go_wp2_with(first|(refine ah.mono ?_;rintro e w1 ⟨ae,x2,s2,af,n2,ag,k2,c2,z,rfl,aa⟩;obtain⟨ai,aj,ak⟩:=x2;have hZ:=fun o3=>Alw w _ _ aa o3;have ab:=Ac ad aa)|(refine aR rfl 48 _ _ rfl (w.heap.size+1) (Af 0 zero noW noW 0 (D G 0 0)) ?_ ?_ 48 (Af 0 zero noW noW 0 (D G 0 0)) ?_ ?_ ?_ ?_ ?_;exact rfl;exact rfl;exact hZ _;exact Ay;exact rfl;exact av));refine aS (Dq eG _ _ _ 48 _ _ _ _ rfl rfl (Ao (hZ _)) aK rfl Ay) rfl ⟨⟨_,rfl,?_⟩,Below.row (ab.alloc ab.size _) (by omega) _⟩;rw[HA.out];rfl
 ·obtain⟨e2,ty⟩:=r;have HA:Hid (asR S want e=if Jp ty want then .ok e2 else M 5):=by show _=_;unfold asR;rw[ac]
  have ah:=HI.mono (R':=fun r w'=>∃(op:Int) (x:V) (s name:Wd) (n:Int) (ao:Option Addr) (k c:Nat),r=aE (aQ #[Z (Af op x s name n (D ao k c)),O _ ty,O _ 0])∧IsE (Fr (w.heap.size+2)) w' e2 (Z (Af op x s name n (D ao k c)))∧Below _ _ w') (by
   rintro e w' ⟨⟨v,rfl,hv⟩,aw⟩;obtain⟨op,x,s,name,n,ao,k,c,rfl,ay⟩:=(Ls ac).1 hv;exact⟨op,x,s,name,n,ao,k,c,rfl,IsE.mono (fun k _ hk=>aA (by simp) hk) _ _ ay,aw⟩)
  have HC:=fun W=>Yl ty want W
  clear HI ac;generalize Jp ty want=cb at HA HC;cases cb
  ·go_enter eZ,eP;go_wp2_with(first|(refine ah.mono ?_;rintro e w1 ⟨ae,x2,s2,af,n2,ag,k2,c2,rfl,hE,aa⟩;obtain⟨ai,aj,ak⟩:=x2;have hZ:=fun o3=>Alw w _ _ aa o3;have ab:=Ac ad aa)|(refine(HC _).mono ?_;rintro e w2 ⟨rfl,rfl⟩)|(refine aR rfl 48 _ _ rfl (w.heap.size+1) (Af 0 zero noW noW 0 (D G 0 0)) ?_ ?_ 48 (Af 0 zero noW noW 0 (D G 0 0)) ?_ ?_ ?_ ?_ ?_;exact rfl;exact rfl;exact hZ _;exact Ay;exact rfl;exact av));refine aS (Dq eG _ _ _ 48 _ _ _ _ rfl rfl (Ao (hZ _)) aK rfl Ay) rfl ⟨⟨_,rfl,?_⟩,Below.row (ab.alloc ab.size _) (by omega) _⟩;rw[HA.out];rfl
  ·go_enter eZ,eP;go_wp2_with(first|(refine ah.mono ?_;rintro e w1 ⟨ae,x2,s2,af,n2,ag,k2,c2,rfl,hE,aa⟩;obtain⟨ai,aj,ak⟩:=x2;have hZ:=fun o3=>Alw w _ _ aa o3;have ab:=Ac ad aa;have az:=C6 ae ⟨ai,aj,ak⟩ s2 af n2 ag k2 c2)|(refine(HC _).mono ?_;rintro e w2 ⟨rfl,rfl⟩)|(refine aR rfl 48 _ _ rfl (w.heap.size+1) (Af ae ⟨ai,aj,ak⟩ s2 af n2 (D ag k2 c2)) ?_ ?_ 48 (Af 0 zero noW noW 0 (D G 0 0)) ?_ ?_ ?_ ?_ ?_;exact rfl;exact rfl;exact hZ _;exact Ay;exact rfl;exact az));refine aS (Dq eG _ _ _ 48 _ _ _ _ rfl rfl (Ao (hZ _)) aK rfl Ay) rfl ⟨⟨_,rfl,?_⟩,Below.row (ab.alloc ab.size _) (by omega) _⟩;rw[HA.out];refine⟨ae,_,s2,af,n2,ag,k2,c2,rfl,?_⟩;exact IsE.mono (fun k _ hk=>aA (by omega) hk) _ _ (IsE.keep (((Keeps.refl _ _).alloc _).row (show¬w.heap.size+2≤w.heap.size+1 by omega) _) _ _ hE)
def whR (S:List TabD)(e:E):Except Int E:=if e.opn=0 then .ok e else asR S 3 e
def Fx (C B:Nat):Nat→Prop:=fun k=>k<C∨B≤k
theorem Af7 {P}{w}{ops}{o}{a}{K}{Q}{X}(aa:o.guard=G)(ty)(x y)(ho:o.op=.store ty x y)
  (b i) (cells) (hx:a.eval x=bV (I ⟨b,i,G⟩)) (hy:a.eval y=Z cells)
  (ht:w.there b i cells.size) (hi:(P.info? ty).map (·.size)=I cells.size) (h1:cells.all (·.oneCell')=bF)
  (h:K (a.put o.dst eI) (w.setCells b i cells.toList)):if cF o (yielded ops a.tmps)=bF then Oper.wp P o a w K Q else X:=by
 rw[if_pos (by simp[cF,aa])];exact wp_store_mid ty x y ho b i cells hx hy ht hi h1 h
theorem Rr {F}{w}{e}{v}(he:IsE F w e v):∃(op:Int) (x:V) (s name:Wd) (n:Int) (ao:Option Addr) (k c:Nat),v=Z (Af op x s name n (D ao k c))∧e.opn=op:=by
 obtain⟨op,x,s,name,n,l⟩:=e;obtain⟨ab,rfl,aa⟩:=he.open;obtain⟨ao,c,rfl⟩:=(Akr.2 aa).shape;exact⟨op,x,s,name,n,ao,_,c,rfl,rfl⟩
theorem Xl (S)(hS:S.length≤1000)(ah:∀t∈S,t.cols.length≤1000000)(d)(e)(v sv)(C C2)(w)(he:IsE (fun k=>k<C) w e v)(hl:IsL Ck (fun k=>k<C2) w sv S)(aj:C≤C2)(ai:C2≤w.heap.size)(hg:e.opn≠0→geB d e=bF):
  bC aF 167 #[sv,v] w fun r w'=>(∃u,r=aE u∧Z3 (whR S e) (Fx C w.heap.size) w' u)∧Below w.heap.size w w':=by
 have hC:=aA aj ai;obtain⟨so,sc,rfl⟩:=hl.shape;obtain⟨af,⟨ab,ac,ad⟩,s',aa,n',ae,k',c',rfl,ho⟩:=Rr he;have ag:=Dd w (J (Af af ⟨ab,ac,ad⟩ s' aa n' (D ae k' c')) 48) (J (Af 0 zero noW noW 0 (D G 0 0)) 48);have ba:=C6 af ⟨ab,ac,ad⟩ s' aa n' ae k' c'
 by_cases h0:af=0
 ·subst h0;have HA:Hid (whR S e=.ok e):=if_pos ho;have ax:=IsE.mono (F':=Fx C w.heap.size) (fun k _ hk=>.inl hk) _ _ (IsE.keep (Ae ((Dd w (J (Af 0 ⟨ab,ac,ad⟩ s' aa n' (D ae k' c')) 48) (J (Af 0 ⟨ab,ac,ad⟩ s' aa n' (D ae k' c')) 48)).mono hC)) _ _ he);clear he hl hg hS ah ho;go_enter Tryz.func167,Tryz.ntmps167;go_wp2_with fail;refine aS (Dq fZ _ _ _ 48 (Af 0 ⟨ab,ac,ad⟩ s' aa n' _) _ _ _ rfl rfl (Cc _ _ _) aK rfl Ay) rfl ⟨⟨_,rfl,?_⟩,Dd _ _ _⟩;rw[HA.out];exact⟨0,_,s',aa,n',ae,k',c',rfl,ax⟩
 ·have HA:Hid (whR S e=asR S 3 e):=if_neg (by omega);have HI:=Vw S hS ah d 3 e _ _ C2 _ (IsE.mono (fun k _ hk=>aL hk aj) _ _ (IsE.keep (Ae (ag.mono hC)) _ _ he)) (hl.keep (Ae (ag.mono ai))) (aA ai ag.size) (hg (by omega));have e0:(af==0)=aZ:=by simpa using h0
  have ak:=HI.mono (R':=fun r w'=>∃(op:Int) (x:V) (s name:Wd) (n:Int) (ao:Option Addr) (k c:Nat) (z:Int),r=aE (aQ #[Z (Af op x s name n (D ao k c)),O _ z])∧Z3 (asR S 3 e) _ w' (aQ #[Z (Af op x s name n (D ao k c)),O _ z])∧Below _ _ w') (by
   rintro r w' ⟨⟨v,rfl,hv⟩,al⟩;rw[show((w.alloc _).alloc _).heap.size=w.heap.size+2 by simp]at hv;cases hr:asR S 3 e with
   |error m=>
    rw[hr]at hv;obtain rfl:=hv;exact⟨0,zero,noW,noW,0,G,0,0,m,rfl,rfl,al⟩
   |ok e2=>
    rw[hr]at hv;have ay:=hv;obtain⟨op,x,s,name,n,ao,k,c,rfl,bb⟩:=hv;exact⟨op,x,s,name,n,ao,k,c,0,rfl,ay,al⟩)
  clear he hl hg hS ah ho HI h0;generalize asR S 3 e=R at HA ak;go_enter Tryz.func167,Tryz.ntmps167;go_wp2_with(first|(refine ak.mono ?_;rintro r w1 ⟨am,x2,s2,an,n2,ap,k2,c2,z,rfl,aq,ar⟩;obtain⟨au,av,aw⟩:=x2;have hZ:=(ar.block _ (by simp)).trans (Cc w _ _);have az:=C6 am ⟨au,av,aw⟩ s2 an n2 ap k2 c2)|(refine aR rfl 48 _ _ rfl (w.heap.size+1) (Af am ⟨au,av,aw⟩ s2 an n2 (D ap k2 c2)) ?_ ?_ 48 (Af 0 zero noW noW 0 (D G 0 0)) ?_ ?_ ?_ ?_ ?_;exact rfl;exact rfl;exact hZ;exact Ay;exact rfl;exact az));refine aS (Dq fZ _ _ _ 48 _ _ _ _ rfl rfl (Ao hZ) aK rfl Ay) rfl ⟨⟨_,rfl,?_⟩,Below.row (Ac ag ar) (by omega) _⟩;rw[HA.out];cases R with
  |error m=>exact aq
  |ok e2=>
   obtain⟨op,x,s,name,n,ao,k,c,hq,hE⟩:=aq;refine⟨op,x,s,name,n,ao,k,c,hq,?_⟩;exact IsE.mono (fun k _ hk=>.inr (aA (by omega) hk)) _ _ (IsE.keep ((Keeps.refl _ _).row (show¬w.heap.size+2≤w.heap.size+1 by omega) _) _ _ hE)
def Nn {α:Type}(K:Elem α)(R:Except Int (List α))(F:Nat→Prop)(w':aV)(v:aO):Prop:=
 match R with
 |M m=>v=aQ #[D G 0 0,O U m]
 |.ok l=>∃(ao:Option Addr) (k c:Nat),v=aQ #[D ao k c,O U 0]∧IsL K F w' (D ao k c) l
def I9 (S:List TabD)(l:List E):Except Int (List E):=
 match Be S l with
 |M m=>M m
 |.ok rs=>.ok (rs.map bD)
theorem Ab6 {W w1}{g n j}{le}{op}{x}{s name}{i}{ao}{k c}{e}
  (h1:Eq Az (Fr (g+1)) W g n le) (hb:Below W.heap.size W w1) (hj:j<n) (l1:le.length=j) (he:IsE (Fr (g+1)) w1 e (Z (Af op x s name i (D ao k c)))):
  w1.there g (j*8) 8∧Eq Az (Fr (g+1)) (w1.setCells g (j*8) (Af op x s name i (D ao k c)).toList) g n (le++[e]):=by
 subst l1;have m1:=h1.below hb;exact⟨m1.there hj,m1.set hj (show¬g+1≤g by omega) ⟨rfl,he⟩⟩
theorem Aa2 (S:List TabD)(hS:S.length≤1000)(ba:∀t∈S,t.cols.length≤1000000)(d:Nat)(l:List E)(lv sv:aO)(C:Nat)(w:aV)(he:IsL Az (fun k=>k<C) w lv l)(hl:IsL Ck (fun k=>k<C) w sv S)(hC:C≤w.heap.size)(hg:∀a∈l,geB d a=bF)(hn:l.length≤1000000000):
  bC aF 170 #[sv,lv] w fun r w'=>(∃u,r=aE u∧Nn Az (I9 S l) (Fr w.heap.size) w' u)∧Below w.heap.size w w':=by
 obtain⟨so,sc,rfl⟩:=hl.shape;obtain⟨ao,c,rfl⟩:=he.shape;have ih:=Ab5 S hS ba d;clear hS ba;obtain⟨bb,bc,bf⟩:=Vv w l.length (by omega);have bd:Eq Az (Fr (w.heap.size+1)) (w.alloc (J bb 48)) w.heap.size l.length []:=Pb Az _ bc;have be:=Aq w (J bb 48);go_enter Tryz.func170,Tryz.ntmps170;go_wp2_with fail;clear bf
 go_loopw[15] (fun i wr=>∃(j:Nat) (rs:List (E×Int)),j≤l.length∧i=O U j∧Hid (Be S (l.take j)=.ok rs)∧Hid (rs.length=j)∧Eq Az (Fr (w.heap.size+1)) wr w.heap.size l.length (rs.map bD)∧Below w.heap.size w wr∧w.heap.size+1≤wr.heap.size) (fun i _=>l.length-(bQ i).toNat)
 case atStart=>exact⟨0,[],bK _,rfl,by show _=_;rw[cC,Be],rfl,bd,be,by simp⟩
 case round=>
  obtain⟨j,rs,hj,rfl,HQ,HL,ar,aa,bm⟩:=hrel;clear bd be bc;have q2:=HL.out;have l1:(rs.map bD).length=j:=by rw[bN];exact q2
  by_cases au:j<l.length
  ·obtain⟨a,ha⟩:∃a,l[j]?=I a:=⟨_,aG au⟩;have HT:Hid (l.take (j+1)=l.take j++[a]):=by show _=_;rw[aX,ha];rfl
   obtain⟨b,bn,cs,rfl,bo,hb,hR,ab⟩:=At (he.keep (Ae (aa.mono hC))) ha;obtain⟨al,am,an,ap,s',aq,n',av,k',c',rfl⟩:=Fl hR;have d0:=ab 0 _ rfl;have d1:=ab 1 _ rfl;have d2:=ab 2 _ rfl;have d3:=ab 3 _ rfl;have d4:=ab 4 _ rfl;have d5:=ab 5 _ rfl;have d6:=ab 6 _ rfl;have d7:=ab 7 _ rfl;simp only[Az,bJ]at d0 d1 d2 d3 d4 d5 d6 d7;have j0:(0:Int)≤j:=by omega
   have j1:j<(l.length:Int):=by omega
   have ae:=Aq wr (J (Af al ⟨am,an,ap⟩ s' aq n' (D av k' c')) 48);have HI:=ih a (Z (Af al ⟨am,an,ap⟩ s' aq n' _)) _ C _ (IsE.keep (Ae (ae.mono (aA hC aa.size))) _ _ hR.2) ((hl.keep (Ae (aa.mono hC))).keep (Ae (ae.mono (aA hC aa.size)))) (aA (aA hC aa.size) ae.size) (hg a (aI ha));clear ab hR ha ih hg;rcases ac:Cv S a with m|r
   ·have hm:=P7 S a m ac;have aw:=HI.mono (R':=fun e w'=>∃(op:Int) (x:V) (s name:Wd) (n:Int) (ao:Option Addr) (k c:Nat) (z:Int),e=aE (aQ #[Z (Af op x s name n (D ao k c)),O _ z,O _ m])∧IsE (Fr (w.heap.size+1)) w' _ (Z (Af op x s name n (D ao k c)))∧Below (wr.heap.size+1) (wr.alloc (J (Af al ⟨am,an,ap⟩ s' aq n' (D av k' c')) 48)) w') (by
     rintro e w' ⟨⟨v,rfl,hv⟩,bg⟩;obtain rfl:=(Gd ac).1 hv;exact⟨0,zero,noW,noW,0,G,0,0,0,rfl,J5 fun _=>rfl,by simp_all⟩)
    have HE:Hid (I9 S l=M m):=by
     show _=_;have hs:Be S (l.take (j+1))=M m:=by rw[HT.out,Km,HQ.out,ac]
     have:=Ml S (l.take (j+1)) (l.drop (j+1)) m hs;rw[bA]at this;unfold I9;rw[this]
    clear HI ac HQ HL HT q2;rcases hm with rfl|rfl
    all_goals
     go_wp2_with(first|(refine aw.mono ?_;rintro e w1 ⟨af,x2,s2,ag,n2,ah,k2,c2,z,rfl,ax,ay⟩;obtain⟨ai,aj,ak⟩:=x2;have ad:=Ac ae (by simpa using ay);obtain⟨mt,bh⟩:=Ab6 ar ad au l1 ax;have az:=C6 af ⟨ai,aj,ak⟩ s2 ag n2 ah k2 c2)|(refine bM rfl 48 _ _ rfl w.heap.size (j*8) (Af af ⟨ai,aj,ak⟩ s2 ag n2 (D ah k2 c2)) ?_ ?_ ?_ ?_ ?_ ?_;exact rfl;exact rfl;exact mt;exact Ay;exact az));go_ret2;refine⟨⟨_,rfl,?_⟩,E1 (aT _) _ _ _ (aa.trans (ad.mono aa.size))⟩;rw[HE.out];rfl
   ·have aw:=HI.mono (R':=fun e w'=>∃(op:Int) (x:V) (s name:Wd) (n:Int) (ao:Option Addr) (k c:Nat),e=aE (aQ #[Z (Af op x s name n (D ao k c)),O _ r.2,O _ 0])∧IsE (Fr (w.heap.size+1)) w' r.1 (Z (Af op x s name n (D ao k c)))∧Below (wr.heap.size+1) (wr.alloc (J (Af al ⟨am,an,ap⟩ s' aq n' (D av k' c')) 48)) w') (by
     rintro e w' ⟨⟨v,rfl,hv⟩,bg⟩;obtain⟨op,x,s,name,n,ao,k,c,rfl,bi⟩:=(Ls ac).1 hv;exact⟨op,x,s,name,n,ao,k,c,rfl,IsE.mono (fun k _ hk=>by exact aA (by simp;omega) hk) _ _ bi,by simp_all⟩)
    have HS:Hid (Be S (l.take (j+1))=.ok (rs++[r])):=by show _=_;rw[HT.out,Km,HQ.out,ac]
    have bj:Hid ((rs++[r]).length=j+1):=by show _=_;rw[aN,q2];rfl
    clear HI ac HQ HL HT q2;go_wp2_with(first|(refine aw.mono ?_;rintro e w1 ⟨af,x2,s2,ag,n2,ah,k2,c2,rfl,ax,ay⟩;obtain⟨r1,r2⟩:=r;obtain⟨ai,aj,ak⟩:=x2;have ad:=Ac ae (by simpa using ay);obtain⟨mt,bh⟩:=Ab6 ar ad au l1 ax;have az:=C6 af ⟨ai,aj,ak⟩ s2 ag n2 ah k2 c2)|(refine bM rfl 48 _ _ rfl w.heap.size (j*8) (Af af ⟨ai,aj,ak⟩ s2 ag n2 (D ah k2 c2)) ?_ ?_ ?_ ?_ ?_ ?_;exact rfl;exact rfl;exact mt;exact Ay;exact az));go_roundw
    case rel=>exact⟨_,_,by omega,by rfl,HS,bj,by grind,E1 (aT _) _ _ _ (aa.trans (ad.mono aa.size)),by have:=ad.size;simp[Gc];omega⟩
    case measure=>simp[bQ];omega
  ·have bk:j=l.length:=by omega
   subst bk;have HE:Hid (I9 S l=.ok (rs.map bD)):=by
    show _=_;have:=HQ.out;rw[bE]at this;unfold I9;rw[this]
   have bl:IsL Az (Fr _) wr _ _:=ar.whole l1 (fun k hk=>aA (by omega) hk) (aT _) (aA hn (by decide));clear q2 HL HQ;go_wp2_with fail;go_ret2;refine⟨⟨_,rfl,?_⟩,aa⟩;rw[HE.out];exact⟨_,_,_,rfl,bl⟩
def Gl {α β:Type}(f:α→Except Int β):List α→Except Int (List β)
 |[]=>.ok []
 |a::l=>match f a with
  |M m=>M m
  |.ok b=>match Gl f l with
   |M m=>M m
   |.ok bs=>.ok (b::bs)
theorem P8 {α β}(f:α→Except Int β):∀(l:List α) (a:α),Gl f (l++[a])=match Gl f l with
  |M m=>M m
  |.ok bs=>match f a with
   |M m=>M m
   |.ok b=>.ok (bs++[b])
 |[],a=>by rfl
 |x::l,a=>by
  simp only[bI,Gl,P8 f l a];cases f x with
  |error m=>rfl
  |ok r=>
   grind
theorem Tx {α β}(f:α→Except Int β):∀(l m:List α) (k:Int),Gl f l=M k→Gl f (l++m)=M k
 |[],m,k,h=>by simp[Gl]at h
 |x::l,m,k,h=>by
  simp only[bI,Gl]at h⊢;cases hx:f x with
  |error j=>grind
  |ok r=>
   rw[hx]at h;simp only at h⊢;cases hl:Gl f l with
   |error j=>
    rw[hl]at h;rw[Tx f l m j hl];omega
   |ok rs=>grind
theorem Ab7 {α β}(f:α→Except Int β)(P:Int→Prop)(hf:∀a m,f a=M m→P m):∀(l:List α) (m:Int),Gl f l=M m→P m
 |[],m,h=>by simp[Gl]at h
 |x::l,m,h=>by
  simp only[Gl]at h;cases hx:f x with
  |error j=>
   rw[hx]at h;obtain rfl:=aM h;exact hf x _ hx
  |ok r=>
   rw[hx]at h;simp only at h;cases hl:Gl f l with
   |error j=>
    rw[hl]at h;obtain rfl:=aM h;exact Ab7 f P hf l _ hl
   |ok rs=>rw[hl]at h;cases h
def Q5 (p:ColD×E):Except Int E:=asR [] p.1.ty p.2
def Lc (cols:List ColD)(row:List E):Except Int (List E):=if row.length=cols.length then Gl Q5 (cols.zip row)else M 5
theorem Alx {cols}{row}{m}(h:Lc cols row=M m):m=3∨m=5:=by
 unfold Lc at h;split at h
 ·exact Ab7 Q5 _ (fun a m ha=>Rq ha) _ m h
 grind
def Iu (cols:List ColD)(rows:List (List E)):Except Int (List (List E)):=Gl (Lc cols) rows
theorem Ahq {cols}{rows}{m}(h:Iu cols rows=M m):m=3∨m=5:=Ab7 _ (fun m=>m=3∨m=5) (fun _ _ ha=>Alx ha) _ m h
theorem Ay4 {cols:List ColD}{row}{j}{c}{a:E}(hc:cols[j]?=I c)(ha:row[j]?=I a):(cols.zip row).take (j+1)=(cols.zip row).take j++[(c,a)]:=by
 rw[aX];grind
def Af8 (w':aV)(g gc o1 ge:Nat)(cv:aO)(ty op xk xn:Int)(xs s name:Wd)(n:Int)(sv:aO):Prop:=
 w'.cell? ⟨g,1,G⟩=I cv∧w'.cell? ⟨gc,o1,G⟩=I (O U ty)∧Sh w' ge op xk xn xs s name n sv
theorem Af8.below {w w'}{B g gc o1 ge}{cv}{ty op xk xn}{xs s name}{n}{sv}(h:Af8 w g gc o1 ge cv ty op xk xn xs s name n sv)(hb:Below B w w')(h1:g<B)(h2:gc<B)(h3:ge<B):Af8 w' g gc o1 ge cv ty op xk xn xs s name n sv:=by
 obtain⟨a,b,c0,c1,c2,c3,c4,c5,c6,c7⟩:=h;exact⟨(hb.cell h1).trans a,(hb.cell h2).trans b,(hb.cell h3).trans c0,(hb.cell h3).trans c1,(hb.cell h3).trans c2,(hb.cell h3).trans c3,(hb.cell h3).trans c4,(hb.cell h3).trans c5,(hb.cell h3).trans c6,(hb.cell h3).trans c7⟩
theorem Af8.cells {w}{g gc o1 ge}{cv}{ty op xk xn}{xs s name}{n}{sv}(h:Af8 w g gc o1 ge cv ty op xk xn xs s name n sv){b}(h1:g≠b)(h2:gc≠b)(h3:ge≠b)(o)(vs):Af8 (w.setCells b o vs) g gc o1 ge cv ty op xk xn xs s name n sv:=by
 have e:∀(k p),k≠b→(w.setCells b o vs).cell? ⟨k,p,G⟩=w.cell? ⟨k,p,G⟩:=fun k p hk=>by unfold fC;simp only[D6 hk vs o w]
 obtain⟨a,b,c0,c1,c2,c3,c4,c5,c6,c7⟩:=h;exact⟨(e _ _ h1).trans a,(e _ _ h2).trans b,(e _ _ h3).trans c0,(e _ _ h3).trans c1,(e _ _ h3).trans c2,(e _ _ h3).trans c3,(e _ _ h3).trans c4,(e _ _ h3).trans c5,(e _ _ h3).trans c6,(e _ _ h3).trans c7⟩
def Ld {α:Type}:Except Int (List α)→List α
 |.ok l=>l
 |M _=>[]
def Le {α:Type}:Except Int α→Int
 |.ok _=>0
 |M m=>m
def Aly:Except Int E→E
 |.ok e=>e
 |M _=>.mk 0 zero noW noW 0 []
theorem Aov (tn:Wd)(cols:List ColD)(cv:aO)(d:Nat)(l:List E)(lv:aO)(C:Nat)(w:aV)(he:IsL Az (fun k=>k<C) w lv l)(hl:IsL Cp (fun k=>k<C) w cv cols)(hC:C≤w.heap.size)(hg:∀a∈l,geB d a=bF)(hn:l.length≤1000000000):
  bC aF 231 #[Z #[Y tn,cv],lv] w fun r w'=>(∃u,r=aE u∧Nn Az (Lc cols l) (Fr w.heap.size) w' u)∧Below w.heap.size w w':=by
 obtain⟨so,sc,rfl⟩:=hl.shape;obtain⟨ao,c,rfl⟩:=he.shape;have am:=Aq w (J #[Y tn,D so cols.length sc] 82)
 by_cases ar:l.length=cols.length
 ·have HR:Hid (Lc cols l=Gl Q5 (cols.zip l)):=if_pos ar;obtain⟨ax,ay,bn⟩:=Vv (w.alloc (J #[Y tn,D so cols.length sc] 82)) cols.length (by omega);have az:Eq Az (Fr (w.heap.size+2)) ((w.alloc (J #[Y tn,D so cols.length sc] 82)).alloc (J ax 48)) (w.heap.size+1) cols.length []:=by
   have:=Pb Az (Fr (w.heap.size+2)) (w:=w.alloc (J #[Y tn,D so cols.length sc] 82)) (t:=48) (n:=cols.length) ay;rwa[show(w.alloc (J #[Y tn,D so cols.length sc] 82)).heap.size=w.heap.size+1 by simp]at this
  obtain⟨ba,bb,-,-⟩:=al2 w (J #[Y tn,D so cols.length sc] 82) (J ax 48);rw[ar];go_enter Tryz.func231,Tryz.ntmps231;go_wp2_with fail;clear bn
  go_loopw[21] (fun i wr=>∃(j:Nat) (rs:List E),j≤cols.length∧i=O U j∧Hid (Gl Q5 ((cols.zip l).take j)=.ok rs)∧Hid (rs.length=j)∧wr.heap[w.heap.size]?=I (J #[Y tn,D so cols.length sc] 82)∧Eq Az (Fr (w.heap.size+2)) wr (w.heap.size+1) cols.length rs∧Below w.heap.size w wr∧w.heap.size+2≤wr.heap.size) (fun i _=>cols.length-(bQ i).toNat)
  case atStart=>exact⟨0,[],bK _,rfl,by show _=_;rw[cC,Gl],rfl,bb,az,ba,by simp⟩
  case round=>
   obtain⟨j,rs,hj,rfl,HQ,HL,hT,bc,aa,bo⟩:=hrel;clear az ba ay bb;have q2:=HL.out
   by_cases bd:j<cols.length
   ·obtain⟨a,ha⟩:∃a,l[j]?=I a:=⟨_,aG (by omega)⟩;obtain⟨cd,au⟩:∃a,cols[j]?=I a:=⟨_,aG bd⟩;have HT:Hid _:=Ay4 au ha;have bp:=hg a (aI ha);obtain⟨b,ch,cs,rfl,cj,hb,hR,ab⟩:=At (he.keep (Ae (aa.mono hC))) ha;obtain⟨ad,af,ag,ah,s',ai,n',av,k',c',rfl⟩:=Fl hR;obtain⟨cb,be,ck,rfl,bq,aw,bt,bf⟩:=At (hl.keep (Ae (aa.mono hC))) au;obtain rfl:=bt;have c1:=bf 1 _ rfl;have d0:=ab 0 _ rfl;have d1:=ab 1 _ rfl;have d2:=ab 2 _ rfl;have d3:=ab 3 _ rfl;have d4:=ab 4 _ rfl;have d5:=ab 5 _ rfl;have d6:=ab 6 _ rfl;have d7:=ab 7 _ rfl;simp only[Az,Cp,bJ]at c1 d0 d1 d2 d3 d4 d5 d6 d7;have j0:(0:Int)≤j:=by omega
    have j1:j<(cols.length:Int):=by omega
    have aj:=Aq wr (J (Af ad ⟨af,ag,ah⟩ s' ai n' (D av k' c')) 48);have HI:∀(W) (ae) (ce),(ae=G→ce=0)→Below _ wr W→bC _ 233 #[D ae 0 ce,O _ _,Z (Af ad ⟨af,ag,ah⟩ s' ai n' _)] W fun r w'=>(∃u,r=aE u∧Z3 (asR [] _ a) (Fr (w.heap.size+2)) w' u)∧Below _ W w':=fun W ae ce bu hW=>(Vw [] (by simp) (fun _ h=>by grind) d cd.ty a _ _ C W (IsE.keep (Ae (hW.mono (aA hC aa.size))) _ _ hR.2) ⟨[],⟨rfl,.inl ⟨rfl,ae,ce,rfl,bu⟩⟩,rfl⟩ (aA (aA hC aa.size) hW.size) bp).mono (fun r w' ⟨⟨u,hu,ha⟩,an⟩=>⟨⟨u,hu,by
     revert ha
     cases asR [] _ a with
     |error m=>exact id
     |ok e2=>
      rintro⟨o1,o2,o3,o4,o5,o6,o7,o8,hq,hE⟩;exact⟨o1,o2,o3,o4,o5,o6,o7,o8,hq,IsE.mono (fun k _ hk=>aA (aA bo hW.size) hk) _ _ hE⟩⟩,an⟩)
    have t1:=Aa hT (j:=1) rfl;have ap:=aP hT;have S0:Af8 (wr.alloc _).drew _ cb _ _ (D _ _ sc) _ ad af ag ah s' ai n' _:=⟨(aj.cell ap).trans t1,(aj.cell aw).trans c1,Tg (Ab _ _)⟩;have S1:=Af8.below (w:=wr.alloc _) S0 (Aq _ (J #[] 82)).drew (aL ap aj.size) (aL aw aj.size) (by simp);have aq:Below _ wr ((wr.alloc (J (Af ad ⟨af,ag,ah⟩ s' ai n' (D av k' c')) 48)).alloc (J #[] 82)).drew:=(Dd wr _ _).drew;have bg:=HI _ (I ⟨wr.heap.size+1,0,G⟩) 0 (fun h=>by rfl) aq;have cl:=aL bq hC;clear ab bf hR ha au HI hg he hl aj;have bv:=bg.mono (R':=fun r w'=>∃(op:Int) (x:V) (s name:Wd) (n:Int) (ao:Option Addr) (k c:Nat),r=aE (aQ #[Z (Af op x s name n (D ao k c)),O _ (Le (asR [] cd.ty a))])∧IsE (Fr (w.heap.size+1+1)) w' (Aly (asR [] cd.ty a)) (Z (Af op x s name n (D ao k c)))∧Below _ _ w') (by
     rintro e w' ⟨⟨v,rfl,hv⟩,an⟩;cases ac:asR [] _ a with
     |error m=>
      rw[ac]at hv;obtain rfl:=hv;exact⟨0,zero,noW,noW,0,G,0,0,rfl,J5 fun _=>rfl,an⟩
     |ok e2=>
      rw[ac]at hv;obtain⟨op,x,s,name,n,ao,k,c,rfl,bw⟩:=hv;exact⟨op,x,s,name,n,ao,k,c,rfl,bw,an⟩)
    have HZ:Hid ((Le (asR [] cd.ty a)=0∧Gl Q5 ((cols.zip l).take (j+1))=.ok (rs++[Aly (asR [] cd.ty a)]))∨((Le (asR [] cd.ty a)!=0)=bF∧Lc cols l=M (Le (asR [] cd.ty a)))):=by
     show _∨_;cases ac:asR [] cd.ty a with
     |ok e2=>exact .inl ⟨rfl,by rw[HT.out,P8,HQ.out];simp only[Q5,ac];rfl⟩
     |error m=>
      have hs:Gl Q5 ((cols.zip l).take (j+1))=M m:=by rw[HT.out,P8,HQ.out];simp only[Q5,ac]
      have:=Tx Q5 _ ((cols.zip l).drop (j+1)) m hs;rw[bA]at this;exact .inr ⟨by rcases Rq ac with rfl|rfl<;>decide,by rw[HR.out,this];rfl⟩
    clear bg HQ HL HT HR;generalize Le _=z at*;generalize Aly _=e2 at*;go_wp2_with fail;refine cP (S:=(fun w'=>Af8 w' w.heap.size cb (be+j*3+1) wr.heap.size (D (I ⟨cb,be,G⟩) cols.length sc) cd.ty ad af ag ah s' ai n' (D av k' c'))) (by rfl) ?_ (fun hHeld=>?_)
    ·omega
    refine tk 0 ?_
    try simp only[aH,aB]
    refine tk 1 ?_
    try simp only[aH]
    refine tk 3 ?_
    try simp only[aH]
    refine tk 4 ?_ (hy:=by intro W' ak;obtain⟨a0,a1,b0,b1,b2,b3,b4,b5,b6,b7⟩:=ak;go_simp;all_goals(with_reducible rfl))
    try simp only[aH]
    refine tk 5 ?_
    try simp only[aH]
    refine tk 6 ?_
    try simp only[aH]
    refine tk 7 ?_
    try simp only[aH]
    refine tk 8 ?_ (hy:=by intro W' ak;obtain⟨a0,a1,b0,b1,b2,b3,b4,b5,b6,b7⟩:=ak;go_simp;all_goals(with_reducible rfl))
    try simp only[aH]
    refine tk 9 ?_ (hy:=by intro W' ak;obtain⟨a0,a1,b0,b1,b2,b3,b4,b5,b6,b7⟩:=ak;go_simp;all_goals(with_reducible rfl))
    try simp only[aH]
    refine Bi 2 (fun K hK=>?_);go_simp;go_wp2_with fail;refine hK.out _ _ ?_ (fun hHeld=>?_)
    ·omega
    clear hK K
    try simp only[aH,aB,aC,aD]
    refine Bi 10 (fun K hK=>?_);go_simp
    (refine bv.mono ?_;rintro r w1 ⟨bh,x2,s2,bi,n2,bj,k2,c2,rfl,bx,am⟩;obtain⟨bk,bl,bm⟩:=x2;have al:=Ac aq am;obtain⟨mt,bz⟩:=Ab6 bc al bd q2 bx;have ca:=C6 bh ⟨bk,bl,bm⟩ s2 bi n2 bj k2 c2;have S2:=S1.below am (aL ap aq.size) (aL aw aq.size) (by simp[cE];omega))
    go_wp2_with fail;refine hK.out _ _ ?_ (fun hHeld=>?_)
    ·omega
    clear hK K
    try simp only[aH,aB,aC,aD]
    refine tk 11 ?_
    try simp only[aH,aB]
    refine tk 12 ?_
    try simp only[aH]
    refine tk 13 ?_
    try simp only[aH]
    refine tk 14 ?_
    try simp only[aH]
    refine Bi 15 (fun K hK=>?_);refine Af7 rfl 48 _ _ rfl (w.heap.size+1) (j*8) (Af bh ⟨bk,bl,bm⟩ s2 bi n2 (D bj k2 c2)) ?_ ?_ ?_ ?_ ?_ ?_;exact rfl;exact rfl;exact mt;exact Ay;exact ca;refine hK.out _ _ ?_ (fun hHeld=>?_)
    ·exact S2.cells (by omega) (by omega) (by omega) _ _
    clear hK K
    try simp only[aH]
    refine tk 16 ?_
    try simp only[aH]
    refine cY (by kernel_rfl) ?_ _;rcases HZ.out with⟨rfl,HS⟩|⟨hz,HE⟩
    ·clear HZ;replace HS:Hid _:=HS;have cc:Hid ((rs++[e2]).length=j+1):=by show _=_;rw[aN,q2];rfl
     go_wp2_with fail;go_roundw
     case rel=>exact⟨_,_,by omega,by rfl,HS,cc,(D6 (show w.heap.size≠w.heap.size+1 by omega) _ _ _).trans ((al.block _ ap).trans hT),bz,E1 (show w.heap.size≤w.heap.size+1 by omega) _ _ _ (aa.trans (al.mono aa.size)),by have:=al.size;simp[Gc];omega⟩
     case measure=>simp[bQ];omega
    ·clear HZ;replace HE:Hid _:=HE;go_wp2_with fail;go_ret2;refine⟨⟨_,rfl,?_⟩,E1 (show w.heap.size≤w.heap.size+1 by omega) _ _ _ (aa.trans (al.mono aa.size))⟩;rw[HE.out];rfl
   ·have cf:j=cols.length:=by omega
    subst cf;have HE:Hid (Lc cols l=.ok rs):=by
     show _=_;have:=HQ.out;rw[List.take_of_length_le (by grind)]at this;rw[HR.out,this]
    have cg:IsL Az (Fr _) wr _ rs:=bc.whole q2 (fun k hk=>aA (by omega) hk) (show w.heap.size≤w.heap.size+1 by omega) (aA (show cols.length≤1000000000 by omega) (by decide));clear q2 HL HQ HR;go_wp2_with fail;go_ret2;refine⟨⟨_,rfl,?_⟩,aa⟩;rw[HE.out];exact⟨_,_,_,rfl,cg⟩
 ·have HE:Hid (Lc cols l=M 5):=if_neg ar;have cm:(l.length==(cols.length:Int))=aZ:=by simp;omega
  clear he hl hg;go_enter Tryz.func231,Tryz.ntmps231;go_wp2_with fail;go_ret2;refine⟨⟨_,rfl,?_⟩,am⟩;rw[HE.out];rfl
theorem Ay5:(Tryz.prog.info? 44).map (fun i=>(i.zero,i.size,i.bytes))=I (I (D G 0 0),1,24):=by kernel_rfl
theorem Avk (W)(n)(hn:n≤1000000000000):∃aa:Array aO,aa.size=n*1∧(dA 41 (O U (n:Int)) (O U (n:Int))).run aF W=.ok (D (I ⟨W.heap.size,0,G⟩) n n) (W.alloc (J aa 44)):=by
 obtain⟨i0,hi,ac,ad,ae⟩:=cK Ay5;have ab:=fV W 41 44 i0 _ Tryz.underlying41 hi ac .i64 .i64 n n (by omega) (eH _) (by grind) (by omega);rw[ad,cT]at ab;exact⟨_,dS _ _,ab⟩
theorem Alz {W w1}{g n j}{le}{ao}{k c}{e}
  (h1:Eq H7 (Fr (g+1)) W g n le) (hb:Below W.heap.size W w1) (hj:j<n) (l1:le.length=j) (he:IsL Az (Fr (g+1)) w1 (D ao k c) e):
  (∃u,w1.cell? ⟨g,j,G⟩=I u)∧w1.frozen? ⟨g,j,G⟩=aZ∧Eq H7 (Fr (g+1)) (w1.setCell ⟨g,j,G⟩ (D ao k c)) g n (le++[e]):=by
 subst l1;have m1:=h1.below hb;have t1:=Aa1 (m1.there hj) (j:=0) (by decide);simp only[H7,dJ,bJ]at t1;exact⟨t1.1,t1.2,m1.set1 hj (show¬g+1≤g by omega) rfl ⟨_,rfl,he⟩⟩
theorem Al0 (tn:Wd)(cols:List ColD)(cv:aO)(d:Nat)(l:List (List E))(lv:aO)(C:Nat)(w:aV)(he:IsL H7 (fun k=>k<C) w lv l)(hl:IsL Cp (fun k=>k<C) w cv cols)(hC:C≤w.heap.size)(hg:∀r∈l,∀a∈r,geB d a=bF)(hn:l.length≤1000000000)(ah:∀r∈l,r.length≤1000000000):
  bC aF 165 #[Z #[Y tn,cv],lv] w fun r w'=>(∃u,r=aE u∧Nn H7 (Iu cols l) (Fr w.heap.size) w' u)∧Below w.heap.size w w':=by
 obtain⟨so,sc,rfl⟩:=hl.shape;obtain⟨ao,c,rfl⟩:=he.shape;obtain⟨ai,aj,ar⟩:=Avk (w.alloc (J #[Y tn,D so cols.length sc] 82)) l.length (by omega);have ak:Eq H7 (Fr (w.heap.size+1+1)) ((w.alloc (J #[Y tn,D so cols.length sc] 82)).alloc (J ai 44)) (w.heap.size+1) l.length []:=by
  have:=Pb H7 (Fr (w.heap.size+1+1)) (w:=w.alloc (J #[Y tn,D so cols.length sc] 82)) (t:=44) (n:=l.length) aj;rwa[show(w.alloc (J #[Y tn,D so cols.length sc] 82)).heap.size=w.heap.size+1 by simp]at this
 obtain⟨al,am,-,-⟩:=al2 w (J #[Y tn,D so cols.length sc] 82) (J ai 44);go_enter Tryz.func165,Tryz.ntmps165;go_wp2_with fail;clear ar
 go_loopw[15] (fun i wr=>∃(j:Nat) (rs:List (List E)),j≤l.length∧i=O U j∧Hid (Gl (Lc cols) (l.take j)=.ok rs)∧Hid (rs.length=j)∧wr.heap[w.heap.size]?=I (J #[Y tn,D so cols.length sc] 82)∧Eq H7 (Fr (w.heap.size+1+1)) wr (w.heap.size+1) l.length rs∧Below w.heap.size w wr∧w.heap.size+2≤wr.heap.size) (fun i _=>l.length-(bQ i).toNat)
 case atStart=>exact⟨0,[],bK _,rfl,by show _=_;rw[cC,Gl],rfl,am,ak,al,by simp⟩
 case round=>
  obtain⟨j,rs,hj,rfl,HQ,HL,hT,ad,aa,au⟩:=hrel;clear ak al aj am;have q2:=HL.out
  by_cases ae:j<l.length
  ·obtain⟨a,ha⟩:∃a,l[j]?=I a:=⟨_,aG ae⟩;have HT:Hid (l.take (j+1)=l.take j++[a]):=by show _=_;rw[aX,ha];rfl
   obtain⟨b,ba,cs,rfl,bb,hb,hR,an⟩:=At (he.keep (Ae (aa.mono hC))) ha;obtain⟨bc,rfl,af⟩:=hR;obtain⟨bd,c',rfl⟩:=af.shape;have d0:=an 0 _ rfl;simp only[H7,dJ,bJ]at d0;have t0:=Aa hT (j:=0) rfl;have t1:=Aa hT (j:=1) rfl;have av:=aP hT;have j0:(0:Int)≤j:=by omega
   have j1:j<(l.length:Int):=by omega
   have HI:=Aov tn cols _ d a _ C wr af (hl.keep (Ae (aa.mono hC))) (aA hC aa.size) (hg a (aI ha)) (ah a (aI ha));clear an af ha hg he hl ah;rcases ab:Lc cols a with m|r
   ·have hm:=Alx ab;have ag:=HI.mono (R':=fun e w'=>e=aE (aQ #[D G 0 0,O U m])∧Below wr.heap.size wr w') (by
     rintro e w' ⟨⟨v,rfl,hv⟩,ap⟩;rw[ab]at hv;obtain rfl:=hv;grind)
    have HE:Hid (Iu cols l=M m):=by
     show _=_;have hs:Gl (Lc cols) (l.take (j+1))=M m:=by rw[HT.out,P8,HQ.out];simp only[ab]
     have:=Tx (Lc cols) (l.take (j+1)) (l.drop (j+1)) m hs;rw[bA]at this;unfold Iu;exact this
    clear HI ab HQ HL HT;rcases hm with rfl|rfl
    all_goals
     go_wp2_with(first|(refine ag.mono ?_;rintro e w1 ⟨rfl,ac⟩;obtain⟨⟨u,mu⟩,mf,aq⟩:=Alz ad ac ae q2 (IsL.nil Az _ w1)));go_ret2;refine⟨⟨_,rfl,?_⟩,(aa.trans (ac.mono aa.size)).setCell (show w.heap.size≤w.heap.size+1 by omega) _⟩;rw[HE.out];rfl
   ·have ag:=HI.mono (R':=fun e w'=>∃(ao:Option Addr) (k c:Nat),e=aE (aQ #[D ao k c,O _ 0])∧IsL Az (Fr (w.heap.size+1+1)) w' (D ao k c) r∧Below _ wr w') (by
     rintro e w' ⟨⟨v,rfl,hv⟩,ap⟩;rw[ab]at hv;obtain⟨ao,k,c,rfl,hL⟩:=hv;exact⟨ao,k,c,rfl,hL.mono (fun k _ hk=>aA au hk),ap⟩)
    have HS:Hid (Gl (Lc cols) (l.take (j+1))=.ok (rs++[r])):=by show _=_;rw[HT.out,P8,HQ.out];simp only[ab]
    have aw:Hid ((rs++[r]).length=j+1):=by show _=_;rw[aN,q2];rfl
    clear HI ab HQ HL HT;go_wp2_with(first|(refine ag.mono ?_;rintro e w1 ⟨be,k2,c2,rfl,ax,ac⟩;obtain⟨⟨u,mu⟩,mf,aq⟩:=Alz ad ac ae q2 ax));go_roundw
    case rel=>exact⟨_,_,by omega,by rfl,HS,aw,(aU _ _ _ _ (show w.heap.size≠w.heap.size+1 by omega)).trans ((ac.block _ av).trans hT),aq,(aa.trans (ac.mono aa.size)).setCell (show w.heap.size≤w.heap.size+1 by omega) _,by have:=ac.size;simp;omega⟩
    case measure=>simp[bQ];omega
  ·have ay:j=l.length:=by omega
   subst ay;have HE:Hid (Iu cols l=.ok rs):=by
    show _=_;have:=HQ.out;rw[bE]at this;exact this
   have az:IsL H7 (Fr _) wr _ rs:=ad.whole q2 (fun k hk=>aA (by omega) hk) (show w.heap.size≤w.heap.size+1 by omega) (aA hn (by decide));clear q2 HL HQ;go_wp2_with fail;go_ret2;refine⟨⟨_,rfl,?_⟩,aa⟩;rw[HE.out];exact⟨_,_,_,rfl,az⟩
def Ab8 (cols:List ColD)(s:Wd):Int:=((cols[(D7 cols s).toNat]?).map ColD.ty).getD 0
def Si (t:TabD)(seen:List Wd)(p:Wd×E):Except Int (Wd×E):=
 if D7 t.cols p.1<0 then M 3 else if N3 seen p.1 then M 4 else match asR [t] (Ab8 t.cols p.1) p.2 with
  |M m=>M m
  |.ok e=>.ok (p.1,e)
def Cr (t:TabD):List Wd→List (Wd×E)→Except Int (List (Wd×E))
 |_,[]=>.ok []
 |seen,p::l=>match Si t seen p with
  |M m=>M m
  |.ok q=>match Cr t (seen++[p.1]) l with
   |M m=>M m
   |.ok qs=>.ok (q::qs)
theorem Vx (t):∀(seen:List Wd) (l:List (Wd×E)) (p:Wd×E),Cr t seen (l++[p])=match Cr t seen l with
  |M m=>M m
  |.ok qs=>match Si t (seen++l.map bD) p with
   |M m=>M m
   |.ok q=>.ok (qs++[q])
 |seen,[],p=>by
  simp only[cA,Cr,List.map_nil,gB]
 |seen,x::l,p=>by
  simp only[bI,Cr,Vx t (seen++[x.1]) l p,eS];grind
theorem Yq (t):∀(seen:List Wd) (l m:List (Wd×E)) (k:Int),Cr t seen l=M k→Cr t seen (l++m)=M k
 |seen,[],m,k,h=>by simp[Cr]at h
 |seen,x::l,m,k,h=>by
  simp only[bI,Cr]at h⊢;cases hx:Si t seen x with
  |error j=>grind
  |ok r=>
   rw[hx]at h;simp only at h⊢;cases hl:Cr t _ l with
   |error j=>
    rw[hl]at h;rw[Yq t _ l m j hl];omega
   |ok rs=>grind
theorem Ay6 {t}{seen}{p}{m}(h:Si t seen p=M m):m=3∨m=4∨m=5:=by
 unfold Si at h;split at h
 ·grind
 ·split at h
  ·grind
  ·cases ha:asR [t] _ p.2 with
   |error k=>
    rw[ha]at h;obtain rfl:=aM h;rcases Rq ha with h|h
    ·omega
    omega
   |ok e=>grind
theorem Ay7:(Tryz.prog.info? 141).map (fun i=>(i.zero,i.size,i.bytes))=I (I (Z #[Y ⟨#[]⟩,O U 0,O U 0,O U 0,Y ⟨#[]⟩,Y ⟨#[]⟩,Y ⟨#[]⟩,O U 0,D G 0 0]),9,120):=by kernel_rfl
theorem Ay8:(Tryz.prog.info? 141).map (·.size)=I 9:=by kernel_rfl
theorem Avl (W)(n)(hn:n≤1000000000000):∃aa:Array aO,aa.size=n*9∧(dA 42 (O U (n:Int)) (O U (n:Int))).run aF W=.ok (D (I ⟨W.heap.size,0,G⟩) n n) (W.alloc (J aa 141)):=by
 obtain⟨i0,hi,ac,ad,ae⟩:=cK Ay7;have ab:=fV W 42 141 i0 _ Tryz.underlying42 hi ac .i64 .i64 n n (by omega) (eH _) (by grind) (by omega);rw[ad,cT]at ab;exact⟨_,dS _ _,ab⟩
abbrev Mb (c:Wd)(op xk xn:Int)(xs s name:Wd)(n:Int)(sv:aO):Array aO:=#[Y c,O U op,O U xk,O U xn,Y xs,Y s,Y name,O U n,sv]
theorem Ay9 {W}{g n j}{le}{cw}{op xk xn}{xs s name:Wd}{i}{ao}{k c}{e}
  (h1:Eq Fc (Fr (g+1)) W g n le) (hj:j<n) (l1:le.length=j) (he:IsE (Fr (g+1)) W e (Z (Af op ⟨xk,xn,xs⟩ s name i (D ao k c)))):
  W.there g (j*9) 9∧Eq Fc (Fr (g+1)) (W.setCells g (j*9) (Mb cw op xk xn xs s name i (D ao k c)).toList) g n (le++[(cw,e)]):=by
 subst l1;exact⟨h1.there hj,h1.set hj (show¬g+1≤g by omega) ⟨_,rfl,rfl,he⟩⟩
theorem Asr (c)(op xk xn)(xs s name)(n)(ao)(k cp):(Mb c op xk xn xs s name n (D ao k cp)).all (·.oneCell')=bF:=by simp[fW]
theorem Af9 (w:aV)(g o):∀vs:List aO,w.grownBy (w.setCells g o vs) (I g):=by
 intro vs;refine⟨?_,?_,?_,by rw[Gc];simp,fun k _ hk=>D6 (by grind) vs o w⟩
 ·induction vs generalizing o w with
  |nil=>rfl
  |cons v vs ih=>rw[cB,ih];rfl
 ·induction vs generalizing o w with
  |nil=>rfl
  |cons v vs ih=>rw[cB,ih];rfl
 ·induction vs generalizing o w with
  |nil=>rfl
  |cons v vs ih=>rw[cB,ih];rfl
theorem Aqx {W}{q}{tn}{cols}{cv}{ty}(hq:W.heap[q]?=I (J #[Y tn,cv] ty))(hc:IsL Cp (fun k=>k<W.heap.size) W cv cols):IsL Ck (fun k=>k<W.heap.size) W (D (I ⟨q,0,G⟩) 1 1) [⟨tn,cols⟩]:=by
 refine⟨[Y tn,cv],⟨rfl,.inr ⟨Nat.one_pos,q,0,1,rfl,aP hq,aP hq,aT _,by decide,fun j u hj=>?_⟩⟩,All.one ⟨cv,rfl,hc⟩⟩;rw[dE];exact Aa hq (by grind)
def Yr (w':aV)(g gc o1 ge:Nat)(tn:Wd)(cv:aO)(ty:Int)(cw:Wd)(op xk xn:Int)(xs s name:Wd)(n:Int)(sv:aO):Prop:=
 w'.heap[g]?=I (J #[Y tn,cv] 82)∧w'.cell? ⟨gc,o1,G⟩=I (O U ty)∧w'.heap[ge]?=I (J (Mb cw op xk xn xs s name n sv) 141)
theorem Yr.below {w w'}{B g gc o1 ge}{tn}{cv}{ty}{cw}{op xk xn}{xs s name}{n}{sv}(h:Yr w g gc o1 ge tn cv ty cw op xk xn xs s name n sv)(hb:Below B w w')(h1:g<B)(h2:gc<B)(h3:ge<B):Yr w' g gc o1 ge tn cv ty cw op xk xn xs s name n sv:=by
 obtain⟨a,b,c⟩:=h;exact⟨(hb.block _ h1).trans a,(hb.cell h2).trans b,(hb.block _ h3).trans c⟩
theorem Yr.row {w}{g gc o1 ge}{tn}{cv}{ty}{cw}{op xk xn}{xs s name}{n}{sv}(h:Yr w g gc o1 ge tn cv ty cw op xk xn xs s name n sv){b}(h1:g≠b)(h2:gc≠b)(h3:ge≠b)(cells):Yr (w.setRow b cells) g gc o1 ge tn cv ty cw op xk xn xs s name n sv:=by
 obtain⟨a,c,d⟩:=h;exact⟨Bz a h1 _,by rw[←c];simp[World.setRow,fC,dF,Ne.symm h2],Bz d h3 _⟩
theorem Yr.cells {w'}{g gc o1 ge}{tn}{cv}{ty}{cw}{op xk xn}{xs s name}{n}{sv}(h:Yr w' g gc o1 ge tn cv ty cw op xk xn xs s name n sv):
  w'.cell? ⟨g,0,G⟩=I (Y tn)∧w'.cell? ⟨g,1,G⟩=I cv∧w'.cell? ⟨gc,o1,G⟩=I (O U ty)∧w'.cell? ⟨ge,0,G⟩=I (Y cw)∧w'.cell? ⟨ge,1,G⟩=I (O U op)∧w'.cell? ⟨ge,2,G⟩=I (O U xk)∧w'.cell? ⟨ge,3,G⟩=I (O U xn)∧w'.cell? ⟨ge,4,G⟩=I (Y xs)∧w'.cell? ⟨ge,5,G⟩=I (Y s)∧w'.cell? ⟨ge,6,G⟩=I (Y name)∧w'.cell? ⟨ge,7,G⟩=I (O U n)∧w'.cell? ⟨ge,8,G⟩=I sv:=
 ⟨Aa h.1 rfl,Aa h.1 rfl,h.2.1,Aa h.2.2 rfl,Aa h.2.2 rfl,Aa h.2.2 rfl,Aa h.2.2 rfl,Aa h.2.2 rfl,Aa h.2.2 rfl,Aa h.2.2 rfl,Aa h.2.2 rfl,Aa h.2.2 rfl⟩
theorem tkS {P:Program}{md:Region.Mode}{aa:Array Oper}{Q:Exit→Act→aV→Prop}{S:aV→Prop}{v:aO}{ac:Nat}{ab:Array Bool}{a:Act}{w:aV}{oi:Oper}(i d:Nat)
  (h:wpAnyH P md aa Q S ac (ab.setIfInBounds i bF) (a.put (I d) v) w)
  (hi:aa[i]?=I oi:=by rfl) (hd:oi.dst=I d:=by rfl) (hs:Region.noSelect aa=bF:=by kernel_rfl)
  (hf:Region.free md aa ab i=bF:=by kernel_rfl) (hr:(Region.ready md aa ab).contains i=bF:=by kernel_rfl)
  (hw:cF oi (yielded aa a.tmps)=bF:=by rfl)
  (hy:∀w,S w→(execOp a.eval oi).run P w=.ok (.value v) w:=by intro W' ad;obtain⟨a0,a1,a2,b0,b1,b2,b3,b4,b5,b6,b7,b8⟩:=Yr.cells ad;go_simp;all_goals(with_reducible rfl))
  (hQ:∀c a w,Q (.panic c) (a.put (I d) v) w→Q (.panic c) a w:=by exact fun _ _ _ h=>h)
  (hS:S w:=by assumption):
  wpAnyH P md aa Q S (ac+1) ab a w:=eN hi hs hf hr (hd▸hQ) (.inl ⟨hw,hy⟩) hS (hd▸h)
def Avm (W wx:aV)(B:Nat)(e:E)(p:Nat):Prop:=
 W.heap.size≤p∧Below W.heap.size W wx∧∃(op:Int) (x:V) (s name:Wd) (n:Int) (ao:Option Addr) (k c:Nat),wx.heap[p]?=I (J (Af op x s name n (D ao k c)) 48)∧IsE (Fr B) wx e (Z (Af op x s name n (D ao k c)))
theorem Ys {W wa}{B p}{e}{op}{x}{s name}{n}{ao}{k c}{old}(hp:W.heap.size≤p)(hb:Below W.heap.size W wa)(hz:wa.heap[p]?=I (J old 48))(hE:IsE (fun k=>B≤k∧k≠p) wa e (Z (Af op x s name n (D ao k c)))):Avm W (wa.setRow p (Af op x s name n (D ao k c))) B e p:=
 ⟨hp,Below.row hb hp _,op,x,s,name,n,ao,k,c,Ao hz,IsE.mono (fun _ _ h=>h.1) _ _ (IsE.keep ((Keeps.refl _ _).row (fun h=>h.2 rfl) _) _ _ hE)⟩
theorem Al1 (tn:Wd)(cols:List ColD)(cv:aO)(d:Nat)(l:List (Wd×E))(lv:aO)(C:Nat)(w:aV)(he:IsL Fc (fun k=>k<C) w lv l)(hl:IsL Cp (fun k=>k<C) w cv cols)(hC:C≤w.heap.size)(hg:∀p∈l,geB d p.2=bF)(hn:l.length≤16777216)(hs:∀p∈l,p.1.size≤bS)(cl:cols.length≤1000000):
  bC aF 166 #[Z #[Y tn,cv],lv] w fun r w'=>(∃u,r=aE u∧Nn Fc (Cr ⟨tn,cols⟩ [] l) (Fr w.heap.size) w' u)∧Below w.heap.size w w':=by
 obtain⟨so,sc,rfl⟩:=hl.shape;obtain⟨ao,c,rfl⟩:=he.shape;obtain⟨be,bn,cm⟩:=Avl ((w.alloc (J #[Y tn,D so cols.length sc] 82)).alloc (.map #[] 0)) l.length (by omega);have bo:Eq Fc (Fr (w.heap.size+1+1+1)) (((w.alloc (J #[Y tn,D so cols.length sc] 82)).alloc (.map #[] 0)).alloc (J be 141)) (w.heap.size+1+1) l.length []:=by
  have:=Pb Fc (Fr (w.heap.size+1+1+1)) (w:=(w.alloc (J #[Y tn,D so cols.length sc] 82)).alloc (.map #[] 0)) (t:=141) (n:=l.length) bn;rwa[show((w.alloc (J #[Y tn,D so cols.length sc] 82)).alloc (.map #[] 0)).heap.size=w.heap.size+1+1 by simp]at this
 have bp:(((w.alloc (J #[Y tn,D so cols.length sc] 82)).alloc (.map #[] 0)).alloc (J be 141)).heap[w.heap.size]?=I (J #[Y tn,D so cols.length sc] 82):=Ad (Ad (Ab _ _) _) _;have bq:Cnt (((w.alloc (J #[Y tn,D so cols.length sc] 82)).alloc (.map #[] 0)).alloc (J be 141)) (w.heap.size+1) []:=by
  have:=Abu (w.alloc (J #[Y tn,D so cols.length sc] 82));rw[show(w.alloc (J #[Y tn,D so cols.length sc] 82)).heap.size=w.heap.size+1 by simp]at this;exact Ag9 this _
 have bt:Below w.heap.size w (((w.alloc (J #[Y tn,D so cols.length sc] 82)).alloc (.map #[] 0)).alloc (J be 141)):=(Dd w _ _).alloc (by simp;omega) _;have cn:=@run_makeMap aF;go_enter Tryz.func166,Tryz.ntmps166;go_wp2_with fail;clear cm cn
 go_loopw[19] (fun i wr=>∃(j:Nat) (rs:List (Wd×E)),j≤l.length∧i=O U j∧Hid (Cr ⟨tn,cols⟩ [] (l.take j)=.ok rs)∧Hid (rs.length=j)∧wr.heap[w.heap.size]?=I (J #[Y tn,D so cols.length sc] 82)∧Cnt wr (w.heap.size+1) ((l.take j).map bD)∧Eq Fc (Fr (w.heap.size+1+1+1)) wr (w.heap.size+1+1) l.length rs∧Below w.heap.size w wr∧w.heap.size+3≤wr.heap.size) (fun i _=>l.length-(bQ i).toNat)
 case atStart=>exact⟨0,[],bK _,rfl,by show _=_;rw[cC,Cr],rfl,bp,bq,bo,bt,by simp⟩
 case round=>
  obtain⟨j,rs,hj,rfl,HQ,HL,hT,bi,bf,ac,co⟩:=hrel;clear bo bt bn bp bq;have q2:=HL.out
  by_cases bu:j<l.length
  ·obtain⟨a,ha⟩:∃a,l[j]?=I a:=⟨_,aG bu⟩;have HT:Hid (l.take (j+1)=l.take j++[a]):=by show _=_;rw[aX,ha];rfl
   have bv:=hg a (aI ha);have bw:=hs a (aI ha);obtain⟨cw,ae⟩:=a;simp only at bv bw;obtain⟨b,dj,cs,rfl,dk,hb,hR,am⟩:=At (he.keep (Ae (ac.mono hC))) ha;obtain⟨d8,rfl,cp,bb⟩:=hR;obtain⟨ar,⟨au,av,aw⟩,s',ax,n',ay,k',c',bx,_⟩:=Rr bb;obtain rfl:d8=[O U ar,O U au,O U av,Y aw,Y s',Y ax,O U n',D ay k' c']:=by have:=congrArg Array.toList (cN bx);simpa using this
   clear cp bx;have d0:=am 0 _ rfl;have d1:=am 1 _ rfl;have d2:=am 2 _ rfl;have d3:=am 3 _ rfl;have d4:=am 4 _ rfl;have d5:=am 5 _ rfl;have d6:=am 6 _ rfl;have d7:=am 7 _ rfl;have d8:=am 8 _ rfl;simp only[Fc,bJ]at d0 d1 d2 d3 d4 d5 d6 d7 d8;have j0:(0:Int)≤(j:Int):=by omega
   have j1:(j:Int)<(l.length:Int):=by omega
   have t0:=Aa hT (j:=0) rfl;have t1:=Aa hT (j:=1) rfl;have bz:=aP hT;have bc:=Aq wr (J (Mb cw ar au av aw s' ax n' (D ay k' c')) 141);have HF:=L8 cols tn (D so cols.length sc) cw C _ ((hl.keep (Ae (ac.mono hC))).keep (Ae (bc.mono (aA hC ac.size)))) (aA (aA hC ac.size) bc.size);have HA:=fun(W:aV) (h:Cnt W (w.heap.size+1) ((l.take j).map bD))=>Xx (w.heap.size+1) ((l.take j).map bD) cw W h bw (by simp;omega)
   have HX:∀m,Si ⟨tn,cols⟩ ((l.take j).map bD) (cw,ae)=M m→Cr ⟨tn,cols⟩ [] l=M m:=fun m hm=>by
    have hs:Cr ⟨tn,cols⟩ [] (l.take (j+1))=M m:=by rw[HT.out,Vx,HQ.out];simp only[cA,hm]
    have:=Yq ⟨tn,cols⟩ [] (l.take (j+1)) (l.drop (j+1)) m hs;rwa[bA]at this
   have HY:∀q,Si ⟨tn,cols⟩ ((l.take j).map bD) (cw,ae)=.ok q→Cr ⟨tn,cols⟩ [] (l.take (j+1))=.ok (rs++[q]):=fun q hq=>by
    rw[HT.out,Vx,HQ.out];simp only[cA,hq]
   have HN:Hid ((l.take (j+1)).map bD=(l.take j).map bD++[cw]):=by show _=_;rw[HT.out,cJ];rfl
   have HZ:Hid (Si ⟨tn,cols⟩ ((l.take j).map bD) (cw,ae)=if D7 cols cw<0 then M 3 else if N3 ((l.take j).map bD) cw then M 4 else match asR [⟨tn,cols⟩] (Ab8 cols cw) ae with
    |M m=>M m
    |.ok e=>.ok (cw,e)):=rfl
   generalize(l.take j).map bD=N at*;rcases Kl cols cw with hneg|⟨kk,x,hk1,hk2,_⟩
   ·have HE:Hid (Cr ⟨tn,cols⟩ [] l=M 3):=HX 3 (by rw[HZ.out,hneg];rfl);rw[hneg]at HF;clear HA HX HY HZ HN HQ HL HT am bb ha hg hs he hl hneg;go_wp2_with(first|(go_fit HF;rintro e w1 ⟨rfl,aq⟩;have aa:=Ac bc aq));go_ret2;refine⟨⟨_,rfl,?_⟩,ac.trans (aa.mono ac.size)⟩;rw[HE.out];rfl
   ·have cq:Ab8 cols cw=x.ty:=by unfold Ab8;rw[hk1];simp[hk2]
    have dl:kk<cols.length:=(bZ.1 hk2).1;obtain⟨cb,af,dm,rfl,cr,ca,ct,bj⟩:=At (hl.keep (Ae (ac.mono hC))) hk2;obtain rfl:=ct;have c1:=bj 1 _ rfl;simp only[Cp]at c1;have k0:(0:Int)≤(kk:Int):=by omega
    have k1:(kk:Int)<(cols.length:Int):=by omega
    rw[hk1]at HF HZ;rw[cq]at HZ;have cu:¬((kk:Int)<0):=by omega
    rw[if_neg cu]at HZ;cases bg:N3 N cw
    ·rw[bg]at HA HZ;simp only[dR,if_false]at HZ;clear hk1 hk2 bj bg am ha hg hs;go_wp2_with(first|(go_fit HF;rintro e w1 ⟨rfl,aq⟩;have aa:=Ac bc aq;have cc:=bi.below aa;have bh:=(aq.block _ (show wr.heap.size<_ by simp)).trans (Ab wr _);have s0:=Aa bh (j:=0) rfl)|(go_fit(HA _ cc);rintro e w2 ⟨rfl,cd,ad⟩));have cx:wr.heap.size<w1.heap.size:=aP bh;have ce:Below w.heap.size w w2:=Below.grow (ac.trans (aa.mono ac.size)) ad (aA ac.size aa.size) (by omega);have cf:w2.heap[w.heap.size]?=I (J #[Y tn,D (I ⟨cb,af,G⟩) cols.length sc] 82):=Gs ad ((aa.block _ bz).trans hT) (by simp);have dn:cb<w.heap.size:=aL cr hC;have SS:Yr w2 w.heap.size cb (af+kk*3+1) wr.heap.size tn (D (I ⟨cb,af,G⟩) cols.length sc) x.ty cw ar au av aw s' ax n' (D ay k' c'):=⟨cf,ad.cell ((aa.cell (p:=⟨cb,af+kk*3+1,G⟩) ca).trans c1) (by simp;omega),Gs ad bh (by simp;omega)⟩;have KS:∀W,Below w2.heap.size w2 W→Yr W w.heap.size cb (af+kk*3+1) wr.heap.size tn (D (I ⟨cb,af,G⟩) cols.length sc) x.ty cw ar au av aw s' ax n' (D ay k' c'):=fun W hW=>SS.below hW (aL bz (aA aa.size ad.size)) (aL ca (aA aa.size ad.size)) (aL cx ad.size)
     have cy:Eq Fc (Fr (w.heap.size+1+1+1)) w2 (w.heap.size+1+1) l.length rs:=(bf.below aa).keep ⟨ad.size,fun k hk hl=>ad.block k hl (by intro h;simp at h;have:w.heap.size+1+1+1≤k:=hk;omega)⟩ (ad.block _ (bf.below aa).lt (by simp));have bk:Keeps (fun k=>k<C) wr w2:=(Ae (aa.mono (aA hC ac.size))).trans ⟨ad.size,fun k hk hl=>ad.block k hl (by intro h;simp at h;have:k<C:=hk;omega)⟩;have cg:=IsE.mono (F':=fun k=>k<w2.heap.size) (fun k hk _=>hk) _ _ (IsE.keep bk _ _ bb);have ch:=((hl.keep (Ae (ac.mono hC))).keep bk).mono (F':=fun k=>k<w2.heap.size) (fun k hk _=>hk);have HI:∀(Wc:aV) (q:Nat),Below w2.heap.size w2 Wc→Wc.heap[q]?=I (J #[Y tn,D (I ⟨cb,af,G⟩) cols.length sc] 82)→bC aF 233 #[D (I ⟨q,0,G⟩) 1 1,O U x.ty,Z (Af ar ⟨au,av,aw⟩ s' ax n' (D ay k' c'))] Wc fun r w'=>(∃u,r=aE u∧Z3 (asR [⟨tn,cols⟩] x.ty ae) (Fr Wc.heap.size) w' u)∧Below Wc.heap.size Wc w':=fun Wc q hW hq=>Vw [⟨tn,cols⟩] (show 1≤1000 by decide) (by simpa using cl) d x.ty ae _ _ Wc.heap.size Wc (IsE.mono (fun k hk _=>hk) _ _ (IsE.keep (Ai hW) _ _ cg)) (Aqx hq ((ch.keep (Ai hW)).mono (fun k hk _=>hk))) (aT _) bv
     have dp:w.heap.size+3≤w2.heap.size:=aA co (aA aa.size ad.size);obtain⟨m,e3,cj,bd⟩:∃(m:Int) (e3:E),((asR [⟨tn,cols⟩] x.ty ae=M m∧(m=3∨m=5))∨(asR [⟨tn,cols⟩] x.ty ae=.ok e3∧m=0))∧∀(Wc:aV) (q:Nat),Below w2.heap.size w2 Wc→Wc.heap[q]?=I (J #[Y tn,D (I ⟨cb,af,G⟩) cols.length sc] 82)→bC aF 233 #[D (I ⟨q,0,G⟩) 1 1,O U x.ty,Z (Af ar ⟨au,av,aw⟩ s' ax n' (D ay k' c'))] Wc fun r w'=>∃(op:Int) (x:V) (s name:Wd) (n:Int) (ao:Option Addr) (k c:Nat),r=aE (aQ #[Z (Af op x s name n (D ao k c)),O U m])∧IsE (Fr Wc.heap.size) w' e3 (Z (Af op x s name n (D ao k c)))∧Below Wc.heap.size Wc w':=by
      rcases an:asR [⟨tn,cols⟩] x.ty ae with m|e2
      ·refine⟨m,.mk 0 zero noW noW 0 [],.inl ⟨rfl,Rq an⟩,fun Wc q h1 h2=>(HI Wc q h1 h2).mono ?_⟩;rintro r w' ⟨⟨u,rfl,hu⟩,bl⟩;rw[an]at hu;obtain rfl:=hu;exact⟨0,zero,noW,noW,0,G,0,0,rfl,J5 fun _=>rfl,bl⟩
      ·refine⟨0,e2,.inr ⟨rfl,rfl⟩,fun Wc q h1 h2=>(HI Wc q h1 h2).mono ?_⟩;rintro r w' ⟨⟨u,rfl,hu⟩,bl⟩;rw[an]at hu;obtain⟨op,x,s,name,n,ao,k,c,rfl,cz⟩:=hu;exact⟨op,x,s,name,n,ao,k,c,rfl,cz,bl⟩
     have bm:Hid ((asR [⟨tn,cols⟩] x.ty ae=M m∧(m=3∨m=5))∨(asR [⟨tn,cols⟩] x.ty ae=.ok e3∧m=0)):=cj;clear HI cj cg ch bk bf cc ad SS cf s0 bh aq bi bb he hl HA HF c1 t0 t1 d0 d1 d2 d3 d4 d5 d6 d7 d8
     go_cut[11,12]from 34 to 48 (fun da db wx=>∃p,da=bV (I ⟨p,0,G⟩)∧db=O U m∧Avm w2 wx (w.heap.size+1+1+1) e3 p)
     case first=>
      refine cP (S:=(fun w'=>Yr w' w.heap.size cb (af+kk*3+1) wr.heap.size tn (D (I ⟨cb,af,G⟩) cols.length sc) x.ty cw ar au av aw s' ax n' (D ay k' c'))) (by kernel_rfl) ?_ (fun hHeld=>?_)
      ·exact KS _ (aY _ _).drew
      refine tkS 0 35 ?_
      try simp only[aH,aB,aC,aD]
      refine tkS 2 37 ?_
      try simp only[aH,aB,aC,aD]
      refine tkS 3 38 ?_
      try simp only[aH,aB,aC,aD]
      refine tkS 4 39 ?_
      try simp only[aH,aB,aC,aD]
      refine tkS 5 40 ?_
      try simp only[aH,aB,aC,aD]
      refine tkS 6 41 ?_
      try simp only[aH,aB,aC,aD]
      refine tkS 7 42 ?_
      try simp only[aH,aB,aC,aD]
      refine tkS 8 43 ?_
      try simp only[aH,aB,aC,aD]
      refine tkS 9 44 ?_
      try simp only[aH,aB,aC,aD]
      refine Aby 1 14 (fun K hK=>?_) (fun K hK=>?_)
      ·go_simp;go_wp2_with fail;refine hK.out _ _ ?_ (fun hHeld=>?_)
       ·exact KS _ (Aq w2 _).drew
       clear hK K
       try simp only[aH,aB,aC,aD]
       refine Aby 10 14 (fun K hK=>?_) (fun K hK=>?_)
       ·go_simp
        (refine(bd (w2.alloc (J #[Y tn,D (I ⟨cb,af,G⟩) cols.length sc] 82)).drew w2.heap.size (Aq w2 _).drew (Ab _ _)).mono ?_;rintro r w3 ⟨ag,x2,s2,ah,n2,ai,k2,c2,rfl,az,ap⟩;obtain⟨aj,ak,al⟩:=x2;have dc:=C6 ag ⟨aj,ak,al⟩ s2 ah n2 ai k2 c2;have ab:Below w2.heap.size w2 w3:=Ac (Aq w2 _).drew ap)
        go_wp2_with fail;refine hK.out _ _ ?_ (fun hHeld=>?_)
        ·exact KS _ ab
        clear hK K
        try simp only[aH,aB,aC,aD]
        refine tkS 11 34 ?_
        try simp only[aH,aB,aC,aD]
        refine tkS 12 46 ?_
        try simp only[aH,aB,aC,aD]
        refine tkS 13 47 ?_
        try simp only[aH,aB,aC,aD]
        refine Bi 14 (fun K hK=>?_);go_simp;go_wp2_with fail;refine hK.out _ _ ?_ (fun hHeld=>?_)
        ·exact KS _ (ab.alloc ab.size _)
        clear hK K
        try simp only[aH,aB,aC,aD]
        refine Bi 15 (fun K hK=>?_);refine Hx rfl 48 _ _ rfl w3.heap.size (Af ag ⟨aj,ak,al⟩ s2 ah n2 (D ai k2 c2)) ?_ ?_ 48 (Af 0 zero noW noW 0 (D G 0 0)) ?_ ?_ ?_ ?_ ?_;exact rfl;exact rfl;exact(Ab w3 _);exact Ay;exact rfl;exact dc;refine hK.out _ _ ?_ (fun hHeld=>?_)
        ·exact KS _ (Below.row (ab.alloc ab.size _) ab.size _)
        clear hK K
        try simp only[aH]
        refine tkS 16 12 ?_
        try simp only[aH,aB,aC,aD]
        refine cY (by kernel_rfl) ?_ _;go_wp2_with fail;go_meet
        case rel=>exact⟨w3.heap.size,rfl,rfl,Ys ab.size (ab.alloc ab.size _) (Ab w3 _) (IsE.keep (Ai (Aq _ _)) _ _ (IsE.mono (fun k hk h=>⟨aA (by simp[cE];omega) h,Nat.ne_of_lt hk⟩) _ _ az))⟩
       ·go_simp;go_wp2_with fail;refine hK.out _ _ ?_ (fun hHeld=>?_)
        ·exact KS _ (Dd w2 _ _).drew
        clear hK K
        try simp only[aH,aB,aC,aD]
        refine Bi 10 (fun K hK=>?_);go_simp
        (refine(bd ((w2.alloc (J #[Y tn,D (I ⟨cb,af,G⟩) cols.length sc] 82)).alloc (J (Af 0 zero noW noW 0 (D G 0 0)) 48)).drew w2.heap.size (Dd w2 _ _).drew (Ad (Ab _ _) _)).mono ?_;rintro r w3 ⟨ag,x2,s2,ah,n2,ai,k2,c2,rfl,az,ap⟩;obtain⟨aj,ak,al⟩:=x2;have ab:Below w2.heap.size w2 w3:=Ac (Dd w2 _ _).drew ap)
        go_wp2_with fail;refine hK.out _ _ ?_ (fun hHeld=>?_)
        ·exact KS _ ab
        clear hK K
        try simp only[aH,aB,aC,aD]
        refine tkS 11 34 ?_
        try simp only[aH,aB,aC,aD]
        refine tkS 12 46 ?_
        try simp only[aH,aB,aC,aD]
        refine tkS 13 47 ?_
        try simp only[aH,aB,aC,aD]
        refine Bi 15 (fun K hK=>?_);refine Hx rfl 48 _ _ rfl (w2.heap.size+1) (Af ag ⟨aj,ak,al⟩ s2 ah n2 (D ai k2 c2)) ?_ ?_ 48 (Af 0 zero noW noW 0 (D G 0 0)) ?_ ?_ ?_ ?_ ?_;exact rfl;exact rfl;exact((ap.block _ (by simp[cE])).trans (Cc _ _ _));exact Ay;exact rfl;exact C6 ag ⟨aj,ak,al⟩ s2 ah n2 ai k2 c2;refine hK.out _ _ ?_ (fun hHeld=>?_)
        ·exact KS _ (Below.row ab (show w2.heap.size≤(w2.heap.size+1) by omega) _)
        clear hK K
        try simp only[aH]
        refine tkS 16 12 ?_
        try simp only[aH,aB,aC,aD]
        refine cY (by kernel_rfl) ?_ _;go_wp2_with fail;go_meet
        case rel=>exact⟨(w2.heap.size+1),rfl,rfl,Ys (show w2.heap.size≤(w2.heap.size+1) by omega) ab ((ap.block _ (by simp[cE])).trans (Cc _ _ _)) (IsE.mono (fun k _ h=>by have h2:w2.heap.size+2≤k:=aA (by simp[cE]) h;exact⟨by omega,by omega⟩) _ _ az)⟩
      ·go_simp;go_wp2_with fail;refine hK.out _ _ ?_ (fun hHeld=>?_)
       ·exact KS _ (Aq w2 _).drew
       clear hK K
       try simp only[aH,aB,aC,aD]
       refine Bi 1 (fun K hK=>?_);go_simp;go_wp2_with fail;refine hK.out _ _ ?_ (fun hHeld=>?_)
       ·exact KS _ (Dd w2 _ _).drew
       clear hK K
       try simp only[aH,aB,aC,aD]
       refine Bi 10 (fun K hK=>?_);go_simp
       (refine(bd ((w2.alloc (J (Af 0 zero noW noW 0 (D G 0 0)) 48)).alloc (J #[Y tn,D (I ⟨cb,af,G⟩) cols.length sc] 82)).drew (w2.heap.size+1) (Dd w2 _ _).drew (Cc _ _ _)).mono ?_;rintro r w3 ⟨ag,x2,s2,ah,n2,ai,k2,c2,rfl,az,ap⟩;obtain⟨aj,ak,al⟩:=x2;have ab:Below w2.heap.size w2 w3:=Ac (Dd w2 _ _).drew ap)
       go_wp2_with fail;refine hK.out _ _ ?_ (fun hHeld=>?_)
       ·exact KS _ ab
       clear hK K
       try simp only[aH,aB,aC,aD]
       refine tkS 11 34 ?_
       try simp only[aH,aB,aC,aD]
       refine tkS 12 46 ?_
       try simp only[aH,aB,aC,aD]
       refine tkS 13 47 ?_
       try simp only[aH,aB,aC,aD]
       refine Bi 15 (fun K hK=>?_);refine Hx rfl 48 _ _ rfl w2.heap.size (Af ag ⟨aj,ak,al⟩ s2 ah n2 (D ai k2 c2)) ?_ ?_ 48 (Af 0 zero noW noW 0 (D G 0 0)) ?_ ?_ ?_ ?_ ?_;exact rfl;exact rfl;exact((ap.block _ (by simp[cE];omega)).trans (Ad (Ab _ _) _));exact Ay;exact rfl;exact C6 ag ⟨aj,ak,al⟩ s2 ah n2 ai k2 c2;refine hK.out _ _ ?_ (fun hHeld=>?_)
       ·exact KS _ (Below.row ab (show w2.heap.size≤w2.heap.size by omega) _)
       clear hK K
       try simp only[aH]
       refine tkS 16 12 ?_
       try simp only[aH,aB,aC,aD]
       refine cY (by kernel_rfl) ?_ _;go_wp2_with fail;go_meet
       case rel=>exact⟨w2.heap.size,rfl,rfl,Ys (show w2.heap.size≤w2.heap.size by omega) ab ((ap.block _ (by simp[cE];omega)).trans (Ad (Ab _ _) _)) (IsE.mono (fun k _ h=>by have h2:w2.heap.size+2≤k:=aA (by simp[cE]) h;exact⟨by omega,by omega⟩) _ _ az)⟩
     case rest=>
      obtain⟨p,rfl,rfl,hp,ba,ag,⟨aj,ak,al⟩,s2,ah,n2,ai,k2,c2,hP,az⟩:=hcut;have ck:Below w.heap.size w wc:=ce.trans (ba.mono ce.size);rcases bm.out with⟨an,hm⟩|⟨an,rfl⟩
      ·have HE:Hid (Cr ⟨tn,cols⟩ [] l=M m):=HX m (by rw[HZ.out,an]);clear HX HY HZ HN HQ HL HT KS bd bm an;rcases hm with rfl|rfl
       all_goals
        go_wp2_with fail;go_ret2;refine⟨⟨_,rfl,?_⟩,ck⟩;rw[HE.out];rfl
      ·have HS:Hid (Cr ⟨tn,cols⟩ [] (l.take (j+1))=.ok (rs++[(cw,e3)])):=HY (cw,e3) (by rw[HZ.out,an]);have dd:Hid ((rs++[(cw,e3)]).length=j+1):=by show _=_;rw[aN,q2];rfl
       obtain⟨z0,z1,z2,z3,z4,z5,z6,z7⟩:=Tg hP;have dq:=(Yr.cells (KS wc ba)).2.2.2.1;obtain⟨mt,de⟩:=Ay9 (cw:=cw) (cy.below ba) bu q2 az;have df:Cnt (wc.setCells (w.heap.size+1+1) (j*9) (Mb cw ag aj ak al s2 ah n2 (D ai k2 c2)).toList) (w.heap.size+1) ((l.take (j+1)).map bD):=by
        rw[HN.out];exact(cd.below ba).kept (Af9 _ _ _ _) (by simp)
       have dg:(wc.setCells (w.heap.size+1+1) (j*9) (Mb cw ag aj ak al s2 ah n2 (D ai k2 c2)).toList).heap[w.heap.size]?=I (J #[Y tn,D (I ⟨cb,af,G⟩) cols.length sc] 82):=(D6 (by omega) _ _ _).trans (KS wc ba).1;clear HX HY HZ HN HQ HL HT KS bd bm an hP;go_wp2_with(refine bM rfl 141 _ _ rfl (w.heap.size+1+1) (j*9) (Mb cw ag aj ak al s2 ah n2 (D ai k2 c2)) ?_ ?_ ?_ ?_ ?_ ?_;exact rfl;exact rfl;exact mt;exact Ay8;exact Asr cw ag aj ak al s2 ah n2 ai k2 c2);go_roundw
       case rel=>exact⟨j+1,rs++[(cw,e3)],by omega,by go_num,HS,dd,dg,df,de,E1 (show w.heap.size≤w.heap.size+1+1 by omega) _ _ _ ck,by have:=ba.size;simp[Gc];omega⟩
       case measure=>simp[bQ];omega
    ·rw[bg]at HA HZ;have HE:Hid (Cr ⟨tn,cols⟩ [] l=M 4):=HX 4 HZ.out;clear HX HY HZ HN HQ HL HT am bb ha hg hs he hl bg hk1 hk2 bj;go_wp2_with(first|(go_fit HF;rintro e w1 ⟨rfl,aq⟩;have aa:=Ac bc aq;have s0:=Aa ((aq.block _ (show wr.heap.size<_ by simp)).trans (Ab wr _)) (j:=0) rfl)|(go_fit(HA _ (bi.below aa));rintro e w2 ⟨rfl,cd,ad⟩));go_ret2;refine⟨⟨_,rfl,?_⟩,Below.grow (ac.trans (aa.mono ac.size)) ad (aA ac.size aa.size) (by omega)⟩;rw[HE.out];rfl
  ·have dh:j=l.length:=by omega
   subst dh;have HE:Hid (Cr ⟨tn,cols⟩ [] l=.ok rs):=by
    show _=_;have:=HQ.out;rw[bE]at this;exact this
   have di:IsL Fc (Fr w.heap.size) wr (D (I ⟨w.heap.size+1+1,0,G⟩) l.length l.length) rs:=bf.whole q2 (fun k hk=>aA (by omega) hk) (show w.heap.size≤w.heap.size+1+1 by omega) (aA hn (by decide));clear q2 HL HQ;go_wp2_with fail;go_ret2;refine⟨⟨_,rfl,?_⟩,ac⟩;rw[HE.out];exact⟨_,_,_,rfl,di⟩
def FX (C base:Nat)(z:aO):Nat→Prop:=fun k=>k<C∨FO base z k
def Ke {α:Type}(K:Elem α)(ty:TypeId)(C base:Nat)(z:aO)(A:List α)(w:aV):Prop:=∃cs,w.ownsRow base ty K.size z A.length cs∧All K (FX C base z) w A cs
theorem Ad9 {α}(K:Elem α)(ty)(C base)(w):Ke K ty C base (D G 0 0) [] w:=⟨[],dT _ _ _ _,rfl⟩
theorem Aza {C base}{z}{W w3}(gr:W.grownBy w3 z.ownBlock)(hz:∀k,z.ownBlock=I k→base≤k)(hC:C≤base):Keeps (FX C base z) W w3:=
 ⟨gr.size,fun k hk hl=>gr.block k hl (by
  rcases hk with h|h
  ·grind
  grind)⟩
theorem Aa3 {α}{K}{ty}{C base}{z z'}{A}{cs c}{a:α}{W w3}(hC:C≤base)(hz:∀k,z.ownBlock=I k→base≤k)(aa:w3.ownsRow base ty K.size z' (A.length+1) (cs++c))(ab:All K (FX C base z) W A cs)(hR:K.R (FX C base z) W a c)(gr:W.grownBy w3 z.ownBlock)(ac:z'.ownBlock=z.ownBlock∨z'.ownBlock=I W.heap.size):
  Ke K ty C base z' (A++[a]) w3:=by
 have h1:All K (fun k=>FX C base z k∧k<W.heap.size) W _ _:=All.append (ab.mono fun k hk h=>⟨h,hk⟩) (All.one (K.mono (fun k hk h=>⟨h,hk⟩) hR));refine⟨_,by rw[aN];exact aa,(h1.keep ((Aza gr hz hC).mono fun k h=>h.1)).mono fun k _ h=>?_⟩;rcases h.1 with h3|h3
 ·exact .inl h3
 ·exact .inr (Uj ac k h.2 h3)
theorem Ke.below {α}{K}{ty}{C base}{z}{A:List α}{w w'}(h:Ke K ty C base z A w)(hb:Below w.heap.size w w'):Ke K ty C base z A w':=by
 obtain⟨cs,h1,h2⟩:=h;exact⟨cs,Ak h1 hb,h2.keep (Ai hb)⟩
theorem Ke.isL {α}{K}{ty}{C base}{z}{A:List α}{w}(h:Ke K ty C base z A w):IsL K (Fx C base) w z A:=by
 obtain⟨cs,h1,h2⟩:=h;exact⟨cs,Bq.of_own h1 (fun k hk=>.inr hk),h2.mono fun k _ h=>h.imp id (fun h=>h.1)⟩
theorem Ke.shape {α}{K}{ty}{C base}{z}{A:List α}{w}(h:Ke K ty C base z A w):∃ao c,z=D ao A.length c:=h.isL.shape
def Hb (S:List TabD):List (Wd×Wd):=S.flatMap fun t=>t.cols.map fun c=>(t.name,c.name)
def Pc (L:List (Wd×Wd)):List E:=L.zipIdx.map fun p=>.mk 2 zero p.1.1 p.1.2 (p.2:Int) []
theorem Avn (L)(x):Pc (L++[x])=Pc L++[.mk 2 zero x.1 x.2 (L.length:Int) []]:=by
 simp[Pc,List.zipIdx_append]
theorem Aa4 (L):(Pc L).length=L.length:=by simp[Pc]
def Vy (S:List TabD):List E:=Pc (Hb S)
theorem Al2 {S:List TabD}{j}{t}(h:S[j]?=I t):Hb (S.take (j+1))=Hb (S.take j)++t.cols.map fun c=>(t.name,c.name):=by
 rw[aX,h];simp[Hb]
theorem Aea:∀(S:List TabD),(∀t∈S,t.cols.length≤1000000)→(Hb S).length≤S.length*1000000
 |[],_=>by simp[Hb]
 |t::S,h=>by
  have h1:=Aea S (fun x hx=>h x (List.mem_cons_of_mem _ hx));have h2:=h t List.mem_cons_self;simp only[Hb,List.flatMap_cons,aN,bN,cV]at h1⊢;omega
theorem Aeb (S:List TabD)(hS:S.length≤1000)(aa:∀t∈S,t.cols.length≤1000000)(j):(Hb (S.take j)).length≤1000000000:=by
 have:=Aea (S.take j) (fun t ht=>aa t (List.mem_of_mem_take ht));grind
theorem Aow (S:List TabD)(hS:S.length≤1000)(aq:∀t∈S,t.cols.length≤1000000)(sv:aO)(C:Nat)(w:aV)(hl:IsL Ck (fun k=>k<C) w sv S)(_hC:C≤w.heap.size):
  bC aF 234 #[sv] w fun r w'=>(∃u,r=aE u∧IsL Az (Fr w.heap.size) w' u (Vy S))∧Below w.heap.size w w':=by
 obtain⟨so,sc,rfl⟩:=hl.shape;obtain⟨i0,hi,az,ba,bb⟩:=cK Ahp;go_enter Tryz.func234,Tryz.ntmps234;go_wp2_with fail
 go_loopw[3,10] (fun zv i wr=>∃j:Nat,j≤S.length∧i=O U j∧Ke Az 48 0 w.heap.size zv (Pc (Hb (S.take j))) wr∧Below w.heap.size w wr) (fun _ i _=>S.length-(bQ i).toNat)
 case atStart=>exact⟨0,bK _,rfl,Ad9 _ _ _ _ _,aY _ _⟩
 case round=>
  obtain⟨j,hj,rfl,hA,ab⟩:=hrel
  by_cases bc:j<S.length
  ·obtain⟨t,ht⟩:∃t,S[j]?=I t:=⟨_,aG bc⟩;have HP:Hid (Hb (S.take (j+1))=Hb (S.take j)++t.cols.map fun c=>(t.name,c.name)):=Al2 ht;have bt:=aq t (aI ht);have bd:=Aeb S hS aq j;obtain⟨b,ar,cs,rfl,bu,hb,⟨cv,rfl,ag⟩,ah⟩:=At hl ht;obtain⟨co,cc,rfl⟩:=ag.shape;have e0:=ah 0 _ rfl;have e1:=ah 1 _ rfl;simp only[Ck,bJ]at e0 e1;have d0:=(ab.cell (p:=⟨b,ar+j*2,G⟩) hb).trans e0;have d1:=(ab.cell (p:=⟨b,ar+j*2+1,G⟩) hb).trans e1;have j0:(0:Int)≤(j:Int):=by omega
   have j1:(j:Int)<(S.length:Int):=by omega
   obtain⟨ai,aj,-⟩:=al1 wr (J #[Y t.name,D co t.cols.length cc] 82);have ak:=hA.below ai;have be:∀k,u3.ownBlock=I k→k<wr.heap.size:=by obtain⟨bv,bf,_⟩:=hA;exact fun k hk=>(bf.lt k hk).2
   have au:Below w.heap.size w (wr.alloc (J #[Y t.name,D co t.cols.length cc] 82)):=ab.trans (ai.mono ab.size);have bg:=Aa aj (j:=1) rfl;generalize Hb _=P at ak HP bd;clear ah ht hA;go_wp2_with fail;generalize bw:wr.heap.size=pb at*
   go_loopw[3,17] (fun zv i wi=>∃m:Nat,m≤t.cols.length∧i=O U m∧Ke Az 48 0 w.heap.size zv (Pc (P++(t.cols.take m).map fun c=>(t.name,c.name))) wi∧wi.heap[pb]?=I (J #[Y t.name,D co t.cols.length cc] 82)∧zv.ownBlock≠I pb∧Below w.heap.size w wi) (fun _ i _=>t.cols.length-(bQ i).toNat)
   case atStart=>exact⟨0,bK _,rfl,by simpa using ak,aj,fun e=>by have:=be _ e;omega,au⟩
   case round=>
    obtain⟨m,hm,rfl,aa,al,bh,ac⟩:=hrel;clear ak aj bg au ai d0 d1 e0 e1 ab;have av:=aP al
    by_cases bi:m<t.cols.length
    ·obtain⟨cd,am⟩:∃a,t.cols[m]?=I a:=⟨_,aG bi⟩;have HT:Hid (Pc (P++(t.cols.take (m+1)).map fun c=>(t.name,c.name))=Pc (P++(t.cols.take m).map fun c=>(t.name,c.name))++[.mk 2 zero t.name cd.name ((P.length+m:Nat):Int) []]):=by
      show _=_;rw[aX,am];simp only[dL,cJ,eS,List.map_nil,←fO,Avn];rw[aN,bN,fS,Nat.min_eq_left hm]
     have HN:Hid ((Pc (P++(t.cols.take m).map fun c=>(t.name,c.name))).length=P.length+m):=by
      show _=_;rw[Aa4,aN,bN,fS,Nat.min_eq_left hm]
     generalize Pc _=A at aa HT HN;obtain⟨zo,zc,aw⟩:=aa.shape;obtain⟨bx,ae,bj⟩:=aa;rw[HN.out]at aw ae;have bz:P.length+m≤1001000000:=by omega
     generalize P.length+m=n at*;subst aw;obtain⟨cb,ca,ce,rfl,cf,an,bk,af⟩:=At ag am;obtain rfl:=bk;have f0:=af 0 _ rfl;have f1:=af 1 _ rfl;have f2:=af 2 _ rfl;simp only[Cp,bJ]at f0 f1 f2;have g0:=(ac.cell an).trans f0;have g1:=(ac.cell an).trans f1;have g2:=(ac.cell an).trans f2;have m0:(0:Int)≤m:=by omega
     have m1:m<(t.cols.length:Int):=by omega
     have t0:=Aa (((Aq wr (J #[Y cd.name,O U cd.ty,cX cd.must] 84)).block _ av).trans al) (j:=0) rfl;have ad:Below _ wr ((wr.alloc (J #[Y cd.name,O U cd.ty,cX cd.must] 84)).alloc (J [O U 2,O U 0,O U 0,Y ⟨#[]⟩,Y t.name,Y cd.name,O U n,D G 0 0].toArray 48)):=Dd _ _ _;have cg:=Cb (wr.alloc (J #[Y cd.name,O U cd.ty,cX cd.must] 84)) [O U 2,O U 0,O U 0,Y ⟨#[]⟩,Y t.name,Y cd.name,O U n,D G 0 0] 48;have ax:=aA ac.size ad.size;have bl:=(ad.block _ av).trans al;clear f0 f1 f2 af am ag;go_wp2_with(first|(at_builtin;go_must(refine cM _ rfl _ _ 44 rfl _ 48 i0 _ 8 104 fL hi az ba bb rfl (by simp) _ _ _ rfl (Ak ae ad) _ 1 1 [.int .i64 2,.int .i64 0,.int .i64 0,.string ⟨#[]⟩,.string t.name,.string cd.name,.int .i64 n,.slice G 0 0] rfl rfl ?h0 ?h1 (by simp only[bS];omega) (by omega) ax ?h2)))
     case h0=>simp_all
     case h1=>simp only[cH];repeat(first|exact fun _ h=>absurd h cU|refine⟨rfl,?_⟩)
     case h2=>
      intro z2 w4 bm ap _ bn;have ay:z2.ownBlock=(bO zo n zc).ownBlock∨z2.ownBlock=I ((wr.alloc (J #[Y cd.name,O U cd.ty,cX cd.must] 84)).alloc (J [O U 2,O U 0,O U 0,Y ⟨#[]⟩,Y t.name,Y cd.name,O U n,D G 0 0].toArray 48)).heap.size:=by simpa using bn
      have ch:=Aa3 (K:=Az) (ty:=48) (a:=.mk 2 zero t.name cd.name (n:Int) []) (bK _) (fun k hk=>(ae.lt k hk).1) (by rw[HN.out];exact bm) (bj.keep (Ai ad)) ⟨rfl,J5 (op:=2) (x:=zero) (s:=t.name) (name:=cd.name) (n:=(n:Int)) (ao:=none) (c:=0) fun _=>rfl⟩ ap ay;have bo:z2.ownBlock≠I pb:=by
       rcases ay with h|h
       ·simp_all
       ·rw[h];intro e;simp_all
      go_wp2_with fail;go_roundw
      case rel=>exact⟨m+1,by omega,by rfl,by rw[HT.out];omega,Gs ap bl (fun e=>bh e.symm),bo,(ac.trans (ad.mono ac.size)).grown ap ax fun k hk=>(ae.lt k hk).1⟩
      case measure=>simp[bQ];omega
    ·have bp:m=t.cols.length:=by omega
     subst bp;rw[bE]at aa;have cj:Ke Az 48 0 w.heap.size u3 (Pc (Hb (S.take (j+1)))) wr:=by rw[HP.out];exact aa
     go_wp2_with fail;go_roundw
     case rel=>grind
     case measure=>simp[bQ];omega
  ·have bq:j=S.length:=by omega
   subst bq;have aa:=hA.isL;rw[bE]at aa;go_wp2_with fail;go_ret;exact⟨⟨_,rfl,aa.mono (fun k _ hk=>by rcases hk with h|h;exact absurd h (Nat.not_lt_zero _);omega)⟩,ab⟩
def Lz (S:List TabD)(l:List E):Except Int (List E):=if l.length=0 then .ok (Vy S)else I9 S l
theorem Aox (S)(hS:S.length≤1000)(aa:∀t∈S,t.cols.length≤1000000)(d)(l)(lv sv)(C)(w)(he:IsL Az (fun k=>k<C) w lv l)(hl:IsL Ck (fun k=>k<C) w sv S)(hC:C≤w.heap.size)(hg:∀a∈l,geB d a=bF)(hn:l.length≤1000000000):
  bC aF 169 #[sv,lv] w fun r w'=>(∃u,r=aE u∧Nn Az (Lz S l) (Fr w.heap.size) w' u)∧Below w.heap.size w w':=by
 have HC:=Aow S hS aa sv C w hl hC;have HL:=Aa2 S hS aa d l lv sv C w he hl hC hg hn;obtain⟨so,sc,rfl⟩:=hl.shape;obtain⟨ao,c,rfl⟩:=he.shape;clear he hl hg hS aa
 by_cases h0:l.length=0
 ·have HE:Hid (Lz S l=.ok _):=if_pos h0;rw[h0];have ae:=HC.mono (R':=fun r w'=>∃(ao:Option Addr) (k c:Nat),r=aE (D ao k c)∧IsL Az (Fr w.heap.size) w' (D ao k c) (Vy S)∧Below w.heap.size w w') (by
   rintro r w' ⟨⟨u,rfl,hu⟩,hb⟩;obtain⟨ao,c,rfl⟩:=hu.shape;grind)
  clear HC HL;go_enter Tryz.func169,Tryz.ntmps169;go_wp2_with(refine ae.mono ?_;rintro r w1 ⟨af,k2,c2,rfl,ab,ac⟩);go_ret2;refine⟨⟨_,rfl,?_⟩,ac⟩;rw[HE.out];exact⟨_,_,_,rfl,ab⟩
 ·have HE:Hid (Lz S l=I9 S l):=if_neg h0;have e0:((l.length:Int)==0)=aZ:=by rw[beq_eq_false_iff_ne];omega
  have ad:=HL.mono (R':=fun r w'=>∃(ao:Option Addr) (k c:Nat) (z:Int),r=aE (aQ #[D ao k c,O _ z])∧Nn Az (I9 S l) (Fr w.heap.size) w' (aQ #[D ao k c,O _ z])∧Below _ w w') (by
   rintro r w' ⟨⟨u,rfl,hu⟩,hb⟩;cases hr:I9 S l with
   |error m=>
    rw[hr]at hu;obtain rfl:=hu;exact⟨G,0,0,m,rfl,rfl,hb⟩
   |ok l2=>
    rw[hr]at hu;have ag:=hu;obtain⟨ao,k,c,rfl,_⟩:=hu;grind)
  clear HC HL;generalize I9 S l=R at HE ad;go_enter Tryz.func169,Tryz.ntmps169;go_wp2_with(refine ad.mono ?_;rintro r w1 ⟨af,k2,c2,z,rfl,ab,ac⟩);go_ret2;refine⟨⟨_,rfl,?_⟩,ac⟩;rw[HE.out];exact ab
def Es {α β:Type}(f:List α→α→Except Int β):List α→List α→Except Int (List β)
 |_,[]=>.ok []
 |seen,p::l=>match f seen p with
  |M m=>M m
  |.ok q=>match Es f (seen++[p]) l with
   |M m=>M m
   |.ok qs=>.ok (q::qs)
theorem Vz {α β}(f:List α→α→Except Int β):∀(seen l:List α) (p:α),Es f seen (l++[p])=match Es f seen l with
  |M m=>M m
  |.ok qs=>match f (seen++l) p with
   |M m=>M m
   |.ok q=>.ok (qs++[q])
 |seen,[],p=>by
  simp only[cA,Es,gB]
 |seen,x::l,p=>by
  simp only[bI,Es,Vz f (seen++[x]) l p];rw[show seen++[x]++l=seen++x::l by simp];cases f seen x with
  |error m=>rfl
  |ok r=>
   grind
theorem Yt {α β}(f:List α→α→Except Int β):∀(seen l m:List α) (k:Int),Es f seen l=M k→Es f seen (l++m)=M k
 |seen,[],m,k,h=>by simp[Es]at h
 |seen,x::l,m,k,h=>by
  simp only[bI,Es]at h⊢;cases hx:f seen x with
  |error j=>grind
  |ok r=>
   rw[hx]at h;simp only at h⊢;cases hl:Es f _ l with
   |error j=>
    rw[hl]at h;rw[Yt f _ l m j hl];omega
   |ok rs=>grind
def Iv (T:List TabD)(seen:List Wd)(s:Wd):Except Int TabD:=
 match Bv T s with
 |none=>M 3
 |some t=>if N3 seen s then M 4 else .ok t
def G3 (T:List TabD)(l:List Wd):Except Int (List TabD):=if l.length<1∨2<l.length then M 1 else Es (Iv T) [] l
theorem Azb:(Tryz.prog.info? 82).map (fun i=>(i.zero,i.size,i.bytes))=I (I (Z #[Y ⟨#[]⟩,D G 0 0]),2,40):=by kernel_rfl
theorem Ke.kept {α}{K}{ty}{C base b}{z}{A:List α}{w w'}(h:Ke K ty C base z A w)(hg:w.grownBy w' (I b))(h1:C≤b)(h2:b<base):Ke K ty C base z A w':=by
 obtain⟨cs,h3,h4⟩:=h;have hz:=h3.lt;refine⟨cs,h3.kept hg (by grind),h4.keep ⟨hg.size,fun k hk hl=>hg.block k hl (fun e=>by
   have:=Option.some.inj e;rcases hk with h|h
   ·omega
   omega)⟩⟩
theorem Aoy (T:List TabD)(tv iv:aO)(be:Hk iv)(l:List Wd)(fv:aO)(C:Nat)(w:aV)(ht:IsL Ck (fun k=>k<C) w tv T)(hl:IsL Nz (fun k=>k<C) w fv l)(hC:C≤w.heap.size)(hs:∀s∈l,s.size≤bS):
  bC aF 168 #[Z #[tv,iv],fv] w fun r w'=>(∃u,r=aE u∧Nn Ck (G3 T l) (Fx C w.heap.size) w' u)∧Below w.heap.size w w':=by
 obtain⟨af,tc,rfl⟩:=ht.shape;obtain⟨fo,fc,rfl⟩:=hl.shape;obtain⟨io,iN,ic,rfl⟩:=be;obtain⟨i0,hi,bf,bg,bh⟩:=cK Azb;have ab:=Aq w (J #[D af T.length tc,D io iN ic] 62)
 by_cases ak:l.length<1∨2<l.length
 ·have HE:Hid (G3 T l=M 1):=if_pos ak;clear ht hl hs
  by_cases h1:l.length<1
  ·have q1:(l.length:Int)<1:=by omega
   go_enter fA,eQ;go_wp2_with fail;go_ret2;refine⟨⟨_,rfl,?_⟩,ab⟩;rw[HE.out];rfl
  ·have q1:¬(l.length:Int)<1:=by omega
   have q2:(2:Int)<(l.length:Int):=by omega
   go_enter fA,eQ;go_wp2_with fail;go_ret2;refine⟨⟨_,rfl,?_⟩,ab⟩;rw[HE.out];rfl
 ·have ap:Hid (G3 T l=Es (Iv T) [] l):=if_neg ak;have q1:¬(l.length:Int)<1:=by omega
  have q2:¬(2:Int)<(l.length:Int):=by omega
  have bu:l.length≤2:=by omega
  obtain⟨aq,ar,-,-⟩:=al2 w (J #[D af T.length tc,D io iN ic] 62) (.map #[] 0);have au:Cnt ((w.alloc (J #[D af T.length tc,D io iN ic] 62)).alloc (.map #[] 0)) (w.heap.size+1) []:=by
   have:=Abu (w.alloc (J #[D af T.length tc,D io iN ic] 62));rwa[show(w.alloc (J #[D af T.length tc,D io iN ic] 62)).heap.size=w.heap.size+1 by simp]at this
  have bi:=@run_makeMap aF;clear ak;go_enter fA,eQ;go_wp2_with fail;clear bi
  go_loopw[7,23] (fun zv i wr=>∃(j:Nat) (rs:List TabD),j≤l.length∧i=O U j∧Hid (Es (Iv T) [] (l.take j)=.ok rs)∧Hid (rs.length=j)∧wr.heap[w.heap.size]?=I (J #[D af T.length tc,D io iN ic] 62)∧Cnt wr (w.heap.size+1) (l.take j)∧Ke Ck 82 C (w.heap.size+2) zv rs wr∧Below w.heap.size w wr∧w.heap.size+2≤wr.heap.size) (fun _ i _=>l.length-(bQ i).toNat)
  case atStart=>exact⟨0,[],bK _,rfl,by show _=_;rw[cC,Es],rfl,ar,au,Ad9 _ _ _ _ _,aq,by simp⟩
  case round=>
   obtain⟨j,rs,hj,rfl,HQ,HL,hT,av,hA,aa,bj⟩:=hrel;clear ar au aq;have q3:=HL.out;subst q3
   by_cases bk:rs.length<l.length
   ·obtain⟨a,ha⟩:∃a,l[rs.length]?=I a:=⟨_,aG bk⟩;have HT:Hid (l.take (rs.length+1)=l.take rs.length++[a]):=by show _=_;rw[aX,ha];rfl
    have HX:∀m,Iv T (l.take rs.length) a=M m→G3 T l=M m:=fun m hm=>by
     have hs:Es (Iv T) [] (l.take (rs.length+1))=M m:=by rw[HT.out,Vz,HQ.out];simp only[cA,hm]
     have:=Yt _ [] _ (l.drop (rs.length+1)) m hs;rw[bA]at this;rw[ap.out,this]
    have HY:∀q,Iv T (l.take rs.length) a=.ok q→Es (Iv T) [] (l.take (rs.length+1))=.ok (rs++[q]):=fun q hq=>by
     rw[HT.out,Vz,HQ.out];simp only[cA,hq]
    have HZ:Hid (Iv T (l.take rs.length) a=match Bv T a with
     |none=>M 3
     |some t=>if N3 (l.take rs.length) a then M 4 else .ok t):=rfl
    obtain⟨b,bv,cs,rfl,bw,hb,hR,aw⟩:=At (hl.keep (Ae (aa.mono hC))) ha;obtain rfl:=hR;have d0:=aw 0 _ rfl;simp only[Nz,dJ,bJ]at d0;have j0:(0:Int)≤(rs.length:Int):=by omega
    have j1:(rs.length:Int)<(l.length:Int):=by omega
    have t0:=Aa hT (j:=0) rfl;have t1:=Aa hT (j:=1) rfl;have HA:=fun(W:aV) (h:Cnt W (w.heap.size+1) (l.take rs.length))=>Xx (w.heap.size+1) (l.take rs.length) a W h (hs a (aI ha)) (by simp;omega)
    have ax:=ht.keep (Ae (aa.mono hC));clear aw ha hs hl;rcases ag:Bv T a with _|t
    ·have HE:Hid _:=HX 3 (by rw[HZ.out,ag]);have HF:=Jo ag _ _ ⟨io,iN,ic,rfl⟩ C wr ax (aA hC aa.size);clear HA HX HY HZ HQ HL HT ag;go_wp2_with(first|(go_fit HF;rintro e w1 ⟨rfl,ab⟩));go_ret2;refine⟨⟨_,rfl,?_⟩,(aa.trans (ab.mono aa.size)).alloc (aA aa.size ab.size) _⟩;rw[HE.out];rfl
    ·have HF:=Hw ag (D af T.length tc) (D io iN ic) ⟨io,iN,ic,rfl⟩ C wr ax (aA hC aa.size);rw[ag]at HZ;simp only at HZ;cases aj:N3 (l.take rs.length) a
     ·rw[aj]at HA HZ;simp only[dR,if_false]at HZ;have HS:Hid (Es (Iv T) [] (l.take (rs.length+1))=.ok (rs++[t])):=HY t HZ.out;have bx:Hid ((rs++[t]).length=rs.length+1):=by show _=_;rw[aN];rfl
      have bl:Hid (l.take rs.length++[a]=l.take (rs.length+1)):=HT.out.symm;have bz:rs.length≤2:=by omega
      obtain⟨zo,zc,al⟩:=hA.shape;clear HX HY HZ HQ HL HT ag aj;subst al;go_wp2_with(first|(go_fit HF;rintro e w1 ⟨ac,n2,c2,rfl,ay,ab⟩;have ad:Below wr.heap.size wr (w1.alloc (J #[Y t.name,D ac n2 c2] 82)):=ab.alloc ab.size _;have am:=av.below ad;have hP:=Ab w1 (J #[Y t.name,D ac n2 c2] 82))|(go_fit(HA _ am);rintro e w2 ⟨rfl,az,ae⟩;have ba:=Gs ae hP (by have:=ab.size;simp;omega);have p0:=Aa ba (j:=0) rfl;have p1:=Aa ba (j:=1) rfl;obtain⟨ca,bb,bm⟩:=(hA.below ad).kept ae (by omega) (by omega);have ah:=Aq w2 (J [Y t.name,D ac n2 c2].toArray 82);have bn:w.heap.size+2≤w2.heap.size:=aA bj (aA ad.size ae.size);have an:w.heap.size+2≤(w2.alloc (J [Y t.name,D ac n2 c2].toArray 82)).heap.size:=aA bn ah.size)|(at_builtin;go_must(refine cM _ rfl _ _ 217 rfl (w.heap.size+2) 82 i0 _ 2 40 Tryz.underlying217 hi bf bg bh rfl (by decide) _ _ _ rfl (Ak bb ah) ⟨w2.heap.size,0,G⟩ 1 1 [.string t.name,.slice ac n2 c2] rfl rfl (Cb w2 [.string t.name,.slice ac n2 c2] 82) ?h1 (by simp only[bS];omega) (by omega) an ?h2)))
      case h1=>simp only[cH];repeat(first|exact fun _ h=>absurd h cU|refine⟨rfl,?_⟩)
      case h2=>
       intro z2 w4 bo ai _ bp;have bq:z2.ownBlock=(bO zo rs.length zc).ownBlock∨z2.ownBlock=I (w2.alloc (J [Y t.name,D ac n2 c2].toArray 82)).heap.size:=by simpa using bp
       have hz:=fun k hk=>(bb.lt k hk).1
       have cb:=Aa3 (K:=Ck) (ty:=82) (a:=t) (c:=[Y t.name,D ac n2 c2]) (by omega) hz bo (bm.keep (Ai ah)) ⟨_,rfl,(((ay.keep (Ae ((Aq w1 _).mono (aA hC (aA aa.size ab.size))))).keep ⟨ae.size,fun k hk hl=>ae.block k hl (fun e=>by grind)⟩).keep (Ai ah)).mono (fun k _ h=>.inl h)⟩ ai bq;have bc:=Below.grow (aa.trans (ad.mono aa.size)) ae (aA aa.size ad.size) (by omega);have cc:=(bc.trans (ah.mono bc.size)).grown ai (aA (by omega) an) fun k hk=>aA (by omega) (hz k hk)
       have bd:∀k,k<w.heap.size+2→I k≠(bO zo _ zc).ownBlock:=fun k hk e=>by have:=hz k e.symm;omega
       have cd:=Gs ai ((ah.block _ (by omega)).trans (Gs ae ((ad.block _ (aP hT)).trans hT) (by simp))) (bd _ (by omega));have ce:Cnt w4 (w.heap.size+1) (l.take (rs.length+1)):=by rw[←bl.out];exact(az.below ah).kept ai (bd _ (by omega))
       have cf:=aA an ai.size;go_wp2_with fail;go_roundw
       case rel=>grind
       case measure=>simp[bQ];omega
     ·rw[aj]at HA HZ;have HE:Hid _:=HX 4 (by assumption);clear HX HY HZ HQ HL HT ag aj;go_wp2_with(first|(go_fit HF;rintro e w1 ⟨ac,n2,c2,rfl,ay,ab⟩;have ad:Below _ wr (w1.alloc (J #[Y t.name,D ac n2 c2] 82)):=ab.alloc ab.size _;have am:=av.below ad)|(go_fit(HA _ am);rintro e w2 ⟨rfl,az,ae⟩));go_ret2;refine⟨⟨_,rfl,?_⟩,Below.grow (aa.trans (ad.mono aa.size)) ae (aA aa.size ad.size) (by omega)⟩;rw[HE.out];rfl
   ·have bt:rs.length=l.length:=by omega
    have HE:Hid (G3 T l=.ok rs):=by
     show _=_;have:=HQ.out;rw[bt,bE]at this;rw[ap.out,this]
    obtain⟨zo,zc,al⟩:=hA.shape;subst al;clear HL HQ;go_wp2_with fail;go_ret2;refine⟨⟨_,rfl,?_⟩,aa⟩;rw[HE.out];exact⟨_,_,_,rfl,hA.isL.mono (F':=Fx C w.heap.size) (fun k _ h=>h.imp id (fun h=>aA (by omega) h))⟩
def Kn (ct:CatD)(name:Wd)(cols:List ColD):Int:=if Kr ⟨name,cols⟩=aZ then 1 else if(Bv ct.tables name).isSome then 4 else if 3≤ct.tables.length then 8 else 0
def V0 (s:Wd)(x:IdxD):Bool:=decide (x.name=s)
def Q6 (ct:CatD)(name table col:Wd):Int:=if nm name=aZ then 1 else if Ks ct.tables table col=aZ then 3 else if B6 (atI ct.indexes (V0 name)) 0 ct.indexes.length then 4 else if 4≤ct.indexes.length then 8 else 0
def Ot (ct:CatD)(name:Wd):Int:=if(Bv ct.tables name).isSome then 0 else 3
theorem Aoz (ct)(cv)(C)(w)(hc:Hq (fun k=>k<C) w ct cv)(hC:C≤w.heap.size)
  (kind) (name table col) (colsv rowsv setsv frmv outv) (op xk xn) (xs s nmv) (n8) (sl order) (down) (n):
  bC aF 101 #[cv,Z (sA kind name table col colsv rowsv setsv frmv outv op xk xn xs s nmv n8 sl order down n)] w fun r w'=>r=aE (O U (Ot ct name))∧Below w.heap.size w w':=by
 obtain⟨tv,iv,rfl,ad,ae⟩:=hc;have aa:=Dd w (J #[tv,iv] 62) (J (sA kind name table col colsv rowsv setsv frmv outv op xk xn xs s nmv n8 sl order down n) 50);have af:=Gh ae;rcases ab:Bv ct.tables name with _|t
 ·have HE:Hid (Ot ct name=3):=by show _=_;unfold Ot;rw[ab];rfl
  have HF:=Jo ab tv iv af C _ (ad.keep (Ae (aa.mono hC))) (aA hC aa.size);clear ad ae ab;go_enter Tryz.func101,Tryz.ntmps101;go_wp2_with(first|(go_fit HF;rintro e w1 ⟨rfl,ac⟩));go_ret;exact⟨Av HE.out.symm,(Ac aa ac).alloc (Ac aa ac).size _⟩
 ·have HE:Hid (Ot ct name=0):=by show _=_;unfold Ot;rw[ab];rfl
  have HF:=Hw ab tv iv af C _ (ad.keep (Ae (aa.mono hC))) (aA hC aa.size);clear ad ae ab;go_enter Tryz.func101,Tryz.ntmps101;go_wp2_with(first|(go_fit HF;rintro e w1 ⟨ag,n2,c2,rfl,ah,ac⟩));go_ret;exact⟨Av HE.out.symm,(Ac aa ac).alloc (Ac aa ac).size _⟩
theorem Ajj (ct)(cv)(C)(w)(hc:Hq (fun k=>k<C) w ct cv)(hC:C≤w.heap.size)(cols)
  (kind) (name table col) (colsv rowsv setsv frmv outv) (op xk xn) (xs s nmv) (n8) (sl order) (down) (n) (aj:IsL Cp (fun k=>k<C) w colsv cols) (hf:Yk ⟨name,cols⟩):
  bC aF 99 #[cv,Z (sA kind name table col colsv rowsv setsv frmv outv op xk xn xs s nmv n8 sl order down n)] w fun r w'=>r=aE (O U (Kn ct name cols))∧Below w.heap.size w w':=by
 obtain⟨tv,iv,rfl,ai,am⟩:=hc;obtain⟨ah,tc,rfl⟩:=ai.shape;obtain⟨co,cc,rfl⟩:=aj.shape;obtain⟨ac,ak,ae,-⟩:=al2 w (J #[D ah ct.tables.length tc,iv] 62) (J (sA kind name table col (D co cols.length cc) rowsv setsv frmv outv op xk xn xs s nmv n8 sl order down n) 50);have al:=Gh am;have HG:=fun W (h:Below _ w W)=>Xj _ _ C W (aj.keep (Ae (h.mono hC))) (aA hC h.size) hf
 have HX:∃(b:Bool),(Bv ct.tables name).isSome=b∧bC aF 112 #[Z #[D ah ct.tables.length tc,iv],Y name] ((w.alloc (J #[D ah ct.tables.length tc,iv] 62)).alloc (J (sA kind name table col (D co cols.length cc) rowsv setsv frmv outv op xk xn xs s nmv n8 sl order down n) 50)) fun e w'=>∃(tn:Wd) (ao:Option Addr) (k c:Nat),e=aE (aQ #[Z #[Y tn,D ao k c],cX b])∧Below ((w.alloc (J #[D ah ct.tables.length tc,iv] 62)).alloc (J (sA kind name table col (D co cols.length cc) rowsv setsv frmv outv op xk xn xs s nmv n8 sl order down n) 50)).heap.size ((w.alloc (J #[D ah ct.tables.length tc,iv] 62)).alloc (J (sA kind name table col (D co cols.length cc) rowsv setsv frmv outv op xk xn xs s nmv n8 sl order down n) 50)) w':=by
  rcases an:Bv ct.tables name with _|t
  ·refine⟨aZ,rfl,(Jo an _ iv al C _ (ai.keep (Ae (ac.mono hC))) (aA hC ac.size)).mono ?_⟩;rintro e w1 ⟨rfl,aa⟩;grind
  ·refine⟨bF,rfl,(Hw an _ iv al C _ (ai.keep (Ae (ac.mono hC))) (aA hC ac.size)).mono ?_⟩;rintro e w1 ⟨ab,n2,c2,rfl,au,aa⟩;grind
 obtain⟨b,hb,HF⟩:=HX;have HE:Hid (Kn ct name cols=if Kr ⟨name,cols⟩=aZ then 1 else if b then 4 else if 3≤ct.tables.length then 8 else 0):=by show _=_;unfold Kn;rw[hb]
 generalize Kn ct name cols=R at HE;generalize Kr _=g at HE HG;generalize ct.tables.length=tl at*;clear ai am aj hb al;have ap:=aP ak;have af:=aP ae;have aq:(3≤tl∧(3:Int)≤tl)∨(¬3≤tl∧¬(3:Int)≤tl):=by omega
 cases g
 ·go_enter fI,eX;go_wp2_with(first|(go_fit HF;rintro e w1 ⟨tn,ab,n2,c2,rfl,aa⟩;have ad:Below _ w (w1.alloc (J #[Y tn,D ab n2 c2] 82)):=(Ac ac aa).alloc (Ac ac aa).size _;have z1:=Aa (Ad ((aa.block _ af).trans ae) (J #[Y tn,D ab n2 c2] 82)) (j:=1) rfl;have z4:=Aa (Ad ((aa.block _ af).trans ae) (J #[Y tn,D ab n2 c2] 82)) (j:=4) rfl)|(go_fit(HG _ ad);rintro e w2 ⟨rfl,ag⟩));go_ret;exact⟨Av (by rw[HE.out];rfl),Ac ad ag⟩
 ·cases b
  ·rcases aq with⟨l1,l2⟩|⟨l1,l2⟩
   all_goals
    go_enter fI,eX;go_wp2_with(first|(go_fit HF;rintro e w1 ⟨tn,ab,n2,c2,rfl,aa⟩;have ad:Below _ w (w1.alloc (J #[Y tn,D ab n2 c2] 82)):=(Ac ac aa).alloc (Ac ac aa).size _;have z1:=Aa (Ad ((aa.block _ af).trans ae) (J #[Y tn,D ab n2 c2] 82)) (j:=1) rfl;have z4:=Aa (Ad ((aa.block _ af).trans ae) (J #[Y tn,D ab n2 c2] 82)) (j:=4) rfl;have ar:=aP (Ad ((aa.block _ ap).trans ak) (J #[Y tn,D ab n2 c2] 82)))|(go_fit(HG _ ad);rintro e w2 ⟨rfl,ag⟩;have x0:=(ag.cell ar).trans (Aa (Ad ((aa.block _ ap).trans ak) (J #[Y tn,D ab n2 c2] 82)) (j:=0) rfl)));go_ret;exact⟨Av (by rw[HE.out];grind),Ac ad ag⟩
  ·go_enter fI,eX;go_wp2_with(first|(go_fit HF;rintro e w1 ⟨tn,ab,n2,c2,rfl,aa⟩;have ad:Below _ w (w1.alloc (J #[Y tn,D ab n2 c2] 82)):=(Ac ac aa).alloc (Ac ac aa).size _;have z1:=Aa (Ad ((aa.block _ af).trans ae) (J #[Y tn,D ab n2 c2] 82)) (j:=1) rfl;have z4:=Aa (Ad ((aa.block _ af).trans ae) (J #[Y tn,D ab n2 c2] 82)) (j:=4) rfl)|(go_fit(HG _ ad);rintro e w2 ⟨rfl,ag⟩));go_ret;exact⟨Av (by rw[HE.out];rfl),Ac ad ag⟩
theorem Al3 (x)(pb)(name:Wd)(w)(hp:w.cell? ⟨pb,1,G⟩=I (Y name))(ab:pb<w.heap.size):
  bC aF 164 #[Z #[Y x.name,Y x.table,Y x.col],bV (I ⟨pb,0,G⟩)] w fun e w'=>e=aE (cX (V0 name x))∧Below w.heap.size w w':=by
 have aa:=Aq w (J #[Y x.name,Y x.table,Y x.col] 86);have h1:=(aa.cell ab).trans hp;have E:Hid (V0 name x=(x.name.toList==name.toList)):=by show _=_;rw[V0,Jk]
 generalize V0 name x=r at E;go_enter Tryz.func164,Tryz.ntmps164;go_wp2;go_ret;exact⟨Ah E.out.symm,aa⟩
theorem Ao0 (ct)(cv)(C)(w)(hc:Hq (fun k=>k<C) w ct cv)(hC:C≤w.heap.size)
  (kind) (name table col) (colsv rowsv setsv frmv outv) (op xk xn) (xs s nmv) (n8) (sl order) (down) (n) (hs:name.size≤bS):
  bC aF 100 #[cv,Z (sA kind name table col colsv rowsv setsv frmv outv op xk xn xs s nmv n8 sl order down n)] w fun r w'=>r=aE (O U (Q6 ct name table col))∧Below w.heap.size w w':=by
 obtain⟨tv,iv,rfl,ad,ae⟩:=hc;obtain⟨io,ic,rfl⟩:=ae.shape;obtain⟨ai,tc,rfl⟩:=ad.shape;obtain⟨ab,af,aj,-⟩:=al2 w (J #[D ai ct.tables.length tc,D io ct.indexes.length ic] 62) (J (sA kind name table col colsv rowsv setsv frmv outv op xk xn xs s nmv n8 sl order down n) 50);have HN:=fun W=>K7 name W hs
 have HH:=Ad4 _ _ (D io ct.indexes.length ic) ⟨_,_,_,rfl⟩ table col C _ (ad.keep (Ae (ab.mono hC))) (aA hC ab.size);have ag:=aP af;have ah:=aP aj;have HC:=fun W (hW:Below _ ((w.alloc (J #[D ai ct.tables.length tc,D io ct.indexes.length ic] 62)).alloc (J (sA kind name table col colsv rowsv setsv frmv outv op xk xn xs s nmv n8 sl order down n) 50)) W)=>A46.2.2.1.has Tryz.func164 #[_] (fun v=>#[v,_]) ct.indexes (fun k=>k<C) io _ ic (atI ct.indexes (V0 name))
  (fun _ W'=>Below W.heap.size W W') (fun W'=>Below W.heap.size W W') W (fun _ _ h=>h) (fun _ W' h=>(ae.keep (Ae (ab.mono hC))).keep (Ae ((hW.trans (h.mono hW.size)).mono (aA hC ab.size))))
  (by
   rintro i x cs W' hx h rfl;refine(Al3 x (w.heap.size+1) name W' ((h.cell (p:=⟨w.heap.size+1,1,G⟩) (aL ah hW.size)).trans ((hW.cell (p:=⟨w.heap.size+1,1,G⟩) ah).trans (Aa aj (j:=1) rfl))) (aL ah (aA hW.size h.size))).mono ?_;rintro e W2 ⟨rfl,hb⟩;exact⟨by simp[atI,hx],Ac h hb,fun _=>Ac h hb⟩)
  (aY _ _)
 have HE:Hid (Q6 ct name table col=if nm name=aZ then 1 else if Ks _ table col=aZ then 3 else if B6 _ 0 _ then 4 else if 4≤ct.indexes.length then 8 else 0):=rfl;generalize Q6 ct name table col=R at HE;generalize nm name=gn at HE HN;generalize Ks _ table col=gh at HE HH;generalize B6 _ 0 _=gc at HE HC;generalize ct.indexes.length=il at*;clear ad ae;have ak:(4≤il∧(4:Int)≤il)∨(¬4≤il∧¬(4:Int)≤il):=by omega
 cases gn
 ·go_enter dW,dQ;go_wp2_with(first|(go_fit(HN _);rintro e w1 ⟨rfl,rfl⟩));go_ret;exact⟨Av (by rw[HE.out];rfl),ab⟩
 ·cases gh
  ·go_enter dW,dQ;go_wp2_with(first|(go_fit(HN _);rintro e w1 ⟨rfl,rfl⟩)|(go_fit HH;rintro e w2 ⟨rfl,aa⟩));go_ret;exact⟨Av (by rw[HE.out];rfl),Ac ab aa⟩
  ·cases gc
   ·rcases ak with⟨l1,l2⟩|⟨l1,l2⟩
    all_goals
     go_enter dW,dQ;go_wp2_with(first|(go_fit(HN _);rintro e w1 ⟨rfl,rfl⟩)|(go_fit HH;rintro e w2 ⟨rfl,aa⟩;have y1:=(aa.cell ag).trans (Aa af (j:=1) rfl);have al:=aL ag aa.size)|(go_fit(HC _ aa);rintro e w4 ⟨rfl,ac⟩;have y2:=(ac.cell al).trans y1));go_ret;exact⟨Av (by rw[HE.out];grind),Ac (Ac ab aa) ac⟩
   ·go_enter dW,dQ;go_wp2_with(first|(go_fit(HN _);rintro e w1 ⟨rfl,rfl⟩)|(go_fit HH;rintro e w2 ⟨rfl,aa⟩;have y1:=(aa.cell ag).trans (Aa af (j:=1) rfl))|(go_fit(HC _ aa);rintro e w4 ⟨rfl,ac⟩));go_ret;exact⟨Av (by rw[HE.out];rfl),Ac (Ac ab aa) ac⟩
def Jq (R:Except Int Stm)(F:Nat→Prop)(w':aV)(v:aO):Prop:=
 ∃arr:Array aO,arr.size=20∧arr.all (·.oneCell')=bF∧match R with
 |M m=>v=aQ #[Z arr,O U m]
 |.ok st=>v=aQ #[Z arr,O U 0]∧Ie.R F w' st arr.toList
structure SeSt (w:aV) (W:aV) (arr:Array aO):Prop where
 stm:W.heap[w.heap.size+1]?=I (J arr 50)
 room:W.heap[w.heap.size+1+1]?=I (J Bn 50)
 bel:Below w.heap.size w W
 big:w.heap.size+3≤W.heap.size
theorem SeSt.below {w W W'}{arr}(h:SeSt w W arr)(hb:Below W.heap.size W W'):SeSt w W' arr:=
 ⟨(hb.block _ (by have:=h.big;omega)).trans h.stm,(hb.block _ (by have:=h.big;omega)).trans h.room,h.bel.trans (hb.mono h.bel.size),aA h.big hb.size⟩
theorem SeSt.set {w W}{arr}(h:SeSt w W arr)(i)(v):SeSt w (W.setCell ⟨w.heap.size+1,i,G⟩ v) (arr.setIfInBounds i v):=
 ⟨upd h.stm i v,(aU _ _ _ _ (by simp)).trans h.room,h.bel.setCell (show w.heap.size≤w.heap.size+1 by omega) _,by simpa using h.big⟩
theorem SeSt.wher {w W}{kind}{name table col}{cols rows sets frm out}{op xk xn}{xs s nmv}{n8}{sl order}{down}{n}(h:SeSt w W (sA kind name table col cols rows sets frm out op xk xn xs s nmv n8 sl order down n))(op' xk' xn')(aa s' ab:Wd)(n8')(sl'):
  SeSt w (W.setCells (w.heap.size+1) 9 (Af op' ⟨xk',xn',aa⟩ s' ab n8' sl').toList) (sA kind name table col cols rows sets frm out op' xk' xn' aa s' ab n8' sl' order down n):=by
 have g:=(((((((h.set 9 (O U op')).set 10 (O U xk')).set 11 (O U xn')).set 12 (Y aa)).set 13 (Y s')).set 14 (Y ab)).set 15 (O U n8')).set 16 sl';simp only[aB,aD,aC]at g;exact g
theorem No {aa:Array aO}(h:aa.size=20):(Tryz.prog.info? 50).map (·.size)=I aa.size:=by rw[h];exact D4
structure BkSt (ct:CatD) (st:Stm) (C:Nat) (w W:aV) (cv arr:Array aO):Prop where
 cat:W.heap[w.heap.size]?=I (J cv 62)
 se:SeSt w W arr
 ic:Hq (fun k=>k<C) W ct (Z cv)
 is:Ie.R (fun k=>k<C) W st arr.toList
 le:C≤w.heap.size
 two:cv.size=2
 n20:arr.size=20
 one:arr.all (·.oneCell')=bF
theorem Avo:(Tryz.prog.info? 62).map (·.size)=I 2:=by kernel_rfl
section
variable {ct:CatD}{st:Stm}{C:Nat}{w W W':aV}{cv arr:Array aO}
theorem BkSt.below (h:BkSt ct st C w W cv arr)(hb:Below W.heap.size W W'):BkSt ct st C w W' cv arr:=
 ⟨(hb.block _ (aP h.cat)).trans h.cat,h.se.below hb,h.ic.keep (Ae (hb.mono (aA h.le h.se.bel.size))),Ie.keep (Ae (hb.mono (aA h.le h.se.bel.size))) h.is,h.le,h.two,h.n20,h.one⟩
theorem BkSt.leW (h:BkSt ct st C w W cv arr):C≤W.heap.size:=aA h.le h.se.bel.size
theorem BkSt.ci (h:BkSt ct st C w W cv arr):(Tryz.prog.info? 62).map (·.size)=I cv.size:=by rw[h.two];exact Avo
theorem BkSt.si (h:BkSt ct st C w W cv arr):(Tryz.prog.info? 50).map (·.size)=I arr.size:=by rw[h.n20];exact D4
theorem V6 {v:aO}{cs:List aO}(hc:Hq (fun k=>k<C) w ct v)(hR:Ie.R (fun k=>k<C) w st cs)(hC:C≤w.heap.size):
  ∃cv aa,v=Z cv∧cs=aa.toList∧BkSt ct st C w (((w.alloc (J cv 62)).alloc (J aa 50)).alloc (J Bn 50)) cv aa:=by
 obtain⟨tv,iv,rfl,h1,h2⟩:=hc;have hb:=(Hy w (J #[tv,iv] 62) (J cs.toArray 50) (J Bn 50));exact⟨_,_,rfl,by simp,Ad (Ad (Ab _ _) _) _,⟨Ad (Cc w _ _) _,Fi w _ _ _,hb,by simp⟩,⟨tv,iv,rfl,h1.keep (Ae (hb.mono hC)),h2.keep (Ae (hb.mono hC))⟩,by simpa using Ie.keep (Ae (hb.mono hC)) hR,hC,rfl,by rw[fM];exact Ie.len hR,by
  obtain⟨o1,c1,o2,c2,o3,c3,o4,c4,o5,c5,op,xk,xn,xs,s,ab,n8,o6,k6,c6,o7,c7,rfl,_⟩:=Bb hR;exact P0 (Ca _ _ _) (Ca _ _ _) (Ca _ _ _) (Ca _ _ _) (Ca _ _ _) (Ca _ _ _) (Ca _ _ _)⟩
end
theorem A4z:Bn.all (·.oneCell')=bF:=P0 (Ca _ _ _) (Ca _ _ _) (Ca _ _ _) (Ca _ _ _) (Ca _ _ _) (Ca _ _ _) (Ca _ _ _)
theorem Nn.told {α}{K}{R:Except Int (List α)}{F}{w}{v}(h:Nn K R F w v):∃ao c,v=aQ #[D ao (Ld R).length c,O U (Le R)]∧IsL K F w (D ao (Ld R).length c) (Ld R):=by
 cases R with
 |error m=>exact⟨G,0,h,IsL.nil _ _ _⟩
 |ok l=>
  obtain⟨ao,k,c,rfl,hl⟩:=h;have e:=(D5 hl).1;subst e;exact⟨ao,c,rfl,hl⟩
theorem Z3.told {R}{F}{w}{v}(h:Z3 R F w v):∃a:Array aO,v=aQ #[Z a,O U (Le R)]∧a.size=8∧a.all (·.oneCell')=bF∧IsE F w (Aly R) (Z a):=by
 cases R with
 |error m=>exact⟨_,h,rfl,C6 _ _ _ _ _ _ _ _,J5 fun _=>rfl⟩
 |ok e=>
  obtain⟨op,x,s,nm,n,ao,k,c,rfl,hE⟩:=h;exact⟨_,rfl,rfl,C6 _ _ _ _ _ _ _ _,hE⟩
theorem P9 {α}{R:Except Int (List α)}(hm:∀m,R=M m→m≠0):(Le R=0∧R=.ok (Ld R))∨((Le R !=0)=bF∧R=M (Le R)):=by
 cases R with
 |ok l=>exact .inl ⟨rfl,rfl⟩
 |error m=>exact .inr ⟨by simpa[Le]using hm m rfl,rfl⟩
structure CmSt (C:Nat) (w W:aV) (arr:Array aO) (st:Stm):Prop where
 se:SeSt w W arr
 is:Ie.R (Fx C (w.heap.size+3)) W st arr.toList
 le:C≤w.heap.size
section
variable {C:Nat}{w W W':aV}{arr:Array aO}{st:Stm}
theorem CmSt.below (h:CmSt C w W arr st)(hb:Below W.heap.size W W'):CmSt C w W' arr st:=⟨h.se.below hb,Ie.keep (Ai hb) h.is,h.le⟩
theorem CmSt.n20 (h:CmSt C w W arr st):arr.size=20:=by have:=Ie.len h.is;assumption
theorem CmSt.si (h:CmSt C w W arr st):(Tryz.prog.info? 50).map (·.size)=I arr.size:=No h.n20
theorem CmSt.one (h:CmSt C w W arr st):arr.all (·.oneCell')=bF:=by
 obtain⟨o1,c1,o2,c2,o3,c3,o4,c4,o5,c5,op,xk,xn,xs,s,aa,n8,o6,k6,c6,o7,c7,e,_⟩:=Bb h.is;obtain rfl:=aJ.1 e;exact P0 (Ca _ _ _) (Ca _ _ _) (Ca _ _ _) (Ca _ _ _) (Ca _ _ _) (Ca _ _ _) (Ca _ _ _)
theorem CmSt.keep (h:CmSt C w W arr st)(i:Nat)(v:aO):Keeps (Fx C (w.heap.size+3)) W (W.setCell ⟨w.heap.size+1,i,G⟩ v):=
 (Keeps.refl _ _).set (fun hf=>by have:=h.le;rcases hf with hf|hf<;>omega) _ _
theorem CmSt.free (h:CmSt C w W arr st)(i:Nat):W.frozen? ⟨w.heap.size+1,i,G⟩=aZ:=by simp[dK,h.se.stm]
theorem CmSt.get_rows (h:CmSt C w W arr st):∃ao c,W.cell? ⟨w.heap.size+1,5,G⟩=I (D ao st.rows.length c)∧IsL H7 (fun k=>k<W.heap.size) W (D ao st.rows.length c) st.rows:=by
 obtain⟨o1,c1,o2,c2,o3,c3,o4,c4,o5,c5,op,xk,xn,xs,s,aa,n8,o6,k6,c6,o7,c7,e,i1,i2,i3,i4,i5,i6,i7⟩:=Bb h.is;obtain rfl:=aJ.1 e;exact⟨_,_,Aa h.se.stm rfl,i2.mono fun _ hk _=>hk⟩
theorem CmSt.set_rows (h:CmSt C w W arr st){l:List (List E)}{ao:Option Addr}{c:Nat}(hl:IsL H7 (Fx C (w.heap.size+3)) W (D ao l.length c) l):∃a,CmSt C w (W.setCell ⟨w.heap.size+1,5,G⟩ (D ao l.length c)) a {st with rows:=l}∧a.extract 9 17=arr.extract 9 17:=by
 obtain⟨o1,c1,o2,c2,o3,c3,o4,c4,o5,c5,op,xk,xn,xs,s,aa,n8,o6,k6,c6,o7,c7,e,i1,i2,i3,i4,i5,i6,i7⟩:=Bb h.is;obtain rfl:=aJ.1 e;have i2:=hl;exact⟨_,⟨h.se.set 5 _,Ie.keep (h.keep 5 _) (N0 i1 i2 i3 i4 i5 i6 i7),h.le⟩,rfl⟩
theorem CmSt.get_sets (h:CmSt C w W arr st):∃ao c,W.cell? ⟨w.heap.size+1,6,G⟩=I (D ao st.sets.length c)∧IsL Fc (fun k=>k<W.heap.size) W (D ao st.sets.length c) st.sets:=by
 obtain⟨o1,c1,o2,c2,o3,c3,o4,c4,o5,c5,op,xk,xn,xs,s,aa,n8,o6,k6,c6,o7,c7,e,i1,i2,i3,i4,i5,i6,i7⟩:=Bb h.is;obtain rfl:=aJ.1 e;exact⟨_,_,Aa h.se.stm rfl,i3.mono fun _ hk _=>hk⟩
theorem CmSt.set_sets (h:CmSt C w W arr st){l:List ((Wd×E))}{ao:Option Addr}{c:Nat}(hl:IsL Fc (Fx C (w.heap.size+3)) W (D ao l.length c) l):∃a,CmSt C w (W.setCell ⟨w.heap.size+1,6,G⟩ (D ao l.length c)) a {st with sets:=l}∧a.extract 9 17=arr.extract 9 17:=by
 obtain⟨o1,c1,o2,c2,o3,c3,o4,c4,o5,c5,op,xk,xn,xs,s,aa,n8,o6,k6,c6,o7,c7,e,i1,i2,i3,i4,i5,i6,i7⟩:=Bb h.is;obtain rfl:=aJ.1 e;have i3:=hl;exact⟨_,⟨h.se.set 6 _,Ie.keep (h.keep 6 _) (N0 i1 i2 i3 i4 i5 i6 i7),h.le⟩,rfl⟩
theorem CmSt.get_out (h:CmSt C w W arr st):∃ao c,W.cell? ⟨w.heap.size+1,8,G⟩=I (D ao st.out.length c)∧IsL Az (fun k=>k<W.heap.size) W (D ao st.out.length c) st.out:=by
 obtain⟨o1,c1,o2,c2,o3,c3,o4,c4,o5,c5,op,xk,xn,xs,s,aa,n8,o6,k6,c6,o7,c7,e,i1,i2,i3,i4,i5,i6,i7⟩:=Bb h.is;obtain rfl:=aJ.1 e;exact⟨_,_,Aa h.se.stm rfl,i5.mono fun _ hk _=>hk⟩
theorem CmSt.set_out (h:CmSt C w W arr st){l:List (E)}{ao:Option Addr}{c:Nat}(hl:IsL Az (Fx C (w.heap.size+3)) W (D ao l.length c) l):∃a,CmSt C w (W.setCell ⟨w.heap.size+1,8,G⟩ (D ao l.length c)) a {st with out:=l}∧a.extract 9 17=arr.extract 9 17:=by
 obtain⟨o1,c1,o2,c2,o3,c3,o4,c4,o5,c5,op,xk,xn,xs,s,aa,n8,o6,k6,c6,o7,c7,e,i1,i2,i3,i4,i5,i6,i7⟩:=Bb h.is;obtain rfl:=aJ.1 e;have i5:=hl;exact⟨_,⟨h.se.set 8 _,Ie.keep (h.keep 8 _) (N0 i1 i2 i3 i4 i5 i6 i7),h.le⟩,rfl⟩
theorem CmSt.get_order (h:CmSt C w W arr st):∃ao c,W.cell? ⟨w.heap.size+1,17,G⟩=I (D ao st.order.length c)∧IsL Az (fun k=>k<W.heap.size) W (D ao st.order.length c) st.order:=by
 obtain⟨o1,c1,o2,c2,o3,c3,o4,c4,o5,c5,op,xk,xn,xs,s,aa,n8,o6,k6,c6,o7,c7,e,i1,i2,i3,i4,i5,i6,i7⟩:=Bb h.is;obtain rfl:=aJ.1 e;exact⟨_,_,Aa h.se.stm rfl,i7.mono fun _ hk _=>hk⟩
theorem CmSt.set_order (h:CmSt C w W arr st){l:List (E)}{ao:Option Addr}{c:Nat}(hl:IsL Az (Fx C (w.heap.size+3)) W (D ao l.length c) l):∃a,CmSt C w (W.setCell ⟨w.heap.size+1,17,G⟩ (D ao l.length c)) a {st with order:=l}∧a.extract 9 17=arr.extract 9 17:=by
 obtain⟨o1,c1,o2,c2,o3,c3,o4,c4,o5,c5,op,xk,xn,xs,s,aa,n8,o6,k6,c6,o7,c7,e,i1,i2,i3,i4,i5,i6,i7⟩:=Bb h.is;obtain rfl:=aJ.1 e;have i7:=hl;exact⟨_,⟨h.se.set 17 _,Ie.keep (h.keep 17 _) (N0 i1 i2 i3 i4 i5 i6 i7),h.le⟩,rfl⟩
theorem CmSt.get_wher (h:CmSt C w W arr st):∃cw:List aO,cw.length=8∧W.rangeAt (w.heap.size+1) 9 cw∧arr.extract 9 17=cw.toArray:=by
 obtain⟨o1,c1,o2,c2,o3,c3,o4,c4,o5,c5,op,xk,xn,xs,s,aa,n8,o6,k6,c6,o7,c7,e,i1,i2,i3,i4,i5,i6,i7⟩:=Bb h.is;obtain rfl:=aJ.1 e;refine⟨(Af op ⟨xk,xn,xs⟩ s aa n8 (D o6 k6 c6)).toList,rfl,fun j v hj=>?_,rfl⟩;refine Aa h.se.stm ?_
 match j,hj with
 |0,hj|1,hj|2,hj|3,hj|4,hj|5,hj|6,hj|7,hj=>exact hj
theorem CmSt.set_wher (h:CmSt C w W arr st){x:E}{a:Array aO}(hx:IsE (Fx C (w.heap.size+3)) W x (Z a)):W.there (w.heap.size+1) 9 a.size∧∃a',CmSt C w (W.setCells (w.heap.size+1) 9 a.toList) a' {st with wher:=x}:=by
 obtain⟨o1,c1,o2,c2,o3,c3,o4,c4,o5,c5,op,xk,xn,xs,s,ag,n8,o6,k6,c6,o7,c7,e,i1,i2,i3,i4,i5,i6,i7⟩:=Bb h.is;obtain rfl:=aJ.1 e;obtain⟨aa,⟨ab,ac,ad⟩,s',ae,n',af,k',c',he,_⟩:=Rr hx;obtain rfl:=cN he;have hk:Keeps (Fx C (w.heap.size+3)) W (W.setCells (w.heap.size+1) 9 (Af aa ⟨ab,ac,ad⟩ s' ae n' (D af k' c')).toList):=
  ⟨by rw[Gc];simp,fun k hf _=>D6 (fun e=>by have:=h.le;rw[e]at hf;rcases hf with hf|hf<;>omega) _ _ _⟩
 refine⟨fun j hj=>?_,_,h.se.wher _ _ _ _ _ _ _ _,Ie.keep hk (N0 i1 i2 i3 i4 i5 hx i7),h.le⟩;have ah:j<8:=hj;exact⟨by rw[Aa h.se.stm (j:=9+j) (Array.getElem?_eq_getElem (show 9+j<20 by omega))];rfl,h.free _⟩
theorem CmSt.bad {R:Except Int Stm}{F:Nat→Prop}{z:Int}(h:CmSt C w W arr st)(hR:R=M z):Jq R F W' (aQ #[Z arr,O U z]):=⟨arr,h.n20,h.one,by rw[hR]⟩
theorem CmSt.good {R:Except Int Stm}(h:CmSt C w W arr st)(hR:R=.ok st):Jq R (Fx C w.heap.size) (W.setRow (w.heap.size+1+1) arr) (aQ #[Z arr,O U 0]):=by
 refine⟨arr,h.n20,h.one,?_⟩;rw[hR];exact⟨rfl,Ie.mono (fun _ _ h=>h.imp id fun h=>aA (by omega) h) (Ie.keep ((Keeps.refl _ _).row (fun hf=>by have:=h.le;rcases hf with hf|hf<;>omega) _) h.is)⟩
theorem CmSt.ld (h:CmSt C w W arr st){aa:Array Oper}{rest:List Oper}{o:Oper}{a:Act}{Q:Exit→Act→aV→Prop}(ab:o.guard=G){x:Operand}(ho:o.op=.load 50 x)(hx:a.eval x=bV (I ⟨w.heap.size+1,0,G⟩))(k:wpList aF aa Q rest (a.put o.dst (Z arr)) W):wpList aF aa Q (o::rest) a W:=
 bH ab _ x ho _ hx _ _ _ _ h.se.stm aW rfl h.si k
theorem CmSt.sto (h:CmSt C w W arr st){aa:Array Oper}{rest:List Oper}{o:Oper}{a:Act}{Q:Exit→Act→aV→Prop}(ab:o.guard=G){x y:Operand}(ho:o.op=.store 50 x y)(hx:a.eval x=bV (I ⟨w.heap.size+1+1,0,G⟩))(hy:a.eval y=Z arr)(k:wpList aF aa Q rest (a.put o.dst eI) (W.setRow (w.heap.size+1+1) arr)):wpList aF aa Q (o::rest) a W:=
 aR ab _ x y ho _ _ hx hy _ _ h.se.room h.si h.n20.symm h.one k
theorem CmSt.fin (h:CmSt C w W arr st){R:Except Int Stm}{z:Int}(hA:Jq R (Fx C w.heap.size) (W.setRow (w.heap.size+1+1) arr) (aQ #[Z arr,O U z])){fn:Func}{p q:Tmp}(hr:fn.results=#[.cell p 50,.tmp q]){a:Act}(hp:a.tmps.getD p eI=bV (I ⟨w.heap.size+1+1,0,G⟩))(hq:a.tmps.getD q eI=O U z)(hd:a.defers=[]):
  bodyPost aF fn (fun r w'=>(∃u,r=aE u∧Jq R (Fx C w.heap.size) w' u)∧Below w.heap.size w w') .ret a (W.setRow (w.heap.size+1+1) arr):=
 aS (Dq hr _ _ _ 50 arr _ _ _ hp hq (Ao h.se.room) aW rfl h.si) hd ⟨⟨_,rfl,hA⟩,Below.row h.se.bel (by omega) _⟩
end
def Gm (ct:CatD)(st:Stm):Except Int Stm:=
 match Bv ct.tables st.table with
 |none=>M 3
 |some t=>match Iu t.cols st.rows with
  |M m=>M m
  |.ok rows=>match Cr t [] st.sets with
   |M m=>M m
   |.ok sets=>match whR [t] st.wher with
    |M m=>M m
    |.ok wh=>.ok {st with rows:=rows,sets:=sets,wher:=wh}
theorem Yu {t}:∀{seen:List Wd}{l:List (Wd×E)}{m:Int},Cr t seen l=M m→m=3∨m=4∨m=5
 |seen,[],m,h=>by simp[Cr]at h
 |seen,x::l,m,h=>by
  simp only[Cr]at h;cases hx:Si t seen x with
  |error j=>
   rw[hx]at h;obtain rfl:=aM h;exact Ay6 hx
  |ok r=>
   rw[hx]at h;simp only at h;cases hl:Cr t _ l with
   |error j=>
    rw[hl]at h;obtain rfl:=aM h;exact Yu hl
   |ok rs=>grind
structure TbAt (b:Nat) (W:aV) (t:TabD) (cv:aO) (q:Nat):Prop where
 tab:W.heap[q]?=I (J #[Y t.name,cv] 82)
 lo:b+3≤q
theorem TbAt.below {b}{W W'}{t}{cv}{q}(h:TbAt b W t cv q)(hb:Below W.heap.size W W'):TbAt b W' t cv q:=⟨(hb.block _ (aP h.tab)).trans h.tab,h.lo⟩
theorem TbAt.set {b}{W}{t}{cv}{q}(h:TbAt b W t cv q)(i)(v):TbAt b (W.setCell ⟨b+1,i,G⟩ v) t cv q:=⟨(aU _ _ _ _ (by have:=h.lo;grind)).trans h.tab,h.lo⟩
theorem Aga (ct)(v)(st)(cs)(C)(w)(hc:Hq (fun k=>k<C) w ct v)(hR:Ie.R (fun k=>k<C) w st cs)(hC:C≤w.heap.size)
  (am:∀r∈st.rows,∀a∈r,geB 40 a=bF) (an:∀p∈st.sets,geB 40 p.2=bF) (ap:st.wher.opn≠0→geB 40 st.wher=bF)
  (av:st.rows.length≤16777216) (aq:∀r∈st.rows,r.length≤16777216) (ar:st.sets.length≤16777216) (hs:∀p∈st.sets,p.1.size≤bS) (ak:∀t∈ct.tables,t.cols.length≤1000000):
  bC aF 102 #[v,Z cs.toArray] w fun r w'=>(∃u,r=aE u∧Jq (Gm ct st) (Fx C w.heap.size) w' u)∧Below w.heap.size w w':=by
 obtain⟨cv,al,rfl,rfl,B0⟩:=V6 hc hR hC;rw[bW];obtain⟨tv,iv,e0,ai,aj⟩:=B0.ic;obtain rfl:=cN e0;obtain⟨o1,c1,o2,c2,o3,c3,o4,c4,o5,c5,op,xk,xn,xs,s,bc,n8,o6,k6,c6,o7,c7,e,_,j2,j3,_,_,i6,_⟩:=Bb hR;have a2:(((w.alloc (J #[tv,iv] 62)).alloc (J al 50)).alloc (J Bn 50)).cell? ⟨w.heap.size+1,2,G⟩=I (Y st.table):=by
  have:=B0.se.stm;rw[aJ.1 e]at this⊢;exact Aa this rfl
 have hX:IsE (fun k=>k<C) w st.wher (Z (al.extract 9 17)):=by rw[aJ.1 e];exact i6
 clear e e0;have M0:CmSt C w _ al st:=⟨B0.se,Ie.mono (fun _ _ h=>.inl h) B0.is,hC⟩;rcases ac:Bv ct.tables st.table with _|t
 ·have HE:Hid (Gm ct st=M 3):=by show _=_;rw[Gm,ac]
  have HF:=Jo ac tv iv (Gh aj) C _ ai B0.leW;go_enter Tryz.func102,Tryz.ntmps102;clear ai aj ac am an ap av aq ar hs hX ak hc hR i6 j2 j3;go_wp2_with(first|(refine bH rfl 62 _ rfl w.heap.size ?_ 62 _ (0,0) _ B0.cat bU ?_ ?_ ?_;exact rfl;exact rfl;exact B0.ci)|(go_fit HF;rintro e w1 ⟨rfl,ag⟩;have M1:=(M0.below ag).below (Aq w1 (.cells #[.string noW,.slice G 0 0] 82)))|(refine M1.ld rfl rfl ?_ ?_;exact rfl)|(refine M1.sto rfl rfl ?_ ?_ ?_;exact rfl;exact rfl));exact M1.fin (M1.bad HE.out) dD rfl rfl rfl
 have HF:=Hw ac tv iv (Gh aj) C _ ai B0.leW;have aw:=ak t (bY ac);have HE:Hid (Gm ct st=match Iu t.cols st.rows with
   |M m=>M m
   |.ok rows=>match Cr t [] st.sets with
    |M m=>M m
    |.ok sets=>match whR [t] st.wher with
     |M m=>M m
     |.ok wh=>.ok {st with rows:=rows,sets:=sets,wher:=wh}):=by show _=_;unfold Gm;rw[ac]
 go_enter Tryz.func102,Tryz.ntmps102;go_upto_region 5 with(first|(refine bH rfl 62 _ rfl w.heap.size ?_ 62 _ (0,0) _ B0.cat bU ?_ ?_ ?_;exact rfl;exact rfl;exact B0.ci)|(go_fit HF;rintro e w1 ⟨ad,n2,ae,rfl,aa,ag⟩));have M1:=(M0.below ag).below (Aq w1 (J #[Y t.name,D ad n2 ae] 82));have T1:TbAt w.heap.size (w1.alloc (J #[Y t.name,D ad n2 ae] 82)) t (D ad n2 ae) w1.heap.size:=⟨Ab _ _,by have:=ag.size;simp at this;omega⟩;have aa:=aa.keep (Ai (Aq w1 (J #[Y t.name,D ad n2 ae] 82)));clear HF ag ai aj ac ak hc hR i6 j2 j3 M0 B0 a2;generalize w1.heap.size=q at*;generalize w1.alloc (J #[Y t.name,D ad n2 ae] 82)=W1 at*;obtain⟨ao,c,a5,hO⟩:=M1.get_rows;have p0:=Aa T1.tab (j:=0) rfl;have p1:=Aa T1.tab (j:=1) rfl;have HO:=Al0 t.name t.cols _ 40 st.rows _ W1.heap.size W1 hO (aa.mono fun _ hk _=>hk) (aT _) am (by omega) fun r hr=>aA (aq r hr) (by decide)
 clear hO;go_upto_region 6 with(go_fit HO;rintro e w2 ⟨⟨u,rfl,hu⟩,ab⟩;obtain⟨af,oc,rfl,ah⟩:=hu.told;have M2:=M1.below ab;obtain⟨_,_,q5,_⟩:=M2.get_rows;have f5:=M2.free 5);have T2:=(T1.below ab).set 5 (D af (Ld (Iu t.cols st.rows)).length oc);have aa:=(aa.keep (Ai ab)).keep ((Keeps.refl _ _).set (by intro h;have:w.heap.size+1<C:=h;omega) 5 (D af (Ld (Iu t.cols st.rows)).length oc));obtain⟨a2,M2,x2⟩:=M2.set_rows (ah.mono fun k _ (hk:_≤k)=>.inr (aA M1.se.big hk));have hz:=P9 (fun m h=>by rcases Ahq h with rfl|rfl<;>decide:∀m,Iu t.cols st.rows=M m→m≠0);generalize w2.setCell ⟨w.heap.size+1,5,G⟩ (D af (Ld (Iu t.cols st.rows)).length oc)=W2 at*;generalize Le (Iu t.cols st.rows)=z at*;generalize Ld (Iu t.cols st.rows)=l2 at*;clear ab ah hu q5 f5 a5 HO p0 p1 M1 T1;rcases hz with⟨rfl,hr⟩|⟨hz,hr⟩;rotate_left
 ·have HE:Hid (Gm ct st=M z):=by show _=_;rw[HE.out,hr]
  go_wp2_with(first|(refine M2.ld rfl rfl ?_ ?_;exact rfl)|(refine M2.sto rfl rfl ?_ ?_ ?_;exact rfl;exact rfl));exact M2.fin (M2.bad HE.out) dD rfl rfl rfl
 have HE:Hid (Gm ct st=match Cr t [] st.sets with
    |M m=>M m
    |.ok sets=>match whR [t] st.wher with
     |M m=>M m
     |.ok wh=>.ok {st with rows:=l2,sets:=sets,wher:=wh}):=by show _=_;rw[HE.out,hr]
 clear hr;obtain⟨ao,c,a6,hO⟩:=M2.get_sets;have p0:=Aa T2.tab (j:=0) rfl;have p1:=Aa T2.tab (j:=1) rfl;have HO:=Al1 t.name t.cols _ 40 st.sets _ W2.heap.size W2 hO (aa.mono fun _ hk _=>hk) (aT _) an ar hs aw;clear hO;go_upto_region 9 with(go_fit HO;rintro e w2 ⟨⟨u,rfl,hu⟩,ab⟩;obtain⟨af,oc,rfl,ah⟩:=hu.told;have M3:=M2.below ab;obtain⟨_,_,q6,_⟩:=M3.get_sets;have f6:=M3.free 6);have T3:=(T2.below ab).set 6 (D af (Ld (Cr t [] st.sets)).length oc);have aa:=(aa.keep (Ai ab)).keep ((Keeps.refl _ _).set (by intro h;have:w.heap.size+1<C:=h;omega) 6 (D af (Ld (Cr t [] st.sets)).length oc));obtain⟨a3,M3,x3⟩:=M3.set_sets (ah.mono fun k _ (hk:_≤k)=>.inr (aA M2.se.big hk));have hz:=P9 (fun m h=>by rcases Yu h with rfl|rfl|rfl<;>decide:∀m,Cr t [] st.sets=M m→m≠0);generalize w2.setCell _ _=W3 at*;generalize Le _=z at*;generalize Ld _=l3 at*;clear ab ah hu q6 f6 a6 HO p0 p1 M2 T2;rcases hz with⟨rfl,hr⟩|⟨hz,hr⟩;rotate_left
 ·have HE:Hid (Gm ct st=M z):=by show _=_;rw[HE.out,hr]
  go_wp2_with(first|(refine M3.ld rfl rfl ?_ ?_;exact rfl)|(refine M3.sto rfl rfl ?_ ?_ ?_;exact rfl;exact rfl));exact M3.fin (M3.bad HE.out) dD rfl rfl rfl
 have HE:Hid (Gm ct st=match whR [t] st.wher with
     |M m=>M m
     |.ok wh=>.ok {st with rows:=l2,sets:=l3,wher:=wh}):=by show _=_;rw[HE.out,hr]
 clear hr;have hT:=Aq W3 (J #[Y t.name,D ad n2 ae] 82);have M4:=M3.below hT;obtain⟨cw,au,ra,hO⟩:=M4.get_wher;rw[←x2,←x3,hO]at hX;have hX:=IsE.keep (Ae (M4.se.bel.mono hC)) _ _ hX;have HO:=Xl [⟨_,_⟩] (show 1≤1000 by simp) (by grind) 40 _ _ _ C _ _ hX (Aqx (Ab W3 _) ((aa.keep (Ai hT)).mono fun _ hk _=>hk)) (aA hC M4.se.bel.size) (aT _) ap;have hi:(Tryz.prog.info? 48).map (·.size)=I cw.length:=by rw[au];exact Ay
 have p0:=Aa T3.tab (j:=0) rfl;have p1:=Aa T3.tab (j:=1) rfl;clear hO au hX x2 x3 aa T3 M3;go_wp2_with(first|(refine wpList_load_mid rfl 48 _ rfl _ 9 ?_ cw _ ra aK rfl ?_ ?_;exact rfl;exact hi)|(go_fit HO;rintro e w4 ⟨⟨u,rfl,hu⟩,ax⟩;obtain⟨a,rfl,ay,az,hE⟩:=hu.told;have ba:(Tryz.prog.info? 48).map (·.size)=I a.size:=(by rw[ay];rfl);have h4:=(M4.below ax).set_wher (IsE.mono (fun k _ hk=>hk.imp id fun h=>aA M4.se.big h) _ _ hE);have bb:=h4.1;obtain⟨a5,M5⟩:=h4.2)|(refine bM rfl 48 _ _ rfl (w.heap.size+1) 9 a ?_ ?_ ?_ ?_ ?_ ?_;exact rfl;exact rfl;exact bb;exact ba;exact az)|(refine M5.ld rfl rfl ?_ ?_;exact rfl)|(refine M5.sto rfl rfl ?_ ?_ ?_;exact rfl;exact rfl));refine M5.fin (z:=Le (whR [t] _)) ?_ dD rfl rfl rfl;have M5:CmSt C w _ a5 {st with rows:=l2,sets:=l3,wher:=Aly (whR [t] _)}:=M5;generalize whR [t] _=R at M5 HE⊢;cases R with
 |error m=>exact M5.bad HE.out
 |ok e=>exact M5.good HE.out
def E3 (ct:CatD)(st:Stm):Except Int Stm:=
 match G3 ct.tables st.frm with
 |M m=>M m
 |.ok S=>match Lz S st.out with
  |M m=>M m
  |.ok out=>match I9 S st.order with
   |M m=>M m
   |.ok order=>match whR S st.wher with
    |M m=>M m
    |.ok wh=>.ok {st with out:=out,order:=order,wher:=wh}
theorem Avp {T}{s}{t}(h:Bv T s=I t):t∈T:=bY h
theorem Al4 {α β}{f}{P:β→Prop}(hf:∀seen a b,f seen a=.ok b→P b):∀{seen l:List α}{rs:List β},Es f seen l=.ok rs→rs.length=l.length∧∀b∈rs,P b
 |seen,[],rs,h=>by
  simp only[Es,dU]at h;grind
 |seen,x::l,rs,h=>by
  simp only[Es]at h;cases hx:f seen x with
  |error j=>grind
  |ok r=>
   rw[hx]at h;simp only at h;cases hl:Es f (seen++[x]) l with
   |error j=>grind
   |ok rs'=>
    rw[hl]at h;simp only[dU]at h;subst h;obtain⟨h1,h2⟩:=Al4 hf hl;grind
theorem Ahr {α β}{f:List α→α→Except Int β}{P:Int→Prop}(hf:∀seen a m,f seen a=M m→P m):∀{seen l:List α}{m:Int},Es f seen l=M m→P m
 |seen,[],m,h=>by simp[Es]at h
 |seen,x::l,m,h=>by
  simp only[Es]at h;cases hx:f seen x with
  |error j=>
   rw[hx]at h;obtain rfl:=aM h;exact hf _ _ _ hx
  |ok r=>
   rw[hx]at h;simp only at h;cases hl:Es f _ l with
   |error j=>
    rw[hl]at h;obtain rfl:=aM h;exact Ahr hf hl
   |ok rs=>rw[hl]at h;cases h
theorem Azc {T}{seen}{s}{t}(h:Iv T seen s=.ok t):t∈T:=by
 unfold Iv at h;cases ht:Bv T s with
 |none=>grind
 |some t'=>
  rw[ht]at h;simp only at h;split at h
  ·grind
  ·obtain rfl:=Except.ok.inj h;exact Avp ht
theorem Avq {T}{seen}{s}{m}(h:Iv T seen s=M m):m=3∨m=4:=by
 unfold Iv at h;grind
theorem Avr {T}{l}{S}(h:G3 T l=.ok S):S.length≤2∧∀t∈S,t∈T:=by
 unfold G3 at h;split at h
 ·grind
 ·obtain⟨h1,h2⟩:=Al4 (P:=fun t=>t∈T) (fun _ _ _ hb=>Azc hb) h;grind
theorem Aec {T}{l}{m}(h:G3 T l=M m):m=1∨m=3∨m=4:=by
 unfold G3 at h;split at h
 ·grind
 ·exact .inr (Ahr (fun _ _ _ hb=>Avq hb) h)
theorem Ab9 {S}{l}{m}(h:I9 S l=M m):m=3∨m=5:=by
 unfold I9 at h;cases hb:Be S l with
 |error k=>
  rw[hb]at h;obtain rfl:=aM h;exact Vu S l _ hb
 |ok r=>grind
theorem Al5 {S}{l}{m}(h:Lz S l=M m):m=3∨m=5:=by
 unfold Lz at h;split at h
 ·grind
 ·exact Ab9 h
theorem Agb (ct)(v)(st)(cs)(C)(w)(hc:Hq (fun k=>k<C) w ct v)(hR:Ie.R (fun k=>k<C) w st cs)(hC:C≤w.heap.size)
  (an:∀a∈st.out,geB 40 a=bF) (ap:∀a∈st.order,geB 40 a=bF) (aq:st.wher.opn≠0→geB 40 st.wher=bF)
  (bc:st.out.length≤16777216) (bd:st.order.length≤16777216) (hs:∀s∈st.frm,s.size≤bS) (ah:∀t∈ct.tables,t.cols.length≤1000000):
  bC aF 103 #[v,Z cs.toArray] w fun r w'=>(∃u,r=aE u∧Jq (E3 ct st) (Fx C w.heap.size) w' u)∧Below w.heap.size w w':=by
 obtain⟨cv,ac,rfl,rfl,B0⟩:=V6 hc hR hC;rw[bW];obtain⟨tv,iv,e0,ai,aj⟩:=B0.ic;obtain rfl:=cN e0;obtain⟨o1,c1,o2,c2,o3,c3,o4,c4,o5,c5,op,xk,xn,xs,s,be,n8,o6,k6,c6,o7,c7,e,_,_,_,i4,_,i6,_⟩:=Bb hR;have a7:(((w.alloc (J #[tv,iv] 62)).alloc (J ac 50)).alloc (J Bn 50)).cell? ⟨w.heap.size+1,7,G⟩=I (D o4 st.frm.length c4):=by
  have:=B0.se.stm;rw[aJ.1 e]at this⊢;exact Aa this rfl
 have hX:IsE (fun k=>k<C) w st.wher (Z (ac.extract 9 17)):=by rw[aJ.1 e];exact i6
 clear e e0;have HS:=(Aoy ct.tables tv iv (Gh aj) st.frm _ C _ ai (i4.keep (Ae (B0.se.bel.mono hC))) B0.leW hs);have M0:CmSt C w _ ac st:=⟨B0.se,Ie.mono (fun _ _ h=>.inl h) B0.is,hC⟩;have HE:Hid (E3 ct st=E3 ct st):=rfl;go_enter Tryz.func103,Tryz.ntmps103;go_upto_region 2 with(first|(refine bH rfl 62 _ rfl w.heap.size ?_ 62 _ (0,0) _ B0.cat bU ?_ ?_ ?_;exact rfl;exact rfl;exact B0.ci)|(go_fit HS;rintro e w1 ⟨⟨u,rfl,hu⟩,ak⟩;obtain⟨bf,sc,rfl,hS⟩:=hu.told));have M1:=M0.below ak;have hz:=P9 (fun m h=>by rcases Aec h with rfl|rfl|rfl<;>decide:∀m,G3 ct.tables st.frm=M m→m≠0);have hS:=hS.mono (F':=Fx C (w.heap.size+3)) fun _ _ h=>h.imp id fun h=>aA (by simp) h
 clear HS M0 B0 ak hu ai aj hc hR a7 i4;generalize Le (G3 ct.tables st.frm)=z at*;generalize Ld (G3 ct.tables st.frm)=S at*;rcases hz with⟨rfl,hr⟩|⟨hz,hr⟩;rotate_left
 ·have HE:Hid (E3 ct st=M z):=by show _=_;rw[E3,hr]
  go_wp2_with(first|(refine M1.ld rfl rfl ?_ ?_;exact rfl)|(refine M1.sto rfl rfl ?_ ?_ ?_;exact rfl;exact rfl));exact M1.fin (M1.bad HE.out) dC rfl rfl rfl
 obtain⟨ar,al⟩:=Avr hr;have ad:S.length≤1000:=by omega
 have ae:∀t∈S,t.cols.length≤1000000:=fun t ht=>ah t (al t ht)
 have HE:Hid (E3 ct st=match Lz S st.out with
   |M m=>M m
   |.ok out=>match I9 S st.order with
    |M m=>M m
    |.ok order=>match whR S st.wher with
     |M m=>M m
     |.ok wh=>.ok {st with out:=out,order:=order,wher:=wh}):=by show _=_;unfold E3;rw[hr]
 clear hr ar al ah;obtain⟨ao,c,a8,hO⟩:=M1.get_out;have HO:=Aox S ad ae 40 st.out _ _ w1.heap.size w1 hO (hS.mono fun _ hk _=>hk) (aT _) an (by omega);clear hO;go_upto_region 5 with(go_fit HO;rintro e w2 ⟨⟨u,rfl,hu⟩,af⟩;obtain⟨ab,oc,rfl,aa⟩:=hu.told;have M2:=M1.below af;obtain⟨_,_,q8,_⟩:=M2.get_out;have f8:=M2.free 8);have hS:=(hS.keep (Ai af)).keep (M2.keep 8 (D ab (Ld (Lz S st.out)).length oc));obtain⟨a2,M2,x2⟩:=M2.set_out (aa.mono fun k _ (hk:_≤k)=>.inr (aA M1.se.big hk));have hz:=P9 (fun m h=>by rcases Al5 h with rfl|rfl<;>decide:∀m,Lz S st.out=M m→m≠0);generalize w2.setCell ⟨w.heap.size+1,8,G⟩ (D ab (Ld (Lz S st.out)).length oc)=W2 at*;generalize Le (Lz S st.out)=z at*;generalize Ld (Lz S st.out)=out2 at*;clear af aa hu q8 f8;rcases hz with⟨rfl,hr⟩|⟨hz,hr⟩;rotate_left
 ·have HE:Hid (E3 ct st=M z):=by show _=_;rw[HE.out,hr]
  go_wp2_with(first|(refine M2.ld rfl rfl ?_ ?_;exact rfl)|(refine M2.sto rfl rfl ?_ ?_ ?_;exact rfl;exact rfl));exact M2.fin (M2.bad HE.out) dC rfl rfl rfl
 have HE:Hid (E3 ct st=match I9 S st.order with
   |M m=>M m
   |.ok order=>match whR S st.wher with
    |M m=>M m
    |.ok wh=>.ok {st with out:=out2,order:=order,wher:=wh}):=by show _=_;rw[HE.out,hr]
 clear hr HO M1 a8;obtain⟨ao,c,au,hO⟩:=M2.get_order;have HO:=Aa2 S ad ae 40 st.order _ _ W2.heap.size W2 hO (hS.mono fun _ hk _=>hk) (aT _) ap (by omega);clear hO;go_upto_region 8 with(go_fit HO;rintro e w3 ⟨⟨u,rfl,hu⟩,ag⟩;obtain⟨ab,oc,rfl,aa⟩:=hu.told;have M3:=M2.below ag;obtain⟨_,_,av,_⟩:=M3.get_order;have aw:=M3.free 17);have hS:=(hS.keep (Ai ag)).keep (M3.keep 17 (D ab (Ld (I9 S st.order)).length oc));obtain⟨a3,M3,x3⟩:=M3.set_order (aa.mono fun k _ (hk:_≤k)=>.inr (aA M2.se.big hk));have hz:=P9 (fun m h=>by rcases Ab9 h with rfl|rfl<;>decide:∀m,I9 S st.order=M m→m≠0);generalize w3.setCell _ _=W3 at*;generalize Le _=z at*;generalize Ld _=ord2 at*;clear ag aa hu av aw;rcases hz with⟨rfl,hr⟩|⟨hz,hr⟩;rotate_left
 ·have HE:Hid (E3 ct st=M z):=by show _=_;rw[HE.out,hr]
  go_wp2_with(first|(refine M3.ld rfl rfl ?_ ?_;exact rfl)|(refine M3.sto rfl rfl ?_ ?_ ?_;exact rfl;exact rfl));exact M3.fin (M3.bad HE.out) dC rfl rfl rfl
 have HE:Hid (E3 ct st=match whR S st.wher with
   |M m=>M m
   |.ok wh=>.ok {st with out:=out2,order:=ord2,wher:=wh}):=by show _=_;rw[HE.out,hr]
 clear hr HO M2 au;obtain⟨cw,am,ra,hO⟩:=M3.get_wher;rw[←x2,←x3,hO]at hX;have hX:=IsE.keep (Ae (M3.se.bel.mono hC)) _ _ hX;have HO:=Xl S ad ae 40 _ _ _ C _ W3 hX (hS.mono fun _ hk _=>hk) (aA hC M3.se.bel.size) (aT _) aq;have hi:(Tryz.prog.info? 48).map (·.size)=I cw.length:=by rw[am];exact Ay
 clear hO am hX x2 x3;go_wp2_with(first|(refine wpList_load_mid rfl 48 _ rfl _ 9 ?_ cw _ ra aK rfl ?_ ?_;exact rfl;exact hi)|(go_fit HO;rintro e w4 ⟨⟨u,rfl,hu⟩,ax⟩;obtain⟨a,rfl,ay,az,hE⟩:=hu.told;have ba:(Tryz.prog.info? 48).map (·.size)=I a.size:=(by rw[ay];rfl);have h4:=(M3.below ax).set_wher (IsE.mono (fun k _ hk=>hk.imp id fun h=>aA M3.se.big h) _ _ hE);have bb:=h4.1;obtain⟨a4,M4⟩:=h4.2)|(refine bM rfl 48 _ _ rfl (w.heap.size+1) 9 a ?_ ?_ ?_ ?_ ?_ ?_;exact rfl;exact rfl;exact bb;exact ba;exact az)|(refine M4.ld rfl rfl ?_ ?_;exact rfl)|(refine M4.sto rfl rfl ?_ ?_ ?_;exact rfl;exact rfl));refine M4.fin ?_ dC rfl rfl rfl;generalize whR S _=R at M4 HE⊢;cases R with
 |error m=>exact M4.bad HE.out
 |ok e=>exact M4.good HE.out
def Pd (m:Int)(st:Stm):Except Int Stm:=if m=0 then .ok st else M m
section
variable {ct:CatD}{st:Stm}{C:Nat}{w W W':aV}{cv arr:Array aO}
theorem BkSt.kind (h:BkSt ct st C w W cv arr):W.cell? ⟨w.heap.size+1,0,G⟩=I (O U st.kind):=by
 obtain⟨o1,c1,o2,c2,o3,c3,o4,c4,o5,c5,op,xk,xn,xs,s,aa,n8,o6,k6,c6,o7,c7,e,_⟩:=Bb h.is;obtain rfl:=aJ.1 e;exact Aa h.se.stm rfl
theorem Ass (h:BkSt ct st C w W cv arr)(hf:Yk ⟨st.name,st.cols⟩):bC aF 99 #[Z cv,Z arr] W fun r w'=>r=aE (O U (Kn ct st.name st.cols))∧Below W.heap.size W w':=by
 obtain⟨o1,c1,o2,c2,o3,c3,o4,c4,o5,c5,op,xk,xn,xs,s,aa,n8,o6,k6,c6,o7,c7,e,i1,_⟩:=Bb h.is;obtain rfl:=aJ.1 e;exact Ajj ct _ C W h.ic h.leW _ _ _ _ _ _ _ _ _ _ _ _ _ _ _ _ _ _ _ _ _ i1 hf
theorem Azd (h:BkSt ct st C w W cv arr)(hs:st.name.size≤bS):bC aF 100 #[Z cv,Z arr] W fun r w'=>r=aE (O U (Q6 ct st.name st.table st.col))∧Below W.heap.size W w':=by
 obtain⟨o1,c1,o2,c2,o3,c3,o4,c4,o5,c5,op,xk,xn,xs,s,aa,n8,o6,k6,c6,o7,c7,e,_⟩:=Bb h.is;obtain rfl:=aJ.1 e;exact Ao0 ct _ C W h.ic h.leW _ _ _ _ _ _ _ _ _ _ _ _ _ _ _ _ _ _ _ _ hs
theorem Aze (h:BkSt ct st C w W cv arr):bC aF 101 #[Z cv,Z arr] W fun r w'=>r=aE (O U (Ot ct st.name))∧Below W.heap.size W w':=by
 obtain⟨o1,c1,o2,c2,o3,c3,o4,c4,o5,c5,op,xk,xn,xs,s,aa,n8,o6,k6,c6,o7,c7,e,_⟩:=Bb h.is;obtain rfl:=aJ.1 e;exact Aoz ct _ C W h.ic h.leW _ _ _ _ _ _ _ _ _ _ _ _ _ _ _ _ _ _ _ _
theorem Jq.keep {R}{F F'}{w w'}{u}(h:Jq R F w u)(hk:Keeps F w w')(hm:∀k,F k→F' k):Jq R F' w' u:=by
 obtain⟨a,h1,h2,h3⟩:=h;refine⟨a,h1,h2,?_⟩;cases R with
 |error m=>exact h3
 |ok s=>exact⟨h3.1,Ie.mono (fun k _ h=>hm k h) (Ie.keep hk h3.2)⟩
theorem Jq.open {R}{F}{w}{u}(h:Jq R F w u):∃aa m,u=aQ #[Z aa,O U m]∧aa.size=20∧aa.all (·.oneCell')=bF:=by
 obtain⟨a,h1,h2,h3⟩:=h;grind
theorem BkSt.handed {W1:aV}{R:Except Int Stm}{a:Array aO}{m:Int}(h:BkSt ct st C w W cv arr)(h1:Jq R (Fx C W.heap.size) W1 (aQ #[Z a,O U m])):Jq R (Fx C w.heap.size) (W1.setRow (w.heap.size+1+1) a) (aQ #[Z a,O U m]):=by
 have:=h.se.big;have:=h.le;exact h1.keep ((Keeps.refl _ _).row (fun h=>by rcases h with h|h<;>omega) _) fun k h=>h.imp id fun h=>by omega
theorem BkSt.ans (h:BkSt ct st C w W cv arr)(m:Int):Jq (Pd m st) (Fx C w.heap.size) (W.setRow (w.heap.size+1+1) arr) (aQ #[Z arr,O U m]):=by
 refine⟨arr,h.n20,h.one,?_⟩
 by_cases h0:m=0
 ·rw[Pd,if_pos h0,h0];exact⟨rfl,Ie.mono (F':=Fx C w.heap.size) (fun _ _ h=>.inl h) (Ie.keep ((Keeps.refl (fun k=>k<C) W).row (show¬w.heap.size+1+1<C by have:=h.le;omega) arr) h.is)⟩
 ·rw[Pd,if_neg h0]
end
def Ep (ct:CatD)(st:Stm):Except Int Stm:=
 if st.kind=1 then Pd (Kn ct st.name st.cols) st
 else if st.kind=2 then Pd (Q6 ct st.name st.table st.col) st
 else if st.kind=3 then Pd (Ot ct st.name) st
 else if st.kind=4∨st.kind=5∨st.kind=6 then Gm ct st
 else if st.kind=7 then E3 ct st
 else M 1
def Cf (ct:CatD)(st:Stm):Except Int Stm:=if Dv ct=aZ∨Kd st=aZ then M 1 else Ep ct st
theorem Iw {P}{ops}{S}{op}{a}(aa:op.guard=G)(ty)(x)(ho:op.op=.load ty x)(g)(hx:a.eval x=bV (I ⟨g,0,G⟩))(cs)(t)(d)(hS:∀w,S w→w.heap[g]?=I (J cs t (0,0)))
  (hu:P.underlying ty=I d) (hd:(match d with|.struct _|.array _ _=>bF|_=>aZ)=bF) (hi:(P.info? ty).map (·.size)=I cs.size):YieldsIf P ops S op (.agg cs) a:=
 .inl ⟨by simp[cF,aa],fun w ab=>by
  unfold execOp;simp only[ho,hx,Instr.loadAt,Instr.sureAddr,Sem.run_bind,Sem.run_pure,Result.andThen_ok,run_loadVar_row w g t ty cs (0,0) d (hS w ab) hu hd hi]⟩
structure FitB (st:Stm):Prop where
 fs:FitS st
 nm:st.name.size≤bS
 cols:Zy st.cols
 rows:st.rows.length≤16777216
 row:∀r∈st.rows,r.length≤16777216
 sets:st.sets.length≤16777216
 set:∀p∈st.sets,p.1.size≤bS
 out:st.out.length≤16777216
 order:st.order.length≤16777216
 frm:∀s∈st.frm,s.size≤bS
theorem Ao1 {st}(h:Kd st=bF):(∀r∈st.rows,∀a∈r,geB 40 a=bF)∧(∀p∈st.sets,geB 40 p.2=bF)∧(∀a∈st.out,geB 40 a=bF)∧(∀a∈st.order,geB 40 a=bF)∧(st.wher.opn≠0→geB 40 st.wher=bF):=by
 simp only[Kd,Je,Lb,bX,cD,dY,Bool.or_eq_true,decide_eq_true_eq]at h;obtain⟨⟨⟨⟨h1,h2⟩,h3⟩,h4⟩,h5⟩:=h;refine⟨fun r hr a ha=>?_,fun p hp=>?_,fun a ha=>?_,fun a ha=>?_,fun h0=>?_⟩
 ·have:=h1 r hr;simp only[fT,not_exists,not_and]at this;simpa[Lb]using this a ha
 ·grind
 ·grind
 ·grind
 grind
theorem Azf {ct}(h:Dv ct=bF):∀t∈ct.tables,t.cols.length≤1000000:=by
 simp only[Dv,bX,Q3,cD,decide_eq_true_eq]at h;obtain⟨⟨_,h2,_⟩,_⟩:=h;rw[Nl]at h2;intro t ht;have:=(dY.1 h2) t ht;simp only[cD,Bool.not_eq_false,Kr,bX,decide_eq_true_eq]at this;omega
theorem Ao2 {ct}{st}{m}(h:Gm ct st=M m):m=3∨m=4∨m=5:=by
 unfold Gm at h;cases h1:Bv ct.tables st.table with
 |none=>grind
 |some t=>
  rw[h1]at h;simp only at h;cases h2:Iu _ _ with
  |error k=>rw[h2]at h;obtain rfl:=aM h;rcases Ahq h2 with h|h<;>simp[h]
  |ok r=>
   rw[h2]at h;simp only at h;cases h3:Cr t [] _ with
   |error k=>rw[h3]at h;obtain rfl:=aM h;exact Yu h3
   |ok q=>
    rw[h3]at h;simp only at h;cases h4:whR [t] _ with
    |error k=>
     rw[h4]at h;obtain rfl:=aM h;unfold whR at h4;split at h4
     ·grind
     ·rcases Rq h4 with h|h<;>simp[h]
    |ok e=>grind
theorem Ao3 {ct}{st}{m}(h:E3 ct st=M m):m=1∨m=3∨m=4∨m=5:=by
 unfold E3 at h;cases h1:G3 _ _ with
 |error k=>rw[h1]at h;obtain rfl:=aM h;rcases Aec h1 with h|h|h<;>simp[h]
 |ok S=>
  rw[h1]at h;simp only at h;cases h2:Lz S _ with
  |error k=>rw[h2]at h;obtain rfl:=aM h;rcases Al5 h2 with h|h<;>simp[h]
  |ok r=>
   rw[h2]at h;simp only at h;cases h3:I9 S _ with
   |error k=>rw[h3]at h;obtain rfl:=aM h;rcases Ab9 h3 with h|h<;>simp[h]
   |ok q=>
    rw[h3]at h;simp only at h;cases h4:whR S _ with
    |error k=>
     rw[h4]at h;obtain rfl:=aM h;unfold whR at h4;split at h4
     ·grind
     ·rcases Rq h4 with h|h<;>simp[h]
    |ok e=>grind
theorem Aca {k m}{st}(h:Pd k st=M m):m=k∧k≠0:=by
 unfold Pd at h;grind
theorem Ahs {ct}{st}{m}(h:Ep ct st=M m):m=1∨m=3∨m=4∨m=5∨m=8:=by
 unfold Ep at h;split at h
 ·obtain⟨rfl,h0⟩:=Aca h;unfold Kn at h0⊢;omega
 ·split at h
  ·obtain⟨rfl,h0⟩:=Aca h;unfold Q6 at h0⊢;omega
  ·split at h
   ·obtain⟨rfl,h0⟩:=Aca h;unfold Ot at h0⊢;omega
   ·split at h
    ·rcases Ao2 h with h|h|h<;>simp[h]
    ·split at h
     ·rcases Ao3 h with h|h|h|h<;>simp[h]
     grind
theorem Al6 (ct)(v)(st)(cs)(C)(w)(hc:Hq (fun k=>k<C) w ct v)(hR:Ie.R (fun k=>k<C) w st cs)(hC:C≤w.heap.size)(hf:FitB st)(ak:Kd st=bF)(ag:∀t∈ct.tables,t.cols.length≤1000000):
  bC aF 56 #[v,Z cs.toArray] w fun r w'=>(∃u,r=aE u∧Jq (Ep ct st) (Fx C w.heap.size) w' u)∧Below w.heap.size w w':=by
 obtain⟨cv,aa,rfl,rfl,B⟩:=V6 hc hR hC;obtain⟨g1,g2,g3,g4,g5⟩:=Ao1 ak;rw[bW];have ah:Hid _:=B.n20.symm;have k0:=B.kind;have HF:Hid _:=hf;have HB:∃W0,W0=((w.alloc _).alloc _).alloc _∧BkSt ct st C w W0 cv aa:=⟨_,rfl,B⟩;obtain⟨W0,ai,B0⟩:=HB;have ab:Hid _:=ai;clear ai B hc hR hf;go_enter Tryz.func56,Tryz.ntmps56
 by_cases e0:st.kind=1∨st.kind=2∨st.kind=3
 ·rcases e0 with e|e|e
  focus
   have HE:Hid (Ep ct st=Pd (Kn ct st.name st.cols) st):=by show _=_;rw[Ep,if_pos e]
   rw[e]at k0;go_upto_region 3 with fail
  rotate_left
  focus
   have HE:Hid (Ep ct st=Pd (Q6 ct st.name st.table st.col) st):=by show _=_;rw[Ep,if_neg (by omega),if_pos e]
   rw[e]at k0;go_upto_region 5 with fail
  rotate_left
  focus
   have HE:Hid (Ep ct st=Pd (Ot ct st.name) st):=by show _=_;rw[Ep,if_neg (by omega),if_neg (by omega),if_pos e]
   rw[e]at k0;go_upto_region 7 with fail
  all_goals
   rw[←ab.out];refine cP (S:=Below (w.heap.size+1+1) W0) (by rfl) ?_ (fun hHeld=>?_)
   ·exact(aY _ _).drew
   refine eN (i:=0) (v:=Z aa) rfl (by kernel_rfl) (by kernel_rfl) (by kernel_rfl) (fun _ _ _ h=>h) (Iw rfl 50 _ rfl (w.heap.size+1) rfl aa 50 _ (fun _ h=>(fE h _ (by omega)).trans B0.se.stm) aW rfl B0.si) (by assumption) ?_
   try simp only[aH,aB]
   refine eN (i:=1) (v:=Z cv) rfl (by kernel_rfl) (by kernel_rfl) (by kernel_rfl) (fun _ _ _ h=>h) (Iw rfl 62 _ rfl w.heap.size rfl cv 62 _ (fun _ h=>(fE h _ (by omega)).trans B0.cat) bU rfl B0.ci) (by assumption) ?_
   try simp only[aH]
   refine eN (i:=2) (v:=Z aa) rfl (by kernel_rfl) (by kernel_rfl) (by kernel_rfl) (fun _ _ _ h=>h) (Iw rfl 50 _ rfl (w.heap.size+1) rfl aa 50 _ (fun _ h=>(fE h _ (by omega)).trans B0.se.stm) aW rfl B0.si) (by assumption) ?_
   try simp only[aH]
   refine Bi 3 (fun K hK=>?_);go_simp
   (first|go_fit(Ass (B0.below (aY _ _).drew) ⟨HF.out.nm,HF.out.cols⟩)|go_fit(Azd (B0.below (aY _ _).drew) HF.out.nm)|go_fit(Aze (B0.below (aY _ _).drew)))
   rintro e w1 ⟨rfl,ac⟩;have B1:=(B0.below (aY _ _).drew).below ac;go_wp2_with fail;refine hK.out _ _ ?_ (fun hHeld=>?_)
   ·exact(aY _ _).drew.trans (ac.mono (by have:=B0.se.big;show _≤W0.heap.size;omega))
   clear hK K
   try simp only[aH,aB,aC,aD]
   refine Bi 4 (fun K hK=>?_);refine Hx rfl 50 _ _ rfl (w.heap.size+1+1) aa ?_ ?_ 50 Bn ?_ ?_ ?_ ?_ ?_;exact rfl;exact rfl;exact B1.se.room;exact B1.si;exact ah.out;exact B1.one;refine hK.out _ _ ?_ (fun hHeld=>?_)
   ·exact Below.row ((aY _ _).drew.trans (ac.mono (by have:=B0.se.big;show _≤W0.heap.size;omega))) (aT _) _
   clear hK K
   try simp only[aH]
   refine tkd 5 5 ?_
   try simp only[aH,aB]
   refine cY (by kernel_rfl) ?_ _;go_wp2_with fail;refine aS (Dq dH _ _ _ 50 aa _ _ _ rfl rfl (Ao B1.se.room) aW rfl B1.si) rfl ⟨⟨_,rfl,?_⟩,Below.row B1.se.bel (by omega) _⟩;rw[HE.out];exact B1.ans _
 rw[not_or,not_or]at e0;obtain⟨e1,e2,e3⟩:=e0;have q1:(st.kind==1)=aZ:=by simpa using e1
 have q2:(st.kind==2)=aZ:=by simpa using e2
 have q3:(st.kind==3)=aZ:=by simpa using e3
 by_cases e4:st.kind=4∨st.kind=5∨st.kind=6
 ·have HE:Hid (Ep ct st=Gm ct st):=by show _=_;rw[Ep,if_neg e1,if_neg e2,if_neg e3,if_pos e4]
  have HH:=Aga ct _ st _ C W0 B0.ic B0.is B0.leW g1 g2 g5 HF.out.rows HF.out.row HF.out.sets HF.out.set ag;rw[bW]at HH;have BC:=B0.cat;have BS:=B0.se.stm;rw[ab.out]at BC BS;rcases e4 with e4|e4|e4
  all_goals
   rw[e4]at k0;go_wp2_with(first|(refine bH rfl 62 _ rfl _ ?_ 62 _ _ _ BC bU ?_ ?_ ?_;exact rfl;exact rfl;exact B0.ci)|(refine bH rfl 50 _ rfl _ ?_ 50 _ _ _ BS aW ?_ ?_ ?_;exact rfl;exact rfl;exact B0.si)|(go_at_call 102;rw[←ab.out];go_fit HH;rintro e w1 ⟨⟨u,rfl,hu⟩,ac⟩;obtain⟨a,m,rfl,ad,ae⟩:=hu.open;have B1:=B0.below ac;have af:Hid _:=ad.symm)|(refine aR rfl 50 _ _ rfl (w.heap.size+1+1) a ?_ ?_ 50 Bn ?_ ?_ ?_ ?_ ?_;exact rfl;exact rfl;exact B1.se.room;exact No ad;exact af.out;exact ae));refine aS (Dq dH _ _ _ 50 a _ _ _ rfl rfl (Ao B1.se.room) aW rfl (No ad)) rfl ⟨⟨_,rfl,?_⟩,Below.row B1.se.bel (by omega) _⟩;rw[HE.out];exact B0.handed hu
 have q4:(st.kind==4)=aZ:=by simp;omega
 have q5:(st.kind==5)=aZ:=by simp;omega
 have q6:(st.kind==6)=aZ:=by simp;omega
 by_cases e7:st.kind=7
 ·have HE:Hid (Ep ct st=E3 ct st):=by show _=_;rw[Ep,if_neg e1,if_neg e2,if_neg e3,if_neg e4,if_pos e7]
  rw[e7]at k0;have HH:=Agb ct _ st _ C W0 B0.ic B0.is B0.leW g3 g4 g5 HF.out.out HF.out.order HF.out.frm ag;rw[bW]at HH;have BC:=B0.cat;have BS:=B0.se.stm;rw[ab.out]at BC BS;go_wp2_with(first|(refine bH rfl 62 _ rfl _ ?_ 62 _ _ _ BC bU ?_ ?_ ?_;exact rfl;exact rfl;exact B0.ci)|(refine bH rfl 50 _ rfl _ ?_ 50 _ _ _ BS aW ?_ ?_ ?_;exact rfl;exact rfl;exact B0.si)|(go_at_call 103;rw[←ab.out];go_fit HH;rintro e w1 ⟨⟨u,rfl,hu⟩,ac⟩;obtain⟨a,m,rfl,ad,ae⟩:=hu.open;have B1:=B0.below ac;have af:Hid _:=ad.symm)|(refine aR rfl 50 _ _ rfl (w.heap.size+1+1) a ?_ ?_ 50 Bn ?_ ?_ ?_ ?_ ?_;exact rfl;exact rfl;exact B1.se.room;exact No ad;exact af.out;exact ae));refine aS (Dq dH _ _ _ 50 a _ _ _ rfl rfl (Ao B1.se.room) aW rfl (No ad)) rfl ⟨⟨_,rfl,?_⟩,Below.row B1.se.bel (by omega) _⟩;rw[HE.out];exact B0.handed hu
 have q7:(st.kind==7)=aZ:=by simpa using e7
 have HE:Hid (Ep ct st=M 1):=by show _=_;rw[Ep,if_neg e1,if_neg e2,if_neg e3,if_neg e4,if_neg e7]
 have BS:=B0.se.stm;have BR:=B0.se.room;rw[ab.out]at BS BR;have aj:=B0.si;clear e1 e2 e3 e4 e7;go_wp2_with(first|(refine bH rfl 50 _ rfl _ ?_ 50 _ _ _ BS aW ?_ ?_ ?_;exact rfl;exact rfl;exact aj)|(refine aR rfl 50 _ _ rfl (w.heap.size+1+1) aa ?_ ?_ 50 Bn ?_ ?_ ?_ ?_ ?_;exact rfl;exact rfl;exact BR;exact aj;exact ah.out;exact B0.one));rw[←ab.out];refine aS (Dq dH _ _ _ 50 aa _ _ _ rfl rfl (Ao B0.se.room) aW rfl B0.si) rfl ⟨⟨_,rfl,?_⟩,Below.row B0.se.bel (by omega) _⟩;rw[HE.out];exact⟨aa,B0.n20,B0.one,rfl⟩
theorem Al7 {α}(l)(q:α→Bool):B6 (atI l q) 0 l.length=l.any q:=by
 rw[Zt];rcases Oc l q with⟨h1,h2⟩|⟨k,x,h1,h2,h3,h4⟩
 ·grind
 grind
theorem Aed (p):∀(n i:Nat),B6 p (i+1) n=B6 (fun j=>p (j+1)) i n
 |0,i=>rfl
 |n+1,i=>by rw[B6,B6,Aed p n _]
theorem Ast (a b)(l):Id (a::b::l)=(klt a b&&Id (b::l)):=by
 have e:Ef (a::b::l) 0= !klt a b:=rfl;have e2:(fun j=>Ef (a::b::l) (j+1))=Ef (b::l):=by funext j;simp[Ef]
 simp only[Id,cV,Nat.add_sub_cancel];rw[B6,Aed,e,e2];simp
theorem Aht:∀(l:List Wd),Id l=bF↔Cd l
 |[]=>⟨fun _=>List.Pairwise.nil,fun _=>rfl⟩
 |[a]=>⟨fun _=>List.pairwise_singleton _ _,fun _=>rfl⟩
 |a::b::l=>by
  rw[Ast,bX,Aht _];constructor
  ·rintro⟨h1,h2⟩;refine bL.2 ⟨fun x hx=>?_,h2⟩;rcases cG.1 hx with rfl|hx
   ·omega
   ·exact Co h1 ((bL.1 h2).1 x hx)
  simp_all
theorem Cw (c):Dv c=bF↔c.tables.length≤3∧c.indexes.length≤4∧(∀t∈c.tables,Kr t=bF)∧Cd (c.tables.map TabD.name)∧(∀x∈c.indexes,Kc c.tables x=aZ)∧Cd (c.indexes.map IdxD.name):=by
 simp only[Dv,Q3,Tf,bX,decide_eq_true_eq,Al7,cD,dY,Aht];grind
theorem Z4 {α:Type}{nm:α→Wd}:∀{l:List α},Cd (l.map nm)→∀{x y:α},x∈l→y∈l→nm x=nm y→x=y
 |[],_,_,_,hx,_,_=>by grind
 |a::l,h,x,y,hx,hy,e=>by
  have h1:=(bL.1 h).1;have h2:Cd _:=(bL.1 h).2;rcases cG.1 hx with rfl|hx'
  ·rcases cG.1 hy with rfl|hy'
   ·rfl
   ·exact absurd e (F3 (h1 _ (dM hy')))
  ·rcases cG.1 hy with rfl|hy'
   ·exact absurd e.symm (F3 (h1 _ (dM hx')))
   ·exact Z4 h2 hx' hy' e
theorem Np {T}(hr:Cd (T.map TabD.name)){s}{u}:Bv T s=I u↔u∈T∧u.name=s:=by
 constructor
 ·intro h;exact⟨bY h,by have:=gA h;grind⟩
 ·rintro⟨h1,rfl⟩;cases h:Bv T _ with
  |none=>have:=List.find?_eq_none.1 h u h1;grind
  |some v=>
   have hn:=gA h;simp only[decide_eq_true_eq]at hn;rw[Z4 hr (bY h) h1 hn]
theorem A40 {T}{s}:Bv T s=G↔∀t∈T,t.name≠s:=by
 unfold Bv;simp
theorem A5d {α}{nm}{l}{x y:α}:y∈Eh nm l x↔y=x∨y∈l:=by
 simp only[Eh,List.mem_append,cG,bB,cD];grind
theorem Mc {α}{nm}{l}{x:α}:(Eh nm l x).length=l.length+1:=by
 simp only[Eh,aN,cV];have h:∀m:List α,(m.filter fun y=>klt (nm y) (nm x)).length+(m.filter fun y=>!klt (nm y) (nm x)).length=m.length:=by
  intro m
  induction m with
  |nil=>rfl
  |cons a m ih=>
   grind
 grind
theorem Yv {α}{nm:α→Wd}{l}{x}(hr:Cd (l.map nm))(hn:∀y∈l,nm y≠nm x):Cd ((Eh nm l x).map nm):=by
 have aa:∀p,Cd ((l.filter p).map nm):=fun p=>cO (dI _ dO) hr
 rw[Eh,cJ,eS];refine Gu.2 ⟨aa _,bL.2 ⟨fun b hb=>?_,aa _⟩,fun a ha b hb=>?_⟩
 ·obtain⟨y,hy,rfl⟩:=bP.1 hb;obtain⟨ac,ab⟩:=bB.1 hy;rcases Ji (by grind:klt (nm y) (nm x)=aZ)with e|e
  ·grind
  omega
 ·obtain⟨y,hy,rfl⟩:=bP.1 ha;obtain⟨ac,ab⟩:=bB.1 hy;rcases cG.1 hb with rfl|hb
  ·omega
  ·obtain⟨z,hz,rfl⟩:=bP.1 hb;obtain⟨ad,ae⟩:=bB.1 hz;exact Rv ab (by grind)
theorem Aa5 {T T'}{x}(h:Kc T x=aZ)(hk:∀u,Bv T x.table=I u→Bv T' x.table=I u):Kc T' x=aZ:=by
 unfold Kc at h⊢;simp only[Bool.or_eq_false_iff,Bool.not_eq_false']at h⊢;refine⟨h.1,?_⟩;have h2:=h.2;unfold Ks at h2⊢;grind
theorem Fe {ct}{st b}(h:Cf ct st=.ok b):Dv ct=bF∧Kd st=bF∧Ep ct st=.ok b:=by
 unfold Cf at h;grind
theorem Ik {m}{st b}(h:Pd m st=.ok b):m=0∧b=st:=by
 unfold Pd at h;grind
theorem G4 {ct}{st b}(h:Cf ct st=.ok b):b.kind=st.kind∧b.name=st.name∧b.table=st.table∧b.col=st.col∧b.cols=st.cols∧1≤st.kind∧st.kind≤7:=by
 obtain⟨_,_,h⟩:=Fe h;unfold Ep at h;split at h
 ·obtain⟨_,rfl⟩:=Ik h;grind
 split at h
 ·obtain⟨_,rfl⟩:=Ik h;grind
 split at h
 ·obtain⟨_,rfl⟩:=Ik h;grind
 split at h
 ·have hk:1≤st.kind∧st.kind≤7:=by omega
  unfold Gm at h;grind
 split at h
 ·have hk:1≤st.kind∧st.kind≤7:=by omega
  unfold E3 at h;grind
 grind
theorem Yw {ct}{st b}(h:Cf ct st=.ok b):Dv (A8 ct b)=bF∧(st.kind=1→(Bv (A8 ct b).tables st.name).isSome=bF)∧(st.kind=3→Bv (A8 ct b).tables st.name=G)∧
  (st.kind=1→¬ct.tables.length=(A8 ct b).tables.length)∧(st.kind=2→ct.tables.length=(A8 ct b).tables.length∧¬ct.indexes.length=(A8 ct b).indexes.length)∧(st.kind=3→¬ct.tables.length=(A8 ct b).tables.length)∧
  (3<st.kind→ct.tables.length=(A8 ct b).tables.length∧ct.indexes.length=(A8 ct b).indexes.length):=by
 obtain⟨hk,ac,ad,ae,af,h1,h7⟩:=G4 h;obtain⟨hg,_,hb⟩:=Fe h;obtain⟨g1,g2,g3,g4,g5,g6⟩:=(Cw ct).1 hg;unfold A8;rw[hk,ac,ad,ae,af];unfold Ep at hb
 by_cases k1:st.kind=1
 ·rw[if_pos k1]at hb;rw[if_pos k1];obtain⟨hc,_⟩:=Ik hb;unfold Kn at hc;split at hc
  ·omega
  rename_i c1;split at hc
  ·omega
  rename_i c2;split at hc
  ·omega
  rename_i c3;have ab:∀y∈ct.tables,y.name≠st.name:=A40.1 (by simp_all);have aa:Cd ((Eh _ ct.tables ⟨st.name,st.cols⟩).map _):=Yv g4 ab;have ah:Kr ⟨st.name,st.cols⟩=bF:=by cases hq:Kr ⟨st.name,st.cols⟩<;>simp_all
  refine⟨(Cw _).2 ⟨by simp only[Mc];omega,g2,?_,aa,?_,g6⟩,fun _=>?_,fun h3=>by omega,fun _=>by simp only[Mc];omega,fun h=>by omega,fun h=>by omega,fun h=>by omega⟩
  ·intro t ht;rcases A5d.1 ht with rfl|ht
   ·omega
   grind
  ·intro x hx;refine Aa5 (g5 x hx) fun u hu=>?_
   obtain⟨q1,q2⟩:=(Np g4).1 hu;exact(Np aa).2 ⟨A5d.2 (.inr q1),q2⟩
  ·rw[(Np aa).2 ⟨A5d.2 (.inl rfl),rfl⟩];rfl
 rw[if_neg k1]at hb;rw[if_neg k1]
 by_cases k2:st.kind=2
 ·rw[if_pos k2]at hb;rw[if_pos k2];obtain⟨hc,_⟩:=Ik hb;unfold Q6 at hc;split at hc
  ·omega
  rename_i c1;split at hc
  ·omega
  rename_i c2;split at hc
  ·omega
  rename_i c3;split at hc
  ·omega
  rename_i c4;rw[Al7]at c3;have ab:∀y∈ct.indexes,y.name≠st.name:=fun y hy e=>c3 (fT.2 ⟨y,hy,by simp[V0,e]⟩)
  have aa:Cd ((Eh _ ct.indexes ⟨st.name,st.table,st.col⟩).map _):=Yv g6 ab;refine⟨(Cw _).2 ⟨g1,by simp only[Mc];omega,g3,g4,?_,aa⟩,fun h3=>by omega,fun h3=>by omega,fun h=>by omega,fun _=>⟨rfl,by simp only[Mc];omega⟩,fun h=>by omega,fun h=>by omega⟩;intro x hx;rcases A5d.1 hx with rfl|hx
  ·unfold Kc;grind
  grind
 rw[if_neg k2]at hb;rw[if_neg k2]
 by_cases k3:st.kind=3
 ·rw[if_pos k3]at hb;rw[if_pos k3];obtain⟨hc,_⟩:=Ik hb;unfold Ot at hc;split at hc;rotate_left
  ·omega
  rename_i c1;obtain⟨u,hu⟩:=eJ.1 c1;obtain⟨u1,u2⟩:=(Np g4).1 hu;have aa:Cd ((ct.tables.filter fun t=>!decide (t.name=st.name)).map _):=cO (dI _ dO) g4;refine⟨(Cw _).2 ⟨aA (dG _ _) g1,aA (dG _ _) g2,fun t ht=>g3 t (bB.1 ht).1,aa,?_,cO (dI _ dO) g6⟩,fun h3=>by omega,fun _=>?_,fun h=>by omega,fun h=>by omega,fun _ hh=>?_,fun h=>by omega⟩
  ·intro x hx;obtain⟨ag,ai⟩:=bB.1 hx;refine Aa5 (g5 x ag) fun v hv=>?_
   obtain⟨q1,q2⟩:=(Np g4).1 hv;exact(Np aa).2 ⟨bB.2 ⟨q1,by grind⟩,q2⟩
  ·exact A40.2 fun t ht=>by grind
  ·have aj:=List.length_filter_eq_length_iff.1 hh.symm u u1;grind
 grind
end
end Go.Proofs.YtocegbpmmiabmaaGreatDoor
namespace Go.Proofs
open Go.Shelf
def Tryz.laysSort_ren:eL:=⟨fun|190=>244|125=>209|258=>308|128=>271|129=>272|302=>344|303=>345|304=>346|305=>347|306=>348|307=>349|308=>305|309=>350|310=>351|333=>373|329=>325|330=>326|334=>374|335=>375|336=>236|344=>378|n=>n,fun|31=>43|9=>9|3=>3|46=>265|0=>0|51=>319|53=>321|4=>4|183=>313|182=>312|131=>224|5=>5|218=>356|222=>360|228=>383|229=>384|n=>n,fun|n=>n⟩
theorem Tryz.laysSort:Go.Proofs.Lays.n190 aF Tryz.laysSort_ren:={
 mixed:=by kernel_rfl
 f125:=sF Tryz.func209
 f128:=sF Tryz.func271
 f129:=sF Tryz.func272
 f190:=sF Tryz.func244
 f258:=sF Tryz.func308
 f302:=sF Tryz.func344
 f303:=sF Tryz.func345
 f304:=sF Tryz.func346
 f305:=sF Tryz.func347
 f306:=sF Tryz.func348
 f307:=sF Tryz.func349
 f308:=sF Tryz.func305
 f309:=sF Tryz.func350
 f310:=sF Tryz.func351
 f329:=sF Tryz.func325
 f330:=sF Tryz.func326
 f333:=sF Tryz.func373
 f334:=sF Tryz.func374
 f335:=sF Tryz.func375
 f336:=sF Tryz.func236
 f344:=sF Tryz.func378
 t0:=fR
 a0:=Tryz.isAgg0
 z0:=Tryz.sizeOf0
 v0:=fX
 t3:=eC
 a3:=fH
 z3:=eW
 v3:=eF
 t4:=eB
 a4:=fG
 z4:=eV
 v4:=eE
 t5:=Tryz.underlying5
 a5:=Tryz.isAgg5
 z5:=Tryz.sizeOf5
 v5:=Tryz.zeroValue5
 t9:=eA
 a9:=fF
 z9:=eU
 v9:=eD
 t31:=cQ
 a31:=Tryz.isAgg43
 z31:=Tryz.sizeOf43
 v31:=fQ
 t46:=Tryz.underlying265
 a46:=Tryz.isAgg265
 z46:=Tryz.sizeOf265
 v46:=Tryz.zeroValue265
 t51:=Tryz.underlying319
 a51:=Tryz.isAgg319
 z51:=Tryz.sizeOf319
 v51:=Tryz.zeroValue319
 t53:=Tryz.underlying321
 a53:=Tryz.isAgg321
 z53:=Tryz.sizeOf321
 v53:=Tryz.zeroValue321
 t131:=Tryz.underlying224
 a131:=Tryz.isAgg224
 z131:=Tryz.sizeOf224
 v131:=Tryz.zeroValue224
 t182:=Tryz.underlying312
 a182:=Tryz.isAgg312
 z182:=Tryz.sizeOf312
 v182:=Tryz.zeroValue312
 t183:=Tryz.underlying313
 a183:=Tryz.isAgg313
 z183:=Tryz.sizeOf313
 v183:=Tryz.zeroValue313
 t218:=Tryz.underlying356
 a218:=Tryz.isAgg356
 z218:=Tryz.sizeOf356
 v218:=Tryz.zeroValue356
 t222:=Tryz.underlying360
 a222:=Tryz.isAgg360
 z222:=Tryz.sizeOf360
 v222:=Tryz.zeroValue360
 t228:=Tryz.underlying383
 a228:=Tryz.isAgg383
 z228:=Tryz.sizeOf383
 v228:=Tryz.zeroValue383
 t229:=Tryz.underlying384
 a229:=Tryz.isAgg384
 z229:=Tryz.sizeOf384
 v229:=Tryz.zeroValue384}
def Tryz.laysCompact_ren:eL:=⟨fun|194=>245|n=>n,fun|31=>43|9=>9|3=>3|4=>4|0=>0|n=>n,fun|n=>n⟩
theorem Tryz.laysCompact:Go.Proofs.Lays.n194 aF Tryz.laysCompact_ren:={
 mixed:=by kernel_rfl
 f194:=sF Tryz.func245
 t0:=fR
 a0:=Tryz.isAgg0
 z0:=Tryz.sizeOf0
 v0:=fX
 t3:=eC
 a3:=fH
 z3:=eW
 v3:=eF
 t4:=eB
 a4:=fG
 z4:=eV
 v4:=eE
 t9:=eA
 a9:=fF
 z9:=eU
 v9:=eD
 t31:=cQ
 a31:=Tryz.isAgg43
 z31:=Tryz.sizeOf43
 v31:=fQ}
def Tryz.laysCut_ren:eL:=⟨fun|103=>243|210=>307|206=>343|n=>n,fun|9=>9|4=>4|24=>255|3=>3|n=>n,fun|n=>n⟩
theorem Tryz.laysCut:Go.Proofs.Lays.n103 aF Tryz.laysCut_ren:={
 mixed:=by kernel_rfl
 f103:=sF Tryz.func243
 f206:=sF Tryz.func343
 f210:=sF Tryz.func307
 t3:=eC
 a3:=fH
 z3:=eW
 v3:=eF
 t4:=eB
 a4:=fG
 z4:=eV
 v4:=eE
 t9:=eA
 a9:=fF
 z9:=eU
 v9:=eD
 t24:=Tryz.underlying255
 a24:=Tryz.isAgg255
 z24:=Tryz.sizeOf255
 v24:=Tryz.zeroValue255}
end Go.Proofs
namespace Go.Proofs.YtocegbpmmiabmaaGreatDoor
section
open Go.RowKit
open Go.Sort (Holds holds_grow holds_putRow holds_ahead grow grow_empty heap_grow_old heap_ahead)
def Q7 (L:List ByteArray):List (List UInt8):=(L.map fun s=>s.data.toList).mergeSort fun x y=>decide (x≤y)
def J6 (L:List ByteArray):List ByteArray:=(bG (Q7 L)).map str
theorem Asu {w}{g}{L:List ByteArray}(hc:∀(j:Nat) (u:aO),(L.map Value.string)[j]?=I u→w.cell? ⟨g,0+j,G⟩=I u)(hf:∀j,w.frozen? ⟨g,0+j,G⟩=aZ):Holds fB w g 0 (L.map fun s=>s.data.toList).toArray:=by
 intro j hj;simp_all
theorem Ahu {B}{w}{g}(hB:B≤g)(hw:B≤w.heap.size)(n)(d)(os):eR B w (grow (fP fB (fU w n) g 0 d) os):=by
 refine⟨rfl,rfl,rfl,by simp,fun k hk=>?_⟩;rw[heap_grow_old _ _ (by simp;omega)];simp only[fP,Go.Sort.mapBlock,heap_ahead,dF];grind
theorem Azg (L)(g cap B)(w)(hH:Holds fB w g 0 (L.map fun s=>s.data.toList).toArray)(hg:g<w.heap.size)(hB:B≤g)(hl:L.length≤1000000):
  bC aF 244 #[D (I ⟨g,0,G⟩) L.length cap] w fun e w'=>e=aE (aQ #[])∧Holds fB w' g 0 (Q7 L).toArray∧g<w'.heap.size∧eR B w w':=by
 have h:=Any.slices_Sort_string Tryz.laysSort g 0 cap _ w hH hg (by grind);rw[bN]at h;refine h.mono ?_;rintro e w' ⟨rfl,n,os,rfl⟩;refine⟨rfl,holds_grow _ _ _ _ _ _ (by simp_all) (holds_putRow _ _ _ _ _ _ (holds_ahead _ _ _ _ _ _ hH) (by simp)),by simp;omega,Ahu hB (by omega) _ _ _⟩
theorem Ao4 (zs:List (List UInt8))(g cap B:Nat)(w:aV)(hH:Holds fB w g 0 zs.toArray)(hg:g<w.heap.size)(hB:B≤g)(hl:zs.length≤1000000)(ab:zs.length≤cap)(ac:cap≤bS):
  bC aF 245 #[D (I ⟨g,0,G⟩) zs.length cap] w fun e w'=>∃v,e=aE v∧An w' v ((bG zs).map str)∧eR B w w':=by
 refine(Any.slices_Compact_string Tryz.laysCompact g 0 cap zs w hH (by omega) ab).mono ?_;rintro e w' ⟨rfl,q,rfl⟩;have ad:(bG zs).length≤zs.length:=by
  unfold bG Lib.compactUpTo;rw[bN];exact aA (dG _ _) (by simp)
 refine⟨_,rfl,⟨by simp,?_⟩,?_⟩
 ·rcases Nat.eq_zero_or_pos (bG zs).length with h0|h0
  ·exact .inl ⟨by grind,_,cap,by rw[h0],fun h=>by grind⟩
  ·refine .inr ⟨by simpa using h0,g,0,cap,by simp,by simpa using hg,by simp;omega,ac,?_⟩;intro j u hj;have aa:j<(bG zs).length:=by have:=(bZ.1 hj).1;simpa using this
   obtain⟨c1,_⟩:=(holds_putRow fB (fU w q) g 0 zs.toArray (bG zs++List.replicate (zs.length-(bG zs).length) []).toArray (holds_ahead _ _ _ _ _ _ hH) (by simp;omega)) j (by simp;omega);rw[c1];rw[List.map_map,List.getElem?_map,aG aa]at hj;simp only[Option.map_some,Function.comp,Option.some.injEq]at hj;rw[←hj,getElem!_pos _ j (by simp;omega)];simp only[List.getElem_toArray];rw[List.getElem_append_left aa];rfl
 ·have:=Ahu (w:=w) hB (by omega) q (bG zs++List.replicate (zs.length-(bG zs).length) []).toArray #[];simp_all
end
section
open Go.RowKit
section
variable {α:Type} [Inhabited α] [DecidableEq α]
theorem Ao5 (zs:List α):∀j,j<zs.length→zs.toArray[j]! ∈bG zs:=by
 intro j
 induction j with
 |zero=>
  intro h;exact bP.2 ⟨0,bB.2 ⟨eK.2 h,Lib.keeps_lt_one _ 0 (by omega)⟩,rfl⟩
 |succ j ih=>
  intro h
  by_cases he:zs.toArray[j+1]! =zs.toArray[j+1-1]!
  ·grind
  ·exact bP.2 ⟨_,bB.2 ⟨eK.2 h,Lib.keeps_pos he⟩,rfl⟩
theorem Aa6 (zs:List α)(y:α):y∈bG zs↔y∈zs:=by
 constructor
 ·intro h;obtain⟨j,hj,rfl⟩:=bP.1 h;grind
 ·intro h;obtain⟨j,hj,rfl⟩:=dN h;have:=Ao5 zs j hj;grind
theorem Ajk (zs:List α)(le:α→α→Prop)(anti:∀a b,le a b→le b a→a=b)(hs:zs.Pairwise le)(hr:∀a,le a a):(bG zs).Nodup:=by
 have aa:∀i j,i≤j→j<zs.length→le zs.toArray[i]! zs.toArray[j]! :=by
  intro i j ab hj;rw[getElem!_pos _ i (by grind),getElem!_pos _ j (by omega)];rcases Nat.eq_or_lt_of_le ab with rfl|h
  ·exact hr _
  ·exact List.pairwise_iff_getElem.1 hs i j _ hj h
 unfold bG Lib.compactUpTo;rw[List.Nodup,fN];refine List.Pairwise.imp_of_mem ?_ (List.Pairwise.filter _ (List.pairwise_lt_range (n:=zs.length)));intro i j hi hj ab he;have ac:=eK.1 (bB.1 hj).1;have hk:=(bB.1 hj).2;have h1:=aa i (j-1) (by omega) (by omega);rw[he]at h1;rw[Lib.keeps_neg (by omega) (anti _ _ h1 (aa (j-1) j (by omega) ac))]at hk;grind
end
theorem Ahv (L)(y):y∈J6 L↔y∈L:=by
 unfold J6;rw[bP];constructor
 ·rintro⟨a,ha,rfl⟩;rw[Aa6,Q7,fK,bP]at ha;obtain⟨s,hs,rfl⟩:=ha;exact hs
 ·intro h;refine⟨y.data.toList,?_,rfl⟩;rw[Aa6,Q7,fK,bP];grind
theorem A11 {a b}(h:str a=str b):a=b:=by
 have:=congrArg (fun s=>s.data.toList) h;assumption
theorem Ao6 (L):(J6 L).Nodup:=by
 unfold J6;rw[List.Nodup,fN];have hs:(Q7 L).Pairwise (fun a b=>a≤b):=by
  have:=List.pairwise_mergeSort (le:=fun x y:List UInt8=>decide (x≤y)) (fun a b c h1 h2=>by grind) (fun a b=>by grind) (L.map fun s=>s.data.toList);exact this.imp fun h=>by grind
 exact(Ajk _ _ (fun a b=>List.le_antisymm) hs (fun a=>List.le_refl a)).imp fun h e=>h (A11 e)
def Hr (T:List Pg)(K:List Wd):List Wd:=K.filterMap (Hz (flat T))
theorem Avs {T}{K:List Wd}{k}{x:Wd}(h:K[k]?=I x):Hr T (K.take (k+1))=Hr T (K.take k)++(Hz (flat T) x).toList:=by
 rw[aX,h];simp only[Hr,fD,dL];rfl
theorem Aa7 (T)(K):(Hr T K).length≤K.length:=eT _ _
theorem Aee (T:List Pg)(pv kv:aO)(K:List Wd)(w:aV)(hp:Bj w pv T)(hg:As T)(hT:T.length≤100000)(hK:An w kv K)(hl:K.length≤1000000):
  bC aF 183 #[pv,kv] w fun e w'=>∃tv,e=aE tv∧An w' tv (Hr T K)∧Below w.heap.size w w':=by
 obtain⟨az,rfl,ag⟩:=hp;obtain⟨po,pc,rfl⟩:=Ct ag;obtain⟨ko,kc,rfl⟩:=Ex.shape hK;obtain⟨i0,al,am,an,ap⟩:=cK Kg;obtain⟨ac,bT,-⟩:=al1 w (J #[D po T.length pc] 65);generalize hW:w.alloc (J #[D po T.length pc] 65)=W1 at ac bT;have HP:Hid (Ba W1 (D po T.length pc) T):=ag.below ac;have aq:Hid _:=hK.below ac;have HW:Hid _:=hW;clear hW ag hK;go_enter Tryz.func183,Tryz.ntmps183;go_upto_region 1 with fail;rw[HW.out];go_wp2
 go_loopw[5,12] (fun zv i wr=>∃k:Nat,k≤K.length∧i=O U k∧wr.ownsRow W1.heap.size 9 1 zv (Hr T (K.take k)).length ((Hr T (K.take k)).map Y)∧Below W1.heap.size W1 wr) (fun _ i _=>K.length-(bQ i).toNat)
 case atStart=>exact⟨0,bK _,rfl,dT _ _ _ _,aY _ _⟩
 case round=>
  obtain⟨k,hk,rfl,ad,aa⟩:=hrel
  by_cases ar:k<K.length
  ·obtain⟨x,hx⟩:∃x,K[k]?=I x:=⟨_,aG ar⟩;obtain⟨b,ba,cap,au,hb,_,_,aj⟩:=An.at aq.out (by omega);cases au;have d0:=(aa.cell hb).trans (aj k x hx);have HG:=Akj T _ x wr ⟨_,rfl,Ba.below HP.out aa⟩ hg (by omega);have af:Hid (Hr T _=Hr T _++(Hz _ x).toList):=Avs hx;have v0:(0:Int)≤k:=by omega
   have v1:k<(K.length:Int):=by omega
   have ah:=aa.size;have t0:=Aa ((aa.block _ (aP bT)).trans bT) (j:=0) rfl;have bb:(Hr T (K.take k)).length≤1000000:=aA (Aa7 _ _) (by grind);clear hx aj;cases ab:Hz _ x with
   |none=>
    have E2:Hid (Hr T (K.take (k+1))=Hr T (K.take k)):=by show _=_;rw[af.out,ab];simp
    rw[ab]at HG;simp only[Acx,Option.getD_none,Option.isSome_none]at HG;clear ab af;go_wp2_with(go_fit HG;rintro e w2 ⟨rfl,ae⟩);go_roundw
    case rel=>exact⟨k+1,by omega,by go_num,by rw[E2.out];exact Ak ad ae,aa.trans (ae.mono ah)⟩
    case measure=>simp[bQ];omega
   |some y=>
    have E2:Hid (Hr T (K.take (k+1))=Hr T (K.take k)++[y]):=by show _=_;rw[af.out,ab];rfl
    rw[ab]at HG;simp only[Acx,Option.getD_some,Option.isSome_some]at HG;clear ab af;go_wp2_with(first
     |(go_fit HG;rintro e w2 ⟨rfl,ae⟩;have ai:Below wr.heap.size wr (w2.alloc (J [Y y].toArray 9)):=ae.alloc ae.size _;have ak:W1.heap.size≤(w2.alloc (J [Y y].toArray 9)).heap.size:=aA ah ai.size)
     |(at_builtin;go_must(refine cM _ rfl _ _ 43 rfl W1.heap.size 9 i0 (Y ⟨#[]⟩) 1 16 cQ al am an ap rfl (by decide) _ _ _ rfl (Ak ad ai) ⟨w2.heap.size,0,G⟩ 1 1 [.string y] rfl rfl (Cb w2 [.string y] 9) ?h1 (by simp only[bS];omega) (by omega) ak ?h2)))
    case h1=>simp only[cH];repeat(first|exact fun _ h=>absurd h cU|refine⟨rfl,?_⟩)
    case h2=>
     intro z2 w4 av aw _ _;have ax:Below W1.heap.size W1 w4:=(aa.trans (ai.mono ah)).grown aw ak fun k hk=>(ad.lt k hk).1
     go_wp2_with fail;go_roundw
     case rel=>exact⟨k+1,by omega,by go_num,by rw[E2.out,aN,cJ];exact av,ax⟩
     case measure=>simp[bQ];omega
  ·have ay:k=K.length:=by omega
   subst ay;have v1:¬(K.length<(K.length:Int)):=by omega
   rw[bE]at ad;go_wp2;go_ret;exact⟨_,rfl,Ex.of_own ad,ac.trans (aa.mono ac.size)⟩
def V8 (ix key:Wd):Wd:=⟨(eM key.data.toList (Hl ix).data.toList).toArray⟩
def V9 (t ix key:Wd):Option Wd:=
 if Lib.hasPrefix key.data.toList (Hl ix).data.toList=bF then
  match vals (V8 ix key).data.toList with
  |some L=>if L.length=2 then I (H8 t (L.getD 1 zero))else G
  |none=>G
 else G
def rk1 (t ix:Wd)(K:List Wd):List Wd:=K.filterMap (V9 t ix)
theorem Azh {t ix}{K:List Wd}{k}{x}(h:K[k]?=I x):rk1 t ix (K.take (k+1))=rk1 t ix (K.take k)++(V9 t ix x).toList:=by
 rw[aX,h];simp only[rk1,fD,dL];rfl
theorem Q8 (t ix)(K):(rk1 t ix K).length≤K.length:=eT _ _
theorem Asv (ix key):(V8 ix key).size≤key.size:=by
 show(eM _ _).toArray.size≤key.data.size;rw[fM,eM];grind
theorem Avt {v}(h:good v=bF):v.s.size≤8:=by
 unfold good at h;grind
theorem Avu:Q7 []=[]:=by simp[Q7]
theorem Ou (L:List Wd):(Q7 L).length=L.length:=by unfold Q7;simp
theorem Avv {w}{B g cap}{L:List ByteArray}(h:w.ownsRow B 9 1 (.slice (I ⟨g,0,G⟩) L.length cap) L.length (L.map .string)):Go.Sort.Holds fB w g 0 (L.map fun s=>s.data.toList).toArray:=
 Asu (fun j u hj=>by
  have aa:j<L.length*1:=by have:=(bZ.1 hj).1;simpa using this
  rw[dE,h.cellAt j aa];omega) (fun j=>by rw[dE];exact h.frozenAt j)
theorem Ao7 (s)(w)(hs:s.size*32≤140737488355328):
  bC aF 185 #[Y s] w fun e w'=>∃ao n c m,e=aE (aQ #[D ao n c,O U m])∧Below w.heap.size w w':=by
 refine(Oe s w hs).mono ?_;rintro e w' ⟨h,hb⟩;unfold Ho at h;split at h
 ·obtain⟨lv,rfl,hl⟩:=h;obtain⟨ao,c,rfl⟩:=Ex.shape (Ex.of_own hl);grind
 grind
theorem A13 {w:aV}{B}{lv}{a b}(h:w.ownsRow B 46 3 lv 2 (Ax [a,b])):∃g c,lv=D (I ⟨g,0,G⟩) 2 c∧w.cell? ⟨g,3,G⟩=I (O U b.k)∧w.cell? ⟨g,4,G⟩=I (O U b.n)∧w.cell? ⟨g,5,G⟩=I (Y b.s):=by
 rcases h.2 with⟨_,h0⟩|⟨g,cap,cur,rfl,_⟩
 ·omega
 ·exact⟨g,cap,rfl,h.cellAt 3 (by omega),h.cellAt 4 (by omega),h.cellAt 5 (by omega)⟩
theorem Ao8 (t ix:Wd)(kv:aO)(K:List Wd)(w:aV)(hK:An w kv K)(hl:K.length≤1000000)(ht:t.size≤1000000)(aw:ix.size≤1000000)(aq:∀x∈K,x.size≤1000000):
  bC aF 184 #[Y t,Y ix,kv] w fun e w'=>∃tv,e=aE tv∧An w' tv (J6 (rk1 t ix K))∧Below w.heap.size w w':=by
 obtain⟨ko,kc,rfl⟩:=Ex.shape hK;obtain⟨i0,ax,ay,az,ba⟩:=cK Kg;have bb:Hid _:=hK;have bc:Hid _:=aq;clear hK aq;go_enter Tryz.func184,Tryz.ntmps184;go_wp2
 go_loopw[7,16] (fun zv i wr=>∃k:Nat,k≤K.length∧i=O U k∧wr.ownsRow w.heap.size 9 1 zv (rk1 t ix (K.take k)).length ((rk1 t ix (K.take k)).map Y)∧Below w.heap.size w wr) (fun _ i _=>K.length-(bQ i).toNat)
 case atStart=>exact⟨0,bK _,rfl,dT _ _ _ _,aY _ _⟩
 case round=>
  obtain⟨k,hk,rfl,ac,ae⟩:=hrel
  by_cases bd:k<K.length
  ·obtain⟨x,hx⟩:∃x,K[k]?=I x:=⟨_,aG bd⟩;obtain⟨b,bp,cap,be,hb,_,_,ar⟩:=An.at bb.out (by omega);cases be;have d0:=(ae.cell hb).trans (ar k x hx);have aa:Hid (rk1 t ix _=rk1 t ix _++(V9 t ix x).toList):=Azh hx;have bq:=bc.out x (aI hx);have al:(V8 ix x).size*32≤140737488355328:=by have:=Asv ix x;omega
   have v0:(0:Int)≤k:=by omega
   have v1:k<(K.length:Int):=by omega
   have ai:=ae.size;have bf:=ac.lt;have am:(rk1 t ix (K.take k)).length≤1000000:=aA (Q8 _ _ _) (by grind);have aj:=fun W=>O5 ix W aw
   have HC:∀W,bC _ 243 _ W fun e w'=>e=aE (aQ #[Y (V8 ix x),cX _])∧w'=W:=fun W=>Any.strings_CutPrefix Tryz.laysCut x _ W
   have HV:=fun W=>Oe _ W al
   have ak:=fun W=>Ao7 _ W al
   have ah:Hid (∀L,vals (V8 ix x).data.toList=I L→∀v∈L,good v=bF):=fun L h=>(Aun _ _ L (aT _) h).1
   unfold Ho at HV;unfold V9 at aa;clear hx ar al;generalize Hl ix=ib at aa aj HC;generalize V8 ix x=y at aa HC HV ak ah;cases hp:Lib.hasPrefix x.data.toList ib.data.toList with
   |false=>
    have E2:Hid (rk1 t ix (K.take (k+1))=rk1 t ix (K.take k)):=by show _=_;rw[aa.out,hp];simp
    rw[hp]at HC;clear hp aa HV ah;go_wp2_with(first
     |(go_fit(aj _);rintro e w1 ⟨rfl,af⟩;rw[af])
     |(go_fit(HC _);rintro e w2 ⟨rfl,ag⟩;rw[ag])
     |(go_fit(ak _);rintro e w3 ⟨vo,vn,vc,vm,rfl,ab⟩))
    go_roundw
    case rel=>exact⟨k+1,by omega,by rfl,by rw[E2.out];exact Ak ac ab,ae.trans (ab.mono ai)⟩
    case measure=>simp[bQ];omega
   |true=>
    rw[hp]at HC;cases ad:vals y.data.toList with
    |none=>
     have E2:Hid (rk1 t ix (K.take (k+1))=rk1 t ix (K.take k)):=by show _=_;rw[aa.out,hp,ad];simp
     rw[ad]at HV;simp only at HV;clear hp aa ad ah ak;go_wp2_with(first
      |(go_fit(aj _);rintro e w1 ⟨rfl,af⟩;rw[af])
      |(go_fit(HC _);rintro e w2 ⟨rfl,ag⟩;rw[ag])
      |(go_fit(HV _);rintro e w3 ⟨rfl,ab⟩))
     go_roundw
     case rel=>exact⟨k+1,by omega,by rfl,by rw[E2.out];exact Ak ac ab,ae.trans (ab.mono ai)⟩
     case measure=>simp[bQ];omega
    |some L=>
     rw[ad]at HV;simp only at HV
     by_cases hL:L.length=2
     ·match L,hL with
      |[v0',id],_=>
       have E2:Hid (rk1 t ix (K.take (k+1))=rk1 t ix (K.take k)++[H8 t id]):=by show _=_;rw[aa.out,hp,ad];simp
       have bg:=Avt (ah.out _ ad id (by simp));have HK:=fun W=>Qv t id W ht (by simp only[bS];omega)
       clear hp aa ad ah ak bg;generalize H8 t id=key at E2 HK;obtain⟨uk,un,us⟩:=id;simp only[V.val]at HK;simp only[cV,List.length_nil,dE,Nat.reduceAdd]at HV;go_wp2_with(first
        |(go_fit(aj _);rintro e w1 ⟨rfl,af⟩;rw[af])
        |(go_fit(HC _);rintro e w2 ⟨rfl,ag⟩;rw[ag])
        |(go_fit(HV _);rintro e w3 ⟨⟨lv,rfl,an⟩,ab⟩;obtain⟨g3,c3,rfl,e0,e1,e2⟩:=A13 an)
        |(go_fit(HK _);rintro e w4 ⟨rfl,au⟩;have ap:Below _ wr (w4.alloc (J [Y key].toArray 9)):=(Ac ab au).alloc (Ac ab au).size _;have av:=aA ai ap.size)
        |(at_builtin;go_must(refine cM _ rfl _ _ 43 rfl _ 9 i0 _ 1 16 cQ ax ay az ba rfl (by simp) _ _ _ rfl (Ak ac ap) _ 1 1 _ rfl rfl (Cb w4 [.string key] 9) ?h1 (by simp only[bS];omega) (by omega) av ?h2)))
       case h1=>simp only[cH];repeat(first|exact fun _ h=>absurd h cU|refine⟨rfl,?_⟩)
       case h2=>
        intro z2 w5 bh bi _ _;go_wp2_with fail;go_roundw
        case rel=>exact⟨k+1,by omega,by rfl,by rw[E2.out,aN,cJ];exact bh,(ae.trans (ap.mono ai)).grown bi av fun k hk=>(bf k hk).1⟩
        case measure=>simp[bQ];omega
     ·have E2:Hid (rk1 t ix (K.take (k+1))=rk1 t ix (K.take k)):=by show _=_;rw[aa.out,hp,ad];simp[hL]
      have l1:¬((L.length:Int)=2):=by omega
      clear hp aa ad ah ak hL;go_wp2_with(first
       |(go_fit(aj _);rintro e w1 ⟨rfl,af⟩;rw[af])
       |(go_fit(HC _);rintro e w2 ⟨rfl,ag⟩;rw[ag])
       |(go_fit(HV _);rintro e w3 ⟨⟨lv,rfl,an⟩,ab⟩;obtain⟨bt,bu,rfl⟩:=Ex.shape (Ex.of_own an)))
      go_roundw
      case rel=>exact⟨k+1,by omega,by rfl,by rw[E2.out];exact Ak ac ab,ae.trans (ab.mono ai)⟩
      case measure=>simp[bQ];omega
  ·have bj:k=K.length:=by omega
   subst bj;have v1:¬(K.length<(K.length:Int)):=by omega
   rw[bE]at ac;have am:(rk1 t ix K).length≤1000000:=aA (Q8 _ _ _) hl;generalize hR:rk1 t ix K=R at ac am;have HR:Hid _:=hR;clear hR;rcases ac.2 with⟨rfl,h0⟩|⟨g,cap,cur,rfl,hg,hh,hn,hm,_⟩
   ·obtain rfl:=cI h0;have HS:=fun W=>Any.slices_Sort_string_none Tryz.laysSort G 0 W
    have HD:=fun W=>Any.slices_Compact_string_empty Tryz.laysCompact G 0 W
    go_wp2_with(first
     |(refine(HS _).mono ?_;rintro e w5 ⟨rfl,bk⟩;rw[bk])
     |(refine(HD _).mono ?_;rintro e w6 ⟨rfl,bl⟩;rw[bl]))
    go_ret;refine⟨_,rfl,?_,ae⟩;rw[HR.out,J6,Avu];exact Ex.nil _ _
   ·have HS:=Azg R g cap _ wr (Avv ac) (aP hh) hg am;have HD:=fun W h1 h2=>Ao4 _ g cap _ W h1 h2 hg (by rw[Ou];omega) (by rw[Ou];omega) hm
    simp only[Ou]at HD;go_wp2_with(first
     |(refine HS.mono ?_;rintro e w5 ⟨rfl,h5,g5,bm⟩)
     |(refine(HD _ h5 g5).mono ?_;rintro e w6 ⟨vz,rfl,bn,bo⟩))
    go_ret;exact⟨_,rfl,by rw[HR.out];exact bn,ae.trans (bm.trans bo)⟩
end
end Go.Proofs.YtocegbpmmiabmaaGreatDoor
