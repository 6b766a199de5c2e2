/-
  4 texts of this proof in one, in build order: QWhere9, QRank, QChoose, QWays.
-/
import Derived.Deep.Cut
import Derived.Deep.QuietTactic
import Derived.Deep.CutRange
import Derived.Test.YthehiijgnepcfaaGreatJ02
import Derived.Test.YthehiijgnepcfaaGreatJ11
import Derived.Test.YthehiijgnepcfaaGreatJ12
import Derived.Test.YthehiijgnepcfaaGreatJ13
import Derived.Test.YthehiijgnepcfaaGreatJ15
import Derived.Test.YthehiijgnepcfaaGreatJ16
set_option linter.unusedSimpArgs false
set_option linter.unusedVariables false
namespace Go.Proofs.YthehiijgnepcfaaGreat
open Go.RowKit
def K0 :Nat→E→Prop
 | 0,_=>True
 | d+1, .mk op _ _ _ n l=> (op=2→n≤9223372036854775807) ∧ ∀a∈l,K0 d a
theorem Ko {F :Nat→Prop} {w :World} {ao :Option Addr} {k c :Nat} {l :List E} (h :Ff F w (.slice ao k c) l) {op :Int} {x :V} {s name :Wd} {n :Int} {l' :List E} (hx :l[0]? =some (.mk op x s name n l')) :
  ∃b off,ao=some ⟨b,off,none⟩ ∧b<w.heap.size∧ ∃a8 k8 c8,IsE F w (.mk op x s name n l') (.agg (Ae op x s name n (.slice a8 k8 c8))) ∧w.cell? ⟨b,off,none⟩ =some (.int .i64 op) ∧w.cell? ⟨b,off+1,none⟩ =some (.int .i64 x.k) ∧w.cell? ⟨b,off+2,none⟩ =some (.int .i64 x.n) ∧w.cell? ⟨b,off+3,none⟩ =some (.string x.s) ∧w.cell? ⟨b,off+4,none⟩ =some (.string s) ∧w.cell? ⟨b,off+5,none⟩ =some (.string name) ∧w.cell? ⟨b,off+6,none⟩ =some (.int .i64 n) ∧w.cell? ⟨b,off+7,none⟩ =some (.slice a8 k8 c8) :=by
 obtain ⟨b,off,cs,h1,_,h2,hR,hc⟩ :=A4 (Ajh.2 h) hx
 obtain ⟨hl,hE⟩ :=hR
 obtain ⟨sv,he,hEs⟩ :=hE.open
 obtain ⟨a8,c8,rfl⟩ :=hEs.shape
 have hcs :cs= (Ae op x s name n (.slice a8 l'.length c8)).toList :=by
  have :=congrArg Array.toList (Value.agg.inj he)
  simpa using this
 subst hcs
 refine ⟨b,off,h1,h2,a8,l'.length,c8,by simpa using hE, ?_⟩
 have g : ∀j u,(Ae op x s name n (.slice a8 l'.length c8)).toList[j]? =some u→w.cell? ⟨b,off+0*8+j,none⟩ =some u :=hc
 exact ⟨g 0 _ rfl,g 1 _ rfl,g 2 _ rfl,g 3 _ rfl,g 4 _ rfl,g 5 _ rfl,g 6 _ rfl,g 7 _ rfl⟩
theorem O0 {F :Nat→Prop} {w :World} {ao :Option Addr} {k c :Nat} {l :List E} (h :Ff F w (.slice ao k c) l) {op :Int} {x :V} {s name :Wd} {n :Int} {l' :List E} (hx :l[1]? =some (.mk op x s name n l')) :
  ∃b off,ao=some ⟨b,off,none⟩ ∧b<w.heap.size∧ ∃a8 k8 c8,IsE F w (.mk op x s name n l') (.agg (Ae op x s name n (.slice a8 k8 c8))) ∧w.cell? ⟨b,off+8,none⟩ =some (.int .i64 op) ∧w.cell? ⟨b,off+8+1,none⟩ =some (.int .i64 x.k) ∧w.cell? ⟨b,off+8+2,none⟩ =some (.int .i64 x.n) ∧w.cell? ⟨b,off+8+3,none⟩ =some (.string x.s) ∧w.cell? ⟨b,off+8+4,none⟩ =some (.string s) ∧w.cell? ⟨b,off+8+5,none⟩ =some (.string name) ∧w.cell? ⟨b,off+8+6,none⟩ =some (.int .i64 n) ∧w.cell? ⟨b,off+8+7,none⟩ =some (.slice a8 k8 c8) :=by
 obtain ⟨b,off,cs,h1,_,h2,hR,hc⟩ :=A4 (Ajh.2 h) hx
 obtain ⟨hl,hE⟩ :=hR
 obtain ⟨sv,he,hEs⟩ :=hE.open
 obtain ⟨a8,c8,rfl⟩ :=hEs.shape
 have hcs :cs= (Ae op x s name n (.slice a8 l'.length c8)).toList :=by
  have :=congrArg Array.toList (Value.agg.inj he)
  simpa using this
 subst hcs
 refine ⟨b,off,h1,h2,a8,l'.length,c8,by simpa using hE, ?_⟩
 have g : ∀j u,(Ae op x s name n (.slice a8 l'.length c8)).toList[j]? =some u→w.cell? ⟨b,off+1*8+j,none⟩ =some u :=hc
 exact ⟨g 0 _ rfl,g 1 _ rfl,g 2 _ rfl,g 3 _ rfl,g 4 _ rfl,g 5 _ rfl,g 6 _ rfl,g 7 _ rfl⟩
theorem L6 {d :Nat} {op :Int} {x :V} {s name :Wd} {n :Int} {l :List E} (h :geB (d+1) (.mk op x s name n l) =true) (hf :De (.mk op x s name n l)) (hr :K0 (d+1) (.mk op x s name n l)) :Wk op x n :=by
 rw [De] at hf
 rw [K0] at hr
 refine ⟨fun h1=> ?_,hf.1,hr.1⟩
 subst h1
 simp only [geB,Jl,Bool.and_eq_true,if_true] at h
 exact h.1.2
theorem Mp {α :Type} : ∀ {l :List α},l.length=2→ ∃a b,l= [a,b]
 | [a,b],_=> ⟨a,b,rfl⟩
theorem Td {d :Nat} {e :E} (h :geB d e=true) : ∃d',d=d'+1 :=by
 cases d with
 | zero=>simp [geB] at h
 | succ d=>exact ⟨d,rfl⟩
theorem Acp (at' col :Int) : ∀ (d :Nat) (e :E) (v :Value) (yes :Bool) (C :Nat) (w :World),IsE (fun k=>k<C) w e v→C≤w.heap.size→geB d e=true→De e→K0 d e→
  Calls Tryz.prog 30 #[.agg #[.int .i64 at', .int .i64 col],v, .bool yes] w fun r w'=>r= .returned (A3 at' col d e yes).val∧Below w.heap.size w w' :=by
 intro d
 induction d with
 | zero=>intro e v yes C w _ _ h;simp [geB] at h
 | succ d ih=>
  intro e v yes C w he hC hg hf hr
  obtain ⟨op,x,s,name,n,l⟩ :=e
  obtain ⟨sv,rfl,hEs⟩ :=he.open
  obtain ⟨ao,c,rfl⟩ :=hEs.shape
  obtain ⟨xk,xn,xs⟩ :=x
  have hg' :=hg
  simp only [geB,Bool.and_eq_true,decide_eq_true_eq,List.all_eq_true] at hg'
  obtain ⟨⟨hlen,hleaf⟩,hkids⟩ :=hg'
  rw [De] at hf
  have hfl :=hf.2.2.2
  rw [K0] at hr
  have IH : ∀a∈l,∀va yes' W,Below w.heap.size w W→IsE (fun k=>k<C) w a va→Calls Tryz.prog 30 #[.agg #[.int .i64 at', .int .i64 col],va, .bool yes'] W fun r w'=>r= .returned (A3 at' col d a yes').val∧Below W.heap.size W w' :=
   fun a ha va yes' W hW hE=>ih a va yes' C W (IsE.keep (Af (hW.mono hC)) _ _ hE) (Nat.le_trans hC hW.size) (hkids a ha) (Fb hfl ha) (hr.2 a ha)
  by_cases h9 :op=9
  ·subst h9
   have hl1 :l.length=1 :=by simp [Dd] at hlen;omega
   obtain ⟨a,rfl⟩ :=List.length_eq_one_iff.1 hl1
   obtain ⟨aop,⟨ak,an,ax⟩,as1,am,ai,al⟩ :=a
   obtain ⟨b,off,rfl,hb,a8,k8,c8,hE,hc⟩ :=Ko hEs rfl
   exact Acn at' col xk xn xs s name n b off c _ aop ak an ax as1 am ai a8 k8 c8 yes _ w (by simp) hb hc (fun W hW=>IH _ (by simp) _ _ W hW hE)
  by_cases h7 :op=7
  ·subst h7
   have hl1 :l.length=2 :=by simp [Dd] at hlen;omega
   obtain ⟨a,a',rfl⟩ :=Mp hl1
   obtain ⟨aop,⟨ak,an,ax⟩,as1,am,ai,al⟩ :=a
   obtain ⟨bop,⟨bk,bn,bx⟩,bs,bm,bi,bl⟩ :=a'
   obtain ⟨b,off,rfl,hb,a8,k8,c8,hE,hc⟩ :=Ko hEs rfl
   obtain ⟨b',off',e',_,a9,k9,c9,hE',hc'⟩ :=O0 hEs rfl
   simp only [Option.some.injEq,Addr.mk.injEq,and_true] at e'
   obtain ⟨rfl,rfl⟩ :=e'
   have :=Aan at' col xk xn xs s name n b off c 2 aop ak an ax as1 am ai a8 k8 c8 bop bk bn bx bs bm bi a9 k9 c9 yes _ _ w (Nat.le_refl _) hb hc hc' (fun W hW=>IH _ (by simp) _ _ W hW hE) (fun W hW=>IH _ (by simp) _ _ W hW hE')
   have e2 :A3 at' col (d+1) (.mk 7 ⟨xk,xn,xs⟩ s name n [.mk aop ⟨ak,an,ax⟩ as1 am ai al, .mk bop ⟨bk,bn,bx⟩ bs bm bi bl]) yes=if yes then (A3 at' col d (.mk aop ⟨ak,an,ax⟩ as1 am ai al) yes).both (A3 at' col d (.mk bop ⟨bk,bn,bx⟩ bs bm bi bl) yes) else (A3 at' col d (.mk aop ⟨ak,an,ax⟩ as1 am ai al) yes).either (A3 at' col d (.mk bop ⟨bk,bn,bx⟩ bs bm bi bl) yes) :=by
    cases yes<;>simp [A3]
   rw [e2]
   exact this
  by_cases h8 :op=8
  ·subst h8
   have hl1 :l.length=2 :=by simp [Dd] at hlen;omega
   obtain ⟨a,a',rfl⟩ :=Mp hl1
   obtain ⟨aop,⟨ak,an,ax⟩,as1,am,ai,al⟩ :=a
   obtain ⟨bop,⟨bk,bn,bx⟩,bs,bm,bi,bl⟩ :=a'
   obtain ⟨b,off,rfl,hb,a8,k8,c8,hE,hc⟩ :=Ko hEs rfl
   obtain ⟨b',off',e',_,a9,k9,c9,hE',hc'⟩ :=O0 hEs rfl
   simp only [Option.some.injEq,Addr.mk.injEq,and_true] at e'
   obtain ⟨rfl,rfl⟩ :=e'
   have :=Aao at' col xk xn xs s name n b off c 2 aop ak an ax as1 am ai a8 k8 c8 bop bk bn bx bs bm bi a9 k9 c9 yes _ _ w (Nat.le_refl _) hb hc hc' (fun W hW=>IH _ (by simp) _ _ W hW hE) (fun W hW=>IH _ (by simp) _ _ W hW hE')
   have e2 :A3 at' col (d+1) (.mk 8 ⟨xk,xn,xs⟩ s name n [.mk aop ⟨ak,an,ax⟩ as1 am ai al, .mk bop ⟨bk,bn,bx⟩ bs bm bi bl]) yes=if yes then (A3 at' col d (.mk aop ⟨ak,an,ax⟩ as1 am ai al) yes).either (A3 at' col d (.mk bop ⟨bk,bn,bx⟩ bs bm bi bl) yes) else (A3 at' col d (.mk aop ⟨ak,an,ax⟩ as1 am ai al) yes).both (A3 at' col d (.mk bop ⟨bk,bn,bx⟩ bs bm bi bl) yes) :=by
    cases yes<;>simp [A3]
   rw [e2]
   exact this
  by_cases h10 :op=10
  ·subst h10
   have hl1 :l.length=1 :=by simp [Dd] at hlen;omega
   obtain ⟨a,rfl⟩ :=List.length_eq_one_iff.1 hl1
   obtain ⟨d',rfl⟩ :=Td (hkids a (by simp))
   obtain ⟨aop,⟨ak,an,ax⟩,as1,am,ai,al⟩ :=a
   have hok :=L6 (hkids (.mk aop ⟨ak,an,ax⟩ as1 am ai al) (by simp)) (Fb hfl (by simp)) (hr.2 _ (by simp))
   obtain ⟨b,off,rfl,hb,a8,k8,c8,hE,hc⟩ :=Ko hEs rfl
   exact Aek at' col xk xn xs s name n b off c _ aop ak an ax as1 am ai a8 k8 c8 yes _ w (by simp) hb hc (fun W _=>Ye at' col aop ak an ax as1 am ai a8 k8 c8 yes W hok.2.2)
  by_cases h5 :op=5
  ·subst h5
   have hl1 :l.length=2 :=by simp [Dd] at hlen;omega
   obtain ⟨a,a',rfl⟩ :=Mp hl1
   obtain ⟨d',rfl⟩ :=Td (hkids a (by simp))
   obtain ⟨aop,⟨ak,an,ax⟩,as1,am,ai,al⟩ :=a
   obtain ⟨bop,⟨bk,bn,bx⟩,bs,bm,bi,bl⟩ :=a'
   have hok :=L6 (hkids (.mk aop ⟨ak,an,ax⟩ as1 am ai al) (by simp)) (Fb hfl (by simp)) (hr.2 _ (by simp))
   have hok' :=L6 (hkids (.mk bop ⟨bk,bn,bx⟩ bs bm bi bl) (by simp)) (Fb hfl (by simp)) (hr.2 _ (by simp))
   obtain ⟨b,off,rfl,hb,a8,k8,c8,hE,hc⟩ :=Ko hEs rfl
   obtain ⟨b',off',e',_,a9,k9,c9,hE',hc'⟩ :=O0 hEs rfl
   simp only [Option.some.injEq,Addr.mk.injEq,and_true] at e'
   obtain ⟨rfl,rfl⟩ :=e'
   exact Aap at' col xk xn xs s name n b off c _ aop ak an ax as1 am ai a8 k8 c8 bop bk bn bx bs bm bi a9 k9 c9 yes _ w (by simp) hb hc hc' (fun W _=>J2 at' col 5 aop ak an ax as1 am ai a8 k8 c8 bop bk bn bx bs bm bi a9 k9 c9 yes W (.inl rfl) hok hok')
  by_cases h6 :op=6
  ·subst h6
   have hl1 :l.length=2 :=by simp [Dd] at hlen;omega
   obtain ⟨a,a',rfl⟩ :=Mp hl1
   obtain ⟨d',rfl⟩ :=Td (hkids a (by simp))
   obtain ⟨aop,⟨ak,an,ax⟩,as1,am,ai,al⟩ :=a
   obtain ⟨bop,⟨bk,bn,bx⟩,bs,bm,bi,bl⟩ :=a'
   have hok :=L6 (hkids (.mk aop ⟨ak,an,ax⟩ as1 am ai al) (by simp)) (Fb hfl (by simp)) (hr.2 _ (by simp))
   have hok' :=L6 (hkids (.mk bop ⟨bk,bn,bx⟩ bs bm bi bl) (by simp)) (Fb hfl (by simp)) (hr.2 _ (by simp))
   obtain ⟨b,off,rfl,hb,a8,k8,c8,hE,hc⟩ :=Ko hEs rfl
   obtain ⟨b',off',e',_,a9,k9,c9,hE',hc'⟩ :=O0 hEs rfl
   simp only [Option.some.injEq,Addr.mk.injEq,and_true] at e'
   obtain ⟨rfl,rfl⟩ :=e'
   exact Aaq at' col xk xn xs s name n b off c _ aop ak an ax as1 am ai a8 k8 c8 bop bk bn bx bs bm bi a9 k9 c9 yes _ w (by simp) hb hc hc' (fun W _=>J2 at' col 6 aop ak an ax as1 am ai a8 k8 c8 bop bk bn bx bs bm bi a9 k9 c9 yes W (.inr rfl) hok hok')
  by_cases h1 :op=1
  ·subst h1
   exact Aco at' col xk xn xs s name n ao _ c yes w
  ·have e2 :A3 at' col (d+1) (.mk op ⟨xk,xn,xs⟩ s name n l) yes=Ey noW :=by simp [A3,h1,h5,h6,h7,h8,h9,h10]
   rw [e2]
   exact Aar at' col op xk xn xs s name n ao _ c yes w h1 h5 h6 h7 h8 h9 h10
end Go.Proofs.YthehiijgnepcfaaGreat

namespace Go.Proofs.YthehiijgnepcfaaGreat
open Go.RowKit
theorem Wo (a b c d :Wd) (w :World) : (Op.equalIn 10000 81 (.agg #[.string a, .string b]) (.agg #[.string c, .string d])).run Tryz.prog w= .ok (decide (a=c∧b=d)) w :=by
 have u3 :=Tryz.underlying9
 have a3 :=Tryz.isAgg9
 have z3 :=Tryz.sizeOf9
 have hS :Tryz.prog.underlying 81=some (.struct (Tryz.prog.fieldsOf 81)) :=by kernel_rfl
 have hp :Tryz.prog.stoodInHeld 81=false :=by kernel_rfl
 rw [show (10000 :Nat) =9999+1 from rfl,run_equalIn_agg w 9999 81 _ _ hS hp]
 simp only [Program.fieldsOf,Tryz.underlying81]
 go_simp
 by_cases h1 :a=c
 ·by_cases h2 :b=d
  ·simp [h1,h2]
  ·have h3 : ¬b.toList=d.toList :=by
    have :=G5 b d
    rw [decide_eq_false h2,beq_eq_false_iff_ne] at this
    exact this
   simp [h1,h2,h3]
 ·have h3 : ¬a.toList=c.toList :=by
   have :=G5 a c
   rw [decide_eq_false h1,beq_eq_false_iff_ne] at this
   exact this
  simp [h1,h3]
theorem Ait (a b c d :Wd) (w :World) : (binOp .eql 81 (.agg #[.string a, .string b]) (.agg #[.string c, .string d])).run Tryz.prog w= .ok (.bool (decide (a=c∧b=d))) w :=by
 rw [run_eql_struct,Wo];rfl
theorem Ah4 (a b c d :Wd) (w :World) : (binOp .neq 81 (.agg #[.string a, .string b]) (.agg #[.string c, .string d])).run Tryz.prog w= .ok (.bool (!decide (a=c∧b=d))) w :=by
 rw [run_neq_struct,Wo];rfl
theorem Va (s :Wd) (w :World) (hs :s.size≤1000000) :Calls Tryz.prog 27 #[.string s] w fun e w'=> ∃ao c m,e= .returned (.tuple #[.slice ao (Aak (vals s.data.toList)) c, .int .i64 m]) ∧Below w.heap.size w w' :=by
 refine (Iq s w (by omega)).mono ?_
 rintro e w' ⟨h,hb⟩
 unfold El at h
 cases hv :vals s.data.toList with
 | none=>rw [hv] at h;exact ⟨none,0,1,h,hb⟩
 | some L=>
  rw [hv] at h
  obtain ⟨lv,rfl,hown⟩ :=h
  obtain ⟨ao,c,rfl⟩ :=Dz.shape (Dz.of_own hown)
  exact ⟨ao,c,0,rfl,hb⟩
set_option maxRecDepth 100000 in
set_option maxHeartbeats 4000000 in
theorem Wp (s :Sp) (w :World) (hs :s.lo.size≤1000000) :Calls Tryz.prog 35 #[s.val] w fun e w'=>e= .returned (.int .i64 s.rank) ∧Below w.heap.size w w' :=by
 have HV :=fun W=>Va s.lo W hs
 have HE :=fun W=>Lp s W
 have HB :=fun W=>Fa s.lo W (by omega)
 have H0 :=fun W=>Fa noW W (by decide)
 have E :Hid (s.rank=if s.empty then 0 else if Aak (vals s.lo.data.toList) =1∧s.hi=s.lo++ffW then 1 else if s.lo=noW∧s.hi=ffW then 3 else 2) :=rfl
 generalize s.rank=r at E
 generalize s.empty=em at HE E
 generalize hln :Aak (vals s.lo.data.toList) =ln at HV E
 clear hln
 obtain ⟨lo,hi⟩ :=s
 simp only at HV HB E hs
 simp only [Sp.val] at HE⊢
 have Q1 :=fun W=>Ait lo hi lo (lo++ ⟨#[255]⟩) W
 have Q2 :=fun W=>Ah4 lo hi noW (noW++ ⟨#[255]⟩) W
 have E2 :Hid (r=if em then 0 else if decide (ln=1) &&decide (lo=lo∧hi=lo++ ⟨#[255]⟩) then 1 else if decide (lo=noW∧hi=noW++ ⟨#[255]⟩) then 3 else 2) :=by
  show _=_
  rw [E.out]
  have e1 : (noW++ ⟨#[255]⟩ :Wd) =ffW :=rfl
  have e2 : (⟨#[255]⟩ :Wd) =ffW :=rfl
  rw [e1,e2]
  cases em
  ·simp only [Bool.false_eq_true,if_false,Bool.and_eq_true,decide_eq_true_eq,true_and]
  ·rfl
 clear E
 generalize decide (lo=lo∧hi=lo++ ⟨#[255]⟩) =q1 at Q1 E2
 generalize decide (lo=noW∧hi=noW++ ⟨#[255]⟩) =q2 at Q2 E2
 have B :=Ab w (.cells #[.string lo, .string hi] 81)
 have hb0 :=Ao w (.cells #[.string lo, .string hi] 81)
 generalize hW :w.alloc (.cells #[.string lo, .string hi] 81) =V at B hb0
 have HW :Hid _ :=hW
 clear hW
 have KS :Hid (∀W,Below V.heap.size V W→W.cell? ⟨w.heap.size,0,none⟩ =some (.string lo) ∧W.cell? ⟨w.heap.size,1,none⟩ =some (.string hi)) :=fun W hW=>by
  have D := (hW.block _ (lt_of_block B)).trans B
  exact ⟨Aa D (j :=0) rfl,Aa D (j :=1) rfl⟩
 obtain ⟨a0,a1⟩ :=KS.out V (Below.refl _ _)
 cases em
 rotate_left
 ·go_enter Tryz.func35,Tryz.ntmps35
  go_upto_region 1 with fail
  rw [HW.out]
  go_wp2_with (first
   | (go_at_call 27;go_must (go_fit (HV _);rintro e w1 ⟨vo,vc,vm,rfl,hb1⟩;obtain ⟨b0,b1⟩ :=KS.out _ hb1))
   | (go_at_call 72;go_must (go_fit (HE _);rintro e w2 ⟨rfl,hb2⟩)))
  go_ret
  exact ⟨An (by rw [E2.out];rfl),Ad hb0 (Ad hb1 hb2)⟩
 by_cases h1 :ln=1
 ·subst h1
  go_enter Tryz.func35,Tryz.ntmps35
  go_upto_region 1 with fail
  rw [HW.out]
  go_upto_region 4 with (first
   | (go_at_call 27;go_must (go_fit (HV _);rintro e w1 ⟨vo,vc,vm,rfl,hb1⟩;obtain ⟨b0,b1⟩ :=KS.out _ hb1))
   | (go_at_call 72;go_must (go_fit (HE _);rintro e w2 ⟨rfl,hb2⟩;have z2 :Below V.heap.size V w2 :=Ad hb1 hb2;obtain ⟨c0,c1⟩ :=KS.out _ z2)))
  go_region_held3 (fun W=>W.cell? ⟨w.heap.size,0,none⟩ =some (.string lo) ∧W.cell? ⟨w.heap.size,1,none⟩ =some (.string hi))
   (with_reducible first | exact KS.out _ (z2.drew) | exact KS.out _ z3)
   (first | (go_at_call 54;refine (HB _).mono ?_;rintro e w3 ⟨rfl,hb3⟩;have z3 :Below V.heap.size V w3 :=z2.drew.trans (hb3.mono z2.size)))
  cases q1
  ·go_upto_region 6 with fail
   go_region_held3 (fun W=>W.cell? ⟨w.heap.size,0,none⟩ =some (.string lo) ∧W.cell? ⟨w.heap.size,1,none⟩ =some (.string hi))
   (with_reducible first | exact KS.out _ (z3.drew) | exact KS.out _ z4)
   (first | (go_at_call 54;refine (H0 _).mono ?_;rintro e w4 ⟨rfl,hb4⟩;have z4 :Below V.heap.size V w4 :=z3.drew.trans (hb4.mono z3.size)))
   cases q2
   ·go_wp2
    go_ret
    exact ⟨An (by rw [E2.out];first | rfl | simp_all),Ad hb0 z4⟩
   ·go_wp2
    go_ret
    exact ⟨An (by rw [E2.out];first | rfl | simp_all),Ad hb0 z4⟩
  ·go_wp2
   go_ret
   exact ⟨An (by rw [E2.out];rfl),Ad hb0 z3⟩
 ·have v1 : ¬ (ln :Int) =1 :=by omega
  go_enter Tryz.func35,Tryz.ntmps35
  go_upto_region 1 with fail
  rw [HW.out]
  go_upto_region 4 with (first
   | (go_at_call 27;go_must (go_fit (HV _);rintro e w1 ⟨vo,vc,vm,rfl,hb1⟩;obtain ⟨b0,b1⟩ :=KS.out _ hb1))
   | (go_at_call 72;go_must (go_fit (HE _);rintro e w2 ⟨rfl,hb2⟩;have z2 :Below V.heap.size V w2 :=Ad hb1 hb2;obtain ⟨c0,c1⟩ :=KS.out _ z2)))
  go_quiet (fail)
  ·go_upto_region 6 with fail
   go_region_held3 (fun W=>W.cell? ⟨w.heap.size,0,none⟩ =some (.string lo) ∧W.cell? ⟨w.heap.size,1,none⟩ =some (.string hi))
   (with_reducible first | exact KS.out _ (below_drewN z2 _) | exact KS.out _ (below_drewN z2 _).drew | exact KS.out _ z4)
   (first | (go_at_call 54;refine (H0 _).mono ?_;rintro e w4 ⟨rfl,hb4⟩;have z4 :Below V.heap.size V w4 := (by first | exact (below_drewN z2 _).trans (hb4.mono z2.size) | exact (below_drewN z2 _).drew.trans (hb4.mono z2.size))))
   cases q2
   ·go_wp2
    go_ret
    exact ⟨An (by rw [E2.out];first | rfl | simp_all),Ad hb0 z4⟩
   ·go_wp2
    go_ret
    exact ⟨An (by rw [E2.out];first | rfl | simp_all),Ad hb0 z4⟩
end Go.Proofs.YthehiijgnepcfaaGreat

namespace Go.Proofs.YthehiijgnepcfaaGreat
open Go.RowKit Go.Maps
structure Wy where
 x :Wd
 lo :Wd
 hi :Wd
def B7 (at' :Int) (e :E) (t :TabD) (p :Sp×Wy) (x :IdxD) :Sp×Wy :=
 if Dq t x<0 then p
 else if (A3 at' (Dq t x) 40 e true).rank<p.1.rank then (A3 at' (Dq t x) 40 e true,⟨x.name,Dp x.name++ (A3 at' (Dq t x) 40 e true).lo,Dp x.name++ (A3 at' (Dq t x) 40 e true).hi⟩)
 else p
def Fd (at' :Int) (e :E) (t :TabD) :Sp×Wy := (A3 at' 0 40 e true,⟨noW,Ek t.name++ (A3 at' 0 40 e true).lo,Ek t.name++ (A3 at' 0 40 e true).hi⟩)
def Cu (ct :CatD) (t :TabD) (at' :Int) (e :E) :Wy :=
 if geB 40 e then ((if C8 ct then ct.indexes else []).foldl (B7 at' e t) (Fd at' e t)).2
 else ⟨noW,Dr t.name,Ds t.name⟩
set_option maxHeartbeats 1000000 in
theorem Rv (ct :CatD) (to1 :Option Addr) (tl1 tc1 :Nat) (io :Option Addr) (il ic :Nat) (C :Nat) (w :World) (hc :Cz (fun k=>k<C) w ct (.agg #[.slice to1 tl1 tc1, .slice io il ic])) (hC :C≤w.heap.size) (hf :Gv ct) :
  Calls Tryz.prog 33 #[.agg #[.slice to1 tl1 tc1, .slice io il ic]] w fun e w'=>e= .returned (if C8 ct then .slice io il ic else .slice none 0 0) ∧Below w.heap.size w w' :=by
 have B :=Ab w (.cells #[.slice to1 tl1 tc1, .slice io il ic] 25)
 have hb0 :=Ao w (.cells #[.slice to1 tl1 tc1, .slice io il ic] 25)
 have HG :=Kx ct _ C (w.alloc (.cells #[.slice to1 tl1 tc1, .slice io il ic] 25)) (hc.keep (Af (hb0.mono hC))) (Nat.le_trans hC hb0.size) hf
 generalize C8 ct=g at HG
 generalize hW :w.alloc (.cells #[.slice to1 tl1 tc1, .slice io il ic] 25) =V at B hb0 HG
 have HW :Hid _ :=hW
 clear hW hc
 have a0 :=Aa B (j :=0) (u := .slice to1 tl1 tc1) rfl
 have a1 :=Aa B (j :=1) (u := .slice io il ic) rfl
 cases g
 ·go_enter Tryz.func33,Tryz.ntmps33
  go_upto_region 1 with fail
  rw [HW.out]
  go_wp2_with (go_at_call 13;go_must (go_fit HG;rintro e w1 ⟨rfl,hb1⟩))
  go_ret
  exact ⟨rfl,Ad hb0 hb1⟩
 ·go_enter Tryz.func33,Tryz.ntmps33
  go_upto_region 1 with fail
  rw [HW.out]
  go_wp2_with (go_at_call 13;go_must (go_fit HG;rintro e w1 ⟨rfl,hb1⟩;have b1 :=Aa ((hb1.block _ (lt_of_block B)).trans B) (j :=1) (u := .slice io il ic) rfl))
  go_ret
  exact ⟨rfl,Ad hb0 hb1⟩
set_option maxRecDepth 100000 in
set_option maxHeartbeats 4000000 in
theorem Acq (t :TabD) (at' :Int) (eop ek en :Int) (ex es em :Wd) (ei :Int) (ea :Option Addr) (el ec :Nat) (e0 :E) (to1 :Option Addr) (tl1 tc1 :Nat) (io :Option Addr) (il ic :Nat) (co :Option Addr) (cc :Nat) (C :Nat) (w :World) (he :IsE (fun k=>k<C) w e0 (.agg #[.int .i64 eop, .int .i64 ek, .int .i64 en, .string ex, .string es, .string em, .int .i64 ei, .slice ea el ec])) (hC :C≤w.heap.size) (hx :De e0) (hg :geB 40 e0=false) (ht :t.name.size≤100000) :
  Calls Tryz.prog 9 #[.agg #[.slice to1 tl1 tc1, .slice io il ic], .agg #[.string t.name, .slice co t.cols.length cc], .int .i64 at', .agg #[.int .i64 eop, .int .i64 ek, .int .i64 en, .string ex, .string es, .string em, .int .i64 ei, .slice ea el ec]] w fun e w'=>e= .returned (Fi noW (Dr t.name) (Ds t.name)) ∧Below w.heap.size w w' :=by
 have B0 : ((((w.alloc (.cells #[.slice to1 tl1 tc1, .slice io il ic] 25)).alloc (.cells #[.string t.name, .slice co t.cols.length cc] 43)).alloc (.cells #[.int .i64 eop, .int .i64 ek, .int .i64 en, .string ex, .string es, .string em, .int .i64 ei, .slice ea el ec] 34)).alloc (.cells #[.string noW, .string noW, .string noW] 53)).heap[w.heap.size]? =some (.cells #[.slice to1 tl1 tc1, .slice io il ic] 25) :=Ac (Ac (Ac (Ab _ _) _) _) _
 have B1 : ((((w.alloc (.cells #[.slice to1 tl1 tc1, .slice io il ic] 25)).alloc (.cells #[.string t.name, .slice co t.cols.length cc] 43)).alloc (.cells #[.int .i64 eop, .int .i64 ek, .int .i64 en, .string ex, .string es, .string em, .int .i64 ei, .slice ea el ec] 34)).alloc (.cells #[.string noW, .string noW, .string noW] 53)).heap[w.heap.size+1]? =some (.cells #[.string t.name, .slice co t.cols.length cc] 43) :=Ac (Ac (Aq _ _ _) _) _
 have B2 : ((((w.alloc (.cells #[.slice to1 tl1 tc1, .slice io il ic] 25)).alloc (.cells #[.string t.name, .slice co t.cols.length cc] 43)).alloc (.cells #[.int .i64 eop, .int .i64 ek, .int .i64 en, .string ex, .string es, .string em, .int .i64 ei, .slice ea el ec] 34)).alloc (.cells #[.string noW, .string noW, .string noW] 53)).heap[w.heap.size+2]? =some (.cells #[.int .i64 eop, .int .i64 ek, .int .i64 en, .string ex, .string es, .string em, .int .i64 ei, .slice ea el ec] 34) :=Ac (A6 _ _ _ _) _
 have B3 : ((((w.alloc (.cells #[.slice to1 tl1 tc1, .slice io il ic] 25)).alloc (.cells #[.string t.name, .slice co t.cols.length cc] 43)).alloc (.cells #[.int .i64 eop, .int .i64 ek, .int .i64 en, .string ex, .string es, .string em, .int .i64 ei, .slice ea el ec] 34)).alloc (.cells #[.string noW, .string noW, .string noW] 53)).heap[w.heap.size+3]? =some (.cells #[.string noW, .string noW, .string noW] 53) :=Wj _ _ _ _ _
 have hbW :=Aeg w (.cells #[.slice to1 tl1 tc1, .slice io il ic] 25) (.cells #[.string t.name, .slice co t.cols.length cc] 43) (.cells #[.int .i64 eop, .int .i64 ek, .int .i64 en, .string ex, .string es, .string em, .int .i64 ei, .slice ea el ec] 34) (.cells #[.string noW, .string noW, .string noW] 53)
 generalize hW : (((w.alloc (.cells #[.slice to1 tl1 tc1, .slice io il ic] 25)).alloc (.cells #[.string t.name, .slice co t.cols.length cc] 43)).alloc (.cells #[.int .i64 eop, .int .i64 ek, .int .i64 en, .string ex, .string es, .string em, .int .i64 ei, .slice ea el ec] 34)).alloc (.cells #[.string noW, .string noW, .string noW] 53) =V at B0 B1 B2 B3 hbW
 have HW :Hid _ :=hW
 clear hW
 have HG :=fun W (hW :Below V.heap.size V W) =>Iu 40 (Nat.le_refl _) e0 (.agg #[.int .i64 eop, .int .i64 ek, .int .i64 en, .string ex, .string es, .string em, .int .i64 ei, .slice ea el ec]) C W (IsE.keep (Af ((Ad hbW hW).mono hC)) _ _ he) (Nat.le_trans hC (Ad hbW hW).size) hx
 rw [hg] at HG
 have HG1 :=HG V (Below.refl _ _)
 have HA :=fun W=>Y9 t.name W ht
 generalize Dr t.name=lo at HA⊢
 generalize Ds t.name=hi at HA⊢
 unfold Fi at HA⊢
 have a0 :=Aa B2 (j :=0) (u := .int .i64 eop) rfl
 have a1 :=Aa B2 (j :=1) (u := .int .i64 ek) rfl
 have a2 :=Aa B2 (j :=2) (u := .int .i64 en) rfl
 have a3 :=Aa B2 (j :=3) (u := .string ex) rfl
 have a4 :=Aa B2 (j :=4) (u := .string es) rfl
 have a5 :=Aa B2 (j :=5) (u := .string em) rfl
 have a6 :=Aa B2 (j :=6) (u := .int .i64 ei) rfl
 have a7 :=Aa B2 (j :=7) (u := .slice ea el ec) rfl
 have n0 :=Aa B1 (j :=0) (u := .string t.name) rfl
 clear HG
 go_enter Tryz.func9,Tryz.ntmps9
 go_upto_region 1 with fail
 rw [HW.out]
 go_wp2_with (first
  | (go_at_call 29;go_must (go_fit HG1;rintro e w1 ⟨rfl,hb1⟩;have m0 :=Aa ((hb1.block _ (lt_of_block B1)).trans B1) (j :=0) (u := .string t.name) rfl))
  | (go_at_call 17;go_must (go_fit (HA _);rintro e w2 ⟨rfl,hb2⟩;have D3 := ((Ad hb1 hb2).block _ (lt_of_block B3)).trans B3;have r0 :=Aa D3 (j :=0) (u := .string noW) rfl;have r1 :=Aa D3 (j :=1) (u := .string noW) rfl;have r2 :=Aa D3 (j :=2) (u := .string noW) rfl;have f0 :w2.frozen? ⟨w.heap.size+3,0,none⟩ =false := (by simp [World.frozen?,D3]);have f1 :w2.frozen? ⟨w.heap.size+3,1,none⟩ =false := (by simp [World.frozen?,D3]);have f2 :w2.frozen? ⟨w.heap.size+3,2,none⟩ =false := (by simp [World.frozen?,D3]))))
 exact N3 _ _ _ Tryz.results9 rfl rfl D3 (Ad hbW (Ad hb1 hb2)) (by omega) Tryz.underlying53 (by kernel_rfl)
end Go.Proofs.YthehiijgnepcfaaGreat

namespace Go.Proofs.YthehiijgnepcfaaGreat
open Go.RowKit
theorem Iw {α β :Type} {g :α→Option β} : ∀ {R :List α},R.Nodup→ (∀x∈R,∀y∈R,∀r,g x=some r→g y=some r→x=y) → (R.filterMap g).Nodup
 | [],_,_=>by simp
 | a ::R,hn,hi=>by
  rw [List.nodup_cons] at hn
  have ih :=Iw hn.2 fun x hx y hy r=>hi x (by simp [hx]) y (by simp [hy]) r
  cases ha :g a with
  | none=>rw [List.filterMap_cons_none ha];exact ih
  | some b=>
   rw [List.filterMap_cons_some ha,List.nodup_cons]
   refine ⟨fun hb=> ?_,ih⟩
   obtain ⟨x,hx,hgx⟩ :=List.mem_filterMap.1 hb
   have :=hi a (by simp) x (by simp [hx]) b ha hgx
   exact hn.1 (by rw [this];exact hx)
theorem Yg {T :List Pg} (hT :Ap T) {k y :Wd} (h : (k,y) ∈flat T) :Cw (flat T) k=some y :=by
 cases hg :Cw (flat T) k with
 | none=>exact absurd rfl (Ai3.1 hg _ h)
 | some z=>
  have h2 :=Qf hg
  have hr : ((flat T).map Prod.fst).Nodup :=hT.rise.imp fun h=>Ex h
  have : ((k,z) :Wd×Wd) = (k,y) :=by
   have hinj : ∀ {F :List (Wd×Wd)},(F.map Prod.fst).Nodup→ ∀a∈F,∀b∈F,a.1=b.1→a=b :=by
    intro F
    induction F with
    | nil=>intro _ a ha;cases ha
    | cons c F ih=>
     intro hn a ha b hb hab
     rw [List.map_cons,List.nodup_cons] at hn
     rcases List.mem_cons.1 ha with rfl | ha'
     ·rcases List.mem_cons.1 hb with rfl | hb
      ·rfl
      ·exact (hn.1 (List.mem_map.2 ⟨b,hb,hab.symm⟩)).elim
     ·rcases List.mem_cons.1 hb with rfl | hb'
      ·exact (hn.1 (List.mem_map.2 ⟨a,ha',hab⟩)).elim
      ·exact ih hn.2 a ha' b hb' hab
   exact hinj hr _ h2 _ h rfl
  exact congrArg (fun p :Wd×Wd=>some p.2) this
section
variable {I :List IdxD} {t :TabD} {T :List Pg} {O :List (List V)}
theorem Acr (n :Nat) :Dt n noW=none :=rfl
theorem Rw (h :Kept I t (flat T) O) {x :Wd×Wd} (hx :x∈flat T) {r :List V} (hr :Dt t.cols.length x.2=some r) :r∈O∧x= (rk t r,str (Ax r).1) :=by
 obtain ⟨q,hq,hg⟩ := (h.mem x).1 hx
 rcases hg with e | ⟨_,e⟩
 ·obtain ⟨hl,hgd⟩ :=C6 (h.fit q hq)
  have h0 :0<t.cols.length :=by
   unfold Dt at hr
   split at hr
   ·split at hr
    ·rename_i hc;omega
    ·cases hr
   ·cases hr
  rw [e] at hr
  rw [Ny h0 hl hgd] at hr
  obtain rfl :=Option.some.inj hr
  exact ⟨hq,e⟩
 ·rw [e,Acr] at hr;cases hr
theorem Ud (h :Kept I t (flat T) O) (h0 :0<t.cols.length) {r :List V} (hr :r∈O) : (rk t r,str (Ax r).1) ∈flat T∧Dt t.cols.length (str (Ax r).1) =some r :=by
 obtain ⟨hl,hgd⟩ :=C6 (h.fit r hr)
 exact ⟨(h.mem _).2 ⟨r,hr, .inl rfl⟩,Ny h0 hl hgd⟩
theorem Ue (hT :Ap T) (h :Kept I t (flat T) O) (h0 :0<t.cols.length) (lo hi :Wd) (P :List V→Prop) (hP : ∀r∈O,P r→rq lo hi (rk t r,str (Ax r).1) =true) :
  (Df t.cols.length (rng T lo hi)).Nodup∧ (∀r∈Df t.cols.length (rng T lo hi),r∈O) ∧ ∀r∈O,P r→r∈Df t.cols.length (rng T lo hi) :=by
 have hn : ((rng T lo hi).map Prod.fst).Nodup := (hT.rise.sublist ((List.filter_sublist).map _)).imp fun h=>Ex h
 have hn2 : (rng T lo hi).Nodup :=by
  rw [List.Nodup,List.pairwise_map] at hn
  exact hn.imp fun h e=>h (by rw [e])
 have e :Df t.cols.length (rng T lo hi) = (rng T lo hi).filterMap fun x=>Dt t.cols.length x.2 :=by
  unfold Df;rw [List.filterMap_map];rfl
 rw [e]
 refine ⟨Iw hn2 fun x hx y hy r h1 h2=> ?_,fun r hr=> ?_,fun r hr hp=> ?_⟩
 ·rw [(Rw h (Km hx) h1).2,(Rw h (Km hy) h2).2]
 ·obtain ⟨x,hx,h1⟩ :=List.mem_filterMap.1 hr
  exact (Rw h (Km hx) h1).1
 ·obtain ⟨h1,h2⟩ :=Ud h h0 hr
  exact List.mem_filterMap.2 ⟨_,List.mem_filter.2 ⟨h1,hP r hr hp⟩,h2⟩
theorem Ael (hT :Ap T) (h :Kept I t (flat T) O) (h0 :0<t.cols.length) (K :List Wd) (hK :K.Nodup) (P :List V→Prop) (hP : ∀r∈O,P r→rk t r∈K) :
  (Bn t.cols.length (Em T K)).Nodup∧ (∀r∈Bn t.cols.length (Em T K),r∈O) ∧ ∀r∈O,P r→r∈Bn t.cols.length (Em T K) :=by
 have e :Bn t.cols.length (Em T K) =K.filterMap fun k=> (Cw (flat T) k).bind (Dt t.cols.length) :=by
  unfold Bn Em;rw [List.filterMap_filterMap]
 have hat : ∀ {k r},((Cw (flat T) k).bind (Dt t.cols.length)) =some r→r∈O∧k=rk t r :=by
  intro k r hk
  obtain ⟨y,hy,hr⟩ :=Option.bind_eq_some_iff.1 hk
  have :=Rw h (x := (k,y)) (Qf hy) hr
  exact ⟨this.1,congrArg Prod.fst this.2⟩
 rw [e]
 refine ⟨Iw hK fun x hx y hy r h1 h2=> ?_,fun r hr=> ?_,fun r hr hp=> ?_⟩
 ·rw [(hat h1).2,(hat h2).2]
 ·obtain ⟨x,hx,h1⟩ :=List.mem_filterMap.1 hr
  exact (hat h1).1
 ·obtain ⟨h1,h2⟩ :=Ud h h0 hr
  exact List.mem_filterMap.2 ⟨rk t r,hP r hr hp,by rw [Yg hT h1];exact h2⟩
end
theorem Zn {b k :Wd} {s :Sp} {l :List UInt8} (hk :k.data.toList=b.data.toList++l) (hin :H6 s l) (y :Wd) :rq (b++s.lo) (b++s.hi) (k,y) =true :=by
 unfold rq
 rw [Bm,Bm,hk,G0,G0,By,By,hin.1,hin.2];rfl
theorem Aas (t x :Wd) {v id :V} (hv :good v=true) (hid' :good id=true) :Ml t x (Fh x v id) =some (Gs t id) :=by
 have hpre : (Fh x v id).data.toList= (Dp x).data.toList++Bj [v,id] :=by
  rw [Fh,G0,Bt,Hi (by simp [hv,hid'])]
 have hp :Lib.hasPrefix (Fh x v id).data.toList (Dp x).data.toList=true :=by
  rw [hpre,Lib.hasPrefix,List.isPrefixOf_iff_prefix];exact List.prefix_append _ _
 have hr : (Kb x (Fh x v id)).data.toList=Bj [v,id] :=by
  show ((Lib.trimPrefix _ _).toArray).toList=_
  rw [Lib.trimPrefix,if_pos hp,hpre,List.drop_left]
 unfold Ml
 rw [if_pos hp,hr,Tz [v,id] (by simp [hv,hid'])]
 rfl
theorem Lq (at' :Int) (e :E) (t :TabD) : ∀ (I :List IdxD) (p :Sp×Wy),(I.foldl (B7 at' e t) p).2=p.2∨ ∃x∈I,0≤Dq t x∧ (I.foldl (B7 at' e t) p).2= ⟨x.name,Dp x.name++ (A3 at' (Dq t x) 40 e true).lo,Dp x.name++ (A3 at' (Dq t x) 40 e true).hi⟩
 | [],p=> .inl rfl
 | x ::I,p=>by
  rw [List.foldl_cons]
  rcases Lq at' e t I (B7 at' e t p x) with h | ⟨y,hy,h1,h2⟩
  ·rw [h]
   unfold B7
   split
   ·exact .inl rfl
   ·split
    ·rename_i hx _
     exact .inr ⟨x,by simp,by omega,rfl⟩
    ·exact .inl rfl
  ·exact .inr ⟨y,by simp [hy],h1,h2⟩
def Fq (n :Nat) (T :List Pg) (t :Wd) (W :Wy) :List (List V) :=if W.x=noW then Df n (rng T W.lo W.hi) else Rj n T t W.x W.lo W.hi
theorem Acs {ct :CatD} {t :TabD} {T :List Pg} {O :List (List V)} (hT :Ap T) (h :Kept ct.indexes t (flat T) O) (h0 :0<t.cols.length) (e :E) (hcat :C8 ct=true) (hxn : ∀x∈ct.indexes,x.name≠noW) :
  (Fq t.cols.length T t.name (Cu ct t 0 e)).Nodup∧ (∀r∈Fq t.cols.length T t.name (Cu ct t 0 e),r∈O) ∧ ∀r∈O,(geB 40 e=true→ofV (ev r e) =1) →r∈Fq t.cols.length T t.name (Cu ct t 0 e) :=by
 have hgood : ∀r∈O,r.length=t.cols.length∧ ∀v∈r,good v=true :=fun r hr=>C6 (h.fit r hr)
 have hhd : ∀r∈O,good (r.headD zero) =true :=fun r hr=>by
  obtain ⟨hl,hg⟩ :=hgood r hr
  cases r with
  | nil=>simp at hl;omega
  | cons a r=>exact hg a (by simp)
 have hrk : ∀r∈O,(rk t r).data.toList= (Ek t.name).data.toList++keyOf (r.headD zero) :=fun r hr=>by
  rw [rk,Gs,G0,Bt,Kl (hhd r hr)]
 have hrowV : ∀ (r :List V) (k :Int),0≤k→Gz r (0+k) =r.getD k.toNat zero :=fun r k hk=>by
  rw [Gz,if_pos (by omega),Int.zero_add,List.getD_eq_getElem?_getD]
 unfold Cu
 by_cases hge :geB 40 e=true
 ·rw [if_pos hge,if_pos hcat]
  rcases Lq 0 e t ct.indexes (Fd 0 e t) with hc | ⟨x,hx,hi,hc⟩
  ·rw [hc]
   unfold Fq Fd
   rw [if_pos rfl]
   refine Ue hT h h0 _ _ (fun r=>geB 40 e=true→ofV (ev r e) =1) fun r hr hp=> ?_
   have hz :Gz r (0+0) =r.headD zero :=by
    rw [hrowV r 0 (by omega)]
    cases r<;>rfl
   have hs :=Pt 0 0 r [] rfl (by rw [hz];exact hhd r hr) 40 e true hge (hp hge)
   rw [hz,List.append_nil] at hs
   exact Zn (hrk r hr) hs _
  ·rw [hc]
   unfold Fq
   rw [if_neg (hxn x hx)]
   unfold Rj
   refine Ael hT h h0 _ (X4 _) (fun r=>geB 40 e=true→ofV (ev r e) =1) fun r hr hp=> ?_
   rw [Abm]
   have hidx : (Dq t x).toNat<t.cols.length :=by
    rcases Qd t x with hq | ⟨p,hq,hp'⟩
    ·omega
    ·rw [hq];simpa using hp'
   obtain ⟨hl,hg⟩ :=hgood r hr
   have hv :good (r.getD (Dq t x).toNat zero) =true :=by
    rw [List.getD_eq_getElem?_getD,List.getElem?_eq_getElem (by omega)]
    exact hg _ (List.getElem_mem _)
   have hmem : (Fh x.name (r.getD (Dq t x).toNat zero) (r.headD zero),noW) ∈flat T :=
    (h.mem _).2 ⟨r,hr, .inr ⟨List.mem_filterMap.2 ⟨x,hx,by rw [Mi,if_pos hi]⟩,rfl⟩⟩
   have hok :okT (keyOf (r.headD zero)) :=by
    obtain ⟨s,hs⟩ :=G4 (hhd r hr)
    unfold okT
    rw [hs]
    refine Dv ?_ _ _
    rcases Ed (hhd r hr) with q | q | q<;>rw [q] <;>decide
   have hs :=Pt 0 (Dq t x) r (keyOf (r.headD zero)) hok (by rw [hrowV r _ hi];exact hv) 40 e true hge (hp hge)
   rw [hrowV r _ hi] at hs
   have hik : (Fh x.name (r.getD (Dq t x).toNat zero) (r.headD zero)).data.toList= (Dp x.name).data.toList++ (keyOf (r.getD (Dq t x).toNat zero) ++keyOf (r.headD zero)) :=by
    rw [Fh,G0,Bt,Hi (by simp only [List.forall_mem_cons];exact ⟨hv,hhd r hr,fun _ h=>absurd h List.not_mem_nil⟩)]
    simp [Bj]
   refine List.mem_filterMap.2 ⟨_,List.mem_map.2 ⟨_,List.mem_filter.2 ⟨hmem,Zn hik hs _⟩,rfl⟩, ?_⟩
   exact Aas t.name x.name hv (hhd r hr)
 ·rw [if_neg hge]
  unfold Fq
  rw [if_pos rfl]
  exact Ue hT h h0 _ _ _ fun r hr _=>Ab4 (hhd r hr) _
end Go.Proofs.YthehiijgnepcfaaGreat

