/-
  4 texts of this proof in one, in build order: RGrow2, RStmW, RScr, RStmA.
-/
import Derived.BigRegion
import Derived.Deep.Cut
import Derived.Deep.LoopGhost
import Derived.Deep.CutRange
import Derived.Deep.RegionHeld3
import Derived.Test.YtifjaegfpdjikaaGreatDoorJ14
import Derived.Test.YtifjaegfpdjikaaGreatDoorJ16
import Derived.Test.YtifjaegfpdjikaaGreatDoorJ17
import Derived.Test.YtifjaegfpdjikaaGreatDoorJ18
import Derived.Test.YtifjaegfpdjikaaGreatDoorJ19
set_option linter.unusedSimpArgs false
set_option linter.unusedVariables false
namespace Go.Proofs.YtifjaegfpdjikaaGreatDoor
open Go.RowKit
theorem Z2 {base size n :Nat} {t :TypeId} {w w' :World} {z :Value} {cs :List Value} (h :w.ownsRow base t size z n cs) (hk : ∀g,z.ownBlock=some g→g<w.heap.size→w'.heap[g]? =w.heap[g]?) :w'.ownsRow base t size z n cs :=by
 obtain ⟨h1,h2⟩ :=h
 refine ⟨h1, ?_⟩
 rcases h2 with h2 | ⟨g,cap,cur,hv,hg,hh,r⟩
 ·exact .inl h2
 ·exact .inr ⟨g,cap,cur,hv,hg,by rw [hk g (by rw [hv];rfl) (lt_of_block hh)];exact hh,r⟩
def Side.grow {α :Type} (K :Elem α) (t :TypeId) (base :Nat) (S :Side) (z :Value) (acc :List α) :Side where
 P F w := ∃cs,w.ownsRow base t K.size z acc.length cs∧ (∀g,z.ownBlock=some g→F g) ∧All K (fun k=>F k∧FO base z k) w acc cs∧S.P (fun k=>F k∧FO base z k) w
 keep :=by
  rintro F w w' hk ⟨cs,h1,h2,h3,h4⟩
  have kk :Keeps (fun k=>F k∧FO base z k) w w' :=hk.mono (fun k h=>h.1)
  exact ⟨cs,Z2 h1 (fun g hg hl=>hk.block g (h2 g hg) hl),h2,All.keep kk h3,S.keep kk h4⟩
 mono :=by
  rintro F F' w hm ⟨cs,h1,h2,h3,h4⟩
  exact ⟨cs,h1,fun g hg=>hm g (h1.lt g hg).2 (h2 g hg),All.mono (fun k hl h=> ⟨hm k hl h.1,h.2⟩) h3,S.mono (fun k hl h=> ⟨hm k hl h.1,h.2⟩) h4⟩
theorem E5.asSide {α :Type} {K :Elem α} {t :TypeId} {base :Nat} {S :Side} {w :World} {z :Value} {acc :List α} (h :E5 K t base S w z acc) : (Side.grow K t base S z acc).P (Fr base) w :=by
 obtain ⟨cs,h1,h2,h3⟩ :=h
 exact ⟨cs,h1,fun g hg=> (h1.lt g hg).1,All.mono (fun k _ hk=> ⟨hk.1,hk⟩) h2,S.mono (fun k _ hk=> ⟨hk.1,hk⟩) h3⟩
theorem E5.ofSide {α :Type} {K :Elem α} {t :TypeId} {base :Nat} {S :Side} {w :World} {z :Value} {acc :List α} {F :Nat→Prop} (h : (Side.grow K t base S z acc).P F w) :E5 K t base S w z acc :=by
 obtain ⟨cs,h1,_,h2,h3⟩ :=h
 exact ⟨cs,h1,All.mono (fun k _ hk=>hk.2) h2,S.mono (fun k _ hk=>hk.2) h3⟩
end Go.Proofs.YtifjaegfpdjikaaGreatDoor

namespace Go.Proofs.YtifjaegfpdjikaaGreatDoor
open Go.RowKit
theorem Fu {okk okx :Bool} {RX :Option E} {y :E} (h1 :RX=if okx=true then some y else none) (h : (okk&&okx) =true) :okk=true∧RX=some y :=by
 simp only [Bool.and_eq_true] at h
 rw [h1,h.2]
 exact ⟨h.1,rfl⟩
theorem Lv {okk okx :Bool} {RX :Option E} {y :E} (h1 :RX=if okx=true then some y else none) (h : (okk&&okx) =false) :okk=false∨RX=none :=by
 cases okk
 ·exact .inl rfl
 ·simp only [Bool.true_and] at h
  rw [h1,h]
  exact .inr rfl
theorem V4 {m i :List Wd} (h :D3 m=some i) :i=Ez m :=by
 unfold D3 at h
 split at h
 ·cases h;rfl
 ·cases h
set_option maxRecDepth 100000 in
set_option maxHeartbeats 4000000 in
theorem Og (sl :Value) (L :List Wd) (t :Wd) (m :List Wd) (hn :nm t=true) (hm :m≠ []) (hml :m.length≤1600) (hwm :Whole m) (w :World) (he :Env w) (hL :Ak w sl L) (hw :Whole L) (hk0 :L.take 2≠ [Au,A5]) (hk1 :L.take 2≠ [Au,B7]) (hk2 :L.take 2≠ [Cg,A5]) (hk3 :L.take 2= [Bv,E6]) (hrest :L.drop 2= (t ::Ct ::m)) :
  Calls Tryz.prog 13 #[sl] w (Cv ((Bt F5 (Bf m)).map fun rs=> {Bg 4 with table :=t,rows :=rs}) w) :=by
 have H0 :=Bz Ch he hL hw hk0 (Ai 0)
 have H1 :=Bz Dh he hL hw hk1 (Ai 0)
 have H2 :=Bz Gi he hL hw hk2 (Ai 0)
 have H3 :=D4 Hg he hL hw hk3 (Ai 0)
 rw [show (L.drop [Bv,E6].length) = (t ::Ct ::m) from hrest] at H3
 clear hk0 hk1 hk2 hk3 hrest hw
 generalize hRd : ((Bt F5 (Bf m)).map fun rs=> {Bg 4 with table :=t,rows :=rs}) =R
 have HRD :Hid _ :=hRd
 clear hRd
 have s1 :=Dj w sl
 have s0 :=Di w sl
 obtain ⟨a0,n0,cap0,rfl,hn0⟩ :=Ax hL
 clear hL hn0
 generalize hW0 : ((((w.alloc (.cells #[.slice a0 n0 cap0] 32)).alloc (.cells Ah 39)).alloc (.cells Ah 39)).setRow (w.heap.size+2) (Ai 0)) =W0 at s0
 have HW0 :Hid _ :=hW0
 clear hW0
 go_enter Tryz.func13,Tryz.ntmps13
 go_upto_region 2 with (refine wpList_store_row rfl 39 _ _ rfl (w.heap.size+2) (Ai 0) rfl rfl 39 Ah s1 Af rfl Fc ?_)
 rw [HW0.out,show w.heap.size+1+1=w.heap.size+2 from rfl]
 have hS :=s0
 clear s0 s1 HW0
 go_upto_region 33 with (first
   | (go_at_call 27;go_fit (H0 _ hS);clear hS;rintro e W ⟨rfl,hS⟩)
   | (go_at_call 27;go_fit (H1 _ hS);clear hS;rintro e W ⟨rfl,hS⟩)
   | (go_at_call 27;go_fit (H2 _ hS);clear hS;rintro e W ⟨rfl,hS⟩)
   | (go_at_call 27;go_fit (H3 _ hS);clear hS;rintro e W ⟨rfl,ao,n,c,hS,hl⟩;have c0 :W.cell? ⟨w.heap.size,0,none⟩ =some (.slice ao n c) :=Aa hS.l rfl))
 have hm0 :0<m.length :=by cases m with | nil=>exact absurd rfl hm | cons=>simp
 obtain ⟨b,off,cap,hsl,hcap,hcell⟩ :=A0 (hl.below hS.b) (by simp)
 cases hsl
 obtain ⟨hblw,hq1,hq2,hcw⟩ :=A7 hl (by simp)
 have KS :Hid (∀V,Below w.heap.size w V→V.cell? ⟨b,off,none⟩ =some (.string t) ∧V.cell? ⟨b,off+1,none⟩ =some (.string Ct)) :=fun V h=> ⟨(h.cell (p := ⟨b,off,none⟩) hblw).trans (hcw 0 _ rfl),(h.cell (p := ⟨b,off+1,none⟩) hblw).trans (hcw 1 _ rfl)⟩
 have HL1 :Hid (Ak w (.slice (some ⟨b,off,none⟩) (t ::Ct ::m).length c) (t ::Ct ::m)) :=hl
 have q0 : ¬ ((t ::Ct ::m).length :Int) <3 :=by simp only [List.length_cons];omega
 have q1 : (0 :Int) < ((t ::Ct ::m).length :Int) :=by simp only [List.length_cons];omega
 have q2 : (1 :Int) < ((t ::Ct ::m).length :Int) :=by simp only [List.length_cons];omega
 have q3 : (2 :Int) ≤ ((t ::Ct ::m).length :Int) :=by simp only [List.length_cons];omega
 have q4 :0< (t ::Ct ::m).length :=by simp
 have hbne :b≠w.heap.size+2 :=by omega
 have key :Hid _ :=Gz (b :=b) (off :=off) (cap :=c) (k :=2) (L :=t ::Ct ::m) (by omega) (by simp)
 have NM :=Da he hn W hS.b
 clear hcell hcw hq1 hq2 hcap hl
 obtain ⟨x0,x1⟩ :=KS.out W hS.b
 generalize hnn : (t ::Ct ::m).length=nn at*
 go_upto_region 35 with (go_at_call 7;go_must (go_fit NM;rintro e W1 ⟨rfl,hb1⟩;have hS1 :=hS.next hb1;obtain ⟨x0,x1⟩ :=KS.out W1 hS1.b;have c1 :W1.cell? ⟨w.heap.size,0,none⟩ =some (.slice (some ⟨b,off,none⟩) nn c) :=Aa hS1.l rfl;have s0 :W1.cell? ⟨w.heap.size+2,0,none⟩ =some (.int .i64 0) :=Aa hS1.s rfl;have s2 :W1.cell? ⟨w.heap.size+2,2,none⟩ =some (.string noW) :=Aa hS1.s rfl;have f0 :=Ab hS1.s 0;have f2 :=Ab hS1.s 2))
 go_region
 have hS2 := (((hS1).set 0 (.int .i64 4)).set 2 (.string t)).drew
 simp only [List.setIfInBounds_toArray,List.set_cons_zero,List.set_cons_succ] at hS2
 generalize ((W1.setCell ⟨w.heap.size+2,0,none⟩ (.int .i64 4)).setCell ⟨w.heap.size+2,2,none⟩ (.string t)).drew=W3 at hS2⊢
 clear hS1 hS KS NM x0 x1 c0 c1 s0 s2 f0 f2 hb1
 have c3 :W3.cell? ⟨w.heap.size,0,none⟩ =some (.slice (some ⟨b,off,none⟩) nn c) :=Aa hS2.l rfl
 have PB :=fun v (h :Ak w v m) =>Ii v m w W3 hml h hS2.b
 have hpl :=Ij m
 have HWI :Hid (∀P∈Bf m,Whole P∧P.length≤1600) :=fun P hP=>by have h :=Hh hwm P hP;exact ⟨h.1,by omega⟩
 have key2 :=key.out
 subst hnn
 have HLL :=HL1.out
 clear key HL1 hwm
 go_upto_region 36 with fail
 go_cut [242,243,244] from 240 to 244 (fun s242 s243 s244 wx=> ∃aop cp vs,s242= .slice aop (Bf m).length cp∧s243= .int .i64 (Bf m).length∧s244= .int .i64 0∧E8 (Fr W3.heap.size) 1 wx (.slice aop (Bf m).length cp) (Bf m).length vs∧Ig w vs (Bf m) ∧Below W3.heap.size W3 wx)
 case first=>
  rcases key2 with ⟨rfl,hdr⟩ | ⟨hcc,hdr⟩
  all_goals
   have PB2 :=PB _ (hdr w HLL)
   clear hdr PB HLL HWI HRD
   generalize Bf m=Ls at*
   generalize (t ::Ct ::m).length=nn at*
   go_wp2_with (go_at_call 34;go_must (go_fit PB2;rintro e W4 ⟨sv,vs,rfl,hrow,hparts,hb4⟩;obtain ⟨aop,cp,rfl⟩ :=hrow.shape))
   go_meet
   case rel=>exact ⟨_,_,_,rfl,rfl,rfl,hrow,hparts,hb4⟩
 case rest=>
  obtain ⟨aop,cp,vs,rfl,rfl,rfl,hrow,hparts,hb4⟩ :=hcut
  obtain ⟨W4,hW4⟩ : ∃V,V=wc := ⟨_,rfl⟩
  subst hW4
  clear key2 PB HLL
  generalize Bf m=Ls at*
  generalize (t ::Ct ::m).length=nn at*
  have hS4 :=hS2.next hb4
  have hsz3 :=hS2.size
  have hG0 :E5 Jl 33 (w.heap.size+3) (Side.row 1 (.slice aop Ls.length cp) Ls.length vs) W4 (.slice none 0 0) [] :=E5.nil (hrow.mono fun k _ hk=>Nat.le_trans hsz3 hk)
  clear hrow hb4 hS2 hsz3 c3
  go_wp2_with fail
  go_loopg [7,244] Ls.length (fun f okv ix wr=> ∃ (k :Nat) (acc :List (List E)) (z :Value) (okk :Bool),ix= .int .i64 k∧okv= .bool okk∧k+f=Ls.length∧S3 w wr (.slice (some ⟨b,off,none⟩) nn c) (sA 4 noW t noW (.slice none 0 0) z (.slice none 0 0) (.slice none 0 0) (.slice none 0 0) 0 0 0 noW noW noW 0 (.slice none 0 0) (.slice none 0 0) false (-1)) ∧E5 Jl 33 (w.heap.size+3) (Side.row 1 (.slice aop Ls.length cp) Ls.length vs) wr z acc∧Hid ((okk=true→Bt F5 (Ls.take k) =some acc) ∧ (okk=false→R=none) ∧acc.length=k))
  case atStart=>exact ⟨0,[],_,true,rfl,rfl,by simp,hS4,hG0,fun _=>rfl,(fun h=>by cases h),rfl⟩
  case round=>
   clear hG0 hS4
   obtain ⟨k,acc,z,okk,rfl,rfl,hkf,hS,hG,HA⟩ :=hrel
   obtain ⟨az,cz,hz⟩ :=hG.isL.shape
   subst hz
   by_cases hlt :k<Ls.length
   ·obtain ⟨P,hP⟩ : ∃P,Ls[k]? =some P := ⟨_,List.getElem?_eq_getElem hlt⟩
    obtain ⟨v,hv,hvP⟩ :=H8 hparts hP
    obtain ⟨br,or',hceq,hcv⟩ : ∃br or',aop=some ⟨br,or',none⟩ ∧wr.cell? ⟨br,or'+k,none⟩ =some v :=by
     rcases (hG.side).2 with ⟨h0,_⟩ | ⟨_,b',o',c',he',_,_,_,_,hc⟩
     ·omega
     ·cases he';exact ⟨b',o',rfl,hc k v hv⟩
    subst hceq
    have hwP := (HWI.out P (List.mem_of_getElem? hP)).1
    have hlP := (HWI.out P (List.mem_of_getElem? hP)).2
    have HBAD :Hid (F5 P=none→R=none) :=fun h=>by rw [←HRD.out,I0 hP h];rfl
    have HNXT :Hid (∀y,okk=true→F5 P=some y→Bt F5 (Ls.take (k+1)) =some (acc++ [y])) :=fun y h1 hy=>by rw [H9 hP,HA.out.1 h1,hy];rfl
    have HOFF :Hid (okk=false→R=none) :=HA.out.2.1
    have HACC :Hid (acc.length=k) :=HA.out.2.2
    have hLs :Ls.length≤1601 :=by omega
    have hab :acc.length≤1601 :=by have :=HA.out.2.2;omega
    have IN :=M7 v P wr hlP (hvP.below hS.b)
    obtain ⟨av,nv,cv,rfl,hnv⟩ :=Ax hvP
    have j1 : (k :Int) < (Ls.length :Int) :=by omega
    have j0 : (0 :Int) ≤ (k :Int) :=by omega
    have HVP :Hid _ :=hvP
    obtain ⟨go,hgo,hkf2⟩ : ∃go,go<gk∧k+1+go=Ls.length := ⟨gk - 1,by omega,by omega⟩
    clear hv hP hparts HA HWI HRD hnv hvP
    cases hin :D3 P with
    | none=>
     rw [hin] at IN
     have HB :Hid (R=none) :=HBAD.out (by rw [F5,hin];rfl)
     clear HBAD HNXT HVP hin
     have hone : (sA 4 noW t noW (.slice none 0 0) (.slice az acc.length cz) (.slice none 0 0) (.slice none 0 0) (.slice none 0 0) 0 0 0 noW noW noW 0 (.slice none 0 0) (.slice none 0 0) false (-1)).all (·.oneCell') =true :=Bc (sl7 _ _ _ _ _ _ _ _ _ _ _ _ _ _ _ _ _ _ _ _ _)
     go_wp2_with (first
      | (go_at_call 33;go_must (go_fit IN;rintro e W ⟨ao3,n3,c3,ok3,rfl,hok,hb3⟩;have hS :=hS.next hb3;obtain rfl :ok3=false := (by cases ok3 with | false=>rfl | true=>simp at hok);clear hok))
      | refine wpList_load_row rfl 39 _ rfl (w.heap.size+2) rfl 39 _ _ _ hS.s Tryz.underlying39 rfl Af ?_
      | refine wpList_store_row rfl 39 _ _ rfl (w.heap.size+1) _ rfl rfl 39 Ah hS.r Af rfl hone ?_)
     exact bodyPost_ret (v := .tuple #[.agg (sA 4 noW t noW (.slice none 0 0) (.slice az acc.length cz) (.slice none 0 0) (.slice none 0 0) (.slice none 0 0) 0 0 0 noW noW noW 0 (.slice none 0 0) (.slice none 0 0) false (-1)), .bool false]) (Ay Tryz.results13 _ _ (w.heap.size+1) 39 _ _ _ _ rfl rfl (Am hS.r) Tryz.underlying39 rfl Af) rfl (A4 (ok :=false) hS (sl7 _ _ _ _ _ _ _ _ _ _ _ _ _ _ _ _ _ _ _ _ _) HB.out)
    | some Q=>
     rw [hin] at IN
     have HRW :Hid (F5 P=Bt Dn (Bf Q)) :=by show F5 P=_;rw [F5,hin];rfl
     have hQ :=V4 hin
     have hwQ :Hid (Whole Q) :=by show Whole Q;rw [hQ];exact (hwP.drop 1).take _
     have hlQ :Q.length≤1600 :=by rw [hQ];simp [Ez];omega
     clear hin hQ
     go_upto_region 42 with (go_at_call 33;go_must (go_fit IN;rintro e W ⟨ao3,n3,c3,ok3,rfl,hok,hb3⟩;have hS :=hS.next hb3;have hG :=hG.below hb3;obtain rfl :ok3=true := (by cases ok3 with | true=>rfl | false=>simp at hok);simp only [if_true] at hok;have HOK :Hid _ :=hok;clear hok))
     have hQs :Ak w (.slice ao3 n3 c3) Q :=by obtain ⟨e1,e2⟩ :=HOK.out;cases e1;exact e2 w HVP.out
     have PQ :=Ii (.slice ao3 n3 c3) Q w W hlQ hQs hS.b
     have hpq :=Ij Q
     have HWQ :Hid (∀X∈Bf Q,Whole X∧X.length≤1600) :=fun X hX=>by have h :=Hh hwQ.out X hX;exact ⟨h.1,by omega⟩
     clear HOK HVP hQs IN hwP hwQ
     generalize Bf Q=Ps at*
     go_wp2_with (go_at_call 34;go_must (go_fit PQ;rintro e W5 ⟨sv,vs2,rfl,hrow,hparts,hb5⟩;obtain ⟨ap,cp2,rfl⟩ :=hrow.shape;have hS5 :=hS.next hb5;have hG5 :=hG.below hb5))
     have HROW :Hid (E8 (Fr W.heap.size) 1 W5 (.slice ap Ps.length cp2) Ps.length vs2) :=hrow
     have hfar :=I2 hG5 hS5.size
     clear hrow hb5 hG PQ hS
     go_loopg [7,18,259] Ps.length (fun f okv rv ix wr=> ∃ (j :Nat) (racc :List E) (okj :Bool),ix= .int .i64 j∧okv= .bool okj∧j+f=Ps.length∧E5 Dc 37 W5.heap.size Side.none wr rv racc∧Below W5.heap.size W5 wr∧Hid ((okj=true→okk=true∧Bt Dn (Ps.take j) =some racc) ∧ (okj=false→R=none) ∧racc.length=j))
     case atStart=>exact ⟨0,[],okk,rfl,rfl,by simp,E5.nil trivial,Below.refl _ _,(fun h=> ⟨h,rfl⟩),HOFF.out,rfl⟩
     case round=>
      obtain ⟨j,racc,okj,rfl,rfl,hjf,hR,hB,HJ⟩ :=hrel
      obtain ⟨ar,cr,hz⟩ :=hR.isL.shape
      subst hz
      have hS :=hS5.next hB
      by_cases hlt2 :j<Ps.length
      ·obtain ⟨X,hX⟩ : ∃X,Ps[j]? =some X := ⟨_,List.getElem?_eq_getElem hlt2⟩
       obtain ⟨vx,hvx,hvX⟩ :=H8 hparts hX
       obtain ⟨bq,oq,hceq,hcq⟩ : ∃bq oq,ap=some ⟨bq,oq,none⟩ ∧wr.cell? ⟨bq,oq+j,none⟩ =some vx :=by
        rcases (E8.keep HROW.out (Bb hB)).2 with ⟨h0,_⟩ | ⟨_,b',o',c',he',_,_,_,_,hc⟩
        ·omega
        ·cases he';exact ⟨b',o',rfl,hc j vx hvx⟩
       subst hceq
       have hwX :=HWQ.out X (List.mem_of_getElem? hX)
       have HXB :Hid (Dn X=none→R=none) :=fun h=>HBAD.out (by rw [HRW.out];exact I0 hX h)
       have HXN :Hid (∀y,okj=true→Dn X=some y→okk=true∧Bt Dn (Ps.take (j+1)) =some (racc++ [y])) :=fun y h1 hy=> ⟨(HJ.out.1 h1).1,by rw [H9 hX,(HJ.out.1 h1).2,hy];rfl⟩
       have HXO :Hid (okj=false→R=none) :=HJ.out.2.1
       have HRA :Hid (racc.length=j) :=HJ.out.2.2
       have hrb :racc.length≤1601 :=by have :=HJ.out.2.2;omega
       have EX :=Gy vx X wr hwX.2 hwX.2 (he.next hS.b) (hvX.below hS.b) hwX.1
       obtain ⟨avx,nvx,cvx,rfl,hnvx⟩ :=Ax hvX
       have i1 : (j :Int) < (Ps.length :Int) :=by omega
       have i0 : (0 :Int) ≤ (j :Int) :=by omega
       obtain ⟨gi,hgi,hjf2⟩ : ∃gi,gi<gk∧j+1+gi=Ps.length := ⟨gk - 1,by omega,by omega⟩
       clear hnvx hvX hX hvx hwX HJ
       go_upto_region 47 with (go_at_call 32;go_must (go_fit EX;have hyF :=I2 hR hB.size;rintro e W6 ⟨ve,okx,y,rfl,hEy,hRy,hbe⟩;have HRY :Hid _ :=hRy;clear hRy;obtain ⟨yop,yv,ys,ynm,yn,yao,ykk,yc,rfl⟩ :=hEy.shape;obtain ⟨yk,yi,ys2⟩ :=yv))
       have hbV :Below W6.heap.size W6 (W6.alloc (.cells #[.int .i64 yop, .int .i64 yk, .int .i64 yi, .string ys2, .string ys, .string ynm, .int .i64 yn, .slice yao ykk yc] 37)) := (Below.refl _ _).alloc (Nat.le_refl _) _
       have hB6 :Below W5.heap.size W5 W6 :=hB.trans (hbe.mono hB.size)
       have hBV :Below W5.heap.size W5 (W6.alloc (.cells #[.int .i64 yop, .int .i64 yk, .int .i64 yi, .string ys2, .string ys, .string ynm, .int .i64 yn, .slice yao ykk yc] 37)) :=hB6.trans (hbV.mono hB6.size)
       have bE : (W6.alloc (.cells #[.int .i64 yop, .int .i64 yk, .int .i64 yi, .string ys2, .string ys, .string ynm, .int .i64 yn, .slice yao ykk yc] 37)).heap[W6.heap.size]? =some (.cells #[.int .i64 yop, .int .i64 yk, .int .i64 yi, .string ys2, .string ys, .string ynm, .int .i64 yn, .slice yao ykk yc] 37) :=Ad W6 _
       have hRV := (hR.below hbe).below hbV
       have hEV :=IsE.keep (Bb hbV) _ _ (IsE.mono (fun k' _ hk'=>hyF k' hk') _ _ hEy)
       generalize hV :W6.alloc (.cells #[.int .i64 yop, .int .i64 yk, .int .i64 yi, .string ys2, .string ys, .string ynm, .int .i64 yn, .slice yao ykk yc] 37) =V at*
       go_cut [7] from 268 to 271 (fun s7 wx=>s7= .bool (okj&&okx) ∧wx=V)
       case first=>
        cases okj
        all_goals
         go_wp2_with fail
         go_meet
         case rel=>exact ⟨rfl,rfl⟩
       case rest=>
        obtain ⟨rfl,hwc⟩ :=hcut
        rw [hwc]
        clear hwc hV hbV hyF hEy EX hR
        generalize W6.heap.size=pe at*
        obtain ⟨l0,l1,l2,l3,l4,l5,l6,l7⟩ :=Cq bE rfl
        obtain ⟨cs,hown,hall,hside⟩ :=hRV.below ((Below.refl _ _).alloc (Nat.le_refl _) (.cells [.int .i64 yop, .int .i64 yk, .int .i64 yi, .string ys2, .string ys, .string ynm, .int .i64 yn, .slice yao ykk yc].toArray 37))
        have hnew :=B2 V [.int .i64 yop, .int .i64 yk, .int .i64 yi, .string ys2, .string ys, .string ynm, .int .i64 yn, .slice yao ykk yc] 37
        have hbase :W5.heap.size≤ (V.alloc (.cells [.int .i64 yop, .int .i64 yk, .int .i64 yi, .string ys2, .string ys, .string ynm, .int .i64 yn, .slice yao ykk yc].toArray 37)).heap.size :=Nat.le_trans hBV.size (by simp)
        have HALL :Hid _ :=hall
        have HSIDE :Hid _ :=hside
        have HXY :Hid (Dc.R (FO W5.heap.size (.slice ar racc.length cr)) (V.alloc (.cells [.int .i64 yop, .int .i64 yk, .int .i64 yi, .string ys2, .string ys, .string ynm, .int .i64 yn, .slice yao ykk yc].toArray 37)) y [.int .i64 yop, .int .i64 yk, .int .i64 yi, .string ys2, .string ys, .string ynm, .int .i64 yn, .slice yao ykk yc]) := ⟨rfl,IsE.keep ((Keeps.refl _ _).alloc _) _ _ hEV⟩
        obtain ⟨i9,hi,hz0,hz1,hz2⟩ :=info_parts M6
        clear hall hside hRV hEV
        go_wp2_with (at_builtin;refine wpList_append_own_at _ rfl _ _ 33 rfl W5.heap.size 37 i9 (.agg #[.int .i64 0, .int .i64 0, .int .i64 0, .string ⟨#[]⟩, .string ⟨#[]⟩, .string ⟨#[]⟩, .int .i64 0, .slice none 0 0]) 8 104 Tryz.underlying33 hi hz0 hz1 hz2 rfl (by decide) _ _ _ rfl hown ⟨V.heap.size,0,none⟩ 1 1 [.int .i64 yop, .int .i64 yk, .int .i64 yi, .string ys2, .string ys, .string ynm, .int .i64 yn, .slice yao ykk yc] rfl rfl hnew ?h1 (by simp only [maxLen];omega) (by omega) hbase ?h2)
        case h1=>simp only [List.forall_mem_cons];repeat (first | exact fun _ h=>absurd h List.not_mem_nil | refine ⟨rfl, ?_⟩)
        case h2=>
         intro z2 w4 hown4 hg4 _ hat
         have hR4 :=E5.add (K :=Dc) (x :=y) HALL.out HSIDE.out HXY.out hown4 hg4 (by rw [World.size_alloc];exact hat)
         have hB4 :Below W5.heap.size W5 w4 := (hBV.alloc hBV.size _).trans (Bn hown hbase hg4)
         clear hown4 hg4 hat hown hnew HALL HSIDE HXY
         go_wp2_with fail
         go_roundg gi
         case measure=>exact hgi
         case rel=>exact ⟨j+1,racc++ [y],okj&&okx,by go_num,rfl,hjf2,hR4,hB4,(fun h=>HXN.out y (Fu HRY.out h).1 (Fu HRY.out h).2),(fun h=> (Lv HRY.out h).elim HXO.out HXB.out),by rw [List.length_append,HRA.out];rfl⟩
      ·have i1 : ¬ (j :Int) < (Ps.length :Int) :=by omega
       have HRF :Hid (okj=true→okk=true∧F5 P=some racc) :=fun h=>by
        obtain ⟨g1,g2⟩ :=HJ.out.1 h
        rw [List.take_of_length_le (show Ps.length≤j by omega)] at g2
        exact ⟨g1,HRW.out.trans g2⟩
       have HXO :Hid (okj=false→R=none) :=HJ.out.2.1
       have hGo :=hG5.below hB
       have hC :=hR.isL
       have s5 :wr.cell? ⟨w.heap.size+2,5,none⟩ =some (.slice az acc.length cz) :=Aa hS.s rfl
       have s5a : ∀o,(wr.alloc o).cell? ⟨w.heap.size+2,5,none⟩ =some (.slice az acc.length cz) :=fun o=>Aa (hS.alloc o).s rfl
       obtain ⟨cs,hown,hall,hside⟩ :=hGo.below ((Below.refl _ _).alloc (Nat.le_refl _) (.cells [.slice ar racc.length cr].toArray 33))
       have hnew :=B2 wr [.slice ar racc.length cr] 33
       have hbase :w.heap.size+3≤ (wr.alloc (.cells [.slice ar racc.length cr].toArray 33)).heap.size :=Nat.le_trans hS.size (by simp)
       have HALL :Hid _ :=hall
       have HSIDE :Hid _ :=hside
       have HXY :Hid (Jl.R (FO (w.heap.size+3) (.slice az acc.length cz)) (wr.alloc (.cells [.slice ar racc.length cr].toArray 33)) racc [.slice ar racc.length cr]) := ⟨_,rfl,(hC.mono (fun k' _ hk'=>hfar k' hk')).keep ((Keeps.refl _ _).alloc _)⟩
       obtain ⟨i9,hi,hz0,hz1,hz2⟩ :=info_parts Si
       clear hall hside hGo hC hR HJ
       go_wp2_with (at_builtin;refine wpList_append_own_at _ rfl _ _ 30 rfl (w.heap.size+3) 33 i9 (.slice none 0 0) 1 24 Tryz.underlying30 hi hz0 hz1 hz2 rfl (by decide) _ _ _ rfl hown ⟨wr.heap.size,0,none⟩ 1 1 [.slice ar racc.length cr] rfl rfl hnew ?h1 (by simp only [maxLen];omega) (by omega) hbase ?h2)
       case h1=>first | rfl | exact fun u hu=>by cases hu with | head=>rfl | tail _ h=>cases h
       case h2=>
        intro z2 w4 hown4 hg4 _ hat
        have hG4 :=E5.add (K :=Jl) (x :=racc) HALL.out HSIDE.out HXY.out hown4 hg4 (by rw [World.size_alloc];exact hat)
        have hS4 := (hS.alloc _).low (Bn hown hbase hg4)
        obtain ⟨az2,cz2,hz⟩ :=hG4.isL.shape
        rw [List.length_append,List.length_singleton] at hz
        subst hz
        have s54 :w4.cell? ⟨w.heap.size+2,5,none⟩ =some (.slice az acc.length cz) :=Aa hS4.s rfl
        have f54 :=Ab hS4.s 5
        have hS6 :=hS4.set 5 (.slice az2 (acc.length+1) cz2)
        simp only [List.setIfInBounds_toArray,List.set_cons_zero,List.set_cons_succ] at hS6
        have hG6 :=hG4.set (show w.heap.size+2<w.heap.size+3 by omega) 5 (.slice az2 (acc.length+1) cz2)
        clear hown4 hg4 hat hown hnew HALL HSIDE HXY hG4
        go_wp2_with fail
        go_roundg go
        case measure=>exact hgo
        case rel=>exact ⟨k+1,acc++ [racc],_,okj,by go_num,rfl,hkf2,hS6,hG6,(fun h=>HNXT.out racc (HRF.out h).1 (HRF.out h).2),HXO.out,by rw [List.length_append,HACC.out];rfl⟩
   ·have j1 : ¬ (k :Int) < (Ls.length :Int) :=by omega
    have HG :Hid (R=if okk=true then some {Bg 4 with table :=t,rows :=acc} else none) :=by
     show R=_
     cases okk
     ·exact HA.out.2.1 rfl
     ·have g2 :=HA.out.1 rfl
      rw [List.take_of_length_le (show Ls.length≤k by omega)] at g2
      rw [←HRD.out,g2];rfl
    have hC :IsL Jl (Fr (w.heap.size+3)) wr (.slice az acc.length cz) acc :=hG.isL
    clear HRD HA hG hparts HWI
    have hone : (sA 4 noW t noW (.slice none 0 0) (.slice az acc.length cz) (.slice none 0 0) (.slice none 0 0) (.slice none 0 0) 0 0 0 noW noW noW 0 (.slice none 0 0) (.slice none 0 0) false (-1)).all (·.oneCell') =true :=Bc (sl7 _ _ _ _ _ _ _ _ _ _ _ _ _ _ _ _ _ _ _ _ _)
    go_wp2_with (first
     | refine wpList_load_row rfl 39 _ rfl (w.heap.size+2) rfl 39 _ _ _ hS.s Tryz.underlying39 rfl Af ?_
     | refine wpList_store_row rfl 39 _ _ rfl (w.heap.size+1) _ rfl rfl 39 Ah hS.r Af rfl hone ?_)
    exact bodyPost_ret (v := .tuple #[.agg (sA 4 noW t noW (.slice none 0 0) (.slice az acc.length cz) (.slice none 0 0) (.slice none 0 0) (.slice none 0 0) 0 0 0 noW noW noW 0 (.slice none 0 0) (.slice none 0 0) false (-1)), .bool okk]) (Ay Tryz.results13 _ _ (w.heap.size+1) 39 _ _ _ _ rfl rfl (Am hS.r) Tryz.underlying39 rfl Af) rfl (A4 (ok :=okk) hS (sl7 _ _ _ _ _ _ _ _ _ _ _ _ _ _ _ _ _ _ _ _ _) (Q9 HG.out (D8 (IsL.nil _ _ _) hC (IsL.nil _ _ _) (IsL.nil _ _ _) (IsL.nil _ _ _) (Dy _ _) (IsL.nil _ _ _))))
end Go.Proofs.YtifjaegfpdjikaaGreatDoor

namespace Go.Proofs.YtifjaegfpdjikaaGreatDoor
open Go.RowKit
theorem Z3 : (Tryz.prog.info? 39).map (fun i=> (i.zero,i.size,i.bytes)) =some (some (.agg Ah),20,320) :=by kernel_rfl
theorem Z4 : ∀ (n :Nat) (l :List UInt8),l.length≤n→ ∀w∈By l,w.size≤l.length :=by
 intro n
 induction n with
 | zero=>intro l h w hw;simp at h;subst h;rw [Ju] at hw;simp at hw
 | succ n ih=>
  intro l h w hw
  have hd :=Hx B9 l
  rw [Ju] at hw
  split at hw
  ·simp at hw
  ·split at hw
   ·simp at hw;subst hw;exact Nat.zero_le _
   ·rename_i h1 h2
    rcases List.mem_cons.1 hw with rfl | hw
    ·rw [←Bi,Fx]
     simp;omega
    ·have :=ih ((l.dropWhile B9).drop (Bq (l.dropWhile B9))) (by simp;omega) w hw
     simp at this;omega
theorem Wu : ∀ {M :List Wd} {k :Nat},(∀j y,j<k→M[j]? =some y→y≠Cj) →M[k]? =some Cj→Hp M=some k
 | x ::M,0,_,h=>by simp at h;subst h;rfl
 | x ::M,k+1,h,hk=>by
  simp only [List.getElem?_cons_succ] at hk
  rw [Hp,if_neg (h 0 x (by omega) rfl),Wu (fun j y hj hy=>h (j+1) y (by omega) (by simpa using hy)) hk];rfl
 | [],_,_,h=>by simp at h
theorem Sp : ∀ {M :List Wd},(∀ (j :Nat) y,M[j]? =some y→y≠Cj) →Hp M=none
 | [],_=>rfl
 | x ::M,h=>by
  rw [Hp,if_neg (h 0 x rfl),Sp (fun j y hy=>h (j+1) y (by simpa using hy))];rfl
theorem Uz {M ws :List Wd} {k :Nat} (h :M=ws∨M=ws++ [noW]) (hw :Whole ws) (hk :M[k]? =some Cj) :Whole (M.take k) :=by
 rcases h with rfl | rfl
 ·exact hw.take k
 ·have hlt :k<ws.length :=by
   have h1 := (List.getElem?_eq_some_iff.1 hk).1
   simp at h1
   rcases Nat.lt_or_ge k ws.length with h2 | h2
   ·exact h2
   ·have e :k=ws.length :=by omega
    subst e
    simp at hk
  rw [List.take_append_of_le_length (by omega)]
  exact hw.take k
theorem V5 {M ws :List Wd} {k :Nat} (h :M=ws∨M=ws++ [noW]) (hk :M[k]? =some Cj) :M.drop (k+1) =ws.drop (k+1) ∨M.drop (k+1) =ws.drop (k+1) ++ [noW] :=by
 rcases h with rfl | rfl
 ·exact .inl rfl
 ·have hlt :k<ws.length :=by
   have h1 := (List.getElem?_eq_some_iff.1 hk).1
   simp at h1
   rcases Nat.lt_or_ge k ws.length with h2 | h2
   ·exact h2
   ·have e :k=ws.length :=by omega
    subst e
    simp at hk
  exact .inr (by rw [List.drop_append_of_le_length (by omega)])
theorem V6 {SR :Option (List Stm)} {RS :Option Stm} {st :Stm} {acc :List Stm} {X :Option (List Stm)} (h :SR= ((RS.bind fun s=>X.map fun ss=>s ::ss).map (acc++ ·))) (hs :RS=some st) :SR=X.map ((acc++ [st]) ++ ·) :=by
 rw [h,hs]
 cases X<;>simp
def F9 (T :List Wd) :List Stm×Int :=match Ei T with
 | none=> ([],1)
 | some l=>if 6<l.length then ([],2) else (l,0)
def Ov (r :List Stm×Int) (w :World) (e :Ending) (w' :World) :Prop := ∃sv,e= .returned (.tuple #[sv, .int .i64 r.2]) ∧IsL Fq (Fr w.heap.size) w' sv r.1∧Below w.heap.size w w'
theorem Abi {T :List Wd} (h :Ei T=none) :F9 T= ([],1) :=by rw [F9,h]
theorem Abj {T :List Wd} {l :List Stm} (h :Ei T=some l) (hl :6<l.length) :F9 T= ([],2) :=by rw [F9,h];simp [hl]
theorem Abk {T :List Wd} {l :List Stm} (h :Ei T=some l) (hl : ¬6<l.length) :F9 T= (l,0) :=by rw [F9,h];simp [hl]
def Wv :Prop := ∀ (sl :Value) (L :List Wd) (w :World),Env w→L.length≤1600→Ak w sl L→Whole L→Calls Tryz.prog 13 #[sl] w (Cv (G2 L) w)
set_option maxRecDepth 100000 in
set_option maxHeartbeats 2000000 in
theorem Th (t :Wd) (w :World) (hl :1500<t.size) :Calls Tryz.prog 5 #[.string t] w (Ov ([],2) w) :=by
 have q : (1500 :Int) < (t.size :Int) :=by omega
 go_enter Tryz.func5,Tryz.ntmps5
 go_wp2_with fail
 go_ret2
 exact ⟨_,rfl,IsL.nil _ _ _,Below.refl _ _⟩
set_option maxRecDepth 100000 in
set_option maxHeartbeats 4000000 in
theorem U0 (hst :Wv) (t :Wd) (w :World) (he :Env w) (hl : ¬1500<t.size) :Calls Tryz.prog 5 #[.string t] w (Ov (F9 (By t.data.toList)) w) :=by
 have q : ¬ (1500 :Int) < (t.size :Int) :=by omega
 have WO :=Zz t w (by omega)
 obtain ⟨ws0,hw1,hw2,hw3⟩ :=Wo _ t.data.toList (Nat.le_refl _)
 have hT : ∀x∈By t.data.toList,x.size≤1500 :=fun x hx=>by have :=Z4 _ _ (Nat.le_refl _) x hx;rw [Bi] at this;omega
 have hTl : (By t.data.toList).length≤1502 :=by
  rw [Bi] at hw3
  rcases hw1 with h | h
  ·rw [h];omega
  ·rw [h];simp;omega
 have hws :Whole ws0 :=fun x hx=> ⟨hw2 x hx,hT x (by rcases hw1 with h | h<;> (rw [h];simp [hx]))⟩
 have HR :Hid (Ei (By t.data.toList) = (Eh (By t.data.toList).length (By t.data.toList)).map ([] ++ ·)) :=by show Ei _=_;rw [Ei];cases Eh (By t.data.toList).length (By t.data.toList) <;>rfl
 have HN :Hid (Ei (By t.data.toList) =none→F9 (By t.data.toList) = ([],1)) :=Abi
 have HLG :Hid (∀l,Ei (By t.data.toList) =some l→6<l.length→F9 (By t.data.toList) = ([],2)) :=fun l=>Abj
 have HSO :Hid (∀l,Ei (By t.data.toList) =some l→ ¬6<l.length→F9 (By t.data.toList) = (l,0)) :=fun l=>Abk
 clear hw2 hw3 hT
 generalize Ei (By t.data.toList) =SR at*
 generalize F9 (By t.data.toList) =RO at*
 generalize By t.data.toList=T at*
 go_enter Tryz.func5,Tryz.ntmps5
 go_wp2_with (go_at_call 12;go_must (go_fit WO;rintro e W1 ⟨sv,rfl,hsv,hb1⟩;obtain ⟨a0,p0,rfl⟩ :=hsv.shape))
 have heW :=he.next hb1
 clear WO
 go_loopg [4,5] T.length (fun f x z wr=> ∃ (M :List Wd) (acc :List Stm) (ws :List Wd),Ak W1 x M∧E5 Fq 39 W1.heap.size Side.none wr z acc∧Hid ((M=ws∨M=ws++ [noW]) ∧Whole ws∧M.length≤f∧SR= (Eh f M).map (acc++ ·)) ∧acc.length+M.length≤1502∧Below W1.heap.size W1 wr)
 case atStart=>exact ⟨T,[],ws0,hsv,E5.nil trivial,⟨hw1,hws,Nat.le_refl _,HR.out⟩,by simpa using hTl,Below.refl _ _⟩
 case round=>
  obtain ⟨M,acc,ws,hM,hG,HI,hlen,hB⟩ :=hrel
  obtain ⟨az,cz,hz⟩ :=hG.isL.shape
  subst hz
  obtain ⟨ax,nx0,px,rfl,hnx⟩ :=Ax hM
  by_cases h0 :M.length=0
  ·have e0 :M= [] :=List.length_eq_zero_iff.1 h0
   have j0 : ¬ (0 :Int) < (nx0 :Int) :=by omega
   have HS :Hid (SR=some acc) :=by
    show SR=_
    rw [HI.out.2.2.2,e0]
    cases gk<;>simp [Eh]
   clear hnx hM
   by_cases h6 :6<acc.length
   ·have j6 : (6 :Int) < (acc.length :Int) :=by omega
    have HE :Hid (RO= ([],2)) :=HLG.out acc HS.out h6
    go_wp2_with fail
    go_ret2
    rw [HE.out]
    exact ⟨_,rfl,IsL.nil _ _ _,hb1.trans (hB.mono hb1.size)⟩
   ·have j6 : ¬ (6 :Int) < (acc.length :Int) :=by omega
    have HE :Hid (RO= (acc,0)) :=HSO.out acc HS.out h6
    have hLL :=hG.isL
    go_wp2_with fail
    go_ret2
    rw [HE.out]
    exact ⟨_,rfl,hLL.mono (fun k _ hk=>Nat.le_trans hb1.size hk),hb1.trans (hB.mono hb1.size)⟩
  ·have j0 : (0 :Int) < (nx0 :Int) :=by omega
   obtain ⟨b,off,hveq,hcw⟩ : ∃b off,ax=some ⟨b,off,none⟩ ∧ ∀V,Below W1.heap.size W1 V→ ∀j y,M[j]? =some y→V.cell? ⟨b,off+j,none⟩ =some (.string y) :=by
    obtain ⟨b',o',c',h1,_,_⟩ :=A0 hM (by omega)
    cases h1
    obtain ⟨g1,_,_,g2⟩ :=A7 hM (by omega)
    exact ⟨b',o',rfl,fun V h j y hj=> (h.cell (p := ⟨b',o'+j,none⟩) g1).trans (g2 j y hj)⟩
   subst hveq
   have HCW :Hid _ :=hcw
   have hnx2 :nx0≤1502 :=by omega
   clear hcw
   go_wp2_with fail
   go_loop [6] (fun kv=> ∃k :Nat,k≤nx0∧kv= .int .i64 k∧Hid (∀j y,j<k→M[j]? =some y→y≠Cj)) (fun kv=>nx0 - (intOf kv).toNat)
   case atStart=>exact ⟨0,Nat.zero_le _,rfl,fun j y hj=>by omega⟩
   case round=>
    obtain ⟨k,hk,rfl,HK⟩ :=hrel
    by_cases hkn :k<nx0
    ·obtain ⟨y,hy⟩ : ∃y,M[k]? =some y := ⟨_,List.getElem?_eq_getElem (by omega)⟩
     have cy :=HCW.out wr hB k y hy
     have j1 : (k :Int) < (nx0 :Int) :=by omega
     have j2 : (0 :Int) ≤ (k :Int) :=by omega
     by_cases hsm :y=Cj
     ·have hbs : (y.toList== [59]) =true :=by rw [An];simpa using hsm
      have j3 : ((k :Int) == (nx0 :Int)) =false :=beq_eq_false_iff_ne.2 (by omega)
      have hsi :Hp M=some k :=Wu HK.out (by rw [←hsm];exact hy)
      have hwk :Whole (M.take k) :=Uz HI.out.1 HI.out.2.1 (by rw [←hsm];exact hy)
      obtain ⟨g',rfl⟩ : ∃g',gk=g'+1 := ⟨gk - 1,by have :=HI.out.2.2.1;omega⟩
      have HSC :Hid (SR= (((G2 (M.take k)).bind fun s=> (Eh g' (M.drop (k+1))).map fun ss=>s ::ss).map (acc++ ·))) :=by
       show SR=_
       rw [HI.out.2.2.2,Eh,if_neg (by intro e;rw [e] at h0;exact h0 rfl),hsi]
      have HIW :Hid ((M=ws∨M=ws++ [noW]) ∧Whole ws∧M.length≤g'+1) := ⟨HI.out.1,HI.out.2.1,HI.out.2.2.1⟩
      have HM :Hid (Ak W1 (.slice (some ⟨b,off,none⟩) nx0 px) M) :=hM
      have hcap :nx0≤px :=by rw [hnx] at hM⊢;exact (A7 hM (by omega)).2.1
      have ST :=hst (.slice (some ⟨b,off,none⟩) k px) (M.take k) wr (heW.next hB) (by simp;omega) (by have h2 :=hM;rw [hnx] at h2;obtain ⟨p1,p2,p3,p4⟩ :=A7 (h2.below hB) (by omega);exact Gh p4 p1 (by omega) p2 p3) hwk
      have j4 : (k :Int) ≤ (px :Int) :=by omega
      have HNX :Hid _ :=hnx
      have hbase0 :W1.heap.size≤wr.heap.size :=hB.size
      have HY :Hid (M[k]? =some y) :=hy
      clear HI HK hM hnx hwk hsi hy
      generalize G2 (M.take k) =RS at*
      go_upto_region 12 with (first
       | (go_at_call 13;go_must (go_fit ST;rintro e w2 ⟨kd,nm1,tb,cl,cols,rows,sets,frm,out,op,xk,xn,xs,sx,nx,n8,s6,order,dn,nz,ok,rfl,⟨⟨a1,k1,c1,rfl⟩,⟨a2,k2,c2,rfl⟩,⟨a3,k3,c3,rfl⟩,⟨a4,k4,c4,rfl⟩,⟨a5,k5,c5,rfl⟩,⟨a6,k6,c6,rfl⟩,⟨a7,k7,c7,rfl⟩⟩,hok,hb2⟩;have HOK :Hid _ :=hok;clear hok;have hone :=Bc (kind :=kd) (name :=nm1) (table :=tb) (col :=cl) (op :=op) (xk :=xk) (xn :=xn) (xs :=xs) (s :=sx) (nmv :=nx) (n8 :=n8) (down :=dn) (n :=nz) (sl7 a1 k1 c1 a2 k2 c2 a3 k3 c3 a4 k4 c4 a5 k5 c5 a6 k6 c6 a7 k7 c7);have b2 :=Ad w2 (.cells Ah 39)))
       | refine wpList_store_row rfl 39 _ _ rfl w2.heap.size _ rfl rfl 39 Ah b2 Af rfl hone ?_)
      have hb3 :Below wr.heap.size wr ((w2.alloc (.cells Ah 39)).setRow w2.heap.size (sA kd nm1 tb cl (.slice a1 k1 c1) (.slice a2 k2 c2) (.slice a3 k3 c3) (.slice a4 k4 c4) (.slice a5 k5 c5) op xk xn xs sx nx n8 (.slice a6 k6 c6) (.slice a7 k7 c7) dn nz)) :=Below.row (hb2.alloc hb2.size _) hb2.size _
      have b3 : ((w2.alloc (.cells Ah 39)).setRow w2.heap.size (sA kd nm1 tb cl (.slice a1 k1 c1) (.slice a2 k2 c2) (.slice a3 k3 c3) (.slice a4 k4 c4) (.slice a5 k5 c5) op xk xn xs sx nx n8 (.slice a6 k6 c6) (.slice a7 k7 c7) dn nz)).heap[w2.heap.size]? =some (.cells (sA kd nm1 tb cl (.slice a1 k1 c1) (.slice a2 k2 c2) (.slice a3 k3 c3) (.slice a4 k4 c4) (.slice a5 k5 c5) op xk xn xs sx nx n8 (.slice a6 k6 c6) (.slice a7 k7 c7) dn nz) 39) :=Am b2
      have hk3 :Keeps (Fr wr.heap.size) w2 ((w2.alloc (.cells Ah 39)).setRow w2.heap.size (sA kd nm1 tb cl (.slice a1 k1 c1) (.slice a2 k2 c2) (.slice a3 k3 c3) (.slice a4 k4 c4) (.slice a5 k5 c5) op xk xn xs sx nx n8 (.slice a6 k6 c6) (.slice a7 k7 c7) dn nz)) := ⟨by simp [World.setRow],fun k' _ hl'=>by
       have e : (w2.alloc (.cells Ah 39)).heap[k']? =w2.heap[k']? :=Below.heap_alloc _ _ _ hl'
       simp only [World.setRow,Array.getElem?_modify]
       rw [if_neg (by omega)];exact e⟩
      have hGV :=hG.below hb3
      have hB3 :Below W1.heap.size W1 ((w2.alloc (.cells Ah 39)).setRow w2.heap.size (sA kd nm1 tb cl (.slice a1 k1 c1) (.slice a2 k2 c2) (.slice a3 k3 c3) (.slice a4 k4 c4) (.slice a5 k5 c5) op xk xn xs sx nx n8 (.slice a6 k6 c6) (.slice a7 k7 c7) dn nz)) :=hB.trans (hb3.mono hB.size)
      have hfar :=I2 hG hB.size
      generalize hV : (w2.alloc (.cells Ah 39)).setRow w2.heap.size (sA kd nm1 tb cl (.slice a1 k1 c1) (.slice a2 k2 c2) (.slice a3 k3 c3) (.slice a4 k4 c4) (.slice a5 k5 c5) op xk xn xs sx nx n8 (.slice a6 k6 c6) (.slice a7 k7 c7) dn nz) =V at*
      clear hV ST b2 hG
      generalize w2.heap.size=pe at*
      cases ok
      ·have HE :Hid (RO= ([],1)) :=HN.out (by
        have h1 :RS=none :=HOK.out
        rw [HSC.out,h1];rfl)
       clear HOK HSC
       go_wp2_with fail
       go_ret2
       rw [HE.out]
       exact ⟨_,rfl,IsL.nil _ _ _,hb1.trans (hB3.mono hb1.size)⟩
      ·obtain ⟨st,hRS,hR3⟩ : ∃st,RS=some st∧Fq.R (Fr wr.heap.size) w2 st (sA kd nm1 tb cl (.slice a1 k1 c1) (.slice a2 k2 c2) (.slice a3 k3 c3) (.slice a4 k4 c4) (.slice a5 k5 c5) op xk xn xs sx nx n8 (.slice a6 k6 c6) (.slice a7 k7 c7) dn nz).toList :=HOK.out
       have HNX2 :Hid (SR= (Eh g' (M.drop (k+1))).map ((acc++ [st]) ++ ·)) :=V6 HSC.out hRS
       obtain ⟨cs,hown,hall,hside⟩ :=hGV.below ((Below.refl _ _).alloc (Nat.le_refl _) (.cells [.int .i64 kd, .string nm1, .string tb, .string cl, .slice a1 k1 c1, .slice a2 k2 c2, .slice a3 k3 c3, .slice a4 k4 c4, .slice a5 k5 c5, .int .i64 op, .int .i64 xk, .int .i64 xn, .string xs, .string sx, .string nx, .int .i64 n8, .slice a6 k6 c6, .slice a7 k7 c7, .bool dn, .int .i64 nz].toArray 39))
       have hnew :=B2 V [.int .i64 kd, .string nm1, .string tb, .string cl, .slice a1 k1 c1, .slice a2 k2 c2, .slice a3 k3 c3, .slice a4 k4 c4, .slice a5 k5 c5, .int .i64 op, .int .i64 xk, .int .i64 xn, .string xs, .string sx, .string nx, .int .i64 n8, .slice a6 k6 c6, .slice a7 k7 c7, .bool dn, .int .i64 nz] 39
       have hbase :W1.heap.size≤ (V.alloc (.cells [.int .i64 kd, .string nm1, .string tb, .string cl, .slice a1 k1 c1, .slice a2 k2 c2, .slice a3 k3 c3, .slice a4 k4 c4, .slice a5 k5 c5, .int .i64 op, .int .i64 xk, .int .i64 xn, .string xs, .string sx, .string nx, .int .i64 n8, .slice a6 k6 c6, .slice a7 k7 c7, .bool dn, .int .i64 nz].toArray 39)).heap.size :=Nat.le_trans hB3.size (by simp)
       have HALL :Hid _ :=hall
       have HSIDE :Hid _ :=hside
       have HXY :Hid (Fq.R (FO W1.heap.size (.slice az acc.length cz)) (V.alloc (.cells [.int .i64 kd, .string nm1, .string tb, .string cl, .slice a1 k1 c1, .slice a2 k2 c2, .slice a3 k3 c3, .slice a4 k4 c4, .slice a5 k5 c5, .int .i64 op, .int .i64 xk, .int .i64 xn, .string xs, .string sx, .string nx, .int .i64 n8, .slice a6 k6 c6, .slice a7 k7 c7, .bool dn, .int .i64 nz].toArray 39)) st [.int .i64 kd, .string nm1, .string tb, .string cl, .slice a1 k1 c1, .slice a2 k2 c2, .slice a3 k3 c3, .slice a4 k4 c4, .slice a5 k5 c5, .int .i64 op, .int .i64 xk, .int .i64 xn, .string xs, .string sx, .string nx, .int .i64 n8, .slice a6 k6 c6, .slice a7 k7 c7, .bool dn, .int .i64 nz]) :=Fq.keep ((Keeps.refl _ _).alloc _) (Fq.mono (fun k' _ hk'=>hfar k' hk') (Fq.keep hk3 hR3))
       obtain ⟨i0,hi,hz0,hz1,hz2⟩ :=info_parts Z3
       have hab :acc.length≤1502 :=by omega
       have key :Hid _ :=Gz (b :=b) (off :=off) (cap :=px) (k :=k+1) (L :=M) (by omega) (by have :=HNX.out;omega)
       have hML :Hid (M.length=nx0) :=HNX.out.symm
       clear hall hside hGV hR3 hRS HOK HSC hk3 hfar
       have key2 :=key.out
       rw [hML.out] at key2
       have i4 : (k :Int) +1≤ (nx0 :Int) :=by omega
       rcases key2 with ⟨hpx,hdr⟩ | ⟨hpx,hdr⟩
       all_goals
        have HD :Hid _ :=hdr W1 HM.out
        clear hdr key
        go_wp2_with (first
         | refine wpList_load_row rfl 39 _ rfl pe rfl 39 _ _ _ b3 Tryz.underlying39 rfl Af ?_
         | (at_builtin;refine wpList_append_own_at _ rfl _ _ 22 rfl W1.heap.size 39 i0 (.agg Ah) 20 320 Tryz.underlying22 hi hz0 hz1 hz2 rfl (by decide) _ _ _ rfl hown ⟨V.heap.size,0,none⟩ 1 1 [.int .i64 kd, .string nm1, .string tb, .string cl, .slice a1 k1 c1, .slice a2 k2 c2, .slice a3 k3 c3, .slice a4 k4 c4, .slice a5 k5 c5, .int .i64 op, .int .i64 xk, .int .i64 xn, .string xs, .string sx, .string nx, .int .i64 n8, .slice a6 k6 c6, .slice a7 k7 c7, .bool dn, .int .i64 nz] rfl rfl hnew ?h1 (by simp only [maxLen];omega) (by omega) hbase ?h2))
        case h1=>simp only [List.forall_mem_cons];repeat (first | exact fun _ h=>absurd h List.not_mem_nil | refine ⟨rfl, ?_⟩)
        case h2=>
         intro z2 w4 hown4 hg4 _ hat
         have hG4 :=E5.add (K :=Fq) (x :=st) HALL.out HSIDE.out HXY.out hown4 hg4 (by rw [World.size_alloc];exact hat)
         have hB4 :Below W1.heap.size W1 w4 := (hB3.alloc hB3.size _).trans (Bn hown hbase hg4)
         obtain ⟨az2,cz2,hz⟩ :=hG4.isL.shape
         rw [List.length_append,List.length_singleton] at hz
         subst hz
         clear hown4 hg4 hat hown hnew HALL HSIDE HXY
         go_wp2_with fail
         go_roundg g'
         case measure=>omega
         case rel=>
          refine ⟨M.drop (k+1),acc++ [st],ws.drop (k+1),HD.out,hG4,⟨V5 HIW.out.1 (by rw [←hsm];exact HY.out),HIW.out.2.1.drop _,by have :=HIW.out.2.2;simp;omega,HNX2.out⟩, ?_,hB4⟩
          have :=hML.out
          simp;omega
     ·have hbs : (y.toList== [59]) =false :=by rw [An];simpa using hsm
      go_wp2_with fail
      go_round
      case rel=>exact ⟨k+1,by omega,by go_num,fun j z hj hz=>by
       by_cases e :j=k
       ·subst e;rw [hy] at hz;cases hz;exact hsm
       ·exact HK.out j z (by omega) hz⟩
      case measure=>simp [intOf];omega
    ·have j1 : ¬ (k :Int) < (nx0 :Int) :=by omega
     have j3 : ((k :Int) == (nx0 :Int)) =true :=by rw [beq_iff_eq];omega
     have hsi :Hp M=none :=Sp fun j y hj=>HK.out j y (by have := (List.getElem?_eq_some_iff.1 hj).1;omega) hj
     have HE :Hid (RO= ([],1)) :=HN.out (by
      obtain ⟨g',rfl⟩ : ∃g',gk=g'+1 := ⟨gk - 1,by have :=HI.out.2.2.1;omega⟩
      rw [HI.out.2.2.2,Eh,if_neg (by intro e;rw [e] at h0;exact h0 rfl),hsi];rfl)
     clear HI HK hM hnx hsi
     go_wp2_with fail
     go_ret2
     rw [HE.out]
     exact ⟨_,rfl,IsL.nil _ _ _,hb1.trans (hB.mono hb1.size)⟩
end Go.Proofs.YtifjaegfpdjikaaGreatDoor

namespace Go.Proofs.YtifjaegfpdjikaaGreatDoor
open Go.RowKit
def Oh :Prop := ∀ (sl :Value) (L M :List Wd),M.length≤1600→Whole M→ ∀ (w :World),Env w→Ak w sl L→Whole L→L.take 2≠ [Au,A5] →L.take 2≠ [Au,B7] →L.take 2≠ [Cg,A5] →L.take 2≠ [Bv,E6] →L.take 2≠ [Cb,Az] →L.take 1≠ [Cc] →L.take 1= [Ck] →L.drop 1=M→Calls Tryz.prog 13 #[sl] w (Cv (Jj M) w)
theorem Z5 {M :List Wd} (h :M.length≠1) :Mm M=none :=by
 match M,h with
 | [],_=>rfl
 | [_],h=>exact absurd rfl h
 | _ ::_ ::_,_=>rfl
theorem Yn {M :List Wd} (h :M.length≠6) :Hw M=none :=by
 match M,h with
 | [],_=>rfl
 | [_],_=>rfl
 | [_,_],_=>rfl
 | [_,_,_],_=>rfl
 | [_,_,_,_],_=>rfl
 | [_,_,_,_,_],_=>rfl
 | [_,_,_,_,_,_],h=>exact absurd rfl h
 | _ ::_ ::_ ::_ ::_ ::_ ::_ ::_,_=>rfl
theorem Abl (hsel :Oh) :Wv :=by
 intro sl L w he hl hL hw
 unfold G2
 have hd : ∀n,(L.drop n).length≤1600 :=fun n=>by simp;omega
 by_cases h0 :L.take 2= [Au,A5]
 ·rw [if_pos h0]
  cases hM :L.drop 2 with
  | nil=>exact P4 sl L w he hL hw h0 hM
  | cons x m=>
   have hml :m.length≤1600 :=by have :=hd 2;rw [hM] at this;simp at this;omega
   have hwm :Whole m :=fun y hy=>hw.drop 2 y (by rw [hM];simp [hy])
   cases hn :nm x with
   | false=>
    rw [N0,if_neg (by rw [hn];simp)]
    exact P5 sl L x m hn w he hL hw h0 hM
   | true=>
    rw [N0,if_pos hn]
    cases hin :D3 m with
    | none=>exact Ra sl L x m hn hml hin w he hL hw h0 hM
    | some i=>exact O5 sl L x m i hn hml hwm hin w he hL hw h0 hM
 rw [if_neg h0]
 by_cases h1 :L.take 2= [Au,B7]
 ·rw [if_pos h1]
  by_cases h6 : (L.drop 2).length=6
  ·obtain ⟨a,k1,b1,k2,c1,k3,hM⟩ : ∃a k1 b1 k2 c1 k3,L.drop 2= [a,k1,b1,k2,c1,k3] :=by
    match hM :L.drop 2,h6 with
    | [a,k1,b1,k2,c1,k3],_=>exact ⟨a,k1,b1,k2,c1,k3,rfl⟩
   rw [hM]
   by_cases g0 :k1=kOn
   ·by_cases g1 :k2=As
    ·by_cases g2 :k3=Aq
     ·cases g3 :nm a with
      | true=>
       cases g4 :nm b1 with
       | true=>
        cases g5 :nm c1 with
        | true=>
         rw [Hw,if_pos ⟨g0,g1,g2,g3,g4,g5⟩]
         exact P0 sl L a k1 b1 k2 c1 k3 g0 g1 g2 g3 g4 g5 w he hL hw h0 h1 hM
        | false=>
         rw [Hw,if_neg (fun h=>by rw [h.2.2.2.2.2] at g5;cases g5)]
         exact O3 sl L a k1 b1 k2 c1 k3 g0 g1 g2 g3 g4 g5 w he hL hw h0 h1 hM
       | false=>
        rw [Hw,if_neg (fun h=>by rw [h.2.2.2.2.1] at g4;cases g4)]
        exact O2 sl L a k1 b1 k2 c1 k3 g0 g1 g2 g3 g4 w he hL hw h0 h1 hM
      | false=>
       rw [Hw,if_neg (fun h=>by rw [h.2.2.2.1] at g3;cases g3)]
       exact O1 sl L a k1 b1 k2 c1 k3 g0 g1 g2 g3 w he hL hw h0 h1 hM
     ·rw [Hw,if_neg (fun h=>g2 h.2.2.1)]
      exact O0 sl L a k1 b1 k2 c1 k3 g0 g1 g2 w he hL hw h0 h1 hM
    ·rw [Hw,if_neg (fun h=>g1 h.2.1)]
     exact Oz sl L a k1 b1 k2 c1 k3 g0 g1 w he hL hw h0 h1 hM
   ·rw [Hw,if_neg (fun h=>g0 h.1)]
    exact Oy sl L a k1 b1 k2 c1 k3 g0 w he hL hw h0 h1 hM
  ·rw [Yn h6]
   exact P3 sl L (L.drop 2) h6 w he hL hw h0 h1 rfl
 rw [if_neg h1]
 by_cases h2 :L.take 2= [Cg,A5]
 ·rw [if_pos h2]
  by_cases h6 : (L.drop 2).length=1
  ·obtain ⟨x,hM⟩ : ∃x,L.drop 2= [x] :=by
    match hM :L.drop 2,h6 with
    | [x],_=>exact ⟨x,rfl⟩
   rw [hM]
   cases hn :nm x with
   | true=>rw [Mm,if_pos hn];exact Q6 sl L x hn w he hL hw h0 h1 h2 hM
   | false=>rw [Mm,if_neg (by rw [hn];simp)];exact Q8 sl L x hn w he hL hw h0 h1 h2 hM
  ·rw [Z5 h6]
   exact Q7 sl L (L.drop 2) h6 w he hL hw h0 h1 h2 rfl
 rw [if_neg h2]
 by_cases h3 :L.take 2= [Bv,E6]
 ·rw [if_pos h3]
  by_cases h6 : (L.drop 2).length<3
  ·rw [Tg h6]
   exact Kw sl L (L.drop 2) (.inl h6) w he hL hw h0 h1 h2 h3 rfl
  ·obtain ⟨t,k,m,hM⟩ : ∃t k m,L.drop 2=t ::k ::m :=by
    match hM :L.drop 2,h6 with
    | t ::k ::m,_=>exact ⟨t,k,m,rfl⟩
    | [_],h=>exact absurd (show 1<3 by omega) h
    | [],h=>exact absurd (show 0<3 by omega) h
   have hm :m≠ [] :=by rintro rfl;rw [hM] at h6;simp at h6
   have hml :m.length≤1600 :=by have :=hd 2;rw [hM] at this;simp at this;omega
   have hwm :Whole m :=fun y hy=>hw.drop 2 y (by rw [hM];simp [hy])
   rw [hM,Ym hm]
   by_cases hc :nm t=true∧k=Ct
   ·obtain ⟨c1,rfl⟩ :=hc
    rw [if_pos ⟨c1,rfl⟩]
    exact Og sl L t m c1 hm hml hwm w he hL hw h0 h1 h2 h3 hM
   ·rw [if_neg hc]
    exact Kw sl L (t ::k ::m) (.inr ⟨t,k,m,rfl,hm,hc⟩) w he hL hw h0 h1 h2 h3 hM
 rw [if_neg h3]
 by_cases h4 :L.take 2= [Cb,Az]
 ·rw [if_pos h4]
  exact O4 sl L (L.drop 2) (hd 2) (hw.drop 2) w he hL hw h0 h1 h2 h3 h4 rfl
 rw [if_neg h4]
 by_cases h5 :L.take 1= [Cc]
 ·rw [if_pos h5]
  exact O6 sl L (L.drop 1) (hd 1) (hw.drop 1) w he hL hw h0 h1 h2 h3 h4 h5 rfl
 rw [if_neg h5]
 by_cases h6 :L.take 1= [Ck]
 ·rw [if_pos h6]
  exact hsel sl L (L.drop 1) (hd 1) (hw.drop 1) w he hL hw h0 h1 h2 h3 h4 h5 h6 rfl
 rw [if_neg h6]
 exact V3 sl L w he hL hw h0 h1 h2 h3 h4 h5 h6
end Go.Proofs.YtifjaegfpdjikaaGreatDoor

