/-
  7 texts of this proof in one, in build order: RParts, RIn, RNum, RAnd, RAnd2, SBr, SStm1.
-/
import Derived.Laws.IdiomStrings
import Derived.Laws.Rows
import Derived.Laws.Tables
import Derived.Test.YtifjaegfpdjikaaGreatDoorJ06
import Derived.Test.YtifjaegfpdjikaaGreatDoorJ09
import Derived.Test.YtifjaegfpdjikaaGreatDoorJ10
set_option linter.unusedSimpArgs false
set_option linter.unusedVariables false
namespace Go.Proofs.YtifjaegfpdjikaaGreatDoor
open Go.RowKit
theorem Sl : (Tryz.prog.info? 32).map (fun i=> (i.zero,i.size,i.bytes)) =some (some (.slice none 0 0),1,24) :=by kernel_rfl
theorem Gv (w :World) (k :Wd) :Xt (w.alloc (.cells #[.string k] 9)) (.slice (some ⟨w.heap.size,0,none⟩) 1 1) [k] :=by
 refine ⟨by simp,w.heap.size,0,1,rfl,fun i s h=> ?_⟩
 match i,h with
 | 0,h=>simp at h;subst h;exact Aa (Ad w _) rfl
 | i+1,h=>simp at h
theorem Lr (w :World) (k l :Wd) :Xt (w.alloc (.cells #[.string k, .string l] 9)) (.slice (some ⟨w.heap.size,0,none⟩) 2 2) [k,l] :=by
 refine ⟨by simp,w.heap.size,0,2,rfl,fun i s h=> ?_⟩
 match i,h with
 | 0,h=>simp at h;subst h;exact Aa (Ad w _) rfl
 | 1,h=>simp at h;subst h;exact Aa (Ad w _) rfl
 | i+2,h=>simp at h
theorem Zp {X :List Wd} {L :List Wd} {d :Int} {i k j :Nat} :B1 X d i L=some (k,j) →k<i+L.length :=by
 induction L generalizing d i with
 | nil=>intro h;simp [B1] at h
 | cons x l ih=>
  intro h
  rw [B1] at h
  split at h
  ·cases h;simp
  ·have :=ih h;simp;omega
theorem Ui {L :List Wd} {f i j :Nat} (h :B1 [Av] 0 0 L=some (i,j)) (hf :L.length≤f) : ∃f',f'<f∧Dr f L=L.take i ::Dr f' (L.drop (i+1)) ∧ (L.drop (i+1)).length≤f' :=by
 have hi :=Zp h
 obtain ⟨f',rfl⟩ : ∃f',f=f'+1 := ⟨f - 1,by omega⟩
 refine ⟨f',by omega, ?_,by simp;omega⟩
 rw [Dr,h]
theorem Sm {L :List Wd} {f :Nat} (h :B1 [Av] 0 0 L=none) :Dr f L= [L] :=by
 cases f with
 | zero=>rfl
 | succ f=>rw [Dr,h]
theorem Ax {w :World} {v :Value} {L :List Wd} (h :Ak w v L) : ∃ao n cap,v= .slice ao n cap∧n=L.length :=by
 obtain ⟨ao,cap,rfl⟩ :=h.shape
 exact ⟨ao,_,cap,rfl,rfl⟩
def Ig (w :World) :List Value→List (List Wd) →Prop
 | [],[] =>True
 | v ::vs,L ::Ls=>Ak w v L∧Ig w vs Ls
 | _,_=>False
theorem Ig.add {w :World} {v :Value} {L :List Wd} : ∀ {vs :List Value} {Ls :List (List Wd)},Ig w vs Ls→Ak w v L→Ig w (vs++ [v]) (Ls++ [L])
 | [],[],_,h=> ⟨h,trivial⟩
 | _ ::_,_ ::_,h1,h=> ⟨h1.1,h1.2.add h⟩
 | [],_ ::_,h1,_=>absurd h1 (by simp [Ig])
 | _ ::_,[],h1,_=>absurd h1 (by simp [Ig])
def Zq (Ls :List (List Wd)) (w :World) (e :Ending) (w' :World) :Prop := ∃sv vs,e= .returned sv∧Kc 1 w' sv Ls.length vs∧Ig w vs Ls∧Below w.heap.size w w'
set_option maxRecDepth 100000 in
set_option maxHeartbeats 4000000 in
theorem Adp (sl :Value) (L :List Wd) (w :World) (hl :L.length≤1600) (hL :Ak w sl L) :
  Calls Tryz.prog 34 #[sl] w (Zq (Bf L) w) :=by
 obtain ⟨i0,hi,hz0,hz1,hz2⟩ :=info_parts Sl
 obtain ⟨ao,cap,rfl⟩ :=hL.shape
 have HT0 :Hid (Bf L= [] ++Dr L.length L∧L.length≤L.length) := ⟨rfl,Nat.le_refl _⟩
 generalize Bf L=T at HT0⊢
 go_enter Tryz.func34,Tryz.ntmps34
 go_wp2_with fail
 go_loopg [0,3] (L.length) (fun f x z wr=> ∃ (acc :List (List Wd)) (vs :List Value) (M :List Wd),Ak w x M∧Ig w vs acc∧wr.ownsRow w.heap.size 32 1 z acc.length vs∧Hid (T=acc++Dr f M∧M.length≤f) ∧acc.length+M.length≤1600∧Below w.heap.size w wr)
 case atStart=>exact ⟨[],[],L,hL,trivial,⟨rfl, .inl ⟨rfl,rfl⟩⟩,HT0,by simpa using hl,Below.refl _ _⟩
 case round=>
  obtain ⟨acc,vs,M,hM,hP,hown,HT,hlen,hB⟩ :=hrel
  obtain ⟨a1,c1,rfl⟩ :=hM.shape
  have CU :=Gu _ _ M [Av] _ (by omega) ((hM.below hB).below ((Below.refl _ _).alloc (Nat.le_refl _) (.cells #[.string Av] 9))) (Gv wr Av)
  cases hc :B1 [Av] 0 0 M with
  | none=>
   rw [hc] at CU
   have HE :Hid (T=acc++ [M]) :=by show _=_;rw [HT.out.1,Sm hc]
   clear HT hc
   go_wp2_with (first
    | (go_at_call 31;go_must (go_fit CU;rintro e w2 ⟨a,c,k,rfl,⟨rfl,rfl,rfl⟩,hb2⟩;have hown3 := (Ip (hown.alloc (.cells #[.string Av] 9)) hb2).alloc (.cells [.slice a1 M.length c1].toArray 32);have hnew :=B2 w2 [.slice a1 M.length c1] 32;have hB2 :Below w.heap.size w w2 := (hB.alloc hB.size _).trans (hb2.mono (Nat.le_trans hB.size (by simp)));have hbase :w.heap.size≤ (w2.alloc (.cells [.slice a1 M.length c1].toArray 32)).heap.size :=Nat.le_trans hB2.size (by simp)))
    | (at_builtin;go_must (refine wpList_append_own_at _ rfl _ _ 69 rfl w.heap.size 32 i0 (.slice none 0 0) 1 24 Tryz.underlying69 hi hz0 hz1 hz2 rfl (by decide) _ _ _ rfl hown3 ⟨w2.heap.size,0,none⟩ 1 1 [.slice a1 M.length c1] rfl rfl hnew ?h1 (by simp only [maxLen];omega) (by omega) hbase ?h2)))
   case h1=>first | rfl | exact fun u hu=>by cases hu with | head=>rfl | tail _ h=>cases h
   case h2=>
    intro z2 w4 hown4 hg4 _ _
    have hB4 :Below w.heap.size w w4 := ((hB2.alloc hB2.size _).trans (Bn hown3 hbase hg4))
    go_wp2_with fail
    go_ret
    refine ⟨_,vs++ [.slice a1 M.length c1],rfl, ?_, ?_,hB4⟩
    ·rw [HE.out]
     have :=Kc.of_own hown4
     simpa using this
    ·rw [HE.out]
     exact hP.add hM
  | some r=>
   obtain ⟨i,j⟩ :=r
   rw [hc] at CU
   obtain ⟨f',hf',HNx⟩ : ∃f',f'<gk∧Hid (T= (acc++ [M.take i]) ++Dr f' (M.drop (i+1)) ∧ (M.drop (i+1)).length≤f') :=by
    obtain ⟨f',h1,h2,h3⟩ :=Ui hc HT.out.2
    exact ⟨f',h1,by rw [HT.out.1,h2];simp,h3⟩
   clear HT hc
   go_wp2_with (first
    | (go_at_call 31;go_must (go_fit CU;rintro e w2 ⟨a,c,k,rfl,⟨hs,rfl,hil⟩,hb2⟩;obtain ⟨a2,n2,c2,rfl,hn2⟩ :=Ax (hs w hM).1;obtain ⟨a3,n3,c3,rfl,hn3⟩ :=Ax (hs w hM).2;have HS :Hid _ :=hs;clear hs hn2 hn3;have hown3 := (Ip (hown.alloc (.cells #[.string Av] 9)) hb2).alloc (.cells [.slice a2 n2 c2].toArray 32);have hnew :=B2 w2 [.slice a2 n2 c2] 32;have hB2 :Below w.heap.size w w2 := (hB.alloc hB.size _).trans (hb2.mono (Nat.le_trans hB.size (by simp)));have hbase :w.heap.size≤ (w2.alloc (.cells [.slice a2 n2 c2].toArray 32)).heap.size :=Nat.le_trans hB2.size (by simp)))
    | (at_builtin;go_must (refine wpList_append_own_at _ rfl _ _ 69 rfl w.heap.size 32 i0 (.slice none 0 0) 1 24 Tryz.underlying69 hi hz0 hz1 hz2 rfl (by decide) _ _ _ rfl hown3 ⟨w2.heap.size,0,none⟩ 1 1 [.slice a2 n2 c2] rfl rfl hnew ?h1 (by simp only [maxLen];omega) (by omega) hbase ?h2)))
   case h1=>first | rfl | exact fun u hu=>by cases hu with | head=>rfl | tail _ h=>cases h
   case h2=>
    intro z2 w4 hown4 hg4 _ _
    have hB4 :Below w.heap.size w w4 := ((hB2.alloc hB2.size _).trans (Bn hown3 hbase hg4))
    go_wp2_with fail
    go_roundg f'
    case measure=>exact hf'
    case rel=>exact ⟨acc++ [M.take i],_,M.drop (i+1),(HS.out w hM).2,hP.add (HS.out w hM).1,by rw [List.length_append];exact hown4,HNx,by simp;omega,hB4⟩
end Go.Proofs.YtifjaegfpdjikaaGreatDoor

namespace Go.Proofs.YtifjaegfpdjikaaGreatDoor
open Go.RowKit
def Ez (L :List Wd) :List Wd := (L.drop 1).take (L.length - 2)
theorem Lt {w :World} {b off cap :Nat} {L :List Wd} (h2 :2≤L.length) (h :Ak w (.slice (some ⟨b,off,none⟩) L.length cap) L) :Ak w (.slice (some ⟨b,off+1,none⟩) (L.length - 2) (cap - 1)) (Ez L) :=by
 obtain ⟨h1,h3,h4,h5⟩ :=A7 h (by omega)
 have hd :=Oe (i :=1) h5 h1 (by omega) h3 h4
 have hl : (L.drop 1).length=L.length - 1 :=by simp
 rw [←hl] at hd
 obtain ⟨q1,q3,q4,q5⟩ :=A7 hd (by omega)
 exact Gh q5 q1 (by omega) q3 q4
theorem A0 {w :World} {v :Value} {L :List Wd} (h :Ak w v L) (h0 :0<L.length) : ∃b off cap,v= .slice (some ⟨b,off,none⟩) L.length cap∧L.length≤cap∧ (∀i s,L[i]? =some s→w.cell? ⟨b,off+i,none⟩ =some (.string s)) :=by
 obtain ⟨b,off,cap,h1,h2,h3,h4,h5⟩ :=h.at h0
 exact ⟨b,off,cap,h1,h3,h5⟩
def Acx (R :Option (List Wd)) (sl :Value) (L :List Wd) (w :World) (e :Ending) (w' :World) :Prop := ∃ao n cap ok,e= .returned (.tuple #[.slice ao n cap, .bool ok]) ∧ (if ok=true then R=some (Ez L) ∧ ∀W,Ak W sl L→Ak W (.slice ao n cap) (Ez L) else R=none) ∧Below w.heap.size w w'
set_option maxRecDepth 100000 in
set_option maxHeartbeats 2000000 in
theorem M7 (sl :Value) (L :List Wd) (w :World) (hl :L.length≤1600) (hL :Ak w sl L) :
  Calls Tryz.prog 33 #[sl] w (Acx (D3 L) sl L w) :=by
 by_cases h2 :L.length<2
 ·have hN :D3 L=none :=by rw [D3,if_neg (by omega)]
  rw [hN]
  clear hN
  obtain ⟨ao,n,cap,rfl,hn⟩ :=Ax hL
  have q : (n :Int) <2 :=by omega
  clear hL
  go_enter Tryz.func33,Tryz.ntmps33
  go_wp2_with fail
  go_ret2
  exact ⟨_,_,_,false,rfl,rfl,Below.refl _ _⟩
 obtain ⟨b,off,cap,rfl,hcap,hcell⟩ :=A0 hL (by omega)
 obtain ⟨x,hx⟩ : ∃x,L[0]? =some x := ⟨_,List.getElem?_eq_getElem (by omega)⟩
 obtain ⟨y,hy⟩ : ∃y,L[L.length - 1]? =some y := ⟨_,List.getElem?_eq_getElem (by omega)⟩
 have hcx :w.cell? ⟨b,off,none⟩ =some (.string x) :=hcell 0 x hx
 have hcy :=hcell (L.length - 1) y hy
 have HM :Hid (∀W,Ak W (.slice (some ⟨b,off,none⟩) L.length cap) L→Ak W (.slice (some ⟨b,off+1,none⟩) (L.length - 2) (cap - 1)) (Ez L)) :=fun W=>Lt (by omega)
 have hI :D3 L=if x=As∧y=Aq∧B1 [Aq] 0 0 (Ez L) =none then some (Ez L) else none :=by
  have e1 :L.head? =some x :=by rw [List.head?_eq_getElem?];exact hx
  have e2 :L.getLast? =some y :=by rw [List.getLast?_eq_getElem?];exact hy
  rw [D3,e1,e2]
  simp only [Option.some.injEq]
  by_cases hc :x=As∧y=Aq∧B1 [Aq] 0 0 (Ez L) =none
  ·rw [if_pos hc,if_pos ⟨by omega,hc⟩];rfl
  ·rw [if_neg hc,if_neg (fun h=>hc h.2)]
 have HI :Hid _ :=hI
 have hml : (Ez L).length=L.length - 2 :=by simp [Ez];omega
 have CU :=Gu (.slice (some ⟨b,off+1,none⟩) (L.length - 2) (cap - 1)) _ (Ez L) [Aq] _ (by omega) ((Lt (by omega) hL).below ((Below.refl _ _).alloc (Nat.le_refl _) (.cells #[.string Aq] 9))) (Gv w Aq)
 clear hI hL hx hy hml hcell
 have hHN : ¬ (L.length :Int) <2 :=by omega
 have hn2 :2≤L.length :=by omega
 generalize D3 L=R at HI⊢
 generalize L.length=n at*
 by_cases h3 :x=As
 ·have hbx : (x.toList== [40]) =true :=by rw [An];simpa using h3
  by_cases h4 :y=Aq
  ·have hby : (y.toList== [41]) =true :=by rw [An];simpa using h4
   cases hc :B1 [Aq] 0 0 (Ez L) with
   | none=>
    rw [hc] at CU HI
    have HR :Hid (R=some (Ez L)) :=by show _=_;rw [HI.out,if_pos ⟨h3,h4,rfl⟩]
    clear HI h3 h4 hc
    go_enter Tryz.func33,Tryz.ntmps33
    go_wp2_with (go_at_call 31;go_must (go_fit CU;rintro e w2 ⟨a,c,k,rfl,⟨rfl,rfl,rfl⟩,hb2⟩))
    go_ret2
    exact ⟨_,_,_,true,rfl,⟨HR.out,HM.out⟩,((Below.refl _ _).alloc (Nat.le_refl _) _).trans (hb2.mono (by simp))⟩
   | some r=>
    obtain ⟨i,j⟩ :=r
    rw [hc] at CU HI
    have HR :Hid (R=none) :=by show _=_;rw [HI.out,if_neg (fun h=>by cases h.2.2)]
    clear HI h3 h4 hc
    go_enter Tryz.func33,Tryz.ntmps33
    go_wp2_with (go_at_call 31;go_must (go_fit CU;rintro e w2 ⟨a,c,k,rfl,⟨hs,rfl,hil⟩,hb2⟩;clear hs))
    go_ret2
    exact ⟨_,_,_,false,rfl,HR.out,((Below.refl _ _).alloc (Nat.le_refl _) _).trans (hb2.mono (by simp))⟩
  ·have hby : (y.toList== [41]) =false :=by rw [An];simpa using h4
   have HR :Hid (R=none) :=by show _=_;rw [HI.out,if_neg (fun h=>h4 h.2.1)]
   clear HI h3 h4 CU
   go_enter Tryz.func33,Tryz.ntmps33
   go_wp2_with fail
   go_ret2
   exact ⟨_,_,_,false,rfl,HR.out,Below.refl _ _⟩
 ·have hbx : (x.toList== [40]) =false :=by rw [An];simpa using h3
  have HR :Hid (R=none) :=by show _=_;rw [HI.out,if_neg (fun h=>h3 h.1)]
  clear HI h3 CU
  go_enter Tryz.func33,Tryz.ntmps33
  go_wp2_with fail
  go_ret2
  exact ⟨_,_,_,false,rfl,HR.out,Below.refl _ _⟩
end Go.Proofs.YtifjaegfpdjikaaGreatDoor

namespace Go.Proofs.YtifjaegfpdjikaaGreatDoor
open Go.RowKit
abbrev d09 :Wd := ⟨#[48,49,50,51,52,53,54,55,56,57]⟩
set_option maxRecDepth 20000 in
theorem Xu (c :UInt8) : ([48,49,50,51,52,53,54,55,56,57] :List UInt8).contains c=A3 c :=by
 have h : ∀n :Fin 256,([48,49,50,51,52,53,54,55,56,57] :List UInt8).contains (UInt8.ofNat n.val) =A3 (UInt8.ofNat n.val) :=by decide
 have :=h ⟨c.toNat,c.toNat_lt⟩
 simpa using this
theorem Ab7 (s :Wd) (w :World) (hsz :s.size≤8) :
  Calls Tryz.prog 17 #[.string s, .string d09] w fun e w'=> ∃x :Wd,e= .returned (.string x) ∧x.toList.isEmpty=s.data.toList.all A3∧Below w.heap.size w w' :=by
 refine (Any.strings_Trim_laid Tryz.lays160 (by kernel_rfl) s d09 w (by omega) (by decide) (ascii_of_all (by decide))).mono ?_
 rintro e w' ⟨rfl,hb⟩
 refine ⟨_,rfl, ?_,hb⟩
 have e : ∀l :List UInt8,(⟨l.toArray⟩ :Wd).toList.isEmpty=decide (l= []) :=fun l=>by rw [Lib.toList_data];cases l<;>rfl
 rw [e]
 have q :=Sc s.data.toList d09.data.toList
 rw [show (fun c=>d09.data.toList.contains c) =A3 from funext Xu] at q
 rw [Bool.eq_iff_iff,decide_eq_true_eq]
 exact q
theorem Uj (l :List UInt8) : ∀n :Nat,l.all A3=true→n*10^l.length≤l.foldl (fun n c=>10*n+ (c.toNat - 48)) n∧l.foldl (fun n c=>10*n+ (c.toNat - 48)) n< (n+1) *10^l.length :=by
 induction l with
 | nil=>intro n _;simp
 | cons c l ih=>
  intro n h
  simp only [List.all_cons,Bool.and_eq_true] at h
  have hc :48≤c.toNat∧c.toNat≤57 :=by have :=h.1;simpa [A3] using this
  obtain ⟨h1,h2⟩ :=ih (10*n+ (c.toNat - 48)) h.2
  rw [List.foldl_cons,List.length_cons,Nat.pow_succ]
  have a1 : (10*n) *10^l.length≤ (10*n+ (c.toNat - 48)) *10^l.length :=Nat.mul_le_mul_right _ (by omega)
  have a2 : (10*n+ (c.toNat - 48) +1) *10^l.length≤ (10*n+10) *10^l.length :=Nat.mul_le_mul_right _ (by omega)
  have e1 :n* (10^l.length*10) = (10*n) *10^l.length :=by rw [←Nat.mul_assoc,Nat.mul_right_comm,Nat.mul_comm n 10]
  have e2 : (n+1) * (10^l.length*10) = (10*n+10) *10^l.length :=by
   rw [←Nat.mul_assoc,Nat.mul_right_comm];congr 1;omega
  rw [e1,e2]
  exact ⟨Nat.le_trans a1 h1,Nat.lt_of_lt_of_le h2 a2⟩
theorem Zr {s :Wd} (h :7<s.size) :Cs s=none :=by
 unfold Cs
 split
 ·rename_i hc
  simp only [Bool.and_eq_true,decide_eq_true_eq,Bool.or_eq_true] at hc
  obtain ⟨⟨⟨h1,h2⟩,h3⟩,h4⟩ :=hc
  exfalso
  have hf :=Dt s h1
  have hz :fst (fun c=>c==48) s=false :=by
   rcases h3 with h3 | h3
   ·omega
   ·simpa using h3
  rw [hf] at h2 h4
  simp only [List.all_cons,Bool.and_eq_true] at h2
  have hc :48≤s[0].toNat∧s[0].toNat≤57 :=by have :=h2.1;simpa [A3] using this
  have hne :s[0].toNat≠48 :=by
   intro e
   rw [Ds h1] at hz
   simp [←UInt8.toNat_inj,e] at hz
  have hl : (s.data.toList.drop 1).length=s.size - 1 :=by rw [List.length_drop,Bi]
  have := (Uj (s.data.toList.drop 1) (10*0+ (s[0].toNat - 48)) h2.2).1
  rw [Cl,List.foldl_cons] at h4
  rw [hl] at this
  have p :10^7≤10^ (s.size - 1) :=Nat.pow_le_pow_right (by omega) (by omega)
  have q :1*10^ (s.size - 1) ≤ (10*0+ (s[0].toNat - 48)) *10^ (s.size - 1) :=Nat.mul_le_mul_right _ (by omega)
  omega
 ·rfl
theorem Uk {l :List UInt8} {k :Nat} {c :UInt8} (h :l[k]? =some c) :Cl (l.take (k+1)) =10*Cl (l.take k) + (c.toNat - 48) :=by
 rw [List.take_add_one,h,Cl,Cl,List.foldl_append];rfl
theorem Pf {f :UInt8→Bool} {l :List UInt8} {k :Nat} (h :l.all f=true) : (l.take k).all f=true :=by
 rw [List.all_eq_true] at h⊢
 exact fun x hx=>h x (List.mem_of_mem_take hx)
theorem Sn {l :List UInt8} (h :l.all A3=true) (hl :l.length≤7) :Cl l<10000000 :=by
 have := (Uj l 0 h).2
 have p :10^l.length≤10^7 :=Nat.pow_le_pow_right (by omega) hl
 rw [Cl];omega
theorem Ul (s :Wd) (w :World) : ∃cap W,(convert 9 86 (.string s)).run Tryz.prog w= .ok (.slice (some ⟨w.heap.size,0,none⟩) s.size cap) W∧Below w.heap.size w W∧ ∀ (k :Nat) (h :k<s.size),W.cell? ⟨w.heap.size,k,none⟩ =some (.int .u8 (s[k].toNat :Int)) :=by
 refine ⟨_,_,run_bytes_of_string w 9 86 5 s Tryz.underlying9 Tryz.underlying86 Tryz.underlying5,(Below.refl _ _).drew.alloc (Nat.le_refl _) _,fun k h=> ?_⟩
 have hb :=bytesRow_at s (grownCap w s.size 0 5) k h
 generalize bytesRow s (grownCap w s.size 0 5) =C at hb⊢
 have hblk : (w.drew.alloc (.cells C 5 (C.size,C.size+1))).heap[w.heap.size]? =some (.cells C 5 (C.size,C.size+1)) :=by
  show (w.heap.push _)[w.heap.size]? =_
  simp
 exact Aa hblk hb
theorem Um {s :Wd} {R :Option Int} (h :R=if Cl s.data.toList≤1000000 then some (Cl s.data.toList :Int) else none) :R=if decide ((Cl s.data.toList :Int) ≤1000000) =true then some (Cl s.data.toList :Int) else none :=by
 rw [h]
 by_cases hx :Cl s.data.toList≤1000000
 ·rw [if_pos hx,if_pos (by simp;omega)]
 ·rw [if_neg hx,if_neg (by simp;omega)]
def Ab8 (R :Option Int) (w :World) (e :Ending) (w' :World) :Prop := ∃n ok,e= .returned (.tuple #[.int .i64 n, .bool ok]) ∧R= (if ok=true then some n else none) ∧Below w.heap.size w w'
set_option maxHeartbeats 2000000 in
set_option maxRecDepth 100000 in
theorem Lu (s :Wd) (w :World) :
  Calls Tryz.prog 35 #[.string s] w (Ab8 (Cs s) w) :=by
 by_cases h1 :s.size=0
 ·have he :s.toList.isEmpty=true :=by rw [Hz h1];rw [Lib.toList_data];rfl
  have hn :Cs s=none :=by rw [Cs,h1];simp
  rw [hn]
  clear h1 hn
  go_enter Tryz.func35,Tryz.ntmps35
  go_wp2_with fail
  go_ret2
  exact ⟨_,_,rfl,by simp,Below.refl _ _⟩
 by_cases h2 :7<s.size
 ·have he :s.toList.isEmpty=false :=by rw [Lib.toList_data,Dt s (by omega)];rfl
  have q : (7 :Int) < (s.size :Int) :=by omega
  rw [Zr h2]
  clear h1 h2
  go_enter Tryz.func35,Tryz.ntmps35
  go_wp2_with fail
  go_ret2
  exact ⟨_,_,rfl,by simp,Below.refl _ _⟩
 have he :s.toList.isEmpty=false :=by rw [Lib.toList_data,Dt s (by omega)];rfl
 have q : ¬ (7 :Int) < (s.size :Int) :=by omega
 have q0 : (0 :Int) < (s.size :Int) :=by omega
 have h1' :1≤s.size :=by omega
 have TR :=Ab7 s w (by omega)
 by_cases h3 :s.data.toList.all A3=true
 ·rw [h3] at TR
  have hf0 :fst (fun c=>c==48) s= (s[0] ==48) :=Ds h1'
  have e0 : ((s[0].toNat :Int) ==48) = (s[0] ==48) :=by
   rw [Bool.eq_iff_iff,beq_iff_eq,beq_iff_eq,←UInt8.toNat_inj];simp;omega
  by_cases h4 : (s[0] ==48) =true∧s.size≠1
  ·have b1 : ((s[0].toNat :Int) ==48) =true :=e0.trans h4.1
   have b2 : (s.toList== [48]) =false :=by
    rw [An]
    refine decide_eq_false fun e=>h4.2 ?_
    rw [e];rfl
   have hn :Cs s=none :=by rw [Cs,hf0,h4.1];simp [h4.2]
   rw [hn]
   clear h3 hn hf0 e0 h4
   go_enter Tryz.func35,Tryz.ntmps35
   go_wp2_with (go_at_call 17;go_must (go_fit TR;rintro e w1 ⟨x,rfl,hx,hb1⟩))
   go_ret2
   exact ⟨_,_,rfl,by simp,hb1⟩
  ·have hn :Cs s=if Cl s.data.toList≤1000000 then some (Cl s.data.toList :Int) else none :=by
    have e5 : (decide (s.size=1) || !(s[0] ==48)) =true :=by
     cases hx : (s[0] ==48)
     ·simp
     ·simp;exact Classical.byContradiction fun h=>h4 ⟨hx,h⟩
    rw [Cs,hf0,h3,e5,decide_eq_true h1']
    simp
   have HB :Hid (s.data.toList.all A3=true) :=h3
   have hbz : ((s[0].toNat :Int) ==48) =false∨ (((s[0].toNat :Int) ==48) =true∧ (s.toList== [48]) =true) :=by
    cases hx : (s[0] ==48)
    ·exact .inl (e0.trans hx)
    ·refine .inr ⟨e0.trans hx, ?_⟩
     have h5 :s.size=1 :=Classical.byContradiction fun h=>h4 ⟨hx,h⟩
     have hl :=Dt s h1'
     rw [List.drop_eq_nil_of_le (by rw [Bi];omega)] at hl
     rw [Lib.toList_data,hl,show s[0] =48 from by simpa using hx];rfl
   have HN :Hid _ :=hn
   clear hn h4 e0 hf0 h3
   generalize Cs s=R at HN⊢
   rcases hbz with b1 | ⟨b1,b2⟩
   ·go_enter Tryz.func35,Tryz.ntmps35
    go_wp2_with (go_at_call 17;go_must (go_fit TR;rintro e w1 ⟨x,rfl,hx,hb1⟩))
    obtain ⟨cap,w2,hcv,hb2,hcells⟩ :=Ul s w1
    have HCL :Hid _ :=hcells
    clear hcells
    rw [hcv]
    clear hcv TR hx
    go_wp2_with fail
    go_loop [4,31] (fun v i=> ∃k :Nat,k≤s.size∧i= .int .i64 k∧v= .int .i64 (Cl (s.data.toList.take k) :Nat)) (fun _ i=>s.size - (intOf i).toNat)
    case atStart=>exact ⟨0,Nat.zero_le _,rfl,rfl⟩
    case round=>
     obtain ⟨k,hk,rfl,rfl⟩ :=hrel
     by_cases hlt :k<s.size
     ·have hc :=HCL.out k hlt
      have hdg :A3 s[k] =true :=List.all_eq_true.1 HB.out _ (List.mem_of_getElem? (G3 hlt))
      have hdg2 :48≤s[k].toNat∧s[k].toNat≤57 :=by simpa [A3] using hdg
      have ht :=Uk (G3 hlt)
      have hbt :Cl (s.data.toList.take k) <10000000 :=Sn (Pf HB.out) (by rw [List.length_take,Bi];omega)
      generalize Cl (s.data.toList.take k) =v at ht hbt
      generalize s[k].toNat=c at hc hdg2 ht
      have j1 : (k :Int) < (s.size :Int) :=by omega
      have c1 : (48 :Int) ≤ (c :Int) :=by omega
      have c2 : (c :Int) ≤57 :=by omega
      have HV :Hid ((10*v+ (c - 48) :Nat) =Cl (s.data.toList.take (k+1))) :=ht.symm
      clear ht hdg
      go_wp2_with fail
      go_round
      case rel=>exact ⟨k+1,by omega,by go_num,by rw [←HV.out];congr 1;omega⟩
      case measure=>simp [intOf];omega
     ·have j1 : ¬ (k :Int) < (s.size :Int) :=by omega
      have ek :s.data.toList.take k=s.data.toList :=List.take_of_length_le (by rw [Bi];omega)
      have HV :Hid _ :=Um HN.out
      rw [ek]
      clear ek
      generalize Cl s.data.toList=v at HV
      go_wp2_with fail
      go_ret2
      exact ⟨_,_,rfl,HV.out,hb1.trans (hb2.mono hb1.size)⟩
   ·go_enter Tryz.func35,Tryz.ntmps35
    go_wp2_with (go_at_call 17;go_must (go_fit TR;rintro e w1 ⟨x,rfl,hx,hb1⟩))
    obtain ⟨cap,w2,hcv,hb2,hcells⟩ :=Ul s w1
    have HCL :Hid _ :=hcells
    clear hcells
    rw [hcv]
    clear hcv TR hx
    go_wp2_with fail
    go_loop [4,31] (fun v i=> ∃k :Nat,k≤s.size∧i= .int .i64 k∧v= .int .i64 (Cl (s.data.toList.take k) :Nat)) (fun _ i=>s.size - (intOf i).toNat)
    case atStart=>exact ⟨0,Nat.zero_le _,rfl,rfl⟩
    case round=>
     obtain ⟨k,hk,rfl,rfl⟩ :=hrel
     by_cases hlt :k<s.size
     ·have hc :=HCL.out k hlt
      have hdg :A3 s[k] =true :=List.all_eq_true.1 HB.out _ (List.mem_of_getElem? (G3 hlt))
      have hdg2 :48≤s[k].toNat∧s[k].toNat≤57 :=by simpa [A3] using hdg
      have ht :=Uk (G3 hlt)
      have hbt :Cl (s.data.toList.take k) <10000000 :=Sn (Pf HB.out) (by rw [List.length_take,Bi];omega)
      generalize Cl (s.data.toList.take k) =v at ht hbt
      generalize s[k].toNat=c at hc hdg2 ht
      have j1 : (k :Int) < (s.size :Int) :=by omega
      have c1 : (48 :Int) ≤ (c :Int) :=by omega
      have c2 : (c :Int) ≤57 :=by omega
      have HV :Hid ((10*v+ (c - 48) :Nat) =Cl (s.data.toList.take (k+1))) :=ht.symm
      clear ht hdg
      go_wp2_with fail
      go_round
      case rel=>exact ⟨k+1,by omega,by go_num,by rw [←HV.out];congr 1;omega⟩
      case measure=>simp [intOf];omega
     ·have j1 : ¬ (k :Int) < (s.size :Int) :=by omega
      have ek :s.data.toList.take k=s.data.toList :=List.take_of_length_le (by rw [Bi];omega)
      have HV :Hid _ :=Um HN.out
      rw [ek]
      clear ek
      generalize Cl s.data.toList=v at HV
      go_wp2_with fail
      go_ret2
      exact ⟨_,_,rfl,HV.out,hb1.trans (hb2.mono hb1.size)⟩
 ·have h3' :s.data.toList.all A3=false :=Bool.eq_false_iff.2 h3
  rw [h3'] at TR
  have hn :Cs s=none :=by rw [Cs,h3'];simp
  rw [hn]
  clear h3 h3' hn
  go_enter Tryz.func35,Tryz.ntmps35
  go_wp2_with (go_at_call 17;go_must (go_fit TR;rintro e w1 ⟨x,rfl,hx,hb1⟩))
  go_ret2
  exact ⟨_,_,rfl,by simp,hb1⟩
end Go.Proofs.YtifjaegfpdjikaaGreatDoor

namespace Go.Proofs.YtifjaegfpdjikaaGreatDoor
open Go.RowKit
def Bj (R :Option E) (w :World) (e :Ending) (w' :World) :Prop := ∃v ok x,e= .returned (.tuple #[v, .bool ok]) ∧IsE (Fr w.heap.size) w' x v∧R= (if ok=true then some x else none) ∧Below w.heap.size w w'
def Whole (L :List Wd) :Prop := ∀x∈L,IsTok x∧x.size≤1500
theorem Whole.take {L :List Wd} (h :Whole L) (i :Nat) :Whole (L.take i) :=fun x hx=>h x (List.mem_of_mem_take hx)
theorem Whole.drop {L :List Wd} (h :Whole L) (i :Nat) :Whole (L.drop i) :=fun x hx=>h x (List.mem_of_mem_drop hx)
def Cz (f :FuncId) (R :List Wd→Option E) (d :Int) (n :Nat) :Prop := ∀sl L w,L.length≤n→L.length≤1600→Env w→Ak w sl L→Whole L→Calls Tryz.prog f #[sl, .int .i64 d] w (Bj (R L) w)
theorem Wq {X :List Wd} {L :List Wd} {d :Int} {i k :Nat} {p :Option Nat} (hp : ∀j,p=some j→j<i) :Cu X d i p L=some k→k<i+L.length :=by
 induction L generalizing d i p with
 | nil=>intro h;simp [Cu] at h;exact Nat.lt_of_lt_of_le (hp k h) (by simp)
 | cons x l ih=>
  intro h
  rw [Cu] at h
  have :=ih (p :=if d=0∧inX X x=true then some i else p) (i :=i+1) (fun j hj=>by split at hj;cases hj;omega;have :=hp j hj;omega) h
  simp;omega
theorem Bk {B :Nat} {w w' :World} (h :Below B w w') {b :Nat} (hb :B≤b) (v0 v1 v2 v3 v4 v5 v6 v7 :Value) :Below B w (set8 w' b v0 v1 v2 v3 v4 v5 v6 v7) :=
 (((((((h.setCell (p := ⟨b,_,none⟩) hb _).setCell (p := ⟨b,_,none⟩) hb _).setCell (p := ⟨b,_,none⟩) hb _).setCell (p := ⟨b,_,none⟩) hb _).setCell (p := ⟨b,_,none⟩) hb _).setCell (p := ⟨b,_,none⟩) hb _).setCell (p := ⟨b,_,none⟩) hb _).setCell (p := ⟨b,_,none⟩) hb _
theorem Ot {w w1 w2 w3 :World} {x y :E} {op op2 xn yn o :Int} {xv yv :V} {xs nmv ys nm2 :Wd} {sv sv2 :Value} (hb1 :Below w.heap.size w w1) (h1 :w.heap.size+1≤w1.heap.size) (hb2 :Below w1.heap.size w1 w2) (hE :IsE (Fr w1.heap.size) w2 x (.agg (A2 op xv xs nmv xn sv)))
  (hE2 :IsE (Fr (w2.alloc (.cells (A2 op xv xs nmv xn sv) 37)).heap.size) w3 y (.agg (A2 op2 yv ys nm2 yn sv2))) (hb3 :Below (w2.alloc (.cells (A2 op xv xs nmv xn sv) 37)).heap.size (w2.alloc (.cells (A2 op xv xs nmv xn sv) 37)) w3) :
  IsE (Fr w.heap.size) (set8 ((w3.alloc (.cells (A2 op2 yv ys nm2 yn sv2) 37)).alloc (.cells (A2 op xv xs nmv xn sv++A2 op2 yv ys nm2 yn sv2) 37)) w.heap.size (.int .i64 o) (.int .i64 zero.k) (.int .i64 zero.n) (.string zero.s) (.string noW) (.string noW) (.int .i64 0) (.slice (some ⟨w3.heap.size+1,0,none⟩) 2 2)) (Cd o [x,y]) (.agg (A2 o zero noW noW 0 (.slice (some ⟨w3.heap.size+1,0,none⟩) 2 2))) ∧
  Below w.heap.size w (set8 ((w3.alloc (.cells (A2 op2 yv ys nm2 yn sv2) 37)).alloc (.cells (A2 op xv xs nmv xn sv++A2 op2 yv ys nm2 yn sv2) 37)) w.heap.size (.int .i64 o) (.int .i64 zero.k) (.int .i64 zero.n) (.string zero.s) (.string noW) (.string noW) (.int .i64 0) (.slice (some ⟨w3.heap.size+1,0,none⟩) 2 2)) :=by
 have s1 :=hb1.size
 have s2 :=hb2.size
 have s3 :=hb3.size
 rw [World.size_alloc] at s3
 have k3 :Below w.heap.size w w3 := ((hb1.trans (hb2.mono s1)).alloc (by omega) _).trans (hb3.mono (by rw [World.size_alloc];omega))
 constructor
 ·have g1 :IsE (Fr (w.heap.size+1)) w2 x (.agg (A2 op xv xs nmv xn sv)) :=IsE.mono (fun k _ hk=>by have :w1.heap.size≤k :=hk;show w.heap.size+1≤k;omega) _ _ hE
  have g3 :IsE (Fr (w.heap.size+1)) w3 x (.agg (A2 op xv xs nmv xn sv)) :=IsE.keep (((Keeps.refl _ _).alloc _).trans (Bb hb3)) _ _ g1
  have g4 :IsE (Fr (w.heap.size+1)) w3 y (.agg (A2 op2 yv ys nm2 yn sv2)) :=IsE.mono (fun k _ hk=>by have h : (w2.alloc (.cells (A2 op xv xs nmv xn sv) 37)).heap.size≤k :=hk;rw [World.size_alloc] at h;show w.heap.size+1≤k;omega) _ _ hE2
  have kk :Keeps (Fr (w.heap.size+1)) w3 (w3.alloc (.cells (A2 op2 yv ys nm2 yn sv2) 37)) := (Keeps.refl _ _).alloc _
  have g6 :=Jz (IsE.keep kk _ _ g3) (IsE.keep kk _ _ g4) (show w.heap.size+1≤ (w3.alloc (.cells (A2 op2 yv ys nm2 yn sv2) 37)).heap.size by rw [World.size_alloc];omega)
  rw [World.size_alloc] at g6
  exact IsE.mono (fun k _ hk=>by have :w.heap.size+1≤k :=hk;show w.heap.size≤k;omega) _ _ (IsE.keep ((Keeps.refl _ _).set8 (show ¬w.heap.size+1≤w.heap.size by omega) _ _ _ _ _ _ _ _) _ _ (Ha (op :=o) (x :=zero) (s :=noW) (name :=noW) (n :=0) g6))
 ·exact Bk ((k3.alloc (by omega) _).alloc (by rw [World.size_alloc];omega) _) (Nat.le_refl _) _ _ _ _ _ _ _ _
theorem Kr {b off cap i :Nat} {L :List Wd} (hi :i<L.length) : (cap=i+1∧ ∀W,Ak W (.slice (some ⟨b,off,none⟩) L.length cap) L→Ak W (.slice (some ⟨b,off,none⟩) 0 0) (L.drop (i+1))) ∨ (¬cap=i+1∧ ∀W,Ak W (.slice (some ⟨b,off,none⟩) L.length cap) L→Ak W (.slice (some ⟨b,off+ (i+1),none⟩) (L.length - (i+1)) (cap - (i+1))) (L.drop (i+1))) :=by
 by_cases hc :cap=i+1
 ·refine .inl ⟨hc,fun W h=> ?_⟩
  obtain ⟨p1,p2,p3,p4⟩ :=A7 h (by omega)
  have :=Uh (w :=W) (L :=L) (i :=i+1) ⟨b,off,none⟩ 0 (by omega)
  rwa [show L.length - (i+1) =0 from by omega] at this
 ·refine .inr ⟨hc,fun W h=> ?_⟩
  obtain ⟨p1,p2,p3,p4⟩ :=A7 h (by omega)
  exact Oe p4 p1 (by omega) p2 p3
set_option maxRecDepth 100000 in
set_option maxHeartbeats 4000000 in
theorem Xv (t :List Wd→Option E) (d :Int) (n :Nat) (ih :Cz 62 (fun L=>D6 Ib (fun _=>7) t n L) d n) (ht :Cz 87 t d 1600) (sl :Value) (L :List Wd) (w :World) (hn :L.length≤n+1) (hl :L.length≤1600) (he :Env w) (hL :Ak w sl L) (hw :Whole L) (i :Nat) (hi :Ib L=some i) :
  Calls Tryz.prog 62 #[sl, .int .i64 d] w (Bj ((D6 Ib (fun _=>7) t n (L.take i)).bind fun a=> (t (L.drop (i+1))).map fun b=>Cd 7 [a,b]) w) :=by
 have hil :i<L.length :=by have :=Wq (fun j hj=>by cases hj) hi;omega
 obtain ⟨b,off,cap,rfl,hcap,hcell⟩ :=A0 hL (by omega)
 clear hcell
 have LA :=G7 _ _ L [Dd] ((w.alloc (.cells Ap 37)).alloc (.cells #[.string Dd] 9)) hl ((hL.below ((Below.refl _ _).alloc (Nat.le_refl _) _)).below ((Below.refl _ _).alloc (Nat.le_refl _) _)) (Gv (w.alloc (.cells Ap 37)) Dd)
 rw [show Cu [Dd] 0 0 none L=some i from hi] at LA
 simp only [World.size_alloc] at LA
 rw [show D9 (some i) = (i :Int) from rfl] at LA
 generalize hW : (w.alloc (.cells Ap 37)).alloc (.cells #[.string Dd] 9) =W at LA
 have HW :Hid _ :=hW
 have hb0 :Below w.heap.size w W :=by rw [←hW];exact ((Below.refl _ _).alloc (Nat.le_refl _) _).alloc (by simp) _
 have b0 :W.heap[w.heap.size]? =some (.cells Ap 37) :=by rw [←hW];exact Ae (Ad w _) _
 have hWs :W.heap.size=w.heap.size+2 :=by rw [←hW,World.size_alloc,World.size_alloc]
 clear hW
 have q0 : (0 :Int) ≤ (i :Int) :=by omega
 have q1 : (i :Int) +1≤ (L.length :Int) :=by omega
 have HL :Hid _ :=hL
 have IH :=ih (.slice (some ⟨b,off,none⟩) i cap) (L.take i) W (by simp;omega) (by simp;omega) (he.next hb0) (by obtain ⟨p1,p2,p3,p4⟩ :=A7 (hL.below hb0) (by omega);exact Gh p4 p1 (by omega) p2 p3) (hw.take i)
 have TF :=fun sl W (h1 :Ak W sl (L.drop (i+1))) (h2 :Env W) =>ht sl (L.drop (i+1)) W (by simp;omega) (by simp;omega) h2 h1 (hw.drop _)
 simp only at IH
 generalize D6 Ib (fun _=>7) t n (L.take i) =RA at IH⊢
 generalize t (L.drop (i+1)) =RB at TF⊢
 have HTF :Hid _ :=TF
 clear TF hw ih ht hi
 have key :=Kr (b :=b) (off :=off) (cap :=cap) hil
 rcases key with ⟨rfl,hdr⟩ | ⟨hcp,hdr⟩
 all_goals
  have TF :=fun W (h1 :Below w.heap.size w W) =>HTF.out _ W (hdr W (hL.below h1)) (he.next h1)
  clear HTF hdr hL HL hil
  generalize L.length=nn at*
  clear L
  go_enter Tryz.func62,Tryz.ntmps62
  go_wp2_with fail
  rw [HW.out]
  go_fit LA
  rintro e W ⟨rfl,rfl⟩
  go_wp2_with (first
   | (go_at_call 62;go_must (go_fit IH;rintro e w2 ⟨v,ok,x,rfl,hE,hR,hb2⟩;have HR :Hid _ :=hR;clear hR;have b2 := (hb2.block _ (lt_of_block b0)).trans b0;obtain ⟨op,xv,xs,nmv,xn,ao,kk,c,rfl⟩ :=hE.shape;obtain ⟨xk,xi,xs2⟩ :=xv;have hbB :Below w.heap.size w w2 :=hb0.trans (hb2.mono hb0.size);have TM :=TF (w2.alloc (.cells #[.int .i64 op, .int .i64 xk, .int .i64 xi, .string xs2, .string xs, .string nmv, .int .i64 xn, .slice ao kk c] 37)) (hbB.alloc hbB.size _)))
   | (go_at_call 87;go_must (go_fit TM;rintro e w3 ⟨v2,ok2,x2,rfl,hE2,hR2,hb3⟩;have HR2 :Hid _ :=hR2;clear hR2;obtain ⟨op2,yv,ys,nm2,yn,ao2,k2,c2,rfl⟩ :=hE2.shape;obtain ⟨yk,yi,ys2⟩ :=yv;have b3 := (hb3.block _ (lt_of_block (Ae b2 (.cells #[.int .i64 op, .int .i64 xk, .int .i64 xi, .string xs2, .string xs, .string nmv, .int .i64 xn, .slice ao kk c] 37)))).trans (Ae b2 (.cells #[.int .i64 op, .int .i64 xk, .int .i64 xi, .string xs2, .string xs, .string nmv, .int .i64 xn, .slice ao kk c] 37));have c3 := (hb3.block _ (lt_of_block (Ad w2 (.cells #[.int .i64 op, .int .i64 xk, .int .i64 xi, .string xs2, .string xs, .string nmv, .int .i64 xn, .slice ao kk c] 37)))).trans (Ad w2 (.cells #[.int .i64 op, .int .i64 xk, .int .i64 xi, .string xs2, .string xs, .string nmv, .int .i64 xn, .slice ao kk c] 37));obtain ⟨l0,l1,l2,l3,l4,l5,l6,l7⟩ :=Cq (Ae c3 (.cells #[.int .i64 op2, .int .i64 yk, .int .i64 yi, .string ys2, .string ys, .string nm2, .int .i64 yn, .slice ao2 k2 c2] 37)) rfl;obtain ⟨⟨r0,r1,r2,r3,r4,r5,r6,r7⟩,f0,f1,f2,f3,f4,f5,f6,f7⟩ :=Ca (Ae (Ae b3 (.cells #[.int .i64 op2, .int .i64 yk, .int .i64 yi, .string ys2, .string ys, .string nm2, .int .i64 yn, .slice ao2 k2 c2] 37)) (.cells #[.int .i64 op, .int .i64 xk, .int .i64 xi, .string xs2, .string xs, .string nmv, .int .i64 xn, .slice ao kk c, .int .i64 op2, .int .i64 yk, .int .i64 yi, .string ys2, .string ys, .string nm2, .int .i64 yn, .slice ao2 k2 c2] 37)))))
  all_goals
   obtain ⟨hN,hBN⟩ :=Ot (o :=7) hb0 (by omega) hb2 hE hE2 hb3
   refine bodyPost_ret (v := .tuple #[.agg #[.int .i64 7, .int .i64 zero.k, .int .i64 zero.n, .string zero.s, .string noW, .string noW, .int .i64 0, .slice (some ⟨w3.heap.size+1,0,none⟩) 2 2], .bool _]) (by simp [results,Tryz.results62,go_sem,r0,r1,r2,r3,r4,r5,r6,r7];exact ⟨⟨rfl,rfl,rfl⟩,rfl⟩) rfl ⟨_,_,_,rfl,hN, ?_,hBN⟩
   rw [HR.out,HR2.out]
   cases ok<;>cases ok2<;>first | rfl | contradiction
end Go.Proofs.YtifjaegfpdjikaaGreatDoor

namespace Go.Proofs.YtifjaegfpdjikaaGreatDoor
open Go.RowKit
theorem Ih {w w1 w2 :World} {x :E} {op xn :Int} {xv :V} {xs nmv :Wd} {sv :Value} (hb1 :Below w.heap.size w w1) (h1 :w.heap.size+1≤w1.heap.size) (hb2 :Below w1.heap.size w1 w2) (hE :IsE (Fr w1.heap.size) w2 x (.agg (A2 op xv xs nmv xn sv))) :
  IsE (Fr w.heap.size) (set8 w2 w.heap.size (.int .i64 op) (.int .i64 xv.k) (.int .i64 xv.n) (.string xv.s) (.string xs) (.string nmv) (.int .i64 xn) sv) x (.agg (A2 op xv xs nmv xn sv)) ∧
  Below w.heap.size w (set8 w2 w.heap.size (.int .i64 op) (.int .i64 xv.k) (.int .i64 xv.n) (.string xv.s) (.string xs) (.string nmv) (.int .i64 xn) sv) :=by
 refine ⟨?_,Bk (hb1.trans (hb2.mono hb1.size)) (Nat.le_refl _) _ _ _ _ _ _ _ _⟩
 have g1 :IsE (Fr (w.heap.size+1)) w2 x (.agg (A2 op xv xs nmv xn sv)) :=IsE.mono (fun k _ hk=>by have :w1.heap.size≤k :=hk;show w.heap.size+1≤k;omega) _ _ hE
 exact IsE.mono (fun k _ hk=>by have :w.heap.size+1≤k :=hk;show w.heap.size≤k;omega) _ _ (IsE.keep ((Keeps.refl _ _).set8 (show ¬w.heap.size+1≤w.heap.size by omega) _ _ _ _ _ _ _ _) _ _ g1)
set_option maxRecDepth 100000 in
set_option maxHeartbeats 4000000 in
theorem Qw (t :List Wd→Option E) (d :Int) (ht :Cz 87 t d 1600) (sl :Value) (L :List Wd) (w :World) (hl :L.length≤1600) (he :Env w) (hL :Ak w sl L) (hw :Whole L) (hi :Ib L=none) :
  Calls Tryz.prog 62 #[sl, .int .i64 d] w (Bj (t L) w) :=by
 have LA :=G7 _ _ L [Dd] ((w.alloc (.cells Ap 37)).alloc (.cells #[.string Dd] 9)) hl ((hL.below ((Below.refl _ _).alloc (Nat.le_refl _) _)).below ((Below.refl _ _).alloc (Nat.le_refl _) _)) (Gv (w.alloc (.cells Ap 37)) Dd)
 rw [show Cu [Dd] 0 0 none L=none from hi] at LA
 simp only [World.size_alloc] at LA
 rw [show D9 none= (-1 :Int) from rfl] at LA
 generalize hW : (w.alloc (.cells Ap 37)).alloc (.cells #[.string Dd] 9) =W at LA
 have HW :Hid _ :=hW
 have hb0 :Below w.heap.size w W :=by rw [←hW];exact ((Below.refl _ _).alloc (Nat.le_refl _) _).alloc (by simp) _
 have b0 :W.heap[w.heap.size]? =some (.cells Ap 37) :=by rw [←hW];exact Ae (Ad w _) _
 have hWs :W.heap.size=w.heap.size+2 :=by rw [←hW,World.size_alloc,World.size_alloc]
 clear hW
 have TM :=ht sl L W hl hl (he.next hb0) (hL.below hb0) hw
 generalize t L=R at TM⊢
 obtain ⟨a1,n1,c1,rfl,hn1⟩ :=Ax hL
 clear hL hw ht hi hn1 hl L
 go_enter Tryz.func62,Tryz.ntmps62
 go_wp2_with fail
 rw [HW.out]
 go_fit LA
 rintro e W ⟨rfl,rfl⟩
 go_wp2_with (go_at_call 87;go_must (go_fit TM;rintro e w2 ⟨v,ok,x,rfl,hE,hR,hb2⟩;have HR :Hid _ :=hR;clear hR;have b2 := (hb2.block _ (lt_of_block b0)).trans b0;obtain ⟨op,xv,xs,nmv,xn,ao,kk,c,rfl⟩ :=hE.shape;obtain ⟨xk,xi,xs2⟩ :=xv;obtain ⟨⟨r0,r1,r2,r3,r4,r5,r6,r7⟩,f0,f1,f2,f3,f4,f5,f6,f7⟩ :=Ca b2))
 obtain ⟨hN,hBN⟩ :=Ih hb0 (by omega) hb2 hE
 exact bodyPost_ret (v := .tuple #[.agg #[.int .i64 op, .int .i64 xk, .int .i64 xi, .string xs2, .string xs, .string nmv, .int .i64 xn, .slice ao kk c], .bool ok]) (by simp [results,Tryz.results62,go_sem,r0,r1,r2,r3,r4,r5,r6,r7]) rfl ⟨_,_,_,rfl,hN,HR.out,hBN⟩
theorem Xw (t :List Wd→Option E) (d :Int) (ht :Cz 87 t d 1600) : ∀n,Cz 62 (fun L=>D6 Ib (fun _=>7) t n L) d n :=by
 intro n
 induction n with
 | zero=>
  intro sl L w h1 hl he hL hw
  have e :L= [] :=List.length_eq_zero_iff.1 (by omega)
  subst e
  exact Qw t d ht sl [] w hl he hL hw rfl
 | succ n ih=>
  intro sl L w h1 hl he hL hw
  simp only [D6]
  cases hi :Ib L with
  | none=>exact Qw t d ht sl L w hl he hL hw hi
  | some i=>exact Xv t d n ih ht sl L w h1 hl he hL hw i hi
theorem Zs (t :List Wd→Option E) (d :Int) (ht :Cz 87 t d 1600) :Cz 62 (Np t) d 1600 :=fun sl L w _ hl he hL hw=>Xw t d ht L.length sl L w (Nat.le_refl _) hl he hL hw
end Go.Proofs.YtifjaegfpdjikaaGreatDoor

namespace Go.Proofs.YtifjaegfpdjikaaGreatDoor
open Go.RowKit
theorem H7 (a :Nat) (k :Wd) (s :St) (d :Int) (w :World) (h :Rd w a s d) (hk :0<k.size) :
  Calls Tryz.prog 23 #[.pointer (some ⟨a,0,none⟩), .slice (some ⟨w.heap.size,0,none⟩) 1 1] (w.alloc (.cells #[.string k] 9)) fun e w'=>e= .returned (.tuple #[]) ∧Rd w' a (Ar k s) d∧But a w w' :=by
 have hl :=h.lt
 refine (Pv a w.heap.size 1 k s d _ (h.below ((Below.refl _ _).alloc (Nat.le_refl _) _)) hk (by omega) (Aa (Ad w _) rfl)).mono fun e w' hx=> ?_
 exact ⟨hx.1,hx.2.1,((But.refl a w).alloc _).trans hx.2.2⟩
set_option maxHeartbeats 2000000 in
theorem Ta (p :St→_×St) (d :Int) (hp :Em 80 Dc Dv p d) (hs : ∀s,Aw (p s).2≤Aw s) (a :Nat) (s :St) (w :World) (h :Rd w a s d) (he :Env w) (ha :16≤a) :
  Calls Tryz.prog 96 #[.pointer (some ⟨a,0,none⟩), .func (.func 80) #[.pointer (some ⟨a,0,none⟩)] #[]] w fun e w'=> ∃sv,e= .returned sv∧IsL Dc (Fr w.heap.size) w' sv (Df p s).1∧Rd w' a (Df p s).2 d∧But a w w' :=by
 have hla :=h.lt
 have W1 :=H7 a As s d w h (by decide)
 have hbr :Df p s= ((A1 p (Ar As s)).1,Ar Aq (A1 p (Ar As s)).2) :=rfl
 rw [hbr]
 generalize Ar As s=s1 at W1⊢
 have LF :=fun w1 (h1 :Rd w1 a s1 d) (e1 :Env w1) =>Sk p d hp hs a s1 w1 h1 e1 ha
 generalize A1 p s1=q at LF⊢
 obtain ⟨l,s2⟩ :=q
 simp only at LF⊢
 clear hbr hp hs
 go_enter Tryz.func96,Tryz.ntmps96
 go_wp2_with (first
  | (go_at_call 23;go_fit W1;rintro e w1 ⟨rfl,hr1,hb1⟩;have L1 :=LF w1 hr1 (he.but hb1 ha))
  | (go_at_call 79;go_must (go_fit L1;rintro e w2 ⟨sv,rfl,hL,hr2,hb2⟩;have W2 :=H7 a Aq s2 d w2 hr2 (by decide)))
  | (go_at_call 23;go_fit W2;rintro e w3 ⟨rfl,hr3,hb3⟩))
 go_ret
 have h1 :=hb1.size
 exact ⟨_,rfl,(hL.mono (fun k _ hk=>by have :w1.heap.size≤k :=hk;show w.heap.size≤k;omega)).keep (hb3.keeps (show ¬w.heap.size≤a by omega)),hr3,(hb1.trans hb2).trans hb3⟩
set_option maxHeartbeats 2000000 in
theorem Un (p :St→_×St) (d :Int) (hp :Em 95 Iy Dv p d) (hs : ∀s,Aw (p s).2≤Aw s) (a :Nat) (s :St) (w :World) (h :Rd w a s d) (he :Env w) (ha :16≤a) :
  Calls Tryz.prog 94 #[.pointer (some ⟨a,0,none⟩), .func (.func 95) #[.pointer (some ⟨a,0,none⟩)] #[]] w fun e w'=> ∃sv,e= .returned sv∧IsL Iy (Fr w.heap.size) w' sv (Df p s).1∧Rd w' a (Df p s).2 d∧But a w w' :=by
 have hla :=h.lt
 have W1 :=H7 a As s d w h (by decide)
 have hbr :Df p s= ((A1 p (Ar As s)).1,Ar Aq (A1 p (Ar As s)).2) :=rfl
 rw [hbr]
 generalize Ar As s=s1 at W1⊢
 have LF :=fun w1 (h1 :Rd w1 a s1 d) (e1 :Env w1) =>Aa7 p d hp hs a s1 w1 h1 e1 ha
 generalize A1 p s1=q at LF⊢
 obtain ⟨l,s2⟩ :=q
 simp only at LF⊢
 clear hbr hp hs
 go_enter Tryz.func94,Tryz.ntmps94
 go_wp2_with (first
  | (go_at_call 23;go_fit W1;rintro e w1 ⟨rfl,hr1,hb1⟩;have L1 :=LF w1 hr1 (he.but hb1 ha))
  | (go_at_call 107;go_must (go_fit L1;rintro e w2 ⟨sv,rfl,hL,hr2,hb2⟩;have W2 :=H7 a Aq s2 d w2 hr2 (by decide)))
  | (go_at_call 23;go_fit W2;rintro e w3 ⟨rfl,hr3,hb3⟩))
 go_ret
 have h1 :=hb1.size
 exact ⟨_,rfl,(hL.mono (fun k _ hk=>by have :w1.heap.size≤k :=hk;show w.heap.size≤k;omega)).keep (hb3.keeps (show ¬w.heap.size≤a by omega)),hr3,(hb1.trans hb2).trans hb3⟩
theorem Ab9 :Em 75 Jl Oc L9 0 :=by
 intro a s w h he ha
 have B :=Ta Br 0 (Pe Lq) Jh.shrinks a s w h he ha
 have hr :L9 s=Df Br s :=rfl
 rw [hr]
 generalize Df Br s=q at B⊢
 obtain ⟨l,s1⟩ :=q
 simp only at B⊢
 clear hr
 go_enter Tryz.func75,Tryz.ntmps75
 go_wp2_with (go_at_call 96;go_must (go_fit B;rintro e w1 ⟨sv,rfl,hL,hr1,hb1⟩))
 go_ret
 exact ⟨[sv],rfl,⟨sv,rfl,hL⟩,hr1,hb1⟩
set_option maxHeartbeats 1000000 in
theorem Aba (a :Nat) (s :St) (d :Int) (w :World) (h :Rd w a s d) :
  Calls Tryz.prog 108 #[.pointer (some ⟨a,0,none⟩)] w fun e w'=>e= .returned (.int .i64 (F4 s).1) ∧Rd w' a (F4 s).2 d∧But a w w' :=by
 cases hc : (Ag Gl s).1
 ·have e :F4 s= (2,Ar F2 s) :=by simp only [F4,hc,Bool.false_eq_true,if_false,Cm hc]
  rw [e]
  have SK :=Ba a Gl s d w h (by decide) hc
  have WF :=fun w1 (h1 :Rd w1 a s d) =>H7 a F2 s d w1 h1 (by decide)
  clear hc e
  go_enter Tryz.func108,Tryz.ntmps108
  go_wp2_with (first
   | (go_at_call 47;go_must (go_fit SK;rintro e w1 ⟨rfl,hr1,hb1⟩;have W1 :=WF w1 hr1))
   | (go_at_call 23;go_must (go_fit W1;rintro e w2 ⟨rfl,hr2,hb2⟩)))
  go_ret
  exact ⟨rfl,hr2,hb1.trans hb2⟩
 ·have e :F4 s= (1,(Ag Gl s).2) :=by simp only [F4,hc,if_true]
  rw [e]
  have SK :=Du a Gl s d w h (by decide) hc
  clear hc e
  go_enter Tryz.func108,Tryz.ntmps108
  go_wp2_with (go_at_call 47;go_must (go_fit SK;rintro e w1 ⟨rfl,hr1,hb1⟩))
  go_ret
  exact ⟨rfl,hr1,hb1⟩
set_option maxHeartbeats 1000000 in
theorem Xx (d :Int) :Em 95 Iy Dv Fi d :=by
 intro a s w h _ _
 generalize hW :w.alloc (.cells #[.string noW, .int .i64 0, .bool false] 52) =W
 have HW :Hid _ :=hW
 have hb0 :Below w.heap.size w W :=by rw [←hW];exact (Below.refl _ _).alloc (Nat.le_refl _) _
 have b0 :W.heap[w.heap.size]? =some (.cells #[.string noW, .int .i64 0, .bool false] 52) :=by rw [←hW];exact Ad w _
 clear hW
 have hla :=h.lt
 have ne0 :w.heap.size≠a :=by omega
 have hc :Fi s= (⟨(At s).1,(F4 (At s).2).1,(Ag Ga (F4 (At s).2).2).1⟩,(Ag Ga (F4 (At s).2).2).2) :=rfl
 rw [hc]
 clear hc
 have N1 :=E9 a s d W (h.below hb0)
 generalize At s=q at N1⊢
 obtain ⟨n1,s1⟩ :=q
 simp only at N1⊢
 have TF :=fun w1 (h1 :Rd w1 a s1 d) =>Aba a s1 d w1 h1
 generalize F4 s1=q at TF⊢
 obtain ⟨t1,s2⟩ :=q
 simp only at TF⊢
 have SF :=fun w1 (h1 :Rd w1 a s2 d) =>Ix a Ga s2 d w1 h1 (by decide)
 generalize Ag Ga s2=q at SF⊢
 obtain ⟨m1,s3⟩ :=q
 simp only at SF⊢
 go_enter Tryz.func95,Tryz.ntmps95
 go_wp2_with fail
 rw [HW.out]
 go_wp2_with (first
  | (go_at_call 73;go_must (go_fit N1;rintro e w1 ⟨rfl,hr1,hb1⟩;have T1 :=TF w1 hr1;have b1 :=Ac hb1 b0 ne0))
  | (go_at_call 108;go_must (go_fit T1;rintro e w2 ⟨rfl,hr2,hb2⟩;have S1 :=SF w2 hr2;have b2 :=Ac hb2 b1 ne0))
  | (go_at_call 47;go_must (go_fit S1;rintro e w3 ⟨rfl,hr3,hb3⟩;have b3 :=Ac hb3 b2 ne0;have q0 :=Aa b3 (j :=0) rfl;have q1 :=Aa b3 (j :=1) rfl;have q2 :=Aa b3 (j :=2) rfl;have f0 :=Ab b3 0;have f1 :=Ab b3 1;have f2 :=Ab b3 2)))
 refine bodyPost_ret (v := .agg #[.string n1, .int .i64 t1, .bool m1]) (by simp [results,Tryz.results95,go_sem,q0,q1,q2]) rfl ⟨[.string n1, .int .i64 t1, .bool m1],rfl,rfl, ?_, ?_⟩
 ·exact ((hr3.other ne0 _ _).other ne0 _ _).other ne0 _ _
 ·exact (((((But.of_below hb0).trans hb1).trans hb2).trans hb3).new (Nat.le_refl _) _ _ |>.new (Nat.le_refl _) _ _).new (Nat.le_refl _) _ _
set_option maxHeartbeats 2000000 in
theorem Mc :De 76 Bx 0 :=by
 intro a s w h he ha
 generalize hW :w.alloc (.cells Ap 37) =W
 have HW :Hid _ :=hW
 have hb0 :Below w.heap.size w W :=by rw [←hW];exact (Below.refl _ _).alloc (Nat.le_refl _) _
 have b0 :W.heap[w.heap.size]? =some (.cells Ap 37) :=by rw [←hW];exact Ad w _
 have hWs :W.heap.size=w.heap.size+1 :=by rw [←hW,World.size_alloc]
 clear hW
 have hla :=h.lt
 have ne0 :w.heap.size≠a :=by omega
 cases hc : (Ag Db s).1
 ·have e :Bx s= (E.nil,s) :=by simp only [Bx,hc,Bool.false_eq_true,if_false,Cm hc]
  rw [e]
  have SK :=Ba a Db s 0 W (h.below hb0) (by decide) hc
  clear hc e
  go_enter Tryz.func76,Tryz.ntmps76
  go_wp2_with fail
  rw [HW.out]
  go_wp2_with (go_at_call 47;go_must (go_fit SK;rintro e w1 ⟨rfl,hr1,hb1⟩;have b1 :=Ac hb1 b0 ne0;obtain ⟨⟨q0,q1,q2,q3,q4,q5,q6,q7⟩,f0,f1,f2,f3,f4,f5,f6,f7⟩ :=Ca b1))
  refine bodyPost_ret (v := .agg #[.int .i64 0, .int .i64 0, .int .i64 0, .string noW, .string noW, .string noW, .int .i64 0, .slice none 0 0]) (by simp [results,Tryz.results76,go_sem,q0,q1,q2,q3,q4,q5,q6,q7]) rfl ⟨_,rfl, ?_, ?_, ?_⟩
  ·exact Dy _ _
  ·exact hr1.set8 ne0 _ _ _ _ _ _ _ _
  ·exact ((But.of_below hb0).trans hb1).set8 (Nat.le_refl _) _ _ _ _ _ _ _ _
 ·have e :Bx s=Br (Ag Db s).2 :=by simp only [Bx,hc,if_true]
  rw [e]
  have SK :=Du a Db s 0 W (h.below hb0) (by decide) hc
  clear hc e
  generalize (Ag Db s).2=s1 at SK⊢
  have EF :=fun w1 (h1 :Rd w1 a s1 0) (e1 :Env w1) =>Lq a s1 w1 h1 e1 ha
  generalize Br s1=q at EF⊢
  obtain ⟨E1,s2⟩ :=q
  simp only at EF⊢
  go_enter Tryz.func76,Tryz.ntmps76
  go_wp2_with fail
  rw [HW.out]
  go_wp2_with (first
   | (go_at_call 47;go_must (go_fit SK;rintro e w1 ⟨rfl,hr1,hb1⟩;have b1 :=Ac hb1 b0 ne0;have E1 :=EF w1 hr1 (he.but ((But.of_below hb0).trans hb1) ha)))
   | (go_at_call 80;go_must (go_fit E1;rintro e w2 ⟨v,rfl,hE,hr2,hb2⟩;have b2 :=Ac hb2 b1 ne0;obtain ⟨⟨q0,q1,q2,q3,q4,q5,q6,q7⟩,f0,f1,f2,f3,f4,f5,f6,f7⟩ :=Ca b2;obtain ⟨op,x,xs,nmv,n,ao,k,c,rfl⟩ :=hE.shape;obtain ⟨xk,xn,xs2⟩ :=x)))
  refine bodyPost_ret (v := .agg #[.int .i64 op, .int .i64 xk, .int .i64 xn, .string xs2, .string xs, .string nmv, .int .i64 n, .slice ao k c]) (by simp [results,Tryz.results76,go_sem,q0,q1,q2,q3,q4,q5,q6,q7]) rfl ⟨_,rfl, ?_, ?_, ?_⟩
  ·have h1 :=hb1.size
   exact IsE.mono (fun k _ hk=>by have :w1.heap.size≤k :=hk;show w.heap.size≤k;omega) _ _ (IsE.keep ((Keeps.refl _ _).set8 (show ¬w1.heap.size≤w.heap.size by omega) _ _ _ _ _ _ _ _) _ _ hE)
  ·exact hr2.set8 ne0 _ _ _ _ _ _ _ _
  ·exact (((But.of_below hb0).trans hb1).trans hb2).set8 (Nat.le_refl _) _ _ _ _ _ _ _ _
set_option maxHeartbeats 2000000 in
theorem Xy :Em 78 G5 Dv Fv 0 :=by
 intro a s w h he ha
 generalize hW :w.alloc (.cells #[.string noW, .int .i64 0, .int .i64 0, .int .i64 0, .string noW, .string noW, .string noW, .int .i64 0, .slice none 0 0] 55) =W
 have HW :Hid _ :=hW
 have hb0 :Below w.heap.size w W :=by rw [←hW];exact (Below.refl _ _).alloc (Nat.le_refl _) _
 have b0 :W.heap[w.heap.size]? =some (.cells #[.string noW, .int .i64 0, .int .i64 0, .int .i64 0, .string noW, .string noW, .string noW, .int .i64 0, .slice none 0 0] 55) :=by rw [←hW];exact Ad w _
 have hWs :W.heap.size=w.heap.size+1 :=by rw [←hW,World.size_alloc]
 clear hW
 have hla :=h.lt
 have ne0 :w.heap.size≠a :=by omega
 have hc :Fv s= (((At s).1,(Br (Ar kEq (At s).2)).1),(Br (Ar kEq (At s).2)).2) :=rfl
 rw [hc]
 clear hc
 have N1 :=E9 a s 0 W (h.below hb0)
 generalize At s=q at N1⊢
 obtain ⟨n1,s1⟩ :=q
 simp only at N1⊢
 have WF :=fun w1 (h1 :Rd w1 a s1 0) =>H7 a kEq s1 0 w1 h1 (by decide)
 generalize Ar kEq s1=s2 at WF⊢
 have EF :=fun w1 (h1 :Rd w1 a s2 0) (e1 :Env w1) =>Lq a s2 w1 h1 e1 ha
 generalize Br s2=q at EF⊢
 obtain ⟨E1,s3⟩ :=q
 simp only at EF⊢
 go_enter Tryz.func78,Tryz.ntmps78
 go_wp2_with fail
 rw [HW.out]
 go_wp2_with (first
  | (go_at_call 73;go_must (go_fit N1;rintro e w1 ⟨rfl,hr1,hb1⟩;have W1 :=WF w1 hr1;have b1 :=Ac hb1 b0 ne0))
  | (go_at_call 23;go_must (go_fit W1;rintro e w2 ⟨rfl,hr2,hb2⟩;have b2 :=Ac hb2 b1 ne0;have E1 :=EF w2 hr2 (he.but (((But.of_below hb0).trans hb1).trans hb2) ha)))
  | (go_at_call 80;go_must (go_fit E1;rintro e w3 ⟨v,rfl,hE,hr3,hb3⟩;have b3 :=Ac hb3 b2 ne0;obtain ⟨op,x,xs,nmv,n,ao,k,c,rfl⟩ :=hE.shape;obtain ⟨xk,xn,xs2⟩ :=x;have q0 :=Aa b3 (j :=0) rfl;have f0 :=Ab b3 0;have q1 :=Aa b3 (j :=1) rfl;have f1 :=Ab b3 1;have q2 :=Aa b3 (j :=2) rfl;have f2 :=Ab b3 2;have q3 :=Aa b3 (j :=3) rfl;have f3 :=Ab b3 3;have q4 :=Aa b3 (j :=4) rfl;have f4 :=Ab b3 4;have q5 :=Aa b3 (j :=5) rfl;have f5 :=Ab b3 5;have q6 :=Aa b3 (j :=6) rfl;have f6 :=Ab b3 6;have q7 :=Aa b3 (j :=7) rfl;have f7 :=Ab b3 7;have q8 :=Aa b3 (j :=8) rfl;have f8 :=Ab b3 8)))
 refine bodyPost_ret (v := .agg #[.string n1, .int .i64 op, .int .i64 xk, .int .i64 xn, .string xs2, .string xs, .string nmv, .int .i64 n, .slice ao k c]) (by simp [results,Tryz.results78,go_sem,q0,q1,q2,q3,q4,q5,q6,q7,q8]) rfl ⟨[.string n1, .int .i64 op, .int .i64 xk, .int .i64 xn, .string xs2, .string xs, .string nmv, .int .i64 n, .slice ao k c],rfl,⟨_,rfl,rfl, ?_⟩, ?_, ?_⟩
 ·have h1 :=hb1.size
  have h2 :=hb2.size
  exact IsE.mono (fun k _ hk=>by have :w2.heap.size≤k :=hk;show w.heap.size≤k;omega) _ _ (IsE.keep (((((((((((Keeps.refl _ _).set (show ¬w2.heap.size≤w.heap.size by omega) _ _)).set (show ¬w2.heap.size≤w.heap.size by omega) _ _).set (show ¬w2.heap.size≤w.heap.size by omega) _ _).set (show ¬w2.heap.size≤w.heap.size by omega) _ _).set (show ¬w2.heap.size≤w.heap.size by omega) _ _).set (show ¬w2.heap.size≤w.heap.size by omega) _ _).set (show ¬w2.heap.size≤w.heap.size by omega) _ _).set (show ¬w2.heap.size≤w.heap.size by omega) _ _).set (show ¬w2.heap.size≤w.heap.size by omega) _ _) _ _ hE)
 ·exact ((((((((hr3.other ne0 _ _).other ne0 _ _).other ne0 _ _).other ne0 _ _).other ne0 _ _).other ne0 _ _).other ne0 _ _).other ne0 _ _).other ne0 _ _
 ·exact ((((((((((((But.of_below hb0).trans hb1).trans hb2).trans hb3).new (Nat.le_refl _) _ _).new (Nat.le_refl _) _ _).new (Nat.le_refl _) _ _).new (Nat.le_refl _) _ _).new (Nat.le_refl _) _ _).new (Nat.le_refl _) _ _).new (Nat.le_refl _) _ _).new (Nat.le_refl _) _ _).new (Nat.le_refl _) _ _
end Go.Proofs.YtifjaegfpdjikaaGreatDoor

namespace Go.Proofs.YtifjaegfpdjikaaGreatDoor
open Go.RowKit
theorem But.row {a :Nat} {w w' :World} (h :But a w w') {b :Nat} (hb :w.heap.size≤b) (cells :Array Value) :But a w (w'.setRow b cells) :=
 ⟨h.os,h.tape,h.output,by simp [World.setRow];exact h.size,fun k hk hn=>by
  have :=h.block k hk hn
  simp only [World.setRow,Array.getElem?_modify]
  rw [if_neg (by omega)];exact this⟩
theorem Rd.row {w :World} {a :Nat} {s :St} {d :Int} (h :Rd w a s d) {b :Nat} (hb :b≠a) (cells :Array Value) :Rd (w.setRow b cells) a s d :=by
 obtain ⟨x,r,v,h1,h2⟩ :=h
 exact ⟨x,r,v,Bu h1 (fun e=>hb e.symm) cells,h2⟩
set_option maxHeartbeats 2000000 in
set_option maxRecDepth 100000 in
theorem D0 (k :Int) (w :World) :Calls Tryz.prog 72 #[.int .i64 k] w fun e w'=>e= .returned (.agg (Ai k)) ∧Below w.heap.size w w' :=by
 have b0 :=Ad w (.cells Ah 39)
 have h1 : (Ai k).all (·.oneCell') =true :=Cy (Al _ _ _) (Al _ _ _) (Al _ _ _) (Al _ _ _) (Al _ _ _) (Al _ _ _) (Al _ _ _)
 go_enter Tryz.func72,Tryz.ntmps72
 go_wp2_with (refine wpList_store_row rfl 39 _ _ rfl w.heap.size (Ai k) rfl rfl 39 Ah b0 Af rfl h1 ?_)
 exact bodyPost_ret (v := .agg (Ai k)) (results_cell_row Tryz.results72 _ _ w.heap.size 39 _ _ _ rfl (Am b0) Tryz.underlying39 rfl Af) rfl ⟨rfl,Below.row ((Below.refl _ _).alloc (Nat.le_refl _) _) (Nat.le_refl _) _⟩
end Go.Proofs.YtifjaegfpdjikaaGreatDoor

