/-
  5 texts of this proof in one, in build order: Plain, XPlain, NPlain, SGram, SRead.
-/
import Derived.WalkKit
import Derived.Lib.Bytealg
import Derived.Lib.IndexLaws
set_option linter.unusedSimpArgs false
set_option linter.unusedVariables false
namespace Go.Proofs.YtifjaegfpdjikaaGreatDoor
open Go.RowKit
structure V where
 k :Int
 n :Int
 s :ByteArray
def V.val (v :V) :Value := .agg #[.int .i64 v.k, .int .i64 v.n, .string v.s]
def V.cells (v :V) :List Value := [.int .i64 v.k, .int .i64 v.n, .string v.s]
def J1 (c :Int) :Bool :=decide (32≤c) &&decide (c≤126) && (c !=39)
def F1 (l :List UInt8) :Bool :=l.all fun c=>J1 (c.toNat :Int)
def Dk (v :V) :Bool :=
 if v.k=0 then decide (v.n=0) &&decide (v.s.size=0)
 else if v.k=1 then decide (-1000000≤v.n) &&decide (v.n≤1000000) &&decide (v.s.size=0)
 else if v.k=2 then decide (v.n=0) &&decide (v.s.size≤8) &&F1 v.s.data.toList
 else false
theorem Hb {k :IntKind} {a b :Int} (h :a=b) :Ending.returned (.int k a) = .returned (.int k b) :=by rw [h]
theorem Ci {a b :Bool} (h :a=b) :Ending.returned (.bool a) = .returned (.bool b) :=by rw [h]
theorem Nk (s :ByteArray) (k :Nat) (h :k<s.size) :s.data.toList.take (k+1) =s.data.toList.take k++ [s[k]] :=by
 rw [List.take_succ_eq_append_getElem (by simpa using h)];rfl
theorem Tl (s :ByteArray) (k :Nat) (h :s.size≤k) :s.data.toList.take k=s.data.toList :=
 List.take_of_length_le (by simpa using h)
theorem P7 (l :List UInt8) (c :UInt8) :F1 (l++ [c]) = (F1 l&&J1 (c.toNat :Int)) :=by
 simp [F1]
theorem Yv (s :ByteArray) (k :Nat) (h :k<s.size) (hb :J1 (s[k].toNat :Int) =false) :F1 s.data.toList=false :=by
 unfold F1
 rw [List.all_eq_false]
 refine ⟨s[k], ?_,by simp [hb]⟩
 have :s[k] =s.data.toList[k]'(by simpa using h) :=rfl
 rw [this];exact List.getElem_mem _
def be4 (m :Nat) :List UInt8 := [UInt8.ofNat (m/16777216),UInt8.ofNat (m/65536),UInt8.ofNat (m/256),UInt8.ofNat m]
def Kx (v :V) :List UInt8 :=
 if v.k=0 then [1] else if v.k=1 then 2 ::be4 (v.n+1073741824).toNat else 3 :: (v.s.data.toList++ [0])
def Kf (l :List UInt8) :List Value :=l.map fun b=>Value.int .u8 (b.toNat :Int)
theorem Acr (a b :List UInt8) :Kf (a++b) =Kf a++Kf b :=by simp [Kf]
theorem Acs (a :List UInt8) : (Kf a).length=a.length :=by simp [Kf]
theorem Aeb (m :Int) (h0 :0≤m) (h1 :m<4294967296) :
  Kf (be4 m.toNat) = [.int .u8 (m/16777216), .int .u8 (m/65536 %256), .int .u8 (m/256 %256), .int .u8 (m %256)] :=by
 simp only [Kf,be4,List.map_cons,List.map_nil,UInt8.toNat_ofNat',List.cons.injEq,Value.int.injEq,true_and,and_true]
 omega
theorem Adc (m :Nat) : (be4 m).length=4 :=rfl
theorem Ss {v :V} (h :v.k=0) :Kx v= [1] :=by simp [Kx,h]
theorem Tm {v :V} (h :v.k=1) :Kx v=2 ::be4 (v.n+1073741824).toNat :=by simp [Kx,h]
theorem Wy {v :V} (h :v.k=2) :Kx v=3 :: (v.s.data.toList++ [0]) :=by simp [Kx,h]
theorem Bi (s :ByteArray) :s.data.toList.length=s.size :=by simp
def str (l :List UInt8) :ByteArray := ⟨l.toArray⟩
theorem Fx (l :List UInt8) : (str l).data.toList=l :=by simp [str]
theorem It (l :List UInt8) : (str l).size=l.length :=by simp [str,ByteArray.size]
theorem Mr (s :ByteArray) :str s.data.toList=s :=by cases s;simp [str]
def Rj (L :List V) :List UInt8 :=L.flatMap Kx
theorem Adk (L :List V) (v :V) :Rj (L++ [v]) =Rj L++Kx v :=by simp [Rj]
theorem Aal (v :V) (h :Dk v=true) : (Kx v).length≤10 :=by
 by_cases h0 :v.k=0
 ·rw [Ss h0];simp
 by_cases h1 :v.k=1
 ·rw [Tm h1];simp [be4]
 by_cases h2 :v.k=2
 ·rw [Wy h2,List.length_cons,List.length_append,Bi]
  simp [Dk,h2] at h
  simp;omega
 ·simp [Dk,h0,h1,h2] at h
theorem Adz (L :List V) (h : ∀v∈L,Dk v=true) : (Rj L).length≤10*L.length :=by
 induction L with
 | nil=>simp [Rj]
 | cons v L ih=>
  have a :=Aal v (h v (by simp))
  have b :=ih fun x hx=>h x (by simp [hx])
  simp [Rj] at b⊢
  omega
def Yw (w :World) (b off :Nat) (L :List V) :Prop :=
 ∀i v,L[i]? =some v→w.cell? ⟨b,off+i*3,none⟩ =some (.int .i64 v.k) ∧w.cell? ⟨b,off+i*3+1,none⟩ =some (.int .i64 v.n) ∧w.cell? ⟨b,off+i*3+2,none⟩ =some (.string v.s)
theorem Yw.below {w w' :World} {b off B :Nat} {L :List V} (h :Yw w b off L) (hb :Below B w w') (hlt :b<B) :Yw w' b off L :=by
 intro i v hi
 obtain ⟨h1,h2,h3⟩ :=h i v hi
 exact ⟨(hb.cell hlt).trans h1,(hb.cell hlt).trans h2,(hb.cell hlt).trans h3⟩
def zero :V := ⟨0,0,⟨#[]⟩⟩
def n4 (l :List UInt8) :Int := ((l.getD 1 0).toNat :Int) *16777216+ ((l.getD 2 0).toNat :Int) *65536+ ((l.getD 3 0).toNat :Int) *256+ ((l.getD 4 0).toNat :Int)
def fv (l :List UInt8) :V×Nat :=
 if l.getD 0 0=1 then (zero,1)
 else if l.getD 0 0=2 then (if l.length<5 then (zero,0) else (⟨1,n4 l - 1073741824,⟨#[]⟩⟩,5))
 else if l.getD 0 0=3 then (if Lib.indexByte l 0<0 then (zero,0) else (⟨2,0,str ((l.drop 1).take ((Lib.indexByte l 0).toNat - 1))⟩,(Lib.indexByte l 0).toNat+1))
 else (zero,0)
theorem Adl (s :ByteArray) (i :Nat) (h :i<s.size) :s.data.toList.getD i 0=s[i] :=by
 have h' :i<s.data.toList.length :=by simpa using h
 rw [List.getD_eq_getElem?_getD,List.getElem?_eq_getElem h']
 rfl
def dec :Nat→List UInt8→Option (List V)
 | 0,l=>if l= [] then some [] else none
 | f+1,l=>if l= [] then some [] else if (fv l).2=0∨Dk (fv l).1=false then none else (dec f (l.drop (fv l).2)).map ((fv l).1 :: ·)
def Rk (l :List UInt8) :Option (List V) :=dec l.length l
theorem Wj (f :Nat) :dec f [] =some [] :=by cases f<;>simp [dec]
theorem Aam : ∀ (f :Nat) (l :List UInt8),l.length≤f→dec f l=dec l.length l :=by
 intro f
 induction f using Nat.strongRecOn with
 | ind f ih=>
  intro l hl
  match l,f with
  | [],f=>rw [Wj,Wj]
  | c ::l,0=>simp at hl
  | c ::l,f+1=>
   simp only [List.length_cons] at hl⊢
   simp only [dec]
   by_cases h : (fv (c ::l)).2=0∨Dk (fv (c ::l)).1=false
   ·simp [h]
   ·simp only [h,if_false]
    have hz :0< (fv (c ::l)).2 :=by omega
    have hd : ((c ::l).drop (fv (c ::l)).2).length≤l.length :=by rw [List.length_drop,List.length_cons];omega
    rw [ih f (by omega) _ (by omega)]
    by_cases hf :l.length=f
    ·rw [hf,ih f (by omega) _ (by omega)]
    ·rw [ih l.length (by omega) _ hd]
theorem Adq :Rk [] =some [] :=rfl
theorem Adr {l :List UInt8} (hl :l≠ []) (h : (fv l).2=0∨Dk (fv l).1=false) :Rk l=none :=by
 unfold Rk
 match l,hl with
 | c ::l,_=>simp only [List.length_cons,dec];rw [if_neg (by simp),if_pos h]
theorem Adm {l :List UInt8} (hl :l≠ []) (h : (fv l).2≠0) (hg :Dk (fv l).1=true) :Rk l= (Rk (l.drop (fv l).2)).map ((fv l).1 :: ·) :=by
 unfold Rk
 match l,hl with
 | c ::l,_=>
  simp only [List.length_cons,dec]
  rw [if_neg (by simp),if_neg (by simp [h,hg]),Aam l.length _ (by rw [List.length_drop,List.length_cons];omega)]
theorem Ad8 (l :List UInt8) (hl :l≠ []) : (fv l).2≤l.length :=by
 have h1 :1≤l.length :=by cases l<;>simp_all
 unfold fv
 split
 ·exact h1
 ·split
  ·split
   ·simp
   ·simp;omega
  ·split
   ·split
    ·simp
    ·rename_i hi
     obtain ⟨i,hi'⟩ : ∃i :Nat,Lib.indexByte l 0=i := ⟨(Lib.indexByte l 0).toNat,by omega⟩
     have := (List.getElem?_eq_some_iff.1 (Lib.indexByte_some hi').1).1
     rw [hi']
     simp;omega
   ·simp
theorem Ac7 (t :ByteArray) (z :Nat) : (t.extract z t.size).data.toList=t.data.toList.drop z :=by
 rw [Lib.extract_data,List.take_of_length_le]
 rw [List.length_drop,Bi]
 exact Nat.le_refl _
theorem Add (l :List UInt8) : (fv l).1.s.size≤l.length :=by
 unfold fv
 split
 ·exact Nat.zero_le _
 ·split
  ·split<;>exact Nat.zero_le _
  ·split
   ·split
    ·exact Nat.zero_le _
    ·simp only [It]
     have h1 :=List.length_take_le ((Lib.indexByte l 0).toNat - 1) (l.drop 1)
     have h2 : ((l.drop 1).take ((Lib.indexByte l 0).toNat - 1)).length≤ (l.drop 1).length :=by simp;omega
     simp only [List.length_drop] at h2
     omega
   ·exact Nat.zero_le _
theorem Ade (a b :List UInt8) :str a++str b=str (a++b) :=by
 apply ByteArray.ext
 rw [ByteArray.data_append]
 simp [str]
end Go.Proofs.YtifjaegfpdjikaaGreatDoor

namespace Go.Proofs.YtifjaegfpdjikaaGreatDoor
abbrev Wd :=ByteArray
inductive E where
 | mk (op :Int) (v :V) (s name :Wd) (n :Int) (l :List E) :E
abbrev noW :Wd := ⟨#[]⟩
def E.nil :E := .mk 0 zero noW noW 0 []
def D5 (v :V) :E := .mk 1 v noW noW 0 []
def Ld (s name :Wd) :E := .mk 2 zero s name 0 []
def Cd (op :Int) (l :List E) :E := .mk op zero noW noW 0 l
end Go.Proofs.YtifjaegfpdjikaaGreatDoor

namespace Go.Proofs.YtifjaegfpdjikaaGreatDoor
abbrev Dd :Wd := ⟨#[97,110,100]⟩
abbrev kBy :Wd := ⟨#[98,121]⟩
abbrev Au :Wd := ⟨#[99,114,101,97,116,101]⟩
abbrev Cb :Wd := ⟨#[100,101,108,101,116,101]⟩
abbrev Co :Wd := ⟨#[100,101,115,99]⟩
abbrev Cg :Wd := ⟨#[100,114,111,112]⟩
abbrev Az :Wd := ⟨#[102,114,111,109]⟩
abbrev B7 :Wd := ⟨#[105,110,100,101,120]⟩
abbrev Bv :Wd := ⟨#[105,110,115,101,114,116]⟩
abbrev Gl :Wd := ⟨#[105,110,116]⟩
abbrev E6 :Wd := ⟨#[105,110,116,111]⟩
abbrev kIs :Wd := ⟨#[105,115]⟩
abbrev Cr :Wd := ⟨#[108,105,109,105,116]⟩
abbrev Ga :Wd := ⟨#[109,117,115,116]⟩
abbrev Ec :Wd := ⟨#[110,111,116]⟩
abbrev Be :Wd := ⟨#[110,117,108,108]⟩
abbrev kOn :Wd := ⟨#[111,110]⟩
abbrev kOr :Wd := ⟨#[111,114]⟩
abbrev Bl :Wd := ⟨#[111,114,100,101,114]⟩
abbrev Ck :Wd := ⟨#[115,101,108,101,99,116]⟩
abbrev F6 :Wd := ⟨#[115,101,116]⟩
abbrev A5 :Wd := ⟨#[116,97,98,108,101]⟩
abbrev F2 :Wd := ⟨#[116,101,120,116]⟩
abbrev Cc :Wd := ⟨#[117,112,100,97,116,101]⟩
abbrev Ct :Wd := ⟨#[118,97,108,117,101,115]⟩
abbrev Db :Wd := ⟨#[119,104,101,114,101]⟩
abbrev As :Wd := ⟨#[40]⟩
abbrev Aq :Wd := ⟨#[41]⟩
abbrev A9 :Wd := ⟨#[42]⟩
abbrev Ef :Wd := ⟨#[43]⟩
abbrev Av :Wd := ⟨#[44]⟩
abbrev Bd :Wd := ⟨#[45]⟩
abbrev D1 :Wd := ⟨#[46]⟩
abbrev Cj :Wd := ⟨#[59]⟩
abbrev kLt :Wd := ⟨#[60]⟩
abbrev kEq :Wd := ⟨#[61]⟩
def A6 (c :UInt8) :Bool :=decide (97≤c.toNat) &&decide (c.toNat≤122)
def A3 (c :UInt8) :Bool :=decide (48≤c.toNat) &&decide (c.toNat≤57)
def Fs (w :Wd) :Bool :=
 decide (w=Dd) || decide (w=kBy) || decide (w=Au) || decide (w=Cb) || decide (w=Co) || decide (w=Cg) || decide (w=Az) || decide (w=B7) || decide (w=Bv) || decide (w=Gl) || decide (w=E6) || decide (w=kIs) || decide (w=Cr) || decide (w=Ga) || decide (w=Ec) || decide (w=Be) || decide (w=kOn) || decide (w=kOr) || decide (w=Bl) || decide (w=Ck) || decide (w=F6) || decide (w=A5) || decide (w=F2) || decide (w=Cc) || decide (w=Ct) || decide (w=Db)
def nm (w :Wd) :Bool :=decide (1≤w.size) &&decide (w.size≤8) &&w.data.toList.all A6&& !Fs w
def Ep (f :UInt8→Bool) (l :List UInt8) :Nat := (l.takeWhile f).length
theorem Iu {f :UInt8→Bool} : ∀ {l :List UInt8} {k :Nat},(l.take k).all f=true→ (∀c,l[k]? =some c→f c=false) →k≤l.length→Ep f l=k
 | [],k,_,_,h=>by simp at h;subst h;rfl
 | c ::l,0,_,h,_=>by have :=h c rfl;simp [Ep,this]
 | c ::l,k+1,h1,h2,h3=>by
  simp at h1
  have :=Iu (f :=f) (l :=l) (k :=k) (by simpa using h1.2) (fun x hx=>h2 x (by simpa using hx)) (by simpa using h3)
  simp only [Ep,List.takeWhile_cons,h1.1,if_true,List.length_cons] at this⊢
  omega
theorem Rl (f :UInt8→Bool) (l :List UInt8) :Ep f l≤l.length := (List.takeWhile_prefix f).length_le
theorem Nl (f :UInt8→Bool) (l :List UInt8) : (l.take (Ep f l)).all f=true :=by
 induction l with
 | nil=>rfl
 | cons c l ih=>
  unfold Ep at ih⊢
  cases h :f c
  ·simp [h]
  ·simp only [List.takeWhile_cons,h,if_true,List.length_cons,List.take_succ_cons,List.all_cons,Bool.true_and];exact ih
theorem Ads {f :UInt8→Bool} {c :UInt8} {l :List UInt8} (h :f c=true) :Ep f (c ::l) =Ep f l+1 :=by simp [Ep,h]
end Go.Proofs.YtifjaegfpdjikaaGreatDoor

namespace Go.Proofs.YtifjaegfpdjikaaGreatDoor
def fst (f :UInt8→Bool) (w :Wd) :Bool :=match w.data.toList with | [] =>false | c ::_=>f c
def Cl (l :List UInt8) :Nat :=l.foldl (fun n c=>10*n+ (c.toNat - 48)) 0
def Cs (w :Wd) :Option Int :=
 if decide (1≤w.size) &&w.data.toList.all A3&& (decide (w.size=1) || !fst (fun c=>c==48) w) &&decide (Cl w.data.toList≤1000000) then some (Cl w.data.toList :Int) else none
def Hq (w :Wd) :V := ⟨2,0,⟨((w.data.toList.drop 1).take (w.size - 2)).toArray⟩⟩
def Bp (c :UInt8) :Bool :=c==39
theorem Ce {w k :Wd} (h :nm w=true) (hk :nm k=false) :w≠k :=by
 rintro rfl;rw [h] at hk;cases hk
theorem Ej {w k :Wd} {n :Int} (h :Cs w=some n) (hk :Cs k=none) :w≠k :=by
 rintro rfl;rw [h] at hk;cases hk
theorem Gm {f :UInt8→Bool} {w k :Wd} (h :fst f w=true) (hk :fst f k=false) :w≠k :=by
 rintro rfl;rw [h] at hk;cases hk
theorem Kg {w :Wd} {n :Int} (h :Cs w=some n) :fst A3 w=true :=by
 unfold Cs at h
 split at h
 ·rename_i c
  simp only [Bool.and_eq_true,decide_eq_true_eq] at c
  obtain ⟨⟨⟨c1,c2⟩,_⟩,_⟩ :=c
  unfold fst
  match hw :w.data.toList with
  | [] =>simp [ByteArray.size,←Array.length_toList,hw] at c1
  | c ::l=>rw [hw] at c2;simp at c2;exact c2.1
 ·cases h
theorem Hr {w :Wd} (h :nm w=true) :fst A6 w=true :=by
 simp only [nm,Bool.and_eq_true,decide_eq_true_eq] at h
 obtain ⟨⟨⟨c1,_⟩,c2⟩,_⟩ :=h
 unfold fst
 match hw :w.data.toList with
 | [] =>simp [ByteArray.size,←Array.length_toList,hw] at c1
 | c ::l=>rw [hw] at c2;simp at c2;exact c2.1
theorem I3 {f g :UInt8→Bool} {w :Wd} (h :fst f w=true) (hg : ∀c,f c=true→g c=false) :fst g w=false :=by
 unfold fst at h⊢
 split at h
 ·cases h
 ·exact hg _ h
theorem Ia {f :UInt8→Bool} {w :Wd} (h :fst f w=true) :0<w.size :=by
 unfold fst at h
 split at h
 ·cases h
 ·rename_i c l hw
  have :w.data.toList.length=l.length+1 :=by rw [hw];rfl
  rw [show w.size=w.data.toList.length from (Array.length_toList).symm];omega
theorem Ja (c :UInt8) (h :A6 c=true) :A3 c=false :=by
 simp only [A6,A3,Bool.and_eq_true,Bool.and_eq_false_iff,decide_eq_true_eq,decide_eq_false_iff_not] at h⊢;omega
theorem L6 (c :UInt8) (h :Bp c=true) :A3 c=false :=by
 simp only [Bp,beq_iff_eq] at h;subst h;decide
theorem Jb (c :UInt8) (h :A6 c=true) :Bp c=false :=by
 cases hq :Bp c
 ·rfl
 ·simp only [Bp,beq_iff_eq] at hq;subst hq;revert h;decide
theorem Va (c :UInt8) (h :A3 c=true) :Bp c=false :=by
 cases hq :Bp c
 ·rfl
 ·rw [L6 c hq] at h;cases h
abbrev St :=Option (List Wd)
def adv (l :List Wd) :St :=match l with | [] =>some [] | w ::l=>if w.size=0 then none else some (w ::l)
def Ag (k :Wd) (s :St) :Bool×St :=match s with | some (w ::l) =>if w=k then (true,adv l) else (false,some (w ::l)) | s=> (false,s)
def Ar (k :Wd) (s :St) :St :=if (Ag k s).1 then (Ag k s).2 else none
def Mg (ks :List Wd) (s :St) :St :=ks.foldl (fun s k=>Ar k s) s
def At (s :St) :Wd×St :=match s with | some (w ::l) =>if nm w then (w,adv l) else (noW,none) | _=> (noW,none)
def B6 (s :St) :Int×St :=match s with | some (w ::l) => (match Cs w with | some n=> (n,adv l) | none=> (0,none)) | _=> (0,none)
def D2 (f :UInt8→Bool) (s :St) :Bool :=match s with | some (w ::_) =>fst f w | _=>false
def Aw (s :St) :Nat :=match s with | some l=>l.length | none=>0
def Dm {α :Type} (one :St→α×St) :Nat→List α→St→List α×St
 | 0,acc,s=> (acc,s)
 | f+1,acc,s=>if (Ag Av s).1 then Dm one f (acc++ [(one (Ag Av s).2).1]) (one (Ag Av s).2).2 else (acc,(Ag Av s).2)
def A1 {α :Type} (one :St→α×St) (s :St) :List α×St :=Dm one (Aw (one s).2) [(one s).1] (one s).2
def Df {α :Type} (one :St→α×St) (s :St) :List α×St := ((A1 one (Ar As s)).1,Ar Aq (A1 one (Ar As s)).2)
def Ao (ops :List (Wd×Int)) (s :St) :Int×St :=match ops with | [] => (0,s) | o ::ops=>if (Ag o.1 s).1 then (o.2,(Ag o.1 s).2) else Ao ops s
def Bh (part :St→E×St) (ops :List (Wd×Int)) :Nat→E→St→E×St
 | 0,e,s=> (e,s)
 | f+1,e,s=>if (Ao ops s).1=0 then (e,(Ao ops s).2) else Bh part ops f (Cd (Ao ops s).1 [e,(part (Ao ops s).2).1]) (part (Ao ops s).2).2
def Dp (part :St→E×St) (ops :List (Wd×Int)) (s :St) :E×St :=Bh part ops (Aw (part s).2) (part s).1 (part s).2
def Hk (s :St) :V×St :=match s with | some (w ::l) =>if Dk (Hq w) then (Hq w,adv l) else (zero,none) | _=> (zero,none)
def Le (s :St) :E×St :=if (Ag D1 (At s).2).1 then (Ld (At s).1 (At (Ag D1 (At s).2).2).1,(At (Ag D1 (At s).2).2).2) else (Ld noW (At s).1,(Ag D1 (At s).2).2)
def Hl (_ :St) :E×St := (E.nil,none)
def En (sub :St→E×St) (s :St) :E×St :=
 if (Ag As s).1 then ((sub (Ag As s).2).1,Ar Aq (sub (Ag As s).2).2)
 else if (Ag Be s).1 then (D5 zero,(Ag Be s).2)
 else if (Ag Bd s).1 then (D5 ⟨1, -(B6 (Ag Bd s).2).1,noW⟩,(B6 (Ag Bd s).2).2)
 else if D2 A3 s then (D5 ⟨1,(B6 s).1,noW⟩,(B6 s).2)
 else if D2 Bp s then (D5 (Hk s).1,(Hk s).2)
 else Le s
abbrev Mh :List (Wd×Int) := [(Ef,3),(Bd,4)]
abbrev Dq :List (Wd×Int) := [(kEq,5),(kLt,6)]
abbrev Jc :List (Wd×Int) := [(Dd,7)]
abbrev Ms :List (Wd×Int) := [(kOr,8)]
def Et (sub :St→E×St) (s :St) :E×St :=Dp (En sub) Mh s
def Fa (sub subT :St→E×St) (s :St) :E×St :=
 if (Ag Ec s).1 then (Cd 9 [(subT (Ag Ec s).2).1],(subT (Ag Ec s).2).2)
 else if (Ag kIs (Et sub s).2).1 then (Cd 10 [(Et sub s).1],Ar Be (Ag kIs (Et sub s).2).2)
 else if (Ao Dq (Et sub s).2).1=0 then ((Et sub s).1,(Ao Dq (Et sub s).2).2)
 else (Cd (Ao Dq (Et sub s).2).1 [(Et sub s).1,(Et sub (Ao Dq (Et sub s).2).2).1],(Et sub (Ao Dq (Et sub s).2).2).2)
def Wz (sub subT :St→E×St) (s :St) :E×St :=Dp (Fa sub subT) Jc s
def Tn (sub subT :St→E×St) (s :St) :E×St :=Dp (Wz sub subT) Ms s
def Gn :Nat→ (St→E×St) × (St→E×St)
 | 0=> (Tn Hl Hl,Fa Hl Hl)
 | d+1=> (Tn (Gn d).1 (Gn d).2,Fa (Gn d).1 (Gn d).2)
def Gk :Nat→St→E×St | 0=>Hl | d+1=> (Gn d).1
def Hm :Nat→St→E×St | 0=>Hl | d+1=> (Gn d).2
theorem Yx (d :Nat) :Gn d= (Tn (Gk d) (Hm d),Fa (Gk d) (Hm d)) :=by cases d<;>rfl
def Br (s :St) :E×St := (Gn 5).1 s
abbrev Gr :=List Wd→E→Prop
inductive Atom (sub :Gr) :Gr
 | null :Atom sub [Be] (D5 zero)
 | num {w n} :Cs w=some n→Atom sub [w] (D5 ⟨1,n,noW⟩)
 | neg {w n} :Cs w=some n→Atom sub [Bd,w] (D5 ⟨1, -n,noW⟩)
 | text {w} :fst Bp w=true→Dk (Hq w) =true→Atom sub [w] (D5 (Hq w))
 | ref {w} :nm w=true→Atom sub [w] (Ld noW w)
 | dot {a b} :nm a=true→nm b=true→Atom sub [a,D1,b] (Ld a b)
 | br {l e} :sub l e→Atom sub (As :: (l++ [Aq])) e
inductive Chain (P :Gr) (ops :List (Wd×Int)) :Gr
 | one {l e} :P l e→Chain P ops l e
 | more {l a o k m b} :Chain P ops l a→ (o,k) ∈ops→P m b→Chain P ops (l++o ::m) (Cd k [a,b])
inductive Test (S subT :Gr) :Gr
 | neg {l e} :subT l e→Test S subT (Ec ::l) (Cd 9 [e])
 | sum {l e} :S l e→Test S subT l e
 | is {l e} :S l e→Test S subT (l++ [kIs,Be]) (Cd 10 [e])
 | cmp {l a o k m b} :S l a→ (o,k) ∈Dq→S m b→Test S subT (l++o ::m) (Cd k [a,b])
abbrev Lf (sub :Gr) :Gr :=Chain (Atom sub) Mh
abbrev Io (sub subT :Gr) :Gr :=Test (Lf sub) subT
abbrev Abv (sub subT :Gr) :Gr :=Chain (Io sub subT) Jc
abbrev P8 (sub subT :Gr) :Gr :=Chain (Abv sub subT) Ms
def Fn :Nat→Gr×Gr
 | 0=> (P8 (fun _ _=>False) (fun _ _=>False),Io (fun _ _=>False) (fun _ _=>False))
 | d+1=> (P8 (Fn d).1 (Fn d).2,Io (Fn d).1 (Fn d).2)
def Gb :Nat→Gr | 0=>fun _ _=>False | d+1=> (Fn d).1
def Gc :Nat→Gr | 0=>fun _ _=>False | d+1=> (Fn d).2
theorem K8 (d :Nat) :Fn d= (P8 (Gb d) (Gc d),Io (Gb d) (Gc d)) :=by cases d<;>rfl
abbrev F3 :Gr := (Fn 5).1
def Cf {α :Type} (p :St→α×St) (G :List Wd→α→Prop) :Prop := ∀s a r,p s= (a,some r) → ∃l,s=some (l++r) ∧G l a
def Gp (l :List Wd) :Prop :=adv l=some l
def Gd (F :List Wd) (r :List Wd) :Prop := ∀x,r.head? =some x→ ∀k∈F,x≠k
def Bw {α :Type} (p :St→α×St) (G :List Wd→α→Prop) (F :List Wd) :Prop := ∀l a r,G l a→Gp r→Gd F r→p (some (l++r)) = (a,some r) ∧Gp (l++r) ∧l≠ []
theorem B0 {w :Wd} {l :List Wd} (h :0<w.size) :adv (w ::l) =some (w ::l) :=if_neg (by omega)
theorem Abw {w :Wd} {l :List Wd} (h :w.size=0) :adv (w ::l) =none :=if_pos h
theorem Bs {w :Wd} {l :List Wd} (h :0<w.size) :Gp (w ::l) :=B0 h
theorem Adt :Gp [] :=rfl
theorem Nm {l r :List Wd} (h :adv l=some r) :l=r∧Gp r :=by
 cases l with
 | nil=>simp [adv] at h;subst h;exact ⟨rfl,rfl⟩
 | cons w l=>
  by_cases hw :w.size=0
  ·rw [Abw hw] at h;cases h
  ·rw [B0 (by omega)] at h;cases h;exact ⟨rfl,Bs (by omega)⟩
theorem Cn {k :Wd} {l :List Wd} :Ag k (some (k ::l)) = (true,adv l) :=by simp [Ag]
theorem Gq {k :Wd} {r :List Wd} (h : ∀x,r.head? =some x→x≠k) :Ag k (some r) = (false,some r) :=by
 cases r with
 | nil=>rfl
 | cons w l=>simp [Ag,h w rfl]
theorem Yy {k :Wd} :Ag k none= (false,none) :=rfl
theorem Dl {k :Wd} {s :St} {r :List Wd} (h : (Ag k s).1=true) (h2 : (Ag k s).2=some r) :s=some (k ::r) ∧Gp r :=by
 unfold Ag at h h2
 split at h
 ·rename_i w l
  split at h
  ·rename_i e;subst e
   simp at h2
   obtain ⟨rfl,hf⟩ :=Nm h2
   exact ⟨rfl,hf⟩
  ·cases h
 ·cases h
theorem Cm {k :Wd} {s :St} (h : (Ag k s).1=false) : (Ag k s).2=s :=by
 unfold Ag at h⊢
 split at h
 ·split at h
  ·cases h
  ·rename_i e;simp [e]
 ·rfl
theorem Ev {k :Wd} {l :List Wd} :Ar k (some (k ::l)) =adv l :=by simp [Ar,Cn]
theorem Dg {k :Wd} {s :St} {r :List Wd} (h :Ar k s=some r) :s=some (k ::r) ∧Gp r :=by
 unfold Ar at h
 split at h
 ·rename_i e;exact Dl e h
 ·cases h
theorem Eg {s :St} {a :Wd} {r :List Wd} (h :At s= (a,some r)) :s=some (a ::r) ∧nm a=true∧Gp r :=by
 unfold At at h
 split at h
 ·split at h
  ·rename_i hn
   simp at h
   obtain ⟨rfl,h⟩ :=h
   obtain ⟨rfl,hf⟩ :=Nm h
   exact ⟨rfl,hn,hf⟩
  ·simp at h
 ·simp at h
theorem Ed {a :Wd} {r :List Wd} (h :nm a=true) :At (some (a ::r)) = (a,adv r) :=by simp [At,h]
theorem L7 {s :St} {n :Int} {r :List Wd} (h :B6 s= (n,some r)) : ∃w,s=some (w ::r) ∧Cs w=some n∧Gp r :=by
 unfold B6 at h
 split at h
 ·rename_i w l
  split at h
  ·rename_i m hn
   simp at h
   obtain ⟨rfl,h⟩ :=h
   obtain ⟨rfl,hf⟩ :=Nm h
   exact ⟨w,rfl,hn,hf⟩
  ·simp at h
 ·simp at h
theorem Ky {w :Wd} {n :Int} {r :List Wd} (h :Cs w=some n) :B6 (some (w ::r)) = (n,adv r) :=by simp [B6,h]
theorem Adn (F :List Wd) :Gd F [] :=by intro x h;simp at h
theorem Ea {F :List Wd} {w :Wd} {l :List Wd} (h : ∀k∈F,w≠k) :Gd F (w ::l) :=by intro x hx;simp at hx;subst hx;exact h
theorem Gd.sub {F F' :List Wd} {r :List Wd} (h :Gd F r) (hs : ∀k∈F',k∈F) :Gd F' r :=fun x hx k hk=>h x hx k (hs k hk)
end Go.Proofs.YtifjaegfpdjikaaGreatDoor

namespace Go.Proofs.YtifjaegfpdjikaaGreatDoor
theorem Nn {ops :List (Wd×Int)} {s :St} {r :List Wd} : ∀ {k :Int},k≠0→Ao ops s= (k,some r) → ∃o,(o,k) ∈ops∧s=some (o ::r) ∧Gp r :=by
 induction ops with
 | nil=>intro k hk h;simp [Ao] at h;exact absurd h.1.symm hk
 | cons o ops ih=>
  intro k hk h
  unfold Ao at h
  split at h
  ·rename_i hs
   simp at h
   obtain ⟨rfl,hf⟩ :=Dl hs h.2
   exact ⟨o.1,by rw [←h.1];simp,rfl,hf⟩
  ·obtain ⟨o',h1,h2⟩ :=ih hk h
   exact ⟨o',by simp [h1],h2⟩
theorem Lg {ops :List (Wd×Int)} {s :St} (hz : ∀o∈ops,o.2≠0) (h : (Ao ops s).1=0) : (Ao ops s).2=s :=by
 induction ops with
 | nil=>rfl
 | cons o ops ih=>
  unfold Ao at h⊢
  split at h
  ·exact absurd h (hz o (by simp))
  ·rename_i hs
   rw [if_neg hs]
   exact ih (fun o ho=>hz o (by simp [ho])) h
theorem To (ops :List (Wd×Int)) :Ao ops none= (0,none) :=by
 induction ops with
 | nil=>rfl
 | cons o ops ih=>simp [Ao,Ag,ih]
theorem P9 {ops :List (Wd×Int)} {r :List Wd} (h :Gd (ops.map Prod.fst) r) :Ao ops (some r) = (0,some r) :=by
 induction ops with
 | nil=>rfl
 | cons o ops ih=>
  unfold Ao
  rw [Gq fun x hx=>h x hx o.1 (by simp)]
  exact ih (h.sub fun k hk=>by simp at hk⊢;exact Or.inr hk)
theorem O8 {ops :List (Wd×Int)} {o :Wd} {k :Int} {l :List Wd} (hu : (ops.map Prod.fst).Nodup) (h : (o,k) ∈ops) :Ao ops (some (o ::l)) = (k,adv l) :=by
 induction ops with
 | nil=>simp at h
 | cons p ops ih=>
  rw [List.map_cons,List.nodup_cons] at hu
  rcases List.mem_cons.1 h with e | h
  ·subst e;simp [Ao,Cn]
  ·have hne :o≠p.1 :=by
    rintro rfl
    exact hu.1 (List.mem_map.2 ⟨(p.1,k),h,rfl⟩)
   unfold Ao
   rw [Gq (k :=p.1) (r :=o ::l) (fun x hx=>by simp at hx;subst hx;exact hne)]
   exact ih hu.2 h
theorem Mi (part :St→E×St) (ops :List (Wd×Int)) (f :Nat) (e :E) :Bh part ops f e none= (e,none) :=by
 cases f with
 | zero=>rfl
 | succ f=>simp [Bh,To]
theorem Qa {part :St→E×St} {P :Gr} {ops :List (Wd×Int)} (hp :Cf part P) (hz : ∀o∈ops,o.2≠0) :
  ∀f e s a r,Bh part ops f e s= (a,some r) → ∀l0,Chain P ops l0 e→ ∃l,s=some (l++r) ∧Chain P ops (l0++l) a :=by
 intro f
 induction f with
 | zero=>intro e s a r h l0 hc;simp [Bh] at h;obtain ⟨rfl,rfl⟩ :=h;exact ⟨[],rfl,by simpa using hc⟩
 | succ f ih=>
  intro e s a r h l0 hc
  unfold Bh at h
  split at h
  ·rename_i h0
   rw [Lg hz h0] at h
   simp at h;obtain ⟨rfl,rfl⟩ :=h;exact ⟨[],rfl,by simpa using hc⟩
  ·rename_i h0
   obtain ⟨k,s1,hs⟩ : ∃k s1,Ao ops s= (k,s1) := ⟨_,_,rfl⟩
   rw [hs] at h h0
   simp only at h h0
   obtain ⟨b,s2,hb⟩ : ∃b s2,part s1= (b,s2) := ⟨_,_,rfl⟩
   rw [hb] at h
   simp only at h
   cases s2 with
   | none=>rw [Mi] at h;simp at h
   | some r2=>
    obtain ⟨m,rfl,hm⟩ :=hp _ _ _ hb
    obtain ⟨o,ho,rfl,_⟩ :=Nn h0 hs
    obtain ⟨l,hl,hcl⟩ :=ih _ _ _ _ h _ (Chain.more hc ho hm)
    simp at hl;subst hl
    exact ⟨o ::m++l,by simp,by simpa using hcl⟩
theorem J2 {part :St→E×St} {P :Gr} {ops :List (Wd×Int)} (hp :Cf part P) (hz : ∀o∈ops,o.2≠0) :Cf (Dp part ops) (Chain P ops) :=by
 intro s a r h
 unfold Dp at h
 obtain ⟨b,s2,hb⟩ : ∃b s2,part s= (b,s2) := ⟨_,_,rfl⟩
 rw [hb] at h
 simp only at h
 cases s2 with
 | none=>rw [Mi] at h;simp at h
 | some r2=>
  obtain ⟨m,rfl,hm⟩ :=hp _ _ _ hb
  obtain ⟨l,hl,hcl⟩ :=Qa hp hz _ _ _ _ _ h _ (Chain.one hm)
  simp at hl;subst hl
  exact ⟨m++l,by simp,hcl⟩
theorem Yz {part :St→E×St} {P :Gr} {ops :List (Wd×Int)} {F :List Wd} (hp :Bw part P F) (hu : (ops.map Prod.fst).Nodup) (hz : ∀o∈ops,o.2≠0) (ho : ∀o∈ops,0<o.1.size∧ ∀k∈F,o.1≠k) {l :List Wd} {e :E} (h :Chain P ops l e) :
  ∀r,Gp r→Gd F r→ (∃f,r.length≤f∧Dp part ops (some (l++r)) =Bh part ops f e (some r)) ∧Gp (l++r) ∧l≠ [] :=by
 induction h with
 | one h=>
  intro r hr hn
  obtain ⟨h1,h2,h3⟩ :=hp _ _ r h hr hn
  exact ⟨⟨r.length,Nat.le_refl _,by rw [Dp,h1];rfl⟩,h2,h3⟩
 | more hc hok hm ih=>
  intro r hr hn
  rename_i l a o k m b
  obtain ⟨h1,h2,h3⟩ :=hp _ _ r hm hr hn
  obtain ⟨hs,hF⟩ :=ho _ hok
  obtain ⟨⟨f,hf,h4⟩,h5,h6⟩ :=ih (o :: (m++r)) (Bs hs) (Ea hF)
  cases f with
  | zero=>simp at hf
  | succ f=>
   refine ⟨⟨f,by simp at hf;omega, ?_⟩,by simpa using h5,by simp⟩
   rw [show (l++o ::m) ++r=l++ (o :: (m++r)) from by simp,h4,Bh,O8 hu hok]
   simp only
   rw [if_neg (hz _ hok),show adv (m++r) =some (m++r) from h2,h1]
theorem Jp {part :St→E×St} {P :Gr} {ops :List (Wd×Int)} {F :List Wd} (hp :Bw part P F) (hu : (ops.map Prod.fst).Nodup) (hz : ∀o∈ops,o.2≠0) (ho : ∀o∈ops,0<o.1.size∧ ∀k∈F,o.1≠k) :Bw (Dp part ops) (Chain P ops) (F++ops.map Prod.fst) :=by
 intro l e r h hr hn
 obtain ⟨⟨f,hf,h1⟩,h2,h3⟩ :=Yz hp hu hz ho h r hr (hn.sub fun k hk=>by simp [hk])
 refine ⟨?_,h2,h3⟩
 rw [h1]
 cases f with
 | zero=>rfl
 | succ f=>simp [Bh,P9 (hn.sub (F' :=ops.map Prod.fst) fun k hk=>List.mem_append_right _ hk)]
abbrev Aan :List Wd := [D1] ++Mh.map Prod.fst
abbrev Om :List Wd :=Aan++ [kIs,kEq,kLt]
abbrev Adf :List Wd :=Om++Jc.map Prod.fst
abbrev J3 :List Wd :=Adf++Ms.map Prod.fst
theorem Qb {sub :St→E×St} {G :Gr} (hs :Cf sub G) :Cf (En sub) (Atom G) :=by
 intro s a r h
 unfold En at h
 split at h
 ·rename_i h0
  simp at h
  obtain ⟨h1,_⟩ :=Dg h.2
  obtain ⟨l,h3,h4⟩ :=hs _ _ _ (Prod.ext h.1 h1)
  obtain ⟨rfl,_⟩ :=Dl h0 h3
  exact ⟨As :: (l++ [Aq]),by simp, .br h4⟩
 ·split at h
  ·rename_i h0
   simp at h
   obtain ⟨rfl,h1⟩ :=h
   obtain ⟨rfl,_⟩ :=Dl h0 h1
   exact ⟨[Be],rfl, .null⟩
  ·split at h
   ·rename_i h0
    simp at h
    obtain ⟨w,h1,h2,_⟩ :=L7 (n := (B6 (Ag Bd s).2).1) (Prod.ext rfl h.2)
    obtain ⟨rfl,_⟩ :=Dl h0 h1
    exact ⟨[Bd,w],rfl,by rw [←h.1];exact .neg h2⟩
   ·split at h
    ·simp at h
     obtain ⟨w,rfl,h2,_⟩ :=L7 (n := (B6 s).1) (Prod.ext rfl h.2)
     exact ⟨[w],rfl,by rw [←h.1];exact .num h2⟩
    ·split at h
     ·rename_i h0
      simp only [Prod.mk.injEq] at h
      unfold Hk at h
      split at h
      ·rename_i w l _
       split at h
       ·rename_i hg
        simp at h
        obtain ⟨rfl,h⟩ :=h
        obtain ⟨rfl,_⟩ :=Nm h
        exact ⟨[_],rfl, .text h0 hg⟩
       ·simp at h
      ·simp at h
     ·unfold Le at h
      split at h
      ·rename_i h0
       simp at h
       obtain ⟨h1,h2,_⟩ :=Eg (a := (At (Ag D1 (At s).2).2).1) (Prod.ext rfl h.2)
       obtain ⟨h3,_⟩ :=Dl h0 h1
       obtain ⟨h4,h5,_⟩ :=Eg (a := (At s).1) (Prod.ext rfl h3)
       exact ⟨[(At s).1,D1,(At (Ag D1 (At s).2).2).1],h4,by rw [←h.1];exact .dot h5 h2⟩
      ·rename_i h0
       simp only [Prod.mk.injEq] at h
       rw [Cm (by simpa using h0)] at h
       obtain ⟨h4,h5,_⟩ :=Eg (a := (At s).1) (Prod.ext rfl h.2)
       exact ⟨[(At s).1],h4,by rw [←h.1];exact .ref h5⟩
theorem Dx {k w :Wd} {l :List Wd} (h :w≠k) :Ag k (some (w ::l)) = (false,some (w ::l)) :=by simp [Ag,h]
theorem Gd.ne {F r :List Wd} (h :Gd F r) {k :Wd} (hk :k∈F) : ∀x,r.head? =some x→x≠k :=fun x hx=>h x hx k hk
theorem Rm {w :Wd} {n :Int} (h :Cs w=some n) :0<w.size :=Ia (Kg h)
theorem Fy {w :Wd} (h :nm w=true) :0<w.size :=Ia (Hr h)
theorem Su {sub :St→E×St} {G :Gr} {F :List Wd} (hs :Bw sub G F) (hF : ∀k∈F,Aq≠k) :Bw (En sub) (Atom G) [D1] :=by
 intro l e r h hr hn
 have hd :=hn.ne (k :=D1) (by simp)
 cases h with
 | null=>exact ⟨by simp [En,Dx (k :=As) (w :=Be) (by decide),Cn,show adv r=some r from hr],Bs (by decide),by simp⟩
 | num hw=>
  rename_i w n
  have hb :D2 A3 (some (w ::r)) =true :=Kg hw
  exact ⟨by simp [En,Dx (k :=As) (Ej hw (by decide)),Dx (k :=Be) (Ej hw (by decide)),Dx (k :=Bd) (Ej hw (by decide)),hb,Ky hw,show adv r=some r from hr],Bs (Rm hw),by simp⟩
 | neg hw=>
  rename_i w n
  exact ⟨by simp [En,Dx (k :=As) (w :=Bd) (by decide),Dx (k :=Be) (w :=Bd) (by decide),Cn,B0 (Rm hw),Ky hw,show adv r=some r from hr],Bs (by decide),by simp⟩
 | text hw hg=>
  rename_i w
  have hb :D2 Bp (some (w ::r)) =true :=hw
  have hb' :D2 A3 (some (w ::r)) =false :=I3 hw L6
  exact ⟨by simp [En,Dx (k :=As) (Gm hw (by decide)),Dx (k :=Be) (Gm hw (by decide)),Dx (k :=Bd) (Gm hw (by decide)),hb,hb',Hk,hg,show adv r=some r from hr],Bs (Ia hw),by simp⟩
 | ref hw=>
  rename_i w
  have hb :D2 Bp (some (w ::r)) =false :=I3 (Hr hw) Jb
  have hb' :D2 A3 (some (w ::r)) =false :=I3 (Hr hw) Ja
  exact ⟨by simp [En,Dx (k :=As) (Ce hw (by decide)),Dx (k :=Be) (Ce hw (by decide)),Dx (k :=Bd) (Ce hw (by decide)),hb,hb',Le,Ed hw,show adv r=some r from hr,Gq hd],Bs (Fy hw),by simp⟩
 | dot hw hv=>
  rename_i w v
  have hb :D2 Bp (some (w ::D1 ::v ::r)) =false :=I3 (Hr hw) Jb
  have hb' :D2 A3 (some (w ::D1 ::v ::r)) =false :=I3 (Hr hw) Ja
  exact ⟨by simp [En,Dx (k :=As) (Ce hw (by decide)),Dx (k :=Be) (Ce hw (by decide)),Dx (k :=Bd) (Ce hw (by decide)),hb,hb',Le,Ed hw,Ed hv,show adv r=some r from hr,B0 (w :=D1) (l :=v ::r) (by decide),Cn,B0 (Fy hv)],Bs (Fy hw),by simp⟩
 | br hx=>
  rename_i l
  obtain ⟨h1,h2,_⟩ :=hs l e (Aq ::r) hx (Bs (by decide)) (Ea hF)
  refine ⟨?_,Bs (by decide),by simp⟩
  rw [show As :: (l++ [Aq]) ++r=As :: (l++Aq ::r) from by simp]
  simp [En,Cn,show adv (l++Aq ::r) =some (l++Aq ::r) from h2,h1,Ev,show adv r=some r from hr]
theorem Y0 {sub :St→E×St} {G :Gr} (hs :Cf sub G) :Cf (Et sub) (Lf G) :=J2 (Qb hs) (by simp)
theorem Tp {sub :St→E×St} {G :Gr} {F :List Wd} (hs :Bw sub G F) (hF : ∀k∈F,Aq≠k) :Bw (Et sub) (Lf G) Aan :=
 Jp (Su hs hF) (by decide) (by simp) (by decide)
theorem Qc {sub subT :St→E×St} {G T :Gr} (hs :Cf sub G) (ht :Cf subT T) :Cf (Fa sub subT) (Io G T) :=by
 intro s a r h
 have hsum :=Y0 hs
 unfold Fa at h
 split at h
 ·rename_i h0
  simp at h
  obtain ⟨l,h3,h4⟩ :=ht _ _ _ (Prod.ext rfl h.2)
  obtain ⟨rfl,_⟩ :=Dl h0 h3
  exact ⟨Ec ::l,by simp,by rw [←h.1];exact .neg h4⟩
 ·split at h
  ·rename_i h0
   simp at h
   obtain ⟨h1,_⟩ :=Dg h.2
   obtain ⟨h2,_⟩ :=Dl h0 h1
   obtain ⟨l,rfl,h4⟩ :=hsum _ _ _ (Prod.ext rfl h2)
   exact ⟨l++ [kIs,Be],by simp,by rw [←h.1];exact .is h4⟩
  ·split at h
   ·rename_i h0
    rw [Lg (by decide) h0] at h
    obtain ⟨l,rfl,h4⟩ :=hsum _ _ _ h
    exact ⟨l,rfl, .sum h4⟩
   ·rename_i h0
    simp at h
    obtain ⟨m,h3,h4⟩ :=hsum _ _ _ (Prod.ext rfl h.2)
    obtain ⟨o,h5,h6,_⟩ :=Nn h0 (Prod.ext rfl h3)
    obtain ⟨l,rfl,h7⟩ :=hsum _ _ _ (Prod.ext rfl h6)
    exact ⟨l++o ::m,by simp,by rw [←h.1];exact .cmp h7 h5 h4⟩
theorem W9 {G :Gr} {l :List Wd} {e :E} (h :Atom G l e) : ∃w m,l=w ::m∧w≠Ec :=by
 cases h with
 | null=>exact ⟨_,_,rfl,by decide⟩
 | num h=>exact ⟨_,_,rfl,Ej h (by decide)⟩
 | neg h=>exact ⟨_,_,rfl,by decide⟩
 | text h _=>exact ⟨_,_,rfl,Gm h (by decide)⟩
 | ref h=>exact ⟨_,_,rfl,Ce h (by decide)⟩
 | dot h _=>exact ⟨_,_,rfl,Ce h (by decide)⟩
 | br h=>exact ⟨_,_,rfl,by decide⟩
theorem No {G :Gr} {l :List Wd} {e :E} (h :Lf G l e) : ∃w m,l=w ::m∧w≠Ec :=by
 induction h with
 | one h=>exact W9 h
 | more _ _ _ ih=>obtain ⟨w,m,rfl,hw⟩ :=ih;exact ⟨w,_,rfl,hw⟩
theorem Sv {sub subT :St→E×St} {G T :Gr} {F :List Wd} (hs :Bw sub G F) (hF : ∀k∈F,Aq≠k) (ht :Bw subT T Om) :Bw (Fa sub subT) (Io G T) Om :=by
 intro l e r h hr hn
 have hsum :=Tp hs hF
 have nosum : ∀ {l e} (x :List Wd),Lf G l e→Ag Ec (some (l++x)) = (false,some (l++x)) :=by
  intro l e x h
  obtain ⟨w,m,rfl,hw⟩ :=No h
  exact Dx hw
 cases h with
 | neg h=>
  rename_i l e
  obtain ⟨h1,h2,_⟩ :=ht l e r h hr hn
  exact ⟨by simp [Fa,Cn,show adv (l++r) =some (l++r) from h2,h1],Bs (by decide),by simp⟩
 | sum h=>
  obtain ⟨h1,h2,h3⟩ :=hsum l e r h hr (hn.sub fun k hk=>List.mem_append_left _ hk)
  refine ⟨?_,h2,h3⟩
  have e1 :Ao Dq (some r) = (0,some r) :=P9 (hn.sub fun k hk=>by simp at hk;rcases hk with rfl | rfl<;>simp)
  simp only [Fa,nosum r h,h1,Gq (hn.ne (k :=kIs) (by simp)),e1]
  simp
 | is h=>
  rename_i l e
  obtain ⟨h1,h2,h3⟩ :=hsum l e (kIs ::Be ::r) h (Bs (by decide)) (Ea (by decide))
  have e0 : (l++ [kIs,Be]) ++r=l++kIs ::Be ::r :=by simp
  rw [e0]
  refine ⟨?_,h2,by simp⟩
  simp only [Fa,nosum _ h,h1,Cn,B0 (w :=Be) (l :=r) (by decide),Ev,show adv r=some r from hr]
  simp
 | cmp h ho hm=>
  rename_i l a o k m b
  obtain ⟨h4,h5,_⟩ :=hsum m b r hm hr (hn.sub fun k hk=>List.mem_append_left _ hk)
  have hop :0<o.size∧o≠kIs∧ (∀k∈Aan,o≠k) ∧k≠0 :=by
   rcases List.mem_cons.1 ho with e | ho
   ·cases e;decide
   ·cases List.mem_singleton.1 ho;decide
  obtain ⟨h1,h2,h3⟩ :=hsum l a (o :: (m++r)) h (Bs hop.1) (Ea hop.2.2.1)
  have e0 : (l++o ::m) ++r=l++o :: (m++r) :=by simp
  rw [e0]
  refine ⟨?_,h2,by simp⟩
  have e1 :Ao Dq (some (o :: (m++r))) = (k,some (m++r)) :=by rw [O8 (by decide) ho,show adv (m++r) =some (m++r) from h5]
  simp only [Fa,nosum _ h,h1,Dx (k :=kIs) hop.2.1,e1,h4,if_neg hop.2.2.2]
  simp
theorem I4 (d :Nat) :Cf (Gn d).1 (Fn d).1∧Cf (Gn d).2 (Fn d).2∧Bw (Gn d).1 (Fn d).1 J3∧Bw (Gn d).2 (Fn d).2 Om :=by
 have key : ∀d,(Cf (Gk d) (Gb d) ∧Cf (Hm d) (Gc d) ∧Bw (Gk d) (Gb d) J3∧Bw (Hm d) (Gc d) Om) →Cf (Gn d).1 (Fn d).1∧Cf (Gn d).2 (Fn d).2∧Bw (Gn d).1 (Fn d).1 J3∧Bw (Gn d).2 (Fn d).2 Om :=by
  intro d ⟨h1,h2,h3,h4⟩
  rw [Yx,K8]
  have t1 :=Qc h1 h2
  have t2 :=Sv h3 (by decide) h4
  refine ⟨J2 (J2 t1 (by decide)) (by decide),t1, ?_,t2⟩
  exact Jp (Jp t2 (by decide) (by decide) (by decide)) (by decide) (by decide) (by decide)
 induction d with
 | zero=>exact key 0 ⟨fun s a r h=>by simp [Gk,Hl] at h,fun s a r h=>by simp [Hm,Hl] at h,fun l a r h=>h.elim,fun l a r h=>h.elim⟩
 | succ d ih=>exact key (d+1) ih
end Go.Proofs.YtifjaegfpdjikaaGreatDoor

