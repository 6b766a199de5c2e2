/-
  5 texts of this proof in one, in build order: RAtom, RWords, RAtom3, RAtom2, RAtom4.
-/
import Derived.Deep.Cut
import Derived.Deep.RegionHeld3
import Derived.Test.YtifjaegfpdjikaaGreatDoorJ06
import Derived.Test.YtifjaegfpdjikaaGreatDoorJ10
import Derived.Test.YtifjaegfpdjikaaGreatDoorJ13
set_option linter.unusedSimpArgs false
set_option linter.unusedVariables false
namespace Go.Proofs.YtifjaegfpdjikaaGreatDoor
open Go.RowKit
set_option maxRecDepth 100000 in
set_option maxHeartbeats 4000000 in
theorem Yd (d :Int) (ao :Option Addr) (cap :Nat) (w :World) :
  Calls Tryz.prog 114 #[.slice ao 0 cap, .int .i64 d] w (Bj none w) :=by
 go_enter Tryz.func114,Tryz.ntmps114
 go_wp2_with fail
 exact bodyPost_ret (v := .tuple #[.agg (A2 0 zero noW noW 0 (.slice none 0 0)), .bool false]) (by simp [results,Tryz.results114,go_sem];exact ⟨rfl,rfl,rfl⟩) rfl ⟨_,_,_,rfl,Dy _ _,rfl,(Below.refl _ _).alloc (Nat.le_refl _) _⟩
set_option maxRecDepth 100000 in
set_option maxHeartbeats 4000000 in
theorem Vu (d :Int) (hd :d≠0) (sl :Value) (w :World) (hL :Ak w sl [Be]) :
  Calls Tryz.prog 114 #[sl, .int .i64 d] w (Bj (some (D5 zero)) w) :=by
 have hd0 : (d==0) =false :=by simpa using hd
 generalize hW :w.alloc (.cells Ap 37) =W
 have HW :Hid _ :=hW
 have hb0 :Below w.heap.size w W :=by rw [←hW];exact (Below.refl _ _).alloc (Nat.le_refl _) _
 have b0 :W.heap[w.heap.size]? =some (.cells Ap 37) :=by rw [←hW];exact Ad w _
 have HWs :Hid (W.heap.size=w.heap.size+1) :=by rw [Hid,←hW];exact World.size_alloc _ _
 clear hW
 obtain ⟨b,off,cap,rfl,hcap,hcell⟩ :=A0 (hL.below hb0) (by simp)
 have c0 :W.cell? ⟨b,off,none⟩ =some (.string Be) :=hcell 0 _ rfl
 obtain ⟨hblw,_,_,hcw⟩ :=A7 hL (by simp)
 have KS :Hid (∀V,Below w.heap.size w V→V.cell? ⟨b,off,none⟩ =some (.string Be)) :=fun V h=> (h.cell (p := ⟨b,off,none⟩) hblw).trans (hcw 0 _ rfl)
 clear hcw hblw
 clear hcell hcap
 simp only [List.length_cons,List.length_nil,Nat.zero_add] at*
 have LI :=M8 0 0 noW true W (by decide)
 rw [show (if (true&&Dk ⟨0,0,noW⟩) =true then some (D5 ⟨0,0,noW⟩) else none) =some (D5 zero) from rfl] at LI
 generalize some (D5 zero) =R at LI⊢
 go_enter Tryz.func114,Tryz.ntmps114
 go_upto_region 5 with fail
 rw [HW.out]
 go_wp2_with (go_at_call 122;go_must (go_fit LI;rintro e w2 ⟨v,ok,x1,rfl,hE,hR,hb2⟩;have HR :Hid _ :=hR;clear hR;have b2 := (hb2.block _ (lt_of_block b0)).trans b0;obtain ⟨op,xv,xs,nmv,xn,ao,kk,c,rfl⟩ :=hE.shape;obtain ⟨xk,xi,xs2⟩ :=xv;obtain ⟨⟨r0,r1,r2,r3,r4,r5,r6,r7⟩,f0,f1,f2,f3,f4,f5,f6,f7⟩ :=Ca b2))
 obtain ⟨hN,hBN⟩ :=Ih (w1 :=W) hb0 (by have :=HWs.out;have :=hb0.size;omega) hb2 hE
 exact bodyPost_ret (v := .tuple #[.agg #[.int .i64 op, .int .i64 xk, .int .i64 xi, .string xs2, .string xs, .string nmv, .int .i64 xn, .slice ao kk c], .bool ok]) (by simp [results,Tryz.results114,go_sem,r0,r1,r2,r3,r4,r5,r6,r7]) rfl ⟨_,_,_,rfl,hN,HR.out,hBN⟩
end Go.Proofs.YtifjaegfpdjikaaGreatDoor

namespace Go.Proofs.YtifjaegfpdjikaaGreatDoor
open Go.RowKit
set_option maxHeartbeats 400000 in
theorem Mf (c :Int) (w :World) :Calls Tryz.prog 24 #[.int .u8 c] w fun e w'=>e= .returned (.bool (I6 c)) ∧w'=w :=by
 by_cases h1 :97≤c<;>by_cases h2 :c≤122
 all_goals
  go_enter Tryz.func24,Tryz.ntmps24
  go_wp2
  all_goals
   go_ret
   exact ⟨Ci (by simp_all [I6]),rfl⟩
set_option maxHeartbeats 400000 in
theorem M9 (c :Int) (w :World) :Calls Tryz.prog 25 #[.int .u8 c] w fun e w'=>e= .returned (.bool (Km c)) ∧w'=w :=by
 by_cases h1 :48≤c<;>by_cases h2 :c≤57
 all_goals
  go_enter Tryz.func25,Tryz.ntmps25
  go_wp2
  all_goals
   go_ret
   exact ⟨Ci (by simp_all [Km]),rfl⟩
theorem Ft {s :Wd} {k :Nat} (h :k<s.size) :s.data.toList.drop k=s[k] ::s.data.toList.drop (k+1) :=by
 have h' :k<s.data.toList.length :=by rw [Bi];exact h
 rw [List.drop_eq_getElem_cons h'];rfl
theorem Zx (s :Wd) (k n :Nat) :str ((s.data.toList.drop k).take n) =s.extract k (k+n) :=by
 apply ByteArray.ext
 have h1 :=Lib.extract_data s k (k+n)
 rw [←Array.toList_inj,Fx,h1]
 simp [List.take_drop]
theorem Ou {s :Wd} {k n :Nat} {acc T :List Wd} (h :k<s.size) (hb :B9 s[k] =false) (hn :Bq (s.data.toList.drop k) =n) (h0 :0<n) (hT :T=acc++By (s.data.toList.drop k)) :T= (acc++ [s.extract k (k+n)]) ++By (s.data.toList.drop (k+n)) :=by
 rw [hT,Sa (by intro c r hc;rw [Ft h] at hc;cases hc;exact hb) (by rw [Ft h];simp),hn,if_neg (by omega),Zx,List.drop_drop,List.append_assoc]
 rfl
theorem Ut {s :Wd} {k :Nat} {acc T :List Wd} (h :k<s.size) (hb :B9 s[k] =false) (hn :Bq (s.data.toList.drop k) =0) (hT :T=acc++By (s.data.toList.drop k)) :T=acc++ [noW] :=by
 rw [hT,Sa (by intro c r hc;rw [Ft h] at hc;cases hc;exact hb) (by rw [Ft h];simp),hn,if_pos rfl]
theorem Zy {s :Wd} {k :Nat} {acc T :List Wd} (h :k<s.size) (hb :B9 s[k] =true) (hT :T=acc++By (s.data.toList.drop k)) :T=acc++By (s.data.toList.drop (k+1)) :=by
 rw [hT,Ft h,Xk hb]
theorem Uu {f :UInt8→Bool} {s :Wd} {k m :Nat} (hk :k≤m) (h :m<s.size) (h1 : ((s.data.toList.drop k).take (m - k)).all f=true) (h2 :f s[m] =true) : ((s.data.toList.drop k).take (m+1 - k)).all f=true :=by
 rw [show m+1 - k= (m - k) +1 from by omega,List.take_add_one,List.all_append,h1]
 have : (s.data.toList.drop k)[m - k]? =some s[m] :=by
  rw [List.getElem?_drop,show k+ (m - k) =m from by omega];exact G3 h
 rw [this];simp [h2]
theorem Uv {f :UInt8→Bool} {s :Wd} {k m :Nat} (hk :k≤m) (hm :m≤s.size) (h1 : ((s.data.toList.drop k).take (m - k)).all f=true) (h2 : ∀h :m<s.size,f s[m] =false) :Ep f (s.data.toList.drop k) =m - k :=by
 refine Iu h1 (fun c hc=> ?_) (by rw [List.length_drop,Bi];omega)
 rw [List.getElem?_drop,show k+ (m - k) =m from by omega] at hc
 by_cases h :m<s.size
 ·rw [G3 h] at hc;cases hc;exact h2 h
 ·rw [List.getElem?_eq_none (by rw [Bi];omega)] at hc;cases hc
theorem Ws {f :UInt8→Bool} {s :Wd} {k :Nat} (h :k<s.size) (h1 :f s[k] =true) : ((s.data.toList.drop k).take (k+1 - k)).all f=true :=by
 rw [show k+1 - k=1 from by omega,Ft h];simp [h1]
theorem Gx (c :UInt8) : ((c.toNat :Int) ==39) =Bp c :=by
 unfold Bp
 rw [Bool.eq_iff_iff,beq_iff_eq,beq_iff_eq,←UInt8.toNat_inj]
 simp;omega
theorem Abe {l :List UInt8} {c :UInt8} {n :Nat} (h1 :l[n]? =some c) (h2 : ∀i,i<n→l[i]? ≠some c) :Lib.indexByte l c= (n :Int) :=by
 have hge :=Lib.indexByte_ge l c
 rcases Int.lt_or_le (Lib.indexByte l c) 0 with h | h
 ·exact absurd h1 (Lib.indexByte_none (by omega) n)
 ·obtain ⟨o,ho⟩ : ∃o :Nat,Lib.indexByte l c=o := ⟨(Lib.indexByte l c).toNat,by omega⟩
  have :=Lib.indexByte_some ho
  rw [ho]
  congr 1
  rcases Nat.lt_trichotomy o n with h | h | h
  ·exact absurd this.1 (h2 o h)
  ·exact h
  ·exact absurd h1 (this.2 n h)
theorem Abf {l :List UInt8} {c :UInt8} (h2 : ∀i :Nat,l[i]? ≠some c) :Lib.indexByte l c<0 :=by
 rcases Int.lt_or_le (Lib.indexByte l c) 0 with h | h
 ·exact h
 ·obtain ⟨o,ho⟩ : ∃o :Nat,Lib.indexByte l c=o := ⟨(Lib.indexByte l c).toNat,by omega⟩
  exact absurd (Lib.indexByte_some ho).1 (h2 o)
set_option maxRecDepth 100000 in
set_option maxHeartbeats 4000000 in
theorem Zz (s :Wd) (w :World) (hs :s.size≤1500) :
  Calls Tryz.prog 12 #[.string s] w fun e w'=> ∃sv,e= .returned sv∧Ak w' sv (By s.data.toList) ∧Below w.heap.size w w' :=by
 obtain ⟨i0,hi,hz0,hz1,hz2⟩ :=info_parts Od
 have HT0 :Hid (By s.data.toList= [] ++By (s.data.toList.drop 0)) :=by simp [Hid]
 generalize By s.data.toList=T at HT0⊢
 go_enter Tryz.func12,Tryz.ntmps12
 go_wp2_with fail
 go_loopg [3,6] (s.size) (fun f z i wr=> ∃ (acc :List Wd) (k :Nat),f=s.size - k∧k≤s.size∧i= .int .i64 k∧acc.length≤k∧wr.ownsRow w.heap.size 9 1 z acc.length (acc.map .string) ∧Hid (T=acc++By (s.data.toList.drop k)) ∧Below w.heap.size w wr)
 case atStart=>exact ⟨[],0,rfl,Nat.zero_le _,rfl,Nat.le_refl _,⟨rfl, .inl ⟨rfl,rfl⟩⟩,HT0,Below.refl _ _⟩
 case round=>
  obtain ⟨acc,k,hf,hk,rfl,hacc,hown,HT,hB⟩ :=hrel
  by_cases hlt :k<s.size
  ·have q1 : (k :Int) < (s.size :Int) :=by omega
   cases hb :B9 s[k]
   ·have hb1 : ((s[k].toNat :Int) ==32) =false :=by
     have h2 :=hb
     simp [B9,←UInt8.toNat_inj] at h2
     simp;omega
    have hb2 : ((s[k].toNat :Int) ==10) =false :=by
     have h2 :=hb
     simp [B9,←UInt8.toNat_inj] at h2
     simp;omega
    have LC :=fun W=>Mf (s[k].toNat :Int) W
    have DC :=fun W=>M9 (s[k].toNat :Int) W
    simp only [If,Hy] at LC DC
    cases hl :A6 s[k]
    ·rw [hl] at LC
     cases hd :A3 s[k]
     ·rw [hd] at DC
      cases hq :Bp s[k]
      ·have hq39 : ((s[k].toNat :Int) ==39) =false :=by rw [Gx];exact hq
       have HW :Hid (Bq (s.data.toList.drop k) =if 0≤Lib.indexByte Mv s[k] then 1 else 0) :=by
        rw [Hid,Ft hlt,Bq,hl,hd,hq];simp
       have IX :=fun W=>Any.strings_IndexByte Tryz.lays137 ⟨#[40,41,44,59,46,61,60,43,45,42]⟩ (s[k].toNat :Int) W
       have ec : ((s[k].toNat :Int)).toNat.toUInt8=s[k] :=by simp
       simp only [ec] at IX
       have hge2 : -1≤Lib.indexByte Mv s[k] :=Lib.indexByte_ge _ _
       have eix :Lib.indexByte Mv s[k] =Lib.indexByte (⟨#[40,41,44,59,46,61,60,43,45,42]⟩ :ByteArray).data.toList s[k] :=rfl
       rw [eix] at HW hge2
       generalize Lib.indexByte (⟨#[40,41,44,59,46,61,60,43,45,42]⟩ :ByteArray).data.toList s[k] =ix at IX HW hge2
       clear eix ec
       by_cases h0 :0≤ix
       ·have q3 : ¬ix<0 :=by omega
        have HE :Hid (T= (acc++ [s.extract k (k+1)]) ++By (s.data.toList.drop (k+1))) :=by
         have e :=HW.out
         rw [if_pos h0] at e
         exact Ou hlt hb e (by omega) HT.out
        have hown1 :=hown.alloc (.cells [.string (s.extract k (k+1))].toArray 9)
        have hnew :=B2 wr [.string (s.extract k (k+1))] 9
        have hbase :w.heap.size≤ (wr.alloc (.cells [.string (s.extract k (k+1))].toArray 9)).heap.size :=Nat.le_trans hB.size (by simp)
        go_wp2_with (first
         | (go_at_call 24;go_must (go_fit (LC _);rintro e wr ⟨rfl,rfl⟩))
         | (go_at_call 25;go_must (go_fit (DC _);rintro e wr ⟨rfl,rfl⟩))
         | (go_at_call 26;go_must (go_fit (IX _);rintro e wr ⟨rfl,rfl⟩))
         | (at_builtin;go_must (refine wpList_append_own_at _ rfl _ _ 32 rfl w.heap.size 9 i0 (.string ⟨#[]⟩) 1 16 Tryz.underlying32 hi hz0 hz1 hz2 rfl (by decide) _ _ _ rfl hown1 ⟨wr.heap.size,0,none⟩ 1 1 [.string (s.extract k (k+1))] rfl rfl hnew ?h1 (by simp only [maxLen];omega) (by omega) hbase ?h2)))
        case h1=>first | rfl | exact fun u hu=>by cases hu with | head=>rfl | tail _ h=>cases h
        case h2=>
         intro z2 w4 hown4 hg4 _ _
         have hB4 :Below w.heap.size w w4 := ((hB.alloc hB.size _).trans (Bn hown1 hbase hg4))
         go_wp2_with fail
         go_roundg (s.size - (k+1))
         case measure=>omega
         case rel=>exact ⟨acc++ [s.extract k (k+1)],k+1,rfl,by omega,by go_num,by simp;omega,by simpa using hown4,HE,hB4⟩
       ·have q3 :ix<0 :=by omega
        have HE :Hid (T=acc++ [noW]) :=by
         have e :=HW.out
         rw [if_neg h0] at e
         exact Ut hlt hb e HT.out
        have hown1 :=hown.alloc (.cells [.string (noW)].toArray 9)
        have hnew :=B2 wr [.string (noW)] 9
        have hbase :w.heap.size≤ (wr.alloc (.cells [.string (noW)].toArray 9)).heap.size :=Nat.le_trans hB.size (by simp)
        go_wp2_with (first
         | (go_at_call 24;go_must (go_fit (LC _);rintro e wr ⟨rfl,rfl⟩))
         | (go_at_call 25;go_must (go_fit (DC _);rintro e wr ⟨rfl,rfl⟩))
         | (go_at_call 26;go_must (go_fit (IX _);rintro e wr ⟨rfl,rfl⟩))
         | (at_builtin;go_must (refine wpList_append_own_at _ rfl _ _ 32 rfl w.heap.size 9 i0 (.string ⟨#[]⟩) 1 16 Tryz.underlying32 hi hz0 hz1 hz2 rfl (by decide) _ _ _ rfl hown1 ⟨wr.heap.size,0,none⟩ 1 1 [.string (noW)] rfl rfl hnew ?h1 (by simp only [maxLen];omega) (by omega) hbase ?h2)))
        case h1=>first | rfl | exact fun u hu=>by cases hu with | head=>rfl | tail _ h=>cases h
        case h2=>
         intro z2 w4 hown4 hg4 _ _
         have hB4 :Below w.heap.size w w4 := ((hB.alloc hB.size _).trans (Bn hown1 hbase hg4))
         go_wp2_with fail
         go_ret
         refine ⟨_,rfl, ?_,hB4⟩
         rw [HE.out]
         have :=Kc.of_own hown4
         unfold Ak
         simpa using this
      ·have hq39 : ((s[k].toNat :Int) ==39) =true :=by rw [Gx];exact hq
       have HW :Hid (∀n,Bq (s.data.toList.drop k) =n↔ (if Lib.indexByte (s.data.toList.drop (k+1)) 39<0 then 0 else (Lib.indexByte (s.data.toList.drop (k+1)) 39).toNat+2) =n) :=by
        intro n;rw [Ft hlt,Bq,hl,hd,hq];simp
       go_wp2_with (first
        | (go_at_call 24;go_must (go_fit (LC _);rintro e wr ⟨rfl,rfl⟩))
        | (go_at_call 25;go_must (go_fit (DC _);rintro e wr ⟨rfl,rfl⟩)))
       go_loop [7] (fun j=> ∃m :Nat,k+1≤m∧m≤s.size∧j= .int .i64 m∧Hid (∀i,i<m - (k+1) → (s.data.toList.drop (k+1))[i]? ≠some 39)) (fun j=>s.size - (intOf j).toNat)
       case atStart=>exact ⟨k+1,Nat.le_refl _,hlt,by go_num,fun i hi=>by omega⟩
       case round=>
        obtain ⟨m,hm1,hm2,rfl,HG⟩ :=hrel
        by_cases hm :m<s.size
        ·have q2 : (m :Int) < (s.size :Int) :=by omega
         have hat : (s.data.toList.drop (k+1))[m - (k+1)]? =some s[m] :=by
          rw [List.getElem?_drop,show k+1+ (m - (k+1)) =m from by omega];exact G3 hm
         cases hc :Bp s[m]
         ·have hc' : ((s[m].toNat :Int) ==39) =false :=by rw [Gx];exact hc
          have HN :Hid (∀i,i<m+1 - (k+1) → (s.data.toList.drop (k+1))[i]? ≠some 39) :=by
           intro i hi
           by_cases h :i<m - (k+1)
           ·exact HG.out i h
           ·rw [show i=m - (k+1) from by omega,hat]
            intro e;rw [Option.some.inj e] at hc;revert hc;decide
          clear hc HG LC DC hat
          go_wp2_with fail
          go_round
          case rel=>exact ⟨m+1,by omega,by omega,by go_num,HN⟩
          case measure=>simp [intOf];omega
         ·have hc' : ((s[m].toNat :Int) ==39) =true :=by rw [Gx];exact hc
          have q3 : ¬ (m :Int) = (s.size :Int) :=by omega
          have q4 : ((m :Int) == (s.size :Int)) =false :=by simp;omega
          have HE :Hid (T= (acc++ [s.extract k (m+1)]) ++By (s.data.toList.drop (m+1))) :=by
           have e39 :s[m] =39 :=by simpa [Bp] using hc
           have ei :Lib.indexByte (s.data.toList.drop (k+1)) 39= ((m - (k+1) :Nat) :Int) :=Abe (by rw [hat,e39]) HG.out
           have e := (HW.out (m+1 - k)).2 (by rw [ei,if_neg (by omega)];omega)
           have :=Ou hlt hb e (by omega) HT.out
           rwa [show k+ (m+1 - k) =m+1 from by omega] at this
          have hown1 :=hown.alloc (.cells [.string (s.extract k (m+1))].toArray 9)
          have hnew :=B2 wr [.string (s.extract k (m+1))] 9
          have hbase :w.heap.size≤ (wr.alloc (.cells [.string (s.extract k (m+1))].toArray 9)).heap.size :=Nat.le_trans hB.size (by simp)
          clear hc HG LC DC hat
          go_wp2_with (at_builtin;go_must (refine wpList_append_own_at _ rfl _ _ 32 rfl w.heap.size 9 i0 (.string ⟨#[]⟩) 1 16 Tryz.underlying32 hi hz0 hz1 hz2 rfl (by decide) _ _ _ rfl hown1 ⟨wr.heap.size,0,none⟩ 1 1 [.string (s.extract k (m+1))] rfl rfl hnew ?h1 (by simp only [maxLen];omega) (by omega) hbase ?h2))
          case h1=>first | rfl | exact fun u hu=>by cases hu with | head=>rfl | tail _ h=>cases h
          case h2=>
           intro z2 w4 hown4 hg4 _ _
           have hB4 :Below w.heap.size w w4 := ((hB.alloc hB.size _).trans (Bn hown1 hbase hg4))
           go_wp2_with fail
           go_roundg (s.size - (m+1))
           case measure=>omega
           case rel=>exact ⟨acc++ [s.extract k (m+1)],m+1,rfl,by omega,by go_num,by simp;omega,by simpa using hown4,HE,hB4⟩
        ·have hms :m=s.size :=by omega
         subst hms
         have HE :Hid (T=acc++ [noW]) :=by
          have ei :Lib.indexByte (s.data.toList.drop (k+1)) 39<0 :=Abf (fun i=>by
           by_cases h :i<s.size - (k+1)
           ·exact HG.out i h
           ·rw [List.getElem?_eq_none (by rw [List.length_drop,Bi];omega)];simp)
          exact Ut hlt hb ((HW.out 0).2 (by rw [if_pos ei])) HT.out
         have hown1 :=hown.alloc (.cells [.string (noW)].toArray 9)
         have hnew :=B2 wr [.string (noW)] 9
         have hbase :w.heap.size≤ (wr.alloc (.cells [.string (noW)].toArray 9)).heap.size :=Nat.le_trans hB.size (by simp)
         clear HG LC DC
         go_wp2_with (at_builtin;go_must (refine wpList_append_own_at _ rfl _ _ 32 rfl w.heap.size 9 i0 (.string ⟨#[]⟩) 1 16 Tryz.underlying32 hi hz0 hz1 hz2 rfl (by decide) _ _ _ rfl hown1 ⟨wr.heap.size,0,none⟩ 1 1 [.string (noW)] rfl rfl hnew ?h1 (by simp only [maxLen];omega) (by omega) hbase ?h2))
         case h1=>first | rfl | exact fun u hu=>by cases hu with | head=>rfl | tail _ h=>cases h
         case h2=>
          intro z2 w4 hown4 hg4 _ _
          have hB4 :Below w.heap.size w w4 := ((hB.alloc hB.size _).trans (Bn hown1 hbase hg4))
          go_wp2_with fail
          go_ret
          refine ⟨_,rfl, ?_,hB4⟩
          rw [HE.out]
          have :=Kc.of_own hown4
          unfold Ak
          simpa using this
     ·rw [hd] at DC
      have HW :Hid (∀m,Ep A3 (s.data.toList.drop k) =m - k→Bq (s.data.toList.drop k) =m - k) :=by
       intro m hm;rw [←hm,Ft hlt,Bq,hl,hd,if_neg (by decide),if_pos rfl]
      have HG1 :Hid (((s.data.toList.drop k).take (k+1 - k)).all A3=true) :=Ws hlt hd
      go_wp2_with (first
       | (go_at_call 24;go_must (go_fit (LC _);rintro e wr ⟨rfl,rfl⟩))
       | (go_at_call 25;go_must (go_fit (DC _);rintro e wr ⟨rfl,rfl⟩)))
      go_loop [7] (fun j=> ∃m :Nat,k+1≤m∧m≤s.size∧j= .int .i64 m∧Hid (((s.data.toList.drop k).take (m - k)).all A3=true)) (fun j=>s.size - (intOf j).toNat)
      case atStart=>exact ⟨k+1,Nat.le_refl _,hlt,by go_num,HG1⟩
      case round=>
       obtain ⟨m,hm1,hm2,rfl,HG⟩ :=hrel
       by_cases hgo : ∃h :m<s.size,A3 s[m] =true
       ·obtain ⟨hm,hc⟩ :=hgo
        have q2 : (m :Int) < (s.size :Int) :=by omega
        have HN :Hid (((s.data.toList.drop k).take (m+1 - k)).all A3=true) :=Uu (by omega) hm HG.out hc
        have LM :=fun W=>M9 (s[m].toNat :Int) W
        simp only [Hy,hc] at LM
        clear hc HG LC DC
        go_wp2_with (go_at_call 25;go_must (go_fit (LM _);rintro e wr ⟨rfl,rfl⟩))
        go_round
        case rel=>exact ⟨m+1,by omega,by omega,by go_num,HN⟩
        case measure=>simp [intOf];omega
       ·have HE :Hid (T= (acc++ [s.extract k m]) ++By (s.data.toList.drop m)) :=by
         have e :=HW.out m (Uv (by omega) hm2 HG.out (fun h=>by cases hx :A3 s[m];rfl;exact absurd ⟨h,hx⟩ hgo))
         have :=Ou hlt hb e (by omega) HT.out
         rwa [show k+ (m - k) =m from by omega] at this
        have hown1 :=hown.alloc (.cells [.string (s.extract k m)].toArray 9)
        have hnew :=B2 wr [.string (s.extract k m)] 9
        have hbase :w.heap.size≤ (wr.alloc (.cells [.string (s.extract k m)].toArray 9)).heap.size :=Nat.le_trans hB.size (by simp)
        by_cases hm :m<s.size
        ·have hc :A3 s[m] =false :=by cases hx :A3 s[m];rfl;exact absurd ⟨hm,hx⟩ hgo
         have q2 : (m :Int) < (s.size :Int) :=by omega
         have LM :=fun W=>M9 (s[m].toNat :Int) W
         simp only [Hy,hc] at LM
         clear hc HG LC DC hgo
         go_wp2_with (first
          | (go_at_call 25;go_must (go_fit (LM _);rintro e wr ⟨rfl,rfl⟩))
          | (at_builtin;go_must (refine wpList_append_own_at _ rfl _ _ 32 rfl w.heap.size 9 i0 (.string ⟨#[]⟩) 1 16 Tryz.underlying32 hi hz0 hz1 hz2 rfl (by decide) _ _ _ rfl hown1 ⟨wr.heap.size,0,none⟩ 1 1 [.string (s.extract k m)] rfl rfl hnew ?h1 (by simp only [maxLen];omega) (by omega) hbase ?h2)))
         case h1=>first | rfl | exact fun u hu=>by cases hu with | head=>rfl | tail _ h=>cases h
         case h2=>
          intro z2 w4 hown4 hg4 _ _
          have hB4 :Below w.heap.size w w4 := ((hB.alloc hB.size _).trans (Bn hown1 hbase hg4))
          go_wp2_with fail
          go_roundg (s.size - (m))
          case measure=>omega
          case rel=>exact ⟨acc++ [s.extract k m],m,rfl,by omega,by go_num,by simp;omega,by simpa using hown4,HE,hB4⟩
        ·have q2 : ¬ (m :Int) < (s.size :Int) :=by omega
         clear HG LC DC hgo
         go_wp2_with (at_builtin;go_must (refine wpList_append_own_at _ rfl _ _ 32 rfl w.heap.size 9 i0 (.string ⟨#[]⟩) 1 16 Tryz.underlying32 hi hz0 hz1 hz2 rfl (by decide) _ _ _ rfl hown1 ⟨wr.heap.size,0,none⟩ 1 1 [.string (s.extract k m)] rfl rfl hnew ?h1 (by simp only [maxLen];omega) (by omega) hbase ?h2))
         case h1=>first | rfl | exact fun u hu=>by cases hu with | head=>rfl | tail _ h=>cases h
         case h2=>
          intro z2 w4 hown4 hg4 _ _
          have hB4 :Below w.heap.size w w4 := ((hB.alloc hB.size _).trans (Bn hown1 hbase hg4))
          go_wp2_with fail
          go_roundg (s.size - (m))
          case measure=>omega
          case rel=>exact ⟨acc++ [s.extract k m],m,rfl,by omega,by go_num,by simp;omega,by simpa using hown4,HE,hB4⟩
    ·rw [hl] at LC
     have HW :Hid (∀m,Ep A6 (s.data.toList.drop k) =m - k→Bq (s.data.toList.drop k) =m - k) :=by
      intro m hm;rw [←hm,Ft hlt,Bq,if_pos hl]
     have HG1 :Hid (((s.data.toList.drop k).take (k+1 - k)).all A6=true) :=Ws hlt hl
     go_wp2_with (go_at_call 24;go_must (go_fit (LC _);rintro e wr ⟨rfl,rfl⟩))
     go_loop [7] (fun j=> ∃m :Nat,k+1≤m∧m≤s.size∧j= .int .i64 m∧Hid (((s.data.toList.drop k).take (m - k)).all A6=true)) (fun j=>s.size - (intOf j).toNat)
     case atStart=>exact ⟨k+1,Nat.le_refl _,hlt,by go_num,HG1⟩
     case round=>
      obtain ⟨m,hm1,hm2,rfl,HG⟩ :=hrel
      by_cases hgo : ∃h :m<s.size,A6 s[m] =true
      ·obtain ⟨hm,hc⟩ :=hgo
       have q2 : (m :Int) < (s.size :Int) :=by omega
       have HN :Hid (((s.data.toList.drop k).take (m+1 - k)).all A6=true) :=Uu (by omega) hm HG.out hc
       have LM :=fun W=>Mf (s[m].toNat :Int) W
       simp only [If,hc] at LM
       clear hc HG LC DC
       go_wp2_with (go_at_call 24;go_must (go_fit (LM _);rintro e wr ⟨rfl,rfl⟩))
       go_round
       case rel=>exact ⟨m+1,by omega,by omega,by go_num,HN⟩
       case measure=>simp [intOf];omega
      ·have HE :Hid (T= (acc++ [s.extract k m]) ++By (s.data.toList.drop m)) :=by
        have e :=HW.out m (Uv (by omega) hm2 HG.out (fun h=>by cases hx :A6 s[m];rfl;exact absurd ⟨h,hx⟩ hgo))
        have :=Ou hlt hb e (by omega) HT.out
        rwa [show k+ (m - k) =m from by omega] at this
       have hown1 :=hown.alloc (.cells [.string (s.extract k m)].toArray 9)
       have hnew :=B2 wr [.string (s.extract k m)] 9
       have hbase :w.heap.size≤ (wr.alloc (.cells [.string (s.extract k m)].toArray 9)).heap.size :=Nat.le_trans hB.size (by simp)
       by_cases hm :m<s.size
       ·have hc :A6 s[m] =false :=by cases hx :A6 s[m];rfl;exact absurd ⟨hm,hx⟩ hgo
        have q2 : (m :Int) < (s.size :Int) :=by omega
        have LM :=fun W=>Mf (s[m].toNat :Int) W
        simp only [If,hc] at LM
        clear hc HG LC DC hgo
        go_wp2_with (first
         | (go_at_call 24;go_must (go_fit (LM _);rintro e wr ⟨rfl,rfl⟩))
         | (at_builtin;go_must (refine wpList_append_own_at _ rfl _ _ 32 rfl w.heap.size 9 i0 (.string ⟨#[]⟩) 1 16 Tryz.underlying32 hi hz0 hz1 hz2 rfl (by decide) _ _ _ rfl hown1 ⟨wr.heap.size,0,none⟩ 1 1 [.string (s.extract k m)] rfl rfl hnew ?h1 (by simp only [maxLen];omega) (by omega) hbase ?h2)))
        case h1=>first | rfl | exact fun u hu=>by cases hu with | head=>rfl | tail _ h=>cases h
        case h2=>
         intro z2 w4 hown4 hg4 _ _
         have hB4 :Below w.heap.size w w4 := ((hB.alloc hB.size _).trans (Bn hown1 hbase hg4))
         go_wp2_with fail
         go_roundg (s.size - (m))
         case measure=>omega
         case rel=>exact ⟨acc++ [s.extract k m],m,rfl,by omega,by go_num,by simp;omega,by simpa using hown4,HE,hB4⟩
       ·have q2 : ¬ (m :Int) < (s.size :Int) :=by omega
        clear HG LC DC hgo
        go_wp2_with (at_builtin;go_must (refine wpList_append_own_at _ rfl _ _ 32 rfl w.heap.size 9 i0 (.string ⟨#[]⟩) 1 16 Tryz.underlying32 hi hz0 hz1 hz2 rfl (by decide) _ _ _ rfl hown1 ⟨wr.heap.size,0,none⟩ 1 1 [.string (s.extract k m)] rfl rfl hnew ?h1 (by simp only [maxLen];omega) (by omega) hbase ?h2))
        case h1=>first | rfl | exact fun u hu=>by cases hu with | head=>rfl | tail _ h=>cases h
        case h2=>
         intro z2 w4 hown4 hg4 _ _
         have hB4 :Below w.heap.size w w4 := ((hB.alloc hB.size _).trans (Bn hown1 hbase hg4))
         go_wp2_with fail
         go_roundg (s.size - (m))
         case measure=>omega
         case rel=>exact ⟨acc++ [s.extract k m],m,rfl,by omega,by go_num,by simp;omega,by simpa using hown4,HE,hB4⟩
   ·have HN :Hid (T=acc++By (s.data.toList.drop (k+1))) :=Zy hlt hb HT.out
    have hb' : (s[k].toNat :Int) =32∨ (s[k].toNat :Int) =10 :=by
     simp [B9,←UInt8.toNat_inj] at hb;omega
    clear hb HT
    rcases hb' with hb' | hb'
    all_goals
     go_wp2_with fail
     go_roundg (s.size - (k+1))
     case measure=>omega
     case rel=>exact ⟨acc,k+1,rfl,by omega,by go_num,by omega,hown,HN,hB⟩
  ·have q1 : ¬ (k :Int) < (s.size :Int) :=by omega
   go_wp2_with fail
   go_ret
   refine ⟨_,rfl, ?_,hB⟩
   have e :T=acc :=by rw [HT.out,List.drop_eq_nil_of_le (by rw [Bi];omega)];simp [By,K4]
   rw [e]
   exact Kc.of_own hown
end Go.Proofs.YtifjaegfpdjikaaGreatDoor

namespace Go.Proofs.YtifjaegfpdjikaaGreatDoor
open Go.RowKit
set_option maxRecDepth 100000 in
set_option maxHeartbeats 4000000 in
theorem Q2 (d :Int) (hd :d≠0) (x :Wd) (hz :0<x.size) (hnl :x≠Be) (hq :fst Bp x=false) (hdg :fst A3 x=false) (hnm :nm x=true) (sl :Value) (w :World) (he :Env w) (hL :Ak w sl [x]) :
  Calls Tryz.prog 114 #[sl, .int .i64 d] w (Bj (some (Ld noW x)) w) :=by
 have hd0 : (d==0) =false :=by simpa using hd
 generalize hW :w.alloc (.cells Ap 37) =W
 have HW :Hid _ :=hW
 have hb0 :Below w.heap.size w W :=by rw [←hW];exact (Below.refl _ _).alloc (Nat.le_refl _) _
 have b0 :W.heap[w.heap.size]? =some (.cells Ap 37) :=by rw [←hW];exact Ad w _
 have HWs :Hid (W.heap.size=w.heap.size+1) :=by rw [Hid,←hW];exact World.size_alloc _ _
 clear hW
 obtain ⟨b,off,cap,rfl,hcap,hcell⟩ :=A0 (hL.below hb0) (by simp)
 have c0 :W.cell? ⟨b,off,none⟩ =some (.string x) :=hcell 0 _ rfl
 obtain ⟨hblw,_,_,hcw⟩ :=A7 hL (by simp)
 have KS :Hid (∀V,Below w.heap.size w V→V.cell? ⟨b,off,none⟩ =some (.string x)) :=fun V h=> (h.cell (p := ⟨b,off,none⟩) hblw).trans (hcw 0 _ rfl)
 clear hcw hblw
 clear hcell hcap
 simp only [List.length_cons,List.length_nil,Nat.zero_add] at*
 have i3 : (0 :Int) < (x.size :Int) :=by omega
 have hn0 : (x.toList== [110,117,108,108]) =false :=by rw [An];simpa using hnl
 have hqb : ((x[0].toNat :Int) ==39) =false :=by rw [Gx];rw [Ds (by omega)] at hq;exact hq
 have hd2 : ¬ (48≤x[0].toNat∧x[0].toNat≤57) :=by rw [Ds (by omega)] at hdg;simpa [A3] using hdg
 have jj : ¬ (48 :Int) ≤ (x[0].toNat :Int) ∨ ((48 :Int) ≤ (x[0].toNat :Int) ∧ ¬ (x[0].toNat :Int) ≤57) :=by omega
 have JJ :Hid _ :=jj
 have NA :=Ey x W.drew (he.next hb0.drew)
 rw [hnm] at NA
 clear hd2 hdg hq jj hL
 go_enter Tryz.func114,Tryz.ntmps114
 go_upto_region 5 with fail
 rw [HW.out]
 go_cut [24] from 25 (fun s24 wx=>s24= .bool false∧wx=W)
 case first=>
  by_cases hop :x=As
  ·have hbx : (x.toList== [40]) =true :=by rw [An];simpa using hop
   have hby : (x.toList== [41]) =false :=by rw [An,hop];decide
   go_wp2_with fail
   go_meet
   case rel=>exact ⟨rfl,rfl⟩
  ·have hbx : (x.toList== [40]) =false :=by rw [An];simpa using hop
   go_wp2_with fail
   go_meet
   case rel=>exact ⟨rfl,rfl⟩
 case rest=>
  obtain ⟨rfl,hwc⟩ :=hcut
  rw [hwc]
  clear hwc
  go_upto_region 14 with fail
  go_cut [101] from 102 (fun s wx=>s= .bool false∧wx=W)
  case first=>
   rcases JJ.out with j0 | ⟨j0,j1⟩
   all_goals
    go_wp2_with fail
    go_meet
    case rel=>exact ⟨rfl,rfl⟩
  case rest=>
   obtain ⟨rfl,hwd⟩ :=hcut
   rw [hwd]
   clear hwd
   go_upto_region 21 with fail
   go_region_held3 (fun w'=>w'.cell? ⟨b,off,none⟩ =some (.string x)) (with_reducible first | exact KS.out _ hb0.drew | exact KS.out _ hz | exact KS.out _ (Bk hz (Nat.le_refl _) _ _ _ _ _ _ _ _))
    ((go_at_call 7;refine (NA).mono ?_;rintro e w1 ⟨rfl,hb1⟩;have b1 := (hb1.block _ (lt_of_block (w :=W.drew) b0)).trans b0;obtain ⟨⟨r0,r1,r2,r3,r4,r5,r6,r7⟩,f0,f1,f2,f3,f4,f5,f6,f7⟩ :=Ca b1;have hz :Below w.heap.size w w1 :=hb0.drew.trans (hb1.mono hb0.size)))
   go_wp2_with fail
   exact bodyPost_ret (v := .tuple #[.agg #[.int .i64 2, .int .i64 zero.k, .int .i64 zero.n, .string zero.s, .string noW, .string x, .int .i64 0, .slice none 0 0], .bool true]) (by simp [results,Tryz.results114,go_sem,r0,r1,r2,r3,r4,r5,r6,r7];exact ⟨rfl,rfl,rfl⟩) rfl ⟨_,_,_,rfl,Jy _ _ noW x,rfl,Bk hz (Nat.le_refl _) _ _ _ _ _ _ _ _⟩
set_option maxRecDepth 100000 in
set_option maxHeartbeats 4000000 in
theorem Q3 (d :Int) (hd :d≠0) (x :Wd) (hz :0<x.size) (hnl :x≠Be) (hq :fst Bp x=false) (hdg :fst A3 x=false) (hnm :nm x=false) (sl :Value) (w :World) (he :Env w) (hL :Ak w sl [x]) :
  Calls Tryz.prog 114 #[sl, .int .i64 d] w (Bj (none) w) :=by
 have hd0 : (d==0) =false :=by simpa using hd
 generalize hW :w.alloc (.cells Ap 37) =W
 have HW :Hid _ :=hW
 have hb0 :Below w.heap.size w W :=by rw [←hW];exact (Below.refl _ _).alloc (Nat.le_refl _) _
 have b0 :W.heap[w.heap.size]? =some (.cells Ap 37) :=by rw [←hW];exact Ad w _
 have HWs :Hid (W.heap.size=w.heap.size+1) :=by rw [Hid,←hW];exact World.size_alloc _ _
 clear hW
 obtain ⟨b,off,cap,rfl,hcap,hcell⟩ :=A0 (hL.below hb0) (by simp)
 have c0 :W.cell? ⟨b,off,none⟩ =some (.string x) :=hcell 0 _ rfl
 obtain ⟨hblw,_,_,hcw⟩ :=A7 hL (by simp)
 have KS :Hid (∀V,Below w.heap.size w V→V.cell? ⟨b,off,none⟩ =some (.string x)) :=fun V h=> (h.cell (p := ⟨b,off,none⟩) hblw).trans (hcw 0 _ rfl)
 clear hcw hblw
 clear hcell hcap
 simp only [List.length_cons,List.length_nil,Nat.zero_add] at*
 have i3 : (0 :Int) < (x.size :Int) :=by omega
 have hn0 : (x.toList== [110,117,108,108]) =false :=by rw [An];simpa using hnl
 have hqb : ((x[0].toNat :Int) ==39) =false :=by rw [Gx];rw [Ds (by omega)] at hq;exact hq
 have hd2 : ¬ (48≤x[0].toNat∧x[0].toNat≤57) :=by rw [Ds (by omega)] at hdg;simpa [A3] using hdg
 have jj : ¬ (48 :Int) ≤ (x[0].toNat :Int) ∨ ((48 :Int) ≤ (x[0].toNat :Int) ∧ ¬ (x[0].toNat :Int) ≤57) :=by omega
 have JJ :Hid _ :=jj
 have NA :=Ey x W.drew (he.next hb0.drew)
 rw [hnm] at NA
 clear hd2 hdg hq jj hL
 go_enter Tryz.func114,Tryz.ntmps114
 go_upto_region 5 with fail
 rw [HW.out]
 go_cut [24] from 25 (fun s24 wx=>s24= .bool false∧wx=W)
 case first=>
  by_cases hop :x=As
  ·have hbx : (x.toList== [40]) =true :=by rw [An];simpa using hop
   have hby : (x.toList== [41]) =false :=by rw [An,hop];decide
   go_wp2_with fail
   go_meet
   case rel=>exact ⟨rfl,rfl⟩
  ·have hbx : (x.toList== [40]) =false :=by rw [An];simpa using hop
   go_wp2_with fail
   go_meet
   case rel=>exact ⟨rfl,rfl⟩
 case rest=>
  obtain ⟨rfl,hwc⟩ :=hcut
  rw [hwc]
  clear hwc
  go_upto_region 14 with fail
  go_cut [101] from 102 (fun s wx=>s= .bool false∧wx=W)
  case first=>
   rcases JJ.out with j0 | ⟨j0,j1⟩
   all_goals
    go_wp2_with fail
    go_meet
    case rel=>exact ⟨rfl,rfl⟩
  case rest=>
   obtain ⟨rfl,hwd⟩ :=hcut
   rw [hwd]
   clear hwd
   go_upto_region 21 with fail
   go_region_held3 (fun w'=>w'.cell? ⟨b,off,none⟩ =some (.string x)) (with_reducible first | exact KS.out _ hb0.drew | exact KS.out _ hz | exact KS.out _ (Bk hz (Nat.le_refl _) _ _ _ _ _ _ _ _))
    ((go_at_call 7;refine (NA).mono ?_;rintro e w1 ⟨rfl,hb1⟩;have b1 := (hb1.block _ (lt_of_block (w :=W.drew) b0)).trans b0;obtain ⟨⟨r0,r1,r2,r3,r4,r5,r6,r7⟩,f0,f1,f2,f3,f4,f5,f6,f7⟩ :=Ca b1;have hz :Below w.heap.size w w1 :=hb0.drew.trans (hb1.mono hb0.size)))
   go_wp2_with fail
   exact bodyPost_ret (v := .tuple #[.agg #[.int .i64 2, .int .i64 zero.k, .int .i64 zero.n, .string zero.s, .string noW, .string x, .int .i64 0, .slice none 0 0], .bool false]) (by simp [results,Tryz.results114,go_sem,r0,r1,r2,r3,r4,r5,r6,r7];exact ⟨rfl,rfl,rfl⟩) rfl ⟨_,_,_,rfl,Jy _ _ noW x,rfl,Bk hz (Nat.le_refl _) _ _ _ _ _ _ _ _⟩
end Go.Proofs.YtifjaegfpdjikaaGreatDoor

namespace Go.Proofs.YtifjaegfpdjikaaGreatDoor
open Go.RowKit
theorem Abg {x :Wd} {n :Int} (h :Cs x=some n) :Dk ⟨1,n,noW⟩ =true :=by
 unfold Cs at h
 split at h
 ·rename_i c
  cases h
  simp only [Bool.and_eq_true,decide_eq_true_eq] at c
  have :=c.2
  rw [Dk,if_neg (show ¬ (1 :Int) =0 by decide),if_pos (show (1 :Int) =1 from rfl)]
  simp only [Bool.and_eq_true,decide_eq_true_eq]
  exact ⟨⟨by omega,by omega⟩,rfl⟩
 ·cases h
theorem Ach {RN :Option Int} {n :Int} {okn ok :Bool} {x1 :E} (hg : ∀n,RN=some n→Dk ⟨1,n,noW⟩ =true) (h1 :RN=if okn=true then some n else none) (h2 : (if (okn&&Dk ⟨1,n,noW⟩) =true then some (D5 ⟨1,n,noW⟩) else none) =if ok=true then some x1 else none) : (RN.map fun n=>D5 ⟨1,n,noW⟩) =if ok=true then some x1 else none :=by
 cases okn
 ·simp only [Bool.false_eq_true,if_false] at h1
  rw [h1]
  simpa using h2
 ·simp only [if_true] at h1
  have :=hg n h1
  rw [this] at h2
  rw [h1]
  simpa using h2
set_option maxRecDepth 100000 in
set_option maxHeartbeats 4000000 in
theorem Vv (d :Int) (hd :d≠0) (x :Wd) (htk :IsTok x) (hsz :x.size≤1500) (hnl :x≠Be) (hq :fst Bp x=true) (sl :Value) (w :World) (hL :Ak w sl [x]) :
  Calls Tryz.prog 114 #[sl, .int .i64 d] w (Bj (if Dk (Hq x) =true then some (D5 (Hq x)) else none) w) :=by
 have hd0 : (d==0) =false :=by simpa using hd
 generalize hW :w.alloc (.cells Ap 37) =W
 have HW :Hid _ :=hW
 have hb0 :Below w.heap.size w W :=by rw [←hW];exact (Below.refl _ _).alloc (Nat.le_refl _) _
 have b0 :W.heap[w.heap.size]? =some (.cells Ap 37) :=by rw [←hW];exact Ad w _
 have HWs :Hid (W.heap.size=w.heap.size+1) :=by rw [Hid,←hW];exact World.size_alloc _ _
 clear hW
 obtain ⟨b,off,cap,rfl,hcap,hcell⟩ :=A0 (hL.below hb0) (by simp)
 have c0 :W.cell? ⟨b,off,none⟩ =some (.string x) :=hcell 0 _ rfl
 obtain ⟨hblw,_,_,hcw⟩ :=A7 hL (by simp)
 have KS :Hid (∀V,Below w.heap.size w V→V.cell? ⟨b,off,none⟩ =some (.string x)) :=fun V h=> (h.cell (p := ⟨b,off,none⟩) hblw).trans (hcw 0 _ rfl)
 clear hcw hblw
 clear hcell hcap
 simp only [List.length_cons,List.length_nil,Nat.zero_add] at*
 have h2 :=htk.quo hq
 have i0 : (1 :Int) ≤ (x.size :Int) - 1 :=by omega
 have i1 : (x.size :Int) - 1≤ (x.size :Int) :=by omega
 have i2 : ((x.size :Int) - 1).toNat=x.size - 1 :=by omega
 have i3 : (0 :Int) < (x.size :Int) :=by omega
 have i4 :0<x.size :=by omega
 have i5 :IntKind.i64.wrap ((x.size :Int) - 1) = (x.size :Int) - 1 :=by rw [IntKind.wrap_i64];omega
 have hn0 : (x.toList== [110,117,108,108]) =false :=by rw [An];simpa using hnl
 have hqb : ((x[0].toNat :Int) ==39) =true :=by rw [Gx];rw [Ds (by omega)] at hq;exact hq
 have LI :=M8 2 0 (x.extract 1 (x.size - 1)) true W.drew (by unfold maxLen;simp;omega)
 have ev :Hq x= ⟨2,0,x.extract 1 (x.size - 1)⟩ :=by rw [Mb (x :=x)];rfl
 rw [ev]
 simp only [Bool.true_and] at LI
 generalize (if Dk ⟨2,0,x.extract 1 (x.size - 1)⟩ =true then some (D5 ⟨2,0,x.extract 1 (x.size - 1)⟩) else none) =R at LI⊢
 clear ev htk hq hL
 go_enter Tryz.func114,Tryz.ntmps114
 go_upto_region 5 with fail
 rw [HW.out]
 go_cut [24] from 25 (fun s24 wx=>s24= .bool false∧wx=W)
 case first=>
  by_cases hop :x=As
  ·have hbx : (x.toList== [40]) =true :=by rw [An];simpa using hop
   have hby : (x.toList== [41]) =false :=by rw [An,hop];decide
   go_wp2_with fail
   go_meet
   case rel=>exact ⟨rfl,rfl⟩
  ·have hbx : (x.toList== [40]) =false :=by rw [An];simpa using hop
   go_wp2_with fail
   go_meet
   case rel=>exact ⟨rfl,rfl⟩
 case rest=>
  obtain ⟨rfl,hwc⟩ :=hcut
  rw [hwc]
  clear hwc
  go_upto_region 13 with fail
  go_region_held3 (fun w'=>w'.cell? ⟨b,off,none⟩ =some (.string x)) (with_reducible first | exact KS.out _ hb0.drew | exact KS.out _ hz | exact KS.out _ (Bk hz (Nat.le_refl _) _ _ _ _ _ _ _ _))
   ((go_at_call 122;refine (LI).mono ?_;rintro e w2 ⟨v,ok,x1,rfl,hE,hR,hb2⟩;have HR :Hid _ :=hR;clear hR;have b2 := (hb2.block _ (lt_of_block (w :=W.drew) b0)).trans b0;obtain ⟨op,xv,xs,nmv,xn,ao,kk,c,rfl⟩ :=hE.shape;obtain ⟨xk,xi,xs2⟩ :=xv;obtain ⟨⟨r0,r1,r2,r3,r4,r5,r6,r7⟩,f0,f1,f2,f3,f4,f5,f6,f7⟩ :=Ca b2;have hz :Below w.heap.size w w2 :=hb0.drew.trans (hb2.mono hb0.size)))
  go_wp2_with fail
  obtain ⟨hN,hBN⟩ :=Ih (w1 :=W.drew) hb0.drew (by have :=HWs.out;show w.heap.size+1≤W.heap.size;omega) hb2 hE
  exact bodyPost_ret (v := .tuple #[.agg #[.int .i64 op, .int .i64 xk, .int .i64 xi, .string xs2, .string xs, .string nmv, .int .i64 xn, .slice ao kk c], .bool ok]) (by simp [results,Tryz.results114,go_sem,r0,r1,r2,r3,r4,r5,r6,r7]) rfl ⟨_,_,_,rfl,hN,HR.out,hBN⟩
set_option maxRecDepth 100000 in
set_option maxHeartbeats 4000000 in
theorem Ye (d :Int) (hd :d≠0) (x :Wd) (hz :0<x.size) (hnl :x≠Be) (hq :fst Bp x=false) (hdg :fst A3 x=true) (sl :Value) (w :World) (hL :Ak w sl [x]) :
  Calls Tryz.prog 114 #[sl, .int .i64 d] w (Bj ((Cs x).map fun n=>D5 ⟨1,n,noW⟩) w) :=by
 have hd0 : (d==0) =false :=by simpa using hd
 generalize hW :w.alloc (.cells Ap 37) =W
 have HW :Hid _ :=hW
 have hb0 :Below w.heap.size w W :=by rw [←hW];exact (Below.refl _ _).alloc (Nat.le_refl _) _
 have b0 :W.heap[w.heap.size]? =some (.cells Ap 37) :=by rw [←hW];exact Ad w _
 have HWs :Hid (W.heap.size=w.heap.size+1) :=by rw [Hid,←hW];exact World.size_alloc _ _
 clear hW
 obtain ⟨b,off,cap,rfl,hcap,hcell⟩ :=A0 (hL.below hb0) (by simp)
 have c0 :W.cell? ⟨b,off,none⟩ =some (.string x) :=hcell 0 _ rfl
 obtain ⟨hblw,_,_,hcw⟩ :=A7 hL (by simp)
 have KS :Hid (∀V,Below w.heap.size w V→V.cell? ⟨b,off,none⟩ =some (.string x)) :=fun V h=> (h.cell (p := ⟨b,off,none⟩) hblw).trans (hcw 0 _ rfl)
 clear hcw hblw
 clear hcell hcap
 simp only [List.length_cons,List.length_nil,Nat.zero_add] at*
 have i3 : (0 :Int) < (x.size :Int) :=by omega
 have hn0 : (x.toList== [110,117,108,108]) =false :=by rw [An];simpa using hnl
 have hqb : ((x[0].toNat :Int) ==39) =false :=by rw [Gx];rw [Ds (by omega)] at hq;exact hq
 have hd2 :48≤x[0].toNat∧x[0].toNat≤57 :=by rw [Ds (by omega)] at hdg;simpa [A3] using hdg
 have j0 : (48 :Int) ≤ (x[0].toNat :Int) :=by omega
 have j1 : (x[0].toNat :Int) ≤57 :=by omega
 have NU :=Lu x W
 have LI :=fun n ok V=>M8 1 n noW ok V (by decide)
 have hgn : ∀n,Cs x=some n→Dk ⟨1,n,noW⟩ =true :=fun n h=>Abg h
 have HG :Hid _ :=hgn
 clear hgn
 generalize Cs x=RN at NU HG⊢
 clear hd2 hdg hq hL
 go_enter Tryz.func114,Tryz.ntmps114
 go_upto_region 5 with fail
 rw [HW.out]
 go_cut [24] from 25 (fun s24 wx=>s24= .bool false∧wx=W)
 case first=>
  by_cases hop :x=As
  ·have hbx : (x.toList== [40]) =true :=by rw [An];simpa using hop
   have hby : (x.toList== [41]) =false :=by rw [An,hop];decide
   go_wp2_with fail
   go_meet
   case rel=>exact ⟨rfl,rfl⟩
  ·have hbx : (x.toList== [40]) =false :=by rw [An];simpa using hop
   go_wp2_with fail
   go_meet
   case rel=>exact ⟨rfl,rfl⟩
 case rest=>
  obtain ⟨rfl,hwc⟩ :=hcut
  rw [hwc]
  clear hwc
  go_wp2_with (first
   | (go_at_call 35;go_must (go_fit NU;rintro e w1 ⟨n,okn,rfl,hRN,hb1⟩;have HRN :Hid _ :=hRN;clear hRN;have b1 := (hb1.block _ (lt_of_block b0)).trans b0;have L1 :=LI n okn w1))
   | (go_at_call 122;go_must (go_fit L1;rintro e w2 ⟨v,ok,x1,rfl,hE,hR,hb2⟩;have HR :Hid _ :=hR;clear hR;have b2 := (hb2.block _ (lt_of_block b1)).trans b1;obtain ⟨op,xv,xs,nmv,xn,ao,kk,c,rfl⟩ :=hE.shape;obtain ⟨xk,xi,xs2⟩ :=xv;obtain ⟨⟨r0,r1,r2,r3,r4,r5,r6,r7⟩,f0,f1,f2,f3,f4,f5,f6,f7⟩ :=Ca b2)))
  obtain ⟨hN,hBN⟩ :=Ih (w1 :=w1) (hb0.trans (hb1.mono hb0.size)) (by have :=HWs.out;have := (hb0.trans (hb1.mono hb0.size)).size;have :=hb1.size;omega) hb2 hE
  exact bodyPost_ret (v := .tuple #[.agg #[.int .i64 op, .int .i64 xk, .int .i64 xi, .string xs2, .string xs, .string nmv, .int .i64 xn, .slice ao kk c], .bool ok]) (by simp [results,Tryz.results114,go_sem,r0,r1,r2,r3,r4,r5,r6,r7]) rfl ⟨_,_,_,rfl,hN,(Ach HG.out HRN.out HR.out),hBN⟩
end Go.Proofs.YtifjaegfpdjikaaGreatDoor

namespace Go.Proofs.YtifjaegfpdjikaaGreatDoor
open Go.RowKit
theorem Aci {RN :Option Int} {n m :Int} {okn ok :Bool} {x1 :E} (hg : ∀n,RN=some n→Dk ⟨1, -n,noW⟩ =true) (h1 :RN=if okn=true then some n else none) (hm :okn=true→m= -n) (h2 : (if (okn&&Dk ⟨1,m,noW⟩) =true then some (D5 ⟨1,m,noW⟩) else none) =if ok=true then some x1 else none) : (RN.map fun n=>D5 ⟨1, -n,noW⟩) =if ok=true then some x1 else none :=by
 cases okn
 ·simp only [Bool.false_eq_true,if_false] at h1
  rw [h1]
  simpa using h2
 ·simp only [if_true] at h1
  have :=hg n h1
  rw [hm rfl,this] at h2
  rw [h1]
  simpa using h2
theorem Q4 {x :Wd} {n :Int} (h :Cs x=some n) :0≤n∧n≤1000000 :=by
 unfold Cs at h
 split at h
 ·rename_i c
  cases h
  simp only [Bool.and_eq_true,decide_eq_true_eq] at c
  have :=c.2
  omega
 ·cases h
theorem Abh {x :Wd} {n :Int} (h :Cs x=some n) :Dk ⟨1, -n,noW⟩ =true :=by
 have :=Q4 h
 rw [Dk,if_neg (show ¬ (1 :Int) =0 by decide),if_pos (show (1 :Int) =1 from rfl)]
 simp only [Bool.and_eq_true,decide_eq_true_eq]
 exact ⟨⟨by omega,by omega⟩,rfl⟩
theorem Acj {RN :Option Int} {n :Int} {okn :Bool} (hr : ∀n,RN=some n→0≤n∧n≤1000000) (h1 :RN=if okn=true then some n else none) (h :okn=true) :wrap64 (-n) = -n :=by
 rw [h,if_pos rfl] at h1
 have :=hr n h1
 unfold wrap64;omega
set_option maxRecDepth 100000 in
set_option maxHeartbeats 4000000 in
theorem Yf (d :Int) (hd :d≠0) (x :Wd) (sl :Value) (w :World) (hL :Ak w sl [Bd,x]) :
  Calls Tryz.prog 114 #[sl, .int .i64 d] w (Bj ((Cs x).map fun n=>D5 ⟨1, -n,noW⟩) w) :=by
 have hd0 : (d==0) =false :=by simpa using hd
 generalize hW :w.alloc (.cells Ap 37) =W
 have HW :Hid _ :=hW
 have hb0 :Below w.heap.size w W :=by rw [←hW];exact (Below.refl _ _).alloc (Nat.le_refl _) _
 have b0 :W.heap[w.heap.size]? =some (.cells Ap 37) :=by rw [←hW];exact Ad w _
 have HWs :Hid (W.heap.size=w.heap.size+1) :=by rw [Hid,←hW];exact World.size_alloc _ _
 clear hW
 obtain ⟨b,off,cap,rfl,hcap,hcell⟩ :=A0 (hL.below hb0) (by simp)
 have c0 :W.cell? ⟨b,off,none⟩ =some (.string Bd) :=hcell 0 _ rfl
 have c1 :W.cell? ⟨b,off+1,none⟩ =some (.string x) :=hcell 1 _ rfl
 obtain ⟨hblw,_,_,hcw⟩ :=A7 hL (by simp)
 have KS :Hid (∀V,Below w.heap.size w V→V.cell? ⟨b,off,none⟩ =some (.string Bd) ∧V.cell? ⟨b,off+1,none⟩ =some (.string x)) :=fun V h=> ⟨(h.cell (p := ⟨b,off,none⟩) hblw).trans (hcw 0 _ rfl),(h.cell (p := ⟨b,off+1,none⟩) hblw).trans (hcw 1 _ rfl)⟩
 clear hcw hblw
 clear hcell hcap
 simp only [List.length_cons,List.length_nil,Nat.zero_add,Nat.reduceAdd] at*
 have NU :=Lu x W
 have LI :=fun n ok V=>M8 1 n noW ok V (by decide)
 have HG :Hid (∀n,Cs x=some n→Dk ⟨1, -n,noW⟩ =true) :=fun n h=>Abh h
 have HRG :Hid (∀n,Cs x=some n→0≤n∧n≤1000000) :=fun n h=>Q4 h
 generalize Cs x=RN at NU HG HRG⊢
 clear hL
 go_enter Tryz.func114,Tryz.ntmps114
 go_upto_region 5 with fail
 rw [HW.out]
 go_wp2_with (first
   | (go_at_call 35;go_must (go_fit NU;rintro e w1 ⟨n,okn,rfl,hRN,hb1⟩;have HRN :Hid _ :=hRN;clear hRN;have b1 := (hb1.block _ (lt_of_block b0)).trans b0;have L1 :=LI (wrap64 (-n)) okn w1))
   | (go_at_call 122;go_must (go_fit L1;rintro e w2 ⟨v,ok,x1,rfl,hE,hR,hb2⟩;have HR :Hid _ :=hR;clear hR;have b2 := (hb2.block _ (lt_of_block b1)).trans b1;obtain ⟨op,xv,xs,nmv,xn,ao,kk,c,rfl⟩ :=hE.shape;obtain ⟨xk,xi,xs2⟩ :=xv;obtain ⟨⟨r0,r1,r2,r3,r4,r5,r6,r7⟩,f0,f1,f2,f3,f4,f5,f6,f7⟩ :=Ca b2)))
 obtain ⟨hN,hBN⟩ :=Ih (w1 :=w1) (hb0.trans (hb1.mono hb0.size)) (by have :=HWs.out;have := (hb0.trans (hb1.mono hb0.size)).size;have :=hb1.size;omega) hb2 hE
 exact bodyPost_ret (v := .tuple #[.agg #[.int .i64 op, .int .i64 xk, .int .i64 xi, .string xs2, .string xs, .string nmv, .int .i64 xn, .slice ao kk c], .bool ok]) (by simp [results,Tryz.results114,go_sem,r0,r1,r2,r3,r4,r5,r6,r7]) rfl ⟨_,_,_,rfl,hN,(Aci HG.out HRN.out (Acj HRG.out HRN.out) HR.out),hBN⟩
set_option maxRecDepth 100000 in
set_option maxHeartbeats 4000000 in
theorem Yg (d :Int) (hd :d≠0) (a x :Wd) (hm :a≠Bd) (sl :Value) (w :World) (hL :Ak w sl [a,x]) :
  Calls Tryz.prog 114 #[sl, .int .i64 d] w (Bj (none) w) :=by
 have hd0 : (d==0) =false :=by simpa using hd
 generalize hW :w.alloc (.cells Ap 37) =W
 have HW :Hid _ :=hW
 have hb0 :Below w.heap.size w W :=by rw [←hW];exact (Below.refl _ _).alloc (Nat.le_refl _) _
 have b0 :W.heap[w.heap.size]? =some (.cells Ap 37) :=by rw [←hW];exact Ad w _
 have HWs :Hid (W.heap.size=w.heap.size+1) :=by rw [Hid,←hW];exact World.size_alloc _ _
 clear hW
 obtain ⟨b,off,cap,rfl,hcap,hcell⟩ :=A0 (hL.below hb0) (by simp)
 have c0 :W.cell? ⟨b,off,none⟩ =some (.string a) :=hcell 0 _ rfl
 have c1 :W.cell? ⟨b,off+1,none⟩ =some (.string x) :=hcell 1 _ rfl
 obtain ⟨hblw,_,_,hcw⟩ :=A7 hL (by simp)
 have _ :Hid (∀V,Below w.heap.size w V→V.cell? ⟨b,off,none⟩ =some (.string a) ∧V.cell? ⟨b,off+1,none⟩ =some (.string x)) :=fun V h=> ⟨(h.cell (p := ⟨b,off,none⟩) hblw).trans (hcw 0 _ rfl),(h.cell (p := ⟨b,off+1,none⟩) hblw).trans (hcw 1 _ rfl)⟩
 clear hcw hblw
 clear hcell hcap
 simp only [List.length_cons,List.length_nil,Nat.zero_add,Nat.reduceAdd] at*
 obtain ⟨⟨r0,r1,r2,r3,r4,r5,r6,r7⟩,f0,f1,f2,f3,f4,f5,f6,f7⟩ :=Ca b0
 have hm0 : (a.toList== [45]) =false :=by rw [An];simpa using hm
 clear hL
 go_enter Tryz.func114,Tryz.ntmps114
 go_upto_region 5 with fail
 rw [HW.out]
 go_cut [24] from 25 (fun s24 wx=>s24= .bool false∧wx=W)
 case first=>
  by_cases hop :a=As
  ·have hbx : (a.toList== [40]) =true :=by rw [An];simpa using hop
   by_cases hcl :x=Aq
   ·have hby : (x.toList== [41]) =true :=by rw [An];simpa using hcl
    go_wp2_with fail
    go_meet
    case rel=>exact ⟨rfl,rfl⟩
   ·have hby : (x.toList== [41]) =false :=by rw [An];simpa using hcl
    go_wp2_with fail
    go_meet
    case rel=>exact ⟨rfl,rfl⟩
  ·have hbx : (a.toList== [40]) =false :=by rw [An];simpa using hop
   go_wp2_with fail
   go_meet
   case rel=>exact ⟨rfl,rfl⟩
 case rest=>
  obtain ⟨rfl,hwc⟩ :=hcut
  rw [hwc]
  clear hwc
  go_wp2_with fail
  exact bodyPost_ret (v := .tuple #[.agg (A2 0 zero noW noW 0 (.slice none 0 0)), .bool false]) (by simp [results,Tryz.results114,go_sem,r0,r1,r2,r3,r4,r5,r6,r7];exact ⟨rfl,rfl,rfl⟩) rfl ⟨_,_,_,rfl,Dy _ _,rfl,Bk hb0 (Nat.le_refl _) _ _ _ _ _ _ _ _⟩
end Go.Proofs.YtifjaegfpdjikaaGreatDoor

