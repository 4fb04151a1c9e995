/- Words and laws for the statement, part 8. -/
import Derived.Test.YtcibjcgipfpniaaGreatDoorG01
import Derived.Test.YtcibjcgipfpniaaGreatDoorG07
namespace Go.Proofs.YtcibjcgipfpniaaGreatDoor
open Go.RowKit

theorem num_low (y:Nat) (hy:1≤y):365*(y - 1)≤num y 1 1:=by
 induction y with
 | zero=>omega
 | succ k ih =>
  by_cases hk:k=0
  ·subst hk;omega
  ·have:=ih (by omega)
   have:=num_year k (by omega)
   split at this <;> omega
theorem year_more (y:Nat) (hy:1≤y) (h:leap y=true):num (y+1) 1 1=num y 1 1+366:=by
 have:=num_year y hy
 rw [if_pos h] at this;exact this
theorem year_less (y:Nat) (hy:1≤y) (h:leap y=false):num (y+1) 1 1=num y 1 1+365:=by
 have:=num_year y hy
 rw [if_neg (by simp [h])] at this;exact this

set_option maxRecDepth 100000 in
set_option maxHeartbeats 20000000 in
theorem date'_yes (w:World) (t:Int) (h0:-631152000≤t) (h1:t≤253402300799) (x:Parts6) (hx:IsDate t x) :
  Calls Tryz.prog 86 #[.int .i64 t] w fun e w'=>e = .returned (.agg x.vals)∧Below w.heap.size w w':=by
 have n0:num 1950 1 1=712163:=by decide +kernel
 have htot:=hx.tot
 have b1:=hx.h23
 have b2:=hx.i59
 have b3:=hx.s59
 obtain ⟨T,hT⟩:∃ T:Nat,t+631152000=(T:Int):=⟨(t+631152000).toNat,by omega⟩
 have hTl:T≤254033452799:=by omega
 have hn:T / 86400+712163=num x.y x.m x.d:=by omega
 have hS:T % 86400=x.h*3600+x.i*60+x.s:=by omega
 have HT:=Lib.hid hT
 have HN:=Lib.hid hn
 have HS:=Lib.hid hS
 have HX:=Lib.hid hx
 have HN0:=Lib.hid n0
 clear hT hn hS htot hx n0
 go_enter Tryz.func86,Tryz.ntmps86
 go_wp2_with fail
 refine (is'_yes _ t h0 h1).mono ?_
 rintro e w1 ⟨rfl,rfl⟩
 go_wp2_with fail
 rw [HT.out]
 go_loop [3,5] (fun s v=>∃ d y:Nat,s = .int .i64 d∧v = .int .i64 y∧1950≤y∧y≤20000∧d≤3000000∧Hid (num y 1 1+d=T / 86400+712163)) (fun s _=>(intOf s).toNat)
 case atStart=>exact ⟨T / 86400,1950,by go_num,rfl,by omega,by omega,by omega,by rw [HN0.out];exact Nat.add_comm _ _⟩
 case round =>
  obtain ⟨d,y,rfl,rfl,hy,hy2,hd,Hn⟩:=hrel
  have hy3:y≤10100:=by
   have:=num_low y (by omega)
   have:=Hn.out
   omega
  cases hl:leap y
  ·have HL:=Lib.hid hl
   have HY:=Lib.hid (year_less y (by omega) hl)
   clear hl
   by_cases h365:365≤d
   ·by_cases h366:366≤d
    ·go_wp2_with fail
     refine (long_any _ y (by omega) false HL.out).mono ?_
     rintro e w1 ⟨rfl,rfl⟩
     go_wp2_with fail
     go_round
     case rel=>exact ⟨d - 365,y+1,by go_num,by go_num,by omega,by omega,by omega,by show _=_;rw [HY.out,←Hn.out];omega⟩
     case measure=>simp [intOf];omega
    ·have hf:decide (366≤(d:Int))=false:=decide_eq_false (by omega)
     go_wp2_with fail
     refine (long_any _ y (by omega) false HL.out).mono ?_
     rintro e w1 ⟨rfl,rfl⟩
     go_wp2_with fail
     refine (long_any _ y (by omega) false HL.out).mono ?_
     rintro e w1 ⟨rfl,rfl⟩
     go_wp2_with fail
     go_round
     case rel=>exact ⟨d - 365,y+1,by go_num,by go_num,by omega,by omega,by omega,by show _=_;rw [HY.out,←Hn.out];omega⟩
     case measure=>simp [intOf];omega
   ·have hf:decide (366≤(d:Int))=false:=decide_eq_false (by omega)
    have hf2:decide (365≤(d:Int))=false:=decide_eq_false (by omega)
    have Hend:=Lib.hid (show num y 1 1+d<num (y+1) 1 1 by rw [HY.out];omega)
    go_wp2_with fail
    go_loopw [3,6] (fun s v wr=>∃ d' m:Nat,s = .int .i64 d'∧v = .int .i64 m∧1≤m∧m≤12∧d'≤366∧Hid (num y m 1+d'=T / 86400+712163)∧Holds wr w.heap.size 108 #[.int .i64 0,.int .i64 0,.int .i64 0,.int .i64 0,.int .i64 0,.int .i64 0]∧Below w.heap.size w wr) (fun s _ _=>(intOf s).toNat)
    case atStart=>exact ⟨d,1,rfl,rfl,by omega,by omega,by omega,Hn,Holds.fresh _ _ _,(Below.refl _ _).alloc (Nat.le_refl _) _⟩
    case round =>
     obtain ⟨d',m,rfl,rfl,hm1,hm12,hd',Hm,hB,hbel⟩:=hrel
     obtain ⟨W,hW⟩:∃ W,W=wr:=⟨_,rfl⟩
     subst hW
     have hlt:=hB.lt
     have hdim:=dim_le y m
     by_cases hge:dim y m≤d'
     ·have hm:m≤11:=by
       rcases Nat.lt_or_ge m 12 with h | h
       ·omega
       ·obtain rfl:m=12:=by omega
        have a1:=num_dec y (by omega)
        have a2:dim y 12=31:=rfl
        have a3:=Hend.out
        have a4:=Hm.out
        have a5:=Hn.out
        omega
      have HM:=Lib.hid (num_next y m (by omega) hm1 hm)
      obtain ⟨D,HD⟩:∃ D,Hid (D=dim y m):=⟨_,rfl⟩
      rw [←HD.out] at hge hdim HM
      have hge2:(D:Int)≤(d':Int):=by omega
      go_wp2_with fail
      refine (days'_any _ y m (by omega) hm1 hm12 D HD.out.symm).mono ?_
      rintro e w1 ⟨rfl,hb1⟩
      have hB1:=hB.under hb1 hlt
      have hbel1:=hbel.trans (hb1.mono (Nat.le_of_lt hlt))
      have hlt1:=hB1.lt
      go_wp2_with fail
      refine (days'_any _ y m (by omega) hm1 hm12 D HD.out.symm).mono ?_
      rintro e w2 ⟨rfl,hb2⟩
      have hB2:=hB1.under hb2 hlt1
      have hbel2:=hbel1.trans (hb2.mono (Nat.le_of_lt hlt1))
      go_wp2_with fail
      go_roundw
      case rel=>exact ⟨d' - D,m+1,by go_num,by go_num,by omega,by omega,by omega,by show _=_;rw [HM.out,←Hm.out];omega,hB2,hbel2⟩
      case measure=>simp [intOf];omega
     ·obtain ⟨D,HD⟩:∃ D,Hid (D=dim y m):=⟨_,rfl⟩
      have hv:IsDate t ⟨y,m,d' + 1,T % 86400 / 3600,T % 86400 / 60 % 60,T % 86400 % 60⟩:=by
       have a4:=Hm.out
       have a6:=num_day y m (d'+1) (by omega)
       have a7:=HT.out
       have a8:=num_in (y:=y) (m:=m) (d:=d'+1) ⟨by omega,hm1,hm12,by omega,by omega⟩
       refine ⟨⟨by show 1≤y;omega,hm1,hm12,by show 1≤d' + 1;omega,by show d' + 1≤dim y m;omega⟩,by show T % 86400 / 3600≤23;omega,by show T % 86400 / 60 % 60≤59;omega,by show T % 86400 % 60≤59;omega,?_,hy,?_⟩
       ·show y≤9999
        have e2:num 10000 1 1=3652365:=by decide +kernel
        rcases Nat.lt_or_ge 9999 y with h | h
        ·have:=num_mono_year (y:=10000) (y':=y) (by omega) (by omega)
         omega
        ·exact h
       ·show _=(num y m (d'+1):Int)*86400+((T % 86400 / 3600*3600+T % 86400 / 60 % 60*60+T % 86400 % 60:Nat):Int)
        rw [a6]
        have e:num y m 1+(d' + 1 - 1)=T / 86400+712163:=by omega
        rw [e]
        clear a6 a8 a4 e
        omega
      have Hv:=Lib.hid (IsDate.same HX.out hv)
      clear hv
      rw [←HD.out] at hge hdim
      have hge2:(d':Int)<(D:Int):=by omega
      go_wp2_with fail
      refine (days'_any _ y m (by omega) hm1 hm12 D HD.out.symm).mono ?_
      rintro e w1 ⟨rfl,hb1⟩
      have hB1:=hB.under hb1 hlt
      have hbel1:=hbel.trans (hb1.mono (Nat.le_of_lt hlt))
      have hc:=hB1.cell
      have hf:=hB1.open_
      go_wp2_with fail
      refine bodyPost_ret (v:=.agg #[.int .i64 y,.int .i64 m,.int .i64 ((d':Int)+1),.int .i64 ((T:Int) % 86400 / 3600),.int .i64 ((T:Int) % 86400 / 60 % 60),.int .i64 ((T:Int) % 86400 % 60)]) (by simp [results,Tryz.results86,go_sem,hc]) rfl ⟨congrArg Ending.returned ?_,?_⟩
      ·rw [Hv.out]
       exact six_agg rfl rfl (by show _=((d' + 1:Nat):Int);omega) (by show _=((T % 86400 / 3600:Nat):Int);omega) (by show _=((T % 86400 / 60 % 60:Nat):Int);omega) (by show _=((T % 86400 % 60:Nat):Int);omega)
      ·repeat (first | exact hbel1 | refine Below.setCell ?_ (by simp) _)
  ·have HL:=Lib.hid hl
   have HY:=Lib.hid (year_more y (by omega) hl)
   clear hl
   by_cases h366:366≤d
   ·go_wp2_with fail
    refine (long_any _ y (by omega) true HL.out).mono ?_
    rintro e w1 ⟨rfl,rfl⟩
    go_wp2_with fail
    go_round
    case rel=>exact ⟨d - 366,y+1,by go_num,by go_num,by omega,by omega,by omega,by show _=_;rw [HY.out,←Hn.out];omega⟩
    case measure=>simp [intOf];omega
   ·have hf:decide (366≤(d:Int))=false:=decide_eq_false (by omega)
    have Hend:=Lib.hid (show num y 1 1+d<num (y+1) 1 1 by rw [HY.out];omega)
    by_cases h365:365≤d
    ·go_wp2_with fail
     refine (long_any _ y (by omega) true HL.out).mono ?_
     rintro e w1 ⟨rfl,rfl⟩
     go_wp2_with fail
     go_loopw [3,6] (fun s v wr=>∃ d' m:Nat,s = .int .i64 d'∧v = .int .i64 m∧1≤m∧m≤12∧d'≤366∧Hid (num y m 1+d'=T / 86400+712163)∧Holds wr w.heap.size 108 #[.int .i64 0,.int .i64 0,.int .i64 0,.int .i64 0,.int .i64 0,.int .i64 0]∧Below w.heap.size w wr) (fun s _ _=>(intOf s).toNat)
     case atStart=>exact ⟨d,1,rfl,rfl,by omega,by omega,by omega,Hn,Holds.fresh _ _ _,(Below.refl _ _).alloc (Nat.le_refl _) _⟩
     case round =>
      obtain ⟨d',m,rfl,rfl,hm1,hm12,hd',Hm,hB,hbel⟩:=hrel
      obtain ⟨W,hW⟩:∃ W,W=wr:=⟨_,rfl⟩
      subst hW
      have hlt:=hB.lt
      have hdim:=dim_le y m
      by_cases hge:dim y m≤d'
      ·have hm:m≤11:=by
        rcases Nat.lt_or_ge m 12 with h | h
        ·omega
        ·obtain rfl:m=12:=by omega
         have a1:=num_dec y (by omega)
         have a2:dim y 12=31:=rfl
         have a3:=Hend.out
         have a4:=Hm.out
         have a5:=Hn.out
         omega
       have HM:=Lib.hid (num_next y m (by omega) hm1 hm)
       obtain ⟨D,HD⟩:∃ D,Hid (D=dim y m):=⟨_,rfl⟩
       rw [←HD.out] at hge hdim HM
       have hge2:(D:Int)≤(d':Int):=by omega
       go_wp2_with fail
       refine (days'_any _ y m (by omega) hm1 hm12 D HD.out.symm).mono ?_
       rintro e w1 ⟨rfl,hb1⟩
       have hB1:=hB.under hb1 hlt
       have hbel1:=hbel.trans (hb1.mono (Nat.le_of_lt hlt))
       have hlt1:=hB1.lt
       go_wp2_with fail
       refine (days'_any _ y m (by omega) hm1 hm12 D HD.out.symm).mono ?_
       rintro e w2 ⟨rfl,hb2⟩
       have hB2:=hB1.under hb2 hlt1
       have hbel2:=hbel1.trans (hb2.mono (Nat.le_of_lt hlt1))
       go_wp2_with fail
       go_roundw
       case rel=>exact ⟨d' - D,m+1,by go_num,by go_num,by omega,by omega,by omega,by show _=_;rw [HM.out,←Hm.out];omega,hB2,hbel2⟩
       case measure=>simp [intOf];omega
      ·obtain ⟨D,HD⟩:∃ D,Hid (D=dim y m):=⟨_,rfl⟩
       have hv:IsDate t ⟨y,m,d' + 1,T % 86400 / 3600,T % 86400 / 60 % 60,T % 86400 % 60⟩:=by
        have a4:=Hm.out
        have a6:=num_day y m (d'+1) (by omega)
        have a7:=HT.out
        have a8:=num_in (y:=y) (m:=m) (d:=d'+1) ⟨by omega,hm1,hm12,by omega,by omega⟩
        refine ⟨⟨by show 1≤y;omega,hm1,hm12,by show 1≤d' + 1;omega,by show d' + 1≤dim y m;omega⟩,by show T % 86400 / 3600≤23;omega,by show T % 86400 / 60 % 60≤59;omega,by show T % 86400 % 60≤59;omega,?_,hy,?_⟩
        ·show y≤9999
         have e2:num 10000 1 1=3652365:=by decide +kernel
         rcases Nat.lt_or_ge 9999 y with h | h
         ·have:=num_mono_year (y:=10000) (y':=y) (by omega) (by omega)
          omega
         ·exact h
        ·show _=(num y m (d'+1):Int)*86400+((T % 86400 / 3600*3600+T % 86400 / 60 % 60*60+T % 86400 % 60:Nat):Int)
         rw [a6]
         have e:num y m 1+(d' + 1 - 1)=T / 86400+712163:=by omega
         rw [e]
         clear a6 a8 a4 e
         omega
       have Hv:=Lib.hid (IsDate.same HX.out hv)
       clear hv
       rw [←HD.out] at hge hdim
       have hge2:(d':Int)<(D:Int):=by omega
       go_wp2_with fail
       refine (days'_any _ y m (by omega) hm1 hm12 D HD.out.symm).mono ?_
       rintro e w1 ⟨rfl,hb1⟩
       have hB1:=hB.under hb1 hlt
       have hbel1:=hbel.trans (hb1.mono (Nat.le_of_lt hlt))
       have hc:=hB1.cell
       have hf:=hB1.open_
       go_wp2_with fail
       refine bodyPost_ret (v:=.agg #[.int .i64 y,.int .i64 m,.int .i64 ((d':Int)+1),.int .i64 ((T:Int) % 86400 / 3600),.int .i64 ((T:Int) % 86400 / 60 % 60),.int .i64 ((T:Int) % 86400 % 60)]) (by simp [results,Tryz.results86,go_sem,hc]) rfl ⟨congrArg Ending.returned ?_,?_⟩
       ·rw [Hv.out]
        exact six_agg rfl rfl (by show _=((d' + 1:Nat):Int);omega) (by show _=((T % 86400 / 3600:Nat):Int);omega) (by show _=((T % 86400 / 60 % 60:Nat):Int);omega) (by show _=((T % 86400 % 60:Nat):Int);omega)
       ·repeat (first | exact hbel1 | refine Below.setCell ?_ (by simp) _)
    ·have hf2:decide (365≤(d:Int))=false:=decide_eq_false (by omega)
     go_wp2_with fail
     go_loopw [3,6] (fun s v wr=>∃ d' m:Nat,s = .int .i64 d'∧v = .int .i64 m∧1≤m∧m≤12∧d'≤366∧Hid (num y m 1+d'=T / 86400+712163)∧Holds wr w.heap.size 108 #[.int .i64 0,.int .i64 0,.int .i64 0,.int .i64 0,.int .i64 0,.int .i64 0]∧Below w.heap.size w wr) (fun s _ _=>(intOf s).toNat)
     case atStart=>exact ⟨d,1,rfl,rfl,by omega,by omega,by omega,Hn,Holds.fresh _ _ _,(Below.refl _ _).alloc (Nat.le_refl _) _⟩
     case round =>
      obtain ⟨d',m,rfl,rfl,hm1,hm12,hd',Hm,hB,hbel⟩:=hrel
      obtain ⟨W,hW⟩:∃ W,W=wr:=⟨_,rfl⟩
      subst hW
      have hlt:=hB.lt
      have hdim:=dim_le y m
      by_cases hge:dim y m≤d'
      ·have hm:m≤11:=by
        rcases Nat.lt_or_ge m 12 with h | h
        ·omega
        ·obtain rfl:m=12:=by omega
         have a1:=num_dec y (by omega)
         have a2:dim y 12=31:=rfl
         have a3:=Hend.out
         have a4:=Hm.out
         have a5:=Hn.out
         omega
       have HM:=Lib.hid (num_next y m (by omega) hm1 hm)
       obtain ⟨D,HD⟩:∃ D,Hid (D=dim y m):=⟨_,rfl⟩
       rw [←HD.out] at hge hdim HM
       have hge2:(D:Int)≤(d':Int):=by omega
       go_wp2_with fail
       refine (days'_any _ y m (by omega) hm1 hm12 D HD.out.symm).mono ?_
       rintro e w1 ⟨rfl,hb1⟩
       have hB1:=hB.under hb1 hlt
       have hbel1:=hbel.trans (hb1.mono (Nat.le_of_lt hlt))
       have hlt1:=hB1.lt
       go_wp2_with fail
       refine (days'_any _ y m (by omega) hm1 hm12 D HD.out.symm).mono ?_
       rintro e w2 ⟨rfl,hb2⟩
       have hB2:=hB1.under hb2 hlt1
       have hbel2:=hbel1.trans (hb2.mono (Nat.le_of_lt hlt1))
       go_wp2_with fail
       go_roundw
       case rel=>exact ⟨d' - D,m+1,by go_num,by go_num,by omega,by omega,by omega,by show _=_;rw [HM.out,←Hm.out];omega,hB2,hbel2⟩
       case measure=>simp [intOf];omega
      ·obtain ⟨D,HD⟩:∃ D,Hid (D=dim y m):=⟨_,rfl⟩
       have hv:IsDate t ⟨y,m,d' + 1,T % 86400 / 3600,T % 86400 / 60 % 60,T % 86400 % 60⟩:=by
        have a4:=Hm.out
        have a6:=num_day y m (d'+1) (by omega)
        have a7:=HT.out
        have a8:=num_in (y:=y) (m:=m) (d:=d'+1) ⟨by omega,hm1,hm12,by omega,by omega⟩
        refine ⟨⟨by show 1≤y;omega,hm1,hm12,by show 1≤d' + 1;omega,by show d' + 1≤dim y m;omega⟩,by show T % 86400 / 3600≤23;omega,by show T % 86400 / 60 % 60≤59;omega,by show T % 86400 % 60≤59;omega,?_,hy,?_⟩
        ·show y≤9999
         have e2:num 10000 1 1=3652365:=by decide +kernel
         rcases Nat.lt_or_ge 9999 y with h | h
         ·have:=num_mono_year (y:=10000) (y':=y) (by omega) (by omega)
          omega
         ·exact h
        ·show _=(num y m (d'+1):Int)*86400+((T % 86400 / 3600*3600+T % 86400 / 60 % 60*60+T % 86400 % 60:Nat):Int)
         rw [a6]
         have e:num y m 1+(d' + 1 - 1)=T / 86400+712163:=by omega
         rw [e]
         clear a6 a8 a4 e
         omega
       have Hv:=Lib.hid (IsDate.same HX.out hv)
       clear hv
       rw [←HD.out] at hge hdim
       have hge2:(d':Int)<(D:Int):=by omega
       go_wp2_with fail
       refine (days'_any _ y m (by omega) hm1 hm12 D HD.out.symm).mono ?_
       rintro e w1 ⟨rfl,hb1⟩
       have hB1:=hB.under hb1 hlt
       have hbel1:=hbel.trans (hb1.mono (Nat.le_of_lt hlt))
       have hc:=hB1.cell
       have hf:=hB1.open_
       go_wp2_with fail
       refine bodyPost_ret (v:=.agg #[.int .i64 y,.int .i64 m,.int .i64 ((d':Int)+1),.int .i64 ((T:Int) % 86400 / 3600),.int .i64 ((T:Int) % 86400 / 60 % 60),.int .i64 ((T:Int) % 86400 % 60)]) (by simp [results,Tryz.results86,go_sem,hc]) rfl ⟨congrArg Ending.returned ?_,?_⟩
       ·rw [Hv.out]
        exact six_agg rfl rfl (by show _=((d' + 1:Nat):Int);omega) (by show _=((T % 86400 / 3600:Nat):Int);omega) (by show _=((T % 86400 / 60 % 60:Nat):Int);omega) (by show _=((T % 86400 % 60:Nat):Int);omega)
       ·repeat (first | exact hbel1 | refine Below.setCell ?_ (by simp) _)
end Go.Proofs.YtcibjcgipfpniaaGreatDoor
