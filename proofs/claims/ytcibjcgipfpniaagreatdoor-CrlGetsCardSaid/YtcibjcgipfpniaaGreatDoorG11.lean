/- Words and laws for the statement, part 11. -/
import Derived.Test.YtcibjcgipfpniaaGreatDoorG10
namespace Go.Proofs.YtcibjcgipfpniaaGreatDoor
open Go.RowKit BigFrame
set_option linter.unusedVariables false
set_option linter.unusedSimpArgs false
attribute [local go_sem ↓] Go.wp_at_zero Go.wp_at_succ

set_option maxRecDepth 100000 in
theorem u8and7:∀ X:Fin 256,bits .and .u8 ((X.val:Nat):Int) 7=((X.val % 8:Nat):Int):=by decide
set_option maxRecDepth 1000000 in
set_option maxHeartbeats 16000000 in
theorem valid_any (w:World) (B:Nat) (A:Option Addr) (c n:Nat) (l:List Nat) (hr:Rd .u8 w B A c l) (hn:l.length=n) (hB:B≤w.heap.size) (ho:∀ x∈l,x<256) (hT:Lib.Utf8Tabs 0 1 w) :
  Calls Tryz.prog 104 #[.slice A n c] w fun e w'=>e = .returned (.bool (vd l))∧Below w.heap.size w w':=by
 have mixed:Tryz.prog.follows Departure.mixedOrders=true:=by kernel_rfl
 have hc:=hr.1
 obtain ⟨A0,hs0,hm0⟩:=Mem8.start hr hn hB ho
 obtain ⟨r,hr0⟩:∃ r,vd l=r:=⟨_,rfl⟩
 rw [hr0]
 have HM0:=Lib.hid hm0
 have HR0:=Lib.hid hr0
 have HT:=Lib.hid hT
 rw [hn] at hc
 clear hr hB ho hm0 hr0 hT hn
 go_enter Tryz.func104,Tryz.ntmps104
 go_wp2_with fail
 go_loopg [0] (n+1) (fun gk s0 wx=>Below w.heap.size w wx∧∃ (A:Option Addr) (k:Nat) (t:List Nat),s0 = .slice A k k∧Hid (Mem8 w A k t)∧Hid (vd t=r)∧k<gk∧k≤n)
 case atStart=>exact ⟨Below.refl _ _,A0,n,l,rfl,HM0,HR0,by omega,Nat.le_refl _⟩
 case round =>
  obtain ⟨hbw,A,k,t,rfl,HM,HV,hg,hkn⟩:=hrel
  have HB:=Lib.hid hbw
  clear hbw HM0 HR0
  by_cases h0:0<k
  case neg =>
   obtain rfl:k=0:=by omega
   have ht:t=[]:=List.eq_nil_of_length_eq_zero HM.out.1
   have hr:r=true:=by rw [←HV.out,ht,vd_nil]
   have d0:decide ((0:Int)<(0:Int))=false:=rfl
   subst hr
   go_wp2_with fail
   go_ret
   exact ⟨rfl,HB.out⟩
  case pos =>
   obtain ⟨g',rfl⟩:∃ g',gk=g' + 1:=⟨gk - 1,by omega⟩
   obtain ⟨b,off,rfl,hcell⟩:=HM.out.at_ h0
   have HC:=Lib.hid hcell
   have c0:=hcell wr HB.out 0 h0
   rw [Nat.add_zero] at c0
   clear hcell
   have h0z:(0:Int)<(k:Int):=by omega
   have hx0:=HM.out.2.2
   obtain ⟨x0,hx⟩:∃ x,x=t.getD 0 0:=⟨_,rfl⟩
   rw [←hx] at c0
   have HX:=Lib.hid hx
   clear hx hx0
   by_cases hasc:x0<128
   ·as_aux_lemma =>
    have hascz:(x0:Int)<128:=by omega
    obtain ⟨A1,k1,hs1,HM1,hk1⟩:=HM.out.cut 1 1 rfl (by omega) h0
    have HV1:Hid (vd (t.drop 1)=r):=Lib.hid (by
     rw [vd_skip 1 t HM.out.2.2 (fun x hx=>?_)]
     ·exact HV.out
     ·have h1:t.take 1=[t.getD 0 0]:=by
       rcases t with _ | ⟨y,t⟩
       ·have:=HM.out.1;simp at this;omega
       ·rfl
      rw [h1,←HX.out] at hx
      rw [List.mem_singleton.1 hx];exact hasc)
    obtain ⟨t1,ht1⟩:∃ t1,t1=t.drop 1:=⟨_,rfl⟩
    rw [←ht1] at HM1 HV1
    clear ht1 HV HM
    by_cases c8:8<k1
    case neg =>
     have c8z:decide ((8:Int)<(k1:Int))=false:=decide_eq_false (by omega)
     go_wp2_with fail
     go_roundg g'
     case measure=>omega
     case rel=>exact ⟨HB.out,A1,k1,t1,rfl,HM1,HV1,by omega,by omega⟩
    case pos =>
     have c8z:decide ((8:Int)<(k1:Int))=true:=decide_eq_true (by omega)
     have HW1:=Lib.hid (HM1.out.word (by omega) HB.out)
     have hand1:=mask_word (l:=t1) 0
     obtain ⟨Z1,hZ1⟩:∃ Z1,w8 t1 &&& 9259542123273814144=Z1:=⟨_,rfl⟩
     rw [hZ1] at hand1
     have HZ1:=Lib.hid hZ1
     generalize hq1:w8 t1=v1 at *
     clear hZ1
     by_cases hz1:Z1=0
     case neg =>
      have hz1b:((Z1:Int) == 0)=false:=by rw [beq_eq_false_iff_ne];omega
      go_wp2_with fail
      refine HW1.out.mono ?_
      rintro e W1 ⟨rfl,q1,rfl⟩
      have HB1:=Lib.hid (drawn_below HB.out q1)
      generalize wr.drewN q1=W1 at HB1 ⊢
      clear HW1
      go_wp2_with fail
      go_roundg g'
      case measure=>omega
      case rel=>exact ⟨HB1.out,A1,k1,t1,rfl,HM1,HV1,by omega,by omega⟩
     case pos =>
      have hz1b:((Z1:Int) == 0)=true:=by simp [hz1]
      obtain ⟨A2,k2,hs2,HM2,hk2⟩:=HM1.out.cut 8 8 rfl (by omega) (by omega)
      have HV2:Hid (vd (t1.drop 8)=r):=Lib.hid (by
       rw [vd_skip 8 t1 HM1.out.2.2 (w8_asc HM1.out.2.2 (by rw [HM1.out.1];omega) (by rw [hq1,HZ1.out,hz1]))]
       exact HV1.out)
      obtain ⟨t2,ht2⟩:∃ t2,t2=t1.drop 8:=⟨_,rfl⟩
      rw [←ht2] at HM2 HV2
      clear ht2 HV1 HM1 HZ1 hq1
      by_cases c16:16<k2
      case neg =>
       have c16z:decide ((16:Int)<(k2:Int))=false:=decide_eq_false (by omega)
       go_wp2_with fail
       refine HW1.out.mono ?_
       rintro e W1 ⟨rfl,q1,rfl⟩
       have HB1:=Lib.hid (drawn_below HB.out q1)
       generalize wr.drewN q1=W1 at HB1 ⊢
       clear HW1
       go_wp2_with fail
       go_big_quiet (fail)
       go_wp2_with fail
       go_roundg g'
       case measure=>omega
       case rel=>exact ⟨drawn_below HB1.out _,A2,k2,t2,rfl,HM2,HV2,by omega,by omega⟩
      case pos =>
       have c16z:decide ((16:Int)<(k2:Int))=true:=decide_eq_true (by omega)
       obtain ⟨A3,k3,hs3,HM3,hk3⟩:=HM2.out.cut 8 8 rfl (by omega) (by omega)
       have HW2:Hid (∀ W,Below w.heap.size w W→Calls Tryz.prog 129 #[.slice A2 k2 k2] W fun e w'=>e = .returned (.int .u64 (w8 t2:Int))∧∃ q,w'=W.drewN q):=Lib.hid fun W hW=>HM2.out.word (by omega) hW
       have HW3:Hid (∀ W,Below w.heap.size w W→Calls Tryz.prog 129 #[.slice A3 k3 k3] W fun e w'=>e = .returned (.int .u64 (w8 (t2.drop 8):Int))∧∃ q,w'=W.drewN q):=Lib.hid fun W hW=>HM3.out.word (by omega) hW
       have hor2:bits .or .u64 ((w8 t2:Nat):Int) ((w8 (t2.drop 8):Nat):Int)=((w8 t2 ||| w8 (t2.drop 8):Nat):Int):=u64_or_nat _ _ (w8_lt _) (w8_lt _)
       have hand2:bits .and .u64 ((w8 t2 ||| w8 (t2.drop 8):Nat):Int) 9259542123273814144=(((w8 t2 ||| w8 (t2.drop 8)) &&& 9259542123273814144:Nat):Int):=u64_and_nat _ 9259542123273814144 (Nat.or_lt_two_pow (n:=64) (w8_lt _) (w8_lt _)) (by omega)
       have HK2:Hid ((w8 t2 ||| w8 (t2.drop 8)) &&& 9259542123273814144=0→∀ x∈t2.take 16,x<128):=Lib.hid fun h=>by
        obtain ⟨e1,e2⟩:=(Lib.or_mask _ _ _).1 h
        exact asc_more (a:=8) (b:=8) (w8_asc HM2.out.2.2 (by rw [HM2.out.1];omega) e1) (w8_asc HM3.out.2.2 (by rw [HM3.out.1];omega) e2)
       generalize hg2:w8 t2=v2 at *
       generalize hg3:w8 (t2.drop 8)=v3 at *
       obtain ⟨O2,hO2⟩:∃ O2,v2 ||| v3=O2:=⟨_,rfl⟩
       rw [hO2] at hor2 hand2 HK2
       obtain ⟨Z2,hZ2⟩:∃ Z2,O2 &&& 9259542123273814144=Z2:=⟨_,rfl⟩
       rw [hZ2] at hand2 HK2
       clear hO2 hZ2 hg2 hg3
       go_wp2_with fail
       refine HW1.out.mono ?_
       rintro e W1 ⟨rfl,q1,rfl⟩
       have HB1:=Lib.hid (drawn_below HB.out q1)
       generalize wr.drewN q1=W1 at HB1 ⊢
       clear HW1
       by_cases hz2:Z2=0
       case neg =>
        have hz2b:((Z2:Int) == 0)=false:=by rw [beq_eq_false_iff_ne];omega
        go_wp2_with fail
        have cW2:∀ q,Calls Tryz.prog 129 #[.slice A2 k2 k2] (W1.drewN q) fun e w'=>e = .returned (.int .u64 (v2:Int))∧∃ q',w'=(W1.drewN q).drewN q':=fun q=>HW2.out _ (drawn_below HB1.out q)
        have cW3:∀ q,Calls Tryz.prog 129 #[.slice A3 k3 k3] (W1.drewN q) fun e w'=>e = .returned (.int .u64 (v3:Int))∧∃ q',w'=(W1.drewN q).drewN q':=fun q=>HW3.out _ (drawn_below HB1.out q)
        go_big_quiet ((first | (with_reducible exact Calls.quiet_of (cW2 _)) | (with_reducible exact Calls.quiet_of (cW3 _))))
        clear cW2 cW3
        go_wp2_with fail
        go_roundg g'
        case measure=>omega
        case rel=>exact ⟨drawn_below HB1.out _,A2,k2,t2,rfl,HM2,HV2,by omega,by omega⟩
       case pos =>
        have hz2b:((Z2:Int) == 0)=true:=by simp [hz2]
        obtain ⟨A4,k4,hs4,HM4,hk4⟩:=HM2.out.cut 16 16 rfl (by omega) (by omega)
        have HV4:Hid (vd (t2.drop 16)=r):=Lib.hid (by
         rw [vd_skip 16 t2 HM2.out.2.2 (HK2.out hz2)]
         exact HV2.out)
        obtain ⟨t4,ht4⟩:∃ t4,t4=t2.drop 16:=⟨_,rfl⟩
        rw [←ht4] at HM4 HV4
        clear ht4 HV2 HK2
        go_wp2_with fail
        have cW2:∀ q,Calls Tryz.prog 129 #[.slice A2 k2 k2] (W1.drewN q) fun e w'=>e = .returned (.int .u64 (v2:Int))∧∃ q',w'=(W1.drewN q).drewN q':=fun q=>HW2.out _ (drawn_below HB1.out q)
        have cW3:∀ q,Calls Tryz.prog 129 #[.slice A3 k3 k3] (W1.drewN q) fun e w'=>e = .returned (.int .u64 (v3:Int))∧∃ q',w'=(W1.drewN q).drewN q':=fun q=>HW3.out _ (drawn_below HB1.out q)
        go_big_quiet ((first | (with_reducible exact Calls.quiet_of (cW2 _)) | (with_reducible exact Calls.quiet_of (cW3 _))))
        clear cW2 cW3
        have HB2:=Lib.hid (drawn_below HB1.out nq)
        generalize W1.drewN nq=W2 at HB2 ⊢
        clear HW2 HW3 HB1 HB hor2 hand2 hand1 HM2 HM3 hs1 hs2 hs3 c0 HC
        go_wp2_with fail
        go_loopg [0] (k4+1) (fun g2 s0 wx=>Below w.heap.size w wx∧∃ (A:Option Addr) (k:Nat) (t:List Nat),s0 = .slice A k k∧Hid (Mem8 w A k t)∧Hid (vd t=r)∧k<g2∧k≤k4)
        case atStart=>exact ⟨HB2.out,A4,k4,t4,rfl,HM4,HV4,by omega,Nat.le_refl _⟩
        case round =>
         obtain ⟨hbu,A5,k5,t5,rfl,HM5,HV5,hg5,hk5⟩:=hrel
         have HB5:=Lib.hid hbu
         clear hbu HM4 HV4 HB2 hs4
         obtain ⟨W5,hW5⟩:∃ W5,W5=wr:=⟨_,rfl⟩
         by_cases c32:32<k5
         case neg =>
          have c32z:decide ((32:Int)<(k5:Int))=false:=decide_eq_false (by omega)
          rw [←hW5] at HB5 ⊢
          clear hW5
          go_wp2_with fail
          go_big_quiet (fail)
          go_wp2_with fail
          go_roundg g'
          case measure=>omega
          case rel=>exact ⟨drawn_below HB5.out _,A5,k5,t5,rfl,HM5,HV5,by omega,by omega⟩
         case pos =>
          obtain ⟨g3,rfl⟩:∃ g3,gk=g3+1:=⟨gk - 1,by omega⟩
          have c32z:decide ((32:Int)<(k5:Int))=true:=decide_eq_true (by omega)
          obtain ⟨A6,k6,hs6,HM6,hk6⟩:=HM5.out.cut 8 8 rfl (by omega) (by omega)
          obtain ⟨A7,k7,hs7,HM7,hk7⟩:=HM5.out.cut 16 16 rfl (by omega) (by omega)
          obtain ⟨A8,k8,hs8,HM8,hk8⟩:=HM5.out.cut 24 24 rfl (by omega) (by omega)
          have HW5:Hid (∀ W,Below w.heap.size w W→Calls Tryz.prog 129 #[.slice A5 k5 k5] W fun e w'=>e = .returned (.int .u64 (w8 t5:Int))∧∃ q,w'=W.drewN q):=Lib.hid fun W hW=>HM5.out.word (by omega) hW
          have HW6:Hid (∀ W,Below w.heap.size w W→Calls Tryz.prog 129 #[.slice A6 k6 k6] W fun e w'=>e = .returned (.int .u64 (w8 (t5.drop 8):Int))∧∃ q,w'=W.drewN q):=Lib.hid fun W hW=>HM6.out.word (by omega) hW
          have HW7:Hid (∀ W,Below w.heap.size w W→Calls Tryz.prog 129 #[.slice A7 k7 k7] W fun e w'=>e = .returned (.int .u64 (w8 (t5.drop 16):Int))∧∃ q,w'=W.drewN q):=Lib.hid fun W hW=>HM7.out.word (by omega) hW
          have HW8:Hid (∀ W,Below w.heap.size w W→Calls Tryz.prog 129 #[.slice A8 k8 k8] W fun e w'=>e = .returned (.int .u64 (w8 (t5.drop 24):Int))∧∃ q,w'=W.drewN q):=Lib.hid fun W hW=>HM8.out.word (by omega) hW
          have l5:=w8_lt t5
          have l6:=w8_lt (t5.drop 8)
          have l7:=w8_lt (t5.drop 16)
          have l8:=w8_lt (t5.drop 24)
          have HK5:Hid (((w8 t5 ||| w8 (t5.drop 8)) ||| (w8 (t5.drop 16) ||| w8 (t5.drop 24))) &&& 9259542123273814144=0→∀ x∈t5.take 32,x<128):=Lib.hid fun h=>by
           have h:((w8 t5 ||| w8 (t5.drop 8)) ||| (w8 (t5.drop 16) ||| w8 (t5.drop 24))) &&& 9259542123273814144=0:=h
           obtain ⟨e01,e23⟩:=(Lib.or_mask _ _ _).1 h
           obtain ⟨e0,e1⟩:=(Lib.or_mask _ _ _).1 e01
           obtain ⟨e2,e3⟩:=(Lib.or_mask _ _ _).1 e23
           have s8:=w8_asc HM5.out.2.2 (by rw [HM5.out.1];omega) e0
           have s16:=asc_more (a:=8) (b:=8) s8 (w8_asc HM6.out.2.2 (by rw [HM6.out.1];omega) e1)
           have s24:=asc_more (a:=16) (b:=8) s16 (w8_asc HM7.out.2.2 (by rw [HM7.out.1];omega) e2)
           exact asc_more (a:=24) (b:=8) s24 (w8_asc HM8.out.2.2 (by rw [HM8.out.1];omega) e3)
          generalize hg5':w8 t5=v5 at *
          generalize hg6:w8 (t5.drop 8)=v6 at *
          generalize hg7:w8 (t5.drop 16)=v7 at *
          generalize hg8:w8 (t5.drop 24)=v8 at *
          have ho1:bits .or .u64 (v5:Int) (v6:Int)=((v5 ||| v6:Nat):Int):=u64_or_nat _ _ l5 l6
          have ho2:bits .or .u64 (v7:Int) (v8:Int)=((v7 ||| v8:Nat):Int):=u64_or_nat _ _ l7 l8
          have lo1:v5 ||| v6<18446744073709551616:=Nat.or_lt_two_pow (n:=64) l5 l6
          have lo2:v7 ||| v8<18446744073709551616:=Nat.or_lt_two_pow (n:=64) l7 l8
          have ho3:bits .or .u64 ((v5 ||| v6:Nat):Int) ((v7 ||| v8:Nat):Int)=(((v5 ||| v6) ||| (v7 ||| v8):Nat):Int):=u64_or_nat _ _ lo1 lo2
          have lo3:(v5 ||| v6) ||| (v7 ||| v8)<18446744073709551616:=Nat.or_lt_two_pow (n:=64) lo1 lo2
          have hand3:bits .and .u64 (((v5 ||| v6) ||| (v7 ||| v8):Nat):Int) 9259542123273814144=((((v5 ||| v6) ||| (v7 ||| v8)) &&& 9259542123273814144:Nat):Int):=u64_and_nat _ 9259542123273814144 lo3 (by omega)
          obtain ⟨P1,hP1⟩:∃ P1,v5 ||| v6=P1:=⟨_,rfl⟩
          obtain ⟨P2,hP2⟩:∃ P2,v7 ||| v8=P2:=⟨_,rfl⟩
          rw [hP1,hP2] at ho3 hand3 HK5
          rw [hP1] at ho1
          rw [hP2] at ho2
          obtain ⟨P3,hP3⟩:∃ P3,P1 ||| P2=P3:=⟨_,rfl⟩
          rw [hP3] at ho3 hand3 HK5
          obtain ⟨Z3,hZ3⟩:∃ Z3,P3 &&& 9259542123273814144=Z3:=⟨_,rfl⟩
          rw [hZ3] at hand3 HK5
          clear l5 l6 l7 l8 lo1 lo2 lo3 hP1 hP2 hP3 hZ3 hg5' hg6 hg7 hg8
          rw [←hW5] at HB5 ⊢
          clear hW5
          by_cases hz3:Z3=0
          case pos =>
           have hz3b:((Z3:Int) == 0)=true:=by simp [hz3]
           obtain ⟨A9,k9,hs9,HM9,hk9⟩:=HM5.out.cut 32 32 rfl (by omega) (by omega)
           have HV9:Hid (vd (t5.drop 32)=r):=Lib.hid (by
            rw [vd_skip 32 t5 HM5.out.2.2 (HK5.out hz3)]
            exact HV5.out)
           clear HK5
           go_wp2_with fail
           have cW5:∀ q,Calls Tryz.prog 129 #[.slice A5 k5 k5] (W5.drewN q) fun e w'=>e = .returned (.int .u64 (v5:Int))∧∃ q',w'=(W5.drewN q).drewN q':=fun q=>HW5.out _ (drawn_below HB5.out q)
           have cW6:∀ q,Calls Tryz.prog 129 #[.slice A6 k6 k6] (W5.drewN q) fun e w'=>e = .returned (.int .u64 (v6:Int))∧∃ q',w'=(W5.drewN q).drewN q':=fun q=>HW6.out _ (drawn_below HB5.out q)
           have cW7:∀ q,Calls Tryz.prog 129 #[.slice A7 k7 k7] (W5.drewN q) fun e w'=>e = .returned (.int .u64 (v7:Int))∧∃ q',w'=(W5.drewN q).drewN q':=fun q=>HW7.out _ (drawn_below HB5.out q)
           have cW8:∀ q,Calls Tryz.prog 129 #[.slice A8 k8 k8] (W5.drewN q) fun e w'=>e = .returned (.int .u64 (v8:Int))∧∃ q',w'=(W5.drewN q).drewN q':=fun q=>HW8.out _ (drawn_below HB5.out q)
           go_big_quiet ((first | (with_reducible exact Calls.quiet_of (cW5 _)) | (with_reducible exact Calls.quiet_of (cW6 _)) | (with_reducible exact Calls.quiet_of (cW7 _)) | (with_reducible exact Calls.quiet_of (cW8 _))))
           clear cW5 cW6 cW7 cW8
           go_wp2_with fail
           go_roundg g3
           case measure=>omega
           case rel=>exact ⟨drawn_below HB5.out _,A9,k9,t5.drop 32,rfl,HM9,HV9,by omega,by omega⟩
          case neg =>
           have hz3b:((Z3:Int) == 0)=false:=by rw [beq_eq_false_iff_ne];omega
           clear HK5
           go_wp2_with fail
           have cW5:∀ q,Calls Tryz.prog 129 #[.slice A5 k5 k5] (W5.drewN q) fun e w'=>e = .returned (.int .u64 (v5:Int))∧∃ q',w'=(W5.drewN q).drewN q':=fun q=>HW5.out _ (drawn_below HB5.out q)
           have cW6:∀ q,Calls Tryz.prog 129 #[.slice A6 k6 k6] (W5.drewN q) fun e w'=>e = .returned (.int .u64 (v6:Int))∧∃ q',w'=(W5.drewN q).drewN q':=fun q=>HW6.out _ (drawn_below HB5.out q)
           have cW7:∀ q,Calls Tryz.prog 129 #[.slice A7 k7 k7] (W5.drewN q) fun e w'=>e = .returned (.int .u64 (v7:Int))∧∃ q',w'=(W5.drewN q).drewN q':=fun q=>HW7.out _ (drawn_below HB5.out q)
           have cW8:∀ q,Calls Tryz.prog 129 #[.slice A8 k8 k8] (W5.drewN q) fun e w'=>e = .returned (.int .u64 (v8:Int))∧∃ q',w'=(W5.drewN q).drewN q':=fun q=>HW8.out _ (drawn_below HB5.out q)
           go_big_quiet ((first | (with_reducible exact Calls.quiet_of (cW5 _)) | (with_reducible exact Calls.quiet_of (cW6 _)) | (with_reducible exact Calls.quiet_of (cW7 _)) | (with_reducible exact Calls.quiet_of (cW8 _))))
           clear cW5 cW6 cW7 cW8
           go_wp2_with fail
           go_roundg g'
           case measure=>omega
           case rel=>exact ⟨drawn_below HB5.out _,A5,k5,t5,rfl,HM5,HV5,by omega,by omega⟩
   ·as_aux_lemma =>
    have hascz:decide ((x0:Int)<128)=false:=decide_eq_false (by omega)
    have hx256:x0<256:=by
     rw [HX.out]
     rcases t with _ | ⟨y,t⟩
     ·have:=HM.out.1;simp at this;omega
     ·exact HM.out.2.2 _ (List.mem_cons_self)
    have hlead:=vd_lead t HM.out.2.2 (by rw [←HX.out];omega)
    rw [←HX.out,HM.out.1,HV.out] at hlead
    obtain ⟨x1,hx1⟩:∃ x,x=t.getD 1 0:=⟨_,rfl⟩
    obtain ⟨x2,hx2⟩:∃ x,x=t.getD 2 0:=⟨_,rfl⟩
    obtain ⟨x3,hx3⟩:∃ x,x=t.getD 3 0:=⟨_,rfl⟩
    have HC1:Hid (1<k→∀ o,(wr.alloc o).cell? ⟨b,off+1,none⟩=some (.int .u8 ((x1:Nat):Int))):=Lib.hid fun h o=>by rw [hx1];exact HC.out (wr.alloc o) (HB.out.alloc HB.out.size o) 1 h
    have HC2:Hid (2<k→∀ o,(wr.alloc o).cell? ⟨b,off+2,none⟩=some (.int .u8 ((x2:Nat):Int))):=Lib.hid fun h o=>by rw [hx2];exact HC.out (wr.alloc o) (HB.out.alloc HB.out.size o) 2 h
    have HC3:Hid (3<k→∀ o,(wr.alloc o).cell? ⟨b,off+3,none⟩=some (.int .u8 ((x3:Nat):Int))):=Lib.hid fun h o=>by rw [hx3];exact HC.out (wr.alloc o) (HB.out.alloc HB.out.size o) 3 h
    rw [←hx1,←hx2,←hx3] at hlead
    clear hx1 hx2 hx3
    have hTr:=Utf8Tabs_below HT.out HB.out
    have hc0:=hTr.1 x0 hx256
    have hXlt:Lib.firstT x0<256:=by rcases Lib.firstT_cases x0 with h | h | h | h | h | h | h | h | h <;> omega
    obtain ⟨X,hX⟩:∃ X,Lib.firstT x0=X:=⟨_,rfl⟩
    rw [hX] at hc0 hXlt hlead
    have h7:=u8and7 ⟨X,hXlt⟩
    simp only at h7
    have ha0:wr.cell? ⟨1,X / 16*2,none⟩=some (.int .u8 (Lib.accLo (X / 16))):=by rw [Nat.mul_comm];exact (hTr.2 (X / 16) (by omega)).1
    have ha1:wr.cell? ⟨1,X / 16*2+1,none⟩=some (.int .u8 (Lib.accHi (X / 16))):=by rw [Nat.mul_comm];exact (hTr.2 (X / 16) (by omega)).2
    obtain ⟨LO,hLO⟩:∃ LO,Lib.accLo (X / 16)=LO:=⟨_,rfl⟩
    obtain ⟨HI,hHI⟩:∃ HI,Lib.accHi (X / 16)=HI:=⟨_,rfl⟩
    rw [hLO] at ha0 hlead
    rw [hHI] at ha1 hlead
    obtain ⟨SZ,hSZ⟩:∃ SZ,X % 8=SZ:=⟨_,rfl⟩
    rw [hSZ] at hlead
    have HL:=Lib.hid hlead
    clear hTr hX hLO hHI hlead HX HC
    by_cases s2:SZ=2
    ·subst s2
     have hSZz:(X:Int) % 8=2:=by omega
     have hlead:=HL.out
     simp only [Lib.checkN,Nat.reduceEqDiff,if_true,if_false] at hlead
     have HL:=Lib.hid hlead
     clear hlead
     go_upto_region 18 with fail
     go_cut [103] from 85 to 103 (fun c wx=>c = .bool (decide (k<2∨x1<LO∨HI<x1))∧Below w.heap.size w wx)
     case first =>
      by_cases q0:k<2
      ·have q0z:decide ((k:Int)<2)=true:=decide_eq_true (by omega)
       go_big_quiet (fail)
       go_wp2_with fail
       go_meet
       exact ⟨congrArg Value.bool (decide_eq_true (p:=k<2∨x1<LO∨HI<x1) (by omega)).symm,drawn_below (HB.out.alloc HB.out.size _) _⟩
      ·have q0z:decide ((k:Int)<2)=false:=decide_eq_false (by omega)
       have c1:=HC1.out (by omega)
       have hz1:(1:Int)<(k:Int):=by omega
       by_cases q1:x1<LO
       ·have q1z:decide ((x1:Int)<(LO:Int))=true:=decide_eq_true (by omega)
        go_big_quiet (fail)
        go_wp2_with fail
        go_meet
        exact ⟨congrArg Value.bool (decide_eq_true (p:=k<2∨x1<LO∨HI<x1) (by omega)).symm,drawn_below (HB.out.alloc HB.out.size _) _⟩
       ·have q1z:decide ((x1:Int)<(LO:Int))=false:=decide_eq_false (by omega)
        by_cases q2:HI<x1
        ·have q2z:decide ((HI:Int)<(x1:Int))=true:=decide_eq_true (by omega)
         go_big_quiet (fail)
         go_wp2_with fail
         go_meet
         exact ⟨congrArg Value.bool (decide_eq_true (p:=k<2∨x1<LO∨HI<x1) (by omega)).symm,drawn_below (HB.out.alloc HB.out.size _) _⟩
        ·have q2z:decide ((HI:Int)<(x1:Int))=false:=decide_eq_false (by omega)
         go_big_quiet (fail)
         go_wp2_with fail
         go_meet
         exact ⟨congrArg Value.bool (decide_eq_false (p:=k<2∨x1<LO∨HI<x1) (by omega)).symm,drawn_below (HB.out.alloc HB.out.size _) _⟩
     case rest =>
      obtain ⟨rfl,hbc⟩:=hcut
      by_cases hb:k<2∨x1<LO∨HI<x1
      ·have hbd:decide (k<2∨x1<LO∨HI<x1)=true:=decide_eq_true hb
       have hl:=HL.out
       rw [if_pos hb] at hl
       have HR:=Lib.hid hl
       clear hl
       go_wp2_with fail
       all_goals (go_ret;exact ⟨by rw [HR.out];rfl,hbc⟩)
      ·have hbd:decide (k<2∨x1<LO∨HI<x1)=false:=decide_eq_false hb
       have hl:=HL.out
       rw [if_neg hb] at hl
       obtain ⟨A1,k1,hs1,HM1,hk1⟩:=HM.out.cut 2 2 rfl (by omega) h0
       have HV1:=Lib.hid hl.symm
       clear hl HL
       go_wp2_with fail
       go_roundg g'
       case measure=>omega
       case rel=>exact ⟨hbc,A1,k1,t.drop 2,rfl,HM1,HV1,by omega,by omega⟩
    by_cases s3:SZ=3
    ·subst s3
     have hSZz:(X:Int) % 8=3:=by omega
     have hlead:=HL.out
     simp only [Lib.checkN,Nat.reduceEqDiff,if_true,if_false] at hlead
     have HL:=Lib.hid hlead
     clear hlead
     go_upto_region 22 with fail
     go_cut [138] from 108 to 138 (fun c wx=>c = .bool (decide (k<3∨x1<LO∨HI<x1∨x2<128∨191<x2))∧Below w.heap.size w wx)
     case first =>
      by_cases q0:k<3
      ·have q0z:decide ((k:Int)<3)=true:=decide_eq_true (by omega)
       go_big_quiet (fail)
       go_wp2_with fail
       go_meet
       exact ⟨congrArg Value.bool (decide_eq_true (p:=k<3∨x1<LO∨HI<x1∨x2<128∨191<x2) (by omega)).symm,drawn_below (HB.out.alloc HB.out.size _) _⟩
      ·have q0z:decide ((k:Int)<3)=false:=decide_eq_false (by omega)
       have c1:=HC1.out (by omega)
       have hz1:(1:Int)<(k:Int):=by omega
       have c2:=HC2.out (by omega)
       have hz2:(2:Int)<(k:Int):=by omega
       by_cases q1:x1<LO
       ·have q1z:decide ((x1:Int)<(LO:Int))=true:=decide_eq_true (by omega)
        go_big_quiet (fail)
        go_wp2_with fail
        go_meet
        exact ⟨congrArg Value.bool (decide_eq_true (p:=k<3∨x1<LO∨HI<x1∨x2<128∨191<x2) (by omega)).symm,drawn_below (HB.out.alloc HB.out.size _) _⟩
       ·have q1z:decide ((x1:Int)<(LO:Int))=false:=decide_eq_false (by omega)
        by_cases q2:HI<x1
        ·have q2z:decide ((HI:Int)<(x1:Int))=true:=decide_eq_true (by omega)
         go_big_quiet (fail)
         go_wp2_with fail
         go_meet
         exact ⟨congrArg Value.bool (decide_eq_true (p:=k<3∨x1<LO∨HI<x1∨x2<128∨191<x2) (by omega)).symm,drawn_below (HB.out.alloc HB.out.size _) _⟩
        ·have q2z:decide ((HI:Int)<(x1:Int))=false:=decide_eq_false (by omega)
         by_cases q3:x2<128
         ·have q3z:decide ((x2:Int)<128)=true:=decide_eq_true (by omega)
          go_big_quiet (fail)
          go_wp2_with fail
          go_meet
          exact ⟨congrArg Value.bool (decide_eq_true (p:=k<3∨x1<LO∨HI<x1∨x2<128∨191<x2) (by omega)).symm,drawn_below (HB.out.alloc HB.out.size _) _⟩
         ·have q3z:decide ((x2:Int)<128)=false:=decide_eq_false (by omega)
          by_cases q4:191<x2
          ·have q4z:decide ((191:Int)<(x2:Int))=true:=decide_eq_true (by omega)
           go_big_quiet (fail)
           go_wp2_with fail
           go_meet
           exact ⟨congrArg Value.bool (decide_eq_true (p:=k<3∨x1<LO∨HI<x1∨x2<128∨191<x2) (by omega)).symm,drawn_below (HB.out.alloc HB.out.size _) _⟩
          ·have q4z:decide ((191:Int)<(x2:Int))=false:=decide_eq_false (by omega)
           go_big_quiet (fail)
           go_wp2_with fail
           go_meet
           exact ⟨congrArg Value.bool (decide_eq_false (p:=k<3∨x1<LO∨HI<x1∨x2<128∨191<x2) (by omega)).symm,drawn_below (HB.out.alloc HB.out.size _) _⟩
     case rest =>
      obtain ⟨rfl,hbc⟩:=hcut
      by_cases hb:k<3∨x1<LO∨HI<x1∨x2<128∨191<x2
      ·have hbd:decide (k<3∨x1<LO∨HI<x1∨x2<128∨191<x2)=true:=decide_eq_true hb
       have hl:=HL.out
       rw [if_pos hb] at hl
       have HR:=Lib.hid hl
       clear hl
       go_wp2_with fail
       all_goals (go_ret;exact ⟨by rw [HR.out];rfl,hbc⟩)
      ·have hbd:decide (k<3∨x1<LO∨HI<x1∨x2<128∨191<x2)=false:=decide_eq_false hb
       have hl:=HL.out
       rw [if_neg hb] at hl
       obtain ⟨A1,k1,hs1,HM1,hk1⟩:=HM.out.cut 3 3 rfl (by omega) h0
       have HV1:=Lib.hid hl.symm
       clear hl HL
       go_wp2_with fail
       go_roundg g'
       case measure=>omega
       case rel=>exact ⟨hbc,A1,k1,t.drop 3,rfl,HM1,HV1,by omega,by omega⟩
    by_cases s4:SZ=4
    ·subst s4
     have hSZz:(X:Int) % 8=4:=by omega
     have hlead:=HL.out
     simp only [Lib.checkN,Nat.reduceEqDiff,if_true,if_false] at hlead
     have HL:=Lib.hid hlead
     clear hlead
     go_upto_region 26 with fail
     go_cut [185] from 143 to 185 (fun c wx=>c = .bool (decide (k<4∨x1<LO∨HI<x1∨x2<128∨191<x2∨x3<128∨191<x3))∧Below w.heap.size w wx)
     case first =>
      by_cases q0:k<4
      ·have q0z:decide ((k:Int)<4)=true:=decide_eq_true (by omega)
       go_big_quiet (fail)
       go_wp2_with fail
       go_meet
       exact ⟨congrArg Value.bool (decide_eq_true (p:=k<4∨x1<LO∨HI<x1∨x2<128∨191<x2∨x3<128∨191<x3) (by omega)).symm,drawn_below (HB.out.alloc HB.out.size _) _⟩
      ·have q0z:decide ((k:Int)<4)=false:=decide_eq_false (by omega)
       have c1:=HC1.out (by omega)
       have hz1:(1:Int)<(k:Int):=by omega
       have c2:=HC2.out (by omega)
       have hz2:(2:Int)<(k:Int):=by omega
       have c3:=HC3.out (by omega)
       have hz3:(3:Int)<(k:Int):=by omega
       by_cases q1:x1<LO
       ·have q1z:decide ((x1:Int)<(LO:Int))=true:=decide_eq_true (by omega)
        go_big_quiet (fail)
        go_wp2_with fail
        go_meet
        exact ⟨congrArg Value.bool (decide_eq_true (p:=k<4∨x1<LO∨HI<x1∨x2<128∨191<x2∨x3<128∨191<x3) (by omega)).symm,drawn_below (HB.out.alloc HB.out.size _) _⟩
       ·have q1z:decide ((x1:Int)<(LO:Int))=false:=decide_eq_false (by omega)
        by_cases q2:HI<x1
        ·have q2z:decide ((HI:Int)<(x1:Int))=true:=decide_eq_true (by omega)
         go_big_quiet (fail)
         go_wp2_with fail
         go_meet
         exact ⟨congrArg Value.bool (decide_eq_true (p:=k<4∨x1<LO∨HI<x1∨x2<128∨191<x2∨x3<128∨191<x3) (by omega)).symm,drawn_below (HB.out.alloc HB.out.size _) _⟩
        ·have q2z:decide ((HI:Int)<(x1:Int))=false:=decide_eq_false (by omega)
         by_cases q3:x2<128
         ·have q3z:decide ((x2:Int)<128)=true:=decide_eq_true (by omega)
          go_big_quiet (fail)
          go_wp2_with fail
          go_meet
          exact ⟨congrArg Value.bool (decide_eq_true (p:=k<4∨x1<LO∨HI<x1∨x2<128∨191<x2∨x3<128∨191<x3) (by omega)).symm,drawn_below (HB.out.alloc HB.out.size _) _⟩
         ·have q3z:decide ((x2:Int)<128)=false:=decide_eq_false (by omega)
          by_cases q4:191<x2
          ·have q4z:decide ((191:Int)<(x2:Int))=true:=decide_eq_true (by omega)
           go_big_quiet (fail)
           go_wp2_with fail
           go_meet
           exact ⟨congrArg Value.bool (decide_eq_true (p:=k<4∨x1<LO∨HI<x1∨x2<128∨191<x2∨x3<128∨191<x3) (by omega)).symm,drawn_below (HB.out.alloc HB.out.size _) _⟩
          ·have q4z:decide ((191:Int)<(x2:Int))=false:=decide_eq_false (by omega)
           by_cases q5:x3<128
           ·have q5z:decide ((x3:Int)<128)=true:=decide_eq_true (by omega)
            go_big_quiet (fail)
            go_wp2_with fail
            go_meet
            exact ⟨congrArg Value.bool (decide_eq_true (p:=k<4∨x1<LO∨HI<x1∨x2<128∨191<x2∨x3<128∨191<x3) (by omega)).symm,drawn_below (HB.out.alloc HB.out.size _) _⟩
           ·have q5z:decide ((x3:Int)<128)=false:=decide_eq_false (by omega)
            by_cases q6:191<x3
            ·have q6z:decide ((191:Int)<(x3:Int))=true:=decide_eq_true (by omega)
             go_big_quiet (fail)
             go_wp2_with fail
             go_meet
             exact ⟨congrArg Value.bool (decide_eq_true (p:=k<4∨x1<LO∨HI<x1∨x2<128∨191<x2∨x3<128∨191<x3) (by omega)).symm,drawn_below (HB.out.alloc HB.out.size _) _⟩
            ·have q6z:decide ((191:Int)<(x3:Int))=false:=decide_eq_false (by omega)
             go_big_quiet (fail)
             go_wp2_with fail
             go_meet
             exact ⟨congrArg Value.bool (decide_eq_false (p:=k<4∨x1<LO∨HI<x1∨x2<128∨191<x2∨x3<128∨191<x3) (by omega)).symm,drawn_below (HB.out.alloc HB.out.size _) _⟩
     case rest =>
      obtain ⟨rfl,hbc⟩:=hcut
      by_cases hb:k<4∨x1<LO∨HI<x1∨x2<128∨191<x2∨x3<128∨191<x3
      ·have hbd:decide (k<4∨x1<LO∨HI<x1∨x2<128∨191<x2∨x3<128∨191<x3)=true:=decide_eq_true hb
       have hl:=HL.out
       rw [if_pos hb] at hl
       have HR:=Lib.hid hl
       clear hl
       go_wp2_with fail
       all_goals (go_ret;exact ⟨by rw [HR.out];rfl,hbc⟩)
      ·have hbd:decide (k<4∨x1<LO∨HI<x1∨x2<128∨191<x2∨x3<128∨191<x3)=false:=decide_eq_false hb
       have hl:=HL.out
       rw [if_neg hb] at hl
       obtain ⟨A1,k1,hs1,HM1,hk1⟩:=HM.out.cut 4 4 rfl (by omega) h0
       have HV1:=Lib.hid hl.symm
       clear hl HL
       go_wp2_with fail
       go_roundg g'
       case measure=>omega
       case rel=>exact ⟨hbc,A1,k1,t.drop 4,rfl,HM1,HV1,by omega,by omega⟩
    ·have e2b:(((X:Int) % 8) == 2)=false:=by simp;omega
     have e3b:(((X:Int) % 8) == 3)=false:=by simp;omega
     have e4b:(((X:Int) % 8) == 4)=false:=by simp;omega
     have hlead:=HL.out
     simp only [Lib.checkN,s2,s3,s4,if_false] at hlead
     have HL:=Lib.hid hlead
     clear hlead
     go_wp2_with fail
     all_goals (go_ret;exact ⟨by rw [HL.out];rfl,HB.out.alloc HB.out.size _⟩)
end Go.Proofs.YtcibjcgipfpniaaGreatDoor
