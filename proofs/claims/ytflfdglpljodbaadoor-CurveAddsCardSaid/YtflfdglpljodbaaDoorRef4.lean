/-
  The document's own division: a digit guessed.
-/
import Derived.Test.YtflfdglpljodbaaDoorRefA
import Derived.Deep.RegionHeld3
namespace Go.Proofs.YtflfdglpljodbaaDoor
open Go.RowKit
set_option linter.unusedVariables false

set_option maxRecDepth 100000 in
set_option maxHeartbeats 1000000 in
theorem guess_any (w:World) (B B':Nat) (A A':Option Addr) (c c' o k:Nat) (L V:List Nat) (hr:Rd .u32 w B A c L) (hr':Rd .u32 w B' A' c' V) (hdL:Dg L) (hdV:Dg V) (hon:o+(k+3)≤L.length) (hLl:L.length≤5000) (hk5:k≤4900) (hkV:V.length=k+2) (htop:2147483648≤V.getD (k+1) 0) (hlt:val (seg L o (k+3))<4294967296*val V) :
  Calls Tryd.prog 105 #[.slice A L.length c,.slice A' (k+2) c',.int .i64 o] w fun e w'=>∃ g:Nat,e = .returned (.int .u64 g)∧g<4294967296∧val (seg L o (k+3)) / val V≤g∧g*val V<val (seg L o (k+3))+val V∧∃ q,w'=w.drewN q:=by
 have hP:=parts_of hdL hdV hkV htop hlt
 have hlc:=hr.1
 have hlc63:=hr.2.1
 have hlc':=hr'.1
 have hlc63':=hr'.2.1
 obtain ⟨b,off,u0,rfl,hb,hc0,Hu0⟩:=hr.at_ (i:=o+(k+2)) (by omega)
 obtain ⟨_,_,u1,e0,_,hc1,Hu1⟩:=hr.at_ (i:=o+(k+1)) (by omega)
 obtain ⟨rfl,rfl⟩:b=_∧off=_:=by injection e0 with e0;injection e0 with e1 e2;exact ⟨e1,e2⟩
 clear e0
 obtain ⟨_,_,u2,e0,_,hc2,Hu2⟩:=hr.at_ (i:=o+k) (by omega)
 obtain ⟨rfl,rfl⟩:b=_∧off=_:=by injection e0 with e0;injection e0 with e1 e2;exact ⟨e1,e2⟩
 clear e0
 obtain ⟨b',off',y1,rfl,hb',hy1,Hy1⟩:=hr'.at_ (i:=k+1) (by omega)
 obtain ⟨U,HU⟩:∃ U,Hid (U=val (seg L o (k+3))):=⟨_,rfl⟩
 obtain ⟨y2,Hy2⟩:∃ y,Hid (y=V.getD k 0):=⟨_,rfl⟩
 rw [←Hu0.out,←Hu1.out,←Hu2.out,←Hy1.out,←Hy2.out,←HU.out] at hP
 have hu0:u0<4294967296:=by rw [Hu0.out];exact hdL.at_ _
 have hu1:=hP.hu1
 have hu2:=hP.hu2
 have hv1:=hP.hv1
 have hv1':=hP.hv1'
 have hv2:=hP.hv2
 have htwo:=hP.two_lt
 have hor:=or_u64 u0 u1 hu0 hu1
 obtain ⟨two,Htwo⟩:∃ t,Hid (t=u0*4294967296+u1):=⟨_,rfl⟩
 rw [←Htwo.out] at hor htwo
 obtain ⟨g0,Hg0⟩:∃ d,Hid (d=two / y1):=⟨_,rfl⟩
 obtain ⟨r0,Hr0⟩:∃ d,Hid (d=two % y1):=⟨_,rfl⟩
 have Hq:=Lib.hid (show IntKind.u64.wrap ((two:Int) / (y1:Int))=(g0:Int) by
  rw [show ((two:Int) / (y1:Int))=(g0:Int) by rw [Hg0.out];rfl]
  have:two / y1≤two:=Nat.div_le_self _ _
  exact u64_in _ (by omega) (by have:=Hg0.out;omega))
 have Hm:=Lib.hid (show (two:Int) % (y1:Int)=(r0:Int) by rw [Hr0.out];rfl)
 have hy1z:((y1:Int) == 0)=false:=by simp;omega
 have hVl:(V.length:Int)=(k:Int)+2:=by omega
 have Hdig:∀ W,Rd .u32 W B' (some ⟨b',off',none⟩) c' V→Calls Tryd.prog 64 #[.slice (some ⟨b',off',none⟩) (k+2) c',.int .i64 (k:Int)] W fun e w'=>e = .returned (.int .u64 (y2:Int))∧W=w':=fun W hW=>by
  have h:=digit_any W B' _ c' V hW hdV k (by omega) y2 Hy2.out.symm
  rw [hkV] at h
  exact h
 have HDIG:=Lib.hid Hdig
 clear Hdig
 have hto:((o:Int)+((k:Int)+2) - 2).toNat=o+k:=by omega
 have hto2:o+(k+2) - 2=o+k:=by omega
 have hi0:(0:Int)≤(o:Int)+((k:Int)+2) - 2:=by omega
 have hi1:(o:Int)+((k:Int)+2) - 2<(L.length:Int):=by omega
 have hw1:IntKind.i64.wrap ((o:Int)+((k:Int)+2))=(o:Int)+((k:Int)+2):=IntWalk.i64_in _ (by omega)
 have hw2:IntKind.i64.wrap ((o:Int)+((k:Int)+2) - 2)=(o:Int)+((k:Int)+2) - 2:=IntWalk.i64_in _ (by omega)
 have hw3:IntKind.i64.wrap (k:Int)=(k:Int):=IntWalk.i64_in _ (by omega)
 have hw4:IntKind.i64.wrap ((o:Int)+(k:Int))=(o:Int)+(k:Int):=IntWalk.i64_in _ (by omega)
 have hj0:(0:Int)≤(o:Int)+(k:Int):=by omega
 have hi2:(2:Int)≤(o:Int)+((k:Int)+2):=by omega
 have hi3:(2:Int)≤(o:Int)+(k:Int)+2:=by omega
 have hj1:(o:Int)+(k:Int)<(L.length:Int):=by omega
 have hjt:((o:Int)+(k:Int)).toNat=o+k:=by omega
 go_enter Tryd.func105,Tryd.ntmps105
 go_wp2_with fail
 go_big_quiet (fail)
 go_wp2_with fail
 go_big_quiet (fail)
 go_wp2_with fail
 rw [Hq.out,Hm.out]
 try simp only [show o+(k+2) - 1=o+(k+1) by omega,show k+2 - 1=k+1 from rfl,show (o:Int)+((k:Int)+2) - 1=(o:Int)+((k:Int)+1) by omega,show (k:Int)+2 - 1=(k:Int)+1 by omega]
 go_loopw [9,10] (fun sg sr wr=>∃ gs rs q:Nat,sg = .int .u64 gs∧sr = .int .u64 rs∧wr=w.drewN q∧rs<4294967296∧gs<18446744073709551616∧Hid (U / val V≤gs)∧Hid (gs*y1+rs=u0*4294967296+u1))
  (fun sg _ _=>(intOf sg).toNat)
 case atStart=>exact ⟨g0,r0,_,rfl,rfl,World.drewN_drewN ..,by have:=Nat.mod_lt two (show 0<y1 by omega);have:=Hr0.out;omega,by have:=Nat.div_le_self two y1;have:=Hg0.out;omega,by rw [Hg0.out,Htwo.out];exact hP.first,by rw [Hg0.out,Hr0.out,←Htwo.out,Nat.mul_comm];exact Nat.div_add_mod _ _⟩
 case round =>
  obtain ⟨gs,rs,q,rfl,rfl,rfl,hrs,hgs,Hge,Hsum⟩:=hrel
  have hrs1:decide ((rs:Int)<4294967296)=true:=decide_eq_true (by omega)
  by_cases hbig:4294967296≤gs
  ·have hb1:decide ((4294967296:Int)≤(gs:Int))=true:=decide_eq_true (by omega)
   have hge1:=hP.less Hge.out Hsum.out (.inl hbig)
   obtain ⟨gp,Hgp⟩:∃ gp,Hid (gs=gp+1):=⟨gs - 1,(Nat.sub_add_cancel (Nat.le_trans (Nat.le_add_left 1 _) hge1)).symm⟩
   have Hge1:=Lib.hid (show U / val V≤gp from Nat.le_of_succ_le_succ (show U / val V+1≤gp+1 by rw [←Hgp.out];exact hge1))
   have Hsum1:=Lib.hid (show gp*y1+(rs+y1)=u0*4294967296+u1 by have:=Hsum.out;rw [Hgp.out,Nat.add_mul] at this;omega)
   have hgl:gp<18446744073709551615:=by have:=Hgp.out;omega
   have hgm:(gs:Int) - 1=(gp:Int):=by have:=Hgp.out;omega
   clear hge1
   obtain ⟨r1,Hr1⟩:∃ r1,Hid (r1=rs+y1):=⟨_,rfl⟩
   have hr1:(rs:Int)+(y1:Int)=(r1:Int):=by have:=Hr1.out;omega
   have hr1l:r1<8589934592:=by have:=Hr1.out;omega
   rw [←Hr1.out] at Hsum1
   by_cases hov:r1<4294967296
   ·have hov1:decide ((4294967296:Int)≤(r1:Int))=false:=decide_eq_false (by omega)
    go_wp2_with fail
    go_big_quiet (fail)
    rw [World.drewN_drewN]
    generalize q+nq=q2 at *
    go_wp2_with fail
    go_roundw
    case rel=>exact ⟨gp,r1,q2,rfl,rfl,rfl,hov,by omega,Hge1.out,Hsum1.out⟩
    case measure=>have:=Hgp.out;simp [intOf];omega
   ·have hov1:decide ((4294967296:Int)≤(r1:Int))=true:=decide_eq_true (by omega)
    have Hov:=Lib.hid (hP.over Hsum1.out (by omega))
    have hgp4:gp<4294967296:=Hov.out.1
    have Hnear:=Lib.hid (hP.near Hsum1.out Hov.out.1 Hov.out.2)
    go_wp2_with fail
    go_big_quiet (fail)
    rw [World.drewN_drewN]
    generalize q+nq=q2 at *
    go_wp2_with fail
    go_ret
    exact ⟨gp,rfl,hgp4,by rw [←HU.out];exact Hge1.out,by rw [←HU.out];exact Hnear.out,q2,rfl⟩
  ·have hb1:decide ((4294967296:Int)≤(gs:Int))=false:=decide_eq_false (by omega)
   obtain ⟨p2,Hp2⟩:∃ p,Hid (p=gs*y2):=⟨_,rfl⟩
   have hmul:(gs:Int)*(y2:Int)=(p2:Int):=by rw [Hp2.out,Int.natCast_mul]
   have hp2l:p2≤18446744065119617025:=by
    rw [Hp2.out]
    exact Nat.mul_le_mul (show gs≤4294967295 by omega) (show y2≤4294967295 by omega)
   have hor2:=or_u64 rs u2 hrs hu2
   obtain ⟨t2,Ht2⟩:∃ t,Hid (t=rs*4294967296+u2):=⟨_,rfl⟩
   rw [←Ht2.out] at hor2
   have hwr:IntKind.u64.wrap ((rs:Int)*4294967296)=(rs:Int)*4294967296:=u64_in _ (by omega) (by omega)
   have hwu:IntKind.u64.wrap (u2:Int)=(u2:Int):=u64_in _ (by omega) (by omega)
   have hwp:IntKind.u64.wrap (p2:Int)=(p2:Int):=u64_in _ (by omega) (by omega)
   by_cases hcmp:t2<p2
   ·have hcmp1:decide ((t2:Int)<(p2:Int))=true:=decide_eq_true (by omega)
    have hge1:=hP.less Hge.out Hsum.out (.inr (by rw [←Hp2.out,←Ht2.out];exact hcmp))
    obtain ⟨gp,Hgp⟩:∃ gp,Hid (gs=gp+1):=⟨gs - 1,(Nat.sub_add_cancel (Nat.le_trans (Nat.le_add_left 1 _) hge1)).symm⟩
    have Hge1:=Lib.hid (show U / val V≤gp from Nat.le_of_succ_le_succ (show U / val V+1≤gp+1 by rw [←Hgp.out];exact hge1))
    have Hsum1:=Lib.hid (show gp*y1+(rs+y1)=u0*4294967296+u1 by have:=Hsum.out;rw [Hgp.out,Nat.add_mul] at this;omega)
    have hgl:gp<18446744073709551615:=by have:=Hgp.out;omega
    have hgm:(gs:Int) - 1=(gp:Int):=by have:=Hgp.out;omega
    clear hge1
    obtain ⟨r1,Hr1⟩:∃ r1,Hid (r1=rs+y1):=⟨_,rfl⟩
    have hr1:(rs:Int)+(y1:Int)=(r1:Int):=by have:=Hr1.out;omega
    have hr1l:r1<8589934592:=by have:=Hr1.out;omega
    rw [←Hr1.out] at Hsum1
    by_cases hov:r1<4294967296
    ·have hov1:decide ((4294967296:Int)≤(r1:Int))=false:=decide_eq_false (by omega)
     go_wp2_with fail
     go_region_held3 (fun X=>X.cell? ⟨b,off+(o+k),none⟩=some (.int .u32 (u2:Int))∧Rd .u32 X B' (some ⟨b',off',none⟩) c' V)
      (first | exact ⟨hc2,hr'⟩)
      (first | (go_at_call 64;(with_reducible refine (HDIG.out _ (hr'.drewN _)).mono ?_);rintro e w4 ⟨rfl,rfl⟩))
     go_wp2_with fail
     go_roundw
     case rel=>exact ⟨gp,r1,q+1,rfl,rfl,rfl,hov,by omega,Hge1.out,Hsum1.out⟩
     case measure=>have:=Hgp.out;simp [intOf];omega
    ·have hov1:decide ((4294967296:Int)≤(r1:Int))=true:=decide_eq_true (by omega)
     have Hov:=Lib.hid (hP.over Hsum1.out (by omega))
     have hgp4:gp<4294967296:=Hov.out.1
     have Hnear:=Lib.hid (hP.near Hsum1.out Hov.out.1 Hov.out.2)
     go_wp2_with fail
     go_region_held3 (fun X=>X.cell? ⟨b,off+(o+k),none⟩=some (.int .u32 (u2:Int))∧Rd .u32 X B' (some ⟨b',off',none⟩) c' V)
      (first | exact ⟨hc2,hr'⟩)
      (first | (go_at_call 64;(with_reducible refine (HDIG.out _ (hr'.drewN _)).mono ?_);rintro e w4 ⟨rfl,rfl⟩))
     go_wp2_with fail
     go_ret
     exact ⟨gp,rfl,hgp4,by rw [←HU.out];exact Hge1.out,by rw [←HU.out];exact Hnear.out,q+1,rfl⟩
   ·have hcmp1:decide ((t2:Int)<(p2:Int))=false:=decide_eq_false (by omega)
    have hgs4:gs<4294967296:=by omega
    have Hnear:=Lib.hid (hP.near Hsum.out hgs4 (by rw [←Hp2.out,←Ht2.out];omega))
    go_wp2_with fail
    go_region_held3 (fun X=>X.cell? ⟨b,off+(o+k),none⟩=some (.int .u32 (u2:Int))∧Rd .u32 X B' (some ⟨b',off',none⟩) c' V)
     (first | exact ⟨hc2,hr'⟩)
     (first | (go_at_call 64;(with_reducible refine (HDIG.out _ (hr'.drewN _)).mono ?_);rintro e w4 ⟨rfl,rfl⟩))
    go_wp2_with fail
    go_ret
    exact ⟨gs,rfl,hgs4,by rw [←HU.out];exact Hge.out,by rw [←HU.out];exact Hnear.out,q+1,rfl⟩
end Go.Proofs.YtflfdglpljodbaaDoor

