/-
  One digit of a long division: guessed, taken, and given back where it was one too many.
-/
import Derived.Test.YtflfdglpljodbaaDoorWNatB
import Derived.Test.YtflfdglpljodbaaDoorWPure2
set_option maxRecDepth 100000
set_option maxHeartbeats 4000000
namespace Go.Proofs.YtflfdglpljodbaaDoor
open Go.RowKit
set_option linter.unusedVariables false
theorem subtract_at (w:World) (g o n c:Nat) (L:List Nat) (hR:Row .u32 22 w g L) (hdL:Dg L) (hon:o+n≤L.length) (hnc:n≤c) (hc63:c≤9223372036854775807) (hn5:n≤5000)
  (A':Option Addr) (c' B':Nat) (l':List Nat) (hr':∀ w',w.grownBy w' (some g)→Rd .u32 w' B' A' c' l') (hd':Dg l') (n':Nat) (hn':l'.length=n') (hl':n'≤n) (q:Nat) (hq:q<4294967296) :
  Calls Tryd.prog 102 #[.slice (some ⟨g,o,none⟩) n c,.slice A' n' c',.int .u64 q] w fun e w'=>∃ (L':List Nat) (lent:Nat),e = .returned (.int .u32 lent)∧lent≤q∧L'.length=L.length∧Dg L'∧Row .u32 22 w' g L'∧w.grownBy w' (some g) ∧
   val (seg L' o n)+q*val l'=val (seg L o n)+pw n*lent∧∀ j,j<o∨o+n≤j→L'.getD j 0=L.getD j 0:=by
 subst hn'
 exact subtract_any w g o n c L hR hdL hon hnc hc63 hn5 A' c' B' l' hr' hd' hl' q hq
theorem step_any (w:World) (g o c k:Nat) (L:List Nat) (hR:Row .u32 22 w g L) (hdL:Dg L) (hon:o+(k+3)≤L.length) (hnc:k+3≤c) (hc63:c≤9223372036854775807) (hk5:k≤4900)
  (A':Option Addr) (c' B':Nat) (V:List Nat) (hV:∀ w',w.grownBy w' (some g)→Rd .u32 w' B' A' c' V) (hdV:Dg V) (hkV:V.length=k+2) (htop:2147483648≤V.getD (k+1) 0) (hlt:val (seg L o (k+3))<4294967296*val V) :
  Calls Tryd.prog 89 #[.slice (some ⟨g,o,none⟩) (k+3) c,.slice A' (k+2) c'] w fun e w'=>∃ (L':List Nat) (d:Nat),e = .returned (.int .u32 d)∧d=val (seg L o (k+3)) / val V∧L'.length=L.length∧Dg L'∧Row .u32 22 w' g L'∧w.grownBy w' (some g) ∧
   val (seg L' o (k+3))=val (seg L o (k+3)) % val V∧∀ j,j<o∨o+(k+3)≤j→L'.getD j 0=L.getD j 0:=by
 have hP:=parts_of hdL hdV hkV htop hlt
 have hrV:=hV w (World.grownBy.refl w _)
 obtain ⟨b',off',y1,rfl,hb',hy1,Hy1⟩:=hrV.at_ (i:=k+1) (by omega)
 obtain ⟨_,_,y2,e0,_,hy2,Hy2⟩:=hrV.at_ (i:=k) (by omega)
 obtain ⟨rfl,rfl⟩:b'=_∧off'=_:=by injection e0 with e0;injection e0 with e1 e2;exact ⟨e1,e2⟩
 clear e0
 have hc0:=hR.cell (i:=o+(k+2)) (by omega)
 have hc1:=hR.cell (i:=o+(k+1)) (by omega)
 have hc2:=hR.cell (i:=o+k) (by omega)
 obtain ⟨u0,Hu0⟩:∃ u,Hid (u=L.getD (o+(k+2)) 0):=⟨_,rfl⟩
 obtain ⟨u1,Hu1⟩:∃ u,Hid (u=L.getD (o+(k+1)) 0):=⟨_,rfl⟩
 obtain ⟨u2,Hu2⟩:∃ u,Hid (u=L.getD (o+k) 0):=⟨_,rfl⟩
 obtain ⟨U,HU⟩:∃ U,Hid (U=val (seg L o (k+3))):=⟨_,rfl⟩
 rw [←Hu0.out] at hc0
 rw [←Hu1.out] at hc1
 rw [←Hu2.out] at hc2
 rw [←Hu0.out,←Hu1.out,←Hu2.out,←Hy1.out,←Hy2.out,←HU.out] at hP
 have hu0:u0<4294967296:=by rw [Hu0.out];exact hdL.at_ _
 have hu1:=hP.hu1
 have hu2:=hP.hu2
 have hv1:=hP.hv1
 have hv1':=hP.hv1'
 have hv2:=hP.hv2
 have htwo:=hP.two_lt
 have hor:=or_u64 u0 u1 hu0 hu1
 obtain ⟨two,Htwo⟩:∃ t,Hid (t=u0*4294967296+u1):=⟨_,rfl⟩
 rw [←Htwo.out] at hor htwo
 obtain ⟨g0,Hg0⟩:∃ d,Hid (d=two / y1):=⟨_,rfl⟩
 obtain ⟨r0,Hr0⟩:∃ d,Hid (d=two % y1):=⟨_,rfl⟩
 have Hq:=lH (show IntKind.u64.wrap ((two:Int) / (y1:Int))=(g0:Int) by
  rw [show ((two:Int) / (y1:Int))=(g0:Int) by rw [Hg0.out];rfl]
  have:two / y1≤two:=Nat.div_le_self _ _
  exact u64_in _ (by omega) (by have:=Hg0.out;omega))
 have Hm:=lH (show (two:Int) % (y1:Int)=(r0:Int) by rw [Hr0.out];rfl)
 have hy1z:((y1:Int) == 0)=false:=by simp;omega
 go_enter Tryd.func89,Tryd.ntmps89
 go_wp2_with fail
 go_quiet (fail)
 go_wp2_with fail
 go_loopw [7,8] (fun sg sr wr=>∃ gs rs q:Nat,sg = .int .u64 gs∧sr = .int .u64 rs∧wr=w.drewN q∧rs<4294967296∧gs<18446744073709551616∧Hid (U / val V≤gs)∧Hid (gs*y1+rs=u0*4294967296+u1))
  (fun sg _ _=>(intOf sg).toNat)
 case atStart=>exact ⟨g0,r0,_,congrArg (Value.int IntKind.u64) Hq.out,congrArg (Value.int IntKind.u64) Hm.out,rfl,by have:=Nat.mod_lt two (show 0<y1 by omega);have:=Hr0.out;omega,by have:=Nat.div_le_self two y1;have:=Hg0.out;omega,by rw [Hg0.out,Htwo.out];exact hP.first,by rw [Hg0.out,Hr0.out,←Htwo.out,Nat.mul_comm];exact Nat.div_add_mod _ _⟩
 case round =>
  obtain ⟨gs,rs,q,rfl,rfl,rfl,hrs,hgs,Hge,Hsum⟩:=hrel
  have HgN:=lH (show ∀ n w',(w.drewN n).grownBy w' (some g)→w.grownBy w' (some g) from fun n w' h=>⟨h.os,h.tape,h.output,h.size,h.block⟩)
  have HkV:=lH hkV
  have Hvp:=lH hP.vpos
  have HvM:=lH (show val V≤pw (k+3) by
   have h1:=val_lt hdV
   have h2:=pw_mono (show V.length≤k+3 by omega)
   omega)
  by_cases hbig:4294967296≤gs
  ·have hb1:((gs:Int) / 4294967296 != 0)=true:=by simp;omega
   have hge1:=hP.less Hge.out Hsum.out (.inl hbig)
   obtain ⟨gp,Hgp⟩:∃ gp,Hid (gs=gp+1):=⟨gs - 1,(Nat.sub_add_cancel (Nat.le_trans (Nat.le_add_left 1 _) hge1)).symm⟩
   have Hge1:=lH (show U / val V≤gp from Nat.le_of_succ_le_succ (show U / val V+1≤gp+1 by rw [←Hgp.out];exact hge1))
   have Hsum1:=lH (show gp*y1+(rs+y1)=u0*4294967296+u1 by have:=Hsum.out;rw [Hgp.out,Nat.add_mul] at this;omega)
   have hgl:gp<18446744073709551615:=by have:=Hgp.out;omega
   have hgm:(gs:Int) - 1=(gp:Int):=by have:=Hgp.out;omega
   clear hge1
   obtain ⟨r1,Hr1⟩:∃ r1,Hid (r1=rs+y1):=⟨_,rfl⟩
   have hr1:(rs:Int)+(y1:Int)=(r1:Int):=by have:=Hr1.out;omega
   have hr1l:r1<8589934592:=by have:=Hr1.out;omega
   rw [←Hr1.out] at Hsum1
   by_cases hov:r1<4294967296
   ·have hov1:((r1:Int) / 4294967296 != 0)=false:=by simp;omega
    go_wp2_with fail
    go_big_quiet (fail)
    go_wp2_with fail
    exact ⟨⟨gp,r1,_,rfl,rfl,rfl,hov,by omega,Hge1.out,by show _=_;rw [←Hsum1.out]⟩,by have:=Hgp.out;simp [intOf];omega⟩
   ·have hov1:((r1:Int) / 4294967296 != 0)=true:=by simp;omega
    have Hov:=lH (hP.over Hsum1.out (by omega))
    have hgp4:gp<4294967296:=Hov.out.1
    have Hnear:=lH (hP.near Hsum1.out Hov.out.1 Hov.out.2)
    go_wp2_with fail
    go_big_quiet (fail)
    go_wp2_with fail
    refine (subtract_at _ g o (k+3) c L (Holds.drewN hR _) hdL hon hnc hc63 (by omega) (some ⟨b',off',none⟩) c' B' V (fun w' hg=>hV w' (HgN.out _ _ hg)) hdV (k+2) HkV.out (by omega) gp (by omega)).mono ?_
    rintro e w2 ⟨L1,lent,rfl,hlent,hL1,hdL1,hR1,hgr1,hval1,hfar1⟩
    have HL1:=lH hL1
    have Hval1:=lH (show val (seg L1 o (k+3))+gp*val V=U+pw (k+3)*lent by rw [HU.out];exact hval1)
    have Hfar1:=lH hfar1
    clear hL1 hval1 hfar1
    have Hgr1:=lH (HgN.out _ _ hgr1)
    clear hgr1
    by_cases hl0:lent=0
    ·have Hr:=lH (took Hvp.out Hge1.out Hval1.out hl0)
     subst hl0
     go_wp2_with fail
     go_ret
     exact ⟨L1,gp,rfl,by rw [←HU.out];exact Hr.out.1,HL1.out,hdL1,hR1,Hgr1.out,by rw [←HU.out];exact Hr.out.2,Hfar1.out⟩
    ·have hl0':((lent:Int) == 0)=false:=by simp;omega
     have Hr:=lH (lent_one Hvp.out HvM.out Hge1.out Hnear.out (seg_lt hdL1 o (k+3)) Hval1.out hl0)
     go_wp2_with fail
     go_loopw [9,87] (fun ov si wr=>∃ (i v:Nat) (L2:List Nat),i≤k+2∧si = .int .i64 i∧ov = .int .u64 v∧v≤1∧L2.length=L.length∧Dg L2∧Row .u32 22 wr g L2∧w.grownBy wr (some g) ∧
       Hid (val (seg L2 o i)+pw i*v=val (seg L1 o i)+val (V.take i))∧Hid (∀ j,j<o∨o+i≤j→L2.getD j 0=L1.getD j 0))
      (fun _ si _=>k+2 - (intOf si).toNat)
     case atStart=>exact ⟨0,0,L1,by omega,rfl,rfl,by omega,HL1.out,hdL1,hR1,Hgr1.out,by show _=_;simp [seg_zero,val],fun _ _=>rfl⟩
     case round =>
      obtain ⟨i,v,L2,hi,rfl,rfl,hv,hL2,hd2,hR2,hgr2,Hval,Hfar⟩:=hrel
      have HL2:=lH hL2
      clear hL2
      have hfr2:=hR2.open_
      by_cases h:i<k+2
      ·have hcell:=hR2.cell (i:=o+i) (by rw [HL2.out];omega)
       obtain ⟨x,Hx⟩:∃ x,Hid (x=L2.getD (o+i) 0):=⟨_,rfl⟩
       rw [←Hx.out] at hcell
       have hxl:x<4294967296:=by rw [Hx.out];exact hd2.at_ _
       obtain ⟨_,_,y,e0,_,hy,Hy⟩:=(hV _ hgr2).at_ (i:=i) (by omega)
       obtain ⟨rfl,rfl⟩:b'=_∧off'=_:=by injection e0 with e0;injection e0 with e1 e2;exact ⟨e1,e2⟩
       clear e0
       have hyl:y<4294967296:=by rw [Hy.out];exact hdV.at_ i
       obtain ⟨s,Hs⟩:∃ s,Hid (s=x+y):=⟨_,rfl⟩
       obtain ⟨t,Ht⟩:∃ t,Hid (t=v+(x+y)):=⟨_,rfl⟩
       have hsum:(x:Int)+(y:Int)=(s:Int):=by have:=Hs.out;omega
       have htum:(v:Int)+(s:Int)=(t:Int):=by have:=Hs.out;have:=Ht.out;omega
       have hsl:s<8589934592:=by have:=Hs.out;omega
       have htl:t≤8589934591:=by have:=Ht.out;omega
       have Hp:=lH (give_round (by rw [HL2.out];omega) Hval.out Hfar.out Hx.out Hy.out Ht.out)
       go_wp2_with fail
       go_big_quiet (fail)
       go_wp2_with fail
       have hst:=Row.set (Holds.drewN hR2 nq) (o+i) (t % 4294967296)
       exact ⟨⟨i+1,t / 4294967296,_,by omega,by go_num,by go_num,by omega,by rw [List.length_set];exact HL2.out,hd2.set _ _ (by omega),hst,one_setCell (one_drewN hgr2 _) _ _,Hp.out.1,Hp.out.2⟩,by simp [intOf];omega⟩
      ·have Hi:=lH (show i=k+2 by omega)
       have hcell:=hR2.cell (i:=o+(k+2)) (by rw [HL2.out];omega)
       obtain ⟨x,Hx⟩:∃ x,Hid (x=L2.getD (o+(k+2)) 0):=⟨_,rfl⟩
       rw [←Hx.out] at hcell
       have hxl:x<4294967296:=by rw [Hx.out];exact hd2.at_ _
       have Hp:=lH (give_end (n:=k+2) (U:=U) (W:=val V) (Nat.le_of_eq HkV.out) (by rw [HL2.out];omega) (by have:=Hval.out;rwa [Hi.out] at this) (by have:=Hfar.out;rwa [Hi.out] at this) Hx.out hd2 (Hr.out.2.2) (Nat.lt_of_lt_of_le (Nat.mod_lt _ Hvp.out) HvM.out))
       have Hg1:=lH (show U / val V+1=gp from Hr.out.2.1.symm)
       obtain ⟨d,Hd⟩:∃ d,Hid (d=U / val V):=⟨_,rfl⟩
       rw [←Hd.out] at Hg1
       have hdg:(gp:Int) - 1=(d:Int):=by have:=Hg1.out;omega
       have hdl:d<4294967296:=by have:=Hg1.out;omega
       go_wp2_with fail
       have hst:=hR2.set (o+(k+2)) ((x+v) % 4294967296)
       go_ret
       exact ⟨_,d,rfl,by rw [←HU.out];exact Hd.out,by rw [List.length_set];exact HL2.out,hd2.set _ _ (by omega),hst,one_setCell hgr2 _ _,by rw [←HU.out];exact Hp.out.1,fun j hj=>by rw [Hp.out.2 j hj];exact Hfar1.out j hj⟩
  ·have hb1:((gs:Int) / 4294967296 != 0)=false:=by simp;omega
   obtain ⟨p2,Hp2⟩:∃ p,Hid (p=gs*y2):=⟨_,rfl⟩
   have hmul:(gs:Int)*(y2:Int)=(p2:Int):=by rw [Hp2.out,Int.natCast_mul]
   have hp2l:p2≤18446744065119617025:=by
    rw [Hp2.out]
    exact Nat.mul_le_mul (show gs≤4294967295 by omega) (show y2≤4294967295 by omega)
   have hor2:=or_u64 rs u2 hrs hu2
   obtain ⟨t2,Ht2⟩:∃ t,Hid (t=rs*4294967296+u2):=⟨_,rfl⟩
   rw [←Ht2.out] at hor2
   by_cases hcmp:t2<p2
   ·have hcmp1:decide ((t2:Int)<(p2:Int))=true:=by simp;omega
    have hge1:=hP.less Hge.out Hsum.out (.inr (by rw [←Hp2.out,←Ht2.out];exact hcmp))
    obtain ⟨gp,Hgp⟩:∃ gp,Hid (gs=gp+1):=⟨gs - 1,(Nat.sub_add_cancel (Nat.le_trans (Nat.le_add_left 1 _) hge1)).symm⟩
    have Hge1:=lH (show U / val V≤gp from Nat.le_of_succ_le_succ (show U / val V+1≤gp+1 by rw [←Hgp.out];exact hge1))
    have Hsum1:=lH (show gp*y1+(rs+y1)=u0*4294967296+u1 by have:=Hsum.out;rw [Hgp.out,Nat.add_mul] at this;omega)
    have hgl:gp<18446744073709551615:=by have:=Hgp.out;omega
    have hgm:(gs:Int) - 1=(gp:Int):=by have:=Hgp.out;omega
    clear hge1
    obtain ⟨r1,Hr1⟩:∃ r1,Hid (r1=rs+y1):=⟨_,rfl⟩
    have hr1:(rs:Int)+(y1:Int)=(r1:Int):=by have:=Hr1.out;omega
    have hr1l:r1<8589934592:=by have:=Hr1.out;omega
    rw [←Hr1.out] at Hsum1
    by_cases hov:r1<4294967296
    ·have hov1:((r1:Int) / 4294967296 != 0)=false:=by simp;omega
     go_wp2_with fail
     go_big_quiet (fail)
     go_wp2_with fail
     exact ⟨⟨gp,r1,_,rfl,rfl,rfl,hov,by omega,Hge1.out,by show _=_;rw [←Hsum1.out]⟩,by have:=Hgp.out;simp [intOf];omega⟩
    ·have hov1:((r1:Int) / 4294967296 != 0)=true:=by simp;omega
     have Hov:=lH (hP.over Hsum1.out (by omega))
     have hgp4:gp<4294967296:=Hov.out.1
     have Hnear:=lH (hP.near Hsum1.out Hov.out.1 Hov.out.2)
     go_wp2_with fail
     go_big_quiet (fail)
     go_wp2_with fail
     refine (subtract_at _ g o (k+3) c L (Holds.drewN hR _) hdL hon hnc hc63 (by omega) (some ⟨b',off',none⟩) c' B' V (fun w' hg=>hV w' (HgN.out _ _ hg)) hdV (k+2) HkV.out (by omega) gp (by omega)).mono ?_
     rintro e w2 ⟨L1,lent,rfl,hlent,hL1,hdL1,hR1,hgr1,hval1,hfar1⟩
     have HL1:=lH hL1
     have Hval1:=lH (show val (seg L1 o (k+3))+gp*val V=U+pw (k+3)*lent by rw [HU.out];exact hval1)
     have Hfar1:=lH hfar1
     clear hL1 hval1 hfar1
     have Hgr1:=lH (HgN.out _ _ hgr1)
     clear hgr1
     by_cases hl0:lent=0
     ·have Hr:=lH (took Hvp.out Hge1.out Hval1.out hl0)
      subst hl0
      go_wp2_with fail
      go_ret
      exact ⟨L1,gp,rfl,by rw [←HU.out];exact Hr.out.1,HL1.out,hdL1,hR1,Hgr1.out,by rw [←HU.out];exact Hr.out.2,Hfar1.out⟩
     ·have hl0':((lent:Int) == 0)=false:=by simp;omega
      have Hr:=lH (lent_one Hvp.out HvM.out Hge1.out Hnear.out (seg_lt hdL1 o (k+3)) Hval1.out hl0)
      go_wp2_with fail
      go_loopw [9,87] (fun ov si wr=>∃ (i v:Nat) (L2:List Nat),i≤k+2∧si = .int .i64 i∧ov = .int .u64 v∧v≤1∧L2.length=L.length∧Dg L2∧Row .u32 22 wr g L2∧w.grownBy wr (some g) ∧
        Hid (val (seg L2 o i)+pw i*v=val (seg L1 o i)+val (V.take i))∧Hid (∀ j,j<o∨o+i≤j→L2.getD j 0=L1.getD j 0))
       (fun _ si _=>k+2 - (intOf si).toNat)
      case atStart=>exact ⟨0,0,L1,by omega,rfl,rfl,by omega,HL1.out,hdL1,hR1,Hgr1.out,by show _=_;simp [seg_zero,val],fun _ _=>rfl⟩
      case round =>
       obtain ⟨i,v,L2,hi,rfl,rfl,hv,hL2,hd2,hR2,hgr2,Hval,Hfar⟩:=hrel
       have HL2:=lH hL2
       clear hL2
       have hfr2:=hR2.open_
       by_cases h:i<k+2
       ·have hcell:=hR2.cell (i:=o+i) (by rw [HL2.out];omega)
        obtain ⟨x,Hx⟩:∃ x,Hid (x=L2.getD (o+i) 0):=⟨_,rfl⟩
        rw [←Hx.out] at hcell
        have hxl:x<4294967296:=by rw [Hx.out];exact hd2.at_ _
        obtain ⟨_,_,y,e0,_,hy,Hy⟩:=(hV _ hgr2).at_ (i:=i) (by omega)
        obtain ⟨rfl,rfl⟩:b'=_∧off'=_:=by injection e0 with e0;injection e0 with e1 e2;exact ⟨e1,e2⟩
        clear e0
        have hyl:y<4294967296:=by rw [Hy.out];exact hdV.at_ i
        obtain ⟨s,Hs⟩:∃ s,Hid (s=x+y):=⟨_,rfl⟩
        obtain ⟨t,Ht⟩:∃ t,Hid (t=v+(x+y)):=⟨_,rfl⟩
        have hsum:(x:Int)+(y:Int)=(s:Int):=by have:=Hs.out;omega
        have htum:(v:Int)+(s:Int)=(t:Int):=by have:=Hs.out;have:=Ht.out;omega
        have hsl:s<8589934592:=by have:=Hs.out;omega
        have htl:t≤8589934591:=by have:=Ht.out;omega
        have Hp:=lH (give_round (by rw [HL2.out];omega) Hval.out Hfar.out Hx.out Hy.out Ht.out)
        go_wp2_with fail
        go_big_quiet (fail)
        go_wp2_with fail
        have hst:=Row.set (Holds.drewN hR2 nq) (o+i) (t % 4294967296)
        exact ⟨⟨i+1,t / 4294967296,_,by omega,by go_num,by go_num,by omega,by rw [List.length_set];exact HL2.out,hd2.set _ _ (by omega),hst,one_setCell (one_drewN hgr2 _) _ _,Hp.out.1,Hp.out.2⟩,by simp [intOf];omega⟩
       ·have Hi:=lH (show i=k+2 by omega)
        have hcell:=hR2.cell (i:=o+(k+2)) (by rw [HL2.out];omega)
        obtain ⟨x,Hx⟩:∃ x,Hid (x=L2.getD (o+(k+2)) 0):=⟨_,rfl⟩
        rw [←Hx.out] at hcell
        have hxl:x<4294967296:=by rw [Hx.out];exact hd2.at_ _
        have Hp:=lH (give_end (n:=k+2) (U:=U) (W:=val V) (Nat.le_of_eq HkV.out) (by rw [HL2.out];omega) (by have:=Hval.out;rwa [Hi.out] at this) (by have:=Hfar.out;rwa [Hi.out] at this) Hx.out hd2 (Hr.out.2.2) (Nat.lt_of_lt_of_le (Nat.mod_lt _ Hvp.out) HvM.out))
        have Hg1:=lH (show U / val V+1=gp from Hr.out.2.1.symm)
        obtain ⟨d,Hd⟩:∃ d,Hid (d=U / val V):=⟨_,rfl⟩
        rw [←Hd.out] at Hg1
        have hdg:(gp:Int) - 1=(d:Int):=by have:=Hg1.out;omega
        have hdl:d<4294967296:=by have:=Hg1.out;omega
        go_wp2_with fail
        have hst:=hR2.set (o+(k+2)) ((x+v) % 4294967296)
        go_ret
        exact ⟨_,d,rfl,by rw [←HU.out];exact Hd.out,by rw [List.length_set];exact HL2.out,hd2.set _ _ (by omega),hst,one_setCell hgr2 _ _,by rw [←HU.out];exact Hp.out.1,fun j hj=>by rw [Hp.out.2 j hj];exact Hfar1.out j hj⟩
   ·have hcmp1:decide ((t2:Int)<(p2:Int))=false:=by simp;omega
    have hgs4:gs<4294967296:=by omega
    have Hnear:=lH (hP.near Hsum.out hgs4 (by rw [←Hp2.out,←Ht2.out];omega))
    go_wp2_with fail
    go_big_quiet (fail)
    go_wp2_with fail
    refine (subtract_at _ g o (k+3) c L (Holds.drewN hR _) hdL hon hnc hc63 (by omega) (some ⟨b',off',none⟩) c' B' V (fun w' hg=>hV w' (HgN.out _ _ hg)) hdV (k+2) HkV.out (by omega) gs (by omega)).mono ?_
    rintro e w2 ⟨L1,lent,rfl,hlent,hL1,hdL1,hR1,hgr1,hval1,hfar1⟩
    have HL1:=lH hL1
    have Hval1:=lH (show val (seg L1 o (k+3))+gs*val V=U+pw (k+3)*lent by rw [HU.out];exact hval1)
    have Hfar1:=lH hfar1
    clear hL1 hval1 hfar1
    have Hgr1:=lH (HgN.out _ _ hgr1)
    clear hgr1
    by_cases hl0:lent=0
    ·have Hr:=lH (took Hvp.out Hge.out Hval1.out hl0)
     subst hl0
     go_wp2_with fail
     go_ret
     exact ⟨L1,gs,rfl,by rw [←HU.out];exact Hr.out.1,HL1.out,hdL1,hR1,Hgr1.out,by rw [←HU.out];exact Hr.out.2,Hfar1.out⟩
    ·have hl0':((lent:Int) == 0)=false:=by simp;omega
     have Hr:=lH (lent_one Hvp.out HvM.out Hge.out Hnear.out (seg_lt hdL1 o (k+3)) Hval1.out hl0)
     go_wp2_with fail
     go_loopw [9,87] (fun ov si wr=>∃ (i v:Nat) (L2:List Nat),i≤k+2∧si = .int .i64 i∧ov = .int .u64 v∧v≤1∧L2.length=L.length∧Dg L2∧Row .u32 22 wr g L2∧w.grownBy wr (some g) ∧
       Hid (val (seg L2 o i)+pw i*v=val (seg L1 o i)+val (V.take i))∧Hid (∀ j,j<o∨o+i≤j→L2.getD j 0=L1.getD j 0))
      (fun _ si _=>k+2 - (intOf si).toNat)
     case atStart=>exact ⟨0,0,L1,by omega,rfl,rfl,by omega,HL1.out,hdL1,hR1,Hgr1.out,by show _=_;simp [seg_zero,val],fun _ _=>rfl⟩
     case round =>
      obtain ⟨i,v,L2,hi,rfl,rfl,hv,hL2,hd2,hR2,hgr2,Hval,Hfar⟩:=hrel
      have HL2:=lH hL2
      clear hL2
      have hfr2:=hR2.open_
      by_cases h:i<k+2
      ·have hcell:=hR2.cell (i:=o+i) (by rw [HL2.out];omega)
       obtain ⟨x,Hx⟩:∃ x,Hid (x=L2.getD (o+i) 0):=⟨_,rfl⟩
       rw [←Hx.out] at hcell
       have hxl:x<4294967296:=by rw [Hx.out];exact hd2.at_ _
       obtain ⟨_,_,y,e0,_,hy,Hy⟩:=(hV _ hgr2).at_ (i:=i) (by omega)
       obtain ⟨rfl,rfl⟩:b'=_∧off'=_:=by injection e0 with e0;injection e0 with e1 e2;exact ⟨e1,e2⟩
       clear e0
       have hyl:y<4294967296:=by rw [Hy.out];exact hdV.at_ i
       obtain ⟨s,Hs⟩:∃ s,Hid (s=x+y):=⟨_,rfl⟩
       obtain ⟨t,Ht⟩:∃ t,Hid (t=v+(x+y)):=⟨_,rfl⟩
       have hsum:(x:Int)+(y:Int)=(s:Int):=by have:=Hs.out;omega
       have htum:(v:Int)+(s:Int)=(t:Int):=by have:=Hs.out;have:=Ht.out;omega
       have hsl:s<8589934592:=by have:=Hs.out;omega
       have htl:t≤8589934591:=by have:=Ht.out;omega
       have Hp:=lH (give_round (by rw [HL2.out];omega) Hval.out Hfar.out Hx.out Hy.out Ht.out)
       go_wp2_with fail
       go_big_quiet (fail)
       go_wp2_with fail
       have hst:=Row.set (Holds.drewN hR2 nq) (o+i) (t % 4294967296)
       exact ⟨⟨i+1,t / 4294967296,_,by omega,by go_num,by go_num,by omega,by rw [List.length_set];exact HL2.out,hd2.set _ _ (by omega),hst,one_setCell (one_drewN hgr2 _) _ _,Hp.out.1,Hp.out.2⟩,by simp [intOf];omega⟩
      ·have Hi:=lH (show i=k+2 by omega)
       have hcell:=hR2.cell (i:=o+(k+2)) (by rw [HL2.out];omega)
       obtain ⟨x,Hx⟩:∃ x,Hid (x=L2.getD (o+(k+2)) 0):=⟨_,rfl⟩
       rw [←Hx.out] at hcell
       have hxl:x<4294967296:=by rw [Hx.out];exact hd2.at_ _
       have Hp:=lH (give_end (n:=k+2) (U:=U) (W:=val V) (Nat.le_of_eq HkV.out) (by rw [HL2.out];omega) (by have:=Hval.out;rwa [Hi.out] at this) (by have:=Hfar.out;rwa [Hi.out] at this) Hx.out hd2 (Hr.out.2.2) (Nat.lt_of_lt_of_le (Nat.mod_lt _ Hvp.out) HvM.out))
       have Hg1:=lH (show U / val V+1=gs from Hr.out.2.1.symm)
       obtain ⟨d,Hd⟩:∃ d,Hid (d=U / val V):=⟨_,rfl⟩
       rw [←Hd.out] at Hg1
       have hdg:(gs:Int) - 1=(d:Int):=by have:=Hg1.out;omega
       have hdl:d<4294967296:=by have:=Hg1.out;omega
       go_wp2_with fail
       have hst:=hR2.set (o+(k+2)) ((x+v) % 4294967296)
       go_ret
       exact ⟨_,d,rfl,by rw [←HU.out];exact Hd.out,by rw [List.length_set];exact HL2.out,hd2.set _ _ (by omega),hst,one_setCell hgr2 _ _,by rw [←HU.out];exact Hp.out.1,fun j hj=>by rw [Hp.out.2 j hj];exact Hfar1.out j hj⟩
end Go.Proofs.YtflfdglpljodbaaDoor
