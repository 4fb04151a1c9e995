/-
  One digit of a long division: guessed, taken, and given back where it was one too many.
-/
import Derived.Test.YtflfdglpljodbaaDoorGNatB
import Derived.Test.YtflfdglpljodbaaDoorGPure2
set_option maxRecDepth 100000
set_option maxHeartbeats 4000000
namespace Go.Proofs.YtflfdglpljodbaaDoor
open Go.RowKit
set_option linter.unusedVariables false
theorem subtract_at (w:World) (g o n c:Nat) (L:List Nat) (hR:Row .u32 22 w g L) (hdL:Dg L) (hon:o+n≤L.length) (hnc:n≤c) (hc63:c≤9223372036854775807) (hn5:n≤5000)
  (A':Option Addr) (c' B':Nat) (l':List Nat) (hr':∀ w',w.grownBy w' (some g)→Rd .u32 w' B' A' c' l') (hd':Dg l') (n':Nat) (hn':l'.length=n') (hl':n'≤n) (q:Nat) (hq:q<4294967296) :
  Calls Tryd.prog 102 #[.slice (some ⟨g,o,none⟩) n c,.slice A' n' c',.int .u64 q] w fun e w'=>∃ (L':List Nat) (lent:Nat),e = .returned (.int .u32 lent)∧lent≤q∧L'.length=L.length∧Dg L'∧Row .u32 22 w' g L'∧w.grownBy w' (some g) ∧
   val (seg L' o n)+q*val l'=val (seg L o n)+pw n*lent∧∀ j,j<o∨o+n≤j→L'.getD j 0=L.getD j 0:=by
 subst hn'
 exact subtract_any w g o n c L hR hdL hon hnc hc63 hn5 A' c' B' l' hr' hd' hl' q hq
theorem step_any (w:World) (g o c k:Nat) (L:List Nat) (hR:Row .u32 22 w g L) (hdL:Dg L) (hon:o+(k+3)≤L.length) (hnc:k+3≤c) (hc63:c≤9223372036854775807) (hk5:k≤4900)
  (A':Option Addr) (c' B':Nat) (V:List Nat) (hV:∀ w',w.grownBy w' (some g)→Rd .u32 w' B' A' c' V) (hdV:Dg V) (hkV:V.length=k+2) (htop:2147483648≤V.getD (k+1) 0) (hlt:val (seg L o (k+3))<4294967296*val V) :
  Calls Tryd.prog 89 #[.slice (some ⟨g,o,none⟩) (k+3) c,.slice A' (k+2) c'] w fun e w'=>∃ (L':List Nat) (d:Nat),e = .returned (.int .u32 d)∧d=val (seg L o (k+3)) / val V∧L'.length=L.length∧Dg L'∧Row .u32 22 w' g L'∧w.grownBy w' (some g) ∧
   val (seg L' o (k+3))=val (seg L o (k+3)) % val V∧∀ j,j<o∨o+(k+3)≤j→L'.getD j 0=L.getD j 0:=by
 have hP:=parts_of hdL hdV hkV htop hlt
 have bF:=hV w (World.grownBy.refl w _)
 obtain ⟨b',off',y1,rfl,hb',hy1,bM⟩:=bF.at_ (i:=k+1) (by omega)
 obtain ⟨_,_,y2,e0,_,hy2,bJ⟩:=bF.at_ (i:=k) (by omega)
 obtain ⟨rfl,rfl⟩:b'=_∧off'=_:=by injection e0 with e0;injection e0 with e1 e2;exact ⟨e1,e2⟩
 clear e0
 have bG:=hR.cell (i:=o+(k+2)) (by omega)
 have bL:=hR.cell (i:=o+(k+1)) (by omega)
 have bN:=hR.cell (i:=o+k) (by omega)
 obtain ⟨u0,bu⟩:∃ u,Hid (u=L.getD (o+(k+2)) 0):=⟨_,rfl⟩
 obtain ⟨u1,bx⟩:∃ u,Hid (u=L.getD (o+(k+1)) 0):=⟨_,rfl⟩
 obtain ⟨u2,bB⟩:∃ u,Hid (u=L.getD (o+k) 0):=⟨_,rfl⟩
 obtain ⟨U,HU⟩:∃ U,Hid (U=val (seg L o (k+3))):=⟨_,rfl⟩
 rw [←bu.out] at bG
 rw [←bx.out] at bL
 rw [←bB.out] at bN
 rw [←bu.out,←bx.out,←bB.out,←bM.out,←bJ.out,←HU.out] at hP
 have bO:u0<4294967296:=by rw [bu.out];exact hdL.at_ _
 have hu1:=hP.hu1
 have hu2:=hP.hu2
 have hv1:=hP.hv1
 have hv1':=hP.hv1'
 have hv2:=hP.hv2
 have bs:=hP.two_lt
 have bK:=or_u64 u0 u1 bO hu1
 obtain ⟨aL,aX⟩:∃ t,Hid (t=u0*4294967296+u1):=⟨_,rfl⟩
 rw [←aX.out] at bK bs
 obtain ⟨g0,a9⟩:∃ d,Hid (d=aL / y1):=⟨_,rfl⟩
 obtain ⟨r0,bm⟩:∃ d,Hid (d=aL % y1):=⟨_,rfl⟩
 have Hq:=lH (show IntKind.u64.wrap ((aL:Int) / (y1:Int))=(g0:Int) by
  rw [show ((aL:Int) / (y1:Int))=(g0:Int) by rw [a9.out];rfl]
  have:aL / y1≤aL:=Nat.div_le_self _ _
  exact u64_in _ (by omega) (by have:=a9.out;omega))
 have Hm:=lH (show (aL:Int) % (y1:Int)=(r0:Int) by rw [bm.out];rfl)
 have hy1z:((y1:Int) == 0)=false:=by simp;omega
 go_enter Tryd.func89,Tryd.ntmps89
 go_wp2_with fail
 go_quiet (fail)
 go_wp2_with fail
 go_loopw [7,8] (fun sg sr wr=>∃ gs rs q:Nat,sg = .int .u64 gs∧sr = .int .u64 rs∧wr=w.drewN q∧rs<4294967296∧gs<18446744073709551616∧Hid (U / val V≤gs)∧Hid (gs*y1+rs=u0*4294967296+u1))
  (fun sg _ _=>(intOf sg).toNat)
 case atStart=>exact ⟨g0,r0,_,congrArg (Value.int IntKind.u64) Hq,congrArg (Value.int IntKind.u64) Hm,rfl,by have:=Nat.mod_lt aL (show 0<y1 by omega);have:=bm.out;omega,by have:=Nat.div_le_self aL y1;have:=a9.out;omega,by rw [a9.out,aX.out];exact hP.first,by rw [a9.out,bm.out,←aX.out,Nat.mul_comm];exact Nat.div_add_mod _ _⟩
 case round =>
  obtain ⟨gs,rs,q,rfl,rfl,rfl,bR,hgs,bl,aG⟩:=hrel
  have a6:=lH (show ∀ n w',(w.drewN n).grownBy w' (some g)→w.grownBy w' (some g) from fun n w' h=>⟨h.os,h.tape,h.output,h.size,h.block⟩)
  have aY:=lH hkV
  have aM:=lH hP.vpos
  have a8:=lH (show val V≤pw (k+3) by
   have h1:=val_lt hdV
   have h2:=pw_mono (show V.length≤k+3 by omega)
   omega)
  by_cases hbig:4294967296≤gs
  ·have bI:((gs:Int) / 4294967296 != 0)=true:=by simp;omega
   have aE:=hP.less bl aG (.inl hbig)
   obtain ⟨gp,aH⟩:∃ gp,Hid (gs=gp+1):=⟨gs - 1,(Nat.sub_add_cancel (Nat.le_trans (Nat.le_add_left 1 _) aE)).symm⟩
   have aF:=lH (show U / val V≤gp from Nat.le_of_succ_le_succ (show U / val V+1≤gp+1 by rw [←aH.out];exact aE))
   have ac:=lH (show gp*y1+(rs+y1)=u0*4294967296+u1 by have:=aG.out;rw [aH.out,Nat.add_mul] at this;omega)
   have bQ:gp<18446744073709551615:=by have:=aH.out;omega
   have bH:(gs:Int) - 1=(gp:Int):=by have:=aH.out;omega
   clear aE
   obtain ⟨r1,aV⟩:∃ r1,Hid (r1=rs+y1):=⟨_,rfl⟩
   have bP:(rs:Int)+(y1:Int)=(r1:Int):=by have:=aV.out;omega
   have br:r1<8589934592:=by have:=aV.out;omega
   rw [←aV.out] at ac
   by_cases hov:r1<4294967296
   ·have aW:((r1:Int) / 4294967296 != 0)=false:=by simp;omega
    go_wp2_with fail
    go_big_quiet (fail)
    go_wp2_with fail
    exact ⟨⟨gp,r1,_,rfl,rfl,rfl,hov,by omega,aF,by show _=_;rw [←ac.out]⟩,by have:=aH.out;simp [intOf];omega⟩
   ·have aW:((r1:Int) / 4294967296 != 0)=true:=by simp;omega
    have aU:=lH (hP.over ac (by omega))
    have bw:gp<4294967296:=aU.out.1
    have az:=lH (hP.near ac aU.out.1 aU.out.2)
    go_wp2_with fail
    go_big_quiet (fail)
    go_wp2_with fail
    refine (subtract_at _ g o (k+3) c L (Holds.drewN hR _) hdL hon hnc hc63 (by omega) (some ⟨b',off',none⟩) c' B' V (fun w' hg=>hV w' (a6.out _ _ hg)) hdV (k+2) aY (by omega) gp (by omega)).mono ?_
    rintro e w2 ⟨L1,ao,rfl,aT,aQ,av,aO,aC,ak,ai⟩
    have aN:=lH aQ
    have am:=lH (show val (seg L1 o (k+3))+gp*val V=U+pw (k+3)*ao by rw [HU.out];exact ak)
    have ae:=lH ai
    clear aQ ak ai
    have ax:=lH (a6.out _ _ aC)
    clear aC
    by_cases hl0:ao=0
    ·have Hr:=lH (took aM aF am hl0)
     subst hl0
     go_wp2_with fail
     go_ret
     exact ⟨L1,gp,rfl,by rw [←HU.out];exact Hr.out.1,aN,av,aO,ax,by rw [←HU.out];exact Hr.out.2,ae⟩
    ·have hl0':((ao:Int) == 0)=false:=by simp;omega
     have Hr:=lH (lent_one aM a8 aF az (seg_lt av o (k+3)) am hl0)
     go_wp2_with fail
     go_loopw [9,87] (fun ov si wr=>∃ (i v:Nat) (L2:List Nat),i≤k+2∧si = .int .i64 i∧ov = .int .u64 v∧v≤1∧L2.length=L.length∧Dg L2∧Row .u32 22 wr g L2∧w.grownBy wr (some g) ∧
       Hid (val (seg L2 o i)+pw i*v=val (seg L1 o i)+val (V.take i))∧Hid (∀ j,j<o∨o+i≤j→L2.getD j 0=L1.getD j 0))
      (fun _ si _=>k+2 - (intOf si).toNat)
     case atStart=>exact ⟨0,0,L1,by omega,rfl,rfl,by omega,aN,av,aO,ax,by show _=_;simp [seg_zero,val],fun _ _=>rfl⟩
     case round =>
      obtain ⟨i,v,L2,hi,rfl,rfl,hv,aR,aD,ay,au,aB,aA⟩:=hrel
      have aw:=lH aR
      clear aR
      have bd:=ay.open_
      by_cases h:i<k+2
      ·have ab:=ay.cell (i:=o+i) (by rw [aw.out];omega)
       obtain ⟨x,Hx⟩:∃ x,Hid (x=L2.getD (o+i) 0):=⟨_,rfl⟩
       rw [←Hx.out] at ab
       have a_:x<4294967296:=by rw [Hx.out];exact aD.at_ _
       obtain ⟨_,_,y,e0,_,hy,Hy⟩:=(hV _ au).at_ (i:=i) (by omega)
       obtain ⟨rfl,rfl⟩:b'=_∧off'=_:=by injection e0 with e0;injection e0 with e1 e2;exact ⟨e1,e2⟩
       clear e0
       have bC:y<4294967296:=by rw [Hy.out];exact hdV.at_ i
       obtain ⟨s,Hs⟩:∃ s,Hid (s=x+y):=⟨_,rfl⟩
       obtain ⟨t,Ht⟩:∃ t,Hid (t=v+(x+y)):=⟨_,rfl⟩
       have bc:(x:Int)+(y:Int)=(s:Int):=by have:=Hs.out;omega
       have bf:(v:Int)+(s:Int)=(t:Int):=by have:=Hs.out;have:=Ht.out;omega
       have bE:s<8589934592:=by have:=Hs.out;omega
       have bA:t≤8589934591:=by have:=Ht.out;omega
       have Hp:=lH (give_round (by rw [aw.out];omega) aB aA Hx Hy Ht)
       go_wp2_with fail
       go_big_quiet (fail)
       go_wp2_with fail
       have aK:=Row.set (Holds.drewN ay nq) (o+i) (t % 4294967296)
       exact ⟨⟨i+1,t / 4294967296,_,by omega,by go_num,by go_num,by omega,by rw [List.length_set];exact aw.out,aD.set _ _ (by omega),aK,one_setCell (one_drewN au _) _ _,Hp.out.1,Hp.out.2⟩,by simp [intOf];omega⟩
      ·have Hi:=lH (show i=k+2 by omega)
       have ab:=ay.cell (i:=o+(k+2)) (by rw [aw.out];omega)
       obtain ⟨x,Hx⟩:∃ x,Hid (x=L2.getD (o+(k+2)) 0):=⟨_,rfl⟩
       rw [←Hx.out] at ab
       have a_:x<4294967296:=by rw [Hx.out];exact aD.at_ _
       have Hp:=lH (give_end (n:=k+2) (U:=U) (W:=val V) (Nat.le_of_eq aY) (by rw [aw.out];omega) (by have:=aB.out;rwa [Hi.out] at this) (by have:=aA.out;rwa [Hi.out] at this) Hx aD (Hr.out.2.2) (Nat.lt_of_lt_of_le (Nat.mod_lt _ aM) a8))
       have aJ:=lH (show U / val V+1=gp from Hr.out.2.1.symm)
       obtain ⟨d,Hd⟩:∃ d,Hid (d=U / val V):=⟨_,rfl⟩
       rw [←Hd.out] at aJ
       have bD:(gp:Int) - 1=(d:Int):=by have:=aJ.out;omega
       have bz:d<4294967296:=by have:=aJ.out;omega
       go_wp2_with fail
       have aK:=ay.set (o+(k+2)) ((x+v) % 4294967296)
       go_ret
       exact ⟨_,d,rfl,by rw [←HU.out];exact Hd.out,by rw [List.length_set];exact aw.out,aD.set _ _ (by omega),aK,one_setCell au _ _,by rw [←HU.out];exact Hp.out.1,fun j hj=>by rw [Hp.out.2 j hj];exact ae.out j hj⟩
  ·have bI:((gs:Int) / 4294967296 != 0)=false:=by simp;omega
   obtain ⟨p2,bk⟩:∃ p,Hid (p=gs*y2):=⟨_,rfl⟩
   have hmul:(gs:Int)*(y2:Int)=(p2:Int):=by rw [bk.out,Int.natCast_mul]
   have hp2l:p2≤18446744065119617025:=by
    rw [bk.out]
    exact Nat.mul_le_mul (show gs≤4294967295 by omega) (show y2≤4294967295 by omega)
   have bv:=or_u64 rs u2 bR hu2
   obtain ⟨t2,bt⟩:∃ t,Hid (t=rs*4294967296+u2):=⟨_,rfl⟩
   rw [←bt.out] at bv
   by_cases hcmp:t2<p2
   ·have ba:decide ((t2:Int)<(p2:Int))=true:=by simp;omega
    have aE:=hP.less bl aG (.inr (by rw [←bk.out,←bt.out];exact hcmp))
    obtain ⟨gp,aH⟩:∃ gp,Hid (gs=gp+1):=⟨gs - 1,(Nat.sub_add_cancel (Nat.le_trans (Nat.le_add_left 1 _) aE)).symm⟩
    have aF:=lH (show U / val V≤gp from Nat.le_of_succ_le_succ (show U / val V+1≤gp+1 by rw [←aH.out];exact aE))
    have ac:=lH (show gp*y1+(rs+y1)=u0*4294967296+u1 by have:=aG.out;rw [aH.out,Nat.add_mul] at this;omega)
    have bQ:gp<18446744073709551615:=by have:=aH.out;omega
    have bH:(gs:Int) - 1=(gp:Int):=by have:=aH.out;omega
    clear aE
    obtain ⟨r1,aV⟩:∃ r1,Hid (r1=rs+y1):=⟨_,rfl⟩
    have bP:(rs:Int)+(y1:Int)=(r1:Int):=by have:=aV.out;omega
    have br:r1<8589934592:=by have:=aV.out;omega
    rw [←aV.out] at ac
    by_cases hov:r1<4294967296
    ·have aW:((r1:Int) / 4294967296 != 0)=false:=by simp;omega
     go_wp2_with fail
     go_big_quiet (fail)
     go_wp2_with fail
     exact ⟨⟨gp,r1,_,rfl,rfl,rfl,hov,by omega,aF,by show _=_;rw [←ac.out]⟩,by have:=aH.out;simp [intOf];omega⟩
    ·have aW:((r1:Int) / 4294967296 != 0)=true:=by simp;omega
     have aU:=lH (hP.over ac (by omega))
     have bw:gp<4294967296:=aU.out.1
     have az:=lH (hP.near ac aU.out.1 aU.out.2)
     go_wp2_with fail
     go_big_quiet (fail)
     go_wp2_with fail
     refine (subtract_at _ g o (k+3) c L (Holds.drewN hR _) hdL hon hnc hc63 (by omega) (some ⟨b',off',none⟩) c' B' V (fun w' hg=>hV w' (a6.out _ _ hg)) hdV (k+2) aY (by omega) gp (by omega)).mono ?_
     rintro e w2 ⟨L1,ao,rfl,aT,aQ,av,aO,aC,ak,ai⟩
     have aN:=lH aQ
     have am:=lH (show val (seg L1 o (k+3))+gp*val V=U+pw (k+3)*ao by rw [HU.out];exact ak)
     have ae:=lH ai
     clear aQ ak ai
     have ax:=lH (a6.out _ _ aC)
     clear aC
     by_cases hl0:ao=0
     ·have Hr:=lH (took aM aF am hl0)
      subst hl0
      go_wp2_with fail
      go_ret
      exact ⟨L1,gp,rfl,by rw [←HU.out];exact Hr.out.1,aN,av,aO,ax,by rw [←HU.out];exact Hr.out.2,ae⟩
     ·have hl0':((ao:Int) == 0)=false:=by simp;omega
      have Hr:=lH (lent_one aM a8 aF az (seg_lt av o (k+3)) am hl0)
      go_wp2_with fail
      go_loopw [9,87] (fun ov si wr=>∃ (i v:Nat) (L2:List Nat),i≤k+2∧si = .int .i64 i∧ov = .int .u64 v∧v≤1∧L2.length=L.length∧Dg L2∧Row .u32 22 wr g L2∧w.grownBy wr (some g) ∧
        Hid (val (seg L2 o i)+pw i*v=val (seg L1 o i)+val (V.take i))∧Hid (∀ j,j<o∨o+i≤j→L2.getD j 0=L1.getD j 0))
       (fun _ si _=>k+2 - (intOf si).toNat)
      case atStart=>exact ⟨0,0,L1,by omega,rfl,rfl,by omega,aN,av,aO,ax,by show _=_;simp [seg_zero,val],fun _ _=>rfl⟩
      case round =>
       obtain ⟨i,v,L2,hi,rfl,rfl,hv,aR,aD,ay,au,aB,aA⟩:=hrel
       have aw:=lH aR
       clear aR
       have bd:=ay.open_
       by_cases h:i<k+2
       ·have ab:=ay.cell (i:=o+i) (by rw [aw.out];omega)
        obtain ⟨x,Hx⟩:∃ x,Hid (x=L2.getD (o+i) 0):=⟨_,rfl⟩
        rw [←Hx.out] at ab
        have a_:x<4294967296:=by rw [Hx.out];exact aD.at_ _
        obtain ⟨_,_,y,e0,_,hy,Hy⟩:=(hV _ au).at_ (i:=i) (by omega)
        obtain ⟨rfl,rfl⟩:b'=_∧off'=_:=by injection e0 with e0;injection e0 with e1 e2;exact ⟨e1,e2⟩
        clear e0
        have bC:y<4294967296:=by rw [Hy.out];exact hdV.at_ i
        obtain ⟨s,Hs⟩:∃ s,Hid (s=x+y):=⟨_,rfl⟩
        obtain ⟨t,Ht⟩:∃ t,Hid (t=v+(x+y)):=⟨_,rfl⟩
        have bc:(x:Int)+(y:Int)=(s:Int):=by have:=Hs.out;omega
        have bf:(v:Int)+(s:Int)=(t:Int):=by have:=Hs.out;have:=Ht.out;omega
        have bE:s<8589934592:=by have:=Hs.out;omega
        have bA:t≤8589934591:=by have:=Ht.out;omega
        have Hp:=lH (give_round (by rw [aw.out];omega) aB aA Hx Hy Ht)
        go_wp2_with fail
        go_big_quiet (fail)
        go_wp2_with fail
        have aK:=Row.set (Holds.drewN ay nq) (o+i) (t % 4294967296)
        exact ⟨⟨i+1,t / 4294967296,_,by omega,by go_num,by go_num,by omega,by rw [List.length_set];exact aw.out,aD.set _ _ (by omega),aK,one_setCell (one_drewN au _) _ _,Hp.out.1,Hp.out.2⟩,by simp [intOf];omega⟩
       ·have Hi:=lH (show i=k+2 by omega)
        have ab:=ay.cell (i:=o+(k+2)) (by rw [aw.out];omega)
        obtain ⟨x,Hx⟩:∃ x,Hid (x=L2.getD (o+(k+2)) 0):=⟨_,rfl⟩
        rw [←Hx.out] at ab
        have a_:x<4294967296:=by rw [Hx.out];exact aD.at_ _
        have Hp:=lH (give_end (n:=k+2) (U:=U) (W:=val V) (Nat.le_of_eq aY) (by rw [aw.out];omega) (by have:=aB.out;rwa [Hi.out] at this) (by have:=aA.out;rwa [Hi.out] at this) Hx aD (Hr.out.2.2) (Nat.lt_of_lt_of_le (Nat.mod_lt _ aM) a8))
        have aJ:=lH (show U / val V+1=gp from Hr.out.2.1.symm)
        obtain ⟨d,Hd⟩:∃ d,Hid (d=U / val V):=⟨_,rfl⟩
        rw [←Hd.out] at aJ
        have bD:(gp:Int) - 1=(d:Int):=by have:=aJ.out;omega
        have bz:d<4294967296:=by have:=aJ.out;omega
        go_wp2_with fail
        have aK:=ay.set (o+(k+2)) ((x+v) % 4294967296)
        go_ret
        exact ⟨_,d,rfl,by rw [←HU.out];exact Hd.out,by rw [List.length_set];exact aw.out,aD.set _ _ (by omega),aK,one_setCell au _ _,by rw [←HU.out];exact Hp.out.1,fun j hj=>by rw [Hp.out.2 j hj];exact ae.out j hj⟩
   ·have ba:decide ((t2:Int)<(p2:Int))=false:=by simp;omega
    have bn:gs<4294967296:=by omega
    have az:=lH (hP.near aG bn (by rw [←bk.out,←bt.out];omega))
    go_wp2_with fail
    go_big_quiet (fail)
    go_wp2_with fail
    refine (subtract_at _ g o (k+3) c L (Holds.drewN hR _) hdL hon hnc hc63 (by omega) (some ⟨b',off',none⟩) c' B' V (fun w' hg=>hV w' (a6.out _ _ hg)) hdV (k+2) aY (by omega) gs (by omega)).mono ?_
    rintro e w2 ⟨L1,ao,rfl,aT,aQ,av,aO,aC,ak,ai⟩
    have aN:=lH aQ
    have am:=lH (show val (seg L1 o (k+3))+gs*val V=U+pw (k+3)*ao by rw [HU.out];exact ak)
    have ae:=lH ai
    clear aQ ak ai
    have ax:=lH (a6.out _ _ aC)
    clear aC
    by_cases hl0:ao=0
    ·have Hr:=lH (took aM bl am hl0)
     subst hl0
     go_wp2_with fail
     go_ret
     exact ⟨L1,gs,rfl,by rw [←HU.out];exact Hr.out.1,aN,av,aO,ax,by rw [←HU.out];exact Hr.out.2,ae⟩
    ·have hl0':((ao:Int) == 0)=false:=by simp;omega
     have Hr:=lH (lent_one aM a8 bl az (seg_lt av o (k+3)) am hl0)
     go_wp2_with fail
     go_loopw [9,87] (fun ov si wr=>∃ (i v:Nat) (L2:List Nat),i≤k+2∧si = .int .i64 i∧ov = .int .u64 v∧v≤1∧L2.length=L.length∧Dg L2∧Row .u32 22 wr g L2∧w.grownBy wr (some g) ∧
       Hid (val (seg L2 o i)+pw i*v=val (seg L1 o i)+val (V.take i))∧Hid (∀ j,j<o∨o+i≤j→L2.getD j 0=L1.getD j 0))
      (fun _ si _=>k+2 - (intOf si).toNat)
     case atStart=>exact ⟨0,0,L1,by omega,rfl,rfl,by omega,aN,av,aO,ax,by show _=_;simp [seg_zero,val],fun _ _=>rfl⟩
     case round =>
      obtain ⟨i,v,L2,hi,rfl,rfl,hv,aR,aD,ay,au,aB,aA⟩:=hrel
      have aw:=lH aR
      clear aR
      have bd:=ay.open_
      by_cases h:i<k+2
      ·have ab:=ay.cell (i:=o+i) (by rw [aw.out];omega)
       obtain ⟨x,Hx⟩:∃ x,Hid (x=L2.getD (o+i) 0):=⟨_,rfl⟩
       rw [←Hx.out] at ab
       have a_:x<4294967296:=by rw [Hx.out];exact aD.at_ _
       obtain ⟨_,_,y,e0,_,hy,Hy⟩:=(hV _ au).at_ (i:=i) (by omega)
       obtain ⟨rfl,rfl⟩:b'=_∧off'=_:=by injection e0 with e0;injection e0 with e1 e2;exact ⟨e1,e2⟩
       clear e0
       have bC:y<4294967296:=by rw [Hy.out];exact hdV.at_ i
       obtain ⟨s,Hs⟩:∃ s,Hid (s=x+y):=⟨_,rfl⟩
       obtain ⟨t,Ht⟩:∃ t,Hid (t=v+(x+y)):=⟨_,rfl⟩
       have bc:(x:Int)+(y:Int)=(s:Int):=by have:=Hs.out;omega
       have bf:(v:Int)+(s:Int)=(t:Int):=by have:=Hs.out;have:=Ht.out;omega
       have bE:s<8589934592:=by have:=Hs.out;omega
       have bA:t≤8589934591:=by have:=Ht.out;omega
       have Hp:=lH (give_round (by rw [aw.out];omega) aB aA Hx Hy Ht)
       go_wp2_with fail
       go_big_quiet (fail)
       go_wp2_with fail
       have aK:=Row.set (Holds.drewN ay nq) (o+i) (t % 4294967296)
       exact ⟨⟨i+1,t / 4294967296,_,by omega,by go_num,by go_num,by omega,by rw [List.length_set];exact aw.out,aD.set _ _ (by omega),aK,one_setCell (one_drewN au _) _ _,Hp.out.1,Hp.out.2⟩,by simp [intOf];omega⟩
      ·have Hi:=lH (show i=k+2 by omega)
       have ab:=ay.cell (i:=o+(k+2)) (by rw [aw.out];omega)
       obtain ⟨x,Hx⟩:∃ x,Hid (x=L2.getD (o+(k+2)) 0):=⟨_,rfl⟩
       rw [←Hx.out] at ab
       have a_:x<4294967296:=by rw [Hx.out];exact aD.at_ _
       have Hp:=lH (give_end (n:=k+2) (U:=U) (W:=val V) (Nat.le_of_eq aY) (by rw [aw.out];omega) (by have:=aB.out;rwa [Hi.out] at this) (by have:=aA.out;rwa [Hi.out] at this) Hx aD (Hr.out.2.2) (Nat.lt_of_lt_of_le (Nat.mod_lt _ aM) a8))
       have aJ:=lH (show U / val V+1=gs from Hr.out.2.1.symm)
       obtain ⟨d,Hd⟩:∃ d,Hid (d=U / val V):=⟨_,rfl⟩
       rw [←Hd.out] at aJ
       have bD:(gs:Int) - 1=(d:Int):=by have:=aJ.out;omega
       have bz:d<4294967296:=by have:=aJ.out;omega
       go_wp2_with fail
       have aK:=ay.set (o+(k+2)) ((x+v) % 4294967296)
       go_ret
       exact ⟨_,d,rfl,by rw [←HU.out];exact Hd.out,by rw [List.length_set];exact aw.out,aD.set _ _ (by omega),aK,one_setCell au _ _,by rw [←HU.out];exact Hp.out.1,fun j hj=>by rw [Hp.out.2 j hj];exact ae.out j hj⟩
end Go.Proofs.YtflfdglpljodbaaDoor
