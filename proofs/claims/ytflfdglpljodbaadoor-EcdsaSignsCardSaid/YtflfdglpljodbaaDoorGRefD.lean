/-
  The document's own division: a digit guessed. The document's own division: a digit's product taken away, and given back where it was one too many. The document's own division: quotient and rest.
-/
import Derived.Test.YtflfdglpljodbaaDoorGRefA
import Derived.Deep.RegionHeld3
import Derived.Test.YtflfdglpljodbaaDoorGPure2
import Derived.Test.YtflfdglpljodbaaDoorGCop
set_option maxRecDepth 100000
set_option maxHeartbeats 4000000
set_option linter.unusedVariables false
set_option linter.unusedSimpArgs false
namespace Go.Proofs.YtflfdglpljodbaaDoor
open Go.RowKit
theorem guess_any (w:World) (B B':Nat) (A A':Option Addr) (c c' o k:Nat) (L V:List Nat) (hr:Rd .u32 w B A c L) (hr':Rd .u32 w B' A' c' V) (hdL:Dg L) (hdV:Dg V) (hon:o+(k+3)≤L.length) (hLl:L.length≤5000) (hk5:k≤4900) (hkV:V.length=k+2) (htop:2147483648≤V.getD (k+1) 0) (hlt:val (seg L o (k+3))<4294967296*val V) :
  Calls Tryd.prog 105 #[.slice A L.length c,.slice A' (k+2) c',.int .i64 o] w fun e w'=>∃ g:Nat,e = .returned (.int .u64 g)∧g<4294967296∧val (seg L o (k+3)) / val V≤g∧g*val V<val (seg L o (k+3))+val V∧∃ q,w'=w.drewN q:=by
 have hP:=parts_of hdL hdV hkV htop hlt
 have hlc:=hr.1
 have hlc63:=hr.2.1
 have hlc':=hr'.1
 have hlc63':=hr'.2.1
 obtain ⟨b,aB,u0,rfl,hb,hc0,aQ⟩:=hr.at_ (i:=o+(k+2)) (by omega)
 obtain ⟨_,_,u1,e0,_,hc1,aR⟩:=hr.at_ (i:=o+(k+1)) (by omega)
 obtain ⟨rfl,rfl⟩:b=_∧aB=_:=by injection e0 with e0;injection e0 with e1 e2;exact ⟨e1,e2⟩
 clear e0
 obtain ⟨_,_,u2,e0,_,aM,aV⟩:=hr.at_ (i:=o+k) (by omega)
 obtain ⟨rfl,rfl⟩:b=_∧aB=_:=by injection e0 with e0;injection e0 with e1 e2;exact ⟨e1,e2⟩
 clear e0
 obtain ⟨b',off',y1,rfl,hb',hy1,aX⟩:=hr'.at_ (i:=k+1) (by omega)
 obtain ⟨U,HU⟩:∃ U,Hid (U=val (seg L o (k+3))):=⟨_,rfl⟩
 obtain ⟨y2,aO⟩:∃ y,Hid (y=V.getD k 0):=⟨_,rfl⟩
 rw [←aQ.out,←aR.out,←aV.out,←aX.out,←aO.out,←HU.out] at hP
 have aY:u0<4294967296:=by rw [aQ.out];exact hdL.at_ _
 have hu1:=hP.hu1
 have hu2:=hP.hu2
 have hv1:=hP.hv1
 have hv1':=hP.hv1'
 have hv2:=hP.hv2
 have aJ:=hP.two_lt
 have aW:=or_u64 u0 u1 aY hu1
 obtain ⟨ao,ay⟩:∃ t,Hid (t=u0*4294967296+u1):=⟨_,rfl⟩
 rw [←ay.out] at aW aJ
 obtain ⟨g0,aA⟩:∃ d,Hid (d=ao / y1):=⟨_,rfl⟩
 obtain ⟨r0,aG⟩:∃ d,Hid (d=ao % y1):=⟨_,rfl⟩
 have Hq:=lH (show IntKind.u64.wrap ((ao:Int) / (y1:Int))=(g0:Int) by
  rw [show ((ao:Int) / (y1:Int))=(g0:Int) by rw [aA.out];rfl]
  have:ao / y1≤ao:=Nat.div_le_self _ _
  exact u64_in _ (by omega) (by have:=aA.out;omega))
 have Hm:=lH (show (ao:Int) % (y1:Int)=(r0:Int) by rw [aG.out];rfl)
 have hy1z:((y1:Int) == 0)=false:=by simp;omega
 have hVl:(V.length:Int)=(k:Int)+2:=by omega
 have aE:∀ W,Rd .u32 W B' (some ⟨b',off',none⟩) c' V→Calls Tryd.prog 64 #[.slice (some ⟨b',off',none⟩) (k+2) c',.int .i64 (k:Int)] W fun e w'=>e = .returned (.int .u64 (y2:Int))∧W=w':=fun W hW=>by
  have h:=digit_any W B' _ c' V hW hdV k (by omega) y2 aO.out.symm
  rw [hkV] at h
  exact h
 have av:=lH aE
 clear aE
 have hto:((o:Int)+((k:Int)+2) - 2).toNat=o+k:=by omega
 have hto2:o+(k+2) - 2=o+k:=by omega
 have hi0:(0:Int)≤(o:Int)+((k:Int)+2) - 2:=by omega
 have hi1:(o:Int)+((k:Int)+2) - 2<(L.length:Int):=by omega
 have hw1:IntKind.i64.wrap ((o:Int)+((k:Int)+2))=(o:Int)+((k:Int)+2):=IntWalk.i64_in _ (by omega)
 have hw2:IntKind.i64.wrap ((o:Int)+((k:Int)+2) - 2)=(o:Int)+((k:Int)+2) - 2:=IntWalk.i64_in _ (by omega)
 have hw3:IntKind.i64.wrap (k:Int)=(k:Int):=IntWalk.i64_in _ (by omega)
 have hw4:IntKind.i64.wrap ((o:Int)+(k:Int))=(o:Int)+(k:Int):=IntWalk.i64_in _ (by omega)
 have hj0:(0:Int)≤(o:Int)+(k:Int):=by omega
 have hi2:(2:Int)≤(o:Int)+((k:Int)+2):=by omega
 have hi3:(2:Int)≤(o:Int)+(k:Int)+2:=by omega
 have hj1:(o:Int)+(k:Int)<(L.length:Int):=by omega
 have hjt:((o:Int)+(k:Int)).toNat=o+k:=by omega
 go_enter Tryd.func105,Tryd.ntmps105
 go_wp2_with fail
 go_big_quiet (fail)
 go_wp2_with fail
 go_big_quiet (fail)
 go_wp2_with fail
 rw [Hq.out,Hm.out]
 try simp only [show o+(k+2) - 1=o+(k+1) by omega,show k+2 - 1=k+1 from rfl,show (o:Int)+((k:Int)+2) - 1=(o:Int)+((k:Int)+1) by omega,show (k:Int)+2 - 1=(k:Int)+1 by omega]
 go_loopw [9,10] (fun sg sr wr=>∃ gs rs q:Nat,sg = .int .u64 gs∧sr = .int .u64 rs∧wr=w.drewN q∧rs<4294967296∧gs<18446744073709551616∧Hid (U / val V≤gs)∧Hid (gs*y1+rs=u0*4294967296+u1))
  (fun sg _ _=>(intOf sg).toNat)
 case atStart=>exact ⟨g0,r0,_,rfl,rfl,World.drewN_drewN ..,by have:=Nat.mod_lt ao (show 0<y1 by omega);have:=aG.out;omega,by have:=Nat.div_le_self ao y1;have:=aA.out;omega,by rw [aA.out,ay.out];exact hP.first,by rw [aA.out,aG.out,←ay.out,Nat.mul_comm];exact Nat.div_add_mod _ _⟩
 case round =>
  obtain ⟨gs,rs,q,rfl,rfl,rfl,a9,hgs,aN,ai⟩:=hrel
  have hrs1:decide ((rs:Int)<4294967296)=true:=decide_eq_true (by omega)
  by_cases hbig:4294967296≤gs
  ·have aU:decide ((4294967296:Int)≤(gs:Int))=true:=decide_eq_true (by omega)
   have ae:=hP.less aN ai (.inl hbig)
   obtain ⟨gp,am⟩:∃ gp,Hid (gs=gp+1):=⟨gs - 1,(Nat.sub_add_cancel (Nat.le_trans (Nat.le_add_left 1 _) ae)).symm⟩
   have ak:=lH (show U / val V≤gp from Nat.le_of_succ_le_succ (show U / val V+1≤gp+1 by rw [←am.out];exact ae))
   have ab:=lH (show gp*y1+(rs+y1)=u0*4294967296+u1 by have:=ai.out;rw [am.out,Nat.add_mul] at this;omega)
   have a8:gp<18446744073709551615:=by have:=am.out;omega
   have aT:(gs:Int) - 1=(gp:Int):=by have:=am.out;omega
   clear ae
   obtain ⟨r1,aw⟩:∃ r1,Hid (r1=rs+y1):=⟨_,rfl⟩
   have a6:(rs:Int)+(y1:Int)=(r1:Int):=by have:=aw.out;omega
   have aH:r1<8589934592:=by have:=aw.out;omega
   rw [←aw.out] at ab
   by_cases hov:r1<4294967296
   ·have ax:decide ((4294967296:Int)≤(r1:Int))=false:=decide_eq_false (by omega)
    go_wp2_with fail
    go_big_quiet (fail)
    rw [World.drewN_drewN]
    generalize q+nq=q2 at *
    go_wp2_with fail
    go_roundw
    case rel=>exact ⟨gp,r1,q2,rfl,rfl,rfl,hov,by omega,ak,ab⟩
    case measure=>have:=am.out;simp [intOf];omega
   ·have ax:decide ((4294967296:Int)≤(r1:Int))=true:=decide_eq_true (by omega)
    have au:=lH (hP.over ab (by omega))
    have az:gp<4294967296:=au.out.1
    have ac:=lH (hP.near ab au.out.1 au.out.2)
    go_wp2_with fail
    go_big_quiet (fail)
    rw [World.drewN_drewN]
    generalize q+nq=q2 at *
    go_wp2_with fail
    go_ret
    exact ⟨gp,rfl,az,by rw [←HU.out];exact ak.out,by rw [←HU.out];exact ac.out,q2,rfl⟩
  ·have aU:decide ((4294967296:Int)≤(gs:Int))=false:=decide_eq_false (by omega)
   obtain ⟨p2,aF⟩:∃ p,Hid (p=gs*y2):=⟨_,rfl⟩
   have hmul:(gs:Int)*(y2:Int)=(p2:Int):=by rw [aF.out,Int.natCast_mul]
   have hp2l:p2≤18446744065119617025:=by
    rw [aF.out]
    exact Nat.mul_le_mul (show gs≤4294967295 by omega) (show y2≤4294967295 by omega)
   have aL:=or_u64 rs u2 a9 hu2
   obtain ⟨t2,aK⟩:∃ t,Hid (t=rs*4294967296+u2):=⟨_,rfl⟩
   rw [←aK.out] at aL
   have hwr:IntKind.u64.wrap ((rs:Int)*4294967296)=(rs:Int)*4294967296:=u64_in _ (by omega) (by omega)
   have hwu:IntKind.u64.wrap (u2:Int)=(u2:Int):=u64_in _ (by omega) (by omega)
   have hwp:IntKind.u64.wrap (p2:Int)=(p2:Int):=u64_in _ (by omega) (by omega)
   by_cases hcmp:t2<p2
   ·have aD:decide ((t2:Int)<(p2:Int))=true:=decide_eq_true (by omega)
    have ae:=hP.less aN ai (.inr (by rw [←aF.out,←aK.out];exact hcmp))
    obtain ⟨gp,am⟩:∃ gp,Hid (gs=gp+1):=⟨gs - 1,(Nat.sub_add_cancel (Nat.le_trans (Nat.le_add_left 1 _) ae)).symm⟩
    have ak:=lH (show U / val V≤gp from Nat.le_of_succ_le_succ (show U / val V+1≤gp+1 by rw [←am.out];exact ae))
    have ab:=lH (show gp*y1+(rs+y1)=u0*4294967296+u1 by have:=ai.out;rw [am.out,Nat.add_mul] at this;omega)
    have a8:gp<18446744073709551615:=by have:=am.out;omega
    have aT:(gs:Int) - 1=(gp:Int):=by have:=am.out;omega
    clear ae
    obtain ⟨r1,aw⟩:∃ r1,Hid (r1=rs+y1):=⟨_,rfl⟩
    have a6:(rs:Int)+(y1:Int)=(r1:Int):=by have:=aw.out;omega
    have aH:r1<8589934592:=by have:=aw.out;omega
    rw [←aw.out] at ab
    by_cases hov:r1<4294967296
    ·have ax:decide ((4294967296:Int)≤(r1:Int))=false:=decide_eq_false (by omega)
     go_wp2_with fail
     go_region_held3 (fun X=>X.cell? ⟨b,aB+(o+k),none⟩=some (.int .u32 (u2:Int))∧Rd .u32 X B' (some ⟨b',off',none⟩) c' V)
      (first | exact ⟨aM,hr'⟩)
      (first | (go_at_call 64;(with_reducible refine (av.out _ (hr'.drewN _)).mono ?_);rintro e w4 ⟨rfl,rfl⟩))
     go_wp2_with fail
     go_roundw
     case rel=>exact ⟨gp,r1,q+1,rfl,rfl,rfl,hov,by omega,ak,ab⟩
     case measure=>have:=am.out;simp [intOf];omega
    ·have ax:decide ((4294967296:Int)≤(r1:Int))=true:=decide_eq_true (by omega)
     have au:=lH (hP.over ab (by omega))
     have az:gp<4294967296:=au.out.1
     have ac:=lH (hP.near ab au.out.1 au.out.2)
     go_wp2_with fail
     go_region_held3 (fun X=>X.cell? ⟨b,aB+(o+k),none⟩=some (.int .u32 (u2:Int))∧Rd .u32 X B' (some ⟨b',off',none⟩) c' V)
      (first | exact ⟨aM,hr'⟩)
      (first | (go_at_call 64;(with_reducible refine (av.out _ (hr'.drewN _)).mono ?_);rintro e w4 ⟨rfl,rfl⟩))
     go_wp2_with fail
     go_ret
     exact ⟨gp,rfl,az,by rw [←HU.out];exact ak.out,by rw [←HU.out];exact ac.out,q+1,rfl⟩
   ·have aD:decide ((t2:Int)<(p2:Int))=false:=decide_eq_false (by omega)
    have aC:gs<4294967296:=by omega
    have ac:=lH (hP.near ai aC (by rw [←aF.out,←aK.out];omega))
    go_wp2_with fail
    go_region_held3 (fun X=>X.cell? ⟨b,aB+(o+k),none⟩=some (.int .u32 (u2:Int))∧Rd .u32 X B' (some ⟨b',off',none⟩) c' V)
     (first | exact ⟨aM,hr'⟩)
     (first | (go_at_call 64;(with_reducible refine (av.out _ (hr'.drewN _)).mono ?_);rintro e w4 ⟨rfl,rfl⟩))
    go_wp2_with fail
    go_ret
    exact ⟨gs,rfl,aC,by rw [←HU.out];exact aN.out,by rw [←HU.out];exact ac.out,q+1,rfl⟩
theorem and_low (p:Nat) (h:p<18446744073709551616):bits .and .u64 (p:Int) 4294967295=((p % 4294967296:Nat):Int):=by
 have h1:=bits_mask .u64 64 (by decide) (fun n h0 h1=>by exact u64_in n h0 (by omega)) 32 (by decide) (p:Int) (by omega) (by omega)
 have e:((2:Int) ^ 32 - 1)=4294967295:=by decide
 rw [e] at h1
 rw [h1]
 omega
theorem take_round {L L2 V:List Nat} {o i q lent x y d lent':Nat} (hL:o+i<L2.length) (hval:val (seg L2 o i)+q*val (V.take i)=val (seg L o i)+pw i*lent) (hfar:∀ j,j<o∨o+i≤j→L2.getD j 0=L.getD j 0)
  (hx:x=L2.getD (o+i) 0) (hy:y=V.getD i 0) (hd:d+q*y+lent=x+4294967296*lent') :
  val (seg (L2.set (o+i) d) o (i+1))+q*val (V.take (i+1))=val (seg L o (i+1))+pw (i+1)*lent'∧∀ j,j<o∨o+(i+1)≤j→(L2.set (o+i) d).getD j 0=L.getD j 0:=by
 constructor
 ·rw [seg_succ,seg_succ,val_take_succ,pw_succ,←hy]
  have e1:val (seg (L2.set (o+i) d) o i)=val (seg L2 o i):=seg_same i fun j hj=>by rw [getD_set,if_neg (by omega)]
  have e2:(L2.set (o+i) d).getD (o+i) 0=d:=by rw [getD_set,if_pos ⟨rfl,hL⟩]
  have e3:L.getD (o+i) 0=x:=by rw [hx,hfar _ (.inr (Nat.le_refl _))]
  rw [e1,e2,e3,Nat.mul_add,Nat.mul_left_comm q (pw i) y,Nat.mul_comm 4294967296 (pw i),Nat.mul_assoc]
  have h2:=congrArg (fun t=>pw i*t) hd
  simp only [Nat.mul_add] at h2
  omega
 ·intro j hj
  rw [getD_set,if_neg (by omega)]
  exact hfar j (by omega)
theorem take_digit {x y q cr bo:Nat} (hx:x<4294967296) (hy:y<4294967296) (hq:q<4294967296) (hc:cr<4294967296) (hb:bo≤1) :
  ∃ p pl s:Nat,p=q*y+cr∧p<18446744073709551616∧pl=p % 4294967296∧s+pl+bo=x+4294967296∧s<8589934592 ∧
   s % 4294967296+q*y+(cr+bo)=x+4294967296*(p / 4294967296+(1 - s / 4294967296))∧p / 4294967296<4294967296∧q*y≤18446744065119617025:=by
 have h1:q*y≤4294967295*4294967295:=Nat.mul_le_mul (by omega) (by omega)
 refine ⟨q*y+cr,(q*y+cr) % 4294967296,x+4294967296 - (q*y+cr) % 4294967296 - bo,rfl,by omega,rfl,by omega,by omega,?_,by omega,by omega⟩
 generalize q*y=m at *
 omega
def RelL (w:World) (g o k q:Nat) (L V:List Nat) (sb sc si:Value) (wr:World):Prop :=
 ∃ (i bo cr:Nat) (L2:List Nat),i≤k+3∧si = .int .i64 i∧sb = .int .u64 bo∧sc = .int .u64 cr∧bo≤1∧cr<4294967296∧Hid (i=k+3→cr=0)∧L2.length=L.length∧Dg L2∧Row .u32 22 wr g L2∧w.grownBy wr (some g) ∧
  Hid (val (seg L2 o i)+q*val (V.take i)=val (seg L o i)+pw i*(cr+bo))∧Hid (∀ j,j<o∨o+i≤j→L2.getD j 0=L.getD j 0)
def RelG (w:World) (g o k:Nat) (L1 V:List Nat) (ss si:Value) (wr:World):Prop :=
 ∃ (i v:Nat) (L2:List Nat),i≤k+3∧si = .int .i64 i∧ss = .int .u64 v∧v≤1∧L2.length=L1.length∧Dg L2∧Row .u32 22 wr g L2∧w.grownBy wr (some g) ∧
  Hid (val (seg L2 o i)+pw i*v=val (seg L1 o i)+val (V.take i))∧Hid (∀ j,j<o∨o+i≤j→L2.getD j 0=L1.getD j 0)
def LessPost (w:World) (g o k n q U:Nat) (L V:List Nat) (e:Ending) (w':World):Prop :=
 ∃ (L':List Nat) (r:Bool),e = .returned (.bool r)∧U / val V+(if r then 0 else 1)=q∧L'.length=n∧Dg L'∧Row .u32 22 w' g L'∧w.grownBy w' (some g) ∧
   val (seg L' o (k+3))=U % val V∧∀ j,j<o∨o+(k+3)≤j→L'.getD j 0=L.getD j 0
theorem less_any (w:World) (g o c k n:Nat) (L:List Nat) (hn:L.length=n) (hR:Row .u32 22 w g L) (hdL:Dg L) (hon:o+(k+3)≤n) (hnc:n≤c) (hc63:c≤9223372036854775807) (hk5:k≤4900) (hn5:n≤10000)
  (A':Option Addr) (c' B':Nat) (V:List Nat) (hV:∀ w',w.grownBy w' (some g)→Rd .u32 w' B' A' c' V) (hdV:Dg V) (hkV:V.length=k+2) (q:Nat) (hq:q<4294967296) (U:Nat) (hU:U=val (seg L o (k+3))) (hvp:0<val V)
  (hge:U / val V≤q) (hnear:q*val V<U+val V) :
  Calls Tryd.prog 106 #[.slice (some ⟨g,0,none⟩) n c,.slice A' (k+2) c',.int .i64 o,.int .u64 q] w (LessPost w g o k n q U L V):=by
 have aW:=lH (show val V≤pw (k+3) by
  have h1:=val_lt hdV
  have h2:=pw_mono (show V.length≤k+3 by omega)
  omega)
 have HU:=lH hU
 have aX:=lH hge
 have aA:=lH hnear
 have HN:=lH hn
 have aH:=lH hkV
 have aL:=lH hvp
 have aB:∀ W,w.grownBy W (some g)→∀ i:Nat,i≤k+2→∀ y,V.getD i 0=y→Calls Tryd.prog 64 #[.slice A' (k+2) c',.int .i64 i] W fun e w'=>e = .returned (.int .u64 (y:Int))∧W=w':=fun W hW i hi y hy=>by
  have h:=digit_any W B' A' c' V (hV W hW) hdV i (by omega) y hy
  rwa [hkV] at h
 have az:=lH aB
 have hVc:=(hV w (World.grownBy.refl w _)).1
 have hVc63:=(hV w (World.grownBy.refl w _)).2.1
 clear aB hU hge hnear hn hkV hV hvp
 go_enter Tryd.func106,Tryd.ntmps106
 go_wp2_with fail
 go_loopw [9,10,11] (fun sb sc si wr=>RelL w g o k q L V sb sc si wr) (fun _ _ si _=>k+3 - (intOf si).toNat)
 case atStart=>exact ⟨0,0,0,L,by omega,rfl,rfl,rfl,by omega,by omega,lH (fun h=>by omega),rfl,hdL,hR,World.grownBy.refl w _,lH (by simp [seg_zero,val]),lH (fun _ _=>rfl)⟩
 case round =>
  obtain ⟨i,bo,cr,L2,hi,rfl,rfl,rfl,bu,bk,aN,aV,ab,ax,aD,aC,ao⟩:=hrel
  have au:=lH (show L2.length=n by rw [aV];exact HN.out)
  clear aV
  by_cases hik:i<k+3
  case pos =>
   have b1:decide ((i:Int)≤(k:Int)+2)=true:=decide_eq_true (by omega)
   obtain ⟨y,Hy⟩:∃ y,Hid (V.getD i 0=y):=⟨_,rfl⟩
   obtain ⟨x,Hx⟩:∃ x,Hid (x=L2.getD (o+i) 0):=⟨_,rfl⟩
   have av:y<4294967296:=by rw [←Hy.out];exact hdV.at_ i
   have aw:x<4294967296:=by rw [Hx.out];exact ab.at_ _
   obtain ⟨p,pl,s,hp,aG,bt,hs,aO,Hd,br,a9⟩:=take_digit (q:=q) aw av hq bk bu
   have hpl32:pl<4294967296:=by omega
   obtain ⟨m,hm⟩:∃ m,m=q*y:=⟨_,rfl⟩
   have hqyI:(q:Int)*(y:Int)=(m:Int):=by rw [hm,Int.natCast_mul]
   rw [←hm] at hp a9 Hd
   have hpI:(m:Int)+(cr:Int)=(p:Int):=by omega
   have aK:=and_low p aG
   rw [←bt] at aK
   have a6:(x:Int)+4294967296 - (pl:Int) - (bo:Int)=(s:Int):=by omega
   have HD:=lH Hd
   have HM:=lH hm
   have HP:=lH hp
   have hc:=ax.cell (i:=o+i) (by rw [au.out];omega)
   rw [←Hx.out] at hc
   have aY:=ax.open_ (o+i)
   have bl:(0:Int)≤(o:Int)+(i:Int):=by omega
   have bf:(o:Int)+(i:Int)<(n:Int):=by omega
   have ba:((o:Int)+(i:Int)).toNat=o+i:=by omega
   clear Hd hm hp
   go_wp2_with fail
   refine (az.out _ aD i (by omega) y Hy).mono ?_
   rintro e w3 ⟨rfl,rfl⟩
   go_wp2_with fail
   have bn:(x:Int)+4294967296 - (p:Int) % 4294967296 - (bo:Int)=(s:Int):=by omega
   rw [bn]
   have aQ:=ax.set (o+i) (s % 4294967296)
   have aF:=one_setCell aD (o+i) (.int .u32 ((s % 4294967296:Nat):Int))
   have ac:=lH (take_round (d:=s % 4294967296) (lent':=p / 4294967296+(1 - s / 4294967296)) (by rw [au.out];omega) aC ao Hx Hy.out.symm (by rw [←HM.out];exact HD.out))
   have aM:Hid (i+1=k+3→p / 4294967296=0):=lH (fun e=>by
    have bm:y=0:=by
     rw [←Hy.out,List.getD,List.getElem?_eq_none (by rw [aH.out];omega)]
     rfl
    have bs:=HM.out
    rw [bm,Nat.mul_zero] at bs
    have:=HP.out
    omega)
   go_roundw
   case rel=>exact ⟨i+1,1 - s / 4294967296,p / 4294967296,_,by omega,by go_num,by go_num,by go_num,by omega,br,aM,by rw [List.length_set,au.out,HN.out],ab.set _ _ (by omega),aQ,aF,lH ac.out.1,lH ac.out.2⟩
   case measure=>simp [intOf];omega
  case neg =>
  obtain rfl:i=k+3:=by omega
  have aJ:=aN.out rfl
  subst aJ
  have b1:decide ((k:Int)+3≤(k:Int)+2)=false:=decide_eq_false (by omega)
  have am:=lH (show val (seg L2 o (k+3))+q*val V=U+pw (k+3)*bo by
   have h:=aC.out
   rw [val_take_all V _ (by rw [aH.out];omega),←HU.out,Nat.zero_add] at h
   exact h)
  by_cases hb0:bo=0
  case pos =>
   subst hb0
   have Hr:=lH (took aL aX am rfl)
   go_wp2_with fail
   go_ret
   exact ⟨L2,true,rfl,by simpa using Hr.out.1.symm,au,ab,ax,aD,Hr.out.2,ao⟩
  case neg =>
  have hb0':((bo:Int) == 0)=false:=by simp;omega
  have Hr:=lH (lent_one aL aW aX aA (seg_lt ab o (k+3)) am hb0)
  go_wp2_with fail
  go_loopw [14,15] (fun ss si wr=>RelG w g o k L2 V ss si wr) (fun _ si _=>k+3 - (intOf si).toNat)
  case atStart=>exact ⟨0,0,L2,by omega,rfl,rfl,by omega,rfl,ab,ax,aD,lH (by simp [seg_zero,val]),lH (fun _ _=>rfl)⟩
  case round =>
   obtain ⟨i,v,L3,hi,rfl,rfl,hv,aU,ae,aE,aT,ak,ai⟩:=hrel
   have ay:=lH (show L3.length=n by rw [aU];exact au.out)
   clear aU
   by_cases hik3:i<k+3
   case pos =>
    have b2:decide ((i:Int)≤(k:Int)+2)=true:=decide_eq_true (by omega)
    obtain ⟨y,Hy⟩:∃ y,Hid (V.getD i 0=y):=⟨_,rfl⟩
    obtain ⟨x,Hx⟩:∃ x,Hid (x=L3.getD (o+i) 0):=⟨_,rfl⟩
    have av:y<4294967296:=by rw [←Hy.out];exact hdV.at_ i
    have aw:x<4294967296:=by rw [Hx.out];exact ae.at_ _
    have hc:=aE.cell (i:=o+i) (by rw [ay.out];omega)
    rw [←Hx.out] at hc
    have aY:=aE.open_ (o+i)
    have bl:(0:Int)≤(o:Int)+(i:Int):=by omega
    have bf:(o:Int)+(i:Int)<(n:Int):=by omega
    have ba:((o:Int)+(i:Int)).toNat=o+i:=by omega
    obtain ⟨W5,bd⟩:∃ W,W=wr:=⟨_,rfl⟩
    subst bd
    have bc:=lH aT
    obtain ⟨s,hs⟩:∃ s,s=v+(x+y):=⟨_,rfl⟩
    have a6:(x:Int)+(y:Int)+(v:Int)=(s:Int):=by omega
    have aO:s<8589934592:=by omega
    go_wp2_with fail
    go_quiet ((go_at_call 64;exact (az.out _ (one_drewN bc _) i (by omega) y Hy).mono (fun e w' h=>⟨h.1,_,h.2.symm⟩)))
    have aR:Row .u32 22 (W5.drewN nq) g L3:=aE.drewN nq
    have a8:=one_drewN aT nq
    generalize W5.drewN nq=W6 at *
    have a_:=aR.cell (i:=o+i) (by rw [ay.out];omega)
    rw [←Hx.out] at a_
    have hfr6:=aR.open_ (o+i)
    clear hc aY
    go_wp2_with fail
    have aQ:=aR.set (o+i) (s % 4294967296)
    have aF:=one_setCell a8 (o+i) (.int .u32 ((s % 4294967296:Nat):Int))
    have ac:=lH (give_round (t:=s) (by rw [ay.out];omega) ak ai Hx Hy.out.symm hs)
    rw [show (v:Int)+((x:Int)+(y:Int))=(s:Int) by omega]
    go_roundw
    case rel=>exact ⟨i+1,s / 4294967296,_,by omega,by go_num,by go_num,by omega,by rw [List.length_set,ay.out,au.out],ae.set _ _ (by omega),aQ,aF,lH ac.out.1,lH ac.out.2⟩
    case measure=>simp [intOf];omega
   case neg =>
    obtain rfl:i=k+3:=by omega
    have b1:decide ((k:Int)+3≤(k:Int)+2)=false:=decide_eq_false (by omega)
    have HE:=lH (show val (seg L3 o (k+3))=U % val V from by
     have h:=ak.out
     rw [val_take_all V _ (by rw [aH.out];omega)] at h
     exact back_in (c:=v) h Hr.out.2.2 (seg_lt ae o (k+3)) (Nat.lt_of_lt_of_le (Nat.mod_lt _ aL) aW))
    have HF:=lH (show ∀ j,j<o∨o+(k+3)≤j→L3.getD j 0=L.getD j 0 from fun j hj=>(ai.out j hj).trans (ao.out j hj))
    go_wp2_with fail
    go_ret
    exact ⟨L3,false,rfl,by simpa using Hr.out.2.1.symm,ay,ae,aE,aT,HE,HF⟩
def DivR (w:World) (a b:Nat) (e:Ending) (w':World):Prop :=
 ∃ A2 c2 q A3 c3 r,e = .returned (.tuple #[.slice A2 q.length c2,.slice A3 r.length c3,.bool true])∧NumIs q (a / b)∧NumIs r (a % b)∧Rd .u32 w' w'.heap.size A2 c2 q∧Rd .u32 w' w'.heap.size A3 c3 r∧Below w.heap.size w w'
theorem Divided.r {w w':World} {a b:Nat} {e:Ending} (h:Divided w a b e w'):DivR w a b e w':=by
 obtain ⟨A2,c2,q,A3,c3,r,h1,h2,h3,h4,h5,h6⟩:=h
 exact ⟨A2,c2,q,A3,c3,r,h1,h2,h3,h4.1,h5.1,h6⟩
theorem guess_at (w:World) (B B':Nat) (A A':Option Addr) (c c' o k n:Nat) (L V:List Nat) (hn:L.length=n) (hr:Rd .u32 w B A c L) (hr':Rd .u32 w B' A' c' V) (hdL:Dg L) (hdV:Dg V) (hon:o+(k+3)≤n) (hLl:n≤5000) (hk5:k≤4900) (hkV:V.length=k+2) (htop:2147483648≤V.getD (k+1) 0) (hlt:val (seg L o (k+3))<4294967296*val V) :
  Calls Tryd.prog 105 #[.slice A n c,.slice A' (k+2) c',.int .i64 o] w fun e w'=>∃ g:Nat,e = .returned (.int .u64 g)∧g<4294967296∧val (seg L o (k+3)) / val V≤g∧g*val V<val (seg L o (k+3))+val V∧∃ q,w'=w.drewN q:=by
 subst hn
 exact guess_any w B B' A A' c c' o k L V hr hr' hdL hdV hon hLl hk5 hkV htop hlt
theorem cmp'_at (w:World) (B B':Nat) (A A':Option Addr) (c c' n n':Nat) (l l':List Nat) (hn:l.length=n) (hn':l'.length=n') (hr:Rd .u32 w B A c l) (hr':Rd .u32 w B' A' c' l') (v:Int) (hv:cmpL l l'=v) :
  Calls Tryd.prog 45 #[.slice A n c,.slice A' n' c'] w fun e w'=>e = .returned (.int .i64 v)∧∃ q,w'=w.drewN q:=by
 subst hn hn'
 exact cmp'_any w B B' A A' c c' l l' hr hr' v hv
theorem short'_at (w:World) (B:Nat) (A:Option Addr) (c n:Nat) (l:List Nat) (hn:l.length=n) (hr:Rd .u32 w B A c l) (hB:B≤w.heap.size) (hd:Dg l) (hs:n≤5000) (b:Nat) (hb0:0<b) (hb:b<4294967296) :
  Calls Tryd.prog 103 #[.slice A n c,.int .u64 b] w (Divided w (val l) b):=by
 subst hn
 exact short'_any w B A c l hr hB hd hs b hb0 hb
theorem top_fit {t:List Nat} {n top s:Nat} (hd:Dg t) (hn:t.length=n+1) (ht:top=t.getD n 0) (h1:2147483648≤top*2 ^ s) (h2:top*2 ^ s<4294967296) :
  val t*2 ^ s<pw (n+1)∧2147483648*pw n≤val t*2 ^ s:=by
 have hv:val t=val (t.take n)+pw n*top:=by
  rw [ht,←val_take_succ,val_take_all t _ (by omega)]
 have hlow:val (t.take n)<pw n:=by
  have:=val_lt (hd.take n)
  rwa [List.length_take,Nat.min_eq_left (by omega)] at this
 have hp:0<2 ^ s:=Nat.pow_pos (by omega)
 have hs31:s≤31:=by
  rcases Nat.lt_or_ge s 32 with h | h
  ·omega
  ·exfalso
   have ht0:1≤top:=by
    rcases Nat.eq_zero_or_pos top with h0 | h0
    ·rw [h0] at h1;omega
    ·exact h0
   have e1:2 ^ 32≤2 ^ s:=Nat.pow_le_pow_right (by omega) h
   have e2:1*2 ^ s≤top*2 ^ s:=Nat.mul_le_mul_right _ ht0
   omega
 have hs32:(top+1)*2 ^ s≤4294967296:=by
  have e:4294967296=2 ^ s*2 ^ (32 - s):=by rw [←Nat.pow_add,show s+(32 - s)=32 by omega]
  rw [e,Nat.mul_comm top] at h2
  have h3:=Nat.lt_of_mul_lt_mul_left h2
  rw [e,Nat.mul_comm]
  exact Nat.mul_le_mul_left _ h3
 rw [hv]
 constructor
 ·rw [pw_succ]
  have e1:(val (t.take n)+pw n*top)*2 ^ s<(pw n*(top+1))*2 ^ s:=by
   apply Nat.mul_lt_mul_of_pos_right _ hp
   rw [Nat.mul_add]
   omega
  have e2:pw n*(top+1)*2 ^ s=pw n*((top+1)*2 ^ s):=Nat.mul_assoc _ _ _
  have e3:pw n*((top+1)*2 ^ s)≤pw n*4294967296:=Nat.mul_le_mul_left _ hs32
  omega
 ·have e1:pw n*top*2 ^ s=pw n*(top*2 ^ s):=Nat.mul_assoc _ _ _
  have e2:pw n*2147483648≤pw n*(top*2 ^ s):=Nat.mul_le_mul_left _ h1
  rw [Nat.add_mul]
  omega
theorem div'_one (w:World) (B B':Nat) (A A':Option Addr) (c c' n:Nat) (l:List Nat) (x:Nat) (hn:l.length=n) (hr:Rd .u32 w B A c l) (hr':Rd .u32 w B' A' c' [x]) (hB:B≤w.heap.size) (hd:Dg l) (hs:n≤4000) (hx0:0<x) (hx4:x<4294967296) :
  Calls Tryd.prog 92 #[.slice A n c,.slice A' 1 c'] w (DivR w (val l) (val [x])):=by
 obtain ⟨b',off',x',rfl,hb',hx,Hx⟩:=hr'.at_ (i:=0) (by simp)
 obtain rfl:x'=x:=Hx.out
 rw [Nat.add_zero] at hx
 have hc1:1≤c':=hr'.1
 have hc63:c'≤9223372036854775807:=hr'.2.1
 have hlc:=hr.1
 have hlc63:=hr.2.1
 go_enter Tryd.func92,Tryd.ntmps92
 go_wp2_with fail
 refine (short'_at w B A c n l hn hr hB hd (by omega) x' hx0 hx4).mono ?_
 rintro e w1 h
 obtain ⟨A2,c2,q,A3,c3,r,rfl,h2,h3,h4,h5,h6⟩:=h.r
 go_wp2_with fail
 go_ret3
 exact ⟨A2,c2,q,A3,c3,r,rfl,by simpa [val] using h2,by simpa [val] using h3,h4,h5,h6⟩
theorem div'_less (w:World) (B B':Nat) (A A':Option Addr) (c c' n k:Nat) (l l':List Nat) (hn:l.length=n) (hk:l'.length=k+2) (hr:Rd .u32 w B A c l) (hr':Rd .u32 w B' A' c' l') (hB:B≤w.heap.size) (hd:Dg l) (hd':Dg l') (hnl:nrm l) (hnl':nrm l') (hs:n≤4000) (hk4:k+2≤4000) (hlt:val l<val l') :
  Calls Tryd.prog 92 #[.slice A n c,.slice A' (k+2) c'] w (DivR w (val l) (val l')):=by
 have hc:=cmp'_at w B B' A A' c c' n (k+2) l l' hn hk hr hr' (-1) (by rw [cmpL_val hd hd' hnl hnl',if_pos hlt])
 have HNq:Hid (NumIs ([]:List Nat) (val l / val l')):=lH (by rw [Nat.div_eq_of_lt hlt];exact num_nil)
 have HNr:Hid (NumIs l (val l % val l')):=lH (by rw [Nat.mod_eq_of_lt hlt];exact ⟨hd,hnl,rfl⟩)
 have HC:=lH hc
 have HN:=lH hn
 clear hc
 go_enter Tryd.func92,Tryd.ntmps92
 go_wp2_with fail
 refine HC.out.mono ?_
 rintro e w1 ⟨rfl,q,rfl⟩
 have hr1:=hr.drewN q
 have hb1:=(show Below w.heap.size w (w.drewN q) from ⟨rfl,rfl,rfl,Nat.le_refl _,fun _ _=>rfl⟩)
 generalize w.drewN q=W at *
 have hgw:(W.alloc (.cells #[] 22)).heap[W.heap.size]?=some (.cells #[] 22 (0,0)):=heap_alloc_new W _
 have hr2:=hr1.alloc (Nat.le_trans hB hb1.size) (.cells #[] 22)
 go_wp2_with (with_reducible refine wpList_copied _ rfl (.tmp 32) (.tmp 33) rfl W.heap.size B A c n l rfl rfl HN.out hr2 (by omega) hgw ?_)
 intro A2 c2 w2 hg2 hr3
 have hb2:Below w.heap.size w w2:=(hb1.alloc hb1.size _).trans (one_below hg2 hb1.size (Nat.le_trans hb1.size (by simp)))
 go_wp2_with fail
 go_ret3
 rw [←HN.out]
 exact ⟨none,0,[],A2,c2,l,rfl,HNq,HNr,Rd.nil_ _ _ _,hr3,hb2⟩
theorem below_drewN' {B:Nat} {a w:World} (h:Below B a w) (n:Nat):Below B a (w.drewN n):=⟨h.os,h.tape,h.output,h.size,h.block⟩
def DivEnd (w:World) (g h N m:Nat) (L Q:List Nat) (W:World):Prop :=
 Row .u32 22 W g L∧L.length=N∧Row .u32 22 W h Q∧Q.length=m∧w.heap.size≤g∧w.heap.size≤h∧Below w.heap.size w W
theorem DivEnd.next {w W W':World} {g h N m:Nat} {L Q:List Nat} (d:DivEnd w g h N m L Q W) (hb:Below W.heap.size W W'):DivEnd w g h N m L Q W' :=
 ⟨Holds.under d.1 hb (Holds.lt d.1),d.2.1,Holds.under d.2.2.1 hb (Holds.lt d.2.2.1),d.2.2.2.1,d.2.2.2.2.1,d.2.2.2.2.2.1,d.2.2.2.2.2.2.trans (hb.mono d.2.2.2.2.2.2.size)⟩
theorem DivEnd.row {w W:World} {g h N m:Nat} {L Q:List Nat} (d:DivEnd w g h N m L Q W):Row .u32 22 W g L:=d.1
theorem DivEnd.drew {w W:World} {g h N m:Nat} {L Q:List Nat} (d:DivEnd w g h N m L Q W):DivEnd w g h N m L Q W.drew:=d.next ⟨rfl,rfl,rfl,Nat.le_refl _,fun _ _=>rfl⟩
def RelD (w:World) (g1 h m N s:Nat) (V L2 t:List Nat) (si:Value) (wr:World):Prop :=
 ∃ (i:Nat) (L' Q:List Nat),i≤m∧si = .int .i64 ((i:Int) - 1)∧Q.length=m∧Dg Q∧L'.length=N∧Dg L'∧Row .u32 22 wr w.heap.size L'∧Row .u32 22 wr h Q∧Row .u32 22 wr g1 L2∧Below w.heap.size w wr ∧
   Hid (val L' + pw i*val (Q.drop i)*val V=val t*2 ^ s)∧Hid (0<m→val (L'.drop i)<val V)
theorem div'_more (w:World) (B B':Nat) (A A':Option Addr) (c c' n k:Nat) (t t':List Nat) (hn:t.length=n) (hk:t'.length=k+2) (hr:Rd .u32 w B A c t) (hr':Rd .u32 w B' A' c' t') (hB:B≤w.heap.size) (hB':B'≤w.heap.size) (hd:Dg t) (hd':Dg t') (hnl:nrm t) (hnl':nrm t') (hs:n≤4000) (hk4:k+2≤4000) (hge:val t'≤val t) :
  Calls Tryd.prog 92 #[.slice A n c,.slice A' (k+2) c'] w (DivR w (val t) (val t')):=by
 have hc1:k+2≤c':=by have:=hr'.1;omega
 have hc63:c'≤9223372036854775807:=hr'.2.1
 have hlc:=hr.1
 have hlc63:=hr.2.1
 obtain ⟨v,hv,hv0⟩:∃ v:Int,cmpL t t'=v∧0≤v:=by
  refine ⟨_,rfl,?_⟩
  rw [cmpL_val hd hd' hnl hnl',if_neg (by omega)]
  split <;> omega
 have HC:=lH (cmp'_at w B B' A A' c c' n (k+2) t t' hn hk hr hr' v hv)
 have hvb:decide (v<0)=false:=decide_eq_false (by omega)
 have hkn:k+2≤n:=by
  rcases Nat.lt_or_ge n (k+2) with h | h
  ·have:=len_less hd hnl' (by omega)
   omega
  ·exact h
 obtain ⟨b',off',am,rfl,hb',hx,Hx⟩:=hr'.at_ (i:=k+1) (by omega)
 have cL:am<4294967296:=by rw [Hx.out];exact hd'.at_ _
 have cl:0<am:=by
  rcases hnl' with h | h
  ·omega
  ·rw [hk,show k+2 - 1=k+1 by omega] at h
   have h2:=Hx.out
   omega
 have HN:=lH hn
 have HK:=lH hk
 clear hv hn
 go_enter Tryd.func92,Tryd.ntmps92
 go_wp2_with fail
 refine HC.out.mono ?_
 rintro e w1 ⟨rfl,q0,rfl⟩
 have bP:=hr.drewN q0
 have hrW':=hr'.drewN q0
 have bJ:Below w.heap.size w (w.drewN q0):=⟨rfl,rfl,rfl,Nat.le_refl _,fun _ _=>rfl⟩
 have bZ:(w.drewN q0).cell? ⟨b',off' + (k+1),none⟩=some (.int .u32 (am:Int)):=hx
 have bx:(w.drewN q0).heap.size=w.heap.size:=rfl
 generalize w.drewN q0=W at *
 clear hr hr' hx HC
 go_wp2_with fail
 go_loopw [7] (fun si wr=>∃ s:Nat,si = .int .u64 s∧wr=W∧s≤31∧Hid (am*2 ^ s<4294967296)) (fun si _=>32 - (intOf si).toNat)
 case atStart=>exact ⟨0,rfl,rfl,by omega,lH (by simpa using cL)⟩
 case round =>
  obtain ⟨s,rfl,rfl,hs31,Hs⟩:=hrel
  obtain ⟨x,HX⟩:∃ x,Hid (x=am*2 ^ s):=⟨_,rfl⟩
  have hx32:x<4294967296:=by rw [HX.out];exact Hs.out
  have cA:IntKind.u32.wrap ((am:Int)*2 ^ s)=(x:Int):=by
   have e:((am:Int)*2 ^ s)=(x:Int):=by rw [HX.out,Int.natCast_mul,Int.natCast_pow];rfl
   rw [e]
   exact IntWalk.u32_in _ (by omega)
  have hs64:(s:Int)<64:=by omega
  have hs32:(s:Int)<32:=by omega
  by_cases au:x<2147483648
  case pos =>
   have b1:decide ((x:Int)<2147483648)=true:=decide_eq_true (by omega)
   have cE:Hid (am*2 ^ (s+1)<4294967296):=lH (by
    rw [Nat.pow_succ,←Nat.mul_assoc,←HX.out]
    omega)
   have bt:s+1≤31:=by
    rcases Nat.lt_or_ge s 31 with h | h
    ·omega
    ·exfalso
     have e1:2 ^ 31≤2 ^ s:=Nat.pow_le_pow_right (by omega) h
     have e2:1*2 ^ s≤am*2 ^ s:=Nat.mul_le_mul_right _ cl
     have:=HX.out
     omega
   go_wp2_with fail
   go_roundw
   case rel=>exact ⟨s+1,by go_num,trivial,bt,cE⟩
   case measure=>simp [intOf];omega
  case neg =>
  have b1:decide ((x:Int)<2147483648)=false:=decide_eq_false (by omega)
  obtain ⟨bG,bV⟩:=top_fit (n:=k+1) (s:=s) hd' (by omega) Hx (by rw [←HX.out];omega) Hs.out
  have cJ:=lH bG
  have br:=lH bV
  have ab:s<32:=by omega
  clear bG bV
  obtain ⟨W,hW⟩:∃ W,W=wr:=⟨_,rfl⟩
  subst hW
  go_wp2_with fail
  refine (shifted'_any W B A c n t HN bP (by omega) hd (by omega) s ab).mono ?_
  rintro e w1 ⟨L,rfl,hL,cH,bF,a_,aQ⟩
  go_wp2_with fail
  refine (shifted'_any w1 B' (some ⟨b',off',none⟩) c' (k+2) t' HK (hrW'.under (aQ.mono (by omega))) (Nat.le_trans (by omega) aQ.size) hd' (by omega) s ab).mono ?_
  rintro e w2 ⟨L2,rfl,a9,aD,ao,ai,ae⟩
  have aL:=Holds.lt a_
  have bT:=Holds.lt ai
  go_wp2_with fail
  refine (trim'_at w2 _ _ (k+2+1) (k+2+1) L2 (rd_whole ai (Nat.le_of_eq a9) (by omega)) a9).mono ?_
  rintro e w3 ⟨rfl,rfl⟩
  have aB:=trl_dg aD
  obtain ⟨aG,bl⟩:=norm_len (n:=k+1) aB (trl_nrm L2) (by rw [trl_val,ao];exact cJ.out) (by rw [trl_val,ao];exact br.out)
  have aR:=lH (show val (trl L2)=val t' * 2 ^ s by rw [trl_val,ao])
  obtain ⟨V,HV⟩:∃ V,Hid (V=trl L2):=⟨_,rfl⟩
  have cG:=lH a9
  rw [←HV.out] at aB aG bl aR ⊢
  change V.length=k+2 at aG
  rw [aG]
  obtain ⟨m,Hm⟩:∃ m,Hid (m=n+1 - (k+2)):=⟨_,rfl⟩
  have hmx:(n:Int) - ((k:Int)+2)+1=(m:Int):=by have:=Hm.out;omega
  have hmx2:(n:Int) - ((k:Int)+2)=(m:Int) - 1:=by omega
  have hm4:m≤4001:=by have:=Hm.out;omega
  have cO:=make_nat (m:Int) m rfl (by omega)
  have a6:=lH aG
  have cC:=lH bl
  have HL:=lH hL
  have bD:=lH bF
  clear aG bl hL bF a9 ao aD
  go_wp2_with fail
  have hRL2':Row .u32 22 w2 W.heap.size L:=Holds.under a_ ae aL
  have bm:Row .u32 22 (w2.alloc (.cells (nums .u32 (List.replicate m 0)) 22)) w2.heap.size (List.replicate m 0):=Holds.fresh _ _ _
  clear cO
  obtain ⟨g1,bM⟩:∃ g,g=w1.heap.size:=⟨_,rfl⟩
  obtain ⟨h,hh⟩:∃ g,g=w2.heap.size:=⟨_,rfl⟩
  rw [bx] at a_ hRL2' aL aQ
  have aJ:Below w.heap.size w (w2.alloc (.cells (nums .u32 (List.replicate m 0)) 22)):=((bJ.trans aQ).trans (ae.mono (Nat.le_of_lt aL))).alloc (Nat.le_trans (Nat.le_of_lt aL) ae.size) _
  rw [←bM] at ai ae aL bT ⊢
  rw [←hh] at bm bT ⊢
  have bU:w.heap.size≤h:=by omega
  have aK:=Holds.alloc ai (.cells (nums .u32 (List.replicate m 0)) 22)
  have aF:=Holds.alloc hRL2' (.cells (nums .u32 (List.replicate m 0)) 22)
  generalize (w2.alloc (.cells (nums .u32 (List.replicate m 0)) 22))=w3 at *
  clear a_ ai hRL2' aQ ae bP hrW' bZ bJ hh bM cA
  obtain ⟨N,a8⟩:∃ N,Hid (N=n+1):=⟨_,rfl⟩
  rw [←a8.out] at Hm HL ⊢
  have hN63:N≤4001:=by have:=a8.out;omega
  have cN:=lH (show 0<m→val (L.drop m)<val V from fun h0=>div_start (n:=k+1) bD (val_lt hd) (by have:=Hm.out;have:=a8.out;have:=HN.out;omega) ab (by rw [aR.out];exact br.out))
  have aw:=lH (show w.heap.size≠g1∧w.heap.size≠h∧g1≠h∧w.heap.size≤h from ⟨by omega,by omega,by omega,bU⟩)
  have hm1:1≤m:=by have:=Hm.out;have:=a8.out;omega
  go_loopw [11] (fun si wr=>RelD w g1 h m N s V L2 t si wr) (fun si _=>(intOf si+1).toNat)
  case atStart=>exact ⟨m,L,_,Nat.le_refl _,by go_num,by simp,Dg.noughts _,HL,cH,aF,bm,aK,aJ,lH (by rw [val_drop_all _ (by simp),Nat.mul_zero,Nat.zero_mul,Nat.add_zero];exact bD.out),lH cN⟩
  case round =>
   clear aF bm aK aJ
   obtain ⟨i,L',Q,hi,rfl,bR,bk,bB,hdL',hRL',bz,bQ,aA,aU,aN⟩:=hrel
   have aC:=lH bR
   have av:=lH bB
   clear bR bB
   obtain ⟨W5,cD⟩:∃ W,W=wr:=⟨_,rfl⟩
   subst cD
   have hzg:=Holds.lt hRL'
   have hzh:=Holds.lt bz
   rcases i with _ | i
   case zero =>
    have ac:val V<pw (k+2):=by
     have:=val_lt aB
     rwa [a6.out] at this
    have ay:val L' < val V:=by
     have:=aN.out (by omega)
     rwa [List.drop_zero] at this
    have aH:=lH (show val (L'.take (k+2))=val L' from by
     have h1:=val_split L' (k+2)
     have h2:val (L'.drop (k+2))=0:=by
      rcases Nat.eq_zero_or_pos (val (L'.drop (k+2))) with h3 | h3
      ·exact h3
      ·exfalso
       have:pw (k+2)*1≤pw (k+2)*val (L'.drop (k+2)):=Nat.mul_le_mul_left _ h3
       omega
     rw [h2,Nat.mul_zero,Nat.add_zero] at h1
     exact h1.symm)
    have aX:=lH (div_end (r:=val L') (D:=val Q) (a:=val t) (b:=val t') (S:=2 ^ s) (Nat.pow_pos (by omega)) (by have:=aU.out;rw [List.drop_zero,pw_zero,Nat.one_mul,aR.out] at this;exact this)
     (by rw [←aR.out];exact ay))
    have cB:DivEnd w w.heap.size h N m L' Q W5:=⟨hRL',av,bz,aC,Nat.le_refl _,bU,aA⟩
    have hded:=cB.drew
    have bH:=lH (⟨hdL',bk⟩:Dg L'∧Dg Q)
    have b2:decide ((0:Int)≤((0:Nat):Int) - 1)=false:=decide_eq_false (by omega)
    clear ac ay
    go_wp2_with fail
    have cU:Hid (∀ V,DivEnd w w.heap.size h N m L' Q V→Rd .u32 V (w.heap.size+1) (some ⟨w.heap.size,0,none⟩) N (L'.take (k+2))):=lH (fun V d=>Row.rd d.1 (by rw [d.2.1];have:=Hm.out;omega) (by have:=Hm.out;omega) (by omega))
    have bX:Hid (∀ V,DivEnd w w.heap.size h N m L' Q V→Rd .u32 V (h+1) (some ⟨h,0,none⟩) m Q):=lH (fun V d=>rd_whole d.2.2.1 (Nat.le_of_eq d.2.2.2.1) (by omega))
    have b_:=lH (show (L'.take (k+2)).length=k+2 by rw [List.length_take,av.out];have:=Hm.out;omega)
    have hkN:k+2≤N:=by have:=Hm.out;omega
    have hkI:(k:Int)+2≤(N:Int):=by omega
    have hk20:(0:Int)≤(k:Int)+2:=by omega
    have hk2t:((k:Int)+2).toNat=k+2:=by omega
    have hN0:(0:Int)≤(N:Int):=by omega
    go_region_held3 (fun V=>DivEnd w w.heap.size h N m L' Q V)
     (first | assumption | exact DivEnd.drew (by assumption))
     (first
     | (go_at_call 12;refine (trim'_at _ _ (some ⟨h,0,none⟩) m m Q (bX.out _ (by assumption)) aC).mono ?_;rintro e w7 ⟨rfl,rfl⟩)
     | (go_at_call 107;refine (back'_any _ _ (some ⟨w.heap.size,0,none⟩) N (k+2) (L'.take (k+2)) b_ (cU.out _ (by assumption)) (Holds.lt (DivEnd.row (by assumption))) (bH.out.1.take _) (by omega) s ab).mono ?_;rintro e w8 ⟨A3,c3,r3,rfl,bK,bO,bE⟩;have bw:=DivEnd.next (w:=w) (g:=w.heap.size) (h:=h) (N:=N) (m:=m) (L:=L') (Q:=Q) (by assumption) bE;have cM:=lH bK;have cK:=lH bO;clear bK bO bE))
    go_wp2_with fail
    go_ret3
    have cT:=(bX.out _ bw).cut (tlen Q Q.length)
    refine ⟨_,_,trl Q,_,_,r3,rfl,num_trl bH.out.2 aX.out.1,?_,cT.more (Holds.lt bw.2.2.1),cK.out.1,bw.2.2.2.2.2.2⟩
    have h3:=cM.out
    rwa [aH.out,aX.out.2] at h3
   case succ =>
   have cS:(((i+1:Nat):Int) - 1)=(i:Int):=by omega
   rw [cS]
   have b2:decide ((0:Int)≤(i:Int))=true:=decide_eq_true (by omega)
   have bn:i+(k+3)≤N:=by have:=Hm.out;omega
   have ac:val V<pw (k+2):=by
    have:=val_lt aB
    rwa [a6.out] at this
   have bs:0<val V:=by
    have h1:2147483648*pw (k+1)≤val V:=by rw [aR.out];exact br.out
    have:=pw_pos (k+1)
    omega
   have au:=aN.out (by omega)
   have bL:=(div_top hdL' au ac (by rw [av.out];omega)).2
   have bY:=lH (show ∀ (L4:List Nat) (d:Nat),L4.length=L'.length→d=val (seg L' i (k+3)) / val V→val (seg L4 i (k+3))=val (seg L' i (k+3)) % val V→(∀ j,j<i∨i+(k+3)≤j→L4.getD j 0=L'.getD j 0) →
     val L4+pw i*val ((Q.set i d).drop i)*val V=val t*2 ^ s∧val (L4.drop i)<val V from fun _ _ h1 h2 h3 h4 =>
    div_step bs hdL' (by rw [av.out];omega) (by rw [av.out];exact bn) (by rw [aC.out];omega) ac aU au h1 h2 h3 h4)
   have ba:=lH (⟨ac,bs,bL⟩:_∧_∧_)
   have bC:Hid (∀ W',W5.grownBy W' (some w.heap.size)→Rd .u32 W' (g1+1) (some ⟨g1,0,none⟩) (k+2+1) V):=lH (fun W' hg=>by
    have h1:Row .u32 22 W' g1 L2:=Holds.grown bQ hg (by intro he;injection he with he;exact aw.out.1 he.symm)
    have h2:=(rd_whole h1 (Nat.le_of_eq cG) (by omega)).cut (tlen L2 L2.length)
    rw [HV.out]
    exact h2)
   have bA:Rd .u32 W5 (w.heap.size+1) (some ⟨w.heap.size,0,none⟩) N L':=rd_whole hRL' (Nat.le_of_eq av) (by omega)
   clear ac bs bL au
   go_wp2_with fail
   refine (guess_at W5 _ _ (some ⟨w.heap.size,0,none⟩) (some ⟨g1,0,none⟩) N (k+2+1) i k N L' V av bA (bC.out W5 (World.grownBy.refl _ _)) hdL' aB bn (by omega) (by omega) a6 cC ba.out.2.2).mono ?_
   rintro e w4 ⟨gd,rfl,cF,aE,az,q,rfl⟩
   have bd:=lH aE
   have aO:=lH az
   clear aE az
   go_wp2_with fail
   refine (less_any (W5.drewN q) w.heap.size i N k N L' av (Holds.drewN hRL' q) hdL' bn (Nat.le_refl _) (by omega) (by omega) (by omega) (some ⟨g1,0,none⟩) (k+2+1) (g1+1) V (fun W' hg=>bC.out W' ⟨hg.os,hg.tape,hg.output,hg.size,hg.block⟩) aB a6 gd cF _ rfl ba.out.2.1 bd aO).mono ?_
   rintro e w4 ⟨L4,rb,rfl,bc,bf,aW,bS,aY,aT,aM⟩
   have ak:Row .u32 22 w4 h Q:=Holds.grown (Holds.drewN bz q) aY (by intro he;injection he with he;exact aw.out.2.1 he.symm)
   have aV:Row .u32 22 w4 g1 L2:=Holds.grown (Holds.drewN bQ q) aY (by intro he;injection he with he;exact aw.out.1 he.symm)
   have bI:Below w.heap.size w w4:=(below_drewN' aA q).trans (one_below aY (Nat.le_refl _) aA.size)
   obtain ⟨d,Hd⟩:∃ d,Hid (d=val (seg L' i (k+3)) / val V):=⟨_,rfl⟩
   rw [←Hd.out] at bc
   have bN:d<4294967296:=by
    rw [Hd.out,Nat.div_lt_iff_lt_mul ba.out.2.1]
    exact ba.out.2.2
   have ax:=lH (bY.out _ _ (by rw [bf,av.out]) Hd aT aM)
   have bW:=lH bf
   clear aT aM bf aY
   have hfrQ:=Row.open_ ak
   have hzQ:=Holds.lt ak
   have hcQ:=Row.cell ak (i:=i) (by rw [aC.out];omega)
   have him:(i:Int)<(m:Int):=by omega
   cases rb
   case true =>
    have bv:gd=d:=by simpa using bc.symm
    subst bv
    go_wp2_with fail
    have bu:=Row.set ak i gd
    go_roundw
    case rel=>exact ⟨i,L4,_,by omega,by go_num,by rw [List.length_set];exact aC.out,bk.set _ _ bN,bW,aW,Holds.aside bS aw.out.2.1 _,bu,Holds.aside aV aw.out.2.2.1 _,bI.setCell aw.out.2.2.2 _,lH ax.out.1,lH (fun _=>ax.out.2)⟩
    case measure=>simp [intOf]
   case false =>
    have bv:gd=d+1:=by simpa using bc.symm
    subst bv
    have hgI:((d+1:Nat):Int) - 1=(d:Int):=by omega
    go_wp2_with fail
    have bu:=Row.set ak i d
    go_roundw
    case rel=>exact ⟨i,L4,_,by omega,by go_num,by rw [List.length_set];exact aC.out,bk.set _ _ bN,bW,aW,Holds.aside bS aw.out.2.1 _,bu,Holds.aside aV aw.out.2.2.1 _,bI.setCell aw.out.2.2.2 _,lH ax.out.1,lH (fun _=>ax.out.2)⟩
    case measure=>simp [intOf]
theorem div'_any (w:World) (B B':Nat) (A A':Option Addr) (c c' n n':Nat) (t t':List Nat) (hn:t.length=n) (hn':t'.length=n') (hr:Rd .u32 w B A c t) (hr':Rd .u32 w B' A' c' t') (hB:B≤w.heap.size) (hB':B'≤w.heap.size) (hd:Dg t) (hd':Dg t') (hnl:nrm t) (hnl':nrm t') (hs:n≤4000) (hs':n'≤4000) (h0:val t'≠0) :
  Calls Tryd.prog 92 #[.slice A n c,.slice A' n' c'] w (DivR w (val t) (val t')):=by
 rcases hk:n' with _ | _ | k
 ·exfalso
  apply h0
  rw [List.eq_nil_of_length_eq_zero (hn'.trans hk)]
  rfl
 ·obtain ⟨x,rfl⟩:∃ x,t'=[x]:=by
   match t',hn'.trans hk with
   | [x],_=>exact ⟨x,rfl⟩
  have hx0:x≠0:=by simpa [val] using h0
  exact div'_one w B B' A A' c c' n t x hn hr hr' hB hd hs (by omega) (hd' x (by simp))
 ·rcases Nat.lt_or_ge (val t) (val t') with h | h
  ·exact div'_less w B B' A A' c c' n k t t' hn (hn'.trans hk) hr hr' hB hd hd' hnl hnl' hs (by omega) h
  ·exact div'_more w B B' A A' c c' n k t t' hn (hn'.trans hk) hr hr' hB hB' hd hd' hnl hnl' hs (by omega) h
end Go.Proofs.YtflfdglpljodbaaDoor
