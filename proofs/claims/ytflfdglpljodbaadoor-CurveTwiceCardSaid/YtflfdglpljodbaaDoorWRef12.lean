/-
  Inverses by the document: Euclid's way, the factors by m.
-/
import Derived.Test.YtflfdglpljodbaaDoorWRef11
set_option maxRecDepth 100000
set_option maxHeartbeats 2000000
namespace Go.Proofs.YtflfdglpljodbaaDoor
open Go.RowKit
set_option linter.unusedVariables false
theorem mod_cancel {u v c m:Nat} (h:(u+c) % m=(v+c) % m):u % m=v % m:=by
 have h':((u:Int)+c) % m=((v:Int)+c) % m:=by exact_mod_cast h
 have h1:(u:Int) % m=(v:Int) % m:=by
  have e1:(u:Int)=((u:Int)+c) - c:=by omega
  have e2:(v:Int)=((v:Int)+c) - c:=by omega
  rw [e1,e2,Int.sub_emod,h',←Int.sub_emod]
 exact_mod_cast h1
theorem sub_back {x p m:Nat} (hm:0<m):((x % m+(m - p % m)) % m+p) % m=x % m:=by
 have h1:=Nat.mod_lt x hm
 have h2:=Nat.mod_lt p hm
 rw [Nat.mod_add_mod]
 have e:(x % m+(m - p % m)+p) % m=(x % m+(m - p % m)+p % m) % m:=by rw [Nat.add_mod (x % m+(m - p % m)) p,Nat.add_mod (x % m+(m - p % m)) (p % m),Nat.mod_mod]
 rw [e,show x % m+(m - p % m)+p % m=x % m+m by omega,Nat.add_mod_right,Nat.mod_mod]
structure Eu8 (a m r s x y:Nat):Prop where
 hx:x*a % m=r % m
 hy:y*a % m=s % m
 xm:x<m
 ym:y<m
 g:Nat.gcd r s=Nat.gcd m a
 sr:s<r
 rm:r≤m
theorem Eu8.start {a m:Nat} (h:1<m):Eu8 a m m (a % m) 0 1 :=
 ⟨by rw [Nat.zero_mul,Nat.zero_mod,Nat.mod_self],by rw [Nat.one_mul,Nat.mod_mod],by omega,h,by rw [Nat.gcd_comm m (a % m),←Nat.gcd_rec],Nat.mod_lt _ (by omega),Nat.le_refl _⟩
theorem Eu8.next {a m r s x y:Nat} (h:Eu8 a m r s x y) (hs:0<s):Eu8 a m s (r % s) y ((x % m+(m - r / s*y % m % m)) % m):=by
 obtain ⟨hx,hy,xm,ym,hg,sr,rm⟩:=h
 have hm:0<m:=by omega
 obtain ⟨q,hq⟩:∃ q,q=r / s:=⟨_,rfl⟩
 have hb:=sub_back (x:=x) (p:=q*y % m) hm
 rw [←hq]
 obtain ⟨d,hd⟩:∃ d,d=(x % m+(m - q*y % m % m)) % m:=⟨_,rfl⟩
 rw [←hd] at hb ⊢
 refine ⟨hy,?_,ym,by rw [hd];exact Nat.mod_lt _ hm,by rw [Nat.gcd_comm s,←Nat.gcd_rec,Nat.gcd_comm,hg],Nat.mod_lt _ hs,by omega⟩
 apply mod_cancel (c:=q*s)
 have e1:(d+q*y) % m=x % m:=by
  rw [Nat.add_mod,←hb,Nat.add_mod d (q*y % m),Nat.mod_mod]
 have e2:(d+q*y)*a % m=r % m:=by rw [Nat.mul_mod,e1,←Nat.mul_mod,hx]
 have e3:(d*a+q*s) % m=(d+q*y)*a % m:=by
  rw [Nat.add_mul,Nat.add_mod,Nat.add_mod (d*a) (q*y*a)]
  congr 2
  rw [Nat.mul_assoc,Nat.mul_mod q s,←hy,←Nat.mul_mod]
 have e4:r % s+q*s=r:=by
  rw [hq,Nat.mul_comm]
  exact Nat.mod_add_div r s
 rw [e3,e2,e4]
theorem Eu8.done {a m r x y:Nat} (h:Eu8 a m r 0 x y):r=Nat.gcd m a:=by
 have:=h.g
 rwa [Nat.gcd_zero_right] at this
theorem num_two:NumIs [2] 2:=⟨fun x hx=>by simp at hx;omega,.inr (by decide),by simp [val]⟩
theorem cmp_two {t:List Nat} (hd:Dg t) (hn:nrm t):cmpL t [2]=if val t<2 then -1 else if 2<val t then 1 else 0:=by
 rw [cmpL_val hd num_two.1 hn num_two.2.1,num_two.2.2]
def RelI (a m:Nat) (w4:World) (sr ss sx sy:Value) (wr:World):Prop :=
 ∃ (Ar:Option Addr) (cr:Nat) (r:List Nat) (As:Option Addr) (cs:Nat) (s:List Nat) (Ax:Option Addr) (cx:Nat) (x:List Nat) (Ay:Option Addr) (cy:Nat) (y:List Nat) (R S X Y:Nat),
  sr = .slice Ar r.length cr∧ss = .slice As s.length cs∧sx = .slice Ax x.length cx∧sy = .slice Ay y.length cy∧Hid (NumIs r R)∧Hid (NumIs s S)∧Hid (NumIs x X)∧Hid (NumIs y Y) ∧
  Rd .u32 wr wr.heap.size Ar cr r∧Rd .u32 wr wr.heap.size As cs s∧Rd .u32 wr wr.heap.size Ax cx x∧Rd .u32 wr wr.heap.size Ay cy y∧Hid (Eu8 a m R S X Y)∧Below w4.heap.size w4 wr
theorem inv8_high (w:World) (A A':Option Addr) (c c':Nat) (l l':List Nat) (hr:Rd .u32 w w.heap.size A c l) (hr':Rd .u32 w w.heap.size A' c' l') (hd:Dg l) (hd':Dg l') (hs:l.length≤1000) (hs':l'.length≤1000) (hn:nrm l) (hn':nrm l') (h0:1<val l') :
  Calls Tryd.prog 72 #[.slice A l.length c,.slice A' l'.length c'] w fun e w' =>
   (Nat.gcd (val l') (val l)≠1∧Nought w e w')∨(Nat.gcd (val l') (val l)=1∧∃ x,x<val l'∧val l*x % val l'=1∧LeftR w x e w'):=by
 have hT:Row .u32 22 (w.alloc (.cells #[.int .u32 2] 22)) w.heap.size [2]:=Holds.fresh _ _ _
 have hbT:Below w.heap.size w (w.alloc (.cells #[.int .u32 2] 22)):=(Below.refl _ _).alloc (Nat.le_refl _) _
 have hra:=rd_next hr (Nat.le_refl _) hbT
 have hrm:=rd_next hr' (Nat.le_refl _) hbT
 have hr2:=(rd_whole (c:=1) hT (by simp) (by omega)).more (Holds.lt hT)
 clear hT hr hr'
 obtain ⟨z,hz,hz0⟩:∃ z:Int,cmpL l' [2]=z∧0≤z:=⟨_,rfl,by
  rw [cmp_two hd' hn',if_neg (by omega)]
  split <;> omega⟩
 have hzb:decide (z<0)=false:=decide_eq_false (by omega)
 go_enter Tryd.func72,Tryd.ntmps72
 go_wp2_with fail
 generalize w.alloc (.cells #[.int .u32 2] 22)=w2 at *
 refine (cmp'_at w2 _ _ A' _ c' 1 _ 1 l' [2] rfl rfl hrm hr2 z hz).mono ?_
 rintro e w3 ⟨rfl,q,rfl⟩
 have hbT:=below_drewN hbT q
 have hra:=rd_drawn hra q
 have hrm:=rd_drawn hrm q
 clear hr2
 generalize w2.drewN q=w3 at *
 have H0:=lH (show val l'≠0 by omega)
 go_wp2_with fail
 refine (rest'_yes w3 _ _ A A' c c' l l' hra hrm (Nat.le_refl _) (Nat.le_refl _) hd hd' (by omega) (by omega) H0.out hn hn').mono ?_
 rintro e w4 ⟨As,cs,s0,rfl,hns,hrs,hb4⟩
 have hrm:=rd_next hrm (Nat.le_refl _) hb4
 have hbel:=hbT.trans (hb4.mono hbT.size)
 clear hra hb4 hbT
 have Hml:=lH (show ∀ (p:List Nat) (v:Nat),NumIs p v→v≤val l'→p.length≤1000 from fun _ _ h1 h2=>num_len' h1 (Nat.lt_of_lt_of_le (Nat.lt_of_le_of_lt h2 (val_lt hd')) (pw_mono hs')))
 have Hst:=lH (Eu8.start (a:=val l) h0)
 have Hns:=lH hns
 clear hns
 have hT:Row .u32 22 (w4.alloc (.cells #[.int .u32 1] 22)) w4.heap.size [1]:=Holds.fresh _ _ _
 have hb5:Below w4.heap.size w4 (w4.alloc (.cells #[.int .u32 1] 22)):=(Below.refl _ _).alloc (Nat.le_refl _) _
 have hrm:=rd_next hrm (Nat.le_refl _) hb5
 have hrs:=rd_next hrs (Nat.le_refl _) hb5
 have hr1:=(rd_whole (c:=1) hT (by simp) (by omega)).more (Holds.lt hT)
 have hbel:=hbel.trans (hb5.mono hbel.size)
 clear hT hb5
 go_wp2_with fail
 generalize w4.alloc (.cells #[.int .u32 1] 22)=w5 at *
 go_loopw [6,7,8,9] (fun sr ss sx sy wr=>RelI (val l) (val l') w5 sr ss sx sy wr) (fun _ ss _ _ wr=>readNum ss wr)
 case atStart=>exact ⟨A',c',l',As,cs,s0,none,0,[],some ⟨w4.heap.size,0,none⟩,1,[1],_,_,_,_,rfl,rfl,rfl,rfl,lH ⟨hd',hn',rfl⟩,Hns,lH num_nil,lH num_unit,hrm,hrs,Rd.nil_ _ _ _,hr1,Hst,Below.refl _ _⟩
 case round =>
  obtain ⟨Ar,cr,r,As,cs,s,Ax,cx,x,Ay,cy,y,R,S,X,Y,rfl,rfl,rfl,rfl,Hr,Hs,Hx,Hy,hrr,hrs2,hrx,hry,Heu,hbw⟩:=hrel
  have hrmw:=rd_next hrm (Nat.le_refl _) hbw
  have hbw4:=hbel.trans (hbw.mono hbel.size)
  have hrl:r.length≤1000:=Hml.out _ _ Hr.out Heu.out.rm
  have hsl:s.length≤1000:=Hml.out _ _ Hs.out (by have:=Heu.out.sr;have:=Heu.out.rm;omega)
  have hxl:x.length≤1000:=Hml.out _ _ Hx.out (Nat.le_of_lt Heu.out.xm)
  have hyl:y.length≤1000:=Hml.out _ _ Hy.out (Nat.le_of_lt Heu.out.ym)
  obtain ⟨W,hW⟩:∃ W,W=wr:=⟨_,rfl⟩
  subst hW
  rcases Nat.eq_zero_or_pos s.length with hs0 | hs0
  case inl =>
   obtain rfl:=List.eq_nil_of_length_eq_zero hs0
   obtain rfl:S=0:=Hs.out.2.2.symm
   have Hg:=lH Heu.out.done
   obtain ⟨z2,Hz2,Hz3⟩:∃ z2:Int,Hid (cmpL r [1]=z2)∧Hid (z2=0↔R=1):=⟨_,rfl,by
    rw [cmp_one Hr.out.1 Hr.out.2.1,Hr.out.2.2]
    refine lH ?_
    split
    ·constructor
     ·intro h;omega
     ·intro h;omega
    ·split
     ·constructor
      ·intro h;omega
      ·intro h;omega
     ·constructor
      ·intro h;omega
      ·intro h;rfl⟩
   have hT:Row .u32 22 (W.alloc (.cells #[.int .u32 1] 22)) W.heap.size [1]:=Holds.fresh _ _ _
   have hb6:Below W.heap.size W (W.alloc (.cells #[.int .u32 1] 22)):=(Below.refl _ _).alloc (Nat.le_refl _) _
   have hrr6:=rd_next hrr (Nat.le_refl _) hb6
   have hrx6:=rd_next hrx (Nat.le_refl _) hb6
   have hr16:=(rd_whole (c:=1) hT (by simp) (by omega)).more (Holds.lt hT)
   have hbw6:=hbw4.trans (hb6.mono hbw4.size)
   clear hT hb6
   by_cases hR:R=1
   case pos =>
    have hz0:z2=0:=Hz3.out.2 hR
    subst hz0
    have Hinv:=lH (show val l*X % val l'=1 by
     have h:=Heu.out.hx
     rw [hR,Nat.mod_eq_of_lt h0,Nat.mul_comm] at h
     exact h)
    have HgR:=lH (show Nat.gcd (val l') (val l)=1 by rw [←Hg.out];exact hR)
    clear hR
    go_wp2_with fail
    generalize W.alloc (.cells #[.int .u32 1] 22)=w6 at *
    refine (cmp'_at w6 _ _ Ar _ cr 1 _ 1 r [1] rfl rfl hrr6 hr16 0 Hz2.out).mono ?_
    rintro e w7 ⟨rfl,q,rfl⟩
    have hrx7:=rd_drawn hrx6 q
    have hbw7:=below_drewN hbw6 q
    generalize w6.drewN q=w7 at *
    go_wp2_with fail
    go_ret2
    exact .inr ⟨HgR.out,X,Heu.out.xm,Hinv.out,Ax,cx,x,rfl,Hx.out,hrx7,hbw7⟩
   case neg =>
    have hz0:z2≠0:=fun e=>hR (Hz3.out.1 e)
    have hzb2:(z2 != 0)=true:=by simpa using hz0
    have HgR:=lH (show Nat.gcd (val l') (val l)≠1 by rw [←Hg.out];exact hR)
    clear hR hz0
    go_wp2_with fail
    generalize W.alloc (.cells #[.int .u32 1] 22)=w6 at *
    refine (cmp'_at w6 _ _ Ar _ cr 1 _ 1 r [1] rfl rfl hrr6 hr16 z2 Hz2.out).mono ?_
    rintro e w7 ⟨rfl,q,rfl⟩
    have hbw7:=below_drewN hbw6 q
    generalize w6.drewN q=w7 at *
    go_wp2_with fail
    go_ret2
    exact .inl ⟨HgR.out,rfl,hbw7⟩
  case inr =>
  have HSz:=lH (show val s≠0 by
   intro h
   have:=nrm_nil Hs.out.1 Hs.out.2.1 h
   omega)
  have b1:decide ((0:Int)<(s.length:Int))=true:=decide_eq_true (by omega)
  have b2:decide (0<s.length)=true:=decide_eq_true (by omega)
  have Hnx:=lH (Heu.out.next (by rw [←Hs.out.2.2];have:=HSz.out;omega))
  have Hmeas:=lH (readNum_eq hrs2)
  go_wp2_with fail
  refine (div'_any W _ _ Ar As cr cs _ _ r s rfl rfl hrr hrs2 (Nat.le_refl _) (Nat.le_refl _) Hr.out.1 Hs.out.1 Hr.out.2.1 Hs.out.2.1 (by omega) (by omega) HSz.out).mono ?_
  rintro e w6 ⟨Aq,cq,qq,At,ct,tt,rfl,hnq,hnt,hrq,hrt,hb6⟩
  have hrs6:=rd_next hrs2 (Nat.le_refl _) hb6
  have hrx6:=rd_next hrx (Nat.le_refl _) hb6
  have hry6:=rd_next hry (Nat.le_refl _) hb6
  have hrm6:=rd_next hrmw (Nat.le_refl _) hb6
  have hbw6:=hbw.trans (hb6.mono hbw.size)
  have hql:qq.length≤1000:=Hml.out _ _ hnq (Nat.le_trans (Nat.div_le_self _ _) (by rw [Hr.out.2.2];exact Heu.out.rm))
  have Hnq:=lH hnq
  have Hnt:=lH hnt
  clear hnq hnt hb6 hrr hrs2 hrx hry hrmw hbw hbw4
  go_wp2_with fail
  refine (mul8_yes w6 Aq Ay A' cq cy c' qq y l' hrq hry6 hrm6 Hnq.out.1 Hy.out.1 hd' hql hyl hs' H0.out hn').mono ?_
  rintro e w7 ⟨Ap,cp,pp,rfl,hnp,hrp,hb7⟩
  have hrs7:=rd_next hrs6 (Nat.le_refl _) hb7
  have hrx7:=rd_next hrx6 (Nat.le_refl _) hb7
  have hry7:=rd_next hry6 (Nat.le_refl _) hb7
  have hrm7:=rd_next hrm6 (Nat.le_refl _) hb7
  have hrt7:=rd_next hrt (Nat.le_refl _) hb7
  have hbw7:=hbw6.trans (hb7.mono hbw6.size)
  have hpl:pp.length≤1000:=Hml.out _ _ hnp (Nat.le_of_lt (Nat.mod_lt _ (by omega)))
  have Hnp:=lH hnp
  clear hnp hb7 hrs6 hrx6 hry6 hrm6 hrt hrq hbw6
  go_wp2_with fail
  refine (sub8_yes w7 Ax Ap A' cx cp c' x pp l' hrx7 hrp hrm7 Hx.out.1 Hnp.out.1 hd' hxl hpl hs' H0.out Hx.out.2.1 Hnp.out.2.1 hn').mono ?_
  rintro e w8 ⟨Ad,cd,dd,rfl,hnd,hrd,hb8⟩
  have hrs8:=rd_next hrs7 (Nat.le_refl _) hb8
  have hry8:=rd_next hry7 (Nat.le_refl _) hb8
  have hrt8:=rd_next hrt7 (Nat.le_refl _) hb8
  have hbw8:=hbw7.trans (hb8.mono hbw7.size)
  rw [Hnp.out.2.2,Hnq.out.2.2,Hx.out.2.2,Hy.out.2.2,Hr.out.2.2,Hs.out.2.2] at hnd
  have Hnd:=lH hnd
  have Hnt2:=lH (show NumIs tt (R % S) by have h:=Hnt.out;rwa [Hr.out.2.2,Hs.out.2.2] at h)
  have Hm2:=lH (readNum_eq hrt8)
  clear hnd hb8 hrs7 hrx7 hry7 hrm7 hrt7 hrp hbw7
  go_wp2_with fail
  go_roundw
  case rel=>exact ⟨As,cs,s,At,ct,tt,Ay,cy,y,Ad,cd,dd,S,R % S,Y,_,rfl,rfl,rfl,rfl,Hs,Hnt2,Hy,Hnd,hrs8,hrt8,hry8,hrd,Hnx,hbw8⟩
  case measure =>
   show readNum (.slice At tt.length ct) w8<readNum (.slice As s.length cs) W
   rw [Hm2.out,Hmeas.out,Hnt2.out.2.2,Hs.out.2.2]
   exact Nat.mod_lt _ (by rw [←Hs.out.2.2];have:=HSz.out;omega)
end Go.Proofs.YtflfdglpljodbaaDoor
