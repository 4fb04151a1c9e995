/-
  Inverses by the document: Euclid's way, the factors by m.
-/
import Derived.Test.YtflfdglpljodbaaDoorGRef11
set_option maxRecDepth 100000
set_option maxHeartbeats 2000000
namespace Go.Proofs.YtflfdglpljodbaaDoor
open Go.RowKit
set_option linter.unusedVariables false
theorem mod_cancel {u v c m:Nat} (h:(u+c) % m=(v+c) % m):u % m=v % m:=by
 have h':((u:Int)+c) % m=((v:Int)+c) % m:=by exact_mod_cast h
 have h1:(u:Int) % m=(v:Int) % m:=by
  have e1:(u:Int)=((u:Int)+c) - c:=by omega
  have e2:(v:Int)=((v:Int)+c) - c:=by omega
  rw [e1,e2,Int.sub_emod,h',←Int.sub_emod]
 exact_mod_cast h1
theorem sub_back {x p m:Nat} (hm:0<m):((x % m+(m - p % m)) % m+p) % m=x % m:=by
 have h1:=Nat.mod_lt x hm
 have h2:=Nat.mod_lt p hm
 rw [Nat.mod_add_mod]
 have e:(x % m+(m - p % m)+p) % m=(x % m+(m - p % m)+p % m) % m:=by rw [Nat.add_mod (x % m+(m - p % m)) p,Nat.add_mod (x % m+(m - p % m)) (p % m),Nat.mod_mod]
 rw [e,show x % m+(m - p % m)+p % m=x % m+m by omega,Nat.add_mod_right,Nat.mod_mod]
structure Eu8 (a m r s x y:Nat):Prop where
 hx:x*a % m=r % m
 hy:y*a % m=s % m
 xm:x<m
 ym:y<m
 g:Nat.gcd r s=Nat.gcd m a
 sr:s<r
 rm:r≤m
theorem Eu8.start {a m:Nat} (h:1<m):Eu8 a m m (a % m) 0 1 :=
 ⟨by rw [Nat.zero_mul,Nat.zero_mod,Nat.mod_self],by rw [Nat.one_mul,Nat.mod_mod],by omega,h,by rw [Nat.gcd_comm m (a % m),←Nat.gcd_rec],Nat.mod_lt _ (by omega),Nat.le_refl _⟩
theorem Eu8.next {a m r s x y:Nat} (h:Eu8 a m r s x y) (hs:0<s):Eu8 a m s (r % s) y ((x % m+(m - r / s*y % m % m)) % m):=by
 obtain ⟨hx,hy,xm,ym,hg,sr,rm⟩:=h
 have hm:0<m:=by omega
 obtain ⟨q,hq⟩:∃ q,q=r / s:=⟨_,rfl⟩
 have hb:=sub_back (x:=x) (p:=q*y % m) hm
 rw [←hq]
 obtain ⟨d,hd⟩:∃ d,d=(x % m+(m - q*y % m % m)) % m:=⟨_,rfl⟩
 rw [←hd] at hb ⊢
 refine ⟨hy,?_,ym,by rw [hd];exact Nat.mod_lt _ hm,by rw [Nat.gcd_comm s,←Nat.gcd_rec,Nat.gcd_comm,hg],Nat.mod_lt _ hs,by omega⟩
 apply mod_cancel (c:=q*s)
 have e1:(d+q*y) % m=x % m:=by
  rw [Nat.add_mod,←hb,Nat.add_mod d (q*y % m),Nat.mod_mod]
 have e2:(d+q*y)*a % m=r % m:=by rw [Nat.mul_mod,e1,←Nat.mul_mod,hx]
 have e3:(d*a+q*s) % m=(d+q*y)*a % m:=by
  rw [Nat.add_mul,Nat.add_mod,Nat.add_mod (d*a) (q*y*a)]
  congr 2
  rw [Nat.mul_assoc,Nat.mul_mod q s,←hy,←Nat.mul_mod]
 have e4:r % s+q*s=r:=by
  rw [hq,Nat.mul_comm]
  exact Nat.mod_add_div r s
 rw [e3,e2,e4]
theorem Eu8.done {a m r x y:Nat} (h:Eu8 a m r 0 x y):r=Nat.gcd m a:=by
 have:=h.g
 rwa [Nat.gcd_zero_right] at this
theorem inv_one {a m x y:Nat} (hx:x<m) (hy:y<m) (h1:a*x % m=1) (h2:a*y % m=1):x=y:=by
 have e1:x*(a*y) % m=x:=by rw [Nat.mul_mod,h2,Nat.mul_one,Nat.mod_mod,Nat.mod_eq_of_lt hx]
 have e2:a*x*y % m=y:=by rw [Nat.mul_mod,h1,Nat.one_mul,Nat.mod_mod,Nat.mod_eq_of_lt hy]
 have e3:x*(a*y)=a*x*y:=by rw [←Nat.mul_assoc,Nat.mul_comm x a]
 rw [e3,e2] at e1
 exact e1.symm
theorem num_two:NumIs [2] 2:=⟨fun x hx=>by simp at hx;omega,.inr (by decide),by simp [val]⟩
theorem cmp_two {t:List Nat} (hd:Dg t) (hn:nrm t):cmpL t [2]=if val t<2 then -1 else if 2<val t then 1 else 0:=by
 rw [cmpL_val hd num_two.1 hn num_two.2.1,num_two.2.2]
def RelI (a m:Nat) (w4:World) (sr ss sx sy:Value) (wr:World):Prop :=
 ∃ (Ar:Option Addr) (cr:Nat) (r:List Nat) (As:Option Addr) (cs:Nat) (s:List Nat) (Ax:Option Addr) (cx:Nat) (x:List Nat) (Ay:Option Addr) (cy:Nat) (y:List Nat) (R S X Y:Nat),
  sr = .slice Ar r.length cr∧ss = .slice As s.length cs∧sx = .slice Ax x.length cx∧sy = .slice Ay y.length cy∧Hid (NumIs r R)∧Hid (NumIs s S)∧Hid (NumIs x X)∧Hid (NumIs y Y) ∧
  Rd .u32 wr wr.heap.size Ar cr r∧Rd .u32 wr wr.heap.size As cs s∧Rd .u32 wr wr.heap.size Ax cx x∧Rd .u32 wr wr.heap.size Ay cy y∧Hid (Eu8 a m R S X Y)∧Below w4.heap.size w4 wr
theorem inv8_high (w:World) (A A':Option Addr) (c c':Nat) (l l':List Nat) (hr:Rd .u32 w w.heap.size A c l) (hr':Rd .u32 w w.heap.size A' c' l') (hd:Dg l) (hd':Dg l') (hs:l.length≤1000) (hs':l'.length≤1000) (hn:nrm l) (hn':nrm l') (h0:1<val l') :
  Calls Tryd.prog 72 #[.slice A l.length c,.slice A' l'.length c'] w fun e w' =>
   (Nat.gcd (val l') (val l)≠1∧Nought w e w')∨(Nat.gcd (val l') (val l)=1∧∃ x,x<val l'∧val l*x % val l'=1∧LeftR w x e w'):=by
 have hT:Row .u32 22 (w.alloc (.cells #[.int .u32 2] 22)) w.heap.size [2]:=Holds.fresh _ _ _
 have aA:Below w.heap.size w (w.alloc (.cells #[.int .u32 2] 22)):=(Below.refl _ _).alloc (Nat.le_refl _) _
 have aU:=rd_next hr (Nat.le_refl _) aA
 have am:=rd_next hr' (Nat.le_refl _) aA
 have bs:=(rd_whole (c:=1) hT (by simp) (by omega)).more (Holds.lt hT)
 clear hT hr hr'
 obtain ⟨z,hz,aR⟩:∃ z:Int,cmpL l' [2]=z∧0≤z:=⟨_,rfl,by
  rw [cmp_two hd' hn',if_neg (by omega)]
  split <;> omega⟩
 have hzb:decide (z<0)=false:=decide_eq_false (by omega)
 go_enter Tryd.func72,Tryd.ntmps72
 go_wp2_with fail
 generalize w.alloc (.cells #[.int .u32 2] 22)=w2 at *
 refine (cmp'_at w2 _ _ A' _ c' 1 _ 1 l' [2] rfl rfl am bs z hz).mono ?_
 rintro e w3 ⟨rfl,q,rfl⟩
 have aA:=below_drewN aA q
 have aU:=rd_drawn aU q
 have am:=rd_drawn am q
 clear bs
 generalize w2.drewN q=w3 at *
 have H0:=lH (show val l'≠0 by omega)
 go_wp2_with fail
 refine (rest'_yes w3 _ _ A A' c c' l l' aU am (Nat.le_refl _) (Nat.le_refl _) hd hd' (by omega) (by omega) H0 hn hn').mono ?_
 rintro e w4 ⟨As,cs,s0,rfl,bv,bl,aX⟩
 have am:=rd_next am (Nat.le_refl _) aX
 have ae:=aA.trans (aX.mono aA.size)
 clear aU aX aA
 have aB:=lH (show ∀ (p:List Nat) (v:Nat),NumIs p v→v≤val l'→p.length≤1000 from fun _ _ h1 h2=>num_len' h1 (Nat.lt_of_lt_of_le (Nat.lt_of_le_of_lt h2 (val_lt hd')) (pw_mono hs')))
 have bH:=lH (Eu8.start (a:=val l) h0)
 have bF:=lH bv
 clear bv
 have hT:Row .u32 22 (w4.alloc (.cells #[.int .u32 1] 22)) w4.heap.size [1]:=Holds.fresh _ _ _
 have aT:Below w4.heap.size w4 (w4.alloc (.cells #[.int .u32 1] 22)):=(Below.refl _ _).alloc (Nat.le_refl _) _
 have am:=rd_next am (Nat.le_refl _) aT
 have bl:=rd_next bl (Nat.le_refl _) aT
 have bK:=(rd_whole (c:=1) hT (by simp) (by omega)).more (Holds.lt hT)
 have ae:=ae.trans (aT.mono ae.size)
 clear hT aT
 go_wp2_with fail
 generalize w4.alloc (.cells #[.int .u32 1] 22)=w5 at *
 go_loopw [6,7,8,9] (fun sr ss sx sy wr=>RelI (val l) (val l') w5 sr ss sx sy wr) (fun _ ss _ _ wr=>readNum ss wr)
 case atStart=>exact ⟨A',c',l',As,cs,s0,none,0,[],some ⟨w4.heap.size,0,none⟩,1,[1],_,_,_,_,rfl,rfl,rfl,rfl,lH ⟨hd',hn',rfl⟩,bF,lH num_nil,lH num_unit,am,bl,Rd.nil_ _ _ _,bK,bH,Below.refl _ _⟩
 case round =>
  obtain ⟨Ar,cr,r,As,cs,s,Ax,cx,x,Ay,cy,y,R,S,X,Y,rfl,rfl,rfl,rfl,Hr,Hs,Hx,Hy,bf,au,aY,bm,ak,aH⟩:=hrel
  have aC:=rd_next am (Nat.le_refl _) aH
  have ay:=ae.trans (aH.mono ae.size)
  have hrl:r.length≤1000:=aB.out _ _ Hr ak.out.rm
  have hsl:s.length≤1000:=aB.out _ _ Hs (by have:=ak.out.sr;have:=ak.out.rm;omega)
  have bA:x.length≤1000:=aB.out _ _ Hx (Nat.le_of_lt ak.out.xm)
  have bI:y.length≤1000:=aB.out _ _ Hy (Nat.le_of_lt ak.out.ym)
  obtain ⟨W,hW⟩:∃ W,W=wr:=⟨_,rfl⟩
  subst hW
  rcases Nat.eq_zero_or_pos s.length with hs0 | hs0
  case inl =>
   obtain rfl:=List.eq_nil_of_length_eq_zero hs0
   obtain rfl:S=0:=Hs.out.2.2.symm
   have Hg:=lH ak.out.done
   obtain ⟨z2,bw,bt⟩:∃ z2:Int,Hid (cmpL r [1]=z2)∧Hid (z2=0↔R=1):=⟨_,rfl,by
    rw [cmp_one Hr.out.1 Hr.out.2.1,Hr.out.2.2]
    refine lH ?_
    split
    ·constructor
     ·intro h;omega
     ·intro h;omega
    ·split
     ·constructor
      ·intro h;omega
      ·intro h;omega
     ·constructor
      ·intro h;omega
      ·intro h;rfl⟩
   have hT:Row .u32 22 (W.alloc (.cells #[.int .u32 1] 22)) W.heap.size [1]:=Holds.fresh _ _ _
   have ai:Below W.heap.size W (W.alloc (.cells #[.int .u32 1] 22)):=(Below.refl _ _).alloc (Nat.le_refl _) _
   have aL:=rd_next bf (Nat.le_refl _) ai
   have av:=rd_next aY (Nat.le_refl _) ai
   have aN:=(rd_whole (c:=1) hT (by simp) (by omega)).more (Holds.lt hT)
   have ac:=ay.trans (ai.mono ay.size)
   clear hT ai
   by_cases hR:R=1
   case pos =>
    have aR:z2=0:=bt.out.2 hR
    subst aR
    have bk:=lH (show val l*X % val l'=1 by
     have h:=ak.out.hx
     rw [hR,Nat.mod_eq_of_lt h0,Nat.mul_comm] at h
     exact h)
    have a6:=lH (show Nat.gcd (val l') (val l)=1 by rw [←Hg.out];exact hR)
    clear hR
    go_wp2_with fail
    generalize W.alloc (.cells #[.int .u32 1] 22)=w6 at *
    refine (cmp'_at w6 _ _ Ar _ cr 1 _ 1 r [1] rfl rfl aL aN 0 bw).mono ?_
    rintro e w7 ⟨rfl,q,rfl⟩
    have ao:=rd_drawn av q
    have ab:=below_drewN ac q
    generalize w6.drewN q=w7 at *
    go_wp2_with fail
    go_ret2
    exact .inr ⟨a6,X,ak.out.xm,bk,Ax,cx,x,rfl,Hx,ao,ab⟩
   case neg =>
    have aR:z2≠0:=fun e=>hR (bt.out.1 e)
    have hzb2:(z2 != 0)=true:=by simpa using aR
    have a6:=lH (show Nat.gcd (val l') (val l)≠1 by rw [←Hg.out];exact hR)
    clear hR aR
    go_wp2_with fail
    generalize W.alloc (.cells #[.int .u32 1] 22)=w6 at *
    refine (cmp'_at w6 _ _ Ar _ cr 1 _ 1 r [1] rfl rfl aL aN z2 bw).mono ?_
    rintro e w7 ⟨rfl,q,rfl⟩
    have ab:=below_drewN ac q
    generalize w6.drewN q=w7 at *
    go_wp2_with fail
    go_ret2
    exact .inl ⟨a6,rfl,ab⟩
  case inr =>
  have aV:=lH (show val s≠0 by
   intro h
   have:=nrm_nil Hs.out.1 Hs.out.2.1 h
   omega)
  have b1:decide ((0:Int)<(s.length:Int))=true:=decide_eq_true (by omega)
  have b2:decide (0<s.length)=true:=decide_eq_true (by omega)
  have bD:=lH (ak.out.next (by rw [←Hs.out.2.2];have:=aV.out;omega))
  have aG:=lH (readNum_eq au)
  go_wp2_with fail
  refine (div'_any W _ _ Ar As cr cs _ _ r s rfl rfl bf au (Nat.le_refl _) (Nat.le_refl _) Hr.out.1 Hs.out.1 Hr.out.2.1 Hs.out.2.1 (by omega) (by omega) aV).mono ?_
  rintro e w6 ⟨Aq,cq,qq,At,ct,tt,rfl,bd,bz,br,bu,ai⟩
  have aF:=rd_next au (Nat.le_refl _) ai
  have av:=rd_next aY (Nat.le_refl _) ai
  have aw:=rd_next bm (Nat.le_refl _) ai
  have ax:=rd_next aC (Nat.le_refl _) ai
  have ac:=aH.trans (ai.mono aH.size)
  have bL:qq.length≤1000:=aB.out _ _ bd (Nat.le_trans (Nat.div_le_self _ _) (by rw [Hr.out.2.2];exact ak.out.rm))
  have bx:=lH bd
  have bE:=lH bz
  clear bd bz ai bf au aY bm aC aH ay
  go_wp2_with fail
  refine (mul8_yes w6 Aq Ay A' cq cy c' qq y l' br aw ax bx.out.1 Hy.out.1 hd' bL bI hs' H0 hn').mono ?_
  rintro e w7 ⟨Ap,cp,pp,rfl,a_,bn,az⟩
  have aJ:=rd_next aF (Nat.le_refl _) az
  have ao:=rd_next av (Nat.le_refl _) az
  have aO:=rd_next aw (Nat.le_refl _) az
  have aK:=rd_next ax (Nat.le_refl _) az
  have aM:=rd_next bu (Nat.le_refl _) az
  have ab:=ac.trans (az.mono ac.size)
  have bJ:pp.length≤1000:=aB.out _ _ a_ (Nat.le_of_lt (Nat.mod_lt _ (by omega)))
  have aW:=lH a_
  clear a_ az aF av aw ax bu br ac
  go_wp2_with fail
  refine (sub8_yes w7 Ax Ap A' cx cp c' x pp l' ao bn aK Hx.out.1 aW.out.1 hd' bA bJ hs' H0 Hx.out.2.1 aW.out.2.1 hn').mono ?_
  rintro e w8 ⟨Ad,cd,dd,rfl,bc,bC,aD⟩
  have a8:=rd_next aJ (Nat.le_refl _) aD
  have ba:=rd_next aO (Nat.le_refl _) aD
  have aQ:=rd_next aM (Nat.le_refl _) aD
  have a9:=ab.trans (aD.mono ab.size)
  rw [aW.out.2.2,bx.out.2.2,Hx.out.2.2,Hy.out.2.2,Hr.out.2.2,Hs.out.2.2] at bc
  have bG:=lH bc
  have aE:=lH (show NumIs tt (R % S) by have h:=bE.out;rwa [Hr.out.2.2,Hs.out.2.2] at h)
  have bB:=lH (readNum_eq aQ)
  clear bc aD aJ ao aO aK aM bn ab
  go_wp2_with fail
  go_roundw
  case rel=>exact ⟨As,cs,s,At,ct,tt,Ay,cy,y,Ad,cd,dd,S,R % S,Y,_,rfl,rfl,rfl,rfl,Hs,aE,Hy,bG,a8,aQ,ba,bC,bD,a9⟩
  case measure =>
   show readNum (.slice At tt.length ct) w8<readNum (.slice As s.length cs) W
   rw [bB.out,aG.out,aE.out.2.2,Hs.out.2.2]
   exact Nat.mod_lt _ (by rw [←Hs.out.2.2];have:=aV.out;omega)
end Go.Proofs.YtflfdglpljodbaaDoor
