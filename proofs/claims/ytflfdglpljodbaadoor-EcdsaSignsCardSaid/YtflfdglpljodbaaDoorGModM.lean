/-
  Numbers that go round: what is left, sum, difference, product. Powers that go round. Inverses: Euclid's way. Edges, by hand.
-/
import Derived.Test.YtflfdglpljodbaaDoorGNat18
import Derived.Test.YtflfdglpljodbaaDoorGPure4
set_option maxRecDepth 100000
set_option maxHeartbeats 1000000
set_option linter.unusedVariables false
set_option linter.unusedSimpArgs false
namespace Go.Proofs.YtflfdglpljodbaaDoor
open Go.RowKit
def Left (w:World) (v:Nat) (e:Ending) (w':World):Prop :=
 ∃ A2 c2 r,e = .returned (.tuple #[.slice A2 r.length c2,.bool true])∧NumIs r v∧Fresh .u32 22 w' w.heap.size A2 c2 r∧Below w.heap.size w w'
theorem Fresh.more {k:IntKind} {T:TypeId} {w':World} {B B':Nat} {A:Option Addr} {c:Nat} {r:List Nat} (h:Fresh k T w' B A c r) (hB:B'≤B):Fresh k T w' B' A c r :=
 ⟨h.1,fun h0=>by obtain ⟨g,L,h1,h2,h3,h4⟩:=h.2 h0;exact ⟨g,L,h1,Nat.le_trans hB h2,h3,h4⟩⟩
def Nought (w:World) (e:Ending) (w':World):Prop:=e = .returned (.tuple #[.slice none 0 0,.bool false])∧Below w.heap.size w w'
theorem trl_none {l:List Nat} (hd:Dg l) (h:val l=0):(trl l).length=0:=by
 have h1:NumIs (trl l) 0:=num_trl hd h
 rw [num_one h1 num_nil]
 rfl
theorem left_yes (w:World) (B B':Nat) (A A':Option Addr) (c c':Nat) (l l':List Nat) (hr:Rd .u32 w B A c l) (hr':Rd .u32 w B' A' c' l') (hB:B≤w.heap.size) (hB':B'≤w.heap.size) (hd:Dg l) (hd':Dg l') (hs:l.length≤4000) (hs':l'.length≤4000) (h0:val l'≠0) :
  Calls Tryd.prog 93 #[.slice A l.length c,.slice A' l'.length c'] w (Left w (val l % val l')):=by
 go_enter Tryd.func93,Tryd.ntmps93
 go_wp2_with fail
 refine (div_any w B B' A A' c c' l l' hr hr' hB hB' hd hd' hs hs' h0).mono ?_
 rintro e w' ⟨A2,c2,q,A3,c3,r,rfl,hq,hrr,hf2,hf3,hb⟩
 go_wp2_with fail
 go_ret2
 exact ⟨_,_,r,rfl,hrr,hf3,hb⟩
theorem mulm_yes (w:World) (A A' A'':Option Addr) (c c' c'':Nat) (l l' l'':List Nat) (hr:Rd .u32 w w.heap.size A c l) (hr':Rd .u32 w w.heap.size A' c' l') (hr'':Rd .u32 w w.heap.size A'' c'' l'') (hd:Dg l) (hd':Dg l') (hd'':Dg l'') (hs:l.length≤1000) (hs':l'.length≤1000) (hs'':l''.length≤1000) (h0:val l''≠0) :
  Calls Tryd.prog 68 #[.slice A l.length c,.slice A' l'.length c',.slice A'' l''.length c''] w (Left w ((val l*val l') % val l'')):=by
 go_enter Tryd.func68,Tryd.ntmps68
 go_wp2_with fail
 refine (mul_any w _ _ A A' c c' l l' hr hr' (Nat.le_refl _) (Nat.le_refl _) hd hd' (by omega) (by omega)).mono ?_
 rintro e w1 ⟨A1,c1,r1,rfl,hn1,hf1,hb1⟩
 have hl1:r1.length≤2000:=num_len' hn1 (prod_lt hd hd' hs hs')
 go_wp2_with fail
 refine (left_yes w1 _ _ A1 A'' c1 c'' r1 l'' hf1.rd (rd_next hr'' (Nat.le_refl _) hb1) (Nat.le_refl _) (Nat.le_refl _) hn1.1 hd'' (by omega) (by omega) h0).mono ?_
 rintro e w2 ⟨A2,c2,r2,rfl,hn2,hf2,hb2⟩
 rw [hn1.2.2] at hn2
 go_wp2_with fail
 go_ret2
 exact ⟨_,_,r2,rfl,hn2,hf2.more hb1.size,hb1.trans (hb2.mono hb1.size)⟩
theorem subm_yes (w:World) (A A' A'':Option Addr) (c c' c'':Nat) (l l' l'':List Nat) (hr:Rd .u32 w w.heap.size A c l) (hr':Rd .u32 w w.heap.size A' c' l') (hr'':Rd .u32 w w.heap.size A'' c'' l'') (hd:Dg l) (hd':Dg l') (hd'':Dg l'') (hs:l.length≤1000) (hs':l'.length≤1000) (hs'':l''.length≤1000) (h0:val l''≠0) :
  Calls Tryd.prog 96 #[.slice A l.length c,.slice A' l'.length c',.slice A'' l''.length c''] w (Left w ((val l % val l'' + (val l'' - val l' % val l'')) % val l'')):=by
 go_enter Tryd.func96,Tryd.ntmps96
 go_wp2_with fail
 refine (left_yes w _ _ A A'' c c'' l l'' hr hr'' (Nat.le_refl _) (Nat.le_refl _) hd hd'' (by omega) (by omega) h0).mono ?_
 rintro e w1 ⟨A1,c1,r1,rfl,ae,aC,ao⟩
 have aG:r1.length≤1000:=num_len' ae (Nat.lt_of_lt_of_le (Nat.lt_trans (Nat.mod_lt _ (Nat.pos_of_ne_zero h0)) (val_lt hd'')) (pw_mono hs''))
 go_wp2_with fail
 refine (left_yes w1 _ _ A' A'' c' c'' l' l'' (rd_next hr' (Nat.le_refl _) ao) (rd_next hr'' (Nat.le_refl _) ao) (Nat.le_refl _) (Nat.le_refl _) hd' hd'' (by omega) (by omega) h0).mono ?_
 rintro e w2 ⟨A2,c2,r2,rfl,ac,aD,ay⟩
 have hl2:r2.length≤1000:=num_len' ac (Nat.lt_of_lt_of_le (Nat.lt_trans (Nat.mod_lt _ (Nat.pos_of_ne_zero h0)) (val_lt hd'')) (pw_mono hs''))
 have aw:=rd_next aC.rd (Nat.le_refl _) ay
 have av:=aD.rd
 have az:=rd_next (rd_next hr'' (Nat.le_refl _) ao) (Nat.le_refl _) ay
 have hb:=ao.trans (ay.mono ao.size)
 clear aC aD ao ay
 have h1:=Nat.mod_lt (val l) (Nat.pos_of_ne_zero h0)
 have h2:=Nat.mod_lt (val l') (Nat.pos_of_ne_zero h0)
 obtain ⟨x,Hx⟩:∃ x,Hid (x=val l % val l''):=⟨_,rfl⟩
 obtain ⟨y,Hy⟩:∃ y,Hid (y=val l' % val l''):=⟨_,rfl⟩
 obtain ⟨m,Hm⟩:∃ y,Hid (y=val l''):=⟨_,rfl⟩
 rw [←Hx.out] at ae h1
 rw [←Hy.out] at ac h2
 rw [←Hm.out] at h1 h2
 have ai:=lH (show (val l % val l'' + (val l'' - val l' % val l'')) % val l''=(x+(m - y)) % m by rw [Hx.out,Hy.out,Hm.out])
 by_cases hxy:y≤x
 ·have hv:decide (val r2≤val r1)=true:=by rw [ae.2.2,ac.2.2];exact decide_eq_true hxy
  have ab:(x+(m - y)) % m=x - y:=by
   rw [show x+(m - y)=(x - y)+m by omega,Nat.add_mod_right,Nat.mod_eq_of_lt (by omega)]
  have ak:=lH ab
  clear ab
  go_wp2_with fail
  refine (sub_all w2 _ _ A1 A2 c1 c2 r1 r2 aw av (Nat.le_refl _) (Nat.le_refl _) ae.1 ac.1 (by omega) (by omega) true hv).mono ?_
  rintro e w3 ⟨A3,c3,r3,rfl,aA,aE,am⟩
  rw [ae.2.2,ac.2.2] at aA
  go_wp2_with fail
  go_ret2
  exact ⟨_,_,r3,rfl,by rw [ai.out,ak.out];exact aA,aE.more hb.size,hb.trans (am.mono hb.size)⟩
 ·have hv:decide (val r2≤val r1)=false:=by rw [ae.2.2,ac.2.2];exact decide_eq_false hxy
  have ab:(x+(m - y)) % m=x+m - y:=by
   rw [show x+(m - y)=x+m - y by omega,Nat.mod_eq_of_lt (by omega)]
  have ak:=lH ab
  clear ab
  go_wp2_with fail
  refine (sub_all w2 _ _ A1 A2 c1 c2 r1 r2 aw av (Nat.le_refl _) (Nat.le_refl _) ae.1 ac.1 (by omega) (by omega) false hv).mono ?_
  rintro e w3 ⟨A3,c3,r3,rfl,aA,aE,am⟩
  have aw:=rd_next aw (Nat.le_refl _) am
  have av:=rd_next av (Nat.le_refl _) am
  have az:=rd_next az (Nat.le_refl _) am
  have hb:=hb.trans (am.mono hb.size)
  go_wp2_with fail
  refine (add_any w3 _ _ A1 A'' c1 c'' r1 l'' aw az (Nat.le_refl _) (Nat.le_refl _) ae.1 hd'' (by omega) (by omega)).mono ?_
  rintro e w4 ⟨A4,c4,r4,rfl,au,aJ,ax⟩
  have hl4:r4.length≤1001:=num_len' au (sum_lt ae.1 hd'' aG hs'')
  rw [ae.2.2,←Hm.out] at au
  go_wp2_with fail
  refine (sub_all w4 _ _ A4 A2 c4 c2 r4 r2 aJ.rd (rd_next av (Nat.le_refl _) ax) (Nat.le_refl _) (Nat.le_refl _) au.1 ac.1 (by omega) (by omega) true (by rw [au.2.2,ac.2.2];exact decide_eq_true (by omega))).mono ?_
  rintro e w5 ⟨A5,c5,r5,rfl,aB,aF,aH⟩
  rw [au.2.2,ac.2.2] at aB
  go_wp2_with fail
  go_ret2
  exact ⟨_,_,r5,rfl,by rw [ai.out,ak.out];exact aB,aF.more (Nat.le_trans hb.size ax.size),(hb.trans (ax.mono hb.size)).trans (aH.mono (Nat.le_trans hb.size ax.size))⟩
theorem bit_at {l:List Nat} (hd:Dg l) (i:Nat):l.getD (i / 32) 0 / 2 ^ (i % 32) % 2=val l / 2 ^ i % 2:=by
 have h1:=val_split l (i / 32)
 have hlow:val (l.take (i / 32))<pw (i / 32):=by
  have:=val_lt (hd.take (i / 32))
  exact Nat.lt_of_lt_of_le this (pw_mono (by rw [List.length_take];exact Nat.min_le_left _ _))
 have e:pw (i / 32)=2 ^ (32*(i / 32)):=by unfold pw;rw [Nat.pow_mul]
 have hi:2 ^ i=2 ^ (32*(i / 32))*2 ^ (i % 32):=by rw [←Nat.pow_add];congr 1;omega
 have h2:val l / 2 ^ i=val (l.drop (i / 32)) / 2 ^ (i % 32):=by
  rw [hi,←Nat.div_div_eq_div_mul,←e,h1,Nat.add_mul_div_left _ _ (pw_pos _),Nat.div_eq_of_lt hlow,Nat.zero_add]
 rw [h2]
 have hs:i % 32<32:=Nat.mod_lt _ (by omega)
 generalize i % 32=s at *
 rcases Nat.lt_or_ge (i / 32) l.length with h | h
 ·rw [val_drop l h]
  generalize l.getD (i / 32) 0=x
  generalize val (l.drop (i / 32+1))=R
  have e2:4294967296=2 ^ s*(2*2 ^ (31 - s)):=by
   rw [←Nat.pow_succ',←Nat.pow_add]
   have:s+(31 - s+1)=32:=by omega
   rw [show s+(31 - s).succ=32 by omega]
  rw [e2,Nat.mul_assoc,Nat.add_mul_div_left _ _ (Nat.pow_pos (by omega)),Nat.mul_assoc,Nat.add_mul_mod_self_left]
 ·rw [val_drop_all l h,List.getD,List.getElem?_eq_none h]
  simp
theorem pow_step (a E i m:Nat) (b:Nat) (hb:E / 2 ^ i % 2=b):E / 2 ^ i=2*(E / 2 ^ (i+1))+b:=by
 have h:E / 2 ^ (i+1)=E / 2 ^ i / 2:=by rw [Nat.pow_succ,Nat.div_div_eq_div_mul]
 rw [h]
 omega
theorem val_top {l:List Nat} (hd:Dg l):val l / 2 ^ nb (trl l)=0:=by
 have hn:NumIs (trl l) (val l):=num_trl hd rfl
 rcases Nat.eq_zero_or_pos (val l) with h | h
 ·rw [h];exact Nat.zero_div _
 ·exact Nat.div_eq_of_lt (nb_bounds hn (by omega)).2.1
theorem and_one (x s:Nat) (hx:x<4294967296):bits .and .u32 ((x:Int) / 2 ^ s) 1=((x / 2 ^ s % 2:Nat):Int):=by
 have h1:x / 2 ^ s≤x:=Nat.div_le_self _ _
 have h:=u32_and_nat (x / 2 ^ s) 1 (by omega) (by omega)
 rw [Nat.and_one_is_mod] at h
 rw [←h,Int.natCast_ediv,Int.natCast_pow]
 rfl
theorem nb_le {l:List Nat} (hd:Dg l):nb l≤32*l.length:=by
 rcases hm:l.length with _ | m
 ·rw [List.eq_nil_of_length_eq_zero hm]
  exact Nat.le_refl _
 ·rw [nb_succ hm]
  have:=Lib.bitLen_le (l.getD m 0) 32 (by omega) (hd.at_ m)
  omega
theorem nb_trl_le {l:List Nat} (hd:Dg l):nb (trl l)≤32*l.length:=by
 have h1:=nb_le (trl_dg hd)
 have h2:(trl l).length≤l.length:=by rw [trl_length];exact tlen_le _ _
 omega
structure Eu (a m x y u v:Nat) (b:Bool):Prop where
 sum:v*x+u*y=m
 um:u≤m
 xm:x≤m
 xpos:0<x
 yx:y<x
 g:Nat.gcd x y=Nat.gcd m a
 no:b=false→∃ k j,x+u*a=m*k∧v*a=y+m*j
 yes:b=true→∃ k j,u*a=x+m*k∧y+v*a=m*j
theorem Eu.start {a m:Nat} (h:1<m):Eu a m m (a % m) 0 1 false :=
 ⟨by omega,by omega,Nat.le_refl _,by omega,Nat.mod_lt _ (by omega),by rw [Nat.gcd_comm m (a % m),←Nat.gcd_rec],
  fun _=>⟨1,a / m,by omega,by rw [Nat.one_mul,Nat.mod_add_div]⟩,fun h=>by cases h⟩
theorem Eu.vm {a m x y u v:Nat} {b:Bool} (h:Eu a m x y u v b):v≤m:=by
 have h1:=h.sum
 have h2:v*1≤v*x:=Nat.mul_le_mul_left _ h.xpos
 omega
theorem Eu.next {a m x y u v:Nat} {b:Bool} (h:Eu a m x y u v b) (hy:0<y):Eu a m y (x % y) v (u+x / y*v) (!b):=by
 have hx:=Nat.mod_add_div x y
 have hvm:=h.vm
 obtain ⟨hs,hu,hxm,hxp,hyx,hg,hno,hyes⟩:=h
 generalize hq:x / y=q at *
 generalize hr:x % y=r at *
 have hxe:x=r+y*q:=hx.symm
 refine ⟨?_,hvm,by omega,hy,by rw [←hr];exact Nat.mod_lt _ hy,?_,?_,?_⟩
 ·rw [←hs,hxe]
  rw [Nat.add_mul,Nat.mul_add v r]
  have e1:q*v*y=v*(y*q):=by rw [Nat.mul_comm q v,Nat.mul_assoc,Nat.mul_comm q y]
  rw [e1]
  have e2:v*r=v*r:=rfl
  generalize v*(y*q)=t1
  generalize v*r=t2
  generalize u*y=t3
  omega
 ·rw [←hg,←hr,Nat.gcd_comm y (x % y),←Nat.gcd_rec,Nat.gcd_comm]
 ·intro hb
  have hb':b=true:=by simpa only [Bool.not_eq_false'] using hb
  obtain ⟨k,j,h1,h2⟩:=hyes hb'
  refine ⟨j,k+q*j,h2,?_⟩
  have e1:q*(y+v*a)=q*(m*j):=by rw [h2]
  rw [Nat.mul_add] at e1
  have e2:q*v*a=q*(v*a):=Nat.mul_assoc _ _ _
  have e3:m*(k+q*j)=m*k+q*(m*j):=by rw [Nat.mul_add,Nat.mul_left_comm]
  have e4:q*y=y*q:=Nat.mul_comm _ _
  rw [Nat.add_mul,e2,e3]
  generalize q*(v*a)=t1 at *
  generalize q*(m*j)=t2 at *
  generalize q*y=t3 at *
  generalize y*q=t5 at *
  generalize u*a=t4 at *
  generalize m*k=t6 at *
  omega
 ·intro hb
  have hb':b=false:=by simpa only [Bool.not_eq_true'] using hb
  obtain ⟨k,j,h1,h2⟩:=hno hb'
  refine ⟨j,k+q*j,h2,?_⟩
  have e1:q*(v*a)=q*(y+m*j):=by rw [h2]
  rw [Nat.mul_add] at e1
  have e2:q*v*a=q*(v*a):=Nat.mul_assoc _ _ _
  have e3:m*(k+q*j)=m*k+q*(m*j):=by rw [Nat.mul_add,Nat.mul_left_comm]
  have e4:q*y=y*q:=Nat.mul_comm _ _
  rw [Nat.add_mul,e2,e3]
  generalize q*(v*a)=t1 at *
  generalize q*(m*j)=t2 at *
  generalize q*y=t3 at *
  generalize y*q=t5 at *
  generalize u*a=t4 at *
  generalize m*k=t6 at *
  omega
theorem Eu.done {a m x u v:Nat} {b:Bool} (h:Eu a m x 0 u v b):x=Nat.gcd m a:=by
 have:=h.g
 rwa [Nat.gcd_zero_right] at this
theorem Eu.inv {a m u v:Nat} {b:Bool} (hm:1<m) (h:Eu a m 1 0 u v b):(b=true→a*(u % m) % m=1)∧(b=false→a*((0 % m+(m - u % m)) % m) % m=1):=by
 constructor
 ·intro hb
  obtain ⟨k,j,h1,_⟩:=h.yes hb
  rw [Nat.mul_mod,Nat.mod_mod,←Nat.mul_mod,Nat.mul_comm,h1,Nat.add_mul_mod_self_left,Nat.mod_eq_of_lt hm]
 ·intro hb
  obtain ⟨k,j,h1,_⟩:=h.no hb
  have hd:=Nat.mod_add_div u m
  have hl:=Nat.mod_lt u (show 0<m by omega)
  generalize u / m=d at *
  generalize u % m=z at *
  subst hd
  rw [Nat.zero_mod,Nat.zero_add,Nat.mul_mod,Nat.mod_mod,←Nat.mul_mod]
  have e1:(z+m*d)*a=z*a+m*(d*a):=by rw [Nat.add_mul,Nat.mul_assoc]
  rw [e1] at h1
  have e2:a*(m - z)+z*a=m*a:=by rw [Nat.mul_comm z a,←Nat.mul_add,Nat.sub_add_cancel (by omega),Nat.mul_comm]
  have e3:a*(m - z)+m*k=1+m*(a+d*a):=by
   rw [Nat.mul_add]
   generalize a*(m - z)=t1 at *
   generalize z*a=t2 at *
   generalize m*a=t3 at *
   generalize m*(d*a)=t4 at *
   generalize m*k=t5 at *
   omega
  have e4:(a*(m - z)+m*k) % m=(1+m*(a+d*a)) % m:=by rw [e3]
  rwa [Nat.add_mul_mod_self_left,Nat.add_mul_mod_self_left,Nat.mod_eq_of_lt hm] at e4
theorem val_unit:val [1]=1:=by simp [val]
theorem cmp_one {t:List Nat} (hd:Dg t) (hn:nrm t):cmpL t [1]=if val t<1 then -1 else if 1<val t then 1 else 0:=by
 have h1:Dg [1]:=fun x hx=>by simp at hx;omega
 have h2:nrm [1]:=.inr (by decide)
 rw [cmpL_val hd h1 hn h2,val_unit]
theorem num_unit:NumIs [1] 1:=⟨fun x hx=>by simp at hx;omega,.inr (by decide),val_unit⟩
theorem trl_one:trl [1]=[1]:=trl_id (.inr (by decide))
def readNum (s:Value) (w:World):Nat :=
 match s with
 | .slice (some a) n _=>val ((List.range n).map fun i=>match w.cell? ⟨a.block,a.off+i,none⟩ with | some (.int _ z)=>z.toNat | _=>0)
 | _=>0
theorem readNum_eq {w:World} {B:Nat} {A:Option Addr} {c:Nat} {l:List Nat} (hr:Rd .u32 w B A c l):readNum (.slice A l.length c) w=val l:=by
 rcases Nat.eq_zero_or_pos l.length with h | h
 ·obtain rfl:=List.eq_nil_of_length_eq_zero h
  cases A <;> simp [readNum,val]
 ·obtain ⟨b,off,rfl,hb,hc⟩:=hr.2.2 h
  simp only [readNum]
  congr 1
  apply List.ext_getElem
  ·simp
  ·intro i h1 h2
   simp only [List.getElem_map,List.getElem_range]
   rw [hc i h2]
   simp [List.getD,h2]
theorem inv_high (w:World) (A A':Option Addr) (c c':Nat) (l l':List Nat) (hr:Rd .u32 w w.heap.size A c l) (hr':Rd .u32 w w.heap.size A' c' l') (hd:Dg l) (hd':Dg l') (hs:l.length≤1000) (hs':l'.length≤1000) (hn':nrm l') (h0:1<val l') :
  Calls Tryd.prog 67 #[.slice A l.length c,.slice A' l'.length c'] w fun e w' =>
   (Nat.gcd (val l') (val l)≠1∧Nought w e w')∨(Nat.gcd (val l') (val l)=1∧∃ x,x<val l'∧val l*x % val l'=1∧Left w x e w'):=by
 obtain ⟨z,hz,hz0⟩:∃ z:Int,cmpL (trl l') (trl [1])=z∧0<z:=⟨_,rfl,by
  rw [trl_one,cmp_one (trl_dg hd') (trl_nrm l'),trl_val,if_neg (by omega),if_pos h0];omega⟩
 have hz0':¬ z≤0:=by omega
 go_enter Tryd.func67,Tryd.ntmps67
 go_wp2_with fail
 have hT:Row .u32 22 (w.alloc (.cells #[.int .u32 1] 22)) w.heap.size [1]:=Holds.fresh _ _ _
 have ay:Below w.heap.size w (w.alloc (.cells #[.int .u32 1] 22)):=(Below.refl _ _).alloc (Nat.le_refl _) _
 have aK:=rd_next hr (Nat.le_refl _) ay
 have ax:=rd_next hr' (Nat.le_refl _) ay
 have az:=(rd_whole (c:=1) hT (by simp) (by omega)).more (Holds.lt hT)
 clear hT hr hr'
 generalize w.alloc (.cells #[.int .u32 1] 22)=w2 at *
 refine (cmp_any w2 _ _ A' _ c' 1 l' [1] ax az z hz).mono ?_
 rintro e w3 ⟨rfl,q,rfl⟩
 have ay:=below_drewN ay q
 have aK:=rd_drawn aK q
 have ax:=rd_drawn ax q
 have az:=rd_drawn az q
 generalize w2.drewN q=w3 at *
 have H0:=lH (show val l'≠0 by omega)
 go_wp2_with fail
 refine (left_yes w3 _ _ A A' c c' l l' aK ax (Nat.le_refl _) (Nat.le_refl _) hd hd' (by omega) (by omega) H0).mono ?_
 rintro e w4 ⟨Ay,cy,y,rfl,aT,aY,aJ⟩
 have ak:=aY.rd
 have ax:=rd_next ax (Nat.le_refl _) aJ
 have az:=rd_next az (Nat.le_refl _) aJ
 have aG:=ay.trans (aJ.mono ay.size)
 clear aK aY aJ ay
 have aB:=lH (show ∀ (p:List Nat) (v:Nat),NumIs p v→v≤val l'→p.length≤1000 from fun _ _ h1 h2=>num_len' h1 (Nat.lt_of_lt_of_le (Nat.lt_of_le_of_lt h2 (val_lt hd')) (pw_mono hs')))
 have bf:=lH (Eu.start (a:=val l) h0)
 have bn:=lH aT
 clear aT
 go_wp2_with fail
 go_loopw [7,8,10,11,12] (fun sx sy su sv sb wr=>∃ (Ax:Option Addr) (cx:Nat) (x:List Nat) (Ay:Option Addr) (cy:Nat) (y:List Nat) (Au:Option Addr) (cu:Nat) (u:List Nat) (Av:Option Addr) (cv:Nat) (v:List Nat) (b:Bool) (X Y U V:Nat),
   sx = .slice Ax x.length cx∧sy = .slice Ay y.length cy∧su = .slice Au u.length cu∧sv = .slice Av v.length cv∧sb = .bool b∧Hid (NumIs x X)∧Hid (NumIs y Y)∧Hid (NumIs u U)∧Hid (NumIs v V) ∧
   Rd .u32 wr wr.heap.size Ax cx x∧Rd .u32 wr wr.heap.size Ay cy y∧Rd .u32 wr wr.heap.size Au cu u∧Rd .u32 wr wr.heap.size Av cv v∧Hid (Eu (val l) (val l') X Y U V b)∧Below w4.heap.size w4 wr)
  (fun _ sy _ _ _ wr=>readNum sy wr)
 case atStart=>exact ⟨A',c',l',Ay,cy,y,none,0,[],some ⟨w.heap.size,0,none⟩,1,[1],false,_,_,_,_,rfl,rfl,rfl,rfl,rfl,⟨hd',hn',rfl⟩,bn,num_nil,num_unit,ax,ak,Rd.nil_ _ _ _,az,bf,Below.refl _ _⟩
 case round =>
  obtain ⟨Ax,cx,x,Ay,cy,y,Au,cu,u,Av,cv,v,b,X,Y,U,V,rfl,rfl,rfl,rfl,rfl,Hx,Hy,Hu,Hv,aE,ak,ai,aw,av,ae⟩:=hrel
  have ao:=rd_next az (Nat.le_refl _) ae
  have ac:=rd_next ax (Nat.le_refl _) ae
  have ab:=aG.trans (ae.mono aG.size)
  have hxl:x.length≤1000:=aB.out _ _ Hx av.out.xm
  have bk:u.length≤1000:=aB.out _ _ Hu av.out.um
  have hvl:v.length≤1000:=aB.out _ _ Hv av.out.vm
  rcases Nat.eq_zero_or_pos y.length with hy0 | hy0
  ·obtain rfl:=List.eq_nil_of_length_eq_zero hy0
   obtain rfl:Y=0:=Hy.out.2.2.symm
   have Hg:=lH av.out.done
   by_cases hX:X=1
   ·subst hX
    have hz:cmpL (trl x) (trl [1])=0:=by
     rw [trl_one,trl_id Hx.out.2.1,cmp_one Hx.out.1 Hx.out.2.1,Hx.out.2.2]
     simp
    have Hz:=lH hz
    have aH:=lH (Eu.inv h0 av)
    clear hz
    rcases b with _ | _
    ·go_wp2_with fail
     refine (cmp_any wr _ _ Ax _ cx 1 x [1] aE ao 0 Hz).mono ?_
     rintro e w5 ⟨rfl,q,rfl⟩
     have ab:=below_drewN ab q
     have ai:=rd_drawn ai q
     have ac:=rd_drawn ac q
     generalize wr.drewN q=w5 at *
     go_wp2_with fail
     refine (subm_yes w5 none Au A' 0 cu c' [] u l' (Rd.nil_ _ _ _) ai ac (fun x hx=>by cases hx) Hu.out.1 hd' (by simp) bk hs' H0.out).mono ?_
     rintro e w6 ⟨A6,c6,r6,rfl,au,aC,am⟩
     go_wp2_with fail
     go_ret2
     refine .inr ⟨Hg.out.symm,_,Nat.mod_lt _ (by omega),aH.out.2 (by first | rfl | trivial),A6,c6,r6,rfl,?_,aC.more ab.size,ab.trans (am.mono ab.size)⟩
     rw [Hu.out.2.2] at au
     exact au
    ·go_wp2_with fail
     refine (cmp_any wr _ _ Ax _ cx 1 x [1] aE ao 0 Hz).mono ?_
     rintro e w5 ⟨rfl,q,rfl⟩
     have ab:=below_drewN ab q
     have ai:=rd_drawn ai q
     have ac:=rd_drawn ac q
     generalize wr.drewN q=w5 at *
     go_wp2_with fail
     refine (left_yes w5 _ _ Au A' cu c' u l' ai ac (Nat.le_refl _) (Nat.le_refl _) Hu.out.1 hd' (by omega) (by omega) H0).mono ?_
     rintro e w6 ⟨A6,c6,r6,rfl,au,aC,am⟩
     go_wp2_with fail
     go_ret2
     refine .inr ⟨Hg.out.symm,_,Nat.mod_lt _ (by omega),aH.out.1 (by first | rfl | trivial),A6,c6,r6,rfl,?_,aC.more ab.size,ab.trans (am.mono ab.size)⟩
     rw [Hu.out.2.2] at au
     exact au
   ·obtain ⟨z2,a8,aR⟩:∃ z:Int,cmpL (trl x) (trl [1])=z∧z≠0:=⟨_,rfl,by
     rw [trl_one,trl_id Hx.out.2.1,cmp_one Hx.out.1 Hx.out.2.1,Hx.out.2.2]
     split
     ·omega
     ·rw [if_pos (by omega)];omega⟩
    have hz4:(z2 != 0)=true:=by simpa using aR
    have bd:=lH a8
    clear a8 aR
    go_wp2_with fail
    refine (cmp_any wr _ _ Ax _ cx 1 x [1] aE ao z2 bd).mono ?_
    rintro e w5 ⟨rfl,q,rfl⟩
    go_wp2_with fail
    go_ret2
    exact .inl ⟨by rw [←Hg.out];exact hX,rfl,below_drewN ab q⟩
  ·have hY:0<Y:=by
    have h1:=nrm_low Hy.out.2.1 hy0
    rw [Hy.out.2.2] at h1
    have:=pw_pos (y.length - 1)
    omega
   have hyl:y.length≤1000:=aB.out _ _ Hy (Nat.le_trans (Nat.le_of_lt av.out.yx) av.out.xm)
   have aV:=lH (av.out.next hY)
   have bl:=lH (readNum_eq ak)
   have bc:=lH (show val y≠0 by rw [Hy.out.2.2];omega)
   have hyp:((y.length:Int) == 0)=false:=by rw [beq_eq_false_iff_ne];omega
   go_wp2_with fail
   refine (div_any wr _ _ Ax Ay cx cy x y aE ak (Nat.le_refl _) (Nat.le_refl _) Hx.out.1 Hy.out.1 (by omega) (by omega) bc).mono ?_
   rintro e w5 ⟨Aq,cq,q,Ar,cr,r,rfl,aO,aM,aX,a_,aD⟩
   have aQ:=lH (show NumIs q (X / Y) by rw [Hx.out.2.2,Hy.out.2.2] at aO;exact aO)
   have aW:=lH (show NumIs r (X % Y) by rw [Hx.out.2.2,Hy.out.2.2] at aM;exact aM)
   have hql:q.length≤1000:=aB.out _ _ aQ (Nat.le_trans (Nat.div_le_self _ _) av.out.xm)
   have aU:=aX.rd
   have aA:=a_.rd
   have ak:=rd_next ak (Nat.le_refl _) aD
   have ai:=rd_next ai (Nat.le_refl _) aD
   have aw:=rd_next aw (Nat.le_refl _) aD
   have ae:=ae.trans (aD.mono ae.size)
   clear aO aM aX a_ aD aE ao ac ab
   go_wp2_with fail
   refine (mul_any w5 _ _ Aq Av cq cv q v aU aw (Nat.le_refl _) (Nat.le_refl _) aQ.out.1 Hv.out.1 (by omega) (by omega)).mono ?_
   rintro e w6 ⟨A6,c6,p6,rfl,au,aC,am⟩
   have aL:=lH (show NumIs p6 (X / Y*V) by rw [aQ.out.2.2,Hv.out.2.2] at au;exact au)
   have hl6:p6.length≤1000:=aB.out _ _ aL (Nat.le_trans (Nat.le_add_left _ _) aV.out.vm)
   have a9:=aC.rd
   have ak:=rd_next ak (Nat.le_refl _) am
   have ai:=rd_next ai (Nat.le_refl _) am
   have aw:=rd_next aw (Nat.le_refl _) am
   have aA:=rd_next aA (Nat.le_refl _) am
   have ae:=ae.trans (am.mono ae.size)
   clear au aC am aU
   go_wp2_with fail
   refine (add_any w6 _ _ Au A6 cu c6 u p6 ai a9 (Nat.le_refl _) (Nat.le_refl _) Hu.out.1 aL.out.1 (by omega) (by omega)).mono ?_
   rintro e w7 ⟨A7,c7,p7,rfl,aN,a6,aF⟩
   have bm:=lH (show NumIs p7 (U+X / Y*V) by rw [Hu.out.2.2,aL.out.2.2] at aN;exact aN)
   have ba:=a6.rd
   have ak:=rd_next ak (Nat.le_refl _) aF
   have aw:=rd_next aw (Nat.le_refl _) aF
   have aA:=rd_next aA (Nat.le_refl _) aF
   have ae:=ae.trans (aF.mono ae.size)
   clear aN a6 aF ai a9
   have br:readNum (.slice Ar r.length cr) w7<readNum (.slice Ay y.length cy) wr:=by
    rw [bl.out,readNum_eq aA,aW.out.2.2,Hy.out.2.2]
    exact Nat.mod_lt _ hY
   go_wp2_with fail
   exact ⟨⟨Ay,cy,y,Ar,cr,r,Av,cv,v,A7,c7,p7,!b,Y,X % Y,V,U+X / Y*V,rfl,rfl,rfl,rfl,rfl,Hy,aW,Hv,bm,ak,aA,aw,ba,aV,ae⟩,br⟩
end Go.Proofs.YtflfdglpljodbaaDoor
