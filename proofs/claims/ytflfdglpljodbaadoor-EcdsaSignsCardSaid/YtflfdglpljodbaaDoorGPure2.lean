/-
  Long division, plain: the guess of a digit is the digit, or one more.
-/
import Derived.Test.YtflfdglpljodbaaDoorGPure
namespace Go.Proofs.YtflfdglpljodbaaDoor
set_option linter.unusedVariables false
structure Parts (P lu lv u0 u1 u2 v1 v2 U V:Nat):Prop where
 hp:0<P
 hlu:lu<P
 hlv:lv<P
 hu1:u1<4294967296
 hu2:u2<4294967296
 hv1:2147483648≤v1
 hv1':v1<4294967296
 hv2:v2<4294967296
 hU:U=lu+P*((u0*4294967296+u1)*4294967296+u2)
 hV:V=lv+P*(v1*4294967296+v2)
 hlt:U<4294967296*V
theorem mul_lt_cancel {a b P c:Nat} (h:P*a<P*b+c) (hc:c≤P):a≤b:=by
 rcases Nat.lt_or_ge b a with h1 | h1
 ·have:P*(b+1)≤P*a:=Nat.mul_le_mul_left _ h1
  rw [Nat.mul_add] at this
  omega
 ·exact h1
section
variable {P lu lv u0 u1 u2 v1 v2 U V:Nat} (h:Parts P lu lv u0 u1 u2 v1 v2 U V)
include h
theorem Parts.vpos:0<V:=by
 have h1:=h.hV
 have h2:P*1≤P*(v1*4294967296+v2):=Nat.mul_le_mul_left _ (by have:=h.hv1;omega)
 have:=h.hp
 omega
theorem Parts.q:U / V<4294967296:=by
 rw [Nat.div_lt_iff_lt_mul h.vpos]
 exact h.hlt
theorem Parts.top:U / V*(v1*4294967296+v2)≤(u0*4294967296+u1)*4294967296+u2:=by
 have h1:=Nat.div_mul_le_self U V
 obtain ⟨q,hq⟩:∃ q,q=U / V:=⟨_,rfl⟩
 rw [←hq] at h1 ⊢
 rw [h.hV,Nat.mul_add] at h1
 have h2:q*(P*(v1*4294967296+v2))=P*(q*(v1*4294967296+v2)):=Nat.mul_left_comm _ _ _
 rw [h2,h.hU] at h1
 exact mul_lt_cancel (P:=P) (c:=P) (by have:=h.hlu;omega) (Nat.le_refl _)
theorem Parts.u0_le:u0≤v1:=by
 have h1:=h.hlt
 rw [h.hU,h.hV] at h1
 have e1:4294967296*(lv+P*(v1*4294967296+v2))<P*(4294967296*(4294967296*(v1+1))):=by
  have:lv+P*(v1*4294967296+v2)<P*(v1*4294967296+v2+1):=by rw [Nat.mul_add P (v1*4294967296+v2)];have:=h.hlv;omega
  have h3:P*(v1*4294967296+v2+1)≤P*(4294967296*(v1+1)):=Nat.mul_le_mul_left _ (by have:=h.hv2;omega)
  have h4:4294967296*(P*(4294967296*(v1+1)))=P*(4294967296*(4294967296*(v1+1))):=Nat.mul_left_comm _ _ _
  omega
 have e2:P*((u0*4294967296+u1)*4294967296+u2)<P*(4294967296*(4294967296*(v1+1))):=by omega
 have e3:=Nat.lt_of_mul_lt_mul_left e2
 omega
theorem Parts.two_lt:u0*4294967296+u1<18446744073709551616:=by
 have:=h.u0_le;have:=h.hv1';have:=h.hu1;omega
theorem Parts.first:U / V≤(u0*4294967296+u1) / v1:=by
 have hv:=h.hv1
 rw [Nat.le_div_iff_mul_le (by omega)]
 have h1:=h.top
 rw [Nat.mul_add] at h1
 have h2:U / V*(v1*4294967296)=(U / V*v1)*4294967296:=(Nat.mul_assoc _ _ _).symm
 rw [h2] at h1
 have:=h.hu2
 omega
theorem Parts.less {g r:Nat} (hg:U / V≤g) (hgr:g*v1+r=u0*4294967296+u1) (ht:4294967296≤g∨r*4294967296+u2<g*v2):U / V+1≤g:=by
 rcases ht with ht | ht
 ·have:=h.q
  omega
 ·rcases Nat.lt_or_ge (U / V) g with h1 | h1
  ·exact h1
  ·have e:U / V=g:=by omega
   have h2:=h.top
   rw [e,←hgr,Nat.mul_add] at h2
   have h3:g*(v1*4294967296)=g*v1*4294967296:=(Nat.mul_assoc _ _ _).symm
   omega
theorem Parts.near {g r:Nat} (hgr:g*v1+r=u0*4294967296+u1) (hg:g<4294967296) (ht:g*v2≤r*4294967296+u2):g*V<U+V:=by
 have h1:g*(v1*4294967296+v2)≤(u0*4294967296+u1)*4294967296+u2:=by
  rw [←hgr,Nat.mul_add]
  have h3:g*(v1*4294967296)=g*v1*4294967296:=(Nat.mul_assoc _ _ _).symm
  omega
 have h2:P*(g*(v1*4294967296+v2))≤P*((u0*4294967296+u1)*4294967296+u2):=Nat.mul_le_mul_left _ h1
 have h3:g*V=g*lv+P*(g*(v1*4294967296+v2)):=by
  conv=>lhs;rw [h.hV,Nat.mul_add,Nat.mul_left_comm]
 have h4:g*lv≤4294967295*lv:=Nat.mul_le_mul_right _ (by omega)
 have h5:4294967295*lv≤4294967295*P:=Nat.mul_le_mul_left _ (by have:=h.hlv;omega)
 have h6:P*4294967296≤P*(v1*4294967296+v2):=Nat.mul_le_mul_left _ (by have:=h.hv1;omega)
 have h7:=h.hU
 have h8:=h.hV
 have:=h.hp
 omega
theorem Parts.over {g r:Nat} (hgr:g*v1+r=u0*4294967296+u1) (hr:4294967296≤r):g<4294967296∧g*v2≤r*4294967296+u2:=by
 have h1:=h.u0_le
 have h2:=h.hu1
 have hg:g<4294967296:=by
  rcases Nat.lt_or_ge g 4294967296 with h3 | h3
  ·exact h3
  ·have:4294967296*v1≤g*v1:=Nat.mul_le_mul_right _ h3
   omega
 refine ⟨hg,?_⟩
 have h4:g*v2≤4294967296*v2:=Nat.mul_le_mul_right _ (by omega)
 have h5:=h.hv2
 omega
end
theorem took {g U V S M lent:Nat} (hV:0<V) (hg:U / V≤g) (h:S+g*V=U+M*lent) (h0:lent=0):g=U / V∧S=U % V:=by
 subst h0
 have h1:g≤U / V:=by rw [Nat.le_div_iff_mul_le hV];omega
 obtain rfl:g=U / V:=by omega
 refine ⟨rfl,?_⟩
 have:=Nat.div_add_mod U V
 rw [Nat.mul_comm] at this
 omega
theorem lent_one {g U V S M lent:Nat} (hV:0<V) (hVM:V≤M) (hg:U / V≤g) (hn:g*V<U+V) (hS:S<M) (h:S+g*V=U+M*lent) (h0:lent≠0):lent=1∧g=U / V+1∧S+V=U % V+M:=by
 have hl:lent=1:=by
  rcases Nat.lt_or_ge lent 2 with h2 | h2
  ·omega
  ·have:M*2≤M*lent:=Nat.mul_le_mul_left _ h2
   omega
 subst hl
 have hm:=Nat.div_add_mod U V
 rw [Nat.mul_comm] at hm
 have hg1:g=U / V+1:=by
  rcases Nat.lt_or_ge (U / V+1) g with h2 | h2
  ·have:(U / V+2)*V≤g*V:=Nat.mul_le_mul_right _ h2
   rw [Nat.add_mul] at this
   have:=Nat.mod_lt U hV
   omega
  ·rcases Nat.eq_or_lt_of_le hg with h3 | h3
   ·exfalso
    rw [←h3] at h
    omega
   ·omega
 refine ⟨rfl,hg1,?_⟩
 subst hg1
 rw [Nat.add_mul] at h
 omega
theorem back_in {S V R M T c:Nat} (h:T+M*c=S+V) (hs:S+V=R+M) (hT:T<M) (hR:R<M):T=R:=by
 rcases Nat.lt_or_ge c 1 with h1 | h1
 ·obtain rfl:c=0:=by omega
  omega
 ·rcases Nat.lt_or_ge c 2 with h2 | h2
  ·obtain rfl:c=1:=by omega
   omega
  ·have:M*2≤M*c:=Nat.mul_le_mul_left _ h2
   omega
theorem seg_lt {l:List Nat} (h:Dg l) (o n:Nat):val (seg l o n)<pw n:=by
 induction n with
 | zero=>simp [seg_zero,val,pw]
 | succ n ih =>
  rw [seg_succ,pw_succ]
  have h1:=h.at_ (o+n)
  have h2:pw n*l.getD (o+n) 0≤pw n*4294967295:=Nat.mul_le_mul_left _ (by omega)
  omega
theorem comb (P a b c s:Nat):s+P*c+4294967296*P*b+4294967296*(4294967296*P)*a=s+P*((a*4294967296+b)*4294967296+c):=by
 have e1:P*((a*4294967296+b)*4294967296+c)=(P*a*4294967296+P*b)*4294967296+P*c:=by
  rw [Nat.mul_add,←Nat.mul_assoc,Nat.mul_add,←Nat.mul_assoc]
 have e2:4294967296*P*b=4294967296*(P*b):=Nat.mul_assoc _ _ _
 have e3:4294967296*(4294967296*P)*a=4294967296*(4294967296*(P*a)):=by rw [Nat.mul_assoc,Nat.mul_assoc]
 rw [e1,e2,e3]
 omega
theorem parts_of {L V:List Nat} {o k:Nat} (hL:Dg L) (hV:Dg V) (hk:V.length=k+2) (hv:2147483648≤V.getD (k+1) 0) (hlt:val (seg L o (k+3))<4294967296*val V) :
  Parts (pw k) (val (seg L o k)) (val (V.take k)) (L.getD (o+(k+2)) 0) (L.getD (o+(k+1)) 0) (L.getD (o+k) 0) (V.getD (k+1) 0) (V.getD k 0) (val (seg L o (k+3))) (val V):=by
 have e1:val (seg L o (k+3))=val (seg L o k)+pw k*((L.getD (o+(k+2)) 0*4294967296+L.getD (o+(k+1)) 0)*4294967296+L.getD (o+k) 0):=by
  rw [seg_succ,seg_succ,seg_succ,pw_succ (k+1),pw_succ k]
  exact comb _ _ _ _ _
 have e2:val V=val (V.take k)+pw k*(V.getD (k+1) 0*4294967296+V.getD k 0):=by
  have h1:=val_take_succ V (k+1)
  have h2:=val_take_succ V k
  rw [val_take_all V (k+1+1) (by omega)] at h1
  rw [h1,h2,pw_succ,Nat.mul_add,Nat.mul_comm (V.getD (k+1) 0)]
  have a2:pw k*(4294967296*V.getD (k+1) 0)=4294967296*pw k*V.getD (k+1) 0:=by
   rw [←Nat.mul_assoc,Nat.mul_comm (pw k)]
  omega
 refine ⟨pw_pos k,seg_lt hL o k,?_,hL.at_ _,hL.at_ _,hv,hV.at_ _,hV.at_ _,e1,e2,hlt⟩
 have:=val_lt (hV.take k)
 rwa [List.length_take,Nat.min_eq_left (by omega)] at this
theorem give_round {L L2 V:List Nat} {o i ov x y t:Nat} (hL:o+i<L2.length) (hval:val (seg L2 o i)+pw i*ov=val (seg L o i)+val (V.take i)) (hfar:∀ j,j<o∨o+i≤j→L2.getD j 0=L.getD j 0)
  (hx:x=L2.getD (o+i) 0) (hy:y=V.getD i 0) (ht:t=ov+(x+y)) :
  val (seg (L2.set (o+i) (t % 4294967296)) o (i+1))+pw (i+1)*(t / 4294967296)=val (seg L o (i+1))+val (V.take (i+1))∧∀ j,j<o∨o+(i+1)≤j→(L2.set (o+i) (t % 4294967296)).getD j 0=L.getD j 0:=by
 constructor
 ·rw [seg_succ,seg_succ,val_take_succ,pw_succ,←hy]
  have e1:val (seg (L2.set (o+i) (t % 4294967296)) o i)=val (seg L2 o i):=seg_same i fun j hj=>by rw [getD_set,if_neg (by omega)]
  have e2:(L2.set (o+i) (t % 4294967296)).getD (o+i) 0=t % 4294967296:=by rw [getD_set,if_pos ⟨rfl,hL⟩]
  have e3:L.getD (o+i) 0=x:=by rw [hx,hfar _ (.inr (Nat.le_refl _))]
  rw [e1,e2,e3]
  have h1:pw i*(t % 4294967296)+4294967296*pw i*(t / 4294967296)=pw i*t:=by
   rw [Nat.mul_comm 4294967296 (pw i),Nat.mul_assoc,←Nat.mul_add]
   congr 1
   omega
  have h2:pw i*t=pw i*ov+(pw i*x+pw i*y):=by rw [ht,Nat.mul_add,Nat.mul_add]
  omega
 ·intro j hj
  rw [getD_set,if_neg (by omega)]
  exact hfar j (by omega)
theorem give_end {L L2 V:List Nat} {o n ov x U W:Nat} (hV:V.length≤n) (hL:o+n<L2.length) (hval:val (seg L2 o n)+pw n*ov=val (seg L o n)+val (V.take n)) (hfar:∀ j,j<o∨o+n≤j→L2.getD j 0=L.getD j 0)
  (hx:x=L2.getD (o+n) 0) (hd2:Dg L2) (hs:val (seg L o (n+1))+val V=U % W+pw (n+1)) (hR:U % W<pw (n+1)) :
  val (seg (L2.set (o+n) ((x+ov) % 4294967296)) o (n+1))=U % W∧∀ j,j<o∨o+(n+1)≤j→(L2.set (o+n) ((x+ov) % 4294967296)).getD j 0=L.getD j 0:=by
 constructor
 ·have e1:val (seg (L2.set (o+n) ((x+ov) % 4294967296)) o n)=val (seg L2 o n):=seg_same n fun j hj=>by rw [getD_set,if_neg (by omega)]
  have e2:(L2.set (o+n) ((x+ov) % 4294967296)).getD (o+n) 0=(x+ov) % 4294967296:=by rw [getD_set,if_pos ⟨rfl,hL⟩]
  have e3:L.getD (o+n) 0=x:=by rw [hx,hfar _ (.inr (Nat.le_refl _))]
  have hT:=seg_lt (hd2.set (o+n) ((x+ov) % 4294967296) (by omega)) o (n+1)
  refine back_in (c:=(x+ov) / 4294967296) ?_ hs hT hR
  rw [seg_succ,seg_succ,e1,e2,e3,pw_succ]
  rw [val_take_all V n hV] at hval
  have h1:pw n*((x+ov) % 4294967296)+4294967296*pw n*((x+ov) / 4294967296)=pw n*(x+ov):=by
   rw [Nat.mul_comm 4294967296 (pw n),Nat.mul_assoc,←Nat.mul_add]
   congr 1
   omega
  rw [Nat.mul_add] at h1
  omega
 ·intro j hj
  rw [getD_set,if_neg (by omega)]
  exact hfar j (by omega)
end Go.Proofs.YtflfdglpljodbaaDoor
