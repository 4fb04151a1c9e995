/-
  Long division, plain: the digits of the quotient one by one.
-/
import Derived.Test.YtflfdglpljodbaaDoorGPure2
import Derived.Test.YtflfdglpljodbaaDoorGNatA
namespace Go.Proofs.YtflfdglpljodbaaDoor
set_option linter.unusedVariables false
theorem val_split (l:List Nat):∀ i,val l=val (l.take i)+pw i*val (l.drop i)
 | 0=>by simp [val,pw]
 | i+1=>by
  rw [val_split l i,val_take_succ,pw_succ]
  rcases Nat.lt_or_ge i l.length with h | h
  ·rw [val_drop l h,Nat.mul_add,←Nat.mul_assoc (pw i),Nat.mul_comm (pw i) 4294967296]
   omega
  ·rw [val_drop_all l h,val_drop_all l (by omega),List.getD,List.getElem?_eq_none h]
   simp
theorem seg_drop (l:List Nat) (o n:Nat):val (l.drop o)=val (seg l o n)+pw n*val (l.drop (o+n)):=by
 have:=val_split (l.drop o) n
 rwa [List.drop_drop] at this
theorem drop_same {l l':List Nat} {o:Nat} (hl:l'.length=l.length) (h:∀ j,o≤j→l'.getD j 0=l.getD j 0):l'.drop o=l.drop o:=by
 apply List.ext_getElem
 ·rw [List.length_drop,List.length_drop,hl]
 ·intro j h1 h2
  rw [List.getElem_drop,List.getElem_drop]
  have:=h (o+j) (by omega)
  rw [List.length_drop] at h1 h2
  rwa [List.getD,List.getD,List.getElem?_eq_getElem (by omega),List.getElem?_eq_getElem (by omega)] at this
theorem take_same {l l':List Nat} {o:Nat} (h:∀ j,j<o→l'.getD j 0=l.getD j 0):val (l'.take o)=val (l.take o):=by
 have:=seg_same (o:=0) (l:=l') (l':=l) o fun j hj=>by rw [Nat.zero_add];exact h j hj
 exact this
theorem div_top {L:List Nat} {i n V:Nat} (hd:Dg L) (hlt:val (L.drop (i+1))<V) (hV:V<pw n) (hi:i<L.length):val (L.drop i)=val (seg L i (n+1))∧val (seg L i (n+1))<4294967296*V:=by
 have h0:val (L.drop (i+1+n))=0:=by
  have h1:=seg_drop L (i+1) n
  rcases Nat.eq_zero_or_pos (val (L.drop (i+1+n))) with h2 | h2
  ·exact h2
  ·have:pw n*1≤pw n*val (L.drop (i+1+n)):=Nat.mul_le_mul_left _ h2
   omega
 have h1:=seg_drop L i (n+1)
 rw [show i+(n+1)=i+1+n by omega,h0,Nat.mul_zero,Nat.add_zero] at h1
 refine ⟨h1,?_⟩
 rw [←h1,val_drop L hi]
 have:=hd.at_ i
 omega
theorem div_alg {P K d D V s m x:Nat} (hm:V*d+m=s):x+P*m+P*(d+K*D)*V=x+P*s+K*P*D*V:=by
 rw [←hm,Nat.mul_add,Nat.mul_add,Nat.add_mul,Nat.mul_assoc P d V,Nat.mul_comm d V,←Nat.mul_assoc P K,Nat.mul_comm P K]
 generalize P*(V*d)=a
 generalize K*P*D*V=b
 omega
theorem mul_zero_of {a b x y:Nat} (ha:0<a) (h:x=y+a*b) (he:x=y):b=0:=by
 rcases Nat.eq_zero_or_pos b with h0 | h0
 ·exact h0
 ·have:=Nat.mul_pos ha h0
  omega
theorem div_step {L L' Q:List Nat} {i n d V A0:Nat} (hV0:0<V) (hd:Dg L) (hi:i<L.length) (hin:i+(n+1)≤L.length) (hQ:i<Q.length) (hV:V<pw n)
  (hinv:val L+pw (i+1)*val (Q.drop (i+1))*V=A0) (hlt:val (L.drop (i+1))<V)
  (hl:L'.length=L.length) (hdd:d=val (seg L i (n+1)) / V) (hs:val (seg L' i (n+1))=val (seg L i (n+1)) % V) (hfar:∀ j,j<i∨i+(n+1)≤j→L'.getD j 0=L.getD j 0) :
  val L' + pw i*val ((Q.set i d).drop i)*V=A0∧val (L'.drop i)<V:=by
 obtain ⟨e1,e2⟩:=div_top hd hlt hV hi
 have h0:val (L.drop (i+(n+1)))=0:=by
  have h1:=seg_drop L i (n+1)
  exact mul_zero_of (pw_pos _) h1 e1
 have e3:val (L'.drop i)=val (seg L' i (n+1)):=by
  have h1:=seg_drop L' i (n+1)
  rw [drop_same hl (fun j hj=>hfar j (.inr hj)),h0,Nat.mul_zero,Nat.add_zero] at h1
  exact h1
 constructor
 ·rw [val_split L' i,take_same (fun j hj=>hfar j (.inl hj)),e3,hs,val_drop_set Q hQ]
  rw [val_split L i,e1] at hinv
  rw [←hinv,pw_succ]
  have hm:=Nat.div_add_mod (val (seg L i (n+1))) V
  rw [←hdd] at hm
  exact div_alg hm
 ·rw [e3,hs]
  exact Nat.mod_lt _ hV0
theorem div_end {r D a b S:Nat} (hS:0<S) (h:r+D*(b*S)=a*S) (hlt:r<b*S):D=a / b∧r / S=a % b:=by
 have hb:0<b:=by
  rcases Nat.eq_zero_or_pos b with h0 | h0
  ·subst h0
   omega
  ·exact h0
 have h1:r=(a - D*b)*S:=by
  rw [Nat.sub_mul]
  have:D*(b*S)=D*b*S:=(Nat.mul_assoc _ _ _).symm
  omega
 have hle:D*b≤a:=by
  have h2:D*b*S≤a*S:=by rw [Nat.mul_assoc];omega
  exact Nat.le_of_mul_le_mul_right h2 hS
 have h3:r / S=a - D*b:=by rw [h1,Nat.mul_div_cancel _ hS]
 have h4:a - D*b<b:=by
  rw [h1] at hlt
  exact Nat.lt_of_mul_lt_mul_right hlt
 obtain ⟨x,hx⟩:∃ x,x=a - D*b:=⟨_,rfl⟩
 have ha:a=x+b*D:=by rw [Nat.mul_comm];omega
 rw [←hx] at h3 h4
 constructor
 ·rw [ha,Nat.add_mul_div_left _ _ hb,Nat.div_eq_of_lt h4,Nat.zero_add]
 ·rw [h3,ha,Nat.add_mul_mod_self_left,Nat.mod_eq_of_lt h4]
theorem top_shift {t:List Nat} {n top s:Nat} (hd:Dg t) (hn:t.length=n+1) (ht:top=t.getD n 0) (h0:0<top) (hs:s=32 - Lib.bitLen top) (hb:Lib.bitLen top≤32) :
  val t*2 ^ s<pw (n+1)∧2147483648*pw n≤val t*2 ^ s∧s<32:=by
 obtain ⟨hb0,h2,h1⟩:=Lib.bitLenAux_bounds 64 top (by have:=hd.at_ n;omega) (by omega)
 change 1≤Lib.bitLen top at hb0
 change 2 ^ (Lib.bitLen top - 1)≤top at h2
 change top<2 ^ Lib.bitLen top at h1
 have hv:val t=val (t.take n)+pw n*top:=by
  rw [ht,←val_take_succ,val_take_all t _ (by omega)]
 have hlow:val (t.take n)<pw n:=by
  have:=val_lt (hd.take n)
  rwa [List.length_take,Nat.min_eq_left (by omega)] at this
 refine ⟨?_,?_,by omega⟩
 ·have e1:val t<pw n*(top+1):=by rw [hv,Nat.mul_add];omega
  have e2:(top+1)*2 ^ s≤2 ^ Lib.bitLen top*2 ^ s:=Nat.mul_le_mul_right _ h1
  rw [←Nat.pow_add,show Lib.bitLen top+s=32 by omega] at e2
  have e3:val t*2 ^ s<pw n*(top+1)*2 ^ s:=Nat.mul_lt_mul_of_pos_right e1 (Nat.pow_pos (by omega))
  rw [Nat.mul_assoc] at e3
  have e4:pw n*((top+1)*2 ^ s)≤pw n*4294967296:=Nat.mul_le_mul_left _ e2
  rw [pw_succ,Nat.mul_comm]
  rw [Nat.mul_comm (val t)] at e3
  omega
 ·have e2:2 ^ (Lib.bitLen top - 1)*2 ^ s≤top*2 ^ s:=Nat.mul_le_mul_right _ h2
  rw [←Nat.pow_add,show Lib.bitLen top - 1+s=31 by omega] at e2
  have e3:pw n*2147483648≤pw n*(top*2 ^ s):=Nat.mul_le_mul_left _ e2
  have e4:pw n*top*2 ^ s≤val t*2 ^ s:=Nat.mul_le_mul_right _ (by omega)
  rw [Nat.mul_assoc] at e4
  rw [Nat.mul_comm]
  omega
theorem norm_len {V:List Nat} {n:Nat} (hd:Dg V) (hn:nrm V) (h1:val V<pw (n+1)) (h2:2147483648*pw n≤val V):V.length=n+1∧2147483648≤V.getD n 0:=by
 have hl:V.length=n+1:=by
  rcases Nat.lt_trichotomy V.length (n+1) with h | h | h
  ·have h3:=val_lt hd
   have h4:=pw_mono (show V.length≤n by omega)
   have:=pw_pos n
   omega
  ·exact h
  ·have h3:=nrm_low hn (by omega)
   have h4:=pw_mono (show n+1≤V.length - 1 by omega)
   omega
 refine ⟨hl,?_⟩
 have hv:val V=val (V.take n)+pw n*V.getD n 0:=by rw [←val_take_succ,val_take_all V _ (by omega)]
 have hlow:val (V.take n)<pw n:=by
  have:=val_lt (hd.take n)
  rwa [List.length_take,Nat.min_eq_left (by omega)] at this
 have e1:pw n*2147483648<pw n*(V.getD n 0+1):=by rw [Nat.mul_add];omega
 have:=Nat.lt_of_mul_lt_mul_left e1
 omega
theorem div_start {L:List Nat} {a la m n s V:Nat} (hL:val L=a*2 ^ s) (ha:a<pw la) (hm:la=m+n) (hs:s<32) (hV:2147483648*pw n≤V):val (L.drop m)<V:=by
 have h1:=val_split L m
 have h2:pw m*val (L.drop m)≤a*2 ^ s:=by omega
 have h3:a*2 ^ s<pw la*2 ^ s:=Nat.mul_lt_mul_of_pos_right ha (Nat.pow_pos (by omega))
 have h4:2 ^ s≤2 ^ 31:=Nat.pow_le_pow_right (by omega) (by omega)
 have h5:pw la*2 ^ s≤pw la*2147483648:=Nat.mul_le_mul_left _ h4
 rw [hm,pw_add,Nat.mul_assoc,Nat.mul_assoc (pw m) (pw n) 2147483648] at h5
 rw [hm,pw_add] at h3
 rw [Nat.mul_assoc] at h3
 have h6:pw m*(pw n*2147483648)≤pw m*V:=Nat.mul_le_mul_left _ (by rw [Nat.mul_comm];exact hV)
 have h7:pw m*val (L.drop m)<pw m*V:=by omega
 exact Nat.lt_of_mul_lt_mul_left h7
end Go.Proofs.YtflfdglpljodbaaDoor
