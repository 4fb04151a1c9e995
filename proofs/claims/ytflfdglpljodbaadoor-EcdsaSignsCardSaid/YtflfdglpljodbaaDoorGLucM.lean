/-
  Plain numbers: Lucas's test tells that a number is a prime; what a prime's powers do. Nothing of the program. Plain numbers: what a prime's first part of one less tells (Pocklington); the numbers P and N of the curve are primes. Nothing of the program. The group of the curve's points: plain. Nothing of the program. Points by three numbers: plain. Nothing of the program.
-/
import Derived.KernelRfl
set_option linter.unusedVariables false
set_option linter.unusedSimpArgs false
namespace Go.Proofs.YtflfdglpljodbaaDoor.Luc
theorem d2 (x:Int):2*x=x+x:=by omega
theorem d3 (x:Int):3*x=x+x+x:=by omega
theorem d4 (x:Int):4*x=x+x+x+x:=by omega
def pa:Nat→Int×Int
 | 0=>(1,0)
 | n+1=>(2*(pa n).1+3*(pa n).2,(pa n).1+2*(pa n).2)
theorem pa_add (m:Nat):∀ n,(pa (m+n)).1=(pa m).1*(pa n).1+3*((pa m).2*(pa n).2)∧(pa (m+n)).2=(pa m).1*(pa n).2+(pa m).2*(pa n).1
 | 0=>by simp [pa]
 | n+1=>by
  obtain ⟨h1,h2⟩:=pa_add m n
  rw [←Nat.add_assoc]
  simp only [pa,h1,h2]
  constructor <;> ((try simp only [d2,d3,d4]);simp only [Int.mul_add,Int.add_mul,Int.mul_sub,Int.sub_mul,Int.mul_assoc,Int.mul_comm,Int.mul_left_comm,Int.mul_one,Int.one_mul] <;> omega)
def One (q:Int) (n:Nat):Prop:=q∣(pa n).1 - 1∧q∣(pa n).2
theorem One.mul {q:Int} {n:Nat} (h:One q n):∀ m,One q (n*m)
 | 0=>⟨⟨0,by simp [pa]⟩,⟨0,by simp [pa]⟩⟩
 | m+1=>by
  obtain ⟨⟨x,hx⟩,⟨y,hy⟩⟩:=h
  obtain ⟨⟨u,hu⟩,⟨v,hv⟩⟩:=One.mul ⟨⟨x,hx⟩,⟨y,hy⟩⟩ m
  obtain ⟨h1,h2⟩:=pa_add (n*m) n
  rw [Nat.mul_add,Nat.mul_one]
  have ex:(pa n).1=1+q*x:=by omega
  have eu:(pa (n*m)).1=1+q*u:=by omega
  refine ⟨⟨u+x+u*q*x+3*(v*(q*y)),?_⟩,⟨y+u*q*y+v+v*(q*x),?_⟩⟩
  ·rw [h1,ex,eu,hy,hv];(try simp only [d2,d3,d4]);simp only [Int.mul_add,Int.add_mul,Int.mul_sub,Int.sub_mul,Int.mul_assoc,Int.mul_comm,Int.mul_left_comm,Int.mul_one,Int.one_mul] <;> omega
  ·rw [h2,ex,eu,hy,hv];(try simp only [d2,d3,d4]);simp only [Int.mul_add,Int.add_mul,Int.mul_sub,Int.sub_mul,Int.mul_assoc,Int.mul_comm,Int.mul_left_comm,Int.mul_one,Int.one_mul] <;> omega
def ll (M:Nat):Nat→Nat→Nat
 | 0,s=>s
 | n+1,s=>ll M n ((s*s+(M - 2)) % M)
def Prime (p:Nat):Prop:=2≤p∧∀ q,q∣p→q=1∨q=p
theorem perm_of {l1:List Nat}:∀ {l2:List Nat},l1.Nodup→(∀ x∈l1,x∈l2)→l2.length≤l1.length→l1.Perm l2:=by
 induction l1 with
 | nil=>intro l2 _ _ h;obtain rfl:l2=[]:=List.eq_nil_of_length_eq_zero (by simpa using h);exact .refl _
 | cons x t ih =>
  intro l2 hn hs hl
  have hx:x∈l2:=hs x (by simp)
  obtain ⟨hx1,hn1⟩:=List.nodup_cons.1 hn
  have h1:t.Perm (l2.erase x):=ih hn1 (fun y hy=>(List.mem_erase_of_ne (fun e=>hx1 (by rw [←e];exact hy))).2 (hs y (by simp [hy]))) (by
   rw [List.length_erase_of_mem hx]
   simp at hl
   omega)
  exact (h1.cons x).trans (List.perm_cons_erase hx).symm
def prod:List Nat→Nat
 | []=>1
 | x :: l=>x*prod l
theorem prod_perm {a b:List Nat} (h:a.Perm b):prod a=prod b:=by
 induction h with
 | nil=>rfl
 | cons x _ ih=>rw [prod,prod,ih]
 | swap x y l=>rw [prod,prod,prod,prod,Nat.mul_left_comm]
 | trans _ _ h1 h2=>exact h1.trans h2
theorem Prime.cop {p a:Nat} (h:Prime p) (ha:¬ p∣a):Nat.Coprime p a:=by
 rcases h.2 (Nat.gcd p a) (Nat.gcd_dvd_left p a) with h1 | h1
 ·exact h1
 ·exact absurd (h1 ▸ Nat.gcd_dvd_right p a) ha
theorem prod_cop {p:Nat} (h:Prime p):∀ l:List Nat,(∀ x∈l,0<x∧x<p)→Nat.Coprime p (prod l)
 | [],_=>Nat.coprime_one_right p
 | x :: l,hl=>by
  rw [prod]
  refine Nat.Coprime.mul_right (h.cop fun hd=>?_) (prod_cop h l fun y hy=>hl y (by simp [hy]))
  have h1:=hl x (by simp)
  have:=Nat.le_of_dvd h1.1 hd
  omega
theorem prod_map (p a:Nat):∀ l:List Nat,prod (l.map fun x=>a*x % p) % p=a ^ l.length*prod l % p
 | []=>by simp [prod]
 | x :: l=>by
  have ih:=prod_map p a l
  rw [List.map_cons,prod,prod,List.length_cons,Nat.pow_succ,Nat.mul_mod,ih,Nat.mod_mod,←Nat.mul_mod]
  congr 1
  rw [Nat.mul_comm (a ^ l.length) a,Nat.mul_assoc,Nat.mul_assoc]
  congr 1
  rw [Nat.mul_left_comm]
theorem nodup_range' (n:Nat):∀ s,(List.range' s n).Nodup:=by
 intro s
 exact List.nodup_range'
theorem fermat {p a:Nat} (h:Prime p) (ha:¬ p∣a):a ^ (p - 1) % p=1:=by
 have h2:=h.1
 have hc:=h.cop ha
 obtain ⟨l,hl⟩:∃ l,l=List.range' 1 (p - 1):=⟨_,rfl⟩
 have hm:∀ x,x∈l↔0<x∧x<p:=fun x=>by rw [hl,List.mem_range'_1];omega
 have hn:l.Nodup:=by rw [hl];exact List.nodup_range'
 have hlen:l.length=p - 1:=by rw [hl,List.length_range']
 have hp:(l.map fun x=>a*x % p).Perm l:=by
  refine perm_of ?_ ?_ (by rw [List.length_map];exact Nat.le_refl _)
  ·rw [List.nodup_iff_pairwise_ne] at hn ⊢
   rw [List.pairwise_map]
   refine List.Pairwise.imp_of_mem ?_ hn
   intro x y hx hy hne e
   have h1:=(hm x).1 hx
   have h3:=(hm y).1 hy
   have hle:∀ {u v:Nat},u≤v→v<p→a*u % p=a*v % p→u=v:=fun {u v} huv hv e=>by
    have hd:p∣a*v - a*u:=Nat.dvd_of_mod_eq_zero (Nat.sub_mod_eq_zero_of_mod_eq e.symm)
    rw [←Nat.mul_sub] at hd
    have hd2:=hc.dvd_of_dvd_mul_left hd
    rcases Nat.eq_zero_or_pos (v - u) with h0 | h0
    ·omega
    ·have:=Nat.le_of_dvd h0 hd2
     omega
   rcases Nat.le_total x y with hxy | hxy
   ·exact hne (hle hxy h3.2 e)
   ·exact hne (hle hxy h1.2 e.symm).symm
  ·intro y hy
   obtain ⟨x,hx,rfl⟩:=List.mem_map.1 hy
   have h1:=(hm x).1 hx
   refine (hm _).2 ⟨?_,Nat.mod_lt _ (by omega)⟩
   rcases Nat.eq_zero_or_pos (a*x % p) with h0 | h0
   ·have hd:=hc.dvd_of_dvd_mul_left (Nat.dvd_of_mod_eq_zero h0)
    have:=Nat.le_of_dvd h1.1 hd
    omega
   ·exact h0
 have e1:=prod_map p a l
 rw [prod_perm hp,hlen] at e1
 have hcl:=prod_cop h l fun x hx=>(hm x).1 hx
 have hpos:1≤a ^ (p - 1):=Nat.pos_of_ne_zero fun h0=>by
  have:a=0:=by
   rcases Nat.eq_zero_or_pos a with h | h
   ·exact h
   ·exact absurd h0 (Nat.ne_of_gt (Nat.pow_pos h))
  exact ha (by rw [this];exact ⟨0,rfl⟩)
 have hd:p∣a ^ (p - 1)*prod l - 1*prod l:=Nat.dvd_of_mod_eq_zero (Nat.sub_mod_eq_zero_of_mod_eq (by rw [Nat.one_mul];exact e1.symm))
 rw [←Nat.sub_mul] at hd
 have hd2:=hcl.dvd_of_dvd_mul_right hd
 obtain ⟨c,hcc⟩:=hd2
 have e2:a ^ (p - 1)=1+p*c:=by omega
 rw [e2,Nat.add_mul_mod_self_left,Nat.mod_eq_of_lt (by omega)]
theorem pow_one_mod {p x:Nat} (h2:2≤p) (h:x % p=1):∀ k,x ^ k % p=1
 | 0=>by rw [Nat.pow_zero];exact Nat.mod_eq_of_lt (by omega)
 | k+1=>by rw [Nat.pow_succ,Nat.mul_mod,pow_one_mod h2 h k,h,Nat.one_mul];exact Nat.mod_eq_of_lt (by omega)
def m521:Nat:=6864797660130609714981900799081393217269435300143305409394463459185543183397656052122559640661454554977296311391480858037121987999716643812574028291115057151
def m607:Nat:=531137992816767098689588206552468627329593117727031923199444138200403559860852242739162502265229285668889329486246501015346579337652707239409519978766587351943831270835393219031728127
end Go.Proofs.YtflfdglpljodbaaDoor.Luc
namespace Go.Proofs.YtflfdglpljodbaaDoor.Luc
def pm (n a:Nat):Nat→Nat→Nat
 | 0,_=>1 % n
 | k+1,e=>if e % 2=1 then a*pm n (a*a % n) k (e / 2) % n else pm n (a*a % n) k (e / 2)
theorem pm_eq (n:Nat):∀ k a e:Nat,e<2 ^ k→pm n a k e=a ^ e % n
 | 0,a,e,h=>by
  have:e=0:=by simpa using h
  subst this
  simp [pm]
 | k+1,a,e,h=>by
  have ih:=pm_eq n k (a*a % n) (e / 2) (by rw [Nat.pow_succ] at h;omega)
  rw [pm,ih,←Nat.pow_mod,←Nat.pow_two,←Nat.pow_mul]
  by_cases h1:e % 2=1
  ·rw [if_pos h1]
   conv=>rhs;rw [show e=2*(e / 2)+1 by omega,Nat.pow_succ,Nat.mul_comm]
   rw [Nat.mul_mod,Nat.mod_mod,←Nat.mul_mod]
  ·rw [if_neg h1]
   conv=>rhs;rw [show e=2*(e / 2) by omega]
theorem prime_div:∀ (k n:Nat),n≤k→2≤n→∃ r,Prime r∧r∣n
 | 0,n,h,h2=>by omega
 | k+1,n,h,h2=>by
  by_cases hp:∀ q,q∣n→q=1∨q=n
  ·exact ⟨n,⟨h2,hp⟩,Nat.dvd_refl n⟩
  ·have ⟨q,hq⟩:=Classical.not_forall.1 hp
   have hd:q∣n:=Classical.byContradiction fun hn=>hq fun h=>absurd h hn
   have hne:¬ (q=1∨q=n):=fun hn=>hq fun _=>hn
   have hle:=Nat.le_of_dvd (by omega) hd
   have h0:q≠0:=fun e=>by rw [e] at hd;have:=Nat.eq_zero_of_zero_dvd hd;omega
   obtain ⟨r,hr,hrd⟩:=prime_div k q (by omega) (by omega)
   exact ⟨r,hr,Nat.dvd_trans hrd hd⟩
theorem prime_of {n F:Nat} (h2:2≤n) (hF:n<(F+1)*(F+1)) (h:∀ r,Prime r→r∣n→F∣r - 1):Prime n:=by
 refine ⟨h2,fun q hq=>?_⟩
 have key:∀ u,u∣n→2≤u→F+1≤u:=fun u hu hu2=>by
  obtain ⟨r,hr,hrd⟩:=prime_div u u (Nat.le_refl _) hu2
  have h1:=Nat.le_of_dvd (by have:=hr.1;omega) (h r hr (Nat.dvd_trans hrd hu))
  have h3:=Nat.le_of_dvd (by omega) hrd
  have:=hr.1
  omega
 obtain ⟨c,hc⟩:=hq
 have hq0:q≠0:=fun e=>by rw [e,Nat.zero_mul] at hc;omega
 have hc0:c≠0:=fun e=>by rw [e,Nat.mul_zero] at hc;omega
 by_cases h1:q=1
 ·exact .inl h1
 ·by_cases h3:c=1
  ·exact .inr (by rw [hc,h3,Nat.mul_one])
  ·have a:=key q ⟨c,hc⟩ (by omega)
   have b:=key c ⟨q,by rw [hc,Nat.mul_comm]⟩ (by omega)
   have:=Nat.mul_le_mul a b
   omega
theorem prime_small {n:Nat} (h2:2≤n) (h:∀ q,q<n→n % q=0→q=1∨q=0):Prime n:=by
 refine ⟨h2,fun q hq=>?_⟩
 have hle:=Nat.le_of_dvd (by omega) hq
 by_cases he:q=n
 ·exact .inr he
 ·have h3:=h q (by omega) (Nat.mod_eq_zero_of_dvd hq)
  rcases h3 with h3 | h3
  ·exact .inl h3
  ·rw [h3] at hq;have:=Nat.eq_zero_of_zero_dvd hq;omega
theorem pow_mul_mod {p a e k:Nat} (h2:2≤p) (h:a ^ e % p=1):a ^ (e*k) % p=1:=by
 rw [Nat.pow_mul];exact pow_one_mod h2 h k
theorem pow_gcd {p a:Nat} (h2:2≤p) (hpa:¬ p∣a) (hp:Prime p) {m n:Nat} (hm:a ^ m % p=1) (hn:a ^ n % p=1):a ^ Nat.gcd m n % p=1:=by
 induction m,n using Nat.gcd.induction with
 | H0 n=>simpa using hn
 | H1 m n hpos ih =>
  rw [Nat.gcd_rec]
  refine ih ?_ hm
  have e:n=m*(n / m)+n % m:=(Nat.div_add_mod n m).symm
  rw [e,Nat.pow_add,Nat.mul_mod,pow_mul_mod h2 hm,Nat.one_mul,Nat.mod_mod] at hn
  exact hn
theorem pock {n q a:Nat} (hq:Prime q) (hc:((pm n a 256 (n - 1) == 1 % n) && (n % 2 == 1) && (decide (2≤n)) && decide (n<2 ^ 256) && ((n - 1) % q == 0) && (Nat.gcd (pm n a 256 ((n - 1) / q)+(n - 1)) n == 1))=true) {r:Nat} (hr:Prime r) (hd:r∣n):q∣r - 1:=by
 simp only [Bool.and_eq_true,beq_iff_eq,decide_eq_true_eq] at hc
 obtain ⟨⟨⟨⟨⟨h1,hodd⟩,hn2⟩,hlt⟩,hdiv⟩,hg⟩:=hc
 rw [pm_eq n 256 a (n - 1) (by omega)] at h1
 rw [pm_eq n 256 a ((n - 1) / q) (Nat.lt_of_le_of_lt (Nat.div_le_self _ _) (by omega))] at hg
 have hr2:=hr.1
 have hmod:∀ x,x % n % r=x % r:=fun x=>Nat.mod_mod_of_dvd x hd
 have e1:a ^ (n - 1) % r=1:=by rw [←hmod,h1,hmod];exact Nat.mod_eq_of_lt (by omega)
 have hra:¬ r∣a:=fun h=>by
  have:r∣a ^ (n - 1):=by rw [show n - 1=n - 2+1 by omega,Nat.pow_succ];exact Nat.dvd_mul_left_of_dvd h _
  rw [Nat.mod_eq_zero_of_dvd this] at e1
  cases e1
 have e2:=fermat hr hra
 have e3:=pow_gcd hr2 hra hr e1 e2
 have hqd:q∣n - 1:=Nat.dvd_of_mod_eq_zero hdiv
 by_cases hqr:q∣r - 1
 ·exact hqr
 ·exfalso
  have hcop:Nat.gcd (n - 1) (r - 1)∣(n - 1) / q:=by
   obtain ⟨c,hcc⟩:=hqd
   have hq0:0<q:=by have:=hq.1;omega
   rw [hcc,Nat.mul_div_cancel_left _ hq0]
   have hx:Nat.gcd (q*c) (r - 1)∣q*c:=Nat.gcd_dvd_left _ _
   have hy:Nat.Coprime (Nat.gcd (q*c) (r - 1)) q:=by
    refine Nat.Coprime.symm (hq.cop fun h=>hqr (Nat.dvd_trans h (Nat.gcd_dvd_right _ _)))
   exact hy.dvd_of_dvd_mul_left hx
  obtain ⟨k,hk⟩:=hcop
  have e4:a ^ ((n - 1) / q) % r=1:=by rw [hk];exact pow_mul_mod hr2 e3
  have e5:(a ^ ((n - 1) / q) % n+(n - 1)) % r=0:=by
   obtain ⟨c,hcc⟩:=hd
   have h3:a ^ ((n - 1) / q) % n % r=1:=by rw [hmod];exact e4
   have h4:(a ^ ((n - 1) / q) % n+(n - 1))+1=a ^ ((n - 1) / q) % n+r*c:=by omega
   have h5:((a ^ ((n - 1) / q) % n+(n - 1))+1) % r=1:=by rw [h4,Nat.add_mul_mod_self_left,h3]
   have h6:=Nat.mod_lt (a ^ ((n - 1) / q) % n+(n - 1)) (show 0<r by omega)
   rw [Nat.add_mod] at h5
   rcases Nat.lt_or_ge ((a ^ ((n - 1) / q) % n+(n - 1)) % r+1) r with h7 | h7
   ·rw [Nat.mod_eq_of_lt (show 1<r by omega),Nat.mod_eq_of_lt h7] at h5;omega
   ·rw [Nat.mod_eq_of_lt (show 1<r by omega)] at h5
    have h8:(a ^ ((n - 1) / q) % n+(n - 1)) % r+1=r:=by omega
    rw [h8,Nat.mod_self] at h5;omega
  have h6:r∣Nat.gcd (a ^ ((n - 1) / q) % n+(n - 1)) n:=Nat.dvd_gcd (Nat.dvd_of_mod_eq_zero e5) hd
  rw [hg] at h6
  have:=Nat.le_of_dvd (by omega) h6
  omega
theorem pr313:Prime 313:=prime_small (by decide) (by decide +kernel)
theorem pr5:Prime 5:=prime_small (by decide) (by decide +kernel)
theorem pr704251:Prime 704251:=prime_of (F:=313*5) (by decide) (by decide +kernel) fun r hr hd=>(by decide +kernel:Nat.Coprime 313 5).mul_dvd_of_dvd_of_dvd (pock pr313 (a:=2) (by decide +kernel) hr hd) (pock pr5 (a:=2) (by decide +kernel) hr hd)
theorem pr1087:Prime 1087:=prime_small (by decide) (by decide +kernel)
theorem pr4349:Prime 4349:=prime_of (F:=1087) (by decide) (by decide +kernel) fun r hr hd=>pock pr1087 (a:=2) (by decide +kernel) hr hd
theorem pr78283:Prime 78283:=prime_of (F:=4349) (by decide) (by decide +kernel) fun r hr hd=>pock pr4349 (a:=2) (by decide +kernel) hr hd
theorem pr46076956964474543:Prime 46076956964474543:=prime_of (F:=704251*78283) (by decide) (by decide +kernel) fun r hr hd=>(by decide +kernel:Nat.Coprime 704251 78283).mul_dvd_of_dvd_of_dvd (pock pr704251 (a:=2) (by decide +kernel) hr hd) (pock pr78283 (a:=2) (by decide +kernel) hr hd)
theorem pr919:Prime 919:=prime_small (by decide) (by decide +kernel)
theorem pr3677:Prime 3677:=prime_of (F:=919) (by decide) (by decide +kernel) fun r hr hd=>pock pr919 (a:=2) (by decide +kernel) hr hd
theorem pr197:Prime 197:=prime_small (by decide) (by decide +kernel)
theorem pr66417393611:Prime 66417393611:=prime_of (F:=3677*197) (by decide) (by decide +kernel) fun r hr hd=>(by decide +kernel:Nat.Coprime 3677 197).mul_dvd_of_dvd_of_dvd (pock pr3677 (a:=2) (by decide +kernel) hr hd) (pock pr197 (a:=2) (by decide +kernel) hr hd)
theorem pr11290956913871:Prime 11290956913871:=prime_of (F:=66417393611) (by decide) (by decide +kernel) fun r hr hd=>pock pr66417393611 (a:=2) (by decide +kernel) hr hd
theorem pr774023187263532362759620327192479577272145303:Prime 774023187263532362759620327192479577272145303:=prime_of (F:=46076956964474543*11290956913871) (by decide) (by decide +kernel) fun r hr hd=>(by decide +kernel:Nat.Coprime 46076956964474543 11290956913871).mul_dvd_of_dvd_of_dvd (pock pr46076956964474543 (a:=2) (by decide +kernel) hr hd) (pock pr11290956913871 (a:=2) (by decide +kernel) hr hd)
theorem pr835945042244614951780389953367877943453916927241:Prime 835945042244614951780389953367877943453916927241:=prime_of (F:=774023187263532362759620327192479577272145303) (by decide) (by decide +kernel) fun r hr hd=>pock pr774023187263532362759620327192479577272145303 (a:=2) (by decide +kernel) hr hd
theorem primeP:Prime 115792089210356248762697446949407573530086143415290314195533631308867097853951:=prime_of (F:=835945042244614951780389953367877943453916927241) (by decide) (by decide +kernel) fun r hr hd=>pock pr835945042244614951780389953367877943453916927241 (a:=2) (by decide +kernel) hr hd
theorem pr43:Prime 43:=prime_small (by decide) (by decide +kernel)
theorem pr7:Prime 7:=prime_small (by decide) (by decide +kernel)
theorem pr3:Prime 3:=prime_small (by decide) (by decide +kernel)
theorem pr155317:Prime 155317:=prime_of (F:=43*7*3) (by decide) (by decide +kernel) fun r hr hd=>(by decide +kernel:Nat.Coprime (43*7) 3).mul_dvd_of_dvd_of_dvd ((by decide +kernel:Nat.Coprime 43 7).mul_dvd_of_dvd_of_dvd (pock pr43 (a:=2) (by decide +kernel) hr hd) (pock pr7 (a:=2) (by decide +kernel) hr hd)) (pock pr3 (a:=3) (by decide +kernel) hr hd)
theorem pr191039911:Prime 191039911:=prime_of (F:=155317) (by decide) (by decide +kernel) fun r hr hd=>pock pr155317 (a:=2) (by decide +kernel) hr hd
theorem pr1511:Prime 1511:=prime_small (by decide) (by decide +kernel)
theorem pr3023:Prime 3023:=prime_of (F:=1511) (by decide) (by decide +kernel) fun r hr hd=>pock pr1511 (a:=2) (by decide +kernel) hr hd
theorem pr208150935158385979:Prime 208150935158385979:=prime_of (F:=191039911*3023) (by decide) (by decide +kernel) fun r hr hd=>(by decide +kernel:Nat.Coprime 191039911 3023).mul_dvd_of_dvd_of_dvd (pock pr191039911 (a:=2) (by decide +kernel) hr hd) (pock pr3023 (a:=2) (by decide +kernel) hr hd)
theorem pr2624747550333869278416773953:Prime 2624747550333869278416773953:=prime_of (F:=208150935158385979) (by decide) (by decide +kernel) fun r hr hd=>pock pr208150935158385979 (a:=2) (by decide +kernel) hr hd
theorem pr337:Prime 337:=prime_small (by decide) (by decide +kernel)
theorem pr104471:Prime 104471:=prime_of (F:=337) (by decide) (by decide +kernel) fun r hr hd=>pock pr337 (a:=2) (by decide +kernel) hr hd
theorem pr3969899:Prime 3969899:=prime_of (F:=104471) (by decide) (by decide +kernel) fun r hr hd=>pock pr104471 (a:=2) (by decide +kernel) hr hd
theorem pr1002328039319:Prime 1002328039319:=prime_of (F:=3969899) (by decide) (by decide +kernel) fun r hr hd=>pock pr3969899 (a:=2) (by decide +kernel) hr hd
theorem primeN:Prime 115792089210356248762697446949407573529996955224135760342422259061068512044369:=prime_of (F:=2624747550333869278416773953*1002328039319) (by decide) (by decide +kernel) fun r hr hd=>(by decide +kernel:Nat.Coprime 2624747550333869278416773953 1002328039319).mul_dvd_of_dvd_of_dvd (pock pr2624747550333869278416773953 (a:=2) (by decide +kernel) hr hd) (pock pr1002328039319 (a:=2) (by decide +kernel) hr hd)
end Go.Proofs.YtflfdglpljodbaaDoor.Luc
namespace Go.Proofs.YtflfdglpljodbaaDoor.Luc
def cQ:Nat:=115792089210356248762697446949407573530086143415290314195533631308867097853951
theorem cQ_prime:Prime cQ:=primeP
instance neZero_cQ:NeZero cQ:=⟨by decide⟩
abbrev F:=Fin cQ
def finv (x:F):F:=⟨pm cQ x.val 256 (cQ - 2) % cQ,Nat.mod_lt _ (by decide)⟩
theorem finv_val (x:F):(finv x).val=x.val ^ (cQ - 2) % cQ:=by
 show pm cQ x.val 256 (cQ - 2) % cQ=_
 rw [pm_eq cQ 256 x.val (cQ - 2) (by decide),Nat.mod_mod]
theorem mul_finv {x:F} (h:x≠0):x*finv x=1:=by
 apply Fin.ext
 rw [Fin.val_mul,finv_val,Nat.mul_mod,Nat.mod_mod,←Nat.mul_mod]
 have hd:¬ cQ∣x.val:=fun hd=>by
  have:=Nat.eq_zero_of_dvd_of_lt hd x.isLt
  exact h (Fin.ext this)
 have:=fermat cQ_prime hd
 rw [Nat.mul_comm,←Nat.pow_succ,show (cQ - 2).succ=cQ - 1 by decide,this]
 rfl
theorem zero_of {x y:F} (h:x*y=0) (hx:x≠0):y=0:=by
 have:=mul_finv hx
 grind
theorem cancel {d x y:F} (hd:d≠0) (h:d*x=d*y):x=y:=by
 have:=mul_finv hd
 grind
theorem finv_of {x y:F} (h:x*y=1):finv x=y:=by
 have hx:x≠0:=fun e=>by rw [e] at h;have:(0:F)=1:=by grind
                        revert this;decide
 have:=mul_finv hx
 grind
theorem two_ne:(2:F)≠0:=by decide
theorem three_ne:(3:F)≠0:=by decide
def cBf:F:=⟨41058363725152142129326129780047268409114441015993725554835256314039467401291,by decide⟩
abbrev Pt:=Option (F×F)
def On (x y:F):Prop:=y*y=x*x*x - 3*x+cBf
def OnC:Pt→Prop
 | none=>True
 | some (x,y)=>On x y
theorem smooth {x y:F} (h:On x y) (hy:y=0):3*x*x - 3≠0:=by
 intro h3
 unfold On at h
 have h1:x*x - 1=0:=zero_of (x:=3) (by grind) three_ne
 have h2:cBf*cBf=4:=by grind
 revert h2
 decide
structure SL (s x1 y1 x2 y2:F):Prop where
 ch:s*(x2 - x1)=y2 - y1
 ta:s*(y1+y2)=x1*x1+x1*x2+x2*x2 - 3
theorem SL.symm {s x1 y1 x2 y2:F} (h:SL s x1 y1 x2 y2):SL s x2 y2 x1 y1:=by
 obtain ⟨h1,h2⟩:=h
 exact ⟨by grind,by grind⟩
theorem SL.one {s t x1 y1 x2 y2:F} (h:SL s x1 y1 x2 y2) (h':SL t x1 y1 x2 y2) (hn:¬ (x1=x2∧y1+y2=0)):s=t:=by
 obtain ⟨h1,h2⟩:=h
 obtain ⟨h3,h4⟩:=h'
 by_cases hx:x2 - x1=0
 ·have hy:y1+y2≠0:=fun e=>hn ⟨by grind,e⟩
  exact cancel hy (by grind)
 ·exact cancel hx (by grind)
theorem ey {s d y y':F} (h:s*d=y' - y):y'=s*d+y:=by grind
theorem ex_ {w d x x':F} (h:w*d=x - x'):x'=x - w*d:=by grind
theorem ratio {d:F} (h:d≠0) (e:F):∃ w,w*d=e:=⟨e*finv d,by have:=mul_finv h;grind⟩
def sl (x1 y1 x2 y2:F):F:=if x1=x2 then (3*x1*x1 - 3)*finv (2*y1) else (y2 - y1)*finv (x2 - x1)
theorem sl_is {x1 y1 x2 y2:F} (h1:On x1 y1) (h2:On x2 y2) (hn:¬ (x1=x2∧y1+y2=0)):SL (sl x1 y1 x2 y2) x1 y1 x2 y2:=by
 unfold On at h1 h2
 unfold sl
 by_cases hx:x1=x2
 ·rw [if_pos hx]
  subst hx
  have hy:y1+y2≠0:=fun e=>hn ⟨rfl,e⟩
  have e:y1 - y2=0:=zero_of (x:=y1+y2) (by grind) hy
  have e2:y2=y1:=by grind
  subst e2
  have h2y:2*y2≠0:=fun e=>hy (by grind)
  have hi:=mul_finv h2y
  exact ⟨by grind,by grind⟩
 ·rw [if_neg hx]
  have hd:x2 - x1≠0:=fun e=>hx (by grind)
  have hi:=mul_finv hd
  have hc:(y2 - y1)*finv (x2 - x1)*(x2 - x1)=y2 - y1:=by grind
  refine ⟨hc,cancel hd ?_⟩
  grind
def third (s x1 y1 x2 y2:F):F×F:=(s*s - x1 - x2,s*(x1 - (s*s - x1 - x2)) - y1)
theorem third_symm {s x1 y1 x2 y2:F} (h:SL s x1 y1 x2 y2):third s x1 y1 x2 y2=third s x2 y2 x1 y1:=by
 obtain ⟨h1,h2⟩:=h
 unfold third
 rw [Prod.mk.injEq]
 exact ⟨by grind,by grind⟩
theorem third_on {s x1 y1 x2 y2:F} (h1:On x1 y1) (h:SL s x1 y1 x2 y2):On (third s x1 y1 x2 y2).1 (third s x1 y1 x2 y2).2:=by
 obtain ⟨h2,h3⟩:=h
 unfold On third at *
 simp only
 grind
def add:Pt→Pt→Pt
 | none,q=>q
 | some p,none=>some p
 | some (x1,y1),some (x2,y2)=>if x1=x2∧y1+y2=0 then none else some (third (sl x1 y1 x2 y2) x1 y1 x2 y2)
theorem add_none (p:Pt):add p none=p:=by cases p <;> rfl
theorem none_add (p:Pt):add none p=p:=rfl
theorem add_opp {x1 y1 x2 y2:F} (h:x1=x2∧y1+y2=0):add (some (x1,y1)) (some (x2,y2))=none:=by
 show (if _ then _ else _)=_
 rw [if_pos h]
theorem add_sl {s x1 y1 x2 y2:F} (h1:On x1 y1) (h2:On x2 y2) (hs:SL s x1 y1 x2 y2) (hn:¬ (x1=x2∧y1+y2=0)):add (some (x1,y1)) (some (x2,y2))=some (third s x1 y1 x2 y2):=by
 show (if _ then _ else _)=_
 rw [if_neg hn,(sl_is h1 h2 hn).one hs hn]
theorem add_comm {p q:Pt} (hp:OnC p) (hq:OnC q):add p q=add q p:=by
 rcases p with _ | ⟨x1,y1⟩
 ·rw [none_add,add_none]
 rcases q with _ | ⟨x2,y2⟩
 ·rw [none_add,add_none]
 by_cases h:x1=x2∧y1+y2=0
 ·rw [add_opp h,add_opp (by grind)]
 ·have hs:=sl_is hp hq h
  rw [add_sl hp hq hs h,add_sl hq hp hs.symm (by grind),third_symm hs]
theorem add_on {p q:Pt} (hp:OnC p) (hq:OnC q):OnC (add p q):=by
 rcases p with _ | ⟨x1,y1⟩
 ·exact hq
 rcases q with _ | ⟨x2,y2⟩
 ·exact hp
 by_cases h:x1=x2∧y1+y2=0
 ·rw [add_opp h];trivial
 ·have hs:=sl_is hp hq h
  rw [add_sl hp hq hs h]
  exact third_on hp hs
def neg:Pt→Pt
 | none=>none
 | some (x,y)=>some (x,-y)
theorem neg_on {p:Pt} (h:OnC p):OnC (neg p):=by
 rcases p with _ | ⟨x,y⟩
 ·trivial
 ·show On x (-y)
  have:On x y:=h
  unfold On at *
  grind
theorem add_neg (p:Pt):add p (neg p)=none:=by
 rcases p with _ | ⟨x,y⟩
 ·rfl
 ·exact add_opp ⟨rfl,by grind⟩
theorem back_sl {t x1 y1 x3 y3 x5 y5:F} (a:t*(x3 - x1)=y3 - -y1) (b:t*(-y1+y3)=x1*x1+x1*x3+x3*x3 - 3) (e6:x5=t*t - x1 - x3) (e7:y5=t*(x1 - (t*t - x1 - x3)) - -y1):SL (-t) x1 y1 x5 y5:=by
 have e:y3=t*(x3 - x1) - y1:=by grind
 subst e e6 e7
 clear a
 exact ⟨by grind,by grind⟩
theorem back_is {t x1 y1 x3 y3 x5 y5:F} (a:t*(x3 - x1)=y3 - -y1) (b:t*(-y1+y3)=x1*x1+x1*x3+x3*x3 - 3) (e6:x5=t*t - x1 - x3) (e7:y5=t*(x1 - (t*t - x1 - x3)) - -y1):-t * -t - x1 - x5=x3∧-t*(x1 - (-t * -t - x1 - x5)) - y1=y3:=by
 have e:y3=t*(x3 - x1) - y1:=by grind
 subst e e6 e7
 clear a b
 exact ⟨by grind,by grind⟩
theorem add_back {p q:Pt} (hp:OnC p) (hq:OnC q):add p (add (neg p) q)=q:=by
 rcases p with _ | ⟨x1,y1⟩
 ·rfl
 rcases q with _ | ⟨x3,y3⟩
 ·rw [add_none,add_neg]
 have h1:On x1 y1:=hp
 have h3:On x3 y3:=hq
 have h2:On x1 (-y1):=neg_on (p:=some (x1,y1)) hp
 show add (some (x1,y1)) (add (some (x1,-y1)) (some (x3,y3)))=_
 by_cases h:x1=x3∧-y1+y3=0
 ·rw [add_opp h,add_none]
  obtain ⟨rfl,h⟩:=h
  have:y3=y1:=by grind
  rw [this]
 ·have ht:=sl_is h2 h3 h
  rw [add_sl h2 h3 ht h]
  obtain ⟨t,ht'⟩:∃ t,t=sl x1 (-y1) x3 y3:=⟨_,rfl⟩
  rw [←ht'] at ht ⊢
  have h5:=third_on h2 ht
  rcases hq5:third t x1 (-y1) x3 y3 with ⟨x5,y5⟩
  have e5:x5=t*t - x1 - x3∧y5=t*(x1 - (t*t - x1 - x3)) - -y1:=by
   unfold third at hq5
   exact ⟨(congrArg Prod.fst hq5).symm,(congrArg Prod.snd hq5).symm⟩
  rw [hq5] at h5
  obtain ⟨e6,e7⟩:=e5
  have hS:SL (-t) x1 y1 x5 y5:=by
   obtain ⟨a,b⟩:=ht
   exact back_sl a b e6 e7
  have hn:¬ (x1=x5∧y1+y5=0):=fun ⟨a,b⟩=>by
   obtain ⟨c,d⟩:=hS
   have hy:y1=0:=zero_of (x:=2) (by grind) two_ne
   exact smooth h1 hy (by grind)
  rw [add_sl h1 h5 hS hn]
  unfold third
  rw [Option.some.injEq,Prod.mk.injEq]
  obtain ⟨a,b⟩:=ht
  exact back_is a b e6 e7
theorem no_opp {s x1 y1 x2 y2:F} (c:s*(x2 - x1)=y2 - y1) (d:s*(y1+y2)=x1*x1+x1*x2+x2*x2 - 3) (a:x1=x2) (b:y1+y2=0):y1=0∧3*x1*x1 - 3=0:=by
 subst a
 rw [b] at d
 exact ⟨zero_of (x:=2) (by grind) two_ne,by grind⟩
theorem line_same {s x1 y1 x2 y2 y3 x4 y4 x5 y5:F} (s1:s*(x2 - x1)=y2 - y1) (t1:s*(x1 - x2)=y3 - y2) (e4x:x4=s*s - x1 - x2) (e4y:y4=s*(x1 - (s*s - x1 - x2)) - y1) (e5x:x5=s*s - x2 - x1) (e5y:y5=s*(x2 - (s*s - x2 - x1)) - y2) :
  y1=y3∧x4=x5∧y4=y5:=by
 subst e4x e4y e5x e5y
 exact ⟨by grind,by grind,by grind⟩
theorem line_three {s x1 y1 x2 y2 x3 y3 x4 y4 x5 y5:F} (s1:s*(x2 - x1)=y2 - y1) (s2:s*(y1+y2)=x1*x1+x1*x2+x2*x2 - 3) (t1:s*(x3 - x2)=y3 - y2) (t2:s*(y2+y3)=x2*x2+x2*x3+x3*x3 - 3)
  (e4x:x4=s*s - x1 - x2) (e4y:y4=s*(x1 - (s*s - x1 - x2)) - y1) (e5x:x5=s*s - x2 - x3) (e5y:y5=s*(x2 - (s*s - x2 - x3)) - y2) (hd:x3 - x1≠0) :
  x4=x3∧y4+y3=0∧x1=x5∧y1+y5=0:=by
 have e2:y2=s*(x2 - x1)+y1:=ey s1
 have e3:y3=s*(x3 - x2)+y2:=ey t1
 clear s1 t1
 subst e3 e2 e4x e4y e5x e5y
 have hz:(x3 - x1)*(s*s - (x1+x2+x3))=0:=by grind
 have hw:=zero_of hz hd
 clear s2 t2 hz hd
 exact ⟨by grind,by grind,by grind,by grind⟩
theorem slopes {s t w x1 y1 x2 y2 x3 y3 x4 y4 x5 y5:F} (s1:s*(x2 - x1)=y2 - y1) (s2:s*(y1+y2)=x1*x1+x1*x2+x2*x2 - 3) (t1:t*(x3 - x2)=y3 - y2) (t2:t*(y2+y3)=x2*x2+x2*x3+x3*x3 - 3)
  (e4x:x4=s*s - x1 - x2) (e4y:y4=s*(x1 - (s*s - x1 - x2)) - y1) (e5x:x5=t*t - x2 - x3) (e5y:y5=t*(x2 - (t*t - x2 - x3)) - y2) (hw:w*(s - t)=x1 - x3) (hst:s - t≠0) :
  SL (w - s) x4 y4 x3 y3∧SL (w - t) x1 y1 x5 y5∧(w - s)*(w - s) - x4 - x3=(w - t)*(w - t) - x1 - x5∧(w - s)*(x4 - ((w - s)*(w - s) - x4 - x3)) - y4=(w - t)*(x1 - ((w - t)*(w - t) - x1 - x5)) - y1:=by
 have e2:y2=s*(x2 - x1)+y1:=ey s1
 have e3:y3=t*(x3 - x2)+y2:=ey t1
 have ex:x3=x1 - w*(s - t):=ex_ hw
 clear s1 t1 hw
 subst e3 e2 e4x e4y e5x e5y ex
 have hy:2*y1=w*(x1+x2+(x1 - w*(s - t)) - t*t) - (s - t)*(x2 - x1):=cancel hst (by grind)
 have h3:(3:F)=x1*x1+x1*x2+x2*x2 - s*(2*y1+s*(x2 - x1)):=by grind
 rw [hy] at h3
 clear s2 t2 hst
 refine ⟨⟨cancel two_ne ?_,cancel two_ne ?_⟩,⟨cancel two_ne ?_,cancel two_ne ?_⟩,?_,cancel two_ne ?_⟩
 ·clear h3;grind
 ·grind
 ·clear h3;grind
 ·grind
 ·clear h3 hy;grind
 ·clear h3;grind
theorem assoc_mid {x1 y1 x2 y2 x3 y3:F} (h1:On x1 y1) (h2:On x2 y2) (h3:On x3 y3) (n12:¬ (x1=x2∧y1+y2=0)) (n23:¬ (x2=x3∧y2+y3=0)) :
  add (add (some (x1,y1)) (some (x2,y2))) (some (x3,y3))=add (some (x1,y1)) (add (some (x2,y2)) (some (x3,y3))):=by
 have hs:=sl_is h1 h2 n12
 have ht:=sl_is h2 h3 n23
 rw [add_sl h1 h2 hs n12,add_sl h2 h3 ht n23]
 obtain ⟨s,es⟩:∃ s,s=sl x1 y1 x2 y2:=⟨_,rfl⟩
 obtain ⟨t,et⟩:∃ t,t=sl x2 y2 x3 y3:=⟨_,rfl⟩
 rw [←es] at hs ⊢
 rw [←et] at ht ⊢
 clear es et
 have o4:=third_on h1 hs
 have o5:=third_on h2 ht
 rcases q4:third s x1 y1 x2 y2 with ⟨x4,y4⟩
 rcases q5:third t x2 y2 x3 y3 with ⟨x5,y5⟩
 rw [q4] at o4
 rw [q5] at o5
 have e4:x4=s*s - x1 - x2∧y4=s*(x1 - (s*s - x1 - x2)) - y1:=by
  unfold third at q4
  exact ⟨(congrArg Prod.fst q4).symm,(congrArg Prod.snd q4).symm⟩
 have e5:x5=t*t - x2 - x3∧y5=t*(x2 - (t*t - x2 - x3)) - y2:=by
  unfold third at q5
  exact ⟨(congrArg Prod.fst q5).symm,(congrArg Prod.snd q5).symm⟩
 clear q4 q5
 simp only at o4 o5
 obtain ⟨e4x,e4y⟩:=e4
 obtain ⟨e5x,e5y⟩:=e5
 obtain ⟨s1,s2⟩:=hs
 obtain ⟨t1,t2⟩:=ht
 by_cases hst:s - t=0
 ·have hst':s=t:=by grind
  subst hst'
  by_cases h13:x3 - x1=0
  ·have hx:x1=x3:=by grind
   subst hx
   obtain ⟨hy,rfl,rfl⟩:=line_same s1 t1 e4x e4y e5x e5y
   subst hy
   exact add_comm o4 h1
  ·obtain ⟨a,b,c,d⟩:=line_three s1 s2 t1 t2 e4x e4y e5x e5y h13
   rw [add_opp (x1:=x4) (y1:=y4) (x2:=x3) (y2:=y3) ⟨a,b⟩,add_opp (x1:=x1) (y1:=y1) (x2:=x5) (y2:=y5) ⟨c,d⟩]
 ·obtain ⟨w,hw⟩:∃ w,w*(s - t)=x1 - x3:=ratio hst _
  obtain ⟨hS4,hS5,k1,k2⟩:=slopes s1 s2 t1 t2 e4x e4y e5x e5y hw hst
  have n4:¬ (x4=x3∧y4+y3=0):=fun ⟨a,b⟩=>by
   obtain ⟨c,d⟩:=hS4
   obtain ⟨e,f⟩:=no_opp c d a b
   exact smooth o4 e f
  have n5:¬ (x1=x5∧y1+y5=0):=fun ⟨a,b⟩=>by
   obtain ⟨c,d⟩:=hS5
   obtain ⟨e,f⟩:=no_opp c d a b
   exact smooth h1 e f
  rw [add_sl o4 h3 hS4 n4,add_sl h1 o5 hS5 n5]
  unfold third
  rw [k2,k1]
theorem add_assoc {p q r:Pt} (hp:OnC p) (hq:OnC q) (hr:OnC r):add (add p q) r=add p (add q r):=by
 rcases p with _ | ⟨x1,y1⟩
 ·rfl
 rcases q with _ | ⟨x2,y2⟩
 ·rw [add_none,none_add]
 rcases r with _ | ⟨x3,y3⟩
 ·rw [add_none,add_none]
 by_cases n12:x1=x2∧y1+y2=0
 ·rw [add_opp n12,none_add]
  obtain ⟨rfl,h⟩:=n12
  have e:y2 = -y1:=by grind
  subst e
  exact (add_back (p:=some (x1,y1)) (q:=some (x3,y3)) hp hr).symm
 by_cases n23:x2=x3∧y2+y3=0
 ·rw [add_opp n23,add_none]
  obtain ⟨rfl,h⟩:=n23
  have e:y2 = -y3:=by grind
  subst e
  have h12:=add_on hp hq
  rw [add_comm h12 hr,add_comm hp hq]
  exact add_back (p:=some (x2,y3)) (q:=some (x1,y1)) hr hp
 exact assoc_mid hp hq hr n12 n23
def nmul (p:Pt):Nat→Pt
 | 0=>none
 | k+1=>add (nmul p k) p
theorem nmul_on {p:Pt} (h:OnC p):∀ k,OnC (nmul p k)
 | 0=>trivial
 | k+1=>add_on (nmul_on h k) h
theorem nmul_add {p:Pt} (h:OnC p) (a:Nat):∀ b,nmul p (a+b)=add (nmul p a) (nmul p b)
 | 0=>by rw [Nat.add_zero];exact (add_none _).symm
 | b+1=>by
  show add (nmul p (a+b)) p=add (nmul p a) (add (nmul p b) p)
  rw [nmul_add h a b,add_assoc (nmul_on h a) (nmul_on h b) h]
theorem nmul_two {p:Pt} (h:OnC p) (a:Nat):nmul p (2*a)=add (nmul p a) (nmul p a):=by rw [show 2*a=a+a by omega,nmul_add h]
theorem nmul_mul {p:Pt} (h:OnC p) (a:Nat):∀ b,nmul p (a*b)=nmul (nmul p a) b
 | 0=>rfl
 | b+1=>by rw [Nat.mul_succ,nmul_add h,nmul_mul h a b];rfl
theorem nmul_none:∀ k,nmul none k=none
 | 0=>rfl
 | k+1=>by rw [nmul,nmul_none k];rfl
theorem nmul_mod {p:Pt} (h:OnC p) {n:Nat} (hn:nmul p n=none) (k:Nat):nmul p (k % n)=nmul p k:=by
 conv=>rhs;rw [←Nat.div_add_mod k n,nmul_add h,nmul_mul h,hn,nmul_none,none_add]
theorem nmul_order {p:Pt} (h:OnC p) {n:Nat} (hn:nmul p n=none) (k:Nat):nmul (nmul p k) n=none:=by
 rw [←nmul_mul h,Nat.mul_comm,nmul_mul h,hn,nmul_none]
end Go.Proofs.YtflfdglpljodbaaDoor.Luc
namespace Go.Proofs.YtflfdglpljodbaaDoor.Luc
structure Jc where
 x:F
 y:F
 z:F
def Rep (j:Jc):Pt:=if j.z=0 then none else some (j.x*(finv j.z*finv j.z),j.y*(finv j.z*finv j.z*finv j.z))
theorem Rep.no {j:Jc} (h:j.z=0):Rep j=none:=by unfold Rep;rw [if_pos h]
theorem Rep.yes {j:Jc} {u v:F} (h:j.z≠0) (hx:j.x=u*(j.z*j.z)) (hy:j.y=v*(j.z*j.z*j.z)):Rep j=some (u,v):=by
 have hi:=mul_finv h
 unfold Rep
 rw [if_neg h,hx,hy,Option.some.injEq,Prod.mk.injEq]
 exact ⟨by grind,by grind⟩
theorem Rep.parts {j:Jc} (h:j.z≠0):∃ u v,Rep j=some (u,v)∧j.x=u*(j.z*j.z)∧j.y=v*(j.z*j.z*j.z):=by
 have hi:=mul_finv h
 refine ⟨_,_,by unfold Rep;rw [if_neg h],?_,?_⟩ <;> grind
theorem mul_ne {a b:F} (ha:a≠0) (hb:b≠0):a*b≠0:=fun e=>hb (zero_of e ha)
theorem dbl_y (u v z s:F) (e:s*(2*v)=3*u*u - 3) :
  ((u*(z*z) - z*z)*(u*(z*z)+z*z)+((u*(z*z) - z*z)*(u*(z*z)+z*z)+(u*(z*z) - z*z)*(u*(z*z)+z*z)))*(u*(z*z)*(v*(z*z*z)*(v*(z*z*z)))+u*(z*z)*(v*(z*z*z)*(v*(z*z*z)))+(u*(z*z)*(v*(z*z*z)*(v*(z*z*z)))+u*(z*z)*(v*(z*z*z)*(v*(z*z*z)))) - (((u*(z*z) - z*z)*(u*(z*z)+z*z)+((u*(z*z) - z*z)*(u*(z*z)+z*z)+(u*(z*z) - z*z)*(u*(z*z)+z*z)))*((u*(z*z) - z*z)*(u*(z*z)+z*z)+((u*(z*z) - z*z)*(u*(z*z)+z*z)+(u*(z*z) - z*z)*(u*(z*z)+z*z))) - (u*(z*z)*(v*(z*z*z)*(v*(z*z*z)))+u*(z*z)*(v*(z*z*z)*(v*(z*z*z)))+(u*(z*z)*(v*(z*z*z)*(v*(z*z*z)))+u*(z*z)*(v*(z*z*z)*(v*(z*z*z))))+(u*(z*z)*(v*(z*z*z)*(v*(z*z*z)))+u*(z*z)*(v*(z*z*z)*(v*(z*z*z)))+(u*(z*z)*(v*(z*z*z)*(v*(z*z*z)))+u*(z*z)*(v*(z*z*z)*(v*(z*z*z)))))))) - (v*(z*z*z)*(v*(z*z*z))*(v*(z*z*z)*(v*(z*z*z)))+v*(z*z*z)*(v*(z*z*z))*(v*(z*z*z)*(v*(z*z*z)))+(v*(z*z*z)*(v*(z*z*z))*(v*(z*z*z)*(v*(z*z*z)))+v*(z*z*z)*(v*(z*z*z))*(v*(z*z*z)*(v*(z*z*z))))+(v*(z*z*z)*(v*(z*z*z))*(v*(z*z*z)*(v*(z*z*z)))+v*(z*z*z)*(v*(z*z*z))*(v*(z*z*z)*(v*(z*z*z)))+(v*(z*z*z)*(v*(z*z*z))*(v*(z*z*z)*(v*(z*z*z)))+v*(z*z*z)*(v*(z*z*z))*(v*(z*z*z)*(v*(z*z*z)))))) =
  (s*(u - (s*s - u - u)) - v)*(2*(v*(z*z*z)*z)*(2*(v*(z*z*z)*z))*(2*(v*(z*z*z)*z))):=by
 have e3:(s*(2*v))*((s*(2*v))*(s*(2*v)))=(3*u*u - 3)*((3*u*u - 3)*(3*u*u - 3)):=by rw [e]
 grind
def dbl (j:Jc):Jc :=
 let zz:=j.z*j.z
 let yy:=j.y*j.y
 let a:=(j.x - zz)*(j.x+zz)
 let a:=a+(a+a)
 let b:=j.x*yy
 let four:=(b+b)+(b+b)
 let x:=a*a - (four+four)
 let g:=yy*yy
 let g:=(g+g)+(g+g)
 ⟨x,a*(four - x) - (g+g),(j.y+j.z)*(j.y+j.z) - yy - zz⟩
theorem dbl_rep {j:Jc} (h:OnC (Rep j)):Rep (dbl j)=add (Rep j) (Rep j):=by
 have hz':(dbl j).z=2*(j.y*j.z):=by
  show (j.y+j.z)*(j.y+j.z) - j.y*j.y - j.z*j.z=_
  grind
 by_cases hz:j.z=0
 ·rw [Rep.no hz,Rep.no (by rw [hz',hz];grind)]
  rfl
 obtain ⟨u,v,hr,hx,hy⟩:=Rep.parts hz
 rw [hr] at h ⊢
 have ho:On u v:=h
 by_cases hv:v=0
 ·have e1:j.y*j.z=0:=by rw [hy];clear hr hx hy h ho hz hz';grind
  have e2:(dbl j).z=0:=by rw [hz'];clear hr hx hy h ho hz hz';grind
  have e3:v+v=0:=by clear hr hx hy h ho hz hz';grind
  rw [Rep.no e2,add_opp ⟨rfl,e3⟩]
 ·have hn:¬ (u=u∧v+v=0):=fun e=>hv (zero_of (x:=2) (by grind) two_ne)
  have hs:=sl_is ho ho hn
  obtain ⟨s,es⟩:∃ s,s=sl u v u v:=⟨_,rfl⟩
  rw [←es] at hs
  rw [add_sl ho ho hs hn]
  have hyz:j.y≠0:=by rw [hy];exact mul_ne hv (mul_ne (mul_ne hz hz) hz)
  have hd:(dbl j).z≠0:=by rw [hz'];exact mul_ne two_ne (mul_ne hyz hz)
  obtain ⟨x,y,z⟩:=j
  simp only at hx hy hz hz' hd
  have ht:=hs.ta
  clear hs es hn h ho hr hyz
  refine Rep.yes hd ?_ ?_
  ·rw [hz']
   simp only [dbl,third]
   subst hx hy
   have e:s*(2*v)=3*u*u - 3:=by grind
   have e2:(s*(2*v))*(s*(2*v))=(3*u*u - 3)*(3*u*u - 3):=by rw [e]
   clear ht e hd hz' hv hz
   grind
  ·rw [hz']
   simp only [dbl,third]
   subst hx hy
   have e:s*(2*v)=3*u*u - 3:=by grind
   clear ht hd hz' hv hz
   exact dbl_y u v z s e
def pls (j:Jc) (u v:F):Jc :=
 if j.z=0 then ⟨u,v,1⟩ else
 let zz:=j.z*j.z
 let h:=u*zz - j.x
 let r:=v*(zz*j.z) - j.y
 if h=0 then (if r=0 then dbl j else ⟨0,0,0⟩) else
 let hh:=h*h
 let c:=hh*h
 let w:=j.x*hh
 let x:=r*r - c - (w+w)
 ⟨x,r*(w - x) - j.y*c,j.z*h⟩
theorem one_ne:(1:F)≠0:=by decide
theorem pls_rep {j:Jc} {u v:F} (h:OnC (Rep j)) (ho:On u v):Rep (pls j u v)=add (Rep j) (some (u,v)):=by
 unfold pls
 by_cases hz:j.z=0
 ·rw [if_pos hz,Rep.no hz,none_add]
  exact Rep.yes one_ne (by show u=_;grind) (by show v=_;grind)
 rw [if_neg hz]
 obtain ⟨a,b,hr,hx,hy⟩:=Rep.parts hz
 have h':=h
 rw [hr] at h' ⊢
 have ho':On a b:=h'
 obtain ⟨x,y,z⟩:=j
 simp only at hx hy hz ⊢
 by_cases hh:u*(z*z) - x=0
 ·rw [if_pos hh]
  have e1:u=a:=cancel (mul_ne hz hz) (by grind)
  by_cases hrr:v*(z*z*z) - y=0
  ·rw [if_pos hrr,dbl_rep h,hr]
   have e2:v=b:=cancel (mul_ne (mul_ne hz hz) hz) (by grind)
   rw [e1,e2]
  ·rw [if_neg hrr]
   rw [Rep.no (by rfl)]
   refine (add_opp ⟨e1.symm,?_⟩).symm
   have hne:v - b≠0:=fun e=>hrr (by rw [hy];grind)
   refine zero_of (x:=v - b) ?_ hne
   unfold On at ho ho'
   rw [e1] at ho
   clear hh hrr hne hx hy h hr
   grind
 ·rw [if_neg hh]
  have hau:u - a≠0:=fun e=>hh (by rw [hx];grind)
  have hn:¬ (a=u∧b+v=0):=fun ⟨e,_⟩=>hau (by rw [e];grind)
  have hs:=(sl_is ho' ho hn)
  obtain ⟨s,es⟩:∃ s,s=sl a b u v:=⟨_,rfl⟩
  rw [←es] at hs
  rw [add_sl ho' ho hs hn]
  have hd:z*(u*(z*z) - x)≠0:=mul_ne hz hh
  have hc:=hs.ch
  clear hs es hn h ho ho' hr
  subst hx hy
  have e:v=s*(u - a)+b:=ey hc
  subst e
  clear hc hau hh hz
  refine Rep.yes hd ?_ ?_
  ·simp only [third]
   clear hd
   grind
  ·simp only [third]
   clear hd
   grind
def tms (u v:F):Nat→Nat→Jc
 | 0,_=>⟨0,0,0⟩
 | k+1,n=>if n % 2=1 then pls (dbl (tms u v k (n / 2))) u v else dbl (tms u v k (n / 2))
theorem tms_rep {u v:F} (ho:On u v):∀ k n:Nat,n<2 ^ k→Rep (tms u v k n)=nmul (some (u,v)) n
 | 0,n,h=>by
  have:n=0:=by simpa using h
  subst this
  exact Rep.no rfl
 | k+1,n,h=>by
  have hp:OnC (some (u,v)):=ho
  have ih:=tms_rep ho k (n / 2) (by rw [Nat.pow_succ] at h;omega)
  have hon:OnC (Rep (tms u v k (n / 2))):=by rw [ih];exact nmul_on hp _
  have hd:Rep (dbl (tms u v k (n / 2)))=nmul (some (u,v)) (2*(n / 2)):=by rw [dbl_rep hon,ih,nmul_two hp]
  rw [tms]
  by_cases h1:n % 2=1
  ·rw [if_pos h1,pls_rep (by rw [hd];exact nmul_on hp _) ho,hd]
   conv=>rhs;rw [show n=2*(n / 2)+1 by omega]
   rfl
  ·rw [if_neg h1,hd,show 2*(n / 2)=n by omega]
def gX:F:=⟨48439561293906451759052585252797914202762949526041747995844080717082404635286,by decide⟩
def gY:F:=⟨36134250956749795798585127919587881956611106672985015071877198253568414405109,by decide⟩
def cNn:Nat:=115792089210356248762697446949407573529996955224135760342422259061068512044369
theorem cNn_prime:Prime cNn:=primeN
theorem g_on:On gX gY:=by unfold On;decide +kernel
theorem order_z:(tms gX gY 256 cNn).z=0:=by decide +kernel
theorem g_order:nmul (some (gX,gY)) cNn=none:=by rw [←tms_rep g_on 256 cNn (by decide),Rep.no order_z]
end Go.Proofs.YtflfdglpljodbaaDoor.Luc
