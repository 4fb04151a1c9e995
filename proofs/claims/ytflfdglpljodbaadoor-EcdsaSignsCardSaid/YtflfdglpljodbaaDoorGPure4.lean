/-
  Powers of two, plain.
-/
import Derived.Test.YtflfdglpljodbaaDoorGNat18
namespace Go.Proofs.YtflfdglpljodbaaDoor
set_option linter.unusedVariables false
def pow2 (n:Nat):List Nat:=(List.replicate (n / 32+1) 0).set (n / 32) (2 ^ (n % 32))
theorem two_lt (k:Nat) (h:k<32):2 ^ k<4294967296:=by
 have:2 ^ k<2 ^ 32:=Nat.pow_lt_pow_right (by omega) h
 omega
theorem nb_bounds {r:List Nat} {v:Nat} (h:NumIs r v) (h0:v≠0):2 ^ (nb r - 1)≤v∧v<2 ^ nb r∧1≤nb r:=by
 obtain ⟨hd,hn,rfl⟩:=h
 rcases hm:r.length with _ | m
 ·exfalso
  apply h0
  rw [List.eq_nil_of_length_eq_zero hm]
  rfl
 ·rw [nb_succ hm]
  have ht:r.getD m 0≠0:=by
   rcases hn with h | h
   ·omega
   ·rwa [hm,Nat.add_sub_cancel] at h
  obtain ⟨b0,b1,b2⟩:=Lib.bitLenAux_bounds 64 (r.getD m 0) (by have:=hd.at_ m;omega) ht
  change 1≤Lib.bitLen (r.getD m 0) at b0
  change 2 ^ (Lib.bitLen (r.getD m 0) - 1)≤_ at b1
  change _<2 ^ Lib.bitLen (r.getD m 0) at b2
  generalize Lib.bitLen (r.getD m 0)=k at *
  have hv:val r=val (r.take m)+pw m*r.getD m 0:=by rw [←val_take_succ,val_take_all r _ (by omega)]
  have hlow:val (r.take m)<pw m:=by
   have:=val_lt (hd.take m)
   rwa [List.length_take,Nat.min_eq_left (by omega)] at this
  have e:pw m=2 ^ (32*m):=by unfold pw;rw [Nat.pow_mul]
  refine ⟨?_,?_,by omega⟩
  ·rw [show 32*m+k - 1=32*m+(k - 1) by omega,Nat.pow_add,←e]
   have:=Nat.mul_le_mul_left (pw m) b1
   omega
  ·rw [Nat.pow_add,←e]
   have:pw m*(r.getD m 0+1)≤pw m*2 ^ k:=Nat.mul_le_mul_left _ b2
   rw [Nat.mul_add] at this
   omega
end Go.Proofs.YtflfdglpljodbaaDoor
