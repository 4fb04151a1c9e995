/- Words and laws for the statement, part 1. -/
import Derived.Below
import Derived.Laws.OwnMore
import Derived.Deep.Draws
import Derived.Laws.Rows
import Derived.Lib.Hide
import Derived.WalkKit
import Derived.Maps.AppendAt
import Derived.Deep.AppendLies
import Derived.Test.YtcibjcgipfpniaaGreatDoorChecked
import Derived.WalkSpells
import Derived.WalkLawsBesides
import Derived.Outline
import Derived.BigQuiet
import Derived.Deep.QuietTactic
import Derived.IntWalk
import Derived.Laws.IdiomStrings
import Derived.Laws.BytesArg
import Derived.Lib.Strings
import Derived.StillTailTactics
import Derived.Deep.AppendSrc
import Derived.Lib.LazyBuf
import Derived.Deep.Upon
import Derived.OwnWalk
namespace Go.Proofs.YtcibjcgipfpniaaGreatDoor
open Go.RowKit

/-- Block g is just these cells of element type t; none is frozen. -/
def Holds (w:World) (g:Nat) (t:TypeId) (cs:Array Value):Prop:=w.heap[g]?=some (.cells cs t (0,0))

section
variable {w w':World} {g:Nat} {t:TypeId} {cs:Array Value}
theorem Holds.lt (h:Holds w g t cs):g<w.heap.size:=(Array.getElem?_eq_some_iff.1 h).1
theorem Holds.cell (h:Holds w g t cs):∀ i,w.cell? ⟨g,i,none⟩=cs[i]?:=fun i=>cell_of_row w g i cs t (0,0) h
theorem Holds.open_ (h:Holds w g t cs):∀ i,w.frozen? ⟨g,i,none⟩=false:=fun i=>by
 have h':w.heap[g]?=some (.cells cs t (0,0)):=h
 simp [World.frozen?,h']
theorem Holds.fresh (w:World) (t:TypeId) (cs:Array Value):Holds (w.alloc (.cells cs t)) w.heap.size t cs:=heap_alloc_new w _
theorem Holds.drew (h:Holds w g t cs):Holds w.drew g t cs:=h
theorem Holds.drewN (h:Holds w g t cs) (n:Nat):Holds (w.drewN n) g t cs:=h
theorem Holds.alloc (h:Holds w g t cs) (o:Obj):Holds (w.alloc o) g t cs:=(Below.heap_alloc w o g h.lt).trans h
theorem Holds.stored (h:Holds w g t cs) (i:Nat) (u:Value):Holds (w.setCell ⟨g,i,none⟩ u) g t (cs.setIfInBounds i u):=by
 have h':w.heap[g]?=some (.cells cs t (0,0)):=h
 show (w.setCell ⟨g,i,none⟩ u).heap[g]?=_
 simp [World.setCell,Array.getElem?_modify,h']
theorem Holds.aside (h:Holds w g t cs) {p:Addr} (hp:g≠p.block) (u:Value):Holds (w.setCell p u) g t cs:=(Below.heap_setCell w p u g hp).trans h
theorem Holds.under {B:Nat} (h:Holds w g t cs) (hb:Below B w w') (hg:g<B):Holds w' g t cs:=(hb.block g hg).trans h
theorem Holds.grown {row:Option Nat} (h:Holds w g t cs) (hb:w.grownBy w' row) (hg:some g≠row):Holds w' g t cs:=(hb.block g h.lt hg).trans h
end

/-- Only block g, and what is new, has turned. -/
theorem one_setCell {a w:World} {g:Nat} (h:a.grownBy w (some g)) (i:Nat) (u:Value):a.grownBy (w.setCell ⟨g,i,none⟩ u) (some g) :=
 ⟨h.os,h.tape,h.output,by simpa [World.setCell] using h.size,fun k hk hne=>(Below.heap_setCell w _ u k (fun e=>hne (by rw [e]))).trans (h.block k hk hne)⟩
theorem one_drewN {a w:World} {r:Option Nat} (h:a.grownBy w r) (n:Nat):a.grownBy (w.drewN n) r:=⟨h.os,h.tape,h.output,h.size,h.block⟩
/-- A call that leaves the world alone, behind draws. -/
theorem quiet_on {P:Program} {f:FuncId} {args:Array Value} {w:World} {a n:Nat} {v:Value}
  (h:∀ W:World,Calls P f args W fun e w'=>e = .returned v∧W=w'):Calls P f args (w.drewN (a+n)) fun e w'=>e = .returned v∧∃ m,w'=w.drewN (a+m) :=
 (h _).mono fun _ _ hh=>⟨hh.1,n,hh.2.symm⟩
end Go.Proofs.YtcibjcgipfpniaaGreatDoor
namespace Go.Proofs.YtcibjcgipfpniaaGreatDoor
set_option linter.unusedVariables false

/-- How many digits are left of the first n when the noughts at the end go. -/
def tlen (l:List Nat):Nat→Nat
 | 0=>0
 | n+1=>if l.getD n 0=0 then tlen l n else n+1

theorem tlen_le (l:List Nat):∀ n,tlen l n≤n
 | 0=>Nat.le_refl _
 | n+1=>by
  unfold tlen
  split
  ·exact Nat.le_succ_of_le (tlen_le l n)
  ·exact Nat.le_refl _
theorem tlen_drop (l:List Nat) (n:Nat) (h:l.getD n 0=0):tlen l (n+1)=tlen l n:=by
 rw [tlen,if_pos h]
theorem tlen_stay (l:List Nat) (n:Nat) (h:l.getD n 0≠0):tlen l (n+1)=n+1:=by
 rw [tlen,if_neg h]
/-- The digits without the noughts at the end. -/
def trl (l:List Nat):List Nat:=l.take (tlen l l.length)
theorem trl_length (l:List Nat):(trl l).length=tlen l l.length:=by
 have:=tlen_le l l.length
 simp [trl];omega

/-- Whether digits are a number: not too many, the last one not nought. -/
def okN (l:List Nat):Bool:=decide (l.length≤256) && (decide (l.length=0) || !(l.getD (l.length - 1) 0 == 0))

/-- The first n digits of two, compared from the highest one on. -/
def cmpTop (a b:List Nat):Nat→Int
 | 0=>0
 | n+1=>if a.getD n 0=b.getD n 0 then cmpTop a b n else if a.getD n 0<b.getD n 0 then -1 else 1
theorem cmpTop_same (a b:List Nat) (n:Nat) (h:a.getD n 0=b.getD n 0):cmpTop a b (n+1)=cmpTop a b n:=by rw [cmpTop,if_pos h]
theorem cmpTop_less (a b:List Nat) (n:Nat) (h:a.getD n 0<b.getD n 0):cmpTop a b (n+1) = -1:=by rw [cmpTop,if_neg (by omega),if_pos h]
theorem cmpTop_more (a b:List Nat) (n:Nat) (h:b.getD n 0<a.getD n 0):cmpTop a b (n+1)=1:=by rw [cmpTop,if_neg (by omega),if_neg (by omega)]
/-- Two lists of digits compared: by how many there are, then from the highest one on. -/
def cmpL (a b:List Nat):Int:=if a.length<b.length then -1 else if b.length<a.length then 1 else cmpTop a b a.length

/-- What k digits can hold. -/
def pw (k:Nat):Nat:=4294967296 ^ k
/-- The number that digits are, the lowest one first. -/
def val:List Nat→Nat
 | []=>0
 | x :: l=>x+4294967296*val l
/-- Each is a digit. -/
def Dg (l:List Nat):Prop:=∀ x∈l,x<4294967296
theorem Dg.at_ {l:List Nat} (h:Dg l) (i:Nat):l.getD i 0<4294967296:=by
 rw [List.getD]
 cases hq:l[i]? with
 | none=>simp
 | some x=>simpa using h x (List.mem_of_getElem? hq)
theorem Dg.take {l:List Nat} (h:Dg l) (n:Nat):Dg (l.take n):=fun x hx=>h x (List.mem_of_mem_take hx)
theorem Dg.set {l:List Nat} (h:Dg l) (i x:Nat) (hx:x<4294967296):Dg (l.set i x):=fun y hy=>by
 rcases List.mem_or_eq_of_mem_set hy with hm | rfl
 ·exact h y hm
 ·exact hx
theorem Dg.noughts (n:Nat):Dg (List.replicate n 0):=fun x hx=>by rw [(List.mem_replicate.1 hx).2];omega

/-- No nought leads. -/
def nrm (l:List Nat):Prop:=l.length=0∨l.getD (l.length - 1) 0≠0
theorem tlen_nrm (l:List Nat):∀ n,tlen l n=0∨l.getD (tlen l n - 1) 0≠0
 | 0=>.inl rfl
 | n+1=>by
  rw [tlen]
  split
  ·exact tlen_nrm l n
  ·rename_i h
   exact .inr h
theorem trl_nrm (l:List Nat):nrm (trl l):=by
 have h1:=tlen_nrm l l.length
 have h2:=tlen_le l l.length
 unfold nrm
 rw [trl_length]
 rcases h1 with h | h
 ·exact .inl h
 ·rcases Nat.eq_zero_or_pos (tlen l l.length) with h0 | h0
  ·exact .inl h0
  ·refine .inr ?_
   rw [trl,List.getD,List.getElem?_take,if_pos (by omega)]
   exact h
theorem trl_dg {l:List Nat} (h:Dg l):Dg (trl l):=h.take _
theorem tlen_id (l:List Nat) (n:Nat) (h:n=0∨l.getD (n - 1) 0≠0):tlen l n=n:=by
 rcases n with _ | n
 ·rfl
 ·exact tlen_stay l n (by simpa using h)
/-- r are the digits of n, and no nought leads. -/
def NumIs (r:List Nat) (n:Nat):Prop:=Dg r∧nrm r∧val r=n
theorem top_zero (a b:List Nat):∀ n,cmpTop a b n=0→∀ i,i<n→a.getD i 0=b.getD i 0
 | 0,_,i,hi=>by omega
 | n+1,h,i,hi=>by
  by_cases e:a.getD n 0=b.getD n 0
  ·rw [cmpTop_same a b n e] at h
   rcases Nat.lt_or_ge i n with h1 | h1
   ·exact top_zero a b n h i h1
   ·obtain rfl:i=n:=by omega
    exact e
  ·by_cases e':a.getD n 0<b.getD n 0
   ·rw [cmpTop_less a b n e'] at h;cases h
   ·rw [cmpTop_more a b n (by omega)] at h;cases h
theorem cmpL_refl (a:List Nat):cmpL a a=0:=by
 have h:∀ n,cmpTop a a n=0:=by
  intro n
  induction n with
  | zero=>rfl
  | succ n ih=>rw [cmpTop_same a a n rfl,ih]
 unfold cmpL
 rw [if_neg (by omega),if_neg (by omega),h]
theorem okN_nrm {l:List Nat} (h:okN l=true):l.length≤256∧nrm l:=by
 simp [okN,List.getD] at h
 refine ⟨h.1,?_⟩
 rcases h.2 with h' | h'
 ·exact .inl (by simp [h'])
 ·exact .inr (by simpa [List.getD] using h')

/-! Bytes as digits: r is the bytes, the lowest first. -/
/-- The part of digit j that the bytes from place k on give. -/
def part (r:List Nat) (k j:Nat):Nat :=
 (if k≤4*j then r.getD (4*j) 0 else 0)+256*(if k≤4*j+1 then r.getD (4*j+1) 0 else 0)+65536*(if k≤4*j+2 then r.getD (4*j+2) 0 else 0)+16777216*(if k≤4*j+3 then r.getD (4*j+3) 0 else 0)
/-- All bytes are bytes. -/
def Oct (r:List Nat):Prop:=∀ i,r.getD i 0<256
theorem part_dg {r:List Nat} (h:Oct r) (k j:Nat):part r k j<4294967296:=by
 have h0:=h (4*j);have h1:=h (4*j+1);have h2:=h (4*j+2);have h3:=h (4*j+3)
 unfold part
 repeat' split
 all_goals omega
/-- One byte more: it is put into a place that is nought. -/
theorem part_step {r:List Nat} (h:Oct r) (k:Nat):(part r (k+1) (k / 4) ||| (r.getD k 0 <<< (8*(k % 4))))=part r k (k / 4):=by
 have hk:k % 4<4:=Nat.mod_lt _ (by omega)
 obtain ⟨q,hq⟩:∃ q,q=k / 4:=⟨_,rfl⟩
 have h0:=h (4*q);have h1:=h (4*q+1);have h2:=h (4*q+2);have h3:=h (4*q+3)
 have key:∀ (a b s:Nat),b<2 ^ s→((a*2 ^ s) ||| b)=a*2 ^ s+b:=by
  intro a b s hb
  have:=Nat.two_pow_add_eq_or_of_lt hb a
  rw [Nat.mul_comm] at this
  exact this.symm
 rw [←hq]
 rcases (by omega:k=4*q∨k=4*q+1∨k=4*q+2∨k=4*q+3) with e | e | e | e
 ·subst e
  have e2:part r (4*q+1) q=(r.getD (4*q+1) 0+256*r.getD (4*q+2) 0+65536*r.getD (4*q+3) 0)*2 ^ 8:=by
   unfold part;rw [if_neg (by omega),if_pos (by omega),if_pos (by omega),if_pos (by omega)];omega
  rw [e2,show 8*(4*q % 4)=0 by omega,Nat.shiftLeft_zero,key _ _ 8 (by omega)]
  unfold part;rw [if_pos (by omega),if_pos (by omega),if_pos (by omega),if_pos (by omega)];omega
 ·subst e
  have e2:part r (4*q+1+1) q=(r.getD (4*q+2) 0+256*r.getD (4*q+3) 0)*2 ^ 16:=by
   unfold part;rw [if_neg (by omega),if_neg (by omega),if_pos (by omega),if_pos (by omega)];omega
  rw [e2,show 8*((4*q+1) % 4)=8 by omega,Nat.shiftLeft_eq,key _ _ 16 (by omega)]
  unfold part;rw [if_neg (by omega),if_pos (by omega),if_pos (by omega),if_pos (by omega)];omega
 ·subst e
  have e2:part r (4*q+2+1) q=r.getD (4*q+3) 0*2 ^ 24:=by
   unfold part;rw [if_neg (by omega),if_neg (by omega),if_neg (by omega),if_pos (by omega)];omega
  rw [e2,show 8*((4*q+2) % 4)=16 by omega,Nat.shiftLeft_eq,key _ _ 24 (by omega)]
  unfold part;rw [if_neg (by omega),if_neg (by omega),if_pos (by omega),if_pos (by omega)];omega
 ·subst e
  have e2:part r (4*q+3+1) q=0:=by
   unfold part;rw [if_neg (by omega),if_neg (by omega),if_neg (by omega),if_neg (by omega)]
  rw [e2,show 8*((4*q+3) % 4)=24 by omega,Nat.shiftLeft_eq,Nat.zero_or]
  unfold part;rw [if_neg (by omega),if_neg (by omega),if_neg (by omega),if_pos (by omega)];omega
theorem part_far (r:List Nat) (k j:Nat) (h:j≠k / 4):part r (k+1) j=part r k j:=by
 have hk:k % 4<4:=Nat.mod_lt _ (by omega)
 have e:k=4*(k / 4)+k % 4:=by omega
 unfold part
 congr 1
 ·congr 1
  ·congr 1
   ·by_cases c:k≤4*j
    ·rw [if_pos c,if_pos (by omega)]
    ·rw [if_neg c,if_neg (by omega)]
   ·by_cases c:k≤4*j+1
    ·rw [if_pos c,if_pos (by omega)]
    ·rw [if_neg c,if_neg (by omega)]
  ·by_cases c:k≤4*j+2
   ·rw [if_pos c,if_pos (by omega)]
   ·rw [if_neg c,if_neg (by omega)]
 ·by_cases c:k≤4*j+3
  ·rw [if_pos c,if_pos (by omega)]
  ·rw [if_neg c,if_neg (by omega)]

theorem oct_of {l:List Nat} (h:∀ x∈l,x<256):Oct l:=fun i=>by
 rw [List.getD]
 cases hq:l[i]? with
 | none=>simp
 | some x=>simpa using h x (List.mem_of_getElem? hq)
theorem oct_rev {l:List Nat} (h:∀ x∈l,x<256):Oct l.reverse:=oct_of fun x hx=>h x (List.mem_reverse.1 hx)
theorem rev_at {l:List Nat} {i k:Nat} (h:l.length=k+1+i):l.reverse.getD k 0=l.getD i 0:=by
 rw [List.getD,List.getD,List.getElem?_reverse (by omega)]
 congr 2
 omega
theorem shl_nat (x m:Nat) (hx:x<256) (hm:m<4):x*2 ^ (8*m)<4294967296:=by
 rcases (by omega:m=0∨m=1∨m=2∨m=3) with e | e | e | e <;> subst e <;> omega

/-- The byte at place k, the lowest first, of digits. -/
def byteAt (l:List Nat) (k:Nat):Nat:=l.getD (k / 4) 0 / 2 ^ (8*(k % 4)) % 256
theorem byteAt_lt (l:List Nat) (k:Nat):byteAt l k<256:=Nat.mod_lt _ (by omega)
theorem byteAt_far {l:List Nat} {k:Nat} (h:l.length≤k / 4):byteAt l k=0:=by
 unfold byteAt
 rw [List.getD,List.getElem?_eq_none h]
 simp
/-- Digits as n bytes, the highest first. -/
def bytesOf (l:List Nat) (n:Nat):List Nat:=(List.range n).map fun i=>byteAt l (n - 1 - i)
theorem bytesOf_length (l:List Nat) (n:Nat):(bytesOf l n).length=n:=by simp [bytesOf]
theorem bytesOf_at (l:List Nat) {n i:Nat} (h:i<n):(bytesOf l n).getD i 0=byteAt l (n - 1 - i):=by
 simp [bytesOf,List.getD,h]
theorem bytesOf_eq {l L:List Nat} {n:Nat} (hl:L.length=n) (h:∀ j,j<n→L.getD j 0=byteAt l (n - 1 - j)):L=bytesOf l n:=by
 apply List.ext_getElem
 ·rw [hl,bytesOf_length]
 ·intro j j1 j2
  have e1:=h j (by omega)
  rw [←bytesOf_at l (by omega:j<n)] at e1
  simpa [List.getD,j1,j2] using e1

theorem bput {l L:List Nat} {n i:Nat} (hl:L.length=n) (h:∀ j,j<n→L.getD j 0=if j<i then byteAt l (n - 1 - j) else 0):∀ j,j<n→(L.set i (byteAt l (n - 1 - i))).getD j 0=if j<i+1 then byteAt l (n - 1 - j) else 0:=by
 intro j hj
 by_cases e:j=i
 ·subst e
  rw [if_pos (by omega)]
  simp [List.getD,hl,hj]
 ·have e1:=h j hj
  rw [List.getD,List.getElem?_set_ne (by omega:i≠j),←List.getD,e1]
  by_cases c:j<i
  ·rw [if_pos c,if_pos (by omega)]
  ·rw [if_neg c,if_neg (by omega)]
theorem bskip {l L:List Nat} {n i:Nat} (hi:i<n) (hz:byteAt l (n - 1 - i)=0) (h:∀ j,j<n→L.getD j 0=if j<i then byteAt l (n - 1 - j) else 0):∀ j,j<n→L.getD j 0=if j<i+1 then byteAt l (n - 1 - j) else 0:=by
 intro j hj
 rw [h j hj]
 by_cases e:j=i
 ·subst e
  rw [if_neg (by omega),if_pos (by omega),hz]
 ·by_cases c:j<i
  ·rw [if_pos c,if_pos (by omega)]
  ·rw [if_neg c,if_neg (by omega)]
/-- The same from the other end. -/
theorem bput' {l L:List Nat} {n k:Nat} (hl:L.length=n) (hk:k<n) (h:∀ j,j<n→L.getD j 0=if n - 1 - j<k then byteAt l (n - 1 - j) else 0):∀ j,j<n→(L.set (n - 1 - k) (byteAt l k)).getD j 0=if n - 1 - j<k+1 then byteAt l (n - 1 - j) else 0:=by
 intro j hj
 by_cases e:j=n - 1 - k
 ·subst e
  rw [if_pos (by omega),show n - 1 - (n - 1 - k)=k by omega]
  simp [List.getD,hl,hj]
 ·have e1:=h j hj
  rw [List.getD,List.getElem?_set_ne (by omega:n - 1 - k≠j),←List.getD,e1]
  by_cases c:n - 1 - j<k
  ·rw [if_pos c,if_pos (by omega)]
  ·rw [if_neg c,if_neg (by omega)]
theorem bend' {l L:List Nat} {n k:Nat} (hk:n≤k∨l.length≤k / 4) (h:∀ j,j<n→L.getD j 0=if n - 1 - j<k then byteAt l (n - 1 - j) else 0):∀ j,j<n→L.getD j 0=byteAt l (n - 1 - j):=by
 intro j hj
 rw [h j hj]
 by_cases c:n - 1 - j<k
 ·rw [if_pos c]
 ·rw [if_neg c,byteAt_far]
  rcases hk with hk | hk
  ·omega
  ·omega

theorem tlen_zero (l:List Nat):∀ n j,tlen l n≤j→j<n→l.getD j 0=0
 | 0,j,_,h=>by omega
 | n+1,j,h1,h2=>by
  by_cases e:l.getD n 0=0
  ·rw [tlen_drop l n e] at h1
   rcases Nat.lt_or_ge j n with h | h
   ·exact tlen_zero l n j h1 h
   ·obtain rfl:j=n:=by omega
    exact e
  ·rw [tlen_stay l n e] at h1
   omega
theorem trl_at (l:List Nat) (j:Nat):(trl l).getD j 0=l.getD j 0:=by
 rcases Nat.lt_or_ge j (tlen l l.length) with h | h
 ·rw [trl,List.getD,List.getElem?_take,if_pos h]
  rfl
 ·have e1:(trl l).getD j 0=0:=by rw [List.getD,List.getElem?_eq_none (by rw [trl_length];exact h)];rfl
  rw [e1]
  rcases Nat.lt_or_ge j l.length with h' | h'
  ·exact (tlen_zero l _ j h h').symm
  ·rw [List.getD,List.getElem?_eq_none h'];rfl
/-- The n digits from place o on. -/
def seg (l:List Nat) (o n:Nat):List Nat:=(l.drop o).take n
/-! Division. -/
end Go.Proofs.YtcibjcgipfpniaaGreatDoor
namespace Go.Proofs.YtcibjcgipfpniaaGreatDoor
open Go.RowKit

/-- The slice '.slice A l.length c' reads as the numbers l of kind k; its cells lie below block B. -/
def Rd (k:IntKind) (w:World) (B:Nat) (A:Option Addr) (c:Nat) (l:List Nat):Prop :=
 l.length≤c∧c≤9223372036854775807∧(0<l.length→∃ b off,A=some ⟨b,off,none⟩∧b<B∧∀ j,j<l.length→w.cell? ⟨b,off+j,none⟩=some (.int k ((l.getD j 0:Nat):Int)))

section
variable {k:IntKind} {w w':World} {B B':Nat} {A:Option Addr} {c:Nat} {l:List Nat}
theorem Rd.at_ (h:Rd k w B A c l) {i:Nat} (hi:i<l.length):∃ b off x,A=some ⟨b,off,none⟩∧b<B∧w.cell? ⟨b,off+i,none⟩=some (.int k ((x:Nat):Int))∧Hid (x=l.getD i 0):=by
 obtain ⟨b,off,e,hb,hc⟩:=h.2.2 (by omega)
 exact ⟨b,off,_,e,hb,hc i hi,rfl⟩
theorem Rd.nil_ (k:IntKind) (w:World) (B:Nat):Rd k w B none 0 []:=⟨by simp,by omega,fun h=>by simp at h⟩
theorem Rd.keep (h:Rd k w B A c l) (hk:∀ b o,b<B→w'.cell? ⟨b,o,none⟩=w.cell? ⟨b,o,none⟩):Rd k w' B A c l :=
 ⟨h.1,h.2.1,fun hn=>by
  obtain ⟨b,off,e,hb,hc⟩:=h.2.2 hn
  exact ⟨b,off,e,hb,fun j hj=>(hk _ _ hb).trans (hc j hj)⟩⟩
theorem Rd.more (h:Rd k w B A c l) (hB:B≤B'):Rd k w B' A c l :=
 ⟨h.1,h.2.1,fun hn=>by
  obtain ⟨b,off,e,hb,hc⟩:=h.2.2 hn
  exact ⟨b,off,e,by omega,hc⟩⟩
theorem Rd.under (h:Rd k w B A c l) (hb:Below B w w'):Rd k w' B A c l:=h.keep fun b o hlt=>hb.cell (p:=⟨b,o,none⟩) hlt
theorem Rd.alloc (h:Rd k w B A c l) (hB:B≤w.heap.size) (o:Obj):Rd k (w.alloc o) B A c l:=h.keep fun b o' hb=>World.cell?_alloc_past _ b o' (by omega)
theorem Rd.drewN (h:Rd k w B A c l) (n:Nat):Rd k (w.drewN n) B A c l:=h
theorem Rd.cut (h:Rd k w B A c l) (n:Nat):Rd k w B A c (l.take n):=by
 refine ⟨by have:=h.1;simp;omega,h.2.1,fun hn=>?_⟩
 have hl:0<l.length:=by simp at hn;omega
 obtain ⟨b,off,e,hb,hc⟩:=h.2.2 hl
 refine ⟨b,off,e,hb,fun j hj=>?_⟩
 have hj':j<n∧j<l.length:=by simp at hj;omega
 rw [hc j hj'.2]
 simp [List.getD,hj'.1]
end

/-- Numbers as cells. -/
def nums (k:IntKind) (l:List Nat):Array Value:=(l.map fun x:Nat=>Value.int k (x:Int)).toArray
theorem nums_at (k:IntKind) (l:List Nat) {i:Nat} (h:i<l.length):(nums k l)[i]?=some (.int k ((l.getD i 0:Nat):Int)):=by
 simp [nums,List.getD,h]
theorem nums_set (k:IntKind) (l:List Nat) (i x:Nat):(nums k l).setIfInBounds i (.int k (x:Int))=nums k (l.set i x):=by
 simp [nums,List.map_set]
theorem nums_noughts (k:IntKind) (n:Nat):nums k (List.replicate n 0)=madeCells #[.int k 0] n:=by
 apply Array.ext'
 simp only [nums,madeCells,List.map_replicate]
 apply List.ext_getElem <;> simp [Nat.mod_one]

/-- Block g is the numbers l. -/
def Row (k:IntKind) (T:TypeId) (w:World) (g:Nat) (l:List Nat):Prop:=Holds w g T (nums k l)
section
variable {k:IntKind} {T:TypeId} {w w':World} {g:Nat} {l:List Nat}
theorem Row.cell (h:Row k T w g l) {i:Nat} (hi:i<l.length):w.cell? ⟨g,i,none⟩=some (.int k ((l.getD i 0:Nat):Int)):=(Holds.cell h i).trans (nums_at k l hi)
theorem Row.open_ (h:Row k T w g l):∀ i,w.frozen? ⟨g,i,none⟩=false:=Holds.open_ h
theorem Row.set (h:Row k T w g l) (i x:Nat):Row k T (w.setCell ⟨g,i,none⟩ (.int k (x:Int))) g (l.set i x):=by
 have:=Holds.stored h i (.int k (x:Int))
 rw [nums_set] at this
 exact this
theorem Row.rd (h:Row k T w g l) {n c:Nat} (hn:n≤l.length) (hc:n≤c) (h63:c≤9223372036854775807):Rd k w (g+1) (some ⟨g,0,none⟩) c (l.take n):=by
 refine ⟨by simp;omega,h63,fun _=>⟨g,0,rfl,by omega,fun j hj=>?_⟩⟩
 have hj':j<n:=by simp at hj;omega
 rw [Nat.zero_add,h.cell (by omega)]
 simp [List.getD,hj']
end
end Go.Proofs.YtcibjcgipfpniaaGreatDoor
namespace Go.Proofs.YtcibjcgipfpniaaGreatDoor
open Go.RowKit

def vals (k:IntKind) (l:List Nat):List Value:=l.map fun x:Nat=>Value.int k (x:Int)
theorem vals_length (k:IntKind) (l:List Nat):(vals k l).length=l.length:=by simp [vals]
theorem vals_append (k:IntKind) (l m:List Nat):vals k l ++ vals k m=vals k (l ++ m):=by simp [vals]
theorem vals_one (k:IntKind) (l:List Nat):∀ u∈vals k l,u.oneCell'=true:=by
 intro u hu
 obtain ⟨x,_,rfl⟩:=List.mem_map.1 hu
 rfl
theorem vals_at (k:IntKind) (l:List Nat) {i:Nat} (h:i<l.length):(vals k l)[i]?=some (.int k ((l.getD i 0:Nat):Int)):=by
 simp [vals,List.getD,h]

/-- The slice '.slice A l.length c' is the call's own from block B on: it holds the numbers l. -/
def Own (k:IntKind) (e:TypeId) (w:World) (B:Nat) (A:Option Addr) (c:Nat) (l:List Nat):Prop :=
 w.ownsRow B e 1 (.slice A l.length c) l.length (vals k l)

/-- Its block. -/
def blockOf (A:Option Addr):Option Nat:=A.map (·.block)
theorem ownBlock_eq (A:Option Addr) (n c:Nat):Value.ownBlock (.slice A n c)=blockOf A:=by cases A <;> rfl

section
variable {k:IntKind} {e:TypeId} {w w':World} {B:Nat} {A:Option Addr} {c:Nat} {l:List Nat}
theorem Own.nil (k:IntKind) (e:TypeId) (w:World) (B:Nat):Own k e w B none 0 []:=World.ownsRow_nil w B e 1
theorem Own.alloc (h:Own k e w B A c l) (o:Obj):Own k e (w.alloc o) B A c l:=World.ownsRow.alloc h o
theorem Own.drewN (h:Own k e w B A c l) (n:Nat):Own k e (w.drewN n) B A c l:=h
theorem Own.block (h:Own k e w B A c l) {g:Nat} (hg:blockOf A=some g):B≤g∧g<w.heap.size:=World.ownsRow.lt h g (by rwa [ownBlock_eq])
theorem Own.of_row {g:Nat} (hB:B≤g) (hc:l.length≤9223372036854775807) (h:Holds w g e (nums k l)):Own k e w B (some ⟨g,0,none⟩) l.length l :=
 ⟨by simp [vals],.inr ⟨g,l.length,nums k l,rfl,hB,h,Nat.le_refl _,hc,by simp [nums],by rw [Nat.mul_one];simp only [nums,vals];exact List.take_of_length_le (by simp)⟩⟩
theorem Own.under {B':Nat} (h:Own k e w B A c l) (hb:Below B' w w') (hlt:∀ g,blockOf A=some g→g<B'):Own k e w' B A c l:=by
 refine ⟨h.1,?_⟩
 rcases h.2 with hn | ⟨g,cap,cur,hv,hBg,hgg,rest⟩
 ·exact .inl hn
 ·refine .inr ⟨g,cap,cur,hv,hBg,?_,rest⟩
  injection hv with hA _ _
  rw [hb.block g (hlt g (by rw [hA];rfl))]
  exact hgg
theorem Own.aside (h:Own k e w B A c l) {p:Addr} (hp:blockOf A≠some p.block) (u:Value):Own k e (w.setCell p u) B A c l:=by
 refine ⟨h.1,?_⟩
 rcases h.2 with hn | ⟨g,cap,cur,hv,hBg,hgg,rest⟩
 ·exact .inl hn
 ·refine .inr ⟨g,cap,cur,hv,hBg,?_,rest⟩
  injection hv with hA _ _
  exact (Below.heap_setCell w p u g (fun e=>hp (by rw [hA,←e];rfl))).trans hgg
theorem Own.rd (h:Own k e w B A c l):Rd k w w.heap.size A c l:=by
 rcases h.2 with ⟨hv,hn⟩ | ⟨g,cap,cur,hv,hBg,hgg,hle,hm,hs,ht⟩
 ·injection hv with hA _ hc
  subst hA;subst hc
  refine ⟨by omega,by omega,fun h0=>by omega⟩
 ·injection hv with hA _ hc
  subst hA;subst hc
  refine ⟨hle,hm,fun h0=>⟨g,0,rfl,(Array.getElem?_eq_some_iff.1 hgg).1,fun j hj=>?_⟩⟩
  rw [Nat.zero_add,cell_of_row w g j cur e (0,0) hgg]
  have h1:=vals_at k l hj
  rw [←ht,Nat.mul_one,List.getElem?_take_of_lt hj,Array.getElem?_toList] at h1
  exact h1
/-- It lies in no block that is known whole and of another element type. -/
theorem Own.apart (h:Own k e w B A c l) {g:Nat} {t:TypeId} {cs:Array Value} (hg:Holds w g t cs) (hne:e≠t):blockOf A≠some g:=by
 rcases h.2 with ⟨hv,_⟩ | ⟨g',cap,cur,hv,hBg,hgg,_⟩
 ·injection hv with hA _ _
  subst hA;simp [blockOf]
 ·injection hv with hA _ _
  subst hA
  intro he
  have:g'=g:=by simpa [blockOf] using he
  subst this
  have hg':w.heap[g']?=some (.cells cs t (0,0)):=hg
  rw [hgg] at hg'
  injection hg' with h1
  injection h1 with _ h2 _
  exact hne h2
end

section
variable {P:Program} (w:World) {ops:Array Oper} {rest:List Oper} {o:Oper} {a:Act} {Q:Exit→Act→World→Prop}
/-- append of a literal row's numbers. -/
theorem wpList_push (hgd:o.guard=none) (s x:Operand) (t:TypeId) (ho:o.op = .call { callee:=.builtin .append,args:=#[s,x],argTypes:=#[t,t] })
  (k:IntKind) (B:Nat) (e:TypeId) (bytes:Nat) (ht:P.underlying t=some (.slice e)) (hi:(P.info? e).map (fun i=>(i.zero,i.size,i.bytes))=some (some (.int k 0),1,bytes))
  (A:Option Addr) (n c:Nat) (l:List Nat) (hs:a.eval s = .slice A n c) (hn:l.length=n) (hown:Own k e w B A c l)
  (g m c2:Nat) (news:List Nat) (hx:a.eval x = .slice (some ⟨g,0,none⟩) m c2) (hm:news.length=m) (hg:Holds w g e (nums k news)) (hm0:0<m) (hsz:n+m≤100000000) (hby:bytes≤8) (hB:B≤w.heap.size)
  (hK:∀ g' c' w',Own k e w' B (some ⟨g',0,none⟩) c' (l ++ news)→w.grownBy w' (blockOf A)→(blockOf A=some g'∨g'=w.heap.size)→wpList P ops Q rest (a.put o.dst (.slice (some ⟨g',0,none⟩) (n+m) c')) w') :
  wpList P ops Q (o :: rest) a w:=by
 subst hn;subst hm
 obtain ⟨i,hi',hz,hsize,hbytes⟩:=info_parts hi
 refine wpList_append_lies w hgd s x t ho B e i (.int k 0) 1 bytes ht hi' hz hsize hbytes rfl (by omega) (.slice A l.length c) l.length (vals k l) hs hown ⟨g,0,none⟩ news.length c2 (vals k news) hx (by rw [vals_length];omega)
  (fun j u hu=>World.news_of_block (cs:=nums k news) hg j u (by simpa [nums,vals] using hu)) (vals_one k news) hm0 (by unfold maxLen;omega)
  (Nat.le_trans (Nat.mul_le_mul hsz hby) (by omega)) hB w.heap.size rfl ?_
 intro g' cap w' hown' hgr hat hlt
 rw [ownBlock_eq] at hgr hat
 refine hK g' cap w' ?_ hgr hat
 unfold Own
 rw [List.length_append,←vals_append]
 exact hown'
/-- The same at a step of a region that draws its order. -/
theorem step_push {K:Act→World→Prop} {E:Prop} (hgd:o.guard=none) (s x:Operand) (t:TypeId) (ho:o.op = .call { callee:=.builtin .append,args:=#[s,x],argTypes:=#[t,t] })
  (k:IntKind) (B:Nat) (e:TypeId) (bytes:Nat) (ht:P.underlying t=some (.slice e)) (hi:(P.info? e).map (fun i=>(i.zero,i.size,i.bytes))=some (some (.int k 0),1,bytes))
  (A:Option Addr) (n c:Nat) (l:List Nat) (hs:a.eval s = .slice A n c) (hn:l.length=n) (hown:Own k e w B A c l)
  (g m c2:Nat) (news:List Nat) (hx:a.eval x = .slice (some ⟨g,0,none⟩) m c2) (hm:news.length=m) (hg:Holds w g e (nums k news)) (hm0:0<m) (hsz:n+m≤100000000) (hby:bytes≤8) (hB:B≤w.heap.size)
  (hK:∀ g' c' w',Own k e w' B (some ⟨g',0,none⟩) c' (l ++ news)→w.grownBy w' (blockOf A)→(blockOf A=some g'∨g'=w.heap.size)→K (a.put o.dst (.slice (some ⟨g',0,none⟩) (n+m) c')) w') :
  if Region.wanted o (yielded ops a.tmps)=true then Oper.wp P o a w K Q else E:=by
 subst hn;subst hm
 obtain ⟨i,hi',hz,hsize,hbytes⟩:=info_parts hi
 refine step_append_lies w hgd s x t ho B e i (.int k 0) 1 bytes ht hi' hz hsize hbytes rfl (by omega) (.slice A l.length c) l.length (vals k l) hs hown ⟨g,0,none⟩ news.length c2 (vals k news) hx (by rw [vals_length];omega)
  (fun j u hu=>World.news_of_block (cs:=nums k news) hg j u (by simpa [nums,vals] using hu)) (vals_one k news) hm0 (by unfold maxLen;omega)
  (Nat.le_trans (Nat.mul_le_mul hsz hby) (by omega)) hB w.heap.size rfl ?_
 intro g' cap w' hown' hgr hat hlt
 rw [ownBlock_eq] at hgr hat
 refine hK g' cap w' ?_ hgr hat
 unfold Own
 rw [List.length_append,←vals_append]
 exact hown'
end
end Go.Proofs.YtcibjcgipfpniaaGreatDoor
namespace Go.Proofs.YtcibjcgipfpniaaGreatDoor
open Go.RowKit
set_option linter.unusedVariables false
set_option linter.unusedSimpArgs false

/-- A thing. -/
inductive Tr where
 | mk (tag:Nat) (body:List Nat) (kids:List Tr)
/-- A thing, and where it lies. -/
inductive Lt where
 | mk (tag:Nat) (ba:Option Addr) (bc:Nat) (body:List Nat) (ka:Option Addr) (kc:Nat) (kids:List Lt)
instance:Inhabited Tr:=⟨.mk 0 [] []⟩
instance:Inhabited Lt:=⟨.mk 0 none 0 [] none 0 []⟩
def Tr.tag:Tr→Nat | .mk t _ _=>t
def Tr.body:Tr→List Nat | .mk _ b _=>b
def Tr.kids:Tr→List Tr | .mk _ _ k=>k
def Lt.tag:Lt→Nat | .mk t _ _ _ _ _ _=>t
def Lt.ba:Lt→Option Addr | .mk _ a _ _ _ _ _=>a
def Lt.bc:Lt→Nat | .mk _ _ c _ _ _ _=>c
def Lt.body:Lt→List Nat | .mk _ _ _ b _ _ _=>b
def Lt.ka:Lt→Option Addr | .mk _ _ _ _ a _ _=>a
def Lt.kc:Lt→Nat | .mk _ _ _ _ _ c _=>c
def Lt.kids:Lt→List Lt | .mk _ _ _ _ _ _ k=>k
mutual
/-- What it is, wherever it lies. -/
def Lt.t:Lt→Tr
 | .mk tag _ _ body _ _ kids=>.mk tag body (Lt.ts kids)
def Lt.ts:List Lt→List Tr
 | []=>[]
 | x :: r=>x.t :: Lt.ts r
end
theorem Lt.ts_map:∀ l:List Lt,Lt.ts l=l.map Lt.t
 | []=>by simp [Lt.ts]
 | x :: r=>by rw [Lt.ts,Lt.ts_map r,List.map_cons]
theorem Lt.t_mk {tag:Nat} {ba:Option Addr} {bc:Nat} {body:List Nat} {ka:Option Addr} {kc:Nat} {kids:List Lt}:(Lt.mk tag ba bc body ka kc kids).t = .mk tag body (kids.map Lt.t):=by rw [Lt.t,Lt.ts_map]
theorem Lt.ts_at {l:List Lt} {j:Nat} (h:j<l.length):(l.map Lt.t).getD j default=(l.getD j default).t:=by simp [List.getD,h]
/-- Its cells. -/
def Lt.cells (t:Lt):Array Value:=#[.int .u8 (t.tag:Int),.slice t.ba t.body.length t.bc,.slice t.ka t.kids.length t.kc]
def Lt.val (t:Lt):Value:=.agg t.cells
/-- The kids' cells, in a row. -/
def RowT (w:World) (B:Nat) (A:Option Addr) (c:Nat) (l:List Lt):Prop :=
 l.length≤c∧c≤9223372036854775807∧(0<l.length→∃ b off,A=some ⟨b,off,none⟩∧b<B∧∀ j,j<l.length→w.cell? ⟨b,off+j*3,none⟩=some (.int .u8 ((l.getD j default).tag:Int)) ∧
  w.cell? ⟨b,off+j*3+1,none⟩=some (.slice (l.getD j default).ba (l.getD j default).body.length (l.getD j default).bc)∧w.cell? ⟨b,off+j*3+2,none⟩=some (.slice (l.getD j default).ka (l.getD j default).kids.length (l.getD j default).kc))
mutual
/-- It lies so in memory, below block B. -/
def TrAt (w:World) (B:Nat):Lt→Prop
 | .mk tag ba bc body ka kc kids=>tag<256∧Rd .u8 w B ba bc body∧(∀ x∈body,x<256)∧RowT w B ka kc kids∧TrsAt w B kids
def TrsAt (w:World) (B:Nat):List Lt→Prop
 | []=>True
 | x :: r=>TrAt w B x∧TrsAt w B r
end
theorem trsAt_iff {w:World} {B:Nat}:∀ {l:List Lt},TrsAt w B l↔∀ x∈l,TrAt w B x
 | []=>by simp [TrsAt]
 | x :: r=>by rw [TrsAt,trsAt_iff (l:=r)];simp
theorem trAt_mk {w:World} {B:Nat} {tag:Nat} {ba:Option Addr} {bc:Nat} {body:List Nat} {ka:Option Addr} {kc:Nat} {kids:List Lt} :
  TrAt w B (.mk tag ba bc body ka kc kids)↔tag<256∧Rd .u8 w B ba bc body∧(∀ x∈body,x<256)∧RowT w B ka kc kids∧∀ j,j<kids.length→TrAt w B (kids.getD j default):=by
 rw [TrAt,trsAt_iff]
 refine and_congr Iff.rfl (and_congr Iff.rfl (and_congr Iff.rfl (and_congr Iff.rfl ⟨fun h j hj=>h _ (by simp [List.getD,hj]),fun h x hx=>?_⟩)))
 obtain ⟨j,hj,rfl⟩:=List.getElem_of_mem hx
 have:=h j hj
 simpa [List.getD,hj] using this
theorem RowT.under {w w':World} {B:Nat} {A:Option Addr} {c:Nat} {l:List Lt} (h:RowT w B A c l) (hb:Below B w w'):RowT w' B A c l :=
 ⟨h.1,h.2.1,fun hn=>by
  obtain ⟨b,off,e,hlt,hc⟩:=h.2.2 hn
  exact ⟨b,off,e,hlt,fun j hj=>⟨(hb.cell (p:=⟨b,_,none⟩) hlt).trans (hc j hj).1,(hb.cell (p:=⟨b,_,none⟩) hlt).trans (hc j hj).2.1,(hb.cell (p:=⟨b,_,none⟩) hlt).trans (hc j hj).2.2⟩⟩⟩
theorem RowT.more {w:World} {B B':Nat} {A:Option Addr} {c:Nat} {l:List Lt} (h:RowT w B A c l) (hB:B≤B'):RowT w B' A c l :=
 ⟨h.1,h.2.1,fun hn=>by
  obtain ⟨b,off,e,hlt,hc⟩:=h.2.2 hn
  exact ⟨b,off,e,by omega,hc⟩⟩
mutual
/-- How great it is, for inductions. -/
def Lt.sz:Lt→Nat
 | .mk _ _ _ _ _ _ kids=>1+Lt.szs kids
def Lt.szs:List Lt→Nat
 | []=>0
 | x :: r=>x.sz+Lt.szs r
end
theorem Lt.sz_le:∀ {l:List Lt} {x:Lt},x∈l→x.sz≤Lt.szs l
 | [],_,h=>by cases h
 | y :: r,x,h=>by
  rw [Lt.szs]
  rcases List.mem_cons.1 h with rfl | h
  ·omega
  ·have:=Lt.sz_le h
   omega
theorem lt_kid {tag:Nat} {ba:Option Addr} {bc:Nat} {body:List Nat} {ka:Option Addr} {kc:Nat} {kids:List Lt} {j:Nat} (h:j<kids.length):(kids.getD j default).sz<(Lt.mk tag ba bc body ka kc kids).sz:=by
 have h1:kids.getD j default∈kids:=by simp [List.getD,h]
 have h2:=Lt.sz_le h1
 rw [Lt.sz]
 omega
theorem TrAt.under {w w':World} {B:Nat} (hb:Below B w w'):∀ (N:Nat) {t:Lt},t.sz<N→TrAt w B t→TrAt w' B t
 | 0,_,h,_=>by omega
 | N+1,.mk tag ba bc body ka kc kids,h,hr=>by
  rw [trAt_mk] at hr ⊢
  obtain ⟨h1,h2,h3,h4,h5⟩:=hr
  exact ⟨h1,h2.under hb,h3,h4.under hb,fun j hj=>TrAt.under hb N (by have:=lt_kid (tag:=tag) (ba:=ba) (bc:=bc) (body:=body) (ka:=ka) (kc:=kc) hj;omega) (h5 j hj)⟩
theorem TrAt.under' {w w':World} {B:Nat} {t:Lt} (h:TrAt w B t) (hb:Below B w w'):TrAt w' B t:=TrAt.under hb (t.sz+1) (Nat.lt_succ_self _) h
theorem TrAt.more {w:World} {B B':Nat} (hB:B≤B'):∀ (N:Nat) {t:Lt},t.sz<N→TrAt w B t→TrAt w B' t
 | 0,_,h,_=>by omega
 | N+1,.mk tag ba bc body ka kc kids,h,hr=>by
  rw [trAt_mk] at hr ⊢
  obtain ⟨h1,h2,h3,h4,h5⟩:=hr
  exact ⟨h1,h2.more hB,h3,h4.more hB,fun j hj=>TrAt.more hB N (by have:=lt_kid (tag:=tag) (ba:=ba) (bc:=bc) (body:=body) (ka:=ka) (kc:=kc) hj;omega) (h5 j hj)⟩
theorem TrAt.more' {w:World} {B B':Nat} {t:Lt} (h:TrAt w B t) (hB:B≤B'):TrAt w B' t:=TrAt.more hB (t.sz+1) (Nat.lt_succ_self _) h

/-! How many things it is. -/
mutual
def Tr.count:Tr→Nat
 | .mk _ _ kids=>1+Tr.counts kids
def Tr.counts:List Tr→Nat
 | []=>0
 | x :: r=>x.count+Tr.counts r
end
end Go.Proofs.YtcibjcgipfpniaaGreatDoor
namespace Go.Proofs.YtcibjcgipfpniaaGreatDoor
open Go.RowKit
set_option linter.unusedVariables false

/-- Bytes as a text. -/
def str (l:List Nat):ByteArray:=⟨(l.map UInt8.ofNat).toArray⟩
theorem str_inj {l l':List Nat} (h:∀ x∈l,x<256) (h':∀ x∈l',x<256) (e:str l=str l'):l=l':=by
 have e1:l.map UInt8.ofNat=l'.map UInt8.ofNat:=by
  have:=congrArg (fun b:ByteArray=>b.data.toList) e
  simpa [str] using this
 have e2:(l.map UInt8.ofNat).map UInt8.toNat=(l'.map UInt8.ofNat).map UInt8.toNat:=by rw [e1]
 have e3:∀ m:List Nat,(∀ x∈m,x<256)→(m.map UInt8.ofNat).map UInt8.toNat=m:=by
  intro m hm
  rw [List.map_map]
  conv=>rhs;rw [←List.map_id m]
  apply List.map_congr_left
  intro x hx
  simp [Nat.mod_eq_of_lt (hm x hx)]
 rw [e3 l h,e3 l' h'] at e2
 exact e2
theorem conv_str {w:World} {B:Nat} {A:Option Addr} {c n:Nat} {l:List Nat} (hr:Rd .u8 w B A c l) (hn:l.length=n) (h:∀ x∈l,x<256):(convert 24 9 (.slice A n c)).run Tryz.prog w = .ok (.string (str l)) w:=by
 subst hn
 rcases Nat.eq_zero_or_pos l.length with h0 | h0
 ·obtain rfl:=List.eq_nil_of_length_eq_zero h0
  rcases A with _ | a
  ·exact run_convert_bytes_nil w 24 5 Tryz.underlying24 Tryz.underlying5 0 c 9 Tryz.underlying9
  ·exact run_convert_bytes_back w 24 9 5 a c [] Tryz.underlying24 Tryz.underlying5 Tryz.underlying9 (fun j hj=>by simp at hj)
 ·obtain ⟨b,off,rfl,hb,hc⟩:=hr.2.2 h0
  have hh:=run_convert_bytes_back w 24 9 5 ⟨b,off,none⟩ c (l.map UInt8.ofNat) Tryz.underlying24 Tryz.underlying5 Tryz.underlying9 (fun j hj=>by
   have hj':j<l.length:=by simpa using hj
   have e:=hc j hj'
   have ha:(⟨b,off,none⟩:Addr).add j=⟨b,off+j,none⟩:=by unfold Addr.add;split <;> simp_all
   rw [ha,e]
   have hx:=h l[j] (List.getElem_mem hj')
   simp [List.getD,hj',Nat.mod_eq_of_lt hx])
  rwa [List.length_map] at hh

/-- Bytes that are such. -/
def Oct8 (l:List Nat):Prop:=∀ x∈l,x<256

theorem str_ne {l l':List Nat} (ho:Oct8 l) (ho':Oct8 l') (h:l≠l'):((str l).toList == (str l').toList)=false:=by
 rw [beq_eq_false_iff_ne,Lib.toList_data,Lib.toList_data]
 intro e
 exact h (str_inj ho ho' (by unfold str at e ⊢;simp at e;simp [e]))
theorem str_same (l:List Nat):((str l).toList == (str l).toList)=true:=beq_self_eq_true _

set_option maxRecDepth 100000 in
theorem equal_yes (w:World) (B B':Nat) (A A':Option Addr) (c c' n:Nat) (l:List Nat) (hn:l.length=n) (hr:Rd .u8 w B A c l) (hr':Rd .u8 w B' A' c' l) (ho:Oct8 l) :
  Calls Tryz.prog 54 #[.slice A n c,.slice A' n c'] w fun e w'=>e = .returned (.bool true)∧w=w':=by
 have h1:=conv_str hr hn ho
 have h2:=conv_str hr' hn ho
 clear hn
 generalize str l=s at *
 go_enter Tryz.func54,Tryz.ntmps54
 go_wp2_with fail
 go_ret
 exact ⟨by simp,rfl⟩
set_option maxRecDepth 100000 in
theorem equal_no (w:World) (B B':Nat) (A A':Option Addr) (c c' n n':Nat) (l l':List Nat) (hn:l.length=n) (hn':l'.length=n') (hr:Rd .u8 w B A c l) (hr':Rd .u8 w B' A' c' l') (ho:Oct8 l) (ho':Oct8 l') (hne:l≠l') :
  Calls Tryz.prog 54 #[.slice A n c,.slice A' n' c'] w fun e w'=>e = .returned (.bool false)∧w=w':=by
 have h1:=conv_str hr hn ho
 have h2:=conv_str hr' hn' ho'
 have h4:=str_ne ho ho' hne
 clear hn hn' hne
 generalize str l=s at *
 generalize str l'=s' at *
 go_enter Tryz.func54,Tryz.ntmps54
 go_wp2_with fail
 go_ret
 exact ⟨rfl,rfl⟩

end Go.Proofs.YtcibjcgipfpniaaGreatDoor
namespace Go.Proofs.YtcibjcgipfpniaaGreatDoor
open Go.RowKit
set_option linter.unusedVariables false
set_option linter.unusedSimpArgs false

theorem ret_int {k:IntKind} {a b:Int} (h:a=b):Ending.returned (.int k a) = .returned (.int k b):=by rw [h]
theorem ret_bool {a b:Bool} (h:a=b):Ending.returned (.bool a) = .returned (.bool b):=by rw [h]
theorem below_drewN {B:Nat} {a w:World} (h:Below B a w) (n:Nat):Below B a (w.drewN n):=⟨h.os,h.tape,h.output,h.size,h.block⟩
theorem not_true {v:Bool} (h:v=true→False):v=false:=by cases v;rfl;exact (h rfl).elim
def RelC (w:World) (cs:Array Value) (l:List Tr) (n:Nat) (v i:Value) (wr:World):Prop :=
 ∃ k:Nat,k≤n∧i = .int .i64 k∧v = .int .i64 (1+(Tr.counts (l.take k):Int))∧Hid (Below w.heap.size w wr)∧Hid (Holds wr w.heap.size 32 cs)
end Go.Proofs.YtcibjcgipfpniaaGreatDoor
namespace Go.Proofs.YtcibjcgipfpniaaGreatDoor
open Go.RowKit
set_option linter.unusedVariables false
set_option linter.unusedSimpArgs false

def RelS (w:World) (ca cb:Array Value) (la lb:List Tr) (n:Nat) (i:Value) (wr:World):Prop :=
 ∃ k:Nat,k≤n∧i = .int .i64 k∧Hid (∀ j,j<k→la.getD j default=lb.getD j default)∧Hid (Below w.heap.size w wr)∧Hid (Holds wr w.heap.size 32 ca)∧Hid (Holds wr (w.heap.size+1) 32 cb)

set_option maxRecDepth 100000 in
set_option maxHeartbeats 4000000 in
theorem same'_N:∀ (N:Nat) (a b:Lt) (w:World) (B:Nat),a.sz<N→TrAt w B a→TrAt w B b→B≤w.heap.size→∀ (v:Bool),(v=true↔a.t=b.t) →
  Calls Tryz.prog 10 #[a.val,b.val] w fun e w'=>e = .returned (.bool v)∧Below w.heap.size w w':=by
 intro N
 induction N with
 | zero=>intro a b w B h;omega
 | succ N ih =>
  intro a b w B hN hr hs hB v hv
  obtain ⟨at0,aba,abc,abody,aka,akc,akids⟩:=a
  obtain ⟨bt0,bba,bbc,bbody,bka,bkc,bkids⟩:=b
  rw [trAt_mk] at hr hs
  obtain ⟨ht1,hab,hao,harow,hakids⟩:=hr
  obtain ⟨ht2,hbb,hbo,hbrow,hbkids⟩:=hs
  rw [Lt.t_mk,Lt.t_mk] at hv
  have HV:Hid (v=true↔at0=bt0∧abody=bbody∧akids.map Lt.t=bkids.map Lt.t):=Lib.hid (by rw [hv];exact ⟨fun e=>by injection e with e1 e2 e3;exact ⟨e1,e2,e3⟩,fun ⟨e1,e2,e3⟩=>by rw [e1,e2,e3]⟩)
  clear hv
  obtain ⟨an,han⟩:∃ n,akids.length=n:=⟨_,rfl⟩
  obtain ⟨bn,hbn⟩:∃ n,bkids.length=n:=⟨_,rfl⟩
  obtain ⟨abl,habl⟩:∃ n,abody.length=n:=⟨_,rfl⟩
  obtain ⟨bbl,hbbl⟩:∃ n,bbody.length=n:=⟨_,rfl⟩
  have hlca:an≤akc:=by have:=harow.1;omega
  have hc63a:=harow.2.1
  have hlcb:bn≤bkc:=by have:=hbrow.1;omega
  have hc63b:=hbrow.2.1
  have hbla:abl≤abc:=by have:=hab.1;omega
  have hb63a:=hab.2.1
  have hblb:bbl≤bbc:=by have:=hbb.1;omega
  have hb63b:=hbb.2.1
  have HAROW:Hid (∀ W,Below w.heap.size w W→RowT W B aka akc akids):=Lib.hid fun W hW=>harow.under (hW.mono hB)
  have HBROW:Hid (∀ W,Below w.heap.size w W→RowT W B bka bkc bkids):=Lib.hid fun W hW=>hbrow.under (hW.mono hB)
  have HAB:Hid (∀ W,Below w.heap.size w W→Rd .u8 W B aba abc abody):=Lib.hid fun W hW=>hab.under (hW.mono hB)
  have HBB:Hid (∀ W,Below w.heap.size w W→Rd .u8 W B bba bbc bbody):=Lib.hid fun W hW=>hbb.under (hW.mono hB)
  have HIH:Hid (∀ k,k<an→k<bn→∀ W,Below w.heap.size w W→∀ u:Bool,(u=true↔(akids.map Lt.t).getD k default=(bkids.map Lt.t).getD k default)→Calls Tryz.prog 10 #[(akids.getD k default).val,(bkids.getD k default).val] W fun e w'=>e = .returned (.bool u)∧Below W.heap.size W w'):=Lib.hid fun k hk hk2 W hW u hu=>by
   rw [Lt.ts_at (by omega),Lt.ts_at (by omega)] at hu
   refine ih _ _ W B ?_ ((hakids k (by omega)).under' (hW.mono hB)) ((hbkids k (by omega)).under' (hW.mono hB)) (by have:=hW.size;omega) u hu
   have:=lt_kid (tag:=at0) (ba:=aba) (bc:=abc) (body:=abody) (ka:=aka) (kc:=akc) (kids:=akids) (j:=k) (by omega)
   omega
  have HAN:=Lib.hid han
  have HBN:=Lib.hid hbn
  have HABL:=Lib.hid habl
  have HBBL:=Lib.hid hbbl
  have HAO:=Lib.hid hao
  have HBO:=Lib.hid hbo
  have hva:(Lt.mk at0 aba abc abody aka akc akids).val = .agg #[.int .u8 (at0:Int),.slice aba abl abc,.slice aka an akc]:=by rw [←han,←habl];rfl
  have hvb:(Lt.mk bt0 bba bbc bbody bka bkc bkids).val = .agg #[.int .u8 (bt0:Int),.slice bba bbl bbc,.slice bka bn bkc]:=by rw [←hbn,←hbbl];rfl
  rw [hva,hvb]
  clear hN ih harow hbrow hakids hbkids hva hvb han hbn habl hbbl hab hbb hao hbo
  have hq1:Below w.heap.size w (w.alloc (.cells #[.int .u8 (at0:Int),.slice aba abl abc,.slice aka an akc] 32)):=(Below.refl _ _).alloc (Nat.le_refl _) _
  have hq0:Hid (Below w.heap.size w ((w.alloc (.cells #[.int .u8 (at0:Int),.slice aba abl abc,.slice aka an akc] 32)).alloc (.cells #[.int .u8 (bt0:Int),.slice bba bbl bbc,.slice bka bn bkc] 32))):=Lib.hid (hq1.alloc (by simp) _)
  have ha0:Hid (Holds ((w.alloc (.cells #[.int .u8 (at0:Int),.slice aba abl abc,.slice aka an akc] 32)).alloc (.cells #[.int .u8 (bt0:Int),.slice bba bbl bbc,.slice bka bn bkc] 32)) w.heap.size 32 #[.int .u8 (at0:Int),.slice aba abl abc,.slice aka an akc]):=Lib.hid ((Holds.fresh w 32 #[.int .u8 (at0:Int),.slice aba abl abc,.slice aka an akc]).alloc _)
  have hb0:Hid (Holds ((w.alloc (.cells #[.int .u8 (at0:Int),.slice aba abl abc,.slice aka an akc] 32)).alloc (.cells #[.int .u8 (bt0:Int),.slice bba bbl bbc,.slice bka bn bkc] 32)) (w.heap.size+1) 32 #[.int .u8 (bt0:Int),.slice bba bbl bbc,.slice bka bn bkc]):=Lib.hid (by
   have:=Holds.fresh (w.alloc (.cells #[.int .u8 (at0:Int),.slice aba abl abc,.slice aka an akc] 32)) 32 #[.int .u8 (bt0:Int),.slice bba bbl bbc,.slice bka bn bkc]
   rwa [World.size_alloc] at this)
  clear hq1
  have za0:((w.alloc (.cells #[.int .u8 (at0:Int),.slice aba abl abc,.slice aka an akc] 32)).alloc (.cells #[.int .u8 (bt0:Int),.slice bba bbl bbc,.slice bka bn bkc] 32)).cell? ⟨w.heap.size,0,none⟩=some (.int .u8 (at0:Int)):=ha0.out.cell 0
  have za1:((w.alloc (.cells #[.int .u8 (at0:Int),.slice aba abl abc,.slice aka an akc] 32)).alloc (.cells #[.int .u8 (bt0:Int),.slice bba bbl bbc,.slice bka bn bkc] 32)).cell? ⟨w.heap.size,1,none⟩=some (.slice aba abl abc):=ha0.out.cell 1
  have za2:((w.alloc (.cells #[.int .u8 (at0:Int),.slice aba abl abc,.slice aka an akc] 32)).alloc (.cells #[.int .u8 (bt0:Int),.slice bba bbl bbc,.slice bka bn bkc] 32)).cell? ⟨w.heap.size,2,none⟩=some (.slice aka an akc):=ha0.out.cell 2
  have zb0:((w.alloc (.cells #[.int .u8 (at0:Int),.slice aba abl abc,.slice aka an akc] 32)).alloc (.cells #[.int .u8 (bt0:Int),.slice bba bbl bbc,.slice bka bn bkc] 32)).cell? ⟨w.heap.size+1,0,none⟩=some (.int .u8 (bt0:Int)):=hb0.out.cell 0
  have zb1:((w.alloc (.cells #[.int .u8 (at0:Int),.slice aba abl abc,.slice aka an akc] 32)).alloc (.cells #[.int .u8 (bt0:Int),.slice bba bbl bbc,.slice bka bn bkc] 32)).cell? ⟨w.heap.size+1,1,none⟩=some (.slice bba bbl bbc):=hb0.out.cell 1
  have zb2:((w.alloc (.cells #[.int .u8 (at0:Int),.slice aba abl abc,.slice aka an akc] 32)).alloc (.cells #[.int .u8 (bt0:Int),.slice bba bbl bbc,.slice bka bn bkc] 32)).cell? ⟨w.heap.size+1,2,none⟩=some (.slice bka bn bkc):=hb0.out.cell 2
  by_cases hte:at0=bt0
  case neg =>
   have hB1:((at0:Int) != (bt0:Int))=true:=by rw [bne_iff_ne];omega
   have hB2:(at0 != bt0)=true:=by rw [bne_iff_ne];omega
   have HF:Hid (v=false):=Lib.hid (not_true fun e=>hte (HV.out.1 e).1)
   clear hte
   go_enter Tryz.func10,Tryz.ntmps10
   go_wp2_with fail
   go_ret
   exact ⟨ret_bool HF.out.symm,hq0.out⟩
  subst hte
  have hB1:((at0:Int) != (at0:Int))=false:=by rw [bne_eq_false_iff_eq]
  have hB2:(at0 != at0)=false:=by rw [bne_eq_false_iff_eq]
  by_cases hbe:abody=bbody
  case neg =>
   have HF:Hid (v=false):=Lib.hid (not_true fun e=>hbe (HV.out.1 e).2.1)
   have c1:=conv_str (HAB.out _ hq0.out) HABL.out HAO.out
   have c2:=conv_str (HBB.out _ hq0.out) HBBL.out HBO.out
   have c3:=str_ne HAO.out HBO.out hbe
   have c4:((str abody).toList != (str bbody).toList)=true:=by simp [bne,c3]
   generalize str abody=s1 at *
   generalize str bbody=s2 at *
   go_enter Tryz.func10,Tryz.ntmps10
   go_wp2_with fail
   go_wp2_with fail
   go_ret
   exact ⟨ret_bool HF.out.symm,hq0.out⟩
  subst hbe
  obtain rfl:abl=bbl:=by rw [←HABL.out,HBBL.out]
  have c1:=conv_str (HAB.out _ hq0.out) HABL.out HAO.out
  have c2:=conv_str (HBB.out _ hq0.out) HABL.out HAO.out
  have c4:((str abody).toList != (str abody).toList)=false:=by simp [bne]
  generalize str abody=s1 at *
  by_cases hle:an=bn
  case neg =>
   have HF:Hid (v=false):=Lib.hid (not_true fun e=>hle (by have:=congrArg List.length (HV.out.1 e).2.2;simp only [List.length_map] at this;rw [←HAN.out,←HBN.out,this]))
   have hB5:((an:Int) != (bn:Int))=true:=by rw [bne_iff_ne];omega
   have hB6:(an != bn)=true:=by rw [bne_iff_ne];omega
   clear hle
   go_enter Tryz.func10,Tryz.ntmps10
   go_wp2_with fail
   go_ret
   exact ⟨ret_bool HF.out.symm,hq0.out⟩
  subst hle
  have hB5:((an:Int) != (an:Int))=false:=by rw [bne_eq_false_iff_eq]
  have hB6:(an != an)=false:=by rw [bne_eq_false_iff_eq]
  have HALL:Hid ((∀ j,j<an→(akids.map Lt.t).getD j default=(bkids.map Lt.t).getD j default)→v=true):=Lib.hid fun h=>HV.out.2 ⟨rfl,rfl,List.ext_getElem (by rw [List.length_map,List.length_map,HAN.out,HBN.out]) fun j h1 h2=>by
   have h3:=h j (by rw [←HAN.out];simpa using h1)
   simpa [List.getD,show j<akids.length by simpa using h1,show j<bkids.length by simpa using h2] using h3⟩
  have HONE:Hid (∀ j,¬ (akids.map Lt.t).getD j default=(bkids.map Lt.t).getD j default→v=false):=Lib.hid fun j h=>not_true fun e=>h (by rw [(HV.out.1 e).2.2])
  clear HV
  go_enter Tryz.func10,Tryz.ntmps10
  go_wp2_with fail
  try rw [show (w.alloc (.cells #[.int .u8 (at0:Int),.slice aba abl abc,.slice aka an akc] 32)).heap.size=w.heap.size+1 from World.size_alloc _ _]
  generalize ((w.alloc (.cells #[.int .u8 (at0:Int),.slice aba abl abc,.slice aka an akc] 32)).alloc (.cells #[.int .u8 (at0:Int),.slice bba abl bbc,.slice bka an bkc] 32))=W at *
  clear za0 za1 za2 zb0 zb1 zb2
  go_loopw [5] (fun i wr=>RelS w #[.int .u8 (at0:Int),.slice aba abl abc,.slice aka an akc] #[.int .u8 (at0:Int),.slice bba abl bbc,.slice bka an bkc] (akids.map Lt.t) (bkids.map Lt.t) an i wr) (fun i _=>an - (intOf i).toNat)
  case atStart=>exact ⟨0,Nat.zero_le _,rfl,Lib.hid (fun j hj=>by omega),hq0,ha0,hb0⟩
  case round =>
   clear c1 c2 c4
   clear hq0 ha0 hb0
   obtain ⟨k,hk,rfl,HS,HQ,HA,HB⟩:=hrel
   obtain ⟨V,hV⟩:∃ V,V=wr:=⟨_,rfl⟩
   subst hV
   have za2:V.cell? ⟨w.heap.size,2,none⟩=some (.slice aka an akc):=HA.out.cell 2
   have zb2:V.cell? ⟨w.heap.size+1,2,none⟩=some (.slice bka an bkc):=HB.out.cell 2
   by_cases hkn:k<an
   case pos =>
    have hkI:(k:Int)<(an:Int):=by omega
    have hk0:(0:Int)≤(k:Int):=by omega
    obtain ⟨b1,off1,rfl,hb1,hcs1⟩:=(HAROW.out V HQ.out).2.2 (by have:=HAN.out;omega)
    obtain ⟨b2,off2,rfl,hb2,hcs2⟩:=(HBROW.out V HQ.out).2.2 (by have:=HBN.out;omega)
    obtain ⟨p0,p1,p2⟩:=hcs1 k (by have:=HAN.out;omega)
    obtain ⟨q0,q1,q2⟩:=hcs2 k (by have:=HBN.out;omega)
    clear hcs1 hcs2
    by_cases hsk:(akids.map Lt.t).getD k default=(bkids.map Lt.t).getD k default
    case pos =>
     have HC:=Lib.hid (HIH.out k hkn hkn V.drew HQ.out.drew true ⟨fun _=>hsk,fun _=>rfl⟩)
     have HS2:Hid (∀ j,j<k+1→(akids.map Lt.t).getD j default=(bkids.map Lt.t).getD j default):=Lib.hid fun j hj=>by
      rcases Nat.lt_or_ge j k with h | h
      ·exact HS.out j h
      ·obtain rfl:j=k:=by omega
       exact hsk
     rw [show (akids.getD k default).val = .agg #[.int .u8 ((akids.getD k default).tag:Int),.slice (akids.getD k default).ba (akids.getD k default).body.length (akids.getD k default).bc,.slice (akids.getD k default).ka (akids.getD k default).kids.length (akids.getD k default).kc] from rfl,show (bkids.getD k default).val = .agg #[.int .u8 ((bkids.getD k default).tag:Int),.slice (bkids.getD k default).ba (bkids.getD k default).body.length (bkids.getD k default).bc,.slice (bkids.getD k default).ka (bkids.getD k default).kids.length (bkids.getD k default).kc] from rfl] at HC
     clear hsk
     generalize (akids.getD k default).tag=adt at *
     generalize (akids.getD k default).ba=adba at *
     generalize (akids.getD k default).bc=adbc at *
     generalize (akids.getD k default).body.length=adbl at *
     generalize (akids.getD k default).ka=adka at *
     generalize (akids.getD k default).kids.length=adkl at *
     generalize (akids.getD k default).kc=adkc at *
     generalize (bkids.getD k default).tag=bdt at *
     generalize (bkids.getD k default).ba=bdba at *
     generalize (bkids.getD k default).bc=bdbc at *
     generalize (bkids.getD k default).body.length=bdbl at *
     generalize (bkids.getD k default).ka=bdka at *
     generalize (bkids.getD k default).kids.length=bdkl at *
     generalize (bkids.getD k default).kc=bdkc at *
     go_wp2_with fail
     go_still_tail 10,(by kernel_rfl)
     change wpList _ _ _ _ _ V.drew
     go_wp2_with fail
     refine HC.out.mono ?_
     rintro e w2 ⟨rfl,hb2⟩
     have HQ2:Hid (Below w.heap.size w w2):=Lib.hid (HQ.out.drew.trans (hb2.mono HQ.out.size))
     have HA2:=Lib.hid (HA.out.drew.under hb2 HA.out.lt)
     have HB2:=Lib.hid (HB.out.drew.under hb2 HB.out.lt)
     clear hb2 HC p0 p1 p2 q0 q1 q2 za2 zb2
     go_wp2_with fail
     go_roundw
     case rel=>exact ⟨k+1,by omega,by go_num,HS2,HQ2,HA2,HB2⟩
     case measure=>simp [intOf];omega
    case neg =>
     have HC:=Lib.hid (HIH.out k hkn hkn V.drew HQ.out.drew false ⟨(fun e=>by cases e),fun e=>absurd e hsk⟩)
     have HF:Hid (v=false):=Lib.hid (HONE.out k hsk)
     rw [show (akids.getD k default).val = .agg #[.int .u8 ((akids.getD k default).tag:Int),.slice (akids.getD k default).ba (akids.getD k default).body.length (akids.getD k default).bc,.slice (akids.getD k default).ka (akids.getD k default).kids.length (akids.getD k default).kc] from rfl,show (bkids.getD k default).val = .agg #[.int .u8 ((bkids.getD k default).tag:Int),.slice (bkids.getD k default).ba (bkids.getD k default).body.length (bkids.getD k default).bc,.slice (bkids.getD k default).ka (bkids.getD k default).kids.length (bkids.getD k default).kc] from rfl] at HC
     clear hsk
     generalize (akids.getD k default).tag=adt at *
     generalize (akids.getD k default).ba=adba at *
     generalize (akids.getD k default).bc=adbc at *
     generalize (akids.getD k default).body.length=adbl at *
     generalize (akids.getD k default).ka=adka at *
     generalize (akids.getD k default).kids.length=adkl at *
     generalize (akids.getD k default).kc=adkc at *
     generalize (bkids.getD k default).tag=bdt at *
     generalize (bkids.getD k default).ba=bdba at *
     generalize (bkids.getD k default).bc=bdbc at *
     generalize (bkids.getD k default).body.length=bdbl at *
     generalize (bkids.getD k default).ka=bdka at *
     generalize (bkids.getD k default).kids.length=bdkl at *
     generalize (bkids.getD k default).kc=bdkc at *
     go_wp2_with fail
     go_still_tail 10,(by kernel_rfl)
     change wpList _ _ _ _ _ V.drew
     go_wp2_with fail
     refine HC.out.mono ?_
     rintro e w2 ⟨rfl,hb2⟩
     have HQ2:Hid (Below w.heap.size w w2):=Lib.hid (HQ.out.drew.trans (hb2.mono HQ.out.size))
     clear hb2 HC p0 p1 p2 q0 q1 q2 za2 zb2
     go_wp2_with fail
     go_ret
     exact ⟨ret_bool HF.out.symm,HQ2.out⟩
   case neg =>
    obtain rfl:k=an:=by omega
    have hkI:¬ ((k:Int)<(k:Int)):=by omega
    have HT:Hid (v=true):=Lib.hid (HALL.out HS.out)
    go_wp2_with fail
    go_ret
    exact ⟨ret_bool HT.out.symm,HQ.out⟩
theorem same'_any (a b:Lt) (w:World) (B:Nat) (hr:TrAt w B a) (hs:TrAt w B b) (hB:B≤w.heap.size) (v:Bool) (hv:v=true↔a.t=b.t) :
  Calls Tryz.prog 10 #[a.val,b.val] w fun e w'=>e = .returned (.bool v)∧Below w.heap.size w w':=same'_N (a.sz+1) a b w B (Nat.lt_succ_self _) hr hs hB v hv

set_option maxRecDepth 100000 in
set_option maxHeartbeats 4000000 in
theorem same_N:∀ (N:Nat) (a b:Lt) (w:World) (B:Nat),a.sz<N→TrAt w B a→TrAt w B b→B≤w.heap.size→∀ (v:Bool),(v=true↔a.t=b.t) →
  Calls Tryz.prog 48 #[a.val,b.val] w fun e w'=>e = .returned (.bool v)∧Below w.heap.size w w':=by
 intro N
 induction N with
 | zero=>intro a b w B h;omega
 | succ N ih =>
  intro a b w B hN hr hs hB v hv
  obtain ⟨at0,aba,abc,abody,aka,akc,akids⟩:=a
  obtain ⟨bt0,bba,bbc,bbody,bka,bkc,bkids⟩:=b
  rw [trAt_mk] at hr hs
  obtain ⟨ht1,hab,hao,harow,hakids⟩:=hr
  obtain ⟨ht2,hbb,hbo,hbrow,hbkids⟩:=hs
  rw [Lt.t_mk,Lt.t_mk] at hv
  have HV:Hid (v=true↔at0=bt0∧abody=bbody∧akids.map Lt.t=bkids.map Lt.t):=Lib.hid (by rw [hv];exact ⟨fun e=>by injection e with e1 e2 e3;exact ⟨e1,e2,e3⟩,fun ⟨e1,e2,e3⟩=>by rw [e1,e2,e3]⟩)
  clear hv
  obtain ⟨an,han⟩:∃ n,akids.length=n:=⟨_,rfl⟩
  obtain ⟨bn,hbn⟩:∃ n,bkids.length=n:=⟨_,rfl⟩
  obtain ⟨abl,habl⟩:∃ n,abody.length=n:=⟨_,rfl⟩
  obtain ⟨bbl,hbbl⟩:∃ n,bbody.length=n:=⟨_,rfl⟩
  have hlca:an≤akc:=by have:=harow.1;omega
  have hc63a:=harow.2.1
  have hlcb:bn≤bkc:=by have:=hbrow.1;omega
  have hc63b:=hbrow.2.1
  have hbla:abl≤abc:=by have:=hab.1;omega
  have hb63a:=hab.2.1
  have hblb:bbl≤bbc:=by have:=hbb.1;omega
  have hb63b:=hbb.2.1
  have HAROW:Hid (∀ W,Below w.heap.size w W→RowT W B aka akc akids):=Lib.hid fun W hW=>harow.under (hW.mono hB)
  have HBROW:Hid (∀ W,Below w.heap.size w W→RowT W B bka bkc bkids):=Lib.hid fun W hW=>hbrow.under (hW.mono hB)
  have HAB:Hid (∀ W,Below w.heap.size w W→Rd .u8 W B aba abc abody):=Lib.hid fun W hW=>hab.under (hW.mono hB)
  have HBB:Hid (∀ W,Below w.heap.size w W→Rd .u8 W B bba bbc bbody):=Lib.hid fun W hW=>hbb.under (hW.mono hB)
  have HIH:Hid (∀ k,k<an→k<bn→∀ W,Below w.heap.size w W→∀ u:Bool,(u=true↔(akids.map Lt.t).getD k default=(bkids.map Lt.t).getD k default)→Calls Tryz.prog 48 #[(akids.getD k default).val,(bkids.getD k default).val] W fun e w'=>e = .returned (.bool u)∧Below W.heap.size W w'):=Lib.hid fun k hk hk2 W hW u hu=>by
   rw [Lt.ts_at (by omega),Lt.ts_at (by omega)] at hu
   refine ih _ _ W B ?_ ((hakids k (by omega)).under' (hW.mono hB)) ((hbkids k (by omega)).under' (hW.mono hB)) (by have:=hW.size;omega) u hu
   have:=lt_kid (tag:=at0) (ba:=aba) (bc:=abc) (body:=abody) (ka:=aka) (kc:=akc) (kids:=akids) (j:=k) (by omega)
   omega
  have HAN:=Lib.hid han
  have HBN:=Lib.hid hbn
  have HABL:=Lib.hid habl
  have HBBL:=Lib.hid hbbl
  have HAO:=Lib.hid hao
  have HBO:=Lib.hid hbo
  have hva:(Lt.mk at0 aba abc abody aka akc akids).val = .agg #[.int .u8 (at0:Int),.slice aba abl abc,.slice aka an akc]:=by rw [←han,←habl];rfl
  have hvb:(Lt.mk bt0 bba bbc bbody bka bkc bkids).val = .agg #[.int .u8 (bt0:Int),.slice bba bbl bbc,.slice bka bn bkc]:=by rw [←hbn,←hbbl];rfl
  rw [hva,hvb]
  clear hN ih harow hbrow hakids hbkids hva hvb han hbn habl hbbl hab hbb hao hbo
  have hq1:Below w.heap.size w (w.alloc (.cells #[.int .u8 (at0:Int),.slice aba abl abc,.slice aka an akc] 32)):=(Below.refl _ _).alloc (Nat.le_refl _) _
  have hq0:Hid (Below w.heap.size w ((w.alloc (.cells #[.int .u8 (at0:Int),.slice aba abl abc,.slice aka an akc] 32)).alloc (.cells #[.int .u8 (bt0:Int),.slice bba bbl bbc,.slice bka bn bkc] 32))):=Lib.hid (hq1.alloc (by simp) _)
  have ha0:Hid (Holds ((w.alloc (.cells #[.int .u8 (at0:Int),.slice aba abl abc,.slice aka an akc] 32)).alloc (.cells #[.int .u8 (bt0:Int),.slice bba bbl bbc,.slice bka bn bkc] 32)) w.heap.size 32 #[.int .u8 (at0:Int),.slice aba abl abc,.slice aka an akc]):=Lib.hid ((Holds.fresh w 32 #[.int .u8 (at0:Int),.slice aba abl abc,.slice aka an akc]).alloc _)
  have hb0:Hid (Holds ((w.alloc (.cells #[.int .u8 (at0:Int),.slice aba abl abc,.slice aka an akc] 32)).alloc (.cells #[.int .u8 (bt0:Int),.slice bba bbl bbc,.slice bka bn bkc] 32)) (w.heap.size+1) 32 #[.int .u8 (bt0:Int),.slice bba bbl bbc,.slice bka bn bkc]):=Lib.hid (by
   have:=Holds.fresh (w.alloc (.cells #[.int .u8 (at0:Int),.slice aba abl abc,.slice aka an akc] 32)) 32 #[.int .u8 (bt0:Int),.slice bba bbl bbc,.slice bka bn bkc]
   rwa [World.size_alloc] at this)
  clear hq1
  have za0:((w.alloc (.cells #[.int .u8 (at0:Int),.slice aba abl abc,.slice aka an akc] 32)).alloc (.cells #[.int .u8 (bt0:Int),.slice bba bbl bbc,.slice bka bn bkc] 32)).cell? ⟨w.heap.size,0,none⟩=some (.int .u8 (at0:Int)):=ha0.out.cell 0
  have za1:((w.alloc (.cells #[.int .u8 (at0:Int),.slice aba abl abc,.slice aka an akc] 32)).alloc (.cells #[.int .u8 (bt0:Int),.slice bba bbl bbc,.slice bka bn bkc] 32)).cell? ⟨w.heap.size,1,none⟩=some (.slice aba abl abc):=ha0.out.cell 1
  have za2:((w.alloc (.cells #[.int .u8 (at0:Int),.slice aba abl abc,.slice aka an akc] 32)).alloc (.cells #[.int .u8 (bt0:Int),.slice bba bbl bbc,.slice bka bn bkc] 32)).cell? ⟨w.heap.size,2,none⟩=some (.slice aka an akc):=ha0.out.cell 2
  have zb0:((w.alloc (.cells #[.int .u8 (at0:Int),.slice aba abl abc,.slice aka an akc] 32)).alloc (.cells #[.int .u8 (bt0:Int),.slice bba bbl bbc,.slice bka bn bkc] 32)).cell? ⟨w.heap.size+1,0,none⟩=some (.int .u8 (bt0:Int)):=hb0.out.cell 0
  have zb1:((w.alloc (.cells #[.int .u8 (at0:Int),.slice aba abl abc,.slice aka an akc] 32)).alloc (.cells #[.int .u8 (bt0:Int),.slice bba bbl bbc,.slice bka bn bkc] 32)).cell? ⟨w.heap.size+1,1,none⟩=some (.slice bba bbl bbc):=hb0.out.cell 1
  have zb2:((w.alloc (.cells #[.int .u8 (at0:Int),.slice aba abl abc,.slice aka an akc] 32)).alloc (.cells #[.int .u8 (bt0:Int),.slice bba bbl bbc,.slice bka bn bkc] 32)).cell? ⟨w.heap.size+1,2,none⟩=some (.slice bka bn bkc):=hb0.out.cell 2
  by_cases hte:at0=bt0
  case neg =>
   have hB1:((at0:Int) != (bt0:Int))=true:=by rw [bne_iff_ne];omega
   have hB2:(at0 != bt0)=true:=by rw [bne_iff_ne];omega
   have HF:Hid (v=false):=Lib.hid (not_true fun e=>hte (HV.out.1 e).1)
   clear hte
   go_enter Tryz.func48,Tryz.ntmps48
   go_wp2_with fail
   go_ret
   exact ⟨ret_bool HF.out.symm,hq0.out⟩
  subst hte
  have hB1:((at0:Int) != (at0:Int))=false:=by rw [bne_eq_false_iff_eq]
  have hB2:(at0 != at0)=false:=by rw [bne_eq_false_iff_eq]
  by_cases hbe:abody=bbody
  case neg =>
   have HF:Hid (v=false):=Lib.hid (not_true fun e=>hbe (HV.out.1 e).2.1)
   go_enter Tryz.func48,Tryz.ntmps48
   go_wp2_with fail
   refine (equal_no _ _ _ _ _ abc bbc abl bbl _ _ HABL.out HBBL.out (HAB.out _ hq0.out) (HBB.out _ hq0.out) HAO.out HBO.out hbe).mono ?_
   rintro e w2 ⟨rfl,rfl⟩
   go_wp2_with fail
   go_ret
   exact ⟨ret_bool HF.out.symm,hq0.out⟩
  subst hbe
  obtain rfl:abl=bbl:=by rw [←HABL.out,HBBL.out]
  by_cases hle:an=bn
  case neg =>
   have HF:Hid (v=false):=Lib.hid (not_true fun e=>hle (by have:=congrArg List.length (HV.out.1 e).2.2;simp only [List.length_map] at this;rw [←HAN.out,←HBN.out,this]))
   have hB5:((an:Int) != (bn:Int))=true:=by rw [bne_iff_ne];omega
   have hB6:(an != bn)=true:=by rw [bne_iff_ne];omega
   clear hle
   go_enter Tryz.func48,Tryz.ntmps48
   go_wp2_with fail
   refine (equal_yes _ _ _ _ _ abc bbc abl _ HABL.out (HAB.out _ hq0.out) (HBB.out _ hq0.out) HAO.out).mono ?_
   rintro e w2 ⟨rfl,rfl⟩
   go_wp2_with fail
   go_ret
   exact ⟨ret_bool HF.out.symm,hq0.out⟩
  subst hle
  have hB5:((an:Int) != (an:Int))=false:=by rw [bne_eq_false_iff_eq]
  have hB6:(an != an)=false:=by rw [bne_eq_false_iff_eq]
  have HALL:Hid ((∀ j,j<an→(akids.map Lt.t).getD j default=(bkids.map Lt.t).getD j default)→v=true):=Lib.hid fun h=>HV.out.2 ⟨rfl,rfl,List.ext_getElem (by rw [List.length_map,List.length_map,HAN.out,HBN.out]) fun j h1 h2=>by
   have h3:=h j (by rw [←HAN.out];simpa using h1)
   simpa [List.getD,show j<akids.length by simpa using h1,show j<bkids.length by simpa using h2] using h3⟩
  have HONE:Hid (∀ j,¬ (akids.map Lt.t).getD j default=(bkids.map Lt.t).getD j default→v=false):=Lib.hid fun j h=>not_true fun e=>h (by rw [(HV.out.1 e).2.2])
  clear HV
  go_enter Tryz.func48,Tryz.ntmps48
  go_wp2_with fail
  refine (equal_yes _ _ _ _ _ abc bbc abl _ HABL.out (HAB.out _ hq0.out) (HBB.out _ hq0.out) HAO.out).mono ?_
  rintro e w2 ⟨rfl,rfl⟩
  go_wp2_with fail
  try rw [show (w.alloc (.cells #[.int .u8 (at0:Int),.slice aba abl abc,.slice aka an akc] 32)).heap.size=w.heap.size+1 from World.size_alloc _ _]
  generalize ((w.alloc (.cells #[.int .u8 (at0:Int),.slice aba abl abc,.slice aka an akc] 32)).alloc (.cells #[.int .u8 (at0:Int),.slice bba abl bbc,.slice bka an bkc] 32))=W at *
  clear za0 za1 za2 zb0 zb1 zb2
  go_loopw [31] (fun i wr=>RelS w #[.int .u8 (at0:Int),.slice aba abl abc,.slice aka an akc] #[.int .u8 (at0:Int),.slice bba abl bbc,.slice bka an bkc] (akids.map Lt.t) (bkids.map Lt.t) an i wr) (fun i _=>an - (intOf i).toNat)
  case atStart=>exact ⟨0,Nat.zero_le _,rfl,Lib.hid (fun j hj=>by omega),hq0,ha0,hb0⟩
  case round =>
   skip
   clear hq0 ha0 hb0
   obtain ⟨k,hk,rfl,HS,HQ,HA,HB⟩:=hrel
   obtain ⟨V,hV⟩:∃ V,V=wr:=⟨_,rfl⟩
   subst hV
   have za2:V.cell? ⟨w.heap.size,2,none⟩=some (.slice aka an akc):=HA.out.cell 2
   have zb2:V.cell? ⟨w.heap.size+1,2,none⟩=some (.slice bka an bkc):=HB.out.cell 2
   by_cases hkn:k<an
   case pos =>
    have hkI:(k:Int)<(an:Int):=by omega
    have hk0:(0:Int)≤(k:Int):=by omega
    obtain ⟨b1,off1,rfl,hb1,hcs1⟩:=(HAROW.out V HQ.out).2.2 (by have:=HAN.out;omega)
    obtain ⟨b2,off2,rfl,hb2,hcs2⟩:=(HBROW.out V HQ.out).2.2 (by have:=HBN.out;omega)
    obtain ⟨p0,p1,p2⟩:=hcs1 k (by have:=HAN.out;omega)
    obtain ⟨q0,q1,q2⟩:=hcs2 k (by have:=HBN.out;omega)
    clear hcs1 hcs2
    by_cases hsk:(akids.map Lt.t).getD k default=(bkids.map Lt.t).getD k default
    case pos =>
     have HC:=Lib.hid (HIH.out k hkn hkn V.drew HQ.out.drew true ⟨fun _=>hsk,fun _=>rfl⟩)
     have HS2:Hid (∀ j,j<k+1→(akids.map Lt.t).getD j default=(bkids.map Lt.t).getD j default):=Lib.hid fun j hj=>by
      rcases Nat.lt_or_ge j k with h | h
      ·exact HS.out j h
      ·obtain rfl:j=k:=by omega
       exact hsk
     rw [show (akids.getD k default).val = .agg #[.int .u8 ((akids.getD k default).tag:Int),.slice (akids.getD k default).ba (akids.getD k default).body.length (akids.getD k default).bc,.slice (akids.getD k default).ka (akids.getD k default).kids.length (akids.getD k default).kc] from rfl,show (bkids.getD k default).val = .agg #[.int .u8 ((bkids.getD k default).tag:Int),.slice (bkids.getD k default).ba (bkids.getD k default).body.length (bkids.getD k default).bc,.slice (bkids.getD k default).ka (bkids.getD k default).kids.length (bkids.getD k default).kc] from rfl] at HC
     clear hsk
     generalize (akids.getD k default).tag=adt at *
     generalize (akids.getD k default).ba=adba at *
     generalize (akids.getD k default).bc=adbc at *
     generalize (akids.getD k default).body.length=adbl at *
     generalize (akids.getD k default).ka=adka at *
     generalize (akids.getD k default).kids.length=adkl at *
     generalize (akids.getD k default).kc=adkc at *
     generalize (bkids.getD k default).tag=bdt at *
     generalize (bkids.getD k default).ba=bdba at *
     generalize (bkids.getD k default).bc=bdbc at *
     generalize (bkids.getD k default).body.length=bdbl at *
     generalize (bkids.getD k default).ka=bdka at *
     generalize (bkids.getD k default).kids.length=bdkl at *
     generalize (bkids.getD k default).kc=bdkc at *
     go_wp2_with fail
     go_still_tail 10,(by kernel_rfl)
     change wpList _ _ _ _ _ V.drew
     go_wp2_with fail
     refine HC.out.mono ?_
     rintro e w2 ⟨rfl,hb2⟩
     have HQ2:Hid (Below w.heap.size w w2):=Lib.hid (HQ.out.drew.trans (hb2.mono HQ.out.size))
     have HA2:=Lib.hid (HA.out.drew.under hb2 HA.out.lt)
     have HB2:=Lib.hid (HB.out.drew.under hb2 HB.out.lt)
     clear hb2 HC p0 p1 p2 q0 q1 q2 za2 zb2
     go_wp2_with fail
     go_roundw
     case rel=>exact ⟨k+1,by omega,by go_num,HS2,HQ2,HA2,HB2⟩
     case measure=>simp [intOf];omega
    case neg =>
     have HC:=Lib.hid (HIH.out k hkn hkn V.drew HQ.out.drew false ⟨(fun e=>by cases e),fun e=>absurd e hsk⟩)
     have HF:Hid (v=false):=Lib.hid (HONE.out k hsk)
     rw [show (akids.getD k default).val = .agg #[.int .u8 ((akids.getD k default).tag:Int),.slice (akids.getD k default).ba (akids.getD k default).body.length (akids.getD k default).bc,.slice (akids.getD k default).ka (akids.getD k default).kids.length (akids.getD k default).kc] from rfl,show (bkids.getD k default).val = .agg #[.int .u8 ((bkids.getD k default).tag:Int),.slice (bkids.getD k default).ba (bkids.getD k default).body.length (bkids.getD k default).bc,.slice (bkids.getD k default).ka (bkids.getD k default).kids.length (bkids.getD k default).kc] from rfl] at HC
     clear hsk
     generalize (akids.getD k default).tag=adt at *
     generalize (akids.getD k default).ba=adba at *
     generalize (akids.getD k default).bc=adbc at *
     generalize (akids.getD k default).body.length=adbl at *
     generalize (akids.getD k default).ka=adka at *
     generalize (akids.getD k default).kids.length=adkl at *
     generalize (akids.getD k default).kc=adkc at *
     generalize (bkids.getD k default).tag=bdt at *
     generalize (bkids.getD k default).ba=bdba at *
     generalize (bkids.getD k default).bc=bdbc at *
     generalize (bkids.getD k default).body.length=bdbl at *
     generalize (bkids.getD k default).ka=bdka at *
     generalize (bkids.getD k default).kids.length=bdkl at *
     generalize (bkids.getD k default).kc=bdkc at *
     go_wp2_with fail
     go_still_tail 10,(by kernel_rfl)
     change wpList _ _ _ _ _ V.drew
     go_wp2_with fail
     refine HC.out.mono ?_
     rintro e w2 ⟨rfl,hb2⟩
     have HQ2:Hid (Below w.heap.size w w2):=Lib.hid (HQ.out.drew.trans (hb2.mono HQ.out.size))
     clear hb2 HC p0 p1 p2 q0 q1 q2 za2 zb2
     go_wp2_with fail
     go_ret
     exact ⟨ret_bool HF.out.symm,HQ2.out⟩
   case neg =>
    obtain rfl:k=an:=by omega
    have hkI:¬ ((k:Int)<(k:Int)):=by omega
    have HT:Hid (v=true):=Lib.hid (HALL.out HS.out)
    go_wp2_with fail
    go_ret
    exact ⟨ret_bool HT.out.symm,HQ.out⟩
theorem same_any (a b:Lt) (w:World) (B:Nat) (hr:TrAt w B a) (hs:TrAt w B b) (hB:B≤w.heap.size) (v:Bool) (hv:v=true↔a.t=b.t) :
  Calls Tryz.prog 48 #[a.val,b.val] w fun e w'=>e = .returned (.bool v)∧Below w.heap.size w w':=same_N (a.sz+1) a b w B (Nat.lt_succ_self _) hr hs hB v hv
end Go.Proofs.YtcibjcgipfpniaaGreatDoor
namespace Go.Proofs.YtcibjcgipfpniaaGreatDoor
open Go.RowKit
set_option linter.unusedVariables false

/-- The slice '.slice A l.length c' lies in a block from B on, known whole; it holds the bytes l. -/
def Mine (e:TypeId) (w:World) (B:Nat) (A:Option Addr) (c:Nat) (l:List Nat):Prop :=
 (A=none∧c=0∧l=[])∨∃ g off cur,A=some ⟨g,off,none⟩∧B≤g∧w.heap[g]?=some (.cells cur e (0,0))∧l.length≤c∧c≤9223372036854775807∧off+c≤cur.size∧∀ j,j<l.length→cur[off+j]?=some (.int .u8 ((l.getD j 0:Nat):Int))
def blk_of (A:Option Addr):Option Nat:=A.map (·.block)

section
variable {e:TypeId} {w w':World} {B:Nat} {A:Option Addr} {c:Nat} {l:List Nat}
theorem Mine.nil (e:TypeId) (w:World) (B:Nat):Mine e w B none 0 []:=.inl ⟨rfl,rfl,rfl⟩
theorem Mine.rd (h:Mine e w B A c l):Rd .u8 w w.heap.size A c l:=by
 rcases h with ⟨rfl,rfl,rfl⟩ | ⟨g,off,cur,rfl,hB,hg,hl,hc,hs,hx⟩
 ·exact Rd.nil_ _ _ _
 ·exact ⟨hl,hc,fun _=>⟨g,off,rfl,(Array.getElem?_eq_some_iff.1 hg).1,fun j hj=>by rw [cell_of_row w g _ cur e (0,0) hg];exact hx j hj⟩⟩
theorem Mine.le (h:Mine e w B A c l):l.length≤c∧c≤9223372036854775807:=by
 rcases h with ⟨rfl,rfl,rfl⟩ | ⟨g,off,cur,rfl,hB,hg,hl,hc,hs,hx⟩
 ·exact ⟨Nat.le_refl _,by omega⟩
 ·exact ⟨hl,hc⟩
theorem Mine.block (h:Mine e w B A c l) {g:Nat} (hg:blk_of A=some g):B≤g∧g<w.heap.size:=by
 rcases h with ⟨rfl,rfl,rfl⟩ | ⟨g',off,cur,rfl,hB,hg',hl,hc,hs,hx⟩
 ·simp [blk_of] at hg
 ·obtain rfl:g'=g:=by simpa [blk_of] using hg
  exact ⟨hB,(Array.getElem?_eq_some_iff.1 hg').1⟩
theorem Mine.keep (h:Mine e w B A c l) (hk:∀ g,blk_of A=some g→w'.heap[g]?=w.heap[g]?):Mine e w' B A c l:=by
 rcases h with h | ⟨g,off,cur,rfl,hB,hg,rest⟩
 ·exact .inl h
 ·exact .inr ⟨g,off,cur,rfl,hB,(hk g rfl).trans hg,rest⟩
theorem Mine.under (h:Mine e w B A c l) (hb:Below w.heap.size w w'):Mine e w' B A c l:=h.keep fun g hg=>hb.block g (h.block hg).2
theorem Mine.alloc (h:Mine e w B A c l) (o:Obj):Mine e (w.alloc o) B A c l:=h.under ((Below.refl _ _).alloc (Nat.le_refl _) o)
theorem Mine.drewN (h:Mine e w B A c l) (n:Nat):Mine e (w.drewN n) B A c l:=h
/-- Its first n elements. -/
theorem Mine.take (h:Mine e w B A c l) (n:Nat):Rd .u8 w w.heap.size A c (l.take n):=h.rd.cut n
/-- What stands behind its first n elements: at its whole capacity the address stays. -/
theorem Mine.drop (h:Mine e w B A c l) {n:Nat} (hn:n≤l.length) (hn0:0<n):∃ g off,A=some ⟨g,off,none⟩∧Mine e w B (some ⟨g,if c=n then off else off+n,none⟩) (c - n) (l.drop n):=by
 rcases h with ⟨rfl,rfl,rfl⟩ | ⟨g,off,cur,rfl,hB,hg,hl,hc,hs,hx⟩
 ·simp at hn;omega
 ·refine ⟨g,off,rfl,.inr ⟨g,_,cur,rfl,hB,hg,by rw [List.length_drop];omega,by omega,?_,fun j hj=>?_⟩⟩
  ·split <;> omega
  ·rw [List.length_drop] at hj
   have:=hx (n+j) (by omega)
   rw [if_neg (by omega),Nat.add_assoc,this]
   simp [List.getD]
end

def bvals (l:List Nat):List Value:=l.map fun x:Nat=>Value.int .u8 (x:Int)
theorem bvals_length (l:List Nat):(bvals l).length=l.length:=by simp [bvals]
theorem bvals_at (l:List Nat) {i:Nat} (h:i<l.length):(bvals l)[i]?=some (.int .u8 ((l.getD i 0:Nat):Int)):=by simp [bvals,List.getD,h]
theorem bvals_one (l:List Nat):∀ u∈bvals l,u.oneCell'=true:=by
 intro u hu
 obtain ⟨x,_,rfl⟩:=List.mem_map.1 hu
 rfl
/-- What is appended: bytes, nil too. -/
theorem src_of_rd {P:Program} {w:World} {B:Nat} {A:Option Addr} {c n:Nat} {l:List Nat} {tx e':TypeId} (hk:P.underlying tx=some (.slice e')) (h:Rd .u8 w B A c l) (hn:l.length=n):Src P 1 tx (.slice A n c) n (bvals l) w:=by
 subst hn
 rcases Nat.eq_zero_or_pos l.length with h0 | h0
 ·obtain rfl:=List.eq_nil_of_length_eq_zero h0
  rcases A with _ | a
  ·exact Src.ofNil w hk c
  ·exact Src.ofSlice w hk a 0 c [] rfl (fun j u hj=>by simp at hj) (fun u hu=>by cases hu)
 ·obtain ⟨b,off,rfl,hb,hc⟩:=h.2.2 h0
  refine Src.ofSlice w hk ⟨b,off,none⟩ l.length c (bvals l) (by rw [bvals_length,Nat.mul_one]) (fun j u hj=>?_) (bvals_one l)
  have hj':j<l.length:=by have:=(List.getElem?_eq_some_iff.1 hj).1;rwa [bvals_length] at this
  rw [Addr.add_lit,hc j hj',←bvals_at l hj',hj]

/-- Bytes laid over cells from place o on. -/
theorem setCells_heap {g:Nat} {e:TypeId}:∀ (vs:List Value) (o:Nat) (w:World) (cur:Array Value),w.heap[g]?=some (.cells cur e (0,0))→o+vs.length≤cur.size →
  ∃ cur',(w.setCells g o vs).heap[g]?=some (.cells cur' e (0,0))∧cur'.size=cur.size∧(∀ j,j<o→cur'[j]?=cur[j]?)∧∀ j,j<vs.length→cur'[o+j]?=vs[j]?
 | [],o,w,cur,h,_=>⟨cur,h,rfl,fun j _=>rfl,fun j hj=>by simp at hj⟩
 | v :: vs,o,w,cur,h,hs=>by
  simp only [List.length_cons] at hs
  have h1:(w.setCell ⟨g,o,none⟩ v).heap[g]?=some (.cells (cur.setIfInBounds o v) e (0,0)):=by
   simp [World.setCell,Array.getElem?_modify,h]
  obtain ⟨cur',a1,a2,a3,a4⟩:=setCells_heap vs (o+1) (w.setCell ⟨g,o,none⟩ v) (cur.setIfInBounds o v) h1 (by simp;omega)
  refine ⟨cur',a1,by rw [a2];simp,fun j hj=>?_,fun j hj=>?_⟩
  ·rw [a3 j (by omega),Array.getElem?_setIfInBounds,if_neg (by omega)]
  ·rcases j with _ | j
   ·rw [Nat.add_zero,a3 o (by omega),Array.getElem?_setIfInBounds,if_pos rfl,if_pos (by omega)]
    rfl
   ·have:=a4 j (by simp at hj;omega)
    rw [show o+(j+1)=o+1+j by omega,this]
    rfl
theorem setCells_grown (g:Nat):∀ (vs:List Value) (o:Nat) {a w:World},a.grownBy w (some g)→a.grownBy (w.setCells g o vs) (some g)
 | [],_,_,_,h=>h
 | v :: vs,o,a,w,h=>setCells_grown g vs (o+1) (one_setCell h o v)

/-- One append more, in either way. -/
theorem run_mine {P:Program} (w:World) (t tx ty e:TypeId) (ht:P.underlying t=some (.slice e)) (htx:P.underlying tx=some (.slice e)) (hi:(P.info? e).map (fun i=>(i.zero,i.size,i.bytes))=some (some (.int .u8 0),1,1))
  {B B2:Nat} {A A2:Option Addr} {c n c2 m:Nat} {l news:List Nat} (h:Mine e w B A c l) (hn:l.length=n) (hr:Rd .u8 w B2 A2 c2 news) (hm:news.length=m) (hB:B≤w.heap.size) (hsz:n+m≤1000000) :
  ∃ A' c' w',(Builtin.append_ #[t,tx] ty #[.slice A n c,.slice A2 m c2]).run P w = .ok (.slice A' (n+m) c') w'∧Mine e w' B A' c' (l ++ news)∧w.grownBy w' (blk_of A)∧(blk_of A'=blk_of A∨blk_of A'=some w.heap.size):=by
 obtain ⟨i,hi',hz,hsize,hbytes⟩:=info_parts hi
 have hsrc:=src_of_rd (P:=P) htx hr hm
 rw [←hsize] at hsrc
 by_cases hroom:n+m≤c
 ·rcases Nat.eq_zero_or_pos m with h0 | h0
  ·subst h0
   obtain rfl:=List.eq_nil_of_length_eq_zero hm
   have hs0:Src P i.size tx (.slice A2 0 c2) 0 [] w:=hsrc
   have hrun:=run_append_nothing (P:=P) w t tx ty e i ht hi' A n c (by omega) _ hs0
   exact ⟨A,c,w,hrun,by rw [List.append_nil];exact h,World.grownBy.refl w _,.inl rfl⟩
  ·rcases h with ⟨rfl,rfl,rfl⟩ | ⟨g,off,cur,rfl,hBg,hg,hl,hc,hs,hx⟩
   ·omega
   ·have hcell:∀ j,j<(bvals news).length→(w.cell? ⟨g,off+n*i.size+j,none⟩).isSome=true:=fun j hj=>by
     rw [bvals_length] at hj
     rw [hsize,Nat.mul_one,cell_of_row w g _ cur e (0,0) hg,Array.getElem?_eq_getElem (by omega)]
     rfl
    have hfr:∀ j,j<(bvals news).length→w.frozen? ⟨g,off+n*i.size+j,none⟩=false:=fun j hj=>by
     simp [World.frozen?,hg]
    have hrun:=run_append_room_src (P:=P) w t tx ty e i ht hi' g off n c _ m (bvals news) hsrc hroom hcell hfr
    obtain ⟨cur',a1,a2,a3,a4⟩:=setCells_heap (bvals news) (off+n*i.size) w cur hg (by rw [bvals_length,hsize];omega)
    rw [hsize,Nat.mul_one] at hrun a1 a3 a4
    refine ⟨_,c,_,hrun,.inr ⟨g,off,cur',rfl,hBg,a1,by rw [List.length_append];omega,hc,by omega,fun j hj=>?_⟩,setCells_grown g _ _ (World.grownBy.refl w (some g)),.inl rfl⟩
    rw [List.length_append] at hj
    rcases Nat.lt_or_ge j n with hjn | hjn
    ·rw [a3 _ (by omega),hx j (by omega)]
     simp [List.getD,List.getElem?_append_left (show j<l.length by omega)]
    ·have:=a4 (j - n) (by rw [bvals_length];omega)
     rw [show off+n+(j - n)=off+j by omega,bvals_at news (by omega)] at this
     rw [this]
     simp [List.getD,List.getElem?_append_right (show l.length≤j by omega),hn]
 ·have hrd:=h.rd
  have hold:(Builtin.firstCells i.size n (.slice A n c)).run P w.drew = .ok (bvals l).toArray w.drew:=by
   have:=(src_of_rd (P:=P) (tx:=t) ht (w:=w.drew) (B:=w.heap.size) (A:=A) (c:=c) (n:=n) (l:=l) hrd hn).cells
   rw [hsize];exact this
  have hfit:Builtin.nextslicecap (n+m) c*i.bytes≤281474976710656:=growslice_fits (by omega) (by rw [hbytes];omega)
  have hrun:=run_append_grow_src (P:=P) w t tx ty e i (.int .u8 0) ht hi' hz A n c (bvals l) hold _ m (bvals news) hsrc (by omega) (by omega) hfit
  have hge:=grownCap_ge w (n+m) c e
  have hcm:grownCap w (n+m) c e≤maxLen:=grownCap_le_maxLen w (n+m) c e (by unfold maxLen;omega)
  refine ⟨_,_,_,hrun,.inr ⟨w.heap.size,0,_,rfl,hB,heap_alloc_new w.drew _,by rw [List.length_append];omega,by unfold maxLen at hcm;exact hcm,?_,fun j hj=>?_⟩,⟨rfl,rfl,rfl,by simp,fun k hk _=>Go.heap_alloc_old w.drew _ hk⟩,.inr rfl⟩
  ·simp only [Array.size_append,List.size_toArray,size_zeroCells,List.length_append,bvals_length]
   rw [show (Value.int IntKind.u8 0).cells.size=1 from rfl,Nat.mul_one]
   omega
  ·rw [List.length_append] at hj
   have e1:bvals l ++ bvals news=bvals (l ++ news):=by simp [bvals]
   rw [Nat.zero_add,e1,Array.getElem?_append_left (by simp [bvals_length];omega),List.getElem?_toArray]
   exact bvals_at _ (by rw [List.length_append];exact hj)

/-- The same at the operation. -/
theorem wpList_mine {P:Program} (w:World) {ops:Array Oper} {rest:List Oper} {o:Oper} {a:Act} {Q:Exit→Act→World→Prop} (hgd:o.guard=none) (s x:Operand) (t:TypeId)
  (ho:o.op = .call { callee:=.builtin .append,args:=#[s,x],argTypes:=#[t,t] }) (e:TypeId) (ht:P.underlying t=some (.slice e)) (hi:(P.info? e).map (fun i=>(i.zero,i.size,i.bytes))=some (some (.int .u8 0),1,1))
  {B B2:Nat} {A A2:Option Addr} {c n c2 m:Nat} {l news:List Nat} (hs:a.eval s = .slice A n c) (h:Mine e w B A c l) (hn:l.length=n) (hx:a.eval x = .slice A2 m c2) (hr:Rd .u8 w B2 A2 c2 news) (hm:news.length=m) (hB:B≤w.heap.size) (hsz:n+m≤1000000)
  (hK:∀ A' c' w',Mine e w' B A' c' (l ++ news)→w.grownBy w' (blk_of A)→(blk_of A'=blk_of A∨blk_of A'=some w.heap.size)→wpList P ops Q rest (a.put o.dst (.slice A' (n+m) c')) w') :
  wpList P ops Q (o :: rest) a w:=by
 refine wpList_plain hgd fun K hK'=>?_
 obtain ⟨A',c',w',hrun,r1,r2,r3⟩:=run_mine (P:=P) w t t o.type e ht ht hi h hn hr hm hB hsz
 unfold Oper.wp
 simp [execOp,ho,resolve,invoke,builtin,hs,hx,hrun,Result.andThen]
 exact hK' _ _ (hK A' c' w' r1 r2 r3)

end Go.Proofs.YtcibjcgipfpniaaGreatDoor
namespace Go.Proofs.YtcibjcgipfpniaaGreatDoor
open Go.RowKit
set_option linter.unusedVariables false
set_option linter.unusedSimpArgs false

/-- A number's digits of 256, the greatest first. -/
def dig:Nat→Nat→List Nat
 | 0,_=>[]
 | f+1,n=>if n=0 then [] else dig f (n / 256) ++ [n % 256]
theorem dig_zero (f:Nat):dig f 0=[]:=by cases f <;> simp [dig]
theorem dig_len:∀ f n,(dig f n).length≤f
 | 0,_=>Nat.le_refl _
 | f+1,n=>by
  rw [dig]
  split
  ·simp
  ·rw [List.length_append]
   have:=dig_len f (n / 256)
   simp
   omega
theorem dig_oct:∀ f n,∀ x∈dig f n,x<256
 | 0,_,x,h=>by cases h
 | f+1,n,x,h=>by
  rw [dig] at h
  split at h
  ·cases h
  ·rcases List.mem_append.1 h with h | h
   ·exact dig_oct f _ x h
   ·rw [List.mem_singleton.1 h];omega
/-- A length's bytes. -/
def lenB (n:Nat):List Nat:=if n<128 then [n] else (128+(dig 6 n).length) :: dig 6 n
theorem lenB_oct (n:Nat):∀ x∈lenB n,x<256:=by
 intro x hx
 unfold lenB at hx
 split at hx
 ·rw [List.mem_singleton.1 hx];omega
 ·rcases List.mem_cons.1 hx with rfl | h
  ·have:=dig_len 6 n;omega
  ·exact dig_oct 6 n x h
theorem info_u8:(Tryz.prog.info? 5).map (fun i=>(i.zero,i.size,i.bytes))=some (some (.int .u8 0),1,1):=by kernel_rfl
theorem Mine.fresh1 (w:World) (B x:Nat) (hB:B≤w.heap.size):Mine 5 (w.alloc (.cells #[.int .u8 (x:Int)] 5)) B (some ⟨w.heap.size,0,none⟩) 1 [x] :=
 .inr ⟨w.heap.size,0,#[.int .u8 (x:Int)],rfl,hB,Holds.fresh w _ _,Nat.le_refl _,by omega,by simp,fun j hj=>by
  have:j=0:=by simp at hj;omega
  subst this
  rfl⟩
theorem below_blk {w w':World} {B:Nat} {A:Option Addr} (h:w.grownBy w' (blk_of A)) (hB:B≤w.heap.size) (hA:∀ g,blk_of A=some g→B≤g):Below B w w' :=
 ⟨h.os,h.tape,h.output,h.size,fun g hg=>h.block g (by omega) (fun e=>by have:=hA g e.symm;omega)⟩

def RelL (w:World) (n:Nat) (v i:Value) (wr:World):Prop :=
 ∃ (x f:Nat) (b:List Nat) (A':Option Addr) (c' m:Nat),x≤n∧x<256 ^ f∧i = .int .i64 (x:Int)∧v = .slice A' m c'∧Hid (b.length=m)∧f≤6∧Hid (b.length+f≤6)∧Hid (dig 6 n=dig f x ++ b)∧Hid (Mine 5 wr w.heap.size A' c' b)∧Hid (Below w.heap.size w wr)
set_option maxRecDepth 100000 in
set_option maxHeartbeats 4000000 in
theorem length'_any (w:World) (n:Nat) (hn:n≤5000000000) :
  Calls Tryz.prog 117 #[.int .i64 (n:Int)] w fun e w'=>∃ A c,e = .returned (.slice A (lenB n).length c)∧Mine 5 w' w.heap.size A c (lenB n)∧Below w.heap.size w w':=by
 by_cases h1:n<128
 case pos =>
  have HE:Hid (lenB n=[n]):=Lib.hid (by unfold lenB;rw [if_pos h1])
  have d1:decide ((n:Int)<128)=true:=decide_eq_true (by omega)
  have hw:IntKind.u8.wrap (n:Int)=(n:Int):=by simp [IntKind.wrap,IntKind.signed,IntKind.bits];omega
  have HM:=Lib.hid (Mine.fresh1 w w.heap.size n (Nat.le_refl _))
  have HB:Hid (Below w.heap.size w (w.alloc (.cells #[.int .u8 (n:Int)] 5))):=Lib.hid ((Below.refl _ _).alloc (Nat.le_refl _) _)
  go_enter Tryz.func117,Tryz.ntmps117
  go_wp2_with fail
  go_ret
  exact ⟨_,_,by rw [HE.out];rfl,by rw [HE.out];exact HM.out,HB.out⟩
 case neg =>
  have d1:decide ((n:Int)<128)=false:=decide_eq_false (by omega)
  have HE:Hid (lenB n=(128+(dig 6 n).length) :: dig 6 n):=Lib.hid (by unfold lenB;rw [if_neg h1])
  go_enter Tryz.func117,Tryz.ntmps117
  go_wp2_with fail
  clear d1
  go_loopw [3,4] (fun v i wr=>RelL w n v i wr) (fun v i _=>(intOf i).toNat)
  case atStart=>exact ⟨n,6,[],none,0,0,Nat.le_refl _,by omega,rfl,rfl,Lib.hid rfl,by omega,Lib.hid (by simp),Lib.hid (by simp),Lib.hid (Mine.nil _ _ _),Lib.hid (Below.refl _ _)⟩
  case round =>
   obtain ⟨x,f,b,A',c',m,hx,hxf,rfl,rfl,HL,hf,HF,HD,HM,HQ⟩:=hrel
   obtain ⟨V,hV⟩:∃ V,V=wr:=⟨_,rfl⟩
   subst hV
   have hm6:m≤6:=by have:=HL.out;have:=HF.out;omega
   by_cases hx0:0<x
   case pos =>
    have d2:decide ((0:Int)<(x:Int))=true:=decide_eq_true (by omega)
    have d3:decide (0<x)=true:=decide_eq_true hx0
    obtain ⟨f',rfl⟩:∃ f',f=f' + 1:=⟨f - 1,by
     rcases f with _ | f
     ·simp at hxf;omega
     ·rfl⟩
    have hr:Int.tmod (x:Int) 256=((x % 256:Nat):Int):=by rw [Int.tmod_eq_emod_of_nonneg (by omega)];omega
    have hq:Int.tdiv (x:Int) 256=((x / 256:Nat):Int):=by rw [Int.tdiv_eq_ediv_of_nonneg (by omega)];omega
    have hw:IntKind.u8.wrap ((x % 256:Nat):Int)=((x % 256:Nat):Int):=by simp [IntKind.wrap,IntKind.signed,IntKind.bits]
    have HD2:Hid (dig 6 n=dig f' (x / 256) ++ ([x % 256] ++ b)):=Lib.hid (by
     rw [HD.out,dig,if_neg (by omega),List.append_assoc])
    have hxf2:x / 256<256 ^ f':=by rw [Nat.pow_succ] at hxf;omega
    obtain ⟨r,hr0⟩:∃ r,r=x % 256:=⟨_,rfl⟩
    obtain ⟨q,hq0⟩:∃ q,q=x / 256:=⟨_,rfl⟩
    have hql:q≤x / 2:=by omega
    rw [←hr0] at hr hw HD2
    rw [←hq0] at hq HD2 hxf2
    have HM1:Hid (Mine 5 (V.alloc (.cells #[.int .u8 (r:Int)] 5)) w.heap.size (some ⟨V.heap.size,0,none⟩) 1 [r]):=Lib.hid (Mine.fresh1 V w.heap.size r HQ.out.size)
    have HR1:Hid (Rd .u8 (V.alloc (.cells #[.int .u8 (r:Int)] 5)) (V.alloc (.cells #[.int .u8 (r:Int)] 5)).heap.size A' c' b):=Lib.hid (HM.out.alloc _).rd
    have HQ1:Hid (Below w.heap.size w (V.alloc (.cells #[.int .u8 (r:Int)] 5))):=Lib.hid (HQ.out.alloc HQ.out.size _)
    have HV0:Hid (w.heap.size≤V.heap.size):=Lib.hid HQ.out.size
    clear hr0 hq0
    go_wp2_with (first | (refine wpList_mine (B2:=(V.alloc (.cells #[.int .u8 (r:Int)] 5)).heap.size) _ rfl (.tmp 18) (.tmp 19) 24 rfl 5 Tryz.underlying24 info_u8 rfl HM1.out rfl rfl HR1.out HL.out HQ1.out.size (by omega) ?_;intro A5 c5 W5 hm5 hg5 hat5) | fail)
    have HQ5:Hid (Below w.heap.size w W5):=Lib.hid (HQ1.out.trans (below_blk hg5 HQ1.out.size (fun g hg=>by have:=HV0.out;simp [blk_of] at hg;omega)))
    have HM5:=Lib.hid hm5
    clear hm5 hg5 hat5
    go_roundw
    case rel=>exact ⟨q,f',[r] ++ b,_,_,1+m,by omega,hxf2,rfl,rfl,Lib.hid (by rw [List.length_append,HL.out];rfl),by omega,Lib.hid (by rw [List.length_append];have:=HF.out;simp;omega),HD2,HM5,HQ5⟩
    case measure=>simp [intOf];omega
   case neg =>
    obtain rfl:x=0:=by omega
    have d2:decide ((0:Int)<((0:Nat):Int))=false:=rfl
    have HD2:Hid (dig 6 n=b):=Lib.hid (by rw [HD.out,dig_zero,List.nil_append])
    have hw:IntKind.u8.wrap (128+(m:Int))=((128+m:Nat):Int):=by simp [IntKind.wrap,IntKind.signed,IntKind.bits];omega
    have hwi:IntKind.i64.wrap (128+(m:Int))=128+(m:Int):=IntWalk.i64_in _ (by omega)
    obtain ⟨r,hr0⟩:∃ r,r=128+m:=⟨_,rfl⟩
    rw [←hr0] at hw
    have HE2:Hid (lenB n=[r] ++ b∧(lenB n).length=1+m):=Lib.hid (by
     have e:lenB n=[r] ++ b:=by rw [HE.out,HD2.out,HL.out,hr0];rfl
     exact ⟨e,by rw [e,List.length_append,HL.out];rfl⟩)
    have HM1:Hid (Mine 5 (V.alloc (.cells #[.int .u8 (r:Int)] 5)) w.heap.size (some ⟨V.heap.size,0,none⟩) 1 [r]):=Lib.hid (Mine.fresh1 V w.heap.size r HQ.out.size)
    have HR1:Hid (Rd .u8 (V.alloc (.cells #[.int .u8 (r:Int)] 5)) (V.alloc (.cells #[.int .u8 (r:Int)] 5)).heap.size A' c' b):=Lib.hid (HM.out.alloc _).rd
    have HQ1:Hid (Below w.heap.size w (V.alloc (.cells #[.int .u8 (r:Int)] 5))):=Lib.hid (HQ.out.alloc HQ.out.size _)
    have HV0:Hid (w.heap.size≤V.heap.size):=Lib.hid HQ.out.size
    clear hr0
    go_wp2_with (first | (refine wpList_mine (B2:=(V.alloc (.cells #[.int .u8 (r:Int)] 5)).heap.size) _ rfl (.tmp 25) (.tmp 26) 24 rfl 5 Tryz.underlying24 info_u8 rfl HM1.out rfl rfl HR1.out HL.out HQ1.out.size (by omega) ?_;intro A5 c5 W5 hm5 hg5 hat5) | fail)
    have HQ5:Hid (Below w.heap.size w W5):=Lib.hid (HQ1.out.trans (below_blk hg5 HQ1.out.size (fun g hg=>by have:=HV0.out;simp [blk_of] at hg;omega)))
    have HM5:=Lib.hid hm5
    clear hm5 hg5 hat5
    go_wp2_with fail
    go_ret
    exact ⟨_,_,by rw [HE2.out.2];rfl,by rw [HE2.out.1];exact HM5.out,HQ5.out⟩

def RelL2 (w:World) (n:Nat) (i v:Value) (wr:World):Prop:=RelL w n v i wr
end Go.Proofs.YtcibjcgipfpniaaGreatDoor
