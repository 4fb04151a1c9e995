/- Words and laws for the statement, part 29. -/
import Derived.Deep.AppendSrc
import Derived.Lib.LazyBuf
import Derived.Deep.Upon
import Derived.OwnWalk
import Derived.Laws.IdiomStrings
import Derived.Laws.BytesArg
import Derived.Lib.Strings
import Derived.Lib.SlBytesConst
import Derived.Lib.SmallJoins
import Derived.Deep.RegionLaw
import Derived.Deep.DrawnRows
import Derived.Deep.RegionHeld3
import Derived.Test.YtcibjcgipfpniaaGreatDoorG01
import Derived.Test.YtcibjcgipfpniaaGreatDoorG02
import Derived.Test.YtcibjcgipfpniaaGreatDoorG04
import Derived.Test.YtcibjcgipfpniaaGreatDoorG24
import Derived.Test.YtcibjcgipfpniaaGreatDoorG27
import Derived.Test.YtcibjcgipfpniaaGreatDoorG28
namespace Go.Proofs.YtcibjcgipfpniaaGreatDoor
open Go.RowKit
set_option linter.unusedVariables false

section
variable {e:TypeId} {w w':World} {B:Nat} {A:Option Addr} {c:Nat} {l:List Nat}
end

end Go.Proofs.YtcibjcgipfpniaaGreatDoor
namespace Go.Proofs.YtcibjcgipfpniaaGreatDoor
open Go.RowKit
set_option linter.unusedVariables false
attribute [local go_sem ↓] Go.wp_at_zero Go.wp_at_succ

/-- So many blocks, one after another. -/
def chain (s:StS) (l:List Nat):Nat→StS
 | 0=>s
 | q+1=>blk (chain s l q) ((l.drop (64*q)).take 64)
def RelH (s:StS) (l:List Nat) (n:Nat) (w:World) (B:Nat) (v:Value) (wr:World):Prop :=
 ∃ (q k:Nat) (A:Option Addr) (c:Nat),Hid (64*q+k=n)∧v = .slice A k c∧Mine 5 wr B A c (l.drop (64*q))∧(∀ g,blk_of A=some g→g<w.heap.size)∧Row .u32 95 wr w.heap.size (chain s l q).list∧Holds wr (w.heap.size+1) 95 #[Value.int IntKind.u32 0,Value.int IntKind.u32 0,Value.int IntKind.u32 0,Value.int IntKind.u32 0,Value.int IntKind.u32 0,Value.int IntKind.u32 0,Value.int IntKind.u32 0,Value.int IntKind.u32 0]∧Below w.heap.size w wr
/-- What is left behind whole blocks. -/
def WholePost (s:StS) (l:List Nat) (n:Nat) (w:World) (B:Nat) (e:Ending) (w':World):Prop :=
 ∃ (A:Option Addr) (c:Nat),e = .returned (.tuple #[.agg (nums .u32 (chain s l (n / 64)).list),.slice A (n % 64) c])∧Mine 5 w' B A c (l.drop (64*(n / 64)))∧Below w.heap.size w w'

end Go.Proofs.YtcibjcgipfpniaaGreatDoor
namespace Go.Proofs.YtcibjcgipfpniaaGreatDoor
open Go.RowKit
set_option linter.unusedVariables false

/-- The words at the beginning. -/
def H0:StS:=⟨0x6a09e667,0xbb67ae85,0x3c6ef372,0xa54ff53a,0x510e527f,0x9b05688c,0x1f83d9ab,0x5be0cd19⟩
/-- How many noughts stand behind the 80. -/
def zeros (n:Nat):Nat:=(119 - n % 64) % 64
/-- Byte j of the count of digits. -/
def cnt8 (n j:Nat):Nat:=8*n / 2 ^ (56 - 8*j) % 256
def cntL (n:Nat):Nat→List Nat
 | 0=>[]
 | j+1=>cntL n j ++ [cnt8 n j]
/-- The bytes with what stands behind them. -/
def padded (l:List Nat):List Nat:=(l ++ (128 :: List.replicate (zeros l.length) 0)) ++ cntL l.length 8
/-- A word's bytes. -/
def word4 (x:Nat):List Nat:=[x / 16777216 % 256,x / 65536 % 256,x / 256 % 256,x % 256]
def outL (s:StS):Nat→List Nat
 | 0=>[]
 | k+1=>outL s k ++ word4 (s.list.getD k 0)
/-- A digest. -/
def digest (l:List Nat):List Nat:=outL (chain H0 (padded l) ((padded l).length / 64)) 8
end Go.Proofs.YtcibjcgipfpniaaGreatDoor
namespace Go.Proofs.YtcibjcgipfpniaaGreatDoor
open Go.RowKit
set_option linter.unusedVariables false
attribute [local go_sem ↓] Go.wp_at_zero Go.wp_at_succ

/-- Noughts behind. -/
def RelZ (w:World) (s:StS) (D:List Nat) (d z0:Nat) (v:Value) (wr:World):Prop :=
 ∃ (z:Nat) (A:Option Addr) (c:Nat),z≤z0∧v = .slice A (d+z) c∧Mine 5 wr (w.heap.size+1) A c (D ++ List.replicate z 0)∧Row .u32 95 wr w.heap.size s.list∧Below w.heap.size w wr
/-- The words' bytes, so many. -/
def RelOSha9 (w:World) (s:StS) (i v:Value) (wr:World):Prop :=
 ∃ (k:Nat) (A:Option Addr) (c:Nat),k≤8∧i = .int .i64 k∧v = .slice A (4*k) c∧Mine 5 wr (w.heap.size+1) A c (outL s k)∧Below w.heap.size w wr∧w.heap.size<wr.heap.size
/-- The count's bytes behind. -/
def RelCS (w:World) (s:StS) (D:List Nat) (d N:Nat) (i v:Value) (wr:World):Prop :=
 ∃ (j:Nat) (A:Option Addr) (c:Nat),j≤8∧i = .int .i64 (56 - 8*(j:Int))∧v = .slice A (d+j) c∧Mine 5 wr (w.heap.size+1) A c (D ++ cntL N j)∧Row .u32 95 wr w.heap.size s.list∧Below w.heap.size w wr

/-- A row of a call. -/
structure Rw where
 a:Option Addr
 c:Nat
 l:List Nat
instance:Inhabited Rw:=⟨⟨none,0,[]⟩⟩
/-- The slice '.slice A rs.length c' reads as these rows. -/
def RdR (w:World) (B:Nat) (A:Option Addr) (c:Nat) (rs:List Rw):Prop :=
 rs.length≤c∧c≤9223372036854775807∧(∀ j,j<rs.length→Rd .u8 w B (rs.getD j default).a (rs.getD j default).c (rs.getD j default).l) ∧
  (0<rs.length→∃ b off,A=some ⟨b,off,none⟩∧b<B∧∀ j,j<rs.length→w.cell? ⟨b,off+j,none⟩=some (.slice (rs.getD j default).a (rs.getD j default).l.length (rs.getD j default).c))
theorem RdR.under {w w':World} {B:Nat} {A:Option Addr} {c:Nat} {rs:List Rw} (h:RdR w B A c rs) (hb:Below B w w'):RdR w' B A c rs :=
 ⟨h.1,h.2.1,fun j hj=>(h.2.2.1 j hj).under hb,fun hn=>by
  obtain ⟨b,off,e,hlt,hc⟩:=h.2.2.2 hn
  exact ⟨b,off,e,hlt,fun j hj=>(hb.cell (p:=⟨b,off+j,none⟩) hlt).trans (hc j hj)⟩⟩
/-- All bytes of the first k rows. -/
def flat (rs:List Rw):Nat→List Nat
 | 0=>[]
 | k+1=>flat rs k ++ (rs.getD k default).l
/-- So many rows are worked off. -/
def RelA (rs:List Rw) (w:World) (B:Nat) (A:Option Addr) (c n:Nat) (cnt v i:Value) (wr:World):Prop :=
 ∃ (k:Nat) (A':Option Addr) (c':Nat),k≤n∧i = .int .i64 k∧cnt = .int .u64 ((8*(flat rs k).length:Nat):Int)∧v = .slice A' ((flat rs k).length % 64) c' ∧
  Mine 5 wr (w.heap.size+1) A' c' ((flat rs k).drop (64*((flat rs k).length / 64)))∧Row .u32 95 wr w.heap.size (chain H0 (flat rs k) ((flat rs k).length / 64)).list∧RdR wr B A c rs∧Below w.heap.size w wr

end Go.Proofs.YtcibjcgipfpniaaGreatDoor
namespace Go.Proofs.YtcibjcgipfpniaaGreatDoor
open Go.RowKit
set_option linter.unusedVariables false
attribute [local go_sem ↓] Go.wp_at_zero Go.wp_at_succ

end Go.Proofs.YtcibjcgipfpniaaGreatDoor
namespace Go.Proofs.YtcibjcgipfpniaaGreatDoor
open Go.RowKit
set_option linter.unusedVariables false
attribute [local go_sem ↓] Go.wp_at_zero Go.wp_at_succ

end Go.Proofs.YtcibjcgipfpniaaGreatDoor
namespace Go.Proofs.YtcibjcgipfpniaaGreatDoor
open Go.RowKit
set_option linter.unusedVariables false
attribute [local go_sem ↓] Go.wp_at_zero Go.wp_at_succ

/-- Noughts behind. -/
def RelY (w:World) (D:List Nat) (d z0:Nat) (v:Value) (wr:World):Prop :=
 ∃ (z:Nat) (A:Option Addr) (c:Nat),z≤z0∧v = .slice A (d+z) c∧Mine 5 wr w.heap.size A c (D ++ List.replicate z 0)∧Below w.heap.size w wr
/-- The count's bytes behind. -/
def RelV (w:World) (D:List Nat) (d N:Nat) (i v:Value) (wr:World):Prop :=
 ∃ (j:Nat) (A:Option Addr) (c:Nat),j≤8∧i = .int .i64 (56 - 8*(j:Int))∧v = .slice A (d+j) c∧Mine 5 wr w.heap.size A c (D ++ cntL N j)∧Below w.heap.size w wr

/-- The words' bytes, so many, beside the words. -/
def RelES (w:World) (g:Nat) (s:StS) (i v:Value) (wr:World):Prop :=
 ∃ (k:Nat) (A:Option Addr) (c:Nat),k≤8∧i = .int .i64 k∧v = .slice A (4*k) c∧Mine 5 wr (g+1) A c (outL s k)∧Row .u32 95 wr g s.list∧Below w.heap.size w wr
/-- So many blocks are worked off. -/
def RelQ6 (w:World) (g:Nat) (L:List Nat) (m:Nat) (v:Value) (wr:World):Prop :=
 ∃ (q k:Nat) (A:Option Addr) (c:Nat),Hid (64*q+k=m)∧v = .slice A k c∧Mine 5 wr w.heap.size A c (L.drop (64*q))∧(∀ g',blk_of A=some g'→g' < g)∧Row .u32 95 wr g (chain H0 L q).list∧Below w.heap.size w wr

end Go.Proofs.YtcibjcgipfpniaaGreatDoor
namespace Go.Proofs.YtcibjcgipfpniaaGreatDoor
open Go.RowKit
set_option linter.unusedVariables false
set_option linter.unusedSimpArgs false
attribute [local go_sem ↓] Go.wp_at_zero Go.wp_at_succ

/-- What Digest answers. -/
noncomputable def clDig (v:CV):List Nat:=digest (bytesT (clBody v))
end Go.Proofs.YtcibjcgipfpniaaGreatDoor
namespace Go.Proofs.YtcibjcgipfpniaaGreatDoor
open Go.RowKit
set_option linter.unusedVariables false
set_option linter.unusedSimpArgs false

theorem big_dig:∀ f n,n<256 ^ f→big (dig f n)=n
 | 0,n,h=>by simp at h;subst h;rfl
 | f+1,n,h=>by
  rw [dig]
  by_cases h0:n=0
  ·rw [if_pos h0,h0];rfl
  ·rw [if_neg h0,big_snoc,big_dig f (n / 256) (by rw [Nat.pow_succ] at h;omega)]
   omega
theorem dig_pos:∀ f n,n≠0→0<f→0<(dig f n).length
 | 0,n,h,hf=>by omega
 | f+1,n,h,hf=>by
  rw [dig,if_neg h]
  simp
theorem dig_head:∀ f n,n≠0→n<256 ^ f→(dig f n).getD 0 0≠0
 | 0,n,h,h'=>by simp at h';omega
 | f+1,n,h,h'=>by
  rw [dig,if_neg h]
  by_cases h1:n / 256=0
  ·rw [h1,dig_zero]
   simp
   omega
  ·have hf:0<f:=by
    rcases f with _ | f
    ·simp at h';omega
    ·omega
   have hl:=dig_pos f (n / 256) h1 hf
   have:=dig_head f (n / 256) h1 (by rw [Nat.pow_succ] at h';omega)
   rw [List.getD_eq_getElem?_getD,List.getElem?_append_left hl,←List.getD_eq_getElem?_getD]
   exact this
theorem lenOf_lenB {k:Nat} {r:List Nat} (hk:k≤r.length) (h12:k≤1000000):lenOf (lenB k ++ r)=some (k,(lenB k).length):=by
 unfold lenB
 by_cases h:k<128
 ·rw [if_pos h]
  show lenOf (k :: r)=_
  simp only [lenOf]
  rw [if_pos h,if_pos hk]
  rfl
 ·rw [if_neg h]
  have hp:k<256 ^ 6:=by omega
  have h1:=dig_pos 6 k (by omega) (by omega)
  have h2:=dig_len 6 k
  have h3:=dig_head 6 k (by omega) hp
  have h4:=big_dig 6 k hp
  generalize dig 6 k=g at *
  show lenOf ((128+g.length) :: (g ++ r))=_
  simp only [lenOf]
  have e1:128+g.length - 128=g.length:=by omega
  have e2:(g ++ r).take g.length=g:=by simp
  rw [if_neg (by omega),e1,e2,h4,if_pos]
  ·rw [List.length_cons,show 128+g.length - 127=g.length+1 by omega]
  ·refine ⟨by omega,by simp,?_,by omega,by simp;exact hk⟩
   rw [List.getD_eq_getElem?_getD,List.getElem?_append_left h1,←List.getD_eq_getElem?_getD]
   exact h3
mutual
def Tr.size:Tr→Nat
 | .mk _ _ kids=>1+Tr.sizes kids
def Tr.sizes:List Tr→Nat
 | []=>0
 | x :: r=>x.size+Tr.sizes r+1
end
end Go.Proofs.YtcibjcgipfpniaaGreatDoor
namespace Go.Proofs.YtcibjcgipfpniaaGreatDoor
open Go.RowKit
set_option linter.unusedVariables false
set_option linter.unusedSimpArgs false

theorem split_last {g:List Nat} (h:g≠[]):∃ a x,g=a ++ [x]:=⟨g.dropLast,g.getLast h,(List.dropLast_concat_getLast h).symm⟩
theorem dig_big:∀ (f:Nat) (g:List Nat),g.length≤f→(∀ x∈g,x<256)→(g=[]∨g.getD 0 0≠0)→dig f (big g)=g
 | 0,g,h,_,_=>by
  obtain rfl:=List.eq_nil_of_length_eq_zero (Nat.le_zero.1 h)
  rfl
 | f+1,g,h,ho,h0=>by
  rcases Nat.eq_zero_or_pos g.length with hg | hg
  ·obtain rfl:=List.eq_nil_of_length_eq_zero hg
   rfl
  ·obtain ⟨a,x,rfl⟩:=split_last (List.ne_nil_of_length_pos hg)
   have hx:x<256:=ho x (by simp)
   have ha:a=[]∨a.getD 0 0≠0:=by
    rcases a with _ | ⟨y,a⟩
    ·exact .inl rfl
    ·exact .inr (by rcases h0 with h0 | h0;(cases h0);simpa using h0)
   have ih:=dig_big f a (by simp at h;omega) (fun y hy=>ho y (by simp [hy])) ha
   have hn:big a*256+x≠0:=by
    rcases a with _ | ⟨y,a⟩
    ·rcases h0 with h0 | h0
     ·cases h0
     ·simp at h0
      omega
    ·have h1:(y :: a).getD 0 0≠0:=by rcases ha with h | h;(cases h);exact h
     have h2:y≤big (y :: a):=by
      show y≤List.foldl (fun a x=>a*256+x) 0 (y :: a)
      rw [List.foldl_cons]
      have:=foldl_ge a (0*256+y)
      omega
     simp at h1
     omega
   rw [big_snoc,dig,if_neg hn,show (big a*256+x) / 256=big a by omega,show (big a*256+x) % 256=x by omega,ih]
theorem big_len:∀ (m:Nat) (g:List Nat),g.length=m+1→g.getD 0 0≠0→256 ^ m≤big g
 | 0,g,h,h0=>by
  rcases g with _ | ⟨y,g⟩
  ·simp at h
  ·have:y≤big (y :: g):=by
    show y≤List.foldl (fun a x=>a*256+x) 0 (y :: g)
    rw [List.foldl_cons]
    have:=foldl_ge g (0*256+y)
    omega
   simp at h0
   simp
   omega
 | m+1,g,h,h0=>by
  obtain ⟨a,x,rfl⟩:=split_last (List.ne_nil_of_length_pos (by omega:0<g.length))
  have hl:a.length=m+1:=by simp at h;omega
  have:=big_len m a hl (by
   rcases a with _ | ⟨y,a⟩
   ·simp at hl
   ·simpa using h0)
  rw [big_snoc,Nat.pow_succ]
  omega
set_option maxRecDepth 100000 in
theorem lenOf_is {M:List Nat} {k u:Nat} (ho:∀ x∈M,x<256) (hl:M.length≤100000) (h:lenOf M=some (k,u)):M.take u=lenB k:=by
 rcases M with _ | ⟨x,r⟩
 ·simp [lenOf] at h
 have hx:x<256:=ho x (by simp)
 have hl2:r.length≤100000:=by simp at hl;omega
 simp only [lenOf] at h
 by_cases h1:x<128
 ·rw [if_pos h1] at h
  by_cases h2:x≤r.length
  ·rw [if_pos h2] at h
   injection h with h
   injection h with h3 h4
   subst h3 h4
   unfold lenB
   rw [if_pos h1]
   rfl
  ·rw [if_neg h2] at h
   cases h
 ·rw [if_neg h1] at h
  by_cases h2:x≠128∧x - 128≤r.length∧r.getD 0 0≠0∧128≤big (r.take (x - 128))∧big (r.take (x - 128))≤r.length - (x - 128)
  ·rw [if_pos h2] at h
   injection h with h
   injection h with h3 h4
   obtain ⟨g1,g2,g3,g4,g5⟩:=h2
   obtain ⟨m,hm⟩:∃ m,x - 128=m+1:=⟨x - 129,by omega⟩
   rw [hm] at h3 g2 g4 g5
   have hgl:(r.take (m+1)).length=m+1:=by rw [List.length_take];omega
   have hg0:(r.take (m+1)).getD 0 0≠0:=by
    rcases r with _ | ⟨y,r⟩
    ·simp at g2
    ·simpa using g3
   have hb:=big_len m _ hgl hg0
   have hm2:m≤5:=by
    rcases Nat.lt_or_ge 5 m with h6 | h6
    ·have:=Nat.pow_le_pow_right (show 0<256 by omega) (show 6≤m by omega)
     omega
    ·exact h6
   have hd:=dig_big 6 (r.take (m+1)) (by omega) (fun y hy=>ho y (List.mem_cons_of_mem _ (List.mem_of_mem_take hy))) (.inr hg0)
   rw [h3] at hd g4
   unfold lenB
   rw [if_neg (by omega),hd,hgl,show u=m+1+1 by omega,List.take_succ_cons,show 128+(m+1)=x by omega]
  ·rw [if_neg h2] at h
   cases h
theorem rd_sound:∀ (N:Nat),(∀ M d c t n c',M.length<N→M.length≤100000→(∀ x∈M,x<256)→rd M d c = .ok (t,n,c')→t.enc=M.take n∧t.sound d=true∧c'=c+t.count) ∧
  (∀ M d c l c',M.length<N→M.length≤100000→(∀ x∈M,x<256)→rds M d c = .ok (l,c')→Tr.encs l=M∧Tr.sounds l d=true∧c'=c+Tr.counts l)
 | 0=>⟨fun M _ _ _ _ _ h=>by omega,fun M _ _ _ _ h=>by omega⟩
 | N+1=>by
  obtain ⟨ih1,ih2⟩:=rd_sound N
  have h1:∀ M d c t n c',M.length<N+1→M.length≤100000→(∀ x∈M,x<256)→rd M d c = .ok (t,n,c')→t.enc=M.take n∧t.sound d=true∧c'=c+t.count:=by
   intro M d c t n c' hM hl ho h
   rcases M with _ | ⟨x,r⟩
   ·rw [rd] at h;cases h
   rw [rd] at h
   by_cases g1:tagOk x=false
   ·rw [if_pos g1] at h;cases h
   rw [if_neg g1] at h
   have g1':tagOk x=true:=by simpa using g1
   by_cases g2:12<d
   ·rw [if_pos g2] at h;cases h
   rw [if_neg g2] at h
   by_cases g3:600≤c
   ·rw [if_pos g3] at h;cases h
   rw [if_neg g3] at h
   rcases g4:lenOf r with _ | ⟨k,u⟩
   ·rw [g4] at h;cases h
   rw [g4] at h
   have hf:=lenOf_fits g4
   have hor:∀ y∈r,y<256:=fun y hy=>ho y (List.mem_cons_of_mem _ hy)
   rw [List.length_cons] at hM hl
   have hlb:=lenOf_is hor (by omega) g4
   have hkl:((r.drop u).take k).length=k:=by rw [List.length_take,List.length_drop];omega
   have htk:(x :: r).take (1+u+k)=x :: (r.take u ++ (r.drop u).take k):=by
    rw [show 1+u+k=(u+k)+1 by omega,List.take_succ_cons,List.take_add]
   dsimp only at h
   by_cases g5:parted x=false
   ·rw [if_pos g5] at h
    injection h with h
    injection h with e1 h
    injection h with e2 e3
    subst e1 e2 e3
    refine ⟨?_,?_,by simp [Tr.count,Tr.counts]⟩
    ·rw [Tr.enc,Tr.encs,List.length_nil,Nat.add_zero,List.append_nil,hkl,←hlb,htk]
    ·rw [Tr.sound,Tr.sounds]
     simp [ok1,g1',g5]
     omega
   rw [if_neg g5] at h
   have g5':parted x=true:=by simpa using g5
   rcases g6:rds ((r.drop u).take k) (d+1) (c+1) with e | ⟨l,c''⟩
   ·rw [g6] at h;cases h
   rw [g6] at h
   injection h with h
   injection h with e1 h
   injection h with e2 e3
   subst e1 e2 e3
   obtain ⟨i1,i2,i3⟩:=ih2 _ _ _ _ _ (by rw [hkl];omega) (by rw [hkl];omega) (fun y hy=>hor y (List.mem_of_mem_drop (List.mem_of_mem_take hy))) g6
   refine ⟨?_,?_,by rw [i3,Tr.count];omega⟩
   ·rw [Tr.enc,i1,List.length_nil,Nat.zero_add,List.nil_append,hkl,←hlb,htk]
   ·rw [Tr.sound,i2]
    simp [ok1,g1',g5']
    omega
  refine ⟨h1,?_⟩
  intro M d c l c' hM hl ho h
  rcases M with _ | ⟨x,r⟩
  ·rw [rds] at h
   injection h with h
   injection h with e1 e2
   subst e1 e2
   exact ⟨rfl,rfl,rfl⟩
  have hpos:0<(x :: r).length:=by simp
  generalize x :: r=M at *
  rcases g1:rd M d c with e | ⟨t,n,c2⟩
  ·rw [rds_err hpos g1] at h;cases h
  rw [rds_ok hpos g1] at h
  have hfit:=(rd_fits (M.length+1)).1 _ _ _ _ _ _ (Nat.lt_succ_self _) g1
  obtain ⟨i1,i2,i3⟩:=h1 _ _ _ _ _ _ hM hl ho g1
  rcases g2:rds (M.drop n) d c2 with e | ⟨l2,c3⟩
  ·rw [g2] at h;cases h
  rw [g2] at h
  injection h with h
  injection h with e1 e2
  subst e1 e2
  obtain ⟨j1,j2,j3⟩:=ih2 _ _ _ _ _ (by rw [List.length_drop];omega) (by rw [List.length_drop];omega) (fun y hy=>ho y (List.mem_of_mem_drop hy)) g2
  refine ⟨?_,?_,?_⟩
  ·rw [List.singleton_append,Tr.encs,i1,j1,List.take_append_drop]
  ·rw [List.singleton_append,Tr.sounds,i2,j2];rfl
  ·rw [List.singleton_append,Tr.counts,j3,i3];omega
/-- Bytes that read as a thing are its bytes. -/
theorem readT_is {M:List Nat} {t:Tr} (ho:∀ x∈M,x<256) (h:readT M = .ok t):t.enc=M∧isT t=true:=by
 unfold readT at h
 by_cases h1:12000<M.length
 ·rw [if_pos h1] at h;cases h
 rw [if_neg h1] at h
 rcases h2:rd M 1 0 with e | ⟨t',n,c⟩
 ·rw [h2] at h;cases h
 rw [h2] at h
 dsimp only at h
 by_cases h3:n<M.length
 ·rw [if_pos h3] at h;cases h
 rw [if_neg h3] at h
 injection h with h
 subst h
 obtain ⟨i1,i2,i3⟩:=(rd_sound (M.length+1)).1 _ _ _ _ _ _ (Nat.lt_succ_self _) (by omega) ho h2
 have hfit:=(rd_fits (M.length+1)).1 _ _ _ _ _ _ (Nat.lt_succ_self _) h2
 have e:t'.enc=M:=by rw [i1,List.take_of_length_le (by omega)]
 refine ⟨e,?_⟩
 unfold isT
 rw [i2,e]
 simp
 omega
end Go.Proofs.YtcibjcgipfpniaaGreatDoor
