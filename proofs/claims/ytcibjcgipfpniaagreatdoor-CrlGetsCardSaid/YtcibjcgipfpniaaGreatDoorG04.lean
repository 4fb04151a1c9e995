/- Words and laws for the statement, part 4. -/
import Derived.RangeFuncNested
import Derived.RangeFuncBound
import Derived.RangeFuncCalls
import Derived.RangeFuncLeaves
import Derived.RangeFuncKeeps
import Derived.RangeFuncFrom
import Derived.Shelf.Abstract
import Derived.Shelf.RegionOpen
import Derived.OwnWalkIn
import Derived.TacticsInMore
import Derived.LoopNIn
import Derived.LoopIn
import Derived.WalkKit
import Derived.Deep.RegionLaw
import Derived.Deep.DrawnRows
import Derived.Laws.ResultCell
import Derived.Laws.Cover3
import Derived.Test.YtcibjcgipfpniaaGreatDoorG01
import Derived.Test.YtcibjcgipfpniaaGreatDoorG02
import Derived.Test.YtcibjcgipfpniaaGreatDoorG03
namespace Go.Proofs.YtcibjcgipfpniaaGreatDoor
open Go.RowKit
set_option linter.unusedVariables false
set_option linter.unusedSimpArgs false

/-- How many bytes stand behind its length. -/
def Tr.inl:Tr→Nat
 | .mk _ body kids=>body.length+(Tr.encs kids).length
def RelI (w:World) (cs:Array Value) (bl:Nat) (l:List Tr) (n:Nat) (v i:Value) (wr:World):Prop :=
 ∃ k:Nat,k≤n∧i = .int .i64 k∧v = .int .i64 ((bl:Int)+((Tr.encs (l.take k)).length:Int))∧Hid (Below w.heap.size w wr)
end Go.Proofs.YtcibjcgipfpniaaGreatDoor
namespace Go.Proofs.YtcibjcgipfpniaaGreatDoor
open Go.RowKit
set_option linter.unusedVariables false
set_option linter.unusedSimpArgs false

/-- Only the slice's own block has turned, and it lies where it lay or in a new one. -/
def Grew (w w':World) (A A':Option Addr):Prop:=w.grownBy w' (blk_of A)∧∀ g,blk_of A'=some g→blk_of A=some g∨w.heap.size≤g
theorem Grew.refl (w:World) (A:Option Addr):Grew w w A A:=⟨World.grownBy.refl w _,fun g hg=>.inl hg⟩
theorem Grew.trans {w w1 w2:World} {A A1 A2:Option Addr} (h:Grew w w1 A A1) (h':Grew w1 w2 A1 A2):Grew w w2 A A2 :=
 ⟨⟨h'.1.os.trans h.1.os,h'.1.tape.trans h.1.tape,h'.1.output.trans h.1.output,Nat.le_trans h.1.size h'.1.size,fun k hk hne=>(h'.1.block k (Nat.lt_of_lt_of_le hk h.1.size) (fun e=>by
  rcases h.2 k e.symm with h1 | h1
  ·exact hne h1.symm
  ·omega)).trans (h.1.block k hk hne)⟩,fun g hg=>by
  rcases h'.2 g hg with h1 | h1
  ·exact h.2 g h1
  ·exact .inr (Nat.le_trans h.1.size h1)⟩
theorem Grew.of_mine {w w':World} {A A':Option Addr} (h:w.grownBy w' (blk_of A)) (hat:blk_of A'=blk_of A∨blk_of A'=some w.heap.size):Grew w w' A A' :=
 ⟨h,fun g hg=>hat.elim (fun e=>.inl (e ▸ hg)) fun e=>.inr (by rw [e] at hg;injection hg with hg;omega)⟩
theorem Grew.below {w w':World} {A A':Option Addr} {B0:Nat} (h:Grew w w' A A') (hB:B0≤w.heap.size) (hA:∀ g,blk_of A=some g→B0≤g):Below B0 w w':=below_blk h.1 hB hA
theorem Grew.holds {w w':World} {A A':Option Addr} {g:Nat} {t:TypeId} {cs:Array Value} (h:Grew w w' A A') (hh:Holds w g t cs) (hne:blk_of A≠some g):Holds w' g t cs:=hh.grown h.1 (fun e=>hne e.symm)
theorem Grew.apart {w w':World} {A A':Option Addr} {g:Nat} (h:Grew w w' A A') (hg:g<w.heap.size) (hne:blk_of A≠some g):blk_of A'≠some g:=fun e=>by
 rcases h.2 g e with h1 | h1
 ·exact hne h1
 ·omega

def RelU (w:World) (B0:Nat) (cs:Array Value) (A:Option Addr) (p:List Nat) (l:List Tr) (n:Nat) (v i:Value) (wr:World):Prop :=
 ∃ (k:Nat) (A':Option Addr) (c' m:Nat),k≤n∧i = .int .i64 k∧v = .slice A' m c'∧Hid ((p ++ Tr.encs (l.take k)).length=m)∧Hid (Mine 5 wr B0 A' c' (p ++ Tr.encs (l.take k)))∧Hid (Grew w wr A A')∧Hid (Holds wr w.heap.size 32 cs)∧Hid (blk_of A'≠some w.heap.size)
end Go.Proofs.YtcibjcgipfpniaaGreatDoor
namespace Go.Proofs.YtcibjcgipfpniaaGreatDoor
open Go.RowKit
set_option linter.unusedVariables false
set_option linter.unusedSimpArgs false

def tagOk (x:Nat):Bool:=x != 0 && x % 32 != 31
def parted (x:Nat):Bool:=x / 32 % 2 == 1
theorem tag_all:∀ x:Fin 256,(((x.val:Nat):Int) != 0 && ((x.val:Nat):Int) % 32 != 31)=tagOk x.val:=by decide +kernel
theorem part_all:∀ x:Fin 256,(Go.bits BinOp.and IntKind.u8 ((x.val:Nat):Int) 32 != 0)=parted x.val:=by decide +kernel
theorem tagged_is (x:Nat) (hx:x<256):(((x:Nat):Int) != 0 && ((x:Nat):Int) % 32 != 31)=tagOk x:=tag_all ⟨x,hx⟩
theorem parted_is (x:Nat) (hx:x<256):(Go.bits BinOp.and IntKind.u8 ((x:Nat):Int) 32 != 0)=parted x:=part_all ⟨x,hx⟩
set_option maxRecDepth 100000 in
theorem tag'_any (w:World) (x:Nat) (hx:x<256) :
  Calls Tryz.prog 96 #[.int .u8 (x:Int)] w fun e w'=>e = .returned (.bool (tagOk x))∧w=w':=by
 have ht:=Lib.hid (tagged_is x hx)
 by_cases h0:x=0
 ·subst h0
  have hT:Hid (tagOk 0=false):=Lib.hid rfl
  clear ht
  go_enter Tryz.func96,Tryz.ntmps96
  go_wp2_with fail
  go_ret
  exact ⟨ret_bool (by rw [hT.out]),rfl⟩
 ·have hne:((x:Int) != 0)=true:=by rw [bne_iff_ne];omega
  have hT:Hid (((x:Int) % 32 != 31)=tagOk x):=Lib.hid (by have:=ht.out;rw [hne,Bool.true_and] at this;exact this)
  clear ht
  go_enter Tryz.func96,Tryz.ntmps96
  go_wp2_with fail
  go_ret
  exact ⟨ret_bool hT.out,rfl⟩
set_option maxRecDepth 100000 in
theorem parted'_any (w:World) (x:Nat) (hx:x<256) :
  Calls Tryz.prog 98 #[.int .u8 (x:Int)] w fun e w'=>e = .returned (.bool (parted x))∧w=w':=by
 have ht:=Lib.hid (parted_is x hx)
 go_enter Tryz.func98,Tryz.ntmps98
 go_wp2_with fail
 go_ret
 exact ⟨ret_bool ht.out,rfl⟩
end Go.Proofs.YtcibjcgipfpniaaGreatDoor
namespace Go.Proofs.YtcibjcgipfpniaaGreatDoor
open Go.RowKit
set_option linter.unusedVariables false
set_option linter.unusedSimpArgs false

/-- Its own tag and parts are such. -/
def ok1 (tag bl n:Nat):Bool:=tagOk tag && !(parted tag && decide (0<bl)) && !(!parted tag && decide (0<n))
mutual
def Tr.sound:Tr→Nat→Bool
 | .mk tag body kids,d=>ok1 tag body.length kids.length && decide (d≤12) && Tr.sounds kids (d+1)
def Tr.sounds:List Tr→Nat→Bool
 | [],_=>true
 | x :: r,d=>x.sound d && Tr.sounds r d
end
def RelB (w:World) (cs:Array Value) (l:List Tr) (d n:Nat) (i:Value) (wr:World):Prop :=
 ∃ k:Nat,k≤n∧i = .int .i64 k∧Hid (∀ j,j<k→(l.getD j default).sound d=true)∧Hid (Below w.heap.size w wr)∧Hid (Holds wr w.heap.size 32 cs)
end Go.Proofs.YtcibjcgipfpniaaGreatDoor
namespace Go.Proofs.YtcibjcgipfpniaaGreatDoor
open Go.RowKit
set_option linter.unusedVariables false
set_option linter.unusedSimpArgs false

/-- A thing that may be. -/
def isT (t:Tr):Bool:=t.sound 1 && decide (t.count≤600) && decide (t.enc.length≤12000)
/-- Its bytes, or none. -/
def bytesT (t:Tr):List Nat:=if isT t=true then t.enc else []
end Go.Proofs.YtcibjcgipfpniaaGreatDoor
namespace Go.Proofs.YtcibjcgipfpniaaGreatDoor
open Go.RowKit Go.Shelf
set_option linter.unusedVariables false
set_option linter.unusedSimpArgs false
attribute [local go_sem] Oper.semAt_some

mutual
/-- All things in a thing, itself first, with how deep each is. -/
def Lt.items:Lt→Nat→List (Nat×Lt)
 | .mk tag ba bc body ka kc kids,d=>(d,.mk tag ba bc body ka kc kids) :: Lt.itemss kids (d+1)
def Lt.itemss:List Lt→Nat→List (Nat×Lt)
 | [],_=>[]
 | x :: r,d=>x.items d ++ Lt.itemss r d
end
/-- One of them, as it is handed on. -/
abbrev It:={ p:Nat×Lt // p.2.tag<256 }
def itv (x:It):Array Value:=#[.int .i64 (x.1.1:Int),x.1.2.val]
/-- No cell turns but those of two blocks. -/
def PassX (c1 c2:Nat) (A B:World):Prop:=A.heap.size≤B.heap.size∧∀ b o v,b≠c1→b≠c2→A.cell? ⟨b,o,none⟩=some v→B.cell? ⟨b,o,none⟩=some v
theorem PassX.refl (c1 c2:Nat) (A:World):PassX c1 c2 A A:=⟨Nat.le_refl _,fun _ _ _ _ _ h=>h⟩
theorem PassX.trans {c1 c2:Nat} {A B C:World} (h:PassX c1 c2 A B) (k:PassX c1 c2 B C):PassX c1 c2 A C:=⟨Nat.le_trans h.1 k.1,fun b o v h1 h2 hv=>k.2 b o v h1 h2 (h.2 b o v h1 h2 hv)⟩
theorem PassX.alloc (c1 c2:Nat) (A:World) (o:Obj):PassX c1 c2 A (A.alloc o):=⟨by simp,fun b o' v _ _ hv=>by
 have hlt:=World.block_lt_of_cell? A _ hv
 rw [World.cell?_alloc_past _ _ _ hlt];exact hv⟩
def RelW (l c1 c2 n:Nat) (J:List It→World→Prop) (pre:List It) (d:Nat) (me:Nat×Lt) (kids:List Lt) (W:World) (i:Value) (wr:World):Prop :=
 ∃ (k:Nat) (ys:List It),k≤n∧i = .int .i64 k∧Hid (ys.map (·.1)=me :: Lt.itemss (kids.take k) (d+1))∧J (pre ++ ys) wr∧Hid (PassX c1 c2 W wr)
end Go.Proofs.YtcibjcgipfpniaaGreatDoor
namespace Go.Proofs.YtcibjcgipfpniaaGreatDoor
open Go.RowKit Go.Shelf
set_option linter.unusedVariables false
set_option linter.unusedSimpArgs false
attribute [local go_sem] Oper.semAt_some

end Go.Proofs.YtcibjcgipfpniaaGreatDoor
namespace Go.Proofs.YtcibjcgipfpniaaGreatDoor
open Go.RowKit Go.Shelf
set_option linter.unusedVariables false
set_option linter.unusedSimpArgs false
attribute [local go_sem] Oper.semAt_some

end Go.Proofs.YtcibjcgipfpniaaGreatDoor
namespace Go.Proofs.YtcibjcgipfpniaaGreatDoor
open Go.RowKit Go.Shelf
set_option linter.unusedVariables false
set_option linter.unusedSimpArgs false
attribute [local go_sem] Oper.semAt_some

/-- Of one thing in a thing: it is not too deep, its tag and parts are such. -/
def fine (p:Nat×Lt):Bool:=ok1 p.2.tag p.2.body.length p.2.kids.length && decide (p.1≤12)
/-- What the loop holds to. -/
def IsI (b0:Nat) (w:World) (cs:Array Value) (pre:List It) (W:World):Prop :=
 (((W.cell? ⟨b0+2,0,none⟩=some (.int .i64 (pre.length:Int))∧W.frozen? ⟨b0+2,0,none⟩=false)∧(W.cell? ⟨b0+1,0,none⟩=some (.bool false)∧W.frozen? ⟨b0+1,0,none⟩=false) ∧
   (W.cell? ⟨b0,0,none⟩=some (cs.getD 0 undef)∧W.cell? ⟨b0,1,none⟩=some (cs.getD 1 undef)∧W.cell? ⟨b0,2,none⟩=some (cs.getD 2 undef)))∧(∀ y∈pre,fine y.1=true)∧pre.length≤600)∧Below b0 w W
def IsX (b0:Nat) (w:World) (c:Code) (pre:List It) (W:World):Prop :=
 (c = .ret∧((∃ y∈pre,fine y.1=false)∨600<pre.length)∧W.cell? ⟨b0+1,0,none⟩=some (.bool false))∧Below b0 w W
/-- The loop's variables. -/
def IsA (b0:Nat) (cs:Array Value) (x:It) (a':Act) (W:World):Prop :=
 ∃ Bx,b0+3≤Bx∧(W.cell? ⟨Bx,0,none⟩=some (.int .u8 (x.1.2.tag:Int))∧W.cell? ⟨Bx,1,none⟩=some (.slice x.1.2.ba x.1.2.body.length x.1.2.bc)∧W.cell? ⟨Bx,2,none⟩=some (.slice x.1.2.ka x.1.2.kids.length x.1.2.kc)) ∧
  a'={ tmps:=#[.agg cs,.pointer (some ⟨b0,0,none⟩),.pointer (some ⟨b0+1,0,none⟩),.pointer (some ⟨b0+2,0,none⟩),.int .i64 (x.1.1:Int),.pointer (some ⟨Bx,0,none⟩),.agg cs,.func (.func 132) #[] #[.pointer (some ⟨b0+3,0,none⟩)],.int .i64 (x.1.1:Int),.agg #[.int .u8 (x.1.2.tag:Int),.slice x.1.2.ba x.1.2.body.length x.1.2.bc,.slice x.1.2.ka x.1.2.kids.length x.1.2.kc],undef,undef,undef,undef,undef,undef,undef,undef,undef,undef,undef,undef,undef,undef,undef,undef,undef,undef,undef,undef,undef,undef,undef,undef,undef,undef,undef,undef,undef,undef,undef,undef,undef,undef,undef,undef,undef,undef],defers:=[] }
end Go.Proofs.YtcibjcgipfpniaaGreatDoor
namespace Go.Proofs.YtcibjcgipfpniaaGreatDoor
open Go.RowKit
set_option linter.unusedVariables false
set_option linter.unusedSimpArgs false

/-- Where a slice goes on behind its first k elements. -/
def dropA (A:Option Addr) (k c:Nat):Option Addr:=if c=k then A else A.map fun a=>a.add k
theorem under22:Tryz.prog.underlying 24 = some (.slice (Tryz.prog.elem 24)):=by kernel_rfl
theorem size22 (W:World):(sizeOf (Tryz.prog.elem 24)).run Tryz.prog W = .ok 1 W:=by kernel_rfl
theorem run_drop (W:World) (A:Option Addr) (n c k:Nat) (hk:k≤n) (hn:n≤c) :
  (Instr.sliceAt 24 (.slice A n c) (some (.int .i64 (k:Int))) none none).run Tryz.prog W = .ok (.slice (dropA A k c) (n - k) (c - k)) W:=by
 rw [run_sliceAt_slice _ _ _ _ _ _ under22,run_slice_l _ _ _ _ _ under22 .i64 (k:Int) (by omega) (by omega),size22]
 simp [Result.andThen,sliced,dropA]
theorem run_take (W:World) (A:Option Addr) (n c k:Nat) (hk:k≤n) (hn:n≤c) :
  (Instr.sliceAt 24 (.slice A n c) none (some (.int .i64 (k:Int))) none).run Tryz.prog W = .ok (.slice (dropA A 0 c) k c) W:=by
 rw [run_sliceAt_slice _ _ _ _ _ _ under22,run_slice_h _ _ _ _ _ under22 .i64 (k:Int) (by omega) (by omega),size22]
 simp [Result.andThen,sliced,dropA]
theorem run_mid (W:World) (A:Option Addr) (n c l k:Nat) (hl:l≤k) (hk:k≤n) (hn:n≤c) :
  (Instr.sliceAt 24 (.slice A n c) (some (.int .i64 (l:Int))) (some (.int .i64 (k:Int))) none).run Tryz.prog W = .ok (.slice (dropA A l c) (k - l) (c - l)) W:=by
 rw [run_sliceAt_slice _ _ _ _ _ _ under22,run_slice_lh _ _ _ _ _ under22 .i64 .i64 (l:Int) (k:Int) (by omega) (by omega) (by omega),size22]
 simp [Result.andThen,sliced,dropA]
theorem Rd.drop {k:IntKind} {w:World} {B:Nat} {A:Option Addr} {c:Nat} {l:List Nat} (h:Rd k w B A c l) (m:Nat) (hm:m≤l.length):Rd k w B (dropA A m c) (c - m) (l.drop m):=by
 refine ⟨by rw [List.length_drop];have:=h.1;omega,by have:=h.2.1;omega,fun hn=>?_⟩
 rw [List.length_drop] at hn
 obtain ⟨b,off,rfl,hb,hc⟩:=h.2.2 (by omega)
 have h1:=h.1
 refine ⟨b,off+m,?_,hb,fun j hj=>?_⟩
 ·unfold dropA
  rw [if_neg (by omega)]
  simp [Addr.add]
 ·rw [List.length_drop] at hj
  rw [Nat.add_assoc,hc (m+j) (by omega)]
  simp [List.getD]
theorem dropA_zero {A:Option Addr} {c:Nat} {k:IntKind} {w:World} {B:Nat} {l:List Nat} (h:Rd k w B A c l):Rd k w B (dropA A 0 c) c l:=by
 have:=h.drop 0 (Nat.zero_le _)
 rw [List.drop_zero,Nat.sub_zero] at this
 exact this
theorem Rd.mid {k:IntKind} {w:World} {B:Nat} {A:Option Addr} {c:Nat} {l:List Nat} (h:Rd k w B A c l) (m n:Nat) (hm:m≤l.length):Rd k w B (dropA A m c) (c - m) ((l.drop m).take n):=(h.drop m hm).cut n

/-- Bytes as a number, the greatest first. -/
def big (l:List Nat):Nat:=l.foldl (fun a x=>a*256+x) 0
theorem big_snoc (l:List Nat) (x:Nat):big (l ++ [x])=big l*256+x:=by simp [big]
theorem foldl_ge:∀ (r:List Nat) (a:Nat),a≤r.foldl (fun a x=>a*256+x) a
 | [],a=>Nat.le_refl _
 | x :: r,a=>by
  rw [List.foldl_cons]
  have:=foldl_ge r (a*256+x)
  omega
/-- A length that bytes begin with, of what is behind it, and how many bytes it has; none: there is none. -/
def lenOf:List Nat→Option (Nat×Nat)
 | []=>none
 | x :: r=>if x<128 then (if x≤r.length then some (x,1) else none)
  else if x≠128∧x - 128≤r.length∧r.getD 0 0≠0∧128≤big (r.take (x - 128))∧big (r.take (x - 128))≤r.length - (x - 128) then some (big (r.take (x - 128)),x - 127) else none
theorem lenOf_fits {b:List Nat} {k u:Nat} (h:lenOf b=some (k,u)):1≤u∧u+k≤b.length:=by
 cases b with
 | nil=>simp [lenOf] at h
 | cons x r =>
  simp only [lenOf] at h
  by_cases h1:x<128
  ·rw [if_pos h1] at h
   by_cases h2:x≤r.length
   ·rw [if_pos h2] at h
    injection h with h
    injection h with h3 h4
    rw [List.length_cons]
    omega
   ·rw [if_neg h2] at h
    cases h
  ·rw [if_neg h1] at h
   by_cases h2:x≠128∧x - 128≤r.length∧r.getD 0 0≠0∧128≤big (r.take (x - 128))∧big (r.take (x - 128))≤r.length - (x - 128)
   ·rw [if_pos h2] at h
    injection h with h
    injection h with h3 h4
    rw [List.length_cons]
    omega
   ·rw [if_neg h2] at h
    cases h
end Go.Proofs.YtcibjcgipfpniaaGreatDoor
namespace Go.Proofs.YtcibjcgipfpniaaGreatDoor
open Go.RowKit
set_option linter.unusedVariables false
set_option linter.unusedSimpArgs false

def LenPost (w:World) (Br:Nat) (A:Option Addr) (n c:Nat):Option (Nat×Nat)→Ending→World→Prop
 | none,e,w'=>e = .returned (.tuple #[.int .i64 0,.bool false])∧w'=w
 | some (k,u),e,w'=>e = .returned (.tuple #[.int .i64 (k:Int),.bool true])∧w'=w.setCell ⟨Br,0,none⟩ (.slice (dropA A u c) (n - u) (c - u))
def RelRL (m:Nat) (rr:List Nat) (w:World) (v i:Value) (wr:World):Prop :=
 ∃ j x:Nat,j≤m∧i = .int .i64 (j:Int)∧v = .int .i64 (x:Int)∧x≤12000∧Hid (x=big (rr.take j))∧wr=w
end Go.Proofs.YtcibjcgipfpniaaGreatDoor
namespace Go.Proofs.YtcibjcgipfpniaaGreatDoor
open Go.RowKit
set_option linter.unusedVariables false
set_option linter.unusedSimpArgs false

theorem flat_length {α β:Type} {f:α→List β} {m:Nat}:∀ {L:List α},(∀ x∈L,(f x).length=m)→(L.flatMap f).length=m*L.length
 | [],_=>rfl
 | x :: L,h=>by
  rw [List.flatMap_cons,List.length_append,h x (by simp),flat_length (L:=L) (fun y hy=>h y (by simp [hy])),List.length_cons,Nat.mul_add,Nat.mul_one,Nat.add_comm]
theorem flat_at {α β:Type} {f:α→List β} {m:Nat}:∀ {L:List α},(∀ x∈L,(f x).length=m)→∀ {i j:Nat} {x:α},L[i]?=some x→j<m→(L.flatMap f)[m*i+j]?=(f x)[j]?
 | [],_,i,j,x,hx,_=>by simp at hx
 | y :: L,h,0,j,x,hx,hj=>by
  obtain rfl:y=x:=by simpa using hx
  rw [List.flatMap_cons,Nat.mul_zero,Nat.zero_add,List.getElem?_append_left (by rw [h y (by simp)];exact hj)]
 | y :: L,h,i+1,j,x,hx,hj=>by
  have hx':L[i]?=some x:=by simpa using hx
  rw [List.flatMap_cons,List.getElem?_append_right (by rw [h y (by simp),Nat.mul_add];omega),h y (by simp),show m*(i+1)+j - m=m*i+j by rw [Nat.mul_add];omega]
  exact flat_at (fun z hz=>h z (by simp [hz])) hx' hj
/-- The slice '.slice A n c' holds the cells vs, sz cells an element, and is its holder's own. -/
def OwnV (e:TypeId) (sz:Nat) (w:World) (A:Option Addr) (c n:Nat) (vs:List Value):Prop:=w.ownsRow 0 e sz (.slice A n c) n vs
section
variable {e:TypeId} {sz:Nat} {w w':World} {A:Option Addr} {c n:Nat} {vs:List Value}
theorem OwnV.nil (e:TypeId) (sz:Nat) (w:World):OwnV e sz w none 0 0 []:=World.ownsRow_nil w 0 e sz
theorem OwnV.lt (h:OwnV e sz w A c n vs) {g:Nat} (hg:blockOf A=some g):g<w.heap.size:=(World.ownsRow.lt h g (by rwa [ownBlock_eq])).2
theorem OwnV.keep (h:OwnV e sz w A c n vs) (hk:∀ g,blockOf A=some g→g<w.heap.size→w'.heap[g]?=w.heap[g]?):OwnV e sz w' A c n vs:=by
 refine ⟨h.1,?_⟩
 rcases h.2 with hn | ⟨g,cap,cur,hv,hB,hgg,rest⟩
 ·exact .inl hn
 ·refine .inr ⟨g,cap,cur,hv,hB,?_,rest⟩
  injection hv with hA _ _
  exact (hk g (by rw [hA];rfl) (Array.getElem?_eq_some_iff.1 hgg).1).trans hgg
theorem OwnV.le (h:OwnV e sz w A c n vs):n≤c∧c≤9223372036854775807:=by
 rcases h.2 with ⟨hv,hn⟩ | ⟨g,cap,cur,hv,hB,hgg,h1,h2,rest⟩
 ·injection hv with _ _ hc
  omega
 ·injection hv with _ _ hc
  unfold maxLen at h2
  omega
theorem OwnV.at_ (h:OwnV e sz w A c n vs) {j:Nat} {v:Value} (hv:vs[j]?=some v):∃ g,A=some ⟨g,0,none⟩∧g<w.heap.size∧w.cell? ⟨g,j,none⟩=some v∧w.frozen? ⟨g,j,none⟩=false:=by
 have hj:j<vs.length:=(List.getElem?_eq_some_iff.1 hv).1
 rcases h.2 with ⟨hx,hn⟩ | ⟨g,cap,cur,hx,hB,hgg,h1,h2,h3,h4⟩
 ·have h1:=h.1
  rw [hn,Nat.zero_mul] at h1
  omega
 ·injection hx with hA _ hc
  have hl:vs.length=n*sz:=h.1
  refine ⟨g,hA,(Array.getElem?_eq_some_iff.1 hgg).1,?_,?_⟩
  ·rw [cell_of_row w g _ cur _ (0,0) hgg,←hv,←h4,List.getElem?_take_of_lt (by omega),Array.getElem?_toList]
  ·simp [World.frozen?,hgg]
theorem OwnV.store {g:Nat} (h:OwnV e 1 w (some ⟨g,0,none⟩) c n vs) {i:Nat} (hi:i<n) (v:Value):OwnV e 1 (w.setCell ⟨g,i,none⟩ v) (some ⟨g,0,none⟩) c n (vs.set i v):=by
 refine ⟨by rw [List.length_set];exact h.1,?_⟩
 rcases h.2 with ⟨hx,hn⟩ | ⟨g',cap,cur,hx,hB,hgg,h1,h2,h3,h4⟩
 ·exact absurd hx (by simp)
 ·injection hx with hA _ hc
  injection hA with hA
  obtain rfl:g=g':=by injection hA
  have hs:=Holds.stored (show Holds w g e cur from hgg) i v
  refine .inr ⟨g,cap,_,by rw [hc],hB,hs,h1,h2,by rw [Array.size_setIfInBounds];exact h3,?_⟩
  rw [Array.toList_setIfInBounds,←h4,List.take_set]
end

/-- An append of one element in a list's order. -/
theorem wpList_pushV {P:Program} (w:World) {ops:Array Oper} {rest:List Oper} {o:Oper} {a:Act} {Q:Exit→Act→World→Prop} (hgd:o.guard=none) (s x:Operand) (t:TypeId)
  (ho:o.op = .call { callee:=.builtin .append,args:=#[s,x],argTypes:=#[t,t] }) (e:TypeId) (z:Value) (sz by_:Nat) (ht:P.underlying t=some (.slice e)) (hi:(P.info? e).map (fun i=>(i.zero,i.size,i.bytes))=some (some z,sz,by_)) (hz:z.cells.size=sz) (hsz0:0<sz) (hby:by_≤100)
  {A:Option Addr} {n c:Nat} {vs:List Value} (hs:a.eval s = .slice A n c) (hw:OwnV e sz w A c n vs)
  {g c2:Nat} {cs:List Value} (hx:a.eval x = .slice (some ⟨g,0,none⟩) 1 c2) (hl:cs.length=sz) (h1:∀ u∈cs,u.oneCell'=true) (hg:Holds w g e cs.toArray) (hn:n≤9000000000000000000∧(n+1)*by_≤140737488355328)
  (hK:∀ g' c' w',OwnV e sz w' (some ⟨g',0,none⟩) c' (n+1) (vs ++ cs)→w.grownBy w' (blockOf A)→(blockOf A=some g'∨g'=w.heap.size)→g' < w'.heap.size→wpList P ops Q rest (a.put o.dst (.slice (some ⟨g',0,none⟩) (n+1) c')) w') :
  wpList P ops Q (o :: rest) a w:=by
 obtain ⟨i,hi',hz',hsize,hbytes⟩:=info_parts hi
 refine wpList_append_lies w hgd s x t ho 0 e i z sz by_ ht hi' hz' hsize hbytes hz hsz0 (.slice A n c) n vs hs hw ⟨g,0,none⟩ 1 c2 cs hx (by omega)
  (fun j u hu=>World.news_of_block (cs:=cs.toArray) hg j u (by simpa using hu)) h1 (by omega) (by unfold maxLen;omega) hn.2 (Nat.zero_le _) w.heap.size rfl ?_
 intro g' cap w' hown' hgr hat hlt
 rw [ownBlock_eq] at hgr hat
 exact hK g' cap w' hown' hgr hat hlt
/-- An append whose run is known. -/
theorem wpList_append_run {P:Program} (w:World) {ops:Array Oper} {rest:List Oper} {o:Oper} {a:Act} {Q:Exit→Act→World→Prop} (hgd:o.guard=none) (s x:Operand) (t:TypeId)
  (ho:o.op = .call { callee:=.builtin .append,args:=#[s,x],argTypes:=#[t,t] }) (hot:o.type=t) (sv xv:Value) (hs:a.eval s=sv) (hx:a.eval x=xv) (v:Value) (w':World) (hrun:(Builtin.append_ #[t,t] t #[sv,xv]).run P w = .ok v w')
  (hK:wpList P ops Q rest (a.put o.dst v) w'):wpList P ops Q (o :: rest) a w:=by
 refine wpList_plain hgd fun K hK'=>?_
 unfold Oper.wp
 simp [execOp,ho,hot,resolve,invoke,builtin,hs,hx,hrun,Result.andThen]
 exact hK' _ _ hK
/-- An append of one element at a step of a region that draws its order. -/
theorem step_pushV {P:Program} (w:World) {ops:Array Oper} {o:Oper} {a:Act} {K:Act→World→Prop} {Q:Exit→Act→World→Prop} {E:Prop} (hgd:o.guard=none) (s x:Operand) (t:TypeId)
  (ho:o.op = .call { callee:=.builtin .append,args:=#[s,x],argTypes:=#[t,t] }) (e:TypeId) (z:Value) (sz by_:Nat) (ht:P.underlying t=some (.slice e)) (hi:(P.info? e).map (fun i=>(i.zero,i.size,i.bytes))=some (some z,sz,by_)) (hz:z.cells.size=sz) (hsz0:0<sz) (hby:by_≤100)
  {A:Option Addr} {n c:Nat} {vs:List Value} (hs:a.eval s = .slice A n c) (hw:OwnV e sz w A c n vs)
  {g c2:Nat} {cs:List Value} (hx:a.eval x = .slice (some ⟨g,0,none⟩) 1 c2) (hl:cs.length=sz) (h1:∀ u∈cs,u.oneCell'=true) (hg:Holds w g e cs.toArray) (hn:n≤9000000000000000000∧(n+1)*by_≤140737488355328)
  (hK:∀ g' c' w',OwnV e sz w' (some ⟨g',0,none⟩) c' (n+1) (vs ++ cs)→w.grownBy w' (blockOf A)→(blockOf A=some g'∨g'=w.heap.size)→g' < w'.heap.size→K (a.put o.dst (.slice (some ⟨g',0,none⟩) (n+1) c')) w') :
  if Region.wanted o (yielded ops a.tmps)=true then Oper.wp P o a w K Q else E:=by
 obtain ⟨i,hi',hz',hsize,hbytes⟩:=info_parts hi
 refine step_append_lies w hgd s x t ho 0 e i z sz by_ ht hi' hz' hsize hbytes hz hsz0 (.slice A n c) n vs hs hw ⟨g,0,none⟩ 1 c2 cs hx (by omega)
  (fun j u hu=>World.news_of_block (cs:=cs.toArray) hg j u (by simpa using hu)) h1 (by omega) (by unfold maxLen;omega) hn.2 (Nat.zero_le _) w.heap.size rfl ?_
 intro g' cap w' hown' hgr hat hlt
 rw [ownBlock_eq] at hgr hat
 exact hK g' cap w' hown' hgr hat hlt

end Go.Proofs.YtcibjcgipfpniaaGreatDoor
namespace Go.Proofs.YtcibjcgipfpniaaGreatDoor
open Go.RowKit
set_option linter.unusedVariables false
set_option linter.unusedSimpArgs false

theorem run_eql_slice_nil {P:Program} (w:World) (t e:TypeId) (a:Option Addr) (l c:Nat) (h:P.underlying t=some (.slice e)):(binOp .eql t (.slice a l c) (.slice none 0 0)).run P w = .ok (.bool a.isNone) w:=by
 simp only [binOp]
 simp [run_equal_slice_nil w t e a l c h]
set_option maxRecDepth 100000 in
set_option maxHeartbeats 4000000 in
theorem clone_any (w:World) (B:Nat) (A:Option Addr) (c n:Nat) (l:List Nat) (hR:Rd .u8 w B A c l) (hn:l.length=n) (hB:B≤w.heap.size) (h12:n≤12000) :
  Calls Tryz.prog 93 #[.slice A n c] w fun e w'=>∃ A' c',e = .returned (.slice A' n c')∧Mine 5 w' w.heap.size A' c' l∧Below w.heap.size w w':=by
 rcases A with _ | a
 ·have hn0:n=0:=by
   rcases Nat.eq_zero_or_pos n with h | h
   ·exact h
   ·obtain ⟨_,_,e,_⟩:=hR.2.2 (by omega)
    cases e
  subst hn0
  obtain rfl:=List.eq_nil_of_length_eq_zero hn
  clear hR
  have hnl:(binOp .eql 24 (.slice none 0 c) (.slice none 0 0)).run Tryz.prog w = .ok (.bool true) w:=run_eql_slice_nil w _ _ none 0 c under22
  go_enter Tryz.func93,Tryz.ntmps93
  go_wp2_with fail
  go_ret
  exact ⟨_,_,rfl,Mine.nil _ _ _,Below.refl _ _⟩
 ·have HM1:Hid (Mine 5 (w.alloc (.cells #[] 5)) w.heap.size (some ⟨w.heap.size,0,none⟩) 0 []):=Lib.hid (Mine.fresh0 w _ (Nat.le_refl _))
  have HQ1:Hid (Below w.heap.size w (w.alloc (.cells #[] 5))):=Lib.hid ((Below.refl _ _).alloc (Nat.le_refl _) _)
  have HR1:Hid (Rd .u8 (w.alloc (.cells #[] 5)) B (some a) c l):=Lib.hid (hR.alloc hB _)
  have HN:=Lib.hid hn
  clear hR hn
  have hnl:(binOp .eql 24 (.slice (some a) n c) (.slice none 0 0)).run Tryz.prog w = .ok (.bool false) w:=run_eql_slice_nil w _ _ (some a) n c under22
  go_enter Tryz.func93,Tryz.ntmps93
  go_wp2_with (first | (refine wpList_mine (B2:=B) _ rfl (.tmp 5) (.tmp 6) 24 rfl 5 Tryz.underlying24 info_u8 rfl HM1.out rfl rfl HR1.out HN.out HQ1.out.size (by omega) ?_;intro A5 c5 W5 hm5 hg5 hat5) | fail)
  have HQ5:Hid (Below w.heap.size w W5):=Lib.hid (HQ1.out.trans (below_blk hg5 HQ1.out.size (fun g hg=>by simp [blk_of] at hg;omega)))
  have HM5:=Lib.hid hm5
  clear hm5 hg5 hat5
  go_wp2_with fail
  go_ret
  exact ⟨_,_,rfl,HM5.out,HQ5.out⟩

mutual
/-- What a window of bytes begins with, so deep, so many things begun before: an error, or a thing, how many bytes it is, how many things are begun. -/
def rd:List Nat→Nat→Nat→Except Nat (Tr×Nat×Nat)
 | [],_,_=>.error 2
 | x :: r,d,c =>
  if tagOk x=false then .error 2 else if 12<d then .error 3 else if 600≤c then .error 4 else
  match lenOf r with
  | none=>.error 2
  | some (k,u) =>
   if parted x=false then .ok (.mk x ((r.drop u).take k) [],1+u+k,c+1)
   else match rds ((r.drop u).take k) (d+1) (c+1) with
    | .error e=>.error e
    | .ok (l,c')=>.ok (.mk x [] l,1+u+k,c')
termination_by b _ _=>(b.length,0)
decreasing_by
 ·apply Prod.Lex.left
  simp
  omega
def rds:List Nat→Nat→Nat→Except Nat (List Tr×Nat)
 | [],_,c=>.ok ([],c)
 | x :: r,d,c =>
  match rd (x :: r) d c with
  | .error e=>.error e
  | .ok (t,n,c')=>match rds (r.drop (n - 1)) d c' with
   | .error e=>.error e
   | .ok (l,c'')=>.ok (t :: l,c'')
termination_by b _ _=>(b.length,1)
decreasing_by
 ·apply Prod.Lex.right
  omega
 ·apply Prod.Lex.left
  simp
  omega
end

theorem rd_fits:∀ (N:Nat),(∀ M d c t n c',M.length<N→rd M d c = .ok (t,n,c')→1≤n∧n≤M.length∧c'≤600)∧(∀ M d c l c',M.length<N→c≤600→rds M d c = .ok (l,c')→c'≤600)
 | 0=>⟨fun M _ _ _ _ _ h=>by omega,fun M _ _ _ _ h=>by omega⟩
 | N+1=>by
  obtain ⟨ih1,ih2⟩:=rd_fits N
  have h1:∀ M d c t n c',M.length<N+1→rd M d c = .ok (t,n,c')→1≤n∧n≤M.length∧c'≤600:=by
   intro M d c t n c' hM h
   rcases M with _ | ⟨x,r⟩
   ·rw [rd] at h;cases h
   rw [rd] at h
   by_cases g1:tagOk x=false
   ·rw [if_pos g1] at h;cases h
   rw [if_neg g1] at h
   by_cases g2:12<d
   ·rw [if_pos g2] at h;cases h
   rw [if_neg g2] at h
   by_cases g3:600≤c
   ·rw [if_pos g3] at h;cases h
   rw [if_neg g3] at h
   rcases g4:lenOf r with _ | ⟨k,u⟩
   ·rw [g4] at h;cases h
   rw [g4] at h
   have hf:=lenOf_fits g4
   rw [List.length_cons] at hM ⊢
   dsimp only at h
   by_cases g5:parted x=false
   ·rw [if_pos g5] at h
    injection h with h
    injection h with _ h
    injection h with h2 h3
    omega
   rw [if_neg g5] at h
   rcases g6:rds ((r.drop u).take k) (d+1) (c+1) with e | ⟨l,c''⟩
   ·rw [g6] at h;cases h
   rw [g6] at h
   injection h with h
   injection h with _ h
   injection h with h2 h3
   have:=ih2 _ _ _ _ _ (by simp;omega) (by omega) g6
   omega
  refine ⟨h1,?_⟩
  intro M d c l c' hM hc h
  rcases M with _ | ⟨x,r⟩
  ·rw [rds] at h
   injection h with h
   injection h with _ h
   omega
  rw [rds] at h
  rcases g1:rd (x :: r) d c with e | ⟨t,n,c2⟩
  ·rw [g1] at h;cases h
  rw [g1] at h
  dsimp only at h
  have h2:=h1 _ _ _ _ _ _ hM g1
  rcases g2:rds (r.drop (n - 1)) d c2 with e | ⟨l2,c3⟩
  ·rw [g2] at h;cases h
  rw [g2] at h
  injection h with h
  injection h with _ h
  have:=ih2 _ _ _ _ _ (by rw [List.length_cons] at hM;simp;omega) h2.2.2 g2
  omega

/-- A thing that lies from block a on, below block b. -/
def TrIn (w:World) (a b:Nat) (t:Lt):Prop:=∀ w':World,(∀ g,a≤g→g<b→w'.heap[g]?=w.heap[g]?)→TrAt w' b t
theorem TrIn.at_ {w:World} {a b:Nat} {t:Lt} (h:TrIn w a b t):TrAt w b t:=h w fun _ _ _=>rfl
theorem TrIn.keep {w w':World} {a b:Nat} {t:Lt} (h:TrIn w a b t) (hk:∀ g,a≤g→g<b→w'.heap[g]?=w.heap[g]?):TrIn w' a b t :=
 fun w2 h2=>h w2 fun g h3 h4=>(h2 g h3 h4).trans (hk g h3 h4)
/-- Things that lie from block lo on, none in the block of the slice A. -/
def Apart (w:World) (lo:Nat) (A:Option Addr) (l:List Lt):Prop:=∀ t∈l,∃ a b,lo≤a∧b≤w.heap.size∧TrIn w a b t∧∀ g,blockOf A=some g→g<a∨b≤g
theorem Apart.nil (w:World) (lo:Nat) (A:Option Addr):Apart w lo A []:=fun t h=>by cases h
theorem Apart.keep {w w':World} {lo:Nat} {A A':Option Addr} {l:List Lt} (h:Apart w lo A l) (hsz:w.heap.size≤w'.heap.size) (hk:∀ g,lo≤g→g<w.heap.size→blockOf A≠some g→w'.heap[g]?=w.heap[g]?) (hA:∀ g,blockOf A'=some g→blockOf A=some g∨w.heap.size≤g):Apart w' lo A' l:=fun t ht=>by
 obtain ⟨a,b,h1,h2,h3,h4⟩:=h t ht
 refine ⟨a,b,h1,by omega,h3.keep fun g h5 h6=>hk g (by omega) (by omega) (fun e=>by have:=h4 g e;omega),fun g hg=>?_⟩
 rcases hA g hg with h7 | h7
 ·exact h4 g h7
 ·exact .inr (by omega)
theorem Apart.more {w:World} {lo:Nat} {A:Option Addr} {l:List Lt} (h:Apart w lo A l) {t:Lt} {a b:Nat} (ha:lo≤a) (hb:b≤w.heap.size) (ht:TrIn w a b t) (hA:∀ g,blockOf A=some g→g<a∨b≤g):Apart w lo A (l ++ [t]):=fun u hu=>by
 rcases List.mem_append.1 hu with hu | hu
 ·exact h u hu
 ·rw [List.mem_singleton.1 hu]
  exact ⟨a,b,ha,hb,ht,hA⟩

def lcell (t:Lt):List Value:=[.int .u8 (t.tag:Int),.slice t.ba t.body.length t.bc,.slice t.ka t.kids.length t.kc]
theorem lcell_cells (t:Lt):(lcell t).toArray=t.cells:=rfl
theorem info_node:(Tryz.prog.info? 32).map (fun i=>(i.zero,i.size,i.bytes))=some (some (.agg #[.int .u8 0,.slice none 0 0,.slice none 0 0]),3,56):=by kernel_rfl
theorem RowT.of_own {w:World} {A:Option Addr} {c n:Nat} {l:List Lt} (hl:l.length=n) (h:OwnV 32 3 w A c n (l.flatMap lcell)):RowT w w.heap.size A c l:=by
 subst hl
 refine ⟨h.le.1,h.le.2,fun hn=>?_⟩
 have at3:∀ j,j<l.length→∀ t,t<3→∀ v,(lcell (l.getD j default))[t]?=some v→∃ g,A=some ⟨g,0,none⟩∧g<w.heap.size∧w.cell? ⟨g,3*j+t,none⟩=some v:=fun j hj t ht v hv=>by
  have e:l[j]?=some (l.getD j default):=by simp [List.getD,hj]
  have f:=flat_at (f:=lcell) (m:=3) (L:=l) (fun _ _=>rfl) e (j:=t) ht
  obtain ⟨g,hA,hlt,hc,_⟩:=h.at_ (j:=3*j+t) (v:=v) (by rw [f];exact hv)
  exact ⟨g,hA,hlt,hc⟩
 obtain ⟨g,rfl,hlt,_⟩:=at3 0 hn 0 (by omega) _ rfl
 refine ⟨g,0,rfl,hlt,fun j hj=>?_⟩
 have k:∀ t,t<3→∀ v,(lcell (l.getD j default))[t]?=some v→w.cell? ⟨g,3*j+t,none⟩=some v:=fun t ht v hv=>by
  obtain ⟨g',e,_,hc⟩:=at3 j hj t ht v hv
  injection e with e
  obtain rfl:g=g':=by injection e
  exact hc
 exact ⟨by rw [show 0+j*3=3*j+0 by omega];exact k 0 (by omega) _ rfl,by rw [show 0+j*3+1=3*j+1 by omega];exact k 1 (by omega) _ rfl,by rw [show 0+j*3+2=3*j+2 by omega];exact k 2 (by omega) _ rfl⟩
/-- A thing of kids that were read. -/
theorem TrIn.of_kids {w:World} {lo c n x:Nat} {A:Option Addr} {l:List Lt} (hx:x<256) (hl:l.length=n) (hlo:lo≤w.heap.size) (h:OwnV 32 3 w A c n (l.flatMap lcell)) (hA:∀ g,blockOf A=some g→lo≤g) (ha:Apart w lo A l):TrIn w lo w.heap.size (.mk x none 0 [] A c l):=fun w' hw'=>by
 rw [trAt_mk]
 have h':OwnV 32 3 w' A c n (l.flatMap lcell):=h.keep fun g hg hlt=>hw' g (hA g hg) hlt
 refine ⟨hx,Rd.nil_ _ _ _,fun y hy=>by simp at hy,?_,fun j hj=>?_⟩
 ·have h2:=RowT.of_own hl h'
  refine ⟨h2.1,h2.2.1,fun hn=>?_⟩
  obtain ⟨b,off,e,hlt,hc⟩:=h2.2.2 hn
  exact ⟨b,off,e,h.lt (by rw [e];rfl),hc⟩
 ·obtain ⟨a,b,h1,h2,h3,_⟩:=ha _ (show l.getD j default∈l by simp [List.getD,hj])
  exact (h3 w' fun g h4 h5=>hw' g (by omega) (by omega)).more' h2
/-- A thing of bytes that were read. -/
theorem TrIn.of_body {w:World} {lo c x:Nat} {A:Option Addr} {l:List Nat} (hx:x<256) (hlo:lo≤w.heap.size) (h:Mine 5 w lo A c l) (ho:∀ y∈l,y<256):TrIn w lo w.heap.size (.mk x A c l none 0 []):=fun w' hw'=>by
 rw [trAt_mk]
 have h':Mine 5 w' lo A c l:=h.keep fun g hg=>hw' g (h.block hg).1 (h.block hg).2
 have h2:=h'.rd
 refine ⟨hx,⟨h2.1,h2.2.1,fun hn=>?_⟩,ho,⟨by simp,by omega,fun hn=>by simp at hn⟩,fun j hj=>by simp at hj⟩
 obtain ⟨b,off,e,hlt,hc⟩:=h2.2.2 hn
 exact ⟨b,off,e,(h.block (by rw [e];rfl)).2,hc⟩
end Go.Proofs.YtcibjcgipfpniaaGreatDoor
