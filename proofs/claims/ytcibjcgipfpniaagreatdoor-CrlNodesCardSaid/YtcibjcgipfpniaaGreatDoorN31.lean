/- Words and laws for the statement, part 31. -/
import Derived.Deep.AppendSrc
import Derived.Lib.LazyBuf
import Derived.Deep.Upon
import Derived.OwnWalk
import Derived.Laws.IdiomStrings
import Derived.Laws.BytesArg
import Derived.Lib.Strings
import Derived.Lib.SlBytesConst
import Derived.Lib.SmallJoins
import Derived.Deep.RegionLaw
import Derived.Deep.DrawnRows
import Derived.Deep.RegionHeld3
import Derived.Test.YtcibjcgipfpniaaGreatDoorN01
import Derived.Test.YtcibjcgipfpniaaGreatDoorN03
import Derived.Test.YtcibjcgipfpniaaGreatDoorN05
import Derived.Test.YtcibjcgipfpniaaGreatDoorN26
import Derived.Test.YtcibjcgipfpniaaGreatDoorN29
import Derived.Test.YtcibjcgipfpniaaGreatDoorN30
namespace Go.Proofs.YtcibjcgipfpniaaGreatDoor
open Go.RowKit
set_option linter.unusedVariables false

section
variable {e:TypeId} {w w':World} {B:Nat} {A:Option Addr} {c:Nat} {l:List Nat}
end

end Go.Proofs.YtcibjcgipfpniaaGreatDoor
namespace Go.Proofs.YtcibjcgipfpniaaGreatDoor
open Go.RowKit
set_option linter.unusedVariables false
attribute [local go_sem ↓] Go.wp_at_zero Go.wp_at_succ

set_option maxRecDepth 100000 in
theorem slice_from (g off k c:Nat) (h1:64≤k) (h2:k≤c) (W:World):(Instr.slice 24 (.slice (some ⟨g,off,none⟩) k c) (some (.int .i64 64)) none none).run Tryz.prog W = .ok (.slice (some ⟨g,if c=64 then off else off+64,none⟩) (k - 64) (c - 64)) W:=by
 have hs:(sizeOf (Tryz.prog.elem 24)).run Tryz.prog W = .ok 1 W:=by kernel_rfl
 have ht:Tryz.prog.underlying 24 = some (.slice (Tryz.prog.elem 24)):=by kernel_rfl
 rw [run_slice_l (P:=Tryz.prog) (w:=W) (t:=24) (ht:=ht) (kl:=.i64) (l:=64) (h0:=by omega) (h1:=by omega),hs]
 have e1:(Int.toNat 64)=64:=rfl
 rw [e1]
 simp only [Result.andThen,sliced,Nat.mul_one,Option.map_some]
 by_cases h:c=64
 ·rw [if_pos h,if_pos h]
 ·rw [if_neg h,if_neg h,Addr.add_lit]
theorem results_row_tmp {P:Program} {fn:Func} {p u:Tmp} {ty:TypeId} (h:fn.results=#[.cell p ty,.tmp u]) (tmps:Array Value) (w:World) (g:Nat) (t:TypeId) (cs:Array Value) (fr:Nat×Nat) (d:TypeDesc)
  (hp:tmps.getD p undef = .pointer (some ⟨g,0,none⟩)) (hg:w.heap[g]?=some (.cells cs t fr))
  (hu:P.underlying ty=some d) (hd:(match d with | .struct _ | .array _ _=>true | _=>false)=true) (hi:(P.info? ty).map (·.size)=some cs.size) (v:Value) (hv:tmps.getD u undef=v) :
  (results fn tmps).run P w = .ok (.tuple #[.agg cs,v]) w:=by
 subst hv
 have hp':tmps[p]?.getD undef = .pointer (some ⟨g,0,none⟩):=by simpa using hp
 simp [results,h,hp',asAddr,run_loadVar_row w g t ty cs fr d hg hu hd hi]
theorem nums_list (s:StS):nums .u32 s.list=#[.int .u32 (s.a:Int),.int .u32 (s.b:Int),.int .u32 (s.c:Int),.int .u32 (s.d:Int),.int .u32 (s.e:Int),.int .u32 (s.f:Int),.int .u32 (s.g:Int),.int .u32 (s.h:Int)]:=rfl
theorem blk_short {s:StS} {l:List Nat} (h:l.length≠64):blk s l=s:=by rw [blk,if_neg h]
theorem block_any (w:World) (s:StS) (hs:s.Ok) (B:Nat) (A:Option Addr) (c n:Nat) (l:List Nat) (hl:l.length=n) (hr:Rd .u8 w B A c l) (hB:B≤w.heap.size) (ho:Oct6 l) (hk:KMet w) :
  Calls Tryz.prog 106 #[.agg (nums .u32 s.list),.slice A n c] w fun e w'=>e = .returned (.agg (nums .u32 (blk s l).list))∧Below w.heap.size w w':=by
 by_cases h:n=64
 ·subst h
  exact block_full w s hs B A c l hl hr hB ho hk
 ·rw [blk_short (by omega)]
  exact block_short w s A c n h
theorem block'_any (w:World) (s:StS) (hs:s.Ok) (B:Nat) (A:Option Addr) (c n:Nat) (l:List Nat) (hl:l.length=n) (hr:Rd .u8 w B A c l) (hB:B≤w.heap.size) (ho:Oct6 l) :
  Calls Tryz.prog 77 #[.agg (nums .u32 s.list),.slice A n c] w fun e w'=>e = .returned (.agg (nums .u32 (blk s l).list))∧Below w.heap.size w w':=by
 by_cases h:n=64
 ·subst h
  exact block'_full w s hs B A c l hl hr hB ho
 ·rw [blk_short (by omega)]
  exact block'_short w s A c n h
/-- So many blocks, one after another. -/
def chain (s:StS) (l:List Nat):Nat→StS
 | 0=>s
 | q+1=>blk (chain s l q) ((l.drop (64*q)).take 64)
theorem chain_ok {s:StS} (h:s.Ok) (l:List Nat):∀ q,(chain s l q).Ok
 | 0=>h
 | q+1=>blk_ok (chain_ok h l q) _
theorem oct_drop {l:List Nat} (h:Oct6 l) (n:Nat):Oct6 (l.drop n):=fun i=>by
 have:=h (n+i)
 simpa [List.getD] using this
theorem oct_take {l:List Nat} (h:Oct6 l) (n:Nat):Oct6 (l.take n):=fun i=>by
 by_cases hi:i<n
 ·rw [getD_take l hi];exact h i
 ·rw [List.getD,List.getElem?_eq_none (by simp;omega)];exact (by decide:(0:Nat)<256)

def RelH (s:StS) (l:List Nat) (n:Nat) (w:World) (B:Nat) (v:Value) (wr:World):Prop :=
 ∃ (q k:Nat) (A:Option Addr) (c:Nat),Hid (64*q+k=n)∧v = .slice A k c∧Mine 5 wr B A c (l.drop (64*q))∧(∀ g,blk_of A=some g→g<w.heap.size)∧Row .u32 95 wr w.heap.size (chain s l q).list∧Holds wr (w.heap.size+1) 95 #[Value.int IntKind.u32 0,Value.int IntKind.u32 0,Value.int IntKind.u32 0,Value.int IntKind.u32 0,Value.int IntKind.u32 0,Value.int IntKind.u32 0,Value.int IntKind.u32 0,Value.int IntKind.u32 0]∧Below w.heap.size w wr
/-- What is left behind whole blocks. -/
def WholePost (s:StS) (l:List Nat) (n:Nat) (w:World) (B:Nat) (e:Ending) (w':World):Prop :=
 ∃ (A:Option Addr) (c:Nat),e = .returned (.tuple #[.agg (nums .u32 (chain s l (n / 64)).list),.slice A (n % 64) c])∧Mine 5 w' B A c (l.drop (64*(n / 64)))∧Below w.heap.size w w'

set_option maxRecDepth 100000 in
set_option maxHeartbeats 1200000 in
theorem whole_any (w:World) (s:StS) (hs:s.Ok) (B:Nat) (A:Option Addr) (c n:Nat) (l:List Nat) (hl:l.length=n) (hr:Mine 5 w B A c l) (ho:Oct6 l) (hk:KMet w) :
  Calls Tryz.prog 74 #[.agg (nums .u32 s.list),.slice A n c] w (WholePost s l n w B):=by
 obtain ⟨W,hW,hrow,hres,hbel,_⟩:=begun w s
 have hrW:Mine 5 W B A c l:=hr.under hbel
 have hlt:∀ g,blk_of A=some g→g<w.heap.size:=fun g hg=>(hr.block hg).2
 have hlc:=hr.le
 have HL:=Lib.hid hl
 have HO:=Lib.hid ho
 have HK:=Lib.hid hk
 have HW:=Lib.hid hW
 have hnc:n≤c:=by omega
 have hc63:c≤9223372036854775807:=by omega
 clear hW hr hl ho hk hlc
 go_enter Tryz.func74,Tryz.ntmps74
 go_wp2_with fail
 rw [←HW.out]
 clear HW
 go_loopw [1] (fun v wr=>RelH s l n w B v wr) (fun v _=>match v with | .slice _ m _=>m | _=>0)
 case atStart=>exact ⟨0,n,A,c,Lib.hid (by omega),rfl,hrW,hlt,hrow,hres,hbel⟩
 case round =>
  clear hrW hlt hrow hres hbel
  obtain ⟨q,k,A,c,HQ,rfl,hmine,hlt,hrow,hres,hbel⟩:=hrel
  obtain ⟨V,hV⟩:∃ V,V=wr:=⟨_,rfl⟩
  subst hV
  have hlc:=hmine.le
  have hdl:(l.drop (64*q)).length=k:=by rw [List.length_drop,HL.out];have:=HQ.out;omega
  rw [hdl] at hlc
  have hkc:=hlc.1
  have hc63':=hlc.2
  by_cases hqn:64≤k
  case pos =>
   obtain ⟨g,off,rfl,hdrop⟩:=hmine.drop (n:=64) (by omega) (by omega)
   have hok:=chain_ok hs l q
   have HN:Hid (chain s l (q+1)=blk (chain s l q) ((l.drop (64*q)).take 64)):=Lib.hid rfl
   have HO2:=Lib.hid (oct_take (oct_drop HO.out (64*q)) 64)
   have HTL:Hid (((l.drop (64*q)).take 64).length=64):=Lib.hid (by rw [List.length_take,hdl];omega)
   have HDD:Hid ((l.drop (64*q)).drop 64=l.drop (64*(q+1))):=Lib.hid (by rw [List.drop_drop];congr 1)
   have hrd64:=hmine.take 64
   have hsl:∀ W,(Instr.slice 24 (.slice (some ⟨g,off,none⟩) k c) (some (.int .i64 64)) none none).run Tryz.prog W = .ok (.slice (some ⟨g,if c=64 then off else off+64,none⟩) (k - 64) (c - 64)) W:=slice_from g off k c hqn hkc
   generalize chain s l q=S at *
   have c0:V.cell? ⟨w.heap.size,0,none⟩=some (.int .u32 (S.a:Int)):=hrow.cell (i:=0) (by show 0<8;omega)
   have c1:V.cell? ⟨w.heap.size,1,none⟩=some (.int .u32 (S.b:Int)):=hrow.cell (i:=1) (by show 1<8;omega)
   have c2:V.cell? ⟨w.heap.size,2,none⟩=some (.int .u32 (S.c:Int)):=hrow.cell (i:=2) (by show 2<8;omega)
   have c3:V.cell? ⟨w.heap.size,3,none⟩=some (.int .u32 (S.d:Int)):=hrow.cell (i:=3) (by show 3<8;omega)
   have c4:V.cell? ⟨w.heap.size,4,none⟩=some (.int .u32 (S.e:Int)):=hrow.cell (i:=4) (by show 4<8;omega)
   have c5:V.cell? ⟨w.heap.size,5,none⟩=some (.int .u32 (S.f:Int)):=hrow.cell (i:=5) (by show 5<8;omega)
   have c6:V.cell? ⟨w.heap.size,6,none⟩=some (.int .u32 (S.g:Int)):=hrow.cell (i:=6) (by show 6<8;omega)
   have c7:V.cell? ⟨w.heap.size,7,none⟩=some (.int .u32 (S.h:Int)):=hrow.cell (i:=7) (by show 7<8;omega)
   have hcI:(64:Int)≤(c:Int):=by omega
   have hcN:64≤c:=by omega
   clear hdl
   go_wp2_with fail
   go_still_tail 3,(by kernel_rfl)
   change wpList _ _ _ _ _ V.drew
   have hrow1:Row .u32 95 V.drew w.heap.size S.list:=hrow
   have hres1:=hres.drew
   have hmine1:Mine 5 V.drew B (some ⟨g,if c=64 then off else off+64,none⟩) (c - 64) ((l.drop (64*q)).drop 64):=hdrop
   have hrd1:Rd .u8 V.drew V.drew.heap.size (some ⟨g,off,none⟩) c ((l.drop (64*q)).take 64):=hrd64
   have hbel1:Below w.heap.size w V.drew:=hbel.drew
   clear hrow hres hdrop hrd64 hbel hmine c0 c1 c2 c3 c4 c5 c6 c7
   generalize V.drew=V1 at *
   have HC:=Lib.hid (block_any V1 S hok _ _ c 64 _ HTL.out hrd1 (Nat.le_refl _) HO2.out (HK.out.under hbel1))
   rw [nums_list] at HC
   go_wp2_with fail
   refine HC.out.mono ?_
   rintro e V2 ⟨rfl,hb2⟩
   have hg0:g<w.heap.size:=hlt g rfl
   have hrow2:=Holds.under hrow1 hb2 (Holds.lt hrow1)
   have hres2:=Holds.under hres1 hb2 (Holds.lt hres1)
   have hmine2:=hmine1.under hb2
   have hbel2:=hbel1.trans (hb2.mono hbel1.size)
   rw [←HN.out]
   clear HC hrow1 hres1 hmine1 hrd1 hbel1 hb2 HN
   have hi:=st_info (chain s l (q+1))
   have hone:=nums_one .u32 (chain s l (q+1)).list
   have hsz:(nums .u32 S.list).size=(nums .u32 (chain s l (q+1)).list).size:=by rw [size8,size8]
   have HR3:=Lib.hid (setRow_heap V2 w.heap.size _ (nums .u32 (chain s l (q+1)).list) 95 (0,0) hrow2)
   have HS3:=Lib.hid (holds_setRow hres2 (show w.heap.size+1≠w.heap.size by omega) (nums .u32 (chain s l (q+1)).list))
   have HM3:=Lib.hid (hmine2.setRow (g:=w.heap.size) (by intro e;injection e with e;change g=_ at e;omega) (nums .u32 (chain s l (q+1)).list))
   have HB3:=Lib.hid (below_setRow hbel2 (Nat.le_refl _) (nums .u32 (chain s l (q+1)).list))
   generalize hS2:chain s l (q+1)=S2 at *
   go_wp2_with (refine wpList_store_row rfl 95 (.tmp 2) (.tmp 12) rfl (w.heap.size) (nums .u32 S2.list) rfl rfl 95 (nums .u32 S.list) hrow2 hi hsz hone ?_)
   generalize V2.setRow w.heap.size (nums .u32 S2.list)=V3 at *
   go_roundw
   case rel=>exact ⟨q+1,k - 64,_,_,Lib.hid (by have:=HQ.out;omega),rfl,by rw [←HDD.out];exact HM3.out,fun g' hg'=>hlt g' hg',by rw [hS2];exact HR3.out,HS3.out,HB3.out⟩
   case measure=>simp;omega
  case neg =>
   have hq:q=n / 64:=by have:=HQ.out;omega
   have hkn:k=n % 64:=by have:=HQ.out;omega
   have hlt2:decide ((64:Int)≤(k:Int))=false:=decide_eq_false (by omega)
   have hlt3:decide (64≤k)=false:=decide_eq_false (by omega)
   have HQ2:=Lib.hid hq
   have HK2:=Lib.hid hkn
   have hi:=st_info (chain s l q)
   have hone:=nums_one .u32 (chain s l q).list
   have HR3:=Lib.hid (setRow_heap V (w.heap.size+1) _ (nums .u32 (chain s l q).list) 95 (0,0) hres)
   have HM3:=Lib.hid (hmine.setRow (g:=w.heap.size+1) (fun e=>by have:=hlt _ e;omega) (nums .u32 (chain s l q).list))
   have HB3:=Lib.hid (below_setRow hbel (Nat.le_succ _) (nums .u32 (chain s l q).list))
   clear hq hkn hdl
   go_wp2_with (first
    | (refine wpList_load_row rfl 95 (.tmp 2) rfl (w.heap.size) rfl 95 (nums .u32 (chain s l q).list) (0,0) _ hrow Tryz.underlying95 rfl hi ?_)
    | (refine wpList_store_row rfl 95 (.tmp 4) (.tmp 15) rfl (w.heap.size+1) (nums .u32 (chain s l q).list) rfl rfl 95 (#[Value.int IntKind.u32 0,Value.int IntKind.u32 0,Value.int IntKind.u32 0,Value.int IntKind.u32 0,Value.int IntKind.u32 0,Value.int IntKind.u32 0,Value.int IntKind.u32 0,Value.int IntKind.u32 0]) hres hi rfl hone ?_))
   refine bodyPost_ret (v:=.tuple #[.agg (nums .u32 (chain s l q).list),.slice A k c]) (results_row_tmp rfl _ _ (w.heap.size+1) 95 (nums .u32 (chain s l q).list) (0,0) _ rfl HR3.out Tryz.underlying95 rfl hi _ rfl) rfl ?_
   exact ⟨A,c,by rw [←HQ2.out,←HK2.out],by rw [←HQ2.out];exact HM3.out,HB3.out⟩
end Go.Proofs.YtcibjcgipfpniaaGreatDoor
namespace Go.Proofs.YtcibjcgipfpniaaGreatDoor
open Go.RowKit
set_option linter.unusedVariables false

/-- The words at the beginning. -/
def H0:StS:=⟨0x6a09e667,0xbb67ae85,0x3c6ef372,0xa54ff53a,0x510e527f,0x9b05688c,0x1f83d9ab,0x5be0cd19⟩
theorem h0_ok:H0.Ok:=by unfold StS.Ok;decide
/-- How many noughts stand behind the 80. -/
def zeros (n:Nat):Nat:=(119 - n % 64) % 64
/-- Byte j of the count of digits. -/
def cnt8 (n j:Nat):Nat:=8*n / 2 ^ (56 - 8*j) % 256
def cntL (n:Nat):Nat→List Nat
 | 0=>[]
 | j+1=>cntL n j ++ [cnt8 n j]
theorem cntL_length (n:Nat):∀ j,(cntL n j).length=j
 | 0=>rfl
 | j+1=>by rw [cntL,List.length_append,cntL_length n j];rfl
/-- The bytes with what stands behind them. -/
def padded (l:List Nat):List Nat:=(l ++ (128 :: List.replicate (zeros l.length) 0)) ++ cntL l.length 8
/-- A word's bytes. -/
def word4 (x:Nat):List Nat:=[x / 16777216 % 256,x / 65536 % 256,x / 256 % 256,x % 256]
def outL (s:StS):Nat→List Nat
 | 0=>[]
 | k+1=>outL s k ++ word4 (s.list.getD k 0)
theorem outL_length (s:StS):∀ k,(outL s k).length=4*k
 | 0=>rfl
 | k+1=>by rw [outL,List.length_append,outL_length s k];simp [word4];omega
/-- A digest. -/
def digest (l:List Nat):List Nat:=outL (chain H0 (padded l) ((padded l).length / 64)) 8
theorem digest_length (l:List Nat):(digest l).length=32:=outL_length _ 8
theorem outL_oct (s:StS):∀ k,∀ x∈outL s k,x<256
 | 0,x,h=>by cases h
 | k+1,x,h=>by
  rw [outL] at h
  rcases List.mem_append.1 h with h | h
  ·exact outL_oct s k x h
  ·simp [word4] at h
   omega
theorem digest_oct (l:List Nat):∀ x∈digest l,x<256:=outL_oct _ 8

theorem chain_pre (s:StS) (l r:List Nat):∀ q,64*q≤l.length→chain s (l ++ r) q=chain s l q
 | 0,_=>rfl
 | q+1,h=>by
  rw [chain,chain,chain_pre s l r q (by omega)]
  congr 1
  rw [List.drop_append_of_le_length (by omega),List.take_append_of_le_length (by rw [List.length_drop];omega)]
theorem chain_add (s:StS) (l:List Nat) (q:Nat):∀ k,chain (chain s l q) (l.drop (64*q)) k=chain s l (q+k)
 | 0=>rfl
 | k+1=>by
  rw [chain,chain_add s l q k,←Nat.add_assoc,chain]
  congr 2
  rw [List.drop_drop]
  congr 1
  omega
/-- A row more: the blocks, what is left. -/
theorem chain_more (s:StS) (M R:List Nat):chain (chain s M (M.length / 64)) (M.drop (64*(M.length / 64)) ++ R) ((M.length % 64+R.length) / 64)=chain s (M ++ R) ((M ++ R).length / 64) ∧
  (M.drop (64*(M.length / 64)) ++ R).drop (64*((M.length % 64+R.length) / 64))=(M ++ R).drop (64*((M ++ R).length / 64)):=by
 have e1:M.drop (64*(M.length / 64)) ++ R=(M ++ R).drop (64*(M.length / 64)):=(List.drop_append_of_le_length (by omega)).symm
 have e2:M.length / 64+(M.length % 64+R.length) / 64=(M ++ R).length / 64:=by rw [List.length_append];omega
 rw [e1]
 constructor
 ·rw [←chain_pre s M R (M.length / 64) (by omega),chain_add,e2]
 ·rw [List.drop_drop]
  congr 1
  omega
theorem oct_app {l r:List Nat} (h:Oct6 l) (h':Oct6 r):Oct6 (l ++ r):=fun i=>by
 rcases Nat.lt_or_ge i l.length with hi | hi
 ·have:=h i
  rwa [List.getD,List.getElem?_append_left hi,←List.getD]
 ·have:=h' (i - l.length)
  rwa [List.getD,List.getElem?_append_right hi,←List.getD]
theorem oct_zeros (n:Nat):Oct6 (128 :: List.replicate n 0):=fun i=>by
 rcases i with _ | i
 ·exact (by decide:128<256)
 ·rw [List.getD,List.getElem?_cons_succ,List.getElem?_replicate]
  split <;> exact (by decide:0<256)
theorem oct_cnt (n:Nat):∀ j,Oct6 (cntL n j)
 | 0=>fun i=>by simp [cntL]
 | j+1=>by
  rw [cntL]
  refine oct_app (oct_cnt n j) fun i=>?_
  rcases i with _ | i
  ·exact Nat.mod_lt _ (by omega)
  ·simp
end Go.Proofs.YtcibjcgipfpniaaGreatDoor
namespace Go.Proofs.YtcibjcgipfpniaaGreatDoor
open Go.RowKit
set_option linter.unusedVariables false
attribute [local go_sem ↓] Go.wp_at_zero Go.wp_at_succ

theorem grown_below {a w:World} {r:Option Nat} {B:Nat} (h:a.grownBy w r) (hr:∀ g,r=some g→B≤g) (hs:B≤a.heap.size):Below B a w :=
 ⟨h.os,h.tape,h.output,h.size,fun b hb=>h.block b (by omega) (fun e=>by have:=hr b e.symm;omega)⟩
/-- An append beside: what lies below the block's bound lives on. -/
theorem Mine.grew {e:TypeId} {w w':World} {B:Nat} {A:Option Addr} {c:Nat} {l:List Nat} (h:Mine e w (B+1) A c l) (hg:w.grownBy w' (blk_of A)) (hs:B+1≤w.heap.size):Below (B+1) w w' :=
 grown_below hg (fun g e=>(h.block e).1) hs

theorem rd_oneSha9 (V:World) (e:TypeId) (x:Nat):Rd .u8 (V.alloc (.cells #[.int .u8 (x:Int)] e)) (V.heap.size+1) (some ⟨V.heap.size,0,none⟩) 1 [x] :=
 ⟨Nat.le_refl _,by decide,fun _=>⟨V.heap.size,0,rfl,Nat.lt_succ_self _,fun j hj=>by
  obtain rfl:j=0:=by simpa using hj
  rw [cell_of_row _ _ _ _ e (0,0) (heap_alloc_new V _)]
  rfl⟩⟩
theorem ix8_any (s:StS) (q:Nat) (h:q<8) (W:World):(Instr.index 95 (.agg (nums .u32 s.list)) (.int .i64 (q:Int))).run Tryz.prog W = .ok (.int .u32 ((s.list.getD q 0:Nat):Int)) W:=by
 obtain ⟨a,b,c,d,e,f,g,i⟩:=s
 rcases (by omega:q=0∨q=1∨q=2∨q=3∨q=4∨q=5∨q=6∨q=7) with rfl | rfl | rfl | rfl | rfl | rfl | rfl | rfl <;> kernel_rfl
theorem st_lt {s:StS} (hs:s.Ok) (q:Nat):s.list.getD q 0<4294967296:=by
 obtain ⟨a,b,c,d,e,f,g,i⟩:=s
 obtain ⟨h0,h1,h2,h3,h4,h5,h6,h7⟩:=hs
 rcases Nat.lt_or_ge q 8 with h | h
 ·rcases (by omega:q=0∨q=1∨q=2∨q=3∨q=4∨q=5∨q=6∨q=7) with rfl | rfl | rfl | rfl | rfl | rfl | rfl | rfl <;> assumption
 ·rw [List.getD,List.getElem?_eq_none (by exact h)];exact (by decide:0<4294967296)
theorem rd_four (V:World) (e:TypeId) (x y z u:Nat):Rd .u8 (V.alloc (.cells #[.int .u8 (x:Int),.int .u8 (y:Int),.int .u8 (z:Int),.int .u8 (u:Int)] e)) (V.heap.size+1) (some ⟨V.heap.size,0,none⟩) 4 [x,y,z,u] :=
 ⟨Nat.le_refl _,by decide,fun _=>⟨V.heap.size,0,rfl,Nat.lt_succ_self _,fun j hj=>by
  rw [cell_of_row _ _ _ _ e (0,0) (heap_alloc_new V _)]
  have hj4:j<4:=hj
  rcases (by omega:j=0∨j=1∨j=2∨j=3) with rfl | rfl | rfl | rfl <;> rfl⟩⟩
theorem rd_word (V:World) (e:TypeId) (x:Nat) (hx:x<4294967296):Rd .u8 (V.alloc (.cells #[.int .u8 ((x:Int) / 16777216),.int .u8 ((x:Int) / 65536 % 256),.int .u8 ((x:Int) / 256 % 256),.int .u8 ((x:Int) % 256)] e)) (V.heap.size+1) (some ⟨V.heap.size,0,none⟩) 4 (word4 x):=by
 have h:=rd_four V e (x / 16777216 % 256) (x / 65536 % 256) (x / 256 % 256) (x % 256)
 have e1:((x / 16777216 % 256:Nat):Int)=(x:Int) / 16777216:=by omega
 have e2:((x / 65536 % 256:Nat):Int)=(x:Int) / 65536 % 256:=by omega
 have e3:((x / 256 % 256:Nat):Int)=(x:Int) / 256 % 256:=by omega
 have e4:((x % 256:Nat):Int)=(x:Int) % 256:=by omega
 rw [e1,e2,e3,e4] at h
 exact h
/-- Noughts behind. -/
def RelZ (w:World) (s:StS) (D:List Nat) (d z0:Nat) (v:Value) (wr:World):Prop :=
 ∃ (z:Nat) (A:Option Addr) (c:Nat),z≤z0∧v = .slice A (d+z) c∧Mine 5 wr (w.heap.size+1) A c (D ++ List.replicate z 0)∧Row .u32 95 wr w.heap.size s.list∧Below w.heap.size w wr
/-- The words' bytes, so many. -/
def RelOSha9 (w:World) (s:StS) (i v:Value) (wr:World):Prop :=
 ∃ (k:Nat) (A:Option Addr) (c:Nat),k≤8∧i = .int .i64 k∧v = .slice A (4*k) c∧Mine 5 wr (w.heap.size+1) A c (outL s k)∧Below w.heap.size w wr∧w.heap.size<wr.heap.size
/-- The count's bytes behind. -/
def RelCS (w:World) (s:StS) (D:List Nat) (d N:Nat) (i v:Value) (wr:World):Prop :=
 ∃ (j:Nat) (A:Option Addr) (c:Nat),j≤8∧i = .int .i64 (56 - 8*(j:Int))∧v = .slice A (d+j) c∧Mine 5 wr (w.heap.size+1) A c (D ++ cntL N j)∧Row .u32 95 wr w.heap.size s.list∧Below w.heap.size w wr

/-- A row of a call. -/
structure Rw where
 a:Option Addr
 c:Nat
 l:List Nat
instance:Inhabited Rw:=⟨⟨none,0,[]⟩⟩
/-- The slice '.slice A rs.length c' reads as these rows. -/
def RdR (w:World) (B:Nat) (A:Option Addr) (c:Nat) (rs:List Rw):Prop :=
 rs.length≤c∧c≤9223372036854775807∧(∀ j,j<rs.length→Rd .u8 w B (rs.getD j default).a (rs.getD j default).c (rs.getD j default).l) ∧
  (0<rs.length→∃ b off,A=some ⟨b,off,none⟩∧b<B∧∀ j,j<rs.length→w.cell? ⟨b,off+j,none⟩=some (.slice (rs.getD j default).a (rs.getD j default).l.length (rs.getD j default).c))
theorem RdR.under {w w':World} {B:Nat} {A:Option Addr} {c:Nat} {rs:List Rw} (h:RdR w B A c rs) (hb:Below B w w'):RdR w' B A c rs :=
 ⟨h.1,h.2.1,fun j hj=>(h.2.2.1 j hj).under hb,fun hn=>by
  obtain ⟨b,off,e,hlt,hc⟩:=h.2.2.2 hn
  exact ⟨b,off,e,hlt,fun j hj=>(hb.cell (p:=⟨b,off+j,none⟩) hlt).trans (hc j hj)⟩⟩
/-- All bytes of the first k rows. -/
def flat (rs:List Rw):Nat→List Nat
 | 0=>[]
 | k+1=>flat rs k ++ (rs.getD k default).l
theorem flat_mono (rs:List Rw):∀ {j k:Nat},j≤k→(flat rs j).length≤(flat rs k).length
 | j,0,h=>by rw [show j=0 by omega];exact Nat.le_refl _
 | j,k+1,h=>by
  rcases Nat.lt_or_ge k j with h1 | h1
  ·rw [show j=k+1 by omega];exact Nat.le_refl _
  ·have:=flat_mono rs h1
   rw [flat,List.length_append];omega
theorem flat_oct (rs:List Rw) (h:∀ j,Oct6 (rs.getD j default).l):∀ k,Oct6 (flat rs k)
 | 0=>fun i=>by simp [flat]
 | k+1=>oct_app (flat_oct rs h k) (h k)

/-- So many rows are worked off. -/
def RelA (rs:List Rw) (w:World) (B:Nat) (A:Option Addr) (c n:Nat) (cnt v i:Value) (wr:World):Prop :=
 ∃ (k:Nat) (A':Option Addr) (c':Nat),k≤n∧i = .int .i64 k∧cnt = .int .u64 ((8*(flat rs k).length:Nat):Int)∧v = .slice A' ((flat rs k).length % 64) c' ∧
  Mine 5 wr (w.heap.size+1) A' c' ((flat rs k).drop (64*((flat rs k).length / 64)))∧Row .u32 95 wr w.heap.size (chain H0 (flat rs k) ((flat rs k).length / 64)).list∧RdR wr B A c rs∧Below w.heap.size w wr

end Go.Proofs.YtcibjcgipfpniaaGreatDoor
namespace Go.Proofs.YtcibjcgipfpniaaGreatDoor
open Go.RowKit
set_option linter.unusedVariables false
attribute [local go_sem ↓] Go.wp_at_zero Go.wp_at_succ

set_option maxRecDepth 100000 in
set_option maxHeartbeats 1200000 in
theorem shaOf_any (w:World) (B:Nat) (A:Option Addr) (c n:Nat) (rs:List Rw) (hn:rs.length=n) (hr:RdR w B A c rs) (hB:B≤w.heap.size) (ho:∀ j,Oct6 (rs.getD j default).l) (hsz:(flat rs n).length≤100000) (hk:KMet w) :
  Calls Tryz.prog 31 #[.slice A n c] w fun e w'=>∃ A' c',e = .returned (.slice A' 32 c')∧Mine 5 w' (w.heap.size+1) A' c' (digest (flat rs n))∧Below w.heap.size w w':=by
 have HN:=Lib.hid hn
 have HO:=Lib.hid ho
 have HK:=Lib.hid hk
 have hlc:=hr.1
 have hc63:=hr.2.1
 have hnc:n≤c:=by omega
 have hbel:Below w.heap.size w (w.alloc (.cells #[.int .u32 1779033703,.int .u32 3144134277,.int .u32 1013904242,.int .u32 2773480762,.int .u32 1359893119,.int .u32 2600822924,.int .u32 528734635,.int .u32 1541459225] 95)):=(Below.refl _ _).alloc (Nat.le_refl _) _
 have hrow:Row .u32 95 (w.alloc (.cells #[.int .u32 1779033703,.int .u32 3144134277,.int .u32 1013904242,.int .u32 2773480762,.int .u32 1359893119,.int .u32 2600822924,.int .u32 528734635,.int .u32 1541459225] 95)) w.heap.size H0.list:=Holds.fresh _ _ _
 have hrr:=hr.under (hbel.mono hB)
 clear hn ho hk hr hlc
 go_enter Tryz.func31,Tryz.ntmps31
 go_wp2_with fail
 generalize w.alloc _=W at *
 go_loopw [4,5,15] (fun cnt v i wr=>RelA rs w B A c n cnt v i wr) (fun _ _ i _=>n - (intOf i).toNat)
 case atStart=>exact ⟨0,none,0,Nat.zero_le _,rfl,rfl,rfl,by simpa [flat] using Mine.nil 5 W (w.heap.size+1),by simpa [flat,chain] using hrow,hrr,hbel⟩
 case round =>
  clear hrow hrr hbel
  obtain ⟨k,A',c',hk,rfl,rfl,rfl,hmine,hrow,hrr,hbel⟩:=hrel
  obtain ⟨V,hV⟩:∃ V,V=wr:=⟨_,rfl⟩
  subst hV
  by_cases hkn:k<n
  case pos =>
   obtain ⟨b,off,rfl,hb,hcell⟩:=hrr.2.2.2 (by have:=HN.out;omega)
   have hcx:=hcell k (by have:=HN.out;omega)
   have hrd:=hrr.2.2.1 k (by have:=HN.out;omega)
   have HF:Hid (flat rs (k+1)=flat rs k ++ (rs.getD k default).l):=Lib.hid rfl
   have hmono:(flat rs (k+1)).length≤100000:=Nat.le_trans (flat_mono rs hkn) hsz
   have hOM:=Lib.hid (flat_oct rs HO.out k)
   have hOR:=Lib.hid (HO.out k)
   rw [HF.out,List.length_append] at hmono
   generalize rs.getD k default=r at *
   obtain ⟨ra,rc,rl⟩:=r
   obtain ⟨m,hm⟩:∃ m,m=rl.length:=⟨_,rfl⟩
   obtain ⟨N,hN⟩:∃ N,N=(flat rs k).length:=⟨_,rfl⟩
   generalize hM:flat rs k=M at *
   have HLEN:=Lib.hid (show (M.drop (64*(N / 64))).length=N % 64 by rw [List.length_drop,←hN];omega)
   have HCM:=Lib.hid (chain_more H0 M rl)
   dsimp only at hcx hrd
   rw [←hm] at hcx hmono
   have HNN:=Lib.hid hN
   rw [←hN] at hmine hrow hmono ⊢
   have hk0:(0:Int)≤(k:Int):=by omega
   have hkI:(k:Int)<(n:Int):=by omega
   have HM:=Lib.hid hm
   have HFM:=Lib.hid hM
   have hNm:N % 64<64:=Nat.mod_lt _ (by omega)
   have hVs:=Holds.lt hrow
   clear hcell hm hN hM
   have hVs1:w.heap.size+1≤V.heap.size:=hVs
   have hi:=st_info (chain H0 M (N / 64))
   have HOKc:=Lib.hid (chain_ok h0_ok M (N / 64))
   have HC3:=Lib.hid (show (flat rs (k+1)).length=N+m by rw [HF.out,List.length_append,←HNN.out,←HM.out])
   have HC1:Hid (chain (chain H0 M (N / 64)) (M.drop (64*(N / 64)) ++ rl) ((N % 64+m) / 64)=chain H0 (flat rs (k+1)) ((flat rs (k+1)).length / 64)):=Lib.hid (by rw [HF.out,HNN.out,HM.out];exact HCM.out.1)
   have HC2:Hid ((M.drop (64*(N / 64)) ++ rl).drop (64*((N % 64+m) / 64))=(flat rs (k+1)).drop (64*((flat rs (k+1)).length / 64))):=Lib.hid (by rw [HF.out,HNN.out,HM.out];exact HCM.out.2)
   have HL2:Hid ((M.drop (64*(N / 64)) ++ rl).length=N % 64+m):=Lib.hid (by rw [List.length_append,HLEN.out,←HM.out])
   have HO2:Hid (Oct6 (M.drop (64*(N / 64)) ++ rl)):=Lib.hid (oct_app (oct_drop hOM.out _) hOR.out)
   clear HCM
   generalize chain H0 M (N / 64)=S at *
   go_wp2_with (first
    | (refine wpList_mine _ rfl (.tmp 25) (.tmp 26) 24 rfl 5 rfl rfl rfl hmine HLEN.out rfl hrd HM.out.symm (by omega) (by omega) ?_;intro A2 c2 V2 hm2 hg2 hb2;have hbb:=hmine.grew hg2 hVs1;have hrow2:=Holds.under hrow hbb (Nat.lt_succ_self _);have hbe2:=hbel.trans (hbb.mono (Nat.le_succ _));have hrr2:=hrr.under (hbb.mono (Nat.le_succ_of_le hB));clear hg2 hb2 hbb)
    | (refine wpList_load_row rfl 95 (.tmp 3) rfl (w.heap.size) rfl 95 (nums .u32 S.list) (0,0) _ hrow2 Tryz.underlying95 rfl hi ?_))
   refine (whole_any V2 S HOKc.out (w.heap.size+1) A2 c2 (N % 64+m) _ HL2.out hm2 HO2.out (HK.out.under hbe2)).mono ?_
   rintro e V3 ⟨A3,c3,rfl,hm3,hb3⟩
   rw [HC2.out] at hm3
   have hrow3:=Holds.under hrow2 hb3 (Holds.lt hrow2)
   have hrr3:=hrr2.under (hb3.mono (Nat.le_trans hB hbe2.size))
   have hbe3:=hbe2.trans (hb3.mono hbe2.size)
   rw [HC1.out]
   clear hrow2 hrr2 hbe2 hb3 hm2 hrow hrr hbel hmine HC1 HC2
   have hi2:=st_info (chain H0 (flat rs (k+1)) ((flat rs (k+1)).length / 64))
   have hone:=nums_one .u32 (chain H0 (flat rs (k+1)) ((flat rs (k+1)).length / 64)).list
   have hsz2:(nums .u32 S.list).size=(nums .u32 (chain H0 (flat rs (k+1)) ((flat rs (k+1)).length / 64)).list).size:=by rw [size8,size8]
   have HR4:=Lib.hid (setRow_heap V3 w.heap.size _ (nums .u32 (chain H0 (flat rs (k+1)) ((flat rs (k+1)).length / 64)).list) 95 (0,0) hrow3)
   have HM4:=Lib.hid (hm3.setRow (g:=w.heap.size) (fun e=>by have:=(hm3.block e).1;omega) (nums .u32 (chain H0 (flat rs (k+1)) ((flat rs (k+1)).length / 64)).list))
   have HB4:=Lib.hid (below_setRow hbe3 (Nat.le_refl _) (nums .u32 (chain H0 (flat rs (k+1)) ((flat rs (k+1)).length / 64)).list))
   have hbs:Below B V3 (V3.setRow w.heap.size (nums .u32 (chain H0 (flat rs (k+1)) ((flat rs (k+1)).length / 64)).list)):=below_setRow (Below.refl B V3) hB _
   have HRR4:=Lib.hid (hrr3.under hbs)
   clear hbs hm3 hrr3 hbe3
   generalize hS2:chain H0 (flat rs (k+1)) ((flat rs (k+1)).length / 64)=S2 at *
   have HS2:=Lib.hid hS2
   clear hS2
   go_wp2_with (refine wpList_store_row rfl 95 (.tmp 3) (.tmp 32) rfl (w.heap.size) (nums .u32 S2.list) rfl rfl 95 (nums .u32 S.list) hrow3 hi2 hsz2 hone ?_)
   generalize V3.setRow w.heap.size (nums .u32 S2.list)=V4 at *
   go_roundw
   case rel=>exact ⟨k+1,A3,c3,by omega,by simp,by rw [HC3.out];congr 1;push_cast;omega,by rw [HC3.out],HM4.out,by rw [HS2.out];exact HR4.out,HRR4.out,HB4.out⟩
   case measure=>simp [intOf];omega
  case neg =>
   obtain rfl:k=n:=by omega
   obtain ⟨N,hN⟩:∃ N,N=(flat rs k).length:=⟨_,rfl⟩
   obtain ⟨M,hM⟩:∃ M,M=flat rs k:=⟨_,rfl⟩
   rw [←hM] at hN hmine hrow hsz ⊢
   rw [←hN] at hmine hrow hsz ⊢
   have hMM:=Lib.hid hM
   have HO1:Hid (Oct6 M):=Lib.hid (hM ▸ flat_oct rs HO.out k)
   have HNN:=Lib.hid hN
   have HLEN:=Lib.hid (show (M.drop (64*(N / 64))).length=N % 64 by rw [List.length_drop,←hN];omega)
   have hkk:decide ((k:Int)<(k:Int))=false:=decide_eq_false (by omega)
   have hNm:N % 64<64:=Nat.mod_lt _ (by omega)
   have hVs:=Holds.lt hrow
   have hVs1:w.heap.size+1≤V.heap.size:=hVs
   clear hM hN hrr
   have hm1:Mine 5 (V.alloc (.cells #[Value.int .u8 128] 5)) (w.heap.size+1) A' c' (M.drop (64*(N / 64))):=hmine.alloc _
   have hr1:Rd .u8 (V.alloc (.cells #[Value.int .u8 128] 5)) (V.heap.size+1) (some ⟨V.heap.size,0,none⟩) 1 [128]:=rd_oneSha9 V _ 128
   have hrow1:Row .u32 95 (V.alloc (.cells #[Value.int .u8 128] 5)) w.heap.size (chain H0 M (N / 64)).list:=Holds.alloc hrow _
   have hbel1:=hbel.alloc (Nat.le_trans (Nat.le_succ _) hVs1) (.cells #[Value.int .u8 128] 5)
   have hVs2:w.heap.size+1≤(V.alloc (.cells #[Value.int .u8 128] 5)).heap.size:=Nat.le_trans hVs1 (by simp)
   have hone1:[128].length=1:=rfl
   have hCO:=Lib.hid (chain_ok h0_ok M (N / 64))
   clear hmine hrow hbel
   go_wp2_with (refine wpList_mine _ rfl (.tmp 35) (.tmp 36) 24 rfl 5 rfl rfl rfl hm1 HLEN.out rfl hr1 hone1 (by omega) (by omega) ?_;intro A2 c2 V2 hm2 hg2 hb2;have hbb:=hm1.grew hg2 hVs2;have hrow2:=Holds.under hrow1 hbb (Nat.lt_succ_self _);have hbe2:=hbel1.trans (hbb.mono (Nat.le_succ _));clear hg2 hb2 hbb hm1 hrow1 hbel1 hr1 hVs1 hVs2 hVs)
   have HD1:Hid ((M.drop (64*(N / 64)) ++ [128]).length=N % 64+1):=Lib.hid (by rw [List.length_append,HLEN.out];rfl)
   go_loopw [5] (fun v wr=>RelZ w (chain H0 M (N / 64)) (M.drop (64*(N / 64)) ++ [128]) (N % 64+1) (zeros N) v wr) (fun v _=>match v with | .slice _ m _=>200 - m | _=>0)
   case atStart=>exact ⟨0,A2,c2,Nat.zero_le _,rfl,by simpa using hm2,hrow2,hbe2⟩
   case round =>
    clear hm2 hrow2 hbe2
    obtain ⟨z,A3,c3,hz,rfl,hm3,hrow3,hbe3⟩:=hrel
    obtain ⟨V3,hV3⟩:∃ V,V=wr:=⟨_,rfl⟩
    subst hV3
    have hzz:zeros N=(119 - N % 64) % 64:=rfl
    have HL3:Hid ((M.drop (64*(N / 64)) ++ [128] ++ List.replicate z 0).length=N % 64+1+z):=Lib.hid (by rw [List.length_append,HD1.out,List.length_replicate])
    generalize zeros N=z0 at *
    by_cases hzn:z<z0
    case pos =>
     have hne:(((N:Int) % 64+1+z) % 64 != 56)=true:=by simp;omega
     have hVs1:w.heap.size+1≤V3.heap.size:=Holds.lt hrow3
     have hm8:Mine 5 (V3.alloc (.cells #[Value.int .u8 0] 5)) (w.heap.size+1) A3 c3 (M.drop (64*(N / 64)) ++ [128] ++ List.replicate z 0):=hm3.alloc _
     have hr8:Rd .u8 (V3.alloc (.cells #[Value.int .u8 0] 5)) (V3.heap.size+1) (some ⟨V3.heap.size,0,none⟩) 1 [0]:=rd_oneSha9 V3 _ 0
     have hrow8:Row .u32 95 (V3.alloc (.cells #[Value.int .u8 0] 5)) w.heap.size (chain H0 M (N / 64)).list:=Holds.alloc hrow3 _
     have hbe8:=hbe3.alloc (Nat.le_trans (Nat.le_succ _) hVs1) (.cells #[Value.int .u8 0] 5)
     have hVs2:w.heap.size+1≤(V3.alloc (.cells #[Value.int .u8 0] 5)).heap.size:=Nat.le_trans hVs1 (by simp)
     have hone1:[0].length=1:=rfl
     clear hm3 hrow3 hbe3
     go_wp2_with (refine wpList_mine _ rfl (.tmp 42) (.tmp 43) 24 rfl 5 rfl rfl rfl hm8 HL3.out rfl hr8 hone1 (by omega) (by omega) ?_;intro A9 c9 V9 hm9 hg9 hb9;have hbb:=hm8.grew hg9 hVs2;have hrow9:=Holds.under hrow8 hbb (Nat.lt_succ_self _);have hbe9:=hbe8.trans (hbb.mono (Nat.le_succ _));clear hg9 hb9 hbb hm8 hrow8 hbe8 hr8 hVs2)
     go_roundw
     case rel=>exact ⟨z+1,A9,c9,by omega,rfl,by rw [List.replicate_succ',←List.append_assoc];exact hm9,hrow9,hbe9⟩
     case measure=>simp;omega
    case neg =>
     obtain rfl:z=z0:=by omega
     have hne:(((N:Int) % 64+1+z) % 64 != 56)=false:=by simp;omega
     have HZZ:=Lib.hid hzz
     have hzl:z≤63:=by omega
     have hz64:Hid ((N % 64+1+z+8) % 64=0):=Lib.hid (by omega)
     clear hzz
     have HE:Hid (M.drop (64*(N / 64)) ++ [128] ++ List.replicate z 0=M.drop (64*(N / 64)) ++ (128 :: List.replicate z 0)):=Lib.hid (by simp)
     rw [HE.out] at hm3 HL3
     go_wp2_with fail
     have HD4:Hid ((M.drop (64*(N / 64)) ++ (128 :: List.replicate z 0)).length=N % 64+1+z):=Lib.hid HL3.out
     generalize hD4:M.drop (64*(N / 64)) ++ (128 :: List.replicate z 0)=D4 at *
     have HD4E:=Lib.hid hD4
     clear hD4 HL3 HD1 HE hne hz hzn
     go_loopw [8,5] (fun i v wr=>RelCS w (chain H0 M (N / 64)) D4 (N % 64+1+z) N i v wr) (fun i _ _=>(intOf i+8).toNat)
     case atStart=>exact ⟨0,A3,c3,Nat.zero_le _,rfl,rfl,by simpa [cntL] using hm3,hrow3,hbe3⟩
     case round =>
      clear hm3 hrow3 hbe3
      obtain ⟨j,A5,c5,hj,rfl,rfl,hm5,hrow5,hbe5⟩:=hrel
      obtain ⟨V5,hV5⟩:∃ V,V=wr:=⟨_,rfl⟩
      subst hV5
      have HL5:Hid ((D4 ++ cntL N j).length=N % 64+1+z+j):=Lib.hid (by rw [List.length_append,HD4.out,cntL_length])
      have hVs1:w.heap.size+1≤V5.heap.size:=Holds.lt hrow5
      by_cases hj8:j<8
      case pos =>
       obtain ⟨sh,hsh⟩:∃ sh:Nat,sh=56 - 8*j:=⟨_,rfl⟩
       have hsI:(56:Int) - 8*(j:Int)=(sh:Int):=by omega
       have hs56:sh≤56:=by omega
       have hsI0:(0:Int)≤(sh:Int):=by omega
       have HCJ:Hid (cnt8 N j=8*N / 2 ^ sh % 256):=Lib.hid (by rw [hsh];rfl)
       have HSH:=Lib.hid hsh
       rw [hsI]
       clear hsh
       have HCX:Hid (((cnt8 N j:Nat):Int)=8*(N:Int) / 2 ^ sh % 256):=Lib.hid (by rw [HCJ.out];push_cast;rfl)
       have hm8:Mine 5 (V5.alloc (.cells #[Value.int .u8 (8*(N:Int) / 2 ^ sh % 256)] 5)) (w.heap.size+1) A5 c5 (D4 ++ cntL N j):=hm5.alloc _
       have hr8:Rd .u8 (V5.alloc (.cells #[Value.int .u8 (8*(N:Int) / 2 ^ sh % 256)] 5)) (V5.heap.size+1) (some ⟨V5.heap.size,0,none⟩) 1 [cnt8 N j]:=by rw [←HCX.out];exact rd_oneSha9 V5 _ (cnt8 N j)
       have hrow8:Row .u32 95 (V5.alloc (.cells #[Value.int .u8 (8*(N:Int) / 2 ^ sh % 256)] 5)) w.heap.size (chain H0 M (N / 64)).list:=Holds.alloc hrow5 _
       have hbe8:=hbe5.alloc (Nat.le_trans (Nat.le_succ _) hVs1) (.cells #[Value.int .u8 (8*(N:Int) / 2 ^ sh % 256)] 5)
       have hVs2:w.heap.size+1≤(V5.alloc (.cells #[Value.int .u8 (8*(N:Int) / 2 ^ sh % 256)] 5)).heap.size:=Nat.le_trans hVs1 (by simp)
       have hone1:[cnt8 N j].length=1:=rfl
       clear hm5 hrow5 hbe5
       go_wp2_with (refine wpList_mine _ rfl (.tmp 49) (.tmp 54) 24 rfl 5 rfl rfl rfl hm8 HL5.out rfl hr8 hone1 (by omega) (by omega) ?_;intro A9 c9 V9 hm9 hg9 hb9;have hbb:=hm8.grew hg9 hVs2;have hrow9:=Holds.under hrow8 hbb (Nat.lt_succ_self _);have hbe9:=hbe8.trans (hbb.mono (Nat.le_succ _));clear hg9 hb9 hbb hm8 hrow8 hbe8 hr8 hVs2)
       go_roundw
       case rel=>exact ⟨j+1,A9,c9,by omega,by have:=HSH.out;congr 1;omega,rfl,by rw [cntL,←List.append_assoc];exact hm9,hrow9,hbe9⟩
       case measure=>have:=HSH.out;simp [intOf];omega
      case neg =>
       have hj8':j=8:=by omega
       rw [show (56:Int) - 8*(j:Int) = -8 by omega]
       rw [hj8'] at HL5 hm5 ⊢
       clear hj8' hj8 hj
       have hi:=st_info (chain H0 M (N / 64))
       have HPE:Hid (M ++ (128 :: List.replicate z 0 ++ cntL N 8)=padded M):=Lib.hid (by unfold padded;rw [List.append_assoc,←HNN.out,show zeros N=z from HZZ.out.symm])
       have HDE:Hid (D4 ++ cntL N 8=M.drop (64*(M.length / 64)) ++ (128 :: List.replicate z 0 ++ cntL N 8)):=Lib.hid (by rw [←HD4E.out,←HNN.out,List.append_assoc])
       have HPC:Hid (chain (chain H0 M (N / 64)) (D4 ++ cntL N 8) ((N % 64+1+z+8) / 64)=chain H0 (padded M) ((padded M).length / 64)):=Lib.hid (by
        have:=(chain_more H0 M (128 :: List.replicate z 0 ++ cntL N 8)).1
        rw [HPE.out,←HDE.out,←HNN.out] at this
        rw [←this]
        congr 1
        rw [List.length_append,List.length_cons,List.length_replicate,cntL_length]
        omega)
       have HO5:Hid (Oct6 (D4 ++ cntL N 8)):=Lib.hid (by rw [HDE.out,←List.append_assoc];exact oct_app (oct_app (oct_drop HO1.out _) (oct_zeros z)) (oct_cnt N 8))
       obtain ⟨m5,hm5e⟩:∃ m5,m5=N % 64+1+z+8:=⟨_,rfl⟩
       have hm5l:m5≤200:=by omega
       rw [←hm5e] at HL5 HPC hz64 ⊢
       clear hm5e
       go_wp2_with (refine wpList_load_row rfl 95 (.tmp 3) rfl (w.heap.size) rfl 95 (nums .u32 (chain H0 M (N / 64)).list) (0,0) _ hrow5 Tryz.underlying95 rfl hi ?_)
       refine (whole_any V5 (chain H0 M (N / 64)) hCO.out (w.heap.size+1) A5 c5 m5 _ HL5.out hm5 HO5.out (HK.out.under hbe5)).mono ?_
       rintro e V6 ⟨A6,c6,rfl,hm6,hb6⟩
       have hrow6:=Holds.under hrow5 hb6 (Holds.lt hrow5)
       have hbe6:=hbe5.trans (hb6.mono hbe5.size)
       rw [HPC.out]
       clear hrow5 hbe5 hb6 hm6 hm5 HPC
       have hi2:=st_info (chain H0 (padded M) ((padded M).length / 64))
       have hone:=nums_one .u32 (chain H0 (padded M) ((padded M).length / 64)).list
       have hsz2:(nums .u32 (chain H0 M (N / 64)).list).size=(nums .u32 (chain H0 (padded M) ((padded M).length / 64)).list).size:=by rw [size8,size8]
       have HR7:=Lib.hid (setRow_heap V6 w.heap.size _ (nums .u32 (chain H0 (padded M) ((padded M).length / 64)).list) 95 (0,0) hrow6)
       have HB7:=Lib.hid (below_setRow hbe6 (Nat.le_refl _) (nums .u32 (chain H0 (padded M) ((padded M).length / 64)).list))
       have HDG:Hid (digest M=outL (chain H0 (padded M) ((padded M).length / 64)) 8):=Lib.hid rfl
       have HSO:=Lib.hid (chain_ok h0_ok (padded M) ((padded M).length / 64))
       generalize chain H0 (padded M) ((padded M).length / 64)=S7 at *
       go_wp2_with (first
        | (refine wpList_store_row rfl 95 (.tmp 3) (.tmp 60) rfl (w.heap.size) (nums .u32 S7.list) rfl rfl 95 (nums .u32 (chain H0 M (N / 64)).list) hrow6 hi2 hsz2 hone ?_;generalize V6.setRow w.heap.size (nums .u32 S7.list)=V7 at *;have hR7:=HR7.out)
        | (refine wpList_load_row rfl 95 (.tmp 3) rfl (w.heap.size) rfl 95 (nums .u32 S7.list) (0,0) _ hR7 Tryz.underlying95 rfl hi2 ?_))
       have hVs7:w.heap.size<V7.heap.size:=Holds.lt hR7
       clear hR7 HR7 hrow6 hbe6 HL5 HD4 HO5 HDE HPE hi hi2 hone hsz2
       go_loopw [63,9] (fun i v wr=>RelOSha9 w S7 i v wr) (fun i _ _=>8 - (intOf i).toNat)
       case atStart=>exact ⟨0,none,0,Nat.zero_le _,rfl,rfl,Mine.nil _ _ _,HB7.out,hVs7⟩
       case round =>
        clear HB7 hVs7
        obtain ⟨q,A8,c8,hq,rfl,rfl,hm8,hbe8,hbig8⟩:=hrel
        obtain ⟨V8,hV8⟩:∃ V,V=wr:=⟨_,rfl⟩
        subst hV8
        by_cases hq8:q<8
        case pos =>
         have hqI:(q:Int)<8:=by omega
         have hq0:(0:Int)≤q:=by omega
         have hix:=ix8_any S7 q hq8
         have HOQ:Hid (outL S7 (q+1)=outL S7 q ++ word4 (S7.list.getD q 0)):=Lib.hid rfl
         have HLQ:=Lib.hid (outL_length S7 q)
         have hxx:=st_lt HSO.out q
         generalize S7.list.getD q 0=x at *
         have hxI:(x:Int)<4294967296:=by omega
         have hVs1:w.heap.size+1≤V8.heap.size:=hbig8
         have hmA:Mine 5 (V8.alloc (.cells #[Value.int .u8 ((x:Int) / 16777216),Value.int .u8 ((x:Int) / 65536 % 256),Value.int .u8 ((x:Int) / 256 % 256),Value.int .u8 ((x:Int) % 256)] 5)) (w.heap.size+1) A8 c8 (outL S7 q):=hm8.alloc _
         have hrA:Rd .u8 (V8.alloc (.cells #[Value.int .u8 ((x:Int) / 16777216),Value.int .u8 ((x:Int) / 65536 % 256),Value.int .u8 ((x:Int) / 256 % 256),Value.int .u8 ((x:Int) % 256)] 5)) (V8.heap.size+1) (some ⟨V8.heap.size,0,none⟩) 4 (word4 x):=rd_word V8 _ x hxx
         have hl4:(word4 x).length=4:=rfl
         have hbeA:=hbe8.alloc (Nat.le_of_lt hbig8) (.cells #[Value.int .u8 ((x:Int) / 16777216),Value.int .u8 ((x:Int) / 65536 % 256),Value.int .u8 ((x:Int) / 256 % 256),Value.int .u8 ((x:Int) % 256)] 5)
         have hVs2:w.heap.size+1≤(V8.alloc (.cells #[Value.int .u8 ((x:Int) / 16777216),Value.int .u8 ((x:Int) / 65536 % 256),Value.int .u8 ((x:Int) / 256 % 256),Value.int .u8 ((x:Int) % 256)] 5)).heap.size:=Nat.le_trans hVs1 (by simp)
         clear hm8 hbe8
         go_wp2_with (refine wpList_mine _ rfl (.tmp 66) (.tmp 78) 24 rfl 5 rfl rfl rfl hmA HLQ.out rfl hrA hl4 (by omega) (by omega) ?_;intro A9 c9 V9 hm9 hg9 hb9;have hbb:=hmA.grew hg9 hVs2;have hbig9:w.heap.size<V9.heap.size:=Nat.lt_of_lt_of_le hVs2 hbb.size;have hbe9:=hbeA.trans (hbb.mono (Nat.le_succ _));clear hg9 hb9 hbb hmA hbeA hrA hVs2)
         go_roundw
         case rel=>exact ⟨q+1,A9,c9,by omega,by simp,rfl,by rw [HOQ.out];exact hm9,hbe9,hbig9⟩
         case measure=>simp [intOf];omega
        case neg =>
         obtain rfl:q=8:=by omega
         go_wp2_with fail
         exact bodyPost_ret (v:=.slice A8 (4*8) c8) (by simp [results,Tryz.results31,go_sem]) rfl ⟨A8,c8,rfl,by rw [←hMM.out,HDG.out];exact hm8,hbe8⟩
end Go.Proofs.YtcibjcgipfpniaaGreatDoor
namespace Go.Proofs.YtcibjcgipfpniaaGreatDoor
open Go.RowKit
set_option linter.unusedVariables false
attribute [local go_sem ↓] Go.wp_at_zero Go.wp_at_succ

/-- A call with one row. -/
theorem rdR_one {W:World} {A:Option Addr} {c:Nat} {l:List Nat} (hr:Rd .u8 W W.heap.size A c l) (e:TypeId):RdR (W.alloc (.cells #[.slice A l.length c] e)) (W.heap.size+1) (some ⟨W.heap.size,0,none⟩) 1 [⟨A,c,l⟩]:=by
 have hb:Below W.heap.size W (W.alloc (.cells #[.slice A l.length c] e)):=(Below.refl _ _).alloc (Nat.le_refl _) _
 refine ⟨Nat.le_refl _,by decide,fun j hj=>?_,fun _=>⟨W.heap.size,0,rfl,Nat.lt_succ_self _,fun j hj=>?_⟩⟩
 ·obtain rfl:j=0:=by simpa using hj
  exact (hr.under hb).more (Nat.le_succ _)
 ·obtain rfl:j=0:=by simpa using hj
  rw [cell_of_row _ _ _ _ e (0,0) (heap_alloc_new W _)]
  rfl
theorem of_one (W:World) (A:Option Addr) (c n:Nat) (l:List Nat) (hn:l.length=n) (hr:Rd .u8 W W.heap.size A c l) (ho:Oct6 l) (hsz:n≤100000) (hk:KMet W) :
  Calls Tryz.prog 31 #[.slice (some ⟨W.heap.size,0,none⟩) 1 1] (W.alloc (.cells #[.slice A n c] 24)) fun e w'=>∃ A' c',e = .returned (.slice A' 32 c')∧Rd .u8 w' w'.heap.size A' c' (digest l)∧Below (W.heap.size+1) (W.alloc (.cells #[.slice A n c] 24)) w':=by
 subst hn
 have hb:Below W.heap.size W (W.alloc (.cells #[.slice A l.length c] 24)):=(Below.refl _ _).alloc (Nat.le_refl _) _
 refine (shaOf_any (W.alloc (.cells #[.slice A l.length c] 24)) (W.heap.size+1) (some ⟨W.heap.size,0,none⟩) 1 1 [⟨A,c,l⟩] rfl (rdR_one hr _) (by simp) (fun j=>?_) (by simpa [flat] using hsz) (hk.under hb)).mono ?_
 ·rcases j with _ | j
  ·exact ho
  ·intro i;exact (by decide:(0:Nat)<256)
 ·rintro e w' ⟨A',c',rfl,hm,hb'⟩
  exact ⟨A',c',rfl,by simpa [flat] using hm.rd,hb'.mono (by simp)⟩

end Go.Proofs.YtcibjcgipfpniaaGreatDoor
namespace Go.Proofs.YtcibjcgipfpniaaGreatDoor
open Go.RowKit
set_option linter.unusedVariables false
attribute [local go_sem ↓] Go.wp_at_zero Go.wp_at_succ

theorem wrap8 (y:Int):IntKind.u8.wrap y=y % 256:=by first | rfl | simp [IntKind.wrap] | (unfold IntKind.wrap;simp;done)
theorem rd_wrap (V:World) (e:TypeId) (x:Nat) (hx:x<4294967296):Rd .u8 (V.alloc (.cells #[.int .u8 (IntKind.u8.wrap ((x:Int) / 16777216)),.int .u8 (IntKind.u8.wrap ((x:Int) / 65536)),.int .u8 (IntKind.u8.wrap ((x:Int) / 256)),.int .u8 (IntKind.u8.wrap (x:Int))] e)) (V.heap.size+1) (some ⟨V.heap.size,0,none⟩) 4 (word4 x):=by
 rw [wrap8,wrap8,wrap8,wrap8,show (x:Int) / 16777216 % 256=(x:Int) / 16777216 by omega]
 exact rd_word V e x hx
/-- Noughts behind. -/
def RelY (w:World) (D:List Nat) (d z0:Nat) (v:Value) (wr:World):Prop :=
 ∃ (z:Nat) (A:Option Addr) (c:Nat),z≤z0∧v = .slice A (d+z) c∧Mine 5 wr w.heap.size A c (D ++ List.replicate z 0)∧Below w.heap.size w wr
/-- The count's bytes behind. -/
def RelV (w:World) (D:List Nat) (d N:Nat) (i v:Value) (wr:World):Prop :=
 ∃ (j:Nat) (A:Option Addr) (c:Nat),j≤8∧i = .int .i64 (56 - 8*(j:Int))∧v = .slice A (d+j) c∧Mine 5 wr w.heap.size A c (D ++ cntL N j)∧Below w.heap.size w wr

/-- The words' bytes, so many, beside the words. -/
def RelES (w:World) (g:Nat) (s:StS) (i v:Value) (wr:World):Prop :=
 ∃ (k:Nat) (A:Option Addr) (c:Nat),k≤8∧i = .int .i64 k∧v = .slice A (4*k) c∧Mine 5 wr (g+1) A c (outL s k)∧Row .u32 95 wr g s.list∧Below w.heap.size w wr
/-- So many blocks are worked off. -/
def RelQ6 (w:World) (g:Nat) (L:List Nat) (m:Nat) (v:Value) (wr:World):Prop :=
 ∃ (q k:Nat) (A:Option Addr) (c:Nat),Hid (64*q+k=m)∧v = .slice A k c∧Mine 5 wr w.heap.size A c (L.drop (64*q))∧(∀ g',blk_of A=some g'→g' < g)∧Row .u32 95 wr g (chain H0 L q).list∧Below w.heap.size w wr

set_option maxRecDepth 100000 in
set_option maxHeartbeats 6000000 in
theorem shaOf'_any (w:World) (B:Nat) (A:Option Addr) (c n:Nat) (l:List Nat) (hn:l.length=n) (hr:Rd .u8 w B A c l) (hB:B≤w.heap.size) (ho:Oct6 l) (hsz:n≤100000) :
  Calls Tryz.prog 33 #[.slice A n c] w fun e w'=>∃ A' c',e = .returned (.slice A' 32 c')∧Rd .u8 w' w'.heap.size A' c' (digest l)∧Below w.heap.size w w':=by
 have HN:=Lib.hid hn
 have HO:=Lib.hid ho
 have hc63:=hr.2.1
 have hlc:=hr.1
 have hnc:n≤c:=by omega
 have hbe0:Below w.heap.size w (w.alloc (.cells #[] 5)):=(Below.refl _ _).alloc (Nat.le_refl _) _
 have hm0:Mine 5 (w.alloc (.cells #[] 5)) w.heap.size (some ⟨w.heap.size,0,none⟩) 0 []:=.inr ⟨w.heap.size,0,#[],rfl,Nat.le_refl _,heap_alloc_new w _,Nat.le_refl _,by omega,Nat.le_refl _,fun j hj=>by simp at hj⟩
 have hr0:=hr.under (hbe0.mono hB)
 have hl0:([]:List Nat).length=0:=rfl
 have hVs0:w.heap.size≤(w.alloc (.cells #[] 5)).heap.size:=hbe0.size
 clear hn ho hlc hr
 go_enter Tryz.func33,Tryz.ntmps33
 have hone1:[128].length=1:=rfl
 go_wp2_with (first
  | (refine wpList_mine _ rfl (.tmp 9) (.tmp 10) 24 rfl 5 rfl rfl rfl hm0 hl0 rfl hr0 HN.out (by omega) (by omega) ?_;intro A1 c1 V1 hm1 hg1 hb1;have hbe1:=hbe0.trans (grown_below hg1 (fun g e=>(hm0.block e).1) hVs0);clear hg1 hb1 hm0 hr0 hbe0 hVs0;rw [List.nil_append] at hm1;have hm8:Mine 5 (V1.alloc (.cells #[Value.int .u8 128] 5)) w.heap.size A1 c1 l:=hm1.alloc _;have hr8:Rd .u8 (V1.alloc (.cells #[Value.int .u8 128] 5)) (V1.heap.size+1) (some ⟨V1.heap.size,0,none⟩) 1 [128]:=rd_oneSha9 V1 _ 128;have hbe8:=hbe1.alloc hbe1.size (.cells #[Value.int .u8 128] 5);have hVs2:w.heap.size≤(V1.alloc (.cells #[Value.int .u8 128] 5)).heap.size:=hbe8.size;clear hm1 hbe1;rw [Nat.zero_add])
  | (refine wpList_mine _ rfl (.tmp 11) (.tmp 12) 24 rfl 5 rfl rfl rfl hm8 HN.out rfl hr8 hone1 (by omega) (by omega) ?_;intro A9 c9 V9 hm9 hg9 hb9;have hbe9:=hbe8.trans (grown_below hg9 (fun g e=>(hm8.block e).1) hVs2);clear hg9 hb9 hm8 hbe8 hr8 hVs2))
 have HD1:Hid ((l ++ [128]).length=n+1):=Lib.hid (by rw [List.length_append,HN.out];rfl)
 go_loopw [3] (fun v wr=>RelY w (l ++ [128]) (n+1) (zeros n) v wr) (fun v _=>match v with | .slice _ m _=>200000 - m | _=>0)
 case atStart=>exact ⟨0,A9,c9,Nat.zero_le _,rfl,by simpa using hm9,hbe9⟩
 case round =>
  clear hm9 hbe9
  obtain ⟨z,A3,c3,hz,rfl,hm3,hbe3⟩:=hrel
  obtain ⟨V3,hV3⟩:∃ V,V=wr:=⟨_,rfl⟩
  subst hV3
  have hzz:zeros n=(119 - n % 64) % 64:=rfl
  have HL3:Hid ((l ++ [128] ++ List.replicate z 0).length=n+1+z):=Lib.hid (by rw [List.length_append,HD1.out,List.length_replicate])
  generalize zeros n=z0 at *
  have hz63:z0≤63:=by omega
  by_cases hzn:z<z0
  case pos =>
   have hne:(((n:Int)+1+z) % 64 != 56)=true:=by simp;omega
   have HZZ:=Lib.hid hzz
   clear hzz
   have hm8:Mine 5 (V3.alloc (.cells #[Value.int .u8 0] 5)) w.heap.size A3 c3 (l ++ [128] ++ List.replicate z 0):=hm3.alloc _
   have hr8:Rd .u8 (V3.alloc (.cells #[Value.int .u8 0] 5)) (V3.heap.size+1) (some ⟨V3.heap.size,0,none⟩) 1 [0]:=rd_oneSha9 V3 _ 0
   have hbe8:=hbe3.alloc hbe3.size (.cells #[Value.int .u8 0] 5)
   have hVs2:w.heap.size≤(V3.alloc (.cells #[Value.int .u8 0] 5)).heap.size:=hbe8.size
   have hone1:[0].length=1:=rfl
   clear hm3 hbe3
   go_wp2_with (refine wpList_mine _ rfl (.tmp 18) (.tmp 19) 24 rfl 5 rfl rfl rfl hm8 HL3.out rfl hr8 hone1 (by omega) (by omega) ?_;intro A9 c9 V9 hm9 hg9 hb9;have hbe9:=hbe8.trans (grown_below hg9 (fun g e=>(hm8.block e).1) hVs2);clear hg9 hb9 hm8 hbe8 hr8 hVs2)
   go_roundw
   case rel=>exact ⟨z+1,A9,c9,by omega,rfl,by rw [List.replicate_succ',←List.append_assoc];exact hm9,hbe9⟩
   case measure=>simp;omega
  case neg =>
   obtain rfl:z=z0:=by omega
   have hne:(((n:Int)+1+z) % 64 != 56)=false:=by simp;omega
   have HZZ:=Lib.hid hzz
   have hz64:Hid ((n+1+z+8) % 64=0):=Lib.hid (by omega)
   clear hzz
   go_wp2_with fail
   have HE:Hid (l ++ [128] ++ List.replicate z 0=l ++ (128 :: List.replicate z 0)):=Lib.hid (by simp)
   rw [HE.out] at hm3 HL3
   have HD4:=Lib.hid HL3.out
   generalize hD4:l ++ (128 :: List.replicate z 0)=D4 at *
   have HD4E:=Lib.hid hD4
   clear hD4 HL3 HE hne hz hzn
   go_loopw [5,3] (fun i v wr=>RelV w D4 (n+1+z) n i v wr) (fun i _ _=>(intOf i+8).toNat)
   case atStart=>exact ⟨0,A3,c3,Nat.zero_le _,rfl,rfl,by simpa [cntL] using hm3,hbe3⟩
   case round =>
    clear hm3 hbe3
    obtain ⟨j,A5,c5,hj,rfl,rfl,hm5,hbe5⟩:=hrel
    obtain ⟨V5,hV5⟩:∃ V,V=wr:=⟨_,rfl⟩
    subst hV5
    have HL5:Hid ((D4 ++ cntL n j).length=n+1+z+j):=Lib.hid (by rw [List.length_append,HD4.out,cntL_length])
    by_cases hj8:j<8
    case pos =>
     obtain ⟨sh,hsh⟩:∃ sh:Nat,sh=56 - 8*j:=⟨_,rfl⟩
     have hsI:(56:Int) - 8*(j:Int)=(sh:Int):=by omega
     have hs56:sh≤56:=by omega
     have hsI0:(0:Int)≤(sh:Int):=by omega
     have HCJ:Hid (cnt8 n j=8*n / 2 ^ sh % 256):=Lib.hid (by rw [hsh];rfl)
     have HSH:=Lib.hid hsh
     rw [hsI]
     clear hsh
     have HCX:Hid (((cnt8 n j:Nat):Int)=(n:Int)*8 / 2 ^ sh % 256):=Lib.hid (by rw [HCJ.out,Nat.mul_comm];push_cast;rfl)
     have hm8:Mine 5 (V5.alloc (.cells #[Value.int .u8 ((n:Int)*8 / 2 ^ sh % 256)] 5)) w.heap.size A5 c5 (D4 ++ cntL n j):=hm5.alloc _
     have hr8:Rd .u8 (V5.alloc (.cells #[Value.int .u8 ((n:Int)*8 / 2 ^ sh % 256)] 5)) (V5.heap.size+1) (some ⟨V5.heap.size,0,none⟩) 1 [cnt8 n j]:=by rw [←HCX.out];exact rd_oneSha9 V5 _ (cnt8 n j)
     have hbe8:=hbe5.alloc hbe5.size (.cells #[Value.int .u8 ((n:Int)*8 / 2 ^ sh % 256)] 5)
     have hVs2:w.heap.size≤(V5.alloc (.cells #[Value.int .u8 ((n:Int)*8 / 2 ^ sh % 256)] 5)).heap.size:=hbe8.size
     have hone1:[cnt8 n j].length=1:=rfl
     clear hm5 hbe5
     go_wp2_with (refine wpList_mine _ rfl (.tmp 29) (.tmp 35) 24 rfl 5 rfl rfl rfl hm8 HL5.out rfl hr8 hone1 (by omega) (by omega) ?_;intro A9 c9 V9 hm9 hg9 hb9;have hbe9:=hbe8.trans (grown_below hg9 (fun g e=>(hm8.block e).1) hVs2);clear hg9 hb9 hm8 hbe8 hr8 hVs2)
     go_roundw
     case rel=>exact ⟨j+1,A9,c9,by omega,by have:=HSH.out;congr 1;omega,rfl,by rw [cntL,←List.append_assoc];exact hm9,hbe9⟩
     case measure=>have:=HSH.out;simp [intOf];omega
    case neg =>
     have hj8':j=8:=by omega
     rw [show (56:Int) - 8*(j:Int) = -8 by omega]
     rw [hj8'] at HL5 hm5 ⊢
     clear hj8' hj8 hj
     have HPE:Hid (D4 ++ cntL n 8=padded l):=Lib.hid (by unfold padded;rw [←HD4E.out,HN.out,show zeros n=z from HZZ.out.symm])
     rw [HPE.out] at hm5 HL5
     obtain ⟨m5,hm5e⟩:∃ m5,m5=n+1+z+8:=⟨_,rfl⟩
     have hm5l:m5≤100200:=by omega
     rw [←hm5e] at HL5 hz64 ⊢
     clear hm5e
     go_wp2_with fail
     have hmA:Mine 5 (V5.alloc (.cells #[.int .u32 1779033703,.int .u32 3144134277,.int .u32 1013904242,.int .u32 2773480762,.int .u32 1359893119,.int .u32 2600822924,.int .u32 528734635,.int .u32 1541459225] 95)) w.heap.size A5 c5 (padded l):=hm5.alloc _
     have hrA:Row .u32 95 (V5.alloc (.cells #[.int .u32 1779033703,.int .u32 3144134277,.int .u32 1013904242,.int .u32 2773480762,.int .u32 1359893119,.int .u32 2600822924,.int .u32 528734635,.int .u32 1541459225] 95)) V5.heap.size H0.list:=Holds.fresh _ _ _
     have hbA:=hbe5.alloc hbe5.size (.cells #[.int .u32 1779033703,.int .u32 3144134277,.int .u32 1013904242,.int .u32 2773480762,.int .u32 1359893119,.int .u32 2600822924,.int .u32 528734635,.int .u32 1541459225] 95)
     have hltA:∀ g',blk_of A5=some g'→g' < V5.heap.size:=fun g' hg'=>(hm5.block hg').2
     have HG:=Lib.hid hbe5.size
     have HOP:Hid (Oct6 (padded l)):=Lib.hid (by unfold padded;exact oct_app (oct_app HO.out (oct_zeros _)) (oct_cnt _ 8))
     clear hm5 hbe5
     generalize V5.alloc (.cells #[.int .u32 1779033703,.int .u32 3144134277,.int .u32 1013904242,.int .u32 2773480762,.int .u32 1359893119,.int .u32 2600822924,.int .u32 528734635,.int .u32 1541459225] 95)=W5 at *
     generalize V5.heap.size=g0 at *
     go_loopw [3] (fun v wr=>RelQ6 w g0 (padded l) m5 v wr) (fun v _=>match v with | .slice _ m _=>m | _=>0)
     case atStart=>exact ⟨0,m5,A5,c5,Lib.hid (by omega),rfl,hmA,hltA,hrA,hbA⟩
     case round =>
      clear hmA hltA hrA hbA
      obtain ⟨q,k,A6,c6,HQ,rfl,hmine,hlt,hrow,hbel⟩:=hrel
      obtain ⟨V6,hV6⟩:∃ V,V=wr:=⟨_,rfl⟩
      subst hV6
      have hlc:=hmine.le
      have hdl:((padded l).drop (64*q)).length=k:=by rw [List.length_drop,HL5.out];have:=HQ.out;omega
      rw [hdl] at hlc
      have hkc:=hlc.1
      have hc63':=hlc.2
      by_cases hqn:0<k
      case pos =>
       have hk64:64≤k:=by have:=HQ.out;have:=hz64.out;omega
       have hkI:(0:Int)<(k:Int):=by omega
       obtain ⟨g,off,rfl,hdrop⟩:=hmine.drop (n:=64) (by omega) (by omega)
       have hok:=chain_ok h0_ok (padded l) q
       have HN1:Hid (chain H0 (padded l) (q+1)=blk (chain H0 (padded l) q) (((padded l).drop (64*q)).take 64)):=Lib.hid rfl
       have HO2:=Lib.hid (oct_take (oct_drop HOP.out (64*q)) 64)
       have HTL:Hid ((((padded l).drop (64*q)).take 64).length=64):=Lib.hid (by rw [List.length_take,hdl];omega)
       have HDD:Hid (((padded l).drop (64*q)).drop 64=(padded l).drop (64*(q+1))):=Lib.hid (by rw [List.drop_drop];congr 1)
       have hrd64:=hmine.take 64
       have hsl:∀ W,(Instr.slice 24 (.slice (some ⟨g,off,none⟩) k c6) (some (.int .i64 64)) none none).run Tryz.prog W = .ok (.slice (some ⟨g,if c6=64 then off else off+64,none⟩) (k - 64) (c6 - 64)) W:=slice_from g off k c6 hk64 hkc
       generalize chain H0 (padded l) q=S at *
       have c0:V6.cell? ⟨g0,0,none⟩=some (.int .u32 (S.a:Int)):=hrow.cell (i:=0) (by show 0<8;omega)
       have c1:V6.cell? ⟨g0,1,none⟩=some (.int .u32 (S.b:Int)):=hrow.cell (i:=1) (by show 1<8;omega)
       have c2:V6.cell? ⟨g0,2,none⟩=some (.int .u32 (S.c:Int)):=hrow.cell (i:=2) (by show 2<8;omega)
       have c3:V6.cell? ⟨g0,3,none⟩=some (.int .u32 (S.d:Int)):=hrow.cell (i:=3) (by show 3<8;omega)
       have c4:V6.cell? ⟨g0,4,none⟩=some (.int .u32 (S.e:Int)):=hrow.cell (i:=4) (by show 4<8;omega)
       have c5_:V6.cell? ⟨g0,5,none⟩=some (.int .u32 (S.f:Int)):=hrow.cell (i:=5) (by show 5<8;omega)
       have c6_:V6.cell? ⟨g0,6,none⟩=some (.int .u32 (S.g:Int)):=hrow.cell (i:=6) (by show 6<8;omega)
       have c7:V6.cell? ⟨g0,7,none⟩=some (.int .u32 (S.h:Int)):=hrow.cell (i:=7) (by show 7<8;omega)
       have hcI:(64:Int)≤(c6:Int):=by omega
       have hcN:64≤c6:=by omega
       clear hdl
       go_wp2_with fail
       go_still_tail 3,(by kernel_rfl)
       change wpList _ _ _ _ _ V6.drew
       have hrow1:Row .u32 95 V6.drew g0 S.list:=hrow
       have hmine1:Mine 5 V6.drew w.heap.size (some ⟨g,if c6=64 then off else off+64,none⟩) (c6 - 64) (((padded l).drop (64*q)).drop 64):=hdrop
       have hrd1:Rd .u8 V6.drew V6.drew.heap.size (some ⟨g,off,none⟩) c6 (((padded l).drop (64*q)).take 64):=hrd64
       have hbel1:Below w.heap.size w V6.drew:=hbel.drew
       clear hrow hdrop hrd64 hbel hmine c0 c1 c2 c3 c4 c5_ c6_ c7
       generalize V6.drew=V7 at *
       have HC:=Lib.hid (block'_any V7 S hok _ _ c6 64 _ HTL.out hrd1 (Nat.le_refl _) HO2.out)
       rw [nums_list] at HC
       go_wp2_with fail
       refine HC.out.mono ?_
       rintro e V8 ⟨rfl,hb2⟩
       have hg0:g<g0:=hlt g rfl
       have hrow2:=Holds.under hrow1 hb2 (Holds.lt hrow1)
       have hmine2:=hmine1.under hb2
       have hbel2:=hbel1.trans (hb2.mono hbel1.size)
       rw [←HN1.out]
       clear HC hrow1 hmine1 hrd1 hbel1 hb2 HN1
       have hi:=st_info (chain H0 (padded l) (q+1))
       have hone:=nums_one .u32 (chain H0 (padded l) (q+1)).list
       have hsz8:(nums .u32 S.list).size=(nums .u32 (chain H0 (padded l) (q+1)).list).size:=by rw [size8,size8]
       have HR3:=Lib.hid (setRow_heap V8 g0 _ (nums .u32 (chain H0 (padded l) (q+1)).list) 95 (0,0) hrow2)
       have HM3:=Lib.hid (hmine2.setRow (g:=g0) (by intro e;injection e with e;change g=_ at e;omega) (nums .u32 (chain H0 (padded l) (q+1)).list))
       have HB3:=Lib.hid (below_setRow hbel2 HG.out (nums .u32 (chain H0 (padded l) (q+1)).list))
       generalize hS2:chain H0 (padded l) (q+1)=S2 at *
       go_wp2_with (refine wpList_store_row rfl 95 (.tmp 6) (.tmp 44) rfl g0 (nums .u32 S2.list) rfl rfl 95 (nums .u32 S.list) hrow2 hi hsz8 hone ?_)
       generalize V8.setRow g0 (nums .u32 S2.list)=V9 at *
       go_roundw
       case rel=>exact ⟨q+1,k - 64,_,_,Lib.hid (by have:=HQ.out;omega),rfl,by rw [←HDD.out];exact HM3.out,fun g' hg'=>hlt g' hg',by rw [hS2];exact HR3.out,HB3.out⟩
       case measure=>simp;omega
      case neg =>
       obtain rfl:k=0:=by omega
       have HDG:Hid (digest l=outL (chain H0 (padded l) q) 8):=Lib.hid (by
        unfold digest
        rw [HL5.out,show m5 / 64=q by have:=HQ.out;omega])
       have HSO:=Lib.hid (chain_ok h0_ok (padded l) q)
       clear hmine hdl
       generalize chain H0 (padded l) q=S7 at *
       go_wp2_with fail
       go_loopw [8,7] (fun i v wr=>RelES w g0 S7 i v wr) (fun i _ _=>8 - (intOf i).toNat)
       case atStart=>exact ⟨0,none,0,Nat.zero_le _,rfl,rfl,Mine.nil _ _ _,hrow,hbel⟩
       case round =>
        clear hrow hbel
        obtain ⟨r,A8,c8,hr8,rfl,rfl,hm8,hrow8,hbe8⟩:=hrel
        obtain ⟨V9,hV9⟩:∃ V,V=wr:=⟨_,rfl⟩
        subst hV9
        by_cases hq8:r<8
        case pos =>
         have hqI:(r:Int)<8:=by omega
         have hq0:(0:Int)≤r:=by omega
         have hcx:V9.cell? ⟨g0,r,none⟩=some (.int .u32 ((S7.list.getD r 0:Nat):Int)):=hrow8.cell (i:=r) (by show r<8;exact hq8)
         have HOQ:Hid (outL S7 (r+1)=outL S7 r ++ word4 (S7.list.getD r 0)):=Lib.hid rfl
         have HLQ:=Lib.hid (outL_length S7 r)
         have hxx:=st_lt HSO.out r
         have hbig8:=Holds.lt hrow8
         generalize S7.list.getD r 0=x at *
         have hxI:(x:Int)<4294967296:=by omega
         go_wp2_with fail
         have hmA:Mine 5 (V9.drew.alloc (.cells #[Value.int .u8 (IntKind.u8.wrap ((x:Int) / 16777216)),Value.int .u8 (IntKind.u8.wrap ((x:Int) / 65536)),Value.int .u8 (IntKind.u8.wrap ((x:Int) / 256)),Value.int .u8 (IntKind.u8.wrap (x:Int))] 5)) (g0+1) A8 c8 (outL S7 r):=Mine.alloc (w:=V9.drew) hm8 _
         have hrA:Rd .u8 (V9.drew.alloc (.cells #[Value.int .u8 (IntKind.u8.wrap ((x:Int) / 16777216)),Value.int .u8 (IntKind.u8.wrap ((x:Int) / 65536)),Value.int .u8 (IntKind.u8.wrap ((x:Int) / 256)),Value.int .u8 (IntKind.u8.wrap (x:Int))] 5)) (V9.heap.size+1) (some ⟨V9.heap.size,0,none⟩) 4 (word4 x):=rd_wrap V9.drew _ x hxx
         have hl4:(word4 x).length=4:=rfl
         have hbeA:=hbe8.drew.alloc hbe8.size (.cells #[Value.int .u8 (IntKind.u8.wrap ((x:Int) / 16777216)),Value.int .u8 (IntKind.u8.wrap ((x:Int) / 65536)),Value.int .u8 (IntKind.u8.wrap ((x:Int) / 256)),Value.int .u8 (IntKind.u8.wrap (x:Int))] 5)
         have hrowA:Row .u32 95 (V9.drew.alloc (.cells #[Value.int .u8 (IntKind.u8.wrap ((x:Int) / 16777216)),Value.int .u8 (IntKind.u8.wrap ((x:Int) / 65536)),Value.int .u8 (IntKind.u8.wrap ((x:Int) / 256)),Value.int .u8 (IntKind.u8.wrap (x:Int))] 5)) g0 S7.list:=Holds.alloc (w:=V9.drew) hrow8 _
         have hVs2:g0+1≤(V9.drew.alloc (.cells #[Value.int .u8 (IntKind.u8.wrap ((x:Int) / 16777216)),Value.int .u8 (IntKind.u8.wrap ((x:Int) / 65536)),Value.int .u8 (IntKind.u8.wrap ((x:Int) / 256)),Value.int .u8 (IntKind.u8.wrap (x:Int))] 5)).heap.size:=Nat.le_trans hbig8 (by simp)
         have HMA:=Lib.hid hmA
         have HRA:=Lib.hid hrA
         have HBA:=Lib.hid hbeA
         have HWA:=Lib.hid hrowA
         have HVA:=Lib.hid hVs2
         have HL4:=Lib.hid hl4
         have HW0:=Lib.hid hrow8
         clear hm8 hbe8 hrow8 hmA hrA hl4 hbeA hrowA hVs2
         have HXX:=Lib.hid hxx;have HBG:=Lib.hid hbig8
         clear hxx hbig8 HDG HSO HOP HPE HD4E HD4 HL5 HZZ HD1 HN HO hz64 hm5l hc63 hnc hsz
         have HCA:Hid (∀ o,(V9.drew.alloc o).cell? ⟨g0,r,none⟩=some (.int .u32 (x:Int))):=Lib.hid fun o=>(World.cell?_alloc_past _ g0 r (Holds.lt HW0.out)).trans hcx
         have HCB:Hid (∀ o,(V9.alloc o).drew.cell? ⟨g0,r,none⟩=some (.int .u32 (x:Int))):=Lib.hid fun o=>(World.cell?_alloc_past (w:=V9) _ g0 r (Holds.lt HW0.out)).trans hcx
         have HCX:=Lib.hid hcx
         go_region_held3 (fun w'=>w'.cell? ⟨g0,r,none⟩=some (.int .u32 (x:Int))) (first | exact HCX.out | exact HCA.out _ | exact HCB.out _ | exact HCZ.out) ((refine step_mine (P:=Tryz.prog) ((V9.alloc (.cells #[Value.int .u8 (IntKind.u8.wrap ((x:Int) / 16777216)),Value.int .u8 (IntKind.u8.wrap ((x:Int) / 65536)),Value.int .u8 (IntKind.u8.wrap ((x:Int) / 256)),Value.int .u8 (IntKind.u8.wrap (x:Int))] 5)).drew) ?_ (.tmp 51) (.tmp 71) 24 ?_ 5 ?_ rfl rfl ?_ HMA.out HLQ.out ?_ HRA.out HL4.out HVA.out (by omega) ?_;(focus rfl);(focus rfl);(focus rfl);(focus rfl);(focus rfl);intro A9 c9 V10 hm9 hg9;have hbb:=HMA.out.grew hg9 HVA.out;have HM9:=Lib.hid hm9;have HW9:=Lib.hid (Holds.under HWA.out hbb (Nat.lt_succ_self _));have HB9:=Lib.hid (HBA.out.trans (hbb.mono (Nat.le_succ_of_le HG.out)));have HCZ:=Lib.hid ((hbb.cell (p:=⟨g0,r,none⟩) (Nat.lt_succ_self _)).trans (HCB.out _));clear hg9 hbb hm9))
         go_wp2_with fail
         go_roundw
         case rel=>exact ⟨r+1,A9,c9,by omega,by simp,by first | rfl | (congr 1;omega),by rw [HOQ.out];exact HM9.out,HW9.out,HB9.out⟩
         case measure=>simp [intOf];omega
        case neg =>
         obtain rfl:r=8:=by omega
         go_wp2_with fail
         exact bodyPost_ret (v:=.slice A8 (4*8) c8) (by simp [results,Tryz.results33,go_sem]) rfl ⟨A8,c8,rfl,by rw [HDG.out];exact hm8.rd,hbe8⟩
end Go.Proofs.YtcibjcgipfpniaaGreatDoor
namespace Go.Proofs.YtcibjcgipfpniaaGreatDoor
open Go.RowKit
set_option linter.unusedVariables false
set_option linter.unusedSimpArgs false
attribute [local go_sem ↓] Go.wp_at_zero Go.wp_at_succ

theorem enc_mk (tag:Nat) (b:List Nat) (ks:List Tr):(Tr.mk tag b ks).enc.length≤8+b.length+(Tr.encs ks).length:=by
 rw [Tr.enc]
 have:=lenB_len (b.length+(Tr.encs ks).length)
 simp only [List.length_cons,List.length_append]
 omega
theorem encs_map {α:Type} (f:α→Tr) (k:Nat):∀ l:List α,(∀ x∈l,(f x).enc.length≤k)→(Tr.encs (l.map f)).length≤k*l.length
 | [],_=>by simp [Tr.encs]
 | x :: l,h=>by
  have h1:=h x (by simp)
  have h2:=encs_map f k l (fun y hy=>h y (by simp [hy]))
  simp only [List.map_cons,Tr.encs,List.length_append,List.length_cons]
  rw [Nat.mul_succ]
  omega
theorem counts_map {α:Type} (f:α→Tr) (k:Nat):∀ l:List α,(∀ x∈l,(f x).count≤k)→Tr.counts (l.map f)≤k*l.length
 | [],_=>by simp [Tr.counts]
 | x :: l,h=>by
  have h1:=h x (by simp)
  have h2:=counts_map f k l (fun y hy=>h y (by simp [hy]))
  simp only [List.map_cons,Tr.counts,List.length_cons]
  rw [Nat.mul_succ]
  omega
theorem at_small {a:Att} (h:atOk a=true):(atTr a).enc.length≤110∧(atTr a).count≤4:=by
 have h1:=(atOk_iff.1 h).2.2
 have h2:(bts a.s).length≤64:=by
  unfold textOk at h1
  simp only [Bool.and_eq_true,decide_eq_true_eq] at h1
  exact h1.1
 unfold atTr
 have e1:=enc_mk 6 [85,4,a.k.toNat] []
 have e2:=enc_mk 12 (bts a.s) []
 have e3:=enc_mk 48 [] [.mk 6 [85,4,a.k.toNat] [],.mk 12 (bts a.s) []]
 have e4:=enc_mk 49 [] [.mk 48 [] [.mk 6 [85,4,a.k.toNat] [],.mk 12 (bts a.s) []]]
 simp only [Tr.encs,List.length_append,List.length_nil,List.length_cons] at e1 e2 e3 e4
 refine ⟨by omega,?_⟩
 simp [Tr.count,Tr.counts]
theorem dn_small {l:List Att} (h:dnOk l=true):(dnTr l).enc.length≤448∧(dnTr l).count≤17:=by
 obtain ⟨h1,h2,h3⟩:=dnOk_iff.1 h
 have h4:∀ a∈l,atOk a=true:=fun a ha=>by
  obtain ⟨i,hi,rfl⟩:=List.getElem_of_mem ha
  have:=h3 i hi
  simpa [List.getD,hi] using this
 have e:=encs_map atTr 110 l (fun a ha=>(at_small (h4 a ha)).1)
 have c:=counts_map atTr 4 l (fun a ha=>(at_small (h4 a ha)).2)
 have k:=enc_mk 48 [] (l.map atTr)
 unfold dnTr
 simp only [List.length_nil,Tr.count] at k ⊢
 exact ⟨by omega,by omega⟩
theorem body_small (x:Parts6):(bodyOf x).length≤15:=by
 unfold bodyOf
 split <;> simp [dig2]
theorem time_small (t:Int):(timeTr t).enc.length≤23∧(timeTr t).count=1:=by
 have h:=enc_mk (tagOf (dateOf t)) (bodyOf (dateOf t)) []
 have h2:=body_small (dateOf t)
 unfold timeTr
 simp only [Tr.encs,List.length_nil] at h
 exact ⟨by omega,by simp [Tr.count,Tr.counts]⟩
theorem gn_small {g:GV} (h:nb g.ser<160):(gnTr g).enc.length≤59∧(gnTr g).count=3:=by
 unfold gnTr
 have e1:=enc_mk 2 (intB g.ser) []
 have e2:=time_small g.tm
 have e3:=enc_mk 48 [] [.mk 2 (intB g.ser) [],timeTr g.tm]
 rw [intB_length] at e1
 simp only [Tr.encs,List.length_append,List.length_nil] at e1 e3
 refine ⟨by omega,?_⟩
 simp [Tr.count,Tr.counts,e2.2]
theorem cl_small {v:CV} (h:crlOk v=true):(clBody v).enc.length≤2000∧(clBody v).count≤100:=by
 obtain ⟨h1,_,_,_,h5,_,h7⟩:=crlOk_parts h
 unfold clBody
 have e1:=dn_small h1
 have e2:=time_small v.at_
 have e3:=time_small v.next
 have e4:=encs_map gnTr 59 v.gone (fun g hg=>(gn_small (h7 g hg).1.2.2).1)
 have c4:=counts_map gnTr 3 v.gone (fun g hg=>Nat.le_of_eq (gn_small (h7 g hg).1.2.2).2)
 have e5:=enc_mk 48 [] [timeTr v.at_,timeTr v.next]
 have e6:=enc_mk 48 [] (v.gone.map gnTr)
 have e7:=enc_mk 48 [] [dnTr v.iss,.mk 48 [] [timeTr v.at_,timeTr v.next],.mk 48 [] (v.gone.map gnTr)]
 simp only [Tr.encs,List.length_append,List.length_nil] at e5 e6 e7
 refine ⟨by omega,?_⟩
 simp only [Tr.count,Tr.counts]
 omega
theorem bytes_le {t:Tr} {k:Nat} (h:t.enc.length≤k):(bytesT t).length≤k:=by
 unfold bytesT
 split
 ·exact h
 ·exact Nat.zero_le _
theorem bytes_oct {lt:Lt} {w:World} (h:ThP lt w):Oct6 (bytesT lt.t):=fun i=>by
 unfold bytesT
 split
 ·by_cases hi:i<lt.t.enc.length
  ·have:=enc_oct (lt.sz+1) lt w w.heap.size (Nat.lt_succ_self _) h (lt.t.enc.getD i 0) (by simp [List.getD,hi])
   exact this
  ·simp [List.getD,hi]
 ·simp
/-- What Digest answers. -/
noncomputable def clDig (v:CV):List Nat:=digest (bytesT (clBody v))
set_option maxRecDepth 100000 in
set_option maxHeartbeats 4000000 in
theorem clDig_any (w:World) (cl:Cl) (h:ClP cl w) (hok:crlOk cl.v=true) (hT:Lib.Utf8Tabs 0 1 w) (hk:KMet w) (hsz:∀ x∈cl.iss,(bts x.s).length≤9223372036854775807) :
  Calls Tryz.prog 8 #[.agg (ccell cl).toArray] w fun e w'=>∃ A c,e = .returned (.slice A 32 c)∧Rd .u8 w' w'.heap.size A c (clDig cl.v)∧Below w.heap.size w w':=by
 have HIS0:Hid (∀ W:World,Below w.heap.size w W→Calls Tryz.prog 7 #[.agg (ccell cl).toArray] W fun e w'=>e = .returned (.bool true)∧Below W.heap.size W w'):=Lib.hid fun W hW=>by
  rw [←hok]
  exact crlIs_any W cl (Off.of_c h W hW.size (fun g _ hg=>hW.block g hg)) (Utf8Tabs_below hT hW) hsz
 have HBO0:Hid (∀ (W:World),Below w.heap.size w W→Calls Tryz.prog 13 #[.agg (ccell cl).toArray] W (MadeT W [] (clBody cl.v))):=Lib.hid fun W hW=>clBody_any W [] cl (Off.of_c h W hW.size (fun g _ hg=>hW.block g hg)) hok (Utf8Tabs_below hT hW) hsz (by simp)
 have HSM:=Lib.hid (cl_small hok)
 have HDG:Hid (clDig cl.v=digest (bytesT (clBody cl.v))):=Lib.hid rfl
 have HK:Hid (∀ W,Below w.heap.size w W→KMet W):=Lib.hid fun W hW=>hk.under hW
 clear h hok hT hk hsz
 generalize clDig cl.v=DG at *
 generalize clBody cl.v=TB at *
 obtain ⟨ia,ic,iss,ta,tn,ga,gc,gone,sa,sc,sig⟩:=cl
 simp only [ccell] at *
 generalize gone.length=gn at *
 generalize iss.length=isn at *
 generalize sig.length=sn at *
 have hq0:Below w.heap.size w (w.alloc (.cells #[.slice ia isn ic,.int .i64 ta,.int .i64 tn,.slice ga gn gc,.slice sa sn sc] 26)):=(Below.refl _ _).alloc (Nat.le_refl _) _
 have hbox:=Holds.fresh w 26 #[.slice ia isn ic,.int .i64 ta,.int .i64 tn,.slice ga gn gc,.slice sa sn sc]
 have c0:=hbox.cell 0
 have c1:=hbox.cell 1
 have c2:=hbox.cell 2
 have c3:=hbox.cell 3
 have c4:=hbox.cell 4
 obtain ⟨V,hV⟩:∃ V,V=(w.alloc (.cells #[.slice ia isn ic,.int .i64 ta,.int .i64 tn,.slice ga gn gc,.slice sa sn sc] 26)):=⟨_,rfl⟩
 rw [←hV] at hq0 hbox
 have HB0:=Lib.hid hq0
 have HBX:=Lib.hid hbox
 have HV:=Lib.hid hV
 clear hV hq0 hbox
 go_enter Tryz.func8,Tryz.ntmps8
 go_wp2_with fail
 rw [←HV.out]
 clear HV c0 c1 c2 c3 c4
 refine (HIS0.out V HB0.out).mono ?_
 rintro e w2 ⟨rfl,hb2⟩
 have HB2:=Lib.hid (HB0.out.trans (hb2.mono HB0.out.size))
 have hx:=HBX.out.under hb2 HBX.out.lt
 have c0:=hx.cell 0
 have c1:=hx.cell 1
 have c2:=hx.cell 2
 have c3:=hx.cell 3
 have c4:=hx.cell 4
 clear hb2 hx HIS0
 go_wp2_with fail
 refine (HBO0.out w2 HB2.out).mono ?_
 rintro e w3 hm
 obtain ⟨lt,t,a,n,c,k,m,d,rfl,h6,hlt,hoff,hb3⟩:=MadeT.six hm
 have HB3:=Lib.hid (HB2.out.trans (hb3.mono HB2.out.size))
 have HV6:=Lib.hid (Of6.val h6)
 have HBY:Hid (Calls Tryz.prog 32 #[.agg #[.int .u8 (t:Int),.slice a n c,.slice k m d]] w3 fun e w'=>∃ A c n,e = .returned (.slice A n c)∧(bytesT lt.t).length=n∧Mine 5 w' w3.heap.size A c (bytesT lt.t)∧Below w3.heap.size w3 w'):=Lib.hid (by
  rw [←HV6.out]
  exact bytes_any lt w3 w3.heap.size hoff.at_ (Nat.le_refl _) (by rw [hlt];have:=HSM.out.2;omega) (by rw [hlt];have:=HSM.out.1;omega))
 have HO:=Lib.hid (bytes_oct hoff.at_)
 have HLT:=Lib.hid hlt
 clear hm h6 hoff hb3 hlt HV6 HBO0 c0 c1 c2 c3 c4
 go_wp2_with fail
 refine HBY.out.mono ?_
 rintro e w4 ⟨A,cA,nA,rfl,hn,hm,hb4⟩
 rw [HLT.out] at hn hm
 have HO2:Hid (Oct6 (bytesT TB)):=Lib.hid (by rw [←HLT.out];exact HO.out)
 have HB4:=Lib.hid (HB3.out.trans (hb4.mono HB3.out.size))
 have HR4:=Lib.hid hm.rd
 have HN4:=Lib.hid hn
 have HN5:Hid (nA≤100000):=Lib.hid (by rw [←hn];have:=bytes_le HSM.out.1;omega)
 clear hn hm hb4 HBY HO HLT
 go_wp2_with fail
 refine (of_one w4 A cA nA (bytesT TB) HN4.out HR4.out HO2.out HN5.out (HK.out _ HB4.out)).mono ?_
 rintro e w5 ⟨A',c',rfl,hr,hb⟩
 have HR5:=Lib.hid hr
 have HB5:=Lib.hid ((HB4.out.alloc HB4.out.size _).trans (hb.mono (by have:=HB4.out.size;simp;omega)))
 clear hr hb
 go_wp2_with fail
 go_ret
 exact ⟨A',c',rfl,by rw [HDG.out];exact HR5.out,HB5.out⟩
set_option maxRecDepth 100000 in
set_option maxHeartbeats 4000000 in
theorem clDig'_any (w:World) (cl:Cl) (h:ClP cl w) (hok:crlOk cl.v=true) :
  Calls Tryz.prog 9 #[.agg (ccell cl).toArray] w fun e w'=>∃ A c,e = .returned (.slice A 32 c)∧Rd .u8 w' w'.heap.size A c (clDig cl.v)∧Below w.heap.size w w':=by
 have HIS0:Hid (∀ W:World,Below w.heap.size w W→Calls Tryz.prog 6 #[.agg (ccell cl).toArray] W fun e w'=>e = .returned (.bool true)∧Below W.heap.size W w'):=Lib.hid fun W hW=>by
  rw [←hok]
  exact crlIs'_any W cl (Off.of_c h W hW.size (fun g _ hg=>hW.block g hg))
 have HBO0:Hid (∀ (W:World),Below w.heap.size w W→Calls Tryz.prog 14 #[.agg (ccell cl).toArray] W (MadeT W [] (clBody cl.v))):=Lib.hid fun W hW=>clBody'_any W [] cl (Off.of_c h W hW.size (fun g _ hg=>hW.block g hg)) hok (by simp)
 have HSM:=Lib.hid (cl_small hok)
 have HDG:Hid (clDig cl.v=digest (bytesT (clBody cl.v))):=Lib.hid rfl
 clear h hok
 generalize clDig cl.v=DG at *
 generalize clBody cl.v=TB at *
 obtain ⟨ia,ic,iss,ta,tn,ga,gc,gone,sa,sc,sig⟩:=cl
 simp only [ccell] at *
 generalize gone.length=gn at *
 generalize iss.length=isn at *
 generalize sig.length=sn at *
 have hq0:Below w.heap.size w (w.alloc (.cells #[.slice ia isn ic,.int .i64 ta,.int .i64 tn,.slice ga gn gc,.slice sa sn sc] 26)):=(Below.refl _ _).alloc (Nat.le_refl _) _
 have hbox:=Holds.fresh w 26 #[.slice ia isn ic,.int .i64 ta,.int .i64 tn,.slice ga gn gc,.slice sa sn sc]
 have c0:=hbox.cell 0
 have c1:=hbox.cell 1
 have c2:=hbox.cell 2
 have c3:=hbox.cell 3
 have c4:=hbox.cell 4
 obtain ⟨V,hV⟩:∃ V,V=(w.alloc (.cells #[.slice ia isn ic,.int .i64 ta,.int .i64 tn,.slice ga gn gc,.slice sa sn sc] 26)):=⟨_,rfl⟩
 rw [←hV] at hq0 hbox
 have HB0:=Lib.hid hq0
 have HBX:=Lib.hid hbox
 have HV:=Lib.hid hV
 clear hV hq0 hbox
 go_enter Tryz.func9,Tryz.ntmps9
 go_wp2_with fail
 rw [←HV.out]
 clear HV c0 c1 c2 c3 c4
 refine (HIS0.out V HB0.out).mono ?_
 rintro e w2 ⟨rfl,hb2⟩
 have HB2:=Lib.hid (HB0.out.trans (hb2.mono HB0.out.size))
 have hx:=HBX.out.under hb2 HBX.out.lt
 have c0:=hx.cell 0
 have c1:=hx.cell 1
 have c2:=hx.cell 2
 have c3:=hx.cell 3
 have c4:=hx.cell 4
 clear hb2 hx HIS0
 go_wp2_with fail
 refine (HBO0.out w2 HB2.out).mono ?_
 rintro e w3 hm
 obtain ⟨lt,t,a,n,c,k,m,d,rfl,h6,hlt,hoff,hb3⟩:=MadeT.six hm
 have HB3:=Lib.hid (HB2.out.trans (hb3.mono HB2.out.size))
 have HV6:=Lib.hid (Of6.val h6)
 have HBY:Hid (Calls Tryz.prog 34 #[.agg #[.int .u8 (t:Int),.slice a n c,.slice k m d]] w3 fun e w'=>∃ A c n,e = .returned (.slice A n c)∧(bytesT lt.t).length=n∧Mine 5 w' w3.heap.size A c (bytesT lt.t)∧Below w3.heap.size w3 w'):=Lib.hid (by
  rw [←HV6.out]
  exact bytes'_any lt w3 w3.heap.size hoff.at_ (Nat.le_refl _) (by rw [hlt];have:=HSM.out.2;omega) (by rw [hlt];have:=HSM.out.1;omega))
 have HO:=Lib.hid (bytes_oct hoff.at_)
 have HLT:=Lib.hid hlt
 clear hm h6 hoff hb3 hlt HV6 HBO0 c0 c1 c2 c3 c4
 go_wp2_with fail
 refine HBY.out.mono ?_
 rintro e w4 ⟨A,cA,nA,rfl,hn,hm,hb4⟩
 rw [HLT.out] at hn hm
 have HO2:Hid (Oct6 (bytesT TB)):=Lib.hid (by rw [←HLT.out];exact HO.out)
 have HB4:=Lib.hid (HB3.out.trans (hb4.mono HB3.out.size))
 have HR4:=Lib.hid hm.rd
 have HN4:=Lib.hid hn
 have HN5:Hid (nA≤100000):=Lib.hid (by rw [←hn];have:=bytes_le HSM.out.1;omega)
 clear hn hm hb4 HBY HO HLT
 go_wp2_with fail
 refine (shaOf'_any w4 w4.heap.size A cA nA (bytesT TB) HN4.out HR4.out (Nat.le_refl _) HO2.out HN5.out).mono ?_
 rintro e w5 ⟨A',c',rfl,hr,hb⟩
 have HR5:=Lib.hid hr
 have HB5:=Lib.hid (HB4.out.trans (hb.mono HB4.out.size))
 clear hr hb
 go_wp2_with fail
 go_ret
 exact ⟨A',c',rfl,by rw [HDG.out];exact HR5.out,HB5.out⟩
end Go.Proofs.YtcibjcgipfpniaaGreatDoor
namespace Go.Proofs.YtcibjcgipfpniaaGreatDoor
open Go.RowKit
set_option linter.unusedVariables false
set_option linter.unusedSimpArgs false

mutual
def Tr.size:Tr→Nat
 | .mk _ _ kids=>1+Tr.sizes kids
def Tr.sizes:List Tr→Nat
 | []=>0
 | x :: r=>x.size+Tr.sizes r+1
end
end Go.Proofs.YtcibjcgipfpniaaGreatDoor
namespace Go.Proofs.YtcibjcgipfpniaaGreatDoor
open Go.RowKit
set_option linter.unusedVariables false
set_option linter.unusedSimpArgs false

end Go.Proofs.YtcibjcgipfpniaaGreatDoor
