/- Words and laws for the statement, part 2. -/
import Derived.Test.YtcibjcgipfpniaaGreatDoorChecked
import Derived.WalkKit
import Derived.WalkSpells
import Derived.WalkLawsBesides
import Derived.IntWalk
import Derived.Outline
import Derived.BigQuiet
import Derived.Deep.QuietTactic
import Derived.Lib.Strings
import Derived.Lib.Slices
import Derived.Lib.Small
import Derived.Lib.Walk
import Derived.Lib.BitFns
import Derived.Lib.ItoaNum
import Derived.RegionTactic
import Derived.ChangeAlike
import Derived.Laws.BitsAllLaws
import Derived.BigRegion
import Derived.Laws.Tables
import Derived.Laws.CopyOwn
import Derived.Deep.RegionLaw
import Derived.Deep.DrawnRows
import Derived.Test.YtcibjcgipfpniaaGreatDoorN01
namespace Go.Proofs.YtcibjcgipfpniaaGreatDoor
open Go.RowKit
set_option linter.unusedVariables false
set_option linter.unusedSimpArgs false

/-- A number's digits of 256, the greatest first. -/
def dig:Nat→Nat→List Nat
 | 0,_=>[]
 | f+1,n=>if n=0 then [] else dig f (n / 256) ++ [n % 256]
theorem dig_zero (f:Nat):dig f 0=[]:=by cases f <;> simp [dig]
theorem dig_len:∀ f n,(dig f n).length≤f
 | 0,_=>Nat.le_refl _
 | f+1,n=>by
  rw [dig]
  split
  ·simp
  ·rw [List.length_append]
   have:=dig_len f (n / 256)
   simp
   omega
theorem dig_oct:∀ f n,∀ x∈dig f n,x<256
 | 0,_,x,h=>by cases h
 | f+1,n,x,h=>by
  rw [dig] at h
  split at h
  ·cases h
  ·rcases List.mem_append.1 h with h | h
   ·exact dig_oct f _ x h
   ·rw [List.mem_singleton.1 h];omega
/-- A length's bytes. -/
def lenB (n:Nat):List Nat:=if n<128 then [n] else (128+(dig 6 n).length) :: dig 6 n
theorem lenB_len (n:Nat):(lenB n).length≤7:=by
 unfold lenB
 split
 ·simp
 ·have:=dig_len 6 n
  simp
  omega
theorem lenB_oct (n:Nat):∀ x∈lenB n,x<256:=by
 intro x hx
 unfold lenB at hx
 split at hx
 ·rw [List.mem_singleton.1 hx];omega
 ·rcases List.mem_cons.1 hx with rfl | h
  ·have:=dig_len 6 n;omega
  ·exact dig_oct 6 n x h
theorem info_u8:(Tryz.prog.info? 5).map (fun i=>(i.zero,i.size,i.bytes))=some (some (.int .u8 0),1,1):=by kernel_rfl
theorem Mine.fresh1 (w:World) (B x:Nat) (hB:B≤w.heap.size):Mine 5 (w.alloc (.cells #[.int .u8 (x:Int)] 5)) B (some ⟨w.heap.size,0,none⟩) 1 [x] :=
 .inr ⟨w.heap.size,0,#[.int .u8 (x:Int)],rfl,hB,Holds.fresh w _ _,Nat.le_refl _,by omega,by simp,fun j hj=>by
  have:j=0:=by simp at hj;omega
  subst this
  rfl⟩
theorem below_blk {w w':World} {B:Nat} {A:Option Addr} (h:w.grownBy w' (blk_of A)) (hB:B≤w.heap.size) (hA:∀ g,blk_of A=some g→B≤g):Below B w w' :=
 ⟨h.os,h.tape,h.output,h.size,fun g hg=>h.block g (by omega) (fun e=>by have:=hA g e.symm;omega)⟩

def RelL (w:World) (n:Nat) (v i:Value) (wr:World):Prop :=
 ∃ (x f:Nat) (b:List Nat) (A':Option Addr) (c' m:Nat),x≤n∧x<256 ^ f∧i = .int .i64 (x:Int)∧v = .slice A' m c'∧Hid (b.length=m)∧f≤6∧Hid (b.length+f≤6)∧Hid (dig 6 n=dig f x ++ b)∧Hid (Mine 5 wr w.heap.size A' c' b)∧Hid (Below w.heap.size w wr)
set_option maxRecDepth 100000 in
set_option maxHeartbeats 4000000 in
theorem length'_any (w:World) (n:Nat) (hn:n≤5000000000) :
  Calls Tryz.prog 117 #[.int .i64 (n:Int)] w fun e w'=>∃ A c,e = .returned (.slice A (lenB n).length c)∧Mine 5 w' w.heap.size A c (lenB n)∧Below w.heap.size w w':=by
 by_cases h1:n<128
 case pos =>
  have HE:Hid (lenB n=[n]):=Lib.hid (by unfold lenB;rw [if_pos h1])
  have d1:decide ((n:Int)<128)=true:=decide_eq_true (by omega)
  have hw:IntKind.u8.wrap (n:Int)=(n:Int):=by simp [IntKind.wrap,IntKind.signed,IntKind.bits];omega
  have HM:=Lib.hid (Mine.fresh1 w w.heap.size n (Nat.le_refl _))
  have HB:Hid (Below w.heap.size w (w.alloc (.cells #[.int .u8 (n:Int)] 5))):=Lib.hid ((Below.refl _ _).alloc (Nat.le_refl _) _)
  go_enter Tryz.func117,Tryz.ntmps117
  go_wp2_with fail
  go_ret
  exact ⟨_,_,by rw [HE.out];rfl,by rw [HE.out];exact HM.out,HB.out⟩
 case neg =>
  have d1:decide ((n:Int)<128)=false:=decide_eq_false (by omega)
  have HE:Hid (lenB n=(128+(dig 6 n).length) :: dig 6 n):=Lib.hid (by unfold lenB;rw [if_neg h1])
  go_enter Tryz.func117,Tryz.ntmps117
  go_wp2_with fail
  clear d1
  go_loopw [3,4] (fun v i wr=>RelL w n v i wr) (fun v i _=>(intOf i).toNat)
  case atStart=>exact ⟨n,6,[],none,0,0,Nat.le_refl _,by omega,rfl,rfl,Lib.hid rfl,by omega,Lib.hid (by simp),Lib.hid (by simp),Lib.hid (Mine.nil _ _ _),Lib.hid (Below.refl _ _)⟩
  case round =>
   obtain ⟨x,f,b,A',c',m,hx,hxf,rfl,rfl,HL,hf,HF,HD,HM,HQ⟩:=hrel
   obtain ⟨V,hV⟩:∃ V,V=wr:=⟨_,rfl⟩
   subst hV
   have hm6:m≤6:=by have:=HL.out;have:=HF.out;omega
   by_cases hx0:0<x
   case pos =>
    have d2:decide ((0:Int)<(x:Int))=true:=decide_eq_true (by omega)
    have d3:decide (0<x)=true:=decide_eq_true hx0
    obtain ⟨f',rfl⟩:∃ f',f=f' + 1:=⟨f - 1,by
     rcases f with _ | f
     ·simp at hxf;omega
     ·rfl⟩
    have hr:Int.tmod (x:Int) 256=((x % 256:Nat):Int):=by rw [Int.tmod_eq_emod_of_nonneg (by omega)];omega
    have hq:Int.tdiv (x:Int) 256=((x / 256:Nat):Int):=by rw [Int.tdiv_eq_ediv_of_nonneg (by omega)];omega
    have hw:IntKind.u8.wrap ((x % 256:Nat):Int)=((x % 256:Nat):Int):=by simp [IntKind.wrap,IntKind.signed,IntKind.bits]
    have HD2:Hid (dig 6 n=dig f' (x / 256) ++ ([x % 256] ++ b)):=Lib.hid (by
     rw [HD.out,dig,if_neg (by omega),List.append_assoc])
    have hxf2:x / 256<256 ^ f':=by rw [Nat.pow_succ] at hxf;omega
    obtain ⟨r,hr0⟩:∃ r,r=x % 256:=⟨_,rfl⟩
    obtain ⟨q,hq0⟩:∃ q,q=x / 256:=⟨_,rfl⟩
    have hql:q≤x / 2:=by omega
    rw [←hr0] at hr hw HD2
    rw [←hq0] at hq HD2 hxf2
    have HM1:Hid (Mine 5 (V.alloc (.cells #[.int .u8 (r:Int)] 5)) w.heap.size (some ⟨V.heap.size,0,none⟩) 1 [r]):=Lib.hid (Mine.fresh1 V w.heap.size r HQ.out.size)
    have HR1:Hid (Rd .u8 (V.alloc (.cells #[.int .u8 (r:Int)] 5)) (V.alloc (.cells #[.int .u8 (r:Int)] 5)).heap.size A' c' b):=Lib.hid (HM.out.alloc _).rd
    have HQ1:Hid (Below w.heap.size w (V.alloc (.cells #[.int .u8 (r:Int)] 5))):=Lib.hid (HQ.out.alloc HQ.out.size _)
    have HV0:Hid (w.heap.size≤V.heap.size):=Lib.hid HQ.out.size
    clear hr0 hq0
    go_wp2_with (first | (refine wpList_mine (B2:=(V.alloc (.cells #[.int .u8 (r:Int)] 5)).heap.size) _ rfl (.tmp 18) (.tmp 19) 24 rfl 5 Tryz.underlying24 info_u8 rfl HM1.out rfl rfl HR1.out HL.out HQ1.out.size (by omega) ?_;intro A5 c5 W5 hm5 hg5 hat5) | fail)
    have HQ5:Hid (Below w.heap.size w W5):=Lib.hid (HQ1.out.trans (below_blk hg5 HQ1.out.size (fun g hg=>by have:=HV0.out;simp [blk_of] at hg;omega)))
    have HM5:=Lib.hid hm5
    clear hm5 hg5 hat5
    go_roundw
    case rel=>exact ⟨q,f',[r] ++ b,_,_,1+m,by omega,hxf2,rfl,rfl,Lib.hid (by rw [List.length_append,HL.out];rfl),by omega,Lib.hid (by rw [List.length_append];have:=HF.out;simp;omega),HD2,HM5,HQ5⟩
    case measure=>simp [intOf];omega
   case neg =>
    obtain rfl:x=0:=by omega
    have d2:decide ((0:Int)<((0:Nat):Int))=false:=rfl
    have HD2:Hid (dig 6 n=b):=Lib.hid (by rw [HD.out,dig_zero,List.nil_append])
    have hw:IntKind.u8.wrap (128+(m:Int))=((128+m:Nat):Int):=by simp [IntKind.wrap,IntKind.signed,IntKind.bits];omega
    have hwi:IntKind.i64.wrap (128+(m:Int))=128+(m:Int):=IntWalk.i64_in _ (by omega)
    obtain ⟨r,hr0⟩:∃ r,r=128+m:=⟨_,rfl⟩
    rw [←hr0] at hw
    have HE2:Hid (lenB n=[r] ++ b∧(lenB n).length=1+m):=Lib.hid (by
     have e:lenB n=[r] ++ b:=by rw [HE.out,HD2.out,HL.out,hr0];rfl
     exact ⟨e,by rw [e,List.length_append,HL.out];rfl⟩)
    have HM1:Hid (Mine 5 (V.alloc (.cells #[.int .u8 (r:Int)] 5)) w.heap.size (some ⟨V.heap.size,0,none⟩) 1 [r]):=Lib.hid (Mine.fresh1 V w.heap.size r HQ.out.size)
    have HR1:Hid (Rd .u8 (V.alloc (.cells #[.int .u8 (r:Int)] 5)) (V.alloc (.cells #[.int .u8 (r:Int)] 5)).heap.size A' c' b):=Lib.hid (HM.out.alloc _).rd
    have HQ1:Hid (Below w.heap.size w (V.alloc (.cells #[.int .u8 (r:Int)] 5))):=Lib.hid (HQ.out.alloc HQ.out.size _)
    have HV0:Hid (w.heap.size≤V.heap.size):=Lib.hid HQ.out.size
    clear hr0
    go_wp2_with (first | (refine wpList_mine (B2:=(V.alloc (.cells #[.int .u8 (r:Int)] 5)).heap.size) _ rfl (.tmp 25) (.tmp 26) 24 rfl 5 Tryz.underlying24 info_u8 rfl HM1.out rfl rfl HR1.out HL.out HQ1.out.size (by omega) ?_;intro A5 c5 W5 hm5 hg5 hat5) | fail)
    have HQ5:Hid (Below w.heap.size w W5):=Lib.hid (HQ1.out.trans (below_blk hg5 HQ1.out.size (fun g hg=>by have:=HV0.out;simp [blk_of] at hg;omega)))
    have HM5:=Lib.hid hm5
    clear hm5 hg5 hat5
    go_wp2_with fail
    go_ret
    exact ⟨_,_,by rw [HE2.out.2];rfl,by rw [HE2.out.1];exact HM5.out,HQ5.out⟩

def RelL2 (w:World) (n:Nat) (i v:Value) (wr:World):Prop:=RelL w n v i wr
set_option maxRecDepth 100000 in
set_option maxHeartbeats 4000000 in
theorem length_any (w:World) (n:Nat) (hn:n≤10000000) :
  Calls Tryz.prog 111 #[.int .i64 (n:Int)] w fun e w'=>∃ A c,e = .returned (.slice A (lenB n).length c)∧Mine 5 w' w.heap.size A c (lenB n)∧Below w.heap.size w w':=by
 by_cases h1:n<128
 case pos =>
  have HE:Hid (lenB n=[n]):=Lib.hid (by unfold lenB;rw [if_pos h1])
  have d1:decide ((n:Int)<128)=true:=decide_eq_true (by omega)
  have hw:IntKind.u8.wrap (n:Int)=(n:Int):=by simp [IntKind.wrap,IntKind.signed,IntKind.bits];omega
  have HM:=Lib.hid (Mine.fresh1 w w.heap.size n (Nat.le_refl _))
  have HB:Hid (Below w.heap.size w (w.alloc (.cells #[.int .u8 (n:Int)] 5))):=Lib.hid ((Below.refl _ _).alloc (Nat.le_refl _) _)
  go_enter Tryz.func111,Tryz.ntmps111
  go_wp2_with fail
  go_ret
  exact ⟨_,_,by rw [HE.out];rfl,by rw [HE.out];exact HM.out,HB.out⟩
 case neg =>
  have d1:decide ((n:Int)<128)=false:=decide_eq_false (by omega)
  have HE:Hid (lenB n=(128+(dig 6 n).length) :: dig 6 n):=Lib.hid (by unfold lenB;rw [if_neg h1])
  go_enter Tryz.func111,Tryz.ntmps111
  go_wp2_with fail
  clear d1
  go_loopw [0,3] (fun i v wr=>RelL2 w n i v wr) (fun i v _=>(intOf i).toNat)
  case atStart=>exact ⟨n,6,[],none,0,0,Nat.le_refl _,by omega,rfl,rfl,Lib.hid rfl,by omega,Lib.hid (by simp),Lib.hid (by simp),Lib.hid (Mine.nil _ _ _),Lib.hid (Below.refl _ _)⟩
  case round =>
   obtain ⟨x,f,b,A',c',m,hx,hxf,rfl,rfl,HL,hf,HF,HD,HM,HQ⟩:=hrel
   obtain ⟨V,hV⟩:∃ V,V=wr:=⟨_,rfl⟩
   subst hV
   have hm6:m≤6:=by have:=HL.out;have:=HF.out;omega
   by_cases hx0:0<x
   case pos =>
    have d2:decide ((0:Int)<(x:Int))=true:=decide_eq_true (by omega)
    have d3:decide (0<x)=true:=decide_eq_true hx0
    obtain ⟨f',rfl⟩:∃ f',f=f' + 1:=⟨f - 1,by
     rcases f with _ | f
     ·simp at hxf;omega
     ·rfl⟩
    have hw:IntKind.u8.wrap (x:Int)=((x % 256:Nat):Int):=by simp [IntKind.wrap,IntKind.signed,IntKind.bits]
    have HD2:Hid (dig 6 n=dig f' (x / 256) ++ ([x % 256] ++ b)):=Lib.hid (by
     rw [HD.out,dig,if_neg (by omega),List.append_assoc])
    have hxf2:x / 256<256 ^ f':=by rw [Nat.pow_succ] at hxf;omega
    obtain ⟨r,hr0⟩:∃ r,r=x % 256:=⟨_,rfl⟩
    obtain ⟨q,hq0⟩:∃ q,q=x / 256:=⟨_,rfl⟩
    have hql:q≤x / 2:=by omega
    rw [←hr0] at hw HD2
    rw [←hq0] at HD2 hxf2
    have HM1:Hid (Mine 5 (V.alloc (.cells #[.int .u8 (r:Int)] 5)) w.heap.size (some ⟨V.heap.size,0,none⟩) 1 [r]):=Lib.hid (Mine.fresh1 V w.heap.size r HQ.out.size)
    have HR1:Hid (Rd .u8 (V.alloc (.cells #[.int .u8 (r:Int)] 5)) (V.alloc (.cells #[.int .u8 (r:Int)] 5)).heap.size A' c' b):=Lib.hid (HM.out.alloc _).rd
    have HQ1:Hid (Below w.heap.size w (V.alloc (.cells #[.int .u8 (r:Int)] 5))):=Lib.hid (HQ.out.alloc HQ.out.size _)
    have HV0:Hid (w.heap.size≤V.heap.size):=Lib.hid HQ.out.size
    clear hr0
    go_wp2_with (first | (refine wpList_mine (B2:=(V.alloc (.cells #[.int .u8 (r:Int)] 5)).heap.size) _ rfl (.tmp 15) (.tmp 16) 24 rfl 5 Tryz.underlying24 info_u8 rfl HM1.out rfl rfl HR1.out HL.out HQ1.out.size (by omega) ?_;intro A5 c5 W5 hm5 hg5 hat5) | fail)
    have HQ5:Hid (Below w.heap.size w W5):=Lib.hid (HQ1.out.trans (below_blk hg5 HQ1.out.size (fun g hg=>by have:=HV0.out;simp [blk_of] at hg;omega)))
    have HM5:=Lib.hid hm5
    clear hm5 hg5 hat5
    go_roundw
    case rel=>exact ⟨q,f',[r] ++ b,_,_,1+m,by omega,hxf2,by rw [hq0];rfl,rfl,Lib.hid (by rw [List.length_append,HL.out];rfl),by omega,Lib.hid (by rw [List.length_append];have:=HF.out;simp;omega),HD2,HM5,HQ5⟩
    case measure=>simp [intOf];omega
   case neg =>
    obtain rfl:x=0:=by omega
    have d2:decide ((0:Int)<((0:Nat):Int))=false:=rfl
    have HD2:Hid (dig 6 n=b):=Lib.hid (by rw [HD.out,dig_zero,List.nil_append])
    have hw:IntKind.u8.wrap (m:Int)=(m:Int):=by simp [IntKind.wrap,IntKind.signed,IntKind.bits];omega
    obtain ⟨r,hr0⟩:∃ r,r=128+m:=⟨_,rfl⟩
    have hrI:((r:Nat):Int)=128+(m:Int):=by omega
    have HE2:Hid (lenB n=[r] ++ b∧(lenB n).length=1+m):=Lib.hid (by
     have e:lenB n=[r] ++ b:=by rw [HE.out,HD2.out,HL.out,hr0];rfl
     exact ⟨e,by rw [e,List.length_append,HL.out];rfl⟩)
    have HM1:Hid (Mine 5 (V.alloc (.cells #[.int .u8 (r:Int)] 5)) w.heap.size (some ⟨V.heap.size,0,none⟩) 1 [r]):=Lib.hid (Mine.fresh1 V w.heap.size r HQ.out.size)
    have HR1:Hid (Rd .u8 (V.alloc (.cells #[.int .u8 (r:Int)] 5)) (V.alloc (.cells #[.int .u8 (r:Int)] 5)).heap.size A' c' b):=Lib.hid (HM.out.alloc _).rd
    have HQ1:Hid (Below w.heap.size w (V.alloc (.cells #[.int .u8 (r:Int)] 5))):=Lib.hid (HQ.out.alloc HQ.out.size _)
    have HV0:Hid (w.heap.size≤V.heap.size):=Lib.hid HQ.out.size
    rw [hrI] at HM1 HR1 HQ1
    clear hr0 hrI
    go_wp2_with (first | (refine wpList_mine (B2:=(V.alloc (.cells #[.int .u8 (128+(m:Int))] 5)).heap.size) _ rfl (.tmp 22) (.tmp 23) 24 rfl 5 Tryz.underlying24 info_u8 rfl HM1.out rfl rfl HR1.out HL.out HQ1.out.size (by omega) ?_;intro A5 c5 W5 hm5 hg5 hat5) | fail)
    have HQ5:Hid (Below w.heap.size w W5):=Lib.hid (HQ1.out.trans (below_blk hg5 HQ1.out.size (fun g hg=>by have:=HV0.out;simp [blk_of] at hg;omega)))
    have HM5:=Lib.hid hm5
    clear hm5 hg5 hat5
    go_wp2_with fail
    go_ret
    exact ⟨_,_,by rw [HE2.out.2];rfl,by rw [HE2.out.1];exact HM5.out,HQ5.out⟩
end Go.Proofs.YtcibjcgipfpniaaGreatDoor
namespace Go.Proofs.YtcibjcgipfpniaaGreatDoor
open Go.RowKit

set_option maxRecDepth 100000 in
theorem trim_any (w:World) (B:Nat) (A:Option Addr) (c:Nat) (l:List Nat) (hr:Rd .u32 w B A c l):Calls Tryz.prog 72 #[.slice A l.length c] w fun e w'=>e = .returned (.slice A (tlen l l.length) c)∧w=w':=by
 obtain ⟨n0,hn0⟩:∃ n,n=l.length:=⟨_,rfl⟩
 have hlc:l.length≤c:=hr.1
 have hc63:c≤9223372036854775807:=hr.2.1
 go_enter Tryz.func72,Tryz.ntmps72
 go_wp2_with fail
 go_loop [0] (fun s=>∃ n:Nat,n≤l.length∧s = .slice A n c∧tlen l l.length=tlen l n) (fun s=>match s with | .slice _ n _=>n | _=>0)
 case atStart=>exact ⟨_,Nat.le_refl _,rfl,rfl⟩
 case round =>
  obtain ⟨n,hn,rfl,ht⟩:=hrel
  have Ht:=Lib.hid ht
  clear ht
  rcases n with _ | m
  ·go_wp2_with fail
   go_ret
   exact ⟨by rw [Ht.out];rfl,rfl⟩
  ·obtain ⟨b,off,x,rfl,hb,hx,Hx⟩:=hr.at_ (i:=m) (by omega)
   by_cases h0:x=0
   ·have Hs:=Lib.hid (tlen_drop l m (by rw [←Hx.out,h0]))
    subst h0
    go_wp2_with fail
    go_round
    case rel=>exact ⟨m,by omega,rfl,by rw [Ht.out,Hs.out]⟩
    case measure=>simp
   ·have Hs:=Lib.hid (tlen_stay l m (by rw [←Hx.out];exact h0))
    have hq:((x:Int) == 0)=false:=by simp;omega
    clear h0
    go_wp2_with fail
    go_ret
    exact ⟨by rw [Ht.out,Hs.out];rfl,rfl⟩
set_option maxRecDepth 100000 in
theorem is_any (w:World) (B:Nat) (A:Option Addr) (c:Nat) (l:List Nat) (hr:Rd .u32 w B A c l) (v:Bool) (hv:okN l=v):Calls Tryz.prog 69 #[.slice A l.length c] w fun e w'=>e = .returned (.bool v)∧w=w':=by
 have hlc:l.length≤c:=hr.1
 have hc63:c≤9223372036854775807:=hr.2.1
 by_cases h1:l.length≤256
 ·rcases hl:l.length with _ | m
  ·have Hv:=Lib.hid (show v=true by rw [←hv];simp [okN,hl])
   clear hv hl
   go_enter Tryz.func69,Tryz.ntmps69
   go_wp2_with fail
   go_ret
   exact ⟨by rw [Hv.out];rfl,rfl⟩
  ·obtain ⟨b,off,x,rfl,hb,hx,Hx⟩:=hr.at_ (i:=m) (by omega)
   have h1':m+1≤256:=by omega
   have h1'':decide ((m:Int)+1≤256)=true:=by simp;omega
   have h2':((m:Int)+1 == 0)=false:=by simp;omega
   have Hv:=Lib.hid (show v = !(x == 0) by rw [←hv,Hx.out];simp [okN,hl];omega)
   clear hv hl h1
   by_cases h0:x=0
   ·subst h0
    go_enter Tryz.func69,Tryz.ntmps69
    go_wp2_with fail
    go_ret
    exact ⟨by rw [Hv.out];rfl,rfl⟩
   ·have hq:((x:Int) != 0)=true:=by simp;omega
    go_enter Tryz.func69,Tryz.ntmps69
    go_wp2_with fail
    go_ret
    exact ⟨by rw [Hv.out];simp [h0],rfl⟩
 ·have Hv:=Lib.hid (show v=false by rw [←hv];simp [okN,h1])
  have h1':decide ((l.length:Int)≤256)=false:=by simp;omega
  clear hv
  go_enter Tryz.func69,Tryz.ntmps69
  go_wp2_with fail
  go_ret
  exact ⟨by rw [Hv.out];rfl,rfl⟩
set_option maxRecDepth 100000 in
theorem is'_any (w:World) (B:Nat) (A:Option Addr) (c:Nat) (l:List Nat) (hr:Rd .u32 w B A c l) (v:Bool) (hv:okN l=v):Calls Tryz.prog 61 #[.slice A l.length c] w fun e w'=>e = .returned (.bool v)∧w=w':=by
 have hlc:l.length≤c:=hr.1
 have hc63:c≤9223372036854775807:=hr.2.1
 by_cases h1:l.length≤256
 ·rcases hl:l.length with _ | m
  ·have Hv:=Lib.hid (show v=true by rw [←hv];simp [okN,hl])
   clear hv hl
   go_enter Tryz.func61,Tryz.ntmps61
   go_wp2_with fail
   go_ret
   exact ⟨by rw [Hv.out];rfl,rfl⟩
  ·obtain ⟨b,off,x,rfl,hb,hx,Hx⟩:=hr.at_ (i:=m) (by omega)
   have h1':m+1≤256:=by omega
   have h1'':decide ((m:Int)+1≤256)=true:=by simp;omega
   have h2':((m:Int)+1 == 0)=false:=by simp;omega
   have Hv:=Lib.hid (show v = !(x == 0) by rw [←hv,Hx.out];simp [okN,hl];omega)
   clear hv hl h1
   by_cases h0:x=0
   ·subst h0
    go_enter Tryz.func61,Tryz.ntmps61
    go_wp2_with fail
    go_ret
    exact ⟨by rw [Hv.out];rfl,rfl⟩
   ·have hq:((x:Int) != 0)=true:=by simp;omega
    go_enter Tryz.func61,Tryz.ntmps61
    go_wp2_with fail
    go_ret
    exact ⟨by rw [Hv.out];simp [h0],rfl⟩
 ·have Hv:=Lib.hid (show v=false by rw [←hv];simp [okN,h1])
  have h1':decide ((l.length:Int)≤256)=false:=by simp;omega
  clear hv
  go_enter Tryz.func61,Tryz.ntmps61
  go_wp2_with fail
  go_ret
  exact ⟨by rw [Hv.out];rfl,rfl⟩
theorem sign_yes (w:World):Calls Tryz.prog 73 #[.bool true] w fun e w'=>e = .returned (.int .i64 (-1))∧w=w':=by
 go_enter Tryz.func73,Tryz.ntmps73
 go_wp2_with fail
 go_ret
 exact ⟨rfl,rfl⟩
theorem sign_no (w:World):Calls Tryz.prog 73 #[.bool false] w fun e w'=>e = .returned (.int .i64 1)∧w=w':=by
 go_enter Tryz.func73,Tryz.ntmps73
 go_wp2_with fail
 go_ret
 exact ⟨rfl,rfl⟩
theorem trim_at (w:World) (B:Nat) (A:Option Addr) (c n:Nat) (l:List Nat) (hr:Rd .u32 w B A c l) (hn:l.length=n):Calls Tryz.prog 72 #[.slice A n c] w fun e w'=>e = .returned (.slice A (trl l).length c)∧w=w':=by
 subst hn
 rw [trl_length]
 exact trim_any w B A c l hr
end Go.Proofs.YtcibjcgipfpniaaGreatDoor
namespace Go.Proofs.YtcibjcgipfpniaaGreatDoor
open Go.RowKit

set_option maxRecDepth 100000 in
theorem cmp'_any (w:World) (B B':Nat) (A A':Option Addr) (c c':Nat) (l l':List Nat) (hr:Rd .u32 w B A c l) (hr':Rd .u32 w B' A' c' l') (v:Int) (hv:cmpL l l'=v) :
  Calls Tryz.prog 23 #[.slice A l.length c,.slice A' l'.length c'] w fun e w'=>e = .returned (.int .i64 v)∧∃ q,w'=w.drewN q:=by
 have hlc:l.length≤c:=hr.1
 have hc63:c≤9223372036854775807:=hr.2.1
 have hlc':l'.length≤c':=hr'.1
 have hc63':c'≤9223372036854775807:=hr'.2.1
 by_cases h1:l.length<l'.length
 ·have Hv:=Lib.hid (show v = -1 by rw [←hv,cmpL,if_pos h1])
  clear hv
  have hq:((l.length:Int) != (l'.length:Int))=true:=by simp;omega
  go_enter Tryz.func23,Tryz.ntmps23
  go_wp2_with fail
  go_ret
  exact ⟨by rw [Hv.out];rfl,0,rfl⟩
 by_cases h2:l'.length<l.length
 ·have Hv:=Lib.hid (show v=1 by rw [←hv,cmpL,if_neg h1,if_pos h2])
  clear hv
  have hq:((l.length:Int) != (l'.length:Int))=true:=by simp;omega
  go_enter Tryz.func23,Tryz.ntmps23
  go_wp2_with fail
  go_ret
  exact ⟨by rw [Hv.out];rfl,0,rfl⟩
 have Hv:=Lib.hid (show v=cmpTop l l' l.length by rw [←hv,cmpL,if_neg h1,if_neg h2])
 clear hv
 have Hl:=Lib.hid (show l'.length=l.length by omega)
 have hq:((l.length:Int) != (l'.length:Int))=false:=by simp;omega
 clear h1 h2
 go_enter Tryz.func23,Tryz.ntmps23
 go_wp2_with fail
 go_loopw [5] (fun s wr=>∃ n q:Nat,n≤l.length∧s = .int .i64 ((n:Int) - 1)∧wr=w.drewN q∧cmpTop l l' l.length=cmpTop l l' n) (fun s _=>(intOf s+1).toNat)
 case atStart=>exact ⟨_,0,Nat.le_refl _,rfl,rfl,rfl⟩
 case round =>
  obtain ⟨n,q,hn,rfl,rfl,ht⟩:=hrel
  have Ht:=Lib.hid ht
  clear ht
  rcases n with _ | m
  ·go_wp2_with fail
   go_ret
   exact ⟨by rw [Hv.out,Ht.out];rfl,q,rfl⟩
  ·obtain ⟨b,off,x,rfl,hb,hx,Hx⟩:=hr.at_ (i:=m) (by omega)
   obtain ⟨b',off',x',rfl,hb',hx',Hx'⟩:=hr'.at_ (i:=m) (by have:=Hl.out;omega)
   have hm1:(m:Int)<l.length:=by omega
   have hm2:(m:Int)<l'.length:=by have:=Hl.out;omega
   rw [show (((m+1:Nat):Int) - 1)=(m:Int) from by omega]
   by_cases h0:x=x'
   ·have Hs:=Lib.hid (cmpTop_same l l' m (by rw [←Hx.out,←Hx'.out,h0]))
    subst h0
    go_wp2_with fail
    go_quiet (fail)
    go_wp2_with fail
    go_roundw
    case rel=>exact ⟨m,_,by omega,rfl,rfl,by rw [Ht.out,Hs.out]⟩
    case measure=>simp [intOf]
   ·have hq2:((x:Int) != (x':Int))=true:=by simp;omega
    by_cases h3:x<x'
    ·have Hs:=Lib.hid (cmpTop_less l l' m (by rw [←Hx.out,←Hx'.out];exact h3))
     go_wp2_with fail
     go_quiet (fail)
     go_wp2_with fail
     go_quiet (fail)
     go_wp2_with fail
     go_ret
     exact ⟨by rw [Hv.out,Ht.out,Hs.out];rfl,_,by rw [World.drewN_drewN,World.drewN_drewN]⟩
    ·have Hs:=Lib.hid (cmpTop_more l l' m (by rw [←Hx.out,←Hx'.out];omega))
     go_wp2_with fail
     go_quiet (fail)
     go_wp2_with fail
     go_quiet (fail)
     go_wp2_with fail
     go_ret
     exact ⟨by rw [Hv.out,Ht.out,Hs.out];rfl,_,by rw [World.drewN_drewN,World.drewN_drewN]⟩

set_option maxRecDepth 100000 in
theorem cmp_any (w:World) (B B':Nat) (A A':Option Addr) (c c':Nat) (l l':List Nat) (hr:Rd .u32 w B A c l) (hr':Rd .u32 w B' A' c' l') (v:Int) (hv:cmpL (trl l) (trl l')=v) :
  Calls Tryz.prog 30 #[.slice A l.length c,.slice A' l'.length c'] w fun e w'=>e = .returned (.int .i64 v)∧∃ q,w'=w.drewN q:=by
 have ht:Rd .u32 w B A c (trl l):=hr.cut _
 have ht':Rd .u32 w B' A' c' (trl l'):=hr'.cut _
 have el:=trl_length l
 have el':=trl_length l'
 go_enter Tryz.func30,Tryz.ntmps30
 go_wp2_with fail
 refine (trim_any w B A c l hr).mono ?_
 rintro e w1 ⟨rfl,rfl⟩
 go_wp2_with fail
 refine (trim_any w B' A' c' l' hr').mono ?_
 rintro e w1 ⟨rfl,rfl⟩
 rw [←el,←el']
 generalize trl l=t at *
 generalize trl l'=t' at *
 clear el el' hr hr'
 have hlc:t.length≤c:=ht.1
 have hc63:c≤9223372036854775807:=ht.2.1
 have hlc':t'.length≤c':=ht'.1
 have hc63':c'≤9223372036854775807:=ht'.2.1
 by_cases h1:t.length<t'.length
 ·have Hv:=Lib.hid (show v = -1 by rw [←hv,cmpL,if_pos h1])
  clear hv
  have hq:((t.length:Int) != (t'.length:Int))=true:=by simp;omega
  go_wp2_with fail
  refine (sign_yes _).mono ?_
  rintro e w1 ⟨rfl,rfl⟩
  go_wp2_with fail
  go_ret
  exact ⟨by rw [Hv.out];rfl,0,rfl⟩
 by_cases h2:t'.length<t.length
 ·have Hv:=Lib.hid (show v=1 by rw [←hv,cmpL,if_neg h1,if_pos h2])
  clear hv
  have hq:((t.length:Int) != (t'.length:Int))=true:=by simp;omega
  have hq2:decide ((t.length:Int)<(t'.length:Int))=false:=by simp;omega
  go_wp2_with fail
  refine (sign_no _).mono ?_
  rintro e w1 ⟨rfl,rfl⟩
  go_wp2_with fail
  go_ret
  exact ⟨by rw [Hv.out];rfl,0,rfl⟩
 have Hv:=Lib.hid (show v=cmpTop t t' t.length by rw [←hv,cmpL,if_neg h1,if_neg h2])
 clear hv
 have Hl:=Lib.hid (show t'.length=t.length by omega)
 have hq:((t.length:Int) != (t'.length:Int))=false:=by simp;omega
 clear h1 h2
 go_wp2_with fail
 go_loopw [5] (fun s wr=>∃ n q:Nat,n≤t.length∧s = .int .i64 ((n:Int) - 1)∧wr=w.drewN q∧cmpTop t t' t.length=cmpTop t t' n) (fun s _=>(intOf s+1).toNat)
 case atStart=>exact ⟨_,0,Nat.le_refl _,rfl,rfl,rfl⟩
 case round =>
  obtain ⟨n,q,hn,rfl,rfl,htt⟩:=hrel
  have Ht:=Lib.hid htt
  clear htt
  rcases n with _ | m
  ·go_wp2_with fail
   go_ret
   exact ⟨by rw [Hv.out,Ht.out];rfl,q,rfl⟩
  ·obtain ⟨b,off,x,rfl,hb,hx,Hx⟩:=ht.at_ (i:=m) (by omega)
   obtain ⟨b',off',x',rfl,hb',hx',Hx'⟩:=ht'.at_ (i:=m) (by have:=Hl.out;omega)
   have hm1:(m:Int)<t.length:=by omega
   have hm2:(m:Int)<t'.length:=by have:=Hl.out;omega
   rw [show (((m+1:Nat):Int) - 1)=(m:Int) from by omega]
   by_cases h0:x=x'
   ·have Hs:=Lib.hid (cmpTop_same t t' m (by rw [←Hx.out,←Hx'.out,h0]))
    subst h0
    go_wp2_with fail
    go_quiet (fail)
    go_wp2_with fail
    go_roundw
    case rel=>exact ⟨m,_,by omega,rfl,rfl,by rw [Ht.out,Hs.out]⟩
    case measure=>simp [intOf]
   ·have hq2:((x:Int) != (x':Int))=true:=by simp;omega
    by_cases h3:x<x'
    ·have Hs:=Lib.hid (cmpTop_less t t' m (by rw [←Hx.out,←Hx'.out];exact h3))
     go_wp2_with fail
     go_quiet (fail)
     go_wp2_with fail
     go_quiet ((go_at_call 73;exact quiet_on (fun W=>sign_yes W)))
     go_wp2_with fail
     go_ret
     exact ⟨by rw [Hv.out,Ht.out,Hs.out];rfl,_,by rw [World.drewN_drewN,World.drewN_drewN]⟩
    ·have Hs:=Lib.hid (cmpTop_more t t' m (by rw [←Hx.out,←Hx'.out];omega))
     have hq3:decide ((x:Int)<(x':Int))=false:=by simp;omega
     go_wp2_with fail
     go_quiet (fail)
     go_wp2_with fail
     go_quiet ((go_at_call 73;exact quiet_on (fun W=>sign_no W)))
     go_wp2_with fail
     go_ret
     exact ⟨by rw [Hv.out,Ht.out,Hs.out];rfl,_,by rw [World.drewN_drewN,World.drewN_drewN]⟩
end Go.Proofs.YtcibjcgipfpniaaGreatDoor
namespace Go.Proofs.YtcibjcgipfpniaaGreatDoor
open Go.RowKit
set_option linter.unusedVariables false

theorem info_u32:(Tryz.prog.info? 59).map (fun i=>(i.zero,i.size,i.bytes))=some (some (.int .u32 0),1,4):=by kernel_rfl
/-- What 'make' lays: noughts. -/
theorem make_nat (z:Int) (n:Nat) (hz:z=n) (hn:n≤1000000) (W:World):(Instr.makeSlice 42 (.int .i64 z) (.int .i64 z)).run Tryz.prog W = .ok (.slice (some ⟨W.heap.size,0,none⟩) n n) (W.alloc (.cells (nums .u32 (List.replicate n 0)) 59)):=by
 obtain ⟨i0,hi,hz0,hz1,hz2⟩:=info_parts info_u32
 have h:=run_make (P:=Tryz.prog) W 42 59 i0 (.int .u32 0) Tryz.underlying42 hi hz0 .i64 .i64 (n:Int) (n:Int) (by omega) (by omega) (by rw [hz2];omega) (by omega)
 rw [hz,h,hz1,nums_noughts]
 simp [Value.cells]
theorem make_bytes (z:Int) (n:Nat) (hz:z=n) (hn:n≤1000000) (W:World):(Instr.makeSlice 24 (.int .i64 z) (.int .i64 z)).run Tryz.prog W = .ok (.slice (some ⟨W.heap.size,0,none⟩) n n) (W.alloc (.cells (nums .u8 (List.replicate n 0)) 5)):=by
 obtain ⟨i0,hi,hz0,hz1,hz2⟩:=info_parts info_u8
 have h:=run_make (P:=Tryz.prog) W 24 5 i0 (.int .u8 0) Tryz.underlying24 hi hz0 .i64 .i64 (n:Int) (n:Int) (by omega) (by omega) (by rw [hz2];omega) (by omega)
 rw [hz,h,hz1,nums_noughts]
 simp [Value.cells]

/-- An answer in new memory: the digits r, writable. -/
def Fresh (k:IntKind) (T:TypeId) (w':World) (B:Nat) (A:Option Addr) (c:Nat) (r:List Nat):Prop :=
 Rd k w' w'.heap.size A c r∧(0<r.length→∃ g L,A=some ⟨g,0,none⟩∧B≤g∧Row k T w' g L∧r=L.take r.length)

theorem fresh_row {k:IntKind} {T:TypeId} {w':World} {B g n c:Nat} {L:List Nat} (h:Row k T w' g L) (hB:B≤g) (hn:n≤L.length) (hc:n≤c) (h63:c≤9223372036854775807):Fresh k T w' B (some ⟨g,0,none⟩) c (L.take n) :=
 ⟨(h.rd hn hc h63).more (Holds.lt h),fun _=>⟨g,L,rfl,hB,h,by rw [List.length_take,Nat.min_eq_left hn]⟩⟩

theorem fresh_trl {k:IntKind} {T:TypeId} {w':World} {B g c:Nat} {L:List Nat} (h:Row k T w' g L) (hB:B≤g) (hc:L.length≤c) (h63:c≤9223372036854775807):Fresh k T w' B (some ⟨g,0,none⟩) c (trl L) :=
 fresh_row h hB (tlen_le L _) (Nat.le_trans (tlen_le L _) hc) h63
theorem rd_whole {k:IntKind} {T:TypeId} {w:World} {g c:Nat} {L:List Nat} (h:Row k T w g L) (hc:L.length≤c) (h63:c≤9223372036854775807):Rd k w (g+1) (some ⟨g,0,none⟩) c L:=by
 have:=h.rd (Nat.le_refl _) hc h63
 rwa [List.take_length] at this

end Go.Proofs.YtcibjcgipfpniaaGreatDoor
namespace Go.Proofs.YtcibjcgipfpniaaGreatDoor
open Go.RowKit
set_option linter.unusedVariables false

theorem tab_at (e:Int) (h0:0≤e) (h1:e≤255) (w:World):(Instr.index 9 (.string Lib.len8tab) (.int .u8 e)).run Tryz.prog w = .ok (.int .u8 ((Lib.bitLen e.toNat:Nat):Int)) w:=by
 rw [Lib.run_index_len8tab w 9 .u8 e Tryz.underlying9 h0 h1,Lib.len8_of e h0 h1]

set_option maxRecDepth 100000 in
theorem len32_any (n:Nat) (w:World) (hn:n<4294967296):Calls Tryz.prog 105 #[.int .u32 n] w fun e w'=>e = .returned (.int .i64 (Lib.bitLen n:Int))∧w=w':=by
 obtain ⟨x,hx⟩:∃ x:Int,x=(n:Int):=⟨_,rfl⟩
 have e0:n=x.toNat:=by omega
 rw [←hx,e0]
 have h0:0≤x:=by omega
 have h1:x≤4294967295:=by omega
 clear e0 hx hn
 by_cases c1:65536≤x
 ·by_cases c2:256≤x / 65536
  ·have hix:=tab_at (x / 65536 / 256) (by omega) (by omega)
   have hk:=Lib.bitLen_le8' (x / 65536 / 256) (by omega) (by omega)
   have hs:=Lib.hid (Lib.bitLen_shift24 x.toNat (by omega) (by omega))
   have he:x.toNat / 16777216=(x / 65536 / 256).toNat:=by omega
   rw [he] at hs
   clear he
   generalize Lib.bitLen (x / 65536 / 256).toNat=k at *
   go_enter Tryz.func105,Tryz.ntmps105
   go_wp2_with fail
   go_ret
   exact ⟨by rw [hs.out];exact congrArg Ending.returned (congrArg (Value.int IntKind.i64) (by omega)),rfl⟩
  ·have hix:=tab_at (x / 65536) (by omega) (by omega)
   have hk:=Lib.bitLen_le8' (x / 65536) (by omega) (by omega)
   have hs:=Lib.hid (Lib.bitLen_shift16 x.toNat (by omega) (by omega))
   have he:x.toNat / 65536=(x / 65536).toNat:=by omega
   rw [he] at hs
   clear he
   generalize Lib.bitLen (x / 65536).toNat=k at *
   go_enter Tryz.func105,Tryz.ntmps105
   go_wp2_with fail
   go_ret
   exact ⟨by rw [hs.out];exact congrArg Ending.returned (congrArg (Value.int IntKind.i64) (by omega)),rfl⟩
 ·by_cases c2:256≤x
  ·have hix:=tab_at (x / 256) (by omega) (by omega)
   have hk:=Lib.bitLen_le8' (x / 256) (by omega) (by omega)
   have hs:=Lib.hid (Lib.bitLen_shift8 x.toNat (by omega) (by omega))
   have he:x.toNat / 256=(x / 256).toNat:=by omega
   rw [he] at hs
   clear he
   generalize Lib.bitLen (x / 256).toNat=k at *
   go_enter Tryz.func105,Tryz.ntmps105
   go_wp2_with fail
   go_ret
   exact ⟨by rw [hs.out];exact congrArg Ending.returned (congrArg (Value.int IntKind.i64) (by omega)),rfl⟩
  ·have hix:=tab_at x (by omega) (by omega)
   have hk:=Lib.bitLen_le8' x (by omega) (by omega)
   generalize Lib.bitLen x.toNat=k at *
   go_enter Tryz.func105,Tryz.ntmps105
   go_wp2_with fail
   go_ret
   exact ⟨congrArg Ending.returned (congrArg (Value.int IntKind.i64) (by omega)),rfl⟩

/-- How many digits of two: of the last digit, and 32 for each below it. -/
def nb (l:List Nat):Nat:=if l.length=0 then 0 else 32*(l.length - 1)+Lib.bitLen (l.getD (l.length - 1) 0)
theorem nb_nil {l:List Nat} (h:l.length=0):nb l=0:=by rw [nb,if_pos h]
theorem nb_succ {l:List Nat} {m:Nat} (h:l.length=m+1):nb l=32*m+Lib.bitLen (l.getD m 0):=by
 rw [nb,if_neg (by omega),h,Nat.add_sub_cancel]

set_option maxRecDepth 100000 in
theorem bits_any (w:World) (B:Nat) (A:Option Addr) (c n:Nat) (l:List Nat) (hr:Rd .u32 w B A c l) (hn:l.length=n) (hd:Dg l) (hs:l.length≤5000) (v:Nat) (hv:nb (trl l)=v):Calls Tryz.prog 71 #[.slice A n c] w fun e w'=>e = .returned (.int .i64 (v:Int))∧w=w':=by
 have ht:Rd .u32 w B A c (trl l):=hr.cut _
 have hdt:=trl_dg hd
 have hlt:(trl l).length≤5000:=by rw [trl_length];exact Nat.le_trans (tlen_le l _) hs
 go_enter Tryz.func71,Tryz.ntmps71
 go_wp2_with fail
 refine (trim_at w B A c n l hr hn).mono ?_
 rintro e w1 ⟨rfl,rfl⟩
 generalize trl l=t at *
 rcases hm:t.length with _ | m
 ·have Hv:=Lib.hid (show v=0 by rw [←hv,nb_nil hm])
  clear hv hm hlt
  go_wp2_with fail
  go_ret
  exact ⟨by rw [Hv.out];rfl,rfl⟩
 ·have Hv:=Lib.hid (show v=32*m+Lib.bitLen (t.getD m 0) by rw [←hv,nb_succ hm])
  obtain ⟨b,off,x,rfl,hb,hx,Hx⟩:=ht.at_ (i:=m) (by omega)
  have hxl:x<4294967296:=by rw [Hx.out];exact hdt.at_ m
  have hq:((m:Int)+1 == 0)=false:=by simp;omega
  have hm':m+1≤5000:=by omega
  clear hv hm hlt
  go_wp2_with fail
  refine (len32_any x _ hxl).mono ?_
  rintro e w1 ⟨rfl,rfl⟩
  have hbl:=Lib.bitLen_le x 32 (by omega) (by omega)
  rw [←Hx.out] at Hv
  generalize Lib.bitLen x=y at *
  go_wp2_with fail
  go_ret
  exact ⟨by rw [Hv.out];exact congrArg Ending.returned (congrArg (Value.int IntKind.i64) (by omega)),rfl⟩

set_option maxRecDepth 100000 in
theorem bits'_any (w:World) (B:Nat) (A:Option Addr) (c:Nat) (l:List Nat) (hr:Rd .u32 w B A c l) (hd:Dg l) (hs:l.length≤5000) (v:Nat) (hv:nb l=v):Calls Tryz.prog 62 #[.slice A l.length c] w fun e w'=>e = .returned (.int .i64 (v:Int))∧w=w':=by
 have hlc:l.length≤c:=hr.1
 have hc63:c≤9223372036854775807:=hr.2.1
 have Hv:=Lib.hid hv.symm
 clear hv
 go_enter Tryz.func62,Tryz.ntmps62
 go_wp2_with fail
 go_loop [3,4,5] (fun sn si _=>∃ i n:Nat,i≤l.length∧si = .int .i64 i∧sn = .int .i64 n∧n≤32*i∧Hid ((i<l.length→n=32*i)∧(i=l.length→n=nb l))) (fun _ si _=>l.length - (intOf si).toNat)
 case atStart=>exact ⟨0,0,by omega,rfl,rfl,by omega,by omega,fun h=>(nb_nil h.symm).symm⟩
 case round =>
  obtain ⟨i,n,hi,rfl,rfl,hni,H⟩:=hrel
  by_cases h:i<l.length
  ·obtain ⟨b,off,x,rfl,hb,hx,Hx⟩:=hr.at_ h
   have hxl:x<4294967296:=by rw [Hx.out];exact hd.at_ i
   obtain rfl:n=32*i:=H.out.1 h
   have hbl:=Lib.bitLen_le x 32 (by omega) (by omega)
   go_wp2_with fail
   go_loop [3,5] (fun sn sx=>∃ k y:Nat,sx = .int .u32 y∧sn = .int .i64 k∧y<4294967296∧Hid (k+Lib.bitLen y=32*i+Lib.bitLen x)∧k≤32*i+32) (fun _ sx=>(intOf sx).toNat)
   case atStart=>exact ⟨_,x,rfl,by go_num,hxl,rfl,by omega⟩
   case round =>
    obtain ⟨k,y,rfl,rfl,hy,Hk,hk⟩:=hrel
    by_cases h0:y=0
    ·subst h0
     have Hk':=Lib.hid (show k=32*i+Lib.bitLen x from Hk.out)
     by_cases hl:i+1<l.length
     ·have hl':(i:Int)<(l.length:Int) - 1:=by omega
      go_wp2_with fail
      go_round
      case rel=>exact ⟨i+1,32*(i+1),by omega,by go_num,by go_num,by omega,fun _=>rfl,fun e=>by omega⟩
      case measure=>simp [intOf];omega
     ·have hl':¬ (i:Int)<(l.length:Int) - 1:=by omega
      have hk3:k≤32*(i+1):=by omega
      have Hn:=Lib.hid (show k=nb l by rw [Hk'.out,nb_succ (m:=i) (by omega),Hx.out])
      go_wp2_with fail
      go_round
      case rel=>exact ⟨i+1,k,by omega,by go_num,rfl,hk3,fun e=>by omega,fun _=>Hn.out⟩
      case measure=>simp [intOf];omega
    ·have hh:=Lib.bitLen_half y h0 (by omega)
     have Hk2:=Lib.hid (show k+1+Lib.bitLen (y / 2)=32*i+Lib.bitLen x by have:=Hk.out;omega)
     have hk2:k+1≤32*i+32:=by have:=Hk.out;omega
     clear hh
     go_wp2_with fail
     go_round
     case rel=>exact ⟨k+1,y / 2,by go_num,by go_num,by omega,Hk2,hk2⟩
     case measure=>simp [intOf];omega
  ·have Hn:=Lib.hid (show v=n by rw [Hv.out];exact (H.out.2 (by omega)).symm)
   go_wp2_with fail
   go_ret
   exact ⟨by rw [Hn.out];rfl,rfl⟩

end Go.Proofs.YtcibjcgipfpniaaGreatDoor
namespace Go.Proofs.YtcibjcgipfpniaaGreatDoor
open Go.RowKit
set_option linter.unusedVariables false

/-- The digits of bytes, the highest byte first. -/
def words (b:List Nat):List Nat:=(List.range ((b.length+3) / 4)).map (part b.reverse 0)

theorem words_length (b:List Nat):(words b).length=(b.length+3) / 4:=by simp [words]
theorem words_at (b:List Nat) {j:Nat} (h:j<(b.length+3) / 4):(words b).getD j 0=part b.reverse 0 j:=by
 simp [words,List.getD,h]
theorem words_dg {b:List Nat} (h:Oct b.reverse):Dg (words b):=fun x hx=>by
 obtain ⟨j,_,rfl⟩:=List.mem_map.1 hx
 exact part_dg h 0 j
theorem words_eq {b L:List Nat} (hl:L.length=(b.length+3) / 4) (h:∀ j,j<L.length→L.getD j 0=part b.reverse 0 j):L=words b:=by
 apply List.ext_getElem
 ·rw [hl,words_length]
 ·intro j j1 j2
  have e1:=h j j1
  have e2:=words_at b (j:=j) (by omega)
  rw [←e2] at e1
  simpa [List.getD,j1,j2] using e1
theorem or_val {r:List Nat} (ho:Oct r) {k x y:Nat} (hx:x=r.getD k 0) (hy:y=part r (k+1) (k / 4)):bits .or .u32 (y:Int) ((x:Int)*2 ^ (k % 4*8) % 4294967296)=((part r k (k / 4):Nat):Int):=by
 have hx':x<256:=by rw [hx];exact ho k
 have hs:=shl_nat x (k % 4) hx' (Nat.mod_lt _ (by omega))
 have e1:((x:Int)*2 ^ (k % 4*8) % 4294967296)=((x*2 ^ (8*(k % 4)):Nat):Int):=by
  have e2:((x:Int)*2 ^ (k % 4*8))=((x*2 ^ (8*(k % 4)):Nat):Int):=by rw [Nat.mul_comm 8];push_cast;rfl
  rw [e2]
  omega
 rw [e1,u32_or_nat y _ (by rw [hy];exact part_dg ho _ _) hs,←part_step ho k,←hx,←hy,Nat.shiftLeft_eq]
theorem put_at {r L:List Nat} {k:Nat} (h:∀ j,j<L.length→L.getD j 0=part r (k+1) j) (hk:k / 4<L.length):∀ j,j<(L.set (k / 4) (part r k (k / 4))).length→(L.set (k / 4) (part r k (k / 4))).getD j 0=part r k j:=by
 intro j hj
 rw [List.length_set] at hj
 by_cases e:j=k / 4
 ·subst e
  simp [List.getD,hk]
 ·rw [←part_far r k j e,←h j hj]
  simp [List.getD,List.getElem?_set_ne (by omega:k / 4≠j)]

theorem start_at (l:List Nat):∀ j,j<(List.replicate ((l.length+3) / 4) 0).length→(List.replicate ((l.length+3) / 4) 0).getD j 0=part l.reverse (l.length - 0) j:=by
 intro j hj
 have hz:∀ k,l.length≤k→l.reverse.getD k 0=0:=fun k hk=>by rw [List.getD,List.getElem?_eq_none (by simpa using hk)];rfl
 have e:∀ k,(if l.length - 0≤k then l.reverse.getD k 0 else 0)=0:=fun k=>by
  split
  ·exact hz k (by omega)
  ·rfl
 unfold part
 rw [e,e,e,e]
 have hj':j<(l.length+3) / 4:=by simpa using hj
 simp [List.getD,hj']

set_option maxRecDepth 100000 in
theorem of_any (w:World) (B:Nat) (A:Option Addr) (c:Nat) (l:List Nat) (hr:Rd .u8 w B A c l) (hB:B≤w.heap.size) (ho:Oct l.reverse) (hs:l.length≤1024) :
  Calls Tryz.prog 68 #[.slice A l.length c] w fun e w'=>∃ A2 c2,e = .returned (.slice A2 (trl (words l)).length c2)∧Fresh .u32 59 w' w.heap.size A2 c2 (trl (words l))∧Below w.heap.size w w':=by
 have hlc:l.length≤c:=hr.1
 have hc63:c≤9223372036854775807:=hr.2.1
 have hlong:decide (1024<(l.length:Int))=false:=by simp;omega
 have hmk:=make_nat (((l.length:Int)+3) / 4) ((l.length+3) / 4) (by omega) (by omega)
 go_enter Tryz.func68,Tryz.ntmps68
 go_wp2_with fail
 have hR0:Row .u32 59 (w.alloc (.cells (nums .u32 (List.replicate ((l.length+3) / 4) 0)) 59)) w.heap.size (List.replicate ((l.length+3) / 4) 0):=Holds.fresh _ _ _
 clear hmk
 go_loopw [17] (fun si wr=>∃ (i:Nat) (L:List Nat),i≤l.length∧si = .int .i64 i∧Row .u32 59 wr w.heap.size L∧L.length=(l.length+3) / 4∧Hid (∀ j,j<L.length→L.getD j 0=part l.reverse (l.length - i) j)∧Below w.heap.size w wr)
  (fun si _=>l.length - (intOf si).toNat)
 case atStart=>exact ⟨0,_,by omega,rfl,hR0,by simp,start_at l,(Below.refl _ _).alloc (Nat.le_refl _) _⟩
 case round =>
  obtain ⟨i,L,hi,rfl,hR,hL,HD,hbel⟩:=hrel
  have hz:=Holds.lt hR
  have HL:=Lib.hid hL
  clear hL
  have hfr:=hR.open_
  by_cases h:i<l.length
  ·obtain ⟨b,off,x,rfl,hb,hx,Hx⟩:=(hr.under (hbel.mono hB)).at_ h
   obtain ⟨k,hk⟩:∃ k:Nat,l.length=k+1+i:=⟨l.length - 1 - i,by omega⟩
   have Hx2:=Lib.hid (show x=l.reverse.getD k 0 by rw [rev_at hk];exact Hx.out)
   have hxl:x<256:=by rw [Hx2.out];exact ho k
   have hc0:=hR.cell (i:=k / 4) (by rw [HL.out];omega)
   have HD2:=Lib.hid (show ∀ j,j<L.length→L.getD j 0=part l.reverse (k+1) j by have:=HD.out;rwa [show l.length - i=k+1 by omega] at this)
   obtain ⟨y,Hy⟩:∃ y,Hid (y=L.getD (k / 4) 0):=⟨_,rfl⟩
   rw [←Hy.out] at hc0
   have Hy2:=Lib.hid (show y=part l.reverse (k+1) (k / 4) by rw [Hy.out];exact HD2.out _ (by rw [HL.out];omega))
   have hkl:(k:Int) / 4<((l.length:Int)+3) / 4:=by omega
   have ek:(l.length:Int) - 1 - i=k:=by omega
   have hkk:l.length - (i+1)=k:=by omega
   have Hkk:=Lib.hid hkk
   clear hk hkk HD
   go_wp2_with fail
   go_region
   all_goals go_wp2_with fail
   have hst:=hR.set (k / 4) (part l.reverse k (k / 4))
   have hpa:=put_at HD2.out (by rw [HL.out];omega)
   refine ⟨⟨i+1,_,by omega,by go_num,by rw [or_val ho Hx2.out Hy2.out];exact hst,by rw [List.length_set];exact HL.out,by rw [Hkk.out];exact hpa,(hbel.setCell (Nat.le_refl _) _).drew⟩,by simp [intOf];omega⟩
  ·have hLw:L=words l:=words_eq HL.out (by have:=HD.out;rwa [show l.length - i=0 by omega] at this)
   subst hLw
   go_wp2_with fail
   refine (trim_at _ _ _ _ _ (words l) (rd_whole hR (Nat.le_of_eq HL.out) (by omega)) HL.out).mono ?_
   rintro e w1 ⟨rfl,rfl⟩
   go_wp2_with fail
   go_ret
   exact ⟨_,_,rfl,fresh_trl hR (Nat.le_refl _) (Nat.le_of_eq HL.out) (by omega),hbel⟩
end Go.Proofs.YtcibjcgipfpniaaGreatDoor
namespace Go.Proofs.YtcibjcgipfpniaaGreatDoor
open Go.RowKit
set_option linter.unusedVariables false

theorem ret_u32 {a b:Int} (h:a=b):Ending.returned (.int .u32 a) = .returned (.int .u32 b):=by rw [h]
/-- x turned to the right by n. -/
def rot (x n:Nat):Nat:=x / 2 ^ n ||| x*2 ^ (32 - n) % 4294967296
theorem lt32_or {a b:Nat} (ha:a<4294967296) (hb:b<4294967296):a ||| b<4294967296:=Nat.or_lt_two_pow (n:=32) ha hb
theorem lt32_xor {a b:Nat} (ha:a<4294967296) (hb:b<4294967296):a ^^^ b<4294967296:=Nat.xor_lt_two_pow (n:=32) ha hb
theorem lt32_and {a b:Nat} (ha:a<4294967296):a &&& b<4294967296:=Nat.lt_of_le_of_lt Nat.and_le_left ha
theorem rot_lt {x:Nat} (h:x<4294967296) (n:Nat):rot x n<4294967296 :=
 lt32_or (Nat.lt_of_le_of_lt (Nat.div_le_self _ _) h) (Nat.mod_lt _ (by omega))
/-- The numbers of places by which words are turned. -/
def Turns (n:Nat):Prop:=n=2∨n=6∨n=7∨n=11∨n=13∨n=17∨n=18∨n=19∨n=22∨n=25
theorem or_left (x p q:Nat) (hx:x<4294967296) (hp:0<p):bits .or .u32 (((x:Nat):Int) / (p:Nat)) (((x:Nat):Int)*(q:Nat) % 4294967296)=((x / p ||| x*q % 4294967296:Nat):Int):=by
 have h1:x / p<4294967296:=Nat.lt_of_le_of_lt (Nat.div_le_self _ _) hx
 have h2:x*q % 4294967296<4294967296:=Nat.mod_lt _ (by omega)
 have:=u32_or_nat (x / p) (x*q % 4294967296) h1 h2
 rw [←this,Int.natCast_ediv,Int.natCast_emod,Int.natCast_mul]
 rfl
theorem or_right (x p q:Nat) (hx:x<4294967296) (hp:0<p):bits .or .u32 (((x:Nat):Int)*(q:Nat) % 4294967296) (((x:Nat):Int) / (p:Nat))=((x / p ||| x*q % 4294967296:Nat):Int):=by
 have h1:x / p<4294967296:=Nat.lt_of_le_of_lt (Nat.div_le_self _ _) hx
 have h2:x*q % 4294967296<4294967296:=Nat.mod_lt _ (by omega)
 have:=u32_or_nat (x*q % 4294967296) (x / p) h2 h1
 rw [Nat.or_comm (x / p),←this,Int.natCast_ediv,Int.natCast_emod,Int.natCast_mul]
 rfl

set_option maxRecDepth 100000 in
theorem turned_any (w:World) (x n:Nat) (hx:x<4294967296) (hn:Turns n):Calls Tryz.prog 113 #[.int .u32 (x:Int),.int .u64 (n:Int)] w fun e w'=>e = .returned (.int .u32 ((rot x n:Nat):Int))∧w=w':=by
 have H2:=fun p q hp=>Lib.hid (or_left x p q hx hp)
 rcases hn with rfl | rfl | rfl | rfl | rfl | rfl | rfl | rfl | rfl | rfl
 all_goals
  go_enter Tryz.func113,Tryz.ntmps113
  go_wp2_with fail
  go_ret
  exact ⟨ret_u32 ((H2 _ _ (by decide)).out),rfl⟩

set_option maxRecDepth 100000 in
theorem right_any (w:World) (x n:Nat) (hx:x<4294967296) (hn:Turns n):Calls Tryz.prog 137 #[.int .u32 (x:Int),.int .i64 (n:Int)] w fun e w'=>e = .returned (.int .u32 ((rot x n:Nat):Int))∧w=w':=by
 have H2:=fun p q hp=>Lib.hid (or_right x p q hx hp)
 rcases hn with rfl | rfl | rfl | rfl | rfl | rfl | rfl | rfl | rfl | rfl
 case' inl=>have hs:bits BinOp.and IntKind.u64 (IntKind.u64.wrap (-2)) 31=30:=by decide
 case' inr.inl=>have hs:bits BinOp.and IntKind.u64 (IntKind.u64.wrap (-6)) 31=26:=by decide
 case' inr.inr.inl=>have hs:bits BinOp.and IntKind.u64 (IntKind.u64.wrap (-7)) 31=25:=by decide
 case' inr.inr.inr.inl=>have hs:bits BinOp.and IntKind.u64 (IntKind.u64.wrap (-11)) 31=21:=by decide
 case' inr.inr.inr.inr.inl=>have hs:bits BinOp.and IntKind.u64 (IntKind.u64.wrap (-13)) 31=19:=by decide
 case' inr.inr.inr.inr.inr.inl=>have hs:bits BinOp.and IntKind.u64 (IntKind.u64.wrap (-17)) 31=15:=by decide
 case' inr.inr.inr.inr.inr.inr.inl=>have hs:bits BinOp.and IntKind.u64 (IntKind.u64.wrap (-18)) 31=14:=by decide
 case' inr.inr.inr.inr.inr.inr.inr.inl=>have hs:bits BinOp.and IntKind.u64 (IntKind.u64.wrap (-19)) 31=13:=by decide
 case' inr.inr.inr.inr.inr.inr.inr.inr.inl=>have hs:bits BinOp.and IntKind.u64 (IntKind.u64.wrap (-22)) 31=10:=by decide
 case' inr.inr.inr.inr.inr.inr.inr.inr.inr=>have hs:bits BinOp.and IntKind.u64 (IntKind.u64.wrap (-25)) 31=7:=by decide
 all_goals
  go_enter Tryz.func137,Tryz.ntmps137
  go_wp2
  go_ret
  exact ⟨ret_u32 ((H2 _ _ (by decide)).out),rfl⟩

/-- Turned three ways, held against each other. -/
def tri (x n m l:Nat):Nat:=rot x n ^^^ rot x m ^^^ rot x l
theorem tri_eq {x:Nat} (h:x<4294967296) (n m l:Nat):bits .xor .u32 (bits .xor .u32 ((rot x n:Nat):Int) ((rot x m:Nat):Int)) ((rot x l:Nat):Int)=((tri x n m l:Nat):Int):=by
 rw [u32_xor_nat _ _ (rot_lt h n) (rot_lt h m),u32_xor_nat _ _ (lt32_xor (rot_lt h n) (rot_lt h m)) (rot_lt h l)]
 rfl
set_option maxRecDepth 100000 in
theorem turn_any (w:World) (x n m l:Nat) (hx:x<4294967296) (hn:Turns n) (hm:Turns m) (hl:Turns l):Calls Tryz.prog 131 #[.int .u32 (x:Int),.int .i64 (n:Int),.int .i64 (m:Int),.int .i64 (l:Int)] w fun e w'=>e = .returned (.int .u32 ((tri x n m l:Nat):Int))∧w=w':=by
 have HT:=Lib.hid (tri_eq hx n m l)
 go_enter Tryz.func131,Tryz.ntmps131
 go_wp2_with fail
 refine (right_any _ x n hx hn).mono ?_
 rintro e w1 ⟨rfl,rfl⟩
 go_wp2_with fail
 refine (right_any _ x m hx hm).mono ?_
 rintro e w1 ⟨rfl,rfl⟩
 go_wp2_with fail
 refine (right_any _ x l hx hl).mono ?_
 rintro e w1 ⟨rfl,rfl⟩
 go_wp2_with fail
 go_ret
 exact ⟨ret_u32 HT.out,rfl⟩
end Go.Proofs.YtcibjcgipfpniaaGreatDoor
namespace Go.Proofs.YtcibjcgipfpniaaGreatDoor
set_option linter.unusedVariables false

/-- Word t of a block's bytes. -/
def w0 (B:List Nat) (t:Nat):Nat:=((B.getD (4*t) 0*16777216 ||| B.getD (4*t+1) 0*65536) ||| B.getD (4*t+2) 0*256) ||| B.getD (4*t+3) 0
def sg0 (x:Nat):Nat:=(rot x 7 ^^^ rot x 18) ^^^ x / 8
def sg1 (x:Nat):Nat:=(rot x 17 ^^^ rot x 19) ^^^ x / 1024
def nextW (B L:List Nat) (t:Nat):Nat :=
 if t<16 then w0 B t else (((L.getD (t - 16) 0+sg0 (L.getD (t - 15) 0)) % 4294967296+L.getD (t - 7) 0) % 4294967296+sg1 (L.getD (t - 2) 0)) % 4294967296
/-- The first words of a block. -/
def sched (B:List Nat):Nat→List Nat
 | 0=>[]
 | t+1=>sched B t ++ [nextW B (sched B t) t]
theorem sched_length (B:List Nat):∀ t,(sched B t).length=t
 | 0=>rfl
 | t+1=>by rw [sched,List.length_append,sched_length B t];rfl
theorem getD_take (L:List Nat) {j t:Nat} (h:j<t):(L.take t).getD j 0=L.getD j 0:=by simp [List.getD,h]
theorem take_put (L:List Nat) {t:Nat} (x:Nat) (h:t<L.length):(L.set t x).take (t+1)=L.take t ++ [x]:=by
 rw [List.take_add_one,List.take_set_of_le (Nat.le_refl t)]
 simp [h]
/-- One word more. -/
theorem sched_put {B L:List Nat} {t:Nat} (h:L.take t=sched B t) (hl:t<L.length) (x:Nat) (hx:x=nextW B L t):(L.set t x).take (t+1)=sched B (t+1):=by
 rw [take_put L x hl,h,sched,hx]
 congr 2
 unfold nextW
 split
 ·rfl
 ·rw [←h]
  rename_i h16
  rw [getD_take L (by omega:t - 16<t),getD_take L (by omega:t - 15<t),getD_take L (by omega:t - 7<t),getD_take L (by omega:t - 2<t)]

/-- The eight words of a round. -/
structure StS where
 a:Nat
 b:Nat
 c:Nat
 d:Nat
 e:Nat
 f:Nat
 g:Nat
 h:Nat
def StS.Ok (s:StS):Prop:=s.a<4294967296∧s.b<4294967296∧s.c<4294967296∧s.d<4294967296∧s.e<4294967296∧s.f<4294967296∧s.g<4294967296∧s.h<4294967296
def t1 (s:StS) (k w:Nat):Nat:=((((s.h+tri s.e 6 11 25) % 4294967296+((s.e &&& s.f) ^^^ ((4294967295 ^^^ s.e) &&& s.g))) % 4294967296+k) % 4294967296+w) % 4294967296
def t2 (s:StS):Nat:=(tri s.a 2 13 22+((s.a &&& s.b) ^^^ (s.a &&& s.c) ^^^ (s.b &&& s.c))) % 4294967296
def StS.next (s:StS) (k w:Nat):StS:=⟨(t1 s k w+t2 s) % 4294967296,s.a,s.b,s.c,(s.d+t1 s k w) % 4294967296,s.e,s.f,s.g⟩
def StS.list (s:StS):List Nat:=[s.a,s.b,s.c,s.d,s.e,s.f,s.g,s.h]
def StS.plus (s t:StS):StS:=⟨(s.a+t.a) % 4294967296,(s.b+t.b) % 4294967296,(s.c+t.c) % 4294967296,(s.d+t.d) % 4294967296,(s.e+t.e) % 4294967296,(s.f+t.f) % 4294967296,(s.g+t.g) % 4294967296,(s.h+t.h) % 4294967296⟩
/-- The words K. -/
def KL:List Nat:=[0x428a2f98,0x71374491,0xb5c0fbcf,0xe9b5dba5,0x3956c25b,0x59f111f1,0x923f82a4,0xab1c5ed5,0xd807aa98,0x12835b01,0x243185be,0x550c7dc3,0x72be5d74,0x80deb1fe,0x9bdc06a7,0xc19bf174,0xe49b69c1,0xefbe4786,0x0fc19dc6,0x240ca1cc,0x2de92c6f,0x4a7484aa,0x5cb0a9dc,0x76f988da,0x983e5152,0xa831c66d,0xb00327c8,0xbf597fc7,0xc6e00bf3,0xd5a79147,0x06ca6351,0x14292967,0x27b70a85,0x2e1b2138,0x4d2c6dfc,0x53380d13,0x650a7354,0x766a0abb,0x81c2c92e,0x92722c85,0xa2bfe8a1,0xa81a664b,0xc24b8b70,0xc76c51a3,0xd192e819,0xd6990624,0xf40e3585,0x106aa070,0x19a4c116,0x1e376c08,0x2748774c,0x34b0bcb5,0x391c0cb3,0x4ed8aa4a,0x5b9cca4f,0x682e6ff3,0x748f82ee,0x78a5636f,0x84c87814,0x8cc70208,0x90befffa,0xa4506ceb,0xbef9a3f7,0xc67178f2]
/-- The rounds. -/
def rounds6 (s:StS) (W:List Nat):Nat→StS
 | 0=>s
 | t+1=>(rounds6 s W t).next (KL.getD t 0) (W.getD t 0)
/-- One block. -/
def blk (s:StS) (B:List Nat):StS:=if B.length=64 then s.plus (rounds6 s (sched B 64) 64) else s

theorem next_ok {s:StS} (h:s.Ok) (k w:Nat):(s.next k w).Ok:=by
 obtain ⟨h1,h2,h3,h4,h5,h6,h7,h8⟩:=h
 exact ⟨Nat.mod_lt _ (by omega),h1,h2,h3,Nat.mod_lt _ (by omega),h5,h6,h7⟩
theorem rounds_ok {s:StS} (h:s.Ok) (W:List Nat):∀ t,(rounds6 s W t).Ok
 | 0=>h
 | t+1=>next_ok (rounds_ok h W t) _ _
theorem plus_ok (s t:StS):(s.plus t).Ok:=⟨Nat.mod_lt _ (by omega),Nat.mod_lt _ (by omega),Nat.mod_lt _ (by omega),Nat.mod_lt _ (by omega),Nat.mod_lt _ (by omega),Nat.mod_lt _ (by omega),Nat.mod_lt _ (by omega),Nat.mod_lt _ (by omega)⟩
theorem blk_ok {s:StS} (h:s.Ok) (B:List Nat):(blk s B).Ok:=by
 unfold blk
 split
 ·exact plus_ok _ _
 ·exact h
def M32 (L:List Nat):Prop:=∀ i,L.getD i 0<4294967296
theorem sg0_lt {x:Nat} (h:x<4294967296):sg0 x<4294967296:=lt32_xor (lt32_xor (rot_lt h _) (rot_lt h _)) (Nat.lt_of_le_of_lt (Nat.div_le_self _ _) h)
theorem sg1_lt {x:Nat} (h:x<4294967296):sg1 x<4294967296:=lt32_xor (lt32_xor (rot_lt h _) (rot_lt h _)) (Nat.lt_of_le_of_lt (Nat.div_le_self _ _) h)
/-- Bytes. -/
def Oct6 (B:List Nat):Prop:=∀ i,B.getD i 0<256
theorem w0_lt {B:List Nat} (h:Oct6 B) (t:Nat):w0 B t<4294967296:=by
 have h0:=h (4*t);have h1:=h (4*t+1);have h2:=h (4*t+2);have h3:=h (4*t+3)
 exact lt32_or (lt32_or (lt32_or (by omega) (by omega)) (by omega)) (by omega)
theorem nextW_lt {B:List Nat} (h:Oct6 B) (L:List Nat) (t:Nat):nextW B L t<4294967296:=by
 unfold nextW
 split
 ·exact w0_lt h t
 ·exact Nat.mod_lt _ (by omega)
theorem m32_set {L:List Nat} (h:M32 L) (t:Nat) {x:Nat} (hx:x<4294967296):M32 (L.set t x):=by
 intro i
 have:=h i
 rw [List.getD,List.getElem?_set]
 by_cases e:t=i
 ·subst e
  rw [if_pos rfl]
  split
  ·exact hx
  ·exact Nat.lt_of_le_of_lt (Nat.le_refl 0) (by omega)
 ·rw [if_neg e];exact this
theorem m32_noughts (n:Nat):M32 (List.replicate n 0):=by
 intro i
 rw [List.getD,List.getElem?_replicate]
 split
 ·exact (by omega:(0:Nat)<4294967296)
 ·exact (by omega:(0:Nat)<4294967296)
end Go.Proofs.YtcibjcgipfpniaaGreatDoor
namespace Go.Proofs.YtcibjcgipfpniaaGreatDoor
open Go.RowKit
set_option linter.unusedVariables false
attribute [local go_sem ↓] Go.wp_at_zero Go.wp_at_succ

set_option maxRecDepth 100000 in
theorem z64:(#[Value.int IntKind.u32 0,Value.int IntKind.u32 0,Value.int IntKind.u32 0,Value.int IntKind.u32 0,Value.int IntKind.u32 0,Value.int IntKind.u32 0,Value.int IntKind.u32 0,Value.int IntKind.u32 0,Value.int IntKind.u32 0,Value.int IntKind.u32 0,Value.int IntKind.u32 0,Value.int IntKind.u32 0,Value.int IntKind.u32 0,Value.int IntKind.u32 0,Value.int IntKind.u32 0,Value.int IntKind.u32 0,Value.int IntKind.u32 0,Value.int IntKind.u32 0,Value.int IntKind.u32 0,Value.int IntKind.u32 0,Value.int IntKind.u32 0,Value.int IntKind.u32 0,Value.int IntKind.u32 0,Value.int IntKind.u32 0,Value.int IntKind.u32 0,Value.int IntKind.u32 0,Value.int IntKind.u32 0,Value.int IntKind.u32 0,Value.int IntKind.u32 0,Value.int IntKind.u32 0,Value.int IntKind.u32 0,Value.int IntKind.u32 0,Value.int IntKind.u32 0,Value.int IntKind.u32 0,Value.int IntKind.u32 0,Value.int IntKind.u32 0,Value.int IntKind.u32 0,Value.int IntKind.u32 0,Value.int IntKind.u32 0,Value.int IntKind.u32 0,Value.int IntKind.u32 0,Value.int IntKind.u32 0,Value.int IntKind.u32 0,Value.int IntKind.u32 0,Value.int IntKind.u32 0,Value.int IntKind.u32 0,Value.int IntKind.u32 0,Value.int IntKind.u32 0,Value.int IntKind.u32 0,Value.int IntKind.u32 0,Value.int IntKind.u32 0,Value.int IntKind.u32 0,Value.int IntKind.u32 0,Value.int IntKind.u32 0,Value.int IntKind.u32 0,Value.int IntKind.u32 0,Value.int IntKind.u32 0,Value.int IntKind.u32 0,Value.int IntKind.u32 0,Value.int IntKind.u32 0,Value.int IntKind.u32 0,Value.int IntKind.u32 0,Value.int IntKind.u32 0,Value.int IntKind.u32 0]:Array Value)=nums .u32 (List.replicate 64 0):=rfl

/-- Block g is words of which the first k are the block's. -/
def WordsTo (l:List Nat) (w:World) (B:Nat) (A:Option Addr) (c k:Nat) (wr:World):Prop :=
 ∃ L R:List Nat,Row .u32 124 wr (w.heap.size+1) L∧L.length=64∧Hid (L.take k=sched l k)∧M32 L∧Row .u32 124 wr w.heap.size R∧R.length=64∧Rd .u8 wr B A c l∧Below w.heap.size w wr
def RelWS (l:List Nat) (w:World) (B:Nat) (A:Option Addr) (c n:Nat) (i:Value) (wr:World):Prop :=
 ∃ k:Nat,k≤n∧i = .int .i64 k∧WordsTo l w B A c k wr

theorem words_store {l L:List Nat} {w wr W2:World} {B:Nat} {A:Option Addr} {c k:Nat} {R:List Nat} {x:Nat} (hrow:Row .u32 124 wr (w.heap.size+1) L) (hL:L.length=64) (HL:L.take k=sched l k) (hm:M32 L) (hR:Row .u32 124 wr w.heap.size R) (hRl:R.length=64) (hrd:Rd .u8 wr B A c l) (hb:Below w.heap.size w wr) (hB:B≤w.heap.size) (hk:k<64)
  (hx:x=nextW l L k) (hx32:x<4294967296) (hW2:W2=(wr.setCell ⟨w.heap.size+1,k,none⟩ (.int .u32 (x:Int))).drewN 1):WordsTo l w B A c (k+1) W2:=by
 subst hW2
 have hg:wr.grownBy ((wr.setCell ⟨w.heap.size+1,k,none⟩ (.int .u32 (x:Int))).drewN 1) (some (w.heap.size+1)):=one_drewN (one_setCell (World.grownBy.refl wr (some (w.heap.size+1))) k _) 1
 have hlow:=one_below hg (Nat.le_succ _) hb.size
 refine ⟨L.set k x,R,(hrow.set k x).drewN 1,by rw [List.length_set];exact hL,Lib.hid (sched_put HL (by omega) x hx),m32_set hm k hx32,Holds.grown hR hg (by intro e;injection e;omega),hRl,hrd.under (hlow.mono hB),hb.trans hlow⟩

def RelX (l:List Nat) (w:World) (B:Nat) (A:Option Addr) (c:Nat) (i:Value) (wr:World):Prop :=
 ∃ k:Nat,16≤k∧k≤64∧i = .int .i64 k∧WordsTo l w B A c k wr
theorem words_store' {l L:List Nat} {w wr W2:World} {B:Nat} {A:Option Addr} {c k:Nat} {R:List Nat} {x:Nat} (hrow:Row .u32 124 wr (w.heap.size+1) L) (hL:L.length=64) (HL:L.take k=sched l k) (hm:M32 L) (hR:Row .u32 124 wr w.heap.size R) (hRl:R.length=64) (hrd:Rd .u8 wr B A c l) (hb:Below w.heap.size w wr) (hB:B≤w.heap.size) (hk:k<64)
  (V2:World) (hV2:∃ n,V2=wr.drewN n) (hx:x=nextW l L k) (hx32:x<4294967296) (hW2:W2=(V2.setCell ⟨w.heap.size+1,k,none⟩ (.int .u32 (x:Int))).drewN 1):WordsTo l w B A c (k+1) W2:=by
 obtain ⟨n,rfl⟩:=hV2
 exact words_store (wr:=wr.drewN n) (hrow.drewN n) hL HL hm (hR.drewN n) hRl (hrd.drewN n) ⟨hb.os,hb.tape,hb.output,hb.size,hb.block⟩ hB hk hx hx32 hW2
/-- A call that leaves the world alone, in a region's first draws. -/
theorem quiet_one {P:Program} {f:FuncId} {args:Array Value} {w:World} {n:Nat} {v:Value}
  (h:∀ W:World,Calls P f args W fun e w'=>e = .returned v∧W=w'):Calls P f args (w.drewN n) fun e w''=>e = .returned v∧∃ m,w''=w.drewN m :=
 (h _).mono fun _ _ hh=>⟨hh.1,n,hh.2.symm⟩
theorem nums_one (k:IntKind) (l:List Nat):(nums k l).all (·.oneCell')=true:=by
 rw [Array.all_eq_true_iff_forall_mem]
 intro v hv
 simp [nums] at hv
 obtain ⟨a,_,rfl⟩:=hv
 rfl
theorem xor3 {a b x:Nat} (ha:a<4294967296) (hb:b<4294967296) (hx:x<4294967296) (p:Nat):bits BinOp.xor IntKind.u32 (bits BinOp.xor IntKind.u32 (a:Int) (b:Int)) ((x:Int) / (p:Nat))=(((a ^^^ b) ^^^ x / p:Nat):Int):=by
 have e1:=u32_xor_nat a b ha hb
 have e2:=u32_xor_nat (a ^^^ b) (x / p) (lt32_xor ha hb) (Nat.lt_of_le_of_lt (Nat.div_le_self _ _) hx)
 rw [←e2,←e1,Int.natCast_ediv]
theorem tn2:Turns 2:=.inl rfl
instance (n:Nat):Decidable (Turns n):=by unfold Turns;infer_instance
/-- x turned by a whole number of places. -/
def rotI (x:Nat) (z:Int):Nat:=rot x z.toNat
theorem right_int (w:World) (x:Nat) (z:Int) (hx:x<4294967296) (hz:0≤z∧Turns z.toNat):Calls Tryz.prog 137 #[.int .u32 (x:Int),.int .i64 z] w fun e w'=>e = .returned (.int .u32 ((rotI x z:Nat):Int))∧w=w':=by
 obtain ⟨n,rfl⟩:∃ n:Nat,z=(n:Int):=⟨z.toNat,by omega⟩
 exact right_any w x n hx hz.2
set_option maxRecDepth 100000 in
set_option maxHeartbeats 1000000 in
theorem words_any (w:World) (B:Nat) (A:Option Addr) (c:Nat) (l:List Nat) (hl:l.length=64) (hr:Rd .u8 w B A c l) (hB:B≤w.heap.size) (ho:Oct6 l) :
  Calls Tryz.prog 130 #[.slice A 64 c] w fun e w'=>e = .returned (.agg (nums .u32 (sched l 64)))∧Below w.heap.size w w':=by
 have hlc:=hr.1
 have hc63:=hr.2.1
 have HLL:=Lib.hid hl
 have HO:=Lib.hid ho
 rw [hl] at hlc
 obtain ⟨b,off,rfl,hb,hcb⟩:=hr.2.2 (by omega)
 clear hl hcb
 have hrow0:=Holds.fresh w 124 (nums .u32 (List.replicate 64 0))
 have hrow:=Holds.fresh (w.alloc (.cells (nums .u32 (List.replicate 64 0)) 124)) 124 (nums .u32 (List.replicate 64 0))
 have hrow1:=hrow0.alloc (.cells (nums .u32 (List.replicate 64 0)) 124)
 have hbel:Below w.heap.size w ((w.alloc (.cells (nums .u32 (List.replicate 64 0)) 124)).alloc (.cells (nums .u32 (List.replicate 64 0)) 124)):=((Below.refl _ _).alloc (Nat.le_refl _) _).alloc (by simp) _
 rw [show (w.alloc (.cells (nums .u32 (List.replicate 64 0)) 124)).heap.size=w.heap.size+1 by simp] at hrow
 have hrd:=hr.under (hbel.mono hB)
 have hm:=m32_noughts 64
 rw [←z64] at hrow hrow1 hbel hrd
 clear hrow0 hr
 go_enter Tryz.func130,Tryz.ntmps130
 go_wp2_with fail
 generalize (w.alloc _).alloc _=W at *
 rw [z64] at hrow hrow1
 have hst:WordsTo l w B (some ⟨b,off,none⟩) c 0 W:=⟨_,_,hrow,List.length_replicate,Lib.hid rfl,hm,hrow1,List.length_replicate,hrd,hbel⟩
 clear hrow hrow1 hrd hbel hm
 go_loopw [8] (fun i wr=>RelWS l w B (some ⟨b,off,none⟩) c 16 i wr) (fun i _=>16 - (intOf i).toNat)
 case atStart=>exact ⟨0,Nat.zero_le _,rfl,hst⟩
 case round =>
  clear hst
  obtain ⟨k,hk,rfl,hst⟩:=hrel
  obtain ⟨V,hV⟩:∃ V,V=wr:=⟨_,rfl⟩
  subst hV
  by_cases hkn:k<16
  case pos =>
   obtain ⟨L,R,hrow,hL,HL,hm,hR,hRl,hrd,hbk⟩:=hst
   obtain ⟨b2,off2,e2,hb2,hc⟩:=hrd.2.2 (by have:=HLL.out;omega)
   injection e2 with e2
   injection e2 with e3 e4
   subst e3 e4
   have c0:=hc (4*k) (by have:=HLL.out;omega)
   have c1:=hc (4*k+1) (by have:=HLL.out;omega)
   have c2:=hc (4*k+2) (by have:=HLL.out;omega)
   have c3:=hc (4*k+3) (by have:=HLL.out;omega)
   obtain ⟨x0,h0⟩:∃ x,x=l.getD (4*k) 0:=⟨_,rfl⟩
   obtain ⟨x1,h1⟩:∃ x,x=l.getD (4*k+1) 0:=⟨_,rfl⟩
   obtain ⟨x2,h2⟩:∃ x,x=l.getD (4*k+2) 0:=⟨_,rfl⟩
   obtain ⟨x3,h3⟩:∃ x,x=l.getD (4*k+3) 0:=⟨_,rfl⟩
   rw [←h0] at c0;rw [←h1] at c1;rw [←h2] at c2;rw [←h3] at c3
   have z0:x0<256:=by rw [h0];exact HO.out _
   have z1:x1<256:=by rw [h1];exact HO.out _
   have z2:x2<256:=by rw [h2];exact HO.out _
   have z3:x3<256:=by rw [h3];exact HO.out _
   have HX:Hid (((x0*16777216 ||| x1*65536) ||| x2*256) ||| x3=nextW l L k):=Lib.hid (by rw [nextW,if_pos hkn,w0,h0,h1,h2,h3])
   have HS:Hid _:=Lib.hid (fun x W2=>words_store (x:=x) (W2:=W2) hrow hL HL.out hm hR hRl hrd hbk hB (by omega:k<64))
   have hw:=hrow.cell (i:=k) (by omega)
   have hfr:=hrow.open_ k
   have k0:(0:Int)≤(k:Int):=by omega
   have k64:(k:Int)<64:=by omega
   have g0:(0:Int)≤4*(k:Int):=by omega
   have g0':4*(k:Int)<64:=by omega
   have g1:(0:Int)≤4*(k:Int)+1:=by omega
   have g1':4*(k:Int)+1<64:=by omega
   have g2:(0:Int)≤4*(k:Int)+2:=by omega
   have g2':4*(k:Int)+2<64:=by omega
   have g3:(0:Int)≤4*(k:Int)+3:=by omega
   have g3':4*(k:Int)+3<64:=by omega
   clear h0 h1 h2 h3 hc hrow hR hrd hbk hm
   go_wp2_with fail
   go_region
   have E:bits BinOp.or IntKind.u32 (bits BinOp.or IntKind.u32 (bits BinOp.or IntKind.u32 ((x0:Int)*16777216) ((x1:Int)*65536)) ((x2:Int)*256)) (x3:Int)=((((x0*16777216 ||| x1*65536) ||| x2*256) ||| x3:Nat):Int):=by
    have e1:=u32_or_nat (x0*16777216) (x1*65536) (by omega) (by omega)
    have e2:=u32_or_nat (x0*16777216 ||| x1*65536) (x2*256) (lt32_or (by omega) (by omega)) (by omega)
    have e3:=u32_or_nat ((x0*16777216 ||| x1*65536) ||| x2*256) x3 (lt32_or (lt32_or (by omega) (by omega)) (by omega)) (by omega)
    rw [←e3,←e2,←e1,Int.natCast_mul,Int.natCast_mul,Int.natCast_mul]
    rfl
   have hst2:WordsTo l w B (some ⟨b,off,none⟩) c (k+1) (V.setCell ⟨w.heap.size+1,k,none⟩ (.int .u32 (bits BinOp.or IntKind.u32 (bits BinOp.or IntKind.u32 (bits BinOp.or IntKind.u32 ((x0:Int)*16777216) ((x1:Int)*65536)) ((x2:Int)*256)) (x3:Int)))).drew :=
    HS.out _ _ HX.out (lt32_or (lt32_or (lt32_or (by omega) (by omega)) (by omega)) (by omega)) (by rw [E];rfl)
   generalize World.drew _=V2 at hst2 ⊢
   clear E HS HX c0 c1 c2 c3 hw hfr g0 g0' g1 g1' g2 g2' g3 g3' k64 hL HL hRl
   go_wp2_with fail
   go_roundw
   case rel=>exact ⟨k+1,by omega,by go_num,hst2⟩
   case measure=>simp [intOf];omega
  case neg =>
   obtain rfl:k=16:=by omega
   have hf:decide (((16:Nat):Int)<16)=false:=by decide
   go_wp2_with fail
   clear hf
   go_loopw [5] (fun i wr=>RelX l w B (some ⟨b,off,none⟩) c i wr) (fun i _=>64 - (intOf i).toNat)
   case atStart=>exact ⟨16,by omega,by omega,rfl,hst⟩
   case round =>
    clear hst
    obtain ⟨k,hk16,hk,rfl,hst⟩:=hrel
    obtain ⟨V,hV⟩:∃ V,V=wr:=⟨_,rfl⟩
    subst hV
    by_cases hkn:k<64
    case pos =>
     obtain ⟨L,R,hrow,hL,HL,hm,hR,hRl,hrd,hbk⟩:=hst
     have c16:=hrow.cell (i:=k - 16) (by omega)
     have c15:=hrow.cell (i:=k - 15) (by omega)
     have c7:=hrow.cell (i:=k - 7) (by omega)
     have c2:=hrow.cell (i:=k - 2) (by omega)
     have z16:=hm (k - 16)
     have z15:=hm (k - 15)
     have z7:=hm (k - 7)
     have z2:=hm (k - 2)
     have HX:Hid ((((L.getD (k - 16) 0+sg0 (L.getD (k - 15) 0)) % 4294967296+L.getD (k - 7) 0) % 4294967296+sg1 (L.getD (k - 2) 0)) % 4294967296=nextW l L k):=Lib.hid (by rw [nextW,if_neg (by omega)])
     have HS:Hid _:=Lib.hid (fun x V2 hV2 W2=>words_store' (x:=x) (W2:=W2) hrow hL HL.out hm hR hRl hrd hbk hB hkn V2 hV2)
     have ck:=hrow.cell (i:=k) (by omega)
     have cf:=hrow.open_ k
     generalize L.getD (k - 16) 0=x16 at *
     generalize L.getD (k - 15) 0=x15 at *
     generalize L.getD (k - 7) 0=x7 at *
     generalize L.getD (k - 2) 0=x2 at *
     have k0:(0:Int)≤(k:Int):=by omega
     have g16:(16:Int)≤(k:Int):=by omega
     have g15:(15:Int)≤(k:Int):=by omega
     have g7:(7:Int)≤(k:Int):=by omega
     have g2:(2:Int)≤(k:Int):=by omega
     have f16:(k:Int) - 16<64:=by omega
     have f15:(k:Int) - 15<64:=by omega
     have f7:(k:Int) - 7<64:=by omega
     have f2:(k:Int) - 2<64:=by omega
     have e16:((k:Int) - 16).toNat=k - 16:=by omega
     have e15:((k:Int) - 15).toNat=k - 15:=by omega
     have e7:((k:Int) - 7).toNat=k - 7:=by omega
     have e2:((k:Int) - 2).toNat=k - 2:=by omega
     have q15:IntKind.i64.wrap ((k:Int) - 15)=(k:Int) - 15:=IntWalk.i64_in _ (by omega)
     have q2:IntKind.i64.wrap ((k:Int) - 2)=(k:Int) - 2:=IntWalk.i64_in _ (by omega)
     have q7:IntKind.i64.wrap ((k:Int) - 7)=(k:Int) - 7:=IntWalk.i64_in _ (by omega)
     have q16:IntKind.i64.wrap ((k:Int) - 16)=(k:Int) - 16:=IntWalk.i64_in _ (by omega)
     clear hrow hR hrd hbk hm
     go_wp2_with fail
     go_quiet ((go_at_call 137;first | exact quiet_one (fun W=>right_int W _ _ (by assumption) (by decide)) | exact quiet_on (fun W=>right_int W _ _ (by assumption) (by decide))))
     go_wp2_with fail
     go_quiet ((go_at_call 137;first | exact quiet_one (fun W=>right_int W _ _ (by assumption) (by decide)) | exact quiet_on (fun W=>right_int W _ _ (by assumption) (by decide))))
     have E0:bits BinOp.xor IntKind.u32 (bits BinOp.xor IntKind.u32 ((rotI x15 7:Nat):Int) ((rotI x15 18:Nat):Int)) ((x15:Int) / 8)=((sg0 x15:Nat):Int):=xor3 (rot_lt z15 7) (rot_lt z15 18) z15 8
     have E1:bits BinOp.xor IntKind.u32 (bits BinOp.xor IntKind.u32 ((rotI x2 17:Nat):Int) ((rotI x2 19:Nat):Int)) ((x2:Int) / 1024)=((sg1 x2:Nat):Int):=xor3 (rot_lt z2 17) (rot_lt z2 19) z2 1024
     rw [E0,E1]
     have y0:=sg0_lt z15
     have y1:=sg1_lt z2
     clear E0 E1
     generalize sg0 x15=s0 at *
     generalize sg1 x2=s1 at *
     generalize hV3:World.drewN (World.drewN V _) _=V3
     have HV3:Hid (∃ n,V3=V.drewN n):=Lib.hid ⟨_,by rw [←hV3,World.drewN_drewN]⟩
     have d16:V3.cell? ⟨w.heap.size+1,k - 16,none⟩=some (.int .u32 (x16:Int)):=by rw [←hV3];exact c16
     have d7:V3.cell? ⟨w.heap.size+1,k - 7,none⟩=some (.int .u32 (x7:Int)):=by rw [←hV3];exact c7
     have hw:V3.cell? ⟨w.heap.size+1,k,none⟩=some (.int .u32 ((L.getD k 0:Nat):Int)):=by rw [←hV3];exact ck
     have hfr:V3.frozen? ⟨w.heap.size+1,k,none⟩=false:=by rw [←hV3];exact cf
     clear hV3 c16 c15 c7 c2 ck cf
     go_wp2_with fail
     go_region
     have E2:(((x16:Int)+(s0:Int)+(x7:Int)+(s1:Int)) % 4294967296)=(((((x16+s0) % 4294967296+x7) % 4294967296+s1) % 4294967296:Nat):Int):=by omega
     have hst2:WordsTo l w B (some ⟨b,off,none⟩) c (k+1) (V3.setCell ⟨w.heap.size+1,k,none⟩ (.int .u32 (((x16:Int)+(s0:Int)+(x7:Int)+(s1:Int)) % 4294967296))).drew :=
      HS.out _ V3 HV3.out _ HX.out (Nat.mod_lt _ (by omega)) (by rw [E2];rfl)
     generalize World.drew _=V4 at hst2 ⊢
     clear E2 HS HX d16 d7 hw hfr g16 g15 g7 g2 f16 f15 f7 f2 e16 e15 e7 e2 q15 q2 q7 q16 hL HL hRl HV3
     go_wp2_with fail
     go_roundw
     case rel=>exact ⟨k+1,by omega,by omega,by go_num,hst2⟩
     case measure=>simp [intOf];omega
    case neg =>
     obtain rfl:k=64:=by omega
     obtain ⟨L,R,hrow,hL,HL,hm,hR,hRl,hrd,hbk⟩:=hst
     have hi:(Tryz.prog.info? 124).map (·.size)=some (nums .u32 L).size:=by rw [nums_size,hL];kernel_rfl
     have hone:=nums_one .u32 L
     have hsz:(nums .u32 R).size=(nums .u32 L).size:=by rw [nums_size,nums_size,hL,hRl]
     have HE:Hid (L=sched l 64):=Lib.hid (by rw [←HL.out,List.take_of_length_le (by omega)])
     have hf:decide (((64:Nat):Int)<64)=false:=by decide
     have HR2:=Lib.hid (setRow_heap V w.heap.size (nums .u32 R) (nums .u32 L) 124 (0,0) hR)
     have HB2:=Lib.hid (below_setRow hbk (Nat.le_refl _) (nums .u32 L))
     go_wp2_with (first
      | (refine wpList_load_row rfl 124 _ rfl (w.heap.size+1) rfl 124 (nums .u32 L) (0,0) _ hrow Tryz.underlying124 rfl hi ?_)
      | (refine wpList_store_row rfl 124 _ _ rfl w.heap.size (nums .u32 L) rfl rfl 124 (nums .u32 R) hR hi hsz hone ?_))
     rw [←HE.out]
     exact bodyPost_ret (v:=.agg (nums .u32 L)) (results_cell_row rfl _ _ w.heap.size 124 (nums .u32 L) (0,0) _ rfl HR2.out Tryz.underlying124 rfl hi) rfl ⟨rfl,HB2.out⟩
end Go.Proofs.YtcibjcgipfpniaaGreatDoor
