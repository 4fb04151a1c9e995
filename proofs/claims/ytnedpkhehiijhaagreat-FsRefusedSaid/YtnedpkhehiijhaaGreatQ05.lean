/- Words and laws for the statement, part 5. -/
import Derived.Lib.Strings
import Derived.WalkKit
import Derived.Deep.RegionLaw
import Derived.Deep.DrawnRows
import Derived.Deep.RegionHeld3
import Derived.Maps.Own
import Derived.Maps.Views
import Derived.Maps.OwnOps
import Derived.Maps.OwnSet
import Derived.Laws.MakeOwn
import Derived.Deep.MidRow
import Derived.RangeFuncNested
import Derived.RangeFuncBound
import Derived.RangeFuncCalls
import Derived.RangeFuncLeaves
import Derived.RangeFuncKeeps
import Derived.RangeFuncFrom
import Derived.Shelf.Abstract
import Derived.Shelf.RegionOpen
import Derived.OwnWalkIn
import Derived.TacticsInMore
import Derived.LoopNIn
import Derived.LoopIn
import Derived.Test.YtnedpkhehiijhaaGreatQ01
import Derived.Test.YtnedpkhehiijhaaGreatQ02
import Derived.Test.YtnedpkhehiijhaaGreatQ04
namespace Go.Proofs.YtnedpkhehiijhaaGreat
open Go.RowKit
set_option linter.unusedVariables false

/-- It is such a node. -/
structure NodeOk (s:ByteArray) (z:Int) (l:List Int):Prop where
 name:NameOk s
 z0:0≤z
 z600:z≤600
 len:(l.length:Int)=needI z
 rng:∀ i,i<l.length→0≤l.getD i 0∧l.getD i 0≤65535
 dist:∀ i j,j<i→i<l.length→l.getD j 0≠l.getD i 0

theorem quiet_first {P:Program} {f:FuncId} {args:Array Value} {w:World} {n:Nat} {v:Value} (h:∀ W:World,Calls P f args W fun e w'=>e = .returned v∧W=w'):Calls P f args (w.drewN n) fun e w'=>e = .returned v∧∃ m,w'=w.drewN m :=
 (h _).mono fun _ _ hh=>⟨hh.1,n,hh.2.symm⟩
theorem below_drewNNode2 {B:Nat} {a w:World} (h:Below B a w) (n:Nat):Below B a (w.drewN n):=⟨h.os,h.tape,h.output,h.size,h.block⟩
theorem not_true {v:Bool} (h:v=true→False):v=false:=by cases v;rfl;exact (h rfl).elim
theorem needI_le {z:Int} (h:z≤600):needI z≤10:=by unfold needI;split <;> omega
theorem needI_ge (z:Int):0≤needI z:=by unfold needI;split <;> omega

set_option maxRecDepth 100000 in
set_option maxHeartbeats 4000000 in
theorem is_any (w:World) (s:ByteArray) (hs:s.size≤9223372036854775807) (z:Int) (hz:z≤9223372036854775807) (B:Nat) (A:Option Addr) (c n:Nat) (l:List Int) (hn:l.length=n) (hr:RdI .i64 w B A c l) (hB:B≤w.heap.size) (v:Bool) (hv:v=true↔NodeOk s z l) :
  Calls Tryz.prog 72 #[.agg #[.string s,.int .i64 z,.slice A n c]] w fun e w'=>e = .returned (.bool v)∧Below w.heap.size w w':=by
 have HV:=Lib.hid hv
 have HN:=Lib.hid hn
 have hrb:=hr.alloc hB (.cells #[.string s,.int .i64 z,.slice A n c] 70)
 have hbel:Below w.heap.size w (w.alloc (.cells #[.string s,.int .i64 z,.slice A n c] 70)):=(Below.refl _ _).alloc (Nat.le_refl _) _
 have hc63:=hr.2.1
 have hlc:n≤c:=by have:=hr.1;omega
 clear hv hn hr
 by_cases hname:NameOk s
 case neg =>
  have HF:=Lib.hid (not_true (fun e=>hname (HV.out.1 e).name))
  have hcall:∀ W,Calls Tryz.prog 110 #[.string s] W fun e w'=>e = .returned (.bool false)∧W=w':=fun W=>named_any W s hs false ⟨(fun e=>by cases e),fun h=>absurd h hname⟩
  have HC:=Lib.hid hcall
  clear hcall hname
  go_enter Tryz.func72,Tryz.ntmps72
  go_wp2_with fail
  go_big_quiet ((go_at_call 110;exact quiet_first (fun W=>HC.out W)))
  go_wp2_with fail
  go_ret
  exact ⟨by rw [HF.out];rfl,below_drewNNode2 hbel _⟩
 case pos =>
 have hcall:∀ W,Calls Tryz.prog 110 #[.string s] W fun e w'=>e = .returned (.bool true)∧W=w':=fun W=>named_any W s hs true ⟨fun _=>hname,fun _=>rfl⟩
 have HC:=Lib.hid hcall
 have HNM:=Lib.hid hname
 clear hcall hname
 by_cases h0:0≤z
 case neg =>
  have HF:=Lib.hid (not_true (fun e=>h0 (HV.out.1 e).z0))
  have q1:decide (z<0)=true:=decide_eq_true (by omega)
  clear h0
  go_enter Tryz.func72,Tryz.ntmps72
  go_wp2_with fail
  go_big_quiet ((go_at_call 110;exact quiet_first (fun W=>HC.out W)))
  go_wp2_with fail
  go_ret
  exact ⟨by rw [HF.out];rfl,below_drewNNode2 hbel _⟩
 case pos =>
 have q1:decide (z<0)=false:=decide_eq_false (by omega)
 by_cases h6:z≤600
 case neg =>
  have HF:=Lib.hid (not_true (fun e=>h6 (HV.out.1 e).z600))
  have q2:decide (600<z)=true:=decide_eq_true (by omega)
  clear h6
  go_enter Tryz.func72,Tryz.ntmps72
  go_wp2_with fail
  go_big_quiet ((go_at_call 110;exact quiet_first (fun W=>HC.out W)))
  go_wp2_with fail
  go_ret
  exact ⟨by rw [HF.out];rfl,below_drewNNode2 hbel _⟩
 case pos =>
 have q2:decide (600<z)=false:=decide_eq_false (by omega)
 obtain ⟨nd,Hnd⟩:∃ nd:Int,Hid (needI z=nd):=⟨_,rfl⟩
 have hnd10:nd≤10:=by rw [←Hnd.out];exact needI_le h6
 have hcn:∀ W,Calls Tryz.prog 70 #[.int .i64 z] W fun e w'=>e = .returned (.int .i64 nd)∧W=w':=fun W=>need_any W z (by omega) nd Hnd.out
 have HCN:=Lib.hid hcn
 clear hcn
 by_cases hlen:(n:Int)=nd
 case neg =>
  have HF:=Lib.hid (not_true (fun e=>hlen (by have:=(HV.out.1 e).len;have:=HN.out;have:=Hnd.out;omega)))
  have q3:((n:Int) != nd)=true:=by rw [bne_iff_ne];exact hlen
  clear hlen
  go_enter Tryz.func72,Tryz.ntmps72
  go_wp2_with fail
  go_big_quiet ((first | (go_at_call 110;exact quiet_first (fun W=>HC.out W)) | (go_at_call 70;exact quiet_first (fun W=>HCN.out W))))
  go_wp2_with fail
  go_ret
  exact ⟨by rw [HF.out];rfl,below_drewNNode2 hbel _⟩
 case pos =>
 have q3:((n:Int) != nd)=false:=by rw [bne_eq_false_iff_eq];exact hlen
 have HLEN:=Lib.hid hlen
 have hn10:n≤10:=by omega
 clear hlen
 go_enter Tryz.func72,Tryz.ntmps72
 go_wp2_with fail
 go_big_quiet ((first | (go_at_call 110;exact quiet_first (fun W=>HC.out W)) | (go_at_call 70;exact quiet_first (fun W=>HCN.out W))))
 go_wp2_with fail
 have hboxW:=(Holds.fresh w 70 #[.string s,.int .i64 z,.slice A n c]).drewN nq
 have hrW:RdI .i64 ((w.alloc (.cells #[.string s,.int .i64 z,.slice A n c] 70)).drewN nq) B A c l:=hrb
 have hbelW:=below_drewNNode2 hbel nq
 generalize (w.alloc (.cells #[.string s,.int .i64 z,.slice A n c] 70)).drewN nq=W at *
 clear hrb hbel q1 q2 q3
 have hcb:W.cell? ⟨w.heap.size,2,none⟩=some (.slice A n c):=hboxW.cell 2
 clear hboxW
 go_loop [33] (fun i=>∃ k:Nat,k≤n∧i = .int .i64 k∧Hid ((∀ i,i<k→0≤l.getD i 0∧l.getD i 0≤65535)∧(∀ i j,j<i→i<k→l.getD j 0≠l.getD i 0))) (fun i=>n - (intOf i).toNat)
 case atStart=>exact ⟨0,Nat.zero_le _,rfl,Lib.hid ⟨fun i h=>by omega,fun i j _ h=>by omega⟩⟩
 case round =>
  obtain ⟨k,hk,rfl,HD⟩:=hrel
  by_cases hkn:k<n
  case neg =>
   obtain rfl:k=n:=by omega
   have hf:decide ((k:Int)<(k:Int))=false:=decide_eq_false (by omega)
   have hf2:decide (k<k)=false:=decide_eq_false (by omega)
   have HT:=Lib.hid (HV.out.2 ⟨HNM.out,h0,h6,by have:=HN.out;have:=HLEN.out;have:=Hnd.out;omega,fun i h=>HD.out.1 i (by have:=HN.out;omega),fun i j h h'=>HD.out.2 i j h (by have:=HN.out;omega)⟩)
   go_wp2_with fail
   go_ret
   exact ⟨by rw [HT.out];rfl,hbelW⟩
  case pos =>
  obtain ⟨b,off,x,rfl,hb,hx,Hx⟩:=hrW.at_ (i:=k) (by have:=HN.out;omega)
  have hk0:(0:Int)≤(k:Int):=by omega
  have hkI:(k:Int)<(n:Int):=by omega
  have hkc:(k:Int)≤(c:Int):=by omega
  by_cases hx0:0≤x
  case neg =>
   have HF:=Lib.hid (not_true (fun e=>hx0 (by rw [Hx.out];exact ((HV.out.1 e).rng k (by have:=HN.out;omega)).1)))
   have b1:decide (x<0)=true:=decide_eq_true (by omega)
   go_wp2_with fail
   go_ret
   exact ⟨by rw [HF.out];rfl,hbelW⟩
  case pos =>
  by_cases hx1:x≤65535
  case neg =>
   have HF:=Lib.hid (not_true (fun e=>hx1 (by rw [Hx.out];exact ((HV.out.1 e).rng k (by have:=HN.out;omega)).2)))
   have b1:decide (x<0)=false:=decide_eq_false (by omega)
   have b2:decide (65535<x)=true:=decide_eq_true (by omega)
   go_wp2_with fail
   go_ret
   exact ⟨by rw [HF.out];rfl,hbelW⟩
  case pos =>
  have b1:decide (x<0)=false:=decide_eq_false (by omega)
  have b2:decide (65535<x)=false:=decide_eq_false (by omega)
  go_wp2_with fail
  go_loop [49] (fun i=>∃ j:Nat,j≤k∧i = .int .i64 j∧Hid (∀ i,i<j→l.getD i 0≠x)) (fun i=>k - (intOf i).toNat)
  case atStart=>exact ⟨0,Nat.zero_le _,rfl,Lib.hid (fun i h=>by omega)⟩
  case round =>
   obtain ⟨j,hj,rfl,HJ⟩:=hrel
   by_cases hjk:j<k
   case neg =>
    obtain rfl:j=k:=by omega
    have hf:decide ((j:Int)<(j:Int))=false:=decide_eq_false (by omega)
    have hf2:decide (j<j)=false:=decide_eq_false (by omega)
    have HD2:Hid ((∀ i,i<j+1→0≤l.getD i 0∧l.getD i 0≤65535)∧(∀ i i',i' < i→i<j+1→l.getD i' 0≠l.getD i 0)):=Lib.hid ⟨fun i h=>by
     rcases Nat.lt_or_ge i j with h' | h'
     ·exact HD.out.1 i h'
     ·obtain rfl:i=j:=by omega
      rw [←Hx.out];exact ⟨hx0,hx1⟩,fun i i' h h'=>by
     rcases Nat.lt_or_ge i j with h'' | h''
     ·exact HD.out.2 i i' h h''
     ·obtain rfl:i=j:=by omega
      rw [←Hx.out];exact HJ.out i' h⟩
    go_wp2_with fail
    go_round
    case rel=>exact ⟨j+1,by omega,by go_num,HD2⟩
    case measure=>simp [intOf];omega
   case pos =>
   obtain ⟨_,_,y,e0,_,hy,Hy⟩:=hrW.at_ (i:=j) (by have:=HN.out;omega)
   obtain ⟨rfl,rfl⟩:b=_∧off=_:=by injection e0 with e0;injection e0 with e1 e2;exact ⟨e1,e2⟩
   clear e0
   have hj0:(0:Int)≤(j:Int):=by omega
   have hjI:(j:Int)<(k:Int):=by omega
   by_cases hxy:x=y
   ·have HF:=Lib.hid (not_true (fun e=>(HV.out.1 e).dist k j hjk (by have:=HN.out;omega) (by rw [←Hx.out,←Hy.out,hxy])))
    subst hxy
    go_wp2_with fail
    go_ret
    exact ⟨by rw [HF.out];rfl,hbelW⟩
   ·have HJ2:Hid (∀ i,i<j+1→l.getD i 0≠x):=Lib.hid (fun i h=>by
     rcases Nat.lt_or_ge i j with h' | h'
     ·exact HJ.out i h'
     ·obtain rfl:i=j:=by omega
      rw [←Hy.out];exact Ne.symm hxy)
    have b3:(x == y)=false:=by rw [beq_eq_false_iff_ne];exact hxy
    clear hxy
    go_wp2_with fail
    go_round
    case rel=>exact ⟨j+1,by omega,by go_num,HJ2⟩
    case measure=>simp [intOf];omega
end Go.Proofs.YtnedpkhehiijhaaGreat
namespace Go.Proofs.YtnedpkhehiijhaaGreat
open Go.RowKit
set_option linter.unusedVariables false

end Go.Proofs.YtnedpkhehiijhaaGreat
namespace Go.Proofs.YtnedpkhehiijhaaGreat
open Go.RowKit
set_option linter.unusedVariables false
set_option linter.unusedSimpArgs false

/-- A node of a row. -/
structure Nd where
 name:ByteArray
 size:Int
 pa:Option Addr
 pc:Nat
 pl:List Int
instance:Inhabited Nd:=⟨⟨ByteArray.empty,0,none,0,[]⟩⟩
/-- The slice '.slice A l.length c' reads as these nodes. -/
def RdN (w:World) (B:Nat) (A:Option Addr) (c:Nat) (l:List Nd):Prop :=
 l.length≤c∧c≤9223372036854775807∧(∀ j,j<l.length→RdI .i64 w B (l.getD j default).pa (l.getD j default).pc (l.getD j default).pl) ∧
  (0<l.length→∃ b off,A=some ⟨b,off,none⟩∧b<B∧∀ j,j<l.length→w.cell? ⟨b,off+j*3,none⟩=some (.string (l.getD j default).name)∧w.cell? ⟨b,off+j*3+1,none⟩=some (.int .i64 (l.getD j default).size) ∧
   w.cell? ⟨b,off+j*3+2,none⟩=some (.slice (l.getD j default).pa (l.getD j default).pl.length (l.getD j default).pc))
theorem RdN.under {w w':World} {B:Nat} {A:Option Addr} {c:Nat} {l:List Nd} (h:RdN w B A c l) (hb:Below B w w'):RdN w' B A c l :=
 ⟨h.1,h.2.1,fun j hj=>(h.2.2.1 j hj).under hb,fun hn=>by
  obtain ⟨b,off,e,hlt,hc⟩:=h.2.2.2 hn
  exact ⟨b,off,e,hlt,fun j hj=>⟨(hb.cell (p:=⟨b,_,none⟩) hlt).trans (hc j hj).1,(hb.cell (p:=⟨b,_,none⟩) hlt).trans (hc j hj).2.1,(hb.cell (p:=⟨b,_,none⟩) hlt).trans (hc j hj).2.2⟩⟩⟩
/-- Some node of the first k has the place. -/
def hasL (l:List Nd) (x:Int) (k:Nat):Prop:=∃ j i,j<k∧j<l.length∧i<(l.getD j default).pl.length∧(l.getD j default).pl.getD i 0=x

end Go.Proofs.YtnedpkhehiijhaaGreat
namespace Go.Proofs.YtnedpkhehiijhaaGreat
open Go.RowKit
set_option linter.unusedVariables false
set_option linter.unusedSimpArgs false

/-- Of the first k places for contents those that are free. -/
def freeN (hb:Nat→Bool) (k:Nat):List Nat:=((List.range k).map fun i=>40+i).filter fun x=>!hb x
theorem freeN_succ (hb:Nat→Bool) (k:Nat):freeN hb (k+1)=if hb (40+k)=true then freeN hb k else freeN hb k ++ [40+k]:=by
 unfold freeN
 rw [List.range_succ,List.map_append,List.filter_append]
 cases h:hb (40+k) <;> simp [h]
theorem freeN_length (hb:Nat→Bool) (k:Nat):(freeN hb k).length≤k:=by
 unfold freeN
 refine Nat.le_trans (List.length_filter_le _ _) ?_
 simp

def RelFRoom2 (hb:Nat→Bool) (w:World) (m:Nat) (v i:Value) (wr:World):Prop :=
 ∃ (k:Nat) (A':Option Addr) (c' n':Nat),k≤m∧i = .int .i64 (40+(k:Int))∧v = .slice A' n' c'∧(freeN hb k).length=n'∧Own .i64 3 wr w.heap.size A' c' (freeN hb k)∧Below w.heap.size w wr
theorem info_int:(Tryz.prog.info? 3).map (fun i=>(i.zero,i.size,i.bytes))=some (some (.int .i64 0),1,8):=by kernel_rfl
end Go.Proofs.YtnedpkhehiijhaaGreat
namespace Go.Proofs.YtnedpkhehiijhaaGreat
open Go.RowKit
set_option linter.unusedVariables false
set_option linter.unusedSimpArgs false

/-- The first k nodes are such. -/
structure RoomUp (l:List Nd) (many:Int) (k:Nat):Prop where
 node:∀ j,j<k→NodeOk (l.getD j default).name (l.getD j default).size (l.getD j default).pl
 rng:∀ j i,j<k→i<(l.getD j default).pl.length→40≤(l.getD j default).pl.getD i 0∧(l.getD j default).pl.getD i 0<many∧¬ hasL l ((l.getD j default).pl.getD i 0) j
 names:∀ j i,i<j→j<k→(l.getD i default).name≠(l.getD j default).name
structure RoomOk (l:List Nd) (many:Int):Prop where
 len:l.length≤40
 m0:0≤many
 m1:many≤2000
 all:RoomUp l many l.length
theorem RoomUp.less {l:List Nd} {many:Int} {k k':Nat} (h:RoomUp l many k) (hk:k'≤k):RoomUp l many k' :=
 ⟨fun j hj=>h.node j (by omega),fun j i hj=>h.rng j i (by omega),fun j i hi hj=>h.names j i hi (by omega)⟩
theorem RdN.cut {w:World} {B:Nat} {A:Option Addr} {c:Nat} {l:List Nd} (h:RdN w B A c l) (k:Nat) (hk:k≤l.length):RdN w B A c (l.take k):=by
 have e:∀ j,j<k→(l.take k).getD j default=l.getD j default:=fun j hj=>by simp [List.getD,hj]
 have hl:(l.take k).length=k:=by simp [hk]
 refine ⟨by rw [hl];have:=h.1;omega,h.2.1,fun j hj=>?_,fun hn=>?_⟩
 ·rw [hl] at hj
  rw [e j hj]
  exact h.2.2.1 j (by omega)
 ·rw [hl] at hn
  obtain ⟨b,off,e2,hb,hc⟩:=h.2.2.2 (by omega)
  refine ⟨b,off,e2,hb,fun j hj=>?_⟩
  rw [hl] at hj
  rw [e j hj]
  exact hc j (by omega)
def RelIs (l:List Nd) (many:Int) (w:World) (n:Nat) (i:Value) (wr:World):Prop :=
 ∃ k:Nat,k≤n∧i = .int .i64 k∧RoomUp l many k∧Below w.heap.size w wr
def RelIs2 (l:List Nd) (many:Int) (w:World) (k m:Nat) (i:Value) (wr:World):Prop :=
 ∃ j:Nat,j≤m∧i = .int .i64 j∧(∀ i,i<j→40≤(l.getD k default).pl.getD i 0∧(l.getD k default).pl.getD i 0<many∧¬ hasL l ((l.getD k default).pl.getD i 0) k)∧Below w.heap.size w wr
end Go.Proofs.YtnedpkhehiijhaaGreat
namespace Go.Proofs.YtnedpkhehiijhaaGreat
open Go.RowKit
set_option linter.unusedVariables false
set_option linter.unusedSimpArgs false

/-- What Take gives. -/
def takeN (hb:Nat→Bool) (m:Nat) (want:Int):List Nat×Bool:=if 0≤want∧want≤((freeN hb m).length:Int) then ((freeN hb m).take want.toNat,true) else ([],false)
end Go.Proofs.YtnedpkhehiijhaaGreat
namespace Go.Proofs.YtnedpkhehiijhaaGreat
open Go.RowKit
set_option linter.unusedVariables false
set_option linter.unusedSimpArgs false

section
variable {e:TypeId} {sz:Nat} {w w':World} {A:Option Addr} {c n:Nat} {vs:List Value}
end

end Go.Proofs.YtnedpkhehiijhaaGreat
namespace Go.Proofs.YtnedpkhehiijhaaGreat
open Go.RowKit
set_option linter.unusedVariables false
set_option linter.unusedSimpArgs false
attribute [local go_sem ↓] Go.wp_at_zero Go.wp_at_succ

def ncell (d:Nd):List Value:=[.string d.name,.int .i64 d.size,.slice d.pa d.pl.length d.pc]
theorem RdN.of_own {w:World} {A:Option Addr} {c n:Nat} {l:List Nd} (hl:l.length=n) (h:OwnV 81 3 w A c n (l.flatMap ncell)) (hr:∀ j,j<n→RdI .i64 w w.heap.size (l.getD j default).pa (l.getD j default).pc (l.getD j default).pl):RdN w w.heap.size A c l:=by
 subst hl
 refine ⟨h.le.1,h.le.2,hr,fun hn=>?_⟩
 have at3:∀ j,j<l.length→∀ t,t<3→∀ v,(ncell (l.getD j default))[t]?=some v→∃ g,A=some ⟨g,0,none⟩∧g<w.heap.size∧w.cell? ⟨g,3*j+t,none⟩=some v:=fun j hj t ht v hv=>by
  have e:l[j]?=some (l.getD j default):=by simp [List.getD,hj]
  have f:=flat_at (f:=ncell) (m:=3) (L:=l) (fun _ _=>rfl) e (j:=t) ht
  obtain ⟨g,hA,hlt,hc,_⟩:=h.at_ (j:=3*j+t) (v:=v) (by rw [f];exact hv)
  exact ⟨g,hA,hlt,hc⟩
 obtain ⟨g,rfl,hlt,_⟩:=at3 0 hn 0 (by omega) _ rfl
 refine ⟨g,0,rfl,hlt,fun j hj=>?_⟩
 have k:∀ t,t<3→∀ v,(ncell (l.getD j default))[t]?=some v→w.cell? ⟨g,3*j+t,none⟩=some v:=fun t ht v hv=>by
  obtain ⟨g',e,_,hc⟩:=at3 j hj t ht v hv
  injection e with e
  obtain rfl:g=g':=by injection e
  exact hc
 exact ⟨by rw [show 0+j*3=3*j+0 by omega];exact k 0 (by omega) _ rfl,by rw [show 0+j*3+1=3*j+1 by omega];exact k 1 (by omega) _ rfl,by rw [show 0+j*3+2=3*j+2 by omega];exact k 2 (by omega) _ rfl⟩

def RelOf (l:List Nd) (w:World) (n:Nat) (v i:Value) (wr:World):Prop :=
 ∃ (k:Nat) (A':Option Addr) (c':Nat),k≤n∧i = .int .i64 k∧v = .slice A' k c'∧OwnV 81 3 wr A' c' k ((l.take k).flatMap ncell)∧(∀ g,blockOf A'=some g→w.heap.size≤g)∧Below w.heap.size w wr
end Go.Proofs.YtnedpkhehiijhaaGreat
namespace Go.Proofs.YtnedpkhehiijhaaGreat
open Go.RowKit
set_option linter.unusedVariables false
set_option linter.unusedSimpArgs false
end Go.Proofs.YtnedpkhehiijhaaGreat
namespace Go.Proofs.YtnedpkhehiijhaaGreat
open Go.RowKit Go.WideMaps Go.Maps
set_option linter.unusedVariables false

theorem law:Keyed Tryz.prog 9:=string_keyed Tryz.underlying9
theorem zeroI (w:World):(zeroValue 3).run Tryz.prog w = .ok (.int .i64 0) w:=by kernel_rfl
/-- Block b is a map that has 1 at each of these. -/
def MapTo (w:World) (b k:Nat) (ls:List (List UInt8)):Prop :=
 ∃ D:DataW Unit,w.ownsMap Tryz.prog 9 (plainElem Tryz.prog 3) b k D∧∀ s:List UInt8,D.atKey (.string s) (.lit (.int .i64 0)) = .lit (.int .i64 (if s∈ls then 1 else 0))
theorem mapTo_made (w:World):MapTo (w.alloc (.map #[] 0)) w.heap.size 0 []:=⟨.map [],World.ownsMap_made _ _ _ _,fun s=>rfl⟩
theorem mapTo_lt {w:World} {b k:Nat} {ls:List (List UInt8)} (h:MapTo w b k ls):b<w.heap.size:=by obtain ⟨D,h,_⟩:=h;exact h.lt
theorem mapTo_keep {w w':World} {b k:Nat} {ls:List (List UInt8)} (h:MapTo w b k ls) (hb:w'.heap[b]?=w.heap[b]?):MapTo w' b k ls:=by
 obtain ⟨D,⟨es,clock,hw,r⟩,hat⟩:=h
 exact ⟨D,⟨es,clock,hb.trans hw,r⟩,hat⟩
set_option maxRecDepth 100000 in
theorem mapTo_look {w:World} {b k:Nat} {ls:List (List UInt8)} (h:MapTo w b k ls) (s:ByteArray) (hs:s.size≤9223372036854775807) :
  (Instr.lookup 136 (.map (some b)) (.string s) false).run Tryz.prog w = .ok (.int .i64 (if s.data.toList∈ls then 1 else 0)) w:=by
 obtain ⟨D,hown,hat⟩:=h
 obtain ⟨c,hrun,hat',_⟩:=hown.lookup_int law Tryz.underlying136 Tryz.underlying3 (zeroI _) (keyOf_string_mk Tryz.underlying9 (s:=s) (by unfold maxLen;omega))
 rw [hat] at hat'
 injection hat' with e
 injection e with _ e
 rw [hrun,e]
theorem mapTo_put {w:World} {b k:Nat} {ls:List (List UInt8)} {D:DataW Unit} {s:List UInt8} (hm:IsMap D) (hat:∀ s:List UInt8,D.atKey (.string s) (.lit (.int .i64 0)) = .lit (.int .i64 (if s∈ls then 1 else 0)))
  (hown:w.ownsMap Tryz.prog 9 (plainElem Tryz.prog 3) b k (D.put (.string s) (.lit (.int .i64 1)))):MapTo w b k (ls ++ [s]):=by
 refine ⟨_,hown,fun t=>?_⟩
 by_cases e:t=s
 ·subst e
  rw [atKey_put_same hm (k:=.string t) trivial]
  simp
 ·rw [atKey_put_other (by intro h;injection h with h;exact e h),hat]
  simp [e]

/-- The names of the first k. -/
def namesOf (l:List Nd) (k:Nat):List (List UInt8):=(l.take k).map fun d=>d.name.data.toList
theorem namesOf_succ {l:List Nd} {k:Nat} (h:k<l.length):namesOf l (k+1)=namesOf l k ++ [(l.getD k default).name.data.toList]:=by
 unfold namesOf
 rw [List.take_add_one,List.map_append]
 simp [List.getD,h]
theorem mem_namesOf {l:List Nd} {k:Nat} (hk:k≤l.length) {s:ByteArray}:s.data.toList∈namesOf l k↔∃ j,j<k∧(l.getD j default).name=s:=by
 unfold namesOf
 constructor
 ·intro h
  obtain ⟨d,hd,e⟩:=List.mem_map.1 h
  obtain ⟨j,hj,e2⟩:=List.getElem_of_mem hd
  have hjk:j<k:=by simp at hj;omega
  refine ⟨j,hjk,?_⟩
  have:(l.getD j default)=d:=by rw [←e2];simp [List.getD,show j<l.length by omega]
  rw [this]
  exact ByteArray.ext (Array.ext' e)
 ·rintro ⟨j,hj,rfl⟩
  refine List.mem_map.2 ⟨l.getD j default,?_,rfl⟩
  rw [List.mem_iff_getElem]
  exact ⟨j,by simp;omega,by simp [List.getD,show j<l.length by omega]⟩
end Go.Proofs.YtnedpkhehiijhaaGreat
namespace Go.Proofs.YtnedpkhehiijhaaGreat
open Go.RowKit Go.WideMaps Go.Maps
set_option linter.unusedVariables false
set_option linter.unusedSimpArgs false

/-- What the outer loop holds to. -/
def RelP (l:List Nd) (many:Int) (m:Nat) (w:World) (n:Nat) (i:Value) (wr:World):Prop :=
 ∃ (k:Nat) (f:Nat→Bool),k≤n∧i = .int .i64 k∧Hid (RoomUp l many k)∧Hid (MapTo wr w.heap.size k (namesOf l k))∧Hid (Holds wr (w.heap.size+1) 4 (bits m f))∧Hid (∀ x:Nat,f x=true↔hasL l (x:Int) k)∧Hid (Below w.heap.size w wr)
/-- What the inner loop holds to. -/
def RelQ (l:List Nd) (many:Int) (m:Nat) (w:World) (k p:Nat) (pl:List Int) (ls:List (List UInt8)) (i:Value) (wr:World):Prop :=
 ∃ (j:Nat) (f:Nat→Bool),j≤p∧i = .int .i64 j∧Hid (∀ i,i<j→40≤pl.getD i 0∧pl.getD i 0<many∧¬ hasL l (pl.getD i 0) k)∧Hid (MapTo wr w.heap.size (k+1) ls)∧Hid (Holds wr (w.heap.size+1) 4 (bits m f))∧Hid (∀ x:Nat,f x=true↔hasL l (x:Int) k∨∃ i,i<j∧pl.getD i 0=(x:Int))∧Hid (Below w.heap.size w wr)
theorem hasL_next {l:List Nd} {k:Nat} (hk:k<l.length) {x:Int}:hasL l x (k+1)↔hasL l x k∨∃ i,i<(l.getD k default).pl.length∧(l.getD k default).pl.getD i 0=x:=by
 constructor
 ·rintro ⟨j,i,h1,h2,h3,h4⟩
  rcases Nat.lt_or_ge j k with h5 | h5
  ·exact .inl ⟨j,i,h5,h2,h3,h4⟩
  ·obtain rfl:j=k:=by omega
   exact .inr ⟨i,h3,h4⟩
 ·rintro (⟨j,i,h1,h2,h3,h4⟩ | ⟨i,h3,h4⟩)
  ·exact ⟨j,i,by omega,h2,h3,h4⟩
  ·exact ⟨k,i,by omega,hk,h3,h4⟩

set_option maxRecDepth 100000 in
set_option maxHeartbeats 4000000 in
theorem room_any (w:World) (A:Option Addr) (c n:Nat) (l:List Nd) (hn:l.length=n) (hr:RdN w w.heap.size A c l) (hs:∀ j,j<n→(l.getD j default).name.size≤9223372036854775807∧(l.getD j default).size≤9223372036854775807) (many:Int) (v:Bool) (hv:v=true↔RoomOk l many) :
  Calls Tryz.prog 37 #[.slice A n c,.int .i64 many] w fun e w'=>e = .returned (.bool v)∧Below w.heap.size w w':=by
 have HV:=Lib.hid hv
 have HN:=Lib.hid hn
 have HS:=Lib.hid hs
 have HR:Hid (∀ W,Below w.heap.size w W→RdN W w.heap.size A c l):=Lib.hid fun W hW=>hr.under hW
 have hlc:n≤c:=by have:=hr.1;omega
 have hc63:=hr.2.1
 clear hv hn hr hs
 by_cases h2:many<0
 case pos =>
  have d2:decide (many<0)=true:=decide_eq_true h2
  have HF:Hid (v=false):=Lib.hid (not_true fun e=>by have:=(HV.out.1 e).m0;omega)
  go_enter Tryz.func37,Tryz.ntmps37
  go_wp2_with fail
  go_ret
  exact ⟨by rw [HF.out];rfl,Below.refl _ _⟩
 have d2:decide (many<0)=false:=decide_eq_false h2
 by_cases h3:2000<many
 case pos =>
  have d3:decide (2000<many)=true:=decide_eq_true h3
  have HF:Hid (v=false):=Lib.hid (not_true fun e=>by have:=(HV.out.1 e).m1;omega)
  go_enter Tryz.func37,Tryz.ntmps37
  go_wp2_with fail
  go_ret
  exact ⟨by rw [HF.out];rfl,Below.refl _ _⟩
 have d3:decide (2000<many)=false:=decide_eq_false h3
 by_cases h1:40<n
 case pos =>
  have d1:decide ((40:Int)<(n:Int))=true:=decide_eq_true (by omega)
  have HF:Hid (v=false):=Lib.hid (not_true fun e=>by have:=(HV.out.1 e).len;have:=HN.out;omega)
  go_enter Tryz.func37,Tryz.ntmps37
  go_wp2_with fail
  go_ret
  exact ⟨by rw [HF.out];rfl,Below.refl _ _⟩
 have d1:decide ((40:Int)<(n:Int))=false:=decide_eq_false (by omega)
 obtain ⟨m,rfl⟩:∃ m:Nat,many=(m:Int):=⟨many.toNat,by omega⟩
 have hm2:m≤2000:=by omega
 have HO:Hid (RoomUp l (m:Int) n→v=true):=Lib.hid fun h=>HV.out.2 ⟨by rw [HN.out];omega,by omega,by omega,by rw [HN.out];exact h⟩
 have HUP:Hid (∀ k,k≤n→v=true→RoomUp l (m:Int) k):=Lib.hid fun k hk e=>(HV.out.1 e).all.less (by rw [HN.out];exact hk)
 have hmm:=@run_makeMap Tryz.prog
 have hmb:=make_bits m hm2
 have hmap:=Lib.hid (mapTo_keep (w':=(w.alloc (.map #[] 0)).alloc (.cells (bits m fun _=>false) 4)) (mapTo_made w) (Below.heap_alloc _ _ _ (by simp)))
 have hbit:Hid (Holds ((w.alloc (.map #[] 0)).alloc (.cells (bits m fun _=>false) 4)) (w.heap.size+1) 4 (bits m fun _=>false)):=Lib.hid (by
  have:=Holds.fresh (w.alloc (.map #[] 0)) 4 (bits m fun _=>false)
  rwa [World.size_alloc] at this)
 have hbel:Hid (Below w.heap.size w ((w.alloc (.map #[] 0)).alloc (.cells (bits m fun _=>false) 4))):=Lib.hid (((Below.refl _ _).alloc (Nat.le_refl _) _).alloc (by simp) _)
 go_enter Tryz.func37,Tryz.ntmps37
 go_wp2_with fail
 have e1:(w.alloc (.map #[] 0)).heap.size=w.heap.size+1:=World.size_alloc _ _
 try rw [e1]
 generalize (w.alloc (.map #[] 0)).alloc (.cells (bits m fun _=>false) 4)=W at *
 clear hmm hmb e1
 go_loopw [27] (fun i wr=>RelP l (m:Int) m w n i wr) (fun i _=>n - (intOf i).toNat)
 case atStart=>exact ⟨0,_,Nat.zero_le _,rfl,Lib.hid ⟨fun j hj=>by omega,fun j i hj=>by omega,fun j i hi hj=>by omega⟩,hmap,hbit,Lib.hid (fun x=>⟨(fun e=>by cases e),fun ⟨j,i,h,_⟩=>by omega⟩),hbel⟩
 case round =>
  clear hmap hbit hbel
  obtain ⟨k,f,hk,rfl,HU,HM,HB,HF,HQ⟩:=hrel
  obtain ⟨V,hV⟩:∃ V,V=wr:=⟨_,rfl⟩
  subst hV
  clear d1 d2 d3
  by_cases hkn:k<n
  case pos =>
   have hkI:(k:Int)<(n:Int):=by omega
   have hk0:(0:Int)≤(k:Int):=by omega
   have hkl:k<l.length:=by rw [HN.out];exact hkn
   obtain ⟨b,off,rfl,hb,hcs⟩:=(HR.out V HQ.out).2.2.2 (by omega)
   obtain ⟨q0,q1,q2⟩:=hcs k hkl
   obtain ⟨hs1,hs2⟩:=HS.out k hkn
   have HRI:Hid (∀ W,Below w.heap.size w W→RdI .i64 W w.heap.size (l.getD k default).pa (l.getD k default).pc (l.getD k default).pl):=Lib.hid fun W hW=>(HR.out W hW).2.2.1 k hkl
   have HHN:Hid (∀ x:Int,hasL l x (k+1)↔hasL l x k∨∃ i,i<(l.getD k default).pl.length∧(l.getD k default).pl.getD i 0=x):=Lib.hid fun x=>hasL_next hkl
   have HNS:Hid (namesOf l (k+1)=namesOf l k ++ [(l.getD k default).name.data.toList]):=Lib.hid (namesOf_succ hkl)
   have HMN:Hid ((l.getD k default).name.data.toList∈namesOf l k↔∃ j,j<k∧(l.getD j default).name=(l.getD k default).name):=Lib.hid (mem_namesOf (by omega))
   have HBAD:Hid (∀ j,j<(l.getD k default).pl.length→¬ (40≤(l.getD k default).pl.getD j 0∧(l.getD k default).pl.getD j 0<(m:Int)∧¬ hasL l ((l.getD k default).pl.getD j 0) k)→v=false):=Lib.hid fun j hj h=>not_true fun e=>h ((HUP.out (k+1) (by omega) e).rng k j (by omega) hj)
   have HNM:Hid ((l.getD k default).name.data.toList∈namesOf l k→v=false):=Lib.hid fun h=>not_true fun e=>by
    obtain ⟨j,hj,e2⟩:=HMN.out.1 h
    exact (HUP.out (k+1) (by omega) e).names k j hj (by omega) e2
   have HNX:Hid (NodeOk (l.getD k default).name (l.getD k default).size (l.getD k default).pl→(∀ i,i<(l.getD k default).pl.length→40≤(l.getD k default).pl.getD i 0∧(l.getD k default).pl.getD i 0<(m:Int)∧¬ hasL l ((l.getD k default).pl.getD i 0) k)→¬ (l.getD k default).name.data.toList∈namesOf l k→RoomUp l (m:Int) (k+1)):=Lib.hid fun h1 h2 h3 =>
    ⟨fun j hj=>by
     rcases Nat.lt_or_ge j k with h5 | h5
     ·exact HU.out.node j h5
     ·obtain rfl:j=k:=by omega
      exact h1,fun j i hj=>by
     rcases Nat.lt_or_ge j k with h5 | h5
     ·exact HU.out.rng j i h5
     ·obtain rfl:j=k:=by omega
      exact h2 i,fun j i hi hj=>by
     rcases Nat.lt_or_ge j k with h5 | h5
     ·exact HU.out.names j i hi h5
     ·obtain rfl:j=k:=by omega
      exact fun e=>h3 (HMN.out.2 ⟨i,hi,e⟩)⟩
   have HND:Hid (v=true→NodeOk (l.getD k default).name (l.getD k default).size (l.getD k default).pl):=Lib.hid fun e=>(HUP.out (k+1) (by omega) e).node k (by omega)
   clear hcs HMN
   generalize l.getD k default=d at *
   obtain ⟨dn,dz,pa,pc,pl⟩:=d
   simp only at q0 q1 q2 hs1 hs2 HRI HHN HNS HBAD HNM HNX HND
   obtain ⟨p,hp⟩:∃ p,pl.length=p:=⟨_,rfl⟩
   have HPL:=Lib.hid hp
   rw [hp] at q2 HBAD HNX HHN
   have hri:=HRI.out V HQ.out
   have hpc1:p≤pc:=by have:=hri.1;omega
   have hpc:=hri.2.1
   clear hri hp
   have hVA:Hid (Below w.heap.size w (V.alloc (.cells #[.string dn,.int .i64 dz,.slice pa p pc] 70))):=Lib.hid (HQ.out.alloc HQ.out.size _)
   have hMA:Hid (MapTo (V.alloc (.cells #[.string dn,.int .i64 dz,.slice pa p pc] 70)) w.heap.size k (namesOf l k)):=Lib.hid (mapTo_keep HM.out (Below.heap_alloc _ _ _ (mapTo_lt HM.out)))
   have hBA:Hid (Holds (V.alloc (.cells #[.string dn,.int .i64 dz,.slice pa p pc] 70)) (w.heap.size+1) 4 (bits m f)):=Lib.hid (HB.out.alloc _)
   have hNA:Hid (Holds (V.alloc (.cells #[.string dn,.int .i64 dz,.slice pa p pc] 70)) V.heap.size 70 #[.string dn,.int .i64 dz,.slice pa p pc]):=Lib.hid (Holds.fresh _ _ _)
   clear HM HB
   by_cases hok:NodeOk dn dz pl
   case neg =>
    have HFA:Hid (v=false):=Lib.hid (not_true fun e=>hok (HND.out e))
    have HC:Hid (∀ W,Below w.heap.size w W→Calls Tryz.prog 72 #[.agg #[.string dn,.int .i64 dz,.slice pa p pc]] W fun e w'=>e = .returned (.bool false)∧Below W.heap.size W w'):=Lib.hid fun W hW=>is_any W dn hs1 dz hs2 w.heap.size pa pc p pl HPL.out (HRI.out W hW) hW.size false ⟨(fun e=>by cases e),fun e=>absurd e hok⟩
    clear hok
    go_wp2_with fail
    refine (HC.out _ hVA.out).mono ?_
    rintro e w2 ⟨rfl,hb2⟩
    have HQ2:=Lib.hid (hVA.out.trans (hb2.mono hVA.out.size))
    clear hb2 HC hMA hBA hNA
    go_wp2_with fail
    go_ret
    exact ⟨by rw [HFA.out];rfl,HQ2.out⟩
   case pos =>
   have HC:Hid (∀ W,Below w.heap.size w W→Calls Tryz.prog 72 #[.agg #[.string dn,.int .i64 dz,.slice pa p pc]] W fun e w'=>e = .returned (.bool true)∧Below W.heap.size W w'):=Lib.hid fun W hW=>is_any W dn hs1 dz hs2 w.heap.size pa pc p pl HPL.out (HRI.out W hW) hW.size true ⟨fun _=>hok,fun _=>rfl⟩
   have HOK:=Lib.hid hok
   clear hok
   go_wp2_with fail
   refine (HC.out _ hVA.out).mono ?_
   rintro e w2 ⟨rfl,hb2⟩
   have HQ2:=Lib.hid (hVA.out.trans (hb2.mono hVA.out.size))
   have hlt1:V.heap.size<(V.alloc (.cells #[.string dn,.int .i64 dz,.slice pa p pc] 70)).heap.size:=by simp
   have hm2':MapTo w2 w.heap.size k (namesOf l k):=mapTo_keep hMA.out (hb2.block _ (mapTo_lt hMA.out))
   have HB2:Hid (Holds w2 (w.heap.size+1) 4 (bits m f)):=Lib.hid (hBA.out.under hb2 hBA.out.lt)
   have hn2:Holds w2 V.heap.size 70 #[.string dn,.int .i64 dz,.slice pa p pc]:=hNA.out.under hb2 hlt1
   have hVne:V.heap.size≠w.heap.size:=by
    have:=mapTo_lt hMA.out
    intro e
    have h1:=hn2
    obtain ⟨D,⟨es,clock,hw,_⟩,_⟩:=hm2'
    rw [e] at h1
    have h2:w2.heap[w.heap.size]?=_:=h1
    rw [hw] at h2
    cases h2
   have z0:w2.cell? ⟨V.heap.size,0,none⟩=some (.string dn):=hn2.cell 0
   have HN2:=Lib.hid hn2
   have hlk:=mapTo_look hm2' dn hs1
   clear hb2 HC hMA hBA hNA hlt1 hn2 hVA q0 q1 q2
   by_cases hin:dn.data.toList∈namesOf l k
   case pos =>
    have HFA:Hid (v=false):=Lib.hid (HNM.out hin)
    rw [if_pos hin] at hlk
    clear hin hm2'
    go_wp2_with fail
    go_ret
    exact ⟨by rw [HFA.out];rfl,HQ2.out⟩
   case neg =>
    rw [if_neg hin] at hlk
    have HIN:=Lib.hid hin
    clear hin
    obtain ⟨D,hown,hat⟩:=hm2'
    have HAT:=Lib.hid hat
    have hkey:=keyOf_string_mk (P:=Tryz.prog) Tryz.underlying9 (s:=dn) (by unfold maxLen;omega)
    clear hat
    go_wp2_with (at_mapUpdate;refine wpList_mapUpdate_own _ rfl _ _ _ 136 rfl 9 3 law Tryz.underlying136 _ w.heap.size k _ rfl hown (by unfold maxLen;omega) _ _ _ rfl rfl hkey _ [] (plainElem_int Tryz.underlying3 (by decide)) ?_)
    intro w3 hown3 hgr3
    have HM3:Hid (MapTo w3 w.heap.size (k+1) (namesOf l (k+1))):=Lib.hid (by rw [HNS.out];exact mapTo_put (World.ownsMap.isMap hown) HAT.out hown3)
    have HQ3:=Lib.hid (HQ2.out.grown hgr3 HQ2.out.size (fun j hj=>by cases hj;exact Nat.le_refl _))
    have HB3:Hid (Holds w3 (w.heap.size+1) 4 (bits m f)):=Lib.hid (HB2.out.grown hgr3 (by intro e;injection e;omega))
    have hn3:Holds w3 V.heap.size 70 #[.string dn,.int .i64 dz,.slice pa p pc]:=HN2.out.grown hgr3 (by intro e;injection e with e;exact hVne e)
    have z2:w3.cell? ⟨V.heap.size,2,none⟩=some (.slice pa p pc):=hn3.cell 2
    clear hn3 hown hown3 hgr3 hlk HN2 HB2 z0 hkey hVne HAT
    go_wp2_with fail
    go_loopw [47] (fun i wr=>RelQ l (m:Int) m w k p pl (namesOf l (k+1)) i wr) (fun i _=>p - (intOf i).toNat)
    case atStart=>exact ⟨0,f,Nat.zero_le _,rfl,Lib.hid (fun i hi=>by omega),HM3,HB3,Lib.hid (fun x=>by rw [HF.out];exact ⟨.inl,fun h=>h.elim id fun ⟨i,hi,_⟩=>by omega⟩),HQ3⟩
    case round =>
     clear HM3 HB3 HQ3 z2
     obtain ⟨j,g,hj,rfl,HJ,HM,HB,HG,HW⟩:=hrel
     obtain ⟨W,hW⟩:∃ W,W=wr:=⟨_,rfl⟩
     subst hW
     by_cases hjp:j<p
     case pos =>
      have hjI:(j:Int)<(p:Int):=by omega
      have hj0:(0:Int)≤(j:Int):=by omega
      obtain ⟨b2,off2,y,rfl,hb2,hy,Hy⟩:=(HRI.out W HW.out).at_ (i:=j) (by rw [HPL.out];exact hjp)
      have HVAL:Hid (pl.getD j 0=y):=Lib.hid Hy.out.symm
      by_cases y1:y<40
      case pos =>
       have e1:decide (y<40)=true:=decide_eq_true y1
       have HFA:Hid (v=false):=Lib.hid (HBAD.out j hjp fun h=>by have:=h.1;rw [HVAL.out] at this;omega)
       go_wp2_with fail
       go_ret
       exact ⟨by rw [HFA.out];rfl,HW.out⟩
      have e1:decide (y<40)=false:=decide_eq_false y1
      by_cases y2:(m:Int)≤y
      case pos =>
       have e2:decide ((m:Int)≤y)=true:=decide_eq_true y2
       have HFA:Hid (v=false):=Lib.hid (HBAD.out j hjp fun h=>by have:=h.2.1;rw [HVAL.out] at this;omega)
       go_wp2_with fail
       go_ret
       exact ⟨by rw [HFA.out];rfl,HW.out⟩
      have e2:decide ((m:Int)≤y)=false:=decide_eq_false y2
      obtain ⟨x,rfl⟩:∃ x:Nat,y=(x:Int):=⟨y.toNat,by omega⟩
      have hx0:(0:Int)≤(x:Int):=by omega
      have hxm:x<m:=by omega
      have hxI:(x:Int)<(m:Int):=by omega
      have hbc:=(HB.out.cell x).trans (bits_at g hxm)
      have hbf:=HB.out.open_ x
      rcases hgx:g x with _ | _
      case true =>
       have HFA:Hid (v=false):=Lib.hid (by
        rcases (HG.out x).1 hgx with h | ⟨i,hi,he⟩
        ·exact HBAD.out j hjp fun h2=>h2.2.2 (by rw [HVAL.out];exact h)
        ·exact not_true fun e=>(HND.out e).dist j i hi (by rw [HPL.out];exact hjp) (by rw [he,HVAL.out]))
       rw [hgx] at hbc
       clear hgx
       go_wp2_with fail
       go_ret
       exact ⟨by rw [HFA.out];rfl,HW.out⟩
      case false =>
       have HNO:Hid (¬ hasL l (x:Int) k):=Lib.hid fun h=>by
        have:=(HG.out x).2 (.inl h)
        rw [hgx] at this
        cases this
       rw [hgx] at hbc
       clear hgx
       have HJ2:Hid (∀ i,i<j+1→40≤pl.getD i 0∧pl.getD i 0<(m:Int)∧¬ hasL l (pl.getD i 0) k):=Lib.hid fun i hi=>by
        rcases Nat.lt_or_ge i j with h5 | h5
        ·exact HJ.out i h5
        ·obtain rfl:i=j:=by omega
         rw [HVAL.out]
         exact ⟨by omega,by omega,HNO.out⟩
       have HB4:Hid (Holds (W.setCell ⟨w.heap.size+1,x,none⟩ (.bool true)) (w.heap.size+1) 4 (bits m fun z=>z == x || g z)):=Lib.hid (by rw [←bits_set g hxm];exact HB.out.stored x _)
       have HM4:Hid (MapTo (W.setCell ⟨w.heap.size+1,x,none⟩ (.bool true)) w.heap.size (k+1) (namesOf l (k+1))):=Lib.hid (mapTo_keep HM.out (Below.heap_setCell _ _ _ _ (by show w.heap.size≠w.heap.size+1;omega)))
       have HW4:Hid (Below w.heap.size w (W.setCell ⟨w.heap.size+1,x,none⟩ (.bool true))):=Lib.hid (HW.out.setCell (p:=⟨w.heap.size+1,x,none⟩) (by show w.heap.size≤w.heap.size+1;omega) _)
       have HG4:Hid (∀ z:Nat,(z == x || g z)=true↔hasL l (z:Int) k∨∃ i,i<j+1∧pl.getD i 0=(z:Int)):=Lib.hid fun z=>by
        rw [Bool.or_eq_true,HG.out z,beq_iff_eq]
        constructor
        ·rintro (rfl | h | ⟨i,hi,he⟩)
         ·exact .inr ⟨j,by omega,HVAL.out⟩
         ·exact .inl h
         ·exact .inr ⟨i,by omega,he⟩
        ·rintro (h | ⟨i,hi,he⟩)
         ·exact .inr (.inl h)
         ·rcases Nat.lt_or_ge i j with h5 | h5
          ·exact .inr (.inr ⟨i,h5,he⟩)
          ·obtain rfl:i=j:=by omega
           rw [HVAL.out] at he
           exact .inl (by omega)
       go_wp2_with fail
       go_roundw
       case rel=>exact ⟨j+1,_,by omega,by go_num,HJ2,HM4,HB4,HG4,HW4⟩
       case measure=>simp [intOf];omega
     case neg =>
      obtain rfl:j=p:=by omega
      have hjI:¬ ((j:Int)<(j:Int)):=by omega
      have HUN:=Lib.hid (HNX.out HOK.out HJ.out HIN.out)
      have HGN:Hid (∀ x:Nat,g x=true↔hasL l (x:Int) (k+1)):=Lib.hid fun x=>by rw [HG.out,HHN.out]
      go_wp2_with fail
      go_roundw
      case rel=>exact ⟨k+1,g,by omega,by go_num,HUN,HM,HB,HGN,HW⟩
      case measure=>simp [intOf];omega
  case neg =>
   obtain rfl:k=n:=by omega
   have hkI:¬ ((k:Int)<(k:Int)):=by omega
   have HT:Hid (v=true):=Lib.hid (HO.out HU.out)
   go_wp2_with fail
   go_ret
   exact ⟨by rw [HT.out];rfl,HQ.out⟩
end Go.Proofs.YtnedpkhehiijhaaGreat
namespace Go.Proofs.YtnedpkhehiijhaaGreat
open Go.RowKit
set_option linter.unusedVariables false
set_option linter.unusedSimpArgs false
attribute [local go_sem ↓] Go.wp_at_zero Go.wp_at_succ

def ncs (ns:List Nd):List Value:=ns.flatMap ncell
theorem ncs_len (ns:List Nd):(ncs ns).length=3*ns.length:=by
 unfold ncs
 induction ns with
 | nil=>rfl
 | cons d l ih=>rw [List.flatMap_cons,List.length_append,ih];simp [ncell];omega
theorem ncs_at {ns:List Nd} {i j:Nat} (hi:i<ns.length) (hj:j<3):(ncs ns)[3*i+j]?=(ncell (ns.getD i default))[j]? :=
 flat_at (f:=ncell) (m:=3) (L:=ns) (fun _ _=>rfl) (by simp [List.getD,hi]) hj
theorem ncs_one (ns:List Nd):∀ u∈ncs ns,u.oneCell'=true:=fun u hu=>by
 obtain ⟨d,_,hd⟩:=List.mem_flatMap.1 hu
 simp [ncell] at hd
 rcases hd with rfl | rfl | rfl <;> rfl
theorem ncs_part {ns:List Nd} {i:Nat} (hi:i<ns.length):(ncs ns).toArray.extract (i*3) (i*3+3)=(ncell (ns.getD i default)).toArray:=by
 have hl:=ncs_len ns
 have h0:=ncs_at (ns:=ns) hi (j:=0) (by omega)
 have h1:=ncs_at (ns:=ns) hi (j:=1) (by omega)
 have h2:=ncs_at (ns:=ns) hi (j:=2) (by omega)
 apply Array.ext
 ·simp [ncell];omega
 ·intro j hj1 hj2
  have hj:j<3:=by simpa [ncell] using hj2
  have e:(ncs ns)[3*i+j]?=(ncell (ns.getD i default))[j]?:=ncs_at hi hj
  have hb:3*i+j<(ncs ns).length:=by omega
  rw [List.getElem?_eq_getElem hb,List.getElem?_eq_getElem (by simpa [ncell] using hj)] at e
  injection e with e
  rw [Array.getElem_extract]
  simp only [List.getElem_toArray]
  rw [←e]
  congr 1
  omega
/-- A disk's files lie so. -/
structure FsAt (w:World) (gf gd:Nat) (ns:List Nd):Prop where
 n40:ns.length=40
 hd:Holds w gf 73 (.pointer (some ⟨gd,0,none⟩) :: ncs ns).toArray
 rd:∀ d∈ns,RdI .i64 w w.heap.size d.pa d.pc d.pl
theorem FsAt.under {w w':World} {gf gd:Nat} {ns:List Nd} (h:FsAt w gf gd ns) (hb:Below w.heap.size w w'):FsAt w' gf gd ns :=
 ⟨h.n40,Holds.under h.hd hb (Holds.lt h.hd),fun d hd=>((h.rd d hd).under hb).more hb.size⟩
theorem FsAt.range {w:World} {gf gd:Nat} {ns:List Nd} (h:FsAt w gf gd ns):w.rangeAt gf 1 (ncs ns):=fun j v hv=>by
 rw [h.hd.cell,List.getElem?_toArray,show 1+j=j+1 by omega,List.getElem?_cons_succ]
 exact hv
theorem size_nodes:(Tryz.prog.info? 71).map (·.size)=some 120:=by kernel_rfl
theorem size_node:(Tryz.prog.info? 70).map (·.size)=some 3:=by kernel_rfl
theorem index_node {w:World} {ns:List Nd} (h:ns.length=40) {i:Nat} (hi:i<40) (s:ByteArray) (z:Int) (pa:Option Addr) (pn pc:Nat) (hd:ncell (ns.getD i default)=[.string s,.int .i64 z,.slice pa pn pc]) :
  (Instr.index 71 (.agg (ncs ns).toArray) (.int .i64 (i:Int))).run Tryz.prog w = .ok (.agg #[.string s,.int .i64 z,.slice pa pn pc]) w:=by
 have hsz:(sizeOf 70).run Tryz.prog w = .ok 3 w:=by
  have h3:=size_node
  cases hq:Tryz.prog.info? 70 with
  | none=>rw [hq] at h3;cases h3
  | some i =>
   rw [hq] at h3
   have h4:i.size=3:=by simpa using h3
   simp [sizeOf,typeInfo,hq,h4]
 have hag:(isAgg 70).run Tryz.prog w = .ok true w:=by
  unfold isAgg
  rw [Sem.run_bind,run_underlying Tryz.underlying70 w]
  rfl
 have hp:=ncs_part (ns:=ns) (i:=i) (by omega)
 rw [hd] at hp
 have h0:(0:Int)≤(i:Int)∧(i:Int)<(40:Nat):=by omega
 have hpt:(Go.part 70 (ncs ns).toArray (i*3)).run Tryz.prog w = .ok (.agg #[.string s,.int .i64 z,.slice pa pn pc]) w:=by
  unfold Go.part
  rw [Sem.run_bind,hag]
  simp only [Result.andThen_ok,if_true]
  rw [Sem.run_bind,hsz]
  simp only [Result.andThen_ok,Sem.run_pure]
  rw [hp]
 unfold Instr.index
 simp only [asIntOf,Sem.run_bind,Sem.run_pure,Result.andThen_ok,run_underlying Tryz.underlying71 w]
 rw [if_pos h0]
 simp only [Sem.run_bind,hsz,Result.andThen_ok,Int.toNat_natCast]
 exact hpt
end Go.Proofs.YtnedpkhehiijhaaGreat
namespace Go.Proofs.YtnedpkhehiijhaaGreat
open Go.RowKit
set_option linter.unusedVariables false
set_option linter.unusedSimpArgs false
attribute [local go_sem ↓] Go.wp_at_zero Go.wp_at_succ

theorem info_nodeF:(Tryz.prog.info? 70).map (fun i=>(i.zero,i.size,i.bytes))=some (some (.agg #[.string ⟨#[]⟩,.int .i64 0,.slice none 0 0]),3,48):=by kernel_rfl
theorem rdN_own {e:TypeId} {w:World} {A:Option Addr} {c n:Nat} {l:List Nd} (hl:l.length=n) (h:OwnV e 3 w A c n (l.flatMap ncell)) (hr:∀ d∈l,RdI .i64 w w.heap.size d.pa d.pc d.pl):RdN w w.heap.size A c l:=by
 subst hl
 refine ⟨h.le.1,h.le.2,fun j hj=>hr _ (by rw [show l.getD j default=l[j] by simp [List.getD,hj]];exact List.getElem_mem hj),fun hn=>?_⟩
 have at3:∀ j,j<l.length→∀ t,t<3→∀ v,(ncell (l.getD j default))[t]?=some v→∃ g,A=some ⟨g,0,none⟩∧g<w.heap.size∧w.cell? ⟨g,3*j+t,none⟩=some v:=fun j hj t ht v hv=>by
  have e:l[j]?=some (l.getD j default):=by simp [List.getD,hj]
  have f:=flat_at (f:=ncell) (m:=3) (L:=l) (fun _ _=>rfl) e (j:=t) ht
  obtain ⟨g,hA,hlt,hc,_⟩:=h.at_ (j:=3*j+t) (v:=v) (by rw [f];exact hv)
  exact ⟨g,hA,hlt,hc⟩
 obtain ⟨g,rfl,hlt,_⟩:=at3 0 hn 0 (by omega) _ rfl
 refine ⟨g,0,rfl,hlt,fun j hj=>?_⟩
 have k:∀ t,t<3→∀ v,(ncell (l.getD j default))[t]?=some v→w.cell? ⟨g,3*j+t,none⟩=some v:=fun t ht v hv=>by
  obtain ⟨g',e,_,hc⟩:=at3 j hj t ht v hv
  injection e with e
  obtain rfl:g=g':=by injection e
  exact hc
 exact ⟨by rw [show 0+j*3=3*j+0 by omega];exact k 0 (by omega) _ rfl,by rw [show 0+j*3+1=3*j+1 by omega];exact k 1 (by omega) _ rfl,by rw [show 0+j*3+2=3*j+2 by omega];exact k 2 (by omega) _ rfl⟩
def usedB (d:Nd):Bool:=!(d.name.toList == (⟨#[]⟩:ByteArray).toList)
def heldN (ns:List Nd):List Nd:=ns.filter usedB
def RelHe (w:World) (ns:List Nd) (sl si:Value) (wr:World):Prop :=
 ∃ (k m:Nat) (A:Option Addr) (c:Nat),k≤40∧si = .int .i64 (k:Int)∧sl = .slice A m c∧(heldN (ns.take k)).length=m∧OwnV 70 3 wr A c m ((heldN (ns.take k)).flatMap ncell)∧(∀ g,blockOf A=some g→w.heap.size≤g)∧Below w.heap.size w wr
set_option maxRecDepth 100000 in
set_option maxHeartbeats 8000000 in
theorem held_any (w:World) (gf gd:Nat) (ns:List Nd) (h:FsAt w gf gd ns) :
  Calls Tryz.prog 38 #[.pointer (some ⟨gf,0,none⟩)] w fun e w'=>∃ A n c,e = .returned (.slice A n c)∧(heldN ns).length=n∧RdN w' w'.heap.size A c (heldN ns)∧Below w.heap.size w w':=by
 have HRG:=Lib.hid h.range
 have HSZ:Hid ((Tryz.prog.info? 71).map (·.size)=some (ncs ns).length):=Lib.hid (by rw [size_nodes,ncs_len,h.n40])
 have HIX:Hid (∀ W k,k<40→∀ s z pa pn pc,ncell (ns.getD k default)=[.string s,.int .i64 z,.slice pa pn pc]→(Instr.index 71 (.agg (ncs ns).toArray) (.int .i64 ((k:Nat):Int))).run Tryz.prog W = .ok (.agg #[.string s,.int .i64 z,.slice pa pn pc]) W):=Lib.hid fun W k hk s z pa pn pc hd=>index_node h.n40 hk s z pa pn pc hd
 have H40:=Lib.hid h.n40
 have HRD:=Lib.hid h.rd
 clear h
 go_enter Tryz.func38,Tryz.ntmps38
 go_wp2_with (first | (refine wpList_load_mid rfl 71 (.tmp 8) rfl gf 1 rfl (ncs ns) _ HRG.out Tryz.underlying71 rfl HSZ.out ?_) | fail)
 obtain ⟨AG,hAG⟩:∃ AG,AG=(ncs ns).toArray:=⟨_,rfl⟩
 rw [←hAG] at HIX ⊢
 clear hAG HRG HSZ
 go_loopw [3,10] (fun sl si wr=>RelHe w ns sl si wr) (fun _ si _=>40 - (intOf si).toNat)
 case atStart=>exact ⟨0,0,none,0,by omega,rfl,rfl,rfl,OwnV.nil _ _ _,(fun g hg=>by simp [blockOf] at hg),Below.refl _ _⟩
 case round =>
  obtain ⟨k,m,A,c,hk,rfl,rfl,hm,ho,hb,hq⟩:=hrel
  obtain ⟨V,hV⟩:∃ V,V=wr:=⟨_,rfl⟩
  subst hV
  have HM:=Lib.hid hm
  have HOW:=Lib.hid ho
  have HB:=Lib.hid hb
  have HQ:=Lib.hid hq
  clear hm ho hb hq
  by_cases hlt:k<40
  case pos =>
   have hkI:(k:Int)<40:=by omega
   have hk0:(0:Int)≤(k:Int):=by omega
   have hkw:IntKind.i64.wrap ((k:Int)+1)=(k:Int)+1:=IntWalk.i64_in _ (by omega)
   obtain ⟨d,hd⟩:∃ d,d=ns.getD k default:=⟨_,rfl⟩
   have HD:=Lib.hid hd
   have HTK:Hid (heldN (ns.take (k+1))=heldN (ns.take k) ++ if usedB d=true then [d] else []):=Lib.hid (by
    have e:ns[k]?=some d:=by rw [hd];simp [List.getD,H40.out,hlt]
    unfold heldN
    rw [take_snocJ e,List.filter_append]
    congr 1
    simp [List.filter_cons])
   obtain ⟨s,z,pa,pc,pl⟩:=d
   obtain ⟨pn,hpn⟩:∃ n,pl.length=n:=⟨_,rfl⟩
   have HPN:=Lib.hid hpn
   have hix:=HIX.out V k hlt s z pa pn pc (by rw [←hd];unfold ncell;rw [←hpn])
   have hmk:m≤40:=by rw [←HM.out];exact Nat.le_trans (List.length_filter_le _ _) (by rw [List.length_take];omega)
   clear hd hpn
   rcases hu:usedB ⟨s,z,pa,pc,pl⟩ with _ | _
   ·have hs:s.toList.isEmpty=true:=by
     unfold usedB at hu
     simpa using hu
    have hs2:(s.toList == (⟨#[]⟩:ByteArray).toList)=true:=by unfold usedB at hu;simpa using hu
    have HT2:Hid (heldN (ns.take (k+1))=heldN (ns.take k)):=Lib.hid (by rw [HTK.out,hu];simp)
    have hb3:Below V.heap.size V (V.alloc (.cells #[.string s,.int .i64 z,.slice pa pn pc] 70)):=(Below.refl _ _).alloc (Nat.le_refl _) _
    have HB3:=Lib.hid hb3
    clear hu hb3
    go_wp2_with fail
    go_roundw
    case rel=>exact ⟨k+1,m,A,c,by omega,by go_num,rfl,by rw [HT2.out];exact HM.out,by rw [HT2.out];exact HOW.out.keep fun g _ hg=>HB3.out.block g hg,HB.out,HQ.out.trans (HB3.out.mono HQ.out.size)⟩
    case measure=>simp [intOf];omega
   ·have hs:s.toList.isEmpty=false:=by
     unfold usedB at hu
     simpa using hu
    have hs2:(s.toList == (⟨#[]⟩:ByteArray).toList)=false:=by unfold usedB at hu;simpa using hu
    have HT2:Hid (heldN (ns.take (k+1))=heldN (ns.take k) ++ [⟨s,z,pa,pc,pl⟩]):=Lib.hid (by rw [HTK.out,hu,if_pos rfl])
    obtain ⟨V1,hV1⟩:∃ V1,V1=V.alloc (.cells #[.string s,.int .i64 z,.slice pa pn pc] 70):=⟨_,rfl⟩
    have HV1:=Lib.hid hV1
    have hb1:Below V.heap.size V V1:=by rw [hV1];exact (Below.refl _ _).alloc (Nat.le_refl _) _
    have hz1:V1.heap.size=V.heap.size+1:=by rw [hV1];simp
    have hh1:Holds V1 V.heap.size 70 #[.string s,.int .i64 z,.slice pa pn pc]:=by rw [hV1];exact Holds.fresh _ _ _
    have c0:V1.cell? ⟨V.heap.size,0,none⟩=some (.string s):=hh1.cell 0
    have c1:V1.cell? ⟨V.heap.size,1,none⟩=some (.int .i64 z):=hh1.cell 1
    have c2:V1.cell? ⟨V.heap.size,2,none⟩=some (.slice pa pn pc):=hh1.cell 2
    obtain ⟨V2,hV2⟩:∃ V2,V2=V1.alloc (.cells #[.string s,.int .i64 z,.slice pa pn pc] 70):=⟨_,rfl⟩
    have HV2:=Lib.hid hV2
    have hb2:Below V1.heap.size V1 V2:=by rw [hV2];exact (Below.refl _ _).alloc (Nat.le_refl _) _
    have HB2:=Lib.hid (hb1.trans (hb2.mono hb1.size))
    have HFX:Hid (Holds V2 (V.heap.size+1) 70 (ncell ⟨s,z,pa,pc,pl⟩).toArray):=Lib.hid (by rw [←hz1,hV2];unfold ncell;dsimp only;rw [HPN.out];exact Holds.fresh _ _ _)
    have HO2:Hid (OwnV 70 3 V2 A c m ((heldN (ns.take k)).flatMap ncell)):=Lib.hid (HOW.out.keep fun g _ hg=>HB2.out.block g hg)
    have HWC:Hid (∀ u∈ncell ⟨s,z,pa,pc,pl⟩,u.oneCell'=true):=Lib.hid (by intro u hu;simp [ncell] at hu;rcases hu with rfl | rfl | rfl <;> rfl)
    clear hu hb1 hz1 hh1 hb2 hV1 hV2
    go_wp2_with (first | (at_builtin;rw [←HV1.out,←HV2.out];refine wpList_pushV _ rfl (.tmp 16) (.tmp 18) 78 rfl 70 (.agg #[.string ⟨#[]⟩,.int .i64 0,.slice none 0 0]) 3 48 Tryz.underlying78 info_nodeF rfl (by omega) (by omega) rfl HO2.out (cs:=ncell ⟨s,z,pa,pc,pl⟩) rfl rfl HWC.out HFX.out (by omega) ?_;intro g9 c9 W9 ho9 hg9 hat9 hlt9) | fail)
    have HO9:Hid (OwnV 70 3 W9 (some ⟨g9,0,none⟩) c9 (m+1) ((heldN (ns.take (k+1))).flatMap ncell)):=Lib.hid (by rw [HT2.out,List.flatMap_append];simpa using ho9)
    have HQ9:Hid (Below w.heap.size w W9):=Lib.hid ((HQ.out.trans (HB2.out.mono HQ.out.size)).trans ⟨hg9.os,hg9.tape,hg9.output,hg9.size,fun b hb=>hg9.block b (Nat.lt_of_lt_of_le hb (Nat.le_trans HQ.out.size HB2.out.size)) fun e=>by have:=HB.out b e.symm;omega⟩)
    have HBG:Hid (∀ g,blockOf (some (⟨g9,0,none⟩:Addr))=some g→w.heap.size≤g):=Lib.hid fun g hg=>by
     obtain rfl:g9=g:=by simpa [blockOf] using hg
     rcases hat9 with e | e
     ·exact HB.out _ e
     ·rw [e];exact Nat.le_trans HQ.out.size HB2.out.size
    clear ho9 hg9 hat9 hlt9 HFX HO2 HV1 HV2
    go_wp2_with fail
    go_roundw
    case rel=>exact ⟨k+1,m+1,_,c9,by omega,by go_num,rfl,by rw [HT2.out,List.length_append,HM.out];rfl,HO9.out,HBG.out,HQ9.out⟩
    case measure=>simp [intOf];omega
  case neg =>
   obtain rfl:k=40:=by omega
   have hkI:¬ (((40:Nat):Int)<40):=by omega
   have HTA:Hid (heldN (ns.take 40)=heldN ns):=Lib.hid (by rw [List.take_of_length_le (by rw [H40.out];exact Nat.le_refl _)])
   go_wp2_with fail
   go_ret
   refine ⟨A,m,c,rfl,by rw [←HTA.out];exact HM.out,rdN_own (e:=70) (n:=m) (by rw [←HTA.out];exact HM.out) (by rw [←HTA.out];exact HOW.out) (fun d hd=>((HRD.out d (List.mem_filter.1 hd).1).under HQ.out).more HQ.out.size),HQ.out⟩
end Go.Proofs.YtnedpkhehiijhaaGreat
namespace Go.Proofs.YtnedpkhehiijhaaGreat
open Go.RowKit
set_option linter.unusedVariables false
set_option linter.unusedSimpArgs false
attribute [local go_sem ↓] Go.wp_at_zero Go.wp_at_succ

theorem secOf_take (l:List Nat):secOf (l.take 64)=secOf l:=by
 unfold secOf
 rw [List.length_take,Nat.min_comm 64,Nat.min_eq_left (Nat.min_le_right _ _)]
 have key:∀ k,k≤64→fillS (l.take 64) k=fillS l k:=by
  intro k
  induction k with
  | zero=>intro _;rfl
  | succ k ih =>
   intro hk
   rw [fillS,fillS,ih (by omega)]
   congr 1
   simp [List.getD,List.getElem?_take,show k<64 by omega]
 exact key _ (Nat.min_le_right _ _)
theorem secOf_grow {l:List Nat} {k:Nat} (h:k<l.length) (h2:k<64):secOf (l.take (k+1))=(secOf (l.take k)).set k (l.getD k 0):=by
 rw [secOf_short (by rw [List.length_take];omega),secOf_short (by rw [List.length_take];omega)]
 have hk:(l.take k).length=k:=by rw [List.length_take];omega
 have hk1:(l.take (k+1)).length=k+1:=by rw [List.length_take];omega
 have hz:zsec.drop k=0 :: zsec.drop (k+1):=by
  rw [List.drop_eq_getElem_cons (by rw [zsec,List.length_replicate];omega)]
  congr 1
  exact List.getElem_replicate _
 rw [hk,hk1,hz,List.set_append_right _ _ (by omega),hk,Nat.sub_self,List.set_cons_zero,List.take_add_one,List.getElem?_eq_getElem h,List.append_assoc]
 simp [List.getD,h]
theorem places_length (L:List (Int×List Nat)):(placesB L).length=2*L.length:=flat_length (f:=fun p:Int×List Nat=>two8 p.1.toNat) (m:=2) (fun x _=>rfl)
theorem places_at {L:List (Int×List Nat)} {k:Nat} {p:Int×List Nat} (h:L[k]?=some p):(placesB L).getD (2*k) 0=p.1.toNat / 256 % 256∧(placesB L).getD (2*k+1) 0=p.1.toNat % 256:=by
 have f:=fun j (hj:j<2)=>flat_at (f:=fun p:Int×List Nat=>two8 p.1.toNat) (m:=2) (fun x _=>rfl) h hj
 have f0:=f 0 (by omega)
 have f1:=f 1 (by omega)
 refine ⟨?_,?_⟩
 ·rw [List.getD,placesB,show 2*k=2*k+0 by omega,f0];rfl
 ·rw [List.getD,placesB,f1];rfl
def RelSh (w:World) (X:List Nat) (n t:Nat) (i:Value) (wr:World):Prop :=
 ∃ k:Nat,32*t≤k∧k≤n∧k≤32*(t+1)∧i = .int .i64 k∧Row .u8 5 wr w.heap.size (secOf (X.take (2*(k - 32*t))))∧Below w.heap.size w wr
set_option maxRecDepth 100000 in
set_option maxHeartbeats 4000000 in
theorem sheet_any (w:World) (A:Option Addr) (c n:Nat) (l:List Wr) (hl:l.length=n) (hr:RdWr A c l w) (hn:n≤1000) (hat:∀ x∈l,0≤x.at_∧x.at_<65536) (t:Nat) (ht:t<sheetsN n) :
  Calls Tryz.prog 115 #[.slice A n c,.int .i64 (t:Int)] w fun e w'=>e = .returned (.slice (some ⟨w.heap.size,0,none⟩) 64 64)∧Row .u8 5 w' w.heap.size (shB (wv l) t)∧Below w.heap.size w w':=by
 obtain ⟨X,hX⟩:∃ X,X=(placesB (wv l)).drop (64*t):=⟨_,rfl⟩
 unfold sheetsN at ht
 have hsh:shB (wv l) t=secOf X:=by rw [hX];rfl
 rw [hsh]
 have HXL:Hid (X.length=2*n - 64*t):=Lib.hid (by rw [hX,List.length_drop,places_length,wv_length,hl])
 have HXA:Hid (∀ k,32*t≤k→k<n→X.getD (2*(k - 32*t)) 0=(l.getD k default).at_.toNat / 256 % 256∧X.getD (2*(k - 32*t)+1) 0=(l.getD k default).at_.toNat % 256∧0≤(l.getD k default).at_∧(l.getD k default).at_<65536):=Lib.hid fun k h1 h2=>by
  obtain ⟨p1,p2⟩:=places_at (wv_at (l:=l) (j:=k) (by omega))
  refine ⟨?_,?_,hat _ (getD_memJ (by omega))⟩
  ·rw [hX,List.getD,List.getElem?_drop,show 64*t+2*(k - 32*t)=2*k by omega];exact p1
  ·rw [hX,List.getD,List.getElem?_drop,show 64*t+(2*(k - 32*t)+1)=2*k+1 by omega];exact p2
 have HR:=Lib.hid hr
 have HL:=Lib.hid hl
 have hnc:n≤c:=by have:=hr.1;omega
 have hc63:=hr.2.1
 have HH:=Lib.hid (headed_nil w)
 have ht2:t≤40:=by omega
 have ht32:32*t≤n:=by omega
 clear hX hsh hat hr hl
 have hm1:IntKind.i64.wrap ((t:Int)*32)=((32*t:Nat):Int):=by rw [IntWalk.i64_in _ (by omega)];omega
 have hm2:IntKind.i64.wrap (((t:Int)+1)*32)=((32*(t+1):Nat):Int):=by rw [IntWalk.i64_in _ (by omega)];omega
 go_enter Tryz.func115,Tryz.ntmps115
 go_wp2_with fail
 refine HH.out.mono ?_
 rintro e w1 ⟨rfl,hr1,hb1⟩
 have HR1:=Lib.hid hr1
 have HB1:=Lib.hid hb1
 clear hr1 hb1 HH
 go_wp2_with fail
 go_loopw [6] (fun i wr=>RelSh w X n t i wr) (fun i _=>n - (intOf i).toNat)
 case atStart=>exact ⟨32*t,Nat.le_refl _,ht32,by omega,by go_num,by rw [Nat.sub_self];exact HR1.out,HB1.out⟩
 case round =>
  obtain ⟨k,hk1,hk2,hk3,rfl,hrow,hb⟩:=hrel
  obtain ⟨V,hV⟩:∃ V,V=wr:=⟨_,rfl⟩
  subst hV
  have HROW:=Lib.hid hrow
  have HB:=Lib.hid hb
  clear hrow hb
  by_cases hlt:k<n∧k<32*(t+1)
  case pos =>
   obtain ⟨hlt,hlt2⟩:=hlt
   have hkI:(k:Int)<(n:Int):=by omega
   have hk0:(0:Int)≤(k:Int):=by omega
   have hkd:decide ((k:Int)<((32*(t+1):Nat):Int))=true:=decide_eq_true (by omega)
   obtain ⟨b,off,rfl,hb,hc0,_,_⟩:=HR.out.at_ (j:=k) (by rw [HL.out];exact hlt)
   obtain ⟨p1,p2,ha0,ha1⟩:=HXA.out k hk1 hlt
   obtain ⟨y,hy⟩:∃ y:Nat,(l.getD k default).at_=(y:Int):=⟨(l.getD k default).at_.toNat,by omega⟩
   rw [hy] at hc0 ha1 p1 p2
   rw [Int.toNat_natCast] at p1 p2
   have hy6:y<65536:=by omega
   have hc:=(HB.out.cell (p:=⟨b,off+k*2,none⟩) hb).trans hc0
   have hne:b≠w.heap.size:=by omega
   obtain ⟨a,ha⟩:∃ a,a=k - 32*t:=⟨_,rfl⟩
   have hmod:(k:Int) % 32=(a:Int):=by omega
   rw [←ha] at p1 p2
   have ha32:a<32:=by omega
   have hXl:2*a+1<X.length:=by rw [HXL.out];omega
   have hrow:=HROW.out
   rw [←ha] at hrow
   have HR2:Hid (Row .u8 5 ((V.setCell ⟨w.heap.size,a*2,none⟩ (.int .u8 ((y:Int) / 256))).setCell ⟨w.heap.size,a*2+1,none⟩ (.int .u8 ((y:Int) % 256))) w.heap.size (secOf (X.take (2*(k+1 - 32*t))))):=Lib.hid (by
    have h:=(hrow.set (2*a) (y / 256)).set (2*a+1) (y % 256)
    rw [show 2*(k+1 - 32*t)=2*a+1+1 by omega,secOf_grow (by omega) (by omega),secOf_grow (by omega) (by omega),p1,p2,Nat.mod_eq_of_lt (show y / 256<256 by omega)]
    rw [Nat.mul_comm a 2]
    exact h)
   have HB2:=Lib.hid ((HB.out.setCell (p:=⟨w.heap.size,a*2,none⟩) (Nat.le_refl _) (.int .u8 ((y:Int) / 256))).setCell (p:=⟨w.heap.size,a*2+1,none⟩) (Nat.le_refl _) (.int .u8 ((y:Int) % 256)))
   have k0:=hrow.cell (i:=a*2) (by rw [secOf_length];omega)
   have k1:=hrow.cell (i:=a*2+1) (by rw [secOf_length];omega)
   have f0:=hrow.open_ (a*2)
   have f1:=hrow.open_ (a*2+1)
   have hkw:IntKind.i64.wrap ((k:Int)+1)=(k:Int)+1:=IntWalk.i64_in _ (by omega)
   have hi0:(0:Int)≤(a:Int)*2:=by omega
   have hi1:(a:Int)*2<64:=by omega
   have hi2:(0:Int)≤(a:Int)*2+1:=by omega
   have hi3:(a:Int)*2+1<64:=by omega
   clear hrow hc0 p1 p2 ha0 ha1 hy ha hXl
   go_wp2_with fail
   go_roundw
   case rel=>exact ⟨k+1,by omega,by omega,by omega,by go_num,HR2.out,HB2.out⟩
   case measure=>simp [intOf];omega
  case neg =>
   have HX:Hid (secOf (X.take (2*(k - 32*t)))=secOf X):=Lib.hid (by
    by_cases h:k<n
    ·rw [show 2*(k - 32*t)=64 by omega,secOf_take]
    ·rw [List.take_of_length_le (by rw [HXL.out];omega)])
   rw [HX.out] at HROW
   clear HX
   by_cases h:k<n
   ·have hkI:(k:Int)<(n:Int):=by omega
    have hkd:decide ((k:Int)<((32*(t+1):Nat):Int))=false:=decide_eq_false (by omega)
    go_wp2_with fail
    go_ret
    exact ⟨rfl,HROW.out,HB.out⟩
   ·have hkI:¬ ((k:Int)<(n:Int)):=by omega
    go_wp2_with fail
    go_ret
    exact ⟨rfl,HROW.out,HB.out⟩
/-! The log. -/
theorem logD_at {l:List Wr} {j:Nat} (h:j<l.length):(logD (wv l))[j]?=some (((2+sheetsN l.length+j:Nat):Int),(l.getD j default).d):=by
 unfold logD
 rw [List.getElem?_mapIdx,wv_at h,wv_length];rfl
theorem logD_length (L:List (Int×List Nat)):(logD L).length=L.length:=by simp [logD]
theorem logS_length (L:List (Int×List Nat)):(logS L).length=sheetsN L.length:=by simp [logS]
theorem logS_at {L:List (Int×List Nat)} {t:Nat} (h:t<sheetsN L.length):(logS L)[t]?=some (((2+t:Nat):Int),shB L t):=by
 unfold logS
 rw [List.getElem?_map,List.getElem?_range h];rfl
/-- Rounds of writes: a list of writes done up to k. -/
def RelPu (w:World) (F:Nat→Prop) (gd:Nat) (s:Dk) (L:List (Int×List Nat)) (n:Nat) (i:Value) (wr:World):Prop :=
 ∃ k:Nat,k≤n∧i = .int .i64 k∧(s.puts (L.take k)).2=0∧DJ w F gd (s.puts (L.take k)).1 wr
theorem put_go {s:Dk} {L:List (Int×List Nat)} {k:Nat} {p:Int×List Nat} (h:L[k]?=some p) (hp:(s.puts (L.take k)).2=0):s.puts (L.take (k+1))=(s.puts (L.take k)).1.write p.1 p.2:=by rw [take_snocJ h,puts_snoc hp]
theorem put_stop {s:Dk} {L:List (Int×List Nat)} {k:Nat} {p:Int×List Nat} (h:L[k]?=some p) (hp:(s.puts (L.take k)).2=0) (hw:((s.puts (L.take k)).1.write p.1 p.2).2≠0):s.putf L=(s.puts (L.take k)).1.write p.1 p.2:=by
 have h1:s.puts L=(s.puts (L.take k)).1.write p.1 p.2:=(congrArg s.puts (split_at h)).trans (puts_stop hp hw)
 rw [putf_stop (by rw [h1];exact hw),h1]
theorem bound_take {s:Dk} {L:List (Int×List Nat)} {n:Nat} (hn:L.length≤n) (k:Nat):(s.puts (L.take k)).1.waits.length≤s.waits.length+n∧(s.puts (L.take k)).1.ops≤s.ops+n:=by
 have h1:=puts_le s (L.take k)
 have h2:(L.take k).length≤L.length:=by rw [List.length_take];omega
 omega
section
variable {w:World} {F:Nat→Prop} {gd:Nat} {s:Dk}
set_option maxRecDepth 100000 in
set_option maxHeartbeats 8000000 in
theorem note_any (h:Disk w F gd s) (A:Option Addr) (c n:Nat) (l:List Wr) (hl:l.length=n) (hr:OffF F (RdWr A c l) w) (hn:n≤1000) (hat:∀ x∈l,0≤x.at_∧x.at_<65536) (hwl:s.waits.length≤80000) (hops:s.ops≤800000000) :
  Calls Tryz.prog 89 #[.pointer (some ⟨gd,0,none⟩),.slice A n c] w fun e w'=>e = .returned (.int .i64 ((s.putf (logD (wv l) ++ logS (wv l))).2:Nat))∧DJ w F gd (s.putf (logD (wv l) ++ logS (wv l))).1 w':=by
 obtain ⟨L,hL⟩:∃ L,L=logD (wv l) ++ logS (wv l):=⟨_,rfl⟩
 obtain ⟨m,hm⟩:∃ m,m=sheetsN n:=⟨_,rfl⟩
 have hm40:m≤40:=by rw [hm];unfold sheetsN;omega
 rw [←hL]
 have HST:=Lib.hid (DJ.start h)
 have HLn:Hid (L.length=n+m):=Lib.hid (by rw [hL,List.length_append,logD_length,logS_length,wv_length,hl,hm])
 have HLE:Hid (∀ k,(s.puts (L.take k)).1.waits.length≤90000∧(s.puts (L.take k)).1.ops≤900000000):=Lib.hid fun k=>by
  have:=bound_take (s:=s) (Nat.le_of_eq HLn.out) k
  omega
 have HAD:Hid (∀ k,k<n→L[k]?=some (((2+m+k:Nat):Int),(l.getD k default).d)):=Lib.hid fun k hk=>by
  rw [hL,List.getElem?_append_left (by rw [logD_length,wv_length];omega),logD_at (by omega),hl,hm]
 have HAS:Hid (∀ t,t<m→L[n+t]?=some (((2+t:Nat):Int),shB (wv l) t)):=Lib.hid fun t ht=>by
  rw [hL,List.getElem?_append_right (by rw [logD_length,wv_length];omega),logD_length,wv_length,hl,Nat.add_sub_cancel_left,logS_at (by rw [wv_length,hl,←hm];exact ht)]
 have HSH:=Lib.hid fun (w1:World) (hr:RdWr A c l w1) (t:Nat) (ht:t<m)=>sheet_any w1 A c n l hl hr hn hat t (by rw [←hm];exact ht)
 have HNN:=Lib.hid fun (w1:World)=>sheets_any w1 n (by omega)
 rw [←hm] at HNN
 have HR:=Lib.hid hr
 have HL:=Lib.hid hl
 have hnc:n≤c:=by have:=hr.at_.1;omega
 have hc63:=hr.at_.2.1
 obtain ⟨SB,hSB⟩:∃ f,f=shB (wv l):=⟨_,rfl⟩
 rw [←hSB] at HAS HSH
 have HSB:Hid (∀ t,(SB t).length=64):=Lib.hid fun t=>by rw [hSB];exact secOf_length _
 clear h hr hwl hops hat hl hL hm hSB
 go_enter Tryz.func89,Tryz.ntmps89
 go_wp2_with (first | (refine (HNN.out _).mono ?_;rintro e w1 ⟨rfl,rfl⟩) | fail)
 have hw5:IntKind.i64.wrap (2+(m:Int))=2+(m:Int):=IntWalk.i64_in _ (by omega)
 go_loopw [17] (fun i wr=>RelPu w F gd s L n i wr) (fun i _=>n - (intOf i).toNat)
 case atStart=>exact ⟨0,Nat.zero_le _,rfl,rfl,HST.out⟩
 case round =>
  obtain ⟨k,hk,rfl,hp,hd⟩:=hrel
  obtain ⟨V,hV⟩:∃ V,V=wr:=⟨_,rfl⟩
  subst hV
  have HP:=Lib.hid hp
  have HD:=Lib.hid hd
  clear hp hd
  by_cases hlt:k<n
  case pos =>
   have hkI:(k:Int)<(n:Int):=by omega
   have hk0:(0:Int)≤(k:Int):=by omega
   obtain ⟨b,off,rfl,hb,hc0,hc1,hrd⟩:=(HD.out.rd HR.out).at_ (j:=k) (by rw [HL.out];exact hlt)
   have hLk:=HAD.out k hlt
   have HSN:=Lib.hid (put_go hLk HP.out)
   have HSP:=Lib.hid (put_stop hLk HP.out)
   obtain ⟨x,hx⟩:∃ x,x=l.getD k default:=⟨_,rfl⟩
   rw [←hx] at hc0 hc1 hrd HSN HSP
   obtain ⟨xa,da,dc,xd⟩:=x
   dsimp only at *
   obtain ⟨dn,hdn⟩:∃ d,xd.length=d:=⟨_,rfl⟩
   rw [hdn] at hc1
   have hbv:Below V.heap.size V (V.alloc (.cells #[.int .i64 xa,.slice da dn dc] 132)):=(Below.refl _ _).alloc (Nat.le_refl _) _
   have hh:=Holds.fresh V 132 #[.int .i64 xa,.slice da dn dc]
   have z0:=hh.cell 0
   have z1:=hh.cell 1
   have hw:IntKind.i64.wrap (2+(m:Int)+(k:Int))=2+(m:Int)+(k:Int):=IntWalk.i64_in _ (by omega)
   have HW:=Lib.hid ((HD.out.below hbv).write (2+(m:Int)+(k:Int)) da dn dc xd hdn ((hrd.under hbv).more hbv.size) (by have:=HLE.out k;omega) (by have:=HLE.out k;omega))
   have hkw:IntKind.i64.wrap ((k:Int)+1)=(k:Int)+1:=IntWalk.i64_in _ (by omega)
   have hcast:((2+m+k:Nat):Int)=2+(m:Int)+(k:Int):=by omega
   rw [hcast] at HSN HSP
   clear hLk hrd hbv hh hx hcast
   go_wp2_with fail
   refine HW.out.mono ?_
   rintro e w2 ⟨rfl,hd2⟩
   have HD2:=Lib.hid hd2
   generalize (s.puts (L.take k)).1.write (2+(m:Int)+(k:Int)) xd=q at *
   obtain ⟨s1,e1⟩:=q
   dsimp only at *
   clear hd2 HW HD HP z0 z1 hc0 hc1
   by_cases h0:e1=0
   ·subst h0
    clear HSP
    go_wp2_with fail
    go_roundw
    case rel=>exact ⟨k+1,by omega,by go_num,by rw [HSN.out],by rw [HSN.out];exact HD2.out⟩
    case measure=>simp [intOf];omega
   ·have HRE:=Lib.hid (HSP.out h0)
    have d0:((e1:Int) == 0)=false:=by rw [beq_eq_false_iff_ne];omega
    have d1:((e1:Int) != 0)=true:=by rw [bne,d0];rfl
    clear HSN HSP
    go_wp2_with fail
    go_ret
    rw [HRE.out]
    exact ⟨rfl,HD2.out⟩
  case neg =>
   obtain rfl:k=n:=by omega
   have hkI:¬ ((k:Int)<(k:Int)):=by omega
   go_wp2_with (first | (refine (HNN.out _).mono ?_;rintro e w1 ⟨rfl,rfl⟩) | fail)
   go_loopw [36] (fun i wr=>∃ t:Nat,t≤m∧i = .int .i64 t∧(s.puts (L.take (k+t))).2=0∧DJ w F gd (s.puts (L.take (k+t))).1 wr) (fun i _=>m - (intOf i).toNat)
   case atStart=>exact ⟨0,Nat.zero_le _,rfl,HP.out,HD.out⟩
   case round =>
    clear HP HD
    obtain ⟨t,ht,rfl,hp,hd⟩:=hrel
    obtain ⟨V2,hV2⟩:∃ V,V=wr:=⟨_,rfl⟩
    subst hV2
    have HP:=Lib.hid hp
    have HD:=Lib.hid hd
    clear hp hd
    by_cases hlt:t<m
    case pos =>
     have htI:(t:Int)<(m:Int):=by omega
     have hLk:=HAS.out t hlt
     have HSN:=Lib.hid (put_go hLk HP.out)
     have HSP:=Lib.hid (put_stop hLk HP.out)
     have HSV:=Lib.hid (HSH.out V2 (HD.out.rd HR.out) t hlt)
     have HLT:=Lib.hid (HLE.out (k+t))
     have hw:IntKind.i64.wrap (2+(t:Int))=2+(t:Int):=IntWalk.i64_in _ (by omega)
     have htw:IntKind.i64.wrap ((t:Int)+1)=(t:Int)+1:=IntWalk.i64_in _ (by omega)
     have hcast:((2+t:Nat):Int)=2+(t:Int):=by omega
     rw [hcast] at HSN HSP
     dsimp only at HSN HSP
     clear hLk hcast
     go_wp2_with fail
     refine HSV.out.mono ?_
     rintro e w2 ⟨rfl,hr2,hb2⟩
     have HW:=Lib.hid ((HD.out.below hb2).write (2+(t:Int)) (some ⟨V2.heap.size,0,none⟩) 64 64 (SB t) (HSB.out t) (Row.rd64 hr2 (HSB.out t)) (by have:=HLT.out;omega) (by have:=HLT.out;omega))
     clear hr2 hb2 HSV HD HLT
     go_wp2_with fail
     refine HW.out.mono ?_
     rintro e w3 ⟨rfl,hd2⟩
     have HD2:=Lib.hid hd2
     generalize (s.puts (L.take (k+t))).1.write (2+(t:Int)) (SB t)=q at *
     obtain ⟨s1,e1⟩:=q
     dsimp only at *
     clear hd2 HW HP
     by_cases h0:e1=0
     ·subst h0
      clear HSP
      go_wp2_with fail
      go_roundw
      case rel=>exact ⟨t+1,by omega,by go_num,by rw [←Nat.add_assoc,HSN.out],by rw [←Nat.add_assoc,HSN.out];exact HD2.out⟩
      case measure=>simp [intOf];omega
     ·have HRE:=Lib.hid (HSP.out h0)
      have d0:((e1:Int) == 0)=false:=by rw [beq_eq_false_iff_ne];omega
      have d1:((e1:Int) != 0)=true:=by rw [bne,d0];rfl
      clear HSN HSP
      go_wp2_with fail
      go_ret
      rw [HRE.out]
      exact ⟨rfl,HD2.out⟩
    case neg =>
     obtain rfl:t=m:=by omega
     have htI:¬ ((t:Int)<(t:Int)):=by omega
     have hTK:L.take (k+t)=L:=List.take_of_length_le (by rw [HLn.out];exact Nat.le_refl _)
     have h1:=HLE.out (k+t)
     rw [hTK] at HP HD h1
     have HF:=Lib.hid (HD.out.flush (by omega) (by omega))
     have HPF:=Lib.hid (putf_go HP.out)
     clear HP HD hTK h1
     go_wp2_with fail
     refine HF.out.mono ?_
     rintro e w2 ⟨rfl,hd2⟩
     have HD2:=Lib.hid hd2
     clear hd2 HF
     go_wp2_with fail
     go_ret
     rw [HPF.out]
     exact ⟨rfl,HD2.out⟩
end
end Go.Proofs.YtnedpkhehiijhaaGreat
namespace Go.Proofs.YtnedpkhehiijhaaGreat
open Go.RowKit
set_option linter.unusedVariables false
set_option linter.unusedSimpArgs false
attribute [local go_sem ↓] Go.wp_at_zero Go.wp_at_succ

theorem mayJ_good {m:Nat} {L:List (Int×List Nat)} (h:mayJ m L=true):∀ p∈L,GoodJ m p:=(of_decide_eq_true h).1
section
variable {w:World} {F:Nat→Prop} {gd:Nat} {s:Dk}
theorem DJ.then_ {wr w':World} {s1 s2:Dk} (h:DJ w F gd s1 wr) (h2:DJ wr (grow F w wr) gd s2 w'):DJ w F gd s2 w':=h.step h2.1 h2.2
set_option maxRecDepth 100000 in
set_option maxHeartbeats 4000000 in
theorem commit_any (h:Disk w F gd s) (A:Option Addr) (c n:Nat) (l:List Wr) (hl:l.length=n) (hr:OffF F (RdWr A c l) w) (hn:n≤1000) (hwl:s.waits.length≤70000) (hops:s.ops≤700000000) :
  Calls Tryz.prog 48 #[.pointer (some ⟨gd,0,none⟩),.slice A n c] w fun e w'=>e = .returned (.int .i64 ((s.commit (wv l)).2:Nat))∧DJ w F gd (s.commit (wv l)).1 w':=by
 have HFI:=Lib.hid (fit_any h A c n l hl hr.at_ (by omega))
 have HST:=Lib.hid (DJ.start h)
 have hm2:s.many≤2000:=by have:=h.len.2.2;unfold Dk.many;omega
 obtain ⟨r,hr0⟩:∃ r,r=s.commit (wv l):=⟨_,rfl⟩
 rw [←hr0]
 unfold Dk.commit at hr0
 rw [wv_length,hl] at hr0
 have hnil:wv l=[]↔n=0:=by rw [←List.length_eq_zero_iff,wv_length,hl]
 simp only [hnil] at hr0
 have HRR:=Lib.hid hr0
 rcases hmay:mayJ s.many (wv l) with _ | _
 case false =>
  rw [hmay] at HFI
  have HRE:Hid (r=(s,1)):=Lib.hid (by rw [HRR.out,hmay];rfl)
  clear HRR hr0 hmay hr hl h
  go_enter Tryz.func48,Tryz.ntmps48
  go_wp2_with fail
  refine HFI.out.mono ?_
  rintro e w1 ⟨rfl,hb1⟩
  have HD1:=Lib.hid (HST.out.below hb1)
  clear hb1 HFI
  go_wp2_with fail
  go_ret
  rw [HRE.out]
  exact ⟨rfl,HD1.out⟩
 rw [hmay] at HFI
 simp only [hmay,if_true] at hr0
 have HRR:=Lib.hid hr0
 have hg:=mayJ_good hmay
 have hat:∀ x∈l,0≤x.at_∧x.at_<65536:=fun x hx=>by
  have:=hg x.v (List.mem_map_of_mem hx)
  have h1:=this.1
  have h2:=this.2.1
  simp only [Wr.v] at h1 h2
  omega
 have HAT:=Lib.hid hat
 have HL:=Lib.hid hl
 have HR:=Lib.hid hr
 clear hr0 hmay hg hat hl hr hnil
 by_cases h150:150<n
 ·have HRE:Hid (r=(s,5)):=Lib.hid (by rw [HRR.out,if_pos h150])
  have d1:decide ((150:Int)<(n:Int))=true:=decide_eq_true (by omega)
  clear HRR h
  go_enter Tryz.func48,Tryz.ntmps48
  go_wp2_with fail
  refine HFI.out.mono ?_
  rintro e w1 ⟨rfl,hb1⟩
  have HD1:=Lib.hid (HST.out.below hb1)
  clear hb1 HFI
  go_wp2_with fail
  go_ret
  rw [HRE.out]
  exact ⟨rfl,HD1.out⟩
 have d1:decide ((150:Int)<(n:Int))=false:=decide_eq_false (by omega)
 by_cases h00:n=0
 ·have HRE:Hid (r=(s,0)):=Lib.hid (by rw [HRR.out,if_neg h150,if_pos h00])
  subst h00
  clear HRR h
  go_enter Tryz.func48,Tryz.ntmps48
  go_wp2_with fail
  refine HFI.out.mono ?_
  rintro e w1 ⟨rfl,hb1⟩
  have HD1:=Lib.hid (HST.out.below hb1)
  clear hb1 HFI
  go_wp2_with fail
  go_ret
  rw [HRE.out]
  exact ⟨rfl,HD1.out⟩
 have d2:((n:Int) == 0)=false:=by rw [beq_eq_false_iff_ne];omega
 have HR1:Hid (r=if (s.putf (logD (wv l) ++ logS (wv l))).2=0 then
   if ((s.putf (logD (wv l) ++ logS (wv l))).1.putf [(1,markB n)]).2=0 then ((s.putf (logD (wv l) ++ logS (wv l))).1.putf [(1,markB n)]).1.fin (wv l)
   else (s.putf (logD (wv l) ++ logS (wv l))).1.putf [(1,markB n)]
  else s.putf (logD (wv l) ++ logS (wv l))):=Lib.hid (by rw [HRR.out,if_neg h150,if_neg h00])
 have hle:=putf_le s (logD (wv l) ++ logS (wv l))
 rw [List.length_append,logD_length,logS_length,wv_length,HL.out] at hle
 have hsn:sheetsN n≤40:=by unfold sheetsN;omega
 have HLE:Hid ((s.putf (logD (wv l) ++ logS (wv l))).1.waits.length≤75000∧(s.putf (logD (wv l) ++ logS (wv l))).1.ops≤750000000):=Lib.hid (by omega)
 have HNO:=Lib.hid fun (w1:World) (hb:Below w.heap.size w w1)=>note_any (HST.out.below hb).1 A c n l HL.out ((HR.out.only (HST.out.below hb).2).less fun g hg=>.inl hg) hn HAT.out (by omega) (by omega)
 clear HRR hle hsn h
 generalize s.putf (logD (wv l) ++ logS (wv l))=q at *
 obtain ⟨s1,e1⟩:=q
 dsimp only at *
 go_enter Tryz.func48,Tryz.ntmps48
 go_wp2_with fail
 refine HFI.out.mono ?_
 rintro e w1 ⟨rfl,hb1⟩
 have HD1:=Lib.hid (HST.out.below hb1)
 have HN1:=Lib.hid (HNO.out w1 hb1)
 clear hb1 HFI HNO
 go_wp2_with fail
 refine HN1.out.mono ?_
 rintro e w2 ⟨rfl,hd2⟩
 have HD2:=Lib.hid (HD1.out.then_ hd2)
 clear hd2 HN1 HD1
 by_cases h0:e1=0
 case neg =>
  have HRE:Hid (r=(s1,e1)):=Lib.hid (by rw [HR1.out,if_neg h0])
  have x0:((e1:Int) == 0)=false:=by rw [beq_eq_false_iff_ne];omega
  have x1:((e1:Int) != 0)=true:=by rw [bne,x0];rfl
  clear HR1
  go_wp2_with fail
  go_ret
  rw [HRE.out]
  exact ⟨rfl,HD2.out⟩
 subst h0
 have HR2:Hid (r=if (s1.putf [(1,markB n)]).2=0 then (s1.putf [(1,markB n)]).1.fin (wv l) else s1.putf [(1,markB n)]):=Lib.hid (by rw [HR1.out,if_pos rfl])
 have HMK:=Lib.hid (markOf_any w2 n (by omega))
 have hle2:=putf_le s1 [(1,markB n)]
 simp only [List.length_cons,List.length_nil] at hle2
 have HLE2:Hid ((s1.putf [(1,markB n)]).1.waits.length≤80000∧(s1.putf [(1,markB n)]).1.ops≤800000000):=Lib.hid (by have:=HLE.out;omega)
 have HFLU:=Lib.hid fun (w3:World) (hb:Below w2.heap.size w2 w3) (hz:Row .u8 5 w3 w2.heap.size (markB n))=>flushed_any (HD2.out.below hb).1 1 (some ⟨w2.heap.size,0,none⟩) 64 64 (markB n) (secOf_length _) (Row.rd64 hz (secOf_length _)) (by have:=HLE.out;omega) (by have:=HLE.out;omega)
 clear HR1 hle2
 generalize s1.putf [(1,markB n)]=q at *
 obtain ⟨s2,e2⟩:=q
 dsimp only at *
 go_wp2_with fail
 refine HMK.out.mono ?_
 rintro e w3 ⟨rfl,hr3,hb3⟩
 have HF3:=Lib.hid (HFLU.out w3 hb3 hr3)
 have HD3:=Lib.hid (HD2.out.below hb3)
 clear hr3 hb3 HMK HFLU HD2
 go_wp2_with fail
 refine HF3.out.mono ?_
 rintro e w4 ⟨rfl,hd4⟩
 have HD4:=Lib.hid (HD3.out.then_ hd4)
 clear hd4 HF3 HD3
 by_cases h0:e2=0
 case neg =>
  have HRE:Hid (r=(s2,e2)):=Lib.hid (by rw [HR2.out,if_neg h0])
  have x0:((e2:Int) == 0)=false:=by rw [beq_eq_false_iff_ne];omega
  have x1:((e2:Int) != 0)=true:=by rw [bne,x0];rfl
  clear HR2
  go_wp2_with fail
  go_ret
  rw [HRE.out]
  exact ⟨rfl,HD4.out⟩
 subst h0
 have HR3:Hid (r=s2.fin (wv l)):=Lib.hid (by rw [HR2.out,if_pos rfl])
 have HSE:=Lib.hid (settle_any HD4.out.1 A c n l HL.out ((HR.out.only HD4.out.2).less fun g hg=>.inl hg) hn (fun x hx=>by have:=HAT.out x hx;omega) HLE2.out.1 HLE2.out.2)
 clear HR2
 go_wp2_with fail
 refine HSE.out.mono ?_
 rintro e w5 ⟨rfl,hd5⟩
 have HD5:=Lib.hid (HD4.out.then_ hd5)
 clear hd5 HSE
 go_wp2_with fail
 go_ret
 rw [HR3.out]
 exact ⟨rfl,HD5.out⟩
end
end Go.Proofs.YtnedpkhehiijhaaGreat
namespace Go.Proofs.YtnedpkhehiijhaaGreat
open Go.RowKit Go.Shelf
set_option linter.unusedVariables false
set_option linter.unusedSimpArgs false
attribute [local go_sem] Oper.semAt_some

theorem cells_of {w:World} {g o:Nat} {v:Value} (h:w.cell? ⟨g,o,none⟩=some v):∃ x:Obj,w.heap[g]?=some x∧x.isCells=true:=Go.cells_of_cell h
theorem holds_cells {w:World} {g:Nat} {t:TypeId} {cs:Array Value} (h:Holds w g t cs):∃ x:Obj,w.heap[g]?=some x∧x.isCells=true:=⟨_,h,rfl⟩
theorem DiskAt.cells {w:World} {gd gn gl:Nat} {A:Option Addr} {cw:Nat} {K:Option Addr} {ck:Nat} {s:Dk} (h:DiskAt w gd gn gl A cw K ck s):∀ g,(g=gd∨g=gn∨g=gl∨blockOf A=some g)→∃ x:Obj,w.heap[g]?=some x∧x.isCells=true:=by
 rintro g (rfl | rfl | rfl | hg)
 ·exact holds_cells h.hd
 ·obtain ⟨cur,e,hc,_⟩:=h.hn
  exact ⟨_,hc,rfl⟩
 ·obtain ⟨cur,e,hc,_⟩:=h.hl
  exact ⟨_,hc,rfl⟩
 ·rcases h.hw.own with ⟨_,⟨e,_⟩ | ⟨g',cap,cur,e,_,hc,_⟩⟩
  ·injection e with e
   rw [e] at hg
   simp [blockOf] at hg
  ·injection e with e
   rw [e] at hg
   obtain rfl:g'=g:=by simpa [blockOf] using hg
   exact ⟨_,hc,rfl⟩
theorem Only.others {F:Nat→Prop} {w w':World} (h:Only F w w') (hc:∀ g,F g→∃ x:Obj,w.heap[g]?=some x∧x.isCells=true):KeepsOthers w w' :=
 ⟨h.size,fun k o hk ho=>(h.block k (Array.getElem?_eq_some_iff.1 hk).1 fun hF=>by
  obtain ⟨x,hx,hxc⟩:=hc k hF
  rw [hk] at hx
  injection hx with hx
  rw [hx,hxc] at ho
  cases ho).trans hk⟩
theorem Truths.keepCells {w w':World} {K:Option Addr} {c:Nat} {l:List Bool} (h:Truths w K c l) (hs:w.heap.size≤w'.heap.size) (hk:∀ (g:Nat) (o:Obj),w.heap[g]?=some o→o.isCells=true→w'.heap[g]?=w.heap[g]?):Truths w' K c l :=
 ⟨h.1,h.2.1,fun hn=>by
  obtain ⟨b,off,e,hlt,hc⟩:=h.2.2 hn
  obtain ⟨x,hx,hxc⟩:=cells_of (hc 0 hn)
  have hb:=hk b x hx hxc
  exact ⟨b,off,e,Nat.lt_of_lt_of_le hlt hs,fun j hj=>by rw [←hc j hj];simp only [World.cell?];rw [hb]⟩⟩
/-- The disk stays while no block of cells turns. -/
theorem Disk.keepCells {w w':World} {F:Nat→Prop} {gd:Nat} {s:Dk} (h:Disk w F gd s) (hs:w.heap.size≤w'.heap.size) (hk:∀ (g:Nat) (o:Obj),w.heap[g]?=some o→o.isCells=true→w'.heap[g]?=w.heap[g]?):Disk w' F gd s:=by
 obtain ⟨gn,gl,A,cw,K,ck,h,f⟩:=h
 have k:∀ g,(g=gd∨g=gn∨g=gl∨blockOf A=some g)→w'.heap[g]?=w.heap[g]?:=fun g hg=>by
  obtain ⟨x,hx,hxc⟩:=h.cells g hg
  exact hk g x hx hxc
 exact ⟨gn,gl,A,cw,K,ck,{
  hd:=(k gd (.inl rfl)).trans h.hd
  hn:=h.hn.keep (k gn (.inr (.inl rfl)))
  hl:=h.hl.keep (k gl (.inr (.inr (.inl rfl))))
  len:=h.len
  hw:=h.hw.keep fun g hg=>k g (.inr (.inr (.inr hg)))
  hk:=h.hk.keepCells hs hk
  dn:=h.dn
  dl:=h.dl
  nl:=h.nl
  ad:=h.ad
  kd:=h.kd
  kw:=fun g hg=>Nat.lt_of_lt_of_le (h.kw g hg) hs
  n1:=h.n1
  n2:=h.n2
  wat:=h.wat },f⟩
theorem Disk.low {w:World} {F:Nat→Prop} {gd:Nat} {s:Dk} (h:Disk w F gd s):Disk w (fun k=>F k∧k<w.heap.size) gd s:=by
 obtain ⟨gn,gl,A,cw,K,ck,h,f1,f2,f3,f4,f5⟩:=h
 exact ⟨gn,gl,A,cw,K,ck,h,⟨f1,Holds.lt h.hd⟩,⟨f2,h.hn.lt⟩,⟨f3,h.hl.lt⟩,fun g hg=>⟨f4 g hg,h.hw.lt hg⟩,fun g hg=>⟨f5 g hg,h.kw g hg⟩⟩
/-- A write, and nothing but cells turns. -/
theorem disk_writeO {w:World} {F:Nat→Prop} {gd:Nat} {s:Dk} (h:Disk w F gd s) (i:Int) (A2:Option Addr) (n2 c2:Nat) (x:List Nat) (hn:x.length=n2) (hr:Rd .u8 w w.heap.size A2 c2 x) (hwl:s.waits.length≤100000) (hops:s.ops≤1000000000) :
  Calls Tryz.prog 103 #[.pointer (some ⟨gd,0,none⟩),.int .i64 i,.slice A2 n2 c2] w fun e w'=>e = .returned (.int .i64 ((s.write i x).2:Nat))∧Disk w' (grow F w w') gd (s.write i x).1∧Only F w w'∧KeepsOthers w w':=by
 obtain ⟨gn,gl,A,cw,K,ck,h,f1,f2,f3,f4,f5⟩:=h
 have hself:Disk w (grow F w w) gd s:=h.disk (F:=F) ⟨f1,f2,f3,f4,f5⟩ h (fun g e=>.inl e) (fun g e=>.inl e)
 unfold Dk.write
 by_cases hdn:s.down=true
 ·rw [if_pos hdn]
  refine (write_down w gd s gn gl A cw K ck h hdn i _).mono ?_
  rintro e w' ⟨rfl,rfl⟩
  exact ⟨rfl,hself,Only.refl _ _,KeepsOthers.refl _⟩
 ·rw [if_neg hdn]
  have hdn':s.down=false:=by simpa using hdn
  by_cases hf:s.fits i x
  ·rw [if_pos hf]
   obtain ⟨h0,h1,h2⟩:=hf
   obtain ⟨i,rfl⟩:∃ k:Nat,i=(k:Int):=⟨i.toNat,by omega⟩
   obtain rfl:n2=64:=by omega
   by_cases hd:s.due=true
   ·rw [if_pos hd]
    refine (write_due w gd s gn gl A cw K ck h hdn' i (by omega) A2 c2 hd hwl).mono ?_
    rintro e w' ⟨rfl,hd',ho⟩
    exact ⟨rfl,h.disk ⟨f1,f2,f3,f4,f5⟩ hd' (fun g e=>by simp [blockOf] at e) (fun g e=>.inl e),ho.more fun k _ e=>by rcases e with rfl | rfl | rfl;exact f1;exact f2;exact f3,ho.others fun g hg=>h.cells g (by rcases hg with rfl | rfl | rfl;exact .inl rfl;exact .inr (.inl rfl);exact .inr (.inr (.inl rfl)))⟩
   ·rw [if_neg hd]
    refine (write_ok w gd gn gl A cw K ck s h i (by omega) x h2 hdn' (by simpa [Dk.due] using hd) A2 c2 hr hwl hops).mono ?_
    rintro e w' ⟨rfl,g',c',hd',hA,ho⟩
    refine ⟨rfl,h.disk ⟨f1,f2,f3,f4,f5⟩ hd' (fun g e=>?_) (fun g e=>.inl e),ho.more fun k _ e=>by rcases e with rfl | rfl | e;exact f1;exact f2;exact f4 k e,ho.others fun g hg=>h.cells g (by rcases hg with rfl | rfl | hg;exact .inl rfl;exact .inr (.inl rfl);exact .inr (.inr (.inr hg)))⟩
    obtain rfl:g'=g:=by simpa [blockOf] using e
    exact hA
  ·rw [if_neg hf]
   refine (write_arg w gd s gn gl A cw K ck h hdn' i A2 n2 c2 (fun e=>hf ⟨e.1,e.2.1,by omega⟩)).mono ?_
   rintro e w' ⟨rfl,rfl⟩
   exact ⟨rfl,hself,Only.refl _ _,KeepsOthers.refl _⟩
theorem disk_flushO {w:World} {F:Nat→Prop} {gd:Nat} {s:Dk} (h:Disk w F gd s) (hwl:s.waits.length≤100000) (hops:s.ops≤1000000000) :
  Calls Tryz.prog 105 #[.pointer (some ⟨gd,0,none⟩)] w fun e w'=>e = .returned (.int .i64 (s.flush.2:Nat))∧Disk w' (grow F w w') gd s.flush.1∧Only F w w'∧KeepsOthers w w':=by
 obtain ⟨gn,gl,A,cw,K,ck,h,f1,f2,f3,f4,f5⟩:=h
 have hself:Disk w (grow F w w) gd s:=h.disk (F:=F) ⟨f1,f2,f3,f4,f5⟩ h (fun g e=>.inl e) (fun g e=>.inl e)
 unfold Dk.flush
 by_cases hdn:s.down=true
 ·rw [if_pos hdn]
  refine (flush_down w gd s gn gl A cw K ck h hdn).mono ?_
  rintro e w' ⟨rfl,rfl⟩
  exact ⟨rfl,hself,Only.refl _ _,KeepsOthers.refl _⟩
 ·rw [if_neg hdn]
  have hdn':s.down=false:=by simpa using hdn
  by_cases hd:s.due=true
  ·rw [if_pos hd]
   refine (flush_due w gd s gn gl A cw K ck h hdn' hd hwl).mono ?_
   rintro e w' ⟨rfl,hd',ho⟩
   exact ⟨rfl,h.disk ⟨f1,f2,f3,f4,f5⟩ hd' (fun g e=>by simp [blockOf] at e) (fun g e=>.inl e),ho.more fun k _ e=>by rcases e with rfl | rfl | rfl;exact f1;exact f2;exact f3,ho.others fun g hg=>h.cells g (by rcases hg with rfl | rfl | rfl;exact .inl rfl;exact .inr (.inl rfl);exact .inr (.inr (.inl rfl)))⟩
  ·rw [if_neg hd]
   refine (flush_ok w gd gn gl A cw K ck s h hdn' (by simpa [Dk.due] using hd) hwl hops (fun _=>true) fun _=>rfl).mono ?_
   rintro e w' ⟨rfl,hd',ho⟩
   exact ⟨rfl,h.disk ⟨f1,f2,f3,f4,f5⟩ hd' (fun g e=>by simp [blockOf] at e) (fun g e=>.inl e),ho.more fun k _ e=>by rcases e with rfl | rfl;exact f1;exact f3,ho.others fun g hg=>h.cells g (by rcases hg with rfl | rfl;exact .inl rfl;exact .inr (.inr (.inl rfl)))⟩
/-- The disk since w, while block r is the caller's own. -/
def DJr (w:World) (F:Nat→Prop) (r:Nat) (gd:Nat) (s:Dk) (W:World):Prop:=Disk W (grow F w W) gd s∧Only (fun k=>F k∨k=r) w W
section
variable {w W W':World} {F:Nat→Prop} {r gd:Nat} {s s':Dk}
theorem DJ.toR (h:DJ w F gd s W):DJr w F r gd s W:=⟨h.1,h.2.more fun k _ hk=>.inl hk⟩
theorem DJr.turns {row:Option Nat} (h:DJr w F r gd s W) (hg:W.grownBy W' row) (hr:∀ q,row=some q→w.heap.size≤q∧∃ o:Obj,W.heap[q]?=some o∧o.isCells=false):DJr w F r gd s W' :=
 ⟨(h.1.keepCells hg.size fun g o ho hc=>hg.block g (Array.getElem?_eq_some_iff.1 ho).1 fun e=>by
   obtain ⟨_,o',ho',hc'⟩:=hr g e.symm
   rw [ho] at ho'
   injection ho' with ho'
   rw [←ho',hc] at hc'
   cases hc').more fun k hk=>by
    have:=hg.size
    rcases hk with hk | hk
    ·exact .inl hk
    ·exact .inr ⟨hk.1,by omega⟩,
  h.2.grown hg fun g e=>.inr (hr g e).1⟩
theorem DJ.turns {row:Option Nat} (h:DJ w F gd s W) (hg:W.grownBy W' row) (hr:∀ q,row=some q→w.heap.size≤q∧∃ o:Obj,W.heap[q]?=some o∧o.isCells=false):DJ w F gd s W' :=
 ⟨((DJ.toR (r:=0) h).turns hg hr).1,h.2.grown hg fun g e=>.inr (hr g e).1⟩
theorem DJ.writeO (h:DJ w F gd s W) (i:Int) (A2:Option Addr) (n2 c2:Nat) (x:List Nat) (hn:x.length=n2) (hr:Rd .u8 W W.heap.size A2 c2 x) (hwl:s.waits.length≤100000) (hops:s.ops≤1000000000) :
  Calls Tryz.prog 103 #[.pointer (some ⟨gd,0,none⟩),.int .i64 i,.slice A2 n2 c2] W fun e w'=>e = .returned (.int .i64 ((s.write i x).2:Nat))∧DJ w F gd (s.write i x).1 w'∧KeepsOthers W w' :=
 (disk_writeO h.1 i A2 n2 c2 x hn hr hwl hops).mono fun e w' q=>⟨q.1,h.step q.2.1 q.2.2.1,q.2.2.2⟩
end
theorem DJ.flushO {w W:World} {F:Nat→Prop} {gd:Nat} {s:Dk} (h:DJ w F gd s W) (hwl:s.waits.length≤100000) (hops:s.ops≤1000000000) :
  Calls Tryz.prog 105 #[.pointer (some ⟨gd,0,none⟩)] W fun e w'=>e = .returned (.int .i64 (s.flush.2:Nat))∧DJ w F gd s.flush.1 w'∧KeepsOthers W w' :=
 (disk_flushO h.1 hwl hops).mono fun e w' q=>⟨q.1,h.step q.2.1 q.2.2.1,q.2.2.2⟩
/-! All places, one after the other. -/
set_option maxRecDepth 100000 in
theorem places_any (w:World) (gd:Nat):Calls Tryz.prog 104 #[.pointer (some ⟨gd,0,none⟩)] w fun e w'=>e = .returned (.func (.func 123) #[] #[.pointer (some ⟨w.heap.size,0,none⟩)])∧w'=w.alloc (.cells #[.pointer (some ⟨gd,0,none⟩)] 23):=by
 go_enter Tryz.func104,Tryz.ntmps104
 go_wp2_with fail
 go_ret
 exact ⟨rfl,rfl⟩
def RelPl (J:List (Fin 2000)→World→Prop) (m:Nat) (i:Value) (wr:World):Prop :=
 ∃ (k:Nat) (pre:List (Fin 2000)),k≤m∧i = .int .i64 k∧Hid (pre.map Fin.val=List.range k)∧J pre wr
theorem range_pre {k m:Nat} (h:k≤m):List.range k <+: List.range m:=by
 refine ⟨(List.range (m - k)).map (k + ·),?_⟩
 rw [←List.range_add,Nat.add_sub_cancel' h]
def plv (i:Fin 2000):Array Value:=#[.int .i64 ((i.val:Nat):Int)]
set_option maxRecDepth 100000 in
set_option maxHeartbeats 2000000 in
theorem places_stops {w:World} {F:Nat→Prop} {gd:Nat} {s:Dk} (hd:Disk w F gd s) (bx:Nat) (hb:Holds w bx 23 #[.pointer (some ⟨gd,0,none⟩)]) :
  SeqStopsK Fence.wide 2 Tryz.prog 123 #[.pointer (some ⟨bx,0,none⟩)] plv (fun _ _=>True) (fun xs=>xs.map Fin.val=List.range s.many) (fun pre=>pre.map Fin.val <+: List.range s.many) s.many w:=fun l J Jx W hW hJ hJx hY h0=>by
 have hdW:=(DJ.start hd).below hW
 have HM:=Lib.hid (callsIn_wide (n:=1).2 (jmany hdW.1))
 have hm2:s.many≤2000:=by have:=hd.len.2.2;unfold Dk.many;omega
 have z0:W.cell? ⟨bx,0,none⟩=some (.pointer (some ⟨gd,0,none⟩)):=(hb.under hW hb.lt).cell 0
 clear hd hb hdW hW
 generalize s.many=m at *
 refine callsIn_of_wp Tryz.func123 rfl trivial ?_ rfl
 simp only [Tryz.ntmps123,List.size_toArray,List.length_cons,List.length_nil,Nat.reduceAdd,Nat.reduceSub,Array.replicate_succ,Array.replicate_zero,List.push_toArray,List.append_toArray,List.nil_append,List.cons_append]
 gi_wp2_with (refine ⟨trivial,?_⟩;gi_at_call 34;refine HM.out.mono ?_;rintro e w1 ⟨rfl,rfl⟩)
 clear z0 HM
 gi_loopw [6] (fun i wr=>RelPl J m i wr) (fun i _=>m - (intOf i).toNat)
 case atStart=>exact ⟨0,[],Nat.zero_le _,rfl,Lib.hid rfl,h0⟩
 case round =>
  obtain ⟨k,pre,hk,rfl,HPRE,hj⟩:=hrel
  obtain ⟨V,hV⟩:∃ V,V=wr:=⟨_,rfl⟩
  subst hV
  by_cases hlt:k<m
  case pos =>
   have hkI:(k:Int)<(m:Int):=by omega
   have hk0:(0:Int)≤(k:Int):=by omega
   have hpl:pre.length=k:=by have:=congrArg List.length HPRE.out;simpa using this
   have HPN:Hid ((pre ++ [(⟨k,by omega⟩:Fin 2000)]).map Fin.val=List.range (k+1)):=Lib.hid (by rw [List.map_append,HPRE.out,List.range_succ];rfl)
   have hyy:=hY pre ⟨k,by omega⟩ V hj (by omega)
   have hkw:IntKind.i64.wrap ((k:Int)+1)=(k:Int)+1:=IntWalk.i64_in _ (by omega)
   rw [show plv ⟨k,by omega⟩=#[.int .i64 (k:Int)] from rfl] at hyy
   obtain ⟨fn,tmps,assign,bdy,hyr,hR⟩:=hyy
   generalize pre ++ [(⟨k,by omega⟩:Fin 2000)]=pr at *
   clear hpl hj hY h0
   gi_wp2_with (refine hR.mono ?_;clear hR;rintro e W2 (⟨rfl,hJ2,_⟩ | ⟨rfl,hx2⟩))
   ·go_roundw
    case rel=>exact ⟨k+1,pr,by omega,by go_num,HPN,hJ2⟩
    case measure=>simp [intOf];omega
   ·exact bodyPost_ret (v:=.tuple #[]) (by simp [results,Tryz.results123,go_sem]) rfl ⟨⟨_,rfl⟩,.inr ⟨pr,by rw [HPN.out];exact range_pre (by omega),hx2⟩⟩
  case neg =>
   obtain rfl:k=m:=by omega
   have hkI:¬ ((k:Int)<(k:Int)):=by omega
   gi_wp2
   go_end0
   exact ⟨⟨_,rfl⟩,.inl ⟨pre,HPRE.out,hj⟩⟩
end Go.Proofs.YtnedpkhehiijhaaGreat
