/- Words and laws for the statement, part 2. -/
import Derived.Test.YtcibjcgipfpniaaGreatDoorChecked
import Derived.WalkKit
import Derived.WalkSpells
import Derived.WalkLawsBesides
import Derived.IntWalk
import Derived.Outline
import Derived.BigQuiet
import Derived.Deep.QuietTactic
import Derived.Lib.Strings
import Derived.Lib.Slices
import Derived.Lib.Small
import Derived.Lib.Walk
import Derived.Lib.BitFns
import Derived.Lib.ItoaNum
import Derived.RegionTactic
import Derived.ChangeAlike
import Derived.Laws.BitsAllLaws
import Derived.BigRegion
import Derived.Laws.Tables
import Derived.Laws.CopyOwn
import Derived.Deep.RegionLaw
import Derived.Deep.DrawnRows
import Derived.Deep.WholeRow
import Derived.Test.YtcibjcgipfpniaaGreatDoorG01
namespace Go.Proofs.YtcibjcgipfpniaaGreatDoor
open Go.RowKit

set_option maxRecDepth 100000 in
theorem trim_any (w:World) (B:Nat) (A:Option Addr) (c:Nat) (l:List Nat) (hr:Rd .u32 w B A c l):Calls Tryz.prog 72 #[.slice A l.length c] w fun e w'=>e = .returned (.slice A (tlen l l.length) c)∧w=w':=by
 obtain ⟨n0,hn0⟩:∃ n,n=l.length:=⟨_,rfl⟩
 have hlc:l.length≤c:=hr.1
 have hc63:c≤9223372036854775807:=hr.2.1
 go_enter Tryz.func72,Tryz.ntmps72
 go_wp2_with fail
 go_loop [0] (fun s=>∃ n:Nat,n≤l.length∧s = .slice A n c∧tlen l l.length=tlen l n) (fun s=>match s with | .slice _ n _=>n | _=>0)
 case atStart=>exact ⟨_,Nat.le_refl _,rfl,rfl⟩
 case round =>
  obtain ⟨n,hn,rfl,ht⟩:=hrel
  have Ht:=Lib.hid ht
  clear ht
  rcases n with _ | m
  ·go_wp2_with fail
   go_ret
   exact ⟨by rw [Ht.out];rfl,rfl⟩
  ·obtain ⟨b,off,x,rfl,hb,hx,Hx⟩:=hr.at_ (i:=m) (by omega)
   by_cases h0:x=0
   ·have Hs:=Lib.hid (tlen_drop l m (by rw [←Hx.out,h0]))
    subst h0
    go_wp2_with fail
    go_round
    case rel=>exact ⟨m,by omega,rfl,by rw [Ht.out,Hs.out]⟩
    case measure=>simp
   ·have Hs:=Lib.hid (tlen_stay l m (by rw [←Hx.out];exact h0))
    have hq:((x:Int) == 0)=false:=by simp;omega
    clear h0
    go_wp2_with fail
    go_ret
    exact ⟨by rw [Ht.out,Hs.out];rfl,rfl⟩
set_option maxRecDepth 100000 in
theorem trim'_any (w:World) (B:Nat) (A:Option Addr) (c:Nat) (l:List Nat) (hr:Rd .u32 w B A c l):Calls Tryz.prog 136 #[.slice A l.length c] w fun e w'=>e = .returned (.slice A (tlen l l.length) c)∧w=w':=by
 obtain ⟨n0,hn0⟩:∃ n,n=l.length:=⟨_,rfl⟩
 have hlc:l.length≤c:=hr.1
 have hc63:c≤9223372036854775807:=hr.2.1
 go_enter Tryz.func136,Tryz.ntmps136
 go_wp2_with fail
 go_loop [0] (fun s=>∃ n:Nat,n≤l.length∧s = .slice A n c∧tlen l l.length=tlen l n) (fun s=>match s with | .slice _ n _=>n | _=>0)
 case atStart=>exact ⟨_,Nat.le_refl _,rfl,rfl⟩
 case round =>
  obtain ⟨n,hn,rfl,ht⟩:=hrel
  have Ht:=Lib.hid ht
  clear ht
  rcases n with _ | m
  ·go_wp2_with fail
   go_ret
   exact ⟨by rw [Ht.out];rfl,rfl⟩
  ·obtain ⟨b,off,x,rfl,hb,hx,Hx⟩:=hr.at_ (i:=m) (by omega)
   by_cases h0:x=0
   ·have Hs:=Lib.hid (tlen_drop l m (by rw [←Hx.out,h0]))
    subst h0
    go_wp2_with fail
    go_round
    case rel=>exact ⟨m,by omega,rfl,by rw [Ht.out,Hs.out]⟩
    case measure=>simp
   ·have Hs:=Lib.hid (tlen_stay l m (by rw [←Hx.out];exact h0))
    have hq:((x:Int) == 0)=false:=by simp;omega
    clear h0
    go_wp2_with fail
    go_ret
    exact ⟨by rw [Ht.out,Hs.out];rfl,rfl⟩
set_option maxRecDepth 100000 in
theorem is_any (w:World) (B:Nat) (A:Option Addr) (c:Nat) (l:List Nat) (hr:Rd .u32 w B A c l) (v:Bool) (hv:okN l=v):Calls Tryz.prog 69 #[.slice A l.length c] w fun e w'=>e = .returned (.bool v)∧w=w':=by
 have hlc:l.length≤c:=hr.1
 have hc63:c≤9223372036854775807:=hr.2.1
 by_cases h1:l.length≤256
 ·rcases hl:l.length with _ | m
  ·have Hv:=Lib.hid (show v=true by rw [←hv];simp [okN,hl])
   clear hv hl
   go_enter Tryz.func69,Tryz.ntmps69
   go_wp2_with fail
   go_ret
   exact ⟨by rw [Hv.out];rfl,rfl⟩
  ·obtain ⟨b,off,x,rfl,hb,hx,Hx⟩:=hr.at_ (i:=m) (by omega)
   have h1':m+1≤256:=by omega
   have h1'':decide ((m:Int)+1≤256)=true:=by simp;omega
   have h2':((m:Int)+1 == 0)=false:=by simp;omega
   have Hv:=Lib.hid (show v = !(x == 0) by rw [←hv,Hx.out];simp [okN,hl];omega)
   clear hv hl h1
   by_cases h0:x=0
   ·subst h0
    go_enter Tryz.func69,Tryz.ntmps69
    go_wp2_with fail
    go_ret
    exact ⟨by rw [Hv.out];rfl,rfl⟩
   ·have hq:((x:Int) != 0)=true:=by simp;omega
    go_enter Tryz.func69,Tryz.ntmps69
    go_wp2_with fail
    go_ret
    exact ⟨by rw [Hv.out];simp [h0],rfl⟩
 ·have Hv:=Lib.hid (show v=false by rw [←hv];simp [okN,h1])
  have h1':decide ((l.length:Int)≤256)=false:=by simp;omega
  clear hv
  go_enter Tryz.func69,Tryz.ntmps69
  go_wp2_with fail
  go_ret
  exact ⟨by rw [Hv.out];rfl,rfl⟩
set_option maxRecDepth 100000 in
theorem is'_any (w:World) (B:Nat) (A:Option Addr) (c:Nat) (l:List Nat) (hr:Rd .u32 w B A c l) (v:Bool) (hv:okN l=v):Calls Tryz.prog 61 #[.slice A l.length c] w fun e w'=>e = .returned (.bool v)∧w=w':=by
 have hlc:l.length≤c:=hr.1
 have hc63:c≤9223372036854775807:=hr.2.1
 by_cases h1:l.length≤256
 ·rcases hl:l.length with _ | m
  ·have Hv:=Lib.hid (show v=true by rw [←hv];simp [okN,hl])
   clear hv hl
   go_enter Tryz.func61,Tryz.ntmps61
   go_wp2_with fail
   go_ret
   exact ⟨by rw [Hv.out];rfl,rfl⟩
  ·obtain ⟨b,off,x,rfl,hb,hx,Hx⟩:=hr.at_ (i:=m) (by omega)
   have h1':m+1≤256:=by omega
   have h1'':decide ((m:Int)+1≤256)=true:=by simp;omega
   have h2':((m:Int)+1 == 0)=false:=by simp;omega
   have Hv:=Lib.hid (show v = !(x == 0) by rw [←hv,Hx.out];simp [okN,hl];omega)
   clear hv hl h1
   by_cases h0:x=0
   ·subst h0
    go_enter Tryz.func61,Tryz.ntmps61
    go_wp2_with fail
    go_ret
    exact ⟨by rw [Hv.out];rfl,rfl⟩
   ·have hq:((x:Int) != 0)=true:=by simp;omega
    go_enter Tryz.func61,Tryz.ntmps61
    go_wp2_with fail
    go_ret
    exact ⟨by rw [Hv.out];simp [h0],rfl⟩
 ·have Hv:=Lib.hid (show v=false by rw [←hv];simp [okN,h1])
  have h1':decide ((l.length:Int)≤256)=false:=by simp;omega
  clear hv
  go_enter Tryz.func61,Tryz.ntmps61
  go_wp2_with fail
  go_ret
  exact ⟨by rw [Hv.out];rfl,rfl⟩
theorem sign_yes (w:World):Calls Tryz.prog 73 #[.bool true] w fun e w'=>e = .returned (.int .i64 (-1))∧w=w':=by
 go_enter Tryz.func73,Tryz.ntmps73
 go_wp2_with fail
 go_ret
 exact ⟨rfl,rfl⟩
theorem sign_no (w:World):Calls Tryz.prog 73 #[.bool false] w fun e w'=>e = .returned (.int .i64 1)∧w=w':=by
 go_enter Tryz.func73,Tryz.ntmps73
 go_wp2_with fail
 go_ret
 exact ⟨rfl,rfl⟩
theorem trim_at (w:World) (B:Nat) (A:Option Addr) (c n:Nat) (l:List Nat) (hr:Rd .u32 w B A c l) (hn:l.length=n):Calls Tryz.prog 72 #[.slice A n c] w fun e w'=>e = .returned (.slice A (trl l).length c)∧w=w':=by
 subst hn
 rw [trl_length]
 exact trim_any w B A c l hr
theorem trim'_at (w:World) (B:Nat) (A:Option Addr) (c n:Nat) (l:List Nat) (hr:Rd .u32 w B A c l) (hn:l.length=n):Calls Tryz.prog 136 #[.slice A n c] w fun e w'=>e = .returned (.slice A (trl l).length c)∧w=w':=by
 subst hn
 rw [trl_length]
 exact trim'_any w B A c l hr
end Go.Proofs.YtcibjcgipfpniaaGreatDoor
namespace Go.Proofs.YtcibjcgipfpniaaGreatDoor
open Go.RowKit

set_option maxRecDepth 100000 in
theorem cmp'_any (w:World) (B B':Nat) (A A':Option Addr) (c c':Nat) (l l':List Nat) (hr:Rd .u32 w B A c l) (hr':Rd .u32 w B' A' c' l') (v:Int) (hv:cmpL l l'=v) :
  Calls Tryz.prog 23 #[.slice A l.length c,.slice A' l'.length c'] w fun e w'=>e = .returned (.int .i64 v)∧∃ q,w'=w.drewN q:=by
 have hlc:l.length≤c:=hr.1
 have hc63:c≤9223372036854775807:=hr.2.1
 have hlc':l'.length≤c':=hr'.1
 have hc63':c'≤9223372036854775807:=hr'.2.1
 by_cases h1:l.length<l'.length
 ·have Hv:=Lib.hid (show v = -1 by rw [←hv,cmpL,if_pos h1])
  clear hv
  have hq:((l.length:Int) != (l'.length:Int))=true:=by simp;omega
  go_enter Tryz.func23,Tryz.ntmps23
  go_wp2_with fail
  go_ret
  exact ⟨by rw [Hv.out];rfl,0,rfl⟩
 by_cases h2:l'.length<l.length
 ·have Hv:=Lib.hid (show v=1 by rw [←hv,cmpL,if_neg h1,if_pos h2])
  clear hv
  have hq:((l.length:Int) != (l'.length:Int))=true:=by simp;omega
  go_enter Tryz.func23,Tryz.ntmps23
  go_wp2_with fail
  go_ret
  exact ⟨by rw [Hv.out];rfl,0,rfl⟩
 have Hv:=Lib.hid (show v=cmpTop l l' l.length by rw [←hv,cmpL,if_neg h1,if_neg h2])
 clear hv
 have Hl:=Lib.hid (show l'.length=l.length by omega)
 have hq:((l.length:Int) != (l'.length:Int))=false:=by simp;omega
 clear h1 h2
 go_enter Tryz.func23,Tryz.ntmps23
 go_wp2_with fail
 go_loopw [5] (fun s wr=>∃ n q:Nat,n≤l.length∧s = .int .i64 ((n:Int) - 1)∧wr=w.drewN q∧cmpTop l l' l.length=cmpTop l l' n) (fun s _=>(intOf s+1).toNat)
 case atStart=>exact ⟨_,0,Nat.le_refl _,rfl,rfl,rfl⟩
 case round =>
  obtain ⟨n,q,hn,rfl,rfl,ht⟩:=hrel
  have Ht:=Lib.hid ht
  clear ht
  rcases n with _ | m
  ·go_wp2_with fail
   go_ret
   exact ⟨by rw [Hv.out,Ht.out];rfl,q,rfl⟩
  ·obtain ⟨b,off,x,rfl,hb,hx,Hx⟩:=hr.at_ (i:=m) (by omega)
   obtain ⟨b',off',x',rfl,hb',hx',Hx'⟩:=hr'.at_ (i:=m) (by have:=Hl.out;omega)
   have hm1:(m:Int)<l.length:=by omega
   have hm2:(m:Int)<l'.length:=by have:=Hl.out;omega
   rw [show (((m+1:Nat):Int) - 1)=(m:Int) from by omega]
   by_cases h0:x=x'
   ·have Hs:=Lib.hid (cmpTop_same l l' m (by rw [←Hx.out,←Hx'.out,h0]))
    subst h0
    go_wp2_with fail
    go_quiet (fail)
    go_wp2_with fail
    go_roundw
    case rel=>exact ⟨m,_,by omega,rfl,rfl,by rw [Ht.out,Hs.out]⟩
    case measure=>simp [intOf]
   ·have hq2:((x:Int) != (x':Int))=true:=by simp;omega
    by_cases h3:x<x'
    ·have Hs:=Lib.hid (cmpTop_less l l' m (by rw [←Hx.out,←Hx'.out];exact h3))
     go_wp2_with fail
     go_quiet (fail)
     go_wp2_with fail
     go_quiet (fail)
     go_wp2_with fail
     go_ret
     exact ⟨by rw [Hv.out,Ht.out,Hs.out];rfl,_,by rw [World.drewN_drewN,World.drewN_drewN]⟩
    ·have Hs:=Lib.hid (cmpTop_more l l' m (by rw [←Hx.out,←Hx'.out];omega))
     go_wp2_with fail
     go_quiet (fail)
     go_wp2_with fail
     go_quiet (fail)
     go_wp2_with fail
     go_ret
     exact ⟨by rw [Hv.out,Ht.out,Hs.out];rfl,_,by rw [World.drewN_drewN,World.drewN_drewN]⟩

set_option maxRecDepth 100000 in
theorem cmp_any (w:World) (B B':Nat) (A A':Option Addr) (c c':Nat) (l l':List Nat) (hr:Rd .u32 w B A c l) (hr':Rd .u32 w B' A' c' l') (v:Int) (hv:cmpL (trl l) (trl l')=v) :
  Calls Tryz.prog 30 #[.slice A l.length c,.slice A' l'.length c'] w fun e w'=>e = .returned (.int .i64 v)∧∃ q,w'=w.drewN q:=by
 have ht:Rd .u32 w B A c (trl l):=hr.cut _
 have ht':Rd .u32 w B' A' c' (trl l'):=hr'.cut _
 have el:=trl_length l
 have el':=trl_length l'
 go_enter Tryz.func30,Tryz.ntmps30
 go_wp2_with fail
 refine (trim_any w B A c l hr).mono ?_
 rintro e w1 ⟨rfl,rfl⟩
 go_wp2_with fail
 refine (trim_any w B' A' c' l' hr').mono ?_
 rintro e w1 ⟨rfl,rfl⟩
 rw [←el,←el']
 generalize trl l=t at *
 generalize trl l'=t' at *
 clear el el' hr hr'
 have hlc:t.length≤c:=ht.1
 have hc63:c≤9223372036854775807:=ht.2.1
 have hlc':t'.length≤c':=ht'.1
 have hc63':c'≤9223372036854775807:=ht'.2.1
 by_cases h1:t.length<t'.length
 ·have Hv:=Lib.hid (show v = -1 by rw [←hv,cmpL,if_pos h1])
  clear hv
  have hq:((t.length:Int) != (t'.length:Int))=true:=by simp;omega
  go_wp2_with fail
  refine (sign_yes _).mono ?_
  rintro e w1 ⟨rfl,rfl⟩
  go_wp2_with fail
  go_ret
  exact ⟨by rw [Hv.out];rfl,0,rfl⟩
 by_cases h2:t'.length<t.length
 ·have Hv:=Lib.hid (show v=1 by rw [←hv,cmpL,if_neg h1,if_pos h2])
  clear hv
  have hq:((t.length:Int) != (t'.length:Int))=true:=by simp;omega
  have hq2:decide ((t.length:Int)<(t'.length:Int))=false:=by simp;omega
  go_wp2_with fail
  refine (sign_no _).mono ?_
  rintro e w1 ⟨rfl,rfl⟩
  go_wp2_with fail
  go_ret
  exact ⟨by rw [Hv.out];rfl,0,rfl⟩
 have Hv:=Lib.hid (show v=cmpTop t t' t.length by rw [←hv,cmpL,if_neg h1,if_neg h2])
 clear hv
 have Hl:=Lib.hid (show t'.length=t.length by omega)
 have hq:((t.length:Int) != (t'.length:Int))=false:=by simp;omega
 clear h1 h2
 go_wp2_with fail
 go_loopw [5] (fun s wr=>∃ n q:Nat,n≤t.length∧s = .int .i64 ((n:Int) - 1)∧wr=w.drewN q∧cmpTop t t' t.length=cmpTop t t' n) (fun s _=>(intOf s+1).toNat)
 case atStart=>exact ⟨_,0,Nat.le_refl _,rfl,rfl,rfl⟩
 case round =>
  obtain ⟨n,q,hn,rfl,rfl,htt⟩:=hrel
  have Ht:=Lib.hid htt
  clear htt
  rcases n with _ | m
  ·go_wp2_with fail
   go_ret
   exact ⟨by rw [Hv.out,Ht.out];rfl,q,rfl⟩
  ·obtain ⟨b,off,x,rfl,hb,hx,Hx⟩:=ht.at_ (i:=m) (by omega)
   obtain ⟨b',off',x',rfl,hb',hx',Hx'⟩:=ht'.at_ (i:=m) (by have:=Hl.out;omega)
   have hm1:(m:Int)<t.length:=by omega
   have hm2:(m:Int)<t'.length:=by have:=Hl.out;omega
   rw [show (((m+1:Nat):Int) - 1)=(m:Int) from by omega]
   by_cases h0:x=x'
   ·have Hs:=Lib.hid (cmpTop_same t t' m (by rw [←Hx.out,←Hx'.out,h0]))
    subst h0
    go_wp2_with fail
    go_quiet (fail)
    go_wp2_with fail
    go_roundw
    case rel=>exact ⟨m,_,by omega,rfl,rfl,by rw [Ht.out,Hs.out]⟩
    case measure=>simp [intOf]
   ·have hq2:((x:Int) != (x':Int))=true:=by simp;omega
    by_cases h3:x<x'
    ·have Hs:=Lib.hid (cmpTop_less t t' m (by rw [←Hx.out,←Hx'.out];exact h3))
     go_wp2_with fail
     go_quiet (fail)
     go_wp2_with fail
     go_quiet ((go_at_call 73;exact quiet_on (fun W=>sign_yes W)))
     go_wp2_with fail
     go_ret
     exact ⟨by rw [Hv.out,Ht.out,Hs.out];rfl,_,by rw [World.drewN_drewN,World.drewN_drewN]⟩
    ·have Hs:=Lib.hid (cmpTop_more t t' m (by rw [←Hx.out,←Hx'.out];omega))
     have hq3:decide ((x:Int)<(x':Int))=false:=by simp;omega
     go_wp2_with fail
     go_quiet (fail)
     go_wp2_with fail
     go_quiet ((go_at_call 73;exact quiet_on (fun W=>sign_no W)))
     go_wp2_with fail
     go_ret
     exact ⟨by rw [Hv.out,Ht.out,Hs.out];rfl,_,by rw [World.drewN_drewN,World.drewN_drewN]⟩
end Go.Proofs.YtcibjcgipfpniaaGreatDoor
namespace Go.Proofs.YtcibjcgipfpniaaGreatDoor
open Go.RowKit
set_option linter.unusedVariables false

theorem info_u32:(Tryz.prog.info? 59).map (fun i=>(i.zero,i.size,i.bytes))=some (some (.int .u32 0),1,4):=by kernel_rfl
/-- What 'make' lays: noughts. -/
theorem make_nat (z:Int) (n:Nat) (hz:z=n) (hn:n≤1000000) (W:World):(Instr.makeSlice 42 (.int .i64 z) (.int .i64 z)).run Tryz.prog W = .ok (.slice (some ⟨W.heap.size,0,none⟩) n n) (W.alloc (.cells (nums .u32 (List.replicate n 0)) 59)):=by
 obtain ⟨i0,hi,hz0,hz1,hz2⟩:=info_parts info_u32
 have h:=run_make (P:=Tryz.prog) W 42 59 i0 (.int .u32 0) Tryz.underlying42 hi hz0 .i64 .i64 (n:Int) (n:Int) (by omega) (by omega) (by rw [hz2];omega) (by omega)
 rw [hz,h,hz1,nums_noughts]
 simp [Value.cells]
theorem make_bytes (z:Int) (n:Nat) (hz:z=n) (hn:n≤1000000) (W:World):(Instr.makeSlice 24 (.int .i64 z) (.int .i64 z)).run Tryz.prog W = .ok (.slice (some ⟨W.heap.size,0,none⟩) n n) (W.alloc (.cells (nums .u8 (List.replicate n 0)) 5)):=by
 obtain ⟨i0,hi,hz0,hz1,hz2⟩:=info_parts info_u8
 have h:=run_make (P:=Tryz.prog) W 24 5 i0 (.int .u8 0) Tryz.underlying24 hi hz0 .i64 .i64 (n:Int) (n:Int) (by omega) (by omega) (by rw [hz2];omega) (by omega)
 rw [hz,h,hz1,nums_noughts]
 simp [Value.cells]

/-- An answer in new memory: the digits r, writable. -/
def Fresh (k:IntKind) (T:TypeId) (w':World) (B:Nat) (A:Option Addr) (c:Nat) (r:List Nat):Prop :=
 Rd k w' w'.heap.size A c r∧(0<r.length→∃ g L,A=some ⟨g,0,none⟩∧B≤g∧Row k T w' g L∧r=L.take r.length)

theorem fresh_row {k:IntKind} {T:TypeId} {w':World} {B g n c:Nat} {L:List Nat} (h:Row k T w' g L) (hB:B≤g) (hn:n≤L.length) (hc:n≤c) (h63:c≤9223372036854775807):Fresh k T w' B (some ⟨g,0,none⟩) c (L.take n) :=
 ⟨(h.rd hn hc h63).more (Holds.lt h),fun _=>⟨g,L,rfl,hB,h,by rw [List.length_take,Nat.min_eq_left hn]⟩⟩

theorem fresh_trl {k:IntKind} {T:TypeId} {w':World} {B g c:Nat} {L:List Nat} (h:Row k T w' g L) (hB:B≤g) (hc:L.length≤c) (h63:c≤9223372036854775807):Fresh k T w' B (some ⟨g,0,none⟩) c (trl L) :=
 fresh_row h hB (tlen_le L _) (Nat.le_trans (tlen_le L _) hc) h63
theorem rd_whole {k:IntKind} {T:TypeId} {w:World} {g c:Nat} {L:List Nat} (h:Row k T w g L) (hc:L.length≤c) (h63:c≤9223372036854775807):Rd k w (g+1) (some ⟨g,0,none⟩) c L:=by
 have:=h.rd (Nat.le_refl _) hc h63
 rwa [List.take_length] at this

end Go.Proofs.YtcibjcgipfpniaaGreatDoor
namespace Go.Proofs.YtcibjcgipfpniaaGreatDoor
open Go.RowKit
set_option linter.unusedVariables false

theorem tab_at (e:Int) (h0:0≤e) (h1:e≤255) (w:World):(Instr.index 9 (.string Lib.len8tab) (.int .u8 e)).run Tryz.prog w = .ok (.int .u8 ((Lib.bitLen e.toNat:Nat):Int)) w:=by
 rw [Lib.run_index_len8tab w 9 .u8 e Tryz.underlying9 h0 h1,Lib.len8_of e h0 h1]

set_option maxRecDepth 100000 in
theorem len32_any (n:Nat) (w:World) (hn:n<4294967296):Calls Tryz.prog 105 #[.int .u32 n] w fun e w'=>e = .returned (.int .i64 (Lib.bitLen n:Int))∧w=w':=by
 obtain ⟨x,hx⟩:∃ x:Int,x=(n:Int):=⟨_,rfl⟩
 have e0:n=x.toNat:=by omega
 rw [←hx,e0]
 have h0:0≤x:=by omega
 have h1:x≤4294967295:=by omega
 clear e0 hx hn
 by_cases c1:65536≤x
 ·by_cases c2:256≤x / 65536
  ·have hix:=tab_at (x / 65536 / 256) (by omega) (by omega)
   have hk:=Lib.bitLen_le8' (x / 65536 / 256) (by omega) (by omega)
   have hs:=Lib.hid (Lib.bitLen_shift24 x.toNat (by omega) (by omega))
   have he:x.toNat / 16777216=(x / 65536 / 256).toNat:=by omega
   rw [he] at hs
   clear he
   generalize Lib.bitLen (x / 65536 / 256).toNat=k at *
   go_enter Tryz.func105,Tryz.ntmps105
   go_wp2_with fail
   go_ret
   exact ⟨by rw [hs.out];exact congrArg Ending.returned (congrArg (Value.int IntKind.i64) (by omega)),rfl⟩
  ·have hix:=tab_at (x / 65536) (by omega) (by omega)
   have hk:=Lib.bitLen_le8' (x / 65536) (by omega) (by omega)
   have hs:=Lib.hid (Lib.bitLen_shift16 x.toNat (by omega) (by omega))
   have he:x.toNat / 65536=(x / 65536).toNat:=by omega
   rw [he] at hs
   clear he
   generalize Lib.bitLen (x / 65536).toNat=k at *
   go_enter Tryz.func105,Tryz.ntmps105
   go_wp2_with fail
   go_ret
   exact ⟨by rw [hs.out];exact congrArg Ending.returned (congrArg (Value.int IntKind.i64) (by omega)),rfl⟩
 ·by_cases c2:256≤x
  ·have hix:=tab_at (x / 256) (by omega) (by omega)
   have hk:=Lib.bitLen_le8' (x / 256) (by omega) (by omega)
   have hs:=Lib.hid (Lib.bitLen_shift8 x.toNat (by omega) (by omega))
   have he:x.toNat / 256=(x / 256).toNat:=by omega
   rw [he] at hs
   clear he
   generalize Lib.bitLen (x / 256).toNat=k at *
   go_enter Tryz.func105,Tryz.ntmps105
   go_wp2_with fail
   go_ret
   exact ⟨by rw [hs.out];exact congrArg Ending.returned (congrArg (Value.int IntKind.i64) (by omega)),rfl⟩
  ·have hix:=tab_at x (by omega) (by omega)
   have hk:=Lib.bitLen_le8' x (by omega) (by omega)
   generalize Lib.bitLen x.toNat=k at *
   go_enter Tryz.func105,Tryz.ntmps105
   go_wp2_with fail
   go_ret
   exact ⟨congrArg Ending.returned (congrArg (Value.int IntKind.i64) (by omega)),rfl⟩

/-- How many digits of two: of the last digit, and 32 for each below it. -/
def nb (l:List Nat):Nat:=if l.length=0 then 0 else 32*(l.length - 1)+Lib.bitLen (l.getD (l.length - 1) 0)
theorem nb_nil {l:List Nat} (h:l.length=0):nb l=0:=by rw [nb,if_pos h]
theorem nb_succ {l:List Nat} {m:Nat} (h:l.length=m+1):nb l=32*m+Lib.bitLen (l.getD m 0):=by
 rw [nb,if_neg (by omega),h,Nat.add_sub_cancel]

set_option maxRecDepth 100000 in
theorem bits_any (w:World) (B:Nat) (A:Option Addr) (c n:Nat) (l:List Nat) (hr:Rd .u32 w B A c l) (hn:l.length=n) (hd:Dg l) (hs:l.length≤5000) (v:Nat) (hv:nb (trl l)=v):Calls Tryz.prog 71 #[.slice A n c] w fun e w'=>e = .returned (.int .i64 (v:Int))∧w=w':=by
 have ht:Rd .u32 w B A c (trl l):=hr.cut _
 have hdt:=trl_dg hd
 have hlt:(trl l).length≤5000:=by rw [trl_length];exact Nat.le_trans (tlen_le l _) hs
 go_enter Tryz.func71,Tryz.ntmps71
 go_wp2_with fail
 refine (trim_at w B A c n l hr hn).mono ?_
 rintro e w1 ⟨rfl,rfl⟩
 generalize trl l=t at *
 rcases hm:t.length with _ | m
 ·have Hv:=Lib.hid (show v=0 by rw [←hv,nb_nil hm])
  clear hv hm hlt
  go_wp2_with fail
  go_ret
  exact ⟨by rw [Hv.out];rfl,rfl⟩
 ·have Hv:=Lib.hid (show v=32*m+Lib.bitLen (t.getD m 0) by rw [←hv,nb_succ hm])
  obtain ⟨b,off,x,rfl,hb,hx,Hx⟩:=ht.at_ (i:=m) (by omega)
  have hxl:x<4294967296:=by rw [Hx.out];exact hdt.at_ m
  have hq:((m:Int)+1 == 0)=false:=by simp;omega
  have hm':m+1≤5000:=by omega
  clear hv hm hlt
  go_wp2_with fail
  refine (len32_any x _ hxl).mono ?_
  rintro e w1 ⟨rfl,rfl⟩
  have hbl:=Lib.bitLen_le x 32 (by omega) (by omega)
  rw [←Hx.out] at Hv
  generalize Lib.bitLen x=y at *
  go_wp2_with fail
  go_ret
  exact ⟨by rw [Hv.out];exact congrArg Ending.returned (congrArg (Value.int IntKind.i64) (by omega)),rfl⟩

set_option maxRecDepth 100000 in
theorem bits'_any (w:World) (B:Nat) (A:Option Addr) (c:Nat) (l:List Nat) (hr:Rd .u32 w B A c l) (hd:Dg l) (hs:l.length≤5000) (v:Nat) (hv:nb l=v):Calls Tryz.prog 62 #[.slice A l.length c] w fun e w'=>e = .returned (.int .i64 (v:Int))∧w=w':=by
 have hlc:l.length≤c:=hr.1
 have hc63:c≤9223372036854775807:=hr.2.1
 have Hv:=Lib.hid hv.symm
 clear hv
 go_enter Tryz.func62,Tryz.ntmps62
 go_wp2_with fail
 go_loop [3,4,5] (fun sn si _=>∃ i n:Nat,i≤l.length∧si = .int .i64 i∧sn = .int .i64 n∧n≤32*i∧Hid ((i<l.length→n=32*i)∧(i=l.length→n=nb l))) (fun _ si _=>l.length - (intOf si).toNat)
 case atStart=>exact ⟨0,0,by omega,rfl,rfl,by omega,by omega,fun h=>(nb_nil h.symm).symm⟩
 case round =>
  obtain ⟨i,n,hi,rfl,rfl,hni,H⟩:=hrel
  by_cases h:i<l.length
  ·obtain ⟨b,off,x,rfl,hb,hx,Hx⟩:=hr.at_ h
   have hxl:x<4294967296:=by rw [Hx.out];exact hd.at_ i
   obtain rfl:n=32*i:=H.out.1 h
   have hbl:=Lib.bitLen_le x 32 (by omega) (by omega)
   go_wp2_with fail
   go_loop [3,5] (fun sn sx=>∃ k y:Nat,sx = .int .u32 y∧sn = .int .i64 k∧y<4294967296∧Hid (k+Lib.bitLen y=32*i+Lib.bitLen x)∧k≤32*i+32) (fun _ sx=>(intOf sx).toNat)
   case atStart=>exact ⟨_,x,rfl,by go_num,hxl,rfl,by omega⟩
   case round =>
    obtain ⟨k,y,rfl,rfl,hy,Hk,hk⟩:=hrel
    by_cases h0:y=0
    ·subst h0
     have Hk':=Lib.hid (show k=32*i+Lib.bitLen x from Hk.out)
     by_cases hl:i+1<l.length
     ·have hl':(i:Int)<(l.length:Int) - 1:=by omega
      go_wp2_with fail
      go_round
      case rel=>exact ⟨i+1,32*(i+1),by omega,by go_num,by go_num,by omega,fun _=>rfl,fun e=>by omega⟩
      case measure=>simp [intOf];omega
     ·have hl':¬ (i:Int)<(l.length:Int) - 1:=by omega
      have hk3:k≤32*(i+1):=by omega
      have Hn:=Lib.hid (show k=nb l by rw [Hk'.out,nb_succ (m:=i) (by omega),Hx.out])
      go_wp2_with fail
      go_round
      case rel=>exact ⟨i+1,k,by omega,by go_num,rfl,hk3,fun e=>by omega,fun _=>Hn.out⟩
      case measure=>simp [intOf];omega
    ·have hh:=Lib.bitLen_half y h0 (by omega)
     have Hk2:=Lib.hid (show k+1+Lib.bitLen (y / 2)=32*i+Lib.bitLen x by have:=Hk.out;omega)
     have hk2:k+1≤32*i+32:=by have:=Hk.out;omega
     clear hh
     go_wp2_with fail
     go_round
     case rel=>exact ⟨k+1,y / 2,by go_num,by go_num,by omega,Hk2,hk2⟩
     case measure=>simp [intOf];omega
  ·have Hn:=Lib.hid (show v=n by rw [Hv.out];exact (H.out.2 (by omega)).symm)
   go_wp2_with fail
   go_ret
   exact ⟨by rw [Hn.out];rfl,rfl⟩

end Go.Proofs.YtcibjcgipfpniaaGreatDoor
namespace Go.Proofs.YtcibjcgipfpniaaGreatDoor
open Go.RowKit
set_option linter.unusedVariables false

/-- The digits of bytes, the highest byte first. -/
def words (b:List Nat):List Nat:=(List.range ((b.length+3) / 4)).map (part b.reverse 0)

theorem words_length (b:List Nat):(words b).length=(b.length+3) / 4:=by simp [words]
theorem words_at (b:List Nat) {j:Nat} (h:j<(b.length+3) / 4):(words b).getD j 0=part b.reverse 0 j:=by
 simp [words,List.getD,h]
theorem words_dg {b:List Nat} (h:Oct b.reverse):Dg (words b):=fun x hx=>by
 obtain ⟨j,_,rfl⟩:=List.mem_map.1 hx
 exact part_dg h 0 j
theorem words_eq {b L:List Nat} (hl:L.length=(b.length+3) / 4) (h:∀ j,j<L.length→L.getD j 0=part b.reverse 0 j):L=words b:=by
 apply List.ext_getElem
 ·rw [hl,words_length]
 ·intro j j1 j2
  have e1:=h j j1
  have e2:=words_at b (j:=j) (by omega)
  rw [←e2] at e1
  simpa [List.getD,j1,j2] using e1
theorem or_val {r:List Nat} (ho:Oct r) {k x y:Nat} (hx:x=r.getD k 0) (hy:y=part r (k+1) (k / 4)):bits .or .u32 (y:Int) ((x:Int)*2 ^ (k % 4*8) % 4294967296)=((part r k (k / 4):Nat):Int):=by
 have hx':x<256:=by rw [hx];exact ho k
 have hs:=shl_nat x (k % 4) hx' (Nat.mod_lt _ (by omega))
 have e1:((x:Int)*2 ^ (k % 4*8) % 4294967296)=((x*2 ^ (8*(k % 4)):Nat):Int):=by
  have e2:((x:Int)*2 ^ (k % 4*8))=((x*2 ^ (8*(k % 4)):Nat):Int):=by rw [Nat.mul_comm 8];push_cast;rfl
  rw [e2]
  omega
 rw [e1,u32_or_nat y _ (by rw [hy];exact part_dg ho _ _) hs,←part_step ho k,←hx,←hy,Nat.shiftLeft_eq]
theorem or_val' {r:List Nat} (ho:Oct r) {k x y:Nat} (hx:x=r.getD k 0) (hy:y=part r (k+1) (k / 4)):bits .or .u32 (y:Int) ((x:Int)*2 ^ (8*(k % 4)) % 4294967296)=((part r k (k / 4):Nat):Int):=by
 rw [←or_val ho hx hy,Nat.mul_comm 8]
theorem put_at {r L:List Nat} {k:Nat} (h:∀ j,j<L.length→L.getD j 0=part r (k+1) j) (hk:k / 4<L.length):∀ j,j<(L.set (k / 4) (part r k (k / 4))).length→(L.set (k / 4) (part r k (k / 4))).getD j 0=part r k j:=by
 intro j hj
 rw [List.length_set] at hj
 by_cases e:j=k / 4
 ·subst e
  simp [List.getD,hk]
 ·rw [←part_far r k j e,←h j hj]
  simp [List.getD,List.getElem?_set_ne (by omega:k / 4≠j)]

theorem start_at (l:List Nat):∀ j,j<(List.replicate ((l.length+3) / 4) 0).length→(List.replicate ((l.length+3) / 4) 0).getD j 0=part l.reverse (l.length - 0) j:=by
 intro j hj
 have hz:∀ k,l.length≤k→l.reverse.getD k 0=0:=fun k hk=>by rw [List.getD,List.getElem?_eq_none (by simpa using hk)];rfl
 have e:∀ k,(if l.length - 0≤k then l.reverse.getD k 0 else 0)=0:=fun k=>by
  split
  ·exact hz k (by omega)
  ·rfl
 unfold part
 rw [e,e,e,e]
 have hj':j<(l.length+3) / 4:=by simpa using hj
 simp [List.getD,hj']

set_option maxRecDepth 100000 in
theorem of_any (w:World) (B:Nat) (A:Option Addr) (c:Nat) (l:List Nat) (hr:Rd .u8 w B A c l) (hB:B≤w.heap.size) (ho:Oct l.reverse) (hs:l.length≤1024) :
  Calls Tryz.prog 68 #[.slice A l.length c] w fun e w'=>∃ A2 c2,e = .returned (.slice A2 (trl (words l)).length c2)∧Fresh .u32 59 w' w.heap.size A2 c2 (trl (words l))∧Below w.heap.size w w':=by
 have hlc:l.length≤c:=hr.1
 have hc63:c≤9223372036854775807:=hr.2.1
 have hlong:decide (1024<(l.length:Int))=false:=by simp;omega
 have hmk:=make_nat (((l.length:Int)+3) / 4) ((l.length+3) / 4) (by omega) (by omega)
 go_enter Tryz.func68,Tryz.ntmps68
 go_wp2_with fail
 have hR0:Row .u32 59 (w.alloc (.cells (nums .u32 (List.replicate ((l.length+3) / 4) 0)) 59)) w.heap.size (List.replicate ((l.length+3) / 4) 0):=Holds.fresh _ _ _
 clear hmk
 go_loopw [17] (fun si wr=>∃ (i:Nat) (L:List Nat),i≤l.length∧si = .int .i64 i∧Row .u32 59 wr w.heap.size L∧L.length=(l.length+3) / 4∧Hid (∀ j,j<L.length→L.getD j 0=part l.reverse (l.length - i) j)∧Below w.heap.size w wr)
  (fun si _=>l.length - (intOf si).toNat)
 case atStart=>exact ⟨0,_,by omega,rfl,hR0,by simp,start_at l,(Below.refl _ _).alloc (Nat.le_refl _) _⟩
 case round =>
  obtain ⟨i,L,hi,rfl,hR,hL,HD,hbel⟩:=hrel
  have hz:=Holds.lt hR
  have HL:=Lib.hid hL
  clear hL
  have hfr:=hR.open_
  by_cases h:i<l.length
  ·obtain ⟨b,off,x,rfl,hb,hx,Hx⟩:=(hr.under (hbel.mono hB)).at_ h
   obtain ⟨k,hk⟩:∃ k:Nat,l.length=k+1+i:=⟨l.length - 1 - i,by omega⟩
   have Hx2:=Lib.hid (show x=l.reverse.getD k 0 by rw [rev_at hk];exact Hx.out)
   have hxl:x<256:=by rw [Hx2.out];exact ho k
   have hc0:=hR.cell (i:=k / 4) (by rw [HL.out];omega)
   have HD2:=Lib.hid (show ∀ j,j<L.length→L.getD j 0=part l.reverse (k+1) j by have:=HD.out;rwa [show l.length - i=k+1 by omega] at this)
   obtain ⟨y,Hy⟩:∃ y,Hid (y=L.getD (k / 4) 0):=⟨_,rfl⟩
   rw [←Hy.out] at hc0
   have Hy2:=Lib.hid (show y=part l.reverse (k+1) (k / 4) by rw [Hy.out];exact HD2.out _ (by rw [HL.out];omega))
   have hkl:(k:Int) / 4<((l.length:Int)+3) / 4:=by omega
   have ek:(l.length:Int) - 1 - i=k:=by omega
   have hkk:l.length - (i+1)=k:=by omega
   have Hkk:=Lib.hid hkk
   clear hk hkk HD
   go_wp2_with fail
   go_region
   all_goals go_wp2_with fail
   have hst:=hR.set (k / 4) (part l.reverse k (k / 4))
   have hpa:=put_at HD2.out (by rw [HL.out];omega)
   refine ⟨⟨i+1,_,by omega,by go_num,by rw [or_val ho Hx2.out Hy2.out];exact hst,by rw [List.length_set];exact HL.out,by rw [Hkk.out];exact hpa,(hbel.setCell (Nat.le_refl _) _).drew⟩,by simp [intOf];omega⟩
  ·have hLw:L=words l:=words_eq HL.out (by have:=HD.out;rwa [show l.length - i=0 by omega] at this)
   subst hLw
   go_wp2_with fail
   refine (trim_at _ _ _ _ _ (words l) (rd_whole hR (Nat.le_of_eq HL.out) (by omega)) HL.out).mono ?_
   rintro e w1 ⟨rfl,rfl⟩
   go_wp2_with fail
   go_ret
   exact ⟨_,_,rfl,fresh_trl hR (Nat.le_refl _) (Nat.le_of_eq HL.out) (by omega),hbel⟩
set_option maxRecDepth 100000 in
theorem of'_any (w:World) (B:Nat) (A:Option Addr) (c:Nat) (l:List Nat) (hr:Rd .u8 w B A c l) (hB:B≤w.heap.size) (ho:Oct l.reverse) (hs:l.length≤1024) :
  Calls Tryz.prog 128 #[.slice A l.length c] w fun e w'=>∃ A2 c2,e = .returned (.slice A2 (trl (words l)).length c2)∧Fresh .u32 59 w' w.heap.size A2 c2 (trl (words l))∧Below w.heap.size w w':=by
 have hlc:l.length≤c:=hr.1
 have hc63:c≤9223372036854775807:=hr.2.1
 have hlong:decide (1024<(l.length:Int))=false:=by simp;omega
 have hmk:=make_nat (((l.length:Int)+3) / 4) ((l.length+3) / 4) (by omega) (by omega)
 go_enter Tryz.func128,Tryz.ntmps128
 go_wp2_with fail
 have hR0:Row .u32 59 (w.alloc (.cells (nums .u32 (List.replicate ((l.length+3) / 4) 0)) 59)) w.heap.size (List.replicate ((l.length+3) / 4) 0):=Holds.fresh _ _ _
 clear hmk
 go_loopw [4] (fun si wr=>∃ (i:Nat) (L:List Nat),i≤l.length∧si = .int .i64 i∧Row .u32 59 wr w.heap.size L∧L.length=(l.length+3) / 4∧Hid (∀ j,j<L.length→L.getD j 0=part l.reverse (l.length - i) j)∧Below w.heap.size w wr)
  (fun si _=>l.length - (intOf si).toNat)
 case atStart=>exact ⟨0,_,by omega,rfl,hR0,by simp,start_at l,(Below.refl _ _).alloc (Nat.le_refl _) _⟩
 case round =>
  obtain ⟨i,L,hi,rfl,hR,hL,HD,hbel⟩:=hrel
  have hz:=Holds.lt hR
  have HL:=Lib.hid hL
  clear hL
  have hfr:=hR.open_
  by_cases h:i<l.length
  ·obtain ⟨b,off,x,rfl,hb,hx,Hx⟩:=(hr.under (hbel.mono hB)).at_ h
   obtain ⟨k,hk⟩:∃ k:Nat,l.length=k+1+i:=⟨l.length - 1 - i,by omega⟩
   have Hx2:=Lib.hid (show x=l.reverse.getD k 0 by rw [rev_at hk];exact Hx.out)
   have hxl:x<256:=by rw [Hx2.out];exact ho k
   have hc0:=hR.cell (i:=k / 4) (by rw [HL.out];omega)
   have HD2:=Lib.hid (show ∀ j,j<L.length→L.getD j 0=part l.reverse (k+1) j by have:=HD.out;rwa [show l.length - i=k+1 by omega] at this)
   obtain ⟨y,Hy⟩:∃ y,Hid (y=L.getD (k / 4) 0):=⟨_,rfl⟩
   rw [←Hy.out] at hc0
   have Hy2:=Lib.hid (show y=part l.reverse (k+1) (k / 4) by rw [Hy.out];exact HD2.out _ (by rw [HL.out];omega))
   have hkl:(k:Int) / 4<((l.length:Int)+3) / 4:=by omega
   have ek:(l.length:Int) - 1 - i=k:=by omega
   have hkk:l.length - (i+1)=k:=by omega
   have Hkk:=Lib.hid hkk
   clear hk hkk HD
   go_wp2_with fail
   go_region
   all_goals go_wp2_with fail
   have hst:=hR.set (k / 4) (part l.reverse k (k / 4))
   have hpa:=put_at HD2.out (by rw [HL.out];omega)
   refine ⟨⟨i+1,_,by omega,by go_num,by rw [or_val' ho Hx2.out Hy2.out];exact hst,by rw [List.length_set];exact HL.out,by rw [Hkk.out];exact hpa,(hbel.setCell (Nat.le_refl _) _).drew⟩,by simp [intOf];omega⟩
  ·have hLw:L=words l:=words_eq HL.out (by have:=HD.out;rwa [show l.length - i=0 by omega] at this)
   subst hLw
   go_wp2_with fail
   refine (trim'_at _ _ _ _ _ (words l) (rd_whole hR (Nat.le_of_eq HL.out) (by omega)) HL.out).mono ?_
   rintro e w1 ⟨rfl,rfl⟩
   go_wp2_with fail
   go_ret
   exact ⟨_,_,rfl,fresh_trl hR (Nat.le_refl _) (Nat.le_of_eq HL.out) (by omega),hbel⟩
end Go.Proofs.YtcibjcgipfpniaaGreatDoor
namespace Go.Proofs.YtcibjcgipfpniaaGreatDoor
open Go.RowKit
set_option linter.unusedVariables false

/-- x turned to the right by n. -/
def rot (x n:Nat):Nat:=x / 2 ^ n ||| x*2 ^ (32 - n) % 4294967296
/-- The numbers of places by which words are turned. -/
def Turns (n:Nat):Prop:=n=2∨n=6∨n=7∨n=11∨n=13∨n=17∨n=18∨n=19∨n=22∨n=25
/-- Turned three ways, held against each other. -/
def tri (x n m l:Nat):Nat:=rot x n ^^^ rot x m ^^^ rot x l
end Go.Proofs.YtcibjcgipfpniaaGreatDoor
namespace Go.Proofs.YtcibjcgipfpniaaGreatDoor
set_option linter.unusedVariables false

/-- Word t of a block's bytes. -/
def w0 (B:List Nat) (t:Nat):Nat:=((B.getD (4*t) 0*16777216 ||| B.getD (4*t+1) 0*65536) ||| B.getD (4*t+2) 0*256) ||| B.getD (4*t+3) 0
def sg0 (x:Nat):Nat:=(rot x 7 ^^^ rot x 18) ^^^ x / 8
def sg1 (x:Nat):Nat:=(rot x 17 ^^^ rot x 19) ^^^ x / 1024
def nextW (B L:List Nat) (t:Nat):Nat :=
 if t<16 then w0 B t else (((L.getD (t - 16) 0+sg0 (L.getD (t - 15) 0)) % 4294967296+L.getD (t - 7) 0) % 4294967296+sg1 (L.getD (t - 2) 0)) % 4294967296
/-- The first words of a block. -/
def sched (B:List Nat):Nat→List Nat
 | 0=>[]
 | t+1=>sched B t ++ [nextW B (sched B t) t]
/-- The eight words of a round. -/
structure StS where
 a:Nat
 b:Nat
 c:Nat
 d:Nat
 e:Nat
 f:Nat
 g:Nat
 h:Nat
def StS.Ok (s:StS):Prop:=s.a<4294967296∧s.b<4294967296∧s.c<4294967296∧s.d<4294967296∧s.e<4294967296∧s.f<4294967296∧s.g<4294967296∧s.h<4294967296
def t1 (s:StS) (k w:Nat):Nat:=((((s.h+tri s.e 6 11 25) % 4294967296+((s.e &&& s.f) ^^^ ((4294967295 ^^^ s.e) &&& s.g))) % 4294967296+k) % 4294967296+w) % 4294967296
def t2 (s:StS):Nat:=(tri s.a 2 13 22+((s.a &&& s.b) ^^^ (s.a &&& s.c) ^^^ (s.b &&& s.c))) % 4294967296
def StS.next (s:StS) (k w:Nat):StS:=⟨(t1 s k w+t2 s) % 4294967296,s.a,s.b,s.c,(s.d+t1 s k w) % 4294967296,s.e,s.f,s.g⟩
def StS.list (s:StS):List Nat:=[s.a,s.b,s.c,s.d,s.e,s.f,s.g,s.h]
def StS.plus (s t:StS):StS:=⟨(s.a+t.a) % 4294967296,(s.b+t.b) % 4294967296,(s.c+t.c) % 4294967296,(s.d+t.d) % 4294967296,(s.e+t.e) % 4294967296,(s.f+t.f) % 4294967296,(s.g+t.g) % 4294967296,(s.h+t.h) % 4294967296⟩
/-- The words K. -/
def KL:List Nat:=[0x428a2f98,0x71374491,0xb5c0fbcf,0xe9b5dba5,0x3956c25b,0x59f111f1,0x923f82a4,0xab1c5ed5,0xd807aa98,0x12835b01,0x243185be,0x550c7dc3,0x72be5d74,0x80deb1fe,0x9bdc06a7,0xc19bf174,0xe49b69c1,0xefbe4786,0x0fc19dc6,0x240ca1cc,0x2de92c6f,0x4a7484aa,0x5cb0a9dc,0x76f988da,0x983e5152,0xa831c66d,0xb00327c8,0xbf597fc7,0xc6e00bf3,0xd5a79147,0x06ca6351,0x14292967,0x27b70a85,0x2e1b2138,0x4d2c6dfc,0x53380d13,0x650a7354,0x766a0abb,0x81c2c92e,0x92722c85,0xa2bfe8a1,0xa81a664b,0xc24b8b70,0xc76c51a3,0xd192e819,0xd6990624,0xf40e3585,0x106aa070,0x19a4c116,0x1e376c08,0x2748774c,0x34b0bcb5,0x391c0cb3,0x4ed8aa4a,0x5b9cca4f,0x682e6ff3,0x748f82ee,0x78a5636f,0x84c87814,0x8cc70208,0x90befffa,0xa4506ceb,0xbef9a3f7,0xc67178f2]
/-- The rounds. -/
def rounds6 (s:StS) (W:List Nat):Nat→StS
 | 0=>s
 | t+1=>(rounds6 s W t).next (KL.getD t 0) (W.getD t 0)
/-- One block. -/
def blk (s:StS) (B:List Nat):StS:=if B.length=64 then s.plus (rounds6 s (sched B 64) 64) else s

def M32 (L:List Nat):Prop:=∀ i,L.getD i 0<4294967296
/-- Bytes. -/
def Oct6 (B:List Nat):Prop:=∀ i,B.getD i 0<256
end Go.Proofs.YtcibjcgipfpniaaGreatDoor
namespace Go.Proofs.YtcibjcgipfpniaaGreatDoor
open Go.RowKit
set_option linter.unusedVariables false
attribute [local go_sem ↓] Go.wp_at_zero Go.wp_at_succ

/-- Block g is words of which the first k are the block's. -/
def WordsTo (l:List Nat) (w:World) (B:Nat) (A:Option Addr) (c k:Nat) (wr:World):Prop :=
 ∃ L R:List Nat,Row .u32 124 wr (w.heap.size+1) L∧L.length=64∧Hid (L.take k=sched l k)∧M32 L∧Row .u32 124 wr w.heap.size R∧R.length=64∧Rd .u8 wr B A c l∧Below w.heap.size w wr
def RelWS (l:List Nat) (w:World) (B:Nat) (A:Option Addr) (c n:Nat) (i:Value) (wr:World):Prop :=
 ∃ k:Nat,k≤n∧i = .int .i64 k∧WordsTo l w B A c k wr

def RelX (l:List Nat) (w:World) (B:Nat) (A:Option Addr) (c:Nat) (i:Value) (wr:World):Prop :=
 ∃ k:Nat,16≤k∧k≤64∧i = .int .i64 k∧WordsTo l w B A c k wr
theorem tn2:Turns 2:=.inl rfl
instance (n:Nat):Decidable (Turns n):=by unfold Turns;infer_instance
/-- x turned by a whole number of places. -/
def rotI (x:Nat) (z:Int):Nat:=rot x z.toNat
end Go.Proofs.YtcibjcgipfpniaaGreatDoor
namespace Go.Proofs.YtcibjcgipfpniaaGreatDoor
open Go.RowKit
set_option linter.unusedVariables false
attribute [local go_sem ↓] Go.wp_at_zero Go.wp_at_succ

def triI (x:Nat) (n m l:Int):Nat:=tri x n.toNat m.toNat l.toNat
/-- The words K are there. -/
def KMet (w:World):Prop:=2 < w.heap.size∧∀ t,t<64→w.cell? ⟨2,t,none⟩=some (.int .u32 ((KL.getD t 0:Nat):Int))
theorem KMet.under {w w':World} (h:KMet w) (hb:Below w.heap.size w w'):KMet w':=⟨Nat.lt_of_lt_of_le h.1 hb.size,fun t ht=>(hb.cell (p:=⟨2,t,none⟩) h.1).trans (h.2 t ht)⟩
/-- The world in which a block is begun: the words handed in, a place for the answer. -/
theorem begun (w:World) (s:StS):∃ W,W=(w.alloc (.cells (nums .u32 s.list) 95)).alloc (.cells #[Value.int IntKind.u32 0,Value.int IntKind.u32 0,Value.int IntKind.u32 0,Value.int IntKind.u32 0,Value.int IntKind.u32 0,Value.int IntKind.u32 0,Value.int IntKind.u32 0,Value.int IntKind.u32 0] 95)∧Row .u32 95 W w.heap.size s.list∧Holds W (w.heap.size+1) 95 #[Value.int IntKind.u32 0,Value.int IntKind.u32 0,Value.int IntKind.u32 0,Value.int IntKind.u32 0,Value.int IntKind.u32 0,Value.int IntKind.u32 0,Value.int IntKind.u32 0,Value.int IntKind.u32 0]∧Below w.heap.size w W∧W.heap.size=w.heap.size+2:=by
 refine ⟨_,rfl,(Holds.fresh w 95 (nums .u32 s.list)).alloc _,?_,((Below.refl _ _).alloc (Nat.le_refl _) _).alloc (by simp) _,by simp⟩
 have h:=Holds.fresh (w.alloc (.cells (nums .u32 s.list) 95)) 95 #[Value.int IntKind.u32 0,Value.int IntKind.u32 0,Value.int IntKind.u32 0,Value.int IntKind.u32 0,Value.int IntKind.u32 0,Value.int IntKind.u32 0,Value.int IntKind.u32 0,Value.int IntKind.u32 0]
 rwa [show (w.alloc (.cells (nums .u32 s.list) 95)).heap.size=w.heap.size+1 by simp] at h

/-- The first k sums are written. -/
def RelP (s S:StS) (w:World) (g6:Nat) (i:Value) (wr:World):Prop :=
 ∃ (k:Nat) (L:List Nat),k≤8∧i = .int .i64 k∧Row .u32 95 wr w.heap.size L∧L.length=8∧Hid (∀ j,j<8→L.getD j 0=if j<k then (s.plus S).list.getD j 0 else s.list.getD j 0)∧Row .u32 95 wr g6 S.list∧Holds wr (w.heap.size+1) 95 #[Value.int IntKind.u32 0,Value.int IntKind.u32 0,Value.int IntKind.u32 0,Value.int IntKind.u32 0,Value.int IntKind.u32 0,Value.int IntKind.u32 0,Value.int IntKind.u32 0,Value.int IntKind.u32 0]∧Below w.heap.size w wr
/-- A round is begun. -/
def RelR (s:StS) (l:List Nat) (w:World) (g5 g6:Nat) (i:Value) (wr:World):Prop :=
 ∃ k:Nat,k≤64∧i = .int .i64 k∧Row .u32 95 wr g6 (rounds6 s (sched l 64) k).list∧Row .u32 124 wr g5 (sched l 64)∧Row .u32 95 wr w.heap.size s.list∧Holds wr (w.heap.size+1) 95 #[Value.int IntKind.u32 0,Value.int IntKind.u32 0,Value.int IntKind.u32 0,Value.int IntKind.u32 0,Value.int IntKind.u32 0,Value.int IntKind.u32 0,Value.int IntKind.u32 0,Value.int IntKind.u32 0]∧KMet wr∧Below w.heap.size w wr

end Go.Proofs.YtcibjcgipfpniaaGreatDoor
