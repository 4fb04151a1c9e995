/-
  What nat and the document's own reckoning do with the noughts at a number's end, and what is a number. Comparing two numbers: by nat, and by the document's own reckoning. Sums: by nat, and by the document's own reckoning. How many digits of two a number has: by nat, and by the document's own reckoning; whether two numbers are one. A number out of bytes, and back: by nat, and by the document's own reckoning. A number as so many bytes: by nat, and by the document's own reckoning. What is known of bytes and numbers together: there and back.
-/
import Derived.Test.YtflfdglpljodbaaDoorChecked
import Derived.WalkKit
import Derived.WalkSpells
import Derived.WalkLawsBesides
import Derived.IntWalk
import Derived.Outline
import Derived.Test.YtflfdglpljodbaaDoorGRead
import Derived.BigQuiet
import Derived.Deep.QuietTactic
import Derived.Lib.Strings
import Derived.Lib.Slices
import Derived.Lib.Small
import Derived.Lib.Walk
import Derived.Lib.BitFns
import Derived.Lib.ItoaNum
import Derived.RegionTactic
import Derived.ChangeAlike
import Derived.Laws.BitsAllLaws
import Derived.Test.YtflfdglpljodbaaDoorGStr
import Derived.Laws.IdiomStrings
import Derived.Laws.BytesArg
set_option maxRecDepth 100000
set_option linter.unusedVariables false
set_option linter.unusedSimpArgs false
namespace Go.Proofs.YtflfdglpljodbaaDoor
open Go.RowKit
theorem trim_any (w:World) (B:Nat) (A:Option Addr) (c:Nat) (l:List Nat) (hr:Rd .u32 w B A c l):Calls Tryd.prog 85 #[.slice A l.length c] w fun e w'=>e = .returned (.slice A (tlen l l.length) c)∧w=w':=by
 obtain ⟨n0,hn0⟩:∃ n,n=l.length:=⟨_,rfl⟩
 have hlc:l.length≤c:=hr.1
 have hc63:c≤9223372036854775807:=hr.2.1
 go_enter Tryd.func85,Tryd.ntmps85
 go_wp2_with fail
 go_loop [0] (fun s=>∃ n:Nat,n≤l.length∧s = .slice A n c∧tlen l l.length=tlen l n) (fun s=>match s with | .slice _ n _=>n | _=>0)
 case atStart=>exact ⟨_,Nat.le_refl _,rfl,rfl⟩
 case round =>
  obtain ⟨n,hn,rfl,ht⟩:=hrel
  have Ht:=lH ht
  clear ht
  rcases n with _ | m
  ·go_wp2_with fail
   go_ret
   exact ⟨by rw [Ht.out];rfl,rfl⟩
  ·obtain ⟨b,off,x,rfl,hb,hx,Hx⟩:=hr.at_ (i:=m) (by omega)
   by_cases h0:x=0
   ·have Hs:=lH (tlen_drop l m (by rw [←Hx.out,h0]))
    subst h0
    go_wp2_with fail
    go_round
    case rel=>exact ⟨m,by omega,rfl,by rw [Ht.out,Hs.out]⟩
    case measure=>simp
   ·have Hs:=lH (tlen_stay l m (by rw [←Hx.out];exact h0))
    have hq:((x:Int) == 0)=false:=by simp;omega
    clear h0
    go_wp2_with fail
    go_ret
    exact ⟨by rw [Ht.out,Hs.out];rfl,rfl⟩
theorem trim'_any (w:World) (B:Nat) (A:Option Addr) (c:Nat) (l:List Nat) (hr:Rd .u32 w B A c l):Calls Tryd.prog 12 #[.slice A l.length c] w fun e w'=>e = .returned (.slice A (tlen l l.length) c)∧w=w':=by
 obtain ⟨n0,hn0⟩:∃ n,n=l.length:=⟨_,rfl⟩
 have hlc:l.length≤c:=hr.1
 have hc63:c≤9223372036854775807:=hr.2.1
 go_enter Tryd.func12,Tryd.ntmps12
 go_wp2_with fail
 go_loop [0] (fun s=>∃ n:Nat,n≤l.length∧s = .slice A n c∧tlen l l.length=tlen l n) (fun s=>match s with | .slice _ n _=>n | _=>0)
 case atStart=>exact ⟨_,Nat.le_refl _,rfl,rfl⟩
 case round =>
  obtain ⟨n,hn,rfl,ht⟩:=hrel
  have Ht:=lH ht
  clear ht
  rcases n with _ | m
  ·go_wp2_with fail
   go_ret
   exact ⟨by rw [Ht.out];rfl,rfl⟩
  ·obtain ⟨b,off,x,rfl,hb,hx,Hx⟩:=hr.at_ (i:=m) (by omega)
   by_cases h0:x=0
   ·have Hs:=lH (tlen_drop l m (by rw [←Hx.out,h0]))
    subst h0
    go_wp2_with fail
    go_round
    case rel=>exact ⟨m,by omega,rfl,by rw [Ht.out,Hs.out]⟩
    case measure=>simp
   ·have Hs:=lH (tlen_stay l m (by rw [←Hx.out];exact h0))
    have hq:((x:Int) == 0)=false:=by simp;omega
    clear h0
    go_wp2_with fail
    go_ret
    exact ⟨by rw [Ht.out,Hs.out];rfl,rfl⟩
theorem is_any (w:World) (B:Nat) (A:Option Addr) (c:Nat) (l:List Nat) (hr:Rd .u32 w B A c l) (v:Bool) (hv:okN l=v):Calls Tryd.prog 80 #[.slice A l.length c] w fun e w'=>e = .returned (.bool v)∧w=w':=by
 have hlc:l.length≤c:=hr.1
 have hc63:c≤9223372036854775807:=hr.2.1
 by_cases h1:l.length≤256
 ·rcases hl:l.length with _ | m
  ·have Hv:=lH (show v=true by rw [←hv];simp [okN,hl])
   clear hv hl
   go_enter Tryd.func80,Tryd.ntmps80
   go_wp2_with fail
   go_ret
   exact ⟨by rw [Hv.out];rfl,rfl⟩
  ·obtain ⟨b,off,x,rfl,hb,hx,Hx⟩:=hr.at_ (i:=m) (by omega)
   have h1':m+1≤256:=by omega
   have h1'':decide ((m:Int)+1≤256)=true:=by simp;omega
   have h2':((m:Int)+1 == 0)=false:=by simp;omega
   have Hv:=lH (show v = !(x == 0) by rw [←hv,Hx.out];simp [okN,hl];omega)
   clear hv hl h1
   by_cases h0:x=0
   ·subst h0
    go_enter Tryd.func80,Tryd.ntmps80
    go_wp2_with fail
    go_ret
    exact ⟨by rw [Hv.out];rfl,rfl⟩
   ·have hq:((x:Int) != 0)=true:=by simp;omega
    go_enter Tryd.func80,Tryd.ntmps80
    go_wp2_with fail
    go_ret
    exact ⟨by rw [Hv.out];simp [h0],rfl⟩
 ·have Hv:=lH (show v=false by rw [←hv];simp [okN,h1])
  have h1':decide ((l.length:Int)≤256)=false:=by simp;omega
  clear hv
  go_enter Tryd.func80,Tryd.ntmps80
  go_wp2_with fail
  go_ret
  exact ⟨by rw [Hv.out];rfl,rfl⟩
theorem is'_any (w:World) (B:Nat) (A:Option Addr) (c:Nat) (l:List Nat) (hr:Rd .u32 w B A c l) (v:Bool) (hv:okN l=v):Calls Tryd.prog 44 #[.slice A l.length c] w fun e w'=>e = .returned (.bool v)∧w=w':=by
 have hlc:l.length≤c:=hr.1
 have hc63:c≤9223372036854775807:=hr.2.1
 by_cases h1:l.length≤256
 ·rcases hl:l.length with _ | m
  ·have Hv:=lH (show v=true by rw [←hv];simp [okN,hl])
   clear hv hl
   go_enter Tryd.func44,Tryd.ntmps44
   go_wp2_with fail
   go_ret
   exact ⟨by rw [Hv.out];rfl,rfl⟩
  ·obtain ⟨b,off,x,rfl,hb,hx,Hx⟩:=hr.at_ (i:=m) (by omega)
   have h1':m+1≤256:=by omega
   have h1'':decide ((m:Int)+1≤256)=true:=by simp;omega
   have h2':((m:Int)+1 == 0)=false:=by simp;omega
   have Hv:=lH (show v = !(x == 0) by rw [←hv,Hx.out];simp [okN,hl];omega)
   clear hv hl h1
   by_cases h0:x=0
   ·subst h0
    go_enter Tryd.func44,Tryd.ntmps44
    go_wp2_with fail
    go_ret
    exact ⟨by rw [Hv.out];rfl,rfl⟩
   ·have hq:((x:Int) != 0)=true:=by simp;omega
    go_enter Tryd.func44,Tryd.ntmps44
    go_wp2_with fail
    go_ret
    exact ⟨by rw [Hv.out];simp [h0],rfl⟩
 ·have Hv:=lH (show v=false by rw [←hv];simp [okN,h1])
  have h1':decide ((l.length:Int)≤256)=false:=by simp;omega
  clear hv
  go_enter Tryd.func44,Tryd.ntmps44
  go_wp2_with fail
  go_ret
  exact ⟨by rw [Hv.out];rfl,rfl⟩
theorem sign_yes (w:World):Calls Tryd.prog 97 #[.bool true] w fun e w'=>e = .returned (.int .i64 (-1))∧w=w':=by
 go_enter Tryd.func97,Tryd.ntmps97
 go_wp2_with fail
 go_ret
 exact ⟨rfl,rfl⟩
theorem sign_no (w:World):Calls Tryd.prog 97 #[.bool false] w fun e w'=>e = .returned (.int .i64 1)∧w=w':=by
 go_enter Tryd.func97,Tryd.ntmps97
 go_wp2_with fail
 go_ret
 exact ⟨rfl,rfl⟩
theorem trim_at (w:World) (B:Nat) (A:Option Addr) (c n:Nat) (l:List Nat) (hr:Rd .u32 w B A c l) (hn:l.length=n):Calls Tryd.prog 85 #[.slice A n c] w fun e w'=>e = .returned (.slice A (trl l).length c)∧w=w':=by
 subst hn
 rw [trl_length]
 exact trim_any w B A c l hr
theorem trim'_at (w:World) (B:Nat) (A:Option Addr) (c n:Nat) (l:List Nat) (hr:Rd .u32 w B A c l) (hn:l.length=n):Calls Tryd.prog 12 #[.slice A n c] w fun e w'=>e = .returned (.slice A (trl l).length c)∧w=w':=by
 subst hn
 rw [trl_length]
 exact trim'_any w B A c l hr
theorem cmp'_any (w:World) (B B':Nat) (A A':Option Addr) (c c':Nat) (l l':List Nat) (hr:Rd .u32 w B A c l) (hr':Rd .u32 w B' A' c' l') (v:Int) (hv:cmpL l l'=v) :
  Calls Tryd.prog 45 #[.slice A l.length c,.slice A' l'.length c'] w fun e w'=>e = .returned (.int .i64 v)∧∃ q,w'=w.drewN q:=by
 have hlc:l.length≤c:=hr.1
 have hc63:c≤9223372036854775807:=hr.2.1
 have hlc':l'.length≤c':=hr'.1
 have hc63':c'≤9223372036854775807:=hr'.2.1
 by_cases h1:l.length<l'.length
 ·have Hv:=lH (show v = -1 by rw [←hv,cmpL,if_pos h1])
  clear hv
  have hq:((l.length:Int) != (l'.length:Int))=true:=by simp;omega
  go_enter Tryd.func45,Tryd.ntmps45
  go_wp2_with fail
  go_ret
  exact ⟨by rw [Hv.out];rfl,0,rfl⟩
 by_cases h2:l'.length<l.length
 ·have Hv:=lH (show v=1 by rw [←hv,cmpL,if_neg h1,if_pos h2])
  clear hv
  have hq:((l.length:Int) != (l'.length:Int))=true:=by simp;omega
  go_enter Tryd.func45,Tryd.ntmps45
  go_wp2_with fail
  go_ret
  exact ⟨by rw [Hv.out];rfl,0,rfl⟩
 have Hv:=lH (show v=cmpTop l l' l.length by rw [←hv,cmpL,if_neg h1,if_neg h2])
 clear hv
 have Hl:=lH (show l'.length=l.length by omega)
 have hq:((l.length:Int) != (l'.length:Int))=false:=by simp;omega
 clear h1 h2
 go_enter Tryd.func45,Tryd.ntmps45
 go_wp2_with fail
 go_loopw [5] (fun s wr=>∃ n q:Nat,n≤l.length∧s = .int .i64 ((n:Int) - 1)∧wr=w.drewN q∧cmpTop l l' l.length=cmpTop l l' n) (fun s _=>(intOf s+1).toNat)
 case atStart=>exact ⟨_,0,Nat.le_refl _,rfl,rfl,rfl⟩
 case round =>
  obtain ⟨n,q,hn,rfl,rfl,ht⟩:=hrel
  have Ht:=lH ht
  clear ht
  rcases n with _ | m
  ·go_wp2_with fail
   go_ret
   exact ⟨by rw [Hv.out,Ht.out];rfl,q,rfl⟩
  ·obtain ⟨b,off,x,rfl,hb,hx,Hx⟩:=hr.at_ (i:=m) (by omega)
   obtain ⟨b',off',x',rfl,hb',hx',Hx'⟩:=hr'.at_ (i:=m) (by have:=Hl.out;omega)
   have hm1:(m:Int)<l.length:=by omega
   have hm2:(m:Int)<l'.length:=by have:=Hl.out;omega
   rw [show (((m+1:Nat):Int) - 1)=(m:Int) from by omega]
   by_cases h0:x=x'
   ·have Hs:=lH (cmpTop_same l l' m (by rw [←Hx.out,←Hx'.out,h0]))
    subst h0
    go_wp2_with fail
    go_quiet (fail)
    go_wp2_with fail
    go_roundw
    case rel=>exact ⟨m,_,by omega,rfl,rfl,by rw [Ht.out,Hs.out]⟩
    case measure=>simp [intOf]
   ·have hq2:((x:Int) != (x':Int))=true:=by simp;omega
    by_cases h3:x<x'
    ·have Hs:=lH (cmpTop_less l l' m (by rw [←Hx.out,←Hx'.out];exact h3))
     go_wp2_with fail
     go_quiet (fail)
     go_wp2_with fail
     go_quiet (fail)
     go_wp2_with fail
     go_ret
     exact ⟨by rw [Hv.out,Ht.out,Hs.out];rfl,_,by rw [World.drewN_drewN,World.drewN_drewN]⟩
    ·have Hs:=lH (cmpTop_more l l' m (by rw [←Hx.out,←Hx'.out];omega))
     go_wp2_with fail
     go_quiet (fail)
     go_wp2_with fail
     go_quiet (fail)
     go_wp2_with fail
     go_ret
     exact ⟨by rw [Hv.out,Ht.out,Hs.out];rfl,_,by rw [World.drewN_drewN,World.drewN_drewN]⟩
theorem cmp_any (w:World) (B B':Nat) (A A':Option Addr) (c c':Nat) (l l':List Nat) (hr:Rd .u32 w B A c l) (hr':Rd .u32 w B' A' c' l') (v:Int) (hv:cmpL (trl l) (trl l')=v) :
  Calls Tryd.prog 70 #[.slice A l.length c,.slice A' l'.length c'] w fun e w'=>e = .returned (.int .i64 v)∧∃ q,w'=w.drewN q:=by
 have ht:Rd .u32 w B A c (trl l):=hr.cut _
 have ht':Rd .u32 w B' A' c' (trl l'):=hr'.cut _
 have el:=trl_length l
 have el':=trl_length l'
 go_enter Tryd.func70,Tryd.ntmps70
 go_wp2_with fail
 refine (trim_any w B A c l hr).mono ?_
 rintro e w1 ⟨rfl,rfl⟩
 go_wp2_with fail
 refine (trim_any w B' A' c' l' hr').mono ?_
 rintro e w1 ⟨rfl,rfl⟩
 rw [←el,←el']
 generalize trl l=t at *
 generalize trl l'=t' at *
 clear el el' hr hr'
 have hlc:t.length≤c:=ht.1
 have hc63:c≤9223372036854775807:=ht.2.1
 have hlc':t'.length≤c':=ht'.1
 have hc63':c'≤9223372036854775807:=ht'.2.1
 by_cases h1:t.length<t'.length
 ·have Hv:=lH (show v = -1 by rw [←hv,cmpL,if_pos h1])
  clear hv
  have hq:((t.length:Int) != (t'.length:Int))=true:=by simp;omega
  go_wp2_with fail
  refine (sign_yes _).mono ?_
  rintro e w1 ⟨rfl,rfl⟩
  go_wp2_with fail
  go_ret
  exact ⟨by rw [Hv.out];rfl,0,rfl⟩
 by_cases h2:t'.length<t.length
 ·have Hv:=lH (show v=1 by rw [←hv,cmpL,if_neg h1,if_pos h2])
  clear hv
  have hq:((t.length:Int) != (t'.length:Int))=true:=by simp;omega
  have ac:decide ((t.length:Int)<(t'.length:Int))=false:=by simp;omega
  go_wp2_with fail
  refine (sign_no _).mono ?_
  rintro e w1 ⟨rfl,rfl⟩
  go_wp2_with fail
  go_ret
  exact ⟨by rw [Hv.out];rfl,0,rfl⟩
 have Hv:=lH (show v=cmpTop t t' t.length by rw [←hv,cmpL,if_neg h1,if_neg h2])
 clear hv
 have Hl:=lH (show t'.length=t.length by omega)
 have hq:((t.length:Int) != (t'.length:Int))=false:=by simp;omega
 clear h1 h2
 go_wp2_with fail
 go_loopw [5] (fun s wr=>∃ n q:Nat,n≤t.length∧s = .int .i64 ((n:Int) - 1)∧wr=w.drewN q∧cmpTop t t' t.length=cmpTop t t' n) (fun s _=>(intOf s+1).toNat)
 case atStart=>exact ⟨_,0,Nat.le_refl _,rfl,rfl,rfl⟩
 case round =>
  obtain ⟨n,q,hn,rfl,rfl,ab⟩:=hrel
  have Ht:=lH ab
  clear ab
  rcases n with _ | m
  ·go_wp2_with fail
   go_ret
   exact ⟨by rw [Hv.out,Ht.out];rfl,q,rfl⟩
  ·obtain ⟨b,off,x,rfl,hb,hx,Hx⟩:=ht.at_ (i:=m) (by omega)
   obtain ⟨b',off',x',rfl,hb',hx',Hx'⟩:=ht'.at_ (i:=m) (by have:=Hl.out;omega)
   have hm1:(m:Int)<t.length:=by omega
   have hm2:(m:Int)<t'.length:=by have:=Hl.out;omega
   rw [show (((m+1:Nat):Int) - 1)=(m:Int) from by omega]
   by_cases h0:x=x'
   ·have Hs:=lH (cmpTop_same t t' m (by rw [←Hx.out,←Hx'.out,h0]))
    subst h0
    go_wp2_with fail
    go_quiet (fail)
    go_wp2_with fail
    go_roundw
    case rel=>exact ⟨m,_,by omega,rfl,rfl,by rw [Ht.out,Hs.out]⟩
    case measure=>simp [intOf]
   ·have ac:((x:Int) != (x':Int))=true:=by simp;omega
    by_cases h3:x<x'
    ·have Hs:=lH (cmpTop_less t t' m (by rw [←Hx.out,←Hx'.out];exact h3))
     go_wp2_with fail
     go_quiet (fail)
     go_wp2_with fail
     go_quiet ((go_at_call 97;exact quiet_on (fun W=>sign_yes W)))
     go_wp2_with fail
     go_ret
     exact ⟨by rw [Hv.out,Ht.out,Hs.out];rfl,_,by rw [World.drewN_drewN,World.drewN_drewN]⟩
    ·have Hs:=lH (cmpTop_more t t' m (by rw [←Hx.out,←Hx'.out];omega))
     have hq3:decide ((x:Int)<(x':Int))=false:=by simp;omega
     go_wp2_with fail
     go_quiet (fail)
     go_wp2_with fail
     go_quiet ((go_at_call 97;exact quiet_on (fun W=>sign_no W)))
     go_wp2_with fail
     go_ret
     exact ⟨by rw [Hv.out,Ht.out,Hs.out];rfl,_,by rw [World.drewN_drewN,World.drewN_drewN]⟩
theorem info_u32:(Tryd.prog.info? 22).map (fun i=>(i.zero,i.size,i.bytes))=some (some (.int .u32 0),1,4):=by kernel_rfl
theorem info_u8:(Tryd.prog.info? 5).map (fun i=>(i.zero,i.size,i.bytes))=some (some (.int .u8 0),1,1):=by kernel_rfl
theorem make_nat (z:Int) (n:Nat) (hz:z=n) (hn:n≤1000000) (W:World):(Instr.makeSlice 24 (.int .i64 z) (.int .i64 z)).run Tryd.prog W = .ok (.slice (some ⟨W.heap.size,0,none⟩) n n) (W.alloc (.cells (nums .u32 (List.replicate n 0)) 22)):=by
 obtain ⟨i0,hi,hz0,hz1,hz2⟩:=info_parts info_u32
 have h:=run_make (P:=Tryd.prog) W 24 22 i0 (.int .u32 0) Tryd.underlying24 hi hz0 .i64 .i64 (n:Int) (n:Int) (by omega) (by omega) (by rw [hz2];omega) (by omega)
 rw [hz,h,hz1,nums_noughts]
 simp [Value.cells]
theorem make_bytes (z:Int) (n:Nat) (hz:z=n) (hn:n≤1000000) (W:World):(Instr.makeSlice 46 (.int .i64 z) (.int .i64 z)).run Tryd.prog W = .ok (.slice (some ⟨W.heap.size,0,none⟩) n n) (W.alloc (.cells (nums .u8 (List.replicate n 0)) 5)):=by
 obtain ⟨i0,hi,hz0,hz1,hz2⟩:=info_parts info_u8
 have h:=run_make (P:=Tryd.prog) W 46 5 i0 (.int .u8 0) Tryd.underlying46 hi hz0 .i64 .i64 (n:Int) (n:Int) (by omega) (by omega) (by rw [hz2];omega) (by omega)
 rw [hz,h,hz1,nums_noughts]
 simp [Value.cells]
def Fresh (k:IntKind) (T:TypeId) (w':World) (B:Nat) (A:Option Addr) (c:Nat) (r:List Nat):Prop :=
 Rd k w' w'.heap.size A c r∧(0<r.length→∃ g L,A=some ⟨g,0,none⟩∧B≤g∧Row k T w' g L∧r=L.take r.length)
theorem fresh_row {k:IntKind} {T:TypeId} {w':World} {B g n c:Nat} {L:List Nat} (h:Row k T w' g L) (hB:B≤g) (hn:n≤L.length) (hc:n≤c) (h63:c≤9223372036854775807):Fresh k T w' B (some ⟨g,0,none⟩) c (L.take n) :=
 ⟨(h.rd hn hc h63).more (Holds.lt h),fun _=>⟨g,L,rfl,hB,h,by rw [List.length_take,Nat.min_eq_left hn]⟩⟩
theorem fresh_trl {k:IntKind} {T:TypeId} {w':World} {B g c:Nat} {L:List Nat} (h:Row k T w' g L) (hB:B≤g) (hc:L.length≤c) (h63:c≤9223372036854775807):Fresh k T w' B (some ⟨g,0,none⟩) c (trl L) :=
 fresh_row h hB (tlen_le L _) (Nat.le_trans (tlen_le L _) hc) h63
theorem rd_whole {k:IntKind} {T:TypeId} {w:World} {g c:Nat} {L:List Nat} (h:Row k T w g L) (hc:L.length≤c) (h63:c≤9223372036854775807):Rd k w (g+1) (some ⟨g,0,none⟩) c L:=by
 have:=h.rd (Nat.le_refl _) hc h63
 rwa [List.take_length] at this
theorem digit_any (w:World) (B:Nat) (A:Option Addr) (c:Nat) (l:List Nat) (hr:Rd .u32 w B A c l) (hd:Dg l) (i:Nat) (hi:i≤1000000) (v:Nat) (hv:l.getD i 0=v):Calls Tryd.prog 64 #[.slice A l.length c,.int .i64 i] w fun e w'=>e = .returned (.int .u64 (v:Int))∧w=w':=by
 have hlc:l.length≤c:=hr.1
 have hc63:c≤9223372036854775807:=hr.2.1
 by_cases h:i<l.length
 ·obtain ⟨b,off,x,rfl,hb,hx,Hx⟩:=hr.at_ h
  have hxl:x<4294967296:=by rw [Hx.out];exact hd.at_ i
  have Hv:=lH (show v=x by rw [←hv,Hx.out])
  clear hv
  go_enter Tryd.func64,Tryd.ntmps64
  go_wp2_with fail
  go_ret
  exact ⟨by rw [Hv.out];rfl,rfl⟩
 ·have Hv:=lH (show v=0 by rw [←hv,List.getD,List.getElem?_eq_none (by omega)];rfl)
  clear hv
  go_enter Tryd.func64,Tryd.ntmps64
  go_wp2_with fail
  go_ret
  exact ⟨by rw [Hv.out];rfl,rfl⟩
theorem add_long (w:World) (B B':Nat) (A A':Option Addr) (c c':Nat) (l l':List Nat) (hr:Rd .u32 w B A c l) (hr':Rd .u32 w B' A' c' l') (hB:B≤w.heap.size) (hB':B'≤w.heap.size) (hd:Dg l) (hd':Dg l') (hs:l.length≤5000) (hs':l'.length≤5000) (hle:¬ l.length<l'.length) :
  Calls Tryd.prog 94 #[.slice A l.length c,.slice A' l'.length c'] w fun e w'=>∃ A2 c2 r,e = .returned (.slice A2 r.length c2)∧NumIs r (val l+val l')∧Fresh .u32 22 w' w.heap.size A2 c2 r∧Below w.heap.size w w':=by
 have hlc:l.length≤c:=hr.1
 have hc63:c≤9223372036854775807:=hr.2.1
 have hlc':l'.length≤c':=hr'.1
 have hc63':c'≤9223372036854775807:=hr'.2.1
 have aw:=make_nat ((l.length:Int)+1) (l.length+1) (by omega) (by omega)
 go_enter Tryd.func94,Tryd.ntmps94
 go_wp2_with fail
 have ay:Row .u32 22 (w.alloc (.cells (nums .u32 (List.replicate (l.length+1) 0)) 22)) w.heap.size (List.replicate (l.length+1) 0):=Holds.fresh _ _ _
 clear aw
 go_loopw [6,21] (fun ov si wr=>∃ (i o:Nat) (L:List Nat),i≤l.length∧si = .int .i64 i∧ov = .int .u64 o∧o≤1∧Row .u32 22 wr w.heap.size L∧L.length=l.length+1∧Dg L∧val (L.take i)+pw i*o=val (l.take i)+val (l'.take i)∧Below w.heap.size w wr)
  (fun _ si _=>l.length - (intOf si).toNat)
 case atStart=>exact ⟨0,0,_,by omega,rfl,rfl,by omega,ay,by simp,Dg.noughts _,by simp [val],(Below.refl _ _).alloc (Nat.le_refl _) _⟩
 case round =>
  obtain ⟨i,o,L,hi,rfl,rfl,ho,hR,hL,ao,ak,ab⟩:=hrel
  have hz:=Holds.lt hR
  have HL:=lH hL
  have ae:=lH ak
  clear hL ak
  have hfr:=hR.open_
  by_cases h:i<l.length
  ·obtain ⟨b,off,x,rfl,hb,hx,Hx⟩:=(hr.under (ab.mono hB)).at_ h
   have hxl:x<4294967296:=by rw [Hx.out];exact hd.at_ i
   have am:=hR.cell (i:=i) (by rw [HL.out];omega)
   by_cases h':i<l'.length
   ·obtain ⟨b',off',y,rfl,hb',hy,Hy⟩:=(hr'.under (ab.mono hB')).at_ h'
    have hyl:y<4294967296:=by rw [Hy.out];exact hd'.at_ i
    go_wp2_with fail
    have ai:=hR.set i ((o+x+y) % 4294967296)
    have hv:=add_step (by rw [HL.out];omega) ae Hx Hy.out
    refine ⟨⟨i+1,(o+x+y) / 4294967296,_,by omega,by go_num,by go_num,by omega,ai,by rw [List.length_set];exact HL.out,ao.set _ _ (by omega),hv,ab.setCell (Nat.le_refl _) _⟩,by simp [intOf];omega⟩
   ·have au:(0:Nat)=l'.getD i 0:=by rw [List.getD,List.getElem?_eq_none (by omega)];rfl
    have ax:=lH au
    clear au
    go_wp2_with fail
    have ai:=hR.set i ((o+x) % 4294967296)
    have hv:=add_step (by rw [HL.out];omega) ae Hx ax.out
    rw [Nat.add_zero] at hv
    refine ⟨⟨i+1,(o+x) / 4294967296,_,by omega,by go_num,by go_num,by omega,ai,by rw [List.length_set];exact HL.out,ao.set _ _ (by omega),hv,ab.setCell (Nat.le_refl _) _⟩,by simp [intOf];omega⟩
  ·have Hi:=lH (show i=l.length by omega)
   have am:=hR.cell (i:=l.length) (by rw [HL.out];omega)
   go_wp2_with fail
   have ai:=hR.set l.length o
   have ac:(L.set l.length o).length=l.length+1:=by rw [List.length_set];exact HL.out
   have av:=ao.set l.length o (by omega)
   have hv:val (L.set l.length o)=val l+val l':=by
    have h1:=take_set_succ L l.length o (by rw [HL.out];omega)
    rw [val_take_all _ _ (by omega)] at h1
    have h2:=ae.out
    rw [Hi.out,val_take_all l _ (Nat.le_refl _),val_take_all l' _ (by omega)] at h2
    rw [h1,h2]
   generalize L.set l.length o=M at *
   refine (trim_at _ _ _ _ _ M (rd_whole ai (Nat.le_of_eq ac) (by omega)) ac).mono ?_
   rintro e w1 ⟨rfl,rfl⟩
   go_wp2_with fail
   go_ret
   exact ⟨_,_,trl M,rfl,num_trl av hv,fresh_trl ai (Nat.le_refl _) (Nat.le_of_eq ac) (by omega),ab.setCell (Nat.le_refl _) _⟩
theorem add_short (w:World) (B B':Nat) (A A':Option Addr) (c c':Nat) (l l':List Nat) (hr:Rd .u32 w B A c l) (hr':Rd .u32 w B' A' c' l') (hB:B≤w.heap.size) (hB':B'≤w.heap.size) (hd:Dg l) (hd':Dg l') (hs:l.length≤5000) (hs':l'.length≤5000) (hle:l'.length<l.length) :
  Calls Tryd.prog 94 #[.slice A' l'.length c',.slice A l.length c] w fun e w'=>∃ A2 c2 r,e = .returned (.slice A2 r.length c2)∧NumIs r (val l+val l')∧Fresh .u32 22 w' w.heap.size A2 c2 r∧Below w.heap.size w w':=by
 have hlc:l.length≤c:=hr.1
 have hc63:c≤9223372036854775807:=hr.2.1
 have hlc':l'.length≤c':=hr'.1
 have hc63':c'≤9223372036854775807:=hr'.2.1
 have aw:=make_nat ((l.length:Int)+1) (l.length+1) (by omega) (by omega)
 go_enter Tryd.func94,Tryd.ntmps94
 go_wp2_with fail
 have ay:Row .u32 22 (w.alloc (.cells (nums .u32 (List.replicate (l.length+1) 0)) 22)) w.heap.size (List.replicate (l.length+1) 0):=Holds.fresh _ _ _
 clear aw
 go_loopw [6,21] (fun ov si wr=>∃ (i o:Nat) (L:List Nat),i≤l.length∧si = .int .i64 i∧ov = .int .u64 o∧o≤1∧Row .u32 22 wr w.heap.size L∧L.length=l.length+1∧Dg L∧val (L.take i)+pw i*o=val (l.take i)+val (l'.take i)∧Below w.heap.size w wr)
  (fun _ si _=>l.length - (intOf si).toNat)
 case atStart=>exact ⟨0,0,_,by omega,rfl,rfl,by omega,ay,by simp,Dg.noughts _,by simp [val],(Below.refl _ _).alloc (Nat.le_refl _) _⟩
 case round =>
  obtain ⟨i,o,L,hi,rfl,rfl,ho,hR,hL,ao,ak,ab⟩:=hrel
  have hz:=Holds.lt hR
  have HL:=lH hL
  have ae:=lH ak
  clear hL ak
  have hfr:=hR.open_
  by_cases h:i<l.length
  ·obtain ⟨b,off,x,rfl,hb,hx,Hx⟩:=(hr.under (ab.mono hB)).at_ h
   have hxl:x<4294967296:=by rw [Hx.out];exact hd.at_ i
   have am:=hR.cell (i:=i) (by rw [HL.out];omega)
   by_cases h':i<l'.length
   ·obtain ⟨b',off',y,rfl,hb',hy,Hy⟩:=(hr'.under (ab.mono hB')).at_ h'
    have hyl:y<4294967296:=by rw [Hy.out];exact hd'.at_ i
    go_wp2_with fail
    have ai:=hR.set i ((o+x+y) % 4294967296)
    have hv:=add_step (by rw [HL.out];omega) ae Hx Hy.out
    refine ⟨⟨i+1,(o+x+y) / 4294967296,_,by omega,by go_num,by go_num,by omega,ai,by rw [List.length_set];exact HL.out,ao.set _ _ (by omega),hv,ab.setCell (Nat.le_refl _) _⟩,by simp [intOf];omega⟩
   ·have au:(0:Nat)=l'.getD i 0:=by rw [List.getD,List.getElem?_eq_none (by omega)];rfl
    have ax:=lH au
    clear au
    go_wp2_with fail
    have ai:=hR.set i ((o+x) % 4294967296)
    have hv:=add_step (by rw [HL.out];omega) ae Hx ax.out
    rw [Nat.add_zero] at hv
    refine ⟨⟨i+1,(o+x) / 4294967296,_,by omega,by go_num,by go_num,by omega,ai,by rw [List.length_set];exact HL.out,ao.set _ _ (by omega),hv,ab.setCell (Nat.le_refl _) _⟩,by simp [intOf];omega⟩
  ·have Hi:=lH (show i=l.length by omega)
   have am:=hR.cell (i:=l.length) (by rw [HL.out];omega)
   go_wp2_with fail
   have ai:=hR.set l.length o
   have ac:(L.set l.length o).length=l.length+1:=by rw [List.length_set];exact HL.out
   have av:=ao.set l.length o (by omega)
   have hv:val (L.set l.length o)=val l+val l':=by
    have h1:=take_set_succ L l.length o (by rw [HL.out];omega)
    rw [val_take_all _ _ (by omega)] at h1
    have h2:=ae.out
    rw [Hi.out,val_take_all l _ (Nat.le_refl _),val_take_all l' _ (by omega)] at h2
    rw [h1,h2]
   generalize L.set l.length o=M at *
   refine (trim_at _ _ _ _ _ M (rd_whole ai (Nat.le_of_eq ac) (by omega)) ac).mono ?_
   rintro e w1 ⟨rfl,rfl⟩
   go_wp2_with fail
   go_ret
   exact ⟨_,_,trl M,rfl,num_trl av hv,fresh_trl ai (Nat.le_refl _) (Nat.le_of_eq ac) (by omega),ab.setCell (Nat.le_refl _) _⟩
theorem add_any (w:World) (B B':Nat) (A A':Option Addr) (c c':Nat) (l l':List Nat) (hr:Rd .u32 w B A c l) (hr':Rd .u32 w B' A' c' l') (hB:B≤w.heap.size) (hB':B'≤w.heap.size) (hd:Dg l) (hd':Dg l') (hs:l.length≤5000) (hs':l'.length≤5000) :
  Calls Tryd.prog 94 #[.slice A l.length c,.slice A' l'.length c'] w fun e w'=>∃ A2 c2 r,e = .returned (.slice A2 r.length c2)∧NumIs r (val l+val l')∧Fresh .u32 22 w' w.heap.size A2 c2 r∧Below w.heap.size w w':=by
 by_cases h:l.length<l'.length
 ·rw [Nat.add_comm]
  exact add_short w B' B A' A c' c l' l hr' hr hB' hB hd' hd hs' hs h
 ·exact add_long w B B' A A' c c' l l' hr hr' hB hB' hd hd' hs hs' h
theorem tab_at (e:Int) (h0:0≤e) (h1:e≤255) (w:World):(Instr.index 9 (.string Lib.len8tab) (.int .u8 e)).run Tryd.prog w = .ok (.int .u8 ((Lib.bitLen e.toNat:Nat):Int)) w:=by
 rw [Lib.run_index_len8tab w 9 .u8 e Tryd.underlying9 h0 h1,Lib.len8_of e h0 h1]
theorem len32_any (n:Nat) (w:World) (hn:n<4294967296):Calls Tryd.prog 91 #[.int .u32 n] w fun e w'=>e = .returned (.int .i64 (Lib.bitLen n:Int))∧w=w':=by
 obtain ⟨x,hx⟩:∃ x:Int,x=(n:Int):=⟨_,rfl⟩
 have e0:n=x.toNat:=by omega
 rw [←hx,e0]
 have h0:0≤x:=by omega
 have h1:x≤4294967295:=by omega
 clear e0 hx hn
 by_cases c1:65536≤x
 ·by_cases c2:256≤x / 65536
  ·have hix:=tab_at (x / 65536 / 256) (by omega) (by omega)
   have hk:=Lib.bitLen_le8' (x / 65536 / 256) (by omega) (by omega)
   have hs:=lH (Lib.bitLen_shift24 x.toNat (by omega) (by omega))
   have he:x.toNat / 16777216=(x / 65536 / 256).toNat:=by omega
   rw [he] at hs
   clear he
   generalize Lib.bitLen (x / 65536 / 256).toNat=k at *
   go_enter Tryd.func91,Tryd.ntmps91
   go_wp2_with fail
   go_ret
   exact ⟨by rw [hs.out];exact congrArg Ending.returned (congrArg (Value.int IntKind.i64) (by omega)),rfl⟩
  ·have hix:=tab_at (x / 65536) (by omega) (by omega)
   have hk:=Lib.bitLen_le8' (x / 65536) (by omega) (by omega)
   have hs:=lH (Lib.bitLen_shift16 x.toNat (by omega) (by omega))
   have he:x.toNat / 65536=(x / 65536).toNat:=by omega
   rw [he] at hs
   clear he
   generalize Lib.bitLen (x / 65536).toNat=k at *
   go_enter Tryd.func91,Tryd.ntmps91
   go_wp2_with fail
   go_ret
   exact ⟨by rw [hs.out];exact congrArg Ending.returned (congrArg (Value.int IntKind.i64) (by omega)),rfl⟩
 ·by_cases c2:256≤x
  ·have hix:=tab_at (x / 256) (by omega) (by omega)
   have hk:=Lib.bitLen_le8' (x / 256) (by omega) (by omega)
   have hs:=lH (Lib.bitLen_shift8 x.toNat (by omega) (by omega))
   have he:x.toNat / 256=(x / 256).toNat:=by omega
   rw [he] at hs
   clear he
   generalize Lib.bitLen (x / 256).toNat=k at *
   go_enter Tryd.func91,Tryd.ntmps91
   go_wp2_with fail
   go_ret
   exact ⟨by rw [hs.out];exact congrArg Ending.returned (congrArg (Value.int IntKind.i64) (by omega)),rfl⟩
  ·have hix:=tab_at x (by omega) (by omega)
   have hk:=Lib.bitLen_le8' x (by omega) (by omega)
   generalize Lib.bitLen x.toNat=k at *
   go_enter Tryd.func91,Tryd.ntmps91
   go_wp2_with fail
   go_ret
   exact ⟨congrArg Ending.returned (congrArg (Value.int IntKind.i64) (by omega)),rfl⟩
def nb (l:List Nat):Nat:=if l.length=0 then 0 else 32*(l.length - 1)+Lib.bitLen (l.getD (l.length - 1) 0)
theorem nb_nil {l:List Nat} (h:l.length=0):nb l=0:=by rw [nb,if_pos h]
theorem nb_succ {l:List Nat} {m:Nat} (h:l.length=m+1):nb l=32*m+Lib.bitLen (l.getD m 0):=by
 rw [nb,if_neg (by omega),h,Nat.add_sub_cancel]
theorem bits_any (w:World) (B:Nat) (A:Option Addr) (c n:Nat) (l:List Nat) (hr:Rd .u32 w B A c l) (hn:l.length=n) (hd:Dg l) (hs:l.length≤5000) (v:Nat) (hv:nb (trl l)=v):Calls Tryd.prog 62 #[.slice A n c] w fun e w'=>e = .returned (.int .i64 (v:Int))∧w=w':=by
 have ht:Rd .u32 w B A c (trl l):=hr.cut _
 have hdt:=trl_dg hd
 have hlt:(trl l).length≤5000:=by rw [trl_length];exact Nat.le_trans (tlen_le l _) hs
 go_enter Tryd.func62,Tryd.ntmps62
 go_wp2_with fail
 refine (trim_at w B A c n l hr hn).mono ?_
 rintro e w1 ⟨rfl,rfl⟩
 generalize trl l=t at *
 rcases hm:t.length with _ | m
 ·have Hv:=lH (show v=0 by rw [←hv,nb_nil hm])
  clear hv hm hlt
  go_wp2_with fail
  go_ret
  exact ⟨by rw [Hv.out];rfl,rfl⟩
 ·have Hv:=lH (show v=32*m+Lib.bitLen (t.getD m 0) by rw [←hv,nb_succ hm])
  obtain ⟨b,off,x,rfl,hb,hx,Hx⟩:=ht.at_ (i:=m) (by omega)
  have hxl:x<4294967296:=by rw [Hx.out];exact hdt.at_ m
  have hq:((m:Int)+1 == 0)=false:=by simp;omega
  have hm':m+1≤5000:=by omega
  clear hv hm hlt
  go_wp2_with fail
  refine (len32_any x _ hxl).mono ?_
  rintro e w1 ⟨rfl,rfl⟩
  have hbl:=Lib.bitLen_le x 32 (by omega) (by omega)
  rw [←Hx.out] at Hv
  generalize Lib.bitLen x=y at *
  go_wp2_with fail
  go_ret
  exact ⟨by rw [Hv.out];exact congrArg Ending.returned (congrArg (Value.int IntKind.i64) (by omega)),rfl⟩
theorem bits'_any (w:World) (B:Nat) (A:Option Addr) (c:Nat) (l:List Nat) (hr:Rd .u32 w B A c l) (hd:Dg l) (hs:l.length≤5000) (v:Nat) (hv:nb l=v):Calls Tryd.prog 37 #[.slice A l.length c] w fun e w'=>e = .returned (.int .i64 (v:Int))∧w=w':=by
 have hlc:l.length≤c:=hr.1
 have hc63:c≤9223372036854775807:=hr.2.1
 have Hv:=lH hv.symm
 clear hv
 go_enter Tryd.func37,Tryd.ntmps37
 go_wp2_with fail
 go_loop [3,4,5] (fun sn si _=>∃ i n:Nat,i≤l.length∧si = .int .i64 i∧sn = .int .i64 n∧n≤32*i∧Hid ((i<l.length→n=32*i)∧(i=l.length→n=nb l))) (fun _ si _=>l.length - (intOf si).toNat)
 case atStart=>exact ⟨0,0,by omega,rfl,rfl,by omega,by omega,fun h=>(nb_nil h.symm).symm⟩
 case round =>
  obtain ⟨i,n,hi,rfl,rfl,hni,H⟩:=hrel
  by_cases h:i<l.length
  ·obtain ⟨b,off,x,rfl,hb,hx,Hx⟩:=hr.at_ h
   have hxl:x<4294967296:=by rw [Hx.out];exact hd.at_ i
   obtain rfl:n=32*i:=H.out.1 h
   have hbl:=Lib.bitLen_le x 32 (by omega) (by omega)
   go_wp2_with fail
   go_loop [3,5] (fun sn sx=>∃ k y:Nat,sx = .int .u32 y∧sn = .int .i64 k∧y<4294967296∧Hid (k+Lib.bitLen y=32*i+Lib.bitLen x)∧k≤32*i+32) (fun _ sx=>(intOf sx).toNat)
   case atStart=>exact ⟨_,x,rfl,by go_num,hxl,rfl,by omega⟩
   case round =>
    obtain ⟨k,y,rfl,rfl,hy,Hk,hk⟩:=hrel
    by_cases h0:y=0
    ·subst h0
     have Hk':=lH (show k=32*i+Lib.bitLen x from Hk.out)
     by_cases hl:i+1<l.length
     ·have hl':(i:Int)<(l.length:Int) - 1:=by omega
      go_wp2_with fail
      go_round
      case rel=>exact ⟨i+1,32*(i+1),by omega,by go_num,by go_num,by omega,fun _=>rfl,fun e=>by omega⟩
      case measure=>simp [intOf];omega
     ·have hl':¬ (i:Int)<(l.length:Int) - 1:=by omega
      have hk3:k≤32*(i+1):=by omega
      have Hn:=lH (show k=nb l by rw [Hk'.out,nb_succ (m:=i) (by omega),Hx.out])
      go_wp2_with fail
      go_round
      case rel=>exact ⟨i+1,k,by omega,by go_num,rfl,hk3,fun e=>by omega,fun _=>Hn.out⟩
      case measure=>simp [intOf];omega
    ·have hh:=Lib.bitLen_half y h0 (by omega)
     have Hk2:=lH (show k+1+Lib.bitLen (y / 2)=32*i+Lib.bitLen x by have:=Hk.out;omega)
     have hk2:k+1≤32*i+32:=by have:=Hk.out;omega
     clear hh
     go_wp2_with fail
     go_round
     case rel=>exact ⟨k+1,y / 2,by go_num,by go_num,by omega,Hk2,hk2⟩
     case measure=>simp [intOf];omega
  ·have Hn:=lH (show v=n by rw [Hv.out];exact (H.out.2 (by omega)).symm)
   go_wp2_with fail
   go_ret
   exact ⟨by rw [Hn.out];rfl,rfl⟩
def words (b:List Nat):List Nat:=(List.range ((b.length+3) / 4)).map (part b.reverse 0)
theorem words_length (b:List Nat):(words b).length=(b.length+3) / 4:=by simp [words]
theorem words_at (b:List Nat) {j:Nat} (h:j<(b.length+3) / 4):(words b).getD j 0=part b.reverse 0 j:=by
 simp [words,List.getD,h]
theorem words_dg {b:List Nat} (h:Oct b.reverse):Dg (words b):=fun x hx=>by
 obtain ⟨j,_,rfl⟩:=List.mem_map.1 hx
 exact part_dg h 0 j
theorem words_eq {b L:List Nat} (hl:L.length=(b.length+3) / 4) (h:∀ j,j<L.length→L.getD j 0=part b.reverse 0 j):L=words b:=by
 apply List.ext_getElem
 ·rw [hl,words_length]
 ·intro j j1 j2
  have e1:=h j j1
  have e2:=words_at b (j:=j) (by omega)
  rw [←e2] at e1
  simpa [List.getD,j1,j2] using e1
theorem or_val {r:List Nat} (ho:Oct r) {k x y:Nat} (hx:x=r.getD k 0) (hy:y=part r (k+1) (k / 4)):bits .or .u32 (y:Int) ((x:Int)*2 ^ (k % 4*8) % 4294967296)=((part r k (k / 4):Nat):Int):=by
 have hx':x<256:=by rw [hx];exact ho k
 have hs:=shl_nat x (k % 4) hx' (Nat.mod_lt _ (by omega))
 have e1:((x:Int)*2 ^ (k % 4*8) % 4294967296)=((x*2 ^ (8*(k % 4)):Nat):Int):=by
  have e2:((x:Int)*2 ^ (k % 4*8))=((x*2 ^ (8*(k % 4)):Nat):Int):=by rw [Nat.mul_comm 8];push_cast;rfl
  rw [e2]
  omega
 rw [e1,u32_or_nat y _ (by rw [hy];exact part_dg ho _ _) hs,←part_step ho k,←hx,←hy,Nat.shiftLeft_eq]
theorem or_val' {r:List Nat} (ho:Oct r) {k x y:Nat} (hx:x=r.getD k 0) (hy:y=part r (k+1) (k / 4)):bits .or .u32 (y:Int) ((x:Int)*2 ^ (8*(k % 4)) % 4294967296)=((part r k (k / 4):Nat):Int):=by
 rw [←or_val ho hx hy,Nat.mul_comm 8]
theorem put_at {r L:List Nat} {k:Nat} (h:∀ j,j<L.length→L.getD j 0=part r (k+1) j) (hk:k / 4<L.length):∀ j,j<(L.set (k / 4) (part r k (k / 4))).length→(L.set (k / 4) (part r k (k / 4))).getD j 0=part r k j:=by
 intro j hj
 rw [List.length_set] at hj
 by_cases e:j=k / 4
 ·subst e
  simp [List.getD,hk]
 ·rw [←part_far r k j e,←h j hj]
  simp [List.getD,List.getElem?_set_ne (by omega:k / 4≠j)]
theorem start_at (l:List Nat):∀ j,j<(List.replicate ((l.length+3) / 4) 0).length→(List.replicate ((l.length+3) / 4) 0).getD j 0=part l.reverse (l.length - 0) j:=by
 intro j hj
 have hz:∀ k,l.length≤k→l.reverse.getD k 0=0:=fun k hk=>by rw [List.getD,List.getElem?_eq_none (by simpa using hk)];rfl
 have e:∀ k,(if l.length - 0≤k then l.reverse.getD k 0 else 0)=0:=fun k=>by
  split
  ·exact hz k (by omega)
  ·rfl
 unfold part
 rw [e,e,e,e]
 have hj':j<(l.length+3) / 4:=by simpa using hj
 simp [List.getD,hj']
theorem of_any (w:World) (B:Nat) (A:Option Addr) (c:Nat) (l:List Nat) (hr:Rd .u8 w B A c l) (hB:B≤w.heap.size) (ho:Oct l.reverse) (hs:l.length≤1024) :
  Calls Tryd.prog 69 #[.slice A l.length c] w fun e w'=>∃ A2 c2,e = .returned (.slice A2 (trl (words l)).length c2)∧Fresh .u32 22 w' w.heap.size A2 c2 (trl (words l))∧Below w.heap.size w w':=by
 have hlc:l.length≤c:=hr.1
 have hc63:c≤9223372036854775807:=hr.2.1
 have hlong:decide (1024<(l.length:Int))=false:=by simp;omega
 have hmk:=make_nat (((l.length:Int)+3) / 4) ((l.length+3) / 4) (by omega) (by omega)
 go_enter Tryd.func69,Tryd.ntmps69
 go_wp2_with fail
 have hR0:Row .u32 22 (w.alloc (.cells (nums .u32 (List.replicate ((l.length+3) / 4) 0)) 22)) w.heap.size (List.replicate ((l.length+3) / 4) 0):=Holds.fresh _ _ _
 clear hmk
 go_loopw [17] (fun si wr=>∃ (i:Nat) (L:List Nat),i≤l.length∧si = .int .i64 i∧Row .u32 22 wr w.heap.size L∧L.length=(l.length+3) / 4∧Hid (∀ j,j<L.length→L.getD j 0=part l.reverse (l.length - i) j)∧Below w.heap.size w wr)
  (fun si _=>l.length - (intOf si).toNat)
 case atStart=>exact ⟨0,_,by omega,rfl,hR0,by simp,start_at l,(Below.refl _ _).alloc (Nat.le_refl _) _⟩
 case round =>
  obtain ⟨i,L,hi,rfl,hR,hL,HD,hbel⟩:=hrel
  have hz:=Holds.lt hR
  have HL:=lH hL
  clear hL
  have hfr:=hR.open_
  by_cases h:i<l.length
  ·obtain ⟨b,off,x,rfl,hb,hx,Hx⟩:=(hr.under (hbel.mono hB)).at_ h
   obtain ⟨k,hk⟩:∃ k:Nat,l.length=k+1+i:=⟨l.length - 1 - i,by omega⟩
   have Hx2:=lH (show x=l.reverse.getD k 0 by rw [rev_at hk];exact Hx.out)
   have hxl:x<256:=by rw [Hx2.out];exact ho k
   have hc0:=hR.cell (i:=k / 4) (by rw [HL.out];omega)
   have HD2:=lH (show ∀ j,j<L.length→L.getD j 0=part l.reverse (k+1) j by have:=HD.out;rwa [show l.length - i=k+1 by omega] at this)
   obtain ⟨y,Hy⟩:∃ y,Hid (y=L.getD (k / 4) 0):=⟨_,rfl⟩
   rw [←Hy.out] at hc0
   have Hy2:=lH (show y=part l.reverse (k+1) (k / 4) by rw [Hy.out];exact HD2.out _ (by rw [HL.out];omega))
   have hkl:(k:Int) / 4<((l.length:Int)+3) / 4:=by omega
   have ek:(l.length:Int) - 1 - i=k:=by omega
   have hkk:l.length - (i+1)=k:=by omega
   have Hkk:=lH hkk
   clear hk hkk HD
   go_wp2_with fail
   go_region
   all_goals go_wp2_with fail
   have hst:=hR.set (k / 4) (part l.reverse k (k / 4))
   have hpa:=put_at HD2.out (by rw [HL.out];omega)
   refine ⟨⟨i+1,_,by omega,by go_num,by rw [or_val ho Hx2.out Hy2.out];exact hst,by rw [List.length_set];exact HL.out,by rw [Hkk.out];exact hpa,(hbel.setCell (Nat.le_refl _) _).drew⟩,by simp [intOf];omega⟩
  ·have hLw:L=words l:=words_eq HL (by have:=HD.out;rwa [show l.length - i=0 by omega] at this)
   subst hLw
   go_wp2_with fail
   refine (trim_at _ _ _ _ _ (words l) (rd_whole hR (Nat.le_of_eq HL) (by omega)) HL).mono ?_
   rintro e w1 ⟨rfl,rfl⟩
   go_wp2_with fail
   go_ret
   exact ⟨_,_,rfl,fresh_trl hR (Nat.le_refl _) (Nat.le_of_eq HL) (by omega),hbel⟩
theorem of'_any (w:World) (B:Nat) (A:Option Addr) (c:Nat) (l:List Nat) (hr:Rd .u8 w B A c l) (hB:B≤w.heap.size) (ho:Oct l.reverse) (hs:l.length≤1024) :
  Calls Tryd.prog 74 #[.slice A l.length c] w fun e w'=>∃ A2 c2,e = .returned (.slice A2 (trl (words l)).length c2)∧Fresh .u32 22 w' w.heap.size A2 c2 (trl (words l))∧Below w.heap.size w w':=by
 have hlc:l.length≤c:=hr.1
 have hc63:c≤9223372036854775807:=hr.2.1
 have hlong:decide (1024<(l.length:Int))=false:=by simp;omega
 have hmk:=make_nat (((l.length:Int)+3) / 4) ((l.length+3) / 4) (by omega) (by omega)
 go_enter Tryd.func74,Tryd.ntmps74
 go_wp2_with fail
 have hR0:Row .u32 22 (w.alloc (.cells (nums .u32 (List.replicate ((l.length+3) / 4) 0)) 22)) w.heap.size (List.replicate ((l.length+3) / 4) 0):=Holds.fresh _ _ _
 clear hmk
 go_loopw [4] (fun si wr=>∃ (i:Nat) (L:List Nat),i≤l.length∧si = .int .i64 i∧Row .u32 22 wr w.heap.size L∧L.length=(l.length+3) / 4∧Hid (∀ j,j<L.length→L.getD j 0=part l.reverse (l.length - i) j)∧Below w.heap.size w wr)
  (fun si _=>l.length - (intOf si).toNat)
 case atStart=>exact ⟨0,_,by omega,rfl,hR0,by simp,start_at l,(Below.refl _ _).alloc (Nat.le_refl _) _⟩
 case round =>
  obtain ⟨i,L,hi,rfl,hR,hL,HD,hbel⟩:=hrel
  have hz:=Holds.lt hR
  have HL:=lH hL
  clear hL
  have hfr:=hR.open_
  by_cases h:i<l.length
  ·obtain ⟨b,off,x,rfl,hb,hx,Hx⟩:=(hr.under (hbel.mono hB)).at_ h
   obtain ⟨k,hk⟩:∃ k:Nat,l.length=k+1+i:=⟨l.length - 1 - i,by omega⟩
   have Hx2:=lH (show x=l.reverse.getD k 0 by rw [rev_at hk];exact Hx.out)
   have hxl:x<256:=by rw [Hx2.out];exact ho k
   have hc0:=hR.cell (i:=k / 4) (by rw [HL.out];omega)
   have HD2:=lH (show ∀ j,j<L.length→L.getD j 0=part l.reverse (k+1) j by have:=HD.out;rwa [show l.length - i=k+1 by omega] at this)
   obtain ⟨y,Hy⟩:∃ y,Hid (y=L.getD (k / 4) 0):=⟨_,rfl⟩
   rw [←Hy.out] at hc0
   have Hy2:=lH (show y=part l.reverse (k+1) (k / 4) by rw [Hy.out];exact HD2.out _ (by rw [HL.out];omega))
   have hkl:(k:Int) / 4<((l.length:Int)+3) / 4:=by omega
   have ek:(l.length:Int) - 1 - i=k:=by omega
   have hkk:l.length - (i+1)=k:=by omega
   have Hkk:=lH hkk
   clear hk hkk HD
   go_wp2_with fail
   go_region
   all_goals go_wp2_with fail
   have hst:=hR.set (k / 4) (part l.reverse k (k / 4))
   have hpa:=put_at HD2.out (by rw [HL.out];omega)
   refine ⟨⟨i+1,_,by omega,by go_num,by rw [or_val' ho Hx2.out Hy2.out];exact hst,by rw [List.length_set];exact HL.out,by rw [Hkk.out];exact hpa,(hbel.setCell (Nat.le_refl _) _).drew⟩,by simp [intOf];omega⟩
  ·have hLw:L=words l:=words_eq HL (by have:=HD.out;rwa [show l.length - i=0 by omega] at this)
   subst hLw
   go_wp2_with fail
   refine (trim'_at _ _ _ _ _ (words l) (rd_whole hR (Nat.le_of_eq HL) (by omega)) HL).mono ?_
   rintro e w1 ⟨rfl,rfl⟩
   go_wp2_with fail
   go_ret
   exact ⟨_,_,rfl,fresh_trl hR (Nat.le_refl _) (Nat.le_of_eq HL) (by omega),hbel⟩
def numOf (b:List Nat):List Nat:=if 1024<b.length then [] else trl (words b)
theorem numOf_far {b:List Nat} (h:1024<b.length):numOf b=[]:=if_pos h
theorem numOf_near {b:List Nat} (h:¬ 1024<b.length):numOf b=trl (words b):=if_neg h
theorem numOf_dg {b:List Nat} (h:Oct b.reverse):Dg (numOf b):=by
 unfold numOf
 split
 ·intro x hx;cases hx
 ·exact trl_dg (words_dg h)
theorem numOf_length (b:List Nat):(numOf b).length≤256:=by
 unfold numOf
 split
 ·simp
 ·have h1:=trl_length (words b)
  have h2:=tlen_le (words b) (words b).length
  have h3:=words_length b
  omega
theorem fresh_nil (k:IntKind) (T:TypeId) (w:World) (B:Nat):Fresh k T w B none 0 []:=⟨Rd.nil_ k w _,fun h=>by simp at h⟩
theorem of_all (w:World) (B:Nat) (A:Option Addr) (c:Nat) (l:List Nat) (hr:Rd .u8 w B A c l) (hB:B≤w.heap.size) (ho:Oct l.reverse) :
  Calls Tryd.prog 69 #[.slice A l.length c] w fun e w'=>∃ A2 c2,e = .returned (.slice A2 (numOf l).length c2)∧Fresh .u32 22 w' w.heap.size A2 c2 (numOf l)∧Below w.heap.size w w':=by
 by_cases h:1024<l.length
 ·rw [numOf_far h]
  go_enter Tryd.func69,Tryd.ntmps69
  go_wp2_with fail
  go_ret
  exact ⟨none,0,rfl,fresh_nil _ _ _ _,Below.refl _ _⟩
 ·rw [numOf_near h]
  exact of_any w B A c l hr hB ho (by omega)
theorem of'_all (w:World) (B:Nat) (A:Option Addr) (c:Nat) (l:List Nat) (hr:Rd .u8 w B A c l) (hB:B≤w.heap.size) (ho:Oct l.reverse) :
  Calls Tryd.prog 74 #[.slice A l.length c] w fun e w'=>∃ A2 c2,e = .returned (.slice A2 (numOf l).length c2)∧Fresh .u32 22 w' w.heap.size A2 c2 (numOf l)∧Below w.heap.size w w':=by
 by_cases h:1024<l.length
 ·rw [numOf_far h]
  go_enter Tryd.func74,Tryd.ntmps74
  go_wp2_with fail
  go_ret
  exact ⟨none,0,rfl,fresh_nil _ _ _ _,Below.refl _ _⟩
 ·rw [numOf_near h]
  exact of'_any w B A c l hr hB ho (by omega)
def fits (l:List Nat) (n:Int):Bool:=decide (0≤n) && decide (n≤2048) && decide ((nb l:Int)≤8*n)
def out (l:List Nat) (n:Int):List Nat:=if fits l n=true then bytesOf l n.toNat else []
end Go.Proofs.YtflfdglpljodbaaDoor
