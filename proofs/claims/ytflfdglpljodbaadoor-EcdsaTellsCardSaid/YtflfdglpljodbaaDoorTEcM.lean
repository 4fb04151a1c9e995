/-
  Numbers from 1 to as many as there are points, less 1: program and document. A key of a point is one: program and document. Signatures by points: words; numbers from 1 to N less 1 have one by them. The program looks at a signature. The document looks at a signature. Any key, any digest, any pair.
-/
import Derived.Test.YtflfdglpljodbaaDoorTCvF
import Derived.Deep.RegionLaw
import Derived.Deep.RegionHeld3
import Derived.Deep.DrawnRows
import Derived.Test.YtflfdglpljodbaaDoorTCv10
import Derived.Test.YtflfdglpljodbaaDoorTModM
import Derived.Test.YtflfdglpljodbaaDoorTRef12
import Derived.Test.YtflfdglpljodbaaDoorTRefB
import Derived.Test.YtflfdglpljodbaaDoorTCv33
set_option maxRecDepth 100000
set_option maxHeartbeats 8000000
namespace Go.Proofs.YtflfdglpljodbaaDoor
open Go.RowKit
set_option linter.unusedVariables false
set_option linter.unusedSimpArgs false
def fitB (l:List Nat):Bool:=okN l && decide (0<l.length) && decide (cmpL l lN<0)
theorem fit_any (w:World) {A:Option Addr} {c:Nat} {l:List Nat} (hr:Rd .u32 w w.heap.size A c l) :
  Calls Tryd.prog 66 #[.slice A l.length c] w fun e w'=>e = .returned (.bool (fitB l))∧Below w.heap.size w w':=by
 by_cases h0:okN l=true
 ·have Hok:=lH h0
  by_cases h1:0<l.length
  ·obtain ⟨v,hv⟩:∃ v,cmpL l lN=v:=⟨_,rfl⟩
   have Hv:=lH hv
   have Hv':Hid (cmpL (trl l) (trl lN)=v):=lH (by rw [trl_id (okN_nrm h0).2,trl_id lN_ok.2.1];exact hv)
   have hF:fitB l=decide (v<0):=by rw [fitB,h0,hv,decide_eq_true h1];simp
   rw [hF]
   have H1:=lH (show (0:Int)<(l.length:Int) by omega)
   clear hF hv h0 h1
   go_enter Tryd.func66,Tryd.ntmps66
   have h1:=H1.out
   go_wp2_with fail
   refine (is_any w _ A c l hr true Hok.out).mono ?_
   rintro e W1 ⟨rfl,rfl⟩
   go_wp2_with fail
   refine (curveN_any w).mono ?_
   rintro e W3 ⟨gn,hgn,rfl,hN,hb⟩
   have HB3:=lH hb
   have HR3:=lH (hr.under hb)
   have HN3:=lH (Eight.rd hN rfl)
   clear hN hgn hb
   go_wp2_with fail
   refine (cmp_any W3 _ _ A _ c 8 l lN HR3.out HN3.out v Hv'.out).mono ?_
   rintro e W4 ⟨rfl,q,hq⟩
   have HB4:Hid (Below w.heap.size w W4):=lH (by rw [hq];exact bdN HB3.out q)
   clear hq
   go_wp2_with fail
   go_ret
   exact ⟨rfl,HB4.out⟩
  ·obtain rfl:l=[]:=List.length_eq_zero_iff.1 (by omega)
   have hF:fitB []=false:=by simp [fitB]
   rw [hF]
   clear hF h0 h1
   go_enter Tryd.func66,Tryd.ntmps66
   go_wp2_with fail
   refine (is_any w _ A c [] hr true Hok.out).mono ?_
   rintro e W1 ⟨rfl,rfl⟩
   go_wp2_with fail
   go_ret
   exact ⟨rfl,Below.refl _ _⟩
 ·have hF:fitB l=false:=by simp [fitB,h0]
  have Hok:Hid (okN l=false):=lH (by simpa using h0)
  rw [hF]
  clear hF h0
  go_enter Tryd.func66,Tryd.ntmps66
  go_wp2_with fail
  refine (is_any w _ A c l hr false Hok.out).mono ?_
  rintro e W1 ⟨rfl,rfl⟩
  go_wp2_with fail
  go_ret
  exact ⟨rfl,Below.refl _ _⟩
theorem may_any (w:World) {A:Option Addr} {c:Nat} {l:List Nat} (hr:Rd .u32 w w.heap.size A c l) :
  Calls Tryd.prog 71 #[.slice A l.length c] w fun e w'=>e = .returned (.bool (fitB l))∧Below w.heap.size w w':=by
 by_cases h0:okN l=true
 ·have Hok:=lH h0
  by_cases h1:0<l.length
  ·obtain ⟨v,hv⟩:∃ v,cmpL l lN=v:=⟨_,rfl⟩
   have Hv:=lH hv
   have Hv':Hid (cmpL (trl l) (trl lN)=v):=lH (by rw [trl_id (okN_nrm h0).2,trl_id lN_ok.2.1];exact hv)
   have hF:fitB l=decide (v<0):=by rw [fitB,h0,hv,decide_eq_true h1];simp
   rw [hF]
   have H1:=lH (show (0:Int)<(l.length:Int) by omega)
   clear hF hv h0 h1
   go_enter Tryd.func71,Tryd.ntmps71
   have h1:=H1.out
   go_wp2_with fail
   refine (is'_any w _ A c l hr true Hok.out).mono ?_
   rintro e W1 ⟨rfl,rfl⟩
   go_wp2_with fail
   refine (refN_any w).mono ?_
   rintro e W3 ⟨gn,hgn,rfl,hN,hb⟩
   have HB3:=lH hb
   have HR3:=lH (hr.under hb)
   have HN3:=lH (Eight.rd hN rfl)
   clear hN hgn hb
   go_wp2_with fail
   refine (cmp'_any W3 _ _ A _ c 8 l lN HR3.out HN3.out v Hv.out).mono ?_
   rintro e W4 ⟨rfl,q,hq⟩
   have HB4:Hid (Below w.heap.size w W4):=lH (by rw [hq];exact bdN HB3.out q)
   clear hq
   go_wp2_with fail
   go_ret
   exact ⟨rfl,HB4.out⟩
  ·obtain rfl:l=[]:=List.length_eq_zero_iff.1 (by omega)
   have hF:fitB []=false:=by simp [fitB]
   rw [hF]
   clear hF h0 h1
   go_enter Tryd.func71,Tryd.ntmps71
   go_wp2_with fail
   refine (is'_any w _ A c [] hr true Hok.out).mono ?_
   rintro e W1 ⟨rfl,rfl⟩
   go_wp2_with fail
   go_ret
   exact ⟨rfl,Below.refl _ _⟩
 ·have hF:fitB l=false:=by simp [fitB,h0]
  have Hok:Hid (okN l=false):=lH (by simpa using h0)
  rw [hF]
  clear hF h0
  go_enter Tryd.func71,Tryd.ntmps71
  go_wp2_with fail
  refine (is'_any w _ A c l hr false Hok.out).mono ?_
  rintro e W1 ⟨rfl,rfl⟩
  go_wp2_with fail
  go_ret
  exact ⟨rfl,Below.refl _ _⟩
end Go.Proofs.YtflfdglpljodbaaDoor
namespace Go.Proofs.YtflfdglpljodbaaDoor
open Go.RowKit
set_option linter.unusedVariables false
set_option linter.unusedSimpArgs false
def keyB (al:Int) (ln:List Nat) (en:Int) (lx ly:List Nat) (inf:Bool):Bool:=decide (al=2) && !inf && ptOk lx ly inf && decide ((ln.length:Int)=0) && decide (en=0)
theorem keyIs_any (w:World) (hm:CMet w) (al:Int) (en:Int) (An Ax Ay:Option Addr) (cn cx cy:Nat) (ln lx ly:List Nat) (inf:Bool) (hx:Rd .u32 w w.heap.size Ax cx lx) (hy:Rd .u32 w w.heap.size Ay cy ly) (hdx:Dg lx) (hdy:Dg ly) :
  Calls Tryd.prog 29 #[.agg #[.int .i64 al,.slice An ln.length cn,.int .u32 en,.slice Ax lx.length cx,.slice Ay ly.length cy,.bool inf]] w fun e w'=>e = .returned (.bool (keyB al ln en lx ly inf))∧Below w.heap.size w w':=by
 by_cases ha:al=2
 ·subst ha
  cases inf with
  | true =>
   rw [show keyB 2 ln en lx ly true=false by simp [keyB]]
   go_enter Tryd.func29,Tryd.ntmps29
   go_wp2_with fail
   go_ret
   exact ⟨rfl,(Below.refl _ _).alloc (Nat.le_refl _) _⟩
  | false =>
   obtain ⟨W1,hw⟩:∃ W,W=w.alloc (.cells #[.int .i64 2,.slice An ln.length cn,.int .u32 en,.slice Ax lx.length cx,.slice Ay ly.length cy,.bool false] 45):=⟨_,rfl⟩
   have HW:=lH hw
   have HB:=lH (show Below w.heap.size w W1 by rw [hw];exact (Below.refl _ _).alloc (Nat.le_refl _) _)
   have PB:Hid (Holds W1 w.heap.size 45 #[.int .i64 2,.slice An ln.length cn,.int .u32 en,.slice Ax lx.length cx,.slice Ay ly.length cy,.bool false]):=lH (by rw [hw];exact Holds.fresh w _ _)
   clear hw
   have hK:keyB 2 ln en lx ly false=(ptOk lx ly false && (decide ((ln.length:Int)=0) && decide (en=0))):=by simp [keyB,Bool.and_assoc]
   obtain ⟨b,hP⟩:∃ b,ptOk lx ly false=b:=⟨_,rfl⟩
   rw [hK,hP]
   have HP:=lH hP
   clear hK hP
   cases b with
   | false =>
    rw [Bool.false_and]
    go_enter Tryd.func29,Tryd.ntmps29
    go_wp2_with fail
    rw [←HW.out]
    refine (curveIs_any W1 (hm.under HB.out) Ax Ay cx cy lx ly false ((hx.under HB.out).more HB.out.size) ((hy.under HB.out).more HB.out.size) hdx hdy).mono ?_
    rintro e W2 ⟨rfl,hb⟩
    rw [HP.out]
    have HB2:=lH (HB.out.trans (hb.mono HB.out.size))
    have PB2:=lH (PB.out.under hb (Holds.lt PB.out))
    clear hb
    have p1:=PB2.out.cell 1
    have p2:=PB2.out.cell 2
    go_wp2_with fail
    go_ret
    exact ⟨rfl,HB2.out⟩
   | true =>
    rw [Bool.true_and]
    by_cases h0:(ln.length:Int)=0
    ·rw [decide_eq_true h0,Bool.true_and]
     go_enter Tryd.func29,Tryd.ntmps29
     go_wp2_with fail
     rw [←HW.out]
     refine (curveIs_any W1 (hm.under HB.out) Ax Ay cx cy lx ly false ((hx.under HB.out).more HB.out.size) ((hy.under HB.out).more HB.out.size) hdx hdy).mono ?_
     rintro e W2 ⟨rfl,hb⟩
     rw [HP.out]
     have HB2:=lH (HB.out.trans (hb.mono HB.out.size))
     have PB2:=lH (PB.out.under hb (Holds.lt PB.out))
     clear hb
     have p1:=PB2.out.cell 1
     have p2:=PB2.out.cell 2
     go_wp2_with fail
     go_ret
     exact ⟨rfl,HB2.out⟩
    ·rw [decide_eq_false h0,Bool.false_and]
     have h1:¬ ln.length=0:=by omega
     have h2:¬ ln=[]:=fun e=>h1 (by rw [e];rfl)
     go_enter Tryd.func29,Tryd.ntmps29
     go_wp2_with fail
     rw [←HW.out]
     refine (curveIs_any W1 (hm.under HB.out) Ax Ay cx cy lx ly false ((hx.under HB.out).more HB.out.size) ((hy.under HB.out).more HB.out.size) hdx hdy).mono ?_
     rintro e W2 ⟨rfl,hb⟩
     rw [HP.out]
     have HB2:=lH (HB.out.trans (hb.mono HB.out.size))
     have PB2:=lH (PB.out.under hb (Holds.lt PB.out))
     clear hb
     have p1:=PB2.out.cell 1
     have p2:=PB2.out.cell 2
     go_wp2_with fail
     go_ret
     exact ⟨rfl,HB2.out⟩
 ·rw [show keyB al ln en lx ly inf=false by simp [keyB,ha]]
  go_enter Tryd.func29,Tryd.ntmps29
  go_wp2_with fail
  go_ret
  exact ⟨rfl,(Below.refl _ _).alloc (Nat.le_refl _) _⟩
theorem keyIs'_any (w:World) (al:Int) (en:Int) (An Ax Ay:Option Addr) (cn cx cy:Nat) (ln lx ly:List Nat) (inf:Bool) (hx:Rd .u32 w w.heap.size Ax cx lx) (hy:Rd .u32 w w.heap.size Ay cy ly) (hdx:Dg lx) (hdy:Dg ly) (hsx:lx.length≤1000) (hsy:ly.length≤1000) :
  Calls Tryd.prog 30 #[.agg #[.int .i64 al,.slice An ln.length cn,.int .u32 en,.slice Ax lx.length cx,.slice Ay ly.length cy,.bool inf]] w fun e w'=>e = .returned (.bool (keyB al ln en lx ly inf))∧Below w.heap.size w w':=by
 by_cases ha:al=2
 ·subst ha
  cases inf with
  | true =>
   rw [show keyB 2 ln en lx ly true=false by simp [keyB]]
   go_enter Tryd.func30,Tryd.ntmps30
   go_wp2_with fail
   go_ret
   exact ⟨rfl,(Below.refl _ _).alloc (Nat.le_refl _) _⟩
  | false =>
   obtain ⟨W1,hw⟩:∃ W,W=w.alloc (.cells #[.int .i64 2,.slice An ln.length cn,.int .u32 en,.slice Ax lx.length cx,.slice Ay ly.length cy,.bool false] 45):=⟨_,rfl⟩
   have HW:=lH hw
   have HB:=lH (show Below w.heap.size w W1 by rw [hw];exact (Below.refl _ _).alloc (Nat.le_refl _) _)
   have PB:Hid (Holds W1 w.heap.size 45 #[.int .i64 2,.slice An ln.length cn,.int .u32 en,.slice Ax lx.length cx,.slice Ay ly.length cy,.bool false]):=lH (by rw [hw];exact Holds.fresh w _ _)
   clear hw
   have hK:keyB 2 ln en lx ly false=(ptOk lx ly false && (decide ((ln.length:Int)=0) && decide (en=0))):=by simp [keyB,Bool.and_assoc]
   obtain ⟨b,hP⟩:∃ b,ptOk lx ly false=b:=⟨_,rfl⟩
   rw [hK,hP]
   have HP:=lH hP
   clear hK hP
   cases b with
   | false =>
    rw [Bool.false_and]
    go_enter Tryd.func30,Tryd.ntmps30
    go_wp2_with fail
    rw [←HW.out]
    refine (refIs_any W1 Ax Ay cx cy lx ly false ((hx.under HB.out).more HB.out.size) ((hy.under HB.out).more HB.out.size) hdx hdy hsx hsy).mono ?_
    rintro e W2 ⟨rfl,hb⟩
    rw [HP.out]
    have HB2:=lH (HB.out.trans (hb.mono HB.out.size))
    have PB2:=lH (PB.out.under hb (Holds.lt PB.out))
    clear hb
    have p1:=PB2.out.cell 1
    have p2:=PB2.out.cell 2
    go_wp2_with fail
    go_ret
    exact ⟨rfl,HB2.out⟩
   | true =>
    rw [Bool.true_and]
    by_cases h0:(ln.length:Int)=0
    ·rw [decide_eq_true h0,Bool.true_and]
     go_enter Tryd.func30,Tryd.ntmps30
     go_wp2_with fail
     rw [←HW.out]
     refine (refIs_any W1 Ax Ay cx cy lx ly false ((hx.under HB.out).more HB.out.size) ((hy.under HB.out).more HB.out.size) hdx hdy hsx hsy).mono ?_
     rintro e W2 ⟨rfl,hb⟩
     rw [HP.out]
     have HB2:=lH (HB.out.trans (hb.mono HB.out.size))
     have PB2:=lH (PB.out.under hb (Holds.lt PB.out))
     clear hb
     have p1:=PB2.out.cell 1
     have p2:=PB2.out.cell 2
     go_wp2_with fail
     go_ret
     exact ⟨rfl,HB2.out⟩
    ·rw [decide_eq_false h0,Bool.false_and]
     have h1:¬ ln.length=0:=by omega
     have h2:¬ ln=[]:=fun e=>h1 (by rw [e];rfl)
     go_enter Tryd.func30,Tryd.ntmps30
     go_wp2_with fail
     rw [←HW.out]
     refine (refIs_any W1 Ax Ay cx cy lx ly false ((hx.under HB.out).more HB.out.size) ((hy.under HB.out).more HB.out.size) hdx hdy hsx hsy).mono ?_
     rintro e W2 ⟨rfl,hb⟩
     rw [HP.out]
     have HB2:=lH (HB.out.trans (hb.mono HB.out.size))
     have PB2:=lH (PB.out.under hb (Holds.lt PB.out))
     clear hb
     have p1:=PB2.out.cell 1
     have p2:=PB2.out.cell 2
     go_wp2_with fail
     go_ret
     exact ⟨rfl,HB2.out⟩
 ·rw [show keyB al ln en lx ly inf=false by simp [keyB,ha]]
  go_enter Tryd.func30,Tryd.ntmps30
  go_wp2_with fail
  go_ret
  exact ⟨rfl,(Below.refl _ _).alloc (Nat.le_refl _) _⟩
end Go.Proofs.YtflfdglpljodbaaDoor
namespace Go.Proofs.YtflfdglpljodbaaDoor
open Go.RowKit
set_option linter.unusedVariables false
set_option linter.unusedSimpArgs false
theorem fit_facts {l:List Nat} (h:fitB l=true) (hd:Dg l):nrm l∧val l≠0∧val l<val lN∧l.length≤8:=by
 unfold fitB at h
 rw [Bool.and_eq_true,Bool.and_eq_true,decide_eq_true_eq,decide_eq_true_eq] at h
 obtain ⟨⟨h1,h2⟩,h3⟩:=h
 obtain ⟨h4,hn⟩:=okN_nrm h1
 have hlow:=nrm_low hn h2
 have hpos:=pw_pos (l.length - 1)
 have hlt:val l<val lN:=by
  rw [cmpL_val hd lN_ok.1 hn lN_ok.2.1] at h3
  by_cases c:val l<val lN
  ·exact c
  ·rw [if_neg c] at h3
   split at h3 <;> omega
 exact ⟨hn,by omega,hlt,num_len8 ⟨hd,hn,rfl⟩ (Nat.lt_trans hlt (by rw [lN_val];decide))⟩
theorem fit_cop {l:List Nat} (h:fitB l=true) (hd:Dg l):Nat.gcd (val lN) (val l)=1:=by
 obtain ⟨_,h0,hlt,_⟩:=fit_facts h hd
 rw [lN_val] at hlt ⊢
 exact Luc.cNn_prime.cop fun hdv=>absurd (Nat.le_of_dvd (by omega) hdv) (by omega)
theorem key_pt {w:World} {Ax Ay:Option Addr} {cx cy:Nat} {lx ly:List Nat} (hx:Rd .u32 w w.heap.size Ax cx lx) (hy:Rd .u32 w w.heap.size Ay cy ly) (hdx:Dg lx) (hdy:Dg ly) (h:ptOk lx ly false=true):∃ Q:Luc.Pt,Luc.OnC Q∧PtV Q w Ax cx lx Ay cy ly false:=by
 unfold ptOk at h
 rw [if_neg (by simp),Bool.and_eq_true,Bool.and_eq_true,decide_eq_true_eq] at h
 obtain ⟨⟨hbx,hby⟩,ho⟩:=h
 obtain ⟨nx,vx,_⟩:=blw_nrm hdx hbx
 obtain ⟨ny,vy,_⟩:=blw_nrm hdy hby
 exact ⟨some (⟨val lx,vx⟩,⟨val ly,vy⟩),(rhs_on ⟨val lx,vx⟩ ⟨val ly,vy⟩).1 ho,rfl,⟨hx,hdx,nx,rfl⟩,⟨hy,hdy,ny,rfl⟩⟩
def verF (Q:Luc.Pt) (z r x:Nat):Bool :=
 match Luc.add (Luc.nmul gP (z*x % val lN)) (Luc.nmul Q (r*x % val lN)) with
 | none=>false
 | some p=>decide (p.1.val % val lN=r)
theorem verF_none {Q:Luc.Pt} {z r x:Nat} (h:Luc.add (Luc.nmul gP (z*x % val lN)) (Luc.nmul Q (r*x % val lN))=none):verF Q z r x=false:=by
 unfold verF
 rw [h]
theorem verF_some {Q:Luc.Pt} {z r x:Nat} {a b:Luc.F} (h:Luc.add (Luc.nmul gP (z*x % val lN)) (Luc.nmul Q (r*x % val lN))=some (a,b)):verF Q z r x=decide (a.val % val lN=r):=by
 unfold verF
 rw [h]
def VerP (Q:Luc.Pt) (z r s:Nat) (w:World) (e:Ending) (w':World):Prop :=
 ∃ x,x<val lN∧s*x % val lN=1∧e = .returned (.bool (verF Q z r x))∧Below w.heap.size w w'
theorem cmp_is {l m:List Nat} {n:Nat} (hl:NumIs l n) (hd:Dg m) (hm:nrm m):(cmpL l m == 0)=decide (n=val m):=by
 rw [cmpL_val hl.1 hd hl.2.1 hm,hl.2.2]
 by_cases h:n<val m
 ·rw [if_pos h,decide_eq_false (by omega)];rfl
 ·by_cases h2:val m<n
  ·rw [if_neg h,if_pos h2,decide_eq_false (by omega)];rfl
  ·rw [if_neg h,if_neg h2,decide_eq_true (by omega)];rfl
theorem keyYes (w:World) (hm:CMet w) {al en:Int} {An Ax Ay:Option Addr} {cn cx cy:Nat} {ln lx ly:List Nat} {inf:Bool} {v:Bool} (hx:Rd .u32 w w.heap.size Ax cx lx) (hy:Rd .u32 w w.heap.size Ay cy ly) (hdx:Dg lx) (hdy:Dg ly) (hK:keyB al ln en lx ly inf=v) :
  Calls Tryd.prog 29 #[.agg #[.int .i64 al,.slice An ln.length cn,.int .u32 en,.slice Ax lx.length cx,.slice Ay ly.length cy,.bool inf]] w fun e w'=>e = .returned (.bool v)∧Below w.heap.size w w':=by
 rw [←hK]
 exact keyIs_any w hm al en An Ax Ay cn cx cy ln lx ly inf hx hy hdx hdy
theorem keyYes' (w:World) {al en:Int} {An Ax Ay:Option Addr} {cn cx cy:Nat} {ln lx ly:List Nat} {inf:Bool} {v:Bool} (hx:Rd .u32 w w.heap.size Ax cx lx) (hy:Rd .u32 w w.heap.size Ay cy ly) (hdx:Dg lx) (hdy:Dg ly) (hsx:lx.length≤1000) (hsy:ly.length≤1000) (hK:keyB al ln en lx ly inf=v) :
  Calls Tryd.prog 30 #[.agg #[.int .i64 al,.slice An ln.length cn,.int .u32 en,.slice Ax lx.length cx,.slice Ay ly.length cy,.bool inf]] w fun e w'=>e = .returned (.bool v)∧Below w.heap.size w w':=by
 rw [←hK]
 exact keyIs'_any w al en An Ax Ay cn cx cy ln lx ly inf hx hy hdx hdy hsx hsy
theorem fitV (w:World) {A:Option Addr} {c:Nat} {l:List Nat} {v:Bool} (hr:Rd .u32 w w.heap.size A c l) (hf:fitB l=v) :
  Calls Tryd.prog 66 #[.slice A l.length c] w fun e w'=>e = .returned (.bool v)∧Below w.heap.size w w':=by
 rw [←hf]
 exact fit_any w hr
theorem fitV' (w:World) {A:Option Addr} {c:Nat} {l:List Nat} {v:Bool} (hr:Rd .u32 w w.heap.size A c l) (hf:fitB l=v) :
  Calls Tryd.prog 71 #[.slice A l.length c] w fun e w'=>e = .returned (.bool v)∧Below w.heap.size w w':=by
 rw [←hf]
 exact may_any w hr
theorem one_lt_N:1<val lN:=by rw [lN_val];decide
theorem N_ne:val lN≠0:=by have:=one_lt_N;omega
theorem invN (w:World) {A:Option Addr} {c g:Nat} {l:List Nat} (hr:Rd .u32 w w.heap.size A c l) (hN:Rd .u32 w w.heap.size (some ⟨g,0,none⟩) 8 lN) (hd:Dg l) (hf:fitB l=true) :
  Calls Tryd.prog 67 #[.slice A l.length c,.slice (some ⟨g,0,none⟩) 8 8] w fun e w'=>∃ x,x<val lN∧val l*x % val lN=1∧LeftR w x e w':=by
 obtain ⟨_,_,_,hl⟩:=fit_facts hf hd
 refine (inv_high w A (some ⟨g,0,none⟩) c 8 l lN hr hN hd lN_ok.1 (by omega) (by rw [lN_ok.2.2];omega) lN_ok.2.1 one_lt_N).mono ?_
 rintro e w' (⟨h,_⟩ | ⟨_,x,h1,h2,h3⟩)
 ·exact absurd (fit_cop hf hd) h
 ·exact ⟨x,h1,h2,h3.r⟩
theorem invN' (w:World) {A:Option Addr} {c g:Nat} {l:List Nat} (hr:Rd .u32 w w.heap.size A c l) (hN:Rd .u32 w w.heap.size (some ⟨g,0,none⟩) 8 lN) (hd:Dg l) (hf:fitB l=true) :
  Calls Tryd.prog 72 #[.slice A l.length c,.slice (some ⟨g,0,none⟩) 8 8] w fun e w'=>∃ x,x<val lN∧val l*x % val lN=1∧LeftR w x e w':=by
 obtain ⟨hn,_,_,hl⟩:=fit_facts hf hd
 refine (inv8_high w A (some ⟨g,0,none⟩) c 8 l lN hr hN hd lN_ok.1 (by omega) (by rw [lN_ok.2.2];omega) hn lN_ok.2.1 one_lt_N).mono ?_
 rintro e w' (⟨h,_⟩ | ⟨_,x,h1,h2,h3⟩)
 ·exact absurd (fit_cop hf hd) h
 ·exact ⟨x,h1,h2,h3⟩
theorem mulQ (w:World) {A A':Option Addr} {c c' g:Nat} {l l':List Nat} (hr:Rd .u32 w w.heap.size A c l) (hr':Rd .u32 w w.heap.size A' c' l') (hN:Rd .u32 w w.heap.size (some ⟨g,0,none⟩) 8 lN) (hd:Dg l) (hd':Dg l') (hs:l.length≤1000) (hs':l'.length≤1000) :
  Calls Tryd.prog 68 #[.slice A l.length c,.slice A' l'.length c',.slice (some ⟨g,0,none⟩) 8 8] w (LeftR w (val l*val l' % val lN)) :=
 (mulm_yes w A A' (some ⟨g,0,none⟩) c c' 8 l l' lN hr hr' hN hd hd' lN_ok.1 hs hs' (by rw [lN_ok.2.2];omega) N_ne).mono fun _ _ h=>h.r
theorem mulQ' (w:World) {A A':Option Addr} {c c' g:Nat} {l l':List Nat} (hr:Rd .u32 w w.heap.size A c l) (hr':Rd .u32 w w.heap.size A' c' l') (hN:Rd .u32 w w.heap.size (some ⟨g,0,none⟩) 8 lN) (hd:Dg l) (hd':Dg l') (hs:l.length≤1000) (hs':l'.length≤1000) :
  Calls Tryd.prog 73 #[.slice A l.length c,.slice A' l'.length c',.slice (some ⟨g,0,none⟩) 8 8] w (LeftR w (val l*val l' % val lN)) :=
 mul8_yes w A A' (some ⟨g,0,none⟩) c c' 8 l l' lN hr hr' hN hd hd' lN_ok.1 hs hs' (by rw [lN_ok.2.2];omega) N_ne lN_ok.2.1
theorem of32 (w:World) {A:Option Addr} {c n:Nat} {l:List Nat} (hr:Rd .u8 w w.heap.size A c l) (hn:l.length=n) (ho:Oct l.reverse) :
  Calls Tryd.prog 69 #[.slice A n c] w fun e w'=>∃ A2 c2,e = .returned (.slice A2 (numOf l).length c2)∧Rd .u32 w' w'.heap.size A2 c2 (numOf l)∧Below w.heap.size w w':=by
 subst hn
 exact (of_all w w.heap.size A c l hr (Nat.le_refl _) ho).mono fun _ _ ⟨a,b,h1,h2,h3⟩=>⟨a,b,h1,h2.1,h3⟩
theorem of32' (w:World) {A:Option Addr} {c n:Nat} {l:List Nat} (hr:Rd .u8 w w.heap.size A c l) (hn:l.length=n) (ho:Oct l.reverse) :
  Calls Tryd.prog 74 #[.slice A n c] w fun e w'=>∃ A2 c2,e = .returned (.slice A2 (numOf l).length c2)∧Rd .u32 w' w'.heap.size A2 c2 (numOf l)∧Below w.heap.size w w':=by
 subst hn
 exact (of'_all w w.heap.size A c l hr (Nat.le_refl _) ho).mono fun _ _ ⟨a,b,h1,h2,h3⟩=>⟨a,b,h1,h2.1,h3⟩
theorem timesU (w:World) (hm:CMet w) {P:Luc.Pt} {A A1 A2:Option Addr} {c c1 c2 v:Nat} {l l1 l2:List Nat} {inf:Bool} (hr:Rd .u32 w w.heap.size A c l) (hn:NumIs l (v % val lN)) (hp:PtV P w A1 c1 l1 A2 c2 l2 inf) (ho:Luc.OnC P) :
  Calls Tryd.prog 22 #[.slice A l.length c,.agg #[.slice A1 l1.length c1,.slice A2 l2.length c2,.bool inf]] w (PtR (Luc.nmul P (v % val lN)) w):=by
 have:=timesP w hm hr hn.1 (by have:=num_len8N hn;omega) hp ho
 rwa [hn.2.2,Nat.mod_mod] at this
theorem timesU' (w:World) {P:Luc.Pt} {A A1 A2:Option Addr} {c c1 c2 v:Nat} {l l1 l2:List Nat} {inf:Bool} (hr:Rd .u32 w w.heap.size A c l) (hn:NumIs l (v % val lN)) (hp:PtV P w A1 c1 l1 A2 c2 l2 inf) (ho:Luc.OnC P) :
  Calls Tryd.prog 11 #[.slice A l.length c,.agg #[.slice A1 l1.length c1,.slice A2 l2.length c2,.bool inf]] w (PtR (Luc.nmul P (v % val lN)) w):=by
 have:=timesRP w hr hn.1 (by have:=num_len8N hn;omega) hn.2.1 hp ho
 rwa [hn.2.2] at this
theorem restN (w:World) {A:Option Addr} {c g:Nat} {l:List Nat} (hr:Rd .u32 w w.heap.size A c l) (hN:Rd .u32 w w.heap.size (some ⟨g,0,none⟩) 8 lN) (hd:Dg l) (hs:l.length≤4000) :
  Calls Tryd.prog 61 #[.slice A l.length c,.slice (some ⟨g,0,none⟩) 8 8] w fun e w'=>∃ A1 n1 c1 A2 c2 r,e = .returned (.tuple #[.slice A1 n1 c1,.slice A2 r.length c2,.bool true])∧NumIs r (val l % val lN)∧Rd .u32 w' w'.heap.size A2 c2 r∧Below w.heap.size w w' :=
 (div_any w w.heap.size w.heap.size A (some ⟨g,0,none⟩) c 8 l lN hr hN (Nat.le_refl _) (Nat.le_refl _) hd lN_ok.1 hs (by rw [lN_ok.2.2];omega) N_ne).mono fun _ _ ⟨A2,c2,q,A3,c3,r,h1,h2,h3,h4,h5,h6⟩=>⟨A2,q.length,c2,A3,c3,r,h1,h3,h5.1,h6⟩
theorem restN' (w:World) {A:Option Addr} {c g:Nat} {l:List Nat} (hr:Rd .u32 w w.heap.size A c l) (hN:Rd .u32 w w.heap.size (some ⟨g,0,none⟩) 8 lN) (hd:Dg l) (hn:nrm l) (hs:l.length≤4000) :
  Calls Tryd.prog 65 #[.slice A l.length c,.slice (some ⟨g,0,none⟩) 8 8] w (LeftR w (val l % val lN)) :=
 rest'_yes w w.heap.size w.heap.size A (some ⟨g,0,none⟩) c 8 l lN hr hN (Nat.le_refl _) (Nat.le_refl _) hd lN_ok.1 hs (by rw [lN_ok.2.2];omega) N_ne hn lN_ok.2.1
end Go.Proofs.YtflfdglpljodbaaDoor
namespace Go.Proofs.YtflfdglpljodbaaDoor
open Go.RowKit
set_option linter.unusedVariables false
set_option linter.unusedSimpArgs false
theorem verify_yes (w:World) (hm:CMet w) (al en:Int) {An Ax Ay Ad Ar As:Option Addr} {cn cx cy cd cr cs:Nat} {ln lx ly dg R S:List Nat} {Q:Luc.Pt} (hQ:PtV Q w Ax cx lx Ay cy ly false) (hO:Luc.OnC Q) (hK:keyB al ln en lx ly false=true) (hD:Rd .u8 w w.heap.size Ad cd dg) (h32:dg.length=32) (ho:Oct dg.reverse) (hR:Rd .u32 w w.heap.size Ar cr R) (hRd:Dg R) (hRf:fitB R=true) (hS:Rd .u32 w w.heap.size As cs S) (hSd:Dg S) (hSf:fitB S=true) :
  Calls Tryd.prog 31 #[.agg #[.int .i64 al,.slice An ln.length cn,.int .u32 en,.slice Ax lx.length cx,.slice Ay ly.length cy,.bool false],.slice Ad 32 cd,.agg #[.slice Ar R.length cr,.slice As S.length cs]] w (VerP Q (val (numOf dg)) (val R) (val S) w):=by
 obtain ⟨w1,hw1⟩:∃ W,W=w.alloc (.cells #[.int .i64 al,.slice An ln.length cn,.int .u32 en,.slice Ax lx.length cx,.slice Ay ly.length cy,.bool false] 45):=⟨_,rfl⟩
 have hz1:w1.heap.size=w.heap.size+1:=by rw [hw1];simp
 have hb1:Below w.heap.size w w1:=by rw [hw1];exact (Below.refl _ _).alloc (Nat.le_refl _) _
 obtain ⟨W0,hw2⟩:∃ W,W=w1.alloc (.cells #[.slice Ar R.length cr,.slice As S.length cs] 48):=⟨_,rfl⟩
 have hb:Below w.heap.size w W0:=by rw [hw2];exact hb1.alloc hb1.size _
 have KB0:Hid (Holds W0 w.heap.size 45 #[.int .i64 al,.slice An ln.length cn,.int .u32 en,.slice Ax lx.length cx,.slice Ay ly.length cy,.bool false]):=lH (by rw [hw2,hw1];exact (Holds.fresh w _ _).alloc _)
 have SB0:Hid (Holds W0 (w.heap.size+1) 48 #[.slice Ar R.length cr,.slice As S.length cs]):=lH (by rw [hw2,←hz1];exact Holds.fresh w1 _ _)
 have HB0:=lH hb
 have HM0:=lH (hm.under hb)
 have RD0:=lH ((hD.under hb).more hb.size)
 have RR0:=lH ((hR.under hb).more hb.size)
 have RS0:=lH ((hS.under hb).more hb.size)
 have VQ0:=lH (hQ.under hb)
 have HO:=lH hO
 have HK:=lH hK
 have HD32:=lH h32
 have HDO:=lH ho
 have HDR:=lH hRd
 have HRf:=lH hRf
 have HDS:=lH hSd
 have HSf:=lH hSf
 have HW:=lH (hw1 ▸ hw2:W0=(w.alloc (.cells #[.int .i64 al,.slice An ln.length cn,.int .u32 en,.slice Ax lx.length cx,.slice Ay ly.length cy,.bool false] 45)).alloc (.cells #[.slice Ar R.length cr,.slice As S.length cs] 48))
 clear hw1 hz1 hb1 hw2 hb hQ hO hK hD h32 ho hR hRd hRf hS hSd hSf hm
 go_enter Tryd.func31,Tryd.ntmps31
 go_wp2_with fail
 rw [←HW.out]
 clear HW
 refine (keyYes W0 HM0.out VQ0.out.x.rd VQ0.out.y.rd VQ0.out.x.dg VQ0.out.y.dg HK.out).mono ?_
 rintro e W1 ⟨rfl,hb⟩
 have HB1:=lH (HB0.out.trans (hb.mono HB0.out.size))
 have HM1:=lH (HM0.out.under hb)
 have KB1:=lH (KB0.out.under hb (Holds.lt KB0.out))
 have SB1:=lH (SB0.out.under hb (Holds.lt SB0.out))
 have RD1:=lH ((RD0.out.under hb).more hb.size)
 have RR1:=lH ((RR0.out.under hb).more hb.size)
 have RS1:=lH ((RS0.out.under hb).more hb.size)
 have VQ1:=lH (VQ0.out.under hb)
 clear hb HB0 HM0 KB0 SB0 RD0 RR0 RS0 VQ0
 have s0:=SB1.out.cell 0
 have s1:=SB1.out.cell 1
 go_wp2_with fail
 refine (fitV W1 RR1.out HRf.out).mono ?_
 rintro e W2 ⟨rfl,hb⟩
 have HB2:=lH (HB1.out.trans (hb.mono HB1.out.size))
 have HM2:=lH (HM1.out.under hb)
 have KB2:=lH (KB1.out.under hb (Holds.lt KB1.out))
 have SB2:=lH (SB1.out.under hb (Holds.lt SB1.out))
 have RD2:=lH ((RD1.out.under hb).more hb.size)
 have RR2:=lH ((RR1.out.under hb).more hb.size)
 have RS2:=lH ((RS1.out.under hb).more hb.size)
 have VQ2:=lH (VQ1.out.under hb)
 clear hb HB1 HM1 KB1 SB1 RD1 RR1 RS1 VQ1
 clear s0 s1
 have s0:=SB2.out.cell 0
 have s1:=SB2.out.cell 1
 go_wp2_with fail
 refine (fitV W2 RS2.out HSf.out).mono ?_
 rintro e W3 ⟨rfl,hb⟩
 have HB3:=lH (HB2.out.trans (hb.mono HB2.out.size))
 have HM3:=lH (HM2.out.under hb)
 have KB3:=lH (KB2.out.under hb (Holds.lt KB2.out))
 have SB3:=lH (SB2.out.under hb (Holds.lt SB2.out))
 have RD3:=lH ((RD2.out.under hb).more hb.size)
 have RR3:=lH ((RR2.out.under hb).more hb.size)
 have RS3:=lH ((RS2.out.under hb).more hb.size)
 have VQ3:=lH (VQ2.out.under hb)
 clear hb HB2 HM2 KB2 SB2 RD2 RR2 RS2 VQ2
 clear s0 s1
 go_wp2_with fail
 refine (curveN_any W3).mono ?_
 rintro e W4 ⟨gn,hgn,rfl,hN,hb⟩
 have HB4:=lH (HB3.out.trans (hb.mono HB3.out.size))
 have HM4:=lH (HM3.out.under hb)
 have KB4:=lH (KB3.out.under hb (Holds.lt KB3.out))
 have SB4:=lH (SB3.out.under hb (Holds.lt SB3.out))
 have RD4:=lH ((RD3.out.under hb).more hb.size)
 have RR4:=lH ((RR3.out.under hb).more hb.size)
 have RS4:=lH ((RS3.out.under hb).more hb.size)
 have VQ4:=lH (VQ3.out.under hb)
 clear hb HB3 HM3 KB3 SB3 RD3 RR3 RS3 VQ3
 have HN4:=lH (Eight.rd hN rfl)
 clear hN hgn
 have s0:=SB4.out.cell 0
 have s1:=SB4.out.cell 1
 go_wp2_with fail
 refine (invN W4 RS4.out HN4.out HDS.out HSf.out).mono ?_
 rintro e W5 ⟨x,hx1,hx2,Aw,cw,lw,rfl,hn,hr,hb⟩
 have HB5:=lH (HB4.out.trans (hb.mono HB4.out.size))
 have HM5:=lH (HM4.out.under hb)
 have KB5:=lH (KB4.out.under hb (Holds.lt KB4.out))
 have SB5:=lH (SB4.out.under hb (Holds.lt SB4.out))
 have RD5:=lH ((RD4.out.under hb).more hb.size)
 have RR5:=lH ((RR4.out.under hb).more hb.size)
 have RS5:=lH ((RS4.out.under hb).more hb.size)
 have VQ5:=lH (VQ4.out.under hb)
 have HN5:=lH ((HN4.out.under hb).more hb.size)
 clear hb HB4 HM4 KB4 SB4 RD4 RR4 RS4 VQ4 HN4
 clear s0 s1
 have HX1:=lH hx1
 have HX2:=lH hx2
 have HLW:Hid (NumIs lw (x % val lN)):=lH (by rw [Nat.mod_eq_of_lt hx1];exact hn)
 have RW5:=lH hr
 clear hx1 hx2 hn hr
 go_wp2_with fail
 refine (of32 W5 RD5.out HD32.out HDO.out).mono ?_
 rintro e W6 ⟨Az,cz,rfl,hz,hb⟩
 have HB6:=lH (HB5.out.trans (hb.mono HB5.out.size))
 have HM6:=lH (HM5.out.under hb)
 have KB6:=lH (KB5.out.under hb (Holds.lt KB5.out))
 have SB6:=lH (SB5.out.under hb (Holds.lt SB5.out))
 have RD6:=lH ((RD5.out.under hb).more hb.size)
 have RR6:=lH ((RR5.out.under hb).more hb.size)
 have RS6:=lH ((RS5.out.under hb).more hb.size)
 have VQ6:=lH (VQ5.out.under hb)
 have HN6:=lH ((HN5.out.under hb).more hb.size)
 have RW6:=lH ((RW5.out.under hb).more hb.size)
 clear hb HB5 HM5 KB5 SB5 RD5 RR5 RS5 VQ5 HN5 RW5
 have RZ6:=lH hz
 clear hz
 go_wp2_with fail
 refine (mulQ W6 RZ6.out RW6.out HN6.out (numOf_dg HDO.out) HLW.out.1 (by have:=numOf_length dg;omega) (by have:=num_len8N HLW.out;omega)).mono ?_
 rintro e W7 ⟨Au,cu,lu,rfl,hn,hr,hb⟩
 have HB7:=lH (HB6.out.trans (hb.mono HB6.out.size))
 have HM7:=lH (HM6.out.under hb)
 have KB7:=lH (KB6.out.under hb (Holds.lt KB6.out))
 have SB7:=lH (SB6.out.under hb (Holds.lt SB6.out))
 have RD7:=lH ((RD6.out.under hb).more hb.size)
 have RR7:=lH ((RR6.out.under hb).more hb.size)
 have RS7:=lH ((RS6.out.under hb).more hb.size)
 have VQ7:=lH (VQ6.out.under hb)
 have HN7:=lH ((HN6.out.under hb).more hb.size)
 have RW7:=lH ((RW6.out.under hb).more hb.size)
 have RZ7:=lH ((RZ6.out.under hb).more hb.size)
 clear hb HB6 HM6 KB6 SB6 RD6 RR6 RS6 VQ6 HN6 RW6 RZ6
 rw [HLW.out.2.2,Nat.mod_eq_of_lt HX1.out] at hn
 have HLU:=lH hn
 have RU7:=lH hr
 clear hn hr
 have s0:=SB7.out.cell 0
 have s1:=SB7.out.cell 1
 go_wp2_with fail
 refine (mulQ W7 RR7.out RW7.out HN7.out HDR.out HLW.out.1 (by have:=(fit_facts HRf.out HDR.out).2.2.2;omega) (by have:=num_len8N HLW.out;omega)).mono ?_
 rintro e W8 ⟨Av,cv,lv,rfl,hn,hr,hb⟩
 have HB8:=lH (HB7.out.trans (hb.mono HB7.out.size))
 have HM8:=lH (HM7.out.under hb)
 have KB8:=lH (KB7.out.under hb (Holds.lt KB7.out))
 have SB8:=lH (SB7.out.under hb (Holds.lt SB7.out))
 have RD8:=lH ((RD7.out.under hb).more hb.size)
 have RR8:=lH ((RR7.out.under hb).more hb.size)
 have RS8:=lH ((RS7.out.under hb).more hb.size)
 have VQ8:=lH (VQ7.out.under hb)
 have HN8:=lH ((HN7.out.under hb).more hb.size)
 have RW8:=lH ((RW7.out.under hb).more hb.size)
 have RZ8:=lH ((RZ7.out.under hb).more hb.size)
 have RU8:=lH ((RU7.out.under hb).more hb.size)
 clear hb HB7 HM7 KB7 SB7 RD7 RR7 RS7 VQ7 HN7 RW7 RZ7 RU7
 clear s0 s1
 rw [HLW.out.2.2,Nat.mod_eq_of_lt HX1.out] at hn
 have HLV:=lH hn
 have RV8:=lH hr
 clear hn hr
 clear RD8 RS8 RW8 RZ8
 go_wp2_with fail
 obtain ⟨QQ,HQ⟩:∃ Q_:Exit→Act→World→Prop,Hid (Q_=fun e a W=>e = .normal∧∃ (gs:Nat) (Aj:Option Addr) (cj:Nat) (aj:List Nat) (Bj:Option Addr) (dj:Nat) (bj:List Nat) (ij:Bool),a.tmps=#[tG a 0,.slice Ad 32 cd,tG a 2,.pointer (some ⟨w.heap.size,0,none⟩),tG a 4,.pointer (some ⟨w.heap.size+1,0,none⟩),.bool false,.slice (some ⟨gn,0,none⟩) 8 8,tG a 8,tG a 9,tG a 10,tG a 11,tG a 12,tG a 13,.pointer (some ⟨gs,0,none⟩),tG a 15,tG a 16,tG a 17,tG a 18,tG a 19,tG a 20,tG a 21,tG a 22,tG a 23,tG a 24,tG a 25,tG a 26,tG a 27,tG a 28,tG a 29,tG a 30,tG a 31,tG a 32,tG a 33,tG a 34,tG a 35,tG a 36,tG a 37,tG a 38,tG a 39,tG a 40,tG a 41,tG a 42,tG a 43,tG a 44,tG a 45,tG a 46,tG a 47,tG a 48,tG a 49,tG a 50,tG a 51,tG a 52,tG a 53,tG a 54,tG a 55,tG a 56,tG a 57,tG a 58,tG a 59,tG a 60,tG a 61,tG a 62,tG a 63,tG a 64,tG a 65,tG a 66,tG a 67,tG a 68,tG a 69,tG a 70,tG a 71,tG a 72,tG a 73,tG a 74,tG a 75,tG a 76,tG a 77,tG a 78,tG a 79,tG a 80,tG a 81,tG a 82,tG a 83,tG a 84,tG a 85,tG a 86]∧a.defers=[]∧Below W8.heap.size W8 W∧PtV (Luc.add (Luc.nmul gP (val (numOf dg)*x % val lN)) (Luc.nmul Q (val R*x % val lN))) W Aj cj aj Bj dj bj ij∧Holds W gs 26 #[.slice Aj aj.length cj,.slice Bj bj.length dj,.bool ij]):=⟨_,lH rfl⟩
 refine Code.wp_mono (Q:=QQ) ?_ ?_
 rotate_left 1
 ·refine wp_region_noPanic ?_
  refine wp_region_held_drew (S:=fun W=>Below W8.heap.size W8 W) (by kernel_rfl) ((Below.refl _ W8).drew) (fun hHeld=>?_)
  obtain ⟨V,hV⟩:∃ W,W=W8.drew:=⟨_,rfl⟩
  rw [←hV]
  have HSV:Hid (Below W8.heap.size W8 V):=lH (by rw [hV];exact (Below.refl _ W8).drew)
  replace hHeld:(fun W=>Below W8.heap.size W8 W) V:=HSV.out
  clear hV
  refine tk 0 ⟨some 64,.move (.tmp 10),24,_,_,none⟩ ?_ rfl ?_ hHeld ?_
  rotate_left 1
  ·(intro W hW;(try dsimp only at hW);go_simp;try with_reducible rfl)
  try simp only [aP]
  refine tk 3 ⟨some 67,.move (.tmp 12),24,_,_,none⟩ ?_ rfl ?_ hHeld ?_
  rotate_left 1
  ·(intro W hW;(try dsimp only at hW);go_simp;try with_reducible rfl)
  try simp only [aP]
  refine tk 4 ⟨some 68,.fieldAddr 45 (.tmp 3) 3,0,_,_,none⟩ ?_ rfl ?_ hHeld ?_
  rotate_left 1
  ·(intro W hW;(try dsimp only at hW);go_simp;try with_reducible rfl)
  try simp only [aP]
  refine tk 5 ⟨some 69,.load 26 (.tmp 68),26,_,_,none⟩ ?_ rfl ?_ hHeld ?_
  rotate_left 1
  ·(intro W hW;have hKB:=KB8.out.under hW (Holds.lt KB8.out);have k3:=hKB.cell 3;have k4:=hKB.cell 4;have k5:=hKB.cell 5;(try dsimp only at hW);go_simp;try with_reducible rfl)
  try simp only [aP]
  refine wpAnyH_ready (rs:=[1,8]) (by kernel_rfl) (by simp) ?_
  refine AllReadyH.cons (o:=⟨some 65,.call ⟨ .value (.func 28),#[],#[]⟩,26,_,_,none⟩) rfl (fun K hK=>?_) ?_
  go_simp
  refine (curveGP V).mono ?_
  rintro e V1 ⟨Ah,ch,ah,Bh,dh,bh,ih,rfl,hq,hbN⟩
  have HSV1:=lH (HSV.out.trans (hbN.mono HSV.out.size))
  have XhV1:=lH hq
  clear hbN hq
  clear HSV
  go_simp
  refine hK.out _ _ (HSV1.out) (fun hHeld=>?_)
  clear hK K
  try simp only [aP]
  refine wpAnyH_ready (rs:=[2,8]) (by kernel_rfl) (by simp) ?_
  refine AllReadyH.cons (o:=⟨some 66,.call ⟨ .value (.func 22),#[.tmp 64,.tmp 65],#[24,26]⟩,26,_,_,none⟩) rfl (fun K hK=>?_) ?_
  go_simp
  refine (timesU V1 (HM8.out.under HSV1.out) ((RU8.out.under HSV1.out).more HSV1.out.size) HLU.out XhV1.out gP_on).mono ?_
  rintro e V12 ⟨Ap,cp,ap,Bp,dp,bp,ip,rfl,hq,hbN⟩
  have HSV12:=lH (HSV1.out.trans (hbN.mono HSV1.out.size))
  have XpV12:=lH hq
  clear hbN hq
  clear HSV1 XhV1
  go_simp
  refine hK.out _ _ (HSV12.out) (fun hHeld=>?_)
  clear hK K
  try simp only [aP]
  refine wpAnyH_ready (rs:=[6,8]) (by kernel_rfl) (by simp) ?_
  refine AllReadyH.cons (o:=⟨some 70,.call ⟨ .value (.func 22),#[.tmp 67,.tmp 69],#[24,26]⟩,26,_,_,none⟩) rfl (fun K hK=>?_) ?_
  go_simp
  refine (timesU V12 (HM8.out.under HSV12.out) ((RV8.out.under HSV12.out).more HSV12.out.size) HLV.out (VQ8.out.under HSV12.out) HO.out).mono ?_
  rintro e V126 ⟨Aq,cq,aq,Bq,dq,bq,iq,rfl,hq,hbN⟩
  have HSV126:=lH (HSV12.out.trans (hbN.mono HSV12.out.size))
  have XqV126:=lH hq
  have XpV126:=lH (XpV12.out.under hbN)
  clear hbN hq
  clear HSV12 XpV12
  go_simp
  refine hK.out _ _ (HSV126.out) (fun hHeld=>?_)
  clear hK K
  try simp only [aP]
  refine wpAnyH_ready (rs:=[7,8]) (by kernel_rfl) (by simp) ?_
  refine AllReadyH.cons (o:=⟨some 71,.call ⟨ .value (.func 14),#[.tmp 66,.tmp 70],#[26,26]⟩,26,_,_,none⟩) rfl (fun K hK=>?_) ?_
  go_simp
  refine (addP V126 (HM8.out.under HSV126.out) XpV126.out XqV126.out (Luc.nmul_on gP_on _) (Luc.nmul_on HO.out _)).mono ?_
  rintro e V1267 ⟨Aj,cj,aj,Bj,dj,bj,ij,rfl,hq,hbN⟩
  have HSV1267:=lH (HSV126.out.trans (hbN.mono HSV126.out.size))
  have XjV1267:=lH hq
  clear hbN hq
  clear HSV126 XpV126 XqV126
  go_simp
  refine hK.out _ _ (HSV1267.out) (fun hHeld=>?_)
  clear hK K
  try simp only [aP]
  refine rdy 8 ⟨some 14,.alloc 26,0,_,_,none⟩ rfl (fun K hK=>?_)
  obtain ⟨V12678,hN⟩:∃ W,W=V1267.alloc (.cells #[.slice none 0 0,.slice none 0 0,.bool false] 26):=⟨_,rfl⟩
  go_simp
  rw [←hN]
  obtain ⟨gs,hg⟩:∃ g,g=V1267.heap.size:=⟨_,rfl⟩
  rw [←hg]
  have hbN:Below V1267.heap.size V1267 V12678:=by rw [hN];exact (Below.refl _ _).alloc (Nat.le_refl _) _
  have GSV12678:Hid (Holds V12678 gs 26 #[.slice none 0 0,.slice none 0 0,.bool false]):=lH (by rw [hN,hg];exact Holds.fresh _ _ _)
  have HGV12678:Hid (W8.heap.size≤gs):=lH (by rw [hg];exact HSV1267.out.size)
  have HSV12678:=lH (HSV1267.out.trans (hbN.mono HSV1267.out.size))
  have XjV12678:=lH (XjV1267.out.under hbN)
  clear hN hg hbN
  clear HSV1267 XjV1267
  refine hK.out _ _ (HSV12678.out) (fun hHeld=>?_)
  clear hK K
  try simp only [aP]
  refine rdy 9 ⟨none,.store 26 (.tmp 14) (.tmp 71),0,_,_,none⟩ rfl (fun K hK=>?_)
  have z0:=GSV12678.out.cell 0
  have o0:=GSV12678.out.open_ 0
  have z1:=GSV12678.out.cell 1
  have o1:=GSV12678.out.open_ 1
  have z2:=GSV12678.out.cell 2
  have o2:=GSV12678.out.open_ 2
  obtain ⟨V126789,hN⟩:∃ W,W=(((V12678.setCell ⟨gs,0,none⟩ (.slice Aj aj.length cj)).setCell ⟨gs,1,none⟩ (.slice Bj bj.length dj)).setCell ⟨gs,2,none⟩ (.bool ij)):=⟨_,rfl⟩
  go_simp
  rw [←hN]
  have GSV126789:Hid (Holds V126789 gs 26 #[.slice Aj aj.length cj,.slice Bj bj.length dj,.bool ij]):=lH (by rw [hN];exact set3 GSV12678.out _ _ _)
  have HSV126789:Hid (Below W8.heap.size W8 V126789):=lH (by rw [hN];exact below3 HSV12678.out HGV12678.out _ _ _)
  have XjV126789:Hid (PtV (Luc.add (Luc.nmul gP (val (numOf dg)*x % val lN)) (Luc.nmul Q (val R*x % val lN))) V126789 Aj cj aj Bj dj bj ij):=lH ⟨XjV12678.out.inf,by rw [hN];exact XjV12678.out.x.store3 GSV12678.out no_numsP _ _ _,by rw [hN];exact XjV12678.out.y.store3 GSV12678.out no_numsP _ _ _⟩
  clear hN z0 z1 z2 o0 o1 o2
  clear HSV12678 XjV12678 GSV12678 HGV12678
  refine hK.out _ _ (HSV126789.out) (fun hHeld=>?_)
  clear hK K
  try simp only [aP]
  refine wpAnyH_done (by kernel_rfl) ?_ _
  refine NoPanic.normal ?_
  rw [HQ.out]
  exact ⟨rfl,gs,Aj,cj,aj,Bj,dj,bj,ij,rfl,rfl,HSV126789.out,XjV126789.out,GSV126789.out⟩
  refine AllReadyH.cons (o:=⟨some 14,.alloc 26,0,_,_,none⟩) rfl (fun K hK=>?_) AllReadyH.nil
  obtain ⟨V1268,hN⟩:∃ W,W=V126.alloc (.cells #[.slice none 0 0,.slice none 0 0,.bool false] 26):=⟨_,rfl⟩
  go_simp
  rw [←hN]
  obtain ⟨gs,hg⟩:∃ g,g=V126.heap.size:=⟨_,rfl⟩
  rw [←hg]
  have hbN:Below V126.heap.size V126 V1268:=by rw [hN];exact (Below.refl _ _).alloc (Nat.le_refl _) _
  have GSV1268:Hid (Holds V1268 gs 26 #[.slice none 0 0,.slice none 0 0,.bool false]):=lH (by rw [hN,hg];exact Holds.fresh _ _ _)
  have HGV1268:Hid (W8.heap.size≤gs):=lH (by rw [hg];exact HSV126.out.size)
  have HSV1268:=lH (HSV126.out.trans (hbN.mono HSV126.out.size))
  have XpV1268:=lH (XpV126.out.under hbN)
  have XqV1268:=lH (XqV126.out.under hbN)
  clear hN hg hbN
  clear HSV126 XpV126 XqV126
  refine hK.out _ _ (HSV1268.out) (fun hHeld=>?_)
  clear hK K
  try simp only [aP]
  refine rdy 7 ⟨some 71,.call ⟨ .value (.func 14),#[.tmp 66,.tmp 70],#[26,26]⟩,26,_,_,none⟩ rfl (fun K hK=>?_)
  go_simp
  refine (addP V1268 (HM8.out.under HSV1268.out) XpV1268.out XqV1268.out (Luc.nmul_on gP_on _) (Luc.nmul_on HO.out _)).mono ?_
  rintro e V12687 ⟨Aj,cj,aj,Bj,dj,bj,ij,rfl,hq,hbN⟩
  have HSV12687:=lH (HSV1268.out.trans (hbN.mono HSV1268.out.size))
  have XjV12687:=lH hq
  have GSV12687:=lH (GSV1268.out.under hbN (Holds.lt GSV1268.out))
  have HGV12687:=lH HGV1268.out
  clear hbN hq
  clear HSV1268 XpV1268 XqV1268 GSV1268 HGV1268
  go_simp
  refine hK.out _ _ (HSV12687.out) (fun hHeld=>?_)
  clear hK K
  try simp only [aP]
  refine rdy 9 ⟨none,.store 26 (.tmp 14) (.tmp 71),0,_,_,none⟩ rfl (fun K hK=>?_)
  have z0:=GSV12687.out.cell 0
  have o0:=GSV12687.out.open_ 0
  have z1:=GSV12687.out.cell 1
  have o1:=GSV12687.out.open_ 1
  have z2:=GSV12687.out.cell 2
  have o2:=GSV12687.out.open_ 2
  obtain ⟨V126879,hN⟩:∃ W,W=(((V12687.setCell ⟨gs,0,none⟩ (.slice Aj aj.length cj)).setCell ⟨gs,1,none⟩ (.slice Bj bj.length dj)).setCell ⟨gs,2,none⟩ (.bool ij)):=⟨_,rfl⟩
  go_simp
  rw [←hN]
  have GSV126879:Hid (Holds V126879 gs 26 #[.slice Aj aj.length cj,.slice Bj bj.length dj,.bool ij]):=lH (by rw [hN];exact set3 GSV12687.out _ _ _)
  have HSV126879:Hid (Below W8.heap.size W8 V126879):=lH (by rw [hN];exact below3 HSV12687.out HGV12687.out _ _ _)
  have XjV126879:Hid (PtV (Luc.add (Luc.nmul gP (val (numOf dg)*x % val lN)) (Luc.nmul Q (val R*x % val lN))) V126879 Aj cj aj Bj dj bj ij):=lH ⟨XjV12687.out.inf,by rw [hN];exact XjV12687.out.x.store3 GSV12687.out no_numsP _ _ _,by rw [hN];exact XjV12687.out.y.store3 GSV12687.out no_numsP _ _ _⟩
  clear hN z0 z1 z2 o0 o1 o2
  clear HSV12687 XjV12687 GSV12687 HGV12687
  refine hK.out _ _ (HSV126879.out) (fun hHeld=>?_)
  clear hK K
  try simp only [aP]
  refine wpAnyH_done (by kernel_rfl) ?_ _
  refine NoPanic.normal ?_
  rw [HQ.out]
  exact ⟨rfl,gs,Aj,cj,aj,Bj,dj,bj,ij,rfl,rfl,HSV126879.out,XjV126879.out,GSV126879.out⟩
  refine AllReadyH.cons (o:=⟨some 14,.alloc 26,0,_,_,none⟩) rfl (fun K hK=>?_) AllReadyH.nil
  obtain ⟨V128,hN⟩:∃ W,W=V12.alloc (.cells #[.slice none 0 0,.slice none 0 0,.bool false] 26):=⟨_,rfl⟩
  go_simp
  rw [←hN]
  obtain ⟨gs,hg⟩:∃ g,g=V12.heap.size:=⟨_,rfl⟩
  rw [←hg]
  have hbN:Below V12.heap.size V12 V128:=by rw [hN];exact (Below.refl _ _).alloc (Nat.le_refl _) _
  have GSV128:Hid (Holds V128 gs 26 #[.slice none 0 0,.slice none 0 0,.bool false]):=lH (by rw [hN,hg];exact Holds.fresh _ _ _)
  have HGV128:Hid (W8.heap.size≤gs):=lH (by rw [hg];exact HSV12.out.size)
  have HSV128:=lH (HSV12.out.trans (hbN.mono HSV12.out.size))
  have XpV128:=lH (XpV12.out.under hbN)
  clear hN hg hbN
  clear HSV12 XpV12
  refine hK.out _ _ (HSV128.out) (fun hHeld=>?_)
  clear hK K
  try simp only [aP]
  refine rdy 6 ⟨some 70,.call ⟨ .value (.func 22),#[.tmp 67,.tmp 69],#[24,26]⟩,26,_,_,none⟩ rfl (fun K hK=>?_)
  go_simp
  refine (timesU V128 (HM8.out.under HSV128.out) ((RV8.out.under HSV128.out).more HSV128.out.size) HLV.out (VQ8.out.under HSV128.out) HO.out).mono ?_
  rintro e V1286 ⟨Aq,cq,aq,Bq,dq,bq,iq,rfl,hq,hbN⟩
  have HSV1286:=lH (HSV128.out.trans (hbN.mono HSV128.out.size))
  have XqV1286:=lH hq
  have XpV1286:=lH (XpV128.out.under hbN)
  have GSV1286:=lH (GSV128.out.under hbN (Holds.lt GSV128.out))
  have HGV1286:=lH HGV128.out
  clear hbN hq
  clear HSV128 XpV128 GSV128 HGV128
  go_simp
  refine hK.out _ _ (HSV1286.out) (fun hHeld=>?_)
  clear hK K
  try simp only [aP]
  refine rdy 7 ⟨some 71,.call ⟨ .value (.func 14),#[.tmp 66,.tmp 70],#[26,26]⟩,26,_,_,none⟩ rfl (fun K hK=>?_)
  go_simp
  refine (addP V1286 (HM8.out.under HSV1286.out) XpV1286.out XqV1286.out (Luc.nmul_on gP_on _) (Luc.nmul_on HO.out _)).mono ?_
  rintro e V12867 ⟨Aj,cj,aj,Bj,dj,bj,ij,rfl,hq,hbN⟩
  have HSV12867:=lH (HSV1286.out.trans (hbN.mono HSV1286.out.size))
  have XjV12867:=lH hq
  have GSV12867:=lH (GSV1286.out.under hbN (Holds.lt GSV1286.out))
  have HGV12867:=lH HGV1286.out
  clear hbN hq
  clear HSV1286 XpV1286 XqV1286 GSV1286 HGV1286
  go_simp
  refine hK.out _ _ (HSV12867.out) (fun hHeld=>?_)
  clear hK K
  try simp only [aP]
  refine rdy 9 ⟨none,.store 26 (.tmp 14) (.tmp 71),0,_,_,none⟩ rfl (fun K hK=>?_)
  have z0:=GSV12867.out.cell 0
  have o0:=GSV12867.out.open_ 0
  have z1:=GSV12867.out.cell 1
  have o1:=GSV12867.out.open_ 1
  have z2:=GSV12867.out.cell 2
  have o2:=GSV12867.out.open_ 2
  obtain ⟨V128679,hN⟩:∃ W,W=(((V12867.setCell ⟨gs,0,none⟩ (.slice Aj aj.length cj)).setCell ⟨gs,1,none⟩ (.slice Bj bj.length dj)).setCell ⟨gs,2,none⟩ (.bool ij)):=⟨_,rfl⟩
  go_simp
  rw [←hN]
  have GSV128679:Hid (Holds V128679 gs 26 #[.slice Aj aj.length cj,.slice Bj bj.length dj,.bool ij]):=lH (by rw [hN];exact set3 GSV12867.out _ _ _)
  have HSV128679:Hid (Below W8.heap.size W8 V128679):=lH (by rw [hN];exact below3 HSV12867.out HGV12867.out _ _ _)
  have XjV128679:Hid (PtV (Luc.add (Luc.nmul gP (val (numOf dg)*x % val lN)) (Luc.nmul Q (val R*x % val lN))) V128679 Aj cj aj Bj dj bj ij):=lH ⟨XjV12867.out.inf,by rw [hN];exact XjV12867.out.x.store3 GSV12867.out no_numsP _ _ _,by rw [hN];exact XjV12867.out.y.store3 GSV12867.out no_numsP _ _ _⟩
  clear hN z0 z1 z2 o0 o1 o2
  clear HSV12867 XjV12867 GSV12867 HGV12867
  refine hK.out _ _ (HSV128679.out) (fun hHeld=>?_)
  clear hK K
  try simp only [aP]
  refine wpAnyH_done (by kernel_rfl) ?_ _
  refine NoPanic.normal ?_
  rw [HQ.out]
  exact ⟨rfl,gs,Aj,cj,aj,Bj,dj,bj,ij,rfl,rfl,HSV128679.out,XjV128679.out,GSV128679.out⟩
  refine AllReadyH.cons (o:=⟨some 14,.alloc 26,0,_,_,none⟩) rfl (fun K hK=>?_) AllReadyH.nil
  obtain ⟨V18,hN⟩:∃ W,W=V1.alloc (.cells #[.slice none 0 0,.slice none 0 0,.bool false] 26):=⟨_,rfl⟩
  go_simp
  rw [←hN]
  obtain ⟨gs,hg⟩:∃ g,g=V1.heap.size:=⟨_,rfl⟩
  rw [←hg]
  have hbN:Below V1.heap.size V1 V18:=by rw [hN];exact (Below.refl _ _).alloc (Nat.le_refl _) _
  have GSV18:Hid (Holds V18 gs 26 #[.slice none 0 0,.slice none 0 0,.bool false]):=lH (by rw [hN,hg];exact Holds.fresh _ _ _)
  have HGV18:Hid (W8.heap.size≤gs):=lH (by rw [hg];exact HSV1.out.size)
  have HSV18:=lH (HSV1.out.trans (hbN.mono HSV1.out.size))
  have XhV18:=lH (XhV1.out.under hbN)
  clear hN hg hbN
  clear HSV1 XhV1
  refine hK.out _ _ (HSV18.out) (fun hHeld=>?_)
  clear hK K
  try simp only [aP]
  refine rdy 2 ⟨some 66,.call ⟨ .value (.func 22),#[.tmp 64,.tmp 65],#[24,26]⟩,26,_,_,none⟩ rfl (fun K hK=>?_)
  go_simp
  refine (timesU V18 (HM8.out.under HSV18.out) ((RU8.out.under HSV18.out).more HSV18.out.size) HLU.out XhV18.out gP_on).mono ?_
  rintro e V182 ⟨Ap,cp,ap,Bp,dp,bp,ip,rfl,hq,hbN⟩
  have HSV182:=lH (HSV18.out.trans (hbN.mono HSV18.out.size))
  have XpV182:=lH hq
  have GSV182:=lH (GSV18.out.under hbN (Holds.lt GSV18.out))
  have HGV182:=lH HGV18.out
  clear hbN hq
  clear HSV18 XhV18 GSV18 HGV18
  go_simp
  refine hK.out _ _ (HSV182.out) (fun hHeld=>?_)
  clear hK K
  try simp only [aP]
  refine rdy 6 ⟨some 70,.call ⟨ .value (.func 22),#[.tmp 67,.tmp 69],#[24,26]⟩,26,_,_,none⟩ rfl (fun K hK=>?_)
  go_simp
  refine (timesU V182 (HM8.out.under HSV182.out) ((RV8.out.under HSV182.out).more HSV182.out.size) HLV.out (VQ8.out.under HSV182.out) HO.out).mono ?_
  rintro e V1826 ⟨Aq,cq,aq,Bq,dq,bq,iq,rfl,hq,hbN⟩
  have HSV1826:=lH (HSV182.out.trans (hbN.mono HSV182.out.size))
  have XqV1826:=lH hq
  have XpV1826:=lH (XpV182.out.under hbN)
  have GSV1826:=lH (GSV182.out.under hbN (Holds.lt GSV182.out))
  have HGV1826:=lH HGV182.out
  clear hbN hq
  clear HSV182 XpV182 GSV182 HGV182
  go_simp
  refine hK.out _ _ (HSV1826.out) (fun hHeld=>?_)
  clear hK K
  try simp only [aP]
  refine rdy 7 ⟨some 71,.call ⟨ .value (.func 14),#[.tmp 66,.tmp 70],#[26,26]⟩,26,_,_,none⟩ rfl (fun K hK=>?_)
  go_simp
  refine (addP V1826 (HM8.out.under HSV1826.out) XpV1826.out XqV1826.out (Luc.nmul_on gP_on _) (Luc.nmul_on HO.out _)).mono ?_
  rintro e V18267 ⟨Aj,cj,aj,Bj,dj,bj,ij,rfl,hq,hbN⟩
  have HSV18267:=lH (HSV1826.out.trans (hbN.mono HSV1826.out.size))
  have XjV18267:=lH hq
  have GSV18267:=lH (GSV1826.out.under hbN (Holds.lt GSV1826.out))
  have HGV18267:=lH HGV1826.out
  clear hbN hq
  clear HSV1826 XpV1826 XqV1826 GSV1826 HGV1826
  go_simp
  refine hK.out _ _ (HSV18267.out) (fun hHeld=>?_)
  clear hK K
  try simp only [aP]
  refine rdy 9 ⟨none,.store 26 (.tmp 14) (.tmp 71),0,_,_,none⟩ rfl (fun K hK=>?_)
  have z0:=GSV18267.out.cell 0
  have o0:=GSV18267.out.open_ 0
  have z1:=GSV18267.out.cell 1
  have o1:=GSV18267.out.open_ 1
  have z2:=GSV18267.out.cell 2
  have o2:=GSV18267.out.open_ 2
  obtain ⟨V182679,hN⟩:∃ W,W=(((V18267.setCell ⟨gs,0,none⟩ (.slice Aj aj.length cj)).setCell ⟨gs,1,none⟩ (.slice Bj bj.length dj)).setCell ⟨gs,2,none⟩ (.bool ij)):=⟨_,rfl⟩
  go_simp
  rw [←hN]
  have GSV182679:Hid (Holds V182679 gs 26 #[.slice Aj aj.length cj,.slice Bj bj.length dj,.bool ij]):=lH (by rw [hN];exact set3 GSV18267.out _ _ _)
  have HSV182679:Hid (Below W8.heap.size W8 V182679):=lH (by rw [hN];exact below3 HSV18267.out HGV18267.out _ _ _)
  have XjV182679:Hid (PtV (Luc.add (Luc.nmul gP (val (numOf dg)*x % val lN)) (Luc.nmul Q (val R*x % val lN))) V182679 Aj cj aj Bj dj bj ij):=lH ⟨XjV18267.out.inf,by rw [hN];exact XjV18267.out.x.store3 GSV18267.out no_numsP _ _ _,by rw [hN];exact XjV18267.out.y.store3 GSV18267.out no_numsP _ _ _⟩
  clear hN z0 z1 z2 o0 o1 o2
  clear HSV18267 XjV18267 GSV18267 HGV18267
  refine hK.out _ _ (HSV182679.out) (fun hHeld=>?_)
  clear hK K
  try simp only [aP]
  refine wpAnyH_done (by kernel_rfl) ?_ _
  refine NoPanic.normal ?_
  rw [HQ.out]
  exact ⟨rfl,gs,Aj,cj,aj,Bj,dj,bj,ij,rfl,rfl,HSV182679.out,XjV182679.out,GSV182679.out⟩
  refine AllReadyH.cons (o:=⟨some 14,.alloc 26,0,_,_,none⟩) rfl (fun K hK=>?_) AllReadyH.nil
  obtain ⟨V8,hN⟩:∃ W,W=V.alloc (.cells #[.slice none 0 0,.slice none 0 0,.bool false] 26):=⟨_,rfl⟩
  go_simp
  rw [←hN]
  obtain ⟨gs,hg⟩:∃ g,g=V.heap.size:=⟨_,rfl⟩
  rw [←hg]
  have hbN:Below V.heap.size V V8:=by rw [hN];exact (Below.refl _ _).alloc (Nat.le_refl _) _
  have GSV8:Hid (Holds V8 gs 26 #[.slice none 0 0,.slice none 0 0,.bool false]):=lH (by rw [hN,hg];exact Holds.fresh _ _ _)
  have HGV8:Hid (W8.heap.size≤gs):=lH (by rw [hg];exact HSV.out.size)
  have HSV8:=lH (HSV.out.trans (hbN.mono HSV.out.size))
  clear hN hg hbN
  clear HSV
  refine hK.out _ _ (HSV8.out) (fun hHeld=>?_)
  clear hK K
  try simp only [aP]
  refine rdy 1 ⟨some 65,.call ⟨ .value (.func 28),#[],#[]⟩,26,_,_,none⟩ rfl (fun K hK=>?_)
  go_simp
  refine (curveGP V8).mono ?_
  rintro e V81 ⟨Ah,ch,ah,Bh,dh,bh,ih,rfl,hq,hbN⟩
  have HSV81:=lH (HSV8.out.trans (hbN.mono HSV8.out.size))
  have XhV81:=lH hq
  have GSV81:=lH (GSV8.out.under hbN (Holds.lt GSV8.out))
  have HGV81:=lH HGV8.out
  clear hbN hq
  clear HSV8  GSV8 HGV8
  go_simp
  refine hK.out _ _ (HSV81.out) (fun hHeld=>?_)
  clear hK K
  try simp only [aP]
  refine rdy 2 ⟨some 66,.call ⟨ .value (.func 22),#[.tmp 64,.tmp 65],#[24,26]⟩,26,_,_,none⟩ rfl (fun K hK=>?_)
  go_simp
  refine (timesU V81 (HM8.out.under HSV81.out) ((RU8.out.under HSV81.out).more HSV81.out.size) HLU.out XhV81.out gP_on).mono ?_
  rintro e V812 ⟨Ap,cp,ap,Bp,dp,bp,ip,rfl,hq,hbN⟩
  have HSV812:=lH (HSV81.out.trans (hbN.mono HSV81.out.size))
  have XpV812:=lH hq
  have GSV812:=lH (GSV81.out.under hbN (Holds.lt GSV81.out))
  have HGV812:=lH HGV81.out
  clear hbN hq
  clear HSV81 XhV81 GSV81 HGV81
  go_simp
  refine hK.out _ _ (HSV812.out) (fun hHeld=>?_)
  clear hK K
  try simp only [aP]
  refine rdy 6 ⟨some 70,.call ⟨ .value (.func 22),#[.tmp 67,.tmp 69],#[24,26]⟩,26,_,_,none⟩ rfl (fun K hK=>?_)
  go_simp
  refine (timesU V812 (HM8.out.under HSV812.out) ((RV8.out.under HSV812.out).more HSV812.out.size) HLV.out (VQ8.out.under HSV812.out) HO.out).mono ?_
  rintro e V8126 ⟨Aq,cq,aq,Bq,dq,bq,iq,rfl,hq,hbN⟩
  have HSV8126:=lH (HSV812.out.trans (hbN.mono HSV812.out.size))
  have XqV8126:=lH hq
  have XpV8126:=lH (XpV812.out.under hbN)
  have GSV8126:=lH (GSV812.out.under hbN (Holds.lt GSV812.out))
  have HGV8126:=lH HGV812.out
  clear hbN hq
  clear HSV812 XpV812 GSV812 HGV812
  go_simp
  refine hK.out _ _ (HSV8126.out) (fun hHeld=>?_)
  clear hK K
  try simp only [aP]
  refine rdy 7 ⟨some 71,.call ⟨ .value (.func 14),#[.tmp 66,.tmp 70],#[26,26]⟩,26,_,_,none⟩ rfl (fun K hK=>?_)
  go_simp
  refine (addP V8126 (HM8.out.under HSV8126.out) XpV8126.out XqV8126.out (Luc.nmul_on gP_on _) (Luc.nmul_on HO.out _)).mono ?_
  rintro e V81267 ⟨Aj,cj,aj,Bj,dj,bj,ij,rfl,hq,hbN⟩
  have HSV81267:=lH (HSV8126.out.trans (hbN.mono HSV8126.out.size))
  have XjV81267:=lH hq
  have GSV81267:=lH (GSV8126.out.under hbN (Holds.lt GSV8126.out))
  have HGV81267:=lH HGV8126.out
  clear hbN hq
  clear HSV8126 XpV8126 XqV8126 GSV8126 HGV8126
  go_simp
  refine hK.out _ _ (HSV81267.out) (fun hHeld=>?_)
  clear hK K
  try simp only [aP]
  refine rdy 9 ⟨none,.store 26 (.tmp 14) (.tmp 71),0,_,_,none⟩ rfl (fun K hK=>?_)
  have z0:=GSV81267.out.cell 0
  have o0:=GSV81267.out.open_ 0
  have z1:=GSV81267.out.cell 1
  have o1:=GSV81267.out.open_ 1
  have z2:=GSV81267.out.cell 2
  have o2:=GSV81267.out.open_ 2
  obtain ⟨V812679,hN⟩:∃ W,W=(((V81267.setCell ⟨gs,0,none⟩ (.slice Aj aj.length cj)).setCell ⟨gs,1,none⟩ (.slice Bj bj.length dj)).setCell ⟨gs,2,none⟩ (.bool ij)):=⟨_,rfl⟩
  go_simp
  rw [←hN]
  have GSV812679:Hid (Holds V812679 gs 26 #[.slice Aj aj.length cj,.slice Bj bj.length dj,.bool ij]):=lH (by rw [hN];exact set3 GSV81267.out _ _ _)
  have HSV812679:Hid (Below W8.heap.size W8 V812679):=lH (by rw [hN];exact below3 HSV81267.out HGV81267.out _ _ _)
  have XjV812679:Hid (PtV (Luc.add (Luc.nmul gP (val (numOf dg)*x % val lN)) (Luc.nmul Q (val R*x % val lN))) V812679 Aj cj aj Bj dj bj ij):=lH ⟨XjV81267.out.inf,by rw [hN];exact XjV81267.out.x.store3 GSV81267.out no_numsP _ _ _,by rw [hN];exact XjV81267.out.y.store3 GSV81267.out no_numsP _ _ _⟩
  clear hN z0 z1 z2 o0 o1 o2
  clear HSV81267 XjV81267 GSV81267 HGV81267
  refine hK.out _ _ (HSV812679.out) (fun hHeld=>?_)
  clear hK K
  try simp only [aP]
  refine wpAnyH_done (by kernel_rfl) ?_ _
  refine NoPanic.normal ?_
  rw [HQ.out]
  exact ⟨rfl,gs,Aj,cj,aj,Bj,dj,bj,ij,rfl,rfl,HSV812679.out,XjV812679.out,GSV812679.out⟩
 rintro e a W9 hq
 rw [HQ.out] at hq
 obtain ⟨rfl,gs,Aj,cj,aj,Bj,dj,bj,ij,htm,hdf,hb,hV,hG⟩:=hq
 clear HQ
 obtain ⟨tm,df⟩:=a
 dsimp only at htm hdf
 subst hdf
 obtain ⟨U,hU⟩:∃ U:Nat→Value,∀ i,tm.getD i undef=U i:=⟨_,fun _=>rfl⟩
 simp only [tG,hU] at htm
 clear hU
 subst htm
 clear RU8 RV8 VQ8 KB8
 have HB9:=lH (HB8.out.trans (hb.mono HB8.out.size))
 have HM9:=lH (HM8.out.under hb)
 have SB9:=lH (SB8.out.under hb (Holds.lt SB8.out))
 have RR9:=lH ((RR8.out.under hb).more hb.size)
 have HN9:=lH ((HN8.out.under hb).more hb.size)
 clear hb HB8 HM8 SB8 RR8 HN8
 have Vj9:=lH hV
 have PB9:=lH hG
 clear hV hG
 rcases HT:Luc.add (Luc.nmul gP (val (numOf dg)*x % val lN)) (Luc.nmul Q (val R*x % val lN)) with _ | ⟨xj,yj⟩
 ·rw [HT] at Vj9
  have HF:=lH (verF_none HT)
  clear HT
  obtain rfl:ij=true:=Vj9.out.inf
  have p0:=PB9.out.cell 0
  have p1:=PB9.out.cell 1
  have p2:=PB9.out.cell 2
  go_wp2_with fail
  go_ret
  exact ⟨x,HX1.out,HX2.out,by rw [HF.out];rfl,HB9.out⟩
 ·rw [HT] at Vj9
  have HF:=lH (verF_some HT)
  clear HT
  obtain rfl:ij=false:=Vj9.out.inf
  have p0:=PB9.out.cell 0
  have p1:=PB9.out.cell 1
  have p2:=PB9.out.cell 2
  go_wp2_with fail
  refine (restN W9 Vj9.out.x.rd HN9.out Vj9.out.x.dg (by have:=Vj9.out.x.le;omega)).mono ?_
  rintro e W10 ⟨Aq3,nq3,cq3,Ax3,cx3,lx3,rfl,hn,hr,hb⟩
  have HB10:=lH (HB9.out.trans (hb.mono HB9.out.size))
  have HM10:=lH (HM9.out.under hb)
  have SB10:=lH (SB9.out.under hb (Holds.lt SB9.out))
  have RR10:=lH ((RR9.out.under hb).more hb.size)
  have HN10:=lH ((HN9.out.under hb).more hb.size)
  have Vj10:=lH (Vj9.out.under hb)
  have PB10:=lH (PB9.out.under hb (Holds.lt PB9.out))
  clear hb HB9 HM9 SB9 RR9 HN9 Vj9 PB9
  clear p0 p1 p2
  have HLX:=lH hn
  have RX10:=lH hr
  clear hn hr
  have HV0:Hid ((cmpL lx3 R == 0)=verF Q (val (numOf dg)) (val R) x):=lH (by rw [cmp_is HLX.out HDR.out (fit_facts HRf.out HDR.out).1,HF.out,Vj10.out.x.val];rfl)
  obtain ⟨v,hv⟩:∃ v,cmpL lx3 R=v:=⟨_,rfl⟩
  rw [hv] at HV0
  have HV:=lH hv
  have HVT:Hid (cmpL (trl lx3) (trl R)=v):=lH (by rw [trl_id HLX.out.2.1,trl_id (fit_facts HRf.out HDR.out).1];exact hv)
  clear hv
  have s0:=SB10.out.cell 0
  have s1:=SB10.out.cell 1
  go_wp2_with fail
  refine (cmp_any W10 _ _ _ _ _ _ lx3 R RX10.out RR10.out v HVT.out).mono ?_
  rintro e W11 ⟨rfl,q,hq⟩
  have HBE:Hid (Below w.heap.size w W11):=lH (by rw [hq];exact bdN HB10.out q)
  clear hq s0 s1
  go_wp2_with fail
  go_ret
  exact ⟨x,HX1.out,HX2.out,by rw [←HV0.out];rfl,HBE.out⟩
theorem verify_no (w:World) (hm:CMet w) (al en:Int) {An Ax Ay Ad Ar As:Option Addr} {cn cx cy nd cd cr cs:Nat} {ln lx ly R S:List Nat} {inf:Bool} (hx:Rd .u32 w w.heap.size Ax cx lx) (hy:Rd .u32 w w.heap.size Ay cy ly) (hdx:Dg lx) (hdy:Dg ly) (hR:Rd .u32 w w.heap.size Ar cr R) (hS:Rd .u32 w w.heap.size As cs S) (hno:(keyB al ln en lx ly inf && decide (nd=32) && fitB R && fitB S)=false) :
  Calls Tryd.prog 31 #[.agg #[.int .i64 al,.slice An ln.length cn,.int .u32 en,.slice Ax lx.length cx,.slice Ay ly.length cy,.bool inf],.slice Ad nd cd,.agg #[.slice Ar R.length cr,.slice As S.length cs]] w fun e w'=>e = .returned (.bool false)∧Below w.heap.size w w':=by
 obtain ⟨w1,hw1⟩:∃ W,W=w.alloc (.cells #[.int .i64 al,.slice An ln.length cn,.int .u32 en,.slice Ax lx.length cx,.slice Ay ly.length cy,.bool inf] 45):=⟨_,rfl⟩
 have hz1:w1.heap.size=w.heap.size+1:=by rw [hw1];simp
 have hb1:Below w.heap.size w w1:=by rw [hw1];exact (Below.refl _ _).alloc (Nat.le_refl _) _
 obtain ⟨W0,hw2⟩:∃ W,W=w1.alloc (.cells #[.slice Ar R.length cr,.slice As S.length cs] 48):=⟨_,rfl⟩
 have hb:Below w.heap.size w W0:=by rw [hw2];exact hb1.alloc hb1.size _
 have SB0:Hid (Holds W0 (w.heap.size+1) 48 #[.slice Ar R.length cr,.slice As S.length cs]):=lH (by rw [hw2,←hz1];exact Holds.fresh w1 _ _)
 have HB0:=lH hb
 have HM0:=lH (hm.under hb)
 have RR0:=lH ((hR.under hb).more hb.size)
 have RS0:=lH ((hS.under hb).more hb.size)
 have RX:=lH hx
 have RY:=lH hy
 have HDX:=lH hdx
 have HDY:=lH hdy
 have HW:=lH (hw1 ▸ hw2:W0=(w.alloc (.cells #[.int .i64 al,.slice An ln.length cn,.int .u32 en,.slice Ax lx.length cx,.slice Ay ly.length cy,.bool inf] 45)).alloc (.cells #[.slice Ar R.length cr,.slice As S.length cs] 48))
 clear hw1 hz1 hb1 hw2 hb hx hy hdx hdy hR hS hm
 by_cases hk:keyB al ln en lx ly inf=true
 ·have HK:=lH hk
  by_cases hn:nd=32
  ·subst hn
   by_cases hr:fitB R=true
   ·have HRf:=lH hr
    have HSf:Hid (fitB S=false):=lH (by rw [hk,hr] at hno;simpa using hno)
    clear hk hr hno
    go_enter Tryd.func31,Tryd.ntmps31
    go_wp2_with fail
    rw [←HW.out]
    clear HW
    refine (keyYes W0 HM0.out ((RX.out.under HB0.out).more HB0.out.size) ((RY.out.under HB0.out).more HB0.out.size) HDX.out HDY.out HK.out).mono ?_
    rintro e W1 ⟨rfl,hb⟩
    have HB1:=lH (HB0.out.trans (hb.mono HB0.out.size))
    have HM1:=lH (HM0.out.under hb)
    have SB1:=lH (SB0.out.under hb (Holds.lt SB0.out))
    have RR1:=lH ((RR0.out.under hb).more hb.size)
    have RS1:=lH ((RS0.out.under hb).more hb.size)
    clear hb HB0 HM0 SB0 RR0 RS0
    have s0:=SB1.out.cell 0
    have s1:=SB1.out.cell 1
    go_wp2_with fail
    refine (fitV W1 RR1.out HRf.out).mono ?_
    rintro e W2 ⟨rfl,hb⟩
    have HB2:=lH (HB1.out.trans (hb.mono HB1.out.size))
    have HM2:=lH (HM1.out.under hb)
    have SB2:=lH (SB1.out.under hb (Holds.lt SB1.out))
    have RR2:=lH ((RR1.out.under hb).more hb.size)
    have RS2:=lH ((RS1.out.under hb).more hb.size)
    clear hb HB1 HM1 SB1 RR1 RS1
    clear s0 s1
    have s0:=SB2.out.cell 0
    have s1:=SB2.out.cell 1
    go_wp2_with fail
    refine (fitV W2 RS2.out HSf.out).mono ?_
    rintro e W3 ⟨rfl,hb⟩
    have HB3:=lH (HB2.out.trans (hb.mono HB2.out.size))
    have HM3:=lH (HM2.out.under hb)
    have SB3:=lH (SB2.out.under hb (Holds.lt SB2.out))
    have RR3:=lH ((RR2.out.under hb).more hb.size)
    have RS3:=lH ((RS2.out.under hb).more hb.size)
    clear hb HB2 HM2 SB2 RR2 RS2
    clear s0 s1
    go_wp2_with fail
    go_ret
    exact ⟨rfl,HB3.out⟩
   ·have HRf:Hid (fitB R=false):=lH (by simpa using hr)
    clear hk hr hno
    go_enter Tryd.func31,Tryd.ntmps31
    go_wp2_with fail
    rw [←HW.out]
    clear HW
    refine (keyYes W0 HM0.out ((RX.out.under HB0.out).more HB0.out.size) ((RY.out.under HB0.out).more HB0.out.size) HDX.out HDY.out HK.out).mono ?_
    rintro e W1 ⟨rfl,hb⟩
    have HB1:=lH (HB0.out.trans (hb.mono HB0.out.size))
    have HM1:=lH (HM0.out.under hb)
    have SB1:=lH (SB0.out.under hb (Holds.lt SB0.out))
    have RR1:=lH ((RR0.out.under hb).more hb.size)
    have RS1:=lH ((RS0.out.under hb).more hb.size)
    clear hb HB0 HM0 SB0 RR0 RS0
    have s0:=SB1.out.cell 0
    have s1:=SB1.out.cell 1
    go_wp2_with fail
    refine (fitV W1 RR1.out HRf.out).mono ?_
    rintro e W2 ⟨rfl,hb⟩
    have HB2:=lH (HB1.out.trans (hb.mono HB1.out.size))
    have HM2:=lH (HM1.out.under hb)
    have SB2:=lH (SB1.out.under hb (Holds.lt SB1.out))
    have RR2:=lH ((RR1.out.under hb).more hb.size)
    have RS2:=lH ((RS1.out.under hb).more hb.size)
    clear hb HB1 HM1 SB1 RR1 RS1
    clear s0 s1
    go_wp2_with fail
    go_ret
    exact ⟨rfl,HB2.out⟩
  ·have HN:Hid (((nd:Int) != 32)=true):=lH (by rw [bne_iff_ne];omega)
   clear hk hn hno
   go_enter Tryd.func31,Tryd.ntmps31
   go_wp2_with fail
   rw [←HW.out]
   clear HW
   refine (keyYes W0 HM0.out ((RX.out.under HB0.out).more HB0.out.size) ((RY.out.under HB0.out).more HB0.out.size) HDX.out HDY.out HK.out).mono ?_
   rintro e W1 ⟨rfl,hb⟩
   have HB1:=lH (HB0.out.trans (hb.mono HB0.out.size))
   have HM1:=lH (HM0.out.under hb)
   have SB1:=lH (SB0.out.under hb (Holds.lt SB0.out))
   have RR1:=lH ((RR0.out.under hb).more hb.size)
   have RS1:=lH ((RS0.out.under hb).more hb.size)
   clear hb HB0 HM0 SB0 RR0 RS0
   have h1:=HN.out
   go_wp2_with fail
   go_ret
   exact ⟨rfl,HB1.out⟩
 ·have HK:Hid (keyB al ln en lx ly inf=false):=lH (by simpa using hk)
  clear hk hno
  go_enter Tryd.func31,Tryd.ntmps31
  go_wp2_with fail
  rw [←HW.out]
  clear HW
  refine (keyYes W0 HM0.out ((RX.out.under HB0.out).more HB0.out.size) ((RY.out.under HB0.out).more HB0.out.size) HDX.out HDY.out HK.out).mono ?_
  rintro e W1 ⟨rfl,hb⟩
  have HB1:=lH (HB0.out.trans (hb.mono HB0.out.size))
  have HM1:=lH (HM0.out.under hb)
  have SB1:=lH (SB0.out.under hb (Holds.lt SB0.out))
  have RR1:=lH ((RR0.out.under hb).more hb.size)
  have RS1:=lH ((RS0.out.under hb).more hb.size)
  clear hb HB0 HM0 SB0 RR0 RS0
  go_wp2_with fail
  go_ret
  exact ⟨rfl,HB1.out⟩
end Go.Proofs.YtflfdglpljodbaaDoor
namespace Go.Proofs.YtflfdglpljodbaaDoor
open Go.RowKit
set_option linter.unusedVariables false
set_option linter.unusedSimpArgs false
theorem verifyD_yes (w:World) (al en:Int) {An Ax Ay Ad Ar As:Option Addr} {cn cx cy cd cr cs:Nat} {ln lx ly dg R S:List Nat} {Q:Luc.Pt} (hQ:PtV Q w Ax cx lx Ay cy ly false) (hO:Luc.OnC Q) (hK:keyB al ln en lx ly false=true) (hD:Rd .u8 w w.heap.size Ad cd dg) (h32:dg.length=32) (ho:Oct dg.reverse) (hR:Rd .u32 w w.heap.size Ar cr R) (hRd:Dg R) (hRf:fitB R=true) (hS:Rd .u32 w w.heap.size As cs S) (hSd:Dg S) (hSf:fitB S=true) :
  Calls Tryd.prog 32 #[.agg #[.int .i64 al,.slice An ln.length cn,.int .u32 en,.slice Ax lx.length cx,.slice Ay ly.length cy,.bool false],.slice Ad 32 cd,.agg #[.slice Ar R.length cr,.slice As S.length cs]] w (VerP Q (val (numOf dg)) (val R) (val S) w):=by
 obtain ⟨w1,hw1⟩:∃ W,W=w.alloc (.cells #[.int .i64 al,.slice An ln.length cn,.int .u32 en,.slice Ax lx.length cx,.slice Ay ly.length cy,.bool false] 45):=⟨_,rfl⟩
 have hz1:w1.heap.size=w.heap.size+1:=by rw [hw1];simp
 have hb1:Below w.heap.size w w1:=by rw [hw1];exact (Below.refl _ _).alloc (Nat.le_refl _) _
 obtain ⟨W0,hw2⟩:∃ W,W=w1.alloc (.cells #[.slice Ar R.length cr,.slice As S.length cs] 48):=⟨_,rfl⟩
 have hb:Below w.heap.size w W0:=by rw [hw2];exact hb1.alloc hb1.size _
 have KB0:Hid (Holds W0 w.heap.size 45 #[.int .i64 al,.slice An ln.length cn,.int .u32 en,.slice Ax lx.length cx,.slice Ay ly.length cy,.bool false]):=lH (by rw [hw2,hw1];exact (Holds.fresh w _ _).alloc _)
 have SB0:Hid (Holds W0 (w.heap.size+1) 48 #[.slice Ar R.length cr,.slice As S.length cs]):=lH (by rw [hw2,←hz1];exact Holds.fresh w1 _ _)
 have HB0:=lH hb

 have RD0:=lH ((hD.under hb).more hb.size)
 have RR0:=lH ((hR.under hb).more hb.size)
 have RS0:=lH ((hS.under hb).more hb.size)
 have VQ0:=lH (hQ.under hb)
 have HO:=lH hO
 have HK:=lH hK
 have HD32:=lH h32
 have HDO:=lH ho
 have HDR:=lH hRd
 have HRf:=lH hRf
 have HDS:=lH hSd
 have HSf:=lH hSf
 have HW:=lH (hw1 ▸ hw2:W0=(w.alloc (.cells #[.int .i64 al,.slice An ln.length cn,.int .u32 en,.slice Ax lx.length cx,.slice Ay ly.length cy,.bool false] 45)).alloc (.cells #[.slice Ar R.length cr,.slice As S.length cs] 48))
 clear hw1 hz1 hb1 hw2 hb hQ hO hK hD h32 ho hR hRd hRf hS hSd hSf
 go_enter Tryd.func32,Tryd.ntmps32
 go_wp2_with fail
 rw [←HW.out]
 clear HW
 refine (keyYes' W0 VQ0.out.x.rd VQ0.out.y.rd VQ0.out.x.dg VQ0.out.y.dg VQ0.out.x.s VQ0.out.y.s HK.out).mono ?_
 rintro e W1 ⟨rfl,hb⟩
 have HB1:=lH (HB0.out.trans (hb.mono HB0.out.size))
 have KB1:=lH (KB0.out.under hb (Holds.lt KB0.out))
 have SB1:=lH (SB0.out.under hb (Holds.lt SB0.out))
 have RD1:=lH ((RD0.out.under hb).more hb.size)
 have RR1:=lH ((RR0.out.under hb).more hb.size)
 have RS1:=lH ((RS0.out.under hb).more hb.size)
 have VQ1:=lH (VQ0.out.under hb)
 clear hb HB0 KB0 SB0 RD0 RR0 RS0 VQ0
 have s0:=SB1.out.cell 0
 have s1:=SB1.out.cell 1
 go_wp2_with fail
 refine (fitV' W1 RR1.out HRf.out).mono ?_
 rintro e W2 ⟨rfl,hb⟩
 have HB2:=lH (HB1.out.trans (hb.mono HB1.out.size))
 have KB2:=lH (KB1.out.under hb (Holds.lt KB1.out))
 have SB2:=lH (SB1.out.under hb (Holds.lt SB1.out))
 have RD2:=lH ((RD1.out.under hb).more hb.size)
 have RR2:=lH ((RR1.out.under hb).more hb.size)
 have RS2:=lH ((RS1.out.under hb).more hb.size)
 have VQ2:=lH (VQ1.out.under hb)
 clear hb HB1 KB1 SB1 RD1 RR1 RS1 VQ1
 clear s0 s1
 have s0:=SB2.out.cell 0
 have s1:=SB2.out.cell 1
 go_wp2_with fail
 refine (fitV' W2 RS2.out HSf.out).mono ?_
 rintro e W3 ⟨rfl,hb⟩
 have HB3:=lH (HB2.out.trans (hb.mono HB2.out.size))
 have KB3:=lH (KB2.out.under hb (Holds.lt KB2.out))
 have SB3:=lH (SB2.out.under hb (Holds.lt SB2.out))
 have RD3:=lH ((RD2.out.under hb).more hb.size)
 have RR3:=lH ((RR2.out.under hb).more hb.size)
 have RS3:=lH ((RS2.out.under hb).more hb.size)
 have VQ3:=lH (VQ2.out.under hb)
 clear hb HB2 KB2 SB2 RD2 RR2 RS2 VQ2
 clear s0 s1
 go_wp2_with fail
 refine (refN_any W3).mono ?_
 rintro e W4 ⟨gn,hgn,rfl,hN,hb⟩
 have HB4:=lH (HB3.out.trans (hb.mono HB3.out.size))
 have KB4:=lH (KB3.out.under hb (Holds.lt KB3.out))
 have SB4:=lH (SB3.out.under hb (Holds.lt SB3.out))
 have RD4:=lH ((RD3.out.under hb).more hb.size)
 have RR4:=lH ((RR3.out.under hb).more hb.size)
 have RS4:=lH ((RS3.out.under hb).more hb.size)
 have VQ4:=lH (VQ3.out.under hb)
 clear hb HB3 KB3 SB3 RD3 RR3 RS3 VQ3
 have HN4:=lH (Eight.rd hN rfl)
 clear hN hgn
 have s0:=SB4.out.cell 0
 have s1:=SB4.out.cell 1
 go_wp2_with fail
 refine (invN' W4 RS4.out HN4.out HDS.out HSf.out).mono ?_
 rintro e W5 ⟨x,hx1,hx2,Aw,cw,lw,rfl,hn,hr,hb⟩
 have HB5:=lH (HB4.out.trans (hb.mono HB4.out.size))
 have KB5:=lH (KB4.out.under hb (Holds.lt KB4.out))
 have SB5:=lH (SB4.out.under hb (Holds.lt SB4.out))
 have RD5:=lH ((RD4.out.under hb).more hb.size)
 have RR5:=lH ((RR4.out.under hb).more hb.size)
 have RS5:=lH ((RS4.out.under hb).more hb.size)
 have VQ5:=lH (VQ4.out.under hb)
 have HN5:=lH ((HN4.out.under hb).more hb.size)
 clear hb HB4 KB4 SB4 RD4 RR4 RS4 VQ4 HN4
 clear s0 s1
 have HX1:=lH hx1
 have HX2:=lH hx2
 have HLW:Hid (NumIs lw (x % val lN)):=lH (by rw [Nat.mod_eq_of_lt hx1];exact hn)
 have RW5:=lH hr
 clear hx1 hx2 hn hr
 go_wp2_with fail
 refine (of32' W5 RD5.out HD32.out HDO.out).mono ?_
 rintro e W6 ⟨Az,cz,rfl,hz,hb⟩
 have HB6:=lH (HB5.out.trans (hb.mono HB5.out.size))
 have KB6:=lH (KB5.out.under hb (Holds.lt KB5.out))
 have SB6:=lH (SB5.out.under hb (Holds.lt SB5.out))
 have RD6:=lH ((RD5.out.under hb).more hb.size)
 have RR6:=lH ((RR5.out.under hb).more hb.size)
 have RS6:=lH ((RS5.out.under hb).more hb.size)
 have VQ6:=lH (VQ5.out.under hb)
 have HN6:=lH ((HN5.out.under hb).more hb.size)
 have RW6:=lH ((RW5.out.under hb).more hb.size)
 clear hb HB5 KB5 SB5 RD5 RR5 RS5 VQ5 HN5 RW5
 have RZ6:=lH hz
 clear hz
 go_wp2_with fail
 refine (mulQ' W6 RZ6.out RW6.out HN6.out (numOf_dg HDO.out) HLW.out.1 (by have:=numOf_length dg;omega) (by have:=num_len8N HLW.out;omega)).mono ?_
 rintro e W7 ⟨Au,cu,lu,rfl,hn,hr,hb⟩
 have HB7:=lH (HB6.out.trans (hb.mono HB6.out.size))
 have KB7:=lH (KB6.out.under hb (Holds.lt KB6.out))
 have SB7:=lH (SB6.out.under hb (Holds.lt SB6.out))
 have RD7:=lH ((RD6.out.under hb).more hb.size)
 have RR7:=lH ((RR6.out.under hb).more hb.size)
 have RS7:=lH ((RS6.out.under hb).more hb.size)
 have VQ7:=lH (VQ6.out.under hb)
 have HN7:=lH ((HN6.out.under hb).more hb.size)
 have RW7:=lH ((RW6.out.under hb).more hb.size)
 have RZ7:=lH ((RZ6.out.under hb).more hb.size)
 clear hb HB6 KB6 SB6 RD6 RR6 RS6 VQ6 HN6 RW6 RZ6
 rw [HLW.out.2.2,Nat.mod_eq_of_lt HX1.out] at hn
 have HLU:=lH hn
 have RU7:=lH hr
 clear hn hr
 have s0:=SB7.out.cell 0
 have s1:=SB7.out.cell 1
 go_wp2_with fail
 refine (mulQ' W7 RR7.out RW7.out HN7.out HDR.out HLW.out.1 (by have:=(fit_facts HRf.out HDR.out).2.2.2;omega) (by have:=num_len8N HLW.out;omega)).mono ?_
 rintro e W8 ⟨Av,cv,lv,rfl,hn,hr,hb⟩
 have HB8:=lH (HB7.out.trans (hb.mono HB7.out.size))
 have KB8:=lH (KB7.out.under hb (Holds.lt KB7.out))
 have SB8:=lH (SB7.out.under hb (Holds.lt SB7.out))
 have RD8:=lH ((RD7.out.under hb).more hb.size)
 have RR8:=lH ((RR7.out.under hb).more hb.size)
 have RS8:=lH ((RS7.out.under hb).more hb.size)
 have VQ8:=lH (VQ7.out.under hb)
 have HN8:=lH ((HN7.out.under hb).more hb.size)
 have RW8:=lH ((RW7.out.under hb).more hb.size)
 have RZ8:=lH ((RZ7.out.under hb).more hb.size)
 have RU8:=lH ((RU7.out.under hb).more hb.size)
 clear hb HB7 KB7 SB7 RD7 RR7 RS7 VQ7 HN7 RW7 RZ7 RU7
 clear s0 s1
 rw [HLW.out.2.2,Nat.mod_eq_of_lt HX1.out] at hn
 have HLV:=lH hn
 have RV8:=lH hr
 clear hn hr
 clear RD8 RS8 RW8 RZ8
 go_wp2_with fail
 obtain ⟨QQ,HQ⟩:∃ Q_:Exit→Act→World→Prop,Hid (Q_=fun e a W=>e = .normal∧∃ (gs:Nat) (Aj:Option Addr) (cj:Nat) (aj:List Nat) (Bj:Option Addr) (dj:Nat) (bj:List Nat) (ij:Bool),a.tmps=#[tG a 0,.slice Ad 32 cd,tG a 2,.pointer (some ⟨w.heap.size,0,none⟩),tG a 4,.pointer (some ⟨w.heap.size+1,0,none⟩),.bool false,.slice (some ⟨gn,0,none⟩) 8 8,tG a 8,tG a 9,tG a 10,tG a 11,tG a 12,tG a 13,.pointer (some ⟨gs,0,none⟩),tG a 15,tG a 16,tG a 17,tG a 18,tG a 19,tG a 20,tG a 21,tG a 22,tG a 23,tG a 24,tG a 25,tG a 26,tG a 27,tG a 28,tG a 29,tG a 30,tG a 31,tG a 32,tG a 33,tG a 34,tG a 35,tG a 36,tG a 37,tG a 38,tG a 39,tG a 40,tG a 41,tG a 42,tG a 43,tG a 44,tG a 45,tG a 46,tG a 47,tG a 48,tG a 49,tG a 50,tG a 51,tG a 52,tG a 53,tG a 54,tG a 55,tG a 56,tG a 57,tG a 58,tG a 59,tG a 60,tG a 61,tG a 62,tG a 63,tG a 64,tG a 65,tG a 66,tG a 67,tG a 68,tG a 69,tG a 70,tG a 71,tG a 72,tG a 73,tG a 74,tG a 75,tG a 76,tG a 77,tG a 78,tG a 79,tG a 80,tG a 81,tG a 82]∧a.defers=[]∧Below W8.heap.size W8 W∧PtV (Luc.add (Luc.nmul gP (val (numOf dg)*x % val lN)) (Luc.nmul Q (val R*x % val lN))) W Aj cj aj Bj dj bj ij∧Holds W gs 26 #[.slice Aj aj.length cj,.slice Bj bj.length dj,.bool ij]):=⟨_,lH rfl⟩
 refine Code.wp_mono (Q:=QQ) ?_ ?_
 rotate_left 1
 ·refine wp_region_noPanic ?_
  refine wp_region_held_drew (S:=fun W=>Below W8.heap.size W8 W) (by kernel_rfl) ((Below.refl _ W8).drew) (fun hHeld=>?_)
  obtain ⟨V,hV⟩:∃ W,W=W8.drew:=⟨_,rfl⟩
  rw [←hV]
  have HSV:Hid (Below W8.heap.size W8 V):=lH (by rw [hV];exact (Below.refl _ W8).drew)
  replace hHeld:(fun W=>Below W8.heap.size W8 W) V:=HSV.out
  clear hV
  refine tk 0 ⟨some 61,.move (.tmp 10),24,_,_,none⟩ ?_ rfl ?_ hHeld ?_
  rotate_left 1
  ·(intro W hW;(try dsimp only at hW);go_simp;try with_reducible rfl)
  try simp only [aP]
  refine tk 3 ⟨some 64,.move (.tmp 12),24,_,_,none⟩ ?_ rfl ?_ hHeld ?_
  rotate_left 1
  ·(intro W hW;(try dsimp only at hW);go_simp;try with_reducible rfl)
  try simp only [aP]
  refine tk 4 ⟨some 65,.fieldAddr 45 (.tmp 3) 3,0,_,_,none⟩ ?_ rfl ?_ hHeld ?_
  rotate_left 1
  ·(intro W hW;(try dsimp only at hW);go_simp;try with_reducible rfl)
  try simp only [aP]
  refine tk 5 ⟨some 66,.load 26 (.tmp 65),26,_,_,none⟩ ?_ rfl ?_ hHeld ?_
  rotate_left 1
  ·(intro W hW;have hKB:=KB8.out.under hW (Holds.lt KB8.out);have k3:=hKB.cell 3;have k4:=hKB.cell 4;have k5:=hKB.cell 5;(try dsimp only at hW);go_simp;try with_reducible rfl)
  try simp only [aP]
  refine wpAnyH_ready (rs:=[1,8]) (by kernel_rfl) (by simp) ?_
  refine AllReadyH.cons (o:=⟨some 62,.call ⟨ .value (.func 13),#[],#[]⟩,26,_,_,none⟩) rfl (fun K hK=>?_) ?_
  go_simp
  refine (refGP V).mono ?_
  rintro e V1 ⟨Ah,ch,ah,Bh,dh,bh,ih,rfl,hq,hbN⟩
  have HSV1:=lH (HSV.out.trans (hbN.mono HSV.out.size))
  have XhV1:=lH hq
  clear hbN hq
  clear HSV
  go_simp
  refine hK.out _ _ (HSV1.out) (fun hHeld=>?_)
  clear hK K
  try simp only [aP]
  refine wpAnyH_ready (rs:=[2,8]) (by kernel_rfl) (by simp) ?_
  refine AllReadyH.cons (o:=⟨some 63,.call ⟨ .value (.func 11),#[.tmp 61,.tmp 62],#[24,26]⟩,26,_,_,none⟩) rfl (fun K hK=>?_) ?_
  go_simp
  refine (timesU' V1 ((RU8.out.under HSV1.out).more HSV1.out.size) HLU.out XhV1.out gP_on).mono ?_
  rintro e V12 ⟨Ap,cp,ap,Bp,dp,bp,ip,rfl,hq,hbN⟩
  have HSV12:=lH (HSV1.out.trans (hbN.mono HSV1.out.size))
  have XpV12:=lH hq
  clear hbN hq
  clear HSV1 XhV1
  go_simp
  refine hK.out _ _ (HSV12.out) (fun hHeld=>?_)
  clear hK K
  try simp only [aP]
  refine wpAnyH_ready (rs:=[6,8]) (by kernel_rfl) (by simp) ?_
  refine AllReadyH.cons (o:=⟨some 67,.call ⟨ .value (.func 11),#[.tmp 64,.tmp 66],#[24,26]⟩,26,_,_,none⟩) rfl (fun K hK=>?_) ?_
  go_simp
  refine (timesU' V12 ((RV8.out.under HSV12.out).more HSV12.out.size) HLV.out (VQ8.out.under HSV12.out) HO.out).mono ?_
  rintro e V126 ⟨Aq,cq,aq,Bq,dq,bq,iq,rfl,hq,hbN⟩
  have HSV126:=lH (HSV12.out.trans (hbN.mono HSV12.out.size))
  have XqV126:=lH hq
  have XpV126:=lH (XpV12.out.under hbN)
  clear hbN hq
  clear HSV12 XpV12
  go_simp
  refine hK.out _ _ (HSV126.out) (fun hHeld=>?_)
  clear hK K
  try simp only [aP]
  refine wpAnyH_ready (rs:=[7,8]) (by kernel_rfl) (by simp) ?_
  refine AllReadyH.cons (o:=⟨some 68,.call ⟨ .value (.func 17),#[.tmp 63,.tmp 67],#[26,26]⟩,26,_,_,none⟩) rfl (fun K hK=>?_) ?_
  go_simp
  refine (addRP V126 XpV126.out XqV126.out (Luc.nmul_on gP_on _) (Luc.nmul_on HO.out _)).mono ?_
  rintro e V1267 ⟨Aj,cj,aj,Bj,dj,bj,ij,rfl,hq,hbN⟩
  have HSV1267:=lH (HSV126.out.trans (hbN.mono HSV126.out.size))
  have XjV1267:=lH hq
  clear hbN hq
  clear HSV126 XpV126 XqV126
  go_simp
  refine hK.out _ _ (HSV1267.out) (fun hHeld=>?_)
  clear hK K
  try simp only [aP]
  refine rdy 8 ⟨some 14,.alloc 26,0,_,_,none⟩ rfl (fun K hK=>?_)
  obtain ⟨V12678,hN⟩:∃ W,W=V1267.alloc (.cells #[.slice none 0 0,.slice none 0 0,.bool false] 26):=⟨_,rfl⟩
  go_simp
  rw [←hN]
  obtain ⟨gs,hg⟩:∃ g,g=V1267.heap.size:=⟨_,rfl⟩
  rw [←hg]
  have hbN:Below V1267.heap.size V1267 V12678:=by rw [hN];exact (Below.refl _ _).alloc (Nat.le_refl _) _
  have GSV12678:Hid (Holds V12678 gs 26 #[.slice none 0 0,.slice none 0 0,.bool false]):=lH (by rw [hN,hg];exact Holds.fresh _ _ _)
  have HGV12678:Hid (W8.heap.size≤gs):=lH (by rw [hg];exact HSV1267.out.size)
  have HSV12678:=lH (HSV1267.out.trans (hbN.mono HSV1267.out.size))
  have XjV12678:=lH (XjV1267.out.under hbN)
  clear hN hg hbN
  clear HSV1267 XjV1267
  refine hK.out _ _ (HSV12678.out) (fun hHeld=>?_)
  clear hK K
  try simp only [aP]
  refine rdy 9 ⟨none,.store 26 (.tmp 14) (.tmp 68),0,_,_,none⟩ rfl (fun K hK=>?_)
  have z0:=GSV12678.out.cell 0
  have o0:=GSV12678.out.open_ 0
  have z1:=GSV12678.out.cell 1
  have o1:=GSV12678.out.open_ 1
  have z2:=GSV12678.out.cell 2
  have o2:=GSV12678.out.open_ 2
  obtain ⟨V126789,hN⟩:∃ W,W=(((V12678.setCell ⟨gs,0,none⟩ (.slice Aj aj.length cj)).setCell ⟨gs,1,none⟩ (.slice Bj bj.length dj)).setCell ⟨gs,2,none⟩ (.bool ij)):=⟨_,rfl⟩
  go_simp
  rw [←hN]
  have GSV126789:Hid (Holds V126789 gs 26 #[.slice Aj aj.length cj,.slice Bj bj.length dj,.bool ij]):=lH (by rw [hN];exact set3 GSV12678.out _ _ _)
  have HSV126789:Hid (Below W8.heap.size W8 V126789):=lH (by rw [hN];exact below3 HSV12678.out HGV12678.out _ _ _)
  have XjV126789:Hid (PtV (Luc.add (Luc.nmul gP (val (numOf dg)*x % val lN)) (Luc.nmul Q (val R*x % val lN))) V126789 Aj cj aj Bj dj bj ij):=lH ⟨XjV12678.out.inf,by rw [hN];exact XjV12678.out.x.store3 GSV12678.out no_numsP _ _ _,by rw [hN];exact XjV12678.out.y.store3 GSV12678.out no_numsP _ _ _⟩
  clear hN z0 z1 z2 o0 o1 o2
  clear HSV12678 XjV12678 GSV12678 HGV12678
  refine hK.out _ _ (HSV126789.out) (fun hHeld=>?_)
  clear hK K
  try simp only [aP]
  refine wpAnyH_done (by kernel_rfl) ?_ _
  refine NoPanic.normal ?_
  rw [HQ.out]
  exact ⟨rfl,gs,Aj,cj,aj,Bj,dj,bj,ij,rfl,rfl,HSV126789.out,XjV126789.out,GSV126789.out⟩
  refine AllReadyH.cons (o:=⟨some 14,.alloc 26,0,_,_,none⟩) rfl (fun K hK=>?_) AllReadyH.nil
  obtain ⟨V1268,hN⟩:∃ W,W=V126.alloc (.cells #[.slice none 0 0,.slice none 0 0,.bool false] 26):=⟨_,rfl⟩
  go_simp
  rw [←hN]
  obtain ⟨gs,hg⟩:∃ g,g=V126.heap.size:=⟨_,rfl⟩
  rw [←hg]
  have hbN:Below V126.heap.size V126 V1268:=by rw [hN];exact (Below.refl _ _).alloc (Nat.le_refl _) _
  have GSV1268:Hid (Holds V1268 gs 26 #[.slice none 0 0,.slice none 0 0,.bool false]):=lH (by rw [hN,hg];exact Holds.fresh _ _ _)
  have HGV1268:Hid (W8.heap.size≤gs):=lH (by rw [hg];exact HSV126.out.size)
  have HSV1268:=lH (HSV126.out.trans (hbN.mono HSV126.out.size))
  have XpV1268:=lH (XpV126.out.under hbN)
  have XqV1268:=lH (XqV126.out.under hbN)
  clear hN hg hbN
  clear HSV126 XpV126 XqV126
  refine hK.out _ _ (HSV1268.out) (fun hHeld=>?_)
  clear hK K
  try simp only [aP]
  refine rdy 7 ⟨some 68,.call ⟨ .value (.func 17),#[.tmp 63,.tmp 67],#[26,26]⟩,26,_,_,none⟩ rfl (fun K hK=>?_)
  go_simp
  refine (addRP V1268 XpV1268.out XqV1268.out (Luc.nmul_on gP_on _) (Luc.nmul_on HO.out _)).mono ?_
  rintro e V12687 ⟨Aj,cj,aj,Bj,dj,bj,ij,rfl,hq,hbN⟩
  have HSV12687:=lH (HSV1268.out.trans (hbN.mono HSV1268.out.size))
  have XjV12687:=lH hq
  have GSV12687:=lH (GSV1268.out.under hbN (Holds.lt GSV1268.out))
  have HGV12687:=lH HGV1268.out
  clear hbN hq
  clear HSV1268 XpV1268 XqV1268 GSV1268 HGV1268
  go_simp
  refine hK.out _ _ (HSV12687.out) (fun hHeld=>?_)
  clear hK K
  try simp only [aP]
  refine rdy 9 ⟨none,.store 26 (.tmp 14) (.tmp 68),0,_,_,none⟩ rfl (fun K hK=>?_)
  have z0:=GSV12687.out.cell 0
  have o0:=GSV12687.out.open_ 0
  have z1:=GSV12687.out.cell 1
  have o1:=GSV12687.out.open_ 1
  have z2:=GSV12687.out.cell 2
  have o2:=GSV12687.out.open_ 2
  obtain ⟨V126879,hN⟩:∃ W,W=(((V12687.setCell ⟨gs,0,none⟩ (.slice Aj aj.length cj)).setCell ⟨gs,1,none⟩ (.slice Bj bj.length dj)).setCell ⟨gs,2,none⟩ (.bool ij)):=⟨_,rfl⟩
  go_simp
  rw [←hN]
  have GSV126879:Hid (Holds V126879 gs 26 #[.slice Aj aj.length cj,.slice Bj bj.length dj,.bool ij]):=lH (by rw [hN];exact set3 GSV12687.out _ _ _)
  have HSV126879:Hid (Below W8.heap.size W8 V126879):=lH (by rw [hN];exact below3 HSV12687.out HGV12687.out _ _ _)
  have XjV126879:Hid (PtV (Luc.add (Luc.nmul gP (val (numOf dg)*x % val lN)) (Luc.nmul Q (val R*x % val lN))) V126879 Aj cj aj Bj dj bj ij):=lH ⟨XjV12687.out.inf,by rw [hN];exact XjV12687.out.x.store3 GSV12687.out no_numsP _ _ _,by rw [hN];exact XjV12687.out.y.store3 GSV12687.out no_numsP _ _ _⟩
  clear hN z0 z1 z2 o0 o1 o2
  clear HSV12687 XjV12687 GSV12687 HGV12687
  refine hK.out _ _ (HSV126879.out) (fun hHeld=>?_)
  clear hK K
  try simp only [aP]
  refine wpAnyH_done (by kernel_rfl) ?_ _
  refine NoPanic.normal ?_
  rw [HQ.out]
  exact ⟨rfl,gs,Aj,cj,aj,Bj,dj,bj,ij,rfl,rfl,HSV126879.out,XjV126879.out,GSV126879.out⟩
  refine AllReadyH.cons (o:=⟨some 14,.alloc 26,0,_,_,none⟩) rfl (fun K hK=>?_) AllReadyH.nil
  obtain ⟨V128,hN⟩:∃ W,W=V12.alloc (.cells #[.slice none 0 0,.slice none 0 0,.bool false] 26):=⟨_,rfl⟩
  go_simp
  rw [←hN]
  obtain ⟨gs,hg⟩:∃ g,g=V12.heap.size:=⟨_,rfl⟩
  rw [←hg]
  have hbN:Below V12.heap.size V12 V128:=by rw [hN];exact (Below.refl _ _).alloc (Nat.le_refl _) _
  have GSV128:Hid (Holds V128 gs 26 #[.slice none 0 0,.slice none 0 0,.bool false]):=lH (by rw [hN,hg];exact Holds.fresh _ _ _)
  have HGV128:Hid (W8.heap.size≤gs):=lH (by rw [hg];exact HSV12.out.size)
  have HSV128:=lH (HSV12.out.trans (hbN.mono HSV12.out.size))
  have XpV128:=lH (XpV12.out.under hbN)
  clear hN hg hbN
  clear HSV12 XpV12
  refine hK.out _ _ (HSV128.out) (fun hHeld=>?_)
  clear hK K
  try simp only [aP]
  refine rdy 6 ⟨some 67,.call ⟨ .value (.func 11),#[.tmp 64,.tmp 66],#[24,26]⟩,26,_,_,none⟩ rfl (fun K hK=>?_)
  go_simp
  refine (timesU' V128 ((RV8.out.under HSV128.out).more HSV128.out.size) HLV.out (VQ8.out.under HSV128.out) HO.out).mono ?_
  rintro e V1286 ⟨Aq,cq,aq,Bq,dq,bq,iq,rfl,hq,hbN⟩
  have HSV1286:=lH (HSV128.out.trans (hbN.mono HSV128.out.size))
  have XqV1286:=lH hq
  have XpV1286:=lH (XpV128.out.under hbN)
  have GSV1286:=lH (GSV128.out.under hbN (Holds.lt GSV128.out))
  have HGV1286:=lH HGV128.out
  clear hbN hq
  clear HSV128 XpV128 GSV128 HGV128
  go_simp
  refine hK.out _ _ (HSV1286.out) (fun hHeld=>?_)
  clear hK K
  try simp only [aP]
  refine rdy 7 ⟨some 68,.call ⟨ .value (.func 17),#[.tmp 63,.tmp 67],#[26,26]⟩,26,_,_,none⟩ rfl (fun K hK=>?_)
  go_simp
  refine (addRP V1286 XpV1286.out XqV1286.out (Luc.nmul_on gP_on _) (Luc.nmul_on HO.out _)).mono ?_
  rintro e V12867 ⟨Aj,cj,aj,Bj,dj,bj,ij,rfl,hq,hbN⟩
  have HSV12867:=lH (HSV1286.out.trans (hbN.mono HSV1286.out.size))
  have XjV12867:=lH hq
  have GSV12867:=lH (GSV1286.out.under hbN (Holds.lt GSV1286.out))
  have HGV12867:=lH HGV1286.out
  clear hbN hq
  clear HSV1286 XpV1286 XqV1286 GSV1286 HGV1286
  go_simp
  refine hK.out _ _ (HSV12867.out) (fun hHeld=>?_)
  clear hK K
  try simp only [aP]
  refine rdy 9 ⟨none,.store 26 (.tmp 14) (.tmp 68),0,_,_,none⟩ rfl (fun K hK=>?_)
  have z0:=GSV12867.out.cell 0
  have o0:=GSV12867.out.open_ 0
  have z1:=GSV12867.out.cell 1
  have o1:=GSV12867.out.open_ 1
  have z2:=GSV12867.out.cell 2
  have o2:=GSV12867.out.open_ 2
  obtain ⟨V128679,hN⟩:∃ W,W=(((V12867.setCell ⟨gs,0,none⟩ (.slice Aj aj.length cj)).setCell ⟨gs,1,none⟩ (.slice Bj bj.length dj)).setCell ⟨gs,2,none⟩ (.bool ij)):=⟨_,rfl⟩
  go_simp
  rw [←hN]
  have GSV128679:Hid (Holds V128679 gs 26 #[.slice Aj aj.length cj,.slice Bj bj.length dj,.bool ij]):=lH (by rw [hN];exact set3 GSV12867.out _ _ _)
  have HSV128679:Hid (Below W8.heap.size W8 V128679):=lH (by rw [hN];exact below3 HSV12867.out HGV12867.out _ _ _)
  have XjV128679:Hid (PtV (Luc.add (Luc.nmul gP (val (numOf dg)*x % val lN)) (Luc.nmul Q (val R*x % val lN))) V128679 Aj cj aj Bj dj bj ij):=lH ⟨XjV12867.out.inf,by rw [hN];exact XjV12867.out.x.store3 GSV12867.out no_numsP _ _ _,by rw [hN];exact XjV12867.out.y.store3 GSV12867.out no_numsP _ _ _⟩
  clear hN z0 z1 z2 o0 o1 o2
  clear HSV12867 XjV12867 GSV12867 HGV12867
  refine hK.out _ _ (HSV128679.out) (fun hHeld=>?_)
  clear hK K
  try simp only [aP]
  refine wpAnyH_done (by kernel_rfl) ?_ _
  refine NoPanic.normal ?_
  rw [HQ.out]
  exact ⟨rfl,gs,Aj,cj,aj,Bj,dj,bj,ij,rfl,rfl,HSV128679.out,XjV128679.out,GSV128679.out⟩
  refine AllReadyH.cons (o:=⟨some 14,.alloc 26,0,_,_,none⟩) rfl (fun K hK=>?_) AllReadyH.nil
  obtain ⟨V18,hN⟩:∃ W,W=V1.alloc (.cells #[.slice none 0 0,.slice none 0 0,.bool false] 26):=⟨_,rfl⟩
  go_simp
  rw [←hN]
  obtain ⟨gs,hg⟩:∃ g,g=V1.heap.size:=⟨_,rfl⟩
  rw [←hg]
  have hbN:Below V1.heap.size V1 V18:=by rw [hN];exact (Below.refl _ _).alloc (Nat.le_refl _) _
  have GSV18:Hid (Holds V18 gs 26 #[.slice none 0 0,.slice none 0 0,.bool false]):=lH (by rw [hN,hg];exact Holds.fresh _ _ _)
  have HGV18:Hid (W8.heap.size≤gs):=lH (by rw [hg];exact HSV1.out.size)
  have HSV18:=lH (HSV1.out.trans (hbN.mono HSV1.out.size))
  have XhV18:=lH (XhV1.out.under hbN)
  clear hN hg hbN
  clear HSV1 XhV1
  refine hK.out _ _ (HSV18.out) (fun hHeld=>?_)
  clear hK K
  try simp only [aP]
  refine rdy 2 ⟨some 63,.call ⟨ .value (.func 11),#[.tmp 61,.tmp 62],#[24,26]⟩,26,_,_,none⟩ rfl (fun K hK=>?_)
  go_simp
  refine (timesU' V18 ((RU8.out.under HSV18.out).more HSV18.out.size) HLU.out XhV18.out gP_on).mono ?_
  rintro e V182 ⟨Ap,cp,ap,Bp,dp,bp,ip,rfl,hq,hbN⟩
  have HSV182:=lH (HSV18.out.trans (hbN.mono HSV18.out.size))
  have XpV182:=lH hq
  have GSV182:=lH (GSV18.out.under hbN (Holds.lt GSV18.out))
  have HGV182:=lH HGV18.out
  clear hbN hq
  clear HSV18 XhV18 GSV18 HGV18
  go_simp
  refine hK.out _ _ (HSV182.out) (fun hHeld=>?_)
  clear hK K
  try simp only [aP]
  refine rdy 6 ⟨some 67,.call ⟨ .value (.func 11),#[.tmp 64,.tmp 66],#[24,26]⟩,26,_,_,none⟩ rfl (fun K hK=>?_)
  go_simp
  refine (timesU' V182 ((RV8.out.under HSV182.out).more HSV182.out.size) HLV.out (VQ8.out.under HSV182.out) HO.out).mono ?_
  rintro e V1826 ⟨Aq,cq,aq,Bq,dq,bq,iq,rfl,hq,hbN⟩
  have HSV1826:=lH (HSV182.out.trans (hbN.mono HSV182.out.size))
  have XqV1826:=lH hq
  have XpV1826:=lH (XpV182.out.under hbN)
  have GSV1826:=lH (GSV182.out.under hbN (Holds.lt GSV182.out))
  have HGV1826:=lH HGV182.out
  clear hbN hq
  clear HSV182 XpV182 GSV182 HGV182
  go_simp
  refine hK.out _ _ (HSV1826.out) (fun hHeld=>?_)
  clear hK K
  try simp only [aP]
  refine rdy 7 ⟨some 68,.call ⟨ .value (.func 17),#[.tmp 63,.tmp 67],#[26,26]⟩,26,_,_,none⟩ rfl (fun K hK=>?_)
  go_simp
  refine (addRP V1826 XpV1826.out XqV1826.out (Luc.nmul_on gP_on _) (Luc.nmul_on HO.out _)).mono ?_
  rintro e V18267 ⟨Aj,cj,aj,Bj,dj,bj,ij,rfl,hq,hbN⟩
  have HSV18267:=lH (HSV1826.out.trans (hbN.mono HSV1826.out.size))
  have XjV18267:=lH hq
  have GSV18267:=lH (GSV1826.out.under hbN (Holds.lt GSV1826.out))
  have HGV18267:=lH HGV1826.out
  clear hbN hq
  clear HSV1826 XpV1826 XqV1826 GSV1826 HGV1826
  go_simp
  refine hK.out _ _ (HSV18267.out) (fun hHeld=>?_)
  clear hK K
  try simp only [aP]
  refine rdy 9 ⟨none,.store 26 (.tmp 14) (.tmp 68),0,_,_,none⟩ rfl (fun K hK=>?_)
  have z0:=GSV18267.out.cell 0
  have o0:=GSV18267.out.open_ 0
  have z1:=GSV18267.out.cell 1
  have o1:=GSV18267.out.open_ 1
  have z2:=GSV18267.out.cell 2
  have o2:=GSV18267.out.open_ 2
  obtain ⟨V182679,hN⟩:∃ W,W=(((V18267.setCell ⟨gs,0,none⟩ (.slice Aj aj.length cj)).setCell ⟨gs,1,none⟩ (.slice Bj bj.length dj)).setCell ⟨gs,2,none⟩ (.bool ij)):=⟨_,rfl⟩
  go_simp
  rw [←hN]
  have GSV182679:Hid (Holds V182679 gs 26 #[.slice Aj aj.length cj,.slice Bj bj.length dj,.bool ij]):=lH (by rw [hN];exact set3 GSV18267.out _ _ _)
  have HSV182679:Hid (Below W8.heap.size W8 V182679):=lH (by rw [hN];exact below3 HSV18267.out HGV18267.out _ _ _)
  have XjV182679:Hid (PtV (Luc.add (Luc.nmul gP (val (numOf dg)*x % val lN)) (Luc.nmul Q (val R*x % val lN))) V182679 Aj cj aj Bj dj bj ij):=lH ⟨XjV18267.out.inf,by rw [hN];exact XjV18267.out.x.store3 GSV18267.out no_numsP _ _ _,by rw [hN];exact XjV18267.out.y.store3 GSV18267.out no_numsP _ _ _⟩
  clear hN z0 z1 z2 o0 o1 o2
  clear HSV18267 XjV18267 GSV18267 HGV18267
  refine hK.out _ _ (HSV182679.out) (fun hHeld=>?_)
  clear hK K
  try simp only [aP]
  refine wpAnyH_done (by kernel_rfl) ?_ _
  refine NoPanic.normal ?_
  rw [HQ.out]
  exact ⟨rfl,gs,Aj,cj,aj,Bj,dj,bj,ij,rfl,rfl,HSV182679.out,XjV182679.out,GSV182679.out⟩
  refine AllReadyH.cons (o:=⟨some 14,.alloc 26,0,_,_,none⟩) rfl (fun K hK=>?_) AllReadyH.nil
  obtain ⟨V8,hN⟩:∃ W,W=V.alloc (.cells #[.slice none 0 0,.slice none 0 0,.bool false] 26):=⟨_,rfl⟩
  go_simp
  rw [←hN]
  obtain ⟨gs,hg⟩:∃ g,g=V.heap.size:=⟨_,rfl⟩
  rw [←hg]
  have hbN:Below V.heap.size V V8:=by rw [hN];exact (Below.refl _ _).alloc (Nat.le_refl _) _
  have GSV8:Hid (Holds V8 gs 26 #[.slice none 0 0,.slice none 0 0,.bool false]):=lH (by rw [hN,hg];exact Holds.fresh _ _ _)
  have HGV8:Hid (W8.heap.size≤gs):=lH (by rw [hg];exact HSV.out.size)
  have HSV8:=lH (HSV.out.trans (hbN.mono HSV.out.size))
  clear hN hg hbN
  clear HSV
  refine hK.out _ _ (HSV8.out) (fun hHeld=>?_)
  clear hK K
  try simp only [aP]
  refine rdy 1 ⟨some 62,.call ⟨ .value (.func 13),#[],#[]⟩,26,_,_,none⟩ rfl (fun K hK=>?_)
  go_simp
  refine (refGP V8).mono ?_
  rintro e V81 ⟨Ah,ch,ah,Bh,dh,bh,ih,rfl,hq,hbN⟩
  have HSV81:=lH (HSV8.out.trans (hbN.mono HSV8.out.size))
  have XhV81:=lH hq
  have GSV81:=lH (GSV8.out.under hbN (Holds.lt GSV8.out))
  have HGV81:=lH HGV8.out
  clear hbN hq
  clear HSV8  GSV8 HGV8
  go_simp
  refine hK.out _ _ (HSV81.out) (fun hHeld=>?_)
  clear hK K
  try simp only [aP]
  refine rdy 2 ⟨some 63,.call ⟨ .value (.func 11),#[.tmp 61,.tmp 62],#[24,26]⟩,26,_,_,none⟩ rfl (fun K hK=>?_)
  go_simp
  refine (timesU' V81 ((RU8.out.under HSV81.out).more HSV81.out.size) HLU.out XhV81.out gP_on).mono ?_
  rintro e V812 ⟨Ap,cp,ap,Bp,dp,bp,ip,rfl,hq,hbN⟩
  have HSV812:=lH (HSV81.out.trans (hbN.mono HSV81.out.size))
  have XpV812:=lH hq
  have GSV812:=lH (GSV81.out.under hbN (Holds.lt GSV81.out))
  have HGV812:=lH HGV81.out
  clear hbN hq
  clear HSV81 XhV81 GSV81 HGV81
  go_simp
  refine hK.out _ _ (HSV812.out) (fun hHeld=>?_)
  clear hK K
  try simp only [aP]
  refine rdy 6 ⟨some 67,.call ⟨ .value (.func 11),#[.tmp 64,.tmp 66],#[24,26]⟩,26,_,_,none⟩ rfl (fun K hK=>?_)
  go_simp
  refine (timesU' V812 ((RV8.out.under HSV812.out).more HSV812.out.size) HLV.out (VQ8.out.under HSV812.out) HO.out).mono ?_
  rintro e V8126 ⟨Aq,cq,aq,Bq,dq,bq,iq,rfl,hq,hbN⟩
  have HSV8126:=lH (HSV812.out.trans (hbN.mono HSV812.out.size))
  have XqV8126:=lH hq
  have XpV8126:=lH (XpV812.out.under hbN)
  have GSV8126:=lH (GSV812.out.under hbN (Holds.lt GSV812.out))
  have HGV8126:=lH HGV812.out
  clear hbN hq
  clear HSV812 XpV812 GSV812 HGV812
  go_simp
  refine hK.out _ _ (HSV8126.out) (fun hHeld=>?_)
  clear hK K
  try simp only [aP]
  refine rdy 7 ⟨some 68,.call ⟨ .value (.func 17),#[.tmp 63,.tmp 67],#[26,26]⟩,26,_,_,none⟩ rfl (fun K hK=>?_)
  go_simp
  refine (addRP V8126 XpV8126.out XqV8126.out (Luc.nmul_on gP_on _) (Luc.nmul_on HO.out _)).mono ?_
  rintro e V81267 ⟨Aj,cj,aj,Bj,dj,bj,ij,rfl,hq,hbN⟩
  have HSV81267:=lH (HSV8126.out.trans (hbN.mono HSV8126.out.size))
  have XjV81267:=lH hq
  have GSV81267:=lH (GSV8126.out.under hbN (Holds.lt GSV8126.out))
  have HGV81267:=lH HGV8126.out
  clear hbN hq
  clear HSV8126 XpV8126 XqV8126 GSV8126 HGV8126
  go_simp
  refine hK.out _ _ (HSV81267.out) (fun hHeld=>?_)
  clear hK K
  try simp only [aP]
  refine rdy 9 ⟨none,.store 26 (.tmp 14) (.tmp 68),0,_,_,none⟩ rfl (fun K hK=>?_)
  have z0:=GSV81267.out.cell 0
  have o0:=GSV81267.out.open_ 0
  have z1:=GSV81267.out.cell 1
  have o1:=GSV81267.out.open_ 1
  have z2:=GSV81267.out.cell 2
  have o2:=GSV81267.out.open_ 2
  obtain ⟨V812679,hN⟩:∃ W,W=(((V81267.setCell ⟨gs,0,none⟩ (.slice Aj aj.length cj)).setCell ⟨gs,1,none⟩ (.slice Bj bj.length dj)).setCell ⟨gs,2,none⟩ (.bool ij)):=⟨_,rfl⟩
  go_simp
  rw [←hN]
  have GSV812679:Hid (Holds V812679 gs 26 #[.slice Aj aj.length cj,.slice Bj bj.length dj,.bool ij]):=lH (by rw [hN];exact set3 GSV81267.out _ _ _)
  have HSV812679:Hid (Below W8.heap.size W8 V812679):=lH (by rw [hN];exact below3 HSV81267.out HGV81267.out _ _ _)
  have XjV812679:Hid (PtV (Luc.add (Luc.nmul gP (val (numOf dg)*x % val lN)) (Luc.nmul Q (val R*x % val lN))) V812679 Aj cj aj Bj dj bj ij):=lH ⟨XjV81267.out.inf,by rw [hN];exact XjV81267.out.x.store3 GSV81267.out no_numsP _ _ _,by rw [hN];exact XjV81267.out.y.store3 GSV81267.out no_numsP _ _ _⟩
  clear hN z0 z1 z2 o0 o1 o2
  clear HSV81267 XjV81267 GSV81267 HGV81267
  refine hK.out _ _ (HSV812679.out) (fun hHeld=>?_)
  clear hK K
  try simp only [aP]
  refine wpAnyH_done (by kernel_rfl) ?_ _
  refine NoPanic.normal ?_
  rw [HQ.out]
  exact ⟨rfl,gs,Aj,cj,aj,Bj,dj,bj,ij,rfl,rfl,HSV812679.out,XjV812679.out,GSV812679.out⟩
 rintro e a W9 hq
 rw [HQ.out] at hq
 obtain ⟨rfl,gs,Aj,cj,aj,Bj,dj,bj,ij,htm,hdf,hb,hV,hG⟩:=hq
 clear HQ
 obtain ⟨tm,df⟩:=a
 dsimp only at htm hdf
 subst hdf
 obtain ⟨U,hU⟩:∃ U:Nat→Value,∀ i,tm.getD i undef=U i:=⟨_,fun _=>rfl⟩
 simp only [tG,hU] at htm
 clear hU
 subst htm
 clear RU8 RV8 VQ8 KB8
 have HB9:=lH (HB8.out.trans (hb.mono HB8.out.size))
 have SB9:=lH (SB8.out.under hb (Holds.lt SB8.out))
 have RR9:=lH ((RR8.out.under hb).more hb.size)
 have HN9:=lH ((HN8.out.under hb).more hb.size)
 clear hb HB8 SB8 RR8 HN8
 have Vj9:=lH hV
 have PB9:=lH hG
 clear hV hG
 rcases HT:Luc.add (Luc.nmul gP (val (numOf dg)*x % val lN)) (Luc.nmul Q (val R*x % val lN)) with _ | ⟨xj,yj⟩
 ·rw [HT] at Vj9
  have HF:=lH (verF_none HT)
  clear HT
  obtain rfl:ij=true:=Vj9.out.inf
  have p0:=PB9.out.cell 0
  have p1:=PB9.out.cell 1
  have p2:=PB9.out.cell 2
  go_wp2_with fail
  go_ret
  exact ⟨x,HX1.out,HX2.out,by rw [HF.out];rfl,HB9.out⟩
 ·rw [HT] at Vj9
  have HF:=lH (verF_some HT)
  clear HT
  obtain rfl:ij=false:=Vj9.out.inf
  have p0:=PB9.out.cell 0
  have p1:=PB9.out.cell 1
  have p2:=PB9.out.cell 2
  go_wp2_with fail
  refine (restN' W9 Vj9.out.x.rd HN9.out Vj9.out.x.dg Vj9.out.x.nrm (by have:=Vj9.out.x.le;omega)).mono ?_
  rintro e W10 ⟨Ax3,cx3,lx3,rfl,hn,hr,hb⟩
  have HB10:=lH (HB9.out.trans (hb.mono HB9.out.size))
  have SB10:=lH (SB9.out.under hb (Holds.lt SB9.out))
  have RR10:=lH ((RR9.out.under hb).more hb.size)
  have HN10:=lH ((HN9.out.under hb).more hb.size)
  have Vj10:=lH (Vj9.out.under hb)
  have PB10:=lH (PB9.out.under hb (Holds.lt PB9.out))
  clear hb HB9 SB9 RR9 HN9 Vj9 PB9
  clear p0 p1 p2
  have HLX:=lH hn
  have RX10:=lH hr
  clear hn hr
  have HV0:Hid ((cmpL lx3 R == 0)=verF Q (val (numOf dg)) (val R) x):=lH (by rw [cmp_is HLX.out HDR.out (fit_facts HRf.out HDR.out).1,HF.out,Vj10.out.x.val];rfl)
  obtain ⟨v,hv⟩:∃ v,cmpL lx3 R=v:=⟨_,rfl⟩
  rw [hv] at HV0
  have HV:=lH hv
  have HVT:Hid (cmpL (trl lx3) (trl R)=v):=lH (by rw [trl_id HLX.out.2.1,trl_id (fit_facts HRf.out HDR.out).1];exact hv)
  clear hv
  have s0:=SB10.out.cell 0
  have s1:=SB10.out.cell 1
  go_wp2_with fail
  refine (cmp'_any W10 _ _ _ _ _ _ lx3 R RX10.out RR10.out v HV.out).mono ?_
  rintro e W11 ⟨rfl,q,hq⟩
  have HBE:Hid (Below w.heap.size w W11):=lH (by rw [hq];exact bdN HB10.out q)
  clear hq s0 s1
  go_wp2_with fail
  go_ret
  exact ⟨x,HX1.out,HX2.out,by rw [←HV0.out];rfl,HBE.out⟩
theorem verifyD_no (w:World) (al en:Int) {An Ax Ay Ad Ar As:Option Addr} {cn cx cy nd cd cr cs:Nat} {ln lx ly R S:List Nat} {inf:Bool} (hx:Rd .u32 w w.heap.size Ax cx lx) (hy:Rd .u32 w w.heap.size Ay cy ly) (hdx:Dg lx) (hdy:Dg ly) (hsx:lx.length≤1000) (hsy:ly.length≤1000) (hR:Rd .u32 w w.heap.size Ar cr R) (hS:Rd .u32 w w.heap.size As cs S) (hno:(keyB al ln en lx ly inf && decide (nd=32) && fitB R && fitB S)=false) :
  Calls Tryd.prog 32 #[.agg #[.int .i64 al,.slice An ln.length cn,.int .u32 en,.slice Ax lx.length cx,.slice Ay ly.length cy,.bool inf],.slice Ad nd cd,.agg #[.slice Ar R.length cr,.slice As S.length cs]] w fun e w'=>e = .returned (.bool false)∧Below w.heap.size w w':=by
 obtain ⟨w1,hw1⟩:∃ W,W=w.alloc (.cells #[.int .i64 al,.slice An ln.length cn,.int .u32 en,.slice Ax lx.length cx,.slice Ay ly.length cy,.bool inf] 45):=⟨_,rfl⟩
 have hz1:w1.heap.size=w.heap.size+1:=by rw [hw1];simp
 have hb1:Below w.heap.size w w1:=by rw [hw1];exact (Below.refl _ _).alloc (Nat.le_refl _) _
 obtain ⟨W0,hw2⟩:∃ W,W=w1.alloc (.cells #[.slice Ar R.length cr,.slice As S.length cs] 48):=⟨_,rfl⟩
 have hb:Below w.heap.size w W0:=by rw [hw2];exact hb1.alloc hb1.size _
 have SB0:Hid (Holds W0 (w.heap.size+1) 48 #[.slice Ar R.length cr,.slice As S.length cs]):=lH (by rw [hw2,←hz1];exact Holds.fresh w1 _ _)
 have HB0:=lH hb
 have RR0:=lH ((hR.under hb).more hb.size)
 have RS0:=lH ((hS.under hb).more hb.size)
 have RX:=lH hx
 have RY:=lH hy
 have HDX:=lH hdx
 have HDY:=lH hdy
 have HZX:=lH hsx
 have HZY:=lH hsy
 clear hsx hsy
 have HW:=lH (hw1 ▸ hw2:W0=(w.alloc (.cells #[.int .i64 al,.slice An ln.length cn,.int .u32 en,.slice Ax lx.length cx,.slice Ay ly.length cy,.bool inf] 45)).alloc (.cells #[.slice Ar R.length cr,.slice As S.length cs] 48))
 clear hw1 hz1 hb1 hw2 hb hx hy hdx hdy hR hS
 by_cases hk:keyB al ln en lx ly inf=true
 ·have HK:=lH hk
  by_cases hn:nd=32
  ·subst hn
   by_cases hr:fitB R=true
   ·have HRf:=lH hr
    have HSf:Hid (fitB S=false):=lH (by rw [hk,hr] at hno;simpa using hno)
    clear hk hr hno
    go_enter Tryd.func32,Tryd.ntmps32
    go_wp2_with fail
    rw [←HW.out]
    clear HW
    refine (keyYes' W0 ((RX.out.under HB0.out).more HB0.out.size) ((RY.out.under HB0.out).more HB0.out.size) HDX.out HDY.out HZX.out HZY.out HK.out).mono ?_
    rintro e W1 ⟨rfl,hb⟩
    have HB1:=lH (HB0.out.trans (hb.mono HB0.out.size))
    have SB1:=lH (SB0.out.under hb (Holds.lt SB0.out))
    have RR1:=lH ((RR0.out.under hb).more hb.size)
    have RS1:=lH ((RS0.out.under hb).more hb.size)
    clear hb HB0 SB0 RR0 RS0
    have s0:=SB1.out.cell 0
    have s1:=SB1.out.cell 1
    go_wp2_with fail
    refine (fitV' W1 RR1.out HRf.out).mono ?_
    rintro e W2 ⟨rfl,hb⟩
    have HB2:=lH (HB1.out.trans (hb.mono HB1.out.size))
    have SB2:=lH (SB1.out.under hb (Holds.lt SB1.out))
    have RR2:=lH ((RR1.out.under hb).more hb.size)
    have RS2:=lH ((RS1.out.under hb).more hb.size)
    clear hb HB1 SB1 RR1 RS1
    clear s0 s1
    have s0:=SB2.out.cell 0
    have s1:=SB2.out.cell 1
    go_wp2_with fail
    refine (fitV' W2 RS2.out HSf.out).mono ?_
    rintro e W3 ⟨rfl,hb⟩
    have HB3:=lH (HB2.out.trans (hb.mono HB2.out.size))
    have SB3:=lH (SB2.out.under hb (Holds.lt SB2.out))
    have RR3:=lH ((RR2.out.under hb).more hb.size)
    have RS3:=lH ((RS2.out.under hb).more hb.size)
    clear hb HB2 SB2 RR2 RS2
    clear s0 s1
    go_wp2_with fail
    go_ret
    exact ⟨rfl,HB3.out⟩
   ·have HRf:Hid (fitB R=false):=lH (by simpa using hr)
    clear hk hr hno
    go_enter Tryd.func32,Tryd.ntmps32
    go_wp2_with fail
    rw [←HW.out]
    clear HW
    refine (keyYes' W0 ((RX.out.under HB0.out).more HB0.out.size) ((RY.out.under HB0.out).more HB0.out.size) HDX.out HDY.out HZX.out HZY.out HK.out).mono ?_
    rintro e W1 ⟨rfl,hb⟩
    have HB1:=lH (HB0.out.trans (hb.mono HB0.out.size))
    have SB1:=lH (SB0.out.under hb (Holds.lt SB0.out))
    have RR1:=lH ((RR0.out.under hb).more hb.size)
    have RS1:=lH ((RS0.out.under hb).more hb.size)
    clear hb HB0 SB0 RR0 RS0
    have s0:=SB1.out.cell 0
    have s1:=SB1.out.cell 1
    go_wp2_with fail
    refine (fitV' W1 RR1.out HRf.out).mono ?_
    rintro e W2 ⟨rfl,hb⟩
    have HB2:=lH (HB1.out.trans (hb.mono HB1.out.size))
    have SB2:=lH (SB1.out.under hb (Holds.lt SB1.out))
    have RR2:=lH ((RR1.out.under hb).more hb.size)
    have RS2:=lH ((RS1.out.under hb).more hb.size)
    clear hb HB1 SB1 RR1 RS1
    clear s0 s1
    go_wp2_with fail
    go_ret
    exact ⟨rfl,HB2.out⟩
  ·have HN:Hid (((nd:Int) != 32)=true):=lH (by rw [bne_iff_ne];omega)
   clear hk hn hno
   go_enter Tryd.func32,Tryd.ntmps32
   go_wp2_with fail
   rw [←HW.out]
   clear HW
   refine (keyYes' W0 ((RX.out.under HB0.out).more HB0.out.size) ((RY.out.under HB0.out).more HB0.out.size) HDX.out HDY.out HZX.out HZY.out HK.out).mono ?_
   rintro e W1 ⟨rfl,hb⟩
   have HB1:=lH (HB0.out.trans (hb.mono HB0.out.size))
   have SB1:=lH (SB0.out.under hb (Holds.lt SB0.out))
   have RR1:=lH ((RR0.out.under hb).more hb.size)
   have RS1:=lH ((RS0.out.under hb).more hb.size)
   clear hb HB0 SB0 RR0 RS0
   have h1:=HN.out
   go_wp2_with fail
   go_ret
   exact ⟨rfl,HB1.out⟩
 ·have HK:Hid (keyB al ln en lx ly inf=false):=lH (by simpa using hk)
  clear hk hno
  go_enter Tryd.func32,Tryd.ntmps32
  go_wp2_with fail
  rw [←HW.out]
  clear HW
  refine (keyYes' W0 ((RX.out.under HB0.out).more HB0.out.size) ((RY.out.under HB0.out).more HB0.out.size) HDX.out HDY.out HZX.out HZY.out HK.out).mono ?_
  rintro e W1 ⟨rfl,hb⟩
  have HB1:=lH (HB0.out.trans (hb.mono HB0.out.size))
  have SB1:=lH (SB0.out.under hb (Holds.lt SB0.out))
  have RR1:=lH ((RR0.out.under hb).more hb.size)
  have RS1:=lH ((RS0.out.under hb).more hb.size)
  clear hb HB0 SB0 RR0 RS0
  go_wp2_with fail
  go_ret
  exact ⟨rfl,HB1.out⟩
end Go.Proofs.YtflfdglpljodbaaDoor
namespace Go.Proofs.YtflfdglpljodbaaDoor
open Go.RowKit
set_option linter.unusedVariables false
set_option linter.unusedSimpArgs false
theorem inv_ex {p a:Nat} (hp:Luc.Prime p) (ha:¬ p∣a):∃ x,x<p∧a*x % p=1:=by
 obtain ⟨k,rfl⟩:∃ k,p=k+2:=⟨p - 2,by have:=hp.1;omega⟩
 refine ⟨a ^ k % (k+2),Nat.mod_lt _ (by omega),?_⟩
 rw [Nat.mul_mod,Nat.mod_mod,←Nat.mul_mod,←Nat.pow_succ']
 exact Luc.fermat hp ha
theorem keyB_pt {w:World} {Q:Luc.Pt} {A1 A2:Option Addr} {c1 c2:Nat} {l1 l2:List Nat} (h:PtV Q w A1 c1 l1 A2 c2 l2 false) (ho:Luc.OnC Q):keyB 2 [] 0 l1 l2 false=true:=by
 unfold keyB
 rw [ptOk_yes h ho]
 rfl
theorem keyB_inf:keyB 2 [] 0 [] [] true=false:=by simp [keyB]
theorem fit_nil:fitB []=false:=by simp [fitB]
theorem key_parts {al en:Int} {ln lx ly:List Nat} {inf:Bool} (h:keyB al ln en lx ly inf=true):inf=false∧ptOk lx ly inf=true:=by
 unfold keyB at h
 simp only [Bool.and_eq_true] at h
 obtain ⟨⟨⟨⟨_,h1⟩,h2⟩,_⟩,_⟩:=h
 cases inf
 ·exact ⟨rfl,h2⟩
 ·cases h1
theorem verdict (w:World) (hm:CMet w) (al en:Int) {An Ax Ay Ad Ar As:Option Addr} {cn cx cy nd cd cr cs:Nat} {ln lx ly dg R S:List Nat} {inf:Bool} (hx:Rd .u32 w w.heap.size Ax cx lx) (hy:Rd .u32 w w.heap.size Ay cy ly) (hdx:Dg lx) (hdy:Dg ly) (hsx:lx.length≤1000) (hsy:ly.length≤1000) (hD:Rd .u8 w w.heap.size Ad cd dg) (hnd:dg.length=nd) (ho:Oct dg.reverse) (hR:Rd .u32 w w.heap.size Ar cr R) (hRd:Dg R) (hS:Rd .u32 w w.heap.size As cs S) (hSd:Dg S) :
  ∃ c:Bool,(∀ W,Below w.heap.size w W→Calls Tryd.prog 31 #[.agg #[.int .i64 al,.slice An ln.length cn,.int .u32 en,.slice Ax lx.length cx,.slice Ay ly.length cy,.bool inf],.slice Ad nd cd,.agg #[.slice Ar R.length cr,.slice As S.length cs]] W fun e W'=>e = .returned (.bool c)∧Below W.heap.size W W') ∧
   (∀ W,Below w.heap.size w W→Calls Tryd.prog 32 #[.agg #[.int .i64 al,.slice An ln.length cn,.int .u32 en,.slice Ax lx.length cx,.slice Ay ly.length cy,.bool inf],.slice Ad nd cd,.agg #[.slice Ar R.length cr,.slice As S.length cs]] W fun e W'=>e = .returned (.bool c)∧Below W.heap.size W W'):=by
 by_cases hok:(keyB al ln en lx ly inf && decide (nd=32) && fitB R && fitB S)=true
 ·rw [Bool.and_eq_true,Bool.and_eq_true,Bool.and_eq_true,decide_eq_true_eq] at hok
  obtain ⟨⟨⟨hk,h32⟩,hRf⟩,hSf⟩:=hok
  obtain ⟨rfl,hpt⟩:=key_parts hk
  obtain ⟨Q,hO,hQ⟩:=key_pt hx hy hdx hdy hpt
  subst h32
  obtain ⟨hSn,hS0,hSlt,_⟩:=fit_facts hSf hSd
  obtain ⟨x,hx1,hx2⟩:=inv_ex Luc.cNn_prime (a:=val S) (fun hdv=>absurd (Nat.le_of_dvd (by omega) hdv) (by rw [lN_val] at hSlt;omega))
  rw [←lN_val] at hx1 hx2
  refine ⟨verF Q (val (numOf dg)) (val R) x,fun W hb=>?_,fun W hb=>?_⟩
  ·refine (verify_yes W (hm.under hb) al en (hQ.under hb) hO hk ((hD.under hb).more hb.size) hnd ho ((hR.under hb).more hb.size) hRd hRf ((hS.under hb).more hb.size) hSd hSf).mono ?_
   rintro e W' ⟨y,hy1,hy2,rfl,hb'⟩
   obtain rfl:=inv_one hx1 hy1 hx2 hy2
   exact ⟨rfl,hb'⟩
  ·refine (verifyD_yes W al en (hQ.under hb) hO hk ((hD.under hb).more hb.size) hnd ho ((hR.under hb).more hb.size) hRd hRf ((hS.under hb).more hb.size) hSd hSf).mono ?_
   rintro e W' ⟨y,hy1,hy2,rfl,hb'⟩
   obtain rfl:=inv_one hx1 hy1 hx2 hy2
   exact ⟨rfl,hb'⟩
 ·rw [Bool.not_eq_true] at hok
  exact ⟨false,fun W hb=>verify_no W (hm.under hb) al en ((hx.under hb).more hb.size) ((hy.under hb).more hb.size) hdx hdy ((hR.under hb).more hb.size) ((hS.under hb).more hb.size) hok,
   fun W hb=>verifyD_no W al en ((hx.under hb).more hb.size) ((hy.under hb).more hb.size) hdx hdy hsx hsy ((hR.under hb).more hb.size) ((hS.under hb).more hb.size) hok⟩
theorem known11_any (w:World) (hm:CMet w):Calls Tryd.prog 33 #[] w fun e w'=>e = .returned (.bool true)∧Below w.heap.size w w':=by
 have HM:=lH hm
 clear hm
 go_enter Tryd.func33,Tryd.ntmps33
 go_wp2_with fail
 refine wp_region_noPanic ?_
 refine wp_region_held_drew (S:=fun W=>Below w.heap.size w W) (by kernel_rfl) ((Below.refl _ w).drew) (fun hHeld=>?_)
 obtain ⟨V,hV⟩:∃ W,W=w.drew:=⟨_,rfl⟩
 rw [←hV]
 have HSV:Hid (Below w.heap.size w V):=lH (by rw [hV];exact (Below.refl _ w).drew)
 replace hHeld:(fun W=>Below w.heap.size w W) V:=HSV.out
 clear hV
 refine rdy 0 ⟨some 1,.call ⟨ .value (.func 13),#[],#[]⟩,26,_,_,none⟩ rfl (fun K hK=>?_)
 go_simp
 refine (refGP V).mono ?_
 rintro e V0 ⟨Ag,cg,ag,Bg,dg,bg,ig,rfl,hq,hbN⟩
 have HSV0:=lH (HSV.out.trans (hbN.mono HSV.out.size))
 obtain rfl:ig=false:=hq.inf
 have XGV0:=lH hq
 clear hq
 clear hbN HSV
 go_simp
 refine hK.out _ _ (HSV0.out) (fun hHeld=>?_)
 clear hK K
 try simp only [aP]
 refine tk 1 ⟨some 2,.build 45 #[(0,.const (.int .i64 2)),(3,.tmp 1)],45,_,_,none⟩ ?_ rfl ?_ hHeld ?_
 rotate_left 1
 ·(intro W hW;(try dsimp only at hW);go_simp;try with_reducible rfl)
 try simp only [aP]
 refine rdy 2 ⟨some 3,.call ⟨ .value (.func 29),#[.tmp 2],#[45]⟩,4,_,_,none⟩ rfl (fun K hK=>?_)
 go_simp
 refine (keyYes V0 (HM.out.under HSV0.out) (An:=none) (cn:=0) (ln:=[]) XGV0.out.x.rd XGV0.out.y.rd XGV0.out.x.dg XGV0.out.y.dg (keyB_pt XGV0.out gP_on)).mono ?_
 rintro e V02 ⟨rfl,hbN⟩
 have HSV02:=lH (HSV0.out.trans (hbN.mono HSV0.out.size))
 clear hbN HSV0 XGV0
 go_simp
 refine hK.out _ _ (HSV02.out) (fun hHeld=>?_)
 clear hK K
 try simp only [aP]
 refine tk 3 ⟨some 4,.move (.tmp 3),4,_,_,none⟩ ?_ rfl ?_ hHeld ?_
 rotate_left 1
 ·(intro W hW;(try dsimp only at hW);go_simp;try with_reducible rfl)
 try simp only [aP]
 refine tk 4 ⟨some 5,.build 26 #[(2,.const (.bool true))],26,_,_,some (3,true)⟩ ?_ rfl ?_ hHeld ?_
 rotate_left 1
 ·(intro W hW;(try dsimp only at hW);go_simp;try with_reducible rfl)
 try simp only [aP]
 refine tk 5 ⟨some 6,.build 45 #[(0,.const (.int .i64 2)),(3,.tmp 5)],45,_,_,some (3,true)⟩ ?_ rfl ?_ hHeld ?_
 rotate_left 1
 ·(intro W hW;(try dsimp only at hW);go_simp;try with_reducible rfl)
 try simp only [aP]
 refine rdy 6 ⟨some 7,.call ⟨ .value (.func 29),#[.tmp 6],#[45]⟩,4,_,_,some (3,true)⟩ rfl (fun K hK=>?_)
 go_simp
 refine (keyYes V02 (HM.out.under HSV02.out) (An:=none) (Ax:=none) (Ay:=none) (cn:=0) (cx:=0) (cy:=0) (ln:=[]) (lx:=[]) (ly:=[]) (Rd.nil_ _ _ _) (Rd.nil_ _ _ _) (fun x hx=>by cases hx) (fun x hx=>by cases hx) keyB_inf).mono ?_
 rintro e V026 ⟨rfl,hbN⟩
 have HSV026:=lH (HSV02.out.trans (hbN.mono HSV02.out.size))
 clear hbN HSV02
 go_simp
 refine hK.out _ _ (HSV026.out) (fun hHeld=>?_)
 clear hK K
 try simp only [aP]
 refine tk 7 ⟨some 8,.unOp .not 4 (.tmp 7),4,_,_,some (3,true)⟩ ?_ rfl ?_ hHeld ?_
 rotate_left 1
 ·(intro W hW;(try dsimp only at hW);go_simp;try with_reducible rfl)
 try simp only [aP]
 refine tk 8 ⟨some 9,.pick (.tmp 4) (.tmp 8) (.const (.bool false)),4,_,_,none⟩ ?_ rfl ?_ hHeld ?_
 rotate_left 1
 ·(intro W hW;(try dsimp only at hW);go_simp;try with_reducible rfl)
 try simp only [aP]
 refine tk 9 ⟨some 10,.move (.tmp 9),4,_,_,none⟩ ?_ rfl ?_ hHeld ?_
 rotate_left 1
 ·(intro W hW;(try dsimp only at hW);go_simp;try with_reducible rfl)
 try simp only [aP]
 refine tk 13 ⟨some 14,.build 48 #[],48,_,_,some (9,true)⟩ ?_ rfl ?_ hHeld ?_
 rotate_left 1
 ·(intro W hW;(try dsimp only at hW);go_simp;try with_reducible rfl)
 try simp only [aP]
 refine wpAnyH_ready (rs:=[10,12]) (by kernel_rfl) (by simp) ?_
 refine AllReadyH.cons (o:=⟨some 11,.call ⟨ .value (.func 13),#[],#[]⟩,26,_,_,some (9,true)⟩) rfl (fun K hK=>?_) ?_
 go_simp
 refine (refGP V026).mono ?_
 rintro e V026a ⟨Ag,cg,ag,Bg,dg,bg,ig,rfl,hq,hbN⟩
 have HSV026a:=lH (HSV026.out.trans (hbN.mono HSV026.out.size))
 obtain rfl:ig=false:=hq.inf
 have XGV026a:=lH hq
 clear hq
 clear hbN HSV026
 go_simp
 refine hK.out _ _ (HSV026a.out) (fun hHeld=>?_)
 clear hK K
 try simp only [aP]
 refine tk 11 ⟨some 12,.build 45 #[(0,.const (.int .i64 2)),(3,.tmp 11)],45,_,_,some (9,true)⟩ ?_ rfl ?_ hHeld ?_
 rotate_left 1
 ·(intro W hW;(try dsimp only at hW);go_simp;try with_reducible rfl)
 try simp only [aP]
 refine rdy 12 ⟨some 13,.makeSlice 46 (.const (.int .i64 32)) (.const (.int .i64 32)),46,_,_,some (9,true)⟩ rfl (fun K hK=>?_)
 have hmk:=make_bytes (32:Int) 32 rfl (by omega) V026a
 obtain ⟨z,hz⟩:∃ z,z=nums .u8 (List.replicate 32 0):=⟨_,rfl⟩
 rw [←hz] at hmk
 clear hz
 go_simp
 obtain ⟨V026ac,hN⟩:∃ W,W=V026a.alloc (.cells z 5):=⟨_,rfl⟩
 rw [←hN]
 have hbN:Below V026a.heap.size V026a V026ac:=by rw [hN];exact (Below.refl _ _).alloc (Nat.le_refl _) _
 have HSV026ac:=lH (HSV026a.out.trans (hbN.mono HSV026a.out.size))
 have XGV026ac:=lH (XGV026a.out.under hbN)
 clear hbN hN hmk HSV026a XGV026a
 refine hK.out _ _ (HSV026ac.out) (fun hHeld=>?_)
 clear hK K
 try simp only [aP]
 refine rdy 14 ⟨some 15,.call ⟨ .value (.func 31),#[.tmp 12,.tmp 13,.tmp 14],#[45,46,48]⟩,4,_,_,some (9,true)⟩ rfl (fun K hK=>?_)
 go_simp
 refine (verify_no V026ac (HM.out.under HSV026ac.out) 2 0 (An:=none) (Ar:=none) (As:=none) (cn:=0) (cr:=0) (cs:=0) (nd:=32) (ln:=[]) (R:=[]) (S:=[]) XGV026ac.out.x.rd XGV026ac.out.y.rd XGV026ac.out.x.dg XGV026ac.out.y.dg (Rd.nil_ _ _ _) (Rd.nil_ _ _ _) (by rw [fit_nil,Bool.and_false])).mono ?_
 rintro e V026ace ⟨rfl,hbN⟩
 have HSV026ace:=lH (HSV026ac.out.trans (hbN.mono HSV026ac.out.size))
 clear hbN HSV026ac XGV026ac
 go_simp
 refine hK.out _ _ (HSV026ace.out) (fun hHeld=>?_)
 clear hK K
 try simp only [aP]
 refine tk 15 ⟨some 16,.unOp .not 4 (.tmp 15),4,_,_,some (9,true)⟩ ?_ rfl ?_ hHeld ?_
 rotate_left 1
 ·(intro W hW;(try dsimp only at hW);go_simp;try with_reducible rfl)
 try simp only [aP]
 refine tk 16 ⟨some 17,.pick (.tmp 10) (.tmp 16) (.const (.bool false)),4,_,_,none⟩ ?_ rfl ?_ hHeld ?_
 rotate_left 1
 ·(intro W hW;(try dsimp only at hW);go_simp;try with_reducible rfl)
 try simp only [aP]
 refine tk 17 ⟨some 0,.assign (.tmp 17),4,_,_,none⟩ ?_ rfl ?_ hHeld ?_
 rotate_left 1
 ·(intro W hW;(try dsimp only at hW);go_simp;try with_reducible rfl)
 try simp only [aP]
 refine wpAnyH_done (by kernel_rfl) ?_ _
 refine NoPanic.normal ?_
 go_wp2_with fail
 go_ret
 exact ⟨rfl,HSV026ace.out⟩
 refine AllReadyH.cons (o:=⟨some 13,.makeSlice 46 (.const (.int .i64 32)) (.const (.int .i64 32)),46,_,_,some (9,true)⟩) rfl (fun K hK=>?_) AllReadyH.nil
 have hmk:=make_bytes (32:Int) 32 rfl (by omega) V026
 obtain ⟨z,hz⟩:∃ z,z=nums .u8 (List.replicate 32 0):=⟨_,rfl⟩
 rw [←hz] at hmk
 clear hz
 go_simp
 obtain ⟨V026c,hN⟩:∃ W,W=V026.alloc (.cells z 5):=⟨_,rfl⟩
 rw [←hN]
 have hbN:Below V026.heap.size V026 V026c:=by rw [hN];exact (Below.refl _ _).alloc (Nat.le_refl _) _
 have HSV026c:=lH (HSV026.out.trans (hbN.mono HSV026.out.size))
 clear hbN hN hmk HSV026
 refine hK.out _ _ (HSV026c.out) (fun hHeld=>?_)
 clear hK K
 try simp only [aP]
 refine rdy 10 ⟨some 11,.call ⟨ .value (.func 13),#[],#[]⟩,26,_,_,some (9,true)⟩ rfl (fun K hK=>?_)
 go_simp
 refine (refGP V026c).mono ?_
 rintro e V026ca ⟨Ag,cg,ag,Bg,dg,bg,ig,rfl,hq,hbN⟩
 have HSV026ca:=lH (HSV026c.out.trans (hbN.mono HSV026c.out.size))
 obtain rfl:ig=false:=hq.inf
 have XGV026ca:=lH hq
 clear hq
 clear hbN HSV026c
 go_simp
 refine hK.out _ _ (HSV026ca.out) (fun hHeld=>?_)
 clear hK K
 try simp only [aP]
 refine tk 11 ⟨some 12,.build 45 #[(0,.const (.int .i64 2)),(3,.tmp 11)],45,_,_,some (9,true)⟩ ?_ rfl ?_ hHeld ?_
 rotate_left 1
 ·(intro W hW;(try dsimp only at hW);go_simp;try with_reducible rfl)
 try simp only [aP]
 refine rdy 14 ⟨some 15,.call ⟨ .value (.func 31),#[.tmp 12,.tmp 13,.tmp 14],#[45,46,48]⟩,4,_,_,some (9,true)⟩ rfl (fun K hK=>?_)
 go_simp
 refine (verify_no V026ca (HM.out.under HSV026ca.out) 2 0 (An:=none) (Ar:=none) (As:=none) (cn:=0) (cr:=0) (cs:=0) (nd:=32) (ln:=[]) (R:=[]) (S:=[]) XGV026ca.out.x.rd XGV026ca.out.y.rd XGV026ca.out.x.dg XGV026ca.out.y.dg (Rd.nil_ _ _ _) (Rd.nil_ _ _ _) (by rw [fit_nil,Bool.and_false])).mono ?_
 rintro e V026cae ⟨rfl,hbN⟩
 have HSV026cae:=lH (HSV026ca.out.trans (hbN.mono HSV026ca.out.size))
 clear hbN HSV026ca XGV026ca
 go_simp
 refine hK.out _ _ (HSV026cae.out) (fun hHeld=>?_)
 clear hK K
 try simp only [aP]
 refine tk 15 ⟨some 16,.unOp .not 4 (.tmp 15),4,_,_,some (9,true)⟩ ?_ rfl ?_ hHeld ?_
 rotate_left 1
 ·(intro W hW;(try dsimp only at hW);go_simp;try with_reducible rfl)
 try simp only [aP]
 refine tk 16 ⟨some 17,.pick (.tmp 10) (.tmp 16) (.const (.bool false)),4,_,_,none⟩ ?_ rfl ?_ hHeld ?_
 rotate_left 1
 ·(intro W hW;(try dsimp only at hW);go_simp;try with_reducible rfl)
 try simp only [aP]
 refine tk 17 ⟨some 0,.assign (.tmp 17),4,_,_,none⟩ ?_ rfl ?_ hHeld ?_
 rotate_left 1
 ·(intro W hW;(try dsimp only at hW);go_simp;try with_reducible rfl)
 try simp only [aP]
 refine wpAnyH_done (by kernel_rfl) ?_ _
 refine NoPanic.normal ?_
 go_wp2_with fail
 go_ret
 exact ⟨rfl,HSV026cae.out⟩
theorem law_ecTells (w:World) (hm:CMet w) (al en:Int) {An Ax Ay Ad Ar As:Option Addr} {cn cx cy nd cd cr cs:Nat} {ln lx ly dg R S:List Nat} {inf:Bool} (hx:Rd .u32 w w.heap.size Ax cx lx) (hy:Rd .u32 w w.heap.size Ay cy ly) (hdx:Dg lx) (hdy:Dg ly) (hD:Rd .u8 w w.heap.size Ad cd dg) (hnd:dg.length=nd) (hod:∀ x∈dg,x<256) (hR:Rd .u32 w w.heap.size Ar cr R) (hRd:Dg R) (hS:Rd .u32 w w.heap.size As cs S) (hSd:Dg S) :
  Calls Tryd.prog 8 #[.agg #[.int .i64 al,.slice An ln.length cn,.int .u32 en,.slice Ax lx.length cx,.slice Ay ly.length cy,.bool inf],.slice Ad nd cd,.agg #[.slice Ar R.length cr,.slice As S.length cs]] w fun e w'=>e = .returned (.bool true)∧Below w.heap.size w w':=by
 have ho:Oct dg.reverse:=fun i=>by
  rcases Nat.lt_or_ge i dg.reverse.length with h | h
  ·rw [List.getD_eq_getElem?_getD,List.getElem?_eq_getElem h]
   exact hod _ (List.mem_reverse.1 (List.getElem_mem h))
  ·simp [List.getD,List.getElem?_eq_none h]
 clear hod
 obtain ⟨w1,hw1⟩:∃ W,W=w.alloc (.cells #[.int .i64 al,.slice An ln.length cn,.int .u32 en,.slice Ax lx.length cx,.slice Ay ly.length cy,.bool inf] 45):=⟨_,rfl⟩
 have hz1:w1.heap.size=w.heap.size+1:=by rw [hw1];simp
 have hb1:Below w.heap.size w w1:=by rw [hw1];exact (Below.refl _ _).alloc (Nat.le_refl _) _
 obtain ⟨W0,hw2⟩:∃ W,W=w1.alloc (.cells #[.slice Ar R.length cr,.slice As S.length cs] 48):=⟨_,rfl⟩
 have hb:Below w.heap.size w W0:=by rw [hw2];exact hb1.alloc hb1.size _
 have KB0:Hid (Holds W0 w.heap.size 45 #[.int .i64 al,.slice An ln.length cn,.int .u32 en,.slice Ax lx.length cx,.slice Ay ly.length cy,.bool inf]):=lH (by rw [hw2,hw1];exact (Holds.fresh w _ _).alloc _)
 have SB0:Hid (Holds W0 (w.heap.size+1) 48 #[.slice Ar R.length cr,.slice As S.length cs]):=lH (by rw [hw2,←hz1];exact Holds.fresh w1 _ _)
 have HB0:=lH hb
 have HM0:=lH (hm.under hb)
 have HW:=lH (hw1 ▸ hw2:W0=(w.alloc (.cells #[.int .i64 al,.slice An ln.length cn,.int .u32 en,.slice Ax lx.length cx,.slice Ay ly.length cy,.bool inf] 45)).alloc (.cells #[.slice Ar R.length cr,.slice As S.length cs] 48))
 obtain ⟨bk,hkb⟩:∃ b,keyB al ln en lx ly inf=b:=⟨_,rfl⟩
 have HKB:=lH hkb
 clear hw1 hz1 hb1 hw2 hb hkb
 by_cases q0:40<ln.length
 ·have n0:decide ((40:Int)<(ln.length:Int))=true:=decide_eq_true (by omega)
  have m0:decide (40<ln.length)=true:=decide_eq_true (by omega)
  clear q0 hx hy hdx hdy hD hnd ho hR hRd hS hSd hm HW KB0 SB0 HM0 HB0
  go_enter Tryd.func8,Tryd.ntmps8
  go_wp2_with fail
  go_ret
  exact ⟨rfl,((Below.refl _ _).alloc (Nat.le_refl _) _).alloc (by simp) _⟩
 ·have n0:decide ((40:Int)<(ln.length:Int))=false:=decide_eq_false (by omega)
  have m0:decide (40<ln.length)=false:=decide_eq_false (by omega)
  by_cases q1:40<lx.length
  ·have n1:decide ((40:Int)<(lx.length:Int))=true:=decide_eq_true (by omega)
   have m1:decide (40<lx.length)=true:=decide_eq_true (by omega)
   clear q1 hx hy hdx hdy hD hnd ho hR hRd hS hSd hm HW KB0 SB0 HM0 HB0
   go_enter Tryd.func8,Tryd.ntmps8
   go_wp2_with fail
   go_ret
   exact ⟨rfl,((Below.refl _ _).alloc (Nat.le_refl _) _).alloc (by simp) _⟩
  ·have n1:decide ((40:Int)<(lx.length:Int))=false:=decide_eq_false (by omega)
   have m1:decide (40<lx.length)=false:=decide_eq_false (by omega)
   by_cases q2:40<ly.length
   ·have n2:decide ((40:Int)<(ly.length:Int))=true:=decide_eq_true (by omega)
    have m2:decide (40<ly.length)=true:=decide_eq_true (by omega)
    clear q2 hx hy hdx hdy hD hnd ho hR hRd hS hSd hm HW KB0 SB0 HM0 HB0
    go_enter Tryd.func8,Tryd.ntmps8
    go_wp2_with fail
    go_ret
    exact ⟨rfl,((Below.refl _ _).alloc (Nat.le_refl _) _).alloc (by simp) _⟩
   ·have n2:decide ((40:Int)<(ly.length:Int))=false:=decide_eq_false (by omega)
    have m2:decide (40<ly.length)=false:=decide_eq_false (by omega)
    by_cases q3:100<nd
    ·have n3:decide ((100:Int)<(nd:Int))=true:=decide_eq_true (by omega)
     have m3:decide (100<nd)=true:=decide_eq_true (by omega)
     clear q3 hx hy hdx hdy hD hnd ho hR hRd hS hSd hm HW KB0 SB0 HM0 HB0
     go_enter Tryd.func8,Tryd.ntmps8
     go_wp2_with fail
     go_ret
     exact ⟨rfl,((Below.refl _ _).alloc (Nat.le_refl _) _).alloc (by simp) _⟩
    ·have n3:decide ((100:Int)<(nd:Int))=false:=decide_eq_false (by omega)
     have m3:decide (100<nd)=false:=decide_eq_false (by omega)
     by_cases q4:40<R.length
     ·have n4:decide ((40:Int)<(R.length:Int))=true:=decide_eq_true (by omega)
      have m4:decide (40<R.length)=true:=decide_eq_true (by omega)
      clear q4 hx hy hdx hdy hD hnd ho hR hRd hS hSd hm HW KB0 SB0 HM0 HB0
      go_enter Tryd.func8,Tryd.ntmps8
      go_wp2_with fail
      go_ret
      exact ⟨rfl,((Below.refl _ _).alloc (Nat.le_refl _) _).alloc (by simp) _⟩
     ·have n4:decide ((40:Int)<(R.length:Int))=false:=decide_eq_false (by omega)
      have m4:decide (40<R.length)=false:=decide_eq_false (by omega)
      by_cases q5:40<S.length
      ·have n5:decide ((40:Int)<(S.length:Int))=true:=decide_eq_true (by omega)
       have m5:decide (40<S.length)=true:=decide_eq_true (by omega)
       clear q5 hx hy hdx hdy hD hnd ho hR hRd hS hSd hm HW KB0 SB0 HM0 HB0
       go_enter Tryd.func8,Tryd.ntmps8
       go_wp2_with fail
       go_ret
       exact ⟨rfl,((Below.refl _ _).alloc (Nat.le_refl _) _).alloc (by simp) _⟩
      ·have n5:decide ((40:Int)<(S.length:Int))=false:=decide_eq_false (by omega)
       have m5:decide (40<S.length)=false:=decide_eq_false (by omega)
       obtain ⟨c,hc1,hc2⟩:=verdict w hm al en (An:=An) (cn:=cn) (ln:=ln) (inf:=inf) hx hy hdx hdy (by omega) (by omega) hD hnd ho hR hRd hS hSd
       have HC1:=lH hc1
       have HC2:=lH hc2
       have RX:=lH hx
       have RY:=lH hy
       have HDX:=lH hdx
       have HDY:=lH hdy
       have HZX:Hid (lx.length≤1000):=lH (by omega)
       have HZY:Hid (ly.length≤1000):=lH (by omega)
       clear hx hy hdx hdy hD hnd ho hR hRd hS hSd hc1 hc2 hm
       go_enter Tryd.func8,Tryd.ntmps8
       go_wp2_with fail
       rw [←HW.out]
       clear HW n0 m0 n1 m1 n2 m2 n3 m3 n4 m4 n5 m5
       refine wp_region_noPanic ?_
       refine wp_region_held_drew (S:=fun W=>Holds W w.heap.size 45 #[.int .i64 al,.slice An ln.length cn,.int .u32 en,.slice Ax lx.length cx,.slice Ay ly.length cy,.bool inf]∧Holds W (w.heap.size+1) 48 #[.slice Ar R.length cr,.slice As S.length cs]∧True) (by kernel_rfl) (⟨KB0.out,SB0.out,trivial⟩) (fun hHeld=>?_)
       obtain ⟨W1,hV⟩:∃ W,W=W0.drew:=⟨_,rfl⟩
       rw [←hV]
       have hb:Below W0.heap.size W0 W1:=by rw [hV];exact (Below.refl _ W0).drew
       have HB1:=lH (HB0.out.trans (hb.mono HB0.out.size))
       have HM1:=lH (HM0.out.under hb)
       have KB1:=lH (KB0.out.under hb (Holds.lt KB0.out))
       have SB1:=lH (SB0.out.under hb (Holds.lt SB0.out))
       clear hb HB0 HM0 KB0 SB0
       have HS1:Hid ((fun W=>Holds W w.heap.size 45 #[.int .i64 al,.slice An ln.length cn,.int .u32 en,.slice Ax lx.length cx,.slice Ay ly.length cy,.bool inf]∧Holds W (w.heap.size+1) 48 #[.slice Ar R.length cr,.slice As S.length cs]∧True) W1):=lH ⟨KB1.out,SB1.out,trivial⟩
       replace hHeld:(fun W=>Holds W w.heap.size 45 #[.int .i64 al,.slice An ln.length cn,.int .u32 en,.slice Ax lx.length cx,.slice Ay ly.length cy,.bool inf]∧Holds W (w.heap.size+1) 48 #[.slice Ar R.length cr,.slice As S.length cs]∧True) W1:=HS1.out
       clear hV
       refine tk 0 ⟨some 42,.load 45 (.tmp 3),45,_,_,none⟩ ?_ rfl ?_ hHeld ?_
       rotate_left 1
       ·(intro W hW;have h0:=hW.1.cell 0;have h1:=hW.1.cell 1;have h2:=hW.1.cell 2;have h3:=hW.1.cell 3;have h4:=hW.1.cell 4;have h5:=hW.1.cell 5;(try dsimp only at hW);go_simp;try with_reducible rfl)
       try simp only [aP]
       refine tk 2 ⟨some 44,.load 45 (.tmp 3),45,_,_,none⟩ ?_ rfl ?_ hHeld ?_
       rotate_left 1
       ·(intro W hW;have h0:=hW.1.cell 0;have h1:=hW.1.cell 1;have h2:=hW.1.cell 2;have h3:=hW.1.cell 3;have h4:=hW.1.cell 4;have h5:=hW.1.cell 5;(try dsimp only at hW);go_simp;try with_reducible rfl)
       try simp only [aP]
       refine rdy 1 ⟨some 43,.call ⟨ .value (.func 29),#[.tmp 42],#[45]⟩,4,_,_,none⟩ rfl (fun K hK=>?_)
       go_simp
       refine (keyYes W1 HM1.out ((RX.out.under HB1.out).more HB1.out.size) ((RY.out.under HB1.out).more HB1.out.size) HDX.out HDY.out HKB.out).mono ?_
       rintro e W2 ⟨rfl,hb⟩
       have HB2:=lH (HB1.out.trans (hb.mono HB1.out.size))
       have HM2:=lH (HM1.out.under hb)
       have KB2:=lH (KB1.out.under hb (Holds.lt KB1.out))
       have SB2:=lH (SB1.out.under hb (Holds.lt SB1.out))
       clear hb HB1 HM1 KB1 SB1
       have HS2:Hid ((fun W=>Holds W w.heap.size 45 #[.int .i64 al,.slice An ln.length cn,.int .u32 en,.slice Ax lx.length cx,.slice Ay ly.length cy,.bool inf]∧Holds W (w.heap.size+1) 48 #[.slice Ar R.length cr,.slice As S.length cs]∧True) W2):=lH ⟨KB2.out,SB2.out,trivial⟩
       go_simp
       refine hK.out _ _ (HS2.out) (fun _=>?_)
       clear hK K hHeld
       try simp only [aP]
       have hHeld:(fun W=>Holds W w.heap.size 45 #[.int .i64 al,.slice An ln.length cn,.int .u32 en,.slice Ax lx.length cx,.slice Ay ly.length cy,.bool inf]∧Holds W (w.heap.size+1) 48 #[.slice Ar R.length cr,.slice As S.length cs]∧True) W2:=HS2.out
       refine rdy 3 ⟨some 45,.call ⟨ .value (.func 30),#[.tmp 44],#[45]⟩,4,_,_,none⟩ rfl (fun K hK=>?_)
       go_simp
       refine (keyYes' W2 ((RX.out.under HB2.out).more HB2.out.size) ((RY.out.under HB2.out).more HB2.out.size) HDX.out HDY.out HZX.out HZY.out HKB.out).mono ?_
       rintro e W3 ⟨rfl,hb⟩
       have HB3:=lH (HB2.out.trans (hb.mono HB2.out.size))
       have HM3:=lH (HM2.out.under hb)
       have KB3:=lH (KB2.out.under hb (Holds.lt KB2.out))
       have SB3:=lH (SB2.out.under hb (Holds.lt SB2.out))
       clear hb HB2 HM2 KB2 SB2
       have HS3:Hid ((fun W=>Holds W w.heap.size 45 #[.int .i64 al,.slice An ln.length cn,.int .u32 en,.slice Ax lx.length cx,.slice Ay ly.length cy,.bool inf]∧Holds W (w.heap.size+1) 48 #[.slice Ar R.length cr,.slice As S.length cs]∧True) W3):=lH ⟨KB3.out,SB3.out,trivial⟩
       go_simp
       refine hK.out _ _ (HS3.out) (fun _=>?_)
       clear hK K hHeld
       try simp only [aP]
       have hHeld:(fun W=>Holds W w.heap.size 45 #[.int .i64 al,.slice An ln.length cn,.int .u32 en,.slice Ax lx.length cx,.slice Ay ly.length cy,.bool inf]∧Holds W (w.heap.size+1) 48 #[.slice Ar R.length cr,.slice As S.length cs]∧True) W3:=HS3.out
       refine tk 4 ⟨some 46,.binOp .eql 4 (.tmp 43) (.tmp 45) 4,4,_,_,none⟩ ?_ rfl ?_ hHeld ?_
       rotate_left 1
       ·(intro W hW;(try dsimp only at hW);go_simp;try with_reducible rfl)
       try simp only [aP]
       refine tk 5 ⟨some 47,.move (.tmp 46),4,_,_,none⟩ ?_ rfl ?_ hHeld ?_
       rotate_left 1
       ·(intro W hW;(try dsimp only at hW);go_simp;try with_reducible rfl)
       try simp only [aP]
       refine tk 6 ⟨some 48,.load 45 (.tmp 3),45,_,_,some (5,true)⟩ ?_ rfl ?_ hHeld ?_
       rotate_left 1
       ·(intro W hW;have h0:=hW.1.cell 0;have h1:=hW.1.cell 1;have h2:=hW.1.cell 2;have h3:=hW.1.cell 3;have h4:=hW.1.cell 4;have h5:=hW.1.cell 5;(try dsimp only at hW);go_simp;try with_reducible rfl)
       try simp only [aP]
       refine tk 7 ⟨some 49,.move (.tmp 1),46,_,_,some (5,true)⟩ ?_ rfl ?_ hHeld ?_
       rotate_left 1
       ·(intro W hW;(try dsimp only at hW);go_simp;try with_reducible rfl)
       try simp only [aP]
       refine tk 8 ⟨some 50,.load 48 (.tmp 5),48,_,_,some (5,true)⟩ ?_ rfl ?_ hHeld ?_
       rotate_left 1
       ·(intro W hW;have h0:=hW.2.1.cell 0;have h1:=hW.2.1.cell 1;(try dsimp only at hW);go_simp;try with_reducible rfl)
       try simp only [aP]
       refine tk 10 ⟨some 52,.load 45 (.tmp 3),45,_,_,some (5,true)⟩ ?_ rfl ?_ hHeld ?_
       rotate_left 1
       ·(intro W hW;have h0:=hW.1.cell 0;have h1:=hW.1.cell 1;have h2:=hW.1.cell 2;have h3:=hW.1.cell 3;have h4:=hW.1.cell 4;have h5:=hW.1.cell 5;(try dsimp only at hW);go_simp;try with_reducible rfl)
       try simp only [aP]
       refine tk 11 ⟨some 53,.move (.tmp 1),46,_,_,some (5,true)⟩ ?_ rfl ?_ hHeld ?_
       rotate_left 1
       ·(intro W hW;(try dsimp only at hW);go_simp;try with_reducible rfl)
       try simp only [aP]
       refine tk 12 ⟨some 54,.load 48 (.tmp 5),48,_,_,some (5,true)⟩ ?_ rfl ?_ hHeld ?_
       rotate_left 1
       ·(intro W hW;have h0:=hW.2.1.cell 0;have h1:=hW.2.1.cell 1;(try dsimp only at hW);go_simp;try with_reducible rfl)
       try simp only [aP]
       refine rdy 9 ⟨some 51,.call ⟨ .value (.func 31),#[.tmp 48,.tmp 49,.tmp 50],#[45,46,48]⟩,4,_,_,some (5,true)⟩ rfl (fun K hK=>?_)
       go_simp
       refine (HC1.out W3 HB3.out).mono ?_
       rintro e W4 ⟨rfl,hb⟩
       have HB4:=lH (HB3.out.trans (hb.mono HB3.out.size))
       have HM4:=lH (HM3.out.under hb)
       have KB4:=lH (KB3.out.under hb (Holds.lt KB3.out))
       have SB4:=lH (SB3.out.under hb (Holds.lt SB3.out))
       clear hb HB3 HM3 KB3 SB3
       have HS4:Hid ((fun W=>Holds W w.heap.size 45 #[.int .i64 al,.slice An ln.length cn,.int .u32 en,.slice Ax lx.length cx,.slice Ay ly.length cy,.bool inf]∧Holds W (w.heap.size+1) 48 #[.slice Ar R.length cr,.slice As S.length cs]∧True) W4):=lH ⟨KB4.out,SB4.out,trivial⟩
       go_simp
       refine hK.out _ _ (HS4.out) (fun _=>?_)
       clear hK K hHeld
       try simp only [aP]
       have hHeld:(fun W=>Holds W w.heap.size 45 #[.int .i64 al,.slice An ln.length cn,.int .u32 en,.slice Ax lx.length cx,.slice Ay ly.length cy,.bool inf]∧Holds W (w.heap.size+1) 48 #[.slice Ar R.length cr,.slice As S.length cs]∧True) W4:=HS4.out
       refine rdy 13 ⟨some 55,.call ⟨ .value (.func 32),#[.tmp 52,.tmp 53,.tmp 54],#[45,46,48]⟩,4,_,_,some (5,true)⟩ rfl (fun K hK=>?_)
       go_simp
       refine (HC2.out W4 HB4.out).mono ?_
       rintro e W5 ⟨rfl,hb⟩
       have HB5:=lH (HB4.out.trans (hb.mono HB4.out.size))
       have HM5:=lH (HM4.out.under hb)
       have KB5:=lH (KB4.out.under hb (Holds.lt KB4.out))
       have SB5:=lH (SB4.out.under hb (Holds.lt SB4.out))
       clear hb HB4 HM4 KB4 SB4
       have HS5:Hid ((fun W=>Holds W w.heap.size 45 #[.int .i64 al,.slice An ln.length cn,.int .u32 en,.slice Ax lx.length cx,.slice Ay ly.length cy,.bool inf]∧Holds W (w.heap.size+1) 48 #[.slice Ar R.length cr,.slice As S.length cs]∧True) W5):=lH ⟨KB5.out,SB5.out,trivial⟩
       go_simp
       refine hK.out _ _ (HS5.out) (fun _=>?_)
       clear hK K hHeld
       try simp only [aP]
       have hHeld:(fun W=>Holds W w.heap.size 45 #[.int .i64 al,.slice An ln.length cn,.int .u32 en,.slice Ax lx.length cx,.slice Ay ly.length cy,.bool inf]∧Holds W (w.heap.size+1) 48 #[.slice Ar R.length cr,.slice As S.length cs]∧True) W5:=HS5.out
       refine tk 14 ⟨some 56,.binOp .eql 4 (.tmp 51) (.tmp 55) 4,4,_,_,some (5,true)⟩ ?_ rfl ?_ hHeld ?_
       rotate_left 1
       ·(intro W hW;(try dsimp only at hW);go_simp;try with_reducible rfl)
       try simp only [aP]
       refine tk 15 ⟨some 57,.pick (.tmp 47) (.tmp 56) (.const (.bool false)),4,_,_,none⟩ ?_ rfl ?_ hHeld ?_
       rotate_left 1
       ·(intro W hW;(try dsimp only at hW);go_simp;try with_reducible rfl)
       try simp only [aP]
       refine tk 16 ⟨some 58,.move (.tmp 57),4,_,_,none⟩ ?_ rfl ?_ hHeld ?_
       rotate_left 1
       ·(intro W hW;(try dsimp only at hW);go_simp;try with_reducible rfl)
       try simp only [aP]
       refine rdy 17 ⟨some 59,.call ⟨ .value (.func 33),#[],#[]⟩,4,_,_,some (16,true)⟩ rfl (fun K hK=>?_)
       go_simp
       refine (known11_any W5 HM5.out).mono ?_
       rintro e W6 ⟨rfl,hb⟩
       have HB6:=lH (HB5.out.trans (hb.mono HB5.out.size))
       have HM6:=lH (HM5.out.under hb)
       have KB6:=lH (KB5.out.under hb (Holds.lt KB5.out))
       have SB6:=lH (SB5.out.under hb (Holds.lt SB5.out))
       clear hb HB5 HM5 KB5 SB5
       have HS6:Hid ((fun W=>Holds W w.heap.size 45 #[.int .i64 al,.slice An ln.length cn,.int .u32 en,.slice Ax lx.length cx,.slice Ay ly.length cy,.bool inf]∧Holds W (w.heap.size+1) 48 #[.slice Ar R.length cr,.slice As S.length cs]∧True) W6):=lH ⟨KB6.out,SB6.out,trivial⟩
       go_simp
       refine hK.out _ _ (HS6.out) (fun _=>?_)
       clear hK K hHeld
       try simp only [aP]
       have hHeld:(fun W=>Holds W w.heap.size 45 #[.int .i64 al,.slice An ln.length cn,.int .u32 en,.slice Ax lx.length cx,.slice Ay ly.length cy,.bool inf]∧Holds W (w.heap.size+1) 48 #[.slice Ar R.length cr,.slice As S.length cs]∧True) W6:=HS6.out
       refine tk 18 ⟨some 60,.pick (.tmp 58) (.tmp 59) (.const (.bool false)),4,_,_,none⟩ ?_ rfl ?_ hHeld ?_
       rotate_left 1
       ·(intro W hW;(try dsimp only at hW);go_simp;try with_reducible rfl)
       try simp only [aP]
       refine tk 19 ⟨some 6,.assign (.tmp 60),4,_,_,none⟩ ?_ rfl ?_ hHeld ?_
       rotate_left 1
       ·(intro W hW;(try dsimp only at hW);go_simp;try with_reducible rfl)
       try simp only [aP]
       refine wpAnyH_done (by kernel_rfl) ?_ _
       refine NoPanic.normal ?_
       go_wp2_with fail
       go_ret
       exact ⟨rfl,HB6.out⟩
end Go.Proofs.YtflfdglpljodbaaDoor
