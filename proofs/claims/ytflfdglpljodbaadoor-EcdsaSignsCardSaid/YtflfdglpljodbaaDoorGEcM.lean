/-
  Numbers from 1 to as many as there are points, less 1: program and document. A key of a point is one: program and document. Signatures by points: words; numbers from 1 to N less 1 have one by them. The program looks at a signature. The document looks at a signature. Any key, any digest, any pair. The document signs; the key of a secret number. Numbers that are 0, or as many as there are points, or more, are none. What was signed is well, with the other S, too.
-/
import Derived.Test.YtflfdglpljodbaaDoorGCvF
import Derived.Deep.RegionLaw
import Derived.Deep.RegionHeld3
import Derived.Deep.DrawnRows
import Derived.Test.YtflfdglpljodbaaDoorGCv10
import Derived.Test.YtflfdglpljodbaaDoorGModM
import Derived.Test.YtflfdglpljodbaaDoorGRef12
import Derived.Test.YtflfdglpljodbaaDoorGRefB
import Derived.Test.YtflfdglpljodbaaDoorGCv33
import Derived.Test.YtflfdglpljodbaaDoorGShaM
import Derived.Test.YtflfdglpljodbaaDoorGNatB
set_option maxRecDepth 100000
set_option maxHeartbeats 20000000
set_option linter.unusedVariables false
set_option linter.unusedSimpArgs false
namespace Go.Proofs.YtflfdglpljodbaaDoor
open Go.RowKit
def fitB (l:List Nat):Bool:=okN l && decide (0<l.length) && decide (cmpL l lN<0)
theorem fit_any (w:World) {A:Option Addr} {c:Nat} {l:List Nat} (hr:Rd .u32 w w.heap.size A c l) :
  Calls Tryd.prog 66 #[.slice A l.length c] w fun e w'=>e = .returned (.bool (fitB l))∧Below w.heap.size w w':=by
 by_cases h0:okN l=true
 ·have Hok:=lH h0
  by_cases h1:0<l.length
  ·obtain ⟨v,hv⟩:∃ v,cmpL l lN=v:=⟨_,rfl⟩
   have Hv:=lH hv
   have Hv':Hid (cmpL (trl l) (trl lN)=v):=lH (by rw [trl_id (okN_nrm h0).2,trl_id lN_ok.2.1];exact hv)
   have hF:fitB l=decide (v<0):=by rw [fitB,h0,hv,decide_eq_true h1];simp
   rw [hF]
   have H1:=lH (show (0:Int)<(l.length:Int) by omega)
   clear hF hv h0 h1
   go_enter Tryd.func66,Tryd.ntmps66
   have h1:=H1.out
   go_wp2_with fail
   refine (is_any w _ A c l hr true Hok).mono ?_
   rintro e W1 ⟨rfl,rfl⟩
   go_wp2_with fail
   refine (curveN_any w).mono ?_
   rintro e W3 ⟨gn,hgn,rfl,hN,hb⟩
   have HB3:=lH hb
   have HR3:=lH (hr.under hb)
   have HN3:=lH (Eight.rd hN rfl)
   clear hN hgn hb
   go_wp2_with fail
   refine (cmp_any W3 _ _ A _ c 8 l lN HR3 HN3 v Hv').mono ?_
   rintro e W4 ⟨rfl,q,hq⟩
   have HB4:Hid (Below w.heap.size w W4):=lH (by rw [hq];exact bdN HB3 q)
   clear hq
   go_wp2_with fail
   go_ret
   exact ⟨rfl,HB4⟩
  ·obtain rfl:l=[]:=List.length_eq_zero_iff.1 (by omega)
   have hF:fitB []=false:=by simp [fitB]
   rw [hF]
   clear hF h0 h1
   go_enter Tryd.func66,Tryd.ntmps66
   go_wp2_with fail
   refine (is_any w _ A c [] hr true Hok).mono ?_
   rintro e W1 ⟨rfl,rfl⟩
   go_wp2_with fail
   go_ret
   exact ⟨rfl,Below.refl _ _⟩
 ·have hF:fitB l=false:=by simp [fitB,h0]
  have Hok:Hid (okN l=false):=lH (by simpa using h0)
  rw [hF]
  clear hF h0
  go_enter Tryd.func66,Tryd.ntmps66
  go_wp2_with fail
  refine (is_any w _ A c l hr false Hok).mono ?_
  rintro e W1 ⟨rfl,rfl⟩
  go_wp2_with fail
  go_ret
  exact ⟨rfl,Below.refl _ _⟩
theorem may_any (w:World) {A:Option Addr} {c:Nat} {l:List Nat} (hr:Rd .u32 w w.heap.size A c l) :
  Calls Tryd.prog 71 #[.slice A l.length c] w fun e w'=>e = .returned (.bool (fitB l))∧Below w.heap.size w w':=by
 by_cases h0:okN l=true
 ·have Hok:=lH h0
  by_cases h1:0<l.length
  ·obtain ⟨v,hv⟩:∃ v,cmpL l lN=v:=⟨_,rfl⟩
   have Hv:=lH hv
   have Hv':Hid (cmpL (trl l) (trl lN)=v):=lH (by rw [trl_id (okN_nrm h0).2,trl_id lN_ok.2.1];exact hv)
   have hF:fitB l=decide (v<0):=by rw [fitB,h0,hv,decide_eq_true h1];simp
   rw [hF]
   have H1:=lH (show (0:Int)<(l.length:Int) by omega)
   clear hF hv h0 h1
   go_enter Tryd.func71,Tryd.ntmps71
   have h1:=H1.out
   go_wp2_with fail
   refine (is'_any w _ A c l hr true Hok).mono ?_
   rintro e W1 ⟨rfl,rfl⟩
   go_wp2_with fail
   refine (refN_any w).mono ?_
   rintro e W3 ⟨gn,hgn,rfl,hN,hb⟩
   have HB3:=lH hb
   have HR3:=lH (hr.under hb)
   have HN3:=lH (Eight.rd hN rfl)
   clear hN hgn hb
   go_wp2_with fail
   refine (cmp'_any W3 _ _ A _ c 8 l lN HR3 HN3 v Hv).mono ?_
   rintro e W4 ⟨rfl,q,hq⟩
   have HB4:Hid (Below w.heap.size w W4):=lH (by rw [hq];exact bdN HB3 q)
   clear hq
   go_wp2_with fail
   go_ret
   exact ⟨rfl,HB4⟩
  ·obtain rfl:l=[]:=List.length_eq_zero_iff.1 (by omega)
   have hF:fitB []=false:=by simp [fitB]
   rw [hF]
   clear hF h0 h1
   go_enter Tryd.func71,Tryd.ntmps71
   go_wp2_with fail
   refine (is'_any w _ A c [] hr true Hok).mono ?_
   rintro e W1 ⟨rfl,rfl⟩
   go_wp2_with fail
   go_ret
   exact ⟨rfl,Below.refl _ _⟩
 ·have hF:fitB l=false:=by simp [fitB,h0]
  have Hok:Hid (okN l=false):=lH (by simpa using h0)
  rw [hF]
  clear hF h0
  go_enter Tryd.func71,Tryd.ntmps71
  go_wp2_with fail
  refine (is'_any w _ A c l hr false Hok).mono ?_
  rintro e W1 ⟨rfl,rfl⟩
  go_wp2_with fail
  go_ret
  exact ⟨rfl,Below.refl _ _⟩
def keyB (al:Int) (ln:List Nat) (en:Int) (lx ly:List Nat) (inf:Bool):Bool:=decide (al=2) && !inf && ptOk lx ly inf && decide ((ln.length:Int)=0) && decide (en=0)
theorem keyIs_any (w:World) (hm:CMet w) (al:Int) (en:Int) (An Ax Ay:Option Addr) (cn cx cy:Nat) (ln lx ly:List Nat) (inf:Bool) (hx:Rd .u32 w w.heap.size Ax cx lx) (hy:Rd .u32 w w.heap.size Ay cy ly) (hdx:Dg lx) (hdy:Dg ly) :
  Calls Tryd.prog 29 #[.agg #[.int .i64 al,.slice An ln.length cn,.int .u32 en,.slice Ax lx.length cx,.slice Ay ly.length cy,.bool inf]] w fun e w'=>e = .returned (.bool (keyB al ln en lx ly inf))∧Below w.heap.size w w':=by
 by_cases ha:al=2
 ·subst ha
  cases inf with
  | true =>
   rw [show keyB 2 ln en lx ly true=false by simp [keyB]]
   go_enter Tryd.func29,Tryd.ntmps29
   go_wp2_with fail
   go_ret
   exact ⟨rfl,(Below.refl _ _).alloc (Nat.le_refl _) _⟩
  | false =>
   obtain ⟨W1,hw⟩:∃ W,W=w.alloc (.cells #[.int .i64 2,.slice An ln.length cn,.int .u32 en,.slice Ax lx.length cx,.slice Ay ly.length cy,.bool false] 45):=⟨_,rfl⟩
   have HW:=lH hw
   have HB:=lH (show Below w.heap.size w W1 by rw [hw];exact (Below.refl _ _).alloc (Nat.le_refl _) _)
   have PB:Hid (Holds W1 w.heap.size 45 #[.int .i64 2,.slice An ln.length cn,.int .u32 en,.slice Ax lx.length cx,.slice Ay ly.length cy,.bool false]):=lH (by rw [hw];exact Holds.fresh w _ _)
   clear hw
   have hK:keyB 2 ln en lx ly false=(ptOk lx ly false && (decide ((ln.length:Int)=0) && decide (en=0))):=by simp [keyB,Bool.and_assoc]
   obtain ⟨b,hP⟩:∃ b,ptOk lx ly false=b:=⟨_,rfl⟩
   rw [hK,hP]
   have HP:=lH hP
   clear hK hP
   cases b with
   | false =>
    rw [Bool.false_and]
    go_enter Tryd.func29,Tryd.ntmps29
    go_wp2_with fail
    rw [←HW.out]
    refine (curveIs_any W1 (hm.under HB) Ax Ay cx cy lx ly false ((hx.under HB).more HB.out.size) ((hy.under HB).more HB.out.size) hdx hdy).mono ?_
    rintro e W2 ⟨rfl,hb⟩
    rw [HP.out]
    have ac:=lH (HB.out.trans (hb.mono HB.out.size))
    have ab:=lH (PB.out.under hb (Holds.lt PB))
    clear hb
    have p1:=ab.out.cell 1
    have p2:=ab.out.cell 2
    go_wp2_with fail
    go_ret
    exact ⟨rfl,ac⟩
   | true =>
    rw [Bool.true_and]
    by_cases h0:(ln.length:Int)=0
    ·rw [decide_eq_true h0,Bool.true_and]
     go_enter Tryd.func29,Tryd.ntmps29
     go_wp2_with fail
     rw [←HW.out]
     refine (curveIs_any W1 (hm.under HB) Ax Ay cx cy lx ly false ((hx.under HB).more HB.out.size) ((hy.under HB).more HB.out.size) hdx hdy).mono ?_
     rintro e W2 ⟨rfl,hb⟩
     rw [HP.out]
     have ac:=lH (HB.out.trans (hb.mono HB.out.size))
     have ab:=lH (PB.out.under hb (Holds.lt PB))
     clear hb
     have p1:=ab.out.cell 1
     have p2:=ab.out.cell 2
     go_wp2_with fail
     go_ret
     exact ⟨rfl,ac⟩
    ·rw [decide_eq_false h0,Bool.false_and]
     have h1:¬ ln.length=0:=by omega
     have h2:¬ ln=[]:=fun e=>h1 (by rw [e];rfl)
     go_enter Tryd.func29,Tryd.ntmps29
     go_wp2_with fail
     rw [←HW.out]
     refine (curveIs_any W1 (hm.under HB) Ax Ay cx cy lx ly false ((hx.under HB).more HB.out.size) ((hy.under HB).more HB.out.size) hdx hdy).mono ?_
     rintro e W2 ⟨rfl,hb⟩
     rw [HP.out]
     have ac:=lH (HB.out.trans (hb.mono HB.out.size))
     have ab:=lH (PB.out.under hb (Holds.lt PB))
     clear hb
     have p1:=ab.out.cell 1
     have p2:=ab.out.cell 2
     go_wp2_with fail
     go_ret
     exact ⟨rfl,ac⟩
 ·rw [show keyB al ln en lx ly inf=false by simp [keyB,ha]]
  go_enter Tryd.func29,Tryd.ntmps29
  go_wp2_with fail
  go_ret
  exact ⟨rfl,(Below.refl _ _).alloc (Nat.le_refl _) _⟩
theorem keyIs'_any (w:World) (al:Int) (en:Int) (An Ax Ay:Option Addr) (cn cx cy:Nat) (ln lx ly:List Nat) (inf:Bool) (hx:Rd .u32 w w.heap.size Ax cx lx) (hy:Rd .u32 w w.heap.size Ay cy ly) (hdx:Dg lx) (hdy:Dg ly) (hsx:lx.length≤1000) (hsy:ly.length≤1000) :
  Calls Tryd.prog 30 #[.agg #[.int .i64 al,.slice An ln.length cn,.int .u32 en,.slice Ax lx.length cx,.slice Ay ly.length cy,.bool inf]] w fun e w'=>e = .returned (.bool (keyB al ln en lx ly inf))∧Below w.heap.size w w':=by
 by_cases ha:al=2
 ·subst ha
  cases inf with
  | true =>
   rw [show keyB 2 ln en lx ly true=false by simp [keyB]]
   go_enter Tryd.func30,Tryd.ntmps30
   go_wp2_with fail
   go_ret
   exact ⟨rfl,(Below.refl _ _).alloc (Nat.le_refl _) _⟩
  | false =>
   obtain ⟨W1,hw⟩:∃ W,W=w.alloc (.cells #[.int .i64 2,.slice An ln.length cn,.int .u32 en,.slice Ax lx.length cx,.slice Ay ly.length cy,.bool false] 45):=⟨_,rfl⟩
   have HW:=lH hw
   have HB:=lH (show Below w.heap.size w W1 by rw [hw];exact (Below.refl _ _).alloc (Nat.le_refl _) _)
   have PB:Hid (Holds W1 w.heap.size 45 #[.int .i64 2,.slice An ln.length cn,.int .u32 en,.slice Ax lx.length cx,.slice Ay ly.length cy,.bool false]):=lH (by rw [hw];exact Holds.fresh w _ _)
   clear hw
   have hK:keyB 2 ln en lx ly false=(ptOk lx ly false && (decide ((ln.length:Int)=0) && decide (en=0))):=by simp [keyB,Bool.and_assoc]
   obtain ⟨b,hP⟩:∃ b,ptOk lx ly false=b:=⟨_,rfl⟩
   rw [hK,hP]
   have HP:=lH hP
   clear hK hP
   cases b with
   | false =>
    rw [Bool.false_and]
    go_enter Tryd.func30,Tryd.ntmps30
    go_wp2_with fail
    rw [←HW.out]
    refine (refIs_any W1 Ax Ay cx cy lx ly false ((hx.under HB).more HB.out.size) ((hy.under HB).more HB.out.size) hdx hdy hsx hsy).mono ?_
    rintro e W2 ⟨rfl,hb⟩
    rw [HP.out]
    have ac:=lH (HB.out.trans (hb.mono HB.out.size))
    have ab:=lH (PB.out.under hb (Holds.lt PB))
    clear hb
    have p1:=ab.out.cell 1
    have p2:=ab.out.cell 2
    go_wp2_with fail
    go_ret
    exact ⟨rfl,ac⟩
   | true =>
    rw [Bool.true_and]
    by_cases h0:(ln.length:Int)=0
    ·rw [decide_eq_true h0,Bool.true_and]
     go_enter Tryd.func30,Tryd.ntmps30
     go_wp2_with fail
     rw [←HW.out]
     refine (refIs_any W1 Ax Ay cx cy lx ly false ((hx.under HB).more HB.out.size) ((hy.under HB).more HB.out.size) hdx hdy hsx hsy).mono ?_
     rintro e W2 ⟨rfl,hb⟩
     rw [HP.out]
     have ac:=lH (HB.out.trans (hb.mono HB.out.size))
     have ab:=lH (PB.out.under hb (Holds.lt PB))
     clear hb
     have p1:=ab.out.cell 1
     have p2:=ab.out.cell 2
     go_wp2_with fail
     go_ret
     exact ⟨rfl,ac⟩
    ·rw [decide_eq_false h0,Bool.false_and]
     have h1:¬ ln.length=0:=by omega
     have h2:¬ ln=[]:=fun e=>h1 (by rw [e];rfl)
     go_enter Tryd.func30,Tryd.ntmps30
     go_wp2_with fail
     rw [←HW.out]
     refine (refIs_any W1 Ax Ay cx cy lx ly false ((hx.under HB).more HB.out.size) ((hy.under HB).more HB.out.size) hdx hdy hsx hsy).mono ?_
     rintro e W2 ⟨rfl,hb⟩
     rw [HP.out]
     have ac:=lH (HB.out.trans (hb.mono HB.out.size))
     have ab:=lH (PB.out.under hb (Holds.lt PB))
     clear hb
     have p1:=ab.out.cell 1
     have p2:=ab.out.cell 2
     go_wp2_with fail
     go_ret
     exact ⟨rfl,ac⟩
 ·rw [show keyB al ln en lx ly inf=false by simp [keyB,ha]]
  go_enter Tryd.func30,Tryd.ntmps30
  go_wp2_with fail
  go_ret
  exact ⟨rfl,(Below.refl _ _).alloc (Nat.le_refl _) _⟩
theorem fit_facts {l:List Nat} (h:fitB l=true) (hd:Dg l):nrm l∧val l≠0∧val l<val lN∧l.length≤8:=by
 unfold fitB at h
 rw [Bool.and_eq_true,Bool.and_eq_true,decide_eq_true_eq,decide_eq_true_eq] at h
 obtain ⟨⟨h1,h2⟩,h3⟩:=h
 obtain ⟨h4,hn⟩:=okN_nrm h1
 have hlow:=nrm_low hn h2
 have hpos:=pw_pos (l.length - 1)
 have hlt:val l<val lN:=by
  rw [cmpL_val hd lN_ok.1 hn lN_ok.2.1] at h3
  by_cases c:val l<val lN
  ·exact c
  ·rw [if_neg c] at h3
   split at h3 <;> omega
 exact ⟨hn,by omega,hlt,num_len8 ⟨hd,hn,rfl⟩ (Nat.lt_trans hlt (by rw [lN_val];decide))⟩
theorem fit_cop {l:List Nat} (h:fitB l=true) (hd:Dg l):Nat.gcd (val lN) (val l)=1:=by
 obtain ⟨_,h0,hlt,_⟩:=fit_facts h hd
 rw [lN_val] at hlt ⊢
 exact Luc.cNn_prime.cop fun hdv=>absurd (Nat.le_of_dvd (by omega) hdv) (by omega)
theorem key_pt {w:World} {Ax Ay:Option Addr} {cx cy:Nat} {lx ly:List Nat} (hx:Rd .u32 w w.heap.size Ax cx lx) (hy:Rd .u32 w w.heap.size Ay cy ly) (hdx:Dg lx) (hdy:Dg ly) (h:ptOk lx ly false=true):∃ Q:Luc.Pt,Luc.OnC Q∧PtV Q w Ax cx lx Ay cy ly false:=by
 unfold ptOk at h
 rw [if_neg (by simp),Bool.and_eq_true,Bool.and_eq_true,decide_eq_true_eq] at h
 obtain ⟨⟨hbx,hby⟩,ho⟩:=h
 obtain ⟨nx,vx,_⟩:=blw_nrm hdx hbx
 obtain ⟨ny,vy,_⟩:=blw_nrm hdy hby
 exact ⟨some (⟨val lx,vx⟩,⟨val ly,vy⟩),(rhs_on ⟨val lx,vx⟩ ⟨val ly,vy⟩).1 ho,rfl,⟨hx,hdx,nx,rfl⟩,⟨hy,hdy,ny,rfl⟩⟩
def verF (Q:Luc.Pt) (z r x:Nat):Bool :=
 match Luc.add (Luc.nmul gP (z*x % val lN)) (Luc.nmul Q (r*x % val lN)) with
 | none=>false
 | some p=>decide (p.1.val % val lN=r)
theorem verF_none {Q:Luc.Pt} {z r x:Nat} (h:Luc.add (Luc.nmul gP (z*x % val lN)) (Luc.nmul Q (r*x % val lN))=none):verF Q z r x=false:=by
 unfold verF
 rw [h]
theorem verF_some {Q:Luc.Pt} {z r x:Nat} {a b:Luc.F} (h:Luc.add (Luc.nmul gP (z*x % val lN)) (Luc.nmul Q (r*x % val lN))=some (a,b)):verF Q z r x=decide (a.val % val lN=r):=by
 unfold verF
 rw [h]
def VerP (Q:Luc.Pt) (z r s:Nat) (w:World) (e:Ending) (w':World):Prop :=
 ∃ x,x<val lN∧s*x % val lN=1∧e = .returned (.bool (verF Q z r x))∧Below w.heap.size w w'
theorem cmp_is {l m:List Nat} {n:Nat} (hl:NumIs l n) (hd:Dg m) (hm:nrm m):(cmpL l m == 0)=decide (n=val m):=by
 rw [cmpL_val hl.1 hd hl.2.1 hm,hl.2.2]
 by_cases h:n<val m
 ·rw [if_pos h,decide_eq_false (by omega)];rfl
 ·by_cases h2:val m<n
  ·rw [if_neg h,if_pos h2,decide_eq_false (by omega)];rfl
  ·rw [if_neg h,if_neg h2,decide_eq_true (by omega)];rfl
theorem keyYes (w:World) (hm:CMet w) {al en:Int} {An Ax Ay:Option Addr} {cn cx cy:Nat} {ln lx ly:List Nat} {inf:Bool} {v:Bool} (hx:Rd .u32 w w.heap.size Ax cx lx) (hy:Rd .u32 w w.heap.size Ay cy ly) (hdx:Dg lx) (hdy:Dg ly) (hK:keyB al ln en lx ly inf=v) :
  Calls Tryd.prog 29 #[.agg #[.int .i64 al,.slice An ln.length cn,.int .u32 en,.slice Ax lx.length cx,.slice Ay ly.length cy,.bool inf]] w fun e w'=>e = .returned (.bool v)∧Below w.heap.size w w':=by
 rw [←hK]
 exact keyIs_any w hm al en An Ax Ay cn cx cy ln lx ly inf hx hy hdx hdy
theorem keyYes' (w:World) {al en:Int} {An Ax Ay:Option Addr} {cn cx cy:Nat} {ln lx ly:List Nat} {inf:Bool} {v:Bool} (hx:Rd .u32 w w.heap.size Ax cx lx) (hy:Rd .u32 w w.heap.size Ay cy ly) (hdx:Dg lx) (hdy:Dg ly) (hsx:lx.length≤1000) (hsy:ly.length≤1000) (hK:keyB al ln en lx ly inf=v) :
  Calls Tryd.prog 30 #[.agg #[.int .i64 al,.slice An ln.length cn,.int .u32 en,.slice Ax lx.length cx,.slice Ay ly.length cy,.bool inf]] w fun e w'=>e = .returned (.bool v)∧Below w.heap.size w w':=by
 rw [←hK]
 exact keyIs'_any w al en An Ax Ay cn cx cy ln lx ly inf hx hy hdx hdy hsx hsy
theorem fitV (w:World) {A:Option Addr} {c:Nat} {l:List Nat} {v:Bool} (hr:Rd .u32 w w.heap.size A c l) (hf:fitB l=v) :
  Calls Tryd.prog 66 #[.slice A l.length c] w fun e w'=>e = .returned (.bool v)∧Below w.heap.size w w':=by
 rw [←hf]
 exact fit_any w hr
theorem fitV' (w:World) {A:Option Addr} {c:Nat} {l:List Nat} {v:Bool} (hr:Rd .u32 w w.heap.size A c l) (hf:fitB l=v) :
  Calls Tryd.prog 71 #[.slice A l.length c] w fun e w'=>e = .returned (.bool v)∧Below w.heap.size w w':=by
 rw [←hf]
 exact may_any w hr
theorem one_lt_N:1<val lN:=by rw [lN_val];decide
theorem N_ne:val lN≠0:=by have:=one_lt_N;omega
theorem invN (w:World) {A:Option Addr} {c g:Nat} {l:List Nat} (hr:Rd .u32 w w.heap.size A c l) (hN:Rd .u32 w w.heap.size (some ⟨g,0,none⟩) 8 lN) (hd:Dg l) (hf:fitB l=true) :
  Calls Tryd.prog 67 #[.slice A l.length c,.slice (some ⟨g,0,none⟩) 8 8] w fun e w'=>∃ x,x<val lN∧val l*x % val lN=1∧LeftR w x e w':=by
 obtain ⟨_,_,_,hl⟩:=fit_facts hf hd
 refine (inv_high w A (some ⟨g,0,none⟩) c 8 l lN hr hN hd lN_ok.1 (by omega) (by rw [lN_ok.2.2];omega) lN_ok.2.1 one_lt_N).mono ?_
 rintro e w' (⟨h,_⟩ | ⟨_,x,h1,h2,h3⟩)
 ·exact absurd (fit_cop hf hd) h
 ·exact ⟨x,h1,h2,h3.r⟩
theorem invN' (w:World) {A:Option Addr} {c g:Nat} {l:List Nat} (hr:Rd .u32 w w.heap.size A c l) (hN:Rd .u32 w w.heap.size (some ⟨g,0,none⟩) 8 lN) (hd:Dg l) (hf:fitB l=true) :
  Calls Tryd.prog 72 #[.slice A l.length c,.slice (some ⟨g,0,none⟩) 8 8] w fun e w'=>∃ x,x<val lN∧val l*x % val lN=1∧LeftR w x e w':=by
 obtain ⟨hn,_,_,hl⟩:=fit_facts hf hd
 refine (inv8_high w A (some ⟨g,0,none⟩) c 8 l lN hr hN hd lN_ok.1 (by omega) (by rw [lN_ok.2.2];omega) hn lN_ok.2.1 one_lt_N).mono ?_
 rintro e w' (⟨h,_⟩ | ⟨_,x,h1,h2,h3⟩)
 ·exact absurd (fit_cop hf hd) h
 ·exact ⟨x,h1,h2,h3⟩
theorem mulQ (w:World) {A A':Option Addr} {c c' g:Nat} {l l':List Nat} (hr:Rd .u32 w w.heap.size A c l) (hr':Rd .u32 w w.heap.size A' c' l') (hN:Rd .u32 w w.heap.size (some ⟨g,0,none⟩) 8 lN) (hd:Dg l) (hd':Dg l') (hs:l.length≤1000) (hs':l'.length≤1000) :
  Calls Tryd.prog 68 #[.slice A l.length c,.slice A' l'.length c',.slice (some ⟨g,0,none⟩) 8 8] w (LeftR w (val l*val l' % val lN)) :=
 (mulm_yes w A A' (some ⟨g,0,none⟩) c c' 8 l l' lN hr hr' hN hd hd' lN_ok.1 hs hs' (by rw [lN_ok.2.2];omega) N_ne).mono fun _ _ h=>h.r
theorem mulQ' (w:World) {A A':Option Addr} {c c' g:Nat} {l l':List Nat} (hr:Rd .u32 w w.heap.size A c l) (hr':Rd .u32 w w.heap.size A' c' l') (hN:Rd .u32 w w.heap.size (some ⟨g,0,none⟩) 8 lN) (hd:Dg l) (hd':Dg l') (hs:l.length≤1000) (hs':l'.length≤1000) :
  Calls Tryd.prog 73 #[.slice A l.length c,.slice A' l'.length c',.slice (some ⟨g,0,none⟩) 8 8] w (LeftR w (val l*val l' % val lN)) :=
 mul8_yes w A A' (some ⟨g,0,none⟩) c c' 8 l l' lN hr hr' hN hd hd' lN_ok.1 hs hs' (by rw [lN_ok.2.2];omega) N_ne lN_ok.2.1
theorem of32 (w:World) {A:Option Addr} {c n:Nat} {l:List Nat} (hr:Rd .u8 w w.heap.size A c l) (hn:l.length=n) (ho:Oct l.reverse) :
  Calls Tryd.prog 69 #[.slice A n c] w fun e w'=>∃ A2 c2,e = .returned (.slice A2 (numOf l).length c2)∧Rd .u32 w' w'.heap.size A2 c2 (numOf l)∧Below w.heap.size w w':=by
 subst hn
 exact (of_all w w.heap.size A c l hr (Nat.le_refl _) ho).mono fun _ _ ⟨a,b,h1,h2,h3⟩=>⟨a,b,h1,h2.1,h3⟩
theorem of32' (w:World) {A:Option Addr} {c n:Nat} {l:List Nat} (hr:Rd .u8 w w.heap.size A c l) (hn:l.length=n) (ho:Oct l.reverse) :
  Calls Tryd.prog 74 #[.slice A n c] w fun e w'=>∃ A2 c2,e = .returned (.slice A2 (numOf l).length c2)∧Rd .u32 w' w'.heap.size A2 c2 (numOf l)∧Below w.heap.size w w':=by
 subst hn
 exact (of'_all w w.heap.size A c l hr (Nat.le_refl _) ho).mono fun _ _ ⟨a,b,h1,h2,h3⟩=>⟨a,b,h1,h2.1,h3⟩
theorem timesU (w:World) (hm:CMet w) {P:Luc.Pt} {A A1 A2:Option Addr} {c c1 c2 v:Nat} {l l1 l2:List Nat} {inf:Bool} (hr:Rd .u32 w w.heap.size A c l) (hn:NumIs l (v % val lN)) (hp:PtV P w A1 c1 l1 A2 c2 l2 inf) (ho:Luc.OnC P) :
  Calls Tryd.prog 22 #[.slice A l.length c,.agg #[.slice A1 l1.length c1,.slice A2 l2.length c2,.bool inf]] w (PtR (Luc.nmul P (v % val lN)) w):=by
 have:=timesP w hm hr hn.1 (by have:=num_len8N hn;omega) hp ho
 rwa [hn.2.2,Nat.mod_mod] at this
theorem timesU' (w:World) {P:Luc.Pt} {A A1 A2:Option Addr} {c c1 c2 v:Nat} {l l1 l2:List Nat} {inf:Bool} (hr:Rd .u32 w w.heap.size A c l) (hn:NumIs l (v % val lN)) (hp:PtV P w A1 c1 l1 A2 c2 l2 inf) (ho:Luc.OnC P) :
  Calls Tryd.prog 11 #[.slice A l.length c,.agg #[.slice A1 l1.length c1,.slice A2 l2.length c2,.bool inf]] w (PtR (Luc.nmul P (v % val lN)) w):=by
 have:=timesRP w hr hn.1 (by have:=num_len8N hn;omega) hn.2.1 hp ho
 rwa [hn.2.2] at this
theorem restN (w:World) {A:Option Addr} {c g:Nat} {l:List Nat} (hr:Rd .u32 w w.heap.size A c l) (hN:Rd .u32 w w.heap.size (some ⟨g,0,none⟩) 8 lN) (hd:Dg l) (hs:l.length≤4000) :
  Calls Tryd.prog 61 #[.slice A l.length c,.slice (some ⟨g,0,none⟩) 8 8] w fun e w'=>∃ A1 n1 c1 A2 c2 r,e = .returned (.tuple #[.slice A1 n1 c1,.slice A2 r.length c2,.bool true])∧NumIs r (val l % val lN)∧Rd .u32 w' w'.heap.size A2 c2 r∧Below w.heap.size w w' :=
 (div_any w w.heap.size w.heap.size A (some ⟨g,0,none⟩) c 8 l lN hr hN (Nat.le_refl _) (Nat.le_refl _) hd lN_ok.1 hs (by rw [lN_ok.2.2];omega) N_ne).mono fun _ _ ⟨A2,c2,q,A3,c3,r,h1,h2,h3,h4,h5,h6⟩=>⟨A2,q.length,c2,A3,c3,r,h1,h3,h5.1,h6⟩
theorem restN' (w:World) {A:Option Addr} {c g:Nat} {l:List Nat} (hr:Rd .u32 w w.heap.size A c l) (hN:Rd .u32 w w.heap.size (some ⟨g,0,none⟩) 8 lN) (hd:Dg l) (hn:nrm l) (hs:l.length≤4000) :
  Calls Tryd.prog 65 #[.slice A l.length c,.slice (some ⟨g,0,none⟩) 8 8] w (LeftR w (val l % val lN)) :=
 rest'_yes w w.heap.size w.heap.size A (some ⟨g,0,none⟩) c 8 l lN hr hN (Nat.le_refl _) (Nat.le_refl _) hd lN_ok.1 hs (by rw [lN_ok.2.2];omega) N_ne hn lN_ok.2.1
theorem verify_yes (w:World) (hm:CMet w) (al en:Int) {An Ax Ay Ad Ar As:Option Addr} {cn cx cy cd cr cs:Nat} {ln lx ly dg R S:List Nat} {Q:Luc.Pt} (hQ:PtV Q w Ax cx lx Ay cy ly false) (hO:Luc.OnC Q) (hK:keyB al ln en lx ly false=true) (hD:Rd .u8 w w.heap.size Ad cd dg) (h32:dg.length=32) (ho:Oct dg.reverse) (hR:Rd .u32 w w.heap.size Ar cr R) (hRd:Dg R) (hRf:fitB R=true) (hS:Rd .u32 w w.heap.size As cs S) (hSd:Dg S) (hSf:fitB S=true) :
  Calls Tryd.prog 31 #[.agg #[.int .i64 al,.slice An ln.length cn,.int .u32 en,.slice Ax lx.length cx,.slice Ay ly.length cy,.bool false],.slice Ad 32 cd,.agg #[.slice Ar R.length cr,.slice As S.length cs]] w (VerP Q (val (numOf dg)) (val R) (val S) w):=by
 obtain ⟨w1,dE⟩:∃ W,W=w.alloc (.cells #[.int .i64 al,.slice An ln.length cn,.int .u32 en,.slice Ax lx.length cx,.slice Ay ly.length cy,.bool false] 45):=⟨_,rfl⟩
 have fN:w1.heap.size=w.heap.size+1:=by rw [dE];simp
 have dT:Below w.heap.size w w1:=by rw [dE];exact (Below.refl _ _).alloc (Nat.le_refl _) _
 obtain ⟨W0,dA⟩:∃ W,W=w1.alloc (.cells #[.slice Ar R.length cr,.slice As S.length cs] 48):=⟨_,rfl⟩
 have hb:Below w.heap.size w W0:=by rw [dA];exact dT.alloc dT.size _
 have ep:Hid (Holds W0 w.heap.size 45 #[.int .i64 al,.slice An ln.length cn,.int .u32 en,.slice Ax lx.length cx,.slice Ay ly.length cy,.bool false]):=lH (by rw [dA,dE];exact (Holds.fresh w _ _).alloc _)
 have dY:Hid (Holds W0 (w.heap.size+1) 48 #[.slice Ar R.length cr,.slice As S.length cs]):=lH (by rw [dA,←fN];exact Holds.fresh w1 _ _)
 have eG:=lH hb
 have eQ:=lH (hm.under hb)
 have fK:=lH ((hD.under hb).more hb.size)
 have fQ:=lH ((hR.under hb).more hb.size)
 have ft:=lH ((hS.under hb).more hb.size)
 have dl:=lH (hQ.under hb)
 have HO:=lH hO
 have HK:=lH hK
 have dU:=lH h32
 have eZ:=lH ho
 have ds:=lH hRd
 have dN:=lH hRf
 have f9:=lH hSd
 have e9:=lH hSf
 have HW:=lH (dE ▸ dA:W0=(w.alloc (.cells #[.int .i64 al,.slice An ln.length cn,.int .u32 en,.slice Ax lx.length cx,.slice Ay ly.length cy,.bool false] 45)).alloc (.cells #[.slice Ar R.length cr,.slice As S.length cs] 48))
 clear dE fN dT dA hb hQ hO hK hD h32 ho hR hRd hRf hS hSd hSf hm
 go_enter Tryd.func31,Tryd.ntmps31
 go_wp2_with fail
 rw [←HW.out]
 clear HW
 refine (keyYes W0 eQ dl.out.x.rd dl.out.y.rd dl.out.x.dg dl.out.y.dg HK).mono ?_
 rintro e W1 ⟨rfl,hb⟩
 have ew:=lH (eG.out.trans (hb.mono eG.out.size))
 have fq:=lH (eQ.out.under hb)
 have er:=lH (ep.out.under hb (Holds.lt ep))
 have dD:=lH (dY.out.under hb (Holds.lt dY))
 have fH:=lH ((fK.out.under hb).more hb.size)
 have eM:=lH ((fQ.out.under hb).more hb.size)
 have fp:=lH ((ft.out.under hb).more hb.size)
 have fu:=lH (dl.out.under hb)
 clear hb eG eQ ep dY fK fQ ft dl
 have s0:=dD.out.cell 0
 have s1:=dD.out.cell 1
 go_wp2_with fail
 refine (fitV W1 eM dN).mono ?_
 rintro e W2 ⟨rfl,hb⟩
 have eA:=lH (ew.out.trans (hb.mono ew.out.size))
 have fc:=lH (fq.out.under hb)
 have ec:=lH (er.out.under hb (Holds.lt er))
 have dB:=lH (dD.out.under hb (Holds.lt dD))
 have eW:=lH ((fH.out.under hb).more hb.size)
 have fO:=lH ((eM.out.under hb).more hb.size)
 have eE:=lH ((fp.out.under hb).more hb.size)
 have fJ:=lH (fu.out.under hb)
 clear hb ew fq er dD fH eM fp fu
 clear s0 s1
 have s0:=dB.out.cell 0
 have s1:=dB.out.cell 1
 go_wp2_with fail
 refine (fitV W2 eE e9).mono ?_
 rintro e W3 ⟨rfl,hb⟩
 have ed:=lH (eA.out.trans (hb.mono eA.out.size))
 have fC:=lH (fc.out.under hb)
 have eT:=lH (ec.out.under hb (Holds.lt ec))
 have dW:=lH (dB.out.under hb (Holds.lt dB))
 have fv:=lH ((eW.out.under hb).more hb.size)
 have fk:=lH ((fO.out.under hb).more hb.size)
 have fW:=lH ((eE.out.under hb).more hb.size)
 have fm:=lH (fJ.out.under hb)
 clear hb eA fc ec dB eW fO eE fJ
 clear s0 s1
 go_wp2_with fail
 refine (curveN_any W3).mono ?_
 rintro e W4 ⟨gn,gj,rfl,hN,hb⟩
 have eC:=lH (ed.out.trans (hb.mono ed.out.size))
 have fE:=lH (fC.out.under hb)
 have eP:=lH (eT.out.under hb (Holds.lt eT))
 have dF:=lH (dW.out.under hb (Holds.lt dW))
 have e8:=lH ((fv.out.under hb).more hb.size)
 have fg:=lH ((fk.out.under hb).more hb.size)
 have eo:=lH ((fW.out.under hb).more hb.size)
 have fS:=lH (fm.out.under hb)
 clear hb ed fC eT dW fv fk fW fm
 have ej:=lH (Eight.rd hN rfl)
 clear hN gj
 have s0:=dF.out.cell 0
 have s1:=dF.out.cell 1
 go_wp2_with fail
 refine (invN W4 eo ej f9 e9).mono ?_
 rintro e W5 ⟨x,eB,eV,Aw,cw,lw,rfl,hn,hr,hb⟩
 have ee:=lH (eC.out.trans (hb.mono eC.out.size))
 have fM:=lH (fE.out.under hb)
 have dZ:=lH (eP.out.under hb (Holds.lt eP))
 have ef:=lH (dF.out.under hb (Holds.lt dF))
 have ev:=lH ((e8.out.under hb).more hb.size)
 have fi:=lH ((fg.out.under hb).more hb.size)
 have fh:=lH ((eo.out.under hb).more hb.size)
 have fV:=lH (fS.out.under hb)
 have fU:=lH ((ej.out.under hb).more hb.size)
 clear hb eC fE eP dF e8 fg eo fS ej
 clear s0 s1
 have dM:=lH eB
 have e_:=lH eV
 have dr:Hid (NumIs lw (x % val lN)):=lH (by rw [Nat.mod_eq_of_lt eB];exact hn)
 have fA:=lH hr
 clear eB eV hn hr
 go_wp2_with fail
 refine (of32 W5 ev dU eZ).mono ?_
 rintro e W6 ⟨Az,cz,rfl,hz,hb⟩
 have eh:=lH (ee.out.trans (hb.mono ee.out.size))
 have fF:=lH (fM.out.under hb)
 have eR:=lH (dZ.out.under hb (Holds.lt dZ))
 have ez:=lH (ef.out.under hb (Holds.lt ef))
 have fw:=lH ((ev.out.under hb).more hb.size)
 have fb:=lH ((fi.out.under hb).more hb.size)
 have fB:=lH ((fh.out.under hb).more hb.size)
 have eU:=lH (fV.out.under hb)
 have eK:=lH ((fU.out.under hb).more hb.size)
 have eL:=lH ((fA.out.under hb).more hb.size)
 clear hb ee fM dZ ef ev fi fh fV fU fA
 have dR:=lH hz
 clear hz
 go_wp2_with fail
 refine (mulQ W6 dR eL eK (numOf_dg eZ) dr.out.1 (by have:=numOf_length dg;omega) (by have:=num_len8N dr.out;omega)).mono ?_
 rintro e W7 ⟨Au,cu,lu,rfl,hn,hr,hb⟩
 have d9:=lH (eh.out.trans (hb.mono eh.out.size))
 have fs:=lH (fF.out.under hb)
 have eF:=lH (eR.out.under hb (Holds.lt eR))
 have dw:=lH (ez.out.under hb (Holds.lt ez))
 have eY:=lH ((fw.out.under hb).more hb.size)
 have d7:=lH ((fb.out.under hb).more hb.size)
 have eX:=lH ((fB.out.under hb).more hb.size)
 have fR:=lH (eU.out.under hb)
 have dQ:=lH ((eK.out.under hb).more hb.size)
 have d_:=lH ((eL.out.under hb).more hb.size)
 have fP:=lH ((dR.out.under hb).more hb.size)
 clear hb eh fF eR ez fw fb fB eU eK eL dR
 rw [dr.out.2.2,Nat.mod_eq_of_lt dM.out] at hn
 have eN:=lH hn
 have fa:=lH hr
 clear hn hr
 have s0:=dw.out.cell 0
 have s1:=dw.out.cell 1
 go_wp2_with fail
 refine (mulQ W7 d7 d_ dQ ds dr.out.1 (by have:=(fit_facts dN ds).2.2.2;omega) (by have:=num_len8N dr.out;omega)).mono ?_
 rintro e W8 ⟨Av,cv,lv,rfl,hn,hr,hb⟩
 have d8:=lH (d9.out.trans (hb.mono d9.out.size))
 have bK:=lH (fs.out.under hb)
 have eS:=lH (eF.out.under hb (Holds.lt eF))
 have ei:=lH (dw.out.under hb (Holds.lt dw))
 have f8:=lH ((eY.out.under hb).more hb.size)
 have fG:=lH ((d7.out.under hb).more hb.size)
 have gg:=lH ((eX.out.under hb).more hb.size)
 have dH:=lH (fR.out.under hb)
 have fl:=lH ((dQ.out.under hb).more hb.size)
 have fY:=lH ((d_.out.under hb).more hb.size)
 have gc:=lH ((fP.out.under hb).more hb.size)
 have dO:=lH ((fa.out.under hb).more hb.size)
 clear hb d9 fs eF dw eY d7 eX fR dQ d_ fP fa
 clear s0 s1
 rw [dr.out.2.2,Nat.mod_eq_of_lt dM.out] at hn
 have dL:=lH hn
 have du:=lH hr
 clear hn hr
 clear f8 gg fY gc
 go_wp2_with fail
 obtain ⟨QQ,HQ⟩:∃ Q_:Exit→Act→World→Prop,Hid (Q_=fun e a W=>e = .normal∧∃ (gs:Nat) (Aj:Option Addr) (cj:Nat) (aj:List Nat) (Bj:Option Addr) (dj:Nat) (bj:List Nat) (ij:Bool),a.tmps=#[tG a 0,.slice Ad 32 cd,tG a 2,.pointer (some ⟨w.heap.size,0,none⟩),tG a 4,.pointer (some ⟨w.heap.size+1,0,none⟩),.bool false,.slice (some ⟨gn,0,none⟩) 8 8,tG a 8,tG a 9,tG a 10,tG a 11,tG a 12,tG a 13,.pointer (some ⟨gs,0,none⟩),tG a 15,tG a 16,tG a 17,tG a 18,tG a 19,tG a 20,tG a 21,tG a 22,tG a 23,tG a 24,tG a 25,tG a 26,tG a 27,tG a 28,tG a 29,tG a 30,tG a 31,tG a 32,tG a 33,tG a 34,tG a 35,tG a 36,tG a 37,tG a 38,tG a 39,tG a 40,tG a 41,tG a 42,tG a 43,tG a 44,tG a 45,tG a 46,tG a 47,tG a 48,tG a 49,tG a 50,tG a 51,tG a 52,tG a 53,tG a 54,tG a 55,tG a 56,tG a 57,tG a 58,tG a 59,tG a 60,tG a 61,tG a 62,tG a 63,tG a 64,tG a 65,tG a 66,tG a 67,tG a 68,tG a 69,tG a 70,tG a 71,tG a 72,tG a 73,tG a 74,tG a 75,tG a 76,tG a 77,tG a 78,tG a 79,tG a 80,tG a 81,tG a 82,tG a 83,tG a 84,tG a 85,tG a 86]∧a.defers=[]∧Below W8.heap.size W8 W∧PtV (Luc.add (Luc.nmul gP (val (numOf dg)*x % val lN)) (Luc.nmul Q (val R*x % val lN))) W Aj cj aj Bj dj bj ij∧Holds W gs 26 #[.slice Aj aj.length cj,.slice Bj bj.length dj,.bool ij]):=⟨_,lH rfl⟩
 refine Code.wp_mono (Q:=QQ) ?_ ?_
 rotate_left 1
 ·refine wp_region_noPanic ?_
  refine wp_region_held_drew (S:=fun W=>Below W8.heap.size W8 W) (by kernel_rfl) ((Below.refl _ W8).drew) (fun hHeld=>?_)
  obtain ⟨V,hV⟩:∃ W,W=W8.drew:=⟨_,rfl⟩
  rw [←hV]
  have cM:Hid (Below W8.heap.size W8 V):=lH (by rw [hV];exact (Below.refl _ W8).drew)
  replace hHeld:(fun W=>Below W8.heap.size W8 W) V:=cM.out
  clear hV
  refine tz 0 ⟨some 64,.move (.tmp 10),24,_,_,none⟩ rfl hHeld ?_
  try simp only [aP]
  refine tz 3 ⟨some 67,.move (.tmp 12),24,_,_,none⟩ rfl hHeld ?_
  try simp only [aP]
  refine tz 4 ⟨some 68,.fieldAddr 45 (.tmp 3) 3,0,_,_,none⟩ rfl hHeld ?_
  try simp only [aP]
  refine tk 5 ⟨some 69,.load 26 (.tmp 68),26,_,_,none⟩ ?_ rfl ?_ hHeld ?_
  rotate_left 1
  ·(intro W hW;have eI:=eS.out.under hW (Holds.lt eS.out);have k3:=eI.cell 3;have k4:=eI.cell 4;have k5:=eI.cell 5;(try dsimp only at hW);go_simp;try with_reducible rfl)
  try simp only [aP]
  refine wpAnyH_ready (rs:=[1,8]) (by kernel_rfl) (by simp) ?_
  refine AllReadyH.cons (o:=⟨some 65,.call ⟨ .value (.func 28),#[],#[]⟩,26,_,_,none⟩) rfl (fun K hK=>?_) ?_
  go_simp
  refine (curveGP V).mono ?_
  rintro e V1 ⟨Ah,ch,ah,Bh,dh,bh,ih,rfl,hq,ab⟩
  have aN:=lH (cM.out.trans (ab.mono cM.out.size))
  have cK:=lH hq
  clear ab hq
  clear cM
  go_simp
  refine hK.out _ _ (aN.out) (fun hHeld=>?_)
  clear hK K
  try simp only [aP]
  refine wpAnyH_ready (rs:=[2,8]) (by kernel_rfl) (by simp) ?_
  refine AllReadyH.cons (o:=⟨some 66,.call ⟨ .value (.func 22),#[.tmp 64,.tmp 65],#[24,26]⟩,26,_,_,none⟩) rfl (fun K hK=>?_) ?_
  go_simp
  refine (timesU V1 (bK.out.under aN) ((dO.out.under aN).more aN.out.size) eN cK gP_on).mono ?_
  rintro e dI ⟨Ap,cp,ap,Bp,dp,bp,ip,rfl,hq,ab⟩
  have au:=lH (aN.out.trans (ab.mono aN.out.size))
  have bE:=lH hq
  clear ab hq
  clear aN cK
  go_simp
  refine hK.out _ _ (au.out) (fun hHeld=>?_)
  clear hK K
  try simp only [aP]
  refine wpAnyH_ready (rs:=[6,8]) (by kernel_rfl) (by simp) ?_
  refine AllReadyH.cons (o:=⟨some 70,.call ⟨ .value (.func 22),#[.tmp 67,.tmp 69],#[24,26]⟩,26,_,_,none⟩) rfl (fun K hK=>?_) ?_
  go_simp
  refine (timesU dI (bK.out.under au) ((du.out.under au).more au.out.size) dL (dH.out.under au) HO).mono ?_
  rintro e cD ⟨Aq,cq,aq,Bq,dq,bq,iq,rfl,hq,ab⟩
  have ao:=lH (au.out.trans (ab.mono au.out.size))
  have a6:=lH hq
  have bd:=lH (bE.out.under ab)
  clear ab hq
  clear au bE
  go_simp
  refine hK.out _ _ (ao.out) (fun hHeld=>?_)
  clear hK K
  try simp only [aP]
  refine wpAnyH_ready (rs:=[7,8]) (by kernel_rfl) (by simp) ?_
  refine AllReadyH.cons (o:=⟨some 71,.call ⟨ .value (.func 14),#[.tmp 66,.tmp 70],#[26,26]⟩,26,_,_,none⟩) rfl (fun K hK=>?_) ?_
  go_simp
  refine (addP cD (bK.out.under ao) bd a6 (Luc.nmul_on gP_on _) (Luc.nmul_on HO _)).mono ?_
  rintro e bB ⟨Aj,cj,aj,Bj,dj,bj,ij,rfl,hq,ab⟩
  have aF:=lH (ao.out.trans (ab.mono ao.out.size))
  have bM:=lH hq
  clear ab hq
  clear ao bd a6
  go_simp
  refine hK.out _ _ (aF.out) (fun hHeld=>?_)
  clear hK K
  try simp only [aP]
  refine rdy 8 ⟨some 14,.alloc 26,0,_,_,none⟩ rfl (fun K hK=>?_)
  obtain ⟨bx,hN⟩:∃ W,W=bB.alloc (.cells #[.slice none 0 0,.slice none 0 0,.bool false] 26):=⟨_,rfl⟩
  go_simp
  rw [←hN]
  obtain ⟨gs,hg⟩:∃ g,g=bB.heap.size:=⟨_,rfl⟩
  rw [←hg]
  have ab:Below bB.heap.size bB bx:=by rw [hN];exact (Below.refl _ _).alloc (Nat.le_refl _) _
  have ac:Hid (Holds bx gs 26 #[.slice none 0 0,.slice none 0 0,.bool false]):=lH (by rw [hN,hg];exact Holds.fresh _ _ _)
  have bn:Hid (W8.heap.size≤gs):=lH (by rw [hg];exact aF.out.size)
  have aM:=lH (aF.out.trans (ab.mono aF.out.size))
  have aE:=lH (bM.out.under ab)
  clear hN hg ab
  clear aF bM
  refine hK.out _ _ (aM.out) (fun hHeld=>?_)
  clear hK K
  try simp only [aP]
  refine rdy 9 ⟨none,.store 26 (.tmp 14) (.tmp 71),0,_,_,none⟩ rfl (fun K hK=>?_)
  have z0:=ac.out.cell 0
  have o0:=ac.out.open_ 0
  have z1:=ac.out.cell 1
  have o1:=ac.out.open_ 1
  have z2:=ac.out.cell 2
  have o2:=ac.out.open_ 2
  obtain ⟨bf,hN⟩:∃ W,W=(((bx.setCell ⟨gs,0,none⟩ (.slice Aj aj.length cj)).setCell ⟨gs,1,none⟩ (.slice Bj bj.length dj)).setCell ⟨gs,2,none⟩ (.bool ij)):=⟨_,rfl⟩
  go_simp
  rw [←hN]
  have bY:Hid (Holds bf gs 26 #[.slice Aj aj.length cj,.slice Bj bj.length dj,.bool ij]):=lH (by rw [hN];exact set3 ac _ _ _)
  have aT:Hid (Below W8.heap.size W8 bf):=lH (by rw [hN];exact below3 aM bn _ _ _)
  have bT:Hid (PtV (Luc.add (Luc.nmul gP (val (numOf dg)*x % val lN)) (Luc.nmul Q (val R*x % val lN))) bf Aj cj aj Bj dj bj ij):=lH ⟨aE.out.inf,by rw [hN];exact aE.out.x.store3 ac no_numsP _ _ _,by rw [hN];exact aE.out.y.store3 ac no_numsP _ _ _⟩
  clear hN z0 z1 z2 o0 o1 o2
  clear aM aE ac bn
  refine hK.out _ _ (aT.out) (fun hHeld=>?_)
  clear hK K
  try simp only [aP]
  refine dn ?_
  rw [HQ.out]
  exact ⟨rfl,gs,Aj,cj,aj,Bj,dj,bj,ij,rfl,rfl,aT,bT,bY⟩
  refine AllReadyH.cons (o:=⟨some 14,.alloc 26,0,_,_,none⟩) rfl (fun K hK=>?_) AllReadyH.nil
  obtain ⟨cl,hN⟩:∃ W,W=cD.alloc (.cells #[.slice none 0 0,.slice none 0 0,.bool false] 26):=⟨_,rfl⟩
  go_simp
  rw [←hN]
  obtain ⟨gs,hg⟩:∃ g,g=cD.heap.size:=⟨_,rfl⟩
  rw [←hg]
  have ab:Below cD.heap.size cD cl:=by rw [hN];exact (Below.refl _ _).alloc (Nat.le_refl _) _
  have a_:Hid (Holds cl gs 26 #[.slice none 0 0,.slice none 0 0,.bool false]):=lH (by rw [hN,hg];exact Holds.fresh _ _ _)
  have bD:Hid (W8.heap.size≤gs):=lH (by rw [hg];exact ao.out.size)
  have aC:=lH (ao.out.trans (ab.mono ao.out.size))
  have bG:=lH (bd.out.under ab)
  have bA:=lH (a6.out.under ab)
  clear hN hg ab
  clear ao bd a6
  refine hK.out _ _ (aC.out) (fun hHeld=>?_)
  clear hK K
  try simp only [aP]
  refine rdy 7 ⟨some 71,.call ⟨ .value (.func 14),#[.tmp 66,.tmp 70],#[26,26]⟩,26,_,_,none⟩ rfl (fun K hK=>?_)
  go_simp
  refine (addP cl (bK.out.under aC) bG bA (Luc.nmul_on gP_on _) (Luc.nmul_on HO _)).mono ?_
  rintro e dc ⟨Aj,cj,aj,Bj,dj,bj,ij,rfl,hq,ab⟩
  have aQ:=lH (aC.out.trans (ab.mono aC.out.size))
  have aH:=lH hq
  have ai:=lH (a_.out.under ab (Holds.lt a_))
  have bt:=lH bD.out
  clear ab hq
  clear aC bG bA a_ bD
  go_simp
  refine hK.out _ _ (aQ.out) (fun hHeld=>?_)
  clear hK K
  try simp only [aP]
  refine rdy 9 ⟨none,.store 26 (.tmp 14) (.tmp 71),0,_,_,none⟩ rfl (fun K hK=>?_)
  have z0:=ai.out.cell 0
  have o0:=ai.out.open_ 0
  have z1:=ai.out.cell 1
  have o1:=ai.out.open_ 1
  have z2:=ai.out.cell 2
  have o2:=ai.out.open_ 2
  obtain ⟨a9,hN⟩:∃ W,W=(((dc.setCell ⟨gs,0,none⟩ (.slice Aj aj.length cj)).setCell ⟨gs,1,none⟩ (.slice Bj bj.length dj)).setCell ⟨gs,2,none⟩ (.bool ij)):=⟨_,rfl⟩
  go_simp
  rw [←hN]
  have bS:Hid (Holds a9 gs 26 #[.slice Aj aj.length cj,.slice Bj bj.length dj,.bool ij]):=lH (by rw [hN];exact set3 ai _ _ _)
  have aW:Hid (Below W8.heap.size W8 a9):=lH (by rw [hN];exact below3 aQ bt _ _ _)
  have bQ:Hid (PtV (Luc.add (Luc.nmul gP (val (numOf dg)*x % val lN)) (Luc.nmul Q (val R*x % val lN))) a9 Aj cj aj Bj dj bj ij):=lH ⟨aH.out.inf,by rw [hN];exact aH.out.x.store3 ai no_numsP _ _ _,by rw [hN];exact aH.out.y.store3 ai no_numsP _ _ _⟩
  clear hN z0 z1 z2 o0 o1 o2
  clear aQ aH ai bt
  refine hK.out _ _ (aW.out) (fun hHeld=>?_)
  clear hK K
  try simp only [aP]
  refine dn ?_
  rw [HQ.out]
  exact ⟨rfl,gs,Aj,cj,aj,Bj,dj,bj,ij,rfl,rfl,aW,bQ,bS⟩
  refine AllReadyH.cons (o:=⟨some 14,.alloc 26,0,_,_,none⟩) rfl (fun K hK=>?_) AllReadyH.nil
  obtain ⟨cV,hN⟩:∃ W,W=dI.alloc (.cells #[.slice none 0 0,.slice none 0 0,.bool false] 26):=⟨_,rfl⟩
  go_simp
  rw [←hN]
  obtain ⟨gs,hg⟩:∃ g,g=dI.heap.size:=⟨_,rfl⟩
  rw [←hg]
  have ab:Below dI.heap.size dI cV:=by rw [hN];exact (Below.refl _ _).alloc (Nat.le_refl _) _
  have bv:Hid (Holds cV gs 26 #[.slice none 0 0,.slice none 0 0,.bool false]):=lH (by rw [hN,hg];exact Holds.fresh _ _ _)
  have cF:Hid (W8.heap.size≤gs):=lH (by rw [hg];exact au.out.size)
  have av:=lH (au.out.trans (ab.mono au.out.size))
  have cC:=lH (bE.out.under ab)
  clear hN hg ab
  clear au bE
  refine hK.out _ _ (av.out) (fun hHeld=>?_)
  clear hK K
  try simp only [aP]
  refine rdy 6 ⟨some 70,.call ⟨ .value (.func 22),#[.tmp 67,.tmp 69],#[24,26]⟩,26,_,_,none⟩ rfl (fun K hK=>?_)
  go_simp
  refine (timesU cV (bK.out.under av) ((du.out.under av).more av.out.size) dL (dH.out.under av) HO).mono ?_
  rintro e dC ⟨Aq,cq,aq,Bq,dq,bq,iq,rfl,hq,ab⟩
  have aG:=lH (av.out.trans (ab.mono av.out.size))
  have bL:=lH hq
  have bI:=lH (cC.out.under ab)
  have bc:=lH (bv.out.under ab (Holds.lt bv))
  have bH:=lH cF.out
  clear ab hq
  clear av cC bv cF
  go_simp
  refine hK.out _ _ (aG.out) (fun hHeld=>?_)
  clear hK K
  try simp only [aP]
  refine rdy 7 ⟨some 71,.call ⟨ .value (.func 14),#[.tmp 66,.tmp 70],#[26,26]⟩,26,_,_,none⟩ rfl (fun K hK=>?_)
  go_simp
  refine (addP dC (bK.out.under aG) bI bL (Luc.nmul_on gP_on _) (Luc.nmul_on HO _)).mono ?_
  rintro e di ⟨Aj,cj,aj,Bj,dj,bj,ij,rfl,hq,ab⟩
  have aJ:=lH (aG.out.trans (ab.mono aG.out.size))
  have ay:=lH hq
  have am:=lH (bc.out.under ab (Holds.lt bc))
  have bm:=lH bH.out
  clear ab hq
  clear aG bI bL bc bH
  go_simp
  refine hK.out _ _ (aJ.out) (fun hHeld=>?_)
  clear hK K
  try simp only [aP]
  refine rdy 9 ⟨none,.store 26 (.tmp 14) (.tmp 71),0,_,_,none⟩ rfl (fun K hK=>?_)
  have z0:=am.out.cell 0
  have o0:=am.out.open_ 0
  have z1:=am.out.cell 1
  have o1:=am.out.open_ 1
  have z2:=am.out.cell 2
  have o2:=am.out.open_ 2
  obtain ⟨bl,hN⟩:∃ W,W=(((di.setCell ⟨gs,0,none⟩ (.slice Aj aj.length cj)).setCell ⟨gs,1,none⟩ (.slice Bj bj.length dj)).setCell ⟨gs,2,none⟩ (.bool ij)):=⟨_,rfl⟩
  go_simp
  rw [←hN]
  have bX:Hid (Holds bl gs 26 #[.slice Aj aj.length cj,.slice Bj bj.length dj,.bool ij]):=lH (by rw [hN];exact set3 am _ _ _)
  have aX:Hid (Below W8.heap.size W8 bl):=lH (by rw [hN];exact below3 aJ bm _ _ _)
  have bP:Hid (PtV (Luc.add (Luc.nmul gP (val (numOf dg)*x % val lN)) (Luc.nmul Q (val R*x % val lN))) bl Aj cj aj Bj dj bj ij):=lH ⟨ay.out.inf,by rw [hN];exact ay.out.x.store3 am no_numsP _ _ _,by rw [hN];exact ay.out.y.store3 am no_numsP _ _ _⟩
  clear hN z0 z1 z2 o0 o1 o2
  clear aJ ay am bm
  refine hK.out _ _ (aX.out) (fun hHeld=>?_)
  clear hK K
  try simp only [aP]
  refine dn ?_
  rw [HQ.out]
  exact ⟨rfl,gs,Aj,cj,aj,Bj,dj,bj,ij,rfl,rfl,aX,bP,bX⟩
  refine AllReadyH.cons (o:=⟨some 14,.alloc 26,0,_,_,none⟩) rfl (fun K hK=>?_) AllReadyH.nil
  obtain ⟨dX,hN⟩:∃ W,W=V1.alloc (.cells #[.slice none 0 0,.slice none 0 0,.bool false] 26):=⟨_,rfl⟩
  go_simp
  rw [←hN]
  obtain ⟨gs,hg⟩:∃ g,g=V1.heap.size:=⟨_,rfl⟩
  rw [←hg]
  have ab:Below V1.heap.size V1 dX:=by rw [hN];exact (Below.refl _ _).alloc (Nat.le_refl _) _
  have cA:Hid (Holds dX gs 26 #[.slice none 0 0,.slice none 0 0,.bool false]):=lH (by rw [hN,hg];exact Holds.fresh _ _ _)
  have cT:Hid (W8.heap.size≤gs):=lH (by rw [hg];exact aN.out.size)
  have aL:=lH (aN.out.trans (ab.mono aN.out.size))
  have cO:=lH (cK.out.under ab)
  clear hN hg ab
  clear aN cK
  refine hK.out _ _ (aL.out) (fun hHeld=>?_)
  clear hK K
  try simp only [aP]
  refine rdy 2 ⟨some 66,.call ⟨ .value (.func 22),#[.tmp 64,.tmp 65],#[24,26]⟩,26,_,_,none⟩ rfl (fun K hK=>?_)
  go_simp
  refine (timesU dX (bK.out.under aL) ((dO.out.under aL).more aL.out.size) eN cO gP_on).mono ?_
  rintro e dV ⟨Ap,cp,ap,Bp,dp,bp,ip,rfl,hq,ab⟩
  have ax:=lH (aL.out.trans (ab.mono aL.out.size))
  have cE:=lH hq
  have bu:=lH (cA.out.under ab (Holds.lt cA))
  have bZ:=lH cT.out
  clear ab hq
  clear aL cO cA cT
  go_simp
  refine hK.out _ _ (ax.out) (fun hHeld=>?_)
  clear hK K
  try simp only [aP]
  refine rdy 6 ⟨some 70,.call ⟨ .value (.func 22),#[.tmp 67,.tmp 69],#[24,26]⟩,26,_,_,none⟩ rfl (fun K hK=>?_)
  go_simp
  refine (timesU dV (bK.out.under ax) ((du.out.under ax).more ax.out.size) dL (dH.out.under ax) HO).mono ?_
  rintro e dt ⟨Aq,cq,aq,Bq,dq,bq,iq,rfl,hq,ab⟩
  have aB:=lH (ax.out.trans (ab.mono ax.out.size))
  have bz:=lH hq
  have bO:=lH (cE.out.under ab)
  have bk:=lH (bu.out.under ab (Holds.lt bu))
  have bC:=lH bZ.out
  clear ab hq
  clear ax cE bu bZ
  go_simp
  refine hK.out _ _ (aB.out) (fun hHeld=>?_)
  clear hK K
  try simp only [aP]
  refine rdy 7 ⟨some 71,.call ⟨ .value (.func 14),#[.tmp 66,.tmp 70],#[26,26]⟩,26,_,_,none⟩ rfl (fun K hK=>?_)
  go_simp
  refine (addP dt (bK.out.under aB) bO bz (Luc.nmul_on gP_on _) (Luc.nmul_on HO _)).mono ?_
  rintro e cU ⟨Aj,cj,aj,Bj,dj,bj,ij,rfl,hq,ab⟩
  have aK:=lH (aB.out.trans (ab.mono aB.out.size))
  have aD:=lH hq
  have ae:=lH (bk.out.under ab (Holds.lt bk))
  have bs:=lH bC.out
  clear ab hq
  clear aB bO bz bk bC
  go_simp
  refine hK.out _ _ (aK.out) (fun hHeld=>?_)
  clear hK K
  try simp only [aP]
  refine rdy 9 ⟨none,.store 26 (.tmp 14) (.tmp 71),0,_,_,none⟩ rfl (fun K hK=>?_)
  have z0:=ae.out.cell 0
  have o0:=ae.out.open_ 0
  have z1:=ae.out.cell 1
  have o1:=ae.out.open_ 1
  have z2:=ae.out.cell 2
  have o2:=ae.out.open_ 2
  obtain ⟨ba,hN⟩:∃ W,W=(((cU.setCell ⟨gs,0,none⟩ (.slice Aj aj.length cj)).setCell ⟨gs,1,none⟩ (.slice Bj bj.length dj)).setCell ⟨gs,2,none⟩ (.bool ij)):=⟨_,rfl⟩
  go_simp
  rw [←hN]
  have bU:Hid (Holds ba gs 26 #[.slice Aj aj.length cj,.slice Bj bj.length dj,.bool ij]):=lH (by rw [hN];exact set3 ae _ _ _)
  have aV:Hid (Below W8.heap.size W8 ba):=lH (by rw [hN];exact below3 aK bs _ _ _)
  have bW:Hid (PtV (Luc.add (Luc.nmul gP (val (numOf dg)*x % val lN)) (Luc.nmul Q (val R*x % val lN))) ba Aj cj aj Bj dj bj ij):=lH ⟨aD.out.inf,by rw [hN];exact aD.out.x.store3 ae no_numsP _ _ _,by rw [hN];exact aD.out.y.store3 ae no_numsP _ _ _⟩
  clear hN z0 z1 z2 o0 o1 o2
  clear aK aD ae bs
  refine hK.out _ _ (aV.out) (fun hHeld=>?_)
  clear hK K
  try simp only [aP]
  refine dn ?_
  rw [HQ.out]
  exact ⟨rfl,gs,Aj,cj,aj,Bj,dj,bj,ij,rfl,rfl,aV,bW,bU⟩
  refine AllReadyH.cons (o:=⟨some 14,.alloc 26,0,_,_,none⟩) rfl (fun K hK=>?_) AllReadyH.nil
  obtain ⟨V8,hN⟩:∃ W,W=V.alloc (.cells #[.slice none 0 0,.slice none 0 0,.bool false] 26):=⟨_,rfl⟩
  go_simp
  rw [←hN]
  obtain ⟨gs,hg⟩:∃ g,g=V.heap.size:=⟨_,rfl⟩
  rw [←hg]
  have ab:Below V.heap.size V V8:=by rw [hN];exact (Below.refl _ _).alloc (Nat.le_refl _) _
  have c_:Hid (Holds V8 gs 26 #[.slice none 0 0,.slice none 0 0,.bool false]):=lH (by rw [hN,hg];exact Holds.fresh _ _ _)
  have dG:Hid (W8.heap.size≤gs):=lH (by rw [hg];exact cM.out.size)
  have cL:=lH (cM.out.trans (ab.mono cM.out.size))
  clear hN hg ab
  clear cM
  refine hK.out _ _ (cL.out) (fun hHeld=>?_)
  clear hK K
  try simp only [aP]
  refine rdy 1 ⟨some 65,.call ⟨ .value (.func 28),#[],#[]⟩,26,_,_,none⟩ rfl (fun K hK=>?_)
  go_simp
  refine (curveGP V8).mono ?_
  rintro e fZ ⟨Ah,ch,ah,Bh,dh,bh,ih,rfl,hq,ab⟩
  have aR:=lH (cL.out.trans (ab.mono cL.out.size))
  have cN:=lH hq
  have cG:=lH (c_.out.under ab (Holds.lt c_))
  have cS:=lH dG.out
  clear ab hq
  clear cL  c_ dG
  go_simp
  refine hK.out _ _ (aR.out) (fun hHeld=>?_)
  clear hK K
  try simp only [aP]
  refine rdy 2 ⟨some 66,.call ⟨ .value (.func 22),#[.tmp 64,.tmp 65],#[24,26]⟩,26,_,_,none⟩ rfl (fun K hK=>?_)
  go_simp
  refine (timesU fZ (bK.out.under aR) ((dO.out.under aR).more aR.out.size) eN cN gP_on).mono ?_
  rintro e eJ ⟨Ap,cp,ap,Bp,dp,bp,ip,rfl,hq,ab⟩
  have aw:=lH (aR.out.trans (ab.mono aR.out.size))
  have b_:=lH hq
  have bw:=lH (cG.out.under ab (Holds.lt cG))
  have cB:=lH cS.out
  clear ab hq
  clear aR cN cG cS
  go_simp
  refine hK.out _ _ (aw.out) (fun hHeld=>?_)
  clear hK K
  try simp only [aP]
  refine rdy 6 ⟨some 70,.call ⟨ .value (.func 22),#[.tmp 67,.tmp 69],#[24,26]⟩,26,_,_,none⟩ rfl (fun K hK=>?_)
  go_simp
  refine (timesU eJ (bK.out.under aw) ((du.out.under aw).more aw.out.size) dL (dH.out.under aw) HO).mono ?_
  rintro e dv ⟨Aq,cq,aq,Bq,dq,bq,iq,rfl,hq,ab⟩
  have aA:=lH (aw.out.trans (ab.mono aw.out.size))
  have bF:=lH hq
  have bN:=lH (b_.out.under ab)
  have aY:=lH (bw.out.under ab (Holds.lt bw))
  have bJ:=lH cB.out
  clear ab hq
  clear aw b_ bw cB
  go_simp
  refine hK.out _ _ (aA.out) (fun hHeld=>?_)
  clear hK K
  try simp only [aP]
  refine rdy 7 ⟨some 71,.call ⟨ .value (.func 14),#[.tmp 66,.tmp 70],#[26,26]⟩,26,_,_,none⟩ rfl (fun K hK=>?_)
  go_simp
  refine (addP dv (bK.out.under aA) bN bF (Luc.nmul_on gP_on _) (Luc.nmul_on HO _)).mono ?_
  rintro e cW ⟨Aj,cj,aj,Bj,dj,bj,ij,rfl,hq,ab⟩
  have aO:=lH (aA.out.trans (ab.mono aA.out.size))
  have az:=lH hq
  have ak:=lH (aY.out.under ab (Holds.lt aY))
  have br:=lH bJ.out
  clear ab hq
  clear aA bN bF aY bJ
  go_simp
  refine hK.out _ _ (aO.out) (fun hHeld=>?_)
  clear hK K
  try simp only [aP]
  refine rdy 9 ⟨none,.store 26 (.tmp 14) (.tmp 71),0,_,_,none⟩ rfl (fun K hK=>?_)
  have z0:=ak.out.cell 0
  have o0:=ak.out.open_ 0
  have z1:=ak.out.cell 1
  have o1:=ak.out.open_ 1
  have z2:=ak.out.cell 2
  have o2:=ak.out.open_ 2
  obtain ⟨a8,hN⟩:∃ W,W=(((cW.setCell ⟨gs,0,none⟩ (.slice Aj aj.length cj)).setCell ⟨gs,1,none⟩ (.slice Bj bj.length dj)).setCell ⟨gs,2,none⟩ (.bool ij)):=⟨_,rfl⟩
  go_simp
  rw [←hN]
  have bR:Hid (Holds a8 gs 26 #[.slice Aj aj.length cj,.slice Bj bj.length dj,.bool ij]):=lH (by rw [hN];exact set3 ak _ _ _)
  have aU:Hid (Below W8.heap.size W8 a8):=lH (by rw [hN];exact below3 aO br _ _ _)
  have bV:Hid (PtV (Luc.add (Luc.nmul gP (val (numOf dg)*x % val lN)) (Luc.nmul Q (val R*x % val lN))) a8 Aj cj aj Bj dj bj ij):=lH ⟨az.out.inf,by rw [hN];exact az.out.x.store3 ak no_numsP _ _ _,by rw [hN];exact az.out.y.store3 ak no_numsP _ _ _⟩
  clear hN z0 z1 z2 o0 o1 o2
  clear aO az ak br
  refine hK.out _ _ (aU.out) (fun hHeld=>?_)
  clear hK K
  try simp only [aP]
  refine dn ?_
  rw [HQ.out]
  exact ⟨rfl,gs,Aj,cj,aj,Bj,dj,bj,ij,rfl,rfl,aU,bV,bR⟩
 rintro e a W9 hq
 rw [HQ.out] at hq
 obtain ⟨rfl,gs,Aj,cj,aj,Bj,dj,bj,ij,dS,fD,hb,hV,hG⟩:=hq
 clear HQ
 obtain ⟨tm,df⟩:=a
 dsimp only at dS fD
 subst fD
 obtain ⟨U,hU⟩:∃ U:Nat→Value,∀ i,tm.getD i undef=U i:=⟨_,fun _=>rfl⟩
 simp only [tG,hU] at dS
 clear hU
 subst dS
 clear dO du dH eS
 have dK:=lH (d8.out.trans (hb.mono d8.out.size))
 have fL:=lH (bK.out.under hb)
 have eg:=lH (ei.out.under hb (Holds.lt ei))
 have fj:=lH ((fG.out.under hb).more hb.size)
 have eO:=lH ((fl.out.under hb).more hb.size)
 clear hb d8 bK ei fG fl
 have cJ:=lH hV
 have cH:=lH hG
 clear hV hG
 rcases HT:Luc.add (Luc.nmul gP (val (numOf dg)*x % val lN)) (Luc.nmul Q (val R*x % val lN)) with _ | ⟨xj,yj⟩
 ·rw [HT] at cJ
  have HF:=lH (verF_none HT)
  clear HT
  obtain rfl:ij=true:=cJ.out.inf
  have p0:=cH.out.cell 0
  have p1:=cH.out.cell 1
  have p2:=cH.out.cell 2
  go_wp2_with fail
  go_ret
  exact ⟨x,dM,e_,by rw [HF.out];rfl,dK⟩
 ·rw [HT] at cJ
  have HF:=lH (verF_some HT)
  clear HT
  obtain rfl:ij=false:=cJ.out.inf
  have p0:=cH.out.cell 0
  have p1:=cH.out.cell 1
  have p2:=cH.out.cell 2
  go_wp2_with fail
  refine (restN W9 cJ.out.x.rd eO cJ.out.x.dg (by have:=cJ.out.x.le;omega)).mono ?_
  rintro e f_ ⟨Aq3,nq3,cq3,Ax3,cx3,dP,rfl,hn,hr,hb⟩
  have eD:=lH (dK.out.trans (hb.mono dK.out.size))
  have HM10:=lH (fL.out.under hb)
  have dJ:=lH (eg.out.under hb (Holds.lt eg))
  have d6:=lH ((fj.out.under hb).more hb.size)
  have HN10:=lH ((eO.out.under hb).more hb.size)
  have eH:=lH (cJ.out.under hb)
  have PB10:=lH (cH.out.under hb (Holds.lt cH))
  clear hb dK fL eg fj eO cJ cH
  clear p0 p1 p2
  have fT:=lH hn
  have em:=lH hr
  clear hn hr
  have fI:Hid ((cmpL dP R == 0)=verF Q (val (numOf dg)) (val R) x):=lH (by rw [cmp_is fT.out ds.out (fit_facts dN.out ds.out).1,HF.out,eH.out.x.val];rfl)
  obtain ⟨v,hv⟩:∃ v,cmpL dP R=v:=⟨_,rfl⟩
  rw [hv] at fI
  have HV:=lH hv
  have gi:Hid (cmpL (trl dP) (trl R)=v):=lH (by rw [trl_id fT.out.2.1,trl_id (fit_facts dN.out ds.out).1];exact hv)
  clear hv
  have s0:=dJ.out.cell 0
  have s1:=dJ.out.cell 1
  go_wp2_with fail
  refine (cmp_any f_ _ _ _ _ _ _ dP R em d6 v gi).mono ?_
  rintro e fX ⟨rfl,q,hq⟩
  have f6:Hid (Below w.heap.size w fX):=lH (by rw [hq];exact bdN eD q)
  clear hq s0 s1
  go_wp2_with fail
  go_ret
  exact ⟨x,dM,e_,by rw [←fI.out];rfl,f6⟩
theorem verify_no (w:World) (hm:CMet w) (al en:Int) {An Ax Ay Ad Ar As:Option Addr} {cn cx cy nd cd cr cs:Nat} {ln lx ly R S:List Nat} {inf:Bool} (hx:Rd .u32 w w.heap.size Ax cx lx) (hy:Rd .u32 w w.heap.size Ay cy ly) (hdx:Dg lx) (hdy:Dg ly) (hR:Rd .u32 w w.heap.size Ar cr R) (hS:Rd .u32 w w.heap.size As cs S) (hno:(keyB al ln en lx ly inf && decide (nd=32) && fitB R && fitB S)=false) :
  Calls Tryd.prog 31 #[.agg #[.int .i64 al,.slice An ln.length cn,.int .u32 en,.slice Ax lx.length cx,.slice Ay ly.length cy,.bool inf],.slice Ad nd cd,.agg #[.slice Ar R.length cr,.slice As S.length cs]] w fun e w'=>e = .returned (.bool false)∧Below w.heap.size w w':=by
 obtain ⟨w1,aA⟩:∃ W,W=w.alloc (.cells #[.int .i64 al,.slice An ln.length cn,.int .u32 en,.slice Ax lx.length cx,.slice Ay ly.length cy,.bool inf] 45):=⟨_,rfl⟩
 have aJ:w1.heap.size=w.heap.size+1:=by rw [aA];simp
 have aH:Below w.heap.size w w1:=by rw [aA];exact (Below.refl _ _).alloc (Nat.le_refl _) _
 obtain ⟨W0,aC⟩:∃ W,W=w1.alloc (.cells #[.slice Ar R.length cr,.slice As S.length cs] 48):=⟨_,rfl⟩
 have hb:Below w.heap.size w W0:=by rw [aC];exact aH.alloc aH.size _
 have ae:Hid (Holds W0 (w.heap.size+1) 48 #[.slice Ar R.length cr,.slice As S.length cs]):=lH (by rw [aC,←aJ];exact Holds.fresh w1 _ _)
 have ab:=lH hb
 have ai:=lH (hm.under hb)
 have ao:=lH ((hR.under hb).more hb.size)
 have au:=lH ((hS.under hb).more hb.size)
 have RX:=lH hx
 have RY:=lH hy
 have az:=lH hdx
 have aB:=lH hdy
 have HW:=lH (aA ▸ aC:W0=(w.alloc (.cells #[.int .i64 al,.slice An ln.length cn,.int .u32 en,.slice Ax lx.length cx,.slice Ay ly.length cy,.bool inf] 45)).alloc (.cells #[.slice Ar R.length cr,.slice As S.length cs] 48))
 clear aA aJ aH aC hb hx hy hdx hdy hR hS hm
 by_cases hk:keyB al ln en lx ly inf=true
 ·have HK:=lH hk
  by_cases hn:nd=32
  ·subst hn
   by_cases hr:fitB R=true
   ·have aG:=lH hr
    have aL:Hid (fitB S=false):=lH (by rw [hk,hr] at hno;simpa using hno)
    clear hk hr hno
    go_enter Tryd.func31,Tryd.ntmps31
    go_wp2_with fail
    rw [←HW.out]
    clear HW
    refine (keyYes W0 ai ((RX.out.under ab).more ab.out.size) ((RY.out.under ab).more ab.out.size) az aB HK).mono ?_
    rintro e W1 ⟨rfl,hb⟩
    have ak:=lH (ab.out.trans (hb.mono ab.out.size))
    have aw:=lH (ai.out.under hb)
    have ac:=lH (ae.out.under hb (Holds.lt ae))
    have am:=lH ((ao.out.under hb).more hb.size)
    have av:=lH ((au.out.under hb).more hb.size)
    clear hb ab ai ae ao au
    have s0:=ac.out.cell 0
    have s1:=ac.out.cell 1
    go_wp2_with fail
    refine (fitV W1 am aG).mono ?_
    rintro e W2 ⟨rfl,hb⟩
    have ay:=lH (ak.out.trans (hb.mono ak.out.size))
    have aF:=lH (aw.out.under hb)
    have ax:=lH (ac.out.under hb (Holds.lt ac))
    have aE:=lH ((am.out.under hb).more hb.size)
    have aD:=lH ((av.out.under hb).more hb.size)
    clear hb ak aw ac am av
    clear s0 s1
    have s0:=ax.out.cell 0
    have s1:=ax.out.cell 1
    go_wp2_with fail
    refine (fitV W2 aD aL).mono ?_
    rintro e W3 ⟨rfl,hb⟩
    have aK:=lH (ay.out.trans (hb.mono ay.out.size))
    have HM3:=lH (aF.out.under hb)
    have SB3:=lH (ax.out.under hb (Holds.lt ax))
    have RR3:=lH ((aE.out.under hb).more hb.size)
    have RS3:=lH ((aD.out.under hb).more hb.size)
    clear hb ay aF ax aE aD
    clear s0 s1
    go_wp2_with fail
    go_ret
    exact ⟨rfl,aK⟩
   ·have aG:Hid (fitB R=false):=lH (by simpa using hr)
    clear hk hr hno
    go_enter Tryd.func31,Tryd.ntmps31
    go_wp2_with fail
    rw [←HW.out]
    clear HW
    refine (keyYes W0 ai ((RX.out.under ab).more ab.out.size) ((RY.out.under ab).more ab.out.size) az aB HK).mono ?_
    rintro e W1 ⟨rfl,hb⟩
    have ak:=lH (ab.out.trans (hb.mono ab.out.size))
    have aw:=lH (ai.out.under hb)
    have ac:=lH (ae.out.under hb (Holds.lt ae))
    have am:=lH ((ao.out.under hb).more hb.size)
    have av:=lH ((au.out.under hb).more hb.size)
    clear hb ab ai ae ao au
    have s0:=ac.out.cell 0
    have s1:=ac.out.cell 1
    go_wp2_with fail
    refine (fitV W1 am aG).mono ?_
    rintro e W2 ⟨rfl,hb⟩
    have ay:=lH (ak.out.trans (hb.mono ak.out.size))
    have aF:=lH (aw.out.under hb)
    have ax:=lH (ac.out.under hb (Holds.lt ac))
    have aE:=lH ((am.out.under hb).more hb.size)
    have aD:=lH ((av.out.under hb).more hb.size)
    clear hb ak aw ac am av
    clear s0 s1
    go_wp2_with fail
    go_ret
    exact ⟨rfl,ay⟩
  ·have HN:Hid (((nd:Int) != 32)=true):=lH (by rw [bne_iff_ne];omega)
   clear hk hn hno
   go_enter Tryd.func31,Tryd.ntmps31
   go_wp2_with fail
   rw [←HW.out]
   clear HW
   refine (keyYes W0 ai ((RX.out.under ab).more ab.out.size) ((RY.out.under ab).more ab.out.size) az aB HK).mono ?_
   rintro e W1 ⟨rfl,hb⟩
   have ak:=lH (ab.out.trans (hb.mono ab.out.size))
   have aw:=lH (ai.out.under hb)
   have ac:=lH (ae.out.under hb (Holds.lt ae))
   have am:=lH ((ao.out.under hb).more hb.size)
   have av:=lH ((au.out.under hb).more hb.size)
   clear hb ab ai ae ao au
   have h1:=HN.out
   go_wp2_with fail
   go_ret
   exact ⟨rfl,ak⟩
 ·have HK:Hid (keyB al ln en lx ly inf=false):=lH (by simpa using hk)
  clear hk hno
  go_enter Tryd.func31,Tryd.ntmps31
  go_wp2_with fail
  rw [←HW.out]
  clear HW
  refine (keyYes W0 ai ((RX.out.under ab).more ab.out.size) ((RY.out.under ab).more ab.out.size) az aB HK).mono ?_
  rintro e W1 ⟨rfl,hb⟩
  have ak:=lH (ab.out.trans (hb.mono ab.out.size))
  have aw:=lH (ai.out.under hb)
  have ac:=lH (ae.out.under hb (Holds.lt ae))
  have am:=lH ((ao.out.under hb).more hb.size)
  have av:=lH ((au.out.under hb).more hb.size)
  clear hb ab ai ae ao au
  go_wp2_with fail
  go_ret
  exact ⟨rfl,ak⟩
theorem verifyD_yes (w:World) (al en:Int) {An Ax Ay Ad Ar As:Option Addr} {cn cx cy cd cr cs:Nat} {ln lx ly dg R S:List Nat} {Q:Luc.Pt} (hQ:PtV Q w Ax cx lx Ay cy ly false) (hO:Luc.OnC Q) (hK:keyB al ln en lx ly false=true) (hD:Rd .u8 w w.heap.size Ad cd dg) (h32:dg.length=32) (ho:Oct dg.reverse) (hR:Rd .u32 w w.heap.size Ar cr R) (hRd:Dg R) (hRf:fitB R=true) (hS:Rd .u32 w w.heap.size As cs S) (hSd:Dg S) (hSf:fitB S=true) :
  Calls Tryd.prog 32 #[.agg #[.int .i64 al,.slice An ln.length cn,.int .u32 en,.slice Ax lx.length cx,.slice Ay ly.length cy,.bool false],.slice Ad 32 cd,.agg #[.slice Ar R.length cr,.slice As S.length cs]] w (VerP Q (val (numOf dg)) (val R) (val S) w):=by
 obtain ⟨w1,dD⟩:∃ W,W=w.alloc (.cells #[.int .i64 al,.slice An ln.length cn,.int .u32 en,.slice Ax lx.length cx,.slice Ay ly.length cy,.bool false] 45):=⟨_,rfl⟩
 have fD:w1.heap.size=w.heap.size+1:=by rw [dD];simp
 have dS:Below w.heap.size w w1:=by rw [dD];exact (Below.refl _ _).alloc (Nat.le_refl _) _
 obtain ⟨W0,dw⟩:∃ W,W=w1.alloc (.cells #[.slice Ar R.length cr,.slice As S.length cs] 48):=⟨_,rfl⟩
 have hb:Below w.heap.size w W0:=by rw [dw];exact dS.alloc dS.size _
 have eo:Hid (Holds W0 w.heap.size 45 #[.int .i64 al,.slice An ln.length cn,.int .u32 en,.slice Ax lx.length cx,.slice Ay ly.length cy,.bool false]):=lH (by rw [dw,dD];exact (Holds.fresh w _ _).alloc _)
 have dX:Hid (Holds W0 (w.heap.size+1) 48 #[.slice Ar R.length cr,.slice As S.length cs]):=lH (by rw [dw,←fD];exact Holds.fresh w1 _ _)
 have eF:=lH hb

 have fC:=lH ((hD.under hb).more hb.size)
 have fG:=lH ((hR.under hb).more hb.size)
 have fl:=lH ((hS.under hb).more hb.size)
 have cM:=lH (hQ.under hb)
 have HO:=lH hO
 have HK:=lH hK
 have dT:=lH h32
 have eX:=lH ho
 have dr:=lH hRd
 have dM:=lH hRf
 have fS:=lH hSd
 have eZ:=lH hSf
 have HW:=lH (dD ▸ dw:W0=(w.alloc (.cells #[.int .i64 al,.slice An ln.length cn,.int .u32 en,.slice Ax lx.length cx,.slice Ay ly.length cy,.bool false] 45)).alloc (.cells #[.slice Ar R.length cr,.slice As S.length cs] 48))
 clear dD fD dS dw hb hQ hO hK hD h32 ho hR hRd hRf hS hSd hSf
 go_enter Tryd.func32,Tryd.ntmps32
 go_wp2_with fail
 rw [←HW.out]
 clear HW
 refine (keyYes' W0 cM.out.x.rd cM.out.y.rd cM.out.x.dg cM.out.y.dg cM.out.x.s cM.out.y.s HK).mono ?_
 rintro e W1 ⟨rfl,hb⟩
 have ev:=lH (eF.out.trans (hb.mono eF.out.size))
 have ep:=lH (eo.out.under hb (Holds.lt eo))
 have dC:=lH (dX.out.under hb (Holds.lt dX))
 have fw:=lH ((fC.out.under hb).more hb.size)
 have eL:=lH ((fG.out.under hb).more hb.size)
 have fk:=lH ((fl.out.under hb).more hb.size)
 have fm:=lH (cM.out.under hb)
 clear hb eF eo dX fC fG fl cM
 have s0:=dC.out.cell 0
 have s1:=dC.out.cell 1
 go_wp2_with fail
 refine (fitV' W1 eL dM).mono ?_
 rintro e W2 ⟨rfl,hb⟩
 have ez:=lH (ev.out.trans (hb.mono ev.out.size))
 have d_:=lH (ep.out.under hb (Holds.lt ep))
 have dA:=lH (dC.out.under hb (Holds.lt dC))
 have eU:=lH ((fw.out.under hb).more hb.size)
 have fE:=lH ((eL.out.under hb).more hb.size)
 have eD:=lH ((fk.out.under hb).more hb.size)
 have fB:=lH (fm.out.under hb)
 clear hb ev ep dC fw eL fk fm
 clear s0 s1
 have s0:=dA.out.cell 0
 have s1:=dA.out.cell 1
 go_wp2_with fail
 refine (fitV' W2 eD eZ).mono ?_
 rintro e W3 ⟨rfl,hb⟩
 have ec:=lH (ez.out.trans (hb.mono ez.out.size))
 have eR:=lH (d_.out.under hb (Holds.lt d_))
 have dV:=lH (dA.out.under hb (Holds.lt dA))
 have fp:=lH ((eU.out.under hb).more hb.size)
 have fh:=lH ((fE.out.under hb).more hb.size)
 have fM:=lH ((eD.out.under hb).more hb.size)
 have fj:=lH (fB.out.under hb)
 clear hb ez d_ dA eU fE eD fB
 clear s0 s1
 go_wp2_with fail
 refine (refN_any W3).mono ?_
 rintro e W4 ⟨gn,fW,rfl,hN,hb⟩
 have eB:=lH (ec.out.trans (hb.mono ec.out.size))
 have eO:=lH (eR.out.under hb (Holds.lt eR))
 have dE:=lH (dV.out.under hb (Holds.lt dV))
 have eY:=lH ((fp.out.under hb).more hb.size)
 have fa:=lH ((fh.out.under hb).more hb.size)
 have em:=lH ((fM.out.under hb).more hb.size)
 have fI:=lH (fj.out.under hb)
 clear hb ec eR dV fp fh fM fj
 have ei:=lH (Eight.rd hN rfl)
 clear hN fW
 have s0:=dE.out.cell 0
 have s1:=dE.out.cell 1
 go_wp2_with fail
 refine (invN' W4 em ei fS eZ).mono ?_
 rintro e W5 ⟨x,eA,eT,Aw,cw,lw,rfl,hn,hr,hb⟩
 have ed:=lH (eB.out.trans (hb.mono eB.out.size))
 have dY:=lH (eO.out.under hb (Holds.lt eO))
 have ee:=lH (dE.out.under hb (Holds.lt dE))
 have er:=lH ((eY.out.under hb).more hb.size)
 have fc:=lH ((fa.out.under hb).more hb.size)
 have fb:=lH ((em.out.under hb).more hb.size)
 have fL:=lH (fI.out.under hb)
 have fK:=lH ((ei.out.under hb).more hb.size)
 clear hb eB eO dE eY fa em fI ei
 clear s0 s1
 have dL:=lH eA
 have e8:=lH eT
 have dl:Hid (NumIs lw (x % val lN)):=lH (by rw [Nat.mod_eq_of_lt eA];exact hn)
 have fs:=lH hr
 clear eA eT hn hr
 go_wp2_with fail
 refine (of32' W5 er dT eX).mono ?_
 rintro e W6 ⟨Az,cz,rfl,hz,hb⟩
 have eg:=lH (ed.out.trans (hb.mono ed.out.size))
 have eP:=lH (dY.out.under hb (Holds.lt dY))
 have ew:=lH (ee.out.under hb (Holds.lt ee))
 have fq:=lH ((er.out.under hb).more hb.size)
 have e_:=lH ((fc.out.under hb).more hb.size)
 have ft:=lH ((fb.out.under hb).more hb.size)
 have eS:=lH (fL.out.under hb)
 have eJ:=lH ((fK.out.under hb).more hb.size)
 have eK:=lH ((fs.out.under hb).more hb.size)
 clear hb ed dY ee er fc fb fL fK fs
 have dQ:=lH hz
 clear hz
 go_wp2_with fail
 refine (mulQ' W6 dQ eK eJ (numOf_dg eX) dl.out.1 (by have:=numOf_length dg;omega) (by have:=num_len8N dl.out;omega)).mono ?_
 rintro e W7 ⟨Au,cu,lu,rfl,hn,hr,hb⟩
 have d8:=lH (eg.out.trans (hb.mono eg.out.size))
 have eE:=lH (eP.out.under hb (Holds.lt eP))
 have dv:=lH (ew.out.under hb (Holds.lt ew))
 have eW:=lH ((fq.out.under hb).more hb.size)
 have d6:=lH ((e_.out.under hb).more hb.size)
 have eV:=lH ((ft.out.under hb).more hb.size)
 have fH:=lH (eS.out.under hb)
 have dP:=lH ((eJ.out.under hb).more hb.size)
 have d9:=lH ((eK.out.under hb).more hb.size)
 have fF:=lH ((dQ.out.under hb).more hb.size)
 clear hb eg eP ew fq e_ ft eS eJ eK dQ
 rw [dl.out.2.2,Nat.mod_eq_of_lt dL.out] at hn
 have eM:=lH hn
 have e9:=lH hr
 clear hn hr
 have s0:=dv.out.cell 0
 have s1:=dv.out.cell 1
 go_wp2_with fail
 refine (mulQ' W7 d6 d9 dP dr dl.out.1 (by have:=(fit_facts dM dr).2.2.2;omega) (by have:=num_len8N dl.out;omega)).mono ?_
 rintro e W8 ⟨Av,cv,lv,rfl,hn,hr,hb⟩
 have d7:=lH (d8.out.trans (hb.mono d8.out.size))
 have eQ:=lH (eE.out.under hb (Holds.lt eE))
 have eh:=lH (dv.out.under hb (Holds.lt dv))
 have fR:=lH ((eW.out.under hb).more hb.size)
 have fv:=lH ((d6.out.under hb).more hb.size)
 have fV:=lH ((eV.out.under hb).more hb.size)
 have dG:=lH (fH.out.under hb)
 have fi:=lH ((dP.out.under hb).more hb.size)
 have fO:=lH ((d9.out.under hb).more hb.size)
 have fU:=lH ((fF.out.under hb).more hb.size)
 have dN:=lH ((e9.out.under hb).more hb.size)
 clear hb d8 eE dv eW d6 eV fH dP d9 fF e9
 clear s0 s1
 rw [dl.out.2.2,Nat.mod_eq_of_lt dL.out] at hn
 have dK:=lH hn
 have dt:=lH hr
 clear hn hr
 clear fR fV fO fU
 go_wp2_with fail
 obtain ⟨QQ,HQ⟩:∃ Q_:Exit→Act→World→Prop,Hid (Q_=fun e a W=>e = .normal∧∃ (gs:Nat) (Aj:Option Addr) (cj:Nat) (aj:List Nat) (Bj:Option Addr) (dj:Nat) (bj:List Nat) (ij:Bool),a.tmps=#[tG a 0,.slice Ad 32 cd,tG a 2,.pointer (some ⟨w.heap.size,0,none⟩),tG a 4,.pointer (some ⟨w.heap.size+1,0,none⟩),.bool false,.slice (some ⟨gn,0,none⟩) 8 8,tG a 8,tG a 9,tG a 10,tG a 11,tG a 12,tG a 13,.pointer (some ⟨gs,0,none⟩),tG a 15,tG a 16,tG a 17,tG a 18,tG a 19,tG a 20,tG a 21,tG a 22,tG a 23,tG a 24,tG a 25,tG a 26,tG a 27,tG a 28,tG a 29,tG a 30,tG a 31,tG a 32,tG a 33,tG a 34,tG a 35,tG a 36,tG a 37,tG a 38,tG a 39,tG a 40,tG a 41,tG a 42,tG a 43,tG a 44,tG a 45,tG a 46,tG a 47,tG a 48,tG a 49,tG a 50,tG a 51,tG a 52,tG a 53,tG a 54,tG a 55,tG a 56,tG a 57,tG a 58,tG a 59,tG a 60,tG a 61,tG a 62,tG a 63,tG a 64,tG a 65,tG a 66,tG a 67,tG a 68,tG a 69,tG a 70,tG a 71,tG a 72,tG a 73,tG a 74,tG a 75,tG a 76,tG a 77,tG a 78,tG a 79,tG a 80,tG a 81,tG a 82]∧a.defers=[]∧Below W8.heap.size W8 W∧PtV (Luc.add (Luc.nmul gP (val (numOf dg)*x % val lN)) (Luc.nmul Q (val R*x % val lN))) W Aj cj aj Bj dj bj ij∧Holds W gs 26 #[.slice Aj aj.length cj,.slice Bj bj.length dj,.bool ij]):=⟨_,lH rfl⟩
 refine Code.wp_mono (Q:=QQ) ?_ ?_
 rotate_left 1
 ·refine wp_region_noPanic ?_
  refine wp_region_held_drew (S:=fun W=>Below W8.heap.size W8 W) (by kernel_rfl) ((Below.refl _ W8).drew) (fun hHeld=>?_)
  obtain ⟨V,hV⟩:∃ W,W=W8.drew:=⟨_,rfl⟩
  rw [←hV]
  have cL:Hid (Below W8.heap.size W8 V):=lH (by rw [hV];exact (Below.refl _ W8).drew)
  replace hHeld:(fun W=>Below W8.heap.size W8 W) V:=cL.out
  clear hV
  refine tz 0 ⟨some 61,.move (.tmp 10),24,_,_,none⟩ rfl hHeld ?_
  try simp only [aP]
  refine tz 3 ⟨some 64,.move (.tmp 12),24,_,_,none⟩ rfl hHeld ?_
  try simp only [aP]
  refine tz 4 ⟨some 65,.fieldAddr 45 (.tmp 3) 3,0,_,_,none⟩ rfl hHeld ?_
  try simp only [aP]
  refine tk 5 ⟨some 66,.load 26 (.tmp 65),26,_,_,none⟩ ?_ rfl ?_ hHeld ?_
  rotate_left 1
  ·(intro W hW;have eH:=eQ.out.under hW (Holds.lt eQ.out);have k3:=eH.cell 3;have k4:=eH.cell 4;have k5:=eH.cell 5;(try dsimp only at hW);go_simp;try with_reducible rfl)
  try simp only [aP]
  refine wpAnyH_ready (rs:=[1,8]) (by kernel_rfl) (by simp) ?_
  refine AllReadyH.cons (o:=⟨some 62,.call ⟨ .value (.func 13),#[],#[]⟩,26,_,_,none⟩) rfl (fun K hK=>?_) ?_
  go_simp
  refine (refGP V).mono ?_
  rintro e V1 ⟨Ah,ch,ah,Bh,dh,bh,ih,rfl,hq,ab⟩
  have aO:=lH (cL.out.trans (ab.mono cL.out.size))
  have cJ:=lH hq
  clear ab hq
  clear cL
  go_simp
  refine hK.out _ _ (aO.out) (fun hHeld=>?_)
  clear hK K
  try simp only [aP]
  refine wpAnyH_ready (rs:=[2,8]) (by kernel_rfl) (by simp) ?_
  refine AllReadyH.cons (o:=⟨some 63,.call ⟨ .value (.func 11),#[.tmp 61,.tmp 62],#[24,26]⟩,26,_,_,none⟩) rfl (fun K hK=>?_) ?_
  go_simp
  refine (timesU' V1 ((dN.out.under aO).more aO.out.size) eM cJ gP_on).mono ?_
  rintro e dH ⟨Ap,cp,ap,Bp,dp,bp,ip,rfl,hq,ab⟩
  have ao:=lH (aO.out.trans (ab.mono aO.out.size))
  have bE:=lH hq
  clear ab hq
  clear aO cJ
  go_simp
  refine hK.out _ _ (ao.out) (fun hHeld=>?_)
  clear hK K
  try simp only [aP]
  refine wpAnyH_ready (rs:=[6,8]) (by kernel_rfl) (by simp) ?_
  refine AllReadyH.cons (o:=⟨some 67,.call ⟨ .value (.func 11),#[.tmp 64,.tmp 66],#[24,26]⟩,26,_,_,none⟩) rfl (fun K hK=>?_) ?_
  go_simp
  refine (timesU' dH ((dt.out.under ao).more ao.out.size) dK (dG.out.under ao) HO).mono ?_
  rintro e cC ⟨Aq,cq,aq,Bq,dq,bq,iq,rfl,hq,ab⟩
  have au:=lH (ao.out.trans (ab.mono ao.out.size))
  have a6:=lH hq
  have bd:=lH (bE.out.under ab)
  clear ab hq
  clear ao bE
  go_simp
  refine hK.out _ _ (au.out) (fun hHeld=>?_)
  clear hK K
  try simp only [aP]
  refine wpAnyH_ready (rs:=[7,8]) (by kernel_rfl) (by simp) ?_
  refine AllReadyH.cons (o:=⟨some 68,.call ⟨ .value (.func 17),#[.tmp 63,.tmp 67],#[26,26]⟩,26,_,_,none⟩) rfl (fun K hK=>?_) ?_
  go_simp
  refine (addRP cC bd a6 (Luc.nmul_on gP_on _) (Luc.nmul_on HO _)).mono ?_
  rintro e bB ⟨Aj,cj,aj,Bj,dj,bj,ij,rfl,hq,ab⟩
  have aC:=lH (au.out.trans (ab.mono au.out.size))
  have bL:=lH hq
  clear ab hq
  clear au bd a6
  go_simp
  refine hK.out _ _ (aC.out) (fun hHeld=>?_)
  clear hK K
  try simp only [aP]
  refine rdy 8 ⟨some 14,.alloc 26,0,_,_,none⟩ rfl (fun K hK=>?_)
  obtain ⟨bx,hN⟩:∃ W,W=bB.alloc (.cells #[.slice none 0 0,.slice none 0 0,.bool false] 26):=⟨_,rfl⟩
  go_simp
  rw [←hN]
  obtain ⟨gs,hg⟩:∃ g,g=bB.heap.size:=⟨_,rfl⟩
  rw [←hg]
  have ab:Below bB.heap.size bB bx:=by rw [hN];exact (Below.refl _ _).alloc (Nat.le_refl _) _
  have ac:Hid (Holds bx gs 26 #[.slice none 0 0,.slice none 0 0,.bool false]):=lH (by rw [hN,hg];exact Holds.fresh _ _ _)
  have bn:Hid (W8.heap.size≤gs):=lH (by rw [hg];exact aC.out.size)
  have aL:=lH (aC.out.trans (ab.mono aC.out.size))
  have aB:=lH (bL.out.under ab)
  clear hN hg ab
  clear aC bL
  refine hK.out _ _ (aL.out) (fun hHeld=>?_)
  clear hK K
  try simp only [aP]
  refine rdy 9 ⟨none,.store 26 (.tmp 14) (.tmp 68),0,_,_,none⟩ rfl (fun K hK=>?_)
  have z0:=ac.out.cell 0
  have o0:=ac.out.open_ 0
  have z1:=ac.out.cell 1
  have o1:=ac.out.open_ 1
  have z2:=ac.out.cell 2
  have o2:=ac.out.open_ 2
  obtain ⟨bf,hN⟩:∃ W,W=(((bx.setCell ⟨gs,0,none⟩ (.slice Aj aj.length cj)).setCell ⟨gs,1,none⟩ (.slice Bj bj.length dj)).setCell ⟨gs,2,none⟩ (.bool ij)):=⟨_,rfl⟩
  go_simp
  rw [←hN]
  have bX:Hid (Holds bf gs 26 #[.slice Aj aj.length cj,.slice Bj bj.length dj,.bool ij]):=lH (by rw [hN];exact set3 ac _ _ _)
  have aQ:Hid (Below W8.heap.size W8 bf):=lH (by rw [hN];exact below3 aL bn _ _ _)
  have bS:Hid (PtV (Luc.add (Luc.nmul gP (val (numOf dg)*x % val lN)) (Luc.nmul Q (val R*x % val lN))) bf Aj cj aj Bj dj bj ij):=lH ⟨aB.out.inf,by rw [hN];exact aB.out.x.store3 ac no_numsP _ _ _,by rw [hN];exact aB.out.y.store3 ac no_numsP _ _ _⟩
  clear hN z0 z1 z2 o0 o1 o2
  clear aL aB ac bn
  refine hK.out _ _ (aQ.out) (fun hHeld=>?_)
  clear hK K
  try simp only [aP]
  refine dn ?_
  rw [HQ.out]
  exact ⟨rfl,gs,Aj,cj,aj,Bj,dj,bj,ij,rfl,rfl,aQ,bS,bX⟩
  refine AllReadyH.cons (o:=⟨some 14,.alloc 26,0,_,_,none⟩) rfl (fun K hK=>?_) AllReadyH.nil
  obtain ⟨b_,hN⟩:∃ W,W=cC.alloc (.cells #[.slice none 0 0,.slice none 0 0,.bool false] 26):=⟨_,rfl⟩
  go_simp
  rw [←hN]
  obtain ⟨gs,hg⟩:∃ g,g=cC.heap.size:=⟨_,rfl⟩
  rw [←hg]
  have ab:Below cC.heap.size cC b_:=by rw [hN];exact (Below.refl _ _).alloc (Nat.le_refl _) _
  have a_:Hid (Holds b_ gs 26 #[.slice none 0 0,.slice none 0 0,.bool false]):=lH (by rw [hN,hg];exact Holds.fresh _ _ _)
  have bD:Hid (W8.heap.size≤gs):=lH (by rw [hg];exact au.out.size)
  have aG:=lH (au.out.trans (ab.mono au.out.size))
  have bG:=lH (bd.out.under ab)
  have bA:=lH (a6.out.under ab)
  clear hN hg ab
  clear au bd a6
  refine hK.out _ _ (aG.out) (fun hHeld=>?_)
  clear hK K
  try simp only [aP]
  refine rdy 7 ⟨some 68,.call ⟨ .value (.func 17),#[.tmp 63,.tmp 67],#[26,26]⟩,26,_,_,none⟩ rfl (fun K hK=>?_)
  go_simp
  refine (addRP b_ bG bA (Luc.nmul_on gP_on _) (Luc.nmul_on HO _)).mono ?_
  rintro e dc ⟨Aj,cj,aj,Bj,dj,bj,ij,rfl,hq,ab⟩
  have aN:=lH (aG.out.trans (ab.mono aG.out.size))
  have aD:=lH hq
  have ai:=lH (a_.out.under ab (Holds.lt a_))
  have bt:=lH bD.out
  clear ab hq
  clear aG bG bA a_ bD
  go_simp
  refine hK.out _ _ (aN.out) (fun hHeld=>?_)
  clear hK K
  try simp only [aP]
  refine rdy 9 ⟨none,.store 26 (.tmp 14) (.tmp 68),0,_,_,none⟩ rfl (fun K hK=>?_)
  have z0:=ai.out.cell 0
  have o0:=ai.out.open_ 0
  have z1:=ai.out.cell 1
  have o1:=ai.out.open_ 1
  have z2:=ai.out.cell 2
  have o2:=ai.out.open_ 2
  obtain ⟨a9,hN⟩:∃ W,W=(((dc.setCell ⟨gs,0,none⟩ (.slice Aj aj.length cj)).setCell ⟨gs,1,none⟩ (.slice Bj bj.length dj)).setCell ⟨gs,2,none⟩ (.bool ij)):=⟨_,rfl⟩
  go_simp
  rw [←hN]
  have bR:Hid (Holds a9 gs 26 #[.slice Aj aj.length cj,.slice Bj bj.length dj,.bool ij]):=lH (by rw [hN];exact set3 ai _ _ _)
  have aV:Hid (Below W8.heap.size W8 a9):=lH (by rw [hN];exact below3 aN bt _ _ _)
  have bP:Hid (PtV (Luc.add (Luc.nmul gP (val (numOf dg)*x % val lN)) (Luc.nmul Q (val R*x % val lN))) a9 Aj cj aj Bj dj bj ij):=lH ⟨aD.out.inf,by rw [hN];exact aD.out.x.store3 ai no_numsP _ _ _,by rw [hN];exact aD.out.y.store3 ai no_numsP _ _ _⟩
  clear hN z0 z1 z2 o0 o1 o2
  clear aN aD ai bt
  refine hK.out _ _ (aV.out) (fun hHeld=>?_)
  clear hK K
  try simp only [aP]
  refine dn ?_
  rw [HQ.out]
  exact ⟨rfl,gs,Aj,cj,aj,Bj,dj,bj,ij,rfl,rfl,aV,bP,bR⟩
  refine AllReadyH.cons (o:=⟨some 14,.alloc 26,0,_,_,none⟩) rfl (fun K hK=>?_) AllReadyH.nil
  obtain ⟨cV,hN⟩:∃ W,W=dH.alloc (.cells #[.slice none 0 0,.slice none 0 0,.bool false] 26):=⟨_,rfl⟩
  go_simp
  rw [←hN]
  obtain ⟨gs,hg⟩:∃ g,g=dH.heap.size:=⟨_,rfl⟩
  rw [←hg]
  have ab:Below dH.heap.size dH cV:=by rw [hN];exact (Below.refl _ _).alloc (Nat.le_refl _) _
  have bv:Hid (Holds cV gs 26 #[.slice none 0 0,.slice none 0 0,.bool false]):=lH (by rw [hN,hg];exact Holds.fresh _ _ _)
  have cE:Hid (W8.heap.size≤gs):=lH (by rw [hg];exact ao.out.size)
  have av:=lH (ao.out.trans (ab.mono ao.out.size))
  have cB:=lH (bE.out.under ab)
  clear hN hg ab
  clear ao bE
  refine hK.out _ _ (av.out) (fun hHeld=>?_)
  clear hK K
  try simp only [aP]
  refine rdy 6 ⟨some 67,.call ⟨ .value (.func 11),#[.tmp 64,.tmp 66],#[24,26]⟩,26,_,_,none⟩ rfl (fun K hK=>?_)
  go_simp
  refine (timesU' cV ((dt.out.under av).more av.out.size) dK (dG.out.under av) HO).mono ?_
  rintro e dB ⟨Aq,cq,aq,Bq,dq,bq,iq,rfl,hq,ab⟩
  have aH:=lH (av.out.trans (ab.mono av.out.size))
  have bK:=lH hq
  have bI:=lH (cB.out.under ab)
  have bc:=lH (bv.out.under ab (Holds.lt bv))
  have bH:=lH cE.out
  clear ab hq
  clear av cB bv cE
  go_simp
  refine hK.out _ _ (aH.out) (fun hHeld=>?_)
  clear hK K
  try simp only [aP]
  refine rdy 7 ⟨some 68,.call ⟨ .value (.func 17),#[.tmp 63,.tmp 67],#[26,26]⟩,26,_,_,none⟩ rfl (fun K hK=>?_)
  go_simp
  refine (addRP dB bI bK (Luc.nmul_on gP_on _) (Luc.nmul_on HO _)).mono ?_
  rintro e di ⟨Aj,cj,aj,Bj,dj,bj,ij,rfl,hq,ab⟩
  have aJ:=lH (aH.out.trans (ab.mono aH.out.size))
  have ay:=lH hq
  have am:=lH (bc.out.under ab (Holds.lt bc))
  have bm:=lH bH.out
  clear ab hq
  clear aH bI bK bc bH
  go_simp
  refine hK.out _ _ (aJ.out) (fun hHeld=>?_)
  clear hK K
  try simp only [aP]
  refine rdy 9 ⟨none,.store 26 (.tmp 14) (.tmp 68),0,_,_,none⟩ rfl (fun K hK=>?_)
  have z0:=am.out.cell 0
  have o0:=am.out.open_ 0
  have z1:=am.out.cell 1
  have o1:=am.out.open_ 1
  have z2:=am.out.cell 2
  have o2:=am.out.open_ 2
  obtain ⟨bl,hN⟩:∃ W,W=(((di.setCell ⟨gs,0,none⟩ (.slice Aj aj.length cj)).setCell ⟨gs,1,none⟩ (.slice Bj bj.length dj)).setCell ⟨gs,2,none⟩ (.bool ij)):=⟨_,rfl⟩
  go_simp
  rw [←hN]
  have bW:Hid (Holds bl gs 26 #[.slice Aj aj.length cj,.slice Bj bj.length dj,.bool ij]):=lH (by rw [hN];exact set3 am _ _ _)
  have aW:Hid (Below W8.heap.size W8 bl):=lH (by rw [hN];exact below3 aJ bm _ _ _)
  have bO:Hid (PtV (Luc.add (Luc.nmul gP (val (numOf dg)*x % val lN)) (Luc.nmul Q (val R*x % val lN))) bl Aj cj aj Bj dj bj ij):=lH ⟨ay.out.inf,by rw [hN];exact ay.out.x.store3 am no_numsP _ _ _,by rw [hN];exact ay.out.y.store3 am no_numsP _ _ _⟩
  clear hN z0 z1 z2 o0 o1 o2
  clear aJ ay am bm
  refine hK.out _ _ (aW.out) (fun hHeld=>?_)
  clear hK K
  try simp only [aP]
  refine dn ?_
  rw [HQ.out]
  exact ⟨rfl,gs,Aj,cj,aj,Bj,dj,bj,ij,rfl,rfl,aW,bO,bW⟩
  refine AllReadyH.cons (o:=⟨some 14,.alloc 26,0,_,_,none⟩) rfl (fun K hK=>?_) AllReadyH.nil
  obtain ⟨dW,hN⟩:∃ W,W=V1.alloc (.cells #[.slice none 0 0,.slice none 0 0,.bool false] 26):=⟨_,rfl⟩
  go_simp
  rw [←hN]
  obtain ⟨gs,hg⟩:∃ g,g=V1.heap.size:=⟨_,rfl⟩
  rw [←hg]
  have ab:Below V1.heap.size V1 dW:=by rw [hN];exact (Below.refl _ _).alloc (Nat.le_refl _) _
  have cl:Hid (Holds dW gs 26 #[.slice none 0 0,.slice none 0 0,.bool false]):=lH (by rw [hN,hg];exact Holds.fresh _ _ _)
  have cT:Hid (W8.heap.size≤gs):=lH (by rw [hg];exact aO.out.size)
  have aT:=lH (aO.out.trans (ab.mono aO.out.size))
  have cO:=lH (cJ.out.under ab)
  clear hN hg ab
  clear aO cJ
  refine hK.out _ _ (aT.out) (fun hHeld=>?_)
  clear hK K
  try simp only [aP]
  refine rdy 2 ⟨some 63,.call ⟨ .value (.func 11),#[.tmp 61,.tmp 62],#[24,26]⟩,26,_,_,none⟩ rfl (fun K hK=>?_)
  go_simp
  refine (timesU' dW ((dN.out.under aT).more aT.out.size) eM cO gP_on).mono ?_
  rintro e dU ⟨Ap,cp,ap,Bp,dp,bp,ip,rfl,hq,ab⟩
  have ax:=lH (aT.out.trans (ab.mono aT.out.size))
  have cD:=lH hq
  have bu:=lH (cl.out.under ab (Holds.lt cl))
  have bY:=lH cT.out
  clear ab hq
  clear aT cO cl cT
  go_simp
  refine hK.out _ _ (ax.out) (fun hHeld=>?_)
  clear hK K
  try simp only [aP]
  refine rdy 6 ⟨some 67,.call ⟨ .value (.func 11),#[.tmp 64,.tmp 66],#[24,26]⟩,26,_,_,none⟩ rfl (fun K hK=>?_)
  go_simp
  refine (timesU' dU ((dt.out.under ax).more ax.out.size) dK (dG.out.under ax) HO).mono ?_
  rintro e ds ⟨Aq,cq,aq,Bq,dq,bq,iq,rfl,hq,ab⟩
  have aF:=lH (ax.out.trans (ab.mono ax.out.size))
  have bz:=lH hq
  have bN:=lH (cD.out.under ab)
  have bk:=lH (bu.out.under ab (Holds.lt bu))
  have bC:=lH bY.out
  clear ab hq
  clear ax cD bu bY
  go_simp
  refine hK.out _ _ (aF.out) (fun hHeld=>?_)
  clear hK K
  try simp only [aP]
  refine rdy 7 ⟨some 68,.call ⟨ .value (.func 17),#[.tmp 63,.tmp 67],#[26,26]⟩,26,_,_,none⟩ rfl (fun K hK=>?_)
  go_simp
  refine (addRP ds bN bz (Luc.nmul_on gP_on _) (Luc.nmul_on HO _)).mono ?_
  rintro e cU ⟨Aj,cj,aj,Bj,dj,bj,ij,rfl,hq,ab⟩
  have aK:=lH (aF.out.trans (ab.mono aF.out.size))
  have aA:=lH hq
  have ae:=lH (bk.out.under ab (Holds.lt bk))
  have bs:=lH bC.out
  clear ab hq
  clear aF bN bz bk bC
  go_simp
  refine hK.out _ _ (aK.out) (fun hHeld=>?_)
  clear hK K
  try simp only [aP]
  refine rdy 9 ⟨none,.store 26 (.tmp 14) (.tmp 68),0,_,_,none⟩ rfl (fun K hK=>?_)
  have z0:=ae.out.cell 0
  have o0:=ae.out.open_ 0
  have z1:=ae.out.cell 1
  have o1:=ae.out.open_ 1
  have z2:=ae.out.cell 2
  have o2:=ae.out.open_ 2
  obtain ⟨ba,hN⟩:∃ W,W=(((cU.setCell ⟨gs,0,none⟩ (.slice Aj aj.length cj)).setCell ⟨gs,1,none⟩ (.slice Bj bj.length dj)).setCell ⟨gs,2,none⟩ (.bool ij)):=⟨_,rfl⟩
  go_simp
  rw [←hN]
  have bT:Hid (Holds ba gs 26 #[.slice Aj aj.length cj,.slice Bj bj.length dj,.bool ij]):=lH (by rw [hN];exact set3 ae _ _ _)
  have aU:Hid (Below W8.heap.size W8 ba):=lH (by rw [hN];exact below3 aK bs _ _ _)
  have bV:Hid (PtV (Luc.add (Luc.nmul gP (val (numOf dg)*x % val lN)) (Luc.nmul Q (val R*x % val lN))) ba Aj cj aj Bj dj bj ij):=lH ⟨aA.out.inf,by rw [hN];exact aA.out.x.store3 ae no_numsP _ _ _,by rw [hN];exact aA.out.y.store3 ae no_numsP _ _ _⟩
  clear hN z0 z1 z2 o0 o1 o2
  clear aK aA ae bs
  refine hK.out _ _ (aU.out) (fun hHeld=>?_)
  clear hK K
  try simp only [aP]
  refine dn ?_
  rw [HQ.out]
  exact ⟨rfl,gs,Aj,cj,aj,Bj,dj,bj,ij,rfl,rfl,aU,bV,bT⟩
  refine AllReadyH.cons (o:=⟨some 14,.alloc 26,0,_,_,none⟩) rfl (fun K hK=>?_) AllReadyH.nil
  obtain ⟨V8,hN⟩:∃ W,W=V.alloc (.cells #[.slice none 0 0,.slice none 0 0,.bool false] 26):=⟨_,rfl⟩
  go_simp
  rw [←hN]
  obtain ⟨gs,hg⟩:∃ g,g=V.heap.size:=⟨_,rfl⟩
  rw [←hg]
  have ab:Below V.heap.size V V8:=by rw [hN];exact (Below.refl _ _).alloc (Nat.le_refl _) _
  have c_:Hid (Holds V8 gs 26 #[.slice none 0 0,.slice none 0 0,.bool false]):=lH (by rw [hN,hg];exact Holds.fresh _ _ _)
  have dF:Hid (W8.heap.size≤gs):=lH (by rw [hg];exact cL.out.size)
  have cK:=lH (cL.out.trans (ab.mono cL.out.size))
  clear hN hg ab
  clear cL
  refine hK.out _ _ (cK.out) (fun hHeld=>?_)
  clear hK K
  try simp only [aP]
  refine rdy 1 ⟨some 62,.call ⟨ .value (.func 13),#[],#[]⟩,26,_,_,none⟩ rfl (fun K hK=>?_)
  go_simp
  refine (refGP V8).mono ?_
  rintro e fP ⟨Ah,ch,ah,Bh,dh,bh,ih,rfl,hq,ab⟩
  have aX:=lH (cK.out.trans (ab.mono cK.out.size))
  have cN:=lH hq
  have cF:=lH (c_.out.under ab (Holds.lt c_))
  have cS:=lH dF.out
  clear ab hq
  clear cK  c_ dF
  go_simp
  refine hK.out _ _ (aX.out) (fun hHeld=>?_)
  clear hK K
  try simp only [aP]
  refine rdy 2 ⟨some 63,.call ⟨ .value (.func 11),#[.tmp 61,.tmp 62],#[24,26]⟩,26,_,_,none⟩ rfl (fun K hK=>?_)
  go_simp
  refine (timesU' fP ((dN.out.under aX).more aX.out.size) eM cN gP_on).mono ?_
  rintro e eI ⟨Ap,cp,ap,Bp,dp,bp,ip,rfl,hq,ab⟩
  have aw:=lH (aX.out.trans (ab.mono aX.out.size))
  have bZ:=lH hq
  have bw:=lH (cF.out.under ab (Holds.lt cF))
  have cA:=lH cS.out
  clear ab hq
  clear aX cN cF cS
  go_simp
  refine hK.out _ _ (aw.out) (fun hHeld=>?_)
  clear hK K
  try simp only [aP]
  refine rdy 6 ⟨some 67,.call ⟨ .value (.func 11),#[.tmp 64,.tmp 66],#[24,26]⟩,26,_,_,none⟩ rfl (fun K hK=>?_)
  go_simp
  refine (timesU' eI ((dt.out.under aw).more aw.out.size) dK (dG.out.under aw) HO).mono ?_
  rintro e du ⟨Aq,cq,aq,Bq,dq,bq,iq,rfl,hq,ab⟩
  have aE:=lH (aw.out.trans (ab.mono aw.out.size))
  have bF:=lH hq
  have bM:=lH (bZ.out.under ab)
  have aY:=lH (bw.out.under ab (Holds.lt bw))
  have bJ:=lH cA.out
  clear ab hq
  clear aw bZ bw cA
  go_simp
  refine hK.out _ _ (aE.out) (fun hHeld=>?_)
  clear hK K
  try simp only [aP]
  refine rdy 7 ⟨some 68,.call ⟨ .value (.func 17),#[.tmp 63,.tmp 67],#[26,26]⟩,26,_,_,none⟩ rfl (fun K hK=>?_)
  go_simp
  refine (addRP du bM bF (Luc.nmul_on gP_on _) (Luc.nmul_on HO _)).mono ?_
  rintro e cW ⟨Aj,cj,aj,Bj,dj,bj,ij,rfl,hq,ab⟩
  have aM:=lH (aE.out.trans (ab.mono aE.out.size))
  have az:=lH hq
  have ak:=lH (aY.out.under ab (Holds.lt aY))
  have br:=lH bJ.out
  clear ab hq
  clear aE bM bF aY bJ
  go_simp
  refine hK.out _ _ (aM.out) (fun hHeld=>?_)
  clear hK K
  try simp only [aP]
  refine rdy 9 ⟨none,.store 26 (.tmp 14) (.tmp 68),0,_,_,none⟩ rfl (fun K hK=>?_)
  have z0:=ak.out.cell 0
  have o0:=ak.out.open_ 0
  have z1:=ak.out.cell 1
  have o1:=ak.out.open_ 1
  have z2:=ak.out.cell 2
  have o2:=ak.out.open_ 2
  obtain ⟨a8,hN⟩:∃ W,W=(((cW.setCell ⟨gs,0,none⟩ (.slice Aj aj.length cj)).setCell ⟨gs,1,none⟩ (.slice Bj bj.length dj)).setCell ⟨gs,2,none⟩ (.bool ij)):=⟨_,rfl⟩
  go_simp
  rw [←hN]
  have bQ:Hid (Holds a8 gs 26 #[.slice Aj aj.length cj,.slice Bj bj.length dj,.bool ij]):=lH (by rw [hN];exact set3 ak _ _ _)
  have aR:Hid (Below W8.heap.size W8 a8):=lH (by rw [hN];exact below3 aM br _ _ _)
  have bU:Hid (PtV (Luc.add (Luc.nmul gP (val (numOf dg)*x % val lN)) (Luc.nmul Q (val R*x % val lN))) a8 Aj cj aj Bj dj bj ij):=lH ⟨az.out.inf,by rw [hN];exact az.out.x.store3 ak no_numsP _ _ _,by rw [hN];exact az.out.y.store3 ak no_numsP _ _ _⟩
  clear hN z0 z1 z2 o0 o1 o2
  clear aM az ak br
  refine hK.out _ _ (aR.out) (fun hHeld=>?_)
  clear hK K
  try simp only [aP]
  refine dn ?_
  rw [HQ.out]
  exact ⟨rfl,gs,Aj,cj,aj,Bj,dj,bj,ij,rfl,rfl,aR,bU,bQ⟩
 rintro e a W9 hq
 rw [HQ.out] at hq
 obtain ⟨rfl,gs,Aj,cj,aj,Bj,dj,bj,ij,dR,fu,hb,hV,hG⟩:=hq
 clear HQ
 obtain ⟨tm,df⟩:=a
 dsimp only at dR fu
 subst fu
 obtain ⟨U,hU⟩:∃ U:Nat→Value,∀ i,tm.getD i undef=U i:=⟨_,fun _=>rfl⟩
 simp only [tG,hU] at dR
 clear hU
 subst dR
 clear dN dt dG eQ
 have dJ:=lH (d7.out.trans (hb.mono d7.out.size))
 have ef:=lH (eh.out.under hb (Holds.lt eh))
 have fg:=lH ((fv.out.under hb).more hb.size)
 have eN:=lH ((fi.out.under hb).more hb.size)
 clear hb d7 eh fv fi
 have cG:=lH hV
 have cH:=lH hG
 clear hV hG
 rcases HT:Luc.add (Luc.nmul gP (val (numOf dg)*x % val lN)) (Luc.nmul Q (val R*x % val lN)) with _ | ⟨xj,yj⟩
 ·rw [HT] at cG
  have HF:=lH (verF_none HT)
  clear HT
  obtain rfl:ij=true:=cG.out.inf
  have p0:=cH.out.cell 0
  have p1:=cH.out.cell 1
  have p2:=cH.out.cell 2
  go_wp2_with fail
  go_ret
  exact ⟨x,dL,e8,by rw [HF.out];rfl,dJ⟩
 ·rw [HT] at cG
  have HF:=lH (verF_some HT)
  clear HT
  obtain rfl:ij=false:=cG.out.inf
  have p0:=cH.out.cell 0
  have p1:=cH.out.cell 1
  have p2:=cH.out.cell 2
  go_wp2_with fail
  refine (restN' W9 cG.out.x.rd eN cG.out.x.dg cG.out.x.nrm (by have:=cG.out.x.le;omega)).mono ?_
  rintro e fT ⟨Ax3,cx3,dO,rfl,hn,hr,hb⟩
  have eC:=lH (dJ.out.trans (hb.mono dJ.out.size))
  have dI:=lH (ef.out.under hb (Holds.lt ef))
  have dZ:=lH ((fg.out.under hb).more hb.size)
  have HN10:=lH ((eN.out.under hb).more hb.size)
  have eG:=lH (cG.out.under hb)
  have PB10:=lH (cH.out.under hb (Holds.lt cH))
  clear hb dJ ef fg eN cG cH
  clear p0 p1 p2
  have fJ:=lH hn
  have ej:=lH hr
  clear hn hr
  have fA:Hid ((cmpL dO R == 0)=verF Q (val (numOf dg)) (val R) x):=lH (by rw [cmp_is fJ.out dr.out (fit_facts dM.out dr.out).1,HF.out,eG.out.x.val];rfl)
  obtain ⟨v,hv⟩:∃ v,cmpL dO R=v:=⟨_,rfl⟩
  rw [hv] at fA
  have HV:=lH hv
  have HVT:Hid (cmpL (trl dO) (trl R)=v):=lH (by rw [trl_id fJ.out.2.1,trl_id (fit_facts dM.out dr.out).1];exact hv)
  clear hv
  have s0:=dI.out.cell 0
  have s1:=dI.out.cell 1
  go_wp2_with fail
  refine (cmp'_any fT _ _ _ _ _ _ dO R ej dZ v HV).mono ?_
  rintro e fN ⟨rfl,q,hq⟩
  have fQ:Hid (Below w.heap.size w fN):=lH (by rw [hq];exact bdN eC q)
  clear hq s0 s1
  go_wp2_with fail
  go_ret
  exact ⟨x,dL,e8,by rw [←fA.out];rfl,fQ⟩
theorem verifyD_no (w:World) (al en:Int) {An Ax Ay Ad Ar As:Option Addr} {cn cx cy nd cd cr cs:Nat} {ln lx ly R S:List Nat} {inf:Bool} (hx:Rd .u32 w w.heap.size Ax cx lx) (hy:Rd .u32 w w.heap.size Ay cy ly) (hdx:Dg lx) (hdy:Dg ly) (hsx:lx.length≤1000) (hsy:ly.length≤1000) (hR:Rd .u32 w w.heap.size Ar cr R) (hS:Rd .u32 w w.heap.size As cs S) (hno:(keyB al ln en lx ly inf && decide (nd=32) && fitB R && fitB S)=false) :
  Calls Tryd.prog 32 #[.agg #[.int .i64 al,.slice An ln.length cn,.int .u32 en,.slice Ax lx.length cx,.slice Ay ly.length cy,.bool inf],.slice Ad nd cd,.agg #[.slice Ar R.length cr,.slice As S.length cs]] w fun e w'=>e = .returned (.bool false)∧Below w.heap.size w w':=by
 obtain ⟨w1,az⟩:∃ W,W=w.alloc (.cells #[.int .i64 al,.slice An ln.length cn,.int .u32 en,.slice Ax lx.length cx,.slice Ay ly.length cy,.bool inf] 45):=⟨_,rfl⟩
 have aH:w1.heap.size=w.heap.size+1:=by rw [az];simp
 have aG:Below w.heap.size w w1:=by rw [az];exact (Below.refl _ _).alloc (Nat.le_refl _) _
 obtain ⟨W0,aC⟩:∃ W,W=w1.alloc (.cells #[.slice Ar R.length cr,.slice As S.length cs] 48):=⟨_,rfl⟩
 have hb:Below w.heap.size w W0:=by rw [aC];exact aG.alloc aG.size _
 have ae:Hid (Holds W0 (w.heap.size+1) 48 #[.slice Ar R.length cr,.slice As S.length cs]):=lH (by rw [aC,←aH];exact Holds.fresh w1 _ _)
 have ab:=lH hb
 have am:=lH ((hR.under hb).more hb.size)
 have ao:=lH ((hS.under hb).more hb.size)
 have RX:=lH hx
 have RY:=lH hy
 have ax:=lH hdx
 have aB:=lH hdy
 have ay:=lH hsx
 have aA:=lH hsy
 clear hsx hsy
 have HW:=lH (az ▸ aC:W0=(w.alloc (.cells #[.int .i64 al,.slice An ln.length cn,.int .u32 en,.slice Ax lx.length cx,.slice Ay ly.length cy,.bool inf] 45)).alloc (.cells #[.slice Ar R.length cr,.slice As S.length cs] 48))
 clear az aH aG aC hb hx hy hdx hdy hR hS
 by_cases hk:keyB al ln en lx ly inf=true
 ·have HK:=lH hk
  by_cases hn:nd=32
  ·subst hn
   by_cases hr:fitB R=true
   ·have aF:=lH hr
    have aK:Hid (fitB S=false):=lH (by rw [hk,hr] at hno;simpa using hno)
    clear hk hr hno
    go_enter Tryd.func32,Tryd.ntmps32
    go_wp2_with fail
    rw [←HW.out]
    clear HW
    refine (keyYes' W0 ((RX.out.under ab).more ab.out.size) ((RY.out.under ab).more ab.out.size) ax aB ay aA HK).mono ?_
    rintro e W1 ⟨rfl,hb⟩
    have ai:=lH (ab.out.trans (hb.mono ab.out.size))
    have ac:=lH (ae.out.under hb (Holds.lt ae))
    have ak:=lH ((am.out.under hb).more hb.size)
    have au:=lH ((ao.out.under hb).more hb.size)
    clear hb ab ae am ao
    have s0:=ac.out.cell 0
    have s1:=ac.out.cell 1
    go_wp2_with fail
    refine (fitV' W1 ak aF).mono ?_
    rintro e W2 ⟨rfl,hb⟩
    have aw:=lH (ai.out.trans (hb.mono ai.out.size))
    have av:=lH (ac.out.under hb (Holds.lt ac))
    have aE:=lH ((ak.out.under hb).more hb.size)
    have aD:=lH ((au.out.under hb).more hb.size)
    clear hb ai ac ak au
    clear s0 s1
    have s0:=av.out.cell 0
    have s1:=av.out.cell 1
    go_wp2_with fail
    refine (fitV' W2 aD aK).mono ?_
    rintro e W3 ⟨rfl,hb⟩
    have aJ:=lH (aw.out.trans (hb.mono aw.out.size))
    have SB3:=lH (av.out.under hb (Holds.lt av))
    have RR3:=lH ((aE.out.under hb).more hb.size)
    have RS3:=lH ((aD.out.under hb).more hb.size)
    clear hb aw av aE aD
    clear s0 s1
    go_wp2_with fail
    go_ret
    exact ⟨rfl,aJ⟩
   ·have aF:Hid (fitB R=false):=lH (by simpa using hr)
    clear hk hr hno
    go_enter Tryd.func32,Tryd.ntmps32
    go_wp2_with fail
    rw [←HW.out]
    clear HW
    refine (keyYes' W0 ((RX.out.under ab).more ab.out.size) ((RY.out.under ab).more ab.out.size) ax aB ay aA HK).mono ?_
    rintro e W1 ⟨rfl,hb⟩
    have ai:=lH (ab.out.trans (hb.mono ab.out.size))
    have ac:=lH (ae.out.under hb (Holds.lt ae))
    have ak:=lH ((am.out.under hb).more hb.size)
    have au:=lH ((ao.out.under hb).more hb.size)
    clear hb ab ae am ao
    have s0:=ac.out.cell 0
    have s1:=ac.out.cell 1
    go_wp2_with fail
    refine (fitV' W1 ak aF).mono ?_
    rintro e W2 ⟨rfl,hb⟩
    have aw:=lH (ai.out.trans (hb.mono ai.out.size))
    have av:=lH (ac.out.under hb (Holds.lt ac))
    have aE:=lH ((ak.out.under hb).more hb.size)
    have aD:=lH ((au.out.under hb).more hb.size)
    clear hb ai ac ak au
    clear s0 s1
    go_wp2_with fail
    go_ret
    exact ⟨rfl,aw⟩
  ·have HN:Hid (((nd:Int) != 32)=true):=lH (by rw [bne_iff_ne];omega)
   clear hk hn hno
   go_enter Tryd.func32,Tryd.ntmps32
   go_wp2_with fail
   rw [←HW.out]
   clear HW
   refine (keyYes' W0 ((RX.out.under ab).more ab.out.size) ((RY.out.under ab).more ab.out.size) ax aB ay aA HK).mono ?_
   rintro e W1 ⟨rfl,hb⟩
   have ai:=lH (ab.out.trans (hb.mono ab.out.size))
   have ac:=lH (ae.out.under hb (Holds.lt ae))
   have ak:=lH ((am.out.under hb).more hb.size)
   have au:=lH ((ao.out.under hb).more hb.size)
   clear hb ab ae am ao
   have h1:=HN.out
   go_wp2_with fail
   go_ret
   exact ⟨rfl,ai⟩
 ·have HK:Hid (keyB al ln en lx ly inf=false):=lH (by simpa using hk)
  clear hk hno
  go_enter Tryd.func32,Tryd.ntmps32
  go_wp2_with fail
  rw [←HW.out]
  clear HW
  refine (keyYes' W0 ((RX.out.under ab).more ab.out.size) ((RY.out.under ab).more ab.out.size) ax aB ay aA HK).mono ?_
  rintro e W1 ⟨rfl,hb⟩
  have ai:=lH (ab.out.trans (hb.mono ab.out.size))
  have ac:=lH (ae.out.under hb (Holds.lt ae))
  have ak:=lH ((am.out.under hb).more hb.size)
  have au:=lH ((ao.out.under hb).more hb.size)
  clear hb ab ae am ao
  go_wp2_with fail
  go_ret
  exact ⟨rfl,ai⟩
theorem inv_ex {p a:Nat} (hp:Luc.Prime p) (ha:¬ p∣a):∃ x,x<p∧a*x % p=1:=by
 obtain ⟨k,rfl⟩:∃ k,p=k+2:=⟨p - 2,by have:=hp.1;omega⟩
 refine ⟨a ^ k % (k+2),Nat.mod_lt _ (by omega),?_⟩
 rw [Nat.mul_mod,Nat.mod_mod,←Nat.mul_mod,←Nat.pow_succ']
 exact Luc.fermat hp ha
theorem keyB_pt {w:World} {Q:Luc.Pt} {A1 A2:Option Addr} {c1 c2:Nat} {l1 l2:List Nat} (h:PtV Q w A1 c1 l1 A2 c2 l2 false) (ho:Luc.OnC Q):keyB 2 [] 0 l1 l2 false=true:=by
 unfold keyB
 rw [ptOk_yes h ho]
 rfl
theorem keyB_inf:keyB 2 [] 0 [] [] true=false:=by simp [keyB]
theorem fit_nil:fitB []=false:=by simp [fitB]
theorem key_parts {al en:Int} {ln lx ly:List Nat} {inf:Bool} (h:keyB al ln en lx ly inf=true):inf=false∧ptOk lx ly inf=true:=by
 unfold keyB at h
 simp only [Bool.and_eq_true] at h
 obtain ⟨⟨⟨⟨_,h1⟩,h2⟩,_⟩,_⟩:=h
 cases inf
 ·exact ⟨rfl,h2⟩
 ·cases h1
theorem verdict (w:World) (hm:CMet w) (al en:Int) {An Ax Ay Ad Ar As:Option Addr} {cn cx cy nd cd cr cs:Nat} {ln lx ly dg R S:List Nat} {inf:Bool} (hx:Rd .u32 w w.heap.size Ax cx lx) (hy:Rd .u32 w w.heap.size Ay cy ly) (hdx:Dg lx) (hdy:Dg ly) (hsx:lx.length≤1000) (hsy:ly.length≤1000) (hD:Rd .u8 w w.heap.size Ad cd dg) (hnd:dg.length=nd) (ho:Oct dg.reverse) (hR:Rd .u32 w w.heap.size Ar cr R) (hRd:Dg R) (hS:Rd .u32 w w.heap.size As cs S) (hSd:Dg S) :
  ∃ c:Bool,(∀ W,Below w.heap.size w W→Calls Tryd.prog 31 #[.agg #[.int .i64 al,.slice An ln.length cn,.int .u32 en,.slice Ax lx.length cx,.slice Ay ly.length cy,.bool inf],.slice Ad nd cd,.agg #[.slice Ar R.length cr,.slice As S.length cs]] W fun e W'=>e = .returned (.bool c)∧Below W.heap.size W W') ∧
   (∀ W,Below w.heap.size w W→Calls Tryd.prog 32 #[.agg #[.int .i64 al,.slice An ln.length cn,.int .u32 en,.slice Ax lx.length cx,.slice Ay ly.length cy,.bool inf],.slice Ad nd cd,.agg #[.slice Ar R.length cr,.slice As S.length cs]] W fun e W'=>e = .returned (.bool c)∧Below W.heap.size W W'):=by
 by_cases hok:(keyB al ln en lx ly inf && decide (nd=32) && fitB R && fitB S)=true
 ·rw [Bool.and_eq_true,Bool.and_eq_true,Bool.and_eq_true,decide_eq_true_eq] at hok
  obtain ⟨⟨⟨hk,h32⟩,hRf⟩,hSf⟩:=hok
  obtain ⟨rfl,hpt⟩:=key_parts hk
  obtain ⟨Q,hO,hQ⟩:=key_pt hx hy hdx hdy hpt
  subst h32
  obtain ⟨hSn,hS0,hSlt,_⟩:=fit_facts hSf hSd
  obtain ⟨x,hx1,hx2⟩:=inv_ex Luc.cNn_prime (a:=val S) (fun hdv=>absurd (Nat.le_of_dvd (by omega) hdv) (by rw [lN_val] at hSlt;omega))
  rw [←lN_val] at hx1 hx2
  refine ⟨verF Q (val (numOf dg)) (val R) x,fun W hb=>?_,fun W hb=>?_⟩
  ·refine (verify_yes W (hm.under hb) al en (hQ.under hb) hO hk ((hD.under hb).more hb.size) hnd ho ((hR.under hb).more hb.size) hRd hRf ((hS.under hb).more hb.size) hSd hSf).mono ?_
   rintro e W' ⟨y,hy1,hy2,rfl,hb'⟩
   obtain rfl:=inv_one hx1 hy1 hx2 hy2
   exact ⟨rfl,hb'⟩
  ·refine (verifyD_yes W al en (hQ.under hb) hO hk ((hD.under hb).more hb.size) hnd ho ((hR.under hb).more hb.size) hRd hRf ((hS.under hb).more hb.size) hSd hSf).mono ?_
   rintro e W' ⟨y,hy1,hy2,rfl,hb'⟩
   obtain rfl:=inv_one hx1 hy1 hx2 hy2
   exact ⟨rfl,hb'⟩
 ·rw [Bool.not_eq_true] at hok
  exact ⟨false,fun W hb=>verify_no W (hm.under hb) al en ((hx.under hb).more hb.size) ((hy.under hb).more hb.size) hdx hdy ((hR.under hb).more hb.size) ((hS.under hb).more hb.size) hok,
   fun W hb=>verifyD_no W al en ((hx.under hb).more hb.size) ((hy.under hb).more hb.size) hdx hdy hsx hsy ((hR.under hb).more hb.size) ((hS.under hb).more hb.size) hok⟩
theorem known11_any (w:World) (hm:CMet w):Calls Tryd.prog 33 #[] w fun e w'=>e = .returned (.bool true)∧Below w.heap.size w w':=by
 have HM:=lH hm
 clear hm
 go_enter Tryd.func33,Tryd.ntmps33
 go_wp2_with fail
 refine wp_region_noPanic ?_
 refine wp_region_held_drew (S:=fun W=>Below w.heap.size w W) (by kernel_rfl) ((Below.refl _ w).drew) (fun hHeld=>?_)
 obtain ⟨V,hV⟩:∃ W,W=w.drew:=⟨_,rfl⟩
 rw [←hV]
 have aH:Hid (Below w.heap.size w V):=lH (by rw [hV];exact (Below.refl _ w).drew)
 replace hHeld:(fun W=>Below w.heap.size w W) V:=aH.out
 clear hV
 refine rdy 0 ⟨some 1,.call ⟨ .value (.func 13),#[],#[]⟩,26,_,_,none⟩ rfl (fun K hK=>?_)
 go_simp
 refine (refGP V).mono ?_
 rintro e V0 ⟨Ag,cg,ag,Bg,dg,bg,ig,rfl,hq,am⟩
 have aC:=lH (aH.out.trans (am.mono aH.out.size))
 obtain rfl:ig=false:=hq.inf
 have aA:=lH hq
 clear hq
 clear am aH
 go_simp
 refine hK.out _ _ (aC.out) (fun hHeld=>?_)
 clear hK K
 try simp only [aP]
 refine tz 1 ⟨some 2,.build 45 #[(0,.const (.int .i64 2)),(3,.tmp 1)],45,_,_,none⟩ rfl hHeld ?_
 try simp only [aP]
 refine rdy 2 ⟨some 3,.call ⟨ .value (.func 29),#[.tmp 2],#[45]⟩,4,_,_,none⟩ rfl (fun K hK=>?_)
 go_simp
 refine (keyYes V0 (HM.out.under aC) (An:=none) (cn:=0) (ln:=[]) aA.out.x.rd aA.out.y.rd aA.out.x.dg aA.out.y.dg (keyB_pt aA gP_on)).mono ?_
 rintro e aJ ⟨rfl,am⟩
 have ax:=lH (aC.out.trans (am.mono aC.out.size))
 clear am aC aA
 go_simp
 refine hK.out _ _ (ax.out) (fun hHeld=>?_)
 clear hK K
 try simp only [aP]
 refine tz 3 ⟨some 4,.move (.tmp 3),4,_,_,none⟩ rfl hHeld ?_
 try simp only [aP]
 refine tz 4 ⟨some 5,.build 26 #[(2,.const (.bool true))],26,_,_,some (3,true)⟩ rfl hHeld ?_
 try simp only [aP]
 refine tz 5 ⟨some 6,.build 45 #[(0,.const (.int .i64 2)),(3,.tmp 5)],45,_,_,some (3,true)⟩ rfl hHeld ?_
 try simp only [aP]
 refine rdy 6 ⟨some 7,.call ⟨ .value (.func 29),#[.tmp 6],#[45]⟩,4,_,_,some (3,true)⟩ rfl (fun K hK=>?_)
 go_simp
 refine (keyYes aJ (HM.out.under ax) (An:=none) (Ax:=none) (Ay:=none) (cn:=0) (cx:=0) (cy:=0) (ln:=[]) (lx:=[]) (ly:=[]) (Rd.nil_ _ _ _) (Rd.nil_ _ _ _) (fun x hx=>by cases hx) (fun x hx=>by cases hx) keyB_inf).mono ?_
 rintro e aD ⟨rfl,am⟩
 have ak:=lH (ax.out.trans (am.mono ax.out.size))
 clear am ax
 go_simp
 refine hK.out _ _ (ak.out) (fun hHeld=>?_)
 clear hK K
 try simp only [aP]
 refine tz 7 ⟨some 8,.unOp .not 4 (.tmp 7),4,_,_,some (3,true)⟩ rfl hHeld ?_
 try simp only [aP]
 refine tz 8 ⟨some 9,.pick (.tmp 4) (.tmp 8) (.const (.bool false)),4,_,_,none⟩ rfl hHeld ?_
 try simp only [aP]
 refine tz 9 ⟨some 10,.move (.tmp 9),4,_,_,none⟩ rfl hHeld ?_
 try simp only [aP]
 refine tz 13 ⟨some 14,.build 48 #[],48,_,_,some (9,true)⟩ rfl hHeld ?_
 try simp only [aP]
 refine wpAnyH_ready (rs:=[10,12]) (by kernel_rfl) (by simp) ?_
 refine AllReadyH.cons (o:=⟨some 11,.call ⟨ .value (.func 13),#[],#[]⟩,26,_,_,some (9,true)⟩) rfl (fun K hK=>?_) ?_
 go_simp
 refine (refGP aD).mono ?_
 rintro e az ⟨Ag,cg,ag,Bg,dg,bg,ig,rfl,hq,am⟩
 have ao:=lH (ak.out.trans (am.mono ak.out.size))
 obtain rfl:ig=false:=hq.inf
 have ay:=lH hq
 clear hq
 clear am ak
 go_simp
 refine hK.out _ _ (ao.out) (fun hHeld=>?_)
 clear hK K
 try simp only [aP]
 refine tz 11 ⟨some 12,.build 45 #[(0,.const (.int .i64 2)),(3,.tmp 11)],45,_,_,some (9,true)⟩ rfl hHeld ?_
 try simp only [aP]
 refine rdy 12 ⟨some 13,.makeSlice 46 (.const (.int .i64 32)) (.const (.int .i64 32)),46,_,_,some (9,true)⟩ rfl (fun K hK=>?_)
 have aG:=make_bytes (32:Int) 32 rfl (by omega) az
 obtain ⟨z,hz⟩:∃ z,z=nums .u8 (List.replicate 32 0):=⟨_,rfl⟩
 rw [←hz] at aG
 clear hz
 go_simp
 obtain ⟨aB,hN⟩:∃ W,W=az.alloc (.cells z 5):=⟨_,rfl⟩
 rw [←hN]
 have am:Below az.heap.size az aB:=by rw [hN];exact (Below.refl _ _).alloc (Nat.le_refl _) _
 have ac:=lH (ao.out.trans (am.mono ao.out.size))
 have ab:=lH (ay.out.under am)
 clear am hN aG ao ay
 refine hK.out _ _ (ac.out) (fun hHeld=>?_)
 clear hK K
 try simp only [aP]
 refine rdy 14 ⟨some 15,.call ⟨ .value (.func 31),#[.tmp 12,.tmp 13,.tmp 14],#[45,46,48]⟩,4,_,_,some (9,true)⟩ rfl (fun K hK=>?_)
 go_simp
 refine (verify_no aB (HM.out.under ac) 2 0 (An:=none) (Ar:=none) (As:=none) (cn:=0) (cr:=0) (cs:=0) (nd:=32) (ln:=[]) (R:=[]) (S:=[]) ab.out.x.rd ab.out.y.rd ab.out.x.dg ab.out.y.dg (Rd.nil_ _ _ _) (Rd.nil_ _ _ _) (by rw [fit_nil,Bool.and_false])).mono ?_
 rintro e V026ace ⟨rfl,am⟩
 have aw:=lH (ac.out.trans (am.mono ac.out.size))
 clear am ac ab
 go_simp
 refine hK.out _ _ (aw.out) (fun hHeld=>?_)
 clear hK K
 try simp only [aP]
 refine tz 15 ⟨some 16,.unOp .not 4 (.tmp 15),4,_,_,some (9,true)⟩ rfl hHeld ?_
 try simp only [aP]
 refine tz 16 ⟨some 17,.pick (.tmp 10) (.tmp 16) (.const (.bool false)),4,_,_,none⟩ rfl hHeld ?_
 try simp only [aP]
 refine tz 17 ⟨some 0,.assign (.tmp 17),4,_,_,none⟩ rfl hHeld ?_
 try simp only [aP]
 refine dn ?_
 go_wp2_with fail
 go_ret
 exact ⟨rfl,aw⟩
 refine AllReadyH.cons (o:=⟨some 13,.makeSlice 46 (.const (.int .i64 32)) (.const (.int .i64 32)),46,_,_,some (9,true)⟩) rfl (fun K hK=>?_) AllReadyH.nil
 have aG:=make_bytes (32:Int) 32 rfl (by omega) aD
 obtain ⟨z,hz⟩:∃ z,z=nums .u8 (List.replicate 32 0):=⟨_,rfl⟩
 rw [←hz] at aG
 clear hz
 go_simp
 obtain ⟨aE,hN⟩:∃ W,W=aD.alloc (.cells z 5):=⟨_,rfl⟩
 rw [←hN]
 have am:Below aD.heap.size aD aE:=by rw [hN];exact (Below.refl _ _).alloc (Nat.le_refl _) _
 have au:=lH (ak.out.trans (am.mono ak.out.size))
 clear am hN aG ak
 refine hK.out _ _ (au.out) (fun hHeld=>?_)
 clear hK K
 try simp only [aP]
 refine rdy 10 ⟨some 11,.call ⟨ .value (.func 13),#[],#[]⟩,26,_,_,some (9,true)⟩ rfl (fun K hK=>?_)
 go_simp
 refine (refGP aE).mono ?_
 rintro e aF ⟨Ag,cg,ag,Bg,dg,bg,ig,rfl,hq,am⟩
 have ai:=lH (au.out.trans (am.mono au.out.size))
 obtain rfl:ig=false:=hq.inf
 have ae:=lH hq
 clear hq
 clear am au
 go_simp
 refine hK.out _ _ (ai.out) (fun hHeld=>?_)
 clear hK K
 try simp only [aP]
 refine tz 11 ⟨some 12,.build 45 #[(0,.const (.int .i64 2)),(3,.tmp 11)],45,_,_,some (9,true)⟩ rfl hHeld ?_
 try simp only [aP]
 refine rdy 14 ⟨some 15,.call ⟨ .value (.func 31),#[.tmp 12,.tmp 13,.tmp 14],#[45,46,48]⟩,4,_,_,some (9,true)⟩ rfl (fun K hK=>?_)
 go_simp
 refine (verify_no aF (HM.out.under ai) 2 0 (An:=none) (Ar:=none) (As:=none) (cn:=0) (cr:=0) (cs:=0) (nd:=32) (ln:=[]) (R:=[]) (S:=[]) ae.out.x.rd ae.out.y.rd ae.out.x.dg ae.out.y.dg (Rd.nil_ _ _ _) (Rd.nil_ _ _ _) (by rw [fit_nil,Bool.and_false])).mono ?_
 rintro e V026cae ⟨rfl,am⟩
 have av:=lH (ai.out.trans (am.mono ai.out.size))
 clear am ai ae
 go_simp
 refine hK.out _ _ (av.out) (fun hHeld=>?_)
 clear hK K
 try simp only [aP]
 refine tz 15 ⟨some 16,.unOp .not 4 (.tmp 15),4,_,_,some (9,true)⟩ rfl hHeld ?_
 try simp only [aP]
 refine tz 16 ⟨some 17,.pick (.tmp 10) (.tmp 16) (.const (.bool false)),4,_,_,none⟩ rfl hHeld ?_
 try simp only [aP]
 refine tz 17 ⟨some 0,.assign (.tmp 17),4,_,_,none⟩ rfl hHeld ?_
 try simp only [aP]
 refine dn ?_
 go_wp2_with fail
 go_ret
 exact ⟨rfl,av⟩
theorem rd_set {W:World} {B:Nat} {A:Option Addr} {c:Nat} {l:List Nat} (h:Rd .u32 W B A c l) {g:Nat} {t:TypeId} {cs:Array Value} (hg:Holds W g t cs) (hs:∀ (j:Nat) (x:Int),cs[j]?≠some (.int .u32 x)) (i:Nat) (p:Value):Rd .u32 (W.setCell ⟨g,i,none⟩ p) B A c l:=by
 refine ⟨h.1,h.2.1,fun h0=>?_⟩
 obtain ⟨b,off,hA,hb,hc⟩:=h.2.2 h0
 have hne:b≠g:=by
  rintro rfl
  have:=hc 0 h0
  rw [Nat.add_zero,hg.cell off] at this
  exact hs _ _ this
 refine ⟨b,off,hA,hb,fun j hj=>?_⟩
 rw [show (W.setCell ⟨g,i,none⟩ p).cell? ⟨b,off+j,none⟩=W.cell? ⟨b,off+j,none⟩ by simp only [World.cell?];rw [Below.heap_setCell W ⟨g,i,none⟩ p b hne]]
 exact hc j hj
theorem no_nums2 {A1 A2:Option Addr} {n1 c1 n2 c2:Nat}:∀ (j:Nat) (x:Int),(#[Value.slice A1 n1 c1,.slice A2 n2 c2])[j]?≠some (.int .u32 x):=by
 intro j x
 rcases j with _ | _ | j <;> simp
theorem set2 {w:World} {g:Nat} {t:TypeId} {a b:Value} (h:Holds w g t #[a,b]) (p q:Value):Holds ((w.setCell ⟨g,0,none⟩ p).setCell ⟨g,1,none⟩ q) g t #[p,q]:=(h.stored 0 p).stored 1 q
theorem below2 {B:Nat} {a w:World} (h:Below B a w) {g:Nat} (hg:B≤g) (p q:Value):Below B a ((w.setCell ⟨g,0,none⟩ p).setCell ⟨g,1,none⟩ q):=(h.setCell (p:=⟨g,0,none⟩) hg p).setCell (p:=⟨g,1,none⟩) hg q
theorem rd_set2 {W:World} {A:Option Addr} {c:Nat} {l:List Nat} (h:Rd .u32 W W.heap.size A c l) {g:Nat} {t:TypeId} {A1 A2:Option Addr} {n1 c1 n2 c2 n3 c3:Nat} {A3:Option Addr} (hg:Holds W g t #[.slice A1 n1 c1,.slice A2 n2 c2]) (q:Value):Rd .u32 ((W.setCell ⟨g,0,none⟩ (.slice A3 n3 c3)).setCell ⟨g,1,none⟩ q) ((W.setCell ⟨g,0,none⟩ (.slice A3 n3 c3)).setCell ⟨g,1,none⟩ q).heap.size A c l:=by
 have h1:=rd_set h hg no_nums2 0 (.slice A3 n3 c3)
 have h2:=rd_set h1 (hg.stored 0 (.slice A3 n3 c3)) no_nums2 1 q
 simpa [World.setCell] using h2
theorem ret_pair {R:Ending→World→Prop} {tmps:Array Value} {w:World} {g:Nat} {t:TypeId} {cs:Array Value} {v:Value} {fn:Func} {p u:Tmp}
  (hr:fn.results=#[.cell p 48,.tmp u]) (hp:tmps.getD p undef = .pointer (some ⟨g,0,none⟩)) (hu:tmps.getD u undef=v) (hg:Holds w g t cs) (hcs:cs.size=2) (hR:R (.returned (.tuple #[.agg cs,v])) w) :
  bodyPost Tryd.prog fn R .ret { tmps:=tmps,defers:=[] } w:=by
 have hi:(Tryd.prog.info? 48).map (·.size)=some cs.size:=by rw [hcs];kernel_rfl
 exact bodyPost_ret (v:=.tuple #[.agg cs,v]) (results_row_tmp hr _ _ g t cs (0,0) _ hp hg Tryd.underlying48 rfl hi _ hu) rfl hR
theorem ret_key {R:Ending→World→Prop} {tmps:Array Value} {w:World} {g:Nat} {t:TypeId} {cs:Array Value} {fn:Func} {p:Tmp}
  (hr:fn.results=#[.cell p 45]) (hp:tmps.getD p undef = .pointer (some ⟨g,0,none⟩)) (hg:Holds w g t cs) (hcs:cs.size=6) (hR:R (.returned (.agg cs)) w) :
  bodyPost Tryd.prog fn R .ret { tmps:=tmps,defers:=[] } w:=by
 have hi:(Tryd.prog.info? 45).map (·.size)=some cs.size:=by rw [hcs];kernel_rfl
 refine bodyPost_ret (v:=.agg cs) ?_ rfl hR
 have hp':tmps[p]?.getD undef = .pointer (some ⟨g,0,none⟩):=by simpa using hp
 simp [results,hr,hp',asAddr,run_loadVar_row w g t _ cs (0,0) _ hg Tryd.underlying45 rfl hi,Result.andThen]
def SignP (a:Luc.F) (d z k:Nat) (w:World) (e:Ending) (w':World):Prop :=
 ∃ (Ar:Option Addr) (cr:Nat) (R:List Nat) (As:Option Addr) (cs:Nat) (S:List Nat) (y:Nat),e = .returned (.tuple #[.agg #[.slice Ar R.length cr,.slice As S.length cs],.bool (decide (0<R.length) && decide (0<S.length))])∧NumIs R (a.val % val lN)∧(y<val lN∧k*y % val lN=1)∧NumIs S (y*((z+a.val % val lN*d % val lN) % val lN) % val lN)∧Rd .u32 w' w'.heap.size Ar cr R∧Rd .u32 w' w'.heap.size As cs S∧Below w.heap.size w w'
theorem addQ' (w:World) {A A':Option Addr} {c c' g:Nat} {l l':List Nat} (hr:Rd .u32 w w.heap.size A c l) (hr':Rd .u32 w w.heap.size A' c' l') (hN:Rd .u32 w w.heap.size (some ⟨g,0,none⟩) 8 lN) (hd:Dg l) (hd':Dg l') (hs:l.length≤1000) (hs':l'.length≤1000) :
  Calls Tryd.prog 27 #[.slice A l.length c,.slice A' l'.length c',.slice (some ⟨g,0,none⟩) 8 8] w (LeftR w ((val l+val l') % val lN)) :=
 add8_yes w A A' (some ⟨g,0,none⟩) c c' 8 l l' lN hr hr' hN hd hd' lN_ok.1 hs hs' (by rw [lN_ok.2.2];omega) N_ne lN_ok.2.1
theorem sign_any (w:World) {A Ad Ak:Option Addr} {c cd ck nd:Nat} {X dg K:List Nat} {a b:Luc.F} (hX:Rd .u32 w w.heap.size A c X) (hXd:Dg X) (hXl:X.length≤8) (hD:Rd .u8 w w.heap.size Ad cd dg) (hnd:dg.length=nd) (ho:Oct dg.reverse) (hK:Rd .u32 w w.heap.size Ak ck K) (hKd:Dg K) (hKf:fitB K=true) (hP:Luc.nmul gP (val K)=some (a,b)) :
  Calls Tryd.prog 35 #[.slice A X.length c,.slice Ad nd cd,.slice Ak K.length ck] w (SignP a (val X) (val (numOf dg)) (val K) w):=by
 obtain ⟨W0,av⟩:∃ W,W=w.alloc (.cells #[.slice none 0 0,.slice none 0 0] 48):=⟨_,rfl⟩
 have hb:Below w.heap.size w W0:=by rw [av];exact (Below.refl _ _).alloc (Nat.le_refl _) _
 have aW:Hid (Holds W0 w.heap.size 48 #[.slice none 0 0,.slice none 0 0]):=lH (by rw [av];exact Holds.fresh w _ _)
 have aL:=lH hb
 have cN:=lH ((hX.under hb).more hb.size)
 have cW:=lH ((hD.under hb).more hb.size)
 have bJ:=lH ((hK.under hb).more hb.size)
 have HW:=lH av
 have ds:=lH hXd
 have dt:=lH hXl
 have dv:=lH hnd
 have HO:=lH ho
 have bI:=lH hKd
 have dc:=lH hKf
 have dr:Hid (nrm K):=lH (fit_facts hKf hKd).1
 have dl:Hid (K.length≤8):=lH (fit_facts hKf hKd).2.2.2
 have HP:=lH hP
 clear av hb hX hXd hXl hD hnd ho hK hKd hKf hP
 go_enter Tryd.func35,Tryd.ntmps35
 go_wp2_with fail
 rw [←HW.out]
 clear HW
 refine (refN_any W0).mono ?_
 rintro e W1 ⟨gn,di,rfl,hN,hb⟩
 have bA:=lH (aL.out.trans (hb.mono aL.out.size))
 have bf:=lH (aW.out.under hb (Holds.lt aW))
 have c_:=lH ((cN.out.under hb).more hb.size)
 have cS:=lH ((cW.out.under hb).more hb.size)
 have cB:=lH ((bJ.out.under hb).more hb.size)
 clear hb aL aW cN cW bJ
 have bX:=lH (Eight.rd hN rfl)
 clear hN di
 go_wp2_with fail
 refine (refGP W1).mono ?_
 rintro e W2 ⟨Ag,cg,ag,Bg,dg_,bg,ig,rfl,hq,hb⟩
 have bD:=lH (bA.out.trans (hb.mono bA.out.size))
 have ax:=lH (bf.out.under hb (Holds.lt bf))
 have bT:=lH ((c_.out.under hb).more hb.size)
 have bQ:=lH ((cS.out.under hb).more hb.size)
 have br:=lH ((cB.out.under hb).more hb.size)
 have bM:=lH ((bX.out.under hb).more hb.size)
 clear hb bA bf c_ cS cB bX
 have bu:=lH hq
 clear hq
 go_wp2_with fail
 refine (timesRP W2 br bI (by have:=dl.out;omega) dr bu gP_on).mono ?_
 rintro e W3 ⟨Ap,cp,ap,Bp,dp,bp,ip,rfl,hq,hb⟩
 have aB:=lH (bD.out.trans (hb.mono bD.out.size))
 have aD:=lH (ax.out.under hb (Holds.lt ax))
 have cH:=lH ((bT.out.under hb).more hb.size)
 have bR:=lH ((bQ.out.under hb).more hb.size)
 have bV:=lH ((br.out.under hb).more hb.size)
 have cG:=lH ((bM.out.under hb).more hb.size)
 have du:=lH (bu.out.under hb)
 clear hb bD ax bT bQ br bM bu
 rw [HP.out] at hq
 obtain rfl:ip=false:=hq.inf
 have bS:=lH hq
 clear hq
 clear du
 obtain ⟨W4,hW⟩:∃ W,W=W3.alloc (.cells #[.slice Ap ap.length cp,.slice Bp bp.length dp,.bool false] 26):=⟨_,rfl⟩
 have HW:=lH hW
 have hb:Below W3.heap.size W3 W4:=by rw [hW];exact (Below.refl _ _).alloc (Nat.le_refl _) _
 clear hW
 have aH:=lH (aB.out.trans (hb.mono aB.out.size))
 have bw:=lH (aD.out.under hb (Holds.lt aD))
 have cD:=lH ((cH.out.under hb).more hb.size)
 have b_:=lH ((bR.out.under hb).more hb.size)
 have cK:=lH ((bV.out.under hb).more hb.size)
 have a_:=lH ((cG.out.under hb).more hb.size)
 have ao:=lH (bS.out.under hb)
 clear hb aB aD cH bR bV cG bS
 go_wp2_with fail
 rw [←HW.out]
 clear HW
 refine (restN' W4 ao.out.x.rd a_ ao.out.x.dg ao.out.x.nrm (by have:=ao.out.x.le;omega)).mono ?_
 rintro e W5 ⟨Ar,cr,R,rfl,hn,hr,hb⟩
 have aE:=lH (aH.out.trans (hb.mono aH.out.size))
 have bk:=lH (bw.out.under hb (Holds.lt bw))
 have cA:=lH ((cD.out.under hb).more hb.size)
 have cL:=lH ((b_.out.under hb).more hb.size)
 have bc:=lH ((cK.out.under hb).more hb.size)
 have bt:=lH ((a_.out.under hb).more hb.size)
 have bK:=lH (ao.out.under hb)
 clear hb aH bw cD b_ cK a_ ao
 rw [bK.out.x.val] at hn
 have am:=lH hn
 have bN:=lH hr
 clear hn hr
 clear bK
 go_wp2_with fail
 refine (invN' W5 bc bt bI dc).mono ?_
 rintro e W6 ⟨y,aM,bL,Aw,cw,lw,rfl,hn,hr,hb⟩
 have aT:=lH (aE.out.trans (hb.mono aE.out.size))
 have bn:=lH (bk.out.under hb (Holds.lt bk))
 have aY:=lH ((cA.out.under hb).more hb.size)
 have bU:=lH ((cL.out.under hb).more hb.size)
 have cE:=lH ((bc.out.under hb).more hb.size)
 have bd:=lH ((bt.out.under hb).more hb.size)
 have bx:=lH ((bN.out.under hb).more hb.size)
 clear hb aE bk cA cL bc bt bN
 have aw:=lH aM
 have aR:=lH bL
 have a8:Hid (NumIs lw (y % val lN)):=lH (by rw [Nat.mod_eq_of_lt aM];exact hn)
 have cV:=lH hr
 clear aM bL hn hr
 go_wp2_with fail
 refine (mulQ' W6 bx aY bd am.out.1 ds (by have:=num_len8N am.out;omega) (by have:=dt.out;omega)).mono ?_
 rintro e W7 ⟨Am,cm,lm,rfl,hn,hr,hb⟩
 have bB:=lH (aT.out.trans (hb.mono aT.out.size))
 have aK:=lH (bn.out.under hb (Holds.lt bn))
 have bF:=lH ((aY.out.under hb).more hb.size)
 have a9:=lH ((bU.out.under hb).more hb.size)
 have cl:=lH ((cE.out.under hb).more hb.size)
 have bE:=lH ((bd.out.under hb).more hb.size)
 have cO:=lH ((bx.out.under hb).more hb.size)
 have bG:=lH ((cV.out.under hb).more hb.size)
 clear hb aT bn aY bU cE bd bx cV
 rw [am.out.2.2] at hn
 have az:=lH hn
 have bH:=lH hr
 clear hn hr
 go_wp2_with fail
 refine (of32' W7 a9 dv HO).mono ?_
 rintro e W8 ⟨Az,cz,rfl,hz,hb⟩
 have bz:=lH (bB.out.trans (hb.mono bB.out.size))
 have aV:=lH (aK.out.under hb (Holds.lt aK))
 have cC:=lH ((bF.out.under hb).more hb.size)
 have bZ:=lH ((a9.out.under hb).more hb.size)
 have cM:=lH ((cl.out.under hb).more hb.size)
 have bv:=lH ((bE.out.under hb).more hb.size)
 have cJ:=lH ((cO.out.under hb).more hb.size)
 have cF:=lH ((bG.out.under hb).more hb.size)
 have a6:=lH ((bH.out.under hb).more hb.size)
 clear hb bB aK bF a9 cl bE cO bG bH
 have aF:=lH hz
 clear hz
 go_wp2_with fail
 refine (addQ' W8 aF a6 bv (numOf_dg HO) az.out.1 (by have:=numOf_length dg;omega) (by have:=num_len8N az.out;omega)).mono ?_
 rintro e W9 ⟨Au,cu,lu,rfl,hn,hr,hb⟩
 have ay:=lH (bz.out.trans (hb.mono bz.out.size))
 have bl:=lH (aV.out.under hb (Holds.lt aV))
 have cU:=lH ((cC.out.under hb).more hb.size)
 have cT:=lH ((bZ.out.under hb).more hb.size)
 have bO:=lH ((cM.out.under hb).more hb.size)
 have aO:=lH ((bv.out.under hb).more hb.size)
 have bP:=lH ((cJ.out.under hb).more hb.size)
 have aX:=lH ((cF.out.under hb).more hb.size)
 have bW:=lH ((a6.out.under hb).more hb.size)
 have bY:=lH ((aF.out.under hb).more hb.size)
 clear hb bz aV cC bZ cM bv cJ cF a6 aF
 rw [az.out.2.2] at hn
 have aA:=lH hn
 have aG:=lH hr
 clear hn hr
 go_wp2_with fail
 refine (mulQ' W9 aX aG aO a8.out.1 aA.out.1 (by have:=num_len8N a8.out;omega) (by have:=num_len8N aA.out;omega)).mono ?_
 rintro e W10 ⟨As,cs,S,rfl,hn,hr,hb⟩
 have ae:=lH (ay.out.trans (hb.mono ay.out.size))
 have ab:=lH (bl.out.under hb (Holds.lt bl))
 have ba:=lH ((cU.out.under hb).more hb.size)
 have aN:=lH ((cT.out.under hb).more hb.size)
 have aQ:=lH ((bO.out.under hb).more hb.size)
 have bs:=lH ((aO.out.under hb).more hb.size)
 have ak:=lH ((bP.out.under hb).more hb.size)
 have aC:=lH ((aX.out.under hb).more hb.size)
 have bC:=lH ((bW.out.under hb).more hb.size)
 have bm:=lH ((bY.out.under hb).more hb.size)
 have aU:=lH ((aG.out.under hb).more hb.size)
 clear hb ay bl cU cT bO aO bP aX bW bY aG
 rw [a8.out.2.2,Nat.mod_eq_of_lt aw.out,aA.out.2.2] at hn
 have aJ:=lH hn
 have ai:=lH hr
 clear hn hr
 clear ba aN aQ bs aC bC bm aU
 by_cases qR:0<R.length
 ·by_cases qS:0<S.length
  ·have nR:decide ((0:Int)<(R.length:Int))=true:=decide_eq_true (by omega)
   have mR:decide (0<R.length)=true:=decide_eq_true (by omega)
   have nS:decide ((0:Int)<(S.length:Int))=true:=decide_eq_true (by omega)
   have mS:decide (0<S.length)=true:=decide_eq_true (by omega)
   have ac:(decide (0<R.length) && decide (0<S.length))=true:=by rw [mR,mS];rfl
   have au:=lH ac
   clear ac qR qS
   have z0:=ab.out.cell 0
   have z1:=ab.out.cell 1
   have o0:=ab.out.open_ 0
   have o1:=ab.out.open_ 1
   go_wp2_with fail
   exact ret_pair (g:=w.heap.size) rfl rfl rfl (set2 ab (.slice Ar R.length cr) (.slice As S.length cs)) rfl ⟨Ar,cr,R,As,cs,S,y,by rw [au.out];rfl,am,⟨aw,aR⟩,aJ,rd_set2 ak ab _,rd_set2 ai ab _,below2 ae (Nat.le_refl _) _ _⟩
  ·have nR:decide ((0:Int)<(R.length:Int))=true:=decide_eq_true (by omega)
   have mR:decide (0<R.length)=true:=decide_eq_true (by omega)
   have nS:decide ((0:Int)<(S.length:Int))=false:=decide_eq_false (by omega)
   have mS:decide (0<S.length)=false:=decide_eq_false (by omega)
   have ac:(decide (0<R.length) && decide (0<S.length))=false:=by rw [mR,mS];rfl
   have au:=lH ac
   clear ac qR qS
   have z0:=ab.out.cell 0
   have z1:=ab.out.cell 1
   have o0:=ab.out.open_ 0
   have o1:=ab.out.open_ 1
   go_wp2_with fail
   exact ret_pair (g:=w.heap.size) rfl rfl rfl (set2 ab (.slice Ar R.length cr) (.slice As S.length cs)) rfl ⟨Ar,cr,R,As,cs,S,y,by rw [au.out];rfl,am,⟨aw,aR⟩,aJ,rd_set2 ak ab _,rd_set2 ai ab _,below2 ae (Nat.le_refl _) _ _⟩
 ·have nR:decide ((0:Int)<(R.length:Int))=false:=decide_eq_false (by omega)
  have mR:decide (0<R.length)=false:=decide_eq_false (by omega)
  have ac:(decide (0<R.length) && decide (0<S.length))=false:=by rw [mR];rfl
  have au:=lH ac
  clear ac qR
  have z0:=ab.out.cell 0
  have z1:=ab.out.cell 1
  have o0:=ab.out.open_ 0
  have o1:=ab.out.open_ 1
  go_wp2_with fail
  exact ret_pair (g:=w.heap.size) rfl rfl rfl (set2 ab (.slice Ar R.length cr) (.slice As S.length cs)) rfl ⟨Ar,cr,R,As,cs,S,y,by rw [au.out];rfl,am,⟨aw,aR⟩,aJ,rd_set2 ak ab _,rd_set2 ai ab _,below2 ae (Nat.le_refl _) _ _⟩
theorem set6 {w:World} {g:Nat} {t:TypeId} {a b c d e f:Value} (h:Holds w g t #[a,b,c,d,e,f]) (p0 p1 p2 p3 p4 p5:Value):Holds ((((((w.setCell ⟨g,0,none⟩ p0).setCell ⟨g,1,none⟩ p1).setCell ⟨g,2,none⟩ p2).setCell ⟨g,3,none⟩ p3).setCell ⟨g,4,none⟩ p4).setCell ⟨g,5,none⟩ p5) g t #[p0,p1,p2,p3,p4,p5]:=(((((h.stored 0 p0).stored 1 p1).stored 2 p2).stored 3 p3).stored 4 p4).stored 5 p5
theorem below6 {B:Nat} {a w:World} (h:Below B a w) {g:Nat} (hg:B≤g) (p0 p1 p2 p3 p4 p5:Value):Below B a ((((((w.setCell ⟨g,0,none⟩ p0).setCell ⟨g,1,none⟩ p1).setCell ⟨g,2,none⟩ p2).setCell ⟨g,3,none⟩ p3).setCell ⟨g,4,none⟩ p4).setCell ⟨g,5,none⟩ p5):=(((((h.setCell (p:=⟨g,0,none⟩) hg p0).setCell (p:=⟨g,1,none⟩) hg p1).setCell (p:=⟨g,2,none⟩) hg p2).setCell (p:=⟨g,3,none⟩) hg p3).setCell (p:=⟨g,4,none⟩) hg p4).setCell (p:=⟨g,5,none⟩) hg p5
theorem rd_sides {W W':World} {g:Nat} {t:TypeId} {cs:Array Value} {A:Option Addr} {c:Nat} {l:List Nat} (h:Rd .u32 W W.heap.size A c l) (hn:nrm l) (hg:Holds W g t cs) (hs:∀ (j:Nat) (x:Int),cs[j]?=some (.int .u32 x)→x=0) (h1:W.heap.size≤W'.heap.size) (hk:∀ q,q≠g→W'.heap[q]?=W.heap[q]?):Rd .u32 W' W'.heap.size A c l:=by
 refine ⟨h.1,h.2.1,fun h0=>?_⟩
 obtain ⟨b,off,hA,hb,hc⟩:=h.2.2 h0
 have hne:b≠g:=by
  rintro rfl
  have hl:=hc (l.length - 1) (by omega)
  rw [hg.cell] at hl
  have hz:=hs _ _ hl
  rcases hn with e | e
  ·omega
  ·exact e (by exact_mod_cast hz)
 refine ⟨b,off,hA,by omega,fun j hj=>?_⟩
 rw [show W'.cell? ⟨b,off+j,none⟩=W.cell? ⟨b,off+j,none⟩ by simp only [World.cell?];rw [hk b hne]]
 exact hc j hj
theorem key_zero:∀ (j:Nat) (x:Int),(#[.int .i64 0,.slice none 0 0,.int .u32 0,.slice none 0 0,.slice none 0 0,.bool false]:Array Value)[j]?=some (.int .u32 x)→x=0:=by
 intro j x h
 rcases j with _ | _ | _ | _ | _ | _ | j <;> simp_all
theorem rd_set6 {W:World} {A A1 A2:Option Addr} {c c1 c2 n1 n2:Nat} {l:List Nat} {bi:Bool} {g:Nat} {t:TypeId} (h:Rd .u32 W W.heap.size A c l) (hd:Dg l) (hn:nrm l) (hg:Holds W g t #[.int .i64 0,.slice none 0 0,.int .u32 0,.slice none 0 0,.slice none 0 0,.bool false]):Rd .u32 ((((((W.setCell ⟨g,0,none⟩ (.int .i64 2)).setCell ⟨g,1,none⟩ (.slice none 0 0)).setCell ⟨g,2,none⟩ (.int .u32 0)).setCell ⟨g,3,none⟩ (.slice A1 n1 c1)).setCell ⟨g,4,none⟩ (.slice A2 n2 c2)).setCell ⟨g,5,none⟩ (.bool bi)) ((((((W.setCell ⟨g,0,none⟩ (.int .i64 2)).setCell ⟨g,1,none⟩ (.slice none 0 0)).setCell ⟨g,2,none⟩ (.int .u32 0)).setCell ⟨g,3,none⟩ (.slice A1 n1 c1)).setCell ⟨g,4,none⟩ (.slice A2 n2 c2)).setCell ⟨g,5,none⟩ (.bool bi)).heap.size A c l :=
 rd_sides h hn hg key_zero (by simp [World.setCell]) fun q hq=>by
  rw [Below.heap_setCell _ ⟨g,5,none⟩ _ q hq,Below.heap_setCell _ ⟨g,4,none⟩ _ q hq,Below.heap_setCell _ ⟨g,3,none⟩ _ q hq,Below.heap_setCell _ ⟨g,2,none⟩ _ q hq,Below.heap_setCell _ ⟨g,1,none⟩ _ q hq,Below.heap_setCell _ ⟨g,0,none⟩ _ q hq]
def KeyPost (Q:Luc.Pt) (w:World) (e:Ending) (w':World):Prop :=
 ∃ (Ap:Option Addr) (cp:Nat) (ap:List Nat) (Bp:Option Addr) (dp:Nat) (bp:List Nat) (ip:Bool),e = .returned (.agg #[.int .i64 2,.slice none 0 0,.int .u32 0,.slice Ap ap.length cp,.slice Bp bp.length dp,.bool ip])∧PtV Q w' Ap cp ap Bp dp bp ip∧Below w.heap.size w w'
theorem key_any (w:World) {A:Option Addr} {c:Nat} {X:List Nat} (hX:Rd .u32 w w.heap.size A c X) (hXd:Dg X) (hXl:X.length≤8) (hXn:nrm X) :
  Calls Tryd.prog 36 #[.slice A X.length c] w (KeyPost (Luc.nmul gP (val X)) w):=by
 obtain ⟨W0,hw0⟩:∃ W,W=w.alloc (.cells #[.int .i64 0,.slice none 0 0,.int .u32 0,.slice none 0 0,.slice none 0 0,.bool false] 45):=⟨_,rfl⟩
 have hb:Below w.heap.size w W0:=by rw [hw0];exact (Below.refl _ _).alloc (Nat.le_refl _) _
 have RB0:Hid (Holds W0 w.heap.size 45 #[.int .i64 0,.slice none 0 0,.int .u32 0,.slice none 0 0,.slice none 0 0,.bool false]):=lH (by rw [hw0];exact Holds.fresh w _ _)
 have HB0:=lH hb
 have RX0:=lH ((hX.under hb).more hb.size)
 have HW:=lH hw0
 have HXD:=lH hXd
 have HXL:=lH hXl
 have HXN:=lH hXn
 clear hw0 hb hX hXd hXl hXn
 go_enter Tryd.func36,Tryd.ntmps36
 go_wp2_with fail
 rw [←HW.out]
 clear HW
 refine (refGP W0).mono ?_
 rintro e W1 ⟨Ag,cg,ag,Bg,dg_,bg,ig,rfl,hq,hb⟩
 have HB1:=lH (HB0.out.trans (hb.mono HB0.out.size))
 have RB1:=lH (RB0.out.under hb (Holds.lt RB0))
 have RX1:=lH ((RX0.out.under hb).more hb.size)
 clear hb HB0 RB0 RX0
 have Vg1:=lH hq
 clear hq
 go_wp2_with fail
 refine (timesRP W1 RX1 HXD (by have:=HXL.out;omega) HXN Vg1 gP_on).mono ?_
 rintro e W2 ⟨Ap,cp,ap,Bp,dp,bp,ip,rfl,hq,hb⟩
 have HB2:=lH (HB1.out.trans (hb.mono HB1.out.size))
 have RB2:=lH (RB1.out.under hb (Holds.lt RB1))
 have RX2:=lH ((RX1.out.under hb).more hb.size)
 have Vg2:=lH (Vg1.out.under hb)
 clear hb HB1 RB1 RX1 Vg1
 have Vp2:=lH hq
 clear hq
 clear Vg2 RX2
 have z0:=RB2.out.cell 0
 have o0:=RB2.out.open_ 0
 have z1:=RB2.out.cell 1
 have o1:=RB2.out.open_ 1
 have z2:=RB2.out.cell 2
 have o2:=RB2.out.open_ 2
 have z3:=RB2.out.cell 3
 have o3:=RB2.out.open_ 3
 have z4:=RB2.out.cell 4
 have o4:=RB2.out.open_ 4
 have z5:=RB2.out.cell 5
 have o5:=RB2.out.open_ 5
 go_wp2_with fail
 exact ret_key (g:=w.heap.size) rfl rfl (set6 RB2 _ _ _ _ _ _) rfl ⟨Ap,cp,ap,Bp,dp,bp,ip,rfl,⟨Vp2.out.inf,⟨rd_set6 Vp2.out.x.rd Vp2.out.x.dg Vp2.out.x.nrm RB2,Vp2.out.x.num⟩,⟨rd_set6 Vp2.out.y.rd Vp2.out.y.dg Vp2.out.y.nrm RB2,Vp2.out.y.num⟩⟩,below6 HB2 (Nat.le_refl _) _ _ _ _ _ _⟩
theorem nmul_some {k:Nat} (h0:0<k) (hk:k<Luc.cNn):∃ a b:Luc.F,Luc.nmul gP k=some (a,b):=by
 rcases h:Luc.nmul gP k with _ | ⟨a,b⟩
 ·exfalso
  obtain ⟨x,_,hx⟩:=inv_ex Luc.cNn_prime (a:=k) (fun hd=>absurd (Nat.le_of_dvd h0 hd) (by omega))
  have h1:=Luc.nmul_mod gP_on gP_order (k*x)
  rw [hx,Luc.nmul_mul gP_on,h,Luc.nmul_none] at h1
  have h2:Luc.nmul gP 1=gP:=rfl
  rw [h2] at h1
  cases h1
 ·exact ⟨a,b,rfl⟩
theorem fit_one {k:Nat} (h0:0<k):fitB [k]=true:=by
 have h1:okN [k]=true:=by simp [okN,List.getD];omega
 have h2:cmpL [k] lN<0:=by unfold cmpL;rw [if_pos (by rw [lN_ok.2.2];simp)];omega
 unfold fitB
 rw [h1,decide_eq_true h2]
 simp
theorem lN_cN {k:Nat} (h:k<4294967296):k<Luc.cNn:=Nat.lt_trans h (by decide)
section
variable {P:Program} (w:World) {ops:Array Oper} {rest:List Oper} {o:Oper} {a:Act} {Q:Exit→Act→World→Prop}
end
theorem val_one (x:Nat):val [x]=x:=by simp [val]
end Go.Proofs.YtflfdglpljodbaaDoor
namespace Go.Proofs.YtflfdglpljodbaaDoor
open Go.RowKit
theorem sum_int {N k y q1 r d q2 rd z q3 t q4 s x q5 q6 u q7 v:Int} (h1:k*y=N*q1+1) (h2:r*d=N*q2+rd) (h3:z+rd=N*q3+t) (h4:y*t=N*q4+s) (h5:s*x=N*q5+1) (h6:z*x=N*q6+u) (h7:r*x=N*q7+v) :
  u+d*v=k+N*(k*q5+x*k*q4 - x*t*q1+x*q3+x*q2 - q6 - d*q7):=by
 have a1:x*t*(k*y)=x*t*(N*q1+1):=by rw [h1]
 have a2:x*(r*d)=x*(N*q2+rd):=by rw [h2]
 have a3:x*(z+rd)=x*(N*q3+t):=by rw [h3]
 have a4:x*k*(y*t)=x*k*(N*q4+s):=by rw [h4]
 have a5:k*(s*x)=k*(N*q5+1):=by rw [h5]
 have a7:d*(r*x)=d*(N*q7+v):=by rw [h7]
 simp only [Int.mul_add,Int.add_mul,Int.mul_sub,Int.sub_mul,Int.mul_assoc,Int.mul_comm,Int.mul_left_comm,Int.mul_one,Int.one_mul] at a1 a2 a3 a4 a5 h6 a7 ⊢
 omega
theorem opp_int {N k y q1 r d q2 rd z q3 t q4 s x q5 q6 u q7 v:Int} (h1:k*y=N*q1+1) (h2:r*d=N*q2+rd) (h3:z+rd=N*q3+t) (h4:y*t=N*q4+s) (h5:(N - s)*x=N*q5+1) (h6:z*x=N*q6+u) (h7:r*x=N*q7+v) :
  u+d*v+k=N*(k*(x - q5)+x*k*q4 - x*t*q1+x*q3+x*q2 - q6 - d*q7):=by
 have a1:x*t*(k*y)=x*t*(N*q1+1):=by rw [h1]
 have a2:x*(r*d)=x*(N*q2+rd):=by rw [h2]
 have a3:x*(z+rd)=x*(N*q3+t):=by rw [h3]
 have a4:x*k*(y*t)=x*k*(N*q4+s):=by rw [h4]
 have a5:k*((N - s)*x)=k*(N*q5+1):=by rw [h5]
 have a7:d*(r*x)=d*(N*q7+v):=by rw [h7]
 simp only [Int.mul_add,Int.add_mul,Int.mul_sub,Int.sub_mul,Int.mul_assoc,Int.mul_comm,Int.mul_left_comm,Int.mul_one,Int.one_mul] at a1 a2 a3 a4 a5 h6 a7 ⊢
 omega
theorem dm (a N:Nat):((a:Nat):Int)=(N:Int)*((a / N:Nat):Int)+((a % N:Nat):Int):=by exact_mod_cast (Nat.div_add_mod a N).symm
theorem sum_k {N k y r d z s x:Nat} (hN:1<N) (hy:k*y % N=1) (hs:s=y*((z+r*d % N) % N) % N) (hx:s*x % N=1):(z*x % N+d*(r*x % N)) % N=k % N:=by
 have h1:=dm (k*y) N
 have h2:=dm (r*d) N
 have h3:=dm (z+r*d % N) N
 have h4:=dm (y*((z+r*d % N) % N)) N
 have h5:=dm (s*x) N
 have h6:=dm (z*x) N
 have h7:=dm (r*x) N
 rw [hy] at h1
 rw [←hs] at h4
 rw [hx] at h5
 simp only [Int.natCast_mul,Int.natCast_add] at h1 h2 h3 h4 h5 h6 h7
 have h:=sum_int h1 h2 h3 h4 h5 h6 h7
 have e:((z*x % N+d*(r*x % N):Nat):Int) % (N:Int)=((k:Nat):Int) % (N:Int):=by
  rw [Int.natCast_add,Int.natCast_mul,h,Int.add_mul_emod_self_left]
 exact_mod_cast e
theorem opp_k {N k y r d z s x:Nat} (hN:1<N) (hsN:s≤N) (hy:k*y % N=1) (hs:s=y*((z+r*d % N) % N) % N) (hx:(N - s)*x % N=1):(z*x % N+d*(r*x % N)+k) % N=0:=by
 have h1:=dm (k*y) N
 have h2:=dm (r*d) N
 have h3:=dm (z+r*d % N) N
 have h4:=dm (y*((z+r*d % N) % N)) N
 have h5:=dm ((N - s)*x) N
 have h6:=dm (z*x) N
 have h7:=dm (r*x) N
 rw [hy] at h1
 rw [←hs] at h4
 rw [hx] at h5
 simp only [Int.natCast_mul,Int.natCast_add,Int.ofNat_sub hsN] at h1 h2 h3 h4 h5 h6 h7
 have h:=opp_int h1 h2 h3 h4 h5 h6 h7
 have e:((z*x % N+d*(r*x % N)+k:Nat):Int) % (N:Int)=0:=by
  rw [Int.natCast_add,Int.natCast_add,Int.natCast_mul,h,Int.mul_emod_right]
 exact_mod_cast e
theorem own_sum (d u v:Nat):Luc.add (Luc.nmul gP u) (Luc.nmul (Luc.nmul gP d) v)=Luc.nmul gP (u+d*v):=by
 rw [←Luc.nmul_mul gP_on,←Luc.nmul_add gP_on]
theorem nmul_same {m k:Nat} (h:m % Luc.cNn=k % Luc.cNn):Luc.nmul gP m=Luc.nmul gP k:=by
 rw [←Luc.nmul_mod gP_on gP_order m,h,Luc.nmul_mod gP_on gP_order]
theorem add_none_of {P:Luc.Pt} {a b:Luc.F} (h:Luc.add P (some (a,b))=none):∃ c,P=some (a,c):=by
 rcases P with _ | ⟨x,y⟩
 ·cases h
 ·change (if x=a∧y+b=0 then none else some (Luc.third (Luc.sl x y a b) x y a b))=none at h
  by_cases hc:x=a∧y+b=0
  ·exact ⟨y,by rw [hc.1]⟩
  ·rw [if_neg hc] at h
   cases h
theorem nmul_opp {m k:Nat} {a b:Luc.F} (h:(m+k) % Luc.cNn=0) (hk:Luc.nmul gP k=some (a,b)):∃ c,Luc.nmul gP m=some (a,c):=by
 refine add_none_of (b:=b) ?_
 rw [←hk,←Luc.nmul_add gP_on,←Luc.nmul_mod gP_on gP_order,h]
 rfl
theorem verF_signed {d z k y s x:Nat} {a b:Luc.F} (hk:Luc.nmul gP k=some (a,b)) (hy:k*y % val lN=1) (hs:s=y*((z+a.val % val lN*d % val lN) % val lN) % val lN) (hx:s*x % val lN=1):verF (Luc.nmul gP d) z (a.val % val lN) x=true:=by
 have h:=sum_k one_lt_N hy hs hx
 rw [lN_val] at h
 rw [verF_some (a:=a) (b:=b) (by rw [own_sum,←hk];refine nmul_same ?_;rw [lN_val];exact h)]
 simp
theorem verF_other {d z k y s x:Nat} {a b:Luc.F} (hk:Luc.nmul gP k=some (a,b)) (hy:k*y % val lN=1) (hs:s=y*((z+a.val % val lN*d % val lN) % val lN) % val lN) (hx:(val lN - s)*x % val lN=1):verF (Luc.nmul gP d) z (a.val % val lN) x=true:=by
 have hsN:s≤val lN:=by rw [hs];exact Nat.le_of_lt (Nat.mod_lt _ (by have:=one_lt_N;omega))
 have h:=opp_k one_lt_N hsN hy hs hx
 rw [lN_val] at h
 obtain ⟨c,hc⟩:=nmul_opp h hk
 rw [verF_some (a:=a) (b:=c) (by rw [own_sum,lN_val];exact hc)]
 simp
theorem xor_u8 (a b:Nat) (ha:a<256) (hb:b<256):bits .xor .u8 (a:Int) (b:Int)=((a ^^^ b:Nat):Int):=by
 have hx:a ^^^ b<2 ^ 8:=Nat.xor_lt_two_pow (by omega) (by omega)
 have h1:(BitVec.ofInt 8 (a:Int)).toNat=a:=by
  rw [BitVec.ofInt_natCast,BitVec.toNat_ofNat];exact Nat.mod_eq_of_lt (by omega)
 have h2:(BitVec.ofInt 8 (b:Int)).toNat=b:=by
  rw [BitVec.ofInt_natCast,BitVec.toNat_ofNat];exact Nat.mod_eq_of_lt (by omega)
 show IntKind.u8.wrap ((BitVec.ofInt 8 (a:Int) ^^^ BitVec.ofInt 8 (b:Int)).toNat:Int)=_
 rw [BitVec.toNat_xor,h1,h2,IntKind.wrap_u8]
 omega
theorem and31 (x:Int):∃ j:Nat,j<32∧bits .and .i64 x 31=(j:Int):=by
 have hlt:(BitVec.ofInt 64 x).toNat &&& 31<32:=Nat.lt_succ_of_le Nat.and_le_right
 refine ⟨(BitVec.ofInt 64 x).toNat &&& 31,hlt,?_⟩
 show IntKind.i64.wrap ((BitVec.ofInt 64 x &&& BitVec.ofInt 64 31).toNat:Int)=_
 rw [BitVec.toNat_and,show (BitVec.ofInt 64 31).toNat=31 from rfl]
 exact IntWalk.i64_in _ (by omega)
theorem mine_none (w:World):Mine 5 (w.alloc (.cells #[] 5)) w.heap.size (some ⟨w.heap.size,0,none⟩) 0 []:=.inr ⟨w.heap.size,0,#[],rfl,Nat.le_refl _,heap_alloc_new w _,Nat.le_refl _,by omega,Nat.le_refl _,fun j hj=>by simp at hj⟩
theorem Mine.store {e:TypeId} {w:World} {B g off c:Nat} {l:List Nat} (h:Mine e w B (some ⟨g,off,none⟩) c l) {i:Nat} (hi:i<l.length) (v:Nat):Mine e (w.setCell ⟨g,off+i,none⟩ (.int .u8 (v:Int))) B (some ⟨g,off,none⟩) c (l.set i v):=by
 rcases h with ⟨h,_⟩ | ⟨g',off',cur,h1,hB,hg,hl,hc,hs,hx⟩
 ·cases h
 ·injection h1 with h1
  injection h1 with h1 h2
  subst h1 h2
  refine .inr ⟨g,off,cur.setIfInBounds (off+i) (.int .u8 (v:Int)),rfl,hB,by simp [World.setCell,Array.getElem?_modify,hg],by rw [List.length_set];exact hl,hc,by simpa using hs,fun j hj=>?_⟩
  rw [List.length_set] at hj
  rw [Array.getElem?_setIfInBounds]
  by_cases hij:i=j
  ·subst hij
   rw [if_pos rfl,if_pos (by omega)]
   simp [List.getD,hi]
  ·rw [if_neg (by omega),hx j hj]
   simp [List.getD,List.getElem?_set_ne hij]
theorem Mine.byte {e:TypeId} {w:World} {B c:Nat} {A:Option Addr} {l:List Nat} (h:Mine e w B A c l) {i:Nat} (hi:i<l.length):∃ g off,A=some ⟨g,off,none⟩∧B≤g∧w.cell? ⟨g,off+i,none⟩=some (.int .u8 ((l.getD i 0:Nat):Int))∧w.frozen? ⟨g,off+i,none⟩=false:=by
 rcases h with ⟨_,_,h⟩ | ⟨g,off,cur,rfl,hB,hg,hl,hc,hs,hx⟩
 ·rw [h] at hi;simp at hi
 ·exact ⟨g,off,rfl,hB,by rw [cell_of_row w g _ cur e (0,0) hg];exact hx i hi,by simp [World.frozen?,hg]⟩
theorem set_oct {l:List Nat} {i y:Nat} (hl:∀ x∈l,x<256) (hy:y<256):∀ x∈l.set i y,x<256:=fun x hx=>by
 rcases List.mem_or_eq_of_mem_set hx with h | h
 ·exact hl x h
 ·omega
theorem fit_of {l:List Nat} {v:Nat} (h:NumIs l v) (h0:0<l.length) (hv:v<val lN):fitB l=true:=by
 have h8:l.length≤8:=num_len8 h (Nat.lt_trans hv (by rw [lN_val];decide))
 unfold fitB
 rw [okN_yes h8 h.2.1,cmpL_val h.1 lN_ok.1 h.2.1 lN_ok.2.1,h.2.2,if_pos hv]
 simp [h0]
theorem len_pos {l:List Nat} {v:Nat} (h:NumIs l v) (h0:0<v):0<l.length:=by
 rcases l with _ | ⟨x,l⟩
 ·have:=h.2.2
  simp [val] at this
  omega
 ·simp
theorem mod_N_lt (v:Nat):v % val lN<val lN:=Nat.mod_lt _ (by have:=one_lt_N;omega)
theorem ver_true (w:World) (hm:CMet w) {Q:Luc.Pt} {Ax Ay Ad Ar As:Option Addr} {cx cy cd cr cs:Nat} {lx ly dg R S:List Nat} (hQ:PtV Q w Ax cx lx Ay cy ly false) (hO:Luc.OnC Q) (hD:Rd .u8 w w.heap.size Ad cd dg) (h32:dg.length=32) (ho:Oct dg.reverse) (hR:Rd .u32 w w.heap.size Ar cr R) (hRd:Dg R) (hRf:fitB R=true) (hS:Rd .u32 w w.heap.size As cs S) (hSd:Dg S) (hSf:fitB S=true) (hv:∀ x,val S*x % val lN=1→verF Q (val (numOf dg)) (val R) x=true) :
  ∀ W,Below w.heap.size w W→Calls Tryd.prog 31 #[.agg #[.int .i64 2,.slice none 0 0,.int .u32 0,.slice Ax lx.length cx,.slice Ay ly.length cy,.bool false],.slice Ad 32 cd,.agg #[.slice Ar R.length cr,.slice As S.length cs]] W fun e W'=>e = .returned (.bool true)∧Below W.heap.size W W':=by
 intro W hb
 refine (verify_yes W (hm.under hb) 2 0 (An:=none) (cn:=0) (ln:=[]) (hQ.under hb) hO (keyB_pt hQ hO) ((hD.under hb).more hb.size) h32 ho ((hR.under hb).more hb.size) hRd hRf ((hS.under hb).more hb.size) hSd hSf).mono ?_
 rintro e W' ⟨x,_,hx,rfl,hb'⟩
 rw [hv x hx]
 exact ⟨rfl,hb'⟩
theorem num_lenA {l s:List Nat} (h:NumIs l (val s+val [1])) (hd:Dg s) (hs:s.length≤8):l.length≤300:=by
 have h1:=val_lt hd
 have h2:pw s.length≤pw 8:=pw_mono hs
 have h3:val [1]=1:=by simp [val]
 have h4:pw 8<pw 9:=by decide
 have:=num_len' h (k:=9) (by omega)
 omega
theorem law_signs (w:World) (hm:CMet w) (sec by_:Nat) (h4:sec<4294967296) (h5:by_<4294967296) (at_:Int) {At:Option Addr} {nt ct:Nat} {lt:List Nat} (hT:Rd .u8 w w.heap.size At ct lt) (hnt:lt.length=nt) (hot:∀ x∈lt,x<256) :
  Calls Tryd.prog 9 #[.int .u32 (sec:Int),.int .u32 (by_:Int),.slice At nt ct,.int .i64 at_] w fun e w'=>e = .returned (.bool true)∧Below w.heap.size w w':=by
 by_cases q0:sec=0
 ·subst q0
  go_enter Tryd.func9,Tryd.ntmps9
  go_wp2_with fail
  go_ret
  exact ⟨rfl,Below.refl _ _⟩
 have n0:(((sec:Nat):Int) == 0)=false:=beq_eq_false_iff_ne.2 (by omega)
 have m0:(sec == 0)=false:=beq_eq_false_iff_ne.2 q0
 by_cases q2:by_=0
 ·subst q2
  go_enter Tryd.func9,Tryd.ntmps9
  go_wp2_with fail
  go_ret
  exact ⟨rfl,Below.refl _ _⟩
 have n2:(((by_:Nat):Int) == 0)=false:=beq_eq_false_iff_ne.2 (by omega)
 have m2:(by_ == 0)=false:=beq_eq_false_iff_ne.2 q2
 by_cases q1:300<nt
 ·have n1:decide ((300:Int)<(nt:Int))=true:=decide_eq_true (by omega)
  have m1:decide (300<nt)=true:=decide_eq_true q1
  clear hT hnt hot q0 q1 q2
  go_enter Tryd.func9,Tryd.ntmps9
  go_wp2_with fail
  go_ret
  exact ⟨rfl,Below.refl _ _⟩
 have n1:decide ((300:Int)<(nt:Int))=false:=decide_eq_false (by omega)
 have m1:decide (300<nt)=false:=decide_eq_false q1
 have gO:=lH hnt
 have gw:Hid (nt≤300):=lH (by omega)
 have gr:Hid (Oct6 lt):=lH (oct6_of hot)
 have fB:Hid (0<sec):=lH (by omega)
 have gH:=lH h4
 have fT:Hid (0<by_):=lH (by omega)
 have fX:=lH h5
 have fl:Hid (Dg [sec]):=lH fun x hx=>by rw [List.mem_singleton.1 hx];exact h4
 obtain ⟨W0,bX⟩:∃ W,W=w:=⟨_,rfl⟩
 have ev:Hid (Below w.heap.size w W0):=lH (by rw [bX];exact Below.refl _ _)
 have gg:Hid (CMet W0):=lH (by rw [bX];exact hm)
 have eZ:Hid (Rd .u8 W0 W0.heap.size At ct lt):=lH (by rw [bX];exact hT)
 rw [show Calls Tryd.prog 9 #[.int .u32 (sec:Int),.int .u32 (by_:Int),.slice At nt ct,.int .i64 at_] w=Calls Tryd.prog 9 #[.int .u32 (sec:Int),.int .u32 (by_:Int),.slice At nt ct,.int .i64 at_] W0 by rw [bX]]
 clear hm bX hT hnt hot q0 q1 q2 h4 h5
 go_enter Tryd.func9,Tryd.ntmps9
 obtain ⟨W1,ae⟩:∃ W,W=W0.alloc (.cells #[.int .u32 (sec:Int)] 22):=⟨_,rfl⟩
 have hb:Below W0.heap.size W0 W1:=by rw [ae];exact (Below.refl _ _).alloc (Nat.le_refl _) _
 have fm:=lH ((rd_whole (c:=1) (show Row .u32 22 W1 W0.heap.size [sec] by rw [ae];exact Holds.fresh _ _ _) (by simp) (by omega)).more (show W0.heap.size+1≤W1.heap.size by rw [ae];simp))
 have gL:=lH ae
 have HZ1:Hid (W1.heap.size=W0.heap.size+1):=lH (by rw [ae];simp)
 clear ae
 have ej:=lH (ev.out.trans (hb.mono ev.out.size))
 have fE:=lH (gg.out.under hb)
 have eo:=lH ((eZ.out.under hb).more hb.size)
 clear hb ev gg eZ
 go_wp2_with fail
 rw [←gL.out]
 refine (shaOf'_any W1 W1.heap.size At ct nt lt gO eo (Nat.le_refl _) gr (by have:=gw.out;omega)).mono ?_
 rintro e W2 ⟨Ad,cd,rfl,hd,hb⟩
 have em:=lH (ej.out.trans (hb.mono ej.out.size))
 have fc:=lH (fE.out.under hb)
 have gB:=lH ((eo.out.under hb).more hb.size)
 have f9:=lH ((fm.out.under hb).more hb.size)
 clear hb ej fE eo fm
 have dL:=lH hd
 clear hd
 clear gB
 obtain ⟨dg,dw⟩:∃ d,Hid (digest lt=d):=⟨_,lH rfl⟩
 rw [dw.out] at dL
 have aD:Hid (dg.length=32):=lH (by rw [←dw.out];exact digest_length lt)
 have eB:Hid (∀ x∈dg,x<256):=lH (by rw [←dw.out];exact digest_oct lt)
 have dt:Hid (Oct dg.reverse):=lH (oct_rev eB)
 clear dw
 obtain ⟨W3,ae⟩:∃ W,W=W2.alloc (.cells #[.int .u32 (by_:Int)] 22):=⟨_,rfl⟩
 have hb:Below W2.heap.size W2 W3:=by rw [ae];exact (Below.refl _ _).alloc (Nat.le_refl _) _
 have ez:=lH ((rd_whole (c:=1) (show Row .u32 22 W3 W2.heap.size [by_] by rw [ae];exact Holds.fresh _ _ _) (by simp) (by omega)).more (show W2.heap.size+1≤W3.heap.size by rw [ae];simp))
 have gz:=lH ae
 have HZ3:Hid (W3.heap.size=W2.heap.size+1):=lH (by rw [ae];simp)
 clear ae
 have d8:=lH (em.out.trans (hb.mono em.out.size))
 have fQ:=lH (fc.out.under hb)
 have dT:=lH ((f9.out.under hb).more hb.size)
 have ew:=lH ((dL.out.under hb).more hb.size)
 clear hb em fc f9 dL
 go_wp2_with fail
 rw [←gz.out]
 obtain ⟨a,b,hP⟩:=nmul_some fT (lN_cN fX)
 have HP:Hid (Luc.nmul gP by_=some (a,b)):=lH hP
 have hS:=sign_any W3 dT fl (by simp) ew aD dt ez (fun x hx=>by rw [List.mem_singleton.1 hx];exact fX.out) (fit_one fT) (by rw [val_one];exact hP)
 rw [val_one,val_one] at hS
 clear hP
 refine hS.mono ?_
 rintro e W4 ⟨Ar,cr,R,As,cs,S,y,rfl,fH,hy,gl,eQ,f8,hb⟩
 clear hS
 have er:=lH (d8.out.trans (hb.mono d8.out.size))
 have fR:=lH (fQ.out.under hb)
 have gj:=lH ((dT.out.under hb).more hb.size)
 have eS:=lH ((ew.out.under hb).more hb.size)
 have gS:=lH ((ez.out.under hb).more hb.size)
 clear hb d8 fQ dT ew ez
 have fg:=lH eQ
 have fs:=lH f8
 have a8:=lH fH
 have am:=lH gl
 have HY:=lH hy.2
 clear fH gl eQ f8 hy
 clear gS
 obtain ⟨W5,hW⟩:∃ W,W=W4.alloc (.cells #[.slice Ar R.length cr,.slice As S.length cs] 48):=⟨_,rfl⟩
 obtain ⟨gs,dJ⟩:∃ g,g=W4.heap.size:=⟨_,rfl⟩
 have hb:Below W4.heap.size W4 W5:=by rw [hW];exact (Below.refl _ _).alloc (Nat.le_refl _) _
 have dB:Hid (Holds W5 gs 48 #[.slice Ar R.length cr,.slice As S.length cs]):=lH (by rw [hW,dJ];exact Holds.fresh _ _ _)
 have HW:=lH hW
 have HG:=lH dJ
 clear hW dJ
 have dA:=lH (er.out.trans (hb.mono er.out.size))
 have f6:=lH (fR.out.under hb)
 have fq:=lH ((gj.out.under hb).more hb.size)
 have fw:=lH ((eS.out.under hb).more hb.size)
 have fi:=lH ((fg.out.under hb).more hb.size)
 have fh:=lH ((fs.out.under hb).more hb.size)
 clear hb er fR gj eS fg fs
 obtain ⟨ob,cO⟩:∃ b,(decide (0<R.length) && decide (0<S.length))=b:=⟨_,rfl⟩
 rw [cO]
 cases ob with
 | false =>
  go_wp2_with fail
  go_ret
  exact ⟨rfl,by rw [←HW.out];exact dA.out⟩
 | true =>
  rw [Bool.and_eq_true,decide_eq_true_eq,decide_eq_true_eq] at cO
  have eY:Hid (fitB R=true):=lH (fit_of a8 cO.1 (mod_N_lt _))
  have eg:Hid (fitB S=true):=lH (fit_of am cO.2 (mod_N_lt _))
  clear cO
  go_wp2_with fail
  rw [←HW.out,←HG.out]
  clear HW HG
  refine wp_region_noPanic ?_
  refine wp_region_held_drew (S:=fun W=>Holds W gs 48 #[.slice Ar R.length cr,.slice As S.length cs]∧True) (by kernel_rfl) (⟨dB.out,trivial⟩) (fun ab=>?_)
  obtain ⟨W6,hV⟩:∃ W,W=W5.drew:=⟨_,rfl⟩
  rw [←hV]
  have hb:Below W5.heap.size W5 W6:=by rw [hV];exact (Below.refl _ W5).drew
  have ec:=lH (dA.out.trans (hb.mono dA.out.size))
  have fS:=lH (f6.out.under hb)
  have eP:=lH ((fq.out.under hb).more hb.size)
  have fL:=lH ((fw.out.under hb).more hb.size)
  have fa:=lH ((fi.out.under hb).more hb.size)
  have fP:=lH ((fh.out.under hb).more hb.size)
  have dD:=lH (dB.out.under hb (Holds.lt dB))
  clear hb dA f6 fq fw fi fh dB
  have gF:Hid ((fun W=>Holds W gs 48 #[.slice Ar R.length cr,.slice As S.length cs]∧True) W6):=lH ⟨dD,trivial⟩
  replace ab:(fun W=>Holds W gs 48 #[.slice Ar R.length cr,.slice As S.length cs]∧True) W6:=gF.out
  clear hV
  refine tz 1 ⟨some 46,.fieldAddr 48 (.tmp 11) 1,0,_,_,none⟩ rfl ab ?_
  try simp only [aP]
  refine tk 2 ⟨some 47,.load 24 (.tmp 46),24,_,_,none⟩ ?_ rfl ?_ ab ?_
  rotate_left 1
  ·(intro W hW;have h0:=hW.1.cell 0;have h1:=hW.1.cell 1;(try dsimp only at hW);go_simp;try with_reducible rfl)
  try simp only [aP]
  refine rdy 0 ⟨some 45,.call ⟨ .value (.func 24),#[],#[]⟩,24,_,_,none⟩ rfl (fun K hK=>?_)
  go_simp
  refine (refN_any W6).mono ?_
  rintro e W7 ⟨gn,gM,rfl,hN,hb⟩
  have dZ:=lH (ec.out.trans (hb.mono ec.out.size))
  have fF:=lH (fS.out.under hb)
  have eL:=lH ((eP.out.under hb).more hb.size)
  have eR:=lH ((fL.out.under hb).more hb.size)
  have e_:=lH ((fa.out.under hb).more hb.size)
  have dM:=lH ((fP.out.under hb).more hb.size)
  have dv:=lH (dD.out.under hb (Holds.lt dD))
  clear hb ec fS eP fL fa fP dD
  have dH:=lH (Eight.rd hN rfl)
  clear hN gM
  have eA:Hid ((fun W=>Holds W gs 48 #[.slice Ar R.length cr,.slice As S.length cs]∧True) W7):=lH ⟨dv,trivial⟩
  go_simp
  refine hK.out _ _ (eA.out) (fun _=>?_)
  clear hK K ab
  try simp only [aP]
  have ab:(fun W=>Holds W gs 48 #[.slice Ar R.length cr,.slice As S.length cs]∧True) W7:=eA.out
  refine rdy 3 ⟨some 48,.call ⟨ .value (.func 25),#[.tmp 45,.tmp 47],#[24,24]⟩,39,_,_,none⟩ rfl (fun K hK=>?_)
  go_simp
  refine (sub'_yes W7 W7.heap.size W7.heap.size _ _ _ _ lN S dH dM (Nat.le_refl _) (Nat.le_refl _) lN_ok.1 am.out.1 lN_ok.2.1 am.out.2.1 (by rw [lN_ok.2.2];omega) (by have:=num_len8N am.out;omega) (by have:=(fit_facts eg am.out.1).2.2.1;omega)).mono ?_
  rintro e W8 ⟨Ao,co,lo,rfl,fJ,bG,hb⟩
  have dW:=lH (dZ.out.trans (hb.mono dZ.out.size))
  have fG:=lH (fF.out.under hb)
  have fu:=lH ((eL.out.under hb).more hb.size)
  have ef:=lH ((eR.out.under hb).more hb.size)
  have fV:=lH ((e_.out.under hb).more hb.size)
  have fN:=lH ((dM.out.under hb).more hb.size)
  have dC:=lH (dv.out.under hb (Holds.lt dv))
  have gA:=lH ((dH.out.under hb).more hb.size)
  clear hb dZ fF eL eR e_ dM dv dH
  have dG:=lH fJ
  have eK:=lH bG.1
  clear fJ bG
  have ft:Hid ((fun W=>Holds W gs 48 #[.slice Ar R.length cr,.slice As S.length cs]∧True) W8):=lH ⟨dC,trivial⟩
  go_simp
  refine hK.out _ _ (ft.out) (fun _=>?_)
  clear hK K ab
  try simp only [aP]
  have ab:(fun W=>Holds W gs 48 #[.slice Ar R.length cr,.slice As S.length cs]∧True) W8:=ft.out
  refine tz 4 ⟨some 44,.move (.tmp 48),39,_,_,none⟩ rfl ab ?_
  try simp only [aP]
  refine tz 5 ⟨some 49,.extract (.tmp 44) 0,24,_,_,none⟩ rfl ab ?_
  try simp only [aP]
  refine tz 6 ⟨some 50,.extract (.tmp 44) 1,4,_,_,none⟩ rfl ab ?_
  try simp only [aP]
  refine tz 7 ⟨some 13,.assign (.tmp 49),24,_,_,none⟩ rfl ab ?_
  try simp only [aP]
  refine tz 8 ⟨some 14,.assign (.tmp 50),4,_,_,none⟩ rfl ab ?_
  try simp only [aP]
  refine dn ?_
  clear gA
  have aB:Below W8.heap.size W8 (W8.alloc (.cells #[] 5)):=(Below.refl _ _).alloc (Nat.le_refl _) _
  have bn:=lH (mine_none W8)
  have eW:=lH ((ef.out.under aB).more aB.size)
  have bU:=lH aB
  have eI:W8.heap.size≤(W8.alloc (.cells #[] 5)).heap.size:=aB.size
  have gI:Hid (([]:List Nat).length=0):=lH rfl
  clear aB
  obtain ⟨j3,dR,gt⟩:=and31 at_
  go_wp2_with (with_reducible (refine wpList_mine _ rfl (.tmp 51) (.tmp 52) 46 rfl 5 Tryd.underlying46 info_u8 rfl bn.out gI.out rfl eW.out aD.out eI (by omega) ?hA6))
  intro A6 c6 w6 hm6 hg6 hb6
  have eU:Below W8.heap.size W8 w6:=bU.out.trans (grown_below9 hg6 (fun g e=>(bn.out.block e).1) eI)
  try simp only [List.nil_append] at hm6
  obtain ⟨gh,oh,rfl,gi,eO,gQ⟩:=hm6.byte (i:=j3) (by rw [aD.out];exact dR)
  obtain ⟨u,hu⟩:∃ u,u=dg.getD j3 0:=⟨_,rfl⟩
  rw [←hu] at eO
  have fj:u<256:=by
   rw [hu,List.getD]
   rcases hq:dg[j3]? with _ | z
   ·simp
   ·simpa using eB z (List.mem_of_getElem? hq)
  have fp:Hid (bits .xor .u8 (u:Int) 1=((u ^^^ 1:Nat):Int)):=lH (xor_u8 u 1 fj (by omega))
  have du:=hm6.store (i:=j3) (by rw [aD.out];exact dR) (u ^^^ 1)
  obtain ⟨hl,dF⟩:∃ l,l=dg.set j3 (u ^^^ 1):=⟨_,rfl⟩
  rw [←dF] at du
  have f_:u ^^^ 1<256:=Nat.xor_lt_two_pow (n:=8) (by omega) (by omega)
  have gv:Hid (hl.length=32):=lH (by rw [dF,List.length_set];exact aD.out)
  have gK:Hid (Oct hl.reverse):=lH (oct_rev (by rw [dF];exact set_oct eB f_))
  have gN:oh+j3<c6+oh:=by have h:=hm6.le;rw [aD.out] at h;omega
  obtain ⟨W9,bV⟩:∃ W,W=w6.setCell ⟨gh,oh+j3,none⟩ (.int .u8 ((u ^^^ 1:Nat):Int)):=⟨_,rfl⟩
  rw [←bV] at du
  have hb:Below W8.heap.size W8 W9:=by rw [bV];exact eU.setCell gi _
  have fI:=lH bV
  have eA:Hid (W9.heap.size=w6.heap.size):=lH (by rw [bV];simp [World.setCell])
  have fO:=du.rd
  have e9:=lH fO
  have eH:32≤c6:=by have h:=hm6.le.1;rw [aD.out] at h;omega
  have dI:c6≤9223372036854775807:=hm6.le.2
  clear hm6 hg6 hb6 eU gi hu fj dF du f_ bV bn eW bU eI fO gN
  have d6:=lH (dW.out.trans (hb.mono dW.out.size))
  have fZ:=lH (fG.out.under hb)
  have dY:=lH ((fu.out.under hb).more hb.size)
  have fW:=lH ((ef.out.under hb).more hb.size)
  have fk:=lH ((fV.out.under hb).more hb.size)
  have eT:=lH ((fN.out.under hb).more hb.size)
  have d_:=lH (dC.out.under hb (Holds.lt dC))
  have fA:=lH ((eK.out.under hb).more hb.size)
  clear hb dW fG fu ef fV fN dC eK
  go_wp2_with fail
  rw [fp.out,←fI.out]
  clear eO gQ fp fI eH dI gt dR
  have eN:Luc.OnC (Luc.nmul gP sec):=Luc.nmul_on gP_on _
  have fv:=lH eN
  obtain ⟨qa,qb,e8⟩:=nmul_some fB (lN_cN gH)
  have gu:=lH e8
  clear eN e8
  refine (key_any W9 dY fl (by simp) (.inr (by simp only [List.length_singleton];exact Nat.ne_of_gt fB))).mono ?_
  rintro e b_ ⟨Ap,cp,ap,Bp,dp,bp,ip,rfl,hq,hb⟩
  have bu:=lH (d6.out.trans (hb.mono d6.out.size))
  have cV:=lH (fZ.out.under hb)
  have ee:=lH ((dY.out.under hb).more hb.size)
  have bK:=lH ((fW.out.under hb).more hb.size)
  have bT:=lH ((fk.out.under hb).more hb.size)
  have bW:=lH ((eT.out.under hb).more hb.size)
  have bF:=lH (d_.out.under hb (Holds.lt d_))
  have di:=lH ((fA.out.under hb).more hb.size)
  have bR:=lH ((e9.out.under hb).more hb.size)
  clear hb d6 fZ dY fW fk eT d_ fA e9
  rw [val_one] at hq
  obtain rfl:ip=false:=by have h:=hq.inf;rw [gu.out] at h;exact h
  have cS:=lH hq
  clear hq
  clear ee
  obtain ⟨aE,hW⟩:∃ W,W=b_.alloc (.cells #[.int .i64 2,.slice none 0 0,.int .u32 0,.slice Ap ap.length cp,.slice Bp bp.length dp,.bool false] 45):=⟨_,rfl⟩
  obtain ⟨gk,dS⟩:∃ g,g=b_.heap.size:=⟨_,rfl⟩
  have hb:Below b_.heap.size b_ aE:=by rw [hW];exact (Below.refl _ _).alloc (Nat.le_refl _) _
  have bs:Hid (Holds aE gk 45 #[.int .i64 2,.slice none 0 0,.int .u32 0,.slice Ap ap.length cp,.slice Bp bp.length dp,.bool false]):=lH (by rw [hW,dS];exact Holds.fresh _ _ _)
  have fU:=lH hW
  have fC:=lH dS
  have gE:Hid (aE.heap.size=b_.heap.size+1):=lH (by rw [hW];simp)
  clear hW dS
  have bk:=lH (bu.out.trans (hb.mono bu.out.size))
  have bI:=lH (cV.out.under hb)
  have cF:=lH ((bK.out.under hb).more hb.size)
  have cG:=lH ((bT.out.under hb).more hb.size)
  have cC:=lH ((bW.out.under hb).more hb.size)
  have ay:=lH (bF.out.under hb (Holds.lt bF))
  have cD:=lH ((di.out.under hb).more hb.size)
  have cJ:=lH ((bR.out.under hb).more hb.size)
  have bL:=lH (cS.out.under hb)
  clear hb bu cV bK bT bW bF di bR cS
  have s0:=ay.out.cell 0
  have s1:=ay.out.cell 1
  rw [fU.out] at s0 s1
  obtain ⟨bB,ae⟩:∃ W,W=aE.alloc (.cells #[.int .u32 1] 22):=⟨_,rfl⟩
  have hb:Below aE.heap.size aE bB:=by rw [ae];exact (Below.refl _ _).alloc (Nat.le_refl _) _
  have bl:=lH ((rd_whole (c:=1) (show Row .u32 22 bB aE.heap.size [1] by rw [ae];exact Holds.fresh _ _ _) (by simp) (by omega)).more (show aE.heap.size+1≤bB.heap.size by rw [ae];simp))
  have d9:=lH ae
  have HZ12:Hid (bB.heap.size=aE.heap.size+1):=lH (by rw [ae];simp)
  clear ae
  have br:=lH (bk.out.trans (hb.mono bk.out.size))
  have cW:=lH (bI.out.under hb)
  have bJ:=lH ((cF.out.under hb).more hb.size)
  have cU:=lH ((cG.out.under hb).more hb.size)
  have bf:=lH ((cC.out.under hb).more hb.size)
  have bd:=lH (ay.out.under hb (Holds.lt ay))
  have cM:=lH ((cD.out.under hb).more hb.size)
  have bZ:=lH ((cJ.out.under hb).more hb.size)
  have bS:=lH (bL.out.under hb)
  have ba:=lH (bs.out.under hb (Holds.lt bs))
  clear hb bk bI cF cG cC ay cD cJ bL bs
  go_wp2_with fail
  rw [←fU.out,←fC.out,←d9.out]
  have dV:=bl.out
  rw [gE.out,←fC.out] at dV
  refine (add'_any bB bB.heap.size bB.heap.size _ _ _ _ S [1] bf dV (Nat.le_refl _) (Nat.le_refl _) am.out.1 (fun x hx=>by rw [List.mem_singleton.1 hx];decide) (by have:=num_len8N am.out;omega) (by simp)).mono ?_
  rintro e d7 ⟨Aa,ca,la,rfl,gc,eX,hb⟩
  have bv:=lH (br.out.trans (hb.mono br.out.size))
  have bY:=lH (cW.out.under hb)
  have cN:=lH ((bJ.out.under hb).more hb.size)
  have c_:=lH ((cU.out.under hb).more hb.size)
  have bP:=lH ((bf.out.under hb).more hb.size)
  have bC:=lH (bd.out.under hb (Holds.lt bd))
  have cH:=lH ((cM.out.under hb).more hb.size)
  have dl:=lH ((bZ.out.under hb).more hb.size)
  have cA:=lH (bS.out.under hb)
  have bc:=lH (ba.out.under hb (Holds.lt ba))
  have eC:=lH ((bl.out.under hb).more hb.size)
  clear hb br cW bJ cU bf bd cM bZ bS ba bl
  have eh:=lH gc
  have a6:=lH eX.1
  clear gc eX s0 s1 dV
  clear eC
  go_wp2_with fail
  refine (sub'_yes d7 d7.heap.size d7.heap.size _ _ _ _ la [] a6 (Rd.nil_ _ _ _) (Nat.le_refl _) (Nat.le_refl _) eh.out.1 (fun x hx=>by cases hx) eh.out.2.1 (.inl rfl) (by have:=num_lenA eh am.out.1 (num_len8N am);omega) (by simp) (by simp [val])).mono ?_
  rintro e aC ⟨Ar2,cr2,lr2,rfl,fK,fb,hb⟩
  have bx:=lH (bv.out.trans (hb.mono bv.out.size))
  have ax:=lH (bY.out.under hb)
  have bE:=lH ((cN.out.under hb).more hb.size)
  have aF:=lH ((c_.out.under hb).more hb.size)
  have cE:=lH ((bP.out.under hb).more hb.size)
  have aG:=lH (bC.out.under hb (Holds.lt bC))
  have dP:=lH ((cH.out.under hb).more hb.size)
  have ei:=lH ((dl.out.under hb).more hb.size)
  have ac:=lH (cA.out.under hb)
  have aL:=lH (bc.out.under hb (Holds.lt bc))
  have eD:=lH ((a6.out.under hb).more hb.size)
  clear hb bv bY cN c_ bP bC cH dl cA bc a6
  have dU:=lH fK
  have ep:=lH fb.1
  clear fK fb
  clear eD
  go_wp2_with fail
  have HC:=lH (ver_true aC ax ac fv bE aD dt aF a8.out.1 eY cE am.out.1 eg (fun x hx=>by rw [a8.out.2.2];exact verF_signed HP HY am.out.2.2 hx))
  have bG:fitB lo=true:=by
   have h1:=(fit_facts eg am.out.1).2
   refine fit_of dG (len_pos dG (by omega)) (by omega)
  have gC:=lH (ver_true aC ax ac fv bE aD dt aF a8.out.1 eY dP dG.out.1 bG (fun x hx=>by rw [dG.out.2.2] at hx;rw [a8.out.2.2];exact verF_other HP HY am.out.2.2 hx))
  clear bG
  obtain ⟨b1,fY,eV⟩:=verdict aC ax 2 0 (An:=none) (cn:=0) (ln:=[]) (inf:=false) ac.out.x.rd ac.out.y.rd ac.out.x.dg ac.out.y.dg ac.out.x.s ac.out.y.s ei gv gK aF a8.out.1 cE am.out.1
  obtain ⟨b2,eM,fM⟩:=verdict aC ax 2 0 (An:=none) (cn:=0) (ln:=[]) (inf:=false) ac.out.x.rd ac.out.y.rd ac.out.x.dg ac.out.y.dg ac.out.x.s ac.out.y.s bE aD dt aF a8.out.1 ep dU.out.1
  have gD:=lH fY
  have gJ:=lH eV
  have gG:=lH eM
  have gR:=lH fM
  have fD:Hid (Below aC.heap.size aC aC):=lH (Below.refl _ _)
  clear fY eV eM fM
  have az:=fD
  clear fD
  refine wp_region_noPanic ?_
  refine wp_region_held_drew (S:=fun W=>Holds W gs 48 #[.slice Ar R.length cr,.slice As S.length cs]∧Holds W gk 45 #[.int .i64 2,.slice none 0 0,.int .u32 0,.slice Ap ap.length cp,.slice Bp bp.length dp,.bool false]∧True) (by kernel_rfl) (⟨aG.out,aL.out,trivial⟩) (fun ab=>?_)
  obtain ⟨dE,hV⟩:∃ W,W=aC.drew:=⟨_,rfl⟩
  rw [←hV]
  have hb:Below aC.heap.size aC dE:=by rw [hV];exact (Below.refl _ aC).drew
  have bw:=lH (bx.out.trans (hb.mono bx.out.size))
  have dr:=lH (ax.out.under hb)
  have aQ:=lH (aG.out.under hb (Holds.lt aG))
  have aJ:=lH (aL.out.under hb (Holds.lt aL))
  have av:=lH (az.out.trans (hb.mono az.out.size))
  clear hb az bx ax aG aL
  have dN:Hid ((fun W=>Holds W gs 48 #[.slice Ar R.length cr,.slice As S.length cs]∧Holds W gk 45 #[.int .i64 2,.slice none 0 0,.int .u32 0,.slice Ap ap.length cp,.slice Bp bp.length dp,.bool false]∧True) dE):=lH ⟨aQ,aJ,trivial⟩
  replace ab:(fun W=>Holds W gs 48 #[.slice Ar R.length cr,.slice As S.length cs]∧Holds W gk 45 #[.int .i64 2,.slice none 0 0,.int .u32 0,.slice Ap ap.length cp,.slice Bp bp.length dp,.bool false]∧True) dE:=dN.out
  clear hV
  refine tk 0 ⟨some 71,.load 45 (.tmp 16),45,_,_,none⟩ ?_ rfl ?_ ab ?_
  rotate_left 1
  ·(intro W hW;have h0:=hW.2.1.cell 0;have h1:=hW.2.1.cell 1;have h2:=hW.2.1.cell 2;have h3:=hW.2.1.cell 3;have h4:=hW.2.1.cell 4;have h5:=hW.2.1.cell 5;(try dsimp only at hW);go_simp;try with_reducible rfl)
  try simp only [aP]
  refine tz 1 ⟨some 72,.move (.tmp 10),46,_,_,none⟩ rfl ab ?_
  try simp only [aP]
  refine tk 2 ⟨some 73,.load 48 (.tmp 11),48,_,_,none⟩ ?_ rfl ?_ ab ?_
  rotate_left 1
  ·(intro W hW;have h0:=hW.1.cell 0;have h1:=hW.1.cell 1;(try dsimp only at hW);go_simp;try with_reducible rfl)
  try simp only [aP]
  refine rdy 3 ⟨some 74,.call ⟨ .value (.func 31),#[.tmp 71,.tmp 72,.tmp 73],#[45,46,48]⟩,4,_,_,none⟩ rfl (fun K hK=>?_)
  go_simp
  refine (HC.out dE av).mono ?_
  rintro e dO ⟨rfl,hb⟩
  have bt:=lH (bw.out.trans (hb.mono bw.out.size))
  have cT:=lH (dr.out.under hb)
  have aX:=lH (aQ.out.under hb (Holds.lt aQ))
  have aK:=lH (aJ.out.under hb (Holds.lt aJ))
  have ai:=lH (av.out.trans (hb.mono av.out.size))
  clear hb av bw dr aQ aJ
  have ds:Hid ((fun W=>Holds W gs 48 #[.slice Ar R.length cr,.slice As S.length cs]∧Holds W gk 45 #[.int .i64 2,.slice none 0 0,.int .u32 0,.slice Ap ap.length cp,.slice Bp bp.length dp,.bool false]∧True) dO):=lH ⟨aX,aK,trivial⟩
  go_simp
  refine hK.out _ _ (ds.out) (fun _=>?_)
  clear hK K ab
  try simp only [aP]
  have ab:(fun W=>Holds W gs 48 #[.slice Ar R.length cr,.slice As S.length cs]∧Holds W gk 45 #[.int .i64 2,.slice none 0 0,.int .u32 0,.slice Ap ap.length cp,.slice Bp bp.length dp,.bool false]∧True) dO:=ds.out
  refine tz 4 ⟨some 75,.move (.tmp 74),4,_,_,none⟩ rfl ab ?_
  try simp only [aP]
  refine tk 5 ⟨some 76,.load 45 (.tmp 16),45,_,_,some (4,true)⟩ ?_ rfl ?_ ab ?_
  rotate_left 1
  ·(intro W hW;have h0:=hW.2.1.cell 0;have h1:=hW.2.1.cell 1;have h2:=hW.2.1.cell 2;have h3:=hW.2.1.cell 3;have h4:=hW.2.1.cell 4;have h5:=hW.2.1.cell 5;(try dsimp only at hW);go_simp;try with_reducible rfl)
  try simp only [aP]
  refine tz 6 ⟨some 77,.move (.tmp 10),46,_,_,some (4,true)⟩ rfl ab ?_
  try simp only [aP]
  refine tz 7 ⟨some 78,.fieldAddr 48 (.tmp 11) 0,0,_,_,some (4,true)⟩ rfl ab ?_
  try simp only [aP]
  refine tk 8 ⟨some 79,.load 24 (.tmp 78),24,_,_,some (4,true)⟩ ?_ rfl ?_ ab ?_
  rotate_left 1
  ·(intro W hW;have h0:=hW.1.cell 0;have h1:=hW.1.cell 1;(try dsimp only at hW);go_simp;try with_reducible rfl)
  try simp only [aP]
  refine tz 9 ⟨some 80,.move (.tmp 13),24,_,_,some (4,true)⟩ rfl ab ?_
  try simp only [aP]
  refine tz 10 ⟨some 81,.build 48 #[(0,.tmp 79),(1,.tmp 80)],48,_,_,some (4,true)⟩ rfl ab ?_
  try simp only [aP]
  refine rdy 11 ⟨some 82,.call ⟨ .value (.func 31),#[.tmp 76,.tmp 77,.tmp 81],#[45,46,48]⟩,4,_,_,some (4,true)⟩ rfl (fun K hK=>?_)
  go_simp
  refine (gC.out dO ai).mono ?_
  rintro e eG ⟨rfl,hb⟩
  have a9:=lH (bt.out.trans (hb.mono bt.out.size))
  have bN:=lH (cT.out.under hb)
  have aO:=lH (aX.out.under hb (Holds.lt aX))
  have aT:=lH (aK.out.under hb (Holds.lt aK))
  have ak:=lH (ai.out.trans (hb.mono ai.out.size))
  clear hb ai bt cT aX aK
  have dc:Hid ((fun W=>Holds W gs 48 #[.slice Ar R.length cr,.slice As S.length cs]∧Holds W gk 45 #[.int .i64 2,.slice none 0 0,.int .u32 0,.slice Ap ap.length cp,.slice Bp bp.length dp,.bool false]∧True) eG):=lH ⟨aO,aT,trivial⟩
  go_simp
  refine hK.out _ _ (dc.out) (fun _=>?_)
  clear hK K ab
  try simp only [aP]
  have ab:(fun W=>Holds W gs 48 #[.slice Ar R.length cr,.slice As S.length cs]∧Holds W gk 45 #[.int .i64 2,.slice none 0 0,.int .u32 0,.slice Ap ap.length cp,.slice Bp bp.length dp,.bool false]∧True) eG:=dc.out
  refine tz 12 ⟨some 83,.pick (.tmp 75) (.tmp 82) (.const (.bool false)),4,_,_,none⟩ rfl ab ?_
  try simp only [aP]
  refine tz 13 ⟨some 84,.move (.tmp 83),4,_,_,none⟩ rfl ab ?_
  try simp only [aP]
  refine tk 14 ⟨some 85,.load 45 (.tmp 16),45,_,_,some (13,true)⟩ ?_ rfl ?_ ab ?_
  rotate_left 1
  ·(intro W hW;have h0:=hW.2.1.cell 0;have h1:=hW.2.1.cell 1;have h2:=hW.2.1.cell 2;have h3:=hW.2.1.cell 3;have h4:=hW.2.1.cell 4;have h5:=hW.2.1.cell 5;(try dsimp only at hW);go_simp;try with_reducible rfl)
  try simp only [aP]
  refine tz 15 ⟨some 86,.move (.tmp 15),46,_,_,some (13,true)⟩ rfl ab ?_
  try simp only [aP]
  refine tk 16 ⟨some 87,.load 48 (.tmp 11),48,_,_,some (13,true)⟩ ?_ rfl ?_ ab ?_
  rotate_left 1
  ·(intro W hW;have h0:=hW.1.cell 0;have h1:=hW.1.cell 1;(try dsimp only at hW);go_simp;try with_reducible rfl)
  try simp only [aP]
  refine tk 18 ⟨some 89,.load 45 (.tmp 16),45,_,_,some (13,true)⟩ ?_ rfl ?_ ab ?_
  rotate_left 1
  ·(intro W hW;have h0:=hW.2.1.cell 0;have h1:=hW.2.1.cell 1;have h2:=hW.2.1.cell 2;have h3:=hW.2.1.cell 3;have h4:=hW.2.1.cell 4;have h5:=hW.2.1.cell 5;(try dsimp only at hW);go_simp;try with_reducible rfl)
  try simp only [aP]
  refine tz 19 ⟨some 90,.move (.tmp 15),46,_,_,some (13,true)⟩ rfl ab ?_
  try simp only [aP]
  refine tk 20 ⟨some 91,.load 48 (.tmp 11),48,_,_,some (13,true)⟩ ?_ rfl ?_ ab ?_
  rotate_left 1
  ·(intro W hW;have h0:=hW.1.cell 0;have h1:=hW.1.cell 1;(try dsimp only at hW);go_simp;try with_reducible rfl)
  try simp only [aP]
  refine rdy 17 ⟨some 88,.call ⟨ .value (.func 31),#[.tmp 85,.tmp 86,.tmp 87],#[45,46,48]⟩,4,_,_,some (13,true)⟩ rfl (fun K hK=>?_)
  go_simp
  refine (gD.out eG ak).mono ?_
  rintro e dX ⟨rfl,hb⟩
  have bA:=lH (a9.out.trans (hb.mono a9.out.size))
  have bM:=lH (bN.out.under hb)
  have aH:=lH (aO.out.under hb (Holds.lt aO))
  have aY:=lH (aT.out.under hb (Holds.lt aT))
  have ao:=lH (ak.out.trans (hb.mono ak.out.size))
  clear hb ak a9 bN aO aT
  have cK:Hid ((fun W=>Holds W gs 48 #[.slice Ar R.length cr,.slice As S.length cs]∧Holds W gk 45 #[.int .i64 2,.slice none 0 0,.int .u32 0,.slice Ap ap.length cp,.slice Bp bp.length dp,.bool false]∧True) dX):=lH ⟨aH,aY,trivial⟩
  go_simp
  refine hK.out _ _ (cK.out) (fun _=>?_)
  clear hK K ab
  try simp only [aP]
  have ab:(fun W=>Holds W gs 48 #[.slice Ar R.length cr,.slice As S.length cs]∧Holds W gk 45 #[.int .i64 2,.slice none 0 0,.int .u32 0,.slice Ap ap.length cp,.slice Bp bp.length dp,.bool false]∧True) dX:=cK.out
  refine rdy 21 ⟨some 92,.call ⟨ .value (.func 32),#[.tmp 89,.tmp 90,.tmp 91],#[45,46,48]⟩,4,_,_,some (13,true)⟩ rfl (fun K hK=>?_)
  go_simp
  refine (gJ.out dX ao).mono ?_
  rintro e eF ⟨rfl,hb⟩
  have bz:=lH (bA.out.trans (hb.mono bA.out.size))
  have cl:=lH (bM.out.under hb)
  have aU:=lH (aH.out.under hb (Holds.lt aH))
  have aR:=lH (aY.out.under hb (Holds.lt aY))
  have au:=lH (ao.out.trans (hb.mono ao.out.size))
  clear hb ao bA bM aH aY
  have bH:Hid ((fun W=>Holds W gs 48 #[.slice Ar R.length cr,.slice As S.length cs]∧Holds W gk 45 #[.int .i64 2,.slice none 0 0,.int .u32 0,.slice Ap ap.length cp,.slice Bp bp.length dp,.bool false]∧True) eF):=lH ⟨aU,aR,trivial⟩
  go_simp
  refine hK.out _ _ (bH.out) (fun _=>?_)
  clear hK K ab
  try simp only [aP]
  have ab:(fun W=>Holds W gs 48 #[.slice Ar R.length cr,.slice As S.length cs]∧Holds W gk 45 #[.int .i64 2,.slice none 0 0,.int .u32 0,.slice Ap ap.length cp,.slice Bp bp.length dp,.bool false]∧True) eF:=bH.out
  refine tz 22 ⟨some 93,.binOp .eql 4 (.tmp 88) (.tmp 92) 4,4,_,_,some (13,true)⟩ rfl ab ?_
  try simp only [aP]
  refine tz 23 ⟨some 94,.pick (.tmp 84) (.tmp 93) (.const (.bool false)),4,_,_,none⟩ rfl ab ?_
  try simp only [aP]
  refine tz 24 ⟨some 95,.move (.tmp 94),4,_,_,none⟩ rfl ab ?_
  try simp only [aP]
  refine tk 25 ⟨some 96,.load 45 (.tmp 16),45,_,_,some (24,true)⟩ ?_ rfl ?_ ab ?_
  rotate_left 1
  ·(intro W hW;have h0:=hW.2.1.cell 0;have h1:=hW.2.1.cell 1;have h2:=hW.2.1.cell 2;have h3:=hW.2.1.cell 3;have h4:=hW.2.1.cell 4;have h5:=hW.2.1.cell 5;(try dsimp only at hW);go_simp;try with_reducible rfl)
  try simp only [aP]
  refine tz 26 ⟨some 97,.move (.tmp 10),46,_,_,some (24,true)⟩ rfl ab ?_
  try simp only [aP]
  refine tz 27 ⟨some 98,.fieldAddr 48 (.tmp 11) 0,0,_,_,some (24,true)⟩ rfl ab ?_
  try simp only [aP]
  refine tk 28 ⟨some 99,.load 24 (.tmp 98),24,_,_,some (24,true)⟩ ?_ rfl ?_ ab ?_
  rotate_left 1
  ·(intro W hW;have h0:=hW.1.cell 0;have h1:=hW.1.cell 1;(try dsimp only at hW);go_simp;try with_reducible rfl)
  try simp only [aP]
  refine tz 29 ⟨some 100,.move (.tmp 17),24,_,_,some (24,true)⟩ rfl ab ?_
  try simp only [aP]
  refine tz 30 ⟨some 101,.build 48 #[(0,.tmp 99),(1,.tmp 100)],48,_,_,some (24,true)⟩ rfl ab ?_
  try simp only [aP]
  refine tk 32 ⟨some 103,.load 45 (.tmp 16),45,_,_,some (24,true)⟩ ?_ rfl ?_ ab ?_
  rotate_left 1
  ·(intro W hW;have h0:=hW.2.1.cell 0;have h1:=hW.2.1.cell 1;have h2:=hW.2.1.cell 2;have h3:=hW.2.1.cell 3;have h4:=hW.2.1.cell 4;have h5:=hW.2.1.cell 5;(try dsimp only at hW);go_simp;try with_reducible rfl)
  try simp only [aP]
  refine tz 33 ⟨some 104,.move (.tmp 10),46,_,_,some (24,true)⟩ rfl ab ?_
  try simp only [aP]
  refine tz 34 ⟨some 105,.fieldAddr 48 (.tmp 11) 0,0,_,_,some (24,true)⟩ rfl ab ?_
  try simp only [aP]
  refine tk 35 ⟨some 106,.load 24 (.tmp 105),24,_,_,some (24,true)⟩ ?_ rfl ?_ ab ?_
  rotate_left 1
  ·(intro W hW;have h0:=hW.1.cell 0;have h1:=hW.1.cell 1;(try dsimp only at hW);go_simp;try with_reducible rfl)
  try simp only [aP]
  refine tz 36 ⟨some 107,.move (.tmp 17),24,_,_,some (24,true)⟩ rfl ab ?_
  try simp only [aP]
  refine tz 37 ⟨some 108,.build 48 #[(0,.tmp 106),(1,.tmp 107)],48,_,_,some (24,true)⟩ rfl ab ?_
  try simp only [aP]
  refine rdy 31 ⟨some 102,.call ⟨ .value (.func 31),#[.tmp 96,.tmp 97,.tmp 101],#[45,46,48]⟩,4,_,_,some (24,true)⟩ rfl (fun K hK=>?_)
  go_simp
  refine (gG.out eF au).mono ?_
  rintro e eE ⟨rfl,hb⟩
  have a_:=lH (bz.out.trans (hb.mono bz.out.size))
  have cL:=lH (cl.out.under hb)
  have aV:=lH (aU.out.under hb (Holds.lt aU))
  have aW:=lH (aR.out.under hb (Holds.lt aR))
  have aw:=lH (au.out.trans (hb.mono au.out.size))
  clear hb au bz cl aU aR
  have cB:Hid ((fun W=>Holds W gs 48 #[.slice Ar R.length cr,.slice As S.length cs]∧Holds W gk 45 #[.int .i64 2,.slice none 0 0,.int .u32 0,.slice Ap ap.length cp,.slice Bp bp.length dp,.bool false]∧True) eE):=lH ⟨aV,aW,trivial⟩
  go_simp
  refine hK.out _ _ (cB.out) (fun _=>?_)
  clear hK K ab
  try simp only [aP]
  have ab:(fun W=>Holds W gs 48 #[.slice Ar R.length cr,.slice As S.length cs]∧Holds W gk 45 #[.int .i64 2,.slice none 0 0,.int .u32 0,.slice Ap ap.length cp,.slice Bp bp.length dp,.bool false]∧True) eE:=cB.out
  refine rdy 38 ⟨some 109,.call ⟨ .value (.func 32),#[.tmp 103,.tmp 104,.tmp 108],#[45,46,48]⟩,4,_,_,some (24,true)⟩ rfl (fun K hK=>?_)
  go_simp
  refine (gR.out eE aw).mono ?_
  rintro e dQ ⟨rfl,hb⟩
  have bD:=lH (a_.out.trans (hb.mono a_.out.size))
  have bm:=lH (cL.out.under hb)
  have aM:=lH (aV.out.under hb (Holds.lt aV))
  have aN:=lH (aW.out.under hb (Holds.lt aW))
  have aA:=lH (aw.out.trans (hb.mono aw.out.size))
  clear hb aw a_ cL aV aW
  have bQ:Hid ((fun W=>Holds W gs 48 #[.slice Ar R.length cr,.slice As S.length cs]∧Holds W gk 45 #[.int .i64 2,.slice none 0 0,.int .u32 0,.slice Ap ap.length cp,.slice Bp bp.length dp,.bool false]∧True) dQ):=lH ⟨aM,aN,trivial⟩
  go_simp
  refine hK.out _ _ (bQ.out) (fun _=>?_)
  clear hK K ab
  try simp only [aP]
  have ab:(fun W=>Holds W gs 48 #[.slice Ar R.length cr,.slice As S.length cs]∧Holds W gk 45 #[.int .i64 2,.slice none 0 0,.int .u32 0,.slice Ap ap.length cp,.slice Bp bp.length dp,.bool false]∧True) dQ:=bQ.out
  refine tz 39 ⟨some 110,.binOp .eql 4 (.tmp 102) (.tmp 109) 4,4,_,_,some (24,true)⟩ rfl ab ?_
  try simp only [aP]
  refine tz 40 ⟨some 111,.pick (.tmp 95) (.tmp 110) (.const (.bool false)),4,_,_,none⟩ rfl ab ?_
  try simp only [aP]
  refine tz 41 ⟨some 112,.move (.tmp 111),4,_,_,none⟩ rfl ab ?_
  try simp only [aP]
  refine rdy 42 ⟨some 113,.call ⟨ .value (.func 33),#[],#[]⟩,4,_,_,some (41,true)⟩ rfl (fun K hK=>?_)
  go_simp
  refine (known11_any dQ bm).mono ?_
  rintro e gm ⟨rfl,hb⟩
  have ed:=lH (bD.out.trans (hb.mono bD.out.size))
  have HM22:=lH (bm.out.under hb)
  have dK:=lH (aM.out.under hb (Holds.lt aM))
  have eJ:=lH (aN.out.under hb (Holds.lt aN))
  have HZ22_:=lH (aA.out.trans (hb.mono aA.out.size))
  clear hb aA bD bm aM aN
  have bO:Hid ((fun W=>Holds W gs 48 #[.slice Ar R.length cr,.slice As S.length cs]∧Holds W gk 45 #[.int .i64 2,.slice none 0 0,.int .u32 0,.slice Ap ap.length cp,.slice Bp bp.length dp,.bool false]∧True) gm):=lH ⟨dK,eJ,trivial⟩
  go_simp
  refine hK.out _ _ (bO.out) (fun _=>?_)
  clear hK K ab
  try simp only [aP]
  have ab:(fun W=>Holds W gs 48 #[.slice Ar R.length cr,.slice As S.length cs]∧Holds W gk 45 #[.int .i64 2,.slice none 0 0,.int .u32 0,.slice Ap ap.length cp,.slice Bp bp.length dp,.bool false]∧True) gm:=bO.out
  refine tz 43 ⟨some 114,.pick (.tmp 112) (.tmp 113) (.const (.bool false)),4,_,_,none⟩ rfl ab ?_
  try simp only [aP]
  refine tz 44 ⟨some 8,.assign (.tmp 114),4,_,_,none⟩ rfl ab ?_
  try simp only [aP]
  refine dn ?_
  go_wp2_with fail
  go_ret
  exact ⟨rfl,ed⟩
theorem law_signsN (w:World) (hm:CMet w) (x y at_:Int) (hx:0≤x∧x<4294967296) (hy:0≤y∧y<4294967296) {At:Option Addr} {nt ct:Nat} {lt:List Nat} (hT:Rd .u8 w w.heap.size At ct lt) (hnt:lt.length=nt) (hot:∀ x∈lt,x<256) :
  Calls Tryd.prog 9 #[.int .u32 x,.int .u32 y,.slice At nt ct,.int .i64 at_] w fun e w'=>e = .returned (.bool true)∧Below w.heap.size w w':=by
 obtain ⟨k,rfl⟩:∃ k:Nat,x=(k:Int):=⟨x.toNat,by omega⟩
 obtain ⟨m,rfl⟩:∃ m:Nat,y=(m:Int):=⟨y.toNat,by omega⟩
 exact law_signs w hm k m (by omega) (by omega) at_ hT hnt hot
end Go.Proofs.YtflfdglpljodbaaDoor
