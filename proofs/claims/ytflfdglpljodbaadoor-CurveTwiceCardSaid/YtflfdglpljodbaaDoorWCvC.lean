/-
  The first point; whether two are one. No times a point; the same point. Chapter 10's known things; the law of points.
-/
import Derived.Test.YtflfdglpljodbaaDoorWBoxP
import Derived.Deep.RegionLaw
import Derived.Deep.DrawnRows
import Derived.StillTailTactics
import Derived.Test.YtflfdglpljodbaaDoorWCv9
import Derived.Test.YtflfdglpljodbaaDoorWNat17
import Derived.Test.YtflfdglpljodbaaDoorWRefB
import Derived.Deep.RegionHeld3
set_option maxRecDepth 100000
set_option maxHeartbeats 4000000
namespace Go.Proofs.YtflfdglpljodbaaDoor
open Go.RowKit
set_option linter.unusedVariables false
set_option linter.unusedSimpArgs false
def RelQ (w:World) (n:Nat) (i:Value) (wr:World):Prop:=∃ k q:Nat,k≤n∧i = .int .i64 (k:Int)∧Hid (wr=w.drewN q)
theorem eqn_yes (w:World) (A A':Option Addr) (c c' B B':Nat) (l:List Nat) (hr:Rd .u32 w B A c l) (hr':Rd .u32 w B' A' c' l) :
  Calls Tryd.prog 52 #[.slice A l.length c,.slice A' l.length c'] w fun e w'=>e = .returned (.bool true)∧∃ q,w'=w.drewN q:=by
 have hc:l.length≤c:=hr.1
 have hc63:c≤9223372036854775807:=hr.2.1
 have hc':l.length≤c':=hr'.1
 have HR:=lH hr
 have HR':=lH hr'
 have HS:RelQ w l.length (.int .i64 0) w:=⟨0,0,Nat.zero_le _,rfl,lH rfl⟩
 clear hr hr'
 go_enter Tryd.func52,Tryd.ntmps52
 go_wp2_with fail
 go_loopw [13] (fun i wr=>RelQ w l.length i wr) (fun i _=>l.length - (intOf i).toNat)
 case atStart=>exact HS
 case round =>
  obtain ⟨k,q,hk,rfl,HQ⟩:=hrel
  obtain ⟨V,hV⟩:∃ V,V=wr:=⟨_,rfl⟩
  subst hV
  by_cases hlt:k<l.length
  ·have t1:decide ((k:Int)<(l.length:Int))=true:=decide_eq_true (by omega)
   obtain ⟨b,off,x,hA,_,cx,Hx⟩:=(HR.out.drewN q).at_ hlt
   obtain ⟨b',off',x',hA',_,cx',Hx'⟩:=(HR'.out.drewN q).at_ hlt
   have hxx:x'=x:=by rw [Hx.out,Hx'.out]
   subst hxx
   subst hA
   subst hA'
   rw [←HQ.out] at cx cx'
   have b1:(k:Int)<(l.length:Int):=by omega
   have b4:(0:Int)≤k:=by omega
   have HN:Hid (RelQ w l.length (.int .i64 ((k:Int)+1)) V.drew):=lH ⟨k+1,q+1,by omega,by push_cast;rfl,lH (by rw [HQ.out];rfl)⟩
   have hk1:IntKind.i64.wrap ((k:Int)+1)=(k:Int)+1:=IntWalk.i64_in _ (by omega)
   clear Hx Hx' HQ
   go_wp2_with fail
   go_region
   all_goals go_wp2_with fail
   all_goals exact ⟨HN.out,by simp [intOf];omega⟩
  ·obtain rfl:k=l.length:=by omega
   have t1:decide ((l.length:Int)<(l.length:Int))=false:=decide_eq_false (by omega)
   go_wp2_with fail
   go_ret
   exact ⟨rfl,q,HQ.out⟩
def GAt (w:World) (e:Ending) (w':World):Prop :=
 ∃ gx gy,e = .returned (.agg #[.slice (some ⟨gx,0,none⟩) 8 8,.slice (some ⟨gy,0,none⟩) 8 8,.bool false])∧Row .u32 22 w' gx lX∧Row .u32 22 w' gy lY∧Below w.heap.size w w'
theorem ret_pt {R:Ending→World→Prop} {tmps:Array Value} {w:World} {g:Nat} {t:TypeId} {cs:Array Value} {fn:Func} {p:Tmp}
  (hr:fn.results=#[.cell p 26]) (hp:tmps.getD p undef = .pointer (some ⟨g,0,none⟩)) (hg:Holds w g t cs) (hcs:cs.size=3) (hR:R (.returned (.agg cs)) w) :
  bodyPost Tryd.prog fn R .ret { tmps:=tmps,defers:=[] } w:=by
 have hi:(Tryd.prog.info? 26).map (·.size)=some cs.size:=by rw [hcs];kernel_rfl
 refine bodyPost_ret (v:=.agg cs) ?_ rfl hR
 have hp':tmps[p]?.getD undef = .pointer (some ⟨g,0,none⟩):=by simpa using hp
 simp [results,hr,hp',asAddr,run_loadVar_row w g t _ cs (0,0) _ hg Tryd.underlying26 rfl hi,Result.andThen]
theorem curveG_any (w:World):Calls Tryd.prog 28 #[] w (GAt w):=by
 go_enter Tryd.func28,Tryd.ntmps28
 go_wp2_with fail
 generalize hw1:w.alloc (.cells #[.slice (some ⟨w.heap.size+1,0,none⟩) 8 8,.slice (some ⟨w.heap.size+1+1,0,none⟩) 8 8,.bool false] 26)=w1
 have hz1:w1.heap.size=w.heap.size+1:=by rw [←hw1];simp
 generalize hw2:w1.alloc (.cells #[.int .u32 3633889942,.int .u32 4104206661,.int .u32 770388896,.int .u32 1996717441,.int .u32 1671708914,.int .u32 4173129445,.int .u32 3777774151,.int .u32 1796723186] 22)=w2
 have hz2:w2.heap.size=w.heap.size+1+1:=by rw [←hw2];simp [hz1]
 generalize hw3:w2.alloc (.cells #[.int .u32 935285237,.int .u32 3417718888,.int .u32 1798397646,.int .u32 734933847,.int .u32 2081398294,.int .u32 2397563722,.int .u32 4263149467,.int .u32 1340293858] 22)=w3
 have hP:Holds w3 w.heap.size 26 #[.slice (some ⟨w.heap.size+1,0,none⟩) 8 8,.slice (some ⟨w.heap.size+1+1,0,none⟩) 8 8,.bool false]:=by
  rw [←hw3,←hw2,←hw1]
  exact ((Holds.fresh w _ _).alloc _).alloc _
 have hGX:Row .u32 22 w3 (w.heap.size+1) lX:=by
  rw [←hw3,←hw2,←hz1]
  exact (Holds.fresh w1 _ _).alloc _
 have hGY:Row .u32 22 w3 (w.heap.size+1+1) lY:=by
  rw [←hw3,←hz2]
  exact Holds.fresh w2 _ _
 have hb:Below w.heap.size w w3:=by
  rw [←hw3,←hw2,←hw1]
  exact (((Below.refl _ _).alloc (Nat.le_refl _) _).alloc (by simp) _).alloc (by simp;omega) _
 exact ret_pt rfl rfl hP rfl ⟨_,_,rfl,hGX,hGY,hb⟩
theorem refG_any (w:World):Calls Tryd.prog 13 #[] w (GAt w):=by
 go_enter Tryd.func13,Tryd.ntmps13
 go_wp2_with fail
 generalize hw1:w.alloc (.cells #[.slice (some ⟨w.heap.size+1,0,none⟩) 8 8,.slice (some ⟨w.heap.size+1+1,0,none⟩) 8 8,.bool false] 26)=w1
 have hz1:w1.heap.size=w.heap.size+1:=by rw [←hw1];simp
 generalize hw2:w1.alloc (.cells #[.int .u32 3633889942,.int .u32 4104206661,.int .u32 770388896,.int .u32 1996717441,.int .u32 1671708914,.int .u32 4173129445,.int .u32 3777774151,.int .u32 1796723186] 22)=w2
 have hz2:w2.heap.size=w.heap.size+1+1:=by rw [←hw2];simp [hz1]
 generalize hw3:w2.alloc (.cells #[.int .u32 935285237,.int .u32 3417718888,.int .u32 1798397646,.int .u32 734933847,.int .u32 2081398294,.int .u32 2397563722,.int .u32 4263149467,.int .u32 1340293858] 22)=w3
 have hP:Holds w3 w.heap.size 26 #[.slice (some ⟨w.heap.size+1,0,none⟩) 8 8,.slice (some ⟨w.heap.size+1+1,0,none⟩) 8 8,.bool false]:=by
  rw [←hw3,←hw2,←hw1]
  exact ((Holds.fresh w _ _).alloc _).alloc _
 have hGX:Row .u32 22 w3 (w.heap.size+1) lX:=by
  rw [←hw3,←hw2,←hz1]
  exact (Holds.fresh w1 _ _).alloc _
 have hGY:Row .u32 22 w3 (w.heap.size+1+1) lY:=by
  rw [←hw3,←hz2]
  exact Holds.fresh w2 _ _
 have hb:Below w.heap.size w w3:=by
  rw [←hw3,←hw2,←hw1]
  exact (((Below.refl _ _).alloc (Nat.le_refl _) _).alloc (by simp) _).alloc (by simp;omega) _
 exact ret_pt rfl rfl hP rfl ⟨_,_,rfl,hGX,hGY,hb⟩
end Go.Proofs.YtflfdglpljodbaaDoor
namespace Go.Proofs.YtflfdglpljodbaaDoor
open Go.RowKit
set_option linter.unusedVariables false
set_option linter.unusedSimpArgs false
theorem set3 {w:World} {g:Nat} {t:TypeId} {a b c:Value} (h:Holds w g t #[a,b,c]) (p q r:Value):Holds (((w.setCell ⟨g,0,none⟩ p).setCell ⟨g,1,none⟩ q).setCell ⟨g,2,none⟩ r) g t #[p,q,r] :=
 ((h.stored 0 p).stored 1 q).stored 2 r
theorem below3 {B:Nat} {a w:World} (h:Below B a w) {g:Nat} (hg:B≤g) (p q r:Value):Below B a (((w.setCell ⟨g,0,none⟩ p).setCell ⟨g,1,none⟩ q).setCell ⟨g,2,none⟩ r) :=
 ((h.setCell (p:=⟨g,0,none⟩) hg p).setCell (p:=⟨g,1,none⟩) hg q).setCell (p:=⟨g,2,none⟩) hg r
theorem eq_nought (W:World):(Op.equalIn 10000 67 (.agg #[.int .u64 0,.int .u64 0,.int .u64 0,.int .u64 0]) (.agg #[.int .u64 0,.int .u64 0,.int .u64 0,.int .u64 0])).run Tryd.prog W = .ok true W :=
 eqN W (X:=0) (Y:=0) (Nat.lt_trans cP_pos cP_cR) (Nat.lt_trans cP_pos cP_cR) (x0:=0) (x1:=0) (x2:=0) (x3:=0) (y0:=0) (y1:=0) (y2:=0) (y3:=0) rfl rfl true rfl
theorem flat_nought (w:World):Calls Tryd.prog 41 #[.agg #[.int .u64 0,.int .u64 0,.int .u64 0,.int .u64 0,.int .u64 0,.int .u64 0,.int .u64 0,.int .u64 0,.int .u64 0,.int .u64 0,.int .u64 0,.int .u64 0]] w fun e w'=>e = .returned (.agg #[.slice none 0 0,.slice none 0 0,.bool true])∧Below w.heap.size w w':=by
 have hE:=eq_nought
 go_enter Tryd.func41,Tryd.ntmps41
 go_wp2_with fail
 generalize hw1:w.alloc (.cells #[.int .u64 0,.int .u64 0,.int .u64 0,.int .u64 0,.int .u64 0,.int .u64 0,.int .u64 0,.int .u64 0,.int .u64 0,.int .u64 0,.int .u64 0,.int .u64 0] 69)=w1
 have hz1:w1.heap.size=w.heap.size+1:=by rw [←hw1];simp
 have hb1:Below w.heap.size w w1:=by rw [←hw1];exact (Below.refl _ _).alloc (Nat.le_refl _) _
 exact ret_pt (g:=w.heap.size+1) rfl rfl (by rw [←hz1];exact Holds.fresh w1 _ _) rfl ⟨rfl,hb1.alloc hb1.size _⟩
theorem same_yes (w:World) (gx gy hx hy:Nat) (h1:Rd .u32 w w.heap.size (some ⟨gx,0,none⟩) 8 lX) (h2:Rd .u32 w w.heap.size (some ⟨gy,0,none⟩) 8 lY) (h3:Rd .u32 w w.heap.size (some ⟨hx,0,none⟩) 8 lX) (h4:Rd .u32 w w.heap.size (some ⟨hy,0,none⟩) 8 lY) :
  Calls Tryd.prog 18 #[.agg #[.slice (some ⟨gx,0,none⟩) 8 8,.slice (some ⟨gy,0,none⟩) 8 8,.bool false],.agg #[.slice (some ⟨hx,0,none⟩) 8 8,.slice (some ⟨hy,0,none⟩) 8 8,.bool false]] w fun e w'=>e = .returned (.bool true)∧Below w.heap.size w w':=by
 go_enter Tryd.func18,Tryd.ntmps18
 go_wp2_with fail
 obtain ⟨w1,hw1⟩:∃ W,W=w.alloc (.cells #[.slice (some ⟨gx,0,none⟩) 8 8,.slice (some ⟨gy,0,none⟩) 8 8,.bool false] 26):=⟨_,rfl⟩
 rw [←hw1]
 have hz1:w1.heap.size=w.heap.size+1:=by rw [hw1];simp
 have hb1:Below w.heap.size w w1:=by rw [hw1];exact (Below.refl _ _).alloc (Nat.le_refl _) _
 have p1:Holds w1 w.heap.size 26 #[.slice (some ⟨gx,0,none⟩) 8 8,.slice (some ⟨gy,0,none⟩) 8 8,.bool false]:=by rw [hw1];exact Holds.fresh w _ _
 obtain ⟨w2,hw2⟩:∃ W,W=w1.alloc (.cells #[.slice (some ⟨hx,0,none⟩) 8 8,.slice (some ⟨hy,0,none⟩) 8 8,.bool false] 26):=⟨_,rfl⟩
 rw [←hw2]
 have hb2:Below w.heap.size w w2:=by rw [hw2];exact hb1.alloc hb1.size _
 have q1:Holds w2 w.heap.size 26 #[.slice (some ⟨gx,0,none⟩) 8 8,.slice (some ⟨gy,0,none⟩) 8 8,.bool false]:=by rw [hw2];exact p1.alloc _
 have q2:Holds w2 (w.heap.size+1) 26 #[.slice (some ⟨hx,0,none⟩) 8 8,.slice (some ⟨hy,0,none⟩) 8 8,.bool false]:=by rw [hw2,←hz1];exact Holds.fresh w1 _ _
 refine (eqn_yes w2 (some ⟨gx,0,none⟩) (some ⟨hx,0,none⟩) 8 8 _ _ lX (h1.under hb2) (h3.under hb2)).mono ?_
 rintro e w3 ⟨rfl,q,rfl⟩
 obtain ⟨w3,hw3⟩:∃ W,W=w2.drewN q:=⟨_,rfl⟩
 rw [←hw3]
 have r1:Holds w3 w.heap.size 26 #[.slice (some ⟨gx,0,none⟩) 8 8,.slice (some ⟨gy,0,none⟩) 8 8,.bool false]:=by rw [hw3];exact q1
 have r2:Holds w3 (w.heap.size+1) 26 #[.slice (some ⟨hx,0,none⟩) 8 8,.slice (some ⟨hy,0,none⟩) 8 8,.bool false]:=by rw [hw3];exact q2
 have hb3:Below w.heap.size w w3:=by rw [hw3];exact bdN hb2 q
 have c1:w3.cell? ⟨w.heap.size,1,none⟩=some (.slice (some ⟨gy,0,none⟩) 8 8):=r1.cell 1
 have c2:w3.cell? ⟨w.heap.size+1,1,none⟩=some (.slice (some ⟨hy,0,none⟩) 8 8):=r2.cell 1
 have HC:=lH (eqn_yes w3 (some ⟨gy,0,none⟩) (some ⟨hy,0,none⟩) 8 8 _ _ lY (h2.under hb3) (h4.under hb3))
 have HB3:=lH hb3
 clear hw1 hz1 hb1 p1 hw2 hb2 q1 q2 hw3 r1 r2 hb3 h1 h2 h3 h4
 go_wp2_with fail
 refine HC.out.mono ?_
 rintro e w4 ⟨rfl,q,rfl⟩
 go_wp2_with fail
 go_ret
 exact ⟨rfl,bdN HB3.out q⟩
theorem g_on:ptOk lX lY false=true:=by decide +kernel
theorem times_none (w:World) (hm:CMet w) (gx gy:Nat) (h1:Rd .u32 w w.heap.size (some ⟨gx,0,none⟩) 8 lX) (h2:Rd .u32 w w.heap.size (some ⟨gy,0,none⟩) 8 lY) :
  Calls Tryd.prog 22 #[.slice none 0 0,.agg #[.slice (some ⟨gx,0,none⟩) 8 8,.slice (some ⟨gy,0,none⟩) 8 8,.bool false]] w fun e w'=>e = .returned (.agg #[.slice none 0 0,.slice none 0 0,.bool true])∧Below w.heap.size w w':=by
 have HM:=lH hm
 have H1:=lH h1
 have H2:=lH h2
 clear hm h1 h2
 go_enter Tryd.func22,Tryd.ntmps22
 go_wp2_with fail
 obtain ⟨w1,hw1⟩:∃ W,W=w.alloc (.cells #[.slice (some ⟨gx,0,none⟩) 8 8,.slice (some ⟨gy,0,none⟩) 8 8,.bool false] 26):=⟨_,rfl⟩
 rw [←hw1]
 have hz1:w1.heap.size=w.heap.size+1:=by rw [hw1];simp
 have hb1:Below w.heap.size w w1:=by rw [hw1];exact (Below.refl _ _).alloc (Nat.le_refl _) _
 obtain ⟨w2,hw2⟩:∃ W,W=w1.alloc (.cells #[.slice none 0 0,.slice none 0 0,.bool false] 26):=⟨_,rfl⟩
 rw [←hw2]
 have hb2:Below w.heap.size w w2:=by rw [hw2];exact hb1.alloc hb1.size _
 have q2:Holds w2 (w.heap.size+1) 26 #[.slice none 0 0,.slice none 0 0,.bool false]:=by rw [hw2,←hz1];exact Holds.fresh w1 _ _
 refine (curveIs_any w2 (HM.out.under hb2) (some ⟨gx,0,none⟩) (some ⟨gy,0,none⟩) 8 8 lX lY false ((H1.out.under hb2).more hb2.size) ((H2.out.under hb2).more hb2.size) lX_ok.1 lY_ok.1).mono ?_
 rintro e w3 ⟨rfl,hb3⟩
 rw [g_on]
 have HQ3:=lH (q2.under hb3 (Holds.lt q2))
 have HB3:=lH (hb2.trans (hb3.mono hb2.size))
 clear hw1 hz1 hb1 hw2 hb2 q2 hb3 HM H1 H2
 go_wp2_with fail
 refine (curveN_any w3).mono ?_
 rintro e w4 ⟨g,hg,rfl,hP,hb4⟩
 have HQ4:=lH (HQ3.out.under hb4 (Holds.lt HQ3.out))
 have HB4:=lH (HB3.out.trans (hb4.mono HB3.out.size))
 have HD:=lH (div_any w4 w4.heap.size w4.heap.size none (some ⟨g,0,none⟩) 0 8 [] lN (Rd.nil_ _ _ _) (Eight.rd hP rfl) (Nat.le_refl _) (Nat.le_refl _) (fun x hx=>by cases hx) lN_ok.1 (by decide) (by decide) (by decide +kernel))
 clear hg hP hb4 HQ3 HB3
 go_wp2_with fail
 refine HD.out.mono ?_
 rintro e w5 ⟨A2,c2,qq,A3,c3,r,rfl,hnq,hnr,hfq,hfr,hb5⟩
 have hr0:r=[]:=List.eq_nil_of_length_eq_zero (nrm_nil hnr.1 hnr.2.1 (by rw [hnr.2.2];exact Nat.zero_mod _))
 subst hr0
 have HB5:=lH (HB4.out.trans (hb5.mono HB4.out.size))
 have HQ5:=lH (HQ4.out.under hb5 (Holds.lt HQ4.out))
 have HR5:=lH hfr.1
 clear hnq hnr hfq hfr hb5 HB4 HQ4 HD
 go_wp2_with fail
 obtain ⟨w6,hw6⟩:∃ W,W=w5.alloc (.cells #[.int .u64 0,.int .u64 0,.int .u64 0,.int .u64 0,.int .u64 0,.int .u64 0,.int .u64 0,.int .u64 0,.int .u64 0,.int .u64 0,.int .u64 0,.int .u64 0] 69):=⟨_,rfl⟩
 rw [←hw6]
 obtain ⟨s,hs⟩:∃ s,s=w5.heap.size:=⟨_,rfl⟩
 rw [←hs]
 have HS6:Hid (Holds w6 s 69 #[.int .u64 0,.int .u64 0,.int .u64 0,.int .u64 0,.int .u64 0,.int .u64 0,.int .u64 0,.int .u64 0,.int .u64 0,.int .u64 0,.int .u64 0,.int .u64 0]):=lH (by rw [hw6,hs];exact Holds.fresh w5 _ _)
 have HQ6:Hid (Holds w6 (w.heap.size+1) 26 #[.slice none 0 0,.slice none 0 0,.bool false]):=lH (by rw [hw6];exact HQ5.out.alloc _)
 have HB6:Hid (Below w.heap.size w w6):=lH (by rw [hw6];exact HB5.out.alloc HB5.out.size _)
 have hr6:Rd .u32 w6 w6.heap.size A3 c3 []:=by rw [hw6];exact (HR5.out.alloc (Nat.le_refl _) _).more (by simp)
 refine (bits_any w6 _ A3 c3 0 [] hr6 rfl (fun x hx=>by cases hx) (by decide) 0 rfl).mono ?_
 rintro e w7 ⟨rfl,rfl⟩
 have hwm:IntKind.i64.wrap (-1) = -1:=by decide
 obtain ⟨V,hV⟩:∃ V,V=w6:=⟨_,rfl⟩
 clear hw6 hs hr6 HQ5 HB5 HR5
 go_wp2_with fail
 go_loopw [6] (fun i wr=>i = .int .i64 (-1)∧wr=V) (fun _ _=>0)
 case atStart=>exact ⟨rfl,hV.symm⟩
 case round =>
  obtain ⟨rfl,rfl⟩:=hrel
  subst hV
  obtain ⟨s0,s1,s2,s3,s4,s5,s6,s7,s8,s9,sA,sB⟩:wr.cell? ⟨s,0,none⟩=some (.int .u64 0)∧wr.cell? ⟨s,1,none⟩=some (.int .u64 0)∧wr.cell? ⟨s,2,none⟩=some (.int .u64 0)∧wr.cell? ⟨s,3,none⟩=some (.int .u64 0)∧wr.cell? ⟨s,4,none⟩=some (.int .u64 0)∧wr.cell? ⟨s,5,none⟩=some (.int .u64 0)∧wr.cell? ⟨s,6,none⟩=some (.int .u64 0)∧wr.cell? ⟨s,7,none⟩=some (.int .u64 0)∧wr.cell? ⟨s,8,none⟩=some (.int .u64 0)∧wr.cell? ⟨s,9,none⟩=some (.int .u64 0)∧wr.cell? ⟨s,10,none⟩=some (.int .u64 0)∧wr.cell? ⟨s,11,none⟩=some (.int .u64 0) :=
   ⟨HS6.out.cell 0,HS6.out.cell 1,HS6.out.cell 2,HS6.out.cell 3,HS6.out.cell 4,HS6.out.cell 5,HS6.out.cell 6,HS6.out.cell 7,HS6.out.cell 8,HS6.out.cell 9,HS6.out.cell 10,HS6.out.cell 11⟩
  go_wp2_with fail
  refine (flat_nought wr).mono ?_
  rintro e w8 ⟨rfl,hb8⟩
  have HQ8:=lH (HQ6.out.under hb8 (Holds.lt HQ6.out))
  have HB8:=lH (HB6.out.trans (hb8.mono HB6.out.size))
  clear hb8 HQ6 HB6 HS6 s0 s1 s2 s3 s4 s5 s6 s7 s8 s9 sA sB
  have z0:=HQ8.out.cell 0
  have z1:=HQ8.out.cell 1
  have z2:=HQ8.out.cell 2
  have o0:=HQ8.out.open_ 0
  have o1:=HQ8.out.open_ 1
  have o2:=HQ8.out.open_ 2
  go_wp2_with fail
  exact ret_pt (g:=w.heap.size+1) rfl rfl (set3 HQ8.out _ _ _) rfl ⟨rfl,below3 HB8.out (by omega) _ _ _⟩
end Go.Proofs.YtflfdglpljodbaaDoor
namespace Go.Proofs.YtflfdglpljodbaaDoor
open Go.RowKit
set_option linter.unusedVariables false
set_option linter.unusedSimpArgs false
theorem known10_any (w:World) (hm:CMet w):Calls Tryd.prog 20 #[] w fun e w'=>e = .returned (.bool true)∧Below w.heap.size w w':=by
 have HMw:=lH hm
 clear hm
 have hfd:∀ w:World,(Instr.field 26 (.agg #[.slice none 0 0,.slice none 0 0,.bool true]) 2).run Tryd.prog w = .ok (.bool true) w:=fun _=>by kernel_rfl
 go_enter Tryd.func20,Tryd.ntmps20
 go_wp2_with fail
 refine (curveG_any w).mono ?_
 rintro e w1 ⟨gax,gay,rfl,hxa,hya,hbN⟩
 have HSw1:=lH hbN
 have HMw1:=lH (HMw.out.under hbN)
 have Haxw1:=lH (Eight.rd hxa rfl)
 have Hayw1:=lH (Eight.rd hya rfl)
 clear hbN hxa hya
 go_wp2_with fail
 refine (curveIs_any w1 HMw1.out (some ⟨gax,0,none⟩) (some ⟨gay,0,none⟩) 8 8 lX lY false Haxw1.out Hayw1.out lX_ok.1 lY_ok.1).mono ?_
 rintro e w2 ⟨rfl,hbN⟩
 have HSw2:=lH (HSw1.out.trans (hbN.mono HSw1.out.size))
 have HMw2:=lH (HMw1.out.under hbN)
 rw [g_on]
 clear hbN
 go_wp2_with fail
 refine (curveG_any w2).mono ?_
 rintro e w3 ⟨gbx,gby,rfl,hxb,hyb,hbN⟩
 have HSw3:=lH (HSw2.out.trans (hbN.mono HSw2.out.size))
 have HMw3:=lH (HMw2.out.under hbN)
 have Hbxw3:=lH (Eight.rd hxb rfl)
 have Hbyw3:=lH (Eight.rd hyb rfl)
 clear hbN hxb hyb
 go_wp2_with fail
 refine (refG_any w3).mono ?_
 rintro e w4 ⟨gcx,gcy,rfl,hxc,hyc,hbN⟩
 have HSw4:=lH (HSw3.out.trans (hbN.mono HSw3.out.size))
 have HMw4:=lH (HMw3.out.under hbN)
 have Hbxw4:=lH ((Hbxw3.out.under hbN).more hbN.size)
 have Hbyw4:=lH ((Hbyw3.out.under hbN).more hbN.size)
 have Hcxw4:=lH (Eight.rd hxc rfl)
 have Hcyw4:=lH (Eight.rd hyc rfl)
 clear hbN hxc hyc
 go_wp2_with fail
 refine (same_yes w4 gbx gby gcx gcy Hbxw4.out Hbyw4.out Hcxw4.out Hcyw4.out).mono ?_
 rintro e w5 ⟨rfl,hbN⟩
 have HSw5:=lH (HSw4.out.trans (hbN.mono HSw4.out.size))
 have HMw5:=lH (HMw4.out.under hbN)
 clear hbN
 go_wp2_with fail
 refine (curveG_any w5).mono ?_
 rintro e w6 ⟨gdx,gdy,rfl,hxd,hyd,hbN⟩
 have HSw6:=lH (HSw5.out.trans (hbN.mono HSw5.out.size))
 have HMw6:=lH (HMw5.out.under hbN)
 have Hdxw6:=lH (Eight.rd hxd rfl)
 have Hdyw6:=lH (Eight.rd hyd rfl)
 clear hbN hxd hyd
 go_wp2_with fail
 refine (times_none w6 HMw6.out gdx gdy Hdxw6.out Hdyw6.out).mono ?_
 rintro e w7 ⟨rfl,hbN⟩
 have HSw7:=lH (HSw6.out.trans (hbN.mono HSw6.out.size))
 have HMw7:=lH (HMw6.out.under hbN)
 clear hbN
 go_wp2_with fail
 refine (curveN_any w7).mono ?_
 rintro e w8 ⟨gp,hgp,rfl,hPp,hbN⟩
 have HSw8:=lH (HSw7.out.trans (hbN.mono HSw7.out.size))
 have HMw8:=lH (HMw7.out.under hbN)
 have Hpw8:=lH (Eight.rd hPp rfl)
 clear hbN hgp hPp
 go_wp2_with fail
 refine (refN_any w8).mono ?_
 rintro e w9 ⟨gq,hgq,rfl,hPq,hbN⟩
 have HSw9:=lH (HSw8.out.trans (hbN.mono HSw8.out.size))
 have HMw9:=lH (HMw8.out.under hbN)
 have Hpw9:=lH ((Hpw8.out.under hbN).more hbN.size)
 have Hqw9:=lH (Eight.rd hPq rfl)
 clear hbN hgq hPq
 go_wp2_with fail
 refine (cmp'_any w9 _ _ (some ⟨gp,0,none⟩) (some ⟨gq,0,none⟩) 8 8 lN lN Hpw9.out Hqw9.out 0 (cmpL_refl lN)).mono ?_
 rintro e wq ⟨rfl,qq,rfl⟩
 obtain ⟨w10,hN⟩:∃ W,W=w9.drewN qq:=⟨_,rfl⟩
 rw [←hN]
 have HSw10:Hid (Below w.heap.size w w10):=lH (by rw [hN];exact bdN HSw9.out qq)
 have HMw10:Hid (CMet w10):=lH (by rw [hN];exact HMw9.out)
 clear hN
 go_wp2_with fail
 refine (curveP_any w10).mono ?_
 rintro e w11 ⟨gr,hgr,rfl,hPr,hbN⟩
 have HSw11:=lH (HSw10.out.trans (hbN.mono HSw10.out.size))
 have HMw11:=lH (HMw10.out.under hbN)
 have Hrw11:=lH (Eight.rd hPr rfl)
 clear hbN hgr hPr
 go_wp2_with fail
 refine (refP_any w11).mono ?_
 rintro e w12 ⟨gs,hgs,rfl,hPs,hbN⟩
 have HSw12:=lH (HSw11.out.trans (hbN.mono HSw11.out.size))
 have HMw12:=lH (HMw11.out.under hbN)
 have Hrw12:=lH ((Hrw11.out.under hbN).more hbN.size)
 have Hsw12:=lH (Eight.rd hPs rfl)
 clear hbN hgs hPs
 go_wp2_with fail
 refine (cmp'_any w12 _ _ (some ⟨gr,0,none⟩) (some ⟨gs,0,none⟩) 8 8 lP lP Hrw12.out Hsw12.out 0 (cmpL_refl lP)).mono ?_
 rintro e wq ⟨rfl,qq,rfl⟩
 obtain ⟨w13,hN⟩:∃ W,W=w12.drewN qq:=⟨_,rfl⟩
 rw [←hN]
 have HSw13:Hid (Below w.heap.size w w13):=lH (by rw [hN];exact bdN HSw12.out qq)
 have HMw13:Hid (CMet w13):=lH (by rw [hN];exact HMw12.out)
 clear hN
 go_wp2_with fail
 refine (curveB_any w13).mono ?_
 rintro e w14 ⟨gu,hgu,rfl,hPu,hbN⟩
 have HSw14:=lH (HSw13.out.trans (hbN.mono HSw13.out.size))
 have HMw14:=lH (HMw13.out.under hbN)
 have Huw14:=lH (Eight.rd hPu rfl)
 clear hbN hgu hPu
 go_wp2_with fail
 refine (refB_any w14).mono ?_
 rintro e w15 ⟨gv,hgv,rfl,hPv,hbN⟩
 have HSw15:=lH (HSw14.out.trans (hbN.mono HSw14.out.size))
 have HMw15:=lH (HMw14.out.under hbN)
 have Huw15:=lH ((Huw14.out.under hbN).more hbN.size)
 have Hvw15:=lH (Eight.rd hPv rfl)
 clear hbN hgv hPv
 go_wp2_with fail
 refine (cmp'_any w15 _ _ (some ⟨gu,0,none⟩) (some ⟨gv,0,none⟩) 8 8 lB lB Huw15.out Hvw15.out 0 (cmpL_refl lB)).mono ?_
 rintro e wq ⟨rfl,qq,rfl⟩
 obtain ⟨w16,hN⟩:∃ W,W=w15.drewN qq:=⟨_,rfl⟩
 rw [←hN]
 have HSw16:Hid (Below w.heap.size w w16):=lH (by rw [hN];exact bdN HSw15.out qq)
 have HMw16:Hid (CMet w16):=lH (by rw [hN];exact HMw15.out)
 clear hN
 go_wp2_with fail
 go_ret
 exact ⟨rfl,HSw16.out⟩
end Go.Proofs.YtflfdglpljodbaaDoor
