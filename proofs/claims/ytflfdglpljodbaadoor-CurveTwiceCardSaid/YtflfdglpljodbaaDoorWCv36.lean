/-
  Twice the first point, by the standard; three times by adding.
-/
import Derived.Test.YtflfdglpljodbaaDoorWCvF
import Derived.Test.YtflfdglpljodbaaDoorWCvC
import Derived.Deep.RegionLaw
import Derived.Deep.RegionHeld3
import Derived.Deep.DrawnRows
set_option maxRecDepth 100000
set_option maxHeartbeats 20000000
namespace Go.Proofs.YtflfdglpljodbaaDoor
open Go.RowKit
set_option linter.unusedVariables false
set_option linter.unusedSimpArgs false
theorem cut_at {P:Program} {ops:Array Oper} {Q:Exit→Act→World→Prop} {md:Region.Mode} {S:World→Prop} {fuel:Nat} {listed:Array Bool} {a:Act} {w:World} (fuel2:Nat) (listed2:Array Bool) (M:Act→World→Prop)
  (h2:∀ a w,M a w→wpAnyH P md ops Q S fuel2 listed2 a w) (h1:(∀ f l a w,f=fuel2→l=listed2→M a w→wpAnyH P md ops Q S f l a w)→wpAnyH P md ops Q S fuel listed a w):wpAnyH P md ops Q S fuel listed a w :=
 h1 fun _ _ a w hf hl hm=>by subst hf hl;exact h2 a w hm
def tX:List Nat:=[1197906296,2785757436,2012355381,3230231010,78977731,2320644099,2365804414,2096266008]
def tY:List Nat:=[578319313,2651109277,1021936169,3128798694,2675192027,691903174,3683569728,125261072]
def fX:Luc.F:=⟨56515219790691171413109057904011688695424810155802929973526481321309856242040,by decide⟩
def fY:Luc.F:=⟨3377031843712258259223711451491452598088675519751548567112458094635497583569,by decide⟩
theorem tX_num:NumIs tX fX.val:=⟨by unfold Dg tX;decide,.inr (by decide),by decide +kernel⟩
theorem tY_num:NumIs tY fY.val:=⟨by unfold Dg tY;decide,.inr (by decide),by decide +kernel⟩
theorem two_is:Luc.nmul gP 2=some (fX,fY):=by decide +kernel
theorem two_add:Luc.add gP gP=some (fX,fY):=two_is
theorem two_on:Luc.OnC (some (fX,fY)):=by rw [←two_is];exact Luc.nmul_on gP_on 2
theorem three_add:Luc.add (some (fX,fY)) gP=Luc.nmul gP 3:=by rw [←two_is];rfl
theorem small_mod (k:Nat) (h:k<4):val [k] % val lN=k:=by rw [lN_val,show val [k]=k by simp [val],Nat.mod_eq_of_lt (Nat.lt_trans h (by decide))]
theorem two_pt {W:World} {A1 A2:Option Addr} {c1 c2:Nat} {l1 l2:List Nat} {i:Bool} (h:PtV (Luc.nmul gP (val [2] % val lN)) W A1 c1 l1 A2 c2 l2 i):PtV (some (fX,fY)) W A1 c1 l1 A2 c2 l2 i:=by
 rw [small_mod 2 (by omega),two_is] at h
 exact h
theorem three_pt {W:World} {A1 A2:Option Addr} {c1 c2:Nat} {l1 l2:List Nat} {i:Bool} (h:PtV (Luc.nmul gP (val [3] % val lN)) W A1 c1 l1 A2 c2 l2 i):PtV (Luc.nmul gP 3) W A1 c1 l1 A2 c2 l2 i:=by
 rw [small_mod 3 (by omega)] at h
 exact h
theorem two_pa {W:World} {A1 A2:Option Addr} {c1 c2:Nat} {l1 l2:List Nat} {i:Bool} (h:PtV (Luc.add gP gP) W A1 c1 l1 A2 c2 l2 i):PtV (some (fX,fY)) W A1 c1 l1 A2 c2 l2 i:=by
 rw [two_add] at h
 exact h
theorem three_pa {W:World} {A1 A2:Option Addr} {c1 c2:Nat} {l1 l2:List Nat} {i:Bool} (h:PtV (Luc.add (some (fX,fY)) gP) W A1 c1 l1 A2 c2 l2 i):PtV (Luc.nmul gP 3) W A1 c1 l1 A2 c2 l2 i:=by
 rw [three_add] at h
 exact h
theorem three_pr {W:World} {A1 A2:Option Addr} {c1 c2:Nat} {l1 l2:List Nat} {i:Bool} (h:PtV (Luc.nmul gP (val [3])) W A1 c1 l1 A2 c2 l2 i):PtV (Luc.nmul gP 3) W A1 c1 l1 A2 c2 l2 i:=by
 rw [show val [3]=3 by simp [val]] at h
 exact h
theorem one_rd {W W':World} {k:Nat} {ki:Int} (hk:ki=(k:Int)) (h:W'=W.alloc (.cells #[.int .u32 ki] 22)):Rd .u32 W' W'.heap.size (some ⟨W.heap.size,0,none⟩) 1 [k]:=by
 subst h hk
 exact (rd_whole (c:=1) (show Row .u32 22 (W.alloc (.cells #[.int .u32 (k:Int)] 22)) W.heap.size [k] from Holds.fresh _ _ _) (by simp) (by omega)).more (by simp)
theorem dg_small {k:Nat} (h:k<4):Dg [k]:=fun x hx=>by rw [List.mem_singleton.1 hx];omega
theorem law_twice (w:World) (hm:CMet w) (way:Int) :
  Calls Tryd.prog 7 #[.int .i64 way] w fun e w'=>e = .returned (.bool true)∧Below w.heap.size w w':=by
 obtain ⟨w1,hw1⟩:∃ W,W=w.alloc (.cells #[.int .u32 1197906296,.int .u32 2785757436,.int .u32 2012355381,.int .u32 3230231010,.int .u32 78977731,.int .u32 2320644099,.int .u32 2365804414,.int .u32 2096266008] 22):=⟨_,rfl⟩
 have hz1:w1.heap.size=w.heap.size+1:=by rw [hw1];simp
 have hb1:Below w.heap.size w w1:=by rw [hw1];exact (Below.refl _ _).alloc (Nat.le_refl _) _
 obtain ⟨w2,hw2⟩:∃ W,W=w1.alloc (.cells #[.int .u32 578319313,.int .u32 2651109277,.int .u32 1021936169,.int .u32 3128798694,.int .u32 2675192027,.int .u32 691903174,.int .u32 3683569728,.int .u32 125261072] 22):=⟨_,rfl⟩
 have hz2:w2.heap.size=w.heap.size+1+1:=by rw [hw2];simp [hz1]
 have hb2:Below w.heap.size w w2:=by rw [hw2];exact hb1.alloc hb1.size _
 obtain ⟨W0,hw3⟩:∃ W,W=w2.alloc (.cells #[.slice (some ⟨w.heap.size,0,none⟩) 8 8,.slice (some ⟨w.heap.size+1,0,none⟩) 8 8,.bool false] 26):=⟨_,rfl⟩
 have hb3:Below w.heap.size w W0:=by rw [hw3];exact hb2.alloc hb2.size _
 have hbb:Below w2.heap.size w2 W0:=by rw [hw3];exact (Below.refl _ _).alloc (Nat.le_refl _) _
 have hX:Row .u32 22 W0 w.heap.size tX:=by rw [hw3,hw2,hw1];exact ((Holds.fresh w _ _).alloc _).alloc _
 have hY:Row .u32 22 W0 (w.heap.size+1) tY:=by rw [hw3,hw2,←hz1];exact (Holds.fresh w1 _ _).alloc _
 have PB:Hid (Holds W0 (w.heap.size+1+1) 26 #[.slice (some ⟨w.heap.size,0,none⟩) 8 8,.slice (some ⟨w.heap.size+1,0,none⟩) 8 8,.bool false]):=lH (by rw [hw3,←hz2];exact Holds.fresh w2 _ _)
 have VT:Hid (PtV (some (fX,fY)) W0 (some ⟨w.heap.size,0,none⟩) 8 tX (some ⟨w.heap.size+1,0,none⟩) 8 tY false):=lH ⟨rfl,⟨Eight.rd hX rfl,tX_num⟩,⟨Eight.rd hY rfl,tY_num⟩⟩
 have HB:=lH hb3
 have HM:=lH (hm.under hb3)
 have HW:=lH (hw1 ▸ hw2 ▸ hw3:W0=((w.alloc (.cells #[.int .u32 1197906296,.int .u32 2785757436,.int .u32 2012355381,.int .u32 3230231010,.int .u32 78977731,.int .u32 2320644099,.int .u32 2365804414,.int .u32 2096266008] 22)).alloc (.cells #[.int .u32 578319313,.int .u32 2651109277,.int .u32 1021936169,.int .u32 3128798694,.int .u32 2675192027,.int .u32 691903174,.int .u32 3683569728,.int .u32 125261072] 22)).alloc (.cells #[.slice (some ⟨w.heap.size,0,none⟩) 8 8,.slice (some ⟨w.heap.size+1,0,none⟩) 8 8,.bool false] 26))
 clear hw1 hz1 hb1 hw2 hz2 hb2 hw3 hb3 hbb hX hY hm
 by_cases q0:way=0
 ·subst q0
  go_enter Tryd.func7,Tryd.ntmps7
  go_wp2_with fail
  rw [←HW.out]
  clear HW
  refine wp_region_noPanic ?_
  refine wp_region_held_drew (S:=fun W=>Below W0.heap.size W0 W) (by kernel_rfl) ((Below.refl _ W0).drew) (fun hHeld=>?_)
  obtain ⟨P,hV⟩:∃ W,W=W0.drew:=⟨_,rfl⟩
  rw [←hV]
  have HSP:Hid (Below W0.heap.size W0 P):=lH (by rw [hV];exact (Below.refl _ W0).drew)
  replace hHeld:(fun W=>Below W0.heap.size W0 W) P:=HSP.out
  clear hV
  refine cut_at 13 #[true,true,true,true,true,true,false,false,false,true,false,false,false,false,false,false,false,false,false,false] (fun a W=>a.tmps=#[.int .i64 0,tG a 1,.bool false,.pointer (some ⟨w.heap.size+1+1,0,none⟩),tG a 4,tG a 5,tG a 6,tG a 7,tG a 8,tG a 9,tG a 10,tG a 11,tG a 12,tG a 13,tG a 14,tG a 15,tG a 16,tG a 17,tG a 18,tG a 19,.bool true,tG a 21,tG a 22,tG a 23,.agg #[.slice (some ⟨w.heap.size,0,none⟩) 8 8,.slice (some ⟨w.heap.size+1,0,none⟩) 8 8,.bool false],tG a 25,tG a 26,tG a 27,tG a 28,tG a 29,tG a 30,tG a 31,tG a 32,tG a 33,tG a 34,tG a 35,tG a 36,tG a 37,tG a 38,tG a 39,tG a 40,tG a 41,tG a 42,tG a 43,tG a 44,tG a 45,tG a 46,tG a 47,tG a 48,tG a 49,tG a 50,tG a 51,tG a 52]∧a.defers=[]∧Below W0.heap.size W0 W) ?_ (fun hM0=>?_)
  rotate_left 1
  ·have HMt0:=lH hM0
   clear hM0
   refine tk 3 ⟨some 18,.load 26 (.tmp 3),26,_,_,none⟩ ?_ rfl ?_ hHeld ?_
   rotate_left 1
   ·(intro W hW;have hp:=PB.out.under hW (Holds.lt PB.out);have h0:=hp.cell 0;have h1:=hp.cell 1;have h2:=hp.cell 2;(try dsimp only at hW);go_simp;try with_reducible rfl)
   try simp only [aP]
   refine rdy 0 ⟨some 15,.call ⟨ .value (.func 28),#[],#[]⟩,26,_,_,none⟩ rfl (fun K hK=>?_)
   go_simp
   refine (curveGP P).mono ?_
   rintro e P0 ⟨A0_,c0_,a0_,B0_,d0_,b0_,i0_,rfl,hq,hbN⟩
   have HSP0:=lH (HSP.out.trans (hbN.mono HSP.out.size))
   have X0P0:=lH (hq)
   clear hbN hq
   clear HSP
   go_simp
   refine hK.out _ _ (HSP0.out) (fun hHeld=>?_)
   clear hK K
   try simp only [aP]
   refine rdy 1 ⟨some 16,.call ⟨ .value (.func 28),#[],#[]⟩,26,_,_,none⟩ rfl (fun K hK=>?_)
   go_simp
   refine (curveGP P0).mono ?_
   rintro e P01 ⟨A1_,c1_,a1_,B1_,d1_,b1_,i1_,rfl,hq,hbN⟩
   have HSP01:=lH (HSP0.out.trans (hbN.mono HSP0.out.size))
   have X0P01:=lH (X0P0.out.under hbN)
   have X1P01:=lH (hq)
   clear hbN hq
   clear HSP0 X0P0
   go_simp
   refine hK.out _ _ (HSP01.out) (fun hHeld=>?_)
   clear hK K
   try simp only [aP]
   refine rdy 2 ⟨some 17,.call ⟨ .value (.func 14),#[.tmp 15,.tmp 16],#[26,26]⟩,26,_,_,none⟩ rfl (fun K hK=>?_)
   go_simp
   refine (addP P01 (HM.out.under HSP01.out) X0P01.out X1P01.out gP_on gP_on).mono ?_
   rintro e P012 ⟨A2_,c2_,a2_,B2_,d2_,b2_,i2_,rfl,hq,hbN⟩
   have HSP012:=lH (HSP01.out.trans (hbN.mono HSP01.out.size))
   have X2P012:=lH (two_pa hq)
   clear hbN hq
   clear HSP01 X0P01 X1P01
   go_simp
   refine hK.out _ _ (HSP012.out) (fun hHeld=>?_)
   clear hK K
   try simp only [aP]
   refine rdy 4 ⟨some 19,.call ⟨ .value (.func 18),#[.tmp 17,.tmp 18],#[26,26]⟩,4,_,_,none⟩ rfl (fun K hK=>?_)
   go_simp
   refine (sameP P012 X2P012.out (VT.out.under HSP012.out)).mono ?_
   rintro e P0124 ⟨rfl,hbN⟩
   have HSP0124:=lH (HSP012.out.trans (hbN.mono HSP012.out.size))
   clear hbN
   clear HSP012 X2P012
   go_simp
   refine hK.out _ _ (HSP0124.out) (fun hHeld=>?_)
   clear hK K
   try simp only [aP]
   refine tk 5 ⟨some 20,.move (.tmp 19),4,_,_,none⟩ ?_ rfl ?_ hHeld ?_
   rotate_left 1
   ·(intro W hW;(try dsimp only at hW);go_simp;try with_reducible rfl)
   try simp only [aP]
   refine tk 9 ⟨some 24,.load 26 (.tmp 3),26,_,_,some (5,true)⟩ ?_ rfl ?_ hHeld ?_
   rotate_left 1
   ·(intro W hW;have hp:=PB.out.under hW (Holds.lt PB.out);have h0:=hp.cell 0;have h1:=hp.cell 1;have h2:=hp.cell 2;(try dsimp only at hW);go_simp;try with_reducible rfl)
   try simp only [aP]
   exact HMt0.out _ _ _ _ (by kernel_rfl) (by kernel_rfl) ⟨rfl,rfl,HSP0124.out⟩
  rintro a Q ⟨htm,hdf,hbq⟩
  obtain ⟨tm,df⟩:=a
  dsimp only at htm hdf
  subst hdf
  obtain ⟨U,hU⟩:∃ U:Nat→Value,∀ i,tm.getD i undef=U i:=⟨_,fun _=>rfl⟩
  simp only [tG,hU] at htm
  clear hU
  subst htm
  have HSQ:=lH hbq
  have hHeld:(fun W=>Below W0.heap.size W0 W) Q:=hbq
  clear hbq
  refine cut_at 10 #[true,true,true,true,true,true,true,true,true,true,false,false,false,false,false,false,false,false,false,false] (fun a W=>∃ (A8:Option Addr) (c8:Nat) (a8:List Nat) (B8:Option Addr) (d8:Nat) (b8:List Nat) (i8:Bool),a.tmps=#[.int .i64 0,tG a 1,.bool false,.pointer (some ⟨w.heap.size+1+1,0,none⟩),tG a 4,tG a 5,tG a 6,tG a 7,tG a 8,tG a 9,tG a 10,tG a 11,tG a 12,tG a 13,tG a 14,tG a 15,tG a 16,tG a 17,tG a 18,tG a 19,.bool true,tG a 21,tG a 22,.agg #[.slice A8 a8.length c8,.slice B8 b8.length d8,.bool i8],.agg #[.slice (some ⟨w.heap.size,0,none⟩) 8 8,.slice (some ⟨w.heap.size+1,0,none⟩) 8 8,.bool false],tG a 25,tG a 26,tG a 27,tG a 28,tG a 29,tG a 30,tG a 31,tG a 32,tG a 33,tG a 34,tG a 35,tG a 36,tG a 37,tG a 38,tG a 39,tG a 40,tG a 41,tG a 42,tG a 43,tG a 44,tG a 45,tG a 46,tG a 47,tG a 48,tG a 49,tG a 50,tG a 51,tG a 52]∧a.defers=[]∧Below W0.heap.size W0 W∧PtV (some (fX,fY)) W A8 c8 a8 B8 d8 b8 i8) ?_ (fun hM1=>?_)
  rotate_left 1
  ·have HMt1:=lH hM1
   clear hM1
   refine wpAnyH_ready (rs:=[6,7]) (by kernel_rfl) (by simp) ?_
   refine AllReadyH.cons (o:=⟨some 21,.buildSlice 24 1 #[(0,.const (.int .u32 2))],24,_,_,some (5,true)⟩) rfl (fun K hK=>?_) ?_
   obtain ⟨Q6,hN⟩:∃ W,W=Q.alloc (.cells #[.int .u32 2] 22):=⟨_,rfl⟩
   go_simp
   rw [←hN]
   have hbN:Below Q.heap.size Q Q6:=by rw [hN];exact (Below.refl _ _).alloc (Nat.le_refl _) _
   have X6Q6:=lH (one_rd (k:=2) rfl hN)
   have HSQ6:=lH (HSQ.out.trans (hbN.mono HSQ.out.size))
   clear hbN hN
   clear HSQ
   refine hK.out _ _ (HSQ6.out) (fun hHeld=>?_)
   clear hK K
   try simp only [aP]
   refine rdy 7 ⟨some 22,.call ⟨ .value (.func 28),#[],#[]⟩,26,_,_,some (5,true)⟩ rfl (fun K hK=>?_)
   go_simp
   refine (curveGP Q6).mono ?_
   rintro e Q67 ⟨A7_,c7_,a7_,B7_,d7_,b7_,i7_,rfl,hq,hbN⟩
   have HSQ67:=lH (HSQ6.out.trans (hbN.mono HSQ6.out.size))
   have X6Q67:=lH ((X6Q6.out.under hbN).more hbN.size)
   have X7Q67:=lH (hq)
   clear hbN hq
   clear HSQ6 X6Q6
   go_simp
   refine hK.out _ _ (HSQ67.out) (fun hHeld=>?_)
   clear hK K
   try simp only [aP]
   refine rdy 8 ⟨some 23,.call ⟨ .value (.func 22),#[.tmp 21,.tmp 22],#[24,26]⟩,26,_,_,some (5,true)⟩ rfl (fun K hK=>?_)
   go_simp
   refine (timesP Q67 (HM.out.under HSQ67.out) X6Q67.out (dg_small (by omega)) (by simp) X7Q67.out gP_on).mono ?_
   rintro e Q678 ⟨A8_,c8_,a8_,B8_,d8_,b8_,i8_,rfl,hq,hbN⟩
   have HSQ678:=lH (HSQ67.out.trans (hbN.mono HSQ67.out.size))
   have X8Q678:=lH (two_pt hq)
   clear hbN hq
   clear HSQ67 X6Q67 X7Q67
   go_simp
   refine hK.out _ _ (HSQ678.out) (fun hHeld=>?_)
   clear hK K
   try simp only [aP]
   exact HMt1.out _ _ _ _ (by kernel_rfl) (by kernel_rfl) ⟨A8_,c8_,a8_,B8_,d8_,b8_,i8_,rfl,rfl,HSQ678.out,X8Q678.out⟩
   refine AllReadyH.cons (o:=⟨some 22,.call ⟨ .value (.func 28),#[],#[]⟩,26,_,_,some (5,true)⟩) rfl (fun K hK=>?_) AllReadyH.nil
   go_simp
   refine (curveGP Q).mono ?_
   rintro e Q7 ⟨A7_,c7_,a7_,B7_,d7_,b7_,i7_,rfl,hq,hbN⟩
   have HSQ7:=lH (HSQ.out.trans (hbN.mono HSQ.out.size))
   have X7Q7:=lH (hq)
   clear hbN hq
   clear HSQ
   go_simp
   refine hK.out _ _ (HSQ7.out) (fun hHeld=>?_)
   clear hK K
   try simp only [aP]
   refine rdy 6 ⟨some 21,.buildSlice 24 1 #[(0,.const (.int .u32 2))],24,_,_,some (5,true)⟩ rfl (fun K hK=>?_)
   obtain ⟨Q76,hN⟩:∃ W,W=Q7.alloc (.cells #[.int .u32 2] 22):=⟨_,rfl⟩
   go_simp
   rw [←hN]
   have hbN:Below Q7.heap.size Q7 Q76:=by rw [hN];exact (Below.refl _ _).alloc (Nat.le_refl _) _
   have X6Q76:=lH (one_rd (k:=2) rfl hN)
   have HSQ76:=lH (HSQ7.out.trans (hbN.mono HSQ7.out.size))
   have X7Q76:=lH (X7Q7.out.under hbN)
   clear hbN hN
   clear HSQ7 X7Q7
   refine hK.out _ _ (HSQ76.out) (fun hHeld=>?_)
   clear hK K
   try simp only [aP]
   refine rdy 8 ⟨some 23,.call ⟨ .value (.func 22),#[.tmp 21,.tmp 22],#[24,26]⟩,26,_,_,some (5,true)⟩ rfl (fun K hK=>?_)
   go_simp
   refine (timesP Q76 (HM.out.under HSQ76.out) X6Q76.out (dg_small (by omega)) (by simp) X7Q76.out gP_on).mono ?_
   rintro e Q768 ⟨A8_,c8_,a8_,B8_,d8_,b8_,i8_,rfl,hq,hbN⟩
   have HSQ768:=lH (HSQ76.out.trans (hbN.mono HSQ76.out.size))
   have X8Q768:=lH (two_pt hq)
   clear hbN hq
   clear HSQ76 X7Q76 X6Q76
   go_simp
   refine hK.out _ _ (HSQ768.out) (fun hHeld=>?_)
   clear hK K
   try simp only [aP]
   exact HMt1.out _ _ _ _ (by kernel_rfl) (by kernel_rfl) ⟨A8_,c8_,a8_,B8_,d8_,b8_,i8_,rfl,rfl,HSQ768.out,X8Q768.out⟩
  rintro a R ⟨A8,c8,a8,B8,d8,b8,i8,htm,hdf,hbr,hx8⟩
  obtain ⟨tm,df⟩:=a
  dsimp only at htm hdf
  subst hdf
  obtain ⟨U,hU⟩:∃ U:Nat→Value,∀ i,tm.getD i undef=U i:=⟨_,fun _=>rfl⟩
  simp only [tG,hU] at htm
  clear hU
  subst htm
  have HSR:=lH hbr
  have hHeld:(fun W=>Below W0.heap.size W0 W) R:=hbr
  have HSR0:=lH (Below.refl R.heap.size R)
  have HX8:=lH hx8
  clear hbr hx8
  refine rdy 10 ⟨some 25,.call ⟨ .value (.func 18),#[.tmp 23,.tmp 24],#[26,26]⟩,4,_,_,some (5,true)⟩ rfl (fun K hK=>?_)
  go_simp
  refine (sameP R (HX8.out.under HSR0.out) (VT.out.under HSR.out)).mono ?_
  rintro e Ra ⟨rfl,hbN⟩
  have HSRa:=lH (HSR.out.trans (hbN.mono HSR.out.size))
  clear hbN
  clear HSR
  go_simp
  refine hK.out _ _ (HSRa.out) (fun hHeld=>?_)
  clear hK K
  try simp only [aP]
  refine tk 11 ⟨some 26,.pick (.tmp 20) (.tmp 25) (.const (.bool false)),4,_,_,none⟩ ?_ rfl ?_ hHeld ?_
  rotate_left 1
  ·(intro W hW;(try dsimp only at hW);go_simp;try with_reducible rfl)
  try simp only [aP]
  refine tk 12 ⟨some 27,.move (.tmp 26),4,_,_,none⟩ ?_ rfl ?_ hHeld ?_
  rotate_left 1
  ·(intro W hW;(try dsimp only at hW);go_simp;try with_reducible rfl)
  try simp only [aP]
  refine tk 13 ⟨some 28,.load 26 (.tmp 3),26,_,_,some (12,true)⟩ ?_ rfl ?_ hHeld ?_
  rotate_left 1
  ·(intro W hW;have hp:=PB.out.under hW (Holds.lt PB.out);have h0:=hp.cell 0;have h1:=hp.cell 1;have h2:=hp.cell 2;(try dsimp only at hW);go_simp;try with_reducible rfl)
  try simp only [aP]
  refine rdy 14 ⟨some 29,.call ⟨ .value (.func 19),#[.tmp 28],#[26]⟩,4,_,_,some (12,true)⟩ rfl (fun K hK=>?_)
  go_simp
  refine (isP Ra (HM.out.under HSRa.out) (VT.out.under HSRa.out) two_on).mono ?_
  rintro e Rae ⟨rfl,hbN⟩
  have HSRae:=lH (HSRa.out.trans (hbN.mono HSRa.out.size))
  clear hbN
  clear HSRa
  go_simp
  refine hK.out _ _ (HSRae.out) (fun hHeld=>?_)
  clear hK K
  try simp only [aP]
  refine tk 15 ⟨some 30,.pick (.tmp 27) (.tmp 29) (.const (.bool false)),4,_,_,none⟩ ?_ rfl ?_ hHeld ?_
  rotate_left 1
  ·(intro W hW;(try dsimp only at hW);go_simp;try with_reducible rfl)
  try simp only [aP]
  refine tk 16 ⟨some 31,.move (.tmp 30),4,_,_,none⟩ ?_ rfl ?_ hHeld ?_
  rotate_left 1
  ·(intro W hW;(try dsimp only at hW);go_simp;try with_reducible rfl)
  try simp only [aP]
  refine rdy 17 ⟨some 32,.call ⟨ .value (.func 20),#[],#[]⟩,4,_,_,some (16,true)⟩ rfl (fun K hK=>?_)
  go_simp
  refine (known10_any Rae (HM.out.under HSRae.out)).mono ?_
  rintro e Raeh ⟨rfl,hbN⟩
  have HSRaeh:=lH (HSRae.out.trans (hbN.mono HSRae.out.size))
  clear hbN
  clear HSRae
  go_simp
  refine hK.out _ _ (HSRaeh.out) (fun hHeld=>?_)
  clear hK K
  try simp only [aP]
  refine tk 18 ⟨some 33,.pick (.tmp 31) (.tmp 32) (.const (.bool false)),4,_,_,none⟩ ?_ rfl ?_ hHeld ?_
  rotate_left 1
  ·(intro W hW;(try dsimp only at hW);go_simp;try with_reducible rfl)
  try simp only [aP]
  refine tk 19 ⟨some 2,.assign (.tmp 33),4,_,_,none⟩ ?_ rfl ?_ hHeld ?_
  rotate_left 1
  ·(intro W hW;(try dsimp only at hW);go_simp;try with_reducible rfl)
  try simp only [aP]
  refine wpAnyH_done (by kernel_rfl) ?_ _
  refine NoPanic.normal ?_
  go_wp2_with fail
  go_ret
  exact ⟨rfl,HB.out.trans (HSRaeh.out.mono HB.out.size)⟩
 ·by_cases q1:way=1
  ·subst q1
   go_enter Tryd.func7,Tryd.ntmps7
   go_wp2_with fail
   rw [←HW.out]
   clear HW
   refine wp_region_noPanic ?_
   refine wp_region_held_drew (S:=fun W=>Below W0.heap.size W0 W) (by kernel_rfl) ((Below.refl _ W0).drew) (fun hHeld=>?_)
   obtain ⟨P,hV⟩:∃ W,W=W0.drew:=⟨_,rfl⟩
   rw [←hV]
   have HSP:Hid (Below W0.heap.size W0 P):=lH (by rw [hV];exact (Below.refl _ W0).drew)
   replace hHeld:(fun W=>Below W0.heap.size W0 W) P:=HSP.out
   clear hV
   refine cut_at 12 #[true,true,true,true,true,true,true,true,false,false,false,false,false,false,false,false,false,false,false,false] (fun a W=>a.tmps=#[.int .i64 1,tG a 1,.bool false,.pointer (some ⟨w.heap.size+1+1,0,none⟩),tG a 4,tG a 5,tG a 6,tG a 7,tG a 8,tG a 9,tG a 10,tG a 11,tG a 12,tG a 13,tG a 14,tG a 15,tG a 16,tG a 17,tG a 18,tG a 19,tG a 20,tG a 21,tG a 22,tG a 23,tG a 24,tG a 25,tG a 26,tG a 27,tG a 28,tG a 29,tG a 30,tG a 31,tG a 32,tG a 33,tG a 34,tG a 35,tG a 36,tG a 37,tG a 38,tG a 39,tG a 40,.bool true,tG a 42,tG a 43,tG a 44,tG a 45,tG a 46,tG a 47,tG a 48,tG a 49,tG a 50,tG a 51,tG a 52]∧a.defers=[]∧Below W0.heap.size W0 W) ?_ (fun hM0=>?_)
   rotate_left 1
   ·have HMt0:=lH hM0
    clear hM0
    refine tk 0 ⟨some 34,.load 26 (.tmp 3),26,_,_,none⟩ ?_ rfl ?_ hHeld ?_
    rotate_left 1
    ·(intro W hW;have hp:=PB.out.under hW (Holds.lt PB.out);have h0:=hp.cell 0;have h1:=hp.cell 1;have h2:=hp.cell 2;(try dsimp only at hW);go_simp;try with_reducible rfl)
    try simp only [aP]
    refine wpAnyH_ready (rs:=[1,3]) (by kernel_rfl) (by simp) ?_
    refine AllReadyH.cons (o:=⟨some 35,.call ⟨ .value (.func 28),#[],#[]⟩,26,_,_,none⟩) rfl (fun K hK=>?_) ?_
    go_simp
    refine (curveGP P).mono ?_
    rintro e P1 ⟨A1_,c1_,a1_,B1_,d1_,b1_,i1_,rfl,hq,hbN⟩
    have HSP1:=lH (HSP.out.trans (hbN.mono HSP.out.size))
    have X1P1:=lH (hq)
    clear hbN hq
    clear HSP
    go_simp
    refine hK.out _ _ (HSP1.out) (fun hHeld=>?_)
    clear hK K
    try simp only [aP]
    refine wpAnyH_ready (rs:=[2,3]) (by kernel_rfl) (by simp) ?_
    refine AllReadyH.cons (o:=⟨some 36,.call ⟨ .value (.func 14),#[.tmp 34,.tmp 35],#[26,26]⟩,26,_,_,none⟩) rfl (fun K hK=>?_) ?_
    go_simp
    refine (addP P1 (HM.out.under HSP1.out) (VT.out.under HSP1.out) X1P1.out two_on gP_on).mono ?_
    rintro e P12 ⟨A2_,c2_,a2_,B2_,d2_,b2_,i2_,rfl,hq,hbN⟩
    have HSP12:=lH (HSP1.out.trans (hbN.mono HSP1.out.size))
    have X2P12:=lH (three_pa hq)
    clear hbN hq
    clear HSP1 X1P1
    go_simp
    refine hK.out _ _ (HSP12.out) (fun hHeld=>?_)
    clear hK K
    try simp only [aP]
    refine wpAnyH_ready (rs:=[3,4]) (by kernel_rfl) (by simp) ?_
    refine AllReadyH.cons (o:=⟨some 37,.buildSlice 24 1 #[(0,.const (.int .u32 3))],24,_,_,none⟩) rfl (fun K hK=>?_) ?_
    obtain ⟨P123,hN⟩:∃ W,W=P12.alloc (.cells #[.int .u32 3] 22):=⟨_,rfl⟩
    go_simp
    rw [←hN]
    have hbN:Below P12.heap.size P12 P123:=by rw [hN];exact (Below.refl _ _).alloc (Nat.le_refl _) _
    have X3P123:=lH (one_rd (k:=3) rfl hN)
    have HSP123:=lH (HSP12.out.trans (hbN.mono HSP12.out.size))
    have X2P123:=lH (X2P12.out.under hbN)
    clear hbN hN
    clear HSP12 X2P12
    refine hK.out _ _ (HSP123.out) (fun hHeld=>?_)
    clear hK K
    try simp only [aP]
    refine rdy 4 ⟨some 38,.call ⟨ .value (.func 28),#[],#[]⟩,26,_,_,none⟩ rfl (fun K hK=>?_)
    go_simp
    refine (curveGP P123).mono ?_
    rintro e P1234 ⟨A4_,c4_,a4_,B4_,d4_,b4_,i4_,rfl,hq,hbN⟩
    have HSP1234:=lH (HSP123.out.trans (hbN.mono HSP123.out.size))
    have X2P1234:=lH (X2P123.out.under hbN)
    have X3P1234:=lH ((X3P123.out.under hbN).more hbN.size)
    have X4P1234:=lH (hq)
    clear hbN hq
    clear HSP123 X2P123 X3P123
    go_simp
    refine hK.out _ _ (HSP1234.out) (fun hHeld=>?_)
    clear hK K
    try simp only [aP]
    refine rdy 5 ⟨some 39,.call ⟨ .value (.func 22),#[.tmp 37,.tmp 38],#[24,26]⟩,26,_,_,none⟩ rfl (fun K hK=>?_)
    go_simp
    refine (timesP P1234 (HM.out.under HSP1234.out) X3P1234.out (dg_small (by omega)) (by simp) X4P1234.out gP_on).mono ?_
    rintro e P12345 ⟨A5_,c5_,a5_,B5_,d5_,b5_,i5_,rfl,hq,hbN⟩
    have HSP12345:=lH (HSP1234.out.trans (hbN.mono HSP1234.out.size))
    have X2P12345:=lH (X2P1234.out.under hbN)
    have X5P12345:=lH (three_pt hq)
    clear hbN hq
    clear HSP1234 X2P1234 X3P1234 X4P1234
    go_simp
    refine hK.out _ _ (HSP12345.out) (fun hHeld=>?_)
    clear hK K
    try simp only [aP]
    refine rdy 6 ⟨some 40,.call ⟨ .value (.func 18),#[.tmp 36,.tmp 39],#[26,26]⟩,4,_,_,none⟩ rfl (fun K hK=>?_)
    go_simp
    refine (sameP P12345 X2P12345.out X5P12345.out).mono ?_
    rintro e P123456 ⟨rfl,hbN⟩
    have HSP123456:=lH (HSP12345.out.trans (hbN.mono HSP12345.out.size))
    clear hbN
    clear HSP12345 X2P12345 X5P12345
    go_simp
    refine hK.out _ _ (HSP123456.out) (fun hHeld=>?_)
    clear hK K
    try simp only [aP]
    refine tk 7 ⟨some 41,.move (.tmp 40),4,_,_,none⟩ ?_ rfl ?_ hHeld ?_
    rotate_left 1
    ·(intro W hW;(try dsimp only at hW);go_simp;try with_reducible rfl)
    try simp only [aP]
    exact HMt0.out _ _ _ _ (by kernel_rfl) (by kernel_rfl) ⟨rfl,rfl,HSP123456.out⟩
    refine AllReadyH.cons (o:=⟨some 38,.call ⟨ .value (.func 28),#[],#[]⟩,26,_,_,none⟩) rfl (fun K hK=>?_) AllReadyH.nil
    go_simp
    refine (curveGP P12).mono ?_
    rintro e P124 ⟨A4_,c4_,a4_,B4_,d4_,b4_,i4_,rfl,hq,hbN⟩
    have HSP124:=lH (HSP12.out.trans (hbN.mono HSP12.out.size))
    have X2P124:=lH (X2P12.out.under hbN)
    have X4P124:=lH (hq)
    clear hbN hq
    clear HSP12 X2P12
    go_simp
    refine hK.out _ _ (HSP124.out) (fun hHeld=>?_)
    clear hK K
    try simp only [aP]
    refine rdy 3 ⟨some 37,.buildSlice 24 1 #[(0,.const (.int .u32 3))],24,_,_,none⟩ rfl (fun K hK=>?_)
    obtain ⟨P1243,hN⟩:∃ W,W=P124.alloc (.cells #[.int .u32 3] 22):=⟨_,rfl⟩
    go_simp
    rw [←hN]
    have hbN:Below P124.heap.size P124 P1243:=by rw [hN];exact (Below.refl _ _).alloc (Nat.le_refl _) _
    have X3P1243:=lH (one_rd (k:=3) rfl hN)
    have HSP1243:=lH (HSP124.out.trans (hbN.mono HSP124.out.size))
    have X2P1243:=lH (X2P124.out.under hbN)
    have X4P1243:=lH (X4P124.out.under hbN)
    clear hbN hN
    clear HSP124 X2P124 X4P124
    refine hK.out _ _ (HSP1243.out) (fun hHeld=>?_)
    clear hK K
    try simp only [aP]
    refine rdy 5 ⟨some 39,.call ⟨ .value (.func 22),#[.tmp 37,.tmp 38],#[24,26]⟩,26,_,_,none⟩ rfl (fun K hK=>?_)
    go_simp
    refine (timesP P1243 (HM.out.under HSP1243.out) X3P1243.out (dg_small (by omega)) (by simp) X4P1243.out gP_on).mono ?_
    rintro e P12435 ⟨A5_,c5_,a5_,B5_,d5_,b5_,i5_,rfl,hq,hbN⟩
    have HSP12435:=lH (HSP1243.out.trans (hbN.mono HSP1243.out.size))
    have X2P12435:=lH (X2P1243.out.under hbN)
    have X5P12435:=lH (three_pt hq)
    clear hbN hq
    clear HSP1243 X2P1243 X4P1243 X3P1243
    go_simp
    refine hK.out _ _ (HSP12435.out) (fun hHeld=>?_)
    clear hK K
    try simp only [aP]
    refine rdy 6 ⟨some 40,.call ⟨ .value (.func 18),#[.tmp 36,.tmp 39],#[26,26]⟩,4,_,_,none⟩ rfl (fun K hK=>?_)
    go_simp
    refine (sameP P12435 X2P12435.out X5P12435.out).mono ?_
    rintro e P124356 ⟨rfl,hbN⟩
    have HSP124356:=lH (HSP12435.out.trans (hbN.mono HSP12435.out.size))
    clear hbN
    clear HSP12435 X2P12435 X5P12435
    go_simp
    refine hK.out _ _ (HSP124356.out) (fun hHeld=>?_)
    clear hK K
    try simp only [aP]
    refine tk 7 ⟨some 41,.move (.tmp 40),4,_,_,none⟩ ?_ rfl ?_ hHeld ?_
    rotate_left 1
    ·(intro W hW;(try dsimp only at hW);go_simp;try with_reducible rfl)
    try simp only [aP]
    exact HMt0.out _ _ _ _ (by kernel_rfl) (by kernel_rfl) ⟨rfl,rfl,HSP124356.out⟩
    refine AllReadyH.cons (o:=⟨some 37,.buildSlice 24 1 #[(0,.const (.int .u32 3))],24,_,_,none⟩) rfl (fun K hK=>?_) AllReadyH.nil
    obtain ⟨P13,hN⟩:∃ W,W=P1.alloc (.cells #[.int .u32 3] 22):=⟨_,rfl⟩
    go_simp
    rw [←hN]
    have hbN:Below P1.heap.size P1 P13:=by rw [hN];exact (Below.refl _ _).alloc (Nat.le_refl _) _
    have X3P13:=lH (one_rd (k:=3) rfl hN)
    have HSP13:=lH (HSP1.out.trans (hbN.mono HSP1.out.size))
    have X1P13:=lH (X1P1.out.under hbN)
    clear hbN hN
    clear HSP1 X1P1
    refine hK.out _ _ (HSP13.out) (fun hHeld=>?_)
    clear hK K
    try simp only [aP]
    refine rdy 2 ⟨some 36,.call ⟨ .value (.func 14),#[.tmp 34,.tmp 35],#[26,26]⟩,26,_,_,none⟩ rfl (fun K hK=>?_)
    go_simp
    refine (addP P13 (HM.out.under HSP13.out) (VT.out.under HSP13.out) X1P13.out two_on gP_on).mono ?_
    rintro e P132 ⟨A2_,c2_,a2_,B2_,d2_,b2_,i2_,rfl,hq,hbN⟩
    have HSP132:=lH (HSP13.out.trans (hbN.mono HSP13.out.size))
    have X3P132:=lH ((X3P13.out.under hbN).more hbN.size)
    have X2P132:=lH (three_pa hq)
    clear hbN hq
    clear HSP13 X1P13 X3P13
    go_simp
    refine hK.out _ _ (HSP132.out) (fun hHeld=>?_)
    clear hK K
    try simp only [aP]
    refine rdy 4 ⟨some 38,.call ⟨ .value (.func 28),#[],#[]⟩,26,_,_,none⟩ rfl (fun K hK=>?_)
    go_simp
    refine (curveGP P132).mono ?_
    rintro e P1324 ⟨A4_,c4_,a4_,B4_,d4_,b4_,i4_,rfl,hq,hbN⟩
    have HSP1324:=lH (HSP132.out.trans (hbN.mono HSP132.out.size))
    have X3P1324:=lH ((X3P132.out.under hbN).more hbN.size)
    have X2P1324:=lH (X2P132.out.under hbN)
    have X4P1324:=lH (hq)
    clear hbN hq
    clear HSP132 X3P132 X2P132
    go_simp
    refine hK.out _ _ (HSP1324.out) (fun hHeld=>?_)
    clear hK K
    try simp only [aP]
    refine rdy 5 ⟨some 39,.call ⟨ .value (.func 22),#[.tmp 37,.tmp 38],#[24,26]⟩,26,_,_,none⟩ rfl (fun K hK=>?_)
    go_simp
    refine (timesP P1324 (HM.out.under HSP1324.out) X3P1324.out (dg_small (by omega)) (by simp) X4P1324.out gP_on).mono ?_
    rintro e P13245 ⟨A5_,c5_,a5_,B5_,d5_,b5_,i5_,rfl,hq,hbN⟩
    have HSP13245:=lH (HSP1324.out.trans (hbN.mono HSP1324.out.size))
    have X2P13245:=lH (X2P1324.out.under hbN)
    have X5P13245:=lH (three_pt hq)
    clear hbN hq
    clear HSP1324 X3P1324 X2P1324 X4P1324
    go_simp
    refine hK.out _ _ (HSP13245.out) (fun hHeld=>?_)
    clear hK K
    try simp only [aP]
    refine rdy 6 ⟨some 40,.call ⟨ .value (.func 18),#[.tmp 36,.tmp 39],#[26,26]⟩,4,_,_,none⟩ rfl (fun K hK=>?_)
    go_simp
    refine (sameP P13245 X2P13245.out X5P13245.out).mono ?_
    rintro e P132456 ⟨rfl,hbN⟩
    have HSP132456:=lH (HSP13245.out.trans (hbN.mono HSP13245.out.size))
    clear hbN
    clear HSP13245 X2P13245 X5P13245
    go_simp
    refine hK.out _ _ (HSP132456.out) (fun hHeld=>?_)
    clear hK K
    try simp only [aP]
    refine tk 7 ⟨some 41,.move (.tmp 40),4,_,_,none⟩ ?_ rfl ?_ hHeld ?_
    rotate_left 1
    ·(intro W hW;(try dsimp only at hW);go_simp;try with_reducible rfl)
    try simp only [aP]
    exact HMt0.out _ _ _ _ (by kernel_rfl) (by kernel_rfl) ⟨rfl,rfl,HSP132456.out⟩
    refine AllReadyH.cons (o:=⟨some 37,.buildSlice 24 1 #[(0,.const (.int .u32 3))],24,_,_,none⟩) rfl (fun K hK=>?_) AllReadyH.nil
    obtain ⟨P3,hN⟩:∃ W,W=P.alloc (.cells #[.int .u32 3] 22):=⟨_,rfl⟩
    go_simp
    rw [←hN]
    have hbN:Below P.heap.size P P3:=by rw [hN];exact (Below.refl _ _).alloc (Nat.le_refl _) _
    have X3P3:=lH (one_rd (k:=3) rfl hN)
    have HSP3:=lH (HSP.out.trans (hbN.mono HSP.out.size))
    clear hbN hN
    clear HSP
    refine hK.out _ _ (HSP3.out) (fun hHeld=>?_)
    clear hK K
    try simp only [aP]
    refine rdy 1 ⟨some 35,.call ⟨ .value (.func 28),#[],#[]⟩,26,_,_,none⟩ rfl (fun K hK=>?_)
    go_simp
    refine (curveGP P3).mono ?_
    rintro e P31 ⟨A1_,c1_,a1_,B1_,d1_,b1_,i1_,rfl,hq,hbN⟩
    have HSP31:=lH (HSP3.out.trans (hbN.mono HSP3.out.size))
    have X3P31:=lH ((X3P3.out.under hbN).more hbN.size)
    have X1P31:=lH (hq)
    clear hbN hq
    clear HSP3 X3P3
    go_simp
    refine hK.out _ _ (HSP31.out) (fun hHeld=>?_)
    clear hK K
    try simp only [aP]
    refine rdy 2 ⟨some 36,.call ⟨ .value (.func 14),#[.tmp 34,.tmp 35],#[26,26]⟩,26,_,_,none⟩ rfl (fun K hK=>?_)
    go_simp
    refine (addP P31 (HM.out.under HSP31.out) (VT.out.under HSP31.out) X1P31.out two_on gP_on).mono ?_
    rintro e P312 ⟨A2_,c2_,a2_,B2_,d2_,b2_,i2_,rfl,hq,hbN⟩
    have HSP312:=lH (HSP31.out.trans (hbN.mono HSP31.out.size))
    have X3P312:=lH ((X3P31.out.under hbN).more hbN.size)
    have X2P312:=lH (three_pa hq)
    clear hbN hq
    clear HSP31 X3P31 X1P31
    go_simp
    refine hK.out _ _ (HSP312.out) (fun hHeld=>?_)
    clear hK K
    try simp only [aP]
    refine rdy 4 ⟨some 38,.call ⟨ .value (.func 28),#[],#[]⟩,26,_,_,none⟩ rfl (fun K hK=>?_)
    go_simp
    refine (curveGP P312).mono ?_
    rintro e P3124 ⟨A4_,c4_,a4_,B4_,d4_,b4_,i4_,rfl,hq,hbN⟩
    have HSP3124:=lH (HSP312.out.trans (hbN.mono HSP312.out.size))
    have X3P3124:=lH ((X3P312.out.under hbN).more hbN.size)
    have X2P3124:=lH (X2P312.out.under hbN)
    have X4P3124:=lH (hq)
    clear hbN hq
    clear HSP312 X3P312 X2P312
    go_simp
    refine hK.out _ _ (HSP3124.out) (fun hHeld=>?_)
    clear hK K
    try simp only [aP]
    refine rdy 5 ⟨some 39,.call ⟨ .value (.func 22),#[.tmp 37,.tmp 38],#[24,26]⟩,26,_,_,none⟩ rfl (fun K hK=>?_)
    go_simp
    refine (timesP P3124 (HM.out.under HSP3124.out) X3P3124.out (dg_small (by omega)) (by simp) X4P3124.out gP_on).mono ?_
    rintro e P31245 ⟨A5_,c5_,a5_,B5_,d5_,b5_,i5_,rfl,hq,hbN⟩
    have HSP31245:=lH (HSP3124.out.trans (hbN.mono HSP3124.out.size))
    have X2P31245:=lH (X2P3124.out.under hbN)
    have X5P31245:=lH (three_pt hq)
    clear hbN hq
    clear HSP3124 X3P3124 X2P3124 X4P3124
    go_simp
    refine hK.out _ _ (HSP31245.out) (fun hHeld=>?_)
    clear hK K
    try simp only [aP]
    refine rdy 6 ⟨some 40,.call ⟨ .value (.func 18),#[.tmp 36,.tmp 39],#[26,26]⟩,4,_,_,none⟩ rfl (fun K hK=>?_)
    go_simp
    refine (sameP P31245 X2P31245.out X5P31245.out).mono ?_
    rintro e P312456 ⟨rfl,hbN⟩
    have HSP312456:=lH (HSP31245.out.trans (hbN.mono HSP31245.out.size))
    clear hbN
    clear HSP31245 X2P31245 X5P31245
    go_simp
    refine hK.out _ _ (HSP312456.out) (fun hHeld=>?_)
    clear hK K
    try simp only [aP]
    refine tk 7 ⟨some 41,.move (.tmp 40),4,_,_,none⟩ ?_ rfl ?_ hHeld ?_
    rotate_left 1
    ·(intro W hW;(try dsimp only at hW);go_simp;try with_reducible rfl)
    try simp only [aP]
    exact HMt0.out _ _ _ _ (by kernel_rfl) (by kernel_rfl) ⟨rfl,rfl,HSP312456.out⟩
   rintro a Q ⟨htm,hdf,hbq⟩
   obtain ⟨tm,df⟩:=a
   dsimp only at htm hdf
   subst hdf
   obtain ⟨U,hU⟩:∃ U:Nat→Value,∀ i,tm.getD i undef=U i:=⟨_,fun _=>rfl⟩
   simp only [tG,hU] at htm
   clear hU
   subst htm
   have HSQ:=lH hbq
   have hHeld:(fun W=>Below W0.heap.size W0 W) Q:=hbq
   clear hbq
   refine cut_at 6 #[true,true,true,true,true,true,true,true,true,true,true,true,true,true,false,false,false,false,false,false] (fun a W=>∃ (A10:Option Addr) (c10:Nat) (a10:List Nat) (B10:Option Addr) (d10:Nat) (b10:List Nat) (i10:Bool) (A13:Option Addr) (c13:Nat) (a13:List Nat) (B13:Option Addr) (d13:Nat) (b13:List Nat) (i13:Bool),a.tmps=#[.int .i64 1,tG a 1,.bool false,.pointer (some ⟨w.heap.size+1+1,0,none⟩),tG a 4,tG a 5,tG a 6,tG a 7,tG a 8,tG a 9,tG a 10,tG a 11,tG a 12,tG a 13,tG a 14,tG a 15,tG a 16,tG a 17,tG a 18,tG a 19,tG a 20,tG a 21,tG a 22,tG a 23,tG a 24,tG a 25,tG a 26,tG a 27,tG a 28,tG a 29,tG a 30,tG a 31,tG a 32,tG a 33,tG a 34,tG a 35,tG a 36,tG a 37,tG a 38,tG a 39,tG a 40,.bool true,tG a 42,tG a 43,.agg #[.slice A10 a10.length c10,.slice B10 b10.length d10,.bool i10],tG a 45,tG a 46,.agg #[.slice A13 a13.length c13,.slice B13 b13.length d13,.bool i13],tG a 48,tG a 49,tG a 50,tG a 51,tG a 52]∧a.defers=[]∧Below W0.heap.size W0 W∧PtV (Luc.nmul gP 3) W A10 c10 a10 B10 d10 b10 i10∧PtV (Luc.nmul gP 3) W A13 c13 a13 B13 d13 b13 i13) ?_ (fun hM1=>?_)
   rotate_left 1
   ·have HMt1:=lH hM1
    clear hM1
    refine wpAnyH_ready (rs:=[8,9,11]) (by kernel_rfl) (by simp) ?_
    refine AllReadyH.cons (o:=⟨some 42,.buildSlice 24 1 #[(0,.const (.int .u32 3))],24,_,_,some (7,true)⟩) rfl (fun K hK=>?_) ?_
    obtain ⟨Q8,hN⟩:∃ W,W=Q.alloc (.cells #[.int .u32 3] 22):=⟨_,rfl⟩
    go_simp
    rw [←hN]
    have hbN:Below Q.heap.size Q Q8:=by rw [hN];exact (Below.refl _ _).alloc (Nat.le_refl _) _
    have X8Q8:=lH (one_rd (k:=3) rfl hN)
    have HSQ8:=lH (HSQ.out.trans (hbN.mono HSQ.out.size))
    clear hbN hN
    clear HSQ
    refine hK.out _ _ (HSQ8.out) (fun hHeld=>?_)
    clear hK K
    try simp only [aP]
    refine wpAnyH_ready (rs:=[9,11]) (by kernel_rfl) (by simp) ?_
    refine AllReadyH.cons (o:=⟨some 43,.call ⟨ .value (.func 28),#[],#[]⟩,26,_,_,some (7,true)⟩) rfl (fun K hK=>?_) ?_
    go_simp
    refine (curveGP Q8).mono ?_
    rintro e Q89 ⟨A9_,c9_,a9_,B9_,d9_,b9_,i9_,rfl,hq,hbN⟩
    have HSQ89:=lH (HSQ8.out.trans (hbN.mono HSQ8.out.size))
    have X8Q89:=lH ((X8Q8.out.under hbN).more hbN.size)
    have X9Q89:=lH (hq)
    clear hbN hq
    clear HSQ8 X8Q8
    go_simp
    refine hK.out _ _ (HSQ89.out) (fun hHeld=>?_)
    clear hK K
    try simp only [aP]
    refine wpAnyH_ready (rs:=[10,11]) (by kernel_rfl) (by simp) ?_
    refine AllReadyH.cons (o:=⟨some 44,.call ⟨ .value (.func 22),#[.tmp 42,.tmp 43],#[24,26]⟩,26,_,_,some (7,true)⟩) rfl (fun K hK=>?_) ?_
    go_simp
    refine (timesP Q89 (HM.out.under HSQ89.out) X8Q89.out (dg_small (by omega)) (by simp) X9Q89.out gP_on).mono ?_
    rintro e Q89a ⟨A10_,c10_,a10_,B10_,d10_,b10_,i10_,rfl,hq,hbN⟩
    have HSQ89a:=lH (HSQ89.out.trans (hbN.mono HSQ89.out.size))
    have X10Q89a:=lH (three_pt hq)
    clear hbN hq
    clear HSQ89 X8Q89 X9Q89
    go_simp
    refine hK.out _ _ (HSQ89a.out) (fun hHeld=>?_)
    clear hK K
    try simp only [aP]
    refine wpAnyH_ready (rs:=[11,12]) (by kernel_rfl) (by simp) ?_
    refine AllReadyH.cons (o:=⟨some 45,.buildSlice 24 1 #[(0,.const (.int .u32 3))],24,_,_,some (7,true)⟩) rfl (fun K hK=>?_) ?_
    obtain ⟨Q89ab,hN⟩:∃ W,W=Q89a.alloc (.cells #[.int .u32 3] 22):=⟨_,rfl⟩
    go_simp
    rw [←hN]
    have hbN:Below Q89a.heap.size Q89a Q89ab:=by rw [hN];exact (Below.refl _ _).alloc (Nat.le_refl _) _
    have X11Q89ab:=lH (one_rd (k:=3) rfl hN)
    have HSQ89ab:=lH (HSQ89a.out.trans (hbN.mono HSQ89a.out.size))
    have X10Q89ab:=lH (X10Q89a.out.under hbN)
    clear hbN hN
    clear HSQ89a X10Q89a
    refine hK.out _ _ (HSQ89ab.out) (fun hHeld=>?_)
    clear hK K
    try simp only [aP]
    refine rdy 12 ⟨some 46,.call ⟨ .value (.func 13),#[],#[]⟩,26,_,_,some (7,true)⟩ rfl (fun K hK=>?_)
    go_simp
    refine (refGP Q89ab).mono ?_
    rintro e Q89abc ⟨A12_,c12_,a12_,B12_,d12_,b12_,i12_,rfl,hq,hbN⟩
    have HSQ89abc:=lH (HSQ89ab.out.trans (hbN.mono HSQ89ab.out.size))
    have X10Q89abc:=lH (X10Q89ab.out.under hbN)
    have X11Q89abc:=lH ((X11Q89ab.out.under hbN).more hbN.size)
    have X12Q89abc:=lH (hq)
    clear hbN hq
    clear HSQ89ab X10Q89ab X11Q89ab
    go_simp
    refine hK.out _ _ (HSQ89abc.out) (fun hHeld=>?_)
    clear hK K
    try simp only [aP]
    refine rdy 13 ⟨some 47,.call ⟨ .value (.func 11),#[.tmp 45,.tmp 46],#[24,26]⟩,26,_,_,some (7,true)⟩ rfl (fun K hK=>?_)
    go_simp
    refine (timesRP Q89abc X11Q89abc.out (dg_small (by omega)) (by simp) (.inr (by simp)) X12Q89abc.out gP_on).mono ?_
    rintro e Q89abcd ⟨A13_,c13_,a13_,B13_,d13_,b13_,i13_,rfl,hq,hbN⟩
    have HSQ89abcd:=lH (HSQ89abc.out.trans (hbN.mono HSQ89abc.out.size))
    have X10Q89abcd:=lH (X10Q89abc.out.under hbN)
    have X13Q89abcd:=lH (three_pr hq)
    clear hbN hq
    clear HSQ89abc X10Q89abc X11Q89abc X12Q89abc
    go_simp
    refine hK.out _ _ (HSQ89abcd.out) (fun hHeld=>?_)
    clear hK K
    try simp only [aP]
    exact HMt1.out _ _ _ _ (by kernel_rfl) (by kernel_rfl) ⟨A10_,c10_,a10_,B10_,d10_,b10_,i10_,A13_,c13_,a13_,B13_,d13_,b13_,i13_,rfl,rfl,HSQ89abcd.out,X10Q89abcd.out,X13Q89abcd.out⟩
    refine AllReadyH.cons (o:=⟨some 46,.call ⟨ .value (.func 13),#[],#[]⟩,26,_,_,some (7,true)⟩) rfl (fun K hK=>?_) AllReadyH.nil
    go_simp
    refine (refGP Q89a).mono ?_
    rintro e Q89ac ⟨A12_,c12_,a12_,B12_,d12_,b12_,i12_,rfl,hq,hbN⟩
    have HSQ89ac:=lH (HSQ89a.out.trans (hbN.mono HSQ89a.out.size))
    have X10Q89ac:=lH (X10Q89a.out.under hbN)
    have X12Q89ac:=lH (hq)
    clear hbN hq
    clear HSQ89a X10Q89a
    go_simp
    refine hK.out _ _ (HSQ89ac.out) (fun hHeld=>?_)
    clear hK K
    try simp only [aP]
    refine rdy 11 ⟨some 45,.buildSlice 24 1 #[(0,.const (.int .u32 3))],24,_,_,some (7,true)⟩ rfl (fun K hK=>?_)
    obtain ⟨Q89acb,hN⟩:∃ W,W=Q89ac.alloc (.cells #[.int .u32 3] 22):=⟨_,rfl⟩
    go_simp
    rw [←hN]
    have hbN:Below Q89ac.heap.size Q89ac Q89acb:=by rw [hN];exact (Below.refl _ _).alloc (Nat.le_refl _) _
    have X11Q89acb:=lH (one_rd (k:=3) rfl hN)
    have HSQ89acb:=lH (HSQ89ac.out.trans (hbN.mono HSQ89ac.out.size))
    have X10Q89acb:=lH (X10Q89ac.out.under hbN)
    have X12Q89acb:=lH (X12Q89ac.out.under hbN)
    clear hbN hN
    clear HSQ89ac X10Q89ac X12Q89ac
    refine hK.out _ _ (HSQ89acb.out) (fun hHeld=>?_)
    clear hK K
    try simp only [aP]
    refine rdy 13 ⟨some 47,.call ⟨ .value (.func 11),#[.tmp 45,.tmp 46],#[24,26]⟩,26,_,_,some (7,true)⟩ rfl (fun K hK=>?_)
    go_simp
    refine (timesRP Q89acb X11Q89acb.out (dg_small (by omega)) (by simp) (.inr (by simp)) X12Q89acb.out gP_on).mono ?_
    rintro e Q89acbd ⟨A13_,c13_,a13_,B13_,d13_,b13_,i13_,rfl,hq,hbN⟩
    have HSQ89acbd:=lH (HSQ89acb.out.trans (hbN.mono HSQ89acb.out.size))
    have X10Q89acbd:=lH (X10Q89acb.out.under hbN)
    have X13Q89acbd:=lH (three_pr hq)
    clear hbN hq
    clear HSQ89acb X10Q89acb X12Q89acb X11Q89acb
    go_simp
    refine hK.out _ _ (HSQ89acbd.out) (fun hHeld=>?_)
    clear hK K
    try simp only [aP]
    exact HMt1.out _ _ _ _ (by kernel_rfl) (by kernel_rfl) ⟨A10_,c10_,a10_,B10_,d10_,b10_,i10_,A13_,c13_,a13_,B13_,d13_,b13_,i13_,rfl,rfl,HSQ89acbd.out,X10Q89acbd.out,X13Q89acbd.out⟩
    refine AllReadyH.cons (o:=⟨some 45,.buildSlice 24 1 #[(0,.const (.int .u32 3))],24,_,_,some (7,true)⟩) rfl (fun K hK=>?_) AllReadyH.nil
    obtain ⟨Q89b,hN⟩:∃ W,W=Q89.alloc (.cells #[.int .u32 3] 22):=⟨_,rfl⟩
    go_simp
    rw [←hN]
    have hbN:Below Q89.heap.size Q89 Q89b:=by rw [hN];exact (Below.refl _ _).alloc (Nat.le_refl _) _
    have X11Q89b:=lH (one_rd (k:=3) rfl hN)
    have HSQ89b:=lH (HSQ89.out.trans (hbN.mono HSQ89.out.size))
    have X8Q89b:=lH ((X8Q89.out.under hbN).more hbN.size)
    have X9Q89b:=lH (X9Q89.out.under hbN)
    clear hbN hN
    clear HSQ89 X8Q89 X9Q89
    refine hK.out _ _ (HSQ89b.out) (fun hHeld=>?_)
    clear hK K
    try simp only [aP]
    refine rdy 10 ⟨some 44,.call ⟨ .value (.func 22),#[.tmp 42,.tmp 43],#[24,26]⟩,26,_,_,some (7,true)⟩ rfl (fun K hK=>?_)
    go_simp
    refine (timesP Q89b (HM.out.under HSQ89b.out) X8Q89b.out (dg_small (by omega)) (by simp) X9Q89b.out gP_on).mono ?_
    rintro e Q89ba ⟨A10_,c10_,a10_,B10_,d10_,b10_,i10_,rfl,hq,hbN⟩
    have HSQ89ba:=lH (HSQ89b.out.trans (hbN.mono HSQ89b.out.size))
    have X11Q89ba:=lH ((X11Q89b.out.under hbN).more hbN.size)
    have X10Q89ba:=lH (three_pt hq)
    clear hbN hq
    clear HSQ89b X8Q89b X9Q89b X11Q89b
    go_simp
    refine hK.out _ _ (HSQ89ba.out) (fun hHeld=>?_)
    clear hK K
    try simp only [aP]
    refine rdy 12 ⟨some 46,.call ⟨ .value (.func 13),#[],#[]⟩,26,_,_,some (7,true)⟩ rfl (fun K hK=>?_)
    go_simp
    refine (refGP Q89ba).mono ?_
    rintro e Q89bac ⟨A12_,c12_,a12_,B12_,d12_,b12_,i12_,rfl,hq,hbN⟩
    have HSQ89bac:=lH (HSQ89ba.out.trans (hbN.mono HSQ89ba.out.size))
    have X11Q89bac:=lH ((X11Q89ba.out.under hbN).more hbN.size)
    have X10Q89bac:=lH (X10Q89ba.out.under hbN)
    have X12Q89bac:=lH (hq)
    clear hbN hq
    clear HSQ89ba X11Q89ba X10Q89ba
    go_simp
    refine hK.out _ _ (HSQ89bac.out) (fun hHeld=>?_)
    clear hK K
    try simp only [aP]
    refine rdy 13 ⟨some 47,.call ⟨ .value (.func 11),#[.tmp 45,.tmp 46],#[24,26]⟩,26,_,_,some (7,true)⟩ rfl (fun K hK=>?_)
    go_simp
    refine (timesRP Q89bac X11Q89bac.out (dg_small (by omega)) (by simp) (.inr (by simp)) X12Q89bac.out gP_on).mono ?_
    rintro e Q89bacd ⟨A13_,c13_,a13_,B13_,d13_,b13_,i13_,rfl,hq,hbN⟩
    have HSQ89bacd:=lH (HSQ89bac.out.trans (hbN.mono HSQ89bac.out.size))
    have X10Q89bacd:=lH (X10Q89bac.out.under hbN)
    have X13Q89bacd:=lH (three_pr hq)
    clear hbN hq
    clear HSQ89bac X11Q89bac X10Q89bac X12Q89bac
    go_simp
    refine hK.out _ _ (HSQ89bacd.out) (fun hHeld=>?_)
    clear hK K
    try simp only [aP]
    exact HMt1.out _ _ _ _ (by kernel_rfl) (by kernel_rfl) ⟨A10_,c10_,a10_,B10_,d10_,b10_,i10_,A13_,c13_,a13_,B13_,d13_,b13_,i13_,rfl,rfl,HSQ89bacd.out,X10Q89bacd.out,X13Q89bacd.out⟩
    refine AllReadyH.cons (o:=⟨some 45,.buildSlice 24 1 #[(0,.const (.int .u32 3))],24,_,_,some (7,true)⟩) rfl (fun K hK=>?_) AllReadyH.nil
    obtain ⟨Q8b,hN⟩:∃ W,W=Q8.alloc (.cells #[.int .u32 3] 22):=⟨_,rfl⟩
    go_simp
    rw [←hN]
    have hbN:Below Q8.heap.size Q8 Q8b:=by rw [hN];exact (Below.refl _ _).alloc (Nat.le_refl _) _
    have X11Q8b:=lH (one_rd (k:=3) rfl hN)
    have HSQ8b:=lH (HSQ8.out.trans (hbN.mono HSQ8.out.size))
    have X8Q8b:=lH ((X8Q8.out.under hbN).more hbN.size)
    clear hbN hN
    clear HSQ8 X8Q8
    refine hK.out _ _ (HSQ8b.out) (fun hHeld=>?_)
    clear hK K
    try simp only [aP]
    refine rdy 9 ⟨some 43,.call ⟨ .value (.func 28),#[],#[]⟩,26,_,_,some (7,true)⟩ rfl (fun K hK=>?_)
    go_simp
    refine (curveGP Q8b).mono ?_
    rintro e Q8b9 ⟨A9_,c9_,a9_,B9_,d9_,b9_,i9_,rfl,hq,hbN⟩
    have HSQ8b9:=lH (HSQ8b.out.trans (hbN.mono HSQ8b.out.size))
    have X8Q8b9:=lH ((X8Q8b.out.under hbN).more hbN.size)
    have X11Q8b9:=lH ((X11Q8b.out.under hbN).more hbN.size)
    have X9Q8b9:=lH (hq)
    clear hbN hq
    clear HSQ8b X8Q8b X11Q8b
    go_simp
    refine hK.out _ _ (HSQ8b9.out) (fun hHeld=>?_)
    clear hK K
    try simp only [aP]
    refine rdy 10 ⟨some 44,.call ⟨ .value (.func 22),#[.tmp 42,.tmp 43],#[24,26]⟩,26,_,_,some (7,true)⟩ rfl (fun K hK=>?_)
    go_simp
    refine (timesP Q8b9 (HM.out.under HSQ8b9.out) X8Q8b9.out (dg_small (by omega)) (by simp) X9Q8b9.out gP_on).mono ?_
    rintro e Q8b9a ⟨A10_,c10_,a10_,B10_,d10_,b10_,i10_,rfl,hq,hbN⟩
    have HSQ8b9a:=lH (HSQ8b9.out.trans (hbN.mono HSQ8b9.out.size))
    have X11Q8b9a:=lH ((X11Q8b9.out.under hbN).more hbN.size)
    have X10Q8b9a:=lH (three_pt hq)
    clear hbN hq
    clear HSQ8b9 X8Q8b9 X11Q8b9 X9Q8b9
    go_simp
    refine hK.out _ _ (HSQ8b9a.out) (fun hHeld=>?_)
    clear hK K
    try simp only [aP]
    refine rdy 12 ⟨some 46,.call ⟨ .value (.func 13),#[],#[]⟩,26,_,_,some (7,true)⟩ rfl (fun K hK=>?_)
    go_simp
    refine (refGP Q8b9a).mono ?_
    rintro e Q8b9ac ⟨A12_,c12_,a12_,B12_,d12_,b12_,i12_,rfl,hq,hbN⟩
    have HSQ8b9ac:=lH (HSQ8b9a.out.trans (hbN.mono HSQ8b9a.out.size))
    have X11Q8b9ac:=lH ((X11Q8b9a.out.under hbN).more hbN.size)
    have X10Q8b9ac:=lH (X10Q8b9a.out.under hbN)
    have X12Q8b9ac:=lH (hq)
    clear hbN hq
    clear HSQ8b9a X11Q8b9a X10Q8b9a
    go_simp
    refine hK.out _ _ (HSQ8b9ac.out) (fun hHeld=>?_)
    clear hK K
    try simp only [aP]
    refine rdy 13 ⟨some 47,.call ⟨ .value (.func 11),#[.tmp 45,.tmp 46],#[24,26]⟩,26,_,_,some (7,true)⟩ rfl (fun K hK=>?_)
    go_simp
    refine (timesRP Q8b9ac X11Q8b9ac.out (dg_small (by omega)) (by simp) (.inr (by simp)) X12Q8b9ac.out gP_on).mono ?_
    rintro e Q8b9acd ⟨A13_,c13_,a13_,B13_,d13_,b13_,i13_,rfl,hq,hbN⟩
    have HSQ8b9acd:=lH (HSQ8b9ac.out.trans (hbN.mono HSQ8b9ac.out.size))
    have X10Q8b9acd:=lH (X10Q8b9ac.out.under hbN)
    have X13Q8b9acd:=lH (three_pr hq)
    clear hbN hq
    clear HSQ8b9ac X11Q8b9ac X10Q8b9ac X12Q8b9ac
    go_simp
    refine hK.out _ _ (HSQ8b9acd.out) (fun hHeld=>?_)
    clear hK K
    try simp only [aP]
    exact HMt1.out _ _ _ _ (by kernel_rfl) (by kernel_rfl) ⟨A10_,c10_,a10_,B10_,d10_,b10_,i10_,A13_,c13_,a13_,B13_,d13_,b13_,i13_,rfl,rfl,HSQ8b9acd.out,X10Q8b9acd.out,X13Q8b9acd.out⟩
    refine AllReadyH.cons (o:=⟨some 43,.call ⟨ .value (.func 28),#[],#[]⟩,26,_,_,some (7,true)⟩) rfl (fun K hK=>?_) ?_
    go_simp
    refine (curveGP Q).mono ?_
    rintro e Q9 ⟨A9_,c9_,a9_,B9_,d9_,b9_,i9_,rfl,hq,hbN⟩
    have HSQ9:=lH (HSQ.out.trans (hbN.mono HSQ.out.size))
    have X9Q9:=lH (hq)
    clear hbN hq
    clear HSQ
    go_simp
    refine hK.out _ _ (HSQ9.out) (fun hHeld=>?_)
    clear hK K
    try simp only [aP]
    refine wpAnyH_ready (rs:=[8,11]) (by kernel_rfl) (by simp) ?_
    refine AllReadyH.cons (o:=⟨some 42,.buildSlice 24 1 #[(0,.const (.int .u32 3))],24,_,_,some (7,true)⟩) rfl (fun K hK=>?_) ?_
    obtain ⟨Q98,hN⟩:∃ W,W=Q9.alloc (.cells #[.int .u32 3] 22):=⟨_,rfl⟩
    go_simp
    rw [←hN]
    have hbN:Below Q9.heap.size Q9 Q98:=by rw [hN];exact (Below.refl _ _).alloc (Nat.le_refl _) _
    have X8Q98:=lH (one_rd (k:=3) rfl hN)
    have HSQ98:=lH (HSQ9.out.trans (hbN.mono HSQ9.out.size))
    have X9Q98:=lH (X9Q9.out.under hbN)
    clear hbN hN
    clear HSQ9 X9Q9
    refine hK.out _ _ (HSQ98.out) (fun hHeld=>?_)
    clear hK K
    try simp only [aP]
    refine wpAnyH_ready (rs:=[10,11]) (by kernel_rfl) (by simp) ?_
    refine AllReadyH.cons (o:=⟨some 44,.call ⟨ .value (.func 22),#[.tmp 42,.tmp 43],#[24,26]⟩,26,_,_,some (7,true)⟩) rfl (fun K hK=>?_) ?_
    go_simp
    refine (timesP Q98 (HM.out.under HSQ98.out) X8Q98.out (dg_small (by omega)) (by simp) X9Q98.out gP_on).mono ?_
    rintro e Q98a ⟨A10_,c10_,a10_,B10_,d10_,b10_,i10_,rfl,hq,hbN⟩
    have HSQ98a:=lH (HSQ98.out.trans (hbN.mono HSQ98.out.size))
    have X10Q98a:=lH (three_pt hq)
    clear hbN hq
    clear HSQ98 X9Q98 X8Q98
    go_simp
    refine hK.out _ _ (HSQ98a.out) (fun hHeld=>?_)
    clear hK K
    try simp only [aP]
    refine wpAnyH_ready (rs:=[11,12]) (by kernel_rfl) (by simp) ?_
    refine AllReadyH.cons (o:=⟨some 45,.buildSlice 24 1 #[(0,.const (.int .u32 3))],24,_,_,some (7,true)⟩) rfl (fun K hK=>?_) ?_
    obtain ⟨Q98ab,hN⟩:∃ W,W=Q98a.alloc (.cells #[.int .u32 3] 22):=⟨_,rfl⟩
    go_simp
    rw [←hN]
    have hbN:Below Q98a.heap.size Q98a Q98ab:=by rw [hN];exact (Below.refl _ _).alloc (Nat.le_refl _) _
    have X11Q98ab:=lH (one_rd (k:=3) rfl hN)
    have HSQ98ab:=lH (HSQ98a.out.trans (hbN.mono HSQ98a.out.size))
    have X10Q98ab:=lH (X10Q98a.out.under hbN)
    clear hbN hN
    clear HSQ98a X10Q98a
    refine hK.out _ _ (HSQ98ab.out) (fun hHeld=>?_)
    clear hK K
    try simp only [aP]
    refine rdy 12 ⟨some 46,.call ⟨ .value (.func 13),#[],#[]⟩,26,_,_,some (7,true)⟩ rfl (fun K hK=>?_)
    go_simp
    refine (refGP Q98ab).mono ?_
    rintro e Q98abc ⟨A12_,c12_,a12_,B12_,d12_,b12_,i12_,rfl,hq,hbN⟩
    have HSQ98abc:=lH (HSQ98ab.out.trans (hbN.mono HSQ98ab.out.size))
    have X10Q98abc:=lH (X10Q98ab.out.under hbN)
    have X11Q98abc:=lH ((X11Q98ab.out.under hbN).more hbN.size)
    have X12Q98abc:=lH (hq)
    clear hbN hq
    clear HSQ98ab X10Q98ab X11Q98ab
    go_simp
    refine hK.out _ _ (HSQ98abc.out) (fun hHeld=>?_)
    clear hK K
    try simp only [aP]
    refine rdy 13 ⟨some 47,.call ⟨ .value (.func 11),#[.tmp 45,.tmp 46],#[24,26]⟩,26,_,_,some (7,true)⟩ rfl (fun K hK=>?_)
    go_simp
    refine (timesRP Q98abc X11Q98abc.out (dg_small (by omega)) (by simp) (.inr (by simp)) X12Q98abc.out gP_on).mono ?_
    rintro e Q98abcd ⟨A13_,c13_,a13_,B13_,d13_,b13_,i13_,rfl,hq,hbN⟩
    have HSQ98abcd:=lH (HSQ98abc.out.trans (hbN.mono HSQ98abc.out.size))
    have X10Q98abcd:=lH (X10Q98abc.out.under hbN)
    have X13Q98abcd:=lH (three_pr hq)
    clear hbN hq
    clear HSQ98abc X10Q98abc X11Q98abc X12Q98abc
    go_simp
    refine hK.out _ _ (HSQ98abcd.out) (fun hHeld=>?_)
    clear hK K
    try simp only [aP]
    exact HMt1.out _ _ _ _ (by kernel_rfl) (by kernel_rfl) ⟨A10_,c10_,a10_,B10_,d10_,b10_,i10_,A13_,c13_,a13_,B13_,d13_,b13_,i13_,rfl,rfl,HSQ98abcd.out,X10Q98abcd.out,X13Q98abcd.out⟩
    refine AllReadyH.cons (o:=⟨some 46,.call ⟨ .value (.func 13),#[],#[]⟩,26,_,_,some (7,true)⟩) rfl (fun K hK=>?_) AllReadyH.nil
    go_simp
    refine (refGP Q98a).mono ?_
    rintro e Q98ac ⟨A12_,c12_,a12_,B12_,d12_,b12_,i12_,rfl,hq,hbN⟩
    have HSQ98ac:=lH (HSQ98a.out.trans (hbN.mono HSQ98a.out.size))
    have X10Q98ac:=lH (X10Q98a.out.under hbN)
    have X12Q98ac:=lH (hq)
    clear hbN hq
    clear HSQ98a X10Q98a
    go_simp
    refine hK.out _ _ (HSQ98ac.out) (fun hHeld=>?_)
    clear hK K
    try simp only [aP]
    refine rdy 11 ⟨some 45,.buildSlice 24 1 #[(0,.const (.int .u32 3))],24,_,_,some (7,true)⟩ rfl (fun K hK=>?_)
    obtain ⟨Q98acb,hN⟩:∃ W,W=Q98ac.alloc (.cells #[.int .u32 3] 22):=⟨_,rfl⟩
    go_simp
    rw [←hN]
    have hbN:Below Q98ac.heap.size Q98ac Q98acb:=by rw [hN];exact (Below.refl _ _).alloc (Nat.le_refl _) _
    have X11Q98acb:=lH (one_rd (k:=3) rfl hN)
    have HSQ98acb:=lH (HSQ98ac.out.trans (hbN.mono HSQ98ac.out.size))
    have X10Q98acb:=lH (X10Q98ac.out.under hbN)
    have X12Q98acb:=lH (X12Q98ac.out.under hbN)
    clear hbN hN
    clear HSQ98ac X10Q98ac X12Q98ac
    refine hK.out _ _ (HSQ98acb.out) (fun hHeld=>?_)
    clear hK K
    try simp only [aP]
    refine rdy 13 ⟨some 47,.call ⟨ .value (.func 11),#[.tmp 45,.tmp 46],#[24,26]⟩,26,_,_,some (7,true)⟩ rfl (fun K hK=>?_)
    go_simp
    refine (timesRP Q98acb X11Q98acb.out (dg_small (by omega)) (by simp) (.inr (by simp)) X12Q98acb.out gP_on).mono ?_
    rintro e Q98acbd ⟨A13_,c13_,a13_,B13_,d13_,b13_,i13_,rfl,hq,hbN⟩
    have HSQ98acbd:=lH (HSQ98acb.out.trans (hbN.mono HSQ98acb.out.size))
    have X10Q98acbd:=lH (X10Q98acb.out.under hbN)
    have X13Q98acbd:=lH (three_pr hq)
    clear hbN hq
    clear HSQ98acb X10Q98acb X12Q98acb X11Q98acb
    go_simp
    refine hK.out _ _ (HSQ98acbd.out) (fun hHeld=>?_)
    clear hK K
    try simp only [aP]
    exact HMt1.out _ _ _ _ (by kernel_rfl) (by kernel_rfl) ⟨A10_,c10_,a10_,B10_,d10_,b10_,i10_,A13_,c13_,a13_,B13_,d13_,b13_,i13_,rfl,rfl,HSQ98acbd.out,X10Q98acbd.out,X13Q98acbd.out⟩
    refine AllReadyH.cons (o:=⟨some 45,.buildSlice 24 1 #[(0,.const (.int .u32 3))],24,_,_,some (7,true)⟩) rfl (fun K hK=>?_) AllReadyH.nil
    obtain ⟨Q98b,hN⟩:∃ W,W=Q98.alloc (.cells #[.int .u32 3] 22):=⟨_,rfl⟩
    go_simp
    rw [←hN]
    have hbN:Below Q98.heap.size Q98 Q98b:=by rw [hN];exact (Below.refl _ _).alloc (Nat.le_refl _) _
    have X11Q98b:=lH (one_rd (k:=3) rfl hN)
    have HSQ98b:=lH (HSQ98.out.trans (hbN.mono HSQ98.out.size))
    have X9Q98b:=lH (X9Q98.out.under hbN)
    have X8Q98b:=lH ((X8Q98.out.under hbN).more hbN.size)
    clear hbN hN
    clear HSQ98 X9Q98 X8Q98
    refine hK.out _ _ (HSQ98b.out) (fun hHeld=>?_)
    clear hK K
    try simp only [aP]
    refine rdy 10 ⟨some 44,.call ⟨ .value (.func 22),#[.tmp 42,.tmp 43],#[24,26]⟩,26,_,_,some (7,true)⟩ rfl (fun K hK=>?_)
    go_simp
    refine (timesP Q98b (HM.out.under HSQ98b.out) X8Q98b.out (dg_small (by omega)) (by simp) X9Q98b.out gP_on).mono ?_
    rintro e Q98ba ⟨A10_,c10_,a10_,B10_,d10_,b10_,i10_,rfl,hq,hbN⟩
    have HSQ98ba:=lH (HSQ98b.out.trans (hbN.mono HSQ98b.out.size))
    have X11Q98ba:=lH ((X11Q98b.out.under hbN).more hbN.size)
    have X10Q98ba:=lH (three_pt hq)
    clear hbN hq
    clear HSQ98b X9Q98b X8Q98b X11Q98b
    go_simp
    refine hK.out _ _ (HSQ98ba.out) (fun hHeld=>?_)
    clear hK K
    try simp only [aP]
    refine rdy 12 ⟨some 46,.call ⟨ .value (.func 13),#[],#[]⟩,26,_,_,some (7,true)⟩ rfl (fun K hK=>?_)
    go_simp
    refine (refGP Q98ba).mono ?_
    rintro e Q98bac ⟨A12_,c12_,a12_,B12_,d12_,b12_,i12_,rfl,hq,hbN⟩
    have HSQ98bac:=lH (HSQ98ba.out.trans (hbN.mono HSQ98ba.out.size))
    have X11Q98bac:=lH ((X11Q98ba.out.under hbN).more hbN.size)
    have X10Q98bac:=lH (X10Q98ba.out.under hbN)
    have X12Q98bac:=lH (hq)
    clear hbN hq
    clear HSQ98ba X11Q98ba X10Q98ba
    go_simp
    refine hK.out _ _ (HSQ98bac.out) (fun hHeld=>?_)
    clear hK K
    try simp only [aP]
    refine rdy 13 ⟨some 47,.call ⟨ .value (.func 11),#[.tmp 45,.tmp 46],#[24,26]⟩,26,_,_,some (7,true)⟩ rfl (fun K hK=>?_)
    go_simp
    refine (timesRP Q98bac X11Q98bac.out (dg_small (by omega)) (by simp) (.inr (by simp)) X12Q98bac.out gP_on).mono ?_
    rintro e Q98bacd ⟨A13_,c13_,a13_,B13_,d13_,b13_,i13_,rfl,hq,hbN⟩
    have HSQ98bacd:=lH (HSQ98bac.out.trans (hbN.mono HSQ98bac.out.size))
    have X10Q98bacd:=lH (X10Q98bac.out.under hbN)
    have X13Q98bacd:=lH (three_pr hq)
    clear hbN hq
    clear HSQ98bac X11Q98bac X10Q98bac X12Q98bac
    go_simp
    refine hK.out _ _ (HSQ98bacd.out) (fun hHeld=>?_)
    clear hK K
    try simp only [aP]
    exact HMt1.out _ _ _ _ (by kernel_rfl) (by kernel_rfl) ⟨A10_,c10_,a10_,B10_,d10_,b10_,i10_,A13_,c13_,a13_,B13_,d13_,b13_,i13_,rfl,rfl,HSQ98bacd.out,X10Q98bacd.out,X13Q98bacd.out⟩
    refine AllReadyH.cons (o:=⟨some 45,.buildSlice 24 1 #[(0,.const (.int .u32 3))],24,_,_,some (7,true)⟩) rfl (fun K hK=>?_) AllReadyH.nil
    obtain ⟨Q9b,hN⟩:∃ W,W=Q9.alloc (.cells #[.int .u32 3] 22):=⟨_,rfl⟩
    go_simp
    rw [←hN]
    have hbN:Below Q9.heap.size Q9 Q9b:=by rw [hN];exact (Below.refl _ _).alloc (Nat.le_refl _) _
    have X11Q9b:=lH (one_rd (k:=3) rfl hN)
    have HSQ9b:=lH (HSQ9.out.trans (hbN.mono HSQ9.out.size))
    have X9Q9b:=lH (X9Q9.out.under hbN)
    clear hbN hN
    clear HSQ9 X9Q9
    refine hK.out _ _ (HSQ9b.out) (fun hHeld=>?_)
    clear hK K
    try simp only [aP]
    refine rdy 8 ⟨some 42,.buildSlice 24 1 #[(0,.const (.int .u32 3))],24,_,_,some (7,true)⟩ rfl (fun K hK=>?_)
    obtain ⟨Q9b8,hN⟩:∃ W,W=Q9b.alloc (.cells #[.int .u32 3] 22):=⟨_,rfl⟩
    go_simp
    rw [←hN]
    have hbN:Below Q9b.heap.size Q9b Q9b8:=by rw [hN];exact (Below.refl _ _).alloc (Nat.le_refl _) _
    have X8Q9b8:=lH (one_rd (k:=3) rfl hN)
    have HSQ9b8:=lH (HSQ9b.out.trans (hbN.mono HSQ9b.out.size))
    have X9Q9b8:=lH (X9Q9b.out.under hbN)
    have X11Q9b8:=lH ((X11Q9b.out.under hbN).more hbN.size)
    clear hbN hN
    clear HSQ9b X9Q9b X11Q9b
    refine hK.out _ _ (HSQ9b8.out) (fun hHeld=>?_)
    clear hK K
    try simp only [aP]
    refine rdy 10 ⟨some 44,.call ⟨ .value (.func 22),#[.tmp 42,.tmp 43],#[24,26]⟩,26,_,_,some (7,true)⟩ rfl (fun K hK=>?_)
    go_simp
    refine (timesP Q9b8 (HM.out.under HSQ9b8.out) X8Q9b8.out (dg_small (by omega)) (by simp) X9Q9b8.out gP_on).mono ?_
    rintro e Q9b8a ⟨A10_,c10_,a10_,B10_,d10_,b10_,i10_,rfl,hq,hbN⟩
    have HSQ9b8a:=lH (HSQ9b8.out.trans (hbN.mono HSQ9b8.out.size))
    have X11Q9b8a:=lH ((X11Q9b8.out.under hbN).more hbN.size)
    have X10Q9b8a:=lH (three_pt hq)
    clear hbN hq
    clear HSQ9b8 X9Q9b8 X11Q9b8 X8Q9b8
    go_simp
    refine hK.out _ _ (HSQ9b8a.out) (fun hHeld=>?_)
    clear hK K
    try simp only [aP]
    refine rdy 12 ⟨some 46,.call ⟨ .value (.func 13),#[],#[]⟩,26,_,_,some (7,true)⟩ rfl (fun K hK=>?_)
    go_simp
    refine (refGP Q9b8a).mono ?_
    rintro e Q9b8ac ⟨A12_,c12_,a12_,B12_,d12_,b12_,i12_,rfl,hq,hbN⟩
    have HSQ9b8ac:=lH (HSQ9b8a.out.trans (hbN.mono HSQ9b8a.out.size))
    have X11Q9b8ac:=lH ((X11Q9b8a.out.under hbN).more hbN.size)
    have X10Q9b8ac:=lH (X10Q9b8a.out.under hbN)
    have X12Q9b8ac:=lH (hq)
    clear hbN hq
    clear HSQ9b8a X11Q9b8a X10Q9b8a
    go_simp
    refine hK.out _ _ (HSQ9b8ac.out) (fun hHeld=>?_)
    clear hK K
    try simp only [aP]
    refine rdy 13 ⟨some 47,.call ⟨ .value (.func 11),#[.tmp 45,.tmp 46],#[24,26]⟩,26,_,_,some (7,true)⟩ rfl (fun K hK=>?_)
    go_simp
    refine (timesRP Q9b8ac X11Q9b8ac.out (dg_small (by omega)) (by simp) (.inr (by simp)) X12Q9b8ac.out gP_on).mono ?_
    rintro e Q9b8acd ⟨A13_,c13_,a13_,B13_,d13_,b13_,i13_,rfl,hq,hbN⟩
    have HSQ9b8acd:=lH (HSQ9b8ac.out.trans (hbN.mono HSQ9b8ac.out.size))
    have X10Q9b8acd:=lH (X10Q9b8ac.out.under hbN)
    have X13Q9b8acd:=lH (three_pr hq)
    clear hbN hq
    clear HSQ9b8ac X11Q9b8ac X10Q9b8ac X12Q9b8ac
    go_simp
    refine hK.out _ _ (HSQ9b8acd.out) (fun hHeld=>?_)
    clear hK K
    try simp only [aP]
    exact HMt1.out _ _ _ _ (by kernel_rfl) (by kernel_rfl) ⟨A10_,c10_,a10_,B10_,d10_,b10_,i10_,A13_,c13_,a13_,B13_,d13_,b13_,i13_,rfl,rfl,HSQ9b8acd.out,X10Q9b8acd.out,X13Q9b8acd.out⟩
    refine AllReadyH.cons (o:=⟨some 45,.buildSlice 24 1 #[(0,.const (.int .u32 3))],24,_,_,some (7,true)⟩) rfl (fun K hK=>?_) AllReadyH.nil
    obtain ⟨Qb,hN⟩:∃ W,W=Q.alloc (.cells #[.int .u32 3] 22):=⟨_,rfl⟩
    go_simp
    rw [←hN]
    have hbN:Below Q.heap.size Q Qb:=by rw [hN];exact (Below.refl _ _).alloc (Nat.le_refl _) _
    have X11Qb:=lH (one_rd (k:=3) rfl hN)
    have HSQb:=lH (HSQ.out.trans (hbN.mono HSQ.out.size))
    clear hbN hN
    clear HSQ
    refine hK.out _ _ (HSQb.out) (fun hHeld=>?_)
    clear hK K
    try simp only [aP]
    refine wpAnyH_ready (rs:=[8,9]) (by kernel_rfl) (by simp) ?_
    refine AllReadyH.cons (o:=⟨some 42,.buildSlice 24 1 #[(0,.const (.int .u32 3))],24,_,_,some (7,true)⟩) rfl (fun K hK=>?_) ?_
    obtain ⟨Qb8,hN⟩:∃ W,W=Qb.alloc (.cells #[.int .u32 3] 22):=⟨_,rfl⟩
    go_simp
    rw [←hN]
    have hbN:Below Qb.heap.size Qb Qb8:=by rw [hN];exact (Below.refl _ _).alloc (Nat.le_refl _) _
    have X8Qb8:=lH (one_rd (k:=3) rfl hN)
    have HSQb8:=lH (HSQb.out.trans (hbN.mono HSQb.out.size))
    have X11Qb8:=lH ((X11Qb.out.under hbN).more hbN.size)
    clear hbN hN
    clear HSQb X11Qb
    refine hK.out _ _ (HSQb8.out) (fun hHeld=>?_)
    clear hK K
    try simp only [aP]
    refine rdy 9 ⟨some 43,.call ⟨ .value (.func 28),#[],#[]⟩,26,_,_,some (7,true)⟩ rfl (fun K hK=>?_)
    go_simp
    refine (curveGP Qb8).mono ?_
    rintro e Qb89 ⟨A9_,c9_,a9_,B9_,d9_,b9_,i9_,rfl,hq,hbN⟩
    have HSQb89:=lH (HSQb8.out.trans (hbN.mono HSQb8.out.size))
    have X11Qb89:=lH ((X11Qb8.out.under hbN).more hbN.size)
    have X8Qb89:=lH ((X8Qb8.out.under hbN).more hbN.size)
    have X9Qb89:=lH (hq)
    clear hbN hq
    clear HSQb8 X11Qb8 X8Qb8
    go_simp
    refine hK.out _ _ (HSQb89.out) (fun hHeld=>?_)
    clear hK K
    try simp only [aP]
    refine rdy 10 ⟨some 44,.call ⟨ .value (.func 22),#[.tmp 42,.tmp 43],#[24,26]⟩,26,_,_,some (7,true)⟩ rfl (fun K hK=>?_)
    go_simp
    refine (timesP Qb89 (HM.out.under HSQb89.out) X8Qb89.out (dg_small (by omega)) (by simp) X9Qb89.out gP_on).mono ?_
    rintro e Qb89a ⟨A10_,c10_,a10_,B10_,d10_,b10_,i10_,rfl,hq,hbN⟩
    have HSQb89a:=lH (HSQb89.out.trans (hbN.mono HSQb89.out.size))
    have X11Qb89a:=lH ((X11Qb89.out.under hbN).more hbN.size)
    have X10Qb89a:=lH (three_pt hq)
    clear hbN hq
    clear HSQb89 X11Qb89 X8Qb89 X9Qb89
    go_simp
    refine hK.out _ _ (HSQb89a.out) (fun hHeld=>?_)
    clear hK K
    try simp only [aP]
    refine rdy 12 ⟨some 46,.call ⟨ .value (.func 13),#[],#[]⟩,26,_,_,some (7,true)⟩ rfl (fun K hK=>?_)
    go_simp
    refine (refGP Qb89a).mono ?_
    rintro e Qb89ac ⟨A12_,c12_,a12_,B12_,d12_,b12_,i12_,rfl,hq,hbN⟩
    have HSQb89ac:=lH (HSQb89a.out.trans (hbN.mono HSQb89a.out.size))
    have X11Qb89ac:=lH ((X11Qb89a.out.under hbN).more hbN.size)
    have X10Qb89ac:=lH (X10Qb89a.out.under hbN)
    have X12Qb89ac:=lH (hq)
    clear hbN hq
    clear HSQb89a X11Qb89a X10Qb89a
    go_simp
    refine hK.out _ _ (HSQb89ac.out) (fun hHeld=>?_)
    clear hK K
    try simp only [aP]
    refine rdy 13 ⟨some 47,.call ⟨ .value (.func 11),#[.tmp 45,.tmp 46],#[24,26]⟩,26,_,_,some (7,true)⟩ rfl (fun K hK=>?_)
    go_simp
    refine (timesRP Qb89ac X11Qb89ac.out (dg_small (by omega)) (by simp) (.inr (by simp)) X12Qb89ac.out gP_on).mono ?_
    rintro e Qb89acd ⟨A13_,c13_,a13_,B13_,d13_,b13_,i13_,rfl,hq,hbN⟩
    have HSQb89acd:=lH (HSQb89ac.out.trans (hbN.mono HSQb89ac.out.size))
    have X10Qb89acd:=lH (X10Qb89ac.out.under hbN)
    have X13Qb89acd:=lH (three_pr hq)
    clear hbN hq
    clear HSQb89ac X11Qb89ac X10Qb89ac X12Qb89ac
    go_simp
    refine hK.out _ _ (HSQb89acd.out) (fun hHeld=>?_)
    clear hK K
    try simp only [aP]
    exact HMt1.out _ _ _ _ (by kernel_rfl) (by kernel_rfl) ⟨A10_,c10_,a10_,B10_,d10_,b10_,i10_,A13_,c13_,a13_,B13_,d13_,b13_,i13_,rfl,rfl,HSQb89acd.out,X10Qb89acd.out,X13Qb89acd.out⟩
    refine AllReadyH.cons (o:=⟨some 43,.call ⟨ .value (.func 28),#[],#[]⟩,26,_,_,some (7,true)⟩) rfl (fun K hK=>?_) AllReadyH.nil
    go_simp
    refine (curveGP Qb).mono ?_
    rintro e Qb9 ⟨A9_,c9_,a9_,B9_,d9_,b9_,i9_,rfl,hq,hbN⟩
    have HSQb9:=lH (HSQb.out.trans (hbN.mono HSQb.out.size))
    have X11Qb9:=lH ((X11Qb.out.under hbN).more hbN.size)
    have X9Qb9:=lH (hq)
    clear hbN hq
    clear HSQb X11Qb
    go_simp
    refine hK.out _ _ (HSQb9.out) (fun hHeld=>?_)
    clear hK K
    try simp only [aP]
    refine rdy 8 ⟨some 42,.buildSlice 24 1 #[(0,.const (.int .u32 3))],24,_,_,some (7,true)⟩ rfl (fun K hK=>?_)
    obtain ⟨Qb98,hN⟩:∃ W,W=Qb9.alloc (.cells #[.int .u32 3] 22):=⟨_,rfl⟩
    go_simp
    rw [←hN]
    have hbN:Below Qb9.heap.size Qb9 Qb98:=by rw [hN];exact (Below.refl _ _).alloc (Nat.le_refl _) _
    have X8Qb98:=lH (one_rd (k:=3) rfl hN)
    have HSQb98:=lH (HSQb9.out.trans (hbN.mono HSQb9.out.size))
    have X11Qb98:=lH ((X11Qb9.out.under hbN).more hbN.size)
    have X9Qb98:=lH (X9Qb9.out.under hbN)
    clear hbN hN
    clear HSQb9 X11Qb9 X9Qb9
    refine hK.out _ _ (HSQb98.out) (fun hHeld=>?_)
    clear hK K
    try simp only [aP]
    refine rdy 10 ⟨some 44,.call ⟨ .value (.func 22),#[.tmp 42,.tmp 43],#[24,26]⟩,26,_,_,some (7,true)⟩ rfl (fun K hK=>?_)
    go_simp
    refine (timesP Qb98 (HM.out.under HSQb98.out) X8Qb98.out (dg_small (by omega)) (by simp) X9Qb98.out gP_on).mono ?_
    rintro e Qb98a ⟨A10_,c10_,a10_,B10_,d10_,b10_,i10_,rfl,hq,hbN⟩
    have HSQb98a:=lH (HSQb98.out.trans (hbN.mono HSQb98.out.size))
    have X11Qb98a:=lH ((X11Qb98.out.under hbN).more hbN.size)
    have X10Qb98a:=lH (three_pt hq)
    clear hbN hq
    clear HSQb98 X11Qb98 X9Qb98 X8Qb98
    go_simp
    refine hK.out _ _ (HSQb98a.out) (fun hHeld=>?_)
    clear hK K
    try simp only [aP]
    refine rdy 12 ⟨some 46,.call ⟨ .value (.func 13),#[],#[]⟩,26,_,_,some (7,true)⟩ rfl (fun K hK=>?_)
    go_simp
    refine (refGP Qb98a).mono ?_
    rintro e Qb98ac ⟨A12_,c12_,a12_,B12_,d12_,b12_,i12_,rfl,hq,hbN⟩
    have HSQb98ac:=lH (HSQb98a.out.trans (hbN.mono HSQb98a.out.size))
    have X11Qb98ac:=lH ((X11Qb98a.out.under hbN).more hbN.size)
    have X10Qb98ac:=lH (X10Qb98a.out.under hbN)
    have X12Qb98ac:=lH (hq)
    clear hbN hq
    clear HSQb98a X11Qb98a X10Qb98a
    go_simp
    refine hK.out _ _ (HSQb98ac.out) (fun hHeld=>?_)
    clear hK K
    try simp only [aP]
    refine rdy 13 ⟨some 47,.call ⟨ .value (.func 11),#[.tmp 45,.tmp 46],#[24,26]⟩,26,_,_,some (7,true)⟩ rfl (fun K hK=>?_)
    go_simp
    refine (timesRP Qb98ac X11Qb98ac.out (dg_small (by omega)) (by simp) (.inr (by simp)) X12Qb98ac.out gP_on).mono ?_
    rintro e Qb98acd ⟨A13_,c13_,a13_,B13_,d13_,b13_,i13_,rfl,hq,hbN⟩
    have HSQb98acd:=lH (HSQb98ac.out.trans (hbN.mono HSQb98ac.out.size))
    have X10Qb98acd:=lH (X10Qb98ac.out.under hbN)
    have X13Qb98acd:=lH (three_pr hq)
    clear hbN hq
    clear HSQb98ac X11Qb98ac X10Qb98ac X12Qb98ac
    go_simp
    refine hK.out _ _ (HSQb98acd.out) (fun hHeld=>?_)
    clear hK K
    try simp only [aP]
    exact HMt1.out _ _ _ _ (by kernel_rfl) (by kernel_rfl) ⟨A10_,c10_,a10_,B10_,d10_,b10_,i10_,A13_,c13_,a13_,B13_,d13_,b13_,i13_,rfl,rfl,HSQb98acd.out,X10Qb98acd.out,X13Qb98acd.out⟩
   rintro a R ⟨A10,c10,a10,B10,d10,b10,i10,A13,c13,a13,B13,d13,b13,i13,htm,hdf,hbr,hx10,hx13⟩
   obtain ⟨tm,df⟩:=a
   dsimp only at htm hdf
   subst hdf
   obtain ⟨U,hU⟩:∃ U:Nat→Value,∀ i,tm.getD i undef=U i:=⟨_,fun _=>rfl⟩
   simp only [tG,hU] at htm
   clear hU
   subst htm
   have HSR:=lH hbr
   have hHeld:(fun W=>Below W0.heap.size W0 W) R:=hbr
   have HSR0:=lH (Below.refl R.heap.size R)
   have HX10:=lH hx10
   have HX13:=lH hx13
   clear hbr hx10 hx13
   refine rdy 14 ⟨some 48,.call ⟨ .value (.func 16),#[.tmp 44,.tmp 47],#[26,26]⟩,4,_,_,some (7,true)⟩ rfl (fun K hK=>?_)
   go_simp
   refine (sameRP R (HX10.out.under HSR0.out) (HX13.out.under HSR0.out)).mono ?_
   rintro e Re ⟨rfl,hbN⟩
   have HSRe:=lH (HSR.out.trans (hbN.mono HSR.out.size))
   clear hbN
   clear HSR
   go_simp
   refine hK.out _ _ (HSRe.out) (fun hHeld=>?_)
   clear hK K
   try simp only [aP]
   refine tk 15 ⟨some 49,.pick (.tmp 41) (.tmp 48) (.const (.bool false)),4,_,_,none⟩ ?_ rfl ?_ hHeld ?_
   rotate_left 1
   ·(intro W hW;(try dsimp only at hW);go_simp;try with_reducible rfl)
   try simp only [aP]
   refine tk 16 ⟨some 50,.move (.tmp 49),4,_,_,none⟩ ?_ rfl ?_ hHeld ?_
   rotate_left 1
   ·(intro W hW;(try dsimp only at hW);go_simp;try with_reducible rfl)
   try simp only [aP]
   refine rdy 17 ⟨some 51,.call ⟨ .value (.func 20),#[],#[]⟩,4,_,_,some (16,true)⟩ rfl (fun K hK=>?_)
   go_simp
   refine (known10_any Re (HM.out.under HSRe.out)).mono ?_
   rintro e Reh ⟨rfl,hbN⟩
   have HSReh:=lH (HSRe.out.trans (hbN.mono HSRe.out.size))
   clear hbN
   clear HSRe
   go_simp
   refine hK.out _ _ (HSReh.out) (fun hHeld=>?_)
   clear hK K
   try simp only [aP]
   refine tk 18 ⟨some 52,.pick (.tmp 50) (.tmp 51) (.const (.bool false)),4,_,_,none⟩ ?_ rfl ?_ hHeld ?_
   rotate_left 1
   ·(intro W hW;(try dsimp only at hW);go_simp;try with_reducible rfl)
   try simp only [aP]
   refine tk 19 ⟨some 2,.assign (.tmp 52),4,_,_,none⟩ ?_ rfl ?_ hHeld ?_
   rotate_left 1
   ·(intro W hW;(try dsimp only at hW);go_simp;try with_reducible rfl)
   try simp only [aP]
   refine wpAnyH_done (by kernel_rfl) ?_ _
   refine NoPanic.normal ?_
   go_wp2_with fail
   go_ret
   exact ⟨rfl,HB.out.trans (HSReh.out.mono HB.out.size)⟩
  ·have hq:(decide (way<0)=true)∨(decide (way<0)=false∧decide (1<way)=true):=by
    by_cases h:way<0
    ·exact .inl (decide_eq_true h)
    ·exact .inr ⟨decide_eq_false h,decide_eq_true (by omega)⟩
   rcases hq with h | ⟨h,h2⟩
   ·clear q0 q1
    go_enter Tryd.func7,Tryd.ntmps7
    go_wp2_with fail
    rw [←HW.out]
    go_ret
    exact ⟨rfl,HB.out⟩
   ·clear q0 q1
    go_enter Tryd.func7,Tryd.ntmps7
    go_wp2_with fail
    rw [←HW.out]
    go_ret
    exact ⟨rfl,HB.out⟩
end Go.Proofs.YtflfdglpljodbaaDoor
