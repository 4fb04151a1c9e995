/-
  The document: is it a point?
-/
import Derived.Test.YtflfdglpljodbaaDoorTBoxP
import Derived.Deep.RegionLaw
import Derived.Deep.RegionHeld3
import Derived.Deep.DrawnRows
namespace Go.Proofs.YtflfdglpljodbaaDoor
set_option maxRecDepth 100000
set_option maxHeartbeats 40000000
open Go.RowKit
set_option linter.unusedVariables false
set_option linter.unusedSimpArgs false
theorem refIs_any (w:World) (Ax Ay:Option Addr) (cx cy:Nat) (lx ly:List Nat) (inf:Bool) (hx:Rd .u32 w w.heap.size Ax cx lx) (hy:Rd .u32 w w.heap.size Ay cy ly) (hdx:Dg lx) (hdy:Dg ly) (hsx:lx.length≤1000) (hsy:ly.length≤1000) :
  Calls Tryd.prog 15 #[.agg #[.slice Ax lx.length cx,.slice Ay ly.length cy,.bool inf]] w fun e w'=>e = .returned (.bool (ptOk lx ly inf))∧Below w.heap.size w w':=by
 obtain ⟨w1,hw1⟩:∃ W,W=w.alloc (.cells #[.slice Ax lx.length cx,.slice Ay ly.length cy,.bool inf] 26):=⟨_,rfl⟩
 have hBX:BoxAt w1 w.heap.size Ax lx.length cx Ay ly.length cy inf:=by rw [hw1];exact ⟨Holds.fresh w _ _⟩
 have hb:Below w.heap.size w w1:=by rw [hw1];exact (Below.refl _ _).alloc (Nat.le_refl _) _
 have hsz:w.heap.size<w1.heap.size:=by rw [hw1];simp
 have HBX:=lH hBX
 have HB:=lH hb
 have HW:=lH hw1
 have HX:=lH ((hx.under hb).more hb.size)
 have HY:=lH ((hy.under hb).more hb.size)
 have HDX:=lH hdx
 have HDY:=lH hdy
 obtain ⟨b0,b1,b2⟩:=hBX.cells
 clear hBX hb hw1 hx hy hdx hdy
 cases inf
 case true =>
  have hXc:lx.length≤cx:=HX.out.1
  have hYc:ly.length≤cy:=HY.out.1
  obtain ⟨n,hn⟩:∃ n,n=lx.length+ly.length:=⟨_,rfl⟩
  have q1:IntKind.i64.wrap ((lx.length:Int)+(ly.length:Int))=(n:Int):=by rw [←Int.natCast_add,←hn];exact IntWalk.i64_in _ (by omega)
  have HF:Hid (ptOk lx ly true=((n:Int) == 0)):=lH (by unfold ptOk;rw [if_pos rfl,Bool.eq_iff_iff,Bool.and_eq_true,decide_eq_true_iff,decide_eq_true_iff,beq_iff_eq];omega)
  clear hn
  go_enter Tryd.func15,Tryd.ntmps15
  go_wp2_with fail
  go_ret
  exact ⟨by rw [HF.out];rfl,(Below.refl _ _).alloc (Nat.le_refl _) _⟩
 case false =>
  have hnl:=fun (l:List Nat) (h:okN l=true)=>(okN_nrm h).2
  cases hokx:okN lx
  case false =>
   have HOKX:=lH hokx
   have HF:Hid (ptOk lx ly false=false):=lH (by unfold ptOk blw;rw [hokx];simp)
   clear hokx
   go_enter Tryd.func15,Tryd.ntmps15
   go_wp2_with fail
   rw [←HW.out]
   go_wp2_with fail
   clear b0 b1 b2
   refine wp_region_noPanic ?_
   refine wp_region_held_drew (S:=fun W=>Below w1.heap.size w1 W) (by kernel_rfl) ((Below.refl _ w1).drew) (fun hHeld=>?_)
   obtain ⟨V,hV⟩:∃ W,W=w1.drew:=⟨_,rfl⟩
   rw [←hV]
   have HSV:Hid (Below w1.heap.size w1 V):=lH (by rw [hV];exact (Below.refl _ w1).drew)
   replace hHeld:(fun W=>Below w1.heap.size w1 W) V:=HSV.out
   clear hV
   refine tk 0 ⟨some 13,.fieldAddr 26 (.tmp 1) 0,0,_,_,none⟩ ?_ rfl ?_ hHeld ?_
   rotate_left 1
   ·(intro W hW;(try dsimp only at hW);go_simp;try with_reducible rfl)
   try simp only [aP]
   refine tk 1 ⟨some 14,.load 24 (.tmp 13),24,_,_,none⟩ ?_ rfl ?_ hHeld ?_
   rotate_left 1
   ·(intro W hW;have hBC:=(HBX.out.under hW hsz).cells;obtain ⟨b0,b1,b2⟩:=hBC;(try dsimp only at hW);go_simp;try with_reducible rfl)
   try simp only [aP]
   refine rdy 2 ⟨some 15,.call ⟨ .value (.func 44),#[.tmp 14],#[24]⟩,4,_,_,none⟩ rfl (fun K hK=>?_)
   go_simp
   refine (is'_any V _ Ax cx lx ((HX.out.under HSV.out).more HSV.out.size) false HOKX.out).mono ?_
   rintro e wq ⟨rfl,rfl⟩
   go_simp
   refine hK.out _ _ hHeld (fun _=>?_)
   clear hK K
   try simp only [aP]
   refine tk 3 ⟨some 16,.unOp .not 4 (.tmp 15),4,_,_,none⟩ ?_ rfl ?_ hHeld ?_
   rotate_left 1
   ·(intro W hW;(try dsimp only at hW);go_simp;try with_reducible rfl)
   try simp only [aP]
   refine tk 4 ⟨some 17,.move (.tmp 16),4,_,_,none⟩ ?_ rfl ?_ hHeld ?_
   rotate_left 1
   ·(intro W hW;(try dsimp only at hW);go_simp;try with_reducible rfl)
   try simp only [aP]
   refine wpAnyH_take (i:=5) (oi:=⟨some 18,.fieldAddr 26 (.tmp 1) 1,0,_,_,some (4,false)⟩) (v:=undef) rfl (by kernel_rfl) (by kernel_rfl) (by kernel_rfl) (fun _ _ _ h=>h) (Or.inr ⟨by rfl,rfl⟩) hHeld ?_
   try simp only [aP]
   refine wpAnyH_take (i:=6) (oi:=⟨some 19,.load 24 (.tmp 18),24,_,_,some (4,false)⟩) (v:=undef) rfl (by kernel_rfl) (by kernel_rfl) (by kernel_rfl) (fun _ _ _ h=>h) (Or.inr ⟨by rfl,rfl⟩) hHeld ?_
   try simp only [aP]
   refine wpAnyH_take (i:=7) (oi:=⟨some 20,.call ⟨ .value (.func 44),#[.tmp 19],#[24]⟩,4,_,_,some (4,false)⟩) (v:=undef) rfl (by kernel_rfl) (by kernel_rfl) (by kernel_rfl) (fun _ _ _ h=>h) (Or.inr ⟨by rfl,rfl⟩) hHeld ?_
   try simp only [aP]
   refine wpAnyH_take (i:=8) (oi:=⟨some 21,.unOp .not 4 (.tmp 20),4,_,_,some (4,false)⟩) (v:=undef) rfl (by kernel_rfl) (by kernel_rfl) (by kernel_rfl) (fun _ _ _ h=>h) (Or.inr ⟨by rfl,rfl⟩) hHeld ?_
   try simp only [aP]
   refine tk 9 ⟨some 22,.pick (.tmp 17) (.const (.bool true)) (.tmp 21),4,_,_,none⟩ ?_ rfl ?_ hHeld ?_
   rotate_left 1
   ·(intro W hW;(try dsimp only at hW);go_simp;try with_reducible rfl)
   try simp only [aP]
   refine tk 10 ⟨some 23,.move (.tmp 22),4,_,_,none⟩ ?_ rfl ?_ hHeld ?_
   rotate_left 1
   ·(intro W hW;(try dsimp only at hW);go_simp;try with_reducible rfl)
   try simp only [aP]
   refine wpAnyH_take (i:=11) (oi:=⟨some 24,.fieldAddr 26 (.tmp 1) 0,0,_,_,some (10,false)⟩) (v:=undef) rfl (by kernel_rfl) (by kernel_rfl) (by kernel_rfl) (fun _ _ _ h=>h) (Or.inr ⟨by rfl,rfl⟩) hHeld ?_
   try simp only [aP]
   refine wpAnyH_take (i:=12) (oi:=⟨some 25,.load 24 (.tmp 24),24,_,_,some (10,false)⟩) (v:=undef) rfl (by kernel_rfl) (by kernel_rfl) (by kernel_rfl) (fun _ _ _ h=>h) (Or.inr ⟨by rfl,rfl⟩) hHeld ?_
   try simp only [aP]
   refine wpAnyH_take (i:=13) (oi:=⟨some 26,.call ⟨ .value (.func 26),#[],#[]⟩,24,_,_,some (10,false)⟩) (v:=undef) rfl (by kernel_rfl) (by kernel_rfl) (by kernel_rfl) (fun _ _ _ h=>h) (Or.inr ⟨by rfl,rfl⟩) hHeld ?_
   try simp only [aP]
   refine wpAnyH_take (i:=14) (oi:=⟨some 27,.call ⟨ .value (.func 45),#[.tmp 25,.tmp 26],#[24,24]⟩,3,_,_,some (10,false)⟩) (v:=undef) rfl (by kernel_rfl) (by kernel_rfl) (by kernel_rfl) (fun _ _ _ h=>h) (Or.inr ⟨by rfl,rfl⟩) hHeld ?_
   try simp only [aP]
   refine wpAnyH_take (i:=15) (oi:=⟨some 28,.binOp .geq 3 (.tmp 27) (.const (.int .i64 0)) 3,4,_,_,some (10,false)⟩) (v:=undef) rfl (by kernel_rfl) (by kernel_rfl) (by kernel_rfl) (fun _ _ _ h=>h) (Or.inr ⟨by rfl,rfl⟩) hHeld ?_
   try simp only [aP]
   refine tk 16 ⟨some 29,.pick (.tmp 23) (.const (.bool true)) (.tmp 28),4,_,_,none⟩ ?_ rfl ?_ hHeld ?_
   rotate_left 1
   ·(intro W hW;(try dsimp only at hW);go_simp;try with_reducible rfl)
   try simp only [aP]
   refine tk 17 ⟨some 30,.move (.tmp 29),4,_,_,none⟩ ?_ rfl ?_ hHeld ?_
   rotate_left 1
   ·(intro W hW;(try dsimp only at hW);go_simp;try with_reducible rfl)
   try simp only [aP]
   refine wpAnyH_take (i:=18) (oi:=⟨some 31,.fieldAddr 26 (.tmp 1) 1,0,_,_,some (17,false)⟩) (v:=undef) rfl (by kernel_rfl) (by kernel_rfl) (by kernel_rfl) (fun _ _ _ h=>h) (Or.inr ⟨by rfl,rfl⟩) hHeld ?_
   try simp only [aP]
   refine wpAnyH_take (i:=19) (oi:=⟨some 32,.load 24 (.tmp 31),24,_,_,some (17,false)⟩) (v:=undef) rfl (by kernel_rfl) (by kernel_rfl) (by kernel_rfl) (fun _ _ _ h=>h) (Or.inr ⟨by rfl,rfl⟩) hHeld ?_
   try simp only [aP]
   refine wpAnyH_take (i:=20) (oi:=⟨some 33,.call ⟨ .value (.func 26),#[],#[]⟩,24,_,_,some (17,false)⟩) (v:=undef) rfl (by kernel_rfl) (by kernel_rfl) (by kernel_rfl) (fun _ _ _ h=>h) (Or.inr ⟨by rfl,rfl⟩) hHeld ?_
   try simp only [aP]
   refine wpAnyH_take (i:=21) (oi:=⟨some 34,.call ⟨ .value (.func 45),#[.tmp 32,.tmp 33],#[24,24]⟩,3,_,_,some (17,false)⟩) (v:=undef) rfl (by kernel_rfl) (by kernel_rfl) (by kernel_rfl) (fun _ _ _ h=>h) (Or.inr ⟨by rfl,rfl⟩) hHeld ?_
   try simp only [aP]
   refine wpAnyH_take (i:=22) (oi:=⟨some 35,.binOp .geq 3 (.tmp 34) (.const (.int .i64 0)) 3,4,_,_,some (17,false)⟩) (v:=undef) rfl (by kernel_rfl) (by kernel_rfl) (by kernel_rfl) (fun _ _ _ h=>h) (Or.inr ⟨by rfl,rfl⟩) hHeld ?_
   try simp only [aP]
   refine tk 23 ⟨some 36,.pick (.tmp 30) (.const (.bool true)) (.tmp 35),4,_,_,none⟩ ?_ rfl ?_ hHeld ?_
   rotate_left 1
   ·(intro W hW;(try dsimp only at hW);go_simp;try with_reducible rfl)
   try simp only [aP]
   refine wpAnyH_done (by kernel_rfl) ?_ _
   refine NoPanic.normal ?_
   go_wp2_with fail
   go_ret
   exact ⟨by rw [HF.out];rfl,HB.out.trans (HSV.out.mono HB.out.size)⟩
  case true =>
   cases hoky:okN ly
   case false =>
    have HOKX:=lH hokx
    have HOKY:=lH hoky
    have HF:Hid (ptOk lx ly false=false):=lH (by unfold ptOk blw;rw [hokx,hoky];simp)
    clear hokx hoky
    go_enter Tryd.func15,Tryd.ntmps15
    go_wp2_with fail
    rw [←HW.out]
    go_wp2_with fail
    clear b0 b1 b2
    refine wp_region_noPanic ?_
    refine wp_region_held_drew (S:=fun W=>Below w1.heap.size w1 W) (by kernel_rfl) ((Below.refl _ w1).drew) (fun hHeld=>?_)
    obtain ⟨V,hV⟩:∃ W,W=w1.drew:=⟨_,rfl⟩
    rw [←hV]
    have HSV:Hid (Below w1.heap.size w1 V):=lH (by rw [hV];exact (Below.refl _ w1).drew)
    replace hHeld:(fun W=>Below w1.heap.size w1 W) V:=HSV.out
    clear hV
    refine tk 0 ⟨some 13,.fieldAddr 26 (.tmp 1) 0,0,_,_,none⟩ ?_ rfl ?_ hHeld ?_
    rotate_left 1
    ·(intro W hW;(try dsimp only at hW);go_simp;try with_reducible rfl)
    try simp only [aP]
    refine tk 1 ⟨some 14,.load 24 (.tmp 13),24,_,_,none⟩ ?_ rfl ?_ hHeld ?_
    rotate_left 1
    ·(intro W hW;have hBC:=(HBX.out.under hW hsz).cells;obtain ⟨b0,b1,b2⟩:=hBC;(try dsimp only at hW);go_simp;try with_reducible rfl)
    try simp only [aP]
    refine rdy 2 ⟨some 15,.call ⟨ .value (.func 44),#[.tmp 14],#[24]⟩,4,_,_,none⟩ rfl (fun K hK=>?_)
    go_simp
    refine (is'_any V _ Ax cx lx ((HX.out.under HSV.out).more HSV.out.size) true HOKX.out).mono ?_
    rintro e wq ⟨rfl,rfl⟩
    go_simp
    refine hK.out _ _ hHeld (fun _=>?_)
    clear hK K
    try simp only [aP]
    refine tk 3 ⟨some 16,.unOp .not 4 (.tmp 15),4,_,_,none⟩ ?_ rfl ?_ hHeld ?_
    rotate_left 1
    ·(intro W hW;(try dsimp only at hW);go_simp;try with_reducible rfl)
    try simp only [aP]
    refine tk 4 ⟨some 17,.move (.tmp 16),4,_,_,none⟩ ?_ rfl ?_ hHeld ?_
    rotate_left 1
    ·(intro W hW;(try dsimp only at hW);go_simp;try with_reducible rfl)
    try simp only [aP]
    refine tk 5 ⟨some 18,.fieldAddr 26 (.tmp 1) 1,0,_,_,some (4,false)⟩ ?_ rfl ?_ hHeld ?_
    rotate_left 1
    ·(intro W hW;(try dsimp only at hW);go_simp;try with_reducible rfl)
    try simp only [aP]
    refine tk 6 ⟨some 19,.load 24 (.tmp 18),24,_,_,some (4,false)⟩ ?_ rfl ?_ hHeld ?_
    rotate_left 1
    ·(intro W hW;have hBC:=(HBX.out.under hW hsz).cells;obtain ⟨b0,b1,b2⟩:=hBC;(try dsimp only at hW);go_simp;try with_reducible rfl)
    try simp only [aP]
    refine rdy 7 ⟨some 20,.call ⟨ .value (.func 44),#[.tmp 19],#[24]⟩,4,_,_,some (4,false)⟩ rfl (fun K hK=>?_)
    go_simp
    refine (is'_any V _ Ay cy ly ((HY.out.under HSV.out).more HSV.out.size) false HOKY.out).mono ?_
    rintro e wq ⟨rfl,rfl⟩
    go_simp
    refine hK.out _ _ hHeld (fun _=>?_)
    clear hK K
    try simp only [aP]
    refine tk 8 ⟨some 21,.unOp .not 4 (.tmp 20),4,_,_,some (4,false)⟩ ?_ rfl ?_ hHeld ?_
    rotate_left 1
    ·(intro W hW;(try dsimp only at hW);go_simp;try with_reducible rfl)
    try simp only [aP]
    refine tk 9 ⟨some 22,.pick (.tmp 17) (.const (.bool true)) (.tmp 21),4,_,_,none⟩ ?_ rfl ?_ hHeld ?_
    rotate_left 1
    ·(intro W hW;(try dsimp only at hW);go_simp;try with_reducible rfl)
    try simp only [aP]
    refine tk 10 ⟨some 23,.move (.tmp 22),4,_,_,none⟩ ?_ rfl ?_ hHeld ?_
    rotate_left 1
    ·(intro W hW;(try dsimp only at hW);go_simp;try with_reducible rfl)
    try simp only [aP]
    refine wpAnyH_take (i:=11) (oi:=⟨some 24,.fieldAddr 26 (.tmp 1) 0,0,_,_,some (10,false)⟩) (v:=undef) rfl (by kernel_rfl) (by kernel_rfl) (by kernel_rfl) (fun _ _ _ h=>h) (Or.inr ⟨by rfl,rfl⟩) hHeld ?_
    try simp only [aP]
    refine wpAnyH_take (i:=12) (oi:=⟨some 25,.load 24 (.tmp 24),24,_,_,some (10,false)⟩) (v:=undef) rfl (by kernel_rfl) (by kernel_rfl) (by kernel_rfl) (fun _ _ _ h=>h) (Or.inr ⟨by rfl,rfl⟩) hHeld ?_
    try simp only [aP]
    refine wpAnyH_take (i:=13) (oi:=⟨some 26,.call ⟨ .value (.func 26),#[],#[]⟩,24,_,_,some (10,false)⟩) (v:=undef) rfl (by kernel_rfl) (by kernel_rfl) (by kernel_rfl) (fun _ _ _ h=>h) (Or.inr ⟨by rfl,rfl⟩) hHeld ?_
    try simp only [aP]
    refine wpAnyH_take (i:=14) (oi:=⟨some 27,.call ⟨ .value (.func 45),#[.tmp 25,.tmp 26],#[24,24]⟩,3,_,_,some (10,false)⟩) (v:=undef) rfl (by kernel_rfl) (by kernel_rfl) (by kernel_rfl) (fun _ _ _ h=>h) (Or.inr ⟨by rfl,rfl⟩) hHeld ?_
    try simp only [aP]
    refine wpAnyH_take (i:=15) (oi:=⟨some 28,.binOp .geq 3 (.tmp 27) (.const (.int .i64 0)) 3,4,_,_,some (10,false)⟩) (v:=undef) rfl (by kernel_rfl) (by kernel_rfl) (by kernel_rfl) (fun _ _ _ h=>h) (Or.inr ⟨by rfl,rfl⟩) hHeld ?_
    try simp only [aP]
    refine tk 16 ⟨some 29,.pick (.tmp 23) (.const (.bool true)) (.tmp 28),4,_,_,none⟩ ?_ rfl ?_ hHeld ?_
    rotate_left 1
    ·(intro W hW;(try dsimp only at hW);go_simp;try with_reducible rfl)
    try simp only [aP]
    refine tk 17 ⟨some 30,.move (.tmp 29),4,_,_,none⟩ ?_ rfl ?_ hHeld ?_
    rotate_left 1
    ·(intro W hW;(try dsimp only at hW);go_simp;try with_reducible rfl)
    try simp only [aP]
    refine wpAnyH_take (i:=18) (oi:=⟨some 31,.fieldAddr 26 (.tmp 1) 1,0,_,_,some (17,false)⟩) (v:=undef) rfl (by kernel_rfl) (by kernel_rfl) (by kernel_rfl) (fun _ _ _ h=>h) (Or.inr ⟨by rfl,rfl⟩) hHeld ?_
    try simp only [aP]
    refine wpAnyH_take (i:=19) (oi:=⟨some 32,.load 24 (.tmp 31),24,_,_,some (17,false)⟩) (v:=undef) rfl (by kernel_rfl) (by kernel_rfl) (by kernel_rfl) (fun _ _ _ h=>h) (Or.inr ⟨by rfl,rfl⟩) hHeld ?_
    try simp only [aP]
    refine wpAnyH_take (i:=20) (oi:=⟨some 33,.call ⟨ .value (.func 26),#[],#[]⟩,24,_,_,some (17,false)⟩) (v:=undef) rfl (by kernel_rfl) (by kernel_rfl) (by kernel_rfl) (fun _ _ _ h=>h) (Or.inr ⟨by rfl,rfl⟩) hHeld ?_
    try simp only [aP]
    refine wpAnyH_take (i:=21) (oi:=⟨some 34,.call ⟨ .value (.func 45),#[.tmp 32,.tmp 33],#[24,24]⟩,3,_,_,some (17,false)⟩) (v:=undef) rfl (by kernel_rfl) (by kernel_rfl) (by kernel_rfl) (fun _ _ _ h=>h) (Or.inr ⟨by rfl,rfl⟩) hHeld ?_
    try simp only [aP]
    refine wpAnyH_take (i:=22) (oi:=⟨some 35,.binOp .geq 3 (.tmp 34) (.const (.int .i64 0)) 3,4,_,_,some (17,false)⟩) (v:=undef) rfl (by kernel_rfl) (by kernel_rfl) (by kernel_rfl) (fun _ _ _ h=>h) (Or.inr ⟨by rfl,rfl⟩) hHeld ?_
    try simp only [aP]
    refine tk 23 ⟨some 36,.pick (.tmp 30) (.const (.bool true)) (.tmp 35),4,_,_,none⟩ ?_ rfl ?_ hHeld ?_
    rotate_left 1
    ·(intro W hW;(try dsimp only at hW);go_simp;try with_reducible rfl)
    try simp only [aP]
    refine wpAnyH_done (by kernel_rfl) ?_ _
    refine NoPanic.normal ?_
    go_wp2_with fail
    go_ret
    exact ⟨by rw [HF.out];rfl,HB.out.trans (HSV.out.mono HB.out.size)⟩
   case true =>
    have HOKX:=lH hokx
    have HOKY:=lH hoky
    obtain ⟨vx,hvx⟩:∃ v,v=cmpL lx lP:=⟨_,rfl⟩
    obtain ⟨vy,hvy⟩:∃ v,v=cmpL ly lP:=⟨_,rfl⟩
    have HVX:=lH hvx.symm
    have HVY:=lH hvy.symm
    rw [cmpL_val HDX.out lP_ok.1 (hnl lx hokx) lP_ok.2.1,lP_ok.2.2.1] at hvx
    rw [cmpL_val HDY.out lP_ok.1 (hnl ly hoky) lP_ok.2.1,lP_ok.2.2.1] at hvy
    by_cases hltx:val lx<cP
    case neg =>
     have HF:Hid (ptOk lx ly false=false):=lH (by unfold ptOk blw;rw [hokx,decide_eq_false hltx];simp)
     have HGX:Hid (decide (0≤vx)=true):=lH (decide_eq_true (by rw [hvx,if_neg hltx];split <;> omega))
     clear hokx hoky hvx hvy hltx
     go_enter Tryd.func15,Tryd.ntmps15
     go_wp2_with fail
     rw [←HW.out]
     go_wp2_with fail
     clear b0 b1 b2
     refine wp_region_noPanic ?_
     refine wp_region_held_drew (S:=fun W=>Below w1.heap.size w1 W) (by kernel_rfl) ((Below.refl _ w1).drew) (fun hHeld=>?_)
     obtain ⟨V,hV⟩:∃ W,W=w1.drew:=⟨_,rfl⟩
     rw [←hV]
     have HSV:Hid (Below w1.heap.size w1 V):=lH (by rw [hV];exact (Below.refl _ w1).drew)
     replace hHeld:(fun W=>Below w1.heap.size w1 W) V:=HSV.out
     clear hV
     refine tk 0 ⟨some 13,.fieldAddr 26 (.tmp 1) 0,0,_,_,none⟩ ?_ rfl ?_ hHeld ?_
     rotate_left 1
     ·(intro W hW;(try dsimp only at hW);go_simp;try with_reducible rfl)
     try simp only [aP]
     refine tk 1 ⟨some 14,.load 24 (.tmp 13),24,_,_,none⟩ ?_ rfl ?_ hHeld ?_
     rotate_left 1
     ·(intro W hW;have hBC:=(HBX.out.under hW hsz).cells;obtain ⟨b0,b1,b2⟩:=hBC;(try dsimp only at hW);go_simp;try with_reducible rfl)
     try simp only [aP]
     refine rdy 2 ⟨some 15,.call ⟨ .value (.func 44),#[.tmp 14],#[24]⟩,4,_,_,none⟩ rfl (fun K hK=>?_)
     go_simp
     refine (is'_any V _ Ax cx lx ((HX.out.under HSV.out).more HSV.out.size) true HOKX.out).mono ?_
     rintro e wq ⟨rfl,rfl⟩
     go_simp
     refine hK.out _ _ hHeld (fun _=>?_)
     clear hK K
     try simp only [aP]
     refine tk 3 ⟨some 16,.unOp .not 4 (.tmp 15),4,_,_,none⟩ ?_ rfl ?_ hHeld ?_
     rotate_left 1
     ·(intro W hW;(try dsimp only at hW);go_simp;try with_reducible rfl)
     try simp only [aP]
     refine tk 4 ⟨some 17,.move (.tmp 16),4,_,_,none⟩ ?_ rfl ?_ hHeld ?_
     rotate_left 1
     ·(intro W hW;(try dsimp only at hW);go_simp;try with_reducible rfl)
     try simp only [aP]
     refine tk 5 ⟨some 18,.fieldAddr 26 (.tmp 1) 1,0,_,_,some (4,false)⟩ ?_ rfl ?_ hHeld ?_
     rotate_left 1
     ·(intro W hW;(try dsimp only at hW);go_simp;try with_reducible rfl)
     try simp only [aP]
     refine tk 6 ⟨some 19,.load 24 (.tmp 18),24,_,_,some (4,false)⟩ ?_ rfl ?_ hHeld ?_
     rotate_left 1
     ·(intro W hW;have hBC:=(HBX.out.under hW hsz).cells;obtain ⟨b0,b1,b2⟩:=hBC;(try dsimp only at hW);go_simp;try with_reducible rfl)
     try simp only [aP]
     refine rdy 7 ⟨some 20,.call ⟨ .value (.func 44),#[.tmp 19],#[24]⟩,4,_,_,some (4,false)⟩ rfl (fun K hK=>?_)
     go_simp
     refine (is'_any V _ Ay cy ly ((HY.out.under HSV.out).more HSV.out.size) true HOKY.out).mono ?_
     rintro e wq ⟨rfl,rfl⟩
     go_simp
     refine hK.out _ _ hHeld (fun _=>?_)
     clear hK K
     try simp only [aP]
     refine tk 8 ⟨some 21,.unOp .not 4 (.tmp 20),4,_,_,some (4,false)⟩ ?_ rfl ?_ hHeld ?_
     rotate_left 1
     ·(intro W hW;(try dsimp only at hW);go_simp;try with_reducible rfl)
     try simp only [aP]
     refine tk 9 ⟨some 22,.pick (.tmp 17) (.const (.bool true)) (.tmp 21),4,_,_,none⟩ ?_ rfl ?_ hHeld ?_
     rotate_left 1
     ·(intro W hW;(try dsimp only at hW);go_simp;try with_reducible rfl)
     try simp only [aP]
     refine tk 10 ⟨some 23,.move (.tmp 22),4,_,_,none⟩ ?_ rfl ?_ hHeld ?_
     rotate_left 1
     ·(intro W hW;(try dsimp only at hW);go_simp;try with_reducible rfl)
     try simp only [aP]
     refine tk 11 ⟨some 24,.fieldAddr 26 (.tmp 1) 0,0,_,_,some (10,false)⟩ ?_ rfl ?_ hHeld ?_
     rotate_left 1
     ·(intro W hW;(try dsimp only at hW);go_simp;try with_reducible rfl)
     try simp only [aP]
     refine tk 12 ⟨some 25,.load 24 (.tmp 24),24,_,_,some (10,false)⟩ ?_ rfl ?_ hHeld ?_
     rotate_left 1
     ·(intro W hW;have hBC:=(HBX.out.under hW hsz).cells;obtain ⟨b0,b1,b2⟩:=hBC;(try dsimp only at hW);go_simp;try with_reducible rfl)
     try simp only [aP]
     refine rdy 13 ⟨some 26,.call ⟨ .value (.func 26),#[],#[]⟩,24,_,_,some (10,false)⟩ rfl (fun K hK=>?_)
     go_simp
     refine (refP_any V).mono ?_
     rintro e V1 ⟨gp,hgp,rfl,hPp,hbN⟩
     obtain ⟨Ap,hAp⟩:∃ A:Option Addr,A=some ⟨gp,0,none⟩:=⟨_,rfl⟩
     obtain ⟨cp,hcp⟩:∃ c:Nat,c=8:=⟨_,rfl⟩
     obtain ⟨rp,hlp⟩:∃ r:List Nat,r=lP:=⟨_,rfl⟩
     have HRpV1:Hid (Rd .u32 V1 V1.heap.size Ap cp rp):=lH (by rw [hAp,hcp,hlp];exact Eight.rd hPp rfl)
     have HNp:=lH hlp
     have HZp:Hid ((some ⟨gp,0,none⟩:Option Addr)=Ap∧(8:Nat)=cp∧(8:Nat)=rp.length):=lH ⟨hAp.symm,hcp.symm,by rw [hlp];rfl⟩
     clear hgp hPp hAp hcp hlp
     rw [show Value.slice (some ⟨gp,0,none⟩) 8 8=Value.slice Ap rp.length cp by rw [←HZp.out.1,←HZp.out.2.1,←HZp.out.2.2]]
     have HSV1:Hid (Below w1.heap.size w1 V1):=lH (HSV.out.trans (hbN.mono HSV.out.size))
     clear hbN
     go_simp
     refine hK.out _ _ (HSV1.out) (fun _=>?_)
     clear hK K hHeld
     try simp only [aP]
     have hHeld:(fun W=>Below w1.heap.size w1 W) V1:=HSV1.out
     refine rdy 14 ⟨some 27,.call ⟨ .value (.func 45),#[.tmp 25,.tmp 26],#[24,24]⟩,3,_,_,some (10,false)⟩ rfl (fun K hK=>?_)
     go_simp
     refine (cmp'_any V1 _ _ Ax Ap cx cp lx rp ((HX.out.under HSV1.out).more HSV1.out.size) HRpV1.out vx (by rw [HNp.out];exact HVX.out)).mono ?_
     rintro e wq ⟨rfl,qq,rfl⟩
     obtain ⟨V2,hN⟩:∃ W,W=V1.drewN qq:=⟨_,rfl⟩
     rw [←hN]
     have HSV2:Hid (Below w1.heap.size w1 V2):=lH (by rw [hN];exact bdN HSV1.out qq)
     have HRpV2:Hid (Rd .u32 V2 V2.heap.size Ap cp rp):=lH (by rw [hN];exact HRpV1.out)
     clear hN
     go_simp
     refine hK.out _ _ (HSV2.out) (fun _=>?_)
     clear hK K hHeld
     try simp only [aP]
     have hHeld:(fun W=>Below w1.heap.size w1 W) V2:=HSV2.out
     refine tk 15 ⟨some 28,.binOp .geq 3 (.tmp 27) (.const (.int .i64 0)) 3,4,_,_,some (10,false)⟩ ?_ rfl ?_ hHeld ?_
     rotate_left 1
     ·(intro W hW;have hq:=HGX.out;(try dsimp only at hW);go_simp;try with_reducible rfl)
     try simp only [aP]
     refine tk 16 ⟨some 29,.pick (.tmp 23) (.const (.bool true)) (.tmp 28),4,_,_,none⟩ ?_ rfl ?_ hHeld ?_
     rotate_left 1
     ·(intro W hW;(try dsimp only at hW);go_simp;try with_reducible rfl)
     try simp only [aP]
     refine tk 17 ⟨some 30,.move (.tmp 29),4,_,_,none⟩ ?_ rfl ?_ hHeld ?_
     rotate_left 1
     ·(intro W hW;(try dsimp only at hW);go_simp;try with_reducible rfl)
     try simp only [aP]
     refine wpAnyH_take (i:=18) (oi:=⟨some 31,.fieldAddr 26 (.tmp 1) 1,0,_,_,some (17,false)⟩) (v:=undef) rfl (by kernel_rfl) (by kernel_rfl) (by kernel_rfl) (fun _ _ _ h=>h) (Or.inr ⟨by rfl,rfl⟩) hHeld ?_
     try simp only [aP]
     refine wpAnyH_take (i:=19) (oi:=⟨some 32,.load 24 (.tmp 31),24,_,_,some (17,false)⟩) (v:=undef) rfl (by kernel_rfl) (by kernel_rfl) (by kernel_rfl) (fun _ _ _ h=>h) (Or.inr ⟨by rfl,rfl⟩) hHeld ?_
     try simp only [aP]
     refine wpAnyH_take (i:=20) (oi:=⟨some 33,.call ⟨ .value (.func 26),#[],#[]⟩,24,_,_,some (17,false)⟩) (v:=undef) rfl (by kernel_rfl) (by kernel_rfl) (by kernel_rfl) (fun _ _ _ h=>h) (Or.inr ⟨by rfl,rfl⟩) hHeld ?_
     try simp only [aP]
     refine wpAnyH_take (i:=21) (oi:=⟨some 34,.call ⟨ .value (.func 45),#[.tmp 32,.tmp 33],#[24,24]⟩,3,_,_,some (17,false)⟩) (v:=undef) rfl (by kernel_rfl) (by kernel_rfl) (by kernel_rfl) (fun _ _ _ h=>h) (Or.inr ⟨by rfl,rfl⟩) hHeld ?_
     try simp only [aP]
     refine wpAnyH_take (i:=22) (oi:=⟨some 35,.binOp .geq 3 (.tmp 34) (.const (.int .i64 0)) 3,4,_,_,some (17,false)⟩) (v:=undef) rfl (by kernel_rfl) (by kernel_rfl) (by kernel_rfl) (fun _ _ _ h=>h) (Or.inr ⟨by rfl,rfl⟩) hHeld ?_
     try simp only [aP]
     refine tk 23 ⟨some 36,.pick (.tmp 30) (.const (.bool true)) (.tmp 35),4,_,_,none⟩ ?_ rfl ?_ hHeld ?_
     rotate_left 1
     ·(intro W hW;(try dsimp only at hW);go_simp;try with_reducible rfl)
     try simp only [aP]
     refine wpAnyH_done (by kernel_rfl) ?_ _
     refine NoPanic.normal ?_
     go_wp2_with fail
     go_ret
     exact ⟨by rw [HF.out];rfl,HB.out.trans (HSV2.out.mono HB.out.size)⟩
    case pos =>
     have HGX:Hid (decide (0≤vx)=false):=lH (decide_eq_false (by rw [hvx,if_pos hltx];omega))
     by_cases hlty:val ly<cP
     case neg =>
      have HF:Hid (ptOk lx ly false=false):=lH (by unfold ptOk blw;rw [hokx,hoky,decide_eq_false hlty];simp)
      have HGY:Hid (decide (0≤vy)=true):=lH (decide_eq_true (by rw [hvy,if_neg hlty];split <;> omega))
      clear hokx hoky hvx hvy hltx hlty
      go_enter Tryd.func15,Tryd.ntmps15
      go_wp2_with fail
      rw [←HW.out]
      go_wp2_with fail
      clear b0 b1 b2
      refine wp_region_noPanic ?_
      refine wp_region_held_drew (S:=fun W=>Below w1.heap.size w1 W) (by kernel_rfl) ((Below.refl _ w1).drew) (fun hHeld=>?_)
      obtain ⟨V,hV⟩:∃ W,W=w1.drew:=⟨_,rfl⟩
      rw [←hV]
      have HSV:Hid (Below w1.heap.size w1 V):=lH (by rw [hV];exact (Below.refl _ w1).drew)
      replace hHeld:(fun W=>Below w1.heap.size w1 W) V:=HSV.out
      clear hV
      refine tk 0 ⟨some 13,.fieldAddr 26 (.tmp 1) 0,0,_,_,none⟩ ?_ rfl ?_ hHeld ?_
      rotate_left 1
      ·(intro W hW;(try dsimp only at hW);go_simp;try with_reducible rfl)
      try simp only [aP]
      refine tk 1 ⟨some 14,.load 24 (.tmp 13),24,_,_,none⟩ ?_ rfl ?_ hHeld ?_
      rotate_left 1
      ·(intro W hW;have hBC:=(HBX.out.under hW hsz).cells;obtain ⟨b0,b1,b2⟩:=hBC;(try dsimp only at hW);go_simp;try with_reducible rfl)
      try simp only [aP]
      refine rdy 2 ⟨some 15,.call ⟨ .value (.func 44),#[.tmp 14],#[24]⟩,4,_,_,none⟩ rfl (fun K hK=>?_)
      go_simp
      refine (is'_any V _ Ax cx lx ((HX.out.under HSV.out).more HSV.out.size) true HOKX.out).mono ?_
      rintro e wq ⟨rfl,rfl⟩
      go_simp
      refine hK.out _ _ hHeld (fun _=>?_)
      clear hK K
      try simp only [aP]
      refine tk 3 ⟨some 16,.unOp .not 4 (.tmp 15),4,_,_,none⟩ ?_ rfl ?_ hHeld ?_
      rotate_left 1
      ·(intro W hW;(try dsimp only at hW);go_simp;try with_reducible rfl)
      try simp only [aP]
      refine tk 4 ⟨some 17,.move (.tmp 16),4,_,_,none⟩ ?_ rfl ?_ hHeld ?_
      rotate_left 1
      ·(intro W hW;(try dsimp only at hW);go_simp;try with_reducible rfl)
      try simp only [aP]
      refine tk 5 ⟨some 18,.fieldAddr 26 (.tmp 1) 1,0,_,_,some (4,false)⟩ ?_ rfl ?_ hHeld ?_
      rotate_left 1
      ·(intro W hW;(try dsimp only at hW);go_simp;try with_reducible rfl)
      try simp only [aP]
      refine tk 6 ⟨some 19,.load 24 (.tmp 18),24,_,_,some (4,false)⟩ ?_ rfl ?_ hHeld ?_
      rotate_left 1
      ·(intro W hW;have hBC:=(HBX.out.under hW hsz).cells;obtain ⟨b0,b1,b2⟩:=hBC;(try dsimp only at hW);go_simp;try with_reducible rfl)
      try simp only [aP]
      refine rdy 7 ⟨some 20,.call ⟨ .value (.func 44),#[.tmp 19],#[24]⟩,4,_,_,some (4,false)⟩ rfl (fun K hK=>?_)
      go_simp
      refine (is'_any V _ Ay cy ly ((HY.out.under HSV.out).more HSV.out.size) true HOKY.out).mono ?_
      rintro e wq ⟨rfl,rfl⟩
      go_simp
      refine hK.out _ _ hHeld (fun _=>?_)
      clear hK K
      try simp only [aP]
      refine tk 8 ⟨some 21,.unOp .not 4 (.tmp 20),4,_,_,some (4,false)⟩ ?_ rfl ?_ hHeld ?_
      rotate_left 1
      ·(intro W hW;(try dsimp only at hW);go_simp;try with_reducible rfl)
      try simp only [aP]
      refine tk 9 ⟨some 22,.pick (.tmp 17) (.const (.bool true)) (.tmp 21),4,_,_,none⟩ ?_ rfl ?_ hHeld ?_
      rotate_left 1
      ·(intro W hW;(try dsimp only at hW);go_simp;try with_reducible rfl)
      try simp only [aP]
      refine tk 10 ⟨some 23,.move (.tmp 22),4,_,_,none⟩ ?_ rfl ?_ hHeld ?_
      rotate_left 1
      ·(intro W hW;(try dsimp only at hW);go_simp;try with_reducible rfl)
      try simp only [aP]
      refine tk 11 ⟨some 24,.fieldAddr 26 (.tmp 1) 0,0,_,_,some (10,false)⟩ ?_ rfl ?_ hHeld ?_
      rotate_left 1
      ·(intro W hW;(try dsimp only at hW);go_simp;try with_reducible rfl)
      try simp only [aP]
      refine tk 12 ⟨some 25,.load 24 (.tmp 24),24,_,_,some (10,false)⟩ ?_ rfl ?_ hHeld ?_
      rotate_left 1
      ·(intro W hW;have hBC:=(HBX.out.under hW hsz).cells;obtain ⟨b0,b1,b2⟩:=hBC;(try dsimp only at hW);go_simp;try with_reducible rfl)
      try simp only [aP]
      refine rdy 13 ⟨some 26,.call ⟨ .value (.func 26),#[],#[]⟩,24,_,_,some (10,false)⟩ rfl (fun K hK=>?_)
      go_simp
      refine (refP_any V).mono ?_
      rintro e V1 ⟨gp,hgp,rfl,hPp,hbN⟩
      obtain ⟨Ap,hAp⟩:∃ A:Option Addr,A=some ⟨gp,0,none⟩:=⟨_,rfl⟩
      obtain ⟨cp,hcp⟩:∃ c:Nat,c=8:=⟨_,rfl⟩
      obtain ⟨rp,hlp⟩:∃ r:List Nat,r=lP:=⟨_,rfl⟩
      have HRpV1:Hid (Rd .u32 V1 V1.heap.size Ap cp rp):=lH (by rw [hAp,hcp,hlp];exact Eight.rd hPp rfl)
      have HNp:=lH hlp
      have HZp:Hid ((some ⟨gp,0,none⟩:Option Addr)=Ap∧(8:Nat)=cp∧(8:Nat)=rp.length):=lH ⟨hAp.symm,hcp.symm,by rw [hlp];rfl⟩
      clear hgp hPp hAp hcp hlp
      rw [show Value.slice (some ⟨gp,0,none⟩) 8 8=Value.slice Ap rp.length cp by rw [←HZp.out.1,←HZp.out.2.1,←HZp.out.2.2]]
      have HSV1:Hid (Below w1.heap.size w1 V1):=lH (HSV.out.trans (hbN.mono HSV.out.size))
      clear hbN
      go_simp
      refine hK.out _ _ (HSV1.out) (fun _=>?_)
      clear hK K hHeld
      try simp only [aP]
      have hHeld:(fun W=>Below w1.heap.size w1 W) V1:=HSV1.out
      refine rdy 14 ⟨some 27,.call ⟨ .value (.func 45),#[.tmp 25,.tmp 26],#[24,24]⟩,3,_,_,some (10,false)⟩ rfl (fun K hK=>?_)
      go_simp
      refine (cmp'_any V1 _ _ Ax Ap cx cp lx rp ((HX.out.under HSV1.out).more HSV1.out.size) HRpV1.out vx (by rw [HNp.out];exact HVX.out)).mono ?_
      rintro e wq ⟨rfl,qq,rfl⟩
      obtain ⟨V2,hN⟩:∃ W,W=V1.drewN qq:=⟨_,rfl⟩
      rw [←hN]
      have HSV2:Hid (Below w1.heap.size w1 V2):=lH (by rw [hN];exact bdN HSV1.out qq)
      have HRpV2:Hid (Rd .u32 V2 V2.heap.size Ap cp rp):=lH (by rw [hN];exact HRpV1.out)
      clear hN
      go_simp
      refine hK.out _ _ (HSV2.out) (fun _=>?_)
      clear hK K hHeld
      try simp only [aP]
      have hHeld:(fun W=>Below w1.heap.size w1 W) V2:=HSV2.out
      refine tk 15 ⟨some 28,.binOp .geq 3 (.tmp 27) (.const (.int .i64 0)) 3,4,_,_,some (10,false)⟩ ?_ rfl ?_ hHeld ?_
      rotate_left 1
      ·(intro W hW;have hq:=HGX.out;(try dsimp only at hW);go_simp;try with_reducible rfl)
      try simp only [aP]
      refine tk 16 ⟨some 29,.pick (.tmp 23) (.const (.bool true)) (.tmp 28),4,_,_,none⟩ ?_ rfl ?_ hHeld ?_
      rotate_left 1
      ·(intro W hW;(try dsimp only at hW);go_simp;try with_reducible rfl)
      try simp only [aP]
      refine tk 17 ⟨some 30,.move (.tmp 29),4,_,_,none⟩ ?_ rfl ?_ hHeld ?_
      rotate_left 1
      ·(intro W hW;(try dsimp only at hW);go_simp;try with_reducible rfl)
      try simp only [aP]
      refine tk 18 ⟨some 31,.fieldAddr 26 (.tmp 1) 1,0,_,_,some (17,false)⟩ ?_ rfl ?_ hHeld ?_
      rotate_left 1
      ·(intro W hW;(try dsimp only at hW);go_simp;try with_reducible rfl)
      try simp only [aP]
      refine tk 19 ⟨some 32,.load 24 (.tmp 31),24,_,_,some (17,false)⟩ ?_ rfl ?_ hHeld ?_
      rotate_left 1
      ·(intro W hW;have hBC:=(HBX.out.under hW hsz).cells;obtain ⟨b0,b1,b2⟩:=hBC;(try dsimp only at hW);go_simp;try with_reducible rfl)
      try simp only [aP]
      refine rdy 20 ⟨some 33,.call ⟨ .value (.func 26),#[],#[]⟩,24,_,_,some (17,false)⟩ rfl (fun K hK=>?_)
      go_simp
      refine (refP_any V2).mono ?_
      rintro e V3 ⟨gq,hgq,rfl,hPq,hbN⟩
      obtain ⟨Aq,hAq⟩:∃ A:Option Addr,A=some ⟨gq,0,none⟩:=⟨_,rfl⟩
      obtain ⟨cq,hcq⟩:∃ c:Nat,c=8:=⟨_,rfl⟩
      obtain ⟨rq,hlq⟩:∃ r:List Nat,r=lP:=⟨_,rfl⟩
      have HRqV3:Hid (Rd .u32 V3 V3.heap.size Aq cq rq):=lH (by rw [hAq,hcq,hlq];exact Eight.rd hPq rfl)
      have HNq:=lH hlq
      have HZq:Hid ((some ⟨gq,0,none⟩:Option Addr)=Aq∧(8:Nat)=cq∧(8:Nat)=rq.length):=lH ⟨hAq.symm,hcq.symm,by rw [hlq];rfl⟩
      clear hgq hPq hAq hcq hlq
      rw [show Value.slice (some ⟨gq,0,none⟩) 8 8=Value.slice Aq rq.length cq by rw [←HZq.out.1,←HZq.out.2.1,←HZq.out.2.2]]
      have HSV3:Hid (Below w1.heap.size w1 V3):=lH (HSV2.out.trans (hbN.mono HSV2.out.size))
      have HRpV3:=lH ((HRpV2.out.under hbN).more hbN.size)
      clear hbN
      go_simp
      refine hK.out _ _ (HSV3.out) (fun _=>?_)
      clear hK K hHeld
      try simp only [aP]
      have hHeld:(fun W=>Below w1.heap.size w1 W) V3:=HSV3.out
      refine rdy 21 ⟨some 34,.call ⟨ .value (.func 45),#[.tmp 32,.tmp 33],#[24,24]⟩,3,_,_,some (17,false)⟩ rfl (fun K hK=>?_)
      go_simp
      refine (cmp'_any V3 _ _ Ay Aq cy cq ly rq ((HY.out.under HSV3.out).more HSV3.out.size) HRqV3.out vy (by rw [HNq.out];exact HVY.out)).mono ?_
      rintro e wq ⟨rfl,qq,rfl⟩
      obtain ⟨V4,hN⟩:∃ W,W=V3.drewN qq:=⟨_,rfl⟩
      rw [←hN]
      have HSV4:Hid (Below w1.heap.size w1 V4):=lH (by rw [hN];exact bdN HSV3.out qq)
      have HRpV4:Hid (Rd .u32 V4 V4.heap.size Ap cp rp):=lH (by rw [hN];exact HRpV3.out)
      have HRqV4:Hid (Rd .u32 V4 V4.heap.size Aq cq rq):=lH (by rw [hN];exact HRqV3.out)
      clear hN
      go_simp
      refine hK.out _ _ (HSV4.out) (fun _=>?_)
      clear hK K hHeld
      try simp only [aP]
      have hHeld:(fun W=>Below w1.heap.size w1 W) V4:=HSV4.out
      refine tk 22 ⟨some 35,.binOp .geq 3 (.tmp 34) (.const (.int .i64 0)) 3,4,_,_,some (17,false)⟩ ?_ rfl ?_ hHeld ?_
      rotate_left 1
      ·(intro W hW;have hq:=HGY.out;(try dsimp only at hW);go_simp;try with_reducible rfl)
      try simp only [aP]
      refine tk 23 ⟨some 36,.pick (.tmp 30) (.const (.bool true)) (.tmp 35),4,_,_,none⟩ ?_ rfl ?_ hHeld ?_
      rotate_left 1
      ·(intro W hW;(try dsimp only at hW);go_simp;try with_reducible rfl)
      try simp only [aP]
      refine wpAnyH_done (by kernel_rfl) ?_ _
      refine NoPanic.normal ?_
      go_wp2_with fail
      go_ret
      exact ⟨by rw [HF.out];rfl,HB.out.trans (HSV4.out.mono HB.out.size)⟩
     case pos =>
      have HGY:Hid (decide (0≤vy)=false):=lH (decide_eq_false (by rw [hvy,if_pos hlty];omega))
      have HBLX:Hid (blw lx=true):=lH (by unfold blw;rw [hokx,decide_eq_true hltx];rfl)
      have HBLY:Hid (blw ly=true):=lH (by unfold blw;rw [hoky,decide_eq_true hlty];rfl)
      have HL1X:=lH hsx
      have HL1Y:=lH hsy
      have HNX:=lH (hnl lx hokx)
      have HNY:=lH (hnl ly hoky)
      clear hokx hoky hvx hvy hltx hlty hnl hsx hsy
      go_enter Tryd.func15,Tryd.ntmps15
      go_wp2_with fail
      rw [←HW.out]
      go_wp2_with fail
      clear b0 b1 b2
      refine wp_region_noPanic ?_
      refine wp_region_held_drew (S:=fun W=>Below w1.heap.size w1 W) (by kernel_rfl) ((Below.refl _ w1).drew) (fun hHeld=>?_)
      obtain ⟨V,hV⟩:∃ W,W=w1.drew:=⟨_,rfl⟩
      rw [←hV]
      have HSV:Hid (Below w1.heap.size w1 V):=lH (by rw [hV];exact (Below.refl _ w1).drew)
      replace hHeld:(fun W=>Below w1.heap.size w1 W) V:=HSV.out
      clear hV
      refine tk 0 ⟨some 13,.fieldAddr 26 (.tmp 1) 0,0,_,_,none⟩ ?_ rfl ?_ hHeld ?_
      rotate_left 1
      ·(intro W hW;(try dsimp only at hW);go_simp;try with_reducible rfl)
      try simp only [aP]
      refine tk 1 ⟨some 14,.load 24 (.tmp 13),24,_,_,none⟩ ?_ rfl ?_ hHeld ?_
      rotate_left 1
      ·(intro W hW;have hBC:=(HBX.out.under hW hsz).cells;obtain ⟨b0,b1,b2⟩:=hBC;(try dsimp only at hW);go_simp;try with_reducible rfl)
      try simp only [aP]
      refine rdy 2 ⟨some 15,.call ⟨ .value (.func 44),#[.tmp 14],#[24]⟩,4,_,_,none⟩ rfl (fun K hK=>?_)
      go_simp
      refine (is'_any V _ Ax cx lx ((HX.out.under HSV.out).more HSV.out.size) true HOKX.out).mono ?_
      rintro e wq ⟨rfl,rfl⟩
      go_simp
      refine hK.out _ _ hHeld (fun _=>?_)
      clear hK K
      try simp only [aP]
      refine tk 3 ⟨some 16,.unOp .not 4 (.tmp 15),4,_,_,none⟩ ?_ rfl ?_ hHeld ?_
      rotate_left 1
      ·(intro W hW;(try dsimp only at hW);go_simp;try with_reducible rfl)
      try simp only [aP]
      refine tk 4 ⟨some 17,.move (.tmp 16),4,_,_,none⟩ ?_ rfl ?_ hHeld ?_
      rotate_left 1
      ·(intro W hW;(try dsimp only at hW);go_simp;try with_reducible rfl)
      try simp only [aP]
      refine tk 5 ⟨some 18,.fieldAddr 26 (.tmp 1) 1,0,_,_,some (4,false)⟩ ?_ rfl ?_ hHeld ?_
      rotate_left 1
      ·(intro W hW;(try dsimp only at hW);go_simp;try with_reducible rfl)
      try simp only [aP]
      refine tk 6 ⟨some 19,.load 24 (.tmp 18),24,_,_,some (4,false)⟩ ?_ rfl ?_ hHeld ?_
      rotate_left 1
      ·(intro W hW;have hBC:=(HBX.out.under hW hsz).cells;obtain ⟨b0,b1,b2⟩:=hBC;(try dsimp only at hW);go_simp;try with_reducible rfl)
      try simp only [aP]
      refine rdy 7 ⟨some 20,.call ⟨ .value (.func 44),#[.tmp 19],#[24]⟩,4,_,_,some (4,false)⟩ rfl (fun K hK=>?_)
      go_simp
      refine (is'_any V _ Ay cy ly ((HY.out.under HSV.out).more HSV.out.size) true HOKY.out).mono ?_
      rintro e wq ⟨rfl,rfl⟩
      go_simp
      refine hK.out _ _ hHeld (fun _=>?_)
      clear hK K
      try simp only [aP]
      refine tk 8 ⟨some 21,.unOp .not 4 (.tmp 20),4,_,_,some (4,false)⟩ ?_ rfl ?_ hHeld ?_
      rotate_left 1
      ·(intro W hW;(try dsimp only at hW);go_simp;try with_reducible rfl)
      try simp only [aP]
      refine tk 9 ⟨some 22,.pick (.tmp 17) (.const (.bool true)) (.tmp 21),4,_,_,none⟩ ?_ rfl ?_ hHeld ?_
      rotate_left 1
      ·(intro W hW;(try dsimp only at hW);go_simp;try with_reducible rfl)
      try simp only [aP]
      refine tk 10 ⟨some 23,.move (.tmp 22),4,_,_,none⟩ ?_ rfl ?_ hHeld ?_
      rotate_left 1
      ·(intro W hW;(try dsimp only at hW);go_simp;try with_reducible rfl)
      try simp only [aP]
      refine tk 11 ⟨some 24,.fieldAddr 26 (.tmp 1) 0,0,_,_,some (10,false)⟩ ?_ rfl ?_ hHeld ?_
      rotate_left 1
      ·(intro W hW;(try dsimp only at hW);go_simp;try with_reducible rfl)
      try simp only [aP]
      refine tk 12 ⟨some 25,.load 24 (.tmp 24),24,_,_,some (10,false)⟩ ?_ rfl ?_ hHeld ?_
      rotate_left 1
      ·(intro W hW;have hBC:=(HBX.out.under hW hsz).cells;obtain ⟨b0,b1,b2⟩:=hBC;(try dsimp only at hW);go_simp;try with_reducible rfl)
      try simp only [aP]
      refine rdy 13 ⟨some 26,.call ⟨ .value (.func 26),#[],#[]⟩,24,_,_,some (10,false)⟩ rfl (fun K hK=>?_)
      go_simp
      refine (refP_any V).mono ?_
      rintro e V1 ⟨gp,hgp,rfl,hPp,hbN⟩
      obtain ⟨Ap,hAp⟩:∃ A:Option Addr,A=some ⟨gp,0,none⟩:=⟨_,rfl⟩
      obtain ⟨cp,hcp⟩:∃ c:Nat,c=8:=⟨_,rfl⟩
      obtain ⟨rp,hlp⟩:∃ r:List Nat,r=lP:=⟨_,rfl⟩
      have HRpV1:Hid (Rd .u32 V1 V1.heap.size Ap cp rp):=lH (by rw [hAp,hcp,hlp];exact Eight.rd hPp rfl)
      have HNp:=lH hlp
      have HZp:Hid ((some ⟨gp,0,none⟩:Option Addr)=Ap∧(8:Nat)=cp∧(8:Nat)=rp.length):=lH ⟨hAp.symm,hcp.symm,by rw [hlp];rfl⟩
      clear hgp hPp hAp hcp hlp
      rw [show Value.slice (some ⟨gp,0,none⟩) 8 8=Value.slice Ap rp.length cp by rw [←HZp.out.1,←HZp.out.2.1,←HZp.out.2.2]]
      have HSV1:Hid (Below w1.heap.size w1 V1):=lH (HSV.out.trans (hbN.mono HSV.out.size))
      clear hbN
      go_simp
      refine hK.out _ _ (HSV1.out) (fun _=>?_)
      clear hK K hHeld
      try simp only [aP]
      have hHeld:(fun W=>Below w1.heap.size w1 W) V1:=HSV1.out
      refine rdy 14 ⟨some 27,.call ⟨ .value (.func 45),#[.tmp 25,.tmp 26],#[24,24]⟩,3,_,_,some (10,false)⟩ rfl (fun K hK=>?_)
      go_simp
      refine (cmp'_any V1 _ _ Ax Ap cx cp lx rp ((HX.out.under HSV1.out).more HSV1.out.size) HRpV1.out vx (by rw [HNp.out];exact HVX.out)).mono ?_
      rintro e wq ⟨rfl,qq,rfl⟩
      obtain ⟨V2,hN⟩:∃ W,W=V1.drewN qq:=⟨_,rfl⟩
      rw [←hN]
      have HSV2:Hid (Below w1.heap.size w1 V2):=lH (by rw [hN];exact bdN HSV1.out qq)
      have HRpV2:Hid (Rd .u32 V2 V2.heap.size Ap cp rp):=lH (by rw [hN];exact HRpV1.out)
      clear hN
      go_simp
      refine hK.out _ _ (HSV2.out) (fun _=>?_)
      clear hK K hHeld
      try simp only [aP]
      have hHeld:(fun W=>Below w1.heap.size w1 W) V2:=HSV2.out
      refine tk 15 ⟨some 28,.binOp .geq 3 (.tmp 27) (.const (.int .i64 0)) 3,4,_,_,some (10,false)⟩ ?_ rfl ?_ hHeld ?_
      rotate_left 1
      ·(intro W hW;have hq:=HGX.out;(try dsimp only at hW);go_simp;try with_reducible rfl)
      try simp only [aP]
      refine tk 16 ⟨some 29,.pick (.tmp 23) (.const (.bool true)) (.tmp 28),4,_,_,none⟩ ?_ rfl ?_ hHeld ?_
      rotate_left 1
      ·(intro W hW;(try dsimp only at hW);go_simp;try with_reducible rfl)
      try simp only [aP]
      refine tk 17 ⟨some 30,.move (.tmp 29),4,_,_,none⟩ ?_ rfl ?_ hHeld ?_
      rotate_left 1
      ·(intro W hW;(try dsimp only at hW);go_simp;try with_reducible rfl)
      try simp only [aP]
      refine tk 18 ⟨some 31,.fieldAddr 26 (.tmp 1) 1,0,_,_,some (17,false)⟩ ?_ rfl ?_ hHeld ?_
      rotate_left 1
      ·(intro W hW;(try dsimp only at hW);go_simp;try with_reducible rfl)
      try simp only [aP]
      refine tk 19 ⟨some 32,.load 24 (.tmp 31),24,_,_,some (17,false)⟩ ?_ rfl ?_ hHeld ?_
      rotate_left 1
      ·(intro W hW;have hBC:=(HBX.out.under hW hsz).cells;obtain ⟨b0,b1,b2⟩:=hBC;(try dsimp only at hW);go_simp;try with_reducible rfl)
      try simp only [aP]
      refine rdy 20 ⟨some 33,.call ⟨ .value (.func 26),#[],#[]⟩,24,_,_,some (17,false)⟩ rfl (fun K hK=>?_)
      go_simp
      refine (refP_any V2).mono ?_
      rintro e V3 ⟨gq,hgq,rfl,hPq,hbN⟩
      obtain ⟨Aq,hAq⟩:∃ A:Option Addr,A=some ⟨gq,0,none⟩:=⟨_,rfl⟩
      obtain ⟨cq,hcq⟩:∃ c:Nat,c=8:=⟨_,rfl⟩
      obtain ⟨rq,hlq⟩:∃ r:List Nat,r=lP:=⟨_,rfl⟩
      have HRqV3:Hid (Rd .u32 V3 V3.heap.size Aq cq rq):=lH (by rw [hAq,hcq,hlq];exact Eight.rd hPq rfl)
      have HNq:=lH hlq
      have HZq:Hid ((some ⟨gq,0,none⟩:Option Addr)=Aq∧(8:Nat)=cq∧(8:Nat)=rq.length):=lH ⟨hAq.symm,hcq.symm,by rw [hlq];rfl⟩
      clear hgq hPq hAq hcq hlq
      rw [show Value.slice (some ⟨gq,0,none⟩) 8 8=Value.slice Aq rq.length cq by rw [←HZq.out.1,←HZq.out.2.1,←HZq.out.2.2]]
      have HSV3:Hid (Below w1.heap.size w1 V3):=lH (HSV2.out.trans (hbN.mono HSV2.out.size))
      have HRpV3:=lH ((HRpV2.out.under hbN).more hbN.size)
      clear hbN
      go_simp
      refine hK.out _ _ (HSV3.out) (fun _=>?_)
      clear hK K hHeld
      try simp only [aP]
      have hHeld:(fun W=>Below w1.heap.size w1 W) V3:=HSV3.out
      refine rdy 21 ⟨some 34,.call ⟨ .value (.func 45),#[.tmp 32,.tmp 33],#[24,24]⟩,3,_,_,some (17,false)⟩ rfl (fun K hK=>?_)
      go_simp
      refine (cmp'_any V3 _ _ Ay Aq cy cq ly rq ((HY.out.under HSV3.out).more HSV3.out.size) HRqV3.out vy (by rw [HNq.out];exact HVY.out)).mono ?_
      rintro e wq ⟨rfl,qq,rfl⟩
      obtain ⟨V4,hN⟩:∃ W,W=V3.drewN qq:=⟨_,rfl⟩
      rw [←hN]
      have HSV4:Hid (Below w1.heap.size w1 V4):=lH (by rw [hN];exact bdN HSV3.out qq)
      have HRpV4:Hid (Rd .u32 V4 V4.heap.size Ap cp rp):=lH (by rw [hN];exact HRpV3.out)
      have HRqV4:Hid (Rd .u32 V4 V4.heap.size Aq cq rq):=lH (by rw [hN];exact HRqV3.out)
      clear hN
      go_simp
      refine hK.out _ _ (HSV4.out) (fun _=>?_)
      clear hK K hHeld
      try simp only [aP]
      have hHeld:(fun W=>Below w1.heap.size w1 W) V4:=HSV4.out
      refine tk 22 ⟨some 35,.binOp .geq 3 (.tmp 34) (.const (.int .i64 0)) 3,4,_,_,some (17,false)⟩ ?_ rfl ?_ hHeld ?_
      rotate_left 1
      ·(intro W hW;have hq:=HGY.out;(try dsimp only at hW);go_simp;try with_reducible rfl)
      try simp only [aP]
      refine tk 23 ⟨some 36,.pick (.tmp 30) (.const (.bool true)) (.tmp 35),4,_,_,none⟩ ?_ rfl ?_ hHeld ?_
      rotate_left 1
      ·(intro W hW;(try dsimp only at hW);go_simp;try with_reducible rfl)
      try simp only [aP]
      refine wpAnyH_done (by kernel_rfl) ?_ _
      refine NoPanic.normal ?_
      have HB9:=lH (HB.out.trans (HSV4.out.mono HB.out.size))
      have HX9:=lH ((HX.out.under HSV4.out).more HSV4.out.size)
      have HY9:=lH ((HY.out.under HSV4.out).more HSV4.out.size)
      have HBX9:=lH (HBX.out.under HSV4.out hsz)
      have hsz9:w.heap.size<V4.heap.size:=Nat.lt_of_lt_of_le hsz HSV4.out.size
      clear HX HY HBX hsz HW
      have HX:=HX9
      have HY:=HY9
      have HBX:=HBX9
      have hsz:=hsz9
      clear HX9 HY9 HBX9 hsz9
      clear HSV4
      go_wp2_with fail
      refine wp_region_noPanic ?_
      refine wp_region_held_drew (S:=fun W=>Below V4.heap.size V4 W) (by kernel_rfl) ((Below.refl _ V4).drew) (fun hHeld=>?_)
      obtain ⟨U,hV⟩:∃ W,W=V4.drew:=⟨_,rfl⟩
      rw [←hV]
      have HSU:Hid (Below V4.heap.size V4 U):=lH (by rw [hV];exact (Below.refl _ V4).drew)
      replace hHeld:(fun W=>Below V4.heap.size V4 W) U:=HSU.out
      clear hV
      refine tk 0 ⟨some 37,.fieldAddr 26 (.tmp 1) 1,0,_,_,none⟩ ?_ rfl ?_ hHeld ?_
      rotate_left 1
      ·(intro W hW;(try dsimp only at hW);go_simp;try with_reducible rfl)
      try simp only [aP]
      refine tk 1 ⟨some 38,.load 24 (.tmp 37),24,_,_,none⟩ ?_ rfl ?_ hHeld ?_
      rotate_left 1
      ·(intro W hW;have hBC:=(HBX.out.under hW hsz).cells;obtain ⟨b0,b1,b2⟩:=hBC;(try dsimp only at hW);go_simp;try with_reducible rfl)
      try simp only [aP]
      refine tk 2 ⟨some 39,.fieldAddr 26 (.tmp 1) 1,0,_,_,none⟩ ?_ rfl ?_ hHeld ?_
      rotate_left 1
      ·(intro W hW;(try dsimp only at hW);go_simp;try with_reducible rfl)
      try simp only [aP]
      refine tk 3 ⟨some 40,.load 24 (.tmp 39),24,_,_,none⟩ ?_ rfl ?_ hHeld ?_
      rotate_left 1
      ·(intro W hW;have hBC:=(HBX.out.under hW hsz).cells;obtain ⟨b0,b1,b2⟩:=hBC;(try dsimp only at hW);go_simp;try with_reducible rfl)
      try simp only [aP]
      refine tk 5 ⟨some 42,.fieldAddr 26 (.tmp 1) 0,0,_,_,none⟩ ?_ rfl ?_ hHeld ?_
      rotate_left 1
      ·(intro W hW;(try dsimp only at hW);go_simp;try with_reducible rfl)
      try simp only [aP]
      refine tk 6 ⟨some 43,.load 24 (.tmp 42),24,_,_,none⟩ ?_ rfl ?_ hHeld ?_
      rotate_left 1
      ·(intro W hW;have hBC:=(HBX.out.under hW hsz).cells;obtain ⟨b0,b1,b2⟩:=hBC;(try dsimp only at hW);go_simp;try with_reducible rfl)
      try simp only [aP]
      refine tk 7 ⟨some 44,.fieldAddr 26 (.tmp 1) 0,0,_,_,none⟩ ?_ rfl ?_ hHeld ?_
      rotate_left 1
      ·(intro W hW;(try dsimp only at hW);go_simp;try with_reducible rfl)
      try simp only [aP]
      refine tk 8 ⟨some 45,.load 24 (.tmp 44),24,_,_,none⟩ ?_ rfl ?_ hHeld ?_
      rotate_left 1
      ·(intro W hW;have hBC:=(HBX.out.under hW hsz).cells;obtain ⟨b0,b1,b2⟩:=hBC;(try dsimp only at hW);go_simp;try with_reducible rfl)
      try simp only [aP]
      refine tk 9 ⟨some 46,.fieldAddr 26 (.tmp 1) 0,0,_,_,none⟩ ?_ rfl ?_ hHeld ?_
      rotate_left 1
      ·(intro W hW;(try dsimp only at hW);go_simp;try with_reducible rfl)
      try simp only [aP]
      refine tk 10 ⟨some 47,.load 24 (.tmp 46),24,_,_,none⟩ ?_ rfl ?_ hHeld ?_
      rotate_left 1
      ·(intro W hW;have hBC:=(HBX.out.under hW hsz).cells;obtain ⟨b0,b1,b2⟩:=hBC;(try dsimp only at hW);go_simp;try with_reducible rfl)
      try simp only [aP]
      refine tk 13 ⟨some 50,.fieldAddr 26 (.tmp 1) 0,0,_,_,none⟩ ?_ rfl ?_ hHeld ?_
      rotate_left 1
      ·(intro W hW;(try dsimp only at hW);go_simp;try with_reducible rfl)
      try simp only [aP]
      refine tk 14 ⟨some 51,.load 24 (.tmp 50),24,_,_,none⟩ ?_ rfl ?_ hHeld ?_
      rotate_left 1
      ·(intro W hW;have hBC:=(HBX.out.under hW hsz).cells;obtain ⟨b0,b1,b2⟩:=hBC;(try dsimp only at hW);go_simp;try with_reducible rfl)
      try simp only [aP]
      refine rdy 4 ⟨some 41,.call ⟨ .value (.func 46),#[.tmp 38,.tmp 40],#[24,24]⟩,24,_,_,none⟩ rfl (fun K hK=>?_)
      go_simp
      refine (mulR_any U Ay Ay cy cy ly ly ((HY.out.under HSU.out).more HSU.out.size) ((HY.out.under HSU.out).more HSU.out.size) HDY.out HDY.out HL1Y.out HL1Y.out HNY.out HNY.out).mono ?_
      rintro e U1 ⟨Aa,ca,ra,rfl,hna,hra,hbN⟩
      have HNa:=lH hna
      have HRaU1:=lH hra
      have HSU1:Hid (Below V4.heap.size V4 U1):=lH (HSU.out.trans (hbN.mono HSU.out.size))
      clear hbN hna hra
      go_simp
      refine hK.out _ _ (HSU1.out) (fun _=>?_)
      clear hK K hHeld
      try simp only [aP]
      have hHeld:(fun W=>Below V4.heap.size V4 W) U1:=HSU1.out
      refine rdy 11 ⟨some 48,.call ⟨ .value (.func 46),#[.tmp 45,.tmp 47],#[24,24]⟩,24,_,_,none⟩ rfl (fun K hK=>?_)
      go_simp
      refine (mulR_any U1 Ax Ax cx cx lx lx ((HX.out.under HSU1.out).more HSU1.out.size) ((HX.out.under HSU1.out).more HSU1.out.size) HDX.out HDX.out HL1X.out HL1X.out HNX.out HNX.out).mono ?_
      rintro e U2 ⟨Ab,cb,rb,rfl,hnb,hrb,hbN⟩
      have HNb:=lH hnb
      have HRbU2:=lH hrb
      have HSU2:Hid (Below V4.heap.size V4 U2):=lH (HSU1.out.trans (hbN.mono HSU1.out.size))
      have HRaU2:=lH ((HRaU1.out.under hbN).more hbN.size)
      clear hbN hnb hrb
      go_simp
      refine hK.out _ _ (HSU2.out) (fun _=>?_)
      clear hK K hHeld
      try simp only [aP]
      have hHeld:(fun W=>Below V4.heap.size V4 W) U2:=HSU2.out
      refine rdy 12 ⟨some 49,.call ⟨ .value (.func 46),#[.tmp 43,.tmp 48],#[24,24]⟩,24,_,_,none⟩ rfl (fun K hK=>?_)
      go_simp
      refine (mulR_any U2 Ax Ab cx cb lx rb ((HX.out.under HSU2.out).more HSU2.out.size) HRbU2.out HDX.out HNb.out.1 HL1X.out (by have:=num_len8 HNb.out (Nat.mod_lt _ cP_pos);omega) HNX.out HNb.out.2.1).mono ?_
      rintro e U3 ⟨Ac,cc,rc,rfl,hnc,hrc,hbN⟩
      have HNc:=lH hnc
      have HRcU3:=lH hrc
      have HSU3:Hid (Below V4.heap.size V4 U3):=lH (HSU2.out.trans (hbN.mono HSU2.out.size))
      have HRaU3:=lH ((HRaU2.out.under hbN).more hbN.size)
      have HRbU3:=lH ((HRbU2.out.under hbN).more hbN.size)
      clear hbN hnc hrc
      go_simp
      refine hK.out _ _ (HSU3.out) (fun _=>?_)
      clear hK K hHeld
      try simp only [aP]
      have hHeld:(fun W=>Below V4.heap.size V4 W) U3:=HSU3.out
      refine rdy 15 ⟨some 52,.call ⟨ .value (.func 49),#[.tmp 51],#[24]⟩,24,_,_,none⟩ rfl (fun K hK=>?_)
      go_simp
      refine (threeR_any U3 Ax cx lx ((HX.out.under HSU3.out).more HSU3.out.size) HDX.out HL1X.out HNX.out).mono ?_
      rintro e U4 ⟨Ad,cd,rd,rfl,hnd,hrd,hbN⟩
      have HNd:=lH hnd
      have HRdU4:=lH hrd
      have HSU4:Hid (Below V4.heap.size V4 U4):=lH (HSU3.out.trans (hbN.mono HSU3.out.size))
      have HRaU4:=lH ((HRaU3.out.under hbN).more hbN.size)
      have HRbU4:=lH ((HRbU3.out.under hbN).more hbN.size)
      have HRcU4:=lH ((HRcU3.out.under hbN).more hbN.size)
      clear hbN hnd hrd
      go_simp
      refine hK.out _ _ (HSU4.out) (fun _=>?_)
      clear hK K hHeld
      try simp only [aP]
      have hHeld:(fun W=>Below V4.heap.size V4 W) U4:=HSU4.out
      refine rdy 16 ⟨some 53,.call ⟨ .value (.func 48),#[.tmp 49,.tmp 52],#[24,24]⟩,24,_,_,none⟩ rfl (fun K hK=>?_)
      go_simp
      refine (subR_any U4 Ac Ad cc cd rc rd HRcU4.out HRdU4.out HNc.out.1 HNd.out.1 (by have:=num_len8 HNc.out (Nat.mod_lt _ cP_pos);omega) (by have:=num_len8 HNd.out (Nat.mod_lt _ cP_pos);omega) HNc.out.2.1 HNd.out.2.1).mono ?_
      rintro e U5 ⟨Ae,ce,re,rfl,hne,hre,hbN⟩
      have HNe:=lH hne
      have HReU5:=lH hre
      have HSU5:Hid (Below V4.heap.size V4 U5):=lH (HSU4.out.trans (hbN.mono HSU4.out.size))
      have HRaU5:=lH ((HRaU4.out.under hbN).more hbN.size)
      have HRbU5:=lH ((HRbU4.out.under hbN).more hbN.size)
      have HRcU5:=lH ((HRcU4.out.under hbN).more hbN.size)
      have HRdU5:=lH ((HRdU4.out.under hbN).more hbN.size)
      clear hbN hne hre
      go_simp
      refine hK.out _ _ (HSU5.out) (fun _=>?_)
      clear hK K hHeld
      try simp only [aP]
      have hHeld:(fun W=>Below V4.heap.size V4 W) U5:=HSU5.out
      refine rdy 17 ⟨some 54,.call ⟨ .value (.func 50),#[],#[]⟩,24,_,_,none⟩ rfl (fun K hK=>?_)
      go_simp
      refine (refB_any U5).mono ?_
      rintro e U6 ⟨gf,hgf,rfl,hPf,hbN⟩
      obtain ⟨Af,hAf⟩:∃ A:Option Addr,A=some ⟨gf,0,none⟩:=⟨_,rfl⟩
      obtain ⟨cf,hcf⟩:∃ c:Nat,c=8:=⟨_,rfl⟩
      obtain ⟨rf,hlf⟩:∃ r:List Nat,r=lB:=⟨_,rfl⟩
      have HRfU6:Hid (Rd .u32 U6 U6.heap.size Af cf rf):=lH (by rw [hAf,hcf,hlf];exact Eight.rd hPf rfl)
      have HNf:=lH hlf
      have HZf:Hid ((some ⟨gf,0,none⟩:Option Addr)=Af∧(8:Nat)=cf∧(8:Nat)=rf.length):=lH ⟨hAf.symm,hcf.symm,by rw [hlf];rfl⟩
      clear hgf hPf hAf hcf hlf
      rw [show Value.slice (some ⟨gf,0,none⟩) 8 8=Value.slice Af rf.length cf by rw [←HZf.out.1,←HZf.out.2.1,←HZf.out.2.2]]
      have HSU6:Hid (Below V4.heap.size V4 U6):=lH (HSU5.out.trans (hbN.mono HSU5.out.size))
      have HRaU6:=lH ((HRaU5.out.under hbN).more hbN.size)
      have HRbU6:=lH ((HRbU5.out.under hbN).more hbN.size)
      have HRcU6:=lH ((HRcU5.out.under hbN).more hbN.size)
      have HRdU6:=lH ((HRdU5.out.under hbN).more hbN.size)
      have HReU6:=lH ((HReU5.out.under hbN).more hbN.size)
      clear hbN
      go_simp
      refine hK.out _ _ (HSU6.out) (fun _=>?_)
      clear hK K hHeld
      try simp only [aP]
      have hHeld:(fun W=>Below V4.heap.size V4 W) U6:=HSU6.out
      refine rdy 18 ⟨some 55,.call ⟨ .value (.func 47),#[.tmp 53,.tmp 54],#[24,24]⟩,24,_,_,none⟩ rfl (fun K hK=>?_)
      go_simp
      refine (addR_any U6 Ae Af ce cf re rf HReU6.out HRfU6.out HNe.out.1 (by rw [HNf.out];exact lB_ok.1) (by have:=num_len8 HNe.out (Nat.mod_lt _ cP_pos);omega) (by rw [HNf.out,lB_ok.2.2.2];omega) HNe.out.2.1 (by rw [HNf.out];exact lB_ok.2.1)).mono ?_
      rintro e U7 ⟨Ag,cg,rg,rfl,hng,hrg,hbN⟩
      have HNg:=lH hng
      have HRgU7:=lH hrg
      have HSU7:Hid (Below V4.heap.size V4 U7):=lH (HSU6.out.trans (hbN.mono HSU6.out.size))
      have HRaU7:=lH ((HRaU6.out.under hbN).more hbN.size)
      have HRbU7:=lH ((HRbU6.out.under hbN).more hbN.size)
      have HRcU7:=lH ((HRcU6.out.under hbN).more hbN.size)
      have HRdU7:=lH ((HRdU6.out.under hbN).more hbN.size)
      have HReU7:=lH ((HReU6.out.under hbN).more hbN.size)
      have HRfU7:=lH ((HRfU6.out.under hbN).more hbN.size)
      clear hbN hng hrg
      go_simp
      refine hK.out _ _ (HSU7.out) (fun _=>?_)
      clear hK K hHeld
      try simp only [aP]
      have hHeld:(fun W=>Below V4.heap.size V4 W) U7:=HSU7.out
      refine rdy 19 ⟨some 56,.call ⟨ .value (.func 45),#[.tmp 41,.tmp 55],#[24,24]⟩,3,_,_,none⟩ rfl (fun K hK=>?_)
      go_simp
      have HVZ:Hid (val ra=val ly*val ly % cP∧val rg=rhsR (val lx)):=lH ⟨HNa.out.2.2,by
       have h1:=HNg.out.2.2
       rw [HNe.out.2.2,HNc.out.2.2,HNb.out.2.2,HNd.out.2.2,HNf.out] at h1
       exact h1⟩
      obtain ⟨vz,hvz⟩:∃ v,v=cmpL ra rg:=⟨_,rfl⟩
      have HVV:Hid ((vz == 0)=decide (val ly*val ly % cP=rhsR (val lx))):=lH (by
       rw [hvz,cmpL_val HNa.out.1 HNg.out.1 HNa.out.2.1 HNg.out.2.1,HVZ.out.1,HVZ.out.2]
       by_cases e:val ly*val ly % cP=rhsR (val lx)
       ·rw [e,if_neg (by omega),if_neg (by omega)];simp
       ·rw [decide_eq_false e]
        by_cases e2:val ly*val ly % cP<rhsR (val lx)
        ·rw [if_pos e2];rfl
        ·rw [if_neg e2,if_pos (by omega)];rfl)
      have Hvz:=lH hvz.symm
      clear hvz
      refine (cmp'_any U7 _ _ Aa Ag ca cg ra rg HRaU7.out HRgU7.out vz Hvz.out).mono ?_
      rintro e wq ⟨rfl,qq,rfl⟩
      obtain ⟨U8,hN⟩:∃ W,W=U7.drewN qq:=⟨_,rfl⟩
      rw [←hN]
      have HSU8:Hid (Below V4.heap.size V4 U8):=lH (by rw [hN];exact bdN HSU7.out qq)
      have HRaU8:Hid (Rd .u32 U8 U8.heap.size Aa ca ra):=lH (by rw [hN];exact HRaU7.out)
      have HRbU8:Hid (Rd .u32 U8 U8.heap.size Ab cb rb):=lH (by rw [hN];exact HRbU7.out)
      have HRcU8:Hid (Rd .u32 U8 U8.heap.size Ac cc rc):=lH (by rw [hN];exact HRcU7.out)
      have HRdU8:Hid (Rd .u32 U8 U8.heap.size Ad cd rd):=lH (by rw [hN];exact HRdU7.out)
      have HReU8:Hid (Rd .u32 U8 U8.heap.size Ae ce re):=lH (by rw [hN];exact HReU7.out)
      have HRfU8:Hid (Rd .u32 U8 U8.heap.size Af cf rf):=lH (by rw [hN];exact HRfU7.out)
      have HRgU8:Hid (Rd .u32 U8 U8.heap.size Ag cg rg):=lH (by rw [hN];exact HRgU7.out)
      clear hN
      go_simp
      refine hK.out _ _ (HSU8.out) (fun _=>?_)
      clear hK K hHeld
      try simp only [aP]
      have hHeld:(fun W=>Below V4.heap.size V4 W) U8:=HSU8.out
      refine tk 20 ⟨some 57,.binOp .eql 3 (.tmp 56) (.const (.int .i64 0)) 3,4,_,_,none⟩ ?_ rfl ?_ hHeld ?_
      rotate_left 1
      ·(intro W hW;(try dsimp only at hW);go_simp;try with_reducible rfl)
      try simp only [aP]
      refine tk 21 ⟨some 2,.assign (.tmp 57),4,_,_,none⟩ ?_ rfl ?_ hHeld ?_
      rotate_left 1
      ·(intro W hW;(try dsimp only at hW);go_simp;try with_reducible rfl)
      try simp only [aP]
      refine wpAnyH_done (by kernel_rfl) ?_ _
      refine NoPanic.normal ?_
      go_wp2_with fail
      go_ret
      refine ⟨?_,HB9.out.trans (HSU8.out.mono HB9.out.size)⟩
      unfold ptOk
      rw [HBLX.out,HBLY.out,←HVV.out]
      rfl
end Go.Proofs.YtflfdglpljodbaaDoor
