/-
  The document: is it a point?
-/
import Derived.Test.YtflfdglpljodbaaDoorGBoxP
import Derived.Deep.RegionLaw
import Derived.Deep.RegionHeld3
import Derived.Deep.DrawnRows
set_option maxRecDepth 100000
set_option maxHeartbeats 40000000
namespace Go.Proofs.YtflfdglpljodbaaDoor
open Go.RowKit
set_option linter.unusedVariables false
set_option linter.unusedSimpArgs false
theorem refIs_any (w:World) (Ax Ay:Option Addr) (cx cy:Nat) (lx ly:List Nat) (inf:Bool) (hx:Rd .u32 w w.heap.size Ax cx lx) (hy:Rd .u32 w w.heap.size Ay cy ly) (hdx:Dg lx) (hdy:Dg ly) (hsx:lx.length≤1000) (hsy:ly.length≤1000) :
  Calls Tryd.prog 15 #[.agg #[.slice Ax lx.length cx,.slice Ay ly.length cy,.bool inf]] w fun e w'=>e = .returned (.bool (ptOk lx ly inf))∧Below w.heap.size w w':=by
 obtain ⟨w1,bA⟩:∃ W,W=w.alloc (.cells #[.slice Ax lx.length cx,.slice Ay ly.length cy,.bool inf] 26):=⟨_,rfl⟩
 have cL:BoxAt w1 w.heap.size Ax lx.length cx Ay ly.length cy inf:=by rw [bA];exact ⟨Holds.fresh w _ _⟩
 have hb:Below w.heap.size w w1:=by rw [bA];exact (Below.refl _ _).alloc (Nat.le_refl _) _
 have av:w.heap.size<w1.heap.size:=by rw [bA];simp
 have ax:=lH cL
 have HB:=lH hb
 have HW:=lH bA
 have HX:=lH ((hx.under hb).more hb.size)
 have HY:=lH ((hy.under hb).more hb.size)
 have bR:=lH hdx
 have cE:=lH hdy
 obtain ⟨b0,b1,b2⟩:=cL.cells
 clear cL hb bA hx hy hdx hdy
 cases inf
 case true =>
  have hXc:lx.length≤cx:=HX.out.1
  have hYc:ly.length≤cy:=HY.out.1
  obtain ⟨n,hn⟩:∃ n,n=lx.length+ly.length:=⟨_,rfl⟩
  have q1:IntKind.i64.wrap ((lx.length:Int)+(ly.length:Int))=(n:Int):=by rw [←Int.natCast_add,←hn];exact IntWalk.i64_in _ (by omega)
  have HF:Hid (ptOk lx ly true=((n:Int) == 0)):=lH (by unfold ptOk;rw [if_pos rfl,Bool.eq_iff_iff,Bool.and_eq_true,decide_eq_true_iff,decide_eq_true_iff,beq_iff_eq];omega)
  clear hn
  go_enter Tryd.func15,Tryd.ntmps15
  go_wp2_with fail
  go_ret
  exact ⟨by rw [HF.out];rfl,(Below.refl _ _).alloc (Nat.le_refl _) _⟩
 case false =>
  have bz:=fun (l:List Nat) (h:okN l=true)=>(okN_nrm h).2
  cases hokx:okN lx
  case false =>
   have aA:=lH hokx
   have HF:Hid (ptOk lx ly false=false):=lH (by unfold ptOk blw;rw [hokx];simp)
   clear hokx
   go_enter Tryd.func15,Tryd.ntmps15
   go_wp2_with fail
   rw [←HW.out]
   go_wp2_with fail
   clear b0 b1 b2
   refine wp_region_noPanic ?_
   refine wp_region_held_drew (S:=fun W=>Below w1.heap.size w1 W) (by kernel_rfl) ((Below.refl _ w1).drew) (fun ab=>?_)
   obtain ⟨V,hV⟩:∃ W,W=w1.drew:=⟨_,rfl⟩
   rw [←hV]
   have ai:Hid (Below w1.heap.size w1 V):=lH (by rw [hV];exact (Below.refl _ w1).drew)
   replace ab:(fun W=>Below w1.heap.size w1 W) V:=ai.out
   clear hV
   refine tz 0 ⟨some 13,.fieldAddr 26 (.tmp 1) 0,0,_,_,none⟩ rfl ab ?_
   try simp only [aP]
   refine tk 1 ⟨some 14,.load 24 (.tmp 13),24,_,_,none⟩ ?_ rfl ?_ ab ?_
   rotate_left 1
   ·(intro W hW;have ae:=(ax.out.under hW av).cells;obtain ⟨b0,b1,b2⟩:=ae;(try dsimp only at hW);go_simp;try with_reducible rfl)
   try simp only [aP]
   refine rdy 2 ⟨some 15,.call ⟨ .value (.func 44),#[.tmp 14],#[24]⟩,4,_,_,none⟩ rfl (fun K hK=>?_)
   go_simp
   refine (is'_any V _ Ax cx lx ((HX.out.under ai).more ai.out.size) false aA).mono ?_
   rintro e wq ⟨rfl,rfl⟩
   go_simp
   refine hK.out _ _ ab (fun _=>?_)
   clear hK K
   try simp only [aP]
   refine tz 3 ⟨some 16,.unOp .not 4 (.tmp 15),4,_,_,none⟩ rfl ab ?_
   try simp only [aP]
   refine tz 4 ⟨some 17,.move (.tmp 16),4,_,_,none⟩ rfl ab ?_
   try simp only [aP]
   refine wpAnyH_take (i:=5) (oi:=⟨some 18,.fieldAddr 26 (.tmp 1) 1,0,_,_,some (4,false)⟩) (v:=undef) rfl (by kernel_rfl) (by kernel_rfl) (by kernel_rfl) (fun _ _ _ h=>h) (Or.inr ⟨by rfl,rfl⟩) ab ?_
   try simp only [aP]
   refine wpAnyH_take (i:=6) (oi:=⟨some 19,.load 24 (.tmp 18),24,_,_,some (4,false)⟩) (v:=undef) rfl (by kernel_rfl) (by kernel_rfl) (by kernel_rfl) (fun _ _ _ h=>h) (Or.inr ⟨by rfl,rfl⟩) ab ?_
   try simp only [aP]
   refine wpAnyH_take (i:=7) (oi:=⟨some 20,.call ⟨ .value (.func 44),#[.tmp 19],#[24]⟩,4,_,_,some (4,false)⟩) (v:=undef) rfl (by kernel_rfl) (by kernel_rfl) (by kernel_rfl) (fun _ _ _ h=>h) (Or.inr ⟨by rfl,rfl⟩) ab ?_
   try simp only [aP]
   refine wpAnyH_take (i:=8) (oi:=⟨some 21,.unOp .not 4 (.tmp 20),4,_,_,some (4,false)⟩) (v:=undef) rfl (by kernel_rfl) (by kernel_rfl) (by kernel_rfl) (fun _ _ _ h=>h) (Or.inr ⟨by rfl,rfl⟩) ab ?_
   try simp only [aP]
   refine tz 9 ⟨some 22,.pick (.tmp 17) (.const (.bool true)) (.tmp 21),4,_,_,none⟩ rfl ab ?_
   try simp only [aP]
   refine tz 10 ⟨some 23,.move (.tmp 22),4,_,_,none⟩ rfl ab ?_
   try simp only [aP]
   refine wpAnyH_take (i:=11) (oi:=⟨some 24,.fieldAddr 26 (.tmp 1) 0,0,_,_,some (10,false)⟩) (v:=undef) rfl (by kernel_rfl) (by kernel_rfl) (by kernel_rfl) (fun _ _ _ h=>h) (Or.inr ⟨by rfl,rfl⟩) ab ?_
   try simp only [aP]
   refine wpAnyH_take (i:=12) (oi:=⟨some 25,.load 24 (.tmp 24),24,_,_,some (10,false)⟩) (v:=undef) rfl (by kernel_rfl) (by kernel_rfl) (by kernel_rfl) (fun _ _ _ h=>h) (Or.inr ⟨by rfl,rfl⟩) ab ?_
   try simp only [aP]
   refine wpAnyH_take (i:=13) (oi:=⟨some 26,.call ⟨ .value (.func 26),#[],#[]⟩,24,_,_,some (10,false)⟩) (v:=undef) rfl (by kernel_rfl) (by kernel_rfl) (by kernel_rfl) (fun _ _ _ h=>h) (Or.inr ⟨by rfl,rfl⟩) ab ?_
   try simp only [aP]
   refine wpAnyH_take (i:=14) (oi:=⟨some 27,.call ⟨ .value (.func 45),#[.tmp 25,.tmp 26],#[24,24]⟩,3,_,_,some (10,false)⟩) (v:=undef) rfl (by kernel_rfl) (by kernel_rfl) (by kernel_rfl) (fun _ _ _ h=>h) (Or.inr ⟨by rfl,rfl⟩) ab ?_
   try simp only [aP]
   refine wpAnyH_take (i:=15) (oi:=⟨some 28,.binOp .geq 3 (.tmp 27) (.const (.int .i64 0)) 3,4,_,_,some (10,false)⟩) (v:=undef) rfl (by kernel_rfl) (by kernel_rfl) (by kernel_rfl) (fun _ _ _ h=>h) (Or.inr ⟨by rfl,rfl⟩) ab ?_
   try simp only [aP]
   refine tz 16 ⟨some 29,.pick (.tmp 23) (.const (.bool true)) (.tmp 28),4,_,_,none⟩ rfl ab ?_
   try simp only [aP]
   refine tz 17 ⟨some 30,.move (.tmp 29),4,_,_,none⟩ rfl ab ?_
   try simp only [aP]
   refine wpAnyH_take (i:=18) (oi:=⟨some 31,.fieldAddr 26 (.tmp 1) 1,0,_,_,some (17,false)⟩) (v:=undef) rfl (by kernel_rfl) (by kernel_rfl) (by kernel_rfl) (fun _ _ _ h=>h) (Or.inr ⟨by rfl,rfl⟩) ab ?_
   try simp only [aP]
   refine wpAnyH_take (i:=19) (oi:=⟨some 32,.load 24 (.tmp 31),24,_,_,some (17,false)⟩) (v:=undef) rfl (by kernel_rfl) (by kernel_rfl) (by kernel_rfl) (fun _ _ _ h=>h) (Or.inr ⟨by rfl,rfl⟩) ab ?_
   try simp only [aP]
   refine wpAnyH_take (i:=20) (oi:=⟨some 33,.call ⟨ .value (.func 26),#[],#[]⟩,24,_,_,some (17,false)⟩) (v:=undef) rfl (by kernel_rfl) (by kernel_rfl) (by kernel_rfl) (fun _ _ _ h=>h) (Or.inr ⟨by rfl,rfl⟩) ab ?_
   try simp only [aP]
   refine wpAnyH_take (i:=21) (oi:=⟨some 34,.call ⟨ .value (.func 45),#[.tmp 32,.tmp 33],#[24,24]⟩,3,_,_,some (17,false)⟩) (v:=undef) rfl (by kernel_rfl) (by kernel_rfl) (by kernel_rfl) (fun _ _ _ h=>h) (Or.inr ⟨by rfl,rfl⟩) ab ?_
   try simp only [aP]
   refine wpAnyH_take (i:=22) (oi:=⟨some 35,.binOp .geq 3 (.tmp 34) (.const (.int .i64 0)) 3,4,_,_,some (17,false)⟩) (v:=undef) rfl (by kernel_rfl) (by kernel_rfl) (by kernel_rfl) (fun _ _ _ h=>h) (Or.inr ⟨by rfl,rfl⟩) ab ?_
   try simp only [aP]
   refine tz 23 ⟨some 36,.pick (.tmp 30) (.const (.bool true)) (.tmp 35),4,_,_,none⟩ rfl ab ?_
   try simp only [aP]
   refine dn ?_
   go_wp2_with fail
   go_ret
   exact ⟨by rw [HF.out];rfl,HB.out.trans (ai.out.mono HB.out.size)⟩
  case true =>
   cases hoky:okN ly
   case false =>
    have aA:=lH hokx
    have aH:=lH hoky
    have HF:Hid (ptOk lx ly false=false):=lH (by unfold ptOk blw;rw [hokx,hoky];simp)
    clear hokx hoky
    go_enter Tryd.func15,Tryd.ntmps15
    go_wp2_with fail
    rw [←HW.out]
    go_wp2_with fail
    clear b0 b1 b2
    refine wp_region_noPanic ?_
    refine wp_region_held_drew (S:=fun W=>Below w1.heap.size w1 W) (by kernel_rfl) ((Below.refl _ w1).drew) (fun ab=>?_)
    obtain ⟨V,hV⟩:∃ W,W=w1.drew:=⟨_,rfl⟩
    rw [←hV]
    have ai:Hid (Below w1.heap.size w1 V):=lH (by rw [hV];exact (Below.refl _ w1).drew)
    replace ab:(fun W=>Below w1.heap.size w1 W) V:=ai.out
    clear hV
    refine tz 0 ⟨some 13,.fieldAddr 26 (.tmp 1) 0,0,_,_,none⟩ rfl ab ?_
    try simp only [aP]
    refine tk 1 ⟨some 14,.load 24 (.tmp 13),24,_,_,none⟩ ?_ rfl ?_ ab ?_
    rotate_left 1
    ·(intro W hW;have ae:=(ax.out.under hW av).cells;obtain ⟨b0,b1,b2⟩:=ae;(try dsimp only at hW);go_simp;try with_reducible rfl)
    try simp only [aP]
    refine rdy 2 ⟨some 15,.call ⟨ .value (.func 44),#[.tmp 14],#[24]⟩,4,_,_,none⟩ rfl (fun K hK=>?_)
    go_simp
    refine (is'_any V _ Ax cx lx ((HX.out.under ai).more ai.out.size) true aA).mono ?_
    rintro e wq ⟨rfl,rfl⟩
    go_simp
    refine hK.out _ _ ab (fun _=>?_)
    clear hK K
    try simp only [aP]
    refine tz 3 ⟨some 16,.unOp .not 4 (.tmp 15),4,_,_,none⟩ rfl ab ?_
    try simp only [aP]
    refine tz 4 ⟨some 17,.move (.tmp 16),4,_,_,none⟩ rfl ab ?_
    try simp only [aP]
    refine tz 5 ⟨some 18,.fieldAddr 26 (.tmp 1) 1,0,_,_,some (4,false)⟩ rfl ab ?_
    try simp only [aP]
    refine tk 6 ⟨some 19,.load 24 (.tmp 18),24,_,_,some (4,false)⟩ ?_ rfl ?_ ab ?_
    rotate_left 1
    ·(intro W hW;have ae:=(ax.out.under hW av).cells;obtain ⟨b0,b1,b2⟩:=ae;(try dsimp only at hW);go_simp;try with_reducible rfl)
    try simp only [aP]
    refine rdy 7 ⟨some 20,.call ⟨ .value (.func 44),#[.tmp 19],#[24]⟩,4,_,_,some (4,false)⟩ rfl (fun K hK=>?_)
    go_simp
    refine (is'_any V _ Ay cy ly ((HY.out.under ai).more ai.out.size) false aH).mono ?_
    rintro e wq ⟨rfl,rfl⟩
    go_simp
    refine hK.out _ _ ab (fun _=>?_)
    clear hK K
    try simp only [aP]
    refine tz 8 ⟨some 21,.unOp .not 4 (.tmp 20),4,_,_,some (4,false)⟩ rfl ab ?_
    try simp only [aP]
    refine tz 9 ⟨some 22,.pick (.tmp 17) (.const (.bool true)) (.tmp 21),4,_,_,none⟩ rfl ab ?_
    try simp only [aP]
    refine tz 10 ⟨some 23,.move (.tmp 22),4,_,_,none⟩ rfl ab ?_
    try simp only [aP]
    refine wpAnyH_take (i:=11) (oi:=⟨some 24,.fieldAddr 26 (.tmp 1) 0,0,_,_,some (10,false)⟩) (v:=undef) rfl (by kernel_rfl) (by kernel_rfl) (by kernel_rfl) (fun _ _ _ h=>h) (Or.inr ⟨by rfl,rfl⟩) ab ?_
    try simp only [aP]
    refine wpAnyH_take (i:=12) (oi:=⟨some 25,.load 24 (.tmp 24),24,_,_,some (10,false)⟩) (v:=undef) rfl (by kernel_rfl) (by kernel_rfl) (by kernel_rfl) (fun _ _ _ h=>h) (Or.inr ⟨by rfl,rfl⟩) ab ?_
    try simp only [aP]
    refine wpAnyH_take (i:=13) (oi:=⟨some 26,.call ⟨ .value (.func 26),#[],#[]⟩,24,_,_,some (10,false)⟩) (v:=undef) rfl (by kernel_rfl) (by kernel_rfl) (by kernel_rfl) (fun _ _ _ h=>h) (Or.inr ⟨by rfl,rfl⟩) ab ?_
    try simp only [aP]
    refine wpAnyH_take (i:=14) (oi:=⟨some 27,.call ⟨ .value (.func 45),#[.tmp 25,.tmp 26],#[24,24]⟩,3,_,_,some (10,false)⟩) (v:=undef) rfl (by kernel_rfl) (by kernel_rfl) (by kernel_rfl) (fun _ _ _ h=>h) (Or.inr ⟨by rfl,rfl⟩) ab ?_
    try simp only [aP]
    refine wpAnyH_take (i:=15) (oi:=⟨some 28,.binOp .geq 3 (.tmp 27) (.const (.int .i64 0)) 3,4,_,_,some (10,false)⟩) (v:=undef) rfl (by kernel_rfl) (by kernel_rfl) (by kernel_rfl) (fun _ _ _ h=>h) (Or.inr ⟨by rfl,rfl⟩) ab ?_
    try simp only [aP]
    refine tz 16 ⟨some 29,.pick (.tmp 23) (.const (.bool true)) (.tmp 28),4,_,_,none⟩ rfl ab ?_
    try simp only [aP]
    refine tz 17 ⟨some 30,.move (.tmp 29),4,_,_,none⟩ rfl ab ?_
    try simp only [aP]
    refine wpAnyH_take (i:=18) (oi:=⟨some 31,.fieldAddr 26 (.tmp 1) 1,0,_,_,some (17,false)⟩) (v:=undef) rfl (by kernel_rfl) (by kernel_rfl) (by kernel_rfl) (fun _ _ _ h=>h) (Or.inr ⟨by rfl,rfl⟩) ab ?_
    try simp only [aP]
    refine wpAnyH_take (i:=19) (oi:=⟨some 32,.load 24 (.tmp 31),24,_,_,some (17,false)⟩) (v:=undef) rfl (by kernel_rfl) (by kernel_rfl) (by kernel_rfl) (fun _ _ _ h=>h) (Or.inr ⟨by rfl,rfl⟩) ab ?_
    try simp only [aP]
    refine wpAnyH_take (i:=20) (oi:=⟨some 33,.call ⟨ .value (.func 26),#[],#[]⟩,24,_,_,some (17,false)⟩) (v:=undef) rfl (by kernel_rfl) (by kernel_rfl) (by kernel_rfl) (fun _ _ _ h=>h) (Or.inr ⟨by rfl,rfl⟩) ab ?_
    try simp only [aP]
    refine wpAnyH_take (i:=21) (oi:=⟨some 34,.call ⟨ .value (.func 45),#[.tmp 32,.tmp 33],#[24,24]⟩,3,_,_,some (17,false)⟩) (v:=undef) rfl (by kernel_rfl) (by kernel_rfl) (by kernel_rfl) (fun _ _ _ h=>h) (Or.inr ⟨by rfl,rfl⟩) ab ?_
    try simp only [aP]
    refine wpAnyH_take (i:=22) (oi:=⟨some 35,.binOp .geq 3 (.tmp 34) (.const (.int .i64 0)) 3,4,_,_,some (17,false)⟩) (v:=undef) rfl (by kernel_rfl) (by kernel_rfl) (by kernel_rfl) (fun _ _ _ h=>h) (Or.inr ⟨by rfl,rfl⟩) ab ?_
    try simp only [aP]
    refine tz 23 ⟨some 36,.pick (.tmp 30) (.const (.bool true)) (.tmp 35),4,_,_,none⟩ rfl ab ?_
    try simp only [aP]
    refine dn ?_
    go_wp2_with fail
    go_ret
    exact ⟨by rw [HF.out];rfl,HB.out.trans (ai.out.mono HB.out.size)⟩
   case true =>
    have aA:=lH hokx
    have aH:=lH hoky
    obtain ⟨vx,bc⟩:∃ v,v=cmpL lx lP:=⟨_,rfl⟩
    obtain ⟨vy,ba⟩:∃ v,v=cmpL ly lP:=⟨_,rfl⟩
    have cB:=lH bc.symm
    have du:=lH ba.symm
    rw [cmpL_val bR.out lP_ok.1 (bz lx hokx) lP_ok.2.1,lP_ok.2.2.1] at bc
    rw [cmpL_val cE.out lP_ok.1 (bz ly hoky) lP_ok.2.1,lP_ok.2.2.1] at ba
    by_cases hltx:val lx<cP
    case neg =>
     have HF:Hid (ptOk lx ly false=false):=lH (by unfold ptOk blw;rw [hokx,decide_eq_false hltx];simp)
     have bX:Hid (decide (0≤vx)=true):=lH (decide_eq_true (by rw [bc,if_neg hltx];split <;> omega))
     clear hokx hoky bc ba hltx
     go_enter Tryd.func15,Tryd.ntmps15
     go_wp2_with fail
     rw [←HW.out]
     go_wp2_with fail
     clear b0 b1 b2
     refine wp_region_noPanic ?_
     refine wp_region_held_drew (S:=fun W=>Below w1.heap.size w1 W) (by kernel_rfl) ((Below.refl _ w1).drew) (fun ab=>?_)
     obtain ⟨V,hV⟩:∃ W,W=w1.drew:=⟨_,rfl⟩
     rw [←hV]
     have ai:Hid (Below w1.heap.size w1 V):=lH (by rw [hV];exact (Below.refl _ w1).drew)
     replace ab:(fun W=>Below w1.heap.size w1 W) V:=ai.out
     clear hV
     refine tz 0 ⟨some 13,.fieldAddr 26 (.tmp 1) 0,0,_,_,none⟩ rfl ab ?_
     try simp only [aP]
     refine tk 1 ⟨some 14,.load 24 (.tmp 13),24,_,_,none⟩ ?_ rfl ?_ ab ?_
     rotate_left 1
     ·(intro W hW;have ae:=(ax.out.under hW av).cells;obtain ⟨b0,b1,b2⟩:=ae;(try dsimp only at hW);go_simp;try with_reducible rfl)
     try simp only [aP]
     refine rdy 2 ⟨some 15,.call ⟨ .value (.func 44),#[.tmp 14],#[24]⟩,4,_,_,none⟩ rfl (fun K hK=>?_)
     go_simp
     refine (is'_any V _ Ax cx lx ((HX.out.under ai).more ai.out.size) true aA).mono ?_
     rintro e wq ⟨rfl,rfl⟩
     go_simp
     refine hK.out _ _ ab (fun _=>?_)
     clear hK K
     try simp only [aP]
     refine tz 3 ⟨some 16,.unOp .not 4 (.tmp 15),4,_,_,none⟩ rfl ab ?_
     try simp only [aP]
     refine tz 4 ⟨some 17,.move (.tmp 16),4,_,_,none⟩ rfl ab ?_
     try simp only [aP]
     refine tz 5 ⟨some 18,.fieldAddr 26 (.tmp 1) 1,0,_,_,some (4,false)⟩ rfl ab ?_
     try simp only [aP]
     refine tk 6 ⟨some 19,.load 24 (.tmp 18),24,_,_,some (4,false)⟩ ?_ rfl ?_ ab ?_
     rotate_left 1
     ·(intro W hW;have ae:=(ax.out.under hW av).cells;obtain ⟨b0,b1,b2⟩:=ae;(try dsimp only at hW);go_simp;try with_reducible rfl)
     try simp only [aP]
     refine rdy 7 ⟨some 20,.call ⟨ .value (.func 44),#[.tmp 19],#[24]⟩,4,_,_,some (4,false)⟩ rfl (fun K hK=>?_)
     go_simp
     refine (is'_any V _ Ay cy ly ((HY.out.under ai).more ai.out.size) true aH).mono ?_
     rintro e wq ⟨rfl,rfl⟩
     go_simp
     refine hK.out _ _ ab (fun _=>?_)
     clear hK K
     try simp only [aP]
     refine tz 8 ⟨some 21,.unOp .not 4 (.tmp 20),4,_,_,some (4,false)⟩ rfl ab ?_
     try simp only [aP]
     refine tz 9 ⟨some 22,.pick (.tmp 17) (.const (.bool true)) (.tmp 21),4,_,_,none⟩ rfl ab ?_
     try simp only [aP]
     refine tz 10 ⟨some 23,.move (.tmp 22),4,_,_,none⟩ rfl ab ?_
     try simp only [aP]
     refine tz 11 ⟨some 24,.fieldAddr 26 (.tmp 1) 0,0,_,_,some (10,false)⟩ rfl ab ?_
     try simp only [aP]
     refine tk 12 ⟨some 25,.load 24 (.tmp 24),24,_,_,some (10,false)⟩ ?_ rfl ?_ ab ?_
     rotate_left 1
     ·(intro W hW;have ae:=(ax.out.under hW av).cells;obtain ⟨b0,b1,b2⟩:=ae;(try dsimp only at hW);go_simp;try with_reducible rfl)
     try simp only [aP]
     refine rdy 13 ⟨some 26,.call ⟨ .value (.func 26),#[],#[]⟩,24,_,_,some (10,false)⟩ rfl (fun K hK=>?_)
     go_simp
     refine (refP_any V).mono ?_
     rintro e V1 ⟨gp,br,rfl,aV,ac⟩
     obtain ⟨Ap,aF⟩:∃ A:Option Addr,A=some ⟨gp,0,none⟩:=⟨_,rfl⟩
     obtain ⟨cp,aK⟩:∃ c:Nat,c=8:=⟨_,rfl⟩
     obtain ⟨rp,aC⟩:∃ r:List Nat,r=lP:=⟨_,rfl⟩
     have au:Hid (Rd .u32 V1 V1.heap.size Ap cp rp):=lH (by rw [aF,aK,aC];exact Eight.rd aV rfl)
     have bl:=lH aC
     have aG:Hid ((some ⟨gp,0,none⟩:Option Addr)=Ap∧(8:Nat)=cp∧(8:Nat)=rp.length):=lH ⟨aF.symm,aK.symm,by rw [aC];rfl⟩
     clear br aV aF aK aC
     rw [show Value.slice (some ⟨gp,0,none⟩) 8 8=Value.slice Ap rp.length cp by rw [←aG.out.1,←aG.out.2.1,←aG.out.2.2]]
     have ak:Hid (Below w1.heap.size w1 V1):=lH (ai.out.trans (ac.mono ai.out.size))
     clear ac
     go_simp
     refine hK.out _ _ (ak.out) (fun _=>?_)
     clear hK K ab
     try simp only [aP]
     have ab:(fun W=>Below w1.heap.size w1 W) V1:=ak.out
     refine rdy 14 ⟨some 27,.call ⟨ .value (.func 45),#[.tmp 25,.tmp 26],#[24,24]⟩,3,_,_,some (10,false)⟩ rfl (fun K hK=>?_)
     go_simp
     refine (cmp'_any V1 _ _ Ax Ap cx cp lx rp ((HX.out.under ak).more ak.out.size) au vx (by rw [bl.out];exact cB.out)).mono ?_
     rintro e wq ⟨rfl,qq,rfl⟩
     obtain ⟨V2,hN⟩:∃ W,W=V1.drewN qq:=⟨_,rfl⟩
     rw [←hN]
     have ao:Hid (Below w1.heap.size w1 V2):=lH (by rw [hN];exact bdN ak qq)
     have aB:Hid (Rd .u32 V2 V2.heap.size Ap cp rp):=lH (by rw [hN];exact au.out)
     clear hN
     go_simp
     refine hK.out _ _ (ao.out) (fun _=>?_)
     clear hK K ab
     try simp only [aP]
     have ab:(fun W=>Below w1.heap.size w1 W) V2:=ao.out
     refine tk 15 ⟨some 28,.binOp .geq 3 (.tmp 27) (.const (.int .i64 0)) 3,4,_,_,some (10,false)⟩ ?_ rfl ?_ ab ?_
     rotate_left 1
     ·(intro W hW;have hq:=bX.out;(try dsimp only at hW);go_simp;try with_reducible rfl)
     try simp only [aP]
     refine tz 16 ⟨some 29,.pick (.tmp 23) (.const (.bool true)) (.tmp 28),4,_,_,none⟩ rfl ab ?_
     try simp only [aP]
     refine tz 17 ⟨some 30,.move (.tmp 29),4,_,_,none⟩ rfl ab ?_
     try simp only [aP]
     refine wpAnyH_take (i:=18) (oi:=⟨some 31,.fieldAddr 26 (.tmp 1) 1,0,_,_,some (17,false)⟩) (v:=undef) rfl (by kernel_rfl) (by kernel_rfl) (by kernel_rfl) (fun _ _ _ h=>h) (Or.inr ⟨by rfl,rfl⟩) ab ?_
     try simp only [aP]
     refine wpAnyH_take (i:=19) (oi:=⟨some 32,.load 24 (.tmp 31),24,_,_,some (17,false)⟩) (v:=undef) rfl (by kernel_rfl) (by kernel_rfl) (by kernel_rfl) (fun _ _ _ h=>h) (Or.inr ⟨by rfl,rfl⟩) ab ?_
     try simp only [aP]
     refine wpAnyH_take (i:=20) (oi:=⟨some 33,.call ⟨ .value (.func 26),#[],#[]⟩,24,_,_,some (17,false)⟩) (v:=undef) rfl (by kernel_rfl) (by kernel_rfl) (by kernel_rfl) (fun _ _ _ h=>h) (Or.inr ⟨by rfl,rfl⟩) ab ?_
     try simp only [aP]
     refine wpAnyH_take (i:=21) (oi:=⟨some 34,.call ⟨ .value (.func 45),#[.tmp 32,.tmp 33],#[24,24]⟩,3,_,_,some (17,false)⟩) (v:=undef) rfl (by kernel_rfl) (by kernel_rfl) (by kernel_rfl) (fun _ _ _ h=>h) (Or.inr ⟨by rfl,rfl⟩) ab ?_
     try simp only [aP]
     refine wpAnyH_take (i:=22) (oi:=⟨some 35,.binOp .geq 3 (.tmp 34) (.const (.int .i64 0)) 3,4,_,_,some (17,false)⟩) (v:=undef) rfl (by kernel_rfl) (by kernel_rfl) (by kernel_rfl) (fun _ _ _ h=>h) (Or.inr ⟨by rfl,rfl⟩) ab ?_
     try simp only [aP]
     refine tz 23 ⟨some 36,.pick (.tmp 30) (.const (.bool true)) (.tmp 35),4,_,_,none⟩ rfl ab ?_
     try simp only [aP]
     refine dn ?_
     go_wp2_with fail
     go_ret
     exact ⟨by rw [HF.out];rfl,HB.out.trans (ao.out.mono HB.out.size)⟩
    case pos =>
     have bX:Hid (decide (0≤vx)=false):=lH (decide_eq_false (by rw [bc,if_pos hltx];omega))
     by_cases hlty:val ly<cP
     case neg =>
      have HF:Hid (ptOk lx ly false=false):=lH (by unfold ptOk blw;rw [hokx,hoky,decide_eq_false hlty];simp)
      have cC:Hid (decide (0≤vy)=true):=lH (decide_eq_true (by rw [ba,if_neg hlty];split <;> omega))
      clear hokx hoky bc ba hltx hlty
      go_enter Tryd.func15,Tryd.ntmps15
      go_wp2_with fail
      rw [←HW.out]
      go_wp2_with fail
      clear b0 b1 b2
      refine wp_region_noPanic ?_
      refine wp_region_held_drew (S:=fun W=>Below w1.heap.size w1 W) (by kernel_rfl) ((Below.refl _ w1).drew) (fun ab=>?_)
      obtain ⟨V,hV⟩:∃ W,W=w1.drew:=⟨_,rfl⟩
      rw [←hV]
      have ai:Hid (Below w1.heap.size w1 V):=lH (by rw [hV];exact (Below.refl _ w1).drew)
      replace ab:(fun W=>Below w1.heap.size w1 W) V:=ai.out
      clear hV
      refine tz 0 ⟨some 13,.fieldAddr 26 (.tmp 1) 0,0,_,_,none⟩ rfl ab ?_
      try simp only [aP]
      refine tk 1 ⟨some 14,.load 24 (.tmp 13),24,_,_,none⟩ ?_ rfl ?_ ab ?_
      rotate_left 1
      ·(intro W hW;have ae:=(ax.out.under hW av).cells;obtain ⟨b0,b1,b2⟩:=ae;(try dsimp only at hW);go_simp;try with_reducible rfl)
      try simp only [aP]
      refine rdy 2 ⟨some 15,.call ⟨ .value (.func 44),#[.tmp 14],#[24]⟩,4,_,_,none⟩ rfl (fun K hK=>?_)
      go_simp
      refine (is'_any V _ Ax cx lx ((HX.out.under ai).more ai.out.size) true aA).mono ?_
      rintro e wq ⟨rfl,rfl⟩
      go_simp
      refine hK.out _ _ ab (fun _=>?_)
      clear hK K
      try simp only [aP]
      refine tz 3 ⟨some 16,.unOp .not 4 (.tmp 15),4,_,_,none⟩ rfl ab ?_
      try simp only [aP]
      refine tz 4 ⟨some 17,.move (.tmp 16),4,_,_,none⟩ rfl ab ?_
      try simp only [aP]
      refine tz 5 ⟨some 18,.fieldAddr 26 (.tmp 1) 1,0,_,_,some (4,false)⟩ rfl ab ?_
      try simp only [aP]
      refine tk 6 ⟨some 19,.load 24 (.tmp 18),24,_,_,some (4,false)⟩ ?_ rfl ?_ ab ?_
      rotate_left 1
      ·(intro W hW;have ae:=(ax.out.under hW av).cells;obtain ⟨b0,b1,b2⟩:=ae;(try dsimp only at hW);go_simp;try with_reducible rfl)
      try simp only [aP]
      refine rdy 7 ⟨some 20,.call ⟨ .value (.func 44),#[.tmp 19],#[24]⟩,4,_,_,some (4,false)⟩ rfl (fun K hK=>?_)
      go_simp
      refine (is'_any V _ Ay cy ly ((HY.out.under ai).more ai.out.size) true aH).mono ?_
      rintro e wq ⟨rfl,rfl⟩
      go_simp
      refine hK.out _ _ ab (fun _=>?_)
      clear hK K
      try simp only [aP]
      refine tz 8 ⟨some 21,.unOp .not 4 (.tmp 20),4,_,_,some (4,false)⟩ rfl ab ?_
      try simp only [aP]
      refine tz 9 ⟨some 22,.pick (.tmp 17) (.const (.bool true)) (.tmp 21),4,_,_,none⟩ rfl ab ?_
      try simp only [aP]
      refine tz 10 ⟨some 23,.move (.tmp 22),4,_,_,none⟩ rfl ab ?_
      try simp only [aP]
      refine tz 11 ⟨some 24,.fieldAddr 26 (.tmp 1) 0,0,_,_,some (10,false)⟩ rfl ab ?_
      try simp only [aP]
      refine tk 12 ⟨some 25,.load 24 (.tmp 24),24,_,_,some (10,false)⟩ ?_ rfl ?_ ab ?_
      rotate_left 1
      ·(intro W hW;have ae:=(ax.out.under hW av).cells;obtain ⟨b0,b1,b2⟩:=ae;(try dsimp only at hW);go_simp;try with_reducible rfl)
      try simp only [aP]
      refine rdy 13 ⟨some 26,.call ⟨ .value (.func 26),#[],#[]⟩,24,_,_,some (10,false)⟩ rfl (fun K hK=>?_)
      go_simp
      refine (refP_any V).mono ?_
      rintro e V1 ⟨gp,br,rfl,aV,ac⟩
      obtain ⟨Ap,aF⟩:∃ A:Option Addr,A=some ⟨gp,0,none⟩:=⟨_,rfl⟩
      obtain ⟨cp,aK⟩:∃ c:Nat,c=8:=⟨_,rfl⟩
      obtain ⟨rp,aC⟩:∃ r:List Nat,r=lP:=⟨_,rfl⟩
      have au:Hid (Rd .u32 V1 V1.heap.size Ap cp rp):=lH (by rw [aF,aK,aC];exact Eight.rd aV rfl)
      have bl:=lH aC
      have aG:Hid ((some ⟨gp,0,none⟩:Option Addr)=Ap∧(8:Nat)=cp∧(8:Nat)=rp.length):=lH ⟨aF.symm,aK.symm,by rw [aC];rfl⟩
      clear br aV aF aK aC
      rw [show Value.slice (some ⟨gp,0,none⟩) 8 8=Value.slice Ap rp.length cp by rw [←aG.out.1,←aG.out.2.1,←aG.out.2.2]]
      have ak:Hid (Below w1.heap.size w1 V1):=lH (ai.out.trans (ac.mono ai.out.size))
      clear ac
      go_simp
      refine hK.out _ _ (ak.out) (fun _=>?_)
      clear hK K ab
      try simp only [aP]
      have ab:(fun W=>Below w1.heap.size w1 W) V1:=ak.out
      refine rdy 14 ⟨some 27,.call ⟨ .value (.func 45),#[.tmp 25,.tmp 26],#[24,24]⟩,3,_,_,some (10,false)⟩ rfl (fun K hK=>?_)
      go_simp
      refine (cmp'_any V1 _ _ Ax Ap cx cp lx rp ((HX.out.under ak).more ak.out.size) au vx (by rw [bl.out];exact cB.out)).mono ?_
      rintro e wq ⟨rfl,qq,rfl⟩
      obtain ⟨V2,hN⟩:∃ W,W=V1.drewN qq:=⟨_,rfl⟩
      rw [←hN]
      have ao:Hid (Below w1.heap.size w1 V2):=lH (by rw [hN];exact bdN ak qq)
      have aB:Hid (Rd .u32 V2 V2.heap.size Ap cp rp):=lH (by rw [hN];exact au.out)
      clear hN
      go_simp
      refine hK.out _ _ (ao.out) (fun _=>?_)
      clear hK K ab
      try simp only [aP]
      have ab:(fun W=>Below w1.heap.size w1 W) V2:=ao.out
      refine tk 15 ⟨some 28,.binOp .geq 3 (.tmp 27) (.const (.int .i64 0)) 3,4,_,_,some (10,false)⟩ ?_ rfl ?_ ab ?_
      rotate_left 1
      ·(intro W hW;have hq:=bX.out;(try dsimp only at hW);go_simp;try with_reducible rfl)
      try simp only [aP]
      refine tz 16 ⟨some 29,.pick (.tmp 23) (.const (.bool true)) (.tmp 28),4,_,_,none⟩ rfl ab ?_
      try simp only [aP]
      refine tz 17 ⟨some 30,.move (.tmp 29),4,_,_,none⟩ rfl ab ?_
      try simp only [aP]
      refine tz 18 ⟨some 31,.fieldAddr 26 (.tmp 1) 1,0,_,_,some (17,false)⟩ rfl ab ?_
      try simp only [aP]
      refine tk 19 ⟨some 32,.load 24 (.tmp 31),24,_,_,some (17,false)⟩ ?_ rfl ?_ ab ?_
      rotate_left 1
      ·(intro W hW;have ae:=(ax.out.under hW av).cells;obtain ⟨b0,b1,b2⟩:=ae;(try dsimp only at hW);go_simp;try with_reducible rfl)
      try simp only [aP]
      refine rdy 20 ⟨some 33,.call ⟨ .value (.func 26),#[],#[]⟩,24,_,_,some (17,false)⟩ rfl (fun K hK=>?_)
      go_simp
      refine (refP_any V2).mono ?_
      rintro e V3 ⟨gq,cN,rfl,bJ,ac⟩
      obtain ⟨Aq,a9⟩:∃ A:Option Addr,A=some ⟨gq,0,none⟩:=⟨_,rfl⟩
      obtain ⟨cq,a8⟩:∃ c:Nat,c=8:=⟨_,rfl⟩
      obtain ⟨rq,aQ⟩:∃ r:List Nat,r=lP:=⟨_,rfl⟩
      have ay:Hid (Rd .u32 V3 V3.heap.size Aq cq rq):=lH (by rw [a9,a8,aQ];exact Eight.rd bJ rfl)
      have cM:=lH aQ
      have bf:Hid ((some ⟨gq,0,none⟩:Option Addr)=Aq∧(8:Nat)=cq∧(8:Nat)=rq.length):=lH ⟨a9.symm,a8.symm,by rw [aQ];rfl⟩
      clear cN bJ a9 a8 aQ
      rw [show Value.slice (some ⟨gq,0,none⟩) 8 8=Value.slice Aq rq.length cq by rw [←bf.out.1,←bf.out.2.1,←bf.out.2.2]]
      have aw:Hid (Below w1.heap.size w1 V3):=lH (ao.out.trans (ac.mono ao.out.size))
      have aJ:=lH ((aB.out.under ac).more ac.size)
      clear ac
      go_simp
      refine hK.out _ _ (aw.out) (fun _=>?_)
      clear hK K ab
      try simp only [aP]
      have ab:(fun W=>Below w1.heap.size w1 W) V3:=aw.out
      refine rdy 21 ⟨some 34,.call ⟨ .value (.func 45),#[.tmp 32,.tmp 33],#[24,24]⟩,3,_,_,some (17,false)⟩ rfl (fun K hK=>?_)
      go_simp
      refine (cmp'_any V3 _ _ Ay Aq cy cq ly rq ((HY.out.under aw).more aw.out.size) ay vy (by rw [cM.out];exact du.out)).mono ?_
      rintro e wq ⟨rfl,qq,rfl⟩
      obtain ⟨V4,hN⟩:∃ W,W=V3.drewN qq:=⟨_,rfl⟩
      rw [←hN]
      have am:Hid (Below w1.heap.size w1 V4):=lH (by rw [hN];exact bdN aw qq)
      have bu:Hid (Rd .u32 V4 V4.heap.size Ap cp rp):=lH (by rw [hN];exact aJ.out)
      have bC:Hid (Rd .u32 V4 V4.heap.size Aq cq rq):=lH (by rw [hN];exact ay.out)
      clear hN
      go_simp
      refine hK.out _ _ (am.out) (fun _=>?_)
      clear hK K ab
      try simp only [aP]
      have ab:(fun W=>Below w1.heap.size w1 W) V4:=am.out
      refine tk 22 ⟨some 35,.binOp .geq 3 (.tmp 34) (.const (.int .i64 0)) 3,4,_,_,some (17,false)⟩ ?_ rfl ?_ ab ?_
      rotate_left 1
      ·(intro W hW;have hq:=cC.out;(try dsimp only at hW);go_simp;try with_reducible rfl)
      try simp only [aP]
      refine tz 23 ⟨some 36,.pick (.tmp 30) (.const (.bool true)) (.tmp 35),4,_,_,none⟩ rfl ab ?_
      try simp only [aP]
      refine dn ?_
      go_wp2_with fail
      go_ret
      exact ⟨by rw [HF.out];rfl,HB.out.trans (am.out.mono HB.out.size)⟩
     case pos =>
      have cC:Hid (decide (0≤vy)=false):=lH (decide_eq_false (by rw [ba,if_pos hlty];omega))
      have cG:Hid (blw lx=true):=lH (by unfold blw;rw [hokx,decide_eq_true hltx];rfl)
      have cJ:Hid (blw ly=true):=lH (by unfold blw;rw [hoky,decide_eq_true hlty];rfl)
      have aL:=lH hsx
      have bt:=lH hsy
      have bZ:=lH (bz lx hokx)
      have dC:=lH (bz ly hoky)
      clear hokx hoky bc ba hltx hlty bz hsx hsy
      go_enter Tryd.func15,Tryd.ntmps15
      go_wp2_with fail
      rw [←HW.out]
      go_wp2_with fail
      clear b0 b1 b2
      refine wp_region_noPanic ?_
      refine wp_region_held_drew (S:=fun W=>Below w1.heap.size w1 W) (by kernel_rfl) ((Below.refl _ w1).drew) (fun ab=>?_)
      obtain ⟨V,hV⟩:∃ W,W=w1.drew:=⟨_,rfl⟩
      rw [←hV]
      have ai:Hid (Below w1.heap.size w1 V):=lH (by rw [hV];exact (Below.refl _ w1).drew)
      replace ab:(fun W=>Below w1.heap.size w1 W) V:=ai.out
      clear hV
      refine tz 0 ⟨some 13,.fieldAddr 26 (.tmp 1) 0,0,_,_,none⟩ rfl ab ?_
      try simp only [aP]
      refine tk 1 ⟨some 14,.load 24 (.tmp 13),24,_,_,none⟩ ?_ rfl ?_ ab ?_
      rotate_left 1
      ·(intro W hW;have ae:=(ax.out.under hW av).cells;obtain ⟨b0,b1,b2⟩:=ae;(try dsimp only at hW);go_simp;try with_reducible rfl)
      try simp only [aP]
      refine rdy 2 ⟨some 15,.call ⟨ .value (.func 44),#[.tmp 14],#[24]⟩,4,_,_,none⟩ rfl (fun K hK=>?_)
      go_simp
      refine (is'_any V _ Ax cx lx ((HX.out.under ai).more ai.out.size) true aA).mono ?_
      rintro e wq ⟨rfl,rfl⟩
      go_simp
      refine hK.out _ _ ab (fun _=>?_)
      clear hK K
      try simp only [aP]
      refine tz 3 ⟨some 16,.unOp .not 4 (.tmp 15),4,_,_,none⟩ rfl ab ?_
      try simp only [aP]
      refine tz 4 ⟨some 17,.move (.tmp 16),4,_,_,none⟩ rfl ab ?_
      try simp only [aP]
      refine tz 5 ⟨some 18,.fieldAddr 26 (.tmp 1) 1,0,_,_,some (4,false)⟩ rfl ab ?_
      try simp only [aP]
      refine tk 6 ⟨some 19,.load 24 (.tmp 18),24,_,_,some (4,false)⟩ ?_ rfl ?_ ab ?_
      rotate_left 1
      ·(intro W hW;have ae:=(ax.out.under hW av).cells;obtain ⟨b0,b1,b2⟩:=ae;(try dsimp only at hW);go_simp;try with_reducible rfl)
      try simp only [aP]
      refine rdy 7 ⟨some 20,.call ⟨ .value (.func 44),#[.tmp 19],#[24]⟩,4,_,_,some (4,false)⟩ rfl (fun K hK=>?_)
      go_simp
      refine (is'_any V _ Ay cy ly ((HY.out.under ai).more ai.out.size) true aH).mono ?_
      rintro e wq ⟨rfl,rfl⟩
      go_simp
      refine hK.out _ _ ab (fun _=>?_)
      clear hK K
      try simp only [aP]
      refine tz 8 ⟨some 21,.unOp .not 4 (.tmp 20),4,_,_,some (4,false)⟩ rfl ab ?_
      try simp only [aP]
      refine tz 9 ⟨some 22,.pick (.tmp 17) (.const (.bool true)) (.tmp 21),4,_,_,none⟩ rfl ab ?_
      try simp only [aP]
      refine tz 10 ⟨some 23,.move (.tmp 22),4,_,_,none⟩ rfl ab ?_
      try simp only [aP]
      refine tz 11 ⟨some 24,.fieldAddr 26 (.tmp 1) 0,0,_,_,some (10,false)⟩ rfl ab ?_
      try simp only [aP]
      refine tk 12 ⟨some 25,.load 24 (.tmp 24),24,_,_,some (10,false)⟩ ?_ rfl ?_ ab ?_
      rotate_left 1
      ·(intro W hW;have ae:=(ax.out.under hW av).cells;obtain ⟨b0,b1,b2⟩:=ae;(try dsimp only at hW);go_simp;try with_reducible rfl)
      try simp only [aP]
      refine rdy 13 ⟨some 26,.call ⟨ .value (.func 26),#[],#[]⟩,24,_,_,some (10,false)⟩ rfl (fun K hK=>?_)
      go_simp
      refine (refP_any V).mono ?_
      rintro e V1 ⟨gp,br,rfl,aV,ac⟩
      obtain ⟨Ap,aF⟩:∃ A:Option Addr,A=some ⟨gp,0,none⟩:=⟨_,rfl⟩
      obtain ⟨cp,aK⟩:∃ c:Nat,c=8:=⟨_,rfl⟩
      obtain ⟨rp,aC⟩:∃ r:List Nat,r=lP:=⟨_,rfl⟩
      have au:Hid (Rd .u32 V1 V1.heap.size Ap cp rp):=lH (by rw [aF,aK,aC];exact Eight.rd aV rfl)
      have bl:=lH aC
      have aG:Hid ((some ⟨gp,0,none⟩:Option Addr)=Ap∧(8:Nat)=cp∧(8:Nat)=rp.length):=lH ⟨aF.symm,aK.symm,by rw [aC];rfl⟩
      clear br aV aF aK aC
      rw [show Value.slice (some ⟨gp,0,none⟩) 8 8=Value.slice Ap rp.length cp by rw [←aG.out.1,←aG.out.2.1,←aG.out.2.2]]
      have ak:Hid (Below w1.heap.size w1 V1):=lH (ai.out.trans (ac.mono ai.out.size))
      clear ac
      go_simp
      refine hK.out _ _ (ak.out) (fun _=>?_)
      clear hK K ab
      try simp only [aP]
      have ab:(fun W=>Below w1.heap.size w1 W) V1:=ak.out
      refine rdy 14 ⟨some 27,.call ⟨ .value (.func 45),#[.tmp 25,.tmp 26],#[24,24]⟩,3,_,_,some (10,false)⟩ rfl (fun K hK=>?_)
      go_simp
      refine (cmp'_any V1 _ _ Ax Ap cx cp lx rp ((HX.out.under ak).more ak.out.size) au vx (by rw [bl.out];exact cB.out)).mono ?_
      rintro e wq ⟨rfl,qq,rfl⟩
      obtain ⟨V2,hN⟩:∃ W,W=V1.drewN qq:=⟨_,rfl⟩
      rw [←hN]
      have ao:Hid (Below w1.heap.size w1 V2):=lH (by rw [hN];exact bdN ak qq)
      have aB:Hid (Rd .u32 V2 V2.heap.size Ap cp rp):=lH (by rw [hN];exact au.out)
      clear hN
      go_simp
      refine hK.out _ _ (ao.out) (fun _=>?_)
      clear hK K ab
      try simp only [aP]
      have ab:(fun W=>Below w1.heap.size w1 W) V2:=ao.out
      refine tk 15 ⟨some 28,.binOp .geq 3 (.tmp 27) (.const (.int .i64 0)) 3,4,_,_,some (10,false)⟩ ?_ rfl ?_ ab ?_
      rotate_left 1
      ·(intro W hW;have hq:=bX.out;(try dsimp only at hW);go_simp;try with_reducible rfl)
      try simp only [aP]
      refine tz 16 ⟨some 29,.pick (.tmp 23) (.const (.bool true)) (.tmp 28),4,_,_,none⟩ rfl ab ?_
      try simp only [aP]
      refine tz 17 ⟨some 30,.move (.tmp 29),4,_,_,none⟩ rfl ab ?_
      try simp only [aP]
      refine tz 18 ⟨some 31,.fieldAddr 26 (.tmp 1) 1,0,_,_,some (17,false)⟩ rfl ab ?_
      try simp only [aP]
      refine tk 19 ⟨some 32,.load 24 (.tmp 31),24,_,_,some (17,false)⟩ ?_ rfl ?_ ab ?_
      rotate_left 1
      ·(intro W hW;have ae:=(ax.out.under hW av).cells;obtain ⟨b0,b1,b2⟩:=ae;(try dsimp only at hW);go_simp;try with_reducible rfl)
      try simp only [aP]
      refine rdy 20 ⟨some 33,.call ⟨ .value (.func 26),#[],#[]⟩,24,_,_,some (17,false)⟩ rfl (fun K hK=>?_)
      go_simp
      refine (refP_any V2).mono ?_
      rintro e V3 ⟨gq,cN,rfl,bJ,ac⟩
      obtain ⟨Aq,a9⟩:∃ A:Option Addr,A=some ⟨gq,0,none⟩:=⟨_,rfl⟩
      obtain ⟨cq,a8⟩:∃ c:Nat,c=8:=⟨_,rfl⟩
      obtain ⟨rq,aQ⟩:∃ r:List Nat,r=lP:=⟨_,rfl⟩
      have ay:Hid (Rd .u32 V3 V3.heap.size Aq cq rq):=lH (by rw [a9,a8,aQ];exact Eight.rd bJ rfl)
      have cM:=lH aQ
      have bf:Hid ((some ⟨gq,0,none⟩:Option Addr)=Aq∧(8:Nat)=cq∧(8:Nat)=rq.length):=lH ⟨a9.symm,a8.symm,by rw [aQ];rfl⟩
      clear cN bJ a9 a8 aQ
      rw [show Value.slice (some ⟨gq,0,none⟩) 8 8=Value.slice Aq rq.length cq by rw [←bf.out.1,←bf.out.2.1,←bf.out.2.2]]
      have aw:Hid (Below w1.heap.size w1 V3):=lH (ao.out.trans (ac.mono ao.out.size))
      have aJ:=lH ((aB.out.under ac).more ac.size)
      clear ac
      go_simp
      refine hK.out _ _ (aw.out) (fun _=>?_)
      clear hK K ab
      try simp only [aP]
      have ab:(fun W=>Below w1.heap.size w1 W) V3:=aw.out
      refine rdy 21 ⟨some 34,.call ⟨ .value (.func 45),#[.tmp 32,.tmp 33],#[24,24]⟩,3,_,_,some (17,false)⟩ rfl (fun K hK=>?_)
      go_simp
      refine (cmp'_any V3 _ _ Ay Aq cy cq ly rq ((HY.out.under aw).more aw.out.size) ay vy (by rw [cM.out];exact du.out)).mono ?_
      rintro e wq ⟨rfl,qq,rfl⟩
      obtain ⟨V4,hN⟩:∃ W,W=V3.drewN qq:=⟨_,rfl⟩
      rw [←hN]
      have am:Hid (Below w1.heap.size w1 V4):=lH (by rw [hN];exact bdN aw qq)
      have bu:Hid (Rd .u32 V4 V4.heap.size Ap cp rp):=lH (by rw [hN];exact aJ.out)
      have bC:Hid (Rd .u32 V4 V4.heap.size Aq cq rq):=lH (by rw [hN];exact ay.out)
      clear hN
      go_simp
      refine hK.out _ _ (am.out) (fun _=>?_)
      clear hK K ab
      try simp only [aP]
      have ab:(fun W=>Below w1.heap.size w1 W) V4:=am.out
      refine tk 22 ⟨some 35,.binOp .geq 3 (.tmp 34) (.const (.int .i64 0)) 3,4,_,_,some (17,false)⟩ ?_ rfl ?_ ab ?_
      rotate_left 1
      ·(intro W hW;have hq:=cC.out;(try dsimp only at hW);go_simp;try with_reducible rfl)
      try simp only [aP]
      refine tz 23 ⟨some 36,.pick (.tmp 30) (.const (.bool true)) (.tmp 35),4,_,_,none⟩ rfl ab ?_
      try simp only [aP]
      refine dn ?_
      have dE:=lH (HB.out.trans (am.out.mono HB.out.size))
      have di:=lH ((HX.out.under am).more am.out.size)
      have cW:=lH ((HY.out.under am).more am.out.size)
      have bF:=lH (ax.out.under am av)
      have bO:w.heap.size<V4.heap.size:=Nat.lt_of_lt_of_le av am.out.size
      clear HX HY ax av HW
      have HX:=di
      have HY:=cW
      have ax:=bF
      have av:=bO
      clear di cW bF bO
      clear am
      go_wp2_with fail
      refine wp_region_noPanic ?_
      refine wp_region_held_drew (S:=fun W=>Below V4.heap.size V4 W) (by kernel_rfl) ((Below.refl _ V4).drew) (fun ab=>?_)
      obtain ⟨U,hV⟩:∃ W,W=V4.drew:=⟨_,rfl⟩
      rw [←hV]
      have bk:Hid (Below V4.heap.size V4 U):=lH (by rw [hV];exact (Below.refl _ V4).drew)
      replace ab:(fun W=>Below V4.heap.size V4 W) U:=bk.out
      clear hV
      refine tz 0 ⟨some 37,.fieldAddr 26 (.tmp 1) 1,0,_,_,none⟩ rfl ab ?_
      try simp only [aP]
      refine tk 1 ⟨some 38,.load 24 (.tmp 37),24,_,_,none⟩ ?_ rfl ?_ ab ?_
      rotate_left 1
      ·(intro W hW;have ae:=(ax.out.under hW av).cells;obtain ⟨b0,b1,b2⟩:=ae;(try dsimp only at hW);go_simp;try with_reducible rfl)
      try simp only [aP]
      refine tz 2 ⟨some 39,.fieldAddr 26 (.tmp 1) 1,0,_,_,none⟩ rfl ab ?_
      try simp only [aP]
      refine tk 3 ⟨some 40,.load 24 (.tmp 39),24,_,_,none⟩ ?_ rfl ?_ ab ?_
      rotate_left 1
      ·(intro W hW;have ae:=(ax.out.under hW av).cells;obtain ⟨b0,b1,b2⟩:=ae;(try dsimp only at hW);go_simp;try with_reducible rfl)
      try simp only [aP]
      refine tz 5 ⟨some 42,.fieldAddr 26 (.tmp 1) 0,0,_,_,none⟩ rfl ab ?_
      try simp only [aP]
      refine tk 6 ⟨some 43,.load 24 (.tmp 42),24,_,_,none⟩ ?_ rfl ?_ ab ?_
      rotate_left 1
      ·(intro W hW;have ae:=(ax.out.under hW av).cells;obtain ⟨b0,b1,b2⟩:=ae;(try dsimp only at hW);go_simp;try with_reducible rfl)
      try simp only [aP]
      refine tz 7 ⟨some 44,.fieldAddr 26 (.tmp 1) 0,0,_,_,none⟩ rfl ab ?_
      try simp only [aP]
      refine tk 8 ⟨some 45,.load 24 (.tmp 44),24,_,_,none⟩ ?_ rfl ?_ ab ?_
      rotate_left 1
      ·(intro W hW;have ae:=(ax.out.under hW av).cells;obtain ⟨b0,b1,b2⟩:=ae;(try dsimp only at hW);go_simp;try with_reducible rfl)
      try simp only [aP]
      refine tz 9 ⟨some 46,.fieldAddr 26 (.tmp 1) 0,0,_,_,none⟩ rfl ab ?_
      try simp only [aP]
      refine tk 10 ⟨some 47,.load 24 (.tmp 46),24,_,_,none⟩ ?_ rfl ?_ ab ?_
      rotate_left 1
      ·(intro W hW;have ae:=(ax.out.under hW av).cells;obtain ⟨b0,b1,b2⟩:=ae;(try dsimp only at hW);go_simp;try with_reducible rfl)
      try simp only [aP]
      refine tz 13 ⟨some 50,.fieldAddr 26 (.tmp 1) 0,0,_,_,none⟩ rfl ab ?_
      try simp only [aP]
      refine tk 14 ⟨some 51,.load 24 (.tmp 50),24,_,_,none⟩ ?_ rfl ?_ ab ?_
      rotate_left 1
      ·(intro W hW;have ae:=(ax.out.under hW av).cells;obtain ⟨b0,b1,b2⟩:=ae;(try dsimp only at hW);go_simp;try with_reducible rfl)
      try simp only [aP]
      refine rdy 4 ⟨some 41,.call ⟨ .value (.func 46),#[.tmp 38,.tmp 40],#[24,24]⟩,24,_,_,none⟩ rfl (fun K hK=>?_)
      go_simp
      refine (mulR_any U Ay Ay cy cy ly ly ((HY.out.under bk).more bk.out.size) ((HY.out.under bk).more bk.out.size) cE cE bt bt dC dC).mono ?_
      rintro e U1 ⟨Aa,ca,ra,rfl,dw,dA,ac⟩
      have cS:=lH dw
      have bD:=lH dA
      have az:Hid (Below V4.heap.size V4 U1):=lH (bk.out.trans (ac.mono bk.out.size))
      clear ac dw dA
      go_simp
      refine hK.out _ _ (az.out) (fun _=>?_)
      clear hK K ab
      try simp only [aP]
      have ab:(fun W=>Below V4.heap.size V4 W) U1:=az.out
      refine rdy 11 ⟨some 48,.call ⟨ .value (.func 46),#[.tmp 45,.tmp 47],#[24,24]⟩,24,_,_,none⟩ rfl (fun K hK=>?_)
      go_simp
      refine (mulR_any U1 Ax Ax cx cx lx lx ((HX.out.under az).more az.out.size) ((HX.out.under az).more az.out.size) bR bR aL aL bZ bZ).mono ?_
      rintro e U2 ⟨Ab,cb,rb,rfl,cU,dD,ac⟩
      have cA:=lH cU
      have aU:=lH dD
      have aE:Hid (Below V4.heap.size V4 U2):=lH (az.out.trans (ac.mono az.out.size))
      have bQ:=lH ((bD.out.under ac).more ac.size)
      clear ac cU dD
      go_simp
      refine hK.out _ _ (aE.out) (fun _=>?_)
      clear hK K ab
      try simp only [aP]
      have ab:(fun W=>Below V4.heap.size V4 W) U2:=aE.out
      refine rdy 12 ⟨some 49,.call ⟨ .value (.func 46),#[.tmp 43,.tmp 48],#[24,24]⟩,24,_,_,none⟩ rfl (fun K hK=>?_)
      go_simp
      refine (mulR_any U2 Ax Ab cx cb lx rb ((HX.out.under aE).more aE.out.size) aU bR cA.out.1 aL (by have:=num_len8 cA (Nat.mod_lt _ cP_pos);omega) bZ cA.out.2.1).mono ?_
      rintro e U3 ⟨Ac,cc,rc,rfl,dv,c_,ac⟩
      have bY:=lH dv
      have bG:=lH c_
      have aD:Hid (Below V4.heap.size V4 U3):=lH (aE.out.trans (ac.mono aE.out.size))
      have bv:=lH ((bQ.out.under ac).more ac.size)
      have bH:=lH ((aU.out.under ac).more ac.size)
      clear ac dv c_
      go_simp
      refine hK.out _ _ (aD.out) (fun _=>?_)
      clear hK K ab
      try simp only [aP]
      have ab:(fun W=>Below V4.heap.size V4 W) U3:=aD.out
      refine rdy 15 ⟨some 52,.call ⟨ .value (.func 49),#[.tmp 51],#[24]⟩,24,_,_,none⟩ rfl (fun K hK=>?_)
      go_simp
      refine (threeR_any U3 Ax cx lx ((HX.out.under aD).more aD.out.size) bR aL bZ).mono ?_
      rintro e U4 ⟨Ad,cd,rd,rfl,dt,cV,ac⟩
      have bV:=lH dt
      have aY:=lH cV
      have aO:Hid (Below V4.heap.size V4 U4):=lH (aD.out.trans (ac.mono aD.out.size))
      have bx:=lH ((bv.out.under ac).more ac.size)
      have bK:=lH ((bH.out.under ac).more ac.size)
      have aT:=lH ((bG.out.under ac).more ac.size)
      clear ac dt cV
      go_simp
      refine hK.out _ _ (aO.out) (fun _=>?_)
      clear hK K ab
      try simp only [aP]
      have ab:(fun W=>Below V4.heap.size V4 W) U4:=aO.out
      refine rdy 16 ⟨some 53,.call ⟨ .value (.func 48),#[.tmp 49,.tmp 52],#[24,24]⟩,24,_,_,none⟩ rfl (fun K hK=>?_)
      go_simp
      refine (subR_any U4 Ac Ad cc cd rc rd aT aY bY.out.1 bV.out.1 (by have:=num_len8 bY (Nat.mod_lt _ cP_pos);omega) (by have:=num_len8 bV (Nat.mod_lt _ cP_pos);omega) bY.out.2.1 bV.out.2.1).mono ?_
      rintro e U5 ⟨Ae,ce,re,rfl,cT,dB,ac⟩
      have cl:=lH cT
      have bn:=lH dB
      have aN:Hid (Below V4.heap.size V4 U5):=lH (aO.out.trans (ac.mono aO.out.size))
      have bM:=lH ((bx.out.under ac).more ac.size)
      have bT:=lH ((bK.out.under ac).more ac.size)
      have bB:=lH ((aT.out.under ac).more ac.size)
      have bm:=lH ((aY.out.under ac).more ac.size)
      clear ac cT dB
      go_simp
      refine hK.out _ _ (aN.out) (fun _=>?_)
      clear hK K ab
      try simp only [aP]
      have ab:(fun W=>Below V4.heap.size V4 W) U5:=aN.out
      refine rdy 17 ⟨some 54,.call ⟨ .value (.func 50),#[],#[]⟩,24,_,_,none⟩ rfl (fun K hK=>?_)
      go_simp
      refine (refB_any U5).mono ?_
      rintro e U6 ⟨gf,dH,rfl,dr,ac⟩
      obtain ⟨Af,cK⟩:∃ A:Option Addr,A=some ⟨gf,0,none⟩:=⟨_,rfl⟩
      obtain ⟨cf,cF⟩:∃ c:Nat,c=8:=⟨_,rfl⟩
      obtain ⟨rf,b_⟩:∃ r:List Nat,r=lB:=⟨_,rfl⟩
      have a6:Hid (Rd .u32 U6 U6.heap.size Af cf rf):=lH (by rw [cK,cF,b_];exact Eight.rd dr rfl)
      have bW:=lH b_
      have cD:Hid ((some ⟨gf,0,none⟩:Option Addr)=Af∧(8:Nat)=cf∧(8:Nat)=rf.length):=lH ⟨cK.symm,cF.symm,by rw [b_];rfl⟩
      clear dH dr cK cF b_
      rw [show Value.slice (some ⟨gf,0,none⟩) 8 8=Value.slice Af rf.length cf by rw [←cD.out.1,←cD.out.2.1,←cD.out.2.2]]
      have aM:Hid (Below V4.heap.size V4 U6):=lH (aN.out.trans (ac.mono aN.out.size))
      have bI:=lH ((bM.out.under ac).more ac.size)
      have bw:=lH ((bT.out.under ac).more ac.size)
      have bL:=lH ((bB.out.under ac).more ac.size)
      have bs:=lH ((bm.out.under ac).more ac.size)
      have aR:=lH ((bn.out.under ac).more ac.size)
      clear ac
      go_simp
      refine hK.out _ _ (aM.out) (fun _=>?_)
      clear hK K ab
      try simp only [aP]
      have ab:(fun W=>Below V4.heap.size V4 W) U6:=aM.out
      refine rdy 18 ⟨some 55,.call ⟨ .value (.func 47),#[.tmp 53,.tmp 54],#[24,24]⟩,24,_,_,none⟩ rfl (fun K hK=>?_)
      go_simp
      refine (addR_any U6 Ae Af ce cf re rf aR a6 cl.out.1 (by rw [bW.out];exact lB_ok.1) (by have:=num_len8 cl (Nat.mod_lt _ cP_pos);omega) (by rw [bW.out,lB_ok.2.2.2];omega) cl.out.2.1 (by rw [bW.out];exact lB_ok.2.1)).mono ?_
      rintro e U7 ⟨Ag,cg,rg,rfl,ds,dc,ac⟩
      have cO:=lH ds
      have aW:=lH dc
      have bd:Hid (Below V4.heap.size V4 U7):=lH (aM.out.trans (ac.mono aM.out.size))
      have aX:=lH ((bI.out.under ac).more ac.size)
      have bE:=lH ((bw.out.under ac).more ac.size)
      have bU:=lH ((bL.out.under ac).more ac.size)
      have bP:=lH ((bs.out.under ac).more ac.size)
      have bS:=lH ((aR.out.under ac).more ac.size)
      have bN:=lH ((a6.out.under ac).more ac.size)
      clear ac ds dc
      go_simp
      refine hK.out _ _ (bd.out) (fun _=>?_)
      clear hK K ab
      try simp only [aP]
      have ab:(fun W=>Below V4.heap.size V4 W) U7:=bd.out
      refine rdy 19 ⟨some 56,.call ⟨ .value (.func 45),#[.tmp 41,.tmp 55],#[24,24]⟩,3,_,_,none⟩ rfl (fun K hK=>?_)
      go_simp
      have dl:Hid (val ra=val ly*val ly % cP∧val rg=rhsR (val lx)):=lH ⟨cS.out.2.2,by
       have h1:=cO.out.2.2
       rw [cl.out.2.2,bY.out.2.2,cA.out.2.2,bV.out.2.2,bW.out] at h1
       exact h1⟩
      obtain ⟨vz,cH⟩:∃ v,v=cmpL ra rg:=⟨_,rfl⟩
      have dG:Hid ((vz == 0)=decide (val ly*val ly % cP=rhsR (val lx))):=lH (by
       rw [cH,cmpL_val cS.out.1 cO.out.1 cS.out.2.1 cO.out.2.1,dl.out.1,dl.out.2]
       by_cases e:val ly*val ly % cP=rhsR (val lx)
       ·rw [e,if_neg (by omega),if_neg (by omega)];simp
       ·rw [decide_eq_false e]
        by_cases e2:val ly*val ly % cP<rhsR (val lx)
        ·rw [if_pos e2];rfl
        ·rw [if_neg e2,if_pos (by omega)];rfl)
      have dF:=lH cH.symm
      clear cH
      refine (cmp'_any U7 _ _ Aa Ag ca cg ra rg aX aW vz dF).mono ?_
      rintro e wq ⟨rfl,qq,rfl⟩
      obtain ⟨U8,hN⟩:∃ W,W=U7.drewN qq:=⟨_,rfl⟩
      rw [←hN]
      have a_:Hid (Below V4.heap.size V4 U8):=lH (by rw [hN];exact bdN bd qq)
      have HRaU8:Hid (Rd .u32 U8 U8.heap.size Aa ca ra):=lH (by rw [hN];exact aX.out)
      have HRbU8:Hid (Rd .u32 U8 U8.heap.size Ab cb rb):=lH (by rw [hN];exact bE.out)
      have HRcU8:Hid (Rd .u32 U8 U8.heap.size Ac cc rc):=lH (by rw [hN];exact bU.out)
      have HRdU8:Hid (Rd .u32 U8 U8.heap.size Ad cd rd):=lH (by rw [hN];exact bP.out)
      have HReU8:Hid (Rd .u32 U8 U8.heap.size Ae ce re):=lH (by rw [hN];exact bS.out)
      have HRfU8:Hid (Rd .u32 U8 U8.heap.size Af cf rf):=lH (by rw [hN];exact bN.out)
      have HRgU8:Hid (Rd .u32 U8 U8.heap.size Ag cg rg):=lH (by rw [hN];exact aW.out)
      clear hN
      go_simp
      refine hK.out _ _ (a_.out) (fun _=>?_)
      clear hK K ab
      try simp only [aP]
      have ab:(fun W=>Below V4.heap.size V4 W) U8:=a_.out
      refine tz 20 ⟨some 57,.binOp .eql 3 (.tmp 56) (.const (.int .i64 0)) 3,4,_,_,none⟩ rfl ab ?_
      try simp only [aP]
      refine tz 21 ⟨some 2,.assign (.tmp 57),4,_,_,none⟩ rfl ab ?_
      try simp only [aP]
      refine dn ?_
      go_wp2_with fail
      go_ret
      refine ⟨?_,dE.out.trans (a_.out.mono dE.out.size)⟩
      unfold ptOk
      rw [cG.out,cJ.out,←dG.out]
      rfl
end Go.Proofs.YtflfdglpljodbaaDoor
