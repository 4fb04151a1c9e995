/-
  The document: the slope of two points.
-/
import Derived.Test.YtflfdglpljodbaaDoorTCvF
import Derived.Deep.RegionLaw
import Derived.Deep.RegionHeld3
import Derived.Deep.DrawnRows
namespace Go.Proofs.YtflfdglpljodbaaDoor
set_option maxRecDepth 100000
set_option maxHeartbeats 8000000
open Go.RowKit
set_option linter.unusedVariables false
set_option linter.unusedSimpArgs false
theorem cmp_ne {l m:List Nat} {f g:Luc.F} (h:NumIs l f.val) (h':NumIs m g.val) (hn:f≠g):∃ z:Int,cmpL l m=z∧z≠0:=by
 refine ⟨_,rfl,fun e=>hn (Fin.ext ?_)⟩
 rw [cmpL_val h.1 h'.1 h.2.1 h'.2.1,h.2.2,h'.2.2] at e
 split at e
 ·cases e
 ·split at e
  ·cases e
  ·omega
theorem sameR_no (w:World) {x1 y1 x2 y2:Luc.F} {A1 A2 B1 B2:Option Addr} {c1 c2 d1 d2:Nat} {l1 l2 m1 m2:List Nat} (hx1:NR w A1 c1 l1 x1) (hy1:NR w A2 c2 l2 y1) (hx2:NR w B1 d1 m1 x2) (hy2:NR w B2 d2 m2 y2) (hne:¬ (x1=x2∧y1=y2)) :
  Calls Tryd.prog 16 #[.agg #[.slice A1 l1.length c1,.slice A2 l2.length c2,.bool false],.agg #[.slice B1 m1.length d1,.slice B2 m2.length d2,.bool false]] w fun e w'=>e = .returned (.bool false)∧Below w.heap.size w w':=by
 obtain ⟨w1,hw1⟩:∃ W,W=w.alloc (.cells #[.slice A1 l1.length c1,.slice A2 l2.length c2,.bool false] 26):=⟨_,rfl⟩
 have hz1:w1.heap.size=w.heap.size+1:=by rw [hw1];simp
 have hb1:Below w.heap.size w w1:=by rw [hw1];exact (Below.refl _ _).alloc (Nat.le_refl _) _
 obtain ⟨W0,hw2⟩:∃ W,W=w1.alloc (.cells #[.slice B1 m1.length d1,.slice B2 m2.length d2,.bool false] 26):=⟨_,rfl⟩
 have hb2:Below w.heap.size w W0:=by rw [hw2];exact hb1.alloc hb1.size _
 have PB0:Hid (Holds W0 w.heap.size 26 #[.slice A1 l1.length c1,.slice A2 l2.length c2,.bool false]):=lH (by rw [hw2,hw1];exact (Holds.fresh w _ _).alloc _)
 have QB0:Hid (Holds W0 (w.heap.size+1) 26 #[.slice B1 m1.length d1,.slice B2 m2.length d2,.bool false]):=lH (by rw [hw2,←hz1];exact Holds.fresh w1 _ _)
 have HB0:=lH hb2
 have HW:=lH (hw1 ▸ hw2:W0=(w.alloc (.cells #[.slice A1 l1.length c1,.slice A2 l2.length c2,.bool false] 26)).alloc (.cells #[.slice B1 m1.length d1,.slice B2 m2.length d2,.bool false] 26))
 have X1:=lH (hx1.rd.under hb2)
 have X2:=lH (hx2.rd.under hb2)
 have Y1:=lH (hy1.rd.under hb2)
 have Y2:=lH (hy2.rd.under hb2)
 have K1:=lH hx1.num
 have K2:=lH hx2.num
 have L1:=lH hy1.num
 have L2:=lH hy2.num
 clear hx1 hy1 hx2 hy2 hw1 hz1 hb1 hw2 hb2
 by_cases hx:x1=x2
 ·have hy:y1≠y2:=fun e=>hne ⟨hx,e⟩
  have hl:l1=m1:=num_one K1.out (hx ▸ K2.out)
  subst hl
  obtain ⟨z,hz,hz0⟩:=cmp_ne L1.out L2.out hy
  have HZ:=lH hz
  have tz:(z == 0)=false:=beq_eq_false_iff_ne.2 hz0
  have tz2:decide (z=0)=false:=decide_eq_false hz0
  clear hz hne hx hy
  go_enter Tryd.func16,Tryd.ntmps16
  go_wp2_with fail
  rw [←HW.out]
  have p0:=PB0.out.cell 0
  have p1:=PB0.out.cell 1
  have p2:=PB0.out.cell 2
  have q0:=QB0.out.cell 0
  have q1:=QB0.out.cell 1
  have q2:=QB0.out.cell 2
  go_wp2_with fail
  refine (cmp'_any W0 _ _ A1 B1 c1 d1 l1 l1 X1.out X2.out 0 (cmp_self K1.out)).mono ?_
  rintro e W1 ⟨rfl,q,hq⟩
  have PB1:Hid (Holds W1 w.heap.size 26 #[.slice A1 l1.length c1,.slice A2 l2.length c2,.bool false]):=lH (by rw [hq];exact PB0.out)
  have QB1:Hid (Holds W1 (w.heap.size+1) 26 #[.slice B1 l1.length d1,.slice B2 m2.length d2,.bool false]):=lH (by rw [hq];exact QB0.out)
  have Z1:Hid (Rd .u32 W1 w.heap.size A2 c2 l2):=lH (by rw [hq];exact Y1.out.drewN q)
  have Z2:Hid (Rd .u32 W1 w.heap.size B2 d2 m2):=lH (by rw [hq];exact Y2.out.drewN q)
  have HB1:Hid (Below w.heap.size w W1):=lH (by rw [hq];exact bdN HB0.out q)
  clear hq p0 p1 p2 q0 q1 q2
  have p0:=PB1.out.cell 0
  have p1:=PB1.out.cell 1
  have p2:=PB1.out.cell 2
  have q0:=QB1.out.cell 0
  have q1:=QB1.out.cell 1
  have q2:=QB1.out.cell 2
  go_wp2_with fail
  refine (cmp'_any W1 _ _ A2 B2 c2 d2 l2 m2 Z1.out Z2.out z HZ.out).mono ?_
  rintro e W2 ⟨rfl,q,hq⟩
  have HB2:Hid (Below w.heap.size w W2):=lH (by rw [hq];exact bdN HB1.out q)
  clear hq p0 p1 p2 q0 q1 q2
  go_wp2_with fail
  go_ret
  exact ⟨rfl,HB2.out⟩
 ·obtain ⟨z,hz,hz0⟩:=cmp_ne K1.out K2.out hx
  have HZ:=lH hz
  have tz:(z == 0)=false:=beq_eq_false_iff_ne.2 hz0
  have tz2:decide (z=0)=false:=decide_eq_false hz0
  clear hz hne hx
  go_enter Tryd.func16,Tryd.ntmps16
  go_wp2_with fail
  rw [←HW.out]
  have p0:=PB0.out.cell 0
  have p1:=PB0.out.cell 1
  have p2:=PB0.out.cell 2
  have q0:=QB0.out.cell 0
  have q1:=QB0.out.cell 1
  have q2:=QB0.out.cell 2
  go_wp2_with fail
  refine (cmp'_any W0 _ _ A1 B1 c1 d1 l1 m1 X1.out X2.out z HZ.out).mono ?_
  rintro e W1 ⟨rfl,q,hq⟩
  have HB1:Hid (Below w.heap.size w W1):=lH (by rw [hq];exact bdN HB0.out q)
  clear hq p0 p1 p2 q0 q1 q2
  go_wp2_with fail
  go_ret
  exact ⟨rfl,HB1.out⟩
theorem sl_far {x1 y1 x2 y2:Luc.F} (h:x1≠x2):(y1 - y2)*Luc.finv (x1 - x2)=Luc.sl x1 y1 x2 y2:=by
 unfold Luc.sl
 rw [if_neg h]
 have h1:x1 - x2≠0:=fun e=>h (by grind)
 have h2:x2 - x1≠0:=fun e=>h (by grind)
 have i1:=Luc.mul_finv h1
 have i2:=Luc.mul_finv h2
 refine Luc.cancel h1 ?_
 grind
theorem sl_near (x1 y1:Luc.F):(x1*x1+(x1*x1+x1*x1) - 3)*Luc.finv (y1+y1)=Luc.sl x1 y1 x1 y1:=by
 unfold Luc.sl
 rw [if_pos rfl]
 have e1:x1*x1+(x1*x1+x1*x1) - 3=3*x1*x1 - 3:=by grind
 have e2:y1+y1=2*y1:=by grind
 rw [e1,e2]
theorem slopeR_any (w:World) {x1 y1 x2 y2:Luc.F} {A1 A2 B1 B2:Option Addr} {c1 c2 d1 d2:Nat} {l1 l2 m1 m2:List Nat} (hx1:NR w A1 c1 l1 x1) (hy1:NR w A2 c2 l2 y1) (hx2:NR w B1 d1 m1 x2) (hy2:NR w B2 d2 m2 y2) (hn:¬ (x1=x2∧y1+y2=0)) (h12:x1=x2→y1=y2) :
  Calls Tryd.prog 51 #[.agg #[.slice A1 l1.length c1,.slice A2 l2.length c2,.bool false],.agg #[.slice B1 m1.length d1,.slice B2 m2.length d2,.bool false]] w (GotF w (Luc.sl x1 y1 x2 y2)):=by
 obtain ⟨w1,hw1⟩:∃ W,W=w.alloc (.cells #[.slice A1 l1.length c1,.slice A2 l2.length c2,.bool false] 26):=⟨_,rfl⟩
 have hz1:w1.heap.size=w.heap.size+1:=by rw [hw1];simp
 have hb1:Below w.heap.size w w1:=by rw [hw1];exact (Below.refl _ _).alloc (Nat.le_refl _) _
 obtain ⟨W0,hw2⟩:∃ W,W=w1.alloc (.cells #[.slice B1 m1.length d1,.slice B2 m2.length d2,.bool false] 26):=⟨_,rfl⟩
 have hb2:Below w.heap.size w W0:=by rw [hw2];exact hb1.alloc hb1.size _
 have PB0:Hid (Holds W0 w.heap.size 26 #[.slice A1 l1.length c1,.slice A2 l2.length c2,.bool false]):=lH (by rw [hw2,hw1];exact (Holds.fresh w _ _).alloc _)
 have QB0:Hid (Holds W0 (w.heap.size+1) 26 #[.slice B1 m1.length d1,.slice B2 m2.length d2,.bool false]):=lH (by rw [hw2,←hz1];exact Holds.fresh w1 _ _)
 have HB0:=lH hb2
 have HW:=lH (hw1 ▸ hw2:W0=(w.alloc (.cells #[.slice A1 l1.length c1,.slice A2 l2.length c2,.bool false] 26)).alloc (.cells #[.slice B1 m1.length d1,.slice B2 m2.length d2,.bool false] 26))
 have Nx0:=lH (hx1.under hb2)
 have Ny0:=lH (hy1.under hb2)
 have Nu0:=lH (hx2.under hb2)
 have Nv0:=lH (hy2.under hb2)
 clear hx1 hy1 hx2 hy2 hw1 hz1 hb1 hw2 hb2
 by_cases hx:x1=x2
 ·have hy:=h12 hx
  have HE1:=lH hx.symm
  have HE2:=lH hy.symm
  have HDN:Hid (y1+y1≠0):=lH fun e=>hn ⟨hx,by rw [←hy];exact e⟩
  have HEQ:Hid ((x1*x1+(x1*x1+x1*x1) - 3)*Luc.finv (y1+y1)=Luc.sl x1 y1 x2 y2):=lH (by rw [←hx,←hy];exact sl_near x1 y1)
  clear hn h12 hx hy
  go_enter Tryd.func51,Tryd.ntmps51
  go_wp2_with fail
  rw [←HW.out]
  clear HW
  go_wp2_with fail
  refine wp_region_noPanic ?_
  refine wp_region_held_drew (S:=fun W=>Holds W w.heap.size 26 #[.slice A1 l1.length c1,.slice A2 l2.length c2,.bool false]∧Holds W (w.heap.size+1) 26 #[.slice B1 m1.length d1,.slice B2 m2.length d2,.bool false]∧True) (by kernel_rfl) (⟨PB0.out,QB0.out,trivial⟩) (fun hHeld=>?_)
  obtain ⟨W1,hV⟩:∃ W,W=W0.drew:=⟨_,rfl⟩
  rw [←hV]
  have hb:Below W0.heap.size W0 W1:=by rw [hV];exact (Below.refl _ W0).drew
  have HB1:=lH (HB0.out.trans (hb.mono HB0.out.size))
  have PB1:=lH (PB0.out.under hb (Holds.lt PB0.out))
  have QB1:=lH (QB0.out.under hb (Holds.lt QB0.out))
  have Nx1:=lH (Nx0.out.under hb)
  have Ny1:=lH (Ny0.out.under hb)
  have Nu1:=lH (Nu0.out.under hb)
  have Nv1:=lH (Nv0.out.under hb)
  clear hb HB0 PB0 QB0 Nx0 Ny0 Nu0 Nv0
  have HS1:Hid ((fun W=>Holds W w.heap.size 26 #[.slice A1 l1.length c1,.slice A2 l2.length c2,.bool false]∧Holds W (w.heap.size+1) 26 #[.slice B1 m1.length d1,.slice B2 m2.length d2,.bool false]∧True) W1):=lH ⟨PB1.out,QB1.out,trivial⟩
  replace hHeld:(fun W=>Holds W w.heap.size 26 #[.slice A1 l1.length c1,.slice A2 l2.length c2,.bool false]∧Holds W (w.heap.size+1) 26 #[.slice B1 m1.length d1,.slice B2 m2.length d2,.bool false]∧True) W1:=HS1.out
  clear hV
  refine tk 0 ⟨some 9,.fieldAddr 26 (.tmp 2) 1,0,_,_,none⟩ ?_ rfl ?_ hHeld ?_
  rotate_left 1
  ·(intro W hW;(try dsimp only at hW);go_simp;try with_reducible rfl)
  try simp only [aP]
  refine tk 1 ⟨some 10,.load 24 (.tmp 9),24,_,_,none⟩ ?_ rfl ?_ hHeld ?_
  rotate_left 1
  ·(intro W hW;have hcc:=hW.1.cell 1;(try dsimp only at hW);go_simp;try with_reducible rfl)
  try simp only [aP]
  refine tk 2 ⟨some 11,.fieldAddr 26 (.tmp 3) 1,0,_,_,none⟩ ?_ rfl ?_ hHeld ?_
  rotate_left 1
  ·(intro W hW;(try dsimp only at hW);go_simp;try with_reducible rfl)
  try simp only [aP]
  refine tk 3 ⟨some 12,.load 24 (.tmp 11),24,_,_,none⟩ ?_ rfl ?_ hHeld ?_
  rotate_left 1
  ·(intro W hW;have hcc:=hW.2.1.cell 1;(try dsimp only at hW);go_simp;try with_reducible rfl)
  try simp only [aP]
  refine tk 5 ⟨some 14,.fieldAddr 26 (.tmp 2) 0,0,_,_,none⟩ ?_ rfl ?_ hHeld ?_
  rotate_left 1
  ·(intro W hW;(try dsimp only at hW);go_simp;try with_reducible rfl)
  try simp only [aP]
  refine tk 6 ⟨some 15,.load 24 (.tmp 14),24,_,_,none⟩ ?_ rfl ?_ hHeld ?_
  rotate_left 1
  ·(intro W hW;have hcc:=hW.1.cell 0;(try dsimp only at hW);go_simp;try with_reducible rfl)
  try simp only [aP]
  refine tk 7 ⟨some 16,.fieldAddr 26 (.tmp 3) 0,0,_,_,none⟩ ?_ rfl ?_ hHeld ?_
  rotate_left 1
  ·(intro W hW;(try dsimp only at hW);go_simp;try with_reducible rfl)
  try simp only [aP]
  refine tk 8 ⟨some 17,.load 24 (.tmp 16),24,_,_,none⟩ ?_ rfl ?_ hHeld ?_
  rotate_left 1
  ·(intro W hW;have hcc:=hW.2.1.cell 0;(try dsimp only at hW);go_simp;try with_reducible rfl)
  try simp only [aP]
  refine rdy 4 ⟨some 13,.call ⟨ .value (.func 48),#[.tmp 10,.tmp 12],#[24,24]⟩,24,_,_,none⟩ rfl (fun K hK=>?_)
  go_simp
  refine (subRF W1 Ny1.out Nv1.out).mono ?_
  rintro e W2 ⟨Aup,cup,lup,rfl,hn,hb⟩
  have HB2:=lH (HB1.out.trans (hb.mono HB1.out.size))
  have PB2:=lH (PB1.out.under hb (Holds.lt PB1.out))
  have QB2:=lH (QB1.out.under hb (Holds.lt QB1.out))
  have Nx2:=lH (Nx1.out.under hb)
  have Ny2:=lH (Ny1.out.under hb)
  have Nu2:=lH (Nu1.out.under hb)
  have Nv2:=lH (Nv1.out.under hb)
  clear hb HB1 PB1 QB1 Nx1 Ny1 Nu1 Nv1
  have Nup2:=lH hn
  clear hn
  have HS2:Hid ((fun W=>Holds W w.heap.size 26 #[.slice A1 l1.length c1,.slice A2 l2.length c2,.bool false]∧Holds W (w.heap.size+1) 26 #[.slice B1 m1.length d1,.slice B2 m2.length d2,.bool false]∧True) W2):=lH ⟨PB2.out,QB2.out,trivial⟩
  go_simp
  refine hK.out _ _ (HS2.out) (fun _=>?_)
  clear hK K hHeld
  try simp only [aP]
  have hHeld:(fun W=>Holds W w.heap.size 26 #[.slice A1 l1.length c1,.slice A2 l2.length c2,.bool false]∧Holds W (w.heap.size+1) 26 #[.slice B1 m1.length d1,.slice B2 m2.length d2,.bool false]∧True) W2:=HS2.out
  refine rdy 9 ⟨some 18,.call ⟨ .value (.func 48),#[.tmp 15,.tmp 17],#[24,24]⟩,24,_,_,none⟩ rfl (fun K hK=>?_)
  go_simp
  refine (subRF W2 Nx2.out Nu2.out).mono ?_
  rintro e W3 ⟨Adn,cdn,ldn,rfl,hn,hb⟩
  have HB3:=lH (HB2.out.trans (hb.mono HB2.out.size))
  have PB3:=lH (PB2.out.under hb (Holds.lt PB2.out))
  have QB3:=lH (QB2.out.under hb (Holds.lt QB2.out))
  have Nx3:=lH (Nx2.out.under hb)
  have Ny3:=lH (Ny2.out.under hb)
  have Nu3:=lH (Nu2.out.under hb)
  have Nv3:=lH (Nv2.out.under hb)
  have Nup3:=lH (Nup2.out.under hb)
  clear hb HB2 PB2 QB2 Nx2 Ny2 Nu2 Nv2 Nup2
  have Ndn3:=lH hn
  clear hn
  have HS3:Hid ((fun W=>Holds W w.heap.size 26 #[.slice A1 l1.length c1,.slice A2 l2.length c2,.bool false]∧Holds W (w.heap.size+1) 26 #[.slice B1 m1.length d1,.slice B2 m2.length d2,.bool false]∧True) W3):=lH ⟨PB3.out,QB3.out,trivial⟩
  go_simp
  refine hK.out _ _ (HS3.out) (fun _=>?_)
  clear hK K hHeld
  try simp only [aP]
  have hHeld:(fun W=>Holds W w.heap.size 26 #[.slice A1 l1.length c1,.slice A2 l2.length c2,.bool false]∧Holds W (w.heap.size+1) 26 #[.slice B1 m1.length d1,.slice B2 m2.length d2,.bool false]∧True) W3:=HS3.out
  refine tk 10 ⟨some 5,.assign (.tmp 13),24,_,_,none⟩ ?_ rfl ?_ hHeld ?_
  rotate_left 1
  ·(intro W hW;(try dsimp only at hW);go_simp;try with_reducible rfl)
  try simp only [aP]
  refine tk 11 ⟨some 6,.assign (.tmp 18),24,_,_,none⟩ ?_ rfl ?_ hHeld ?_
  rotate_left 1
  ·(intro W hW;(try dsimp only at hW);go_simp;try with_reducible rfl)
  try simp only [aP]
  refine wpAnyH_done (by kernel_rfl) ?_ _
  refine NoPanic.normal ?_
  have p0:=PB3.out.cell 0
  have p1:=PB3.out.cell 1
  have p2:=PB3.out.cell 2
  have q0:=QB3.out.cell 0
  have q1:=QB3.out.cell 1
  have q2:=QB3.out.cell 2
  go_wp2_with fail
  refine (sameRP W3 (Q:=some (x1,y1)) ⟨rfl,Nx3.out,Ny3.out⟩ ⟨rfl,HE1.out ▸ Nu3.out,HE2.out ▸ Nv3.out⟩).mono ?_
  rintro e W4 ⟨rfl,hb⟩
  have HB4:=lH (HB3.out.trans (hb.mono HB3.out.size))
  have PB4:=lH (PB3.out.under hb (Holds.lt PB3.out))
  have QB4:=lH (QB3.out.under hb (Holds.lt QB3.out))
  have Nx4:=lH (Nx3.out.under hb)
  have Ny4:=lH (Ny3.out.under hb)
  have Nu4:=lH (Nu3.out.under hb)
  have Nv4:=lH (Nv3.out.under hb)
  have Nup4:=lH (Nup3.out.under hb)
  have Ndn4:=lH (Ndn3.out.under hb)
  clear hb HB3 PB3 QB3 Nx3 Ny3 Nu3 Nv3 Nup3 Ndn3
  clear p0 p1 p2 q0 q1 q2
  go_wp2_with fail
  refine wp_region_noPanic ?_
  refine wp_region_held_drew (S:=fun W=>Holds W w.heap.size 26 #[.slice A1 l1.length c1,.slice A2 l2.length c2,.bool false]∧Holds W (w.heap.size+1) 26 #[.slice B1 m1.length d1,.slice B2 m2.length d2,.bool false]∧True) (by kernel_rfl) (⟨PB4.out,QB4.out,trivial⟩) (fun hHeld=>?_)
  obtain ⟨W5,hV⟩:∃ W,W=W4.drew:=⟨_,rfl⟩
  rw [←hV]
  have hb:Below W4.heap.size W4 W5:=by rw [hV];exact (Below.refl _ W4).drew
  have HB5:=lH (HB4.out.trans (hb.mono HB4.out.size))
  have PB5:=lH (PB4.out.under hb (Holds.lt PB4.out))
  have QB5:=lH (QB4.out.under hb (Holds.lt QB4.out))
  have Nx5:=lH (Nx4.out.under hb)
  have Ny5:=lH (Ny4.out.under hb)
  have Nu5:=lH (Nu4.out.under hb)
  have Nv5:=lH (Nv4.out.under hb)
  have Nup5:=lH (Nup4.out.under hb)
  have Ndn5:=lH (Ndn4.out.under hb)
  clear hb HB4 PB4 QB4 Nx4 Ny4 Nu4 Nv4 Nup4 Ndn4
  have HS5:Hid ((fun W=>Holds W w.heap.size 26 #[.slice A1 l1.length c1,.slice A2 l2.length c2,.bool false]∧Holds W (w.heap.size+1) 26 #[.slice B1 m1.length d1,.slice B2 m2.length d2,.bool false]∧True) W5):=lH ⟨PB5.out,QB5.out,trivial⟩
  replace hHeld:(fun W=>Holds W w.heap.size 26 #[.slice A1 l1.length c1,.slice A2 l2.length c2,.bool false]∧Holds W (w.heap.size+1) 26 #[.slice B1 m1.length d1,.slice B2 m2.length d2,.bool false]∧True) W5:=HS5.out
  clear hV
  refine tk 0 ⟨some 22,.fieldAddr 26 (.tmp 2) 0,0,_,_,none⟩ ?_ rfl ?_ hHeld ?_
  rotate_left 1
  ·(intro W hW;(try dsimp only at hW);go_simp;try with_reducible rfl)
  try simp only [aP]
  refine tk 1 ⟨some 23,.load 24 (.tmp 22),24,_,_,none⟩ ?_ rfl ?_ hHeld ?_
  rotate_left 1
  ·(intro W hW;have hcc:=hW.1.cell 0;(try dsimp only at hW);go_simp;try with_reducible rfl)
  try simp only [aP]
  refine tk 2 ⟨some 24,.fieldAddr 26 (.tmp 2) 0,0,_,_,none⟩ ?_ rfl ?_ hHeld ?_
  rotate_left 1
  ·(intro W hW;(try dsimp only at hW);go_simp;try with_reducible rfl)
  try simp only [aP]
  refine tk 3 ⟨some 25,.load 24 (.tmp 24),24,_,_,none⟩ ?_ rfl ?_ hHeld ?_
  rotate_left 1
  ·(intro W hW;have hcc:=hW.1.cell 0;(try dsimp only at hW);go_simp;try with_reducible rfl)
  try simp only [aP]
  refine tk 8 ⟨some 30,.fieldAddr 26 (.tmp 2) 1,0,_,_,none⟩ ?_ rfl ?_ hHeld ?_
  rotate_left 1
  ·(intro W hW;(try dsimp only at hW);go_simp;try with_reducible rfl)
  try simp only [aP]
  refine tk 9 ⟨some 31,.load 24 (.tmp 30),24,_,_,none⟩ ?_ rfl ?_ hHeld ?_
  rotate_left 1
  ·(intro W hW;have hcc:=hW.1.cell 1;(try dsimp only at hW);go_simp;try with_reducible rfl)
  try simp only [aP]
  refine tk 10 ⟨some 32,.fieldAddr 26 (.tmp 2) 1,0,_,_,none⟩ ?_ rfl ?_ hHeld ?_
  rotate_left 1
  ·(intro W hW;(try dsimp only at hW);go_simp;try with_reducible rfl)
  try simp only [aP]
  refine tk 11 ⟨some 33,.load 24 (.tmp 32),24,_,_,none⟩ ?_ rfl ?_ hHeld ?_
  rotate_left 1
  ·(intro W hW;have hcc:=hW.1.cell 1;(try dsimp only at hW);go_simp;try with_reducible rfl)
  try simp only [aP]
  refine wpAnyH_ready (rs:=[4,6]) (by kernel_rfl) (by simp) ?_
  refine AllReadyH.cons (o:=⟨some 26,.call ⟨ .value (.func 46),#[.tmp 23,.tmp 25],#[24,24]⟩,24,_,_,none⟩) rfl (fun K hK=>?_) ?_
  ·go_simp
   refine (mulRF W5 Nx5.out Nx5.out).mono ?_
   rintro e W5e ⟨Axx,cxx,lxx,rfl,hn,hb⟩
   have Nxx5e:=lH hn
   clear hn
   have HB5e:=lH (HB5.out.trans (hb.mono HB5.out.size))
   have PB5e:=lH (PB5.out.under hb (Holds.lt PB5.out))
   have QB5e:=lH (QB5.out.under hb (Holds.lt QB5.out))
   have Nx5e:=lH (Nx5.out.under hb)
   have Ny5e:=lH (Ny5.out.under hb)
   have Nu5e:=lH (Nu5.out.under hb)
   have Nv5e:=lH (Nv5.out.under hb)
   have Nup5e:=lH (Nup5.out.under hb)
   have Ndn5e:=lH (Ndn5.out.under hb)
   clear hb HB5 PB5 QB5 Nx5 Ny5 Nu5 Nv5 Nup5 Ndn5
   have HS5e:Hid ((fun W=>Holds W w.heap.size 26 #[.slice A1 l1.length c1,.slice A2 l2.length c2,.bool false]∧Holds W (w.heap.size+1) 26 #[.slice B1 m1.length d1,.slice B2 m2.length d2,.bool false]∧True) W5e):=lH ⟨PB5e.out,QB5e.out,trivial⟩
   go_simp
   refine hK.out _ _ (HS5e.out) (fun hHeld=>?_)
   clear hK K
   try simp only [aP]
   refine wpAnyH_ready (rs:=[5,6]) (by kernel_rfl) (by simp) ?_
   refine AllReadyH.cons (o:=⟨some 27,.call ⟨ .value (.func 49),#[.tmp 26],#[24]⟩,24,_,_,none⟩) rfl (fun K hK=>?_) ?_
   ·go_simp
    refine (threeRF W5e Nxx5e.out).mono ?_
    rintro e W5ef ⟨At3,ct3,lt3,rfl,hn,hb⟩
    have Nt35ef:=lH hn
    clear hn
    have HB5ef:=lH (HB5e.out.trans (hb.mono HB5e.out.size))
    have PB5ef:=lH (PB5e.out.under hb (Holds.lt PB5e.out))
    have QB5ef:=lH (QB5e.out.under hb (Holds.lt QB5e.out))
    have Nx5ef:=lH (Nx5e.out.under hb)
    have Ny5ef:=lH (Ny5e.out.under hb)
    have Nu5ef:=lH (Nu5e.out.under hb)
    have Nv5ef:=lH (Nv5e.out.under hb)
    have Nup5ef:=lH (Nup5e.out.under hb)
    have Ndn5ef:=lH (Ndn5e.out.under hb)
    have Nxx5ef:=lH (Nxx5e.out.under hb)
    clear hb HB5e PB5e QB5e Nx5e Ny5e Nu5e Nv5e Nup5e Ndn5e Nxx5e
    have HS5ef:Hid ((fun W=>Holds W w.heap.size 26 #[.slice A1 l1.length c1,.slice A2 l2.length c2,.bool false]∧Holds W (w.heap.size+1) 26 #[.slice B1 m1.length d1,.slice B2 m2.length d2,.bool false]∧True) W5ef):=lH ⟨PB5ef.out,QB5ef.out,trivial⟩
    go_simp
    refine hK.out _ _ (HS5ef.out) (fun hHeld=>?_)
    clear hK K
    try simp only [aP]
    refine rdy 6 ⟨some 28,.buildSlice 24 1 #[(0,.const (.int .u32 3))],24,_,_,none⟩ rfl (fun K hK=>?_)
    obtain ⟨W5efg,hN⟩:∃ W,W=W5ef.alloc (.cells #[.int .u32 3] 22):=⟨_,rfl⟩
    go_simp
    rw [←hN]
    have hb:Below W5ef.heap.size W5ef W5efg:=by rw [hN];exact (Below.refl _ _).alloc (Nat.le_refl _) _
    obtain ⟨s3,hs3⟩:∃ s,s=W5ef.heap.size:=⟨_,rfl⟩
    rw [←hs3]
    have h3:NR W5efg (some ⟨s3,0,none⟩) 1 [3] 3:=⟨by
     have hr:Row .u32 22 W5efg s3 [3]:=by rw [hN,hs3];exact Holds.fresh _ _ _
     exact (rd_whole (c:=1) hr (by simp) (by omega)).more (Holds.lt hr),⟨fun x hx=>by rw [List.mem_singleton.1 hx];decide,.inr (by decide),by decide⟩⟩
    have Ns5efg:=lH h3
    clear hN hs3 h3
    have HB5efg:=lH (HB5ef.out.trans (hb.mono HB5ef.out.size))
    have PB5efg:=lH (PB5ef.out.under hb (Holds.lt PB5ef.out))
    have QB5efg:=lH (QB5ef.out.under hb (Holds.lt QB5ef.out))
    have Nx5efg:=lH (Nx5ef.out.under hb)
    have Ny5efg:=lH (Ny5ef.out.under hb)
    have Nu5efg:=lH (Nu5ef.out.under hb)
    have Nv5efg:=lH (Nv5ef.out.under hb)
    have Nup5efg:=lH (Nup5ef.out.under hb)
    have Ndn5efg:=lH (Ndn5ef.out.under hb)
    have Nxx5efg:=lH (Nxx5ef.out.under hb)
    have Nt35efg:=lH (Nt35ef.out.under hb)
    clear hb HB5ef PB5ef QB5ef Nx5ef Ny5ef Nu5ef Nv5ef Nup5ef Ndn5ef Nxx5ef Nt35ef
    have HS5efg:Hid ((fun W=>Holds W w.heap.size 26 #[.slice A1 l1.length c1,.slice A2 l2.length c2,.bool false]∧Holds W (w.heap.size+1) 26 #[.slice B1 m1.length d1,.slice B2 m2.length d2,.bool false]∧True) W5efg):=lH ⟨PB5efg.out,QB5efg.out,trivial⟩
    refine hK.out _ _ (HS5efg.out) (fun hHeld=>?_)
    clear hK K
    try simp only [aP]
    refine rdy 7 ⟨some 29,.call ⟨ .value (.func 48),#[.tmp 27,.tmp 28],#[24,24]⟩,24,_,_,none⟩ rfl (fun K hK=>?_)
    go_simp
    refine (subRF W5efg Nt35efg.out Ns5efg.out).mono ?_
    rintro e W5efgh ⟨Aup2,cup2,lup2,rfl,hn,hb⟩
    have Nup25efgh:=lH hn
    clear hn
    have HB5efgh:=lH (HB5efg.out.trans (hb.mono HB5efg.out.size))
    have PB5efgh:=lH (PB5efg.out.under hb (Holds.lt PB5efg.out))
    have QB5efgh:=lH (QB5efg.out.under hb (Holds.lt QB5efg.out))
    have Nx5efgh:=lH (Nx5efg.out.under hb)
    have Ny5efgh:=lH (Ny5efg.out.under hb)
    have Nu5efgh:=lH (Nu5efg.out.under hb)
    have Nv5efgh:=lH (Nv5efg.out.under hb)
    have Nup5efgh:=lH (Nup5efg.out.under hb)
    have Ndn5efgh:=lH (Ndn5efg.out.under hb)
    have Nxx5efgh:=lH (Nxx5efg.out.under hb)
    have Nt35efgh:=lH (Nt35efg.out.under hb)
    have Ns5efgh:=lH (Ns5efg.out.under hb)
    clear hb HB5efg PB5efg QB5efg Nx5efg Ny5efg Nu5efg Nv5efg Nup5efg Ndn5efg Nxx5efg Nt35efg Ns5efg
    have HS5efgh:Hid ((fun W=>Holds W w.heap.size 26 #[.slice A1 l1.length c1,.slice A2 l2.length c2,.bool false]∧Holds W (w.heap.size+1) 26 #[.slice B1 m1.length d1,.slice B2 m2.length d2,.bool false]∧True) W5efgh):=lH ⟨PB5efgh.out,QB5efgh.out,trivial⟩
    go_simp
    refine hK.out _ _ (HS5efgh.out) (fun hHeld=>?_)
    clear hK K
    try simp only [aP]
    refine rdy 12 ⟨some 34,.call ⟨ .value (.func 47),#[.tmp 31,.tmp 33],#[24,24]⟩,24,_,_,none⟩ rfl (fun K hK=>?_)
    go_simp
    refine (addRF W5efgh Ny5efgh.out Ny5efgh.out).mono ?_
    rintro e W5efghm ⟨Adn2,cdn2,ldn2,rfl,hn,hb⟩
    have Ndn25efghm:=lH hn
    clear hn
    have HB5efghm:=lH (HB5efgh.out.trans (hb.mono HB5efgh.out.size))
    have PB5efghm:=lH (PB5efgh.out.under hb (Holds.lt PB5efgh.out))
    have QB5efghm:=lH (QB5efgh.out.under hb (Holds.lt QB5efgh.out))
    have Nx5efghm:=lH (Nx5efgh.out.under hb)
    have Ny5efghm:=lH (Ny5efgh.out.under hb)
    have Nu5efghm:=lH (Nu5efgh.out.under hb)
    have Nv5efghm:=lH (Nv5efgh.out.under hb)
    have Nup5efghm:=lH (Nup5efgh.out.under hb)
    have Ndn5efghm:=lH (Ndn5efgh.out.under hb)
    have Nxx5efghm:=lH (Nxx5efgh.out.under hb)
    have Nt35efghm:=lH (Nt35efgh.out.under hb)
    have Ns5efghm:=lH (Ns5efgh.out.under hb)
    have Nup25efghm:=lH (Nup25efgh.out.under hb)
    clear hb HB5efgh PB5efgh QB5efgh Nx5efgh Ny5efgh Nu5efgh Nv5efgh Nup5efgh Ndn5efgh Nxx5efgh Nt35efgh Ns5efgh Nup25efgh
    have HS5efghm:Hid ((fun W=>Holds W w.heap.size 26 #[.slice A1 l1.length c1,.slice A2 l2.length c2,.bool false]∧Holds W (w.heap.size+1) 26 #[.slice B1 m1.length d1,.slice B2 m2.length d2,.bool false]∧True) W5efghm):=lH ⟨PB5efghm.out,QB5efghm.out,trivial⟩
    go_simp
    refine hK.out _ _ (HS5efghm.out) (fun hHeld=>?_)
    clear hK K
    try simp only [aP]
    refine tk 13 ⟨some 5,.assign (.tmp 29),24,_,_,none⟩ ?_ rfl ?_ hHeld ?_
    rotate_left 1
    ·(intro W hW;(try dsimp only at hW);go_simp;try with_reducible rfl)
    try simp only [aP]
    refine tk 14 ⟨some 6,.assign (.tmp 34),24,_,_,none⟩ ?_ rfl ?_ hHeld ?_
    rotate_left 1
    ·(intro W hW;(try dsimp only at hW);go_simp;try with_reducible rfl)
    try simp only [aP]
    refine wpAnyH_done (by kernel_rfl) ?_ _
    refine NoPanic.normal ?_
    go_wp2_with fail
    refine (refP_any W5efghm).mono ?_
    rintro e W5efghmP ⟨gn,hgn,rfl,hN,hb⟩
    have HB5efghmP:=lH (HB5efghm.out.trans (hb.mono HB5efghm.out.size))
    have PB5efghmP:=lH (PB5efghm.out.under hb (Holds.lt PB5efghm.out))
    have QB5efghmP:=lH (QB5efghm.out.under hb (Holds.lt QB5efghm.out))
    have Nx5efghmP:=lH (Nx5efghm.out.under hb)
    have Ny5efghmP:=lH (Ny5efghm.out.under hb)
    have Nu5efghmP:=lH (Nu5efghm.out.under hb)
    have Nv5efghmP:=lH (Nv5efghm.out.under hb)
    have Nup5efghmP:=lH (Nup5efghm.out.under hb)
    have Ndn5efghmP:=lH (Ndn5efghm.out.under hb)
    have Nxx5efghmP:=lH (Nxx5efghm.out.under hb)
    have Nt35efghmP:=lH (Nt35efghm.out.under hb)
    have Ns5efghmP:=lH (Ns5efghm.out.under hb)
    have Nup25efghmP:=lH (Nup25efghm.out.under hb)
    have Ndn25efghmP:=lH (Ndn25efghm.out.under hb)
    clear hb HB5efghm PB5efghm QB5efghm Nx5efghm Ny5efghm Nu5efghm Nv5efghm Nup5efghm Ndn5efghm Nxx5efghm Nt35efghm Ns5efghm Nup25efghm Ndn25efghm
    have HN5efghmP:=lH hN
    clear hN hgn
    go_wp2_with fail
    refine (invRF W5efghmP Ndn25efghmP.out HDN.out HN5efghmP.out).mono ?_
    rintro e W5efghmQ ⟨Ai,ci,li,rfl,hn,hb⟩
    have HB5efghmQ:=lH (HB5efghmP.out.trans (hb.mono HB5efghmP.out.size))
    have PB5efghmQ:=lH (PB5efghmP.out.under hb (Holds.lt PB5efghmP.out))
    have QB5efghmQ:=lH (QB5efghmP.out.under hb (Holds.lt QB5efghmP.out))
    have Nx5efghmQ:=lH (Nx5efghmP.out.under hb)
    have Ny5efghmQ:=lH (Ny5efghmP.out.under hb)
    have Nu5efghmQ:=lH (Nu5efghmP.out.under hb)
    have Nv5efghmQ:=lH (Nv5efghmP.out.under hb)
    have Nup5efghmQ:=lH (Nup5efghmP.out.under hb)
    have Ndn5efghmQ:=lH (Ndn5efghmP.out.under hb)
    have Nxx5efghmQ:=lH (Nxx5efghmP.out.under hb)
    have Nt35efghmQ:=lH (Nt35efghmP.out.under hb)
    have Ns5efghmQ:=lH (Ns5efghmP.out.under hb)
    have Nup25efghmQ:=lH (Nup25efghmP.out.under hb)
    have Ndn25efghmQ:=lH (Ndn25efghmP.out.under hb)
    clear hb HB5efghmP PB5efghmP QB5efghmP Nx5efghmP Ny5efghmP Nu5efghmP Nv5efghmP Nup5efghmP Ndn5efghmP Nxx5efghmP Nt35efghmP Ns5efghmP Nup25efghmP Ndn25efghmP
    have Ni5efghmQ:=lH hn
    clear hn HN5efghmP
    go_wp2_with fail
    refine (mulRF W5efghmQ Nup25efghmQ.out Ni5efghmQ.out).mono ?_
    rintro e W5efghmR ⟨Ar,cr,lr,rfl,hn,hb⟩
    have HB5efghmR:=lH (HB5efghmQ.out.trans (hb.mono HB5efghmQ.out.size))
    have PB5efghmR:=lH (PB5efghmQ.out.under hb (Holds.lt PB5efghmQ.out))
    have QB5efghmR:=lH (QB5efghmQ.out.under hb (Holds.lt QB5efghmQ.out))
    have Nx5efghmR:=lH (Nx5efghmQ.out.under hb)
    have Ny5efghmR:=lH (Ny5efghmQ.out.under hb)
    have Nu5efghmR:=lH (Nu5efghmQ.out.under hb)
    have Nv5efghmR:=lH (Nv5efghmQ.out.under hb)
    have Nup5efghmR:=lH (Nup5efghmQ.out.under hb)
    have Ndn5efghmR:=lH (Ndn5efghmQ.out.under hb)
    have Nxx5efghmR:=lH (Nxx5efghmQ.out.under hb)
    have Nt35efghmR:=lH (Nt35efghmQ.out.under hb)
    have Ns5efghmR:=lH (Ns5efghmQ.out.under hb)
    have Nup25efghmR:=lH (Nup25efghmQ.out.under hb)
    have Ndn25efghmR:=lH (Ndn25efghmQ.out.under hb)
    have Ni5efghmR:=lH (Ni5efghmQ.out.under hb)
    clear hb HB5efghmQ PB5efghmQ QB5efghmQ Nx5efghmQ Ny5efghmQ Nu5efghmQ Nv5efghmQ Nup5efghmQ Ndn5efghmQ Nxx5efghmQ Nt35efghmQ Ns5efghmQ Nup25efghmQ Ndn25efghmQ Ni5efghmQ
    have Nr5efghmR:=lH hn
    clear hn
    go_wp2_with fail
    go_ret
    exact ⟨Ar,cr,lr,rfl,HEQ.out ▸ Nr5efghmR.out,HB5efghmR.out⟩
   refine AllReadyH.cons (o:=⟨some 28,.buildSlice 24 1 #[(0,.const (.int .u32 3))],24,_,_,none⟩) rfl (fun K hK=>?_) AllReadyH.nil
   obtain ⟨W5eg,hN⟩:∃ W,W=W5e.alloc (.cells #[.int .u32 3] 22):=⟨_,rfl⟩
   go_simp
   rw [←hN]
   have hb:Below W5e.heap.size W5e W5eg:=by rw [hN];exact (Below.refl _ _).alloc (Nat.le_refl _) _
   obtain ⟨s3,hs3⟩:∃ s,s=W5e.heap.size:=⟨_,rfl⟩
   rw [←hs3]
   have h3:NR W5eg (some ⟨s3,0,none⟩) 1 [3] 3:=⟨by
    have hr:Row .u32 22 W5eg s3 [3]:=by rw [hN,hs3];exact Holds.fresh _ _ _
    exact (rd_whole (c:=1) hr (by simp) (by omega)).more (Holds.lt hr),⟨fun x hx=>by rw [List.mem_singleton.1 hx];decide,.inr (by decide),by decide⟩⟩
   have Ns5eg:=lH h3
   clear hN hs3 h3
   have HB5eg:=lH (HB5e.out.trans (hb.mono HB5e.out.size))
   have PB5eg:=lH (PB5e.out.under hb (Holds.lt PB5e.out))
   have QB5eg:=lH (QB5e.out.under hb (Holds.lt QB5e.out))
   have Nx5eg:=lH (Nx5e.out.under hb)
   have Ny5eg:=lH (Ny5e.out.under hb)
   have Nu5eg:=lH (Nu5e.out.under hb)
   have Nv5eg:=lH (Nv5e.out.under hb)
   have Nup5eg:=lH (Nup5e.out.under hb)
   have Ndn5eg:=lH (Ndn5e.out.under hb)
   have Nxx5eg:=lH (Nxx5e.out.under hb)
   clear hb HB5e PB5e QB5e Nx5e Ny5e Nu5e Nv5e Nup5e Ndn5e Nxx5e
   have HS5eg:Hid ((fun W=>Holds W w.heap.size 26 #[.slice A1 l1.length c1,.slice A2 l2.length c2,.bool false]∧Holds W (w.heap.size+1) 26 #[.slice B1 m1.length d1,.slice B2 m2.length d2,.bool false]∧True) W5eg):=lH ⟨PB5eg.out,QB5eg.out,trivial⟩
   refine hK.out _ _ (HS5eg.out) (fun hHeld=>?_)
   clear hK K
   try simp only [aP]
   refine rdy 5 ⟨some 27,.call ⟨ .value (.func 49),#[.tmp 26],#[24]⟩,24,_,_,none⟩ rfl (fun K hK=>?_)
   go_simp
   refine (threeRF W5eg Nxx5eg.out).mono ?_
   rintro e W5egf ⟨At3,ct3,lt3,rfl,hn,hb⟩
   have Nt35egf:=lH hn
   clear hn
   have HB5egf:=lH (HB5eg.out.trans (hb.mono HB5eg.out.size))
   have PB5egf:=lH (PB5eg.out.under hb (Holds.lt PB5eg.out))
   have QB5egf:=lH (QB5eg.out.under hb (Holds.lt QB5eg.out))
   have Nx5egf:=lH (Nx5eg.out.under hb)
   have Ny5egf:=lH (Ny5eg.out.under hb)
   have Nu5egf:=lH (Nu5eg.out.under hb)
   have Nv5egf:=lH (Nv5eg.out.under hb)
   have Nup5egf:=lH (Nup5eg.out.under hb)
   have Ndn5egf:=lH (Ndn5eg.out.under hb)
   have Nxx5egf:=lH (Nxx5eg.out.under hb)
   have Ns5egf:=lH (Ns5eg.out.under hb)
   clear hb HB5eg PB5eg QB5eg Nx5eg Ny5eg Nu5eg Nv5eg Nup5eg Ndn5eg Nxx5eg Ns5eg
   have HS5egf:Hid ((fun W=>Holds W w.heap.size 26 #[.slice A1 l1.length c1,.slice A2 l2.length c2,.bool false]∧Holds W (w.heap.size+1) 26 #[.slice B1 m1.length d1,.slice B2 m2.length d2,.bool false]∧True) W5egf):=lH ⟨PB5egf.out,QB5egf.out,trivial⟩
   go_simp
   refine hK.out _ _ (HS5egf.out) (fun hHeld=>?_)
   clear hK K
   try simp only [aP]
   refine rdy 7 ⟨some 29,.call ⟨ .value (.func 48),#[.tmp 27,.tmp 28],#[24,24]⟩,24,_,_,none⟩ rfl (fun K hK=>?_)
   go_simp
   refine (subRF W5egf Nt35egf.out Ns5egf.out).mono ?_
   rintro e W5egfh ⟨Aup2,cup2,lup2,rfl,hn,hb⟩
   have Nup25egfh:=lH hn
   clear hn
   have HB5egfh:=lH (HB5egf.out.trans (hb.mono HB5egf.out.size))
   have PB5egfh:=lH (PB5egf.out.under hb (Holds.lt PB5egf.out))
   have QB5egfh:=lH (QB5egf.out.under hb (Holds.lt QB5egf.out))
   have Nx5egfh:=lH (Nx5egf.out.under hb)
   have Ny5egfh:=lH (Ny5egf.out.under hb)
   have Nu5egfh:=lH (Nu5egf.out.under hb)
   have Nv5egfh:=lH (Nv5egf.out.under hb)
   have Nup5egfh:=lH (Nup5egf.out.under hb)
   have Ndn5egfh:=lH (Ndn5egf.out.under hb)
   have Nxx5egfh:=lH (Nxx5egf.out.under hb)
   have Ns5egfh:=lH (Ns5egf.out.under hb)
   have Nt35egfh:=lH (Nt35egf.out.under hb)
   clear hb HB5egf PB5egf QB5egf Nx5egf Ny5egf Nu5egf Nv5egf Nup5egf Ndn5egf Nxx5egf Ns5egf Nt35egf
   have HS5egfh:Hid ((fun W=>Holds W w.heap.size 26 #[.slice A1 l1.length c1,.slice A2 l2.length c2,.bool false]∧Holds W (w.heap.size+1) 26 #[.slice B1 m1.length d1,.slice B2 m2.length d2,.bool false]∧True) W5egfh):=lH ⟨PB5egfh.out,QB5egfh.out,trivial⟩
   go_simp
   refine hK.out _ _ (HS5egfh.out) (fun hHeld=>?_)
   clear hK K
   try simp only [aP]
   refine rdy 12 ⟨some 34,.call ⟨ .value (.func 47),#[.tmp 31,.tmp 33],#[24,24]⟩,24,_,_,none⟩ rfl (fun K hK=>?_)
   go_simp
   refine (addRF W5egfh Ny5egfh.out Ny5egfh.out).mono ?_
   rintro e W5egfhm ⟨Adn2,cdn2,ldn2,rfl,hn,hb⟩
   have Ndn25egfhm:=lH hn
   clear hn
   have HB5egfhm:=lH (HB5egfh.out.trans (hb.mono HB5egfh.out.size))
   have PB5egfhm:=lH (PB5egfh.out.under hb (Holds.lt PB5egfh.out))
   have QB5egfhm:=lH (QB5egfh.out.under hb (Holds.lt QB5egfh.out))
   have Nx5egfhm:=lH (Nx5egfh.out.under hb)
   have Ny5egfhm:=lH (Ny5egfh.out.under hb)
   have Nu5egfhm:=lH (Nu5egfh.out.under hb)
   have Nv5egfhm:=lH (Nv5egfh.out.under hb)
   have Nup5egfhm:=lH (Nup5egfh.out.under hb)
   have Ndn5egfhm:=lH (Ndn5egfh.out.under hb)
   have Nxx5egfhm:=lH (Nxx5egfh.out.under hb)
   have Ns5egfhm:=lH (Ns5egfh.out.under hb)
   have Nt35egfhm:=lH (Nt35egfh.out.under hb)
   have Nup25egfhm:=lH (Nup25egfh.out.under hb)
   clear hb HB5egfh PB5egfh QB5egfh Nx5egfh Ny5egfh Nu5egfh Nv5egfh Nup5egfh Ndn5egfh Nxx5egfh Ns5egfh Nt35egfh Nup25egfh
   have HS5egfhm:Hid ((fun W=>Holds W w.heap.size 26 #[.slice A1 l1.length c1,.slice A2 l2.length c2,.bool false]∧Holds W (w.heap.size+1) 26 #[.slice B1 m1.length d1,.slice B2 m2.length d2,.bool false]∧True) W5egfhm):=lH ⟨PB5egfhm.out,QB5egfhm.out,trivial⟩
   go_simp
   refine hK.out _ _ (HS5egfhm.out) (fun hHeld=>?_)
   clear hK K
   try simp only [aP]
   refine tk 13 ⟨some 5,.assign (.tmp 29),24,_,_,none⟩ ?_ rfl ?_ hHeld ?_
   rotate_left 1
   ·(intro W hW;(try dsimp only at hW);go_simp;try with_reducible rfl)
   try simp only [aP]
   refine tk 14 ⟨some 6,.assign (.tmp 34),24,_,_,none⟩ ?_ rfl ?_ hHeld ?_
   rotate_left 1
   ·(intro W hW;(try dsimp only at hW);go_simp;try with_reducible rfl)
   try simp only [aP]
   refine wpAnyH_done (by kernel_rfl) ?_ _
   refine NoPanic.normal ?_
   go_wp2_with fail
   refine (refP_any W5egfhm).mono ?_
   rintro e W5egfhmP ⟨gn,hgn,rfl,hN,hb⟩
   have HB5egfhmP:=lH (HB5egfhm.out.trans (hb.mono HB5egfhm.out.size))
   have PB5egfhmP:=lH (PB5egfhm.out.under hb (Holds.lt PB5egfhm.out))
   have QB5egfhmP:=lH (QB5egfhm.out.under hb (Holds.lt QB5egfhm.out))
   have Nx5egfhmP:=lH (Nx5egfhm.out.under hb)
   have Ny5egfhmP:=lH (Ny5egfhm.out.under hb)
   have Nu5egfhmP:=lH (Nu5egfhm.out.under hb)
   have Nv5egfhmP:=lH (Nv5egfhm.out.under hb)
   have Nup5egfhmP:=lH (Nup5egfhm.out.under hb)
   have Ndn5egfhmP:=lH (Ndn5egfhm.out.under hb)
   have Nxx5egfhmP:=lH (Nxx5egfhm.out.under hb)
   have Ns5egfhmP:=lH (Ns5egfhm.out.under hb)
   have Nt35egfhmP:=lH (Nt35egfhm.out.under hb)
   have Nup25egfhmP:=lH (Nup25egfhm.out.under hb)
   have Ndn25egfhmP:=lH (Ndn25egfhm.out.under hb)
   clear hb HB5egfhm PB5egfhm QB5egfhm Nx5egfhm Ny5egfhm Nu5egfhm Nv5egfhm Nup5egfhm Ndn5egfhm Nxx5egfhm Ns5egfhm Nt35egfhm Nup25egfhm Ndn25egfhm
   have HN5egfhmP:=lH hN
   clear hN hgn
   go_wp2_with fail
   refine (invRF W5egfhmP Ndn25egfhmP.out HDN.out HN5egfhmP.out).mono ?_
   rintro e W5egfhmQ ⟨Ai,ci,li,rfl,hn,hb⟩
   have HB5egfhmQ:=lH (HB5egfhmP.out.trans (hb.mono HB5egfhmP.out.size))
   have PB5egfhmQ:=lH (PB5egfhmP.out.under hb (Holds.lt PB5egfhmP.out))
   have QB5egfhmQ:=lH (QB5egfhmP.out.under hb (Holds.lt QB5egfhmP.out))
   have Nx5egfhmQ:=lH (Nx5egfhmP.out.under hb)
   have Ny5egfhmQ:=lH (Ny5egfhmP.out.under hb)
   have Nu5egfhmQ:=lH (Nu5egfhmP.out.under hb)
   have Nv5egfhmQ:=lH (Nv5egfhmP.out.under hb)
   have Nup5egfhmQ:=lH (Nup5egfhmP.out.under hb)
   have Ndn5egfhmQ:=lH (Ndn5egfhmP.out.under hb)
   have Nxx5egfhmQ:=lH (Nxx5egfhmP.out.under hb)
   have Ns5egfhmQ:=lH (Ns5egfhmP.out.under hb)
   have Nt35egfhmQ:=lH (Nt35egfhmP.out.under hb)
   have Nup25egfhmQ:=lH (Nup25egfhmP.out.under hb)
   have Ndn25egfhmQ:=lH (Ndn25egfhmP.out.under hb)
   clear hb HB5egfhmP PB5egfhmP QB5egfhmP Nx5egfhmP Ny5egfhmP Nu5egfhmP Nv5egfhmP Nup5egfhmP Ndn5egfhmP Nxx5egfhmP Ns5egfhmP Nt35egfhmP Nup25egfhmP Ndn25egfhmP
   have Ni5egfhmQ:=lH hn
   clear hn HN5egfhmP
   go_wp2_with fail
   refine (mulRF W5egfhmQ Nup25egfhmQ.out Ni5egfhmQ.out).mono ?_
   rintro e W5egfhmR ⟨Ar,cr,lr,rfl,hn,hb⟩
   have HB5egfhmR:=lH (HB5egfhmQ.out.trans (hb.mono HB5egfhmQ.out.size))
   have PB5egfhmR:=lH (PB5egfhmQ.out.under hb (Holds.lt PB5egfhmQ.out))
   have QB5egfhmR:=lH (QB5egfhmQ.out.under hb (Holds.lt QB5egfhmQ.out))
   have Nx5egfhmR:=lH (Nx5egfhmQ.out.under hb)
   have Ny5egfhmR:=lH (Ny5egfhmQ.out.under hb)
   have Nu5egfhmR:=lH (Nu5egfhmQ.out.under hb)
   have Nv5egfhmR:=lH (Nv5egfhmQ.out.under hb)
   have Nup5egfhmR:=lH (Nup5egfhmQ.out.under hb)
   have Ndn5egfhmR:=lH (Ndn5egfhmQ.out.under hb)
   have Nxx5egfhmR:=lH (Nxx5egfhmQ.out.under hb)
   have Ns5egfhmR:=lH (Ns5egfhmQ.out.under hb)
   have Nt35egfhmR:=lH (Nt35egfhmQ.out.under hb)
   have Nup25egfhmR:=lH (Nup25egfhmQ.out.under hb)
   have Ndn25egfhmR:=lH (Ndn25egfhmQ.out.under hb)
   have Ni5egfhmR:=lH (Ni5egfhmQ.out.under hb)
   clear hb HB5egfhmQ PB5egfhmQ QB5egfhmQ Nx5egfhmQ Ny5egfhmQ Nu5egfhmQ Nv5egfhmQ Nup5egfhmQ Ndn5egfhmQ Nxx5egfhmQ Ns5egfhmQ Nt35egfhmQ Nup25egfhmQ Ndn25egfhmQ Ni5egfhmQ
   have Nr5egfhmR:=lH hn
   clear hn
   go_wp2_with fail
   go_ret
   exact ⟨Ar,cr,lr,rfl,HEQ.out ▸ Nr5egfhmR.out,HB5egfhmR.out⟩
  refine AllReadyH.cons (o:=⟨some 28,.buildSlice 24 1 #[(0,.const (.int .u32 3))],24,_,_,none⟩) rfl (fun K hK=>?_) AllReadyH.nil
  obtain ⟨W5g,hN⟩:∃ W,W=W5.alloc (.cells #[.int .u32 3] 22):=⟨_,rfl⟩
  go_simp
  rw [←hN]
  have hb:Below W5.heap.size W5 W5g:=by rw [hN];exact (Below.refl _ _).alloc (Nat.le_refl _) _
  obtain ⟨s3,hs3⟩:∃ s,s=W5.heap.size:=⟨_,rfl⟩
  rw [←hs3]
  have h3:NR W5g (some ⟨s3,0,none⟩) 1 [3] 3:=⟨by
   have hr:Row .u32 22 W5g s3 [3]:=by rw [hN,hs3];exact Holds.fresh _ _ _
   exact (rd_whole (c:=1) hr (by simp) (by omega)).more (Holds.lt hr),⟨fun x hx=>by rw [List.mem_singleton.1 hx];decide,.inr (by decide),by decide⟩⟩
  have Ns5g:=lH h3
  clear hN hs3 h3
  have HB5g:=lH (HB5.out.trans (hb.mono HB5.out.size))
  have PB5g:=lH (PB5.out.under hb (Holds.lt PB5.out))
  have QB5g:=lH (QB5.out.under hb (Holds.lt QB5.out))
  have Nx5g:=lH (Nx5.out.under hb)
  have Ny5g:=lH (Ny5.out.under hb)
  have Nu5g:=lH (Nu5.out.under hb)
  have Nv5g:=lH (Nv5.out.under hb)
  have Nup5g:=lH (Nup5.out.under hb)
  have Ndn5g:=lH (Ndn5.out.under hb)
  clear hb HB5 PB5 QB5 Nx5 Ny5 Nu5 Nv5 Nup5 Ndn5
  have HS5g:Hid ((fun W=>Holds W w.heap.size 26 #[.slice A1 l1.length c1,.slice A2 l2.length c2,.bool false]∧Holds W (w.heap.size+1) 26 #[.slice B1 m1.length d1,.slice B2 m2.length d2,.bool false]∧True) W5g):=lH ⟨PB5g.out,QB5g.out,trivial⟩
  refine hK.out _ _ (HS5g.out) (fun hHeld=>?_)
  clear hK K
  try simp only [aP]
  refine rdy 4 ⟨some 26,.call ⟨ .value (.func 46),#[.tmp 23,.tmp 25],#[24,24]⟩,24,_,_,none⟩ rfl (fun K hK=>?_)
  go_simp
  refine (mulRF W5g Nx5g.out Nx5g.out).mono ?_
  rintro e W5ge ⟨Axx,cxx,lxx,rfl,hn,hb⟩
  have Nxx5ge:=lH hn
  clear hn
  have HB5ge:=lH (HB5g.out.trans (hb.mono HB5g.out.size))
  have PB5ge:=lH (PB5g.out.under hb (Holds.lt PB5g.out))
  have QB5ge:=lH (QB5g.out.under hb (Holds.lt QB5g.out))
  have Nx5ge:=lH (Nx5g.out.under hb)
  have Ny5ge:=lH (Ny5g.out.under hb)
  have Nu5ge:=lH (Nu5g.out.under hb)
  have Nv5ge:=lH (Nv5g.out.under hb)
  have Nup5ge:=lH (Nup5g.out.under hb)
  have Ndn5ge:=lH (Ndn5g.out.under hb)
  have Ns5ge:=lH (Ns5g.out.under hb)
  clear hb HB5g PB5g QB5g Nx5g Ny5g Nu5g Nv5g Nup5g Ndn5g Ns5g
  have HS5ge:Hid ((fun W=>Holds W w.heap.size 26 #[.slice A1 l1.length c1,.slice A2 l2.length c2,.bool false]∧Holds W (w.heap.size+1) 26 #[.slice B1 m1.length d1,.slice B2 m2.length d2,.bool false]∧True) W5ge):=lH ⟨PB5ge.out,QB5ge.out,trivial⟩
  go_simp
  refine hK.out _ _ (HS5ge.out) (fun hHeld=>?_)
  clear hK K
  try simp only [aP]
  refine rdy 5 ⟨some 27,.call ⟨ .value (.func 49),#[.tmp 26],#[24]⟩,24,_,_,none⟩ rfl (fun K hK=>?_)
  go_simp
  refine (threeRF W5ge Nxx5ge.out).mono ?_
  rintro e W5gef ⟨At3,ct3,lt3,rfl,hn,hb⟩
  have Nt35gef:=lH hn
  clear hn
  have HB5gef:=lH (HB5ge.out.trans (hb.mono HB5ge.out.size))
  have PB5gef:=lH (PB5ge.out.under hb (Holds.lt PB5ge.out))
  have QB5gef:=lH (QB5ge.out.under hb (Holds.lt QB5ge.out))
  have Nx5gef:=lH (Nx5ge.out.under hb)
  have Ny5gef:=lH (Ny5ge.out.under hb)
  have Nu5gef:=lH (Nu5ge.out.under hb)
  have Nv5gef:=lH (Nv5ge.out.under hb)
  have Nup5gef:=lH (Nup5ge.out.under hb)
  have Ndn5gef:=lH (Ndn5ge.out.under hb)
  have Ns5gef:=lH (Ns5ge.out.under hb)
  have Nxx5gef:=lH (Nxx5ge.out.under hb)
  clear hb HB5ge PB5ge QB5ge Nx5ge Ny5ge Nu5ge Nv5ge Nup5ge Ndn5ge Ns5ge Nxx5ge
  have HS5gef:Hid ((fun W=>Holds W w.heap.size 26 #[.slice A1 l1.length c1,.slice A2 l2.length c2,.bool false]∧Holds W (w.heap.size+1) 26 #[.slice B1 m1.length d1,.slice B2 m2.length d2,.bool false]∧True) W5gef):=lH ⟨PB5gef.out,QB5gef.out,trivial⟩
  go_simp
  refine hK.out _ _ (HS5gef.out) (fun hHeld=>?_)
  clear hK K
  try simp only [aP]
  refine rdy 7 ⟨some 29,.call ⟨ .value (.func 48),#[.tmp 27,.tmp 28],#[24,24]⟩,24,_,_,none⟩ rfl (fun K hK=>?_)
  go_simp
  refine (subRF W5gef Nt35gef.out Ns5gef.out).mono ?_
  rintro e W5gefh ⟨Aup2,cup2,lup2,rfl,hn,hb⟩
  have Nup25gefh:=lH hn
  clear hn
  have HB5gefh:=lH (HB5gef.out.trans (hb.mono HB5gef.out.size))
  have PB5gefh:=lH (PB5gef.out.under hb (Holds.lt PB5gef.out))
  have QB5gefh:=lH (QB5gef.out.under hb (Holds.lt QB5gef.out))
  have Nx5gefh:=lH (Nx5gef.out.under hb)
  have Ny5gefh:=lH (Ny5gef.out.under hb)
  have Nu5gefh:=lH (Nu5gef.out.under hb)
  have Nv5gefh:=lH (Nv5gef.out.under hb)
  have Nup5gefh:=lH (Nup5gef.out.under hb)
  have Ndn5gefh:=lH (Ndn5gef.out.under hb)
  have Ns5gefh:=lH (Ns5gef.out.under hb)
  have Nxx5gefh:=lH (Nxx5gef.out.under hb)
  have Nt35gefh:=lH (Nt35gef.out.under hb)
  clear hb HB5gef PB5gef QB5gef Nx5gef Ny5gef Nu5gef Nv5gef Nup5gef Ndn5gef Ns5gef Nxx5gef Nt35gef
  have HS5gefh:Hid ((fun W=>Holds W w.heap.size 26 #[.slice A1 l1.length c1,.slice A2 l2.length c2,.bool false]∧Holds W (w.heap.size+1) 26 #[.slice B1 m1.length d1,.slice B2 m2.length d2,.bool false]∧True) W5gefh):=lH ⟨PB5gefh.out,QB5gefh.out,trivial⟩
  go_simp
  refine hK.out _ _ (HS5gefh.out) (fun hHeld=>?_)
  clear hK K
  try simp only [aP]
  refine rdy 12 ⟨some 34,.call ⟨ .value (.func 47),#[.tmp 31,.tmp 33],#[24,24]⟩,24,_,_,none⟩ rfl (fun K hK=>?_)
  go_simp
  refine (addRF W5gefh Ny5gefh.out Ny5gefh.out).mono ?_
  rintro e W5gefhm ⟨Adn2,cdn2,ldn2,rfl,hn,hb⟩
  have Ndn25gefhm:=lH hn
  clear hn
  have HB5gefhm:=lH (HB5gefh.out.trans (hb.mono HB5gefh.out.size))
  have PB5gefhm:=lH (PB5gefh.out.under hb (Holds.lt PB5gefh.out))
  have QB5gefhm:=lH (QB5gefh.out.under hb (Holds.lt QB5gefh.out))
  have Nx5gefhm:=lH (Nx5gefh.out.under hb)
  have Ny5gefhm:=lH (Ny5gefh.out.under hb)
  have Nu5gefhm:=lH (Nu5gefh.out.under hb)
  have Nv5gefhm:=lH (Nv5gefh.out.under hb)
  have Nup5gefhm:=lH (Nup5gefh.out.under hb)
  have Ndn5gefhm:=lH (Ndn5gefh.out.under hb)
  have Ns5gefhm:=lH (Ns5gefh.out.under hb)
  have Nxx5gefhm:=lH (Nxx5gefh.out.under hb)
  have Nt35gefhm:=lH (Nt35gefh.out.under hb)
  have Nup25gefhm:=lH (Nup25gefh.out.under hb)
  clear hb HB5gefh PB5gefh QB5gefh Nx5gefh Ny5gefh Nu5gefh Nv5gefh Nup5gefh Ndn5gefh Ns5gefh Nxx5gefh Nt35gefh Nup25gefh
  have HS5gefhm:Hid ((fun W=>Holds W w.heap.size 26 #[.slice A1 l1.length c1,.slice A2 l2.length c2,.bool false]∧Holds W (w.heap.size+1) 26 #[.slice B1 m1.length d1,.slice B2 m2.length d2,.bool false]∧True) W5gefhm):=lH ⟨PB5gefhm.out,QB5gefhm.out,trivial⟩
  go_simp
  refine hK.out _ _ (HS5gefhm.out) (fun hHeld=>?_)
  clear hK K
  try simp only [aP]
  refine tk 13 ⟨some 5,.assign (.tmp 29),24,_,_,none⟩ ?_ rfl ?_ hHeld ?_
  rotate_left 1
  ·(intro W hW;(try dsimp only at hW);go_simp;try with_reducible rfl)
  try simp only [aP]
  refine tk 14 ⟨some 6,.assign (.tmp 34),24,_,_,none⟩ ?_ rfl ?_ hHeld ?_
  rotate_left 1
  ·(intro W hW;(try dsimp only at hW);go_simp;try with_reducible rfl)
  try simp only [aP]
  refine wpAnyH_done (by kernel_rfl) ?_ _
  refine NoPanic.normal ?_
  go_wp2_with fail
  refine (refP_any W5gefhm).mono ?_
  rintro e W5gefhmP ⟨gn,hgn,rfl,hN,hb⟩
  have HB5gefhmP:=lH (HB5gefhm.out.trans (hb.mono HB5gefhm.out.size))
  have PB5gefhmP:=lH (PB5gefhm.out.under hb (Holds.lt PB5gefhm.out))
  have QB5gefhmP:=lH (QB5gefhm.out.under hb (Holds.lt QB5gefhm.out))
  have Nx5gefhmP:=lH (Nx5gefhm.out.under hb)
  have Ny5gefhmP:=lH (Ny5gefhm.out.under hb)
  have Nu5gefhmP:=lH (Nu5gefhm.out.under hb)
  have Nv5gefhmP:=lH (Nv5gefhm.out.under hb)
  have Nup5gefhmP:=lH (Nup5gefhm.out.under hb)
  have Ndn5gefhmP:=lH (Ndn5gefhm.out.under hb)
  have Ns5gefhmP:=lH (Ns5gefhm.out.under hb)
  have Nxx5gefhmP:=lH (Nxx5gefhm.out.under hb)
  have Nt35gefhmP:=lH (Nt35gefhm.out.under hb)
  have Nup25gefhmP:=lH (Nup25gefhm.out.under hb)
  have Ndn25gefhmP:=lH (Ndn25gefhm.out.under hb)
  clear hb HB5gefhm PB5gefhm QB5gefhm Nx5gefhm Ny5gefhm Nu5gefhm Nv5gefhm Nup5gefhm Ndn5gefhm Ns5gefhm Nxx5gefhm Nt35gefhm Nup25gefhm Ndn25gefhm
  have HN5gefhmP:=lH hN
  clear hN hgn
  go_wp2_with fail
  refine (invRF W5gefhmP Ndn25gefhmP.out HDN.out HN5gefhmP.out).mono ?_
  rintro e W5gefhmQ ⟨Ai,ci,li,rfl,hn,hb⟩
  have HB5gefhmQ:=lH (HB5gefhmP.out.trans (hb.mono HB5gefhmP.out.size))
  have PB5gefhmQ:=lH (PB5gefhmP.out.under hb (Holds.lt PB5gefhmP.out))
  have QB5gefhmQ:=lH (QB5gefhmP.out.under hb (Holds.lt QB5gefhmP.out))
  have Nx5gefhmQ:=lH (Nx5gefhmP.out.under hb)
  have Ny5gefhmQ:=lH (Ny5gefhmP.out.under hb)
  have Nu5gefhmQ:=lH (Nu5gefhmP.out.under hb)
  have Nv5gefhmQ:=lH (Nv5gefhmP.out.under hb)
  have Nup5gefhmQ:=lH (Nup5gefhmP.out.under hb)
  have Ndn5gefhmQ:=lH (Ndn5gefhmP.out.under hb)
  have Ns5gefhmQ:=lH (Ns5gefhmP.out.under hb)
  have Nxx5gefhmQ:=lH (Nxx5gefhmP.out.under hb)
  have Nt35gefhmQ:=lH (Nt35gefhmP.out.under hb)
  have Nup25gefhmQ:=lH (Nup25gefhmP.out.under hb)
  have Ndn25gefhmQ:=lH (Ndn25gefhmP.out.under hb)
  clear hb HB5gefhmP PB5gefhmP QB5gefhmP Nx5gefhmP Ny5gefhmP Nu5gefhmP Nv5gefhmP Nup5gefhmP Ndn5gefhmP Ns5gefhmP Nxx5gefhmP Nt35gefhmP Nup25gefhmP Ndn25gefhmP
  have Ni5gefhmQ:=lH hn
  clear hn HN5gefhmP
  go_wp2_with fail
  refine (mulRF W5gefhmQ Nup25gefhmQ.out Ni5gefhmQ.out).mono ?_
  rintro e W5gefhmR ⟨Ar,cr,lr,rfl,hn,hb⟩
  have HB5gefhmR:=lH (HB5gefhmQ.out.trans (hb.mono HB5gefhmQ.out.size))
  have PB5gefhmR:=lH (PB5gefhmQ.out.under hb (Holds.lt PB5gefhmQ.out))
  have QB5gefhmR:=lH (QB5gefhmQ.out.under hb (Holds.lt QB5gefhmQ.out))
  have Nx5gefhmR:=lH (Nx5gefhmQ.out.under hb)
  have Ny5gefhmR:=lH (Ny5gefhmQ.out.under hb)
  have Nu5gefhmR:=lH (Nu5gefhmQ.out.under hb)
  have Nv5gefhmR:=lH (Nv5gefhmQ.out.under hb)
  have Nup5gefhmR:=lH (Nup5gefhmQ.out.under hb)
  have Ndn5gefhmR:=lH (Ndn5gefhmQ.out.under hb)
  have Ns5gefhmR:=lH (Ns5gefhmQ.out.under hb)
  have Nxx5gefhmR:=lH (Nxx5gefhmQ.out.under hb)
  have Nt35gefhmR:=lH (Nt35gefhmQ.out.under hb)
  have Nup25gefhmR:=lH (Nup25gefhmQ.out.under hb)
  have Ndn25gefhmR:=lH (Ndn25gefhmQ.out.under hb)
  have Ni5gefhmR:=lH (Ni5gefhmQ.out.under hb)
  clear hb HB5gefhmQ PB5gefhmQ QB5gefhmQ Nx5gefhmQ Ny5gefhmQ Nu5gefhmQ Nv5gefhmQ Nup5gefhmQ Ndn5gefhmQ Ns5gefhmQ Nxx5gefhmQ Nt35gefhmQ Nup25gefhmQ Ndn25gefhmQ Ni5gefhmQ
  have Nr5gefhmR:=lH hn
  clear hn
  go_wp2_with fail
  go_ret
  exact ⟨Ar,cr,lr,rfl,HEQ.out ▸ Nr5gefhmR.out,HB5gefhmR.out⟩
 ·have HNE:Hid (¬ (x1=x2∧y1=y2)):=lH fun e=>hx e.1
  have HDN:Hid (x1 - x2≠0):=lH fun e=>hx (by grind)
  have HEQ:Hid ((y1 - y2)*Luc.finv (x1 - x2)=Luc.sl x1 y1 x2 y2):=lH (sl_far hx)
  clear hn h12 hx
  go_enter Tryd.func51,Tryd.ntmps51
  go_wp2_with fail
  rw [←HW.out]
  clear HW
  go_wp2_with fail
  refine wp_region_noPanic ?_
  refine wp_region_held_drew (S:=fun W=>Holds W w.heap.size 26 #[.slice A1 l1.length c1,.slice A2 l2.length c2,.bool false]∧Holds W (w.heap.size+1) 26 #[.slice B1 m1.length d1,.slice B2 m2.length d2,.bool false]∧True) (by kernel_rfl) (⟨PB0.out,QB0.out,trivial⟩) (fun hHeld=>?_)
  obtain ⟨W1,hV⟩:∃ W,W=W0.drew:=⟨_,rfl⟩
  rw [←hV]
  have hb:Below W0.heap.size W0 W1:=by rw [hV];exact (Below.refl _ W0).drew
  have HB1:=lH (HB0.out.trans (hb.mono HB0.out.size))
  have PB1:=lH (PB0.out.under hb (Holds.lt PB0.out))
  have QB1:=lH (QB0.out.under hb (Holds.lt QB0.out))
  have Nx1:=lH (Nx0.out.under hb)
  have Ny1:=lH (Ny0.out.under hb)
  have Nu1:=lH (Nu0.out.under hb)
  have Nv1:=lH (Nv0.out.under hb)
  clear hb HB0 PB0 QB0 Nx0 Ny0 Nu0 Nv0
  have HS1:Hid ((fun W=>Holds W w.heap.size 26 #[.slice A1 l1.length c1,.slice A2 l2.length c2,.bool false]∧Holds W (w.heap.size+1) 26 #[.slice B1 m1.length d1,.slice B2 m2.length d2,.bool false]∧True) W1):=lH ⟨PB1.out,QB1.out,trivial⟩
  replace hHeld:(fun W=>Holds W w.heap.size 26 #[.slice A1 l1.length c1,.slice A2 l2.length c2,.bool false]∧Holds W (w.heap.size+1) 26 #[.slice B1 m1.length d1,.slice B2 m2.length d2,.bool false]∧True) W1:=HS1.out
  clear hV
  refine tk 0 ⟨some 9,.fieldAddr 26 (.tmp 2) 1,0,_,_,none⟩ ?_ rfl ?_ hHeld ?_
  rotate_left 1
  ·(intro W hW;(try dsimp only at hW);go_simp;try with_reducible rfl)
  try simp only [aP]
  refine tk 1 ⟨some 10,.load 24 (.tmp 9),24,_,_,none⟩ ?_ rfl ?_ hHeld ?_
  rotate_left 1
  ·(intro W hW;have hcc:=hW.1.cell 1;(try dsimp only at hW);go_simp;try with_reducible rfl)
  try simp only [aP]
  refine tk 2 ⟨some 11,.fieldAddr 26 (.tmp 3) 1,0,_,_,none⟩ ?_ rfl ?_ hHeld ?_
  rotate_left 1
  ·(intro W hW;(try dsimp only at hW);go_simp;try with_reducible rfl)
  try simp only [aP]
  refine tk 3 ⟨some 12,.load 24 (.tmp 11),24,_,_,none⟩ ?_ rfl ?_ hHeld ?_
  rotate_left 1
  ·(intro W hW;have hcc:=hW.2.1.cell 1;(try dsimp only at hW);go_simp;try with_reducible rfl)
  try simp only [aP]
  refine tk 5 ⟨some 14,.fieldAddr 26 (.tmp 2) 0,0,_,_,none⟩ ?_ rfl ?_ hHeld ?_
  rotate_left 1
  ·(intro W hW;(try dsimp only at hW);go_simp;try with_reducible rfl)
  try simp only [aP]
  refine tk 6 ⟨some 15,.load 24 (.tmp 14),24,_,_,none⟩ ?_ rfl ?_ hHeld ?_
  rotate_left 1
  ·(intro W hW;have hcc:=hW.1.cell 0;(try dsimp only at hW);go_simp;try with_reducible rfl)
  try simp only [aP]
  refine tk 7 ⟨some 16,.fieldAddr 26 (.tmp 3) 0,0,_,_,none⟩ ?_ rfl ?_ hHeld ?_
  rotate_left 1
  ·(intro W hW;(try dsimp only at hW);go_simp;try with_reducible rfl)
  try simp only [aP]
  refine tk 8 ⟨some 17,.load 24 (.tmp 16),24,_,_,none⟩ ?_ rfl ?_ hHeld ?_
  rotate_left 1
  ·(intro W hW;have hcc:=hW.2.1.cell 0;(try dsimp only at hW);go_simp;try with_reducible rfl)
  try simp only [aP]
  refine rdy 4 ⟨some 13,.call ⟨ .value (.func 48),#[.tmp 10,.tmp 12],#[24,24]⟩,24,_,_,none⟩ rfl (fun K hK=>?_)
  go_simp
  refine (subRF W1 Ny1.out Nv1.out).mono ?_
  rintro e W2 ⟨Aup,cup,lup,rfl,hn,hb⟩
  have HB2:=lH (HB1.out.trans (hb.mono HB1.out.size))
  have PB2:=lH (PB1.out.under hb (Holds.lt PB1.out))
  have QB2:=lH (QB1.out.under hb (Holds.lt QB1.out))
  have Nx2:=lH (Nx1.out.under hb)
  have Ny2:=lH (Ny1.out.under hb)
  have Nu2:=lH (Nu1.out.under hb)
  have Nv2:=lH (Nv1.out.under hb)
  clear hb HB1 PB1 QB1 Nx1 Ny1 Nu1 Nv1
  have Nup2:=lH hn
  clear hn
  have HS2:Hid ((fun W=>Holds W w.heap.size 26 #[.slice A1 l1.length c1,.slice A2 l2.length c2,.bool false]∧Holds W (w.heap.size+1) 26 #[.slice B1 m1.length d1,.slice B2 m2.length d2,.bool false]∧True) W2):=lH ⟨PB2.out,QB2.out,trivial⟩
  go_simp
  refine hK.out _ _ (HS2.out) (fun _=>?_)
  clear hK K hHeld
  try simp only [aP]
  have hHeld:(fun W=>Holds W w.heap.size 26 #[.slice A1 l1.length c1,.slice A2 l2.length c2,.bool false]∧Holds W (w.heap.size+1) 26 #[.slice B1 m1.length d1,.slice B2 m2.length d2,.bool false]∧True) W2:=HS2.out
  refine rdy 9 ⟨some 18,.call ⟨ .value (.func 48),#[.tmp 15,.tmp 17],#[24,24]⟩,24,_,_,none⟩ rfl (fun K hK=>?_)
  go_simp
  refine (subRF W2 Nx2.out Nu2.out).mono ?_
  rintro e W3 ⟨Adn,cdn,ldn,rfl,hn,hb⟩
  have HB3:=lH (HB2.out.trans (hb.mono HB2.out.size))
  have PB3:=lH (PB2.out.under hb (Holds.lt PB2.out))
  have QB3:=lH (QB2.out.under hb (Holds.lt QB2.out))
  have Nx3:=lH (Nx2.out.under hb)
  have Ny3:=lH (Ny2.out.under hb)
  have Nu3:=lH (Nu2.out.under hb)
  have Nv3:=lH (Nv2.out.under hb)
  have Nup3:=lH (Nup2.out.under hb)
  clear hb HB2 PB2 QB2 Nx2 Ny2 Nu2 Nv2 Nup2
  have Ndn3:=lH hn
  clear hn
  have HS3:Hid ((fun W=>Holds W w.heap.size 26 #[.slice A1 l1.length c1,.slice A2 l2.length c2,.bool false]∧Holds W (w.heap.size+1) 26 #[.slice B1 m1.length d1,.slice B2 m2.length d2,.bool false]∧True) W3):=lH ⟨PB3.out,QB3.out,trivial⟩
  go_simp
  refine hK.out _ _ (HS3.out) (fun _=>?_)
  clear hK K hHeld
  try simp only [aP]
  have hHeld:(fun W=>Holds W w.heap.size 26 #[.slice A1 l1.length c1,.slice A2 l2.length c2,.bool false]∧Holds W (w.heap.size+1) 26 #[.slice B1 m1.length d1,.slice B2 m2.length d2,.bool false]∧True) W3:=HS3.out
  refine tk 10 ⟨some 5,.assign (.tmp 13),24,_,_,none⟩ ?_ rfl ?_ hHeld ?_
  rotate_left 1
  ·(intro W hW;(try dsimp only at hW);go_simp;try with_reducible rfl)
  try simp only [aP]
  refine tk 11 ⟨some 6,.assign (.tmp 18),24,_,_,none⟩ ?_ rfl ?_ hHeld ?_
  rotate_left 1
  ·(intro W hW;(try dsimp only at hW);go_simp;try with_reducible rfl)
  try simp only [aP]
  refine wpAnyH_done (by kernel_rfl) ?_ _
  refine NoPanic.normal ?_
  have p0:=PB3.out.cell 0
  have p1:=PB3.out.cell 1
  have p2:=PB3.out.cell 2
  have q0:=QB3.out.cell 0
  have q1:=QB3.out.cell 1
  have q2:=QB3.out.cell 2
  go_wp2_with fail
  refine (sameR_no W3 Nx3.out Ny3.out Nu3.out Nv3.out HNE.out).mono ?_
  rintro e W4 ⟨rfl,hb⟩
  have HB4:=lH (HB3.out.trans (hb.mono HB3.out.size))
  have PB4:=lH (PB3.out.under hb (Holds.lt PB3.out))
  have QB4:=lH (QB3.out.under hb (Holds.lt QB3.out))
  have Nx4:=lH (Nx3.out.under hb)
  have Ny4:=lH (Ny3.out.under hb)
  have Nu4:=lH (Nu3.out.under hb)
  have Nv4:=lH (Nv3.out.under hb)
  have Nup4:=lH (Nup3.out.under hb)
  have Ndn4:=lH (Ndn3.out.under hb)
  clear hb HB3 PB3 QB3 Nx3 Ny3 Nu3 Nv3 Nup3 Ndn3
  clear p0 p1 p2 q0 q1 q2
  go_wp2_with fail
  refine (refP_any W4).mono ?_
  rintro e W4P ⟨gn,hgn,rfl,hN,hb⟩
  have HB4P:=lH (HB4.out.trans (hb.mono HB4.out.size))
  have PB4P:=lH (PB4.out.under hb (Holds.lt PB4.out))
  have QB4P:=lH (QB4.out.under hb (Holds.lt QB4.out))
  have Nx4P:=lH (Nx4.out.under hb)
  have Ny4P:=lH (Ny4.out.under hb)
  have Nu4P:=lH (Nu4.out.under hb)
  have Nv4P:=lH (Nv4.out.under hb)
  have Nup4P:=lH (Nup4.out.under hb)
  have Ndn4P:=lH (Ndn4.out.under hb)
  clear hb HB4 PB4 QB4 Nx4 Ny4 Nu4 Nv4 Nup4 Ndn4
  have HN4P:=lH hN
  clear hN hgn
  go_wp2_with fail
  refine (invRF W4P Ndn4P.out HDN.out HN4P.out).mono ?_
  rintro e W4Q ⟨Ai,ci,li,rfl,hn,hb⟩
  have HB4Q:=lH (HB4P.out.trans (hb.mono HB4P.out.size))
  have PB4Q:=lH (PB4P.out.under hb (Holds.lt PB4P.out))
  have QB4Q:=lH (QB4P.out.under hb (Holds.lt QB4P.out))
  have Nx4Q:=lH (Nx4P.out.under hb)
  have Ny4Q:=lH (Ny4P.out.under hb)
  have Nu4Q:=lH (Nu4P.out.under hb)
  have Nv4Q:=lH (Nv4P.out.under hb)
  have Nup4Q:=lH (Nup4P.out.under hb)
  have Ndn4Q:=lH (Ndn4P.out.under hb)
  clear hb HB4P PB4P QB4P Nx4P Ny4P Nu4P Nv4P Nup4P Ndn4P
  have Ni4Q:=lH hn
  clear hn HN4P
  go_wp2_with fail
  refine (mulRF W4Q Nup4Q.out Ni4Q.out).mono ?_
  rintro e W4R ⟨Ar,cr,lr,rfl,hn,hb⟩
  have HB4R:=lH (HB4Q.out.trans (hb.mono HB4Q.out.size))
  have PB4R:=lH (PB4Q.out.under hb (Holds.lt PB4Q.out))
  have QB4R:=lH (QB4Q.out.under hb (Holds.lt QB4Q.out))
  have Nx4R:=lH (Nx4Q.out.under hb)
  have Ny4R:=lH (Ny4Q.out.under hb)
  have Nu4R:=lH (Nu4Q.out.under hb)
  have Nv4R:=lH (Nv4Q.out.under hb)
  have Nup4R:=lH (Nup4Q.out.under hb)
  have Ndn4R:=lH (Ndn4Q.out.under hb)
  have Ni4R:=lH (Ni4Q.out.under hb)
  clear hb HB4Q PB4Q QB4Q Nx4Q Ny4Q Nu4Q Nv4Q Nup4Q Ndn4Q Ni4Q
  have Nr4R:=lH hn
  clear hn
  go_wp2_with fail
  go_ret
  exact ⟨Ar,cr,lr,rfl,HEQ.out ▸ Nr4R.out,HB4R.out⟩
end Go.Proofs.YtflfdglpljodbaaDoor
