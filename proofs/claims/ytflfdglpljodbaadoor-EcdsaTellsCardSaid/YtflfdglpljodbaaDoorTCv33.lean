/-
  The document: a sum.
-/
import Derived.Test.YtflfdglpljodbaaDoorTCv32
import Derived.Deep.RegionLaw
import Derived.Deep.RegionHeld3
import Derived.Deep.DrawnRows
namespace Go.Proofs.YtflfdglpljodbaaDoor
set_option maxRecDepth 100000
set_option maxHeartbeats 8000000
open Go.RowKit
set_option linter.unusedVariables false
set_option linter.unusedSimpArgs false
theorem addR_left (w:World) (A1 A2 B1 B2:Option Addr) (n1 c1 n2 c2 k1 d1 k2 d2:Nat) (jnf:Bool) :
  Calls Tryd.prog 17 #[.agg #[.slice A1 n1 c1,.slice A2 n2 c2,.bool true],.agg #[.slice B1 k1 d1,.slice B2 k2 d2,.bool jnf]] w fun e w'=>e = .returned (.agg #[.slice B1 k1 d1,.slice B2 k2 d2,.bool jnf])∧Below w.heap.size w w':=by
 have e:((w.alloc (.cells #[.slice A1 n1 c1,.slice A2 n2 c2,.bool true] 26)).alloc (.cells #[.slice B1 k1 d1,.slice B2 k2 d2,.bool jnf] 26)).heap.size=w.heap.size+1+1:=by simp
 have hR:=Holds.fresh ((w.alloc (.cells #[.slice A1 n1 c1,.slice A2 n2 c2,.bool true] 26)).alloc (.cells #[.slice B1 k1 d1,.slice B2 k2 d2,.bool jnf] 26)) 26 #[.slice B1 k1 d1,.slice B2 k2 d2,.bool jnf]
 rw [e] at hR
 clear e
 go_enter Tryd.func17,Tryd.ntmps17
 go_wp2_with fail
 exact ret_pt (g:=w.heap.size+1+1) rfl rfl hR rfl ⟨rfl,(((Below.refl _ _).alloc (Nat.le_refl _) _).alloc (by simp) _).alloc (by simp;omega) _⟩
theorem addR_right (w:World) (A1 A2 B1 B2:Option Addr) (n1 c1 n2 c2 k1 d1 k2 d2:Nat) :
  Calls Tryd.prog 17 #[.agg #[.slice A1 n1 c1,.slice A2 n2 c2,.bool false],.agg #[.slice B1 k1 d1,.slice B2 k2 d2,.bool true]] w fun e w'=>e = .returned (.agg #[.slice A1 n1 c1,.slice A2 n2 c2,.bool false])∧Below w.heap.size w w':=by
 have e:((w.alloc (.cells #[.slice A1 n1 c1,.slice A2 n2 c2,.bool false] 26)).alloc (.cells #[.slice B1 k1 d1,.slice B2 k2 d2,.bool true] 26)).heap.size=w.heap.size+1+1:=by simp
 have hR:=Holds.fresh ((w.alloc (.cells #[.slice A1 n1 c1,.slice A2 n2 c2,.bool false] 26)).alloc (.cells #[.slice B1 k1 d1,.slice B2 k2 d2,.bool true] 26)) 26 #[.slice A1 n1 c1,.slice A2 n2 c2,.bool false]
 rw [e] at hR
 clear e
 go_enter Tryd.func17,Tryd.ntmps17
 go_wp2_with fail
 exact ret_pt (g:=w.heap.size+1+1) rfl rfl hR rfl ⟨rfl,(((Below.refl _ _).alloc (Nat.le_refl _) _).alloc (by simp) _).alloc (by simp;omega) _⟩
theorem addR_opp (w:World) {x1 y1 x2 y2:Luc.F} {A1 A2 B1 B2:Option Addr} {c1 c2 d1 d2:Nat} {l1 l2 m1 m2:List Nat} (hx1:NR w A1 c1 l1 x1) (hy1:NR w A2 c2 l2 y1) (hx2:NR w B1 d1 m1 x2) (hy2:NR w B2 d2 m2 y2) (hx:x1=x2) (hy:y1+y2=0) :
  Calls Tryd.prog 17 #[.agg #[.slice A1 l1.length c1,.slice A2 l2.length c2,.bool false],.agg #[.slice B1 m1.length d1,.slice B2 m2.length d2,.bool false]] w (PtR none w):=by
 have HC:Hid (cmpL l1 m1=0):=lH (by
  have e:l1=m1:=num_one hx1.num (hx ▸ hx2.num)
  rw [←e]
  exact cmp_self hx1.num)
 have HY:=lH hy
 clear hx hy
 obtain ⟨w1,hw1⟩:∃ W,W=w.alloc (.cells #[.slice A1 l1.length c1,.slice A2 l2.length c2,.bool false] 26):=⟨_,rfl⟩
 have hz1:w1.heap.size=w.heap.size+1:=by rw [hw1];simp
 have hb1:Below w.heap.size w w1:=by rw [hw1];exact (Below.refl _ _).alloc (Nat.le_refl _) _
 obtain ⟨w2,hw2⟩:∃ W,W=w1.alloc (.cells #[.slice B1 m1.length d1,.slice B2 m2.length d2,.bool false] 26):=⟨_,rfl⟩
 have hz2:w2.heap.size=w.heap.size+1+1:=by rw [hw2];simp [hz1]
 have hb2:Below w.heap.size w w2:=by rw [hw2];exact hb1.alloc hb1.size _
 obtain ⟨W0,hw3⟩:∃ W,W=w2.alloc (.cells #[.slice none 0 0,.slice none 0 0,.bool false] 26):=⟨_,rfl⟩
 have hb3:Below w.heap.size w W0:=by rw [hw3];exact hb2.alloc hb2.size _
 have PB0:Hid (Holds W0 w.heap.size 26 #[.slice A1 l1.length c1,.slice A2 l2.length c2,.bool false]):=lH (by rw [hw3,hw2,hw1];exact ((Holds.fresh w _ _).alloc _).alloc _)
 have QB0:Hid (Holds W0 (w.heap.size+1) 26 #[.slice B1 m1.length d1,.slice B2 m2.length d2,.bool false]):=lH (by rw [hw3,hw2,←hz1];exact (Holds.fresh w1 _ _).alloc _)
 have RB0:Hid (Holds W0 (w.heap.size+1+1) 26 #[.slice none 0 0,.slice none 0 0,.bool false]):=lH (by rw [hw3,←hz2];exact Holds.fresh w2 _ _)
 have HB0:=lH hb3
 have HW:=lH (hw1 ▸ hw2 ▸ hw3:W0=((w.alloc (.cells #[.slice A1 l1.length c1,.slice A2 l2.length c2,.bool false] 26)).alloc (.cells #[.slice B1 m1.length d1,.slice B2 m2.length d2,.bool false] 26)).alloc (.cells #[.slice none 0 0,.slice none 0 0,.bool false] 26))
 have Nx0:=lH (hx1.under hb3)
 have Ny0:=lH (hy1.under hb3)
 have Nu0:=lH (hx2.under hb3)
 have Nv0:=lH (hy2.under hb3)
 clear hx1 hy1 hx2 hy2 hw1 hz1 hb1 hw2 hz2 hb2 hw3 hb3
 go_enter Tryd.func17,Tryd.ntmps17
 go_wp2_with fail
 rw [←HW.out]
 clear HW
 have p0:=PB0.out.cell 0
 have p1:=PB0.out.cell 1
 have p2:=PB0.out.cell 2
 have q0:=QB0.out.cell 0
 have q1:=QB0.out.cell 1
 have q2:=QB0.out.cell 2
 go_wp2_with fail
 refine (cmp'_any W0 _ _ A1 B1 c1 d1 l1 m1 Nx0.out.rd Nu0.out.rd 0 HC.out).mono ?_
 rintro e W1 ⟨rfl,q,hq⟩
 have hb:Below W0.heap.size W0 W1:=by rw [hq];exact bdN (Below.refl _ _) q
 have HB1:=lH (HB0.out.trans (hb.mono HB0.out.size))
 have PB1:=lH (PB0.out.under hb (Holds.lt PB0.out))
 have QB1:=lH (QB0.out.under hb (Holds.lt QB0.out))
 have RB1:=lH (RB0.out.under hb (Holds.lt RB0.out))
 have Nx1:=lH (Nx0.out.under hb)
 have Ny1:=lH (Ny0.out.under hb)
 have Nu1:=lH (Nu0.out.under hb)
 have Nv1:=lH (Nv0.out.under hb)
 clear hb HB0 PB0 QB0 RB0 Nx0 Ny0 Nu0 Nv0
 clear hq p0 p1 p2 q0 q1 q2
 have p0:=PB1.out.cell 0
 have p1:=PB1.out.cell 1
 have p2:=PB1.out.cell 2
 have q0:=QB1.out.cell 0
 have q1:=QB1.out.cell 1
 have q2:=QB1.out.cell 2
 go_wp2_with fail
 refine (addRF W1 Ny1.out Nv1.out).mono ?_
 rintro e W2 ⟨Az,cz,lz,rfl,hn,hb⟩
 have HB2:=lH (HB1.out.trans (hb.mono HB1.out.size))
 have PB2:=lH (PB1.out.under hb (Holds.lt PB1.out))
 have QB2:=lH (QB1.out.under hb (Holds.lt QB1.out))
 have RB2:=lH (RB1.out.under hb (Holds.lt RB1.out))
 have Nx2:=lH (Nx1.out.under hb)
 have Ny2:=lH (Ny1.out.under hb)
 have Nu2:=lH (Nu1.out.under hb)
 have Nv2:=lH (Nv1.out.under hb)
 clear hb HB1 PB1 QB1 RB1 Nx1 Ny1 Nu1 Nv1
 have Nz2:=lH hn
 clear hn
 clear p0 p1 p2 q0 q1 q2
 have e0:lz.length=0:=Nz2.out.zero_iff.2 HY.out
 have t1:((lz.length:Int) == 0)=true:=by rw [beq_iff_eq];omega
 have t2:decide ((lz.length:Int)=0)=true:=decide_eq_true (by omega)
 clear e0
 have r0:=RB2.out.cell 0
 have r1:=RB2.out.cell 1
 have r2:=RB2.out.cell 2
 have or0:=RB2.out.open_ 0
 have or1:=RB2.out.open_ 1
 have or2:=RB2.out.open_ 2
 go_wp2_with fail
 exact ret_pt (g:=w.heap.size+1+1) rfl rfl (set3 RB2.out _ _ _) rfl ⟨none,0,[],none,0,[],true,rfl,PtV.none _,below3 HB2.out (by omega) _ _ _⟩
theorem addR_same (w:World) {x1 y1 x2 y2:Luc.F} {A1 A2 B1 B2:Option Addr} {c1 c2 d1 d2:Nat} {l1 l2 m1 m2:List Nat} (hx1:NR w A1 c1 l1 x1) (hy1:NR w A2 c2 l2 y1) (hx2:NR w B1 d1 m1 x2) (hy2:NR w B2 d2 m2 y2) (hx:x1=x2) (hy:y1+y2≠0) (h12:y1=y2) :
  Calls Tryd.prog 17 #[.agg #[.slice A1 l1.length c1,.slice A2 l2.length c2,.bool false],.agg #[.slice B1 m1.length d1,.slice B2 m2.length d2,.bool false]] w (PtR (some (Luc.third (Luc.sl x1 y1 x2 y2) x1 y1 x2 y2)) w):=by
 have HC:Hid (cmpL l1 m1=0):=lH (by
  have e:l1=m1:=num_one hx1.num (hx ▸ hx2.num)
  rw [←e]
  exact cmp_self hx1.num)
 have HY:=lH hy
 have HN:Hid (¬ (x1=x2∧y1+y2=0)):=lH fun e=>hy e.2
 have H12:Hid (x1=x2→y1=y2):=lH fun _=>h12
 clear hx hy h12
 obtain ⟨w1,hw1⟩:∃ W,W=w.alloc (.cells #[.slice A1 l1.length c1,.slice A2 l2.length c2,.bool false] 26):=⟨_,rfl⟩
 have hz1:w1.heap.size=w.heap.size+1:=by rw [hw1];simp
 have hb1:Below w.heap.size w w1:=by rw [hw1];exact (Below.refl _ _).alloc (Nat.le_refl _) _
 obtain ⟨w2,hw2⟩:∃ W,W=w1.alloc (.cells #[.slice B1 m1.length d1,.slice B2 m2.length d2,.bool false] 26):=⟨_,rfl⟩
 have hz2:w2.heap.size=w.heap.size+1+1:=by rw [hw2];simp [hz1]
 have hb2:Below w.heap.size w w2:=by rw [hw2];exact hb1.alloc hb1.size _
 obtain ⟨W0,hw3⟩:∃ W,W=w2.alloc (.cells #[.slice none 0 0,.slice none 0 0,.bool false] 26):=⟨_,rfl⟩
 have hb3:Below w.heap.size w W0:=by rw [hw3];exact hb2.alloc hb2.size _
 have PB0:Hid (Holds W0 w.heap.size 26 #[.slice A1 l1.length c1,.slice A2 l2.length c2,.bool false]):=lH (by rw [hw3,hw2,hw1];exact ((Holds.fresh w _ _).alloc _).alloc _)
 have QB0:Hid (Holds W0 (w.heap.size+1) 26 #[.slice B1 m1.length d1,.slice B2 m2.length d2,.bool false]):=lH (by rw [hw3,hw2,←hz1];exact (Holds.fresh w1 _ _).alloc _)
 have RB0:Hid (Holds W0 (w.heap.size+1+1) 26 #[.slice none 0 0,.slice none 0 0,.bool false]):=lH (by rw [hw3,←hz2];exact Holds.fresh w2 _ _)
 have HB0:=lH hb3
 have HW:=lH (hw1 ▸ hw2 ▸ hw3:W0=((w.alloc (.cells #[.slice A1 l1.length c1,.slice A2 l2.length c2,.bool false] 26)).alloc (.cells #[.slice B1 m1.length d1,.slice B2 m2.length d2,.bool false] 26)).alloc (.cells #[.slice none 0 0,.slice none 0 0,.bool false] 26))
 have Nx0:=lH (hx1.under hb3)
 have Ny0:=lH (hy1.under hb3)
 have Nu0:=lH (hx2.under hb3)
 have Nv0:=lH (hy2.under hb3)
 clear hx1 hy1 hx2 hy2 hw1 hz1 hb1 hw2 hz2 hb2 hw3 hb3
 go_enter Tryd.func17,Tryd.ntmps17
 go_wp2_with fail
 rw [←HW.out]
 clear HW
 have p0:=PB0.out.cell 0
 have p1:=PB0.out.cell 1
 have p2:=PB0.out.cell 2
 have q0:=QB0.out.cell 0
 have q1:=QB0.out.cell 1
 have q2:=QB0.out.cell 2
 go_wp2_with fail
 refine (cmp'_any W0 _ _ A1 B1 c1 d1 l1 m1 Nx0.out.rd Nu0.out.rd 0 HC.out).mono ?_
 rintro e W1 ⟨rfl,q,hq⟩
 have hb:Below W0.heap.size W0 W1:=by rw [hq];exact bdN (Below.refl _ _) q
 have HB1:=lH (HB0.out.trans (hb.mono HB0.out.size))
 have PB1:=lH (PB0.out.under hb (Holds.lt PB0.out))
 have QB1:=lH (QB0.out.under hb (Holds.lt QB0.out))
 have RB1:=lH (RB0.out.under hb (Holds.lt RB0.out))
 have Nx1:=lH (Nx0.out.under hb)
 have Ny1:=lH (Ny0.out.under hb)
 have Nu1:=lH (Nu0.out.under hb)
 have Nv1:=lH (Nv0.out.under hb)
 clear hb HB0 PB0 QB0 RB0 Nx0 Ny0 Nu0 Nv0
 clear hq p0 p1 p2 q0 q1 q2
 have p0:=PB1.out.cell 0
 have p1:=PB1.out.cell 1
 have p2:=PB1.out.cell 2
 have q0:=QB1.out.cell 0
 have q1:=QB1.out.cell 1
 have q2:=QB1.out.cell 2
 go_wp2_with fail
 refine (addRF W1 Ny1.out Nv1.out).mono ?_
 rintro e W2 ⟨Az,cz,lz,rfl,hn,hb⟩
 have HB2:=lH (HB1.out.trans (hb.mono HB1.out.size))
 have PB2:=lH (PB1.out.under hb (Holds.lt PB1.out))
 have QB2:=lH (QB1.out.under hb (Holds.lt QB1.out))
 have RB2:=lH (RB1.out.under hb (Holds.lt RB1.out))
 have Nx2:=lH (Nx1.out.under hb)
 have Ny2:=lH (Ny1.out.under hb)
 have Nu2:=lH (Nu1.out.under hb)
 have Nv2:=lH (Nv1.out.under hb)
 clear hb HB1 PB1 QB1 RB1 Nx1 Ny1 Nu1 Nv1
 have Nz2:=lH hn
 clear hn
 clear p0 p1 p2 q0 q1 q2
 have e0:¬ lz.length=0:=fun e=>HY.out (Nz2.out.zero_iff.1 e)
 have t1:((lz.length:Int) == 0)=false:=by rw [beq_eq_false_iff_ne];omega
 have t2:decide ((lz.length:Int)=0)=false:=decide_eq_false (by omega)
 clear e0
 clear Nz2
 have p0:=PB2.out.cell 0
 have p1:=PB2.out.cell 1
 have p2:=PB2.out.cell 2
 have q0:=QB2.out.cell 0
 have q1:=QB2.out.cell 1
 have q2:=QB2.out.cell 2
 go_wp2_with fail
 refine (slopeR_any W2 Nx2.out Ny2.out Nu2.out Nv2.out HN.out H12.out).mono ?_
 rintro e W3 ⟨As,cs,ls,rfl,hn,hb⟩
 have HB3:=lH (HB2.out.trans (hb.mono HB2.out.size))
 have PB3:=lH (PB2.out.under hb (Holds.lt PB2.out))
 have QB3:=lH (QB2.out.under hb (Holds.lt QB2.out))
 have RB3:=lH (RB2.out.under hb (Holds.lt RB2.out))
 have Nx3:=lH (Nx2.out.under hb)
 have Ny3:=lH (Ny2.out.under hb)
 have Nu3:=lH (Nu2.out.under hb)
 have Nv3:=lH (Nv2.out.under hb)
 clear hb HB2 PB2 QB2 RB2 Nx2 Ny2 Nu2 Nv2
 obtain ⟨sv,hsv⟩:∃ v_,v_=Luc.sl x1 y1 x2 y2:=⟨_,rfl⟩
 rw [←hsv] at hn
 have HSV:=lH hsv
 have Ns3:=lH hn
 clear hn hsv
 clear p0 p1 p2 q0 q1 q2
 go_wp2_with fail
 refine wp_region_noPanic ?_
 refine wp_region_held_drew (S:=fun W=>Holds W w.heap.size 26 #[.slice A1 l1.length c1,.slice A2 l2.length c2,.bool false]∧Holds W (w.heap.size+1) 26 #[.slice B1 m1.length d1,.slice B2 m2.length d2,.bool false]∧True) (by kernel_rfl) (⟨PB3.out,QB3.out,trivial⟩) (fun hHeld=>?_)
 obtain ⟨W4,hV⟩:∃ W,W=W3.drew:=⟨_,rfl⟩
 rw [←hV]
 have hb:Below W3.heap.size W3 W4:=by rw [hV];exact (Below.refl _ W3).drew
 have HB4:=lH (HB3.out.trans (hb.mono HB3.out.size))
 have PB4:=lH (PB3.out.under hb (Holds.lt PB3.out))
 have QB4:=lH (QB3.out.under hb (Holds.lt QB3.out))
 have RB4:=lH (RB3.out.under hb (Holds.lt RB3.out))
 have Nx4:=lH (Nx3.out.under hb)
 have Ny4:=lH (Ny3.out.under hb)
 have Nu4:=lH (Nu3.out.under hb)
 have Nv4:=lH (Nv3.out.under hb)
 have Ns4:=lH (Ns3.out.under hb)
 clear hb HB3 PB3 QB3 RB3 Nx3 Ny3 Nu3 Nv3 Ns3
 have HS4:Hid ((fun W=>Holds W w.heap.size 26 #[.slice A1 l1.length c1,.slice A2 l2.length c2,.bool false]∧Holds W (w.heap.size+1) 26 #[.slice B1 m1.length d1,.slice B2 m2.length d2,.bool false]∧True) W4):=lH ⟨PB4.out,QB4.out,trivial⟩
 replace hHeld:(fun W=>Holds W w.heap.size 26 #[.slice A1 l1.length c1,.slice A2 l2.length c2,.bool false]∧Holds W (w.heap.size+1) 26 #[.slice B1 m1.length d1,.slice B2 m2.length d2,.bool false]∧True) W4:=HS4.out
 clear hV
 refine tk 0 ⟨some 35,.move (.tmp 5),24,_,_,none⟩ ?_ rfl ?_ hHeld ?_
 rotate_left 1
 ·(intro W hW;(try dsimp only at hW);go_simp;try with_reducible rfl)
 try simp only [aP]
 refine tk 1 ⟨some 36,.move (.tmp 5),24,_,_,none⟩ ?_ rfl ?_ hHeld ?_
 rotate_left 1
 ·(intro W hW;(try dsimp only at hW);go_simp;try with_reducible rfl)
 try simp only [aP]
 refine tk 3 ⟨some 38,.fieldAddr 26 (.tmp 2) 0,0,_,_,none⟩ ?_ rfl ?_ hHeld ?_
 rotate_left 1
 ·(intro W hW;(try dsimp only at hW);go_simp;try with_reducible rfl)
 try simp only [aP]
 refine tk 4 ⟨some 39,.load 24 (.tmp 38),24,_,_,none⟩ ?_ rfl ?_ hHeld ?_
 rotate_left 1
 ·(intro W hW;have hcc:=hW.1.cell 0;(try dsimp only at hW);go_simp;try with_reducible rfl)
 try simp only [aP]
 refine tk 6 ⟨some 41,.fieldAddr 26 (.tmp 3) 0,0,_,_,none⟩ ?_ rfl ?_ hHeld ?_
 rotate_left 1
 ·(intro W hW;(try dsimp only at hW);go_simp;try with_reducible rfl)
 try simp only [aP]
 refine tk 7 ⟨some 42,.load 24 (.tmp 41),24,_,_,none⟩ ?_ rfl ?_ hHeld ?_
 rotate_left 1
 ·(intro W hW;have hcc:=hW.2.1.cell 0;(try dsimp only at hW);go_simp;try with_reducible rfl)
 try simp only [aP]
 refine rdy 2 ⟨some 37,.call ⟨ .value (.func 46),#[.tmp 35,.tmp 36],#[24,24]⟩,24,_,_,none⟩ rfl (fun K hK=>?_)
 go_simp
 refine (mulRF W4 Ns4.out Ns4.out).mono ?_
 rintro e W5 ⟨Ass,css,lss,rfl,hn,hb⟩
 have HB5:=lH (HB4.out.trans (hb.mono HB4.out.size))
 have PB5:=lH (PB4.out.under hb (Holds.lt PB4.out))
 have QB5:=lH (QB4.out.under hb (Holds.lt QB4.out))
 have RB5:=lH (RB4.out.under hb (Holds.lt RB4.out))
 have Nx5:=lH (Nx4.out.under hb)
 have Ny5:=lH (Ny4.out.under hb)
 have Nu5:=lH (Nu4.out.under hb)
 have Nv5:=lH (Nv4.out.under hb)
 have Ns5:=lH (Ns4.out.under hb)
 clear hb HB4 PB4 QB4 RB4 Nx4 Ny4 Nu4 Nv4 Ns4
 have Nss5:=lH hn
 clear hn
 have HS5:Hid ((fun W=>Holds W w.heap.size 26 #[.slice A1 l1.length c1,.slice A2 l2.length c2,.bool false]∧Holds W (w.heap.size+1) 26 #[.slice B1 m1.length d1,.slice B2 m2.length d2,.bool false]∧True) W5):=lH ⟨PB5.out,QB5.out,trivial⟩
 go_simp
 refine hK.out _ _ (HS5.out) (fun _=>?_)
 clear hK K hHeld
 try simp only [aP]
 have hHeld:(fun W=>Holds W w.heap.size 26 #[.slice A1 l1.length c1,.slice A2 l2.length c2,.bool false]∧Holds W (w.heap.size+1) 26 #[.slice B1 m1.length d1,.slice B2 m2.length d2,.bool false]∧True) W5:=HS5.out
 refine rdy 5 ⟨some 40,.call ⟨ .value (.func 48),#[.tmp 37,.tmp 39],#[24,24]⟩,24,_,_,none⟩ rfl (fun K hK=>?_)
 go_simp
 refine (subRF W5 Nss5.out Nx5.out).mono ?_
 rintro e W6 ⟨As1,cs1,ls1,rfl,hn,hb⟩
 have HB6:=lH (HB5.out.trans (hb.mono HB5.out.size))
 have PB6:=lH (PB5.out.under hb (Holds.lt PB5.out))
 have QB6:=lH (QB5.out.under hb (Holds.lt QB5.out))
 have RB6:=lH (RB5.out.under hb (Holds.lt RB5.out))
 have Nx6:=lH (Nx5.out.under hb)
 have Ny6:=lH (Ny5.out.under hb)
 have Nu6:=lH (Nu5.out.under hb)
 have Nv6:=lH (Nv5.out.under hb)
 have Ns6:=lH (Ns5.out.under hb)
 have Nss6:=lH (Nss5.out.under hb)
 clear hb HB5 PB5 QB5 RB5 Nx5 Ny5 Nu5 Nv5 Ns5 Nss5
 have Ns16:=lH hn
 clear hn
 have HS6:Hid ((fun W=>Holds W w.heap.size 26 #[.slice A1 l1.length c1,.slice A2 l2.length c2,.bool false]∧Holds W (w.heap.size+1) 26 #[.slice B1 m1.length d1,.slice B2 m2.length d2,.bool false]∧True) W6):=lH ⟨PB6.out,QB6.out,trivial⟩
 go_simp
 refine hK.out _ _ (HS6.out) (fun _=>?_)
 clear hK K hHeld
 try simp only [aP]
 have hHeld:(fun W=>Holds W w.heap.size 26 #[.slice A1 l1.length c1,.slice A2 l2.length c2,.bool false]∧Holds W (w.heap.size+1) 26 #[.slice B1 m1.length d1,.slice B2 m2.length d2,.bool false]∧True) W6:=HS6.out
 refine rdy 8 ⟨some 43,.call ⟨ .value (.func 48),#[.tmp 40,.tmp 42],#[24,24]⟩,24,_,_,none⟩ rfl (fun K hK=>?_)
 go_simp
 refine (subRF W6 Ns16.out Nu6.out).mono ?_
 rintro e W7 ⟨AX,cX,lX,rfl,hn,hb⟩
 have HB7:=lH (HB6.out.trans (hb.mono HB6.out.size))
 have PB7:=lH (PB6.out.under hb (Holds.lt PB6.out))
 have QB7:=lH (QB6.out.under hb (Holds.lt QB6.out))
 have RB7:=lH (RB6.out.under hb (Holds.lt RB6.out))
 have Nx7:=lH (Nx6.out.under hb)
 have Ny7:=lH (Ny6.out.under hb)
 have Nu7:=lH (Nu6.out.under hb)
 have Nv7:=lH (Nv6.out.under hb)
 have Ns7:=lH (Ns6.out.under hb)
 have Nss7:=lH (Nss6.out.under hb)
 have Ns17:=lH (Ns16.out.under hb)
 clear hb HB6 PB6 QB6 RB6 Nx6 Ny6 Nu6 Nv6 Ns6 Nss6 Ns16
 have NX7:=lH hn
 clear hn
 have HS7:Hid ((fun W=>Holds W w.heap.size 26 #[.slice A1 l1.length c1,.slice A2 l2.length c2,.bool false]∧Holds W (w.heap.size+1) 26 #[.slice B1 m1.length d1,.slice B2 m2.length d2,.bool false]∧True) W7):=lH ⟨PB7.out,QB7.out,trivial⟩
 go_simp
 refine hK.out _ _ (HS7.out) (fun _=>?_)
 clear hK K hHeld
 try simp only [aP]
 have hHeld:(fun W=>Holds W w.heap.size 26 #[.slice A1 l1.length c1,.slice A2 l2.length c2,.bool false]∧Holds W (w.heap.size+1) 26 #[.slice B1 m1.length d1,.slice B2 m2.length d2,.bool false]∧True) W7:=HS7.out
 refine tk 9 ⟨some 6,.assign (.tmp 43),24,_,_,none⟩ ?_ rfl ?_ hHeld ?_
 rotate_left 1
 ·(intro W hW;(try dsimp only at hW);go_simp;try with_reducible rfl)
 try simp only [aP]
 refine wpAnyH_done (by kernel_rfl) ?_ _
 refine NoPanic.normal ?_
 clear Nss7 Ns17
 go_wp2_with fail
 refine wp_region_noPanic ?_
 refine wp_region_held_drew (S:=fun W=>Holds W w.heap.size 26 #[.slice A1 l1.length c1,.slice A2 l2.length c2,.bool false]∧Holds W (w.heap.size+1) 26 #[.slice B1 m1.length d1,.slice B2 m2.length d2,.bool false]∧True) (by kernel_rfl) (⟨PB7.out,QB7.out,trivial⟩) (fun hHeld=>?_)
 obtain ⟨W8,hV⟩:∃ W,W=W7.drew:=⟨_,rfl⟩
 rw [←hV]
 have hb:Below W7.heap.size W7 W8:=by rw [hV];exact (Below.refl _ W7).drew
 have HB8:=lH (HB7.out.trans (hb.mono HB7.out.size))
 have PB8:=lH (PB7.out.under hb (Holds.lt PB7.out))
 have QB8:=lH (QB7.out.under hb (Holds.lt QB7.out))
 have RB8:=lH (RB7.out.under hb (Holds.lt RB7.out))
 have Nx8:=lH (Nx7.out.under hb)
 have Ny8:=lH (Ny7.out.under hb)
 have Nu8:=lH (Nu7.out.under hb)
 have Nv8:=lH (Nv7.out.under hb)
 have Ns8:=lH (Ns7.out.under hb)
 have NX8:=lH (NX7.out.under hb)
 clear hb HB7 PB7 QB7 RB7 Nx7 Ny7 Nu7 Nv7 Ns7 NX7
 have HS8:Hid ((fun W=>Holds W w.heap.size 26 #[.slice A1 l1.length c1,.slice A2 l2.length c2,.bool false]∧Holds W (w.heap.size+1) 26 #[.slice B1 m1.length d1,.slice B2 m2.length d2,.bool false]∧True) W8):=lH ⟨PB8.out,QB8.out,trivial⟩
 replace hHeld:(fun W=>Holds W w.heap.size 26 #[.slice A1 l1.length c1,.slice A2 l2.length c2,.bool false]∧Holds W (w.heap.size+1) 26 #[.slice B1 m1.length d1,.slice B2 m2.length d2,.bool false]∧True) W8:=HS8.out
 clear hV
 refine tk 0 ⟨some 44,.move (.tmp 6),24,_,_,none⟩ ?_ rfl ?_ hHeld ?_
 rotate_left 1
 ·(intro W hW;(try dsimp only at hW);go_simp;try with_reducible rfl)
 try simp only [aP]
 refine tk 1 ⟨some 45,.move (.tmp 5),24,_,_,none⟩ ?_ rfl ?_ hHeld ?_
 rotate_left 1
 ·(intro W hW;(try dsimp only at hW);go_simp;try with_reducible rfl)
 try simp only [aP]
 refine tk 2 ⟨some 46,.fieldAddr 26 (.tmp 2) 0,0,_,_,none⟩ ?_ rfl ?_ hHeld ?_
 rotate_left 1
 ·(intro W hW;(try dsimp only at hW);go_simp;try with_reducible rfl)
 try simp only [aP]
 refine tk 3 ⟨some 47,.load 24 (.tmp 46),24,_,_,none⟩ ?_ rfl ?_ hHeld ?_
 rotate_left 1
 ·(intro W hW;have hcc:=hW.1.cell 0;(try dsimp only at hW);go_simp;try with_reducible rfl)
 try simp only [aP]
 refine tk 4 ⟨some 48,.move (.tmp 6),24,_,_,none⟩ ?_ rfl ?_ hHeld ?_
 rotate_left 1
 ·(intro W hW;(try dsimp only at hW);go_simp;try with_reducible rfl)
 try simp only [aP]
 refine tk 7 ⟨some 51,.fieldAddr 26 (.tmp 2) 1,0,_,_,none⟩ ?_ rfl ?_ hHeld ?_
 rotate_left 1
 ·(intro W hW;(try dsimp only at hW);go_simp;try with_reducible rfl)
 try simp only [aP]
 refine tk 8 ⟨some 52,.load 24 (.tmp 51),24,_,_,none⟩ ?_ rfl ?_ hHeld ?_
 rotate_left 1
 ·(intro W hW;have hcc:=hW.1.cell 1;(try dsimp only at hW);go_simp;try with_reducible rfl)
 try simp only [aP]
 refine rdy 5 ⟨some 49,.call ⟨ .value (.func 48),#[.tmp 47,.tmp 48],#[24,24]⟩,24,_,_,none⟩ rfl (fun K hK=>?_)
 go_simp
 refine (subRF W8 Nx8.out NX8.out).mono ?_
 rintro e W9 ⟨At1,ct1,lt1,rfl,hn,hb⟩
 have HB9:=lH (HB8.out.trans (hb.mono HB8.out.size))
 have PB9:=lH (PB8.out.under hb (Holds.lt PB8.out))
 have QB9:=lH (QB8.out.under hb (Holds.lt QB8.out))
 have RB9:=lH (RB8.out.under hb (Holds.lt RB8.out))
 have Nx9:=lH (Nx8.out.under hb)
 have Ny9:=lH (Ny8.out.under hb)
 have Nu9:=lH (Nu8.out.under hb)
 have Nv9:=lH (Nv8.out.under hb)
 have Ns9:=lH (Ns8.out.under hb)
 have NX9:=lH (NX8.out.under hb)
 clear hb HB8 PB8 QB8 RB8 Nx8 Ny8 Nu8 Nv8 Ns8 NX8
 have Nt19:=lH hn
 clear hn
 have HS9:Hid ((fun W=>Holds W w.heap.size 26 #[.slice A1 l1.length c1,.slice A2 l2.length c2,.bool false]∧Holds W (w.heap.size+1) 26 #[.slice B1 m1.length d1,.slice B2 m2.length d2,.bool false]∧True) W9):=lH ⟨PB9.out,QB9.out,trivial⟩
 go_simp
 refine hK.out _ _ (HS9.out) (fun _=>?_)
 clear hK K hHeld
 try simp only [aP]
 have hHeld:(fun W=>Holds W w.heap.size 26 #[.slice A1 l1.length c1,.slice A2 l2.length c2,.bool false]∧Holds W (w.heap.size+1) 26 #[.slice B1 m1.length d1,.slice B2 m2.length d2,.bool false]∧True) W9:=HS9.out
 refine rdy 6 ⟨some 50,.call ⟨ .value (.func 46),#[.tmp 45,.tmp 49],#[24,24]⟩,24,_,_,none⟩ rfl (fun K hK=>?_)
 go_simp
 refine (mulRF W9 Ns9.out Nt19.out).mono ?_
 rintro e W10 ⟨At2,ct2,lt2,rfl,hn,hb⟩
 have HB10:=lH (HB9.out.trans (hb.mono HB9.out.size))
 have PB10:=lH (PB9.out.under hb (Holds.lt PB9.out))
 have QB10:=lH (QB9.out.under hb (Holds.lt QB9.out))
 have RB10:=lH (RB9.out.under hb (Holds.lt RB9.out))
 have Nx10:=lH (Nx9.out.under hb)
 have Ny10:=lH (Ny9.out.under hb)
 have Nu10:=lH (Nu9.out.under hb)
 have Nv10:=lH (Nv9.out.under hb)
 have Ns10:=lH (Ns9.out.under hb)
 have NX10:=lH (NX9.out.under hb)
 have Nt110:=lH (Nt19.out.under hb)
 clear hb HB9 PB9 QB9 RB9 Nx9 Ny9 Nu9 Nv9 Ns9 NX9 Nt19
 have Nt210:=lH hn
 clear hn
 have HS10:Hid ((fun W=>Holds W w.heap.size 26 #[.slice A1 l1.length c1,.slice A2 l2.length c2,.bool false]∧Holds W (w.heap.size+1) 26 #[.slice B1 m1.length d1,.slice B2 m2.length d2,.bool false]∧True) W10):=lH ⟨PB10.out,QB10.out,trivial⟩
 go_simp
 refine hK.out _ _ (HS10.out) (fun _=>?_)
 clear hK K hHeld
 try simp only [aP]
 have hHeld:(fun W=>Holds W w.heap.size 26 #[.slice A1 l1.length c1,.slice A2 l2.length c2,.bool false]∧Holds W (w.heap.size+1) 26 #[.slice B1 m1.length d1,.slice B2 m2.length d2,.bool false]∧True) W10:=HS10.out
 refine rdy 9 ⟨some 53,.call ⟨ .value (.func 48),#[.tmp 50,.tmp 52],#[24,24]⟩,24,_,_,none⟩ rfl (fun K hK=>?_)
 go_simp
 refine (subRF W10 Nt210.out Ny10.out).mono ?_
 rintro e W11 ⟨AY,cY,lY,rfl,hn,hb⟩
 have HB11:=lH (HB10.out.trans (hb.mono HB10.out.size))
 have PB11:=lH (PB10.out.under hb (Holds.lt PB10.out))
 have QB11:=lH (QB10.out.under hb (Holds.lt QB10.out))
 have RB11:=lH (RB10.out.under hb (Holds.lt RB10.out))
 have Nx11:=lH (Nx10.out.under hb)
 have Ny11:=lH (Ny10.out.under hb)
 have Nu11:=lH (Nu10.out.under hb)
 have Nv11:=lH (Nv10.out.under hb)
 have Ns11:=lH (Ns10.out.under hb)
 have NX11:=lH (NX10.out.under hb)
 have Nt111:=lH (Nt110.out.under hb)
 have Nt211:=lH (Nt210.out.under hb)
 clear hb HB10 PB10 QB10 RB10 Nx10 Ny10 Nu10 Nv10 Ns10 NX10 Nt110 Nt210
 have NY11:=lH hn
 clear hn
 have HS11:Hid ((fun W=>Holds W w.heap.size 26 #[.slice A1 l1.length c1,.slice A2 l2.length c2,.bool false]∧Holds W (w.heap.size+1) 26 #[.slice B1 m1.length d1,.slice B2 m2.length d2,.bool false]∧True) W11):=lH ⟨PB11.out,QB11.out,trivial⟩
 go_simp
 refine hK.out _ _ (HS11.out) (fun _=>?_)
 clear hK K hHeld
 try simp only [aP]
 have hHeld:(fun W=>Holds W w.heap.size 26 #[.slice A1 l1.length c1,.slice A2 l2.length c2,.bool false]∧Holds W (w.heap.size+1) 26 #[.slice B1 m1.length d1,.slice B2 m2.length d2,.bool false]∧True) W11:=HS11.out
 refine tk 10 ⟨some 54,.build 26 #[(0,.tmp 44),(1,.tmp 53)],26,_,_,none⟩ ?_ rfl ?_ hHeld ?_
 rotate_left 1
 ·(intro W hW;(try dsimp only at hW);go_simp;try with_reducible rfl)
 try simp only [aP]
 refine rdy 11 ⟨none,.store 26 (.tmp 4) (.tmp 54),0,_,_,none⟩ rfl (fun K hK=>?_)
 have r0:=RB11.out.cell 0
 have r1:=RB11.out.cell 1
 have r2:=RB11.out.cell 2
 have or0:=RB11.out.open_ 0
 have or1:=RB11.out.open_ 1
 have or2:=RB11.out.open_ 2
 obtain ⟨VL,hN⟩:∃ W,W=(((W11.setCell ⟨(w.heap.size+1+1),0,none⟩ (.slice AX lX.length cX)).setCell ⟨(w.heap.size+1+1),1,none⟩ (.slice AY lY.length cY)).setCell ⟨(w.heap.size+1+1),2,none⟩ (.bool false)):=⟨_,rfl⟩
 go_simp
 rw [←hN]
 have HRL:Hid (Holds VL (w.heap.size+1+1) 26 #[.slice AX lX.length cX,.slice AY lY.length cY,.bool false]):=lH (by rw [hN];exact set3 RB11.out _ _ _)
 have HBL:Hid (Below w.heap.size w VL):=lH (by rw [hN];exact below3 HB11.out (by omega) _ _ _)
 have HSL:Hid ((fun W=>Holds W w.heap.size 26 #[.slice A1 l1.length c1,.slice A2 l2.length c2,.bool false]∧Holds W (w.heap.size+1) 26 #[.slice B1 m1.length d1,.slice B2 m2.length d2,.bool false]∧True) VL):=lH ⟨by rw [hN];exact holds_aside3 PB11.out (k:=(w.heap.size+1+1)) (by omega) _ _ _,by rw [hN];exact holds_aside3 QB11.out (k:=(w.heap.size+1+1)) (by omega) _ _ _,trivial⟩
 have HV:Hid (PtV (some (sv*sv - x1 - x2,sv*(x1 - (sv*sv - x1 - x2)) - y1)) VL AX cX lX AY cY lY false):=lH ⟨rfl,by rw [hN];exact NX11.out.store3 RB11.out no_numsP _ _ _,by rw [hN];exact NY11.out.store3 RB11.out no_numsP _ _ _⟩
 clear hN r0 r1 r2 or0 or1 or2
 refine hK.out _ _ (HSL.out) (fun _=>?_)
 clear hK K hHeld
 try simp only [aP]
 have hHeld:(fun W=>Holds W w.heap.size 26 #[.slice A1 l1.length c1,.slice A2 l2.length c2,.bool false]∧Holds W (w.heap.size+1) 26 #[.slice B1 m1.length d1,.slice B2 m2.length d2,.bool false]∧True) VL:=HSL.out
 refine wpAnyH_done (by kernel_rfl) ?_ _
 refine NoPanic.normal ?_
 go_wp2_with fail
 have HT:Hid (PtV (some (Luc.third (Luc.sl x1 y1 x2 y2) x1 y1 x2 y2)) VL AX cX lX AY cY lY false):=lH (by rw [←HSV.out];exact HV.out)
 exact ret_pt (g:=w.heap.size+1+1) rfl rfl HRL.out rfl ⟨AX,cX,lX,AY,cY,lY,false,rfl,HT.out,HBL.out⟩
theorem addR_far (w:World) {x1 y1 x2 y2:Luc.F} {A1 A2 B1 B2:Option Addr} {c1 c2 d1 d2:Nat} {l1 l2 m1 m2:List Nat} (hx1:NR w A1 c1 l1 x1) (hy1:NR w A2 c2 l2 y1) (hx2:NR w B1 d1 m1 x2) (hy2:NR w B2 d2 m2 y2) (hx:x1≠x2) :
  Calls Tryd.prog 17 #[.agg #[.slice A1 l1.length c1,.slice A2 l2.length c2,.bool false],.agg #[.slice B1 m1.length d1,.slice B2 m2.length d2,.bool false]] w (PtR (some (Luc.third (Luc.sl x1 y1 x2 y2) x1 y1 x2 y2)) w):=by
 obtain ⟨z,hz,hz0⟩:=cmp_ne hx1.num hx2.num hx
 have HC:=lH hz
 have tz:(z == 0)=false:=beq_eq_false_iff_ne.2 hz0
 have tz2:decide (z=0)=false:=decide_eq_false hz0
 have HN:Hid (¬ (x1=x2∧y1+y2=0)):=lH fun e=>hx e.1
 have H12:Hid (x1=x2→y1=y2):=lH fun e=>absurd e hx
 clear hx hz
 obtain ⟨w1,hw1⟩:∃ W,W=w.alloc (.cells #[.slice A1 l1.length c1,.slice A2 l2.length c2,.bool false] 26):=⟨_,rfl⟩
 have hz1:w1.heap.size=w.heap.size+1:=by rw [hw1];simp
 have hb1:Below w.heap.size w w1:=by rw [hw1];exact (Below.refl _ _).alloc (Nat.le_refl _) _
 obtain ⟨w2,hw2⟩:∃ W,W=w1.alloc (.cells #[.slice B1 m1.length d1,.slice B2 m2.length d2,.bool false] 26):=⟨_,rfl⟩
 have hz2:w2.heap.size=w.heap.size+1+1:=by rw [hw2];simp [hz1]
 have hb2:Below w.heap.size w w2:=by rw [hw2];exact hb1.alloc hb1.size _
 obtain ⟨W0,hw3⟩:∃ W,W=w2.alloc (.cells #[.slice none 0 0,.slice none 0 0,.bool false] 26):=⟨_,rfl⟩
 have hb3:Below w.heap.size w W0:=by rw [hw3];exact hb2.alloc hb2.size _
 have PB0:Hid (Holds W0 w.heap.size 26 #[.slice A1 l1.length c1,.slice A2 l2.length c2,.bool false]):=lH (by rw [hw3,hw2,hw1];exact ((Holds.fresh w _ _).alloc _).alloc _)
 have QB0:Hid (Holds W0 (w.heap.size+1) 26 #[.slice B1 m1.length d1,.slice B2 m2.length d2,.bool false]):=lH (by rw [hw3,hw2,←hz1];exact (Holds.fresh w1 _ _).alloc _)
 have RB0:Hid (Holds W0 (w.heap.size+1+1) 26 #[.slice none 0 0,.slice none 0 0,.bool false]):=lH (by rw [hw3,←hz2];exact Holds.fresh w2 _ _)
 have HB0:=lH hb3
 have HW:=lH (hw1 ▸ hw2 ▸ hw3:W0=((w.alloc (.cells #[.slice A1 l1.length c1,.slice A2 l2.length c2,.bool false] 26)).alloc (.cells #[.slice B1 m1.length d1,.slice B2 m2.length d2,.bool false] 26)).alloc (.cells #[.slice none 0 0,.slice none 0 0,.bool false] 26))
 have Nx0:=lH (hx1.under hb3)
 have Ny0:=lH (hy1.under hb3)
 have Nu0:=lH (hx2.under hb3)
 have Nv0:=lH (hy2.under hb3)
 clear hx1 hy1 hx2 hy2 hw1 hz1 hb1 hw2 hz2 hb2 hw3 hb3
 go_enter Tryd.func17,Tryd.ntmps17
 go_wp2_with fail
 rw [←HW.out]
 clear HW
 have p0:=PB0.out.cell 0
 have p1:=PB0.out.cell 1
 have p2:=PB0.out.cell 2
 have q0:=QB0.out.cell 0
 have q1:=QB0.out.cell 1
 have q2:=QB0.out.cell 2
 go_wp2_with fail
 refine (cmp'_any W0 _ _ A1 B1 c1 d1 l1 m1 Nx0.out.rd Nu0.out.rd z HC.out).mono ?_
 rintro e W1 ⟨rfl,q,hq⟩
 have hb:Below W0.heap.size W0 W1:=by rw [hq];exact bdN (Below.refl _ _) q
 have HB1:=lH (HB0.out.trans (hb.mono HB0.out.size))
 have PB1:=lH (PB0.out.under hb (Holds.lt PB0.out))
 have QB1:=lH (QB0.out.under hb (Holds.lt QB0.out))
 have RB1:=lH (RB0.out.under hb (Holds.lt RB0.out))
 have Nx1:=lH (Nx0.out.under hb)
 have Ny1:=lH (Ny0.out.under hb)
 have Nu1:=lH (Nu0.out.under hb)
 have Nv1:=lH (Nv0.out.under hb)
 clear hb HB0 PB0 QB0 RB0 Nx0 Ny0 Nu0 Nv0
 clear hq p0 p1 p2 q0 q1 q2
 have p0:=PB1.out.cell 0
 have p1:=PB1.out.cell 1
 have p2:=PB1.out.cell 2
 have q0:=QB1.out.cell 0
 have q1:=QB1.out.cell 1
 have q2:=QB1.out.cell 2
 go_wp2_with fail
 refine (slopeR_any W1 Nx1.out Ny1.out Nu1.out Nv1.out HN.out H12.out).mono ?_
 rintro e W2 ⟨As,cs,ls,rfl,hn,hb⟩
 have HB2:=lH (HB1.out.trans (hb.mono HB1.out.size))
 have PB2:=lH (PB1.out.under hb (Holds.lt PB1.out))
 have QB2:=lH (QB1.out.under hb (Holds.lt QB1.out))
 have RB2:=lH (RB1.out.under hb (Holds.lt RB1.out))
 have Nx2:=lH (Nx1.out.under hb)
 have Ny2:=lH (Ny1.out.under hb)
 have Nu2:=lH (Nu1.out.under hb)
 have Nv2:=lH (Nv1.out.under hb)
 clear hb HB1 PB1 QB1 RB1 Nx1 Ny1 Nu1 Nv1
 obtain ⟨sv,hsv⟩:∃ v_,v_=Luc.sl x1 y1 x2 y2:=⟨_,rfl⟩
 rw [←hsv] at hn
 have HSV:=lH hsv
 have Ns2:=lH hn
 clear hn hsv
 clear p0 p1 p2 q0 q1 q2
 go_wp2_with fail
 refine wp_region_noPanic ?_
 refine wp_region_held_drew (S:=fun W=>Holds W w.heap.size 26 #[.slice A1 l1.length c1,.slice A2 l2.length c2,.bool false]∧Holds W (w.heap.size+1) 26 #[.slice B1 m1.length d1,.slice B2 m2.length d2,.bool false]∧True) (by kernel_rfl) (⟨PB2.out,QB2.out,trivial⟩) (fun hHeld=>?_)
 obtain ⟨W3,hV⟩:∃ W,W=W2.drew:=⟨_,rfl⟩
 rw [←hV]
 have hb:Below W2.heap.size W2 W3:=by rw [hV];exact (Below.refl _ W2).drew
 have HB3:=lH (HB2.out.trans (hb.mono HB2.out.size))
 have PB3:=lH (PB2.out.under hb (Holds.lt PB2.out))
 have QB3:=lH (QB2.out.under hb (Holds.lt QB2.out))
 have RB3:=lH (RB2.out.under hb (Holds.lt RB2.out))
 have Nx3:=lH (Nx2.out.under hb)
 have Ny3:=lH (Ny2.out.under hb)
 have Nu3:=lH (Nu2.out.under hb)
 have Nv3:=lH (Nv2.out.under hb)
 have Ns3:=lH (Ns2.out.under hb)
 clear hb HB2 PB2 QB2 RB2 Nx2 Ny2 Nu2 Nv2 Ns2
 have HS3:Hid ((fun W=>Holds W w.heap.size 26 #[.slice A1 l1.length c1,.slice A2 l2.length c2,.bool false]∧Holds W (w.heap.size+1) 26 #[.slice B1 m1.length d1,.slice B2 m2.length d2,.bool false]∧True) W3):=lH ⟨PB3.out,QB3.out,trivial⟩
 replace hHeld:(fun W=>Holds W w.heap.size 26 #[.slice A1 l1.length c1,.slice A2 l2.length c2,.bool false]∧Holds W (w.heap.size+1) 26 #[.slice B1 m1.length d1,.slice B2 m2.length d2,.bool false]∧True) W3:=HS3.out
 clear hV
 refine tk 0 ⟨some 35,.move (.tmp 5),24,_,_,none⟩ ?_ rfl ?_ hHeld ?_
 rotate_left 1
 ·(intro W hW;(try dsimp only at hW);go_simp;try with_reducible rfl)
 try simp only [aP]
 refine tk 1 ⟨some 36,.move (.tmp 5),24,_,_,none⟩ ?_ rfl ?_ hHeld ?_
 rotate_left 1
 ·(intro W hW;(try dsimp only at hW);go_simp;try with_reducible rfl)
 try simp only [aP]
 refine tk 3 ⟨some 38,.fieldAddr 26 (.tmp 2) 0,0,_,_,none⟩ ?_ rfl ?_ hHeld ?_
 rotate_left 1
 ·(intro W hW;(try dsimp only at hW);go_simp;try with_reducible rfl)
 try simp only [aP]
 refine tk 4 ⟨some 39,.load 24 (.tmp 38),24,_,_,none⟩ ?_ rfl ?_ hHeld ?_
 rotate_left 1
 ·(intro W hW;have hcc:=hW.1.cell 0;(try dsimp only at hW);go_simp;try with_reducible rfl)
 try simp only [aP]
 refine tk 6 ⟨some 41,.fieldAddr 26 (.tmp 3) 0,0,_,_,none⟩ ?_ rfl ?_ hHeld ?_
 rotate_left 1
 ·(intro W hW;(try dsimp only at hW);go_simp;try with_reducible rfl)
 try simp only [aP]
 refine tk 7 ⟨some 42,.load 24 (.tmp 41),24,_,_,none⟩ ?_ rfl ?_ hHeld ?_
 rotate_left 1
 ·(intro W hW;have hcc:=hW.2.1.cell 0;(try dsimp only at hW);go_simp;try with_reducible rfl)
 try simp only [aP]
 refine rdy 2 ⟨some 37,.call ⟨ .value (.func 46),#[.tmp 35,.tmp 36],#[24,24]⟩,24,_,_,none⟩ rfl (fun K hK=>?_)
 go_simp
 refine (mulRF W3 Ns3.out Ns3.out).mono ?_
 rintro e W4 ⟨Ass,css,lss,rfl,hn,hb⟩
 have HB4:=lH (HB3.out.trans (hb.mono HB3.out.size))
 have PB4:=lH (PB3.out.under hb (Holds.lt PB3.out))
 have QB4:=lH (QB3.out.under hb (Holds.lt QB3.out))
 have RB4:=lH (RB3.out.under hb (Holds.lt RB3.out))
 have Nx4:=lH (Nx3.out.under hb)
 have Ny4:=lH (Ny3.out.under hb)
 have Nu4:=lH (Nu3.out.under hb)
 have Nv4:=lH (Nv3.out.under hb)
 have Ns4:=lH (Ns3.out.under hb)
 clear hb HB3 PB3 QB3 RB3 Nx3 Ny3 Nu3 Nv3 Ns3
 have Nss4:=lH hn
 clear hn
 have HS4:Hid ((fun W=>Holds W w.heap.size 26 #[.slice A1 l1.length c1,.slice A2 l2.length c2,.bool false]∧Holds W (w.heap.size+1) 26 #[.slice B1 m1.length d1,.slice B2 m2.length d2,.bool false]∧True) W4):=lH ⟨PB4.out,QB4.out,trivial⟩
 go_simp
 refine hK.out _ _ (HS4.out) (fun _=>?_)
 clear hK K hHeld
 try simp only [aP]
 have hHeld:(fun W=>Holds W w.heap.size 26 #[.slice A1 l1.length c1,.slice A2 l2.length c2,.bool false]∧Holds W (w.heap.size+1) 26 #[.slice B1 m1.length d1,.slice B2 m2.length d2,.bool false]∧True) W4:=HS4.out
 refine rdy 5 ⟨some 40,.call ⟨ .value (.func 48),#[.tmp 37,.tmp 39],#[24,24]⟩,24,_,_,none⟩ rfl (fun K hK=>?_)
 go_simp
 refine (subRF W4 Nss4.out Nx4.out).mono ?_
 rintro e W5 ⟨As1,cs1,ls1,rfl,hn,hb⟩
 have HB5:=lH (HB4.out.trans (hb.mono HB4.out.size))
 have PB5:=lH (PB4.out.under hb (Holds.lt PB4.out))
 have QB5:=lH (QB4.out.under hb (Holds.lt QB4.out))
 have RB5:=lH (RB4.out.under hb (Holds.lt RB4.out))
 have Nx5:=lH (Nx4.out.under hb)
 have Ny5:=lH (Ny4.out.under hb)
 have Nu5:=lH (Nu4.out.under hb)
 have Nv5:=lH (Nv4.out.under hb)
 have Ns5:=lH (Ns4.out.under hb)
 have Nss5:=lH (Nss4.out.under hb)
 clear hb HB4 PB4 QB4 RB4 Nx4 Ny4 Nu4 Nv4 Ns4 Nss4
 have Ns15:=lH hn
 clear hn
 have HS5:Hid ((fun W=>Holds W w.heap.size 26 #[.slice A1 l1.length c1,.slice A2 l2.length c2,.bool false]∧Holds W (w.heap.size+1) 26 #[.slice B1 m1.length d1,.slice B2 m2.length d2,.bool false]∧True) W5):=lH ⟨PB5.out,QB5.out,trivial⟩
 go_simp
 refine hK.out _ _ (HS5.out) (fun _=>?_)
 clear hK K hHeld
 try simp only [aP]
 have hHeld:(fun W=>Holds W w.heap.size 26 #[.slice A1 l1.length c1,.slice A2 l2.length c2,.bool false]∧Holds W (w.heap.size+1) 26 #[.slice B1 m1.length d1,.slice B2 m2.length d2,.bool false]∧True) W5:=HS5.out
 refine rdy 8 ⟨some 43,.call ⟨ .value (.func 48),#[.tmp 40,.tmp 42],#[24,24]⟩,24,_,_,none⟩ rfl (fun K hK=>?_)
 go_simp
 refine (subRF W5 Ns15.out Nu5.out).mono ?_
 rintro e W6 ⟨AX,cX,lX,rfl,hn,hb⟩
 have HB6:=lH (HB5.out.trans (hb.mono HB5.out.size))
 have PB6:=lH (PB5.out.under hb (Holds.lt PB5.out))
 have QB6:=lH (QB5.out.under hb (Holds.lt QB5.out))
 have RB6:=lH (RB5.out.under hb (Holds.lt RB5.out))
 have Nx6:=lH (Nx5.out.under hb)
 have Ny6:=lH (Ny5.out.under hb)
 have Nu6:=lH (Nu5.out.under hb)
 have Nv6:=lH (Nv5.out.under hb)
 have Ns6:=lH (Ns5.out.under hb)
 have Nss6:=lH (Nss5.out.under hb)
 have Ns16:=lH (Ns15.out.under hb)
 clear hb HB5 PB5 QB5 RB5 Nx5 Ny5 Nu5 Nv5 Ns5 Nss5 Ns15
 have NX6:=lH hn
 clear hn
 have HS6:Hid ((fun W=>Holds W w.heap.size 26 #[.slice A1 l1.length c1,.slice A2 l2.length c2,.bool false]∧Holds W (w.heap.size+1) 26 #[.slice B1 m1.length d1,.slice B2 m2.length d2,.bool false]∧True) W6):=lH ⟨PB6.out,QB6.out,trivial⟩
 go_simp
 refine hK.out _ _ (HS6.out) (fun _=>?_)
 clear hK K hHeld
 try simp only [aP]
 have hHeld:(fun W=>Holds W w.heap.size 26 #[.slice A1 l1.length c1,.slice A2 l2.length c2,.bool false]∧Holds W (w.heap.size+1) 26 #[.slice B1 m1.length d1,.slice B2 m2.length d2,.bool false]∧True) W6:=HS6.out
 refine tk 9 ⟨some 6,.assign (.tmp 43),24,_,_,none⟩ ?_ rfl ?_ hHeld ?_
 rotate_left 1
 ·(intro W hW;(try dsimp only at hW);go_simp;try with_reducible rfl)
 try simp only [aP]
 refine wpAnyH_done (by kernel_rfl) ?_ _
 refine NoPanic.normal ?_
 clear Nss6 Ns16
 go_wp2_with fail
 refine wp_region_noPanic ?_
 refine wp_region_held_drew (S:=fun W=>Holds W w.heap.size 26 #[.slice A1 l1.length c1,.slice A2 l2.length c2,.bool false]∧Holds W (w.heap.size+1) 26 #[.slice B1 m1.length d1,.slice B2 m2.length d2,.bool false]∧True) (by kernel_rfl) (⟨PB6.out,QB6.out,trivial⟩) (fun hHeld=>?_)
 obtain ⟨W7,hV⟩:∃ W,W=W6.drew:=⟨_,rfl⟩
 rw [←hV]
 have hb:Below W6.heap.size W6 W7:=by rw [hV];exact (Below.refl _ W6).drew
 have HB7:=lH (HB6.out.trans (hb.mono HB6.out.size))
 have PB7:=lH (PB6.out.under hb (Holds.lt PB6.out))
 have QB7:=lH (QB6.out.under hb (Holds.lt QB6.out))
 have RB7:=lH (RB6.out.under hb (Holds.lt RB6.out))
 have Nx7:=lH (Nx6.out.under hb)
 have Ny7:=lH (Ny6.out.under hb)
 have Nu7:=lH (Nu6.out.under hb)
 have Nv7:=lH (Nv6.out.under hb)
 have Ns7:=lH (Ns6.out.under hb)
 have NX7:=lH (NX6.out.under hb)
 clear hb HB6 PB6 QB6 RB6 Nx6 Ny6 Nu6 Nv6 Ns6 NX6
 have HS7:Hid ((fun W=>Holds W w.heap.size 26 #[.slice A1 l1.length c1,.slice A2 l2.length c2,.bool false]∧Holds W (w.heap.size+1) 26 #[.slice B1 m1.length d1,.slice B2 m2.length d2,.bool false]∧True) W7):=lH ⟨PB7.out,QB7.out,trivial⟩
 replace hHeld:(fun W=>Holds W w.heap.size 26 #[.slice A1 l1.length c1,.slice A2 l2.length c2,.bool false]∧Holds W (w.heap.size+1) 26 #[.slice B1 m1.length d1,.slice B2 m2.length d2,.bool false]∧True) W7:=HS7.out
 clear hV
 refine tk 0 ⟨some 44,.move (.tmp 6),24,_,_,none⟩ ?_ rfl ?_ hHeld ?_
 rotate_left 1
 ·(intro W hW;(try dsimp only at hW);go_simp;try with_reducible rfl)
 try simp only [aP]
 refine tk 1 ⟨some 45,.move (.tmp 5),24,_,_,none⟩ ?_ rfl ?_ hHeld ?_
 rotate_left 1
 ·(intro W hW;(try dsimp only at hW);go_simp;try with_reducible rfl)
 try simp only [aP]
 refine tk 2 ⟨some 46,.fieldAddr 26 (.tmp 2) 0,0,_,_,none⟩ ?_ rfl ?_ hHeld ?_
 rotate_left 1
 ·(intro W hW;(try dsimp only at hW);go_simp;try with_reducible rfl)
 try simp only [aP]
 refine tk 3 ⟨some 47,.load 24 (.tmp 46),24,_,_,none⟩ ?_ rfl ?_ hHeld ?_
 rotate_left 1
 ·(intro W hW;have hcc:=hW.1.cell 0;(try dsimp only at hW);go_simp;try with_reducible rfl)
 try simp only [aP]
 refine tk 4 ⟨some 48,.move (.tmp 6),24,_,_,none⟩ ?_ rfl ?_ hHeld ?_
 rotate_left 1
 ·(intro W hW;(try dsimp only at hW);go_simp;try with_reducible rfl)
 try simp only [aP]
 refine tk 7 ⟨some 51,.fieldAddr 26 (.tmp 2) 1,0,_,_,none⟩ ?_ rfl ?_ hHeld ?_
 rotate_left 1
 ·(intro W hW;(try dsimp only at hW);go_simp;try with_reducible rfl)
 try simp only [aP]
 refine tk 8 ⟨some 52,.load 24 (.tmp 51),24,_,_,none⟩ ?_ rfl ?_ hHeld ?_
 rotate_left 1
 ·(intro W hW;have hcc:=hW.1.cell 1;(try dsimp only at hW);go_simp;try with_reducible rfl)
 try simp only [aP]
 refine rdy 5 ⟨some 49,.call ⟨ .value (.func 48),#[.tmp 47,.tmp 48],#[24,24]⟩,24,_,_,none⟩ rfl (fun K hK=>?_)
 go_simp
 refine (subRF W7 Nx7.out NX7.out).mono ?_
 rintro e W8 ⟨At1,ct1,lt1,rfl,hn,hb⟩
 have HB8:=lH (HB7.out.trans (hb.mono HB7.out.size))
 have PB8:=lH (PB7.out.under hb (Holds.lt PB7.out))
 have QB8:=lH (QB7.out.under hb (Holds.lt QB7.out))
 have RB8:=lH (RB7.out.under hb (Holds.lt RB7.out))
 have Nx8:=lH (Nx7.out.under hb)
 have Ny8:=lH (Ny7.out.under hb)
 have Nu8:=lH (Nu7.out.under hb)
 have Nv8:=lH (Nv7.out.under hb)
 have Ns8:=lH (Ns7.out.under hb)
 have NX8:=lH (NX7.out.under hb)
 clear hb HB7 PB7 QB7 RB7 Nx7 Ny7 Nu7 Nv7 Ns7 NX7
 have Nt18:=lH hn
 clear hn
 have HS8:Hid ((fun W=>Holds W w.heap.size 26 #[.slice A1 l1.length c1,.slice A2 l2.length c2,.bool false]∧Holds W (w.heap.size+1) 26 #[.slice B1 m1.length d1,.slice B2 m2.length d2,.bool false]∧True) W8):=lH ⟨PB8.out,QB8.out,trivial⟩
 go_simp
 refine hK.out _ _ (HS8.out) (fun _=>?_)
 clear hK K hHeld
 try simp only [aP]
 have hHeld:(fun W=>Holds W w.heap.size 26 #[.slice A1 l1.length c1,.slice A2 l2.length c2,.bool false]∧Holds W (w.heap.size+1) 26 #[.slice B1 m1.length d1,.slice B2 m2.length d2,.bool false]∧True) W8:=HS8.out
 refine rdy 6 ⟨some 50,.call ⟨ .value (.func 46),#[.tmp 45,.tmp 49],#[24,24]⟩,24,_,_,none⟩ rfl (fun K hK=>?_)
 go_simp
 refine (mulRF W8 Ns8.out Nt18.out).mono ?_
 rintro e W9 ⟨At2,ct2,lt2,rfl,hn,hb⟩
 have HB9:=lH (HB8.out.trans (hb.mono HB8.out.size))
 have PB9:=lH (PB8.out.under hb (Holds.lt PB8.out))
 have QB9:=lH (QB8.out.under hb (Holds.lt QB8.out))
 have RB9:=lH (RB8.out.under hb (Holds.lt RB8.out))
 have Nx9:=lH (Nx8.out.under hb)
 have Ny9:=lH (Ny8.out.under hb)
 have Nu9:=lH (Nu8.out.under hb)
 have Nv9:=lH (Nv8.out.under hb)
 have Ns9:=lH (Ns8.out.under hb)
 have NX9:=lH (NX8.out.under hb)
 have Nt19:=lH (Nt18.out.under hb)
 clear hb HB8 PB8 QB8 RB8 Nx8 Ny8 Nu8 Nv8 Ns8 NX8 Nt18
 have Nt29:=lH hn
 clear hn
 have HS9:Hid ((fun W=>Holds W w.heap.size 26 #[.slice A1 l1.length c1,.slice A2 l2.length c2,.bool false]∧Holds W (w.heap.size+1) 26 #[.slice B1 m1.length d1,.slice B2 m2.length d2,.bool false]∧True) W9):=lH ⟨PB9.out,QB9.out,trivial⟩
 go_simp
 refine hK.out _ _ (HS9.out) (fun _=>?_)
 clear hK K hHeld
 try simp only [aP]
 have hHeld:(fun W=>Holds W w.heap.size 26 #[.slice A1 l1.length c1,.slice A2 l2.length c2,.bool false]∧Holds W (w.heap.size+1) 26 #[.slice B1 m1.length d1,.slice B2 m2.length d2,.bool false]∧True) W9:=HS9.out
 refine rdy 9 ⟨some 53,.call ⟨ .value (.func 48),#[.tmp 50,.tmp 52],#[24,24]⟩,24,_,_,none⟩ rfl (fun K hK=>?_)
 go_simp
 refine (subRF W9 Nt29.out Ny9.out).mono ?_
 rintro e W10 ⟨AY,cY,lY,rfl,hn,hb⟩
 have HB10:=lH (HB9.out.trans (hb.mono HB9.out.size))
 have PB10:=lH (PB9.out.under hb (Holds.lt PB9.out))
 have QB10:=lH (QB9.out.under hb (Holds.lt QB9.out))
 have RB10:=lH (RB9.out.under hb (Holds.lt RB9.out))
 have Nx10:=lH (Nx9.out.under hb)
 have Ny10:=lH (Ny9.out.under hb)
 have Nu10:=lH (Nu9.out.under hb)
 have Nv10:=lH (Nv9.out.under hb)
 have Ns10:=lH (Ns9.out.under hb)
 have NX10:=lH (NX9.out.under hb)
 have Nt110:=lH (Nt19.out.under hb)
 have Nt210:=lH (Nt29.out.under hb)
 clear hb HB9 PB9 QB9 RB9 Nx9 Ny9 Nu9 Nv9 Ns9 NX9 Nt19 Nt29
 have NY10:=lH hn
 clear hn
 have HS10:Hid ((fun W=>Holds W w.heap.size 26 #[.slice A1 l1.length c1,.slice A2 l2.length c2,.bool false]∧Holds W (w.heap.size+1) 26 #[.slice B1 m1.length d1,.slice B2 m2.length d2,.bool false]∧True) W10):=lH ⟨PB10.out,QB10.out,trivial⟩
 go_simp
 refine hK.out _ _ (HS10.out) (fun _=>?_)
 clear hK K hHeld
 try simp only [aP]
 have hHeld:(fun W=>Holds W w.heap.size 26 #[.slice A1 l1.length c1,.slice A2 l2.length c2,.bool false]∧Holds W (w.heap.size+1) 26 #[.slice B1 m1.length d1,.slice B2 m2.length d2,.bool false]∧True) W10:=HS10.out
 refine tk 10 ⟨some 54,.build 26 #[(0,.tmp 44),(1,.tmp 53)],26,_,_,none⟩ ?_ rfl ?_ hHeld ?_
 rotate_left 1
 ·(intro W hW;(try dsimp only at hW);go_simp;try with_reducible rfl)
 try simp only [aP]
 refine rdy 11 ⟨none,.store 26 (.tmp 4) (.tmp 54),0,_,_,none⟩ rfl (fun K hK=>?_)
 have r0:=RB10.out.cell 0
 have r1:=RB10.out.cell 1
 have r2:=RB10.out.cell 2
 have or0:=RB10.out.open_ 0
 have or1:=RB10.out.open_ 1
 have or2:=RB10.out.open_ 2
 obtain ⟨VL,hN⟩:∃ W,W=(((W10.setCell ⟨(w.heap.size+1+1),0,none⟩ (.slice AX lX.length cX)).setCell ⟨(w.heap.size+1+1),1,none⟩ (.slice AY lY.length cY)).setCell ⟨(w.heap.size+1+1),2,none⟩ (.bool false)):=⟨_,rfl⟩
 go_simp
 rw [←hN]
 have HRL:Hid (Holds VL (w.heap.size+1+1) 26 #[.slice AX lX.length cX,.slice AY lY.length cY,.bool false]):=lH (by rw [hN];exact set3 RB10.out _ _ _)
 have HBL:Hid (Below w.heap.size w VL):=lH (by rw [hN];exact below3 HB10.out (by omega) _ _ _)
 have HSL:Hid ((fun W=>Holds W w.heap.size 26 #[.slice A1 l1.length c1,.slice A2 l2.length c2,.bool false]∧Holds W (w.heap.size+1) 26 #[.slice B1 m1.length d1,.slice B2 m2.length d2,.bool false]∧True) VL):=lH ⟨by rw [hN];exact holds_aside3 PB10.out (k:=(w.heap.size+1+1)) (by omega) _ _ _,by rw [hN];exact holds_aside3 QB10.out (k:=(w.heap.size+1+1)) (by omega) _ _ _,trivial⟩
 have HV:Hid (PtV (some (sv*sv - x1 - x2,sv*(x1 - (sv*sv - x1 - x2)) - y1)) VL AX cX lX AY cY lY false):=lH ⟨rfl,by rw [hN];exact NX10.out.store3 RB10.out no_numsP _ _ _,by rw [hN];exact NY10.out.store3 RB10.out no_numsP _ _ _⟩
 clear hN r0 r1 r2 or0 or1 or2
 refine hK.out _ _ (HSL.out) (fun _=>?_)
 clear hK K hHeld
 try simp only [aP]
 have hHeld:(fun W=>Holds W w.heap.size 26 #[.slice A1 l1.length c1,.slice A2 l2.length c2,.bool false]∧Holds W (w.heap.size+1) 26 #[.slice B1 m1.length d1,.slice B2 m2.length d2,.bool false]∧True) VL:=HSL.out
 refine wpAnyH_done (by kernel_rfl) ?_ _
 refine NoPanic.normal ?_
 go_wp2_with fail
 have HT:Hid (PtV (some (Luc.third (Luc.sl x1 y1 x2 y2) x1 y1 x2 y2)) VL AX cX lX AY cY lY false):=lH (by rw [←HSV.out];exact HV.out)
 exact ret_pt (g:=w.heap.size+1+1) rfl rfl HRL.out rfl ⟨AX,cX,lX,AY,cY,lY,false,rfl,HT.out,HBL.out⟩
theorem addRP (w:World) {P Q:Luc.Pt} {A1 A2 B1 B2:Option Addr} {c1 c2 d1 d2:Nat} {l1 l2 m1 m2:List Nat} {inf jnf:Bool} (hp:PtV P w A1 c1 l1 A2 c2 l2 inf) (hq:PtV Q w B1 d1 m1 B2 d2 m2 jnf) (ho:Luc.OnC P) (ho2:Luc.OnC Q) :
  Calls Tryd.prog 17 #[.agg #[.slice A1 l1.length c1,.slice A2 l2.length c2,.bool inf],.agg #[.slice B1 m1.length d1,.slice B2 m2.length d2,.bool jnf]] w (PtR (Luc.add P Q) w):=by
 rcases P with _ | ⟨x1,y1⟩
 ·obtain rfl:inf=true:=hp.inf
  refine (addR_left w A1 A2 B1 B2 _ c1 _ c2 _ d1 _ d2 jnf).mono ?_
  rintro e w' ⟨rfl,hb⟩
  exact ⟨_,_,m1,_,_,m2,jnf,rfl,hq.under hb,hb⟩
 obtain rfl:inf=false:=hp.inf
 rcases Q with _ | ⟨x2,y2⟩
 ·obtain rfl:jnf=true:=hq.inf
  refine (addR_right w A1 A2 B1 B2 _ c1 _ c2 _ d1 _ d2).mono ?_
  rintro e w' ⟨rfl,hb⟩
  exact ⟨_,_,l1,_,_,l2,false,rfl,hp.under hb,hb⟩
 obtain rfl:jnf=false:=hq.inf
 have h1:Luc.On x1 y1:=ho
 have h2:Luc.On x2 y2:=ho2
 by_cases hop:x1=x2∧y1+y2=0
 ·rw [Luc.add_opp hop]
  exact addR_opp w hp.x hp.y hq.x hq.y hop.1 hop.2
 ·have ha:Luc.add (some (x1,y1)) (some (x2,y2))=some (Luc.third (Luc.sl x1 y1 x2 y2) x1 y1 x2 y2):=by
   show (if _ then _ else _)=_
   rw [if_neg hop]
  rw [ha]
  by_cases hx:x1=x2
  ·have hy:y1+y2≠0:=fun e=>hop ⟨hx,e⟩
   refine addR_same w hp.x hp.y hq.x hq.y hx hy ?_
   have hz:y1 - y2=0:=Luc.zero_of (x:=y1+y2) (by unfold Luc.On at h1 h2;rw [←hx] at h2;clear ha hp hq hop hy;grind) hy
   grind
  ·exact addR_far w hp.x hp.y hq.x hq.y hx
end Go.Proofs.YtflfdglpljodbaaDoor
