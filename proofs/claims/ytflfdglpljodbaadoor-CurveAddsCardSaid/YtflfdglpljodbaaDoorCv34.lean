/-
  Any sums of the first point, many times.
-/
import Derived.Test.YtflfdglpljodbaaDoorCv33
import Derived.Test.YtflfdglpljodbaaDoorCv35
import Derived.Deep.RegionLaw
import Derived.Deep.RegionHeld3
import Derived.Deep.DrawnRows
namespace Go.Proofs.YtflfdglpljodbaaDoor
open Go.RowKit
set_option linter.unusedVariables false
set_option linter.unusedSimpArgs false

set_option maxRecDepth 100000 in
set_option maxHeartbeats 8000000 in
theorem law_adds (w:World) (hm:CMet w) (ka kb:Nat) (ha:ka<4294967296) (hk:kb<4294967296) :
  Calls Tryd.prog 3 #[.int .u32 (ka:Int),.int .u32 (kb:Int)] w fun e w'=>e = .returned (.bool true)∧Below w.heap.size w w':=by
 have Hka:=Lib.hid ha
 have Hkb:=Lib.hid hk
 have hd1ka:Dg [ka]:=fun y hy=>by rw [List.mem_singleton.1 hy];exact Hka.out
 have HKDka:Hid (Dg (trl [ka])):=Lib.hid (trl_dg hd1ka)
 have HKNka:Hid (nrm (trl [ka])):=Lib.hid (trl_nrm _)
 have HKLka:Hid ((trl [ka]).length≤1):=Lib.hid (by rw [trl_length];exact tlen_le [ka] 1)
 clear hd1ka
 have hd1kb:Dg [kb]:=fun y hy=>by rw [List.mem_singleton.1 hy];exact Hkb.out
 have HKDkb:Hid (Dg (trl [kb])):=Lib.hid (trl_dg hd1kb)
 have HKNkb:Hid (nrm (trl [kb])):=Lib.hid (trl_nrm _)
 have HKLkb:Hid ((trl [kb]).length≤1):=Lib.hid (by rw [trl_length];exact tlen_le [kb] 1)
 clear hd1kb
 obtain ⟨W0,hw0⟩:∃ W,W=w:=⟨_,rfl⟩
 have HB0:Hid (Below w.heap.size w W0):=Lib.hid (by rw [hw0];exact Below.refl _ _)
 have HM0:Hid (CMet W0):=Lib.hid (by rw [hw0];exact hm)
 rw [show Calls Tryd.prog 3 #[.int .u32 (ka:Int),.int .u32 (kb:Int)] w=Calls Tryd.prog 3 #[.int .u32 (ka:Int),.int .u32 (kb:Int)] W0 by rw [hw0]]
 clear hm hw0 ha hk
 go_enter Tryd.func3,Tryd.ntmps3
 go_wp2_with fail
 obtain ⟨W1,hW1⟩:∃ W,W=W0.alloc (.cells #[.int .u32 (ka:Int)] 22):=⟨_,rfl⟩
 rw [←hW1]
 have hb:Below W0.heap.size W0 W1:=by rw [hW1];exact (Below.refl _ _).alloc (Nat.le_refl _) _
 have hrow:Row .u32 22 W1 W0.heap.size [ka]:=by rw [hW1];exact Holds.fresh _ _ _
 have hrd:=(rd_whole (c:=1) hrow (by simp) (by omega)).more (Holds.lt hrow)
 have hrt:=hrd.cut (tlen [ka] [ka].length)
 change Rd .u32 W1 W1.heap.size (some ⟨W0.heap.size,0,none⟩) 1 (trl [ka]) at hrt
 have HT:=Lib.hid (trim'_at W1 _ (some ⟨W0.heap.size,0,none⟩) 1 1 [ka] hrd rfl)
 have Rk1:=Lib.hid hrt
 have HB1:=Lib.hid (HB0.out.trans (hb.mono HB0.out.size))
 have HM1:=Lib.hid (HM0.out.under hb)
 clear hb HB0 HM0
 clear hrow hrd hrt hW1
 refine HT.out.mono ?_
 rintro e wt ⟨rfl,rfl⟩
 clear HT
 go_wp2_with fail
 refine (refGP W1).mono ?_
 rintro e W2 ⟨Ag,cg,ag,Bg,dg,bg,ig,rfl,hq,hb⟩
 have HB2:=Lib.hid (HB1.out.trans (hb.mono HB1.out.size))
 have HM2:=Lib.hid (HM1.out.under hb)
 have Rk2:=Lib.hid ((Rk1.out.under hb).more hb.size)
 clear hb HB1 HM1 Rk1
 have Vg2:=Lib.hid hq
 clear hq
 go_wp2_with fail
 refine (timesRP W2 Rk2.out HKDka.out (by have:=HKLka.out;omega) HKNka.out Vg2.out gP_on).mono ?_
 rintro e W3 ⟨Ap,cp,ap,Bp,dp,bp,ip,rfl,hq,hb⟩
 have HB3:=Lib.hid (HB2.out.trans (hb.mono HB2.out.size))
 have HM3:=Lib.hid (HM2.out.under hb)
 have Rk3:=Lib.hid ((Rk2.out.under hb).more hb.size)
 have Vg3:=Lib.hid (Vg2.out.under hb)
 clear hb HB2 HM2 Rk2 Vg2
 have Vp3:=Lib.hid hq
 clear hq
 clear Vg3 Rk3
 go_wp2_with fail
 obtain ⟨W4,hW1⟩:∃ W,W=W3.alloc (.cells #[.int .u32 (kb:Int)] 22):=⟨_,rfl⟩
 rw [←hW1]
 have hb:Below W3.heap.size W3 W4:=by rw [hW1];exact (Below.refl _ _).alloc (Nat.le_refl _) _
 have hrow:Row .u32 22 W4 W3.heap.size [kb]:=by rw [hW1];exact Holds.fresh _ _ _
 have hrd:=(rd_whole (c:=1) hrow (by simp) (by omega)).more (Holds.lt hrow)
 have hrt:=hrd.cut (tlen [kb] [kb].length)
 change Rd .u32 W4 W4.heap.size (some ⟨W3.heap.size,0,none⟩) 1 (trl [kb]) at hrt
 have HT:=Lib.hid (trim'_at W4 _ (some ⟨W3.heap.size,0,none⟩) 1 1 [kb] hrd rfl)
 have Rk4:=Lib.hid hrt
 have HB4:=Lib.hid (HB3.out.trans (hb.mono HB3.out.size))
 have HM4:=Lib.hid (HM3.out.under hb)
 have Vp4:=Lib.hid (Vp3.out.under hb)
 clear hb HB3 HM3 Vp3
 clear hrow hrd hrt hW1
 refine HT.out.mono ?_
 rintro e wt ⟨rfl,rfl⟩
 clear HT
 go_wp2_with fail
 refine (refGP W4).mono ?_
 rintro e W5 ⟨Ag2,cg2,ag2,Bg2,dg2,bg2,ig2,rfl,hq,hb⟩
 have HB5:=Lib.hid (HB4.out.trans (hb.mono HB4.out.size))
 have HM5:=Lib.hid (HM4.out.under hb)
 have Vp5:=Lib.hid (Vp4.out.under hb)
 have Rk5:=Lib.hid ((Rk4.out.under hb).more hb.size)
 clear hb HB4 HM4 Vp4 Rk4
 have Vg25:=Lib.hid hq
 clear hq
 go_wp2_with fail
 refine (timesRP W5 Rk5.out HKDkb.out (by have:=HKLkb.out;omega) HKNkb.out Vg25.out gP_on).mono ?_
 rintro e W6 ⟨Aq,cq,aq,Bq,dq,bq,iq,rfl,hq,hb⟩
 have HB6:=Lib.hid (HB5.out.trans (hb.mono HB5.out.size))
 have HM6:=Lib.hid (HM5.out.under hb)
 have Vp6:=Lib.hid (Vp5.out.under hb)
 have Rk6:=Lib.hid ((Rk5.out.under hb).more hb.size)
 have Vg26:=Lib.hid (Vg25.out.under hb)
 clear hb HB5 HM5 Vp5 Rk5 Vg25
 have Vq6:=Lib.hid hq
 clear hq
 clear Vg26 Rk6
 obtain ⟨P,hP⟩:∃ P,P=Luc.nmul gP (val (trl [ka])):=⟨_,rfl⟩
 obtain ⟨Q,hQ⟩:∃ Q,Q=Luc.nmul gP (val (trl [kb])):=⟨_,rfl⟩
 rw [←hP] at Vp6
 rw [←hQ] at Vq6
 have HOP:Hid (Luc.OnC P):=Lib.hid (by rw [hP];exact Luc.nmul_on gP_on _)
 have HOQ:Hid (Luc.OnC Q):=Lib.hid (by rw [hQ];exact Luc.nmul_on gP_on _)
 clear hP hQ
 go_wp2_with fail
 obtain ⟨wa,hwa⟩:∃ W,W=W6.alloc (.cells #[.slice Ap ap.length cp,.slice Bp bp.length dp,.bool ip] 26):=⟨_,rfl⟩
 have hza:wa.heap.size=W6.heap.size+1:=by rw [hwa];simp
 obtain ⟨W7,hW⟩:∃ W,W=wa.alloc (.cells #[.slice Aq aq.length cq,.slice Bq bq.length dq,.bool iq] 26):=⟨_,rfl⟩
 obtain ⟨s1,hs1⟩:∃ s,s=W6.heap.size:=⟨_,rfl⟩
 have hb:Below W6.heap.size W6 W7:=by rw [hW,hwa];exact ((Below.refl _ _).alloc (Nat.le_refl _) _).alloc (by simp) _
 have PB7:Hid (Holds W7 s1 26 #[.slice Ap ap.length cp,.slice Bp bp.length dp,.bool ip]):=Lib.hid (by rw [hW,hwa,hs1];exact (Holds.fresh _ _ _).alloc _)
 have QB7:Hid (Holds W7 (s1+1) 26 #[.slice Aq aq.length cq,.slice Bq bq.length dq,.bool iq]):=Lib.hid (by rw [hs1,←hza,hW];exact Holds.fresh _ _ _)
 have HB7:=Lib.hid (HB6.out.trans (hb.mono HB6.out.size))
 have HM7:=Lib.hid (HM6.out.under hb)
 have Vp7:=Lib.hid (Vp6.out.under hb)
 have Vq7:=Lib.hid (Vq6.out.under hb)
 clear hb HB6 HM6 Vp6 Vq6
 rw [hwa] at hW
 rw [←hs1,←hW]
 clear hwa hza hs1 hW
 refine (addP W7 HM7.out Vp7.out Vq7.out HOP.out HOQ.out).mono ?_
 rintro e W8 ⟨Aj,cj,aj,Bj,dj,bj,ij,rfl,hq,hb⟩
 have HB8:=Lib.hid (HB7.out.trans (hb.mono HB7.out.size))
 have HM8:=Lib.hid (HM7.out.under hb)
 have Vp8:=Lib.hid (Vp7.out.under hb)
 have Vq8:=Lib.hid (Vq7.out.under hb)
 have PB8:=Lib.hid (PB7.out.under hb (Holds.lt PB7.out))
 have QB8:=Lib.hid (QB7.out.under hb (Holds.lt QB7.out))
 clear hb HB7 HM7 Vp7 Vq7 PB7 QB7
 have Vj8:=Lib.hid hq
 clear hq
 go_wp2_with fail
 obtain ⟨W9,hW⟩:∃ W,W=W8.alloc (.cells #[.slice Aj aj.length cj,.slice Bj bj.length dj,.bool ij] 26):=⟨_,rfl⟩
 obtain ⟨s3,hs3⟩:∃ s,s=W8.heap.size:=⟨_,rfl⟩
 rw [←hW,←hs3]
 have hb:Below W8.heap.size W8 W9:=by rw [hW];exact (Below.refl _ _).alloc (Nat.le_refl _) _
 have SB9:Hid (Holds W9 s3 26 #[.slice Aj aj.length cj,.slice Bj bj.length dj,.bool ij]):=Lib.hid (by rw [hW,hs3];exact Holds.fresh _ _ _)
 have HB9:=Lib.hid (HB8.out.trans (hb.mono HB8.out.size))
 have HM9:=Lib.hid (HM8.out.under hb)
 have Vp9:=Lib.hid (Vp8.out.under hb)
 have Vq9:=Lib.hid (Vq8.out.under hb)
 have PB9:=Lib.hid (PB8.out.under hb (Holds.lt PB8.out))
 have QB9:=Lib.hid (QB8.out.under hb (Holds.lt QB8.out))
 have Vj9:=Lib.hid (Vj8.out.under hb)
 clear hb HB8 HM8 Vp8 Vq8 PB8 QB8 Vj8
 clear hW hs3
 refine wp_region_noPanic ?_
 refine wp_region_held_drew (S:=fun W=>Holds W s1 26 #[.slice Ap ap.length cp,.slice Bp bp.length dp,.bool ip]∧Holds W (s1+1) 26 #[.slice Aq aq.length cq,.slice Bq bq.length dq,.bool iq]∧Holds W s3 26 #[.slice Aj aj.length cj,.slice Bj bj.length dj,.bool ij]∧True) (by kernel_rfl) (⟨PB9.out,QB9.out,SB9.out,trivial⟩) (fun hHeld=>?_)
 obtain ⟨W10,hV⟩:∃ W,W=W9.drew:=⟨_,rfl⟩
 rw [←hV]
 have hb:Below W9.heap.size W9 W10:=by rw [hV];exact (Below.refl _ W9).drew
 have HB10:=Lib.hid (HB9.out.trans (hb.mono HB9.out.size))
 have HM10:=Lib.hid (HM9.out.under hb)
 have Vp10:=Lib.hid (Vp9.out.under hb)
 have Vq10:=Lib.hid (Vq9.out.under hb)
 have PB10:=Lib.hid (PB9.out.under hb (Holds.lt PB9.out))
 have QB10:=Lib.hid (QB9.out.under hb (Holds.lt QB9.out))
 have Vj10:=Lib.hid (Vj9.out.under hb)
 have SB10:=Lib.hid (SB9.out.under hb (Holds.lt SB9.out))
 clear hb HB9 HM9 Vp9 Vq9 PB9 QB9 Vj9 SB9
 have HS10:Hid ((fun W=>Holds W s1 26 #[.slice Ap ap.length cp,.slice Bp bp.length dp,.bool ip]∧Holds W (s1+1) 26 #[.slice Aq aq.length cq,.slice Bq bq.length dq,.bool iq]∧Holds W s3 26 #[.slice Aj aj.length cj,.slice Bj bj.length dj,.bool ij]∧True) W10):=Lib.hid ⟨PB10.out,QB10.out,SB10.out,trivial⟩
 replace hHeld:(fun W=>Holds W s1 26 #[.slice Ap ap.length cp,.slice Bp bp.length dp,.bool ip]∧Holds W (s1+1) 26 #[.slice Aq aq.length cq,.slice Bq bq.length dq,.bool iq]∧Holds W s3 26 #[.slice Aj aj.length cj,.slice Bj bj.length dj,.bool ij]∧True) W10:=HS10.out
 clear hV
 refine wpAnyH_take (i:=0) (oi:={ dst:=some 21,op:=Op.load 26 (Operand.tmp 7),type:=26,pos:=_,after:=_,guard:=none }) (v:=?_) rfl (by kernel_rfl) (by kernel_rfl) (by kernel_rfl) (fun _ _ _ h=>h) (Or.inl ⟨by rfl,?_⟩) hHeld ?_
 rotate_left 1
 ·(intro W hW;have h0:=hW.2.2.1.cell 0;have h1:=hW.2.2.1.cell 1;have h2:=hW.2.2.1.cell 2;(try dsimp only at hW);go_simp;try with_reducible rfl)
 try simp only [Act.put,List.setIfInBounds_toArray,List.set_cons_zero,List.set_cons_succ]
 refine wpAnyH_ready (rs:=[1]) (by kernel_rfl) (by simp) ?_
 refine AllReadyH.cons (o:={ dst:=some 22,op:=Op.call { callee:=Callee.value (Operand.func 15),args:=#[Operand.tmp 21],argTypes:=#[26] },type:=4,pos:=_,after:=_,guard:=none }) rfl (fun K hK=>?_) AllReadyH.nil
 go_simp
 refine (refIsP W10 Vj10.out (Luc.add_on HOP.out HOQ.out)).mono ?_
 rintro e W11 ⟨rfl,hb⟩
 have HB11:=Lib.hid (HB10.out.trans (hb.mono HB10.out.size))
 have HM11:=Lib.hid (HM10.out.under hb)
 have Vp11:=Lib.hid (Vp10.out.under hb)
 have Vq11:=Lib.hid (Vq10.out.under hb)
 have PB11:=Lib.hid (PB10.out.under hb (Holds.lt PB10.out))
 have QB11:=Lib.hid (QB10.out.under hb (Holds.lt QB10.out))
 have Vj11:=Lib.hid (Vj10.out.under hb)
 have SB11:=Lib.hid (SB10.out.under hb (Holds.lt SB10.out))
 clear hb HB10 HM10 Vp10 Vq10 PB10 QB10 Vj10 SB10
 have HS11:Hid ((fun W=>Holds W s1 26 #[.slice Ap ap.length cp,.slice Bp bp.length dp,.bool ip]∧Holds W (s1+1) 26 #[.slice Aq aq.length cq,.slice Bq bq.length dq,.bool iq]∧Holds W s3 26 #[.slice Aj aj.length cj,.slice Bj bj.length dj,.bool ij]∧True) W11):=Lib.hid ⟨PB11.out,QB11.out,SB11.out,trivial⟩
 go_simp
 refine hK.out _ _ (HS11.out) (fun _=>?_)
 clear hK K hHeld
 try simp only [Act.put,List.setIfInBounds_toArray,List.set_cons_zero,List.set_cons_succ]
 have hHeld:(fun W=>Holds W s1 26 #[.slice Ap ap.length cp,.slice Bp bp.length dp,.bool ip]∧Holds W (s1+1) 26 #[.slice Aq aq.length cq,.slice Bq bq.length dq,.bool iq]∧Holds W s3 26 #[.slice Aj aj.length cj,.slice Bj bj.length dj,.bool ij]∧True) W11:=HS11.out
 refine wpAnyH_take (i:=2) (oi:={ dst:=some 23,op:=Op.move (Operand.tmp 22),type:=4,pos:=_,after:=_,guard:=none }) (v:=?_) rfl (by kernel_rfl) (by kernel_rfl) (by kernel_rfl) (fun _ _ _ h=>h) (Or.inl ⟨by rfl,?_⟩) hHeld ?_
 rotate_left 1
 ·(intro W hW;(try dsimp only at hW);go_simp;try with_reducible rfl)
 try simp only [Act.put,List.setIfInBounds_toArray,List.set_cons_zero,List.set_cons_succ]
 refine wpAnyH_take (i:=3) (oi:={ dst:=some 24,op:=Op.load 26 (Operand.tmp 7),type:=26,pos:=_,after:=_,guard:=some (2,true) }) (v:=?_) rfl (by kernel_rfl) (by kernel_rfl) (by kernel_rfl) (fun _ _ _ h=>h) (Or.inl ⟨by rfl,?_⟩) hHeld ?_
 rotate_left 1
 ·(intro W hW;have h0:=hW.2.2.1.cell 0;have h1:=hW.2.2.1.cell 1;have h2:=hW.2.2.1.cell 2;(try dsimp only at hW);go_simp;try with_reducible rfl)
 try simp only [Act.put,List.setIfInBounds_toArray,List.set_cons_zero,List.set_cons_succ]
 refine wpAnyH_take (i:=4) (oi:={ dst:=some 25,op:=Op.load 26 (Operand.tmp 5),type:=26,pos:=_,after:=_,guard:=some (2,true) }) (v:=?_) rfl (by kernel_rfl) (by kernel_rfl) (by kernel_rfl) (fun _ _ _ h=>h) (Or.inl ⟨by rfl,?_⟩) hHeld ?_
 rotate_left 1
 ·(intro W hW;have h0:=hW.1.cell 0;have h1:=hW.1.cell 1;have h2:=hW.1.cell 2;(try dsimp only at hW);go_simp;try with_reducible rfl)
 try simp only [Act.put,List.setIfInBounds_toArray,List.set_cons_zero,List.set_cons_succ]
 refine wpAnyH_take (i:=5) (oi:={ dst:=some 26,op:=Op.load 26 (Operand.tmp 6),type:=26,pos:=_,after:=_,guard:=some (2,true) }) (v:=?_) rfl (by kernel_rfl) (by kernel_rfl) (by kernel_rfl) (fun _ _ _ h=>h) (Or.inl ⟨by rfl,?_⟩) hHeld ?_
 rotate_left 1
 ·(intro W hW;have h0:=hW.2.1.cell 0;have h1:=hW.2.1.cell 1;have h2:=hW.2.1.cell 2;(try dsimp only at hW);go_simp;try with_reducible rfl)
 try simp only [Act.put,List.setIfInBounds_toArray,List.set_cons_zero,List.set_cons_succ]
 refine wpAnyH_ready (rs:=[6]) (by kernel_rfl) (by simp) ?_
 refine AllReadyH.cons (o:={ dst:=some 27,op:=Op.call { callee:=Callee.value (Operand.func 17),args:=#[Operand.tmp 25,Operand.tmp 26],argTypes:=#[26,26] },type:=26,pos:=_,after:=_,guard:=some (2,true) }) rfl (fun K hK=>?_) AllReadyH.nil
 go_simp
 refine (addRP W11 Vp11.out Vq11.out HOP.out HOQ.out).mono ?_
 rintro e W12 ⟨At,ct,at_,Bt,dt,bt,it,rfl,hq,hb⟩
 have HB12:=Lib.hid (HB11.out.trans (hb.mono HB11.out.size))
 have HM12:=Lib.hid (HM11.out.under hb)
 have Vp12:=Lib.hid (Vp11.out.under hb)
 have Vq12:=Lib.hid (Vq11.out.under hb)
 have PB12:=Lib.hid (PB11.out.under hb (Holds.lt PB11.out))
 have QB12:=Lib.hid (QB11.out.under hb (Holds.lt QB11.out))
 have Vj12:=Lib.hid (Vj11.out.under hb)
 have SB12:=Lib.hid (SB11.out.under hb (Holds.lt SB11.out))
 clear hb HB11 HM11 Vp11 Vq11 PB11 QB11 Vj11 SB11
 have Vt12:=Lib.hid hq
 clear hq
 have HS12:Hid ((fun W=>Holds W s1 26 #[.slice Ap ap.length cp,.slice Bp bp.length dp,.bool ip]∧Holds W (s1+1) 26 #[.slice Aq aq.length cq,.slice Bq bq.length dq,.bool iq]∧Holds W s3 26 #[.slice Aj aj.length cj,.slice Bj bj.length dj,.bool ij]∧True) W12):=Lib.hid ⟨PB12.out,QB12.out,SB12.out,trivial⟩
 go_simp
 refine hK.out _ _ (HS12.out) (fun _=>?_)
 clear hK K hHeld
 try simp only [Act.put,List.setIfInBounds_toArray,List.set_cons_zero,List.set_cons_succ]
 have hHeld:(fun W=>Holds W s1 26 #[.slice Ap ap.length cp,.slice Bp bp.length dp,.bool ip]∧Holds W (s1+1) 26 #[.slice Aq aq.length cq,.slice Bq bq.length dq,.bool iq]∧Holds W s3 26 #[.slice Aj aj.length cj,.slice Bj bj.length dj,.bool ij]∧True) W12:=HS12.out
 refine wpAnyH_ready (rs:=[7]) (by kernel_rfl) (by simp) ?_
 refine AllReadyH.cons (o:={ dst:=some 28,op:=Op.call { callee:=Callee.value (Operand.func 16),args:=#[Operand.tmp 24,Operand.tmp 27],argTypes:=#[26,26] },type:=4,pos:=_,after:=_,guard:=some (2,true) }) rfl (fun K hK=>?_) AllReadyH.nil
 go_simp
 refine (sameRP W12 Vj12.out Vt12.out).mono ?_
 rintro e W13 ⟨rfl,hb⟩
 have HB13:=Lib.hid (HB12.out.trans (hb.mono HB12.out.size))
 have HM13:=Lib.hid (HM12.out.under hb)
 have Vp13:=Lib.hid (Vp12.out.under hb)
 have Vq13:=Lib.hid (Vq12.out.under hb)
 have PB13:=Lib.hid (PB12.out.under hb (Holds.lt PB12.out))
 have QB13:=Lib.hid (QB12.out.under hb (Holds.lt QB12.out))
 have Vj13:=Lib.hid (Vj12.out.under hb)
 have SB13:=Lib.hid (SB12.out.under hb (Holds.lt SB12.out))
 have Vt13:=Lib.hid (Vt12.out.under hb)
 clear hb HB12 HM12 Vp12 Vq12 PB12 QB12 Vj12 SB12 Vt12
 have HS13:Hid ((fun W=>Holds W s1 26 #[.slice Ap ap.length cp,.slice Bp bp.length dp,.bool ip]∧Holds W (s1+1) 26 #[.slice Aq aq.length cq,.slice Bq bq.length dq,.bool iq]∧Holds W s3 26 #[.slice Aj aj.length cj,.slice Bj bj.length dj,.bool ij]∧True) W13):=Lib.hid ⟨PB13.out,QB13.out,SB13.out,trivial⟩
 go_simp
 refine hK.out _ _ (HS13.out) (fun _=>?_)
 clear hK K hHeld
 try simp only [Act.put,List.setIfInBounds_toArray,List.set_cons_zero,List.set_cons_succ]
 have hHeld:(fun W=>Holds W s1 26 #[.slice Ap ap.length cp,.slice Bp bp.length dp,.bool ip]∧Holds W (s1+1) 26 #[.slice Aq aq.length cq,.slice Bq bq.length dq,.bool iq]∧Holds W s3 26 #[.slice Aj aj.length cj,.slice Bj bj.length dj,.bool ij]∧True) W13:=HS13.out
 refine wpAnyH_take (i:=8) (oi:={ dst:=some 29,op:=Op.pick (Operand.tmp 23) (Operand.tmp 28) (Operand.const (Value.bool false)),type:=4,pos:=_,after:=_,guard:=none }) (v:=?_) rfl (by kernel_rfl) (by kernel_rfl) (by kernel_rfl) (fun _ _ _ h=>h) (Or.inl ⟨by rfl,?_⟩) hHeld ?_
 rotate_left 1
 ·(intro W hW;(try dsimp only at hW);go_simp;try with_reducible rfl)
 try simp only [Act.put,List.setIfInBounds_toArray,List.set_cons_zero,List.set_cons_succ]
 refine wpAnyH_take (i:=9) (oi:={ dst:=some 30,op:=Op.move (Operand.tmp 29),type:=4,pos:=_,after:=_,guard:=none }) (v:=?_) rfl (by kernel_rfl) (by kernel_rfl) (by kernel_rfl) (fun _ _ _ h=>h) (Or.inl ⟨by rfl,?_⟩) hHeld ?_
 rotate_left 1
 ·(intro W hW;(try dsimp only at hW);go_simp;try with_reducible rfl)
 try simp only [Act.put,List.setIfInBounds_toArray,List.set_cons_zero,List.set_cons_succ]
 refine wpAnyH_take (i:=10) (oi:={ dst:=some 31,op:=Op.load 26 (Operand.tmp 7),type:=26,pos:=_,after:=_,guard:=some (9,true) }) (v:=?_) rfl (by kernel_rfl) (by kernel_rfl) (by kernel_rfl) (fun _ _ _ h=>h) (Or.inl ⟨by rfl,?_⟩) hHeld ?_
 rotate_left 1
 ·(intro W hW;have h0:=hW.2.2.1.cell 0;have h1:=hW.2.2.1.cell 1;have h2:=hW.2.2.1.cell 2;(try dsimp only at hW);go_simp;try with_reducible rfl)
 try simp only [Act.put,List.setIfInBounds_toArray,List.set_cons_zero,List.set_cons_succ]
 refine wpAnyH_take (i:=11) (oi:={ dst:=some 32,op:=Op.load 26 (Operand.tmp 6),type:=26,pos:=_,after:=_,guard:=some (9,true) }) (v:=?_) rfl (by kernel_rfl) (by kernel_rfl) (by kernel_rfl) (fun _ _ _ h=>h) (Or.inl ⟨by rfl,?_⟩) hHeld ?_
 rotate_left 1
 ·(intro W hW;have h0:=hW.2.1.cell 0;have h1:=hW.2.1.cell 1;have h2:=hW.2.1.cell 2;(try dsimp only at hW);go_simp;try with_reducible rfl)
 try simp only [Act.put,List.setIfInBounds_toArray,List.set_cons_zero,List.set_cons_succ]
 refine wpAnyH_take (i:=12) (oi:={ dst:=some 33,op:=Op.load 26 (Operand.tmp 5),type:=26,pos:=_,after:=_,guard:=some (9,true) }) (v:=?_) rfl (by kernel_rfl) (by kernel_rfl) (by kernel_rfl) (fun _ _ _ h=>h) (Or.inl ⟨by rfl,?_⟩) hHeld ?_
 rotate_left 1
 ·(intro W hW;have h0:=hW.1.cell 0;have h1:=hW.1.cell 1;have h2:=hW.1.cell 2;(try dsimp only at hW);go_simp;try with_reducible rfl)
 try simp only [Act.put,List.setIfInBounds_toArray,List.set_cons_zero,List.set_cons_succ]
 refine wpAnyH_ready (rs:=[13]) (by kernel_rfl) (by simp) ?_
 refine AllReadyH.cons (o:={ dst:=some 34,op:=Op.call { callee:=Callee.value (Operand.func 14),args:=#[Operand.tmp 32,Operand.tmp 33],argTypes:=#[26,26] },type:=26,pos:=_,after:=_,guard:=some (9,true) }) rfl (fun K hK=>?_) AllReadyH.nil
 go_simp
 refine (addP W13 HM13.out Vq13.out Vp13.out HOQ.out HOP.out).mono ?_
 rintro e W14 ⟨Au,cu,au,Bu,du,bu,iu,rfl,hq,hb⟩
 have HB14:=Lib.hid (HB13.out.trans (hb.mono HB13.out.size))
 have HM14:=Lib.hid (HM13.out.under hb)
 have Vp14:=Lib.hid (Vp13.out.under hb)
 have Vq14:=Lib.hid (Vq13.out.under hb)
 have PB14:=Lib.hid (PB13.out.under hb (Holds.lt PB13.out))
 have QB14:=Lib.hid (QB13.out.under hb (Holds.lt QB13.out))
 have Vj14:=Lib.hid (Vj13.out.under hb)
 have SB14:=Lib.hid (SB13.out.under hb (Holds.lt SB13.out))
 have Vt14:=Lib.hid (Vt13.out.under hb)
 clear hb HB13 HM13 Vp13 Vq13 PB13 QB13 Vj13 SB13 Vt13
 rw [Luc.add_comm HOQ.out HOP.out] at hq
 have Vu14:=Lib.hid hq
 clear hq
 have HS14:Hid ((fun W=>Holds W s1 26 #[.slice Ap ap.length cp,.slice Bp bp.length dp,.bool ip]∧Holds W (s1+1) 26 #[.slice Aq aq.length cq,.slice Bq bq.length dq,.bool iq]∧Holds W s3 26 #[.slice Aj aj.length cj,.slice Bj bj.length dj,.bool ij]∧True) W14):=Lib.hid ⟨PB14.out,QB14.out,SB14.out,trivial⟩
 go_simp
 refine hK.out _ _ (HS14.out) (fun _=>?_)
 clear hK K hHeld
 try simp only [Act.put,List.setIfInBounds_toArray,List.set_cons_zero,List.set_cons_succ]
 have hHeld:(fun W=>Holds W s1 26 #[.slice Ap ap.length cp,.slice Bp bp.length dp,.bool ip]∧Holds W (s1+1) 26 #[.slice Aq aq.length cq,.slice Bq bq.length dq,.bool iq]∧Holds W s3 26 #[.slice Aj aj.length cj,.slice Bj bj.length dj,.bool ij]∧True) W14:=HS14.out
 refine wpAnyH_ready (rs:=[14]) (by kernel_rfl) (by simp) ?_
 refine AllReadyH.cons (o:={ dst:=some 35,op:=Op.call { callee:=Callee.value (Operand.func 18),args:=#[Operand.tmp 31,Operand.tmp 34],argTypes:=#[26,26] },type:=4,pos:=_,after:=_,guard:=some (9,true) }) rfl (fun K hK=>?_) AllReadyH.nil
 go_simp
 refine (sameP W14 Vj14.out Vu14.out).mono ?_
 rintro e W15 ⟨rfl,hb⟩
 have HB15:=Lib.hid (HB14.out.trans (hb.mono HB14.out.size))
 have HM15:=Lib.hid (HM14.out.under hb)
 have Vp15:=Lib.hid (Vp14.out.under hb)
 have Vq15:=Lib.hid (Vq14.out.under hb)
 have PB15:=Lib.hid (PB14.out.under hb (Holds.lt PB14.out))
 have QB15:=Lib.hid (QB14.out.under hb (Holds.lt QB14.out))
 have Vj15:=Lib.hid (Vj14.out.under hb)
 have SB15:=Lib.hid (SB14.out.under hb (Holds.lt SB14.out))
 have Vt15:=Lib.hid (Vt14.out.under hb)
 have Vu15:=Lib.hid (Vu14.out.under hb)
 clear hb HB14 HM14 Vp14 Vq14 PB14 QB14 Vj14 SB14 Vt14 Vu14
 have HS15:Hid ((fun W=>Holds W s1 26 #[.slice Ap ap.length cp,.slice Bp bp.length dp,.bool ip]∧Holds W (s1+1) 26 #[.slice Aq aq.length cq,.slice Bq bq.length dq,.bool iq]∧Holds W s3 26 #[.slice Aj aj.length cj,.slice Bj bj.length dj,.bool ij]∧True) W15):=Lib.hid ⟨PB15.out,QB15.out,SB15.out,trivial⟩
 go_simp
 refine hK.out _ _ (HS15.out) (fun _=>?_)
 clear hK K hHeld
 try simp only [Act.put,List.setIfInBounds_toArray,List.set_cons_zero,List.set_cons_succ]
 have hHeld:(fun W=>Holds W s1 26 #[.slice Ap ap.length cp,.slice Bp bp.length dp,.bool ip]∧Holds W (s1+1) 26 #[.slice Aq aq.length cq,.slice Bq bq.length dq,.bool iq]∧Holds W s3 26 #[.slice Aj aj.length cj,.slice Bj bj.length dj,.bool ij]∧True) W15:=HS15.out
 refine wpAnyH_take (i:=15) (oi:={ dst:=some 36,op:=Op.pick (Operand.tmp 30) (Operand.tmp 35) (Operand.const (Value.bool false)),type:=4,pos:=_,after:=_,guard:=none }) (v:=?_) rfl (by kernel_rfl) (by kernel_rfl) (by kernel_rfl) (fun _ _ _ h=>h) (Or.inl ⟨by rfl,?_⟩) hHeld ?_
 rotate_left 1
 ·(intro W hW;(try dsimp only at hW);go_simp;try with_reducible rfl)
 try simp only [Act.put,List.setIfInBounds_toArray,List.set_cons_zero,List.set_cons_succ]
 refine wpAnyH_take (i:=16) (oi:={ dst:=some 37,op:=Op.move (Operand.tmp 36),type:=4,pos:=_,after:=_,guard:=none }) (v:=?_) rfl (by kernel_rfl) (by kernel_rfl) (by kernel_rfl) (fun _ _ _ h=>h) (Or.inl ⟨by rfl,?_⟩) hHeld ?_
 rotate_left 1
 ·(intro W hW;(try dsimp only at hW);go_simp;try with_reducible rfl)
 try simp only [Act.put,List.setIfInBounds_toArray,List.set_cons_zero,List.set_cons_succ]
 refine wpAnyH_take (i:=17) (oi:={ dst:=some 38,op:=Op.load 26 (Operand.tmp 7),type:=26,pos:=_,after:=_,guard:=some (16,true) }) (v:=?_) rfl (by kernel_rfl) (by kernel_rfl) (by kernel_rfl) (fun _ _ _ h=>h) (Or.inl ⟨by rfl,?_⟩) hHeld ?_
 rotate_left 1
 ·(intro W hW;have h0:=hW.2.2.1.cell 0;have h1:=hW.2.2.1.cell 1;have h2:=hW.2.2.1.cell 2;(try dsimp only at hW);go_simp;try with_reducible rfl)
 try simp only [Act.put,List.setIfInBounds_toArray,List.set_cons_zero,List.set_cons_succ]
 refine wpAnyH_ready (rs:=[18]) (by kernel_rfl) (by simp) ?_
 refine AllReadyH.cons (o:={ dst:=some 39,op:=Op.call { callee:=Callee.value (Operand.func 19),args:=#[Operand.tmp 38],argTypes:=#[26] },type:=4,pos:=_,after:=_,guard:=some (16,true) }) rfl (fun K hK=>?_) AllReadyH.nil
 go_simp
 refine (isP W15 HM15.out Vj15.out (Luc.add_on HOP.out HOQ.out)).mono ?_
 rintro e W16 ⟨rfl,hb⟩
 have HB16:=Lib.hid (HB15.out.trans (hb.mono HB15.out.size))
 have HM16:=Lib.hid (HM15.out.under hb)
 have Vp16:=Lib.hid (Vp15.out.under hb)
 have Vq16:=Lib.hid (Vq15.out.under hb)
 have PB16:=Lib.hid (PB15.out.under hb (Holds.lt PB15.out))
 have QB16:=Lib.hid (QB15.out.under hb (Holds.lt QB15.out))
 have Vj16:=Lib.hid (Vj15.out.under hb)
 have SB16:=Lib.hid (SB15.out.under hb (Holds.lt SB15.out))
 have Vt16:=Lib.hid (Vt15.out.under hb)
 have Vu16:=Lib.hid (Vu15.out.under hb)
 clear hb HB15 HM15 Vp15 Vq15 PB15 QB15 Vj15 SB15 Vt15 Vu15
 have HS16:Hid ((fun W=>Holds W s1 26 #[.slice Ap ap.length cp,.slice Bp bp.length dp,.bool ip]∧Holds W (s1+1) 26 #[.slice Aq aq.length cq,.slice Bq bq.length dq,.bool iq]∧Holds W s3 26 #[.slice Aj aj.length cj,.slice Bj bj.length dj,.bool ij]∧True) W16):=Lib.hid ⟨PB16.out,QB16.out,SB16.out,trivial⟩
 go_simp
 refine hK.out _ _ (HS16.out) (fun _=>?_)
 clear hK K hHeld
 try simp only [Act.put,List.setIfInBounds_toArray,List.set_cons_zero,List.set_cons_succ]
 have hHeld:(fun W=>Holds W s1 26 #[.slice Ap ap.length cp,.slice Bp bp.length dp,.bool ip]∧Holds W (s1+1) 26 #[.slice Aq aq.length cq,.slice Bq bq.length dq,.bool iq]∧Holds W s3 26 #[.slice Aj aj.length cj,.slice Bj bj.length dj,.bool ij]∧True) W16:=HS16.out
 refine wpAnyH_take (i:=19) (oi:={ dst:=some 40,op:=Op.pick (Operand.tmp 37) (Operand.tmp 39) (Operand.const (Value.bool false)),type:=4,pos:=_,after:=_,guard:=none }) (v:=?_) rfl (by kernel_rfl) (by kernel_rfl) (by kernel_rfl) (fun _ _ _ h=>h) (Or.inl ⟨by rfl,?_⟩) hHeld ?_
 rotate_left 1
 ·(intro W hW;(try dsimp only at hW);go_simp;try with_reducible rfl)
 try simp only [Act.put,List.setIfInBounds_toArray,List.set_cons_zero,List.set_cons_succ]
 refine wpAnyH_take (i:=20) (oi:={ dst:=some 41,op:=Op.move (Operand.tmp 40),type:=4,pos:=_,after:=_,guard:=none }) (v:=?_) rfl (by kernel_rfl) (by kernel_rfl) (by kernel_rfl) (fun _ _ _ h=>h) (Or.inl ⟨by rfl,?_⟩) hHeld ?_
 rotate_left 1
 ·(intro W hW;(try dsimp only at hW);go_simp;try with_reducible rfl)
 try simp only [Act.put,List.setIfInBounds_toArray,List.set_cons_zero,List.set_cons_succ]
 refine wpAnyH_ready (rs:=[21]) (by kernel_rfl) (by simp) ?_
 refine AllReadyH.cons (o:={ dst:=some 42,op:=Op.call { callee:=Callee.value (Operand.func 20),args:=#[],argTypes:=#[] },type:=4,pos:=_,after:=_,guard:=some (20,true) }) rfl (fun K hK=>?_) AllReadyH.nil
 go_simp
 refine (known10_any W16 HM16.out).mono ?_
 rintro e W17 ⟨rfl,hb⟩
 have HB17:=Lib.hid (HB16.out.trans (hb.mono HB16.out.size))
 have HM17:=Lib.hid (HM16.out.under hb)
 have Vp17:=Lib.hid (Vp16.out.under hb)
 have Vq17:=Lib.hid (Vq16.out.under hb)
 have PB17:=Lib.hid (PB16.out.under hb (Holds.lt PB16.out))
 have QB17:=Lib.hid (QB16.out.under hb (Holds.lt QB16.out))
 have Vj17:=Lib.hid (Vj16.out.under hb)
 have SB17:=Lib.hid (SB16.out.under hb (Holds.lt SB16.out))
 have Vt17:=Lib.hid (Vt16.out.under hb)
 have Vu17:=Lib.hid (Vu16.out.under hb)
 clear hb HB16 HM16 Vp16 Vq16 PB16 QB16 Vj16 SB16 Vt16 Vu16
 have HS17:Hid ((fun W=>Holds W s1 26 #[.slice Ap ap.length cp,.slice Bp bp.length dp,.bool ip]∧Holds W (s1+1) 26 #[.slice Aq aq.length cq,.slice Bq bq.length dq,.bool iq]∧Holds W s3 26 #[.slice Aj aj.length cj,.slice Bj bj.length dj,.bool ij]∧True) W17):=Lib.hid ⟨PB17.out,QB17.out,SB17.out,trivial⟩
 go_simp
 refine hK.out _ _ (HS17.out) (fun _=>?_)
 clear hK K hHeld
 try simp only [Act.put,List.setIfInBounds_toArray,List.set_cons_zero,List.set_cons_succ]
 have hHeld:(fun W=>Holds W s1 26 #[.slice Ap ap.length cp,.slice Bp bp.length dp,.bool ip]∧Holds W (s1+1) 26 #[.slice Aq aq.length cq,.slice Bq bq.length dq,.bool iq]∧Holds W s3 26 #[.slice Aj aj.length cj,.slice Bj bj.length dj,.bool ij]∧True) W17:=HS17.out
 refine wpAnyH_take (i:=22) (oi:={ dst:=some 43,op:=Op.pick (Operand.tmp 41) (Operand.tmp 42) (Operand.const (Value.bool false)),type:=4,pos:=_,after:=_,guard:=none }) (v:=?_) rfl (by kernel_rfl) (by kernel_rfl) (by kernel_rfl) (fun _ _ _ h=>h) (Or.inl ⟨by rfl,?_⟩) hHeld ?_
 rotate_left 1
 ·(intro W hW;(try dsimp only at hW);go_simp;try with_reducible rfl)
 try simp only [Act.put,List.setIfInBounds_toArray,List.set_cons_zero,List.set_cons_succ]
 refine wpAnyH_take (i:=23) (oi:={ dst:=some 4,op:=Op.assign (Operand.tmp 43),type:=4,pos:=_,after:=_,guard:=none }) (v:=?_) rfl (by kernel_rfl) (by kernel_rfl) (by kernel_rfl) (fun _ _ _ h=>h) (Or.inl ⟨by rfl,?_⟩) hHeld ?_
 rotate_left 1
 ·(intro W hW;(try dsimp only at hW);go_simp;try with_reducible rfl)
 try simp only [Act.put,List.setIfInBounds_toArray,List.set_cons_zero,List.set_cons_succ]
 refine wpAnyH_done (by kernel_rfl) ?_ _
 refine NoPanic.normal ?_
 go_wp2_with fail
 go_ret
 exact ⟨rfl,HB17.out⟩
theorem law_addsN (w:World) (hm:CMet w) (x y:Int) (hx:0≤x∧x<4294967296) (hy:0≤y∧y<4294967296) :
  Calls Tryd.prog 3 #[.int .u32 x,.int .u32 y] w fun e w'=>e = .returned (.bool true)∧Below w.heap.size w w':=by
 obtain ⟨k,rfl⟩:∃ k:Nat,x=(k:Int):=⟨x.toNat,by omega⟩
 obtain ⟨m,rfl⟩:∃ m:Nat,y=(m:Int):=⟨y.toNat,by omega⟩
 exact law_adds w hm k m (by omega) (by omega)
end Go.Proofs.YtflfdglpljodbaaDoor

