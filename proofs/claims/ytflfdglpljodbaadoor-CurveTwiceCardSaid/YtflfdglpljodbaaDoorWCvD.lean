/-
  A number twice; a point, wide. Numbers out of the field. The inverse of a number of the field. A wide point, flat. The program's numbers of the field, as the field's.
-/
import Derived.Test.YtflfdglpljodbaaDoorWCvC
import Derived.Deep.RegionLaw
import Derived.Deep.RegionHeld3
import Derived.Deep.DrawnRows
import Derived.Test.YtflfdglpljodbaaDoorWCv9
import Derived.Test.YtflfdglpljodbaaDoorWOwn
import Derived.Test.YtflfdglpljodbaaDoorWNatB
import Derived.Test.YtflfdglpljodbaaDoorWModM
import Derived.Test.YtflfdglpljodbaaDoorWLucM
set_option maxHeartbeats 8000000
set_option maxRecDepth 100000
namespace Go.Proofs.YtflfdglpljodbaaDoor
open Go.RowKit
set_option linter.unusedVariables false
set_option linter.unusedSimpArgs false
theorem set12 {w:World} {g:Nat} {t:TypeId} {v0 v1 v2 v3 v4 v5 v6 v7 v8 v9 v10 v11:Value} (h:Holds w g t #[v0,v1,v2,v3,v4,v5,v6,v7,v8,v9,v10,v11]) (p0 p1 p2 p3 p4 p5 p6 p7 p8 p9 p10 p11:Value):Holds ((((((((((((w.setCell ⟨g,0,none⟩ p0).setCell ⟨g,1,none⟩ p1).setCell ⟨g,2,none⟩ p2).setCell ⟨g,3,none⟩ p3).setCell ⟨g,4,none⟩ p4).setCell ⟨g,5,none⟩ p5).setCell ⟨g,6,none⟩ p6).setCell ⟨g,7,none⟩ p7).setCell ⟨g,8,none⟩ p8).setCell ⟨g,9,none⟩ p9).setCell ⟨g,10,none⟩ p10).setCell ⟨g,11,none⟩ p11) g t #[p0,p1,p2,p3,p4,p5,p6,p7,p8,p9,p10,p11]:=by
 have h0:Holds (w.setCell ⟨g,0,none⟩ p0) g t #[p0,v1,v2,v3,v4,v5,v6,v7,v8,v9,v10,v11]:=h.stored 0 p0
 have h1:Holds ((w.setCell ⟨g,0,none⟩ p0).setCell ⟨g,1,none⟩ p1) g t #[p0,p1,v2,v3,v4,v5,v6,v7,v8,v9,v10,v11]:=h0.stored 1 p1
 have h2:Holds (((w.setCell ⟨g,0,none⟩ p0).setCell ⟨g,1,none⟩ p1).setCell ⟨g,2,none⟩ p2) g t #[p0,p1,p2,v3,v4,v5,v6,v7,v8,v9,v10,v11]:=h1.stored 2 p2
 have h3:Holds ((((w.setCell ⟨g,0,none⟩ p0).setCell ⟨g,1,none⟩ p1).setCell ⟨g,2,none⟩ p2).setCell ⟨g,3,none⟩ p3) g t #[p0,p1,p2,p3,v4,v5,v6,v7,v8,v9,v10,v11]:=h2.stored 3 p3
 have h4:Holds (((((w.setCell ⟨g,0,none⟩ p0).setCell ⟨g,1,none⟩ p1).setCell ⟨g,2,none⟩ p2).setCell ⟨g,3,none⟩ p3).setCell ⟨g,4,none⟩ p4) g t #[p0,p1,p2,p3,p4,v5,v6,v7,v8,v9,v10,v11]:=h3.stored 4 p4
 have h5:Holds ((((((w.setCell ⟨g,0,none⟩ p0).setCell ⟨g,1,none⟩ p1).setCell ⟨g,2,none⟩ p2).setCell ⟨g,3,none⟩ p3).setCell ⟨g,4,none⟩ p4).setCell ⟨g,5,none⟩ p5) g t #[p0,p1,p2,p3,p4,p5,v6,v7,v8,v9,v10,v11]:=h4.stored 5 p5
 have h6:Holds (((((((w.setCell ⟨g,0,none⟩ p0).setCell ⟨g,1,none⟩ p1).setCell ⟨g,2,none⟩ p2).setCell ⟨g,3,none⟩ p3).setCell ⟨g,4,none⟩ p4).setCell ⟨g,5,none⟩ p5).setCell ⟨g,6,none⟩ p6) g t #[p0,p1,p2,p3,p4,p5,p6,v7,v8,v9,v10,v11]:=h5.stored 6 p6
 have h7:Holds ((((((((w.setCell ⟨g,0,none⟩ p0).setCell ⟨g,1,none⟩ p1).setCell ⟨g,2,none⟩ p2).setCell ⟨g,3,none⟩ p3).setCell ⟨g,4,none⟩ p4).setCell ⟨g,5,none⟩ p5).setCell ⟨g,6,none⟩ p6).setCell ⟨g,7,none⟩ p7) g t #[p0,p1,p2,p3,p4,p5,p6,p7,v8,v9,v10,v11]:=h6.stored 7 p7
 have h8:Holds (((((((((w.setCell ⟨g,0,none⟩ p0).setCell ⟨g,1,none⟩ p1).setCell ⟨g,2,none⟩ p2).setCell ⟨g,3,none⟩ p3).setCell ⟨g,4,none⟩ p4).setCell ⟨g,5,none⟩ p5).setCell ⟨g,6,none⟩ p6).setCell ⟨g,7,none⟩ p7).setCell ⟨g,8,none⟩ p8) g t #[p0,p1,p2,p3,p4,p5,p6,p7,p8,v9,v10,v11]:=h7.stored 8 p8
 have h9:Holds ((((((((((w.setCell ⟨g,0,none⟩ p0).setCell ⟨g,1,none⟩ p1).setCell ⟨g,2,none⟩ p2).setCell ⟨g,3,none⟩ p3).setCell ⟨g,4,none⟩ p4).setCell ⟨g,5,none⟩ p5).setCell ⟨g,6,none⟩ p6).setCell ⟨g,7,none⟩ p7).setCell ⟨g,8,none⟩ p8).setCell ⟨g,9,none⟩ p9) g t #[p0,p1,p2,p3,p4,p5,p6,p7,p8,p9,v10,v11]:=h8.stored 9 p9
 have h10:Holds (((((((((((w.setCell ⟨g,0,none⟩ p0).setCell ⟨g,1,none⟩ p1).setCell ⟨g,2,none⟩ p2).setCell ⟨g,3,none⟩ p3).setCell ⟨g,4,none⟩ p4).setCell ⟨g,5,none⟩ p5).setCell ⟨g,6,none⟩ p6).setCell ⟨g,7,none⟩ p7).setCell ⟨g,8,none⟩ p8).setCell ⟨g,9,none⟩ p9).setCell ⟨g,10,none⟩ p10) g t #[p0,p1,p2,p3,p4,p5,p6,p7,p8,p9,p10,v11]:=h9.stored 10 p10
 have h11:Holds ((((((((((((w.setCell ⟨g,0,none⟩ p0).setCell ⟨g,1,none⟩ p1).setCell ⟨g,2,none⟩ p2).setCell ⟨g,3,none⟩ p3).setCell ⟨g,4,none⟩ p4).setCell ⟨g,5,none⟩ p5).setCell ⟨g,6,none⟩ p6).setCell ⟨g,7,none⟩ p7).setCell ⟨g,8,none⟩ p8).setCell ⟨g,9,none⟩ p9).setCell ⟨g,10,none⟩ p10).setCell ⟨g,11,none⟩ p11) g t #[p0,p1,p2,p3,p4,p5,p6,p7,p8,p9,p10,p11]:=h10.stored 11 p11
 exact h11
theorem below12 {B:Nat} {a w:World} (h:Below B a w) {g:Nat} (hg:B≤g) (p0 p1 p2 p3 p4 p5 p6 p7 p8 p9 p10 p11:Value):Below B a ((((((((((((w.setCell ⟨g,0,none⟩ p0).setCell ⟨g,1,none⟩ p1).setCell ⟨g,2,none⟩ p2).setCell ⟨g,3,none⟩ p3).setCell ⟨g,4,none⟩ p4).setCell ⟨g,5,none⟩ p5).setCell ⟨g,6,none⟩ p6).setCell ⟨g,7,none⟩ p7).setCell ⟨g,8,none⟩ p8).setCell ⟨g,9,none⟩ p9).setCell ⟨g,10,none⟩ p10).setCell ⟨g,11,none⟩ p11) :=
 ((((((((((((h.setCell (p:=⟨g,0,none⟩) hg p0).setCell (p:=⟨g,1,none⟩) hg p1).setCell (p:=⟨g,2,none⟩) hg p2).setCell (p:=⟨g,3,none⟩) hg p3).setCell (p:=⟨g,4,none⟩) hg p4).setCell (p:=⟨g,5,none⟩) hg p5).setCell (p:=⟨g,6,none⟩) hg p6).setCell (p:=⟨g,7,none⟩) hg p7).setCell (p:=⟨g,8,none⟩) hg p8).setCell (p:=⟨g,9,none⟩) hg p9).setCell (p:=⟨g,10,none⟩) hg p10).setCell (p:=⟨g,11,none⟩) hg p11)
theorem ret_wd {R:Ending→World→Prop} {tmps:Array Value} {w:World} {g:Nat} {t:TypeId} {cs:Array Value} {fn:Func} {p:Tmp}
  (hr:fn.results=#[.cell p 69]) (hp:tmps.getD p undef = .pointer (some ⟨g,0,none⟩)) (hg:Holds w g t cs) (hcs:cs.size=12) (hR:R (.returned (.agg cs)) w) :
  bodyPost Tryd.prog fn R .ret { tmps:=tmps,defers:=[] } w:=by
 have hi:(Tryd.prog.info? 69).map (·.size)=some cs.size:=by rw [hcs];kernel_rfl
 refine bodyPost_ret (v:=.agg cs) ?_ rfl hR
 have hp':tmps[p]?.getD undef = .pointer (some ⟨g,0,none⟩):=by simpa using hp
 simp [results,hr,hp',asAddr,run_loadVar_row w g t _ cs (0,0) _ hg Tryd.underlying69 rfl hi,Result.andThen]
theorem twiceN (w:World) (hm:CMet w) (X:Nat) (hX:X<cP) {x0 x1 x2 x3 z0 z1 z2 z3:Nat} (hx:nm X=[x0,x1,x2,x3]) (hz:nm ((X+X) % cP)=[z0,z1,z2,z3]) :
  Calls Tryd.prog 78 #[.agg #[.int .u64 (x0:Int),.int .u64 (x1:Int),.int .u64 (x2:Int),.int .u64 (x3:Int)]] w fun e w'=>e = .returned (.agg #[.int .u64 (z0:Int),.int .u64 (z1:Int),.int .u64 (z2:Int),.int .u64 (z3:Int)])∧Below w.heap.size w w':=by
 have HM:=lH hm
 have HX:=lH hx
 have HZ:=lH hz
 have HL:=lH hX
 clear hm hx hz hX
 go_enter Tryd.func78,Tryd.ntmps78
 go_wp2_with fail
 obtain ⟨w1,hw1⟩:∃ W,W=w.alloc (.cells #[.int .u64 (x0:Int),.int .u64 (x1:Int),.int .u64 (x2:Int),.int .u64 (x3:Int)] 67):=⟨_,rfl⟩
 rw [←hw1]
 have hz1:w1.heap.size=w.heap.size+1:=by rw [hw1];simp
 have hb1:Below w.heap.size w w1:=by rw [hw1];exact (Below.refl _ _).alloc (Nat.le_refl _) _
 obtain ⟨w2,hw2⟩:∃ W,W=w1.alloc (.cells #[.int .u64 0,.int .u64 0,.int .u64 0,.int .u64 0] 67):=⟨_,rfl⟩
 rw [←hw2]
 have hR:Holds w2 (w.heap.size+1) 67 #[.int .u64 0,.int .u64 0,.int .u64 0,.int .u64 0]:=by rw [hw2,←hz1];exact Holds.fresh w1 _ _
 have hb2:Below w.heap.size w w2:=by rw [hw2];exact hb1.alloc hb1.size _
 refine (addN w2 (HM.out.under hb2) X X HL.out HL.out HX.out HX.out HZ.out).mono ?_
 rintro e w3 ⟨rfl,hb3⟩
 have hr3:=hR.under hb3 (Holds.lt hR)
 have HR3:=lH hr3
 have HB3:=lH (hb2.trans (hb3.mono hb2.size))
 clear hw1 hz1 hb1 hw2 hR hb2 hb3
 have z0:=hr3.cell 0
 have o0:=hr3.open_ 0
 have z1:=hr3.cell 1
 have o1:=hr3.open_ 1
 have z2:=hr3.cell 2
 have o2:=hr3.open_ 2
 have z3:=hr3.cell 3
 have o3:=hr3.open_ 3
 clear hr3
 go_wp2_with fail
 exact ret_num (g:=w.heap.size+1) rfl rfl (set4 HR3.out _ _ _ _) rfl ⟨rfl,below4 HB3.out (by omega) _ _ _ _⟩
theorem wideOf_any (w:World) (hm:CMet w) (Ax Ay:Option Addr) (cx cy:Nat) (lx ly:List Nat) (hx:Rd .u32 w w.heap.size Ax cx lx) (hy:Rd .u32 w w.heap.size Ay cy ly) (hdx:Dg lx) (hdy:Dg ly) (hlx:lx.length≤8) (hly:ly.length≤8)
  {x0 x1 x2 x3 y0 y1 y2 y3 u0 u1 u2 u3:Nat} (hxd:nm (enc (val lx))=[x0,x1,x2,x3]) (hyd:nm (enc (val ly))=[y0,y1,y2,y3]) (hud:nm (enc 1)=[u0,u1,u2,u3]) :
  Calls Tryd.prog 43 #[.agg #[.slice Ax lx.length cx,.slice Ay ly.length cy,.bool false]] w fun e w'=>e = .returned (.agg #[.int .u64 (x0:Int),.int .u64 (x1:Int),.int .u64 (x2:Int),.int .u64 (x3:Int),.int .u64 (y0:Int),.int .u64 (y1:Int),.int .u64 (y2:Int),.int .u64 (y3:Int),.int .u64 (u0:Int),.int .u64 (u1:Int),.int .u64 (u2:Int),.int .u64 (u3:Int)])∧Below w.heap.size w w':=by
 obtain ⟨w1,hw1⟩:∃ W,W=w.alloc (.cells #[.slice Ax lx.length cx,.slice Ay ly.length cy,.bool false] 26):=⟨_,rfl⟩
 have hz1:w1.heap.size=w.heap.size+1:=by rw [hw1];simp
 have hb1:Below w.heap.size w w1:=by rw [hw1];exact (Below.refl _ _).alloc (Nat.le_refl _) _
 have hB1:BoxAt w1 w.heap.size Ax lx.length cx Ay ly.length cy false:=by rw [hw1];exact ⟨Holds.fresh w _ _⟩
 obtain ⟨w2,hw2⟩:∃ W,W=w1.alloc (.cells #[.int .u64 0,.int .u64 0,.int .u64 0,.int .u64 0,.int .u64 0,.int .u64 0,.int .u64 0,.int .u64 0,.int .u64 0,.int .u64 0,.int .u64 0,.int .u64 0] 69):=⟨_,rfl⟩
 have hb2:Below w.heap.size w w2:=by rw [hw2];exact hb1.alloc hb1.size _
 have hBX:BoxAt w2 w.heap.size Ax lx.length cx Ay ly.length cy false:=by rw [hw2];exact ⟨hB1.h.alloc _⟩
 have hRS:Holds w2 (w.heap.size+1) 69 #[.int .u64 0,.int .u64 0,.int .u64 0,.int .u64 0,.int .u64 0,.int .u64 0,.int .u64 0,.int .u64 0,.int .u64 0,.int .u64 0,.int .u64 0,.int .u64 0]:=by rw [hw2,←hz1];exact Holds.fresh w1 _ _
 have hsz:w.heap.size+1≤w2.heap.size:=by rw [hw2];simp;omega
 have HBX:=lH hBX
 have HRS:=lH hRS
 have HB:=lH hb2
 have HW:=lH (hw1 ▸ hw2:w2=(w.alloc (.cells #[.slice Ax lx.length cx,.slice Ay ly.length cy,.bool false] 26)).alloc (.cells #[.int .u64 0,.int .u64 0,.int .u64 0,.int .u64 0,.int .u64 0,.int .u64 0,.int .u64 0,.int .u64 0,.int .u64 0,.int .u64 0,.int .u64 0,.int .u64 0] 69))
 have HX:=lH hx
 have HY:=lH hy
 have HDX:=lH hdx
 have HDY:=lH hdy
 have HLX:=lH hlx
 have HLY:=lH hly
 have HM:=lH hm
 have Hx:=lH hxd
 have Hy:=lH hyd
 have Hu:=lH hud
 clear hBX hRS hb1 hb2 hB1 hw1 hw2 hz1 hx hy hdx hdy hm hxd hyd hud hlx hly
 go_enter Tryd.func43,Tryd.ntmps43
 go_wp2_with fail
 rw [←HW.out]
 obtain ⟨b0,b1,b2⟩:=HBX.out.cells
 go_wp2_with fail
 clear b0 b1 b2
 refine wp_region_noPanic ?_
 refine wp_region_held_drew (S:=fun W=>Below (w.heap.size+1) w2 W) (by kernel_rfl) ((Below.refl _ w2).drew) (fun hHeld=>?_)
 obtain ⟨V,hV⟩:∃ W,W=w2.drew:=⟨_,rfl⟩
 rw [←hV]
 have HSV:Hid (Below (w.heap.size+1) w2 V):=lH (by rw [hV];exact (Below.refl _ w2).drew)
 have HRV:Hid (Holds V (w.heap.size+1) 69 #[.int .u64 0,.int .u64 0,.int .u64 0,.int .u64 0,.int .u64 0,.int .u64 0,.int .u64 0,.int .u64 0,.int .u64 0,.int .u64 0,.int .u64 0,.int .u64 0]):=lH (by rw [hV];exact HRS.out)
 replace hHeld:(fun W=>Below (w.heap.size+1) w2 W) V:=HSV.out
 clear hV
 refine tk 0 ⟨some 6,.fieldAddr 26 (.tmp 1) 0,0,_,_,none⟩ ?_ rfl ?_ hHeld ?_
 rotate_left 1
 ·(intro W hW;(try dsimp only at hW);go_simp;try with_reducible rfl)
 try simp only [aP]
 refine tk 1 ⟨some 7,.load 24 (.tmp 6),24,_,_,none⟩ ?_ rfl ?_ hHeld ?_
 rotate_left 1
 ·(intro W hW;have hBC:=(HBX.out.under hW (Nat.lt_succ_self _)).cells;obtain ⟨b0,b1,b2⟩:=hBC;(try dsimp only at hW);go_simp;try with_reducible rfl)
 try simp only [aP]
 refine tk 3 ⟨some 9,.fieldAddr 26 (.tmp 1) 1,0,_,_,none⟩ ?_ rfl ?_ hHeld ?_
 rotate_left 1
 ·(intro W hW;(try dsimp only at hW);go_simp;try with_reducible rfl)
 try simp only [aP]
 refine tk 4 ⟨some 10,.load 24 (.tmp 9),24,_,_,none⟩ ?_ rfl ?_ hHeld ?_
 rotate_left 1
 ·(intro W hW;have hBC:=(HBX.out.under hW (Nat.lt_succ_self _)).cells;obtain ⟨b0,b1,b2⟩:=hBC;(try dsimp only at hW);go_simp;try with_reducible rfl)
 try simp only [aP]
 refine tk 6 ⟨some 12,.load 67 (.global 0),67,_,_,none⟩ ?_ rfl ?_ hHeld ?_
 rotate_left 1
 ·(intro W hW;have hBC:=unit_cells (HM.out.under (HB.out.trans (hW.mono (Nat.le_succ _)))) Hu.out;obtain ⟨b0,b1,b2,b3⟩:=hBC;(try dsimp only at hW);go_simp;try with_reducible rfl)
 try simp only [aP]
 refine rdy 2 ⟨some 8,.call ⟨ .value (.func 54),#[.tmp 7],#[24]⟩,67,_,_,none⟩ rfl (fun K hK=>?_)
 go_simp
 refine (enterN V (HM.out.under (HB.out.trans (HSV.out.mono (Nat.le_succ _)))) w.heap.size cx Ax lx (HB.out.trans (HSV.out.mono (Nat.le_succ _))).size (HX.out.under (HB.out.trans (HSV.out.mono (Nat.le_succ _)))) HLX.out HDX.out Hx.out).mono ?_
 rintro e V1 ⟨rfl,hbN⟩
 have HSV1:Hid (Below (w.heap.size+1) w2 V1):=lH (HSV.out.trans (hbN.mono (Nat.le_trans hsz HSV.out.size)))
 have HRV1:=lH (HRV.out.under hbN (Holds.lt HRV.out))
 clear hbN
 go_simp
 refine hK.out _ _ (HSV1.out) (fun hHeld=>?_)
 clear hK K
 try simp only [aP]
 refine rdy 5 ⟨some 11,.call ⟨ .value (.func 54),#[.tmp 10],#[24]⟩,67,_,_,none⟩ rfl (fun K hK=>?_)
 go_simp
 refine (enterN V1 (HM.out.under (HB.out.trans (HSV1.out.mono (Nat.le_succ _)))) w.heap.size cy Ay ly (HB.out.trans (HSV1.out.mono (Nat.le_succ _))).size (HY.out.under (HB.out.trans (HSV1.out.mono (Nat.le_succ _)))) HLY.out HDY.out Hy.out).mono ?_
 rintro e V2 ⟨rfl,hbN⟩
 have HSV2:Hid (Below (w.heap.size+1) w2 V2):=lH (HSV1.out.trans (hbN.mono (Nat.le_trans hsz HSV1.out.size)))
 have HRV2:=lH (HRV1.out.under hbN (Holds.lt HRV1.out))
 clear hbN
 go_simp
 refine hK.out _ _ (HSV2.out) (fun hHeld=>?_)
 clear hK K
 try simp only [aP]
 refine tk 7 ⟨some 13,.build 69 #[(0,.tmp 8),(1,.tmp 11),(2,.tmp 12)],69,_,_,none⟩ ?_ rfl ?_ hHeld ?_
 rotate_left 1
 ·(intro W hW;(try dsimp only at hW);go_simp;try with_reducible rfl)
 try simp only [aP]
 refine rdy 8 ⟨none,.store 69 (.tmp 2) (.tmp 13),0,_,_,none⟩ rfl (fun K hK=>?_)
 have HR2:=HRV2
 have z0:=HR2.out.cell 0
 have o0:=HR2.out.open_ 0
 have z1:=HR2.out.cell 1
 have o1:=HR2.out.open_ 1
 have z2:=HR2.out.cell 2
 have o2:=HR2.out.open_ 2
 have z3:=HR2.out.cell 3
 have o3:=HR2.out.open_ 3
 have z4:=HR2.out.cell 4
 have o4:=HR2.out.open_ 4
 have z5:=HR2.out.cell 5
 have o5:=HR2.out.open_ 5
 have z6:=HR2.out.cell 6
 have o6:=HR2.out.open_ 6
 have z7:=HR2.out.cell 7
 have o7:=HR2.out.open_ 7
 have z8:=HR2.out.cell 8
 have o8:=HR2.out.open_ 8
 have z9:=HR2.out.cell 9
 have o9:=HR2.out.open_ 9
 have z10:=HR2.out.cell 10
 have o10:=HR2.out.open_ 10
 have z11:=HR2.out.cell 11
 have o11:=HR2.out.open_ 11
 obtain ⟨V3,hN⟩:∃ W,W=((((((((((((V2.setCell ⟨w.heap.size+1,0,none⟩ (.int .u64 (x0:Int))).setCell ⟨w.heap.size+1,1,none⟩ (.int .u64 (x1:Int))).setCell ⟨w.heap.size+1,2,none⟩ (.int .u64 (x2:Int))).setCell ⟨w.heap.size+1,3,none⟩ (.int .u64 (x3:Int))).setCell ⟨w.heap.size+1,4,none⟩ (.int .u64 (y0:Int))).setCell ⟨w.heap.size+1,5,none⟩ (.int .u64 (y1:Int))).setCell ⟨w.heap.size+1,6,none⟩ (.int .u64 (y2:Int))).setCell ⟨w.heap.size+1,7,none⟩ (.int .u64 (y3:Int))).setCell ⟨w.heap.size+1,8,none⟩ (.int .u64 (u0:Int))).setCell ⟨w.heap.size+1,9,none⟩ (.int .u64 (u1:Int))).setCell ⟨w.heap.size+1,10,none⟩ (.int .u64 (u2:Int))).setCell ⟨w.heap.size+1,11,none⟩ (.int .u64 (u3:Int))):=⟨_,rfl⟩
 go_simp
 rw [←hN]
 have HR3:Hid (Holds V3 (w.heap.size+1) 69 #[.int .u64 (x0:Int),.int .u64 (x1:Int),.int .u64 (x2:Int),.int .u64 (x3:Int),.int .u64 (y0:Int),.int .u64 (y1:Int),.int .u64 (y2:Int),.int .u64 (y3:Int),.int .u64 (u0:Int),.int .u64 (u1:Int),.int .u64 (u2:Int),.int .u64 (u3:Int)]):=lH (by rw [hN];exact set12 HR2.out _ _ _ _ _ _ _ _ _ _ _ _)
 have HS3:Hid (Below w.heap.size w V3):=lH (by rw [hN];exact below12 (HB.out.trans (HSV2.out.mono (Nat.le_succ _))) (by omega) _ _ _ _ _ _ _ _ _ _ _ _)
 have HSV3:Hid (Below (w.heap.size+1) w2 V3):=lH (by rw [hN];exact below12 HSV2.out (Nat.le_refl _) _ _ _ _ _ _ _ _ _ _ _ _)
 clear hN z0 o0 z1 o1 z2 o2 z3 o3 z4 o4 z5 o5 z6 o6 z7 o7 z8 o8 z9 o9 z10 o10 z11 o11
 refine hK.out _ _ (HSV3.out) (fun hHeld=>?_)
 clear hK K
 try simp only [aP]
 refine wpAnyH_done (by kernel_rfl) ?_ _
 refine NoPanic.normal ?_
 go_wp2_with fail
 exact ret_wd (g:=w.heap.size+1) rfl rfl HR3.out rfl ⟨rfl,HS3.out⟩
end Go.Proofs.YtflfdglpljodbaaDoor
namespace Go.Proofs.YtflfdglpljodbaaDoor
open Go.RowKit
set_option linter.unusedVariables false
set_option linter.unusedSimpArgs false
def hv:List Nat→List Nat
 | []=>[]
 | d :: l=>d % 4294967296 :: d / 4294967296 :: hv l
theorem hv_len:∀ l,(hv l).length=2*l.length
 | []=>rfl
 | d :: l=>by simp only [hv,List.length_cons,hv_len l];omega
theorem hv_dg:∀ l,D64 l→Dg (hv l)
 | [],_=>fun x hx=>by cases hx
 | d :: l,h=>fun x hx=>by
  have hd:=h d (by simp)
  simp only [hv,List.mem_cons] at hx
  rcases hx with rfl | rfl | hx
  ·omega
  ·omega
  ·exact hv_dg l (fun y hy=>h y (by simp [hy])) x hx
theorem hv_val:∀ l,val (hv l)=v64 l
 | []=>rfl
 | d :: l=>by
  simp only [hv,val,v64,hv_val l]
  omega
theorem hv_take:∀ (l:List Nat) (k:Nat),k<l.length→(hv l).take (2*(k+1))=(hv l).take (2*k) ++ [l.getD k 0 % 4294967296,l.getD k 0 / 4294967296]
 | [],k,h=>by simp at h
 | d :: l,0,_=>by simp [hv]
 | d :: l,k+1,h=>by
  have ih:=hv_take l k (by simpa using h)
  rw [show 2*(k+1+1)=2*(k+1)+1+1 by omega,show 2*(k+1)=2*k+1+1 by omega] at *
  simp only [hv,List.take_succ_cons,List.cons_append]
  rw [show 2*k+1+1=2*(k+1) by omega] at *
  rw [ih]
  rfl
theorem grown_below9 {a w:World} {r:Option Nat} {B:Nat} (h:a.grownBy w r) (hr:∀ g,r=some g→B≤g) (hs:B≤a.heap.size):Below B a w :=
 ⟨h.os,h.tape,h.output,h.size,fun b hb=>h.block b (by omega) (fun e=>by have:=hr b e.symm;omega)⟩
theorem own_room {w:World} {g B:Nat} (hB:B≤g) (h:Holds w g 22 (nums .u32 (List.replicate 8 0))):Own .u32 22 w B (some ⟨g,0,none⟩) 8 [] :=
 ⟨by simp [vals],.inr ⟨g,8,nums .u32 (List.replicate 8 0),rfl,hB,h,Nat.zero_le _,by decide,by simp [nums],by simp [vals]⟩⟩
theorem make_room (W:World):(Instr.makeSlice 24 (.int .i64 0) (.int .i64 8)).run Tryd.prog W = .ok (.slice (some ⟨W.heap.size,0,none⟩) 0 8) (W.alloc (.cells (nums .u32 (List.replicate 8 0)) 22)):=by
 obtain ⟨i0,hi,hz0,hz1,hz2⟩:=info_parts info_u32
 have h:=run_make (P:=Tryd.prog) W 24 22 i0 (.int .u32 0) Tryd.underlying24 hi hz0 .i64 .i64 ((0:Nat):Int) ((8:Nat):Int) (by omega) (by omega) (by rw [hz2];omega) (by omega)
 have h2:(Instr.makeSlice 24 (.int .i64 0) (.int .i64 8)).run Tryd.prog W=_:=h
 rw [h2,hz1,nums_noughts]
 simp [Value.cells]
def RelV (w:World) (H:List Nat) (a i:Value) (wr:World):Prop :=
 ∃ (k c:Nat) (A:Option Addr),k≤4∧i = .int .i64 (k:Int)∧a = .slice A (2*k) c∧Hid (Own .u32 22 wr w.heap.size A c (H.take (2*k))∧Below w.heap.size w wr)
def lenOf:Value→Nat
 | .slice _ n _=>n
 | _=>0
def RelW (V:World) (H:List Nat) (A:Option Addr) (c:Nat) (a:Value) (wr:World):Prop :=
 ∃ n:Nat,n≤8∧a = .slice A n c∧wr=V∧Hid (val (H.take n)=val H)
def GotN (w:World) (v:Nat) (e:Ending) (w':World):Prop :=
 ∃ A c r,e = .returned (.slice A r.length c)∧NumIs r v∧Rd .u32 w' w'.heap.size A c r∧(∀ g,blockOf A=some g→w.heap.size≤g)∧Below w.heap.size w w'
theorem leave_new (w:World) (hm:CMet w) (X:Nat) (hX:X<cP) {x0 x1 x2 x3:Nat} (hx:nm X=[x0,x1,x2,x3]) :
  Calls Tryd.prog 77 #[.agg #[.int .u64 (x0:Int),.int .u64 (x1:Int),.int .u64 (x2:Int),.int .u64 (x3:Int)]] w (GotN w (mm X 1)):=by
 obtain ⟨d0,d1,d2,d3,hd⟩:=four (nm_len (mm X 1))
 obtain ⟨w1,hw1⟩:∃ W,W=w.alloc (.cells #[.int .u64 (x0:Int),.int .u64 (x1:Int),.int .u64 (x2:Int),.int .u64 (x3:Int)] 67):=⟨_,rfl⟩
 have hb1:Below w.heap.size w w1:=by rw [hw1];exact (Below.refl _ _).alloc (Nat.le_refl _) _
 have hB1:Holds w1 w.heap.size 67 #[.int .u64 (x0:Int),.int .u64 (x1:Int),.int .u64 (x2:Int),.int .u64 (x3:Int)]:=by rw [hw1];exact Holds.fresh w _ _
 have HC:=lH (mulN w1 (hm.under hb1) X 1 hX (by decide +kernel) hx (y0:=1) (y1:=0) (y2:=0) (y3:=0) rfl hd)
 have HB1:=lH hB1
 have HD:=lH hd
 have HDD:Hid (D64 [d0,d1,d2,d3]):=lH (by rw [←hd];exact nm_d _)
 have HW:=lH hw1
 have HB:=lH hb1
 clear hb1 hB1 hm hx hX hd hw1
 have hmk:=make_room
 go_enter Tryd.func77,Tryd.ntmps77
 go_wp2_with fail
 rw [←HW.out]
 obtain ⟨c0,c1,c2,c3⟩:w1.cell? ⟨w.heap.size,0,none⟩=some (.int .u64 (x0:Int))∧w1.cell? ⟨w.heap.size,1,none⟩=some (.int .u64 (x1:Int))∧w1.cell? ⟨w.heap.size,2,none⟩=some (.int .u64 (x2:Int))∧w1.cell? ⟨w.heap.size,3,none⟩=some (.int .u64 (x3:Int)):=⟨HB1.out.cell 0,HB1.out.cell 1,HB1.out.cell 2,HB1.out.cell 3⟩
 go_wp2_with fail
 refine HC.out.mono ?_
 rintro e w2 ⟨rfl,hb2⟩
 have hr2:=HB1.out.under hb2 (Holds.lt HB1.out)
 have HR2:=lH hr2
 have HB2:=lH (HB.out.trans (hb2.mono HB.out.size))
 clear hb2 c0 c1 c2 c3
 have z0:=hr2.cell 0
 have o0:=hr2.open_ 0
 have z1:=hr2.cell 1
 have o1:=hr2.open_ 1
 have z2:=hr2.cell 2
 have o2:=hr2.open_ 2
 have z3:=hr2.cell 3
 have o3:=hr2.open_ 3
 obtain ⟨w3,hw3⟩:∃ W,W=((((w2.setCell ⟨w.heap.size,0,none⟩ (.int .u64 (d0:Int))).setCell ⟨w.heap.size,1,none⟩ (.int .u64 (d1:Int))).setCell ⟨w.heap.size,2,none⟩ (.int .u64 (d2:Int))).setCell ⟨w.heap.size,3,none⟩ (.int .u64 (d3:Int))):=⟨_,rfl⟩
 have hr3:Holds w3 w.heap.size 67 #[.int .u64 (d0:Int),.int .u64 (d1:Int),.int .u64 (d2:Int),.int .u64 (d3:Int)]:=by rw [hw3];exact set4 hr2 _ _ _ _
 have hb3:Below w.heap.size w w3:=by rw [hw3];exact below4 HB2.out (Nat.le_refl _) _ _ _ _
 obtain ⟨z8,hz8⟩:∃ z,z=List.replicate 8 0:=⟨_,rfl⟩
 obtain ⟨w4,hw4⟩:∃ W,W=w3.alloc (.cells (nums .u32 z8) 22):=⟨_,rfl⟩
 have hr4:Holds w4 w.heap.size 67 #[.int .u64 (d0:Int),.int .u64 (d1:Int),.int .u64 (d2:Int),.int .u64 (d3:Int)]:=by rw [hw4];exact hr3.alloc _
 have hb4:Below w.heap.size w w4:=by rw [hw4];exact hb3.alloc hb3.size _
 have hO4:Own .u32 22 w4 w.heap.size (some ⟨w3.heap.size,0,none⟩) 8 []:=own_room hb3.size (by rw [hw4,hz8];exact Holds.fresh w3 _ _)
 have HS:RelV w (hv [d0,d1,d2,d3]) (.slice (some ⟨w3.heap.size,0,none⟩) 0 8) (.int .i64 0) w4:=⟨0,8,_,by omega,rfl,rfl,lH ⟨hO4,hb4⟩⟩
 have q0:w4.cell? ⟨w.heap.size,0,none⟩=some (.int .u64 (d0:Int)):=hr4.cell 0
 have q1:w4.cell? ⟨w.heap.size,1,none⟩=some (.int .u64 (d1:Int)):=hr4.cell 1
 have q2:w4.cell? ⟨w.heap.size,2,none⟩=some (.int .u64 (d2:Int)):=hr4.cell 2
 have q3:w4.cell? ⟨w.heap.size,3,none⟩=some (.int .u64 (d3:Int)):=hr4.cell 3
 have hz3:w2.heap.size=w3.heap.size:=by rw [hw3];simp
 clear hr2 hr3 hb3 hr4 hb4 hO4
 rw [hw4] at q0 q1 q2 q3
 clear hmk
 go_wp2_with fail
 rw [←hw3]
 have hmk:=make_room w3
 rw [←hz8] at hmk
 clear hz8 hw3 z0 z1 z2 z3 o0 o1 o2 o3 hz3
 go_simp
 go_wp2_with fail
 rw [←hw4]
 clear hw4 hmk q0 q1 q2 q3
 go_loopw [3,11] (fun a i wr=>RelV w (hv [d0,d1,d2,d3]) a i wr) (fun _ i _=>4 - (intOf i).toNat)
 case atStart=>exact HS
 case round =>
  obtain ⟨k,c,A,hk,rfl,rfl,HH⟩:=hrel
  clear HS
  obtain ⟨V,hV⟩:∃ V,V=wr:=⟨_,rfl⟩
  subst hV
  by_cases hlt:k<4
  case pos =>
   obtain ⟨hO,hbV⟩:=HH.out
   have t1:decide ((k:Int)<4)=true:=decide_eq_true (by omega)
   obtain ⟨dk,hdk⟩:∃ a,a=([d0,d1,d2,d3]:List Nat).getD k 0:=⟨_,rfl⟩
   have hix:∀ w,(Instr.index 67 (.agg #[.int .u64 (d0:Int),.int .u64 (d1:Int),.int .u64 (d2:Int),.int .u64 (d3:Int)]) (.int .i64 (k:Int))).run Tryd.prog w = .ok (.int .u64 (dk:Int)) w:=by
    rw [hdk]
    rcases (by omega:k=0∨k=1∨k=2∨k=3) with rfl | rfl | rfl | rfl <;> exact fun _=>by kernel_rfl
   have hdk64:dk<18446744073709551616:=by rw [hdk];exact HDD.out.at_ k
   have htk:=hv_take [d0,d1,d2,d3] k hlt
   rw [←hdk] at htk
   obtain ⟨lo,hlo⟩:∃ x,x=dk % 4294967296:=⟨_,rfl⟩
   obtain ⟨hi,hhi⟩:∃ x,x=dk / 4294967296:=⟨_,rfl⟩
   rw [←hlo,←hhi] at htk
   have e1:(dk:Int) % 4294967296=(lo:Int):=by rw [hlo];omega
   have e3:(dk:Int) / 4294967296=(hi:Int):=by rw [hhi];omega
   have hhi32:hi<4294967296:=by omega
   have e2:(hi:Int) % 4294967296=(hi:Int):=by omega
   have b5:(0:Int)≤k:=by omega
   obtain ⟨H0,hH0⟩:∃ H,H=(hv [d0,d1,d2,d3]).take (2*k):=⟨_,rfl⟩
   have HL0:Hid (H0.length=2*k):=lH (by rw [hH0,List.length_take,hv_len];show min (2*k) 8=_;omega)
   rw [←hH0] at hO htk
   have hblk:Hid (∀ g,blockOf A=some g→w.heap.size≤g∧g<V.heap.size):=lH (fun g e=>hO.block e)
   have HO:Hid (∀ cs,Own .u32 22 (V.alloc (.cells cs 22)) w.heap.size A c H0):=lH (fun cs=>hO.alloc (.cells cs 22))
   have HH2:Hid (Holds (V.alloc (.cells #[.int .u32 (lo:Int),.int .u32 (hi:Int)] 22)) V.heap.size 22 (nums .u32 [lo,hi])):=lH (Holds.fresh V _ _)
   have HTK:=lH htk
   have HBV:=lH hbV
   have hs:=hbV.size
   clear hO hbV HH hdk hlo hhi htk hH0
   go_wp2_with (with_reducible (refine wpList_push _ rfl (.tmp 14) (.tmp 20) 24 rfl .u32 w.heap.size 22 4 Tryd.underlying24 info_u32 A (2*k) c H0 rfl HL0.out (HO.out _) V.heap.size 2 2 [lo,hi] rfl rfl HH2.out (by omega) (by omega) (by omega) (by simp;omega) ?hp))
   intro g' c' w5 hown1 hgr hat
   have hb5:Below w.heap.size w w5:=(HBV.out.alloc HBV.out.size _).trans (grown_below9 hgr (fun g e=>(hblk.out g e).1) (by simp;omega))
   rw [←HTK.out] at hown1
   have HN:Hid (RelV w (hv [d0,d1,d2,d3]) (.slice (some ⟨g',0,none⟩) (2*k+2) c') (.int .i64 ((k:Int)+1)) w5):=lH ⟨k+1,c',_,by omega,by push_cast;rfl,rfl,lH ⟨hown1,hb5⟩⟩
   clear hown1 hgr hat hb5 HO HH2 HTK
   go_wp2_with fail
   go_roundw
   ·exact HN.out
   ·simp [intOf];omega
  case neg =>
   obtain rfl:k=4:=by omega
   have t1:decide (((4:Nat):Int)<4)=false:=by decide
   obtain ⟨hO,hbV⟩:=HH.out
   rw [show (hv [d0,d1,d2,d3]).take (2*4)=hv [d0,d1,d2,d3] from List.take_of_length_le (by rw [hv_len];show 8≤_;omega)] at hO
   obtain ⟨H,hH⟩:∃ H,H=hv [d0,d1,d2,d3]:=⟨_,rfl⟩
   rw [←hH] at hO
   have hHl:H.length=8:=by rw [hH,hv_len];rfl
   have HRD:=lH hO.rd
   have HBK:Hid (∀ g,blockOf A=some g→w.heap.size≤g):=lH (fun g e=>(hO.block e).1)
   have HHL:=lH hHl
   have HBV:=lH hbV
   have HVAL:Hid (Dg H∧val H=mm X 1):=lH ⟨by rw [hH];exact hv_dg _ HDD.out,by rw [hH,hv_val,←HD.out,nm_val (Nat.lt_trans (mm_lt _ _) cP_cR)]⟩
   have hc8:8≤c:=by rw [←hHl];exact hO.rd.1
   have HS2:RelW V H A c (.slice A (2*4) c) V:=⟨8,by omega,rfl,rfl,lH (by rw [List.take_of_length_le (by omega)])⟩
   clear hO hbV HH hH hHl
   go_wp2_with fail
   go_loopw [3] (fun a wr=>RelW V H A c a wr) (fun a _=>lenOf a)
   case atStart=>exact HS2
   case round =>
    obtain ⟨n,hn,rfl,rfl,HV⟩:=hrel
    clear HS2
    rcases n with _ | m
    ·have t2:decide ((0:Int)<((0:Nat):Int))=false:=by decide
     go_wp2_with fail
     go_ret
     exact ⟨A,c,[],rfl,⟨(fun x hx=>by cases hx),.inl rfl,HV.out.trans HVAL.out.2⟩,HRD.out.cut 0,HBK.out,HBV.out⟩
    ·obtain ⟨b,off,x,hA,_,cx,Hx⟩:=HRD.out.at_ (show m<H.length by rw [HHL.out];omega)
     subst hA
     have t2:decide ((0:Int)<((m+1:Nat):Int))=true:=decide_eq_true (by omega)
     have m1:(0:Int)<(m:Int)+1:=by omega
     have m2:IntKind.i64.wrap (m:Int)=(m:Int):=IntWalk.i64_in _ (by omega)
     have m3:(m:Int)<(m:Int)+1:=by omega
     have m4:(0:Int)≤m:=by omega
     have m5:(m:Int)≤(c:Int):=by omega
     by_cases hx0:x=0
     ·subst hx0
      have HT:=lH (show val (H.take m)=val H by rw [←HV.out,val_take_succ,←Hx.out];omega)
      clear Hx
      go_wp2_with fail
      exact ⟨⟨m,by omega,rfl,rfl,HT.out⟩,Nat.lt_succ_self m⟩
     ·have t3:decide ((x:Int)=0)=false:=decide_eq_false (by omega)
      have HL2:Hid ((H.take (m+1)).length=m+1):=lH (by rw [List.length_take,HHL.out,Nat.min_eq_left hn])
      have HT:Hid (nrm (H.take (m+1))):=lH (by
       refine .inr ?_
       rw [HL2.out,show m+1 - 1=m by omega,List.getD,List.getElem?_take_of_lt (Nat.lt_succ_self m)]
       exact fun h=>hx0 (Hx.out.trans h))
      clear Hx
      go_wp2_with fail
      go_ret
      exact ⟨some ⟨b,off,none⟩,c,H.take (m+1),by rw [HL2.out];rfl,⟨HVAL.out.1.take _,HT.out,HV.out.trans HVAL.out.2⟩,HRD.out.cut (m+1),HBK.out,HBV.out⟩
theorem leave_any (w:World) (hm:CMet w) (X:Nat) (hX:X<cP) {x0 x1 x2 x3:Nat} (hx:nm X=[x0,x1,x2,x3]) :
  Calls Tryd.prog 77 #[.agg #[.int .u64 (x0:Int),.int .u64 (x1:Int),.int .u64 (x2:Int),.int .u64 (x3:Int)]] w (Got w (mm X 1)) :=
 (leave_new w hm X hX hx).mono fun e w' ⟨A,c,r,h1,h2,h3,_,h5⟩=>⟨A,c,r,h1,h2,h3,h5⟩
end Go.Proofs.YtflfdglpljodbaaDoor
namespace Go.Proofs.YtflfdglpljodbaaDoor
open Go.RowKit
set_option linter.unusedVariables false
set_option linter.unusedSimpArgs false
theorem inv_oneCv16 {a x y n:Nat} (hx:a*x % n=1) (hy:a*y % n=1):x % n=y % n:=by
 have h1:y*(a*x) % n=y % n:=by rw [Nat.mul_mod,hx,Nat.mul_one,Nat.mod_mod]
 have h2:x*(a*y) % n=x % n:=by rw [Nat.mul_mod,hy,Nat.mul_one,Nat.mod_mod]
 rw [←h2,←h1,Nat.mul_left_comm x a y,Nat.mul_left_comm y a x,Nat.mul_comm x y]
theorem inv_gcd {a y n:Nat} (hn:1<n) (hy:a*y % n=1):Nat.gcd n a=1:=by
 have h1:Nat.gcd n a∣a*y % n:=(Nat.dvd_mod_iff (Nat.gcd_dvd_left n a)).2 (Nat.dvd_trans (Nat.gcd_dvd_right n a) (Nat.dvd_mul_right a y))
 rw [hy] at h1
 exact Nat.dvd_one.1 h1
theorem inverseN (w:World) (hm:CMet w) (X Y:Nat) (hX:X<cP) (hY:mm X 1*Y % cP=1) {x0 x1 x2 x3 z0 z1 z2 z3:Nat} (hx:nm X=[x0,x1,x2,x3]) (hz:nm (enc Y)=[z0,z1,z2,z3]) :
  Calls Tryd.prog 76 #[.agg #[.int .u64 (x0:Int),.int .u64 (x1:Int),.int .u64 (x2:Int),.int .u64 (x3:Int)]] w fun e w'=>e = .returned (.agg #[.int .u64 (z0:Int),.int .u64 (z1:Int),.int .u64 (z2:Int),.int .u64 (z3:Int)])∧Below w.heap.size w w':=by
 obtain ⟨w1,hw1⟩:∃ W,W=w.alloc (.cells #[.int .u64 (x0:Int),.int .u64 (x1:Int),.int .u64 (x2:Int),.int .u64 (x3:Int)] 67):=⟨_,rfl⟩
 have hz1:w1.heap.size=w.heap.size+1:=by rw [hw1];simp
 have hb1:Below w.heap.size w w1:=by rw [hw1];exact (Below.refl _ _).alloc (Nat.le_refl _) _
 have hB1:Holds w1 w.heap.size 67 #[.int .u64 (x0:Int),.int .u64 (x1:Int),.int .u64 (x2:Int),.int .u64 (x3:Int)]:=by rw [hw1];exact Holds.fresh w _ _
 obtain ⟨w2,hw2⟩:∃ W,W=w1.alloc (.cells #[.int .u64 0,.int .u64 0,.int .u64 0,.int .u64 0] 67):=⟨_,rfl⟩
 have hb2:Below w.heap.size w w2:=by rw [hw2];exact hb1.alloc hb1.size _
 have hB2:Holds w2 w.heap.size 67 #[.int .u64 (x0:Int),.int .u64 (x1:Int),.int .u64 (x2:Int),.int .u64 (x3:Int)]:=by rw [hw2];exact hB1.alloc _
 have hR2:Holds w2 (w.heap.size+1) 67 #[.int .u64 0,.int .u64 0,.int .u64 0,.int .u64 0]:=by rw [hw2,←hz1];exact Holds.fresh w1 _ _
 have HM:=lH (hm.under hb2)
 have HL:=lH (leave_any w2 (hm.under hb2) X hX hx)
 have HY:=lH hY
 have HZ:=lH hz
 have HW:=lH (hw1 ▸ hw2:w2=(w.alloc (.cells #[.int .u64 (x0:Int),.int .u64 (x1:Int),.int .u64 (x2:Int),.int .u64 (x3:Int)] 67)).alloc (.cells #[.int .u64 0,.int .u64 0,.int .u64 0,.int .u64 0] 67))
 have HB:=lH hb2
 have HR:=lH hR2
 obtain ⟨c0,c1,c2,c3⟩:w2.cell? ⟨w.heap.size,0,none⟩=some (.int .u64 (x0:Int))∧w2.cell? ⟨w.heap.size,1,none⟩=some (.int .u64 (x1:Int))∧w2.cell? ⟨w.heap.size,2,none⟩=some (.int .u64 (x2:Int))∧w2.cell? ⟨w.heap.size,3,none⟩=some (.int .u64 (x3:Int)):=⟨hB2.cell 0,hB2.cell 1,hB2.cell 2,hB2.cell 3⟩
 have HC:=lH (⟨c0,c1,c2,c3⟩:_∧_∧_∧_)
 clear hz1 hb1 hB1 hb2 hB2 hR2 hm hX hx hY hz hw1 hw2 c0 c1 c2 c3
 go_enter Tryd.func76,Tryd.ntmps76
 go_wp2_with fail
 rw [←HW.out]
 obtain ⟨c0,c1,c2,c3⟩:=HC.out
 go_wp2_with fail
 refine HL.out.mono ?_
 rintro e w3 ⟨A,c,r,rfl,hn,hr,hb3⟩
 have HN:=lH hn
 have hl8:=num_len8 hn (mm_lt _ _)
 have HL8:=lH hl8
 have HRr:=lH hr
 have HB3:=lH hb3
 clear c0 c1 c2 c3 hn hr hb3 hl8
 go_wp2_with fail
 refine (curveP_any w3).mono ?_
 rintro e w4 ⟨g,hg,rfl,hP,hb4⟩
 have HB4:=lH (HB3.out.trans (hb4.mono HB3.out.size))
 have HI:=lH (inv_high w4 A (some ⟨g,0,none⟩) c 8 r lP ((HRr.out.under hb4).more hb4.size) (Eight.rd hP rfl) HN.out.1 lP_ok.1 (by have:=HL8.out;omega) (by decide) lP_ok.2.1 (by rw [lP_ok.2.2.1];decide +kernel))
 clear hg hP hb4
 go_wp2_with fail
 refine HI.out.mono ?_
 intro e w5 h
 rw [lP_ok.2.2.1,HN.out.2.2] at h
 rcases h with ⟨hg,_⟩ | ⟨_,v,hv,hvi,A2,c2,r2,rfl,hn2,hf2,hb5⟩
 ·exact absurd (inv_gcd (by decide +kernel) HY.out) hg
 have HB5:=lH (HB4.out.trans (hb5.mono HB4.out.size))
 have HE:Hid (nm (enc (val r2))=[z0,z1,z2,z3]):=lH (by
  rw [hn2.2.2,enc_cong (inv_oneCv16 hvi HY.out)]
  exact HZ.out)
 have HEN:=lH (enterN w5 (HM.out.under HB5.out) w5.heap.size c2 A2 r2 (Nat.le_refl _) hf2.1 (num_len8 hn2 hv) hn2.1 HE.out)
 clear hv hvi hn2 hf2 hb5 HI
 go_wp2_with fail
 refine HEN.out.mono ?_
 rintro e w6 ⟨rfl,hb6⟩
 have hb26:=HB5.out.trans (hb6.mono HB5.out.size)
 have hr6:=HR.out.under hb26 (Holds.lt HR.out)
 have HR6:=lH hr6
 have HB6:=lH (HB.out.trans (hb26.mono HB.out.size))
 have y0:=hr6.cell 0
 have o0:=hr6.open_ 0
 have y1:=hr6.cell 1
 have o1:=hr6.open_ 1
 have y2:=hr6.cell 2
 have o2:=hr6.open_ 2
 have y3:=hr6.cell 3
 have o3:=hr6.open_ 3
 clear hb6 hb26 hr6 HEN
 go_wp2_with fail
 exact ret_num (g:=w.heap.size+1) rfl rfl (set4 HR6.out _ _ _ _) rfl ⟨rfl,below4 HB6.out (by omega) _ _ _ _⟩
end Go.Proofs.YtflfdglpljodbaaDoor
namespace Go.Proofs.YtflfdglpljodbaaDoor
open Go.RowKit
set_option linter.unusedVariables false
set_option linter.unusedSimpArgs false
theorem holds_aside3 {w:World} {g k:Nat} {t:TypeId} {cs:Array Value} (h:Holds w g t cs) (hne:g≠k) (p q r:Value):Holds (((w.setCell ⟨k,0,none⟩ p).setCell ⟨k,1,none⟩ q).setCell ⟨k,2,none⟩ r) g t cs :=
 Holds.aside (Holds.aside (Holds.aside h (p:=⟨k,0,none⟩) hne p) (p:=⟨k,1,none⟩) hne q) (p:=⟨k,2,none⟩) hne r
theorem rd_aside {k:IntKind} {w:World} {B c:Nat} {A:Option Addr} {l:List Nat} (h:Rd k w B A c l) {g o:Nat} (hp:blockOf A≠some g) (v:Value):Rd k (w.setCell ⟨g,o,none⟩ v) B A c l :=
 ⟨h.1,h.2.1,fun h0=>by
  obtain ⟨b,off,hA,hb,hc⟩:=h.2.2 h0
  refine ⟨b,off,hA,hb,fun j hj=>(World.cell?_setCell_other _ _ _ _ ?_).trans (hc j hj)⟩
  intro e
  injection e with e1 _ _
  exact hp (by rw [hA,e1];rfl)⟩
theorem rd_aside3 {k:IntKind} {w:World} {c:Nat} {A:Option Addr} {l:List Nat} (h:Rd k w w.heap.size A c l) {g:Nat} (hp:blockOf A≠some g) (p q r:Value):Rd k (((w.setCell ⟨g,0,none⟩ p).setCell ⟨g,1,none⟩ q).setCell ⟨g,2,none⟩ r) (((w.setCell ⟨g,0,none⟩ p).setCell ⟨g,1,none⟩ q).setCell ⟨g,2,none⟩ r).heap.size A c l :=
 (rd_aside (rd_aside (rd_aside h hp p) hp q) hp r).more (by simp)
theorem flat_any (w:World) (hm:CMet w) (X Y Z J:Nat) (hX:X<cP) (hY:Y<cP) (hZ:Z<cP) (hJ:mm Z 1*J % cP=1) {x0 x1 x2 x3 y0 y1 y2 y3 z0 z1 z2 z3:Nat} (hx:nm X=[x0,x1,x2,x3]) (hy:nm Y=[y0,y1,y2,y3]) (hz:nm Z=[z0,z1,z2,z3]) :
  Calls Tryd.prog 41 #[.agg #[.int .u64 (x0:Int),.int .u64 (x1:Int),.int .u64 (x2:Int),.int .u64 (x3:Int),.int .u64 (y0:Int),.int .u64 (y1:Int),.int .u64 (y2:Int),.int .u64 (y3:Int),.int .u64 (z0:Int),.int .u64 (z1:Int),.int .u64 (z2:Int),.int .u64 (z3:Int)]] w fun e w'=>∃ A1 c1 r1 A2 c2 r2,e = .returned (.agg #[.slice A1 r1.length c1,.slice A2 r2.length c2,.bool false])∧NumIs r1 (mm (mm X (mm (enc J) (enc J))) 1)∧NumIs r2 (mm (mm Y (mm (mm (enc J) (enc J)) (enc J))) 1)∧Rd .u32 w' w'.heap.size A1 c1 r1∧Rd .u32 w' w'.heap.size A2 c2 r2∧Below w.heap.size w w':=by
 have hZ0:Z≠0:=fun h=>by rw [h] at hJ;simp [mm] at hJ
 have hE:∀ W,(Op.equalIn 10000 67 (.agg #[.int .u64 (z0:Int),.int .u64 (z1:Int),.int .u64 (z2:Int),.int .u64 (z3:Int)]) (.agg #[.int .u64 0,.int .u64 0,.int .u64 0,.int .u64 0])).run Tryd.prog W = .ok false W:=fun W=>eqN W (Nat.lt_trans hZ cP_cR) (Nat.lt_trans cP_pos cP_cR) hz (y0:=0) (y1:=0) (y2:=0) (y3:=0) (Y:=0) rfl false (by simp [hZ0])
 obtain ⟨i0,i1,i2,i3,hi⟩:=four (nm_len ((enc J)))
 have Hi:=lH hi
 clear hi
 obtain ⟨j0,j1,j2,j3,hj⟩:=four (nm_len ((mm (enc J) (enc J))))
 have Hj:=lH hj
 clear hj
 obtain ⟨k0,k1,k2,k3,hk⟩:=four (nm_len ((mm X (mm (enc J) (enc J)))))
 have Hk:=lH hk
 clear hk
 obtain ⟨l0,l1,l2,l3,hl⟩:=four (nm_len ((mm (mm (enc J) (enc J)) (enc J))))
 have Hl:=lH hl
 clear hl
 obtain ⟨m0,m1,m2,m3,hm⟩:=four (nm_len ((mm Y (mm (mm (enc J) (enc J)) (enc J)))))
 have Hm:=lH hm
 clear hm
 obtain ⟨w1,hw1⟩:∃ W,W=w.alloc (.cells #[.int .u64 (x0:Int),.int .u64 (x1:Int),.int .u64 (x2:Int),.int .u64 (x3:Int),.int .u64 (y0:Int),.int .u64 (y1:Int),.int .u64 (y2:Int),.int .u64 (y3:Int),.int .u64 (z0:Int),.int .u64 (z1:Int),.int .u64 (z2:Int),.int .u64 (z3:Int)] 69):=⟨_,rfl⟩
 have hz1:w1.heap.size=w.heap.size+1:=by rw [hw1];simp
 have hb1:Below w.heap.size w w1:=by rw [hw1];exact (Below.refl _ _).alloc (Nat.le_refl _) _
 obtain ⟨w2,hw2⟩:∃ W,W=w1.alloc (.cells #[.slice none 0 0,.slice none 0 0,.bool false] 26):=⟨_,rfl⟩
 have hb2:Below w.heap.size w w2:=by rw [hw2];exact hb1.alloc hb1.size _
 have hB2:Holds w2 w.heap.size 69 #[.int .u64 (x0:Int),.int .u64 (x1:Int),.int .u64 (x2:Int),.int .u64 (x3:Int),.int .u64 (y0:Int),.int .u64 (y1:Int),.int .u64 (y2:Int),.int .u64 (y3:Int),.int .u64 (z0:Int),.int .u64 (z1:Int),.int .u64 (z2:Int),.int .u64 (z3:Int)]:=by rw [hw2,hw1];exact (Holds.fresh w _ _).alloc _
 have hR2:Holds w2 (w.heap.size+1) 26 #[.slice none 0 0,.slice none 0 0,.bool false]:=by rw [hw2,←hz1];exact Holds.fresh w1 _ _
 have HW:=lH (hw1 ▸ hw2:w2=(w.alloc (.cells #[.int .u64 (x0:Int),.int .u64 (x1:Int),.int .u64 (x2:Int),.int .u64 (x3:Int),.int .u64 (y0:Int),.int .u64 (y1:Int),.int .u64 (y2:Int),.int .u64 (y3:Int),.int .u64 (z0:Int),.int .u64 (z1:Int),.int .u64 (z2:Int),.int .u64 (z3:Int)] 69)).alloc (.cells #[.slice none 0 0,.slice none 0 0,.bool false] 26))
 have HM:=lH hm
 have HLX:=lH hX
 have HLY:=lH hY
 have Hx:=lH hx
 have Hy:=lH hy
 have HB2:=lH hB2
 have HR2:=lH hR2
 have HBW:=lH hb2
 have HIN:=lH (inverseN w2 (hm.under hb2) Z J hZ hJ hz Hi.out)
 clear hw1 hz1 hb1 hw2 hb2 hB2 hR2 hm hX hY hx hy hZ hJ hz hZ0
 go_enter Tryd.func41,Tryd.ntmps41
 go_wp2_with fail
 rw [←HW.out]
 have k8:=HB2.out.cell 8
 have k9:=HB2.out.cell 9
 have k10:=HB2.out.cell 10
 have k11:=HB2.out.cell 11
 go_wp2_with fail
 refine HIN.out.mono ?_
 rintro e w4 ⟨rfl,hb4⟩
 have HB4:=lH (HB2.out.under hb4 (Holds.lt HB2.out))
 have HR4:=lH (HR2.out.under hb4 (Holds.lt HR2.out))
 have HBW4:=lH (HBW.out.trans (hb4.mono HBW.out.size))
 clear hb4 k8 k9 k10 k11 HIN hE
 obtain ⟨w5,hw5⟩:∃ W,W=w4.alloc (.cells #[.int .u64 (i0:Int),.int .u64 (i1:Int),.int .u64 (i2:Int),.int .u64 (i3:Int)] 67):=⟨_,rfl⟩
 have hN5:NumOr w5 w4.heap.size (some (enc J)):=by
  show Holds w5 _ _ (nums .u64 (nm (enc J)))
  rw [nv_of Hi.out,hw5]
  exact Holds.fresh w4 _ _
 have HB5:Hid (Holds w5 w.heap.size 69 #[.int .u64 (x0:Int),.int .u64 (x1:Int),.int .u64 (x2:Int),.int .u64 (x3:Int),.int .u64 (y0:Int),.int .u64 (y1:Int),.int .u64 (y2:Int),.int .u64 (y3:Int),.int .u64 (z0:Int),.int .u64 (z1:Int),.int .u64 (z2:Int),.int .u64 (z3:Int)]):=lH (by rw [hw5];exact HB4.out.alloc _)
 have HR5:Hid (Holds w5 (w.heap.size+1) 26 #[.slice none 0 0,.slice none 0 0,.bool false]):=lH (by rw [hw5];exact HR4.out.alloc _)
 have HBW5:Hid (Below w.heap.size w w5):=lH (by rw [hw5];exact HBW4.out.alloc HBW4.out.size _)
 obtain ⟨g3,hg3⟩:∃ g,g=w4.heap.size:=⟨_,rfl⟩
 have HG3:Hid (w.heap.size+1<g3):=lH (by rw [hg3];exact Holds.lt HR4.out)
 rw [←hg3] at hN5
 have H3:=lH hN5
 obtain ⟨q0,q1,q2,q3⟩:=hN5.cells Hi.out
 have HMU:=lH (mulN w5 (HM.out.under HBW5.out) (enc J) (enc J) (enc_lt _) (enc_lt _) Hi.out Hi.out Hj.out)
 clear hN5
 rw [hw5,hg3] at q0 q1 q2 q3
 go_wp2_with fail
 rw [←hw5,←hg3]
 clear hw5 hg3 q0 q1 q2 q3
 refine HMU.out.mono ?_
 rintro e w6 ⟨rfl,hb6⟩
 have HB6':=lH (HB5.out.under hb6 (Holds.lt HB5.out))
 have HR6':=lH (HR5.out.under hb6 (Holds.lt HR5.out))
 have H36:=lH (NumOr.under H3.out hb6)
 have HBW6:=lH (HBW5.out.trans (hb6.mono HBW5.out.size))
 clear hb6 HMU
 obtain ⟨w7,hw7⟩:∃ W,W=w6.alloc (.cells #[.int .u64 (j0:Int),.int .u64 (j1:Int),.int .u64 (j2:Int),.int .u64 (j3:Int)] 67):=⟨_,rfl⟩
 obtain ⟨g4,hg4⟩:∃ g,g=w6.heap.size:=⟨_,rfl⟩
 have HG4:Hid (w.heap.size+1<g4):=lH (by rw [hg4];exact Holds.lt HR6'.out)
 have HR7:Hid (Holds w7 (w.heap.size+1) 26 #[.slice none 0 0,.slice none 0 0,.bool false]):=lH (by rw [hw7];exact HR6'.out.alloc _)
 have HS9:Hid ((fun W=>Holds W w.heap.size 69 #[.int .u64 (x0:Int),.int .u64 (x1:Int),.int .u64 (x2:Int),.int .u64 (x3:Int),.int .u64 (y0:Int),.int .u64 (y1:Int),.int .u64 (y2:Int),.int .u64 (y3:Int),.int .u64 (z0:Int),.int .u64 (z1:Int),.int .u64 (z2:Int),.int .u64 (z3:Int)]∧NumOr W g3 (some (enc J))∧NumOr W g4 (some (mm (enc J) (enc J)))∧Below w.heap.size w W) w7):=lH ⟨by rw [hw7];exact HB6'.out.alloc _,by rw [hw7];exact NumOr.alloc H36.out _,by
  show Holds w7 g4 _ (nums .u64 (nm (mm (enc J) (enc J))))
  rw [nv_of Hj.out,hw7,hg4]
  exact Holds.fresh w6 _ _,by rw [hw7];exact HBW6.out.alloc HBW6.out.size _⟩
 go_wp2_with fail
 rw [←hw7,←hg4]
 clear hw7 hg4
 refine wp_region_noPanic ?_
 refine wp_region_held_drew (S:=fun W=>Holds W w.heap.size 69 #[.int .u64 (x0:Int),.int .u64 (x1:Int),.int .u64 (x2:Int),.int .u64 (x3:Int),.int .u64 (y0:Int),.int .u64 (y1:Int),.int .u64 (y2:Int),.int .u64 (y3:Int),.int .u64 (z0:Int),.int .u64 (z1:Int),.int .u64 (z2:Int),.int .u64 (z3:Int)]∧NumOr W g3 (some (enc J))∧NumOr W g4 (some (mm (enc J) (enc J)))∧Below w.heap.size w W) (by kernel_rfl) (⟨HS9.out.1,HS9.out.2.1,HS9.out.2.2.1,HS9.out.2.2.2.drew⟩) (fun hHeld=>?_)
 obtain ⟨V,hV⟩:∃ W,W=w7.drew:=⟨_,rfl⟩
 rw [←hV]
 have HSV:Hid ((fun W=>Holds W w.heap.size 69 #[.int .u64 (x0:Int),.int .u64 (x1:Int),.int .u64 (x2:Int),.int .u64 (x3:Int),.int .u64 (y0:Int),.int .u64 (y1:Int),.int .u64 (y2:Int),.int .u64 (y3:Int),.int .u64 (z0:Int),.int .u64 (z1:Int),.int .u64 (z2:Int),.int .u64 (z3:Int)]∧NumOr W g3 (some (enc J))∧NumOr W g4 (some (mm (enc J) (enc J)))∧Below w.heap.size w W) V):=lH (by rw [hV];exact ⟨HS9.out.1,HS9.out.2.1,HS9.out.2.2.1,HS9.out.2.2.2.drew⟩)
 have HRV:Hid (Holds V (w.heap.size+1) 26 #[.slice none 0 0,.slice none 0 0,.bool false]):=lH (by rw [hV];exact HR7.out)
 replace hHeld:(fun W=>Holds W w.heap.size 69 #[.int .u64 (x0:Int),.int .u64 (x1:Int),.int .u64 (x2:Int),.int .u64 (x3:Int),.int .u64 (y0:Int),.int .u64 (y1:Int),.int .u64 (y2:Int),.int .u64 (y3:Int),.int .u64 (z0:Int),.int .u64 (z1:Int),.int .u64 (z2:Int),.int .u64 (z3:Int)]∧NumOr W g3 (some (enc J))∧NumOr W g4 (some (mm (enc J) (enc J)))∧Below w.heap.size w W) V:=HSV.out
 clear hV
 refine tk 0 ⟨some 16,.fieldAddr 69 (.tmp 1) 0,0,_,_,none⟩ ?_ rfl ?_ hHeld ?_
 rotate_left 1
 ·(intro W hW;(try dsimp only at hW);go_simp;try with_reducible rfl)
 try simp only [aP]
 refine tk 1 ⟨some 17,.load 67 (.tmp 16),67,_,_,none⟩ ?_ rfl ?_ hHeld ?_
 rotate_left 1
 ·(intro W hW;have k0:=hW.1.cell 0;have k1:=hW.1.cell 1;have k2:=hW.1.cell 2;have k3:=hW.1.cell 3;have k4:=hW.1.cell 4;have k5:=hW.1.cell 5;have k6:=hW.1.cell 6;have k7:=hW.1.cell 7;have k8:=hW.1.cell 8;have k9:=hW.1.cell 9;have k10:=hW.1.cell 10;have k11:=hW.1.cell 11;(try dsimp only at hW);go_simp;try with_reducible rfl)
 try simp only [aP]
 refine tk 2 ⟨some 18,.load 67 (.tmp 4),67,_,_,none⟩ ?_ rfl ?_ hHeld ?_
 rotate_left 1
 ·(intro W hW;have hBC:=hW.2.2.1.cells Hj.out;obtain ⟨q0,q1,q2,q3⟩:=hBC;(try dsimp only at hW);go_simp;try with_reducible rfl)
 try simp only [aP]
 refine tk 5 ⟨some 21,.fieldAddr 69 (.tmp 1) 1,0,_,_,none⟩ ?_ rfl ?_ hHeld ?_
 rotate_left 1
 ·(intro W hW;(try dsimp only at hW);go_simp;try with_reducible rfl)
 try simp only [aP]
 refine tk 6 ⟨some 22,.load 67 (.tmp 21),67,_,_,none⟩ ?_ rfl ?_ hHeld ?_
 rotate_left 1
 ·(intro W hW;have k0:=hW.1.cell 0;have k1:=hW.1.cell 1;have k2:=hW.1.cell 2;have k3:=hW.1.cell 3;have k4:=hW.1.cell 4;have k5:=hW.1.cell 5;have k6:=hW.1.cell 6;have k7:=hW.1.cell 7;have k8:=hW.1.cell 8;have k9:=hW.1.cell 9;have k10:=hW.1.cell 10;have k11:=hW.1.cell 11;(try dsimp only at hW);go_simp;try with_reducible rfl)
 try simp only [aP]
 refine tk 7 ⟨some 23,.load 67 (.tmp 4),67,_,_,none⟩ ?_ rfl ?_ hHeld ?_
 rotate_left 1
 ·(intro W hW;have hBC:=hW.2.2.1.cells Hj.out;obtain ⟨q0,q1,q2,q3⟩:=hBC;(try dsimp only at hW);go_simp;try with_reducible rfl)
 try simp only [aP]
 refine tk 8 ⟨some 24,.load 67 (.tmp 3),67,_,_,none⟩ ?_ rfl ?_ hHeld ?_
 rotate_left 1
 ·(intro W hW;have hBC:=hW.2.1.cells Hi.out;obtain ⟨q0,q1,q2,q3⟩:=hBC;(try dsimp only at hW);go_simp;try with_reducible rfl)
 try simp only [aP]
 refine rdy 3 ⟨some 19,.call ⟨ .value (.func 56),#[.tmp 17,.tmp 18],#[67,67]⟩,67,_,_,none⟩ rfl (fun K hK=>?_)
 go_simp
 refine (mulN V (HM.out.under HSV.out.2.2.2) X (mm (enc J) (enc J)) HLX.out (mm_lt _ _) Hx.out Hj.out Hk.out).mono ?_
 rintro e V1 ⟨rfl,hbN⟩
 have HSV1:Hid ((fun W=>Holds W w.heap.size 69 #[.int .u64 (x0:Int),.int .u64 (x1:Int),.int .u64 (x2:Int),.int .u64 (x3:Int),.int .u64 (y0:Int),.int .u64 (y1:Int),.int .u64 (y2:Int),.int .u64 (y3:Int),.int .u64 (z0:Int),.int .u64 (z1:Int),.int .u64 (z2:Int),.int .u64 (z3:Int)]∧NumOr W g3 (some (enc J))∧NumOr W g4 (some (mm (enc J) (enc J)))∧Below w.heap.size w W) V1):=lH ⟨HSV.out.1.under hbN (Holds.lt HSV.out.1),NumOr.under HSV.out.2.1 hbN,NumOr.under HSV.out.2.2.1 hbN,HSV.out.2.2.2.trans (hbN.mono HSV.out.2.2.2.size)⟩
 have HRV1:=lH (HRV.out.under hbN (Holds.lt HRV.out))
 clear hbN
 go_simp
 refine hK.out _ _ (HSV1.out) (fun hHeld=>?_)
 clear hK K
 try simp only [aP]
 refine rdy 4 ⟨some 20,.call ⟨ .value (.func 77),#[.tmp 19],#[67]⟩,24,_,_,none⟩ rfl (fun K hK=>?_)
 go_simp
 refine (leave_new V1 (HM.out.under HSV1.out.2.2.2) (mm X (mm (enc J) (enc J))) (mm_lt _ _) Hk.out).mono ?_
 rintro e V2 ⟨Aa,ca,ra,rfl,hna,hra,hbka,hbN⟩
 have HNa:=lH hna
 have HQaV2:=lH hra
 have HKa:Hid (blockOf Aa≠some (w.heap.size+1)):=lH (fun e=>by have h1:=hbka _ e;have h2:=Holds.lt HRV1.out;omega)
 have HSV2:Hid ((fun W=>Holds W w.heap.size 69 #[.int .u64 (x0:Int),.int .u64 (x1:Int),.int .u64 (x2:Int),.int .u64 (x3:Int),.int .u64 (y0:Int),.int .u64 (y1:Int),.int .u64 (y2:Int),.int .u64 (y3:Int),.int .u64 (z0:Int),.int .u64 (z1:Int),.int .u64 (z2:Int),.int .u64 (z3:Int)]∧NumOr W g3 (some (enc J))∧NumOr W g4 (some (mm (enc J) (enc J)))∧Below w.heap.size w W) V2):=lH ⟨HSV1.out.1.under hbN (Holds.lt HSV1.out.1),NumOr.under HSV1.out.2.1 hbN,NumOr.under HSV1.out.2.2.1 hbN,HSV1.out.2.2.2.trans (hbN.mono HSV1.out.2.2.2.size)⟩
 have HRV2:=lH (HRV1.out.under hbN (Holds.lt HRV1.out))
 clear hbN hna hra hbka
 go_simp
 refine hK.out _ _ (HSV2.out) (fun hHeld=>?_)
 clear hK K
 try simp only [aP]
 refine rdy 9 ⟨some 25,.call ⟨ .value (.func 56),#[.tmp 23,.tmp 24],#[67,67]⟩,67,_,_,none⟩ rfl (fun K hK=>?_)
 go_simp
 refine (mulN V2 (HM.out.under HSV2.out.2.2.2) (mm (enc J) (enc J)) (enc J) (mm_lt _ _) (enc_lt _) Hj.out Hi.out Hl.out).mono ?_
 rintro e V3 ⟨rfl,hbN⟩
 have HSV3:Hid ((fun W=>Holds W w.heap.size 69 #[.int .u64 (x0:Int),.int .u64 (x1:Int),.int .u64 (x2:Int),.int .u64 (x3:Int),.int .u64 (y0:Int),.int .u64 (y1:Int),.int .u64 (y2:Int),.int .u64 (y3:Int),.int .u64 (z0:Int),.int .u64 (z1:Int),.int .u64 (z2:Int),.int .u64 (z3:Int)]∧NumOr W g3 (some (enc J))∧NumOr W g4 (some (mm (enc J) (enc J)))∧Below w.heap.size w W) V3):=lH ⟨HSV2.out.1.under hbN (Holds.lt HSV2.out.1),NumOr.under HSV2.out.2.1 hbN,NumOr.under HSV2.out.2.2.1 hbN,HSV2.out.2.2.2.trans (hbN.mono HSV2.out.2.2.2.size)⟩
 have HRV3:=lH (HRV2.out.under hbN (Holds.lt HRV2.out))
 have HQaV3:=lH ((HQaV2.out.under hbN).more hbN.size)
 clear hbN
 go_simp
 refine hK.out _ _ (HSV3.out) (fun hHeld=>?_)
 clear hK K
 try simp only [aP]
 refine rdy 10 ⟨some 26,.call ⟨ .value (.func 56),#[.tmp 22,.tmp 25],#[67,67]⟩,67,_,_,none⟩ rfl (fun K hK=>?_)
 go_simp
 refine (mulN V3 (HM.out.under HSV3.out.2.2.2) Y (mm (mm (enc J) (enc J)) (enc J)) HLY.out (mm_lt _ _) Hy.out Hl.out Hm.out).mono ?_
 rintro e V4 ⟨rfl,hbN⟩
 have HSV4:Hid ((fun W=>Holds W w.heap.size 69 #[.int .u64 (x0:Int),.int .u64 (x1:Int),.int .u64 (x2:Int),.int .u64 (x3:Int),.int .u64 (y0:Int),.int .u64 (y1:Int),.int .u64 (y2:Int),.int .u64 (y3:Int),.int .u64 (z0:Int),.int .u64 (z1:Int),.int .u64 (z2:Int),.int .u64 (z3:Int)]∧NumOr W g3 (some (enc J))∧NumOr W g4 (some (mm (enc J) (enc J)))∧Below w.heap.size w W) V4):=lH ⟨HSV3.out.1.under hbN (Holds.lt HSV3.out.1),NumOr.under HSV3.out.2.1 hbN,NumOr.under HSV3.out.2.2.1 hbN,HSV3.out.2.2.2.trans (hbN.mono HSV3.out.2.2.2.size)⟩
 have HRV4:=lH (HRV3.out.under hbN (Holds.lt HRV3.out))
 have HQaV4:=lH ((HQaV3.out.under hbN).more hbN.size)
 clear hbN
 go_simp
 refine hK.out _ _ (HSV4.out) (fun hHeld=>?_)
 clear hK K
 try simp only [aP]
 refine rdy 11 ⟨some 27,.call ⟨ .value (.func 77),#[.tmp 26],#[67]⟩,24,_,_,none⟩ rfl (fun K hK=>?_)
 go_simp
 refine (leave_new V4 (HM.out.under HSV4.out.2.2.2) (mm Y (mm (mm (enc J) (enc J)) (enc J))) (mm_lt _ _) Hm.out).mono ?_
 rintro e V5 ⟨Ab,cb,rb,rfl,hnb,hrb,hbkb,hbN⟩
 have HNb:=lH hnb
 have HQbV5:=lH hrb
 have HKb:Hid (blockOf Ab≠some (w.heap.size+1)):=lH (fun e=>by have h1:=hbkb _ e;have h2:=Holds.lt HRV4.out;omega)
 have HSV5:Hid ((fun W=>Holds W w.heap.size 69 #[.int .u64 (x0:Int),.int .u64 (x1:Int),.int .u64 (x2:Int),.int .u64 (x3:Int),.int .u64 (y0:Int),.int .u64 (y1:Int),.int .u64 (y2:Int),.int .u64 (y3:Int),.int .u64 (z0:Int),.int .u64 (z1:Int),.int .u64 (z2:Int),.int .u64 (z3:Int)]∧NumOr W g3 (some (enc J))∧NumOr W g4 (some (mm (enc J) (enc J)))∧Below w.heap.size w W) V5):=lH ⟨HSV4.out.1.under hbN (Holds.lt HSV4.out.1),NumOr.under HSV4.out.2.1 hbN,NumOr.under HSV4.out.2.2.1 hbN,HSV4.out.2.2.2.trans (hbN.mono HSV4.out.2.2.2.size)⟩
 have HRV5:=lH (HRV4.out.under hbN (Holds.lt HRV4.out))
 have HQaV5:=lH ((HQaV4.out.under hbN).more hbN.size)
 clear hbN hnb hrb hbkb
 go_simp
 refine hK.out _ _ (HSV5.out) (fun hHeld=>?_)
 clear hK K
 try simp only [aP]
 refine tk 12 ⟨some 28,.build 26 #[(0,.tmp 20),(1,.tmp 27)],26,_,_,none⟩ ?_ rfl ?_ hHeld ?_
 rotate_left 1
 ·(intro W hW;(try dsimp only at hW);go_simp;try with_reducible rfl)
 try simp only [aP]
 refine rdy 13 ⟨none,.store 26 (.tmp 2) (.tmp 28),0,_,_,none⟩ rfl (fun K hK=>?_)
 have s0:=HRV5.out.cell 0
 have o0:=HRV5.out.open_ 0
 have s1:=HRV5.out.cell 1
 have o1:=HRV5.out.open_ 1
 have s2:=HRV5.out.cell 2
 have o2:=HRV5.out.open_ 2
 obtain ⟨V6,hN⟩:∃ W,W=(((V5.setCell ⟨w.heap.size+1,0,none⟩ (.slice Aa ra.length ca)).setCell ⟨w.heap.size+1,1,none⟩ (.slice Ab rb.length cb)).setCell ⟨w.heap.size+1,2,none⟩ (.bool false)):=⟨_,rfl⟩
 go_simp
 rw [←hN]
 have HR6:Hid (Holds V6 (w.heap.size+1) 26 #[.slice Aa ra.length ca,.slice Ab rb.length cb,.bool false]):=lH (by rw [hN];exact set3 HRV5.out _ _ _)
 have HB6:Hid (Below w.heap.size w V6):=lH (by rw [hN];exact below3 HSV5.out.2.2.2 (by omega) _ _ _)
 have HQa6:Hid (Rd .u32 V6 V6.heap.size Aa ca ra):=lH (by rw [hN];exact rd_aside3 HQaV5.out HKa.out _ _ _)
 have HQb6:Hid (Rd .u32 V6 V6.heap.size Ab cb rb):=lH (by rw [hN];exact rd_aside3 HQbV5.out HKb.out _ _ _)
 have HS6:Hid ((fun W=>Holds W w.heap.size 69 #[.int .u64 (x0:Int),.int .u64 (x1:Int),.int .u64 (x2:Int),.int .u64 (x3:Int),.int .u64 (y0:Int),.int .u64 (y1:Int),.int .u64 (y2:Int),.int .u64 (y3:Int),.int .u64 (z0:Int),.int .u64 (z1:Int),.int .u64 (z2:Int),.int .u64 (z3:Int)]∧NumOr W g3 (some (enc J))∧NumOr W g4 (some (mm (enc J) (enc J)))∧Below w.heap.size w W) V6):=lH ⟨by rw [hN];exact holds_aside3 HSV5.out.1 (k:=w.heap.size+1) (by omega) _ _ _,by rw [hN];exact holds_aside3 HSV5.out.2.1 (k:=w.heap.size+1) (by have:=HG3.out;omega) _ _ _,by rw [hN];exact holds_aside3 HSV5.out.2.2.1 (k:=w.heap.size+1) (by have:=HG4.out;omega) _ _ _,HB6.out⟩
 clear hN s0 o0 s1 o1 s2 o2
 refine hK.out _ _ (HS6.out) (fun hHeld=>?_)
 clear hK K
 try simp only [aP]
 refine wpAnyH_done (by kernel_rfl) ?_ _
 refine NoPanic.normal ?_
 go_wp2_with fail
 exact ret_pt (g:=w.heap.size+1) rfl rfl HR6.out rfl ⟨Aa,ca,ra,Ab,cb,rb,rfl,HNa.out,HNb.out,HQa6.out,HQb6.out,HB6.out⟩
end Go.Proofs.YtflfdglpljodbaaDoor
namespace Go.Proofs.YtflfdglpljodbaaDoor
open Go.RowKit
set_option linter.unusedVariables false
set_option linter.unusedSimpArgs false
def en (f:Luc.F):Nat:=enc f.val
theorem en_lt (f:Luc.F):en f<cP:=enc_lt _
theorem en_mul (f g:Luc.F):mm (en f) (en g)=en (f*g):=by
 unfold en
 rw [mm_enc]
 exact enc_cong (by rw [Fin.val_mul];exact (Nat.mod_mod _ cP).symm)
theorem en_add (f g:Luc.F):(en f+en g) % cP=en (f+g):=by
 unfold en
 rw [add_enc]
 exact enc_cong (by rw [Fin.val_add];exact (Nat.mod_mod _ cP).symm)
theorem en_sub (f g:Luc.F):(en f+(cP - en g)) % cP=en (f - g):=by
 unfold en
 rw [sub_enc]
 refine enc_cong ?_
 have hg:g.val<cP:=g.isLt
 rw [Fin.sub_def,Nat.mod_eq_of_lt hg]
 show _=((cP - g.val+f.val) % cP) % cP
 rw [Nat.mod_mod,Nat.add_comm]
theorem en_inj {f g:Luc.F}:en f=en g↔f=g:=by
 unfold en
 rw [enc_iff]
 have hf:f.val<cP:=f.isLt
 have hg:g.val<cP:=g.isLt
 rw [Nat.mod_eq_of_lt hf,Nat.mod_eq_of_lt hg]
 exact ⟨fun h=>Fin.ext h,fun h=>by rw [h]⟩
theorem en_zero:en 0=0:=by unfold en enc;rw [show ((0:Luc.F):Nat)=0 from rfl,Nat.zero_mul,Nat.zero_mod]
def fe (a:Nat) (h:a<cP):Luc.F:=⟨a,h⟩
theorem mulE (w:World) (hm:CMet w) (f g:Luc.F) {x0 x1 x2 x3 y0 y1 y2 y3 z0 z1 z2 z3:Nat} (hx:nm (en f)=[x0,x1,x2,x3]) (hy:nm (en g)=[y0,y1,y2,y3]) (hz:nm (en (f*g))=[z0,z1,z2,z3]) :
  Calls Tryd.prog 56 #[.agg #[.int .u64 (x0:Int),.int .u64 (x1:Int),.int .u64 (x2:Int),.int .u64 (x3:Int)],.agg #[.int .u64 (y0:Int),.int .u64 (y1:Int),.int .u64 (y2:Int),.int .u64 (y3:Int)]] w fun e w'=>e = .returned (.agg #[.int .u64 (z0:Int),.int .u64 (z1:Int),.int .u64 (z2:Int),.int .u64 (z3:Int)])∧Below w.heap.size w w' :=
 mulN w hm (en f) (en g) (en_lt f) (en_lt g) hx hy (by rw [en_mul];exact hz)
theorem addE (w:World) (hm:CMet w) (f g:Luc.F) {x0 x1 x2 x3 y0 y1 y2 y3 z0 z1 z2 z3:Nat} (hx:nm (en f)=[x0,x1,x2,x3]) (hy:nm (en g)=[y0,y1,y2,y3]) (hz:nm (en (f+g))=[z0,z1,z2,z3]) :
  Calls Tryd.prog 57 #[.agg #[.int .u64 (x0:Int),.int .u64 (x1:Int),.int .u64 (x2:Int),.int .u64 (x3:Int)],.agg #[.int .u64 (y0:Int),.int .u64 (y1:Int),.int .u64 (y2:Int),.int .u64 (y3:Int)]] w fun e w'=>e = .returned (.agg #[.int .u64 (z0:Int),.int .u64 (z1:Int),.int .u64 (z2:Int),.int .u64 (z3:Int)])∧Below w.heap.size w w' :=
 addN w hm (en f) (en g) (en_lt f) (en_lt g) hx hy (by rw [en_add];exact hz)
theorem subE (w:World) (hm:CMet w) (f g:Luc.F) {x0 x1 x2 x3 y0 y1 y2 y3 z0 z1 z2 z3:Nat} (hx:nm (en f)=[x0,x1,x2,x3]) (hy:nm (en g)=[y0,y1,y2,y3]) (hz:nm (en (f - g))=[z0,z1,z2,z3]) :
  Calls Tryd.prog 55 #[.agg #[.int .u64 (x0:Int),.int .u64 (x1:Int),.int .u64 (x2:Int),.int .u64 (x3:Int)],.agg #[.int .u64 (y0:Int),.int .u64 (y1:Int),.int .u64 (y2:Int),.int .u64 (y3:Int)]] w fun e w'=>e = .returned (.agg #[.int .u64 (z0:Int),.int .u64 (z1:Int),.int .u64 (z2:Int),.int .u64 (z3:Int)])∧Below w.heap.size w w' :=
 subN w hm (en f) (en g) (en_lt f) (en_lt g) hx hy (by rw [en_sub];exact hz)
theorem twiceE (w:World) (hm:CMet w) (f:Luc.F) {x0 x1 x2 x3 z0 z1 z2 z3:Nat} (hx:nm (en f)=[x0,x1,x2,x3]) (hz:nm (en (f+f))=[z0,z1,z2,z3]) :
  Calls Tryd.prog 78 #[.agg #[.int .u64 (x0:Int),.int .u64 (x1:Int),.int .u64 (x2:Int),.int .u64 (x3:Int)]] w fun e w'=>e = .returned (.agg #[.int .u64 (z0:Int),.int .u64 (z1:Int),.int .u64 (z2:Int),.int .u64 (z3:Int)])∧Below w.heap.size w w' :=
 twiceN w hm (en f) (en_lt f) hx (by rw [en_add];exact hz)
theorem eqE (W:World) (f g:Luc.F) {x0 x1 x2 x3 y0 y1 y2 y3:Nat} (hx:nm (en f)=[x0,x1,x2,x3]) (hy:nm (en g)=[y0,y1,y2,y3]) :
  (Op.equalIn 10000 67 (.agg #[.int .u64 (x0:Int),.int .u64 (x1:Int),.int .u64 (x2:Int),.int .u64 (x3:Int)]) (.agg #[.int .u64 (y0:Int),.int .u64 (y1:Int),.int .u64 (y2:Int),.int .u64 (y3:Int)])).run Tryd.prog W = .ok (decide (f=g)) W :=
 eqN W (Nat.lt_trans (en_lt f) cP_cR) (Nat.lt_trans (en_lt g) cP_cR) hx hy _ (by rw [decide_eq_decide];exact en_inj.symm)
theorem dig0:nm (en 0)=[0,0,0,0]:=by rw [en_zero];rfl
end Go.Proofs.YtflfdglpljodbaaDoor
