/-
  A number twice; a point, wide. Numbers out of the field. The inverse of a number of the field. A wide point, flat. The program's numbers of the field, as the field's.
-/
import Derived.Test.YtflfdglpljodbaaDoorGCvC
import Derived.Deep.RegionLaw
import Derived.Deep.RegionHeld3
import Derived.Deep.DrawnRows
import Derived.Test.YtflfdglpljodbaaDoorGCv9
import Derived.Test.YtflfdglpljodbaaDoorGOwn
import Derived.Test.YtflfdglpljodbaaDoorGNatB
import Derived.Test.YtflfdglpljodbaaDoorGModM
import Derived.Test.YtflfdglpljodbaaDoorGLucM
set_option maxHeartbeats 8000000
set_option maxRecDepth 100000
set_option linter.unusedVariables false
set_option linter.unusedSimpArgs false
namespace Go.Proofs.YtflfdglpljodbaaDoor
open Go.RowKit
theorem set12 {w:World} {g:Nat} {t:TypeId} {v0 v1 v2 v3 v4 v5 v6 v7 v8 v9 v10 v11:Value} (h:Holds w g t #[v0,v1,v2,v3,v4,v5,v6,v7,v8,v9,v10,v11]) (p0 p1 p2 p3 p4 p5 p6 p7 p8 p9 p10 p11:Value):Holds ((((((((((((w.setCell ⟨g,0,none⟩ p0).setCell ⟨g,1,none⟩ p1).setCell ⟨g,2,none⟩ p2).setCell ⟨g,3,none⟩ p3).setCell ⟨g,4,none⟩ p4).setCell ⟨g,5,none⟩ p5).setCell ⟨g,6,none⟩ p6).setCell ⟨g,7,none⟩ p7).setCell ⟨g,8,none⟩ p8).setCell ⟨g,9,none⟩ p9).setCell ⟨g,10,none⟩ p10).setCell ⟨g,11,none⟩ p11) g t #[p0,p1,p2,p3,p4,p5,p6,p7,p8,p9,p10,p11]:=by
 have h0:Holds (w.setCell ⟨g,0,none⟩ p0) g t #[p0,v1,v2,v3,v4,v5,v6,v7,v8,v9,v10,v11]:=h.stored 0 p0
 have h1:Holds ((w.setCell ⟨g,0,none⟩ p0).setCell ⟨g,1,none⟩ p1) g t #[p0,p1,v2,v3,v4,v5,v6,v7,v8,v9,v10,v11]:=h0.stored 1 p1
 have h2:Holds (((w.setCell ⟨g,0,none⟩ p0).setCell ⟨g,1,none⟩ p1).setCell ⟨g,2,none⟩ p2) g t #[p0,p1,p2,v3,v4,v5,v6,v7,v8,v9,v10,v11]:=h1.stored 2 p2
 have h3:Holds ((((w.setCell ⟨g,0,none⟩ p0).setCell ⟨g,1,none⟩ p1).setCell ⟨g,2,none⟩ p2).setCell ⟨g,3,none⟩ p3) g t #[p0,p1,p2,p3,v4,v5,v6,v7,v8,v9,v10,v11]:=h2.stored 3 p3
 have h4:Holds (((((w.setCell ⟨g,0,none⟩ p0).setCell ⟨g,1,none⟩ p1).setCell ⟨g,2,none⟩ p2).setCell ⟨g,3,none⟩ p3).setCell ⟨g,4,none⟩ p4) g t #[p0,p1,p2,p3,p4,v5,v6,v7,v8,v9,v10,v11]:=h3.stored 4 p4
 have h5:Holds ((((((w.setCell ⟨g,0,none⟩ p0).setCell ⟨g,1,none⟩ p1).setCell ⟨g,2,none⟩ p2).setCell ⟨g,3,none⟩ p3).setCell ⟨g,4,none⟩ p4).setCell ⟨g,5,none⟩ p5) g t #[p0,p1,p2,p3,p4,p5,v6,v7,v8,v9,v10,v11]:=h4.stored 5 p5
 have h6:Holds (((((((w.setCell ⟨g,0,none⟩ p0).setCell ⟨g,1,none⟩ p1).setCell ⟨g,2,none⟩ p2).setCell ⟨g,3,none⟩ p3).setCell ⟨g,4,none⟩ p4).setCell ⟨g,5,none⟩ p5).setCell ⟨g,6,none⟩ p6) g t #[p0,p1,p2,p3,p4,p5,p6,v7,v8,v9,v10,v11]:=h5.stored 6 p6
 have h7:Holds ((((((((w.setCell ⟨g,0,none⟩ p0).setCell ⟨g,1,none⟩ p1).setCell ⟨g,2,none⟩ p2).setCell ⟨g,3,none⟩ p3).setCell ⟨g,4,none⟩ p4).setCell ⟨g,5,none⟩ p5).setCell ⟨g,6,none⟩ p6).setCell ⟨g,7,none⟩ p7) g t #[p0,p1,p2,p3,p4,p5,p6,p7,v8,v9,v10,v11]:=h6.stored 7 p7
 have h8:Holds (((((((((w.setCell ⟨g,0,none⟩ p0).setCell ⟨g,1,none⟩ p1).setCell ⟨g,2,none⟩ p2).setCell ⟨g,3,none⟩ p3).setCell ⟨g,4,none⟩ p4).setCell ⟨g,5,none⟩ p5).setCell ⟨g,6,none⟩ p6).setCell ⟨g,7,none⟩ p7).setCell ⟨g,8,none⟩ p8) g t #[p0,p1,p2,p3,p4,p5,p6,p7,p8,v9,v10,v11]:=h7.stored 8 p8
 have h9:Holds ((((((((((w.setCell ⟨g,0,none⟩ p0).setCell ⟨g,1,none⟩ p1).setCell ⟨g,2,none⟩ p2).setCell ⟨g,3,none⟩ p3).setCell ⟨g,4,none⟩ p4).setCell ⟨g,5,none⟩ p5).setCell ⟨g,6,none⟩ p6).setCell ⟨g,7,none⟩ p7).setCell ⟨g,8,none⟩ p8).setCell ⟨g,9,none⟩ p9) g t #[p0,p1,p2,p3,p4,p5,p6,p7,p8,p9,v10,v11]:=h8.stored 9 p9
 have ac:Holds (((((((((((w.setCell ⟨g,0,none⟩ p0).setCell ⟨g,1,none⟩ p1).setCell ⟨g,2,none⟩ p2).setCell ⟨g,3,none⟩ p3).setCell ⟨g,4,none⟩ p4).setCell ⟨g,5,none⟩ p5).setCell ⟨g,6,none⟩ p6).setCell ⟨g,7,none⟩ p7).setCell ⟨g,8,none⟩ p8).setCell ⟨g,9,none⟩ p9).setCell ⟨g,10,none⟩ p10) g t #[p0,p1,p2,p3,p4,p5,p6,p7,p8,p9,p10,v11]:=h9.stored 10 p10
 have ab:Holds ((((((((((((w.setCell ⟨g,0,none⟩ p0).setCell ⟨g,1,none⟩ p1).setCell ⟨g,2,none⟩ p2).setCell ⟨g,3,none⟩ p3).setCell ⟨g,4,none⟩ p4).setCell ⟨g,5,none⟩ p5).setCell ⟨g,6,none⟩ p6).setCell ⟨g,7,none⟩ p7).setCell ⟨g,8,none⟩ p8).setCell ⟨g,9,none⟩ p9).setCell ⟨g,10,none⟩ p10).setCell ⟨g,11,none⟩ p11) g t #[p0,p1,p2,p3,p4,p5,p6,p7,p8,p9,p10,p11]:=ac.stored 11 p11
 exact ab
theorem below12 {B:Nat} {a w:World} (h:Below B a w) {g:Nat} (hg:B≤g) (p0 p1 p2 p3 p4 p5 p6 p7 p8 p9 p10 p11:Value):Below B a ((((((((((((w.setCell ⟨g,0,none⟩ p0).setCell ⟨g,1,none⟩ p1).setCell ⟨g,2,none⟩ p2).setCell ⟨g,3,none⟩ p3).setCell ⟨g,4,none⟩ p4).setCell ⟨g,5,none⟩ p5).setCell ⟨g,6,none⟩ p6).setCell ⟨g,7,none⟩ p7).setCell ⟨g,8,none⟩ p8).setCell ⟨g,9,none⟩ p9).setCell ⟨g,10,none⟩ p10).setCell ⟨g,11,none⟩ p11) :=
 ((((((((((((h.setCell (p:=⟨g,0,none⟩) hg p0).setCell (p:=⟨g,1,none⟩) hg p1).setCell (p:=⟨g,2,none⟩) hg p2).setCell (p:=⟨g,3,none⟩) hg p3).setCell (p:=⟨g,4,none⟩) hg p4).setCell (p:=⟨g,5,none⟩) hg p5).setCell (p:=⟨g,6,none⟩) hg p6).setCell (p:=⟨g,7,none⟩) hg p7).setCell (p:=⟨g,8,none⟩) hg p8).setCell (p:=⟨g,9,none⟩) hg p9).setCell (p:=⟨g,10,none⟩) hg p10).setCell (p:=⟨g,11,none⟩) hg p11)
theorem ret_wd {R:Ending→World→Prop} {tmps:Array Value} {w:World} {g:Nat} {t:TypeId} {cs:Array Value} {fn:Func} {p:Tmp}
  (hr:fn.results=#[.cell p 69]) (hp:tmps.getD p undef = .pointer (some ⟨g,0,none⟩)) (hg:Holds w g t cs) (hcs:cs.size=12) (hR:R (.returned (.agg cs)) w) :
  bodyPost Tryd.prog fn R .ret { tmps:=tmps,defers:=[] } w:=by
 have hi:(Tryd.prog.info? 69).map (·.size)=some cs.size:=by rw [hcs];kernel_rfl
 refine bodyPost_ret (v:=.agg cs) ?_ rfl hR
 have hp':tmps[p]?.getD undef = .pointer (some ⟨g,0,none⟩):=by simpa using hp
 simp [results,hr,hp',asAddr,run_loadVar_row w g t _ cs (0,0) _ hg Tryd.underlying69 rfl hi,Result.andThen]
theorem twiceN (w:World) (hm:CMet w) (X:Nat) (hX:X<cP) {x0 x1 x2 x3 z0 z1 z2 z3:Nat} (hx:nm X=[x0,x1,x2,x3]) (hz:nm ((X+X) % cP)=[z0,z1,z2,z3]) :
  Calls Tryd.prog 78 #[.agg #[.int .u64 (x0:Int),.int .u64 (x1:Int),.int .u64 (x2:Int),.int .u64 (x3:Int)]] w fun e w'=>e = .returned (.agg #[.int .u64 (z0:Int),.int .u64 (z1:Int),.int .u64 (z2:Int),.int .u64 (z3:Int)])∧Below w.heap.size w w':=by
 have HM:=lH hm
 have HX:=lH hx
 have HZ:=lH hz
 have HL:=lH hX
 clear hm hx hz hX
 go_enter Tryd.func78,Tryd.ntmps78
 go_wp2_with fail
 obtain ⟨w1,hw1⟩:∃ W,W=w.alloc (.cells #[.int .u64 (x0:Int),.int .u64 (x1:Int),.int .u64 (x2:Int),.int .u64 (x3:Int)] 67):=⟨_,rfl⟩
 rw [←hw1]
 have hz1:w1.heap.size=w.heap.size+1:=by rw [hw1];simp
 have hb1:Below w.heap.size w w1:=by rw [hw1];exact (Below.refl _ _).alloc (Nat.le_refl _) _
 obtain ⟨w2,hw2⟩:∃ W,W=w1.alloc (.cells #[.int .u64 0,.int .u64 0,.int .u64 0,.int .u64 0] 67):=⟨_,rfl⟩
 rw [←hw2]
 have hR:Holds w2 (w.heap.size+1) 67 #[.int .u64 0,.int .u64 0,.int .u64 0,.int .u64 0]:=by rw [hw2,←hz1];exact Holds.fresh w1 _ _
 have hb2:Below w.heap.size w w2:=by rw [hw2];exact hb1.alloc hb1.size _
 refine (addN w2 (HM.out.under hb2) X X HL HL HX HX HZ).mono ?_
 rintro e w3 ⟨rfl,hb3⟩
 have hr3:=hR.under hb3 (Holds.lt hR)
 have HR3:=lH hr3
 have HB3:=lH (hb2.trans (hb3.mono hb2.size))
 clear hw1 hz1 hb1 hw2 hR hb2 hb3
 have z0:=hr3.cell 0
 have o0:=hr3.open_ 0
 have z1:=hr3.cell 1
 have o1:=hr3.open_ 1
 have z2:=hr3.cell 2
 have o2:=hr3.open_ 2
 have z3:=hr3.cell 3
 have o3:=hr3.open_ 3
 clear hr3
 go_wp2_with fail
 exact ret_num (g:=w.heap.size+1) rfl rfl (set4 HR3 _ _ _ _) rfl ⟨rfl,below4 HB3 (by omega) _ _ _ _⟩
theorem wideOf_any (w:World) (hm:CMet w) (Ax Ay:Option Addr) (cx cy:Nat) (lx ly:List Nat) (hx:Rd .u32 w w.heap.size Ax cx lx) (hy:Rd .u32 w w.heap.size Ay cy ly) (hdx:Dg lx) (hdy:Dg ly) (hlx:lx.length≤8) (hly:ly.length≤8)
  {x0 x1 x2 x3 y0 y1 y2 y3 u0 u1 u2 u3:Nat} (hxd:nm (enc (val lx))=[x0,x1,x2,x3]) (hyd:nm (enc (val ly))=[y0,y1,y2,y3]) (hud:nm (enc 1)=[u0,u1,u2,u3]) :
  Calls Tryd.prog 43 #[.agg #[.slice Ax lx.length cx,.slice Ay ly.length cy,.bool false]] w fun e w'=>e = .returned (.agg #[.int .u64 (x0:Int),.int .u64 (x1:Int),.int .u64 (x2:Int),.int .u64 (x3:Int),.int .u64 (y0:Int),.int .u64 (y1:Int),.int .u64 (y2:Int),.int .u64 (y3:Int),.int .u64 (u0:Int),.int .u64 (u1:Int),.int .u64 (u2:Int),.int .u64 (u3:Int)])∧Below w.heap.size w w':=by
 obtain ⟨w1,ao⟩:∃ W,W=w.alloc (.cells #[.slice Ax lx.length cx,.slice Ay ly.length cy,.bool false] 26):=⟨_,rfl⟩
 have aG:w1.heap.size=w.heap.size+1:=by rw [ao];simp
 have az:Below w.heap.size w w1:=by rw [ao];exact (Below.refl _ _).alloc (Nat.le_refl _) _
 have aE:BoxAt w1 w.heap.size Ax lx.length cx Ay ly.length cy false:=by rw [ao];exact ⟨Holds.fresh w _ _⟩
 obtain ⟨w2,am⟩:∃ W,W=w1.alloc (.cells #[.int .u64 0,.int .u64 0,.int .u64 0,.int .u64 0,.int .u64 0,.int .u64 0,.int .u64 0,.int .u64 0,.int .u64 0,.int .u64 0,.int .u64 0,.int .u64 0] 69):=⟨_,rfl⟩
 have aF:Below w.heap.size w w2:=by rw [am];exact az.alloc az.size _
 have aD:BoxAt w2 w.heap.size Ax lx.length cx Ay ly.length cy false:=by rw [am];exact ⟨aE.h.alloc _⟩
 have aA:Holds w2 (w.heap.size+1) 69 #[.int .u64 0,.int .u64 0,.int .u64 0,.int .u64 0,.int .u64 0,.int .u64 0,.int .u64 0,.int .u64 0,.int .u64 0,.int .u64 0,.int .u64 0,.int .u64 0]:=by rw [am,←aG];exact Holds.fresh w1 _ _
 have aC:w.heap.size+1≤w2.heap.size:=by rw [am];simp;omega
 have ay:=lH aD
 have aM:=lH aA
 have HB:=lH aF
 have HW:=lH (ao ▸ am:w2=(w.alloc (.cells #[.slice Ax lx.length cx,.slice Ay ly.length cy,.bool false] 26)).alloc (.cells #[.int .u64 0,.int .u64 0,.int .u64 0,.int .u64 0,.int .u64 0,.int .u64 0,.int .u64 0,.int .u64 0,.int .u64 0,.int .u64 0,.int .u64 0,.int .u64 0] 69))
 have HX:=lH hx
 have HY:=lH hy
 have aH:=lH hdx
 have aL:=lH hdy
 have aU:=lH hlx
 have aQ:=lH hly
 have HM:=lH hm
 have Hx:=lH hxd
 have Hy:=lH hyd
 have Hu:=lH hud
 clear aD aA az aF aE ao am aG hx hy hdx hdy hm hxd hyd hud hlx hly
 go_enter Tryd.func43,Tryd.ntmps43
 go_wp2_with fail
 rw [←HW.out]
 obtain ⟨b0,b1,b2⟩:=ay.out.cells
 go_wp2_with fail
 clear b0 b1 b2
 refine wp_region_noPanic ?_
 refine wp_region_held_drew (S:=fun W=>Below (w.heap.size+1) w2 W) (by kernel_rfl) ((Below.refl _ w2).drew) (fun hHeld=>?_)
 obtain ⟨V,hV⟩:∃ W,W=w2.drew:=⟨_,rfl⟩
 rw [←hV]
 have ak:Hid (Below (w.heap.size+1) w2 V):=lH (by rw [hV];exact (Below.refl _ w2).drew)
 have aB:Hid (Holds V (w.heap.size+1) 69 #[.int .u64 0,.int .u64 0,.int .u64 0,.int .u64 0,.int .u64 0,.int .u64 0,.int .u64 0,.int .u64 0,.int .u64 0,.int .u64 0,.int .u64 0,.int .u64 0]):=lH (by rw [hV];exact aM.out)
 replace hHeld:(fun W=>Below (w.heap.size+1) w2 W) V:=ak.out
 clear hV
 refine tz 0 ⟨some 6,.fieldAddr 26 (.tmp 1) 0,0,_,_,none⟩ rfl hHeld ?_
 try simp only [aP]
 refine tk 1 ⟨some 7,.load 24 (.tmp 6),24,_,_,none⟩ ?_ rfl ?_ hHeld ?_
 rotate_left 1
 ·(intro W hW;have au:=(ay.out.under hW (Nat.lt_succ_self _)).cells;obtain ⟨b0,b1,b2⟩:=au;(try dsimp only at hW);go_simp;try with_reducible rfl)
 try simp only [aP]
 refine tz 3 ⟨some 9,.fieldAddr 26 (.tmp 1) 1,0,_,_,none⟩ rfl hHeld ?_
 try simp only [aP]
 refine tk 4 ⟨some 10,.load 24 (.tmp 9),24,_,_,none⟩ ?_ rfl ?_ hHeld ?_
 rotate_left 1
 ·(intro W hW;have au:=(ay.out.under hW (Nat.lt_succ_self _)).cells;obtain ⟨b0,b1,b2⟩:=au;(try dsimp only at hW);go_simp;try with_reducible rfl)
 try simp only [aP]
 refine tk 6 ⟨some 12,.load 67 (.global 0),67,_,_,none⟩ ?_ rfl ?_ hHeld ?_
 rotate_left 1
 ·(intro W hW;have au:=unit_cells (HM.out.under (HB.out.trans (hW.mono (Nat.le_succ _)))) Hu.out;obtain ⟨b0,b1,b2,b3⟩:=au;(try dsimp only at hW);go_simp;try with_reducible rfl)
 try simp only [aP]
 refine rdy 2 ⟨some 8,.call ⟨ .value (.func 54),#[.tmp 7],#[24]⟩,67,_,_,none⟩ rfl (fun K hK=>?_)
 go_simp
 refine (enterN V (HM.out.under (HB.out.trans (ak.out.mono (Nat.le_succ _)))) w.heap.size cx Ax lx (HB.out.trans (ak.out.mono (Nat.le_succ _))).size (HX.out.under (HB.out.trans (ak.out.mono (Nat.le_succ _)))) aU aH Hx).mono ?_
 rintro e V1 ⟨rfl,ae⟩
 have ac:Hid (Below (w.heap.size+1) w2 V1):=lH (ak.out.trans (ae.mono (Nat.le_trans aC ak.out.size)))
 have av:=lH (aB.out.under ae (Holds.lt aB))
 clear ae
 go_simp
 refine hK.out _ _ (ac.out) (fun hHeld=>?_)
 clear hK K
 try simp only [aP]
 refine rdy 5 ⟨some 11,.call ⟨ .value (.func 54),#[.tmp 10],#[24]⟩,67,_,_,none⟩ rfl (fun K hK=>?_)
 go_simp
 refine (enterN V1 (HM.out.under (HB.out.trans (ac.out.mono (Nat.le_succ _)))) w.heap.size cy Ay ly (HB.out.trans (ac.out.mono (Nat.le_succ _))).size (HY.out.under (HB.out.trans (ac.out.mono (Nat.le_succ _)))) aQ aL Hy).mono ?_
 rintro e V2 ⟨rfl,ae⟩
 have ai:Hid (Below (w.heap.size+1) w2 V2):=lH (ac.out.trans (ae.mono (Nat.le_trans aC ac.out.size)))
 have ax:=lH (av.out.under ae (Holds.lt av))
 clear ae
 go_simp
 refine hK.out _ _ (ai.out) (fun hHeld=>?_)
 clear hK K
 try simp only [aP]
 refine tz 7 ⟨some 13,.build 69 #[(0,.tmp 8),(1,.tmp 11),(2,.tmp 12)],69,_,_,none⟩ rfl hHeld ?_
 try simp only [aP]
 refine rdy 8 ⟨none,.store 69 (.tmp 2) (.tmp 13),0,_,_,none⟩ rfl (fun K hK=>?_)
 have ab:=ax
 have z0:=ab.out.cell 0
 have o0:=ab.out.open_ 0
 have z1:=ab.out.cell 1
 have o1:=ab.out.open_ 1
 have z2:=ab.out.cell 2
 have o2:=ab.out.open_ 2
 have z3:=ab.out.cell 3
 have o3:=ab.out.open_ 3
 have z4:=ab.out.cell 4
 have o4:=ab.out.open_ 4
 have z5:=ab.out.cell 5
 have o5:=ab.out.open_ 5
 have z6:=ab.out.cell 6
 have o6:=ab.out.open_ 6
 have z7:=ab.out.cell 7
 have o7:=ab.out.open_ 7
 have z8:=ab.out.cell 8
 have o8:=ab.out.open_ 8
 have z9:=ab.out.cell 9
 have o9:=ab.out.open_ 9
 have aR:=ab.out.cell 10
 have aJ:=ab.out.open_ 10
 have aN:=ab.out.cell 11
 have aO:=ab.out.open_ 11
 obtain ⟨V3,hN⟩:∃ W,W=((((((((((((V2.setCell ⟨w.heap.size+1,0,none⟩ (.int .u64 (x0:Int))).setCell ⟨w.heap.size+1,1,none⟩ (.int .u64 (x1:Int))).setCell ⟨w.heap.size+1,2,none⟩ (.int .u64 (x2:Int))).setCell ⟨w.heap.size+1,3,none⟩ (.int .u64 (x3:Int))).setCell ⟨w.heap.size+1,4,none⟩ (.int .u64 (y0:Int))).setCell ⟨w.heap.size+1,5,none⟩ (.int .u64 (y1:Int))).setCell ⟨w.heap.size+1,6,none⟩ (.int .u64 (y2:Int))).setCell ⟨w.heap.size+1,7,none⟩ (.int .u64 (y3:Int))).setCell ⟨w.heap.size+1,8,none⟩ (.int .u64 (u0:Int))).setCell ⟨w.heap.size+1,9,none⟩ (.int .u64 (u1:Int))).setCell ⟨w.heap.size+1,10,none⟩ (.int .u64 (u2:Int))).setCell ⟨w.heap.size+1,11,none⟩ (.int .u64 (u3:Int))):=⟨_,rfl⟩
 go_simp
 rw [←hN]
 have aK:Hid (Holds V3 (w.heap.size+1) 69 #[.int .u64 (x0:Int),.int .u64 (x1:Int),.int .u64 (x2:Int),.int .u64 (x3:Int),.int .u64 (y0:Int),.int .u64 (y1:Int),.int .u64 (y2:Int),.int .u64 (y3:Int),.int .u64 (u0:Int),.int .u64 (u1:Int),.int .u64 (u2:Int),.int .u64 (u3:Int)]):=lH (by rw [hN];exact set12 ab _ _ _ _ _ _ _ _ _ _ _ _)
 have aT:Hid (Below w.heap.size w V3):=lH (by rw [hN];exact below12 (HB.out.trans (ai.out.mono (Nat.le_succ _))) (by omega) _ _ _ _ _ _ _ _ _ _ _ _)
 have aw:Hid (Below (w.heap.size+1) w2 V3):=lH (by rw [hN];exact below12 ai (Nat.le_refl _) _ _ _ _ _ _ _ _ _ _ _ _)
 clear hN z0 o0 z1 o1 z2 o2 z3 o3 z4 o4 z5 o5 z6 o6 z7 o7 z8 o8 z9 o9 aR aJ aN aO
 refine hK.out _ _ (aw.out) (fun hHeld=>?_)
 clear hK K
 try simp only [aP]
 refine dn ?_
 go_wp2_with fail
 exact ret_wd (g:=w.heap.size+1) rfl rfl aK rfl ⟨rfl,aT⟩
def hv:List Nat→List Nat
 | []=>[]
 | d :: l=>d % 4294967296 :: d / 4294967296 :: hv l
theorem hv_len:∀ l,(hv l).length=2*l.length
 | []=>rfl
 | d :: l=>by simp only [hv,List.length_cons,hv_len l];omega
theorem hv_dg:∀ l,D64 l→Dg (hv l)
 | [],_=>fun x hx=>by cases hx
 | d :: l,h=>fun x hx=>by
  have hd:=h d (by simp)
  simp only [hv,List.mem_cons] at hx
  rcases hx with rfl | rfl | hx
  ·omega
  ·omega
  ·exact hv_dg l (fun y hy=>h y (by simp [hy])) x hx
theorem hv_val:∀ l,val (hv l)=v64 l
 | []=>rfl
 | d :: l=>by
  simp only [hv,val,v64,hv_val l]
  omega
theorem hv_take:∀ (l:List Nat) (k:Nat),k<l.length→(hv l).take (2*(k+1))=(hv l).take (2*k) ++ [l.getD k 0 % 4294967296,l.getD k 0 / 4294967296]
 | [],k,h=>by simp at h
 | d :: l,0,_=>by simp [hv]
 | d :: l,k+1,h=>by
  have ih:=hv_take l k (by simpa using h)
  rw [show 2*(k+1+1)=2*(k+1)+1+1 by omega,show 2*(k+1)=2*k+1+1 by omega] at *
  simp only [hv,List.take_succ_cons,List.cons_append]
  rw [show 2*k+1+1=2*(k+1) by omega] at *
  rw [ih]
  rfl
theorem grown_below9 {a w:World} {r:Option Nat} {B:Nat} (h:a.grownBy w r) (hr:∀ g,r=some g→B≤g) (hs:B≤a.heap.size):Below B a w :=
 ⟨h.os,h.tape,h.output,h.size,fun b hb=>h.block b (by omega) (fun e=>by have:=hr b e.symm;omega)⟩
theorem own_room {w:World} {g B:Nat} (hB:B≤g) (h:Holds w g 22 (nums .u32 (List.replicate 8 0))):Own .u32 22 w B (some ⟨g,0,none⟩) 8 [] :=
 ⟨by simp [vals],.inr ⟨g,8,nums .u32 (List.replicate 8 0),rfl,hB,h,Nat.zero_le _,by decide,by simp [nums],by simp [vals]⟩⟩
theorem make_room (W:World):(Instr.makeSlice 24 (.int .i64 0) (.int .i64 8)).run Tryd.prog W = .ok (.slice (some ⟨W.heap.size,0,none⟩) 0 8) (W.alloc (.cells (nums .u32 (List.replicate 8 0)) 22)):=by
 obtain ⟨i0,hi,hz0,hz1,hz2⟩:=info_parts info_u32
 have h:=run_make (P:=Tryd.prog) W 24 22 i0 (.int .u32 0) Tryd.underlying24 hi hz0 .i64 .i64 ((0:Nat):Int) ((8:Nat):Int) (by omega) (by omega) (by rw [hz2];omega) (by omega)
 have h2:(Instr.makeSlice 24 (.int .i64 0) (.int .i64 8)).run Tryd.prog W=_:=h
 rw [h2,hz1,nums_noughts]
 simp [Value.cells]
def RelV (w:World) (H:List Nat) (a i:Value) (wr:World):Prop :=
 ∃ (k c:Nat) (A:Option Addr),k≤4∧i = .int .i64 (k:Int)∧a = .slice A (2*k) c∧Hid (Own .u32 22 wr w.heap.size A c (H.take (2*k))∧Below w.heap.size w wr)
def lenOf:Value→Nat
 | .slice _ n _=>n
 | _=>0
def RelW (V:World) (H:List Nat) (A:Option Addr) (c:Nat) (a:Value) (wr:World):Prop :=
 ∃ n:Nat,n≤8∧a = .slice A n c∧wr=V∧Hid (val (H.take n)=val H)
def GotN (w:World) (v:Nat) (e:Ending) (w':World):Prop :=
 ∃ A c r,e = .returned (.slice A r.length c)∧NumIs r v∧Rd .u32 w' w'.heap.size A c r∧(∀ g,blockOf A=some g→w.heap.size≤g)∧Below w.heap.size w w'
theorem leave_new (w:World) (hm:CMet w) (X:Nat) (hX:X<cP) {x0 x1 x2 x3:Nat} (hx:nm X=[x0,x1,x2,x3]) :
  Calls Tryd.prog 77 #[.agg #[.int .u64 (x0:Int),.int .u64 (x1:Int),.int .u64 (x2:Int),.int .u64 (x3:Int)]] w (GotN w (mm X 1)):=by
 obtain ⟨d0,d1,d2,d3,hd⟩:=four (nm_len (mm X 1))
 obtain ⟨w1,ax⟩:∃ W,W=w.alloc (.cells #[.int .u64 (x0:Int),.int .u64 (x1:Int),.int .u64 (x2:Int),.int .u64 (x3:Int)] 67):=⟨_,rfl⟩
 have aC:Below w.heap.size w w1:=by rw [ax];exact (Below.refl _ _).alloc (Nat.le_refl _) _
 have aV:Holds w1 w.heap.size 67 #[.int .u64 (x0:Int),.int .u64 (x1:Int),.int .u64 (x2:Int),.int .u64 (x3:Int)]:=by rw [ax];exact Holds.fresh w _ _
 have HC:=lH (mulN w1 (hm.under aC) X 1 hX (by decide +kernel) hx (y0:=1) (y1:=0) (y2:=0) (y3:=0) rfl hd)
 have ak:=lH aV
 have HD:=lH hd
 have aM:Hid (D64 [d0,d1,d2,d3]):=lH (by rw [←hd];exact nm_d _)
 have HW:=lH ax
 have HB:=lH aC
 clear aC aV hm hx hX hd ax
 have az:=make_room
 go_enter Tryd.func77,Tryd.ntmps77
 go_wp2_with fail
 rw [←HW.out]
 obtain ⟨c0,c1,c2,c3⟩:w1.cell? ⟨w.heap.size,0,none⟩=some (.int .u64 (x0:Int))∧w1.cell? ⟨w.heap.size,1,none⟩=some (.int .u64 (x1:Int))∧w1.cell? ⟨w.heap.size,2,none⟩=some (.int .u64 (x2:Int))∧w1.cell? ⟨w.heap.size,3,none⟩=some (.int .u64 (x3:Int)):=⟨ak.out.cell 0,ak.out.cell 1,ak.out.cell 2,ak.out.cell 3⟩
 go_wp2_with fail
 refine HC.out.mono ?_
 rintro e w2 ⟨rfl,aH⟩
 have ab:=ak.out.under aH (Holds.lt ak)
 have HR2:=lH ab
 have a9:=lH (HB.out.trans (aH.mono HB.out.size))
 clear aH c0 c1 c2 c3
 have z0:=ab.cell 0
 have o0:=ab.open_ 0
 have z1:=ab.cell 1
 have o1:=ab.open_ 1
 have z2:=ab.cell 2
 have o2:=ab.open_ 2
 have z3:=ab.cell 3
 have o3:=ab.open_ 3
 obtain ⟨w3,av⟩:∃ W,W=((((w2.setCell ⟨w.heap.size,0,none⟩ (.int .u64 (d0:Int))).setCell ⟨w.heap.size,1,none⟩ (.int .u64 (d1:Int))).setCell ⟨w.heap.size,2,none⟩ (.int .u64 (d2:Int))).setCell ⟨w.heap.size,3,none⟩ (.int .u64 (d3:Int))):=⟨_,rfl⟩
 have aO:Holds w3 w.heap.size 67 #[.int .u64 (d0:Int),.int .u64 (d1:Int),.int .u64 (d2:Int),.int .u64 (d3:Int)]:=by rw [av];exact set4 ab _ _ _ _
 have aw:Below w.heap.size w w3:=by rw [av];exact below4 a9 (Nat.le_refl _) _ _ _ _
 obtain ⟨z8,aJ⟩:∃ z,z=List.replicate 8 0:=⟨_,rfl⟩
 obtain ⟨w4,ae⟩:∃ W,W=w3.alloc (.cells (nums .u32 z8) 22):=⟨_,rfl⟩
 have ao:Holds w4 w.heap.size 67 #[.int .u64 (d0:Int),.int .u64 (d1:Int),.int .u64 (d2:Int),.int .u64 (d3:Int)]:=by rw [ae];exact aO.alloc _
 have aL:Below w.heap.size w w4:=by rw [ae];exact aw.alloc aw.size _
 have aR:Own .u32 22 w4 w.heap.size (some ⟨w3.heap.size,0,none⟩) 8 []:=own_room aw.size (by rw [ae,aJ];exact Holds.fresh w3 _ _)
 have HS:RelV w (hv [d0,d1,d2,d3]) (.slice (some ⟨w3.heap.size,0,none⟩) 0 8) (.int .i64 0) w4:=⟨0,8,_,by omega,rfl,rfl,lH ⟨aR,aL⟩⟩
 have q0:w4.cell? ⟨w.heap.size,0,none⟩=some (.int .u64 (d0:Int)):=ao.cell 0
 have q1:w4.cell? ⟨w.heap.size,1,none⟩=some (.int .u64 (d1:Int)):=ao.cell 1
 have q2:w4.cell? ⟨w.heap.size,2,none⟩=some (.int .u64 (d2:Int)):=ao.cell 2
 have q3:w4.cell? ⟨w.heap.size,3,none⟩=some (.int .u64 (d3:Int)):=ao.cell 3
 have aY:w2.heap.size=w3.heap.size:=by rw [av];simp
 clear ab aO aw ao aL aR
 rw [ae] at q0 q1 q2 q3
 clear az
 go_wp2_with fail
 rw [←av]
 have az:=make_room w3
 rw [←aJ] at az
 clear aJ av z0 z1 z2 z3 o0 o1 o2 o3 aY
 go_simp
 go_wp2_with fail
 rw [←ae]
 clear ae az q0 q1 q2 q3
 go_loopw [3,11] (fun a i wr=>RelV w (hv [d0,d1,d2,d3]) a i wr) (fun _ i _=>4 - (intOf i).toNat)
 case atStart=>exact HS
 case round =>
  obtain ⟨k,c,A,hk,rfl,rfl,HH⟩:=hrel
  clear HS
  obtain ⟨V,hV⟩:∃ V,V=wr:=⟨_,rfl⟩
  subst hV
  by_cases hlt:k<4
  case pos =>
   obtain ⟨hO,ai⟩:=HH.out
   have t1:decide ((k:Int)<4)=true:=decide_eq_true (by omega)
   obtain ⟨dk,ay⟩:∃ a,a=([d0,d1,d2,d3]:List Nat).getD k 0:=⟨_,rfl⟩
   have hix:∀ w,(Instr.index 67 (.agg #[.int .u64 (d0:Int),.int .u64 (d1:Int),.int .u64 (d2:Int),.int .u64 (d3:Int)]) (.int .i64 (k:Int))).run Tryd.prog w = .ok (.int .u64 (dk:Int)) w:=by
    rw [ay]
    rcases (by omega:k=0∨k=1∨k=2∨k=3) with rfl | rfl | rfl | rfl <;> exact fun _=>by kernel_rfl
   have hdk64:dk<18446744073709551616:=by rw [ay];exact aM.out.at_ k
   have am:=hv_take [d0,d1,d2,d3] k hlt
   rw [←ay] at am
   obtain ⟨lo,aA⟩:∃ x,x=dk % 4294967296:=⟨_,rfl⟩
   obtain ⟨hi,aB⟩:∃ x,x=dk / 4294967296:=⟨_,rfl⟩
   rw [←aA,←aB] at am
   have e1:(dk:Int) % 4294967296=(lo:Int):=by rw [aA];omega
   have e3:(dk:Int) / 4294967296=(hi:Int):=by rw [aB];omega
   have hhi32:hi<4294967296:=by omega
   have e2:(hi:Int) % 4294967296=(hi:Int):=by omega
   have b5:(0:Int)≤k:=by omega
   obtain ⟨H0,aD⟩:∃ H,H=(hv [d0,d1,d2,d3]).take (2*k):=⟨_,rfl⟩
   have a8:Hid (H0.length=2*k):=lH (by rw [aD,List.length_take,hv_len];show min (2*k) 8=_;omega)
   rw [←aD] at hO am
   have aE:Hid (∀ g,blockOf A=some g→w.heap.size≤g∧g<V.heap.size):=lH (fun g e=>hO.block e)
   have HO:Hid (∀ cs,Own .u32 22 (V.alloc (.cells cs 22)) w.heap.size A c H0):=lH (fun cs=>hO.alloc (.cells cs 22))
   have aW:Hid (Holds (V.alloc (.cells #[.int .u32 (lo:Int),.int .u32 (hi:Int)] 22)) V.heap.size 22 (nums .u32 [lo,hi])):=lH (Holds.fresh V _ _)
   have aX:=lH am
   have au:=lH ai
   have hs:=ai.size
   clear hO ai HH ay aA aB am aD
   go_wp2_with (with_reducible (refine wpList_push _ rfl (.tmp 14) (.tmp 20) 24 rfl .u32 w.heap.size 22 4 Tryd.underlying24 info_u32 A (2*k) c H0 rfl a8.out (HO.out _) V.heap.size 2 2 [lo,hi] rfl rfl aW.out (by omega) (by omega) (by omega) (by simp;omega) ?hp))
   intro g' c' w5 hown1 hgr hat
   have aK:Below w.heap.size w w5:=(au.out.alloc au.out.size _).trans (grown_below9 hgr (fun g e=>(aE.out g e).1) (by simp;omega))
   rw [←aX.out] at hown1
   have HN:Hid (RelV w (hv [d0,d1,d2,d3]) (.slice (some ⟨g',0,none⟩) (2*k+2) c') (.int .i64 ((k:Int)+1)) w5):=lH ⟨k+1,c',_,by omega,by push_cast;rfl,rfl,lH ⟨hown1,aK⟩⟩
   clear hown1 hgr hat aK HO aW aX
   go_wp2_with fail
   go_roundw
   ·exact HN.out
   ·simp [intOf];omega
  case neg =>
   obtain rfl:k=4:=by omega
   have t1:decide (((4:Nat):Int)<4)=false:=by decide
   obtain ⟨hO,ai⟩:=HH.out
   rw [show (hv [d0,d1,d2,d3]).take (2*4)=hv [d0,d1,d2,d3] from List.take_of_length_le (by rw [hv_len];show 8≤_;omega)] at hO
   obtain ⟨H,hH⟩:∃ H,H=hv [d0,d1,d2,d3]:=⟨_,rfl⟩
   rw [←hH] at hO
   have aF:H.length=8:=by rw [hH,hv_len];rfl
   have aG:=lH hO.rd
   have aN:Hid (∀ g,blockOf A=some g→w.heap.size≤g):=lH (fun g e=>(hO.block e).1)
   have aT:=lH aF
   have au:=lH ai
   have ac:Hid (Dg H∧val H=mm X 1):=lH ⟨by rw [hH];exact hv_dg _ aM,by rw [hH,hv_val,←HD.out,nm_val (Nat.lt_trans (mm_lt _ _) cP_cR)]⟩
   have hc8:8≤c:=by rw [←aF];exact hO.rd.1
   have aU:RelW V H A c (.slice A (2*4) c) V:=⟨8,by omega,rfl,rfl,lH (by rw [List.take_of_length_le (by omega)])⟩
   clear hO ai HH hH aF
   go_wp2_with fail
   go_loopw [3] (fun a wr=>RelW V H A c a wr) (fun a _=>lenOf a)
   case atStart=>exact aU
   case round =>
    obtain ⟨n,hn,rfl,rfl,HV⟩:=hrel
    clear aU
    rcases n with _ | m
    ·have t2:decide ((0:Int)<((0:Nat):Int))=false:=by decide
     go_wp2_with fail
     go_ret
     exact ⟨A,c,[],rfl,⟨(fun x hx=>by cases hx),.inl rfl,HV.out.trans ac.out.2⟩,aG.out.cut 0,aN.out,au.out⟩
    ·obtain ⟨b,a6,x,hA,_,cx,Hx⟩:=aG.out.at_ (show m<H.length by rw [aT.out];omega)
     subst hA
     have t2:decide ((0:Int)<((m+1:Nat):Int))=true:=decide_eq_true (by omega)
     have m1:(0:Int)<(m:Int)+1:=by omega
     have m2:IntKind.i64.wrap (m:Int)=(m:Int):=IntWalk.i64_in _ (by omega)
     have m3:(m:Int)<(m:Int)+1:=by omega
     have m4:(0:Int)≤m:=by omega
     have m5:(m:Int)≤(c:Int):=by omega
     by_cases hx0:x=0
     ·subst hx0
      have HT:=lH (show val (H.take m)=val H by rw [←HV.out,val_take_succ,←Hx.out];omega)
      clear Hx
      go_wp2_with fail
      exact ⟨⟨m,by omega,rfl,rfl,HT⟩,Nat.lt_succ_self m⟩
     ·have t3:decide ((x:Int)=0)=false:=decide_eq_false (by omega)
      have aQ:Hid ((H.take (m+1)).length=m+1):=lH (by rw [List.length_take,aT.out,Nat.min_eq_left hn])
      have HT:Hid (nrm (H.take (m+1))):=lH (by
       refine .inr ?_
       rw [aQ.out,show m+1 - 1=m by omega,List.getD,List.getElem?_take_of_lt (Nat.lt_succ_self m)]
       exact fun h=>hx0 (Hx.out.trans h))
      clear Hx
      go_wp2_with fail
      go_ret
      exact ⟨some ⟨b,a6,none⟩,c,H.take (m+1),by rw [aQ.out];rfl,⟨ac.out.1.take _,HT,HV.out.trans ac.out.2⟩,aG.out.cut (m+1),aN,au⟩
theorem leave_any (w:World) (hm:CMet w) (X:Nat) (hX:X<cP) {x0 x1 x2 x3:Nat} (hx:nm X=[x0,x1,x2,x3]) :
  Calls Tryd.prog 77 #[.agg #[.int .u64 (x0:Int),.int .u64 (x1:Int),.int .u64 (x2:Int),.int .u64 (x3:Int)]] w (Got w (mm X 1)) :=
 (leave_new w hm X hX hx).mono fun e w' ⟨A,c,r,h1,h2,h3,_,h5⟩=>⟨A,c,r,h1,h2,h3,h5⟩
theorem inv_oneCv16 {a x y n:Nat} (hx:a*x % n=1) (hy:a*y % n=1):x % n=y % n:=by
 have h1:y*(a*x) % n=y % n:=by rw [Nat.mul_mod,hx,Nat.mul_one,Nat.mod_mod]
 have h2:x*(a*y) % n=x % n:=by rw [Nat.mul_mod,hy,Nat.mul_one,Nat.mod_mod]
 rw [←h2,←h1,Nat.mul_left_comm x a y,Nat.mul_left_comm y a x,Nat.mul_comm x y]
theorem inv_gcd {a y n:Nat} (hn:1<n) (hy:a*y % n=1):Nat.gcd n a=1:=by
 have h1:Nat.gcd n a∣a*y % n:=(Nat.dvd_mod_iff (Nat.gcd_dvd_left n a)).2 (Nat.dvd_trans (Nat.gcd_dvd_right n a) (Nat.dvd_mul_right a y))
 rw [hy] at h1
 exact Nat.dvd_one.1 h1
theorem inverseN (w:World) (hm:CMet w) (X Y:Nat) (hX:X<cP) (hY:mm X 1*Y % cP=1) {x0 x1 x2 x3 z0 z1 z2 z3:Nat} (hx:nm X=[x0,x1,x2,x3]) (hz:nm (enc Y)=[z0,z1,z2,z3]) :
  Calls Tryd.prog 76 #[.agg #[.int .u64 (x0:Int),.int .u64 (x1:Int),.int .u64 (x2:Int),.int .u64 (x3:Int)]] w fun e w'=>e = .returned (.agg #[.int .u64 (z0:Int),.int .u64 (z1:Int),.int .u64 (z2:Int),.int .u64 (z3:Int)])∧Below w.heap.size w w':=by
 obtain ⟨w1,ae⟩:∃ W,W=w.alloc (.cells #[.int .u64 (x0:Int),.int .u64 (x1:Int),.int .u64 (x2:Int),.int .u64 (x3:Int)] 67):=⟨_,rfl⟩
 have aE:w1.heap.size=w.heap.size+1:=by rw [ae];simp
 have av:Below w.heap.size w w1:=by rw [ae];exact (Below.refl _ _).alloc (Nat.le_refl _) _
 have aC:Holds w1 w.heap.size 67 #[.int .u64 (x0:Int),.int .u64 (x1:Int),.int .u64 (x2:Int),.int .u64 (x3:Int)]:=by rw [ae];exact Holds.fresh w _ _
 obtain ⟨w2,ak⟩:∃ W,W=w1.alloc (.cells #[.int .u64 0,.int .u64 0,.int .u64 0,.int .u64 0] 67):=⟨_,rfl⟩
 have ao:Below w.heap.size w w2:=by rw [ak];exact av.alloc av.size _
 have ai:Holds w2 w.heap.size 67 #[.int .u64 (x0:Int),.int .u64 (x1:Int),.int .u64 (x2:Int),.int .u64 (x3:Int)]:=by rw [ak];exact aC.alloc _
 have ax:Holds w2 (w.heap.size+1) 67 #[.int .u64 0,.int .u64 0,.int .u64 0,.int .u64 0]:=by rw [ak,←aE];exact Holds.fresh w1 _ _
 have HM:=lH (hm.under ao)
 have HL:=lH (leave_any w2 (hm.under ao) X hX hx)
 have HY:=lH hY
 have HZ:=lH hz
 have HW:=lH (ae ▸ ak:w2=(w.alloc (.cells #[.int .u64 (x0:Int),.int .u64 (x1:Int),.int .u64 (x2:Int),.int .u64 (x3:Int)] 67)).alloc (.cells #[.int .u64 0,.int .u64 0,.int .u64 0,.int .u64 0] 67))
 have HB:=lH ao
 have HR:=lH ax
 obtain ⟨c0,c1,c2,c3⟩:w2.cell? ⟨w.heap.size,0,none⟩=some (.int .u64 (x0:Int))∧w2.cell? ⟨w.heap.size,1,none⟩=some (.int .u64 (x1:Int))∧w2.cell? ⟨w.heap.size,2,none⟩=some (.int .u64 (x2:Int))∧w2.cell? ⟨w.heap.size,3,none⟩=some (.int .u64 (x3:Int)):=⟨ai.cell 0,ai.cell 1,ai.cell 2,ai.cell 3⟩
 have HC:=lH (⟨c0,c1,c2,c3⟩:_∧_∧_∧_)
 clear aE av aC ao ai ax hm hX hx hY hz ae ak c0 c1 c2 c3
 go_enter Tryd.func76,Tryd.ntmps76
 go_wp2_with fail
 rw [←HW.out]
 obtain ⟨c0,c1,c2,c3⟩:=HC.out
 go_wp2_with fail
 refine HL.out.mono ?_
 rintro e w3 ⟨A,c,r,rfl,hn,hr,ay⟩
 have HN:=lH hn
 have aD:=num_len8 hn (mm_lt _ _)
 have aJ:=lH aD
 have aH:=lH hr
 have aw:=lH ay
 clear c0 c1 c2 c3 hn hr ay aD
 go_wp2_with fail
 refine (curveP_any w3).mono ?_
 rintro e w4 ⟨g,hg,rfl,hP,am⟩
 have aA:=lH (aw.out.trans (am.mono aw.out.size))
 have HI:=lH (inv_high w4 A (some ⟨g,0,none⟩) c 8 r lP ((aH.out.under am).more am.size) (Eight.rd hP rfl) HN.out.1 lP_ok.1 (by have:=aJ.out;omega) (by decide) lP_ok.2.1 (by rw [lP_ok.2.2.1];decide +kernel))
 clear hg hP am
 go_wp2_with fail
 refine HI.out.mono ?_
 intro e w5 h
 rw [lP_ok.2.2.1,HN.out.2.2] at h
 rcases h with ⟨hg,_⟩ | ⟨_,v,hv,hvi,A2,c2,r2,rfl,hn2,hf2,hb5⟩
 ·exact absurd (inv_gcd (by decide +kernel) HY) hg
 have au:=lH (aA.out.trans (hb5.mono aA.out.size))
 have HE:Hid (nm (enc (val r2))=[z0,z1,z2,z3]):=lH (by
  rw [hn2.2.2,enc_cong (inv_oneCv16 hvi HY.out)]
  exact HZ.out)
 have aB:=lH (enterN w5 (HM.out.under au) w5.heap.size c2 A2 r2 (Nat.le_refl _) hf2.1 (num_len8 hn2 hv) hn2.1 HE)
 clear hv hvi hn2 hf2 hb5 HI
 go_wp2_with fail
 refine aB.out.mono ?_
 rintro e w6 ⟨rfl,az⟩
 have ac:=au.out.trans (az.mono au.out.size)
 have ab:=HR.out.under ac (Holds.lt HR)
 have aF:=lH ab
 have aG:=lH (HB.out.trans (ac.mono HB.out.size))
 have y0:=ab.cell 0
 have o0:=ab.open_ 0
 have y1:=ab.cell 1
 have o1:=ab.open_ 1
 have y2:=ab.cell 2
 have o2:=ab.open_ 2
 have y3:=ab.cell 3
 have o3:=ab.open_ 3
 clear az ac ab aB
 go_wp2_with fail
 exact ret_num (g:=w.heap.size+1) rfl rfl (set4 aF _ _ _ _) rfl ⟨rfl,below4 aG (by omega) _ _ _ _⟩
theorem holds_aside3 {w:World} {g k:Nat} {t:TypeId} {cs:Array Value} (h:Holds w g t cs) (hne:g≠k) (p q r:Value):Holds (((w.setCell ⟨k,0,none⟩ p).setCell ⟨k,1,none⟩ q).setCell ⟨k,2,none⟩ r) g t cs :=
 Holds.aside (Holds.aside (Holds.aside h (p:=⟨k,0,none⟩) hne p) (p:=⟨k,1,none⟩) hne q) (p:=⟨k,2,none⟩) hne r
theorem rd_aside {k:IntKind} {w:World} {B c:Nat} {A:Option Addr} {l:List Nat} (h:Rd k w B A c l) {g o:Nat} (hp:blockOf A≠some g) (v:Value):Rd k (w.setCell ⟨g,o,none⟩ v) B A c l :=
 ⟨h.1,h.2.1,fun h0=>by
  obtain ⟨b,off,hA,hb,hc⟩:=h.2.2 h0
  refine ⟨b,off,hA,hb,fun j hj=>(World.cell?_setCell_other _ _ _ _ ?_).trans (hc j hj)⟩
  intro e
  injection e with e1 _ _
  exact hp (by rw [hA,e1];rfl)⟩
theorem rd_aside3 {k:IntKind} {w:World} {c:Nat} {A:Option Addr} {l:List Nat} (h:Rd k w w.heap.size A c l) {g:Nat} (hp:blockOf A≠some g) (p q r:Value):Rd k (((w.setCell ⟨g,0,none⟩ p).setCell ⟨g,1,none⟩ q).setCell ⟨g,2,none⟩ r) (((w.setCell ⟨g,0,none⟩ p).setCell ⟨g,1,none⟩ q).setCell ⟨g,2,none⟩ r).heap.size A c l :=
 (rd_aside (rd_aside (rd_aside h hp p) hp q) hp r).more (by simp)
theorem flat_any (w:World) (hm:CMet w) (X Y Z J:Nat) (hX:X<cP) (hY:Y<cP) (hZ:Z<cP) (hJ:mm Z 1*J % cP=1) {x0 x1 x2 x3 y0 y1 y2 y3 z0 z1 z2 z3:Nat} (hx:nm X=[x0,x1,x2,x3]) (hy:nm Y=[y0,y1,y2,y3]) (hz:nm Z=[z0,z1,z2,z3]) :
  Calls Tryd.prog 41 #[.agg #[.int .u64 (x0:Int),.int .u64 (x1:Int),.int .u64 (x2:Int),.int .u64 (x3:Int),.int .u64 (y0:Int),.int .u64 (y1:Int),.int .u64 (y2:Int),.int .u64 (y3:Int),.int .u64 (z0:Int),.int .u64 (z1:Int),.int .u64 (z2:Int),.int .u64 (z3:Int)]] w fun e w'=>∃ A1 c1 r1 A2 c2 r2,e = .returned (.agg #[.slice A1 r1.length c1,.slice A2 r2.length c2,.bool false])∧NumIs r1 (mm (mm X (mm (enc J) (enc J))) 1)∧NumIs r2 (mm (mm Y (mm (mm (enc J) (enc J)) (enc J))) 1)∧Rd .u32 w' w'.heap.size A1 c1 r1∧Rd .u32 w' w'.heap.size A2 c2 r2∧Below w.heap.size w w':=by
 have bs:Z≠0:=fun h=>by rw [h] at hJ;simp [mm] at hJ
 have hE:∀ W,(Op.equalIn 10000 67 (.agg #[.int .u64 (z0:Int),.int .u64 (z1:Int),.int .u64 (z2:Int),.int .u64 (z3:Int)]) (.agg #[.int .u64 0,.int .u64 0,.int .u64 0,.int .u64 0])).run Tryd.prog W = .ok false W:=fun W=>eqN W (Nat.lt_trans hZ cP_cR) (Nat.lt_trans cP_pos cP_cR) hz (y0:=0) (y1:=0) (y2:=0) (y3:=0) (Y:=0) rfl false (by simp [bs])
 obtain ⟨i0,i1,i2,i3,hi⟩:=four (nm_len ((enc J)))
 have Hi:=lH hi
 clear hi
 obtain ⟨j0,j1,j2,j3,hj⟩:=four (nm_len ((mm (enc J) (enc J))))
 have Hj:=lH hj
 clear hj
 obtain ⟨k0,k1,k2,k3,hk⟩:=four (nm_len ((mm X (mm (enc J) (enc J)))))
 have Hk:=lH hk
 clear hk
 obtain ⟨l0,l1,l2,l3,hl⟩:=four (nm_len ((mm (mm (enc J) (enc J)) (enc J))))
 have Hl:=lH hl
 clear hl
 obtain ⟨m0,m1,m2,m3,hm⟩:=four (nm_len ((mm Y (mm (mm (enc J) (enc J)) (enc J)))))
 have Hm:=lH hm
 clear hm
 obtain ⟨w1,aJ⟩:∃ W,W=w.alloc (.cells #[.int .u64 (x0:Int),.int .u64 (x1:Int),.int .u64 (x2:Int),.int .u64 (x3:Int),.int .u64 (y0:Int),.int .u64 (y1:Int),.int .u64 (y2:Int),.int .u64 (y3:Int),.int .u64 (z0:Int),.int .u64 (z1:Int),.int .u64 (z2:Int),.int .u64 (z3:Int)] 69):=⟨_,rfl⟩
 have br:w1.heap.size=w.heap.size+1:=by rw [aJ];simp
 have a8:Below w.heap.size w w1:=by rw [aJ];exact (Below.refl _ _).alloc (Nat.le_refl _) _
 obtain ⟨w2,aG⟩:∃ W,W=w1.alloc (.cells #[.slice none 0 0,.slice none 0 0,.bool false] 26):=⟨_,rfl⟩
 have a9:Below w.heap.size w w2:=by rw [aG];exact a8.alloc a8.size _
 have bu:Holds w2 w.heap.size 69 #[.int .u64 (x0:Int),.int .u64 (x1:Int),.int .u64 (x2:Int),.int .u64 (x3:Int),.int .u64 (y0:Int),.int .u64 (y1:Int),.int .u64 (y2:Int),.int .u64 (y3:Int),.int .u64 (z0:Int),.int .u64 (z1:Int),.int .u64 (z2:Int),.int .u64 (z3:Int)]:=by rw [aG,aJ];exact (Holds.fresh w _ _).alloc _
 have bk:Holds w2 (w.heap.size+1) 26 #[.slice none 0 0,.slice none 0 0,.bool false]:=by rw [aG,←br];exact Holds.fresh w1 _ _
 have HW:=lH (aJ ▸ aG:w2=(w.alloc (.cells #[.int .u64 (x0:Int),.int .u64 (x1:Int),.int .u64 (x2:Int),.int .u64 (x3:Int),.int .u64 (y0:Int),.int .u64 (y1:Int),.int .u64 (y2:Int),.int .u64 (y3:Int),.int .u64 (z0:Int),.int .u64 (z1:Int),.int .u64 (z2:Int),.int .u64 (z3:Int)] 69)).alloc (.cells #[.slice none 0 0,.slice none 0 0,.bool false] 26))
 have HM:=lH hm
 have bK:=lH hX
 have bM:=lH hY
 have Hx:=lH hx
 have Hy:=lH hy
 have aB:=lH bu
 have bm:=lH bk
 have bx:=lH a9
 have bA:=lH (inverseN w2 (hm.under a9) Z J hZ hJ hz Hi)
 clear aJ br a8 aG a9 bu bk hm hX hY hx hy hZ hJ hz bs
 go_enter Tryd.func41,Tryd.ntmps41
 go_wp2_with fail
 rw [←HW.out]
 have k8:=aB.out.cell 8
 have k9:=aB.out.cell 9
 have a_:=aB.out.cell 10
 have a6:=aB.out.cell 11
 go_wp2_with fail
 refine bA.out.mono ?_
 rintro e w4 ⟨rfl,aW⟩
 have bD:=lH (aB.out.under aW (Holds.lt aB))
 have bn:=lH (bm.out.under aW (Holds.lt bm))
 have aM:=lH (bx.out.trans (aW.mono bx.out.size))
 clear aW k8 k9 a_ a6 bA hE
 obtain ⟨w5,ay⟩:∃ W,W=w4.alloc (.cells #[.int .u64 (i0:Int),.int .u64 (i1:Int),.int .u64 (i2:Int),.int .u64 (i3:Int)] 67):=⟨_,rfl⟩
 have aX:NumOr w5 w4.heap.size (some (enc J)):=by
  show Holds w5 _ _ (nums .u64 (nm (enc J)))
  rw [nv_of Hi.out,ay]
  exact Holds.fresh w4 _ _
 have bd:Hid (Holds w5 w.heap.size 69 #[.int .u64 (x0:Int),.int .u64 (x1:Int),.int .u64 (x2:Int),.int .u64 (x3:Int),.int .u64 (y0:Int),.int .u64 (y1:Int),.int .u64 (y2:Int),.int .u64 (y3:Int),.int .u64 (z0:Int),.int .u64 (z1:Int),.int .u64 (z2:Int),.int .u64 (z3:Int)]):=lH (by rw [ay];exact bD.out.alloc _)
 have bt:Hid (Holds w5 (w.heap.size+1) 26 #[.slice none 0 0,.slice none 0 0,.bool false]):=lH (by rw [ay];exact bn.out.alloc _)
 have az:Hid (Below w.heap.size w w5):=lH (by rw [ay];exact aM.out.alloc aM.out.size _)
 obtain ⟨g3,aO⟩:∃ g,g=w4.heap.size:=⟨_,rfl⟩
 have bE:Hid (w.heap.size+1<g3):=lH (by rw [aO];exact Holds.lt bn)
 rw [←aO] at aX
 have H3:=lH aX
 obtain ⟨q0,q1,q2,q3⟩:=aX.cells Hi.out
 have bw:=lH (mulN w5 (HM.out.under az) (enc J) (enc J) (enc_lt _) (enc_lt _) Hi Hi Hj)
 clear aX
 rw [ay,aO] at q0 q1 q2 q3
 go_wp2_with fail
 rw [←ay,←aO]
 clear ay aO q0 q1 q2 q3
 refine bw.out.mono ?_
 rintro e w6 ⟨rfl,aR⟩
 have HB6':=lH (bd.out.under aR (Holds.lt bd))
 have HR6':=lH (bt.out.under aR (Holds.lt bt))
 have bI:=lH (NumOr.under H3 aR)
 have aH:=lH (az.out.trans (aR.mono az.out.size))
 clear aR bw
 obtain ⟨w7,aw⟩:∃ W,W=w6.alloc (.cells #[.int .u64 (j0:Int),.int .u64 (j1:Int),.int .u64 (j2:Int),.int .u64 (j3:Int)] 67):=⟨_,rfl⟩
 obtain ⟨g4,aV⟩:∃ g,g=w6.heap.size:=⟨_,rfl⟩
 have bL:Hid (w.heap.size+1<g4):=lH (by rw [aV];exact Holds.lt HR6')
 have bJ:Hid (Holds w7 (w.heap.size+1) 26 #[.slice none 0 0,.slice none 0 0,.bool false]):=lH (by rw [aw];exact HR6'.out.alloc _)
 have av:Hid ((fun W=>Holds W w.heap.size 69 #[.int .u64 (x0:Int),.int .u64 (x1:Int),.int .u64 (x2:Int),.int .u64 (x3:Int),.int .u64 (y0:Int),.int .u64 (y1:Int),.int .u64 (y2:Int),.int .u64 (y3:Int),.int .u64 (z0:Int),.int .u64 (z1:Int),.int .u64 (z2:Int),.int .u64 (z3:Int)]∧NumOr W g3 (some (enc J))∧NumOr W g4 (some (mm (enc J) (enc J)))∧Below w.heap.size w W) w7):=lH ⟨by rw [aw];exact HB6'.out.alloc _,by rw [aw];exact NumOr.alloc bI _,by
  show Holds w7 g4 _ (nums .u64 (nm (mm (enc J) (enc J))))
  rw [nv_of Hj.out,aw,aV]
  exact Holds.fresh w6 _ _,by rw [aw];exact aH.out.alloc aH.out.size _⟩
 go_wp2_with fail
 rw [←aw,←aV]
 clear aw aV
 refine wp_region_noPanic ?_
 refine wp_region_held_drew (S:=fun W=>Holds W w.heap.size 69 #[.int .u64 (x0:Int),.int .u64 (x1:Int),.int .u64 (x2:Int),.int .u64 (x3:Int),.int .u64 (y0:Int),.int .u64 (y1:Int),.int .u64 (y2:Int),.int .u64 (y3:Int),.int .u64 (z0:Int),.int .u64 (z1:Int),.int .u64 (z2:Int),.int .u64 (z3:Int)]∧NumOr W g3 (some (enc J))∧NumOr W g4 (some (mm (enc J) (enc J)))∧Below w.heap.size w W) (by kernel_rfl) (⟨av.out.1,av.out.2.1,av.out.2.2.1,av.out.2.2.2.drew⟩) (fun hHeld=>?_)
 obtain ⟨V,hV⟩:∃ W,W=w7.drew:=⟨_,rfl⟩
 rw [←hV]
 have au:Hid ((fun W=>Holds W w.heap.size 69 #[.int .u64 (x0:Int),.int .u64 (x1:Int),.int .u64 (x2:Int),.int .u64 (x3:Int),.int .u64 (y0:Int),.int .u64 (y1:Int),.int .u64 (y2:Int),.int .u64 (y3:Int),.int .u64 (z0:Int),.int .u64 (z1:Int),.int .u64 (z2:Int),.int .u64 (z3:Int)]∧NumOr W g3 (some (enc J))∧NumOr W g4 (some (mm (enc J) (enc J)))∧Below w.heap.size w W) V):=lH (by rw [hV];exact ⟨av.out.1,av.out.2.1,av.out.2.2.1,av.out.2.2.2.drew⟩)
 have bc:Hid (Holds V (w.heap.size+1) 26 #[.slice none 0 0,.slice none 0 0,.bool false]):=lH (by rw [hV];exact bJ.out)
 replace hHeld:(fun W=>Holds W w.heap.size 69 #[.int .u64 (x0:Int),.int .u64 (x1:Int),.int .u64 (x2:Int),.int .u64 (x3:Int),.int .u64 (y0:Int),.int .u64 (y1:Int),.int .u64 (y2:Int),.int .u64 (y3:Int),.int .u64 (z0:Int),.int .u64 (z1:Int),.int .u64 (z2:Int),.int .u64 (z3:Int)]∧NumOr W g3 (some (enc J))∧NumOr W g4 (some (mm (enc J) (enc J)))∧Below w.heap.size w W) V:=au.out
 clear hV
 refine tz 0 ⟨some 16,.fieldAddr 69 (.tmp 1) 0,0,_,_,none⟩ rfl hHeld ?_
 try simp only [aP]
 refine tk 1 ⟨some 17,.load 67 (.tmp 16),67,_,_,none⟩ ?_ rfl ?_ hHeld ?_
 rotate_left 1
 ·(intro W hW;have k0:=hW.1.cell 0;have k1:=hW.1.cell 1;have k2:=hW.1.cell 2;have k3:=hW.1.cell 3;have k4:=hW.1.cell 4;have k5:=hW.1.cell 5;have k6:=hW.1.cell 6;have k7:=hW.1.cell 7;have k8:=hW.1.cell 8;have k9:=hW.1.cell 9;have a_:=hW.1.cell 10;have a6:=hW.1.cell 11;(try dsimp only at hW);go_simp;try with_reducible rfl)
 try simp only [aP]
 refine tk 2 ⟨some 18,.load 67 (.tmp 4),67,_,_,none⟩ ?_ rfl ?_ hHeld ?_
 rotate_left 1
 ·(intro W hW;have aK:=hW.2.2.1.cells Hj.out;obtain ⟨q0,q1,q2,q3⟩:=aK;(try dsimp only at hW);go_simp;try with_reducible rfl)
 try simp only [aP]
 refine tz 5 ⟨some 21,.fieldAddr 69 (.tmp 1) 1,0,_,_,none⟩ rfl hHeld ?_
 try simp only [aP]
 refine tk 6 ⟨some 22,.load 67 (.tmp 21),67,_,_,none⟩ ?_ rfl ?_ hHeld ?_
 rotate_left 1
 ·(intro W hW;have k0:=hW.1.cell 0;have k1:=hW.1.cell 1;have k2:=hW.1.cell 2;have k3:=hW.1.cell 3;have k4:=hW.1.cell 4;have k5:=hW.1.cell 5;have k6:=hW.1.cell 6;have k7:=hW.1.cell 7;have k8:=hW.1.cell 8;have k9:=hW.1.cell 9;have a_:=hW.1.cell 10;have a6:=hW.1.cell 11;(try dsimp only at hW);go_simp;try with_reducible rfl)
 try simp only [aP]
 refine tk 7 ⟨some 23,.load 67 (.tmp 4),67,_,_,none⟩ ?_ rfl ?_ hHeld ?_
 rotate_left 1
 ·(intro W hW;have aK:=hW.2.2.1.cells Hj.out;obtain ⟨q0,q1,q2,q3⟩:=aK;(try dsimp only at hW);go_simp;try with_reducible rfl)
 try simp only [aP]
 refine tk 8 ⟨some 24,.load 67 (.tmp 3),67,_,_,none⟩ ?_ rfl ?_ hHeld ?_
 rotate_left 1
 ·(intro W hW;have aK:=hW.2.1.cells Hi.out;obtain ⟨q0,q1,q2,q3⟩:=aK;(try dsimp only at hW);go_simp;try with_reducible rfl)
 try simp only [aP]
 refine rdy 3 ⟨some 19,.call ⟨ .value (.func 56),#[.tmp 17,.tmp 18],#[67,67]⟩,67,_,_,none⟩ rfl (fun K hK=>?_)
 go_simp
 refine (mulN V (HM.out.under au.out.2.2.2) X (mm (enc J) (enc J)) bK (mm_lt _ _) Hx Hj Hk).mono ?_
 rintro e V1 ⟨rfl,ab⟩
 have ak:Hid ((fun W=>Holds W w.heap.size 69 #[.int .u64 (x0:Int),.int .u64 (x1:Int),.int .u64 (x2:Int),.int .u64 (x3:Int),.int .u64 (y0:Int),.int .u64 (y1:Int),.int .u64 (y2:Int),.int .u64 (y3:Int),.int .u64 (z0:Int),.int .u64 (z1:Int),.int .u64 (z2:Int),.int .u64 (z3:Int)]∧NumOr W g3 (some (enc J))∧NumOr W g4 (some (mm (enc J) (enc J)))∧Below w.heap.size w W) V1):=lH ⟨au.out.1.under ab (Holds.lt au.out.1),NumOr.under au.out.2.1 ab,NumOr.under au.out.2.2.1 ab,au.out.2.2.2.trans (ab.mono au.out.2.2.2.size)⟩
 have aA:=lH (bc.out.under ab (Holds.lt bc))
 clear ab
 go_simp
 refine hK.out _ _ (ak.out) (fun hHeld=>?_)
 clear hK K
 try simp only [aP]
 refine rdy 4 ⟨some 20,.call ⟨ .value (.func 77),#[.tmp 19],#[67]⟩,24,_,_,none⟩ rfl (fun K hK=>?_)
 go_simp
 refine (leave_new V1 (HM.out.under ak.out.2.2.2) (mm X (mm (enc J) (enc J))) (mm_lt _ _) Hk).mono ?_
 rintro e V2 ⟨Aa,ca,ra,rfl,bv,bz,aE,ab⟩
 have bO:=lH bv
 have aL:=lH bz
 have bG:Hid (blockOf Aa≠some (w.heap.size+1)):=lH (fun e=>by have h1:=aE _ e;have h2:=Holds.lt aA.out;omega)
 have ac:Hid ((fun W=>Holds W w.heap.size 69 #[.int .u64 (x0:Int),.int .u64 (x1:Int),.int .u64 (x2:Int),.int .u64 (x3:Int),.int .u64 (y0:Int),.int .u64 (y1:Int),.int .u64 (y2:Int),.int .u64 (y3:Int),.int .u64 (z0:Int),.int .u64 (z1:Int),.int .u64 (z2:Int),.int .u64 (z3:Int)]∧NumOr W g3 (some (enc J))∧NumOr W g4 (some (mm (enc J) (enc J)))∧Below w.heap.size w W) V2):=lH ⟨ak.out.1.under ab (Holds.lt ak.out.1),NumOr.under ak.out.2.1 ab,NumOr.under ak.out.2.2.1 ab,ak.out.2.2.2.trans (ab.mono ak.out.2.2.2.size)⟩
 have aQ:=lH (aA.out.under ab (Holds.lt aA))
 clear ab bv bz aE
 go_simp
 refine hK.out _ _ (ac.out) (fun hHeld=>?_)
 clear hK K
 try simp only [aP]
 refine rdy 9 ⟨some 25,.call ⟨ .value (.func 56),#[.tmp 23,.tmp 24],#[67,67]⟩,67,_,_,none⟩ rfl (fun K hK=>?_)
 go_simp
 refine (mulN V2 (HM.out.under ac.out.2.2.2) (mm (enc J) (enc J)) (enc J) (mm_lt _ _) (enc_lt _) Hj Hi Hl).mono ?_
 rintro e V3 ⟨rfl,ab⟩
 have ae:Hid ((fun W=>Holds W w.heap.size 69 #[.int .u64 (x0:Int),.int .u64 (x1:Int),.int .u64 (x2:Int),.int .u64 (x3:Int),.int .u64 (y0:Int),.int .u64 (y1:Int),.int .u64 (y2:Int),.int .u64 (y3:Int),.int .u64 (z0:Int),.int .u64 (z1:Int),.int .u64 (z2:Int),.int .u64 (z3:Int)]∧NumOr W g3 (some (enc J))∧NumOr W g4 (some (mm (enc J) (enc J)))∧Below w.heap.size w W) V3):=lH ⟨ac.out.1.under ab (Holds.lt ac.out.1),NumOr.under ac.out.2.1 ab,NumOr.under ac.out.2.2.1 ab,ac.out.2.2.2.trans (ab.mono ac.out.2.2.2.size)⟩
 have aD:=lH (aQ.out.under ab (Holds.lt aQ))
 have aT:=lH ((aL.out.under ab).more ab.size)
 clear ab
 go_simp
 refine hK.out _ _ (ae.out) (fun hHeld=>?_)
 clear hK K
 try simp only [aP]
 refine rdy 10 ⟨some 26,.call ⟨ .value (.func 56),#[.tmp 22,.tmp 25],#[67,67]⟩,67,_,_,none⟩ rfl (fun K hK=>?_)
 go_simp
 refine (mulN V3 (HM.out.under ae.out.2.2.2) Y (mm (mm (enc J) (enc J)) (enc J)) bM (mm_lt _ _) Hy Hl Hm).mono ?_
 rintro e V4 ⟨rfl,ab⟩
 have ai:Hid ((fun W=>Holds W w.heap.size 69 #[.int .u64 (x0:Int),.int .u64 (x1:Int),.int .u64 (x2:Int),.int .u64 (x3:Int),.int .u64 (y0:Int),.int .u64 (y1:Int),.int .u64 (y2:Int),.int .u64 (y3:Int),.int .u64 (z0:Int),.int .u64 (z1:Int),.int .u64 (z2:Int),.int .u64 (z3:Int)]∧NumOr W g3 (some (enc J))∧NumOr W g4 (some (mm (enc J) (enc J)))∧Below w.heap.size w W) V4):=lH ⟨ae.out.1.under ab (Holds.lt ae.out.1),NumOr.under ae.out.2.1 ab,NumOr.under ae.out.2.2.1 ab,ae.out.2.2.2.trans (ab.mono ae.out.2.2.2.size)⟩
 have ax:=lH (aD.out.under ab (Holds.lt aD))
 have aU:=lH ((aT.out.under ab).more ab.size)
 clear ab
 go_simp
 refine hK.out _ _ (ai.out) (fun hHeld=>?_)
 clear hK K
 try simp only [aP]
 refine rdy 11 ⟨some 27,.call ⟨ .value (.func 77),#[.tmp 26],#[67]⟩,24,_,_,none⟩ rfl (fun K hK=>?_)
 go_simp
 refine (leave_new V4 (HM.out.under ai.out.2.2.2) (mm Y (mm (mm (enc J) (enc J)) (enc J))) (mm_lt _ _) Hm).mono ?_
 rintro e V5 ⟨Ab,cb,rb,rfl,bf,bB,aN,ab⟩
 have bN:=lH bf
 have aF:=lH bB
 have bF:Hid (blockOf Ab≠some (w.heap.size+1)):=lH (fun e=>by have h1:=aN _ e;have h2:=Holds.lt ax.out;omega)
 have ao:Hid ((fun W=>Holds W w.heap.size 69 #[.int .u64 (x0:Int),.int .u64 (x1:Int),.int .u64 (x2:Int),.int .u64 (x3:Int),.int .u64 (y0:Int),.int .u64 (y1:Int),.int .u64 (y2:Int),.int .u64 (y3:Int),.int .u64 (z0:Int),.int .u64 (z1:Int),.int .u64 (z2:Int),.int .u64 (z3:Int)]∧NumOr W g3 (some (enc J))∧NumOr W g4 (some (mm (enc J) (enc J)))∧Below w.heap.size w W) V5):=lH ⟨ai.out.1.under ab (Holds.lt ai.out.1),NumOr.under ai.out.2.1 ab,NumOr.under ai.out.2.2.1 ab,ai.out.2.2.2.trans (ab.mono ai.out.2.2.2.size)⟩
 have am:=lH (ax.out.under ab (Holds.lt ax))
 have aC:=lH ((aU.out.under ab).more ab.size)
 clear ab bf bB aN
 go_simp
 refine hK.out _ _ (ao.out) (fun hHeld=>?_)
 clear hK K
 try simp only [aP]
 refine tz 12 ⟨some 28,.build 26 #[(0,.tmp 20),(1,.tmp 27)],26,_,_,none⟩ rfl hHeld ?_
 try simp only [aP]
 refine rdy 13 ⟨none,.store 26 (.tmp 2) (.tmp 28),0,_,_,none⟩ rfl (fun K hK=>?_)
 have s0:=am.out.cell 0
 have o0:=am.out.open_ 0
 have s1:=am.out.cell 1
 have o1:=am.out.open_ 1
 have s2:=am.out.cell 2
 have o2:=am.out.open_ 2
 obtain ⟨V6,hN⟩:∃ W,W=(((V5.setCell ⟨w.heap.size+1,0,none⟩ (.slice Aa ra.length ca)).setCell ⟨w.heap.size+1,1,none⟩ (.slice Ab rb.length cb)).setCell ⟨w.heap.size+1,2,none⟩ (.bool false)):=⟨_,rfl⟩
 go_simp
 rw [←hN]
 have bC:Hid (Holds V6 (w.heap.size+1) 26 #[.slice Aa ra.length ca,.slice Ab rb.length cb,.bool false]):=lH (by rw [hN];exact set3 am _ _ _)
 have bl:Hid (Below w.heap.size w V6):=lH (by rw [hN];exact below3 ao.out.2.2.2 (by omega) _ _ _)
 have ba:Hid (Rd .u32 V6 V6.heap.size Aa ca ra):=lH (by rw [hN];exact rd_aside3 aC bG _ _ _)
 have aY:Hid (Rd .u32 V6 V6.heap.size Ab cb rb):=lH (by rw [hN];exact rd_aside3 aF bF _ _ _)
 have bH:Hid ((fun W=>Holds W w.heap.size 69 #[.int .u64 (x0:Int),.int .u64 (x1:Int),.int .u64 (x2:Int),.int .u64 (x3:Int),.int .u64 (y0:Int),.int .u64 (y1:Int),.int .u64 (y2:Int),.int .u64 (y3:Int),.int .u64 (z0:Int),.int .u64 (z1:Int),.int .u64 (z2:Int),.int .u64 (z3:Int)]∧NumOr W g3 (some (enc J))∧NumOr W g4 (some (mm (enc J) (enc J)))∧Below w.heap.size w W) V6):=lH ⟨by rw [hN];exact holds_aside3 ao.out.1 (k:=w.heap.size+1) (by omega) _ _ _,by rw [hN];exact holds_aside3 ao.out.2.1 (k:=w.heap.size+1) (by have:=bE.out;omega) _ _ _,by rw [hN];exact holds_aside3 ao.out.2.2.1 (k:=w.heap.size+1) (by have:=bL.out;omega) _ _ _,bl⟩
 clear hN s0 o0 s1 o1 s2 o2
 refine hK.out _ _ (bH.out) (fun hHeld=>?_)
 clear hK K
 try simp only [aP]
 refine dn ?_
 go_wp2_with fail
 exact ret_pt (g:=w.heap.size+1) rfl rfl bC rfl ⟨Aa,ca,ra,Ab,cb,rb,rfl,bO,bN,ba,aY,bl⟩
def en (f:Luc.F):Nat:=enc f.val
theorem en_lt (f:Luc.F):en f<cP:=enc_lt _
theorem en_mul (f g:Luc.F):mm (en f) (en g)=en (f*g):=by
 unfold en
 rw [mm_enc]
 exact enc_cong (by rw [Fin.val_mul];exact (Nat.mod_mod _ cP).symm)
theorem en_add (f g:Luc.F):(en f+en g) % cP=en (f+g):=by
 unfold en
 rw [add_enc]
 exact enc_cong (by rw [Fin.val_add];exact (Nat.mod_mod _ cP).symm)
theorem en_sub (f g:Luc.F):(en f+(cP - en g)) % cP=en (f - g):=by
 unfold en
 rw [sub_enc]
 refine enc_cong ?_
 have hg:g.val<cP:=g.isLt
 rw [Fin.sub_def,Nat.mod_eq_of_lt hg]
 show _=((cP - g.val+f.val) % cP) % cP
 rw [Nat.mod_mod,Nat.add_comm]
theorem en_inj {f g:Luc.F}:en f=en g↔f=g:=by
 unfold en
 rw [enc_iff]
 have hf:f.val<cP:=f.isLt
 have hg:g.val<cP:=g.isLt
 rw [Nat.mod_eq_of_lt hf,Nat.mod_eq_of_lt hg]
 exact ⟨fun h=>Fin.ext h,fun h=>by rw [h]⟩
theorem en_zero:en 0=0:=by unfold en enc;rw [show ((0:Luc.F):Nat)=0 from rfl,Nat.zero_mul,Nat.zero_mod]
def fe (a:Nat) (h:a<cP):Luc.F:=⟨a,h⟩
theorem mulE (w:World) (hm:CMet w) (f g:Luc.F) {x0 x1 x2 x3 y0 y1 y2 y3 z0 z1 z2 z3:Nat} (hx:nm (en f)=[x0,x1,x2,x3]) (hy:nm (en g)=[y0,y1,y2,y3]) (hz:nm (en (f*g))=[z0,z1,z2,z3]) :
  Calls Tryd.prog 56 #[.agg #[.int .u64 (x0:Int),.int .u64 (x1:Int),.int .u64 (x2:Int),.int .u64 (x3:Int)],.agg #[.int .u64 (y0:Int),.int .u64 (y1:Int),.int .u64 (y2:Int),.int .u64 (y3:Int)]] w fun e w'=>e = .returned (.agg #[.int .u64 (z0:Int),.int .u64 (z1:Int),.int .u64 (z2:Int),.int .u64 (z3:Int)])∧Below w.heap.size w w' :=
 mulN w hm (en f) (en g) (en_lt f) (en_lt g) hx hy (by rw [en_mul];exact hz)
theorem addE (w:World) (hm:CMet w) (f g:Luc.F) {x0 x1 x2 x3 y0 y1 y2 y3 z0 z1 z2 z3:Nat} (hx:nm (en f)=[x0,x1,x2,x3]) (hy:nm (en g)=[y0,y1,y2,y3]) (hz:nm (en (f+g))=[z0,z1,z2,z3]) :
  Calls Tryd.prog 57 #[.agg #[.int .u64 (x0:Int),.int .u64 (x1:Int),.int .u64 (x2:Int),.int .u64 (x3:Int)],.agg #[.int .u64 (y0:Int),.int .u64 (y1:Int),.int .u64 (y2:Int),.int .u64 (y3:Int)]] w fun e w'=>e = .returned (.agg #[.int .u64 (z0:Int),.int .u64 (z1:Int),.int .u64 (z2:Int),.int .u64 (z3:Int)])∧Below w.heap.size w w' :=
 addN w hm (en f) (en g) (en_lt f) (en_lt g) hx hy (by rw [en_add];exact hz)
theorem subE (w:World) (hm:CMet w) (f g:Luc.F) {x0 x1 x2 x3 y0 y1 y2 y3 z0 z1 z2 z3:Nat} (hx:nm (en f)=[x0,x1,x2,x3]) (hy:nm (en g)=[y0,y1,y2,y3]) (hz:nm (en (f - g))=[z0,z1,z2,z3]) :
  Calls Tryd.prog 55 #[.agg #[.int .u64 (x0:Int),.int .u64 (x1:Int),.int .u64 (x2:Int),.int .u64 (x3:Int)],.agg #[.int .u64 (y0:Int),.int .u64 (y1:Int),.int .u64 (y2:Int),.int .u64 (y3:Int)]] w fun e w'=>e = .returned (.agg #[.int .u64 (z0:Int),.int .u64 (z1:Int),.int .u64 (z2:Int),.int .u64 (z3:Int)])∧Below w.heap.size w w' :=
 subN w hm (en f) (en g) (en_lt f) (en_lt g) hx hy (by rw [en_sub];exact hz)
theorem twiceE (w:World) (hm:CMet w) (f:Luc.F) {x0 x1 x2 x3 z0 z1 z2 z3:Nat} (hx:nm (en f)=[x0,x1,x2,x3]) (hz:nm (en (f+f))=[z0,z1,z2,z3]) :
  Calls Tryd.prog 78 #[.agg #[.int .u64 (x0:Int),.int .u64 (x1:Int),.int .u64 (x2:Int),.int .u64 (x3:Int)]] w fun e w'=>e = .returned (.agg #[.int .u64 (z0:Int),.int .u64 (z1:Int),.int .u64 (z2:Int),.int .u64 (z3:Int)])∧Below w.heap.size w w' :=
 twiceN w hm (en f) (en_lt f) hx (by rw [en_add];exact hz)
theorem eqE (W:World) (f g:Luc.F) {x0 x1 x2 x3 y0 y1 y2 y3:Nat} (hx:nm (en f)=[x0,x1,x2,x3]) (hy:nm (en g)=[y0,y1,y2,y3]) :
  (Op.equalIn 10000 67 (.agg #[.int .u64 (x0:Int),.int .u64 (x1:Int),.int .u64 (x2:Int),.int .u64 (x3:Int)]) (.agg #[.int .u64 (y0:Int),.int .u64 (y1:Int),.int .u64 (y2:Int),.int .u64 (y3:Int)])).run Tryd.prog W = .ok (decide (f=g)) W :=
 eqN W (Nat.lt_trans (en_lt f) cP_cR) (Nat.lt_trans (en_lt g) cP_cR) hx hy _ (by rw [decide_eq_decide];exact en_inj.symm)
theorem dig0:nm (en 0)=[0,0,0,0]:=by rw [en_zero];rfl
end Go.Proofs.YtflfdglpljodbaaDoor
