/-
  The program: is it a point?
-/
import Derived.Test.YtflfdglpljodbaaDoorGBoxP
import Derived.Test.YtflfdglpljodbaaDoorGCvA
import Derived.ChangeKeysEq
import Derived.Deep.RegionLaw
import Derived.Deep.RegionHeld3
import Derived.Deep.DrawnRows
set_option maxRecDepth 100000
set_option maxHeartbeats 40000000
namespace Go.Proofs.YtflfdglpljodbaaDoor
open Go.RowKit
set_option linter.unusedVariables false
set_option linter.unusedSimpArgs false
theorem uL_enc:v64 uL=enc 1:=by rw [uL_val];unfold enc;rw [Nat.one_mul]
theorem nmD {X:Nat} {a b c d:Nat} (h:nm X=[a,b,c,d]):nv (nm X) = .agg #[.int .u64 (a:Int),.int .u64 (b:Int),.int .u64 (c:Int),.int .u64 (d:Int)]:=by unfold nv;rw [nv_of h]
theorem mulN (w:World) (hm:CMet w) (X Y:Nat) (hX:X<cP) (hY:Y<cP) {x0 x1 x2 x3 y0 y1 y2 y3 z0 z1 z2 z3:Nat} (hx:nm X=[x0,x1,x2,x3]) (hy:nm Y=[y0,y1,y2,y3]) (hz:nm (mm X Y)=[z0,z1,z2,z3]) :
  Calls Tryd.prog 56 #[.agg #[.int .u64 (x0:Int),.int .u64 (x1:Int),.int .u64 (x2:Int),.int .u64 (x3:Int)],.agg #[.int .u64 (y0:Int),.int .u64 (y1:Int),.int .u64 (y2:Int),.int .u64 (y3:Int)]] w fun e w'=>e = .returned (.agg #[.int .u64 (z0:Int),.int .u64 (z1:Int),.int .u64 (z2:Int),.int .u64 (z3:Int)])∧Below w.heap.size w w':=by
 have h:=mulF_any w hm (nm X) (nm Y) rfl rfl (nm_d X) (nm_d Y) (by rw [nm_val (Nat.lt_trans hY cP_cR)];exact hY)
 rw [nm_val (Nat.lt_trans hX cP_cR),nm_val (Nat.lt_trans hY cP_cR),nmD hx,nmD hy,nmD hz] at h
 exact h
theorem addN (w:World) (hm:CMet w) (X Y:Nat) (hX:X<cP) (hY:Y<cP) {x0 x1 x2 x3 y0 y1 y2 y3 z0 z1 z2 z3:Nat} (hx:nm X=[x0,x1,x2,x3]) (hy:nm Y=[y0,y1,y2,y3]) (hz:nm ((X+Y) % cP)=[z0,z1,z2,z3]) :
  Calls Tryd.prog 57 #[.agg #[.int .u64 (x0:Int),.int .u64 (x1:Int),.int .u64 (x2:Int),.int .u64 (x3:Int)],.agg #[.int .u64 (y0:Int),.int .u64 (y1:Int),.int .u64 (y2:Int),.int .u64 (y3:Int)]] w fun e w'=>e = .returned (.agg #[.int .u64 (z0:Int),.int .u64 (z1:Int),.int .u64 (z2:Int),.int .u64 (z3:Int)])∧Below w.heap.size w w':=by
 have h:=addF_any w hm (nm X) (nm Y) rfl rfl (nm_d X) (nm_d Y) (by rw [nm_val (Nat.lt_trans hX cP_cR)];exact hX) (by rw [nm_val (Nat.lt_trans hY cP_cR)];exact hY)
 rw [nm_val (Nat.lt_trans hX cP_cR),nm_val (Nat.lt_trans hY cP_cR),nmD hx,nmD hy,nmD hz] at h
 exact h
theorem subN (w:World) (hm:CMet w) (X Y:Nat) (hX:X<cP) (hY:Y<cP) {x0 x1 x2 x3 y0 y1 y2 y3 z0 z1 z2 z3:Nat} (hx:nm X=[x0,x1,x2,x3]) (hy:nm Y=[y0,y1,y2,y3]) (hz:nm ((X+(cP - Y)) % cP)=[z0,z1,z2,z3]) :
  Calls Tryd.prog 55 #[.agg #[.int .u64 (x0:Int),.int .u64 (x1:Int),.int .u64 (x2:Int),.int .u64 (x3:Int)],.agg #[.int .u64 (y0:Int),.int .u64 (y1:Int),.int .u64 (y2:Int),.int .u64 (y3:Int)]] w fun e w'=>e = .returned (.agg #[.int .u64 (z0:Int),.int .u64 (z1:Int),.int .u64 (z2:Int),.int .u64 (z3:Int)])∧Below w.heap.size w w':=by
 have h:=subF_any w hm (nm X) (nm Y) rfl rfl (nm_d X) (nm_d Y) (by rw [nm_val (Nat.lt_trans hX cP_cR)];exact hX) (by rw [nm_val (Nat.lt_trans hY cP_cR)];exact hY)
 rw [nm_val (Nat.lt_trans hX cP_cR),nm_val (Nat.lt_trans hY cP_cR),nmD hx,nmD hy,nmD hz] at h
 exact h
theorem enterN (w:World) (hm:CMet w) (B c:Nat) (A:Option Addr) (l:List Nat) (hB:B≤w.heap.size) (hrd:Rd .u32 w B A c l) (hl:l.length≤8) (hd:Dg l) {z0 z1 z2 z3:Nat} (hz:nm (enc (val l))=[z0,z1,z2,z3]) :
  Calls Tryd.prog 54 #[.slice A l.length c] w fun e w'=>e = .returned (.agg #[.int .u64 (z0:Int),.int .u64 (z1:Int),.int .u64 (z2:Int),.int .u64 (z3:Int)])∧Below w.heap.size w w':=by
 have h:=enter_any w hm B c A l hB hrd hl hd
 rw [enter_enc,nmD hz] at h
 exact h
def NumOr (w:World) (g:Nat) (o:Option Nat):Prop:=Holds w g 67 (match o with | some X=>nums .u64 (nm X) | none=>#[.int .u64 0,.int .u64 0,.int .u64 0,.int .u64 0])
theorem NumOr.lt {w:World} {g:Nat} {o:Option Nat} (h:NumOr w g o):g<w.heap.size:=Holds.lt h
theorem NumOr.under {w w':World} {g:Nat} {o:Option Nat} (h:NumOr w g o) (hb:Below w.heap.size w w'):NumOr w' g o:=Holds.under h hb (Holds.lt h)
theorem NumOr.drew {w:World} {g:Nat} {o:Option Nat} (h:NumOr w g o):NumOr w.drew g o:=h
theorem NumOr.alloc {w:World} {g:Nat} {o:Option Nat} (h:NumOr w g o) (b:Obj):NumOr (w.alloc b) g o:=Holds.alloc h b
theorem NumOr.fresh (w:World):NumOr (w.alloc (.cells #[.int .u64 0,.int .u64 0,.int .u64 0,.int .u64 0] 67)) w.heap.size none:=Holds.fresh _ _ _
theorem NumOr.aside4 {w:World} {g k:Nat} {o:Option Nat} (h:NumOr w g o) (hne:g≠k) (p q r s:Value):NumOr ((((w.setCell ⟨k,0,none⟩ p).setCell ⟨k,1,none⟩ q).setCell ⟨k,2,none⟩ r).setCell ⟨k,3,none⟩ s) g o :=
 Holds.aside (Holds.aside (Holds.aside (Holds.aside h (p:=⟨k,0,none⟩) hne p) (p:=⟨k,1,none⟩) hne q) (p:=⟨k,2,none⟩) hne r) (p:=⟨k,3,none⟩) hne s
theorem NumOr.four {w:World} {g:Nat} {o:Option Nat} (h:NumOr w g o):∃ a b c d:Value,Holds w g 67 #[a,b,c,d]:=by
 cases o with
 | none=>exact ⟨_,_,_,_,h⟩
 | some X=>exact ⟨_,_,_,_,h⟩
theorem NumOr.facts {w:World} {g:Nat} {o:Option Nat} (h:NumOr w g o) :
  ∃ a b c d:Value,(w.cell? ⟨g,0,none⟩=some a∧w.frozen? ⟨g,0,none⟩=false)∧(w.cell? ⟨g,1,none⟩=some b∧w.frozen? ⟨g,1,none⟩=false)∧(w.cell? ⟨g,2,none⟩=some c∧w.frozen? ⟨g,2,none⟩=false)∧(w.cell? ⟨g,3,none⟩=some d∧w.frozen? ⟨g,3,none⟩=false):=by
 obtain ⟨a,b,c,d,hh⟩:=h.four
 exact ⟨a,b,c,d,⟨hh.cell 0,hh.open_ 0⟩,⟨hh.cell 1,hh.open_ 1⟩,⟨hh.cell 2,hh.open_ 2⟩,⟨hh.cell 3,hh.open_ 3⟩⟩
theorem NumOr.set {w:World} {g:Nat} {o:Option Nat} (h:NumOr w g o) {X x0 x1 x2 x3:Nat} (hx:nm X=[x0,x1,x2,x3]) :
  NumOr ((((w.setCell ⟨g,0,none⟩ (.int .u64 (x0:Int))).setCell ⟨g,1,none⟩ (.int .u64 (x1:Int))).setCell ⟨g,2,none⟩ (.int .u64 (x2:Int))).setCell ⟨g,3,none⟩ (.int .u64 (x3:Int))) g (some X):=by
 obtain ⟨a,b,c,d,hh⟩:=h.four
 show Holds _ g 67 (nums .u64 (nm X))
 rw [nv_of hx]
 exact set4 hh _ _ _ _
theorem NumOr.cells {w:World} {g X:Nat} (h:NumOr w g (some X)) {x0 x1 x2 x3:Nat} (hx:nm X=[x0,x1,x2,x3]) :
  w.cell? ⟨g,0,none⟩=some (.int .u64 (x0:Int))∧w.cell? ⟨g,1,none⟩=some (.int .u64 (x1:Int))∧w.cell? ⟨g,2,none⟩=some (.int .u64 (x2:Int))∧w.cell? ⟨g,3,none⟩=some (.int .u64 (x3:Int)):=by
 have h':Holds w g 67 (nums .u64 (nm X)):=h
 rw [nv_of hx] at h'
 exact ⟨h'.cell 0,h'.cell 1,h'.cell 2,h'.cell 3⟩
theorem u64_info:∃ i,Tryd.prog.info? 65 = some i:=Option.isSome_iff_exists.1 (show (Tryd.prog.info? 65).isSome=true by kernel_rfl)
theorem cells_u64:Tryd.prog.cellsOf 65 = 1:=by kernel_rfl
theorem eq_u64 (d:Nat) (W:World) (a b:Int):(Op.equalIn (d+1) 65 (.int .u64 a) (.int .u64 b)).run Tryd.prog W = .ok (a == b) W:=by
 simp [Op.equalIn,run_underlying Tryd.underlying65]
theorem plain_u64:Tryd.prog.plainKey 65 = true:=by kernel_rfl
theorem items_u64 (xs ys:Array Value) (j:Nat) (is:List Nat) (a b:Int) (r:Bool) (W:World) (hx:xs[j]?=some (.int .u64 a)) (hy:ys[j]?=some (.int .u64 b)) (h:(Op.eqItems 9999 65 1 xs ys is).run Tryd.prog W = .ok r W) :
  (Op.eqItems 9999 65 1 xs ys (j :: is)).run Tryd.prog W = .ok ((a == b) && r) W:=by
 have h1:(Go.part 65 xs (j*1)).run Tryd.prog W = .ok (.int .u64 a) W:=run_part_plain W plain_u64 (by rw [Nat.mul_one];exact hx)
 have h2:(Go.part 65 ys (j*1)).run Tryd.prog W = .ok (.int .u64 b) W:=run_part_plain W plain_u64 (by rw [Nat.mul_one];exact hy)
 have h3:=eq_u64 9998 W a b
 cases hab:(a == b)
 ·rw [hab] at h3
  simp only [Op.eqItems,Sem.run_bind,h1,h2,Result.andThen_ok,h3,Bool.not_false,if_true,Bool.false_and]
  rfl
 ·rw [hab] at h3
  simp only [Op.eqItems,Sem.run_bind,h1,h2,Result.andThen_ok,h3,Bool.not_true,Bool.false_eq_true,if_false,Bool.true_and,h]
theorem eqN (W:World) {X Y:Nat} (hX:X<cR) (hY:Y<cR) {x0 x1 x2 x3 y0 y1 y2 y3:Nat} (hx:nm X=[x0,x1,x2,x3]) (hy:nm Y=[y0,y1,y2,y3]) (v:Bool) (hv:v=decide (X=Y)) :
  (Op.equalIn 10000 67 (.agg #[.int .u64 (x0:Int),.int .u64 (x1:Int),.int .u64 (x2:Int),.int .u64 (x3:Int)]) (.agg #[.int .u64 (y0:Int),.int .u64 (y1:Int),.int .u64 (y2:Int),.int .u64 (y3:Int)])).run Tryd.prog W = .ok v W:=by
 obtain ⟨i,hi⟩:=u64_info
 refine (run_equalIn_array W 9999 _ _ Tryd.underlying67 hi).trans ?_
 rw [cells_u64]
 have h:=items_u64 #[.int .u64 (x0:Int),.int .u64 (x1:Int),.int .u64 (x2:Int),.int .u64 (x3:Int)] #[.int .u64 (y0:Int),.int .u64 (y1:Int),.int .u64 (y2:Int),.int .u64 (y3:Int)]
 have e:=h 0 [1,2,3] x0 y0 _ W rfl rfl (h 1 [2,3] x1 y1 _ W rfl rfl (h 2 [3] x2 y2 _ W rfl rfl (h 3 [] x3 y3 true W rfl rfl rfl)))
 refine (show _=_ from e).trans ?_
 congr 1
 rw [hv]
 have hXY:X=Y↔nm X=nm Y:=⟨fun h=>by rw [h],fun h=>by rw [←nm_val hX,←nm_val hY,h]⟩
 rw [Bool.eq_iff_iff,decide_eq_true_iff,hXY,hx,hy]
 simp only [Bool.and_eq_true,beq_iff_eq,Int.natCast_inj,List.cons.injEq,and_true]
theorem unit_cells {w:World} (h:CMet w) {x0 x1 x2 x3:Nat} (hx:nm (enc 1)=[x0,x1,x2,x3]) :
  w.cell? ⟨0,0,none⟩=some (.int .u64 (x0:Int))∧w.cell? ⟨0,1,none⟩=some (.int .u64 (x1:Int))∧w.cell? ⟨0,2,none⟩=some (.int .u64 (x2:Int))∧w.cell? ⟨0,3,none⟩=some (.int .u64 (x3:Int)):=by
 have e:uL=nm (enc 1):=nm_of (by unfold D64 uL;decide) rfl uL_enc
 have h':=h.2.2.2
 rw [e,hx] at h'
 exact ⟨h' 0 (by omega),h' 1 (by omega),h' 2 (by omega),h' 3 (by omega)⟩
theorem curveIs_any (w:World) (hm:CMet w) (Ax Ay:Option Addr) (cx cy:Nat) (lx ly:List Nat) (inf:Bool) (hx:Rd .u32 w w.heap.size Ax cx lx) (hy:Rd .u32 w w.heap.size Ay cy ly) (hdx:Dg lx) (hdy:Dg ly) :
  Calls Tryd.prog 19 #[.agg #[.slice Ax lx.length cx,.slice Ay ly.length cy,.bool inf]] w fun e w'=>e = .returned (.bool (ptOk lx ly inf))∧Below w.heap.size w w':=by
 obtain ⟨w1,jX⟩:∃ W,W=w.alloc (.cells #[.slice Ax lx.length cx,.slice Ay ly.length cy,.bool inf] 26):=⟨_,rfl⟩
 have kE:BoxAt w1 w.heap.size Ax lx.length cx Ay ly.length cy inf:=by rw [jX];exact ⟨Holds.fresh w _ _⟩
 have hb:Below w.heap.size w w1:=by rw [jX];exact (Below.refl _ _).alloc (Nat.le_refl _) _
 have kr:w.heap.size<w1.heap.size:=by rw [jX];simp
 have kA:=lH kE
 have HB:=lH hb
 have HW:=lH jX
 have HX:=lH ((hx.under hb).more hb.size)
 have HY:=lH ((hy.under hb).more hb.size)
 have jr:=lH hdx
 have iE:=lH hdy
 have HM:=lH (hm.under hb)
 obtain ⟨b0,b1,b2⟩:=kE.cells
 clear kE hb jX hx hy hdx hdy hm
 cases inf
 case true =>
  have hXc:lx.length≤cx:=HX.out.1
  have hYc:ly.length≤cy:=HY.out.1
  by_cases e1:lx.length=0
  case neg =>
   have t1:decide ((lx.length:Int)=0)=false:=decide_eq_false (by omega)
   have HF:Hid (ptOk lx ly true=false):=lH (by unfold ptOk;simp [e1])
   go_enter Tryd.func19,Tryd.ntmps19
   go_wp2_with fail
   rw [←HW.out]
   go_wp2_with fail
   go_ret
   exact ⟨by rw [HF.out];rfl,HB⟩
  case pos =>
   have HF:Hid (ptOk lx ly true=((ly.length:Int) == 0)):=lH (by unfold ptOk;rw [if_pos rfl,decide_eq_true e1,Bool.true_and,Bool.eq_iff_iff,decide_eq_true_iff,beq_iff_eq];omega)
   go_enter Tryd.func19,Tryd.ntmps19
   go_wp2_with fail
   go_ret
   exact ⟨by rw [HF.out];rfl,(Below.refl _ _).alloc (Nat.le_refl _) _⟩
 case false =>
  cases hbx:blw lx
  case false =>
   have iC:=lH hbx
   have HF:Hid (ptOk lx ly false=false):=lH (by unfold ptOk;rw [hbx];simp)
   clear hbx
   go_enter Tryd.func19,Tryd.ntmps19
   go_wp2_with fail
   rw [←HW.out]
   go_wp2_with fail
   refine (below_any w1 Ax cx lx HX jr).mono ?_
   rintro e w2 ⟨rfl,iB⟩
   rw [iC.out]
   have jv:=lH (HB.out.trans (iB.mono HB.out.size))
   clear iB b0 b1 b2
   go_wp2_with fail
   go_ret
   exact ⟨by rw [HF.out];rfl,jv⟩
  case true =>
   cases hby:blw ly
   case false =>
    have iC:=lH hbx
    have jd:=lH hby
    have HF:Hid (ptOk lx ly false=false):=lH (by unfold ptOk;rw [hbx,hby];simp)
    clear hbx hby
    go_enter Tryd.func19,Tryd.ntmps19
    go_wp2_with fail
    rw [←HW.out]
    go_wp2_with fail
    refine (below_any w1 Ax cx lx HX jr).mono ?_
    rintro e w2 ⟨rfl,iB⟩
    rw [iC.out]
    obtain ⟨b0',b1',b2'⟩:=(kA.out.under iB kr).cells
    have kX:=lH ((HY.out.under iB).more iB.size)
    have jv:=lH (HB.out.trans (iB.mono HB.out.size))
    clear b0 b1 b2 iB
    go_wp2_with fail
    refine (below_any w2 Ay cy ly kX iE).mono ?_
    rintro e w3 ⟨rfl,kb⟩
    rw [jd.out]
    have i_:=lH (jv.out.trans (kb.mono jv.out.size))
    clear kb b0' b1' b2'
    go_wp2_with fail
    go_ret
    exact ⟨by rw [HF.out];rfl,i_⟩
   case true =>
    have iC:=lH hbx
    have jd:=lH hby
    clear hbx hby
    go_enter Tryd.func19,Tryd.ntmps19
    go_wp2_with fail
    rw [←HW.out]
    go_wp2_with fail
    refine (below_any w1 Ax cx lx HX jr).mono ?_
    rintro e w2 ⟨rfl,iB⟩
    rw [iC.out]
    have jv:=lH iB
    obtain ⟨b0',b1',b2'⟩:=(kA.out.under iB kr).cells
    clear b0 b1 b2
    go_wp2_with fail
    refine (below_any w2 Ay cy ly ((HY.out.under iB).more iB.size) iE).mono ?_
    rintro e w3 ⟨rfl,kb⟩
    rw [jd.out]
    have i_:=lH (iB.trans (kb.mono iB.size))
    clear iB kb b0' b1' b2' jv
    obtain ⟨b0,b1,b2⟩:=(kA.out.under i_ kr).cells
    go_wp2_with fail
    have j5:=lH (kA.out.under i_ kr)
    have kd:Hid (w.heap.size<w3.heap.size):=lH (Nat.lt_of_lt_of_le kr i_.out.size)
    have il:=lH (HM.out.under i_)
    have jR:=lH ((HX.out.under i_).more i_.out.size)
    have je:=lH ((HY.out.under i_).more i_.out.size)
    have kp:=lH (blw_nrm jr iC).2.2
    have jc:=lH (blw_nrm iE jd).2.2
    clear b0 b1 b2
    obtain ⟨x0,x1,x2,x3,hx⟩:=four (nm_len (enc (val lx)))
    have Hx:=lH hx
    clear hx
    obtain ⟨y0,y1,y2,y3,hy⟩:=four (nm_len (enc (val ly)))
    have Hy:=lH hy
    clear hy
    obtain ⟨lc,iD⟩:∃ Q:Exit→Act→World→Prop,Hid (Q=fun e a W=>e = .normal∧∃ (g3 g4:Nat) (u0 u5 u6 u7 u8 u9 jJ jY jG jH kq j6 kk ks j_ jw j4 jy jF jN jE ku j8 ka kc kh kg jT u32 jx ke jD jU jQ jz kv kn jC jL j7 jV kt jM jO ki jK jI kj ko kf:Value),a={ tmps:=#[u0,.pointer (some ⟨w.heap.size,0,none⟩),.bool false,.pointer (some ⟨g3,0,none⟩),.pointer (some ⟨g4,0,none⟩),u5,u6,u7,u8,u9,jJ,jY,jG,jH,kq,j6,kk,ks,j_,jw,j4,jy,jF,jN,jE,ku,j8,ka,kc,kh,kg,jT,u32,jx,ke,jD,jU,jQ,jz,kv,kn,jC,jL,j7,jV,kt,jM,jO,ki,jK,jI,kj,ko,kf],defers:=[] }∧NumOr W g3 (some (enc (val lx)))∧NumOr W g4 (some (enc (val ly)))∧Below w3.heap.size w3 W):=⟨_,lH rfl⟩
    refine Code.wp_mono (Q:=lc) ?_ ?_
    focus
     rintro e a W4 hq
     rw [iD.out] at hq
     obtain ⟨rfl,g3,g4,u0,u5,u6,u7,u8,u9,jJ,jY,jG,jH,kq,j6,kk,ks,j_,jw,j4,jy,jF,jN,jE,ku,j8,ka,kc,kh,kg,jT,u32,jx,ke,jD,jU,jQ,jz,kv,kn,jC,jL,j7,jV,kt,jM,jO,ki,jK,jI,kj,ko,kf,rfl,h3,h4,kC⟩:=hq
     clear iD
     have H3:=lH h3
     have H4:=lH h4
     have kH:=lH (i_.out.trans (kC.mono i_.out.size))
     have gN:=lH (il.out.under kC)
     clear h3 h4 kC
     go_wp2_with fail
     obtain ⟨a0,a1,a2,a3,ha⟩:=four (nm_len (mm (enc (val lx)) (enc (val lx))))
     have Ha:=lH ha
     clear ha
     obtain ⟨b0,b1,b2,b3,hb⟩:=four (nm_len ((enc 1+enc 1) % cP))
     have Hb:=lH hb
     clear hb
     obtain ⟨c0,c1,c2,c3,hc⟩:=four (nm_len ((enc 1+(enc 1+enc 1) % cP) % cP))
     have Hc:=lH hc
     clear hc
     obtain ⟨d0,d1,d2,d3,hd⟩:=four (nm_len ((mm (enc (val lx)) (enc (val lx))+(cP - (enc 1+(enc 1+enc 1) % cP) % cP)) % cP))
     have Hd:=lH hd
     clear hd
     obtain ⟨e0,e1,e2,e3,he⟩:=four (nm_len (mm ((mm (enc (val lx)) (enc (val lx))+(cP - (enc 1+(enc 1+enc 1) % cP) % cP)) % cP) (enc (val lx))))
     have He:=lH he
     clear he
     obtain ⟨f0,f1,f2,f3,hf⟩:=four (nm_len (enc (val lB)))
     have Hf:=lH hf
     clear hf
     obtain ⟨r0,r1,r2,r3,hr⟩:=four (nm_len (rhsF (val lx)))
     have Hr:=lH hr
     clear hr
     obtain ⟨s0,s1,s2,s3,hs⟩:=four (nm_len (mm (enc (val ly)) (enc (val ly))))
     have Hs:=lH hs
     clear hs
     obtain ⟨u0,u1,u2,u3,hu⟩:=four (nm_len (enc 1))
     have Hu:=lH hu
     clear hu
     obtain ⟨v,hv⟩:∃ v,v=decide (mm (enc (val ly)) (enc (val ly))=rhsF (val lx)):=⟨_,rfl⟩
     have Hv:=lH hv
     clear hv
     obtain ⟨kU,ju⟩:∃ Q:Exit→Act→World→Prop,Hid (Q=fun e a W=>e = .normal∧∃ (g5:Nat) (u0 u6 u7 u8 u9 jJ jY jG jH kq j6 kk ks j_ jw j4 jy jF jN jE ku j8 ka kc kh kg jT u32 jx ke jD jU jQ jz kv kn jC jL j7 jV kt jM jO ki jK jI kj ko kf:Value),a={ tmps:=#[u0,.pointer (some ⟨w.heap.size,0,none⟩),.bool false,.pointer (some ⟨g3,0,none⟩),.pointer (some ⟨g4,0,none⟩),.pointer (some ⟨g5,0,none⟩),u6,u7,u8,u9,jJ,jY,jG,jH,kq,j6,kk,ks,j_,jw,j4,jy,jF,jN,jE,ku,j8,ka,kc,kh,kg,jT,u32,jx,ke,jD,jU,jQ,jz,kv,kn,jC,jL,j7,jV,kt,jM,jO,ki,jK,jI,kj,ko,kf],defers:=[] }∧g4≠g5∧W4.heap.size≤g5∧NumOr W g3 (some (enc (val lx)))∧NumOr W g4 (some (enc (val ly)))∧NumOr W g5 (some ((mm (enc (val lx)) (enc (val lx))+(cP - (enc 1+(enc 1+enc 1) % cP) % cP)) % cP))∧Below W4.heap.size W4 W):=⟨_,lH rfl⟩
     refine Code.wp_mono (Q:=kU) ?_ ?_
     focus
      rintro e a W5 hq
      rw [ju.out] at hq
      obtain ⟨rfl,g5,u0,u6,u7,u8,u9,jJ,jY,jG,jH,kq,j6,kk,ks,j_,jw,j4,jy,jF,jN,jE,ku,j8,ka,kc,kh,kg,jT,u32,jx,ke,jD,jU,jQ,jz,kv,kn,jC,jL,j7,jV,kt,jM,jO,ki,jK,jI,kj,ko,kf,rfl,jt,jW,h3,h4,h5,kz⟩:=hq
      clear ju
      have k_:=lH jt
      have kQ:=lH jW
      clear jt jW
      have jA:=lH kz
      have kM:=lH (kH.out.trans (kz.mono kH.out.size))
      have kI:=lH (gN.out.under kz)
      have kV:=lH h4
      have kW:=lH h5
      have H35:=lH h3
      obtain ⟨p0,p1,p2,p3⟩:=h5.cells Hd.out
      obtain ⟨q0,q1,q2,q3⟩:=h3.cells Hx.out
      clear h3 h4 h5 kz H3 H4
      go_wp2_with fail
      refine (mulN W5 kI ((mm (enc (val lx)) (enc (val lx))+(cP - (enc 1+(enc 1+enc 1) % cP) % cP)) % cP) (enc (val lx)) (Nat.mod_lt _ cP_pos) (enc_lt _) Hd Hx He).mono ?_
      rintro e W6 ⟨rfl,kS⟩
      have kG:=lH kS
      clear kS p0 p1 p2 p3 q0 q1 q2 q3
      go_wp2_with fail
      refine (curveB_any W6).mono ?_
      rintro e W7 ⟨g,hg,rfl,kL,kR⟩
      have kx:=lH (kG.out.trans (kR.mono kG.out.size))
      have HE:=lH (enterN W7 (kI.out.under kx) W7.heap.size 8 (some ⟨g,0,none⟩) lB (Nat.le_refl _) (Eight.rd kL rfl) (Nat.le_refl _) lB_ok.1 Hf)
      clear kL kR hg kG
      go_wp2_with fail
      refine HE.out.mono ?_
      rintro e W8 ⟨rfl,kJ⟩
      have kw:=lH (kx.out.trans (kJ.mono kx.out.size))
      clear kJ HE kx
      go_wp2_with fail
      refine (addN W8 (kI.out.under kw) (mm ((mm (enc (val lx)) (enc (val lx))+(cP - (enc 1+(enc 1+enc 1) % cP) % cP)) % cP) (enc (val lx))) (enc (val lB)) (mm_lt _ _) (enc_lt _) He Hf Hr).mono ?_
      rintro e W9 ⟨rfl,kN⟩
      have ky:=lH (kw.out.trans (kN.mono kw.out.size))
      have kB:Hid (w.heap.size≤g5):=lH (by have h1:=kQ.out;have h2:=HB.out.size;have h3:=kH.out.size;omega)
      have kT:=lH (NumOr.under kV ky)
      have kK:=lH (NumOr.under kW ky)
      clear kN kw
      obtain ⟨aw,az,ay,ax,⟨z0,o0⟩,⟨z1,o1⟩,⟨z2,o2⟩,⟨z3,o3⟩⟩:=NumOr.facts kK.out
      obtain ⟨W6,hN⟩:∃ W,W=((((W9.setCell ⟨g5,0,none⟩ (.int .u64 (r0:Int))).setCell ⟨g5,1,none⟩ (.int .u64 (r1:Int))).setCell ⟨g5,2,none⟩ (.int .u64 (r2:Int))).setCell ⟨g5,3,none⟩ (.int .u64 (r3:Int))):=⟨_,rfl⟩
      have kY:Hid (NumOr W6 g5 (some (rhsF (val lx)))):=lH (by rw [hN];exact NumOr.set kK Hr)
      have kO:Hid (NumOr W6 g4 (some (enc (val ly)))):=lH (by rw [hN];exact NumOr.aside4 kT k_ _ _ _ _)
      have kP:Hid (Below w.heap.size w W6):=lH (by rw [hN];exact below4 (HB.out.trans ((kM.out.trans (ky.out.mono kM.out.size)).mono HB.out.size)) kB _ _ _ _)
      have kZ:Hid (CMet W6):=lH (by rw [hN];exact gN.out.under (below4 (jA.out.trans (ky.out.mono jA.out.size)) kQ _ _ _ _))
      go_wp2_with fail
      rw [←hN]
      clear hN z0 z1 z2 z3 o0 o1 o2 o3
      refine wp_region_noPanic ?_
      refine wp_region_held_drew (S:=fun W=>Below W6.heap.size W6 W) (by kernel_rfl) ((Below.refl _ W6).drew) (fun hHeld=>?_)
      obtain ⟨V,hV⟩:∃ W,W=W6.drew:=⟨_,rfl⟩
      rw [←hV]
      have fb:Hid (Below W6.heap.size W6 V):=lH (by rw [hV];exact (Below.refl _ W6).drew)
      replace hHeld:(fun W=>Below W6.heap.size W6 W) V:=fb.out
      clear hV
      refine tk 0 ⟨some 49,.load 67 (.tmp 4),67,_,_,none⟩ ?_ rfl ?_ hHeld ?_
      rotate_left 1
      ·(intro W hW;have gG:=(NumOr.under kO.out hW).cells Hy.out;obtain ⟨b0,b1,b2,b3⟩:=gG;(try dsimp only at hW);go_simp;try with_reducible rfl)
      try simp only [aP]
      refine tk 1 ⟨some 50,.load 67 (.tmp 4),67,_,_,none⟩ ?_ rfl ?_ hHeld ?_
      rotate_left 1
      ·(intro W hW;have gG:=(NumOr.under kO.out hW).cells Hy.out;obtain ⟨b0,b1,b2,b3⟩:=gG;(try dsimp only at hW);go_simp;try with_reducible rfl)
      try simp only [aP]
      refine tk 3 ⟨some 52,.load 67 (.tmp 5),67,_,_,none⟩ ?_ rfl ?_ hHeld ?_
      rotate_left 1
      ·(intro W hW;have gG:=(NumOr.under kY.out hW).cells Hr.out;obtain ⟨b0,b1,b2,b3⟩:=gG;(try dsimp only at hW);go_simp;try with_reducible rfl)
      try simp only [aP]
      refine rdy 2 ⟨some 51,.call ⟨ .value (.func 56),#[.tmp 49,.tmp 50],#[67,67]⟩,67,_,_,none⟩ rfl (fun K hK=>?_)
      go_simp
      refine (mulN V (kZ.out.under fb) (enc (val ly)) (enc (val ly)) (enc_lt _) (enc_lt _) Hy Hy Hs).mono ?_
      rintro e ja ⟨rfl,ab⟩
      have ai:=lH (fb.out.trans (ab.mono fb.out.size))
      clear ab
      go_simp
      refine hK.out _ _ (ai.out) (fun hHeld=>?_)
      clear hK K
      try simp only [aP]
      refine tk 4 ⟨some 53,.binOp .eql 67 (.tmp 51) (.tmp 52) 67,4,_,_,none⟩ ?_ rfl ?_ hHeld ?_
      rotate_left 1
      ·(intro W hW;have hEQ:=eqN W (Nat.lt_trans (mm_lt _ _) cP_cR) (Nat.lt_trans (Nat.mod_lt _ cP_pos) cP_cR) Hs.out Hr.out v Hv.out;(try dsimp only at hW);go_simp;try with_reducible rfl)
      try simp only [aP]
      refine tz 5 ⟨some 2,.assign (.tmp 53),4,_,_,none⟩ rfl hHeld ?_
      try simp only [aP]
      refine dn ?_
      go_wp2_with fail
      go_ret
      refine ⟨?_,kP.out.trans (ai.out.mono kP.out.size)⟩
      have hv:=Hv.out
      unfold ptOk
      rw [iC.out,jd.out,hv]
      simp only [Bool.false_eq_true,if_false,Bool.true_and,on_iff]
      rfl
     refine wp_region_noPanic ?_
     refine wp_region_held_drew (S:=fun W=>Below W4.heap.size W4 W) (by kernel_rfl) ((Below.refl _ W4).drew) (fun hHeld=>?_)
     obtain ⟨V,hV⟩:∃ W,W=W4.drew:=⟨_,rfl⟩
     rw [←hV]
     have fb:Hid (Below W4.heap.size W4 V):=lH (by rw [hV];exact (Below.refl _ W4).drew)
     have kF:Hid (NumOr V g3 (some (enc (val lx)))):=lH (by rw [hV];exact NumOr.drew H3)
     have kD:Hid (NumOr V g4 (some (enc (val ly)))):=lH (by rw [hV];exact NumOr.drew H4)
     replace hHeld:(fun W=>Below W4.heap.size W4 W) V:=fb.out
     clear hV
     refine tk 0 ⟨some 34,.load 67 (.tmp 3),67,_,_,none⟩ ?_ rfl ?_ hHeld ?_
     rotate_left 1
     ·(intro W hW;have gG:=(NumOr.under H3.out hW).cells Hx.out;obtain ⟨b0,b1,b2,b3⟩:=gG;(try dsimp only at hW);go_simp;try with_reducible rfl)
     try simp only [aP]
     refine tk 1 ⟨some 35,.load 67 (.tmp 3),67,_,_,none⟩ ?_ rfl ?_ hHeld ?_
     rotate_left 1
     ·(intro W hW;have gG:=(NumOr.under H3.out hW).cells Hx.out;obtain ⟨b0,b1,b2,b3⟩:=gG;(try dsimp only at hW);go_simp;try with_reducible rfl)
     try simp only [aP]
     refine tk 3 ⟨some 37,.load 67 (.global 0),67,_,_,none⟩ ?_ rfl ?_ hHeld ?_
     rotate_left 1
     ·(intro W hW;have gG:=unit_cells (gN.out.under hW) Hu.out;obtain ⟨b0,b1,b2,b3⟩:=gG;(try dsimp only at hW);go_simp;try with_reducible rfl)
     try simp only [aP]
     refine tk 4 ⟨some 38,.load 67 (.global 0),67,_,_,none⟩ ?_ rfl ?_ hHeld ?_
     rotate_left 1
     ·(intro W hW;have gG:=unit_cells (gN.out.under hW) Hu.out;obtain ⟨b0,b1,b2,b3⟩:=gG;(try dsimp only at hW);go_simp;try with_reducible rfl)
     try simp only [aP]
     refine tk 5 ⟨some 39,.load 67 (.global 0),67,_,_,none⟩ ?_ rfl ?_ hHeld ?_
     rotate_left 1
     ·(intro W hW;have gG:=unit_cells (gN.out.under hW) Hu.out;obtain ⟨b0,b1,b2,b3⟩:=gG;(try dsimp only at hW);go_simp;try with_reducible rfl)
     try simp only [aP]
     refine wpAnyH_ready (rs:=[2,9]) (by kernel_rfl) (by simp) ?_
     refine AllReadyH.cons (o:=⟨some 36,.call ⟨ .value (.func 56),#[.tmp 34,.tmp 35],#[67,67]⟩,67,_,_,none⟩) rfl (fun K hK=>?_) ?_
     ·go_simp
      refine (mulN V (gN.out.under fb) (enc (val lx)) (enc (val lx)) (enc_lt _) (enc_lt _) Hx Hx Ha).mono ?_
      rintro e ja ⟨rfl,ab⟩
      have ai:=lH (fb.out.trans (ab.mono fb.out.size))
      have jb:Hid (NumOr ja g3 (some (enc (val lx)))):=lH (NumOr.under kF ab)
      have jf:Hid (NumOr ja g4 (some (enc (val ly)))):=lH (NumOr.under kD ab)
      clear ab
      go_simp
      refine hK.out _ _ (ai.out) (fun hHeld=>?_)
      clear hK K
      try simp only [aP]
      refine wpAnyH_ready (rs:=[6,9]) (by kernel_rfl) (by simp) ?_
      refine AllReadyH.cons (o:=⟨some 40,.call ⟨ .value (.func 57),#[.tmp 38,.tmp 39],#[67,67]⟩,67,_,_,none⟩) rfl (fun K hK=>?_) ?_
      ·go_simp
       refine (addN ja (gN.out.under ai) (enc 1) (enc 1) (enc_lt _) (enc_lt _) Hu Hu Hb).mono ?_
       rintro e b_ ⟨rfl,ab⟩
       have ae:=lH (ai.out.trans (ab.mono ai.out.size))
       have bM:Hid (NumOr b_ g3 (some (enc (val lx)))):=lH (NumOr.under jb ab)
       have gK:Hid (NumOr b_ g4 (some (enc (val ly)))):=lH (NumOr.under jf ab)
       clear ab
       go_simp
       refine hK.out _ _ (ae.out) (fun hHeld=>?_)
       clear hK K
       try simp only [aP]
       refine wpAnyH_ready (rs:=[7,9]) (by kernel_rfl) (by simp) ?_
       refine AllReadyH.cons (o:=⟨some 41,.call ⟨ .value (.func 57),#[.tmp 37,.tmp 40],#[67,67]⟩,67,_,_,none⟩) rfl (fun K hK=>?_) ?_
       ·go_simp
        refine (addN b_ (gN.out.under ae) (enc 1) ((enc 1+enc 1) % cP) (enc_lt _) (Nat.mod_lt _ cP_pos) Hu Hb Hc).mono ?_
        rintro e aA ⟨rfl,ab⟩
        have ac:=lH (ae.out.trans (ab.mono ae.out.size))
        have bL:Hid (NumOr aA g3 (some (enc (val lx)))):=lH (NumOr.under bM ab)
        have bI:Hid (NumOr aA g4 (some (enc (val ly)))):=lH (NumOr.under gK ab)
        clear ab
        go_simp
        refine hK.out _ _ (ac.out) (fun hHeld=>?_)
        clear hK K
        try simp only [aP]
        refine wpAnyH_ready (rs:=[8,9]) (by kernel_rfl) (by simp) ?_
        refine AllReadyH.cons (o:=⟨some 42,.call ⟨ .value (.func 55),#[.tmp 36,.tmp 41],#[67,67]⟩,67,_,_,none⟩) rfl (fun K hK=>?_) ?_
        ·go_simp
         refine (subN aA (gN.out.under ac) (mm (enc (val lx)) (enc (val lx))) ((enc 1+(enc 1+enc 1) % cP) % cP) (mm_lt _ _) (Nat.mod_lt _ cP_pos) Ha Hc Hd).mono ?_
         rintro e cl ⟨rfl,ab⟩
         have aY:=lH (ac.out.trans (ab.mono ac.out.size))
         have eN:Hid (NumOr cl g3 (some (enc (val lx)))):=lH (NumOr.under bL ab)
         have eF:Hid (NumOr cl g4 (some (enc (val ly)))):=lH (NumOr.under bI ab)
         clear ab
         go_simp
         refine hK.out _ _ (aY.out) (fun hHeld=>?_)
         clear hK K
         try simp only [aP]
         refine rdy 9 ⟨some 5,.alloc 67,0,_,_,none⟩ rfl (fun K hK=>?_)
         obtain ⟨aD,hN⟩:∃ W,W=cl.alloc (.cells #[.int .u64 0,.int .u64 0,.int .u64 0,.int .u64 0] 67):=⟨_,rfl⟩
         go_simp
         rw [←hN]
         obtain ⟨g5,hg⟩:∃ g,g=cl.heap.size:=⟨_,rfl⟩
         rw [←hg]
         have di:Hid (NumOr aD g5 none):=lH (by rw [hN,hg];exact NumOr.fresh _)
         have dF:=lH (by rw [hN];exact aY.out.alloc aY.out.size _:Below W4.heap.size W4 aD)
         have iF:Hid (W4.heap.size≤g5):=lH (by rw [hg];exact aY.out.size)
         have d6:Hid (g3≠g5):=lH (by rw [hg];exact Nat.ne_of_lt eN.out.lt)
         have aQ:Hid (g4≠g5):=lH (by rw [hg];exact Nat.ne_of_lt eF.out.lt)
         have gi:Hid (NumOr aD g3 (some (enc (val lx)))):=lH (by rw [hN];exact NumOr.alloc eN _)
         have gv:Hid (NumOr aD g4 (some (enc (val ly)))):=lH (by rw [hN];exact NumOr.alloc eF _)
         clear hN hg
         refine hK.out _ _ (dF.out) (fun hHeld=>?_)
         clear hK K
         try simp only [aP]
         refine rdy 10 ⟨none,.store 67 (.tmp 5) (.tmp 42),0,_,_,none⟩ rfl (fun K hK=>?_)
         obtain ⟨aw,az,ay,ax,⟨z0,o0⟩,⟨z1,o1⟩,⟨z2,o2⟩,⟨z3,o3⟩⟩:=NumOr.facts di.out
         obtain ⟨ao,hN⟩:∃ W,W=((((aD.setCell ⟨g5,0,none⟩ (.int .u64 (d0:Int))).setCell ⟨g5,1,none⟩ (.int .u64 (d1:Int))).setCell ⟨g5,2,none⟩ (.int .u64 (d2:Int))).setCell ⟨g5,3,none⟩ (.int .u64 (d3:Int))):=⟨_,rfl⟩
         go_simp
         rw [←hN]
         have ed:Hid (NumOr ao g5 (some ((mm (enc (val lx)) (enc (val lx))+(cP - (enc 1+(enc 1+enc 1) % cP) % cP)) % cP))):=lH (by rw [hN];exact NumOr.set di Hd)
         have bJ:=lH (by rw [hN];exact below4 dF iF _ _ _ _:Below W4.heap.size W4 ao)
         have d9:Hid (NumOr ao g3 (some (enc (val lx)))):=lH (by rw [hN];exact NumOr.aside4 gi d6 _ _ _ _)
         have eh:Hid (NumOr ao g4 (some (enc (val ly)))):=lH (by rw [hN];exact NumOr.aside4 gv aQ _ _ _ _)
         clear hN z0 o0 z1 o1 z2 o2 z3 o3 aw az ay ax
         refine hK.out _ _ (bJ.out) (fun hHeld=>?_)
         clear hK K
         try simp only [aP]
         refine dn ?_
         rw [ju.out]
         exact ⟨rfl,g5,_,_,_,_,_,_,_,_,_,_,_,_,_,_,_,_,_,_,_,_,_,_,_,_,_,_,_,_,_,_,_,_,_,_,_,_,_,_,_,_,_,_,_,_,_,_,_,_,_,rfl,aQ,iF,d9,eh,ed,bJ⟩
        refine AllReadyH.cons (o:=⟨some 5,.alloc 67,0,_,_,none⟩) rfl (fun K hK=>?_) AllReadyH.nil
        obtain ⟨bF,hN⟩:∃ W,W=aA.alloc (.cells #[.int .u64 0,.int .u64 0,.int .u64 0,.int .u64 0] 67):=⟨_,rfl⟩
        go_simp
        rw [←hN]
        obtain ⟨g5,hg⟩:∃ g,g=aA.heap.size:=⟨_,rfl⟩
        rw [←hg]
        have ix:Hid (NumOr bF g5 none):=lH (by rw [hN,hg];exact NumOr.fresh _)
        have bn:=lH (by rw [hN];exact ac.out.alloc ac.out.size _:Below W4.heap.size W4 bF)
        have iF:Hid (W4.heap.size≤g5):=lH (by rw [hg];exact ac.out.size)
        have d6:Hid (g3≠g5):=lH (by rw [hg];exact Nat.ne_of_lt bL.out.lt)
        have aQ:Hid (g4≠g5):=lH (by rw [hg];exact Nat.ne_of_lt bI.out.lt)
        have iv:Hid (NumOr bF g3 (some (enc (val lx)))):=lH (by rw [hN];exact NumOr.alloc bL _)
        have hC:Hid (NumOr bF g4 (some (enc (val ly)))):=lH (by rw [hN];exact NumOr.alloc bI _)
        clear hN hg
        refine hK.out _ _ (bn.out) (fun hHeld=>?_)
        clear hK K
        try simp only [aP]
        refine rdy 8 ⟨some 42,.call ⟨ .value (.func 55),#[.tmp 36,.tmp 41],#[67,67]⟩,67,_,_,none⟩ rfl (fun K hK=>?_)
        go_simp
        refine (subN bF (gN.out.under bn) (mm (enc (val lx)) (enc (val lx))) ((enc 1+(enc 1+enc 1) % cP) % cP) (mm_lt _ _) (Nat.mod_lt _ cP_pos) Ha Hc Hd).mono ?_
        rintro e a8 ⟨rfl,ab⟩
        have dT:=lH (bn.out.trans (ab.mono bn.out.size))
        have fT:Hid (NumOr a8 g3 (some (enc (val lx)))):=lH (NumOr.under iv ab)
        have gl:Hid (NumOr a8 g4 (some (enc (val ly)))):=lH (NumOr.under hC ab)
        have dD:Hid (NumOr a8 g5 none):=lH (NumOr.under ix ab)
        clear ab
        go_simp
        refine hK.out _ _ (dT.out) (fun hHeld=>?_)
        clear hK K
        try simp only [aP]
        refine rdy 10 ⟨none,.store 67 (.tmp 5) (.tmp 42),0,_,_,none⟩ rfl (fun K hK=>?_)
        obtain ⟨aw,az,ay,ax,⟨z0,o0⟩,⟨z1,o1⟩,⟨z2,o2⟩,⟨z3,o3⟩⟩:=NumOr.facts dD.out
        obtain ⟨au,hN⟩:∃ W,W=((((a8.setCell ⟨g5,0,none⟩ (.int .u64 (d0:Int))).setCell ⟨g5,1,none⟩ (.int .u64 (d1:Int))).setCell ⟨g5,2,none⟩ (.int .u64 (d2:Int))).setCell ⟨g5,3,none⟩ (.int .u64 (d3:Int))):=⟨_,rfl⟩
        go_simp
        rw [←hN]
        have eC:Hid (NumOr au g5 (some ((mm (enc (val lx)) (enc (val lx))+(cP - (enc 1+(enc 1+enc 1) % cP) % cP)) % cP))):=lH (by rw [hN];exact NumOr.set dD Hd)
        have bK:=lH (by rw [hN];exact below4 dT iF _ _ _ _:Below W4.heap.size W4 au)
        have eD:Hid (NumOr au g3 (some (enc (val lx)))):=lH (by rw [hN];exact NumOr.aside4 fT d6 _ _ _ _)
        have em:Hid (NumOr au g4 (some (enc (val ly)))):=lH (by rw [hN];exact NumOr.aside4 gl aQ _ _ _ _)
        clear hN z0 o0 z1 o1 z2 o2 z3 o3 aw az ay ax
        refine hK.out _ _ (bK.out) (fun hHeld=>?_)
        clear hK K
        try simp only [aP]
        refine dn ?_
        rw [ju.out]
        exact ⟨rfl,g5,_,_,_,_,_,_,_,_,_,_,_,_,_,_,_,_,_,_,_,_,_,_,_,_,_,_,_,_,_,_,_,_,_,_,_,_,_,_,_,_,_,_,_,_,_,_,_,_,_,rfl,aQ,iF,eD,em,eC,bK⟩
       refine AllReadyH.cons (o:=⟨some 5,.alloc 67,0,_,_,none⟩) rfl (fun K hK=>?_) AllReadyH.nil
       obtain ⟨dZ,hN⟩:∃ W,W=b_.alloc (.cells #[.int .u64 0,.int .u64 0,.int .u64 0,.int .u64 0] 67):=⟨_,rfl⟩
       go_simp
       rw [←hN]
       obtain ⟨g5,hg⟩:∃ g,g=b_.heap.size:=⟨_,rfl⟩
       rw [←hg]
       have iS:Hid (NumOr dZ g5 none):=lH (by rw [hN,hg];exact NumOr.fresh _)
       have cH:=lH (by rw [hN];exact ae.out.alloc ae.out.size _:Below W4.heap.size W4 dZ)
       have iF:Hid (W4.heap.size≤g5):=lH (by rw [hg];exact ae.out.size)
       have d6:Hid (g3≠g5):=lH (by rw [hg];exact Nat.ne_of_lt bM.out.lt)
       have aQ:Hid (g4≠g5):=lH (by rw [hg];exact Nat.ne_of_lt gK.out.lt)
       have iQ:Hid (NumOr dZ g3 (some (enc (val lx)))):=lH (by rw [hN];exact NumOr.alloc bM _)
       have iZ:Hid (NumOr dZ g4 (some (enc (val ly)))):=lH (by rw [hN];exact NumOr.alloc gK _)
       clear hN hg
       refine hK.out _ _ (cH.out) (fun hHeld=>?_)
       clear hK K
       try simp only [aP]
       refine rdy 7 ⟨some 41,.call ⟨ .value (.func 57),#[.tmp 37,.tmp 40],#[67,67]⟩,67,_,_,none⟩ rfl (fun K hK=>?_)
       go_simp
       refine (addN dZ (gN.out.under cH) (enc 1) ((enc 1+enc 1) % cP) (enc_lt _) (Nat.mod_lt _ cP_pos) Hu Hb Hc).mono ?_
       rintro e cM ⟨rfl,ab⟩
       have aV:=lH (cH.out.trans (ab.mono cH.out.size))
       have iy:Hid (NumOr cM g3 (some (enc (val lx)))):=lH (NumOr.under iQ ab)
       have iz:Hid (NumOr cM g4 (some (enc (val ly)))):=lH (NumOr.under iZ ab)
       have gW:Hid (NumOr cM g5 none):=lH (NumOr.under iS ab)
       clear ab
       go_simp
       refine hK.out _ _ (aV.out) (fun hHeld=>?_)
       clear hK K
       try simp only [aP]
       refine rdy 8 ⟨some 42,.call ⟨ .value (.func 55),#[.tmp 36,.tmp 41],#[67,67]⟩,67,_,_,none⟩ rfl (fun K hK=>?_)
       go_simp
       refine (subN cM (gN.out.under aV) (mm (enc (val lx)) (enc (val lx))) ((enc 1+(enc 1+enc 1) % cP) % cP) (mm_lt _ _) (Nat.mod_lt _ cP_pos) Ha Hc Hd).mono ?_
       rintro e bm ⟨rfl,ab⟩
       have dA:=lH (aV.out.trans (ab.mono aV.out.size))
       have fX:Hid (NumOr bm g3 (some (enc (val lx)))):=lH (NumOr.under iy ab)
       have gt:Hid (NumOr bm g4 (some (enc (val ly)))):=lH (NumOr.under iz ab)
       have dQ:Hid (NumOr bm g5 none):=lH (NumOr.under gW ab)
       clear ab
       go_simp
       refine hK.out _ _ (dA.out) (fun hHeld=>?_)
       clear hK K
       try simp only [aP]
       refine rdy 10 ⟨none,.store 67 (.tmp 5) (.tmp 42),0,_,_,none⟩ rfl (fun K hK=>?_)
       obtain ⟨aw,az,ay,ax,⟨z0,o0⟩,⟨z1,o1⟩,⟨z2,o2⟩,⟨z3,o3⟩⟩:=NumOr.facts dQ.out
       obtain ⟨ak,hN⟩:∃ W,W=((((bm.setCell ⟨g5,0,none⟩ (.int .u64 (d0:Int))).setCell ⟨g5,1,none⟩ (.int .u64 (d1:Int))).setCell ⟨g5,2,none⟩ (.int .u64 (d2:Int))).setCell ⟨g5,3,none⟩ (.int .u64 (d3:Int))):=⟨_,rfl⟩
       go_simp
       rw [←hN]
       have er:Hid (NumOr ak g5 (some ((mm (enc (val lx)) (enc (val lx))+(cP - (enc 1+(enc 1+enc 1) % cP) % cP)) % cP))):=lH (by rw [hN];exact NumOr.set dQ Hd)
       have bE:=lH (by rw [hN];exact below4 dA iF _ _ _ _:Below W4.heap.size W4 ak)
       have ew:Hid (NumOr ak g3 (some (enc (val lx)))):=lH (by rw [hN];exact NumOr.aside4 fX d6 _ _ _ _)
       have ef:Hid (NumOr ak g4 (some (enc (val ly)))):=lH (by rw [hN];exact NumOr.aside4 gt aQ _ _ _ _)
       clear hN z0 o0 z1 o1 z2 o2 z3 o3 aw az ay ax
       refine hK.out _ _ (bE.out) (fun hHeld=>?_)
       clear hK K
       try simp only [aP]
       refine dn ?_
       rw [ju.out]
       exact ⟨rfl,g5,_,_,_,_,_,_,_,_,_,_,_,_,_,_,_,_,_,_,_,_,_,_,_,_,_,_,_,_,_,_,_,_,_,_,_,_,_,_,_,_,_,_,_,_,_,_,_,_,_,rfl,aQ,iF,ew,ef,er,bE⟩
      refine AllReadyH.cons (o:=⟨some 5,.alloc 67,0,_,_,none⟩) rfl (fun K hK=>?_) AllReadyH.nil
      obtain ⟨g_,hN⟩:∃ W,W=ja.alloc (.cells #[.int .u64 0,.int .u64 0,.int .u64 0,.int .u64 0] 67):=⟨_,rfl⟩
      go_simp
      rw [←hN]
      obtain ⟨g5,hg⟩:∃ g,g=ja.heap.size:=⟨_,rfl⟩
      rw [←hg]
      have jo:Hid (NumOr g_ g5 none):=lH (by rw [hN,hg];exact NumOr.fresh _)
      have fJ:=lH (by rw [hN];exact ai.out.alloc ai.out.size _:Below W4.heap.size W4 g_)
      have iF:Hid (W4.heap.size≤g5):=lH (by rw [hg];exact ai.out.size)
      have d6:Hid (g3≠g5):=lH (by rw [hg];exact Nat.ne_of_lt jb.out.lt)
      have aQ:Hid (g4≠g5):=lH (by rw [hg];exact Nat.ne_of_lt jf.out.lt)
      have jk:Hid (NumOr g_ g3 (some (enc (val lx)))):=lH (by rw [hN];exact NumOr.alloc jb _)
      have ji:Hid (NumOr g_ g4 (some (enc (val ly)))):=lH (by rw [hN];exact NumOr.alloc jf _)
      clear hN hg
      refine hK.out _ _ (fJ.out) (fun hHeld=>?_)
      clear hK K
      try simp only [aP]
      refine rdy 6 ⟨some 40,.call ⟨ .value (.func 57),#[.tmp 38,.tmp 39],#[67,67]⟩,67,_,_,none⟩ rfl (fun K hK=>?_)
      go_simp
      refine (addN g_ (gN.out.under fJ) (enc 1) (enc 1) (enc_lt _) (enc_lt _) Hu Hu Hb).mono ?_
      rintro e fK ⟨rfl,ab⟩
      have cT:=lH (fJ.out.trans (ab.mono fJ.out.size))
      have i9:Hid (NumOr fK g3 (some (enc (val lx)))):=lH (NumOr.under jk ab)
      have iX:Hid (NumOr fK g4 (some (enc (val ly)))):=lH (NumOr.under ji ab)
      have iP:Hid (NumOr fK g5 none):=lH (NumOr.under jo ab)
      clear ab
      go_simp
      refine hK.out _ _ (cT.out) (fun hHeld=>?_)
      clear hK K
      try simp only [aP]
      refine rdy 7 ⟨some 41,.call ⟨ .value (.func 57),#[.tmp 37,.tmp 40],#[67,67]⟩,67,_,_,none⟩ rfl (fun K hK=>?_)
      go_simp
      refine (addN fK (gN.out.under cT) (enc 1) ((enc 1+enc 1) % cP) (enc_lt _) (Nat.mod_lt _ cP_pos) Hu Hb Hc).mono ?_
      rintro e cU ⟨rfl,ab⟩
      have aR:=lH (cT.out.trans (ab.mono cT.out.size))
      have ik:Hid (NumOr cU g3 (some (enc (val lx)))):=lH (NumOr.under i9 ab)
      have ib:Hid (NumOr cU g4 (some (enc (val ly)))):=lH (NumOr.under iX ab)
      have iu:Hid (NumOr cU g5 none):=lH (NumOr.under iP ab)
      clear ab
      go_simp
      refine hK.out _ _ (aR.out) (fun hHeld=>?_)
      clear hK K
      try simp only [aP]
      refine rdy 8 ⟨some 42,.call ⟨ .value (.func 55),#[.tmp 36,.tmp 41],#[67,67]⟩,67,_,_,none⟩ rfl (fun K hK=>?_)
      go_simp
      refine (subN cU (gN.out.under aR) (mm (enc (val lx)) (enc (val lx))) ((enc 1+(enc 1+enc 1) % cP) % cP) (mm_lt _ _) (Nat.mod_lt _ cP_pos) Ha Hc Hd).mono ?_
      rintro e a_ ⟨rfl,ab⟩
      have dJ:=lH (aR.out.trans (ab.mono aR.out.size))
      have gc:Hid (NumOr a_ g3 (some (enc (val lx)))):=lH (NumOr.under ik ab)
      have fS:Hid (NumOr a_ g4 (some (enc (val ly)))):=lH (NumOr.under ib ab)
      have dr:Hid (NumOr a_ g5 none):=lH (NumOr.under iu ab)
      clear ab
      go_simp
      refine hK.out _ _ (dJ.out) (fun hHeld=>?_)
      clear hK K
      try simp only [aP]
      refine rdy 10 ⟨none,.store 67 (.tmp 5) (.tmp 42),0,_,_,none⟩ rfl (fun K hK=>?_)
      obtain ⟨aw,az,ay,ax,⟨z0,o0⟩,⟨z1,o1⟩,⟨z2,o2⟩,⟨z3,o3⟩⟩:=NumOr.facts dr.out
      obtain ⟨av,hN⟩:∃ W,W=((((a_.setCell ⟨g5,0,none⟩ (.int .u64 (d0:Int))).setCell ⟨g5,1,none⟩ (.int .u64 (d1:Int))).setCell ⟨g5,2,none⟩ (.int .u64 (d2:Int))).setCell ⟨g5,3,none⟩ (.int .u64 (d3:Int))):=⟨_,rfl⟩
      go_simp
      rw [←hN]
      have ez:Hid (NumOr av g5 (some ((mm (enc (val lx)) (enc (val lx))+(cP - (enc 1+(enc 1+enc 1) % cP) % cP)) % cP))):=lH (by rw [hN];exact NumOr.set dr Hd)
      have bG:=lH (by rw [hN];exact below4 dJ iF _ _ _ _:Below W4.heap.size W4 av)
      have eo:Hid (NumOr av g3 (some (enc (val lx)))):=lH (by rw [hN];exact NumOr.aside4 gc d6 _ _ _ _)
      have ei:Hid (NumOr av g4 (some (enc (val ly)))):=lH (by rw [hN];exact NumOr.aside4 fS aQ _ _ _ _)
      clear hN z0 o0 z1 o1 z2 o2 z3 o3 aw az ay ax
      refine hK.out _ _ (bG.out) (fun hHeld=>?_)
      clear hK K
      try simp only [aP]
      refine dn ?_
      rw [ju.out]
      exact ⟨rfl,g5,_,_,_,_,_,_,_,_,_,_,_,_,_,_,_,_,_,_,_,_,_,_,_,_,_,_,_,_,_,_,_,_,_,_,_,_,_,_,_,_,_,_,_,_,_,_,_,_,_,rfl,aQ,iF,eo,ei,ez,bG⟩
     refine AllReadyH.cons (o:=⟨some 5,.alloc 67,0,_,_,none⟩) rfl (fun K hK=>?_) AllReadyH.nil
     obtain ⟨km,hN⟩:∃ W,W=V.alloc (.cells #[.int .u64 0,.int .u64 0,.int .u64 0,.int .u64 0] 67):=⟨_,rfl⟩
     go_simp
     rw [←hN]
     obtain ⟨g5,hg⟩:∃ g,g=V.heap.size:=⟨_,rfl⟩
     rw [←hg]
     have jB:Hid (NumOr km g5 none):=lH (by rw [hN,hg];exact NumOr.fresh _)
     have iI:=lH (by rw [hN];exact fb.out.alloc fb.out.size _:Below W4.heap.size W4 km)
     have iF:Hid (W4.heap.size≤g5):=lH (by rw [hg];exact fb.out.size)
     have d6:Hid (g3≠g5):=lH (by rw [hg];exact Nat.ne_of_lt kF.out.lt)
     have aQ:Hid (g4≠g5):=lH (by rw [hg];exact Nat.ne_of_lt kD.out.lt)
     have j9:Hid (NumOr km g3 (some (enc (val lx)))):=lH (by rw [hN];exact NumOr.alloc kF _)
     have jP:Hid (NumOr km g4 (some (enc (val ly)))):=lH (by rw [hN];exact NumOr.alloc kD _)
     clear hN hg
     refine hK.out _ _ (iI.out) (fun hHeld=>?_)
     clear hK K
     try simp only [aP]
     refine rdy 2 ⟨some 36,.call ⟨ .value (.func 56),#[.tmp 34,.tmp 35],#[67,67]⟩,67,_,_,none⟩ rfl (fun K hK=>?_)
     go_simp
     refine (mulN km (gN.out.under iI) (enc (val lx)) (enc (val lx)) (enc_lt _) (enc_lt _) Hx Hx Ha).mono ?_
     rintro e iM ⟨rfl,ab⟩
     have fN:=lH (iI.out.trans (ab.mono iI.out.size))
     have js:Hid (NumOr iM g3 (some (enc (val lx)))):=lH (NumOr.under j9 ab)
     have jm:Hid (NumOr iM g4 (some (enc (val ly)))):=lH (NumOr.under jP ab)
     have jl:Hid (NumOr iM g5 none):=lH (NumOr.under jB ab)
     clear ab
     go_simp
     refine hK.out _ _ (fN.out) (fun hHeld=>?_)
     clear hK K
     try simp only [aP]
     refine rdy 6 ⟨some 40,.call ⟨ .value (.func 57),#[.tmp 38,.tmp 39],#[67,67]⟩,67,_,_,none⟩ rfl (fun K hK=>?_)
     go_simp
     refine (addN iM (gN.out.under fN) (enc 1) (enc 1) (enc_lt _) (enc_lt _) Hu Hu Hb).mono ?_
     rintro e fM ⟨rfl,ab⟩
     have cO:=lH (fN.out.trans (ab.mono fN.out.size))
     have iY:Hid (NumOr fM g3 (some (enc (val lx)))):=lH (NumOr.under js ab)
     have i7:Hid (NumOr fM g4 (some (enc (val ly)))):=lH (NumOr.under jm ab)
     have iV:Hid (NumOr fM g5 none):=lH (NumOr.under jl ab)
     clear ab
     go_simp
     refine hK.out _ _ (cO.out) (fun hHeld=>?_)
     clear hK K
     try simp only [aP]
     refine rdy 7 ⟨some 41,.call ⟨ .value (.func 57),#[.tmp 37,.tmp 40],#[67,67]⟩,67,_,_,none⟩ rfl (fun K hK=>?_)
     go_simp
     refine (addN fM (gN.out.under cO) (enc 1) ((enc 1+enc 1) % cP) (enc_lt _) (Nat.mod_lt _ cP_pos) Hu Hb Hc).mono ?_
     rintro e cS ⟨rfl,ab⟩
     have bl:=lH (cO.out.trans (ab.mono cO.out.size))
     have h_:Hid (NumOr cS g3 (some (enc (val lx)))):=lH (NumOr.under iY ab)
     have gV:Hid (NumOr cS g4 (some (enc (val ly)))):=lH (NumOr.under i7 ab)
     have hI:Hid (NumOr cS g5 none):=lH (NumOr.under iV ab)
     clear ab
     go_simp
     refine hK.out _ _ (bl.out) (fun hHeld=>?_)
     clear hK K
     try simp only [aP]
     refine rdy 8 ⟨some 42,.call ⟨ .value (.func 55),#[.tmp 36,.tmp 41],#[67,67]⟩,67,_,_,none⟩ rfl (fun K hK=>?_)
     go_simp
     refine (subN cS (gN.out.under bl) (mm (enc (val lx)) (enc (val lx))) ((enc 1+(enc 1+enc 1) % cP) % cP) (mm_lt _ _) (Nat.mod_lt _ cP_pos) Ha Hc Hd).mono ?_
     rintro e a6 ⟨rfl,ab⟩
     have dG:=lH (bl.out.trans (ab.mono bl.out.size))
     have fZ:Hid (NumOr a6 g3 (some (enc (val lx)))):=lH (NumOr.under h_ ab)
     have f9:Hid (NumOr a6 g4 (some (enc (val ly)))):=lH (NumOr.under gV ab)
     have dc:Hid (NumOr a6 g5 none):=lH (NumOr.under hI ab)
     clear ab
     go_simp
     refine hK.out _ _ (dG.out) (fun hHeld=>?_)
     clear hK K
     try simp only [aP]
     refine rdy 10 ⟨none,.store 67 (.tmp 5) (.tmp 42),0,_,_,none⟩ rfl (fun K hK=>?_)
     obtain ⟨aw,az,ay,ax,⟨z0,o0⟩,⟨z1,o1⟩,⟨z2,o2⟩,⟨z3,o3⟩⟩:=NumOr.facts dc.out
     obtain ⟨am,hN⟩:∃ W,W=((((a6.setCell ⟨g5,0,none⟩ (.int .u64 (d0:Int))).setCell ⟨g5,1,none⟩ (.int .u64 (d1:Int))).setCell ⟨g5,2,none⟩ (.int .u64 (d2:Int))).setCell ⟨g5,3,none⟩ (.int .u64 (d3:Int))):=⟨_,rfl⟩
     go_simp
     rw [←hN]
     have eA:Hid (NumOr am g5 (some ((mm (enc (val lx)) (enc (val lx))+(cP - (enc 1+(enc 1+enc 1) % cP) % cP)) % cP))):=lH (by rw [hN];exact NumOr.set dc Hd)
     have bH:=lH (by rw [hN];exact below4 dG iF _ _ _ _:Below W4.heap.size W4 am)
     have eB:Hid (NumOr am g3 (some (enc (val lx)))):=lH (by rw [hN];exact NumOr.aside4 fZ d6 _ _ _ _)
     have d_:Hid (NumOr am g4 (some (enc (val ly)))):=lH (by rw [hN];exact NumOr.aside4 f9 aQ _ _ _ _)
     clear hN z0 o0 z1 o1 z2 o2 z3 o3 aw az ay ax
     refine hK.out _ _ (bH.out) (fun hHeld=>?_)
     clear hK K
     try simp only [aP]
     refine dn ?_
     rw [ju.out]
     exact ⟨rfl,g5,_,_,_,_,_,_,_,_,_,_,_,_,_,_,_,_,_,_,_,_,_,_,_,_,_,_,_,_,_,_,_,_,_,_,_,_,_,_,_,_,_,_,_,_,_,_,_,_,_,rfl,aQ,iF,eB,d_,eA,bH⟩
    refine wp_region_noPanic ?_
    refine wp_region_held_drew (S:=fun W=>Below w3.heap.size w3 W) (by kernel_rfl) ((Below.refl _ w3).drew) (fun hHeld=>?_)
    obtain ⟨V,hV⟩:∃ W,W=w3.drew:=⟨_,rfl⟩
    rw [←hV]
    have fb:Hid (Below w3.heap.size w3 V):=lH (by rw [hV];exact (Below.refl _ w3).drew)
    replace hHeld:(fun W=>Below w3.heap.size w3 W) V:=fb.out
    clear hV
    refine tz 0 ⟨some 28,.fieldAddr 26 (.tmp 1) 0,0,_,_,none⟩ rfl hHeld ?_
    try simp only [aP]
    refine tk 1 ⟨some 29,.load 24 (.tmp 28),24,_,_,none⟩ ?_ rfl ?_ hHeld ?_
    rotate_left 1
    ·(intro W hW;have gG:=(j5.out.under hW kd.out).cells;obtain ⟨b0,b1,b2⟩:=gG;(try dsimp only at hW);go_simp;try with_reducible rfl)
    try simp only [aP]
    refine tz 3 ⟨some 31,.fieldAddr 26 (.tmp 1) 1,0,_,_,none⟩ rfl hHeld ?_
    try simp only [aP]
    refine tk 4 ⟨some 32,.load 24 (.tmp 31),24,_,_,none⟩ ?_ rfl ?_ hHeld ?_
    rotate_left 1
    ·(intro W hW;have gG:=(j5.out.under hW kd.out).cells;obtain ⟨b0,b1,b2⟩:=gG;(try dsimp only at hW);go_simp;try with_reducible rfl)
    try simp only [aP]
    refine wpAnyH_ready (rs:=[2,6,7]) (by kernel_rfl) (by simp) ?_
    refine AllReadyH.cons (o:=⟨some 30,.call ⟨ .value (.func 54),#[.tmp 29],#[24]⟩,67,_,_,none⟩) rfl (fun K hK=>?_) ?_
    ·go_simp
     refine (enterN V (il.out.under fb) w3.heap.size cx Ax lx fb.out.size (jR.out.under fb) kp jr Hx).mono ?_
     rintro e ja ⟨rfl,ab⟩
     have ai:=lH (fb.out.trans (ab.mono fb.out.size))
     clear ab
     go_simp
     refine hK.out _ _ (ai.out) (fun hHeld=>?_)
     clear hK K
     try simp only [aP]
     refine wpAnyH_ready (rs:=[5,6,7]) (by kernel_rfl) (by simp) ?_
     refine AllReadyH.cons (o:=⟨some 33,.call ⟨ .value (.func 54),#[.tmp 32],#[24]⟩,67,_,_,none⟩) rfl (fun K hK=>?_) ?_
     ·go_simp
      refine (enterN ja (il.out.under ai) w3.heap.size cy Ay ly ai.out.size (je.out.under ai) jc iE Hy).mono ?_
      rintro e iJ ⟨rfl,ab⟩
      have bN:=lH (ai.out.trans (ab.mono ai.out.size))
      clear ab
      go_simp
      refine hK.out _ _ (bN.out) (fun hHeld=>?_)
      clear hK K
      try simp only [aP]
      refine wpAnyH_ready (rs:=[6,7]) (by kernel_rfl) (by simp) ?_
      refine AllReadyH.cons (o:=⟨some 3,.alloc 67,0,_,_,none⟩) rfl (fun K hK=>?_) ?_
      ·obtain ⟨fQ,hN⟩:∃ W,W=iJ.alloc (.cells #[.int .u64 0,.int .u64 0,.int .u64 0,.int .u64 0] 67):=⟨_,rfl⟩
       go_simp
       rw [←hN]
       obtain ⟨g3,hg⟩:∃ g,g=iJ.heap.size:=⟨_,rfl⟩
       rw [←hg]
       have gA:Hid (NumOr fQ g3 none):=lH (by rw [hN,hg];exact NumOr.fresh _)
       have cG:=lH (by rw [hN];exact bN.out.alloc bN.out.size _:Below w3.heap.size w3 fQ)
       have gD:Hid (w3.heap.size≤g3):=lH (by rw [hg];exact bN.out.size)
       clear hN hg
       refine hK.out _ _ (cG.out) (fun hHeld=>?_)
       clear hK K
       try simp only [aP]
       refine rdy 7 ⟨some 4,.alloc 67,0,_,_,none⟩ rfl (fun K hK=>?_)
       obtain ⟨c_,hN⟩:∃ W,W=fQ.alloc (.cells #[.int .u64 0,.int .u64 0,.int .u64 0,.int .u64 0] 67):=⟨_,rfl⟩
       go_simp
       rw [←hN]
       obtain ⟨g4,hg⟩:∃ g,g=fQ.heap.size:=⟨_,rfl⟩
       rw [←hg]
       have io:Hid (NumOr c_ g4 none):=lH (by rw [hN,hg];exact NumOr.fresh _)
       have eV:=lH (by rw [hN];exact cG.out.alloc cG.out.size _:Below w3.heap.size w3 c_)
       have gE:Hid (w3.heap.size≤g4):=lH (by rw [hg];exact cG.out.size)
       have aC:Hid (g3≠g4):=lH (by rw [hg];exact Nat.ne_of_lt gA.out.lt)
       have eS:Hid (NumOr c_ g3 none):=lH (by rw [hN];exact NumOr.alloc gA _)
       clear hN hg
       refine hK.out _ _ (eV.out) (fun hHeld=>?_)
       clear hK K
       try simp only [aP]
       refine rdy 8 ⟨none,.store 67 (.tmp 3) (.tmp 30),0,_,_,none⟩ rfl (fun K hK=>?_)
       obtain ⟨aw,az,ay,ax,⟨z0,o0⟩,⟨z1,o1⟩,⟨z2,o2⟩,⟨z3,o3⟩⟩:=NumOr.facts eS.out
       obtain ⟨a9,hN⟩:∃ W,W=((((c_.setCell ⟨g3,0,none⟩ (.int .u64 (x0:Int))).setCell ⟨g3,1,none⟩ (.int .u64 (x1:Int))).setCell ⟨g3,2,none⟩ (.int .u64 (x2:Int))).setCell ⟨g3,3,none⟩ (.int .u64 (x3:Int))):=⟨_,rfl⟩
       go_simp
       rw [←hN]
       have gg:Hid (NumOr a9 g3 (some (enc (val lx)))):=lH (by rw [hN];exact NumOr.set eS Hx)
       have dH:=lH (by rw [hN];exact below4 eV gD _ _ _ _:Below w3.heap.size w3 a9)
       have dK:Hid (NumOr a9 g4 none):=lH (by rw [hN];exact NumOr.aside4 io aC.out.symm _ _ _ _)
       clear hN z0 o0 z1 o1 z2 o2 z3 o3 aw az ay ax
       refine hK.out _ _ (dH.out) (fun hHeld=>?_)
       clear hK K
       try simp only [aP]
       refine rdy 9 ⟨none,.store 67 (.tmp 4) (.tmp 33),0,_,_,none⟩ rfl (fun K hK=>?_)
       obtain ⟨aw,az,ay,ax,⟨z0,o0⟩,⟨z1,o1⟩,⟨z2,o2⟩,⟨z3,o3⟩⟩:=NumOr.facts dK.out
       obtain ⟨bB,hN⟩:∃ W,W=((((a9.setCell ⟨g4,0,none⟩ (.int .u64 (y0:Int))).setCell ⟨g4,1,none⟩ (.int .u64 (y1:Int))).setCell ⟨g4,2,none⟩ (.int .u64 (y2:Int))).setCell ⟨g4,3,none⟩ (.int .u64 (y3:Int))):=⟨_,rfl⟩
       go_simp
       rw [←hN]
       have fh:Hid (NumOr bB g4 (some (enc (val ly)))):=lH (by rw [hN];exact NumOr.set dK Hy)
       have bO:=lH (by rw [hN];exact below4 dH gE _ _ _ _:Below w3.heap.size w3 bB)
       have fp:Hid (NumOr bB g3 (some (enc (val lx)))):=lH (by rw [hN];exact NumOr.aside4 gg aC _ _ _ _)
       clear hN z0 o0 z1 o1 z2 o2 z3 o3 aw az ay ax
       refine hK.out _ _ (bO.out) (fun hHeld=>?_)
       clear hK K
       try simp only [aP]
       refine dn ?_
       rw [iD.out]
       exact ⟨rfl,g3,g4,_,_,_,_,_,_,_,_,_,_,_,_,_,_,_,_,_,_,_,_,_,_,_,_,_,_,_,_,_,_,_,_,_,_,_,_,_,_,_,_,_,_,_,_,_,_,_,_,_,_,rfl,fp,fh,bO⟩
      refine AllReadyH.cons (o:=⟨some 4,.alloc 67,0,_,_,none⟩) rfl (fun K hK=>?_) AllReadyH.nil
      obtain ⟨fR,hN⟩:∃ W,W=iJ.alloc (.cells #[.int .u64 0,.int .u64 0,.int .u64 0,.int .u64 0] 67):=⟨_,rfl⟩
      go_simp
      rw [←hN]
      obtain ⟨g4,hg⟩:∃ g,g=iJ.heap.size:=⟨_,rfl⟩
      rw [←hg]
      have gz:Hid (NumOr fR g4 none):=lH (by rw [hN,hg];exact NumOr.fresh _)
      have cF:=lH (by rw [hN];exact bN.out.alloc bN.out.size _:Below w3.heap.size w3 fR)
      have gE:Hid (w3.heap.size≤g4):=lH (by rw [hg];exact bN.out.size)
      clear hN hg
      refine hK.out _ _ (cF.out) (fun hHeld=>?_)
      clear hK K
      try simp only [aP]
      refine rdy 6 ⟨some 3,.alloc 67,0,_,_,none⟩ rfl (fun K hK=>?_)
      obtain ⟨cL,hN⟩:∃ W,W=fR.alloc (.cells #[.int .u64 0,.int .u64 0,.int .u64 0,.int .u64 0] 67):=⟨_,rfl⟩
      go_simp
      rw [←hN]
      obtain ⟨g3,hg⟩:∃ g,g=fR.heap.size:=⟨_,rfl⟩
      rw [←hg]
      have eL:Hid (NumOr cL g3 none):=lH (by rw [hN,hg];exact NumOr.fresh _)
      have fa:=lH (by rw [hN];exact cF.out.alloc cF.out.size _:Below w3.heap.size w3 cL)
      have gD:Hid (w3.heap.size≤g3):=lH (by rw [hg];exact cF.out.size)
      have aB:Hid (g4≠g3):=lH (by rw [hg];exact Nat.ne_of_lt gz.out.lt)
      have im:Hid (NumOr cL g4 none):=lH (by rw [hN];exact NumOr.alloc gz _)
      clear hN hg
      refine hK.out _ _ (fa.out) (fun hHeld=>?_)
      clear hK K
      try simp only [aP]
      refine rdy 8 ⟨none,.store 67 (.tmp 3) (.tmp 30),0,_,_,none⟩ rfl (fun K hK=>?_)
      obtain ⟨aw,az,ay,ax,⟨z0,o0⟩,⟨z1,o1⟩,⟨z2,o2⟩,⟨z3,o3⟩⟩:=NumOr.facts eL.out
      obtain ⟨aT,hN⟩:∃ W,W=((((cL.setCell ⟨g3,0,none⟩ (.int .u64 (x0:Int))).setCell ⟨g3,1,none⟩ (.int .u64 (x1:Int))).setCell ⟨g3,2,none⟩ (.int .u64 (x2:Int))).setCell ⟨g3,3,none⟩ (.int .u64 (x3:Int))):=⟨_,rfl⟩
      go_simp
      rw [←hN]
      have f8:Hid (NumOr aT g3 (some (enc (val lx)))):=lH (by rw [hN];exact NumOr.set eL Hx)
      have dP:=lH (by rw [hN];exact below4 fa gD _ _ _ _:Below w3.heap.size w3 aT)
      have dv:Hid (NumOr aT g4 none):=lH (by rw [hN];exact NumOr.aside4 im aB _ _ _ _)
      clear hN z0 o0 z1 o1 z2 o2 z3 o3 aw az ay ax
      refine hK.out _ _ (dP.out) (fun hHeld=>?_)
      clear hK K
      try simp only [aP]
      refine rdy 9 ⟨none,.store 67 (.tmp 4) (.tmp 33),0,_,_,none⟩ rfl (fun K hK=>?_)
      obtain ⟨aw,az,ay,ax,⟨z0,o0⟩,⟨z1,o1⟩,⟨z2,o2⟩,⟨z3,o3⟩⟩:=NumOr.facts dv.out
      obtain ⟨bw,hN⟩:∃ W,W=((((aT.setCell ⟨g4,0,none⟩ (.int .u64 (y0:Int))).setCell ⟨g4,1,none⟩ (.int .u64 (y1:Int))).setCell ⟨g4,2,none⟩ (.int .u64 (y2:Int))).setCell ⟨g4,3,none⟩ (.int .u64 (y3:Int))):=⟨_,rfl⟩
      go_simp
      rw [←hN]
      have fm:Hid (NumOr bw g4 (some (enc (val ly)))):=lH (by rw [hN];exact NumOr.set dv Hy)
      have bR:=lH (by rw [hN];exact below4 dP gE _ _ _ _:Below w3.heap.size w3 bw)
      have fC:Hid (NumOr bw g3 (some (enc (val lx)))):=lH (by rw [hN];exact NumOr.aside4 f8 aB.out.symm _ _ _ _)
      clear hN z0 o0 z1 o1 z2 o2 z3 o3 aw az ay ax
      refine hK.out _ _ (bR.out) (fun hHeld=>?_)
      clear hK K
      try simp only [aP]
      refine dn ?_
      rw [iD.out]
      exact ⟨rfl,g3,g4,_,_,_,_,_,_,_,_,_,_,_,_,_,_,_,_,_,_,_,_,_,_,_,_,_,_,_,_,_,_,_,_,_,_,_,_,_,_,_,_,_,_,_,_,_,_,_,_,_,_,rfl,fC,fm,bR⟩
     refine AllReadyH.cons (o:=⟨some 3,.alloc 67,0,_,_,none⟩) rfl (fun K hK=>?_) ?_
     ·obtain ⟨b_,hN⟩:∃ W,W=ja.alloc (.cells #[.int .u64 0,.int .u64 0,.int .u64 0,.int .u64 0] 67):=⟨_,rfl⟩
      go_simp
      rw [←hN]
      obtain ⟨g3,hg⟩:∃ g,g=ja.heap.size:=⟨_,rfl⟩
      rw [←hg]
      have bM:Hid (NumOr b_ g3 none):=lH (by rw [hN,hg];exact NumOr.fresh _)
      have ae:=lH (by rw [hN];exact ai.out.alloc ai.out.size _:Below w3.heap.size w3 b_)
      have gD:Hid (w3.heap.size≤g3):=lH (by rw [hg];exact ai.out.size)
      clear hN hg
      refine hK.out _ _ (ae.out) (fun hHeld=>?_)
      clear hK K
      try simp only [aP]
      refine wpAnyH_ready (rs:=[5,7]) (by kernel_rfl) (by simp) ?_
      refine AllReadyH.cons (o:=⟨some 33,.call ⟨ .value (.func 54),#[.tmp 32],#[24]⟩,67,_,_,none⟩) rfl (fun K hK=>?_) ?_
      ·go_simp
       refine (enterN b_ (il.out.under ae) w3.heap.size cy Ay ly ae.out.size (je.out.under ae) jc iE Hy).mono ?_
       rintro e gM ⟨rfl,ab⟩
       have cC:=lH (ae.out.trans (ab.mono ae.out.size))
       have gw:Hid (NumOr gM g3 none):=lH (NumOr.under bM ab)
       clear ab
       go_simp
       refine hK.out _ _ (cC.out) (fun hHeld=>?_)
       clear hK K
       try simp only [aP]
       refine rdy 7 ⟨some 4,.alloc 67,0,_,_,none⟩ rfl (fun K hK=>?_)
       obtain ⟨cE,hN⟩:∃ W,W=gM.alloc (.cells #[.int .u64 0,.int .u64 0,.int .u64 0,.int .u64 0] 67):=⟨_,rfl⟩
       go_simp
       rw [←hN]
       obtain ⟨g4,hg⟩:∃ g,g=gM.heap.size:=⟨_,rfl⟩
       rw [←hg]
       have ir:Hid (NumOr cE g4 none):=lH (by rw [hN,hg];exact NumOr.fresh _)
       have e_:=lH (by rw [hN];exact cC.out.alloc cC.out.size _:Below w3.heap.size w3 cE)
       have gE:Hid (w3.heap.size≤g4):=lH (by rw [hg];exact cC.out.size)
       have aC:Hid (g3≠g4):=lH (by rw [hg];exact Nat.ne_of_lt gw.out.lt)
       have eO:Hid (NumOr cE g3 none):=lH (by rw [hN];exact NumOr.alloc gw _)
       clear hN hg
       refine hK.out _ _ (e_.out) (fun hHeld=>?_)
       clear hK K
       try simp only [aP]
       refine rdy 8 ⟨none,.store 67 (.tmp 3) (.tmp 30),0,_,_,none⟩ rfl (fun K hK=>?_)
       obtain ⟨aw,az,ay,ax,⟨z0,o0⟩,⟨z1,o1⟩,⟨z2,o2⟩,⟨z3,o3⟩⟩:=NumOr.facts eO.out
       obtain ⟨bf,hN⟩:∃ W,W=((((cE.setCell ⟨g3,0,none⟩ (.int .u64 (x0:Int))).setCell ⟨g3,1,none⟩ (.int .u64 (x1:Int))).setCell ⟨g3,2,none⟩ (.int .u64 (x2:Int))).setCell ⟨g3,3,none⟩ (.int .u64 (x3:Int))):=⟨_,rfl⟩
       go_simp
       rw [←hN]
       have fU:Hid (NumOr bf g3 (some (enc (val lx)))):=lH (by rw [hN];exact NumOr.set eO Hx)
       have dw:=lH (by rw [hN];exact below4 e_ gD _ _ _ _:Below w3.heap.size w3 bf)
       have dl:Hid (NumOr bf g4 none):=lH (by rw [hN];exact NumOr.aside4 ir aC.out.symm _ _ _ _)
       clear hN z0 o0 z1 o1 z2 o2 z3 o3 aw az ay ax
       refine hK.out _ _ (dw.out) (fun hHeld=>?_)
       clear hK K
       try simp only [aP]
       refine rdy 9 ⟨none,.store 67 (.tmp 4) (.tmp 33),0,_,_,none⟩ rfl (fun K hK=>?_)
       obtain ⟨aw,az,ay,ax,⟨z0,o0⟩,⟨z1,o1⟩,⟨z2,o2⟩,⟨z3,o3⟩⟩:=NumOr.facts dl.out
       obtain ⟨bt,hN⟩:∃ W,W=((((bf.setCell ⟨g4,0,none⟩ (.int .u64 (y0:Int))).setCell ⟨g4,1,none⟩ (.int .u64 (y1:Int))).setCell ⟨g4,2,none⟩ (.int .u64 (y2:Int))).setCell ⟨g4,3,none⟩ (.int .u64 (y3:Int))):=⟨_,rfl⟩
       go_simp
       rw [←hN]
       have fq:Hid (NumOr bt g4 (some (enc (val ly)))):=lH (by rw [hN];exact NumOr.set dl Hy)
       have bW:=lH (by rw [hN];exact below4 dw gE _ _ _ _:Below w3.heap.size w3 bt)
       have fk:Hid (NumOr bt g3 (some (enc (val lx)))):=lH (by rw [hN];exact NumOr.aside4 fU aC _ _ _ _)
       clear hN z0 o0 z1 o1 z2 o2 z3 o3 aw az ay ax
       refine hK.out _ _ (bW.out) (fun hHeld=>?_)
       clear hK K
       try simp only [aP]
       refine dn ?_
       rw [iD.out]
       exact ⟨rfl,g3,g4,_,_,_,_,_,_,_,_,_,_,_,_,_,_,_,_,_,_,_,_,_,_,_,_,_,_,_,_,_,_,_,_,_,_,_,_,_,_,_,_,_,_,_,_,_,_,_,_,_,_,rfl,fk,fq,bW⟩
      refine AllReadyH.cons (o:=⟨some 4,.alloc 67,0,_,_,none⟩) rfl (fun K hK=>?_) AllReadyH.nil
      obtain ⟨aA,hN⟩:∃ W,W=b_.alloc (.cells #[.int .u64 0,.int .u64 0,.int .u64 0,.int .u64 0] 67):=⟨_,rfl⟩
      go_simp
      rw [←hN]
      obtain ⟨g4,hg⟩:∃ g,g=b_.heap.size:=⟨_,rfl⟩
      rw [←hg]
      have bI:Hid (NumOr aA g4 none):=lH (by rw [hN,hg];exact NumOr.fresh _)
      have ac:=lH (by rw [hN];exact ae.out.alloc ae.out.size _:Below w3.heap.size w3 aA)
      have gE:Hid (w3.heap.size≤g4):=lH (by rw [hg];exact ae.out.size)
      have aC:Hid (g3≠g4):=lH (by rw [hg];exact Nat.ne_of_lt bM.out.lt)
      have bL:Hid (NumOr aA g3 none):=lH (by rw [hN];exact NumOr.alloc bM _)
      clear hN hg
      refine hK.out _ _ (ac.out) (fun hHeld=>?_)
      clear hK K
      try simp only [aP]
      refine rdy 5 ⟨some 33,.call ⟨ .value (.func 54),#[.tmp 32],#[24]⟩,67,_,_,none⟩ rfl (fun K hK=>?_)
      go_simp
      refine (enterN aA (il.out.under ac) w3.heap.size cy Ay ly ac.out.size (je.out.under ac) jc iE Hy).mono ?_
      rintro e ec ⟨rfl,ab⟩
      have eI:=lH (ac.out.trans (ab.mono ac.out.size))
      have eQ:Hid (NumOr ec g3 none):=lH (NumOr.under bL ab)
      have gT:Hid (NumOr ec g4 none):=lH (NumOr.under bI ab)
      clear ab
      go_simp
      refine hK.out _ _ (eI.out) (fun hHeld=>?_)
      clear hK K
      try simp only [aP]
      refine rdy 8 ⟨none,.store 67 (.tmp 3) (.tmp 30),0,_,_,none⟩ rfl (fun K hK=>?_)
      obtain ⟨aw,az,ay,ax,⟨z0,o0⟩,⟨z1,o1⟩,⟨z2,o2⟩,⟨z3,o3⟩⟩:=NumOr.facts eQ.out
      obtain ⟨aN,hN⟩:∃ W,W=((((ec.setCell ⟨g3,0,none⟩ (.int .u64 (x0:Int))).setCell ⟨g3,1,none⟩ (.int .u64 (x1:Int))).setCell ⟨g3,2,none⟩ (.int .u64 (x2:Int))).setCell ⟨g3,3,none⟩ (.int .u64 (x3:Int))):=⟨_,rfl⟩
      go_simp
      rw [←hN]
      have f_:Hid (NumOr aN g3 (some (enc (val lx)))):=lH (by rw [hN];exact NumOr.set eQ Hx)
      have dO:=lH (by rw [hN];exact below4 eI gD _ _ _ _:Below w3.heap.size w3 aN)
      have dN:Hid (NumOr aN g4 none):=lH (by rw [hN];exact NumOr.aside4 gT aC.out.symm _ _ _ _)
      clear hN z0 o0 z1 o1 z2 o2 z3 o3 aw az ay ax
      refine hK.out _ _ (dO.out) (fun hHeld=>?_)
      clear hK K
      try simp only [aP]
      refine rdy 9 ⟨none,.store 67 (.tmp 4) (.tmp 33),0,_,_,none⟩ rfl (fun K hK=>?_)
      obtain ⟨aw,az,ay,ax,⟨z0,o0⟩,⟨z1,o1⟩,⟨z2,o2⟩,⟨z3,o3⟩⟩:=NumOr.facts dN.out
      obtain ⟨bA,hN⟩:∃ W,W=((((aN.setCell ⟨g4,0,none⟩ (.int .u64 (y0:Int))).setCell ⟨g4,1,none⟩ (.int .u64 (y1:Int))).setCell ⟨g4,2,none⟩ (.int .u64 (y2:Int))).setCell ⟨g4,3,none⟩ (.int .u64 (y3:Int))):=⟨_,rfl⟩
      go_simp
      rw [←hN]
      have fI:Hid (NumOr bA g4 (some (enc (val ly)))):=lH (by rw [hN];exact NumOr.set dN Hy)
      have bX:=lH (by rw [hN];exact below4 dO gE _ _ _ _:Below w3.heap.size w3 bA)
      have fw:Hid (NumOr bA g3 (some (enc (val lx)))):=lH (by rw [hN];exact NumOr.aside4 f_ aC _ _ _ _)
      clear hN z0 o0 z1 o1 z2 o2 z3 o3 aw az ay ax
      refine hK.out _ _ (bX.out) (fun hHeld=>?_)
      clear hK K
      try simp only [aP]
      refine dn ?_
      rw [iD.out]
      exact ⟨rfl,g3,g4,_,_,_,_,_,_,_,_,_,_,_,_,_,_,_,_,_,_,_,_,_,_,_,_,_,_,_,_,_,_,_,_,_,_,_,_,_,_,_,_,_,_,_,_,_,_,_,_,_,_,rfl,fw,fI,bX⟩
     refine AllReadyH.cons (o:=⟨some 4,.alloc 67,0,_,_,none⟩) rfl (fun K hK=>?_) AllReadyH.nil
     obtain ⟨iw,hN⟩:∃ W,W=ja.alloc (.cells #[.int .u64 0,.int .u64 0,.int .u64 0,.int .u64 0] 67):=⟨_,rfl⟩
     go_simp
     rw [←hN]
     obtain ⟨g4,hg⟩:∃ g,g=ja.heap.size:=⟨_,rfl⟩
     rw [←hg]
     have gO:Hid (NumOr iw g4 none):=lH (by rw [hN,hg];exact NumOr.fresh _)
     have aE:=lH (by rw [hN];exact ai.out.alloc ai.out.size _:Below w3.heap.size w3 iw)
     have gE:Hid (w3.heap.size≤g4):=lH (by rw [hg];exact ai.out.size)
     clear hN hg
     refine hK.out _ _ (aE.out) (fun hHeld=>?_)
     clear hK K
     try simp only [aP]
     refine wpAnyH_ready (rs:=[5,6]) (by kernel_rfl) (by simp) ?_
     refine AllReadyH.cons (o:=⟨some 33,.call ⟨ .value (.func 54),#[.tmp 32],#[24]⟩,67,_,_,none⟩) rfl (fun K hK=>?_) ?_
     ·go_simp
      refine (enterN iw (il.out.under aE) w3.heap.size cy Ay ly aE.out.size (je.out.under aE) jc iE Hy).mono ?_
      rintro e gH ⟨rfl,ab⟩
      have cN:=lH (aE.out.trans (ab.mono aE.out.size))
      have gB:Hid (NumOr gH g4 none):=lH (NumOr.under gO ab)
      clear ab
      go_simp
      refine hK.out _ _ (cN.out) (fun hHeld=>?_)
      clear hK K
      try simp only [aP]
      refine rdy 6 ⟨some 3,.alloc 67,0,_,_,none⟩ rfl (fun K hK=>?_)
      obtain ⟨cJ,hN⟩:∃ W,W=gH.alloc (.cells #[.int .u64 0,.int .u64 0,.int .u64 0,.int .u64 0] 67):=⟨_,rfl⟩
      go_simp
      rw [←hN]
      obtain ⟨g3,hg⟩:∃ g,g=gH.heap.size:=⟨_,rfl⟩
      rw [←hg]
      have eP:Hid (NumOr cJ g3 none):=lH (by rw [hN,hg];exact NumOr.fresh _)
      have eR:=lH (by rw [hN];exact cN.out.alloc cN.out.size _:Below w3.heap.size w3 cJ)
      have gD:Hid (w3.heap.size≤g3):=lH (by rw [hg];exact cN.out.size)
      have aB:Hid (g4≠g3):=lH (by rw [hg];exact Nat.ne_of_lt gB.out.lt)
      have ie:Hid (NumOr cJ g4 none):=lH (by rw [hN];exact NumOr.alloc gB _)
      clear hN hg
      refine hK.out _ _ (eR.out) (fun hHeld=>?_)
      clear hK K
      try simp only [aP]
      refine rdy 8 ⟨none,.store 67 (.tmp 3) (.tmp 30),0,_,_,none⟩ rfl (fun K hK=>?_)
      obtain ⟨aw,az,ay,ax,⟨z0,o0⟩,⟨z1,o1⟩,⟨z2,o2⟩,⟨z3,o3⟩⟩:=NumOr.facts eP.out
      obtain ⟨bd,hN⟩:∃ W,W=((((cJ.setCell ⟨g3,0,none⟩ (.int .u64 (x0:Int))).setCell ⟨g3,1,none⟩ (.int .u64 (x1:Int))).setCell ⟨g3,2,none⟩ (.int .u64 (x2:Int))).setCell ⟨g3,3,none⟩ (.int .u64 (x3:Int))):=⟨_,rfl⟩
      go_simp
      rw [←hN]
      have gm:Hid (NumOr bd g3 (some (enc (val lx)))):=lH (by rw [hN];exact NumOr.set eP Hx)
      have dL:=lH (by rw [hN];exact below4 eR gD _ _ _ _:Below w3.heap.size w3 bd)
      have dV:Hid (NumOr bd g4 none):=lH (by rw [hN];exact NumOr.aside4 ie aB _ _ _ _)
      clear hN z0 o0 z1 o1 z2 o2 z3 o3 aw az ay ax
      refine hK.out _ _ (dL.out) (fun hHeld=>?_)
      clear hK K
      try simp only [aP]
      refine rdy 9 ⟨none,.store 67 (.tmp 4) (.tmp 33),0,_,_,none⟩ rfl (fun K hK=>?_)
      obtain ⟨aw,az,ay,ax,⟨z0,o0⟩,⟨z1,o1⟩,⟨z2,o2⟩,⟨z3,o3⟩⟩:=NumOr.facts dV.out
      obtain ⟨br,hN⟩:∃ W,W=((((bd.setCell ⟨g4,0,none⟩ (.int .u64 (y0:Int))).setCell ⟨g4,1,none⟩ (.int .u64 (y1:Int))).setCell ⟨g4,2,none⟩ (.int .u64 (y2:Int))).setCell ⟨g4,3,none⟩ (.int .u64 (y3:Int))):=⟨_,rfl⟩
      go_simp
      rw [←hN]
      have fF:Hid (NumOr br g4 (some (enc (val ly)))):=lH (by rw [hN];exact NumOr.set dV Hy)
      have bZ:=lH (by rw [hN];exact below4 dL gE _ _ _ _:Below w3.heap.size w3 br)
      have fu:Hid (NumOr br g3 (some (enc (val lx)))):=lH (by rw [hN];exact NumOr.aside4 gm aB.out.symm _ _ _ _)
      clear hN z0 o0 z1 o1 z2 o2 z3 o3 aw az ay ax
      refine hK.out _ _ (bZ.out) (fun hHeld=>?_)
      clear hK K
      try simp only [aP]
      refine dn ?_
      rw [iD.out]
      exact ⟨rfl,g3,g4,_,_,_,_,_,_,_,_,_,_,_,_,_,_,_,_,_,_,_,_,_,_,_,_,_,_,_,_,_,_,_,_,_,_,_,_,_,_,_,_,_,_,_,_,_,_,_,_,_,_,rfl,fu,fF,bZ⟩
     refine AllReadyH.cons (o:=⟨some 3,.alloc 67,0,_,_,none⟩) rfl (fun K hK=>?_) AllReadyH.nil
     obtain ⟨fL,hN⟩:∃ W,W=iw.alloc (.cells #[.int .u64 0,.int .u64 0,.int .u64 0,.int .u64 0] 67):=⟨_,rfl⟩
     go_simp
     rw [←hN]
     obtain ⟨g3,hg⟩:∃ g,g=iw.heap.size:=⟨_,rfl⟩
     rw [←hg]
     have iU:Hid (NumOr fL g3 none):=lH (by rw [hN,hg];exact NumOr.fresh _)
     have aJ:=lH (by rw [hN];exact aE.out.alloc aE.out.size _:Below w3.heap.size w3 fL)
     have gD:Hid (w3.heap.size≤g3):=lH (by rw [hg];exact aE.out.size)
     have aB:Hid (g4≠g3):=lH (by rw [hg];exact Nat.ne_of_lt gO.out.lt)
     have i4:Hid (NumOr fL g4 none):=lH (by rw [hN];exact NumOr.alloc gO _)
     clear hN hg
     refine hK.out _ _ (aJ.out) (fun hHeld=>?_)
     clear hK K
     try simp only [aP]
     refine rdy 5 ⟨some 33,.call ⟨ .value (.func 54),#[.tmp 32],#[24]⟩,67,_,_,none⟩ rfl (fun K hK=>?_)
     go_simp
     refine (enterN fL (il.out.under aJ) w3.heap.size cy Ay ly aJ.out.size (je.out.under aJ) jc iE Hy).mono ?_
     rintro e eg ⟨rfl,ab⟩
     have eT:=lH (aJ.out.trans (ab.mono aJ.out.size))
     have ic:Hid (NumOr eg g4 none):=lH (NumOr.under i4 ab)
     have eK:Hid (NumOr eg g3 none):=lH (NumOr.under iU ab)
     clear ab
     go_simp
     refine hK.out _ _ (eT.out) (fun hHeld=>?_)
     clear hK K
     try simp only [aP]
     refine rdy 8 ⟨none,.store 67 (.tmp 3) (.tmp 30),0,_,_,none⟩ rfl (fun K hK=>?_)
     obtain ⟨aw,az,ay,ax,⟨z0,o0⟩,⟨z1,o1⟩,⟨z2,o2⟩,⟨z3,o3⟩⟩:=NumOr.facts eK.out
     obtain ⟨aO,hN⟩:∃ W,W=((((eg.setCell ⟨g3,0,none⟩ (.int .u64 (x0:Int))).setCell ⟨g3,1,none⟩ (.int .u64 (x1:Int))).setCell ⟨g3,2,none⟩ (.int .u64 (x2:Int))).setCell ⟨g3,3,none⟩ (.int .u64 (x3:Int))):=⟨_,rfl⟩
     go_simp
     rw [←hN]
     have gu:Hid (NumOr aO g3 (some (enc (val lx)))):=lH (by rw [hN];exact NumOr.set eK Hx)
     have dY:=lH (by rw [hN];exact below4 eT gD _ _ _ _:Below w3.heap.size w3 aO)
     have dE:Hid (NumOr aO g4 none):=lH (by rw [hN];exact NumOr.aside4 ic aB _ _ _ _)
     clear hN z0 o0 z1 o1 z2 o2 z3 o3 aw az ay ax
     refine hK.out _ _ (dY.out) (fun hHeld=>?_)
     clear hK K
     try simp only [aP]
     refine rdy 9 ⟨none,.store 67 (.tmp 4) (.tmp 33),0,_,_,none⟩ rfl (fun K hK=>?_)
     obtain ⟨aw,az,ay,ax,⟨z0,o0⟩,⟨z1,o1⟩,⟨z2,o2⟩,⟨z3,o3⟩⟩:=NumOr.facts dE.out
     obtain ⟨bs,hN⟩:∃ W,W=((((aO.setCell ⟨g4,0,none⟩ (.int .u64 (y0:Int))).setCell ⟨g4,1,none⟩ (.int .u64 (y1:Int))).setCell ⟨g4,2,none⟩ (.int .u64 (y2:Int))).setCell ⟨g4,3,none⟩ (.int .u64 (y3:Int))):=⟨_,rfl⟩
     go_simp
     rw [←hN]
     have fD:Hid (NumOr bs g4 (some (enc (val ly)))):=lH (by rw [hN];exact NumOr.set dE Hy)
     have bU:=lH (by rw [hN];exact below4 dY gE _ _ _ _:Below w3.heap.size w3 bs)
     have fg:Hid (NumOr bs g3 (some (enc (val lx)))):=lH (by rw [hN];exact NumOr.aside4 gu aB.out.symm _ _ _ _)
     clear hN z0 o0 z1 o1 z2 o2 z3 o3 aw az ay ax
     refine hK.out _ _ (bU.out) (fun hHeld=>?_)
     clear hK K
     try simp only [aP]
     refine dn ?_
     rw [iD.out]
     exact ⟨rfl,g3,g4,_,_,_,_,_,_,_,_,_,_,_,_,_,_,_,_,_,_,_,_,_,_,_,_,_,_,_,_,_,_,_,_,_,_,_,_,_,_,_,_,_,_,_,_,_,_,_,_,_,_,rfl,fg,fD,bU⟩
    refine AllReadyH.cons (o:=⟨some 3,.alloc 67,0,_,_,none⟩) rfl (fun K hK=>?_) ?_
    ·obtain ⟨jZ,hN⟩:∃ W,W=V.alloc (.cells #[.int .u64 0,.int .u64 0,.int .u64 0,.int .u64 0] 67):=⟨_,rfl⟩
     go_simp
     rw [←hN]
     obtain ⟨g3,hg⟩:∃ g,g=V.heap.size:=⟨_,rfl⟩
     rw [←hg]
     have jg:Hid (NumOr jZ g3 none):=lH (by rw [hN,hg];exact NumOr.fresh _)
     have d8:=lH (by rw [hN];exact fb.out.alloc fb.out.size _:Below w3.heap.size w3 jZ)
     have gD:Hid (w3.heap.size≤g3):=lH (by rw [hg];exact fb.out.size)
     clear hN hg
     refine hK.out _ _ (d8.out) (fun hHeld=>?_)
     clear hK K
     try simp only [aP]
     refine wpAnyH_ready (rs:=[2,7]) (by kernel_rfl) (by simp) ?_
     refine AllReadyH.cons (o:=⟨some 30,.call ⟨ .value (.func 54),#[.tmp 29],#[24]⟩,67,_,_,none⟩) rfl (fun K hK=>?_) ?_
     ·go_simp
      refine (enterN jZ (il.out.under d8) w3.heap.size cx Ax lx d8.out.size (jR.out.under d8) kp jr Hx).mono ?_
      rintro e iH ⟨rfl,ab⟩
      have aF:=lH (d8.out.trans (ab.mono d8.out.size))
      have gJ:Hid (NumOr iH g3 none):=lH (NumOr.under jg ab)
      clear ab
      go_simp
      refine hK.out _ _ (aF.out) (fun hHeld=>?_)
      clear hK K
      try simp only [aP]
      refine wpAnyH_ready (rs:=[5,7]) (by kernel_rfl) (by simp) ?_
      refine AllReadyH.cons (o:=⟨some 33,.call ⟨ .value (.func 54),#[.tmp 32],#[24]⟩,67,_,_,none⟩) rfl (fun K hK=>?_) ?_
      ·go_simp
       refine (enterN iH (il.out.under aF) w3.heap.size cy Ay ly aF.out.size (je.out.under aF) jc iE Hy).mono ?_
       rintro e gR ⟨rfl,ab⟩
       have cK:=lH (aF.out.trans (ab.mono aF.out.size))
       have gF:Hid (NumOr gR g3 none):=lH (NumOr.under gJ ab)
       clear ab
       go_simp
       refine hK.out _ _ (cK.out) (fun hHeld=>?_)
       clear hK K
       try simp only [aP]
       refine rdy 7 ⟨some 4,.alloc 67,0,_,_,none⟩ rfl (fun K hK=>?_)
       obtain ⟨cD,hN⟩:∃ W,W=gR.alloc (.cells #[.int .u64 0,.int .u64 0,.int .u64 0,.int .u64 0] 67):=⟨_,rfl⟩
       go_simp
       rw [←hN]
       obtain ⟨g4,hg⟩:∃ g,g=gR.heap.size:=⟨_,rfl⟩
       rw [←hg]
       have id:Hid (NumOr cD g4 none):=lH (by rw [hN,hg];exact NumOr.fresh _)
       have eJ:=lH (by rw [hN];exact cK.out.alloc cK.out.size _:Below w3.heap.size w3 cD)
       have gE:Hid (w3.heap.size≤g4):=lH (by rw [hg];exact cK.out.size)
       have aC:Hid (g3≠g4):=lH (by rw [hg];exact Nat.ne_of_lt gF.out.lt)
       have eG:Hid (NumOr cD g3 none):=lH (by rw [hN];exact NumOr.alloc gF _)
       clear hN hg
       refine hK.out _ _ (eJ.out) (fun hHeld=>?_)
       clear hK K
       try simp only [aP]
       refine rdy 8 ⟨none,.store 67 (.tmp 3) (.tmp 30),0,_,_,none⟩ rfl (fun K hK=>?_)
       obtain ⟨aw,az,ay,ax,⟨z0,o0⟩,⟨z1,o1⟩,⟨z2,o2⟩,⟨z3,o3⟩⟩:=NumOr.facts eG.out
       obtain ⟨aX,hN⟩:∃ W,W=((((cD.setCell ⟨g3,0,none⟩ (.int .u64 (x0:Int))).setCell ⟨g3,1,none⟩ (.int .u64 (x1:Int))).setCell ⟨g3,2,none⟩ (.int .u64 (x2:Int))).setCell ⟨g3,3,none⟩ (.int .u64 (x3:Int))):=⟨_,rfl⟩
       go_simp
       rw [←hN]
       have gr:Hid (NumOr aX g3 (some (enc (val lx)))):=lH (by rw [hN];exact NumOr.set eG Hx)
       have dt:=lH (by rw [hN];exact below4 eJ gD _ _ _ _:Below w3.heap.size w3 aX)
       have ds:Hid (NumOr aX g4 none):=lH (by rw [hN];exact NumOr.aside4 id aC.out.symm _ _ _ _)
       clear hN z0 o0 z1 o1 z2 o2 z3 o3 aw az ay ax
       refine hK.out _ _ (dt.out) (fun hHeld=>?_)
       clear hK K
       try simp only [aP]
       refine rdy 9 ⟨none,.store 67 (.tmp 4) (.tmp 33),0,_,_,none⟩ rfl (fun K hK=>?_)
       obtain ⟨aw,az,ay,ax,⟨z0,o0⟩,⟨z1,o1⟩,⟨z2,o2⟩,⟨z3,o3⟩⟩:=NumOr.facts ds.out
       obtain ⟨bv,hN⟩:∃ W,W=((((aX.setCell ⟨g4,0,none⟩ (.int .u64 (y0:Int))).setCell ⟨g4,1,none⟩ (.int .u64 (y1:Int))).setCell ⟨g4,2,none⟩ (.int .u64 (y2:Int))).setCell ⟨g4,3,none⟩ (.int .u64 (y3:Int))):=⟨_,rfl⟩
       go_simp
       rw [←hN]
       have fv:Hid (NumOr bv g4 (some (enc (val ly)))):=lH (by rw [hN];exact NumOr.set ds Hy)
       have bQ:=lH (by rw [hN];exact below4 dt gE _ _ _ _:Below w3.heap.size w3 bv)
       have fH:Hid (NumOr bv g3 (some (enc (val lx)))):=lH (by rw [hN];exact NumOr.aside4 gr aC _ _ _ _)
       clear hN z0 o0 z1 o1 z2 o2 z3 o3 aw az ay ax
       refine hK.out _ _ (bQ.out) (fun hHeld=>?_)
       clear hK K
       try simp only [aP]
       refine dn ?_
       rw [iD.out]
       exact ⟨rfl,g3,g4,_,_,_,_,_,_,_,_,_,_,_,_,_,_,_,_,_,_,_,_,_,_,_,_,_,_,_,_,_,_,_,_,_,_,_,_,_,_,_,_,_,_,_,_,_,_,_,_,_,_,rfl,fH,fv,bQ⟩
      refine AllReadyH.cons (o:=⟨some 4,.alloc 67,0,_,_,none⟩) rfl (fun K hK=>?_) AllReadyH.nil
      obtain ⟨fO,hN⟩:∃ W,W=iH.alloc (.cells #[.int .u64 0,.int .u64 0,.int .u64 0,.int .u64 0] 67):=⟨_,rfl⟩
      go_simp
      rw [←hN]
      obtain ⟨g4,hg⟩:∃ g,g=iH.heap.size:=⟨_,rfl⟩
      rw [←hg]
      have iO:Hid (NumOr fO g4 none):=lH (by rw [hN,hg];exact NumOr.fresh _)
      have aH:=lH (by rw [hN];exact aF.out.alloc aF.out.size _:Below w3.heap.size w3 fO)
      have gE:Hid (w3.heap.size≤g4):=lH (by rw [hg];exact aF.out.size)
      have aC:Hid (g3≠g4):=lH (by rw [hg];exact Nat.ne_of_lt gJ.out.lt)
      have iR:Hid (NumOr fO g3 none):=lH (by rw [hN];exact NumOr.alloc gJ _)
      clear hN hg
      refine hK.out _ _ (aH.out) (fun hHeld=>?_)
      clear hK K
      try simp only [aP]
      refine rdy 5 ⟨some 33,.call ⟨ .value (.func 54),#[.tmp 32],#[24]⟩,67,_,_,none⟩ rfl (fun K hK=>?_)
      go_simp
      refine (enterN fO (il.out.under aH) w3.heap.size cy Ay ly aH.out.size (je.out.under aH) jc iE Hy).mono ?_
      rintro e ee ⟨rfl,ab⟩
      have e9:=lH (aH.out.trans (ab.mono aH.out.size))
      have eY:Hid (NumOr ee g3 none):=lH (NumOr.under iR ab)
      have gZ:Hid (NumOr ee g4 none):=lH (NumOr.under iO ab)
      clear ab
      go_simp
      refine hK.out _ _ (e9.out) (fun hHeld=>?_)
      clear hK K
      try simp only [aP]
      refine rdy 8 ⟨none,.store 67 (.tmp 3) (.tmp 30),0,_,_,none⟩ rfl (fun K hK=>?_)
      obtain ⟨aw,az,ay,ax,⟨z0,o0⟩,⟨z1,o1⟩,⟨z2,o2⟩,⟨z3,o3⟩⟩:=NumOr.facts eY.out
      obtain ⟨aW,hN⟩:∃ W,W=((((ee.setCell ⟨g3,0,none⟩ (.int .u64 (x0:Int))).setCell ⟨g3,1,none⟩ (.int .u64 (x1:Int))).setCell ⟨g3,2,none⟩ (.int .u64 (x2:Int))).setCell ⟨g3,3,none⟩ (.int .u64 (x3:Int))):=⟨_,rfl⟩
      go_simp
      rw [←hN]
      have fW:Hid (NumOr aW g3 (some (enc (val lx)))):=lH (by rw [hN];exact NumOr.set eY Hx)
      have dC:=lH (by rw [hN];exact below4 e9 gD _ _ _ _:Below w3.heap.size w3 aW)
      have dU:Hid (NumOr aW g4 none):=lH (by rw [hN];exact NumOr.aside4 gZ aC.out.symm _ _ _ _)
      clear hN z0 o0 z1 o1 z2 o2 z3 o3 aw az ay ax
      refine hK.out _ _ (dC.out) (fun hHeld=>?_)
      clear hK K
      try simp only [aP]
      refine rdy 9 ⟨none,.store 67 (.tmp 4) (.tmp 33),0,_,_,none⟩ rfl (fun K hK=>?_)
      obtain ⟨aw,az,ay,ax,⟨z0,o0⟩,⟨z1,o1⟩,⟨z2,o2⟩,⟨z3,o3⟩⟩:=NumOr.facts dU.out
      obtain ⟨bx,hN⟩:∃ W,W=((((aW.setCell ⟨g4,0,none⟩ (.int .u64 (y0:Int))).setCell ⟨g4,1,none⟩ (.int .u64 (y1:Int))).setCell ⟨g4,2,none⟩ (.int .u64 (y2:Int))).setCell ⟨g4,3,none⟩ (.int .u64 (y3:Int))):=⟨_,rfl⟩
      go_simp
      rw [←hN]
      have fj:Hid (NumOr bx g4 (some (enc (val ly)))):=lH (by rw [hN];exact NumOr.set dU Hy)
      have bT:=lH (by rw [hN];exact below4 dC gE _ _ _ _:Below w3.heap.size w3 bx)
      have fA:Hid (NumOr bx g3 (some (enc (val lx)))):=lH (by rw [hN];exact NumOr.aside4 fW aC _ _ _ _)
      clear hN z0 o0 z1 o1 z2 o2 z3 o3 aw az ay ax
      refine hK.out _ _ (bT.out) (fun hHeld=>?_)
      clear hK K
      try simp only [aP]
      refine dn ?_
      rw [iD.out]
      exact ⟨rfl,g3,g4,_,_,_,_,_,_,_,_,_,_,_,_,_,_,_,_,_,_,_,_,_,_,_,_,_,_,_,_,_,_,_,_,_,_,_,_,_,_,_,_,_,_,_,_,_,_,_,_,_,_,rfl,fA,fj,bT⟩
     refine AllReadyH.cons (o:=⟨some 4,.alloc 67,0,_,_,none⟩) rfl (fun K hK=>?_) AllReadyH.nil
     obtain ⟨iG,hN⟩:∃ W,W=jZ.alloc (.cells #[.int .u64 0,.int .u64 0,.int .u64 0,.int .u64 0] 67):=⟨_,rfl⟩
     go_simp
     rw [←hN]
     obtain ⟨g4,hg⟩:∃ g,g=jZ.heap.size:=⟨_,rfl⟩
     rw [←hg]
     have jp:Hid (NumOr iG g4 none):=lH (by rw [hN,hg];exact NumOr.fresh _)
     have cA:=lH (by rw [hN];exact d8.out.alloc d8.out.size _:Below w3.heap.size w3 iG)
     have gE:Hid (w3.heap.size≤g4):=lH (by rw [hg];exact d8.out.size)
     have aC:Hid (g3≠g4):=lH (by rw [hg];exact Nat.ne_of_lt jg.out.lt)
     have jq:Hid (NumOr iG g3 none):=lH (by rw [hN];exact NumOr.alloc jg _)
     clear hN hg
     refine hK.out _ _ (cA.out) (fun hHeld=>?_)
     clear hK K
     try simp only [aP]
     refine rdy 2 ⟨some 30,.call ⟨ .value (.func 54),#[.tmp 29],#[24]⟩,67,_,_,none⟩ rfl (fun K hK=>?_)
     go_simp
     refine (enterN iG (il.out.under cA) w3.heap.size cx Ax lx cA.out.size (jR.out.under cA) kp jr Hx).mono ?_
     rintro e gL ⟨rfl,ab⟩
     have aK:=lH (cA.out.trans (ab.mono cA.out.size))
     have iN:Hid (NumOr gL g3 none):=lH (NumOr.under jq ab)
     have i5:Hid (NumOr gL g4 none):=lH (NumOr.under jp ab)
     clear ab
     go_simp
     refine hK.out _ _ (aK.out) (fun hHeld=>?_)
     clear hK K
     try simp only [aP]
     refine rdy 5 ⟨some 33,.call ⟨ .value (.func 54),#[.tmp 32],#[24]⟩,67,_,_,none⟩ rfl (fun K hK=>?_)
     go_simp
     refine (enterN gL (il.out.under aK) w3.heap.size cy Ay ly aK.out.size (je.out.under aK) jc iE Hy).mono ?_
     rintro e ej ⟨rfl,ab⟩
     have eW:=lH (aK.out.trans (ab.mono aK.out.size))
     have eZ:Hid (NumOr ej g3 none):=lH (NumOr.under iN ab)
     have ia:Hid (NumOr ej g4 none):=lH (NumOr.under i5 ab)
     clear ab
     go_simp
     refine hK.out _ _ (eW.out) (fun hHeld=>?_)
     clear hK K
     try simp only [aP]
     refine rdy 8 ⟨none,.store 67 (.tmp 3) (.tmp 30),0,_,_,none⟩ rfl (fun K hK=>?_)
     obtain ⟨aw,az,ay,ax,⟨z0,o0⟩,⟨z1,o1⟩,⟨z2,o2⟩,⟨z3,o3⟩⟩:=NumOr.facts eZ.out
     obtain ⟨bc,hN⟩:∃ W,W=((((ej.setCell ⟨g3,0,none⟩ (.int .u64 (x0:Int))).setCell ⟨g3,1,none⟩ (.int .u64 (x1:Int))).setCell ⟨g3,2,none⟩ (.int .u64 (x2:Int))).setCell ⟨g3,3,none⟩ (.int .u64 (x3:Int))):=⟨_,rfl⟩
     go_simp
     rw [←hN]
     have f6:Hid (NumOr bc g3 (some (enc (val lx)))):=lH (by rw [hN];exact NumOr.set eZ Hx)
     have dR:=lH (by rw [hN];exact below4 eW gD _ _ _ _:Below w3.heap.size w3 bc)
     have dS:Hid (NumOr bc g4 none):=lH (by rw [hN];exact NumOr.aside4 ia aC.out.symm _ _ _ _)
     clear hN z0 o0 z1 o1 z2 o2 z3 o3 aw az ay ax
     refine hK.out _ _ (dR.out) (fun hHeld=>?_)
     clear hK K
     try simp only [aP]
     refine rdy 9 ⟨none,.store 67 (.tmp 4) (.tmp 33),0,_,_,none⟩ rfl (fun K hK=>?_)
     obtain ⟨aw,az,ay,ax,⟨z0,o0⟩,⟨z1,o1⟩,⟨z2,o2⟩,⟨z3,o3⟩⟩:=NumOr.facts dS.out
     obtain ⟨bu,hN⟩:∃ W,W=((((bc.setCell ⟨g4,0,none⟩ (.int .u64 (y0:Int))).setCell ⟨g4,1,none⟩ (.int .u64 (y1:Int))).setCell ⟨g4,2,none⟩ (.int .u64 (y2:Int))).setCell ⟨g4,3,none⟩ (.int .u64 (y3:Int))):=⟨_,rfl⟩
     go_simp
     rw [←hN]
     have fs:Hid (NumOr bu g4 (some (enc (val ly)))):=lH (by rw [hN];exact NumOr.set dS Hy)
     have bY:=lH (by rw [hN];exact below4 dR gE _ _ _ _:Below w3.heap.size w3 bu)
     have fi:Hid (NumOr bu g3 (some (enc (val lx)))):=lH (by rw [hN];exact NumOr.aside4 f6 aC _ _ _ _)
     clear hN z0 o0 z1 o1 z2 o2 z3 o3 aw az ay ax
     refine hK.out _ _ (bY.out) (fun hHeld=>?_)
     clear hK K
     try simp only [aP]
     refine dn ?_
     rw [iD.out]
     exact ⟨rfl,g3,g4,_,_,_,_,_,_,_,_,_,_,_,_,_,_,_,_,_,_,_,_,_,_,_,_,_,_,_,_,_,_,_,_,_,_,_,_,_,_,_,_,_,_,_,_,_,_,_,_,_,_,rfl,fi,fs,bY⟩
    refine AllReadyH.cons (o:=⟨some 4,.alloc 67,0,_,_,none⟩) rfl (fun K hK=>?_) AllReadyH.nil
    obtain ⟨jS,hN⟩:∃ W,W=V.alloc (.cells #[.int .u64 0,.int .u64 0,.int .u64 0,.int .u64 0] 67):=⟨_,rfl⟩
    go_simp
    rw [←hN]
    obtain ⟨g4,hg⟩:∃ g,g=V.heap.size:=⟨_,rfl⟩
    rw [←hg]
    have jh:Hid (NumOr jS g4 none):=lH (by rw [hN,hg];exact NumOr.fresh _)
    have d7:=lH (by rw [hN];exact fb.out.alloc fb.out.size _:Below w3.heap.size w3 jS)
    have gE:Hid (w3.heap.size≤g4):=lH (by rw [hg];exact fb.out.size)
    clear hN hg
    refine hK.out _ _ (d7.out) (fun hHeld=>?_)
    clear hK K
    try simp only [aP]
    refine wpAnyH_ready (rs:=[2,6]) (by kernel_rfl) (by simp) ?_
    refine AllReadyH.cons (o:=⟨some 30,.call ⟨ .value (.func 54),#[.tmp 29],#[24]⟩,67,_,_,none⟩) rfl (fun K hK=>?_) ?_
    ·go_simp
     refine (enterN jS (il.out.under d7) w3.heap.size cx Ax lx d7.out.size (jR.out.under d7) kp jr Hx).mono ?_
     rintro e iL ⟨rfl,ab⟩
     have aG:=lH (d7.out.trans (ab.mono d7.out.size))
     have gI:Hid (NumOr iL g4 none):=lH (NumOr.under jh ab)
     clear ab
     go_simp
     refine hK.out _ _ (aG.out) (fun hHeld=>?_)
     clear hK K
     try simp only [aP]
     refine wpAnyH_ready (rs:=[5,6]) (by kernel_rfl) (by simp) ?_
     refine AllReadyH.cons (o:=⟨some 33,.call ⟨ .value (.func 54),#[.tmp 32],#[24]⟩,67,_,_,none⟩) rfl (fun K hK=>?_) ?_
     ·go_simp
      refine (enterN iL (il.out.under aG) w3.heap.size cy Ay ly aG.out.size (je.out.under aG) jc iE Hy).mono ?_
      rintro e gS ⟨rfl,ab⟩
      have cB:=lH (aG.out.trans (ab.mono aG.out.size))
      have gC:Hid (NumOr gS g4 none):=lH (NumOr.under gI ab)
      clear ab
      go_simp
      refine hK.out _ _ (cB.out) (fun hHeld=>?_)
      clear hK K
      try simp only [aP]
      refine rdy 6 ⟨some 3,.alloc 67,0,_,_,none⟩ rfl (fun K hK=>?_)
      obtain ⟨cV,hN⟩:∃ W,W=gS.alloc (.cells #[.int .u64 0,.int .u64 0,.int .u64 0,.int .u64 0] 67):=⟨_,rfl⟩
      go_simp
      rw [←hN]
      obtain ⟨g3,hg⟩:∃ g,g=gS.heap.size:=⟨_,rfl⟩
      rw [←hg]
      have eE:Hid (NumOr cV g3 none):=lH (by rw [hN,hg];exact NumOr.fresh _)
      have e8:=lH (by rw [hN];exact cB.out.alloc cB.out.size _:Below w3.heap.size w3 cV)
      have gD:Hid (w3.heap.size≤g3):=lH (by rw [hg];exact cB.out.size)
      have aB:Hid (g4≠g3):=lH (by rw [hg];exact Nat.ne_of_lt gC.out.lt)
      have gU:Hid (NumOr cV g4 none):=lH (by rw [hN];exact NumOr.alloc gC _)
      clear hN hg
      refine hK.out _ _ (e8.out) (fun hHeld=>?_)
      clear hK K
      try simp only [aP]
      refine rdy 8 ⟨none,.store 67 (.tmp 3) (.tmp 30),0,_,_,none⟩ rfl (fun K hK=>?_)
      obtain ⟨aw,az,ay,ax,⟨z0,o0⟩,⟨z1,o1⟩,⟨z2,o2⟩,⟨z3,o3⟩⟩:=NumOr.facts eE.out
      obtain ⟨bk,hN⟩:∃ W,W=((((cV.setCell ⟨g3,0,none⟩ (.int .u64 (x0:Int))).setCell ⟨g3,1,none⟩ (.int .u64 (x1:Int))).setCell ⟨g3,2,none⟩ (.int .u64 (x2:Int))).setCell ⟨g3,3,none⟩ (.int .u64 (x3:Int))):=⟨_,rfl⟩
      go_simp
      rw [←hN]
      have fY:Hid (NumOr bk g3 (some (enc (val lx)))):=lH (by rw [hN];exact NumOr.set eE Hx)
      have dB:=lH (by rw [hN];exact below4 e8 gD _ _ _ _:Below w3.heap.size w3 bk)
      have dX:Hid (NumOr bk g4 none):=lH (by rw [hN];exact NumOr.aside4 gU aB _ _ _ _)
      clear hN z0 o0 z1 o1 z2 o2 z3 o3 aw az ay ax
      refine hK.out _ _ (dB.out) (fun hHeld=>?_)
      clear hK K
      try simp only [aP]
      refine rdy 9 ⟨none,.store 67 (.tmp 4) (.tmp 33),0,_,_,none⟩ rfl (fun K hK=>?_)
      obtain ⟨aw,az,ay,ax,⟨z0,o0⟩,⟨z1,o1⟩,⟨z2,o2⟩,⟨z3,o3⟩⟩:=NumOr.facts dX.out
      obtain ⟨bz,hN⟩:∃ W,W=((((bk.setCell ⟨g4,0,none⟩ (.int .u64 (y0:Int))).setCell ⟨g4,1,none⟩ (.int .u64 (y1:Int))).setCell ⟨g4,2,none⟩ (.int .u64 (y2:Int))).setCell ⟨g4,3,none⟩ (.int .u64 (y3:Int))):=⟨_,rfl⟩
      go_simp
      rw [←hN]
      have ft:Hid (NumOr bz g4 (some (enc (val ly)))):=lH (by rw [hN];exact NumOr.set dX Hy)
      have bV:=lH (by rw [hN];exact below4 dB gE _ _ _ _:Below w3.heap.size w3 bz)
      have fl:Hid (NumOr bz g3 (some (enc (val lx)))):=lH (by rw [hN];exact NumOr.aside4 fY aB.out.symm _ _ _ _)
      clear hN z0 o0 z1 o1 z2 o2 z3 o3 aw az ay ax
      refine hK.out _ _ (bV.out) (fun hHeld=>?_)
      clear hK K
      try simp only [aP]
      refine dn ?_
      rw [iD.out]
      exact ⟨rfl,g3,g4,_,_,_,_,_,_,_,_,_,_,_,_,_,_,_,_,_,_,_,_,_,_,_,_,_,_,_,_,_,_,_,_,_,_,_,_,_,_,_,_,_,_,_,_,_,_,_,_,_,_,rfl,fl,ft,bV⟩
     refine AllReadyH.cons (o:=⟨some 3,.alloc 67,0,_,_,none⟩) rfl (fun K hK=>?_) AllReadyH.nil
     obtain ⟨fP,hN⟩:∃ W,W=iL.alloc (.cells #[.int .u64 0,.int .u64 0,.int .u64 0,.int .u64 0] 67):=⟨_,rfl⟩
     go_simp
     rw [←hN]
     obtain ⟨g3,hg⟩:∃ g,g=iL.heap.size:=⟨_,rfl⟩
     rw [←hg]
     have iW:Hid (NumOr fP g3 none):=lH (by rw [hN,hg];exact NumOr.fresh _)
     have aM:=lH (by rw [hN];exact aG.out.alloc aG.out.size _:Below w3.heap.size w3 fP)
     have gD:Hid (w3.heap.size≤g3):=lH (by rw [hg];exact aG.out.size)
     have aB:Hid (g4≠g3):=lH (by rw [hg];exact Nat.ne_of_lt gI.out.lt)
     have i8:Hid (NumOr fP g4 none):=lH (by rw [hN];exact NumOr.alloc gI _)
     clear hN hg
     refine hK.out _ _ (aM.out) (fun hHeld=>?_)
     clear hK K
     try simp only [aP]
     refine rdy 5 ⟨some 33,.call ⟨ .value (.func 54),#[.tmp 32],#[24]⟩,67,_,_,none⟩ rfl (fun K hK=>?_)
     go_simp
     refine (enterN fP (il.out.under aM) w3.heap.size cy Ay ly aM.out.size (je.out.under aM) jc iE Hy).mono ?_
     rintro e ev ⟨rfl,ab⟩
     have eX:=lH (aM.out.trans (ab.mono aM.out.size))
     have hM:Hid (NumOr ev g4 none):=lH (NumOr.under i8 ab)
     have eH:Hid (NumOr ev g3 none):=lH (NumOr.under iW ab)
     clear ab
     go_simp
     refine hK.out _ _ (eX.out) (fun hHeld=>?_)
     clear hK K
     try simp only [aP]
     refine rdy 8 ⟨none,.store 67 (.tmp 3) (.tmp 30),0,_,_,none⟩ rfl (fun K hK=>?_)
     obtain ⟨aw,az,ay,ax,⟨z0,o0⟩,⟨z1,o1⟩,⟨z2,o2⟩,⟨z3,o3⟩⟩:=NumOr.facts eH.out
     obtain ⟨ba,hN⟩:∃ W,W=((((ev.setCell ⟨g3,0,none⟩ (.int .u64 (x0:Int))).setCell ⟨g3,1,none⟩ (.int .u64 (x1:Int))).setCell ⟨g3,2,none⟩ (.int .u64 (x2:Int))).setCell ⟨g3,3,none⟩ (.int .u64 (x3:Int))):=⟨_,rfl⟩
     go_simp
     rw [←hN]
     have fV:Hid (NumOr ba g3 (some (enc (val lx)))):=lH (by rw [hN];exact NumOr.set eH Hx)
     have du:=lH (by rw [hN];exact below4 eX gD _ _ _ _:Below w3.heap.size w3 ba)
     have dM:Hid (NumOr ba g4 none):=lH (by rw [hN];exact NumOr.aside4 hM aB _ _ _ _)
     clear hN z0 o0 z1 o1 z2 o2 z3 o3 aw az ay ax
     refine hK.out _ _ (du.out) (fun hHeld=>?_)
     clear hK K
     try simp only [aP]
     refine rdy 9 ⟨none,.store 67 (.tmp 4) (.tmp 33),0,_,_,none⟩ rfl (fun K hK=>?_)
     obtain ⟨aw,az,ay,ax,⟨z0,o0⟩,⟨z1,o1⟩,⟨z2,o2⟩,⟨z3,o3⟩⟩:=NumOr.facts dM.out
     obtain ⟨bD,hN⟩:∃ W,W=((((ba.setCell ⟨g4,0,none⟩ (.int .u64 (y0:Int))).setCell ⟨g4,1,none⟩ (.int .u64 (y1:Int))).setCell ⟨g4,2,none⟩ (.int .u64 (y2:Int))).setCell ⟨g4,3,none⟩ (.int .u64 (y3:Int))):=⟨_,rfl⟩
     go_simp
     rw [←hN]
     have fB:Hid (NumOr bD g4 (some (enc (val ly)))):=lH (by rw [hN];exact NumOr.set dM Hy)
     have bS:=lH (by rw [hN];exact below4 du gE _ _ _ _:Below w3.heap.size w3 bD)
     have fc:Hid (NumOr bD g3 (some (enc (val lx)))):=lH (by rw [hN];exact NumOr.aside4 fV aB.out.symm _ _ _ _)
     clear hN z0 o0 z1 o1 z2 o2 z3 o3 aw az ay ax
     refine hK.out _ _ (bS.out) (fun hHeld=>?_)
     clear hK K
     try simp only [aP]
     refine dn ?_
     rw [iD.out]
     exact ⟨rfl,g3,g4,_,_,_,_,_,_,_,_,_,_,_,_,_,_,_,_,_,_,_,_,_,_,_,_,_,_,_,_,_,_,_,_,_,_,_,_,_,_,_,_,_,_,_,_,_,_,_,_,_,_,rfl,fc,fB,bS⟩
    refine AllReadyH.cons (o:=⟨some 3,.alloc 67,0,_,_,none⟩) rfl (fun K hK=>?_) AllReadyH.nil
    obtain ⟨iK,hN⟩:∃ W,W=jS.alloc (.cells #[.int .u64 0,.int .u64 0,.int .u64 0,.int .u64 0] 67):=⟨_,rfl⟩
    go_simp
    rw [←hN]
    obtain ⟨g3,hg⟩:∃ g,g=jS.heap.size:=⟨_,rfl⟩
    rw [←hg]
    have jn:Hid (NumOr iK g3 none):=lH (by rw [hN,hg];exact NumOr.fresh _)
    have cW:=lH (by rw [hN];exact d7.out.alloc d7.out.size _:Below w3.heap.size w3 iK)
    have gD:Hid (w3.heap.size≤g3):=lH (by rw [hg];exact d7.out.size)
    have aB:Hid (g4≠g3):=lH (by rw [hg];exact Nat.ne_of_lt jh.out.lt)
    have jj:Hid (NumOr iK g4 none):=lH (by rw [hN];exact NumOr.alloc jh _)
    clear hN hg
    refine hK.out _ _ (cW.out) (fun hHeld=>?_)
    clear hK K
    try simp only [aP]
    refine rdy 2 ⟨some 30,.call ⟨ .value (.func 54),#[.tmp 29],#[24]⟩,67,_,_,none⟩ rfl (fun K hK=>?_)
    go_simp
    refine (enterN iK (il.out.under cW) w3.heap.size cx Ax lx cW.out.size (jR.out.under cW) kp jr Hx).mono ?_
    rintro e gQ ⟨rfl,ab⟩
    have aL:=lH (cW.out.trans (ab.mono cW.out.size))
    have i6:Hid (NumOr gQ g4 none):=lH (NumOr.under jj ab)
    have iT:Hid (NumOr gQ g3 none):=lH (NumOr.under jn ab)
    clear ab
    go_simp
    refine hK.out _ _ (aL.out) (fun hHeld=>?_)
    clear hK K
    try simp only [aP]
    refine rdy 5 ⟨some 33,.call ⟨ .value (.func 54),#[.tmp 32],#[24]⟩,67,_,_,none⟩ rfl (fun K hK=>?_)
    go_simp
    refine (enterN gQ (il.out.under aL) w3.heap.size cy Ay ly aL.out.size (je.out.under aL) jc iE Hy).mono ?_
    rintro e ep ⟨rfl,ab⟩
    have eM:=lH (aL.out.trans (ab.mono aL.out.size))
    have iA:Hid (NumOr ep g4 none):=lH (NumOr.under i6 ab)
    have eU:Hid (NumOr ep g3 none):=lH (NumOr.under iT ab)
    clear ab
    go_simp
    refine hK.out _ _ (eM.out) (fun hHeld=>?_)
    clear hK K
    try simp only [aP]
    refine rdy 8 ⟨none,.store 67 (.tmp 3) (.tmp 30),0,_,_,none⟩ rfl (fun K hK=>?_)
    obtain ⟨aw,az,ay,ax,⟨z0,o0⟩,⟨z1,o1⟩,⟨z2,o2⟩,⟨z3,o3⟩⟩:=NumOr.facts eU.out
    obtain ⟨aU,hN⟩:∃ W,W=((((ep.setCell ⟨g3,0,none⟩ (.int .u64 (x0:Int))).setCell ⟨g3,1,none⟩ (.int .u64 (x1:Int))).setCell ⟨g3,2,none⟩ (.int .u64 (x2:Int))).setCell ⟨g3,3,none⟩ (.int .u64 (x3:Int))):=⟨_,rfl⟩
    go_simp
    rw [←hN]
    have gj:Hid (NumOr aU g3 (some (enc (val lx)))):=lH (by rw [hN];exact NumOr.set eU Hx)
    have dW:=lH (by rw [hN];exact below4 eM gD _ _ _ _:Below w3.heap.size w3 aU)
    have dI:Hid (NumOr aU g4 none):=lH (by rw [hN];exact NumOr.aside4 iA aB _ _ _ _)
    clear hN z0 o0 z1 o1 z2 o2 z3 o3 aw az ay ax
    refine hK.out _ _ (dW.out) (fun hHeld=>?_)
    clear hK K
    try simp only [aP]
    refine rdy 9 ⟨none,.store 67 (.tmp 4) (.tmp 33),0,_,_,none⟩ rfl (fun K hK=>?_)
    obtain ⟨aw,az,ay,ax,⟨z0,o0⟩,⟨z1,o1⟩,⟨z2,o2⟩,⟨z3,o3⟩⟩:=NumOr.facts dI.out
    obtain ⟨bC,hN⟩:∃ W,W=((((aU.setCell ⟨g4,0,none⟩ (.int .u64 (y0:Int))).setCell ⟨g4,1,none⟩ (.int .u64 (y1:Int))).setCell ⟨g4,2,none⟩ (.int .u64 (y2:Int))).setCell ⟨g4,3,none⟩ (.int .u64 (y3:Int))):=⟨_,rfl⟩
    go_simp
    rw [←hN]
    have fE:Hid (NumOr bC g4 (some (enc (val ly)))):=lH (by rw [hN];exact NumOr.set dI Hy)
    have bP:=lH (by rw [hN];exact below4 dW gE _ _ _ _:Below w3.heap.size w3 bC)
    have fG:Hid (NumOr bC g3 (some (enc (val lx)))):=lH (by rw [hN];exact NumOr.aside4 gj aB.out.symm _ _ _ _)
    clear hN z0 o0 z1 o1 z2 o2 z3 o3 aw az ay ax
    refine hK.out _ _ (bP.out) (fun hHeld=>?_)
    clear hK K
    try simp only [aP]
    refine dn ?_
    rw [iD.out]
    exact ⟨rfl,g3,g4,_,_,_,_,_,_,_,_,_,_,_,_,_,_,_,_,_,_,_,_,_,_,_,_,_,_,_,_,_,_,_,_,_,_,_,_,_,_,_,_,_,_,_,_,_,_,_,_,_,_,rfl,fG,fE,bP⟩
end Go.Proofs.YtflfdglpljodbaaDoor
