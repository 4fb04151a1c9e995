/-
  The program: is it a point?
-/
import Derived.Test.YtflfdglpljodbaaDoorWBoxP
import Derived.Test.YtflfdglpljodbaaDoorWCvA
import Derived.ChangeKeysEq
import Derived.Deep.RegionLaw
import Derived.Deep.RegionHeld3
import Derived.Deep.DrawnRows
set_option maxRecDepth 100000
set_option maxHeartbeats 40000000
namespace Go.Proofs.YtflfdglpljodbaaDoor
open Go.RowKit
set_option linter.unusedVariables false
set_option linter.unusedSimpArgs false
theorem uL_enc:v64 uL=enc 1:=by rw [uL_val];unfold enc;rw [Nat.one_mul]
theorem nmD {X:Nat} {a b c d:Nat} (h:nm X=[a,b,c,d]):nv (nm X) = .agg #[.int .u64 (a:Int),.int .u64 (b:Int),.int .u64 (c:Int),.int .u64 (d:Int)]:=by unfold nv;rw [nv_of h]
theorem mulN (w:World) (hm:CMet w) (X Y:Nat) (hX:X<cP) (hY:Y<cP) {x0 x1 x2 x3 y0 y1 y2 y3 z0 z1 z2 z3:Nat} (hx:nm X=[x0,x1,x2,x3]) (hy:nm Y=[y0,y1,y2,y3]) (hz:nm (mm X Y)=[z0,z1,z2,z3]) :
  Calls Tryd.prog 56 #[.agg #[.int .u64 (x0:Int),.int .u64 (x1:Int),.int .u64 (x2:Int),.int .u64 (x3:Int)],.agg #[.int .u64 (y0:Int),.int .u64 (y1:Int),.int .u64 (y2:Int),.int .u64 (y3:Int)]] w fun e w'=>e = .returned (.agg #[.int .u64 (z0:Int),.int .u64 (z1:Int),.int .u64 (z2:Int),.int .u64 (z3:Int)])∧Below w.heap.size w w':=by
 have h:=mulF_any w hm (nm X) (nm Y) rfl rfl (nm_d X) (nm_d Y) (by rw [nm_val (Nat.lt_trans hY cP_cR)];exact hY)
 rw [nm_val (Nat.lt_trans hX cP_cR),nm_val (Nat.lt_trans hY cP_cR),nmD hx,nmD hy,nmD hz] at h
 exact h
theorem addN (w:World) (hm:CMet w) (X Y:Nat) (hX:X<cP) (hY:Y<cP) {x0 x1 x2 x3 y0 y1 y2 y3 z0 z1 z2 z3:Nat} (hx:nm X=[x0,x1,x2,x3]) (hy:nm Y=[y0,y1,y2,y3]) (hz:nm ((X+Y) % cP)=[z0,z1,z2,z3]) :
  Calls Tryd.prog 57 #[.agg #[.int .u64 (x0:Int),.int .u64 (x1:Int),.int .u64 (x2:Int),.int .u64 (x3:Int)],.agg #[.int .u64 (y0:Int),.int .u64 (y1:Int),.int .u64 (y2:Int),.int .u64 (y3:Int)]] w fun e w'=>e = .returned (.agg #[.int .u64 (z0:Int),.int .u64 (z1:Int),.int .u64 (z2:Int),.int .u64 (z3:Int)])∧Below w.heap.size w w':=by
 have h:=addF_any w hm (nm X) (nm Y) rfl rfl (nm_d X) (nm_d Y) (by rw [nm_val (Nat.lt_trans hX cP_cR)];exact hX) (by rw [nm_val (Nat.lt_trans hY cP_cR)];exact hY)
 rw [nm_val (Nat.lt_trans hX cP_cR),nm_val (Nat.lt_trans hY cP_cR),nmD hx,nmD hy,nmD hz] at h
 exact h
theorem subN (w:World) (hm:CMet w) (X Y:Nat) (hX:X<cP) (hY:Y<cP) {x0 x1 x2 x3 y0 y1 y2 y3 z0 z1 z2 z3:Nat} (hx:nm X=[x0,x1,x2,x3]) (hy:nm Y=[y0,y1,y2,y3]) (hz:nm ((X+(cP - Y)) % cP)=[z0,z1,z2,z3]) :
  Calls Tryd.prog 55 #[.agg #[.int .u64 (x0:Int),.int .u64 (x1:Int),.int .u64 (x2:Int),.int .u64 (x3:Int)],.agg #[.int .u64 (y0:Int),.int .u64 (y1:Int),.int .u64 (y2:Int),.int .u64 (y3:Int)]] w fun e w'=>e = .returned (.agg #[.int .u64 (z0:Int),.int .u64 (z1:Int),.int .u64 (z2:Int),.int .u64 (z3:Int)])∧Below w.heap.size w w':=by
 have h:=subF_any w hm (nm X) (nm Y) rfl rfl (nm_d X) (nm_d Y) (by rw [nm_val (Nat.lt_trans hX cP_cR)];exact hX) (by rw [nm_val (Nat.lt_trans hY cP_cR)];exact hY)
 rw [nm_val (Nat.lt_trans hX cP_cR),nm_val (Nat.lt_trans hY cP_cR),nmD hx,nmD hy,nmD hz] at h
 exact h
theorem enterN (w:World) (hm:CMet w) (B c:Nat) (A:Option Addr) (l:List Nat) (hB:B≤w.heap.size) (hrd:Rd .u32 w B A c l) (hl:l.length≤8) (hd:Dg l) {z0 z1 z2 z3:Nat} (hz:nm (enc (val l))=[z0,z1,z2,z3]) :
  Calls Tryd.prog 54 #[.slice A l.length c] w fun e w'=>e = .returned (.agg #[.int .u64 (z0:Int),.int .u64 (z1:Int),.int .u64 (z2:Int),.int .u64 (z3:Int)])∧Below w.heap.size w w':=by
 have h:=enter_any w hm B c A l hB hrd hl hd
 rw [enter_enc,nmD hz] at h
 exact h
def NumOr (w:World) (g:Nat) (o:Option Nat):Prop:=Holds w g 67 (match o with | some X=>nums .u64 (nm X) | none=>#[.int .u64 0,.int .u64 0,.int .u64 0,.int .u64 0])
theorem NumOr.lt {w:World} {g:Nat} {o:Option Nat} (h:NumOr w g o):g<w.heap.size:=Holds.lt h
theorem NumOr.under {w w':World} {g:Nat} {o:Option Nat} (h:NumOr w g o) (hb:Below w.heap.size w w'):NumOr w' g o:=Holds.under h hb (Holds.lt h)
theorem NumOr.drew {w:World} {g:Nat} {o:Option Nat} (h:NumOr w g o):NumOr w.drew g o:=h
theorem NumOr.alloc {w:World} {g:Nat} {o:Option Nat} (h:NumOr w g o) (b:Obj):NumOr (w.alloc b) g o:=Holds.alloc h b
theorem NumOr.fresh (w:World):NumOr (w.alloc (.cells #[.int .u64 0,.int .u64 0,.int .u64 0,.int .u64 0] 67)) w.heap.size none:=Holds.fresh _ _ _
theorem NumOr.aside4 {w:World} {g k:Nat} {o:Option Nat} (h:NumOr w g o) (hne:g≠k) (p q r s:Value):NumOr ((((w.setCell ⟨k,0,none⟩ p).setCell ⟨k,1,none⟩ q).setCell ⟨k,2,none⟩ r).setCell ⟨k,3,none⟩ s) g o :=
 Holds.aside (Holds.aside (Holds.aside (Holds.aside h (p:=⟨k,0,none⟩) hne p) (p:=⟨k,1,none⟩) hne q) (p:=⟨k,2,none⟩) hne r) (p:=⟨k,3,none⟩) hne s
theorem NumOr.four {w:World} {g:Nat} {o:Option Nat} (h:NumOr w g o):∃ a b c d:Value,Holds w g 67 #[a,b,c,d]:=by
 cases o with
 | none=>exact ⟨_,_,_,_,h⟩
 | some X=>exact ⟨_,_,_,_,h⟩
theorem NumOr.facts {w:World} {g:Nat} {o:Option Nat} (h:NumOr w g o) :
  ∃ a b c d:Value,(w.cell? ⟨g,0,none⟩=some a∧w.frozen? ⟨g,0,none⟩=false)∧(w.cell? ⟨g,1,none⟩=some b∧w.frozen? ⟨g,1,none⟩=false)∧(w.cell? ⟨g,2,none⟩=some c∧w.frozen? ⟨g,2,none⟩=false)∧(w.cell? ⟨g,3,none⟩=some d∧w.frozen? ⟨g,3,none⟩=false):=by
 obtain ⟨a,b,c,d,hh⟩:=h.four
 exact ⟨a,b,c,d,⟨hh.cell 0,hh.open_ 0⟩,⟨hh.cell 1,hh.open_ 1⟩,⟨hh.cell 2,hh.open_ 2⟩,⟨hh.cell 3,hh.open_ 3⟩⟩
theorem NumOr.set {w:World} {g:Nat} {o:Option Nat} (h:NumOr w g o) {X x0 x1 x2 x3:Nat} (hx:nm X=[x0,x1,x2,x3]) :
  NumOr ((((w.setCell ⟨g,0,none⟩ (.int .u64 (x0:Int))).setCell ⟨g,1,none⟩ (.int .u64 (x1:Int))).setCell ⟨g,2,none⟩ (.int .u64 (x2:Int))).setCell ⟨g,3,none⟩ (.int .u64 (x3:Int))) g (some X):=by
 obtain ⟨a,b,c,d,hh⟩:=h.four
 show Holds _ g 67 (nums .u64 (nm X))
 rw [nv_of hx]
 exact set4 hh _ _ _ _
theorem NumOr.cells {w:World} {g X:Nat} (h:NumOr w g (some X)) {x0 x1 x2 x3:Nat} (hx:nm X=[x0,x1,x2,x3]) :
  w.cell? ⟨g,0,none⟩=some (.int .u64 (x0:Int))∧w.cell? ⟨g,1,none⟩=some (.int .u64 (x1:Int))∧w.cell? ⟨g,2,none⟩=some (.int .u64 (x2:Int))∧w.cell? ⟨g,3,none⟩=some (.int .u64 (x3:Int)):=by
 have h':Holds w g 67 (nums .u64 (nm X)):=h
 rw [nv_of hx] at h'
 exact ⟨h'.cell 0,h'.cell 1,h'.cell 2,h'.cell 3⟩
theorem u64_info:∃ i,Tryd.prog.info? 65 = some i:=Option.isSome_iff_exists.1 (show (Tryd.prog.info? 65).isSome=true by kernel_rfl)
theorem cells_u64:Tryd.prog.cellsOf 65 = 1:=by kernel_rfl
theorem eq_u64 (d:Nat) (W:World) (a b:Int):(Op.equalIn (d+1) 65 (.int .u64 a) (.int .u64 b)).run Tryd.prog W = .ok (a == b) W:=by
 simp [Op.equalIn,run_underlying Tryd.underlying65]
theorem plain_u64:Tryd.prog.plainKey 65 = true:=by kernel_rfl
theorem items_u64 (xs ys:Array Value) (j:Nat) (is:List Nat) (a b:Int) (r:Bool) (W:World) (hx:xs[j]?=some (.int .u64 a)) (hy:ys[j]?=some (.int .u64 b)) (h:(Op.eqItems 9999 65 1 xs ys is).run Tryd.prog W = .ok r W) :
  (Op.eqItems 9999 65 1 xs ys (j :: is)).run Tryd.prog W = .ok ((a == b) && r) W:=by
 have h1:(Go.part 65 xs (j*1)).run Tryd.prog W = .ok (.int .u64 a) W:=run_part_plain W plain_u64 (by rw [Nat.mul_one];exact hx)
 have h2:(Go.part 65 ys (j*1)).run Tryd.prog W = .ok (.int .u64 b) W:=run_part_plain W plain_u64 (by rw [Nat.mul_one];exact hy)
 have h3:=eq_u64 9998 W a b
 cases hab:(a == b)
 ·rw [hab] at h3
  simp only [Op.eqItems,Sem.run_bind,h1,h2,Result.andThen_ok,h3,Bool.not_false,if_true,Bool.false_and]
  rfl
 ·rw [hab] at h3
  simp only [Op.eqItems,Sem.run_bind,h1,h2,Result.andThen_ok,h3,Bool.not_true,Bool.false_eq_true,if_false,Bool.true_and,h]
theorem eqN (W:World) {X Y:Nat} (hX:X<cR) (hY:Y<cR) {x0 x1 x2 x3 y0 y1 y2 y3:Nat} (hx:nm X=[x0,x1,x2,x3]) (hy:nm Y=[y0,y1,y2,y3]) (v:Bool) (hv:v=decide (X=Y)) :
  (Op.equalIn 10000 67 (.agg #[.int .u64 (x0:Int),.int .u64 (x1:Int),.int .u64 (x2:Int),.int .u64 (x3:Int)]) (.agg #[.int .u64 (y0:Int),.int .u64 (y1:Int),.int .u64 (y2:Int),.int .u64 (y3:Int)])).run Tryd.prog W = .ok v W:=by
 obtain ⟨i,hi⟩:=u64_info
 refine (run_equalIn_array W 9999 _ _ Tryd.underlying67 hi).trans ?_
 rw [cells_u64]
 have h:=items_u64 #[.int .u64 (x0:Int),.int .u64 (x1:Int),.int .u64 (x2:Int),.int .u64 (x3:Int)] #[.int .u64 (y0:Int),.int .u64 (y1:Int),.int .u64 (y2:Int),.int .u64 (y3:Int)]
 have e:=h 0 [1,2,3] x0 y0 _ W rfl rfl (h 1 [2,3] x1 y1 _ W rfl rfl (h 2 [3] x2 y2 _ W rfl rfl (h 3 [] x3 y3 true W rfl rfl rfl)))
 refine (show _=_ from e).trans ?_
 congr 1
 rw [hv]
 have hXY:X=Y↔nm X=nm Y:=⟨fun h=>by rw [h],fun h=>by rw [←nm_val hX,←nm_val hY,h]⟩
 rw [Bool.eq_iff_iff,decide_eq_true_iff,hXY,hx,hy]
 simp only [Bool.and_eq_true,beq_iff_eq,Int.natCast_inj,List.cons.injEq,and_true]
theorem unit_cells {w:World} (h:CMet w) {x0 x1 x2 x3:Nat} (hx:nm (enc 1)=[x0,x1,x2,x3]) :
  w.cell? ⟨0,0,none⟩=some (.int .u64 (x0:Int))∧w.cell? ⟨0,1,none⟩=some (.int .u64 (x1:Int))∧w.cell? ⟨0,2,none⟩=some (.int .u64 (x2:Int))∧w.cell? ⟨0,3,none⟩=some (.int .u64 (x3:Int)):=by
 have e:uL=nm (enc 1):=nm_of (by unfold D64 uL;decide) rfl uL_enc
 have h':=h.2.2.2
 rw [e,hx] at h'
 exact ⟨h' 0 (by omega),h' 1 (by omega),h' 2 (by omega),h' 3 (by omega)⟩
theorem curveIs_any (w:World) (hm:CMet w) (Ax Ay:Option Addr) (cx cy:Nat) (lx ly:List Nat) (inf:Bool) (hx:Rd .u32 w w.heap.size Ax cx lx) (hy:Rd .u32 w w.heap.size Ay cy ly) (hdx:Dg lx) (hdy:Dg ly) :
  Calls Tryd.prog 19 #[.agg #[.slice Ax lx.length cx,.slice Ay ly.length cy,.bool inf]] w fun e w'=>e = .returned (.bool (ptOk lx ly inf))∧Below w.heap.size w w':=by
 obtain ⟨w1,hw1⟩:∃ W,W=w.alloc (.cells #[.slice Ax lx.length cx,.slice Ay ly.length cy,.bool inf] 26):=⟨_,rfl⟩
 have hBX:BoxAt w1 w.heap.size Ax lx.length cx Ay ly.length cy inf:=by rw [hw1];exact ⟨Holds.fresh w _ _⟩
 have hb:Below w.heap.size w w1:=by rw [hw1];exact (Below.refl _ _).alloc (Nat.le_refl _) _
 have hsz:w.heap.size<w1.heap.size:=by rw [hw1];simp
 have HBX:=lH hBX
 have HB:=lH hb
 have HW:=lH hw1
 have HX:=lH ((hx.under hb).more hb.size)
 have HY:=lH ((hy.under hb).more hb.size)
 have HDX:=lH hdx
 have HDY:=lH hdy
 have HM:=lH (hm.under hb)
 obtain ⟨b0,b1,b2⟩:=hBX.cells
 clear hBX hb hw1 hx hy hdx hdy hm
 cases inf
 case true =>
  have hXc:lx.length≤cx:=HX.out.1
  have hYc:ly.length≤cy:=HY.out.1
  by_cases e1:lx.length=0
  case neg =>
   have t1:decide ((lx.length:Int)=0)=false:=decide_eq_false (by omega)
   have HF:Hid (ptOk lx ly true=false):=lH (by unfold ptOk;simp [e1])
   go_enter Tryd.func19,Tryd.ntmps19
   go_wp2_with fail
   rw [←HW.out]
   go_wp2_with fail
   go_ret
   exact ⟨by rw [HF.out];rfl,HB.out⟩
  case pos =>
   have HF:Hid (ptOk lx ly true=((ly.length:Int) == 0)):=lH (by unfold ptOk;rw [if_pos rfl,decide_eq_true e1,Bool.true_and,Bool.eq_iff_iff,decide_eq_true_iff,beq_iff_eq];omega)
   go_enter Tryd.func19,Tryd.ntmps19
   go_wp2_with fail
   go_ret
   exact ⟨by rw [HF.out];rfl,(Below.refl _ _).alloc (Nat.le_refl _) _⟩
 case false =>
  cases hbx:blw lx
  case false =>
   have HBLX:=lH hbx
   have HF:Hid (ptOk lx ly false=false):=lH (by unfold ptOk;rw [hbx];simp)
   clear hbx
   go_enter Tryd.func19,Tryd.ntmps19
   go_wp2_with fail
   rw [←HW.out]
   go_wp2_with fail
   refine (below_any w1 Ax cx lx HX.out HDX.out).mono ?_
   rintro e w2 ⟨rfl,hb2⟩
   rw [HBLX.out]
   have HB2:=lH (HB.out.trans (hb2.mono HB.out.size))
   clear hb2 b0 b1 b2
   go_wp2_with fail
   go_ret
   exact ⟨by rw [HF.out];rfl,HB2.out⟩
  case true =>
   cases hby:blw ly
   case false =>
    have HBLX:=lH hbx
    have HBLY:=lH hby
    have HF:Hid (ptOk lx ly false=false):=lH (by unfold ptOk;rw [hbx,hby];simp)
    clear hbx hby
    go_enter Tryd.func19,Tryd.ntmps19
    go_wp2_with fail
    rw [←HW.out]
    go_wp2_with fail
    refine (below_any w1 Ax cx lx HX.out HDX.out).mono ?_
    rintro e w2 ⟨rfl,hb2⟩
    rw [HBLX.out]
    obtain ⟨b0',b1',b2'⟩:=(HBX.out.under hb2 hsz).cells
    have HY2:=lH ((HY.out.under hb2).more hb2.size)
    have HB2:=lH (HB.out.trans (hb2.mono HB.out.size))
    clear b0 b1 b2 hb2
    go_wp2_with fail
    refine (below_any w2 Ay cy ly HY2.out HDY.out).mono ?_
    rintro e w3 ⟨rfl,hb3⟩
    rw [HBLY.out]
    have HB3:=lH (HB2.out.trans (hb3.mono HB2.out.size))
    clear hb3 b0' b1' b2'
    go_wp2_with fail
    go_ret
    exact ⟨by rw [HF.out];rfl,HB3.out⟩
   case true =>
    have HBLX:=lH hbx
    have HBLY:=lH hby
    clear hbx hby
    go_enter Tryd.func19,Tryd.ntmps19
    go_wp2_with fail
    rw [←HW.out]
    go_wp2_with fail
    refine (below_any w1 Ax cx lx HX.out HDX.out).mono ?_
    rintro e w2 ⟨rfl,hb2⟩
    rw [HBLX.out]
    have HB2:=lH hb2
    obtain ⟨b0',b1',b2'⟩:=(HBX.out.under hb2 hsz).cells
    clear b0 b1 b2
    go_wp2_with fail
    refine (below_any w2 Ay cy ly ((HY.out.under hb2).more hb2.size) HDY.out).mono ?_
    rintro e w3 ⟨rfl,hb3⟩
    rw [HBLY.out]
    have HB3:=lH (hb2.trans (hb3.mono hb2.size))
    clear hb2 hb3 b0' b1' b2' HB2
    obtain ⟨b0,b1,b2⟩:=(HBX.out.under HB3.out hsz).cells
    go_wp2_with fail
    have HBX3:=lH (HBX.out.under HB3.out hsz)
    have HLT3:Hid (w.heap.size<w3.heap.size):=lH (Nat.lt_of_lt_of_le hsz HB3.out.size)
    have HM3:=lH (HM.out.under HB3.out)
    have HX3:=lH ((HX.out.under HB3.out).more HB3.out.size)
    have HY3:=lH ((HY.out.under HB3.out).more HB3.out.size)
    have HLX:=lH (blw_nrm HDX.out HBLX.out).2.2
    have HLY:=lH (blw_nrm HDY.out HBLY.out).2.2
    clear b0 b1 b2
    obtain ⟨x0,x1,x2,x3,hx⟩:=four (nm_len (enc (val lx)))
    have Hx:=lH hx
    clear hx
    obtain ⟨y0,y1,y2,y3,hy⟩:=four (nm_len (enc (val ly)))
    have Hy:=lH hy
    clear hy
    obtain ⟨QQ5,HQ5⟩:∃ Q:Exit→Act→World→Prop,Hid (Q=fun e a W=>e = .normal∧∃ (g3 g4:Nat) (u0 u5 u6 u7 u8 u9 u10 u11 u12 u13 u14 u15 u16 u17 u18 u19 u20 u21 u22 u23 u24 u25 u26 u27 u28 u29 u30 u31 u32 u33 u34 u35 u36 u37 u38 u39 u40 u41 u42 u43 u44 u45 u46 u47 u48 u49 u50 u51 u52 u53:Value),a={ tmps:=#[u0,.pointer (some ⟨w.heap.size,0,none⟩),.bool false,.pointer (some ⟨g3,0,none⟩),.pointer (some ⟨g4,0,none⟩),u5,u6,u7,u8,u9,u10,u11,u12,u13,u14,u15,u16,u17,u18,u19,u20,u21,u22,u23,u24,u25,u26,u27,u28,u29,u30,u31,u32,u33,u34,u35,u36,u37,u38,u39,u40,u41,u42,u43,u44,u45,u46,u47,u48,u49,u50,u51,u52,u53],defers:=[] }∧NumOr W g3 (some (enc (val lx)))∧NumOr W g4 (some (enc (val ly)))∧Below w3.heap.size w3 W):=⟨_,lH rfl⟩
    refine Code.wp_mono (Q:=QQ5) ?_ ?_
    focus
     rintro e a W4 hq
     rw [HQ5.out] at hq
     obtain ⟨rfl,g3,g4,u0,u5,u6,u7,u8,u9,u10,u11,u12,u13,u14,u15,u16,u17,u18,u19,u20,u21,u22,u23,u24,u25,u26,u27,u28,u29,u30,u31,u32,u33,u34,u35,u36,u37,u38,u39,u40,u41,u42,u43,u44,u45,u46,u47,u48,u49,u50,u51,u52,u53,rfl,h3,h4,hb4⟩:=hq
     clear HQ5
     have H3:=lH h3
     have H4:=lH h4
     have HB4:=lH (HB3.out.trans (hb4.mono HB3.out.size))
     have HM4:=lH (HM3.out.under hb4)
     clear h3 h4 hb4
     go_wp2_with fail
     obtain ⟨a0,a1,a2,a3,ha⟩:=four (nm_len (mm (enc (val lx)) (enc (val lx))))
     have Ha:=lH ha
     clear ha
     obtain ⟨b0,b1,b2,b3,hb⟩:=four (nm_len ((enc 1+enc 1) % cP))
     have Hb:=lH hb
     clear hb
     obtain ⟨c0,c1,c2,c3,hc⟩:=four (nm_len ((enc 1+(enc 1+enc 1) % cP) % cP))
     have Hc:=lH hc
     clear hc
     obtain ⟨d0,d1,d2,d3,hd⟩:=four (nm_len ((mm (enc (val lx)) (enc (val lx))+(cP - (enc 1+(enc 1+enc 1) % cP) % cP)) % cP))
     have Hd:=lH hd
     clear hd
     obtain ⟨e0,e1,e2,e3,he⟩:=four (nm_len (mm ((mm (enc (val lx)) (enc (val lx))+(cP - (enc 1+(enc 1+enc 1) % cP) % cP)) % cP) (enc (val lx))))
     have He:=lH he
     clear he
     obtain ⟨f0,f1,f2,f3,hf⟩:=four (nm_len (enc (val lB)))
     have Hf:=lH hf
     clear hf
     obtain ⟨r0,r1,r2,r3,hr⟩:=four (nm_len (rhsF (val lx)))
     have Hr:=lH hr
     clear hr
     obtain ⟨s0,s1,s2,s3,hs⟩:=four (nm_len (mm (enc (val ly)) (enc (val ly))))
     have Hs:=lH hs
     clear hs
     obtain ⟨u0,u1,u2,u3,hu⟩:=four (nm_len (enc 1))
     have Hu:=lH hu
     clear hu
     obtain ⟨v,hv⟩:∃ v,v=decide (mm (enc (val ly)) (enc (val ly))=rhsF (val lx)):=⟨_,rfl⟩
     have Hv:=lH hv
     clear hv
     obtain ⟨QQ6,HQ6⟩:∃ Q:Exit→Act→World→Prop,Hid (Q=fun e a W=>e = .normal∧∃ (g5:Nat) (u0 u6 u7 u8 u9 u10 u11 u12 u13 u14 u15 u16 u17 u18 u19 u20 u21 u22 u23 u24 u25 u26 u27 u28 u29 u30 u31 u32 u33 u34 u35 u36 u37 u38 u39 u40 u41 u42 u43 u44 u45 u46 u47 u48 u49 u50 u51 u52 u53:Value),a={ tmps:=#[u0,.pointer (some ⟨w.heap.size,0,none⟩),.bool false,.pointer (some ⟨g3,0,none⟩),.pointer (some ⟨g4,0,none⟩),.pointer (some ⟨g5,0,none⟩),u6,u7,u8,u9,u10,u11,u12,u13,u14,u15,u16,u17,u18,u19,u20,u21,u22,u23,u24,u25,u26,u27,u28,u29,u30,u31,u32,u33,u34,u35,u36,u37,u38,u39,u40,u41,u42,u43,u44,u45,u46,u47,u48,u49,u50,u51,u52,u53],defers:=[] }∧g4≠g5∧W4.heap.size≤g5∧NumOr W g3 (some (enc (val lx)))∧NumOr W g4 (some (enc (val ly)))∧NumOr W g5 (some ((mm (enc (val lx)) (enc (val lx))+(cP - (enc 1+(enc 1+enc 1) % cP) % cP)) % cP))∧Below W4.heap.size W4 W):=⟨_,lH rfl⟩
     refine Code.wp_mono (Q:=QQ6) ?_ ?_
     focus
      rintro e a W5 hq
      rw [HQ6.out] at hq
      obtain ⟨rfl,g5,u0,u6,u7,u8,u9,u10,u11,u12,u13,u14,u15,u16,u17,u18,u19,u20,u21,u22,u23,u24,u25,u26,u27,u28,u29,u30,u31,u32,u33,u34,u35,u36,u37,u38,u39,u40,u41,u42,u43,u44,u45,u46,u47,u48,u49,u50,u51,u52,u53,rfl,hne45,hle5,h3,h4,h5,hb5⟩:=hq
      clear HQ6
      have HNE:=lH hne45
      have HLE:=lH hle5
      clear hne45 hle5
      have HB54:=lH hb5
      have HB5:=lH (HB4.out.trans (hb5.mono HB4.out.size))
      have HM5:=lH (HM4.out.under hb5)
      have H45:=lH h4
      have H55:=lH h5
      have H35:=lH h3
      obtain ⟨p0,p1,p2,p3⟩:=h5.cells Hd.out
      obtain ⟨q0,q1,q2,q3⟩:=h3.cells Hx.out
      clear h3 h4 h5 hb5 H3 H4
      go_wp2_with fail
      refine (mulN W5 HM5.out ((mm (enc (val lx)) (enc (val lx))+(cP - (enc 1+(enc 1+enc 1) % cP) % cP)) % cP) (enc (val lx)) (Nat.mod_lt _ cP_pos) (enc_lt _) Hd.out Hx.out He.out).mono ?_
      rintro e W6 ⟨rfl,hb6⟩
      have HB6:=lH hb6
      clear hb6 p0 p1 p2 p3 q0 q1 q2 q3
      go_wp2_with fail
      refine (curveB_any W6).mono ?_
      rintro e W7 ⟨g,hg,rfl,hBr,hb7⟩
      have HB7:=lH (HB6.out.trans (hb7.mono HB6.out.size))
      have HE:=lH (enterN W7 (HM5.out.under HB7.out) W7.heap.size 8 (some ⟨g,0,none⟩) lB (Nat.le_refl _) (Eight.rd hBr rfl) (Nat.le_refl _) lB_ok.1 Hf.out)
      clear hBr hb7 hg HB6
      go_wp2_with fail
      refine HE.out.mono ?_
      rintro e W8 ⟨rfl,hb8⟩
      have HB8:=lH (HB7.out.trans (hb8.mono HB7.out.size))
      clear hb8 HE HB7
      go_wp2_with fail
      refine (addN W8 (HM5.out.under HB8.out) (mm ((mm (enc (val lx)) (enc (val lx))+(cP - (enc 1+(enc 1+enc 1) % cP) % cP)) % cP) (enc (val lx))) (enc (val lB)) (mm_lt _ _) (enc_lt _) He.out Hf.out Hr.out).mono ?_
      rintro e W9 ⟨rfl,hb9⟩
      have HB9:=lH (HB8.out.trans (hb9.mono HB8.out.size))
      have HLT5:Hid (w.heap.size≤g5):=lH (by have h1:=HLE.out;have h2:=HB.out.size;have h3:=HB4.out.size;omega)
      have H49:=lH (NumOr.under H45.out HB9.out)
      have H59:=lH (NumOr.under H55.out HB9.out)
      clear hb9 HB8
      obtain ⟨zv0,zv1,zv2,zv3,⟨z0,o0⟩,⟨z1,o1⟩,⟨z2,o2⟩,⟨z3,o3⟩⟩:=NumOr.facts H59.out
      obtain ⟨W6,hN⟩:∃ W,W=((((W9.setCell ⟨g5,0,none⟩ (.int .u64 (r0:Int))).setCell ⟨g5,1,none⟩ (.int .u64 (r1:Int))).setCell ⟨g5,2,none⟩ (.int .u64 (r2:Int))).setCell ⟨g5,3,none⟩ (.int .u64 (r3:Int))):=⟨_,rfl⟩
      have H56:Hid (NumOr W6 g5 (some (rhsF (val lx)))):=lH (by rw [hN];exact NumOr.set H59.out Hr.out)
      have H46:Hid (NumOr W6 g4 (some (enc (val ly)))):=lH (by rw [hN];exact NumOr.aside4 H49.out HNE.out _ _ _ _)
      have HS6:Hid (Below w.heap.size w W6):=lH (by rw [hN];exact below4 (HB.out.trans ((HB5.out.trans (HB9.out.mono HB5.out.size)).mono HB.out.size)) HLT5.out _ _ _ _)
      have HM6:Hid (CMet W6):=lH (by rw [hN];exact HM4.out.under (below4 (HB54.out.trans (HB9.out.mono HB54.out.size)) HLE.out _ _ _ _))
      go_wp2_with fail
      rw [←hN]
      clear hN z0 z1 z2 z3 o0 o1 o2 o3
      refine wp_region_noPanic ?_
      refine wp_region_held_drew (S:=fun W=>Below W6.heap.size W6 W) (by kernel_rfl) ((Below.refl _ W6).drew) (fun hHeld=>?_)
      obtain ⟨V,hV⟩:∃ W,W=W6.drew:=⟨_,rfl⟩
      rw [←hV]
      have HSV:Hid (Below W6.heap.size W6 V):=lH (by rw [hV];exact (Below.refl _ W6).drew)
      replace hHeld:(fun W=>Below W6.heap.size W6 W) V:=HSV.out
      clear hV
      refine tk 0 ⟨some 49,.load 67 (.tmp 4),67,_,_,none⟩ ?_ rfl ?_ hHeld ?_
      rotate_left 1
      ·(intro W hW;have hBC:=(NumOr.under H46.out hW).cells Hy.out;obtain ⟨b0,b1,b2,b3⟩:=hBC;(try dsimp only at hW);go_simp;try with_reducible rfl)
      try simp only [aP]
      refine tk 1 ⟨some 50,.load 67 (.tmp 4),67,_,_,none⟩ ?_ rfl ?_ hHeld ?_
      rotate_left 1
      ·(intro W hW;have hBC:=(NumOr.under H46.out hW).cells Hy.out;obtain ⟨b0,b1,b2,b3⟩:=hBC;(try dsimp only at hW);go_simp;try with_reducible rfl)
      try simp only [aP]
      refine tk 3 ⟨some 52,.load 67 (.tmp 5),67,_,_,none⟩ ?_ rfl ?_ hHeld ?_
      rotate_left 1
      ·(intro W hW;have hBC:=(NumOr.under H56.out hW).cells Hr.out;obtain ⟨b0,b1,b2,b3⟩:=hBC;(try dsimp only at hW);go_simp;try with_reducible rfl)
      try simp only [aP]
      refine rdy 2 ⟨some 51,.call ⟨ .value (.func 56),#[.tmp 49,.tmp 50],#[67,67]⟩,67,_,_,none⟩ rfl (fun K hK=>?_)
      go_simp
      refine (mulN V (HM6.out.under HSV.out) (enc (val ly)) (enc (val ly)) (enc_lt _) (enc_lt _) Hy.out Hy.out Hs.out).mono ?_
      rintro e V_2 ⟨rfl,hbN⟩
      have HSV_2:=lH (HSV.out.trans (hbN.mono HSV.out.size))
      clear hbN
      go_simp
      refine hK.out _ _ (HSV_2.out) (fun hHeld=>?_)
      clear hK K
      try simp only [aP]
      refine tk 4 ⟨some 53,.binOp .eql 67 (.tmp 51) (.tmp 52) 67,4,_,_,none⟩ ?_ rfl ?_ hHeld ?_
      rotate_left 1
      ·(intro W hW;have hEQ:=eqN W (Nat.lt_trans (mm_lt _ _) cP_cR) (Nat.lt_trans (Nat.mod_lt _ cP_pos) cP_cR) Hs.out Hr.out v Hv.out;(try dsimp only at hW);go_simp;try with_reducible rfl)
      try simp only [aP]
      refine tk 5 ⟨some 2,.assign (.tmp 53),4,_,_,none⟩ ?_ rfl ?_ hHeld ?_
      rotate_left 1
      ·(intro W hW;(try dsimp only at hW);go_simp;try with_reducible rfl)
      try simp only [aP]
      refine wpAnyH_done (by kernel_rfl) ?_ _
      refine NoPanic.normal ?_
      go_wp2_with fail
      go_ret
      refine ⟨?_,HS6.out.trans (HSV_2.out.mono HS6.out.size)⟩
      have hv:=Hv.out
      unfold ptOk
      rw [HBLX.out,HBLY.out,hv]
      simp only [Bool.false_eq_true,if_false,Bool.true_and,on_iff]
      rfl
     refine wp_region_noPanic ?_
     refine wp_region_held_drew (S:=fun W=>Below W4.heap.size W4 W) (by kernel_rfl) ((Below.refl _ W4).drew) (fun hHeld=>?_)
     obtain ⟨V,hV⟩:∃ W,W=W4.drew:=⟨_,rfl⟩
     rw [←hV]
     have HSV:Hid (Below W4.heap.size W4 V):=lH (by rw [hV];exact (Below.refl _ W4).drew)
     have H3V:Hid (NumOr V g3 (some (enc (val lx)))):=lH (by rw [hV];exact NumOr.drew H3.out)
     have H4V:Hid (NumOr V g4 (some (enc (val ly)))):=lH (by rw [hV];exact NumOr.drew H4.out)
     replace hHeld:(fun W=>Below W4.heap.size W4 W) V:=HSV.out
     clear hV
     refine tk 0 ⟨some 34,.load 67 (.tmp 3),67,_,_,none⟩ ?_ rfl ?_ hHeld ?_
     rotate_left 1
     ·(intro W hW;have hBC:=(NumOr.under H3.out hW).cells Hx.out;obtain ⟨b0,b1,b2,b3⟩:=hBC;(try dsimp only at hW);go_simp;try with_reducible rfl)
     try simp only [aP]
     refine tk 1 ⟨some 35,.load 67 (.tmp 3),67,_,_,none⟩ ?_ rfl ?_ hHeld ?_
     rotate_left 1
     ·(intro W hW;have hBC:=(NumOr.under H3.out hW).cells Hx.out;obtain ⟨b0,b1,b2,b3⟩:=hBC;(try dsimp only at hW);go_simp;try with_reducible rfl)
     try simp only [aP]
     refine tk 3 ⟨some 37,.load 67 (.global 0),67,_,_,none⟩ ?_ rfl ?_ hHeld ?_
     rotate_left 1
     ·(intro W hW;have hBC:=unit_cells (HM4.out.under hW) Hu.out;obtain ⟨b0,b1,b2,b3⟩:=hBC;(try dsimp only at hW);go_simp;try with_reducible rfl)
     try simp only [aP]
     refine tk 4 ⟨some 38,.load 67 (.global 0),67,_,_,none⟩ ?_ rfl ?_ hHeld ?_
     rotate_left 1
     ·(intro W hW;have hBC:=unit_cells (HM4.out.under hW) Hu.out;obtain ⟨b0,b1,b2,b3⟩:=hBC;(try dsimp only at hW);go_simp;try with_reducible rfl)
     try simp only [aP]
     refine tk 5 ⟨some 39,.load 67 (.global 0),67,_,_,none⟩ ?_ rfl ?_ hHeld ?_
     rotate_left 1
     ·(intro W hW;have hBC:=unit_cells (HM4.out.under hW) Hu.out;obtain ⟨b0,b1,b2,b3⟩:=hBC;(try dsimp only at hW);go_simp;try with_reducible rfl)
     try simp only [aP]
     refine wpAnyH_ready (rs:=[2,9]) (by kernel_rfl) (by simp) ?_
     refine AllReadyH.cons (o:=⟨some 36,.call ⟨ .value (.func 56),#[.tmp 34,.tmp 35],#[67,67]⟩,67,_,_,none⟩) rfl (fun K hK=>?_) ?_
     ·go_simp
      refine (mulN V (HM4.out.under HSV.out) (enc (val lx)) (enc (val lx)) (enc_lt _) (enc_lt _) Hx.out Hx.out Ha.out).mono ?_
      rintro e V_2 ⟨rfl,hbN⟩
      have HSV_2:=lH (HSV.out.trans (hbN.mono HSV.out.size))
      have H3V_2:Hid (NumOr V_2 g3 (some (enc (val lx)))):=lH (NumOr.under H3V.out hbN)
      have H4V_2:Hid (NumOr V_2 g4 (some (enc (val ly)))):=lH (NumOr.under H4V.out hbN)
      clear hbN
      go_simp
      refine hK.out _ _ (HSV_2.out) (fun hHeld=>?_)
      clear hK K
      try simp only [aP]
      refine wpAnyH_ready (rs:=[6,9]) (by kernel_rfl) (by simp) ?_
      refine AllReadyH.cons (o:=⟨some 40,.call ⟨ .value (.func 57),#[.tmp 38,.tmp 39],#[67,67]⟩,67,_,_,none⟩) rfl (fun K hK=>?_) ?_
      ·go_simp
       refine (addN V_2 (HM4.out.under HSV_2.out) (enc 1) (enc 1) (enc_lt _) (enc_lt _) Hu.out Hu.out Hb.out).mono ?_
       rintro e V_2_6 ⟨rfl,hbN⟩
       have HSV_2_6:=lH (HSV_2.out.trans (hbN.mono HSV_2.out.size))
       have H3V_2_6:Hid (NumOr V_2_6 g3 (some (enc (val lx)))):=lH (NumOr.under H3V_2.out hbN)
       have H4V_2_6:Hid (NumOr V_2_6 g4 (some (enc (val ly)))):=lH (NumOr.under H4V_2.out hbN)
       clear hbN
       go_simp
       refine hK.out _ _ (HSV_2_6.out) (fun hHeld=>?_)
       clear hK K
       try simp only [aP]
       refine wpAnyH_ready (rs:=[7,9]) (by kernel_rfl) (by simp) ?_
       refine AllReadyH.cons (o:=⟨some 41,.call ⟨ .value (.func 57),#[.tmp 37,.tmp 40],#[67,67]⟩,67,_,_,none⟩) rfl (fun K hK=>?_) ?_
       ·go_simp
        refine (addN V_2_6 (HM4.out.under HSV_2_6.out) (enc 1) ((enc 1+enc 1) % cP) (enc_lt _) (Nat.mod_lt _ cP_pos) Hu.out Hb.out Hc.out).mono ?_
        rintro e V_2_6_7 ⟨rfl,hbN⟩
        have HSV_2_6_7:=lH (HSV_2_6.out.trans (hbN.mono HSV_2_6.out.size))
        have H3V_2_6_7:Hid (NumOr V_2_6_7 g3 (some (enc (val lx)))):=lH (NumOr.under H3V_2_6.out hbN)
        have H4V_2_6_7:Hid (NumOr V_2_6_7 g4 (some (enc (val ly)))):=lH (NumOr.under H4V_2_6.out hbN)
        clear hbN
        go_simp
        refine hK.out _ _ (HSV_2_6_7.out) (fun hHeld=>?_)
        clear hK K
        try simp only [aP]
        refine wpAnyH_ready (rs:=[8,9]) (by kernel_rfl) (by simp) ?_
        refine AllReadyH.cons (o:=⟨some 42,.call ⟨ .value (.func 55),#[.tmp 36,.tmp 41],#[67,67]⟩,67,_,_,none⟩) rfl (fun K hK=>?_) ?_
        ·go_simp
         refine (subN V_2_6_7 (HM4.out.under HSV_2_6_7.out) (mm (enc (val lx)) (enc (val lx))) ((enc 1+(enc 1+enc 1) % cP) % cP) (mm_lt _ _) (Nat.mod_lt _ cP_pos) Ha.out Hc.out Hd.out).mono ?_
         rintro e V_2_6_7_8 ⟨rfl,hbN⟩
         have HSV_2_6_7_8:=lH (HSV_2_6_7.out.trans (hbN.mono HSV_2_6_7.out.size))
         have H3V_2_6_7_8:Hid (NumOr V_2_6_7_8 g3 (some (enc (val lx)))):=lH (NumOr.under H3V_2_6_7.out hbN)
         have H4V_2_6_7_8:Hid (NumOr V_2_6_7_8 g4 (some (enc (val ly)))):=lH (NumOr.under H4V_2_6_7.out hbN)
         clear hbN
         go_simp
         refine hK.out _ _ (HSV_2_6_7_8.out) (fun hHeld=>?_)
         clear hK K
         try simp only [aP]
         refine rdy 9 ⟨some 5,.alloc 67,0,_,_,none⟩ rfl (fun K hK=>?_)
         obtain ⟨V_2_6_7_8_9,hN⟩:∃ W,W=V_2_6_7_8.alloc (.cells #[.int .u64 0,.int .u64 0,.int .u64 0,.int .u64 0] 67):=⟨_,rfl⟩
         go_simp
         rw [←hN]
         obtain ⟨g5,hg⟩:∃ g,g=V_2_6_7_8.heap.size:=⟨_,rfl⟩
         rw [←hg]
         have H5V_2_6_7_8_9:Hid (NumOr V_2_6_7_8_9 g5 none):=lH (by rw [hN,hg];exact NumOr.fresh _)
         have HSV_2_6_7_8_9:=lH (by rw [hN];exact HSV_2_6_7_8.out.alloc HSV_2_6_7_8.out.size _:Below W4.heap.size W4 V_2_6_7_8_9)
         have HG5:Hid (W4.heap.size≤g5):=lH (by rw [hg];exact HSV_2_6_7_8.out.size)
         have HNE35:Hid (g3≠g5):=lH (by rw [hg];exact Nat.ne_of_lt H3V_2_6_7_8.out.lt)
         have HNE45:Hid (g4≠g5):=lH (by rw [hg];exact Nat.ne_of_lt H4V_2_6_7_8.out.lt)
         have H3V_2_6_7_8_9:Hid (NumOr V_2_6_7_8_9 g3 (some (enc (val lx)))):=lH (by rw [hN];exact NumOr.alloc H3V_2_6_7_8.out _)
         have H4V_2_6_7_8_9:Hid (NumOr V_2_6_7_8_9 g4 (some (enc (val ly)))):=lH (by rw [hN];exact NumOr.alloc H4V_2_6_7_8.out _)
         clear hN hg
         refine hK.out _ _ (HSV_2_6_7_8_9.out) (fun hHeld=>?_)
         clear hK K
         try simp only [aP]
         refine rdy 10 ⟨none,.store 67 (.tmp 5) (.tmp 42),0,_,_,none⟩ rfl (fun K hK=>?_)
         obtain ⟨zv0,zv1,zv2,zv3,⟨z0,o0⟩,⟨z1,o1⟩,⟨z2,o2⟩,⟨z3,o3⟩⟩:=NumOr.facts H5V_2_6_7_8_9.out
         obtain ⟨V_2_6_7_8_9_10,hN⟩:∃ W,W=((((V_2_6_7_8_9.setCell ⟨g5,0,none⟩ (.int .u64 (d0:Int))).setCell ⟨g5,1,none⟩ (.int .u64 (d1:Int))).setCell ⟨g5,2,none⟩ (.int .u64 (d2:Int))).setCell ⟨g5,3,none⟩ (.int .u64 (d3:Int))):=⟨_,rfl⟩
         go_simp
         rw [←hN]
         have H5V_2_6_7_8_9_10:Hid (NumOr V_2_6_7_8_9_10 g5 (some ((mm (enc (val lx)) (enc (val lx))+(cP - (enc 1+(enc 1+enc 1) % cP) % cP)) % cP))):=lH (by rw [hN];exact NumOr.set H5V_2_6_7_8_9.out Hd.out)
         have HSV_2_6_7_8_9_10:=lH (by rw [hN];exact below4 HSV_2_6_7_8_9.out HG5.out _ _ _ _:Below W4.heap.size W4 V_2_6_7_8_9_10)
         have H3V_2_6_7_8_9_10:Hid (NumOr V_2_6_7_8_9_10 g3 (some (enc (val lx)))):=lH (by rw [hN];exact NumOr.aside4 H3V_2_6_7_8_9.out HNE35.out _ _ _ _)
         have H4V_2_6_7_8_9_10:Hid (NumOr V_2_6_7_8_9_10 g4 (some (enc (val ly)))):=lH (by rw [hN];exact NumOr.aside4 H4V_2_6_7_8_9.out HNE45.out _ _ _ _)
         clear hN z0 o0 z1 o1 z2 o2 z3 o3 zv0 zv1 zv2 zv3
         refine hK.out _ _ (HSV_2_6_7_8_9_10.out) (fun hHeld=>?_)
         clear hK K
         try simp only [aP]
         refine wpAnyH_done (by kernel_rfl) ?_ _
         refine NoPanic.normal ?_
         rw [HQ6.out]
         exact ⟨rfl,g5,_,_,_,_,_,_,_,_,_,_,_,_,_,_,_,_,_,_,_,_,_,_,_,_,_,_,_,_,_,_,_,_,_,_,_,_,_,_,_,_,_,_,_,_,_,_,_,_,_,rfl,HNE45.out,HG5.out,H3V_2_6_7_8_9_10.out,H4V_2_6_7_8_9_10.out,H5V_2_6_7_8_9_10.out,HSV_2_6_7_8_9_10.out⟩
        refine AllReadyH.cons (o:=⟨some 5,.alloc 67,0,_,_,none⟩) rfl (fun K hK=>?_) AllReadyH.nil
        obtain ⟨V_2_6_7_9,hN⟩:∃ W,W=V_2_6_7.alloc (.cells #[.int .u64 0,.int .u64 0,.int .u64 0,.int .u64 0] 67):=⟨_,rfl⟩
        go_simp
        rw [←hN]
        obtain ⟨g5,hg⟩:∃ g,g=V_2_6_7.heap.size:=⟨_,rfl⟩
        rw [←hg]
        have H5V_2_6_7_9:Hid (NumOr V_2_6_7_9 g5 none):=lH (by rw [hN,hg];exact NumOr.fresh _)
        have HSV_2_6_7_9:=lH (by rw [hN];exact HSV_2_6_7.out.alloc HSV_2_6_7.out.size _:Below W4.heap.size W4 V_2_6_7_9)
        have HG5:Hid (W4.heap.size≤g5):=lH (by rw [hg];exact HSV_2_6_7.out.size)
        have HNE35:Hid (g3≠g5):=lH (by rw [hg];exact Nat.ne_of_lt H3V_2_6_7.out.lt)
        have HNE45:Hid (g4≠g5):=lH (by rw [hg];exact Nat.ne_of_lt H4V_2_6_7.out.lt)
        have H3V_2_6_7_9:Hid (NumOr V_2_6_7_9 g3 (some (enc (val lx)))):=lH (by rw [hN];exact NumOr.alloc H3V_2_6_7.out _)
        have H4V_2_6_7_9:Hid (NumOr V_2_6_7_9 g4 (some (enc (val ly)))):=lH (by rw [hN];exact NumOr.alloc H4V_2_6_7.out _)
        clear hN hg
        refine hK.out _ _ (HSV_2_6_7_9.out) (fun hHeld=>?_)
        clear hK K
        try simp only [aP]
        refine rdy 8 ⟨some 42,.call ⟨ .value (.func 55),#[.tmp 36,.tmp 41],#[67,67]⟩,67,_,_,none⟩ rfl (fun K hK=>?_)
        go_simp
        refine (subN V_2_6_7_9 (HM4.out.under HSV_2_6_7_9.out) (mm (enc (val lx)) (enc (val lx))) ((enc 1+(enc 1+enc 1) % cP) % cP) (mm_lt _ _) (Nat.mod_lt _ cP_pos) Ha.out Hc.out Hd.out).mono ?_
        rintro e V_2_6_7_9_8 ⟨rfl,hbN⟩
        have HSV_2_6_7_9_8:=lH (HSV_2_6_7_9.out.trans (hbN.mono HSV_2_6_7_9.out.size))
        have H3V_2_6_7_9_8:Hid (NumOr V_2_6_7_9_8 g3 (some (enc (val lx)))):=lH (NumOr.under H3V_2_6_7_9.out hbN)
        have H4V_2_6_7_9_8:Hid (NumOr V_2_6_7_9_8 g4 (some (enc (val ly)))):=lH (NumOr.under H4V_2_6_7_9.out hbN)
        have H5V_2_6_7_9_8:Hid (NumOr V_2_6_7_9_8 g5 none):=lH (NumOr.under H5V_2_6_7_9.out hbN)
        clear hbN
        go_simp
        refine hK.out _ _ (HSV_2_6_7_9_8.out) (fun hHeld=>?_)
        clear hK K
        try simp only [aP]
        refine rdy 10 ⟨none,.store 67 (.tmp 5) (.tmp 42),0,_,_,none⟩ rfl (fun K hK=>?_)
        obtain ⟨zv0,zv1,zv2,zv3,⟨z0,o0⟩,⟨z1,o1⟩,⟨z2,o2⟩,⟨z3,o3⟩⟩:=NumOr.facts H5V_2_6_7_9_8.out
        obtain ⟨V_2_6_7_9_8_10,hN⟩:∃ W,W=((((V_2_6_7_9_8.setCell ⟨g5,0,none⟩ (.int .u64 (d0:Int))).setCell ⟨g5,1,none⟩ (.int .u64 (d1:Int))).setCell ⟨g5,2,none⟩ (.int .u64 (d2:Int))).setCell ⟨g5,3,none⟩ (.int .u64 (d3:Int))):=⟨_,rfl⟩
        go_simp
        rw [←hN]
        have H5V_2_6_7_9_8_10:Hid (NumOr V_2_6_7_9_8_10 g5 (some ((mm (enc (val lx)) (enc (val lx))+(cP - (enc 1+(enc 1+enc 1) % cP) % cP)) % cP))):=lH (by rw [hN];exact NumOr.set H5V_2_6_7_9_8.out Hd.out)
        have HSV_2_6_7_9_8_10:=lH (by rw [hN];exact below4 HSV_2_6_7_9_8.out HG5.out _ _ _ _:Below W4.heap.size W4 V_2_6_7_9_8_10)
        have H3V_2_6_7_9_8_10:Hid (NumOr V_2_6_7_9_8_10 g3 (some (enc (val lx)))):=lH (by rw [hN];exact NumOr.aside4 H3V_2_6_7_9_8.out HNE35.out _ _ _ _)
        have H4V_2_6_7_9_8_10:Hid (NumOr V_2_6_7_9_8_10 g4 (some (enc (val ly)))):=lH (by rw [hN];exact NumOr.aside4 H4V_2_6_7_9_8.out HNE45.out _ _ _ _)
        clear hN z0 o0 z1 o1 z2 o2 z3 o3 zv0 zv1 zv2 zv3
        refine hK.out _ _ (HSV_2_6_7_9_8_10.out) (fun hHeld=>?_)
        clear hK K
        try simp only [aP]
        refine wpAnyH_done (by kernel_rfl) ?_ _
        refine NoPanic.normal ?_
        rw [HQ6.out]
        exact ⟨rfl,g5,_,_,_,_,_,_,_,_,_,_,_,_,_,_,_,_,_,_,_,_,_,_,_,_,_,_,_,_,_,_,_,_,_,_,_,_,_,_,_,_,_,_,_,_,_,_,_,_,_,rfl,HNE45.out,HG5.out,H3V_2_6_7_9_8_10.out,H4V_2_6_7_9_8_10.out,H5V_2_6_7_9_8_10.out,HSV_2_6_7_9_8_10.out⟩
       refine AllReadyH.cons (o:=⟨some 5,.alloc 67,0,_,_,none⟩) rfl (fun K hK=>?_) AllReadyH.nil
       obtain ⟨V_2_6_9,hN⟩:∃ W,W=V_2_6.alloc (.cells #[.int .u64 0,.int .u64 0,.int .u64 0,.int .u64 0] 67):=⟨_,rfl⟩
       go_simp
       rw [←hN]
       obtain ⟨g5,hg⟩:∃ g,g=V_2_6.heap.size:=⟨_,rfl⟩
       rw [←hg]
       have H5V_2_6_9:Hid (NumOr V_2_6_9 g5 none):=lH (by rw [hN,hg];exact NumOr.fresh _)
       have HSV_2_6_9:=lH (by rw [hN];exact HSV_2_6.out.alloc HSV_2_6.out.size _:Below W4.heap.size W4 V_2_6_9)
       have HG5:Hid (W4.heap.size≤g5):=lH (by rw [hg];exact HSV_2_6.out.size)
       have HNE35:Hid (g3≠g5):=lH (by rw [hg];exact Nat.ne_of_lt H3V_2_6.out.lt)
       have HNE45:Hid (g4≠g5):=lH (by rw [hg];exact Nat.ne_of_lt H4V_2_6.out.lt)
       have H3V_2_6_9:Hid (NumOr V_2_6_9 g3 (some (enc (val lx)))):=lH (by rw [hN];exact NumOr.alloc H3V_2_6.out _)
       have H4V_2_6_9:Hid (NumOr V_2_6_9 g4 (some (enc (val ly)))):=lH (by rw [hN];exact NumOr.alloc H4V_2_6.out _)
       clear hN hg
       refine hK.out _ _ (HSV_2_6_9.out) (fun hHeld=>?_)
       clear hK K
       try simp only [aP]
       refine rdy 7 ⟨some 41,.call ⟨ .value (.func 57),#[.tmp 37,.tmp 40],#[67,67]⟩,67,_,_,none⟩ rfl (fun K hK=>?_)
       go_simp
       refine (addN V_2_6_9 (HM4.out.under HSV_2_6_9.out) (enc 1) ((enc 1+enc 1) % cP) (enc_lt _) (Nat.mod_lt _ cP_pos) Hu.out Hb.out Hc.out).mono ?_
       rintro e V_2_6_9_7 ⟨rfl,hbN⟩
       have HSV_2_6_9_7:=lH (HSV_2_6_9.out.trans (hbN.mono HSV_2_6_9.out.size))
       have H3V_2_6_9_7:Hid (NumOr V_2_6_9_7 g3 (some (enc (val lx)))):=lH (NumOr.under H3V_2_6_9.out hbN)
       have H4V_2_6_9_7:Hid (NumOr V_2_6_9_7 g4 (some (enc (val ly)))):=lH (NumOr.under H4V_2_6_9.out hbN)
       have H5V_2_6_9_7:Hid (NumOr V_2_6_9_7 g5 none):=lH (NumOr.under H5V_2_6_9.out hbN)
       clear hbN
       go_simp
       refine hK.out _ _ (HSV_2_6_9_7.out) (fun hHeld=>?_)
       clear hK K
       try simp only [aP]
       refine rdy 8 ⟨some 42,.call ⟨ .value (.func 55),#[.tmp 36,.tmp 41],#[67,67]⟩,67,_,_,none⟩ rfl (fun K hK=>?_)
       go_simp
       refine (subN V_2_6_9_7 (HM4.out.under HSV_2_6_9_7.out) (mm (enc (val lx)) (enc (val lx))) ((enc 1+(enc 1+enc 1) % cP) % cP) (mm_lt _ _) (Nat.mod_lt _ cP_pos) Ha.out Hc.out Hd.out).mono ?_
       rintro e V_2_6_9_7_8 ⟨rfl,hbN⟩
       have HSV_2_6_9_7_8:=lH (HSV_2_6_9_7.out.trans (hbN.mono HSV_2_6_9_7.out.size))
       have H3V_2_6_9_7_8:Hid (NumOr V_2_6_9_7_8 g3 (some (enc (val lx)))):=lH (NumOr.under H3V_2_6_9_7.out hbN)
       have H4V_2_6_9_7_8:Hid (NumOr V_2_6_9_7_8 g4 (some (enc (val ly)))):=lH (NumOr.under H4V_2_6_9_7.out hbN)
       have H5V_2_6_9_7_8:Hid (NumOr V_2_6_9_7_8 g5 none):=lH (NumOr.under H5V_2_6_9_7.out hbN)
       clear hbN
       go_simp
       refine hK.out _ _ (HSV_2_6_9_7_8.out) (fun hHeld=>?_)
       clear hK K
       try simp only [aP]
       refine rdy 10 ⟨none,.store 67 (.tmp 5) (.tmp 42),0,_,_,none⟩ rfl (fun K hK=>?_)
       obtain ⟨zv0,zv1,zv2,zv3,⟨z0,o0⟩,⟨z1,o1⟩,⟨z2,o2⟩,⟨z3,o3⟩⟩:=NumOr.facts H5V_2_6_9_7_8.out
       obtain ⟨V_2_6_9_7_8_10,hN⟩:∃ W,W=((((V_2_6_9_7_8.setCell ⟨g5,0,none⟩ (.int .u64 (d0:Int))).setCell ⟨g5,1,none⟩ (.int .u64 (d1:Int))).setCell ⟨g5,2,none⟩ (.int .u64 (d2:Int))).setCell ⟨g5,3,none⟩ (.int .u64 (d3:Int))):=⟨_,rfl⟩
       go_simp
       rw [←hN]
       have H5V_2_6_9_7_8_10:Hid (NumOr V_2_6_9_7_8_10 g5 (some ((mm (enc (val lx)) (enc (val lx))+(cP - (enc 1+(enc 1+enc 1) % cP) % cP)) % cP))):=lH (by rw [hN];exact NumOr.set H5V_2_6_9_7_8.out Hd.out)
       have HSV_2_6_9_7_8_10:=lH (by rw [hN];exact below4 HSV_2_6_9_7_8.out HG5.out _ _ _ _:Below W4.heap.size W4 V_2_6_9_7_8_10)
       have H3V_2_6_9_7_8_10:Hid (NumOr V_2_6_9_7_8_10 g3 (some (enc (val lx)))):=lH (by rw [hN];exact NumOr.aside4 H3V_2_6_9_7_8.out HNE35.out _ _ _ _)
       have H4V_2_6_9_7_8_10:Hid (NumOr V_2_6_9_7_8_10 g4 (some (enc (val ly)))):=lH (by rw [hN];exact NumOr.aside4 H4V_2_6_9_7_8.out HNE45.out _ _ _ _)
       clear hN z0 o0 z1 o1 z2 o2 z3 o3 zv0 zv1 zv2 zv3
       refine hK.out _ _ (HSV_2_6_9_7_8_10.out) (fun hHeld=>?_)
       clear hK K
       try simp only [aP]
       refine wpAnyH_done (by kernel_rfl) ?_ _
       refine NoPanic.normal ?_
       rw [HQ6.out]
       exact ⟨rfl,g5,_,_,_,_,_,_,_,_,_,_,_,_,_,_,_,_,_,_,_,_,_,_,_,_,_,_,_,_,_,_,_,_,_,_,_,_,_,_,_,_,_,_,_,_,_,_,_,_,_,rfl,HNE45.out,HG5.out,H3V_2_6_9_7_8_10.out,H4V_2_6_9_7_8_10.out,H5V_2_6_9_7_8_10.out,HSV_2_6_9_7_8_10.out⟩
      refine AllReadyH.cons (o:=⟨some 5,.alloc 67,0,_,_,none⟩) rfl (fun K hK=>?_) AllReadyH.nil
      obtain ⟨V_2_9,hN⟩:∃ W,W=V_2.alloc (.cells #[.int .u64 0,.int .u64 0,.int .u64 0,.int .u64 0] 67):=⟨_,rfl⟩
      go_simp
      rw [←hN]
      obtain ⟨g5,hg⟩:∃ g,g=V_2.heap.size:=⟨_,rfl⟩
      rw [←hg]
      have H5V_2_9:Hid (NumOr V_2_9 g5 none):=lH (by rw [hN,hg];exact NumOr.fresh _)
      have HSV_2_9:=lH (by rw [hN];exact HSV_2.out.alloc HSV_2.out.size _:Below W4.heap.size W4 V_2_9)
      have HG5:Hid (W4.heap.size≤g5):=lH (by rw [hg];exact HSV_2.out.size)
      have HNE35:Hid (g3≠g5):=lH (by rw [hg];exact Nat.ne_of_lt H3V_2.out.lt)
      have HNE45:Hid (g4≠g5):=lH (by rw [hg];exact Nat.ne_of_lt H4V_2.out.lt)
      have H3V_2_9:Hid (NumOr V_2_9 g3 (some (enc (val lx)))):=lH (by rw [hN];exact NumOr.alloc H3V_2.out _)
      have H4V_2_9:Hid (NumOr V_2_9 g4 (some (enc (val ly)))):=lH (by rw [hN];exact NumOr.alloc H4V_2.out _)
      clear hN hg
      refine hK.out _ _ (HSV_2_9.out) (fun hHeld=>?_)
      clear hK K
      try simp only [aP]
      refine rdy 6 ⟨some 40,.call ⟨ .value (.func 57),#[.tmp 38,.tmp 39],#[67,67]⟩,67,_,_,none⟩ rfl (fun K hK=>?_)
      go_simp
      refine (addN V_2_9 (HM4.out.under HSV_2_9.out) (enc 1) (enc 1) (enc_lt _) (enc_lt _) Hu.out Hu.out Hb.out).mono ?_
      rintro e V_2_9_6 ⟨rfl,hbN⟩
      have HSV_2_9_6:=lH (HSV_2_9.out.trans (hbN.mono HSV_2_9.out.size))
      have H3V_2_9_6:Hid (NumOr V_2_9_6 g3 (some (enc (val lx)))):=lH (NumOr.under H3V_2_9.out hbN)
      have H4V_2_9_6:Hid (NumOr V_2_9_6 g4 (some (enc (val ly)))):=lH (NumOr.under H4V_2_9.out hbN)
      have H5V_2_9_6:Hid (NumOr V_2_9_6 g5 none):=lH (NumOr.under H5V_2_9.out hbN)
      clear hbN
      go_simp
      refine hK.out _ _ (HSV_2_9_6.out) (fun hHeld=>?_)
      clear hK K
      try simp only [aP]
      refine rdy 7 ⟨some 41,.call ⟨ .value (.func 57),#[.tmp 37,.tmp 40],#[67,67]⟩,67,_,_,none⟩ rfl (fun K hK=>?_)
      go_simp
      refine (addN V_2_9_6 (HM4.out.under HSV_2_9_6.out) (enc 1) ((enc 1+enc 1) % cP) (enc_lt _) (Nat.mod_lt _ cP_pos) Hu.out Hb.out Hc.out).mono ?_
      rintro e V_2_9_6_7 ⟨rfl,hbN⟩
      have HSV_2_9_6_7:=lH (HSV_2_9_6.out.trans (hbN.mono HSV_2_9_6.out.size))
      have H3V_2_9_6_7:Hid (NumOr V_2_9_6_7 g3 (some (enc (val lx)))):=lH (NumOr.under H3V_2_9_6.out hbN)
      have H4V_2_9_6_7:Hid (NumOr V_2_9_6_7 g4 (some (enc (val ly)))):=lH (NumOr.under H4V_2_9_6.out hbN)
      have H5V_2_9_6_7:Hid (NumOr V_2_9_6_7 g5 none):=lH (NumOr.under H5V_2_9_6.out hbN)
      clear hbN
      go_simp
      refine hK.out _ _ (HSV_2_9_6_7.out) (fun hHeld=>?_)
      clear hK K
      try simp only [aP]
      refine rdy 8 ⟨some 42,.call ⟨ .value (.func 55),#[.tmp 36,.tmp 41],#[67,67]⟩,67,_,_,none⟩ rfl (fun K hK=>?_)
      go_simp
      refine (subN V_2_9_6_7 (HM4.out.under HSV_2_9_6_7.out) (mm (enc (val lx)) (enc (val lx))) ((enc 1+(enc 1+enc 1) % cP) % cP) (mm_lt _ _) (Nat.mod_lt _ cP_pos) Ha.out Hc.out Hd.out).mono ?_
      rintro e V_2_9_6_7_8 ⟨rfl,hbN⟩
      have HSV_2_9_6_7_8:=lH (HSV_2_9_6_7.out.trans (hbN.mono HSV_2_9_6_7.out.size))
      have H3V_2_9_6_7_8:Hid (NumOr V_2_9_6_7_8 g3 (some (enc (val lx)))):=lH (NumOr.under H3V_2_9_6_7.out hbN)
      have H4V_2_9_6_7_8:Hid (NumOr V_2_9_6_7_8 g4 (some (enc (val ly)))):=lH (NumOr.under H4V_2_9_6_7.out hbN)
      have H5V_2_9_6_7_8:Hid (NumOr V_2_9_6_7_8 g5 none):=lH (NumOr.under H5V_2_9_6_7.out hbN)
      clear hbN
      go_simp
      refine hK.out _ _ (HSV_2_9_6_7_8.out) (fun hHeld=>?_)
      clear hK K
      try simp only [aP]
      refine rdy 10 ⟨none,.store 67 (.tmp 5) (.tmp 42),0,_,_,none⟩ rfl (fun K hK=>?_)
      obtain ⟨zv0,zv1,zv2,zv3,⟨z0,o0⟩,⟨z1,o1⟩,⟨z2,o2⟩,⟨z3,o3⟩⟩:=NumOr.facts H5V_2_9_6_7_8.out
      obtain ⟨V_2_9_6_7_8_10,hN⟩:∃ W,W=((((V_2_9_6_7_8.setCell ⟨g5,0,none⟩ (.int .u64 (d0:Int))).setCell ⟨g5,1,none⟩ (.int .u64 (d1:Int))).setCell ⟨g5,2,none⟩ (.int .u64 (d2:Int))).setCell ⟨g5,3,none⟩ (.int .u64 (d3:Int))):=⟨_,rfl⟩
      go_simp
      rw [←hN]
      have H5V_2_9_6_7_8_10:Hid (NumOr V_2_9_6_7_8_10 g5 (some ((mm (enc (val lx)) (enc (val lx))+(cP - (enc 1+(enc 1+enc 1) % cP) % cP)) % cP))):=lH (by rw [hN];exact NumOr.set H5V_2_9_6_7_8.out Hd.out)
      have HSV_2_9_6_7_8_10:=lH (by rw [hN];exact below4 HSV_2_9_6_7_8.out HG5.out _ _ _ _:Below W4.heap.size W4 V_2_9_6_7_8_10)
      have H3V_2_9_6_7_8_10:Hid (NumOr V_2_9_6_7_8_10 g3 (some (enc (val lx)))):=lH (by rw [hN];exact NumOr.aside4 H3V_2_9_6_7_8.out HNE35.out _ _ _ _)
      have H4V_2_9_6_7_8_10:Hid (NumOr V_2_9_6_7_8_10 g4 (some (enc (val ly)))):=lH (by rw [hN];exact NumOr.aside4 H4V_2_9_6_7_8.out HNE45.out _ _ _ _)
      clear hN z0 o0 z1 o1 z2 o2 z3 o3 zv0 zv1 zv2 zv3
      refine hK.out _ _ (HSV_2_9_6_7_8_10.out) (fun hHeld=>?_)
      clear hK K
      try simp only [aP]
      refine wpAnyH_done (by kernel_rfl) ?_ _
      refine NoPanic.normal ?_
      rw [HQ6.out]
      exact ⟨rfl,g5,_,_,_,_,_,_,_,_,_,_,_,_,_,_,_,_,_,_,_,_,_,_,_,_,_,_,_,_,_,_,_,_,_,_,_,_,_,_,_,_,_,_,_,_,_,_,_,_,_,rfl,HNE45.out,HG5.out,H3V_2_9_6_7_8_10.out,H4V_2_9_6_7_8_10.out,H5V_2_9_6_7_8_10.out,HSV_2_9_6_7_8_10.out⟩
     refine AllReadyH.cons (o:=⟨some 5,.alloc 67,0,_,_,none⟩) rfl (fun K hK=>?_) AllReadyH.nil
     obtain ⟨V_9,hN⟩:∃ W,W=V.alloc (.cells #[.int .u64 0,.int .u64 0,.int .u64 0,.int .u64 0] 67):=⟨_,rfl⟩
     go_simp
     rw [←hN]
     obtain ⟨g5,hg⟩:∃ g,g=V.heap.size:=⟨_,rfl⟩
     rw [←hg]
     have H5V_9:Hid (NumOr V_9 g5 none):=lH (by rw [hN,hg];exact NumOr.fresh _)
     have HSV_9:=lH (by rw [hN];exact HSV.out.alloc HSV.out.size _:Below W4.heap.size W4 V_9)
     have HG5:Hid (W4.heap.size≤g5):=lH (by rw [hg];exact HSV.out.size)
     have HNE35:Hid (g3≠g5):=lH (by rw [hg];exact Nat.ne_of_lt H3V.out.lt)
     have HNE45:Hid (g4≠g5):=lH (by rw [hg];exact Nat.ne_of_lt H4V.out.lt)
     have H3V_9:Hid (NumOr V_9 g3 (some (enc (val lx)))):=lH (by rw [hN];exact NumOr.alloc H3V.out _)
     have H4V_9:Hid (NumOr V_9 g4 (some (enc (val ly)))):=lH (by rw [hN];exact NumOr.alloc H4V.out _)
     clear hN hg
     refine hK.out _ _ (HSV_9.out) (fun hHeld=>?_)
     clear hK K
     try simp only [aP]
     refine rdy 2 ⟨some 36,.call ⟨ .value (.func 56),#[.tmp 34,.tmp 35],#[67,67]⟩,67,_,_,none⟩ rfl (fun K hK=>?_)
     go_simp
     refine (mulN V_9 (HM4.out.under HSV_9.out) (enc (val lx)) (enc (val lx)) (enc_lt _) (enc_lt _) Hx.out Hx.out Ha.out).mono ?_
     rintro e V_9_2 ⟨rfl,hbN⟩
     have HSV_9_2:=lH (HSV_9.out.trans (hbN.mono HSV_9.out.size))
     have H3V_9_2:Hid (NumOr V_9_2 g3 (some (enc (val lx)))):=lH (NumOr.under H3V_9.out hbN)
     have H4V_9_2:Hid (NumOr V_9_2 g4 (some (enc (val ly)))):=lH (NumOr.under H4V_9.out hbN)
     have H5V_9_2:Hid (NumOr V_9_2 g5 none):=lH (NumOr.under H5V_9.out hbN)
     clear hbN
     go_simp
     refine hK.out _ _ (HSV_9_2.out) (fun hHeld=>?_)
     clear hK K
     try simp only [aP]
     refine rdy 6 ⟨some 40,.call ⟨ .value (.func 57),#[.tmp 38,.tmp 39],#[67,67]⟩,67,_,_,none⟩ rfl (fun K hK=>?_)
     go_simp
     refine (addN V_9_2 (HM4.out.under HSV_9_2.out) (enc 1) (enc 1) (enc_lt _) (enc_lt _) Hu.out Hu.out Hb.out).mono ?_
     rintro e V_9_2_6 ⟨rfl,hbN⟩
     have HSV_9_2_6:=lH (HSV_9_2.out.trans (hbN.mono HSV_9_2.out.size))
     have H3V_9_2_6:Hid (NumOr V_9_2_6 g3 (some (enc (val lx)))):=lH (NumOr.under H3V_9_2.out hbN)
     have H4V_9_2_6:Hid (NumOr V_9_2_6 g4 (some (enc (val ly)))):=lH (NumOr.under H4V_9_2.out hbN)
     have H5V_9_2_6:Hid (NumOr V_9_2_6 g5 none):=lH (NumOr.under H5V_9_2.out hbN)
     clear hbN
     go_simp
     refine hK.out _ _ (HSV_9_2_6.out) (fun hHeld=>?_)
     clear hK K
     try simp only [aP]
     refine rdy 7 ⟨some 41,.call ⟨ .value (.func 57),#[.tmp 37,.tmp 40],#[67,67]⟩,67,_,_,none⟩ rfl (fun K hK=>?_)
     go_simp
     refine (addN V_9_2_6 (HM4.out.under HSV_9_2_6.out) (enc 1) ((enc 1+enc 1) % cP) (enc_lt _) (Nat.mod_lt _ cP_pos) Hu.out Hb.out Hc.out).mono ?_
     rintro e V_9_2_6_7 ⟨rfl,hbN⟩
     have HSV_9_2_6_7:=lH (HSV_9_2_6.out.trans (hbN.mono HSV_9_2_6.out.size))
     have H3V_9_2_6_7:Hid (NumOr V_9_2_6_7 g3 (some (enc (val lx)))):=lH (NumOr.under H3V_9_2_6.out hbN)
     have H4V_9_2_6_7:Hid (NumOr V_9_2_6_7 g4 (some (enc (val ly)))):=lH (NumOr.under H4V_9_2_6.out hbN)
     have H5V_9_2_6_7:Hid (NumOr V_9_2_6_7 g5 none):=lH (NumOr.under H5V_9_2_6.out hbN)
     clear hbN
     go_simp
     refine hK.out _ _ (HSV_9_2_6_7.out) (fun hHeld=>?_)
     clear hK K
     try simp only [aP]
     refine rdy 8 ⟨some 42,.call ⟨ .value (.func 55),#[.tmp 36,.tmp 41],#[67,67]⟩,67,_,_,none⟩ rfl (fun K hK=>?_)
     go_simp
     refine (subN V_9_2_6_7 (HM4.out.under HSV_9_2_6_7.out) (mm (enc (val lx)) (enc (val lx))) ((enc 1+(enc 1+enc 1) % cP) % cP) (mm_lt _ _) (Nat.mod_lt _ cP_pos) Ha.out Hc.out Hd.out).mono ?_
     rintro e V_9_2_6_7_8 ⟨rfl,hbN⟩
     have HSV_9_2_6_7_8:=lH (HSV_9_2_6_7.out.trans (hbN.mono HSV_9_2_6_7.out.size))
     have H3V_9_2_6_7_8:Hid (NumOr V_9_2_6_7_8 g3 (some (enc (val lx)))):=lH (NumOr.under H3V_9_2_6_7.out hbN)
     have H4V_9_2_6_7_8:Hid (NumOr V_9_2_6_7_8 g4 (some (enc (val ly)))):=lH (NumOr.under H4V_9_2_6_7.out hbN)
     have H5V_9_2_6_7_8:Hid (NumOr V_9_2_6_7_8 g5 none):=lH (NumOr.under H5V_9_2_6_7.out hbN)
     clear hbN
     go_simp
     refine hK.out _ _ (HSV_9_2_6_7_8.out) (fun hHeld=>?_)
     clear hK K
     try simp only [aP]
     refine rdy 10 ⟨none,.store 67 (.tmp 5) (.tmp 42),0,_,_,none⟩ rfl (fun K hK=>?_)
     obtain ⟨zv0,zv1,zv2,zv3,⟨z0,o0⟩,⟨z1,o1⟩,⟨z2,o2⟩,⟨z3,o3⟩⟩:=NumOr.facts H5V_9_2_6_7_8.out
     obtain ⟨V_9_2_6_7_8_10,hN⟩:∃ W,W=((((V_9_2_6_7_8.setCell ⟨g5,0,none⟩ (.int .u64 (d0:Int))).setCell ⟨g5,1,none⟩ (.int .u64 (d1:Int))).setCell ⟨g5,2,none⟩ (.int .u64 (d2:Int))).setCell ⟨g5,3,none⟩ (.int .u64 (d3:Int))):=⟨_,rfl⟩
     go_simp
     rw [←hN]
     have H5V_9_2_6_7_8_10:Hid (NumOr V_9_2_6_7_8_10 g5 (some ((mm (enc (val lx)) (enc (val lx))+(cP - (enc 1+(enc 1+enc 1) % cP) % cP)) % cP))):=lH (by rw [hN];exact NumOr.set H5V_9_2_6_7_8.out Hd.out)
     have HSV_9_2_6_7_8_10:=lH (by rw [hN];exact below4 HSV_9_2_6_7_8.out HG5.out _ _ _ _:Below W4.heap.size W4 V_9_2_6_7_8_10)
     have H3V_9_2_6_7_8_10:Hid (NumOr V_9_2_6_7_8_10 g3 (some (enc (val lx)))):=lH (by rw [hN];exact NumOr.aside4 H3V_9_2_6_7_8.out HNE35.out _ _ _ _)
     have H4V_9_2_6_7_8_10:Hid (NumOr V_9_2_6_7_8_10 g4 (some (enc (val ly)))):=lH (by rw [hN];exact NumOr.aside4 H4V_9_2_6_7_8.out HNE45.out _ _ _ _)
     clear hN z0 o0 z1 o1 z2 o2 z3 o3 zv0 zv1 zv2 zv3
     refine hK.out _ _ (HSV_9_2_6_7_8_10.out) (fun hHeld=>?_)
     clear hK K
     try simp only [aP]
     refine wpAnyH_done (by kernel_rfl) ?_ _
     refine NoPanic.normal ?_
     rw [HQ6.out]
     exact ⟨rfl,g5,_,_,_,_,_,_,_,_,_,_,_,_,_,_,_,_,_,_,_,_,_,_,_,_,_,_,_,_,_,_,_,_,_,_,_,_,_,_,_,_,_,_,_,_,_,_,_,_,_,rfl,HNE45.out,HG5.out,H3V_9_2_6_7_8_10.out,H4V_9_2_6_7_8_10.out,H5V_9_2_6_7_8_10.out,HSV_9_2_6_7_8_10.out⟩
    refine wp_region_noPanic ?_
    refine wp_region_held_drew (S:=fun W=>Below w3.heap.size w3 W) (by kernel_rfl) ((Below.refl _ w3).drew) (fun hHeld=>?_)
    obtain ⟨V,hV⟩:∃ W,W=w3.drew:=⟨_,rfl⟩
    rw [←hV]
    have HSV:Hid (Below w3.heap.size w3 V):=lH (by rw [hV];exact (Below.refl _ w3).drew)
    replace hHeld:(fun W=>Below w3.heap.size w3 W) V:=HSV.out
    clear hV
    refine tk 0 ⟨some 28,.fieldAddr 26 (.tmp 1) 0,0,_,_,none⟩ ?_ rfl ?_ hHeld ?_
    rotate_left 1
    ·(intro W hW;(try dsimp only at hW);go_simp;try with_reducible rfl)
    try simp only [aP]
    refine tk 1 ⟨some 29,.load 24 (.tmp 28),24,_,_,none⟩ ?_ rfl ?_ hHeld ?_
    rotate_left 1
    ·(intro W hW;have hBC:=(HBX3.out.under hW HLT3.out).cells;obtain ⟨b0,b1,b2⟩:=hBC;(try dsimp only at hW);go_simp;try with_reducible rfl)
    try simp only [aP]
    refine tk 3 ⟨some 31,.fieldAddr 26 (.tmp 1) 1,0,_,_,none⟩ ?_ rfl ?_ hHeld ?_
    rotate_left 1
    ·(intro W hW;(try dsimp only at hW);go_simp;try with_reducible rfl)
    try simp only [aP]
    refine tk 4 ⟨some 32,.load 24 (.tmp 31),24,_,_,none⟩ ?_ rfl ?_ hHeld ?_
    rotate_left 1
    ·(intro W hW;have hBC:=(HBX3.out.under hW HLT3.out).cells;obtain ⟨b0,b1,b2⟩:=hBC;(try dsimp only at hW);go_simp;try with_reducible rfl)
    try simp only [aP]
    refine wpAnyH_ready (rs:=[2,6,7]) (by kernel_rfl) (by simp) ?_
    refine AllReadyH.cons (o:=⟨some 30,.call ⟨ .value (.func 54),#[.tmp 29],#[24]⟩,67,_,_,none⟩) rfl (fun K hK=>?_) ?_
    ·go_simp
     refine (enterN V (HM3.out.under HSV.out) w3.heap.size cx Ax lx HSV.out.size (HX3.out.under HSV.out) HLX.out HDX.out Hx.out).mono ?_
     rintro e V_2 ⟨rfl,hbN⟩
     have HSV_2:=lH (HSV.out.trans (hbN.mono HSV.out.size))
     clear hbN
     go_simp
     refine hK.out _ _ (HSV_2.out) (fun hHeld=>?_)
     clear hK K
     try simp only [aP]
     refine wpAnyH_ready (rs:=[5,6,7]) (by kernel_rfl) (by simp) ?_
     refine AllReadyH.cons (o:=⟨some 33,.call ⟨ .value (.func 54),#[.tmp 32],#[24]⟩,67,_,_,none⟩) rfl (fun K hK=>?_) ?_
     ·go_simp
      refine (enterN V_2 (HM3.out.under HSV_2.out) w3.heap.size cy Ay ly HSV_2.out.size (HY3.out.under HSV_2.out) HLY.out HDY.out Hy.out).mono ?_
      rintro e V_2_5 ⟨rfl,hbN⟩
      have HSV_2_5:=lH (HSV_2.out.trans (hbN.mono HSV_2.out.size))
      clear hbN
      go_simp
      refine hK.out _ _ (HSV_2_5.out) (fun hHeld=>?_)
      clear hK K
      try simp only [aP]
      refine wpAnyH_ready (rs:=[6,7]) (by kernel_rfl) (by simp) ?_
      refine AllReadyH.cons (o:=⟨some 3,.alloc 67,0,_,_,none⟩) rfl (fun K hK=>?_) ?_
      ·obtain ⟨V_2_5_6,hN⟩:∃ W,W=V_2_5.alloc (.cells #[.int .u64 0,.int .u64 0,.int .u64 0,.int .u64 0] 67):=⟨_,rfl⟩
       go_simp
       rw [←hN]
       obtain ⟨g3,hg⟩:∃ g,g=V_2_5.heap.size:=⟨_,rfl⟩
       rw [←hg]
       have H3V_2_5_6:Hid (NumOr V_2_5_6 g3 none):=lH (by rw [hN,hg];exact NumOr.fresh _)
       have HSV_2_5_6:=lH (by rw [hN];exact HSV_2_5.out.alloc HSV_2_5.out.size _:Below w3.heap.size w3 V_2_5_6)
       have HG3:Hid (w3.heap.size≤g3):=lH (by rw [hg];exact HSV_2_5.out.size)
       clear hN hg
       refine hK.out _ _ (HSV_2_5_6.out) (fun hHeld=>?_)
       clear hK K
       try simp only [aP]
       refine rdy 7 ⟨some 4,.alloc 67,0,_,_,none⟩ rfl (fun K hK=>?_)
       obtain ⟨V_2_5_6_7,hN⟩:∃ W,W=V_2_5_6.alloc (.cells #[.int .u64 0,.int .u64 0,.int .u64 0,.int .u64 0] 67):=⟨_,rfl⟩
       go_simp
       rw [←hN]
       obtain ⟨g4,hg⟩:∃ g,g=V_2_5_6.heap.size:=⟨_,rfl⟩
       rw [←hg]
       have H4V_2_5_6_7:Hid (NumOr V_2_5_6_7 g4 none):=lH (by rw [hN,hg];exact NumOr.fresh _)
       have HSV_2_5_6_7:=lH (by rw [hN];exact HSV_2_5_6.out.alloc HSV_2_5_6.out.size _:Below w3.heap.size w3 V_2_5_6_7)
       have HG4:Hid (w3.heap.size≤g4):=lH (by rw [hg];exact HSV_2_5_6.out.size)
       have HNE34:Hid (g3≠g4):=lH (by rw [hg];exact Nat.ne_of_lt H3V_2_5_6.out.lt)
       have H3V_2_5_6_7:Hid (NumOr V_2_5_6_7 g3 none):=lH (by rw [hN];exact NumOr.alloc H3V_2_5_6.out _)
       clear hN hg
       refine hK.out _ _ (HSV_2_5_6_7.out) (fun hHeld=>?_)
       clear hK K
       try simp only [aP]
       refine rdy 8 ⟨none,.store 67 (.tmp 3) (.tmp 30),0,_,_,none⟩ rfl (fun K hK=>?_)
       obtain ⟨zv0,zv1,zv2,zv3,⟨z0,o0⟩,⟨z1,o1⟩,⟨z2,o2⟩,⟨z3,o3⟩⟩:=NumOr.facts H3V_2_5_6_7.out
       obtain ⟨V_2_5_6_7_8,hN⟩:∃ W,W=((((V_2_5_6_7.setCell ⟨g3,0,none⟩ (.int .u64 (x0:Int))).setCell ⟨g3,1,none⟩ (.int .u64 (x1:Int))).setCell ⟨g3,2,none⟩ (.int .u64 (x2:Int))).setCell ⟨g3,3,none⟩ (.int .u64 (x3:Int))):=⟨_,rfl⟩
       go_simp
       rw [←hN]
       have H3V_2_5_6_7_8:Hid (NumOr V_2_5_6_7_8 g3 (some (enc (val lx)))):=lH (by rw [hN];exact NumOr.set H3V_2_5_6_7.out Hx.out)
       have HSV_2_5_6_7_8:=lH (by rw [hN];exact below4 HSV_2_5_6_7.out HG3.out _ _ _ _:Below w3.heap.size w3 V_2_5_6_7_8)
       have H4V_2_5_6_7_8:Hid (NumOr V_2_5_6_7_8 g4 none):=lH (by rw [hN];exact NumOr.aside4 H4V_2_5_6_7.out HNE34.out.symm _ _ _ _)
       clear hN z0 o0 z1 o1 z2 o2 z3 o3 zv0 zv1 zv2 zv3
       refine hK.out _ _ (HSV_2_5_6_7_8.out) (fun hHeld=>?_)
       clear hK K
       try simp only [aP]
       refine rdy 9 ⟨none,.store 67 (.tmp 4) (.tmp 33),0,_,_,none⟩ rfl (fun K hK=>?_)
       obtain ⟨zv0,zv1,zv2,zv3,⟨z0,o0⟩,⟨z1,o1⟩,⟨z2,o2⟩,⟨z3,o3⟩⟩:=NumOr.facts H4V_2_5_6_7_8.out
       obtain ⟨V_2_5_6_7_8_9,hN⟩:∃ W,W=((((V_2_5_6_7_8.setCell ⟨g4,0,none⟩ (.int .u64 (y0:Int))).setCell ⟨g4,1,none⟩ (.int .u64 (y1:Int))).setCell ⟨g4,2,none⟩ (.int .u64 (y2:Int))).setCell ⟨g4,3,none⟩ (.int .u64 (y3:Int))):=⟨_,rfl⟩
       go_simp
       rw [←hN]
       have H4V_2_5_6_7_8_9:Hid (NumOr V_2_5_6_7_8_9 g4 (some (enc (val ly)))):=lH (by rw [hN];exact NumOr.set H4V_2_5_6_7_8.out Hy.out)
       have HSV_2_5_6_7_8_9:=lH (by rw [hN];exact below4 HSV_2_5_6_7_8.out HG4.out _ _ _ _:Below w3.heap.size w3 V_2_5_6_7_8_9)
       have H3V_2_5_6_7_8_9:Hid (NumOr V_2_5_6_7_8_9 g3 (some (enc (val lx)))):=lH (by rw [hN];exact NumOr.aside4 H3V_2_5_6_7_8.out HNE34.out _ _ _ _)
       clear hN z0 o0 z1 o1 z2 o2 z3 o3 zv0 zv1 zv2 zv3
       refine hK.out _ _ (HSV_2_5_6_7_8_9.out) (fun hHeld=>?_)
       clear hK K
       try simp only [aP]
       refine wpAnyH_done (by kernel_rfl) ?_ _
       refine NoPanic.normal ?_
       rw [HQ5.out]
       exact ⟨rfl,g3,g4,_,_,_,_,_,_,_,_,_,_,_,_,_,_,_,_,_,_,_,_,_,_,_,_,_,_,_,_,_,_,_,_,_,_,_,_,_,_,_,_,_,_,_,_,_,_,_,_,_,_,rfl,H3V_2_5_6_7_8_9.out,H4V_2_5_6_7_8_9.out,HSV_2_5_6_7_8_9.out⟩
      refine AllReadyH.cons (o:=⟨some 4,.alloc 67,0,_,_,none⟩) rfl (fun K hK=>?_) AllReadyH.nil
      obtain ⟨V_2_5_7,hN⟩:∃ W,W=V_2_5.alloc (.cells #[.int .u64 0,.int .u64 0,.int .u64 0,.int .u64 0] 67):=⟨_,rfl⟩
      go_simp
      rw [←hN]
      obtain ⟨g4,hg⟩:∃ g,g=V_2_5.heap.size:=⟨_,rfl⟩
      rw [←hg]
      have H4V_2_5_7:Hid (NumOr V_2_5_7 g4 none):=lH (by rw [hN,hg];exact NumOr.fresh _)
      have HSV_2_5_7:=lH (by rw [hN];exact HSV_2_5.out.alloc HSV_2_5.out.size _:Below w3.heap.size w3 V_2_5_7)
      have HG4:Hid (w3.heap.size≤g4):=lH (by rw [hg];exact HSV_2_5.out.size)
      clear hN hg
      refine hK.out _ _ (HSV_2_5_7.out) (fun hHeld=>?_)
      clear hK K
      try simp only [aP]
      refine rdy 6 ⟨some 3,.alloc 67,0,_,_,none⟩ rfl (fun K hK=>?_)
      obtain ⟨V_2_5_7_6,hN⟩:∃ W,W=V_2_5_7.alloc (.cells #[.int .u64 0,.int .u64 0,.int .u64 0,.int .u64 0] 67):=⟨_,rfl⟩
      go_simp
      rw [←hN]
      obtain ⟨g3,hg⟩:∃ g,g=V_2_5_7.heap.size:=⟨_,rfl⟩
      rw [←hg]
      have H3V_2_5_7_6:Hid (NumOr V_2_5_7_6 g3 none):=lH (by rw [hN,hg];exact NumOr.fresh _)
      have HSV_2_5_7_6:=lH (by rw [hN];exact HSV_2_5_7.out.alloc HSV_2_5_7.out.size _:Below w3.heap.size w3 V_2_5_7_6)
      have HG3:Hid (w3.heap.size≤g3):=lH (by rw [hg];exact HSV_2_5_7.out.size)
      have HNE43:Hid (g4≠g3):=lH (by rw [hg];exact Nat.ne_of_lt H4V_2_5_7.out.lt)
      have H4V_2_5_7_6:Hid (NumOr V_2_5_7_6 g4 none):=lH (by rw [hN];exact NumOr.alloc H4V_2_5_7.out _)
      clear hN hg
      refine hK.out _ _ (HSV_2_5_7_6.out) (fun hHeld=>?_)
      clear hK K
      try simp only [aP]
      refine rdy 8 ⟨none,.store 67 (.tmp 3) (.tmp 30),0,_,_,none⟩ rfl (fun K hK=>?_)
      obtain ⟨zv0,zv1,zv2,zv3,⟨z0,o0⟩,⟨z1,o1⟩,⟨z2,o2⟩,⟨z3,o3⟩⟩:=NumOr.facts H3V_2_5_7_6.out
      obtain ⟨V_2_5_7_6_8,hN⟩:∃ W,W=((((V_2_5_7_6.setCell ⟨g3,0,none⟩ (.int .u64 (x0:Int))).setCell ⟨g3,1,none⟩ (.int .u64 (x1:Int))).setCell ⟨g3,2,none⟩ (.int .u64 (x2:Int))).setCell ⟨g3,3,none⟩ (.int .u64 (x3:Int))):=⟨_,rfl⟩
      go_simp
      rw [←hN]
      have H3V_2_5_7_6_8:Hid (NumOr V_2_5_7_6_8 g3 (some (enc (val lx)))):=lH (by rw [hN];exact NumOr.set H3V_2_5_7_6.out Hx.out)
      have HSV_2_5_7_6_8:=lH (by rw [hN];exact below4 HSV_2_5_7_6.out HG3.out _ _ _ _:Below w3.heap.size w3 V_2_5_7_6_8)
      have H4V_2_5_7_6_8:Hid (NumOr V_2_5_7_6_8 g4 none):=lH (by rw [hN];exact NumOr.aside4 H4V_2_5_7_6.out HNE43.out _ _ _ _)
      clear hN z0 o0 z1 o1 z2 o2 z3 o3 zv0 zv1 zv2 zv3
      refine hK.out _ _ (HSV_2_5_7_6_8.out) (fun hHeld=>?_)
      clear hK K
      try simp only [aP]
      refine rdy 9 ⟨none,.store 67 (.tmp 4) (.tmp 33),0,_,_,none⟩ rfl (fun K hK=>?_)
      obtain ⟨zv0,zv1,zv2,zv3,⟨z0,o0⟩,⟨z1,o1⟩,⟨z2,o2⟩,⟨z3,o3⟩⟩:=NumOr.facts H4V_2_5_7_6_8.out
      obtain ⟨V_2_5_7_6_8_9,hN⟩:∃ W,W=((((V_2_5_7_6_8.setCell ⟨g4,0,none⟩ (.int .u64 (y0:Int))).setCell ⟨g4,1,none⟩ (.int .u64 (y1:Int))).setCell ⟨g4,2,none⟩ (.int .u64 (y2:Int))).setCell ⟨g4,3,none⟩ (.int .u64 (y3:Int))):=⟨_,rfl⟩
      go_simp
      rw [←hN]
      have H4V_2_5_7_6_8_9:Hid (NumOr V_2_5_7_6_8_9 g4 (some (enc (val ly)))):=lH (by rw [hN];exact NumOr.set H4V_2_5_7_6_8.out Hy.out)
      have HSV_2_5_7_6_8_9:=lH (by rw [hN];exact below4 HSV_2_5_7_6_8.out HG4.out _ _ _ _:Below w3.heap.size w3 V_2_5_7_6_8_9)
      have H3V_2_5_7_6_8_9:Hid (NumOr V_2_5_7_6_8_9 g3 (some (enc (val lx)))):=lH (by rw [hN];exact NumOr.aside4 H3V_2_5_7_6_8.out HNE43.out.symm _ _ _ _)
      clear hN z0 o0 z1 o1 z2 o2 z3 o3 zv0 zv1 zv2 zv3
      refine hK.out _ _ (HSV_2_5_7_6_8_9.out) (fun hHeld=>?_)
      clear hK K
      try simp only [aP]
      refine wpAnyH_done (by kernel_rfl) ?_ _
      refine NoPanic.normal ?_
      rw [HQ5.out]
      exact ⟨rfl,g3,g4,_,_,_,_,_,_,_,_,_,_,_,_,_,_,_,_,_,_,_,_,_,_,_,_,_,_,_,_,_,_,_,_,_,_,_,_,_,_,_,_,_,_,_,_,_,_,_,_,_,_,rfl,H3V_2_5_7_6_8_9.out,H4V_2_5_7_6_8_9.out,HSV_2_5_7_6_8_9.out⟩
     refine AllReadyH.cons (o:=⟨some 3,.alloc 67,0,_,_,none⟩) rfl (fun K hK=>?_) ?_
     ·obtain ⟨V_2_6,hN⟩:∃ W,W=V_2.alloc (.cells #[.int .u64 0,.int .u64 0,.int .u64 0,.int .u64 0] 67):=⟨_,rfl⟩
      go_simp
      rw [←hN]
      obtain ⟨g3,hg⟩:∃ g,g=V_2.heap.size:=⟨_,rfl⟩
      rw [←hg]
      have H3V_2_6:Hid (NumOr V_2_6 g3 none):=lH (by rw [hN,hg];exact NumOr.fresh _)
      have HSV_2_6:=lH (by rw [hN];exact HSV_2.out.alloc HSV_2.out.size _:Below w3.heap.size w3 V_2_6)
      have HG3:Hid (w3.heap.size≤g3):=lH (by rw [hg];exact HSV_2.out.size)
      clear hN hg
      refine hK.out _ _ (HSV_2_6.out) (fun hHeld=>?_)
      clear hK K
      try simp only [aP]
      refine wpAnyH_ready (rs:=[5,7]) (by kernel_rfl) (by simp) ?_
      refine AllReadyH.cons (o:=⟨some 33,.call ⟨ .value (.func 54),#[.tmp 32],#[24]⟩,67,_,_,none⟩) rfl (fun K hK=>?_) ?_
      ·go_simp
       refine (enterN V_2_6 (HM3.out.under HSV_2_6.out) w3.heap.size cy Ay ly HSV_2_6.out.size (HY3.out.under HSV_2_6.out) HLY.out HDY.out Hy.out).mono ?_
       rintro e V_2_6_5 ⟨rfl,hbN⟩
       have HSV_2_6_5:=lH (HSV_2_6.out.trans (hbN.mono HSV_2_6.out.size))
       have H3V_2_6_5:Hid (NumOr V_2_6_5 g3 none):=lH (NumOr.under H3V_2_6.out hbN)
       clear hbN
       go_simp
       refine hK.out _ _ (HSV_2_6_5.out) (fun hHeld=>?_)
       clear hK K
       try simp only [aP]
       refine rdy 7 ⟨some 4,.alloc 67,0,_,_,none⟩ rfl (fun K hK=>?_)
       obtain ⟨V_2_6_5_7,hN⟩:∃ W,W=V_2_6_5.alloc (.cells #[.int .u64 0,.int .u64 0,.int .u64 0,.int .u64 0] 67):=⟨_,rfl⟩
       go_simp
       rw [←hN]
       obtain ⟨g4,hg⟩:∃ g,g=V_2_6_5.heap.size:=⟨_,rfl⟩
       rw [←hg]
       have H4V_2_6_5_7:Hid (NumOr V_2_6_5_7 g4 none):=lH (by rw [hN,hg];exact NumOr.fresh _)
       have HSV_2_6_5_7:=lH (by rw [hN];exact HSV_2_6_5.out.alloc HSV_2_6_5.out.size _:Below w3.heap.size w3 V_2_6_5_7)
       have HG4:Hid (w3.heap.size≤g4):=lH (by rw [hg];exact HSV_2_6_5.out.size)
       have HNE34:Hid (g3≠g4):=lH (by rw [hg];exact Nat.ne_of_lt H3V_2_6_5.out.lt)
       have H3V_2_6_5_7:Hid (NumOr V_2_6_5_7 g3 none):=lH (by rw [hN];exact NumOr.alloc H3V_2_6_5.out _)
       clear hN hg
       refine hK.out _ _ (HSV_2_6_5_7.out) (fun hHeld=>?_)
       clear hK K
       try simp only [aP]
       refine rdy 8 ⟨none,.store 67 (.tmp 3) (.tmp 30),0,_,_,none⟩ rfl (fun K hK=>?_)
       obtain ⟨zv0,zv1,zv2,zv3,⟨z0,o0⟩,⟨z1,o1⟩,⟨z2,o2⟩,⟨z3,o3⟩⟩:=NumOr.facts H3V_2_6_5_7.out
       obtain ⟨V_2_6_5_7_8,hN⟩:∃ W,W=((((V_2_6_5_7.setCell ⟨g3,0,none⟩ (.int .u64 (x0:Int))).setCell ⟨g3,1,none⟩ (.int .u64 (x1:Int))).setCell ⟨g3,2,none⟩ (.int .u64 (x2:Int))).setCell ⟨g3,3,none⟩ (.int .u64 (x3:Int))):=⟨_,rfl⟩
       go_simp
       rw [←hN]
       have H3V_2_6_5_7_8:Hid (NumOr V_2_6_5_7_8 g3 (some (enc (val lx)))):=lH (by rw [hN];exact NumOr.set H3V_2_6_5_7.out Hx.out)
       have HSV_2_6_5_7_8:=lH (by rw [hN];exact below4 HSV_2_6_5_7.out HG3.out _ _ _ _:Below w3.heap.size w3 V_2_6_5_7_8)
       have H4V_2_6_5_7_8:Hid (NumOr V_2_6_5_7_8 g4 none):=lH (by rw [hN];exact NumOr.aside4 H4V_2_6_5_7.out HNE34.out.symm _ _ _ _)
       clear hN z0 o0 z1 o1 z2 o2 z3 o3 zv0 zv1 zv2 zv3
       refine hK.out _ _ (HSV_2_6_5_7_8.out) (fun hHeld=>?_)
       clear hK K
       try simp only [aP]
       refine rdy 9 ⟨none,.store 67 (.tmp 4) (.tmp 33),0,_,_,none⟩ rfl (fun K hK=>?_)
       obtain ⟨zv0,zv1,zv2,zv3,⟨z0,o0⟩,⟨z1,o1⟩,⟨z2,o2⟩,⟨z3,o3⟩⟩:=NumOr.facts H4V_2_6_5_7_8.out
       obtain ⟨V_2_6_5_7_8_9,hN⟩:∃ W,W=((((V_2_6_5_7_8.setCell ⟨g4,0,none⟩ (.int .u64 (y0:Int))).setCell ⟨g4,1,none⟩ (.int .u64 (y1:Int))).setCell ⟨g4,2,none⟩ (.int .u64 (y2:Int))).setCell ⟨g4,3,none⟩ (.int .u64 (y3:Int))):=⟨_,rfl⟩
       go_simp
       rw [←hN]
       have H4V_2_6_5_7_8_9:Hid (NumOr V_2_6_5_7_8_9 g4 (some (enc (val ly)))):=lH (by rw [hN];exact NumOr.set H4V_2_6_5_7_8.out Hy.out)
       have HSV_2_6_5_7_8_9:=lH (by rw [hN];exact below4 HSV_2_6_5_7_8.out HG4.out _ _ _ _:Below w3.heap.size w3 V_2_6_5_7_8_9)
       have H3V_2_6_5_7_8_9:Hid (NumOr V_2_6_5_7_8_9 g3 (some (enc (val lx)))):=lH (by rw [hN];exact NumOr.aside4 H3V_2_6_5_7_8.out HNE34.out _ _ _ _)
       clear hN z0 o0 z1 o1 z2 o2 z3 o3 zv0 zv1 zv2 zv3
       refine hK.out _ _ (HSV_2_6_5_7_8_9.out) (fun hHeld=>?_)
       clear hK K
       try simp only [aP]
       refine wpAnyH_done (by kernel_rfl) ?_ _
       refine NoPanic.normal ?_
       rw [HQ5.out]
       exact ⟨rfl,g3,g4,_,_,_,_,_,_,_,_,_,_,_,_,_,_,_,_,_,_,_,_,_,_,_,_,_,_,_,_,_,_,_,_,_,_,_,_,_,_,_,_,_,_,_,_,_,_,_,_,_,_,rfl,H3V_2_6_5_7_8_9.out,H4V_2_6_5_7_8_9.out,HSV_2_6_5_7_8_9.out⟩
      refine AllReadyH.cons (o:=⟨some 4,.alloc 67,0,_,_,none⟩) rfl (fun K hK=>?_) AllReadyH.nil
      obtain ⟨V_2_6_7,hN⟩:∃ W,W=V_2_6.alloc (.cells #[.int .u64 0,.int .u64 0,.int .u64 0,.int .u64 0] 67):=⟨_,rfl⟩
      go_simp
      rw [←hN]
      obtain ⟨g4,hg⟩:∃ g,g=V_2_6.heap.size:=⟨_,rfl⟩
      rw [←hg]
      have H4V_2_6_7:Hid (NumOr V_2_6_7 g4 none):=lH (by rw [hN,hg];exact NumOr.fresh _)
      have HSV_2_6_7:=lH (by rw [hN];exact HSV_2_6.out.alloc HSV_2_6.out.size _:Below w3.heap.size w3 V_2_6_7)
      have HG4:Hid (w3.heap.size≤g4):=lH (by rw [hg];exact HSV_2_6.out.size)
      have HNE34:Hid (g3≠g4):=lH (by rw [hg];exact Nat.ne_of_lt H3V_2_6.out.lt)
      have H3V_2_6_7:Hid (NumOr V_2_6_7 g3 none):=lH (by rw [hN];exact NumOr.alloc H3V_2_6.out _)
      clear hN hg
      refine hK.out _ _ (HSV_2_6_7.out) (fun hHeld=>?_)
      clear hK K
      try simp only [aP]
      refine rdy 5 ⟨some 33,.call ⟨ .value (.func 54),#[.tmp 32],#[24]⟩,67,_,_,none⟩ rfl (fun K hK=>?_)
      go_simp
      refine (enterN V_2_6_7 (HM3.out.under HSV_2_6_7.out) w3.heap.size cy Ay ly HSV_2_6_7.out.size (HY3.out.under HSV_2_6_7.out) HLY.out HDY.out Hy.out).mono ?_
      rintro e V_2_6_7_5 ⟨rfl,hbN⟩
      have HSV_2_6_7_5:=lH (HSV_2_6_7.out.trans (hbN.mono HSV_2_6_7.out.size))
      have H3V_2_6_7_5:Hid (NumOr V_2_6_7_5 g3 none):=lH (NumOr.under H3V_2_6_7.out hbN)
      have H4V_2_6_7_5:Hid (NumOr V_2_6_7_5 g4 none):=lH (NumOr.under H4V_2_6_7.out hbN)
      clear hbN
      go_simp
      refine hK.out _ _ (HSV_2_6_7_5.out) (fun hHeld=>?_)
      clear hK K
      try simp only [aP]
      refine rdy 8 ⟨none,.store 67 (.tmp 3) (.tmp 30),0,_,_,none⟩ rfl (fun K hK=>?_)
      obtain ⟨zv0,zv1,zv2,zv3,⟨z0,o0⟩,⟨z1,o1⟩,⟨z2,o2⟩,⟨z3,o3⟩⟩:=NumOr.facts H3V_2_6_7_5.out
      obtain ⟨V_2_6_7_5_8,hN⟩:∃ W,W=((((V_2_6_7_5.setCell ⟨g3,0,none⟩ (.int .u64 (x0:Int))).setCell ⟨g3,1,none⟩ (.int .u64 (x1:Int))).setCell ⟨g3,2,none⟩ (.int .u64 (x2:Int))).setCell ⟨g3,3,none⟩ (.int .u64 (x3:Int))):=⟨_,rfl⟩
      go_simp
      rw [←hN]
      have H3V_2_6_7_5_8:Hid (NumOr V_2_6_7_5_8 g3 (some (enc (val lx)))):=lH (by rw [hN];exact NumOr.set H3V_2_6_7_5.out Hx.out)
      have HSV_2_6_7_5_8:=lH (by rw [hN];exact below4 HSV_2_6_7_5.out HG3.out _ _ _ _:Below w3.heap.size w3 V_2_6_7_5_8)
      have H4V_2_6_7_5_8:Hid (NumOr V_2_6_7_5_8 g4 none):=lH (by rw [hN];exact NumOr.aside4 H4V_2_6_7_5.out HNE34.out.symm _ _ _ _)
      clear hN z0 o0 z1 o1 z2 o2 z3 o3 zv0 zv1 zv2 zv3
      refine hK.out _ _ (HSV_2_6_7_5_8.out) (fun hHeld=>?_)
      clear hK K
      try simp only [aP]
      refine rdy 9 ⟨none,.store 67 (.tmp 4) (.tmp 33),0,_,_,none⟩ rfl (fun K hK=>?_)
      obtain ⟨zv0,zv1,zv2,zv3,⟨z0,o0⟩,⟨z1,o1⟩,⟨z2,o2⟩,⟨z3,o3⟩⟩:=NumOr.facts H4V_2_6_7_5_8.out
      obtain ⟨V_2_6_7_5_8_9,hN⟩:∃ W,W=((((V_2_6_7_5_8.setCell ⟨g4,0,none⟩ (.int .u64 (y0:Int))).setCell ⟨g4,1,none⟩ (.int .u64 (y1:Int))).setCell ⟨g4,2,none⟩ (.int .u64 (y2:Int))).setCell ⟨g4,3,none⟩ (.int .u64 (y3:Int))):=⟨_,rfl⟩
      go_simp
      rw [←hN]
      have H4V_2_6_7_5_8_9:Hid (NumOr V_2_6_7_5_8_9 g4 (some (enc (val ly)))):=lH (by rw [hN];exact NumOr.set H4V_2_6_7_5_8.out Hy.out)
      have HSV_2_6_7_5_8_9:=lH (by rw [hN];exact below4 HSV_2_6_7_5_8.out HG4.out _ _ _ _:Below w3.heap.size w3 V_2_6_7_5_8_9)
      have H3V_2_6_7_5_8_9:Hid (NumOr V_2_6_7_5_8_9 g3 (some (enc (val lx)))):=lH (by rw [hN];exact NumOr.aside4 H3V_2_6_7_5_8.out HNE34.out _ _ _ _)
      clear hN z0 o0 z1 o1 z2 o2 z3 o3 zv0 zv1 zv2 zv3
      refine hK.out _ _ (HSV_2_6_7_5_8_9.out) (fun hHeld=>?_)
      clear hK K
      try simp only [aP]
      refine wpAnyH_done (by kernel_rfl) ?_ _
      refine NoPanic.normal ?_
      rw [HQ5.out]
      exact ⟨rfl,g3,g4,_,_,_,_,_,_,_,_,_,_,_,_,_,_,_,_,_,_,_,_,_,_,_,_,_,_,_,_,_,_,_,_,_,_,_,_,_,_,_,_,_,_,_,_,_,_,_,_,_,_,rfl,H3V_2_6_7_5_8_9.out,H4V_2_6_7_5_8_9.out,HSV_2_6_7_5_8_9.out⟩
     refine AllReadyH.cons (o:=⟨some 4,.alloc 67,0,_,_,none⟩) rfl (fun K hK=>?_) AllReadyH.nil
     obtain ⟨V_2_7,hN⟩:∃ W,W=V_2.alloc (.cells #[.int .u64 0,.int .u64 0,.int .u64 0,.int .u64 0] 67):=⟨_,rfl⟩
     go_simp
     rw [←hN]
     obtain ⟨g4,hg⟩:∃ g,g=V_2.heap.size:=⟨_,rfl⟩
     rw [←hg]
     have H4V_2_7:Hid (NumOr V_2_7 g4 none):=lH (by rw [hN,hg];exact NumOr.fresh _)
     have HSV_2_7:=lH (by rw [hN];exact HSV_2.out.alloc HSV_2.out.size _:Below w3.heap.size w3 V_2_7)
     have HG4:Hid (w3.heap.size≤g4):=lH (by rw [hg];exact HSV_2.out.size)
     clear hN hg
     refine hK.out _ _ (HSV_2_7.out) (fun hHeld=>?_)
     clear hK K
     try simp only [aP]
     refine wpAnyH_ready (rs:=[5,6]) (by kernel_rfl) (by simp) ?_
     refine AllReadyH.cons (o:=⟨some 33,.call ⟨ .value (.func 54),#[.tmp 32],#[24]⟩,67,_,_,none⟩) rfl (fun K hK=>?_) ?_
     ·go_simp
      refine (enterN V_2_7 (HM3.out.under HSV_2_7.out) w3.heap.size cy Ay ly HSV_2_7.out.size (HY3.out.under HSV_2_7.out) HLY.out HDY.out Hy.out).mono ?_
      rintro e V_2_7_5 ⟨rfl,hbN⟩
      have HSV_2_7_5:=lH (HSV_2_7.out.trans (hbN.mono HSV_2_7.out.size))
      have H4V_2_7_5:Hid (NumOr V_2_7_5 g4 none):=lH (NumOr.under H4V_2_7.out hbN)
      clear hbN
      go_simp
      refine hK.out _ _ (HSV_2_7_5.out) (fun hHeld=>?_)
      clear hK K
      try simp only [aP]
      refine rdy 6 ⟨some 3,.alloc 67,0,_,_,none⟩ rfl (fun K hK=>?_)
      obtain ⟨V_2_7_5_6,hN⟩:∃ W,W=V_2_7_5.alloc (.cells #[.int .u64 0,.int .u64 0,.int .u64 0,.int .u64 0] 67):=⟨_,rfl⟩
      go_simp
      rw [←hN]
      obtain ⟨g3,hg⟩:∃ g,g=V_2_7_5.heap.size:=⟨_,rfl⟩
      rw [←hg]
      have H3V_2_7_5_6:Hid (NumOr V_2_7_5_6 g3 none):=lH (by rw [hN,hg];exact NumOr.fresh _)
      have HSV_2_7_5_6:=lH (by rw [hN];exact HSV_2_7_5.out.alloc HSV_2_7_5.out.size _:Below w3.heap.size w3 V_2_7_5_6)
      have HG3:Hid (w3.heap.size≤g3):=lH (by rw [hg];exact HSV_2_7_5.out.size)
      have HNE43:Hid (g4≠g3):=lH (by rw [hg];exact Nat.ne_of_lt H4V_2_7_5.out.lt)
      have H4V_2_7_5_6:Hid (NumOr V_2_7_5_6 g4 none):=lH (by rw [hN];exact NumOr.alloc H4V_2_7_5.out _)
      clear hN hg
      refine hK.out _ _ (HSV_2_7_5_6.out) (fun hHeld=>?_)
      clear hK K
      try simp only [aP]
      refine rdy 8 ⟨none,.store 67 (.tmp 3) (.tmp 30),0,_,_,none⟩ rfl (fun K hK=>?_)
      obtain ⟨zv0,zv1,zv2,zv3,⟨z0,o0⟩,⟨z1,o1⟩,⟨z2,o2⟩,⟨z3,o3⟩⟩:=NumOr.facts H3V_2_7_5_6.out
      obtain ⟨V_2_7_5_6_8,hN⟩:∃ W,W=((((V_2_7_5_6.setCell ⟨g3,0,none⟩ (.int .u64 (x0:Int))).setCell ⟨g3,1,none⟩ (.int .u64 (x1:Int))).setCell ⟨g3,2,none⟩ (.int .u64 (x2:Int))).setCell ⟨g3,3,none⟩ (.int .u64 (x3:Int))):=⟨_,rfl⟩
      go_simp
      rw [←hN]
      have H3V_2_7_5_6_8:Hid (NumOr V_2_7_5_6_8 g3 (some (enc (val lx)))):=lH (by rw [hN];exact NumOr.set H3V_2_7_5_6.out Hx.out)
      have HSV_2_7_5_6_8:=lH (by rw [hN];exact below4 HSV_2_7_5_6.out HG3.out _ _ _ _:Below w3.heap.size w3 V_2_7_5_6_8)
      have H4V_2_7_5_6_8:Hid (NumOr V_2_7_5_6_8 g4 none):=lH (by rw [hN];exact NumOr.aside4 H4V_2_7_5_6.out HNE43.out _ _ _ _)
      clear hN z0 o0 z1 o1 z2 o2 z3 o3 zv0 zv1 zv2 zv3
      refine hK.out _ _ (HSV_2_7_5_6_8.out) (fun hHeld=>?_)
      clear hK K
      try simp only [aP]
      refine rdy 9 ⟨none,.store 67 (.tmp 4) (.tmp 33),0,_,_,none⟩ rfl (fun K hK=>?_)
      obtain ⟨zv0,zv1,zv2,zv3,⟨z0,o0⟩,⟨z1,o1⟩,⟨z2,o2⟩,⟨z3,o3⟩⟩:=NumOr.facts H4V_2_7_5_6_8.out
      obtain ⟨V_2_7_5_6_8_9,hN⟩:∃ W,W=((((V_2_7_5_6_8.setCell ⟨g4,0,none⟩ (.int .u64 (y0:Int))).setCell ⟨g4,1,none⟩ (.int .u64 (y1:Int))).setCell ⟨g4,2,none⟩ (.int .u64 (y2:Int))).setCell ⟨g4,3,none⟩ (.int .u64 (y3:Int))):=⟨_,rfl⟩
      go_simp
      rw [←hN]
      have H4V_2_7_5_6_8_9:Hid (NumOr V_2_7_5_6_8_9 g4 (some (enc (val ly)))):=lH (by rw [hN];exact NumOr.set H4V_2_7_5_6_8.out Hy.out)
      have HSV_2_7_5_6_8_9:=lH (by rw [hN];exact below4 HSV_2_7_5_6_8.out HG4.out _ _ _ _:Below w3.heap.size w3 V_2_7_5_6_8_9)
      have H3V_2_7_5_6_8_9:Hid (NumOr V_2_7_5_6_8_9 g3 (some (enc (val lx)))):=lH (by rw [hN];exact NumOr.aside4 H3V_2_7_5_6_8.out HNE43.out.symm _ _ _ _)
      clear hN z0 o0 z1 o1 z2 o2 z3 o3 zv0 zv1 zv2 zv3
      refine hK.out _ _ (HSV_2_7_5_6_8_9.out) (fun hHeld=>?_)
      clear hK K
      try simp only [aP]
      refine wpAnyH_done (by kernel_rfl) ?_ _
      refine NoPanic.normal ?_
      rw [HQ5.out]
      exact ⟨rfl,g3,g4,_,_,_,_,_,_,_,_,_,_,_,_,_,_,_,_,_,_,_,_,_,_,_,_,_,_,_,_,_,_,_,_,_,_,_,_,_,_,_,_,_,_,_,_,_,_,_,_,_,_,rfl,H3V_2_7_5_6_8_9.out,H4V_2_7_5_6_8_9.out,HSV_2_7_5_6_8_9.out⟩
     refine AllReadyH.cons (o:=⟨some 3,.alloc 67,0,_,_,none⟩) rfl (fun K hK=>?_) AllReadyH.nil
     obtain ⟨V_2_7_6,hN⟩:∃ W,W=V_2_7.alloc (.cells #[.int .u64 0,.int .u64 0,.int .u64 0,.int .u64 0] 67):=⟨_,rfl⟩
     go_simp
     rw [←hN]
     obtain ⟨g3,hg⟩:∃ g,g=V_2_7.heap.size:=⟨_,rfl⟩
     rw [←hg]
     have H3V_2_7_6:Hid (NumOr V_2_7_6 g3 none):=lH (by rw [hN,hg];exact NumOr.fresh _)
     have HSV_2_7_6:=lH (by rw [hN];exact HSV_2_7.out.alloc HSV_2_7.out.size _:Below w3.heap.size w3 V_2_7_6)
     have HG3:Hid (w3.heap.size≤g3):=lH (by rw [hg];exact HSV_2_7.out.size)
     have HNE43:Hid (g4≠g3):=lH (by rw [hg];exact Nat.ne_of_lt H4V_2_7.out.lt)
     have H4V_2_7_6:Hid (NumOr V_2_7_6 g4 none):=lH (by rw [hN];exact NumOr.alloc H4V_2_7.out _)
     clear hN hg
     refine hK.out _ _ (HSV_2_7_6.out) (fun hHeld=>?_)
     clear hK K
     try simp only [aP]
     refine rdy 5 ⟨some 33,.call ⟨ .value (.func 54),#[.tmp 32],#[24]⟩,67,_,_,none⟩ rfl (fun K hK=>?_)
     go_simp
     refine (enterN V_2_7_6 (HM3.out.under HSV_2_7_6.out) w3.heap.size cy Ay ly HSV_2_7_6.out.size (HY3.out.under HSV_2_7_6.out) HLY.out HDY.out Hy.out).mono ?_
     rintro e V_2_7_6_5 ⟨rfl,hbN⟩
     have HSV_2_7_6_5:=lH (HSV_2_7_6.out.trans (hbN.mono HSV_2_7_6.out.size))
     have H4V_2_7_6_5:Hid (NumOr V_2_7_6_5 g4 none):=lH (NumOr.under H4V_2_7_6.out hbN)
     have H3V_2_7_6_5:Hid (NumOr V_2_7_6_5 g3 none):=lH (NumOr.under H3V_2_7_6.out hbN)
     clear hbN
     go_simp
     refine hK.out _ _ (HSV_2_7_6_5.out) (fun hHeld=>?_)
     clear hK K
     try simp only [aP]
     refine rdy 8 ⟨none,.store 67 (.tmp 3) (.tmp 30),0,_,_,none⟩ rfl (fun K hK=>?_)
     obtain ⟨zv0,zv1,zv2,zv3,⟨z0,o0⟩,⟨z1,o1⟩,⟨z2,o2⟩,⟨z3,o3⟩⟩:=NumOr.facts H3V_2_7_6_5.out
     obtain ⟨V_2_7_6_5_8,hN⟩:∃ W,W=((((V_2_7_6_5.setCell ⟨g3,0,none⟩ (.int .u64 (x0:Int))).setCell ⟨g3,1,none⟩ (.int .u64 (x1:Int))).setCell ⟨g3,2,none⟩ (.int .u64 (x2:Int))).setCell ⟨g3,3,none⟩ (.int .u64 (x3:Int))):=⟨_,rfl⟩
     go_simp
     rw [←hN]
     have H3V_2_7_6_5_8:Hid (NumOr V_2_7_6_5_8 g3 (some (enc (val lx)))):=lH (by rw [hN];exact NumOr.set H3V_2_7_6_5.out Hx.out)
     have HSV_2_7_6_5_8:=lH (by rw [hN];exact below4 HSV_2_7_6_5.out HG3.out _ _ _ _:Below w3.heap.size w3 V_2_7_6_5_8)
     have H4V_2_7_6_5_8:Hid (NumOr V_2_7_6_5_8 g4 none):=lH (by rw [hN];exact NumOr.aside4 H4V_2_7_6_5.out HNE43.out _ _ _ _)
     clear hN z0 o0 z1 o1 z2 o2 z3 o3 zv0 zv1 zv2 zv3
     refine hK.out _ _ (HSV_2_7_6_5_8.out) (fun hHeld=>?_)
     clear hK K
     try simp only [aP]
     refine rdy 9 ⟨none,.store 67 (.tmp 4) (.tmp 33),0,_,_,none⟩ rfl (fun K hK=>?_)
     obtain ⟨zv0,zv1,zv2,zv3,⟨z0,o0⟩,⟨z1,o1⟩,⟨z2,o2⟩,⟨z3,o3⟩⟩:=NumOr.facts H4V_2_7_6_5_8.out
     obtain ⟨V_2_7_6_5_8_9,hN⟩:∃ W,W=((((V_2_7_6_5_8.setCell ⟨g4,0,none⟩ (.int .u64 (y0:Int))).setCell ⟨g4,1,none⟩ (.int .u64 (y1:Int))).setCell ⟨g4,2,none⟩ (.int .u64 (y2:Int))).setCell ⟨g4,3,none⟩ (.int .u64 (y3:Int))):=⟨_,rfl⟩
     go_simp
     rw [←hN]
     have H4V_2_7_6_5_8_9:Hid (NumOr V_2_7_6_5_8_9 g4 (some (enc (val ly)))):=lH (by rw [hN];exact NumOr.set H4V_2_7_6_5_8.out Hy.out)
     have HSV_2_7_6_5_8_9:=lH (by rw [hN];exact below4 HSV_2_7_6_5_8.out HG4.out _ _ _ _:Below w3.heap.size w3 V_2_7_6_5_8_9)
     have H3V_2_7_6_5_8_9:Hid (NumOr V_2_7_6_5_8_9 g3 (some (enc (val lx)))):=lH (by rw [hN];exact NumOr.aside4 H3V_2_7_6_5_8.out HNE43.out.symm _ _ _ _)
     clear hN z0 o0 z1 o1 z2 o2 z3 o3 zv0 zv1 zv2 zv3
     refine hK.out _ _ (HSV_2_7_6_5_8_9.out) (fun hHeld=>?_)
     clear hK K
     try simp only [aP]
     refine wpAnyH_done (by kernel_rfl) ?_ _
     refine NoPanic.normal ?_
     rw [HQ5.out]
     exact ⟨rfl,g3,g4,_,_,_,_,_,_,_,_,_,_,_,_,_,_,_,_,_,_,_,_,_,_,_,_,_,_,_,_,_,_,_,_,_,_,_,_,_,_,_,_,_,_,_,_,_,_,_,_,_,_,rfl,H3V_2_7_6_5_8_9.out,H4V_2_7_6_5_8_9.out,HSV_2_7_6_5_8_9.out⟩
    refine AllReadyH.cons (o:=⟨some 3,.alloc 67,0,_,_,none⟩) rfl (fun K hK=>?_) ?_
    ·obtain ⟨V_6,hN⟩:∃ W,W=V.alloc (.cells #[.int .u64 0,.int .u64 0,.int .u64 0,.int .u64 0] 67):=⟨_,rfl⟩
     go_simp
     rw [←hN]
     obtain ⟨g3,hg⟩:∃ g,g=V.heap.size:=⟨_,rfl⟩
     rw [←hg]
     have H3V_6:Hid (NumOr V_6 g3 none):=lH (by rw [hN,hg];exact NumOr.fresh _)
     have HSV_6:=lH (by rw [hN];exact HSV.out.alloc HSV.out.size _:Below w3.heap.size w3 V_6)
     have HG3:Hid (w3.heap.size≤g3):=lH (by rw [hg];exact HSV.out.size)
     clear hN hg
     refine hK.out _ _ (HSV_6.out) (fun hHeld=>?_)
     clear hK K
     try simp only [aP]
     refine wpAnyH_ready (rs:=[2,7]) (by kernel_rfl) (by simp) ?_
     refine AllReadyH.cons (o:=⟨some 30,.call ⟨ .value (.func 54),#[.tmp 29],#[24]⟩,67,_,_,none⟩) rfl (fun K hK=>?_) ?_
     ·go_simp
      refine (enterN V_6 (HM3.out.under HSV_6.out) w3.heap.size cx Ax lx HSV_6.out.size (HX3.out.under HSV_6.out) HLX.out HDX.out Hx.out).mono ?_
      rintro e V_6_2 ⟨rfl,hbN⟩
      have HSV_6_2:=lH (HSV_6.out.trans (hbN.mono HSV_6.out.size))
      have H3V_6_2:Hid (NumOr V_6_2 g3 none):=lH (NumOr.under H3V_6.out hbN)
      clear hbN
      go_simp
      refine hK.out _ _ (HSV_6_2.out) (fun hHeld=>?_)
      clear hK K
      try simp only [aP]
      refine wpAnyH_ready (rs:=[5,7]) (by kernel_rfl) (by simp) ?_
      refine AllReadyH.cons (o:=⟨some 33,.call ⟨ .value (.func 54),#[.tmp 32],#[24]⟩,67,_,_,none⟩) rfl (fun K hK=>?_) ?_
      ·go_simp
       refine (enterN V_6_2 (HM3.out.under HSV_6_2.out) w3.heap.size cy Ay ly HSV_6_2.out.size (HY3.out.under HSV_6_2.out) HLY.out HDY.out Hy.out).mono ?_
       rintro e V_6_2_5 ⟨rfl,hbN⟩
       have HSV_6_2_5:=lH (HSV_6_2.out.trans (hbN.mono HSV_6_2.out.size))
       have H3V_6_2_5:Hid (NumOr V_6_2_5 g3 none):=lH (NumOr.under H3V_6_2.out hbN)
       clear hbN
       go_simp
       refine hK.out _ _ (HSV_6_2_5.out) (fun hHeld=>?_)
       clear hK K
       try simp only [aP]
       refine rdy 7 ⟨some 4,.alloc 67,0,_,_,none⟩ rfl (fun K hK=>?_)
       obtain ⟨V_6_2_5_7,hN⟩:∃ W,W=V_6_2_5.alloc (.cells #[.int .u64 0,.int .u64 0,.int .u64 0,.int .u64 0] 67):=⟨_,rfl⟩
       go_simp
       rw [←hN]
       obtain ⟨g4,hg⟩:∃ g,g=V_6_2_5.heap.size:=⟨_,rfl⟩
       rw [←hg]
       have H4V_6_2_5_7:Hid (NumOr V_6_2_5_7 g4 none):=lH (by rw [hN,hg];exact NumOr.fresh _)
       have HSV_6_2_5_7:=lH (by rw [hN];exact HSV_6_2_5.out.alloc HSV_6_2_5.out.size _:Below w3.heap.size w3 V_6_2_5_7)
       have HG4:Hid (w3.heap.size≤g4):=lH (by rw [hg];exact HSV_6_2_5.out.size)
       have HNE34:Hid (g3≠g4):=lH (by rw [hg];exact Nat.ne_of_lt H3V_6_2_5.out.lt)
       have H3V_6_2_5_7:Hid (NumOr V_6_2_5_7 g3 none):=lH (by rw [hN];exact NumOr.alloc H3V_6_2_5.out _)
       clear hN hg
       refine hK.out _ _ (HSV_6_2_5_7.out) (fun hHeld=>?_)
       clear hK K
       try simp only [aP]
       refine rdy 8 ⟨none,.store 67 (.tmp 3) (.tmp 30),0,_,_,none⟩ rfl (fun K hK=>?_)
       obtain ⟨zv0,zv1,zv2,zv3,⟨z0,o0⟩,⟨z1,o1⟩,⟨z2,o2⟩,⟨z3,o3⟩⟩:=NumOr.facts H3V_6_2_5_7.out
       obtain ⟨V_6_2_5_7_8,hN⟩:∃ W,W=((((V_6_2_5_7.setCell ⟨g3,0,none⟩ (.int .u64 (x0:Int))).setCell ⟨g3,1,none⟩ (.int .u64 (x1:Int))).setCell ⟨g3,2,none⟩ (.int .u64 (x2:Int))).setCell ⟨g3,3,none⟩ (.int .u64 (x3:Int))):=⟨_,rfl⟩
       go_simp
       rw [←hN]
       have H3V_6_2_5_7_8:Hid (NumOr V_6_2_5_7_8 g3 (some (enc (val lx)))):=lH (by rw [hN];exact NumOr.set H3V_6_2_5_7.out Hx.out)
       have HSV_6_2_5_7_8:=lH (by rw [hN];exact below4 HSV_6_2_5_7.out HG3.out _ _ _ _:Below w3.heap.size w3 V_6_2_5_7_8)
       have H4V_6_2_5_7_8:Hid (NumOr V_6_2_5_7_8 g4 none):=lH (by rw [hN];exact NumOr.aside4 H4V_6_2_5_7.out HNE34.out.symm _ _ _ _)
       clear hN z0 o0 z1 o1 z2 o2 z3 o3 zv0 zv1 zv2 zv3
       refine hK.out _ _ (HSV_6_2_5_7_8.out) (fun hHeld=>?_)
       clear hK K
       try simp only [aP]
       refine rdy 9 ⟨none,.store 67 (.tmp 4) (.tmp 33),0,_,_,none⟩ rfl (fun K hK=>?_)
       obtain ⟨zv0,zv1,zv2,zv3,⟨z0,o0⟩,⟨z1,o1⟩,⟨z2,o2⟩,⟨z3,o3⟩⟩:=NumOr.facts H4V_6_2_5_7_8.out
       obtain ⟨V_6_2_5_7_8_9,hN⟩:∃ W,W=((((V_6_2_5_7_8.setCell ⟨g4,0,none⟩ (.int .u64 (y0:Int))).setCell ⟨g4,1,none⟩ (.int .u64 (y1:Int))).setCell ⟨g4,2,none⟩ (.int .u64 (y2:Int))).setCell ⟨g4,3,none⟩ (.int .u64 (y3:Int))):=⟨_,rfl⟩
       go_simp
       rw [←hN]
       have H4V_6_2_5_7_8_9:Hid (NumOr V_6_2_5_7_8_9 g4 (some (enc (val ly)))):=lH (by rw [hN];exact NumOr.set H4V_6_2_5_7_8.out Hy.out)
       have HSV_6_2_5_7_8_9:=lH (by rw [hN];exact below4 HSV_6_2_5_7_8.out HG4.out _ _ _ _:Below w3.heap.size w3 V_6_2_5_7_8_9)
       have H3V_6_2_5_7_8_9:Hid (NumOr V_6_2_5_7_8_9 g3 (some (enc (val lx)))):=lH (by rw [hN];exact NumOr.aside4 H3V_6_2_5_7_8.out HNE34.out _ _ _ _)
       clear hN z0 o0 z1 o1 z2 o2 z3 o3 zv0 zv1 zv2 zv3
       refine hK.out _ _ (HSV_6_2_5_7_8_9.out) (fun hHeld=>?_)
       clear hK K
       try simp only [aP]
       refine wpAnyH_done (by kernel_rfl) ?_ _
       refine NoPanic.normal ?_
       rw [HQ5.out]
       exact ⟨rfl,g3,g4,_,_,_,_,_,_,_,_,_,_,_,_,_,_,_,_,_,_,_,_,_,_,_,_,_,_,_,_,_,_,_,_,_,_,_,_,_,_,_,_,_,_,_,_,_,_,_,_,_,_,rfl,H3V_6_2_5_7_8_9.out,H4V_6_2_5_7_8_9.out,HSV_6_2_5_7_8_9.out⟩
      refine AllReadyH.cons (o:=⟨some 4,.alloc 67,0,_,_,none⟩) rfl (fun K hK=>?_) AllReadyH.nil
      obtain ⟨V_6_2_7,hN⟩:∃ W,W=V_6_2.alloc (.cells #[.int .u64 0,.int .u64 0,.int .u64 0,.int .u64 0] 67):=⟨_,rfl⟩
      go_simp
      rw [←hN]
      obtain ⟨g4,hg⟩:∃ g,g=V_6_2.heap.size:=⟨_,rfl⟩
      rw [←hg]
      have H4V_6_2_7:Hid (NumOr V_6_2_7 g4 none):=lH (by rw [hN,hg];exact NumOr.fresh _)
      have HSV_6_2_7:=lH (by rw [hN];exact HSV_6_2.out.alloc HSV_6_2.out.size _:Below w3.heap.size w3 V_6_2_7)
      have HG4:Hid (w3.heap.size≤g4):=lH (by rw [hg];exact HSV_6_2.out.size)
      have HNE34:Hid (g3≠g4):=lH (by rw [hg];exact Nat.ne_of_lt H3V_6_2.out.lt)
      have H3V_6_2_7:Hid (NumOr V_6_2_7 g3 none):=lH (by rw [hN];exact NumOr.alloc H3V_6_2.out _)
      clear hN hg
      refine hK.out _ _ (HSV_6_2_7.out) (fun hHeld=>?_)
      clear hK K
      try simp only [aP]
      refine rdy 5 ⟨some 33,.call ⟨ .value (.func 54),#[.tmp 32],#[24]⟩,67,_,_,none⟩ rfl (fun K hK=>?_)
      go_simp
      refine (enterN V_6_2_7 (HM3.out.under HSV_6_2_7.out) w3.heap.size cy Ay ly HSV_6_2_7.out.size (HY3.out.under HSV_6_2_7.out) HLY.out HDY.out Hy.out).mono ?_
      rintro e V_6_2_7_5 ⟨rfl,hbN⟩
      have HSV_6_2_7_5:=lH (HSV_6_2_7.out.trans (hbN.mono HSV_6_2_7.out.size))
      have H3V_6_2_7_5:Hid (NumOr V_6_2_7_5 g3 none):=lH (NumOr.under H3V_6_2_7.out hbN)
      have H4V_6_2_7_5:Hid (NumOr V_6_2_7_5 g4 none):=lH (NumOr.under H4V_6_2_7.out hbN)
      clear hbN
      go_simp
      refine hK.out _ _ (HSV_6_2_7_5.out) (fun hHeld=>?_)
      clear hK K
      try simp only [aP]
      refine rdy 8 ⟨none,.store 67 (.tmp 3) (.tmp 30),0,_,_,none⟩ rfl (fun K hK=>?_)
      obtain ⟨zv0,zv1,zv2,zv3,⟨z0,o0⟩,⟨z1,o1⟩,⟨z2,o2⟩,⟨z3,o3⟩⟩:=NumOr.facts H3V_6_2_7_5.out
      obtain ⟨V_6_2_7_5_8,hN⟩:∃ W,W=((((V_6_2_7_5.setCell ⟨g3,0,none⟩ (.int .u64 (x0:Int))).setCell ⟨g3,1,none⟩ (.int .u64 (x1:Int))).setCell ⟨g3,2,none⟩ (.int .u64 (x2:Int))).setCell ⟨g3,3,none⟩ (.int .u64 (x3:Int))):=⟨_,rfl⟩
      go_simp
      rw [←hN]
      have H3V_6_2_7_5_8:Hid (NumOr V_6_2_7_5_8 g3 (some (enc (val lx)))):=lH (by rw [hN];exact NumOr.set H3V_6_2_7_5.out Hx.out)
      have HSV_6_2_7_5_8:=lH (by rw [hN];exact below4 HSV_6_2_7_5.out HG3.out _ _ _ _:Below w3.heap.size w3 V_6_2_7_5_8)
      have H4V_6_2_7_5_8:Hid (NumOr V_6_2_7_5_8 g4 none):=lH (by rw [hN];exact NumOr.aside4 H4V_6_2_7_5.out HNE34.out.symm _ _ _ _)
      clear hN z0 o0 z1 o1 z2 o2 z3 o3 zv0 zv1 zv2 zv3
      refine hK.out _ _ (HSV_6_2_7_5_8.out) (fun hHeld=>?_)
      clear hK K
      try simp only [aP]
      refine rdy 9 ⟨none,.store 67 (.tmp 4) (.tmp 33),0,_,_,none⟩ rfl (fun K hK=>?_)
      obtain ⟨zv0,zv1,zv2,zv3,⟨z0,o0⟩,⟨z1,o1⟩,⟨z2,o2⟩,⟨z3,o3⟩⟩:=NumOr.facts H4V_6_2_7_5_8.out
      obtain ⟨V_6_2_7_5_8_9,hN⟩:∃ W,W=((((V_6_2_7_5_8.setCell ⟨g4,0,none⟩ (.int .u64 (y0:Int))).setCell ⟨g4,1,none⟩ (.int .u64 (y1:Int))).setCell ⟨g4,2,none⟩ (.int .u64 (y2:Int))).setCell ⟨g4,3,none⟩ (.int .u64 (y3:Int))):=⟨_,rfl⟩
      go_simp
      rw [←hN]
      have H4V_6_2_7_5_8_9:Hid (NumOr V_6_2_7_5_8_9 g4 (some (enc (val ly)))):=lH (by rw [hN];exact NumOr.set H4V_6_2_7_5_8.out Hy.out)
      have HSV_6_2_7_5_8_9:=lH (by rw [hN];exact below4 HSV_6_2_7_5_8.out HG4.out _ _ _ _:Below w3.heap.size w3 V_6_2_7_5_8_9)
      have H3V_6_2_7_5_8_9:Hid (NumOr V_6_2_7_5_8_9 g3 (some (enc (val lx)))):=lH (by rw [hN];exact NumOr.aside4 H3V_6_2_7_5_8.out HNE34.out _ _ _ _)
      clear hN z0 o0 z1 o1 z2 o2 z3 o3 zv0 zv1 zv2 zv3
      refine hK.out _ _ (HSV_6_2_7_5_8_9.out) (fun hHeld=>?_)
      clear hK K
      try simp only [aP]
      refine wpAnyH_done (by kernel_rfl) ?_ _
      refine NoPanic.normal ?_
      rw [HQ5.out]
      exact ⟨rfl,g3,g4,_,_,_,_,_,_,_,_,_,_,_,_,_,_,_,_,_,_,_,_,_,_,_,_,_,_,_,_,_,_,_,_,_,_,_,_,_,_,_,_,_,_,_,_,_,_,_,_,_,_,rfl,H3V_6_2_7_5_8_9.out,H4V_6_2_7_5_8_9.out,HSV_6_2_7_5_8_9.out⟩
     refine AllReadyH.cons (o:=⟨some 4,.alloc 67,0,_,_,none⟩) rfl (fun K hK=>?_) AllReadyH.nil
     obtain ⟨V_6_7,hN⟩:∃ W,W=V_6.alloc (.cells #[.int .u64 0,.int .u64 0,.int .u64 0,.int .u64 0] 67):=⟨_,rfl⟩
     go_simp
     rw [←hN]
     obtain ⟨g4,hg⟩:∃ g,g=V_6.heap.size:=⟨_,rfl⟩
     rw [←hg]
     have H4V_6_7:Hid (NumOr V_6_7 g4 none):=lH (by rw [hN,hg];exact NumOr.fresh _)
     have HSV_6_7:=lH (by rw [hN];exact HSV_6.out.alloc HSV_6.out.size _:Below w3.heap.size w3 V_6_7)
     have HG4:Hid (w3.heap.size≤g4):=lH (by rw [hg];exact HSV_6.out.size)
     have HNE34:Hid (g3≠g4):=lH (by rw [hg];exact Nat.ne_of_lt H3V_6.out.lt)
     have H3V_6_7:Hid (NumOr V_6_7 g3 none):=lH (by rw [hN];exact NumOr.alloc H3V_6.out _)
     clear hN hg
     refine hK.out _ _ (HSV_6_7.out) (fun hHeld=>?_)
     clear hK K
     try simp only [aP]
     refine rdy 2 ⟨some 30,.call ⟨ .value (.func 54),#[.tmp 29],#[24]⟩,67,_,_,none⟩ rfl (fun K hK=>?_)
     go_simp
     refine (enterN V_6_7 (HM3.out.under HSV_6_7.out) w3.heap.size cx Ax lx HSV_6_7.out.size (HX3.out.under HSV_6_7.out) HLX.out HDX.out Hx.out).mono ?_
     rintro e V_6_7_2 ⟨rfl,hbN⟩
     have HSV_6_7_2:=lH (HSV_6_7.out.trans (hbN.mono HSV_6_7.out.size))
     have H3V_6_7_2:Hid (NumOr V_6_7_2 g3 none):=lH (NumOr.under H3V_6_7.out hbN)
     have H4V_6_7_2:Hid (NumOr V_6_7_2 g4 none):=lH (NumOr.under H4V_6_7.out hbN)
     clear hbN
     go_simp
     refine hK.out _ _ (HSV_6_7_2.out) (fun hHeld=>?_)
     clear hK K
     try simp only [aP]
     refine rdy 5 ⟨some 33,.call ⟨ .value (.func 54),#[.tmp 32],#[24]⟩,67,_,_,none⟩ rfl (fun K hK=>?_)
     go_simp
     refine (enterN V_6_7_2 (HM3.out.under HSV_6_7_2.out) w3.heap.size cy Ay ly HSV_6_7_2.out.size (HY3.out.under HSV_6_7_2.out) HLY.out HDY.out Hy.out).mono ?_
     rintro e V_6_7_2_5 ⟨rfl,hbN⟩
     have HSV_6_7_2_5:=lH (HSV_6_7_2.out.trans (hbN.mono HSV_6_7_2.out.size))
     have H3V_6_7_2_5:Hid (NumOr V_6_7_2_5 g3 none):=lH (NumOr.under H3V_6_7_2.out hbN)
     have H4V_6_7_2_5:Hid (NumOr V_6_7_2_5 g4 none):=lH (NumOr.under H4V_6_7_2.out hbN)
     clear hbN
     go_simp
     refine hK.out _ _ (HSV_6_7_2_5.out) (fun hHeld=>?_)
     clear hK K
     try simp only [aP]
     refine rdy 8 ⟨none,.store 67 (.tmp 3) (.tmp 30),0,_,_,none⟩ rfl (fun K hK=>?_)
     obtain ⟨zv0,zv1,zv2,zv3,⟨z0,o0⟩,⟨z1,o1⟩,⟨z2,o2⟩,⟨z3,o3⟩⟩:=NumOr.facts H3V_6_7_2_5.out
     obtain ⟨V_6_7_2_5_8,hN⟩:∃ W,W=((((V_6_7_2_5.setCell ⟨g3,0,none⟩ (.int .u64 (x0:Int))).setCell ⟨g3,1,none⟩ (.int .u64 (x1:Int))).setCell ⟨g3,2,none⟩ (.int .u64 (x2:Int))).setCell ⟨g3,3,none⟩ (.int .u64 (x3:Int))):=⟨_,rfl⟩
     go_simp
     rw [←hN]
     have H3V_6_7_2_5_8:Hid (NumOr V_6_7_2_5_8 g3 (some (enc (val lx)))):=lH (by rw [hN];exact NumOr.set H3V_6_7_2_5.out Hx.out)
     have HSV_6_7_2_5_8:=lH (by rw [hN];exact below4 HSV_6_7_2_5.out HG3.out _ _ _ _:Below w3.heap.size w3 V_6_7_2_5_8)
     have H4V_6_7_2_5_8:Hid (NumOr V_6_7_2_5_8 g4 none):=lH (by rw [hN];exact NumOr.aside4 H4V_6_7_2_5.out HNE34.out.symm _ _ _ _)
     clear hN z0 o0 z1 o1 z2 o2 z3 o3 zv0 zv1 zv2 zv3
     refine hK.out _ _ (HSV_6_7_2_5_8.out) (fun hHeld=>?_)
     clear hK K
     try simp only [aP]
     refine rdy 9 ⟨none,.store 67 (.tmp 4) (.tmp 33),0,_,_,none⟩ rfl (fun K hK=>?_)
     obtain ⟨zv0,zv1,zv2,zv3,⟨z0,o0⟩,⟨z1,o1⟩,⟨z2,o2⟩,⟨z3,o3⟩⟩:=NumOr.facts H4V_6_7_2_5_8.out
     obtain ⟨V_6_7_2_5_8_9,hN⟩:∃ W,W=((((V_6_7_2_5_8.setCell ⟨g4,0,none⟩ (.int .u64 (y0:Int))).setCell ⟨g4,1,none⟩ (.int .u64 (y1:Int))).setCell ⟨g4,2,none⟩ (.int .u64 (y2:Int))).setCell ⟨g4,3,none⟩ (.int .u64 (y3:Int))):=⟨_,rfl⟩
     go_simp
     rw [←hN]
     have H4V_6_7_2_5_8_9:Hid (NumOr V_6_7_2_5_8_9 g4 (some (enc (val ly)))):=lH (by rw [hN];exact NumOr.set H4V_6_7_2_5_8.out Hy.out)
     have HSV_6_7_2_5_8_9:=lH (by rw [hN];exact below4 HSV_6_7_2_5_8.out HG4.out _ _ _ _:Below w3.heap.size w3 V_6_7_2_5_8_9)
     have H3V_6_7_2_5_8_9:Hid (NumOr V_6_7_2_5_8_9 g3 (some (enc (val lx)))):=lH (by rw [hN];exact NumOr.aside4 H3V_6_7_2_5_8.out HNE34.out _ _ _ _)
     clear hN z0 o0 z1 o1 z2 o2 z3 o3 zv0 zv1 zv2 zv3
     refine hK.out _ _ (HSV_6_7_2_5_8_9.out) (fun hHeld=>?_)
     clear hK K
     try simp only [aP]
     refine wpAnyH_done (by kernel_rfl) ?_ _
     refine NoPanic.normal ?_
     rw [HQ5.out]
     exact ⟨rfl,g3,g4,_,_,_,_,_,_,_,_,_,_,_,_,_,_,_,_,_,_,_,_,_,_,_,_,_,_,_,_,_,_,_,_,_,_,_,_,_,_,_,_,_,_,_,_,_,_,_,_,_,_,rfl,H3V_6_7_2_5_8_9.out,H4V_6_7_2_5_8_9.out,HSV_6_7_2_5_8_9.out⟩
    refine AllReadyH.cons (o:=⟨some 4,.alloc 67,0,_,_,none⟩) rfl (fun K hK=>?_) AllReadyH.nil
    obtain ⟨V_7,hN⟩:∃ W,W=V.alloc (.cells #[.int .u64 0,.int .u64 0,.int .u64 0,.int .u64 0] 67):=⟨_,rfl⟩
    go_simp
    rw [←hN]
    obtain ⟨g4,hg⟩:∃ g,g=V.heap.size:=⟨_,rfl⟩
    rw [←hg]
    have H4V_7:Hid (NumOr V_7 g4 none):=lH (by rw [hN,hg];exact NumOr.fresh _)
    have HSV_7:=lH (by rw [hN];exact HSV.out.alloc HSV.out.size _:Below w3.heap.size w3 V_7)
    have HG4:Hid (w3.heap.size≤g4):=lH (by rw [hg];exact HSV.out.size)
    clear hN hg
    refine hK.out _ _ (HSV_7.out) (fun hHeld=>?_)
    clear hK K
    try simp only [aP]
    refine wpAnyH_ready (rs:=[2,6]) (by kernel_rfl) (by simp) ?_
    refine AllReadyH.cons (o:=⟨some 30,.call ⟨ .value (.func 54),#[.tmp 29],#[24]⟩,67,_,_,none⟩) rfl (fun K hK=>?_) ?_
    ·go_simp
     refine (enterN V_7 (HM3.out.under HSV_7.out) w3.heap.size cx Ax lx HSV_7.out.size (HX3.out.under HSV_7.out) HLX.out HDX.out Hx.out).mono ?_
     rintro e V_7_2 ⟨rfl,hbN⟩
     have HSV_7_2:=lH (HSV_7.out.trans (hbN.mono HSV_7.out.size))
     have H4V_7_2:Hid (NumOr V_7_2 g4 none):=lH (NumOr.under H4V_7.out hbN)
     clear hbN
     go_simp
     refine hK.out _ _ (HSV_7_2.out) (fun hHeld=>?_)
     clear hK K
     try simp only [aP]
     refine wpAnyH_ready (rs:=[5,6]) (by kernel_rfl) (by simp) ?_
     refine AllReadyH.cons (o:=⟨some 33,.call ⟨ .value (.func 54),#[.tmp 32],#[24]⟩,67,_,_,none⟩) rfl (fun K hK=>?_) ?_
     ·go_simp
      refine (enterN V_7_2 (HM3.out.under HSV_7_2.out) w3.heap.size cy Ay ly HSV_7_2.out.size (HY3.out.under HSV_7_2.out) HLY.out HDY.out Hy.out).mono ?_
      rintro e V_7_2_5 ⟨rfl,hbN⟩
      have HSV_7_2_5:=lH (HSV_7_2.out.trans (hbN.mono HSV_7_2.out.size))
      have H4V_7_2_5:Hid (NumOr V_7_2_5 g4 none):=lH (NumOr.under H4V_7_2.out hbN)
      clear hbN
      go_simp
      refine hK.out _ _ (HSV_7_2_5.out) (fun hHeld=>?_)
      clear hK K
      try simp only [aP]
      refine rdy 6 ⟨some 3,.alloc 67,0,_,_,none⟩ rfl (fun K hK=>?_)
      obtain ⟨V_7_2_5_6,hN⟩:∃ W,W=V_7_2_5.alloc (.cells #[.int .u64 0,.int .u64 0,.int .u64 0,.int .u64 0] 67):=⟨_,rfl⟩
      go_simp
      rw [←hN]
      obtain ⟨g3,hg⟩:∃ g,g=V_7_2_5.heap.size:=⟨_,rfl⟩
      rw [←hg]
      have H3V_7_2_5_6:Hid (NumOr V_7_2_5_6 g3 none):=lH (by rw [hN,hg];exact NumOr.fresh _)
      have HSV_7_2_5_6:=lH (by rw [hN];exact HSV_7_2_5.out.alloc HSV_7_2_5.out.size _:Below w3.heap.size w3 V_7_2_5_6)
      have HG3:Hid (w3.heap.size≤g3):=lH (by rw [hg];exact HSV_7_2_5.out.size)
      have HNE43:Hid (g4≠g3):=lH (by rw [hg];exact Nat.ne_of_lt H4V_7_2_5.out.lt)
      have H4V_7_2_5_6:Hid (NumOr V_7_2_5_6 g4 none):=lH (by rw [hN];exact NumOr.alloc H4V_7_2_5.out _)
      clear hN hg
      refine hK.out _ _ (HSV_7_2_5_6.out) (fun hHeld=>?_)
      clear hK K
      try simp only [aP]
      refine rdy 8 ⟨none,.store 67 (.tmp 3) (.tmp 30),0,_,_,none⟩ rfl (fun K hK=>?_)
      obtain ⟨zv0,zv1,zv2,zv3,⟨z0,o0⟩,⟨z1,o1⟩,⟨z2,o2⟩,⟨z3,o3⟩⟩:=NumOr.facts H3V_7_2_5_6.out
      obtain ⟨V_7_2_5_6_8,hN⟩:∃ W,W=((((V_7_2_5_6.setCell ⟨g3,0,none⟩ (.int .u64 (x0:Int))).setCell ⟨g3,1,none⟩ (.int .u64 (x1:Int))).setCell ⟨g3,2,none⟩ (.int .u64 (x2:Int))).setCell ⟨g3,3,none⟩ (.int .u64 (x3:Int))):=⟨_,rfl⟩
      go_simp
      rw [←hN]
      have H3V_7_2_5_6_8:Hid (NumOr V_7_2_5_6_8 g3 (some (enc (val lx)))):=lH (by rw [hN];exact NumOr.set H3V_7_2_5_6.out Hx.out)
      have HSV_7_2_5_6_8:=lH (by rw [hN];exact below4 HSV_7_2_5_6.out HG3.out _ _ _ _:Below w3.heap.size w3 V_7_2_5_6_8)
      have H4V_7_2_5_6_8:Hid (NumOr V_7_2_5_6_8 g4 none):=lH (by rw [hN];exact NumOr.aside4 H4V_7_2_5_6.out HNE43.out _ _ _ _)
      clear hN z0 o0 z1 o1 z2 o2 z3 o3 zv0 zv1 zv2 zv3
      refine hK.out _ _ (HSV_7_2_5_6_8.out) (fun hHeld=>?_)
      clear hK K
      try simp only [aP]
      refine rdy 9 ⟨none,.store 67 (.tmp 4) (.tmp 33),0,_,_,none⟩ rfl (fun K hK=>?_)
      obtain ⟨zv0,zv1,zv2,zv3,⟨z0,o0⟩,⟨z1,o1⟩,⟨z2,o2⟩,⟨z3,o3⟩⟩:=NumOr.facts H4V_7_2_5_6_8.out
      obtain ⟨V_7_2_5_6_8_9,hN⟩:∃ W,W=((((V_7_2_5_6_8.setCell ⟨g4,0,none⟩ (.int .u64 (y0:Int))).setCell ⟨g4,1,none⟩ (.int .u64 (y1:Int))).setCell ⟨g4,2,none⟩ (.int .u64 (y2:Int))).setCell ⟨g4,3,none⟩ (.int .u64 (y3:Int))):=⟨_,rfl⟩
      go_simp
      rw [←hN]
      have H4V_7_2_5_6_8_9:Hid (NumOr V_7_2_5_6_8_9 g4 (some (enc (val ly)))):=lH (by rw [hN];exact NumOr.set H4V_7_2_5_6_8.out Hy.out)
      have HSV_7_2_5_6_8_9:=lH (by rw [hN];exact below4 HSV_7_2_5_6_8.out HG4.out _ _ _ _:Below w3.heap.size w3 V_7_2_5_6_8_9)
      have H3V_7_2_5_6_8_9:Hid (NumOr V_7_2_5_6_8_9 g3 (some (enc (val lx)))):=lH (by rw [hN];exact NumOr.aside4 H3V_7_2_5_6_8.out HNE43.out.symm _ _ _ _)
      clear hN z0 o0 z1 o1 z2 o2 z3 o3 zv0 zv1 zv2 zv3
      refine hK.out _ _ (HSV_7_2_5_6_8_9.out) (fun hHeld=>?_)
      clear hK K
      try simp only [aP]
      refine wpAnyH_done (by kernel_rfl) ?_ _
      refine NoPanic.normal ?_
      rw [HQ5.out]
      exact ⟨rfl,g3,g4,_,_,_,_,_,_,_,_,_,_,_,_,_,_,_,_,_,_,_,_,_,_,_,_,_,_,_,_,_,_,_,_,_,_,_,_,_,_,_,_,_,_,_,_,_,_,_,_,_,_,rfl,H3V_7_2_5_6_8_9.out,H4V_7_2_5_6_8_9.out,HSV_7_2_5_6_8_9.out⟩
     refine AllReadyH.cons (o:=⟨some 3,.alloc 67,0,_,_,none⟩) rfl (fun K hK=>?_) AllReadyH.nil
     obtain ⟨V_7_2_6,hN⟩:∃ W,W=V_7_2.alloc (.cells #[.int .u64 0,.int .u64 0,.int .u64 0,.int .u64 0] 67):=⟨_,rfl⟩
     go_simp
     rw [←hN]
     obtain ⟨g3,hg⟩:∃ g,g=V_7_2.heap.size:=⟨_,rfl⟩
     rw [←hg]
     have H3V_7_2_6:Hid (NumOr V_7_2_6 g3 none):=lH (by rw [hN,hg];exact NumOr.fresh _)
     have HSV_7_2_6:=lH (by rw [hN];exact HSV_7_2.out.alloc HSV_7_2.out.size _:Below w3.heap.size w3 V_7_2_6)
     have HG3:Hid (w3.heap.size≤g3):=lH (by rw [hg];exact HSV_7_2.out.size)
     have HNE43:Hid (g4≠g3):=lH (by rw [hg];exact Nat.ne_of_lt H4V_7_2.out.lt)
     have H4V_7_2_6:Hid (NumOr V_7_2_6 g4 none):=lH (by rw [hN];exact NumOr.alloc H4V_7_2.out _)
     clear hN hg
     refine hK.out _ _ (HSV_7_2_6.out) (fun hHeld=>?_)
     clear hK K
     try simp only [aP]
     refine rdy 5 ⟨some 33,.call ⟨ .value (.func 54),#[.tmp 32],#[24]⟩,67,_,_,none⟩ rfl (fun K hK=>?_)
     go_simp
     refine (enterN V_7_2_6 (HM3.out.under HSV_7_2_6.out) w3.heap.size cy Ay ly HSV_7_2_6.out.size (HY3.out.under HSV_7_2_6.out) HLY.out HDY.out Hy.out).mono ?_
     rintro e V_7_2_6_5 ⟨rfl,hbN⟩
     have HSV_7_2_6_5:=lH (HSV_7_2_6.out.trans (hbN.mono HSV_7_2_6.out.size))
     have H4V_7_2_6_5:Hid (NumOr V_7_2_6_5 g4 none):=lH (NumOr.under H4V_7_2_6.out hbN)
     have H3V_7_2_6_5:Hid (NumOr V_7_2_6_5 g3 none):=lH (NumOr.under H3V_7_2_6.out hbN)
     clear hbN
     go_simp
     refine hK.out _ _ (HSV_7_2_6_5.out) (fun hHeld=>?_)
     clear hK K
     try simp only [aP]
     refine rdy 8 ⟨none,.store 67 (.tmp 3) (.tmp 30),0,_,_,none⟩ rfl (fun K hK=>?_)
     obtain ⟨zv0,zv1,zv2,zv3,⟨z0,o0⟩,⟨z1,o1⟩,⟨z2,o2⟩,⟨z3,o3⟩⟩:=NumOr.facts H3V_7_2_6_5.out
     obtain ⟨V_7_2_6_5_8,hN⟩:∃ W,W=((((V_7_2_6_5.setCell ⟨g3,0,none⟩ (.int .u64 (x0:Int))).setCell ⟨g3,1,none⟩ (.int .u64 (x1:Int))).setCell ⟨g3,2,none⟩ (.int .u64 (x2:Int))).setCell ⟨g3,3,none⟩ (.int .u64 (x3:Int))):=⟨_,rfl⟩
     go_simp
     rw [←hN]
     have H3V_7_2_6_5_8:Hid (NumOr V_7_2_6_5_8 g3 (some (enc (val lx)))):=lH (by rw [hN];exact NumOr.set H3V_7_2_6_5.out Hx.out)
     have HSV_7_2_6_5_8:=lH (by rw [hN];exact below4 HSV_7_2_6_5.out HG3.out _ _ _ _:Below w3.heap.size w3 V_7_2_6_5_8)
     have H4V_7_2_6_5_8:Hid (NumOr V_7_2_6_5_8 g4 none):=lH (by rw [hN];exact NumOr.aside4 H4V_7_2_6_5.out HNE43.out _ _ _ _)
     clear hN z0 o0 z1 o1 z2 o2 z3 o3 zv0 zv1 zv2 zv3
     refine hK.out _ _ (HSV_7_2_6_5_8.out) (fun hHeld=>?_)
     clear hK K
     try simp only [aP]
     refine rdy 9 ⟨none,.store 67 (.tmp 4) (.tmp 33),0,_,_,none⟩ rfl (fun K hK=>?_)
     obtain ⟨zv0,zv1,zv2,zv3,⟨z0,o0⟩,⟨z1,o1⟩,⟨z2,o2⟩,⟨z3,o3⟩⟩:=NumOr.facts H4V_7_2_6_5_8.out
     obtain ⟨V_7_2_6_5_8_9,hN⟩:∃ W,W=((((V_7_2_6_5_8.setCell ⟨g4,0,none⟩ (.int .u64 (y0:Int))).setCell ⟨g4,1,none⟩ (.int .u64 (y1:Int))).setCell ⟨g4,2,none⟩ (.int .u64 (y2:Int))).setCell ⟨g4,3,none⟩ (.int .u64 (y3:Int))):=⟨_,rfl⟩
     go_simp
     rw [←hN]
     have H4V_7_2_6_5_8_9:Hid (NumOr V_7_2_6_5_8_9 g4 (some (enc (val ly)))):=lH (by rw [hN];exact NumOr.set H4V_7_2_6_5_8.out Hy.out)
     have HSV_7_2_6_5_8_9:=lH (by rw [hN];exact below4 HSV_7_2_6_5_8.out HG4.out _ _ _ _:Below w3.heap.size w3 V_7_2_6_5_8_9)
     have H3V_7_2_6_5_8_9:Hid (NumOr V_7_2_6_5_8_9 g3 (some (enc (val lx)))):=lH (by rw [hN];exact NumOr.aside4 H3V_7_2_6_5_8.out HNE43.out.symm _ _ _ _)
     clear hN z0 o0 z1 o1 z2 o2 z3 o3 zv0 zv1 zv2 zv3
     refine hK.out _ _ (HSV_7_2_6_5_8_9.out) (fun hHeld=>?_)
     clear hK K
     try simp only [aP]
     refine wpAnyH_done (by kernel_rfl) ?_ _
     refine NoPanic.normal ?_
     rw [HQ5.out]
     exact ⟨rfl,g3,g4,_,_,_,_,_,_,_,_,_,_,_,_,_,_,_,_,_,_,_,_,_,_,_,_,_,_,_,_,_,_,_,_,_,_,_,_,_,_,_,_,_,_,_,_,_,_,_,_,_,_,rfl,H3V_7_2_6_5_8_9.out,H4V_7_2_6_5_8_9.out,HSV_7_2_6_5_8_9.out⟩
    refine AllReadyH.cons (o:=⟨some 3,.alloc 67,0,_,_,none⟩) rfl (fun K hK=>?_) AllReadyH.nil
    obtain ⟨V_7_6,hN⟩:∃ W,W=V_7.alloc (.cells #[.int .u64 0,.int .u64 0,.int .u64 0,.int .u64 0] 67):=⟨_,rfl⟩
    go_simp
    rw [←hN]
    obtain ⟨g3,hg⟩:∃ g,g=V_7.heap.size:=⟨_,rfl⟩
    rw [←hg]
    have H3V_7_6:Hid (NumOr V_7_6 g3 none):=lH (by rw [hN,hg];exact NumOr.fresh _)
    have HSV_7_6:=lH (by rw [hN];exact HSV_7.out.alloc HSV_7.out.size _:Below w3.heap.size w3 V_7_6)
    have HG3:Hid (w3.heap.size≤g3):=lH (by rw [hg];exact HSV_7.out.size)
    have HNE43:Hid (g4≠g3):=lH (by rw [hg];exact Nat.ne_of_lt H4V_7.out.lt)
    have H4V_7_6:Hid (NumOr V_7_6 g4 none):=lH (by rw [hN];exact NumOr.alloc H4V_7.out _)
    clear hN hg
    refine hK.out _ _ (HSV_7_6.out) (fun hHeld=>?_)
    clear hK K
    try simp only [aP]
    refine rdy 2 ⟨some 30,.call ⟨ .value (.func 54),#[.tmp 29],#[24]⟩,67,_,_,none⟩ rfl (fun K hK=>?_)
    go_simp
    refine (enterN V_7_6 (HM3.out.under HSV_7_6.out) w3.heap.size cx Ax lx HSV_7_6.out.size (HX3.out.under HSV_7_6.out) HLX.out HDX.out Hx.out).mono ?_
    rintro e V_7_6_2 ⟨rfl,hbN⟩
    have HSV_7_6_2:=lH (HSV_7_6.out.trans (hbN.mono HSV_7_6.out.size))
    have H4V_7_6_2:Hid (NumOr V_7_6_2 g4 none):=lH (NumOr.under H4V_7_6.out hbN)
    have H3V_7_6_2:Hid (NumOr V_7_6_2 g3 none):=lH (NumOr.under H3V_7_6.out hbN)
    clear hbN
    go_simp
    refine hK.out _ _ (HSV_7_6_2.out) (fun hHeld=>?_)
    clear hK K
    try simp only [aP]
    refine rdy 5 ⟨some 33,.call ⟨ .value (.func 54),#[.tmp 32],#[24]⟩,67,_,_,none⟩ rfl (fun K hK=>?_)
    go_simp
    refine (enterN V_7_6_2 (HM3.out.under HSV_7_6_2.out) w3.heap.size cy Ay ly HSV_7_6_2.out.size (HY3.out.under HSV_7_6_2.out) HLY.out HDY.out Hy.out).mono ?_
    rintro e V_7_6_2_5 ⟨rfl,hbN⟩
    have HSV_7_6_2_5:=lH (HSV_7_6_2.out.trans (hbN.mono HSV_7_6_2.out.size))
    have H4V_7_6_2_5:Hid (NumOr V_7_6_2_5 g4 none):=lH (NumOr.under H4V_7_6_2.out hbN)
    have H3V_7_6_2_5:Hid (NumOr V_7_6_2_5 g3 none):=lH (NumOr.under H3V_7_6_2.out hbN)
    clear hbN
    go_simp
    refine hK.out _ _ (HSV_7_6_2_5.out) (fun hHeld=>?_)
    clear hK K
    try simp only [aP]
    refine rdy 8 ⟨none,.store 67 (.tmp 3) (.tmp 30),0,_,_,none⟩ rfl (fun K hK=>?_)
    obtain ⟨zv0,zv1,zv2,zv3,⟨z0,o0⟩,⟨z1,o1⟩,⟨z2,o2⟩,⟨z3,o3⟩⟩:=NumOr.facts H3V_7_6_2_5.out
    obtain ⟨V_7_6_2_5_8,hN⟩:∃ W,W=((((V_7_6_2_5.setCell ⟨g3,0,none⟩ (.int .u64 (x0:Int))).setCell ⟨g3,1,none⟩ (.int .u64 (x1:Int))).setCell ⟨g3,2,none⟩ (.int .u64 (x2:Int))).setCell ⟨g3,3,none⟩ (.int .u64 (x3:Int))):=⟨_,rfl⟩
    go_simp
    rw [←hN]
    have H3V_7_6_2_5_8:Hid (NumOr V_7_6_2_5_8 g3 (some (enc (val lx)))):=lH (by rw [hN];exact NumOr.set H3V_7_6_2_5.out Hx.out)
    have HSV_7_6_2_5_8:=lH (by rw [hN];exact below4 HSV_7_6_2_5.out HG3.out _ _ _ _:Below w3.heap.size w3 V_7_6_2_5_8)
    have H4V_7_6_2_5_8:Hid (NumOr V_7_6_2_5_8 g4 none):=lH (by rw [hN];exact NumOr.aside4 H4V_7_6_2_5.out HNE43.out _ _ _ _)
    clear hN z0 o0 z1 o1 z2 o2 z3 o3 zv0 zv1 zv2 zv3
    refine hK.out _ _ (HSV_7_6_2_5_8.out) (fun hHeld=>?_)
    clear hK K
    try simp only [aP]
    refine rdy 9 ⟨none,.store 67 (.tmp 4) (.tmp 33),0,_,_,none⟩ rfl (fun K hK=>?_)
    obtain ⟨zv0,zv1,zv2,zv3,⟨z0,o0⟩,⟨z1,o1⟩,⟨z2,o2⟩,⟨z3,o3⟩⟩:=NumOr.facts H4V_7_6_2_5_8.out
    obtain ⟨V_7_6_2_5_8_9,hN⟩:∃ W,W=((((V_7_6_2_5_8.setCell ⟨g4,0,none⟩ (.int .u64 (y0:Int))).setCell ⟨g4,1,none⟩ (.int .u64 (y1:Int))).setCell ⟨g4,2,none⟩ (.int .u64 (y2:Int))).setCell ⟨g4,3,none⟩ (.int .u64 (y3:Int))):=⟨_,rfl⟩
    go_simp
    rw [←hN]
    have H4V_7_6_2_5_8_9:Hid (NumOr V_7_6_2_5_8_9 g4 (some (enc (val ly)))):=lH (by rw [hN];exact NumOr.set H4V_7_6_2_5_8.out Hy.out)
    have HSV_7_6_2_5_8_9:=lH (by rw [hN];exact below4 HSV_7_6_2_5_8.out HG4.out _ _ _ _:Below w3.heap.size w3 V_7_6_2_5_8_9)
    have H3V_7_6_2_5_8_9:Hid (NumOr V_7_6_2_5_8_9 g3 (some (enc (val lx)))):=lH (by rw [hN];exact NumOr.aside4 H3V_7_6_2_5_8.out HNE43.out.symm _ _ _ _)
    clear hN z0 o0 z1 o1 z2 o2 z3 o3 zv0 zv1 zv2 zv3
    refine hK.out _ _ (HSV_7_6_2_5_8_9.out) (fun hHeld=>?_)
    clear hK K
    try simp only [aP]
    refine wpAnyH_done (by kernel_rfl) ?_ _
    refine NoPanic.normal ?_
    rw [HQ5.out]
    exact ⟨rfl,g3,g4,_,_,_,_,_,_,_,_,_,_,_,_,_,_,_,_,_,_,_,_,_,_,_,_,_,_,_,_,_,_,_,_,_,_,_,_,_,_,_,_,_,_,_,_,_,_,_,_,_,_,rfl,H3V_7_6_2_5_8_9.out,H4V_7_6_2_5_8_9.out,HSV_7_6_2_5_8_9.out⟩
end Go.Proofs.YtflfdglpljodbaaDoor
