/- Words and laws for the statement, part 24. -/
import Derived.Test.YtcibjcgipfpniaaGreatDoorG22
import Derived.Test.YtcibjcgipfpniaaGreatDoorG23
namespace Go.Proofs.YtcibjcgipfpniaaGreatDoor
open Go.RowKit
set_option linter.unusedVariables false
set_option linter.unusedSimpArgs false
attribute [local go_sem ↓] Go.wp_at_zero Go.wp_at_succ

set_option maxRecDepth 100000 in
set_option maxHeartbeats 16000000 in
theorem clNode_any (w:World) (xs:List Nat) (cl:Cl) (h:ClP cl w) (hok:crlOk cl.v=true) (hT:Lib.Utf8Tabs 0 1 w) (hsz:∀ x∈cl.iss,(bts x.s).length≤9223372036854775807) (hxs:∀ x∈xs,x<w.heap.size) :
  Calls Tryz.prog 11 #[.agg (ccell cl).toArray] w (MadeT w xs (clTr cl.v)):=by
 obtain ⟨_,_,_,_,_,p6,_⟩:=crlOk_parts hok
 have h6:cl.sig.length≤600:=p6.2
 have HIS0:Hid (∀ W:World,Below w.heap.size w W→Calls Tryz.prog 7 #[.agg (ccell cl).toArray] W fun e w'=>e = .returned (.bool true)∧Below W.heap.size W w'):=Lib.hid fun W hW=>by
  rw [←hok]
  exact crlIs_any W cl (Off.of_c h W hW.size (fun g _ hg=>hW.block g hg)) (Utf8Tabs_below hT hW) hsz
 have HBO0:Hid (∀ (W:World) (ys:List Nat),Below w.heap.size w W→(∀ x∈ys,x<W.heap.size)→Calls Tryz.prog 13 #[.agg (ccell cl).toArray] W (MadeT W ys (clBody cl.v))):=Lib.hid fun W ys hW hy=>clBody_any W ys cl (Off.of_c h W hW.size (fun g _ hg=>hW.block g hg)) hok (Utf8Tabs_below hT hW) hsz hy
 have HBI0:Hid (∀ (W:World) (ys:List Nat),Below w.heap.size w W→(∀ x∈ys,x<W.heap.size)→Calls Tryz.prog 36 #[.slice cl.sa cl.sig.length cl.sc] W (MadeT W ys (.mk 3 (0 :: cl.sig) []))):=Lib.hid fun W ys hW hy=>digs_any W ys cl.sa cl.sc _ W.heap.size cl.sig (Off.of_c h W hW.size (fun g _ hg=>hW.block g hg)).2.2.1 rfl (Nat.le_refl _) (by omega) h.2.2.2 hy
 have HTV:Hid (clTr cl.v = .mk 48 [] [clBody cl.v,.mk 3 (0 :: cl.sig) []]):=Lib.hid rfl
 clear h hok hT hsz p6 h6
 generalize clTr cl.v=TT at *
 generalize clBody cl.v=TB at *
 obtain ⟨ia,ic,iss,ta,tn,ga,gc,gone,sa,sc,sig⟩:=cl
 simp only [ccell] at *
 generalize gone.length=gn at *
 generalize iss.length=isn at *
 generalize sig.length=sn at *
 have hq0:Below w.heap.size w ((w.alloc (.cells #[.slice ia isn ic,.int .i64 ta,.int .i64 tn,.slice ga gn gc,.slice sa sn sc] 26)).alloc (.cells #[.int .u8 0,.slice none 0 0,.slice none 0 0] 32)):=((Below.refl _ _).alloc (Nat.le_refl _) _).alloc (by simp) _
 have hbox:=(Holds.fresh w 26 #[.slice ia isn ic,.int .i64 ta,.int .i64 tn,.slice ga gn gc,.slice sa sn sc]).alloc (.cells #[.int .u8 0,.slice none 0 0,.slice none 0 0] 32)
 have hz:=Holds.fresh (w.alloc (.cells #[.slice ia isn ic,.int .i64 ta,.int .i64 tn,.slice ga gn gc,.slice sa sn sc] 26)) 32 #[.int .u8 0,.slice none 0 0,.slice none 0 0]
 rw [show (w.alloc (.cells #[.slice ia isn ic,.int .i64 ta,.int .i64 tn,.slice ga gn gc,.slice sa sn sc] 26)).heap.size=w.heap.size+1 by simp] at hz
 have hsv:((w.alloc (.cells #[.slice ia isn ic,.int .i64 ta,.int .i64 tn,.slice ga gn gc,.slice sa sn sc] 26)).alloc (.cells #[.int .u8 0,.slice none 0 0,.slice none 0 0] 32)).heap.size=w.heap.size+1+1:=by simp
 have c0:=hbox.cell 0
 have c1:=hbox.cell 1
 have c2:=hbox.cell 2
 have c3:=hbox.cell 3
 have c4:=hbox.cell 4
 obtain ⟨V,hV⟩:∃ V,V=((w.alloc (.cells #[.slice ia isn ic,.int .i64 ta,.int .i64 tn,.slice ga gn gc,.slice sa sn sc] 26)).alloc (.cells #[.int .u8 0,.slice none 0 0,.slice none 0 0] 32)):=⟨_,rfl⟩
 rw [←hV] at hq0 hbox hz hsv
 have HB0:=Lib.hid hq0
 have HBX:=Lib.hid hbox
 have HZ:=Lib.hid hz
 have HSV:=Lib.hid hsv
 have HXS:Hid (∀ W:World,V.heap.size≤W.heap.size→∀ x∈(w.heap.size+1) :: xs,x<W.heap.size):=Lib.hid fun W hW x hx=>by
  rcases List.mem_cons.1 hx with rfl | hx
  ·omega
  ·have:=hxs x hx;omega
 have HV:=Lib.hid hV
 clear hV hq0 hbox hz hsv hxs
 go_enter Tryz.func11,Tryz.ntmps11
 go_wp2_with fail
 rw [←HV.out]
 clear HV c0 c1 c2 c3 c4
 refine (HIS0.out V HB0.out).mono ?_
 rintro e wr ⟨rfl,hb2⟩
 have HB2:=Lib.hid hb2
 have HBW:=Lib.hid (HB0.out.trans (hb2.mono HB0.out.size))
 have HBXr:=Lib.hid (HBX.out.under hb2 HBX.out.lt)
 have HZr:=Lib.hid (HZ.out.under hb2 HZ.out.lt)
 clear hb2 HIS0
 go_wp2_with fail
 have HS:Hid (∀ W,Below wr.heap.size wr W→(fun W=>W.cell? ⟨w.heap.size,0,none⟩=some (.slice ia isn ic)∧W.cell? ⟨w.heap.size,1,none⟩=some (.int .i64 ta)∧W.cell? ⟨w.heap.size,2,none⟩=some (.int .i64 tn)∧W.cell? ⟨w.heap.size,3,none⟩=some (.slice ga gn gc)∧W.cell? ⟨w.heap.size,4,none⟩=some (.slice sa sn sc)) W):=Lib.hid fun W hW=>by
  have h:=HBXr.out.under hW HBXr.out.lt
  exact ⟨h.cell 0,h.cell 1,h.cell 2,h.cell 3,h.cell 4⟩
 have HBD:Hid (∀ W,Below wr.heap.size wr W→∀ x∈((w.heap.size+1) :: xs),x<W.heap.size):=Lib.hid fun W hW=>HXS.out W (Nat.le_trans HB2.out.size hW.size)
 have HWW:Hid (∀ W,Below wr.heap.size wr W→Below w.heap.size w W):=Lib.hid fun W hW=>HBW.out.trans (hW.mono HBW.out.size)
 refine wp_region_noPanic ?_
 refine wp_region_held_drew (S:=(fun W=>W.cell? ⟨w.heap.size,0,none⟩=some (.slice ia isn ic)∧W.cell? ⟨w.heap.size,1,none⟩=some (.int .i64 ta)∧W.cell? ⟨w.heap.size,2,none⟩=some (.int .i64 tn)∧W.cell? ⟨w.heap.size,3,none⟩=some (.slice ga gn gc)∧W.cell? ⟨w.heap.size,4,none⟩=some (.slice sa sn sc))) (by kernel_rfl) (HS.out _ (Below.refl _ wr).drew) (fun hHeld=>?_)
 refine wpAnyH_take (i:=0) (oi:={ dst:=some 7,op:=Op.load 26 (Operand.tmp 1),type:=26,pos:=_,after:=_,guard:=none }) (v:=?_) rfl (by kernel_rfl) (by kernel_rfl) (by kernel_rfl) (fun _ _ _ h=>h) (Or.inl ⟨by rfl,?_⟩) hHeld ?_
 rotate_left 1
 ·(intro W hW;obtain ⟨k0,k1,k2,k3,k4⟩:=hW;(try dsimp only at hW);go_simp;try with_reducible rfl)
 try simp only [Act.put,List.setIfInBounds_toArray,List.set_cons_zero,List.set_cons_succ]
 refine wpAnyH_take (i:=2) (oi:={ dst:=some 9,op:=Op.fieldAddr 26 (Operand.tmp 1) 4,type:=0,pos:=_,after:=_,guard:=none }) (v:=?_) rfl (by kernel_rfl) (by kernel_rfl) (by kernel_rfl) (fun _ _ _ h=>h) (Or.inl ⟨by rfl,?_⟩) hHeld ?_
 rotate_left 1
 ·(intro W hW;(try dsimp only at hW);go_simp;try with_reducible rfl)
 try simp only [Act.put,List.setIfInBounds_toArray,List.set_cons_zero,List.set_cons_succ]
 refine wpAnyH_take (i:=3) (oi:={ dst:=some 10,op:=Op.load 24 (Operand.tmp 9),type:=24,pos:=_,after:=_,guard:=none }) (v:=?_) rfl (by kernel_rfl) (by kernel_rfl) (by kernel_rfl) (fun _ _ _ h=>h) (Or.inl ⟨by rfl,?_⟩) hHeld ?_
 rotate_left 1
 ·(intro W hW;obtain ⟨_,_,_,_,k4⟩:=hW;(try dsimp only at hW);go_simp;try with_reducible rfl)
 try simp only [Act.put,List.setIfInBounds_toArray,List.set_cons_zero,List.set_cons_succ]
 refine wpAnyH_ready (rs:=[1]) (by kernel_rfl) (by simp) ?_
 refine AllReadyH.cons (o:={ dst:=some 8,op:=Op.call { callee:=Callee.value (Operand.func 13),args:=#[Operand.tmp 7],argTypes:=#[26] },type:=32,pos:=_,after:=_,guard:=none }) rfl (fun K hK=>?_) AllReadyH.nil
 go_simp
 have D20:Hid (Below wr.heap.size wr wr.drew):=Lib.hid (Below.refl _ wr).drew
 refine (HBO0.out _ ((w.heap.size+1) :: xs) (HWW.out _ D20.out) (HBD.out _ D20.out)).mono ?_
 intro e w21 hm
 obtain ⟨lt21,t21,a21,n21,c21,k21,m21,d21,rfl,h6,hlt',hoff,hb⟩:=MadeT.six hm
 have b21:Hid (Below wr.heap.size wr w21):=Lib.hid ((Below.refl _ wr).drew.trans hb)
 have R21:=Lib.hid (b21.out)
 have S21:=Lib.hid (HS.out _ R21.out)
 have HS21:=Lib.hid h6
 have HT21:=Lib.hid hlt'
 have HO21:=Lib.hid hoff
 clear hm hb h6 hlt' hoff
 go_simp
 refine hK.out _ _ (S21.out) (fun _=>?_)
 clear hK K hHeld
 try simp only [Act.put,List.setIfInBounds_toArray,List.set_cons_zero,List.set_cons_succ]
 have hHeld:((fun W=>W.cell? ⟨w.heap.size,0,none⟩=some (.slice ia isn ic)∧W.cell? ⟨w.heap.size,1,none⟩=some (.int .i64 ta)∧W.cell? ⟨w.heap.size,2,none⟩=some (.int .i64 tn)∧W.cell? ⟨w.heap.size,3,none⟩=some (.slice ga gn gc)∧W.cell? ⟨w.heap.size,4,none⟩=some (.slice sa sn sc))) w21:=S21.out
 refine wpAnyH_ready (rs:=[4]) (by kernel_rfl) (by simp) ?_
 refine AllReadyH.cons (o:={ dst:=some 11,op:=Op.call { callee:=Callee.value (Operand.func 36),args:=#[Operand.tmp 10],argTypes:=#[24] },type:=32,pos:=_,after:=_,guard:=none }) rfl (fun K hK=>?_) AllReadyH.nil
 go_simp
 refine (HBI0.out _ ((w.heap.size+1) :: xs) (HWW.out _ R21.out) (HBD.out _ R21.out)).mono ?_
 intro e w22 hm
 obtain ⟨lt22,t22,a22,n22,c22,k22,m22,d22,rfl,h6,hlt',hoff,hb⟩:=MadeT.six hm
 have b22:Hid (Below w21.heap.size w21 w22):=Lib.hid (hb)
 have R22:=Lib.hid (R21.out.trans (b22.out.mono R21.out.size))
 have S22:=Lib.hid (HS.out _ R22.out)
 have HS22:=Lib.hid h6
 have HT22:=Lib.hid hlt'
 have HO22:=Lib.hid hoff
 clear hm hb h6 hlt' hoff
 go_simp
 refine hK.out _ _ (S22.out) (fun _=>?_)
 clear hK K hHeld
 try simp only [Act.put,List.setIfInBounds_toArray,List.set_cons_zero,List.set_cons_succ]
 have hHeld:((fun W=>W.cell? ⟨w.heap.size,0,none⟩=some (.slice ia isn ic)∧W.cell? ⟨w.heap.size,1,none⟩=some (.int .i64 ta)∧W.cell? ⟨w.heap.size,2,none⟩=some (.int .i64 tn)∧W.cell? ⟨w.heap.size,3,none⟩=some (.slice ga gn gc)∧W.cell? ⟨w.heap.size,4,none⟩=some (.slice sa sn sc))) w22:=S22.out
 refine wpAnyH_ready (rs:=[5]) (by kernel_rfl) (by simp) ?_
 refine AllReadyH.cons (o:={ dst:=some 12,op:=Op.buildSlice 30 2 #[(0,Operand.tmp 8),(1,Operand.tmp 11)],type:=30,pos:=_,after:=_,guard:=none }) rfl (fun K hK=>?_) AllReadyH.nil
 go_simp
 obtain ⟨w24,hw⟩:∃ W,W=w22.alloc (.cells #[.int .u8 (t21:Int),.slice a21 n21 c21,.slice k21 m21 d21,.int .u8 (t22:Int),.slice a22 n22 c22,.slice k22 m22 d22] 32):=⟨_,rfl⟩
 rw [←hw]
 have b24:Hid (Below w22.heap.size w22 w24):=Lib.hid (by rw [hw];exact (Below.refl _ _).alloc (Nat.le_refl _) _)
 have R24:=Lib.hid (R22.out.trans (b24.out.mono R22.out.size))
 have S24:=Lib.hid (HS.out _ R24.out)
 have HP24:Hid (Off ((w.heap.size+1) :: xs) (KiP (some ⟨w22.heap.size,0,none⟩) 2 [lt21,lt22]) w24):=Lib.hid (by rw [hw];exact row66 (HO21.out.under b22.out) HS21.out HO22.out HS22.out (fun hx=>Nat.lt_irrefl _ (HBD.out _ R22.out _ hx)))
 clear hw
 refine hK.out _ _ (S24.out) (fun _=>?_)
 clear hK K hHeld
 try simp only [Act.put,List.setIfInBounds_toArray,List.set_cons_zero,List.set_cons_succ]
 have hHeld:((fun W=>W.cell? ⟨w.heap.size,0,none⟩=some (.slice ia isn ic)∧W.cell? ⟨w.heap.size,1,none⟩=some (.int .i64 ta)∧W.cell? ⟨w.heap.size,2,none⟩=some (.int .i64 tn)∧W.cell? ⟨w.heap.size,3,none⟩=some (.slice ga gn gc)∧W.cell? ⟨w.heap.size,4,none⟩=some (.slice sa sn sc))) w24:=S24.out
 refine wpAnyH_ready (rs:=[6]) (by kernel_rfl) (by simp) ?_
 refine AllReadyH.cons (o:={ dst:=some 13,op:=Op.call { callee:=Callee.value (Operand.func 35),args:=#[Operand.const (Value.int IntKind.u8 48),Operand.tmp 12],argTypes:=#[5,30] },type:=32,pos:=_,after:=_,guard:=none }) rfl (fun K hK=>?_) AllReadyH.nil
 go_simp
 refine (seq_any _ ((w.heap.size+1) :: xs) 48 2 2 _ [lt21,lt22] HP24.out rfl (by omega) (by omega) (HBD.out _ R24.out)).mono ?_
 intro e w25 hm
 obtain ⟨lt25,t25,a25,n25,c25,k25,m25,d25,rfl,h6,hlt',hoff,hb⟩:=MadeT.six hm
 have b25:Hid (Below w24.heap.size w24 w25):=Lib.hid (hb)
 have R25:=Lib.hid (R24.out.trans (b25.out.mono R24.out.size))
 have S25:=Lib.hid (HS.out _ R25.out)
 have HS25:=Lib.hid h6
 have HT25:=Lib.hid hlt'
 have HO25:=Lib.hid hoff
 clear hm hb h6 hlt' hoff
 have hz25:=HZr.out.under R25.out HZr.out.lt
 have HZ25:=Lib.hid hz25
 have x0:=hz25.cell 0
 have x1:=hz25.cell 1
 have x2:=hz25.cell 2
 have y0:=hz25.open_ 0
 have y1:=hz25.open_ 1
 have y2:=hz25.open_ 2
 have S26:Hid ((fun W=>W.cell? ⟨w.heap.size,0,none⟩=some (.slice ia isn ic)∧W.cell? ⟨w.heap.size,1,none⟩=some (.int .i64 ta)∧W.cell? ⟨w.heap.size,2,none⟩=some (.int .i64 tn)∧W.cell? ⟨w.heap.size,3,none⟩=some (.slice ga gn gc)∧W.cell? ⟨w.heap.size,4,none⟩=some (.slice sa sn sc)) (((w25.setCell ⟨w.heap.size+1,0,none⟩ (.int .u8 (t25:Int))).setCell ⟨w.heap.size+1,1,none⟩ (.slice a25 n25 c25)).setCell ⟨w.heap.size+1,2,none⟩ (.slice k25 m25 d25))):=Lib.hid (by
  have hne:w.heap.size≠w.heap.size+1:=by omega
  have h:=S25.out
  refine ⟨?_,?_,?_,?_,?_⟩
  ·rw [cell_ne hne,cell_ne hne,cell_ne hne];exact h.1
  ·rw [cell_ne hne,cell_ne hne,cell_ne hne];exact h.2.1
  ·rw [cell_ne hne,cell_ne hne,cell_ne hne];exact h.2.2.1
  ·rw [cell_ne hne,cell_ne hne,cell_ne hne];exact h.2.2.2.1
  ·rw [cell_ne hne,cell_ne hne,cell_ne hne];exact h.2.2.2.2)
 clear hz25
 go_simp
 refine hK.out _ _ (S25.out) (fun _=>?_)
 clear hK K hHeld
 try simp only [Act.put,List.setIfInBounds_toArray,List.set_cons_zero,List.set_cons_succ]
 have hHeld:((fun W=>W.cell? ⟨w.heap.size,0,none⟩=some (.slice ia isn ic)∧W.cell? ⟨w.heap.size,1,none⟩=some (.int .i64 ta)∧W.cell? ⟨w.heap.size,2,none⟩=some (.int .i64 tn)∧W.cell? ⟨w.heap.size,3,none⟩=some (.slice ga gn gc)∧W.cell? ⟨w.heap.size,4,none⟩=some (.slice sa sn sc))) w25:=S25.out
 refine wpAnyH_ready (rs:=[7]) (by kernel_rfl) (by simp) ?_
 refine AllReadyH.cons (o:={ dst:=none,op:=Op.store 32 (Operand.tmp 2) (Operand.tmp 13),type:=0,pos:=_,after:=_,guard:=none }) rfl (fun K hK=>?_) AllReadyH.nil
 go_simp
 refine hK.out _ _ (S26.out) (fun _=>?_)
 clear hK K hHeld
 try simp only [Act.put,List.setIfInBounds_toArray,List.set_cons_zero,List.set_cons_succ]
 have hHeld:((fun W=>W.cell? ⟨w.heap.size,0,none⟩=some (.slice ia isn ic)∧W.cell? ⟨w.heap.size,1,none⟩=some (.int .i64 ta)∧W.cell? ⟨w.heap.size,2,none⟩=some (.int .i64 tn)∧W.cell? ⟨w.heap.size,3,none⟩=some (.slice ga gn gc)∧W.cell? ⟨w.heap.size,4,none⟩=some (.slice sa sn sc))) (((w25.setCell ⟨w.heap.size+1,0,none⟩ (.int .u8 (t25:Int))).setCell ⟨w.heap.size+1,1,none⟩ (.slice a25 n25 c25)).setCell ⟨w.heap.size+1,2,none⟩ (.slice k25 m25 d25)):=S26.out
 refine wpAnyH_done (by kernel_rfl) ?_ _
 refine NoPanic.normal ?_
 have HTE:Hid (lt25.t=TT):=Lib.hid (by rw [HTV.out];rw [HT25.out];simp [HT21.out,HT22.out])
 have HLT:Hid (lt25.val = .agg #[.int .u8 (t25:Int),.slice a25 n25 c25,.slice k25 m25 d25]):=Lib.hid (Of6.val HS25.out)
 have HBE:=Lib.hid (HWW.out _ R25.out)
 go_wp2_with fail
 refine ret_one rfl rfl (((HZ25.out.stored 0 _).stored 1 _).stored 2 _) rfl ?_
 exact ⟨lt25,by rw [HLT.out];rfl,HTE.out,made_outG HO25.out _ _ _,below_outG HBE.out (by omega) _ _ _⟩
set_option maxRecDepth 100000 in
set_option maxHeartbeats 16000000 in
theorem clNode'_any (w:World) (xs:List Nat) (cl:Cl) (h:ClP cl w) (hok:crlOk cl.v=true) (hxs:∀ x∈xs,x<w.heap.size) :
  Calls Tryz.prog 12 #[.agg (ccell cl).toArray] w (MadeT w xs (clTr cl.v)):=by
 obtain ⟨_,_,_,_,_,p6,_⟩:=crlOk_parts hok
 have h6:cl.sig.length≤600:=p6.2
 have HIS0:Hid (∀ W:World,Below w.heap.size w W→Calls Tryz.prog 6 #[.agg (ccell cl).toArray] W fun e w'=>e = .returned (.bool true)∧Below W.heap.size W w'):=Lib.hid fun W hW=>by
  rw [←hok]
  exact crlIs'_any W cl (Off.of_c h W hW.size (fun g _ hg=>hW.block g hg))
 have HBO0:Hid (∀ (W:World) (ys:List Nat),Below w.heap.size w W→(∀ x∈ys,x<W.heap.size)→Calls Tryz.prog 14 #[.agg (ccell cl).toArray] W (MadeT W ys (clBody cl.v))):=Lib.hid fun W ys hW hy=>clBody'_any W ys cl (Off.of_c h W hW.size (fun g _ hg=>hW.block g hg)) hok hy
 have HBI0:Hid (∀ (W:World) (ys:List Nat),Below w.heap.size w W→(∀ x∈ys,x<W.heap.size)→Calls Tryz.prog 38 #[.slice cl.sa cl.sig.length cl.sc] W (MadeT W ys (.mk 3 (0 :: cl.sig) []))):=Lib.hid fun W ys hW hy=>digs'_any W ys cl.sa cl.sc _ W.heap.size cl.sig (Off.of_c h W hW.size (fun g _ hg=>hW.block g hg)).2.2.1 rfl (Nat.le_refl _) (by omega) h.2.2.2 hy
 have HTV:Hid (clTr cl.v = .mk 48 [] [clBody cl.v,.mk 3 (0 :: cl.sig) []]):=Lib.hid rfl
 clear h hok p6 h6
 generalize clTr cl.v=TT at *
 generalize clBody cl.v=TB at *
 obtain ⟨ia,ic,iss,ta,tn,ga,gc,gone,sa,sc,sig⟩:=cl
 simp only [ccell] at *
 generalize gone.length=gn at *
 generalize iss.length=isn at *
 generalize sig.length=sn at *
 have hq0:Below w.heap.size w ((w.alloc (.cells #[.slice ia isn ic,.int .i64 ta,.int .i64 tn,.slice ga gn gc,.slice sa sn sc] 26)).alloc (.cells #[.int .u8 0,.slice none 0 0,.slice none 0 0] 32)):=((Below.refl _ _).alloc (Nat.le_refl _) _).alloc (by simp) _
 have hbox:=(Holds.fresh w 26 #[.slice ia isn ic,.int .i64 ta,.int .i64 tn,.slice ga gn gc,.slice sa sn sc]).alloc (.cells #[.int .u8 0,.slice none 0 0,.slice none 0 0] 32)
 have hz:=Holds.fresh (w.alloc (.cells #[.slice ia isn ic,.int .i64 ta,.int .i64 tn,.slice ga gn gc,.slice sa sn sc] 26)) 32 #[.int .u8 0,.slice none 0 0,.slice none 0 0]
 rw [show (w.alloc (.cells #[.slice ia isn ic,.int .i64 ta,.int .i64 tn,.slice ga gn gc,.slice sa sn sc] 26)).heap.size=w.heap.size+1 by simp] at hz
 have hsv:((w.alloc (.cells #[.slice ia isn ic,.int .i64 ta,.int .i64 tn,.slice ga gn gc,.slice sa sn sc] 26)).alloc (.cells #[.int .u8 0,.slice none 0 0,.slice none 0 0] 32)).heap.size=w.heap.size+1+1:=by simp
 have c0:=hbox.cell 0
 have c1:=hbox.cell 1
 have c2:=hbox.cell 2
 have c3:=hbox.cell 3
 have c4:=hbox.cell 4
 obtain ⟨V,hV⟩:∃ V,V=((w.alloc (.cells #[.slice ia isn ic,.int .i64 ta,.int .i64 tn,.slice ga gn gc,.slice sa sn sc] 26)).alloc (.cells #[.int .u8 0,.slice none 0 0,.slice none 0 0] 32)):=⟨_,rfl⟩
 rw [←hV] at hq0 hbox hz hsv
 have HB0:=Lib.hid hq0
 have HBX:=Lib.hid hbox
 have HZ:=Lib.hid hz
 have HSV:=Lib.hid hsv
 have HXS:Hid (∀ W:World,V.heap.size≤W.heap.size→∀ x∈(w.heap.size+1) :: xs,x<W.heap.size):=Lib.hid fun W hW x hx=>by
  rcases List.mem_cons.1 hx with rfl | hx
  ·omega
  ·have:=hxs x hx;omega
 have HV:=Lib.hid hV
 clear hV hq0 hbox hz hsv hxs
 go_enter Tryz.func12,Tryz.ntmps12
 go_wp2_with fail
 rw [←HV.out]
 clear HV c0 c1 c2 c3 c4
 refine (HIS0.out V HB0.out).mono ?_
 rintro e wr ⟨rfl,hb2⟩
 have HB2:=Lib.hid hb2
 have HBW:=Lib.hid (HB0.out.trans (hb2.mono HB0.out.size))
 have HBXr:=Lib.hid (HBX.out.under hb2 HBX.out.lt)
 have HZr:=Lib.hid (HZ.out.under hb2 HZ.out.lt)
 clear hb2 HIS0
 go_wp2_with fail
 have HS:Hid (∀ W,Below wr.heap.size wr W→(fun W=>W.cell? ⟨w.heap.size,0,none⟩=some (.slice ia isn ic)∧W.cell? ⟨w.heap.size,1,none⟩=some (.int .i64 ta)∧W.cell? ⟨w.heap.size,2,none⟩=some (.int .i64 tn)∧W.cell? ⟨w.heap.size,3,none⟩=some (.slice ga gn gc)∧W.cell? ⟨w.heap.size,4,none⟩=some (.slice sa sn sc)) W):=Lib.hid fun W hW=>by
  have h:=HBXr.out.under hW HBXr.out.lt
  exact ⟨h.cell 0,h.cell 1,h.cell 2,h.cell 3,h.cell 4⟩
 have HBD:Hid (∀ W,Below wr.heap.size wr W→∀ x∈((w.heap.size+1) :: xs),x<W.heap.size):=Lib.hid fun W hW=>HXS.out W (Nat.le_trans HB2.out.size hW.size)
 have HWW:Hid (∀ W,Below wr.heap.size wr W→Below w.heap.size w W):=Lib.hid fun W hW=>HBW.out.trans (hW.mono HBW.out.size)
 refine wp_region_noPanic ?_
 refine wp_region_held_drew (S:=(fun W=>W.cell? ⟨w.heap.size,0,none⟩=some (.slice ia isn ic)∧W.cell? ⟨w.heap.size,1,none⟩=some (.int .i64 ta)∧W.cell? ⟨w.heap.size,2,none⟩=some (.int .i64 tn)∧W.cell? ⟨w.heap.size,3,none⟩=some (.slice ga gn gc)∧W.cell? ⟨w.heap.size,4,none⟩=some (.slice sa sn sc))) (by kernel_rfl) (HS.out _ (Below.refl _ wr).drew) (fun hHeld=>?_)
 refine wpAnyH_take (i:=0) (oi:={ dst:=some 7,op:=Op.load 26 (Operand.tmp 1),type:=26,pos:=_,after:=_,guard:=none }) (v:=?_) rfl (by kernel_rfl) (by kernel_rfl) (by kernel_rfl) (fun _ _ _ h=>h) (Or.inl ⟨by rfl,?_⟩) hHeld ?_
 rotate_left 1
 ·(intro W hW;obtain ⟨k0,k1,k2,k3,k4⟩:=hW;(try dsimp only at hW);go_simp;try with_reducible rfl)
 try simp only [Act.put,List.setIfInBounds_toArray,List.set_cons_zero,List.set_cons_succ]
 refine wpAnyH_take (i:=2) (oi:={ dst:=some 9,op:=Op.fieldAddr 26 (Operand.tmp 1) 4,type:=0,pos:=_,after:=_,guard:=none }) (v:=?_) rfl (by kernel_rfl) (by kernel_rfl) (by kernel_rfl) (fun _ _ _ h=>h) (Or.inl ⟨by rfl,?_⟩) hHeld ?_
 rotate_left 1
 ·(intro W hW;(try dsimp only at hW);go_simp;try with_reducible rfl)
 try simp only [Act.put,List.setIfInBounds_toArray,List.set_cons_zero,List.set_cons_succ]
 refine wpAnyH_take (i:=3) (oi:={ dst:=some 10,op:=Op.load 24 (Operand.tmp 9),type:=24,pos:=_,after:=_,guard:=none }) (v:=?_) rfl (by kernel_rfl) (by kernel_rfl) (by kernel_rfl) (fun _ _ _ h=>h) (Or.inl ⟨by rfl,?_⟩) hHeld ?_
 rotate_left 1
 ·(intro W hW;obtain ⟨_,_,_,_,k4⟩:=hW;(try dsimp only at hW);go_simp;try with_reducible rfl)
 try simp only [Act.put,List.setIfInBounds_toArray,List.set_cons_zero,List.set_cons_succ]
 refine wpAnyH_ready (rs:=[1]) (by kernel_rfl) (by simp) ?_
 refine AllReadyH.cons (o:={ dst:=some 8,op:=Op.call { callee:=Callee.value (Operand.func 14),args:=#[Operand.tmp 7],argTypes:=#[26] },type:=32,pos:=_,after:=_,guard:=none }) rfl (fun K hK=>?_) AllReadyH.nil
 go_simp
 have D20:Hid (Below wr.heap.size wr wr.drew):=Lib.hid (Below.refl _ wr).drew
 refine (HBO0.out _ ((w.heap.size+1) :: xs) (HWW.out _ D20.out) (HBD.out _ D20.out)).mono ?_
 intro e w21 hm
 obtain ⟨lt21,t21,a21,n21,c21,k21,m21,d21,rfl,h6,hlt',hoff,hb⟩:=MadeT.six hm
 have b21:Hid (Below wr.heap.size wr w21):=Lib.hid ((Below.refl _ wr).drew.trans hb)
 have R21:=Lib.hid (b21.out)
 have S21:=Lib.hid (HS.out _ R21.out)
 have HS21:=Lib.hid h6
 have HT21:=Lib.hid hlt'
 have HO21:=Lib.hid hoff
 clear hm hb h6 hlt' hoff
 go_simp
 refine hK.out _ _ (S21.out) (fun _=>?_)
 clear hK K hHeld
 try simp only [Act.put,List.setIfInBounds_toArray,List.set_cons_zero,List.set_cons_succ]
 have hHeld:((fun W=>W.cell? ⟨w.heap.size,0,none⟩=some (.slice ia isn ic)∧W.cell? ⟨w.heap.size,1,none⟩=some (.int .i64 ta)∧W.cell? ⟨w.heap.size,2,none⟩=some (.int .i64 tn)∧W.cell? ⟨w.heap.size,3,none⟩=some (.slice ga gn gc)∧W.cell? ⟨w.heap.size,4,none⟩=some (.slice sa sn sc))) w21:=S21.out
 refine wpAnyH_ready (rs:=[4]) (by kernel_rfl) (by simp) ?_
 refine AllReadyH.cons (o:={ dst:=some 11,op:=Op.call { callee:=Callee.value (Operand.func 38),args:=#[Operand.tmp 10],argTypes:=#[24] },type:=32,pos:=_,after:=_,guard:=none }) rfl (fun K hK=>?_) AllReadyH.nil
 go_simp
 refine (HBI0.out _ ((w.heap.size+1) :: xs) (HWW.out _ R21.out) (HBD.out _ R21.out)).mono ?_
 intro e w22 hm
 obtain ⟨lt22,t22,a22,n22,c22,k22,m22,d22,rfl,h6,hlt',hoff,hb⟩:=MadeT.six hm
 have b22:Hid (Below w21.heap.size w21 w22):=Lib.hid (hb)
 have R22:=Lib.hid (R21.out.trans (b22.out.mono R21.out.size))
 have S22:=Lib.hid (HS.out _ R22.out)
 have HS22:=Lib.hid h6
 have HT22:=Lib.hid hlt'
 have HO22:=Lib.hid hoff
 clear hm hb h6 hlt' hoff
 go_simp
 refine hK.out _ _ (S22.out) (fun _=>?_)
 clear hK K hHeld
 try simp only [Act.put,List.setIfInBounds_toArray,List.set_cons_zero,List.set_cons_succ]
 have hHeld:((fun W=>W.cell? ⟨w.heap.size,0,none⟩=some (.slice ia isn ic)∧W.cell? ⟨w.heap.size,1,none⟩=some (.int .i64 ta)∧W.cell? ⟨w.heap.size,2,none⟩=some (.int .i64 tn)∧W.cell? ⟨w.heap.size,3,none⟩=some (.slice ga gn gc)∧W.cell? ⟨w.heap.size,4,none⟩=some (.slice sa sn sc))) w22:=S22.out
 refine wpAnyH_ready (rs:=[5]) (by kernel_rfl) (by simp) ?_
 refine AllReadyH.cons (o:={ dst:=some 12,op:=Op.buildSlice 30 2 #[(0,Operand.tmp 8),(1,Operand.tmp 11)],type:=30,pos:=_,after:=_,guard:=none }) rfl (fun K hK=>?_) AllReadyH.nil
 go_simp
 obtain ⟨w24,hw⟩:∃ W,W=w22.alloc (.cells #[.int .u8 (t21:Int),.slice a21 n21 c21,.slice k21 m21 d21,.int .u8 (t22:Int),.slice a22 n22 c22,.slice k22 m22 d22] 32):=⟨_,rfl⟩
 rw [←hw]
 have b24:Hid (Below w22.heap.size w22 w24):=Lib.hid (by rw [hw];exact (Below.refl _ _).alloc (Nat.le_refl _) _)
 have R24:=Lib.hid (R22.out.trans (b24.out.mono R22.out.size))
 have S24:=Lib.hid (HS.out _ R24.out)
 have HP24:Hid (Off ((w.heap.size+1) :: xs) (KiP (some ⟨w22.heap.size,0,none⟩) 2 [lt21,lt22]) w24):=Lib.hid (by rw [hw];exact row66 (HO21.out.under b22.out) HS21.out HO22.out HS22.out (fun hx=>Nat.lt_irrefl _ (HBD.out _ R22.out _ hx)))
 clear hw
 refine hK.out _ _ (S24.out) (fun _=>?_)
 clear hK K hHeld
 try simp only [Act.put,List.setIfInBounds_toArray,List.set_cons_zero,List.set_cons_succ]
 have hHeld:((fun W=>W.cell? ⟨w.heap.size,0,none⟩=some (.slice ia isn ic)∧W.cell? ⟨w.heap.size,1,none⟩=some (.int .i64 ta)∧W.cell? ⟨w.heap.size,2,none⟩=some (.int .i64 tn)∧W.cell? ⟨w.heap.size,3,none⟩=some (.slice ga gn gc)∧W.cell? ⟨w.heap.size,4,none⟩=some (.slice sa sn sc))) w24:=S24.out
 refine wpAnyH_ready (rs:=[6]) (by kernel_rfl) (by simp) ?_
 refine AllReadyH.cons (o:={ dst:=some 13,op:=Op.call { callee:=Callee.value (Operand.func 37),args:=#[Operand.const (Value.int IntKind.u8 48),Operand.tmp 12],argTypes:=#[5,30] },type:=32,pos:=_,after:=_,guard:=none }) rfl (fun K hK=>?_) AllReadyH.nil
 go_simp
 refine (seq'_any _ ((w.heap.size+1) :: xs) 48 2 2 _ [lt21,lt22] HP24.out rfl (by omega)).mono ?_
 intro e w25 hm
 obtain ⟨lt25,t25,a25,n25,c25,k25,m25,d25,rfl,h6,hlt',hoff,hb⟩:=MadeT.six hm
 have b25:Hid (Below w24.heap.size w24 w25):=Lib.hid (hb)
 have R25:=Lib.hid (R24.out.trans (b25.out.mono R24.out.size))
 have S25:=Lib.hid (HS.out _ R25.out)
 have HS25:=Lib.hid h6
 have HT25:=Lib.hid hlt'
 have HO25:=Lib.hid hoff
 clear hm hb h6 hlt' hoff
 have hz25:=HZr.out.under R25.out HZr.out.lt
 have HZ25:=Lib.hid hz25
 have x0:=hz25.cell 0
 have x1:=hz25.cell 1
 have x2:=hz25.cell 2
 have y0:=hz25.open_ 0
 have y1:=hz25.open_ 1
 have y2:=hz25.open_ 2
 have S26:Hid ((fun W=>W.cell? ⟨w.heap.size,0,none⟩=some (.slice ia isn ic)∧W.cell? ⟨w.heap.size,1,none⟩=some (.int .i64 ta)∧W.cell? ⟨w.heap.size,2,none⟩=some (.int .i64 tn)∧W.cell? ⟨w.heap.size,3,none⟩=some (.slice ga gn gc)∧W.cell? ⟨w.heap.size,4,none⟩=some (.slice sa sn sc)) (((w25.setCell ⟨w.heap.size+1,0,none⟩ (.int .u8 (t25:Int))).setCell ⟨w.heap.size+1,1,none⟩ (.slice a25 n25 c25)).setCell ⟨w.heap.size+1,2,none⟩ (.slice k25 m25 d25))):=Lib.hid (by
  have hne:w.heap.size≠w.heap.size+1:=by omega
  have h:=S25.out
  refine ⟨?_,?_,?_,?_,?_⟩
  ·rw [cell_ne hne,cell_ne hne,cell_ne hne];exact h.1
  ·rw [cell_ne hne,cell_ne hne,cell_ne hne];exact h.2.1
  ·rw [cell_ne hne,cell_ne hne,cell_ne hne];exact h.2.2.1
  ·rw [cell_ne hne,cell_ne hne,cell_ne hne];exact h.2.2.2.1
  ·rw [cell_ne hne,cell_ne hne,cell_ne hne];exact h.2.2.2.2)
 clear hz25
 go_simp
 refine hK.out _ _ (S25.out) (fun _=>?_)
 clear hK K hHeld
 try simp only [Act.put,List.setIfInBounds_toArray,List.set_cons_zero,List.set_cons_succ]
 have hHeld:((fun W=>W.cell? ⟨w.heap.size,0,none⟩=some (.slice ia isn ic)∧W.cell? ⟨w.heap.size,1,none⟩=some (.int .i64 ta)∧W.cell? ⟨w.heap.size,2,none⟩=some (.int .i64 tn)∧W.cell? ⟨w.heap.size,3,none⟩=some (.slice ga gn gc)∧W.cell? ⟨w.heap.size,4,none⟩=some (.slice sa sn sc))) w25:=S25.out
 refine wpAnyH_ready (rs:=[7]) (by kernel_rfl) (by simp) ?_
 refine AllReadyH.cons (o:={ dst:=none,op:=Op.store 32 (Operand.tmp 2) (Operand.tmp 13),type:=0,pos:=_,after:=_,guard:=none }) rfl (fun K hK=>?_) AllReadyH.nil
 go_simp
 refine hK.out _ _ (S26.out) (fun _=>?_)
 clear hK K hHeld
 try simp only [Act.put,List.setIfInBounds_toArray,List.set_cons_zero,List.set_cons_succ]
 have hHeld:((fun W=>W.cell? ⟨w.heap.size,0,none⟩=some (.slice ia isn ic)∧W.cell? ⟨w.heap.size,1,none⟩=some (.int .i64 ta)∧W.cell? ⟨w.heap.size,2,none⟩=some (.int .i64 tn)∧W.cell? ⟨w.heap.size,3,none⟩=some (.slice ga gn gc)∧W.cell? ⟨w.heap.size,4,none⟩=some (.slice sa sn sc))) (((w25.setCell ⟨w.heap.size+1,0,none⟩ (.int .u8 (t25:Int))).setCell ⟨w.heap.size+1,1,none⟩ (.slice a25 n25 c25)).setCell ⟨w.heap.size+1,2,none⟩ (.slice k25 m25 d25)):=S26.out
 refine wpAnyH_done (by kernel_rfl) ?_ _
 refine NoPanic.normal ?_
 have HTE:Hid (lt25.t=TT):=Lib.hid (by rw [HTV.out];rw [HT25.out];simp [HT21.out,HT22.out])
 have HLT:Hid (lt25.val = .agg #[.int .u8 (t25:Int),.slice a25 n25 c25,.slice k25 m25 d25]):=Lib.hid (Of6.val HS25.out)
 have HBE:=Lib.hid (HWW.out _ R25.out)
 go_wp2_with fail
 refine ret_one rfl rfl (((HZ25.out.stored 0 _).stored 1 _).stored 2 _) rfl ?_
 exact ⟨lt25,by rw [HLT.out];rfl,HTE.out,made_outG HO25.out _ _ _,below_outG HBE.out (by omega) _ _ _⟩
end Go.Proofs.YtcibjcgipfpniaaGreatDoor
