/- Words and laws for the statement, part 23. -/
import Derived.Test.YtcibjcgipfpniaaGreatDoorG13
namespace Go.Proofs.YtcibjcgipfpniaaGreatDoor
open Go.RowKit
set_option linter.unusedVariables false
set_option linter.unusedSimpArgs false
attribute [local go_sem ↓] Go.wp_at_zero Go.wp_at_succ

theorem Off.fresh_ {xs:List Nat} {P:World→Prop} {w:World} (h:Off xs P w) (o:Obj):Off (w.heap.size :: xs) P (w.alloc o):=fun w' h2 h3=>by
 have hs:(w.alloc o).heap.size=w.heap.size+1:=by simp
 refine h w' (by omega) fun g hg hlt=>?_
 rw [h3 g (by simp only [List.mem_cons,not_or];exact ⟨by omega,hg⟩) (by omega)]
 exact ((Below.refl _ w).alloc (Nat.le_refl _) o).block g hlt
set_option maxRecDepth 100000 in
set_option maxHeartbeats 16000000 in
theorem clBody'_any (w:World) (xs:List Nat) (cl:Cl) (h:ClP cl w) (hok:crlOk cl.v=true) (hxs:∀ x∈xs,x<w.heap.size) :
  Calls Tryz.prog 14 #[.agg (ccell cl).toArray] w (MadeT w xs (clBody cl.v)):=by
 obtain ⟨p1,p2,p3,_,p5,_,p7⟩:=crlOk_parts hok
 have HEN:Hid (∀ g∈cl.gone,okN g.ser=true∧-631152000≤g.tm∧g.tm≤253402300799):=Lib.hid fun e he=>by
  have h1:=p7 e.v (List.mem_map_of_mem he)
  exact ⟨h1.1.1,h1.2⟩
 have h16:cl.gone.length≤16:=by simpa [Cl.v] using p5
 have HIS0:Hid (∀ W:World,Below w.heap.size w W→Calls Tryz.prog 6 #[.agg (ccell cl).toArray] W fun e w'=>e = .returned (.bool true)∧Below W.heap.size W w'):=Lib.hid fun W hW=>by
  rw [←hok]
  exact crlIs'_any W cl (Off.of_c h W hW.size (fun g _ hg=>hW.block g hg))
 have HDN0:Hid (∀ (W:World) (ys:List Nat),Below w.heap.size w W→(∀ x∈ys,x<W.heap.size)→Calls Tryz.prog 43 #[.slice cl.ia cl.iss.length cl.ic] W (MadeT W ys (dnTr cl.iss))):=Lib.hid fun W ys hW hy =>
  dnNode'_any W ys W.heap.size cl.ia cl.ic _ cl.iss rfl (Off.of_a h.1 W hW.size (fun g _ hg=>hW.block g hg)) (Nat.le_refl _) p1 hy
 have HTA0:Hid (∀ (W:World) (ys:List Nat),(∀ x∈ys,x<W.heap.size)→Calls Tryz.prog 42 #[.int .i64 cl.at_] W (MadeT W ys (timeTr cl.at_))):=Lib.hid fun W ys hy=>timeT'_any W ys _ p2.1 p2.2 hy
 have HTN0:Hid (∀ (W:World) (ys:List Nat),(∀ x∈ys,x<W.heap.size)→Calls Tryz.prog 42 #[.int .i64 cl.next] W (MadeT W ys (timeTr cl.next))):=Lib.hid fun W ys hy=>timeT'_any W ys _ p3.1 p3.2 hy
 have HTV:Hid (clBody cl.v = .mk 48 [] [dnTr cl.iss,.mk 48 [] [timeTr cl.at_,timeTr cl.next],.mk 48 [] ((cl.gone.map Gn.v).map gnTr)]):=Lib.hid rfl
 have hn0:=Off.of_g h.2.1
 clear h hok p1 p2 p3 p5 p7
 obtain ⟨ia,ic,iss,ta,tn,ga,gc,gone,sa,sc,sig⟩:=cl
 simp only [ccell,Cl.v] at *
 obtain ⟨gn,hgn⟩:∃ k,gone.length=k:=⟨_,rfl⟩
 obtain ⟨isn,hisn⟩:∃ k,k=iss.length:=⟨_,rfl⟩
 obtain ⟨sn,hsn⟩:∃ k,k=sig.length:=⟨_,rfl⟩
 obtain ⟨TD,hTD⟩:∃ k,k=dnTr iss:=⟨_,rfl⟩
 obtain ⟨TA,hTA⟩:∃ k,k=timeTr ta:=⟨_,rfl⟩
 obtain ⟨TN,hTN⟩:∃ k,k=timeTr tn:=⟨_,rfl⟩
 rw [←hTD,←hTA,←hTN] at HTV
 rw [←hTA] at HTA0
 rw [←hTN] at HTN0
 rw [←hTD,←hisn] at HDN0
 rw [hgn,←hisn,←hsn] at HIS0 ⊢
 rw [hgn] at h16
 generalize HTT0:clBody _=TT at *
 clear hTD hTA hTN hisn hsn HTT0
 have hq0:Below w.heap.size w ((w.alloc (.cells #[.slice ia isn ic,.int .i64 ta,.int .i64 tn,.slice ga gn gc,.slice sa sn sc] 26)).alloc (.cells #[.int .u8 0,.slice none 0 0,.slice none 0 0] 32)):=((Below.refl _ _).alloc (Nat.le_refl _) _).alloc (by simp) _
 have hbox:=(Holds.fresh w 26 #[.slice ia isn ic,.int .i64 ta,.int .i64 tn,.slice ga gn gc,.slice sa sn sc]).alloc (.cells #[.int .u8 0,.slice none 0 0,.slice none 0 0] 32)
 have hz:=Holds.fresh (w.alloc (.cells #[.slice ia isn ic,.int .i64 ta,.int .i64 tn,.slice ga gn gc,.slice sa sn sc] 26)) 32 #[.int .u8 0,.slice none 0 0,.slice none 0 0]
 rw [show (w.alloc (.cells #[.slice ia isn ic,.int .i64 ta,.int .i64 tn,.slice ga gn gc,.slice sa sn sc] 26)).heap.size=w.heap.size+1 by simp] at hz
 have hsv:((w.alloc (.cells #[.slice ia isn ic,.int .i64 ta,.int .i64 tn,.slice ga gn gc,.slice sa sn sc] 26)).alloc (.cells #[.int .u8 0,.slice none 0 0,.slice none 0 0] 32)).heap.size=w.heap.size+1+1:=by simp
 have c0:=hbox.cell 0
 have c1:=hbox.cell 1
 have c2:=hbox.cell 2
 have c3:=hbox.cell 3
 have c4:=hbox.cell 4
 obtain ⟨V,hV⟩:∃ V,V=((w.alloc (.cells #[.slice ia isn ic,.int .i64 ta,.int .i64 tn,.slice ga gn gc,.slice sa sn sc] 26)).alloc (.cells #[.int .u8 0,.slice none 0 0,.slice none 0 0] 32)):=⟨_,rfl⟩
 rw [←hV] at hq0 hbox hz hsv
 have HB0:=Lib.hid hq0
 have HBX:=Lib.hid hbox
 have HZ:=Lib.hid hz
 have HSV:=Lib.hid hsv
 have HX:=Lib.hid (hn0.under hq0)
 have HFN:=Lib.hid hgn
 have HXS:Hid (∀ W:World,V.heap.size≤W.heap.size→∀ x∈(w.heap.size+1) :: xs,x<W.heap.size):=Lib.hid fun W hW x hx=>by
  rcases List.mem_cons.1 hx with rfl | hx
  ·omega
  ·have:=hxs x hx;omega
 have HIS:=Lib.hid (HIS0.out V hq0)
 have HDN:Hid (∀ (W:World) (ys:List Nat),Below V.heap.size V W→(∀ x∈ys,x<W.heap.size)→Calls Tryz.prog 43 #[.slice ia isn ic] W (MadeT W ys TD)):=Lib.hid fun W ys hW hy=>HDN0.out W ys (HB0.out.trans (hW.mono HB0.out.size)) hy
 clear HIS0 HDN0
 have HV:=Lib.hid hV
 have hfc:=HX.out.at_.1.1
 have hfc63:=HX.out.at_.1.2.1
 rw [hgn] at hfc
 clear hV hq0 hbox hz hsv hn0 hgn hxs
 go_enter Tryz.func14,Tryz.ntmps14
 go_wp2_with fail
 rw [←HV.out]
 clear HV c0 c1 c2 c3 c4
 refine HIS.out.mono ?_
 rintro e V2 ⟨rfl,hb2⟩
 have HB2:=Lib.hid hb2
 have HVV:Hid (V.heap.size≤V2.heap.size):=Lib.hid hb2.size
 have k3:=(HBX.out.under hb2 HBX.out.lt).cell 3
 clear hb2 HIS
 go_wp2_with fail
 clear k3
 go_loopw [3,4] (fun kv iv wr=>∃ (i:Nat) (KA:Option Addr) (d:Nat) (ks:List Lt),i≤gn∧iv = .int .i64 (i:Int)∧kv = .slice KA i d∧Kids ((w.heap.size+1) :: xs) KA d i ks wr∧Hid (ks.map Lt.t=((gone.map Gn.v).take i).map gnTr)∧Hid (∀ g,blockOf KA=some g→V.heap.size≤g)∧Below V.heap.size V wr) (fun _ iv _=>gn - (intOf iv).toNat)
 case atStart=>exact ⟨0,none,0,[],by omega,rfl,rfl,Kids.nil _ _,rfl,fun g hg=>by simp [blockOf] at hg,HB2.out⟩
 case round =>
  obtain ⟨i,KA,d,ks,hi,rfl,rfl,hK,HT,HG,hB⟩:=hrel
  have HB:=Lib.hid hB
  have HK:=Lib.hid hK
  have hbx:=HBX.out.under hB HBX.out.lt
  have k3:=hbx.cell 3
  have HBXr:=Lib.hid hbx
  have HZr:=Lib.hid (HZ.out.under hB HZ.out.lt)
  have hVW:=hB.size
  have hwr:w.heap.size+1<wr.heap.size:=HZr.out.lt
  have HVW:=Lib.hid hVW
  clear hK hbx hVW
  by_cases hlt:i<gn
  ·have hx:=(HX.out.under hB).at_
   obtain ⟨g,off,rfl,hg,hcs⟩:=HX.out.at_.1.2.2 (by rw [HFN.out];omega)
   obtain ⟨c0,c1⟩:=hcs i (by rw [HFN.out];exact hlt)
   have hxe:=hx.at_ (by rw [HFN.out];exact hlt)
   have HV1:Hid (((gone.map Gn.v).take (i+1)).map gnTr=((gone.map Gn.v).take i).map gnTr ++ [gnTr (gone.getD i default).v]):=Lib.hid (gn_take (by rw [HFN.out];exact hlt))
   have hen:=HEN.out _ (getD_mem (l:=gone) (j:=i) (by rw [HFN.out];exact hlt))
   obtain ⟨e,he⟩:∃ e,e=gone.getD i default:=⟨_,rfl⟩
   rw [←he] at hen c0 c1 hxe HV1
   clear he hx hcs
   obtain ⟨da,dc,ser,tm⟩:=e
   obtain ⟨hr1,hd1⟩:=hxe
   dsimp only [Gn.v] at c0 c1 hr1 hd1 hen HV1
   obtain ⟨z0,z1,z2⟩:=hen
   obtain ⟨TG,hTG⟩:∃ k,k=timeTr tm:=⟨_,rfl⟩
   have HTG:Hid (∀ (W:World) (ys:List Nat),(∀ x∈ys,x<W.heap.size)→Calls Tryz.prog 42 #[.int .i64 tm] W (MadeT W ys TG)):=Lib.hid fun W ys hy=>by rw [hTG];exact timeT'_any W ys _ z1 z2 hy
   obtain ⟨nd,hnd⟩:∃ k,ser.length=k:=⟨_,rfl⟩
   have HIN:Hid (∀ W:World,Below wr.heap.size wr W→Calls Tryz.prog 41 #[.slice da nd dc] W fun e w'=>∃ r,e = .returned r∧PrimAt r w' W.heap.size 2 (intB ser)∧Below W.heap.size W w'):=Lib.hid fun W hW=>int'_any W W.heap.size da dc nd ser ((hr1.under hW).more hW.size) hnd (Nat.le_refl _) hd1 z0
   obtain ⟨TI,hTI⟩:∃ k,k=intB ser:=⟨_,rfl⟩
   have HV1:Hid (((gone.map Gn.v).take (i+1)).map gnTr=((gone.map Gn.v).take i).map gnTr ++ [.mk 48 [] [.mk 2 TI [],TG]]):=Lib.hid (by rw [hTI,hTG];exact HV1.out)
   rw [←hTI] at HIN
   rw [hnd] at c0
   have HBD:Hid (∀ W,Below wr.heap.size wr W→∀ x∈bl KA ++ (w.heap.size+1) :: xs,x<W.heap.size):=Lib.hid fun W hW x hx=>by
    have h1:=HK.out.bound (HXS.out wr HVW.out) x hx
    have h2:=hW.size
    omega
   have HNX:Hid (∀ W,Below wr.heap.size wr W→W.heap.size ∉ bl KA ++ (w.heap.size+1) :: xs):=Lib.hid fun W hW hx=>by
    have:=HBD.out W hW _ hx
    omega
   have HCV:Hid (∀ W,Below V.heap.size V W→(fun W=>W.cell? ⟨w.heap.size,3,none⟩=some (.slice (some ⟨g,off,none⟩) gn gc)∧W.cell? ⟨g,off+i*2,none⟩=some (.slice da nd dc)∧W.cell? ⟨g,off+i*2+1,none⟩=some (.int .i64 tm)) W):=Lib.hid fun W hW=>by
    have hb:=HBX.out.under hW HBX.out.lt
    have k:∀ o,W.cell? ⟨g,o,none⟩=V.cell? ⟨g,o,none⟩:=fun o=>by simp only [World.cell?];rw [hW.block g hg]
    exact ⟨hb.cell 3,(k _).trans c0,(k _).trans c1⟩
   have HS:Hid (∀ W,Below wr.heap.size wr W→(fun W=>W.cell? ⟨w.heap.size,3,none⟩=some (.slice (some ⟨g,off,none⟩) gn gc)∧W.cell? ⟨g,off+i*2,none⟩=some (.slice da nd dc)∧W.cell? ⟨g,off+i*2+1,none⟩=some (.int .i64 tm)) W):=Lib.hid fun W hW=>HCV.out W (HB.out.trans (hW.mono HB.out.size))
   clear hr1 hd1 hnd hTI hTG hB z0 z1 z2 c0 c1
   go_wp2_with fail
   clear k3
   refine wp_region_noPanic ?_
   refine wp_region_held_drew (S:=(fun W=>W.cell? ⟨w.heap.size,3,none⟩=some (.slice (some ⟨g,off,none⟩) gn gc)∧W.cell? ⟨g,off+i*2,none⟩=some (.slice da nd dc)∧W.cell? ⟨g,off+i*2+1,none⟩=some (.int .i64 tm))) (by kernel_rfl) (HS.out _ (Below.refl _ wr).drew) (fun hHeld=>?_)
   refine wpAnyH_take (i:=0) (oi:={ dst:=some 17,op:=Op.move (Operand.tmp 3),type:=30,pos:=_,after:=_,guard:=none }) (v:=?_) rfl (by kernel_rfl) (by kernel_rfl) (by kernel_rfl) (fun _ _ _ h=>h) (Or.inl ⟨by rfl,?_⟩) hHeld ?_
   rotate_left 1
   ·(intro W hW;(try dsimp only at hW);go_simp;try with_reducible rfl)
   try simp only [Act.put,List.setIfInBounds_toArray,List.set_cons_zero,List.set_cons_succ]
   refine wpAnyH_take (i:=1) (oi:={ dst:=some 18,op:=Op.fieldAddr 26 (Operand.tmp 1) 3,type:=0,pos:=_,after:=_,guard:=none }) (v:=?_) rfl (by kernel_rfl) (by kernel_rfl) (by kernel_rfl) (fun _ _ _ h=>h) (Or.inl ⟨by rfl,?_⟩) hHeld ?_
   rotate_left 1
   ·(intro W hW;(try dsimp only at hW);go_simp;try with_reducible rfl)
   try simp only [Act.put,List.setIfInBounds_toArray,List.set_cons_zero,List.set_cons_succ]
   refine wpAnyH_take (i:=2) (oi:={ dst:=some 19,op:=Op.load 23 (Operand.tmp 18),type:=23,pos:=_,after:=_,guard:=none }) (v:=?_) rfl (by kernel_rfl) (by kernel_rfl) (by kernel_rfl) (fun _ _ _ h=>h) (Or.inl ⟨by rfl,?_⟩) hHeld ?_
   rotate_left 1
   ·(intro W hW;obtain ⟨k0,_,_⟩:=hW;(try dsimp only at hW);go_simp;try with_reducible rfl)
   try simp only [Act.put,List.setIfInBounds_toArray,List.set_cons_zero,List.set_cons_succ]
   refine wpAnyH_take (i:=3) (oi:={ dst:=some 20,op:=Op.move (Operand.tmp 4),type:=3,pos:=_,after:=_,guard:=none }) (v:=?_) rfl (by kernel_rfl) (by kernel_rfl) (by kernel_rfl) (fun _ _ _ h=>h) (Or.inl ⟨by rfl,?_⟩) hHeld ?_
   rotate_left 1
   ·(intro W hW;(try dsimp only at hW);go_simp;try with_reducible rfl)
   try simp only [Act.put,List.setIfInBounds_toArray,List.set_cons_zero,List.set_cons_succ]
   refine wpAnyH_take (i:=4) (oi:={ dst:=some 21,op:=Op.indexAddr 23 (Operand.tmp 19) (Operand.tmp 20),type:=0,pos:=_,after:=_,guard:=none }) (v:=?_) rfl (by kernel_rfl) (by kernel_rfl) (by kernel_rfl) (fun _ _ _ h=>h) (Or.inl ⟨by rfl,?_⟩) hHeld ?_
   rotate_left 1
   ·(intro W hW;(try dsimp only at hW);go_simp;try with_reducible rfl)
   try simp only [Act.put,List.setIfInBounds_toArray,List.set_cons_zero,List.set_cons_succ]
   refine wpAnyH_take (i:=5) (oi:={ dst:=some 22,op:=Op.fieldAddr 44 (Operand.tmp 21) 0,type:=0,pos:=_,after:=_,guard:=none }) (v:=?_) rfl (by kernel_rfl) (by kernel_rfl) (by kernel_rfl) (fun _ _ _ h=>h) (Or.inl ⟨by rfl,?_⟩) hHeld ?_
   rotate_left 1
   ·(intro W hW;(try dsimp only at hW);go_simp;try with_reducible rfl)
   try simp only [Act.put,List.setIfInBounds_toArray,List.set_cons_zero,List.set_cons_succ]
   refine wpAnyH_take (i:=6) (oi:={ dst:=some 23,op:=Op.load 42 (Operand.tmp 22),type:=42,pos:=_,after:=_,guard:=none }) (v:=?_) rfl (by kernel_rfl) (by kernel_rfl) (by kernel_rfl) (fun _ _ _ h=>h) (Or.inl ⟨by rfl,?_⟩) hHeld ?_
   rotate_left 1
   ·(intro W hW;obtain ⟨_,k1,_⟩:=hW;(try dsimp only at hW);go_simp;try with_reducible rfl)
   try simp only [Act.put,List.setIfInBounds_toArray,List.set_cons_zero,List.set_cons_succ]
   refine wpAnyH_take (i:=8) (oi:={ dst:=some 25,op:=Op.fieldAddr 26 (Operand.tmp 1) 3,type:=0,pos:=_,after:=_,guard:=none }) (v:=?_) rfl (by kernel_rfl) (by kernel_rfl) (by kernel_rfl) (fun _ _ _ h=>h) (Or.inl ⟨by rfl,?_⟩) hHeld ?_
   rotate_left 1
   ·(intro W hW;(try dsimp only at hW);go_simp;try with_reducible rfl)
   try simp only [Act.put,List.setIfInBounds_toArray,List.set_cons_zero,List.set_cons_succ]
   refine wpAnyH_take (i:=9) (oi:={ dst:=some 26,op:=Op.load 23 (Operand.tmp 25),type:=23,pos:=_,after:=_,guard:=none }) (v:=?_) rfl (by kernel_rfl) (by kernel_rfl) (by kernel_rfl) (fun _ _ _ h=>h) (Or.inl ⟨by rfl,?_⟩) hHeld ?_
   rotate_left 1
   ·(intro W hW;obtain ⟨k0,_,_⟩:=hW;(try dsimp only at hW);go_simp;try with_reducible rfl)
   try simp only [Act.put,List.setIfInBounds_toArray,List.set_cons_zero,List.set_cons_succ]
   refine wpAnyH_take (i:=10) (oi:={ dst:=some 27,op:=Op.move (Operand.tmp 4),type:=3,pos:=_,after:=_,guard:=none }) (v:=?_) rfl (by kernel_rfl) (by kernel_rfl) (by kernel_rfl) (fun _ _ _ h=>h) (Or.inl ⟨by rfl,?_⟩) hHeld ?_
   rotate_left 1
   ·(intro W hW;(try dsimp only at hW);go_simp;try with_reducible rfl)
   try simp only [Act.put,List.setIfInBounds_toArray,List.set_cons_zero,List.set_cons_succ]
   refine wpAnyH_take (i:=11) (oi:={ dst:=some 28,op:=Op.indexAddr 23 (Operand.tmp 26) (Operand.tmp 27),type:=0,pos:=_,after:=_,guard:=none }) (v:=?_) rfl (by kernel_rfl) (by kernel_rfl) (by kernel_rfl) (fun _ _ _ h=>h) (Or.inl ⟨by rfl,?_⟩) hHeld ?_
   rotate_left 1
   ·(intro W hW;(try dsimp only at hW);go_simp;try with_reducible rfl)
   try simp only [Act.put,List.setIfInBounds_toArray,List.set_cons_zero,List.set_cons_succ]
   refine wpAnyH_take (i:=12) (oi:={ dst:=some 29,op:=Op.fieldAddr 44 (Operand.tmp 28) 1,type:=0,pos:=_,after:=_,guard:=none }) (v:=?_) rfl (by kernel_rfl) (by kernel_rfl) (by kernel_rfl) (fun _ _ _ h=>h) (Or.inl ⟨by rfl,?_⟩) hHeld ?_
   rotate_left 1
   ·(intro W hW;(try dsimp only at hW);go_simp;try with_reducible rfl)
   try simp only [Act.put,List.setIfInBounds_toArray,List.set_cons_zero,List.set_cons_succ]
   refine wpAnyH_take (i:=13) (oi:={ dst:=some 30,op:=Op.load 2 (Operand.tmp 29),type:=2,pos:=_,after:=_,guard:=none }) (v:=?_) rfl (by kernel_rfl) (by kernel_rfl) (by kernel_rfl) (fun _ _ _ h=>h) (Or.inl ⟨by rfl,?_⟩) hHeld ?_
   rotate_left 1
   ·(intro W hW;obtain ⟨_,_,k2⟩:=hW;(try dsimp only at hW);go_simp;try with_reducible rfl)
   try simp only [Act.put,List.setIfInBounds_toArray,List.set_cons_zero,List.set_cons_succ]
   refine wpAnyH_ready (rs:=[7]) (by kernel_rfl) (by simp) ?_
   refine AllReadyH.cons (o:={ dst:=some 24,op:=Op.call { callee:=Callee.value (Operand.func 41),args:=#[Operand.tmp 23],argTypes:=#[42] },type:=32,pos:=_,after:=_,guard:=none }) rfl (fun K hK=>?_) AllReadyH.nil
   go_simp
   have D6:Hid (Below wr.heap.size wr wr.drew):=Lib.hid (Below.refl _ wr).drew
   refine (HIN.out _ D6.out).mono ?_
   rintro e w8 ⟨r8,rfl,hp,hb⟩
   obtain ⟨lt8,t8,a8,n8,c8,k8,m8,d8,rfl,h6,hlt',hoff⟩:=PrimAt.six hp (HBD.out _ D6.out)
   have b8:Hid (Below wr.heap.size wr w8):=Lib.hid ((Below.refl _ wr).drew.trans hb)
   have R8:=Lib.hid (b8.out)
   have S8:=Lib.hid (HS.out _ R8.out)
   have HS8:=Lib.hid h6
   have HT8:=Lib.hid hlt'
   have HO8:=Lib.hid hoff
   clear hp hb h6 hlt' hoff
   go_simp
   refine hK.out _ _ (S8.out) (fun _=>?_)
   clear hK K hHeld
   try simp only [Act.put,List.setIfInBounds_toArray,List.set_cons_zero,List.set_cons_succ]
   have hHeld:((fun W=>W.cell? ⟨w.heap.size,3,none⟩=some (.slice (some ⟨g,off,none⟩) gn gc)∧W.cell? ⟨g,off+i*2,none⟩=some (.slice da nd dc)∧W.cell? ⟨g,off+i*2+1,none⟩=some (.int .i64 tm))) w8:=S8.out
   refine wpAnyH_ready (rs:=[14]) (by kernel_rfl) (by simp) ?_
   refine AllReadyH.cons (o:={ dst:=some 31,op:=Op.call { callee:=Callee.value (Operand.func 42),args:=#[Operand.tmp 30],argTypes:=#[2] },type:=32,pos:=_,after:=_,guard:=none }) rfl (fun K hK=>?_) AllReadyH.nil
   go_simp
   refine (HTG.out _ (bl KA ++ (w.heap.size+1) :: xs) (HBD.out _ R8.out)).mono ?_
   intro e w9 hm
   obtain ⟨lt9,t9,a9,n9,c9,k9,m9,d9,rfl,h6,hlt',hoff,hb⟩:=MadeT.six hm
   have b9:Hid (Below w8.heap.size w8 w9):=Lib.hid (hb)
   have R9:=Lib.hid (R8.out.trans (b9.out.mono R8.out.size))
   have S9:=Lib.hid (HS.out _ R9.out)
   have HS9:=Lib.hid h6
   have HT9:=Lib.hid hlt'
   have HO9:=Lib.hid hoff
   clear hm hb h6 hlt' hoff
   go_simp
   refine hK.out _ _ (S9.out) (fun _=>?_)
   clear hK K hHeld
   try simp only [Act.put,List.setIfInBounds_toArray,List.set_cons_zero,List.set_cons_succ]
   have hHeld:((fun W=>W.cell? ⟨w.heap.size,3,none⟩=some (.slice (some ⟨g,off,none⟩) gn gc)∧W.cell? ⟨g,off+i*2,none⟩=some (.slice da nd dc)∧W.cell? ⟨g,off+i*2+1,none⟩=some (.int .i64 tm))) w9:=S9.out
   refine wpAnyH_ready (rs:=[15]) (by kernel_rfl) (by simp) ?_
   refine AllReadyH.cons (o:={ dst:=some 32,op:=Op.buildSlice 30 2 #[(0,Operand.tmp 24),(1,Operand.tmp 31)],type:=30,pos:=_,after:=_,guard:=none }) rfl (fun K hK=>?_) AllReadyH.nil
   go_simp
   obtain ⟨w10,hw⟩:∃ W,W=w9.alloc (.cells #[.int .u8 (t8:Int),.slice a8 n8 c8,.slice k8 m8 d8,.int .u8 (t9:Int),.slice a9 n9 c9,.slice k9 m9 d9] 32):=⟨_,rfl⟩
   rw [←hw]
   have b10:Hid (Below w9.heap.size w9 w10):=Lib.hid (by rw [hw];exact (Below.refl _ _).alloc (Nat.le_refl _) _)
   have R10:=Lib.hid (R9.out.trans (b10.out.mono R9.out.size))
   have S10:=Lib.hid (HS.out _ R10.out)
   have HP10:Hid (Off (bl KA ++ (w.heap.size+1) :: xs) (KiP (some ⟨w9.heap.size,0,none⟩) 2 [lt8,lt9]) w10):=Lib.hid (by rw [hw];exact row66 (HO8.out.under b9.out) HS8.out HO9.out HS9.out (HNX.out _ R9.out))
   clear hw
   refine hK.out _ _ (S10.out) (fun _=>?_)
   clear hK K hHeld
   try simp only [Act.put,List.setIfInBounds_toArray,List.set_cons_zero,List.set_cons_succ]
   have hHeld:((fun W=>W.cell? ⟨w.heap.size,3,none⟩=some (.slice (some ⟨g,off,none⟩) gn gc)∧W.cell? ⟨g,off+i*2,none⟩=some (.slice da nd dc)∧W.cell? ⟨g,off+i*2+1,none⟩=some (.int .i64 tm))) w10:=S10.out
   refine wpAnyH_ready (rs:=[16]) (by kernel_rfl) (by simp) ?_
   refine AllReadyH.cons (o:={ dst:=some 33,op:=Op.call { callee:=Callee.value (Operand.func 37),args:=#[Operand.const (Value.int IntKind.u8 48),Operand.tmp 32],argTypes:=#[5,30] },type:=32,pos:=_,after:=_,guard:=none }) rfl (fun K hK=>?_) AllReadyH.nil
   go_simp
   refine (seq'_any _ (bl KA ++ (w.heap.size+1) :: xs) 48 2 2 _ [lt8,lt9] HP10.out rfl (by omega)).mono ?_
   intro e w11 hm
   obtain ⟨lt11,t11,a11,n11,c11,k11,m11,d11,rfl,h6,hlt',hoff,hb⟩:=MadeT.six hm
   have b11:Hid (Below w10.heap.size w10 w11):=Lib.hid (hb)
   have R11:=Lib.hid (R10.out.trans (b11.out.mono R10.out.size))
   have S11:=Lib.hid (HS.out _ R11.out)
   have HS11:=Lib.hid h6
   have HT11:=Lib.hid hlt'
   have HO11:=Lib.hid hoff
   clear hm hb h6 hlt' hoff
   go_simp
   refine hK.out _ _ (S11.out) (fun _=>?_)
   clear hK K hHeld
   try simp only [Act.put,List.setIfInBounds_toArray,List.set_cons_zero,List.set_cons_succ]
   have hHeld:((fun W=>W.cell? ⟨w.heap.size,3,none⟩=some (.slice (some ⟨g,off,none⟩) gn gc)∧W.cell? ⟨g,off+i*2,none⟩=some (.slice da nd dc)∧W.cell? ⟨g,off+i*2+1,none⟩=some (.int .i64 tm))) w11:=S11.out
   refine wpAnyH_ready (rs:=[17]) (by kernel_rfl) (by simp) ?_
   refine AllReadyH.cons (o:={ dst:=some 34,op:=Op.buildSlice 30 1 #[(0,Operand.tmp 33)],type:=30,pos:=_,after:=_,guard:=none }) rfl (fun K hK=>?_) AllReadyH.nil
   go_simp
   obtain ⟨w12,hw⟩:∃ W,W=w11.alloc (.cells #[.int .u8 (t11:Int),.slice a11 n11 c11,.slice k11 m11 d11] 32):=⟨_,rfl⟩
   rw [←hw]
   have b12:Hid (Below w11.heap.size w11 w12):=Lib.hid (by rw [hw];exact (Below.refl _ _).alloc (Nat.le_refl _) _)
   have R12:=Lib.hid (R11.out.trans (b12.out.mono R11.out.size))
   have S12:=Lib.hid (HS.out _ R12.out)
   have HF12:Hid (Holds w12 w11.heap.size 32 [.int .u8 (t11:Int),.slice a11 n11 c11,.slice k11 m11 d11].toArray):=Lib.hid (by rw [hw];exact Holds.fresh _ _ _)
   have K12:=Lib.hid (HK.out.under R12.out)
   have O12:=Lib.hid (HO11.out.under b12.out)
   have OW12:=Lib.hid K12.out.own
   have B12:=Lib.hid (HB.out.trans (R12.out.mono HB.out.size))
   have BX12:=Lib.hid (HXS.out _ B12.out.size)
   clear hw
   refine hK.out _ _ (S12.out) (fun _=>?_)
   clear hK K hHeld
   try simp only [Act.put,List.setIfInBounds_toArray,List.set_cons_zero,List.set_cons_succ]
   have hHeld:((fun W=>W.cell? ⟨w.heap.size,3,none⟩=some (.slice (some ⟨g,off,none⟩) gn gc)∧W.cell? ⟨g,off+i*2,none⟩=some (.slice da nd dc)∧W.cell? ⟨g,off+i*2+1,none⟩=some (.int .i64 tm))) w12:=S12.out
   refine wpAnyH_ready (rs:=[18]) (by kernel_rfl) (by simp) ?_
   refine AllReadyH.cons (o:={ dst:=some 35,op:=Op.call { callee:=Callee.builtin Builtin.append,args:=#[Operand.tmp 17,Operand.tmp 34],argTypes:=#[30,30] },type:=30,pos:=_,after:=_,guard:=none }) rfl (fun K hK=>?_) AllReadyH.nil
   refine step_pushV _ rfl (.tmp 17) (.tmp 34) 30 rfl 32 _ 3 56 Tryz.underlying30 info_node rfl (by omega) (by omega) rfl OW12.out (cs:=[.int .u8 (t11:Int),.slice a11 n11 c11,.slice k11 m11 d11]) rfl rfl one6 HF12.out (by omega) ?_
   intro g13 c13 w13 ho13 hg13 hat13 hlt13
   have K13:=Lib.hid (K12.out.push6 O12.out HS11.out ho13 hg13 hat13 BX12.out)
   have B13:=Lib.hid (below_own B12.out hg13 (fun g hg=>HG.out g hg) (Nat.le_refl _))
   have G13:Hid (∀ g,blockOf (some (⟨g13,0,none⟩:Addr))=some g→V.heap.size≤g):=Lib.hid fun g hg=>by
    have e:g13=g:=by simpa [blockOf] using hg
    subst e
    rcases hat13 with h | h
    ·exact HG.out _ h
    ·have:=B12.out.size;omega
   have S13:=Lib.hid (HCV.out _ B13.out)
   clear ho13 hg13 hat13 OW12 HF12 O12 K12 BX12
   refine hK.out _ _ (S13.out) (fun _=>?_)
   clear hK K hHeld
   try simp only [Act.put,List.setIfInBounds_toArray,List.set_cons_zero,List.set_cons_succ]
   have hHeld:((fun W=>W.cell? ⟨w.heap.size,3,none⟩=some (.slice (some ⟨g,off,none⟩) gn gc)∧W.cell? ⟨g,off+i*2,none⟩=some (.slice da nd dc)∧W.cell? ⟨g,off+i*2+1,none⟩=some (.int .i64 tm))) w13:=S13.out
   refine wpAnyH_take (i:=19) (oi:={ dst:=some 3,op:=Op.assign (Operand.tmp 35),type:=30,pos:=_,after:=_,guard:=none }) (v:=?_) rfl (by kernel_rfl) (by kernel_rfl) (by kernel_rfl) (fun _ _ _ h=>h) (Or.inl ⟨by rfl,?_⟩) hHeld ?_
   rotate_left 1
   ·(intro W hW;(try dsimp only at hW);go_simp;try with_reducible rfl)
   try simp only [Act.put,List.setIfInBounds_toArray,List.set_cons_zero,List.set_cons_succ]
   refine wpAnyH_done (by kernel_rfl) ?_ _
   refine NoPanic.normal ?_
   have HTT:Hid ((ks ++ [lt11]).map Lt.t=((gone.map Gn.v).take (i+1)).map gnTr):=Lib.hid (by
    rw [HV1.out,List.map_append,HT.out]
    simp [HT11.out,HT9.out,HT8.out])
   go_wp2_with fail
   go_roundw
   case rel=>exact ⟨i+1,_,_,_,by omega,by go_num,rfl,K13.out,HTT.out,G13.out,B13.out⟩
   case measure=>simp [intOf];omega
  ·obtain rfl:i=gn:=by omega
   have HTT:Hid (ks.map Lt.t=(gone.map Gn.v).map gnTr):=Lib.hid (by rw [HT.out,List.take_of_length_le (by simp [HFN.out])])
   have HBD:Hid (∀ W,Below wr.heap.size wr W→∀ x∈((w.heap.size+1) :: xs),x<W.heap.size):=Lib.hid fun W hW=>HXS.out W (Nat.le_trans HVW.out hW.size)
   have HBV:Hid (∀ W,Below wr.heap.size wr W→Below V.heap.size V W):=Lib.hid fun W hW=>HB.out.trans (hW.mono HB.out.size)
   have HKI:=Lib.hid HK.out.ki
   have HKL:=Lib.hid HK.out.len
   clear hB
   go_wp2_with fail
   have HS:Hid (∀ W,Below wr.heap.size wr W→(fun W=>W.cell? ⟨w.heap.size,0,none⟩=some (.slice ia isn ic)∧W.cell? ⟨w.heap.size,1,none⟩=some (.int .i64 ta)∧W.cell? ⟨w.heap.size,2,none⟩=some (.int .i64 tn)) W):=Lib.hid fun W hW=>by
    have h:=HBXr.out.under hW HBXr.out.lt
    exact ⟨h.cell 0,h.cell 1,h.cell 2⟩
   obtain ⟨QQ8,HQ8⟩:∃ Q:Exit→Act→World→Prop,Hid (Q=fun e a W=>e = .normal∧∃ (gb:Nat) (lt25:Lt) (t25:Nat) (a25:Option Addr) (n25 c25:Nat) (k25:Option Addr) (m25 d25:Nat) (u0 u4 u6 u7 u8 u9 u10 u11 u12 u13 u14 u15 u16 u17 u18 u19 u20 u21 u22 u23 u24 u25 u26 u27 u28 u29 u30 u31 u32 u33 u34 u35 u36 u37 u38 u39 u40 u41 u42 u43 u44 u45 u46 u47 u48 u49 u50 u51:Value),a={ tmps:=#[u0,.pointer (some ⟨w.heap.size,0,none⟩),.pointer (some ⟨w.heap.size+1,0,none⟩),.slice KA i d,u4,.pointer (some ⟨gb,0,none⟩),u6,u7,u8,u9,u10,u11,u12,u13,u14,u15,u16,u17,u18,u19,u20,u21,u22,u23,u24,u25,u26,u27,u28,u29,u30,u31,u32,u33,u34,u35,u36,u37,u38,u39,u40,u41,u42,u43,u44,u45,u46,u47,u48,u49,u50,u51],defers:=[] }∧Of6 lt25 t25 a25 n25 c25 k25 m25 d25∧lt25.t = .mk 48 [] [TA,TN]∧Off ((w.heap.size+1) :: xs) (ThP lt25) W∧Holds W gb 32 #[.int .u8 (t25:Int),.slice a25 n25 c25,.slice k25 m25 d25]∧Below wr.heap.size wr W∧wr.heap.size≤gb):=⟨_,Lib.hid rfl⟩
   refine Code.wp_mono (Q:=QQ8) ?_ ?_
   focus
    rintro e a W8 hq
    rw [HQ8.out] at hq
    obtain ⟨rfl,gb,lt25,t25,a25,n25,c25,k25,m25,d25,u0,u4,u6,u7,u8,u9,u10,u11,u12,u13,u14,u15,u16,u17,u18,u19,u20,u21,u22,u23,u24,u25,u26,u27,u28,u29,u30,u31,u32,u33,u34,u35,u36,u37,u38,u39,u40,u41,u42,u43,u44,u45,u46,u47,u48,u49,u50,u51,rfl,h6,h25,ho,hh,hw8,hge⟩:=hq
    clear HQ8
    have HS25:=Lib.hid h6
    have HT25:=Lib.hid h25
    have HOF:=Lib.hid ho
    have HH8:=Lib.hid hh
    have HW8:=Lib.hid hw8
    have HZ8:=Lib.hid (HZr.out.under hw8 HZr.out.lt)
    have GNE:Hid (gb≠w.heap.size+1):=Lib.hid (by
     omega)
    have HS8:Hid (∀ W,Below W8.heap.size W8 W→(fun W=>W.cell? ⟨w.heap.size,0,none⟩=some (.slice ia isn ic)∧W.cell? ⟨gb,0,none⟩=some (.int .u8 (t25:Int))∧W.cell? ⟨gb,1,none⟩=some (.slice a25 n25 c25)∧W.cell? ⟨gb,2,none⟩=some (.slice k25 m25 d25)) W):=Lib.hid fun W hW=>by
     have h:=(HBXr.out.under HW8.out HBXr.out.lt).under hW (HBXr.out.under HW8.out HBXr.out.lt).lt
     have h2:=HH8.out.under hW HH8.out.lt
     exact ⟨h.cell 0,h2.cell 0,h2.cell 1,h2.cell 2⟩
    clear h6 h25 ho hh hw8
    go_wp2_with fail
    refine wp_region_noPanic ?_
    refine wp_region_held_drew (S:=(fun W=>W.cell? ⟨w.heap.size,0,none⟩=some (.slice ia isn ic)∧W.cell? ⟨gb,0,none⟩=some (.int .u8 (t25:Int))∧W.cell? ⟨gb,1,none⟩=some (.slice a25 n25 c25)∧W.cell? ⟨gb,2,none⟩=some (.slice k25 m25 d25))) (by kernel_rfl) (HS8.out _ (Below.refl _ W8).drew) (fun hHeld=>?_)
    refine wpAnyH_take (i:=0) (oi:={ dst:=some 44,op:=Op.fieldAddr 26 (Operand.tmp 1) 0,type:=0,pos:=_,after:=_,guard:=none }) (v:=?_) rfl (by kernel_rfl) (by kernel_rfl) (by kernel_rfl) (fun _ _ _ h=>h) (Or.inl ⟨by rfl,?_⟩) hHeld ?_
    rotate_left 1
    ·(intro W hW;(try dsimp only at hW);go_simp;try with_reducible rfl)
    try simp only [Act.put,List.setIfInBounds_toArray,List.set_cons_zero,List.set_cons_succ]
    refine wpAnyH_take (i:=1) (oi:={ dst:=some 45,op:=Op.load 22 (Operand.tmp 44),type:=22,pos:=_,after:=_,guard:=none }) (v:=?_) rfl (by kernel_rfl) (by kernel_rfl) (by kernel_rfl) (fun _ _ _ h=>h) (Or.inl ⟨by rfl,?_⟩) hHeld ?_
    rotate_left 1
    ·(intro W hW;obtain ⟨k0,_,_,_⟩:=hW;(try dsimp only at hW);go_simp;try with_reducible rfl)
    try simp only [Act.put,List.setIfInBounds_toArray,List.set_cons_zero,List.set_cons_succ]
    refine wpAnyH_take (i:=3) (oi:={ dst:=some 47,op:=Op.load 32 (Operand.tmp 5),type:=32,pos:=_,after:=_,guard:=none }) (v:=?_) rfl (by kernel_rfl) (by kernel_rfl) (by kernel_rfl) (fun _ _ _ h=>h) (Or.inl ⟨by rfl,?_⟩) hHeld ?_
    rotate_left 1
    ·(intro W hW;obtain ⟨_,k1,k2,k3⟩:=hW;(try dsimp only at hW);go_simp;try with_reducible rfl)
    try simp only [Act.put,List.setIfInBounds_toArray,List.set_cons_zero,List.set_cons_succ]
    refine wpAnyH_take (i:=4) (oi:={ dst:=some 48,op:=Op.move (Operand.tmp 3),type:=30,pos:=_,after:=_,guard:=none }) (v:=?_) rfl (by kernel_rfl) (by kernel_rfl) (by kernel_rfl) (fun _ _ _ h=>h) (Or.inl ⟨by rfl,?_⟩) hHeld ?_
    rotate_left 1
    ·(intro W hW;(try dsimp only at hW);go_simp;try with_reducible rfl)
    try simp only [Act.put,List.setIfInBounds_toArray,List.set_cons_zero,List.set_cons_succ]
    refine wpAnyH_ready (rs:=[2]) (by kernel_rfl) (by simp) ?_
    refine AllReadyH.cons (o:={ dst:=some 46,op:=Op.call { callee:=Callee.value (Operand.func 43),args:=#[Operand.tmp 45],argTypes:=#[22] },type:=32,pos:=_,after:=_,guard:=none }) rfl (fun K hK=>?_) AllReadyH.nil
    go_simp
    have D20:Hid (Below W8.heap.size W8 W8.drew):=Lib.hid (Below.refl _ W8).drew
    refine (HDN.out _ ((w.heap.size+1) :: xs) (HBV.out _ (HW8.out.trans (D20.out.mono HW8.out.size))) (HBD.out _ (HW8.out.trans (D20.out.mono HW8.out.size)))).mono ?_
    intro e w21 hm
    obtain ⟨lt21,t21,a21,n21,c21,k21,m21,d21,rfl,h6,hlt',hoff,hb⟩:=MadeT.six hm
    have b21:Hid (Below W8.heap.size W8 w21):=Lib.hid ((Below.refl _ W8).drew.trans hb)
    have R21:=Lib.hid (b21.out)
    have S21:=Lib.hid (HS8.out _ R21.out)
    have HS21:=Lib.hid h6
    have HT21:=Lib.hid hlt'
    have HO21:=Lib.hid hoff
    clear hm hb h6 hlt' hoff
    go_simp
    refine hK.out _ _ (S21.out) (fun _=>?_)
    clear hK K hHeld
    try simp only [Act.put,List.setIfInBounds_toArray,List.set_cons_zero,List.set_cons_succ]
    have hHeld:((fun W=>W.cell? ⟨w.heap.size,0,none⟩=some (.slice ia isn ic)∧W.cell? ⟨gb,0,none⟩=some (.int .u8 (t25:Int))∧W.cell? ⟨gb,1,none⟩=some (.slice a25 n25 c25)∧W.cell? ⟨gb,2,none⟩=some (.slice k25 m25 d25))) w21:=S21.out
    refine wpAnyH_ready (rs:=[5]) (by kernel_rfl) (by simp) ?_
    refine AllReadyH.cons (o:={ dst:=some 49,op:=Op.call { callee:=Callee.value (Operand.func 37),args:=#[Operand.const (Value.int IntKind.u8 48),Operand.tmp 48],argTypes:=#[5,30] },type:=32,pos:=_,after:=_,guard:=none }) rfl (fun K hK=>?_) AllReadyH.nil
    go_simp
    refine (seq'_any _ ((w.heap.size+1) :: xs) 48 d i KA ks (HKI.out.under (HW8.out.trans (R21.out.mono HW8.out.size))) HKL.out (by omega)).mono ?_
    intro e w26 hm
    obtain ⟨lt26,t26,a26,n26,c26,k26,m26,d26,rfl,h6,hlt',hoff,hb⟩:=MadeT.six hm
    have b26:Hid (Below w21.heap.size w21 w26):=Lib.hid (hb)
    have R26:=Lib.hid (R21.out.trans (b26.out.mono R21.out.size))
    have S26:=Lib.hid (HS8.out _ R26.out)
    have HS26:=Lib.hid h6
    have HT26:=Lib.hid hlt'
    have HO26:=Lib.hid hoff
    clear hm hb h6 hlt' hoff
    go_simp
    refine hK.out _ _ (S26.out) (fun _=>?_)
    clear hK K hHeld
    try simp only [Act.put,List.setIfInBounds_toArray,List.set_cons_zero,List.set_cons_succ]
    have hHeld:((fun W=>W.cell? ⟨w.heap.size,0,none⟩=some (.slice ia isn ic)∧W.cell? ⟨gb,0,none⟩=some (.int .u8 (t25:Int))∧W.cell? ⟨gb,1,none⟩=some (.slice a25 n25 c25)∧W.cell? ⟨gb,2,none⟩=some (.slice k25 m25 d25))) w26:=S26.out
    refine wpAnyH_ready (rs:=[6]) (by kernel_rfl) (by simp) ?_
    refine AllReadyH.cons (o:={ dst:=some 50,op:=Op.buildSlice 30 3 #[(0,Operand.tmp 46),(1,Operand.tmp 47),(2,Operand.tmp 49)],type:=30,pos:=_,after:=_,guard:=none }) rfl (fun K hK=>?_) AllReadyH.nil
    go_simp
    obtain ⟨w27,hw⟩:∃ W,W=w26.alloc (.cells #[.int .u8 (t21:Int),.slice a21 n21 c21,.slice k21 m21 d21,.int .u8 (t25:Int),.slice a25 n25 c25,.slice k25 m25 d25,.int .u8 (t26:Int),.slice a26 n26 c26,.slice k26 m26 d26] 32):=⟨_,rfl⟩
    rw [←hw]
    have b27:Hid (Below w26.heap.size w26 w27):=Lib.hid (by rw [hw];exact (Below.refl _ _).alloc (Nat.le_refl _) _)
    have R27:=Lib.hid (R26.out.trans (b27.out.mono R26.out.size))
    have S27:=Lib.hid (HS8.out _ R27.out)
    have HP27:Hid (Off ((w.heap.size+1) :: xs) (KiP (some ⟨w26.heap.size,0,none⟩) 3 [lt21,lt25,lt26]) w27):=Lib.hid (by rw [hw];exact row666 (HO21.out.under b26.out) HS21.out (HOF.out.under R26.out) HS25.out HO26.out HS26.out (fun hx=>Nat.lt_irrefl _ (HBD.out _ (HW8.out.trans (R26.out.mono HW8.out.size)) _ hx)))
    clear hw
    refine hK.out _ _ (S27.out) (fun _=>?_)
    clear hK K hHeld
    try simp only [Act.put,List.setIfInBounds_toArray,List.set_cons_zero,List.set_cons_succ]
    have hHeld:((fun W=>W.cell? ⟨w.heap.size,0,none⟩=some (.slice ia isn ic)∧W.cell? ⟨gb,0,none⟩=some (.int .u8 (t25:Int))∧W.cell? ⟨gb,1,none⟩=some (.slice a25 n25 c25)∧W.cell? ⟨gb,2,none⟩=some (.slice k25 m25 d25))) w27:=S27.out
    refine wpAnyH_ready (rs:=[7]) (by kernel_rfl) (by simp) ?_
    refine AllReadyH.cons (o:={ dst:=some 51,op:=Op.call { callee:=Callee.value (Operand.func 37),args:=#[Operand.const (Value.int IntKind.u8 48),Operand.tmp 50],argTypes:=#[5,30] },type:=32,pos:=_,after:=_,guard:=none }) rfl (fun K hK=>?_) AllReadyH.nil
    go_simp
    refine (seq'_any _ ((w.heap.size+1) :: xs) 48 3 3 _ [lt21,lt25,lt26] HP27.out rfl (by omega)).mono ?_
    intro e w28 hm
    obtain ⟨lt28,t28,a28,n28,c28,k28,m28,d28,rfl,h6,hlt',hoff,hb⟩:=MadeT.six hm
    have b28:Hid (Below w27.heap.size w27 w28):=Lib.hid (hb)
    have R28:=Lib.hid (R27.out.trans (b28.out.mono R27.out.size))
    have S28:=Lib.hid (HS8.out _ R28.out)
    have HS28:=Lib.hid h6
    have HT28:=Lib.hid hlt'
    have HO28:=Lib.hid hoff
    clear hm hb h6 hlt' hoff
    have hz28:=HZ8.out.under R28.out HZ8.out.lt
    have HZ28:=Lib.hid hz28
    have x0:=hz28.cell 0
    have x1:=hz28.cell 1
    have x2:=hz28.cell 2
    have y0:=hz28.open_ 0
    have y1:=hz28.open_ 1
    have y2:=hz28.open_ 2
    have S29:Hid ((fun W=>W.cell? ⟨w.heap.size,0,none⟩=some (.slice ia isn ic)∧W.cell? ⟨gb,0,none⟩=some (.int .u8 (t25:Int))∧W.cell? ⟨gb,1,none⟩=some (.slice a25 n25 c25)∧W.cell? ⟨gb,2,none⟩=some (.slice k25 m25 d25)) (((w28.setCell ⟨w.heap.size+1,0,none⟩ (.int .u8 (t28:Int))).setCell ⟨w.heap.size+1,1,none⟩ (.slice a28 n28 c28)).setCell ⟨w.heap.size+1,2,none⟩ (.slice k28 m28 d28))):=Lib.hid (by
     have hne:w.heap.size≠w.heap.size+1:=by omega
     have hng:gb≠w.heap.size+1:=GNE.out
     refine ⟨?_,?_,?_,?_⟩
     ·rw [cell_ne hne,cell_ne hne,cell_ne hne];exact S28.out.1
     ·rw [cell_ne hng,cell_ne hng,cell_ne hng];exact S28.out.2.1
     ·rw [cell_ne hng,cell_ne hng,cell_ne hng];exact S28.out.2.2.1
     ·rw [cell_ne hng,cell_ne hng,cell_ne hng];exact S28.out.2.2.2)
    clear hz28
    go_simp
    refine hK.out _ _ (S28.out) (fun _=>?_)
    clear hK K hHeld
    try simp only [Act.put,List.setIfInBounds_toArray,List.set_cons_zero,List.set_cons_succ]
    have hHeld:((fun W=>W.cell? ⟨w.heap.size,0,none⟩=some (.slice ia isn ic)∧W.cell? ⟨gb,0,none⟩=some (.int .u8 (t25:Int))∧W.cell? ⟨gb,1,none⟩=some (.slice a25 n25 c25)∧W.cell? ⟨gb,2,none⟩=some (.slice k25 m25 d25))) w28:=S28.out
    refine wpAnyH_ready (rs:=[8]) (by kernel_rfl) (by simp) ?_
    refine AllReadyH.cons (o:={ dst:=none,op:=Op.store 32 (Operand.tmp 2) (Operand.tmp 51),type:=0,pos:=_,after:=_,guard:=none }) rfl (fun K hK=>?_) AllReadyH.nil
    go_simp
    refine hK.out _ _ (S29.out) (fun _=>?_)
    clear hK K hHeld
    try simp only [Act.put,List.setIfInBounds_toArray,List.set_cons_zero,List.set_cons_succ]
    have hHeld:((fun W=>W.cell? ⟨w.heap.size,0,none⟩=some (.slice ia isn ic)∧W.cell? ⟨gb,0,none⟩=some (.int .u8 (t25:Int))∧W.cell? ⟨gb,1,none⟩=some (.slice a25 n25 c25)∧W.cell? ⟨gb,2,none⟩=some (.slice k25 m25 d25))) (((w28.setCell ⟨w.heap.size+1,0,none⟩ (.int .u8 (t28:Int))).setCell ⟨w.heap.size+1,1,none⟩ (.slice a28 n28 c28)).setCell ⟨w.heap.size+1,2,none⟩ (.slice k28 m28 d28)):=S29.out
    refine wpAnyH_done (by kernel_rfl) ?_ _
    refine NoPanic.normal ?_
    have HTE:Hid (lt28.t=TT):=Lib.hid (by rw [HTV.out,←HTT.out];rw [HT28.out];simp [HT21.out,HT25.out,HT26.out])
    have HLT:Hid (lt28.val = .agg #[.int .u8 (t28:Int),.slice a28 n28 c28,.slice k28 m28 d28]):=Lib.hid (Of6.val HS28.out)
    have HBE:=Lib.hid (HB0.out.trans ((HBV.out _ (HW8.out.trans (R28.out.mono HW8.out.size))).mono HB0.out.size))
    go_wp2_with fail
    refine ret_one rfl rfl (((HZ28.out.stored 0 _).stored 1 _).stored 2 _) rfl ?_
    exact ⟨lt28,by rw [HLT.out];rfl,HTE.out,made_outG HO28.out _ _ _,below_outG HBE.out (by omega) _ _ _⟩
   refine wp_region_noPanic ?_
   refine wp_region_held_drew (S:=(fun W=>W.cell? ⟨w.heap.size,0,none⟩=some (.slice ia isn ic)∧W.cell? ⟨w.heap.size,1,none⟩=some (.int .i64 ta)∧W.cell? ⟨w.heap.size,2,none⟩=some (.int .i64 tn))) (by kernel_rfl) (HS.out _ (Below.refl _ wr).drew) (fun hHeld=>?_)
   refine wpAnyH_take (i:=0) (oi:={ dst:=some 36,op:=Op.fieldAddr 26 (Operand.tmp 1) 1,type:=0,pos:=_,after:=_,guard:=none }) (v:=?_) rfl (by kernel_rfl) (by kernel_rfl) (by kernel_rfl) (fun _ _ _ h=>h) (Or.inl ⟨by rfl,?_⟩) hHeld ?_
   rotate_left 1
   ·(intro W hW;(try dsimp only at hW);go_simp;try with_reducible rfl)
   try simp only [Act.put,List.setIfInBounds_toArray,List.set_cons_zero,List.set_cons_succ]
   refine wpAnyH_take (i:=1) (oi:={ dst:=some 37,op:=Op.load 2 (Operand.tmp 36),type:=2,pos:=_,after:=_,guard:=none }) (v:=?_) rfl (by kernel_rfl) (by kernel_rfl) (by kernel_rfl) (fun _ _ _ h=>h) (Or.inl ⟨by rfl,?_⟩) hHeld ?_
   rotate_left 1
   ·(intro W hW;obtain ⟨_,k1,_⟩:=hW;(try dsimp only at hW);go_simp;try with_reducible rfl)
   try simp only [Act.put,List.setIfInBounds_toArray,List.set_cons_zero,List.set_cons_succ]
   refine wpAnyH_take (i:=3) (oi:={ dst:=some 39,op:=Op.fieldAddr 26 (Operand.tmp 1) 2,type:=0,pos:=_,after:=_,guard:=none }) (v:=?_) rfl (by kernel_rfl) (by kernel_rfl) (by kernel_rfl) (fun _ _ _ h=>h) (Or.inl ⟨by rfl,?_⟩) hHeld ?_
   rotate_left 1
   ·(intro W hW;(try dsimp only at hW);go_simp;try with_reducible rfl)
   try simp only [Act.put,List.setIfInBounds_toArray,List.set_cons_zero,List.set_cons_succ]
   refine wpAnyH_take (i:=4) (oi:={ dst:=some 40,op:=Op.load 2 (Operand.tmp 39),type:=2,pos:=_,after:=_,guard:=none }) (v:=?_) rfl (by kernel_rfl) (by kernel_rfl) (by kernel_rfl) (fun _ _ _ h=>h) (Or.inl ⟨by rfl,?_⟩) hHeld ?_
   rotate_left 1
   ·(intro W hW;obtain ⟨_,_,k2⟩:=hW;(try dsimp only at hW);go_simp;try with_reducible rfl)
   try simp only [Act.put,List.setIfInBounds_toArray,List.set_cons_zero,List.set_cons_succ]
   refine wpAnyH_ready (rs:=[2,8]) (by kernel_rfl) (by simp) ?_
   refine AllReadyH.cons (o:={ dst:=some 38,op:=Op.call { callee:=Callee.value (Operand.func 42),args:=#[Operand.tmp 37],argTypes:=#[2] },type:=32,pos:=_,after:=_,guard:=none }) rfl (fun K hK=>?_) ?_
   go_simp
   refine (HTA0.out _ ((w.heap.size+1) :: xs) (HBD.out _ (Below.refl _ wr).drew)).mono ?_
   intro e w22 hm
   obtain ⟨lt22,t22,a22,n22,c22,k22,m22,d22,rfl,h6,hlt',hoff,hb⟩:=MadeT.six hm
   have b22:Hid (Below wr.heap.size wr w22):=Lib.hid ((Below.refl _ wr).drew.trans hb)
   have R22:=Lib.hid (b22.out)
   have S22:=Lib.hid (HS.out _ R22.out)
   have HS22:=Lib.hid h6
   have HT22:=Lib.hid hlt'
   have HO22:=Lib.hid hoff
   clear hm hb h6 hlt' hoff
   go_simp
   refine hK.out _ _ (S22.out) (fun hHeld=>?_)
   clear hK K
   try simp only [Act.put,List.setIfInBounds_toArray,List.set_cons_zero,List.set_cons_succ]
   refine wpAnyH_ready (rs:=[5,8]) (by kernel_rfl) (by simp) ?_
   refine AllReadyH.cons (o:={ dst:=some 41,op:=Op.call { callee:=Callee.value (Operand.func 42),args:=#[Operand.tmp 40],argTypes:=#[2] },type:=32,pos:=_,after:=_,guard:=none }) rfl (fun K hK=>?_) ?_
   go_simp
   refine (HTN0.out _ ((w.heap.size+1) :: xs) (HBD.out _ R22.out)).mono ?_
   intro e w23 hm
   obtain ⟨lt23,t23,a23,n23,c23,k23,m23,d23,rfl,h6,hlt',hoff,hb⟩:=MadeT.six hm
   have b23:Hid (Below w22.heap.size w22 w23):=Lib.hid (hb)
   have R23:=Lib.hid (R22.out.trans (b23.out.mono R22.out.size))
   have S23:=Lib.hid (HS.out _ R23.out)
   have HS23:=Lib.hid h6
   have HT23:=Lib.hid hlt'
   have HO23:=Lib.hid hoff
   clear hm hb h6 hlt' hoff
   go_simp
   refine hK.out _ _ (S23.out) (fun hHeld=>?_)
   clear hK K
   try simp only [Act.put,List.setIfInBounds_toArray,List.set_cons_zero,List.set_cons_succ]
   refine wpAnyH_ready (rs:=[6,8]) (by kernel_rfl) (by simp) ?_
   refine AllReadyH.cons (o:={ dst:=some 42,op:=Op.buildSlice 30 2 #[(0,Operand.tmp 38),(1,Operand.tmp 41)],type:=30,pos:=_,after:=_,guard:=none }) rfl (fun K hK=>?_) ?_
   go_simp
   obtain ⟨w24,hw⟩:∃ W,W=w23.alloc (.cells #[.int .u8 (t22:Int),.slice a22 n22 c22,.slice k22 m22 d22,.int .u8 (t23:Int),.slice a23 n23 c23,.slice k23 m23 d23] 32):=⟨_,rfl⟩
   rw [←hw]
   have b24:Hid (Below w23.heap.size w23 w24):=Lib.hid (by rw [hw];exact (Below.refl _ _).alloc (Nat.le_refl _) _)
   have R24:=Lib.hid (R23.out.trans (b24.out.mono R23.out.size))
   have S24:=Lib.hid (HS.out _ R24.out)
   have HP24:Hid (Off ((w.heap.size+1) :: xs) (KiP (some ⟨w23.heap.size,0,none⟩) 2 [lt22,lt23]) w24):=Lib.hid (by rw [hw];exact row66 (HO22.out.under b23.out) HS22.out HO23.out HS23.out (fun hx=>Nat.lt_irrefl _ (HBD.out _ R23.out _ hx)))
   clear hw
   refine hK.out _ _ (S24.out) (fun hHeld=>?_)
   clear hK K
   try simp only [Act.put,List.setIfInBounds_toArray,List.set_cons_zero,List.set_cons_succ]
   refine wpAnyH_ready (rs:=[7,8]) (by kernel_rfl) (by simp) ?_
   refine AllReadyH.cons (o:={ dst:=some 43,op:=Op.call { callee:=Callee.value (Operand.func 37),args:=#[Operand.const (Value.int IntKind.u8 48),Operand.tmp 42],argTypes:=#[5,30] },type:=32,pos:=_,after:=_,guard:=none }) rfl (fun K hK=>?_) ?_
   go_simp
   refine (seq'_any _ ((w.heap.size+1) :: xs) 48 2 2 _ [lt22,lt23] HP24.out rfl (by omega)).mono ?_
   intro e w25 hm
   obtain ⟨lt25,t25,a25,n25,c25,k25,m25,d25,rfl,h6,hlt',hoff,hb⟩:=MadeT.six hm
   have b25:Hid (Below w24.heap.size w24 w25):=Lib.hid (hb)
   have R25:=Lib.hid (R24.out.trans (b25.out.mono R24.out.size))
   have S25:=Lib.hid (HS.out _ R25.out)
   have HS25:=Lib.hid h6
   have HT25:=Lib.hid hlt'
   have HO25:=Lib.hid hoff
   clear hm hb h6 hlt' hoff
   go_simp
   refine hK.out _ _ (S25.out) (fun hHeld=>?_)
   clear hK K
   try simp only [Act.put,List.setIfInBounds_toArray,List.set_cons_zero,List.set_cons_succ]
   refine wpAnyH_ready (rs:=[8]) (by kernel_rfl) (by simp) ?_
   refine AllReadyH.cons (o:={ dst:=some 5,op:=Op.alloc 32,type:=0,pos:=_,after:=_,guard:=none }) rfl (fun K hK=>?_) AllReadyH.nil
   go_simp
   obtain ⟨w30,hw⟩:∃ W,W=w25.alloc (.cells #[.int .u8 0,.slice none 0 0,.slice none 0 0] 32):=⟨_,rfl⟩
   rw [←hw]
   have b30:Hid (Below w25.heap.size w25 w30):=Lib.hid (by rw [hw];exact (Below.refl _ w25).alloc (Nat.le_refl _) _)
   have R30:=Lib.hid (R25.out.trans (b30.out.mono R25.out.size))
   have S30:=Lib.hid (HS.out _ R30.out)
   have H30:Hid (Holds w30 w25.heap.size 32 #[.int .u8 0,.slice none 0 0,.slice none 0 0]):=Lib.hid (by rw [hw];exact Holds.fresh w25 _ _)
   have HBG:Hid (∀ W,Below wr.heap.size wr W→w30.heap.size≤W.heap.size→∀ x∈w25.heap.size :: ((w.heap.size+1) :: xs),x<W.heap.size):=Lib.hid fun W hW hs x hx=>by
    rcases List.mem_cons.1 hx with rfl | hx
    ·have:=H30.out.lt;omega
    ·exact HBD.out W hW x hx
   have HN25:Hid (Off (w25.heap.size :: ((w.heap.size+1) :: xs)) (ThP lt25) w30):=Lib.hid (by rw [hw];exact (HO25.out).fresh_ _)
   clear hw
   refine hK.out _ _ (S30.out) (fun hHeld=>?_)
   clear hK K
   try simp only [Act.put,List.setIfInBounds_toArray,List.set_cons_zero,List.set_cons_succ]
   refine wpAnyH_ready (rs:=[9]) (by kernel_rfl) (by simp) ?_
   refine AllReadyH.cons (o:={ dst:=none,op:=Op.store 32 (Operand.tmp 5) (Operand.tmp 43),type:=0,pos:=_,after:=_,guard:=none }) rfl (fun K hK=>?_) AllReadyH.nil
   have hz:=H30.out
   have HH:=Lib.hid hz
   have x0:=hz.cell 0
   have x1:=hz.cell 1
   have x2:=hz.cell 2
   have y0:=hz.open_ 0
   have y1:=hz.open_ 1
   have y2:=hz.open_ 2
   have GE:Hid (wr.heap.size≤w25.heap.size):=Lib.hid (by have:=R25.out.size;omega)
   have RR:=Lib.hid (below_outG R30.out GE.out (.int .u8 (t25:Int)) (.slice a25 n25 c25) (.slice k25 m25 d25))
   have S31:=Lib.hid (HS.out _ RR.out)
   have OF:Hid (Off ((w.heap.size+1) :: xs) (ThP lt25) (((w30.setCell ⟨w25.heap.size,0,none⟩ (.int .u8 (t25:Int))).setCell ⟨w25.heap.size,1,none⟩ (.slice a25 n25 c25)).setCell ⟨w25.heap.size,2,none⟩ (.slice k25 m25 d25))):=Lib.hid (made_outG HN25.out _ _ _)
   have HD:Hid (Holds (((w30.setCell ⟨w25.heap.size,0,none⟩ (.int .u8 (t25:Int))).setCell ⟨w25.heap.size,1,none⟩ (.slice a25 n25 c25)).setCell ⟨w25.heap.size,2,none⟩ (.slice k25 m25 d25)) w25.heap.size 32 #[.int .u8 (t25:Int),.slice a25 n25 c25,.slice k25 m25 d25]):=Lib.hid (((HH.out.stored 0 _).stored 1 _).stored 2 _)
   clear hz
   go_simp
   refine hK.out _ _ (S31.out) (fun hHeld=>?_)
   clear hK K
   try simp only [Act.put,List.setIfInBounds_toArray,List.set_cons_zero,List.set_cons_succ]
   refine wpAnyH_done (by kernel_rfl) ?_ _
   refine NoPanic.normal ?_
   rw [HQ8.out]
   exact ⟨rfl,w25.heap.size,lt25,t25,a25,n25,c25,k25,m25,d25,_,_,_,_,_,_,_,_,_,_,_,_,_,_,_,_,_,_,_,_,_,_,_,_,_,_,_,_,_,_,_,_,_,_,_,_,_,_,_,_,_,_,_,_,_,_,_,_,rfl,HS25.out,by rw [HT25.out];simp [HT22.out,HT23.out],OF.out,HD.out,RR.out,GE.out⟩
   refine AllReadyH.cons (o:={ dst:=some 5,op:=Op.alloc 32,type:=0,pos:=_,after:=_,guard:=none }) rfl (fun K hK=>?_) AllReadyH.nil
   go_simp
   obtain ⟨w30,hw⟩:∃ W,W=w24.alloc (.cells #[.int .u8 0,.slice none 0 0,.slice none 0 0] 32):=⟨_,rfl⟩
   rw [←hw]
   have b30:Hid (Below w24.heap.size w24 w30):=Lib.hid (by rw [hw];exact (Below.refl _ w24).alloc (Nat.le_refl _) _)
   have R30:=Lib.hid (R24.out.trans (b30.out.mono R24.out.size))
   have S30:=Lib.hid (HS.out _ R30.out)
   have H30:Hid (Holds w30 w24.heap.size 32 #[.int .u8 0,.slice none 0 0,.slice none 0 0]):=Lib.hid (by rw [hw];exact Holds.fresh w24 _ _)
   have HBG:Hid (∀ W,Below wr.heap.size wr W→w30.heap.size≤W.heap.size→∀ x∈w24.heap.size :: ((w.heap.size+1) :: xs),x<W.heap.size):=Lib.hid fun W hW hs x hx=>by
    rcases List.mem_cons.1 hx with rfl | hx
    ·have:=H30.out.lt;omega
    ·exact HBD.out W hW x hx
   have HN24:Hid (Off (w24.heap.size :: ((w.heap.size+1) :: xs)) (KiP _ 2 [lt22,lt23]) w30):=Lib.hid (by rw [hw];exact (HP24.out).fresh_ _)
   clear hw
   refine hK.out _ _ (S30.out) (fun hHeld=>?_)
   clear hK K
   try simp only [Act.put,List.setIfInBounds_toArray,List.set_cons_zero,List.set_cons_succ]
   refine wpAnyH_ready (rs:=[7]) (by kernel_rfl) (by simp) ?_
   refine AllReadyH.cons (o:={ dst:=some 43,op:=Op.call { callee:=Callee.value (Operand.func 37),args:=#[Operand.const (Value.int IntKind.u8 48),Operand.tmp 42],argTypes:=#[5,30] },type:=32,pos:=_,after:=_,guard:=none }) rfl (fun K hK=>?_) AllReadyH.nil
   go_simp
   refine (seq'_any _ (w24.heap.size :: ((w.heap.size+1) :: xs)) 48 2 2 _ [lt22,lt23] HN24.out rfl (by omega)).mono ?_
   intro e w25 hm
   obtain ⟨lt25,t25,a25,n25,c25,k25,m25,d25,rfl,h6,hlt',hoff,hb⟩:=MadeT.six hm
   have b25:Hid (Below w30.heap.size w30 w25):=Lib.hid (hb)
   have R25:=Lib.hid (R30.out.trans (b25.out.mono R30.out.size))
   have S25:=Lib.hid (HS.out _ R25.out)
   have HS25:=Lib.hid h6
   have HT25:=Lib.hid hlt'
   have HO25:=Lib.hid hoff
   clear hm hb h6 hlt' hoff
   go_simp
   refine hK.out _ _ (S25.out) (fun hHeld=>?_)
   clear hK K
   try simp only [Act.put,List.setIfInBounds_toArray,List.set_cons_zero,List.set_cons_succ]
   refine wpAnyH_ready (rs:=[9]) (by kernel_rfl) (by simp) ?_
   refine AllReadyH.cons (o:={ dst:=none,op:=Op.store 32 (Operand.tmp 5) (Operand.tmp 43),type:=0,pos:=_,after:=_,guard:=none }) rfl (fun K hK=>?_) AllReadyH.nil
   have hz:=(H30.out.under b25.out H30.out.lt)
   have HH:=Lib.hid hz
   have x0:=hz.cell 0
   have x1:=hz.cell 1
   have x2:=hz.cell 2
   have y0:=hz.open_ 0
   have y1:=hz.open_ 1
   have y2:=hz.open_ 2
   have GE:Hid (wr.heap.size≤w24.heap.size):=Lib.hid (by have:=R24.out.size;omega)
   have RR:=Lib.hid (below_outG R25.out GE.out (.int .u8 (t25:Int)) (.slice a25 n25 c25) (.slice k25 m25 d25))
   have S31:=Lib.hid (HS.out _ RR.out)
   have OF:Hid (Off ((w.heap.size+1) :: xs) (ThP lt25) (((w25.setCell ⟨w24.heap.size,0,none⟩ (.int .u8 (t25:Int))).setCell ⟨w24.heap.size,1,none⟩ (.slice a25 n25 c25)).setCell ⟨w24.heap.size,2,none⟩ (.slice k25 m25 d25))):=Lib.hid (made_outG HO25.out _ _ _)
   have HD:Hid (Holds (((w25.setCell ⟨w24.heap.size,0,none⟩ (.int .u8 (t25:Int))).setCell ⟨w24.heap.size,1,none⟩ (.slice a25 n25 c25)).setCell ⟨w24.heap.size,2,none⟩ (.slice k25 m25 d25)) w24.heap.size 32 #[.int .u8 (t25:Int),.slice a25 n25 c25,.slice k25 m25 d25]):=Lib.hid (((HH.out.stored 0 _).stored 1 _).stored 2 _)
   clear hz
   go_simp
   refine hK.out _ _ (S31.out) (fun hHeld=>?_)
   clear hK K
   try simp only [Act.put,List.setIfInBounds_toArray,List.set_cons_zero,List.set_cons_succ]
   refine wpAnyH_done (by kernel_rfl) ?_ _
   refine NoPanic.normal ?_
   rw [HQ8.out]
   exact ⟨rfl,w24.heap.size,lt25,t25,a25,n25,c25,k25,m25,d25,_,_,_,_,_,_,_,_,_,_,_,_,_,_,_,_,_,_,_,_,_,_,_,_,_,_,_,_,_,_,_,_,_,_,_,_,_,_,_,_,_,_,_,_,_,_,_,_,rfl,HS25.out,by rw [HT25.out];simp [HT22.out,HT23.out],OF.out,HD.out,RR.out,GE.out⟩
   refine AllReadyH.cons (o:={ dst:=some 5,op:=Op.alloc 32,type:=0,pos:=_,after:=_,guard:=none }) rfl (fun K hK=>?_) AllReadyH.nil
   go_simp
   obtain ⟨w30,hw⟩:∃ W,W=w23.alloc (.cells #[.int .u8 0,.slice none 0 0,.slice none 0 0] 32):=⟨_,rfl⟩
   rw [←hw]
   have b30:Hid (Below w23.heap.size w23 w30):=Lib.hid (by rw [hw];exact (Below.refl _ w23).alloc (Nat.le_refl _) _)
   have R30:=Lib.hid (R23.out.trans (b30.out.mono R23.out.size))
   have S30:=Lib.hid (HS.out _ R30.out)
   have H30:Hid (Holds w30 w23.heap.size 32 #[.int .u8 0,.slice none 0 0,.slice none 0 0]):=Lib.hid (by rw [hw];exact Holds.fresh w23 _ _)
   have HBG:Hid (∀ W,Below wr.heap.size wr W→w30.heap.size≤W.heap.size→∀ x∈w23.heap.size :: ((w.heap.size+1) :: xs),x<W.heap.size):=Lib.hid fun W hW hs x hx=>by
    rcases List.mem_cons.1 hx with rfl | hx
    ·have:=H30.out.lt;omega
    ·exact HBD.out W hW x hx
   have HN22:Hid (Off (w23.heap.size :: ((w.heap.size+1) :: xs)) (ThP lt22) w30):=Lib.hid (by rw [hw];exact ((HO22.out.under b23.out)).fresh_ _)
   have HN23:Hid (Off (w23.heap.size :: ((w.heap.size+1) :: xs)) (ThP lt23) w30):=Lib.hid (by rw [hw];exact (HO23.out).fresh_ _)
   clear hw
   refine hK.out _ _ (S30.out) (fun hHeld=>?_)
   clear hK K
   try simp only [Act.put,List.setIfInBounds_toArray,List.set_cons_zero,List.set_cons_succ]
   refine wpAnyH_ready (rs:=[6]) (by kernel_rfl) (by simp) ?_
   refine AllReadyH.cons (o:={ dst:=some 42,op:=Op.buildSlice 30 2 #[(0,Operand.tmp 38),(1,Operand.tmp 41)],type:=30,pos:=_,after:=_,guard:=none }) rfl (fun K hK=>?_) AllReadyH.nil
   go_simp
   obtain ⟨w24,hw⟩:∃ W,W=w30.alloc (.cells #[.int .u8 (t22:Int),.slice a22 n22 c22,.slice k22 m22 d22,.int .u8 (t23:Int),.slice a23 n23 c23,.slice k23 m23 d23] 32):=⟨_,rfl⟩
   rw [←hw]
   have b24:Hid (Below w30.heap.size w30 w24):=Lib.hid (by rw [hw];exact (Below.refl _ _).alloc (Nat.le_refl _) _)
   have R24:=Lib.hid (R30.out.trans (b24.out.mono R30.out.size))
   have S24:=Lib.hid (HS.out _ R24.out)
   have HP24:Hid (Off (w23.heap.size :: ((w.heap.size+1) :: xs)) (KiP (some ⟨w30.heap.size,0,none⟩) 2 [lt22,lt23]) w24):=Lib.hid (by rw [hw];exact row66 HN22.out HS22.out HN23.out HS23.out (fun hx=>Nat.lt_irrefl _ (HBG.out _ R30.out (Nat.le_refl _) _ hx)))
   clear hw
   refine hK.out _ _ (S24.out) (fun hHeld=>?_)
   clear hK K
   try simp only [Act.put,List.setIfInBounds_toArray,List.set_cons_zero,List.set_cons_succ]
   refine wpAnyH_ready (rs:=[7]) (by kernel_rfl) (by simp) ?_
   refine AllReadyH.cons (o:={ dst:=some 43,op:=Op.call { callee:=Callee.value (Operand.func 37),args:=#[Operand.const (Value.int IntKind.u8 48),Operand.tmp 42],argTypes:=#[5,30] },type:=32,pos:=_,after:=_,guard:=none }) rfl (fun K hK=>?_) AllReadyH.nil
   go_simp
   refine (seq'_any _ (w23.heap.size :: ((w.heap.size+1) :: xs)) 48 2 2 _ [lt22,lt23] HP24.out rfl (by omega)).mono ?_
   intro e w25 hm
   obtain ⟨lt25,t25,a25,n25,c25,k25,m25,d25,rfl,h6,hlt',hoff,hb⟩:=MadeT.six hm
   have b25:Hid (Below w24.heap.size w24 w25):=Lib.hid (hb)
   have R25:=Lib.hid (R24.out.trans (b25.out.mono R24.out.size))
   have S25:=Lib.hid (HS.out _ R25.out)
   have HS25:=Lib.hid h6
   have HT25:=Lib.hid hlt'
   have HO25:=Lib.hid hoff
   clear hm hb h6 hlt' hoff
   go_simp
   refine hK.out _ _ (S25.out) (fun hHeld=>?_)
   clear hK K
   try simp only [Act.put,List.setIfInBounds_toArray,List.set_cons_zero,List.set_cons_succ]
   refine wpAnyH_ready (rs:=[9]) (by kernel_rfl) (by simp) ?_
   refine AllReadyH.cons (o:={ dst:=none,op:=Op.store 32 (Operand.tmp 5) (Operand.tmp 43),type:=0,pos:=_,after:=_,guard:=none }) rfl (fun K hK=>?_) AllReadyH.nil
   have hz:=((H30.out.under b24.out H30.out.lt).under b25.out (H30.out.under b24.out H30.out.lt).lt)
   have HH:=Lib.hid hz
   have x0:=hz.cell 0
   have x1:=hz.cell 1
   have x2:=hz.cell 2
   have y0:=hz.open_ 0
   have y1:=hz.open_ 1
   have y2:=hz.open_ 2
   have GE:Hid (wr.heap.size≤w23.heap.size):=Lib.hid (by have:=R23.out.size;omega)
   have RR:=Lib.hid (below_outG R25.out GE.out (.int .u8 (t25:Int)) (.slice a25 n25 c25) (.slice k25 m25 d25))
   have S31:=Lib.hid (HS.out _ RR.out)
   have OF:Hid (Off ((w.heap.size+1) :: xs) (ThP lt25) (((w25.setCell ⟨w23.heap.size,0,none⟩ (.int .u8 (t25:Int))).setCell ⟨w23.heap.size,1,none⟩ (.slice a25 n25 c25)).setCell ⟨w23.heap.size,2,none⟩ (.slice k25 m25 d25))):=Lib.hid (made_outG HO25.out _ _ _)
   have HD:Hid (Holds (((w25.setCell ⟨w23.heap.size,0,none⟩ (.int .u8 (t25:Int))).setCell ⟨w23.heap.size,1,none⟩ (.slice a25 n25 c25)).setCell ⟨w23.heap.size,2,none⟩ (.slice k25 m25 d25)) w23.heap.size 32 #[.int .u8 (t25:Int),.slice a25 n25 c25,.slice k25 m25 d25]):=Lib.hid (((HH.out.stored 0 _).stored 1 _).stored 2 _)
   clear hz
   go_simp
   refine hK.out _ _ (S31.out) (fun hHeld=>?_)
   clear hK K
   try simp only [Act.put,List.setIfInBounds_toArray,List.set_cons_zero,List.set_cons_succ]
   refine wpAnyH_done (by kernel_rfl) ?_ _
   refine NoPanic.normal ?_
   rw [HQ8.out]
   exact ⟨rfl,w23.heap.size,lt25,t25,a25,n25,c25,k25,m25,d25,_,_,_,_,_,_,_,_,_,_,_,_,_,_,_,_,_,_,_,_,_,_,_,_,_,_,_,_,_,_,_,_,_,_,_,_,_,_,_,_,_,_,_,_,_,_,_,_,rfl,HS25.out,by rw [HT25.out];simp [HT22.out,HT23.out],OF.out,HD.out,RR.out,GE.out⟩
   refine AllReadyH.cons (o:={ dst:=some 5,op:=Op.alloc 32,type:=0,pos:=_,after:=_,guard:=none }) rfl (fun K hK=>?_) AllReadyH.nil
   go_simp
   obtain ⟨w30,hw⟩:∃ W,W=w22.alloc (.cells #[.int .u8 0,.slice none 0 0,.slice none 0 0] 32):=⟨_,rfl⟩
   rw [←hw]
   have b30:Hid (Below w22.heap.size w22 w30):=Lib.hid (by rw [hw];exact (Below.refl _ w22).alloc (Nat.le_refl _) _)
   have R30:=Lib.hid (R22.out.trans (b30.out.mono R22.out.size))
   have S30:=Lib.hid (HS.out _ R30.out)
   have H30:Hid (Holds w30 w22.heap.size 32 #[.int .u8 0,.slice none 0 0,.slice none 0 0]):=Lib.hid (by rw [hw];exact Holds.fresh w22 _ _)
   have HBG:Hid (∀ W,Below wr.heap.size wr W→w30.heap.size≤W.heap.size→∀ x∈w22.heap.size :: ((w.heap.size+1) :: xs),x<W.heap.size):=Lib.hid fun W hW hs x hx=>by
    rcases List.mem_cons.1 hx with rfl | hx
    ·have:=H30.out.lt;omega
    ·exact HBD.out W hW x hx
   have HN22:Hid (Off (w22.heap.size :: ((w.heap.size+1) :: xs)) (ThP lt22) w30):=Lib.hid (by rw [hw];exact (HO22.out).fresh_ _)
   clear hw
   refine hK.out _ _ (S30.out) (fun hHeld=>?_)
   clear hK K
   try simp only [Act.put,List.setIfInBounds_toArray,List.set_cons_zero,List.set_cons_succ]
   refine wpAnyH_ready (rs:=[5]) (by kernel_rfl) (by simp) ?_
   refine AllReadyH.cons (o:={ dst:=some 41,op:=Op.call { callee:=Callee.value (Operand.func 42),args:=#[Operand.tmp 40],argTypes:=#[2] },type:=32,pos:=_,after:=_,guard:=none }) rfl (fun K hK=>?_) AllReadyH.nil
   go_simp
   refine (HTN0.out _ (w22.heap.size :: ((w.heap.size+1) :: xs)) (HBG.out _ R30.out (Nat.le_refl _))).mono ?_
   intro e w23 hm
   obtain ⟨lt23,t23,a23,n23,c23,k23,m23,d23,rfl,h6,hlt',hoff,hb⟩:=MadeT.six hm
   have b23:Hid (Below w30.heap.size w30 w23):=Lib.hid (hb)
   have R23:=Lib.hid (R30.out.trans (b23.out.mono R30.out.size))
   have S23:=Lib.hid (HS.out _ R23.out)
   have HS23:=Lib.hid h6
   have HT23:=Lib.hid hlt'
   have HO23:=Lib.hid hoff
   clear hm hb h6 hlt' hoff
   go_simp
   refine hK.out _ _ (S23.out) (fun hHeld=>?_)
   clear hK K
   try simp only [Act.put,List.setIfInBounds_toArray,List.set_cons_zero,List.set_cons_succ]
   refine wpAnyH_ready (rs:=[6]) (by kernel_rfl) (by simp) ?_
   refine AllReadyH.cons (o:={ dst:=some 42,op:=Op.buildSlice 30 2 #[(0,Operand.tmp 38),(1,Operand.tmp 41)],type:=30,pos:=_,after:=_,guard:=none }) rfl (fun K hK=>?_) AllReadyH.nil
   go_simp
   obtain ⟨w24,hw⟩:∃ W,W=w23.alloc (.cells #[.int .u8 (t22:Int),.slice a22 n22 c22,.slice k22 m22 d22,.int .u8 (t23:Int),.slice a23 n23 c23,.slice k23 m23 d23] 32):=⟨_,rfl⟩
   rw [←hw]
   have b24:Hid (Below w23.heap.size w23 w24):=Lib.hid (by rw [hw];exact (Below.refl _ _).alloc (Nat.le_refl _) _)
   have R24:=Lib.hid (R23.out.trans (b24.out.mono R23.out.size))
   have S24:=Lib.hid (HS.out _ R24.out)
   have HP24:Hid (Off (w22.heap.size :: ((w.heap.size+1) :: xs)) (KiP (some ⟨w23.heap.size,0,none⟩) 2 [lt22,lt23]) w24):=Lib.hid (by rw [hw];exact row66 (HN22.out.under b23.out) HS22.out HO23.out HS23.out (fun hx=>Nat.lt_irrefl _ (HBG.out _ R23.out (by have h23:=b23.out.size;omega) _ hx)))
   clear hw
   refine hK.out _ _ (S24.out) (fun hHeld=>?_)
   clear hK K
   try simp only [Act.put,List.setIfInBounds_toArray,List.set_cons_zero,List.set_cons_succ]
   refine wpAnyH_ready (rs:=[7]) (by kernel_rfl) (by simp) ?_
   refine AllReadyH.cons (o:={ dst:=some 43,op:=Op.call { callee:=Callee.value (Operand.func 37),args:=#[Operand.const (Value.int IntKind.u8 48),Operand.tmp 42],argTypes:=#[5,30] },type:=32,pos:=_,after:=_,guard:=none }) rfl (fun K hK=>?_) AllReadyH.nil
   go_simp
   refine (seq'_any _ (w22.heap.size :: ((w.heap.size+1) :: xs)) 48 2 2 _ [lt22,lt23] HP24.out rfl (by omega)).mono ?_
   intro e w25 hm
   obtain ⟨lt25,t25,a25,n25,c25,k25,m25,d25,rfl,h6,hlt',hoff,hb⟩:=MadeT.six hm
   have b25:Hid (Below w24.heap.size w24 w25):=Lib.hid (hb)
   have R25:=Lib.hid (R24.out.trans (b25.out.mono R24.out.size))
   have S25:=Lib.hid (HS.out _ R25.out)
   have HS25:=Lib.hid h6
   have HT25:=Lib.hid hlt'
   have HO25:=Lib.hid hoff
   clear hm hb h6 hlt' hoff
   go_simp
   refine hK.out _ _ (S25.out) (fun hHeld=>?_)
   clear hK K
   try simp only [Act.put,List.setIfInBounds_toArray,List.set_cons_zero,List.set_cons_succ]
   refine wpAnyH_ready (rs:=[9]) (by kernel_rfl) (by simp) ?_
   refine AllReadyH.cons (o:={ dst:=none,op:=Op.store 32 (Operand.tmp 5) (Operand.tmp 43),type:=0,pos:=_,after:=_,guard:=none }) rfl (fun K hK=>?_) AllReadyH.nil
   have hz:=(((H30.out.under b23.out H30.out.lt).under b24.out (H30.out.under b23.out H30.out.lt).lt).under b25.out ((H30.out.under b23.out H30.out.lt).under b24.out (H30.out.under b23.out H30.out.lt).lt).lt)
   have HH:=Lib.hid hz
   have x0:=hz.cell 0
   have x1:=hz.cell 1
   have x2:=hz.cell 2
   have y0:=hz.open_ 0
   have y1:=hz.open_ 1
   have y2:=hz.open_ 2
   have GE:Hid (wr.heap.size≤w22.heap.size):=Lib.hid (by have:=R22.out.size;omega)
   have RR:=Lib.hid (below_outG R25.out GE.out (.int .u8 (t25:Int)) (.slice a25 n25 c25) (.slice k25 m25 d25))
   have S31:=Lib.hid (HS.out _ RR.out)
   have OF:Hid (Off ((w.heap.size+1) :: xs) (ThP lt25) (((w25.setCell ⟨w22.heap.size,0,none⟩ (.int .u8 (t25:Int))).setCell ⟨w22.heap.size,1,none⟩ (.slice a25 n25 c25)).setCell ⟨w22.heap.size,2,none⟩ (.slice k25 m25 d25))):=Lib.hid (made_outG HO25.out _ _ _)
   have HD:Hid (Holds (((w25.setCell ⟨w22.heap.size,0,none⟩ (.int .u8 (t25:Int))).setCell ⟨w22.heap.size,1,none⟩ (.slice a25 n25 c25)).setCell ⟨w22.heap.size,2,none⟩ (.slice k25 m25 d25)) w22.heap.size 32 #[.int .u8 (t25:Int),.slice a25 n25 c25,.slice k25 m25 d25]):=Lib.hid (((HH.out.stored 0 _).stored 1 _).stored 2 _)
   clear hz
   go_simp
   refine hK.out _ _ (S31.out) (fun hHeld=>?_)
   clear hK K
   try simp only [Act.put,List.setIfInBounds_toArray,List.set_cons_zero,List.set_cons_succ]
   refine wpAnyH_done (by kernel_rfl) ?_ _
   refine NoPanic.normal ?_
   rw [HQ8.out]
   exact ⟨rfl,w22.heap.size,lt25,t25,a25,n25,c25,k25,m25,d25,_,_,_,_,_,_,_,_,_,_,_,_,_,_,_,_,_,_,_,_,_,_,_,_,_,_,_,_,_,_,_,_,_,_,_,_,_,_,_,_,_,_,_,_,_,_,_,_,rfl,HS25.out,by rw [HT25.out];simp [HT22.out,HT23.out],OF.out,HD.out,RR.out,GE.out⟩
   refine AllReadyH.cons (o:={ dst:=some 5,op:=Op.alloc 32,type:=0,pos:=_,after:=_,guard:=none }) rfl (fun K hK=>?_) AllReadyH.nil
   go_simp
   obtain ⟨w30,hw⟩:∃ W,W=(wr.alloc (.cells #[.int .u8 0,.slice none 0 0,.slice none 0 0] 32)).drew:=⟨_,rfl⟩
   rw [←hw]
   have b30:Hid (Below wr.heap.size wr w30):=Lib.hid (by rw [hw];exact ((Below.refl _ wr).alloc (Nat.le_refl _) _).drew)
   have R30:=Lib.hid (b30.out)
   have S30:=Lib.hid (HS.out _ R30.out)
   have H30:Hid (Holds w30 wr.heap.size 32 #[.int .u8 0,.slice none 0 0,.slice none 0 0]):=Lib.hid (by rw [hw];exact Holds.fresh wr _ _)
   have HBG:Hid (∀ W,Below wr.heap.size wr W→w30.heap.size≤W.heap.size→∀ x∈wr.heap.size :: ((w.heap.size+1) :: xs),x<W.heap.size):=Lib.hid fun W hW hs x hx=>by
    rcases List.mem_cons.1 hx with rfl | hx
    ·have:=H30.out.lt;omega
    ·exact HBD.out W hW x hx
   clear hw
   refine hK.out _ _ (S30.out) (fun hHeld=>?_)
   clear hK K
   try simp only [Act.put,List.setIfInBounds_toArray,List.set_cons_zero,List.set_cons_succ]
   refine wpAnyH_ready (rs:=[2]) (by kernel_rfl) (by simp) ?_
   refine AllReadyH.cons (o:={ dst:=some 38,op:=Op.call { callee:=Callee.value (Operand.func 42),args:=#[Operand.tmp 37],argTypes:=#[2] },type:=32,pos:=_,after:=_,guard:=none }) rfl (fun K hK=>?_) AllReadyH.nil
   go_simp
   refine (HTA0.out _ (wr.heap.size :: ((w.heap.size+1) :: xs)) (HBG.out _ R30.out (Nat.le_refl _))).mono ?_
   intro e w22 hm
   obtain ⟨lt22,t22,a22,n22,c22,k22,m22,d22,rfl,h6,hlt',hoff,hb⟩:=MadeT.six hm
   have b22:Hid (Below w30.heap.size w30 w22):=Lib.hid (hb)
   have R22:=Lib.hid (R30.out.trans (b22.out.mono R30.out.size))
   have S22:=Lib.hid (HS.out _ R22.out)
   have HS22:=Lib.hid h6
   have HT22:=Lib.hid hlt'
   have HO22:=Lib.hid hoff
   clear hm hb h6 hlt' hoff
   go_simp
   refine hK.out _ _ (S22.out) (fun hHeld=>?_)
   clear hK K
   try simp only [Act.put,List.setIfInBounds_toArray,List.set_cons_zero,List.set_cons_succ]
   refine wpAnyH_ready (rs:=[5]) (by kernel_rfl) (by simp) ?_
   refine AllReadyH.cons (o:={ dst:=some 41,op:=Op.call { callee:=Callee.value (Operand.func 42),args:=#[Operand.tmp 40],argTypes:=#[2] },type:=32,pos:=_,after:=_,guard:=none }) rfl (fun K hK=>?_) AllReadyH.nil
   go_simp
   refine (HTN0.out _ (wr.heap.size :: ((w.heap.size+1) :: xs)) (HBG.out _ R22.out (by have h22:=b22.out.size;omega))).mono ?_
   intro e w23 hm
   obtain ⟨lt23,t23,a23,n23,c23,k23,m23,d23,rfl,h6,hlt',hoff,hb⟩:=MadeT.six hm
   have b23:Hid (Below w22.heap.size w22 w23):=Lib.hid (hb)
   have R23:=Lib.hid (R22.out.trans (b23.out.mono R22.out.size))
   have S23:=Lib.hid (HS.out _ R23.out)
   have HS23:=Lib.hid h6
   have HT23:=Lib.hid hlt'
   have HO23:=Lib.hid hoff
   clear hm hb h6 hlt' hoff
   go_simp
   refine hK.out _ _ (S23.out) (fun hHeld=>?_)
   clear hK K
   try simp only [Act.put,List.setIfInBounds_toArray,List.set_cons_zero,List.set_cons_succ]
   refine wpAnyH_ready (rs:=[6]) (by kernel_rfl) (by simp) ?_
   refine AllReadyH.cons (o:={ dst:=some 42,op:=Op.buildSlice 30 2 #[(0,Operand.tmp 38),(1,Operand.tmp 41)],type:=30,pos:=_,after:=_,guard:=none }) rfl (fun K hK=>?_) AllReadyH.nil
   go_simp
   obtain ⟨w24,hw⟩:∃ W,W=w23.alloc (.cells #[.int .u8 (t22:Int),.slice a22 n22 c22,.slice k22 m22 d22,.int .u8 (t23:Int),.slice a23 n23 c23,.slice k23 m23 d23] 32):=⟨_,rfl⟩
   rw [←hw]
   have b24:Hid (Below w23.heap.size w23 w24):=Lib.hid (by rw [hw];exact (Below.refl _ _).alloc (Nat.le_refl _) _)
   have R24:=Lib.hid (R23.out.trans (b24.out.mono R23.out.size))
   have S24:=Lib.hid (HS.out _ R24.out)
   have HP24:Hid (Off (wr.heap.size :: ((w.heap.size+1) :: xs)) (KiP (some ⟨w23.heap.size,0,none⟩) 2 [lt22,lt23]) w24):=Lib.hid (by rw [hw];exact row66 (HO22.out.under b23.out) HS22.out HO23.out HS23.out (fun hx=>Nat.lt_irrefl _ (HBG.out _ R23.out (by have h22:=b22.out.size;have h23:=b23.out.size;omega) _ hx)))
   clear hw
   refine hK.out _ _ (S24.out) (fun hHeld=>?_)
   clear hK K
   try simp only [Act.put,List.setIfInBounds_toArray,List.set_cons_zero,List.set_cons_succ]
   refine wpAnyH_ready (rs:=[7]) (by kernel_rfl) (by simp) ?_
   refine AllReadyH.cons (o:={ dst:=some 43,op:=Op.call { callee:=Callee.value (Operand.func 37),args:=#[Operand.const (Value.int IntKind.u8 48),Operand.tmp 42],argTypes:=#[5,30] },type:=32,pos:=_,after:=_,guard:=none }) rfl (fun K hK=>?_) AllReadyH.nil
   go_simp
   refine (seq'_any _ (wr.heap.size :: ((w.heap.size+1) :: xs)) 48 2 2 _ [lt22,lt23] HP24.out rfl (by omega)).mono ?_
   intro e w25 hm
   obtain ⟨lt25,t25,a25,n25,c25,k25,m25,d25,rfl,h6,hlt',hoff,hb⟩:=MadeT.six hm
   have b25:Hid (Below w24.heap.size w24 w25):=Lib.hid (hb)
   have R25:=Lib.hid (R24.out.trans (b25.out.mono R24.out.size))
   have S25:=Lib.hid (HS.out _ R25.out)
   have HS25:=Lib.hid h6
   have HT25:=Lib.hid hlt'
   have HO25:=Lib.hid hoff
   clear hm hb h6 hlt' hoff
   go_simp
   refine hK.out _ _ (S25.out) (fun hHeld=>?_)
   clear hK K
   try simp only [Act.put,List.setIfInBounds_toArray,List.set_cons_zero,List.set_cons_succ]
   refine wpAnyH_ready (rs:=[9]) (by kernel_rfl) (by simp) ?_
   refine AllReadyH.cons (o:={ dst:=none,op:=Op.store 32 (Operand.tmp 5) (Operand.tmp 43),type:=0,pos:=_,after:=_,guard:=none }) rfl (fun K hK=>?_) AllReadyH.nil
   have hz:=((((H30.out.under b22.out H30.out.lt).under b23.out (H30.out.under b22.out H30.out.lt).lt).under b24.out ((H30.out.under b22.out H30.out.lt).under b23.out (H30.out.under b22.out H30.out.lt).lt).lt).under b25.out (((H30.out.under b22.out H30.out.lt).under b23.out (H30.out.under b22.out H30.out.lt).lt).under b24.out ((H30.out.under b22.out H30.out.lt).under b23.out (H30.out.under b22.out H30.out.lt).lt).lt).lt)
   have HH:=Lib.hid hz
   have x0:=hz.cell 0
   have x1:=hz.cell 1
   have x2:=hz.cell 2
   have y0:=hz.open_ 0
   have y1:=hz.open_ 1
   have y2:=hz.open_ 2
   have GE:Hid (wr.heap.size≤wr.heap.size):=Lib.hid (by exact Nat.le_refl _)
   have RR:=Lib.hid (below_outG R25.out GE.out (.int .u8 (t25:Int)) (.slice a25 n25 c25) (.slice k25 m25 d25))
   have S31:=Lib.hid (HS.out _ RR.out)
   have OF:Hid (Off ((w.heap.size+1) :: xs) (ThP lt25) (((w25.setCell ⟨wr.heap.size,0,none⟩ (.int .u8 (t25:Int))).setCell ⟨wr.heap.size,1,none⟩ (.slice a25 n25 c25)).setCell ⟨wr.heap.size,2,none⟩ (.slice k25 m25 d25))):=Lib.hid (made_outG HO25.out _ _ _)
   have HD:Hid (Holds (((w25.setCell ⟨wr.heap.size,0,none⟩ (.int .u8 (t25:Int))).setCell ⟨wr.heap.size,1,none⟩ (.slice a25 n25 c25)).setCell ⟨wr.heap.size,2,none⟩ (.slice k25 m25 d25)) wr.heap.size 32 #[.int .u8 (t25:Int),.slice a25 n25 c25,.slice k25 m25 d25]):=Lib.hid (((HH.out.stored 0 _).stored 1 _).stored 2 _)
   clear hz
   go_simp
   refine hK.out _ _ (S31.out) (fun hHeld=>?_)
   clear hK K
   try simp only [Act.put,List.setIfInBounds_toArray,List.set_cons_zero,List.set_cons_succ]
   refine wpAnyH_done (by kernel_rfl) ?_ _
   refine NoPanic.normal ?_
   rw [HQ8.out]
   exact ⟨rfl,wr.heap.size,lt25,t25,a25,n25,c25,k25,m25,d25,_,_,_,_,_,_,_,_,_,_,_,_,_,_,_,_,_,_,_,_,_,_,_,_,_,_,_,_,_,_,_,_,_,_,_,_,_,_,_,_,_,_,_,_,_,_,_,_,rfl,HS25.out,by rw [HT25.out];simp [HT22.out,HT23.out],OF.out,HD.out,RR.out,GE.out⟩
end Go.Proofs.YtcibjcgipfpniaaGreatDoor
