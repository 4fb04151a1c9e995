/- Words and laws for the statement, part 34. -/
import Derived.Test.YtcibjcgipfpniaaGreatDoorN33
namespace Go.Proofs.YtcibjcgipfpniaaGreatDoor
open Go.RowKit
set_option linter.unusedVariables false
set_option linter.unusedSimpArgs false
attribute [local go_sem ↓] Go.wp_at_zero Go.wp_at_succ

set_option maxRecDepth 100000 in
set_option maxHeartbeats 16000000 in
theorem law_nodes (w:World) (hT:Lib.Utf8Tabs 0 1 w) (hk:KMet w) (cl cl2:Cl) (h:ClP cl w) (h2:ClP cl2 w) (hsz:SZ cl) :
  Calls Tryz.prog 3 #[.agg (ccell cl).toArray,.agg (ccell cl2).toArray] w fun e w'=>e = .returned (.bool true)∧Below w.heap.size w w':=by
 have hO:=Off.of_c h
 have hO2:=Off.of_c h2
 obtain ⟨r,hr⟩:∃ r,r=crlOk cl.v:=⟨_,rfl⟩
 obtain ⟨rb,hrb⟩:∃ r,r=crlOk cl2.v:=⟨_,rfl⟩
 obtain ⟨q,hq⟩:∃ q:Bool,q=true↔cl.v=cl2.v:=by
  rcases Classical.em (cl.v=cl2.v) with h | h
  ·exact ⟨true,by simp [h]⟩
  ·exact ⟨false,by simp [h]⟩
 obtain ⟨la,hla⟩:∃ l,l=decide (20<cl.iss.length∨40<cl.gone.length∨1000<cl.sig.length):=⟨_,rfl⟩
 obtain ⟨lb,hlb⟩:∃ l,l=decide (20<cl2.iss.length∨40<cl2.gone.length∨1000<cl2.sig.length):=⟨_,rfl⟩
 have HTW:Hid (∀ W,Below w.heap.size w W→Lib.Utf8Tabs 0 1 W):=Lib.hid fun W hW=>Utf8Tabs_below hT hW
 have GLA:=Lib.hid fun W=>long19_any W cl
 have GLB:=Lib.hid fun W=>long19_any W cl2
 rw [←hla] at GLA
 rw [←hlb] at GLB
 have GIR:=Lib.hid fun W (hW:Below w.heap.size w W)=>crlIs'_any W cl (hO.under hW).at_
 have GIB:=Lib.hid fun W (hW:Below w.heap.size w W)=>crlIs'_any W cl2 (hO2.under hW).at_
 have GIS:=Lib.hid fun W (hW:Below w.heap.size w W)=>crlIs_any W cl (hO.under hW).at_ (HTW.out W hW) hsz
 have GNA:=Lib.hid fun W (hW:Below w.heap.size w W)=>clNodeA_any W cl (hO.under hW).at_ (HTW.out W hW) hsz
 have GNR:=Lib.hid fun W (hW:Below w.heap.size w W)=>clNodeR_any W cl (hO.under hW).at_
 have GBA:=Lib.hid fun W (hW:Below w.heap.size w W)=>clBodyA_any W cl (hO.under hW).at_ (HTW.out W hW) hsz
 have GBR:=Lib.hid fun W (hW:Below w.heap.size w W)=>clBodyR_any W cl (hO.under hW).at_
 have GDA:=Lib.hid fun W (hW:Below w.heap.size w W)=>clDigA_any W cl (hO.under hW).at_ (HTW.out W hW) (hk.under hW) hsz
 have GDR:=Lib.hid fun W (hW:Below w.heap.size w W)=>clDigR_any W cl (hO.under hW).at_
 have GSA:=Lib.hid fun W (hW:Below w.heap.size w W)=>clSame_any W cl cl2 (hO.under hW).at_ (hO2.under hW).at_ q hq
 have GSR:=Lib.hid fun W (hW:Below w.heap.size w W)=>clSame'_any W cl cl2 (hO.under hW).at_ (hO2.under hW).at_ q hq
 have GGE:Hid (r=true→∀ (W:World) (lt:Lt),Below w.heap.size w W→lt.t=clTr cl.v→Off [] (ThP lt) W→Calls Tryz.prog 16 #[lt.val] W fun e w'=>∃ c2:Cl,e = .returned (.tuple #[.agg (ccell c2).toArray,.bool true])∧Off [] (ClP c2) w'∧c2.v=cl.v∧Below W.heap.size W w'):=Lib.hid fun hrt W lt hW hl ho=>by
  have hok:crlOk cl.v=true:=by rw [←hr];exact hrt
  have hdg:CvM cl.v:=⟨hok,fun g hg=>by
   obtain ⟨x,hx,rfl⟩:=List.mem_map.1 hg
   exact (h.2.1.2 x hx).2⟩
  refine (getC_any W [] (fun x hx=>by cases hx) lt ho (by rw [hl];exact sm_C (clTr_small hok)) (HTW.out W hW)).mono ?_
  rintro e w' (⟨c2,he,ho2,hm,ht,_,hb⟩ | ⟨_,hno,_⟩)
  ·exact ⟨c2,he,ho2,clTr_inj hm hdg (by rw [ht,hl]),hb⟩
  ·exact absurd hl.symm (hno _ hdg)
 have GRS:Hid (∀ (W:World) (c2:Cl),Below w.heap.size w W→Off [] (ClP c2) W→c2.v=cl.v→Calls Tryz.prog 17 #[.agg (ccell c2).toArray,.agg (ccell cl).toArray] W fun x w'=>x = .returned (.bool true)∧Below W.heap.size W w'):=Lib.hid fun W c2 hW ho hv =>
  clSame'_any W c2 cl ho.at_ (hO.under hW).at_ true (by simp [hv])
 rw [←hr] at GIR GIS GNA GNR GBA GBR GDA GDR
 rw [←hrb] at GIB
 have HNT:Hid (r=true→clNT r cl.v=clTr cl.v):=Lib.hid fun h=>by rw [h];rfl
 generalize clNT r cl.v=NT at *
 generalize clBT r cl.v=BT at *
 generalize clDG r cl.v=DG at *
 generalize clTr cl.v=CT at *
 generalize cl.v=cv at *
 clear hr hrb hq hla hlb hsz hO hO2 h h2 hT hk
 obtain ⟨ia,ic,iss,ta,tn,ga,gc,gone,sa,sc,sig⟩:=cl
 obtain ⟨ia2,ic2,iss2,ta2,tn2,ga2,gc2,gone2,sa2,sc2,sig2⟩:=cl2
 simp only [ccell] at *
 generalize iss.length=isn at *
 generalize iss2.length=isn2 at *
 generalize gone.length=gn at *
 generalize gone2.length=gn2 at *
 generalize sig.length=sn at *
 generalize sig2.length=sn2 at *
 have hq0:Below w.heap.size w ((w.alloc (.cells #[.slice ia isn ic,.int .i64 ta,.int .i64 tn,.slice ga gn gc,.slice sa sn sc] 26)).alloc (.cells #[.slice ia2 isn2 ic2,.int .i64 ta2,.int .i64 tn2,.slice ga2 gn2 gc2,.slice sa2 sn2 sc2] 26)):=((Below.refl _ _).alloc (Nat.le_refl _) _).alloc (by simp) _
 have hA:=(Holds.fresh w 26 #[.slice ia isn ic,.int .i64 ta,.int .i64 tn,.slice ga gn gc,.slice sa sn sc]).alloc (.cells #[.slice ia2 isn2 ic2,.int .i64 ta2,.int .i64 tn2,.slice ga2 gn2 gc2,.slice sa2 sn2 sc2] 26)
 have hB:=Holds.fresh (w.alloc (.cells #[.slice ia isn ic,.int .i64 ta,.int .i64 tn,.slice ga gn gc,.slice sa sn sc] 26)) 26 #[.slice ia2 isn2 ic2,.int .i64 ta2,.int .i64 tn2,.slice ga2 gn2 gc2,.slice sa2 sn2 sc2]
 rw [show (w.alloc (.cells #[.slice ia isn ic,.int .i64 ta,.int .i64 tn,.slice ga gn gc,.slice sa sn sc] 26)).heap.size=w.heap.size+1 by simp] at hB
 have a0:=hA.cell 0
 have a1:=hA.cell 1
 have a2:=hA.cell 2
 have a3:=hA.cell 3
 have a4:=hA.cell 4
 obtain ⟨V,hV⟩:∃ V,V=((w.alloc (.cells #[.slice ia isn ic,.int .i64 ta,.int .i64 tn,.slice ga gn gc,.slice sa sn sc] 26)).alloc (.cells #[.slice ia2 isn2 ic2,.int .i64 ta2,.int .i64 tn2,.slice ga2 gn2 gc2,.slice sa2 sn2 sc2] 26)):=⟨_,rfl⟩
 rw [←hV] at hq0 hA hB
 have HA:=Lib.hid hA
 have HB:=Lib.hid hB
 have HV:=Lib.hid hV
 have HUP:Hid (∀ W,Below V.heap.size V W→Below w.heap.size w W):=Lib.hid fun W hW=>hq0.trans (hW.mono hq0.size)
 have HLA:Hid (∀ W,Calls Tryz.prog 5 #[.agg #[.slice ia isn ic,.int .i64 ta,.int .i64 tn,.slice ga gn gc,.slice sa sn sc]] W fun e w'=>e = .returned (.bool la)∧Below W.heap.size W w'):=Lib.hid GLA.out
 have HLB:Hid (∀ W,Calls Tryz.prog 5 #[.agg #[.slice ia2 isn2 ic2,.int .i64 ta2,.int .i64 tn2,.slice ga2 gn2 gc2,.slice sa2 sn2 sc2]] W fun e w'=>e = .returned (.bool lb)∧Below W.heap.size W w'):=Lib.hid GLB.out
 have HIR:Hid (∀ W,Below V.heap.size V W→Calls Tryz.prog 6 #[.agg #[.slice ia isn ic,.int .i64 ta,.int .i64 tn,.slice ga gn gc,.slice sa sn sc]] W fun e w'=>e = .returned (.bool r)∧Below W.heap.size W w'):=Lib.hid fun W hW=>GIR.out W (HUP.out W hW)
 have HIB:Hid (∀ W,Below V.heap.size V W→Calls Tryz.prog 6 #[.agg #[.slice ia2 isn2 ic2,.int .i64 ta2,.int .i64 tn2,.slice ga2 gn2 gc2,.slice sa2 sn2 sc2]] W fun e w'=>e = .returned (.bool rb)∧Below W.heap.size W w'):=Lib.hid fun W hW=>GIB.out W (HUP.out W hW)
 have HIS:Hid (∀ W,Below V.heap.size V W→Calls Tryz.prog 7 #[.agg #[.slice ia isn ic,.int .i64 ta,.int .i64 tn,.slice ga gn gc,.slice sa sn sc]] W fun e w'=>e = .returned (.bool r)∧Below W.heap.size W w'):=Lib.hid fun W hW=>GIS.out W (HUP.out W hW)
 have HNA:Hid (∀ W,Below V.heap.size V W→Calls Tryz.prog 11 #[.agg #[.slice ia isn ic,.int .i64 ta,.int .i64 tn,.slice ga gn gc,.slice sa sn sc]] W (MadeT W [] NT)):=Lib.hid fun W hW=>GNA.out W (HUP.out W hW)
 have HNR:Hid (∀ W,Below V.heap.size V W→Calls Tryz.prog 12 #[.agg #[.slice ia isn ic,.int .i64 ta,.int .i64 tn,.slice ga gn gc,.slice sa sn sc]] W (MadeT W [] NT)):=Lib.hid fun W hW=>GNR.out W (HUP.out W hW)
 have HBA:Hid (∀ W,Below V.heap.size V W→Calls Tryz.prog 13 #[.agg #[.slice ia isn ic,.int .i64 ta,.int .i64 tn,.slice ga gn gc,.slice sa sn sc]] W (MadeT W [] BT)):=Lib.hid fun W hW=>GBA.out W (HUP.out W hW)
 have HBR:Hid (∀ W,Below V.heap.size V W→Calls Tryz.prog 14 #[.agg #[.slice ia isn ic,.int .i64 ta,.int .i64 tn,.slice ga gn gc,.slice sa sn sc]] W (MadeT W [] BT)):=Lib.hid fun W hW=>GBR.out W (HUP.out W hW)
 have HDA:Hid (∀ W,Below V.heap.size V W→Calls Tryz.prog 8 #[.agg #[.slice ia isn ic,.int .i64 ta,.int .i64 tn,.slice ga gn gc,.slice sa sn sc]] W (DigP W DG)):=Lib.hid fun W hW=>GDA.out W (HUP.out W hW)
 have HDR:Hid (∀ W,Below V.heap.size V W→Calls Tryz.prog 9 #[.agg #[.slice ia isn ic,.int .i64 ta,.int .i64 tn,.slice ga gn gc,.slice sa sn sc]] W (DigP W DG)):=Lib.hid fun W hW=>GDR.out W (HUP.out W hW)
 have HSA:Hid (∀ W,Below V.heap.size V W→Calls Tryz.prog 18 #[.agg #[.slice ia isn ic,.int .i64 ta,.int .i64 tn,.slice ga gn gc,.slice sa sn sc],.agg #[.slice ia2 isn2 ic2,.int .i64 ta2,.int .i64 tn2,.slice ga2 gn2 gc2,.slice sa2 sn2 sc2]] W fun e w'=>e = .returned (.bool q)∧Below W.heap.size W w'):=Lib.hid fun W hW=>GSA.out W (HUP.out W hW)
 have HSR:Hid (∀ W,Below V.heap.size V W→Calls Tryz.prog 17 #[.agg #[.slice ia isn ic,.int .i64 ta,.int .i64 tn,.slice ga gn gc,.slice sa sn sc],.agg #[.slice ia2 isn2 ic2,.int .i64 ta2,.int .i64 tn2,.slice ga2 gn2 gc2,.slice sa2 sn2 sc2]] W fun e w'=>e = .returned (.bool q)∧Below W.heap.size W w'):=Lib.hid fun W hW=>GSR.out W (HUP.out W hW)
 have HKN:Hid (∀ W,Below V.heap.size V W→Calls Tryz.prog 15 #[] W fun e w'=>e = .returned (.bool true)∧Below W.heap.size W w'):=Lib.hid fun W hW=>known19_any W (HTW.out W (HUP.out W hW))
 have HCA:Hid (∀ W,Below V.heap.size V W→W.cell? ⟨w.heap.size,0,none⟩=some (.slice ia isn ic)∧W.cell? ⟨w.heap.size,1,none⟩=some (.int .i64 ta)∧W.cell? ⟨w.heap.size,2,none⟩=some (.int .i64 tn)∧W.cell? ⟨w.heap.size,3,none⟩=some (.slice ga gn gc)∧W.cell? ⟨w.heap.size,4,none⟩=some (.slice sa sn sc)):=Lib.hid fun W hW=>by
  have h:=HA.out.under hW HA.out.lt
  exact ⟨h.cell 0,h.cell 1,h.cell 2,h.cell 3,h.cell 4⟩
 have HCB:Hid (∀ W,Below V.heap.size V W→W.cell? ⟨w.heap.size+1,0,none⟩=some (.slice ia2 isn2 ic2)∧W.cell? ⟨w.heap.size+1,1,none⟩=some (.int .i64 ta2)∧W.cell? ⟨w.heap.size+1,2,none⟩=some (.int .i64 tn2)∧W.cell? ⟨w.heap.size+1,3,none⟩=some (.slice ga2 gn2 gc2)∧W.cell? ⟨w.heap.size+1,4,none⟩=some (.slice sa2 sn2 sc2)):=Lib.hid fun W hW=>by
  have h:=HB.out.under hW HB.out.lt
  exact ⟨h.cell 0,h.cell 1,h.cell 2,h.cell 3,h.cell 4⟩
 clear hq0 hA hB hV GLA GLB GIR GIB GIS GNA GNR GBA GBR GDA GDR GSA GSR HTW
 go_enter Tryz.func3,Tryz.ntmps3
 go_wp2_with fail
 rw [←HV.out]
 refine (HLA.out V).mono ?_
 rintro e w1 ⟨rfl,hb1⟩
 have B1:Hid (Below V.heap.size V w1):=Lib.hid hb1
 clear a0 a1 a2 a3 a4 HV hb1 HLA
 rcases la with _ | _
 case true =>
  go_wp2_with fail
  go_ret
  exact ⟨rfl,HUP.out _ B1.out⟩
 obtain ⟨b0,b1,b2,b3,b4⟩:=HCB.out w1 B1.out
 go_wp2_with fail
 refine (HLB.out w1).mono ?_
 rintro e w2 ⟨rfl,hb2⟩
 have B2:Hid (Below V.heap.size V w2):=Lib.hid (B1.out.trans (hb2.mono B1.out.size))
 clear b0 b1 b2 b3 b4 hb2 HLB
 rcases lb with _ | _
 case true =>
  go_wp2_with fail
  go_ret
  exact ⟨rfl,HUP.out _ B2.out⟩
 obtain ⟨a0,a1,a2,a3,a4⟩:=HCA.out w2 B2.out
 go_wp2_with fail
 refine (HIR.out w2 B2.out).mono ?_
 rintro e V4 ⟨rfl,hb4⟩
 have B4:Hid (Below V.heap.size V V4):=Lib.hid (B2.out.trans (hb4.mono B2.out.size))
 have HQ4:Hid (∀ W,Below V4.heap.size V4 W→Below V.heap.size V W):=Lib.hid fun W hW=>B4.out.trans (hW.mono B4.out.size)
 clear a0 a1 a2 a3 a4 hb4 HIR
 have hrr:(r != r)=false:=by simp
 have hss:((str DG).toList == (str DG).toList)=true:=by simp
 have hss':((str DG).toList != (str DG).toList)=false:=by simp
 go_wp2_with fail
 refine wp_region_noPanic ?_
 refine wp_region_held_drew (S:=fun W=>Below V4.heap.size V4 W) (by kernel_rfl) (Below.refl _ V4).drew (fun hHeld=>?_)
 refine wpAnyH_take (i:=0) (oi:={ dst:=some 16,op:=Op.load 26 (Operand.tmp 2),type:=26,pos:=_,after:=_,guard:=none }) (v:=?_) rfl (by kernel_rfl) (by kernel_rfl) (by kernel_rfl) (fun _ _ _ h=>h) (Or.inl ⟨by rfl,?_⟩) hHeld ?_
 rotate_left 1
 ·(intro W hW;obtain ⟨k0,k1,k2,k3,k4⟩:=HCA.out W (HQ4.out _ hW);(try dsimp only at hW);go_simp;try with_reducible rfl)
 try simp only [Act.put,List.setIfInBounds_toArray,List.set_cons_zero,List.set_cons_succ]
 refine wpAnyH_take (i:=2) (oi:={ dst:=some 18,op:=Op.move (Operand.tmp 5),type:=4,pos:=_,after:=_,guard:=none }) (v:=?_) rfl (by kernel_rfl) (by kernel_rfl) (by kernel_rfl) (fun _ _ _ h=>h) (Or.inl ⟨by rfl,?_⟩) hHeld ?_
 rotate_left 1
 ·(intro W hW;(try dsimp only at hW);go_simp;try with_reducible rfl)
 try simp only [Act.put,List.setIfInBounds_toArray,List.set_cons_zero,List.set_cons_succ]
 refine wpAnyH_ready (rs:=[1]) (by kernel_rfl) (by simp) ?_
 refine AllReadyH.cons (o:={ dst:=some 17,op:=Op.call { callee:=Callee.value (Operand.func 7),args:=#[Operand.tmp 16],argTypes:=#[26] },type:=4,pos:=_,after:=_,guard:=none }) rfl (fun K hK=>?_) AllReadyH.nil
 go_simp
 refine (HIS.out _ (HQ4.out _ (Below.refl _ V4).drew)).mono ?_
 rintro e w1 ⟨rfl,hb⟩
 have b1:Hid (Below V4.heap.size V4 w1):=Lib.hid ((Below.refl _ V4).drew.trans hb)
 clear hb
 have U1:=b1
 go_simp
 refine hK.out _ _ (b1.out) (fun _=>?_)
 clear hK K hHeld
 try simp only [Act.put,List.setIfInBounds_toArray,List.set_cons_zero,List.set_cons_succ]
 refine wpAnyH_strong (S':=fun W=>Below w1.heap.size w1 W) (fun W hW=>b1.out.trans (hW.mono b1.out.size)) _ _ _ _ ?_
 have hHeld:(fun W=>Below w1.heap.size w1 W) w1:=Below.refl _ _
 refine wpAnyH_take (i:=3) (oi:={ dst:=some 19,op:=Op.binOp BinOp.neq 4 (Operand.tmp 17) (Operand.tmp 18) 4,type:=4,pos:=_,after:=_,guard:=none }) (v:=?_) rfl (by kernel_rfl) (by kernel_rfl) (by kernel_rfl) (fun _ _ _ h=>h) (Or.inl ⟨by rfl,?_⟩) hHeld ?_
 rotate_left 1
 ·(intro W hW;(try dsimp only at hW);go_simp;try with_reducible rfl)
 try simp only [Act.put,List.setIfInBounds_toArray,List.set_cons_zero,List.set_cons_succ]
 refine wpAnyH_take (i:=4) (oi:={ dst:=some 20,op:=Op.move (Operand.tmp 19),type:=4,pos:=_,after:=_,guard:=none }) (v:=?_) rfl (by kernel_rfl) (by kernel_rfl) (by kernel_rfl) (fun _ _ _ h=>h) (Or.inl ⟨by rfl,?_⟩) hHeld ?_
 rotate_left 1
 ·(intro W hW;(try dsimp only at hW);go_simp;try with_reducible rfl)
 try simp only [Act.put,List.setIfInBounds_toArray,List.set_cons_zero,List.set_cons_succ]
 refine wpAnyH_take (i:=5) (oi:={ dst:=some 21,op:=Op.load 26 (Operand.tmp 2),type:=26,pos:=_,after:=_,guard:=some (4,false) }) (v:=?_) rfl (by kernel_rfl) (by kernel_rfl) (by kernel_rfl) (fun _ _ _ h=>h) (Or.inl ⟨by rfl,?_⟩) hHeld ?_
 rotate_left 1
 ·(intro W hW;obtain ⟨k0,k1,k2,k3,k4⟩:=HCA.out W (HQ4.out _ (U1.out.trans (hW.mono U1.out.size)));(try dsimp only at hW);go_simp;try with_reducible rfl)
 try simp only [Act.put,List.setIfInBounds_toArray,List.set_cons_zero,List.set_cons_succ]
 refine wpAnyH_take (i:=8) (oi:={ dst:=some 24,op:=Op.load 26 (Operand.tmp 2),type:=26,pos:=_,after:=_,guard:=some (4,false) }) (v:=?_) rfl (by kernel_rfl) (by kernel_rfl) (by kernel_rfl) (fun _ _ _ h=>h) (Or.inl ⟨by rfl,?_⟩) hHeld ?_
 rotate_left 1
 ·(intro W hW;obtain ⟨k0,k1,k2,k3,k4⟩:=HCA.out W (HQ4.out _ (U1.out.trans (hW.mono U1.out.size)));(try dsimp only at hW);go_simp;try with_reducible rfl)
 try simp only [Act.put,List.setIfInBounds_toArray,List.set_cons_zero,List.set_cons_succ]
 refine wpAnyH_ready (rs:=[6]) (by kernel_rfl) (by simp) ?_
 refine AllReadyH.cons (o:={ dst:=some 22,op:=Op.call { callee:=Callee.value (Operand.func 8),args:=#[Operand.tmp 21],argTypes:=#[26] },type:=24,pos:=_,after:=_,guard:=some (4,false) }) rfl (fun K hK=>?_) AllReadyH.nil
 go_simp
 refine (HDA.out _ (HQ4.out _ U1.out)).mono ?_
 rintro e w6 ⟨A6,n6,c6,rfl,hcv,hb⟩
 have b6:Hid (Below w1.heap.size w1 w6):=Lib.hid hb
 have HCV6:=Lib.hid hcv
 clear hb hcv
 have U6:Hid (Below V4.heap.size V4 w6):=Lib.hid (U1.out.trans (b6.out.mono U1.out.size))
 go_simp
 refine hK.out _ _ (b6.out) (fun _=>?_)
 clear hK K hHeld
 try simp only [Act.put,List.setIfInBounds_toArray,List.set_cons_zero,List.set_cons_succ]
 refine wpAnyH_strong (S':=fun W=>Below w6.heap.size w6 W) (fun W hW=>b6.out.trans (hW.mono b6.out.size)) _ _ _ _ ?_
 have hHeld:(fun W=>Below w6.heap.size w6 W) w6:=Below.refl _ _
 refine wpAnyH_take (i:=7) (oi:={ dst:=some 23,op:=Op.convert 24 9 (Operand.tmp 22),type:=9,pos:=_,after:=_,guard:=some (4,false) }) (v:=?_) rfl (by kernel_rfl) (by kernel_rfl) (by kernel_rfl) (fun _ _ _ h=>h) (Or.inl ⟨by rfl,?_⟩) hHeld ?_
 rotate_left 1
 ·(intro W hW;have kk:=HCV6.out W hW;(try dsimp only at hW);go_simp;try with_reducible rfl)
 try simp only [Act.put,List.setIfInBounds_toArray,List.set_cons_zero,List.set_cons_succ]
 refine wpAnyH_ready (rs:=[9]) (by kernel_rfl) (by simp) ?_
 refine AllReadyH.cons (o:={ dst:=some 25,op:=Op.call { callee:=Callee.value (Operand.func 9),args:=#[Operand.tmp 24],argTypes:=#[26] },type:=24,pos:=_,after:=_,guard:=some (4,false) }) rfl (fun K hK=>?_) AllReadyH.nil
 go_simp
 refine (HDR.out _ (HQ4.out _ U6.out)).mono ?_
 rintro e w9 ⟨A9,n9,c9,rfl,hcv,hb⟩
 have b9:Hid (Below w6.heap.size w6 w9):=Lib.hid hb
 have HCV9:=Lib.hid hcv
 clear hb hcv
 have U9:Hid (Below V4.heap.size V4 w9):=Lib.hid (U6.out.trans (b9.out.mono U6.out.size))
 go_simp
 refine hK.out _ _ (b9.out) (fun _=>?_)
 clear hK K hHeld
 try simp only [Act.put,List.setIfInBounds_toArray,List.set_cons_zero,List.set_cons_succ]
 refine wpAnyH_strong (S':=fun W=>Below w9.heap.size w9 W) (fun W hW=>b9.out.trans (hW.mono b9.out.size)) _ _ _ _ ?_
 have hHeld:(fun W=>Below w9.heap.size w9 W) w9:=Below.refl _ _
 refine wpAnyH_take (i:=10) (oi:={ dst:=some 26,op:=Op.convert 24 9 (Operand.tmp 25),type:=9,pos:=_,after:=_,guard:=some (4,false) }) (v:=?_) rfl (by kernel_rfl) (by kernel_rfl) (by kernel_rfl) (fun _ _ _ h=>h) (Or.inl ⟨by rfl,?_⟩) hHeld ?_
 rotate_left 1
 ·(intro W hW;have kk:=HCV9.out W hW;(try dsimp only at hW);go_simp;try with_reducible rfl)
 try simp only [Act.put,List.setIfInBounds_toArray,List.set_cons_zero,List.set_cons_succ]
 refine wpAnyH_take (i:=11) (oi:={ dst:=some 27,op:=Op.binOp BinOp.neq 9 (Operand.tmp 23) (Operand.tmp 26) 9,type:=4,pos:=_,after:=_,guard:=some (4,false) }) (v:=?_) rfl (by kernel_rfl) (by kernel_rfl) (by kernel_rfl) (fun _ _ _ h=>h) (Or.inl ⟨by rfl,?_⟩) hHeld ?_
 rotate_left 1
 ·(intro W hW;(try dsimp only at hW);go_simp;try with_reducible rfl)
 try simp only [Act.put,List.setIfInBounds_toArray,List.set_cons_zero,List.set_cons_succ]
 refine wpAnyH_take (i:=12) (oi:={ dst:=some 28,op:=Op.pick (Operand.tmp 20) (Operand.const (Value.bool true)) (Operand.tmp 27),type:=4,pos:=_,after:=_,guard:=none }) (v:=?_) rfl (by kernel_rfl) (by kernel_rfl) (by kernel_rfl) (fun _ _ _ h=>h) (Or.inl ⟨by rfl,?_⟩) hHeld ?_
 rotate_left 1
 ·(intro W hW;(try dsimp only at hW);go_simp;try with_reducible rfl)
 try simp only [Act.put,List.setIfInBounds_toArray,List.set_cons_zero,List.set_cons_succ]
 refine wpAnyH_take (i:=13) (oi:={ dst:=some 29,op:=Op.move (Operand.tmp 28),type:=4,pos:=_,after:=_,guard:=none }) (v:=?_) rfl (by kernel_rfl) (by kernel_rfl) (by kernel_rfl) (fun _ _ _ h=>h) (Or.inl ⟨by rfl,?_⟩) hHeld ?_
 rotate_left 1
 ·(intro W hW;(try dsimp only at hW);go_simp;try with_reducible rfl)
 try simp only [Act.put,List.setIfInBounds_toArray,List.set_cons_zero,List.set_cons_succ]
 refine wpAnyH_take (i:=14) (oi:={ dst:=some 30,op:=Op.load 26 (Operand.tmp 2),type:=26,pos:=_,after:=_,guard:=some (13,false) }) (v:=?_) rfl (by kernel_rfl) (by kernel_rfl) (by kernel_rfl) (fun _ _ _ h=>h) (Or.inl ⟨by rfl,?_⟩) hHeld ?_
 rotate_left 1
 ·(intro W hW;obtain ⟨k0,k1,k2,k3,k4⟩:=HCA.out W (HQ4.out _ (U9.out.trans (hW.mono U9.out.size)));(try dsimp only at hW);go_simp;try with_reducible rfl)
 try simp only [Act.put,List.setIfInBounds_toArray,List.set_cons_zero,List.set_cons_succ]
 refine wpAnyH_take (i:=16) (oi:={ dst:=some 32,op:=Op.load 26 (Operand.tmp 2),type:=26,pos:=_,after:=_,guard:=some (13,false) }) (v:=?_) rfl (by kernel_rfl) (by kernel_rfl) (by kernel_rfl) (fun _ _ _ h=>h) (Or.inl ⟨by rfl,?_⟩) hHeld ?_
 rotate_left 1
 ·(intro W hW;obtain ⟨k0,k1,k2,k3,k4⟩:=HCA.out W (HQ4.out _ (U9.out.trans (hW.mono U9.out.size)));(try dsimp only at hW);go_simp;try with_reducible rfl)
 try simp only [Act.put,List.setIfInBounds_toArray,List.set_cons_zero,List.set_cons_succ]
 refine wpAnyH_ready (rs:=[15]) (by kernel_rfl) (by simp) ?_
 refine AllReadyH.cons (o:={ dst:=some 31,op:=Op.call { callee:=Callee.value (Operand.func 11),args:=#[Operand.tmp 30],argTypes:=#[26] },type:=32,pos:=_,after:=_,guard:=some (13,false) }) rfl (fun K hK=>?_) AllReadyH.nil
 go_simp
 refine (HNA.out _ (HQ4.out _ U9.out)).mono ?_
 intro e w15 hm
 obtain ⟨lt15,t15,a15,n15,c15,k15,m15,d15,rfl,h6,hlt,hoff,hb⟩:=MadeT.six hm
 have b15:Hid (Below w9.heap.size w9 w15):=Lib.hid hb
 have HS15:=Lib.hid h6
 have HT15:=Lib.hid hlt
 have HO15:=Lib.hid hoff
 clear hm h6 hlt hoff hb
 have U15:Hid (Below V4.heap.size V4 w15):=Lib.hid (U9.out.trans (b15.out.mono U9.out.size))
 go_simp
 refine hK.out _ _ (b15.out) (fun _=>?_)
 clear hK K hHeld
 try simp only [Act.put,List.setIfInBounds_toArray,List.set_cons_zero,List.set_cons_succ]
 refine wpAnyH_strong (S':=fun W=>Below w15.heap.size w15 W) (fun W hW=>b15.out.trans (hW.mono b15.out.size)) _ _ _ _ ?_
 have hHeld:(fun W=>Below w15.heap.size w15 W) w15:=Below.refl _ _
 refine wpAnyH_ready (rs:=[17]) (by kernel_rfl) (by simp) ?_
 refine AllReadyH.cons (o:={ dst:=some 33,op:=Op.call { callee:=Callee.value (Operand.func 12),args:=#[Operand.tmp 32],argTypes:=#[26] },type:=32,pos:=_,after:=_,guard:=some (13,false) }) rfl (fun K hK=>?_) AllReadyH.nil
 go_simp
 refine (HNR.out _ (HQ4.out _ U15.out)).mono ?_
 intro e w17 hm
 obtain ⟨lt17,t17,a17,n17,c17,k17,m17,d17,rfl,h6,hlt,hoff,hb⟩:=MadeT.six hm
 have b17:Hid (Below w15.heap.size w15 w17):=Lib.hid hb
 have HS17:=Lib.hid h6
 have HT17:=Lib.hid hlt
 have HO17:=Lib.hid hoff
 clear hm h6 hlt hoff hb
 have U17:Hid (Below V4.heap.size V4 w17):=Lib.hid (U15.out.trans (b17.out.mono U15.out.size))
 go_simp
 refine hK.out _ _ (b17.out) (fun _=>?_)
 clear hK K hHeld
 try simp only [Act.put,List.setIfInBounds_toArray,List.set_cons_zero,List.set_cons_succ]
 refine wpAnyH_strong (S':=fun W=>Below w17.heap.size w17 W) (fun W hW=>b17.out.trans (hW.mono b17.out.size)) _ _ _ _ ?_
 have hHeld:(fun W=>Below w17.heap.size w17 W) w17:=Below.refl _ _
 refine wpAnyH_ready (rs:=[18]) (by kernel_rfl) (by simp) ?_
 refine AllReadyH.cons (o:={ dst:=some 34,op:=Op.call { callee:=Callee.value (Operand.func 10),args:=#[Operand.tmp 31,Operand.tmp 33],argTypes:=#[32,32] },type:=4,pos:=_,after:=_,guard:=some (13,false) }) rfl (fun K hK=>?_) AllReadyH.nil
 go_simp
 have hsame:=same'_any lt15 lt17 w17 w17.heap.size (HO15.out.under b17.out).at_ HO17.out.at_ (Nat.le_refl _) true ⟨fun _=>by rw [HT15.out,HT17.out],fun _=>rfl⟩
 rw [Of6.val HS15.out,Of6.val HS17.out] at hsame
 refine (hsame).mono ?_
 rintro e w18 ⟨rfl,hb⟩
 have b18:Hid (Below w17.heap.size w17 w18):=Lib.hid hb
 clear hb
 clear hsame
 have U18:Hid (Below V4.heap.size V4 w18):=Lib.hid (U17.out.trans (b18.out.mono U17.out.size))
 go_simp
 refine hK.out _ _ (b18.out) (fun _=>?_)
 clear hK K hHeld
 try simp only [Act.put,List.setIfInBounds_toArray,List.set_cons_zero,List.set_cons_succ]
 refine wpAnyH_strong (S':=fun W=>Below w18.heap.size w18 W) (fun W hW=>b18.out.trans (hW.mono b18.out.size)) _ _ _ _ ?_
 have hHeld:(fun W=>Below w18.heap.size w18 W) w18:=Below.refl _ _
 refine wpAnyH_take (i:=19) (oi:={ dst:=some 35,op:=Op.unOp UnOp.not 4 (Operand.tmp 34),type:=4,pos:=_,after:=_,guard:=some (13,false) }) (v:=?_) rfl (by kernel_rfl) (by kernel_rfl) (by kernel_rfl) (fun _ _ _ h=>h) (Or.inl ⟨by rfl,?_⟩) hHeld ?_
 rotate_left 1
 ·(intro W hW;(try dsimp only at hW);go_simp;try with_reducible rfl)
 try simp only [Act.put,List.setIfInBounds_toArray,List.set_cons_zero,List.set_cons_succ]
 refine wpAnyH_take (i:=20) (oi:={ dst:=some 36,op:=Op.pick (Operand.tmp 29) (Operand.const (Value.bool true)) (Operand.tmp 35),type:=4,pos:=_,after:=_,guard:=none }) (v:=?_) rfl (by kernel_rfl) (by kernel_rfl) (by kernel_rfl) (fun _ _ _ h=>h) (Or.inl ⟨by rfl,?_⟩) hHeld ?_
 rotate_left 1
 ·(intro W hW;(try dsimp only at hW);go_simp;try with_reducible rfl)
 try simp only [Act.put,List.setIfInBounds_toArray,List.set_cons_zero,List.set_cons_succ]
 refine wpAnyH_take (i:=21) (oi:={ dst:=some 37,op:=Op.move (Operand.tmp 36),type:=4,pos:=_,after:=_,guard:=none }) (v:=?_) rfl (by kernel_rfl) (by kernel_rfl) (by kernel_rfl) (fun _ _ _ h=>h) (Or.inl ⟨by rfl,?_⟩) hHeld ?_
 rotate_left 1
 ·(intro W hW;(try dsimp only at hW);go_simp;try with_reducible rfl)
 try simp only [Act.put,List.setIfInBounds_toArray,List.set_cons_zero,List.set_cons_succ]
 refine wpAnyH_take (i:=22) (oi:={ dst:=some 38,op:=Op.load 26 (Operand.tmp 2),type:=26,pos:=_,after:=_,guard:=some (21,false) }) (v:=?_) rfl (by kernel_rfl) (by kernel_rfl) (by kernel_rfl) (fun _ _ _ h=>h) (Or.inl ⟨by rfl,?_⟩) hHeld ?_
 rotate_left 1
 ·(intro W hW;obtain ⟨k0,k1,k2,k3,k4⟩:=HCA.out W (HQ4.out _ (U18.out.trans (hW.mono U18.out.size)));(try dsimp only at hW);go_simp;try with_reducible rfl)
 try simp only [Act.put,List.setIfInBounds_toArray,List.set_cons_zero,List.set_cons_succ]
 refine wpAnyH_take (i:=24) (oi:={ dst:=some 40,op:=Op.load 26 (Operand.tmp 2),type:=26,pos:=_,after:=_,guard:=some (21,false) }) (v:=?_) rfl (by kernel_rfl) (by kernel_rfl) (by kernel_rfl) (fun _ _ _ h=>h) (Or.inl ⟨by rfl,?_⟩) hHeld ?_
 rotate_left 1
 ·(intro W hW;obtain ⟨k0,k1,k2,k3,k4⟩:=HCA.out W (HQ4.out _ (U18.out.trans (hW.mono U18.out.size)));(try dsimp only at hW);go_simp;try with_reducible rfl)
 try simp only [Act.put,List.setIfInBounds_toArray,List.set_cons_zero,List.set_cons_succ]
 refine wpAnyH_ready (rs:=[23]) (by kernel_rfl) (by simp) ?_
 refine AllReadyH.cons (o:={ dst:=some 39,op:=Op.call { callee:=Callee.value (Operand.func 13),args:=#[Operand.tmp 38],argTypes:=#[26] },type:=32,pos:=_,after:=_,guard:=some (21,false) }) rfl (fun K hK=>?_) AllReadyH.nil
 go_simp
 refine (HBA.out _ (HQ4.out _ U18.out)).mono ?_
 intro e w23 hm
 obtain ⟨lt23,t23,a23,n23,c23,k23,m23,d23,rfl,h6,hlt,hoff,hb⟩:=MadeT.six hm
 have b23:Hid (Below w18.heap.size w18 w23):=Lib.hid hb
 have HS23:=Lib.hid h6
 have HT23:=Lib.hid hlt
 have HO23:=Lib.hid hoff
 clear hm h6 hlt hoff hb
 have U23:Hid (Below V4.heap.size V4 w23):=Lib.hid (U18.out.trans (b23.out.mono U18.out.size))
 go_simp
 refine hK.out _ _ (b23.out) (fun _=>?_)
 clear hK K hHeld
 try simp only [Act.put,List.setIfInBounds_toArray,List.set_cons_zero,List.set_cons_succ]
 refine wpAnyH_strong (S':=fun W=>Below w23.heap.size w23 W) (fun W hW=>b23.out.trans (hW.mono b23.out.size)) _ _ _ _ ?_
 have hHeld:(fun W=>Below w23.heap.size w23 W) w23:=Below.refl _ _
 refine wpAnyH_ready (rs:=[25]) (by kernel_rfl) (by simp) ?_
 refine AllReadyH.cons (o:={ dst:=some 41,op:=Op.call { callee:=Callee.value (Operand.func 14),args:=#[Operand.tmp 40],argTypes:=#[26] },type:=32,pos:=_,after:=_,guard:=some (21,false) }) rfl (fun K hK=>?_) AllReadyH.nil
 go_simp
 refine (HBR.out _ (HQ4.out _ U23.out)).mono ?_
 intro e w25 hm
 obtain ⟨lt25,t25,a25,n25,c25,k25,m25,d25,rfl,h6,hlt,hoff,hb⟩:=MadeT.six hm
 have b25:Hid (Below w23.heap.size w23 w25):=Lib.hid hb
 have HS25:=Lib.hid h6
 have HT25:=Lib.hid hlt
 have HO25:=Lib.hid hoff
 clear hm h6 hlt hoff hb
 have U25:Hid (Below V4.heap.size V4 w25):=Lib.hid (U23.out.trans (b25.out.mono U23.out.size))
 go_simp
 refine hK.out _ _ (b25.out) (fun _=>?_)
 clear hK K hHeld
 try simp only [Act.put,List.setIfInBounds_toArray,List.set_cons_zero,List.set_cons_succ]
 refine wpAnyH_strong (S':=fun W=>Below w25.heap.size w25 W) (fun W hW=>b25.out.trans (hW.mono b25.out.size)) _ _ _ _ ?_
 have hHeld:(fun W=>Below w25.heap.size w25 W) w25:=Below.refl _ _
 refine wpAnyH_ready (rs:=[26]) (by kernel_rfl) (by simp) ?_
 refine AllReadyH.cons (o:={ dst:=some 42,op:=Op.call { callee:=Callee.value (Operand.func 10),args:=#[Operand.tmp 39,Operand.tmp 41],argTypes:=#[32,32] },type:=4,pos:=_,after:=_,guard:=some (21,false) }) rfl (fun K hK=>?_) AllReadyH.nil
 go_simp
 have hsame:=same'_any lt23 lt25 w25 w25.heap.size (HO23.out.under b25.out).at_ HO25.out.at_ (Nat.le_refl _) true ⟨fun _=>by rw [HT23.out,HT25.out],fun _=>rfl⟩
 rw [Of6.val HS23.out,Of6.val HS25.out] at hsame
 refine (hsame).mono ?_
 rintro e w26 ⟨rfl,hb⟩
 have b26:Hid (Below w25.heap.size w25 w26):=Lib.hid hb
 clear hb
 clear hsame
 have U26:Hid (Below V4.heap.size V4 w26):=Lib.hid (U25.out.trans (b26.out.mono U25.out.size))
 go_simp
 refine hK.out _ _ (b26.out) (fun _=>?_)
 clear hK K hHeld
 try simp only [Act.put,List.setIfInBounds_toArray,List.set_cons_zero,List.set_cons_succ]
 refine wpAnyH_strong (S':=fun W=>Below w26.heap.size w26 W) (fun W hW=>b26.out.trans (hW.mono b26.out.size)) _ _ _ _ ?_
 have hHeld:(fun W=>Below w26.heap.size w26 W) w26:=Below.refl _ _
 refine wpAnyH_take (i:=27) (oi:={ dst:=some 43,op:=Op.unOp UnOp.not 4 (Operand.tmp 42),type:=4,pos:=_,after:=_,guard:=some (21,false) }) (v:=?_) rfl (by kernel_rfl) (by kernel_rfl) (by kernel_rfl) (fun _ _ _ h=>h) (Or.inl ⟨by rfl,?_⟩) hHeld ?_
 rotate_left 1
 ·(intro W hW;(try dsimp only at hW);go_simp;try with_reducible rfl)
 try simp only [Act.put,List.setIfInBounds_toArray,List.set_cons_zero,List.set_cons_succ]
 refine wpAnyH_take (i:=28) (oi:={ dst:=some 44,op:=Op.pick (Operand.tmp 37) (Operand.const (Value.bool true)) (Operand.tmp 43),type:=4,pos:=_,after:=_,guard:=none }) (v:=?_) rfl (by kernel_rfl) (by kernel_rfl) (by kernel_rfl) (fun _ _ _ h=>h) (Or.inl ⟨by rfl,?_⟩) hHeld ?_
 rotate_left 1
 ·(intro W hW;(try dsimp only at hW);go_simp;try with_reducible rfl)
 try simp only [Act.put,List.setIfInBounds_toArray,List.set_cons_zero,List.set_cons_succ]
 refine wpAnyH_done (by kernel_rfl) ?_ _
 refine NoPanic.normal ?_
 have U26':Hid (Below V.heap.size V w26):=Lib.hid (HQ4.out _ U26.out)
 rcases r with _ | _
 ·go_wp2_with fail
  refine (HKN.out _ U26'.out).mono ?_
  rintro e w27 ⟨rfl,hb27⟩
  have U27:Hid (Below V.heap.size V w27):=Lib.hid (U26'.out.trans (hb27.mono U26'.out.size))
  clear hb27
  go_wp2_with fail
  go_ret
  exact ⟨rfl,HUP.out _ U27.out⟩
 have GGF:=Lib.hid (GGE.out rfl)
 have HNF:=Lib.hid (HNT.out rfl)
 clear GGE HNT
 obtain ⟨a0,a1,a2,a3,a4⟩:=HCA.out w26 U26'.out
 go_wp2_with fail
 refine (HNA.out _ U26'.out).mono ?_
 intro e w30 hm
 obtain ⟨lt30,t30,a30,n30,c30,k30,m30,d30,rfl,h6,hlt,hoff,hb⟩:=MadeT.six hm
 have U30:Hid (Below V.heap.size V w30):=Lib.hid (U26'.out.trans (hb.mono U26'.out.size))
 have hge:=GGF.out w30 lt30 (HUP.out _ U30.out) (by rw [hlt];exact HNF.out) hoff
 rw [Of6.val h6] at hge
 clear hm h6 hlt hoff hb a0 a1 a2 a3 a4
 go_wp2_with fail
 refine hge.mono ?_
 rintro e w31 ⟨c3,rfl,ho3,hv3,hb3⟩
 have U31:Hid (Below V.heap.size V w31):=Lib.hid (U30.out.trans (hb3.mono U30.out.size))
 have GR3:Hid (∀ W,Below w31.heap.size w31 W→Calls Tryz.prog 17 #[.agg (ccell c3).toArray,.agg #[.slice ia isn ic,.int .i64 ta,.int .i64 tn,.slice ga gn gc,.slice sa sn sc]] W fun e w'=>e = .returned (.bool true)∧Below W.heap.size W w'):=Lib.hid fun W hW=>GRS.out W c3 (HUP.out _ (U31.out.trans (hW.mono U31.out.size))) (ho3.under hW) hv3
 obtain ⟨ia3,ic3,iss3,ta3,tn3,ga3,gc3,gone3,sa3,sc3,sig3⟩:=c3
 simp only [ccell] at GR3 ⊢
 clear hge ho3 hv3 hb3 GGF GRS
 generalize iss3.length=isn3 at *
 generalize gone3.length=gn3 at *
 generalize sig3.length=sn3 at *
 have h31:Below w31.heap.size w31 (w31.alloc (.cells #[.slice ia3 isn3 ic3,.int .i64 ta3,.int .i64 tn3,.slice ga3 gn3 gc3,.slice sa3 sn3 sc3] 26)):=(Below.refl _ _).alloc (Nat.le_refl _) _
 have hL:=Holds.fresh w31 26 #[.slice ia3 isn3 ic3,.int .i64 ta3,.int .i64 tn3,.slice ga3 gn3 gc3,.slice sa3 sn3 sc3]
 obtain ⟨V8,hV8⟩:∃ V,V=w31.alloc (.cells #[.slice ia3 isn3 ic3,.int .i64 ta3,.int .i64 tn3,.slice ga3 gn3 gc3,.slice sa3 sn3 sc3] 26):=⟨_,rfl⟩
 rw [←hV8] at h31 hL
 have HV8:=Lib.hid hV8
 have HL:=Lib.hid hL
 have HQ8:Hid (∀ W,Below V8.heap.size V8 W→Below V.heap.size V W):=Lib.hid fun W hW=>U31.out.trans ((h31.trans (hW.mono h31.size)).mono U31.out.size)
 have HRS:Hid (∀ W,Below V8.heap.size V8 W→Calls Tryz.prog 17 #[.agg #[.slice ia3 isn3 ic3,.int .i64 ta3,.int .i64 tn3,.slice ga3 gn3 gc3,.slice sa3 sn3 sc3],.agg #[.slice ia isn ic,.int .i64 ta,.int .i64 tn,.slice ga gn gc,.slice sa sn sc]] W fun e w'=>e = .returned (.bool true)∧Below W.heap.size W w'):=Lib.hid fun W hW=>GR3.out W (h31.trans (hW.mono h31.size))
 have HLC:Hid (∀ W,Below V8.heap.size V8 W→W.cell? ⟨w31.heap.size,0,none⟩=some (.slice ia3 isn3 ic3)∧W.cell? ⟨w31.heap.size,1,none⟩=some (.int .i64 ta3)∧W.cell? ⟨w31.heap.size,2,none⟩=some (.int .i64 tn3)∧W.cell? ⟨w31.heap.size,3,none⟩=some (.slice ga3 gn3 gc3)∧W.cell? ⟨w31.heap.size,4,none⟩=some (.slice sa3 sn3 sc3)):=Lib.hid fun W hW=>by
  have h:=HL.out.under hW HL.out.lt
  exact ⟨h.cell 0,h.cell 1,h.cell 2,h.cell 3,h.cell 4⟩
 clear h31 hL hV8 GR3
 have hqq:(q == q)=true:=by simp
 rcases rb with _ | _
 ·go_wp2_with fail
  rw [←HV8.out]
  refine wp_region_noPanic ?_
  refine wp_region_held_drew (S:=fun W=>Below V8.heap.size V8 W) (by kernel_rfl) (Below.refl _ V8).drew (fun hHeld=>?_)
  refine wpAnyH_take (i:=0) (oi:={ dst:=some 54,op:=Op.move (Operand.tmp 7),type:=4,pos:=_,after:=_,guard:=none }) (v:=?_) rfl (by kernel_rfl) (by kernel_rfl) (by kernel_rfl) (fun _ _ _ h=>h) (Or.inl ⟨by rfl,?_⟩) hHeld ?_
  rotate_left 1
  ·(intro W hW;(try dsimp only at hW);go_simp;try with_reducible rfl)
  try simp only [Act.put,List.setIfInBounds_toArray,List.set_cons_zero,List.set_cons_succ]
  refine wpAnyH_take (i:=1) (oi:={ dst:=some 55,op:=Op.move (Operand.tmp 54),type:=4,pos:=_,after:=_,guard:=none }) (v:=?_) rfl (by kernel_rfl) (by kernel_rfl) (by kernel_rfl) (fun _ _ _ h=>h) (Or.inl ⟨by rfl,?_⟩) hHeld ?_
  rotate_left 1
  ·(intro W hW;(try dsimp only at hW);go_simp;try with_reducible rfl)
  try simp only [Act.put,List.setIfInBounds_toArray,List.set_cons_zero,List.set_cons_succ]
  refine wpAnyH_take (i:=2) (oi:={ dst:=some 56,op:=Op.load 26 (Operand.tmp 6),type:=26,pos:=_,after:=_,guard:=some (1,true) }) (v:=?_) rfl (by kernel_rfl) (by kernel_rfl) (by kernel_rfl) (fun _ _ _ h=>h) (Or.inl ⟨by rfl,?_⟩) hHeld ?_
  rotate_left 1
  ·(intro W hW;obtain ⟨l0,l1,l2,l3,l4⟩:=HLC.out W hW;(try dsimp only at hW);go_simp;try with_reducible rfl)
  try simp only [Act.put,List.setIfInBounds_toArray,List.set_cons_zero,List.set_cons_succ]
  refine wpAnyH_take (i:=3) (oi:={ dst:=some 57,op:=Op.load 26 (Operand.tmp 2),type:=26,pos:=_,after:=_,guard:=some (1,true) }) (v:=?_) rfl (by kernel_rfl) (by kernel_rfl) (by kernel_rfl) (fun _ _ _ h=>h) (Or.inl ⟨by rfl,?_⟩) hHeld ?_
  rotate_left 1
  ·(intro W hW;obtain ⟨k0,k1,k2,k3,k4⟩:=HCA.out W (HQ8.out _ hW);(try dsimp only at hW);go_simp;try with_reducible rfl)
  try simp only [Act.put,List.setIfInBounds_toArray,List.set_cons_zero,List.set_cons_succ]
  refine wpAnyH_ready (rs:=[4]) (by kernel_rfl) (by simp) ?_
  refine AllReadyH.cons (o:={ dst:=some 58,op:=Op.call { callee:=Callee.value (Operand.func 17),args:=#[Operand.tmp 56,Operand.tmp 57],argTypes:=#[26,26] },type:=4,pos:=_,after:=_,guard:=some (1,true) }) rfl (fun K hK=>?_) AllReadyH.nil
  go_simp
  refine (HRS.out _ ((Below.refl _ V8).drew)).mono ?_
  rintro e w4 ⟨rfl,hb⟩
  have b4:Hid (Below V8.heap.size V8 w4):=Lib.hid ((Below.refl _ V8).drew.trans hb)
  clear hb
  have U4:=b4
  go_simp
  refine hK.out _ _ (b4.out) (fun _=>?_)
  clear hK K hHeld
  try simp only [Act.put,List.setIfInBounds_toArray,List.set_cons_zero,List.set_cons_succ]
  refine wpAnyH_strong (S':=fun W=>Below w4.heap.size w4 W) (fun W hW=>b4.out.trans (hW.mono b4.out.size)) _ _ _ _ ?_
  have hHeld:(fun W=>Below w4.heap.size w4 W) w4:=Below.refl _ _
  refine wpAnyH_take (i:=5) (oi:={ dst:=some 59,op:=Op.pick (Operand.tmp 55) (Operand.tmp 58) (Operand.const (Value.bool false)),type:=4,pos:=_,after:=_,guard:=none }) (v:=?_) rfl (by kernel_rfl) (by kernel_rfl) (by kernel_rfl) (fun _ _ _ h=>h) (Or.inl ⟨by rfl,?_⟩) hHeld ?_
  rotate_left 1
  ·(intro W hW;(try dsimp only at hW);go_simp;try with_reducible rfl)
  try simp only [Act.put,List.setIfInBounds_toArray,List.set_cons_zero,List.set_cons_succ]
  refine wpAnyH_take (i:=6) (oi:={ dst:=some 60,op:=Op.move (Operand.tmp 59),type:=4,pos:=_,after:=_,guard:=none }) (v:=?_) rfl (by kernel_rfl) (by kernel_rfl) (by kernel_rfl) (fun _ _ _ h=>h) (Or.inl ⟨by rfl,?_⟩) hHeld ?_
  rotate_left 1
  ·(intro W hW;(try dsimp only at hW);go_simp;try with_reducible rfl)
  try simp only [Act.put,List.setIfInBounds_toArray,List.set_cons_zero,List.set_cons_succ]
  refine wpAnyH_take (i:=7) (oi:={ dst:=some 61,op:=Op.load 26 (Operand.tmp 3),type:=26,pos:=_,after:=_,guard:=some (6,true) }) (v:=?_) rfl (by kernel_rfl) (by kernel_rfl) (by kernel_rfl) (fun _ _ _ h=>h) (Or.inl ⟨by rfl,?_⟩) hHeld ?_
  rotate_left 1
  ·(intro W hW;obtain ⟨k0,k1,k2,k3,k4⟩:=HCB.out W (HQ8.out _ (U4.out.trans (hW.mono U4.out.size)));(try dsimp only at hW);go_simp;try with_reducible rfl)
  try simp only [Act.put,List.setIfInBounds_toArray,List.set_cons_zero,List.set_cons_succ]
  refine wpAnyH_ready (rs:=[8]) (by kernel_rfl) (by simp) ?_
  refine AllReadyH.cons (o:={ dst:=some 62,op:=Op.call { callee:=Callee.value (Operand.func 6),args:=#[Operand.tmp 61],argTypes:=#[26] },type:=4,pos:=_,after:=_,guard:=some (6,true) }) rfl (fun K hK=>?_) AllReadyH.nil
  go_simp
  refine (HIB.out _ (HQ8.out _ U4.out)).mono ?_
  rintro e w8 ⟨rfl,hb⟩
  have b8:Hid (Below w4.heap.size w4 w8):=Lib.hid hb
  clear hb
  have U8:Hid (Below V8.heap.size V8 w8):=Lib.hid (U4.out.trans (b8.out.mono U4.out.size))
  go_simp
  refine hK.out _ _ (b8.out) (fun _=>?_)
  clear hK K hHeld
  try simp only [Act.put,List.setIfInBounds_toArray,List.set_cons_zero,List.set_cons_succ]
  refine wpAnyH_strong (S':=fun W=>Below w8.heap.size w8 W) (fun W hW=>b8.out.trans (hW.mono b8.out.size)) _ _ _ _ ?_
  have hHeld:(fun W=>Below w8.heap.size w8 W) w8:=Below.refl _ _
  refine wpAnyH_take (i:=9) (oi:={ dst:=some 63,op:=Op.unOp UnOp.not 4 (Operand.tmp 62),type:=4,pos:=_,after:=_,guard:=some (6,true) }) (v:=?_) rfl (by kernel_rfl) (by kernel_rfl) (by kernel_rfl) (fun _ _ _ h=>h) (Or.inl ⟨by rfl,?_⟩) hHeld ?_
  rotate_left 1
  ·(intro W hW;(try dsimp only at hW);go_simp;try with_reducible rfl)
  try simp only [Act.put,List.setIfInBounds_toArray,List.set_cons_zero,List.set_cons_succ]
  refine wpAnyH_take (i:=10) (oi:={ dst:=some 64,op:=Op.move (Operand.tmp 63),type:=4,pos:=_,after:=_,guard:=some (6,true) }) (v:=?_) rfl (by kernel_rfl) (by kernel_rfl) (by kernel_rfl) (fun _ _ _ h=>h) (Or.inl ⟨by rfl,?_⟩) hHeld ?_
  rotate_left 1
  ·(intro W hW;(try dsimp only at hW);go_simp;try with_reducible rfl)
  try simp only [Act.put,List.setIfInBounds_toArray,List.set_cons_zero,List.set_cons_succ]
  refine wpAnyH_take (i:=11) (oi:={ dst:=some 65,op:=Op.load 26 (Operand.tmp 2),type:=26,pos:=_,after:=_,guard:=some (10,false) }) (v:=undef) rfl (by kernel_rfl) (by kernel_rfl) (by kernel_rfl) (fun _ _ _ h=>h) (Or.inr ⟨by rfl,rfl⟩) hHeld ?_
  try simp only [Act.put,List.setIfInBounds_toArray,List.set_cons_zero,List.set_cons_succ]
  refine wpAnyH_take (i:=12) (oi:={ dst:=some 66,op:=Op.load 26 (Operand.tmp 3),type:=26,pos:=_,after:=_,guard:=some (10,false) }) (v:=undef) rfl (by kernel_rfl) (by kernel_rfl) (by kernel_rfl) (fun _ _ _ h=>h) (Or.inr ⟨by rfl,rfl⟩) hHeld ?_
  try simp only [Act.put,List.setIfInBounds_toArray,List.set_cons_zero,List.set_cons_succ]
  refine wpAnyH_take (i:=13) (oi:={ dst:=some 67,op:=Op.call { callee:=Callee.value (Operand.func 18),args:=#[Operand.tmp 65,Operand.tmp 66],argTypes:=#[26,26] },type:=4,pos:=_,after:=_,guard:=some (10,false) }) (v:=undef) rfl (by kernel_rfl) (by kernel_rfl) (by kernel_rfl) (fun _ _ _ h=>h) (Or.inr ⟨by rfl,rfl⟩) hHeld ?_
  try simp only [Act.put,List.setIfInBounds_toArray,List.set_cons_zero,List.set_cons_succ]
  refine wpAnyH_take (i:=14) (oi:={ dst:=some 68,op:=Op.load 26 (Operand.tmp 2),type:=26,pos:=_,after:=_,guard:=some (10,false) }) (v:=undef) rfl (by kernel_rfl) (by kernel_rfl) (by kernel_rfl) (fun _ _ _ h=>h) (Or.inr ⟨by rfl,rfl⟩) hHeld ?_
  try simp only [Act.put,List.setIfInBounds_toArray,List.set_cons_zero,List.set_cons_succ]
  refine wpAnyH_take (i:=15) (oi:={ dst:=some 69,op:=Op.load 26 (Operand.tmp 3),type:=26,pos:=_,after:=_,guard:=some (10,false) }) (v:=undef) rfl (by kernel_rfl) (by kernel_rfl) (by kernel_rfl) (fun _ _ _ h=>h) (Or.inr ⟨by rfl,rfl⟩) hHeld ?_
  try simp only [Act.put,List.setIfInBounds_toArray,List.set_cons_zero,List.set_cons_succ]
  refine wpAnyH_take (i:=16) (oi:={ dst:=some 70,op:=Op.call { callee:=Callee.value (Operand.func 17),args:=#[Operand.tmp 68,Operand.tmp 69],argTypes:=#[26,26] },type:=4,pos:=_,after:=_,guard:=some (10,false) }) (v:=undef) rfl (by kernel_rfl) (by kernel_rfl) (by kernel_rfl) (fun _ _ _ h=>h) (Or.inr ⟨by rfl,rfl⟩) hHeld ?_
  try simp only [Act.put,List.setIfInBounds_toArray,List.set_cons_zero,List.set_cons_succ]
  refine wpAnyH_take (i:=17) (oi:={ dst:=some 71,op:=Op.binOp BinOp.eql 4 (Operand.tmp 67) (Operand.tmp 70) 4,type:=4,pos:=_,after:=_,guard:=some (10,false) }) (v:=undef) rfl (by kernel_rfl) (by kernel_rfl) (by kernel_rfl) (fun _ _ _ h=>h) (Or.inr ⟨by rfl,rfl⟩) hHeld ?_
  try simp only [Act.put,List.setIfInBounds_toArray,List.set_cons_zero,List.set_cons_succ]
  refine wpAnyH_take (i:=18) (oi:={ dst:=some 72,op:=Op.pick (Operand.tmp 64) (Operand.const (Value.bool true)) (Operand.tmp 71),type:=4,pos:=_,after:=_,guard:=some (6,true) }) (v:=?_) rfl (by kernel_rfl) (by kernel_rfl) (by kernel_rfl) (fun _ _ _ h=>h) (Or.inl ⟨by rfl,?_⟩) hHeld ?_
  rotate_left 1
  ·(intro W hW;(try dsimp only at hW);go_simp;try with_reducible rfl)
  try simp only [Act.put,List.setIfInBounds_toArray,List.set_cons_zero,List.set_cons_succ]
  refine wpAnyH_take (i:=19) (oi:={ dst:=some 73,op:=Op.pick (Operand.tmp 60) (Operand.tmp 72) (Operand.const (Value.bool false)),type:=4,pos:=_,after:=_,guard:=none }) (v:=?_) rfl (by kernel_rfl) (by kernel_rfl) (by kernel_rfl) (fun _ _ _ h=>h) (Or.inl ⟨by rfl,?_⟩) hHeld ?_
  rotate_left 1
  ·(intro W hW;(try dsimp only at hW);go_simp;try with_reducible rfl)
  try simp only [Act.put,List.setIfInBounds_toArray,List.set_cons_zero,List.set_cons_succ]
  refine wpAnyH_take (i:=20) (oi:={ dst:=some 74,op:=Op.move (Operand.tmp 73),type:=4,pos:=_,after:=_,guard:=none }) (v:=?_) rfl (by kernel_rfl) (by kernel_rfl) (by kernel_rfl) (fun _ _ _ h=>h) (Or.inl ⟨by rfl,?_⟩) hHeld ?_
  rotate_left 1
  ·(intro W hW;(try dsimp only at hW);go_simp;try with_reducible rfl)
  try simp only [Act.put,List.setIfInBounds_toArray,List.set_cons_zero,List.set_cons_succ]
  refine wpAnyH_ready (rs:=[21]) (by kernel_rfl) (by simp) ?_
  refine AllReadyH.cons (o:={ dst:=some 75,op:=Op.call { callee:=Callee.value (Operand.func 15),args:=#[],argTypes:=#[] },type:=4,pos:=_,after:=_,guard:=some (20,true) }) rfl (fun K hK=>?_) AllReadyH.nil
  go_simp
  refine (HKN.out _ (HQ8.out _ U8.out)).mono ?_
  rintro e w21 ⟨rfl,hb⟩
  have b21:Hid (Below w8.heap.size w8 w21):=Lib.hid hb
  clear hb
  have U21:Hid (Below V8.heap.size V8 w21):=Lib.hid (U8.out.trans (b21.out.mono U8.out.size))
  go_simp
  refine hK.out _ _ (b21.out) (fun _=>?_)
  clear hK K hHeld
  try simp only [Act.put,List.setIfInBounds_toArray,List.set_cons_zero,List.set_cons_succ]
  refine wpAnyH_strong (S':=fun W=>Below w21.heap.size w21 W) (fun W hW=>b21.out.trans (hW.mono b21.out.size)) _ _ _ _ ?_
  have hHeld:(fun W=>Below w21.heap.size w21 W) w21:=Below.refl _ _
  refine wpAnyH_take (i:=22) (oi:={ dst:=some 76,op:=Op.pick (Operand.tmp 74) (Operand.tmp 75) (Operand.const (Value.bool false)),type:=4,pos:=_,after:=_,guard:=none }) (v:=?_) rfl (by kernel_rfl) (by kernel_rfl) (by kernel_rfl) (fun _ _ _ h=>h) (Or.inl ⟨by rfl,?_⟩) hHeld ?_
  rotate_left 1
  ·(intro W hW;(try dsimp only at hW);go_simp;try with_reducible rfl)
  try simp only [Act.put,List.setIfInBounds_toArray,List.set_cons_zero,List.set_cons_succ]
  refine wpAnyH_take (i:=23) (oi:={ dst:=some 4,op:=Op.assign (Operand.tmp 76),type:=4,pos:=_,after:=_,guard:=none }) (v:=?_) rfl (by kernel_rfl) (by kernel_rfl) (by kernel_rfl) (fun _ _ _ h=>h) (Or.inl ⟨by rfl,?_⟩) hHeld ?_
  rotate_left 1
  ·(intro W hW;(try dsimp only at hW);go_simp;try with_reducible rfl)
  try simp only [Act.put,List.setIfInBounds_toArray,List.set_cons_zero,List.set_cons_succ]
  refine wpAnyH_done (by kernel_rfl) ?_ _
  refine NoPanic.normal ?_
  go_wp2_with fail
  go_ret
  exact ⟨rfl,HUP.out _ (HQ8.out _ U21.out)⟩
 ·go_wp2_with fail
  rw [←HV8.out]
  refine wp_region_noPanic ?_
  refine wp_region_held_drew (S:=fun W=>Below V8.heap.size V8 W) (by kernel_rfl) (Below.refl _ V8).drew (fun hHeld=>?_)
  refine wpAnyH_take (i:=0) (oi:={ dst:=some 54,op:=Op.move (Operand.tmp 7),type:=4,pos:=_,after:=_,guard:=none }) (v:=?_) rfl (by kernel_rfl) (by kernel_rfl) (by kernel_rfl) (fun _ _ _ h=>h) (Or.inl ⟨by rfl,?_⟩) hHeld ?_
  rotate_left 1
  ·(intro W hW;(try dsimp only at hW);go_simp;try with_reducible rfl)
  try simp only [Act.put,List.setIfInBounds_toArray,List.set_cons_zero,List.set_cons_succ]
  refine wpAnyH_take (i:=1) (oi:={ dst:=some 55,op:=Op.move (Operand.tmp 54),type:=4,pos:=_,after:=_,guard:=none }) (v:=?_) rfl (by kernel_rfl) (by kernel_rfl) (by kernel_rfl) (fun _ _ _ h=>h) (Or.inl ⟨by rfl,?_⟩) hHeld ?_
  rotate_left 1
  ·(intro W hW;(try dsimp only at hW);go_simp;try with_reducible rfl)
  try simp only [Act.put,List.setIfInBounds_toArray,List.set_cons_zero,List.set_cons_succ]
  refine wpAnyH_take (i:=2) (oi:={ dst:=some 56,op:=Op.load 26 (Operand.tmp 6),type:=26,pos:=_,after:=_,guard:=some (1,true) }) (v:=?_) rfl (by kernel_rfl) (by kernel_rfl) (by kernel_rfl) (fun _ _ _ h=>h) (Or.inl ⟨by rfl,?_⟩) hHeld ?_
  rotate_left 1
  ·(intro W hW;obtain ⟨l0,l1,l2,l3,l4⟩:=HLC.out W hW;(try dsimp only at hW);go_simp;try with_reducible rfl)
  try simp only [Act.put,List.setIfInBounds_toArray,List.set_cons_zero,List.set_cons_succ]
  refine wpAnyH_take (i:=3) (oi:={ dst:=some 57,op:=Op.load 26 (Operand.tmp 2),type:=26,pos:=_,after:=_,guard:=some (1,true) }) (v:=?_) rfl (by kernel_rfl) (by kernel_rfl) (by kernel_rfl) (fun _ _ _ h=>h) (Or.inl ⟨by rfl,?_⟩) hHeld ?_
  rotate_left 1
  ·(intro W hW;obtain ⟨k0,k1,k2,k3,k4⟩:=HCA.out W (HQ8.out _ hW);(try dsimp only at hW);go_simp;try with_reducible rfl)
  try simp only [Act.put,List.setIfInBounds_toArray,List.set_cons_zero,List.set_cons_succ]
  refine wpAnyH_ready (rs:=[4]) (by kernel_rfl) (by simp) ?_
  refine AllReadyH.cons (o:={ dst:=some 58,op:=Op.call { callee:=Callee.value (Operand.func 17),args:=#[Operand.tmp 56,Operand.tmp 57],argTypes:=#[26,26] },type:=4,pos:=_,after:=_,guard:=some (1,true) }) rfl (fun K hK=>?_) AllReadyH.nil
  go_simp
  refine (HRS.out _ ((Below.refl _ V8).drew)).mono ?_
  rintro e w4 ⟨rfl,hb⟩
  have b4:Hid (Below V8.heap.size V8 w4):=Lib.hid ((Below.refl _ V8).drew.trans hb)
  clear hb
  have U4:=b4
  go_simp
  refine hK.out _ _ (b4.out) (fun _=>?_)
  clear hK K hHeld
  try simp only [Act.put,List.setIfInBounds_toArray,List.set_cons_zero,List.set_cons_succ]
  refine wpAnyH_strong (S':=fun W=>Below w4.heap.size w4 W) (fun W hW=>b4.out.trans (hW.mono b4.out.size)) _ _ _ _ ?_
  have hHeld:(fun W=>Below w4.heap.size w4 W) w4:=Below.refl _ _
  refine wpAnyH_take (i:=5) (oi:={ dst:=some 59,op:=Op.pick (Operand.tmp 55) (Operand.tmp 58) (Operand.const (Value.bool false)),type:=4,pos:=_,after:=_,guard:=none }) (v:=?_) rfl (by kernel_rfl) (by kernel_rfl) (by kernel_rfl) (fun _ _ _ h=>h) (Or.inl ⟨by rfl,?_⟩) hHeld ?_
  rotate_left 1
  ·(intro W hW;(try dsimp only at hW);go_simp;try with_reducible rfl)
  try simp only [Act.put,List.setIfInBounds_toArray,List.set_cons_zero,List.set_cons_succ]
  refine wpAnyH_take (i:=6) (oi:={ dst:=some 60,op:=Op.move (Operand.tmp 59),type:=4,pos:=_,after:=_,guard:=none }) (v:=?_) rfl (by kernel_rfl) (by kernel_rfl) (by kernel_rfl) (fun _ _ _ h=>h) (Or.inl ⟨by rfl,?_⟩) hHeld ?_
  rotate_left 1
  ·(intro W hW;(try dsimp only at hW);go_simp;try with_reducible rfl)
  try simp only [Act.put,List.setIfInBounds_toArray,List.set_cons_zero,List.set_cons_succ]
  refine wpAnyH_take (i:=7) (oi:={ dst:=some 61,op:=Op.load 26 (Operand.tmp 3),type:=26,pos:=_,after:=_,guard:=some (6,true) }) (v:=?_) rfl (by kernel_rfl) (by kernel_rfl) (by kernel_rfl) (fun _ _ _ h=>h) (Or.inl ⟨by rfl,?_⟩) hHeld ?_
  rotate_left 1
  ·(intro W hW;obtain ⟨k0,k1,k2,k3,k4⟩:=HCB.out W (HQ8.out _ (U4.out.trans (hW.mono U4.out.size)));(try dsimp only at hW);go_simp;try with_reducible rfl)
  try simp only [Act.put,List.setIfInBounds_toArray,List.set_cons_zero,List.set_cons_succ]
  refine wpAnyH_ready (rs:=[8]) (by kernel_rfl) (by simp) ?_
  refine AllReadyH.cons (o:={ dst:=some 62,op:=Op.call { callee:=Callee.value (Operand.func 6),args:=#[Operand.tmp 61],argTypes:=#[26] },type:=4,pos:=_,after:=_,guard:=some (6,true) }) rfl (fun K hK=>?_) AllReadyH.nil
  go_simp
  refine (HIB.out _ (HQ8.out _ U4.out)).mono ?_
  rintro e w8 ⟨rfl,hb⟩
  have b8:Hid (Below w4.heap.size w4 w8):=Lib.hid hb
  clear hb
  have U8:Hid (Below V8.heap.size V8 w8):=Lib.hid (U4.out.trans (b8.out.mono U4.out.size))
  go_simp
  refine hK.out _ _ (b8.out) (fun _=>?_)
  clear hK K hHeld
  try simp only [Act.put,List.setIfInBounds_toArray,List.set_cons_zero,List.set_cons_succ]
  refine wpAnyH_strong (S':=fun W=>Below w8.heap.size w8 W) (fun W hW=>b8.out.trans (hW.mono b8.out.size)) _ _ _ _ ?_
  have hHeld:(fun W=>Below w8.heap.size w8 W) w8:=Below.refl _ _
  refine wpAnyH_take (i:=9) (oi:={ dst:=some 63,op:=Op.unOp UnOp.not 4 (Operand.tmp 62),type:=4,pos:=_,after:=_,guard:=some (6,true) }) (v:=?_) rfl (by kernel_rfl) (by kernel_rfl) (by kernel_rfl) (fun _ _ _ h=>h) (Or.inl ⟨by rfl,?_⟩) hHeld ?_
  rotate_left 1
  ·(intro W hW;(try dsimp only at hW);go_simp;try with_reducible rfl)
  try simp only [Act.put,List.setIfInBounds_toArray,List.set_cons_zero,List.set_cons_succ]
  refine wpAnyH_take (i:=10) (oi:={ dst:=some 64,op:=Op.move (Operand.tmp 63),type:=4,pos:=_,after:=_,guard:=some (6,true) }) (v:=?_) rfl (by kernel_rfl) (by kernel_rfl) (by kernel_rfl) (fun _ _ _ h=>h) (Or.inl ⟨by rfl,?_⟩) hHeld ?_
  rotate_left 1
  ·(intro W hW;(try dsimp only at hW);go_simp;try with_reducible rfl)
  try simp only [Act.put,List.setIfInBounds_toArray,List.set_cons_zero,List.set_cons_succ]
  refine wpAnyH_take (i:=11) (oi:={ dst:=some 65,op:=Op.load 26 (Operand.tmp 2),type:=26,pos:=_,after:=_,guard:=some (10,false) }) (v:=?_) rfl (by kernel_rfl) (by kernel_rfl) (by kernel_rfl) (fun _ _ _ h=>h) (Or.inl ⟨by rfl,?_⟩) hHeld ?_
  rotate_left 1
  ·(intro W hW;obtain ⟨k0,k1,k2,k3,k4⟩:=HCA.out W (HQ8.out _ (U8.out.trans (hW.mono U8.out.size)));(try dsimp only at hW);go_simp;try with_reducible rfl)
  try simp only [Act.put,List.setIfInBounds_toArray,List.set_cons_zero,List.set_cons_succ]
  refine wpAnyH_take (i:=12) (oi:={ dst:=some 66,op:=Op.load 26 (Operand.tmp 3),type:=26,pos:=_,after:=_,guard:=some (10,false) }) (v:=?_) rfl (by kernel_rfl) (by kernel_rfl) (by kernel_rfl) (fun _ _ _ h=>h) (Or.inl ⟨by rfl,?_⟩) hHeld ?_
  rotate_left 1
  ·(intro W hW;obtain ⟨k0,k1,k2,k3,k4⟩:=HCB.out W (HQ8.out _ (U8.out.trans (hW.mono U8.out.size)));(try dsimp only at hW);go_simp;try with_reducible rfl)
  try simp only [Act.put,List.setIfInBounds_toArray,List.set_cons_zero,List.set_cons_succ]
  refine wpAnyH_take (i:=14) (oi:={ dst:=some 68,op:=Op.load 26 (Operand.tmp 2),type:=26,pos:=_,after:=_,guard:=some (10,false) }) (v:=?_) rfl (by kernel_rfl) (by kernel_rfl) (by kernel_rfl) (fun _ _ _ h=>h) (Or.inl ⟨by rfl,?_⟩) hHeld ?_
  rotate_left 1
  ·(intro W hW;obtain ⟨k0,k1,k2,k3,k4⟩:=HCA.out W (HQ8.out _ (U8.out.trans (hW.mono U8.out.size)));(try dsimp only at hW);go_simp;try with_reducible rfl)
  try simp only [Act.put,List.setIfInBounds_toArray,List.set_cons_zero,List.set_cons_succ]
  refine wpAnyH_take (i:=15) (oi:={ dst:=some 69,op:=Op.load 26 (Operand.tmp 3),type:=26,pos:=_,after:=_,guard:=some (10,false) }) (v:=?_) rfl (by kernel_rfl) (by kernel_rfl) (by kernel_rfl) (fun _ _ _ h=>h) (Or.inl ⟨by rfl,?_⟩) hHeld ?_
  rotate_left 1
  ·(intro W hW;obtain ⟨k0,k1,k2,k3,k4⟩:=HCB.out W (HQ8.out _ (U8.out.trans (hW.mono U8.out.size)));(try dsimp only at hW);go_simp;try with_reducible rfl)
  try simp only [Act.put,List.setIfInBounds_toArray,List.set_cons_zero,List.set_cons_succ]
  refine wpAnyH_ready (rs:=[13]) (by kernel_rfl) (by simp) ?_
  refine AllReadyH.cons (o:={ dst:=some 67,op:=Op.call { callee:=Callee.value (Operand.func 18),args:=#[Operand.tmp 65,Operand.tmp 66],argTypes:=#[26,26] },type:=4,pos:=_,after:=_,guard:=some (10,false) }) rfl (fun K hK=>?_) AllReadyH.nil
  go_simp
  refine (HSA.out _ (HQ8.out _ U8.out)).mono ?_
  rintro e w13 ⟨rfl,hb⟩
  have b13:Hid (Below w8.heap.size w8 w13):=Lib.hid hb
  clear hb
  have U13:Hid (Below V8.heap.size V8 w13):=Lib.hid (U8.out.trans (b13.out.mono U8.out.size))
  go_simp
  refine hK.out _ _ (b13.out) (fun _=>?_)
  clear hK K hHeld
  try simp only [Act.put,List.setIfInBounds_toArray,List.set_cons_zero,List.set_cons_succ]
  refine wpAnyH_strong (S':=fun W=>Below w13.heap.size w13 W) (fun W hW=>b13.out.trans (hW.mono b13.out.size)) _ _ _ _ ?_
  have hHeld:(fun W=>Below w13.heap.size w13 W) w13:=Below.refl _ _
  refine wpAnyH_ready (rs:=[16]) (by kernel_rfl) (by simp) ?_
  refine AllReadyH.cons (o:={ dst:=some 70,op:=Op.call { callee:=Callee.value (Operand.func 17),args:=#[Operand.tmp 68,Operand.tmp 69],argTypes:=#[26,26] },type:=4,pos:=_,after:=_,guard:=some (10,false) }) rfl (fun K hK=>?_) AllReadyH.nil
  go_simp
  refine (HSR.out _ (HQ8.out _ U13.out)).mono ?_
  rintro e w16 ⟨rfl,hb⟩
  have b16:Hid (Below w13.heap.size w13 w16):=Lib.hid hb
  clear hb
  have U16:Hid (Below V8.heap.size V8 w16):=Lib.hid (U13.out.trans (b16.out.mono U13.out.size))
  go_simp
  refine hK.out _ _ (b16.out) (fun _=>?_)
  clear hK K hHeld
  try simp only [Act.put,List.setIfInBounds_toArray,List.set_cons_zero,List.set_cons_succ]
  refine wpAnyH_strong (S':=fun W=>Below w16.heap.size w16 W) (fun W hW=>b16.out.trans (hW.mono b16.out.size)) _ _ _ _ ?_
  have hHeld:(fun W=>Below w16.heap.size w16 W) w16:=Below.refl _ _
  refine wpAnyH_take (i:=17) (oi:={ dst:=some 71,op:=Op.binOp BinOp.eql 4 (Operand.tmp 67) (Operand.tmp 70) 4,type:=4,pos:=_,after:=_,guard:=some (10,false) }) (v:=?_) rfl (by kernel_rfl) (by kernel_rfl) (by kernel_rfl) (fun _ _ _ h=>h) (Or.inl ⟨by rfl,?_⟩) hHeld ?_
  rotate_left 1
  ·(intro W hW;(try dsimp only at hW);go_simp;try with_reducible rfl)
  try simp only [Act.put,List.setIfInBounds_toArray,List.set_cons_zero,List.set_cons_succ]
  refine wpAnyH_take (i:=18) (oi:={ dst:=some 72,op:=Op.pick (Operand.tmp 64) (Operand.const (Value.bool true)) (Operand.tmp 71),type:=4,pos:=_,after:=_,guard:=some (6,true) }) (v:=?_) rfl (by kernel_rfl) (by kernel_rfl) (by kernel_rfl) (fun _ _ _ h=>h) (Or.inl ⟨by rfl,?_⟩) hHeld ?_
  rotate_left 1
  ·(intro W hW;(try dsimp only at hW);go_simp;try with_reducible rfl)
  try simp only [Act.put,List.setIfInBounds_toArray,List.set_cons_zero,List.set_cons_succ]
  refine wpAnyH_take (i:=19) (oi:={ dst:=some 73,op:=Op.pick (Operand.tmp 60) (Operand.tmp 72) (Operand.const (Value.bool false)),type:=4,pos:=_,after:=_,guard:=none }) (v:=?_) rfl (by kernel_rfl) (by kernel_rfl) (by kernel_rfl) (fun _ _ _ h=>h) (Or.inl ⟨by rfl,?_⟩) hHeld ?_
  rotate_left 1
  ·(intro W hW;(try dsimp only at hW);go_simp;try with_reducible rfl)
  try simp only [Act.put,List.setIfInBounds_toArray,List.set_cons_zero,List.set_cons_succ]
  refine wpAnyH_take (i:=20) (oi:={ dst:=some 74,op:=Op.move (Operand.tmp 73),type:=4,pos:=_,after:=_,guard:=none }) (v:=?_) rfl (by kernel_rfl) (by kernel_rfl) (by kernel_rfl) (fun _ _ _ h=>h) (Or.inl ⟨by rfl,?_⟩) hHeld ?_
  rotate_left 1
  ·(intro W hW;(try dsimp only at hW);go_simp;try with_reducible rfl)
  try simp only [Act.put,List.setIfInBounds_toArray,List.set_cons_zero,List.set_cons_succ]
  refine wpAnyH_ready (rs:=[21]) (by kernel_rfl) (by simp) ?_
  refine AllReadyH.cons (o:={ dst:=some 75,op:=Op.call { callee:=Callee.value (Operand.func 15),args:=#[],argTypes:=#[] },type:=4,pos:=_,after:=_,guard:=some (20,true) }) rfl (fun K hK=>?_) AllReadyH.nil
  go_simp
  refine (HKN.out _ (HQ8.out _ U16.out)).mono ?_
  rintro e w21 ⟨rfl,hb⟩
  have b21:Hid (Below w16.heap.size w16 w21):=Lib.hid hb
  clear hb
  have U21:Hid (Below V8.heap.size V8 w21):=Lib.hid (U16.out.trans (b21.out.mono U16.out.size))
  go_simp
  refine hK.out _ _ (b21.out) (fun _=>?_)
  clear hK K hHeld
  try simp only [Act.put,List.setIfInBounds_toArray,List.set_cons_zero,List.set_cons_succ]
  refine wpAnyH_strong (S':=fun W=>Below w21.heap.size w21 W) (fun W hW=>b21.out.trans (hW.mono b21.out.size)) _ _ _ _ ?_
  have hHeld:(fun W=>Below w21.heap.size w21 W) w21:=Below.refl _ _
  refine wpAnyH_take (i:=22) (oi:={ dst:=some 76,op:=Op.pick (Operand.tmp 74) (Operand.tmp 75) (Operand.const (Value.bool false)),type:=4,pos:=_,after:=_,guard:=none }) (v:=?_) rfl (by kernel_rfl) (by kernel_rfl) (by kernel_rfl) (fun _ _ _ h=>h) (Or.inl ⟨by rfl,?_⟩) hHeld ?_
  rotate_left 1
  ·(intro W hW;(try dsimp only at hW);go_simp;try with_reducible rfl)
  try simp only [Act.put,List.setIfInBounds_toArray,List.set_cons_zero,List.set_cons_succ]
  refine wpAnyH_take (i:=23) (oi:={ dst:=some 4,op:=Op.assign (Operand.tmp 76),type:=4,pos:=_,after:=_,guard:=none }) (v:=?_) rfl (by kernel_rfl) (by kernel_rfl) (by kernel_rfl) (fun _ _ _ h=>h) (Or.inl ⟨by rfl,?_⟩) hHeld ?_
  rotate_left 1
  ·(intro W hW;(try dsimp only at hW);go_simp;try with_reducible rfl)
  try simp only [Act.put,List.setIfInBounds_toArray,List.set_cons_zero,List.set_cons_succ]
  refine wpAnyH_done (by kernel_rfl) ?_ _
  refine NoPanic.normal ?_
  go_wp2_with fail
  go_ret
  exact ⟨rfl,HUP.out _ (HQ8.out _ U21.out)⟩
end Go.Proofs.YtcibjcgipfpniaaGreatDoor
