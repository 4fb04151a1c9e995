/- Words and laws for the statement, part 15. -/
import Derived.Test.YtkmbgbbmhpidkaaH14
namespace Go.Proofs.Ytkmbgbbmhpidkaa
open Go.RowKit Go.Shelf
set_option linter.unusedVariables false
set_option linter.unusedSimpArgs false
attribute [local go_sem ↓] Go.wp_at_zero Go.wp_at_succ

/-- Between two acts. -/
structure PlJ (w:World) (gd gx n k:Nat) (s:Dk) (wr:World):Prop where
 two:Two wr w.heap.size gd s gx s
 oct:s.Oct
 len:s.now.length=n
 wl:s.waits.length≤400*k
 ol:s.ops≤400*k
 bel:Below w.heap.size w wr
def RelPJ (w:World) (gd gx n m:Nat) (i:Value) (wr:World):Prop :=
 ∃ (k:Nat) (s:Dk),k≤m∧i = .int .i64 k∧PlJ w gd gx n k s wr
theorem jplays_no (w:World) (more:Int) (A:Option Addr) (c m:Nat) (h:more < -10∨10<more∨16<m) :
  Calls Try.prog 3 #[.int .i64 more,.slice A m c] w fun e w'=>e = .returned (.bool true)∧Below w.heap.size w w':=by
 by_cases h1:more < -10
 ·have d1:decide (more < -10)=true:=decide_eq_true h1
  clear h
  go_enter Try.func3,Try.ntmps3
  go_wp2_with fail
  go_ret
  exact ⟨rfl,Below.refl _ _⟩
 have d1:decide (more < -10)=false:=decide_eq_false h1
 by_cases h2:10<more
 ·have d2:decide (10<more)=true:=decide_eq_true h2
  clear h
  go_enter Try.func3,Try.ntmps3
  go_wp2_with fail
  go_ret
  exact ⟨rfl,Below.refl _ _⟩
 have d2:decide (10<more)=false:=decide_eq_false h2
 have d3:decide ((16:Int)<(m:Int))=true:=decide_eq_true (by omega)
 clear h
 go_enter Try.func3,Try.ntmps3
 go_wp2_with fail
 go_ret
 exact ⟨rfl,Below.refl _ _⟩
set_option maxRecDepth 100000 in
set_option maxHeartbeats 16000000 in
theorem jplays_yes (w:World) (more:Int) (A:Option Addr) (c m:Nat) (l:List Aj) (hm:l.length=m) (hr:RdAj w A c l) (h1:-10≤more) (h2:more≤10) (h3:m≤16) :
  Calls Try.prog 3 #[.int .i64 more,.slice A m c] w fun e w'=>e = .returned (.bool true)∧Below w.heap.size w w':=by
 have d1:decide (more < -10)=false:=decide_eq_false (by omega)
 have d2:decide (10<more)=false:=decide_eq_false (by omega)
 have d3:decide ((16:Int)<(m:Int))=false:=decide_eq_false (by omega)
 obtain ⟨n,hn⟩:∃ n:Nat,(n:Int)=160+more:=⟨(160+more).toNat,by omega⟩
 have hwn:IntKind.i64.wrap (160+more)=(n:Int):=by rw [IntWalk.i64_in _ (by omega)];omega
 have HN170:Hid (n≤170):=Lib.hid (by omega)
 have HNN:=Lib.hid (new_yes w n (by omega) (by omega))
 have HRN:=Lib.hid (fun w1:World=>rnew_yes w1 n (by omega) (by omega))
 have HA:=Lib.hid hr
 have HM:=Lib.hid hm
 have hmc:m≤c:=by have:=hr.1;omega
 have hcm:c≤9223372036854775807:=hr.2.1
 clear hr hm hn
 go_enter Try.func3,Try.ntmps3
 go_wp2_with fail
 refine HNN.out.mono ?_
 rintro e w1 ⟨gd,rfl,hd1,hb1⟩
 have HD1:=Lib.hid hd1
 have HB1:=Lib.hid hb1
 clear hd1 hb1 HNN d1 d2 d3 hwn
 go_wp2_with fail
 refine (HRN.out w1).mono ?_
 rintro e w2 ⟨rfl,hp⟩
 have HP:Hid (PlJ w gd w1.heap.size n 0 (fresh n) w2):=Lib.hid ⟨(two_new HD1.out HB1.out hp).1,oct_fresh n,by simp [fresh],Nat.le_refl _,Nat.le_refl _,(two_new HD1.out HB1.out hp).2⟩
 clear hp HRN HD1 HB1
 generalize w1.heap.size=gx at *
 go_wp2_with fail
 go_loopw [8] (fun i wr=>RelPJ w gd gx n m i wr) (fun i _=>m - (intOf i).toNat)
 case atStart=>exact ⟨0,_,Nat.zero_le _,rfl,HP.out⟩
 case round =>
  clear HP
  obtain ⟨k,s,hk,rfl,hp⟩:=hrel
  obtain ⟨V,hV⟩:∃ V,V=wr:=⟨_,rfl⟩
  subst hV
  have HP:=Lib.hid hp
  clear hp
  by_cases hkn:k<m
  case pos =>
   have hkI:(k:Int)<(m:Int):=by omega
   have hk0:(0:Int)≤(k:Int):=by omega
   have HK16:Hid (k≤16):=Lib.hid (by omega)
   obtain ⟨b,off,rfl,hbl,hcs⟩:=HA.out.2.2.2 (by rw [HM.out];omega)
   obtain ⟨q0,q1,q2,q3⟩:=hcs k (by rw [HM.out];exact hkn)
   obtain ⟨hrw,how,htr⟩:=HA.out.2.2.1 k (by rw [HM.out];exact hkn)
   generalize l.getD k default=a at *
   obtain ⟨kd,wa0,wc,wl,ca,ka,kc,kl⟩:=a
   dsimp only at q0 q1 q2 q3 hrw how htr
   replace q0:=(HP.out.bel.cell (p:=⟨b,_,none⟩) hbl).trans q0
   replace q1:=(HP.out.bel.cell (p:=⟨b,_,none⟩) hbl).trans q1
   replace q2:=(HP.out.bel.cell (p:=⟨b,_,none⟩) hbl).trans q2
   replace q3:=(HP.out.bel.cell (p:=⟨b,_,none⟩) hbl).trans q3
   have HRW:=Lib.hid hrw
   have HOFF:Hid (∀ W,Below w.heap.size w W→∀ F:Nat→Prop,(∀ k,F k→w.heap.size≤k)→OffF F (RdWr wa0 wc wl) W):=Lib.hid fun W hW F hF=>HRW.out.offLow hW F hF
   have HTR:Hid (∀ W,Below w.heap.size w W→Truths W ka kc kl):=Lib.hid fun W hW=>htr.under hW
   have HOW:Hid (∀ p∈wv wl,Oct1 p.2):=Lib.hid fun p hp=>by
    obtain ⟨x,hx,rfl⟩:=List.mem_map.1 hp
    exact how x hx
   obtain ⟨nw,hnw⟩:∃ x,wl.length=x:=⟨_,rfl⟩
   obtain ⟨nk,hnk⟩:∃ x,kl.length=x:=⟨_,rfl⟩
   have HNW:=Lib.hid hnw
   have HNK:=Lib.hid hnk
   rw [hnw] at q1
   rw [hnk] at q3
   have hnwc:nw≤wc:=by rw [←hnw];exact hrw.1
   have hwc63:=hrw.2.1
   have HNG:Hid (∀ x∈wl,0<x.d.length→∀ g,blockOf x.da=some g→g≠gx):=Lib.hid fun x hx h0 g hg=>by
    obtain ⟨i,hi,rfl⟩:=List.getElem_of_mem hx
    have h1:=HRW.out.2.2.1 i hi
    rw [show wl.getD i default=wl[i] by simp [List.getD,hi]] at h1
    have:=h1.lt h0 hg
    have:=HP.out.two.pos.2.1
    omega
   have HGD:Hid (kl≠[]→∀ g,blockOf ka=some g→g≠gd):=Lib.hid fun h0 g hg=>by
    have:=htr.lt h0 g hg
    have:=HP.out.two.pos.1
    omega
   have HOX:=Lib.hid how
   clear hnw hnk hrw how htr hcs
   obtain ⟨V1,hV1⟩:∃ V1,V.alloc (.cells #[.int .i64 kd,.slice wa0 nw wc,.int .i64 ca,.slice ka nk kc] 32)=V1:=⟨_,rfl⟩
   have hbb:Below V.heap.size V V1:=by rw [←hV1];exact (Below.refl _ V).alloc (Nat.le_refl _) _
   have hs1:V1.heap.size=V.heap.size+1:=by rw [←hV1];simp
   have HB_V1:Hid (Holds V1 V.heap.size 32 #[.int .i64 kd,.slice wa0 nw wc,.int .i64 ca,.slice ka nk kc]):=Lib.hid (by rw [←hV1];exact Holds.fresh _ _ _)
   have HT_V1:Hid (TwoX V1 w.heap.size V.heap.size gd s gx s):=Lib.hid (TwoX.of HP.out.two hbb (Nat.le_refl _) (by omega))
   have HQ_V1:Hid (Below w.heap.size w V1):=Lib.hid (HP.out.bel.trans (hbb.mono HP.out.bel.size))
   have HOS:=Lib.hid HP.out.oct
   have HLN:=Lib.hid HP.out.len
   have HSEC:=Lib.hid HP.out.two.sect
   have HLS:Hid (s.waits.length≤400*k∧s.ops≤400*k):=Lib.hid ⟨HP.out.wl,HP.out.ol⟩
   have HV1:=Lib.hid hV1
   clear hbb hs1 hV1 HP hbl
   by_cases hnb:12<nw
   case pos =>
    have dB:decide ((12:Int)<(nw:Int))=true:=decide_eq_true (by omega)
    go_wp2_with fail
    rw [HV1.out]
    go_ret
    exact ⟨rfl,HQ_V1.out⟩
   have dB:decide ((12:Int)<(nw:Int))=false:=decide_eq_false (by omega)
   by_cases hnk:100<nk
   case pos =>
    have dK:decide ((100:Int)<(nk:Int))=true:=decide_eq_true (by omega)
    go_wp2_with fail
    rw [HV1.out]
    go_ret
    exact ⟨rfl,HQ_V1.out⟩
   have dK:decide ((100:Int)<(nk:Int))=false:=decide_eq_false (by omega)
   by_cases e1:kd=1
   case pos =>
    have HE:Hid (V.alloc (.cells #[.int .i64 1,.slice wa0 nw wc,.int .i64 ca,.slice ka nk kc] 32)=V1):=Lib.hid (by rw [←e1];exact HV1.out)
    go_wp2_with fail
    rw [HE.out]
    refine wp_region_noPanic ?_
    refine wp_region_held_drew (S:=fun W=>Holds W V.heap.size 32 #[.int .i64 kd,.slice wa0 nw wc,.int .i64 ca,.slice ka nk kc]∧Below w.heap.size w W) (by kernel_rfl) (⟨HB_V1.out,HQ_V1.out.drew⟩) (fun hHeld=>?_)
    refine wpAnyH_take (i:=0) (oi:={ dst:=some 58,op:=Op.move (Operand.tmp 6),type:=23,pos:=_,after:=_,guard:=none }) (v:=?_) rfl (by kernel_rfl) (by kernel_rfl) (by kernel_rfl) (fun _ _ _ h=>h) (Or.inl ⟨by rfl,?_⟩) hHeld ?_
    rotate_left 1
    ·(intro W hW;(try dsimp only at hW);go_simp;try with_reducible rfl)
    try simp only [Act.put,List.setIfInBounds_toArray,List.set_cons_zero,List.set_cons_succ]
    refine wpAnyH_take (i:=1) (oi:={ dst:=some 59,op:=Op.fieldAddr 32 (Operand.tmp 9) 1,type:=0,pos:=_,after:=_,guard:=none }) (v:=?_) rfl (by kernel_rfl) (by kernel_rfl) (by kernel_rfl) (fun _ _ _ h=>h) (Or.inl ⟨by rfl,?_⟩) hHeld ?_
    rotate_left 1
    ·(intro W hW;(try dsimp only at hW);go_simp;try with_reducible rfl)
    try simp only [Act.put,List.setIfInBounds_toArray,List.set_cons_zero,List.set_cons_succ]
    refine wpAnyH_take (i:=2) (oi:={ dst:=some 60,op:=Op.load 27 (Operand.tmp 59),type:=27,pos:=_,after:=_,guard:=none }) (v:=?_) rfl (by kernel_rfl) (by kernel_rfl) (by kernel_rfl) (fun _ _ _ h=>h) (Or.inl ⟨by rfl,?_⟩) hHeld ?_
    rotate_left 1
    ·(intro W hW;have hk1:W.cell? ⟨V.heap.size,1,none⟩=some (.slice wa0 nw wc):=Holds.cell hW.1 1;(try dsimp only at hW);go_simp;try with_reducible rfl)
    try simp only [Act.put,List.setIfInBounds_toArray,List.set_cons_zero,List.set_cons_succ]
    refine wpAnyH_take (i:=4) (oi:={ dst:=some 62,op:=Op.move (Operand.tmp 7),type:=25,pos:=_,after:=_,guard:=none }) (v:=?_) rfl (by kernel_rfl) (by kernel_rfl) (by kernel_rfl) (fun _ _ _ h=>h) (Or.inl ⟨by rfl,?_⟩) hHeld ?_
    rotate_left 1
    ·(intro W hW;(try dsimp only at hW);go_simp;try with_reducible rfl)
    try simp only [Act.put,List.setIfInBounds_toArray,List.set_cons_zero,List.set_cons_succ]
    refine wpAnyH_take (i:=5) (oi:={ dst:=some 63,op:=Op.fieldAddr 32 (Operand.tmp 9) 1,type:=0,pos:=_,after:=_,guard:=none }) (v:=?_) rfl (by kernel_rfl) (by kernel_rfl) (by kernel_rfl) (fun _ _ _ h=>h) (Or.inl ⟨by rfl,?_⟩) hHeld ?_
    rotate_left 1
    ·(intro W hW;(try dsimp only at hW);go_simp;try with_reducible rfl)
    try simp only [Act.put,List.setIfInBounds_toArray,List.set_cons_zero,List.set_cons_succ]
    refine wpAnyH_take (i:=6) (oi:={ dst:=some 64,op:=Op.load 27 (Operand.tmp 63),type:=27,pos:=_,after:=_,guard:=none }) (v:=?_) rfl (by kernel_rfl) (by kernel_rfl) (by kernel_rfl) (fun _ _ _ h=>h) (Or.inl ⟨by rfl,?_⟩) hHeld ?_
    rotate_left 1
    ·(intro W hW;have hk1:W.cell? ⟨V.heap.size,1,none⟩=some (.slice wa0 nw wc):=Holds.cell hW.1 1;(try dsimp only at hW);go_simp;try with_reducible rfl)
    try simp only [Act.put,List.setIfInBounds_toArray,List.set_cons_zero,List.set_cons_succ]
    refine wpAnyH_ready (rs:=[3]) (by kernel_rfl) (by simp) ?_
    refine AllReadyH.cons (o:={ dst:=some 61,op:=Op.call { callee:=Callee.value (Operand.func 10),args:=#[Operand.tmp 58,Operand.tmp 60],argTypes:=#[23,27] },type:=33,pos:=_,after:=_,guard:=none }) rfl (fun K hK=>?_) AllReadyH.nil
    go_simp
    refine (twx_commit1 (HT_V1.out.under (Below.refl _ V1).drew) wa0 wc nw wl HNW.out (HOFF.out V1.drew HQ_V1.out.drew) (by omega) (by have:=HLS.out.1;have:=HK16.out;omega) (by have:=HLS.out.2;have:=HK16.out;omega)).mono ?_
    rintro e wa ⟨rfl,ht,hb,hx⟩
    have HT_wa:=Lib.hid ht
    have HQ_wa:Hid (Below w.heap.size w wa):=Lib.hid (HQ_V1.out.drew.trans hb)
    have HB_wa:Hid (Holds wa V.heap.size 32 #[.int .i64 kd,.slice wa0 nw wc,.int .i64 ca,.slice ka nk kc]):=Lib.hid (hx.trans HB_V1.out)
    have HS_wa:=Lib.hid (And.intro HB_wa.out HQ_wa.out)
    clear ht hb hx
    go_simp
    refine hK.out _ _ (HS_wa.out) (fun _=>?_)
    clear hK K hHeld
    try simp only [Act.put,List.setIfInBounds_toArray,List.set_cons_zero,List.set_cons_succ]
    have hHeld:(fun W=>Holds W V.heap.size 32 #[.int .i64 kd,.slice wa0 nw wc,.int .i64 ca,.slice ka nk kc]∧Below w.heap.size w W) wa:=HS_wa.out
    refine wpAnyH_ready (rs:=[7]) (by kernel_rfl) (by simp) ?_
    refine AllReadyH.cons (o:={ dst:=some 65,op:=Op.call { callee:=Callee.value (Operand.func 11),args:=#[Operand.tmp 62,Operand.tmp 64],argTypes:=#[25,27] },type:=3,pos:=_,after:=_,guard:=none }) rfl (fun K hK=>?_) AllReadyH.nil
    go_simp
    refine (twx_commit2 HT_wa.out wa0 wc nw wl HNW.out (HOFF.out wa HQ_wa.out) HNG.out (by omega) (by have:=HLS.out.1;have:=HK16.out;omega) (by have:=HLS.out.2;have:=HK16.out;omega)).mono ?_
    rintro e wb ⟨rfl,ht,hb,hx⟩
    have HT_wb:=Lib.hid ht
    have HQ_wb:Hid (Below w.heap.size w wb):=Lib.hid (HQ_wa.out.trans hb)
    have HB_wb:Hid (Holds wb V.heap.size 32 #[.int .i64 kd,.slice wa0 nw wc,.int .i64 ca,.slice ka nk kc]):=Lib.hid (hx.trans HB_wa.out)
    have HS_wb:=Lib.hid (And.intro HB_wb.out HQ_wb.out)
    clear ht hb hx
    go_simp
    refine hK.out _ _ (HS_wb.out) (fun _=>?_)
    clear hK K hHeld
    try simp only [Act.put,List.setIfInBounds_toArray,List.set_cons_zero,List.set_cons_succ]
    have hHeld:(fun W=>Holds W V.heap.size 32 #[.int .i64 kd,.slice wa0 nw wc,.int .i64 ca,.slice ka nk kc]∧Below w.heap.size w W) wb:=HS_wb.out
    refine wpAnyH_take (i:=8) (oi:={ dst:=some 66,op:=Op.binOp BinOp.eql 3 (Operand.tmp 61) (Operand.tmp 65) 3,type:=4,pos:=_,after:=_,guard:=none }) (v:=?_) rfl (by kernel_rfl) (by kernel_rfl) (by kernel_rfl) (fun _ _ _ h=>h) (Or.inl ⟨by rfl,?_⟩) hHeld ?_
    rotate_left 1
    ·(intro W hW;(try dsimp only at hW);go_simp;try with_reducible rfl)
    try simp only [Act.put,List.setIfInBounds_toArray,List.set_cons_zero,List.set_cons_succ]
    refine wpAnyH_take (i:=9) (oi:={ dst:=some 10,op:=Op.assign (Operand.tmp 66),type:=4,pos:=_,after:=_,guard:=none }) (v:=?_) rfl (by kernel_rfl) (by kernel_rfl) (by kernel_rfl) (fun _ _ _ h=>h) (Or.inl ⟨by rfl,?_⟩) hHeld ?_
    rotate_left 1
    ·(intro W hW;(try dsimp only at hW);go_simp;try with_reducible rfl)
    try simp only [Act.put,List.setIfInBounds_toArray,List.set_cons_zero,List.set_cons_succ]
    refine wpAnyH_done (by kernel_rfl) ?_ _
    refine NoPanic.normal ?_
    have HOZ:=Lib.hid (HOS.out.commit HOW.out)
    have HNZ:Hid (((s.commit (wv wl)).1).now.length=n):=Lib.hid ((commit_now s (wv wl)).trans HLN.out)
    have HLZ:Hid (((s.commit (wv wl)).1).waits.length≤400*(k+1)∧((s.commit (wv wl)).1).ops≤400*(k+1)):=Lib.hid (by have h1:=commit_le s (wv wl) (by rw [wv_length,HNW.out];omega);have h2:=HLS.out;omega)
    clear HB_V1 HT_V1 HQ_V1 HT_wa HQ_wa HB_wa HB_wb HS_wa HS_wb
    have HQZ:Hid (Below w.heap.size w wb):=HQ_wb
    go_wp2_with fail
    refine (same2_any wb w.heap.size gd gx _ HT_wb.out.to HOZ.out (by have:=HLZ.out.1;have:=HK16.out;omega)).mono ?_
    rintro e wy ⟨rfl,hty,hby⟩
    have HF:=Lib.hid (PlJ.mk (n:=n) (k:=k+1) hty HOZ.out HNZ.out HLZ.out.1 HLZ.out.2 (HQZ.out.trans (hby.mono HQZ.out.size)))
    clear hty hby
    go_wp2_with fail
    go_roundw
    case rel=>exact ⟨k+1,_,by omega,by go_num,HF.out⟩
    case measure=>simp [intOf];omega
   have n1:(kd == 1)=false:=by rw [beq_eq_false_iff_ne];exact e1
   by_cases e2:kd=2
   case pos =>
    have HE:Hid (V.alloc (.cells #[.int .i64 2,.slice wa0 nw wc,.int .i64 ca,.slice ka nk kc] 32)=V1):=Lib.hid (by rw [←e2];exact HV1.out)
    go_wp2_with fail
    rw [HE.out]
    refine (twx_arm1 HT_V1.out ca ka kc nk kl HNK.out (HTR.out V1 HQ_V1.out) (by omega) HGD.out).mono ?_
    rintro e wa ⟨rfl,ht,hb,hx⟩
    have HT_wa:=Lib.hid ht
    have HQ_wa:Hid (Below w.heap.size w wa):=Lib.hid (HQ_V1.out.trans hb)
    have HB_wa:Hid (Holds wa V.heap.size 32 #[.int .i64 kd,.slice wa0 nw wc,.int .i64 ca,.slice ka nk kc]):=Lib.hid (hx.trans HB_V1.out)
    have HS_wa:=Lib.hid (And.intro HB_wa.out HQ_wa.out)
    clear ht hb hx
    have e3:wa.cell? ⟨V.heap.size,2,none⟩=some (.int .i64 ca):=HB_wa.out.cell 2
    have e4:wa.cell? ⟨V.heap.size,3,none⟩=some (.slice ka nk kc):=HB_wa.out.cell 3
    go_wp2_with fail
    refine (twx_arm2 HT_wa.out ca ka kc nk kl HNK.out (HTR.out wa HQ_wa.out) (by omega)).mono ?_
    rintro e wb ⟨rfl,ht,hb,hx⟩
    have HT_wb:=Lib.hid ht
    have HQ_wb:Hid (Below w.heap.size w wb):=Lib.hid (HQ_wa.out.trans hb)
    have HB_wb:Hid (Holds wb V.heap.size 32 #[.int .i64 kd,.slice wa0 nw wc,.int .i64 ca,.slice ka nk kc]):=Lib.hid (hx.trans HB_wa.out)
    have HS_wb:=Lib.hid (And.intro HB_wb.out HQ_wb.out)
    clear ht hb hx
    have HOZ:=Lib.hid (HOS.out.arm ca kl)
    have HNZ:Hid ((s.arm ca kl).now.length=n):=Lib.hid ((show (s.arm ca kl).now.length=s.now.length from rfl).trans HLN.out)
    have HLZ:Hid ((s.arm ca kl).waits.length≤400*(k+1)∧(s.arm ca kl).ops≤400*(k+1)):=Lib.hid (by have h1:(s.arm ca kl).waits=s.waits:=rfl;have h3:(s.arm ca kl).ops=s.ops:=rfl;rw [h1,h3];have h2:=HLS.out;omega)
    clear e3 e4
    clear HB_V1 HT_V1 HQ_V1 HT_wa HQ_wa HB_wa HB_wb HS_wa HS_wb
    have HQZ:Hid (Below w.heap.size w wb):=HQ_wb
    go_wp2_with fail
    refine (same2_any wb w.heap.size gd gx _ HT_wb.out.to HOZ.out (by have:=HLZ.out.1;have:=HK16.out;omega)).mono ?_
    rintro e wy ⟨rfl,hty,hby⟩
    have HF:=Lib.hid (PlJ.mk (n:=n) (k:=k+1) hty HOZ.out HNZ.out HLZ.out.1 HLZ.out.2 (HQZ.out.trans (hby.mono HQZ.out.size)))
    clear hty hby
    go_wp2_with fail
    go_roundw
    case rel=>exact ⟨k+1,_,by omega,by go_num,HF.out⟩
    case measure=>simp [intOf];omega
   have n2:(kd == 2)=false:=by rw [beq_eq_false_iff_ne];exact e2
   by_cases e3:kd=3
   case pos =>
    have HE:Hid (V.alloc (.cells #[.int .i64 3,.slice wa0 nw wc,.int .i64 ca,.slice ka nk kc] 32)=V1):=Lib.hid (by rw [←e3];exact HV1.out)
    go_wp2_with fail
    rw [HE.out]
    refine (twx_restart1 HT_V1.out (by have:=HLS.out.1;have:=HK16.out;omega)).mono ?_
    rintro e wa ⟨rfl,ht,hb,hx⟩
    have HT_wa:=Lib.hid ht
    have HQ_wa:Hid (Below w.heap.size w wa):=Lib.hid (HQ_V1.out.trans hb)
    have HB_wa:Hid (Holds wa V.heap.size 32 #[.int .i64 kd,.slice wa0 nw wc,.int .i64 ca,.slice ka nk kc]):=Lib.hid (hx.trans HB_V1.out)
    have HS_wa:=Lib.hid (And.intro HB_wa.out HQ_wa.out)
    clear ht hb hx
    go_wp2_with fail
    refine (twx_restart2 HT_wa.out).mono ?_
    rintro e wb ⟨rfl,ht,hb,hx⟩
    have HT_wb:=Lib.hid ht
    have HQ_wb:Hid (Below w.heap.size w wb):=Lib.hid (HQ_wa.out.trans hb)
    have HB_wb:Hid (Holds wb V.heap.size 32 #[.int .i64 kd,.slice wa0 nw wc,.int .i64 ca,.slice ka nk kc]):=Lib.hid (hx.trans HB_wa.out)
    have HS_wb:=Lib.hid (And.intro HB_wb.out HQ_wb.out)
    clear ht hb hx
    have HOZ:=Lib.hid (HOS.out.restart)
    have HNZ:Hid ((s.restart).now.length=n):=Lib.hid ((restart_now s).trans HLN.out)
    have HLZ:Hid ((s.restart).waits.length≤400*(k+1)∧(s.restart).ops≤400*(k+1)):=Lib.hid (by have h1:s.restart.waits.length=0:=rfl;have h3:s.restart.ops=0:=rfl;have h2:=HLS.out;omega)
    clear HB_V1 HT_V1 HQ_V1 HT_wa HQ_wa HB_wa HB_wb HS_wa HS_wb
    have HQZ:Hid (Below w.heap.size w wb):=HQ_wb
    go_wp2_with fail
    refine (same2_any wb w.heap.size gd gx _ HT_wb.out.to HOZ.out (by have:=HLZ.out.1;have:=HK16.out;omega)).mono ?_
    rintro e wy ⟨rfl,hty,hby⟩
    have HF:=Lib.hid (PlJ.mk (n:=n) (k:=k+1) hty HOZ.out HNZ.out HLZ.out.1 HLZ.out.2 (HQZ.out.trans (hby.mono HQZ.out.size)))
    clear hty hby
    go_wp2_with fail
    go_roundw
    case rel=>exact ⟨k+1,_,by omega,by go_num,HF.out⟩
    case measure=>simp [intOf];omega
   have n3:(kd == 3)=false:=by rw [beq_eq_false_iff_ne];exact e3
   by_cases e4:kd=4
   case pos =>
    have HE:Hid (V.alloc (.cells #[.int .i64 4,.slice wa0 nw wc,.int .i64 ca,.slice ka nk kc] 32)=V1):=Lib.hid (by rw [←e4];exact HV1.out)
    go_wp2_with fail
    rw [HE.out]
    refine (twx_open1 HT_V1.out (fun i=>HOS.out.read HT_V1.out.to.sound _) (by have:=HLS.out.1;have:=HK16.out;omega) (by have:=HLS.out.2;have:=HK16.out;omega)).mono ?_
    rintro e wa ⟨rfl,ht,hb,hx⟩
    have HT_wa:=Lib.hid ht
    have HQ_wa:Hid (Below w.heap.size w wa):=Lib.hid (HQ_V1.out.trans hb)
    have HB_wa:Hid (Holds wa V.heap.size 32 #[.int .i64 kd,.slice wa0 nw wc,.int .i64 ca,.slice ka nk kc]):=Lib.hid (hx.trans HB_V1.out)
    have HS_wa:=Lib.hid (And.intro HB_wa.out HQ_wa.out)
    clear ht hb hx
    go_wp2_with fail
    refine (twx_open2 HT_wa.out HSEC.out (fun i=>HOS.out.read HT_wa.out.to.sound _) (by have:=HLS.out.1;have:=HK16.out;omega) (by have:=HLS.out.2;have:=HK16.out;omega)).mono ?_
    rintro e wb ⟨rfl,ht,hb,hx⟩
    have HT_wb:=Lib.hid ht
    have HQ_wb:Hid (Below w.heap.size w wb):=Lib.hid (HQ_wa.out.trans hb)
    have HB_wb:Hid (Holds wb V.heap.size 32 #[.int .i64 kd,.slice wa0 nw wc,.int .i64 ca,.slice ka nk kc]):=Lib.hid (hx.trans HB_wa.out)
    have HS_wb:=Lib.hid (And.intro HB_wb.out HQ_wb.out)
    clear ht hb hx
    have HOZ:=Lib.hid (HOS.out.open_ HT_V1.out.to.sound)
    have HNZ:Hid ((s.open_.1).now.length=n):=Lib.hid ((open_now s).trans HLN.out)
    have HLZ:Hid ((s.open_.1).waits.length≤400*(k+1)∧(s.open_.1).ops≤400*(k+1)):=Lib.hid (by have h1:=open_le s;have h2:=HLS.out;omega)
    clear HB_V1 HT_V1 HQ_V1 HT_wa HQ_wa HB_wa HB_wb HS_wa HS_wb
    have HQZ:Hid (Below w.heap.size w wb):=HQ_wb
    go_wp2_with fail
    refine (same2_any wb w.heap.size gd gx _ HT_wb.out.to HOZ.out (by have:=HLZ.out.1;have:=HK16.out;omega)).mono ?_
    rintro e wy ⟨rfl,hty,hby⟩
    have HF:=Lib.hid (PlJ.mk (n:=n) (k:=k+1) hty HOZ.out HNZ.out HLZ.out.1 HLZ.out.2 (HQZ.out.trans (hby.mono HQZ.out.size)))
    clear hty hby
    go_wp2_with fail
    go_roundw
    case rel=>exact ⟨k+1,_,by omega,by go_num,HF.out⟩
    case measure=>simp [intOf];omega
   have n4:(kd == 4)=false:=by rw [beq_eq_false_iff_ne];exact e4
   by_cases e5:kd=5
   case pos =>
    have HE:Hid (V.alloc (.cells #[.int .i64 5,.slice wa0 nw wc,.int .i64 ca,.slice ka nk kc] 32)=V1):=Lib.hid (by rw [←e5];exact HV1.out)
    go_wp2_with fail
    rw [HE.out]
    refine (twx_format1 HT_V1.out (by have:=HLS.out.1;have:=HK16.out;omega) (by have:=HLS.out.2;have:=HK16.out;omega)).mono ?_
    rintro e wa ⟨rfl,ht,hb,hx⟩
    have HT_wa:=Lib.hid ht
    have HQ_wa:Hid (Below w.heap.size w wa):=Lib.hid (HQ_V1.out.trans hb)
    have HB_wa:Hid (Holds wa V.heap.size 32 #[.int .i64 kd,.slice wa0 nw wc,.int .i64 ca,.slice ka nk kc]):=Lib.hid (hx.trans HB_V1.out)
    have HS_wa:=Lib.hid (And.intro HB_wa.out HQ_wa.out)
    clear ht hb hx
    go_wp2_with fail
    refine (twx_format2 HT_wa.out (by have:=HLN.out;have:=HN170.out;omega) (by have:=HLS.out.1;have:=HK16.out;omega) (by have:=HLS.out.2;have:=HK16.out;omega)).mono ?_
    rintro e wb ⟨rfl,ht,hb,hx⟩
    have HT_wb:=Lib.hid ht
    have HQ_wb:Hid (Below w.heap.size w wb):=Lib.hid (HQ_wa.out.trans hb)
    have HB_wb:Hid (Holds wb V.heap.size 32 #[.int .i64 kd,.slice wa0 nw wc,.int .i64 ca,.slice ka nk kc]):=Lib.hid (hx.trans HB_wa.out)
    have HS_wb:=Lib.hid (And.intro HB_wb.out HQ_wb.out)
    clear ht hb hx
    have HOZ:=Lib.hid (HOS.out.format)
    have HNZ:Hid ((s.format.1).now.length=n):=Lib.hid ((format_now s).trans HLN.out)
    have HLZ:Hid ((s.format.1).waits.length≤400*(k+1)∧(s.format.1).ops≤400*(k+1)):=Lib.hid (by have h1:=format_le s;have h3:=HLN.out;have h4:=HN170.out;have h2:=HLS.out;omega)
    clear HB_V1 HT_V1 HQ_V1 HT_wa HQ_wa HB_wa HB_wb HS_wa HS_wb
    have HQZ:Hid (Below w.heap.size w wb):=HQ_wb
    go_wp2_with fail
    refine (same2_any wb w.heap.size gd gx _ HT_wb.out.to HOZ.out (by have:=HLZ.out.1;have:=HK16.out;omega)).mono ?_
    rintro e wy ⟨rfl,hty,hby⟩
    have HF:=Lib.hid (PlJ.mk (n:=n) (k:=k+1) hty HOZ.out HNZ.out HLZ.out.1 HLZ.out.2 (HQZ.out.trans (hby.mono HQZ.out.size)))
    clear hty hby
    go_wp2_with fail
    go_roundw
    case rel=>exact ⟨k+1,_,by omega,by go_num,HF.out⟩
    case measure=>simp [intOf];omega
   have n5:(kd == 5)=false:=by rw [beq_eq_false_iff_ne];exact e5
   by_cases hw0:0<nw
   case neg =>
    have d0:decide ((0:Int)<(nw:Int))=false:=decide_eq_false (by omega)
    by_cases e6:kd=6
    case pos =>
     have HE:Hid (V.alloc (.cells #[.int .i64 6,.slice wa0 nw wc,.int .i64 ca,.slice ka nk kc] 32)=V1):=Lib.hid (by rw [←e6];exact HV1.out)
     go_wp2_with fail
     rw [HE.out]
     refine (twx_flush1 HT_V1.out (by have:=HLS.out.1;have:=HK16.out;omega) (by have:=HLS.out.2;have:=HK16.out;omega)).mono ?_
     rintro e wa ⟨rfl,ht,hb,hx⟩
     have HT_wa:=Lib.hid ht
     have HQ_wa:Hid (Below w.heap.size w wa):=Lib.hid (HQ_V1.out.trans hb)
     have HB_wa:Hid (Holds wa V.heap.size 32 #[.int .i64 kd,.slice wa0 nw wc,.int .i64 ca,.slice ka nk kc]):=Lib.hid (hx.trans HB_V1.out)
     have HS_wa:=Lib.hid (And.intro HB_wa.out HQ_wa.out)
     clear ht hb hx
     go_wp2_with fail
     refine (twx_flush2 HT_wa.out (by have:=HLS.out.1;have:=HK16.out;omega) (by have:=HLS.out.2;have:=HK16.out;omega)).mono ?_
     rintro e wb ⟨rfl,ht,hb,hx⟩
     have HT_wb:=Lib.hid ht
     have HQ_wb:Hid (Below w.heap.size w wb):=Lib.hid (HQ_wa.out.trans hb)
     have HB_wb:Hid (Holds wb V.heap.size 32 #[.int .i64 kd,.slice wa0 nw wc,.int .i64 ca,.slice ka nk kc]):=Lib.hid (hx.trans HB_wa.out)
     have HS_wb:=Lib.hid (And.intro HB_wb.out HQ_wb.out)
     clear ht hb hx
     have HOZ:=Lib.hid (HOS.out.flush)
     have HNZ:Hid ((s.flush.1).now.length=n):=Lib.hid ((flush_now s).trans HLN.out)
     have HLZ:Hid ((s.flush.1).waits.length≤400*(k+1)∧(s.flush.1).ops≤400*(k+1)):=Lib.hid (by have h1:=jflush_le s;have h2:=HLS.out;omega)
     clear HB_V1 HT_V1 HQ_V1 HT_wa HQ_wa HB_wa HB_wb HS_wa HS_wb
     have HQZ:Hid (Below w.heap.size w wb):=HQ_wb
     go_wp2_with fail
     refine (same2_any wb w.heap.size gd gx _ HT_wb.out.to HOZ.out (by have:=HLZ.out.1;have:=HK16.out;omega)).mono ?_
     rintro e wy ⟨rfl,hty,hby⟩
     have HF:=Lib.hid (PlJ.mk (n:=n) (k:=k+1) hty HOZ.out HNZ.out HLZ.out.1 HLZ.out.2 (HQZ.out.trans (hby.mono HQZ.out.size)))
     clear hty hby
     go_wp2_with fail
     go_roundw
     case rel=>exact ⟨k+1,_,by omega,by go_num,HF.out⟩
     case measure=>simp [intOf];omega
    have n6:(kd == 6)=false:=by rw [beq_eq_false_iff_ne];exact e6
    go_wp2_with fail
    rw [HV1.out]
    refine (twx_flush1 HT_V1.out (by have:=HLS.out.1;have:=HK16.out;omega) (by have:=HLS.out.2;have:=HK16.out;omega)).mono ?_
    rintro e wa ⟨rfl,ht,hb,hx⟩
    have HT_wa:=Lib.hid ht
    have HQ_wa:Hid (Below w.heap.size w wa):=Lib.hid (HQ_V1.out.trans hb)
    have HB_wa:Hid (Holds wa V.heap.size 32 #[.int .i64 kd,.slice wa0 nw wc,.int .i64 ca,.slice ka nk kc]):=Lib.hid (hx.trans HB_V1.out)
    have HS_wa:=Lib.hid (And.intro HB_wa.out HQ_wa.out)
    clear ht hb hx
    go_wp2_with fail
    refine (twx_flush2 HT_wa.out (by have:=HLS.out.1;have:=HK16.out;omega) (by have:=HLS.out.2;have:=HK16.out;omega)).mono ?_
    rintro e wb ⟨rfl,ht,hb,hx⟩
    have HT_wb:=Lib.hid ht
    have HQ_wb:Hid (Below w.heap.size w wb):=Lib.hid (HQ_wa.out.trans hb)
    have HB_wb:Hid (Holds wb V.heap.size 32 #[.int .i64 kd,.slice wa0 nw wc,.int .i64 ca,.slice ka nk kc]):=Lib.hid (hx.trans HB_wa.out)
    have HS_wb:=Lib.hid (And.intro HB_wb.out HQ_wb.out)
    clear ht hb hx
    have HOZ:=Lib.hid (HOS.out.flush)
    have HNZ:Hid ((s.flush.1).now.length=n):=Lib.hid ((flush_now s).trans HLN.out)
    have HLZ:Hid ((s.flush.1).waits.length≤400*(k+1)∧(s.flush.1).ops≤400*(k+1)):=Lib.hid (by have h1:=jflush_le s;have h2:=HLS.out;omega)
    clear HB_V1 HT_V1 HQ_V1 HT_wa HQ_wa HB_wa HB_wb HS_wa HS_wb
    have HQZ:Hid (Below w.heap.size w wb):=HQ_wb
    go_wp2_with fail
    refine (same2_any wb w.heap.size gd gx _ HT_wb.out.to HOZ.out (by have:=HLZ.out.1;have:=HK16.out;omega)).mono ?_
    rintro e wy ⟨rfl,hty,hby⟩
    have HF:=Lib.hid (PlJ.mk (n:=n) (k:=k+1) hty HOZ.out HNZ.out HLZ.out.1 HLZ.out.2 (HQZ.out.trans (hby.mono HQZ.out.size)))
    clear hty hby
    go_wp2_with fail
    go_roundw
    case rel=>exact ⟨k+1,_,by omega,by go_num,HF.out⟩
    case measure=>simp [intOf];omega
   have d0:decide ((0:Int)<(nw:Int))=true:=decide_eq_true (by omega)
   have i0:(0:Int)<(nw:Int):=by omega
   by_cases e6:kd=6
   case neg =>
    have n6:(kd == 6)=false:=by rw [beq_eq_false_iff_ne];exact e6
    go_wp2_with fail
    rw [HV1.out]
    refine (twx_flush1 HT_V1.out (by have:=HLS.out.1;have:=HK16.out;omega) (by have:=HLS.out.2;have:=HK16.out;omega)).mono ?_
    rintro e wa ⟨rfl,ht,hb,hx⟩
    have HT_wa:=Lib.hid ht
    have HQ_wa:Hid (Below w.heap.size w wa):=Lib.hid (HQ_V1.out.trans hb)
    have HB_wa:Hid (Holds wa V.heap.size 32 #[.int .i64 kd,.slice wa0 nw wc,.int .i64 ca,.slice ka nk kc]):=Lib.hid (hx.trans HB_V1.out)
    have HS_wa:=Lib.hid (And.intro HB_wa.out HQ_wa.out)
    clear ht hb hx
    go_wp2_with fail
    refine (twx_flush2 HT_wa.out (by have:=HLS.out.1;have:=HK16.out;omega) (by have:=HLS.out.2;have:=HK16.out;omega)).mono ?_
    rintro e wb ⟨rfl,ht,hb,hx⟩
    have HT_wb:=Lib.hid ht
    have HQ_wb:Hid (Below w.heap.size w wb):=Lib.hid (HQ_wa.out.trans hb)
    have HB_wb:Hid (Holds wb V.heap.size 32 #[.int .i64 kd,.slice wa0 nw wc,.int .i64 ca,.slice ka nk kc]):=Lib.hid (hx.trans HB_wa.out)
    have HS_wb:=Lib.hid (And.intro HB_wb.out HQ_wb.out)
    clear ht hb hx
    have HOZ:=Lib.hid (HOS.out.flush)
    have HNZ:Hid ((s.flush.1).now.length=n):=Lib.hid ((flush_now s).trans HLN.out)
    have HLZ:Hid ((s.flush.1).waits.length≤400*(k+1)∧(s.flush.1).ops≤400*(k+1)):=Lib.hid (by have h1:=jflush_le s;have h2:=HLS.out;omega)
    clear HB_V1 HT_V1 HQ_V1 HT_wa HQ_wa HB_wa HB_wb HS_wa HS_wb
    have HQZ:Hid (Below w.heap.size w wb):=HQ_wb
    go_wp2_with fail
    refine (same2_any wb w.heap.size gd gx _ HT_wb.out.to HOZ.out (by have:=HLZ.out.1;have:=HK16.out;omega)).mono ?_
    rintro e wy ⟨rfl,hty,hby⟩
    have HF:=Lib.hid (PlJ.mk (n:=n) (k:=k+1) hty HOZ.out HNZ.out HLZ.out.1 HLZ.out.2 (HQZ.out.trans (hby.mono HQZ.out.size)))
    clear hty hby
    go_wp2_with fail
    go_roundw
    case rel=>exact ⟨k+1,_,by omega,by go_num,HF.out⟩
    case measure=>simp [intOf];omega
   have HE:Hid (V.alloc (.cells #[.int .i64 6,.slice wa0 nw wc,.int .i64 ca,.slice ka nk kc] 32)=V1):=Lib.hid (by rw [←e6];exact HV1.out)
   obtain ⟨rb,roff,rfl,hrb,hrc0,hrc1,hrrd⟩:=HRW.out.at_ (j:=0) (by rw [HNW.out];exact hw0)
   rw [Nat.zero_mul,Nat.add_zero] at hrc0 hrc1
   have HXO:Hid (Oct1 (wl.getD 0 default).d):=Lib.hid (HOX.out _ (getD_memJ (by rw [HNW.out];exact hw0)))
   generalize wl.getD 0 default=x at *
   obtain ⟨xa,da,dc,xd⟩:=x
   dsimp only at *
   obtain ⟨dn,hdn⟩:∃ d,xd.length=d:=⟨_,rfl⟩
   rw [hdn] at hrc1
   have HDN:=Lib.hid hdn
   have HRB:=Lib.hid hrb
   have HRD:Hid (∀ W,Below w.heap.size w W→Rd .u8 W W.heap.size da dc xd):=Lib.hid fun W hW=>(hrrd.under hW).more hW.size
   clear hdn hrb hrrd
   go_wp2_with fail
   rw [HE.out]
   refine wp_region_noPanic ?_
   refine wp_region_held_drew (S:=fun W=>Holds W V.heap.size 32 #[.int .i64 kd,.slice (some ⟨rb,roff,none⟩) nw wc,.int .i64 ca,.slice ka nk kc]∧Below w.heap.size w W) (by kernel_rfl) (⟨HB_V1.out,HQ_V1.out.drew⟩) (fun hHeld=>?_)
   refine wpAnyH_take (i:=0) (oi:={ dst:=some 115,op:=Op.move (Operand.tmp 6),type:=23,pos:=_,after:=_,guard:=none }) (v:=?_) rfl (by kernel_rfl) (by kernel_rfl) (by kernel_rfl) (fun _ _ _ h=>h) (Or.inl ⟨by rfl,?_⟩) hHeld ?_
   rotate_left 1
   ·(intro W hW;(try dsimp only at hW);go_simp;try with_reducible rfl)
   try simp only [Act.put,List.setIfInBounds_toArray,List.set_cons_zero,List.set_cons_succ]
   refine wpAnyH_take (i:=1) (oi:={ dst:=some 116,op:=Op.fieldAddr 32 (Operand.tmp 9) 1,type:=0,pos:=_,after:=_,guard:=none }) (v:=?_) rfl (by kernel_rfl) (by kernel_rfl) (by kernel_rfl) (fun _ _ _ h=>h) (Or.inl ⟨by rfl,?_⟩) hHeld ?_
   rotate_left 1
   ·(intro W hW;(try dsimp only at hW);go_simp;try with_reducible rfl)
   try simp only [Act.put,List.setIfInBounds_toArray,List.set_cons_zero,List.set_cons_succ]
   refine wpAnyH_take (i:=2) (oi:={ dst:=some 117,op:=Op.load 27 (Operand.tmp 116),type:=27,pos:=_,after:=_,guard:=none }) (v:=?_) rfl (by kernel_rfl) (by kernel_rfl) (by kernel_rfl) (fun _ _ _ h=>h) (Or.inl ⟨by rfl,?_⟩) hHeld ?_
   rotate_left 1
   ·(intro W hW;have hk1:W.cell? ⟨V.heap.size,1,none⟩=some (.slice (some ⟨rb,roff,none⟩) nw wc):=Holds.cell hW.1 1;(try dsimp only at hW);go_simp;try with_reducible rfl)
   try simp only [Act.put,List.setIfInBounds_toArray,List.set_cons_zero,List.set_cons_succ]
   refine wpAnyH_take (i:=3) (oi:={ dst:=some 118,op:=Op.indexAddr 27 (Operand.tmp 117) (Operand.const (Value.int IntKind.i64 0)),type:=0,pos:=_,after:=_,guard:=none }) (v:=?_) rfl (by kernel_rfl) (by kernel_rfl) (by kernel_rfl) (fun _ _ _ h=>h) (Or.inl ⟨by rfl,?_⟩) hHeld ?_
   rotate_left 1
   ·(intro W hW;(try dsimp only at hW);go_simp;try with_reducible rfl)
   try simp only [Act.put,List.setIfInBounds_toArray,List.set_cons_zero,List.set_cons_succ]
   refine wpAnyH_take (i:=4) (oi:={ dst:=some 119,op:=Op.fieldAddr 42 (Operand.tmp 118) 0,type:=0,pos:=_,after:=_,guard:=none }) (v:=?_) rfl (by kernel_rfl) (by kernel_rfl) (by kernel_rfl) (fun _ _ _ h=>h) (Or.inl ⟨by rfl,?_⟩) hHeld ?_
   rotate_left 1
   ·(intro W hW;(try dsimp only at hW);go_simp;try with_reducible rfl)
   try simp only [Act.put,List.setIfInBounds_toArray,List.set_cons_zero,List.set_cons_succ]
   refine wpAnyH_take (i:=5) (oi:={ dst:=some 120,op:=Op.load 3 (Operand.tmp 119),type:=3,pos:=_,after:=_,guard:=none }) (v:=?_) rfl (by kernel_rfl) (by kernel_rfl) (by kernel_rfl) (fun _ _ _ h=>h) (Or.inl ⟨by rfl,?_⟩) hHeld ?_
   rotate_left 1
   ·(intro W hW;have hk2:=(Below.cell (p:=⟨rb,roff,none⟩) hW.2 HRB.out).trans hrc0;(try dsimp only at hW);go_simp;try with_reducible rfl)
   try simp only [Act.put,List.setIfInBounds_toArray,List.set_cons_zero,List.set_cons_succ]
   refine wpAnyH_take (i:=6) (oi:={ dst:=some 121,op:=Op.fieldAddr 32 (Operand.tmp 9) 1,type:=0,pos:=_,after:=_,guard:=none }) (v:=?_) rfl (by kernel_rfl) (by kernel_rfl) (by kernel_rfl) (fun _ _ _ h=>h) (Or.inl ⟨by rfl,?_⟩) hHeld ?_
   rotate_left 1
   ·(intro W hW;(try dsimp only at hW);go_simp;try with_reducible rfl)
   try simp only [Act.put,List.setIfInBounds_toArray,List.set_cons_zero,List.set_cons_succ]
   refine wpAnyH_take (i:=7) (oi:={ dst:=some 122,op:=Op.load 27 (Operand.tmp 121),type:=27,pos:=_,after:=_,guard:=none }) (v:=?_) rfl (by kernel_rfl) (by kernel_rfl) (by kernel_rfl) (fun _ _ _ h=>h) (Or.inl ⟨by rfl,?_⟩) hHeld ?_
   rotate_left 1
   ·(intro W hW;have hk1:W.cell? ⟨V.heap.size,1,none⟩=some (.slice (some ⟨rb,roff,none⟩) nw wc):=Holds.cell hW.1 1;(try dsimp only at hW);go_simp;try with_reducible rfl)
   try simp only [Act.put,List.setIfInBounds_toArray,List.set_cons_zero,List.set_cons_succ]
   refine wpAnyH_take (i:=8) (oi:={ dst:=some 123,op:=Op.indexAddr 27 (Operand.tmp 122) (Operand.const (Value.int IntKind.i64 0)),type:=0,pos:=_,after:=_,guard:=none }) (v:=?_) rfl (by kernel_rfl) (by kernel_rfl) (by kernel_rfl) (fun _ _ _ h=>h) (Or.inl ⟨by rfl,?_⟩) hHeld ?_
   rotate_left 1
   ·(intro W hW;(try dsimp only at hW);go_simp;try with_reducible rfl)
   try simp only [Act.put,List.setIfInBounds_toArray,List.set_cons_zero,List.set_cons_succ]
   refine wpAnyH_take (i:=9) (oi:={ dst:=some 124,op:=Op.fieldAddr 42 (Operand.tmp 123) 1,type:=0,pos:=_,after:=_,guard:=none }) (v:=?_) rfl (by kernel_rfl) (by kernel_rfl) (by kernel_rfl) (fun _ _ _ h=>h) (Or.inl ⟨by rfl,?_⟩) hHeld ?_
   rotate_left 1
   ·(intro W hW;(try dsimp only at hW);go_simp;try with_reducible rfl)
   try simp only [Act.put,List.setIfInBounds_toArray,List.set_cons_zero,List.set_cons_succ]
   refine wpAnyH_take (i:=10) (oi:={ dst:=some 125,op:=Op.load 40 (Operand.tmp 124),type:=40,pos:=_,after:=_,guard:=none }) (v:=?_) rfl (by kernel_rfl) (by kernel_rfl) (by kernel_rfl) (fun _ _ _ h=>h) (Or.inl ⟨by rfl,?_⟩) hHeld ?_
   rotate_left 1
   ·(intro W hW;have hk2:=(Below.cell (p:=⟨rb,roff+1,none⟩) hW.2 HRB.out).trans hrc1;(try dsimp only at hW);go_simp;try with_reducible rfl)
   try simp only [Act.put,List.setIfInBounds_toArray,List.set_cons_zero,List.set_cons_succ]
   refine wpAnyH_take (i:=13) (oi:={ dst:=some 128,op:=Op.move (Operand.tmp 7),type:=25,pos:=_,after:=_,guard:=none }) (v:=?_) rfl (by kernel_rfl) (by kernel_rfl) (by kernel_rfl) (fun _ _ _ h=>h) (Or.inl ⟨by rfl,?_⟩) hHeld ?_
   rotate_left 1
   ·(intro W hW;(try dsimp only at hW);go_simp;try with_reducible rfl)
   try simp only [Act.put,List.setIfInBounds_toArray,List.set_cons_zero,List.set_cons_succ]
   refine wpAnyH_take (i:=14) (oi:={ dst:=some 129,op:=Op.fieldAddr 32 (Operand.tmp 9) 1,type:=0,pos:=_,after:=_,guard:=none }) (v:=?_) rfl (by kernel_rfl) (by kernel_rfl) (by kernel_rfl) (fun _ _ _ h=>h) (Or.inl ⟨by rfl,?_⟩) hHeld ?_
   rotate_left 1
   ·(intro W hW;(try dsimp only at hW);go_simp;try with_reducible rfl)
   try simp only [Act.put,List.setIfInBounds_toArray,List.set_cons_zero,List.set_cons_succ]
   refine wpAnyH_take (i:=15) (oi:={ dst:=some 130,op:=Op.load 27 (Operand.tmp 129),type:=27,pos:=_,after:=_,guard:=none }) (v:=?_) rfl (by kernel_rfl) (by kernel_rfl) (by kernel_rfl) (fun _ _ _ h=>h) (Or.inl ⟨by rfl,?_⟩) hHeld ?_
   rotate_left 1
   ·(intro W hW;have hk1:W.cell? ⟨V.heap.size,1,none⟩=some (.slice (some ⟨rb,roff,none⟩) nw wc):=Holds.cell hW.1 1;(try dsimp only at hW);go_simp;try with_reducible rfl)
   try simp only [Act.put,List.setIfInBounds_toArray,List.set_cons_zero,List.set_cons_succ]
   refine wpAnyH_take (i:=16) (oi:={ dst:=some 131,op:=Op.indexAddr 27 (Operand.tmp 130) (Operand.const (Value.int IntKind.i64 0)),type:=0,pos:=_,after:=_,guard:=none }) (v:=?_) rfl (by kernel_rfl) (by kernel_rfl) (by kernel_rfl) (fun _ _ _ h=>h) (Or.inl ⟨by rfl,?_⟩) hHeld ?_
   rotate_left 1
   ·(intro W hW;(try dsimp only at hW);go_simp;try with_reducible rfl)
   try simp only [Act.put,List.setIfInBounds_toArray,List.set_cons_zero,List.set_cons_succ]
   refine wpAnyH_take (i:=17) (oi:={ dst:=some 132,op:=Op.fieldAddr 42 (Operand.tmp 131) 0,type:=0,pos:=_,after:=_,guard:=none }) (v:=?_) rfl (by kernel_rfl) (by kernel_rfl) (by kernel_rfl) (fun _ _ _ h=>h) (Or.inl ⟨by rfl,?_⟩) hHeld ?_
   rotate_left 1
   ·(intro W hW;(try dsimp only at hW);go_simp;try with_reducible rfl)
   try simp only [Act.put,List.setIfInBounds_toArray,List.set_cons_zero,List.set_cons_succ]
   refine wpAnyH_take (i:=18) (oi:={ dst:=some 133,op:=Op.load 3 (Operand.tmp 132),type:=3,pos:=_,after:=_,guard:=none }) (v:=?_) rfl (by kernel_rfl) (by kernel_rfl) (by kernel_rfl) (fun _ _ _ h=>h) (Or.inl ⟨by rfl,?_⟩) hHeld ?_
   rotate_left 1
   ·(intro W hW;have hk2:=(Below.cell (p:=⟨rb,roff,none⟩) hW.2 HRB.out).trans hrc0;(try dsimp only at hW);go_simp;try with_reducible rfl)
   try simp only [Act.put,List.setIfInBounds_toArray,List.set_cons_zero,List.set_cons_succ]
   refine wpAnyH_take (i:=19) (oi:={ dst:=some 134,op:=Op.fieldAddr 32 (Operand.tmp 9) 1,type:=0,pos:=_,after:=_,guard:=none }) (v:=?_) rfl (by kernel_rfl) (by kernel_rfl) (by kernel_rfl) (fun _ _ _ h=>h) (Or.inl ⟨by rfl,?_⟩) hHeld ?_
   rotate_left 1
   ·(intro W hW;(try dsimp only at hW);go_simp;try with_reducible rfl)
   try simp only [Act.put,List.setIfInBounds_toArray,List.set_cons_zero,List.set_cons_succ]
   refine wpAnyH_take (i:=20) (oi:={ dst:=some 135,op:=Op.load 27 (Operand.tmp 134),type:=27,pos:=_,after:=_,guard:=none }) (v:=?_) rfl (by kernel_rfl) (by kernel_rfl) (by kernel_rfl) (fun _ _ _ h=>h) (Or.inl ⟨by rfl,?_⟩) hHeld ?_
   rotate_left 1
   ·(intro W hW;have hk1:W.cell? ⟨V.heap.size,1,none⟩=some (.slice (some ⟨rb,roff,none⟩) nw wc):=Holds.cell hW.1 1;(try dsimp only at hW);go_simp;try with_reducible rfl)
   try simp only [Act.put,List.setIfInBounds_toArray,List.set_cons_zero,List.set_cons_succ]
   refine wpAnyH_take (i:=21) (oi:={ dst:=some 136,op:=Op.indexAddr 27 (Operand.tmp 135) (Operand.const (Value.int IntKind.i64 0)),type:=0,pos:=_,after:=_,guard:=none }) (v:=?_) rfl (by kernel_rfl) (by kernel_rfl) (by kernel_rfl) (fun _ _ _ h=>h) (Or.inl ⟨by rfl,?_⟩) hHeld ?_
   rotate_left 1
   ·(intro W hW;(try dsimp only at hW);go_simp;try with_reducible rfl)
   try simp only [Act.put,List.setIfInBounds_toArray,List.set_cons_zero,List.set_cons_succ]
   refine wpAnyH_take (i:=22) (oi:={ dst:=some 137,op:=Op.fieldAddr 42 (Operand.tmp 136) 1,type:=0,pos:=_,after:=_,guard:=none }) (v:=?_) rfl (by kernel_rfl) (by kernel_rfl) (by kernel_rfl) (fun _ _ _ h=>h) (Or.inl ⟨by rfl,?_⟩) hHeld ?_
   rotate_left 1
   ·(intro W hW;(try dsimp only at hW);go_simp;try with_reducible rfl)
   try simp only [Act.put,List.setIfInBounds_toArray,List.set_cons_zero,List.set_cons_succ]
   refine wpAnyH_take (i:=23) (oi:={ dst:=some 138,op:=Op.load 40 (Operand.tmp 137),type:=40,pos:=_,after:=_,guard:=none }) (v:=?_) rfl (by kernel_rfl) (by kernel_rfl) (by kernel_rfl) (fun _ _ _ h=>h) (Or.inl ⟨by rfl,?_⟩) hHeld ?_
   rotate_left 1
   ·(intro W hW;have hk2:=(Below.cell (p:=⟨rb,roff+1,none⟩) hW.2 HRB.out).trans hrc1;(try dsimp only at hW);go_simp;try with_reducible rfl)
   try simp only [Act.put,List.setIfInBounds_toArray,List.set_cons_zero,List.set_cons_succ]
   refine wpAnyH_ready (rs:=[11]) (by kernel_rfl) (by simp) ?_
   refine AllReadyH.cons (o:={ dst:=some 126,op:=Op.call { callee:=Callee.value (Operand.func 21),args:=#[Operand.tmp 125],argTypes:=#[40] },type:=40,pos:=_,after:=_,guard:=none }) rfl (fun K hK=>?_) AllReadyH.nil
   go_simp
   refine (sectorR V1.drew da dc dn xd HDN.out (HRD.out V1.drew HQ_V1.out.drew)).mono ?_
   rintro e wa ⟨rfl,_,hr,hb⟩
   have hb':Below V1.heap.size V1 wa:=⟨hb.os,hb.tape,hb.output,hb.size,hb.block⟩
   have HT_wa:=Lib.hid (HT_V1.out.under hb')
   have HQ_wa:Hid (Below w.heap.size w wa):=Lib.hid (HQ_V1.out.trans (hb'.mono HQ_V1.out.size))
   have HB_wa:Hid (Holds wa V.heap.size 32 #[.int .i64 kd,.slice (some ⟨rb,roff,none⟩) nw wc,.int .i64 ca,.slice ka nk kc]):=Lib.hid (Holds.under HB_V1.out hb' (Holds.lt HB_V1.out))
   have HS_wa:=Lib.hid (And.intro HB_wa.out HQ_wa.out)
   have HR_wa:Hid (Rd .u8 wa wa.heap.size (some ⟨V1.heap.size,0,none⟩) 64 (secOf xd)):=Lib.hid hr
   clear hr hb hb'
   go_simp
   refine hK.out _ _ (HS_wa.out) (fun _=>?_)
   clear hK K hHeld
   try simp only [Act.put,List.setIfInBounds_toArray,List.set_cons_zero,List.set_cons_succ]
   have hHeld:(fun W=>Holds W V.heap.size 32 #[.int .i64 kd,.slice (some ⟨rb,roff,none⟩) nw wc,.int .i64 ca,.slice ka nk kc]∧Below w.heap.size w W) wa:=HS_wa.out
   refine wpAnyH_ready (rs:=[12]) (by kernel_rfl) (by simp) ?_
   refine AllReadyH.cons (o:={ dst:=some 127,op:=Op.call { callee:=Callee.value (Operand.func 20),args:=#[Operand.tmp 115,Operand.tmp 120,Operand.tmp 126],argTypes:=#[23,3,40] },type:=33,pos:=_,after:=_,guard:=none }) rfl (fun K hK=>?_) AllReadyH.nil
   go_simp
   refine (twx_write1 HT_wa.out xa _ 64 64 (secOf xd) (secOf_length xd) HR_wa.out (by have:=HLS.out.1;have:=HK16.out;omega) (by have:=HLS.out.2;have:=HK16.out;omega)).mono ?_
   rintro e wb ⟨rfl,ht,hb,hx⟩
   have HT_wb:=Lib.hid ht
   have HQ_wb:Hid (Below w.heap.size w wb):=Lib.hid (HQ_wa.out.trans hb)
   have HB_wb:Hid (Holds wb V.heap.size 32 #[.int .i64 kd,.slice (some ⟨rb,roff,none⟩) nw wc,.int .i64 ca,.slice ka nk kc]):=Lib.hid (hx.trans HB_wa.out)
   have HS_wb:=Lib.hid (And.intro HB_wb.out HQ_wb.out)
   clear ht hb hx
   go_simp
   refine hK.out _ _ (HS_wb.out) (fun _=>?_)
   clear hK K hHeld
   try simp only [Act.put,List.setIfInBounds_toArray,List.set_cons_zero,List.set_cons_succ]
   have hHeld:(fun W=>Holds W V.heap.size 32 #[.int .i64 kd,.slice (some ⟨rb,roff,none⟩) nw wc,.int .i64 ca,.slice ka nk kc]∧Below w.heap.size w W) wb:=HS_wb.out
   refine wpAnyH_ready (rs:=[24]) (by kernel_rfl) (by simp) ?_
   refine AllReadyH.cons (o:={ dst:=some 139,op:=Op.call { callee:=Callee.value (Operand.func 21),args:=#[Operand.tmp 138],argTypes:=#[40] },type:=40,pos:=_,after:=_,guard:=none }) rfl (fun K hK=>?_) AllReadyH.nil
   go_simp
   refine (sectorR wb da dc dn xd HDN.out (HRD.out wb HQ_wb.out)).mono ?_
   rintro e wc_ ⟨rfl,_,hr,hb⟩
   have hb':Below wb.heap.size wb wc_:=⟨hb.os,hb.tape,hb.output,hb.size,hb.block⟩
   have HT_wc_:=Lib.hid (HT_wb.out.under hb')
   have HQ_wc_:Hid (Below w.heap.size w wc_):=Lib.hid (HQ_wb.out.trans (hb'.mono HQ_wb.out.size))
   have HB_wc_:Hid (Holds wc_ V.heap.size 32 #[.int .i64 kd,.slice (some ⟨rb,roff,none⟩) nw wc,.int .i64 ca,.slice ka nk kc]):=Lib.hid (Holds.under HB_wb.out hb' (Holds.lt HB_wb.out))
   have HS_wc_:=Lib.hid (And.intro HB_wc_.out HQ_wc_.out)
   have HR_wc_:Hid (Rd .u8 wc_ wc_.heap.size (some ⟨wb.heap.size,0,none⟩) 64 (secOf xd)):=Lib.hid hr
   clear hr hb hb'
   go_simp
   refine hK.out _ _ (HS_wc_.out) (fun _=>?_)
   clear hK K hHeld
   try simp only [Act.put,List.setIfInBounds_toArray,List.set_cons_zero,List.set_cons_succ]
   have hHeld:(fun W=>Holds W V.heap.size 32 #[.int .i64 kd,.slice (some ⟨rb,roff,none⟩) nw wc,.int .i64 ca,.slice ka nk kc]∧Below w.heap.size w W) wc_:=HS_wc_.out
   refine wpAnyH_ready (rs:=[25]) (by kernel_rfl) (by simp) ?_
   refine AllReadyH.cons (o:={ dst:=some 140,op:=Op.call { callee:=Callee.value (Operand.func 22),args:=#[Operand.tmp 128,Operand.tmp 133,Operand.tmp 139],argTypes:=#[25,3,40] },type:=3,pos:=_,after:=_,guard:=none }) rfl (fun K hK=>?_) AllReadyH.nil
   go_simp
   have hgw:∀ g,blockOf (some (⟨wb.heap.size,0,none⟩:Addr))=some g→g≠gx:=fun g hg=>by
    obtain rfl:wb.heap.size=g:=by simpa [blockOf] using hg
    have:=HT_wb.out.to.pos.2.2
    omega
   refine (twx_write2 HT_wc_.out xa (some ⟨wb.heap.size,0,none⟩) 64 64 (secOf xd) (secOf_length xd) HR_wc_.out hgw (by have:=HLS.out.1;have:=HK16.out;omega) (by have:=HLS.out.2;have:=HK16.out;omega)).mono ?_
   rintro e wd ⟨rfl,ht,hb,hx⟩
   have HT_wd:=Lib.hid ht
   have HQ_wd:Hid (Below w.heap.size w wd):=Lib.hid (HQ_wc_.out.trans hb)
   have HB_wd:Hid (Holds wd V.heap.size 32 #[.int .i64 kd,.slice (some ⟨rb,roff,none⟩) nw wc,.int .i64 ca,.slice ka nk kc]):=Lib.hid (hx.trans HB_wc_.out)
   have HS_wd:=Lib.hid (And.intro HB_wd.out HQ_wd.out)
   clear ht hb hx
   go_simp
   refine hK.out _ _ (HS_wd.out) (fun _=>?_)
   clear hK K hHeld
   try simp only [Act.put,List.setIfInBounds_toArray,List.set_cons_zero,List.set_cons_succ]
   have hHeld:(fun W=>Holds W V.heap.size 32 #[.int .i64 kd,.slice (some ⟨rb,roff,none⟩) nw wc,.int .i64 ca,.slice ka nk kc]∧Below w.heap.size w W) wd:=HS_wd.out
   refine wpAnyH_take (i:=26) (oi:={ dst:=some 141,op:=Op.binOp BinOp.eql 3 (Operand.tmp 127) (Operand.tmp 140) 3,type:=4,pos:=_,after:=_,guard:=none }) (v:=?_) rfl (by kernel_rfl) (by kernel_rfl) (by kernel_rfl) (fun _ _ _ h=>h) (Or.inl ⟨by rfl,?_⟩) hHeld ?_
   rotate_left 1
   ·(intro W hW;(try dsimp only at hW);go_simp;try with_reducible rfl)
   try simp only [Act.put,List.setIfInBounds_toArray,List.set_cons_zero,List.set_cons_succ]
   refine wpAnyH_take (i:=27) (oi:={ dst:=some 10,op:=Op.assign (Operand.tmp 141),type:=4,pos:=_,after:=_,guard:=none }) (v:=?_) rfl (by kernel_rfl) (by kernel_rfl) (by kernel_rfl) (fun _ _ _ h=>h) (Or.inl ⟨by rfl,?_⟩) hHeld ?_
   rotate_left 1
   ·(intro W hW;(try dsimp only at hW);go_simp;try with_reducible rfl)
   try simp only [Act.put,List.setIfInBounds_toArray,List.set_cons_zero,List.set_cons_succ]
   refine wpAnyH_done (by kernel_rfl) ?_ _
   refine NoPanic.normal ?_
   have HOZ:=Lib.hid (HOS.out.write xa (secOf_oct HXO.out))
   have HNZ:Hid (((s.write xa (secOf xd)).1).now.length=n):=Lib.hid ((write_now s xa (secOf xd)).trans HLN.out)
   have HLZ:Hid (((s.write xa (secOf xd)).1).waits.length≤400*(k+1)∧((s.write xa (secOf xd)).1).ops≤400*(k+1)):=Lib.hid (by have h1:=jwrite_le s xa (secOf xd);have h2:=HLS.out;omega)
   clear HB_V1 HT_V1 HQ_V1 HT_wa HQ_wa HB_wa HT_wb HQ_wb HB_wb HT_wc_ HQ_wc_ HB_wc_ HB_wd HS_wa HS_wb HS_wc_ HS_wd
   have HQZ:Hid (Below w.heap.size w wd):=HQ_wd
   go_wp2_with fail
   refine (same2_any wd w.heap.size gd gx _ HT_wd.out.to HOZ.out (by have:=HLZ.out.1;have:=HK16.out;omega)).mono ?_
   rintro e wy ⟨rfl,hty,hby⟩
   have HF:=Lib.hid (PlJ.mk (n:=n) (k:=k+1) hty HOZ.out HNZ.out HLZ.out.1 HLZ.out.2 (HQZ.out.trans (hby.mono HQZ.out.size)))
   clear hty hby
   go_wp2_with fail
   go_roundw
   case rel=>exact ⟨k+1,_,by omega,by go_num,HF.out⟩
   case measure=>simp [intOf];omega
  case neg =>
   obtain rfl:k=m:=by omega
   have hkI:¬ ((k:Int)<(k:Int)):=by omega
   go_wp2_with fail
   refine (known2_any V).mono ?_
   rintro e wy ⟨rfl,hby⟩
   have HQ:=Lib.hid (HP.out.bel.trans (hby.mono HP.out.bel.size))
   clear hby
   go_wp2_with fail
   go_ret
   exact ⟨rfl,HQ.out⟩
theorem law_jplays (w:World) (more:Int) (A:Option Addr) (c m:Nat) (l:List Aj) (hm:l.length=m) (hr:RdAj w A c l) :
  Calls Try.prog 3 #[.int .i64 more,.slice A m c] w fun e w'=>e = .returned (.bool true)∧Below w.heap.size w w':=by
 by_cases h:more < -10∨10<more∨16<m
 ·exact jplays_no w more A c m h
 ·exact jplays_yes w more A c m l hm hr (by omega) (by omega) (by omega)
end Go.Proofs.Ytkmbgbbmhpidkaa
