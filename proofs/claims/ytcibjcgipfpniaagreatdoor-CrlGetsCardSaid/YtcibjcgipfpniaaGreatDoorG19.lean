/- Words and laws for the statement, part 19. -/
import Derived.Test.YtcibjcgipfpniaaGreatDoorG13
import Derived.Test.YtcibjcgipfpniaaGreatDoorG18
namespace Go.Proofs.YtcibjcgipfpniaaGreatDoor
open Go.RowKit
set_option linter.unusedVariables false
set_option linter.unusedSimpArgs false
attribute [local go_sem ↓] Go.wp_at_zero Go.wp_at_succ

set_option maxRecDepth 100000 in
set_option maxHeartbeats 16000000 in
theorem getD'_any (w:World) (t:Lt) (h:Off [] (ThP t) w) (hf:FitG t.t) :
  Calls Tryz.prog 57 #[t.val] w (GetDPost w t.t):=by
 obtain ⟨T,hTT⟩:∃ T,T=t.t:=⟨_,rfl⟩
 rw [←hTT]
 have HTH:=Lib.hid h
 have HTT:=Lib.hid hTT
 have HVAL:Hid (t.val = .agg #[.int .u8 (t.tag:Int),.slice t.ba t.body.length t.bc,.slice t.ka t.kids.length t.kc]):=Lib.hid rfl
 have HF:=Lib.hid hf
 have hko:Off [] (KiP t.ka t.kc t.kids) w:=by
  obtain ⟨tag,ba,bc,body,ka,kc,kids⟩:=t
  exact kids_off h
 have htag:t.tag<256:=by
  obtain ⟨tag,ba,bc,body,ka,kc,kids⟩:=t
  exact (ThP.iff.1 h.at_).1
 have hkl:t.kids.length≤100000:=by have:=hf.1;rw [(t_parts t).2.2,List.length_map] at this;omega
 have HTK:Hid (T.kids=t.kids.map Lt.t∧seqOk T.tag T.body.length 48=seqOk t.tag t.body.length 48):=Lib.hid (by rw [hTT,(t_parts t).1,(t_parts t).2.1,(t_parts t).2.2];exact ⟨rfl,rfl⟩)

 rw [HVAL.out]
 obtain ⟨ks,hks⟩:∃ ks,ks=t.kids:=⟨_,rfl⟩
 have HKS:=Lib.hid hks
 rw [←hks] at hko hkl HTK HVAL ⊢
 clear h hTT hf hks
 generalize t.tag=tag at *
 generalize t.ba=ba at *
 generalize t.bc=bc at *
 generalize t.body.length=n at *
 generalize t.ka=ka at *
 generalize t.kc=kc at *
 obtain ⟨kn,hkn⟩:∃ k,k=ks.length:=⟨_,rfl⟩
 have HKN:=Lib.hid hkn
 rw [←hkn] at hkl HVAL ⊢
 have hH1:=Holds.fresh w 32 #[.int .u8 (tag:Int),.slice ba n bc,.slice ka kn kc]
 have HH1:=Lib.hid hH1
 have HB1:Hid (Below w.heap.size w (w.alloc (.cells #[.int .u8 (tag:Int),.slice ba n bc,.slice ka kn kc] 32))):=Lib.hid ((Below.refl _ _).alloc (Nat.le_refl _) _)
 have hk1:=hko.alloc (.cells #[.int .u8 (tag:Int),.slice ba n bc,.slice ka kn kc] 32)
 have HGS:=Lib.hid (getSeq'_any _ [] tag n bc kn kc 48 ba ka ks hk1 hkn.symm (by omega))
 have c0:=hH1.cell 0
 have c1:=hH1.cell 1
 have c2:=hH1.cell 2
 clear hko hkn hH1 hk1
 rcases hsq:seqOk tag n 48 with _ | _
 case false =>
  have HNO:Hid (∀ l:List Att,dnOk l=true→dnTr l≠T):=Lib.hid fun l _ h2=>by
   have:=(dn_parts h2).1
   rw [HTK.out.2,hsq] at this
   cases this
  rw [hsq] at HGS
  go_enter Tryz.func57,Tryz.ntmps57
  go_wp2_with fail
  refine HGS.out.mono ?_
  rintro e w3 ⟨rfl,hb3⟩
  have HB3:=Lib.hid (HB1.out.trans (hb3.mono HB1.out.size))
  clear hb3 HGS
  go_wp2_with fail
  go_ret2
  exact getD_no HNO.out HB3.out
 rw [hsq] at HGS
 have HSQ:=Lib.hid hsq
 clear hsq
 by_cases h4:4<kn
 case pos =>
  have HNO:Hid (∀ l:List Att,dnOk l=true→dnTr l≠T):=Lib.hid fun l h1 h2=>by
   have h3:=(dn_parts h2).2
   rw [HTK.out.1] at h3
   have h4':=congrArg List.length h3
   rw [List.length_map,List.length_map,←HKN.out] at h4'
   have:=(dnOk_iff.1 h1).2.1
   omega
  have d1:decide ((4:Int)<(kn:Int))=true:=decide_eq_true (by omega)
  go_enter Tryz.func57,Tryz.ntmps57
  go_wp2_with fail
  refine HGS.out.mono ?_
  rintro e w3 ⟨A3,c3,rfl,hk3,hb3⟩
  rw [←HKN.out]
  have HB3:=Lib.hid (HB1.out.trans (hb3.mono HB1.out.size))
  clear hb3 HGS hk3
  go_wp2_with fail
  go_ret2
  exact getD_no HNO.out HB3.out
 have d1:decide ((4:Int)<(kn:Int))=false:=decide_eq_false (by omega)
 go_enter Tryz.func57,Tryz.ntmps57
 go_wp2_with fail
 refine HGS.out.mono ?_
 rintro e w3 ⟨A3,c3,rfl,hk3,hb3⟩
 rw [←HKN.out]
 have HB3:=Lib.hid (HB1.out.trans (hb3.mono HB1.out.size))
 have HH3:=Lib.hid (HH1.out.under hb3 HH1.out.lt)
 have HK3:=Lib.hid hk3
 have hmc:kn≤c3:=by rw [HKN.out];exact hk3.at_.1.1
 have hc63:=hk3.at_.1.2.1
 clear hb3 HGS hk3 c0 c1 c2 d1
 go_wp2_with fail
 go_loopw [6,7] (fun lv iv wr=>∃ (i:Nat) (A:Option Addr) (c:Nat) (l:List Att),i≤kn∧iv = .int .i64 (i:Int)∧lv = .slice A i c∧Ats A c i l wr∧Hid (∀ j,j<i→attrT true (ks.getD j default).t=some (l.getD j default))∧Hid (∀ g,blockOf A=some g→w3.heap.size≤g)∧Below w3.heap.size w3 wr) (fun _ iv _=>kn - (intOf iv).toNat)
 case atStart=>exact ⟨0,none,0,[],by omega,rfl,rfl,Ats.nil _,Lib.hid fun j hj=>by omega,Lib.hid fun g hg=>by simp [blockOf] at hg,Below.refl _ _⟩
 case round =>
  obtain ⟨i,A,c,l,hi,rfl,rfl,hE,HA,HG,hB⟩:=hrel
  have HB:=Lib.hid hB
  have HE:=Lib.hid hE
  clear hB hE
  by_cases hlt:i<kn
  ·have hk4:=HK3.out.under HB.out
   obtain ⟨g,off,rfl,hg,hcs⟩:=KiP.cells (j:=i) hk4 (by rw [←HKN.out];exact hlt)
   obtain ⟨q0,q1,q2⟩:=hcs wr (Below.refl _ _)
   have hti:=KiP.kid hk4 (j:=i) (by rw [←HKN.out];exact hlt)
   have HFI:Hid (FitA (ks.getD i default).t):=Lib.hid (by
    refine HF.out.2 _ ?_
    rw [(t_parts t).2.2,←HKS.out]
    exact List.mem_map_of_mem (getD_mem (by rw [←HKN.out];exact hlt)))
   obtain ⟨q,hq⟩:∃ q,q=ks.getD i default:=⟨_,rfl⟩
   rw [←hq] at q0 q1 q2 hti HFI
   have HQ:=Lib.hid hq
   clear hq hcs hk4
   have hq1:Below wr.heap.size wr wr:=Below.refl _ _
   have HON:Hid (Calls Tryz.prog 99 #[.agg #[.int .u8 (q.tag:Int),.slice q.ba q.body.length q.bc,.slice q.ka q.kids.length q.kc]] wr (AttrP wr (attrT true q.t))):=Lib.hid (attr'_any wr q (hti.under hq1) HFI.out)
   have HQ1:=Lib.hid hq1
   clear hq1 hti HFI
   generalize q.tag=qt at *
   generalize q.ba=qa at *
   generalize q.bc=qc at *
   generalize q.body.length=qn at *
   generalize q.ka=qk at *
   generalize q.kids.length=qm at *
   generalize q.kc=qd at *
   rcases hot:attrT true q.t with _ | ev
   ·have HNO:Hid (∀ l:List Att,dnOk l=true→dnTr l≠T):=Lib.hid fun l2 h1 h2=>by
     have h3:=(dn_parts h2).2
     rw [HTK.out.1] at h3
     have h4':(ks.map Lt.t).getD i default=(l2.map atTr).getD i default:=by rw [h3]
     have hl2:i<l2.length:=by have h5:=congrArg List.length h3;rw [List.length_map,List.length_map,←HKN.out] at h5;omega
     rw [lt_at (by rw [←HKN.out];exact hlt),show (l2.map atTr).getD i default=atTr (l2.getD i default) by simp [List.getD,hl2]] at h4'
     rw [HQ.out,h4',attr_back ((dnOk_iff.1 h1).2.2 i hl2)] at hot
     cases hot
    rw [hot] at HON
    clear hot
    go_wp2_with fail
    refine HON.out.mono ?_
    rintro e w5 ⟨k0,s0,rfl,hb5⟩
    have HB5:=Lib.hid (HB3.out.trans ((HB.out.trans ((HQ1.out.trans (hb5.mono HQ1.out.size)).mono HB.out.size)).mono HB3.out.size))
    have HB6:Hid (Below w.heap.size w (w5.alloc (.cells #[.int .i64 k0,.string s0] 83))):=Lib.hid (HB5.out.alloc HB5.out.size _)
    clear hb5 q0 q1 q2 HON
    go_wp2_with fail
    go_ret2
    exact getD_no HNO.out HB6.out
   ·have HEV:=Lib.hid hot
    rw [hot] at HON
    clear hot
    go_wp2_with fail
    refine HON.out.mono ?_
    rintro e w5 ⟨rfl,hb5⟩
    have hb15:=HQ1.out.trans (hb5.mono HQ1.out.size)
    obtain ⟨k0,s0⟩:=ev
    dsimp only
    have hH6:=Holds.fresh w5 83 #[.int .i64 k0,.string s0]
    have hq6:Below w5.heap.size w5 (w5.alloc (.cells #[.int .i64 k0,.string s0] 83)):=(Below.refl _ _).alloc (Nat.le_refl _) _
    have hq7:Below (w5.alloc (.cells #[.int .i64 k0,.string s0] 83)).heap.size (w5.alloc (.cells #[.int .i64 k0,.string s0] 83)) ((w5.alloc (.cells #[.int .i64 k0,.string s0] 83)).alloc (.cells #[.int .i64 k0,.string s0] 83)):=(Below.refl _ _).alloc (Nat.le_refl _) _
    have hq67:=hq6.trans (hq7.mono hq6.size)
    have hb17:=hb15.trans (hq67.mono hb15.size)
    have HB7:=Lib.hid (HB.out.trans (hb17.mono HB.out.size))
    have HE7:=Lib.hid (HE.out.under hb17)
    have hfx:Holds ((w5.alloc (.cells #[.int .i64 k0,.string s0] 83)).alloc (.cells #[.int .i64 k0,.string s0] 83)) (w5.alloc (.cells #[.int .i64 k0,.string s0] 83)).heap.size 83 [.int .i64 k0,.string s0].toArray:=Holds.fresh _ _ _
    have hs6:(w5.alloc (.cells #[.int .i64 k0,.string s0] 83)).heap.size=w5.heap.size+1:=by simp
    rw [hs6] at hfx
    have HFX:=Lib.hid hfx
    have HOW:=Lib.hid HE7.out.own
    have a0:=hH6.cell 0
    have a1:=hH6.cell 1
    clear hb5 hb15 hq6 hq7 hq67 hb17 hH6 hfx hs6 q0 q1 q2 HON
    go_wp2_with (first | (at_builtin;refine wpList_pushV _ rfl (.tmp 38) (.tmp 40) 22 rfl 83 _ 2 24 Tryz.underlying22 info_att rfl (by omega) (by omega) rfl HOW.out (cs:=[.int .i64 k0,.string s0]) rfl rfl oneA HFX.out (by omega) ?_;intro g9 c9 W9 ho9 hg9 hat9 hlt9))
    have HE9:=Lib.hid (Ats.push (a:=⟨k0,s0⟩) HE7.out.len ho9)
    have HB9:=Lib.hid (below_own HB7.out hg9 HG.out (Nat.le_refl _))
    have HG9:Hid (∀ g,blockOf (some (⟨g9,0,none⟩:Addr))=some g→w3.heap.size≤g):=Lib.hid fun g hg=>by
     rcases hat9 with h | h
     ·exact HG.out g (h.trans (by simpa [blockOf] using hg))
     ·have e:g9=g:=by simpa [blockOf] using hg
      have:=HB7.out.size
      omega
    have HA9:Hid (∀ j,j<i+1→attrT true (ks.getD j default).t=some ((l ++ [(⟨k0,s0⟩:Att)]).getD j default)):=Lib.hid fun j hj=>by
     have hl:=HE.out.len
     rcases Nat.lt_or_ge j i with h3 | h3
     ·rw [HA.out j h3]
      simp [List.getD,List.getElem?_append_left (show j<l.length by omega)]
     ·obtain rfl:j=i:=by omega
      rw [←HQ.out,HEV.out]
      simp [List.getD,hl]
    clear ho9 hg9 hat9 HOW HFX HE7
    go_wp2_with fail
    go_roundw
    case rel=>exact ⟨i+1,_,_,_,by omega,by go_num,rfl,HE9.out,HA9,HG9,HB9.out⟩
    case measure=>simp [intOf];omega
  ·obtain rfl:i=kn:=by omega
   have HLL:Hid (l.length=i):=Lib.hid HE.out.len
   have HRD:Hid (∀ l2:List Att,dnOk l2=true→dnTr l2=T→l=l2):=Lib.hid fun l2 h1 h2=>by
    have h3:=(dn_parts h2).2
    rw [HTK.out.1] at h3
    refine dn_read (s:=true) h1 h3 (by rw [List.length_map,HLL.out,HKN.out]) fun j hj=>?_
    rw [List.length_map,←HKN.out] at hj
    rw [lt_at (by rw [←HKN.out];exact hj),HA.out j hj]
   have HBW:=Lib.hid (HB3.out.trans (HB.out.mono HB3.out.size))
   have HSZ:Hid (∀ x∈l,(bts x.s).length≤64):=Lib.hid fun x hx=>by
    obtain ⟨j,hj,rfl⟩:=List.getElem_of_mem hx
    have h1:=attr_len (HA.out j (by rw [←HLL.out];exact hj))
    have h2:l.getD j default=l[j]:=by simp [List.getD,hj]
    rwa [h2] at h1
   have hxp:=HE.out.rd
   have HXP:Hid (∀ W,Below wr.heap.size wr W→RdA W W.heap.size A c l):=Lib.hid fun W hW=>(hxp.under hW).more hW.size
   have HIS:Hid (∀ W,Below wr.heap.size wr W→Calls Tryz.prog 24 #[.slice A i c] W fun e w'=>e = .returned (.bool (dnOk l))∧Below W.heap.size W w'):=Lib.hid fun W hW=>isDn'_any W _ A c i l HLL.out (HXP.out W hW) (Nat.le_refl _)
   clear hxp
   rcases hxi:dnOk l with _ | _
   ·have HNO:Hid (∀ l2:List Att,dnOk l2=true→dnTr l2≠T):=Lib.hid fun l2 h1 h2=>by
     have h3:=HRD.out l2 h1 h2
     rw [h3,h1] at hxi
     cases hxi
    rw [hxi] at HIS
    clear hxi
    go_wp2_with fail
    refine wp_region_noPanic ?_
    refine wp_region_held_drew (S:=fun W=>Below wr.heap.size wr W) (by kernel_rfl) (Below.refl _ wr).drew (fun hHeld=>?_)
    refine wpAnyH_take (i:=0) (oi:={ dst:=some 42,op:=Op.move (Operand.tmp 6),type:=22,pos:=_,after:=_,guard:=none }) (v:=?_) rfl (by kernel_rfl) (by kernel_rfl) (by kernel_rfl) (fun _ _ _ h=>h) (Or.inl ⟨by rfl,?_⟩) hHeld ?_
    rotate_left 1
    ·(intro W hW;(try dsimp only at hW);go_simp;try with_reducible rfl)
    try simp only [Act.put,List.setIfInBounds_toArray,List.set_cons_zero,List.set_cons_succ]
    refine wpAnyH_ready (rs:=[1]) (by kernel_rfl) (by simp) ?_
    refine AllReadyH.cons (o:={ dst:=some 43,op:=Op.call { callee:=Callee.value (Operand.func 24),args:=#[Operand.tmp 42],argTypes:=#[22] },type:=4,pos:=_,after:=_,guard:=none }) rfl (fun K hK=>?_) AllReadyH.nil
    go_simp
    refine (HIS.out _ ((Below.refl _ wr).drew)).mono ?_
    rintro e w4 ⟨rfl,hb4⟩
    have b4:Hid (Below wr.heap.size wr w4):=Lib.hid (((Below.refl _ wr).drew).trans hb4)
    clear hb4
    go_simp
    refine hK.out _ _ (b4.out) (fun _=>?_)
    clear hK K hHeld
    try simp only [Act.put,List.setIfInBounds_toArray,List.set_cons_zero,List.set_cons_succ]
    refine wpAnyH_strong (S':=fun W=>Below w4.heap.size w4 W) (fun W hW=>b4.out.trans (hW.mono b4.out.size)) _ _ _ _ ?_
    have hHeld:(fun W=>Below w4.heap.size w4 W) w4:=Below.refl _ _
    refine wpAnyH_take (i:=2) (oi:={ dst:=some 44,op:=Op.unOp UnOp.not 4 (Operand.tmp 43),type:=4,pos:=_,after:=_,guard:=none }) (v:=?_) rfl (by kernel_rfl) (by kernel_rfl) (by kernel_rfl) (fun _ _ _ h=>h) (Or.inl ⟨by rfl,?_⟩) hHeld ?_
    rotate_left 1
    ·(intro W hW;(try dsimp only at hW);go_simp;try with_reducible rfl)
    try simp only [Act.put,List.setIfInBounds_toArray,List.set_cons_zero,List.set_cons_succ]
    refine wpAnyH_take (i:=3) (oi:={ dst:=some 45,op:=Op.move (Operand.tmp 44),type:=4,pos:=_,after:=_,guard:=none }) (v:=?_) rfl (by kernel_rfl) (by kernel_rfl) (by kernel_rfl) (fun _ _ _ h=>h) (Or.inl ⟨by rfl,?_⟩) hHeld ?_
    rotate_left 1
    ·(intro W hW;(try dsimp only at hW);go_simp;try with_reducible rfl)
    try simp only [Act.put,List.setIfInBounds_toArray,List.set_cons_zero,List.set_cons_succ]
    refine wpAnyH_take (i:=4) (oi:={ dst:=some 46,op:=Op.move (Operand.tmp 6),type:=22,pos:=_,after:=_,guard:=some (3,false) }) (v:=undef) rfl (by kernel_rfl) (by kernel_rfl) (by kernel_rfl) (fun _ _ _ h=>h) (Or.inr ⟨by rfl,rfl⟩) hHeld ?_
    try simp only [Act.put,List.setIfInBounds_toArray,List.set_cons_zero,List.set_cons_succ]
    refine wpAnyH_take (i:=5) (oi:={ dst:=some 47,op:=Op.call { callee:=Callee.value (Operand.func 43),args:=#[Operand.tmp 46],argTypes:=#[22] },type:=32,pos:=_,after:=_,guard:=some (3,false) }) (v:=undef) rfl (by kernel_rfl) (by kernel_rfl) (by kernel_rfl) (fun _ _ _ h=>h) (Or.inr ⟨by rfl,rfl⟩) hHeld ?_
    try simp only [Act.put,List.setIfInBounds_toArray,List.set_cons_zero,List.set_cons_succ]
    refine wpAnyH_take (i:=6) (oi:={ dst:=some 48,op:=Op.load 32 (Operand.tmp 1),type:=32,pos:=_,after:=_,guard:=some (3,false) }) (v:=undef) rfl (by kernel_rfl) (by kernel_rfl) (by kernel_rfl) (fun _ _ _ h=>h) (Or.inr ⟨by rfl,rfl⟩) hHeld ?_
    try simp only [Act.put,List.setIfInBounds_toArray,List.set_cons_zero,List.set_cons_succ]
    refine wpAnyH_take (i:=7) (oi:={ dst:=some 49,op:=Op.call { callee:=Callee.value (Operand.func 10),args:=#[Operand.tmp 47,Operand.tmp 48],argTypes:=#[32,32] },type:=4,pos:=_,after:=_,guard:=some (3,false) }) (v:=undef) rfl (by kernel_rfl) (by kernel_rfl) (by kernel_rfl) (fun _ _ _ h=>h) (Or.inr ⟨by rfl,rfl⟩) hHeld ?_
    try simp only [Act.put,List.setIfInBounds_toArray,List.set_cons_zero,List.set_cons_succ]
    refine wpAnyH_take (i:=8) (oi:={ dst:=some 50,op:=Op.unOp UnOp.not 4 (Operand.tmp 49),type:=4,pos:=_,after:=_,guard:=some (3,false) }) (v:=undef) rfl (by kernel_rfl) (by kernel_rfl) (by kernel_rfl) (fun _ _ _ h=>h) (Or.inr ⟨by rfl,rfl⟩) hHeld ?_
    try simp only [Act.put,List.setIfInBounds_toArray,List.set_cons_zero,List.set_cons_succ]
    refine wpAnyH_take (i:=9) (oi:={ dst:=some 51,op:=Op.pick (Operand.tmp 45) (Operand.const (Value.bool true)) (Operand.tmp 50),type:=4,pos:=_,after:=_,guard:=none }) (v:=?_) rfl (by kernel_rfl) (by kernel_rfl) (by kernel_rfl) (fun _ _ _ h=>h) (Or.inl ⟨by rfl,?_⟩) hHeld ?_
    rotate_left 1
    ·(intro W hW;(try dsimp only at hW);go_simp;try with_reducible rfl)
    try simp only [Act.put,List.setIfInBounds_toArray,List.set_cons_zero,List.set_cons_succ]
    refine wpAnyH_done (by kernel_rfl) ?_ _
    refine NoPanic.normal ?_
    go_wp2_with fail
    go_ret2
    exact getD_no HNO.out (HBW.out.trans (b4.out.mono HBW.out.size))
   ·have HXI:=Lib.hid hxi
    have HND:Hid (∀ W,Below wr.heap.size wr W→Calls Tryz.prog 43 #[.slice A i c] W (MadeT W [] (dnTr l))):=Lib.hid fun W hW=>dnNode'_any W [] _ A c i l HLL.out (HXP.out W hW) (Nat.le_refl _) hxi (by simp)
    rw [hxi] at HIS
    clear hxi
    have HZ:Hid (∀ W,Below wr.heap.size wr W→W.cell? ⟨w.heap.size,0,none⟩=some (.int .u8 (tag:Int))∧W.cell? ⟨w.heap.size,1,none⟩=some (.slice ba n bc)∧W.cell? ⟨w.heap.size,2,none⟩=some (.slice ka i kc)):=Lib.hid fun W hW=>by
     have h:=(HH3.out.under HB.out HH3.out.lt).under hW (by have:=HH3.out.lt;have:=HB.out.size;omega)
     exact ⟨h.cell 0,h.cell 1,h.cell 2⟩
    by_cases hte:dnTr l=T
    ·have HS:Hid (∀ (W:World) (lt:Lt),Below wr.heap.size wr W→lt.t=dnTr l→Off [] (ThP lt) W→Calls Tryz.prog 10 #[lt.val,.agg #[.int .u8 (tag:Int),.slice ba n bc,.slice ka i kc]] W fun e w'=>e = .returned (.bool true)∧Below W.heap.size W w'):=Lib.hid fun W lt hW hl ho=>by
      rw [←HVAL.out]
      exact same'_any lt t W W.heap.size ho.at_ (HTH.out.under (HBW.out.trans (hW.mono HBW.out.size))).at_ (Nat.le_refl _) true (by rw [hl,hte,HTT.out];simp)
     have HTE:=Lib.hid hte
     clear hte
     go_wp2_with fail
     refine wp_region_noPanic ?_
     refine wp_region_held_drew (S:=fun W=>Below wr.heap.size wr W) (by kernel_rfl) (Below.refl _ wr).drew (fun hHeld=>?_)
     refine wpAnyH_take (i:=0) (oi:={ dst:=some 42,op:=Op.move (Operand.tmp 6),type:=22,pos:=_,after:=_,guard:=none }) (v:=?_) rfl (by kernel_rfl) (by kernel_rfl) (by kernel_rfl) (fun _ _ _ h=>h) (Or.inl ⟨by rfl,?_⟩) hHeld ?_
     rotate_left 1
     ·(intro W hW;(try dsimp only at hW);go_simp;try with_reducible rfl)
     try simp only [Act.put,List.setIfInBounds_toArray,List.set_cons_zero,List.set_cons_succ]
     refine wpAnyH_ready (rs:=[1]) (by kernel_rfl) (by simp) ?_
     refine AllReadyH.cons (o:={ dst:=some 43,op:=Op.call { callee:=Callee.value (Operand.func 24),args:=#[Operand.tmp 42],argTypes:=#[22] },type:=4,pos:=_,after:=_,guard:=none }) rfl (fun K hK=>?_) AllReadyH.nil
     go_simp
     refine (HIS.out _ ((Below.refl _ wr).drew)).mono ?_
     rintro e w4 ⟨rfl,hb4⟩
     have b4:Hid (Below wr.heap.size wr w4):=Lib.hid (((Below.refl _ wr).drew).trans hb4)
     clear hb4
     go_simp
     refine hK.out _ _ (b4.out) (fun _=>?_)
     clear hK K hHeld
     try simp only [Act.put,List.setIfInBounds_toArray,List.set_cons_zero,List.set_cons_succ]
     refine wpAnyH_strong (S':=fun W=>Below w4.heap.size w4 W) (fun W hW=>b4.out.trans (hW.mono b4.out.size)) _ _ _ _ ?_
     have hHeld:(fun W=>Below w4.heap.size w4 W) w4:=Below.refl _ _
     refine wpAnyH_take (i:=2) (oi:={ dst:=some 44,op:=Op.unOp UnOp.not 4 (Operand.tmp 43),type:=4,pos:=_,after:=_,guard:=none }) (v:=?_) rfl (by kernel_rfl) (by kernel_rfl) (by kernel_rfl) (fun _ _ _ h=>h) (Or.inl ⟨by rfl,?_⟩) hHeld ?_
     rotate_left 1
     ·(intro W hW;(try dsimp only at hW);go_simp;try with_reducible rfl)
     try simp only [Act.put,List.setIfInBounds_toArray,List.set_cons_zero,List.set_cons_succ]
     refine wpAnyH_take (i:=3) (oi:={ dst:=some 45,op:=Op.move (Operand.tmp 44),type:=4,pos:=_,after:=_,guard:=none }) (v:=?_) rfl (by kernel_rfl) (by kernel_rfl) (by kernel_rfl) (fun _ _ _ h=>h) (Or.inl ⟨by rfl,?_⟩) hHeld ?_
     rotate_left 1
     ·(intro W hW;(try dsimp only at hW);go_simp;try with_reducible rfl)
     try simp only [Act.put,List.setIfInBounds_toArray,List.set_cons_zero,List.set_cons_succ]
     refine wpAnyH_take (i:=4) (oi:={ dst:=some 46,op:=Op.move (Operand.tmp 6),type:=22,pos:=_,after:=_,guard:=some (3,false) }) (v:=?_) rfl (by kernel_rfl) (by kernel_rfl) (by kernel_rfl) (fun _ _ _ h=>h) (Or.inl ⟨by rfl,?_⟩) hHeld ?_
     rotate_left 1
     ·(intro W hW;(try dsimp only at hW);go_simp;try with_reducible rfl)
     try simp only [Act.put,List.setIfInBounds_toArray,List.set_cons_zero,List.set_cons_succ]
     refine wpAnyH_take (i:=6) (oi:={ dst:=some 48,op:=Op.load 32 (Operand.tmp 1),type:=32,pos:=_,after:=_,guard:=some (3,false) }) (v:=?_) rfl (by kernel_rfl) (by kernel_rfl) (by kernel_rfl) (fun _ _ _ h=>h) (Or.inl ⟨by rfl,?_⟩) hHeld ?_
     rotate_left 1
     ·(intro W hW;obtain ⟨k0,k1,k2⟩:=HZ.out W (b4.out.trans (hW.mono b4.out.size));(try dsimp only at hW);go_simp;try with_reducible rfl)
     try simp only [Act.put,List.setIfInBounds_toArray,List.set_cons_zero,List.set_cons_succ]
     refine wpAnyH_ready (rs:=[5]) (by kernel_rfl) (by simp) ?_
     refine AllReadyH.cons (o:={ dst:=some 47,op:=Op.call { callee:=Callee.value (Operand.func 43),args:=#[Operand.tmp 46],argTypes:=#[22] },type:=32,pos:=_,after:=_,guard:=some (3,false) }) rfl (fun K hK=>?_) AllReadyH.nil
     go_simp
     refine (HND.out _ b4.out).mono ?_
     rintro e w5 hm5
     obtain ⟨lt5,pt,pa,pn,pc,pk,pm,pd,rfl,h65,hT5,hO5,hb5⟩:=MadeT.six hm5
     have b5:Hid (Below w4.heap.size w4 w5):=Lib.hid hb5
     have H5:=Lib.hid (b4.out.trans (hb5.mono b4.out.size))
     have HSA:=Lib.hid (HS.out w5 lt5 H5.out hT5 hO5)
     rw [h65.val] at HSA
     clear hb5 hm5 hT5 hO5 h65
     go_simp
     refine hK.out _ _ (b5.out) (fun _=>?_)
     clear hK K hHeld
     try simp only [Act.put,List.setIfInBounds_toArray,List.set_cons_zero,List.set_cons_succ]
     refine wpAnyH_strong (S':=fun W=>Below w5.heap.size w5 W) (fun W hW=>b5.out.trans (hW.mono b5.out.size)) _ _ _ _ ?_
     have hHeld:(fun W=>Below w5.heap.size w5 W) w5:=Below.refl _ _
     refine wpAnyH_ready (rs:=[7]) (by kernel_rfl) (by simp) ?_
     refine AllReadyH.cons (o:={ dst:=some 49,op:=Op.call { callee:=Callee.value (Operand.func 10),args:=#[Operand.tmp 47,Operand.tmp 48],argTypes:=#[32,32] },type:=4,pos:=_,after:=_,guard:=some (3,false) }) rfl (fun K hK=>?_) AllReadyH.nil
     go_simp
     refine HSA.out.mono ?_
     rintro e w7 ⟨rfl,hb7⟩
     have b7:Hid (Below w5.heap.size w5 w7):=Lib.hid hb7
     have H7:=Lib.hid (H5.out.trans (hb7.mono H5.out.size))
     clear hb7
     go_simp
     refine hK.out _ _ (b7.out) (fun _=>?_)
     clear hK K hHeld
     try simp only [Act.put,List.setIfInBounds_toArray,List.set_cons_zero,List.set_cons_succ]
     refine wpAnyH_strong (S':=fun W=>Below w7.heap.size w7 W) (fun W hW=>b7.out.trans (hW.mono b7.out.size)) _ _ _ _ ?_
     have hHeld:(fun W=>Below w7.heap.size w7 W) w7:=Below.refl _ _
     refine wpAnyH_take (i:=8) (oi:={ dst:=some 50,op:=Op.unOp UnOp.not 4 (Operand.tmp 49),type:=4,pos:=_,after:=_,guard:=some (3,false) }) (v:=?_) rfl (by kernel_rfl) (by kernel_rfl) (by kernel_rfl) (fun _ _ _ h=>h) (Or.inl ⟨by rfl,?_⟩) hHeld ?_
     rotate_left 1
     ·(intro W hW;(try dsimp only at hW);go_simp;try with_reducible rfl)
     try simp only [Act.put,List.setIfInBounds_toArray,List.set_cons_zero,List.set_cons_succ]
     refine wpAnyH_take (i:=9) (oi:={ dst:=some 51,op:=Op.pick (Operand.tmp 45) (Operand.const (Value.bool true)) (Operand.tmp 50),type:=4,pos:=_,after:=_,guard:=none }) (v:=?_) rfl (by kernel_rfl) (by kernel_rfl) (by kernel_rfl) (fun _ _ _ h=>h) (Or.inl ⟨by rfl,?_⟩) hHeld ?_
     rotate_left 1
     ·(intro W hW;(try dsimp only at hW);go_simp;try with_reducible rfl)
     try simp only [Act.put,List.setIfInBounds_toArray,List.set_cons_zero,List.set_cons_succ]
     refine wpAnyH_done (by kernel_rfl) ?_ _
     refine NoPanic.normal ?_
     go_wp2_with fail
     go_ret2
     exact .inl ⟨A,c,l,by rw [HLL.out];rfl,HXP.out _ H7.out,HXI.out,HTE.out,HBW.out.trans (H7.out.mono HBW.out.size)⟩
    ·have HS:Hid (∀ (W:World) (lt:Lt),Below wr.heap.size wr W→lt.t=dnTr l→Off [] (ThP lt) W→Calls Tryz.prog 10 #[lt.val,.agg #[.int .u8 (tag:Int),.slice ba n bc,.slice ka i kc]] W fun e w'=>e = .returned (.bool false)∧Below W.heap.size W w'):=Lib.hid fun W lt hW hl ho=>by
      rw [←HVAL.out]
      exact same'_any lt t W W.heap.size ho.at_ (HTH.out.under (HBW.out.trans (hW.mono HBW.out.size))).at_ (Nat.le_refl _) false (by rw [hl,←HTT.out];simp [hte])
     have HNO:Hid (∀ l2:List Att,dnOk l2=true→dnTr l2≠T):=Lib.hid fun l2 h1 h2=>by
      have h3:=HRD.out l2 h1 h2
      exact hte (by rw [h3];exact h2)
     clear hte
     go_wp2_with fail
     refine wp_region_noPanic ?_
     refine wp_region_held_drew (S:=fun W=>Below wr.heap.size wr W) (by kernel_rfl) (Below.refl _ wr).drew (fun hHeld=>?_)
     refine wpAnyH_take (i:=0) (oi:={ dst:=some 42,op:=Op.move (Operand.tmp 6),type:=22,pos:=_,after:=_,guard:=none }) (v:=?_) rfl (by kernel_rfl) (by kernel_rfl) (by kernel_rfl) (fun _ _ _ h=>h) (Or.inl ⟨by rfl,?_⟩) hHeld ?_
     rotate_left 1
     ·(intro W hW;(try dsimp only at hW);go_simp;try with_reducible rfl)
     try simp only [Act.put,List.setIfInBounds_toArray,List.set_cons_zero,List.set_cons_succ]
     refine wpAnyH_ready (rs:=[1]) (by kernel_rfl) (by simp) ?_
     refine AllReadyH.cons (o:={ dst:=some 43,op:=Op.call { callee:=Callee.value (Operand.func 24),args:=#[Operand.tmp 42],argTypes:=#[22] },type:=4,pos:=_,after:=_,guard:=none }) rfl (fun K hK=>?_) AllReadyH.nil
     go_simp
     refine (HIS.out _ ((Below.refl _ wr).drew)).mono ?_
     rintro e w4 ⟨rfl,hb4⟩
     have b4:Hid (Below wr.heap.size wr w4):=Lib.hid (((Below.refl _ wr).drew).trans hb4)
     clear hb4
     go_simp
     refine hK.out _ _ (b4.out) (fun _=>?_)
     clear hK K hHeld
     try simp only [Act.put,List.setIfInBounds_toArray,List.set_cons_zero,List.set_cons_succ]
     refine wpAnyH_strong (S':=fun W=>Below w4.heap.size w4 W) (fun W hW=>b4.out.trans (hW.mono b4.out.size)) _ _ _ _ ?_
     have hHeld:(fun W=>Below w4.heap.size w4 W) w4:=Below.refl _ _
     refine wpAnyH_take (i:=2) (oi:={ dst:=some 44,op:=Op.unOp UnOp.not 4 (Operand.tmp 43),type:=4,pos:=_,after:=_,guard:=none }) (v:=?_) rfl (by kernel_rfl) (by kernel_rfl) (by kernel_rfl) (fun _ _ _ h=>h) (Or.inl ⟨by rfl,?_⟩) hHeld ?_
     rotate_left 1
     ·(intro W hW;(try dsimp only at hW);go_simp;try with_reducible rfl)
     try simp only [Act.put,List.setIfInBounds_toArray,List.set_cons_zero,List.set_cons_succ]
     refine wpAnyH_take (i:=3) (oi:={ dst:=some 45,op:=Op.move (Operand.tmp 44),type:=4,pos:=_,after:=_,guard:=none }) (v:=?_) rfl (by kernel_rfl) (by kernel_rfl) (by kernel_rfl) (fun _ _ _ h=>h) (Or.inl ⟨by rfl,?_⟩) hHeld ?_
     rotate_left 1
     ·(intro W hW;(try dsimp only at hW);go_simp;try with_reducible rfl)
     try simp only [Act.put,List.setIfInBounds_toArray,List.set_cons_zero,List.set_cons_succ]
     refine wpAnyH_take (i:=4) (oi:={ dst:=some 46,op:=Op.move (Operand.tmp 6),type:=22,pos:=_,after:=_,guard:=some (3,false) }) (v:=?_) rfl (by kernel_rfl) (by kernel_rfl) (by kernel_rfl) (fun _ _ _ h=>h) (Or.inl ⟨by rfl,?_⟩) hHeld ?_
     rotate_left 1
     ·(intro W hW;(try dsimp only at hW);go_simp;try with_reducible rfl)
     try simp only [Act.put,List.setIfInBounds_toArray,List.set_cons_zero,List.set_cons_succ]
     refine wpAnyH_take (i:=6) (oi:={ dst:=some 48,op:=Op.load 32 (Operand.tmp 1),type:=32,pos:=_,after:=_,guard:=some (3,false) }) (v:=?_) rfl (by kernel_rfl) (by kernel_rfl) (by kernel_rfl) (fun _ _ _ h=>h) (Or.inl ⟨by rfl,?_⟩) hHeld ?_
     rotate_left 1
     ·(intro W hW;obtain ⟨k0,k1,k2⟩:=HZ.out W (b4.out.trans (hW.mono b4.out.size));(try dsimp only at hW);go_simp;try with_reducible rfl)
     try simp only [Act.put,List.setIfInBounds_toArray,List.set_cons_zero,List.set_cons_succ]
     refine wpAnyH_ready (rs:=[5]) (by kernel_rfl) (by simp) ?_
     refine AllReadyH.cons (o:={ dst:=some 47,op:=Op.call { callee:=Callee.value (Operand.func 43),args:=#[Operand.tmp 46],argTypes:=#[22] },type:=32,pos:=_,after:=_,guard:=some (3,false) }) rfl (fun K hK=>?_) AllReadyH.nil
     go_simp
     refine (HND.out _ b4.out).mono ?_
     rintro e w5 hm5
     obtain ⟨lt5,pt,pa,pn,pc,pk,pm,pd,rfl,h65,hT5,hO5,hb5⟩:=MadeT.six hm5
     have b5:Hid (Below w4.heap.size w4 w5):=Lib.hid hb5
     have H5:=Lib.hid (b4.out.trans (hb5.mono b4.out.size))
     have HSA:=Lib.hid (HS.out w5 lt5 H5.out hT5 hO5)
     rw [h65.val] at HSA
     clear hb5 hm5 hT5 hO5 h65
     go_simp
     refine hK.out _ _ (b5.out) (fun _=>?_)
     clear hK K hHeld
     try simp only [Act.put,List.setIfInBounds_toArray,List.set_cons_zero,List.set_cons_succ]
     refine wpAnyH_strong (S':=fun W=>Below w5.heap.size w5 W) (fun W hW=>b5.out.trans (hW.mono b5.out.size)) _ _ _ _ ?_
     have hHeld:(fun W=>Below w5.heap.size w5 W) w5:=Below.refl _ _
     refine wpAnyH_ready (rs:=[7]) (by kernel_rfl) (by simp) ?_
     refine AllReadyH.cons (o:={ dst:=some 49,op:=Op.call { callee:=Callee.value (Operand.func 10),args:=#[Operand.tmp 47,Operand.tmp 48],argTypes:=#[32,32] },type:=4,pos:=_,after:=_,guard:=some (3,false) }) rfl (fun K hK=>?_) AllReadyH.nil
     go_simp
     refine HSA.out.mono ?_
     rintro e w7 ⟨rfl,hb7⟩
     have b7:Hid (Below w5.heap.size w5 w7):=Lib.hid hb7
     have H7:=Lib.hid (H5.out.trans (hb7.mono H5.out.size))
     clear hb7
     go_simp
     refine hK.out _ _ (b7.out) (fun _=>?_)
     clear hK K hHeld
     try simp only [Act.put,List.setIfInBounds_toArray,List.set_cons_zero,List.set_cons_succ]
     refine wpAnyH_strong (S':=fun W=>Below w7.heap.size w7 W) (fun W hW=>b7.out.trans (hW.mono b7.out.size)) _ _ _ _ ?_
     have hHeld:(fun W=>Below w7.heap.size w7 W) w7:=Below.refl _ _
     refine wpAnyH_take (i:=8) (oi:={ dst:=some 50,op:=Op.unOp UnOp.not 4 (Operand.tmp 49),type:=4,pos:=_,after:=_,guard:=some (3,false) }) (v:=?_) rfl (by kernel_rfl) (by kernel_rfl) (by kernel_rfl) (fun _ _ _ h=>h) (Or.inl ⟨by rfl,?_⟩) hHeld ?_
     rotate_left 1
     ·(intro W hW;(try dsimp only at hW);go_simp;try with_reducible rfl)
     try simp only [Act.put,List.setIfInBounds_toArray,List.set_cons_zero,List.set_cons_succ]
     refine wpAnyH_take (i:=9) (oi:={ dst:=some 51,op:=Op.pick (Operand.tmp 45) (Operand.const (Value.bool true)) (Operand.tmp 50),type:=4,pos:=_,after:=_,guard:=none }) (v:=?_) rfl (by kernel_rfl) (by kernel_rfl) (by kernel_rfl) (fun _ _ _ h=>h) (Or.inl ⟨by rfl,?_⟩) hHeld ?_
     rotate_left 1
     ·(intro W hW;(try dsimp only at hW);go_simp;try with_reducible rfl)
     try simp only [Act.put,List.setIfInBounds_toArray,List.set_cons_zero,List.set_cons_succ]
     refine wpAnyH_done (by kernel_rfl) ?_ _
     refine NoPanic.normal ?_
     go_wp2_with fail
     go_ret2
     exact getD_no HNO.out (HBW.out.trans (H7.out.mono HBW.out.size))
end Go.Proofs.YtcibjcgipfpniaaGreatDoor
