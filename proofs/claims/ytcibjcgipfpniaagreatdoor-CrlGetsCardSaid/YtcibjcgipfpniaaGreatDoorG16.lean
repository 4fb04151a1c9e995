/- Words and laws for the statement, part 16. -/
import Derived.Test.YtcibjcgipfpniaaGreatDoorG06
import Derived.Test.YtcibjcgipfpniaaGreatDoorG14
import Derived.Test.YtcibjcgipfpniaaGreatDoorG15
namespace Go.Proofs.YtcibjcgipfpniaaGreatDoor
open Go.RowKit
set_option linter.unusedVariables false
set_option linter.unusedSimpArgs false
attribute [local go_sem ↓] Go.wp_at_zero Go.wp_at_succ

/-- No row that may be has this thing. -/
def SerNo (T:Tr):Prop:=∀ l:List GV,(∀ g∈l,GnM g)→l.length≤16→T≠.mk 48 [] (l.map gnTr)
def SerPost (w:World) (xs:List Nat) (T:Tr) (e:Ending) (w':World):Prop :=
 (∃ A c,∃ l:List Gn,e = .returned (.tuple #[.slice A l.length c,.bool true])∧Off xs (GsP A c l) w'∧l.length≤16∧(∀ l2:List GV,(∀ g∈l2,GnM g)→T = .mk 48 [] (l2.map gnTr)→l.map Gn.v=l2)∧Below w.heap.size w w') ∨
 (e = .returned (.tuple #[.slice none 0 0,.bool false])∧SerNo T∧Below w.heap.size w w')
theorem ser_no {w w':World} {xs:List Nat} {T:Tr} (h:SerNo T) (hb:Below w.heap.size w w'):SerPost w xs T (.returned (.tuple #[.slice none 0 0,.bool false])) w':=.inr ⟨rfl,h,hb⟩
/-- Small enough, three deep. -/
def Fit3 (t:Tr):Prop:=t.kids.length≤100000∧∀ k∈t.kids,k.kids.length≤100000∧∀ q∈k.kids,q.kids.length≤100000
theorem off_fresh {xs:List Nat} {w w':World} {A:Option Addr} {c:Nat} {l:List Nat} (h:Fresh .u32 59 w' w.heap.size A c l) (hx:∀ x∈xs,x<w.heap.size):Off xs (fun W=>Rd .u32 W W.heap.size A c l) w':=fun W h2 h3=>by
 refine ⟨h.1.1,h.1.2.1,fun hn=>?_⟩
 obtain ⟨b,off,e,hlt,hc⟩:=h.1.2.2 hn
 obtain ⟨g,L,e2,hg,_⟩:=h.2 hn
 have hbg:b=g:=by
  rw [e] at e2
  injection e2 with e2
  injection e2
 refine ⟨b,off,e,by omega,fun j hj=>?_⟩
 rw [←hc j hj]
 simp only [World.cell?]
 rw [h3 b (fun hm=>by have:=hx b hm;omega) hlt]
set_option maxRecDepth 100000 in
set_option maxHeartbeats 16000000 in
theorem serials_any (w:World) (xs:List Nat) (t:Lt) (h:Off [] (ThP t) w) (hf:Fit3 t.t) (hxs:∀ x∈xs,x<w.heap.size) :
  Calls Tryz.prog 92 #[t.val] w (SerPost w xs t.t):=by
 have HXS:=Lib.hid hxs
 clear hxs
 obtain ⟨T,hTT⟩:∃ T,T=t.t:=⟨_,rfl⟩
 rw [←hTT]
 have HVAL:Hid (t.val = .agg #[.int .u8 (t.tag:Int),.slice t.ba t.body.length t.bc,.slice t.ka t.kids.length t.kc]):=Lib.hid rfl
 have HF:=Lib.hid hf
 have hko:Off [] (KiP t.ka t.kc t.kids) w:=by
  obtain ⟨tag,ba,bc,body,ka,kc,kids⟩:=t
  exact kids_off h
 have hkl:t.kids.length≤100000:=by have:=hf.1;rw [(t_parts t).2.2,List.length_map] at this;omega
 have HTK:Hid (T.kids=t.kids.map Lt.t∧seqOk T.tag T.body.length 48=seqOk t.tag t.body.length 48):=Lib.hid (by rw [hTT,(t_parts t).1,(t_parts t).2.1,(t_parts t).2.2];exact ⟨rfl,rfl⟩)
 have HFK:Hid (∀ q∈t.kids,q.t.kids.length≤100000∧∀ p∈q.t.kids,p.kids.length≤100000):=Lib.hid fun q hq=>hf.2 q.t (by rw [(t_parts t).2.2];exact List.mem_map_of_mem hq)
 rw [HVAL.out]
 obtain ⟨ks,hks⟩:∃ ks,ks=t.kids:=⟨_,rfl⟩
 rw [←hks] at hko hkl HTK HVAL HFK ⊢
 clear h hTT hf hks HF
 generalize t.tag=tag at *
 generalize t.ba=ba at *
 generalize t.bc=bc at *
 generalize t.body.length=n at *
 generalize t.ka=ka at *
 generalize t.kc=kc at *
 clear HVAL
 obtain ⟨kn,hkn⟩:∃ k,k=ks.length:=⟨_,rfl⟩
 have HKN:=Lib.hid hkn
 rw [←hkn] at hkl ⊢
 have hH1:=Holds.fresh w 32 #[.int .u8 (tag:Int),.slice ba n bc,.slice ka kn kc]
 have HB1:Hid (Below w.heap.size w (w.alloc (.cells #[.int .u8 (tag:Int),.slice ba n bc,.slice ka kn kc] 32))):=Lib.hid ((Below.refl _ _).alloc (Nat.le_refl _) _)
 have hk1:=hko.alloc (.cells #[.int .u8 (tag:Int),.slice ba n bc,.slice ka kn kc] 32)
 have HGS:=Lib.hid (getSeq_any _ [] tag n bc kn kc 48 ba ka ks hk1 hkn.symm (by omega) hkl (by simp))
 have c0:=hH1.cell 0
 have c1:=hH1.cell 1
 have c2:=hH1.cell 2
 clear hko hkn hH1 hk1
 rcases hsq:seqOk tag n 48 with _ | _
 case false =>
  have HNO:Hid (SerNo T):=Lib.hid fun l _ _ h2=>by
   have:=HTK.out.2
   rw [h2,hsq] at this
   cases this
  rw [hsq] at HGS
  go_enter Tryz.func92,Tryz.ntmps92
  go_wp2_with fail
  refine HGS.out.mono ?_
  rintro e w3 ⟨rfl,hb3⟩
  have HB3:=Lib.hid (HB1.out.trans (hb3.mono HB1.out.size))
  clear hb3 HGS
  go_wp2_with fail
  go_ret2
  exact ser_no HNO.out HB3.out
 rw [hsq] at HGS
 clear hsq
 by_cases h4:16<kn
 case pos =>
  have HNO:Hid (SerNo T):=Lib.hid fun l _ h1 h2=>by
   have h3:=HTK.out.1
   rw [h2] at h3
   have h4':=congrArg List.length (show l.map gnTr=ks.map Lt.t from h3)
   rw [List.length_map,List.length_map,←HKN.out] at h4'
   omega
  have d1:decide ((16:Int)<(kn:Int))=true:=decide_eq_true (by omega)
  go_enter Tryz.func92,Tryz.ntmps92
  go_wp2_with fail
  refine HGS.out.mono ?_
  rintro e w3 ⟨A3,c3,rfl,hk3,hb3⟩
  rw [←HKN.out]
  have HB3:=Lib.hid (HB1.out.trans (hb3.mono HB1.out.size))
  clear hb3 HGS hk3
  go_wp2_with fail
  go_ret2
  exact ser_no HNO.out HB3.out
 have d1:decide ((16:Int)<(kn:Int))=false:=decide_eq_false (by omega)
 have HNOI:Hid (∀ i,i<kn→serT (ks.getD i default).t=none→SerNo T):=Lib.hid fun i hi he l hl h1 h2=>by
  have h3:=HTK.out.1
  rw [h2] at h3
  have h3:l.map gnTr=ks.map Lt.t:=h3
  have h5:=congrArg List.length h3
  rw [List.length_map,List.length_map,←HKN.out] at h5
  have hil:i<l.length:=by omega
  have h4':(ks.map Lt.t).getD i default=(l.map gnTr).getD i default:=by rw [h3]
  rw [lt_at (by rw [←HKN.out];exact hi),show (l.map gnTr).getD i default=gnTr l[i] by simp [List.getD,hil]] at h4'
  rw [h4',ser_back (hl _ (List.getElem_mem hil))] at he
  cases he
 go_enter Tryz.func92,Tryz.ntmps92
 go_wp2_with fail
 refine HGS.out.mono ?_
 rintro e w3 ⟨A3,c3,rfl,hk3,hb3⟩
 rw [←HKN.out]
 have HB3:=Lib.hid (HB1.out.trans (hb3.mono HB1.out.size))
 have HK3:=Lib.hid hk3
 have hmc:kn≤c3:=by rw [HKN.out];exact hk3.at_.1.1
 have hc63:=hk3.at_.1.2.1
 clear hb3 HGS hk3 c0 c1 c2 d1
 go_wp2_with fail
 go_loopw [6,29] (fun lv iv wr=>∃ (i:Nat) (A:Option Addr) (c:Nat) (l:List Gn),i≤kn∧iv = .int .i64 (i:Int)∧lv = .slice A i c∧Gns A c i l wr∧Hid (∀ j,j<i→serT (ks.getD j default).t=some (l.getD j default).v)∧Hid (∀ g,blockOf A=some g→w3.heap.size≤g)∧Below w3.heap.size w3 wr∧Hid (∀ x∈l,Off (bl A ++ xs) (GnP x) wr)) (fun _ iv _=>kn - (intOf iv).toNat)
 case atStart=>exact ⟨0,none,0,[],by omega,rfl,rfl,Gns.nil _,Lib.hid fun j hj=>by omega,Lib.hid fun g hg=>by simp [blockOf] at hg,Below.refl _ _,Lib.hid fun x hx=>by cases hx⟩
 case round =>
  obtain ⟨i,A,c,l,hi,rfl,rfl,hE,HA,HG,hB,HOX⟩:=hrel
  have HB:=Lib.hid hB
  have HE:=Lib.hid hE
  clear hB hE
  by_cases hlt:i<kn
  ·have hk4:=HK3.out.under HB.out
   obtain ⟨g,off,rfl,hg,hcs⟩:=KiP.cells (j:=i) hk4 (by rw [←HKN.out];exact hlt)
   obtain ⟨q0,q1,q2⟩:=hcs wr (Below.refl _ _)
   have hti:=KiP.kid hk4 (j:=i) (by rw [←HKN.out];exact hlt)
   have HFI:=Lib.hid (HFK.out _ (getD_mem (l:=ks) (j:=i) (by rw [←HKN.out];exact hlt)))
   have HNI:=Lib.hid (HNOI.out i hlt)
   obtain ⟨q,hq⟩:∃ q,q=ks.getD i default:=⟨_,rfl⟩
   rw [←hq] at q0 q1 q2 hti HFI HNI
   have HQ:=Lib.hid hq
   clear hq hcs hk4
   have hkq:Off [] (KiP q.ka q.kc q.kids) wr:=by
    obtain ⟨tag,ba,bc,body,ka,kc,kids⟩:=q
    exact kids_off hti
   have HSK:Hid (seqK 48 q.t=if seqOk q.tag q.body.length 48=true then q.kids.map Lt.t else []):=Lib.hid (by unfold seqK;rw [(t_parts q).1,(t_parts q).2.1,(t_parts q).2.2])
   have hql:q.kids.length≤100000:=by have:=HFI.out.1;rw [(t_parts q).2.2,List.length_map] at this;exact this
   have HPF:Hid (∀ p∈q.kids,p.kids.length≤100000):=Lib.hid fun p hp=>by
    have:=HFI.out.2 p.t (by rw [(t_parts q).2.2];exact List.mem_map_of_mem hp)
    rwa [(t_parts p).2.2,List.length_map] at this
   obtain ⟨qs,hqs⟩:∃ qs,qs=q.kids:=⟨_,rfl⟩
   rw [←hqs] at q2 hkq hql HSK HPF
   obtain ⟨qm,hqm⟩:∃ m,qs.length=m:=⟨_,rfl⟩
   rw [hqm] at q2 hql
   have HQM:=Lib.hid hqm
   clear hti HFI hqs hqm
   generalize q.tag=qt at *
   generalize q.ba=qa at *
   generalize q.bc=qc at *
   generalize q.body.length=qn at *
   generalize q.ka=qk at *
   generalize q.kc=qd at *
   have hq1:Below wr.heap.size wr (wr.alloc (.cells #[.int .u8 (qt:Int),.slice qa qn qc,.slice qk qm qd] 32)):=(Below.refl _ _).alloc (Nat.le_refl _) _
   have hHq:=Holds.fresh wr 32 #[.int .u8 (qt:Int),.slice qa qn qc,.slice qk qm qd]
   have z0:=hHq.cell 0
   have z1:=hHq.cell 1
   have z2:=hHq.cell 2
   have HGK:=Lib.hid (getSeq_any (wr.alloc (.cells #[.int .u8 (qt:Int),.slice qa qn qc,.slice qk qm qd] 32)) [] qt qn qc qm qd 48 qa qk qs (hkq.under hq1) HQM.out (by omega) hql (by simp))
   have HQ1:=Lib.hid hq1
   clear hq1 hHq hkq hql
   rcases hsk:seqOk qt qn 48 with _ | _
   ·have HNO:Hid (SerNo T):=Lib.hid (HNI.out (serT_len (by rw [HSK.out,hsk];simp)))
    rw [hsk] at HGK
    clear hsk HNI
    go_wp2_with fail
    refine HGK.out.mono ?_
    rintro e w5 ⟨rfl,hb5⟩
    have HB5:=Lib.hid (HB3.out.trans ((HB.out.trans ((HQ1.out.trans (hb5.mono HQ1.out.size)).mono HB.out.size)).mono HB3.out.size))
    clear hb5 q0 q1 q2 HGK z0 z1 z2
    go_wp2_with fail
    go_ret2
    exact ser_no HNO.out HB5.out
   rw [hsk] at HGK
   have HSK:Hid (seqK 48 q.t=qs.map Lt.t):=Lib.hid (by rw [HSK.out,hsk];rfl)
   clear hsk
   by_cases hm2:qm=2
   case neg =>
    have d2:((qm:Int) == 2)=false:=by rw [beq_eq_false_iff_ne];omega
    have d2':((qm:Int) != 2)=true:=by rw [bne,d2];rfl
    have HNO:Hid (SerNo T):=Lib.hid (HNI.out (serT_len (by rw [HSK.out,List.length_map,HQM.out];exact hm2)))
    clear HNI
    go_wp2_with fail
    refine HGK.out.mono ?_
    rintro e w5 ⟨A5,c5,rfl,hk5,hb5⟩
    rw [HQM.out]
    have HB5:=Lib.hid (HB3.out.trans ((HB.out.trans ((HQ1.out.trans (hb5.mono HQ1.out.size)).mono HB.out.size)).mono HB3.out.size))
    clear hk5 hb5 q0 q1 q2 HGK z0 z1 z2
    go_wp2_with fail
    go_ret2
    exact ser_no HNO.out HB5.out
   subst hm2
   go_wp2_with fail
   refine HGK.out.mono ?_
   rintro e w5 ⟨A5,c5,rfl,hk5,hb5⟩
   rw [HQM.out]
   have hb15:=HQ1.out.trans (hb5.mono HQ1.out.size)
   have HB5:=Lib.hid (HB.out.trans (hb15.mono HB.out.size))
   have HE5:=Lib.hid (HE.out.under hb15)
   have HB15:=Lib.hid hb15
   have hm5:2≤c5:=by have:=hk5.at_.1.1;rw [HQM.out] at this;exact this
   have hm563:=hk5.at_.1.2.1
   obtain ⟨g5,o5,rfl,hg5,hcs5⟩:=KiP.cells (j:=0) hk5 (by rw [HQM.out];omega)
   obtain ⟨g5',o5',e5,hg5',hcs5'⟩:=KiP.cells (j:=1) hk5 (by rw [HQM.out];omega)
   injection e5 with e5
   injection e5 with e5 e5'
   subst e5 e5'
   have hp0:=KiP.kid hk5 (j:=0) (by rw [HQM.out];omega)
   have hp1:=KiP.kid hk5 (j:=1) (by rw [HQM.out];omega)
   have HPF1:=Lib.hid (HPF.out _ (getD_mem (l:=qs) (j:=1) (by rw [HQM.out];omega)))
   obtain ⟨p0,hq0⟩:∃ q,q=qs.getD 0 default:=⟨_,rfl⟩
   obtain ⟨p1,hq1⟩:∃ q,q=qs.getD 1 default:=⟨_,rfl⟩
   rw [←hq0] at hp0 hcs5
   rw [←hq1] at hp1 hcs5' HPF1
   have HSK0:Hid ((seqK 48 q.t).getD 0 default=p0.t):=Lib.hid (by rw [HSK.out,lt_at (by rw [HQM.out];omega),hq0])
   have HSK1:Hid ((seqK 48 q.t).getD 1 default=p1.t):=Lib.hid (by rw [HSK.out,lt_at (by rw [HQM.out];omega),hq1])
   have HSK2:Hid ((seqK 48 q.t).length=2):=Lib.hid (by rw [HSK.out,List.length_map,HQM.out])
   simp only [Nat.zero_mul,Nat.add_zero,Nat.one_mul,Nat.add_assoc,Nat.reduceAdd] at hcs5 hcs5'
   have HS0:=Lib.hid hcs5
   have HS1:=Lib.hid hcs5'
   have hx0:Rd .u8 w5 w5.heap.size p0.ba p0.bc p0.body∧(∀ y∈p0.body,y<256):=by
    obtain ⟨tag,ba,bc,body,ka,kc,kids⟩:=p0
    have:=ThP.iff.1 hp0.at_
    exact ⟨this.2.1,this.2.2.1⟩
   have hx1:Hid (∀ W,Below w5.heap.size w5 W→p1.tag<256∧Rd .u8 W W.heap.size p1.ba p1.bc p1.body∧(∀ y∈p1.body,y<256)):=Lib.hid fun W hW=>by
    obtain ⟨tag,ba,bc,body,ka,kc,kids⟩:=p1
    have:=ThP.iff.1 (hp1.under hW).at_
    exact ⟨this.1,this.2.1,this.2.2.1⟩
   have HGI:Hid (Calls Tryz.prog 28 #[.agg #[.int .u8 (p0.tag:Int),.slice p0.ba p0.body.length p0.bc,.slice p0.ka p0.kids.length p0.kc],.int .i64 20] w5 (GetIntOwn w5 (serN p0.t))):=Lib.hid (by
    have h:=getInt_own w5 p0.tag p0.body.length p0.bc p0.kids.length p0.kc w5.heap.size p0.ba p0.ka p0.body 20 hx0.1 rfl (Nat.le_refl _) hx0.2
    unfold serN
    rw [(t_parts p0).1,(t_parts p0).2.1,(t_parts p0).2.2,List.length_map]
    exact h)
   have HGW:Hid (∀ W,Below w5.heap.size w5 W→Calls Tryz.prog 91 #[.agg #[.int .u8 (p1.tag:Int),.slice p1.ba p1.body.length p1.bc,.slice p1.ka p1.kids.length p1.kc]] W (GetPost W p1.t.tag p1.t.body p1.t.kids.length)):=Lib.hid fun W hW=>by
    have h:=hx1.out W hW
    rw [(t_parts p1).1,(t_parts p1).2.1,(t_parts p1).2.2,List.length_map]
    exact get_any W p1.tag W.heap.size p1.ba p1.bc p1.body.length p1.body rfl h.2.1 (Nat.le_refl _) h.2.2 h.1 p1.ka p1.kids.length p1.kc (by have:=HPF1.out;omega)
   have HSN:Hid (∀ s,serN p0.t=some s→Dg s):=Lib.hid fun s hs=>by
    unfold serN at hs
    split at hs
    ·rw [(t_parts p0).2.1] at hs
     exact (gi_num hs hx0.2).1
    ·cases hs
   have HB0:Hid (∀ W,Below w5.heap.size w5 W→Below w.heap.size w W):=Lib.hid fun W hW=>HB3.out.trans ((HB5.out.trans (hW.mono HB5.out.size)).mono HB3.out.size)
   obtain ⟨a0,a1,a2⟩:=HS0.out w5 (Below.refl _ _)
   clear hb5 hb15 hk5 hp0 hp1 hcs5 hcs5' hq0 hq1 hx0 HGK q0 q1 q2 z0 z1 z2
   generalize p0.tag=y1 at *
   generalize p0.ba=y2 at *
   generalize p0.bc=y3 at *
   generalize p0.body.length=y4 at *
   generalize p0.ka=y5 at *
   generalize p0.kids.length=y6 at *
   generalize p0.kc=y7 at *
   generalize p1.tag=x1 at *
   generalize p1.ba=x2 at *
   generalize p1.bc=x3 at *
   generalize p1.body.length=x4 at *
   generalize p1.ka=x5 at *
   generalize p1.kids.length=x6 at *
   generalize p1.kc=x7 at *
   rcases hso:serN p0.t with _ | s
   ·have HNO:Hid (SerNo T):=Lib.hid (HNI.out (serT_num (by rw [HSK0.out];exact hso)))
    rw [hso] at HGI
    clear hso HNI
    go_wp2_with fail
    refine HGI.out.mono ?_
    rintro e w6 ⟨rfl,hb6⟩
    have HB6:=Lib.hid hb6
    obtain ⟨b0,b1,b2⟩:=HS1.out w6 hb6
    clear hb6 a0 a1 a2 HGI
    go_wp2_with fail
    refine (HGW.out w6 HB6.out).mono ?_
    rintro e w7 ⟨⟨u,hu,rfl⟩ | ⟨hu,rfl⟩,hb7⟩
    ·have HB7:=Lib.hid (HB0.out w7 (HB6.out.trans (hb7.mono HB6.out.size)))
     clear hb7 hu b0 b1 b2 HGW
     go_wp2_with fail
     go_ret2
     exact ser_no HNO.out HB7.out
    ·have HB7:=Lib.hid (HB0.out w7 (HB6.out.trans (hb7.mono HB6.out.size)))
     clear hb7 hu b0 b1 b2 HGW
     go_wp2_with fail
     go_ret2
     exact ser_no HNO.out HB7.out
   rw [hso] at HGI
   have HSO:=Lib.hid hso
   clear hso
   go_wp2_with fail
   refine HGI.out.mono ?_
   rintro e w6 ⟨A6,c6,rfl,hf6,hb6⟩
   have HB6:=Lib.hid hb6
   obtain ⟨b0,b1,b2⟩:=HS1.out w6 hb6
   have HF6:=Lib.hid hf6
   clear hb6 hf6 a0 a1 a2 HGI
   obtain ⟨sn,hsn⟩:∃ k,s.length=k:=⟨_,rfl⟩
   rw [hsn]
   have HSN2:=Lib.hid hsn
   clear hsn
   go_wp2_with fail
   refine (HGW.out w6 HB6.out).mono ?_
   rintro e w7 ⟨⟨u,hu,rfl⟩ | ⟨hu,rfl⟩,hb7⟩
   case inr =>
    have HNO:Hid (SerNo T):=Lib.hid (HNI.out (serT_when (by rw [HSK1.out];exact when_none hu)))
    have HB7:=Lib.hid (HB0.out w7 (HB6.out.trans (hb7.mono HB6.out.size)))
    clear hb7 hu b0 b1 b2 HGW HNI
    go_wp2_with fail
    go_ret2
    exact ser_no HNO.out HB7.out
   have HST:Hid (serT q.t=some ⟨s,u⟩):=Lib.hid (serT_two HSK2.out (by rw [HSK0.out];exact HSO.out) (by rw [HSK1.out];exact when_some hu))
   have hb57:=HB6.out.trans (hb7.mono HB6.out.size)
   have HE7:=Lib.hid (HE5.out.under hb57)
   have HB7:=Lib.hid (HB5.out.trans (hb57.mono HB5.out.size))
   have HO7:Hid (Off (bl A) (GnP ⟨A6,c6,s,u⟩) w7):=Lib.hid (((off_fresh HF6.out (fun x hx=>HE5.out.lt (mem_bl.1 hx))).under hb7).imp fun W hr=>⟨hr,HSN.out s HSO.out⟩)
   have HOZ7:Hid (Off (bl A ++ xs) (GnP ⟨A6,c6,s,u⟩) w7):=Lib.hid (((off_fresh HF6.out (fun x hx=>by
    rcases List.mem_append.1 hx with h1 | h1
    ·exact HE5.out.lt (mem_bl.1 h1)
    ·have h1:=HXS.out x h1
     have h2:=HB3.out.size
     have h3:=HB5.out.size
     omega)).under hb7).imp fun W hr=>⟨hr,HSN.out s HSO.out⟩)
   have HB17:=Lib.hid (HB15.out.trans (hb57.mono HB15.out.size))
   clear hb7 hb57 hu b0 b1 b2 HGW HNI
   have hH8:=Holds.fresh w7 44 #[.slice A6 sn c6,.int .i64 u]
   have hq8:Below w7.heap.size w7 (w7.alloc (.cells #[.slice A6 sn c6,.int .i64 u] 44)):=(Below.refl _ _).alloc (Nat.le_refl _) _
   have HE8:=Lib.hid (HE7.out.under hq8)
   have HO8:=Lib.hid (HO7.out.under hq8)
   have HOZ:=Lib.hid (HOZ7.out.under hq8)
   have HB18:=Lib.hid (HB17.out.trans (hq8.mono HB17.out.size))
   have HB8:=Lib.hid (HB7.out.trans (hq8.mono HB7.out.size))
   have HFX:Hid (Holds (w7.alloc (.cells #[.slice A6 sn c6,.int .i64 u] 44)) w7.heap.size 44 [.slice A6 sn c6,.int .i64 u].toArray):=Lib.hid hH8
   have HOW:=Lib.hid HE8.out.own
   clear hH8 hq8
   go_wp2_with (first | (at_builtin;refine wpList_pushV _ rfl (.tmp 61) (.tmp 65) 23 rfl 44 _ 2 32 Tryz.underlying23 info_gone rfl (by omega) (by omega) rfl HOW.out (cs:=[.slice A6 sn c6,.int .i64 u]) rfl rfl one2g HFX.out (by omega) ?_;intro g9 c9 W9 ho9 hg9 hat9 hlt9))
   have HE9:=Lib.hid (Gns.push (e:=⟨A6,c6,s,u⟩) HE8.out HO8.out (by dsimp only;rw [HSN2.out];exact ho9) hg9 hat9)
   have HB9:=Lib.hid (below_own HB8.out hg9 HG.out (Nat.le_refl _))
   have HG9:Hid (∀ g,blockOf (some (⟨g9,0,none⟩:Addr))=some g→w3.heap.size≤g):=Lib.hid fun g hg=>by
    rcases hat9 with h | h
    ·exact HG.out g (h.trans (by simpa [blockOf] using hg))
    ·have e:g9=g:=by simpa [blockOf] using hg
     have:=HB8.out.size
     omega
   have HA9:Hid (∀ j,j<i+1→serT (ks.getD j default).t=some ((l ++ [(⟨A6,c6,s,u⟩:Gn)]).getD j default).v):=Lib.hid fun j hj=>by
    have hl:=HE.out.len
    rcases Nat.lt_or_ge j i with h3 | h3
    ·rw [HA.out j h3]
     simp [List.getD,List.getElem?_append_left (show j<l.length by omega)]
    ·obtain rfl:j=i:=by omega
     rw [←HQ.out,HST.out]
     simp [List.getD,hl,Gn.v]
   have HXW:Hid (∀ x∈xs,x<w3.heap.size):=Lib.hid fun x hx=>by have h1:=HXS.out x hx;have h2:=HB3.out.size;omega
   have HOX9:Hid (∀ x∈l ++ [(⟨A6,c6,s,u⟩:Gn)],Off (bl (some (⟨g9,0,none⟩:Addr)) ++ xs) (GnP x) W9):=Lib.hid (by
    have hy:∀ g,g∈bl (some (⟨g9,0,none⟩:Addr)) ++ xs→g∈bl A ++ xs∨(w7.alloc (.cells #[.slice A6 sn c6,.int .i64 u] 44)).heap.size≤g:=fun g hg=>by
     rcases List.mem_append.1 hg with h1 | h1
     ·have e:g9=g:=by simpa [blockOf] using mem_bl.1 h1
      subst e
      rcases hat9 with h2 | h2
      ·exact .inl (List.mem_append_left _ (mem_bl.2 h2))
      ·exact .inr (by omega)
     ·exact .inl (List.mem_append_right _ h1)
    have hA:∀ g,blockOf A=some g→g∈bl A ++ xs:=fun g e=>List.mem_append_left _ (mem_bl.2 e)
    intro x hx
    rcases List.mem_append.1 hx with h1 | h1
    ·exact ((HOX.out x h1).under HB18.out).push hg9 hA hy
    ·rw [List.mem_singleton.1 h1]
     exact (HOZ.out).push hg9 hA hy)
   clear ho9 hg9 hat9 HOW HFX HE7 HE8 HO7 HO8
   go_wp2_with fail
   go_roundw
   case rel=>exact ⟨i+1,_,_,_,by omega,by go_num,rfl,HE9.out,HA9,HG9,HB9.out,HOX9⟩
   case measure=>simp [intOf];omega
  ·obtain rfl:i=kn:=by omega
   have HLL:Hid (l.length=i):=Lib.hid HE.out.len
   have HRD:Hid (∀ l2:List GV,(∀ g∈l2,GnM g)→T = .mk 48 [] (l2.map gnTr)→l.map Gn.v=l2):=Lib.hid fun l2 h1 h2=>by
    have h3:=HTK.out.1
    rw [h2] at h3
    have h3:l2.map gnTr=ks.map Lt.t:=h3
    refine gones_read h1 h3.symm (by rw [List.length_map,List.length_map,HLL.out,HKN.out]) fun j hj=>?_
    rw [List.length_map,←HKN.out] at hj
    rw [lt_at (by rw [←HKN.out];exact hj),HA.out j hj,gv_at (by rw [HLL.out];exact hj)]
   have HBW:=Lib.hid (HB3.out.trans (HB.out.mono HB3.out.size))
   have HGS:Hid (Off xs (GsP A c l) wr):=Lib.hid fun W h2 h3=>by
    have hg:∀ g,blockOf A=some g→g ∉ xs:=fun g e hm=>by
     have h4:=HG.out g e
     have h5:=HXS.out g hm
     have h6:=HB3.out.size
     omega
    exact ⟨RowG.of_own HE.out.len (HE.out.own.keep fun g e hlt=>h3 g (hg g e) hlt),fun x hx=>((HOX.out x hx).less (fun g hg=>List.mem_append_right _ hg)) W h2 h3⟩
   go_wp2_with fail
   go_ret2
   exact .inl ⟨A,c,l,by rw [HLL.out];rfl,HGS.out,by rw [HLL.out];omega,HRD.out,HBW.out⟩
end Go.Proofs.YtcibjcgipfpniaaGreatDoor
namespace Go.Proofs.YtcibjcgipfpniaaGreatDoor
open Go.RowKit
set_option linter.unusedVariables false
attribute [local go_sem ↓] Go.wp_at_zero Go.wp_at_succ

def numV (l:List Nat) (k:Nat):Nat:=match k with
 | 0=>0
 | k+1=>numV l k*10+(l.getD k 0 - 48)
/-- The number that all of them say. -/
structure Says (l:List Nat) (v:Int):Prop where
 yes:(∀ i,i<l.length→IsDig (l.getD i 0))→v=(numV l l.length:Int)
 no:¬ (∀ i,i<l.length→IsDig (l.getD i 0))→v = -1
theorem numV_lt (l:List Nat) (k:Nat) (h:∀ i,i<k→IsDig (l.getD i 0)):numV l k<10 ^ k:=by
 induction k with
 | zero=>simp [numV]
 | succ k ih =>
  have:=ih (fun i hi=>h i (by omega))
  have hd:=h k (by omega)
  unfold IsDig at hd
  unfold numV
  rw [Nat.pow_succ]
  omega
theorem numV_small (l:List Nat) (k:Nat) (h:∀ i,i<k→IsDig (l.getD i 0)) (h4:k≤4):numV l k≤9999:=by
 have:=numV_lt l k h
 have:k=0∨k=1∨k=2∨k=3∨k=4:=by omega
 rcases this with rfl | rfl | rfl | rfl | rfl <;> simp at * <;> omega

def AtNum (w:World) (l:List Nat) (n i:Value) (W:World):Prop :=
 ∃ k q:Nat,k≤l.length∧i = .int .i64 (k:Int)∧n = .int .i64 (numV l k:Int)∧(∀ j,j<k→IsDig (l.getD j 0))∧numV l k≤99999∧W=w.drewN q

set_option maxRecDepth 100000 in
set_option maxHeartbeats 1000000 in
theorem number_any (w:World) (B:Nat) (A:Option Addr) (c n:Nat) (l:List Nat) (hn:l.length=n) (hr:Rd .u8 w B A c l) (ho:Oct8 l) (h4:n≤4) (v:Int) (hv:Says l v) :
  Calls Tryz.prog 126 #[.slice A n c] w fun e w'=>e = .returned (.int .i64 v)∧∃ q,w'=w.drewN q:=by
 have HV:=Lib.hid hv
 have HN:=Lib.hid hn
 have hc63:c≤9223372036854775807:=hr.2.1
 have hlc:n≤c:=by have:=hr.1;omega
 clear hv hn
 go_enter Tryz.func126,Tryz.ntmps126
 go_wp2_with fail
 go_loopw [3,4] (fun s i wr=>AtNum w l s i wr) (fun _ i _=>(n - intOf i).toNat)
 case atStart=>exact ⟨0,0,Nat.zero_le _,rfl,rfl,fun j hj=>by omega,by simp [numV],rfl⟩
 case round =>
  obtain ⟨k,q,hk,rfl,rfl,hd,hle,rfl⟩:=hrel
  have HD:=Lib.hid hd
  clear hd
  have hkn:k≤n:=by have:=HN.out;omega
  obtain ⟨V,HVV⟩:∃ V,Hid (V=numV l k):=⟨_,rfl⟩
  rw [←HVV.out] at hle ⊢
  have hk0:(0:Int)≤(k:Int):=by omega
  have hV0:(0:Int)≤(V:Int):=by omega
  have hV1:(V:Int)≤99999:=by omega
  by_cases hlt:k<n
  ·obtain ⟨b,off,x,rfl,hb,hx,Hx⟩:=hr.at_ (i:=k) (by have:=HN.out;omega)
   have hx256:x<256:=by rw [Hx.out];exact ho _ (by rw [List.getD,List.getElem?_eq_getElem (by have:=HN.out;omega)];exact List.getElem_mem _)
   have hkI:(k:Int)<(n:Int):=by omega
   by_cases hdx:IsDig x
   ·have h1:decide ((x:Int)<48)=false:=decide_eq_false (by have:=hdx.1;omega)
    have h2:decide (57<(x:Int))=false:=decide_eq_false (by have:=hdx.2;omega)
    have hx1:=hdx.1
    have hx2:=hdx.2
    have HX:=Lib.hid hdx
    clear hdx
    go_wp2_with fail
    go_roundw
    case rel =>
     have e:numV l (k+1)=V*10+(x - 48):=by
      show numV l k*10+(l.getD k 0 - 48)=_
      rw [←HVV.out,←Hx.out]
     have hall:∀ j,j<k+1→IsDig (l.getD j 0):=fun j hj=>by
      rcases Nat.lt_or_ge j k with h | h
      ·exact HD.out j h
      ·obtain rfl:j=k:=by omega
       rw [←Hx.out];exact HX.out
     refine ⟨k+1,q,by have:=HN.out;omega,by go_num,?_,hall,?_,rfl⟩
     ·rw [e];exact congrArg (Value.int IntKind.i64) (by omega)
     ·have:=numV_small l (k+1) hall (by omega)
      omega
    case measure=>simp [intOf];omega
   ·have hbad:Hid (v = -1):=Lib.hid (HV.out.no (fun h=>hdx (by rw [Hx.out];exact h k (by have:=HN.out;omega))))
    have hdx':x<48∨57<x:=by unfold IsDig at hdx;omega
    clear hdx
    rcases hdx' with h | h
    ·have h1:decide ((x:Int)<48)=true:=decide_eq_true (by omega)
     go_wp2_with fail
     go_ret
     exact ⟨by rw [hbad.out];rfl,_,rfl⟩
    ·have h1:decide ((x:Int)<48)=false:=decide_eq_false (by omega)
     have h2:decide (57<(x:Int))=true:=decide_eq_true (by omega)
     go_wp2_with fail
     go_ret
     exact ⟨by rw [hbad.out];rfl,_,rfl⟩
  ·have hkk:Hid (k=l.length):=Lib.hid (by have:=HN.out;omega)
   have hf:decide ((k:Int)<(n:Int))=false:=decide_eq_false (by omega)
   have hf2:decide (k<n)=false:=decide_eq_false (by omega)
   go_wp2_with fail
   go_ret
   refine ⟨?_,_,rfl⟩
   rw [HV.out.yes (by rw [←hkk.out];exact HD.out),←hkk.out,←HVV.out];rfl

theorem says_of (l:List Nat):∃ v,Says l v∧-1≤v∧(l.length≤4→v≤9999)∧(l.length≤2→v≤99):=by
 by_cases h:∀ i,i<l.length→IsDig (l.getD i 0)
 ·refine ⟨_,⟨fun _=>rfl,fun h'=>absurd h h'⟩,by omega,fun h4=>?_,fun h2=>?_⟩
  ·have:=numV_small l _ h h4;omega
  ·have:=numV_lt l _ h
   have h5:l.length=0∨l.length=1∨l.length=2:=by omega
   rcases h5 with e | e | e <;> rw [e] at this ⊢ <;> simp at this ⊢ <;> omega
 ·exact ⟨-1,⟨fun h'=>absurd h' h,fun _=>rfl⟩,by omega,by omega,by omega⟩
theorem Says.one {l:List Nat} {v v':Int} (h:Says l v) (h':Says l v'):v=v':=by
 by_cases hd:∀ i,i<l.length→IsDig (l.getD i 0)
 ·rw [h.yes hd,h'.yes hd]
 ·rw [h.no hd,h'.no hd]
theorem says_dig2 {v:Nat} (h:v≤99):Says (dig2 v) v:=by
 refine ⟨fun _=>?_,fun hn=>absurd (fun i hi=>?_) hn⟩
 ·show _=((numV (dig2 v) 2:Nat):Int)
  simp [numV,dig2,List.getD];omega
 ·have:i=0∨i=1:=by simp [dig2] at hi;omega
  rcases this with rfl | rfl <;> simp [dig2,IsDig,List.getD] <;> omega
theorem says_dig4 {v:Nat} (h:v≤9999):Says (dig2 (v / 100) ++ dig2 (v % 100)) v:=by
 refine ⟨fun _=>?_,fun hn=>absurd (fun i hi=>?_) hn⟩
 ·show _=((numV (dig2 (v / 100) ++ dig2 (v % 100)) 4:Nat):Int)
  simp [numV,dig2,List.getD];omega
 ·have:i=0∨i=1∨i=2∨i=3:=by simp [dig2] at hi;omega
  rcases this with rfl | rfl | rfl | rfl <;> simp [dig2,IsDig,List.getD] <;> omega
/-- A part of a slice. -/
theorem Rd.part {k:IntKind} {w:World} {B b off c:Nat} {l:List Nat} (h:Rd k w B (some ⟨b,off,none⟩) c l) {j m:Nat} (hjm:j+m≤l.length):Rd k w B (some ⟨b,off+j,none⟩) (c - j) ((l.drop j).take m):=by
 have hlc:=h.1
 refine ⟨by simp;omega,by have:=h.2.1;omega,fun hn=>?_⟩
 have hl:0<l.length:=by simp at hn;omega
 obtain ⟨b',off',e,hb,hc⟩:=h.2.2 hl
 obtain ⟨rfl,rfl⟩:b=b'∧off=off':=by injection e with e;injection e with e1 e2;exact ⟨e1,e2⟩
 refine ⟨b,off+j,rfl,hb,fun i hi=>?_⟩
 have hi':i<m:=by simp at hi;omega
 rw [Nat.add_assoc,hc (j+i) (by omega)]
 have e3:((l.drop j).take m).getD i 0=l.getD (j+i) 0:=by
  simp [List.getD,hi',List.getElem?_drop]
 rw [e3]
end Go.Proofs.YtcibjcgipfpniaaGreatDoor
