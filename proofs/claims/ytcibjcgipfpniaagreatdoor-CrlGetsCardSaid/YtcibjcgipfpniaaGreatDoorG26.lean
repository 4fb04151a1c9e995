/- Words and laws for the statement, part 26. -/
import Derived.Test.YtcibjcgipfpniaaGreatDoorG22
import Derived.Test.YtcibjcgipfpniaaGreatDoorG25
namespace Go.Proofs.YtcibjcgipfpniaaGreatDoor
open Go.RowKit
set_option linter.unusedVariables false
set_option linter.unusedSimpArgs false
attribute [local go_sem ↓] Go.wp_at_zero Go.wp_at_succ

theorem GetDPost.one {w w':World} {T:Tr} {e:Ending} (h:GetDPost w T e w'):∃ (A:Option Addr) (c:Nat) (l:List Att) (ok:Bool),e = .returned (.tuple #[.slice A l.length c,.bool ok])∧RdA w' w'.heap.size A c l∧(l=[]∨dnOk l=true)∧(∀ l2:List Att,dnOk l2=true→dnTr l2=T→l=l2)∧Below w.heap.size w w':=by
 obtain ⟨A,c,l,h1,h2,h3,h4,h5⟩ | ⟨h1,h2,h3⟩:=h
 ·exact ⟨A,c,l,true,h1,h2,.inr h3,fun l2 a b=>dnTr_inj h3 a (by rw [h4,b]),h5⟩
 ·exact ⟨none,0,[],false,h1,⟨Nat.le_refl _,by omega,fun h=>by simp at h⟩,.inl rfl,fun l2 a b=>absurd b (h2 l2 a),h3⟩
theorem off_name0 {xs:List Nat} {w:World} {A:Option Addr} {c:Nat} {l:List Att} (h:RdA w w.heap.size A c l) (hl:l=[]∨dnOk l=true) (hx:NoStr xs w):Off xs (fun w=>RdA w w.heap.size A c l) w:=by
 rcases hl with rfl | hl
 ·exact fun w' _ _=>⟨h.1,h.2.1,fun h=>by simp at h⟩
 ·exact off_name h hl hx
def FitC2 (t:Tr):Prop:=t.kids.length≤100000∧∀ k∈t.kids,k.kids.length≤100000∧k.body.length≤900000∧∀ q∈k.kids,FitG q∧FitS q∧Fit3 q∧FitB q
set_option maxRecDepth 100000 in
set_option maxHeartbeats 16000000 in
theorem getC'_any (w:World) (t:Lt) (h:Off [] (ThP t) w) (hf:FitC2 t.t) :
  Calls Tryz.prog 20 #[t.val] w (GetCPost w [] t.t):=by
 obtain ⟨T,hTT⟩:∃ T,T=t.t:=⟨_,rfl⟩
 have HTH:=Lib.hid h
 have HTT:=Lib.hid hTT
 rw [←hTT]
 have HVAL:Hid (t.val = .agg #[.int .u8 (t.tag:Int),.slice t.ba t.body.length t.bc,.slice t.ka t.kids.length t.kc]):=Lib.hid rfl
 have hko:Off [] (KiP t.ka t.kc t.kids) w:=by
  obtain ⟨tag,ba,bc,body,ka,kc,kids⟩:=t
  exact kids_off h
 have hkl:t.kids.length≤100000:=by have:=hf.1;rw [(t_parts t).2.2,List.length_map] at this;omega
 have HTK:Hid (T.kids=t.kids.map Lt.t∧seqOk T.tag T.body.length 48=seqOk t.tag t.body.length 48):=Lib.hid (by rw [hTT,(t_parts t).1,(t_parts t).2.1,(t_parts t).2.2];exact ⟨rfl,rfl⟩)
 have HFK:Hid (∀ q∈t.kids,q.t.kids.length≤100000∧q.t.body.length≤900000∧∀ p∈q.t.kids,FitG p∧FitS p∧Fit3 p∧FitB p):=Lib.hid fun q hq=>hf.2 q.t (by rw [(t_parts t).2.2];exact List.mem_map_of_mem hq)
 rw [HVAL.out]
 obtain ⟨ks,hks⟩:∃ ks,ks=t.kids:=⟨_,rfl⟩
 rw [←hks] at hko hkl HTK HVAL HFK ⊢
 clear h hTT hf hks
 generalize t.tag=tag at *
 generalize t.ba=ba at *
 generalize t.bc=bc at *
 generalize t.body.length=n at *
 generalize t.ka=ka at *
 generalize t.kc=kc at *
 obtain ⟨kn,hkn⟩:∃ k,k=ks.length:=⟨_,rfl⟩
 have HKN:=Lib.hid hkn
 rw [←hkn] at hkl HVAL ⊢
 have hH1:=(Holds.fresh w 32 #[.int .u8 (tag:Int),.slice ba n bc,.slice ka kn kc]).alloc (.cells #[.slice none 0 0,.int .i64 0,.int .i64 0,.slice none 0 0,.slice none 0 0] 26)
 have hz:=Holds.fresh (w.alloc (.cells #[.int .u8 (tag:Int),.slice ba n bc,.slice ka kn kc] 32)) 26 #[.slice none 0 0,.int .i64 0,.int .i64 0,.slice none 0 0,.slice none 0 0]
 rw [show (w.alloc (.cells #[.int .u8 (tag:Int),.slice ba n bc,.slice ka kn kc] 32)).heap.size=w.heap.size+1 by simp] at hz
 have hq0:Below w.heap.size w ((w.alloc (.cells #[.int .u8 (tag:Int),.slice ba n bc,.slice ka kn kc] 32)).alloc (.cells #[.slice none 0 0,.int .i64 0,.int .i64 0,.slice none 0 0,.slice none 0 0] 26)):=((Below.refl _ _).alloc (Nat.le_refl _) _).alloc (by simp) _
 have HGS:=Lib.hid (getSeq'_any ((w.alloc (.cells #[.int .u8 (tag:Int),.slice ba n bc,.slice ka kn kc] 32)).alloc (.cells #[.slice none 0 0,.int .i64 0,.int .i64 0,.slice none 0 0,.slice none 0 0] 26)) [] tag n bc kn kc 48 ba ka ks (hko.under hq0) hkn.symm (by omega))
 have c0:=hH1.cell 0
 have c1:=hH1.cell 1
 have c2:=hH1.cell 2
 have HB0:=Lib.hid hq0
 have HZ:=Lib.hid hz
 have HH1:=Lib.hid hH1
 clear hko hkn hH1 hq0 hz
 rcases hsq:seqOk tag n 48 with _ | _
 case false =>
  have HNO:Hid (GetCNo T):=Lib.hid fun v _ h2=>by
   have:=HTK.out.2
   rw [←h2,hsq] at this
   cases this
  rw [hsq] at HGS
  go_enter Tryz.func20,Tryz.ntmps20
  go_wp2_with fail
  refine HGS.out.mono ?_
  rintro e w3 ⟨rfl,hb3⟩
  have HW:=Lib.hid hb3
  clear hb3 HGS c0 c1 c2
  have hz9:=HZ.out.under HW.out HZ.out.lt
  have HZ9:=Lib.hid hz9
  have z0:=hz9.cell 0
  have y0:=hz9.open_ 0
  have z1:=hz9.cell 1
  have y1:=hz9.open_ 1
  have z2:=hz9.cell 2
  have y2:=hz9.open_ 2
  have z3:=hz9.cell 3
  have y3:=hz9.open_ 3
  have z4:=hz9.cell 4
  have y4:=hz9.open_ 4
  clear hz9
  have HBE:=Lib.hid (HB0.out.trans (HW.out.mono HB0.out.size))
  go_wp2_with fail
  exact ret_crl rfl rfl rfl (((((HZ9.out.stored 0 _).stored 1 _).stored 2 _).stored 3 _).stored 4 _) rfl (.inr ⟨rfl,HNO.out,below_five HBE.out _ (by omega) _ _ _ _ _⟩)
 rw [hsq] at HGS
 clear hsq
 have HK3:Hid (∀ v,clTr v=T→ks.map Lt.t=[clBody v,.mk 3 (0 :: v.sig) []]):=Lib.hid fun v hv=>by
  have:=HTK.out.1
  rw [←hv] at this
  exact this.symm
 by_cases h3:kn=2
 case neg =>
  have d1:((kn:Int) == 2)=false:=by rw [beq_eq_false_iff_ne];omega
  have d1':((kn:Int) != 2)=true:=by rw [bne,d1];rfl
  have HNO:Hid (GetCNo T):=Lib.hid fun v _ h2=>by
   have:=congrArg List.length (HK3.out v h2)
   rw [List.length_map,←HKN.out] at this
   exact h3 this
  go_enter Tryz.func20,Tryz.ntmps20
  go_wp2_with fail
  refine HGS.out.mono ?_
  rintro e w3 ⟨A3,c3,rfl,hk3,hb3⟩
  rw [←HKN.out]
  have HW:=Lib.hid hb3
  clear hb3 HGS hk3 c0 c1 c2
  have hz9:=HZ.out.under HW.out HZ.out.lt
  have HZ9:=Lib.hid hz9
  have z0:=hz9.cell 0
  have y0:=hz9.open_ 0
  have z1:=hz9.cell 1
  have y1:=hz9.open_ 1
  have z2:=hz9.cell 2
  have y2:=hz9.open_ 2
  have z3:=hz9.cell 3
  have y3:=hz9.open_ 3
  have z4:=hz9.cell 4
  have y4:=hz9.open_ 4
  clear hz9
  have HBE:=Lib.hid (HB0.out.trans (HW.out.mono HB0.out.size))
  go_wp2_with fail
  exact ret_crl rfl rfl rfl (((((HZ9.out.stored 0 _).stored 1 _).stored 2 _).stored 3 _).stored 4 _) rfl (.inr ⟨rfl,HNO.out,below_five HBE.out _ (by omega) _ _ _ _ _⟩)
 subst h3
 go_enter Tryz.func20,Tryz.ntmps20
 go_wp2_with fail
 refine HGS.out.mono ?_
 rintro e w3 ⟨A3,c3,rfl,hk3,hb3⟩
 rw [←HKN.out]
 have HW3:=Lib.hid hb3
 have hm3:2≤c3:=by have:=hk3.at_.1.1;rw [←HKN.out] at this;exact this
 have hm63:=hk3.at_.1.2.1
 have l0:0<ks.length:=by rw [←HKN.out];omega
 have l1:1<ks.length:=by rw [←HKN.out];omega
 obtain ⟨g3,o3,rfl,hg3,hs0⟩:=KiP.cells (j:=0) hk3 l0
 obtain ⟨g3',o3',e3,_,hs1⟩:=KiP.cells (j:=1) hk3 l1
 injection e3 with e3
 injection e3 with e3 e3'
 subst e3 e3'
 have hp0:=KiP.kid hk3 (j:=0) l0
 have hp1:=KiP.kid hk3 (j:=1) l1
 have HF0:=Lib.hid (HFK.out _ (getD_mem (l:=ks) l0))
 have HF1:=Lib.hid (HFK.out _ (getD_mem (l:=ks) l1))
 have HKE:Hid (∀ v,clTr v=T→(ks.getD 0 default).t=clBody v∧(ks.getD 1 default).t = .mk 3 (0 :: v.sig) []):=Lib.hid fun v hv=>by
  have h:=HK3.out v hv
  refine ⟨?_,?_⟩
  ·rw [←lt_at l0,h];rfl
  ·rw [←lt_at l1,h];rfl
 obtain ⟨k0,hk0⟩:∃ q,q=ks.getD 0 default:=⟨_,rfl⟩
 obtain ⟨k1,hk1⟩:∃ q,q=ks.getD 1 default:=⟨_,rfl⟩
 rw [←hk0] at hs0 hp0 HF0
 rw [←hk1] at hs1 hp1 HF1
 rw [←hk0,←hk1] at HKE
 simp only [Nat.zero_mul,Nat.add_zero,Nat.one_mul,Nat.add_assoc,Nat.reduceAdd,Nat.reduceMul] at hs0 hs1
 have HS1:=Lib.hid hs1
 obtain ⟨a0,a1,a2⟩:=hs0 w3 (Below.refl _ _)
 have HGB:Hid (∀ W,Below w3.heap.size w3 W→Calls Tryz.prog 60 #[.agg #[.int .u8 (k1.tag:Int),.slice k1.ba k1.body.length k1.bc,.slice k1.ka k1.kids.length k1.kc]] W (GetBR W (bitsOf k1.t.tag k1.t.kids.length k1.t.body))):=Lib.hid fun W hW=>by
  have h:Rd .u8 W W.heap.size k1.ba k1.bc k1.body:=by
   obtain ⟨tag,ba,bc,body,ka,kc,kids⟩:=k1
   exact (ThP.iff.1 (hp1.under hW).at_).2.1
  have h12:=HF1.out.2.1
  rw [(t_parts k1).2.1] at h12
  rw [(t_parts k1).1,(t_parts k1).2.1,(t_parts k1).2.2,List.length_map]
  exact getBitsR_any W k1.tag k1.body.length k1.bc k1.kids.length k1.kc W.heap.size k1.ba k1.ka k1.body h rfl (Nat.le_refl _) h12
 have HOC:Hid (∀ x∈k1.t.body,x<256):=Lib.hid (by
  rw [(t_parts k1).2.1]
  obtain ⟨tag,ba,bc,body,ka,kc,kids⟩:=k1
  exact (ThP.iff.1 hp1.at_).2.2.1)
 have hkk:Off [] (KiP k0.ka k0.kc k0.kids) w3:=by
  obtain ⟨tag,ba,bc,body,ka,kc,kids⟩:=k0
  exact kids_off hp0
 have hkl0:k0.kids.length≤100000:=by have:=HF0.out.1;rw [(t_parts k0).2.2,List.length_map] at this;exact this
 have HGT:Hid (Calls Tryz.prog 56 #[.agg #[.int .u8 (k0.tag:Int),.slice k0.ba k0.body.length k0.bc,.slice k0.ka k0.kids.length k0.kc],.int .u8 48] w3 (SeqPost w3 [] k0.kids (seqOk k0.tag k0.body.length 48))):=Lib.hid (getSeq'_any w3 [] k0.tag k0.body.length k0.bc k0.kids.length k0.kc 48 k0.ba k0.ka k0.kids hkk rfl (by omega))
 have HFQ:Hid (∀ p∈k0.kids,FitG p.t∧FitS p.t∧Fit3 p.t∧FitB p.t):=Lib.hid fun p hp=>HF0.out.2.2 p.t (by rw [(t_parts k0).2.2];exact List.mem_map_of_mem hp)
 obtain ⟨qs,hqs⟩:∃ q,q=k0.kids:=⟨_,rfl⟩
 obtain ⟨qn,hqn⟩:∃ m,m=k0.kids.length:=⟨_,rfl⟩
 obtain ⟨qb,hqb⟩:∃ m,m=k0.body.length:=⟨_,rfl⟩
 have HQN:Hid (qn=qs.length):=Lib.hid (by rw [hqn,hqs])
 have HQE:Hid (∀ v,clTr v=T→seqOk k0.tag qb 48=true∧qs.map Lt.t=[dnTr v.iss,.mk 48 [] [timeTr v.at_,timeTr v.next],.mk 48 [] (v.gone.map gnTr)]):=Lib.hid fun v hv=>by
  have h:=(HKE.out v hv).1
  have hq:=t_parts k0
  rw [h] at hq
  refine ⟨?_,?_⟩
  ·rw [hqb,←hq.1,←hq.2.1];rfl
  ·rw [hqs,←hq.2.2];rfl
 have HSE:Hid (∀ v,clTr v=T→bitsOf k1.t.tag k1.t.kids.length k1.t.body=some v.sig):=Lib.hid fun v hv=>bits_is (HKE.out v hv).2
 rw [←hqn] at a2 hkl0
 rw [←hqb] at a1
 rw [←hqn,←hqb,←hqs] at HGT
 rw [←hqs] at HFQ
 clear HF0 HF1 HFK HK3 HTK hk0 hk1 hs0 hs1 hp0 hp1 hk3 HGS c0 c1 c2 l0 l1 hg3 hkk HKE hqs hqn hqb
 obtain ⟨BO,hBO⟩:∃ b,b=bitsOf k1.t.tag k1.t.kids.length k1.t.body:=⟨_,rfl⟩
 have HOS:Hid (∀ x∈BO.getD [],x<256):=Lib.hid fun x hx=>by
  rw [hBO] at hx
  unfold bitsOf at hx
  split at hx
  ·exact HOC.out x (List.mem_of_mem_drop hx)
  ·simp at hx
 rw [←hBO] at HSE HGB
 clear hBO HOC
 generalize k0.tag=f1 at *
 generalize k0.ba=f2 at *
 generalize k0.bc=f3 at *
 generalize k0.ka=f5 at *
 generalize k0.kc=f7 at *
 generalize k1.tag=d1 at *
 generalize k1.ba=d2 at *
 generalize k1.bc=d3 at *
 generalize k1.body.length=d4 at *
 generalize k1.ka=d5 at *
 generalize k1.kids.length=d6 at *
 generalize k1.kc=d7 at *
 have hb3':=HW3.out
 rcases hsq:seqOk f1 qb 48 with _ | _
 case false =>
  have HNO:Hid (GetCNo T):=Lib.hid fun v hv h2=>by
   have:=(HQE.out v h2).1
   rw [hsq] at this
   cases this
  rw [hsq] at HGT
  go_wp2_with fail
  refine HGT.out.mono ?_
  rintro e w4 ⟨rfl,hb4⟩
  have HW:=Lib.hid (HW3.out.trans (hb4.mono HW3.out.size))
  clear hb4 a0 a1 a2 HGT
  have hz9:=HZ.out.under HW.out HZ.out.lt
  have HZ9:=Lib.hid hz9
  have z0:=hz9.cell 0
  have y0:=hz9.open_ 0
  have z1:=hz9.cell 1
  have y1:=hz9.open_ 1
  have z2:=hz9.cell 2
  have y2:=hz9.open_ 2
  have z3:=hz9.cell 3
  have y3:=hz9.open_ 3
  have z4:=hz9.cell 4
  have y4:=hz9.open_ 4
  clear hz9
  have HBE:=Lib.hid (HB0.out.trans (HW.out.mono HB0.out.size))
  go_wp2_with fail
  exact ret_crl rfl rfl rfl (((((HZ9.out.stored 0 _).stored 1 _).stored 2 _).stored 3 _).stored 4 _) rfl (.inr ⟨rfl,HNO.out,below_five HBE.out _ (by omega) _ _ _ _ _⟩)
 rw [hsq] at HGT
 clear hsq
 by_cases h3:qn=3
 case neg =>
  have d1:((qn:Int) == 3)=false:=by rw [beq_eq_false_iff_ne];omega
  have d1':((qn:Int) != 3)=true:=by rw [bne,d1];rfl
  have HNO:Hid (GetCNo T):=Lib.hid fun v hv h2=>by
   have:=congrArg List.length (HQE.out v h2).2
   rw [List.length_map,←HQN.out] at this
   exact h3 this
  go_wp2_with fail
  refine HGT.out.mono ?_
  rintro e w4 ⟨A4,c4,rfl,hk4,hb4⟩
  rw [←HQN.out]
  have HW:=Lib.hid (HW3.out.trans (hb4.mono HW3.out.size))
  clear hb4 hk4 a0 a1 a2 HGT
  have hz9:=HZ.out.under HW.out HZ.out.lt
  have HZ9:=Lib.hid hz9
  have z0:=hz9.cell 0
  have y0:=hz9.open_ 0
  have z1:=hz9.cell 1
  have y1:=hz9.open_ 1
  have z2:=hz9.cell 2
  have y2:=hz9.open_ 2
  have z3:=hz9.cell 3
  have y3:=hz9.open_ 3
  have z4:=hz9.cell 4
  have y4:=hz9.open_ 4
  clear hz9
  have HBE:=Lib.hid (HB0.out.trans (HW.out.mono HB0.out.size))
  go_wp2_with fail
  exact ret_crl rfl rfl rfl (((((HZ9.out.stored 0 _).stored 1 _).stored 2 _).stored 3 _).stored 4 _) rfl (.inr ⟨rfl,HNO.out,below_five HBE.out _ (by omega) _ _ _ _ _⟩)
 subst h3
 go_wp2_with fail
 refine HGT.out.mono ?_
 rintro e w4 ⟨A4,c4,rfl,hk4,hb4⟩
 rw [←HQN.out]
 have HW4:=Lib.hid (HW3.out.trans (hb4.mono HW3.out.size))
 have HB4:=Lib.hid hb4
 have hm4:3≤c4:=by have:=hk4.at_.1.1;rw [←HQN.out] at this;exact this
 have hm463:=hk4.at_.1.2.1
 have l0:0<qs.length:=by rw [←HQN.out];omega
 have l1:1<qs.length:=by rw [←HQN.out];omega
 have l2:2<qs.length:=by rw [←HQN.out];omega
 obtain ⟨g4,o4,rfl,hg4,hs0⟩:=KiP.cells (j:=0) hk4 l0
 obtain ⟨g4',o4',e4,_,hs1⟩:=KiP.cells (j:=1) hk4 l1
 injection e4 with e4
 injection e4 with e4 e4'
 subst e4 e4'
 obtain ⟨g4',o4',e4,_,hs2⟩:=KiP.cells (j:=2) hk4 l2
 injection e4 with e4
 injection e4 with e4 e4'
 subst e4 e4'
 have hp0:=KiP.kid hk4 (j:=0) l0
 have hp1:=KiP.kid hk4 (j:=1) l1
 have hp2:=KiP.kid hk4 (j:=2) l2
 have HF0:=Lib.hid (HFQ.out _ (getD_mem (l:=qs) l0)).1
 have HF1:=Lib.hid (HFQ.out _ (getD_mem (l:=qs) l1)).2.1
 have HF2:=Lib.hid (HFQ.out _ (getD_mem (l:=qs) l2)).2.2
 have HQK:Hid (∀ v,clTr v=T→(qs.getD 0 default).t=dnTr v.iss∧(qs.getD 1 default).t = .mk 48 [] [timeTr v.at_,timeTr v.next]∧(qs.getD 2 default).t = .mk 48 [] (v.gone.map gnTr)):=Lib.hid fun v hv=>by
  have h:=(HQE.out v hv).2
  refine ⟨?_,?_,?_⟩
  ·rw [←lt_at l0,h];rfl
  ·rw [←lt_at l1,h];rfl
  ·rw [←lt_at l2,h];rfl
 obtain ⟨q0,hq0⟩:∃ q,q=qs.getD 0 default:=⟨_,rfl⟩
 obtain ⟨q1,hq1⟩:∃ q,q=qs.getD 1 default:=⟨_,rfl⟩
 obtain ⟨q2,hq2⟩:∃ q,q=qs.getD 2 default:=⟨_,rfl⟩
 rw [←hq0] at hs0 hp0 HF0
 rw [←hq1] at hs1 hp1 HF1
 rw [←hq2] at hs2 hp2 HF2
 rw [←hq0,←hq1,←hq2] at HQK
 simp only [Nat.zero_mul,Nat.add_zero,Nat.one_mul,Nat.add_assoc,Nat.reduceAdd,Nat.reduceMul] at hs0 hs1 hs2
 have HQ0:=Lib.hid hs0
 have HQ1:=Lib.hid hs1
 have HQ2:=Lib.hid hs2
 have HGD:Hid (∀ W,Below w4.heap.size w4 W→Calls Tryz.prog 57 #[.agg #[.int .u8 (q0.tag:Int),.slice q0.ba q0.body.length q0.bc,.slice q0.ka q0.kids.length q0.kc]] W (GetDPost W q0.t)):=Lib.hid fun W hW=>getD'_any W q0 (hp0.under hW) HF0.out
 have HSP:Hid (∀ W,Below w4.heap.size w4 W→Calls Tryz.prog 58 #[.agg #[.int .u8 (q1.tag:Int),.slice q1.ba q1.body.length q1.bc,.slice q1.ka q1.kids.length q1.kc]] W fun e w'=>∃ (a p:Int) (ok:Bool),e = .returned (.tuple #[.int .i64 a,.int .i64 p,.bool ok]) ∧
   (∀ t1 t2:Int,(-631152000≤t1∧t1≤253402300799)→(-631152000≤t2∧t2≤253402300799)→q1.t = .mk 48 [] [timeTr t1,timeTr t2]→a=t1∧p=t2)∧Below W.heap.size W w'):=Lib.hid fun W hW=>span_any W q1 (hp1.under hW) HF1.out
 have HGG:Hid (∀ W,Below w4.heap.size w4 W→w4.heap.size<W.heap.size→Calls Tryz.prog 59 #[.agg #[.int .u8 (q2.tag:Int),.slice q2.ba q2.body.length q2.bc,.slice q2.ka q2.kids.length q2.kc]] W (SerPost W [w4.heap.size,w.heap.size+1] q2.t)):=Lib.hid fun W hW hlt=>gone'_any W [w4.heap.size,w.heap.size+1] q2 (hp2.under hW) HF2.out.1 HF2.out.2 (fun x hx=>by
  have h1:=HZ.out.lt
  have h2:=HW4.out.size
  simp only [List.mem_cons,List.not_mem_nil,or_false] at hx
  rcases hx with rfl | rfl <;> omega)
 clear HF0 HF1 HF2 HFQ HQE hq0 hq1 hq2 hs0 hs1 hs2 hp0 hp1 hp2 hk4 HGT a0 a1 a2 l0 l1 l2 hg4
 obtain ⟨Q0,hQ0⟩:∃ K,K=q0.t:=⟨_,rfl⟩
 obtain ⟨Q1,hQ1⟩:∃ K,K=q1.t:=⟨_,rfl⟩
 obtain ⟨Q2,hQ2⟩:∃ K,K=q2.t:=⟨_,rfl⟩
 rw [←hQ0] at HQK HGD
 rw [←hQ1] at HQK HSP
 rw [←hQ2] at HQK HGG
 clear hQ0 hQ1 hQ2
 generalize q0.tag=f1 at *
 generalize q0.ba=f2 at *
 generalize q0.bc=f3 at *
 generalize q0.body.length=f4 at *
 generalize q0.ka=f5 at *
 generalize q0.kids.length=f6 at *
 generalize q0.kc=f7 at *
 generalize q1.tag=x1 at *
 generalize q1.ba=x2 at *
 generalize q1.bc=x3 at *
 generalize q1.body.length=x4 at *
 generalize q1.ka=x5 at *
 generalize q1.kids.length=x6 at *
 generalize q1.kc=x7 at *
 generalize q2.tag=y1 at *
 generalize q2.ba=y2 at *
 generalize q2.bc=y3 at *
 generalize q2.body.length=y4 at *
 generalize q2.ka=y5 at *
 generalize q2.kids.length=y6 at *
 generalize q2.kc=y7 at *
 have hbx:=Holds.fresh w4 26 #[.slice none 0 0,.int .i64 0,.int .i64 0,.slice none 0 0,.slice none 0 0]
 have h45:Below w4.heap.size w4 (w4.alloc (.cells #[.slice none 0 0,.int .i64 0,.int .i64 0,.slice none 0 0,.slice none 0 0] 26)):=(Below.refl _ _).alloc (Nat.le_refl _) _
 obtain ⟨V5,hV5⟩:∃ V5,V5=w4.alloc (.cells #[.slice none 0 0,.int .i64 0,.int .i64 0,.slice none 0 0,.slice none 0 0] 26):=⟨_,rfl⟩
 rw [←hV5] at hbx h45
 have HE:=Lib.hid hV5
 have HBX:=Lib.hid hbx
 have H5:=Lib.hid h45
 obtain ⟨e0,e1,e2⟩:=HQ0.out V5 H5.out
 rw [hV5] at e0 e1 e2
 clear hbx h45 hV5 hb4 hb3 hb3' HQ0
 go_wp2_with fail
 rw [←HE.out]
 refine (HGD.out V5 H5.out).mono ?_
 intro e w6 hpo
 obtain ⟨ia,ic,iss,ok1,rfl,hr6,hd6,hi6,hb6⟩:=hpo.one
 have HI:Hid (∀ v,CvM v→clTr v=T→iss=v.iss):=Lib.hid fun v hv h2=>hi6 v.iss (crlOk_parts hv.1).1 (HQK.out v h2).1.symm
 have HD6:=Lib.hid hd6
 obtain ⟨isn,hisn⟩:∃ k,iss.length=k:=⟨_,rfl⟩
 have HISN:=Lib.hid hisn
 rw [hisn]
 have hbx6:=HBX.out.under hb6 HBX.out.lt
 have x0:=hbx6.cell 0
 have n0:=hbx6.open_ 0
 have HNS:Hid (NoStr [w4.heap.size,w.heap.size+1] w6):=Lib.hid fun x hx=>by
  have hz:=HZ.out.under (HW4.out.trans ((H5.out.trans (hb6.mono H5.out.size)).mono HW4.out.size)) HZ.out.lt
  simp only [List.mem_cons,List.not_mem_nil,or_false] at hx
  rcases hx with rfl | rfl
  ·exact ⟨hbx6.lt,noStr_box hbx6⟩
  ·exact ⟨hz.lt,noStr_box hz⟩
 have ho6:=off_name0 hr6 HD6.out HNS.out
 have ho:=ho6.store (p:=⟨w4.heap.size,0,none⟩) (by simp) (.slice ia isn ic)
 have hs6:=hbx6.stored 0 (.slice ia isn ic)
 have hw6:Below w4.heap.size w4 (w6.setCell ⟨w4.heap.size,0,none⟩ (.slice ia isn ic)):=(H5.out.trans (hb6.mono H5.out.size)).setCell (p:=⟨w4.heap.size,0,none⟩) (Nat.le_refl _) _
 obtain ⟨V6,hV6⟩:∃ V,V=w6.setCell ⟨w4.heap.size,0,none⟩ (.slice ia isn ic):=⟨_,rfl⟩
 rw [←hV6] at ho hs6 hw6
 clear HBX H5 HE
 have HE:=Lib.hid hV6
 have HBX:Hid (Holds V6 w4.heap.size 26 #[.slice ia isn ic,.int .i64 0,.int .i64 0,.slice none 0 0,.slice none 0 0]):=Lib.hid hs6
 have HO6:=Lib.hid ho
 have H6:=Lib.hid hw6
 obtain ⟨i0,i1,i2⟩:=HQ1.out V6 H6.out
 rw [hV6] at i0 i1 i2
 clear hpo hr6 hd6 hi6 hb6 hisn hbx6 HNS ho6 ho hs6 hw6 hV6 e0 e1 e2 HGD HQ1
 go_wp2_with fail
 rw [←HE.out]
 clear x0 n0
 refine (HSP.out V6 H6.out).mono ?_
 rintro e w7 ⟨ta,tn,ok2,rfl,ht7,hb7⟩
 have HT7:Hid (∀ v,CvM v→clTr v=T→ta=v.at_∧tn=v.next):=Lib.hid fun v hv h2=>ht7 _ _ (crlOk_parts hv.1).2.1 (crlOk_parts hv.1).2.2.1 (HQK.out v h2).2.1
 have hbx7:=HBX.out.under hb7 HBX.out.lt
 have x1:=hbx7.cell 1
 have n1:=hbx7.open_ 1
 have x2:=hbx7.cell 2
 have n2:=hbx7.open_ 2
 have ho:=((HO6.out.under hb7).store (p:=⟨w4.heap.size,1,none⟩) (by simp) (.int .i64 ta)).store (p:=⟨w4.heap.size,2,none⟩) (by simp) (.int .i64 tn)
 have hs7:=(hbx7.stored 1 (.int .i64 ta)).stored 2 (.int .i64 tn)
 have hw7:Below w4.heap.size w4 ((w7.setCell ⟨w4.heap.size,1,none⟩ (.int .i64 ta)).setCell ⟨w4.heap.size,2,none⟩ (.int .i64 tn)):=((H6.out.trans (hb7.mono H6.out.size)).setCell (p:=⟨w4.heap.size,1,none⟩) (Nat.le_refl _) _).setCell (p:=⟨w4.heap.size,2,none⟩) (Nat.le_refl _) _
 obtain ⟨V7,hV7⟩:∃ V,V=(w7.setCell ⟨w4.heap.size,1,none⟩ (.int .i64 ta)).setCell ⟨w4.heap.size,2,none⟩ (.int .i64 tn):=⟨_,rfl⟩
 rw [←hV7] at ho hs7 hw7
 clear HBX HE HO6 H6
 have HE:=Lib.hid hV7
 have HBX:Hid (Holds V7 w4.heap.size 26 #[.slice ia isn ic,.int .i64 ta,.int .i64 tn,.slice none 0 0,.slice none 0 0]):=Lib.hid hs7
 have HO7:=Lib.hid ho
 have H7:=Lib.hid hw7
 obtain ⟨e0,e1,e2⟩:=HQ2.out V7 H7.out
 rw [hV7] at e0 e1 e2
 clear ht7 hb7 hbx7 ho hs7 hw7 hV7 i0 i1 i2 HSP HQ2
 go_wp2_with fail
 rw [←HE.out]
 clear x1 x2 n1 n2
 refine (HGG.out V7 H7.out HBX.out.lt).mono ?_
 intro e w8 hpo
 obtain ⟨ga,gc,gone,ok3,rfl,ho8,hl8,ht8,hf8,hb8⟩:=hpo.one
 have HA8:Hid (ok3=true→∀ v,CvM v→clTr v=T→gone.map Gn.v=v.gone):=Lib.hid fun ho v hv h2=>ht8 ho v.gone hv.gones (HQK.out v h2).2.2
 have HVO:Hid (ok3=false→GetCNo T):=Lib.hid fun ho v hv h2=>hf8 ho v.gone hv.gones (crlOk_parts hv.1).2.2.2.2.1 (HQK.out v h2).2.2
 obtain ⟨gn,hgn⟩:∃ k,gone.length=k:=⟨_,rfl⟩
 have HGN:=Lib.hid hgn
 rw [hgn]
 have hbx8:=HBX.out.under hb8 HBX.out.lt
 have x3:=hbx8.cell 3
 have n3:=hbx8.open_ 3
 have ho:=((HO7.out.under hb8).and ho8).store (p:=⟨w4.heap.size,3,none⟩) (by simp) (.slice ga gn gc)
 have hs8:=hbx8.stored 3 (.slice ga gn gc)
 have hw8:Below w4.heap.size w4 (w8.setCell ⟨w4.heap.size,3,none⟩ (.slice ga gn gc)):=(H7.out.trans (hb8.mono H7.out.size)).setCell (p:=⟨w4.heap.size,3,none⟩) (Nat.le_refl _) _
 obtain ⟨V8,hV8⟩:∃ V,V=w8.setCell ⟨w4.heap.size,3,none⟩ (.slice ga gn gc):=⟨_,rfl⟩
 rw [←hV8] at ho hs8 hw8
 clear HBX HE HO7 H7
 have HE:=Lib.hid hV8
 have HBX:Hid (Holds V8 w4.heap.size 26 #[.slice ia isn ic,.int .i64 ta,.int .i64 tn,.slice ga gn gc,.slice none 0 0]):=Lib.hid hs8
 have HO8:=Lib.hid ho
 have H8:=Lib.hid hw8
 have H38:=Lib.hid (HB4.out.trans (H8.out.mono HB4.out.size))
 obtain ⟨i0,i1,i2⟩:=HS1.out V8 H38.out
 rw [hV8] at i0 i1 i2
 clear hpo ho8 hl8 ht8 hf8 hb8 hgn hbx8 ho hs8 hw8 hV8 e0 e1 e2 HGG HS1 HQK
 go_wp2_with fail
 rw [←HE.out]
 clear x3 n3
 refine (HGB.out V8 H38.out).mono ?_
 intro e w9 hpo
 obtain ⟨sa,sc,rfl,hr9,hn9,hb9⟩:=hpo.one
 obtain ⟨sig,hsig⟩:∃ s,s=BO.getD []:=⟨_,rfl⟩
 rw [←hsig] at hr9 HOS
 rw [←hsig]
 have HSG:Hid (∀ v,clTr v=T→sig=v.sig):=Lib.hid fun v hv=>by rw [hsig,HSE.out v hv];rfl
 obtain ⟨sn,hsn⟩:∃ k,sig.length=k:=⟨_,rfl⟩
 rw [hsn]
 obtain ⟨okb,hokb⟩:∃ b,b=BO.isSome:=⟨_,rfl⟩
 rw [←hokb]
 have hbx9:=HBX.out.under hb9 HBX.out.lt
 have x4:=hbx9.cell 4
 have y4:=hbx9.open_ 4
 obtain ⟨CLV,hCL⟩:∃ c:Cl,c=⟨ia,ic,iss,ta,tn,ga,gc,gone,sa,sc,sig⟩:=⟨_,rfl⟩
 have HCE:Hid ((ccell CLV).toArray=#[.slice ia isn ic,.int .i64 ta,.int .i64 tn,.slice ga gn gc,.slice sa sn sc]):=Lib.hid (by rw [hCL,←HISN.out,←HGN.out,←hsn];rfl)
 have hcl:Off [w.heap.size+1] (ClP CLV) (w9.setCell ⟨w4.heap.size,4,none⟩ (.slice sa sn sc)):=by
  have o2:Off [w4.heap.size,w.heap.size+1] (fun W=>Rd .u8 W W.heap.size sa sc sig) w9:=Off.of_new hr9 (Nat.le_refl _) (fun g hg hx=>by
   have h1:=hn9 g hg
   have h2:=HZ.out.lt
   have h3:=HW4.out.size
   have h4:=HBX.out.lt
   simp only [List.mem_cons,List.not_mem_nil,or_false] at hx
   rcases hx with rfl | rfl <;> omega)
  refine (((HO8.out.under hb9).and o2).store (p:=⟨w4.heap.size,4,none⟩) (by simp) _).less (fun g hg=>by simp only [List.mem_cons,List.not_mem_nil,or_false] at hg ⊢;exact .inr hg) |>.imp fun W hW=>?_
  rw [hCL]
  exact ⟨hW.1.1,hW.1.2,hW.2,HOS.out⟩
 have hLZ:Holds (w9.setCell ⟨w4.heap.size,4,none⟩ (.slice sa sn sc)) w4.heap.size 26 #[.slice ia isn ic,.int .i64 ta,.int .i64 tn,.slice ga gn gc,.slice sa sn sc]:=hbx9.stored 4 _
 have hVZ:Below ((w.alloc (.cells #[.int .u8 (tag:Int),.slice ba n bc,.slice ka 2 kc] 32)).alloc (.cells #[.slice none 0 0,.int .i64 0,.int .i64 0,.slice none 0 0,.slice none 0 0] 26)).heap.size ((w.alloc (.cells #[.int .u8 (tag:Int),.slice ba n bc,.slice ka 2 kc] 32)).alloc (.cells #[.slice none 0 0,.int .i64 0,.int .i64 0,.slice none 0 0,.slice none 0 0] 26)) (w9.setCell ⟨w4.heap.size,4,none⟩ (.slice sa sn sc)):=(HW4.out.trans ((H8.out.trans (hb9.mono H8.out.size)).mono HW4.out.size)).setCell (p:=⟨w4.heap.size,4,none⟩) HW4.out.size _
 obtain ⟨Z,hZ⟩:∃ Z,Z=w9.setCell ⟨w4.heap.size,4,none⟩ (.slice sa sn sc):=⟨_,rfl⟩
 rw [←hZ] at hcl hLZ hVZ
 have HZE:=Lib.hid hZ
 have HCF:=Lib.hid hcl
 have HVZ:=Lib.hid hVZ
 have HLZ:=Lib.hid hLZ
 have HLC:Hid (∀ W,Below Z.heap.size Z W→W.cell? ⟨w4.heap.size,0,none⟩=some (.slice ia isn ic)∧W.cell? ⟨w4.heap.size,1,none⟩=some (.int .i64 ta)∧W.cell? ⟨w4.heap.size,2,none⟩=some (.int .i64 tn)∧W.cell? ⟨w4.heap.size,3,none⟩=some (.slice ga gn gc)∧W.cell? ⟨w4.heap.size,4,none⟩=some (.slice sa sn sc)):=Lib.hid fun W hW=>by
  have h:=HLZ.out.under hW HLZ.out.lt
  exact ⟨h.cell 0,h.cell 1,h.cell 2,h.cell 3,h.cell 4⟩
 have HNC:Hid (∀ W,Below Z.heap.size Z W→W.cell? ⟨w.heap.size,0,none⟩=some (.int .u8 (tag:Int))∧W.cell? ⟨w.heap.size,1,none⟩=some (.slice ba n bc)∧W.cell? ⟨w.heap.size,2,none⟩=some (.slice ka 2 kc)):=Lib.hid fun W hW=>by
  have h:=HH1.out.under (HVZ.out.trans (hW.mono HVZ.out.size)) HH1.out.lt
  exact ⟨h.cell 0,h.cell 1,h.cell 2⟩
 have HSZ:Hid (∀ x∈CLV.iss,(bts x.s).length≤9223372036854775807):=Lib.hid (by
  rw [hCL]
  intro x hx
  rcases HD6.out with h | h
  ·rw [h] at hx;cases hx
  ·have:=dnOk_len h x hx;omega)
 have HIS0:Hid (∀ W,Below Z.heap.size Z W→Calls Tryz.prog 6 #[.agg #[.slice ia isn ic,.int .i64 ta,.int .i64 tn,.slice ga gn gc,.slice sa sn sc]] W fun e w'=>e = .returned (.bool (crlOk CLV.v))∧Below W.heap.size W w'):=Lib.hid fun W hW=>by
  have:=crlIs'_any W CLV (HCF.out.under hW).at_
  rwa [HCE.out] at this
 have HIS:=HIS0
 have HDG:Hid (∀ g∈CLV.v.gone,Dg g.ser):=Lib.hid (by
  have h:=HCF.out.at_.2.1
  rw [hCL] at h ⊢
  intro g hg
  obtain ⟨q,hq,rfl⟩:=List.mem_map.1 hg
  exact (h.2 q hq).2)
 have HVE:Hid (ok3=true→∀ v,CvM v→clTr v=T→CLV.v=v):=Lib.hid fun ho v hv h2=>by
  have p1:=HI.out v hv h2
  obtain ⟨p2,p3⟩:=HT7.out v hv h2
  have p4:=HA8.out ho v hv h2
  have p5:=HSG.out v h2
  rw [hCL]
  obtain ⟨v1,v2,v3,v4,v5⟩:=v
  simp only [Cl.v] at *
  rw [p1,p2,p3,p4,p5]
 clear hcl hLZ hVZ hZ hpo hr9 hn9 hb9 hbx9 i0 i1 i2 hsn hsig hokb HSE HOS HGB HSG hCL HI HT7 HA8 HBX HO8 H8 H38 HE
 rcases ok3 with _ | _
 ·have HNO:=Lib.hid (HVO.out rfl)
  clear HVO HVE HIS HIS0
  go_wp2_with fail
  rw [←HZE.out]
  clear x4 y4
  refine wp_region_noPanic ?_
  refine wp_region_held_drew (S:=fun W=>Below Z.heap.size Z W) (by kernel_rfl) (Below.refl _ Z).drew (fun hHeld=>?_)
  refine wpAnyH_take (i:=0) (oi:={ dst:=some 74,op:=Op.move (Operand.tmp 10),type:=4,pos:=_,after:=_,guard:=none }) (v:=?_) rfl (by kernel_rfl) (by kernel_rfl) (by kernel_rfl) (fun _ _ _ h=>h) (Or.inl ⟨by rfl,?_⟩) hHeld ?_
  rotate_left 1
  ·(intro W hW;(try dsimp only at hW);go_simp;try with_reducible rfl)
  try simp only [Act.put,List.setIfInBounds_toArray,List.set_cons_zero,List.set_cons_succ]
  refine wpAnyH_take (i:=1) (oi:={ dst:=some 75,op:=Op.unOp UnOp.not 4 (Operand.tmp 74),type:=4,pos:=_,after:=_,guard:=none }) (v:=?_) rfl (by kernel_rfl) (by kernel_rfl) (by kernel_rfl) (fun _ _ _ h=>h) (Or.inl ⟨by rfl,?_⟩) hHeld ?_
  rotate_left 1
  ·(intro W hW;(try dsimp only at hW);go_simp;try with_reducible rfl)
  try simp only [Act.put,List.setIfInBounds_toArray,List.set_cons_zero,List.set_cons_succ]
  refine wpAnyH_take (i:=2) (oi:={ dst:=some 76,op:=Op.move (Operand.tmp 75),type:=4,pos:=_,after:=_,guard:=none }) (v:=?_) rfl (by kernel_rfl) (by kernel_rfl) (by kernel_rfl) (fun _ _ _ h=>h) (Or.inl ⟨by rfl,?_⟩) hHeld ?_
  rotate_left 1
  ·(intro W hW;(try dsimp only at hW);go_simp;try with_reducible rfl)
  try simp only [Act.put,List.setIfInBounds_toArray,List.set_cons_zero,List.set_cons_succ]
  refine wpAnyH_take (i:=3) (oi:={ dst:=some 77,op:=Op.load 26 (Operand.tmp 8),type:=26,pos:=_,after:=_,guard:=some (2,false) }) (v:=undef) rfl (by kernel_rfl) (by kernel_rfl) (by kernel_rfl) (fun _ _ _ h=>h) (Or.inr ⟨by rfl,rfl⟩) hHeld ?_
  try simp only [Act.put,List.setIfInBounds_toArray,List.set_cons_zero,List.set_cons_succ]
  refine wpAnyH_take (i:=4) (oi:={ dst:=some 78,op:=Op.call { callee:=Callee.value (Operand.func 6),args:=#[Operand.tmp 77],argTypes:=#[26] },type:=4,pos:=_,after:=_,guard:=some (2,false) }) (v:=undef) rfl (by kernel_rfl) (by kernel_rfl) (by kernel_rfl) (fun _ _ _ h=>h) (Or.inr ⟨by rfl,rfl⟩) hHeld ?_
  try simp only [Act.put,List.setIfInBounds_toArray,List.set_cons_zero,List.set_cons_succ]
  refine wpAnyH_take (i:=5) (oi:={ dst:=some 79,op:=Op.unOp UnOp.not 4 (Operand.tmp 78),type:=4,pos:=_,after:=_,guard:=some (2,false) }) (v:=undef) rfl (by kernel_rfl) (by kernel_rfl) (by kernel_rfl) (fun _ _ _ h=>h) (Or.inr ⟨by rfl,rfl⟩) hHeld ?_
  try simp only [Act.put,List.setIfInBounds_toArray,List.set_cons_zero,List.set_cons_succ]
  refine wpAnyH_take (i:=6) (oi:={ dst:=some 80,op:=Op.pick (Operand.tmp 76) (Operand.const (Value.bool true)) (Operand.tmp 79),type:=4,pos:=_,after:=_,guard:=none }) (v:=?_) rfl (by kernel_rfl) (by kernel_rfl) (by kernel_rfl) (fun _ _ _ h=>h) (Or.inl ⟨by rfl,?_⟩) hHeld ?_
  rotate_left 1
  ·(intro W hW;(try dsimp only at hW);go_simp;try with_reducible rfl)
  try simp only [Act.put,List.setIfInBounds_toArray,List.set_cons_zero,List.set_cons_succ]
  refine wpAnyH_take (i:=7) (oi:={ dst:=some 81,op:=Op.move (Operand.tmp 80),type:=4,pos:=_,after:=_,guard:=none }) (v:=?_) rfl (by kernel_rfl) (by kernel_rfl) (by kernel_rfl) (fun _ _ _ h=>h) (Or.inl ⟨by rfl,?_⟩) hHeld ?_
  rotate_left 1
  ·(intro W hW;(try dsimp only at hW);go_simp;try with_reducible rfl)
  try simp only [Act.put,List.setIfInBounds_toArray,List.set_cons_zero,List.set_cons_succ]
  refine wpAnyH_take (i:=8) (oi:={ dst:=some 82,op:=Op.load 26 (Operand.tmp 8),type:=26,pos:=_,after:=_,guard:=some (7,false) }) (v:=undef) rfl (by kernel_rfl) (by kernel_rfl) (by kernel_rfl) (fun _ _ _ h=>h) (Or.inr ⟨by rfl,rfl⟩) hHeld ?_
  try simp only [Act.put,List.setIfInBounds_toArray,List.set_cons_zero,List.set_cons_succ]
  refine wpAnyH_take (i:=9) (oi:={ dst:=some 83,op:=Op.call { callee:=Callee.value (Operand.func 12),args:=#[Operand.tmp 82],argTypes:=#[26] },type:=32,pos:=_,after:=_,guard:=some (7,false) }) (v:=undef) rfl (by kernel_rfl) (by kernel_rfl) (by kernel_rfl) (fun _ _ _ h=>h) (Or.inr ⟨by rfl,rfl⟩) hHeld ?_
  try simp only [Act.put,List.setIfInBounds_toArray,List.set_cons_zero,List.set_cons_succ]
  refine wpAnyH_take (i:=10) (oi:={ dst:=some 84,op:=Op.load 32 (Operand.tmp 1),type:=32,pos:=_,after:=_,guard:=some (7,false) }) (v:=undef) rfl (by kernel_rfl) (by kernel_rfl) (by kernel_rfl) (fun _ _ _ h=>h) (Or.inr ⟨by rfl,rfl⟩) hHeld ?_
  try simp only [Act.put,List.setIfInBounds_toArray,List.set_cons_zero,List.set_cons_succ]
  refine wpAnyH_take (i:=11) (oi:={ dst:=some 85,op:=Op.call { callee:=Callee.value (Operand.func 10),args:=#[Operand.tmp 83,Operand.tmp 84],argTypes:=#[32,32] },type:=4,pos:=_,after:=_,guard:=some (7,false) }) (v:=undef) rfl (by kernel_rfl) (by kernel_rfl) (by kernel_rfl) (fun _ _ _ h=>h) (Or.inr ⟨by rfl,rfl⟩) hHeld ?_
  try simp only [Act.put,List.setIfInBounds_toArray,List.set_cons_zero,List.set_cons_succ]
  refine wpAnyH_take (i:=12) (oi:={ dst:=some 86,op:=Op.unOp UnOp.not 4 (Operand.tmp 85),type:=4,pos:=_,after:=_,guard:=some (7,false) }) (v:=undef) rfl (by kernel_rfl) (by kernel_rfl) (by kernel_rfl) (fun _ _ _ h=>h) (Or.inr ⟨by rfl,rfl⟩) hHeld ?_
  try simp only [Act.put,List.setIfInBounds_toArray,List.set_cons_zero,List.set_cons_succ]
  refine wpAnyH_take (i:=13) (oi:={ dst:=some 87,op:=Op.pick (Operand.tmp 81) (Operand.const (Value.bool true)) (Operand.tmp 86),type:=4,pos:=_,after:=_,guard:=none }) (v:=?_) rfl (by kernel_rfl) (by kernel_rfl) (by kernel_rfl) (fun _ _ _ h=>h) (Or.inl ⟨by rfl,?_⟩) hHeld ?_
  rotate_left 1
  ·(intro W hW;(try dsimp only at hW);go_simp;try with_reducible rfl)
  try simp only [Act.put,List.setIfInBounds_toArray,List.set_cons_zero,List.set_cons_succ]
  refine wpAnyH_done (by kernel_rfl) ?_ _
  refine NoPanic.normal ?_
  have hz9:=HZ.out.under HVZ.out HZ.out.lt
  have HZ9:=Lib.hid hz9
  have z0:=hz9.cell 0
  have y0:=hz9.open_ 0
  have z1:=hz9.cell 1
  have y1:=hz9.open_ 1
  have z2:=hz9.cell 2
  have y2:=hz9.open_ 2
  have z3:=hz9.cell 3
  have y3:=hz9.open_ 3
  have z4:=hz9.cell 4
  have y4:=hz9.open_ 4
  clear hz9
  clear HZ9
  have HZ9:=Lib.hid (HZ.out.under (HVZ.out.trans ((Below.refl _ Z).drew.mono HVZ.out.size)) HZ.out.lt)
  have HBE:=Lib.hid (HB0.out.trans ((HVZ.out.trans ((Below.refl _ Z).drew.mono HVZ.out.size)).mono HB0.out.size))
  go_wp2_with fail
  exact ret_crl rfl rfl rfl (((((HZ9.out.stored 0 _).stored 1 _).stored 2 _).stored 3 _).stored 4 _) rfl (.inr ⟨rfl,HNO.out,below_five HBE.out _ (by omega) _ _ _ _ _⟩)
 rcases hxi:crlOk CLV.v with _ | _
 ·have HNO:Hid (GetCNo T):=Lib.hid fun v hv h2=>by
   have h3:=HVE.out rfl v hv h2
   rw [h3,hv.1] at hxi
   cases hxi
  rw [hxi] at HIS
  clear HVO HVE hxi HIS0
  go_wp2_with fail
  rw [←HZE.out]
  clear x4 y4
  refine wp_region_noPanic ?_
  refine wp_region_held_drew (S:=fun W=>Below Z.heap.size Z W) (by kernel_rfl) (Below.refl _ Z).drew (fun hHeld=>?_)
  refine wpAnyH_take (i:=0) (oi:={ dst:=some 74,op:=Op.move (Operand.tmp 10),type:=4,pos:=_,after:=_,guard:=none }) (v:=?_) rfl (by kernel_rfl) (by kernel_rfl) (by kernel_rfl) (fun _ _ _ h=>h) (Or.inl ⟨by rfl,?_⟩) hHeld ?_
  rotate_left 1
  ·(intro W hW;(try dsimp only at hW);go_simp;try with_reducible rfl)
  try simp only [Act.put,List.setIfInBounds_toArray,List.set_cons_zero,List.set_cons_succ]
  refine wpAnyH_take (i:=1) (oi:={ dst:=some 75,op:=Op.unOp UnOp.not 4 (Operand.tmp 74),type:=4,pos:=_,after:=_,guard:=none }) (v:=?_) rfl (by kernel_rfl) (by kernel_rfl) (by kernel_rfl) (fun _ _ _ h=>h) (Or.inl ⟨by rfl,?_⟩) hHeld ?_
  rotate_left 1
  ·(intro W hW;(try dsimp only at hW);go_simp;try with_reducible rfl)
  try simp only [Act.put,List.setIfInBounds_toArray,List.set_cons_zero,List.set_cons_succ]
  refine wpAnyH_take (i:=2) (oi:={ dst:=some 76,op:=Op.move (Operand.tmp 75),type:=4,pos:=_,after:=_,guard:=none }) (v:=?_) rfl (by kernel_rfl) (by kernel_rfl) (by kernel_rfl) (fun _ _ _ h=>h) (Or.inl ⟨by rfl,?_⟩) hHeld ?_
  rotate_left 1
  ·(intro W hW;(try dsimp only at hW);go_simp;try with_reducible rfl)
  try simp only [Act.put,List.setIfInBounds_toArray,List.set_cons_zero,List.set_cons_succ]
  refine wpAnyH_take (i:=3) (oi:={ dst:=some 77,op:=Op.load 26 (Operand.tmp 8),type:=26,pos:=_,after:=_,guard:=some (2,false) }) (v:=?_) rfl (by kernel_rfl) (by kernel_rfl) (by kernel_rfl) (fun _ _ _ h=>h) (Or.inl ⟨by rfl,?_⟩) hHeld ?_
  rotate_left 1
  ·(intro W hW;obtain ⟨l0,l1,l2,l3,l4⟩:=HLC.out W hW;(try dsimp only at hW);go_simp;try with_reducible rfl)
  try simp only [Act.put,List.setIfInBounds_toArray,List.set_cons_zero,List.set_cons_succ]
  refine wpAnyH_ready (rs:=[4]) (by kernel_rfl) (by simp) ?_
  refine AllReadyH.cons (o:={ dst:=some 78,op:=Op.call { callee:=Callee.value (Operand.func 6),args:=#[Operand.tmp 77],argTypes:=#[26] },type:=4,pos:=_,after:=_,guard:=some (2,false) }) rfl (fun K hK=>?_) AllReadyH.nil
  go_simp
  refine (HIS.out _ (Below.refl _ Z).drew).mono ?_
  rintro e w8 ⟨rfl,hb8⟩
  have b8:Hid (Below Z.heap.size Z w8):=Lib.hid ((Below.refl _ Z).drew.trans hb8)
  clear hb8
  go_simp
  refine hK.out _ _ (b8.out) (fun _=>?_)
  clear hK K hHeld
  try simp only [Act.put,List.setIfInBounds_toArray,List.set_cons_zero,List.set_cons_succ]
  refine wpAnyH_strong (S':=fun W=>Below w8.heap.size w8 W) (fun W hW=>b8.out.trans (hW.mono b8.out.size)) _ _ _ _ ?_
  have hHeld:(fun W=>Below w8.heap.size w8 W) w8:=Below.refl _ _
  refine wpAnyH_take (i:=5) (oi:={ dst:=some 79,op:=Op.unOp UnOp.not 4 (Operand.tmp 78),type:=4,pos:=_,after:=_,guard:=some (2,false) }) (v:=?_) rfl (by kernel_rfl) (by kernel_rfl) (by kernel_rfl) (fun _ _ _ h=>h) (Or.inl ⟨by rfl,?_⟩) hHeld ?_
  rotate_left 1
  ·(intro W hW;(try dsimp only at hW);go_simp;try with_reducible rfl)
  try simp only [Act.put,List.setIfInBounds_toArray,List.set_cons_zero,List.set_cons_succ]
  refine wpAnyH_take (i:=6) (oi:={ dst:=some 80,op:=Op.pick (Operand.tmp 76) (Operand.const (Value.bool true)) (Operand.tmp 79),type:=4,pos:=_,after:=_,guard:=none }) (v:=?_) rfl (by kernel_rfl) (by kernel_rfl) (by kernel_rfl) (fun _ _ _ h=>h) (Or.inl ⟨by rfl,?_⟩) hHeld ?_
  rotate_left 1
  ·(intro W hW;(try dsimp only at hW);go_simp;try with_reducible rfl)
  try simp only [Act.put,List.setIfInBounds_toArray,List.set_cons_zero,List.set_cons_succ]
  refine wpAnyH_take (i:=7) (oi:={ dst:=some 81,op:=Op.move (Operand.tmp 80),type:=4,pos:=_,after:=_,guard:=none }) (v:=?_) rfl (by kernel_rfl) (by kernel_rfl) (by kernel_rfl) (fun _ _ _ h=>h) (Or.inl ⟨by rfl,?_⟩) hHeld ?_
  rotate_left 1
  ·(intro W hW;(try dsimp only at hW);go_simp;try with_reducible rfl)
  try simp only [Act.put,List.setIfInBounds_toArray,List.set_cons_zero,List.set_cons_succ]
  refine wpAnyH_take (i:=8) (oi:={ dst:=some 82,op:=Op.load 26 (Operand.tmp 8),type:=26,pos:=_,after:=_,guard:=some (7,false) }) (v:=undef) rfl (by kernel_rfl) (by kernel_rfl) (by kernel_rfl) (fun _ _ _ h=>h) (Or.inr ⟨by rfl,rfl⟩) hHeld ?_
  try simp only [Act.put,List.setIfInBounds_toArray,List.set_cons_zero,List.set_cons_succ]
  refine wpAnyH_take (i:=9) (oi:={ dst:=some 83,op:=Op.call { callee:=Callee.value (Operand.func 12),args:=#[Operand.tmp 82],argTypes:=#[26] },type:=32,pos:=_,after:=_,guard:=some (7,false) }) (v:=undef) rfl (by kernel_rfl) (by kernel_rfl) (by kernel_rfl) (fun _ _ _ h=>h) (Or.inr ⟨by rfl,rfl⟩) hHeld ?_
  try simp only [Act.put,List.setIfInBounds_toArray,List.set_cons_zero,List.set_cons_succ]
  refine wpAnyH_take (i:=10) (oi:={ dst:=some 84,op:=Op.load 32 (Operand.tmp 1),type:=32,pos:=_,after:=_,guard:=some (7,false) }) (v:=undef) rfl (by kernel_rfl) (by kernel_rfl) (by kernel_rfl) (fun _ _ _ h=>h) (Or.inr ⟨by rfl,rfl⟩) hHeld ?_
  try simp only [Act.put,List.setIfInBounds_toArray,List.set_cons_zero,List.set_cons_succ]
  refine wpAnyH_take (i:=11) (oi:={ dst:=some 85,op:=Op.call { callee:=Callee.value (Operand.func 10),args:=#[Operand.tmp 83,Operand.tmp 84],argTypes:=#[32,32] },type:=4,pos:=_,after:=_,guard:=some (7,false) }) (v:=undef) rfl (by kernel_rfl) (by kernel_rfl) (by kernel_rfl) (fun _ _ _ h=>h) (Or.inr ⟨by rfl,rfl⟩) hHeld ?_
  try simp only [Act.put,List.setIfInBounds_toArray,List.set_cons_zero,List.set_cons_succ]
  refine wpAnyH_take (i:=12) (oi:={ dst:=some 86,op:=Op.unOp UnOp.not 4 (Operand.tmp 85),type:=4,pos:=_,after:=_,guard:=some (7,false) }) (v:=undef) rfl (by kernel_rfl) (by kernel_rfl) (by kernel_rfl) (fun _ _ _ h=>h) (Or.inr ⟨by rfl,rfl⟩) hHeld ?_
  try simp only [Act.put,List.setIfInBounds_toArray,List.set_cons_zero,List.set_cons_succ]
  refine wpAnyH_take (i:=13) (oi:={ dst:=some 87,op:=Op.pick (Operand.tmp 81) (Operand.const (Value.bool true)) (Operand.tmp 86),type:=4,pos:=_,after:=_,guard:=none }) (v:=?_) rfl (by kernel_rfl) (by kernel_rfl) (by kernel_rfl) (fun _ _ _ h=>h) (Or.inl ⟨by rfl,?_⟩) hHeld ?_
  rotate_left 1
  ·(intro W hW;(try dsimp only at hW);go_simp;try with_reducible rfl)
  try simp only [Act.put,List.setIfInBounds_toArray,List.set_cons_zero,List.set_cons_succ]
  refine wpAnyH_done (by kernel_rfl) ?_ _
  refine NoPanic.normal ?_
  have hz9:=HZ.out.under (HVZ.out.trans (b8.out.mono HVZ.out.size)) HZ.out.lt
  have HZ9:=Lib.hid hz9
  have z0:=hz9.cell 0
  have y0:=hz9.open_ 0
  have z1:=hz9.cell 1
  have y1:=hz9.open_ 1
  have z2:=hz9.cell 2
  have y2:=hz9.open_ 2
  have z3:=hz9.cell 3
  have y3:=hz9.open_ 3
  have z4:=hz9.cell 4
  have y4:=hz9.open_ 4
  clear hz9
  have HBE:=Lib.hid (HB0.out.trans ((HVZ.out.trans (b8.out.mono HVZ.out.size)).mono HB0.out.size))
  go_wp2_with fail
  exact ret_crl rfl rfl rfl (((((HZ9.out.stored 0 _).stored 1 _).stored 2 _).stored 3 _).stored 4 _) rfl (.inr ⟨rfl,HNO.out,below_five HBE.out _ (by omega) _ _ _ _ _⟩)
 have HCM:Hid (CvM CLV.v):=Lib.hid ⟨hxi,HDG.out⟩
 have HND:Hid (∀ W,Below Z.heap.size Z W→Calls Tryz.prog 12 #[.agg #[.slice ia isn ic,.int .i64 ta,.int .i64 tn,.slice ga gn gc,.slice sa sn sc]] W (MadeT W [] (clTr CLV.v))):=Lib.hid fun W hW=>by
  have:=clNode'_any W [] CLV (HCF.out.under hW).at_ hxi (by simp)
  rwa [HCE.out] at this
 rw [hxi] at HIS
 clear HVO hxi HIS0
 by_cases hte:clTr CLV.v=T
 ·have HS:Hid (∀ (W:World) (lt:Lt),Below Z.heap.size Z W→lt.t=clTr CLV.v→Off [] (ThP lt) W→Calls Tryz.prog 10 #[lt.val,.agg #[.int .u8 (tag:Int),.slice ba n bc,.slice ka 2 kc]] W fun e w'=>e = .returned (.bool true)∧Below W.heap.size W w'):=Lib.hid fun W lt hW hl ho=>by
   rw [←HVAL.out]
   exact same'_any lt t W W.heap.size ho.at_ (HTH.out.under (HB0.out.trans ((HVZ.out.trans (hW.mono HVZ.out.size)).mono HB0.out.size))).at_ (Nat.le_refl _) true (by rw [hl,hte,HTT.out];simp)
  have HTE:=Lib.hid hte
  clear hte HVE
  go_wp2_with fail
  rw [←HZE.out]
  clear x4 y4
  refine wp_region_noPanic ?_
  refine wp_region_held_drew (S:=fun W=>Below Z.heap.size Z W) (by kernel_rfl) (Below.refl _ Z).drew (fun hHeld=>?_)
  refine wpAnyH_take (i:=0) (oi:={ dst:=some 74,op:=Op.move (Operand.tmp 10),type:=4,pos:=_,after:=_,guard:=none }) (v:=?_) rfl (by kernel_rfl) (by kernel_rfl) (by kernel_rfl) (fun _ _ _ h=>h) (Or.inl ⟨by rfl,?_⟩) hHeld ?_
  rotate_left 1
  ·(intro W hW;(try dsimp only at hW);go_simp;try with_reducible rfl)
  try simp only [Act.put,List.setIfInBounds_toArray,List.set_cons_zero,List.set_cons_succ]
  refine wpAnyH_take (i:=1) (oi:={ dst:=some 75,op:=Op.unOp UnOp.not 4 (Operand.tmp 74),type:=4,pos:=_,after:=_,guard:=none }) (v:=?_) rfl (by kernel_rfl) (by kernel_rfl) (by kernel_rfl) (fun _ _ _ h=>h) (Or.inl ⟨by rfl,?_⟩) hHeld ?_
  rotate_left 1
  ·(intro W hW;(try dsimp only at hW);go_simp;try with_reducible rfl)
  try simp only [Act.put,List.setIfInBounds_toArray,List.set_cons_zero,List.set_cons_succ]
  refine wpAnyH_take (i:=2) (oi:={ dst:=some 76,op:=Op.move (Operand.tmp 75),type:=4,pos:=_,after:=_,guard:=none }) (v:=?_) rfl (by kernel_rfl) (by kernel_rfl) (by kernel_rfl) (fun _ _ _ h=>h) (Or.inl ⟨by rfl,?_⟩) hHeld ?_
  rotate_left 1
  ·(intro W hW;(try dsimp only at hW);go_simp;try with_reducible rfl)
  try simp only [Act.put,List.setIfInBounds_toArray,List.set_cons_zero,List.set_cons_succ]
  refine wpAnyH_take (i:=3) (oi:={ dst:=some 77,op:=Op.load 26 (Operand.tmp 8),type:=26,pos:=_,after:=_,guard:=some (2,false) }) (v:=?_) rfl (by kernel_rfl) (by kernel_rfl) (by kernel_rfl) (fun _ _ _ h=>h) (Or.inl ⟨by rfl,?_⟩) hHeld ?_
  rotate_left 1
  ·(intro W hW;obtain ⟨l0,l1,l2,l3,l4⟩:=HLC.out W hW;(try dsimp only at hW);go_simp;try with_reducible rfl)
  try simp only [Act.put,List.setIfInBounds_toArray,List.set_cons_zero,List.set_cons_succ]
  refine wpAnyH_ready (rs:=[4]) (by kernel_rfl) (by simp) ?_
  refine AllReadyH.cons (o:={ dst:=some 78,op:=Op.call { callee:=Callee.value (Operand.func 6),args:=#[Operand.tmp 77],argTypes:=#[26] },type:=4,pos:=_,after:=_,guard:=some (2,false) }) rfl (fun K hK=>?_) AllReadyH.nil
  go_simp
  refine (HIS.out _ (Below.refl _ Z).drew).mono ?_
  rintro e w8 ⟨rfl,hb8⟩
  have b8:Hid (Below Z.heap.size Z w8):=Lib.hid ((Below.refl _ Z).drew.trans hb8)
  clear hb8
  go_simp
  refine hK.out _ _ (b8.out) (fun _=>?_)
  clear hK K hHeld
  try simp only [Act.put,List.setIfInBounds_toArray,List.set_cons_zero,List.set_cons_succ]
  refine wpAnyH_strong (S':=fun W=>Below w8.heap.size w8 W) (fun W hW=>b8.out.trans (hW.mono b8.out.size)) _ _ _ _ ?_
  have hHeld:(fun W=>Below w8.heap.size w8 W) w8:=Below.refl _ _
  refine wpAnyH_take (i:=5) (oi:={ dst:=some 79,op:=Op.unOp UnOp.not 4 (Operand.tmp 78),type:=4,pos:=_,after:=_,guard:=some (2,false) }) (v:=?_) rfl (by kernel_rfl) (by kernel_rfl) (by kernel_rfl) (fun _ _ _ h=>h) (Or.inl ⟨by rfl,?_⟩) hHeld ?_
  rotate_left 1
  ·(intro W hW;(try dsimp only at hW);go_simp;try with_reducible rfl)
  try simp only [Act.put,List.setIfInBounds_toArray,List.set_cons_zero,List.set_cons_succ]
  refine wpAnyH_take (i:=6) (oi:={ dst:=some 80,op:=Op.pick (Operand.tmp 76) (Operand.const (Value.bool true)) (Operand.tmp 79),type:=4,pos:=_,after:=_,guard:=none }) (v:=?_) rfl (by kernel_rfl) (by kernel_rfl) (by kernel_rfl) (fun _ _ _ h=>h) (Or.inl ⟨by rfl,?_⟩) hHeld ?_
  rotate_left 1
  ·(intro W hW;(try dsimp only at hW);go_simp;try with_reducible rfl)
  try simp only [Act.put,List.setIfInBounds_toArray,List.set_cons_zero,List.set_cons_succ]
  refine wpAnyH_take (i:=7) (oi:={ dst:=some 81,op:=Op.move (Operand.tmp 80),type:=4,pos:=_,after:=_,guard:=none }) (v:=?_) rfl (by kernel_rfl) (by kernel_rfl) (by kernel_rfl) (fun _ _ _ h=>h) (Or.inl ⟨by rfl,?_⟩) hHeld ?_
  rotate_left 1
  ·(intro W hW;(try dsimp only at hW);go_simp;try with_reducible rfl)
  try simp only [Act.put,List.setIfInBounds_toArray,List.set_cons_zero,List.set_cons_succ]
  refine wpAnyH_take (i:=8) (oi:={ dst:=some 82,op:=Op.load 26 (Operand.tmp 8),type:=26,pos:=_,after:=_,guard:=some (7,false) }) (v:=?_) rfl (by kernel_rfl) (by kernel_rfl) (by kernel_rfl) (fun _ _ _ h=>h) (Or.inl ⟨by rfl,?_⟩) hHeld ?_
  rotate_left 1
  ·(intro W hW;obtain ⟨l0,l1,l2,l3,l4⟩:=HLC.out W (b8.out.trans (hW.mono b8.out.size));(try dsimp only at hW);go_simp;try with_reducible rfl)
  try simp only [Act.put,List.setIfInBounds_toArray,List.set_cons_zero,List.set_cons_succ]
  refine wpAnyH_take (i:=10) (oi:={ dst:=some 84,op:=Op.load 32 (Operand.tmp 1),type:=32,pos:=_,after:=_,guard:=some (7,false) }) (v:=?_) rfl (by kernel_rfl) (by kernel_rfl) (by kernel_rfl) (fun _ _ _ h=>h) (Or.inl ⟨by rfl,?_⟩) hHeld ?_
  rotate_left 1
  ·(intro W hW;obtain ⟨k0,k1,k2⟩:=HNC.out W (b8.out.trans (hW.mono b8.out.size));(try dsimp only at hW);go_simp;try with_reducible rfl)
  try simp only [Act.put,List.setIfInBounds_toArray,List.set_cons_zero,List.set_cons_succ]
  refine wpAnyH_ready (rs:=[9]) (by kernel_rfl) (by simp) ?_
  refine AllReadyH.cons (o:={ dst:=some 83,op:=Op.call { callee:=Callee.value (Operand.func 12),args:=#[Operand.tmp 82],argTypes:=#[26] },type:=32,pos:=_,after:=_,guard:=some (7,false) }) rfl (fun K hK=>?_) AllReadyH.nil
  go_simp
  refine (HND.out _ b8.out).mono ?_
  rintro e w9 hm9
  obtain ⟨lt9,pt,pa,pn,pc,pk,pm,pd,rfl,h69,hT9,hO9,hb9⟩:=MadeT.six hm9
  have b9:Hid (Below w8.heap.size w8 w9):=Lib.hid hb9
  have H9:=Lib.hid (b8.out.trans (hb9.mono b8.out.size))
  have HSA:=Lib.hid (HS.out w9 lt9 H9.out hT9 hO9)
  rw [h69.val] at HSA
  clear hb9 hm9 hT9 hO9 h69
  go_simp
  refine hK.out _ _ (b9.out) (fun _=>?_)
  clear hK K hHeld
  try simp only [Act.put,List.setIfInBounds_toArray,List.set_cons_zero,List.set_cons_succ]
  refine wpAnyH_strong (S':=fun W=>Below w9.heap.size w9 W) (fun W hW=>b9.out.trans (hW.mono b9.out.size)) _ _ _ _ ?_
  have hHeld:(fun W=>Below w9.heap.size w9 W) w9:=Below.refl _ _
  refine wpAnyH_ready (rs:=[11]) (by kernel_rfl) (by simp) ?_
  refine AllReadyH.cons (o:={ dst:=some 85,op:=Op.call { callee:=Callee.value (Operand.func 10),args:=#[Operand.tmp 83,Operand.tmp 84],argTypes:=#[32,32] },type:=4,pos:=_,after:=_,guard:=some (7,false) }) rfl (fun K hK=>?_) AllReadyH.nil
  go_simp
  refine HSA.out.mono ?_
  rintro e w10 ⟨rfl,hb10⟩
  have b10:Hid (Below w9.heap.size w9 w10):=Lib.hid hb10
  have H10:=Lib.hid (H9.out.trans (hb10.mono H9.out.size))
  clear hb10
  go_simp
  refine hK.out _ _ (b10.out) (fun _=>?_)
  clear hK K hHeld
  try simp only [Act.put,List.setIfInBounds_toArray,List.set_cons_zero,List.set_cons_succ]
  refine wpAnyH_strong (S':=fun W=>Below w10.heap.size w10 W) (fun W hW=>b10.out.trans (hW.mono b10.out.size)) _ _ _ _ ?_
  have hHeld:(fun W=>Below w10.heap.size w10 W) w10:=Below.refl _ _
  refine wpAnyH_take (i:=12) (oi:={ dst:=some 86,op:=Op.unOp UnOp.not 4 (Operand.tmp 85),type:=4,pos:=_,after:=_,guard:=some (7,false) }) (v:=?_) rfl (by kernel_rfl) (by kernel_rfl) (by kernel_rfl) (fun _ _ _ h=>h) (Or.inl ⟨by rfl,?_⟩) hHeld ?_
  rotate_left 1
  ·(intro W hW;(try dsimp only at hW);go_simp;try with_reducible rfl)
  try simp only [Act.put,List.setIfInBounds_toArray,List.set_cons_zero,List.set_cons_succ]
  refine wpAnyH_take (i:=13) (oi:={ dst:=some 87,op:=Op.pick (Operand.tmp 81) (Operand.const (Value.bool true)) (Operand.tmp 86),type:=4,pos:=_,after:=_,guard:=none }) (v:=?_) rfl (by kernel_rfl) (by kernel_rfl) (by kernel_rfl) (fun _ _ _ h=>h) (Or.inl ⟨by rfl,?_⟩) hHeld ?_
  rotate_left 1
  ·(intro W hW;(try dsimp only at hW);go_simp;try with_reducible rfl)
  try simp only [Act.put,List.setIfInBounds_toArray,List.set_cons_zero,List.set_cons_succ]
  refine wpAnyH_done (by kernel_rfl) ?_ _
  refine NoPanic.normal ?_
  obtain ⟨l0,l1,l2,l3,l4⟩:=HLC.out w10 H10.out
  have hz9:=HZ.out.under (HVZ.out.trans (H10.out.mono HVZ.out.size)) HZ.out.lt
  have HZ9:=Lib.hid hz9
  have z0:=hz9.cell 0
  have y0:=hz9.open_ 0
  have z1:=hz9.cell 1
  have y1:=hz9.open_ 1
  have z2:=hz9.cell 2
  have y2:=hz9.open_ 2
  have z3:=hz9.cell 3
  have y3:=hz9.open_ 3
  have z4:=hz9.cell 4
  have y4:=hz9.open_ 4
  clear hz9
  have HBE:=Lib.hid (HB0.out.trans ((HVZ.out.trans (H10.out.mono HVZ.out.size)).mono HB0.out.size))
  have HFI:=Lib.hid (HCF.out.under H10.out)
  go_wp2_with fail
  exact ret_crl rfl rfl rfl (((((HZ9.out.stored 0 _).stored 1 _).stored 2 _).stored 3 _).stored 4 _) rfl (.inl ⟨CLV,(by rw [HCE.out];rfl),off_out5 HFI.out _ _ _ _ _,HCM.out,HTE.out,HSZ.out,below_five HBE.out _ (by omega) _ _ _ _ _⟩)
 ·have HS:Hid (∀ (W:World) (lt:Lt),Below Z.heap.size Z W→lt.t=clTr CLV.v→Off [] (ThP lt) W→Calls Tryz.prog 10 #[lt.val,.agg #[.int .u8 (tag:Int),.slice ba n bc,.slice ka 2 kc]] W fun e w'=>e = .returned (.bool false)∧Below W.heap.size W w'):=Lib.hid fun W lt hW hl ho=>by
   rw [←HVAL.out]
   exact same'_any lt t W W.heap.size ho.at_ (HTH.out.under (HB0.out.trans ((HVZ.out.trans (hW.mono HVZ.out.size)).mono HB0.out.size))).at_ (Nat.le_refl _) false (by rw [hl,←HTT.out];simp [hte])
  have HNO:Hid (GetCNo T):=Lib.hid fun v hv h2=>hte (by rw [HVE.out rfl v hv h2];exact h2)
  clear hte HVE
  go_wp2_with fail
  rw [←HZE.out]
  clear x4 y4
  refine wp_region_noPanic ?_
  refine wp_region_held_drew (S:=fun W=>Below Z.heap.size Z W) (by kernel_rfl) (Below.refl _ Z).drew (fun hHeld=>?_)
  refine wpAnyH_take (i:=0) (oi:={ dst:=some 74,op:=Op.move (Operand.tmp 10),type:=4,pos:=_,after:=_,guard:=none }) (v:=?_) rfl (by kernel_rfl) (by kernel_rfl) (by kernel_rfl) (fun _ _ _ h=>h) (Or.inl ⟨by rfl,?_⟩) hHeld ?_
  rotate_left 1
  ·(intro W hW;(try dsimp only at hW);go_simp;try with_reducible rfl)
  try simp only [Act.put,List.setIfInBounds_toArray,List.set_cons_zero,List.set_cons_succ]
  refine wpAnyH_take (i:=1) (oi:={ dst:=some 75,op:=Op.unOp UnOp.not 4 (Operand.tmp 74),type:=4,pos:=_,after:=_,guard:=none }) (v:=?_) rfl (by kernel_rfl) (by kernel_rfl) (by kernel_rfl) (fun _ _ _ h=>h) (Or.inl ⟨by rfl,?_⟩) hHeld ?_
  rotate_left 1
  ·(intro W hW;(try dsimp only at hW);go_simp;try with_reducible rfl)
  try simp only [Act.put,List.setIfInBounds_toArray,List.set_cons_zero,List.set_cons_succ]
  refine wpAnyH_take (i:=2) (oi:={ dst:=some 76,op:=Op.move (Operand.tmp 75),type:=4,pos:=_,after:=_,guard:=none }) (v:=?_) rfl (by kernel_rfl) (by kernel_rfl) (by kernel_rfl) (fun _ _ _ h=>h) (Or.inl ⟨by rfl,?_⟩) hHeld ?_
  rotate_left 1
  ·(intro W hW;(try dsimp only at hW);go_simp;try with_reducible rfl)
  try simp only [Act.put,List.setIfInBounds_toArray,List.set_cons_zero,List.set_cons_succ]
  refine wpAnyH_take (i:=3) (oi:={ dst:=some 77,op:=Op.load 26 (Operand.tmp 8),type:=26,pos:=_,after:=_,guard:=some (2,false) }) (v:=?_) rfl (by kernel_rfl) (by kernel_rfl) (by kernel_rfl) (fun _ _ _ h=>h) (Or.inl ⟨by rfl,?_⟩) hHeld ?_
  rotate_left 1
  ·(intro W hW;obtain ⟨l0,l1,l2,l3,l4⟩:=HLC.out W hW;(try dsimp only at hW);go_simp;try with_reducible rfl)
  try simp only [Act.put,List.setIfInBounds_toArray,List.set_cons_zero,List.set_cons_succ]
  refine wpAnyH_ready (rs:=[4]) (by kernel_rfl) (by simp) ?_
  refine AllReadyH.cons (o:={ dst:=some 78,op:=Op.call { callee:=Callee.value (Operand.func 6),args:=#[Operand.tmp 77],argTypes:=#[26] },type:=4,pos:=_,after:=_,guard:=some (2,false) }) rfl (fun K hK=>?_) AllReadyH.nil
  go_simp
  refine (HIS.out _ (Below.refl _ Z).drew).mono ?_
  rintro e w8 ⟨rfl,hb8⟩
  have b8:Hid (Below Z.heap.size Z w8):=Lib.hid ((Below.refl _ Z).drew.trans hb8)
  clear hb8
  go_simp
  refine hK.out _ _ (b8.out) (fun _=>?_)
  clear hK K hHeld
  try simp only [Act.put,List.setIfInBounds_toArray,List.set_cons_zero,List.set_cons_succ]
  refine wpAnyH_strong (S':=fun W=>Below w8.heap.size w8 W) (fun W hW=>b8.out.trans (hW.mono b8.out.size)) _ _ _ _ ?_
  have hHeld:(fun W=>Below w8.heap.size w8 W) w8:=Below.refl _ _
  refine wpAnyH_take (i:=5) (oi:={ dst:=some 79,op:=Op.unOp UnOp.not 4 (Operand.tmp 78),type:=4,pos:=_,after:=_,guard:=some (2,false) }) (v:=?_) rfl (by kernel_rfl) (by kernel_rfl) (by kernel_rfl) (fun _ _ _ h=>h) (Or.inl ⟨by rfl,?_⟩) hHeld ?_
  rotate_left 1
  ·(intro W hW;(try dsimp only at hW);go_simp;try with_reducible rfl)
  try simp only [Act.put,List.setIfInBounds_toArray,List.set_cons_zero,List.set_cons_succ]
  refine wpAnyH_take (i:=6) (oi:={ dst:=some 80,op:=Op.pick (Operand.tmp 76) (Operand.const (Value.bool true)) (Operand.tmp 79),type:=4,pos:=_,after:=_,guard:=none }) (v:=?_) rfl (by kernel_rfl) (by kernel_rfl) (by kernel_rfl) (fun _ _ _ h=>h) (Or.inl ⟨by rfl,?_⟩) hHeld ?_
  rotate_left 1
  ·(intro W hW;(try dsimp only at hW);go_simp;try with_reducible rfl)
  try simp only [Act.put,List.setIfInBounds_toArray,List.set_cons_zero,List.set_cons_succ]
  refine wpAnyH_take (i:=7) (oi:={ dst:=some 81,op:=Op.move (Operand.tmp 80),type:=4,pos:=_,after:=_,guard:=none }) (v:=?_) rfl (by kernel_rfl) (by kernel_rfl) (by kernel_rfl) (fun _ _ _ h=>h) (Or.inl ⟨by rfl,?_⟩) hHeld ?_
  rotate_left 1
  ·(intro W hW;(try dsimp only at hW);go_simp;try with_reducible rfl)
  try simp only [Act.put,List.setIfInBounds_toArray,List.set_cons_zero,List.set_cons_succ]
  refine wpAnyH_take (i:=8) (oi:={ dst:=some 82,op:=Op.load 26 (Operand.tmp 8),type:=26,pos:=_,after:=_,guard:=some (7,false) }) (v:=?_) rfl (by kernel_rfl) (by kernel_rfl) (by kernel_rfl) (fun _ _ _ h=>h) (Or.inl ⟨by rfl,?_⟩) hHeld ?_
  rotate_left 1
  ·(intro W hW;obtain ⟨l0,l1,l2,l3,l4⟩:=HLC.out W (b8.out.trans (hW.mono b8.out.size));(try dsimp only at hW);go_simp;try with_reducible rfl)
  try simp only [Act.put,List.setIfInBounds_toArray,List.set_cons_zero,List.set_cons_succ]
  refine wpAnyH_take (i:=10) (oi:={ dst:=some 84,op:=Op.load 32 (Operand.tmp 1),type:=32,pos:=_,after:=_,guard:=some (7,false) }) (v:=?_) rfl (by kernel_rfl) (by kernel_rfl) (by kernel_rfl) (fun _ _ _ h=>h) (Or.inl ⟨by rfl,?_⟩) hHeld ?_
  rotate_left 1
  ·(intro W hW;obtain ⟨k0,k1,k2⟩:=HNC.out W (b8.out.trans (hW.mono b8.out.size));(try dsimp only at hW);go_simp;try with_reducible rfl)
  try simp only [Act.put,List.setIfInBounds_toArray,List.set_cons_zero,List.set_cons_succ]
  refine wpAnyH_ready (rs:=[9]) (by kernel_rfl) (by simp) ?_
  refine AllReadyH.cons (o:={ dst:=some 83,op:=Op.call { callee:=Callee.value (Operand.func 12),args:=#[Operand.tmp 82],argTypes:=#[26] },type:=32,pos:=_,after:=_,guard:=some (7,false) }) rfl (fun K hK=>?_) AllReadyH.nil
  go_simp
  refine (HND.out _ b8.out).mono ?_
  rintro e w9 hm9
  obtain ⟨lt9,pt,pa,pn,pc,pk,pm,pd,rfl,h69,hT9,hO9,hb9⟩:=MadeT.six hm9
  have b9:Hid (Below w8.heap.size w8 w9):=Lib.hid hb9
  have H9:=Lib.hid (b8.out.trans (hb9.mono b8.out.size))
  have HSA:=Lib.hid (HS.out w9 lt9 H9.out hT9 hO9)
  rw [h69.val] at HSA
  clear hb9 hm9 hT9 hO9 h69
  go_simp
  refine hK.out _ _ (b9.out) (fun _=>?_)
  clear hK K hHeld
  try simp only [Act.put,List.setIfInBounds_toArray,List.set_cons_zero,List.set_cons_succ]
  refine wpAnyH_strong (S':=fun W=>Below w9.heap.size w9 W) (fun W hW=>b9.out.trans (hW.mono b9.out.size)) _ _ _ _ ?_
  have hHeld:(fun W=>Below w9.heap.size w9 W) w9:=Below.refl _ _
  refine wpAnyH_ready (rs:=[11]) (by kernel_rfl) (by simp) ?_
  refine AllReadyH.cons (o:={ dst:=some 85,op:=Op.call { callee:=Callee.value (Operand.func 10),args:=#[Operand.tmp 83,Operand.tmp 84],argTypes:=#[32,32] },type:=4,pos:=_,after:=_,guard:=some (7,false) }) rfl (fun K hK=>?_) AllReadyH.nil
  go_simp
  refine HSA.out.mono ?_
  rintro e w10 ⟨rfl,hb10⟩
  have b10:Hid (Below w9.heap.size w9 w10):=Lib.hid hb10
  have H10:=Lib.hid (H9.out.trans (hb10.mono H9.out.size))
  clear hb10
  go_simp
  refine hK.out _ _ (b10.out) (fun _=>?_)
  clear hK K hHeld
  try simp only [Act.put,List.setIfInBounds_toArray,List.set_cons_zero,List.set_cons_succ]
  refine wpAnyH_strong (S':=fun W=>Below w10.heap.size w10 W) (fun W hW=>b10.out.trans (hW.mono b10.out.size)) _ _ _ _ ?_
  have hHeld:(fun W=>Below w10.heap.size w10 W) w10:=Below.refl _ _
  refine wpAnyH_take (i:=12) (oi:={ dst:=some 86,op:=Op.unOp UnOp.not 4 (Operand.tmp 85),type:=4,pos:=_,after:=_,guard:=some (7,false) }) (v:=?_) rfl (by kernel_rfl) (by kernel_rfl) (by kernel_rfl) (fun _ _ _ h=>h) (Or.inl ⟨by rfl,?_⟩) hHeld ?_
  rotate_left 1
  ·(intro W hW;(try dsimp only at hW);go_simp;try with_reducible rfl)
  try simp only [Act.put,List.setIfInBounds_toArray,List.set_cons_zero,List.set_cons_succ]
  refine wpAnyH_take (i:=13) (oi:={ dst:=some 87,op:=Op.pick (Operand.tmp 81) (Operand.const (Value.bool true)) (Operand.tmp 86),type:=4,pos:=_,after:=_,guard:=none }) (v:=?_) rfl (by kernel_rfl) (by kernel_rfl) (by kernel_rfl) (fun _ _ _ h=>h) (Or.inl ⟨by rfl,?_⟩) hHeld ?_
  rotate_left 1
  ·(intro W hW;(try dsimp only at hW);go_simp;try with_reducible rfl)
  try simp only [Act.put,List.setIfInBounds_toArray,List.set_cons_zero,List.set_cons_succ]
  refine wpAnyH_done (by kernel_rfl) ?_ _
  refine NoPanic.normal ?_
  have hz9:=HZ.out.under (HVZ.out.trans (H10.out.mono HVZ.out.size)) HZ.out.lt
  have HZ9:=Lib.hid hz9
  have z0:=hz9.cell 0
  have y0:=hz9.open_ 0
  have z1:=hz9.cell 1
  have y1:=hz9.open_ 1
  have z2:=hz9.cell 2
  have y2:=hz9.open_ 2
  have z3:=hz9.cell 3
  have y3:=hz9.open_ 3
  have z4:=hz9.cell 4
  have y4:=hz9.open_ 4
  clear hz9
  have HBE:=Lib.hid (HB0.out.trans ((HVZ.out.trans (H10.out.mono HVZ.out.size)).mono HB0.out.size))
  go_wp2_with fail
  exact ret_crl rfl rfl rfl (((((HZ9.out.stored 0 _).stored 1 _).stored 2 _).stored 3 _).stored 4 _) rfl (.inr ⟨rfl,HNO.out,below_five HBE.out _ (by omega) _ _ _ _ _⟩)
end Go.Proofs.YtcibjcgipfpniaaGreatDoor
