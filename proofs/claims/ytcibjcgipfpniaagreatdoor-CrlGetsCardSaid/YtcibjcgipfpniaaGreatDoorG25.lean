/- Words and laws for the statement, part 25. -/
import Derived.Test.YtcibjcgipfpniaaGreatDoorG21
import Derived.Test.YtcibjcgipfpniaaGreatDoorG24
namespace Go.Proofs.YtcibjcgipfpniaaGreatDoor
open Go.RowKit
set_option linter.unusedVariables false
set_option linter.unusedSimpArgs false
attribute [local go_sem ↓] Go.wp_at_zero Go.wp_at_succ

theorem dnOk_len {l:List Att} (h:dnOk l=true):∀ x∈l,(bts x.s).length≤64:=fun x hx=>by
 obtain ⟨j,hj,rfl⟩:=List.getElem_of_mem hx
 have h1:=atOk_iff.1 ((dnOk_iff.1 h).2.2 j hj)
 rw [show l.getD j default=l[j] by simp [List.getD,hj]] at h1
 have h2:=h1.2.2
 unfold textOk at h2
 simp only [Bool.and_eq_true,decide_eq_true_eq] at h2
 exact h2.1
def FitC (t:Tr):Prop:=t.kids.length≤100000∧∀ k∈t.kids,FitP k∧k.body.length≤12000
def GetCNo (T:Tr):Prop:=∀ v:CV,CvM v→clTr v≠T
def GetCPost (w:World) (xs:List Nat) (T:Tr) (e:Ending) (w':World):Prop :=
 (∃ cl:Cl,e = .returned (.tuple #[.agg (ccell cl).toArray,.bool true])∧Off xs (ClP cl) w'∧CvM cl.v∧clTr cl.v=T∧(∀ x∈cl.iss,(bts x.s).length≤9223372036854775807)∧Below w.heap.size w w') ∨
 (e = .returned (.tuple #[.agg #[.slice none 0 0,.int .i64 0,.int .i64 0,.slice none 0 0,.slice none 0 0],.bool false])∧GetCNo T∧Below w.heap.size w w')
theorem bits_is {t:Tr} {s:List Nat} (h:t = .mk 3 (0 :: s) []):bitsOf t.tag t.kids.length t.body=some s:=by
 subst h
 show (if heldOk 3 0 3=true∧0<(0 :: s).length∧(0 :: s).getD 0 0=0 then some ((0 :: s).drop 1) else none)=_
 rw [if_pos ⟨by decide,by simp,rfl⟩]
 rfl
set_option maxRecDepth 100000 in
set_option maxHeartbeats 16000000 in
theorem getC_any (w:World) (xs:List Nat) (hxs:NoStr xs w) (t:Lt) (h:Off [] (ThP t) w) (hf:FitC t.t) (hT:Lib.Utf8Tabs 0 1 w) :
  Calls Tryz.prog 16 #[t.val] w (GetCPost w xs t.t):=by
 obtain ⟨T,hTT⟩:∃ T,T=t.t:=⟨_,rfl⟩
 have HTH:=Lib.hid h
 have HTT:=Lib.hid hTT
 rw [←hTT]
 have HVAL:Hid (t.val = .agg #[.int .u8 (t.tag:Int),.slice t.ba t.body.length t.bc,.slice t.ka t.kids.length t.kc]):=Lib.hid rfl
 have hko:Off [] (KiP t.ka t.kc t.kids) w:=by
  obtain ⟨tag,ba,bc,body,ka,kc,kids⟩:=t
  exact kids_off h
 have hkl:t.kids.length≤100000:=by have:=hf.1;rw [(t_parts t).2.2,List.length_map] at this;omega
 have HTK:Hid (T.kids=t.kids.map Lt.t∧seqOk T.tag T.body.length 48=seqOk t.tag t.body.length 48):=Lib.hid (by rw [hTT,(t_parts t).1,(t_parts t).2.1,(t_parts t).2.2];exact ⟨rfl,rfl⟩)
 have HFK:Hid (∀ q∈t.kids,FitP q.t∧q.t.body.length≤12000):=Lib.hid fun q hq=>hf.2 q.t (by rw [(t_parts t).2.2];exact List.mem_map_of_mem hq)
 have HT:=Lib.hid hT
 have HXS:=Lib.hid hxs
 rw [HVAL.out]
 obtain ⟨ks,hks⟩:∃ ks,ks=t.kids:=⟨_,rfl⟩
 rw [←hks] at hko hkl HTK HVAL HFK ⊢
 clear h hTT hf hks hT hxs
 generalize t.tag=tag at *
 generalize t.ba=ba at *
 generalize t.bc=bc at *
 generalize t.body.length=n at *
 generalize t.ka=ka at *
 generalize t.kc=kc at *
 obtain ⟨kn,hkn⟩:∃ k,k=ks.length:=⟨_,rfl⟩
 have HKN:=Lib.hid hkn
 rw [←hkn] at hkl HVAL ⊢
 have hH1:=(Holds.fresh w 32 #[.int .u8 (tag:Int),.slice ba n bc,.slice ka kn kc]).alloc (.cells #[.slice none 0 0,.int .i64 0,.int .i64 0,.slice none 0 0,.slice none 0 0] 26)
 have hz:=Holds.fresh (w.alloc (.cells #[.int .u8 (tag:Int),.slice ba n bc,.slice ka kn kc] 32)) 26 #[.slice none 0 0,.int .i64 0,.int .i64 0,.slice none 0 0,.slice none 0 0]
 rw [show (w.alloc (.cells #[.int .u8 (tag:Int),.slice ba n bc,.slice ka kn kc] 32)).heap.size=w.heap.size+1 by simp] at hz
 have hq0:Below w.heap.size w ((w.alloc (.cells #[.int .u8 (tag:Int),.slice ba n bc,.slice ka kn kc] 32)).alloc (.cells #[.slice none 0 0,.int .i64 0,.int .i64 0,.slice none 0 0,.slice none 0 0] 26)):=((Below.refl _ _).alloc (Nat.le_refl _) _).alloc (by simp) _
 have HGS:=Lib.hid (getSeq_any ((w.alloc (.cells #[.int .u8 (tag:Int),.slice ba n bc,.slice ka kn kc] 32)).alloc (.cells #[.slice none 0 0,.int .i64 0,.int .i64 0,.slice none 0 0,.slice none 0 0] 26)) [] tag n bc kn kc 48 ba ka ks (hko.under hq0) hkn.symm (by omega) hkl (by simp))
 have c0:=hH1.cell 0
 have c1:=hH1.cell 1
 have c2:=hH1.cell 2
 have HB0:=Lib.hid hq0
 have HZ:=Lib.hid hz
 have HH1:=Lib.hid hH1
 clear hko hkn hH1 hq0 hz
 rcases hsq:seqOk tag n 48 with _ | _
 case false =>
  have HNO:Hid (GetCNo T):=Lib.hid fun v _ h2=>by
   have:=HTK.out.2
   rw [←h2,hsq] at this
   cases this
  rw [hsq] at HGS
  go_enter Tryz.func16,Tryz.ntmps16
  go_wp2_with fail
  refine HGS.out.mono ?_
  rintro e w3 ⟨rfl,hb3⟩
  have HW:=Lib.hid hb3
  clear hb3 HGS c0 c1 c2
  have hz9:=HZ.out.under HW.out HZ.out.lt
  have HZ9:=Lib.hid hz9
  have z0:=hz9.cell 0
  have y0:=hz9.open_ 0
  have z1:=hz9.cell 1
  have y1:=hz9.open_ 1
  have z2:=hz9.cell 2
  have y2:=hz9.open_ 2
  have z3:=hz9.cell 3
  have y3:=hz9.open_ 3
  have z4:=hz9.cell 4
  have y4:=hz9.open_ 4
  clear hz9
  have HBE:=Lib.hid (HB0.out.trans (HW.out.mono HB0.out.size))
  go_wp2_with fail
  exact ret_crl rfl rfl rfl (((((HZ9.out.stored 0 _).stored 1 _).stored 2 _).stored 3 _).stored 4 _) rfl (.inr ⟨rfl,HNO.out,below_five HBE.out _ (by omega) _ _ _ _ _⟩)
 rw [hsq] at HGS
 clear hsq
 have HK3:Hid (∀ v,clTr v=T→ks.map Lt.t=[clBody v,.mk 3 (0 :: v.sig) []]):=Lib.hid fun v hv=>by
  have:=HTK.out.1
  rw [←hv] at this
  exact this.symm
 by_cases h3:kn=2
 case neg =>
  have d1:((kn:Int) == 2)=false:=by rw [beq_eq_false_iff_ne];omega
  have d1':((kn:Int) != 2)=true:=by rw [bne,d1];rfl
  have HNO:Hid (GetCNo T):=Lib.hid fun v _ h2=>by
   have:=congrArg List.length (HK3.out v h2)
   rw [List.length_map,←HKN.out] at this
   exact h3 this
  go_enter Tryz.func16,Tryz.ntmps16
  go_wp2_with fail
  refine HGS.out.mono ?_
  rintro e w3 ⟨A3,c3,rfl,hk3,hb3⟩
  rw [←HKN.out]
  have HW:=Lib.hid hb3
  clear hb3 HGS hk3 c0 c1 c2
  have hz9:=HZ.out.under HW.out HZ.out.lt
  have HZ9:=Lib.hid hz9
  have z0:=hz9.cell 0
  have y0:=hz9.open_ 0
  have z1:=hz9.cell 1
  have y1:=hz9.open_ 1
  have z2:=hz9.cell 2
  have y2:=hz9.open_ 2
  have z3:=hz9.cell 3
  have y3:=hz9.open_ 3
  have z4:=hz9.cell 4
  have y4:=hz9.open_ 4
  clear hz9
  have HBE:=Lib.hid (HB0.out.trans (HW.out.mono HB0.out.size))
  go_wp2_with fail
  exact ret_crl rfl rfl rfl (((((HZ9.out.stored 0 _).stored 1 _).stored 2 _).stored 3 _).stored 4 _) rfl (.inr ⟨rfl,HNO.out,below_five HBE.out _ (by omega) _ _ _ _ _⟩)
 subst h3
 go_enter Tryz.func16,Tryz.ntmps16
 go_wp2_with fail
 refine HGS.out.mono ?_
 rintro e w3 ⟨A3,c3,rfl,hk3,hb3⟩
 rw [←HKN.out]
 have HW3:=Lib.hid hb3
 have hm3:2≤c3:=by have:=hk3.at_.1.1;rw [←HKN.out] at this;exact this
 have hm63:=hk3.at_.1.2.1
 have l0:0<ks.length:=by rw [←HKN.out];omega
 have l1:1<ks.length:=by rw [←HKN.out];omega
 obtain ⟨g3,o3,rfl,hg3,hs0⟩:=KiP.cells (j:=0) hk3 l0
 obtain ⟨g3',o3',e3,_,hs1⟩:=KiP.cells (j:=1) hk3 l1
 injection e3 with e3
 injection e3 with e3 e3'
 subst e3 e3'
 have hp0:=KiP.kid hk3 (j:=0) l0
 have hp1:=KiP.kid hk3 (j:=1) l1
 have HF0:=Lib.hid (HFK.out _ (getD_mem (l:=ks) l0))
 have HF1:=Lib.hid (HFK.out _ (getD_mem (l:=ks) l1))
 have HKE:Hid (∀ v,clTr v=T→(ks.getD 0 default).t=clBody v∧(ks.getD 1 default).t = .mk 3 (0 :: v.sig) []):=Lib.hid fun v hv=>by
  have h:=HK3.out v hv
  refine ⟨?_,?_⟩
  ·rw [←lt_at l0,h];rfl
  ·rw [←lt_at l1,h];rfl
 obtain ⟨k0,hk0⟩:∃ q,q=ks.getD 0 default:=⟨_,rfl⟩
 obtain ⟨k1,hk1⟩:∃ q,q=ks.getD 1 default:=⟨_,rfl⟩
 rw [←hk0] at hs0 hp0 HF0
 rw [←hk1] at hs1 hp1 HF1
 rw [←hk0,←hk1] at HKE
 simp only [Nat.zero_mul,Nat.add_zero,Nat.one_mul,Nat.add_assoc,Nat.reduceAdd,Nat.reduceMul] at hs0 hs1
 have HS1:=Lib.hid hs1
 obtain ⟨a0,a1,a2⟩:=hs0 w3 (Below.refl _ _)
 have HNX:Hid (NoStr ((w.heap.size+1) :: xs) w3):=Lib.hid fun x hx=>by
  have hz:=HZ.out.under hb3 HZ.out.lt
  rcases List.mem_cons.1 hx with rfl | hx
  ·exact ⟨hz.lt,noStr_box hz⟩
  ·exact HXS.out.under (HB0.out.trans (hb3.mono HB0.out.size)) x hx
 have HGP:Hid (Calls Tryz.prog 46 #[.agg #[.int .u8 (k0.tag:Int),.slice k0.ba k0.body.length k0.bc,.slice k0.ka k0.kids.length k0.kc]] w3 (PartPost w3 ((w.heap.size+1) :: xs) k0.t)):=Lib.hid (parts_any w3 _ HNX.out k0 hp0 HF0.out.1 (Utf8Tabs_below HT.out (HB0.out.trans (hb3.mono HB0.out.size))))
 have HGB:Hid (∀ W,Below w3.heap.size w3 W→Calls Tryz.prog 47 #[.agg #[.int .u8 (k1.tag:Int),.slice k1.ba k1.body.length k1.bc,.slice k1.ka k1.kids.length k1.kc]] W (GetB W (bitsOf k1.t.tag k1.t.kids.length k1.t.body))):=Lib.hid fun W hW=>by
  have h:Rd .u8 W W.heap.size k1.ba k1.bc k1.body:=by
   obtain ⟨tag,ba,bc,body,ka,kc,kids⟩:=k1
   exact (ThP.iff.1 (hp1.under hW).at_).2.1
  have h12:=HF1.out.2
  rw [(t_parts k1).2.1] at h12
  rw [(t_parts k1).1,(t_parts k1).2.1,(t_parts k1).2.2,List.length_map]
  exact getBits_any W k1.tag k1.body.length k1.bc k1.kids.length k1.kc W.heap.size k1.ba k1.ka k1.body h rfl (Nat.le_refl _) h12
 have HOC:Hid (∀ x∈k1.t.body,x<256):=Lib.hid (by
  rw [(t_parts k1).2.1]
  obtain ⟨tag,ba,bc,body,ka,kc,kids⟩:=k1
  exact (ThP.iff.1 hp1.at_).2.2.1)
 clear HF0 HF1 HFK HK3 HTK hk0 hk1 hs0 hs1 hp0 hp1 hk3 HGS c0 c1 c2 l0 l1 hg3 HNX
 obtain ⟨K0,hK0⟩:∃ K,K=k0.t:=⟨_,rfl⟩
 obtain ⟨K1,hK1⟩:∃ K,K=k1.t:=⟨_,rfl⟩
 rw [←hK0] at HKE HGP
 rw [←hK1] at HKE HGB HOC
 clear hK0 hK1
 generalize k0.tag=f1 at *
 generalize k0.ba=f2 at *
 generalize k0.bc=f3 at *
 generalize k0.body.length=f4 at *
 generalize k0.ka=f5 at *
 generalize k0.kids.length=f6 at *
 generalize k0.kc=f7 at *
 generalize k1.tag=d1 at *
 generalize k1.ba=d2 at *
 generalize k1.bc=d3 at *
 generalize k1.body.length=d4 at *
 generalize k1.ka=d5 at *
 generalize k1.kids.length=d6 at *
 generalize k1.kc=d7 at *
 have hb3':=HW3.out
 go_wp2_with fail
 refine HGP.out.mono ?_
 rintro e w4 (⟨ia,ic,iss,ta,tn,ga,gc,gone,rfl,ho4,hdn,hg16,hall,hb4⟩ | ⟨rfl,hno4,hb4⟩)
 case inr =>
  have HNO:Hid (GetCNo T):=Lib.hid fun v hv h2=>hno4 v hv (HKE.out v h2).1.symm
  have HW:=Lib.hid ((HW3.out.trans (hb4.mono HW3.out.size)).alloc (Nat.le_trans HW3.out.size hb4.size) (.cells #[.slice none 0 0,.int .i64 0,.int .i64 0,.slice none 0 0,.slice none 0 0] 26))
  clear hb4 hno4 a0 a1 a2 HGP hb3 hb3'
  have hz9:=HZ.out.under HW.out HZ.out.lt
  have HZ9:=Lib.hid hz9
  have z0:=hz9.cell 0
  have y0:=hz9.open_ 0
  have z1:=hz9.cell 1
  have y1:=hz9.open_ 1
  have z2:=hz9.cell 2
  have y2:=hz9.open_ 2
  have z3:=hz9.cell 3
  have y3:=hz9.open_ 3
  have z4:=hz9.cell 4
  have y4:=hz9.open_ 4
  clear hz9
  have HBE:=Lib.hid (HB0.out.trans (HW.out.mono HB0.out.size))
  go_wp2_with fail
  exact ret_crl rfl rfl rfl (((((HZ9.out.stored 0 _).stored 1 _).stored 2 _).stored 3 _).stored 4 _) rfl (.inr ⟨rfl,HNO.out,below_five HBE.out _ (by omega) _ _ _ _ _⟩)
 have HW4:=Lib.hid (HW3.out.trans (hb4.mono HW3.out.size))
 have HO4:=Lib.hid ho4
 have HDN:=Lib.hid hdn
 have HALL:=Lib.hid hall
 obtain ⟨isn,hisn⟩:∃ k,iss.length=k:=⟨_,rfl⟩
 obtain ⟨gn,hgn⟩:∃ k,gone.length=k:=⟨_,rfl⟩
 have HISN:=Lib.hid hisn
 have HGN:=Lib.hid hgn
 rw [hisn,hgn]
 have hbx:=Holds.fresh w4 26 #[.slice ia isn ic,.int .i64 ta,.int .i64 tn,.slice ga gn gc,.slice none 0 0]
 have h45:Below w4.heap.size w4 (w4.alloc (.cells #[.slice ia isn ic,.int .i64 ta,.int .i64 tn,.slice ga gn gc,.slice none 0 0] 26)):=(Below.refl _ _).alloc (Nat.le_refl _) _
 have HV5:=Lib.hid (hb4.trans (h45.mono hb4.size))
 obtain ⟨V5,hV5⟩:∃ V5,V5=w4.alloc (.cells #[.slice ia isn ic,.int .i64 ta,.int .i64 tn,.slice ga gn gc,.slice none 0 0] 26):=⟨_,rfl⟩
 rw [←hV5] at HV5 hbx h45
 have HE5:=Lib.hid hV5
 have HBX:=Lib.hid hbx
 have H45:=Lib.hid h45
 obtain ⟨e0,e1,e2⟩:=HS1.out V5 HV5.out
 rw [hV5] at e0 e1 e2
 clear hbx h45 hV5 hb4 ho4 hdn hall hisn hgn a0 a1 a2 HGP hb3 hb3' hg16 HS1
 go_wp2_with fail
 rw [←HE5.out]
 refine (HGB.out V5 HV5.out).mono ?_
 intro e w6 hpo
 obtain ⟨sa,sc,rfl,hmi,hb6⟩:=hpo.one
 have HBB:Hid (∀ v,clTr v=T→bitsOf K1.tag K1.kids.length K1.body=some v.sig):=Lib.hid fun v hv=>bits_is (HKE.out v hv).2
 have HOS:Hid (∀ x∈(bitsOf K1.tag K1.kids.length K1.body).getD [],x<256):=Lib.hid fun x hx=>by
  unfold bitsOf at hx
  split at hx
  ·exact HOC.out x (List.mem_of_mem_drop hx)
  ·simp at hx
 obtain ⟨BO,hBO⟩:∃ b,b=bitsOf K1.tag K1.kids.length K1.body:=⟨_,rfl⟩
 rw [←hBO] at HBB HOS hmi
 rw [←hBO]
 obtain ⟨sig,hsig⟩:∃ s,s=BO.getD []:=⟨_,rfl⟩
 rw [←hsig] at hmi HOS
 rw [←hsig]
 have HSG:=Lib.hid hsig
 obtain ⟨sn,hsn⟩:∃ k,sig.length=k:=⟨_,rfl⟩
 have HSN:=Lib.hid hsn
 rw [hsn]
 obtain ⟨ok,hok⟩:∃ b,b=BO.isSome:=⟨_,rfl⟩
 rw [←hok]
 have HB6:=Lib.hid hb6
 have HMI:=Lib.hid hmi
 have hbx6:=HBX.out.under hb6 HBX.out.lt
 have x4:=hbx6.cell 4
 have y4:=hbx6.open_ 4
 have hV6:=H45.out.size
 obtain ⟨CLV,hCL⟩:∃ c:Cl,c=⟨ia,ic,iss,ta,tn,ga,gc,gone,sa,sc,sig⟩:=⟨_,rfl⟩
 have HCE:Hid ((ccell CLV).toArray=#[.slice ia isn ic,.int .i64 ta,.int .i64 tn,.slice ga gn gc,.slice sa sn sc]):=Lib.hid (by rw [hCL,←HISN.out,←HGN.out,←hsn];rfl)
 have hg5:w4.heap.size<V5.heap.size:=HBX.out.lt
 have hcl:Off ((w.heap.size+1) :: xs) (ClP CLV) (w6.setCell ⟨w4.heap.size,4,none⟩ (.slice sa sn sc)):=by
  have o1:Off (w4.heap.size :: (w.heap.size+1) :: xs) (fun W=>RdA W W.heap.size ia ic iss∧GsP ga gc gone W) w6:=((HO4.out.new (Nat.le_refl _)).under H45.out).under hb6
  have o2:Off (w4.heap.size :: (w.heap.size+1) :: xs) (fun W=>Rd .u8 W W.heap.size sa sc sig) w6:=Off.of_mine hmi (fun g hg hx=>by
   have h1:=(hmi.block hg).1
   have h2:=HZ.out.lt
   have h3:=HW4.out.size
   have h4:=HB0.out.size
   rcases List.mem_cons.1 hx with rfl | hx
   ·omega
   ·rcases List.mem_cons.1 hx with rfl | hx
    ·omega
    ·have:=(HXS.out g hx).1;omega)
  refine (((o1.and o2).store (p:=⟨w4.heap.size,4,none⟩) (by simp) _).less (fun g hg=>by simp only [List.mem_cons] at hg ⊢;exact .inr hg)).imp fun W hW=>?_
  rw [hCL]
  exact ⟨hW.1.1,hW.1.2,hW.2,HOS.out⟩
 have hLZ:Holds (w6.setCell ⟨w4.heap.size,4,none⟩ (.slice sa sn sc)) w4.heap.size 26 #[.slice ia isn ic,.int .i64 ta,.int .i64 tn,.slice ga gn gc,.slice sa sn sc]:=hbx6.stored 4 _
 have hVZ:Below ((w.alloc (.cells #[.int .u8 (tag:Int),.slice ba n bc,.slice ka 2 kc] 32)).alloc (.cells #[.slice none 0 0,.int .i64 0,.int .i64 0,.slice none 0 0,.slice none 0 0] 26)).heap.size ((w.alloc (.cells #[.int .u8 (tag:Int),.slice ba n bc,.slice ka 2 kc] 32)).alloc (.cells #[.slice none 0 0,.int .i64 0,.int .i64 0,.slice none 0 0,.slice none 0 0] 26)) (w6.setCell ⟨w4.heap.size,4,none⟩ (.slice sa sn sc)):=(HW4.out.trans ((H45.out.trans (hb6.mono (by omega))).mono HW4.out.size)).setCell (p:=⟨w4.heap.size,4,none⟩) HW4.out.size _
 obtain ⟨Z,hZ⟩:∃ Z,Z=w6.setCell ⟨w4.heap.size,4,none⟩ (.slice sa sn sc):=⟨_,rfl⟩
 rw [←hZ] at hcl hLZ hVZ
 have HZE:=Lib.hid hZ
 have HCF:=Lib.hid hcl
 have HVZ:=Lib.hid hVZ
 have HLZ:=Lib.hid hLZ
 have HLC:Hid (∀ W,Below Z.heap.size Z W→W.cell? ⟨w4.heap.size,0,none⟩=some (.slice ia isn ic)∧W.cell? ⟨w4.heap.size,1,none⟩=some (.int .i64 ta)∧W.cell? ⟨w4.heap.size,2,none⟩=some (.int .i64 tn)∧W.cell? ⟨w4.heap.size,3,none⟩=some (.slice ga gn gc)∧W.cell? ⟨w4.heap.size,4,none⟩=some (.slice sa sn sc)):=Lib.hid fun W hW=>by
  have h:=HLZ.out.under hW HLZ.out.lt
  exact ⟨h.cell 0,h.cell 1,h.cell 2,h.cell 3,h.cell 4⟩
 have HNC:Hid (∀ W,Below Z.heap.size Z W→W.cell? ⟨w.heap.size,0,none⟩=some (.int .u8 (tag:Int))∧W.cell? ⟨w.heap.size,1,none⟩=some (.slice ba n bc)∧W.cell? ⟨w.heap.size,2,none⟩=some (.slice ka 2 kc)):=Lib.hid fun W hW=>by
  have h:=HH1.out.under (HVZ.out.trans (hW.mono HVZ.out.size)) HH1.out.lt
  exact ⟨h.cell 0,h.cell 1,h.cell 2⟩
 have HTB:Hid (∀ W,Below Z.heap.size Z W→Lib.Utf8Tabs 0 1 W):=Lib.hid fun W hW=>Utf8Tabs_below HT.out (HB0.out.trans ((HVZ.out.trans (hW.mono HVZ.out.size)).mono HB0.out.size))
 have HSZ:Hid (∀ x∈CLV.iss,(bts x.s).length≤9223372036854775807):=Lib.hid (by rw [hCL];exact fun x hx=>by have:=dnOk_len HDN.out x hx;omega)
 have HIS0:Hid (∀ W,Below Z.heap.size Z W→Calls Tryz.prog 7 #[.agg #[.slice ia isn ic,.int .i64 ta,.int .i64 tn,.slice ga gn gc,.slice sa sn sc]] W fun e w'=>e = .returned (.bool (crlOk CLV.v))∧Below W.heap.size W w'):=Lib.hid fun W hW=>by
  have:=crlIs_any W CLV (HCF.out.under hW).at_ (HTB.out W hW) HSZ.out
  rwa [HCE.out] at this
 have HIS:=HIS0
 have HDG:Hid (∀ g∈CLV.v.gone,Dg g.ser):=Lib.hid (by
  have h:=HO4.out.at_.2
  rw [hCL]
  intro g hg
  obtain ⟨q,hq,rfl⟩:=List.mem_map.1 hg
  exact (h.2 q hq).2)
 have HVE:Hid (ok=true→∀ v,CvM v→clTr v=T→CLV.v=v):=Lib.hid fun ho v hv h2=>by
  obtain ⟨p1,p2,p3,p4⟩:=HALL.out v hv (HKE.out v h2).1.symm
  have p5:=HBB.out v h2
  rw [p5] at hsig
  rw [hCL]
  obtain ⟨v1,v2,v3,v4,v5⟩:=v
  simp only [Cl.v] at *
  rw [p1,p2,p3,p4,hsig]
  rfl
 have HVO:Hid (ok=false→GetCNo T):=Lib.hid fun ho v hv h2=>by
  have p5:=HBB.out v h2
  rw [hok,p5] at ho
  cases ho
 clear hcl hLZ hVZ hZ hpo hmi hb6 hbx6 e0 e1 e2 hsn hsig hok hBO HBB HOS HOC HKE HALL HGB HSG hg5 hV6 hCL
 rcases ok with _ | _
 ·have HNO:=Lib.hid (HVO.out rfl)
  clear HVO HVE HIS HIS0
  go_wp2_with fail
  rw [←HZE.out]
  clear x4 y4
  refine wp_region_noPanic ?_
  refine wp_region_held_drew (S:=fun W=>Below Z.heap.size Z W) (by kernel_rfl) (Below.refl _ Z).drew (fun hHeld=>?_)
  refine wpAnyH_take (i:=0) (oi:={ dst:=some 38,op:=Op.move (Operand.tmp 5),type:=4,pos:=_,after:=_,guard:=none }) (v:=?_) rfl (by kernel_rfl) (by kernel_rfl) (by kernel_rfl) (fun _ _ _ h=>h) (Or.inl ⟨by rfl,?_⟩) hHeld ?_
  rotate_left 1
  ·(intro W hW;(try dsimp only at hW);go_simp;try with_reducible rfl)
  try simp only [Act.put,List.setIfInBounds_toArray,List.set_cons_zero,List.set_cons_succ]
  refine wpAnyH_take (i:=1) (oi:={ dst:=some 39,op:=Op.unOp UnOp.not 4 (Operand.tmp 38),type:=4,pos:=_,after:=_,guard:=none }) (v:=?_) rfl (by kernel_rfl) (by kernel_rfl) (by kernel_rfl) (fun _ _ _ h=>h) (Or.inl ⟨by rfl,?_⟩) hHeld ?_
  rotate_left 1
  ·(intro W hW;(try dsimp only at hW);go_simp;try with_reducible rfl)
  try simp only [Act.put,List.setIfInBounds_toArray,List.set_cons_zero,List.set_cons_succ]
  refine wpAnyH_take (i:=2) (oi:={ dst:=some 40,op:=Op.move (Operand.tmp 39),type:=4,pos:=_,after:=_,guard:=none }) (v:=?_) rfl (by kernel_rfl) (by kernel_rfl) (by kernel_rfl) (fun _ _ _ h=>h) (Or.inl ⟨by rfl,?_⟩) hHeld ?_
  rotate_left 1
  ·(intro W hW;(try dsimp only at hW);go_simp;try with_reducible rfl)
  try simp only [Act.put,List.setIfInBounds_toArray,List.set_cons_zero,List.set_cons_succ]
  refine wpAnyH_take (i:=3) (oi:={ dst:=some 41,op:=Op.load 26 (Operand.tmp 6),type:=26,pos:=_,after:=_,guard:=some (2,false) }) (v:=undef) rfl (by kernel_rfl) (by kernel_rfl) (by kernel_rfl) (fun _ _ _ h=>h) (Or.inr ⟨by rfl,rfl⟩) hHeld ?_
  try simp only [Act.put,List.setIfInBounds_toArray,List.set_cons_zero,List.set_cons_succ]
  refine wpAnyH_take (i:=4) (oi:={ dst:=some 42,op:=Op.call { callee:=Callee.value (Operand.func 7),args:=#[Operand.tmp 41],argTypes:=#[26] },type:=4,pos:=_,after:=_,guard:=some (2,false) }) (v:=undef) rfl (by kernel_rfl) (by kernel_rfl) (by kernel_rfl) (fun _ _ _ h=>h) (Or.inr ⟨by rfl,rfl⟩) hHeld ?_
  try simp only [Act.put,List.setIfInBounds_toArray,List.set_cons_zero,List.set_cons_succ]
  refine wpAnyH_take (i:=5) (oi:={ dst:=some 43,op:=Op.unOp UnOp.not 4 (Operand.tmp 42),type:=4,pos:=_,after:=_,guard:=some (2,false) }) (v:=undef) rfl (by kernel_rfl) (by kernel_rfl) (by kernel_rfl) (fun _ _ _ h=>h) (Or.inr ⟨by rfl,rfl⟩) hHeld ?_
  try simp only [Act.put,List.setIfInBounds_toArray,List.set_cons_zero,List.set_cons_succ]
  refine wpAnyH_take (i:=6) (oi:={ dst:=some 44,op:=Op.pick (Operand.tmp 40) (Operand.const (Value.bool true)) (Operand.tmp 43),type:=4,pos:=_,after:=_,guard:=none }) (v:=?_) rfl (by kernel_rfl) (by kernel_rfl) (by kernel_rfl) (fun _ _ _ h=>h) (Or.inl ⟨by rfl,?_⟩) hHeld ?_
  rotate_left 1
  ·(intro W hW;(try dsimp only at hW);go_simp;try with_reducible rfl)
  try simp only [Act.put,List.setIfInBounds_toArray,List.set_cons_zero,List.set_cons_succ]
  refine wpAnyH_take (i:=7) (oi:={ dst:=some 45,op:=Op.move (Operand.tmp 44),type:=4,pos:=_,after:=_,guard:=none }) (v:=?_) rfl (by kernel_rfl) (by kernel_rfl) (by kernel_rfl) (fun _ _ _ h=>h) (Or.inl ⟨by rfl,?_⟩) hHeld ?_
  rotate_left 1
  ·(intro W hW;(try dsimp only at hW);go_simp;try with_reducible rfl)
  try simp only [Act.put,List.setIfInBounds_toArray,List.set_cons_zero,List.set_cons_succ]
  refine wpAnyH_take (i:=8) (oi:={ dst:=some 46,op:=Op.load 26 (Operand.tmp 6),type:=26,pos:=_,after:=_,guard:=some (7,false) }) (v:=undef) rfl (by kernel_rfl) (by kernel_rfl) (by kernel_rfl) (fun _ _ _ h=>h) (Or.inr ⟨by rfl,rfl⟩) hHeld ?_
  try simp only [Act.put,List.setIfInBounds_toArray,List.set_cons_zero,List.set_cons_succ]
  refine wpAnyH_take (i:=9) (oi:={ dst:=some 47,op:=Op.call { callee:=Callee.value (Operand.func 11),args:=#[Operand.tmp 46],argTypes:=#[26] },type:=32,pos:=_,after:=_,guard:=some (7,false) }) (v:=undef) rfl (by kernel_rfl) (by kernel_rfl) (by kernel_rfl) (fun _ _ _ h=>h) (Or.inr ⟨by rfl,rfl⟩) hHeld ?_
  try simp only [Act.put,List.setIfInBounds_toArray,List.set_cons_zero,List.set_cons_succ]
  refine wpAnyH_take (i:=10) (oi:={ dst:=some 48,op:=Op.load 32 (Operand.tmp 1),type:=32,pos:=_,after:=_,guard:=some (7,false) }) (v:=undef) rfl (by kernel_rfl) (by kernel_rfl) (by kernel_rfl) (fun _ _ _ h=>h) (Or.inr ⟨by rfl,rfl⟩) hHeld ?_
  try simp only [Act.put,List.setIfInBounds_toArray,List.set_cons_zero,List.set_cons_succ]
  refine wpAnyH_take (i:=11) (oi:={ dst:=some 49,op:=Op.call { callee:=Callee.value (Operand.func 48),args:=#[Operand.tmp 47,Operand.tmp 48],argTypes:=#[32,32] },type:=4,pos:=_,after:=_,guard:=some (7,false) }) (v:=undef) rfl (by kernel_rfl) (by kernel_rfl) (by kernel_rfl) (fun _ _ _ h=>h) (Or.inr ⟨by rfl,rfl⟩) hHeld ?_
  try simp only [Act.put,List.setIfInBounds_toArray,List.set_cons_zero,List.set_cons_succ]
  refine wpAnyH_take (i:=12) (oi:={ dst:=some 50,op:=Op.unOp UnOp.not 4 (Operand.tmp 49),type:=4,pos:=_,after:=_,guard:=some (7,false) }) (v:=undef) rfl (by kernel_rfl) (by kernel_rfl) (by kernel_rfl) (fun _ _ _ h=>h) (Or.inr ⟨by rfl,rfl⟩) hHeld ?_
  try simp only [Act.put,List.setIfInBounds_toArray,List.set_cons_zero,List.set_cons_succ]
  refine wpAnyH_take (i:=13) (oi:={ dst:=some 51,op:=Op.pick (Operand.tmp 45) (Operand.const (Value.bool true)) (Operand.tmp 50),type:=4,pos:=_,after:=_,guard:=none }) (v:=?_) rfl (by kernel_rfl) (by kernel_rfl) (by kernel_rfl) (fun _ _ _ h=>h) (Or.inl ⟨by rfl,?_⟩) hHeld ?_
  rotate_left 1
  ·(intro W hW;(try dsimp only at hW);go_simp;try with_reducible rfl)
  try simp only [Act.put,List.setIfInBounds_toArray,List.set_cons_zero,List.set_cons_succ]
  refine wpAnyH_done (by kernel_rfl) ?_ _
  refine NoPanic.normal ?_
  have hz9:=HZ.out.under HVZ.out HZ.out.lt
  have HZ9:=Lib.hid hz9
  have z0:=hz9.cell 0
  have y0:=hz9.open_ 0
  have z1:=hz9.cell 1
  have y1:=hz9.open_ 1
  have z2:=hz9.cell 2
  have y2:=hz9.open_ 2
  have z3:=hz9.cell 3
  have y3:=hz9.open_ 3
  have z4:=hz9.cell 4
  have y4:=hz9.open_ 4
  clear hz9
  clear HZ9
  have HZ9:=Lib.hid (HZ.out.under (HVZ.out.trans ((Below.refl _ Z).drew.mono HVZ.out.size)) HZ.out.lt)
  have HBE:=Lib.hid (HB0.out.trans ((HVZ.out.trans ((Below.refl _ Z).drew.mono HVZ.out.size)).mono HB0.out.size))
  go_wp2_with fail
  exact ret_crl rfl rfl rfl (((((HZ9.out.stored 0 _).stored 1 _).stored 2 _).stored 3 _).stored 4 _) rfl (.inr ⟨rfl,HNO.out,below_five HBE.out _ (by omega) _ _ _ _ _⟩)
 rcases hxi:crlOk CLV.v with _ | _
 ·have HNO:Hid (GetCNo T):=Lib.hid fun v hv h2=>by
   have h3:=HVE.out rfl v hv h2
   rw [h3,hv.1] at hxi
   cases hxi
  rw [hxi] at HIS
  clear HVO HVE hxi HIS0
  go_wp2_with fail
  rw [←HZE.out]
  clear x4 y4
  refine wp_region_noPanic ?_
  refine wp_region_held_drew (S:=fun W=>Below Z.heap.size Z W) (by kernel_rfl) (Below.refl _ Z).drew (fun hHeld=>?_)
  refine wpAnyH_take (i:=0) (oi:={ dst:=some 38,op:=Op.move (Operand.tmp 5),type:=4,pos:=_,after:=_,guard:=none }) (v:=?_) rfl (by kernel_rfl) (by kernel_rfl) (by kernel_rfl) (fun _ _ _ h=>h) (Or.inl ⟨by rfl,?_⟩) hHeld ?_
  rotate_left 1
  ·(intro W hW;(try dsimp only at hW);go_simp;try with_reducible rfl)
  try simp only [Act.put,List.setIfInBounds_toArray,List.set_cons_zero,List.set_cons_succ]
  refine wpAnyH_take (i:=1) (oi:={ dst:=some 39,op:=Op.unOp UnOp.not 4 (Operand.tmp 38),type:=4,pos:=_,after:=_,guard:=none }) (v:=?_) rfl (by kernel_rfl) (by kernel_rfl) (by kernel_rfl) (fun _ _ _ h=>h) (Or.inl ⟨by rfl,?_⟩) hHeld ?_
  rotate_left 1
  ·(intro W hW;(try dsimp only at hW);go_simp;try with_reducible rfl)
  try simp only [Act.put,List.setIfInBounds_toArray,List.set_cons_zero,List.set_cons_succ]
  refine wpAnyH_take (i:=2) (oi:={ dst:=some 40,op:=Op.move (Operand.tmp 39),type:=4,pos:=_,after:=_,guard:=none }) (v:=?_) rfl (by kernel_rfl) (by kernel_rfl) (by kernel_rfl) (fun _ _ _ h=>h) (Or.inl ⟨by rfl,?_⟩) hHeld ?_
  rotate_left 1
  ·(intro W hW;(try dsimp only at hW);go_simp;try with_reducible rfl)
  try simp only [Act.put,List.setIfInBounds_toArray,List.set_cons_zero,List.set_cons_succ]
  refine wpAnyH_take (i:=3) (oi:={ dst:=some 41,op:=Op.load 26 (Operand.tmp 6),type:=26,pos:=_,after:=_,guard:=some (2,false) }) (v:=?_) rfl (by kernel_rfl) (by kernel_rfl) (by kernel_rfl) (fun _ _ _ h=>h) (Or.inl ⟨by rfl,?_⟩) hHeld ?_
  rotate_left 1
  ·(intro W hW;obtain ⟨l0,l1,l2,l3,l4⟩:=HLC.out W hW;(try dsimp only at hW);go_simp;try with_reducible rfl)
  try simp only [Act.put,List.setIfInBounds_toArray,List.set_cons_zero,List.set_cons_succ]
  refine wpAnyH_ready (rs:=[4]) (by kernel_rfl) (by simp) ?_
  refine AllReadyH.cons (o:={ dst:=some 42,op:=Op.call { callee:=Callee.value (Operand.func 7),args:=#[Operand.tmp 41],argTypes:=#[26] },type:=4,pos:=_,after:=_,guard:=some (2,false) }) rfl (fun K hK=>?_) AllReadyH.nil
  go_simp
  refine (HIS.out _ (Below.refl _ Z).drew).mono ?_
  rintro e w8 ⟨rfl,hb8⟩
  have b8:Hid (Below Z.heap.size Z w8):=Lib.hid ((Below.refl _ Z).drew.trans hb8)
  clear hb8
  go_simp
  refine hK.out _ _ (b8.out) (fun _=>?_)
  clear hK K hHeld
  try simp only [Act.put,List.setIfInBounds_toArray,List.set_cons_zero,List.set_cons_succ]
  refine wpAnyH_strong (S':=fun W=>Below w8.heap.size w8 W) (fun W hW=>b8.out.trans (hW.mono b8.out.size)) _ _ _ _ ?_
  have hHeld:(fun W=>Below w8.heap.size w8 W) w8:=Below.refl _ _
  refine wpAnyH_take (i:=5) (oi:={ dst:=some 43,op:=Op.unOp UnOp.not 4 (Operand.tmp 42),type:=4,pos:=_,after:=_,guard:=some (2,false) }) (v:=?_) rfl (by kernel_rfl) (by kernel_rfl) (by kernel_rfl) (fun _ _ _ h=>h) (Or.inl ⟨by rfl,?_⟩) hHeld ?_
  rotate_left 1
  ·(intro W hW;(try dsimp only at hW);go_simp;try with_reducible rfl)
  try simp only [Act.put,List.setIfInBounds_toArray,List.set_cons_zero,List.set_cons_succ]
  refine wpAnyH_take (i:=6) (oi:={ dst:=some 44,op:=Op.pick (Operand.tmp 40) (Operand.const (Value.bool true)) (Operand.tmp 43),type:=4,pos:=_,after:=_,guard:=none }) (v:=?_) rfl (by kernel_rfl) (by kernel_rfl) (by kernel_rfl) (fun _ _ _ h=>h) (Or.inl ⟨by rfl,?_⟩) hHeld ?_
  rotate_left 1
  ·(intro W hW;(try dsimp only at hW);go_simp;try with_reducible rfl)
  try simp only [Act.put,List.setIfInBounds_toArray,List.set_cons_zero,List.set_cons_succ]
  refine wpAnyH_take (i:=7) (oi:={ dst:=some 45,op:=Op.move (Operand.tmp 44),type:=4,pos:=_,after:=_,guard:=none }) (v:=?_) rfl (by kernel_rfl) (by kernel_rfl) (by kernel_rfl) (fun _ _ _ h=>h) (Or.inl ⟨by rfl,?_⟩) hHeld ?_
  rotate_left 1
  ·(intro W hW;(try dsimp only at hW);go_simp;try with_reducible rfl)
  try simp only [Act.put,List.setIfInBounds_toArray,List.set_cons_zero,List.set_cons_succ]
  refine wpAnyH_take (i:=8) (oi:={ dst:=some 46,op:=Op.load 26 (Operand.tmp 6),type:=26,pos:=_,after:=_,guard:=some (7,false) }) (v:=undef) rfl (by kernel_rfl) (by kernel_rfl) (by kernel_rfl) (fun _ _ _ h=>h) (Or.inr ⟨by rfl,rfl⟩) hHeld ?_
  try simp only [Act.put,List.setIfInBounds_toArray,List.set_cons_zero,List.set_cons_succ]
  refine wpAnyH_take (i:=9) (oi:={ dst:=some 47,op:=Op.call { callee:=Callee.value (Operand.func 11),args:=#[Operand.tmp 46],argTypes:=#[26] },type:=32,pos:=_,after:=_,guard:=some (7,false) }) (v:=undef) rfl (by kernel_rfl) (by kernel_rfl) (by kernel_rfl) (fun _ _ _ h=>h) (Or.inr ⟨by rfl,rfl⟩) hHeld ?_
  try simp only [Act.put,List.setIfInBounds_toArray,List.set_cons_zero,List.set_cons_succ]
  refine wpAnyH_take (i:=10) (oi:={ dst:=some 48,op:=Op.load 32 (Operand.tmp 1),type:=32,pos:=_,after:=_,guard:=some (7,false) }) (v:=undef) rfl (by kernel_rfl) (by kernel_rfl) (by kernel_rfl) (fun _ _ _ h=>h) (Or.inr ⟨by rfl,rfl⟩) hHeld ?_
  try simp only [Act.put,List.setIfInBounds_toArray,List.set_cons_zero,List.set_cons_succ]
  refine wpAnyH_take (i:=11) (oi:={ dst:=some 49,op:=Op.call { callee:=Callee.value (Operand.func 48),args:=#[Operand.tmp 47,Operand.tmp 48],argTypes:=#[32,32] },type:=4,pos:=_,after:=_,guard:=some (7,false) }) (v:=undef) rfl (by kernel_rfl) (by kernel_rfl) (by kernel_rfl) (fun _ _ _ h=>h) (Or.inr ⟨by rfl,rfl⟩) hHeld ?_
  try simp only [Act.put,List.setIfInBounds_toArray,List.set_cons_zero,List.set_cons_succ]
  refine wpAnyH_take (i:=12) (oi:={ dst:=some 50,op:=Op.unOp UnOp.not 4 (Operand.tmp 49),type:=4,pos:=_,after:=_,guard:=some (7,false) }) (v:=undef) rfl (by kernel_rfl) (by kernel_rfl) (by kernel_rfl) (fun _ _ _ h=>h) (Or.inr ⟨by rfl,rfl⟩) hHeld ?_
  try simp only [Act.put,List.setIfInBounds_toArray,List.set_cons_zero,List.set_cons_succ]
  refine wpAnyH_take (i:=13) (oi:={ dst:=some 51,op:=Op.pick (Operand.tmp 45) (Operand.const (Value.bool true)) (Operand.tmp 50),type:=4,pos:=_,after:=_,guard:=none }) (v:=?_) rfl (by kernel_rfl) (by kernel_rfl) (by kernel_rfl) (fun _ _ _ h=>h) (Or.inl ⟨by rfl,?_⟩) hHeld ?_
  rotate_left 1
  ·(intro W hW;(try dsimp only at hW);go_simp;try with_reducible rfl)
  try simp only [Act.put,List.setIfInBounds_toArray,List.set_cons_zero,List.set_cons_succ]
  refine wpAnyH_done (by kernel_rfl) ?_ _
  refine NoPanic.normal ?_
  have hz9:=HZ.out.under (HVZ.out.trans (b8.out.mono HVZ.out.size)) HZ.out.lt
  have HZ9:=Lib.hid hz9
  have z0:=hz9.cell 0
  have y0:=hz9.open_ 0
  have z1:=hz9.cell 1
  have y1:=hz9.open_ 1
  have z2:=hz9.cell 2
  have y2:=hz9.open_ 2
  have z3:=hz9.cell 3
  have y3:=hz9.open_ 3
  have z4:=hz9.cell 4
  have y4:=hz9.open_ 4
  clear hz9
  have HBE:=Lib.hid (HB0.out.trans ((HVZ.out.trans (b8.out.mono HVZ.out.size)).mono HB0.out.size))
  go_wp2_with fail
  exact ret_crl rfl rfl rfl (((((HZ9.out.stored 0 _).stored 1 _).stored 2 _).stored 3 _).stored 4 _) rfl (.inr ⟨rfl,HNO.out,below_five HBE.out _ (by omega) _ _ _ _ _⟩)
 have HCM:Hid (CvM CLV.v):=Lib.hid ⟨hxi,HDG.out⟩
 have HND:Hid (∀ W,Below Z.heap.size Z W→Calls Tryz.prog 11 #[.agg #[.slice ia isn ic,.int .i64 ta,.int .i64 tn,.slice ga gn gc,.slice sa sn sc]] W (MadeT W [] (clTr CLV.v))):=Lib.hid fun W hW=>by
  have:=clNode_any W [] CLV (HCF.out.under hW).at_ hxi (HTB.out W hW) HSZ.out (by simp)
  rwa [HCE.out] at this
 rw [hxi] at HIS
 clear HVO hxi HIS0
 by_cases hte:clTr CLV.v=T
 ·have HS:Hid (∀ (W:World) (lt:Lt),Below Z.heap.size Z W→lt.t=clTr CLV.v→Off [] (ThP lt) W→Calls Tryz.prog 48 #[lt.val,.agg #[.int .u8 (tag:Int),.slice ba n bc,.slice ka 2 kc]] W fun e w'=>e = .returned (.bool true)∧Below W.heap.size W w'):=Lib.hid fun W lt hW hl ho=>by
   rw [←HVAL.out]
   exact same_any lt t W W.heap.size ho.at_ (HTH.out.under (HB0.out.trans ((HVZ.out.trans (hW.mono HVZ.out.size)).mono HB0.out.size))).at_ (Nat.le_refl _) true (by rw [hl,hte,HTT.out];simp)
  have HTE:=Lib.hid hte
  clear hte HVE
  go_wp2_with fail
  rw [←HZE.out]
  clear x4 y4
  refine wp_region_noPanic ?_
  refine wp_region_held_drew (S:=fun W=>Below Z.heap.size Z W) (by kernel_rfl) (Below.refl _ Z).drew (fun hHeld=>?_)
  refine wpAnyH_take (i:=0) (oi:={ dst:=some 38,op:=Op.move (Operand.tmp 5),type:=4,pos:=_,after:=_,guard:=none }) (v:=?_) rfl (by kernel_rfl) (by kernel_rfl) (by kernel_rfl) (fun _ _ _ h=>h) (Or.inl ⟨by rfl,?_⟩) hHeld ?_
  rotate_left 1
  ·(intro W hW;(try dsimp only at hW);go_simp;try with_reducible rfl)
  try simp only [Act.put,List.setIfInBounds_toArray,List.set_cons_zero,List.set_cons_succ]
  refine wpAnyH_take (i:=1) (oi:={ dst:=some 39,op:=Op.unOp UnOp.not 4 (Operand.tmp 38),type:=4,pos:=_,after:=_,guard:=none }) (v:=?_) rfl (by kernel_rfl) (by kernel_rfl) (by kernel_rfl) (fun _ _ _ h=>h) (Or.inl ⟨by rfl,?_⟩) hHeld ?_
  rotate_left 1
  ·(intro W hW;(try dsimp only at hW);go_simp;try with_reducible rfl)
  try simp only [Act.put,List.setIfInBounds_toArray,List.set_cons_zero,List.set_cons_succ]
  refine wpAnyH_take (i:=2) (oi:={ dst:=some 40,op:=Op.move (Operand.tmp 39),type:=4,pos:=_,after:=_,guard:=none }) (v:=?_) rfl (by kernel_rfl) (by kernel_rfl) (by kernel_rfl) (fun _ _ _ h=>h) (Or.inl ⟨by rfl,?_⟩) hHeld ?_
  rotate_left 1
  ·(intro W hW;(try dsimp only at hW);go_simp;try with_reducible rfl)
  try simp only [Act.put,List.setIfInBounds_toArray,List.set_cons_zero,List.set_cons_succ]
  refine wpAnyH_take (i:=3) (oi:={ dst:=some 41,op:=Op.load 26 (Operand.tmp 6),type:=26,pos:=_,after:=_,guard:=some (2,false) }) (v:=?_) rfl (by kernel_rfl) (by kernel_rfl) (by kernel_rfl) (fun _ _ _ h=>h) (Or.inl ⟨by rfl,?_⟩) hHeld ?_
  rotate_left 1
  ·(intro W hW;obtain ⟨l0,l1,l2,l3,l4⟩:=HLC.out W hW;(try dsimp only at hW);go_simp;try with_reducible rfl)
  try simp only [Act.put,List.setIfInBounds_toArray,List.set_cons_zero,List.set_cons_succ]
  refine wpAnyH_ready (rs:=[4]) (by kernel_rfl) (by simp) ?_
  refine AllReadyH.cons (o:={ dst:=some 42,op:=Op.call { callee:=Callee.value (Operand.func 7),args:=#[Operand.tmp 41],argTypes:=#[26] },type:=4,pos:=_,after:=_,guard:=some (2,false) }) rfl (fun K hK=>?_) AllReadyH.nil
  go_simp
  refine (HIS.out _ (Below.refl _ Z).drew).mono ?_
  rintro e w8 ⟨rfl,hb8⟩
  have b8:Hid (Below Z.heap.size Z w8):=Lib.hid ((Below.refl _ Z).drew.trans hb8)
  clear hb8
  go_simp
  refine hK.out _ _ (b8.out) (fun _=>?_)
  clear hK K hHeld
  try simp only [Act.put,List.setIfInBounds_toArray,List.set_cons_zero,List.set_cons_succ]
  refine wpAnyH_strong (S':=fun W=>Below w8.heap.size w8 W) (fun W hW=>b8.out.trans (hW.mono b8.out.size)) _ _ _ _ ?_
  have hHeld:(fun W=>Below w8.heap.size w8 W) w8:=Below.refl _ _
  refine wpAnyH_take (i:=5) (oi:={ dst:=some 43,op:=Op.unOp UnOp.not 4 (Operand.tmp 42),type:=4,pos:=_,after:=_,guard:=some (2,false) }) (v:=?_) rfl (by kernel_rfl) (by kernel_rfl) (by kernel_rfl) (fun _ _ _ h=>h) (Or.inl ⟨by rfl,?_⟩) hHeld ?_
  rotate_left 1
  ·(intro W hW;(try dsimp only at hW);go_simp;try with_reducible rfl)
  try simp only [Act.put,List.setIfInBounds_toArray,List.set_cons_zero,List.set_cons_succ]
  refine wpAnyH_take (i:=6) (oi:={ dst:=some 44,op:=Op.pick (Operand.tmp 40) (Operand.const (Value.bool true)) (Operand.tmp 43),type:=4,pos:=_,after:=_,guard:=none }) (v:=?_) rfl (by kernel_rfl) (by kernel_rfl) (by kernel_rfl) (fun _ _ _ h=>h) (Or.inl ⟨by rfl,?_⟩) hHeld ?_
  rotate_left 1
  ·(intro W hW;(try dsimp only at hW);go_simp;try with_reducible rfl)
  try simp only [Act.put,List.setIfInBounds_toArray,List.set_cons_zero,List.set_cons_succ]
  refine wpAnyH_take (i:=7) (oi:={ dst:=some 45,op:=Op.move (Operand.tmp 44),type:=4,pos:=_,after:=_,guard:=none }) (v:=?_) rfl (by kernel_rfl) (by kernel_rfl) (by kernel_rfl) (fun _ _ _ h=>h) (Or.inl ⟨by rfl,?_⟩) hHeld ?_
  rotate_left 1
  ·(intro W hW;(try dsimp only at hW);go_simp;try with_reducible rfl)
  try simp only [Act.put,List.setIfInBounds_toArray,List.set_cons_zero,List.set_cons_succ]
  refine wpAnyH_take (i:=8) (oi:={ dst:=some 46,op:=Op.load 26 (Operand.tmp 6),type:=26,pos:=_,after:=_,guard:=some (7,false) }) (v:=?_) rfl (by kernel_rfl) (by kernel_rfl) (by kernel_rfl) (fun _ _ _ h=>h) (Or.inl ⟨by rfl,?_⟩) hHeld ?_
  rotate_left 1
  ·(intro W hW;obtain ⟨l0,l1,l2,l3,l4⟩:=HLC.out W (b8.out.trans (hW.mono b8.out.size));(try dsimp only at hW);go_simp;try with_reducible rfl)
  try simp only [Act.put,List.setIfInBounds_toArray,List.set_cons_zero,List.set_cons_succ]
  refine wpAnyH_take (i:=10) (oi:={ dst:=some 48,op:=Op.load 32 (Operand.tmp 1),type:=32,pos:=_,after:=_,guard:=some (7,false) }) (v:=?_) rfl (by kernel_rfl) (by kernel_rfl) (by kernel_rfl) (fun _ _ _ h=>h) (Or.inl ⟨by rfl,?_⟩) hHeld ?_
  rotate_left 1
  ·(intro W hW;obtain ⟨k0,k1,k2⟩:=HNC.out W (b8.out.trans (hW.mono b8.out.size));(try dsimp only at hW);go_simp;try with_reducible rfl)
  try simp only [Act.put,List.setIfInBounds_toArray,List.set_cons_zero,List.set_cons_succ]
  refine wpAnyH_ready (rs:=[9]) (by kernel_rfl) (by simp) ?_
  refine AllReadyH.cons (o:={ dst:=some 47,op:=Op.call { callee:=Callee.value (Operand.func 11),args:=#[Operand.tmp 46],argTypes:=#[26] },type:=32,pos:=_,after:=_,guard:=some (7,false) }) rfl (fun K hK=>?_) AllReadyH.nil
  go_simp
  refine (HND.out _ b8.out).mono ?_
  rintro e w9 hm9
  obtain ⟨lt9,pt,pa,pn,pc,pk,pm,pd,rfl,h69,hT9,hO9,hb9⟩:=MadeT.six hm9
  have b9:Hid (Below w8.heap.size w8 w9):=Lib.hid hb9
  have H9:=Lib.hid (b8.out.trans (hb9.mono b8.out.size))
  have HSA:=Lib.hid (HS.out w9 lt9 H9.out hT9 hO9)
  rw [h69.val] at HSA
  clear hb9 hm9 hT9 hO9 h69
  go_simp
  refine hK.out _ _ (b9.out) (fun _=>?_)
  clear hK K hHeld
  try simp only [Act.put,List.setIfInBounds_toArray,List.set_cons_zero,List.set_cons_succ]
  refine wpAnyH_strong (S':=fun W=>Below w9.heap.size w9 W) (fun W hW=>b9.out.trans (hW.mono b9.out.size)) _ _ _ _ ?_
  have hHeld:(fun W=>Below w9.heap.size w9 W) w9:=Below.refl _ _
  refine wpAnyH_ready (rs:=[11]) (by kernel_rfl) (by simp) ?_
  refine AllReadyH.cons (o:={ dst:=some 49,op:=Op.call { callee:=Callee.value (Operand.func 48),args:=#[Operand.tmp 47,Operand.tmp 48],argTypes:=#[32,32] },type:=4,pos:=_,after:=_,guard:=some (7,false) }) rfl (fun K hK=>?_) AllReadyH.nil
  go_simp
  refine HSA.out.mono ?_
  rintro e w10 ⟨rfl,hb10⟩
  have b10:Hid (Below w9.heap.size w9 w10):=Lib.hid hb10
  have H10:=Lib.hid (H9.out.trans (hb10.mono H9.out.size))
  clear hb10
  go_simp
  refine hK.out _ _ (b10.out) (fun _=>?_)
  clear hK K hHeld
  try simp only [Act.put,List.setIfInBounds_toArray,List.set_cons_zero,List.set_cons_succ]
  refine wpAnyH_strong (S':=fun W=>Below w10.heap.size w10 W) (fun W hW=>b10.out.trans (hW.mono b10.out.size)) _ _ _ _ ?_
  have hHeld:(fun W=>Below w10.heap.size w10 W) w10:=Below.refl _ _
  refine wpAnyH_take (i:=12) (oi:={ dst:=some 50,op:=Op.unOp UnOp.not 4 (Operand.tmp 49),type:=4,pos:=_,after:=_,guard:=some (7,false) }) (v:=?_) rfl (by kernel_rfl) (by kernel_rfl) (by kernel_rfl) (fun _ _ _ h=>h) (Or.inl ⟨by rfl,?_⟩) hHeld ?_
  rotate_left 1
  ·(intro W hW;(try dsimp only at hW);go_simp;try with_reducible rfl)
  try simp only [Act.put,List.setIfInBounds_toArray,List.set_cons_zero,List.set_cons_succ]
  refine wpAnyH_take (i:=13) (oi:={ dst:=some 51,op:=Op.pick (Operand.tmp 45) (Operand.const (Value.bool true)) (Operand.tmp 50),type:=4,pos:=_,after:=_,guard:=none }) (v:=?_) rfl (by kernel_rfl) (by kernel_rfl) (by kernel_rfl) (fun _ _ _ h=>h) (Or.inl ⟨by rfl,?_⟩) hHeld ?_
  rotate_left 1
  ·(intro W hW;(try dsimp only at hW);go_simp;try with_reducible rfl)
  try simp only [Act.put,List.setIfInBounds_toArray,List.set_cons_zero,List.set_cons_succ]
  refine wpAnyH_done (by kernel_rfl) ?_ _
  refine NoPanic.normal ?_
  obtain ⟨l0,l1,l2,l3,l4⟩:=HLC.out w10 H10.out
  have hz9:=HZ.out.under (HVZ.out.trans (H10.out.mono HVZ.out.size)) HZ.out.lt
  have HZ9:=Lib.hid hz9
  have z0:=hz9.cell 0
  have y0:=hz9.open_ 0
  have z1:=hz9.cell 1
  have y1:=hz9.open_ 1
  have z2:=hz9.cell 2
  have y2:=hz9.open_ 2
  have z3:=hz9.cell 3
  have y3:=hz9.open_ 3
  have z4:=hz9.cell 4
  have y4:=hz9.open_ 4
  clear hz9
  have HBE:=Lib.hid (HB0.out.trans ((HVZ.out.trans (H10.out.mono HVZ.out.size)).mono HB0.out.size))
  have HFI:=Lib.hid (HCF.out.under H10.out)
  go_wp2_with fail
  exact ret_crl rfl rfl rfl (((((HZ9.out.stored 0 _).stored 1 _).stored 2 _).stored 3 _).stored 4 _) rfl (.inl ⟨CLV,(by rw [HCE.out];rfl),off_out5 HFI.out _ _ _ _ _,HCM.out,HTE.out,HSZ.out,below_five HBE.out _ (by omega) _ _ _ _ _⟩)
 ·have HS:Hid (∀ (W:World) (lt:Lt),Below Z.heap.size Z W→lt.t=clTr CLV.v→Off [] (ThP lt) W→Calls Tryz.prog 48 #[lt.val,.agg #[.int .u8 (tag:Int),.slice ba n bc,.slice ka 2 kc]] W fun e w'=>e = .returned (.bool false)∧Below W.heap.size W w'):=Lib.hid fun W lt hW hl ho=>by
   rw [←HVAL.out]
   exact same_any lt t W W.heap.size ho.at_ (HTH.out.under (HB0.out.trans ((HVZ.out.trans (hW.mono HVZ.out.size)).mono HB0.out.size))).at_ (Nat.le_refl _) false (by rw [hl,←HTT.out];simp [hte])
  have HNO:Hid (GetCNo T):=Lib.hid fun v hv h2=>hte (by rw [HVE.out rfl v hv h2];exact h2)
  clear hte HVE
  go_wp2_with fail
  rw [←HZE.out]
  clear x4 y4
  refine wp_region_noPanic ?_
  refine wp_region_held_drew (S:=fun W=>Below Z.heap.size Z W) (by kernel_rfl) (Below.refl _ Z).drew (fun hHeld=>?_)
  refine wpAnyH_take (i:=0) (oi:={ dst:=some 38,op:=Op.move (Operand.tmp 5),type:=4,pos:=_,after:=_,guard:=none }) (v:=?_) rfl (by kernel_rfl) (by kernel_rfl) (by kernel_rfl) (fun _ _ _ h=>h) (Or.inl ⟨by rfl,?_⟩) hHeld ?_
  rotate_left 1
  ·(intro W hW;(try dsimp only at hW);go_simp;try with_reducible rfl)
  try simp only [Act.put,List.setIfInBounds_toArray,List.set_cons_zero,List.set_cons_succ]
  refine wpAnyH_take (i:=1) (oi:={ dst:=some 39,op:=Op.unOp UnOp.not 4 (Operand.tmp 38),type:=4,pos:=_,after:=_,guard:=none }) (v:=?_) rfl (by kernel_rfl) (by kernel_rfl) (by kernel_rfl) (fun _ _ _ h=>h) (Or.inl ⟨by rfl,?_⟩) hHeld ?_
  rotate_left 1
  ·(intro W hW;(try dsimp only at hW);go_simp;try with_reducible rfl)
  try simp only [Act.put,List.setIfInBounds_toArray,List.set_cons_zero,List.set_cons_succ]
  refine wpAnyH_take (i:=2) (oi:={ dst:=some 40,op:=Op.move (Operand.tmp 39),type:=4,pos:=_,after:=_,guard:=none }) (v:=?_) rfl (by kernel_rfl) (by kernel_rfl) (by kernel_rfl) (fun _ _ _ h=>h) (Or.inl ⟨by rfl,?_⟩) hHeld ?_
  rotate_left 1
  ·(intro W hW;(try dsimp only at hW);go_simp;try with_reducible rfl)
  try simp only [Act.put,List.setIfInBounds_toArray,List.set_cons_zero,List.set_cons_succ]
  refine wpAnyH_take (i:=3) (oi:={ dst:=some 41,op:=Op.load 26 (Operand.tmp 6),type:=26,pos:=_,after:=_,guard:=some (2,false) }) (v:=?_) rfl (by kernel_rfl) (by kernel_rfl) (by kernel_rfl) (fun _ _ _ h=>h) (Or.inl ⟨by rfl,?_⟩) hHeld ?_
  rotate_left 1
  ·(intro W hW;obtain ⟨l0,l1,l2,l3,l4⟩:=HLC.out W hW;(try dsimp only at hW);go_simp;try with_reducible rfl)
  try simp only [Act.put,List.setIfInBounds_toArray,List.set_cons_zero,List.set_cons_succ]
  refine wpAnyH_ready (rs:=[4]) (by kernel_rfl) (by simp) ?_
  refine AllReadyH.cons (o:={ dst:=some 42,op:=Op.call { callee:=Callee.value (Operand.func 7),args:=#[Operand.tmp 41],argTypes:=#[26] },type:=4,pos:=_,after:=_,guard:=some (2,false) }) rfl (fun K hK=>?_) AllReadyH.nil
  go_simp
  refine (HIS.out _ (Below.refl _ Z).drew).mono ?_
  rintro e w8 ⟨rfl,hb8⟩
  have b8:Hid (Below Z.heap.size Z w8):=Lib.hid ((Below.refl _ Z).drew.trans hb8)
  clear hb8
  go_simp
  refine hK.out _ _ (b8.out) (fun _=>?_)
  clear hK K hHeld
  try simp only [Act.put,List.setIfInBounds_toArray,List.set_cons_zero,List.set_cons_succ]
  refine wpAnyH_strong (S':=fun W=>Below w8.heap.size w8 W) (fun W hW=>b8.out.trans (hW.mono b8.out.size)) _ _ _ _ ?_
  have hHeld:(fun W=>Below w8.heap.size w8 W) w8:=Below.refl _ _
  refine wpAnyH_take (i:=5) (oi:={ dst:=some 43,op:=Op.unOp UnOp.not 4 (Operand.tmp 42),type:=4,pos:=_,after:=_,guard:=some (2,false) }) (v:=?_) rfl (by kernel_rfl) (by kernel_rfl) (by kernel_rfl) (fun _ _ _ h=>h) (Or.inl ⟨by rfl,?_⟩) hHeld ?_
  rotate_left 1
  ·(intro W hW;(try dsimp only at hW);go_simp;try with_reducible rfl)
  try simp only [Act.put,List.setIfInBounds_toArray,List.set_cons_zero,List.set_cons_succ]
  refine wpAnyH_take (i:=6) (oi:={ dst:=some 44,op:=Op.pick (Operand.tmp 40) (Operand.const (Value.bool true)) (Operand.tmp 43),type:=4,pos:=_,after:=_,guard:=none }) (v:=?_) rfl (by kernel_rfl) (by kernel_rfl) (by kernel_rfl) (fun _ _ _ h=>h) (Or.inl ⟨by rfl,?_⟩) hHeld ?_
  rotate_left 1
  ·(intro W hW;(try dsimp only at hW);go_simp;try with_reducible rfl)
  try simp only [Act.put,List.setIfInBounds_toArray,List.set_cons_zero,List.set_cons_succ]
  refine wpAnyH_take (i:=7) (oi:={ dst:=some 45,op:=Op.move (Operand.tmp 44),type:=4,pos:=_,after:=_,guard:=none }) (v:=?_) rfl (by kernel_rfl) (by kernel_rfl) (by kernel_rfl) (fun _ _ _ h=>h) (Or.inl ⟨by rfl,?_⟩) hHeld ?_
  rotate_left 1
  ·(intro W hW;(try dsimp only at hW);go_simp;try with_reducible rfl)
  try simp only [Act.put,List.setIfInBounds_toArray,List.set_cons_zero,List.set_cons_succ]
  refine wpAnyH_take (i:=8) (oi:={ dst:=some 46,op:=Op.load 26 (Operand.tmp 6),type:=26,pos:=_,after:=_,guard:=some (7,false) }) (v:=?_) rfl (by kernel_rfl) (by kernel_rfl) (by kernel_rfl) (fun _ _ _ h=>h) (Or.inl ⟨by rfl,?_⟩) hHeld ?_
  rotate_left 1
  ·(intro W hW;obtain ⟨l0,l1,l2,l3,l4⟩:=HLC.out W (b8.out.trans (hW.mono b8.out.size));(try dsimp only at hW);go_simp;try with_reducible rfl)
  try simp only [Act.put,List.setIfInBounds_toArray,List.set_cons_zero,List.set_cons_succ]
  refine wpAnyH_take (i:=10) (oi:={ dst:=some 48,op:=Op.load 32 (Operand.tmp 1),type:=32,pos:=_,after:=_,guard:=some (7,false) }) (v:=?_) rfl (by kernel_rfl) (by kernel_rfl) (by kernel_rfl) (fun _ _ _ h=>h) (Or.inl ⟨by rfl,?_⟩) hHeld ?_
  rotate_left 1
  ·(intro W hW;obtain ⟨k0,k1,k2⟩:=HNC.out W (b8.out.trans (hW.mono b8.out.size));(try dsimp only at hW);go_simp;try with_reducible rfl)
  try simp only [Act.put,List.setIfInBounds_toArray,List.set_cons_zero,List.set_cons_succ]
  refine wpAnyH_ready (rs:=[9]) (by kernel_rfl) (by simp) ?_
  refine AllReadyH.cons (o:={ dst:=some 47,op:=Op.call { callee:=Callee.value (Operand.func 11),args:=#[Operand.tmp 46],argTypes:=#[26] },type:=32,pos:=_,after:=_,guard:=some (7,false) }) rfl (fun K hK=>?_) AllReadyH.nil
  go_simp
  refine (HND.out _ b8.out).mono ?_
  rintro e w9 hm9
  obtain ⟨lt9,pt,pa,pn,pc,pk,pm,pd,rfl,h69,hT9,hO9,hb9⟩:=MadeT.six hm9
  have b9:Hid (Below w8.heap.size w8 w9):=Lib.hid hb9
  have H9:=Lib.hid (b8.out.trans (hb9.mono b8.out.size))
  have HSA:=Lib.hid (HS.out w9 lt9 H9.out hT9 hO9)
  rw [h69.val] at HSA
  clear hb9 hm9 hT9 hO9 h69
  go_simp
  refine hK.out _ _ (b9.out) (fun _=>?_)
  clear hK K hHeld
  try simp only [Act.put,List.setIfInBounds_toArray,List.set_cons_zero,List.set_cons_succ]
  refine wpAnyH_strong (S':=fun W=>Below w9.heap.size w9 W) (fun W hW=>b9.out.trans (hW.mono b9.out.size)) _ _ _ _ ?_
  have hHeld:(fun W=>Below w9.heap.size w9 W) w9:=Below.refl _ _
  refine wpAnyH_ready (rs:=[11]) (by kernel_rfl) (by simp) ?_
  refine AllReadyH.cons (o:={ dst:=some 49,op:=Op.call { callee:=Callee.value (Operand.func 48),args:=#[Operand.tmp 47,Operand.tmp 48],argTypes:=#[32,32] },type:=4,pos:=_,after:=_,guard:=some (7,false) }) rfl (fun K hK=>?_) AllReadyH.nil
  go_simp
  refine HSA.out.mono ?_
  rintro e w10 ⟨rfl,hb10⟩
  have b10:Hid (Below w9.heap.size w9 w10):=Lib.hid hb10
  have H10:=Lib.hid (H9.out.trans (hb10.mono H9.out.size))
  clear hb10
  go_simp
  refine hK.out _ _ (b10.out) (fun _=>?_)
  clear hK K hHeld
  try simp only [Act.put,List.setIfInBounds_toArray,List.set_cons_zero,List.set_cons_succ]
  refine wpAnyH_strong (S':=fun W=>Below w10.heap.size w10 W) (fun W hW=>b10.out.trans (hW.mono b10.out.size)) _ _ _ _ ?_
  have hHeld:(fun W=>Below w10.heap.size w10 W) w10:=Below.refl _ _
  refine wpAnyH_take (i:=12) (oi:={ dst:=some 50,op:=Op.unOp UnOp.not 4 (Operand.tmp 49),type:=4,pos:=_,after:=_,guard:=some (7,false) }) (v:=?_) rfl (by kernel_rfl) (by kernel_rfl) (by kernel_rfl) (fun _ _ _ h=>h) (Or.inl ⟨by rfl,?_⟩) hHeld ?_
  rotate_left 1
  ·(intro W hW;(try dsimp only at hW);go_simp;try with_reducible rfl)
  try simp only [Act.put,List.setIfInBounds_toArray,List.set_cons_zero,List.set_cons_succ]
  refine wpAnyH_take (i:=13) (oi:={ dst:=some 51,op:=Op.pick (Operand.tmp 45) (Operand.const (Value.bool true)) (Operand.tmp 50),type:=4,pos:=_,after:=_,guard:=none }) (v:=?_) rfl (by kernel_rfl) (by kernel_rfl) (by kernel_rfl) (fun _ _ _ h=>h) (Or.inl ⟨by rfl,?_⟩) hHeld ?_
  rotate_left 1
  ·(intro W hW;(try dsimp only at hW);go_simp;try with_reducible rfl)
  try simp only [Act.put,List.setIfInBounds_toArray,List.set_cons_zero,List.set_cons_succ]
  refine wpAnyH_done (by kernel_rfl) ?_ _
  refine NoPanic.normal ?_
  have hz9:=HZ.out.under (HVZ.out.trans (H10.out.mono HVZ.out.size)) HZ.out.lt
  have HZ9:=Lib.hid hz9
  have z0:=hz9.cell 0
  have y0:=hz9.open_ 0
  have z1:=hz9.cell 1
  have y1:=hz9.open_ 1
  have z2:=hz9.cell 2
  have y2:=hz9.open_ 2
  have z3:=hz9.cell 3
  have y3:=hz9.open_ 3
  have z4:=hz9.cell 4
  have y4:=hz9.open_ 4
  clear hz9
  have HBE:=Lib.hid (HB0.out.trans ((HVZ.out.trans (H10.out.mono HVZ.out.size)).mono HB0.out.size))
  go_wp2_with fail
  exact ret_crl rfl rfl rfl (((((HZ9.out.stored 0 _).stored 1 _).stored 2 _).stored 3 _).stored 4 _) rfl (.inr ⟨rfl,HNO.out,below_five HBE.out _ (by omega) _ _ _ _ _⟩)
end Go.Proofs.YtcibjcgipfpniaaGreatDoor
