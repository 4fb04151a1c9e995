/- Words and laws for the statement, part 21. -/
import Derived.Test.YtcibjcgipfpniaaGreatDoorG20
namespace Go.Proofs.YtcibjcgipfpniaaGreatDoor
open Go.RowKit
set_option linter.unusedVariables false
set_option linter.unusedSimpArgs false
attribute [local go_sem ↓] Go.wp_at_zero Go.wp_at_succ

def PartNo (T:Tr):Prop:=∀ v:CV,CvM v→clBody v≠T
def NoStr (xs:List Nat) (w:World):Prop:=∀ x∈xs,x<w.heap.size∧∀ j s,w.cell? ⟨x,j,none⟩≠some (.string s)
theorem NoStr.under {xs:List Nat} {w w':World} (h:NoStr xs w) (hb:Below w.heap.size w w'):NoStr xs w':=fun x hx =>
 ⟨Nat.lt_of_lt_of_le (h x hx).1 hb.size,fun j s hc=>(h x hx).2 j s (by rw [←hb.cell (p:=⟨x,j,none⟩) (h x hx).1];exact hc)⟩
theorem off_name {xs:List Nat} {w:World} {A:Option Addr} {c:Nat} {l:List Att} (h:RdA w w.heap.size A c l) (hl:dnOk l=true) (hx:NoStr xs w):Off xs (fun w=>RdA w w.heap.size A c l) w:=fun w' h2 h3=>by
 refine ⟨h.1,h.2.1,fun hn=>?_⟩
 obtain ⟨b,off,e,hlt,hc⟩:=h.2.2 hn
 have hb:b ∉ xs:=fun hh=>(hx b hh).2 _ _ (hc 0 hn).2
 have k:∀ o,w'.cell? ⟨b,o,none⟩=w.cell? ⟨b,o,none⟩:=fun o=>by simp only [World.cell?];rw [h3 b hb hlt]
 exact ⟨b,off,e,by omega,fun j hj=>⟨(k _).trans (hc j hj).1,(k _).trans (hc j hj).2⟩⟩
theorem off_out5 {xs:List Nat} {P:World→Prop} {g:Nat} {w':World} (h:Off (g :: xs) P w') (a b c d e:Value) :
  Off xs P (((((w'.setCell ⟨g,0,none⟩ a).setCell ⟨g,1,none⟩ b).setCell ⟨g,2,none⟩ c).setCell ⟨g,3,none⟩ d).setCell ⟨g,4,none⟩ e) :=
 (((((h.store (p:=⟨g,0,none⟩) (by simp) a).store (p:=⟨g,1,none⟩) (by simp) b).store (p:=⟨g,2,none⟩) (by simp) c).store (p:=⟨g,3,none⟩) (by simp) d).store (p:=⟨g,4,none⟩) (by simp) e).less (fun g hg=>by simp [hg])
theorem noStr_box {w:World} {g:Nat} {a b:Int} {A B C:Option Addr} {l1 c1 l2 c2 l3 c3:Nat} {t:TypeId} (h:Holds w g t #[.slice A l1 c1,.int .i64 a,.int .i64 b,.slice B l2 c2,.slice C l3 c3]):∀ j s,w.cell? ⟨g,j,none⟩≠some (.string s):=fun j s hc=>by
 rw [h.cell] at hc
 match j,hc with
 | 0,hc=>cases hc
 | 1,hc=>cases hc
 | 2,hc=>cases hc
 | 3,hc=>cases hc
 | 4,hc=>cases hc
 | j+5,hc=>simp at hc
def PartPost (w:World) (xs:List Nat) (T:Tr) (e:Ending) (w':World):Prop :=
 (∃ (ia:Option Addr) (ic:Nat) (iss:List Att) (ta tn:Int) (ga:Option Addr) (gc:Nat) (gone:List Gn),e = .returned (.tuple #[.agg #[.slice ia iss.length ic,.int .i64 ta,.int .i64 tn,.slice ga gone.length gc,.slice none 0 0],.bool true]) ∧
  Off xs (fun W=>RdA W W.heap.size ia ic iss∧GsP ga gc gone W) w'∧dnOk iss=true∧gone.length≤16∧(∀ v:CV,CvM v→clBody v=T→iss=v.iss∧ta=v.at_∧tn=v.next∧gone.map Gn.v=v.gone)∧Below w.heap.size w w') ∨
 (e = .returned (.tuple #[.agg #[.slice none 0 0,.int .i64 0,.int .i64 0,.slice none 0 0,.slice none 0 0],.bool false])∧PartNo T∧Below w.heap.size w w')
theorem GetPost.two {w w':World} {tag nk:Nat} {b:List Nat} {e:Ending} (h:GetPost w tag b nk e w'):∃ (u:Int) (ok:Bool),e = .returned (.tuple #[.int .i64 u,.bool ok])∧(ok=true→IsTime tag b nk u)∧(ok=false→∀ t,¬ IsTime tag b nk t)∧Below w.heap.size w w':=by
 obtain ⟨⟨t,h1,h2⟩ | ⟨h1,h2⟩,hb⟩:=h
 ·exact ⟨t,true,h2,fun _=>h1,fun h=>by (cases h),hb⟩
 ·exact ⟨0,false,h2,fun h=>by (cases h),fun _=>h1,hb⟩
theorem SerPost.one {w w':World} {xs:List Nat} {T:Tr} {e:Ending} (h:SerPost w xs T e w'):∃ (A:Option Addr) (c:Nat) (l:List Gn) (ok:Bool),e = .returned (.tuple #[.slice A l.length c,.bool ok])∧Off xs (GsP A c l) w'∧l.length≤16∧(ok=true→∀ l2:List GV,(∀ g∈l2,GnM g)→T = .mk 48 [] (l2.map gnTr)→l.map Gn.v=l2)∧(ok=false→SerNo T)∧Below w.heap.size w w':=by
 obtain ⟨A,c,l,h1,h2,h3,h4,h5⟩ | ⟨h1,h2,h3⟩:=h
 ·exact ⟨A,c,l,true,h1,h2,h3,fun _=>h4,fun h=>by (cases h),h5⟩
 ·exact ⟨none,0,[],false,h1,fun w2 _ _=>GsP.none _,Nat.zero_le _,fun h=>by (cases h),fun _=>h2,h3⟩
def FitP (t:Tr):Prop:=t.kids.length≤100000∧∀ k∈t.kids,FitG k∧Fit3 k
set_option maxRecDepth 100000 in
set_option maxHeartbeats 16000000 in
theorem parts_any (w:World) (xs:List Nat) (hxs:NoStr xs w) (t:Lt) (h:Off [] (ThP t) w) (hf:FitP t.t) (hT:Lib.Utf8Tabs 0 1 w) :
  Calls Tryz.prog 46 #[t.val] w (PartPost w xs t.t):=by
 obtain ⟨T,hTT⟩:∃ T,T=t.t:=⟨_,rfl⟩
 rw [←hTT]
 have HVAL:Hid (t.val = .agg #[.int .u8 (t.tag:Int),.slice t.ba t.body.length t.bc,.slice t.ka t.kids.length t.kc]):=Lib.hid rfl
 have hko:Off [] (KiP t.ka t.kc t.kids) w:=by
  obtain ⟨tag,ba,bc,body,ka,kc,kids⟩:=t
  exact kids_off h
 have hkl:t.kids.length≤100000:=by have:=hf.1;rw [(t_parts t).2.2,List.length_map] at this;omega
 have HTK:Hid (T.kids=t.kids.map Lt.t∧seqOk T.tag T.body.length 48=seqOk t.tag t.body.length 48):=Lib.hid (by rw [hTT,(t_parts t).1,(t_parts t).2.1,(t_parts t).2.2];exact ⟨rfl,rfl⟩)
 have HFK:Hid (∀ q∈t.kids,FitG q.t∧Fit3 q.t):=Lib.hid fun q hq=>hf.2 q.t (by rw [(t_parts t).2.2];exact List.mem_map_of_mem hq)
 have HT:=Lib.hid hT
 have HXS:=Lib.hid hxs
 rw [HVAL.out]
 obtain ⟨ks,hks⟩:∃ ks,ks=t.kids:=⟨_,rfl⟩
 rw [←hks] at hko hkl HTK HVAL HFK ⊢
 clear h hTT hf hks hT hxs
 generalize t.tag=tag at *
 generalize t.ba=ba at *
 generalize t.bc=bc at *
 generalize t.body.length=n at *
 generalize t.ka=ka at *
 generalize t.kc=kc at *
 clear HVAL
 obtain ⟨kn,hkn⟩:∃ k,k=ks.length:=⟨_,rfl⟩
 have HKN:=Lib.hid hkn
 rw [←hkn] at hkl ⊢
 have hH1:=(Holds.fresh w 32 #[.int .u8 (tag:Int),.slice ba n bc,.slice ka kn kc]).alloc (.cells #[.slice none 0 0,.int .i64 0,.int .i64 0,.slice none 0 0,.slice none 0 0] 26)
 have hz:=Holds.fresh (w.alloc (.cells #[.int .u8 (tag:Int),.slice ba n bc,.slice ka kn kc] 32)) 26 #[.slice none 0 0,.int .i64 0,.int .i64 0,.slice none 0 0,.slice none 0 0]
 rw [show (w.alloc (.cells #[.int .u8 (tag:Int),.slice ba n bc,.slice ka kn kc] 32)).heap.size=w.heap.size+1 by simp] at hz
 have hq0:Below w.heap.size w ((w.alloc (.cells #[.int .u8 (tag:Int),.slice ba n bc,.slice ka kn kc] 32)).alloc (.cells #[.slice none 0 0,.int .i64 0,.int .i64 0,.slice none 0 0,.slice none 0 0] 26)):=((Below.refl _ _).alloc (Nat.le_refl _) _).alloc (by simp) _
 have HGS:=Lib.hid (getSeq_any ((w.alloc (.cells #[.int .u8 (tag:Int),.slice ba n bc,.slice ka kn kc] 32)).alloc (.cells #[.slice none 0 0,.int .i64 0,.int .i64 0,.slice none 0 0,.slice none 0 0] 26)) [] tag n bc kn kc 48 ba ka ks (hko.under hq0) hkn.symm (by omega) hkl (by simp))
 have c0:=hH1.cell 0
 have c1:=hH1.cell 1
 have c2:=hH1.cell 2
 have HB0:=Lib.hid hq0
 have HZ:=Lib.hid hz
 clear hko hkn hH1 hq0 hz
 rcases hsq:seqOk tag n 48 with _ | _
 case false =>
  have HNO:Hid (PartNo T):=Lib.hid fun v _ h2=>by
   have:=HTK.out.2
   rw [←h2,hsq] at this
   cases this
  rw [hsq] at HGS
  go_enter Tryz.func46,Tryz.ntmps46
  go_wp2_with fail
  refine HGS.out.mono ?_
  rintro e w3 ⟨rfl,hb3⟩
  have HW:=Lib.hid hb3
  clear hb3 HGS c0 c1 c2
  have hz9:=HZ.out.under HW.out HZ.out.lt
  have HZ9:=Lib.hid hz9
  have z0:=hz9.cell 0
  have y0:=hz9.open_ 0
  have z1:=hz9.cell 1
  have y1:=hz9.open_ 1
  have z2:=hz9.cell 2
  have y2:=hz9.open_ 2
  have z3:=hz9.cell 3
  have y3:=hz9.open_ 3
  have z4:=hz9.cell 4
  have y4:=hz9.open_ 4
  clear hz9
  have HBE:=Lib.hid (HB0.out.trans (HW.out.mono HB0.out.size))
  go_wp2_with fail
  exact ret_crl rfl rfl rfl (((((HZ9.out.stored 0 _).stored 1 _).stored 2 _).stored 3 _).stored 4 _) rfl (.inr ⟨rfl,HNO.out,below_five HBE.out _ (by omega) _ _ _ _ _⟩)
 rw [hsq] at HGS
 clear hsq
 have HK3:Hid (∀ v,clBody v=T→ks.map Lt.t=[dnTr v.iss,.mk 48 [] [timeTr v.at_,timeTr v.next],.mk 48 [] (v.gone.map gnTr)]):=Lib.hid fun v hv=>by
  have:=HTK.out.1
  rw [←hv] at this
  exact this.symm
 by_cases h3:kn=3
 case neg =>
  have d1:((kn:Int) == 3)=false:=by rw [beq_eq_false_iff_ne];omega
  have d1':((kn:Int) != 3)=true:=by rw [bne,d1];rfl
  have HNO:Hid (PartNo T):=Lib.hid fun v _ h2=>by
   have:=congrArg List.length (HK3.out v h2)
   rw [List.length_map,←HKN.out] at this
   exact h3 this
  go_enter Tryz.func46,Tryz.ntmps46
  go_wp2_with fail
  refine HGS.out.mono ?_
  rintro e w3 ⟨A3,c3,rfl,hk3,hb3⟩
  rw [←HKN.out]
  have HW:=Lib.hid hb3
  clear hb3 HGS hk3 c0 c1 c2
  have hz9:=HZ.out.under HW.out HZ.out.lt
  have HZ9:=Lib.hid hz9
  have z0:=hz9.cell 0
  have y0:=hz9.open_ 0
  have z1:=hz9.cell 1
  have y1:=hz9.open_ 1
  have z2:=hz9.cell 2
  have y2:=hz9.open_ 2
  have z3:=hz9.cell 3
  have y3:=hz9.open_ 3
  have z4:=hz9.cell 4
  have y4:=hz9.open_ 4
  clear hz9
  have HBE:=Lib.hid (HB0.out.trans (HW.out.mono HB0.out.size))
  go_wp2_with fail
  exact ret_crl rfl rfl rfl (((((HZ9.out.stored 0 _).stored 1 _).stored 2 _).stored 3 _).stored 4 _) rfl (.inr ⟨rfl,HNO.out,below_five HBE.out _ (by omega) _ _ _ _ _⟩)
 subst h3
 go_enter Tryz.func46,Tryz.ntmps46
 go_wp2_with fail
 refine HGS.out.mono ?_
 rintro e w3 ⟨A3,c3,rfl,hk3,hb3⟩
 rw [←HKN.out]
 have HW3:=Lib.hid hb3
 have hm3:3≤c3:=by have:=hk3.at_.1.1;rw [←HKN.out] at this;exact this
 have hm63:=hk3.at_.1.2.1
 have l0:0<ks.length:=by rw [←HKN.out];omega
 have l1:1<ks.length:=by rw [←HKN.out];omega
 have l2:2<ks.length:=by rw [←HKN.out];omega
 obtain ⟨g3,o3,rfl,hg3,hs0⟩:=KiP.cells (j:=0) hk3 l0
 obtain ⟨g3',o3',e3,_,hs1⟩:=KiP.cells (j:=1) hk3 l1
 injection e3 with e3
 injection e3 with e3 e3'
 subst e3 e3'
 obtain ⟨g3',o3',e3,_,hs2⟩:=KiP.cells (j:=2) hk3 l2
 injection e3 with e3
 injection e3 with e3 e3'
 subst e3 e3'
 have hp0:=KiP.kid hk3 (j:=0) l0
 have hp1:=KiP.kid hk3 (j:=1) l1
 have hp2:=KiP.kid hk3 (j:=2) l2
 have HF0:=Lib.hid (HFK.out _ (getD_mem (l:=ks) l0))
 have HF1:=Lib.hid (HFK.out _ (getD_mem (l:=ks) l1))
 have HF2:=Lib.hid (HFK.out _ (getD_mem (l:=ks) l2))
 have HKE:Hid (∀ v,clBody v=T→(ks.getD 0 default).t=dnTr v.iss∧(ks.getD 1 default).t = .mk 48 [] [timeTr v.at_,timeTr v.next]∧(ks.getD 2 default).t = .mk 48 [] (v.gone.map gnTr)):=Lib.hid fun v hv=>by
  have h:=HK3.out v hv
  refine ⟨?_,?_,?_⟩
  ·rw [←lt_at l0,h];rfl
  ·rw [←lt_at l1,h];rfl
  ·rw [←lt_at l2,h];rfl
 obtain ⟨k0,hk0⟩:∃ q,q=ks.getD 0 default:=⟨_,rfl⟩
 obtain ⟨k1,hk1⟩:∃ q,q=ks.getD 1 default:=⟨_,rfl⟩
 obtain ⟨k2,hk2⟩:∃ q,q=ks.getD 2 default:=⟨_,rfl⟩
 rw [←hk0] at hs0 hp0 HF0
 rw [←hk1] at hs1 hp1 HF1
 rw [←hk2] at hs2 hp2 HF2
 rw [←hk0,←hk1,←hk2] at HKE
 simp only [Nat.zero_mul,Nat.add_zero,Nat.one_mul,Nat.add_assoc,Nat.reduceAdd,Nat.reduceMul] at hs0 hs1 hs2
 have HS1:=Lib.hid hs1
 have HS2:=Lib.hid hs2
 obtain ⟨a0,a1,a2⟩:=hs0 w3 (Below.refl _ _)
 have HGD:Hid (Calls Tryz.prog 90 #[.agg #[.int .u8 (k0.tag:Int),.slice k0.ba k0.body.length k0.bc,.slice k0.ka k0.kids.length k0.kc]] w3 (GetDPost w3 k0.t)):=Lib.hid (getD_any w3 k0 hp0 HF0.out.1 (Utf8Tabs_below HT.out (HB0.out.trans (hb3.mono HB0.out.size))))
 have HGT:Hid (∀ W,Below w3.heap.size w3 W→Calls Tryz.prog 45 #[.agg #[.int .u8 (k1.tag:Int),.slice k1.ba k1.body.length k1.bc,.slice k1.ka k1.kids.length k1.kc],.int .u8 48] W (SeqPost W [] k1.kids (seqOk k1.tag k1.body.length 48))):=Lib.hid fun W hW=>by
  have hkk:Off [] (KiP k1.ka k1.kc k1.kids) w3:=by
   obtain ⟨tag,ba,bc,body,ka,kc,kids⟩:=k1
   exact kids_off hp1
  exact getSeq_any W [] k1.tag k1.body.length k1.bc k1.kids.length k1.kc 48 k1.ba k1.ka k1.kids (hkk.under hW) rfl (by omega) (by have:=HF1.out.2.1;rw [(t_parts k1).2.2,List.length_map] at this;exact this) (by simp)
 have HGG:Hid (∀ W,Below w3.heap.size w3 W→Calls Tryz.prog 92 #[.agg #[.int .u8 (k2.tag:Int),.slice k2.ba k2.body.length k2.bc,.slice k2.ka k2.kids.length k2.kc]] W (SerPost W ((w.heap.size+1) :: xs) k2.t)):=Lib.hid fun W hW=>serials_any W ((w.heap.size+1) :: xs) k2 (hp2.under hW) HF2.out.2 (fun x hx=>by
  have h1:=HZ.out.lt
  have h2:=HW3.out.size
  have h3:=hW.size
  rcases List.mem_cons.1 hx with rfl | hx
  ·omega
  ·have h4:=(HXS.out x hx).1
   have h5:=HB0.out.size
   omega)
 have HFT:Hid (∀ p∈k1.kids,p.kids.length≤100000):=Lib.hid fun p hp=>by
  have:=(HF1.out.2.2 p.t (by rw [(t_parts k1).2.2];exact List.mem_map_of_mem hp)).1
  rwa [(t_parts p).2.2,List.length_map] at this
 have HQ1:Hid (k1.t.tag=k1.tag∧k1.t.body=k1.body∧k1.t.kids=k1.kids.map Lt.t):=Lib.hid (t_parts k1)
 clear HF0 HF1 HF2 HFK HK3 HTK hk0 hk1 hk2 hs0 hs1 hs2 hp0 hp1 hp2 hk3 hb3 HGS c0 c1 c2 l0 l1 l2 hg3
 obtain ⟨K0,hK0⟩:∃ K,K=k0.t:=⟨_,rfl⟩
 rw [←hK0] at HKE HGD
 obtain ⟨m1,hm1⟩:∃ m,m=k1.kids.length:=⟨_,rfl⟩
 obtain ⟨qs,hqs⟩:∃ q,q=k1.kids:=⟨_,rfl⟩
 obtain ⟨b1,hb1⟩:∃ m,m=k1.body.length:=⟨_,rfl⟩
 have HM1:Hid (m1=qs.length):=Lib.hid (by rw [hm1,hqs])
 have HT1:Hid (∀ v,clBody v=T→seqOk k1.tag b1 48=true∧qs.map Lt.t=[timeTr v.at_,timeTr v.next]):=Lib.hid fun v hv=>by
  have h:=(HKE.out v hv).2.1
  have hq:=HQ1.out
  rw [h] at hq
  refine ⟨?_,?_⟩
  ·rw [hb1,←hq.1,←hq.2.1];rfl
  ·rw [hqs,←hq.2.2];rfl
 rw [←hm1,←hb1] at HGT HS1
 rw [←hqs] at HGT HFT
 clear hm1 hqs hb1 hK0 HQ1
 generalize k0.tag=f1 at *
 generalize k0.ba=f2 at *
 generalize k0.bc=f3 at *
 generalize k0.body.length=f4 at *
 generalize k0.ka=f5 at *
 generalize k0.kids.length=f6 at *
 generalize k0.kc=f7 at *
 generalize k1.tag=d1 at *
 generalize k1.ba=d2 at *
 generalize k1.bc=d3 at *
 generalize k1.ka=d5 at *
 generalize k1.kc=d7 at *
 obtain ⟨K2,hK2⟩:∃ K,K=k2.t:=⟨_,rfl⟩
 rw [←hK2] at HKE HGG
 clear hK2
 generalize k2.tag=j1 at *
 generalize k2.ba=j2 at *
 generalize k2.bc=j3 at *
 generalize k2.body.length=j4 at *
 generalize k2.ka=j5 at *
 generalize k2.kids.length=j6 at *
 generalize k2.kc=j7 at *
 go_wp2_with fail
 refine HGD.out.mono ?_
 rintro e w4 (⟨A4,c4,iss,rfl,hr4,hok4,htr4,hb4⟩ | ⟨rfl,hno4,hb4⟩)
 case inr =>
  have HNO:Hid (PartNo T):=Lib.hid fun v hv h2=>hno4 v.iss (crlOk_parts hv.1).1 (HKE.out v h2).1.symm
  have HW:=Lib.hid (HW3.out.trans (hb4.mono HW3.out.size))
  clear hb4 hno4 a0 a1 a2 HGD
  have hz9:=HZ.out.under HW.out HZ.out.lt
  have HZ9:=Lib.hid hz9
  have z0:=hz9.cell 0
  have y0:=hz9.open_ 0
  have z1:=hz9.cell 1
  have y1:=hz9.open_ 1
  have z2:=hz9.cell 2
  have y2:=hz9.open_ 2
  have z3:=hz9.cell 3
  have y3:=hz9.open_ 3
  have z4:=hz9.cell 4
  have y4:=hz9.open_ 4
  clear hz9
  have HBE:=Lib.hid (HB0.out.trans (HW.out.mono HB0.out.size))
  go_wp2_with fail
  exact ret_crl rfl rfl rfl (((((HZ9.out.stored 0 _).stored 1 _).stored 2 _).stored 3 _).stored 4 _) rfl (.inr ⟨rfl,HNO.out,below_five HBE.out _ (by omega) _ _ _ _ _⟩)
 have HI:Hid (∀ v,CvM v→clBody v=T→iss=v.iss):=Lib.hid fun v hv h2=>dnTr_inj hok4 (crlOk_parts hv.1).1 (by rw [htr4,(HKE.out v h2).1])
 have HB4:=Lib.hid hb4
 have HOI:=Lib.hid (Off.of_a hr4)
 have HOK:=Lib.hid hok4
 have HW4:=Lib.hid (HW3.out.trans (hb4.mono HW3.out.size))
 obtain ⟨isn,hisn⟩:∃ k,iss.length=k:=⟨_,rfl⟩
 have HISN:=Lib.hid hisn
 rw [hisn]
 obtain ⟨e0,e1,e2⟩:=HS1.out w4 hb4
 clear hr4 hok4 htr4 hb4 a0 a1 a2 HGD hisn
 rcases hsk:seqOk d1 b1 48 with _ | _
 case false =>
  have HNO:Hid (PartNo T):=Lib.hid fun v hv h2=>by
   have:=(HT1.out v h2).1
   rw [hsk] at this
   cases this
  rw [hsk] at HGT
  go_wp2_with fail
  refine (HGT.out w4 HB4.out).mono ?_
  rintro e w5 ⟨rfl,hb5⟩
  have HW:=Lib.hid (HW4.out.trans (hb5.mono HW4.out.size))
  clear hb5 e0 e1 e2
  have hz9:=HZ.out.under HW.out HZ.out.lt
  have HZ9:=Lib.hid hz9
  have z0:=hz9.cell 0
  have y0:=hz9.open_ 0
  have z1:=hz9.cell 1
  have y1:=hz9.open_ 1
  have z2:=hz9.cell 2
  have y2:=hz9.open_ 2
  have z3:=hz9.cell 3
  have y3:=hz9.open_ 3
  have z4:=hz9.cell 4
  have y4:=hz9.open_ 4
  clear hz9
  have HBE:=Lib.hid (HB0.out.trans (HW.out.mono HB0.out.size))
  go_wp2_with fail
  exact ret_crl rfl rfl rfl (((((HZ9.out.stored 0 _).stored 1 _).stored 2 _).stored 3 _).stored 4 _) rfl (.inr ⟨rfl,HNO.out,below_five HBE.out _ (by omega) _ _ _ _ _⟩)
 rw [hsk] at HGT
 clear hsk
 by_cases hm2:m1=2
 case neg =>
  have x1:((m1:Int) == 2)=false:=by rw [beq_eq_false_iff_ne];omega
  have x1':((m1:Int) != 2)=true:=by rw [bne,x1];rfl
  have HNO:Hid (PartNo T):=Lib.hid fun v hv h2=>by
   have:=congrArg List.length (HT1.out v h2).2
   rw [List.length_map,←HM1.out] at this
   exact hm2 this
  go_wp2_with fail
  refine (HGT.out w4 HB4.out).mono ?_
  rintro e w5 ⟨A5,c5,rfl,hk5,hb5⟩
  rw [←HM1.out]
  have HW:=Lib.hid (HW4.out.trans (hb5.mono HW4.out.size))
  clear hb5 hk5 e0 e1 e2
  have hz9:=HZ.out.under HW.out HZ.out.lt
  have HZ9:=Lib.hid hz9
  have z0:=hz9.cell 0
  have y0:=hz9.open_ 0
  have z1:=hz9.cell 1
  have y1:=hz9.open_ 1
  have z2:=hz9.cell 2
  have y2:=hz9.open_ 2
  have z3:=hz9.cell 3
  have y3:=hz9.open_ 3
  have z4:=hz9.cell 4
  have y4:=hz9.open_ 4
  clear hz9
  have HBE:=Lib.hid (HB0.out.trans (HW.out.mono HB0.out.size))
  go_wp2_with fail
  exact ret_crl rfl rfl rfl (((((HZ9.out.stored 0 _).stored 1 _).stored 2 _).stored 3 _).stored 4 _) rfl (.inr ⟨rfl,HNO.out,below_five HBE.out _ (by omega) _ _ _ _ _⟩)
 subst hm2
 go_wp2_with fail
 refine (HGT.out w4 HB4.out).mono ?_
 rintro e w5 ⟨A5,c5,rfl,hk5,hb5⟩
 rw [←HM1.out]
 have HB5:=Lib.hid (HB4.out.trans (hb5.mono HB4.out.size))
 have HW5:=Lib.hid (HW4.out.trans (hb5.mono HW4.out.size))
 have HOI5:=Lib.hid (HOI.out.under hb5)
 have hm5:2≤c5:=by have:=hk5.at_.1.1;rw [←HM1.out] at this;exact this
 have hm563:=hk5.at_.1.2.1
 have l0:0<qs.length:=by rw [←HM1.out];omega
 have l1:1<qs.length:=by rw [←HM1.out];omega
 obtain ⟨g5,o5,rfl,_,hs0⟩:=KiP.cells (j:=0) hk5 l0
 obtain ⟨g5',o5',e5,_,hs1⟩:=KiP.cells (j:=1) hk5 l1
 injection e5 with e5
 injection e5 with e5 e5'
 subst e5 e5'
 have hp0:=KiP.kid hk5 (j:=0) l0
 have hp1:=KiP.kid hk5 (j:=1) l1
 have HF0:=Lib.hid (HFT.out _ (getD_mem (l:=qs) l0))
 have HF1:=Lib.hid (HFT.out _ (getD_mem (l:=qs) l1))
 have HTT:Hid (∀ v,clBody v=T→(qs.getD 0 default).t=timeTr v.at_∧(qs.getD 1 default).t=timeTr v.next):=Lib.hid fun v hv=>by
  have h:=(HT1.out v hv).2
  refine ⟨?_,?_⟩
  ·rw [←lt_at l0,h];rfl
  ·rw [←lt_at l1,h];rfl
 obtain ⟨p0,hq0⟩:∃ q,q=qs.getD 0 default:=⟨_,rfl⟩
 obtain ⟨p1,hq1⟩:∃ q,q=qs.getD 1 default:=⟨_,rfl⟩
 rw [←hq0] at hs0 hp0 HF0
 rw [←hq1] at hs1 hp1 HF1
 rw [←hq0,←hq1] at HTT
 simp only [Nat.zero_mul,Nat.add_zero,Nat.one_mul,Nat.add_assoc,Nat.reduceAdd] at hs0 hs1
 have HX1:=Lib.hid hs1
 have hx:∀ (p:Lt),Off [] (ThP p) w5→p.kids.length≤100000→∀ W,Below w5.heap.size w5 W→Calls Tryz.prog 91 #[.agg #[.int .u8 (p.tag:Int),.slice p.ba p.body.length p.bc,.slice p.ka p.kids.length p.kc]] W (GetPost W p.t.tag p.t.body p.t.kids.length):=fun p hp hf W hW=>by
  have h:p.tag<256∧Rd .u8 W W.heap.size p.ba p.bc p.body∧(∀ y∈p.body,y<256):=by
   obtain ⟨tag,ba,bc,body,ka,kc,kids⟩:=p
   have:=ThP.iff.1 (hp.under hW).at_
   exact ⟨this.1,this.2.1,this.2.2.1⟩
  rw [(t_parts p).1,(t_parts p).2.1,(t_parts p).2.2,List.length_map]
  exact get_any W p.tag W.heap.size p.ba p.bc p.body.length p.body rfl h.2.1 (Nat.le_refl _) h.2.2 h.1 p.ka p.kids.length p.kc (by omega)
 have HG0:=Lib.hid (hx p0 hp0 HF0.out w5 (Below.refl _ _))
 have HG1:=Lib.hid (hx p1 hp1 HF1.out)
 obtain ⟨a0,a1,a2⟩:=hs0 w5 (Below.refl _ _)
 clear hx hs0 hs1 hp0 hp1 HF0 HF1 hq0 hq1 hk5 hb5 e0 e1 e2 l0 l1
 obtain ⟨P0,hP0⟩:∃ K,K=p0.t:=⟨_,rfl⟩
 obtain ⟨P1,hP1⟩:∃ K,K=p1.t:=⟨_,rfl⟩
 rw [←hP0] at HTT HG0
 rw [←hP1] at HTT HG1
 clear hP0 hP1
 generalize p0.tag=y1 at *
 generalize p0.ba=y2 at *
 generalize p0.bc=y3 at *
 generalize p0.body.length=y4 at *
 generalize p0.ka=y5 at *
 generalize p0.kids.length=y6 at *
 generalize p0.kc=y7 at *
 generalize p1.tag=x1 at *
 generalize p1.ba=x2 at *
 generalize p1.bc=x3 at *
 generalize p1.body.length=x4 at *
 generalize p1.ka=x5 at *
 generalize p1.kids.length=x6 at *
 generalize p1.kc=x7 at *
 go_wp2_with fail
 refine HG0.out.mono ?_
 intro e w6 hpo
 obtain ⟨ta,ok1,rfl,ht1,hf1,hb6⟩:=hpo.two
 have HB6:=Lib.hid hb6
 have HW6:=Lib.hid (HW5.out.trans (hb6.mono HW5.out.size))
 have HA1:Hid (ok1=true→∀ v,CvM v→clBody v=T→ta=v.at_):=Lib.hid fun ho v hv h2=>by
  have h:=ht1 ho
  rw [(HTT.out v h2).1] at h
  have hp:=(crlOk_parts hv.1).2.1
  exact IsTime.one h ⟨dateOf v.at_,hp.1,hp.2,dateOf_is hp.1 hp.2,rfl,rfl,rfl⟩
 have HA2:Hid (ok1=false→PartNo T):=Lib.hid fun ho v hv h2=>by
  have h:=hf1 ho v.at_
  rw [(HTT.out v h2).1] at h
  have hp:=(crlOk_parts hv.1).2.1
  exact h ⟨dateOf v.at_,hp.1,hp.2,dateOf_is hp.1 hp.2,rfl,rfl,rfl⟩
 obtain ⟨e0,e1,e2⟩:=HX1.out w6 hb6
 clear hpo ht1 hf1 hb6 a0 a1 a2 HG0
 go_wp2_with fail
 refine (HG1.out w6 HB6.out).mono ?_
 intro e w7 hpo
 obtain ⟨tn,ok2,rfl,ht1,hf1,hb7⟩:=hpo.two
 have HB7:=Lib.hid (HB6.out.trans (hb7.mono HB6.out.size))
 have HW7:=Lib.hid (HW6.out.trans (hb7.mono HW6.out.size))
 have HC1:Hid (ok2=true→∀ v,CvM v→clBody v=T→tn=v.next):=Lib.hid fun ho v hv h2=>by
  have h:=ht1 ho
  rw [(HTT.out v h2).2] at h
  have hp:=(crlOk_parts hv.1).2.2.1
  exact IsTime.one h ⟨dateOf v.next,hp.1,hp.2,dateOf_is hp.1 hp.2,rfl,rfl,rfl⟩
 have HC2:Hid (ok2=false→PartNo T):=Lib.hid fun ho v hv h2=>by
  have h:=hf1 ho v.next
  rw [(HTT.out v h2).2] at h
  have hp:=(crlOk_parts hv.1).2.2.1
  exact h ⟨dateOf v.next,hp.1,hp.2,dateOf_is hp.1 hp.2,rfl,rfl,rfl⟩
 have HB37:=Lib.hid (HB5.out.trans (HB7.out.mono HB5.out.size))
 obtain ⟨a0,a1,a2⟩:=HS2.out w7 HB37.out
 clear hpo ht1 hf1 hb7 e0 e1 e2 HG1
 go_wp2_with fail
 refine (HGG.out w7 HB37.out).mono ?_
 intro e w8 hpo
 obtain ⟨A8,c8,l8,ok3,rfl,ho8,hl8,ht8,hf8,hb8⟩:=hpo.one
 have HW8:=Lib.hid (HW7.out.trans (hb8.mono HW7.out.size))
 have HD1:Hid (ok3=true→∀ v,CvM v→clBody v=T→l8.map Gn.v=v.gone):=Lib.hid fun ho v hv h2=>ht8 ho v.gone hv.gones (HKE.out v h2).2.2
 have HD2:Hid (ok3=false→PartNo T):=Lib.hid fun ho v hv h2=>hf8 ho v.gone hv.gones (crlOk_parts hv.1).2.2.2.2.1 (HKE.out v h2).2.2
 have HO8:=Lib.hid ho8
 have HI8:=Lib.hid (HOI5.out.under (HB7.out.trans (hb8.mono HB7.out.size)))
 have HL8:=Lib.hid hl8
 obtain ⟨ln,hln⟩:∃ k,l8.length=k:=⟨_,rfl⟩
 have HLN:=Lib.hid hln
 rw [hln]
 clear hpo ho8 hl8 ht8 hf8 hb8 a0 a1 a2 HGG hln
 have HZ8:=Lib.hid (HZ.out.under HW8.out HZ.out.lt)
 have hz9:=HZ.out.under HW8.out HZ.out.lt
 have HZ9:=Lib.hid hz9
 have z0:=hz9.cell 0
 have y0:=hz9.open_ 0
 have z1:=hz9.cell 1
 have y1:=hz9.open_ 1
 have z2:=hz9.cell 2
 have y2:=hz9.open_ 2
 have z3:=hz9.cell 3
 have y3:=hz9.open_ 3
 have z4:=hz9.cell 4
 have y4:=hz9.open_ 4
 clear hz9
 have HBE:=Lib.hid (HB0.out.trans (HW8.out.mono HB0.out.size))
 cases ok1 with
 | false =>
  have HNO:=Lib.hid (HA2.out rfl)
  clear HA1 HA2 HC1 HC2 HD1 HD2
  cases ok2 <;> cases ok3 <;> (go_wp2_with fail;exact ret_crl rfl rfl rfl (((((HZ9.out.stored 0 _).stored 1 _).stored 2 _).stored 3 _).stored 4 _) rfl (.inr ⟨rfl,HNO.out,below_five HBE.out _ (by omega) _ _ _ _ _⟩))
 | true =>
 cases ok2 with
 | false =>
  have HNO:=Lib.hid (HC2.out rfl)
  clear HA1 HA2 HC1 HC2 HD1 HD2
  cases ok3 <;> (go_wp2_with fail;exact ret_crl rfl rfl rfl (((((HZ9.out.stored 0 _).stored 1 _).stored 2 _).stored 3 _).stored 4 _) rfl (.inr ⟨rfl,HNO.out,below_five HBE.out _ (by omega) _ _ _ _ _⟩))
 | true =>
 cases ok3 with
 | false =>
  have HNO:=Lib.hid (HD2.out rfl)
  clear HA1 HA2 HC1 HC2 HD1 HD2
  go_wp2_with fail
  exact ret_crl rfl rfl rfl (((((HZ9.out.stored 0 _).stored 1 _).stored 2 _).stored 3 _).stored 4 _) rfl (.inr ⟨rfl,HNO.out,below_five HBE.out _ (by omega) _ _ _ _ _⟩)
 | true =>
  have HU:Hid (∀ v,CvM v→clBody v=T→iss=v.iss∧ta=v.at_∧tn=v.next∧l8.map Gn.v=v.gone):=Lib.hid fun v hv h2=>⟨HI.out v hv h2,HA1.out rfl v hv h2,HC1.out rfl v hv h2,HD1.out rfl v hv h2⟩
  have HNS:Hid (NoStr ((w.heap.size+1) :: xs) w8):=Lib.hid fun x hx=>by
   rcases List.mem_cons.1 hx with rfl | hx
   ·exact ⟨HZ8.out.lt,noStr_box HZ9.out⟩
   ·exact HXS.out.under HBE.out x hx
  have HON:=Lib.hid ((off_name HI8.out.at_ HOK.out HNS.out).and HO8.out)
  clear HA1 HA2 HC1 HC2 HD1 HD2 HNS HI8 HO8
  go_wp2_with fail
  exact ret_crl rfl rfl rfl (((((HZ9.out.stored 0 _).stored 1 _).stored 2 _).stored 3 _).stored 4 _) rfl (.inl ⟨_,_,iss,_,_,_,_,l8,by rw [HISN.out,HLN.out] <;> rfl,off_out5 HON.out _ _ _ _ _,HOK.out,HL8.out,HU.out,below_five HBE.out _ (by omega) _ _ _ _ _⟩)
end Go.Proofs.YtcibjcgipfpniaaGreatDoor
