/- Words and laws for the statement, part 22. -/
import Derived.Test.YtcibjcgipfpniaaGreatDoorG13
import Derived.Test.YtcibjcgipfpniaaGreatDoorG14
import Derived.Test.YtcibjcgipfpniaaGreatDoorG21
namespace Go.Proofs.YtcibjcgipfpniaaGreatDoor
open Go.RowKit
set_option linter.unusedVariables false
set_option linter.unusedSimpArgs false
attribute [local go_sem ↓] Go.wp_at_zero Go.wp_at_succ

def GetBR (w:World):Option (List Nat)→Ending→World→Prop
 | none,e,w'=>e = .returned (.tuple #[.slice none 0 0,.bool false])∧Below w.heap.size w w'
 | some b,e,w'=>∃ A c,e = .returned (.tuple #[.slice A b.length c,.bool true])∧Rd .u8 w' w'.heap.size A c b∧(∀ g,blk_of A=some g→w.heap.size≤g)∧Below w.heap.size w w'
theorem GetBR.one {w:World} {o:Option (List Nat)} {e:Ending} {w':World} (h:GetBR w o e w'):∃ A c,e = .returned (.tuple #[.slice A (o.getD []).length c,.bool o.isSome])∧Rd .u8 w' w'.heap.size A c (o.getD [])∧(∀ g,blk_of A=some g→w.heap.size≤g)∧Below w.heap.size w w':=by
 rcases o with _ | b
 ·exact ⟨none,0,h.1,Rd.nil_ _ _ _,fun g hg=>by simp [blk_of] at hg,h.2⟩
 ·exact h
theorem blk_drop {A:Option Addr} {k c g:Nat} (h:blk_of (dropA A k c)=some g):blk_of A=some g:=by
 unfold dropA at h
 split at h
 ·exact h
 ·rcases A with _ | ⟨b,o,r⟩
  ·simp [blk_of] at h
  ·simp only [blk_of,Option.map_some,Addr.add,Option.some.injEq] at h ⊢
   split at h <;> exact h
set_option maxRecDepth 100000 in
set_option maxHeartbeats 2000000 in
theorem getBitsR_any (w:World) (x n c kn kc B:Nat) (A K:Option Addr) (b:List Nat) (hr:Rd .u8 w B A c b) (hn:b.length=n) (hB:B≤w.heap.size) (h12:n≤900000) :
  Calls Tryz.prog 60 #[.agg #[.int .u8 (x:Int),.slice A n c,.slice K kn kc]] w (GetBR w (bitsOf x kn b)):=by
 have hH:=Holds.fresh w 32 #[.int .u8 (x:Int),.slice A n c,.slice K kn kc]
 have hq1:Below w.heap.size w (w.alloc (.cells #[.int .u8 (x:Int),.slice A n c,.slice K kn kc] 32)):=(Below.refl _ _).alloc (Nat.le_refl _) _
 have HB0:=Lib.hid hq1
 have c0:=hH.cell 0
 have c1:=hH.cell 1
 have c2:=hH.cell 2
 have HK:=Lib.hid (held'_any (w.alloc (.cells #[.int .u8 (x:Int),.slice A n c,.slice K kn kc] 32)) x n c kn kc 3 B A K b (hr.under (hq1.mono hB)) hn (Nat.le_trans hB hq1.size) h12)
 have HN:=Lib.hid hn
 clear hr hn hq1
 obtain ⟨o,HOO⟩:∃ o,Hid (o=bitsOf x kn b):=⟨_,rfl⟩
 rw [←HOO.out]
 rcases hok:heldOk x kn 3 with _ | _
 case false =>
  have HE:Hid (o=none):=Lib.hid (by rw [HOO.out];unfold bitsOf;rw [hok];rfl)
  rw [hok] at HK
  go_enter Tryz.func60,Tryz.ntmps60
  go_wp2_with fail
  refine HK.out.mono ?_
  rintro e w2 ⟨rfl,hb2⟩
  have HQ:=Lib.hid (HB0.out.trans (hb2.mono HB0.out.size))
  clear hb2 HK
  go_wp2_with fail
  go_ret2
  rw [HE.out]
  exact ⟨rfl,HQ.out⟩
 rw [hok] at HK
 by_cases h0:n=0
 case pos =>
  subst h0
  have HE:Hid (o=none):=Lib.hid (by rw [HOO.out];unfold bitsOf;rw [if_neg (fun h=>by have:=h.2.1;have:=HN.out;omega)])
  go_enter Tryz.func60,Tryz.ntmps60
  go_wp2_with fail
  refine HK.out.mono ?_
  rintro e w2 ⟨A2,c2,rfl,hm2,hb2⟩
  have HQ:=Lib.hid (HB0.out.trans (hb2.mono HB0.out.size))
  clear hb2 HK hm2
  go_wp2_with fail
  go_ret2
  rw [HE.out]
  exact ⟨rfl,HQ.out⟩
 have z0:((n:Int) == 0)=false:=by rw [beq_eq_false_iff_ne];omega
 have hnz:(0:Int)<(n:Int):=by omega
 obtain ⟨y,hy⟩:∃ y,b.getD 0 0=y:=⟨_,rfl⟩
 have HY:=Lib.hid hy
 by_cases hy0:y=0
 case neg =>
  have HE:Hid (o=none):=Lib.hid (by rw [HOO.out];unfold bitsOf;rw [if_neg (fun h=>by have:=h.2.2;rw [HY.out] at this;omega)])
  have d1:((y:Int) != 0)=true:=by simp;omega
  clear hy
  go_enter Tryz.func60,Tryz.ntmps60
  go_wp2_with fail
  refine HK.out.mono ?_
  rintro e w2 ⟨A2,c3,rfl,hm2,hb2⟩
  have HQ:=Lib.hid (HB0.out.trans (hb2.mono HB0.out.size))
  obtain ⟨g,off,rfl,hlt,hcell⟩:=hm2.rd.2.2 (by rw [HN.out];omega)
  have hc0:=hcell 0 (by rw [HN.out];omega)
  rw [Nat.add_zero,HY.out] at hc0
  have hnc:n≤c3:=by have:=hm2.rd.1;rw [HN.out] at this;exact this
  have hn63:=hm2.rd.2.1
  clear hb2 HK hm2 hcell
  go_wp2_with fail
  go_ret2
  rw [HE.out]
  exact ⟨rfl,HQ.out⟩
 have HE:Hid (o=some (b.drop 1)):=Lib.hid (by rw [HOO.out];unfold bitsOf;rw [if_pos ⟨hok,by rw [HN.out];omega,by rw [HY.out];exact hy0⟩])
 have d1:((y:Int) != 0)=false:=by simp;omega
 clear hy
 go_enter Tryz.func60,Tryz.ntmps60
 go_wp2_with fail
 refine HK.out.mono ?_
 rintro e w2 ⟨A2,c3,rfl,hm2,hb2⟩
 have HQ:=Lib.hid (HB0.out.trans (hb2.mono HB0.out.size))
 have hbk:∀ g,blk_of A2=some g→w.heap.size≤g:=fun g hg=>Nat.le_trans HB0.out.size (hm2.block hg).1
 obtain ⟨g,off,rfl,hlt,hcell⟩:=hm2.rd.2.2 (by rw [HN.out];omega)
 have hc0:=hcell 0 (by rw [HN.out];omega)
 rw [Nat.add_zero,HY.out] at hc0
 have hnc:n≤c3:=by have:=hm2.rd.1;rw [HN.out] at this;exact this
 have hn63:=hm2.rd.2.1
 have hdr:=fun W=>run_drop W (some ⟨g,off,none⟩) n c3 1 (by omega) hnc
 have HDR:=Lib.hid (hm2.rd.drop 1 (by rw [HN.out];omega))
 have HBK:Hid (∀ q,blk_of (dropA (some ⟨g,off,none⟩) 1 c3)=some q→w.heap.size≤q):=Lib.hid fun q hq=>hbk q (blk_drop hq)
 generalize hD:dropA (some ⟨g,off,none⟩) 1 c3=D at *
 obtain ⟨m,hm⟩:∃ m,n - 1=m:=⟨_,rfl⟩
 obtain ⟨d,hd⟩:∃ d,c3 - 1=d:=⟨_,rfl⟩
 have hdr1:∀ W,(Instr.sliceAt 24 (.slice (some ⟨g,off,none⟩) n c3) (some (.int .i64 1)) none none).run Tryz.prog W = .ok (.slice D m d) W:=fun W=>by rw [←hm,←hd];exact hdr W
 rw [hd] at HDR
 have HM1:Hid ((b.drop 1).length=m):=Lib.hid (by rw [List.length_drop,HN.out,hm])
 clear hdr hD hm hd hb2 HK hm2 hcell hbk
 go_wp2_with fail
 go_ret2
 rw [HE.out]
 exact ⟨D,d,by rw [HM1.out];rfl,HDR.out,HBK.out,HQ.out⟩
def FitS (t:Tr):Prop:=t.kids.length≤100000∧∀ k∈t.kids,k.kids.length≤100000∧k.body.length≤900000
set_option maxRecDepth 100000 in
set_option maxHeartbeats 4000000 in
theorem span_any (w:World) (t:Lt) (h:Off [] (ThP t) w) (hf:FitS t.t) :
  Calls Tryz.prog 58 #[t.val] w fun e w'=>∃ (a p:Int) (ok:Bool),e = .returned (.tuple #[.int .i64 a,.int .i64 p,.bool ok]) ∧
   (∀ t1 t2:Int,(-631152000≤t1∧t1≤253402300799)→(-631152000≤t2∧t2≤253402300799)→t.t = .mk 48 [] [timeTr t1,timeTr t2]→a=t1∧p=t2)∧Below w.heap.size w w':=by
 obtain ⟨T,hTT⟩:∃ T,T=t.t:=⟨_,rfl⟩
 rw [←hTT]
 have HVAL:Hid (t.val = .agg #[.int .u8 (t.tag:Int),.slice t.ba t.body.length t.bc,.slice t.ka t.kids.length t.kc]):=Lib.hid rfl
 have hko:Off [] (KiP t.ka t.kc t.kids) w:=by
  obtain ⟨tag,ba,bc,body,ka,kc,kids⟩:=t
  exact kids_off h
 have hkl:t.kids.length≤100000:=by have:=hf.1;rw [(t_parts t).2.2,List.length_map] at this;omega
 have HTK:Hid (∀ t1 t2,T = .mk 48 [] [timeTr t1,timeTr t2]→seqOk t.tag t.body.length 48=true∧t.kids.map Lt.t=[timeTr t1,timeTr t2]):=Lib.hid fun t1 t2 h2=>by
  obtain ⟨q1,q2,q3⟩:=t_parts t
  rw [←hTT,h2] at q1 q2 q3
  exact ⟨by rw [←q1,←q2];rfl,q3.symm⟩
 have HFK:Hid (∀ q∈t.kids,q.kids.length≤100000∧q.body.length≤900000):=Lib.hid fun q hq=>by
  have:=hf.2 q.t (by rw [(t_parts t).2.2];exact List.mem_map_of_mem hq)
  rwa [(t_parts q).2.2,(t_parts q).2.1,List.length_map] at this
 rw [HVAL.out]
 obtain ⟨qs,hqs⟩:∃ ks,ks=t.kids:=⟨_,rfl⟩
 rw [←hqs] at hko hkl HTK HVAL HFK ⊢
 clear h hTT hf hqs
 generalize t.tag=tag at *
 generalize t.ba=ba at *
 generalize t.bc=bc at *
 generalize t.body.length=n at *
 generalize t.ka=ka at *
 generalize t.kc=kc at *
 clear HVAL
 obtain ⟨kn,hkn⟩:∃ k,k=qs.length:=⟨_,rfl⟩
 have HKN:=Lib.hid hkn
 rw [←hkn] at hkl ⊢
 have hH1:=Holds.fresh w 32 #[.int .u8 (tag:Int),.slice ba n bc,.slice ka kn kc]
 have hq0:Below w.heap.size w (w.alloc (.cells #[.int .u8 (tag:Int),.slice ba n bc,.slice ka kn kc] 32)):=(Below.refl _ _).alloc (Nat.le_refl _) _
 have HGS:=Lib.hid (getSeq'_any (w.alloc (.cells #[.int .u8 (tag:Int),.slice ba n bc,.slice ka kn kc] 32)) [] tag n bc kn kc 48 ba ka qs (hko.under hq0) hkn.symm (by omega))
 have c0:=hH1.cell 0
 have c1:=hH1.cell 1
 have c2:=hH1.cell 2
 have HB0:=Lib.hid hq0
 clear hko hkn hH1 hq0
 rcases hsq:seqOk tag n 48 with _ | _
 case false =>
  rw [hsq] at HGS
  go_enter Tryz.func58,Tryz.ntmps58
  go_wp2_with fail
  refine HGS.out.mono ?_
  rintro e w3 ⟨rfl,hb3⟩
  have HW:=Lib.hid (HB0.out.trans (hb3.mono HB0.out.size))
  clear hb3 HGS c0 c1 c2
  go_wp2_with fail
  go_ret3
  exact ⟨0,0,false,rfl,fun t1 t2 _ _ h2=>(by have:=(HTK.out t1 t2 h2).1;rw [hsq] at this;cases this),HW.out⟩
 rw [hsq] at HGS
 clear hsq
 by_cases h2:kn=2
 case neg =>
  have d1:((kn:Int) == 2)=false:=by rw [beq_eq_false_iff_ne];omega
  have d1':((kn:Int) != 2)=true:=by rw [bne,d1];rfl
  go_enter Tryz.func58,Tryz.ntmps58
  go_wp2_with fail
  refine HGS.out.mono ?_
  rintro e w3 ⟨A3,c3,rfl,hk3,hb3⟩
  rw [←HKN.out]
  have HW:=Lib.hid (HB0.out.trans (hb3.mono HB0.out.size))
  clear hb3 HGS hk3 c0 c1 c2
  go_wp2_with fail
  go_ret3
  exact ⟨0,0,false,rfl,fun t1 t2 _ _ h3=>(by
   have:=congrArg List.length (HTK.out t1 t2 h3).2
   rw [List.length_map,←HKN.out] at this
   exact absurd this h2),HW.out⟩
 subst h2
 go_enter Tryz.func58,Tryz.ntmps58
 go_wp2_with fail
 refine HGS.out.mono ?_
 rintro e w5 ⟨A5,c5,rfl,hk5,hb5⟩
 rw [←HKN.out]
 have HW5:=Lib.hid (HB0.out.trans (hb5.mono HB0.out.size))
 have hm5:2≤c5:=by have:=hk5.at_.1.1;rw [←HKN.out] at this;exact this
 have hm563:=hk5.at_.1.2.1
 have l0:0<qs.length:=by rw [←HKN.out];omega
 have l1:1<qs.length:=by rw [←HKN.out];omega
 obtain ⟨g5,o5,rfl,_,hs0⟩:=KiP.cells (j:=0) hk5 l0
 obtain ⟨g5',o5',e5,_,hs1⟩:=KiP.cells (j:=1) hk5 l1
 injection e5 with e5
 injection e5 with e5 e5'
 subst e5 e5'
 have hp0:=KiP.kid hk5 (j:=0) l0
 have hp1:=KiP.kid hk5 (j:=1) l1
 have HF0:=Lib.hid (HFK.out _ (getD_mem (l:=qs) l0))
 have HF1:=Lib.hid (HFK.out _ (getD_mem (l:=qs) l1))
 have HTT:Hid (∀ t1 t2,T = .mk 48 [] [timeTr t1,timeTr t2]→(qs.getD 0 default).t=timeTr t1∧(qs.getD 1 default).t=timeTr t2):=Lib.hid fun t1 t2 hv=>by
  have h:=(HTK.out t1 t2 hv).2
  refine ⟨?_,?_⟩
  ·rw [←lt_at l0,h];rfl
  ·rw [←lt_at l1,h];rfl
 obtain ⟨p0,hq0⟩:∃ q,q=qs.getD 0 default:=⟨_,rfl⟩
 obtain ⟨p1,hq1⟩:∃ q,q=qs.getD 1 default:=⟨_,rfl⟩
 rw [←hq0] at hs0 hp0 HF0
 rw [←hq1] at hs1 hp1 HF1
 rw [←hq0,←hq1] at HTT
 simp only [Nat.zero_mul,Nat.add_zero,Nat.one_mul,Nat.add_assoc,Nat.reduceAdd] at hs0 hs1
 have HX1:=Lib.hid hs1
 have hx:∀ (p:Lt),Off [] (ThP p) w5→p.kids.length≤100000∧p.body.length≤900000→∀ W,Below w5.heap.size w5 W→Calls Tryz.prog 100 #[.agg #[.int .u8 (p.tag:Int),.slice p.ba p.body.length p.bc,.slice p.ka p.kids.length p.kc]] W (GetPost W p.t.tag p.t.body p.t.kids.length):=fun p hp hf W hW=>by
  have h:p.tag<256∧Rd .u8 W W.heap.size p.ba p.bc p.body∧(∀ y∈p.body,y<256):=by
   obtain ⟨tag,ba,bc,body,ka,kc,kids⟩:=p
   have:=ThP.iff.1 (hp.under hW).at_
   exact ⟨this.1,this.2.1,this.2.2.1⟩
  rw [(t_parts p).1,(t_parts p).2.1,(t_parts p).2.2,List.length_map]
  exact get'_any W p.tag W.heap.size p.ba p.bc p.body.length p.body rfl h.2.1 (Nat.le_refl _) h.2.2 h.1 p.ka p.kids.length p.kc (by omega) (by omega)
 have HG0:=Lib.hid (hx p0 hp0 HF0.out w5 (Below.refl _ _))
 have HG1:=Lib.hid (hx p1 hp1 HF1.out)
 obtain ⟨a0,a1,a2⟩:=hs0 w5 (Below.refl _ _)
 clear hx hs0 hs1 hp0 hp1 HF0 HF1 hq0 hq1 hk5 hb5 l0 l1 HGS c0 c1 c2 HFK HTK
 obtain ⟨P0,hP0⟩:∃ K,K=p0.t:=⟨_,rfl⟩
 obtain ⟨P1,hP1⟩:∃ K,K=p1.t:=⟨_,rfl⟩
 rw [←hP0] at HTT HG0
 rw [←hP1] at HTT HG1
 clear hP0 hP1
 generalize p0.tag=y1 at *
 generalize p0.ba=y2 at *
 generalize p0.bc=y3 at *
 generalize p0.body.length=y4 at *
 generalize p0.ka=y5 at *
 generalize p0.kids.length=y6 at *
 generalize p0.kc=y7 at *
 generalize p1.tag=x1 at *
 generalize p1.ba=x2 at *
 generalize p1.bc=x3 at *
 generalize p1.body.length=x4 at *
 generalize p1.ka=x5 at *
 generalize p1.kids.length=x6 at *
 generalize p1.kc=x7 at *
 go_wp2_with fail
 refine HG0.out.mono ?_
 intro e w6 hpo
 obtain ⟨ta,ok1,rfl,ht1,hf1,hb6⟩:=hpo.two
 have HB6:=Lib.hid hb6
 have HA1:Hid (∀ t1,-631152000≤t1∧t1≤253402300799→P0=timeTr t1→ta=t1):=Lib.hid fun t1 hp h2=>by
  have hd:IsTime P0.tag P0.body P0.kids.length t1:=by rw [h2];exact ⟨dateOf t1,hp.1,hp.2,dateOf_is hp.1 hp.2,rfl,rfl,rfl⟩
  cases ok1
  ·exact absurd hd (hf1 rfl t1)
  ·exact IsTime.one (ht1 rfl) hd
 obtain ⟨e0,e1,e2⟩:=HX1.out w6 hb6
 clear hpo ht1 hf1 hb6 a0 a1 a2 HG0
 go_wp2_with fail
 refine (HG1.out w6 HB6.out).mono ?_
 intro e w7 hpo
 obtain ⟨tn,ok2,rfl,ht1,hf1,hb7⟩:=hpo.two
 have HW7:=Lib.hid (HW5.out.trans ((HB6.out.trans (hb7.mono HB6.out.size)).mono HW5.out.size))
 have HA2:Hid (∀ t1,-631152000≤t1∧t1≤253402300799→P1=timeTr t1→tn=t1):=Lib.hid fun t1 hp h2=>by
  have hd:IsTime P1.tag P1.body P1.kids.length t1:=by rw [h2];exact ⟨dateOf t1,hp.1,hp.2,dateOf_is hp.1 hp.2,rfl,rfl,rfl⟩
  cases ok2
  ·exact absurd hd (hf1 rfl t1)
  ·exact IsTime.one (ht1 rfl) hd
 clear hpo ht1 hf1 hb7 e0 e1 e2 HG1
 have HR:Hid (∀ t1 t2:Int,(-631152000≤t1∧t1≤253402300799)→(-631152000≤t2∧t2≤253402300799)→T = .mk 48 [] [timeTr t1,timeTr t2]→ta=t1∧tn=t2):=Lib.hid fun t1 t2 h1 h2 h3=>⟨HA1.out t1 h1 (HTT.out t1 t2 h3).1,HA2.out t2 h2 (HTT.out t1 t2 h3).2⟩
 clear HA1 HA2 HTT
 cases ok1 <;> cases ok2 <;> (go_wp2_with fail;go_ret3;exact ⟨ta,tn,_,rfl,HR.out,HW7.out⟩)
end Go.Proofs.YtcibjcgipfpniaaGreatDoor
namespace Go.Proofs.YtcibjcgipfpniaaGreatDoor
open Go.RowKit
set_option linter.unusedVariables false
set_option linter.unusedSimpArgs false
attribute [local go_sem ↓] Go.wp_at_zero Go.wp_at_succ
end Go.Proofs.YtcibjcgipfpniaaGreatDoor
namespace Go.Proofs.YtcibjcgipfpniaaGreatDoor
open Go.RowKit
set_option linter.unusedVariables false
set_option linter.unusedSimpArgs false
attribute [local go_sem ↓] Go.wp_at_zero Go.wp_at_succ

set_option maxRecDepth 100000 in
set_option maxHeartbeats 16000000 in
theorem clBody_any (w:World) (xs:List Nat) (cl:Cl) (h:ClP cl w) (hok:crlOk cl.v=true) (hT:Lib.Utf8Tabs 0 1 w) (hsz:∀ x∈cl.iss,(bts x.s).length≤9223372036854775807) (hxs:∀ x∈xs,x<w.heap.size) :
  Calls Tryz.prog 13 #[.agg (ccell cl).toArray] w (MadeT w xs (clBody cl.v)):=by
 obtain ⟨p1,p2,p3,_,p5,_,p7⟩:=crlOk_parts hok
 have HEN:Hid (∀ g∈cl.gone,okN g.ser=true∧-631152000≤g.tm∧g.tm≤253402300799):=Lib.hid fun e he=>by
  have h1:=p7 e.v (List.mem_map_of_mem he)
  exact ⟨h1.1.1,h1.2⟩
 have h16:cl.gone.length≤16:=by simpa [Cl.v] using p5
 have HIS0:Hid (∀ W:World,Below w.heap.size w W→Calls Tryz.prog 7 #[.agg (ccell cl).toArray] W fun e w'=>e = .returned (.bool true)∧Below W.heap.size W w'):=Lib.hid fun W hW=>by
  rw [←hok]
  exact crlIs_any W cl (Off.of_c h W hW.size (fun g _ hg=>hW.block g hg)) (Utf8Tabs_below hT hW) hsz
 have HDN0:Hid (∀ (W:World) (ys:List Nat),Below w.heap.size w W→(∀ x∈ys,x<W.heap.size)→Calls Tryz.prog 40 #[.slice cl.ia cl.iss.length cl.ic] W (MadeT W ys (dnTr cl.iss))):=Lib.hid fun W ys hW hy =>
  dnNode_any W ys W.heap.size cl.ia cl.ic _ cl.iss rfl (Off.of_a h.1 W hW.size (fun g _ hg=>hW.block g hg)) (Nat.le_refl _) p1 (Utf8Tabs_below hT hW) hy
 have HTA0:Hid (∀ (W:World) (ys:List Nat),(∀ x∈ys,x<W.heap.size)→Calls Tryz.prog 39 #[.int .i64 cl.at_] W (MadeT W ys (timeTr cl.at_))):=Lib.hid fun W ys hy=>timeT_any W ys _ p2.1 p2.2 hy
 have HTN0:Hid (∀ (W:World) (ys:List Nat),(∀ x∈ys,x<W.heap.size)→Calls Tryz.prog 39 #[.int .i64 cl.next] W (MadeT W ys (timeTr cl.next))):=Lib.hid fun W ys hy=>timeT_any W ys _ p3.1 p3.2 hy
 have HTV:Hid (clBody cl.v = .mk 48 [] [dnTr cl.iss,.mk 48 [] [timeTr cl.at_,timeTr cl.next],.mk 48 [] ((cl.gone.map Gn.v).map gnTr)]):=Lib.hid rfl
 have hn0:=Off.of_g h.2.1
 clear h hok p1 p2 p3 p5 p7 hT hsz
 obtain ⟨ia,ic,iss,ta,tn,ga,gc,gone,sa,sc,sig⟩:=cl
 simp only [ccell,Cl.v] at *
 obtain ⟨gn,hgn⟩:∃ k,gone.length=k:=⟨_,rfl⟩
 obtain ⟨isn,hisn⟩:∃ k,k=iss.length:=⟨_,rfl⟩
 obtain ⟨sn,hsn⟩:∃ k,k=sig.length:=⟨_,rfl⟩
 obtain ⟨TD,hTD⟩:∃ k,k=dnTr iss:=⟨_,rfl⟩
 obtain ⟨TA,hTA⟩:∃ k,k=timeTr ta:=⟨_,rfl⟩
 obtain ⟨TN,hTN⟩:∃ k,k=timeTr tn:=⟨_,rfl⟩
 rw [←hTD,←hTA,←hTN] at HTV
 rw [←hTA] at HTA0
 rw [←hTN] at HTN0
 rw [←hTD,←hisn] at HDN0
 rw [hgn,←hisn,←hsn] at HIS0 ⊢
 rw [hgn] at h16
 generalize HTT0:clBody _=TT at *
 clear hTD hTA hTN hisn hsn HTT0
 have hq0:Below w.heap.size w ((w.alloc (.cells #[.slice ia isn ic,.int .i64 ta,.int .i64 tn,.slice ga gn gc,.slice sa sn sc] 26)).alloc (.cells #[.int .u8 0,.slice none 0 0,.slice none 0 0] 32)):=((Below.refl _ _).alloc (Nat.le_refl _) _).alloc (by simp) _
 have hbox:=(Holds.fresh w 26 #[.slice ia isn ic,.int .i64 ta,.int .i64 tn,.slice ga gn gc,.slice sa sn sc]).alloc (.cells #[.int .u8 0,.slice none 0 0,.slice none 0 0] 32)
 have hz:=Holds.fresh (w.alloc (.cells #[.slice ia isn ic,.int .i64 ta,.int .i64 tn,.slice ga gn gc,.slice sa sn sc] 26)) 32 #[.int .u8 0,.slice none 0 0,.slice none 0 0]
 rw [show (w.alloc (.cells #[.slice ia isn ic,.int .i64 ta,.int .i64 tn,.slice ga gn gc,.slice sa sn sc] 26)).heap.size=w.heap.size+1 by simp] at hz
 have hsv:((w.alloc (.cells #[.slice ia isn ic,.int .i64 ta,.int .i64 tn,.slice ga gn gc,.slice sa sn sc] 26)).alloc (.cells #[.int .u8 0,.slice none 0 0,.slice none 0 0] 32)).heap.size=w.heap.size+1+1:=by simp
 have c0:=hbox.cell 0
 have c1:=hbox.cell 1
 have c2:=hbox.cell 2
 have c3:=hbox.cell 3
 have c4:=hbox.cell 4
 obtain ⟨V,hV⟩:∃ V,V=((w.alloc (.cells #[.slice ia isn ic,.int .i64 ta,.int .i64 tn,.slice ga gn gc,.slice sa sn sc] 26)).alloc (.cells #[.int .u8 0,.slice none 0 0,.slice none 0 0] 32)):=⟨_,rfl⟩
 rw [←hV] at hq0 hbox hz hsv
 have HB0:=Lib.hid hq0
 have HBX:=Lib.hid hbox
 have HZ:=Lib.hid hz
 have HSV:=Lib.hid hsv
 have HX:=Lib.hid (hn0.under hq0)
 have HFN:=Lib.hid hgn
 have HXS:Hid (∀ W:World,V.heap.size≤W.heap.size→∀ x∈(w.heap.size+1) :: xs,x<W.heap.size):=Lib.hid fun W hW x hx=>by
  rcases List.mem_cons.1 hx with rfl | hx
  ·omega
  ·have:=hxs x hx;omega
 have HIS:=Lib.hid (HIS0.out V hq0)
 have HDN:Hid (∀ (W:World) (ys:List Nat),Below V.heap.size V W→(∀ x∈ys,x<W.heap.size)→Calls Tryz.prog 40 #[.slice ia isn ic] W (MadeT W ys TD)):=Lib.hid fun W ys hW hy=>HDN0.out W ys (HB0.out.trans (hW.mono HB0.out.size)) hy
 clear HIS0 HDN0
 have HV:=Lib.hid hV
 have hfc:=HX.out.at_.1.1
 have hfc63:=HX.out.at_.1.2.1
 rw [hgn] at hfc
 clear hV hq0 hbox hz hsv hn0 hgn hxs
 go_enter Tryz.func13,Tryz.ntmps13
 go_wp2_with fail
 rw [←HV.out]
 clear HV c0 c1 c2 c3 c4
 refine HIS.out.mono ?_
 rintro e V2 ⟨rfl,hb2⟩
 have HB2:=Lib.hid hb2
 have HVV:Hid (V.heap.size≤V2.heap.size):=Lib.hid hb2.size
 have k3:=(HBX.out.under hb2 HBX.out.lt).cell 3
 clear hb2 HIS
 go_wp2_with fail
 clear k3
 go_loopw [3,13] (fun kv iv wr=>∃ (i:Nat) (KA:Option Addr) (d:Nat) (ks:List Lt),i≤gn∧iv = .int .i64 (i:Int)∧kv = .slice KA i d∧Kids ((w.heap.size+1) :: xs) KA d i ks wr∧Hid (ks.map Lt.t=((gone.map Gn.v).take i).map gnTr)∧Hid (∀ g,blockOf KA=some g→V.heap.size≤g)∧Below V.heap.size V wr) (fun _ iv _=>gn - (intOf iv).toNat)
 case atStart=>exact ⟨0,none,0,[],by omega,rfl,rfl,Kids.nil _ _,rfl,fun g hg=>by simp [blockOf] at hg,HB2.out⟩
 case round =>
  obtain ⟨i,KA,d,ks,hi,rfl,rfl,hK,HT,HG,hB⟩:=hrel
  have HB:=Lib.hid hB
  have HK:=Lib.hid hK
  have hbx:=HBX.out.under hB HBX.out.lt
  have k3:=hbx.cell 3
  have HBXr:=Lib.hid hbx
  have HZr:=Lib.hid (HZ.out.under hB HZ.out.lt)
  have hVW:=hB.size
  have hwr:w.heap.size+1<wr.heap.size:=HZr.out.lt
  have HVW:=Lib.hid hVW
  clear hK hbx hVW
  by_cases hlt:i<gn
  ·have hx:=(HX.out.under hB).at_
   obtain ⟨g,off,rfl,hg,hcs⟩:=hx.1.2.2 (by rw [HFN.out];omega)
   obtain ⟨c0,c1⟩:=hcs i (by rw [HFN.out];exact hlt)
   have hxe:=hx.at_ (by rw [HFN.out];exact hlt)
   have HV1:Hid (((gone.map Gn.v).take (i+1)).map gnTr=((gone.map Gn.v).take i).map gnTr ++ [gnTr (gone.getD i default).v]):=Lib.hid (gn_take (by rw [HFN.out];exact hlt))
   have hen:=HEN.out _ (getD_mem (l:=gone) (j:=i) (by rw [HFN.out];exact hlt))
   obtain ⟨e,he⟩:∃ e,e=gone.getD i default:=⟨_,rfl⟩
   rw [←he] at hen c0 c1 hxe HV1
   clear he hx hcs
   obtain ⟨da,dc,ser,tm⟩:=e
   obtain ⟨hr1,hd1⟩:=hxe
   dsimp only [Gn.v] at c0 c1 hr1 hd1 hen HV1
   obtain ⟨z0,z1,z2⟩:=hen
   obtain ⟨TG,hTG⟩:∃ k,k=timeTr tm:=⟨_,rfl⟩
   have HTG:Hid (∀ (W:World) (ys:List Nat),(∀ x∈ys,x<W.heap.size)→Calls Tryz.prog 39 #[.int .i64 tm] W (MadeT W ys TG)):=Lib.hid fun W ys hy=>by rw [hTG];exact timeT_any W ys _ z1 z2 hy
   obtain ⟨nd,hnd⟩:∃ k,ser.length=k:=⟨_,rfl⟩
   have HIN:Hid (∀ W:World,Below wr.heap.size wr W→Calls Tryz.prog 29 #[.slice da nd dc] W fun e w'=>∃ r,e = .returned r∧PrimAt r w' W.heap.size 2 (intB ser)∧Below W.heap.size W w'):=Lib.hid fun W hW=>int_any W W.heap.size da dc nd ser ((hr1.under hW).more hW.size) hnd (Nat.le_refl _) hd1 z0
   obtain ⟨TI,hTI⟩:∃ k,k=intB ser:=⟨_,rfl⟩
   have HV1:Hid (((gone.map Gn.v).take (i+1)).map gnTr=((gone.map Gn.v).take i).map gnTr ++ [.mk 48 [] [.mk 2 TI [],TG]]):=Lib.hid (by rw [hTI,hTG];exact HV1.out)
   rw [←hTI] at HIN
   rw [hnd] at c0
   have HBD:Hid (∀ W,Below wr.heap.size wr W→∀ x∈bl KA ++ (w.heap.size+1) :: xs,x<W.heap.size):=Lib.hid fun W hW x hx=>by
    have h1:=HK.out.bound (HXS.out wr HVW.out) x hx
    have h2:=hW.size
    omega
   have HNX:Hid (∀ W,Below wr.heap.size wr W→W.heap.size ∉ bl KA ++ (w.heap.size+1) :: xs):=Lib.hid fun W hW hx=>by
    have:=HBD.out W hW _ hx
    omega
   obtain ⟨W6,hW6⟩:∃ W,W=wr.alloc (.cells #[.slice da nd dc,.int .i64 tm] 44):=⟨_,rfl⟩
   have HW6:=Lib.hid hW6
   have Q6:Hid (Below wr.heap.size wr W6):=Lib.hid (by rw [hW6];exact (Below.refl _ _).alloc (Nat.le_refl _) _)
   have HE6:Hid (Holds W6 wr.heap.size 44 #[.slice da nd dc,.int .i64 tm]):=Lib.hid (by rw [hW6];exact Holds.fresh _ _ _)
   clear hr1 hd1 hnd hTI hTG hW6 hB z0 z1 z2
   go_wp2_with fail
   rw [←HW6.out]
   clear HW6 c0 c1 k3
   have HS:Hid (∀ W,Below W6.heap.size W6 W→(fun W=>W.cell? ⟨wr.heap.size,0,none⟩=some (.slice da nd dc)∧W.cell? ⟨wr.heap.size,1,none⟩=some (.int .i64 tm)) W):=Lib.hid fun W hW=>by
    have h:=HE6.out.under hW HE6.out.lt
    exact ⟨h.cell 0,h.cell 1⟩
   refine wp_region_noPanic ?_
   refine wp_region_held_drew (S:=(fun W=>W.cell? ⟨wr.heap.size,0,none⟩=some (.slice da nd dc)∧W.cell? ⟨wr.heap.size,1,none⟩=some (.int .i64 tm))) (by kernel_rfl) (HS.out _ (Below.refl _ W6).drew) (fun hHeld=>?_)
   refine wpAnyH_take (i:=0) (oi:={ dst:=some 17,op:=Op.move (Operand.tmp 3),type:=30,pos:=_,after:=_,guard:=none }) (v:=?_) rfl (by kernel_rfl) (by kernel_rfl) (by kernel_rfl) (fun _ _ _ h=>h) (Or.inl ⟨by rfl,?_⟩) hHeld ?_
   rotate_left 1
   ·(intro W hW;(try dsimp only at hW);go_simp;try with_reducible rfl)
   try simp only [Act.put,List.setIfInBounds_toArray,List.set_cons_zero,List.set_cons_succ]
   refine wpAnyH_take (i:=1) (oi:={ dst:=some 18,op:=Op.fieldAddr 44 (Operand.tmp 5) 0,type:=0,pos:=_,after:=_,guard:=none }) (v:=?_) rfl (by kernel_rfl) (by kernel_rfl) (by kernel_rfl) (fun _ _ _ h=>h) (Or.inl ⟨by rfl,?_⟩) hHeld ?_
   rotate_left 1
   ·(intro W hW;(try dsimp only at hW);go_simp;try with_reducible rfl)
   try simp only [Act.put,List.setIfInBounds_toArray,List.set_cons_zero,List.set_cons_succ]
   refine wpAnyH_take (i:=2) (oi:={ dst:=some 19,op:=Op.load 42 (Operand.tmp 18),type:=42,pos:=_,after:=_,guard:=none }) (v:=?_) rfl (by kernel_rfl) (by kernel_rfl) (by kernel_rfl) (fun _ _ _ h=>h) (Or.inl ⟨by rfl,?_⟩) hHeld ?_
   rotate_left 1
   ·(intro W hW;obtain ⟨k0,_⟩:=hW;(try dsimp only at hW);go_simp;try with_reducible rfl)
   try simp only [Act.put,List.setIfInBounds_toArray,List.set_cons_zero,List.set_cons_succ]
   refine wpAnyH_take (i:=4) (oi:={ dst:=some 21,op:=Op.fieldAddr 44 (Operand.tmp 5) 1,type:=0,pos:=_,after:=_,guard:=none }) (v:=?_) rfl (by kernel_rfl) (by kernel_rfl) (by kernel_rfl) (fun _ _ _ h=>h) (Or.inl ⟨by rfl,?_⟩) hHeld ?_
   rotate_left 1
   ·(intro W hW;(try dsimp only at hW);go_simp;try with_reducible rfl)
   try simp only [Act.put,List.setIfInBounds_toArray,List.set_cons_zero,List.set_cons_succ]
   refine wpAnyH_take (i:=5) (oi:={ dst:=some 22,op:=Op.load 2 (Operand.tmp 21),type:=2,pos:=_,after:=_,guard:=none }) (v:=?_) rfl (by kernel_rfl) (by kernel_rfl) (by kernel_rfl) (fun _ _ _ h=>h) (Or.inl ⟨by rfl,?_⟩) hHeld ?_
   rotate_left 1
   ·(intro W hW;obtain ⟨_,k1⟩:=hW;(try dsimp only at hW);go_simp;try with_reducible rfl)
   try simp only [Act.put,List.setIfInBounds_toArray,List.set_cons_zero,List.set_cons_succ]
   refine wpAnyH_ready (rs:=[3]) (by kernel_rfl) (by simp) ?_
   refine AllReadyH.cons (o:={ dst:=some 20,op:=Op.call { callee:=Callee.value (Operand.func 29),args:=#[Operand.tmp 19],argTypes:=#[42] },type:=32,pos:=_,after:=_,guard:=none }) rfl (fun K hK=>?_) AllReadyH.nil
   go_simp
   have QD6:=Lib.hid (Q6.out.trans ((Below.refl _ W6).drew.mono Q6.out.size))
   refine (HIN.out _ QD6.out).mono ?_
   rintro e w8 ⟨r8,rfl,hp,hb⟩
   obtain ⟨lt8,t8,a8,n8,c8,k8,m8,d8,rfl,h6,hlt',hoff⟩:=PrimAt.six hp (HBD.out _ QD6.out)
   have b8:Hid (Below W6.heap.size W6 w8):=Lib.hid ((Below.refl _ W6).drew.trans hb)
   have R8:=Lib.hid (b8.out)
   have S8:=Lib.hid (HS.out _ R8.out)
   have HS8:=Lib.hid h6
   have HT8:=Lib.hid hlt'
   have HO8:=Lib.hid hoff
   clear hp hb h6 hlt' hoff
   go_simp
   refine hK.out _ _ (S8.out) (fun _=>?_)
   clear hK K hHeld
   try simp only [Act.put,List.setIfInBounds_toArray,List.set_cons_zero,List.set_cons_succ]
   have hHeld:((fun W=>W.cell? ⟨wr.heap.size,0,none⟩=some (.slice da nd dc)∧W.cell? ⟨wr.heap.size,1,none⟩=some (.int .i64 tm))) w8:=S8.out
   refine wpAnyH_ready (rs:=[6]) (by kernel_rfl) (by simp) ?_
   refine AllReadyH.cons (o:={ dst:=some 23,op:=Op.call { callee:=Callee.value (Operand.func 39),args:=#[Operand.tmp 22],argTypes:=#[2] },type:=32,pos:=_,after:=_,guard:=none }) rfl (fun K hK=>?_) AllReadyH.nil
   go_simp
   refine (HTG.out _ (bl KA ++ (w.heap.size+1) :: xs) (HBD.out _ (Q6.out.trans (R8.out.mono Q6.out.size)))).mono ?_
   intro e w9 hm
   obtain ⟨lt9,t9,a9,n9,c9,k9,m9,d9,rfl,h6,hlt',hoff,hb⟩:=MadeT.six hm
   have b9:Hid (Below w8.heap.size w8 w9):=Lib.hid (hb)
   have R9:=Lib.hid (R8.out.trans (b9.out.mono R8.out.size))
   have S9:=Lib.hid (HS.out _ R9.out)
   have HS9:=Lib.hid h6
   have HT9:=Lib.hid hlt'
   have HO9:=Lib.hid hoff
   clear hm hb h6 hlt' hoff
   go_simp
   refine hK.out _ _ (S9.out) (fun _=>?_)
   clear hK K hHeld
   try simp only [Act.put,List.setIfInBounds_toArray,List.set_cons_zero,List.set_cons_succ]
   have hHeld:((fun W=>W.cell? ⟨wr.heap.size,0,none⟩=some (.slice da nd dc)∧W.cell? ⟨wr.heap.size,1,none⟩=some (.int .i64 tm))) w9:=S9.out
   refine wpAnyH_ready (rs:=[7]) (by kernel_rfl) (by simp) ?_
   refine AllReadyH.cons (o:={ dst:=some 24,op:=Op.buildSlice 30 2 #[(0,Operand.tmp 20),(1,Operand.tmp 23)],type:=30,pos:=_,after:=_,guard:=none }) rfl (fun K hK=>?_) AllReadyH.nil
   go_simp
   obtain ⟨w10,hw⟩:∃ W,W=w9.alloc (.cells #[.int .u8 (t8:Int),.slice a8 n8 c8,.slice k8 m8 d8,.int .u8 (t9:Int),.slice a9 n9 c9,.slice k9 m9 d9] 32):=⟨_,rfl⟩
   rw [←hw]
   have b10:Hid (Below w9.heap.size w9 w10):=Lib.hid (by rw [hw];exact (Below.refl _ _).alloc (Nat.le_refl _) _)
   have R10:=Lib.hid (R9.out.trans (b10.out.mono R9.out.size))
   have S10:=Lib.hid (HS.out _ R10.out)
   have HP10:Hid (Off (bl KA ++ (w.heap.size+1) :: xs) (KiP (some ⟨w9.heap.size,0,none⟩) 2 [lt8,lt9]) w10):=Lib.hid (by rw [hw];exact row66 (HO8.out.under b9.out) HS8.out HO9.out HS9.out (HNX.out _ (Q6.out.trans (R9.out.mono Q6.out.size))))
   clear hw
   refine hK.out _ _ (S10.out) (fun _=>?_)
   clear hK K hHeld
   try simp only [Act.put,List.setIfInBounds_toArray,List.set_cons_zero,List.set_cons_succ]
   have hHeld:((fun W=>W.cell? ⟨wr.heap.size,0,none⟩=some (.slice da nd dc)∧W.cell? ⟨wr.heap.size,1,none⟩=some (.int .i64 tm))) w10:=S10.out
   refine wpAnyH_ready (rs:=[8]) (by kernel_rfl) (by simp) ?_
   refine AllReadyH.cons (o:={ dst:=some 25,op:=Op.call { callee:=Callee.value (Operand.func 35),args:=#[Operand.const (Value.int IntKind.u8 48),Operand.tmp 24],argTypes:=#[5,30] },type:=32,pos:=_,after:=_,guard:=none }) rfl (fun K hK=>?_) AllReadyH.nil
   go_simp
   refine (seq_any _ (bl KA ++ (w.heap.size+1) :: xs) 48 2 2 _ [lt8,lt9] HP10.out rfl (by omega) (by omega) (HBD.out _ (Q6.out.trans (R10.out.mono Q6.out.size)))).mono ?_
   intro e w11 hm
   obtain ⟨lt11,t11,a11,n11,c11,k11,m11,d11,rfl,h6,hlt',hoff,hb⟩:=MadeT.six hm
   have b11:Hid (Below w10.heap.size w10 w11):=Lib.hid (hb)
   have R11:=Lib.hid (R10.out.trans (b11.out.mono R10.out.size))
   have S11:=Lib.hid (HS.out _ R11.out)
   have HS11:=Lib.hid h6
   have HT11:=Lib.hid hlt'
   have HO11:=Lib.hid hoff
   clear hm hb h6 hlt' hoff
   go_simp
   refine hK.out _ _ (S11.out) (fun _=>?_)
   clear hK K hHeld
   try simp only [Act.put,List.setIfInBounds_toArray,List.set_cons_zero,List.set_cons_succ]
   have hHeld:((fun W=>W.cell? ⟨wr.heap.size,0,none⟩=some (.slice da nd dc)∧W.cell? ⟨wr.heap.size,1,none⟩=some (.int .i64 tm))) w11:=S11.out
   refine wpAnyH_ready (rs:=[9]) (by kernel_rfl) (by simp) ?_
   refine AllReadyH.cons (o:={ dst:=some 26,op:=Op.buildSlice 30 1 #[(0,Operand.tmp 25)],type:=30,pos:=_,after:=_,guard:=none }) rfl (fun K hK=>?_) AllReadyH.nil
   go_simp
   obtain ⟨w12,hw⟩:∃ W,W=w11.alloc (.cells #[.int .u8 (t11:Int),.slice a11 n11 c11,.slice k11 m11 d11] 32):=⟨_,rfl⟩
   rw [←hw]
   have b12:Hid (Below w11.heap.size w11 w12):=Lib.hid (by rw [hw];exact (Below.refl _ _).alloc (Nat.le_refl _) _)
   have R12:=Lib.hid (R11.out.trans (b12.out.mono R11.out.size))
   have S12:=Lib.hid (HS.out _ R12.out)
   have HF12:Hid (Holds w12 w11.heap.size 32 [.int .u8 (t11:Int),.slice a11 n11 c11,.slice k11 m11 d11].toArray):=Lib.hid (by rw [hw];exact Holds.fresh _ _ _)
   have K12:=Lib.hid (HK.out.under (Q6.out.trans (R12.out.mono Q6.out.size)))
   have O12:=Lib.hid (HO11.out.under b12.out)
   have OW12:=Lib.hid K12.out.own
   have B12:=Lib.hid (HB.out.trans ((Q6.out.trans (R12.out.mono Q6.out.size)).mono HB.out.size))
   have BX12:=Lib.hid (HXS.out _ B12.out.size)
   clear hw
   refine hK.out _ _ (S12.out) (fun _=>?_)
   clear hK K hHeld
   try simp only [Act.put,List.setIfInBounds_toArray,List.set_cons_zero,List.set_cons_succ]
   have hHeld:((fun W=>W.cell? ⟨wr.heap.size,0,none⟩=some (.slice da nd dc)∧W.cell? ⟨wr.heap.size,1,none⟩=some (.int .i64 tm))) w12:=S12.out
   refine wpAnyH_ready (rs:=[10]) (by kernel_rfl) (by simp) ?_
   refine AllReadyH.cons (o:={ dst:=some 27,op:=Op.call { callee:=Callee.builtin Builtin.append,args:=#[Operand.tmp 17,Operand.tmp 26],argTypes:=#[30,30] },type:=30,pos:=_,after:=_,guard:=none }) rfl (fun K hK=>?_) AllReadyH.nil
   refine step_pushV _ rfl (.tmp 17) (.tmp 26) 30 rfl 32 _ 3 56 Tryz.underlying30 info_node rfl (by omega) (by omega) rfl OW12.out (cs:=[.int .u8 (t11:Int),.slice a11 n11 c11,.slice k11 m11 d11]) rfl rfl one6 HF12.out (by omega) ?_
   intro g13 c13 w13 ho13 hg13 hat13 hlt13
   have K13:=Lib.hid (K12.out.push6 O12.out HS11.out ho13 hg13 hat13 BX12.out)
   have B13:=Lib.hid (below_own B12.out hg13 (fun g hg=>HG.out g hg) (Nat.le_refl _))
   have G13:Hid (∀ g,blockOf (some (⟨g13,0,none⟩:Addr))=some g→V.heap.size≤g):=Lib.hid fun g hg=>by
    have e:g13=g:=by simpa [blockOf] using hg
    subst e
    rcases hat13 with h | h
    ·exact HG.out _ h
    ·have:=B12.out.size;omega
   have S13:Hid ((fun W=>W.cell? ⟨wr.heap.size,0,none⟩=some (.slice da nd dc)∧W.cell? ⟨wr.heap.size,1,none⟩=some (.int .i64 tm)) w13):=Lib.hid (by
    have h12:=HE6.out.under R12.out HE6.out.lt
    have h13:=h12.grown hg13 (fun e=>by have:=HK.out.lt e.symm;omega)
    exact ⟨h13.cell 0,h13.cell 1⟩)
   clear ho13 hg13 hat13 OW12 HF12 O12 K12 BX12
   refine hK.out _ _ (S13.out) (fun _=>?_)
   clear hK K hHeld
   try simp only [Act.put,List.setIfInBounds_toArray,List.set_cons_zero,List.set_cons_succ]
   have hHeld:((fun W=>W.cell? ⟨wr.heap.size,0,none⟩=some (.slice da nd dc)∧W.cell? ⟨wr.heap.size,1,none⟩=some (.int .i64 tm))) w13:=S13.out
   refine wpAnyH_take (i:=11) (oi:={ dst:=some 3,op:=Op.assign (Operand.tmp 27),type:=30,pos:=_,after:=_,guard:=none }) (v:=?_) rfl (by kernel_rfl) (by kernel_rfl) (by kernel_rfl) (fun _ _ _ h=>h) (Or.inl ⟨by rfl,?_⟩) hHeld ?_
   rotate_left 1
   ·(intro W hW;(try dsimp only at hW);go_simp;try with_reducible rfl)
   try simp only [Act.put,List.setIfInBounds_toArray,List.set_cons_zero,List.set_cons_succ]
   refine wpAnyH_done (by kernel_rfl) ?_ _
   refine NoPanic.normal ?_
   have HTT:Hid ((ks ++ [lt11]).map Lt.t=((gone.map Gn.v).take (i+1)).map gnTr):=Lib.hid (by
    rw [HV1.out,List.map_append,HT.out]
    simp [HT11.out,HT9.out,HT8.out])
   go_wp2_with fail
   go_roundw
   case rel=>exact ⟨i+1,_,_,_,by omega,by go_num,rfl,K13.out,HTT.out,G13.out,B13.out⟩
   case measure=>simp [intOf];omega
  ·obtain rfl:i=gn:=by omega
   have HTT:Hid (ks.map Lt.t=(gone.map Gn.v).map gnTr):=Lib.hid (by rw [HT.out,List.take_of_length_le (by simp [HFN.out])])
   have HBD:Hid (∀ W,Below wr.heap.size wr W→∀ x∈((w.heap.size+1) :: xs),x<W.heap.size):=Lib.hid fun W hW=>HXS.out W (Nat.le_trans HVW.out hW.size)
   have HBV:Hid (∀ W,Below wr.heap.size wr W→Below V.heap.size V W):=Lib.hid fun W hW=>HB.out.trans (hW.mono HB.out.size)
   have HKI:=Lib.hid HK.out.ki
   have HKL:=Lib.hid HK.out.len
   clear hB
   go_wp2_with fail
   have HS:Hid (∀ W,Below wr.heap.size wr W→(fun W=>W.cell? ⟨w.heap.size,0,none⟩=some (.slice ia isn ic)∧W.cell? ⟨w.heap.size,1,none⟩=some (.int .i64 ta)∧W.cell? ⟨w.heap.size,2,none⟩=some (.int .i64 tn)) W):=Lib.hid fun W hW=>by
    have h:=HBXr.out.under hW HBXr.out.lt
    exact ⟨h.cell 0,h.cell 1,h.cell 2⟩
   refine wp_region_noPanic ?_
   refine wp_region_held_drew (S:=(fun W=>W.cell? ⟨w.heap.size,0,none⟩=some (.slice ia isn ic)∧W.cell? ⟨w.heap.size,1,none⟩=some (.int .i64 ta)∧W.cell? ⟨w.heap.size,2,none⟩=some (.int .i64 tn))) (by kernel_rfl) (HS.out _ (Below.refl _ wr).drew) (fun hHeld=>?_)
   refine wpAnyH_take (i:=0) (oi:={ dst:=some 29,op:=Op.fieldAddr 26 (Operand.tmp 1) 0,type:=0,pos:=_,after:=_,guard:=none }) (v:=?_) rfl (by kernel_rfl) (by kernel_rfl) (by kernel_rfl) (fun _ _ _ h=>h) (Or.inl ⟨by rfl,?_⟩) hHeld ?_
   rotate_left 1
   ·(intro W hW;(try dsimp only at hW);go_simp;try with_reducible rfl)
   try simp only [Act.put,List.setIfInBounds_toArray,List.set_cons_zero,List.set_cons_succ]
   refine wpAnyH_take (i:=1) (oi:={ dst:=some 30,op:=Op.load 22 (Operand.tmp 29),type:=22,pos:=_,after:=_,guard:=none }) (v:=?_) rfl (by kernel_rfl) (by kernel_rfl) (by kernel_rfl) (fun _ _ _ h=>h) (Or.inl ⟨by rfl,?_⟩) hHeld ?_
   rotate_left 1
   ·(intro W hW;obtain ⟨k0,_,_⟩:=hW;(try dsimp only at hW);go_simp;try with_reducible rfl)
   try simp only [Act.put,List.setIfInBounds_toArray,List.set_cons_zero,List.set_cons_succ]
   refine wpAnyH_take (i:=3) (oi:={ dst:=some 32,op:=Op.fieldAddr 26 (Operand.tmp 1) 1,type:=0,pos:=_,after:=_,guard:=none }) (v:=?_) rfl (by kernel_rfl) (by kernel_rfl) (by kernel_rfl) (fun _ _ _ h=>h) (Or.inl ⟨by rfl,?_⟩) hHeld ?_
   rotate_left 1
   ·(intro W hW;(try dsimp only at hW);go_simp;try with_reducible rfl)
   try simp only [Act.put,List.setIfInBounds_toArray,List.set_cons_zero,List.set_cons_succ]
   refine wpAnyH_take (i:=4) (oi:={ dst:=some 33,op:=Op.load 2 (Operand.tmp 32),type:=2,pos:=_,after:=_,guard:=none }) (v:=?_) rfl (by kernel_rfl) (by kernel_rfl) (by kernel_rfl) (fun _ _ _ h=>h) (Or.inl ⟨by rfl,?_⟩) hHeld ?_
   rotate_left 1
   ·(intro W hW;obtain ⟨_,k1,_⟩:=hW;(try dsimp only at hW);go_simp;try with_reducible rfl)
   try simp only [Act.put,List.setIfInBounds_toArray,List.set_cons_zero,List.set_cons_succ]
   refine wpAnyH_take (i:=6) (oi:={ dst:=some 35,op:=Op.fieldAddr 26 (Operand.tmp 1) 2,type:=0,pos:=_,after:=_,guard:=none }) (v:=?_) rfl (by kernel_rfl) (by kernel_rfl) (by kernel_rfl) (fun _ _ _ h=>h) (Or.inl ⟨by rfl,?_⟩) hHeld ?_
   rotate_left 1
   ·(intro W hW;(try dsimp only at hW);go_simp;try with_reducible rfl)
   try simp only [Act.put,List.setIfInBounds_toArray,List.set_cons_zero,List.set_cons_succ]
   refine wpAnyH_take (i:=7) (oi:={ dst:=some 36,op:=Op.load 2 (Operand.tmp 35),type:=2,pos:=_,after:=_,guard:=none }) (v:=?_) rfl (by kernel_rfl) (by kernel_rfl) (by kernel_rfl) (fun _ _ _ h=>h) (Or.inl ⟨by rfl,?_⟩) hHeld ?_
   rotate_left 1
   ·(intro W hW;obtain ⟨_,_,k2⟩:=hW;(try dsimp only at hW);go_simp;try with_reducible rfl)
   try simp only [Act.put,List.setIfInBounds_toArray,List.set_cons_zero,List.set_cons_succ]
   refine wpAnyH_take (i:=11) (oi:={ dst:=some 40,op:=Op.move (Operand.tmp 3),type:=30,pos:=_,after:=_,guard:=none }) (v:=?_) rfl (by kernel_rfl) (by kernel_rfl) (by kernel_rfl) (fun _ _ _ h=>h) (Or.inl ⟨by rfl,?_⟩) hHeld ?_
   rotate_left 1
   ·(intro W hW;(try dsimp only at hW);go_simp;try with_reducible rfl)
   try simp only [Act.put,List.setIfInBounds_toArray,List.set_cons_zero,List.set_cons_succ]
   refine wpAnyH_ready (rs:=[2]) (by kernel_rfl) (by simp) ?_
   refine AllReadyH.cons (o:={ dst:=some 31,op:=Op.call { callee:=Callee.value (Operand.func 40),args:=#[Operand.tmp 30],argTypes:=#[22] },type:=32,pos:=_,after:=_,guard:=none }) rfl (fun K hK=>?_) AllReadyH.nil
   go_simp
   have D20:Hid (Below wr.heap.size wr wr.drew):=Lib.hid (Below.refl _ wr).drew
   refine (HDN.out _ ((w.heap.size+1) :: xs) (HBV.out _ D20.out) (HBD.out _ D20.out)).mono ?_
   intro e w21 hm
   obtain ⟨lt21,t21,a21,n21,c21,k21,m21,d21,rfl,h6,hlt',hoff,hb⟩:=MadeT.six hm
   have b21:Hid (Below wr.heap.size wr w21):=Lib.hid ((Below.refl _ wr).drew.trans hb)
   have R21:=Lib.hid (b21.out)
   have S21:=Lib.hid (HS.out _ R21.out)
   have HS21:=Lib.hid h6
   have HT21:=Lib.hid hlt'
   have HO21:=Lib.hid hoff
   clear hm hb h6 hlt' hoff
   go_simp
   refine hK.out _ _ (S21.out) (fun _=>?_)
   clear hK K hHeld
   try simp only [Act.put,List.setIfInBounds_toArray,List.set_cons_zero,List.set_cons_succ]
   have hHeld:((fun W=>W.cell? ⟨w.heap.size,0,none⟩=some (.slice ia isn ic)∧W.cell? ⟨w.heap.size,1,none⟩=some (.int .i64 ta)∧W.cell? ⟨w.heap.size,2,none⟩=some (.int .i64 tn))) w21:=S21.out
   refine wpAnyH_ready (rs:=[5]) (by kernel_rfl) (by simp) ?_
   refine AllReadyH.cons (o:={ dst:=some 34,op:=Op.call { callee:=Callee.value (Operand.func 39),args:=#[Operand.tmp 33],argTypes:=#[2] },type:=32,pos:=_,after:=_,guard:=none }) rfl (fun K hK=>?_) AllReadyH.nil
   go_simp
   refine (HTA0.out _ ((w.heap.size+1) :: xs) (HBD.out _ R21.out)).mono ?_
   intro e w22 hm
   obtain ⟨lt22,t22,a22,n22,c22,k22,m22,d22,rfl,h6,hlt',hoff,hb⟩:=MadeT.six hm
   have b22:Hid (Below w21.heap.size w21 w22):=Lib.hid (hb)
   have R22:=Lib.hid (R21.out.trans (b22.out.mono R21.out.size))
   have S22:=Lib.hid (HS.out _ R22.out)
   have HS22:=Lib.hid h6
   have HT22:=Lib.hid hlt'
   have HO22:=Lib.hid hoff
   clear hm hb h6 hlt' hoff
   go_simp
   refine hK.out _ _ (S22.out) (fun _=>?_)
   clear hK K hHeld
   try simp only [Act.put,List.setIfInBounds_toArray,List.set_cons_zero,List.set_cons_succ]
   have hHeld:((fun W=>W.cell? ⟨w.heap.size,0,none⟩=some (.slice ia isn ic)∧W.cell? ⟨w.heap.size,1,none⟩=some (.int .i64 ta)∧W.cell? ⟨w.heap.size,2,none⟩=some (.int .i64 tn))) w22:=S22.out
   refine wpAnyH_ready (rs:=[8]) (by kernel_rfl) (by simp) ?_
   refine AllReadyH.cons (o:={ dst:=some 37,op:=Op.call { callee:=Callee.value (Operand.func 39),args:=#[Operand.tmp 36],argTypes:=#[2] },type:=32,pos:=_,after:=_,guard:=none }) rfl (fun K hK=>?_) AllReadyH.nil
   go_simp
   refine (HTN0.out _ ((w.heap.size+1) :: xs) (HBD.out _ R22.out)).mono ?_
   intro e w23 hm
   obtain ⟨lt23,t23,a23,n23,c23,k23,m23,d23,rfl,h6,hlt',hoff,hb⟩:=MadeT.six hm
   have b23:Hid (Below w22.heap.size w22 w23):=Lib.hid (hb)
   have R23:=Lib.hid (R22.out.trans (b23.out.mono R22.out.size))
   have S23:=Lib.hid (HS.out _ R23.out)
   have HS23:=Lib.hid h6
   have HT23:=Lib.hid hlt'
   have HO23:=Lib.hid hoff
   clear hm hb h6 hlt' hoff
   go_simp
   refine hK.out _ _ (S23.out) (fun _=>?_)
   clear hK K hHeld
   try simp only [Act.put,List.setIfInBounds_toArray,List.set_cons_zero,List.set_cons_succ]
   have hHeld:((fun W=>W.cell? ⟨w.heap.size,0,none⟩=some (.slice ia isn ic)∧W.cell? ⟨w.heap.size,1,none⟩=some (.int .i64 ta)∧W.cell? ⟨w.heap.size,2,none⟩=some (.int .i64 tn))) w23:=S23.out
   refine wpAnyH_ready (rs:=[9]) (by kernel_rfl) (by simp) ?_
   refine AllReadyH.cons (o:={ dst:=some 38,op:=Op.buildSlice 30 2 #[(0,Operand.tmp 34),(1,Operand.tmp 37)],type:=30,pos:=_,after:=_,guard:=none }) rfl (fun K hK=>?_) AllReadyH.nil
   go_simp
   obtain ⟨w24,hw⟩:∃ W,W=w23.alloc (.cells #[.int .u8 (t22:Int),.slice a22 n22 c22,.slice k22 m22 d22,.int .u8 (t23:Int),.slice a23 n23 c23,.slice k23 m23 d23] 32):=⟨_,rfl⟩
   rw [←hw]
   have b24:Hid (Below w23.heap.size w23 w24):=Lib.hid (by rw [hw];exact (Below.refl _ _).alloc (Nat.le_refl _) _)
   have R24:=Lib.hid (R23.out.trans (b24.out.mono R23.out.size))
   have S24:=Lib.hid (HS.out _ R24.out)
   have HP24:Hid (Off ((w.heap.size+1) :: xs) (KiP (some ⟨w23.heap.size,0,none⟩) 2 [lt22,lt23]) w24):=Lib.hid (by rw [hw];exact row66 (HO22.out.under b23.out) HS22.out HO23.out HS23.out (fun hx=>Nat.lt_irrefl _ (HBD.out _ R23.out _ hx)))
   clear hw
   refine hK.out _ _ (S24.out) (fun _=>?_)
   clear hK K hHeld
   try simp only [Act.put,List.setIfInBounds_toArray,List.set_cons_zero,List.set_cons_succ]
   have hHeld:((fun W=>W.cell? ⟨w.heap.size,0,none⟩=some (.slice ia isn ic)∧W.cell? ⟨w.heap.size,1,none⟩=some (.int .i64 ta)∧W.cell? ⟨w.heap.size,2,none⟩=some (.int .i64 tn))) w24:=S24.out
   refine wpAnyH_ready (rs:=[10]) (by kernel_rfl) (by simp) ?_
   refine AllReadyH.cons (o:={ dst:=some 39,op:=Op.call { callee:=Callee.value (Operand.func 35),args:=#[Operand.const (Value.int IntKind.u8 48),Operand.tmp 38],argTypes:=#[5,30] },type:=32,pos:=_,after:=_,guard:=none }) rfl (fun K hK=>?_) AllReadyH.nil
   go_simp
   refine (seq_any _ ((w.heap.size+1) :: xs) 48 2 2 _ [lt22,lt23] HP24.out rfl (by omega) (by omega) (HBD.out _ R24.out)).mono ?_
   intro e w25 hm
   obtain ⟨lt25,t25,a25,n25,c25,k25,m25,d25,rfl,h6,hlt',hoff,hb⟩:=MadeT.six hm
   have b25:Hid (Below w24.heap.size w24 w25):=Lib.hid (hb)
   have R25:=Lib.hid (R24.out.trans (b25.out.mono R24.out.size))
   have S25:=Lib.hid (HS.out _ R25.out)
   have HS25:=Lib.hid h6
   have HT25:=Lib.hid hlt'
   have HO25:=Lib.hid hoff
   clear hm hb h6 hlt' hoff
   go_simp
   refine hK.out _ _ (S25.out) (fun _=>?_)
   clear hK K hHeld
   try simp only [Act.put,List.setIfInBounds_toArray,List.set_cons_zero,List.set_cons_succ]
   have hHeld:((fun W=>W.cell? ⟨w.heap.size,0,none⟩=some (.slice ia isn ic)∧W.cell? ⟨w.heap.size,1,none⟩=some (.int .i64 ta)∧W.cell? ⟨w.heap.size,2,none⟩=some (.int .i64 tn))) w25:=S25.out
   refine wpAnyH_ready (rs:=[12]) (by kernel_rfl) (by simp) ?_
   refine AllReadyH.cons (o:={ dst:=some 41,op:=Op.call { callee:=Callee.value (Operand.func 35),args:=#[Operand.const (Value.int IntKind.u8 48),Operand.tmp 40],argTypes:=#[5,30] },type:=32,pos:=_,after:=_,guard:=none }) rfl (fun K hK=>?_) AllReadyH.nil
   go_simp
   refine (seq_any _ ((w.heap.size+1) :: xs) 48 d i KA ks (HKI.out.under R25.out) HKL.out (by omega) (by omega) (HBD.out _ R25.out)).mono ?_
   intro e w26 hm
   obtain ⟨lt26,t26,a26,n26,c26,k26,m26,d26,rfl,h6,hlt',hoff,hb⟩:=MadeT.six hm
   have b26:Hid (Below w25.heap.size w25 w26):=Lib.hid (hb)
   have R26:=Lib.hid (R25.out.trans (b26.out.mono R25.out.size))
   have S26:=Lib.hid (HS.out _ R26.out)
   have HS26:=Lib.hid h6
   have HT26:=Lib.hid hlt'
   have HO26:=Lib.hid hoff
   clear hm hb h6 hlt' hoff
   go_simp
   refine hK.out _ _ (S26.out) (fun _=>?_)
   clear hK K hHeld
   try simp only [Act.put,List.setIfInBounds_toArray,List.set_cons_zero,List.set_cons_succ]
   have hHeld:((fun W=>W.cell? ⟨w.heap.size,0,none⟩=some (.slice ia isn ic)∧W.cell? ⟨w.heap.size,1,none⟩=some (.int .i64 ta)∧W.cell? ⟨w.heap.size,2,none⟩=some (.int .i64 tn))) w26:=S26.out
   refine wpAnyH_ready (rs:=[13]) (by kernel_rfl) (by simp) ?_
   refine AllReadyH.cons (o:={ dst:=some 42,op:=Op.buildSlice 30 3 #[(0,Operand.tmp 31),(1,Operand.tmp 39),(2,Operand.tmp 41)],type:=30,pos:=_,after:=_,guard:=none }) rfl (fun K hK=>?_) AllReadyH.nil
   go_simp
   obtain ⟨w27,hw⟩:∃ W,W=w26.alloc (.cells #[.int .u8 (t21:Int),.slice a21 n21 c21,.slice k21 m21 d21,.int .u8 (t25:Int),.slice a25 n25 c25,.slice k25 m25 d25,.int .u8 (t26:Int),.slice a26 n26 c26,.slice k26 m26 d26] 32):=⟨_,rfl⟩
   rw [←hw]
   have b27:Hid (Below w26.heap.size w26 w27):=Lib.hid (by rw [hw];exact (Below.refl _ _).alloc (Nat.le_refl _) _)
   have R27:=Lib.hid (R26.out.trans (b27.out.mono R26.out.size))
   have S27:=Lib.hid (HS.out _ R27.out)
   have HP27:Hid (Off ((w.heap.size+1) :: xs) (KiP (some ⟨w26.heap.size,0,none⟩) 3 [lt21,lt25,lt26]) w27):=Lib.hid (by rw [hw];exact row666 (((((HO21.out.under b22.out).under b23.out).under b24.out).under b25.out).under b26.out) HS21.out (HO25.out.under b26.out) HS25.out HO26.out HS26.out (fun hx=>Nat.lt_irrefl _ (HBD.out _ R26.out _ hx)))
   clear hw
   refine hK.out _ _ (S27.out) (fun _=>?_)
   clear hK K hHeld
   try simp only [Act.put,List.setIfInBounds_toArray,List.set_cons_zero,List.set_cons_succ]
   have hHeld:((fun W=>W.cell? ⟨w.heap.size,0,none⟩=some (.slice ia isn ic)∧W.cell? ⟨w.heap.size,1,none⟩=some (.int .i64 ta)∧W.cell? ⟨w.heap.size,2,none⟩=some (.int .i64 tn))) w27:=S27.out
   refine wpAnyH_ready (rs:=[14]) (by kernel_rfl) (by simp) ?_
   refine AllReadyH.cons (o:={ dst:=some 43,op:=Op.call { callee:=Callee.value (Operand.func 35),args:=#[Operand.const (Value.int IntKind.u8 48),Operand.tmp 42],argTypes:=#[5,30] },type:=32,pos:=_,after:=_,guard:=none }) rfl (fun K hK=>?_) AllReadyH.nil
   go_simp
   refine (seq_any _ ((w.heap.size+1) :: xs) 48 3 3 _ [lt21,lt25,lt26] HP27.out rfl (by omega) (by omega) (HBD.out _ R27.out)).mono ?_
   intro e w28 hm
   obtain ⟨lt28,t28,a28,n28,c28,k28,m28,d28,rfl,h6,hlt',hoff,hb⟩:=MadeT.six hm
   have b28:Hid (Below w27.heap.size w27 w28):=Lib.hid (hb)
   have R28:=Lib.hid (R27.out.trans (b28.out.mono R27.out.size))
   have S28:=Lib.hid (HS.out _ R28.out)
   have HS28:=Lib.hid h6
   have HT28:=Lib.hid hlt'
   have HO28:=Lib.hid hoff
   clear hm hb h6 hlt' hoff
   have hz28:=HZr.out.under R28.out HZr.out.lt
   have HZ28:=Lib.hid hz28
   have x0:=hz28.cell 0
   have x1:=hz28.cell 1
   have x2:=hz28.cell 2
   have y0:=hz28.open_ 0
   have y1:=hz28.open_ 1
   have y2:=hz28.open_ 2
   have S29:Hid ((fun W=>W.cell? ⟨w.heap.size,0,none⟩=some (.slice ia isn ic)∧W.cell? ⟨w.heap.size,1,none⟩=some (.int .i64 ta)∧W.cell? ⟨w.heap.size,2,none⟩=some (.int .i64 tn)) (((w28.setCell ⟨w.heap.size+1,0,none⟩ (.int .u8 (t28:Int))).setCell ⟨w.heap.size+1,1,none⟩ (.slice a28 n28 c28)).setCell ⟨w.heap.size+1,2,none⟩ (.slice k28 m28 d28))):=Lib.hid (by
    have hne:w.heap.size≠w.heap.size+1:=by omega
    refine ⟨?_,?_,?_⟩
    ·rw [cell_ne hne,cell_ne hne,cell_ne hne];exact S28.out.1
    ·rw [cell_ne hne,cell_ne hne,cell_ne hne];exact S28.out.2.1
    ·rw [cell_ne hne,cell_ne hne,cell_ne hne];exact S28.out.2.2)
   clear hz28
   go_simp
   refine hK.out _ _ (S28.out) (fun _=>?_)
   clear hK K hHeld
   try simp only [Act.put,List.setIfInBounds_toArray,List.set_cons_zero,List.set_cons_succ]
   have hHeld:((fun W=>W.cell? ⟨w.heap.size,0,none⟩=some (.slice ia isn ic)∧W.cell? ⟨w.heap.size,1,none⟩=some (.int .i64 ta)∧W.cell? ⟨w.heap.size,2,none⟩=some (.int .i64 tn))) w28:=S28.out
   refine wpAnyH_ready (rs:=[15]) (by kernel_rfl) (by simp) ?_
   refine AllReadyH.cons (o:={ dst:=none,op:=Op.store 32 (Operand.tmp 2) (Operand.tmp 43),type:=0,pos:=_,after:=_,guard:=none }) rfl (fun K hK=>?_) AllReadyH.nil
   go_simp
   refine hK.out _ _ (S29.out) (fun _=>?_)
   clear hK K hHeld
   try simp only [Act.put,List.setIfInBounds_toArray,List.set_cons_zero,List.set_cons_succ]
   have hHeld:((fun W=>W.cell? ⟨w.heap.size,0,none⟩=some (.slice ia isn ic)∧W.cell? ⟨w.heap.size,1,none⟩=some (.int .i64 ta)∧W.cell? ⟨w.heap.size,2,none⟩=some (.int .i64 tn))) (((w28.setCell ⟨w.heap.size+1,0,none⟩ (.int .u8 (t28:Int))).setCell ⟨w.heap.size+1,1,none⟩ (.slice a28 n28 c28)).setCell ⟨w.heap.size+1,2,none⟩ (.slice k28 m28 d28)):=S29.out
   refine wpAnyH_done (by kernel_rfl) ?_ _
   refine NoPanic.normal ?_
   have HTE:Hid (lt28.t=TT):=Lib.hid (by rw [HTV.out,←HTT.out];rw [HT28.out];simp [HT21.out,HT22.out,HT23.out,HT25.out,HT26.out])
   have HLT:Hid (lt28.val = .agg #[.int .u8 (t28:Int),.slice a28 n28 c28,.slice k28 m28 d28]):=Lib.hid (Of6.val HS28.out)
   have HBE:=Lib.hid (HB0.out.trans ((HB.out.trans (R28.out.mono HB.out.size)).mono HB0.out.size))
   go_wp2_with fail
   refine ret_one rfl rfl (((HZ28.out.stored 0 _).stored 1 _).stored 2 _) rfl ?_
   exact ⟨lt28,by rw [HLT.out];rfl,HTE.out,made_outG HO28.out _ _ _,below_outG HBE.out (by omega) _ _ _⟩
end Go.Proofs.YtcibjcgipfpniaaGreatDoor
