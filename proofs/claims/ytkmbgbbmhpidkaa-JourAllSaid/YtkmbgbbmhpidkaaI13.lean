/- Words and laws for the statement, part 13. -/
import Derived.Test.YtkmbgbbmhpidkaaI12
namespace Go.Proofs.Ytkmbgbbmhpidkaa
open Go.RowKit Go.Shelf
set_option linter.unusedVariables false
set_option linter.unusedSimpArgs false
attribute [local go_sem ↓] Go.wp_at_zero Go.wp_at_succ

theorem secOld_len:secOld.length=64:=secOf_length _
theorem secFive_len:secFive.length=64:=secOf_length _
theorem secOld_oct:Oct1 secOld:=secOf_oct fun x hx=>by simp at hx;omega
theorem secFive_oct:Oct1 secFive:=secOf_oct fun x hx=>by simp at hx;omega
theorem rd_marked3 {w w':World} {b x1 x2 x3:Nat} (h:Holds w b 5 #[Value.int .u8 (x1:Int),.int .u8 (x2:Int),.int .u8 (x3:Int)]) (hc:∀ a,w'.cell? a=w.cell? a) (hs:w'.heap.size=w.heap.size):Rd .u8 w' w'.heap.size (some ⟨b,0,none⟩) 3 [x1,x2,x3] :=
 ⟨Nat.le_refl _,by decide,fun _=>⟨b,0,rfl,by rw [hs];exact Holds.lt h,fun j hj=>by
  have:j<3:=hj
  rw [hc,Nat.zero_add,h.cell]
  rcases j with _ | _ | _ | j
  ·rfl
  ·rfl
  ·rfl
  ·omega⟩⟩
theorem run_old (w:World):∃ w',(convert 40 40 (.slice (some ⟨w.heap.size,0,none⟩) 3 3)).run Try.prog (w.alloc (.cells #[.int .u8 111,.int .u8 108,.int .u8 100] 5)) = .ok (.slice (some ⟨w.heap.size,0,none⟩) 3 3) w'∧Below w.heap.size w w'∧Rd .u8 w' w'.heap.size (some ⟨w.heap.size,0,none⟩) 3 [111,108,100]:=by
 obtain ⟨w',hr,hb,hc,hs⟩:=run_mark (w.alloc (.cells #[.int .u8 111,.int .u8 108,.int .u8 100] 5)) w.heap.size #[.int .u8 111,.int .u8 108,.int .u8 100] 3 3 (Holds.fresh _ _ _)
 exact ⟨w',hr,((Below.refl _ w).alloc (Nat.le_refl _) _).trans hb,rd_marked3 (Holds.fresh w 5 #[.int .u8 111,.int .u8 108,.int .u8 100]) hc hs⟩
theorem run_five (w:World):∃ w',(convert 40 40 (.slice (some ⟨w.heap.size,0,none⟩) 4 4)).run Try.prog (w.alloc (.cells #[.int .u8 102,.int .u8 105,.int .u8 118,.int .u8 101] 5)) = .ok (.slice (some ⟨w.heap.size,0,none⟩) 4 4) w'∧Below w.heap.size w w'∧Rd .u8 w' w'.heap.size (some ⟨w.heap.size,0,none⟩) 4 [102,105,118,101]:=by
 obtain ⟨w',hr,hb,hc,hs⟩:=run_mark (w.alloc (.cells #[.int .u8 102,.int .u8 105,.int .u8 118,.int .u8 101] 5)) w.heap.size #[.int .u8 102,.int .u8 105,.int .u8 118,.int .u8 101] 4 4 (Holds.fresh _ _ _)
 exact ⟨w',hr,((Below.refl _ w).alloc (Nat.le_refl _) _).trans hb,rd_marked4 (Holds.fresh w 5 #[.int .u8 102,.int .u8 105,.int .u8 118,.int .u8 101]) hc hs⟩
theorem putf_sound {s:Dk} (h:s.Sound) (l:List (Int×List Nat)):(s.putf l).1.Sound:=by
 unfold Dk.putf
 split
 ·exact (puts_sound h l).flush
 ·exact puts_sound h l
theorem fin_sound {s:Dk} (h:s.Sound) (l:List (Int×List Nat)):(s.fin l).1.Sound:=by
 unfold Dk.fin
 split
 ·exact putf_sound (putf_sound h _) _
 ·exact putf_sound h _
theorem commit_sound {s:Dk} (h:s.Sound) (l:List (Int×List Nat)):(s.commit l).1.Sound:=by
 unfold Dk.commit
 split
 ·split
  ·exact h
  ·split
   ·exact h
   ·split
    ·split
     ·exact fin_sound (putf_sound (putf_sound h _) _) _
     ·exact putf_sound (putf_sound h _) _
    ·exact putf_sound h _
 ·exact h
theorem open_sound {s:Dk} (h:s.Sound):s.open_.1.Sound:=by
 unfold Dk.open_
 split
 ·exact h
 ·split
  ·exact h
  ·split
   ·exact h
   ·exact h
   ·split
    ·exact fin_sound h _
    ·exact h
theorem Ref.sect {w:World} {F:Nat→Prop} {gx:Nat} {s:Dk} (h:Ref w F gx s) {i:Nat} (hi:i<s.now.length):(s.read (i:Int)).length=64:=by
 obtain ⟨hs,gS,cS,A,cw,K,ck,at_,kl,rs,ws,h,hF⟩:=h
 have hlen:s.now.length=rs.length:=by rw [hs.len,←h.eS,List.length_map]
 have hlw:s.waits.length=ws.length:=by rw [←h.eW,List.length_map]
 have he:s.read (i:Int)=(fallN (fun _=>true) s.waits s.lasts s.waits.length).getD i []:=by
  unfold Dk.read
  rw [if_pos (by omega),Int.toNat_natCast]
  exact congrArg (fun l:List (List Nat)=>l.getD i []) hs
 rw [he]
 have key:∀ k,k≤ws.length→((fallN (fun _=>true) s.waits s.lasts k).getD i []).length=64:=by
  intro k
  induction k with
  | zero=>intro _;rw [fallN];obtain ⟨_,_,_,e,l⟩:=h.row (i:=i) (by omega);rw [←e];exact l
  | succ k ih =>
   intro hk
   obtain ⟨g,_,_,_,_,e,l,_⟩:=h.wait (k:=k) (by omega)
   rw [fallN,if_pos rfl,←e]
   by_cases hp:(ws.getD k default).1=i
   ·rw [hp]
    have:i<(fallN (fun _=>true) s.waits s.lasts k).length:=by rw [fallN_length,←hs.len];omega
    simpa [List.getD,this] using l
   ·have h2:=ih (by omega)
    generalize ws.getD k default=p at *
    have e2:((fallN (fun _=>true) s.waits s.lasts k).set p.1 p.2.l).getD i []=(fallN (fun _=>true) s.waits s.lasts k).getD i []:=by simp [List.getD,List.getElem?_set_ne hp]
    rw [e2]
    exact h2
 exact key _ (by omega)
/-- What an old place holds, as the law looks for it. -/
def oV (i:Nat):Nat→List Nat
 | 0=>zsec
 | k+1=>if (oldL.getD k default).1=(i:Int) then (oldL.getD k default).2 else oV i k
theorem oV_two (i:Nat):oV i 2=wasP i:=by
 show (if (5:Int)=(i:Int) then secFive else if (0:Int)=(i:Int) then secOld else zsec)=_
 unfold wasP
 by_cases h5:i=5
 ·subst h5;rfl
 rw [if_neg (by omega),if_neg h5]
 by_cases h0:i=0
 ·subst h0;rfl
 ·rw [if_neg (by omega),if_neg h0]
theorem oV_len (i k:Nat) (hk:k≤2):(oV i k).length=64:=by
 rcases k with _ | _ | _ | k
 ·exact List.length_replicate
 ·show (if (0:Int)=(i:Int) then secOld else zsec).length=64
  split
  ·exact secOf_length _
  ·exact List.length_replicate
 ·rw [oV_two]
  unfold wasP
  split
  ·exact secOf_length _
  ·split
   ·exact secOf_length _
   ·exact List.length_replicate
 ·omega
theorem wasP_oct (i:Nat):Oct1 (wasP i):=by
 unfold wasP
 split
 ·exact secOld_oct
 ·split
  ·exact secFive_oct
  ·exact zsec_oct
theorem kA_oct:kA.Oct:=by
 have h0:kA0.Oct:=(oct_fresh 170).format
 exact h0.commit fun p hp=>by
  unfold oldL at hp
  rcases List.mem_cons.1 hp with rfl | hp
  ·exact secOld_oct
  ·rw [List.mem_singleton.1 hp];exact secFive_oct
theorem kA0_small:kA0.waits.length≤200∧kA0.ops≤200:=by
 have h:=format_le (fresh 170)
 have hl:(fresh 170).now.length=170:=List.length_replicate
 have h1:(fresh 170).waits.length=0:=rfl
 have h2:(fresh 170).ops=0:=rfl
 unfold kA0
 generalize (fresh 170).format=q at *
 omega
theorem kA_small:kA.waits.length≤400∧kA.ops≤400:=by
 have h:=commit_le kA0 oldL (by decide)
 have h0:=kA0_small
 unfold kA
 generalize kA0.commit oldL=q at *
 omega
theorem eqs {l l':List Nat} (ho:Oct1 l) (ho':Oct1 l'):((str l).toList == (str l').toList)=decide (l=l'):=by
 by_cases h:l=l'
 ·subst h
  rw [decide_eq_true rfl]
  exact beq_self_eq_true _
 ·rw [decide_eq_false h]
  exact str_ne ho ho' h
theorem bi_step {i:Nat} {b:Bool} {Q:Nat→Prop} [DecidablePred Q] (h:b=true↔∀ j,j<i→Q j):((b && decide (Q i))=true↔∀ j,j<i+1→Q j):=by
 rw [Bool.and_eq_true,h,decide_eq_true_iff]
 constructor
 ·rintro ⟨h1,h2⟩ j hj
  rcases Nat.lt_or_ge j i with h3 | h3
  ·exact h1 j h3
  ·obtain rfl:j=i:=by omega
   exact h2
 ·intro h1
  exact ⟨fun j hj=>h1 j (by omega),h1 i (by omega)⟩
set_option maxRecDepth 100000 in
set_option maxHeartbeats 16000000 in
theorem law_all (w:World) (A:Option Addr) (c n:Nat) (l:List Wr) (hl:l.length=n) (hr:RdWr A c l w) (ho:∀ x∈l,Oct1 x.d) (ca:Int) (ka:Option Addr) (nk kc:Nat) (kl:List Bool) (hkl:kl.length=nk) (hka:Truths w ka kc kl) (cb:Int) (kb:Option Addr) (nm kd:Nat) (km:List Bool) (hkm:km.length=nm) (hkb:Truths w kb kd km) :
  Calls Try.prog 4 #[.slice A n c,.agg #[.int .i64 ca,.slice ka nk kc],.agg #[.int .i64 cb,.slice kb nm kd]] w fun e w'=>e = .returned (.bool true)∧Below w.heap.size w w':=by
 have hb1:Below w.heap.size w ((w.alloc (.cells #[.int .i64 ca,.slice ka nk kc] 30)).alloc (.cells #[.int .i64 cb,.slice kb nm kd] 30)):=((Below.refl _ _).alloc (Nat.le_refl _) _).alloc (by simp) _
 have hx1:=(Holds.fresh w 30 #[.int .i64 ca,.slice ka nk kc]).alloc (.cells #[.int .i64 cb,.slice kb nm kd] 30)
 have hx2:=Holds.fresh (w.alloc (.cells #[.int .i64 ca,.slice ka nk kc] 30)) 30 #[.int .i64 cb,.slice kb nm kd]
 rw [show (w.alloc (.cells #[.int .i64 ca,.slice ka nk kc] 30)).heap.size=w.heap.size+1 by simp] at hx2
 have hsz:(((w.alloc (.cells #[.int .i64 ca,.slice ka nk kc] 30)).alloc (.cells #[.int .i64 cb,.slice kb nm kd] 30))).heap.size=w.heap.size+2:=by simp
 obtain ⟨V,hV⟩:∃ V,V=((w.alloc (.cells #[.int .i64 ca,.slice ka nk kc] 30)).alloc (.cells #[.int .i64 cb,.slice kb nm kd] 30)):=⟨_,rfl⟩
 have z1:=hx1.cell 1
 have z2:=hx2.cell 1
 rw [←hV] at hb1 hx1 hx2 hsz
 have HV:=Lib.hid hV
 have HBV:=Lib.hid hb1
 have HX1:=Lib.hid hx1
 have HX2:=Lib.hid hx2
 have HSZ:=Lib.hid hsz
 have HR:=Lib.hid hr
 have HL:=Lib.hid hl
 have HO:=Lib.hid ho
 have HKL:=Lib.hid hkl
 have HKA:=Lib.hid hka
 have HKM:=Lib.hid hkm
 have HKB:=Lib.hid hkb
 have hnc:n≤c:=by have:=hr.1;omega
 have hc63:=hr.2.1
 clear hb1 hx1 hx2 hsz hV hr hl ho hkl hka hkm hkb
 by_cases hn:10<n
 ·have d1:decide ((10:Int)<(n:Int))=true:=decide_eq_true (by omega)
  go_enter Try.func4,Try.ntmps4
  go_wp2_with fail
  rw [←HV.out]
  go_ret
  exact ⟨rfl,HBV.out⟩
 have d1:decide ((10:Int)<(n:Int))=false:=decide_eq_false (by omega)
 by_cases h2:100<nk
 ·have d2:decide ((100:Int)<(nk:Int))=true:=decide_eq_true (by omega)
  go_enter Try.func4,Try.ntmps4
  go_wp2_with fail
  rw [←HV.out]
  go_ret
  exact ⟨rfl,HBV.out⟩
 have d2:decide ((100:Int)<(nk:Int))=false:=decide_eq_false (by omega)
 by_cases h3:100<nm
 ·have d3:decide ((100:Int)<(nm:Int))=true:=decide_eq_true (by omega)
  go_enter Try.func4,Try.ntmps4
  go_wp2_with fail
  rw [←HV.out]
  go_ret
  exact ⟨rfl,HBV.out⟩
 have d3:decide ((100:Int)<(nm:Int))=false:=decide_eq_false (by omega)
 go_enter Try.func4,Try.ntmps4
 go_wp2_with fail
 rw [←HV.out]
 refine (whole_any V A c n l HL.out (HR.out.under HBV.out) (by omega)).mono ?_
 rintro e w1 ⟨A1,c1,l1,rfl,hl1,hwv,hr1,hb1⟩
 have HL1:=Lib.hid hl1
 have HWV:=Lib.hid hwv
 have HR1:=Lib.hid hr1
 have HBV1:=Lib.hid hb1
 have HB1:=Lib.hid (HBV.out.trans (hb1.mono HBV.out.size))
 have HBOX:Hid (∀ W,Below w1.heap.size w1 W→W.cell? ⟨w.heap.size,0,none⟩=some (.int .i64 ca)∧W.cell? ⟨w.heap.size,1,none⟩=some (.slice ka nk kc)∧W.cell? ⟨w.heap.size+1,0,none⟩=some (.int .i64 cb)∧W.cell? ⟨w.heap.size+1,1,none⟩=some (.slice kb nm kd)):=Lib.hid fun W hW=>by
  have hlt:=HSZ.out
  have h1:Holds W w.heap.size 30 #[.int .i64 ca,.slice ka nk kc]:=(hW.block _ (by have:=hb1.size;omega)).trans ((hb1.block _ (by omega)).trans HX1.out)
  have h2:Holds W (w.heap.size+1) 30 #[.int .i64 cb,.slice kb nm kd]:=(hW.block _ (by have:=hb1.size;omega)).trans ((hb1.block _ (by omega)).trans HX2.out)
  exact ⟨h1.cell 0,h1.cell 1,h2.cell 0,h2.cell 1⟩
 clear hl1 hwv hr1 hb1 z1 z2 HV HX1 HX2 d1 d2 d3 HBV1
 have hnew:=new_yes w1 170 (by omega) (by omega)
 rw [show ((170:Nat):Int)=170 from rfl] at hnew
 have HNEW:=Lib.hid hnew
 clear hnew
 go_wp2_with fail
 refine HNEW.out.mono ?_
 rintro e w2 ⟨gd,rfl,hd2,hb2⟩
 have HD2:=Lib.hid hd2
 have HB2:=Lib.hid hb2
 have hrew:=rnew_yes w2 170 (by omega) (by omega)
 rw [show ((170:Nat):Int)=170 from rfl] at hrew
 have HREW:=Lib.hid hrew
 clear hd2 hb2 HNEW hrew
 go_wp2_with fail
 refine HREW.out.mono ?_
 rintro e w3 ⟨rfl,hp⟩
 have HT3:=Lib.hid (two_new HD2.out HB2.out hp)
 clear hp HREW HD2 HB2
 generalize w2.heap.size=gx at *
 obtain ⟨wa,hcv,hba,hra⟩:=run_old w3
 have HBa:=Lib.hid hba
 have HRa:=Lib.hid hra
 clear hba hra
 go_wp2_with fail
 refine (sectorR wa _ 3 3 _ rfl HRa.out).mono ?_
 rintro e wb ⟨rfl,hrow,hrb,hbb⟩
 have HSa:Hid (Rd .u8 wb wb.heap.size (some ⟨wa.heap.size,0,none⟩) 64 secOld∧wa.heap.size<wb.heap.size):=Lib.hid ⟨hrb,Holds.lt hrow⟩
 have HBb:=Lib.hid (HBa.out.trans (hbb.mono HBa.out.size))
 clear hrow hrb hbb hcv HRa
 obtain ⟨wc,hcv,hbc,hrc⟩:=run_five wb
 have HBc:=Lib.hid hbc
 have HRc:=Lib.hid hrc
 clear hbc hrc
 go_wp2_with fail
 refine (sectorR wc _ 4 4 _ rfl HRc.out).mono ?_
 rintro e wd ⟨rfl,hrow,hrd,hbd⟩
 have HSb:Hid (Rd .u8 wd wd.heap.size (some ⟨wc.heap.size,0,none⟩) 64 secFive∧wc.heap.size<wd.heap.size):=Lib.hid ⟨hrd,Holds.lt hrow⟩
 have HBd:=Lib.hid (HBc.out.trans (hbd.mono HBc.out.size))
 clear hrow hrd hbd hcv HRc
 obtain ⟨W4,hW4⟩:∃ W4,W4=wd.alloc (.cells #[.int .i64 0,.slice (some ⟨wa.heap.size,0,none⟩) 64 64,.int .i64 5,.slice (some ⟨wc.heap.size,0,none⟩) 64 64] 42):=⟨_,rfl⟩
 have HW4:=Lib.hid hW4
 have hb4:Below wd.heap.size wd W4:=by rw [hW4];exact (Below.refl _ _).alloc (Nat.le_refl _) _
 have hs4:W4.heap.size=wd.heap.size+1:=by rw [hW4];simp
 have hro:RdWr (some ⟨wd.heap.size,0,none⟩) 2 [Wr.mk 0 (some ⟨wa.heap.size,0,none⟩) 64 secOld,Wr.mk 5 (some ⟨wc.heap.size,0,none⟩) 64 secFive] W4:=by
  rw [hW4]
  exact (RdWrG.made (V:=wd) (B:=0) (Nat.zero_le _) [Wr.mk 0 (some ⟨wa.heap.size,0,none⟩) 64 secOld,Wr.mk 5 (some ⟨wc.heap.size,0,none⟩) 64 secFive] (fun x hx=>by
   rcases List.mem_cons.1 hx with rfl | hx
   ·exact ⟨(HSa.out.1.under HBd.out).more HBd.out.size,fun b o e=>Nat.zero_le _⟩
   ·rw [List.mem_singleton.1 hx]
    exact ⟨HSb.out.1,fun b o e=>Nat.zero_le _⟩) (by simp) #[.int .i64 0,.slice (some ⟨wa.heap.size,0,none⟩) 64 64,.int .i64 5,.slice (some ⟨wc.heap.size,0,none⟩) 64 64] rfl 42 (0,0)).rd
 have hbY:Below w3.heap.size w3 W4:=HBb.out.trans ((HBd.out.trans (hb4.mono HBd.out.size)).mono HBb.out.size)
 have hz1:=HBa.out.size
 have hz2:=HSa.out.2
 have hz3:=HBc.out.size
 have hz4:=HSb.out.2
 have hz5:=HBb.out.size
 have hz6:=HBd.out.size
 go_wp2_with fail
 rw [←HW4.out]
 obtain ⟨go,hgo⟩:∃ g,g=wd.heap.size:=⟨_,rfl⟩
 obtain ⟨sa,hsa⟩:∃ g,g=wa.heap.size:=⟨_,rfl⟩
 obtain ⟨sb,hsb⟩:∃ g,g=wc.heap.size:=⟨_,rfl⟩
 rw [←hgo,←hsa,←hsb] at hro
 rw [←hgo,←hsa,←hsb]
 have g1:w3.heap.size≤go:=by omega
 have g2:go<W4.heap.size:=by omega
 have g3:w3.heap.size≤sa:=by omega
 have g4:sa<W4.heap.size:=by omega
 have g5:w3.heap.size≤sb:=by omega
 have g6:sb<W4.heap.size:=by omega
 clear HBa HSa HBb HBc HSb HBd HW4 hW4 hb4 hs4 hz1 hz2 hz3 hz4 hz5 hz6 hgo hsa hsb
 obtain ⟨G,hG⟩:∃ G:Nat→Prop,G=fun k=>w3.heap.size≤k∧k<W4.heap.size:=⟨_,rfl⟩
 have HT_W4:Hid (TwoG W4 w1.heap.size G gd (fresh 170) gx (fresh 170)):=Lib.hid (TwoG.of HT3.out.1 hbY fun k hk=>by rw [hG] at hk;exact hk)
 have HQ_W4:Hid (Below w1.heap.size w1 W4):=Lib.hid (HT3.out.2.trans (hbY.mono HT3.out.2.size))
 have HK_W4:Hid True:=Lib.hid trivial
 have HRO:=Lib.hid hro
 have HOG:Hid (∀ W,W4.heap.size≤W.heap.size→(∀ k,G k→W.heap[k]?=W4.heap[k]?)→∀ F:Nat→Prop,(∀ k,F k→w1.heap.size≤k∧¬ G k)→OffF F (RdWr (some ⟨go,0,none⟩) 2 [Wr.mk 0 (some ⟨sa,0,none⟩) 64 secOld,Wr.mk 5 (some ⟨sb,0,none⟩) 64 secFive]) W):=Lib.hid fun W hs hk F hF=>by
  have hGG:∀ g,(g=go∨g=sa∨g=sb)→G g:=fun g hg=>by rw [hG];rcases hg with rfl | rfl | rfl <;> exact ⟨by assumption,by assumption⟩
  refine hro.offG (fun g hg=>hGG g (.inl ?_)) (fun x hx g hg=>hGG g (.inr ?_)) hs hk (fun k hk2=>by rw [hG] at hk2;exact hk2.2) F hF
  ·simpa [blockOf] using hg.symm
  ·rcases List.mem_cons.1 hx with rfl | hx
   ·exact .inl (by simpa [blockOf] using hg.symm)
   ·rw [List.mem_singleton.1 hx] at hg
    exact .inr (by simpa [blockOf] using hg.symm)
 have HGX:Hid (w1.heap.size≤gx∧w1.heap.size≤gd∧gx<w3.heap.size):=Lib.hid ⟨HT3.out.1.pos.2.1,HT3.out.1.pos.1,HT3.out.1.pos.2.2⟩
 have HOX:Hid (∀ x∈[Wr.mk 0 (some ⟨sa,0,none⟩) 64 secOld,Wr.mk 5 (some ⟨sb,0,none⟩) 64 secFive],0<x.d.length→∀ g,blockOf x.da=some g→g≠gx):=Lib.hid fun x hx _ g hg=>by
  have:=HGX.out.2.2
  rcases List.mem_cons.1 hx with rfl | hx
  ·have e:sa=g:=by simpa [blockOf] using hg
   omega
  ·rw [List.mem_singleton.1 hx] at hg
   have e:sb=g:=by simpa [blockOf] using hg
   omega
 clear hbY hro g1 g2 g3 g4 g5 g6 HT3
 obtain ⟨f1,f2,f3,f4,f5⟩:=kA_facts
 have HF1:=Lib.hid f1
 have HF2:=Lib.hid f2
 have HST:=Lib.hid (And.intro f3 (And.intro f4 f5))
 have hF170:(fresh 170).now.length=170:=List.length_replicate
 have HF170:=Lib.hid hF170
 clear f1 f2 f3 f4 f5 hF170
 have HZ_W4:Hid (W4.heap.size≤W4.heap.size):=Lib.hid (Nat.le_refl _)
 go_wp2_with fail
 refine (twg_format1 HT_W4.out (by simp [fresh]) (by simp [fresh])).mono ?_
 rintro e w5 ⟨rfl,ht,hb,hk⟩
 rw [HF1.out]
 replace ht:TwoG w5 w1.heap.size G gd kA0 gx (fresh 170):=ht
 have HT_w5:=Lib.hid ht
 have HQ_w5:=Lib.hid (HQ_W4.out.trans hb)
 have HZ_w5:Hid (W4.heap.size≤w5.heap.size):=Lib.hid (Nat.le_trans HZ_W4.out hb.size)
 have HK_w5:Hid (∀ k,G k→w5.heap[k]?=W4.heap[k]?):=Lib.hid fun k hg=>hk k hg
 clear ht hb hk HT_W4 HK_W4 HZ_W4
 go_wp2_with fail
 refine (twg_commit1 HT_w5.out (some ⟨go,0,none⟩) 2 2 [Wr.mk 0 (some ⟨sa,0,none⟩) 64 secOld,Wr.mk 5 (some ⟨sb,0,none⟩) 64 secFive] rfl (HOG.out w5 HZ_w5.out HK_w5.out) (by omega) (by have:=kA0_small;omega) (by have:=kA0_small;omega)).mono ?_
 rintro e w6 ⟨rfl,ht,hb,hk⟩
 have e9:wv [Wr.mk 0 (some ⟨sa,0,none⟩) 64 secOld,Wr.mk 5 (some ⟨sb,0,none⟩) 64 secFive]=oldL:=rfl
 rw [e9] at ht ⊢
 rw [HF2.out]
 replace ht:TwoG w6 w1.heap.size G gd kA gx (fresh 170):=ht
 clear e9
 have HT_w6:=Lib.hid ht
 have HQ_w6:=Lib.hid (HQ_w5.out.trans hb)
 have HZ_w6:Hid (W4.heap.size≤w6.heap.size):=Lib.hid (Nat.le_trans HZ_w5.out hb.size)
 have HK_w6:Hid (∀ k,G k→w6.heap[k]?=W4.heap[k]?):=Lib.hid fun k hg=>(hk k hg).trans (HK_w5.out k hg)
 clear ht hb hk HT_w5 HK_w5 HZ_w5
 go_wp2_with fail
 refine (twg_format2 HT_w6.out (by rw [HF170.out];omega) (by simp [fresh]) (by simp [fresh])).mono ?_
 rintro e w7 ⟨rfl,ht,hb,hk⟩
 rw [HF1.out]
 replace ht:TwoG w7 w1.heap.size G gd kA gx kA0:=ht
 have HT_w7:=Lib.hid ht
 have HQ_w7:=Lib.hid (HQ_w6.out.trans hb)
 have HZ_w7:Hid (W4.heap.size≤w7.heap.size):=Lib.hid (Nat.le_trans HZ_w6.out hb.size)
 have HK_w7:Hid (∀ k,G k→w7.heap[k]?=W4.heap[k]?):=Lib.hid fun k hg=>(hk k hg).trans (HK_w6.out k hg)
 clear ht hb hk HT_w6 HK_w6 HZ_w6
 go_wp2_with fail
 refine (twg_commit2 HT_w7.out (some ⟨go,0,none⟩) 2 2 [Wr.mk 0 (some ⟨sa,0,none⟩) 64 secOld,Wr.mk 5 (some ⟨sb,0,none⟩) 64 secFive] rfl (HOG.out w7 HZ_w7.out HK_w7.out) HOX.out (by omega) (by have:=kA0_small;omega) (by have:=kA0_small;omega)).mono ?_
 rintro e w8 ⟨rfl,ht,hb,hk⟩
 have e9:wv [Wr.mk 0 (some ⟨sa,0,none⟩) 64 secOld,Wr.mk 5 (some ⟨sb,0,none⟩) 64 secFive]=oldL:=rfl
 rw [e9] at ht ⊢
 rw [HF2.out]
 replace ht:TwoG w8 w1.heap.size G gd kA gx kA:=ht
 clear e9
 have HT_w8:=Lib.hid ht
 have HQ_w8:=Lib.hid (HQ_w7.out.trans hb)
 have HZ_w8:Hid (W4.heap.size≤w8.heap.size):=Lib.hid (Nat.le_trans HZ_w7.out hb.size)
 have HK_w8:Hid (∀ k,G k→w8.heap[k]?=W4.heap[k]?):=Lib.hid fun k hg=>(hk k hg).trans (HK_w7.out k hg)
 clear ht hb hk HT_w7 HK_w7 HZ_w7
 go_wp2_with fail
 refine (twg_restart1 HT_w8.out (by have:=kA_small;omega)).mono ?_
 rintro e w9 ⟨rfl,ht,hb,hk⟩
 have HT_w9:=Lib.hid ht
 have HQ_w9:=Lib.hid (HQ_w8.out.trans hb)
 have HZ_w9:Hid (W4.heap.size≤w9.heap.size):=Lib.hid (Nat.le_trans HZ_w8.out hb.size)
 have HK_w9:Hid (∀ k,G k→w9.heap[k]?=W4.heap[k]?):=Lib.hid fun k hg=>(hk k hg).trans (HK_w8.out k hg)
 clear ht hb hk HT_w8 HK_w8 HZ_w8
 obtain ⟨b0,b1,_,_⟩:=HBOX.out w9 HQ_w9.out
 go_wp2_with fail
 refine (twg_arm1 HT_w9.out ca ka kc nk kl HKL.out (HKA.out.under (HB1.out.trans (HQ_w9.out.mono HB1.out.size))) (by omega) (fun h0 g hg=>by have h1:=(HKA.out).lt h0 g hg;have h2:=HGX.out;have h3:=HB1.out.size;omega)).mono ?_
 rintro e w10 ⟨rfl,ht,hb,hk⟩
 have HT_w10:=Lib.hid ht
 have HQ_w10:=Lib.hid (HQ_w9.out.trans hb)
 have HZ_w10:Hid (W4.heap.size≤w10.heap.size):=Lib.hid (Nat.le_trans HZ_w9.out hb.size)
 have HK_w10:Hid (∀ k,G k→w10.heap[k]?=W4.heap[k]?):=Lib.hid fun k hg=>(hk k hg).trans (HK_w9.out k hg)
 clear ht hb hk HT_w9 HK_w9 HZ_w9
 clear b0 b1
 have HEND:=Lib.hid (all_end (P:=wasP) (L:=wv l1) HST.out.1 HST.out.2.1 HST.out.2.2 (by omega) (by omega) (by rw [wv_length,HL1.out];omega) ca cb kl km)
 have HOL:Hid (∀ p∈wv l1,Oct1 p.2):=Lib.hid fun p hp=>by
  rw [HWV.out] at hp
  obtain ⟨q,hq,rfl⟩:=List.mem_map.1 hp
  obtain ⟨x,hx,rfl⟩:=List.mem_map.1 hq
  exact secOf_oct (HO.out x hx)
 obtain ⟨q,hq⟩:∃ q,q=(kA.restart.arm ca kl).commit (wv l1):=⟨_,rfl⟩
 obtain ⟨x,hx⟩:∃ x,x=kA.commit (wv l1):=⟨_,rfl⟩
 have HCM1:=Lib.hid (twg_commit1 HT_w10.out A1 c1 n l1 HL1.out (fun F hF=>HR1.out.offLow HQ_w10.out F fun k hk=>(hF k hk).1) (by omega) (Nat.zero_le _) (Nat.zero_le _))
 rw [←hq] at HCM1 HEND
 rw [←hx] at HEND
 have HQF:Hid (q.1.Sound∧q.1.Oct∧q.1.waits.length≤200∧q.1.ops≤200):=Lib.hid (by
  have h1:=commit_le (kA.restart.arm ca kl) (wv l1) (by rw [wv_length,HL1.out];omega)
  rw [←hq] at h1
  have h2:(kA.restart.arm ca kl).waits.length=0:=rfl
  have h3:(kA.restart.arm ca kl).ops=0:=rfl
  refine ⟨?_,?_,by omega,by omega⟩
  ·rw [hq];exact commit_sound (HST.out.1.1.restart.arm ca kl) _
  ·rw [hq];exact (kA_oct.restart.arm ca kl).commit HOL.out)
 have HXF:Hid (x.1.Sound∧x.1.Oct∧x.1.waits.length≤600∧x.1.now.length=170):=Lib.hid (by
  have h1:=commit_le kA (wv l1) (by rw [wv_length,HL1.out];omega)
  rw [←hx] at h1
  have h2:=kA_small
  refine ⟨?_,?_,by omega,?_⟩
  ·rw [hx];exact commit_sound HST.out.1.1 _
  ·rw [hx];exact kA_oct.commit HOL.out
  ·rw [hx,commit_now];exact HST.out.2.2.len)
 have HXH:=Lib.hid hx
 clear hq hx
 obtain ⟨s2,e1⟩:=q
 dsimp only at *
 go_wp2_with fail
 refine (HCM1.out).mono ?_
 rintro e w11 ⟨rfl,ht,hb,hk⟩
 have HT_w11:=Lib.hid ht
 have HQ_w11:=Lib.hid (HQ_w10.out.trans hb)
 have HZ_w11:Hid (W4.heap.size≤w11.heap.size):=Lib.hid (Nat.le_trans HZ_w10.out hb.size)
 have HK_w11:Hid (∀ k,G k→w11.heap[k]?=W4.heap[k]?):=Lib.hid fun k hg=>(hk k hg).trans (HK_w10.out k hg)
 clear ht hb hk HT_w10 HK_w10 HZ_w10
 clear HCM1
 have HCM2:=Lib.hid (twg_commit2 HT_w11.out A1 c1 n l1 HL1.out (fun F hF=>HR1.out.offLow HQ_w11.out F fun k hk=>(hF k hk).1) (fun x hx h0 g hg=>by
  obtain ⟨i,hi,rfl⟩:=List.getElem_of_mem hx
  have h1:=HR1.out.2.2.1 i hi
  rw [show l1.getD i default=l1[i] by simp [List.getD,hi]] at h1
  have h2:=h1.lt h0 hg
  have:=HGX.out
  omega) (by omega) (by have:=kA_small;omega) (by have:=kA_small;omega))
 rw [←HXH.out] at HCM2
 clear HXH
 obtain ⟨x2,f⟩:=x
 dsimp only at *
 go_wp2_with fail
 refine (HCM2.out).mono ?_
 rintro e w12 ⟨rfl,ht,hb,hk⟩
 have HT_w12:=Lib.hid ht
 have HQ_w12:=Lib.hid (HQ_w11.out.trans hb)
 have HZ_w12:Hid (W4.heap.size≤w12.heap.size):=Lib.hid (Nat.le_trans HZ_w11.out hb.size)
 have HK_w12:Hid (∀ k,G k→w12.heap[k]?=W4.heap[k]?):=Lib.hid fun k hg=>(hk k hg).trans (HK_w11.out k hg)
 clear ht hb hk HT_w11 HK_w11 HZ_w11
 clear HCM2
 have hef:(((e1:Int) != 6)=false)∨(((e1:Int) != 6)=true∧((e1:Int) != (f:Int))=false):=by
  by_cases h6:e1=6
  ·exact .inl (by rw [h6];rfl)
  ·rcases HEND.out.1 with h | h
   ·exact absurd h h6
   ·exact .inr ⟨by rw [bne_iff_ne];omega,by rw [h];simp⟩
 have HEF:=Lib.hid hef
 clear hef
 rcases HEF.out with n6 | ⟨n6,nf⟩
 all_goals
  go_wp2_with fail
  refine (twg_restart1 HT_w12.out (by have:=HQF.out.2.2.1;omega)).mono ?_
  rintro e w13 ⟨rfl,ht,hb,hk⟩
  have HT_w13:=Lib.hid ht
  have HQ_w13:=Lib.hid (HQ_w12.out.trans hb)
  have HZ_w13:Hid (W4.heap.size≤w13.heap.size):=Lib.hid (Nat.le_trans HZ_w12.out hb.size)
  have HK_w13:Hid (∀ k,G k→w13.heap[k]?=W4.heap[k]?):=Lib.hid fun k hg=>(hk k hg).trans (HK_w12.out k hg)
  clear ht hb hk HT_w12 HK_w12 HZ_w12
  obtain ⟨_,_,b0,b1⟩:=HBOX.out w13 HQ_w13.out
  go_wp2_with fail
  refine (twg_arm1 HT_w13.out cb kb kd nm km HKM.out (HKB.out.under (HB1.out.trans (HQ_w13.out.mono HB1.out.size))) (by omega) (fun h0 g hg=>by have h1:=(HKB.out).lt h0 g hg;have h2:=HGX.out;have h3:=HB1.out.size;omega)).mono ?_
  rintro e w14 ⟨rfl,ht,hb,hk⟩
  have HT_w14:=Lib.hid ht
  have HQ_w14:=Lib.hid (HQ_w13.out.trans hb)
  have HZ_w14:Hid (W4.heap.size≤w14.heap.size):=Lib.hid (Nat.le_trans HZ_w13.out hb.size)
  have HK_w14:Hid (∀ k,G k→w14.heap[k]?=W4.heap[k]?):=Lib.hid fun k hg=>(hk k hg).trans (HK_w13.out k hg)
  clear ht hb hk HT_w13 HK_w13 HZ_w13
  clear b0 b1
  obtain ⟨o1,ho1⟩:∃ o1,o1=(s2.restart.arm cb km).open_:=⟨_,rfl⟩
  have hs14:=HQF.out.1.restart.arm cb km
  have ho14:=HQF.out.2.1.restart.arm cb km
  have HOP1:=Lib.hid (twg_open1 HT_w14.out (fun i=>ho14.read hs14 _) (Nat.zero_le _) (Nat.zero_le _))
  rw [←ho1] at HOP1 HEND
  have HOF:Hid (o1.1.Sound∧o1.1.Oct∧o1.1.waits.length≤200):=Lib.hid (by
   have h1:=open_le (s2.restart.arm cb km)
   rw [←ho1] at h1
   have h2:(s2.restart.arm cb km).waits.length=0:=rfl
   refine ⟨?_,?_,by omega⟩
   ·rw [ho1];exact open_sound hs14
   ·rw [ho1];exact ho14.open_ hs14)
  clear ho1 hs14 ho14
  obtain ⟨s4,e4⟩:=o1
  dsimp only at *
  go_wp2_with fail
  refine (HOP1.out).mono ?_
  rintro e w15 ⟨rfl,ht,hb,hk⟩
  have HT_w15:=Lib.hid ht
  have HQ_w15:=Lib.hid (HQ_w14.out.trans hb)
  have HZ_w15:Hid (W4.heap.size≤w15.heap.size):=Lib.hid (Nat.le_trans HZ_w14.out hb.size)
  have HK_w15:Hid (∀ k,G k→w15.heap[k]?=W4.heap[k]?):=Lib.hid fun k hg=>(hk k hg).trans (HK_w14.out k hg)
  clear ht hb hk HT_w14 HK_w14 HZ_w14
  clear HOP1
  go_wp2_with fail
  refine (twg_restart1 HT_w15.out (by have:=HOF.out.2.2;omega)).mono ?_
  rintro e w16 ⟨rfl,ht,hb,hk⟩
  have HT_w16:=Lib.hid ht
  have HQ_w16:=Lib.hid (HQ_w15.out.trans hb)
  have HZ_w16:Hid (W4.heap.size≤w16.heap.size):=Lib.hid (Nat.le_trans HZ_w15.out hb.size)
  have HK_w16:Hid (∀ k,G k→w16.heap[k]?=W4.heap[k]?):=Lib.hid fun k hg=>(hk k hg).trans (HK_w15.out k hg)
  clear ht hb hk HT_w15 HK_w15 HZ_w15
  obtain ⟨o2,ho2⟩:∃ o2,o2=s4.restart.open_:=⟨_,rfl⟩
  have hs16:=HOF.out.1.restart
  have ho16:=HOF.out.2.1.restart
  have HOP2:=Lib.hid (twg_open1 HT_w16.out (fun i=>ho16.read hs16 _) (Nat.zero_le _) (Nat.zero_le _))
  rw [←ho2] at HOP2 HEND
  have HZF:Hid (o2.1.Sound∧o2.1.Oct):=Lib.hid (by rw [ho2];exact ⟨open_sound hs16,ho16.open_ hs16⟩)
  clear ho2 hs16 ho16
  obtain ⟨z,e6⟩:=o2
  dsimp only at *
  obtain rfl:e6=0:=HEND.out.2.1
  go_wp2_with fail
  refine (HOP2.out).mono ?_
  rintro e W9 ⟨rfl,ht,hb,hk⟩
  have HT_W9:=Lib.hid ht
  have HQ_W9:=Lib.hid (HQ_w16.out.trans hb)
  have HZ_W9:Hid (W4.heap.size≤W9.heap.size):=Lib.hid (Nat.le_trans HZ_w16.out hb.size)
  have HK_W9:Hid (∀ k,G k→W9.heap[k]?=W4.heap[k]?):=Lib.hid fun k hg=>(hk k hg).trans (HK_w16.out k hg)
  clear ht hb hk HT_w16 HK_w16 HZ_w16
  clear HOP2
  have hzl:z.now.length=170:=HEND.out.2.2.1
  have hzm:z.many=13:=by unfold Dk.many;rw [hzl]
  have HMN:Hid (∀ W,Below W9.heap.size W9 W→Calls Try.prog 28 #[.pointer (some ⟨gd,0,none⟩)] W fun e w'=>e = .returned (.int .i64 13)∧W=w'):=Lib.hid fun W hW=>by
   have h1:=(HT_W9.out.under hW).to.jmany
   rw [hzm] at h1
   exact h1
  have HRZ:Hid (∀ W,Below W9.heap.size W9 W→∀ i:Nat,i<13→Calls Try.prog 29 #[.pointer (some ⟨gd,0,none⟩),.int .i64 (i:Int)] W fun e w'=>∃ A c,e = .returned (.slice A 64 c)∧Rd .u8 w' w'.heap.size A c (z.now.getD (157+i) [])∧Below W.heap.size W w'):=Lib.hid fun W hW i hi=>by
   have h64:=HT_W9.out.to.sect (157+i) (by rw [hzl];omega)
   have hT:=HT_W9.out.under hW
   obtain ⟨_,_,F1,F2,d,_,_⟩:=hT
   have h1:=jread d (i:Int)
   have e9:(if 0≤(i:Int)∧(i:Int)<(z.many:Int) then z.read (157+(i:Int)) else [])=z.now.getD (157+i) []:=by
    rw [if_pos ⟨by omega,by rw [hzm];omega⟩,show (157+(i:Int))=((157+i:Nat):Int) by omega,Dk.read_now]
   rw [e9] at h1
   rw [Dk.read_now] at h64
   refine h1.mono ?_
   rintro e w' ⟨A,n,c,rfl,hn,hr,hb⟩
   rw [h64] at hn
   subst hn
   exact ⟨A,c,rfl,hr,hb⟩
  have HRX:Hid (∀ W,Below W9.heap.size W9 W→∀ i:Nat,i<13→Calls Try.prog 30 #[.pointer (some ⟨gx,0,none⟩),.int .i64 (i:Int)] W fun e w'=>∃ A c,e = .returned (.slice A 64 c)∧Rd .u8 w' w'.heap.size A c (x2.now.getD (157+i) [])∧Below W.heap.size W w'):=Lib.hid fun W hW i hi=>by
   have hT:=HT_W9.out.under hW
   obtain ⟨_,_,F1,F2,_,r,_⟩:=hT
   have hxl:=HXF.out.2.2.2
   have h1:=rread'_any r (by have:=HXF.out.2.2.1;omega) i (by unfold Dk.many;omega) (r.sect (by omega))
   rw [Dk.read_now] at h1
   exact h1
  have HL64:Hid ((∀ i,i<13→(z.now.getD (157+i) []).length=64)∧∀ i,i<13→(x2.now.getD (157+i) []).length=64):=Lib.hid ⟨fun i hi=>by
   have h64:=HT_W9.out.to.sect (157+i) (by rw [hzl];omega)
   rwa [Dk.read_now] at h64,fun i hi=>by
   obtain ⟨_,_,F1,F2,_,r,_⟩:=HT_W9.out
   have hxl:=HXF.out.2.2.2
   have h64:=r.sect (i:=157+i) (by omega)
   rwa [Dk.read_now] at h64⟩
  have HOC:Hid ((∀ i,Oct1 (z.now.getD (157+i) []))∧∀ i,Oct1 (x2.now.getD (157+i) [])):=Lib.hid ⟨fun i=>by
   have h1:=HZF.out.2.read HZF.out.1 ((157+i:Nat):Int)
   rwa [Dk.read_now] at h1,fun i=>by
   have h1:=HXF.out.2.1.read HXF.out.1 ((157+i:Nat):Int)
   rwa [Dk.read_now] at h1⟩
  have HOLD:Hid (∀ W,Below W9.heap.size W9 W→RdWr (some ⟨go,0,none⟩) 2 [Wr.mk 0 (some ⟨sa,0,none⟩) 64 secOld,Wr.mk 5 (some ⟨sb,0,none⟩) 64 secFive] W):=Lib.hid fun W hW=>(HOG.out W (Nat.le_trans HZ_W9.out hW.size) (fun k hk=>(hW.block k (HT_W9.out.1 k hk)).trans (HK_W9.out k hk)) (fun _=>False) (fun k h=>h.elim)).at_
  have HFIN:Hid ((∀ i,i<13→z.now.getD (157+i) []=x2.now.getD (157+i) [])∨(e1≠0∧∀ i,i<13→z.now.getD (157+i) []=wasP i)):=Lib.hid (by
   rcases HEND.out.2.2.2 with h | ⟨h,h2⟩
   ·exact .inl fun i hi=>h i (by omega)
   ·exact .inr ⟨h,fun i hi=>(h2 i (by omega)).trans (HST.out.2.2.pl i (by omega))⟩)
  have HBW:Hid (Below w.heap.size w W9):=Lib.hid (HB1.out.trans (HQ_W9.out.mono HB1.out.size))
  clear hzl hzm HEND HT_W9 HK_W9 HZ_W9 HQ_W9 HOG HOX HXF HZF HQF HOF HST HRO HGX HBOX HF170 HF1 HF2 HR1 HWV HL1 HOL HKA HKB HKL HKM HQ_W4 HQ_w5 HQ_w6 HQ_w7 HQ_w8 HQ_w9 HQ_w10 HQ_w11 HQ_w12 HQ_w13 HQ_w14 HQ_w15 HQ_w16 HEF HR HL HO HSZ HBV HB1
  go_wp2_with fail
  go_loopw [13,14,15] (fun sw si sx wr=>∃ (i:Nat) (bi bw:Bool),i≤13∧sw = .bool bw∧si = .bool bi∧sx = .int .i64 (i:Int)∧(bi=true↔∀ j,j<i→z.now.getD (157+j) []=x2.now.getD (157+j) [])∧(bw=true↔∀ j,j<i→z.now.getD (157+j) []=wasP j)∧Below W9.heap.size W9 wr) (fun _ _ sx _=>13 - (intOf sx).toNat)
  case atStart=>exact ⟨0,true,true,by omega,rfl,rfl,rfl,by simp,by simp,Below.refl _ _⟩
  case round =>
   obtain ⟨i,bi,bw,hi,rfl,rfl,rfl,hbi,hbw,hbV⟩:=hrel
   obtain ⟨V,hV⟩:∃ V,V=wr:=⟨_,rfl⟩
   subst hV
   have HBI:=Lib.hid hbi
   have HBWW:=Lib.hid hbw
   have HBV:=Lib.hid hbV
   clear hbi hbw hbV
   by_cases hlt:i<13
   case pos =>
    have hiI:(i:Int)<13:=by omega
    have hi0:(0:Int)≤(i:Int):=by omega
    have hiw:IntKind.i64.wrap ((i:Int)+1)=(i:Int)+1:=IntWalk.i64_in _ (by omega)
    obtain ⟨zb,hzb⟩:∃ b,b=str (z.now.getD (157+i) []):=⟨_,rfl⟩
    obtain ⟨zx,hzx⟩:∃ b,b=str (x2.now.getD (157+i) []):=⟨_,rfl⟩
    obtain ⟨zw,hzw⟩:∃ b,b=str (wasP i):=⟨_,rfl⟩
    have HZB:=Lib.hid hzb
    have HZX:=Lib.hid hzx
    have HZW:=Lib.hid hzw
    obtain ⟨ex,hex⟩:∃ b,b=decide (z.now.getD (157+i) []=x2.now.getD (157+i) []):=⟨_,rfl⟩
    obtain ⟨ew,hew⟩:∃ b,b=decide (z.now.getD (157+i) []=wasP i):=⟨_,rfl⟩
    have heqx:(zb.toList == zx.toList)=ex:=by rw [hzb,hzx,hex];exact eqs (HOC.out.1 i) (HOC.out.2 i)
    have heqw:(zb.toList == zw.toList)=ew:=by rw [hzb,hzw,hew];exact eqs (HOC.out.1 i) (wasP_oct i)
    have HBI2:Hid ((bi && ex)=true↔∀ j,j<i+1→z.now.getD (157+j) []=x2.now.getD (157+j) []):=Lib.hid (by rw [hex];exact bi_step (Q:=fun j=>z.now.getD (157+j) []=x2.now.getD (157+j) []) HBI.out)
    have HBW2:Hid ((bw && ew)=true↔∀ j,j<i+1→z.now.getD (157+j) []=wasP j):=Lib.hid (by rw [hew];exact bi_step (Q:=fun j=>z.now.getD (157+j) []=wasP j) HBWW.out)
    clear hzb hzx hzw hex hew HBI HBWW
    go_wp2_with (first | (refine (HMN.out _ HBV.out).mono ?_;rintro e wq ⟨rfl,rfl⟩) | fail)
    refine (HRZ.out V HBV.out i hlt).mono ?_
    rintro e w5 ⟨A5,c5,rfl,hr5,hb5⟩
    have HB5:=Lib.hid (HBV.out.trans (hb5.mono HBV.out.size))
    have hcv:=conv_str hr5 (HL64.out.1 i hlt) (HOC.out.1 i)
    rw [←HZB.out] at hcv
    clear hr5 hb5
    cases bi
    ·go_wp2_with fail
     clear hcv
     have HZ7:=Lib.hid (sectorR w5 none 0 0 [] rfl (Rd.nil_ _ _ _))
     refine HZ7.out.mono ?_
     rintro e w7 ⟨rfl,_,hr7,hb7⟩
     rw [secOf_nil] at hr7
     have HB7:=Lib.hid (HB5.out.trans (hb7.mono HB5.out.size))
     have HR7:=Lib.hid hr7
     clear hr7 hb7 HZ7
     go_wp2_with fail
     go_loopw [17,18] (fun so sk wr=>∃ (k:Nat) (oA:Option Addr) (oc:Nat),k≤2∧so = .slice oA 64 oc∧sk = .int .i64 (k:Int)∧Rd .u8 wr wr.heap.size oA oc (oV i k)∧Below W9.heap.size W9 wr) (fun _ sk _=>2 - (intOf sk).toNat)
     case atStart=>exact ⟨0,_,_,by omega,rfl,rfl,HR7.out,HB7.out⟩
     case round =>
      obtain ⟨k,oA,oc,hk,rfl,rfl,hro,hbo⟩:=hrel
      obtain ⟨Z,hZ⟩:∃ Z,Z=wr:=⟨_,rfl⟩
      subst hZ
      have HRO:=Lib.hid hro
      have HBO:=Lib.hid hbo
      clear hro hbo
      by_cases hk2:k<2
      case pos =>
       have hkI:(k:Int)<2:=by omega
       have hk0:(0:Int)≤(k:Int):=by omega
       have hkw:IntKind.i64.wrap ((k:Int)+1)=(k:Int)+1:=IntWalk.i64_in _ (by omega)
       obtain ⟨b,off,eA,hb,hc0,hc1,hrd⟩:=(HOLD.out Z HBO.out).at_ (j:=k) hk2
       injection eA with eA
       injection eA with eA1 eA2
       subst eA1 eA2
       rw [Nat.zero_add] at hc0 hc1
       obtain ⟨x,hx⟩:∃ x:Wr,x=[Wr.mk 0 (some ⟨sa,0,none⟩) 64 secOld,Wr.mk 5 (some ⟨sb,0,none⟩) 64 secFive].getD k default:=⟨_,rfl⟩
       rw [←hx] at hc0 hc1 hrd
       have hxv:oldL.getD k default=(x.at_,x.d)∧x.d.length=64:=by
        rw [hx]
        rcases k with _ | _ | k
        ·exact ⟨rfl,secOld_len⟩
        ·exact ⟨rfl,secFive_len⟩
        ·omega
       rw [hxv.2] at hc1
       have HXV:=Lib.hid hxv
       have HRD:=Lib.hid hrd
       clear hx hrd hxv
       obtain ⟨xa,da,dc,xd⟩:=x
       dsimp only at *
       by_cases he:xa=(i:Int)
       ·have de:(xa == (i:Int))=true:=by rw [beq_iff_eq];exact he
        have HNV:Hid (oV i (k+1)=xd):=Lib.hid (by rw [oV,HXV.out.1];exact if_pos he)
        clear he
        go_wp2_with fail
        go_roundw
        case rel=>exact ⟨k+1,_,_,by omega,rfl,by go_num,by rw [HNV.out];exact HRD.out,HBO.out⟩
        case measure=>simp [intOf];omega
       ·have de:(xa == (i:Int))=false:=by rw [beq_eq_false_iff_ne];exact he
        have HNV:Hid (oV i (k+1)=oV i k):=Lib.hid (by rw [oV,HXV.out.1];exact if_neg he)
        clear he
        go_wp2_with fail
        go_roundw
        case rel=>exact ⟨k+1,_,_,by omega,rfl,by go_num,by rw [HNV.out];exact HRO.out,HBO.out⟩
        case measure=>simp [intOf];omega
      case neg =>
       obtain rfl:k=2:=by omega
       have hkI:¬ (((2:Nat):Int)<2):=by omega
       have hcv:=conv_str HRO.out (oV_len i 2 (by omega)) (by rw [oV_two];exact wasP_oct i)
       rw [oV_two,←HZW.out] at hcv
       cases bw
       ·go_wp2_with fail
        go_roundw
        case rel=>exact ⟨i+1,_,_,by omega,rfl,rfl,by go_num,by simpa using HBI2.out,by simpa using HBW2.out,HBO.out⟩
        case measure=>simp [intOf];omega
       ·go_wp2_with fail
        clear hcv
        go_roundw
        case rel=>exact ⟨i+1,_,_,by omega,rfl,rfl,by go_num,by simpa using HBI2.out,by simpa using HBW2.out,HBO.out⟩
        case measure=>simp [intOf];omega
    ·go_wp2_with fail
     clear hcv
     refine (HRX.out w5 HB5.out i hlt).mono ?_
     rintro e w6 ⟨A6,c6,rfl,hr6,hb6⟩
     have HB6:=Lib.hid (HB5.out.trans (hb6.mono HB5.out.size))
     have hcv:=conv_str hr6 (HL64.out.2 i hlt) (HOC.out.2 i)
     rw [←HZX.out] at hcv
     clear hr6 hb6
     go_wp2_with fail
     clear hcv
     have HZ7:=Lib.hid (sectorR w6 none 0 0 [] rfl (Rd.nil_ _ _ _))
     refine HZ7.out.mono ?_
     rintro e w7 ⟨rfl,_,hr7,hb7⟩
     rw [secOf_nil] at hr7
     have HB7:=Lib.hid (HB6.out.trans (hb7.mono HB6.out.size))
     have HR7:=Lib.hid hr7
     clear hr7 hb7 HZ7
     go_wp2_with fail
     go_loopw [17,18] (fun so sk wr=>∃ (k:Nat) (oA:Option Addr) (oc:Nat),k≤2∧so = .slice oA 64 oc∧sk = .int .i64 (k:Int)∧Rd .u8 wr wr.heap.size oA oc (oV i k)∧Below W9.heap.size W9 wr) (fun _ sk _=>2 - (intOf sk).toNat)
     case atStart=>exact ⟨0,_,_,by omega,rfl,rfl,HR7.out,HB7.out⟩
     case round =>
      obtain ⟨k,oA,oc,hk,rfl,rfl,hro,hbo⟩:=hrel
      obtain ⟨Z,hZ⟩:∃ Z,Z=wr:=⟨_,rfl⟩
      subst hZ
      have HRO:=Lib.hid hro
      have HBO:=Lib.hid hbo
      clear hro hbo
      by_cases hk2:k<2
      case pos =>
       have hkI:(k:Int)<2:=by omega
       have hk0:(0:Int)≤(k:Int):=by omega
       have hkw:IntKind.i64.wrap ((k:Int)+1)=(k:Int)+1:=IntWalk.i64_in _ (by omega)
       obtain ⟨b,off,eA,hb,hc0,hc1,hrd⟩:=(HOLD.out Z HBO.out).at_ (j:=k) hk2
       injection eA with eA
       injection eA with eA1 eA2
       subst eA1 eA2
       rw [Nat.zero_add] at hc0 hc1
       obtain ⟨x,hx⟩:∃ x:Wr,x=[Wr.mk 0 (some ⟨sa,0,none⟩) 64 secOld,Wr.mk 5 (some ⟨sb,0,none⟩) 64 secFive].getD k default:=⟨_,rfl⟩
       rw [←hx] at hc0 hc1 hrd
       have hxv:oldL.getD k default=(x.at_,x.d)∧x.d.length=64:=by
        rw [hx]
        rcases k with _ | _ | k
        ·exact ⟨rfl,secOld_len⟩
        ·exact ⟨rfl,secFive_len⟩
        ·omega
       rw [hxv.2] at hc1
       have HXV:=Lib.hid hxv
       have HRD:=Lib.hid hrd
       clear hx hrd hxv
       obtain ⟨xa,da,dc,xd⟩:=x
       dsimp only at *
       by_cases he:xa=(i:Int)
       ·have de:(xa == (i:Int))=true:=by rw [beq_iff_eq];exact he
        have HNV:Hid (oV i (k+1)=xd):=Lib.hid (by rw [oV,HXV.out.1];exact if_pos he)
        clear he
        go_wp2_with fail
        go_roundw
        case rel=>exact ⟨k+1,_,_,by omega,rfl,by go_num,by rw [HNV.out];exact HRD.out,HBO.out⟩
        case measure=>simp [intOf];omega
       ·have de:(xa == (i:Int))=false:=by rw [beq_eq_false_iff_ne];exact he
        have HNV:Hid (oV i (k+1)=oV i k):=Lib.hid (by rw [oV,HXV.out.1];exact if_neg he)
        clear he
        go_wp2_with fail
        go_roundw
        case rel=>exact ⟨k+1,_,_,by omega,rfl,by go_num,by rw [HNV.out];exact HRO.out,HBO.out⟩
        case measure=>simp [intOf];omega
      case neg =>
       obtain rfl:k=2:=by omega
       have hkI:¬ (((2:Nat):Int)<2):=by omega
       have hcv:=conv_str HRO.out (oV_len i 2 (by omega)) (by rw [oV_two];exact wasP_oct i)
       rw [oV_two,←HZW.out] at hcv
       cases bw
       ·go_wp2_with fail
        go_roundw
        case rel=>exact ⟨i+1,_,_,by omega,rfl,rfl,by go_num,by simpa using HBI2.out,by simpa using HBW2.out,HBO.out⟩
        case measure=>simp [intOf];omega
       ·go_wp2_with fail
        clear hcv
        go_roundw
        case rel=>exact ⟨i+1,_,_,by omega,rfl,rfl,by go_num,by simpa using HBI2.out,by simpa using HBW2.out,HBO.out⟩
        case measure=>simp [intOf];omega
   case neg =>
    obtain rfl:i=13:=by omega
    have hiI:¬ (((13:Nat):Int)<13):=by omega
    have hcase:bi=true∨(bi=false∧bw=true∧((e1:Int) != 0)=true):=by
     rcases HFIN.out with h | ⟨h1,h2⟩
     ·exact .inl (HBI.out.2 h)
     ·have h3:=HBWW.out.2 h2
      cases bi
      ·exact .inr ⟨rfl,h3,by rw [bne_iff_ne];omega⟩
      ·exact .inl rfl
    clear HBI HBWW HFIN
    rcases hcase with rfl | ⟨rfl,rfl,hne⟩
    ·go_wp2_with (first | (refine (HMN.out _ HBV.out).mono ?_;rintro e wq ⟨rfl,rfl⟩) | fail)
     refine (known2_any V).mono ?_
     rintro e wy ⟨rfl,hby⟩
     have HBy:=Lib.hid ((HBW.out.trans (HBV.out.mono HBW.out.size)).trans (hby.mono (Nat.le_trans HBW.out.size HBV.out.size)))
     clear hby
     go_wp2_with fail
     go_ret
     exact ⟨rfl,HBy.out⟩
    ·go_wp2_with (first | (refine (HMN.out _ HBV.out).mono ?_;rintro e wq ⟨rfl,rfl⟩) | fail)
     refine (known2_any V).mono ?_
     rintro e wy ⟨rfl,hby⟩
     have HBy:=Lib.hid ((HBW.out.trans (HBV.out.mono HBW.out.size)).trans (hby.mono (Nat.le_trans HBW.out.size HBV.out.size)))
     clear hby
     go_wp2_with fail
     go_ret
     exact ⟨rfl,HBy.out⟩
end Go.Proofs.Ytkmbgbbmhpidkaa
