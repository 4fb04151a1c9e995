/- Words and laws for the statement, part 15. -/
import Derived.Test.YtnedpkhehiijhaaGreatQ14
namespace Go.Proofs.YtnedpkhehiijhaaGreat
open Go.RowKit Go.WideMaps Go.Maps Go.Sort
set_option linter.unusedVariables false
set_option linter.unusedSimpArgs false
attribute [local go_sem ↓] Go.wp_at_zero Go.wp_at_succ
attribute [local go_sem] Oper.semAt_some
section
variable {w:World} {F:Nat→Prop} {gf gd:Nat} {s:Dk} {ns:List Nd}
set_option maxRecDepth 100000 in
set_option maxHeartbeats 8000000 in
theorem reckon_any (h:Fsy w F gf gd s ns) (b nn:Nat) (D:DataW Value) (vf:ByteArray→Option FV) (hm:MapF w b nn D vf) (hnn:nn≤600) (B:Nat) (fs:FateF) (hfr:FateR w B fs vf) (hB:B≤w.heap.size)
  (hok:∀ t d,fs t=some (some d)→NameOk t∧d.length≤600) :
  Calls Tryz.prog 47 #[.pointer (some ⟨gf,0,none⟩),.map (some b)] w (RckP (fun g=>∃ d∈ns,0<d.pl.length∧blockOf d.pa=some g) w (reckM (nvOf ns) fs (ksOf ((strKeys D).mergeSort leB)) (usL ns) (hasB (heldN ns)) s.many)):=by
 obtain ⟨O,hO⟩:∃ O:Nat→Prop,O=fun g=>∃ d∈ns,0<d.pl.length∧blockOf d.pa=some g:=⟨_,rfl⟩
 rw [←hO]
 have HO:=Lib.hid hO
 clear hO
 obtain ⟨R,hR⟩:∃ R,R=reckM (nvOf ns) fs (ksOf ((strKeys D).mergeSort leB)) (usL ns) (hasB (heldN ns)) s.many:=⟨_,rfl⟩
 rw [←hR]
 have HR:=Lib.hid hR
 clear hR
 have HRG:=Lib.hid h.fs.range
 have HSZ:Hid ((Tryz.prog.info? 71).map (·.size)=some (ncs ns).length):=Lib.hid (by rw [size_nodes,ncs_len,h.fs.n40])
 obtain ⟨V1,hV1⟩:∃ V1,V1=w.alloc (.cells Tryz.zeroCells99 99):=⟨_,rfl⟩
 have hb1:Below w.heap.size w V1:=by rw [hV1];exact (Below.refl _ _).alloc (Nat.le_refl _) _
 have hz1:V1.heap.size=w.heap.size+1:=by rw [hV1];simp
 have hh1:Holds V1 w.heap.size 99 Tryz.zeroCells99:=by rw [hV1];exact Holds.fresh _ _ _
 obtain ⟨V0,hV0⟩:∃ V0,V0=V1.alloc (.cells Tryz.zeroCells99 99):=⟨_,rfl⟩
 have hh0:Holds V0 V1.heap.size 99 Tryz.zeroCells99:=by rw [hV0];exact Holds.fresh _ _ _
 have hth:=hh0.there (n:=(zplan ns).toArray.size) (by rw [zcells_size,List.size_toArray,zplan_len h.fs.n40])
 obtain ⟨V2,hV2⟩:∃ V2,V2=V0.setCells V1.heap.size 0 (zplan ns).toArray.toList:=⟨_,rfl⟩
 have hb0:Below V1.heap.size V1 V0:=by rw [hV0];exact (Below.refl _ _).alloc (Nat.le_refl _) _
 have hz0:V0.heap.size=w.heap.size+2:=by rw [hV0];simp [hz1]
 have hz2:V2.heap.size=w.heap.size+2:=by rw [hV2,setCells_size,hz0]
 have hb2:Below V1.heap.size V1 V2:=⟨by rw [hV2];exact (setCells_same _ _ _ _).1.trans hb0.os,by rw [hV2];exact (setCells_same _ _ _ _).2.1.trans hb0.tape,by rw [hV2];exact (setCells_same _ _ _ _).2.2.trans hb0.output,by omega,fun k hk=>by rw [hV2,setCells_aside (by omega)];exact hb0.block k hk⟩
 have hh2:Holds V2 (w.heap.size+1) 99 (zplan ns).toArray:=by rw [hV2,←hz1];exact hh0.whole (by rw [zcells_size,zplan_len h.fs.n40])
 have HH1:Hid (Holds V2 w.heap.size 99 Tryz.zeroCells99):=Lib.hid (hh1.under hb2 hh1.lt)
 have HH2:=Lib.hid hh2
 have HRG1:Hid (V1.rangeAt gf 1 (ncs ns)):=Lib.hid (h.fs.under hb1).range
 have HBP:Hid (Tryz.prog.built 99 [(0,.agg (ncs ns).toArray)]=some (zplan ns).toArray):=Lib.hid (built_plan h.fs.n40)
 have HTH:=Lib.hid hth
 have HV0:=Lib.hid hV0
 have HZ1:=Lib.hid hz1
 have HZS:Hid ((Tryz.prog.info? 99).map (·.size)=some (zplan ns).toArray.size):=Lib.hid (zplan_size h.fs.n40)
 have HV1:=Lib.hid hV1
 have HV2:=Lib.hid hV2
 have HW2:Hid (Below w.heap.size w V2):=Lib.hid (hb1.trans (hb2.mono hb1.size))
 have HZ2:=Lib.hid hz2
 have HFS:=Lib.hid h
 have HM:=Lib.hid hm
 have HFR:=Lib.hid hfr
 have HOK:=Lib.hid hok
 clear h hm hfr hok hV1 hV2 hV0 hz0 hz1 hz2 hb0 hb1 hb2 hh0 hh1 hh2 hth
 have HM2:Hid (MapF V2 b nn D vf):=Lib.hid (HM.out.under HW2.out HM.out.lt)
 obtain ⟨V3,hrun,hrg3,hg3,hz3⟩:=HM2.out.1.range law Tryz.underlying93
 rw [HZ2.out] at hrun hrg3 hz3
 have HG3:Hid (Below V2.heap.size V2 V3):=Lib.hid ⟨hg3.os,hg3.tape,hg3.output,hg3.size,fun k hk=>hg3.block k hk (fun e=>nomatch e)⟩
 have HR3:=Lib.hid hrg3
 have HZ3:=Lib.hid hz3
 clear hg3 hrg3 hz3
 refine (callsIn_wide (n:=6)).1 ?_
 refine callsIn_of_wp_marks Tryz.func47 rfl trivial ?_ rfl
 simp only [Tryz.ntmps47,List.size_toArray,List.length_cons,List.length_nil,Nat.reduceAdd,Nat.reduceSub,Array.replicate_succ,Array.replicate_zero,List.push_toArray,List.append_toArray,List.nil_append,List.cons_append]
 refine wpIn_wide.2 ?_
 go_wp2_with (first | (rw [←HV1.out]) | (refine wpList_load_mid rfl 71 (.tmp 21) rfl gf 1 rfl (ncs ns) _ HRG1.out Tryz.underlying71 rfl HSZ.out ?_) | (rw [←HV0.out]) | (refine wpList_store_mid rfl 99 (.tmp 6) (.tmp 23) rfl V1.heap.size 0 (zplan ns).toArray rfl rfl HTH.out HZS.out (zplan_one ns) ?_;rw [←HV2.out]) | (refine wpList_built1 _ rfl 99 0 (.tmp 22) rfl (.agg (ncs ns).toArray) rfl (zplan ns).toArray HBP.out ?_) | fail)
 try rw [HZ1.out]
 clear HV0 HV1 HV2 HZ1 HTH HZS HBP HRG1 HRG HSZ
 clear hrun
 go_loopw [7] (fun si wr=>RelSum V3 b (w.heap.size+2) nn D fs si wr) (fun _ wr=>wr.rangeLeft b (w.heap.size+2))
 case atStart=>exact ⟨_,_,[],HR3.out,Collected.start D,by simp,rfl,Nat.le_refl _,Only.refl _ _⟩
 case round =>
  obtain ⟨left,cnt,ss,hrng,hcol,hsz,rfl,h10,hon⟩:=hrel
  obtain ⟨V,hV⟩:∃ V,V=wr:=⟨_,rfl⟩
  subst hV
  have HLE:=Lib.hid hrng.left_eq
  have HRN:=Lib.hid hrng
  have HCO:=Lib.hid hcol
  have HON:=Lib.hid hon
  obtain ⟨W0,hW0⟩:∃ W0,W0=wantK fs ss:=⟨_,rfl⟩
  rw [←hW0] at h10 ⊢
  have HW0:=Lib.hid hW0
  rcases hrng.next law 0 with ⟨h0,hleft,hrun⟩ | ⟨key,v,kl,y,w',cnt',hkey,hlk,hv,hat,hrun,hrng',hlt,hgr,hsz',hen⟩
  ·have hnn2:=HM2.out.1.size_le
   have hperm:=hcol.perm HM2.out.1 law Tryz.underlying9 hleft
   clear hrng hcol hon hW0
   go_wp2_with fail
   have HVW:Hid (Below w.heap.size w V):=Lib.hid (HW2.out.trans ((HG3.out.mono HW2.out.size).trans ⟨HON.out.os,HON.out.tape,HON.out.output,HON.out.size,fun k hk=>HON.out.block k (by have:=HW2.out.size;have:=HZ3.out;omega) (by omega)⟩))
   have HPM:=Lib.hid hperm
   have HVF:Hid (∀ W,Below V.heap.size V W→Fsy W F gf gd s ns):=Lib.hid fun W hW=>HFS.out.under (HVW.out.trans (hW.mono HVW.out.size))
   have HK:Hid (∀ W,Below V.heap.size V W→W.cell? ⟨gf,0,none⟩=some (.pointer (some ⟨gd,0,none⟩))):=Lib.hid fun W hW=>(HVF.out W hW).fs.hd.cell 0
   have HHE:Hid (∀ W,Below V.heap.size V W→Calls Tryz.prog 38 #[.pointer (some ⟨gf,0,none⟩)] W fun e w'=>∃ A n c,e = .returned (.slice A n c)∧(heldN ns).length=n∧RdN w' w'.heap.size A c (heldN ns)∧Below W.heap.size W w'):=Lib.hid fun W hW=>held_any W gf gd ns (HVF.out W hW).fs
   have HSM:Hid (∀ {n:Nat} j,j<n→((heldN ns).getD j default).name.size≤9223372036854775807∧((heldN ns).getD j default).size≤9223372036854775807):=Lib.hid (heldN_small HFS.out.mt.n40 HFS.out.mt.rd)
   obtain ⟨m,hmm⟩:∃ m,m=s.many:=⟨_,rfl⟩
   have HMM:=Lib.hid hmm
   have HRO:Hid (RoomOk (heldN ns) (m:Int)):=Lib.hid (by rw [hmm];exact HFS.out.mt.room)
   have HJM:Hid (∀ W,Below V.heap.size V W→Calls Tryz.prog 34 #[.pointer (some ⟨gd,0,none⟩)] W fun e w'=>e = .returned (.int .i64 (m:Int))∧W=w'):=Lib.hid fun W hW=>by rw [hmm];exact jmany (HVF.out W hW).dk
   clear hmm hperm
   refine wp_region_noPanic ?_
   refine wp_region_held_drew (S:=fun W=>Below V.heap.size V W) (by kernel_rfl) ((Below.refl _ V).drew) (fun hHeld=>?_)
   refine wpAnyH_take (i:=0) (oi:={ dst:=some 37,op:=Op.move (Operand.tmp 0),type:=27,pos:=_,after:=_,guard:=none }) (v:=?_) rfl (by kernel_rfl) (by kernel_rfl) (by kernel_rfl) (fun _ _ _ h=>h) (Or.inl ⟨by rfl,?_⟩) hHeld ?_
   rotate_left 1
   ·(intro W hW;(try dsimp only at hW);go_simp;try with_reducible rfl)
   try simp only [Act.put,List.setIfInBounds_toArray,List.set_cons_zero,List.set_cons_succ]
   refine wpAnyH_take (i:=2) (oi:={ dst:=some 39,op:=Op.move (Operand.tmp 0),type:=27,pos:=_,after:=_,guard:=none }) (v:=?_) rfl (by kernel_rfl) (by kernel_rfl) (by kernel_rfl) (fun _ _ _ h=>h) (Or.inl ⟨by rfl,?_⟩) hHeld ?_
   rotate_left 1
   ·(intro W hW;(try dsimp only at hW);go_simp;try with_reducible rfl)
   try simp only [Act.put,List.setIfInBounds_toArray,List.set_cons_zero,List.set_cons_succ]
   refine wpAnyH_take (i:=3) (oi:={ dst:=some 40,op:=Op.nilCheck (Operand.tmp 39),type:=0,pos:=_,after:=_,guard:=none }) (v:=?_) rfl (by kernel_rfl) (by kernel_rfl) (by kernel_rfl) (fun _ _ _ h=>h) (Or.inl ⟨by rfl,?_⟩) hHeld ?_
   rotate_left 1
   ·(intro W hW;(try dsimp only at hW);go_simp;try with_reducible rfl)
   try simp only [Act.put,List.setIfInBounds_toArray,List.set_cons_zero,List.set_cons_succ]
   refine wpAnyH_take (i:=4) (oi:={ dst:=some 41,op:=Op.fieldAddr 73 (Operand.tmp 40) 0,type:=0,pos:=_,after:=_,guard:=none }) (v:=?_) rfl (by kernel_rfl) (by kernel_rfl) (by kernel_rfl) (fun _ _ _ h=>h) (Or.inl ⟨by rfl,?_⟩) hHeld ?_
   rotate_left 1
   ·(intro W hW;(try dsimp only at hW);go_simp;try with_reducible rfl)
   try simp only [Act.put,List.setIfInBounds_toArray,List.set_cons_zero,List.set_cons_succ]
   refine wpAnyH_take (i:=5) (oi:={ dst:=some 42,op:=Op.load 23 (Operand.tmp 41),type:=23,pos:=_,after:=_,guard:=none }) (v:=?_) rfl (by kernel_rfl) (by kernel_rfl) (by kernel_rfl) (fun _ _ _ h=>h) (Or.inl ⟨by rfl,?_⟩) hHeld ?_
   rotate_left 1
   ·(intro W hW;have k0:=(HK.out _ hW);(try dsimp only at hW);go_simp;try with_reducible rfl)
   try simp only [Act.put,List.setIfInBounds_toArray,List.set_cons_zero,List.set_cons_succ]
   refine wpAnyH_take (i:=7) (oi:={ dst:=some 44,op:=Op.move (Operand.tmp 7),type:=3,pos:=_,after:=_,guard:=none }) (v:=?_) rfl (by kernel_rfl) (by kernel_rfl) (by kernel_rfl) (fun _ _ _ h=>h) (Or.inl ⟨by rfl,?_⟩) hHeld ?_
   rotate_left 1
   ·(intro W hW;(try dsimp only at hW);go_simp;try with_reducible rfl)
   try simp only [Act.put,List.setIfInBounds_toArray,List.set_cons_zero,List.set_cons_succ]
   refine wpAnyH_ready (rs:=[1]) (by kernel_rfl) (by simp) ?_
   refine AllReadyH.cons (o:={ dst:=some 38,op:=Op.call { callee:=Callee.value (Operand.func 38),args:=#[Operand.tmp 37],argTypes:=#[27] },type:=78,pos:=_,after:=_,guard:=none }) rfl (fun K hK=>?_) AllReadyH.nil
   go_simp
   refine (HHE.out _ hHeld).mono ?_
   rintro e W1 ⟨A1,n1,c1,rfl,hn1,hr1,hb1⟩
   have HB1:Hid (Below V.heap.size V W1):=Lib.hid (hHeld.trans (hb1.mono hHeld.size))
   have HF1:=Lib.hid (take_new W1 A1 c1 n1 (heldN ns) hn1 hr1 HSM.out m (W0:Int) HRO.out (hasB (heldN ns)) (fun x=>by rw [←hn1];exact hasB_iff _ x))
   clear hn1 hr1 hb1
   go_simp
   refine hK.out _ _ (HB1.out) (fun _=>?_)
   clear hK K hHeld
   try simp only [Act.put,List.setIfInBounds_toArray,List.set_cons_zero,List.set_cons_succ]
   have hHeld:(fun W=>Below V.heap.size V W) W1:=HB1.out
   refine wpAnyH_ready (rs:=[6]) (by kernel_rfl) (by simp) ?_
   refine AllReadyH.cons (o:={ dst:=some 43,op:=Op.call { callee:=Callee.value (Operand.func 34),args:=#[Operand.tmp 42],argTypes:=#[23] },type:=3,pos:=_,after:=_,guard:=none }) rfl (fun K hK=>?_) AllReadyH.nil
   go_simp
   refine (HJM.out _ hHeld).mono ?_
   rintro e wq ⟨rfl,rfl⟩
   go_simp
   refine hK.out _ _ hHeld (fun _=>?_)
   clear hK K
   try simp only [Act.put,List.setIfInBounds_toArray,List.set_cons_zero,List.set_cons_succ]
   refine wpAnyH_ready (rs:=[8]) (by kernel_rfl) (by simp) ?_
   refine AllReadyH.cons (o:={ dst:=some 45,op:=Op.call { callee:=Callee.value (Operand.func 83),args:=#[Operand.tmp 38,Operand.tmp 43,Operand.tmp 44],argTypes:=#[78,3,3] },type:=147,pos:=_,after:=_,guard:=none }) rfl (fun K hK=>?_) AllReadyH.nil
   go_simp
   refine HF1.out.mono ?_
   rintro e W2 ⟨A2,c2,n2,bt,rfl,hn2,hbt,hr2,hb2,hnw2⟩
   have HNF:Hid (∀ g,blockOf A2=some g→g≠w.heap.size+1):=Lib.hid fun g hg=>by have:=hnw2 g hg;have:=HB1.out.size;have:=HVW.out.size;have:=HON.out.size;have:=HZ3.out;omega
   have HB2:Hid (Below V.heap.size V W2):=Lib.hid (HB1.out.trans (hb2.mono HB1.out.size))
   have HN2:=Lib.hid hn2
   have HR2:=Lib.hid hr2
   have HBT:=Lib.hid hbt
   clear hn2 hr2 hb2 hbt hnw2
   go_simp
   refine hK.out _ _ (HB2.out) (fun _=>?_)
   clear hK K hHeld
   try simp only [Act.put,List.setIfInBounds_toArray,List.set_cons_zero,List.set_cons_succ]
   have hHeld:(fun W=>Below V.heap.size V W) W2:=HB2.out
   refine wpAnyH_take (i:=9) (oi:={ dst:=some 36,op:=Op.move (Operand.tmp 45),type:=147,pos:=_,after:=_,guard:=none }) (v:=?_) rfl (by kernel_rfl) (by kernel_rfl) (by kernel_rfl) (fun _ _ _ h=>h) (Or.inl ⟨by rfl,?_⟩) hHeld ?_
   rotate_left 1
   ·(intro W hW;(try dsimp only at hW);go_simp;try with_reducible rfl)
   try simp only [Act.put,List.setIfInBounds_toArray,List.set_cons_zero,List.set_cons_succ]
   refine wpAnyH_take (i:=10) (oi:={ dst:=some 46,op:=Op.extract (Operand.tmp 36) 0,type:=59,pos:=_,after:=_,guard:=none }) (v:=?_) rfl (by kernel_rfl) (by kernel_rfl) (by kernel_rfl) (fun _ _ _ h=>h) (Or.inl ⟨by rfl,?_⟩) hHeld ?_
   rotate_left 1
   ·(intro W hW;(try dsimp only at hW);go_simp;try with_reducible rfl)
   try simp only [Act.put,List.setIfInBounds_toArray,List.set_cons_zero,List.set_cons_succ]
   refine wpAnyH_take (i:=11) (oi:={ dst:=some 47,op:=Op.extract (Operand.tmp 36) 1,type:=4,pos:=_,after:=_,guard:=none }) (v:=?_) rfl (by kernel_rfl) (by kernel_rfl) (by kernel_rfl) (fun _ _ _ h=>h) (Or.inl ⟨by rfl,?_⟩) hHeld ?_
   rotate_left 1
   ·(intro W hW;(try dsimp only at hW);go_simp;try with_reducible rfl)
   try simp only [Act.put,List.setIfInBounds_toArray,List.set_cons_zero,List.set_cons_succ]
   refine wpAnyH_take (i:=12) (oi:={ dst:=some 10,op:=Op.assign (Operand.tmp 46),type:=59,pos:=_,after:=_,guard:=none }) (v:=?_) rfl (by kernel_rfl) (by kernel_rfl) (by kernel_rfl) (fun _ _ _ h=>h) (Or.inl ⟨by rfl,?_⟩) hHeld ?_
   rotate_left 1
   ·(intro W hW;(try dsimp only at hW);go_simp;try with_reducible rfl)
   try simp only [Act.put,List.setIfInBounds_toArray,List.set_cons_zero,List.set_cons_succ]
   refine wpAnyH_take (i:=13) (oi:={ dst:=some 11,op:=Op.assign (Operand.tmp 47),type:=4,pos:=_,after:=_,guard:=none }) (v:=?_) rfl (by kernel_rfl) (by kernel_rfl) (by kernel_rfl) (fun _ _ _ h=>h) (Or.inl ⟨by rfl,?_⟩) hHeld ?_
   rotate_left 1
   ·(intro W hW;(try dsimp only at hW);go_simp;try with_reducible rfl)
   try simp only [Act.put,List.setIfInBounds_toArray,List.set_cons_zero,List.set_cons_succ]
   refine wpAnyH_done (by kernel_rfl) ?_ _
   refine NoPanic.normal ?_
   clear hHeld HF1
   have HBW:Hid (Below w.heap.size w W2):=Lib.hid (HVW.out.trans (HB2.out.mono HVW.out.size))
   have HO3:Hid (Only (fun k=>k=w.heap.size+2) V2 W2):=Lib.hid (((Only.of_below (F:=fun k=>k=w.heap.size+2) HG3.out).trans HON.out fun k _ e=>e).trans (Only.of_below (F:=fun k=>k=w.heap.size+2) HB2.out) fun k _ e=>e)
   have HGP:Hid (Holds W2 (w.heap.size+1) 99 (zplan ns).toArray):=Lib.hid (HH2.out.onlyB HO3.out (by omega))
   have HRB:Hid (Holds W2 w.heap.size 99 Tryz.zeroCells99):=Lib.hid (HH1.out.onlyB HO3.out (by omega))
   have HM5:Hid (MapF W2 b nn D vf):=Lib.hid ((HM.out.under HVW.out HM.out.lt).under HB2.out (Nat.lt_of_lt_of_le HM.out.lt HVW.out.size))
   have HF5:Hid (FateR W2 B fs vf):=Lib.hid (HFR.out.under ⟨HBW.out.os,HBW.out.tape,HBW.out.output,HBW.out.size,fun k hk=>HBW.out.block k (Nat.lt_of_lt_of_le hk hB)⟩)
   clear HB1 HK HHE HJM
   cases bt with
   | false =>
    have HT2:=Lib.hid (HRB.out.there (n:=Tryz.zeroCells99.size) rfl)
    obtain ⟨W3,hW3⟩:∃ W3,W3=W2.setCells w.heap.size 0 Tryz.zeroCells99.toList:=⟨_,rfl⟩
    have hh3:Holds W3 w.heap.size 99 Tryz.zeroCells99:=by
     have:=HRB.out.whole (L:=Tryz.zeroCells99.toList) (by rw [Array.length_toList])
     rw [←hW3,Array.toArray_toList] at this
     exact this
    have hld:=load_plan hh3 zcells_size
    have hb3:Below w.heap.size w W3:=⟨by rw [hW3];exact (setCells_same _ _ _ _).1.trans HBW.out.os,by rw [hW3];exact (setCells_same _ _ _ _).2.1.trans HBW.out.tape,by rw [hW3];exact (setCells_same _ _ _ _).2.2.trans HBW.out.output,by rw [hW3,setCells_size];exact HBW.out.size,fun k hk=>by rw [hW3,setCells_aside (by omega)];exact HBW.out.block k hk⟩
    have HW3:=Lib.hid hW3
    have HB3:=Lib.hid hb3
    clear hW3 hh3 hb3
    go_wp2_with (first | (refine wpList_store_mid rfl 99 (.tmp 4) (.tmp 50) rfl w.heap.size 0 Tryz.zeroCells99 rfl rfl HT2.out zcells_info zcells_one ?_;rw [←HW3.out]) | fail)
    have hRN:R=none:=by
     rw [HR.out]
     unfold reckM
     rw [←wantK_L,wantK_perm fs ((List.mergeSort_perm _ _).trans HPM.out.symm),←HW0.out,←HMM.out,if_neg]
     intro h1
     have h2:=HBT.out
     unfold takeN at h2
     rw [if_pos ⟨by omega,by omega⟩] at h2
     cases h2
    refine ⟨_,results_box_tmp (x:=4) (y:=5) (t:=99) rfl _ _ _ rfl hld,HB3.out,_,false,rfl,zcells_size,zcells_one,?_⟩
    rw [hRN]
    rfl
   | true =>
    have HPA:Hid (PlanAt W2 (w.heap.size+1) ns (List.replicate 40 false) none 0 0 none 0 0):=Lib.hid ⟨HFS.out.mt.n40,by simp,HGP.out⟩
    have k0:=HPA.out.free
    have f0:=HGP.out.open_ 160
    obtain ⟨W3,hW3⟩:∃ W3,W3=W2.setCell ⟨w.heap.size+1,160,none⟩ (.slice A2 n2 c2):=⟨_,rfl⟩
    have HP3:Hid (PlanAt W3 (w.heap.size+1) ns (List.replicate 40 false) A2 n2 c2 none 0 0):=Lib.hid (by rw [hW3];exact HPA.out.freed A2 n2 c2)
    have hz23:W3.heap.size=W2.heap.size:=by rw [hW3];simp
    have HO4:Hid (Only (fun k=>k=w.heap.size+1) W2 W3):=Lib.hid (by rw [hW3];exact (Only.refl (fun k=>k=w.heap.size+1) W2).setCell (p:=⟨w.heap.size+1,160,none⟩) (.inl rfl) _)
    have HFI:=Lib.hid (fsfiles_any W3 gf)
    obtain ⟨W4,hW4⟩:∃ W4,W4=W3.alloc (.cells #[.pointer (some ⟨gf,0,none⟩)] 27):=⟨_,rfl⟩
    obtain ⟨bx,hbx0⟩:∃ bx,bx=W3.heap.size:=⟨_,rfl⟩
    have hbx:Holds W4 bx 27 #[.pointer (some ⟨gf,0,none⟩)]:=by rw [hW4,hbx0];exact Holds.fresh _ _ _
    have hb4:Below W3.heap.size W3 W4:=by rw [hW4];exact (Below.refl _ _).alloc (Nat.le_refl _) _
    have hz4:W4.heap.size=bx+1:=by rw [hW4,hbx0];simp
    have HP4:=Lib.hid (HP3.out.under hb4)
    have HBX:=Lib.hid hbx
    have hgf0:=HFS.out.fs.hd.lt
    have hw2:=HBW.out.size
    have hv2z:=HO3.out.size
    have hfs2:FsAt W2 gf gd ns:=HFS.out.fs.under HBW.out
    have hfs3:FsAt W3 gf gd ns:=⟨hfs2.n40,hfs2.hd.onlyB HO4.out (by omega),fun d hd=>by
     have:=HFS.out.fs.rd d hd
     exact ((this.under HBW.out).onB fun hn g hg hlt=>HO4.out.block g (by omega) (by omega)).more (by omega)⟩
    have HF4:=Lib.hid (hfs3.under hb4)
    have HST:=Lib.hid (files_stops HF4.out bx hbx)
    have HB4:=Lib.hid hb4
    have HZ4:Hid (W4.heap.size=bx+1∧W2.heap.size≤bx):=Lib.hid ⟨hz4,by omega⟩
    have HW3:=Lib.hid hW3
    have HW4:=Lib.hid hW4
    have HBX0:=Lib.hid hbx0
    have hbxg:w.heap.size+2≤bx:=by have:=HZ2.out;omega
    clear hW3 hW4 hbx0 hb4 hz4 hz23 hbx hfs2 hfs3 HPA HGP
    go_wp2_with (first | (rw [←HW3.out]) | (refine HFI.out.mono ?_;rintro e w3 ⟨rfl,rfl⟩;rw [←HW4.out,←HBX0.out]) | fail)
    clear HW3 HW4 HBX0 HFI HP3
    refine (wpIn_wide (n:=3)).1 ?_
    refine wpIn_tmps fun T hT=>?_
    have hI0:InvU W3 W4 (w.heap.size+1) ns A2 n2 c2 [] W4:=⟨Only.refl _ _,_,HP4.out,fun i hi=>by rw [show (List.replicate 40 false).getD i false=false by rw [List.getD,List.getElem?_replicate];split <;> rfl];simp⟩
    refine wpIn_rangeFunc_ownH rfl (by omega) (gf:=99) (lb:=#[.pointer (some ⟨bx,0,none⟩)]) (by rw [hT];rfl) trivial (enters_of Tryz.func99 (by kernel_rfl) rfl) HST.out
     (fun h k=>KpF.trans h k) (fun W l o o' hl ho hc _=>KpF.putObj (n:=W4.heap.size) o' (by have:=HZ4.out;omega) (by have:=HZ4.out;omega) hl ho hc) (Below.refl _ _) (fun _=>rfl)
     (InvU W3 W4 (w.heap.size+1) ns A2 n2 c2) (fun _ _ _=>False) (invU_own (Nat.le_refl _)) noOut_own hI0
     (fun x a' _=>a'={ tmps:=((T.setIfInBounds 55 (.int .i64 ((x.val:Nat):Int))).setIfInBounds 56 (.agg (ncell (ns.getD x.val default)).toArray)).setIfInBounds 12 (.int .i64 ((x.val:Nat):Int)),defers:=[] }) (fun _ _ _ _ _ _ h _ _=>h) ?assign ?body ?done ?stop
    case assign =>
     rintro l pre ⟨xv,hxv⟩ W K hI hK
     have HK:=Lib.hid hK
     clear hK
     subst hT
     simp only [fsv] at HK ⊢
     generalize ncell (ns.getD xv default)=cl at HK ⊢
     simp
     gi_wp2
     refine HK.out _ _ (KeepsFrom.refl _ _) (KpF.refl _ _ _ _) hI ?_
     simp
    case body =>
     rintro l pre ⟨xv,hxv⟩ a' W hl hr ⟨hI1,us,hI2,hI3⟩ rfl hlt
     have HI1:=Lib.hid hI1
     have HI2:=Lib.hid hI2
     have HI3:=Lib.hid hI3
     have kk:W.cell? ⟨w.heap.size+1,120+xv,none⟩=some (.bool (us.getD xv false)):=hI2.useds xv _ (by unfold bcs;rw [List.getElem?_map];simp [List.getD,hI2.u40,hxv])
     have kf:=hI2.hd.open_ (120+xv)
     have hxI:(xv:Int)<40:=by omega
     have hx0:(0:Int)≤(xv:Int):=by omega
     clear hI1 hI2 hI3 hr
     subst hT
     dsimp only
     generalize ncell (ns.getD xv default)=cl
     simp only [List.setIfInBounds_toArray,List.set_cons_succ,List.set_cons_zero]
     gi_wp2
     have hset:PlanAt (W.setCell ⟨w.heap.size+1,120+xv,none⟩ (.bool true)) (w.heap.size+1) ns (us.set xv true) A2 n2 c2 none 0 0:=HI2.out.give xv hxv
     have ho9:Only (fun k=>k=w.heap.size+1) W (W.setCell ⟨w.heap.size+1,120+xv,none⟩ (.bool true)):=(Only.refl (fun k=>k=w.heap.size+1) W).setCell (p:=⟨w.heap.size+1,120+xv,none⟩) (.inl rfl) _
     have hz4:=HZ4.out
     refine ⟨(KeepsOthers.setCell _ _ _).from _,⟨ho9.size,fun k _ ⟨cs,hcs⟩=>ho9.block k (Holds.lt hcs) fun e=>?_,ho9.block gf (by have:=HI1.out.size;omega) (by omega),ho9.block bx (by have:=HI1.out.size;omega) (by omega)⟩,HI1.out.trans ho9 (fun k _ e=>e),us.set xv true,hset,fun i hi=>?_⟩
     ·subst e
      have h3:=(show W.heap[w.heap.size+1]?=_ from hcs).symm.trans HI2.out.hd
      injection h3 with h3
      injection h3 with _ h3
      exact plan_int h3.symm
     ·have h40:=HI2.out.u40
      by_cases e:i=xv
      ·subst e
       rw [show (us.set i true).getD i false=true by simp [List.getD,h40,hi]]
       symm
       rw [decide_eq_true_eq]
       exact ⟨⟨i,hxv⟩,by simp,rfl⟩
      ·rw [show (us.set xv true).getD i false=us.getD i false by simp only [List.getD];rw [List.getElem?_set_ne (Ne.symm e)],HI3.out i hi]
       congr 1
       apply propext
       constructor
       ·rintro ⟨x,hx,rfl⟩
        exact ⟨x,List.mem_append_left _ hx,rfl⟩
       ·rintro ⟨x,hx,rfl⟩
        rcases List.mem_append.1 hx with hx | hx
        ·exact ⟨x,hx,rfl⟩
        ·rw [List.mem_singleton.1 hx] at e
         exact absurd rfl e
    case done =>
     rintro D1 xs W hD hS ⟨hI1,us,hI2,hI3⟩ hK
     subst hT
     have HKD:=Lib.hid hK
     have HI1:=Lib.hid hI1
     have HI2:=Lib.hid hI2
     have HUS:Hid (∀ i,i<40→us.getD i false=usedV (nvOf ns i)):=Lib.hid fun i hi=>(hI3 i hi).trans (us_of_slots hS hi)
     have HO2W:Hid (Only (fun k=>k=w.heap.size+1) W2 W):=Lib.hid ((HO4.out.trans (Only.of_below (F:=fun k=>k=w.heap.size+1) HB4.out) fun k _ e=>e).trans HI1.out fun k _ e=>e)
     have HWW:Hid (Below w.heap.size w W):=Lib.hid ⟨HO2W.out.os.trans HBW.out.os,HO2W.out.tape.trans HBW.out.tape,HO2W.out.output.trans HBW.out.output,Nat.le_trans HBW.out.size HO2W.out.size,fun k hk=>(HO2W.out.block k (by omega) (by omega)).trans (HBW.out.block k hk)⟩
     have HMW:Hid (MapF W b nn D vf):=Lib.hid (HM.out.under HWW.out HM.out.lt)
     have HRBW:Hid (Holds W w.heap.size 99 Tryz.zeroCells99):=Lib.hid (HRB.out.onlyB HO2W.out (by omega))
     have hsl:=HMW.out.1.size_le
     have hmax:Maps.size D≤maxLen:=by unfold maxLen;omega
     have hbytes:Maps.size D*16≤140737488355328:=by omega
     clear hI1 hI2 hI3 hK hS
     go_wp2_with (first | (refine (callsIn_wide.1 (keys_laid _ _)).mono ?_;rintro e w5 ⟨rfl,rfl⟩) | (refine (callsIn_wide.1 (sorted_laid b nn D heldV W HMW.out.1 hmax hbytes)).mono ?_;rintro e W6 ⟨v,ss2,rfl,hS2,hrow,_,hb6⟩;obtain ⟨A6,c6,rfl,hown6⟩:=own_strs hrow;have HOW6:=Lib.hid hown6;have HS2:=Lib.hid hS2;have HB6:=Lib.hid hb6;clear hS2 hrow hb6 hown6) | fail)
     obtain ⟨ls,hls⟩:∃ ls,ls=ss2.mergeSort (fun x y=>decide (x≤y)):=⟨_,rfl⟩
     rw [←hls] at HOW6
     have HPL:Hid (ls.Perm (strKeys D)):=Lib.hid (by rw [hls];exact (List.mergeSort_perm _ _).trans HS2.out)
     obtain ⟨n6,hn6⟩:∃ n6,n6=ss2.length:=⟨_,rfl⟩
     rw [←hn6] at HOW6 ⊢
     have HN6:Hid (ls.length=n6):=Lib.hid (by rw [hls,hn6,List.length_mergeSort])
     have HB6W:Hid (Below W.heap.size W W6):=Lib.hid (((Below.refl _ W).alloc (Nat.le_refl _) _).trans (HB6.out.mono (by simp)))
     have HWW6:Hid (Below w.heap.size w W6):=Lib.hid (HWW.out.trans (HB6W.out.mono HWW.out.size))
     have hz6:=HB6W.out.size
     have hzw:=HO2W.out.size
     have hn6n:n6≤nn:=by
      have h1:=HPL.out.length_eq
      rw [size_keys HM.out.1.isMap,HN6.out] at h1
      omega
     obtain ⟨fr,hfr0⟩:∃ fr,fr=(takeN (hasB (heldN ns)) (m - 40) (W0:Int)).1:=⟨_,rfl⟩
     obtain ⟨ov,hov⟩:∃ ov,ov=nvOf ns:=⟨_,rfl⟩
     obtain ⟨p0,hp0⟩:∃ p0:Pln,p0=⟨ov,us,fr,[]⟩:=⟨_,rfl⟩
     have HP0:=Lib.hid hp0
     have hn2f:fr.length=n2:=by rw [hfr0];exact HN2.out
     have hgp6:w.heap.size+1<W.heap.size:=by have:=HZ2.out;omega
     have HPA:Hid (PlAny O W6 (w.heap.size+1) p0 W6):=Lib.hid (by
      rw [hp0]
      refine ⟨ns,A2,c2,none,0,[],⟨?_,fun i _=>by rw [hov],fun d hd=>⟨?_,fun hn g hg=>⟨?_,(fun e=>nomatch e),fun e=>e⟩⟩,⟨?_,fun hn g hg=>⟨HNF.out g hg,(fun e=>nomatch e),fun e=>e⟩⟩,OwnV.nil _ _ _,fun g e=>(nomatch e),rfl,fun x hx=>(nomatch hx),Only.refl _ _,by omega,(fun k e=>e.elim),fun d hd hn g hg _=>by rw [HO.out];exact ⟨d,hd,hn,hg⟩⟩⟩
      ·show PlanAt W6 _ ns us A2 fr.length c2 none 0 0
       rw [hn2f]
       exact HI2.out.under HB6W.out
      ·exact ((HFS.out.fs.rd d hd).under HWW6.out).more HWW6.out.size
      ·have:=(HFS.out.fs.rd d hd).block_lt hn hg
       omega
      ·show Rd .i64 W6 W6.heap.size A2 c2 fr
       rw [hfr0]
       exact (((HR2.out.onB fun hn g hg hlt=>HO2W.out.block g hlt (HNF.out g hg)).more hzw).under HB6W.out).more hz6)
     have HFRM:Hid (fr.Nodup∧∀ x∈fr,x≤65535):=Lib.hid (by
      have h1:fr=(freeN (hasB (heldN ns)) (m - 40)).take W0∨fr=[]:=by
       rw [hfr0]
       unfold takeN
       split
       ·exact .inl (by rw [Int.toNat_natCast])
       ·exact .inr rfl
      have h2:(freeN (hasB (heldN ns)) (m - 40)).Nodup:=by
       unfold freeN
       refine List.Nodup.sublist List.filter_sublist ?_
       unfold List.Nodup
       rw [List.pairwise_map]
       exact List.nodup_range.imp fun hne he=>hne (by omega)
      have h3:∀ x∈freeN (hasB (heldN ns)) (m - 40),x≤65535:=fun x hx=>by
       unfold freeN at hx
       obtain ⟨y,hy,rfl⟩:=List.mem_map.1 (List.mem_filter.1 hx).1
       have:=List.mem_range.1 hy
       have:=HRO.out.m1
       omega
      rcases h1 with rfl | rfl
      ·exact ⟨List.Nodup.sublist (List.take_sublist _ _) h2,fun x hx=>h3 x (List.mem_of_mem_take hx)⟩
      ·exact ⟨List.nodup_nil,fun x hx=>nomatch hx⟩)
     have HWL:Hid (wantL fs (ksOf ls)≤fr.length):=Lib.hid (by
      rw [←wantK_L,wantK_perm fs (HPL.out.trans HPM.out.symm),←HW0.out]
      have h1:=HBT.out
      rw [hfr0]
      unfold takeN at h1 ⊢
      split at h1
      ·rename_i h2
       rw [if_pos h2]
       show W0≤(List.take (W0:Int).toNat _).length
       rw [Int.toNat_natCast,List.length_take]
       omega
      ·cases h1)
     have HMP:Hid (∀ W',Only (fun k=>k=w.heap.size+1) W6 W'→MapF W' b nn D vf∧FateR W6 B fs vf∧FsAt W' gf gd ns∧W'.heap[D1]?=some (.deferred (some []))∧Holds W' w.heap.size 99 Tryz.zeroCells99∧Below w.heap.size w W'∧OwnV 9 1 W' A6 c6 n6 (ls.map encStr)):=Lib.hid fun W' hW'=>by
      have hD1:D1<W.heap.size:=(Array.getElem?_eq_some_iff.1 HKD.out).1
      have hz46:=HI1.out.size
      have hz4:=HZ4.out
      have hbw:Below w.heap.size w W':=⟨hW'.os.trans HWW6.out.os,hW'.tape.trans HWW6.out.tape,hW'.output.trans HWW6.out.output,Nat.le_trans HWW6.out.size hW'.size,fun k hk=>(hW'.block k (by omega) (by omega)).trans (HWW6.out.block k hk)⟩
      refine ⟨HM.out.under hbw HM.out.lt,HFR.out.under ⟨HWW6.out.os,HWW6.out.tape,HWW6.out.output,HWW6.out.size,fun k hk=>HWW6.out.block k (Nat.lt_of_lt_of_le hk hB)⟩,HFS.out.fs.under hbw,?_,?_,hbw,?_⟩
      ·rw [hW'.block D1 (by omega) (by omega),HB6W.out.block D1 hD1]
       exact HKD.out
      ·exact (HRBW.out.under HB6W.out HRBW.out.lt).onlyB hW' (by omega)
      ·exact HOW6.out.keep fun g hg hlt=>hW'.block g hlt fun e=>by
        subst e
        obtain ⟨cs,fr',h1⟩:=HOW6.out.cells hg
        have h2:=HI2.out.hd.under HB6W.out HI2.out.hd.lt
        rw [show W6.heap[w.heap.size+1]?=_ from h2] at h1
        injection h1 with h1
        injection h1 with _ h1
        exact absurd h1 (by decide)
     have HRK:Hid (R=endM ov fs (ksOf ls) (putAll ov fs (ksOf ls) p0)):=Lib.hid (by
      have h1:ls=(strKeys D).mergeSort leB:=by rw [hls];exact mergeSort_of_perm HS2.out
      have h2:wantL fs (ksOf ((strKeys D).mergeSort leB))=W0:=by rw [←wantK_L,wantK_perm fs ((List.mergeSort_perm _ _).trans HPM.out.symm),←HW0.out]
      have h3:=HBT.out
      have h4:fr=(freeN (hasB (heldN ns)) (m - 40)).take W0∧W0≤(freeN (hasB (heldN ns)) (m - 40)).length:=by
       rw [hfr0]
       unfold takeN at h3 ⊢
       split at h3
       ·rename_i h5
        rw [if_pos h5]
        exact ⟨by show List.take (W0:Int).toNat _=_;rw [Int.toNat_natCast],by omega⟩
       ·cases h3
      rw [HR.out]
      unfold reckM
      rw [←HMM.out,h2,if_pos h4.2,←h4.1,←usL_is HI2.out.u40 HUS.out,←h1,←hov,←hp0])
     have HOV:Hid (NvOk ov s.many):=Lib.hid (by rw [hov];exact HFS.out.mt.nvOk)
     have HOVE:=Lib.hid hov
     clear hls hn6 hfr0 hp0 hn2f hov
     obtain ⟨ks,hks⟩:∃ ks,ks=ksOf ls:=⟨_,rfl⟩
     rw [←hks] at HWL HRK
     have HKN:Hid (ks.length=n6):=Lib.hid (by rw [hks];unfold ksOf;rw [List.length_map];exact HN6.out)
     have HKS:=Lib.hid hks
     clear hks
     go_loopw [65] (fun si wr=>RelPut O W6 (w.heap.size+1) ov fs ks p0 si wr) (fun si _=>n6 - (intOf si).toNat)
     case atStart=>exact ⟨0,p0,Nat.zero_le _,rfl,HPA.out,PutI.start (by rw [HP0.out];exact HWL.out) (by rw [HP0.out]),rfl⟩
     case round =>
      obtain ⟨k,p,hk,rfl,hpl,hpi,hpa⟩:=hrel
      obtain ⟨Y,hY⟩:∃ Y,Y=wr:=⟨_,rfl⟩
      subst hY
      rw [HKN.out] at hk
      have HPI:=Lib.hid hpi
      have HPE:=Lib.hid hpa
      have HPY:=Lib.hid hpl
      clear hpl hpi hpa
      by_cases hlt:k<n6
      case pos =>
       have hkI:(k:Int)<(n6:Int):=by omega
       have hk0:(0:Int)≤(k:Int):=by omega
       have hkn:((k:Int)).toNat=k:=by omega
       have hkw:IntKind.i64.wrap ((k:Int)+1)=(k:Int)+1:=IntWalk.i64_in _ (by omega)
       have hkL:k<ks.length:=by rw [HKN.out];exact hlt
       have hkl:k<ls.length:=by rw [HN6.out];exact hlt
       obtain ⟨_,_,_,_,_,_,hoy⟩:=HMP.out Y HPY.out.only
       obtain ⟨g6,rfl,_,hc6,_⟩:=hoy.at_ (j:=k) (v:=encStr ls[k]) (by simp [hkl])
       obtain ⟨nm,hnm⟩:∃ nm,nm=bA ls[k]:=⟨_,rfl⟩
       replace hc6:Y.cell? ⟨g6,k,none⟩=some (.string nm):=by rw [hnm];exact hc6
       have HNM:Hid (ks[k]=nm):=Lib.hid (by rw [hnm];simp [HKS.out,ksOf])
       have HPK:Hid (putAll ov fs (ks.drop k) p=putAll ov fs (nm :: ks.drop (k+1)) p):=Lib.hid (by rw [List.drop_eq_getElem_cons hkL,HNM.out])
       have hmem:ls[k]∈strKeys D:=HPL.out.mem_iff.1 (List.getElem_mem hkl)
       have hns:nm.size≤9223372036854775807:=by
        have:=strKeys_le HM.out.1 Tryz.underlying9 _ hmem
        rw [hnm]
        unfold bA
        unfold maxLen at this
        show ls[k].toArray.size≤_
        rw [List.size_toArray]
        omega
       have HVX:Hid (∃ x,vf nm=some x):=Lib.hid (by
        have h1:=(HM.out.2 nm).1
        have h2:has D (.string nm.data.toList)=true:=by
         rw [hnm,data_bA]
         obtain ⟨es,rfl⟩:=HM.out.1.isMap
         unfold strKeys at hmem
         obtain ⟨q,hq,he⟩:=List.mem_map.1 hmem
         obtain ⟨es',h3,hko⟩:=HM.out.1.keysOf
         injection h3 with h3
         subst h3
         obtain ⟨v0,hv0⟩:=hko q hq
         obtain ⟨x0,_,hx0,_⟩:=Maps.keyOf_str Tryz.underlying9 hv0
         rw [has_eq,List.any_eq_true]
         refine ⟨q,hq,?_⟩
         rw [←he,hx0]
         simp [Lit.sameKey,strOf]
        rw [h2] at h1
        exact Option.isSome_iff_exists.1 h1.symm)
       clear hnm hmem hoy
       go_wp2_with fail
       obtain ⟨x,hx⟩:=HVX.out
       have hfn:=(HMP.out Y HPY.out.only).2.1 nm
       have HSO:Hid (slotO (nvOf ns) nm=slotO ov nm):=Lib.hid (by rw [HOVE.out])
       cases hfs:fs nm with
       | none=>rw [hfs] at hfn;rw [hfn] at hx;cases hx
       | some xx =>
        cases xx with
        | none =>
         rw [hfs] at hfn
         have HLK:Hid (∀ W',Only (fun k=>k=w.heap.size+1) W6 W'→(Instr.lookup 93 (.map (some b)) (.string nm) false).run Tryz.prog W' = .ok (.agg #[.bool false,.slice none 0 0]) W'):=Lib.hid fun W' hW'=>by
          have:=(HMP.out W' hW').1.look nm hns
          rw [show vf nm=some zFV from hfn] at this
          exact this
         have HFS0:=Lib.hid hfs
         clear hfn hfs hx
         refine wp_region_noPanic ?_
         refine wp_region_held_drew (S:=fun W=>Only (fun k=>k=w.heap.size+1) W6 W) (by kernel_rfl) (HPY.out.only.drew) (fun hHeld=>?_)
         refine wpAnyH_take (i:=0) (oi:={ dst:=some 69,op:=Op.move (Operand.tmp 1),type:=93,pos:=_,after:=_,guard:=none }) (v:=?_) rfl (by kernel_rfl) (by kernel_rfl) (by kernel_rfl) (fun _ _ _ h=>h) (Or.inl ⟨by rfl,?_⟩) hHeld ?_
         rotate_left 1
         ·(intro W hW;(try dsimp only at hW);go_simp;try with_reducible rfl)
         try simp only [Act.put,List.setIfInBounds_toArray,List.set_cons_zero,List.set_cons_succ]
         refine wpAnyH_take (i:=1) (oi:={ dst:=some 70,op:=Op.move (Operand.tmp 15),type:=9,pos:=_,after:=_,guard:=none }) (v:=?_) rfl (by kernel_rfl) (by kernel_rfl) (by kernel_rfl) (fun _ _ _ h=>h) (Or.inl ⟨by rfl,?_⟩) hHeld ?_
         rotate_left 1
         ·(intro W hW;(try dsimp only at hW);go_simp;try with_reducible rfl)
         try simp only [Act.put,List.setIfInBounds_toArray,List.set_cons_zero,List.set_cons_succ]
         refine wpAnyH_take (i:=2) (oi:={ dst:=some 71,op:=Op.lookup 93 (Operand.tmp 69) (Operand.tmp 70) false,type:=144,pos:=_,after:=_,guard:=none }) (v:=?_) rfl (by kernel_rfl) (by kernel_rfl) (by kernel_rfl) (fun _ _ _ h=>h) (Or.inl ⟨by rfl,?_⟩) hHeld ?_
         rotate_left 1
         ·(intro W hW;have hlk:=HLK.out _ hW;(try dsimp only at hW);go_simp;try with_reducible rfl)
         try simp only [Act.put,List.setIfInBounds_toArray,List.set_cons_zero,List.set_cons_succ]
         refine wpAnyH_take (i:=3) (oi:={ dst:=some 72,op:=Op.field 144 (Operand.tmp 71) 0,type:=4,pos:=_,after:=_,guard:=none }) (v:=?_) rfl (by kernel_rfl) (by kernel_rfl) (by kernel_rfl) (fun _ _ _ h=>h) (Or.inl ⟨by rfl,?_⟩) hHeld ?_
         rotate_left 1
         ·(intro W hW;have hff:=field_fate0 false none 0 0;(try dsimp only at hW);go_simp;try with_reducible rfl)
         try simp only [Act.put,List.setIfInBounds_toArray,List.set_cons_zero,List.set_cons_succ]
         refine wpAnyH_take (i:=4) (oi:={ dst:=some 73,op:=Op.move (Operand.tmp 72),type:=4,pos:=_,after:=_,guard:=none }) (v:=?_) rfl (by kernel_rfl) (by kernel_rfl) (by kernel_rfl) (fun _ _ _ h=>h) (Or.inl ⟨by rfl,?_⟩) hHeld ?_
         rotate_left 1
         ·(intro W hW;(try dsimp only at hW);go_simp;try with_reducible rfl)
         try simp only [Act.put,List.setIfInBounds_toArray,List.set_cons_zero,List.set_cons_succ]
         refine wpAnyH_take (i:=5) (oi:={ dst:=some 74,op:=Op.move (Operand.tmp 0),type:=27,pos:=_,after:=_,guard:=some (4,true) }) (v:=undef) rfl (by kernel_rfl) (by kernel_rfl) (by kernel_rfl) (fun _ _ _ h=>h) (Or.inr ⟨by rfl,rfl⟩) hHeld ?_
         try simp only [Act.put,List.setIfInBounds_toArray,List.set_cons_zero,List.set_cons_succ]
         refine wpAnyH_take (i:=6) (oi:={ dst:=some 75,op:=Op.move (Operand.tmp 15),type:=9,pos:=_,after:=_,guard:=some (4,true) }) (v:=undef) rfl (by kernel_rfl) (by kernel_rfl) (by kernel_rfl) (fun _ _ _ h=>h) (Or.inr ⟨by rfl,rfl⟩) hHeld ?_
         try simp only [Act.put,List.setIfInBounds_toArray,List.set_cons_zero,List.set_cons_succ]
         refine wpAnyH_take (i:=7) (oi:={ dst:=some 76,op:=Op.call { callee:=Callee.value (Operand.func 82),args:=#[Operand.tmp 74,Operand.tmp 75],argTypes:=#[27,9] },type:=3,pos:=_,after:=_,guard:=some (4,true) }) (v:=undef) rfl (by kernel_rfl) (by kernel_rfl) (by kernel_rfl) (fun _ _ _ h=>h) (Or.inr ⟨by rfl,rfl⟩) hHeld ?_
         try simp only [Act.put,List.setIfInBounds_toArray,List.set_cons_zero,List.set_cons_succ]
         refine wpAnyH_take (i:=8) (oi:={ dst:=some 77,op:=Op.move (Operand.tmp 15),type:=9,pos:=_,after:=_,guard:=some (4,true) }) (v:=undef) rfl (by kernel_rfl) (by kernel_rfl) (by kernel_rfl) (fun _ _ _ h=>h) (Or.inr ⟨by rfl,rfl⟩) hHeld ?_
         try simp only [Act.put,List.setIfInBounds_toArray,List.set_cons_zero,List.set_cons_succ]
         refine wpAnyH_take (i:=9) (oi:={ dst:=some 78,op:=Op.move (Operand.tmp 1),type:=93,pos:=_,after:=_,guard:=some (4,true) }) (v:=undef) rfl (by kernel_rfl) (by kernel_rfl) (by kernel_rfl) (fun _ _ _ h=>h) (Or.inr ⟨by rfl,rfl⟩) hHeld ?_
         try simp only [Act.put,List.setIfInBounds_toArray,List.set_cons_zero,List.set_cons_succ]
         refine wpAnyH_take (i:=10) (oi:={ dst:=some 79,op:=Op.move (Operand.tmp 15),type:=9,pos:=_,after:=_,guard:=some (4,true) }) (v:=undef) rfl (by kernel_rfl) (by kernel_rfl) (by kernel_rfl) (fun _ _ _ h=>h) (Or.inr ⟨by rfl,rfl⟩) hHeld ?_
         try simp only [Act.put,List.setIfInBounds_toArray,List.set_cons_zero,List.set_cons_succ]
         refine wpAnyH_take (i:=11) (oi:={ dst:=some 80,op:=Op.lookup 93 (Operand.tmp 78) (Operand.tmp 79) false,type:=144,pos:=_,after:=_,guard:=some (4,true) }) (v:=undef) rfl (by kernel_rfl) (by kernel_rfl) (by kernel_rfl) (fun _ _ _ h=>h) (Or.inr ⟨by rfl,rfl⟩) hHeld ?_
         try simp only [Act.put,List.setIfInBounds_toArray,List.set_cons_zero,List.set_cons_succ]
         refine wpAnyH_take (i:=12) (oi:={ dst:=some 81,op:=Op.field 144 (Operand.tmp 80) 1,type:=44,pos:=_,after:=_,guard:=some (4,true) }) (v:=undef) rfl (by kernel_rfl) (by kernel_rfl) (by kernel_rfl) (fun _ _ _ h=>h) (Or.inr ⟨by rfl,rfl⟩) hHeld ?_
         try simp only [Act.put,List.setIfInBounds_toArray,List.set_cons_zero,List.set_cons_succ]
         refine wpAnyH_take (i:=13) (oi:={ dst:=some 82,op:=Op.call { callee:=Callee.value (Operand.func 86),args:=#[Operand.tmp 6,Operand.tmp 76,Operand.tmp 77,Operand.tmp 81],argTypes:=#[99,3,9,44] },type:=4,pos:=_,after:=_,guard:=some (4,true) }) (v:=undef) rfl (by kernel_rfl) (by kernel_rfl) (by kernel_rfl) (fun _ _ _ h=>h) (Or.inr ⟨by rfl,rfl⟩) hHeld ?_
         try simp only [Act.put,List.setIfInBounds_toArray,List.set_cons_zero,List.set_cons_succ]
         refine wpAnyH_take (i:=14) (oi:={ dst:=some 83,op:=Op.unOp UnOp.not 4 (Operand.tmp 82),type:=4,pos:=_,after:=_,guard:=some (4,true) }) (v:=undef) rfl (by kernel_rfl) (by kernel_rfl) (by kernel_rfl) (fun _ _ _ h=>h) (Or.inr ⟨by rfl,rfl⟩) hHeld ?_
         try simp only [Act.put,List.setIfInBounds_toArray,List.set_cons_zero,List.set_cons_succ]
         refine wpAnyH_take (i:=15) (oi:={ dst:=some 84,op:=Op.pick (Operand.tmp 73) (Operand.tmp 83) (Operand.const (Value.bool false)),type:=4,pos:=_,after:=_,guard:=none }) (v:=?_) rfl (by kernel_rfl) (by kernel_rfl) (by kernel_rfl) (fun _ _ _ h=>h) (Or.inl ⟨by rfl,?_⟩) hHeld ?_
         rotate_left 1
         ·(intro W hW;(try dsimp only at hW);go_simp;try with_reducible rfl)
         try simp only [Act.put,List.setIfInBounds_toArray,List.set_cons_zero,List.set_cons_succ]
         refine wpAnyH_done (by kernel_rfl) ?_ _
         refine NoPanic.normal ?_
         go_simp
         go_wp2_with fail
         exact ⟨⟨k+1,p,by rw [HKN.out];omega,by go_num,HPY.out.drew,HPI.out.skip hkL (by rw [HNM.out];exact HFS0.out),HPE.out.trans (HPK.out.trans (by simp only [putAll,HFS0.out]))⟩,by simp [intOf];omega⟩
        | some d =>
         rw [hfs] at hfn
         obtain ⟨dA,dc,hv0,hdr⟩:=hfn
         obtain ⟨dn,hdn⟩:∃ dn,dn=d.length:=⟨_,rfl⟩
         have HLK:Hid (∀ W',Only (fun k=>k=w.heap.size+1) W6 W'→(Instr.lookup 93 (.map (some b)) (.string nm) false).run Tryz.prog W' = .ok (.agg #[.bool true,.slice dA dn dc]) W'):=Lib.hid fun W' hW'=>by
          have:=(HMP.out W' hW').1.look nm hns
          rw [hv0] at this
          rw [hdn]
          exact this
         have HFS0:=Lib.hid hfs
         have HDN:=Lib.hid hdn
         obtain ⟨hnok,hd6⟩:=HOK.out nm d hfs
         have HPP:Hid (∀ Y1,PlAny O W6 (w.heap.size+1) p Y1→Calls Tryz.prog 86 #[.pointer (some ⟨w.heap.size+1,0,none⟩),.int .i64 (slotI (slotO ov nm)),.string nm,.slice dA dn dc] Y1 (PutP O W6 Y1 (w.heap.size+1) (p.put (slotO ov nm) nm d))):=Lib.hid fun Y1 h1=>by
          obtain ⟨t,ht1,ht2⟩:=HPI.out.fr
          have hp0fr:p0.fr=fr:=by rw [HP0.out]
          rw [hdn]
          refine planPut_any h1 (slotO ov nm) (fun i hi=>(slotO_some hi).1) nm hnok d hd6 (HPI.out.need hkL (by rw [HNM.out];exact hfs)) (fun x hx=>?_) ?_ (by have:=HPI.out.ws;omega) dA dc B (by omega) hdr
          ·rw [ht1,hp0fr] at hx
           exact HFRM.out.2 x (List.mem_of_mem_drop hx)
          ·rw [ht1,hp0fr]
           exact List.Nodup.sublist (List.drop_sublist _ _) HFRM.out.1
         clear hfs hx hv0 hdr hdn hnok hd6
         refine wp_region_noPanic ?_
         refine wp_region_held_drew (S:=fun W=>Only (fun k=>k=w.heap.size+1) W6 W) (by kernel_rfl) (HPY.out.only.drew) (fun hHeld=>?_)
         refine wpAnyH_take (i:=0) (oi:={ dst:=some 69,op:=Op.move (Operand.tmp 1),type:=93,pos:=_,after:=_,guard:=none }) (v:=?_) rfl (by kernel_rfl) (by kernel_rfl) (by kernel_rfl) (fun _ _ _ h=>h) (Or.inl ⟨by rfl,?_⟩) hHeld ?_
         rotate_left 1
         ·(intro W hW;(try dsimp only at hW);go_simp;try with_reducible rfl)
         try simp only [Act.put,List.setIfInBounds_toArray,List.set_cons_zero,List.set_cons_succ]
         refine wpAnyH_take (i:=1) (oi:={ dst:=some 70,op:=Op.move (Operand.tmp 15),type:=9,pos:=_,after:=_,guard:=none }) (v:=?_) rfl (by kernel_rfl) (by kernel_rfl) (by kernel_rfl) (fun _ _ _ h=>h) (Or.inl ⟨by rfl,?_⟩) hHeld ?_
         rotate_left 1
         ·(intro W hW;(try dsimp only at hW);go_simp;try with_reducible rfl)
         try simp only [Act.put,List.setIfInBounds_toArray,List.set_cons_zero,List.set_cons_succ]
         refine wpAnyH_take (i:=2) (oi:={ dst:=some 71,op:=Op.lookup 93 (Operand.tmp 69) (Operand.tmp 70) false,type:=144,pos:=_,after:=_,guard:=none }) (v:=?_) rfl (by kernel_rfl) (by kernel_rfl) (by kernel_rfl) (fun _ _ _ h=>h) (Or.inl ⟨by rfl,?_⟩) hHeld ?_
         rotate_left 1
         ·(intro W hW;have hlk:=HLK.out _ hW;(try dsimp only at hW);go_simp;try with_reducible rfl)
         try simp only [Act.put,List.setIfInBounds_toArray,List.set_cons_zero,List.set_cons_succ]
         refine wpAnyH_take (i:=3) (oi:={ dst:=some 72,op:=Op.field 144 (Operand.tmp 71) 0,type:=4,pos:=_,after:=_,guard:=none }) (v:=?_) rfl (by kernel_rfl) (by kernel_rfl) (by kernel_rfl) (fun _ _ _ h=>h) (Or.inl ⟨by rfl,?_⟩) hHeld ?_
         rotate_left 1
         ·(intro W hW;have hff:=field_fate0 true dA dn dc;(try dsimp only at hW);go_simp;try with_reducible rfl)
         try simp only [Act.put,List.setIfInBounds_toArray,List.set_cons_zero,List.set_cons_succ]
         refine wpAnyH_take (i:=4) (oi:={ dst:=some 73,op:=Op.move (Operand.tmp 72),type:=4,pos:=_,after:=_,guard:=none }) (v:=?_) rfl (by kernel_rfl) (by kernel_rfl) (by kernel_rfl) (fun _ _ _ h=>h) (Or.inl ⟨by rfl,?_⟩) hHeld ?_
         rotate_left 1
         ·(intro W hW;(try dsimp only at hW);go_simp;try with_reducible rfl)
         try simp only [Act.put,List.setIfInBounds_toArray,List.set_cons_zero,List.set_cons_succ]
         refine wpAnyH_take (i:=5) (oi:={ dst:=some 74,op:=Op.move (Operand.tmp 0),type:=27,pos:=_,after:=_,guard:=some (4,true) }) (v:=?_) rfl (by kernel_rfl) (by kernel_rfl) (by kernel_rfl) (fun _ _ _ h=>h) (Or.inl ⟨by rfl,?_⟩) hHeld ?_
         rotate_left 1
         ·(intro W hW;(try dsimp only at hW);go_simp;try with_reducible rfl)
         try simp only [Act.put,List.setIfInBounds_toArray,List.set_cons_zero,List.set_cons_succ]
         refine wpAnyH_take (i:=6) (oi:={ dst:=some 75,op:=Op.move (Operand.tmp 15),type:=9,pos:=_,after:=_,guard:=some (4,true) }) (v:=?_) rfl (by kernel_rfl) (by kernel_rfl) (by kernel_rfl) (fun _ _ _ h=>h) (Or.inl ⟨by rfl,?_⟩) hHeld ?_
         rotate_left 1
         ·(intro W hW;(try dsimp only at hW);go_simp;try with_reducible rfl)
         try simp only [Act.put,List.setIfInBounds_toArray,List.set_cons_zero,List.set_cons_succ]
         refine wpAnyH_take (i:=8) (oi:={ dst:=some 77,op:=Op.move (Operand.tmp 15),type:=9,pos:=_,after:=_,guard:=some (4,true) }) (v:=?_) rfl (by kernel_rfl) (by kernel_rfl) (by kernel_rfl) (fun _ _ _ h=>h) (Or.inl ⟨by rfl,?_⟩) hHeld ?_
         rotate_left 1
         ·(intro W hW;(try dsimp only at hW);go_simp;try with_reducible rfl)
         try simp only [Act.put,List.setIfInBounds_toArray,List.set_cons_zero,List.set_cons_succ]
         refine wpAnyH_take (i:=9) (oi:={ dst:=some 78,op:=Op.move (Operand.tmp 1),type:=93,pos:=_,after:=_,guard:=some (4,true) }) (v:=?_) rfl (by kernel_rfl) (by kernel_rfl) (by kernel_rfl) (fun _ _ _ h=>h) (Or.inl ⟨by rfl,?_⟩) hHeld ?_
         rotate_left 1
         ·(intro W hW;(try dsimp only at hW);go_simp;try with_reducible rfl)
         try simp only [Act.put,List.setIfInBounds_toArray,List.set_cons_zero,List.set_cons_succ]
         refine wpAnyH_take (i:=10) (oi:={ dst:=some 79,op:=Op.move (Operand.tmp 15),type:=9,pos:=_,after:=_,guard:=some (4,true) }) (v:=?_) rfl (by kernel_rfl) (by kernel_rfl) (by kernel_rfl) (fun _ _ _ h=>h) (Or.inl ⟨by rfl,?_⟩) hHeld ?_
         rotate_left 1
         ·(intro W hW;(try dsimp only at hW);go_simp;try with_reducible rfl)
         try simp only [Act.put,List.setIfInBounds_toArray,List.set_cons_zero,List.set_cons_succ]
         refine wpAnyH_take (i:=11) (oi:={ dst:=some 80,op:=Op.lookup 93 (Operand.tmp 78) (Operand.tmp 79) false,type:=144,pos:=_,after:=_,guard:=some (4,true) }) (v:=?_) rfl (by kernel_rfl) (by kernel_rfl) (by kernel_rfl) (fun _ _ _ h=>h) (Or.inl ⟨by rfl,?_⟩) hHeld ?_
         rotate_left 1
         ·(intro W hW;have hlk:=HLK.out _ hW;(try dsimp only at hW);go_simp;try with_reducible rfl)
         try simp only [Act.put,List.setIfInBounds_toArray,List.set_cons_zero,List.set_cons_succ]
         refine wpAnyH_take (i:=12) (oi:={ dst:=some 81,op:=Op.field 144 (Operand.tmp 80) 1,type:=44,pos:=_,after:=_,guard:=some (4,true) }) (v:=?_) rfl (by kernel_rfl) (by kernel_rfl) (by kernel_rfl) (fun _ _ _ h=>h) (Or.inl ⟨by rfl,?_⟩) hHeld ?_
         rotate_left 1
         ·(intro W hW;have hff:=field_fate1 true dA dn dc;(try dsimp only at hW);go_simp;try with_reducible rfl)
         try simp only [Act.put,List.setIfInBounds_toArray,List.set_cons_zero,List.set_cons_succ]
         refine wpAnyH_ready (rs:=[7]) (by kernel_rfl) (by simp) ?_
         refine AllReadyH.cons (o:={ dst:=some 76,op:=Op.call { callee:=Callee.value (Operand.func 82),args:=#[Operand.tmp 74,Operand.tmp 75],argTypes:=#[27,9] },type:=3,pos:=_,after:=_,guard:=some (4,true) }) rfl (fun K hK=>?_) AllReadyH.nil
         go_simp
         refine (slot_any (HMP.out _ hHeld).2.2.1 HFS.out.mt.nvOk nm).mono ?_
         rw [HSO.out]
         rintro e Y1 ⟨rfl,hb1⟩
         have HY1:Hid (PlAny O W6 (w.heap.size+1) p Y1):=Lib.hid (HPY.out.drew.below hb1)
         have HS1:Hid (Only (fun k=>k=w.heap.size+1) W6 Y1):=Lib.hid HY1.out.only
         clear hb1
         go_simp
         refine hK.out _ _ (HS1.out) (fun _=>?_)
         clear hK K hHeld
         try simp only [Act.put,List.setIfInBounds_toArray,List.set_cons_zero,List.set_cons_succ]
         have hHeld:(fun W=>Only (fun k=>k=w.heap.size+1) W6 W) Y1:=HS1.out
         refine wpAnyH_ready (rs:=[13]) (by kernel_rfl) (by simp) ?_
         refine AllReadyH.cons (o:={ dst:=some 82,op:=Op.call { callee:=Callee.value (Operand.func 86),args:=#[Operand.tmp 6,Operand.tmp 76,Operand.tmp 77,Operand.tmp 81],argTypes:=#[99,3,9,44] },type:=4,pos:=_,after:=_,guard:=some (4,true) }) rfl (fun K hK=>?_) AllReadyH.nil
         go_simp
         refine (HPP.out Y1 HY1.out).mono ?_
         rintro e Y2 hp2
         obtain ⟨bp,rfl,ho2,hrest⟩:=hp2.split
         have HS2:=Lib.hid ho2
         have HRS:=Lib.hid hrest
         clear hp2 ho2 hrest
         go_simp
         refine hK.out _ _ (HS2.out) (fun _=>?_)
         clear hK K hHeld
         try simp only [Act.put,List.setIfInBounds_toArray,List.set_cons_zero,List.set_cons_succ]
         have hHeld:(fun W=>Only (fun k=>k=w.heap.size+1) W6 W) Y2:=HS2.out
         refine wpAnyH_take (i:=14) (oi:={ dst:=some 83,op:=Op.unOp UnOp.not 4 (Operand.tmp 82),type:=4,pos:=_,after:=_,guard:=some (4,true) }) (v:=?_) rfl (by kernel_rfl) (by kernel_rfl) (by kernel_rfl) (fun _ _ _ h=>h) (Or.inl ⟨by rfl,?_⟩) hHeld ?_
         rotate_left 1
         ·(intro W hW;(try dsimp only at hW);go_simp;try with_reducible rfl)
         try simp only [Act.put,List.setIfInBounds_toArray,List.set_cons_zero,List.set_cons_succ]
         refine wpAnyH_take (i:=15) (oi:={ dst:=some 84,op:=Op.pick (Operand.tmp 73) (Operand.tmp 83) (Operand.const (Value.bool false)),type:=4,pos:=_,after:=_,guard:=none }) (v:=?_) rfl (by kernel_rfl) (by kernel_rfl) (by kernel_rfl) (fun _ _ _ h=>h) (Or.inl ⟨by rfl,?_⟩) hHeld ?_
         rotate_left 1
         ·(intro W hW;(try dsimp only at hW);go_simp;try with_reducible rfl)
         try simp only [Act.put,List.setIfInBounds_toArray,List.set_cons_zero,List.set_cons_succ]
         refine wpAnyH_done (by kernel_rfl) ?_ _
         refine NoPanic.normal ?_
         go_simp
         clear hHeld HPP HLK
         cases hq:p.put (slotO ov nm) nm d with
         | none =>
          have hr2:=HRS.out
          rw [hq] at hr2
          subst hr2
          have HQ:=Lib.hid hq
          clear hq
          have HT2:=Lib.hid ((HMP.out Y2 HS2.out).2.2.2.2.1.there (n:=Tryz.zeroCells99.size) rfl)
          obtain ⟨X3,hX3⟩:∃ X3,X3=(Y2).setCells w.heap.size 0 Tryz.zeroCells99.toList:=⟨_,rfl⟩
          have HX3:=Lib.hid hX3
          clear hX3
          go_wp2_with (first | (refine wpList_store_mid rfl 99 (.tmp 4) (.tmp 85) rfl w.heap.size 0 Tryz.zeroCells99 rfl rfl HT2.out zcells_info zcells_one ?_;rw [←HX3.out]) | fail)
          have hrb:=(HMP.out Y2 HS2.out).2.2.2.2.1
          have hbw:=(HMP.out Y2 HS2.out).2.2.2.2.2.1
          have hh3:Holds X3 w.heap.size 99 Tryz.zeroCells99:=by
           have:=hrb.whole (L:=Tryz.zeroCells99.toList) (by rw [Array.length_toList])
           rw [←HX3.out,Array.toArray_toList] at this
           exact this
          have hb3:Below w.heap.size w X3:=⟨by rw [HX3.out];exact (setCells_same _ _ _ _).1.trans hbw.os,by rw [HX3.out];exact (setCells_same _ _ _ _).2.1.trans hbw.tape,by rw [HX3.out];exact (setCells_same _ _ _ _).2.2.trans hbw.output,by rw [HX3.out,setCells_size];exact hbw.size,fun k hk=>by rw [HX3.out,setCells_aside (by omega)];exact hbw.block k hk⟩
          have hD9:W4.heap.size≤D1:=hD
          have hz49:=HZ4.out
          have hk5:X3.heap[D1]?=some (.deferred (some [])):=by rw [HX3.out,setCells_aside (by omega)];exact (HMP.out Y2 HS2.out).2.2.2.1
          refine ⟨by simp,.inl ⟨_,_,rfl,run_takeDeferred hk5,?_⟩⟩
          have hr:∀ q,some D1=some q→∃ o:Obj,X3.heap[q]?=some o∧o.isCells=false:=fun r e=>by cases e;exact ⟨_,hk5,rfl⟩
          have hld:=load_plan (hh3.stay (grownBy_putObj' _ D1 (.deferred none)) hr) zcells_size
          refine ⟨_,results_box_tmp (x:=4) (y:=5) (t:=99) rfl _ _ _ rfl hld,hb3.trans (belowK_b (w:=W4) (by omega) _ D1 _ _ hD9 hk5 rfl rfl),_,false,rfl,zcells_size,zcells_one,?_⟩
          have hRN:R=none:=by
           rw [HRK.out,HPE.out,HPK.out,putAll,HFS0.out]
           dsimp only
           rw [HQ.out]
           rfl
          rw [hRN]
          rfl
         | some q =>
          have hr2:=HRS.out
          rw [hq] at hr2
          obtain ⟨rfl,hr3⟩:=hr2
          have HQ:=Lib.hid hq
          have HR3:=Lib.hid hr3
          clear hq hr3
          go_wp2_with fail
          exact ⟨⟨k+1,q,by rw [HKN.out];omega,by go_num,HR3.out,HPI.out.put hkL (by rw [HNM.out];exact HFS0.out) (HOK.out nm d HFS0.out).2 HQ.out,HPE.out.trans (HPK.out.trans (by rw [putAll,HFS0.out];dsimp only;rw [HQ.out]))⟩,by simp [intOf];omega⟩
      case neg =>
       obtain rfl:k=n6:=by omega
       have hkI:¬ ((k:Int)<(k:Int)):=by omega
       have HPZ:Hid (R=endM ov fs ks (some p)):=Lib.hid (by rw [HRK.out,HPE.out,List.drop_of_length_le (by rw [HKN.out];exact Nat.le_refl _)];rfl)
       have hpw:p.ws.length≤11*k:=HPI.out.ws
       clear HPE HPI HRK
       go_wp2_with fail
       go_loopw [89] (fun si wr=>RelDrop O W6 (w.heap.size+1) ov fs ks p p.ws.length si wr) (fun si _=>k - (intOf si).toNat)
       case atStart=>exact ⟨0,p,Nat.zero_le _,rfl,HPY.out,Nat.le_refl _,rfl⟩
       case round =>
        obtain ⟨j,q,hj,rfl,hql,hqw,hqe⟩:=hrel
        obtain ⟨Z,hZ⟩:∃ Z,Z=wr:=⟨_,rfl⟩
        subst hZ
        rw [HKN.out] at hj
        have HQE:=Lib.hid hqe
        have HQY:=Lib.hid hql
        clear hql hqe
        by_cases hlt2:j<k
        case pos =>
         have hjI:(j:Int)<(k:Int):=by omega
         have hj0:(0:Int)≤(j:Int):=by omega
         have hjn:((j:Int)).toNat=j:=by omega
         have hjw:IntKind.i64.wrap ((j:Int)+1)=(j:Int)+1:=IntWalk.i64_in _ (by omega)
         have hjL:j<ks.length:=by rw [HKN.out];exact hlt2
         have hjl:j<ls.length:=by rw [HN6.out];exact hlt2
         obtain ⟨_,_,_,_,_,_,hoy⟩:=HMP.out Z HQY.out.only
         obtain ⟨g6,rfl,_,hc6,_⟩:=hoy.at_ (j:=j) (v:=encStr ls[j]) (by simp [hjl])
         obtain ⟨nm,hnm⟩:∃ nm,nm=bA ls[j]:=⟨_,rfl⟩
         replace hc6:Z.cell? ⟨g6,j,none⟩=some (.string nm):=by rw [hnm];exact hc6
         have HNM:Hid (ks[j]=nm):=Lib.hid (by rw [hnm];simp [HKS.out,ksOf])
         have HPK:Hid (dropAll ov fs (ks.drop j) q=dropAll ov fs (nm :: ks.drop (j+1)) q):=Lib.hid (by rw [List.drop_eq_getElem_cons hjL,HNM.out])
         have hmem:ls[j]∈strKeys D:=HPL.out.mem_iff.1 (List.getElem_mem hjl)
         have HVX:Hid (nm.size≤9223372036854775807∧∃ x,vf nm=some x):=Lib.hid (HM.out.ofKey hmem hnm)
         have hns:=HVX.out.1
         have HSO:Hid (slotO (nvOf ns) nm=slotO ov nm):=Lib.hid (by rw [HOVE.out])
         have HSC:=Lib.hid (slot_any (HMP.out Z HQY.out.only).2.2.1 HFS.out.mt.nvOk nm)
         rw [HSO.out] at HSC
         clear hnm hmem hoy
         obtain ⟨x,hx⟩:=HVX.out.2
         have hfn:=(HMP.out Z HQY.out.only).2.1 nm
         cases hfs:fs nm with
         | none=>rw [hfs] at hfn;rw [hfn] at hx;cases hx
         | some xx =>
          cases xx with
          | some d =>
           rw [hfs] at hfn
           obtain ⟨dA,dc,hv0,_⟩:=hfn
           obtain ⟨dn,hdn⟩:∃ dn,dn=d.length:=⟨_,rfl⟩
           have HLK:Hid (∀ W',Only (fun k=>k=w.heap.size+1) W6 W'→(Instr.lookup 93 (.map (some b)) (.string nm) false).run Tryz.prog W' = .ok (.agg #[.bool true,.slice dA dn dc]) W'):=Lib.hid fun W' hW'=>by
            have:=(HMP.out W' hW').1.look nm hns
            rw [hv0] at this
            rw [hdn]
            exact this
           have HFS0:=Lib.hid hfs
           have hff:=field_fate0 true dA dn dc
           clear hfs hx hv0 hdn
           go_wp2_with (first | (refine HSC.out.mono ?_;rintro e Z1 ⟨rfl,hb1⟩;have HZ1:Hid (PlAny O W6 (w.heap.size+1) q Z1):=Lib.hid (HQY.out.below hb1);have hlk:=HLK.out _ HZ1.out.only;clear hb1) | fail)
           exact ⟨⟨j+1,q,by rw [HKN.out];omega,by go_num,HZ1.out,by omega,HQE.out.trans (HPK.out.trans (by simp only [dropAll,HFS0.out]))⟩,by simp [intOf];omega⟩
          | none =>
           rw [hfs] at hfn
           have HLK:Hid (∀ W',Only (fun k=>k=w.heap.size+1) W6 W'→(Instr.lookup 93 (.map (some b)) (.string nm) false).run Tryz.prog W' = .ok (.agg #[.bool false,.slice none 0 0]) W'):=Lib.hid fun W' hW'=>by
            have:=(HMP.out W' hW').1.look nm hns
            rw [show vf nm=some zFV from hfn] at this
            exact this
           have HFS0:=Lib.hid hfs
           have hff:=field_fate0 false none 0 0
           clear hfs hx hfn
           cases hso:slotO ov nm with
           | none =>
            rw [hso] at HSC
            dsimp only [slotI] at HSC
            have HSN:=Lib.hid hso
            clear hso
            go_wp2_with (first | (refine HSC.out.mono ?_;rintro e Z1 ⟨rfl,hb1⟩;have HZ1:Hid (PlAny O W6 (w.heap.size+1) q Z1):=Lib.hid (HQY.out.below hb1);have hlk:=HLK.out _ HZ1.out.only;clear hb1) | fail)
            exact ⟨⟨j+1,q,by rw [HKN.out];omega,by go_num,HZ1.out,by omega,HQE.out.trans (HPK.out.trans (by simp only [dropAll,HFS0.out,HSN.out]))⟩,by simp [intOf];omega⟩
           | some i =>
            rw [hso] at HSC
            dsimp only [slotI] at HSC
            have HSN:=Lib.hid hso
            have hi40:i<40:=(slotO_some hso).1
            have hiI:(i:Int)<40:=by omega
            have hi0:(0:Int)≤(i:Int):=by omega
            clear hso
            go_wp2_with (first | (refine HSC.out.mono ?_;rintro e Z1 ⟨rfl,hb1⟩;have HZ1:Hid (PlAny O W6 (w.heap.size+1) q Z1):=Lib.hid (HQY.out.below hb1);have hlk:=HLK.out _ HZ1.out.only;clear hb1) | (refine wpList_store_mid rfl 70 (.tmp 108) (.tmp 106) rfl (w.heap.size+1) (i*3) #[.string ⟨#[]⟩,.int .i64 0,.slice none 0 0] rfl rfl (HZ1.out.zero hi40).1 size_node (all_oneCell_toArray (by intro u hu;simp at hu;rcases hu with rfl | rfl | rfl <;> rfl)) ?_;generalize hZ2:World.setCells _ _ _ _=Z2;have HZ2:Hid (PlAny O W6 (w.heap.size+1) { q with nv:=updV q.nv i zV } Z2):=Lib.hid (by rw [←hZ2];exact (HZ1.out.zero hi40).2);have HWN:=Lib.hid (HZ2.out.writeNil (by show q.ws.length≤8000;omega) (i:Int));clear hZ2) | (refine HWN.out.mono ?_;rintro e Z3 ⟨rfl,h3⟩;have HZ3:=Lib.hid h3;clear h3) | fail)
            refine ⟨⟨j+1,q.free i,by rw [HKN.out];omega,by go_num,HZ3.out,?_,HQE.out.trans (HPK.out.trans (by simp only [dropAll,HFS0.out,HSN.out]))⟩,by simp [intOf];omega⟩
            show (q.ws ++ [((i:Int),zsec)]).length≤_
            rw [List.length_append]
            simp
            omega
        case neg =>
         obtain rfl:j=k:=by omega
         have hjI:¬ ((j:Int)<(j:Int)):=by omega
         have HQZ:Hid (R=endM ov fs ks (some p)∧dropAll ov fs ks p=q):=Lib.hid ⟨HPZ.out,by rw [HQE.out,List.drop_of_length_le (by rw [HKN.out];exact Nat.le_refl _)];rfl⟩
         clear HQE HPZ
         obtain ⟨nsQ,fA,fc,wA,wc,lw,hst⟩:=HQY.out
         have HST9:=Lib.hid hst
         clear hst
         obtain ⟨nw,hnw⟩:∃ nw,nw=lw.length:=⟨_,rfl⟩
         have HNW:=Lib.hid hnw
         obtain ⟨CL,hCL⟩:∃ CL,CL=pcs nsQ q.us fA q.fr.length fc wA nw wc:=⟨_,rfl⟩
         have HCL:=Lib.hid hCL
         have HH9:Hid (Holds Z (w.heap.size+1) 99 CL.toArray):=Lib.hid (by rw [hCL,hnw];exact HST9.out.at_.hd)
         have HC9:Hid (CL.length=162):=Lib.hid (by rw [hCL,hnw];exact HST9.out.at_.size)
         have HW9:Hid (∀ W',Holds W' (w.heap.size+1) 99 CL.toArray→W'.cell? ⟨w.heap.size+1,161,none⟩=some (.slice wA nw wc)):=Lib.hid fun W' hW'=>by
          rw [hCL] at hW'
          exact (PlanAt.mk HST9.out.at_.n40 HST9.out.at_.u40 hW').writes
         have HONE:Hid (CL.toArray.all (·.oneCell')=true):=Lib.hid (by rw [hCL];exact pcs_one)
         have hqw2:q.ws.length=nw:=by rw [hnw,←HST9.out.ws,wv_length]
         clear hnw hCL
         go_wp2_with fail
         have HTRB:Hid (Z.drew.there w.heap.size 0 CL.toArray.size):=Lib.hid (by
          have h1:Holds Z.drew w.heap.size 99 Tryz.zeroCells99:=(HMP.out Z HST9.out.only).2.2.2.2.1
          exact h1.there (by rw [zcells_size,List.size_toArray,HC9.out]))
         refine wp_region_noPanic ?_
         refine wp_region_held_drew (S:=fun W=>Holds W (w.heap.size+1) 99 CL.toArray) (by kernel_rfl) ((show Holds Z.drew _ _ _ from HH9.out)) (fun hHeld=>?_)
         refine wpAnyH_take (i:=1) (oi:={ dst:=some 113,op:=Op.fieldAddr 99 (Operand.tmp 6) 3,type:=0,pos:=_,after:=_,guard:=none }) (v:=?_) rfl (by kernel_rfl) (by kernel_rfl) (by kernel_rfl) (fun _ _ _ h=>h) (Or.inl ⟨by rfl,?_⟩) hHeld ?_
         rotate_left 1
         ·(intro W hW;(try dsimp only at hW);go_simp;try with_reducible rfl)
         try simp only [Act.put,List.setIfInBounds_toArray,List.set_cons_zero,List.set_cons_succ]
         refine wpAnyH_take (i:=2) (oi:={ dst:=some 114,op:=Op.load 97 (Operand.tmp 113),type:=97,pos:=_,after:=_,guard:=none }) (v:=?_) rfl (by kernel_rfl) (by kernel_rfl) (by kernel_rfl) (fun _ _ _ h=>h) (Or.inl ⟨by rfl,?_⟩) hHeld ?_
         rotate_left 1
         ·(intro W hW;have k9:=HW9.out _ hW;(try dsimp only at hW);go_simp;try with_reducible rfl)
         try simp only [Act.put,List.setIfInBounds_toArray,List.set_cons_zero,List.set_cons_succ]
         refine wpAnyH_take (i:=3) (oi:={ dst:=some 115,op:=Op.call { callee:=Callee.builtin Builtin.len,args:=#[Operand.tmp 114],argTypes:=#[97] },type:=3,pos:=_,after:=_,guard:=none }) (v:=?_) rfl (by kernel_rfl) (by kernel_rfl) (by kernel_rfl) (fun _ _ _ h=>h) (Or.inl ⟨by rfl,?_⟩) hHeld ?_
         rotate_left 1
         ·(intro W hW;(try dsimp only at hW);go_simp;try with_reducible rfl)
         try simp only [Act.put,List.setIfInBounds_toArray,List.set_cons_zero,List.set_cons_succ]
         refine wpAnyH_take (i:=4) (oi:={ dst:=some 116,op:=Op.binOp BinOp.leq 3 (Operand.tmp 115) (Operand.const (Value.int IntKind.i64 150)) 3,type:=4,pos:=_,after:=_,guard:=none }) (v:=?_) rfl (by kernel_rfl) (by kernel_rfl) (by kernel_rfl) (fun _ _ _ h=>h) (Or.inl ⟨by rfl,?_⟩) hHeld ?_
         rotate_left 1
         ·(intro W hW;(try dsimp only at hW);go_simp;try with_reducible rfl)
         try simp only [Act.put,List.setIfInBounds_toArray,List.set_cons_zero,List.set_cons_succ]
         refine wpAnyH_ready (rs:=[0]) (by kernel_rfl) (by simp) ?_
         refine AllReadyH.cons (o:={ dst:=some 112,op:=Op.load 99 (Operand.tmp 6),type:=99,pos:=_,after:=_,guard:=none }) rfl (fun K hK=>?_) AllReadyH.nil
         rw [if_pos (by rfl)]
         refine wp_load_mid (P:=Tryz.prog) 99 (.tmp 6) rfl (w.heap.size+1) 0 rfl CL _ (by have:=HH9.out.rangeAll;exact this) Tryz.underlying99 rfl (by rw [size_plan,HC9.out]) ?_
         refine hK.out _ _ hHeld (fun _=>?_)
         clear hK K
         try simp only [Act.put,List.setIfInBounds_toArray,List.set_cons_zero,List.set_cons_succ]
         refine wpAnyH_ready (rs:=[5]) (by kernel_rfl) (by simp) ?_
         refine AllReadyH.cons (o:={ dst:=none,op:=Op.store 99 (Operand.tmp 4) (Operand.tmp 112),type:=0,pos:=_,after:=_,guard:=none }) rfl (fun K hK=>?_) AllReadyH.nil
         rw [if_pos (by rfl)]
         refine wp_store_mid (P:=Tryz.prog) _ _ _ rfl w.heap.size 0 CL.toArray rfl rfl HTRB.out (by rw [size_plan,List.size_toArray,HC9.out]) HONE.out ?_
         generalize hZ5:World.setCells _ _ _ _=Z5
         have HZ5:Hid (Z5=Z.drew.setCells w.heap.size 0 CL.toArray.toList):=Lib.hid hZ5.symm
         clear hZ5
         have HS5:Hid (Holds Z5 (w.heap.size+1) 99 CL.toArray):=Lib.hid (by rw [HZ5.out];exact (setCells_aside (by omega) _ _ _).trans HH9.out)
         refine hK.out _ _ (HS5.out) (fun _=>?_)
         clear hK K hHeld
         try simp only [Act.put,List.setIfInBounds_toArray,List.set_cons_zero,List.set_cons_succ]
         have hHeld:(fun W=>Holds W (w.heap.size+1) 99 CL.toArray) Z5:=HS5.out
         refine wpAnyH_take (i:=6) (oi:={ dst:=some 5,op:=Op.assign (Operand.tmp 116),type:=4,pos:=_,after:=_,guard:=none }) (v:=?_) rfl (by kernel_rfl) (by kernel_rfl) (by kernel_rfl) (fun _ _ _ h=>h) (Or.inl ⟨by rfl,?_⟩) hHeld ?_
         rotate_left 1
         ·(intro W hW;(try dsimp only at hW);go_simp;try with_reducible rfl)
         try simp only [Act.put,List.setIfInBounds_toArray,List.set_cons_zero,List.set_cons_succ]
         refine wpAnyH_done (by kernel_rfl) ?_ _
         refine NoPanic.normal ?_
         clear hHeld
         have hnwI:(nw:Int)≤150↔nw≤150:=by omega
         obtain ⟨bb,hbb⟩:∃ bb,bb=decide ((nw:Int)≤150):=⟨_,rfl⟩
         have HBB:=Lib.hid hbb
         rw [←hbb]
         clear hbb hnwI
         go_wp2_with fail
         have hd9:=(HMP.out Z HST9.out.only).2.2.2.1
         have hbw9:=(HMP.out Z HST9.out.only).2.2.2.2.2.1
         have hrb9:=(HMP.out Z HST9.out.only).2.2.2.2.1
         have hz49:=HZ4.out
         have hk5:Z5.heap[D1]?=some (.deferred (some [])):=by rw [HZ5.out,setCells_aside (by omega)];exact hd9
         have hr:∀ q,some D1=some q→∃ o:Obj,Z5.heap[q]?=some o∧o.isCells=false:=fun r e=>by cases e;exact ⟨_,hk5,rfl⟩
         have hrd:Holds Z.drew w.heap.size 99 Tryz.zeroCells99:=hrb9
         have hh5:Holds Z5 w.heap.size 99 CL.toArray:=by
          have:=hrd.whole (L:=CL.toArray.toList) (by rw [zcells_size];exact HC9.out)
          rw [←HZ5.out,Array.toArray_toList] at this
          exact this
         have hb5:Below w.heap.size w Z5:=⟨by rw [HZ5.out];exact (setCells_same _ _ _ _).1.trans hbw9.os,by rw [HZ5.out];exact (setCells_same _ _ _ _).2.1.trans hbw9.tape,by rw [HZ5.out];exact (setCells_same _ _ _ _).2.2.trans hbw9.output,by rw [HZ5.out,setCells_size];exact hbw9.size,fun k hk=>by rw [HZ5.out,setCells_aside (by omega)];exact hbw9.block k hk⟩
         have hld:=load_plan (hh5.stay (grownBy_putObj' _ D1 (.deferred none)) hr) (by rw [List.size_toArray];exact HC9.out)
         refine ⟨by simp,.inl ⟨_,_,rfl,run_takeDeferred hk5,?_⟩⟩
         refine ⟨_,results_box_tmp (x:=4) (y:=5) (t:=99) rfl _ _ _ rfl hld,hb5.trans (belowK_b (w:=W4) (by omega) _ D1 _ _ hD hk5 rfl rfl),_,bb,rfl,by rw [List.size_toArray];exact HC9.out,HONE.out,?_⟩
         rw [HQZ.out.1]
         show RckQ _ _ (if (dropAll ov fs ks p).ws.length≤150 then some (dropAll ov fs ks p) else none) _ _ _
         rw [HQZ.out.2,hqw2,HBB.out]
         by_cases h150:nw≤150
         ·rw [if_pos h150]
          refine ⟨decide_eq_true (by omega),nsQ,q.us,fA,q.fr.length,fc,wA,wc,lw,HST9.out.at_.u40,?_,by rw [←HNW.out,←HCL.out]⟩
          have hzz:(Z5.putObj D1 (.deferred none)).heap.size=Z.heap.size:=by rw [World.putObj_size,HZ5.out,setCells_size];rfl
          have hww:=HWW6.out.size
          have kp:∀ g,g<Z.heap.size→g≠w.heap.size→(∃ o:Obj,Z.heap[g]?=some o∧o.isCells=true)→(Z5.putObj D1 (.deferred none)).heap[g]?=Z.heap[g]?:=fun g h1 h2 ⟨o,h3,h4⟩=>by
           have hne:g≠D1:=fun e=>by
            rw [e,hd9] at h3
            injection h3 with h3
            rw [←h3] at h4
            cases h4
           rw [World.putObj_heap_other hne,HZ5.out,setCells_aside h2]
           rfl
          have hw6:W.heap.size≤W6.heap.size:=hz6
          have hold:∀ g,O g→g<w.heap.size:=fun g hg=>by
           rw [HO.out] at hg
           obtain ⟨d,hd,h0,hg⟩:=hg
           exact (HFS.out.fs.rd d hd).block_lt h0 hg
          have hblk:∀ d∈nsQ,0<d.pl.length→∀ g,blockOf d.pa=some g→g≠w.heap.size∧(O g∨w.heap.size≤g):=fun d hd hn g hg=>by
           by_cases hg6:g<W6.heap.size
           ·have h1:=HST9.out.pn d hd hn g hg hg6
            have:=hold g h1
            exact ⟨by omega,.inl h1⟩
           ·exact ⟨by omega,.inr (by omega)⟩
          refine ⟨HST9.out.at_.n40,HST9.out.nv,fun d hd=>⟨?_,fun hn g hg=>(hblk d hd hn g hg).2⟩,HST9.out.own.keep fun g hg hlt=>?_,fun g hg=>by have:=(HST9.out.wnew g hg).1;omega,HST9.out.ws,fun x hx=>⟨?_,fun hn g hg=>by have:=((HST9.out.rd x hx).2 hn g hg).1;omega⟩⟩
          ·have h1:=(HST9.out.pl d hd).1
           rw [hzz]
           refine h1.onB fun hn g hg hlt=>kp g hlt (hblk d hd hn g hg).1 ?_
           obtain ⟨b',off',e1,_,hc⟩:=h1.2.2 hn
           rw [e1] at hg
           have hg:b'=g:=by simpa [blockOf] using hg
           rw [←hg]
           exact cells_of (hc 0 hn)
          ·obtain ⟨cs,fr',h1⟩:=HST9.out.own.cells hg
           have:=(HST9.out.wnew g hg).1
           exact kp g hlt (by omega) ⟨_,h1,rfl⟩
          ·have h1:=(HST9.out.rd x hx).1
           rw [hzz]
           refine h1.onB fun hn g hg hlt=>kp g hlt (by have:=((HST9.out.rd x hx).2 hn g hg).1;omega) ?_
           obtain ⟨b',off',e1,_,hc⟩:=h1.2.2 hn
           rw [e1] at hg
           have hg:b'=g:=by simpa [blockOf] using hg
           rw [←hg]
           exact cells_of (hc 0 hn)
         ·rw [if_neg h150]
          exact decide_eq_false (by omega)
    case stop =>
     rintro D c pre W hD _ h hK
     exact h.elim
  ·obtain ⟨kx,x,rfl,rfl,hvx⟩:=HM.out.key hkey hv hat
   obtain ⟨hneed,hw10,hx6⟩:=HFR.out.want HOK.out hvx
   have hcol2:=hcol.step hlk hat
   obtain ⟨xt,xa,xn,xc⟩:=x
   dsimp only at hneed hx6
   replace hrun:(Instr.next (.pointer (some ⟨w.heap.size+2,0,none⟩)) false 0).run Tryz.prog V = .ok (.tuple #[.bool true,key,.agg #[.bool xt,.slice xa xn xc]]) w':=hrun
   replace hen:(Instr.entry (.pointer (some ⟨w.heap.size+2,0,none⟩))).run Tryz.prog w' = .ok (.tuple #[key,.agg #[.bool xt,.slice xa xn xc]]) w':=hen
   have HNE:Hid (∀ W,Calls Tryz.prog 70 #[.int .i64 (xn:Int)] W fun e w'=>e = .returned (.int .i64 (wantF fs (bA kx):Int))∧W=w'):=Lib.hid fun W=>need_any W _ (by omega) _ hneed
   have hnn2:=HM2.out.1.size_le
   have hkw:IntKind.i64.wrap ((W0:Int)+(wantF fs (bA kx):Int))=(W0:Int)+(wantF fs (bA kx):Int):=IntWalk.i64_in _ (by omega)
   have HC2:=Lib.hid hcol2
   have HR2:=Lib.hid hrng'
   have HGR:=Lib.hid hgr
   clear hrng hcol hon hW0 hat hv hkey hlk hneed hcol2 hrng' hgr
   go_wp2_with (first | (refine (HNE.out _).mono ?_;rintro e V5 ⟨rfl,rfl⟩) | fail)
   have hb6:=HR2.out.alloc (.cells #[.bool xt,.slice xa xn xc] 144)
   refine ⟨⟨_,cnt',ss ++ [kx],hb6,HC2.out,by rw [List.length_append];simp;omega,by rw [wantK_snoc,←HW0.out,Int.natCast_add],by rw [wantK_snoc,←HW0.out,List.length_append];simp;omega,HON.out.trans ⟨HGR.out.os,HGR.out.tape,HGR.out.output,?_,fun k hk hF=>?_⟩ fun k _ e=>e⟩,?_⟩
   ·have:=HGR.out.size;simp;omega
   ·exact ((Below.refl w'.heap.size w').alloc (Nat.le_refl _) _).block k (Nat.lt_of_lt_of_le hk HGR.out.size) |>.trans (HGR.out.block k hk fun e=>hF (Option.some.inj e))
   ·rw [hb6.left_eq,HLE.out];exact hlt
end
end Go.Proofs.YtnedpkhehiijhaaGreat
