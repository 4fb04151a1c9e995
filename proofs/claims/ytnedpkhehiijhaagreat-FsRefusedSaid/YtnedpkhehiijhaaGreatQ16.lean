/- Words and laws for the statement, part 16. -/
import Derived.StillTailTactics
import Derived.Test.YtnedpkhehiijhaaGreatQ06
import Derived.Test.YtnedpkhehiijhaaGreatQ07
import Derived.Test.YtnedpkhehiijhaaGreatQ08
import Derived.Test.YtnedpkhehiijhaaGreatQ11
import Derived.Test.YtnedpkhehiijhaaGreatQ14
import Derived.Test.YtnedpkhehiijhaaGreatQ15
namespace Go.Proofs.YtnedpkhehiijhaaGreat
open Go.RowKit Go.WideMaps Go.Maps Go.Sort
set_option linter.unusedVariables false
set_option linter.unusedSimpArgs false
attribute [local go_sem ↓] Go.wp_at_zero Go.wp_at_succ

theorem RdWr.of_own {w:World} {A:Option Addr} {c:Nat} {L:List Wr} (h:OwnV 132 2 w A c L.length (L.flatMap wrCells)) (hr:∀ x∈L,Rd .u8 w w.heap.size x.da x.dc x.d):RdWr A c L w:=by
 refine ⟨h.le.1,h.le.2,fun j hj=>?_,fun hn=>?_⟩
 ·have:L.getD j default=L[j]:=by simp [List.getD,hj]
  rw [this]
  exact hr _ (List.getElem_mem hj)
 have at2:∀ j (hj:j<L.length),∀ t,t<2→∀ v,(wrCells L[j])[t]?=some v→∃ g,A=some ⟨g,0,none⟩∧g<w.heap.size∧w.cell? ⟨g,2*j+t,none⟩=some v:=fun j hj t ht v hv=>by
  have f:=flat_at (f:=wrCells) (m:=2) (L:=L) (fun _ _=>rfl) (List.getElem?_eq_getElem hj) (j:=t) ht
  obtain ⟨g,hA,hlt,hc,_⟩:=h.at_ (j:=2*j+t) (v:=v) (by rw [f];exact hv)
  exact ⟨g,hA,hlt,hc⟩
 obtain ⟨g,rfl,hlt,_⟩:=at2 0 hn 0 (by omega) _ rfl
 refine ⟨g,0,rfl,hlt,fun j hj=>?_⟩
 have k:∀ t,t<2→∀ v,(wrCells L[j])[t]?=some v→w.cell? ⟨g,2*j+t,none⟩=some v:=fun t ht v hv=>by
  obtain ⟨g',e,_,hc⟩:=at2 j hj t ht v hv
  injection e with e
  injection e with e
  subst e
  exact hc
 have e:L.getD j default=L[j]:=by simp [List.getD,hj]
 have k0:=k 0 (by omega) _ rfl
 have k1:=k 1 (by omega) _ rfl
 rw [e,show 0+j*2=2*j+0 by omega]
 exact ⟨k0,k1⟩
theorem PlOut.off {O:Nat→Prop} {B:Nat} {p:Pln} {ns:List Nd} {wA:Option Addr} {wc:Nat} {l:List Wr} {W:World} (h:PlOut O B p ns wA wc l W) {F:Nat→Prop} (hF:∀ k,F k→k<B):OffF F (RdWr wA wc l) W:=fun W' hs hk=>by
 have nF:∀ g,B≤g→¬ F g:=fun g h1 h2=>by have:=hF g h2;omega
 exact RdWr.of_own (h.own.keep fun g hg hlt=>hk g (nF g (h.wnew g hg)) hlt) fun x hx=>((h.rd x hx).1.onB fun hn g hg hlt=>hk g (nF g ((h.rd x hx).2 hn g hg)) hlt).more hs
/-- These are the names, in their order. -/
structure KeysF (fs:FateF) (ks:List ByteArray):Prop where
 nd:ks.Nodup
 mem:∀ t,t∈ks↔fs t≠none
 up:ks.Pairwise fun a b=>a.data.toList≤b.data.toList
theorem FateR.keys {W:World} {B b n:Nat} {fs:FateF} {vf:ByteArray→Option FV} {D:DataW Value} (h:FateR W B fs vf) (hm:MapF W b n D vf):KeysF fs (ksOf ((strKeys D).mergeSort leB)):=by
 have hp:=List.mergeSort_perm (strKeys D) leB
 have hmem:∀ t:ByteArray,t.data.toList∈strKeys D↔fs t≠none:=fun t=>by
  have h1:(vf t).isSome↔fs t≠none:=by
   have:=h t
   revert this
   cases fs t with
   | none=>intro e;rw [e];simp
   | some x =>
    cases x with
    | none=>intro e;rw [e];simp
    | some d=>rintro ⟨A,c,e,_⟩;rw [e];simp
  rw [←h1,←(hm.2 t).1]
  constructor
  ·intro hk
   have:=(hm.ofKey hk (nm:=t) (bA_data t).symm).2
   rw [(hm.2 t).1]
   obtain ⟨x,hx⟩:=this
   rw [hx];rfl
  ·intro hk
   obtain ⟨es,rfl⟩:=hm.1.isMap
   rw [has_eq,List.any_eq_true] at hk
   obtain ⟨q,hq,he⟩:=hk
   unfold strKeys
   refine List.mem_map.2 ⟨q,hq,?_⟩
   have:=WideAt.sameKey_eq he
   rw [this]
   rfl
 have hnd:(strKeys D).Nodup:=by
  obtain ⟨es,hD,hpw,_⟩:=hm.1.entries law
  obtain ⟨es',hD',hko⟩:=hm.1.keysOf
  obtain rfl:es=es':=by rw [hD] at hD';simpa using hD'
  subst hD
  unfold strKeys List.Nodup
  refine List.pairwise_map.2 (hpw.imp_of_mem fun {p q} hp' hq' hne e=>hne ?_)
  obtain ⟨v1,hv1⟩:=hko p hp'
  obtain ⟨v2,hv2⟩:=hko q hq'
  obtain ⟨a,_,ha,_⟩:=Maps.keyOf_str Tryz.underlying9 hv1
  obtain ⟨b,_,hb,_⟩:=Maps.keyOf_str Tryz.underlying9 hv2
  rw [ha,hb] at e ⊢
  exact congrArg _ e
 have tr:∀ a b c:List UInt8,leB a b=true→leB b c=true→leB a c=true:=fun a b c h1 h2=>by simp only [leB,decide_eq_true_eq] at *;exact List.le_trans h1 h2
 have to:∀ a b:List UInt8,(leB a b || leB b a)=true:=fun a b=>by simp only [leB,Bool.or_eq_true,decide_eq_true_eq];exact List.le_total a b
 refine ⟨?_,fun t=>?_,?_⟩
 ·unfold ksOf List.Nodup
  exact List.pairwise_map.2 ((hp.nodup_iff.2 hnd).imp fun hne e=>hne (bA_inj e))
 ·rw [←hmem t,←hp.mem_iff]
  unfold ksOf
  rw [List.mem_map]
  constructor
  ·rintro ⟨l,hl,rfl⟩;exact hl
  ·intro hl;exact ⟨_,hl,bA_data t⟩
 ·unfold ksOf
  refine List.pairwise_map.2 ((List.pairwise_mergeSort tr to (strKeys D)).imp fun hle=>?_)
  exact of_decide_eq_true hle
theorem KeysF.one {fs:FateF} {a b:List ByteArray} (h:KeysF fs a) (h':KeysF fs b):a=b:=by
 have hp:a.Perm b:=(List.perm_ext_iff_of_nodup h.nd h'.nd).2 fun t=>by rw [h.mem,h'.mem]
 exact List.Perm.eq_of_pairwise (le:=fun x y:ByteArray=>x.data.toList≤y.data.toList) (fun x y _ _ h1 h2=>ByteArray.ext (Array.ext' (List.le_antisymm h1 h2))) h.up h'.up hp
/-- What Do leaves of the files. -/
def FsNow (w w':World) (F:Nat→Prop) (gf gd:Nat) (s':Dk) (q:Pln) (ns:List Nd) (ok:Bool):Prop :=
 ∃ F',Disk w' F' gd s'∧(∀ k,F' k→(F k∧k<w.heap.size)∨w.heap.size≤k)∧Only (fun k=>F k∨k=gf) w w'∧(ok=true→∃ ns',FsAt w' gf gd ns'∧(∀ i,i<40→nvOf ns' i=q.nv i)∧∀ d∈ns',0<d.pl.length→∀ g,blockOf d.pa=some g→¬ F' g∧g≠gf)
def DoP (w:World) (F:Nat→Prop) (gf gd:Nat) (s:Dk) (ns:List Nd) (r:Nat ⊕ FateF) (e:Ending) (w':World):Prop :=
 match r with
 | .inl k=>e = .returned (.int .i64 (k:Int))∧Below w.heap.size w w'
 | .inr fs=>∃ ks,KeysF fs ks∧match reckM (nvOf ns) fs ks (usL ns) (hasB (heldN ns)) s.many with
  | none=>e = .returned (.int .i64 5)∧Below w.heap.size w w'
  | some q=>e = .returned (.int .i64 ((s.commit q.ws).2:Nat))∧FsNow w w' F gf gd (s.commit q.ws).1 q ns (decide ((s.commit q.ws).2=0))
theorem fateS_err {has:ByteArray→Bool}:∀ {l:List OpV} {fs:FateF} {k:Nat},fateS has l fs = .inl k→k=7∨k=1
 | [],fs,k,h=>by cases h
 | o :: l,fs,k,h=>by
  unfold fateS at h
  by_cases hd:o.drop=true
  ·rw [if_pos hd] at h
   rcases hf:fs o.name with _ | _ | v <;> rw [hf] at h <;> dsimp only at h
   ·by_cases hc:has o.name=false
    ·rw [if_pos hc] at h
     injection h with h
     exact .inl h.symm
    ·rw [if_neg hc] at h
     exact fateS_err h
   ·rw [if_pos trivial] at h
    injection h with h
    exact .inl h.symm
   ·rw [if_neg id] at h
    exact fateS_err h
  ·rw [if_neg hd] at h
   by_cases hc:NameOk o.name∧o.data.length≤600
   ·rw [if_pos hc] at h
    exact fateS_err h
   ·rw [if_neg hc] at h
    injection h with h
    exact .inr h.symm
theorem Holds.nodesSet {w:World} {gf gd:Nat} {ns nq:List Nd} (h:Holds w gf 73 (.pointer (some ⟨gd,0,none⟩) :: ncs ns).toArray) (h1:ns.length=40) (h2:nq.length=40):Holds (w.setCells gf 1 (ncs nq)) gf 73 (.pointer (some ⟨gd,0,none⟩) :: ncs nq).toArray:=by
 have l1:=ncs_len ns
 have l2:=ncs_len nq
 have h3:=setCells_all (ncs nq) w gf 1 _ _ h
 rw [set_all (ncs nq) 1 _ (by simp;omega)] at h3
 have e:((Value.pointer (some ⟨gd,0,none⟩) :: ncs ns).toArray.toList.take 1 ++ (ncs nq ++ (Value.pointer (some ⟨gd,0,none⟩) :: ncs ns).toArray.toList.drop (1+(ncs nq).length)))=Value.pointer (some ⟨gd,0,none⟩) :: ncs nq:=by
  rw [List.drop_of_length_le (by simp;omega)]
  simp
 rw [e] at h3
 exact h3
end Go.Proofs.YtnedpkhehiijhaaGreat
namespace Go.Proofs.YtnedpkhehiijhaaGreat
open Go.RowKit Go.WideMaps Go.Maps Go.Sort
set_option linter.unusedVariables false
set_option linter.unusedSimpArgs false
attribute [local go_sem ↓] Go.wp_at_zero Go.wp_at_succ
section
variable {w:World} {F:Nat→Prop} {gf gd:Nat} {s:Dk} {ns:List Nd}
set_option maxRecDepth 100000 in
set_option maxHeartbeats 8000000 in
theorem do_any (h:Fsy w F gf gd s ns) (A:Option Addr) (c n:Nat) (L:List OpA) (hl:L.length=n) (hr:RdOp w w.heap.size A c L) (hn1:n≤600)
  (hok:∀ fs,fateS (hasN ns) (L.map OpA.v) (fun _=>none) = .inr fs→∀ t d,fs t=some (some d)→NameOk t∧d.length≤600) (hwl:s.waits.length≤70000) (hops:s.ops≤700000000) :
  Calls Tryz.prog 13 #[.pointer (some ⟨gf,0,none⟩),.slice A n c] w (DoP w F gf gd s ns (fateS (hasN ns) (L.map OpA.v) (fun _=>none))):=by
 have HFA:=Lib.hid (fates_any h.fs h.mt.nvOk A c n L hl hr (by omega))
 obtain ⟨r,hr0⟩:∃ r,r=fateS (hasN ns) (L.map OpA.v) (fun _=>none):=⟨_,rfl⟩
 rw [←hr0] at HFA hok ⊢
 have k0:w.cell? ⟨gf,0,none⟩=some (.pointer (some ⟨gd,0,none⟩)):=h.fs.hd.cell 0
 have HFS:=Lib.hid h
 have HOK:=Lib.hid hok
 have HWL:Hid (s.waits.length≤70000∧s.ops≤700000000):=Lib.hid ⟨hwl,hops⟩
 have HN:=Lib.hid hn1
 have HRQ:=Lib.hid hr0
 clear hl hr hr0 hok hwl hops
 go_enter Tryz.func13,Tryz.ntmps13
 go_wp2_with fail
 refine HFA.out.mono ?_
 rintro e w1 ⟨hb1,hm1⟩
 have HB1:=Lib.hid hb1
 clear k0 HFA hb1
 cases r with
 | inl k =>
  dsimp only at hm1
  subst hm1
  have hk:k≠0:=by rcases fateS_err HRQ.out.symm with e | e <;> omega
  have hkI:((k:Int) != 0)=true:=by rw [bne,beq_eq_false_iff_ne.2 (by omega)];rfl
  go_wp2_with fail
  go_ret
  exact ⟨rfl,HB1.out⟩
 | inr fs =>
  obtain ⟨b,nn,D,vf,rfl,hnn,hmp,hfr,hbb⟩:=hm1
  have HKS:Hid (KeysF fs (ksOf ((strKeys D).mergeSort leB))):=Lib.hid (hfr.keys hmp)
  have HRK:=Lib.hid (reckon_any (HFS.out.under HB1.out) b nn D vf hmp (by have:=HN.out;omega) w.heap.size fs hfr HB1.out.size (HOK.out fs rfl))
  obtain ⟨r2,hr2⟩:∃ r2,r2=reckM (nvOf ns) fs (ksOf ((strKeys D).mergeSort leB)) (usL ns) (hasB (heldN ns)) s.many:=⟨_,rfl⟩
  rw [←hr2] at HRK
  have HR2:=Lib.hid hr2
  clear hmp hfr hr2
  go_wp2_with fail
  refine HRK.out.mono ?_
  rintro e w2 ⟨hb2,cells,bb,rfl,hcs,hone,hq⟩
  have HB2:Hid (Below w.heap.size w w2):=Lib.hid (HB1.out.trans (hb2.mono HB1.out.size))
  have HB12:=Lib.hid hb2
  have HCS:=Lib.hid hcs
  have HONE:=Lib.hid hone
  have HQ:=Lib.hid hq
  obtain ⟨V0,hV0⟩:∃ V0,V0=w2.alloc (.cells Tryz.zeroCells99 99):=⟨_,rfl⟩
  obtain ⟨pb,hpb⟩:∃ pb,pb=w2.heap.size:=⟨_,rfl⟩
  have hh0:Holds V0 pb 99 Tryz.zeroCells99:=by rw [hV0,hpb];exact Holds.fresh _ _ _
  have HTH:=Lib.hid (hh0.there (n:=cells.size) (by rw [zcells_size,hcs]))
  obtain ⟨V,hV⟩:∃ V,V=V0.setCells pb 0 cells.toList:=⟨_,rfl⟩
  have hz:V.heap.size=w2.heap.size+1:=by rw [hV,setCells_size,hV0];simp
  have hbV:Below w2.heap.size w2 V:=by
   have h1:Below w2.heap.size w2 V0:=by rw [hV0];exact (Below.refl _ _).alloc (Nat.le_refl _) _
   exact ⟨by rw [hV];exact (setCells_same _ _ _ _).1.trans h1.os,by rw [hV];exact (setCells_same _ _ _ _).2.1.trans h1.tape,by rw [hV];exact (setCells_same _ _ _ _).2.2.trans h1.output,by omega,fun k hk=>by rw [hV,setCells_aside (by omega)];exact h1.block k hk⟩
  have hhV:Holds V pb 99 cells:=by
   have:=hh0.whole (L:=cells.toList) (by rw [Array.length_toList,hcs,zcells_size])
   rw [←hV,Array.toArray_toList] at this
   exact this
  have HHV:=Lib.hid hhV
  have HBV:=Lib.hid hbV
  have HV0:=Lib.hid hV0
  have HV:=Lib.hid hV
  have HPB:=Lib.hid hpb
  have HPZ:Hid (pb<V.heap.size∧w.heap.size≤pb):=Lib.hid ⟨by omega,by have:=HB2.out.size;omega⟩
  have HIN:Hid ((Tryz.prog.info? 99).map (·.size)=some cells.size):=Lib.hid (by rw [size_plan,hcs])
  clear hb2 hcs hone hq hV0 hh0 hV hz hbV hhV hpb HRK
  cases r2 with
  | none =>
   have hbf:bb=false:=HQ.out
   subst hbf
   go_wp2_with (first | (rw [←HV0.out,←HPB.out]) | (refine wpList_store_mid rfl 99 (.tmp 7) (.tmp 32) rfl pb 0 cells rfl rfl HTH.out HIN.out HONE.out ?_;rw [←HV.out]) | fail)
   go_ret
   refine ⟨_,HKS.out,?_⟩
   rw [←HR2.out]
   exact ⟨rfl,HB2.out.trans (HBV.out.mono HB2.out.size)⟩
  | some q =>
   obtain ⟨hbt,nsq,us,fA,fn,fc,wA,wc,l,hu40,hout,hcells⟩:=HQ.out
   subst hbt
   have HOUT:=Lib.hid hout
   obtain ⟨nw,hnw⟩:∃ nw,nw=l.length:=⟨_,rfl⟩
   have HNW:=Lib.hid hnw
   have HPV:Hid (PlanAt V pb nsq us fA fn fc wA nw wc):=Lib.hid ⟨hout.n40,hu40,by rw [hnw,←hcells];exact HHV.out⟩
   have HBW:Hid (Below w.heap.size w V):=Lib.hid (HB2.out.trans (HBV.out.mono HB2.out.size))
   obtain ⟨F0,hF0⟩:∃ F0:Nat→Prop,F0=fun k=>F k∧k<w.heap.size:=⟨_,rfl⟩
   have HF0:=Lib.hid hF0
   have hlow:=HFS.out.dk.low
   rw [←hF0] at hlow
   have HDK:Hid (Disk V.drew F0 gd s):=Lib.hid (hlow.keep (Only.of_below (F:=fun _=>False) HBW.out.drew) (fun _ _ e=>e))
   have hFl:∀ k,F0 k→k<w.heap.size:=fun k hk=>by rw [hF0] at hk;exact hk.2
   have HFL:=Lib.hid hFl
   have HOFF:Hid (OffF F0 (RdWr wA wc l) V.drew):=Lib.hid ((hout.off (fun k hk=>by have:=hFl k hk;have:=HB1.out.size;omega)).under HBV.out.drew)
   have hq150:q.ws.length≤150:=by
    have h1:=HR2.out
    unfold reckM at h1
    split at h1
    ·revert h1
     cases putAll (nvOf ns) fs (ksOf ((strKeys D).mergeSort leB)) _ with
     | none=>intro h1;cases h1
     | some p1 =>
      intro h1
      unfold endM at h1
      dsimp only at h1
      split at h1
      ·rename_i h2
       injection h1 with h1
       rw [h1]
       exact h2
      ·cases h1
    ·cases h1
   have hnw1:nw≤1000:=by
    have:=congrArg List.length hout.ws
    rw [wv_length] at this
    omega
   have HCM:Hid (Calls Tryz.prog 48 #[.pointer (some ⟨gd,0,none⟩),.slice wA nw wc] V.drew fun e w'=>e = .returned (.int .i64 ((s.commit q.ws).2:Nat))∧DJ V.drew F0 gd (s.commit q.ws).1 w'):=Lib.hid (by
    have:=commit_any HDK.out wA wc nw l hnw.symm HOFF.out hnw1 HWL.out.1 HWL.out.2
    rw [hout.ws] at this
    exact this)
   have HGF:Hid (gf<w.heap.size∧¬ F0 gf):=Lib.hid ⟨HFS.out.fs.hd.lt,fun e=>by rw [hF0] at e;exact HFS.out.nf e.1⟩
   have HGV:Hid (Holds V gf 73 (.pointer (some ⟨gd,0,none⟩) :: ncs ns).toArray):=Lib.hid (HFS.out.fs.hd.under HBW.out HFS.out.fs.hd.lt)
   have HSV:Hid (V.cell? ⟨gf,0,none⟩=some (.pointer (some ⟨gd,0,none⟩))∧V.cell? ⟨pb,161,none⟩=some (.slice wA nw wc)):=Lib.hid ⟨HGV.out.cell 0,HPV.out.writes⟩
   clear hF0 hlow hFl hnw hout hcells hu40 HQ
   go_wp2_with (first | (rw [←HV0.out,←HPB.out]) | (refine wpList_store_mid rfl 99 (.tmp 7) (.tmp 32) rfl pb 0 cells rfl rfl HTH.out HIN.out HONE.out ?_;rw [←HV.out]) | fail)
   refine wp_region_noPanic ?_
   refine wp_region_held_drew (S:=fun W=>W.cell? ⟨gf,0,none⟩=some (.pointer (some ⟨gd,0,none⟩))∧W.cell? ⟨pb,161,none⟩=some (.slice wA nw wc)) (by kernel_rfl) (HSV.out) (fun hHeld=>?_)
   refine wpAnyH_take (i:=0) (oi:={ dst:=some 36,op:=Op.move (Operand.tmp 0),type:=27,pos:=_,after:=_,guard:=none }) (v:=?_) rfl (by kernel_rfl) (by kernel_rfl) (by kernel_rfl) (fun _ _ _ h=>h) (Or.inl ⟨by rfl,?_⟩) hHeld ?_
   rotate_left 1
   ·(intro W hW;(try dsimp only at hW);go_simp;try with_reducible rfl)
   try simp only [Act.put,List.setIfInBounds_toArray,List.set_cons_zero,List.set_cons_succ]
   refine wpAnyH_take (i:=1) (oi:={ dst:=some 37,op:=Op.nilCheck (Operand.tmp 36),type:=0,pos:=_,after:=_,guard:=none }) (v:=?_) rfl (by kernel_rfl) (by kernel_rfl) (by kernel_rfl) (fun _ _ _ h=>h) (Or.inl ⟨by rfl,?_⟩) hHeld ?_
   rotate_left 1
   ·(intro W hW;(try dsimp only at hW);go_simp;try with_reducible rfl)
   try simp only [Act.put,List.setIfInBounds_toArray,List.set_cons_zero,List.set_cons_succ]
   refine wpAnyH_take (i:=2) (oi:={ dst:=some 38,op:=Op.fieldAddr 73 (Operand.tmp 37) 0,type:=0,pos:=_,after:=_,guard:=none }) (v:=?_) rfl (by kernel_rfl) (by kernel_rfl) (by kernel_rfl) (fun _ _ _ h=>h) (Or.inl ⟨by rfl,?_⟩) hHeld ?_
   rotate_left 1
   ·(intro W hW;(try dsimp only at hW);go_simp;try with_reducible rfl)
   try simp only [Act.put,List.setIfInBounds_toArray,List.set_cons_zero,List.set_cons_succ]
   refine wpAnyH_take (i:=3) (oi:={ dst:=some 39,op:=Op.load 23 (Operand.tmp 38),type:=23,pos:=_,after:=_,guard:=none }) (v:=?_) rfl (by kernel_rfl) (by kernel_rfl) (by kernel_rfl) (fun _ _ _ h=>h) (Or.inl ⟨by rfl,?_⟩) hHeld ?_
   rotate_left 1
   ·(intro W hW;have q0:=hW.1;(try dsimp only at hW);go_simp;try with_reducible rfl)
   try simp only [Act.put,List.setIfInBounds_toArray,List.set_cons_zero,List.set_cons_succ]
   refine wpAnyH_take (i:=4) (oi:={ dst:=some 40,op:=Op.fieldAddr 99 (Operand.tmp 7) 3,type:=0,pos:=_,after:=_,guard:=none }) (v:=?_) rfl (by kernel_rfl) (by kernel_rfl) (by kernel_rfl) (fun _ _ _ h=>h) (Or.inl ⟨by rfl,?_⟩) hHeld ?_
   rotate_left 1
   ·(intro W hW;(try dsimp only at hW);go_simp;try with_reducible rfl)
   try simp only [Act.put,List.setIfInBounds_toArray,List.set_cons_zero,List.set_cons_succ]
   refine wpAnyH_take (i:=5) (oi:={ dst:=some 41,op:=Op.load 97 (Operand.tmp 40),type:=97,pos:=_,after:=_,guard:=none }) (v:=?_) rfl (by kernel_rfl) (by kernel_rfl) (by kernel_rfl) (fun _ _ _ h=>h) (Or.inl ⟨by rfl,?_⟩) hHeld ?_
   rotate_left 1
   ·(intro W hW;have q1:=hW.2;(try dsimp only at hW);go_simp;try with_reducible rfl)
   try simp only [Act.put,List.setIfInBounds_toArray,List.set_cons_zero,List.set_cons_succ]
   refine wpAnyH_ready (rs:=[6]) (by kernel_rfl) (by simp) ?_
   refine AllReadyH.cons (o:={ dst:=some 42,op:=Op.call { callee:=Callee.value (Operand.func 48),args:=#[Operand.tmp 39,Operand.tmp 41],argTypes:=#[23,97] },type:=28,pos:=_,after:=_,guard:=none }) rfl (fun K hK=>?_) AllReadyH.nil
   go_simp
   refine HCM.out.mono ?_
   rintro e w5 ⟨rfl,hdj⟩
   have HDJ:=Lib.hid hdj
   have HS5:Hid (w5.cell? ⟨gf,0,none⟩=some (.pointer (some ⟨gd,0,none⟩))∧w5.cell? ⟨pb,161,none⟩=some (.slice wA nw wc)):=Lib.hid ⟨(cell_same (hdj.2.block gf (by have:=HBW.out.size;have:=HGF.out.1;show gf<V.heap.size;omega) HGF.out.2) _).trans HSV.out.1,(cell_same (hdj.2.block pb HPZ.out.1 (fun e=>by have:=HFL.out _ e;have:=HPZ.out.2;omega)) _).trans HSV.out.2⟩
   clear hdj
   go_simp
   refine hK.out _ _ (HS5.out) (fun _=>?_)
   clear hK K hHeld
   try simp only [Act.put,List.setIfInBounds_toArray,List.set_cons_zero,List.set_cons_succ]
   have hHeld:(fun W=>W.cell? ⟨gf,0,none⟩=some (.pointer (some ⟨gd,0,none⟩))∧W.cell? ⟨pb,161,none⟩=some (.slice wA nw wc)) w5:=HS5.out
   refine wpAnyH_take (i:=7) (oi:={ dst:=some 9,op:=Op.assign (Operand.tmp 42),type:=28,pos:=_,after:=_,guard:=none }) (v:=?_) rfl (by kernel_rfl) (by kernel_rfl) (by kernel_rfl) (fun _ _ _ h=>h) (Or.inl ⟨by rfl,?_⟩) hHeld ?_
   rotate_left 1
   ·(intro W hW;(try dsimp only at hW);go_simp;try with_reducible rfl)
   try simp only [Act.put,List.setIfInBounds_toArray,List.set_cons_zero,List.set_cons_succ]
   refine wpAnyH_done (by kernel_rfl) ?_ _
   refine NoPanic.normal ?_
   clear hHeld HCM
   obtain ⟨r5,hr5⟩:∃ r5,r5=(s.commit q.ws).2:=⟨_,rfl⟩
   rw [←hr5]
   have HR5:=Lib.hid hr5
   clear hr5
   have hVw:=HBW.out.size
   have HON:Hid (Only (fun k=>F k∨k=gf) w w5):=Lib.hid ((Only.of_below (F:=fun k=>F k∨k=gf) HBW.out.drew).trans HDJ.out.2 fun k hk e=>by rw [HF0.out] at e;exact .inl e.1)
   have HFG:Hid (∀ k,grow F0 V.drew w5 k→(F k∧k<w.heap.size)∨w.heap.size≤k):=Lib.hid fun k hk=>by
    rcases hk with hk | hk
    ·rw [HF0.out] at hk;exact .inl hk
    ·exact .inr (Nat.le_trans hVw hk.1)
   by_cases h5:r5=0
   case neg =>
    have hkI:((r5:Int) != 0)=true:=by rw [bne,beq_eq_false_iff_ne.2 (by omega)];rfl
    go_wp2_with fail
    go_ret
    refine ⟨_,HKS.out,?_⟩
    rw [←HR2.out]
    refine ⟨by rw [←HR5.out];rfl,grow F0 V.drew w5,HDJ.out.1,HFG.out,HON.out,fun e=>?_⟩
    rw [←HR5.out] at e
    exact absurd (of_decide_eq_true e) h5
   case pos =>
    subst h5
    have HG5:Hid (Holds w5 gf 73 (.pointer (some ⟨gd,0,none⟩) :: ncs ns).toArray):=Lib.hid ((HDJ.out.2.block gf (by have:=HGF.out.1;show gf<V.heap.size;omega) HGF.out.2).trans HGV.out)
    have HP5:Hid (PlanAt w5 pb nsq us fA fn fc wA nw wc):=Lib.hid ⟨HPV.out.n40,HPV.out.u40,(HDJ.out.2.block pb HPZ.out.1 (fun e=>by have:=HFL.out _ e;have:=HPZ.out.2;omega)).trans HPV.out.hd⟩
    have HRN:Hid (w5.rangeAt pb 0 (ncs nsq)):=Lib.hid HP5.out.nodes
    have HLQ:Hid ((ncs nsq).length=120∧(ncs ns).length=120):=Lib.hid ⟨HP5.out.ncsl,by rw [ncs_len,HFS.out.fs.n40]⟩
    have HSZ:Hid ((Tryz.prog.info? 71).map (·.size)=some (ncs nsq).length):=Lib.hid (by rw [size_nodes,HLQ.out.1])
    have HSZ2:Hid ((Tryz.prog.info? 71).map (·.size)=some (ncs nsq).toArray.size):=Lib.hid (by rw [size_nodes,List.size_toArray,HLQ.out.1])
    have HTF:Hid (w5.there gf 1 (ncs nsq).toArray.size):=Lib.hid fun j hj=>by
     refine ⟨?_,HG5.out.open_ _⟩
     rw [HG5.out.cell]
     have h1:=HLQ.out.1
     have h2:=HLQ.out.2
     rw [List.size_toArray] at hj
     simp
     omega
    obtain ⟨w6,hw6⟩:∃ w6,w6=w5.setCells gf 1 (ncs nsq).toArray.toList:=⟨_,rfl⟩
    have HW6:=Lib.hid hw6
    clear hw6
    go_wp2_with (first | (refine wpList_load_mid rfl 71 (.tmp 47) rfl pb 0 rfl (ncs nsq) _ HRN.out Tryz.underlying71 rfl HSZ.out ?_) | (refine wpList_store_mid rfl 71 (.tmp 50) (.tmp 48) rfl gf 1 (ncs nsq).toArray rfl rfl HTF.out HSZ2.out (all_oneCell_toArray (ncs_one nsq)) ?_;rw [←HW6.out]) | fail)
    go_ret
    refine ⟨_,HKS.out,?_⟩
    rw [←HR2.out]
    have ho6:Only (fun k=>k=gf) w5 w6:=by
     rw [HW6.out]
     exact ⟨(setCells_same _ _ _ _).1,(setCells_same _ _ _ _).2.1,(setCells_same _ _ _ _).2.2,Nat.le_of_eq (setCells_size _ _ _ _).symm,fun k _ hk=>setCells_aside hk _ _ _⟩
    have hz6:w6.heap.size=w5.heap.size:=by rw [HW6.out,setCells_size]
    have hng:∀ k,grow F0 V.drew w5 k→k≠gf:=fun k hk e=>by
     subst e
     rcases hk with hk | hk
     ·exact HGF.out.2 hk
     ·have h1:V.heap.size≤k:=hk.1
      have:=HGF.out.1
      omega
    have hz5:V.heap.size≤w5.heap.size:=HDJ.out.2.size
    have h12:=HB1.out.size
    have hv2:=HBV.out.size
    have hblk:∀ d∈nsq,0<d.pl.length→∀ g,blockOf d.pa=some g→g<w2.heap.size∧¬ F0 g∧¬ grow F0 V.drew w5 g∧g≠gf:=fun d hd hn g hg=>by
     obtain ⟨h1,h2⟩:=HOUT.out.pl d hd
     have hlt:=h1.block_lt hn hg
     have key:¬ F0 g∧g≠gf:=by
      rcases h2 hn g hg with ⟨d0,hd0,hn0,hg0⟩ | h3
      ·have h4:=HFS.out.nd d0 hd0 hn0 g hg0
       exact ⟨fun e=>by rw [HF0.out] at e;exact h4.1 e.1,h4.2⟩
      ·exact ⟨fun e=>by have:=HFL.out g e;omega,by have:=HGF.out.1;omega⟩
     refine ⟨hlt,key.1,fun e=>?_,key.2⟩
     rcases e with e | e
     ·exact key.1 e
     ·have h5:V.heap.size≤g:=e.1
      omega
    refine ⟨by rw [←HR5.out];rfl,grow F0 V.drew w5,HDJ.out.1.keep ho6 hng,HFG.out,HON.out.trans ho6 (fun k _ e=>.inr e),fun _=>⟨nsq,⟨HOUT.out.n40,?_,fun d hd=>?_⟩,HOUT.out.nv,fun d hd hn g hg=>?_⟩⟩
    ·have:=HG5.out.nodesSet (nq:=nsq) HFS.out.fs.n40 HOUT.out.n40
     rw [HW6.out]
     exact this
    ·refine ((HOUT.out.pl d hd).1.onB fun hn g hg hlt=>?_).more (by omega)
     obtain ⟨h1,h2,h3,h4⟩:=hblk d hd hn g hg
     rw [ho6.block g (by omega) h4,HDJ.out.2.block g (by show g<V.heap.size;omega) h2]
     exact HBV.out.block g hlt
    ·exact ⟨(hblk d hd hn g hg).2.2.1,(hblk d hd hn g hg).2.2.2⟩
end
end Go.Proofs.YtnedpkhehiijhaaGreat
namespace Go.Proofs.YtnedpkhehiijhaaGreat
open Go.RowKit
set_option linter.unusedVariables false
set_option linter.unusedSimpArgs false

theorem filt_len {α:Type} [DecidableEq α] {R P:List α} (hR:R.Nodup) (hP:P.Nodup) (hs:∀ x∈P,x∈R) (q:α→Bool) (hq:∀ x∈R,q x=true↔x ∉ P):(R.filter q).length+P.length=R.length:=by
 have hp:(R.filter fun x=>!q x).Perm P:=(List.perm_ext_iff_of_nodup (hR.filter _) hP).2 fun x=>by
  rw [List.mem_filter]
  constructor
  ·rintro ⟨h1,h2⟩
   have h2:¬ (q x=true):=by simpa using h2
   rw [hq x h1] at h2
   exact Decidable.not_not.1 h2
  ·intro h
   refine ⟨hs x h,?_⟩
   have:¬ (q x=true):=fun hh=>(hq x (hs x h)).1 hh h
   simpa using this
 rw [←hp.length_eq]
 have:=List.length_eq_countP_add_countP q (l:=R)
 rw [List.countP_eq_length_filter,List.countP_eq_length_filter] at this
 rw [this]
 congr 2
 exact List.filter_congr fun x _=>by cases q x <;> rfl
/-- All places of all files. -/
def allP (nv:Nat→V3):List Int:=(List.range 40).flatMap fun i=>(nv i).2.2
theorem NodeOk.nodup {s:ByteArray} {z:Int} {l:List Int} (h:NodeOk s z l):l.Nodup:=by
 unfold List.Nodup
 rw [List.pairwise_iff_getElem]
 intro i j hi hj hij
 have:=h.dist j i hij hj
 simpa [List.getD,hi,hj] using this
theorem NvOk.emp {nv:Nat→V3} {m:Nat} (h:NvOk nv m) {i:Nat} (hi:i<40) (hu:usedV (nv i)=false):(nv i).2.2=[]:=by rw [h.none i hi hu];rfl
theorem NvOk.nodupP {nv:Nat→V3} {m:Nat} (h:NvOk nv m):(allP nv).Nodup:=by
 unfold allP List.Nodup
 rw [List.pairwise_flatMap]
 refine ⟨fun i hi=>?_,?_⟩
 ·have hi:=List.mem_range.1 hi
  cases hu:usedV (nv i) with
  | true=>exact (h.node i hi hu).nodup
  | false=>rw [h.emp hi hu];exact List.Pairwise.nil
 ·rw [List.pairwise_iff_getElem]
  intro i j hi hj hij x hx y hy e
  simp only [List.getElem_range] at hx hy
  simp only [List.length_range] at hi hj
  subst e
  cases hu:usedV (nv i) with
  | true =>
   cases hv:usedV (nv j) with
   | true=>exact h.plc i j hi hj (by omega) hu hv x hx hy
   | false=>rw [h.emp hj hv] at hy;cases hy
  | false=>rw [h.emp hi hu] at hx;cases hx
theorem NvOk.memP {nv:Nat→V3} {m:Nat} (h:NvOk nv m) {x:Int} (hx:x∈allP nv):40≤x∧x<(m:Int):=by
 unfold allP at hx
 obtain ⟨i,hi,hx⟩:=List.mem_flatMap.1 hx
 have hi:=List.mem_range.1 hi
 cases hu:usedV (nv i) with
 | true=>exact h.rng i hi hu x hx
 | false=>rw [h.emp hi hu] at hx;cases hx
theorem has_allP {s:Dk} {ns:List Nd} (hm:Mounts s ns) (x:Nat):hasB (heldN ns) x=true↔(x:Int)∈allP (nvOf ns):=by
 have hv:=hm.nvOk
 rw [hasB_iff]
 constructor
 ·intro h
  obtain ⟨j,hj,_,hx⟩:=hasL_of h
  have hmem:=List.getElem_mem hj
  generalize (heldN ns)[j]=d at hx hmem
  unfold heldN at hmem
  obtain ⟨h1,_⟩:=List.mem_filter.1 hmem
  obtain ⟨i,hi,rfl⟩:=List.getElem_of_mem h1
  unfold allP
  refine List.mem_flatMap.2 ⟨i,List.mem_range.2 (by rw [←hm.n40];exact hi),?_⟩
  unfold nvOf
  simpa [List.getD,hi,Nd.v] using hx
 ·intro h
  unfold allP at h
  obtain ⟨i,hi,hx⟩:=List.mem_flatMap.1 h
  have hi:=List.mem_range.1 hi
  have hi2:i<ns.length:=by rw [hm.n40];exact hi
  cases hu:usedV (nvOf ns i) with
  | false=>rw [hv.emp hi hu] at hx;cases hx
  | true =>
   have e:ns.getD i default=ns[i]:=by simp [List.getD,hi2]
   have hmem:ns[i]∈heldN ns:=by
    unfold heldN
    exact List.mem_filter.2 ⟨List.getElem_mem hi2,by rw [←e];exact hu⟩
   obtain ⟨j,hj,ej⟩:=List.getElem_of_mem hmem
   refine hasL_to hj hj ?_
   rw [ej,←e]
   exact hx
theorem left_len {s:Dk} {ns:List Nd} (hm:Mounts s ns):leftN s ns+(allP (nvOf ns)).length=s.many - 40:=by
 have hv:=hm.nvOk
 have hn:((allP (nvOf ns)).map Int.toNat).Nodup:=by
  unfold List.Nodup
  rw [List.pairwise_map]
  refine List.Pairwise.imp_of_mem (fun {a b} ha hb hne e=>hne ?_) hv.nodupP
  have:=hv.memP ha
  have:=hv.memP hb
  omega
 have hR:((List.range (s.many - 40)).map fun i=>40+i).Nodup:=by
  unfold List.Nodup
  rw [List.pairwise_map]
  exact List.nodup_range.imp fun h e=>h (by omega)
 have:=filt_len hR hn (fun x hx=>by
  obtain ⟨y,hy,rfl⟩:=List.mem_map.1 hx
  have:=hv.memP hy
  exact List.mem_map.2 ⟨y.toNat - 40,List.mem_range.2 (by omega),by omega⟩) (fun x=>!hasB (heldN ns) x) (fun x hx=>by
  have h1:(x∈(allP (nvOf ns)).map Int.toNat)↔(x:Int)∈allP (nvOf ns):=by
   constructor
   ·intro h
    obtain ⟨y,hy,rfl⟩:=List.mem_map.1 h
    have:=hv.memP hy
    rw [Int.toNat_of_nonneg (by omega)]
    exact hy
   ·intro h
    exact List.mem_map.2 ⟨_,h,Int.toNat_natCast x⟩
  rw [h1,←has_allP hm]
  simp)
 rw [List.length_map,List.length_map,List.length_range] at this
 unfold leftN freeN
 exact this
/-- The slots that are used. -/
def usedI (nv:Nat→V3):List Nat:=(List.range 40).filter fun i=>usedV (nv i)
theorem usedI_mem {nv:Nat→V3} {i:Nat}:i∈usedI nv↔i<40∧usedV (nv i)=true:=by
 unfold usedI
 rw [List.mem_filter,List.mem_range]
theorem usedI_nodup (nv:Nat→V3):(usedI nv).Nodup:=List.nodup_range.filter _
theorem names_perm {nv:Nat→V3} {m:Nat} (h:NvOk nv m) {K:List ByteArray} (hK:K.Nodup) (hm:∀ t,t∈K↔slotO nv t≠none):((usedI nv).map fun i=>(nv i).1).Perm K:=by
 refine (List.perm_ext_iff_of_nodup ?_ hK).2 fun t=>?_
 ·unfold List.Nodup
  rw [List.pairwise_map]
  refine List.Pairwise.imp_of_mem (fun {a b} ha hb hne=>?_) (usedI_nodup nv)
  obtain ⟨a1,a2⟩:=usedI_mem.1 ha
  obtain ⟨b1,b2⟩:=usedI_mem.1 hb
  exact h.name a b a1 b1 hne a2 b2
 ·rw [hm t,List.mem_map]
  constructor
  ·rintro ⟨i,hi,rfl⟩
   obtain ⟨a1,a2⟩:=usedI_mem.1 hi
   rw [slotO_is h a1 a2]
   exact fun e=>nomatch e
  ·intro hne
   cases hs:slotO nv t with
   | none=>exact absurd hs hne
   | some i =>
    obtain ⟨a1,a2,a3⟩:=slotO_some hs
    exact ⟨i,usedI_mem.2 ⟨a1,a2⟩,a3⟩
theorem used_len {nv:Nat→V3} {m:Nat} (h:NvOk nv m) {K:List ByteArray} (hK:K.Nodup) (hm:∀ t,t∈K↔slotO nv t≠none):(usedI nv).length=K.length:=by
 have:=(names_perm h hK hm).length_eq
 rwa [List.length_map] at this
theorem sum_filter {f:Nat→Nat} {q:Nat→Bool}:∀ (l:List Nat),(∀ i∈l,q i=false→f i=0)→(l.map f).sum=((l.filter q).map f).sum
 | [],_=>rfl
 | i :: l,h=>by
  have ih:=sum_filter l fun j hj=>h j (List.mem_cons_of_mem _ hj)
  rw [List.filter_cons]
  split
  ·simp only [List.map_cons,List.sum_cons,ih]
  ·rename_i hq
   simp only [List.map_cons,List.sum_cons,ih,h i (List.mem_cons_self ..) (by simpa using hq),Nat.zero_add]
/-- How many places the file of this name has. -/
def placeN (nv:Nat→V3) (t:ByteArray):Nat:=match slotO nv t with | some i=>(nv i).2.2.length | none=>0
theorem allP_len {nv:Nat→V3} {m:Nat} (h:NvOk nv m) {K:List ByteArray} (hK:K.Nodup) (hm:∀ t,t∈K↔slotO nv t≠none):(allP nv).length=(K.map (placeN nv)).sum:=by
 have e1:(allP nv).length=((List.range 40).map fun i=>(nv i).2.2.length).sum:=by
  unfold allP
  rw [List.length_flatMap]
 have e2:=sum_filter (f:=fun i=>(nv i).2.2.length) (q:=fun i=>usedV (nv i)) (List.range 40) fun i hi hu=>by
  rw [h.emp (List.mem_range.1 hi) hu];rfl
 rw [e1,e2]
 have e3:=((names_perm h hK hm).map (placeN nv)).sum_nat
 rw [←e3,List.map_map]
 unfold usedI
 refine congrArg List.sum (List.map_congr_left fun i hi=>?_)
 obtain ⟨a1,a2⟩:=List.mem_filter.1 hi
 have a1:=List.mem_range.1 a1
 show _=placeN nv (nv i).1
 unfold placeN
 rw [slotO_is h a1 a2]
theorem count_filter {q:Nat→Bool}:∀ (l:List Nat),(l.map q).count false+(l.filter q).length=l.length
 | []=>rfl
 | i :: l=>by
  have ih:=count_filter (q:=q) l
  rw [List.filter_cons,List.map_cons]
  cases hq:q i <;> simp <;> omega
theorem usL_count (ns:List Nd):(usL ns).count false+(usedI (nvOf ns)).length=40:=by
 have h:=count_filter (q:=fun i=>usedV (nvOf ns i)) (List.range 40)
 unfold usL usedI
 generalize List.count false _=a at *
 generalize List.length (List.filter _ _)=b at *
 rw [List.length_range] at h
 omega
/-! When there is room. -/
def putC (fs:FateF) (l:List ByteArray):Nat:=(l.map fun t=>match fs t with | some (some _)=>1 | _=>0).sum
def newC (ov:Nat→V3) (fs:FateF) (l:List ByteArray):Nat:=(l.map fun t=>match fs t,slotO ov t with | some (some _),none=>1 | _,_=>0).sum
def dropC (ov:Nat→V3) (fs:FateF) (l:List ByteArray):Nat:=(l.map fun t=>match fs t,slotO ov t with | some none,some _=>1 | _,_=>0).sum
theorem firstU_count:∀ {us:List Bool} {k i:Nat},firstU us k=some i→(us.set (i - k) true).count false+1=us.count false
 | [],_,_,h=>by cases h
 | u :: us,k,i,h=>by
  have hlt:=(firstU_some h).1
  unfold firstU at h
  split at h
  ·rename_i hu
   have:=firstU_some h
   have ih:=firstU_count h
   rw [show i - k=(i - (k+1))+1 by omega,List.set_cons_succ,hu]
   simpa using ih
  ·rename_i hu
   injection h with h
   subst h
   have hu:u=false:=by simpa using hu
   rw [Nat.sub_self,hu]
   simp
theorem firstU_zero {us:List Bool} {k:Nat} (h:firstU us k=none):us.count false=0:=List.count_eq_zero.2 fun hm=>by
 have:=firstU_none h _ hm
 cases this
theorem putAll_room {ov:Nat→V3} {fs:FateF}:∀ {l:List ByteArray} {p:Pln},(putAll ov fs l p=none↔p.us.count false<newC ov fs l)∧∀ q,putAll ov fs l p=some q→q.ws.length=p.ws.length+wantL fs l+putC fs l
 | [],p=>by
  refine ⟨⟨fun h=>(by cases h),fun h=>(by simp [newC] at h)⟩,fun q h=>?_⟩
  injection h with h
  subst h
  simp [wantL,putC]
 | s :: l,p=>by
  have e1:wantL fs (s :: l)=wantF fs s+wantL fs l:=rfl
  have e2:putC fs (s :: l)=(match fs s with | some (some _)=>1 | _=>0)+putC fs l:=rfl
  have e3:newC ov fs (s :: l)=(match fs s,slotO ov s with | some (some _),none=>1 | _,_=>0)+newC ov fs l:=rfl
  rw [e1,e2,e3]
  unfold putAll wantF
  have pl:∀ d,(putWs p.fr d (needN d)).length=needN d:=fun d=>by simp [putWs]
  rcases hf:fs s with _ | _ | d
  ·dsimp only
   have ih:=putAll_room (ov:=ov) (fs:=fs) (l:=l) (p:=p)
   rw [Nat.zero_add,Nat.zero_add,Nat.zero_add]
   exact ih
  ·dsimp only
   have ih:=putAll_room (ov:=ov) (fs:=fs) (l:=l) (p:=p)
   rw [Nat.zero_add,Nat.zero_add,Nat.zero_add]
   exact ih
  ·dsimp only
   cases hs:slotO ov s with
   | some i =>
    dsimp only [Pln.put]
    have ih:=putAll_room (ov:=ov) (fs:=fs) (l:=l) (p:=p.into i p.us s d)
    rw [Nat.zero_add]
    refine ⟨ih.1,fun q hq=>?_⟩
    rw [ih.2 q hq]
    simp [Pln.into,pl]
    omega
   | none =>
    dsimp only [Pln.put]
    cases hu:firstU p.us 0 with
    | none =>
     dsimp only
     have:=firstU_zero hu
     exact ⟨⟨fun _=>by omega,fun _=>rfl⟩,fun q hq=>by cases hq⟩
    | some i =>
     dsimp only
     have hc:=firstU_count hu
     rw [Nat.sub_zero] at hc
     have ih:=putAll_room (ov:=ov) (fs:=fs) (l:=l) (p:=p.into i (p.us.set i true) s d)
     refine ⟨ih.1.trans ?_,fun q hq=>?_⟩
     ·show (p.us.set i true).count false<_↔_
      omega
     ·rw [ih.2 q hq]
      simp [Pln.into,pl]
      omega
theorem dropAll_ws {ov:Nat→V3} {fs:FateF}:∀ {l:List ByteArray} {p:Pln},(dropAll ov fs l p).ws.length=p.ws.length+dropC ov fs l
 | [],p=>rfl
 | s :: l,p=>by
  have e:dropC ov fs (s :: l)=(match fs s,slotO ov s with | some none,some _=>1 | _,_=>0)+dropC ov fs l:=rfl
  rw [e]
  unfold dropAll
  rcases hf:fs s with _ | _ | d
  ·dsimp only;rw [dropAll_ws];omega
  ·cases hs:slotO ov s with
   | none=>dsimp only;rw [dropAll_ws];omega
   | some i =>
    dsimp only
    rw [dropAll_ws]
    simp [Pln.free]
    omega
  ·dsimp only;rw [dropAll_ws];omega
def RoomFor (ov:Nat→V3) (fs:FateF) (ks:List ByteArray) (us:List Bool) (n:Nat):Prop:=wantL fs ks≤n∧newC ov fs ks≤us.count false∧wantL fs ks+putC fs ks+dropC ov fs ks≤150
theorem reckM_iff {ov:Nat→V3} {fs:FateF} {ks:List ByteArray} {us:List Bool} {hb:Nat→Bool} {m:Nat}:reckM ov fs ks us hb m=none↔¬ RoomFor ov fs ks us (freeN hb (m - 40)).length:=by
 unfold reckM RoomFor
 by_cases h1:wantL fs ks≤(freeN hb (m - 40)).length
 ·rw [if_pos h1]
  obtain ⟨a,b⟩:=putAll_room (ov:=ov) (fs:=fs) (l:=ks) (p:=⟨ov,us,(freeN hb (m - 40)).take (wantL fs ks),[]⟩)
  rcases hp:putAll ov fs ks ⟨ov,us,(freeN hb (m - 40)).take (wantL fs ks),[]⟩ with _ | q
  ·have:=a.1 hp
   dsimp only at this
   exact ⟨fun _ h=>by omega,fun _=>rfl⟩
  ·have hn:¬ (us.count false<newC ov fs ks):=fun h=>by rw [a.2 h] at hp;cases hp
   have hl:=b q hp
   dsimp only [List.length_nil] at hl
   have hd:=dropAll_ws (ov:=ov) (fs:=fs) (l:=ks) (p:=q)
   unfold endM
   dsimp only
   by_cases h2:(dropAll ov fs ks q).ws.length≤150
   ·rw [if_pos h2]
    exact ⟨fun h=>(by cases h),fun h=>(h ⟨h1,by omega,by omega⟩).elim⟩
   ·rw [if_neg h2]
    exact ⟨fun _ h=>by omega,fun _=>rfl⟩
 ·rw [if_neg h1]
  exact ⟨fun _ h=>h1 h.1,fun _=>rfl⟩
end Go.Proofs.YtnedpkhehiijhaaGreat
namespace Go.Proofs.YtnedpkhehiijhaaGreat
open Go.RowKit
set_option linter.unusedVariables false
set_option linter.unusedSimpArgs false

theorem getDs {a:List (List Nat)} {j i:Nat} {x:List Nat}:(a.set j x).getD i []=a.getD i []∨(j=i∧(a.set j x).getD i []=x):=by
 by_cases h:j=i
 ·subst h
  rcases Nat.lt_or_ge j a.length with h1 | h1
  ·exact .inr ⟨rfl,by simp [List.getD,h1]⟩
  ·exact .inl (by rw [List.set_eq_of_length_le h1])
 ·exact .inl (by simp [List.getD,List.getElem?_set_ne h])
/-- Some of the writes have become of what was. -/
def Mix (a:List (List Nat)) (W:List (Int×List Nat)) (b:List (List Nat)):Prop:=b.length=a.length∧∀ i,b.getD i []=a.getD i []∨∃ p∈W,p.1.toNat=i∧b.getD i []=p.2
theorem setAll_mix (a:List (List Nat)) (W:List (Int×List Nat)):Mix a W (setAll a W):=by
 refine ⟨setAll_length _ _,fun i=>?_⟩
 induction W generalizing a with
 | nil=>exact .inl rfl
 | cons p l ih =>
  rcases ih (a.set p.1.toNat p.2) with h | ⟨q,hq,h1,h2⟩
  ·rcases getDs (a:=a) (j:=p.1.toNat) (i:=i) (x:=p.2) with h3 | ⟨h3,h4⟩
   ·exact .inl (h.trans h3)
   ·exact .inr ⟨p,List.mem_cons_self,h3,h.trans h4⟩
  ·exact .inr ⟨q,List.mem_cons_of_mem _ hq,h1,h2⟩
def wn (l:List (Int×List Nat)):List (Nat×List Nat):=l.map fun p=>(p.1.toNat,p.2)
def Still (s:Dk):Prop:=s.Sound∧s.waits=[]
theorem Still.now {s:Dk} (h:Still s):s.now=s.lasts:=by
 have:=h.1
 unfold Dk.Sound at this
 rw [h.2] at this
 exact this
theorem puts_sound {s:Dk} (h:s.Sound) (l:List (Int×List Nat)):(s.puts l).1.Sound:=by
 induction l generalizing s with
 | nil=>exact h
 | cons p l ih =>
  rw [Dk.puts]
  split
  ·exact ih (h.write _ _)
  ·exact h.write _ _
def plW (l:List (Int×List Nat)):List (Int×List Nat):=l.map fun p=>(157+p.1,p.2)
/-! What stands on a disk. -/
structure Cl (a:List (List Nat)) (N:Nat) (P:Nat→List Nat):Prop where
 len:a.length=N
 head:a.getD 0 []=apstB
 mark:a.getD 1 []=zsec
 pl:∀ i,157+i<N→a.getD (157+i) []=P i
def toldA (a:List (List Nat)) (n k:Nat):Int×List Nat :=
 ((((a.getD (2+k / 32) []).getD (2*(k % 32)) 0*256+(a.getD (2+k / 32) []).getD (2*(k % 32)+1) 0:Nat):Int),a.getD (2+sheetsN n+k) [])
def LogA (a:List (List Nat)) (L:List (Int×List Nat)):Prop:=(List.range L.length).map (toldA a L.length)=L
structure Mk (a:List (List Nat)) (N:Nat) (P:Nat→List Nat) (L:List (Int×List Nat)):Prop where
 len:a.length=N
 head:a.getD 0 []=apstB
 mark:a.getD 1 []=markB L.length
 log:LogA a L
 pl:∀ i:Nat,157+i<N→(∀ p∈L,p.1≠(i:Int))→a.getD (157+i) []=P i
def AllA (a:List (List Nat)) (L:List (Int×List Nat)):Prop:=∀ p∈L,a.getD (157+p.1.toNat) []=p.2
structure Dn (a:List (List Nat)) (N:Nat) (P:Nat→List Nat) (L:List (Int×List Nat)):Prop where
 len:a.length=N
 head:a.getD 0 []=apstB
 mark:a.getD 1 []=zsec
 all:AllA a L
 pl:∀ i:Nat,157+i<N→(∀ p∈L,p.1≠(i:Int))→a.getD (157+i) []=P i
structure GoodL (N:Nat) (L:List (Int×List Nat)):Prop where
 n1:158≤N
 n2:N≤400
 fit:∀ p∈L,0≤p.1∧157+p.1<(N:Int)∧p.2.length=64
 nd:(L.map (·.1)).Nodup
 ne:0<L.length
 le:L.length≤10
section
variable {a a':List (List Nat)} {N:Nat} {P:Nat→List Nat} {L:List (Int×List Nat)}
theorem Mix.off {W:List (Int×List Nat)} (h:Mix a W a') {i:Nat} (hi:∀ p∈W,p.1.toNat≠i):a'.getD i []=a.getD i []:=by
 rcases h.2 i with h1 | ⟨p,hp,h1,_⟩
 ·exact h1
 ·exact absurd h1 (hi p hp)
theorem LogA.same (h:LogA a L) (hs:∀ i,2≤i→i<157→a'.getD i []=a.getD i []) (hl:L.length≤10):LogA a' L:=by
 unfold LogA at h ⊢
 refine (List.map_congr_left fun k hk=>?_).trans h
 have:=List.mem_range.1 hk
 have h1:sheetsN L.length≤1:=by unfold sheetsN;omega
 unfold toldA
 rw [hs (2+k / 32) (by omega) (by omega),hs (2+sheetsN L.length+k) (by omega) (by omega)]
theorem Cl.set (h:Cl a N P) (hg:GoodL N L) (hlog:LogA a L):Mk (setAll a [(1,markB L.length)]) N P L:=by
 have hm:=setAll_mix a [(1,markB L.length)]
 have h3:=hg.n1
 have h4:=h.len
 have ho:∀ i,i≠1→(setAll a [(1,markB L.length)]).getD i []=a.getD i []:=fun i hh=>hm.off fun p hp e=>by rw [List.mem_singleton.1 hp] at e;exact hh e.symm
 exact ⟨hm.1.trans h.len,(ho 0 (by omega)).trans h.head,setAll_on (a:=a) (l:=[]) (r:=[]) (p:=(1,markB L.length)) (by show 1<a.length;omega) (fun q hq=>by cases hq),hlog.same (fun i h2 _=>ho i (by omega)) hg.le,fun i hh _=>(ho _ (by omega)).trans (h.pl i hh)⟩
theorem Mk.cleared (h:Mk a N P L) (hg:GoodL N L) (hall:AllA a L) (hm:Mix a [(1,zsec)] a'):(Mk a' N P L∧AllA a' L)∨Dn a' N P L:=by
 have ho:∀ i,i≠1→a'.getD i []=a.getD i []:=fun i hh=>hm.off fun p hp e=>by rw [List.mem_singleton.1 hp] at e;exact hh e.symm
 have hal:AllA a' L:=fun p hp=>(ho _ (by omega)).trans (hall p hp)
 rcases hm.2 1 with h1 | ⟨p,hp,_,h1⟩
 ·exact .inl ⟨⟨hm.1.trans h.len,(ho 0 (by omega)).trans h.head,h1.trans h.mark,h.log.same (fun i h2 _=>ho i (by omega)) hg.le,fun i hh hn=>(ho _ (by omega)).trans (h.pl i hh hn)⟩,hal⟩
 ·rw [List.mem_singleton.1 hp] at h1
  exact .inr ⟨hm.1.trans h.len,(ho 0 (by omega)).trans h.head,h1,hal,fun i hh hn=>(ho _ (by omega)).trans (h.pl i hh hn)⟩
theorem Mk.done (h:Mk a N P L) (hg:GoodL N L) (hall:AllA a L):Dn (setAll a [(1,zsec)]) N P L:=by
 have hm:=setAll_mix a [(1,zsec)]
 have h3:=hg.n1
 have h4:=h.len
 have ho:∀ i,i≠1→(setAll a [(1,zsec)]).getD i []=a.getD i []:=fun i hh=>hm.off fun p hp e=>by rw [List.mem_singleton.1 hp] at e;exact hh e.symm
 exact ⟨hm.1.trans h.len,(ho 0 (by omega)).trans h.head,setAll_on (a:=a) (l:=[]) (r:=[]) (p:=(1,zsec)) (by show 1<a.length;omega) (fun q hq=>by cases hq),fun p hp=>(ho _ (by omega)).trans (hall p hp),fun i hh hn=>(ho _ (by omega)).trans (h.pl i hh hn)⟩
theorem open_clean {s:Dk} (hd:s.down=false) (hl:158≤s.now.length) (h0:s.now.getD 0 []=apstB) (h1:s.now.getD 1 []=zsec):s.open_=(s,0):=by
 have e0:s.read 0=apstB:=(Dk.read_now s 0).trans h0
 have e1:s.read 1=zsec:=(Dk.read_now s 1).trans h1
 have hm:s.many≠0:=by unfold Dk.many;omega
 have hb:begunN (s.read 1)=some 0:=by unfold begunN;rw [if_pos e1]
 unfold Dk.open_
 rw [if_neg (by rw [hd];simp),if_neg (by rintro (e | e);exact hm e;exact e e0),hb]
 rfl
/-- What an opening may leave of what may be. -/
def May (a:List (List Nat)) (N:Nat) (P:Nat→List Nat) (L:List (Int×List Nat)):Prop:=Cl a N P∨Mk a N P L∨Dn a N P L
end
end Go.Proofs.YtnedpkhehiijhaaGreat
namespace Go.Proofs.YtnedpkhehiijhaaGreat
open Go.RowKit
set_option linter.unusedVariables false
set_option linter.unusedSimpArgs false

theorem fateS_from {has:ByteArray→Bool} {P:ByteArray→List Nat→Prop}:∀ {l:List OpV} {f0 fs:FateF},fateS has l f0 = .inr fs→(∀ o∈l,NameOk o.name∧o.data.length≤600→P o.name o.data)→(∀ t d,f0 t=some (some d)→P t d)→∀ t d,fs t=some (some d)→P t d
 | [],f0,fs,h,_,h0=>by
  injection h with h
  subst h
  exact h0
 | o :: l,f0,fs,h,hP,h0=>by
  unfold fateS at h
  have hP':∀ o∈l,NameOk o.name∧o.data.length≤600→P o.name o.data:=fun o ho=>hP o (List.mem_cons_of_mem _ ho)
  have st:∀ x,(∀ d,x=some d→P o.name d)→∀ t d,setF f0 o.name x t=some (some d)→P t d:=fun x hx t d ht=>by
   unfold setF at ht
   by_cases e:t=o.name
   ·rw [if_pos e] at ht
    injection ht with ht
    rw [e]
    exact hx d ht
   ·rw [if_neg e] at ht
    exact h0 t d ht
  by_cases hd:o.drop=true
  ·rw [if_pos hd] at h
   have fin:fateS has l (setF f0 o.name none) = .inr fs→_:=fun h=>fateS_from h hP' (st none fun d e=>nomatch e)
   rcases hf:f0 o.name with _ | _ | v <;> rw [hf] at h <;> dsimp only at h
   ·by_cases hc:has o.name=false
    ·rw [if_pos hc] at h;cases h
    ·rw [if_neg hc] at h;exact fin h
   ·rw [if_pos trivial] at h;cases h
   ·rw [if_neg id] at h;exact fin h
  ·rw [if_neg hd] at h
   by_cases hc:NameOk o.name∧o.data.length≤600
   ·rw [if_pos hc] at h
    exact fateS_from h hP' (st _ fun d e=>by injection e with e;rw [←e];exact hP o (List.mem_cons_self ..) hc)
   ·rw [if_neg hc] at h;cases h
theorem fateS_ok {has:ByteArray→Bool} {l:List OpV} {f0 fs:FateF} (h:fateS has l f0 = .inr fs) (ho:∀ o∈l,Oct1 o.data) (h0:∀ t,f0 t=none):∀ t d,fs t=some (some d)→(NameOk t∧d.length≤600)∧Oct1 d :=
 fateS_from (P:=fun t d=>(NameOk t∧d.length≤600)∧Oct1 d) h (fun o hm hc=>⟨hc,ho o hm⟩) fun t d e=>by rw [h0] at e;cases e
theorem put_oct {p:Pln} {i:Nat} {us:List Bool} {s:ByteArray} {d:List Nat} (hf:∀ x∈p.fr,x≤65535) (hw:∀ x∈p.ws,Oct1 x.2) (hd:(NameOk s∧d.length≤600)∧Oct1 d):∀ x∈(p.into i us s d).ws,Oct1 x.2:=fun x hx=>by
 have:x∈p.ws ++ putWs p.fr d (needN d) ++ [((i:Int),enc s d.length (p.fr.take (needN d)))]:=hx
 simp only [List.mem_append,List.mem_singleton] at this
 rcases this with (h1 | h1) | h1
 ·exact hw x h1
 ·unfold putWs at h1
  obtain ⟨k,_,rfl⟩:=List.mem_map.1 h1
  exact secOf_oct fun y hy=>hd.2 y (List.mem_of_mem_drop (List.mem_of_mem_take hy))
 ·rw [h1]
  exact enc_oct hd.1.1.high hd.1.2 fun y hy=>hf y (List.mem_of_mem_take hy)
theorem putAll_oct {ov:Nat→V3} {fs:FateF} (hfs:∀ t d,fs t=some (some d)→(NameOk t∧d.length≤600)∧Oct1 d):∀ {l:List ByteArray} {p q:Pln},putAll ov fs l p=some q→(∀ x∈p.fr,x≤65535)→(∀ x∈p.ws,Oct1 x.2)→∀ x∈q.ws,Oct1 x.2
 | [],p,q,h,_,hw=>by
  injection h with h
  subst h
  exact hw
 | s :: l,p,q,h,hf,hw=>by
  unfold putAll at h
  rcases hs:fs s with _ | _ | d <;> rw [hs] at h <;> dsimp only at h
  ·exact putAll_oct hfs h hf hw
  ·exact putAll_oct hfs h hf hw
  ·cases hp:p.put (slotO ov s) s d with
   | none=>rw [hp] at h;cases h
   | some p1 =>
    rw [hp] at h
    have hin:∃ i us,p1=p.into i us s d:=by
     unfold Pln.put at hp
     split at hp
     ·injection hp with hp;exact ⟨_,_,hp.symm⟩
     ·split at hp
      ·cases hp
      ·injection hp with hp;exact ⟨_,_,hp.symm⟩
    obtain ⟨i,us,rfl⟩:=hin
    exact putAll_oct hfs h (fun x hx=>hf x (List.mem_of_mem_drop hx)) (put_oct hf hw (hfs s d hs))
theorem dropAll_oct {ov:Nat→V3} {fs:FateF}:∀ {l:List ByteArray} {p:Pln},(∀ x∈p.ws,Oct1 x.2)→∀ x∈(dropAll ov fs l p).ws,Oct1 x.2
 | [],p,h=>h
 | s :: l,p,h=>by
  unfold dropAll
  split
  ·refine dropAll_oct fun x hx=>?_
   have:x∈p.ws ++ [((_:Int),zsec)]:=hx
   rcases List.mem_append.1 this with hx | hx
   ·exact h x hx
   ·rw [List.mem_singleton.1 hx];exact zsec_oct
  ·exact dropAll_oct h
theorem freeN_mem {hb:Nat→Bool} {k x:Nat}:x∈freeN hb k↔40≤x∧x<40+k∧hb x=false:=by
 unfold freeN
 rw [List.mem_filter,List.mem_map]
 constructor
 ·rintro ⟨⟨i,hi,rfl⟩,h⟩
  have:=List.mem_range.1 hi
  exact ⟨by omega,by omega,by simpa using h⟩
 ·rintro ⟨h1,h2,h3⟩
  exact ⟨⟨x - 40,List.mem_range.2 (by omega),by omega⟩,by simpa using h3⟩
theorem freeN_nodup (hb:Nat→Bool) (k:Nat):(freeN hb k).Nodup:=by
 unfold freeN
 refine List.Pairwise.filter _ ?_
 rw [List.pairwise_map]
 exact List.nodup_range.imp fun h e=>h (by omega)
theorem PInv.start {s:Dk} {ns:List Nd} (hm:Mounts s ns) (fs:FateF) (n:Nat):PInv (nvOf ns) s.many fs [] ⟨nvOf ns,usL ns,(freeN (hasB (heldN ns)) (s.many - 40)).take n,[]⟩:=by
 have fm:∀ x,x∈(freeN (hasB (heldN ns)) (s.many - 40)).take n→40≤x∧x<s.many∧(x:Int) ∉ allP (nvOf ns):=fun x hx=>by
  obtain ⟨h1,h2,h3⟩:=freeN_mem.1 (List.mem_of_mem_take hx)
  have:=hm.many
  exact ⟨h1,by omega,fun h=>by rw [←has_allP hm,h3] at h;cases h⟩
 refine ⟨by simp [usL],fun i hi=>?_,hm.nvOk,fun x hx=>⟨(fm x hx).1,(fm x hx).2.1⟩,List.Nodup.sublist (List.take_sublist _ _) (freeN_nodup _ _),fun x hx i hi=>?_,fun _ _ _=>rfl,fun i _ h1 h2=>?_,fun _ _ _=>rfl,(fun _ h=>nomatch h),(fun _ h=>nomatch h),List.nodup_nil,(fun _ h=>nomatch h),(fun _ h=>nomatch h)⟩
 ·show (usL ns).getD i false=usedV (nvOf ns i)
  simp [usL,List.getD,hi]
 ·have:(x:Int) ∉ (nvOf ns i).2.2:=fun h=>(fm x hx).2.2 (List.mem_flatMap.2 ⟨i,List.mem_range.2 hi,h⟩)
  exact ⟨this,this⟩
 ·have h2:usedV (nvOf ns i)=true:=h2
  rw [h1] at h2
  cases h2
theorem reck_done {s:Dk} {ns:List Nd} (hm:Mounts s ns) {fs:FateF} {ks:List ByteArray} (hk:KeysF fs ks) (hok:∀ t d,fs t=some (some d)→(NameOk t∧d.length≤600)∧Oct1 d) {q:Pln} (hq:reckM (nvOf ns) fs ks (usL ns) (hasB (heldN ns)) s.many=some q):Done (nvOf ns) s.many fs q∧q.ws.length≤150∧∀ x∈q.ws,Oct1 x.2:=by
 have hm1:=hm.room.m1
 have hm2:=hm.many
 unfold reckM at hq
 by_cases h1:wantL fs ks≤(freeN (hasB (heldN ns)) (s.many - 40)).length
 ·rw [if_pos h1] at hq
  rcases hp:putAll (nvOf ns) fs ks ⟨nvOf ns,usL ns,(freeN (hasB (heldN ns)) (s.many - 40)).take (wantL fs ks),[]⟩ with _ | p1
  ·rw [hp] at hq;cases hq
  ·rw [hp] at hq
   unfold endM at hq
   dsimp only at hq
   by_cases h2:(dropAll (nvOf ns) fs ks p1).ws.length≤150
   ·rw [if_pos h2] at hq
    injection hq with hq
    obtain ⟨K',a,b,c,e⟩:=PInv.all (by omega) (by omega) (PInv.start hm fs (wantL fs ks)) (fun t _ d h=>(hok t d h).1) hk.nd (fun _ _ h=>nomatch h) (by simp;omega) hp
    obtain ⟨D',d1,d2,d3,d4⟩:=DInv.all (fs:=fs) hm.nvOk (DInv.start (nvOf ns) p1) hk.nd (fun _ _ h=>nomatch h)
    have hoc:=dropAll_oct (ov:=nvOf ns) (fs:=fs) (l:=ks) (putAll_oct hok hp (fun x hx=>by have:=freeN_mem.1 (List.mem_of_mem_take hx);omega) (fun _ h=>nomatch h))
    rw [hq] at d1 h2 hoc
    refine ⟨Done.of hm.nvOk (by omega) a (fun t d ht=>e t ((hk.mem t).2 (by rw [ht];exact fun h=>nomatch h)) d ht) d1 fun t=>⟨fun h=>(d2 t h).resolve_left (fun h=>nomatch h),fun h=>d4 t ((hk.mem t).2 (by rw [h];exact fun h=>nomatch h)) h⟩,h2,hoc⟩
   ·rw [if_neg h2] at hq;cases hq
 ·rw [if_neg h1] at hq;cases hq
/-- A disk that is up, formatted and with nothing begun. -/
structure Ready (s:Dk) (m k:Nat):Prop where
 well:Well s
 len:s.now.length=157+m
 m0:41≤m
 r0:s.now.getD 0 []=apstB
 r1:s.now.getD 1 []=zsec
 wt:s.waits.length≤1000*k
 op:s.ops≤1000*k
 oct:s.Oct
 snd:s.Sound
theorem Ready.many {s:Dk} {m k:Nat} (h:Ready s m k):s.many=m:=by have:=h.len;unfold Dk.many;omega
theorem Ready.open_ {s:Dk} {m k:Nat} (h:Ready s m k):s.open_=(s,0):=open_clean h.well.dn (by have:=h.len;have:=h.m0;omega) h.r0 h.r1
theorem Ready.more {s:Dk} {m k:Nat} (h:Ready s m k) {k':Nat} (hk:k≤k'):Ready s m k':=⟨h.well,h.len,h.m0,h.r0,h.r1,by have:=h.wt;omega,by have:=h.op;omega,h.oct,h.snd⟩
theorem putf_sound {s:Dk} (h:s.Sound) (l:List (Int×List Nat)):(s.putf l).1.Sound:=by
 have:=puts_sound h l
 unfold Dk.putf
 split
 ·exact this.flush
 ·exact this
theorem commit_sound {s:Dk} (h:s.Sound) (l:List (Int×List Nat)):(s.commit l).1.Sound:=by
 have h1:=putf_sound h (logD l ++ logS l)
 have h2:=putf_sound h1 [(1,markB l.length)]
 have h3:=putf_sound h2 (l.map fun p=>(157+p.1,p.2))
 have h4:=putf_sound h3 [(1,zsec)]
 unfold Dk.commit
 split
 ·split
  ·exact h
  ·split
   ·exact h
   ·split
    ·split
     ·unfold Dk.fin
      split
      ·exact h4
      ·exact h3
     ·exact h2
    ·exact h1
 ·exact h
theorem fin_leF (s:Dk) (l:List (Int×List Nat)):(s.fin l).1.waits.length≤s.waits.length+l.length+3∧(s.fin l).1.ops≤s.ops+l.length+3:=by
 have h1:=putf_le s (l.map fun p=>(157+p.1,p.2))
 have h2:=putf_le (s.putf (l.map fun p=>(157+p.1,p.2))).1 [(1,zsec)]
 simp only [List.length_map,List.length_cons,List.length_nil] at h1 h2
 unfold Dk.fin
 split <;> omega
theorem commit_leF (s:Dk) (l:List (Int×List Nat)) (hn:l.length≤150):(s.commit l).1.waits.length≤s.waits.length+1000∧(s.commit l).1.ops≤s.ops+1000:=by
 have h1:=putf_le s (logD l ++ logS l)
 have h2:(logD l ++ logS l).length≤160:=by
  have:sheetsN l.length≤5:=by unfold sheetsN;omega
  simp [logD,logS]
  omega
 have h3:=putf_le (s.putf (logD l ++ logS l)).1 [(1,markB l.length)]
 have h4:=fin_leF ((s.putf (logD l ++ logS l)).1.putf [(1,markB l.length)]).1 l
 simp only [List.length_cons,List.length_nil] at h3
 unfold Dk.commit
 split
 ·split
  ·exact ⟨Nat.le_add_right _ _,Nat.le_add_right _ _⟩
  ·split
   ·exact ⟨Nat.le_add_right _ _,Nat.le_add_right _ _⟩
   ·split
    ·split
     ·omega
     ·omega
    ·omega
 ·exact ⟨Nat.le_add_right _ _,Nat.le_add_right _ _⟩
theorem Ready.commit {s:Dk} {m k:Nat} (h:Ready s m k) {l:List (Int×List Nat)} (hw:∀ q∈l,0≤q.1∧q.1<(m:Int)∧q.2.length=64) (hd:(l.map (·.1)).Nodup) (hn:l.length≤150) (ho:∀ q∈l,Oct1 q.2) :
  (s.commit l).2=0∧Ready (s.commit l).1 m (k+1)∧After s (s.commit l).1 l:=by
 have hmay:mayJ s.many l=true:=by unfold mayJ;rw [h.many,decide_eq_true_eq];exact ⟨hw,hd⟩
 have hm0:0<s.many:=by have:=h.m0;rw [h.many];omega
 by_cases h0:l=[]
 ·have e:s.commit l=(s,0):=by
   unfold Dk.commit
   rw [if_pos hmay,if_neg (by omega),if_pos h0]
  rw [e]
  exact ⟨rfl,h.more (by omega),by rw [h0];exact After.nil s⟩
 ·obtain ⟨c1,c2,c3⟩:=h.well.commit hm0 hmay h0 hn
  have hle:=commit_leF s l hn
  refine ⟨c1,⟨c2,by rw [c3,setAll_length];exact h.len,h.m0,?_,?_,by have:=h.wt;omega,by have:=h.op;omega,h.oct.commit ho,commit_sound h.snd l⟩,After.of_now hm0 hmay c3 hn⟩
  ·rw [c3,commitW_zero fun q hq=>(hw q hq).1]
   exact h.r0
  ·rw [c3]
   exact commitW_mark (by have:=h.len;omega)
/-- What Do answers, and what becomes of the files. -/
def DoL (fz:Nat ⊕ FateF) (s:Dk) (ns:List Nd) (m:Nat) (r:Nat) (s':Dk) (ns':List Nd):Prop :=
 match fz with
 | .inl k=>r=k∧s'=s∧ns'=ns
 | .inr fs=>∃ ks,KeysF fs ks∧((¬ RoomFor (nvOf ns) fs ks (usL ns) (leftN s ns)∧r=5∧s'=s∧ns'=ns) ∨
  (RoomFor (nvOf ns) fs ks (usL ns) (leftN s ns)∧r=0∧(∀ t,viewN s' ns' t=match fs t with | some x=>x | none=>viewN s ns t)∧(∀ t d,fs t=some (some d)→placeN (nvOf ns') t=needN d)∧∀ t,fs t=none→placeN (nvOf ns') t=placeN (nvOf ns) t))
section
variable {w:World} {F:Nat→Prop} {gf gd:Nat} {s:Dk} {ns:List Nd} {m k:Nat}
theorem do_law (h:Fsy w F gf gd s ns) (hr:Ready s m k) (hk:k≤60) (A:Option Addr) (c n:Nat) (L:List OpA) (hl:L.length=n) (ho:RdOp w w.heap.size A c L) (hn1:n≤600) (hoc:∀ o∈L,Oct1 o.d) :
  Calls Tryz.prog 13 #[.pointer (some ⟨gf,0,none⟩),.slice A n c] w fun e w'=>∃ (r:Nat) (F':Nat→Prop) (s':Dk) (ns':List Nd),e = .returned (.int .i64 (r:Int))∧Fsy w' F' gf gd s' ns'∧Ready s' m (k+1)∧Only (fun k=>F k∨k=gf) w w'∧(∀ k,F' k→F k∨w.heap.size≤k)∧DoL (fateS (hasN ns) (L.map OpA.v) (fun _=>none)) s ns m r s' ns':=by
 have hw:=hr.wt
 have hp:=hr.op
 obtain ⟨fz,hfz⟩:∃ fz,fz=fateS (hasN ns) (L.map OpA.v) (fun _=>none):=⟨_,rfl⟩
 have hok:∀ fs,fz = .inr fs→∀ t d,fs t=some (some d)→(NameOk t∧d.length≤600)∧Oct1 d:=fun fs e=>fateS_ok (hfz.symm.trans e) (fun o hm=>by obtain ⟨o',h',rfl⟩:=List.mem_map.1 hm;exact hoc o' h') fun _=>rfl
 refine (do_any h A c n L hl ho hn1 (by rw [←hfz];exact fun fs e t d ht=>(hok fs e t d ht).1) (by omega) (by omega)).mono fun e w' hq=>?_
 rw [←hfz] at hq ⊢
 have kp:∀ {W:World},Below w.heap.size w W→Fsy W F gf gd s ns∧Ready s m (k+1)∧Only (fun k=>F k∨k=gf) w W:=fun hb=>⟨h.under hb,hr.more (by omega),Only.of_below hb⟩
 rcases fz with e1 | fs
 ·obtain ⟨rfl,hb⟩:=hq
  obtain ⟨a,b,c⟩:=kp hb
  exact ⟨e1,F,s,ns,rfl,a,b,c,fun k hk=>.inl hk,rfl,rfl,rfl⟩
 ·obtain ⟨ks,hks,hq⟩:=hq
  rcases hrk:reckM (nvOf ns) fs ks (usL ns) (hasB (heldN ns)) s.many with _ | q
  ·rw [hrk] at hq
   obtain ⟨rfl,hb⟩:=hq
   obtain ⟨a,b,c⟩:=kp hb
   exact ⟨5,F,s,ns,rfl,a,b,c,fun k hk=>.inl hk,ks,hks,.inl ⟨reckM_iff.1 hrk,rfl,rfl,rfl⟩⟩
  ·rw [hrk] at hq
   have hroom:RoomFor (nvOf ns) fs ks (usL ns) (leftN s ns):=Classical.byContradiction fun hn=>by
    rw [reckM_iff.2 hn] at hrk
    cases hrk
   obtain ⟨hd,h150,hwo⟩:=reck_done h.mt hks (hok fs rfl) hrk
   obtain ⟨c1,c2,c3⟩:=hr.commit (by rw [←hr.many];exact hd.wr) hd.wd h150 hwo
   obtain ⟨rfl,F',d1,d2,d3,d4⟩:=hq
   rw [c1] at d4 ⊢
   obtain ⟨ns',f1,f2,f3⟩:=d4 rfl
   have hmt:=hd.mounts h.mt c3 f1.n40 f2
   refine ⟨0,F',_,ns',rfl,⟨d1,f1,fun hF=>?_,f3,hmt⟩,c2,d3,fun k hk=>(d2 k hk).imp (fun h=>h.1) id,ks,hks,.inr ⟨hroom,rfl,hd.view h.mt c3 f2,fun t d ht=>?_,fun t ht=>?_⟩⟩
   ·rcases d2 gf hF with hh | hh
    ·exact h.nf hh.1
    ·have:=h.fs.hd.lt
     omega
   ·obtain ⟨h0,i,hi,hp⟩:=hd.put t d ht
    obtain ⟨pl,p1,p2,_⟩:=hp
    have hu:usedV (nvOf ns' i)=true:=by rw [f2 i hi,p1];exact name_used h0
    have hs:=slotO_is hmt.nvOk hi hu
    rw [f2 i hi,p1] at hs
    unfold placeN
    rw [hs]
    show (nvOf ns' i).2.2.length=_
    rw [f2 i hi,p1]
    simp [p2]
   ·unfold placeN
    rw [slotO_ext f2]
    have hov:=h.mt.nvOk
    cases hs:slotO q.nv t with
    | some i =>
     obtain ⟨a,b,c⟩:=slotO_some hs
     have e:=hd.same i a b (by rw [c];exact ht)
     have hs2:=slotO_is hov a (by rw [←e];exact b)
     rw [←e,c] at hs2
     rw [hs2]
     show (nvOf ns' i).2.2.length=(nvOf ns i).2.2.length
     rw [f2 i a,e]
    | none =>
     cases hs2:slotO (nvOf ns) t with
     | none=>rfl
     | some i =>
      obtain ⟨a,b,c⟩:=slotO_some hs2
      have e:=hd.kept i a b (by rw [c];exact ht)
      exact absurd (by rw [e];exact c) (slotO_none hs a (by rw [e];exact b))
end
end Go.Proofs.YtnedpkhehiijhaaGreat
namespace Go.Proofs.YtnedpkhehiijhaaGreat
open Go.RowKit Go.Shelf
set_option linter.unusedVariables false
set_option linter.unusedSimpArgs false
attribute [local go_sem ↓] Go.wp_at_zero Go.wp_at_succ

/-- The document's disk, since w. -/
def RJ (w:World) (F:Nat→Prop) (gx:Nat) (s:Dk) (wr:World):Prop:=Ref wr (grow F w wr) gx s∧Only F w wr
section
variable {w wr w':World} {F:Nat→Prop} {gx:Nat} {s s':Dk}
theorem RJ.start (h:Ref w F gx s):RJ w F gx s w:=⟨h.more fun k hk=>.inl hk,Only.refl _ _⟩
theorem RJ.below (h:RJ w F gx s wr) (hb:Below wr.heap.size wr w'):RJ w F gx s w' :=
 ⟨(h.1.under hb).more fun k hk=>by
   rcases hk with hk | hk
   ·exact .inl hk
   ·exact .inr ⟨hk.1,Nat.lt_of_lt_of_le hk.2 hb.size⟩,h.2.trans (Only.of_below (F:=fun _=>False) hb) fun _ _ e=>e.elim⟩
theorem RJ.step (h:RJ w F gx s wr) (hd:Ref w' (grow (grow F w wr) wr w') gx s') (ho:Only (grow F w wr) wr w'):RJ w F gx s' w' :=
 ⟨hd.more fun k hk=>by
  have h1:=h.2.size
  have h2:=ho.size
  rcases hk with (hk | hk) | hk
  ·exact .inl hk
  ·exact .inr ⟨hk.1,by omega⟩
  ·exact .inr ⟨by omega,hk.2⟩,h.2.trans ho fun k hk hg=>by rcases hg with hg | hg;exact hg;omega⟩
theorem RJ.then {P:World→Prop} (h:RJ w F gx s wr) (hp:OffF F P w):OffF (grow F w wr) P wr:=hp.only h.2
theorem RJ.rd {P:World→Prop} (h:RJ w F gx s wr) (hp:OffF F P w):P wr:=(h.then hp).at_
theorem RJ.thenC {P:Program} {f:FuncId} {args:Array Value} {v:Value} {w4:World} (h:RJ w F gx s wr) (hb:Below wr.heap.size wr w4) (hc:∀ F2:Nat→Prop,Ref w4 F2 gx s→(∀ k,F2 k→k<wr.heap.size)→gx<wr.heap.size→Calls P f args w4 fun e w'=>e = .returned v∧RJ w4 F2 gx s' w') :
  Calls P f args w4 fun e w'=>e = .returned v∧RJ w F gx s' w':=by
 have hlt:∀ k,grow F w wr k∧k<wr.heap.size→grow (grow F w wr) wr w4 k:=fun k hk=>.inl hk.1
 refine (hc _ (h.1.low.under hb) (fun k hk=>hk.2) h.1.at_.2).mono ?_
 rintro e w' ⟨rfl,hr⟩
 have h4:=h.below hb
 refine ⟨rfl,h4.step (hr.1.more fun k hk=>?_) (hr.2.more fun k _ hk=>?_)⟩
 ·rcases hk with hk | hk
  ·rcases hk.1 with h1 | h1
   ·exact .inl (.inl h1)
   ·exact .inl (.inr ⟨h1.1,Nat.lt_of_lt_of_le h1.2 hb.size⟩)
  ·exact .inr hk
 ·rcases hk.1 with h1 | h1
  ·exact .inl h1
  ·exact .inr ⟨h1.1,Nat.lt_of_lt_of_le h1.2 hb.size⟩
theorem RJ.write (h:RJ w F gx s wr) (i:Int) (A2:Option Addr) (n2 c2:Nat) (x:List Nat) (hn:x.length=n2) (hr:Rd .u8 wr wr.heap.size A2 c2 x) (hA2:∀ g,blockOf A2=some g→g≠gx) (hwl:s.waits.length≤100000) (hops:s.ops≤1000000000) :
  Calls Tryz.prog 116 #[.pointer (some ⟨gx,0,none⟩),.int .i64 i,.slice A2 n2 c2] wr fun e w'=>e = .returned (.int .i64 ((s.write i x).2:Nat))∧RJ w F gx (s.write i x).1 w' :=
 (ref_write h.1 i A2 n2 c2 x hn hr (fun _=>hA2) hwl hops).mono fun e w' q=>⟨q.1,h.step q.2.1 q.2.2⟩
theorem RJ.flush (h:RJ w F gx s wr) (hwl:s.waits.length≤100000) (hops:s.ops≤1000000000) :
  Calls Tryz.prog 117 #[.pointer (some ⟨gx,0,none⟩)] wr fun e w'=>e = .returned (.int .i64 (s.flush.2:Nat))∧RJ w F gx s.flush.1 w' :=
 (ref_flush h.1 hwl hops).mono fun e w' q=>⟨q.1,h.step q.2.1 q.2.2⟩
theorem Ref.le (h:Ref w F gx s):s.now.length≤2000:=by
 obtain ⟨hs,gS,cS,A,cw,K,ck,at_,kl,rs,ws,h,hF⟩:=h
 rw [hs.len,←h.eS,List.length_map]
 exact h.n2
set_option maxRecDepth 100000 in
theorem rmany (h:Ref w F gx s):Calls Tryz.prog 40 #[.pointer (some ⟨gx,0,none⟩)] w fun e w'=>e = .returned (.int .i64 (s.many:Int))∧w=w':=by
 obtain ⟨gS,cS,k0,_,_⟩:=h.cells
 have h1:=h.le
 obtain ⟨m,hm⟩:∃ m,m=s.many:=⟨_,rfl⟩
 rw [←hm]
 unfold Dk.many at hm
 generalize s.now.length=n at *
 clear h
 have hmax:max 0 ((n:Int) - 157)=(m:Int):=by omega
 go_enter Tryz.func40,Tryz.ntmps40
 go_wp2_with fail
 all_goals (go_ret;refine ⟨congrArg (fun z=>Ending.returned (.int .i64 z)) ?_,rfl⟩;omega)
end
set_option maxRecDepth 100000 in
set_option maxHeartbeats 1000000 in
theorem rsector_any (w:World) (B:Nat) (A:Option Addr) (c n:Nat) (l:List Nat) (hn:l.length=n) (hr:Rd .u8 w B A c l) (hB:B≤w.heap.size) :
  Calls Tryz.prog 74 #[.slice A n c] w fun e w'=>e = .returned (.slice (some ⟨w.heap.size,0,none⟩) 64 64)∧Row .u8 5 w' w.heap.size (secOf l)∧Below w.heap.size w w':=by
 have hmk:=make_row
 have hrow:Row .u8 5 (w.alloc (.cells zrow 5)) w.heap.size (fillS l 0):=Holds.fresh _ _ _
 have hb:Below w.heap.size w (w.alloc (.cells zrow 5)):=(Below.refl _ _).alloc (Nat.le_refl _) _
 have hr1:=hr.under (hb.mono hB)
 have hc63:=hr.2.1
 have hlc:n≤c:=by have:=hr.1;omega
 have HN:=Lib.hid hn
 clear hn hr
 go_enter Tryz.func74,Tryz.ntmps74
 go_wp2_with fail
 clear hmk
 generalize zrow=zr at *
 generalize w.alloc (.cells zr 5)=W0 at *
 go_loopw [4] (fun i wr=>RelS w l B A c n i wr) (fun i _=>64 - (intOf i).toNat)
 case atStart=>exact ⟨0,Nat.zero_le _,Nat.zero_le _,rfl,hrow,hr1,hb⟩
 case round =>
  clear hrow hr1 hb
  obtain ⟨k,hk,hk64,rfl,hrow,hr1,hb⟩:=hrel
  obtain ⟨V,hV⟩:∃ V,V=wr:=⟨_,rfl⟩
  subst hV
  by_cases hkn:k<n
  case pos =>
   have hkI:(k:Int)<(n:Int):=by omega
   have hk0:(0:Int)≤(k:Int):=by omega
   by_cases hk6:k<64
   case pos =>
    have hk6I:(k:Int)<64:=by omega
    obtain ⟨b,off,x,rfl,hbB,hx,Hx⟩:=hr1.at_ (i:=k) (by have:=HN.out;omega)
    have hcell:=hrow.cell (i:=k) (by rw [fillS_length];exact hk6)
    have hfr:=hrow.open_ k
    have hst:=hrow.set k x
    have hne:b≠w.heap.size:=by omega
    have HS:Hid (Row .u8 5 (V.setCell ⟨w.heap.size,k,none⟩ (.int .u8 (x:Int))) w.heap.size (fillS l (k+1))):=Lib.hid (by rw [fillS,←Hx.out];exact hst)
    have HR:Hid (Rd .u8 (V.setCell ⟨w.heap.size,k,none⟩ (.int .u8 (x:Int))) B (some ⟨b,off,none⟩) c l):=Lib.hid (hr1.keep fun b' o hb'=>World.cell?_of_block (a:=⟨b',o,none⟩) (Below.heap_setCell V ⟨w.heap.size,k,none⟩ _ b' (fun e=>absurd (show b'=w.heap.size from e) (by omega))))
    have HBB:=Lib.hid (hb.setCell (p:=⟨w.heap.size,k,none⟩) (Nat.le_refl _) (.int .u8 (x:Int)))
    clear hst hr1 hb hrow
    go_wp2_with fail
    go_roundw
    case rel=>exact ⟨k+1,by omega,by omega,by go_num,HS.out,HR.out,HBB.out⟩
    case measure=>simp [intOf];omega
   case neg =>
    obtain rfl:k=64:=by omega
    have hd:decide (((64:Nat):Int)<64)=false:=by decide
    have HE:Hid (secOf l=fillS l 64):=Lib.hid (by unfold secOf;rw [HN.out,Nat.min_eq_right (by omega)])
    have HF:=Lib.hid hrow
    have HBB:=Lib.hid hb
    clear hrow hr1 hb
    go_wp2_with fail
    go_ret
    exact ⟨rfl,by rw [HE.out];exact HF.out,HBB.out⟩
  case neg =>
   obtain rfl:k=n:=by omega
   have hd:decide ((k:Int)<(k:Int))=false:=decide_eq_false (by omega)
   have HE:Hid (secOf l=fillS l k):=Lib.hid (by unfold secOf;rw [HN.out,Nat.min_eq_left (by omega)])
   have HF:=Lib.hid hrow
   have HBB:=Lib.hid hb
   clear hrow hr1 hb
   go_wp2_with fail
   go_ret
   exact ⟨rfl,by rw [HE.out];exact HF.out,HBB.out⟩
theorem rsectorR (w:World) (A:Option Addr) (c n:Nat) (l:List Nat) (hn:l.length=n) (hr:Rd .u8 w w.heap.size A c l) :
  Calls Tryz.prog 74 #[.slice A n c] w fun e w'=>e = .returned (.slice (some ⟨w.heap.size,0,none⟩) 64 64)∧Rd .u8 w' w'.heap.size (some ⟨w.heap.size,0,none⟩) 64 (secOf l)∧w.heap.size<w'.heap.size∧Below w.heap.size w w' :=
 (rsector_any w w.heap.size A c n l hn hr (Nat.le_refl _)).mono fun e w' ⟨he,hrow,hb⟩=>⟨he,Row.rd64 hrow (secOf_length l),Holds.lt hrow,hb⟩
theorem rsectorZ (w:World) :
  Calls Tryz.prog 74 #[.slice none 0 0] w fun e w'=>e = .returned (.slice (some ⟨w.heap.size,0,none⟩) 64 64)∧Rd .u8 w' w'.heap.size (some ⟨w.heap.size,0,none⟩) 64 zsec∧w.heap.size<w'.heap.size∧Below w.heap.size w w':=by
 have h:=rsectorR w none 0 0 [] rfl (Rd.nil_ _ _ _)
 rwa [secOf_nil] at h
section
variable {w:World} {F:Nat→Prop} {gx:Nat} {s:Dk}
def RelWr (w:World) (F:Nat→Prop) (gx:Nat) (s:Dk) (L:List (Int×List Nat)) (n:Nat) (i:Value) (wr:World):Prop :=
 ∃ k:Nat,k≤n∧i = .int .i64 k∧(s.puts (L.take k)).2=0∧RJ w F gx (s.puts (L.take k)).1 wr
set_option maxRecDepth 100000 in
set_option maxHeartbeats 4000000 in
theorem write'_any (h:Ref w F gx s) (A:Option Addr) (c n:Nat) (l:List Wr) (hl:l.length=n) (hr:OffF F (RdWr A c l) w) (hne:∀ x∈l,∀ g,blockOf x.da=some g→g≠gx) (hn:n≤1000) (hwl:s.waits.length≤80000) (hops:s.ops≤800000000) :
  Calls Tryz.prog 97 #[.pointer (some ⟨gx,0,none⟩),.slice A n c] w fun e w'=>e = .returned (.int .i64 ((s.putf (wv l)).2:Nat))∧RJ w F gx (s.putf (wv l)).1 w':=by
 obtain ⟨L,hL⟩:∃ L,L=wv l:=⟨_,rfl⟩
 rw [←hL]
 have HST:=Lib.hid (RJ.start h)
 have HLn:Hid (L.length=n):=Lib.hid (by rw [hL,wv_length,hl])
 have HLE:Hid (∀ k,(s.puts (L.take k)).1.waits.length≤81000∧(s.puts (L.take k)).1.ops≤800001000):=Lib.hid fun k=>by
  have h1:=puts_le s (L.take k)
  have h2:(L.take k).length≤n:=by rw [List.length_take,HLn.out];omega
  omega
 have HAT:Hid (∀ k,k<n→L[k]?=some ((l.getD k default).at_,(l.getD k default).d)∧∀ g,blockOf (l.getD k default).da=some g→g≠gx):=Lib.hid fun k hk=>⟨by rw [hL,wv_at (by omega)];rfl,hne _ (getD_memJ (by omega))⟩
 have HR:=Lib.hid hr
 have HL:=Lib.hid hl
 have hnc:n≤c:=by have:=hr.at_.1;omega
 have hc63:=hr.at_.2.1
 clear h hr hwl hops hne hl hL
 go_enter Tryz.func97,Tryz.ntmps97
 go_wp2_with fail
 go_loopw [5] (fun i wr=>RelWr w F gx s L n i wr) (fun i _=>n - (intOf i).toNat)
 case atStart=>exact ⟨0,Nat.zero_le _,rfl,rfl,HST.out⟩
 case round =>
  obtain ⟨k,hk,rfl,hp,hd⟩:=hrel
  obtain ⟨V,hV⟩:∃ V,V=wr:=⟨_,rfl⟩
  subst hV
  have HP:=Lib.hid hp
  have HD:=Lib.hid hd
  clear hp hd
  by_cases hlt:k<n
  case pos =>
   have hkI:(k:Int)<(n:Int):=by omega
   have hk0:(0:Int)≤(k:Int):=by omega
   obtain ⟨b,off,rfl,hb,hc0,hc1,hrd⟩:=(HD.out.rd HR.out).at_ (j:=k) (by rw [HL.out];exact hlt)
   obtain ⟨hLk,hng⟩:=HAT.out k hlt
   have HSN:Hid (L.take (k+1)=L.take k ++ [((l.getD k default).at_,(l.getD k default).d)]):=Lib.hid (take_snocJ hLk)
   have HSP:Hid (L=L.take k ++ ((l.getD k default).at_,(l.getD k default).d) :: L.drop (k+1)):=Lib.hid (split_at hLk)
   obtain ⟨x,hx⟩:∃ x,x=l.getD k default:=⟨_,rfl⟩
   rw [←hx] at hc0 hc1 hrd hng HSN HSP
   obtain ⟨xa,da,dc,xd⟩:=x
   dsimp only at *
   obtain ⟨dn,hdn⟩:∃ d,xd.length=d:=⟨_,rfl⟩
   rw [hdn] at hc1
   have hbd:Below V.heap.size V V.drew:=(Below.refl _ _).drew
   have HW:=Lib.hid ((HD.out.below hbd).write xa da dn dc xd hdn ((hrd.under hbd).more hbd.size) hng (by have:=HLE.out k;omega) (by have:=HLE.out k;omega))
   have hkw:IntKind.i64.wrap ((k:Int)+1)=(k:Int)+1:=IntWalk.i64_in _ (by omega)
   clear hLk hrd hx hng hbd
   go_wp2_with fail
   go_still_tail 11,(by kernel_rfl)
   repeat still_step
   change wpList _ _ _ _ _ V.drew
   go_wp2_with fail
   refine HW.out.mono ?_
   rintro e w2 ⟨rfl,hd2⟩
   have HD2:=Lib.hid hd2
   have HG:Hid (((s.puts (L.take k)).1.write xa xd).2=0→(s.puts (L.take (k+1)))=(s.puts (L.take k)).1.write xa xd):=Lib.hid fun _=>by rw [HSN.out,puts_snoc HP.out]
   have HS2:Hid (((s.puts (L.take k)).1.write xa xd).2≠0→s.putf L=(s.puts (L.take k)).1.write xa xd):=Lib.hid fun h=>by
    have h1:s.puts L=(s.puts (L.take k)).1.write xa xd:=(congrArg s.puts HSP.out).trans (puts_stop (p:=(xa,xd)) HP.out h)
    rw [putf_stop (by rw [h1];exact h),h1]
   generalize (s.puts (L.take k)).1.write xa xd=q at *
   obtain ⟨s1,e1⟩:=q
   dsimp only at *
   clear hd2 HW HD HP HSN HSP hc0 hc1
   by_cases h0:e1=0
   ·subst h0
    have HG':=Lib.hid (HG.out rfl)
    clear HG HS2
    go_wp2_with fail
    go_roundw
    case rel=>exact ⟨k+1,by omega,by go_num,by rw [HG'.out],by rw [HG'.out];exact HD2.out⟩
    case measure=>simp [intOf];omega
   ·have HS':=Lib.hid (HS2.out h0)
    have d0:((e1:Int) == 0)=false:=by rw [beq_eq_false_iff_ne];omega
    have d1:((e1:Int) != 0)=true:=by rw [bne,d0];rfl
    clear HG HS2
    go_wp2_with fail
    go_ret
    rw [HS'.out]
    exact ⟨rfl,HD2.out⟩
  case neg =>
   obtain rfl:k=n:=by omega
   have hkI:¬ ((k:Int)<(k:Int)):=by omega
   have hTK:L.take k=L:=List.take_of_length_le (by rw [HLn.out];exact Nat.le_refl _)
   have h1:=HLE.out k
   rw [hTK] at HP HD h1
   have HF:=Lib.hid (HD.out.flush (by omega) (by omega))
   have HPF:Hid (s.putf L=(s.puts L).1.flush):=Lib.hid (putf_go HP.out)
   rw [←HPF.out] at HF
   clear HP HD hTK h1 HPF HLE HAT HR
   go_wp2_with fail
   refine HF.out.mono ?_
   rintro e w2 ⟨rfl,hd2⟩
   have HD2:=Lib.hid hd2
   clear hd2 HF
   go_wp2_with fail
   go_ret
   exact ⟨rfl,HD2.out⟩
def Dk.aft (s:Dk) (L:List (Int×List Nat)):Dk×Nat:=if (s.putf L).2=0 then (s.putf L).1.putf [(1,zsec)] else s.putf L
end
end Go.Proofs.YtnedpkhehiijhaaGreat
namespace Go.Proofs.YtnedpkhehiijhaaGreat
open Go.RowKit Go.Shelf
set_option linter.unusedVariables false
set_option linter.unusedSimpArgs false
attribute [local go_sem ↓] Go.wp_at_zero Go.wp_at_succ

def markI (b:List Nat):Int:=match begunN b with | none=>-1 | some n=>(n:Int)
theorem wv_snoc (l:List Wr) (x:Wr):wv (l ++ [x])=wv l ++ [x.v]:=by simp [wv]
def LoggedP (w:World) (s:Dk) (n:Nat) (e:Ending) (w':World):Prop :=
 Below w.heap.size w w'∧(((∀ p∈s.told n,p.1<(s.many:Int))∧∃ A c l,e = .returned (.tuple #[.slice A n c,.bool true])∧l.length=n∧wv l=(s.told n).map (fun p=>(157+p.1,p.2))∧(∀ x∈l,∀ g,blockOf x.da=some g→w.heap.size≤g)∧RdWrG w.heap.size A c l w')∨(¬ (∀ p∈s.told n,p.1<(s.many:Int))∧e = .returned (.tuple #[.slice none 0 0,.bool false])))
def RelLg (w:World) (s:Dk) (n:Nat) (sl si:Value) (wr:World):Prop :=
 ∃ (k:Nat) (l:List Wr) (A:Option Addr) (c:Nat),k≤n∧si = .int .i64 k∧sl = .slice A k c∧l.length=k∧(∀ i,i<k→(s.toldAt n i).1<(s.many:Int))∧wv l=(List.range k).map (fun i=>(157+(s.toldAt n i).1,(s.toldAt n i).2))∧(∀ x∈l,∀ g,blockOf x.da=some g→w.heap.size≤g)∧Wrs w wr w.heap.size A c l
section
variable {w:World} {F:Nat→Prop} {gx:Nat} {s:Dk}
end
end Go.Proofs.YtnedpkhehiijhaaGreat
namespace Go.Proofs.YtnedpkhehiijhaaGreat
open Go.RowKit Go.Shelf
set_option linter.unusedVariables false
set_option linter.unusedSimpArgs false
attribute [local go_sem ↓] Go.wp_at_zero Go.wp_at_succ

theorem flat_wr (l:List Wr):(l.flatMap wrCells).length=l.length*2:=by
 induction l with
 | nil=>rfl
 | cons x l ih=>rw [List.flatMap_cons,List.length_append,ih];simp [wrCells];omega
theorem rd_marked4 {w w':World} {b x1 x2 x3 x4:Nat} (h:Holds w b 5 #[Value.int .u8 (x1:Int),.int .u8 (x2:Int),.int .u8 (x3:Int),.int .u8 (x4:Int)]) (hc:∀ a,w'.cell? a=w.cell? a) (hs:w'.heap.size=w.heap.size):Rd .u8 w' w'.heap.size (some ⟨b,0,none⟩) 4 [x1,x2,x3,x4] :=
 ⟨Nat.le_refl _,by decide,fun _=>⟨b,0,rfl,by rw [hs];exact Holds.lt h,fun j hj=>by
  have:j<4:=hj
  rw [hc,Nat.zero_add,h.cell]
  rcases j with _ | _ | _ | _ | j
  ·rfl
  ·rfl
  ·rfl
  ·rfl
  ·omega⟩⟩
/-- A row of writes that was typed. -/
theorem Wrs.of {V V0:World} {B:Nat} (l:List Wr) (hl:∀ x∈l,Rd .u8 V0 V0.heap.size x.da x.dc x.d∧∀ b o,x.da=some ⟨b,o,none⟩→B≤b∧b<V0.heap.size) (hb:Below V.heap.size V V0) (cs:Array Value) (hcs:cs.toList=l.flatMap wrCells) (hn:l.length≤1000) :
  Wrs V (V0.alloc (.cells cs 132)) B (some ⟨V0.heap.size,0,none⟩) l.length l:=by
 have hA:Below V0.heap.size V0 (V0.alloc (.cells cs 132)):=(Below.refl _ _).alloc (Nat.le_refl _) _
 have hz:cs.size=l.length*2:=by rw [←flat_wr,←hcs];simp
 refine ⟨⟨flat_wr l,.inr ⟨V0.heap.size,l.length,cs,rfl,Nat.zero_le _,heap_alloc_new V0 _,Nat.le_refl _,by unfold maxLen;omega,hz,?_⟩⟩,fun x hx=>⟨((hl x hx).1.under hA).more hA.size,fun b o e=>?_⟩,fun g hg=>?_,hb.trans (hA.mono hb.size)⟩
 ·rw [hcs,List.take_of_length_le (by rw [flat_wr];exact Nat.le_refl _)]
 ·have:=(hl x hx).2 b o e
  refine ⟨this.1,Nat.lt_of_lt_of_le this.2 hA.size,fun e2=>?_⟩
  have e3:V0.heap.size=b:=by simpa [blockOf] using e2
  omega
 ·have e3:V0.heap.size=g:=by simpa [blockOf] using hg
  have:=hb.size
  omega
theorem run_typed4 (w:World):∃ w',(convert 44 44 (.slice (some ⟨w.heap.size,0,none⟩) 4 4)).run Tryz.prog (w.alloc (.cells #[.int .u8 97,.int .u8 112,.int .u8 115,.int .u8 116] 5)) = .ok (.slice (some ⟨w.heap.size,0,none⟩) 4 4) w'∧Below w.heap.size w w'∧Rd .u8 w' w'.heap.size (some ⟨w.heap.size,0,none⟩) 4 [97,112,115,116]:=by
 obtain ⟨w',hr,hb,hc,hs⟩:=run_mark (w.alloc (.cells #[.int .u8 97,.int .u8 112,.int .u8 115,.int .u8 116] 5)) w.heap.size #[.int .u8 97,.int .u8 112,.int .u8 115,.int .u8 116] 4 4 (Holds.fresh _ _ _)
 exact ⟨w',hr,((Below.refl _ w).alloc (Nat.le_refl _) _).trans hb,rd_marked4 (Holds.fresh w 5 #[.int .u8 97,.int .u8 112,.int .u8 115,.int .u8 116]) hc hs⟩
def RelFm (w:World) (m:Nat) (sl si:Value) (wr:World):Prop :=
 ∃ (k:Nat) (l:List Wr) (A:Option Addr) (c:Nat),k≤m∧si = .int .i64 ((157+k:Nat):Int)∧sl = .slice A (k+2) c∧l.length=k+2∧wv l=(0,apstB) :: (1,zsec) :: (List.range k).map (fun i=>(((157+i:Nat):Int),zsec))∧(∀ x∈l,∀ g,blockOf x.da=some g→w.heap.size≤g)∧Wrs w wr w.heap.size A c l
section
variable {w:World} {F:Nat→Prop} {gx:Nat} {s:Dk}
set_option maxRecDepth 100000 in
set_option maxHeartbeats 8000000 in
theorem format'_any (h:Ref w F gx s) (hn:s.now.length≤900) (hwl:s.waits.length≤60000) (hops:s.ops≤600000000) :
  Calls Tryz.prog 60 #[.pointer (some ⟨gx,0,none⟩)] w fun e w'=>e = .returned (.int .i64 ((s.format).2:Nat))∧RJ w F gx (s.format).1 w':=by
 have HH:=Lib.hid h
 have HMN:Hid (∀ W,Below w.heap.size w W→Calls Tryz.prog 40 #[.pointer (some ⟨gx,0,none⟩)] W fun e w'=>e = .returned (.int .i64 (s.many:Int))∧W=w'):=Lib.hid fun W hW=>rmany (h.under hW)
 have HWL:=Lib.hid (And.intro hwl hops)
 clear hwl hops
 by_cases hm:s.many=0
 ·have HE:Hid (s.format=(s,5)):=Lib.hid (by unfold Dk.format;rw [if_pos hm])
  rw [hm] at HMN
  clear h hm
  go_enter Tryz.func60,Tryz.ntmps60
  go_wp2_with fail
  refine (HMN.out w (Below.refl _ _)).mono ?_
  rintro e w1 ⟨rfl,rfl⟩
  go_wp2_with fail
  go_ret
  rw [HE.out]
  exact ⟨rfl,RJ.start HH.out⟩
 have HE:Hid (s.format=s.putf (formW s.now.length)):=Lib.hid (by unfold Dk.format;rw [if_neg hm])
 obtain ⟨n,hnn⟩:∃ n,n=s.now.length:=⟨_,rfl⟩
 obtain ⟨m,hmm⟩:∃ m,m=s.many:=⟨_,rfl⟩
 have hnm:n=157+m:=by unfold Dk.many at hmm hm;omega
 have hm0:((m:Int) == 0)=false:=by rw [beq_eq_false_iff_ne];omega
 rw [←hmm] at HMN
 rw [←hnn] at HE hn
 have HNM:=Lib.hid hnm
 have HCL:Hid (∀ W,Below w.heap.size w W→∃ gS cS,W.cell? ⟨gx,0,none⟩=some (.slice (some ⟨gS,0,none⟩) n cS)):=Lib.hid fun W hW=>by
  obtain ⟨gS,cS,k0,_⟩:=(h.under hW).cells
  exact ⟨gS,cS,by rw [hnn];exact k0⟩
 clear h hm hmm hnn hnm
 obtain ⟨wm,hcv,hbm,hrm⟩:=run_typed4 w
 have HBM:=Lib.hid hbm
 have HRM:=Lib.hid hrm
 clear hbm hrm
 go_enter Tryz.func60,Tryz.ntmps60
 go_wp2_with fail
 refine (HMN.out w (Below.refl _ _)).mono ?_
 rintro e w1 ⟨rfl,rfl⟩
 go_wp2_with fail
 refine (rsectorR wm _ 4 4 _ rfl HRM.out).mono ?_
 rintro e w2 ⟨rfl,hr2,hl2,hb2⟩
 have HR2:Hid (Rd .u8 w2 w2.heap.size (some ⟨wm.heap.size,0,none⟩) 64 apstB):=Lib.hid hr2
 have HL2:=Lib.hid hl2
 have HB2:=Lib.hid (HBM.out.trans (hb2.mono HBM.out.size))
 clear hr2 hl2 hb2 hcv HRM
 go_wp2_with fail
 refine (rsectorZ w2).mono ?_
 rintro e w3 ⟨rfl,hr3,hl3,hb3⟩
 have HS:=Lib.hid (Wrs.of (V:=w) (V0:=w3) (B:=w.heap.size) [⟨0,some ⟨wm.heap.size,0,none⟩,64,apstB⟩,⟨1,some ⟨w2.heap.size,0,none⟩,64,zsec⟩] (fun x hx=>by
  have h1:=HBM.out.size
  have h2:=HL2.out
  rcases List.mem_cons.1 hx with rfl | hx
  ·exact ⟨(HR2.out.under hb3).more hb3.size,fun b o e=>by cases e;exact ⟨h1,by omega⟩⟩
  ·rw [List.mem_singleton.1 hx]
   exact ⟨hr3,fun b o e=>by cases e;exact ⟨by omega,hl3⟩⟩) (HB2.out.trans (hb3.mono HB2.out.size)) #[.int .i64 0,.slice (some ⟨wm.heap.size,0,none⟩) 64 64,.int .i64 1,.slice (some ⟨w2.heap.size,0,none⟩) 64 64] rfl (by simp))
 have HG2:Hid (w.heap.size≤wm.heap.size∧w.heap.size≤w2.heap.size):=Lib.hid ⟨HBM.out.size,HB2.out.size⟩
 clear hr3 hl3 hb3 HR2 HB2
 go_wp2_with fail
 go_loopw [3,4] (fun sl si wr=>RelFm w m sl si wr) (fun _ si _=>n - (intOf si).toNat)
 case atStart =>
  refine ⟨0,_,_,_,Nat.zero_le _,rfl,rfl,rfl,rfl,fun x hx g hg=>?_,HS.out⟩
  rcases List.mem_cons.1 hx with rfl | hx
  ·obtain rfl:wm.heap.size=g:=by simpa [blockOf] using hg
   exact HG2.out.1
  ·rw [List.mem_singleton.1 hx] at hg
   obtain rfl:w2.heap.size=g:=by simpa [blockOf] using hg
   exact HG2.out.2
 case round =>
  clear HS HG2
  obtain ⟨k,l,A,c,hk,rfl,rfl,hll,hwv,hbl,hrs⟩:=hrel
  obtain ⟨V,hV⟩:∃ V,V=wr:=⟨_,rfl⟩
  subst hV
  have HLL:=Lib.hid hll
  have HWV:=Lib.hid hwv
  have HBL:=Lib.hid hbl
  have HRS:=Lib.hid hrs
  clear hll hwv hbl hrs
  obtain ⟨gS,cS,k0⟩:=HCL.out V HRS.out.bel
  obtain ⟨i,hi⟩:∃ i,i=157+k:=⟨_,rfl⟩
  rw [←hi]
  have HI:=Lib.hid hi
  clear hi
  obtain ⟨i1,hi1⟩:∃ i1,i1=157+(k+1):=⟨_,rfl⟩
  have HI1:=Lib.hid hi1
  clear hi1
  by_cases hlt:k<m
  case pos =>
   have hkI:(i:Int)<(n:Int):=by have:=HNM.out;have:=HI.out;omega
   have hiw:IntKind.i64.wrap ((i:Int)+1)=(i1:Int):=by have:=HI.out;have:=HI1.out;rw [IntWalk.i64_in _ (by omega)];omega
   go_wp2_with fail
   refine (rsectorZ V).mono ?_
   rintro e w3 ⟨rfl,hr3,hl3,hb3⟩
   obtain ⟨x,hx⟩:∃ x:Wr,x=⟨(i:Int),some ⟨V.heap.size,0,none⟩,64,zsec⟩:=⟨_,rfl⟩
   obtain ⟨W3,hW3⟩:∃ W,W=w3.alloc (.cells #[.int .i64 (i:Int),.slice (some ⟨V.heap.size,0,none⟩) 64 64] 132):=⟨_,rfl⟩
   have HW3:=Lib.hid hW3
   have hb34:Below w3.heap.size w3 W3:=by rw [hW3];exact (Below.refl _ _).alloc (Nat.le_refl _) _
   have hst:=HRS.out.under (hb3.trans (hb34.mono hb3.size))
   have HST:=Lib.hid hst
   have HFX:Hid (Holds W3 w3.heap.size 132 (wrCells x).toArray):=Lib.hid (by rw [hW3,hx];exact Holds.fresh _ _ _)
   have HOW:Hid (OwnV 132 2 W3 A c (k+2) (l.flatMap wrCells)):=Lib.hid (by have:=hst.own;rwa [HLL.out] at this)
   have HWC:Hid (∀ u∈wrCells x,u.oneCell'=true):=Lib.hid (by intro u hu;simp [wrCells] at hu;rcases hu with rfl | rfl <;> rfl)
   have HRX:Hid (Rd .u8 W3 W3.heap.size x.da x.dc x.d∧∀ b o,x.da=some ⟨b,o,none⟩→w.heap.size≤b∧b<W3.heap.size∧blockOf A≠some b):=Lib.hid ⟨by rw [hx];exact (hr3.under hb34).more hb34.size,fun b o e=>by
    rw [hx] at e
    cases e
    refine ⟨HRS.out.bel.size,Nat.lt_of_lt_of_le hl3 hb34.size,fun e2=>?_⟩
    have h4:=HRS.out.own.lt e2
    omega⟩
   have HBX:Hid (∀ g,blockOf x.da=some g→w.heap.size≤g):=Lib.hid fun g hg=>by
    rw [hx] at hg
    obtain rfl:V.heap.size=g:=by simpa [blockOf] using hg
    exact HRS.out.bel.size
   have HXV:Hid (x.v=(((157+k:Nat):Int),zsec)):=Lib.hid (by rw [hx,Wr.v,HI.out])
   clear hst hb34 hr3 hb3 hl3 hW3 hx
   have hkn:k≤900:=by have:=HNM.out;omega
   go_wp2_with (first | (at_builtin;rw [←HW3.out];refine wpList_pushV _ rfl (.tmp 24) (.tmp 28) 97 rfl 132 (.agg #[.int .i64 0,.slice none 0 0]) 2 32 Tryz.underlying97 info_write rfl (by omega) (by omega) rfl HOW.out (cs:=wrCells x) rfl rfl HWC.out HFX.out (by have:=HNM.out;omega) ?_;intro g9 c9 W9 ho9 hg9 hat9 hlt9) | fail)
   have HS9:=Lib.hid (HST.out.push (x:=x) HRX.out (by rw [HLL.out];exact ho9) hg9 hat9)
   clear ho9 hg9 hat9 hlt9 HOW HFX HST HWC HRX HW3
   go_wp2_with fail
   go_roundw
   case rel =>
    refine ⟨k+1,l ++ [x],_,_,by omega,by rw [HI1.out],rfl,by rw [List.length_append,HLL.out];rfl,?_,fun y hy g hg=>?_,HS9.out⟩
    ·rw [wv_snoc,List.range_succ,List.map_append,HWV.out,HXV.out]
     rfl
    ·rcases List.mem_append.1 hy with hy | hy
     ·exact HBL.out y hy g hg
     ·rw [List.mem_singleton.1 hy] at hg
      exact HBX.out g hg
   case measure=>have:=HI.out;have:=HI1.out;have:=HNM.out;simp [intOf];omega
  case neg =>
   obtain rfl:k=m:=by omega
   have hkI:¬ ((i:Int)<(n:Int)):=by have:=HNM.out;have:=HI.out;omega
   have HG:=Lib.hid (HRS.out.rd (Nat.le_refl _))
   have HFW:Hid (wv l=formW n):=Lib.hid (by rw [HWV.out,formW,show n - 157=k by have:=HNM.out;omega])
   have HAP:=Lib.hid (RJ.thenC (s':=(s.putf (wv l)).1) (v:=.int .i64 ((s.putf (wv l)).2:Nat)) (RJ.start HH.out) HRS.out.bel fun F2 hF hlt hgx=>(write'_any hF A c (k+2) l HLL.out (HG.out.off fun k hk=>hlt k hk) (fun x hx g hgg=>by
    have:=HBL.out x hx g hgg
    omega) (by have:=HNM.out;omega) (by have:=HWL.out;omega) (by have:=HWL.out;omega)))
   rw [HFW.out] at HAP
   clear HG
   go_wp2_with fail
   refine HAP.out.mono ?_
   rintro e w4 ⟨rfl,hd4⟩
   have HD4:=Lib.hid hd4
   clear hd4 HAP
   go_wp2_with fail
   go_ret
   rw [HE.out]
   exact ⟨rfl,HD4.out⟩
end
end Go.Proofs.YtnedpkhehiijhaaGreat
namespace Go.Proofs.YtnedpkhehiijhaaGreat
open Go.RowKit
set_option linter.unusedVariables false
set_option linter.unusedSimpArgs false
attribute [local go_sem ↓] Go.wp_at_zero Go.wp_at_succ
section
variable {w:World} {F:Nat→Prop} {gx:Nat} {s:Dk}
set_option maxRecDepth 100000 in
theorem rfmt5_any (h:Ref w F gx s) (hn:s.now.length≤900) (hwl:s.waits.length≤60000) (hops:s.ops≤600000000) :
  Calls Tryz.prog 32 #[.pointer (some ⟨gx,0,none⟩)] w fun e w'=>e = .returned (.int .i64 ((s.ffmt).2:Nat))∧RJ w F gx (s.ffmt).1 w':=by
 have HM:=Lib.hid (rmany h)
 have HF:=Lib.hid (format'_any h hn hwl hops)
 have HS:=Lib.hid (RJ.start h)
 have hmm:s.many≤2000:=by unfold Dk.many;omega
 clear h
 by_cases hm:s.many<41
 case pos =>
  rw [show s.ffmt=(s,5) by unfold Dk.ffmt;rw [if_pos hm]]
  generalize s.many=m at *
  have d0:decide ((m:Int)≤40)=true:=decide_eq_true (by omega)
  have hmI:(m:Int)≤40:=by omega
  go_enter Tryz.func32,Tryz.ntmps32
  go_wp2_with (refine HM.out.mono ?_;rintro e w1 ⟨rfl,rfl⟩)
  go_ret
  exact ⟨rfl,HS.out⟩
 case neg =>
  rw [show s.ffmt=s.format by unfold Dk.ffmt;rw [if_neg hm]]
  have hq:∃ q,q=s.format:=⟨_,rfl⟩
  obtain ⟨q,hq⟩:=hq
  rw [←hq] at HF ⊢
  clear hq
  generalize s.many=m at *
  have d0:decide ((m:Int)≤40)=false:=decide_eq_false (by omega)
  have hmI:¬ ((m:Int)≤40):=by omega
  obtain ⟨s',c⟩:=q
  go_enter Tryz.func32,Tryz.ntmps32
  go_wp2_with (first | (refine HM.out.mono ?_;rintro e w1 ⟨rfl,rfl⟩) | (refine HF.out.mono ?_;rintro e w1 ⟨rfl,hd⟩) | fail)
  go_ret
  exact ⟨rfl,hd⟩
end
theorem format_leF {s:Dk} (hn:s.now.length≤900):s.format.1.waits.length≤s.waits.length+1000∧s.format.1.ops≤s.ops+1000:=by
 have h:=putf_le s (formW s.now.length)
 have hl:(formW s.now.length).length≤902:=by simp [formW];omega
 unfold Dk.format
 split
 ·exact ⟨Nat.le_add_right _ _,Nat.le_add_right _ _⟩
 ·omega
/-- The disk that is formatted, of m places. -/
def fmtD (m:Nat):Dk:=(fresh (157+m)).format.1
theorem fmtD_facts {m:Nat} (h1:41≤m) (h2:m≤700):Ready (fmtD m) m 1∧(∀ i:Nat,i<m→(fmtD m).read (157+(i:Int))=zsec):=by
 have hl:(fresh (157+m)).now.length=157+m:=fresh_len _
 obtain ⟨a1,a2,a3⟩:=(well_fresh (157+m)).format (by omega)
 have hle:=format_leF (s:=fresh (157+m)) (by omega)
 have w0:(fresh (157+m)).waits.length=0:=rfl
 have o0:(fresh (157+m)).ops=0:=rfl
 have hnow:(fmtD m).now.length=157+m:=by unfold fmtD;rw [a3,setAll_length,hl]
 refine ⟨⟨a2,hnow,h1,?_,?_,by unfold fmtD;omega,by unfold fmtD;omega,(oct_fresh _).format,?_⟩,fun i hi=>?_⟩
 ·unfold fmtD;rw [a3];exact formW_zero (by omega)
 ·unfold fmtD;rw [a3];exact formW_mark (by omega)
 ·have:=putf_sound (sound_fresh (157+m)) (formW (fresh (157+m)).now.length)
  unfold fmtD Dk.format
  rw [if_neg (by unfold Dk.many;omega)]
  exact this
 ·unfold Dk.read
  rw [if_pos (by omega)]
  unfold fmtD
  rw [a3,hl,show (157+(i:Int)).toNat=157+i by omega]
  exact formW_place hl (by omega)
set_option maxRecDepth 100000 in
set_option maxHeartbeats 1000000 in
theorem disk5_any (w:World) (m:Nat) (h1:41≤m) (h2:m≤700) :
  Calls Tryz.prog 9 #[.int .i64 (m:Int)] w fun e w'=>∃ gd gx,e = .returned (.tuple #[.pointer (some ⟨gd,0,none⟩),.pointer (some ⟨gx,0,none⟩)])∧Disk w' (fun k=>w.heap.size≤k∧k<w'.heap.size) gd (fmtD m)∧Below w.heap.size w w':=by
 obtain ⟨n,hn⟩:∃ n,n=157+m:=⟨_,rfl⟩
 have hc:(n:Int)=157+(m:Int):=by omega
 have HNN:=Lib.hid fun (x:Int) (hx:x=(n:Int))=>(by subst hx;exact new_yes w n (by omega) (by omega):Calls Tryz.prog 29 #[.int .i64 x] w fun e w'=>∃ gd,e = .returned (.pointer (some ⟨gd,0,none⟩))∧Disk w' (fun k=>w.heap.size≤k∧k<w'.heap.size) gd (fresh n)∧Below w.heap.size w w')
 have HRN:=Lib.hid fun W (x:Int) (hx:x=(n:Int))=>(by subst hx;exact rnew_yes W n (by omega) (by omega):Calls Tryz.prog 30 #[.int .i64 x] W fun e w'=>e = .returned (.pointer (some ⟨W.heap.size,0,none⟩))∧NewPostR W n w')
 have HC:=Lib.hid hc
 have HLEN:Hid ((fresh n).now.length≤900∧(fresh n).waits.length≤60000∧(fresh n).ops≤600000000):=Lib.hid ⟨by rw [fresh_len];omega,Nat.zero_le _,Nat.zero_le _⟩
 have HFM:Hid ((fresh n).ffmt.1=fmtD m):=Lib.hid (by unfold Dk.ffmt fmtD;rw [if_neg (by unfold Dk.many;rw [fresh_len];omega),hn])
 have HSF:=Lib.hid (sound_fresh n)
 unfold NewPostR at HRN
 generalize fresh n=s0 at *
 have wm:wrap64 (157+(m:Int))=157+(m:Int):=by unfold wrap64;omega
 clear hn
 clear h1 h2 hc
 go_enter Tryz.func9,Tryz.ntmps9
 go_wp2_with fail
 refine (HNN.out _ (by have:=HC.out;omega)).mono ?_
 rintro e w1 ⟨gd,rfl,hd1,hb1⟩
 have HD1:=Lib.hid hd1
 have HB1:=Lib.hid hb1
 clear hd1 hb1 HNN
 go_wp2_with fail
 refine (HRN.out w1 _ (by have:=HC.out;omega)).mono ?_
 rintro e w2 ⟨rfl,hp⟩
 obtain ⟨⟨gS,cS,rs,hr,hF⟩,hb2⟩:=hp
 have HX:Hid (Ref w2 (fun k=>w1.heap.size≤k∧k<w2.heap.size) w1.heap.size s0):=Lib.hid ⟨HSF.out,gS,cS,none,0,none,0,0,[],rs,[],hr,fun g hg=>⟨hF g hg,hr.lt hg⟩⟩
 have HB2:=Lib.hid hb2
 have HD2:=Lib.hid (HD1.out.keep (Only.of_below (F:=fun _=>False) hb2) (fun _ _ e=>e))
 clear hr hF hb2 HRN
 obtain ⟨gx,hgx⟩:∃ gx,gx=w1.heap.size:=⟨_,rfl⟩
 rw [←hgx] at HX ⊢
 have HGX:=Lib.hid hgx
 clear hgx
 go_wp2_with fail
 refine (ffmt_any HD2.out (by have:=HLEN.out.2.1;omega) (by have:=HLEN.out.2.2;omega)).mono ?_
 rintro e w3 ⟨rfl,hd3,ho3⟩
 rw [HFM.out] at hd3
 have HD3:=Lib.hid hd3
 have HO3:=Lib.hid ho3
 have HX3:=Lib.hid (HX.out.keep ho3 fun k h1 h2=>by have:=HGX.out;omega)
 clear hd3 ho3
 go_wp2_with fail
 refine (rfmt5_any HX3.out HLEN.out.1 HLEN.out.2.1 HLEN.out.2.2).mono ?_
 rintro e w4 ⟨rfl,hx4,ho4⟩
 have HO4:=Lib.hid ho4
 clear hx4 ho4
 go_wp2_with fail
 go_ret2
 have a1:=HB1.out.size
 have a2:=HB2.out.size
 have a3:=HO3.out.size
 have a4:=HO4.out.size
 have a5:=HGX.out
 refine ⟨gd,gx,rfl,(HD3.out.keep HO4.out fun k h1 h2=>?_).more fun k hk=>?_,((HB1.out.trans (HB2.out.mono a1)).trans (HO3.out.below (fun k h=>h.1) (by omega))).trans (HO4.out.below (fun k h=>by have:=h.1;omega) (by omega))⟩
 ·rcases h1 with h1 | h1 <;> omega
 ·rcases hk with hk | hk <;> omega
end Go.Proofs.YtnedpkhehiijhaaGreat
