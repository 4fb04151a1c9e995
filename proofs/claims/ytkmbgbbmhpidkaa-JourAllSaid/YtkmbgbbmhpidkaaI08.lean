/- Words and laws for the statement, part 8. -/
import Derived.StillTailTactics
import Derived.Test.YtkmbgbbmhpidkaaI06
import Derived.Test.YtkmbgbbmhpidkaaI07
namespace Go.Proofs.Ytkmbgbbmhpidkaa
open Go.RowKit Go.Shelf
set_option linter.unusedVariables false
set_option linter.unusedSimpArgs false
attribute [local go_sem] Oper.semAt_some
section
variable {w:World} {F:Nat→Prop} {gd:Nat} {s:Dk}
set_option maxRecDepth 100000 in
set_option maxHeartbeats 4000000 in
theorem open_many (h:Disk w F gd s) {n:Nat} (hdn:s.down=false) (hm:0<s.many) (h0:s.read 0=apstB) (h1:begunN (s.read 1)=some n) (hn1:1≤n) (hn2:n≤150) (hoc:∀ i:Nat,Oct1 (s.read (i:Int))) (hwl:s.waits.length≤70000) (hops:s.ops≤700000000) :
  Calls Try.prog 16 #[.pointer (some ⟨gd,0,none⟩)] w fun e w'=>e = .returned (.int .i64 ((s.open_).2:Nat))∧DJ w F gd (s.open_).1 w':=by
 obtain ⟨F',hF'⟩:∃ F',F'=fun k=>F k∧k<w.heap.size:=⟨_,rfl⟩
 have hl:=h.low
 rw [←hF'] at hl
 have hFF:∀ k,F' k→F k∧k<w.heap.size:=fun k hk=>by rw [hF'] at hk;exact hk
 have hb1:Below w.heap.size w ((w.alloc (.cells #[.pointer (some ⟨gd,0,none⟩)] 23)).alloc (.cells #[.int .i64 0] 33)):=((Below.refl _ _).alloc (Nat.le_refl _) _).alloc (by simp) _
 have hbx:=(Holds.fresh w 23 #[.pointer (some ⟨gd,0,none⟩)]).alloc (.cells #[.int .i64 0] 33)
 have hrs:=Holds.fresh (w.alloc (.cells #[.pointer (some ⟨gd,0,none⟩)] 23)) 33 #[.int .i64 0]
 rw [show (w.alloc (.cells #[.pointer (some ⟨gd,0,none⟩)] 23)).heap.size=w.heap.size+1 by simp] at hrs
 have hsz:((w.alloc (.cells #[.pointer (some ⟨gd,0,none⟩)] 23)).alloc (.cells #[.int .i64 0] 33)).heap.size=w.heap.size+2:=by simp
 have hd1:Disk ((w.alloc (.cells #[.pointer (some ⟨gd,0,none⟩)] 23)).alloc (.cells #[.int .i64 0] 33)) F' gd s:=(hl.keep (Only.of_below (F:=fun _=>False) hb1) (fun _ _ e=>e))
 have z0:=hbx.cell 0
 obtain ⟨V,hV⟩:∃ V,V=((w.alloc (.cells #[.pointer (some ⟨gd,0,none⟩)] 23)).alloc (.cells #[.int .i64 0] 33)):=⟨_,rfl⟩
 rw [←hV] at hb1 hbx hrs hsz hd1
 have HV:=Lib.hid hV
 have HST:=Lib.hid (DJ.start hd1)
 have HBX:Hid (∀ (s':Dk) (W:World),DJ V F' gd s' W→W.cell? ⟨w.heap.size,0,none⟩=some (.pointer (some ⟨gd,0,none⟩))∧W.cell? ⟨w.heap.size+1,0,none⟩=some (.int .i64 0)∧W.frozen? ⟨w.heap.size+1,0,none⟩=false):=Lib.hid fun s' W hW=>by
  have k:∀ g,g=w.heap.size∨g=w.heap.size+1→W.heap[g]?=V.heap[g]?:=fun g hg=>hW.2.block g (by omega) fun hF=>by have:=(hFF g hF).2;omega
  have b1:Holds W w.heap.size 23 #[.pointer (some ⟨gd,0,none⟩)]:=(k _ (.inl rfl)).trans hbx
  have b2:Holds W (w.heap.size+1) 33 #[.int .i64 0]:=(k _ (.inr rfl)).trans hrs
  exact ⟨b1.cell 0,b2.cell 0,b2.open_ 0⟩
 have HSET:Hid (∀ (s':Dk) (W:World) (v:Value),DJ V F' gd s' W→DJr V F' (w.heap.size+1) gd s' (W.setCell ⟨w.heap.size+1,0,none⟩ v)):=Lib.hid fun s' W v hW=>by
  have hn:∀ k,grow F' V W k→k≠w.heap.size+1:=fun k hk e=>by
   subst e
   rcases hk with hk | hk
   ·have:=(hFF _ hk).2;omega
   ·omega
  have ho:Only (fun k=>k=w.heap.size+1) W (W.setCell ⟨w.heap.size+1,0,none⟩ v):=(Only.refl (fun k=>k=w.heap.size+1) W).setCell (p:=⟨w.heap.size+1,0,none⟩) (.inl rfl) v
  refine ⟨(hW.1.keep ho fun k a b=>hn k a b).more fun k hk=>?_,(hW.2.more fun k _ hk=>.inl hk).setCell (.inl (.inr rfl)) v⟩
  have h2:=ho.size
  rcases hk with hk | hk
  ·exact .inl hk
  ·exact .inr ⟨hk.1,by omega⟩
 have HOUT:Hid (∀ (s':Dk) (W:World),DJr V F' (w.heap.size+1) gd s' W→DJ w F gd s' W):=Lib.hid fun s' W hW=>by
  refine ⟨hW.1.more fun k hk=>?_,(Only.of_below (F:=F) hb1).trans hW.2 fun k hk hF=>by rcases hF with hF | hF;exact (hFF k hF).1;omega⟩
  rcases hk with hk | hk
  ·exact .inl (hFF k hk).1
  ·exact .inr ⟨by omega,hk.2⟩
 have HFIN:Hid (∀ (s':Dk) (W:World) (v:Value),DJ V F' gd s' W→DJ w F gd s' (W.setCell ⟨w.heap.size+1,0,none⟩ v)):=Lib.hid fun s' W v hW=>HOUT.out _ _ (HSET.out s' W v hW)
 have HDN:=Lib.hid (disk_down hd1)
 rw [hdn] at HDN
 have HM:=Lib.hid (jmany hd1)
 have hmm:s.many≤2000:=by have:=h.len.2.2;unfold Dk.many;omega
 have HRD:=Lib.hid fun (W:World) (hW:DJ V F' gd s W) (i:Int)=>disk_read hW.1 i
 obtain ⟨r,hr0⟩:∃ r,r=s.open_:=⟨_,rfl⟩
 rw [←hr0]
 have HRR:Hid (r=if ∀ p∈s.told n,p.1<(s.many:Int) then s.fin (s.told n) else (s,13)):=Lib.hid (by
  rw [hr0]
  unfold Dk.open_
  rw [if_neg (by rw [hdn];decide),if_neg (by rw [h0];simp;omega),h1]
  cases n with
  | zero=>omega
  | succ n=>rfl)
 have HR0:=Lib.hid h0
 have HR1:=Lib.hid h1
 have HL1:=Lib.hid (h.sect_read (i:=1) (by unfold Dk.many at hm;omega))
 have HO1:=Lib.hid (hoc 1)
 have HOC:=Lib.hid hoc
 have HMP:=Lib.hid hm
 have HBD:=Lib.hid (And.intro hwl hops)
 have HDV:=Lib.hid hd1
 have HRB:=Lib.hid hrs
 have HFL:Hid (∀ k,F' k→k<w.heap.size):=Lib.hid fun k hk=>(hFF k hk).2
 have HVS:Hid (V.heap.size=w.heap.size+2):=Lib.hid hsz
 clear h hl hF' hb1 hbx hrs hd1 hV hFF hsz hdn h0 h1 hoc hwl hops hr0
 have d0:((s.many:Int) == 0)=false:=by rw [beq_eq_false_iff_ne];omega
 obtain ⟨m,hmm2⟩:∃ m,m=s.many:=⟨_,rfl⟩
 have HMM:=Lib.hid hmm2
 rw [←hmm2] at HM d0 HRR hmm
 clear hmm2 hm
 obtain ⟨_,k1,k2⟩:=HBX.out _ _ HST.out
 have HBGZ:Hid ((1:Nat)≤n∧n≤150):=Lib.hid ⟨hn1,hn2⟩
 have x0:((n:Int) == 0)=false:=by rw [beq_eq_false_iff_ne];omega
 clear hn1 hn2
 refine (callsIn_wide (n:=3)).1 ?_
 refine callsIn_of_wp_marks Try.func16 rfl trivial ?_ rfl
 simp only [Try.ntmps16,List.size_toArray,List.length_cons,List.length_nil,Nat.reduceAdd,Nat.reduceSub,Array.replicate_succ,Array.replicate_zero,List.push_toArray,List.append_toArray,List.nil_append,List.cons_append]
 refine wpIn_wide.2 ?_
 go_wp2_with fail
 rw [←HV.out]
 refine HDN.out.mono ?_
 rintro e w1 ⟨rfl,rfl⟩
 obtain ⟨k0,_,_⟩:=HBX.out _ _ HST.out
 go_wp2_with (first | (refine HM.out.mono ?_;rintro e w1 ⟨rfl,rfl⟩) | fail)
 refine (HRD.out V HST.out 0).mono ?_
 rintro e w3 ⟨A3,n3,c3,rfl,hn3,hr3,hx3,hb3⟩
 clear hx3
 have HD3:=Lib.hid (HST.out.below hb3)
 have HE3:=Lib.hid hb3
 rw [HR0.out] at hn3 hr3
 obtain rfl:64=n3:=by rw [←hn3];exact (apst_len).symm
 have HR3:=Lib.hid hr3
 clear hn3 hr3 hb3 HV z0 k0
 go_wp2_with fail
 refine (headed_apst _).mono ?_
 rintro e w4 ⟨rfl,hr4,hb4⟩
 have HD4:=Lib.hid (HD3.out.below hb4)
 have HE4:=Lib.hid (HE3.out.trans (hb4.mono HE3.out.size))
 have HEQ:=Lib.hid (equalB w4 A3 (some ⟨w3.heap.size,0,none⟩) c3 64 64 64 apstB apstB apst_len apst_len ((HR3.out.under hb4).more hb4.size) (Row.rd64 hr4 apst_len) apst_oct apst_oct)
 rw [decide_eq_true rfl] at HEQ
 clear hr4 hb4 HR3
 go_wp2_with fail
 refine HEQ.out.mono ?_
 rintro e w5 ⟨rfl,rfl⟩
 obtain ⟨k0,_,_⟩:=HBX.out _ _ HD4.out
 go_wp2_with fail
 refine (HRD.out w4 HD4.out 1).mono ?_
 rintro e w6 ⟨A6,n6,c6,rfl,hn6,hr6,hx6,hb6⟩
 clear hx6
 have HD6:=Lib.hid (HD4.out.below hb6)
 have HE6:=Lib.hid (HE4.out.trans (hb6.mono HE4.out.size))
 obtain rfl:64=n6:=by rw [←hn6];exact HL1.out.symm
 have HBG:=Lib.hid (begun_any w6 A6 c6 (s.read 1) HL1.out hr6 HO1.out)
 rw [HR1.out] at HBG
 clear hn6 hr6 hb6 k0
 go_wp2_with fail
 refine HBG.out.mono ?_
 rintro e w7 ⟨rfl,hb7⟩
 have HD7:=Lib.hid (HD6.out.below hb7)
 have HE7:=Lib.hid (HE6.out.trans (hb7.mono HE6.out.size))
 clear hb7 HBG
 have hb8:Below w7.heap.size w7 (w7.alloc (.cells #[.slice none 0 0] 27)):=(Below.refl _ _).alloc (Nat.le_refl _) _
 have HD8:=Lib.hid (HD7.out.below hb8)
 have hl8:Holds (w7.alloc (.cells #[.slice none 0 0] 27)) w7.heap.size 27 #[.slice none 0 0]:=Holds.fresh _ _ _
 obtain ⟨w8,hw8⟩:∃ W,W=w7.alloc (.cells #[.slice none 0 0] 27):=⟨_,rfl⟩
 have HW8:=Lib.hid hw8
 rw [←hw8] at HD8 hl8
 have HL8:=Lib.hid hl8
 clear hw8 hb8 hl8
 have HTA:=Lib.hid (told_any w8 gd n)
 have k8:=(HBX.out _ _ HD8.out).1
 rw [HW8.out] at k8
 go_wp2_with fail
 rw [←HW8.out]
 refine HTA.out.mono ?_
 rintro e w9 ⟨rfl,hw9⟩
 have hs8:w8.heap.size=w7.heap.size+1:=by rw [HW8.out];simp
 have hb78:Below w7.heap.size w7 w8:=by rw [HW8.out];exact (Below.refl _ _).alloc (Nat.le_refl _) _
 have hb89:Below w8.heap.size w8 w9:=by rw [hw9];exact ((Below.refl _ _).alloc (Nat.le_refl _) _).alloc (by simp) _
 have hs9:w9.heap.size=w8.heap.size+2:=by rw [hw9];simp
 have hhd:Holds w9 w8.heap.size 23 #[.pointer (some ⟨gd,0,none⟩)]:=by rw [hw9];exact (Holds.fresh _ _ _).alloc _
 have hhn:Holds w9 (w8.heap.size+1) 3 #[.int .i64 (n:Int)]:=by
  rw [hw9]
  have:=Holds.fresh (w8.alloc (.cells #[.pointer (some ⟨gd,0,none⟩)] 23)) 3 #[.int .i64 (n:Int)]
  rwa [show (w8.alloc (.cells #[.pointer (some ⟨gd,0,none⟩)] 23)).heap.size=w8.heap.size+1 by simp] at this
 have hb79:Below w7.heap.size w7 w9:=hb78.trans (hb89.mono hb78.size)
 have hE9:Below V.heap.size V w9:=HE7.out.trans (hb79.mono HE7.out.size)
 have hd9:Disk w9 F' gd s:=HDV.out.keep (Only.of_below (F:=fun _=>False) hE9) (fun _ _ e=>e)
 have hl9:Holds w9 w7.heap.size 27 #[.slice none 0 0]:=HL8.out.under hb89 (by omega)
 have HST9:=Lib.hid (told_stops (G:=fun g=>g=w7.heap.size) hd9 (fun k hk e=>by have:=HFL.out k hk;have:=HVS.out;have:=HE7.out.size;omega) HOC.out HBGZ.out.2 HMP.out w8.heap.size (w8.heap.size+1) hhd hhn (fun e=>by have e':w8.heap.size=w7.heap.size:=e;omega) (fun e=>by have e':w8.heap.size+1=w7.heap.size:=e;omega))
 have h79:=Lib.hid hb79.size
 have HW9:=Lib.hid hw9
 have HE9:=Lib.hid hE9
 have HI0:Hid (OpI w7 w9 w7.heap.size m [] w9):=Lib.hid ⟨KpG.refl _ _ _,fun x hx=>(by cases hx),none,0,hl9,(Wrs.nil w7 w9.heap.size).under hb79,fun g hg=>by simp [blockOf] at hg⟩
 have HSZ:=Lib.hid (And.intro hs8 hs9)
 clear hw9 hs8 hs9 hb78 hb89 hhd hhn hb79 hE9 hd9 hl9 HTA
 go_wp2_with fail
 refine (wpIn_wide (n:=3)).1 ?_
 refine rangeFuncM rfl (by omega) (gf:=63) (lb:=#[.pointer (some ⟨w8.heap.size+1,0,none⟩),.pointer (some ⟨w8.heap.size,0,none⟩)]) rfl trivial (enters_of Try.func63 (by kernel_rfl) rfl) HST9.out (fun h k=>h.trans k) kpG_put tlM_put (fun _=>rfl)
  (OpI w7 w9 w7.heap.size m) (OpX w7 (w.heap.size+1) m) (opI_own h79.out (Nat.le_refl _)) (fun c=>opX_own h79.out c) HI0.out
  (fun x=>{ tmps:=#[.pointer (some ⟨gd,0,none⟩),.pointer (some ⟨w.heap.size,0,none⟩),.pointer (some ⟨w.heap.size+1,0,none⟩),.int .i64 (n:Int),.bool true,.pointer (some ⟨w7.heap.size,0,none⟩),.int .i64 x.at_,.slice x.da 64 x.dc,.pointer (some ⟨gd,0,none⟩),.bool false,.pointer (some ⟨gd,0,none⟩),.int .i64 (m:Int),.bool false,.bool false,.pointer (some ⟨gd,0,none⟩),.slice A3 64 c3,.slice (some ⟨w3.heap.size,0,none⟩) 64 64,.bool true,.bool false,.bool false,.tuple #[.int .i64 (n:Int),.bool true],.pointer (some ⟨gd,0,none⟩),.slice A6 64 c6,.tuple #[.int .i64 (n:Int),.bool true],.int .i64 (n:Int),.bool true,.bool true,.bool false,.int .i64 (n:Int),.bool false,.pointer (some ⟨gd,0,none⟩),.int .i64 (n:Int),.func (.func 63) #[] #[.pointer (some ⟨w8.heap.size+1,0,none⟩),.pointer (some ⟨w8.heap.size,0,none⟩)],.int .i64 x.at_,.slice x.da 64 x.dc,undef,undef,undef,undef,undef,undef,undef,undef,undef,undef,undef,undef,undef],defers:=[] }) ?assign ?body ?done ?stop
 case assign =>
  intro l x W K hK
  simp [tlv]
  gi_wp2
  exact hK
 case body =>
  rintro l pre x W ⟨hkp,hlt,A,c,hh,hw,ha⟩ hM hlen
  have hbV:Below V.heap.size V W:=HE7.out.trans (hw.bel.mono HE7.out.size)
  have hdW:Disk W F' gd s:=HDV.out.keep (Only.of_below (F:=fun _=>False) hbV) (fun _ _ e=>e)
  have hmw:=jmany hdW
  rw [←HMM.out] at hmw
  have HMW:=Lib.hid (callsIn_wide (n:=0).2 hmw)
  obtain ⟨k0,k1,k2⟩:=HBX.out _ _ (HST.out.below hbV)
  have hl0:=hh.cell 0
  by_cases hb:(m:Int)≤x.at_
  ·have dm:decide ((m:Int)≤x.at_)=true:=decide_eq_true hb
   gi_wp2_with (first | (refine ⟨trivial,(CallsIn.inRound l HMW.out).mono ?_⟩;rintro e w10 ⟨rfl,rfl⟩) | fail)
   have hrb:Holds (W.setCell ⟨w.heap.size+1,0,none⟩ (.int .i64 13)) (w.heap.size+1) 33 #[.int .i64 13]:=by
    have hb1:Holds W (w.heap.size+1) 33 #[.int .i64 0]:=HRB.out.under hbV (by have:=HVS.out;omega)
    exact hb1.stored 0 (.int .i64 13)
   exact ⟨KeepsOthers.setCell _ _ _,rfl,(Only.of_below (F:=fun g=>g=w.heap.size+1) hw.bel).setCell (.inl rfl) _,hrb,x,by simp,hb⟩
  ·have dm:decide ((m:Int)≤x.at_)=false:=decide_eq_false hb
   have hcs:wrCells x=[.int .i64 x.at_,.slice x.da 64 x.dc]:=by unfold wrCells;rw [hM.2.1]
   have hb1:Below W.heap.size W (W.alloc (.cells #[.int .i64 x.at_,.slice x.da 64 x.dc] 42)):=(Below.refl _ _).alloc (Nat.le_refl _) _
   have hst:=hw.under hb1
   have HST1:=Lib.hid hst
   have HFX:Hid (Holds (W.alloc (.cells #[.int .i64 x.at_,.slice x.da 64 x.dc] 42)) W.heap.size 42 ([.int .i64 x.at_,.slice x.da 64 x.dc]:List Value).toArray):=Lib.hid (Holds.fresh _ _ _)
   have HOW:=Lib.hid hst.own
   have HWC:Hid (∀ u∈([.int .i64 x.at_,.slice x.da 64 x.dc]:List Value),u.oneCell'=true):=Lib.hid (by intro u hu;simp at hu;rcases hu with rfl | rfl <;> rfl)
   have hpl:pre.length≤100000:=by have:=HBGZ.out.2;omega
   have HQ9:Hid (∀ W9,(W.alloc (.cells #[.int .i64 x.at_,.slice x.da 64 x.dc] 42)).grownBy W9 (blockOf A)→Holds W9 w7.heap.size 27 #[.slice A pre.length c]):=Lib.hid fun W9 hg=>(hg.block _ (Nat.lt_of_lt_of_le hh.lt hb1.size) (fun e=>by have h1:=ha _ e.symm;have:=HSZ.out;omega)).trans (hh.under hb1 hh.lt)
   have HWW:=Lib.hid hw
   have HKP:=Lib.hid hkp
   have HAA:=Lib.hid ha
   have HLT:=Lib.hid hlt
   have HMM2:=Lib.hid hM
   have HB1:=Lib.hid hb1
   clear hw hkp ha hlt hM hst hb1
   gi_wp2_with (first | (refine ⟨trivial,(CallsIn.inRound l HMW.out).mono ?_⟩;rintro e w10 ⟨rfl,rfl⟩) | (refine opIn_pushV _ (.tmp 39) (.tmp 43) 27 rfl 42 (.agg #[.int .i64 0,.slice none 0 0]) 2 32 Try.underlying27 info_write rfl (by omega) (by omega) rfl HOW.out (cs:=[.int .i64 x.at_,.slice x.da 64 x.dc]) rfl rfl HWC.out HFX.out hpl ?_;intro g9 c9 W9 ho9 hg9 hat9 hlt9;have q0:=(HQ9.out W9 hg9).cell 0;have f0:=(HQ9.out W9 hg9).open_ 0))
   have hQ9:=HQ9.out W9 hg9
   obtain ⟨b0,e0,hb0,hrow0⟩:=HMM2.out.2.2
   have hAne:blockOf A≠some b0:=fun e=>by
    rcases HWW.out.own.2 with ⟨hv,_⟩ | ⟨g',cap,cur,hv,_,hgg,_⟩
    ·injection hv with hv
     rw [hv] at e
     simp [blockOf] at e
    ·injection hv with hv
     rw [hv] at e
     obtain rfl:g'=b0:=by simpa [blockOf] using e
     have h':W.heap[g']?=some (.cells (vals .u8 x.d).toArray 5 (0,0)):=hrow0
     rw [hgg] at h'
     injection h' with h'
     injection h' with _ h'
     exact absurd h' (by decide)
   have hb0l:b0<W.heap.size:=Holds.lt hrow0
   have hda:∀ b o,x.da=some ⟨b,o,none⟩→w9.heap.size≤b∧b<(W.alloc (.cells #[.int .i64 x.at_,.slice x.da 64 x.dc] 42)).heap.size∧blockOf A≠some b:=fun b o e=>by
    rw [e0] at e
    injection e with e
    injection e with e
    subst e
    exact ⟨hb0,Nat.lt_of_lt_of_le hb0l HB1.out.size,hAne⟩
   have hps:=HST1.out.push (x:=x) ⟨(HMM2.out.1.under HB1.out).more HB1.out.size,hda⟩ (by rw [hcs];exact ho9) hg9 hat9
   have hlen9:(pre ++ [x]).length=pre.length+1:=by simp
   have hg9s:w9.heap.size≤g9:=by
    rcases hat9 with h | h
    ·exact HAA.out _ h
    ·have:=HKP.out.1;have:=HB1.out.size;omega
   have hne9:blockOf (some (⟨g9,0,none⟩:Addr))≠some w7.heap.size:=fun e=>by
    have e':g9=w7.heap.size:=by simpa [blockOf] using e
    have:=HSZ.out
    omega
   have hkW:KpG w9 (fun g=>g=w7.heap.size) W W9:=⟨Nat.le_trans HB1.out.size hg9.size,fun g hlt2 hG=>(hg9.block g (by have:=HKP.out.1;have:=HB1.out.size;omega) fun e=>by have:=HAA.out _ e.symm;omega).trans (HB1.out.block g (by have:=HKP.out.1;omega))⟩
   have hko:KeepsOthers W W9:=⟨Nat.le_trans HB1.out.size hg9.size,fun k o hk ho=>(hg9.block k (by have:=(Array.getElem?_eq_some_iff.1 hk).1;have:=HB1.out.size;omega) fun e=>by
    rcases HWW.out.own.2 with ⟨hv,_⟩ | ⟨g',cap,cur,hv,_,hgg,_⟩
    ·injection hv with hv
     rw [hv] at e
     simp [blockOf] at e
    ·injection hv with hv
     rw [hv] at e
     obtain rfl:k=g':=by simpa [blockOf] using e
     rw [hgg] at hk
     injection hk with hk
     rw [←hk] at ho
     cases ho).trans ((HB1.out.block k (Array.getElem?_eq_some_iff.1 hk).1).trans hk)⟩
   refine ⟨hko.trans (KeepsOthers.setCell _ _ _),⟨by simpa [World.setCell] using hkW.1,fun k hlt2 hk=>(Below.heap_setCell W9 ⟨w7.heap.size,0,none⟩ _ k hk).trans (hkW.2 k hlt2 hk)⟩,(HKP.out.trans hkW).store (.inl rfl),fun y hy=>?_,some ⟨g9,0,none⟩,c9,?_,hps.aside (Nat.le_refl _) (by have:=HSZ.out;omega) hne9,fun g e=>?_⟩
   ·rcases List.mem_append.1 hy with hy | hy
    ·exact HLT.out y hy
    ·rw [List.mem_singleton.1 hy];omega
   ·rw [hlen9]
    exact hQ9.stored 0 _
   ·have e':g9=g:=by simpa [blockOf] using e
    omega
 case done =>
  rintro D xs W hD hS ⟨hkp,hlt,A,c,hh,hw,ha⟩ hK
  have HRE:Hid (r=s.fin (wv xs)):=Lib.hid (by
   rw [HRR.out,←hS,if_pos]
   intro p hp
   obtain ⟨x,hx,rfl⟩:=List.mem_map.1 hp
   exact hlt x hx)
  have hbV:Below V.heap.size V W:=HE7.out.trans (hw.bel.mono HE7.out.size)
  have hdW:Disk W F' gd s:=HDV.out.keep (Only.of_below (F:=fun _=>False) hbV) (fun _ _ e=>e)
  have hw':Wrs w7 W w7.heap.size A c xs:=⟨hw.own,fun x hx=>⟨(hw.dat x hx).1,fun b o e=>⟨Nat.le_trans h79.out ((hw.dat x hx).2 b o e).1,((hw.dat x hx).2 b o e).2⟩⟩,hw.blk,hw.bel⟩
  have hof:=(hw'.rd (Nat.le_refl _)).off (F:=F') fun k hk=>by have:=HFL.out k hk;have:=HVS.out;have:=HE7.out.size;omega
  have hxl:xs.length=n:=by
   have:=congrArg List.length hS
   simpa [wv,Dk.told] using this
  have hat:∀ x∈xs,0≤x.at_∧x.at_≤100000:=fun x hx=>by
   have h1:=hlt x hx
   have h2:x.v∈s.told n:=by rw [←hS];exact List.mem_map_of_mem hx
   obtain ⟨k,_,hk⟩:=List.mem_map.1 h2
   have h3:x.at_=(s.toldAt n k).1:=by rw [hk];rfl
   unfold Dk.toldAt at h3
   dsimp only at h3
   omega
  have HSE:=Lib.hid (settle_any hdW A c n xs hxl hof (by have:=HBGZ.out.2;omega) hat (by have:=HBD.out.1;omega) (by have:=HBD.out.2;omega))
  have HOV:Hid (∀ s' W5,DJ W F' gd s' W5→DJ V F' gd s' W5):=Lib.hid fun s' W5 h5=>⟨h5.1.more fun k hk=>by
   have:=hbV.size
   rcases hk with hk | hk
   ·exact .inl hk
   ·exact .inr ⟨by omega,hk.2⟩,(Only.of_below (F:=F') hbV).trans h5.2 fun k _ hk=>hk⟩
  have hDl:D<W.heap.size:=(Array.getElem?_eq_some_iff.1 hK).1
  have HDD:Hid (∀ s' W5,DJ W F' gd s' W5→W5.heap[D]?=some (.deferred (some []))):=Lib.hid fun s' W5 h5=>(h5.2.block D hDl fun hF=>by have:=HFL.out D hF;have:=HVS.out;have:=HE9.out.size;omega).trans hK
  have hB1:=HBX.out _ _ (HST.out.below hbV)
  have k0:=hB1.1
  have hh':=hh.cell 0
  rw [hxl] at hh'
  have HK:=Lib.hid hK
  clear hkp hlt hw hw' hof hat hdW hbV hS hK ha hB1 hh hDl
  generalize s.fin (wv xs)=q at *
  obtain ⟨s5,e5⟩:=q
  dsimp only at *
  go_wp2_with fail
  refine HSE.out.mono ?_
  rintro e w5 ⟨rfl,hd5⟩
  have hd5':=HOV.out _ _ hd5
  have hD5:=HDD.out _ _ hd5
  obtain ⟨_,k1,k2⟩:=HBX.out _ _ hd5'
  have hc:=World.cell?_setCell_same' w5 ⟨w.heap.size+1,0,none⟩ (.int .i64 (e5:Int)) (by rw [k1];rfl)
  have HDf:=Lib.hid (HSET.out _ _ (.int .i64 (e5:Int)) hd5')
  have hKf:(w5.setCell ⟨w.heap.size+1,0,none⟩ (.int .i64 (e5:Int))).heap[D]?=some (.deferred (some [])):=(Below.heap_setCell w5 ⟨w.heap.size+1,0,none⟩ _ D (by have:=HE9.out.size;have:=HVS.out;dsimp only;omega)).trans hD5
  have HKf:=Lib.hid hKf
  clear hd5 hd5' hD5 HSE HOV HDD hKf k0
  go_wp2_with fail
  have hc2:=cell_kept hc (grownBy_putObj' _ D (.deferred none)) (fun r e=>by cases e;exact ⟨_,HKf.out,rfl⟩)
  refine ⟨by simp,.inl ⟨_,_,rfl,run_takeDeferred HKf.out,?_⟩⟩
  rw [HRE.out]
  exact ⟨.int .i64 (e5:Int),by simp [results,Try.results16,go_sem,hc2],rfl,HOUT.out _ _ (HDf.out.turns (grownBy_putObj' _ D (.deferred none)) fun q e=>by cases e;exact ⟨by have:=HE9.out.size;omega,_,HKf.out,rfl⟩)⟩
 case stop =>
  rintro D c pre W hD hS ⟨rfl,hon,hrb,hbig⟩ hK
  have HRE:Hid (r=(s,13)):=Lib.hid (by
   obtain ⟨x,hx,hxm⟩:=hbig
   rw [HRR.out,if_neg (fun hall=>?_)]
   have:=hall x.v (hS.subset (List.mem_map_of_mem hx))
   simp only [Wr.v] at this
   omega)
  have hDR:DJr V F' (w.heap.size+1) gd s W:=by
   have h7:=HE7.out
   have ho:Only (fun g=>g=w.heap.size+1) V W:=(Only.of_below (F:=fun g=>g=w.heap.size+1) h7).trans hon fun k _ hk=>hk
   exact ⟨(HDV.out.keep ho fun k hk e=>by have:=HFL.out k hk;omega).more fun k hk=>.inl hk,ho.more fun k _ hk=>.inr hk⟩
  have hc:=hrb.cell 0
  gi_wp2
  have hc2:=cell_kept hc (grownBy_putObj' _ D (.deferred none)) (fun r e=>by cases e;exact ⟨_,hK,rfl⟩)
  refine ⟨by simp,.inl ⟨_,_,rfl,run_takeDeferred hK,?_⟩⟩
  rw [HRE.out]
  exact ⟨.int .i64 13,by simp [results,Try.results16,go_sem,hc2],rfl,HOUT.out _ _ (hDR.turns (grownBy_putObj' _ D (.deferred none)) fun q e=>by cases e;exact ⟨by have:=HE9.out.size;omega,_,hK,rfl⟩)⟩
end
end Go.Proofs.Ytkmbgbbmhpidkaa
namespace Go.Proofs.Ytkmbgbbmhpidkaa
open Go.RowKit Go.Shelf
set_option linter.unusedVariables false
set_option linter.unusedSimpArgs false

/-- All bytes are bytes. -/
def Dk.Oct (s:Dk):Prop:=(∀ x∈s.lasts,Oct1 x)∧∀ p∈s.waits,Oct1 p.2
theorem fallN_oct {W:List (Nat×List Nat)} {L:List (List Nat)} (hL:∀ x∈L,Oct1 x) (hW:∀ p∈W,Oct1 p.2) (kp:Nat→Bool):∀ k,k≤W.length→∀ x∈fallN kp W L k,Oct1 x
 | 0,_=>hL
 | k+1,hk=>by
  rw [fallN]
  have ih:=fallN_oct hL hW kp k (by omega)
  split
  ·intro x hx
   rcases List.mem_or_eq_of_mem_set hx with h | h
   ·exact ih x h
   ·subst h
    have e:W[k]?=some (W.getD k default):=by simp [List.getD,show k<W.length by omega]
    exact hW _ (List.mem_of_getElem? e)
  ·exact ih
theorem Dk.Oct.read {s:Dk} (h:s.Oct) (hs:s.Sound) (i:Int):Oct1 (s.read i):=by
 unfold Dk.read
 split
 ·rw [List.getD]
  cases e:s.now[i.toNat]? with
  | none=>intro x hx;cases hx
  | some x=>exact fallN_oct h.1 h.2 _ _ (Nat.le_refl _) x (by rw [←hs];exact List.mem_of_getElem? e)
 ·intro x hx;cases hx
theorem Dk.Oct.write {s:Dk} (h:s.Oct) (i:Int) {x:List Nat} (hx:Oct1 x):(s.write i x).1.Oct:=by
 unfold Dk.write
 split
 ·exact h
 ·split
  ·split
   ·exact ⟨fallN_oct h.1 h.2 _ _ (Nat.le_refl _),fun p hp=>by cases hp⟩
   ·refine ⟨h.1,fun p hp=>?_⟩
    rcases List.mem_append.1 hp with h1 | h1
    ·exact h.2 p h1
    ·obtain rfl:=List.mem_singleton.1 h1
     exact hx
  ·exact h
theorem Dk.Oct.flush {s:Dk} (h:s.Oct):s.flush.1.Oct:=by
 unfold Dk.flush
 split
 ·exact h
 ·split
  ·exact ⟨fallN_oct h.1 h.2 _ _ (Nat.le_refl _),fun p hp=>by cases hp⟩
  ·exact ⟨fallN_oct h.1 h.2 _ _ (Nat.le_refl _),fun p hp=>by cases hp⟩
theorem Dk.Oct.restart {s:Dk} (h:s.Oct):s.restart.Oct:=⟨h.1,fun p hp=>by cases hp⟩
theorem Dk.Oct.arm {s:Dk} (h:s.Oct) (a:Int) (k:List Bool):(s.arm a k).Oct:=h
theorem oct_fresh (n:Nat):(fresh n).Oct:=⟨fun x hx=>by rw [List.eq_of_mem_replicate hx];exact zsec_oct,fun p hp=>by cases hp⟩

theorem Dk.Oct.puts {s:Dk} (h:s.Oct) {l:List (Int×List Nat)} (hl:∀ p∈l,Oct1 p.2):(s.puts l).1.Oct:=by
 induction l generalizing s with
 | nil=>exact h
 | cons p l ih =>
  rw [Dk.puts]
  have h1:=h.write p.1 (hl p List.mem_cons_self)
  split
  ·exact ih h1 fun q hq=>hl q (List.mem_cons_of_mem _ hq)
  ·exact h1
theorem Dk.Oct.putf {s:Dk} (h:s.Oct) {l:List (Int×List Nat)} (hl:∀ p∈l,Oct1 p.2):(s.putf l).1.Oct:=by
 unfold Dk.putf
 split
 ·exact (h.puts hl).flush
 ·exact h.puts hl
theorem Dk.Oct.fin {s:Dk} (h:s.Oct) {l:List (Int×List Nat)} (hl:∀ p∈l,Oct1 p.2):(s.fin l).1.Oct:=by
 have h1:(s.putf (l.map fun p=>(157+p.1,p.2))).1.Oct:=h.putf fun p hp=>by
  obtain ⟨q,hq,rfl⟩:=List.mem_map.1 hp
  exact hl q hq
 unfold Dk.fin
 split
 ·exact h1.putf fun p hp=>by rw [List.mem_singleton.1 hp];exact zsec_oct
 ·exact h1
theorem Dk.Oct.format {s:Dk} (h:s.Oct):s.format.1.Oct:=by
 unfold Dk.format
 split
 ·exact h
 ·refine h.putf fun p hp=>?_
  rcases List.mem_cons.1 hp with rfl | hp
  ·exact apst_oct
  ·rcases List.mem_cons.1 hp with rfl | hp
   ·exact zsec_oct
   ·obtain ⟨i,_,rfl⟩:=List.mem_map.1 hp
    exact zsec_oct
theorem Dk.Oct.open_ {s:Dk} (h:s.Oct) (hs:s.Sound):(s.open_).1.Oct:=by
 unfold Dk.open_
 split
 ·exact h
 ·split
  ·exact h
  ·split
   ·exact h
   ·exact h
   ·split
    ·refine h.fin fun p hp=>?_
     obtain ⟨k,_,rfl⟩:=List.mem_map.1 hp
     exact h.read hs ((2+sheetsN _+k:Nat):Int)
    ·exact h
theorem two8_oct (n:Nat):Oct1 (two8 n):=fun x hx=>by
 simp [two8] at hx
 omega
theorem shB_oct (l:List (Int×List Nat)) (t:Nat):Oct1 (shB l t):=secOf_oct fun x hx=>by
 obtain ⟨p,_,hp⟩:=List.mem_flatMap.1 (List.mem_of_mem_drop hx)
 exact two8_oct _ x hp
theorem Dk.Oct.commit {s:Dk} (h:s.Oct) {l:List (Int×List Nat)} (hl:∀ p∈l,Oct1 p.2):(s.commit l).1.Oct:=by
 have h1:(s.putf (logD l ++ logS l)).1.Oct:=h.putf fun p hp=>by
  rcases List.mem_append.1 hp with hp | hp
  ·obtain ⟨k,hk,rfl⟩:=List.mem_mapIdx.1 hp
   exact hl l[k] (List.getElem_mem hk)
  ·obtain ⟨t,_,rfl⟩:=List.mem_map.1 hp
   exact shB_oct _ _
 have h2:((s.putf (logD l ++ logS l)).1.putf [(1,markB l.length)]).1.Oct:=h1.putf fun p hp=>by rw [List.mem_singleton.1 hp];exact markB_oct _
 unfold Dk.commit
 split
 ·split
  ·exact h
  ·split
   ·exact h
   ·split
    ·split
     ·exact h2.fin hl
     ·exact h2
    ·exact h1
 ·exact h
theorem begunN_some {b:List Nat} {n:Nat} (h:begunN b=some n):n≤150∧(n=0→b=zsec):=by
 unfold begunN at h
 split at h
 ·injection h with h
  exact ⟨by omega,fun _=>by assumption⟩
 ·split at h
  ·cases h
  ·rename_i h1 h2
   injection h with h
   exact ⟨by omega,fun e=>by omega⟩
section
variable {w:World} {F:Nat→Prop} {gd:Nat} {s:Dk}
theorem open_any (h:Disk w F gd s) (hoc:∀ i:Nat,Oct1 (s.read (i:Int))) (hwl:s.waits.length≤70000) (hops:s.ops≤700000000) :
  Calls Try.prog 16 #[.pointer (some ⟨gd,0,none⟩)] w fun e w'=>e = .returned (.int .i64 ((s.open_).2:Nat))∧DJ w F gd (s.open_).1 w':=by
 by_cases hdn:s.down=true
 ·rw [show s.open_=(s,6) by unfold Dk.open_;rw [if_pos hdn]]
  exact open_down h hdn
 have hdn':s.down=false:=by simpa using hdn
 by_cases hm:s.many=0
 ·rw [show s.open_=(s,13) by unfold Dk.open_;rw [if_neg hdn,if_pos (.inl hm)]]
  exact open_small h hdn' hm
 have hm':0<s.many:=by omega
 have hlen:157<s.now.length:=by unfold Dk.many at hm';omega
 by_cases h0:s.read 0=apstB
 ·have hn:¬ (s.many=0∨s.read 0≠apstB):=fun e=>e.elim hm fun e=>e h0
  rcases hb:begunN (s.read 1) with _ | n
  ·rw [show s.open_=(s,13) by unfold Dk.open_;rw [if_neg hdn,if_neg hn,hb]]
   exact open_markless h hdn' hm' h0 hb (h.sect_read (i:=1) (by omega)) (hoc 1)
  ·have hb2:=begunN_some hb
   rcases Nat.eq_zero_or_pos n with rfl | hn0
   ·rw [show s.open_=(s,0) by unfold Dk.open_;rw [if_neg hdn,if_neg hn,hb];rfl]
    exact open_none h hdn' hm' h0 (hb2.2 rfl)
   ·exact open_many h hdn' hm' h0 hb hn0 hb2.1 hoc hwl hops
 ·rw [show s.open_=(s,13) by unfold Dk.open_;rw [if_neg hdn,if_pos (.inr h0)]]
  exact open_alien h hdn' hm' h0 (h.sect_read (i:=0) (by omega)) (hoc 0)
end
end Go.Proofs.Ytkmbgbbmhpidkaa
namespace Go.Proofs.Ytkmbgbbmhpidkaa
open Go.RowKit Go.Shelf
set_option linter.unusedVariables false
set_option linter.unusedSimpArgs false
attribute [local go_sem ↓] Go.wp_at_zero Go.wp_at_succ

/-- The document's disk, since w. -/
def RJ (w:World) (F:Nat→Prop) (gx:Nat) (s:Dk) (wr:World):Prop:=Ref wr (grow F w wr) gx s∧Only F w wr
section
variable {w wr w':World} {F:Nat→Prop} {gx:Nat} {s s':Dk}
theorem RJ.start (h:Ref w F gx s):RJ w F gx s w:=⟨h.more fun k hk=>.inl hk,Only.refl _ _⟩
theorem RJ.below (h:RJ w F gx s wr) (hb:Below wr.heap.size wr w'):RJ w F gx s w' :=
 ⟨(h.1.under hb).more fun k hk=>by
   rcases hk with hk | hk
   ·exact .inl hk
   ·exact .inr ⟨hk.1,Nat.lt_of_lt_of_le hk.2 hb.size⟩,h.2.trans (Only.of_below (F:=fun _=>False) hb) fun _ _ e=>e.elim⟩
theorem RJ.step (h:RJ w F gx s wr) (hd:Ref w' (grow (grow F w wr) wr w') gx s') (ho:Only (grow F w wr) wr w'):RJ w F gx s' w' :=
 ⟨hd.more fun k hk=>by
  have h1:=h.2.size
  have h2:=ho.size
  rcases hk with (hk | hk) | hk
  ·exact .inl hk
  ·exact .inr ⟨hk.1,by omega⟩
  ·exact .inr ⟨by omega,hk.2⟩,h.2.trans ho fun k hk hg=>by rcases hg with hg | hg;exact hg;omega⟩
theorem RJ.then {P:World→Prop} (h:RJ w F gx s wr) (hp:OffF F P w):OffF (grow F w wr) P wr:=hp.only h.2
theorem RJ.rd {P:World→Prop} (h:RJ w F gx s wr) (hp:OffF F P w):P wr:=(h.then hp).at_
theorem RJ.thenC {P:Program} {f:FuncId} {args:Array Value} {v:Value} {w4:World} (h:RJ w F gx s wr) (hb:Below wr.heap.size wr w4) (hc:∀ F2:Nat→Prop,Ref w4 F2 gx s→(∀ k,F2 k→k<wr.heap.size)→gx<wr.heap.size→Calls P f args w4 fun e w'=>e = .returned v∧RJ w4 F2 gx s' w') :
  Calls P f args w4 fun e w'=>e = .returned v∧RJ w F gx s' w':=by
 have hlt:∀ k,grow F w wr k∧k<wr.heap.size→grow (grow F w wr) wr w4 k:=fun k hk=>.inl hk.1
 refine (hc _ (h.1.low.under hb) (fun k hk=>hk.2) h.1.at_.2).mono ?_
 rintro e w' ⟨rfl,hr⟩
 have h4:=h.below hb
 refine ⟨rfl,h4.step (hr.1.more fun k hk=>?_) (hr.2.more fun k _ hk=>?_)⟩
 ·rcases hk with hk | hk
  ·rcases hk.1 with h1 | h1
   ·exact .inl (.inl h1)
   ·exact .inl (.inr ⟨h1.1,Nat.lt_of_lt_of_le h1.2 hb.size⟩)
  ·exact .inr hk
 ·rcases hk.1 with h1 | h1
  ·exact .inl h1
  ·exact .inr ⟨h1.1,Nat.lt_of_lt_of_le h1.2 hb.size⟩
theorem RJ.write (h:RJ w F gx s wr) (i:Int) (A2:Option Addr) (n2 c2:Nat) (x:List Nat) (hn:x.length=n2) (hr:Rd .u8 wr wr.heap.size A2 c2 x) (hA2:∀ g,blockOf A2=some g→g≠gx) (hwl:s.waits.length≤100000) (hops:s.ops≤1000000000) :
  Calls Try.prog 22 #[.pointer (some ⟨gx,0,none⟩),.int .i64 i,.slice A2 n2 c2] wr fun e w'=>e = .returned (.int .i64 ((s.write i x).2:Nat))∧RJ w F gx (s.write i x).1 w' :=
 (ref_write h.1 i A2 n2 c2 x hn hr (fun _=>hA2) hwl hops).mono fun e w' q=>⟨q.1,h.step q.2.1 q.2.2⟩
theorem RJ.flush (h:RJ w F gx s wr) (hwl:s.waits.length≤100000) (hops:s.ops≤1000000000) :
  Calls Try.prog 24 #[.pointer (some ⟨gx,0,none⟩)] wr fun e w'=>e = .returned (.int .i64 (s.flush.2:Nat))∧RJ w F gx s.flush.1 w' :=
 (ref_flush h.1 hwl hops).mono fun e w' q=>⟨q.1,h.step q.2.1 q.2.2⟩
theorem Ref.le (h:Ref w F gx s):s.now.length≤2000:=by
 obtain ⟨hs,gS,cS,A,cw,K,ck,at_,kl,rs,ws,h,hF⟩:=h
 rw [hs.len,←h.eS,List.length_map]
 exact h.n2
set_option maxRecDepth 100000 in
theorem rmany (h:Ref w F gx s):Calls Try.prog 50 #[.pointer (some ⟨gx,0,none⟩)] w fun e w'=>e = .returned (.int .i64 (s.many:Int))∧w=w':=by
 obtain ⟨gS,cS,k0,_,_⟩:=h.cells
 have h1:=h.le
 obtain ⟨m,hm⟩:∃ m,m=s.many:=⟨_,rfl⟩
 rw [←hm]
 unfold Dk.many at hm
 generalize s.now.length=n at *
 clear h
 have hmax:max 0 ((n:Int) - 157)=(m:Int):=by omega
 go_enter Try.func50,Try.ntmps50
 go_wp2_with fail
 all_goals (go_ret;refine ⟨congrArg (fun z=>Ending.returned (.int .i64 z)) ?_,rfl⟩;omega)
end
set_option maxRecDepth 100000 in
theorem index_any (w:World) (n:Nat) (hn:n≤100000):Calls Try.prog 38 #[.int .i64 (n:Int)] w fun e w'=>e = .returned (.int .i64 (sheetsN n:Int))∧w=w':=by
 have hm:(sheetsN n:Int)=((n:Int)+31) / 32:=by unfold sheetsN;omega
 rw [hm]
 have k1:IntKind.i64.wrap ((n:Int)+31)=(n:Int)+31:=IntWalk.i64_in _ (by omega)
 go_enter Try.func38,Try.ntmps38
 go_wp2_with fail
 go_ret
 exact ⟨rfl,rfl⟩
set_option maxRecDepth 100000 in
set_option maxHeartbeats 1000000 in
theorem rsector_any (w:World) (B:Nat) (A:Option Addr) (c n:Nat) (l:List Nat) (hn:l.length=n) (hr:Rd .u8 w B A c l) (hB:B≤w.heap.size) :
  Calls Try.prog 39 #[.slice A n c] w fun e w'=>e = .returned (.slice (some ⟨w.heap.size,0,none⟩) 64 64)∧Row .u8 5 w' w.heap.size (secOf l)∧Below w.heap.size w w':=by
 have hmk:=make_row
 have hrow:Row .u8 5 (w.alloc (.cells zrow 5)) w.heap.size (fillS l 0):=Holds.fresh _ _ _
 have hb:Below w.heap.size w (w.alloc (.cells zrow 5)):=(Below.refl _ _).alloc (Nat.le_refl _) _
 have hr1:=hr.under (hb.mono hB)
 have hc63:=hr.2.1
 have hlc:n≤c:=by have:=hr.1;omega
 have HN:=Lib.hid hn
 clear hn hr
 go_enter Try.func39,Try.ntmps39
 go_wp2_with fail
 clear hmk
 generalize zrow=zr at *
 generalize w.alloc (.cells zr 5)=W0 at *
 go_loopw [4] (fun i wr=>RelS w l B A c n i wr) (fun i _=>64 - (intOf i).toNat)
 case atStart=>exact ⟨0,Nat.zero_le _,Nat.zero_le _,rfl,hrow,hr1,hb⟩
 case round =>
  clear hrow hr1 hb
  obtain ⟨k,hk,hk64,rfl,hrow,hr1,hb⟩:=hrel
  obtain ⟨V,hV⟩:∃ V,V=wr:=⟨_,rfl⟩
  subst hV
  by_cases hkn:k<n
  case pos =>
   have hkI:(k:Int)<(n:Int):=by omega
   have hk0:(0:Int)≤(k:Int):=by omega
   by_cases hk6:k<64
   case pos =>
    have hk6I:(k:Int)<64:=by omega
    obtain ⟨b,off,x,rfl,hbB,hx,Hx⟩:=hr1.at_ (i:=k) (by have:=HN.out;omega)
    have hcell:=hrow.cell (i:=k) (by rw [fillS_length];exact hk6)
    have hfr:=hrow.open_ k
    have hst:=hrow.set k x
    have hne:b≠w.heap.size:=by omega
    have HS:Hid (Row .u8 5 (V.setCell ⟨w.heap.size,k,none⟩ (.int .u8 (x:Int))) w.heap.size (fillS l (k+1))):=Lib.hid (by rw [fillS,←Hx.out];exact hst)
    have HR:Hid (Rd .u8 (V.setCell ⟨w.heap.size,k,none⟩ (.int .u8 (x:Int))) B (some ⟨b,off,none⟩) c l):=Lib.hid (hr1.keep fun b' o hb'=>World.cell?_of_block (a:=⟨b',o,none⟩) (Below.heap_setCell V ⟨w.heap.size,k,none⟩ _ b' (fun e=>absurd (show b'=w.heap.size from e) (by omega))))
    have HBB:=Lib.hid (hb.setCell (p:=⟨w.heap.size,k,none⟩) (Nat.le_refl _) (.int .u8 (x:Int)))
    clear hst hr1 hb hrow
    go_wp2_with fail
    go_roundw
    case rel=>exact ⟨k+1,by omega,by omega,by go_num,HS.out,HR.out,HBB.out⟩
    case measure=>simp [intOf];omega
   case neg =>
    obtain rfl:k=64:=by omega
    have hd:decide (((64:Nat):Int)<64)=false:=by decide
    have HE:Hid (secOf l=fillS l 64):=Lib.hid (by unfold secOf;rw [HN.out,Nat.min_eq_right (by omega)])
    have HF:=Lib.hid hrow
    have HBB:=Lib.hid hb
    clear hrow hr1 hb
    go_wp2_with fail
    go_ret
    exact ⟨rfl,by rw [HE.out];exact HF.out,HBB.out⟩
  case neg =>
   obtain rfl:k=n:=by omega
   have hd:decide ((k:Int)<(k:Int))=false:=decide_eq_false (by omega)
   have HE:Hid (secOf l=fillS l k):=Lib.hid (by unfold secOf;rw [HN.out,Nat.min_eq_left (by omega)])
   have HF:=Lib.hid hrow
   have HBB:=Lib.hid hb
   clear hrow hr1 hb
   go_wp2_with fail
   go_ret
   exact ⟨rfl,by rw [HE.out];exact HF.out,HBB.out⟩
theorem rsectorR (w:World) (A:Option Addr) (c n:Nat) (l:List Nat) (hn:l.length=n) (hr:Rd .u8 w w.heap.size A c l) :
  Calls Try.prog 39 #[.slice A n c] w fun e w'=>e = .returned (.slice (some ⟨w.heap.size,0,none⟩) 64 64)∧Rd .u8 w' w'.heap.size (some ⟨w.heap.size,0,none⟩) 64 (secOf l)∧w.heap.size<w'.heap.size∧Below w.heap.size w w' :=
 (rsector_any w w.heap.size A c n l hn hr (Nat.le_refl _)).mono fun e w' ⟨he,hrow,hb⟩=>⟨he,Row.rd64 hrow (secOf_length l),Holds.lt hrow,hb⟩
theorem rsectorZ (w:World) :
  Calls Try.prog 39 #[.slice none 0 0] w fun e w'=>e = .returned (.slice (some ⟨w.heap.size,0,none⟩) 64 64)∧Rd .u8 w' w'.heap.size (some ⟨w.heap.size,0,none⟩) 64 zsec∧w.heap.size<w'.heap.size∧Below w.heap.size w w':=by
 have h:=rsectorR w none 0 0 [] rfl (Rd.nil_ _ _ _)
 rwa [secOf_nil] at h
theorem markB_le {n:Nat} (hn:n≤150):markB n=secOf [109,97,114,107,0,n]:=by
 unfold markB two8
 rw [show n / 256 % 256=0 by omega,show n % 256=n by omega]
 rfl
set_option maxRecDepth 100000 in
set_option maxHeartbeats 1000000 in
theorem mark'_any (w:World) (n:Nat) (hn:n≤150):Calls Try.prog 41 #[.int .i64 (n:Int)] w fun e w'=>e = .returned (.slice (some ⟨w.heap.size+1,0,none⟩) 64 64)∧Rd .u8 w' w'.heap.size (some ⟨w.heap.size+1,0,none⟩) 64 (markB n)∧w.heap.size+1<w'.heap.size∧Below w.heap.size w w':=by
 obtain ⟨U1,hU1⟩:∃ U1,U1=w.alloc (.cells #[.int .u8 109,.int .u8 97,.int .u8 114,.int .u8 107,.int .u8 0,.int .u8 (n:Int)] 5):=⟨_,rfl⟩
 have HU1:=Lib.hid hU1
 have hb1:Below w.heap.size w U1:=by rw [hU1];exact (Below.refl _ _).alloc (Nat.le_refl _) _
 have HB1:=Lib.hid hb1
 have HZ:Hid (U1.heap.size=w.heap.size+1):=Lib.hid (by rw [hU1];simp)
 have HRD:Hid (Rd .u8 U1 U1.heap.size (some ⟨w.heap.size,0,none⟩) 6 [109,97,114,107,0,n]):=Lib.hid (by
  rw [hU1]
  exact (vals_const w 5 [109,97,114,107,0,n] (0,0) (by simp)).more (by simp))
 rw [markB_le hn]
 have k1:(n:Int) / 256=0:=by omega
 have k2:(n:Int) % 256=(n:Int):=by omega
 have k3:IntKind.u8.wrap (n:Int)=(n:Int):=by rw [IntKind.wrap_u8];omega
 clear hU1 hb1
 go_enter Try.func41,Try.ntmps41
 go_wp2_with fail
 rw [←HU1.out]
 refine (rsectorR U1 _ 6 6 _ rfl HRD.out).mono ?_
 rintro e w2 ⟨rfl,hr2,hl2,hb2⟩
 rw [HZ.out] at hr2 hl2 ⊢
 have HR:=Lib.hid (And.intro hr2 (And.intro hl2 (HB1.out.trans (hb2.mono HB1.out.size))))
 clear hr2 hl2 hb2
 go_wp2_with fail
 go_ret
 exact ⟨rfl,HR.out⟩
section
variable {w:World} {F:Nat→Prop} {gx:Nat} {s:Dk}
def RelWr (w:World) (F:Nat→Prop) (gx:Nat) (s:Dk) (L:List (Int×List Nat)) (n:Nat) (i:Value) (wr:World):Prop :=
 ∃ k:Nat,k≤n∧i = .int .i64 k∧(s.puts (L.take k)).2=0∧RJ w F gx (s.puts (L.take k)).1 wr
set_option maxRecDepth 100000 in
set_option maxHeartbeats 4000000 in
theorem write'_any (h:Ref w F gx s) (A:Option Addr) (c n:Nat) (l:List Wr) (hl:l.length=n) (hr:OffF F (RdWr A c l) w) (hne:∀ x∈l,∀ g,blockOf x.da=some g→g≠gx) (hn:n≤1000) (hwl:s.waits.length≤80000) (hops:s.ops≤800000000) :
  Calls Try.prog 40 #[.pointer (some ⟨gx,0,none⟩),.slice A n c] w fun e w'=>e = .returned (.int .i64 ((s.putf (wv l)).2:Nat))∧RJ w F gx (s.putf (wv l)).1 w':=by
 obtain ⟨L,hL⟩:∃ L,L=wv l:=⟨_,rfl⟩
 rw [←hL]
 have HST:=Lib.hid (RJ.start h)
 have HLn:Hid (L.length=n):=Lib.hid (by rw [hL,wv_length,hl])
 have HLE:Hid (∀ k,(s.puts (L.take k)).1.waits.length≤81000∧(s.puts (L.take k)).1.ops≤800001000):=Lib.hid fun k=>by
  have h1:=puts_le s (L.take k)
  have h2:(L.take k).length≤n:=by rw [List.length_take,HLn.out];omega
  omega
 have HAT:Hid (∀ k,k<n→L[k]?=some ((l.getD k default).at_,(l.getD k default).d)∧∀ g,blockOf (l.getD k default).da=some g→g≠gx):=Lib.hid fun k hk=>⟨by rw [hL,wv_at (by omega)];rfl,hne _ (getD_memJ (by omega))⟩
 have HR:=Lib.hid hr
 have HL:=Lib.hid hl
 have hnc:n≤c:=by have:=hr.at_.1;omega
 have hc63:=hr.at_.2.1
 clear h hr hwl hops hne hl hL
 go_enter Try.func40,Try.ntmps40
 go_wp2_with fail
 go_loopw [5] (fun i wr=>RelWr w F gx s L n i wr) (fun i _=>n - (intOf i).toNat)
 case atStart=>exact ⟨0,Nat.zero_le _,rfl,rfl,HST.out⟩
 case round =>
  obtain ⟨k,hk,rfl,hp,hd⟩:=hrel
  obtain ⟨V,hV⟩:∃ V,V=wr:=⟨_,rfl⟩
  subst hV
  have HP:=Lib.hid hp
  have HD:=Lib.hid hd
  clear hp hd
  by_cases hlt:k<n
  case pos =>
   have hkI:(k:Int)<(n:Int):=by omega
   have hk0:(0:Int)≤(k:Int):=by omega
   obtain ⟨b,off,rfl,hb,hc0,hc1,hrd⟩:=(HD.out.rd HR.out).at_ (j:=k) (by rw [HL.out];exact hlt)
   obtain ⟨hLk,hng⟩:=HAT.out k hlt
   have HSN:Hid (L.take (k+1)=L.take k ++ [((l.getD k default).at_,(l.getD k default).d)]):=Lib.hid (take_snocJ hLk)
   have HSP:Hid (L=L.take k ++ ((l.getD k default).at_,(l.getD k default).d) :: L.drop (k+1)):=Lib.hid (split_at hLk)
   obtain ⟨x,hx⟩:∃ x,x=l.getD k default:=⟨_,rfl⟩
   rw [←hx] at hc0 hc1 hrd hng HSN HSP
   obtain ⟨xa,da,dc,xd⟩:=x
   dsimp only at *
   obtain ⟨dn,hdn⟩:∃ d,xd.length=d:=⟨_,rfl⟩
   rw [hdn] at hc1
   have hbd:Below V.heap.size V V.drew:=(Below.refl _ _).drew
   have HW:=Lib.hid ((HD.out.below hbd).write xa da dn dc xd hdn ((hrd.under hbd).more hbd.size) hng (by have:=HLE.out k;omega) (by have:=HLE.out k;omega))
   have hkw:IntKind.i64.wrap ((k:Int)+1)=(k:Int)+1:=IntWalk.i64_in _ (by omega)
   clear hLk hrd hx hng hbd
   go_wp2_with fail
   go_still_tail 11,(by kernel_rfl)
   repeat still_step
   change wpList _ _ _ _ _ V.drew
   go_wp2_with fail
   refine HW.out.mono ?_
   rintro e w2 ⟨rfl,hd2⟩
   have HD2:=Lib.hid hd2
   have HG:Hid (((s.puts (L.take k)).1.write xa xd).2=0→(s.puts (L.take (k+1)))=(s.puts (L.take k)).1.write xa xd):=Lib.hid fun _=>by rw [HSN.out,puts_snoc HP.out]
   have HS2:Hid (((s.puts (L.take k)).1.write xa xd).2≠0→s.putf L=(s.puts (L.take k)).1.write xa xd):=Lib.hid fun h=>by
    have h1:s.puts L=(s.puts (L.take k)).1.write xa xd:=(congrArg s.puts HSP.out).trans (puts_stop (p:=(xa,xd)) HP.out h)
    rw [putf_stop (by rw [h1];exact h),h1]
   generalize (s.puts (L.take k)).1.write xa xd=q at *
   obtain ⟨s1,e1⟩:=q
   dsimp only at *
   clear hd2 HW HD HP HSN HSP hc0 hc1
   by_cases h0:e1=0
   ·subst h0
    have HG':=Lib.hid (HG.out rfl)
    clear HG HS2
    go_wp2_with fail
    go_roundw
    case rel=>exact ⟨k+1,by omega,by go_num,by rw [HG'.out],by rw [HG'.out];exact HD2.out⟩
    case measure=>simp [intOf];omega
   ·have HS':=Lib.hid (HS2.out h0)
    have d0:((e1:Int) == 0)=false:=by rw [beq_eq_false_iff_ne];omega
    have d1:((e1:Int) != 0)=true:=by rw [bne,d0];rfl
    clear HG HS2
    go_wp2_with fail
    go_ret
    rw [HS'.out]
    exact ⟨rfl,HD2.out⟩
  case neg =>
   obtain rfl:k=n:=by omega
   have hkI:¬ ((k:Int)<(k:Int)):=by omega
   have hTK:L.take k=L:=List.take_of_length_le (by rw [HLn.out];exact Nat.le_refl _)
   have h1:=HLE.out k
   rw [hTK] at HP HD h1
   have HF:=Lib.hid (HD.out.flush (by omega) (by omega))
   have HPF:Hid (s.putf L=(s.puts L).1.flush):=Lib.hid (putf_go HP.out)
   rw [←HPF.out] at HF
   clear HP HD hTK h1 HPF HLE HAT HR
   go_wp2_with fail
   refine HF.out.mono ?_
   rintro e w2 ⟨rfl,hd2⟩
   have HD2:=Lib.hid hd2
   clear hd2 HF
   go_wp2_with fail
   go_ret
   exact ⟨rfl,HD2.out⟩
def Dk.aft (s:Dk) (L:List (Int×List Nat)):Dk×Nat:=if (s.putf L).2=0 then (s.putf L).1.putf [(1,zsec)] else s.putf L
/-- A row of one write, made here. -/
theorem one_made {V:World} {F:Nat→Prop} {B0:Nat} (hF:∀ k,F k→k<V.heap.size) (x:Wr) (hr:Rd .u8 V V.heap.size x.da x.dc x.d) (hd:∀ b o,x.da=some ⟨b,o,none⟩→B0≤b) (hB:B0≤V.heap.size) (hF2:∀ k,F k→k<B0) (fr:Nat×Nat) :
  OffF F (RdWr (some ⟨V.heap.size,0,none⟩) 1 [x]) (V.alloc (.cells #[.int .i64 x.at_,.slice x.da x.d.length x.dc] 42 fr)) :=
 (RdWrG.made (V:=V) (B:=B0) hB [x] (fun y hy=>by rw [List.mem_singleton.1 hy];exact ⟨hr,hd⟩) (by simp) #[.int .i64 x.at_,.slice x.da x.d.length x.dc] rfl 42 fr).off hF2
set_option maxRecDepth 100000 in
set_option maxHeartbeats 4000000 in
theorem applied'_any (h:Ref w F gx s) (A:Option Addr) (c n:Nat) (l:List Wr) (hl:l.length=n) (hr:OffF F (RdWr A c l) w) (hne:∀ x∈l,∀ g,blockOf x.da=some g→g≠gx) (hn:n≤1000) (hwl:s.waits.length≤70000) (hops:s.ops≤700000000) :
  Calls Try.prog 42 #[.pointer (some ⟨gx,0,none⟩),.slice A n c] w fun e w'=>e = .returned (.int .i64 ((s.aft (wv l)).2:Nat))∧RJ w F gx (s.aft (wv l)).1 w':=by
 have HW:=Lib.hid (write'_any h A c n l hl hr hne hn (by omega) (by omega))
 have hle:=putf_le s (wv l)
 rw [wv_length,hl] at hle
 have HLE:Hid ((s.putf (wv l)).1.waits.length≤72000∧(s.putf (wv l)).1.ops≤702000000):=Lib.hid (by omega)
 have HA:Hid (s.aft (wv l)=if (s.putf (wv l)).2=0 then (s.putf (wv l)).1.putf [(1,zsec)] else s.putf (wv l)):=Lib.hid rfl
 obtain ⟨r,hr0⟩:∃ r,r=s.aft (wv l):=⟨_,rfl⟩
 rw [←hr0] at HA ⊢
 have hnc:n≤c:=by have:=hr.at_.1;omega
 have hc63:=hr.at_.2.1
 clear h hr hne hwl hops hle hr0 hl
 generalize s.putf (wv l)=q at *
 obtain ⟨s1,e1⟩:=q
 dsimp only at *
 go_enter Try.func42,Try.ntmps42
 go_wp2_with fail
 refine HW.out.mono ?_
 rintro e w2 ⟨rfl,hd2⟩
 have HD2:=Lib.hid hd2
 clear hd2 HW
 by_cases h0:e1=0
 ·subst h0
  have HRE:Hid (r=s1.putf [(1,zsec)]):=Lib.hid (by rw [HA.out,if_pos rfl])
  clear HA
  have HZ:=Lib.hid (rsectorZ w2)
  go_wp2_with fail
  refine HZ.out.mono ?_
  rintro e w3 ⟨rfl,hr3,hl3,hb3⟩
  have hb4:Below w2.heap.size w2 (w3.alloc (.cells #[.int .i64 1,.slice (some ⟨w2.heap.size,0,none⟩) 64 64] 42)):=hb3.alloc hb3.size _
  have HWZ:=Lib.hid (RJ.thenC (s':=(s1.putf [(1,zsec)]).1) (v:=.int .i64 ((s1.putf [(1,zsec)]).2:Nat)) HD2.out hb4 fun F2 hF hlt hgx=>(write'_any hF (some ⟨w3.heap.size,0,none⟩) 1 1 [⟨1,some ⟨w2.heap.size,0,none⟩,64,zsec⟩] rfl (one_made (B0:=w2.heap.size) (V:=w3) (fun k hk=>Nat.lt_of_lt_of_le (hlt k hk) hb3.size) ⟨1,some ⟨w2.heap.size,0,none⟩,64,zsec⟩ hr3 (fun b o e=>by cases e;exact Nat.le_refl _) hb3.size hlt (0,0)) (fun x hx g hg=>by
   rw [List.mem_singleton.1 hx] at hg
   obtain rfl:w2.heap.size=g:=by simpa [blockOf] using hg
   omega) (by omega) (by have:=HLE.out;omega) (by have:=HLE.out;omega)))
  clear hr3 hl3 hb3 hb4 HZ
  go_wp2_with fail
  refine HWZ.out.mono ?_
  rintro e w5 ⟨rfl,hd5⟩
  have HD5:=Lib.hid hd5
  clear hd5 HWZ
  go_wp2_with fail
  go_ret
  rw [HRE.out]
  exact ⟨rfl,HD5.out⟩
 ·have HRE:Hid (r=(s1,e1)):=Lib.hid (by rw [HA.out,if_neg h0])
  have d0:((e1:Int) == 0)=false:=by rw [beq_eq_false_iff_ne];omega
  have d1:((e1:Int) != 0)=true:=by rw [bne,d0];rfl
  clear HA
  go_wp2_with fail
  go_ret
  rw [HRE.out]
  exact ⟨rfl,HD2.out⟩
end
end Go.Proofs.Ytkmbgbbmhpidkaa
namespace Go.Proofs.Ytkmbgbbmhpidkaa
open Go.RowKit Go.Shelf
set_option linter.unusedVariables false
set_option linter.unusedSimpArgs false
attribute [local go_sem ↓] Go.wp_at_zero Go.wp_at_succ

def markI (b:List Nat):Int:=match begunN b with | none=>-1 | some n=>(n:Int)
theorem wv_snoc (l:List Wr) (x:Wr):wv (l ++ [x])=wv l ++ [x.v]:=by simp [wv]
def LoggedP (w:World) (s:Dk) (n:Nat) (e:Ending) (w':World):Prop :=
 Below w.heap.size w w'∧(((∀ p∈s.told n,p.1<(s.many:Int))∧∃ A c l,e = .returned (.tuple #[.slice A n c,.bool true])∧l.length=n∧wv l=(s.told n).map (fun p=>(157+p.1,p.2))∧(∀ x∈l,∀ g,blockOf x.da=some g→w.heap.size≤g)∧RdWrG w.heap.size A c l w')∨(¬ (∀ p∈s.told n,p.1<(s.many:Int))∧e = .returned (.tuple #[.slice none 0 0,.bool false])))
def RelLg (w:World) (s:Dk) (n:Nat) (sl si:Value) (wr:World):Prop :=
 ∃ (k:Nat) (l:List Wr) (A:Option Addr) (c:Nat),k≤n∧si = .int .i64 k∧sl = .slice A k c∧l.length=k∧(∀ i,i<k→(s.toldAt n i).1<(s.many:Int))∧wv l=(List.range k).map (fun i=>(157+(s.toldAt n i).1,(s.toldAt n i).2))∧(∀ x∈l,∀ g,blockOf x.da=some g→w.heap.size≤g)∧Wrs w wr w.heap.size A c l
section
variable {w:World} {F:Nat→Prop} {gx:Nat} {s:Dk}
end
end Go.Proofs.Ytkmbgbbmhpidkaa
namespace Go.Proofs.Ytkmbgbbmhpidkaa
open Go.RowKit Go.Shelf
set_option linter.unusedVariables false
set_option linter.unusedSimpArgs false
attribute [local go_sem ↓] Go.wp_at_zero Go.wp_at_succ

theorem flat_wr (l:List Wr):(l.flatMap wrCells).length=l.length*2:=by
 induction l with
 | nil=>rfl
 | cons x l ih=>rw [List.flatMap_cons,List.length_append,ih];simp [wrCells];omega
theorem rd_marked4 {w w':World} {b x1 x2 x3 x4:Nat} (h:Holds w b 5 #[Value.int .u8 (x1:Int),.int .u8 (x2:Int),.int .u8 (x3:Int),.int .u8 (x4:Int)]) (hc:∀ a,w'.cell? a=w.cell? a) (hs:w'.heap.size=w.heap.size):Rd .u8 w' w'.heap.size (some ⟨b,0,none⟩) 4 [x1,x2,x3,x4] :=
 ⟨Nat.le_refl _,by decide,fun _=>⟨b,0,rfl,by rw [hs];exact Holds.lt h,fun j hj=>by
  have:j<4:=hj
  rw [hc,Nat.zero_add,h.cell]
  rcases j with _ | _ | _ | _ | j
  ·rfl
  ·rfl
  ·rfl
  ·rfl
  ·omega⟩⟩
/-- A row of writes that was typed. -/
theorem Wrs.of {V V0:World} {B:Nat} (l:List Wr) (hl:∀ x∈l,Rd .u8 V0 V0.heap.size x.da x.dc x.d∧∀ b o,x.da=some ⟨b,o,none⟩→B≤b∧b<V0.heap.size) (hb:Below V.heap.size V V0) (cs:Array Value) (hcs:cs.toList=l.flatMap wrCells) (hn:l.length≤1000) :
  Wrs V (V0.alloc (.cells cs 42)) B (some ⟨V0.heap.size,0,none⟩) l.length l:=by
 have hA:Below V0.heap.size V0 (V0.alloc (.cells cs 42)):=(Below.refl _ _).alloc (Nat.le_refl _) _
 have hz:cs.size=l.length*2:=by rw [←flat_wr,←hcs];simp
 refine ⟨⟨flat_wr l,.inr ⟨V0.heap.size,l.length,cs,rfl,Nat.zero_le _,heap_alloc_new V0 _,Nat.le_refl _,by unfold maxLen;omega,hz,?_⟩⟩,fun x hx=>⟨((hl x hx).1.under hA).more hA.size,fun b o e=>?_⟩,fun g hg=>?_,hb.trans (hA.mono hb.size)⟩
 ·rw [hcs,List.take_of_length_le (by rw [flat_wr];exact Nat.le_refl _)]
 ·have:=(hl x hx).2 b o e
  refine ⟨this.1,Nat.lt_of_lt_of_le this.2 hA.size,fun e2=>?_⟩
  have e3:V0.heap.size=b:=by simpa [blockOf] using e2
  omega
 ·have e3:V0.heap.size=g:=by simpa [blockOf] using hg
  have:=hb.size
  omega
theorem run_typed4 (w:World):∃ w',(convert 40 40 (.slice (some ⟨w.heap.size,0,none⟩) 4 4)).run Try.prog (w.alloc (.cells #[.int .u8 97,.int .u8 112,.int .u8 115,.int .u8 116] 5)) = .ok (.slice (some ⟨w.heap.size,0,none⟩) 4 4) w'∧Below w.heap.size w w'∧Rd .u8 w' w'.heap.size (some ⟨w.heap.size,0,none⟩) 4 [97,112,115,116]:=by
 obtain ⟨w',hr,hb,hc,hs⟩:=run_mark (w.alloc (.cells #[.int .u8 97,.int .u8 112,.int .u8 115,.int .u8 116] 5)) w.heap.size #[.int .u8 97,.int .u8 112,.int .u8 115,.int .u8 116] 4 4 (Holds.fresh _ _ _)
 exact ⟨w',hr,((Below.refl _ w).alloc (Nat.le_refl _) _).trans hb,rd_marked4 (Holds.fresh w 5 #[.int .u8 97,.int .u8 112,.int .u8 115,.int .u8 116]) hc hs⟩
def RelFm (w:World) (m:Nat) (sl si:Value) (wr:World):Prop :=
 ∃ (k:Nat) (l:List Wr) (A:Option Addr) (c:Nat),k≤m∧si = .int .i64 ((157+k:Nat):Int)∧sl = .slice A (k+2) c∧l.length=k+2∧wv l=(0,apstB) :: (1,zsec) :: (List.range k).map (fun i=>(((157+i:Nat):Int),zsec))∧(∀ x∈l,∀ g,blockOf x.da=some g→w.heap.size≤g)∧Wrs w wr w.heap.size A c l
section
variable {w:World} {F:Nat→Prop} {gx:Nat} {s:Dk}
set_option maxRecDepth 100000 in
set_option maxHeartbeats 8000000 in
theorem format'_any (h:Ref w F gx s) (hn:s.now.length≤900) (hwl:s.waits.length≤60000) (hops:s.ops≤600000000) :
  Calls Try.prog 19 #[.pointer (some ⟨gx,0,none⟩)] w fun e w'=>e = .returned (.int .i64 ((s.format).2:Nat))∧RJ w F gx (s.format).1 w':=by
 have HH:=Lib.hid h
 have HMN:Hid (∀ W,Below w.heap.size w W→Calls Try.prog 50 #[.pointer (some ⟨gx,0,none⟩)] W fun e w'=>e = .returned (.int .i64 (s.many:Int))∧W=w'):=Lib.hid fun W hW=>rmany (h.under hW)
 have HWL:=Lib.hid (And.intro hwl hops)
 clear hwl hops
 by_cases hm:s.many=0
 ·have HE:Hid (s.format=(s,5)):=Lib.hid (by unfold Dk.format;rw [if_pos hm])
  rw [hm] at HMN
  clear h hm
  go_enter Try.func19,Try.ntmps19
  go_wp2_with fail
  refine (HMN.out w (Below.refl _ _)).mono ?_
  rintro e w1 ⟨rfl,rfl⟩
  go_wp2_with fail
  go_ret
  rw [HE.out]
  exact ⟨rfl,RJ.start HH.out⟩
 have HE:Hid (s.format=s.putf (formW s.now.length)):=Lib.hid (by unfold Dk.format;rw [if_neg hm])
 obtain ⟨n,hnn⟩:∃ n,n=s.now.length:=⟨_,rfl⟩
 obtain ⟨m,hmm⟩:∃ m,m=s.many:=⟨_,rfl⟩
 have hnm:n=157+m:=by unfold Dk.many at hmm hm;omega
 have hm0:((m:Int) == 0)=false:=by rw [beq_eq_false_iff_ne];omega
 rw [←hmm] at HMN
 rw [←hnn] at HE hn
 have HNM:=Lib.hid hnm
 have HCL:Hid (∀ W,Below w.heap.size w W→∃ gS cS,W.cell? ⟨gx,0,none⟩=some (.slice (some ⟨gS,0,none⟩) n cS)):=Lib.hid fun W hW=>by
  obtain ⟨gS,cS,k0,_⟩:=(h.under hW).cells
  exact ⟨gS,cS,by rw [hnn];exact k0⟩
 clear h hm hmm hnn hnm
 obtain ⟨wm,hcv,hbm,hrm⟩:=run_typed4 w
 have HBM:=Lib.hid hbm
 have HRM:=Lib.hid hrm
 clear hbm hrm
 go_enter Try.func19,Try.ntmps19
 go_wp2_with fail
 refine (HMN.out w (Below.refl _ _)).mono ?_
 rintro e w1 ⟨rfl,rfl⟩
 go_wp2_with fail
 refine (rsectorR wm _ 4 4 _ rfl HRM.out).mono ?_
 rintro e w2 ⟨rfl,hr2,hl2,hb2⟩
 have HR2:Hid (Rd .u8 w2 w2.heap.size (some ⟨wm.heap.size,0,none⟩) 64 apstB):=Lib.hid hr2
 have HL2:=Lib.hid hl2
 have HB2:=Lib.hid (HBM.out.trans (hb2.mono HBM.out.size))
 clear hr2 hl2 hb2 hcv HRM
 go_wp2_with fail
 refine (rsectorZ w2).mono ?_
 rintro e w3 ⟨rfl,hr3,hl3,hb3⟩
 have HS:=Lib.hid (Wrs.of (V:=w) (V0:=w3) (B:=w.heap.size) [⟨0,some ⟨wm.heap.size,0,none⟩,64,apstB⟩,⟨1,some ⟨w2.heap.size,0,none⟩,64,zsec⟩] (fun x hx=>by
  have h1:=HBM.out.size
  have h2:=HL2.out
  rcases List.mem_cons.1 hx with rfl | hx
  ·exact ⟨(HR2.out.under hb3).more hb3.size,fun b o e=>by cases e;exact ⟨h1,by omega⟩⟩
  ·rw [List.mem_singleton.1 hx]
   exact ⟨hr3,fun b o e=>by cases e;exact ⟨by omega,hl3⟩⟩) (HB2.out.trans (hb3.mono HB2.out.size)) #[.int .i64 0,.slice (some ⟨wm.heap.size,0,none⟩) 64 64,.int .i64 1,.slice (some ⟨w2.heap.size,0,none⟩) 64 64] rfl (by simp))
 have HG2:Hid (w.heap.size≤wm.heap.size∧w.heap.size≤w2.heap.size):=Lib.hid ⟨HBM.out.size,HB2.out.size⟩
 clear hr3 hl3 hb3 HR2 HB2
 go_wp2_with fail
 go_loopw [3,4] (fun sl si wr=>RelFm w m sl si wr) (fun _ si _=>n - (intOf si).toNat)
 case atStart =>
  refine ⟨0,_,_,_,Nat.zero_le _,rfl,rfl,rfl,rfl,fun x hx g hg=>?_,HS.out⟩
  rcases List.mem_cons.1 hx with rfl | hx
  ·obtain rfl:wm.heap.size=g:=by simpa [blockOf] using hg
   exact HG2.out.1
  ·rw [List.mem_singleton.1 hx] at hg
   obtain rfl:w2.heap.size=g:=by simpa [blockOf] using hg
   exact HG2.out.2
 case round =>
  clear HS HG2
  obtain ⟨k,l,A,c,hk,rfl,rfl,hll,hwv,hbl,hrs⟩:=hrel
  obtain ⟨V,hV⟩:∃ V,V=wr:=⟨_,rfl⟩
  subst hV
  have HLL:=Lib.hid hll
  have HWV:=Lib.hid hwv
  have HBL:=Lib.hid hbl
  have HRS:=Lib.hid hrs
  clear hll hwv hbl hrs
  obtain ⟨gS,cS,k0⟩:=HCL.out V HRS.out.bel
  obtain ⟨i,hi⟩:∃ i,i=157+k:=⟨_,rfl⟩
  rw [←hi]
  have HI:=Lib.hid hi
  clear hi
  obtain ⟨i1,hi1⟩:∃ i1,i1=157+(k+1):=⟨_,rfl⟩
  have HI1:=Lib.hid hi1
  clear hi1
  by_cases hlt:k<m
  case pos =>
   have hkI:(i:Int)<(n:Int):=by have:=HNM.out;have:=HI.out;omega
   have hiw:IntKind.i64.wrap ((i:Int)+1)=(i1:Int):=by have:=HI.out;have:=HI1.out;rw [IntWalk.i64_in _ (by omega)];omega
   go_wp2_with fail
   refine (rsectorZ V).mono ?_
   rintro e w3 ⟨rfl,hr3,hl3,hb3⟩
   obtain ⟨x,hx⟩:∃ x:Wr,x=⟨(i:Int),some ⟨V.heap.size,0,none⟩,64,zsec⟩:=⟨_,rfl⟩
   obtain ⟨W3,hW3⟩:∃ W,W=w3.alloc (.cells #[.int .i64 (i:Int),.slice (some ⟨V.heap.size,0,none⟩) 64 64] 42):=⟨_,rfl⟩
   have HW3:=Lib.hid hW3
   have hb34:Below w3.heap.size w3 W3:=by rw [hW3];exact (Below.refl _ _).alloc (Nat.le_refl _) _
   have hst:=HRS.out.under (hb3.trans (hb34.mono hb3.size))
   have HST:=Lib.hid hst
   have HFX:Hid (Holds W3 w3.heap.size 42 (wrCells x).toArray):=Lib.hid (by rw [hW3,hx];exact Holds.fresh _ _ _)
   have HOW:Hid (OwnV 42 2 W3 A c (k+2) (l.flatMap wrCells)):=Lib.hid (by have:=hst.own;rwa [HLL.out] at this)
   have HWC:Hid (∀ u∈wrCells x,u.oneCell'=true):=Lib.hid (by intro u hu;simp [wrCells] at hu;rcases hu with rfl | rfl <;> rfl)
   have HRX:Hid (Rd .u8 W3 W3.heap.size x.da x.dc x.d∧∀ b o,x.da=some ⟨b,o,none⟩→w.heap.size≤b∧b<W3.heap.size∧blockOf A≠some b):=Lib.hid ⟨by rw [hx];exact (hr3.under hb34).more hb34.size,fun b o e=>by
    rw [hx] at e
    cases e
    refine ⟨HRS.out.bel.size,Nat.lt_of_lt_of_le hl3 hb34.size,fun e2=>?_⟩
    have h4:=HRS.out.own.lt e2
    omega⟩
   have HBX:Hid (∀ g,blockOf x.da=some g→w.heap.size≤g):=Lib.hid fun g hg=>by
    rw [hx] at hg
    obtain rfl:V.heap.size=g:=by simpa [blockOf] using hg
    exact HRS.out.bel.size
   have HXV:Hid (x.v=(((157+k:Nat):Int),zsec)):=Lib.hid (by rw [hx,Wr.v,HI.out])
   clear hst hb34 hr3 hb3 hl3 hW3 hx
   have hkn:k≤900:=by have:=HNM.out;omega
   go_wp2_with (first | (at_builtin;rw [←HW3.out];refine wpList_pushV _ rfl (.tmp 24) (.tmp 28) 27 rfl 42 (.agg #[.int .i64 0,.slice none 0 0]) 2 32 Try.underlying27 info_write rfl (by omega) (by omega) rfl HOW.out (cs:=wrCells x) rfl rfl HWC.out HFX.out (by have:=HNM.out;omega) ?_;intro g9 c9 W9 ho9 hg9 hat9 hlt9) | fail)
   have HS9:=Lib.hid (HST.out.push (x:=x) HRX.out (by rw [HLL.out];exact ho9) hg9 hat9)
   clear ho9 hg9 hat9 hlt9 HOW HFX HST HWC HRX HW3
   go_wp2_with fail
   go_roundw
   case rel =>
    refine ⟨k+1,l ++ [x],_,_,by omega,by rw [HI1.out],rfl,by rw [List.length_append,HLL.out];rfl,?_,fun y hy g hg=>?_,HS9.out⟩
    ·rw [wv_snoc,List.range_succ,List.map_append,HWV.out,HXV.out]
     rfl
    ·rcases List.mem_append.1 hy with hy | hy
     ·exact HBL.out y hy g hg
     ·rw [List.mem_singleton.1 hy] at hg
      exact HBX.out g hg
   case measure=>have:=HI.out;have:=HI1.out;have:=HNM.out;simp [intOf];omega
  case neg =>
   obtain rfl:k=m:=by omega
   have hkI:¬ ((i:Int)<(n:Int)):=by have:=HNM.out;have:=HI.out;omega
   have HG:=Lib.hid (HRS.out.rd (Nat.le_refl _))
   have HFW:Hid (wv l=formW n):=Lib.hid (by rw [HWV.out,formW,show n - 157=k by have:=HNM.out;omega])
   have HAP:=Lib.hid (RJ.thenC (s':=(s.putf (wv l)).1) (v:=.int .i64 ((s.putf (wv l)).2:Nat)) (RJ.start HH.out) HRS.out.bel fun F2 hF hlt hgx=>(write'_any hF A c (k+2) l HLL.out (HG.out.off fun k hk=>hlt k hk) (fun x hx g hgg=>by
    have:=HBL.out x hx g hgg
    omega) (by have:=HNM.out;omega) (by have:=HWL.out;omega) (by have:=HWL.out;omega)))
   rw [HFW.out] at HAP
   clear HG
   go_wp2_with fail
   refine HAP.out.mono ?_
   rintro e w4 ⟨rfl,hd4⟩
   have HD4:=Lib.hid hd4
   clear hd4 HAP
   go_wp2_with fail
   go_ret
   rw [HE.out]
   exact ⟨rfl,HD4.out⟩
end
end Go.Proofs.Ytkmbgbbmhpidkaa
namespace Go.Proofs.Ytkmbgbbmhpidkaa
open Go.RowKit
set_option linter.unusedVariables false
set_option linter.unusedSimpArgs false
attribute [local go_sem ↓] Go.wp_at_zero Go.wp_at_succ

section
variable {w w':World} {B gd gx:Nat} {s s1 s2:Dk}
theorem Two.cells (h:Two w B gd s1 gx s2):∃ gS cS,w.cell? ⟨gx,0,none⟩=some (.slice (some ⟨gS,0,none⟩) s2.now.length cS)∧w.cell? ⟨gx,2,none⟩=some (.int .i64 (s2.ops:Int))∧w.cell? ⟨gx,6,none⟩=some (.bool s2.down):=by
 obtain ⟨hB,F1,F2,d,r,l1,l2,hd⟩:=h
 exact r.cells
theorem Two.down (h:Two w B gd s1 gx s2):Calls Try.prog 44 #[.pointer (some ⟨gd,0,none⟩)] w fun e w'=>e = .returned (.bool s1.down)∧w=w':=by
 obtain ⟨hB,F1,F2,d,r,l1,l2,hd⟩:=h
 exact disk_down d
theorem Two.size (h:Two w B gd s1 gx s2):Calls Try.prog 60 #[.pointer (some ⟨gd,0,none⟩)] w fun e w'=>e = .returned (.int .i64 (s1.now.length:Int))∧w=w':=by
 obtain ⟨hB,F1,F2,d,r,l1,l2,hd⟩:=h
 exact disk_size d
theorem Two.ops (h:Two w B gd s1 gx s2):Calls Try.prog 31 #[.pointer (some ⟨gd,0,none⟩)] w fun e w'=>e = .returned (.int .i64 (s1.ops:Int))∧w=w':=by
 obtain ⟨hB,F1,F2,d,r,l1,l2,hd⟩:=h
 exact disk_ops d
theorem Two.many (h:Two w B gd s1 gx s2):s1.now.length≤2000:=by
 obtain ⟨hB,F1,F2,d,r,l1,l2,hd⟩:=h
 exact d.len.2.2
theorem Two.jmany (h:Two w B gd s1 gx s2):Calls Try.prog 28 #[.pointer (some ⟨gd,0,none⟩)] w fun e w'=>e = .returned (.int .i64 (s1.many:Int))∧w=w':=by
 obtain ⟨hB,F1,F2,d,r,l1,l2,hd⟩:=h
 exact Go.Proofs.Ytkmbgbbmhpidkaa.jmany d
theorem Two.rmany (h:Two w B gd s1 gx s2):Calls Try.prog 50 #[.pointer (some ⟨gx,0,none⟩)] w fun e w'=>e = .returned (.int .i64 (s2.many:Int))∧w=w':=by
 obtain ⟨hB,F1,F2,d,r,l1,l2,hd⟩:=h
 exact Go.Proofs.Ytkmbgbbmhpidkaa.rmany r
end

def RelSm (w:World) (B gd gx:Nat) (s:Dk) (n:Nat) (i:Value) (wr:World):Prop :=
 ∃ j:Nat,j≤n∧i = .int .i64 (j:Int)∧Two wr B gd s gx s∧Below w.heap.size w wr
end Go.Proofs.Ytkmbgbbmhpidkaa
