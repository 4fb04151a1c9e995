/- Words and laws for the statement, part 6. -/
import Derived.Laws.BitsLemmas
import Derived.Lib.LazyBuf
import Derived.Test.YtnedpkhehiijhaaGreatQ02
import Derived.Test.YtnedpkhehiijhaaGreatQ03
import Derived.Test.YtnedpkhehiijhaaGreatQ04
import Derived.Test.YtnedpkhehiijhaaGreatQ05
namespace Go.Proofs.YtnedpkhehiijhaaGreat
open Go.RowKit Go.Shelf
set_option linter.unusedVariables false
set_option linter.unusedSimpArgs false
attribute [local go_sem] Oper.semAt_some

theorem apst_len:apstB.length=64:=secOf_length _
theorem zsec_len:zsec.length=64:=List.length_replicate
theorem puts_pre {s:Dk} {l r:List (Int×List Nat)} (h:(s.puts l).2≠0):s.puts (l ++ r)=s.puts l:=by rw [puts_append,if_neg h]
theorem putf_pre {s:Dk} {l L:List (Int×List Nat)} (hp:l <+: L) (h:(s.puts l).2≠0):s.putf L=s.puts l:=by
 obtain ⟨r,rfl⟩:=hp
 rw [putf_stop (by rw [puts_pre h];exact h),puts_pre h]
def plL (pre:List (Fin 2000)):List (Int×List Nat):=(0,apstB) :: (1,zsec) :: (pre.map Fin.val).map fun i=>(((157+i:Nat):Int),zsec)
theorem plL_snoc (pre:List (Fin 2000)) (x:Fin 2000):plL (pre ++ [x])=plL pre ++ [(((157+x.val:Nat):Int),zsec)]:=by simp [plL]
/-! Inside a round a region of no defers is as outside. -/
def noDefer (ops:Array Oper):Bool:=ops.all fun o=>match o.op with | .defer _=>false | _=>true
theorem noDefer_at {ops:Array Oper} (h:noDefer ops=true) {i:Nat} {o:Oper} (ho:ops[i]?=some o):∀ c,o.op≠.defer c:=fun c hc=>by
 obtain ⟨hlt,he⟩:=Array.getElem?_eq_some_iff.1 ho
 have h1:=Array.all_eq_true.1 h i hlt
 rw [he,hc] at h1
 cases h1
theorem opIn_round {l n:Nat} {P:Program} {o:Oper} {a:Act} {w:World} {K:Act→World→Prop} {Q:Exit→Act→World→Prop} (hd:∀ c,o.op≠.defer c) (h:Oper.wpIn Fence.wide n P o a w K Q):Oper.wpIn (Fence.wide.inRound l) n P o a w K Q:=by
 refine ⟨h.1,?_⟩
 have h2:=h.2
 rw [Oper.semAt_eq _ _ _ hd] at h2 ⊢
 exact h2
theorem anyIn_round {l n:Nat} {P:Program} {md:Region.Mode} {ops:Array Oper} {Q:Exit→Act→World→Prop} (hd:noDefer ops=true):∀ (fuel:Nat) (listed:Array Bool) (a:Act) (w:World),wpAnyIn Fence.wide n P md ops Q fuel listed a w→wpAnyIn (Fence.wide.inRound l) n P md ops Q fuel listed a w
 | 0,_,_,_,h=>h
 | fuel+1,listed,a,w,h=>⟨h.1,fun i hi=>by
  have h2:=h.2 i hi
  unfold wpOpIn at h2 ⊢
  cases ho:ops[i]? with
  | none=>rw [ho] at h2;exact anyIn_round hd fuel _ _ _ h2
  | some o =>
   rw [ho] at h2
   dsimp only at h2 ⊢
   split
   ·rename_i hw
    rw [if_pos hw] at h2
    exact opIn_round (noDefer_at hd ho) (Oper.wpIn_mono (fun a w h=>anyIn_round hd fuel _ a w h) h2)
   ·rename_i hw
    rw [if_neg hw] at h2
    exact ⟨h2.1,anyIn_round hd fuel _ _ _ h2.2⟩⟩
theorem below_others {w w':World} (h:Below w.heap.size w w'):KeepsOthers w w':=⟨h.size,fun k o hk _=>(h.block k (Array.getElem?_eq_some_iff.1 hk).1).trans hk⟩
theorem plL_length (pre:List (Fin 2000)):(plL pre).length=pre.length+2:=by simp [plL]
def FoI (V:World) (F:Nat→Prop) (gd:Nat) (s:Dk) (pre:List (Fin 2000)) (W:World):Prop:=(s.puts (plL pre)).2=0∧DJ V F gd (s.puts (plL pre)).1 W
def FoX (V:World) (F:Nat→Prop) (res gd:Nat) (s:Dk) (c:Code) (pre:List (Fin 2000)) (W:World):Prop :=
 c = .ret∧(s.puts (plL pre)).2≠0∧DJr V F res gd (s.puts (plL pre)).1 W∧W.cell? ⟨res,0,none⟩=some (.int .i64 ((s.puts (plL pre)).2:Nat))
theorem foI_own {V:World} {F:Nat→Prop} {gd:Nat} {s:Dk} {B:Nat} (hB:V.heap.size≤B):OwnFrom B (FoI V F gd s):=fun pre W W' row h hg hr=>⟨h.1,h.2.turns hg fun q hq=>⟨Nat.le_trans hB (hr q hq).1,(hr q hq).2⟩⟩
theorem foX_own {V:World} {F:Nat→Prop} {res gd:Nat} {s:Dk} {B:Nat} (hB:V.heap.size≤B) (c:Code):OwnFrom B (FoX V F res gd s c):=fun pre W W' row h hg hr=>⟨h.1,h.2.1,h.2.2.1.turns hg fun q hq=>⟨Nat.le_trans hB (hr q hq).1,(hr q hq).2⟩,cell_kept h.2.2.2 hg fun q hq=>(hr q hq).2⟩
section
variable {w:World} {F:Nat→Prop} {gd:Nat} {s:Dk}
set_option maxRecDepth 100000 in
set_option maxHeartbeats 8000000 in
theorem format_any (h:Disk w F gd s) (hwl:s.waits.length≤70000) (hops:s.ops≤700000000) :
  Calls Tryz.prog 59 #[.pointer (some ⟨gd,0,none⟩)] w fun e w'=>e = .returned (.int .i64 ((s.format).2:Nat))∧DJ w F gd (s.format).1 w':=by
 obtain ⟨F',hF'⟩:∃ F',F'=fun k=>F k∧k<w.heap.size:=⟨_,rfl⟩
 have hl:=h.low
 rw [←hF'] at hl
 have hFF:∀ k,F' k→F k∧k<w.heap.size:=fun k hk=>by rw [hF'] at hk;exact hk
 have hb1:Below w.heap.size w ((w.alloc (.cells #[.pointer (some ⟨gd,0,none⟩)] 23)).alloc (.cells #[.int .i64 0] 28)):=((Below.refl _ _).alloc (Nat.le_refl _) _).alloc (by simp) _
 have hbx:=(Holds.fresh w 23 #[.pointer (some ⟨gd,0,none⟩)]).alloc (.cells #[.int .i64 0] 28)
 have hrs:=Holds.fresh (w.alloc (.cells #[.pointer (some ⟨gd,0,none⟩)] 23)) 28 #[.int .i64 0]
 rw [show (w.alloc (.cells #[.pointer (some ⟨gd,0,none⟩)] 23)).heap.size=w.heap.size+1 by simp] at hrs
 have hsz:((w.alloc (.cells #[.pointer (some ⟨gd,0,none⟩)] 23)).alloc (.cells #[.int .i64 0] 28)).heap.size=w.heap.size+2:=by simp
 have hd1:Disk ((w.alloc (.cells #[.pointer (some ⟨gd,0,none⟩)] 23)).alloc (.cells #[.int .i64 0] 28)) F' gd s:=(hl.keep (Only.of_below (F:=fun _=>False) hb1) (fun _ _ e=>e))
 have z0:=hbx.cell 0
 obtain ⟨V,hV⟩:∃ V,V=((w.alloc (.cells #[.pointer (some ⟨gd,0,none⟩)] 23)).alloc (.cells #[.int .i64 0] 28)):=⟨_,rfl⟩
 rw [←hV] at hb1 hbx hrs hsz hd1
 have HV:=Lib.hid hV
 have HST:=Lib.hid (DJ.start hd1)
 have HBX:Hid (∀ (s':Dk) (W:World),DJ V F' gd s' W→W.cell? ⟨w.heap.size,0,none⟩=some (.pointer (some ⟨gd,0,none⟩))∧W.cell? ⟨w.heap.size+1,0,none⟩=some (.int .i64 0)∧W.frozen? ⟨w.heap.size+1,0,none⟩=false):=Lib.hid fun s' W hW=>by
  have k:∀ g,g=w.heap.size∨g=w.heap.size+1→W.heap[g]?=V.heap[g]?:=fun g hg=>hW.2.block g (by omega) fun hF=>by have:=(hFF g hF).2;omega
  have b1:Holds W w.heap.size 23 #[.pointer (some ⟨gd,0,none⟩)]:=(k _ (.inl rfl)).trans hbx
  have b2:Holds W (w.heap.size+1) 28 #[.int .i64 0]:=(k _ (.inr rfl)).trans hrs
  exact ⟨b1.cell 0,b2.cell 0,b2.open_ 0⟩
 have HSET:Hid (∀ (s':Dk) (W:World) (v:Value),DJ V F' gd s' W→DJr V F' (w.heap.size+1) gd s' (W.setCell ⟨w.heap.size+1,0,none⟩ v)):=Lib.hid fun s' W v hW=>by
  have hn:∀ k,grow F' V W k→k≠w.heap.size+1:=fun k hk e=>by
   subst e
   rcases hk with hk | hk
   ·have:=(hFF _ hk).2;omega
   ·omega
  have ho:Only (fun k=>k=w.heap.size+1) W (W.setCell ⟨w.heap.size+1,0,none⟩ v):=(Only.refl (fun k=>k=w.heap.size+1) W).setCell (p:=⟨w.heap.size+1,0,none⟩) (.inl rfl) v
  refine ⟨(hW.1.keep ho fun k a b=>hn k a b).more fun k hk=>?_,(hW.2.more fun k _ hk=>.inl hk).setCell (.inl (.inr rfl)) v⟩
  have h2:=ho.size
  rcases hk with hk | hk
  ·exact .inl hk
  ·exact .inr ⟨hk.1,by omega⟩
 have HOUT:Hid (∀ (s':Dk) (W:World),DJr V F' (w.heap.size+1) gd s' W→DJ w F gd s' W):=Lib.hid fun s' W hW=>by
  refine ⟨hW.1.more fun k hk=>?_,(Only.of_below (F:=F) hb1).trans hW.2 fun k hk hF=>by rcases hF with hF | hF;exact (hFF k hF).1;omega⟩
  rcases hk with hk | hk
  ·exact .inl (hFF k hk).1
  ·exact .inr ⟨by omega,hk.2⟩
 have HFIN:Hid (∀ (s':Dk) (W:World) (v:Value),DJ V F' gd s' W→DJ w F gd s' (W.setCell ⟨w.heap.size+1,0,none⟩ v)):=Lib.hid fun s' W v hW=>HOUT.out _ _ (HSET.out s' W v hW)
 have HM:=Lib.hid (jmany hd1)
 have HMN:Hid (s.many≤2000∧s.many=s.now.length - 157):=Lib.hid ⟨by have:=h.len.2.2;unfold Dk.many;omega,rfl⟩
 obtain ⟨r,hr0⟩:∃ r,r=s.format:=⟨_,rfl⟩
 rw [←hr0]
 unfold Dk.format at hr0
 have HRR:=Lib.hid hr0
 have HWL:Hid (s.waits.length≤70000∧s.ops≤700000000):=Lib.hid ⟨hwl,hops⟩
 clear h hl hF' hb1 hbx hrs hd1 hV hr0 hwl hops hFF hsz
 generalize s.many=m at *
 by_cases h0:m=0
 ·have HRE:Hid (r=(s,5)):=Lib.hid (by rw [HRR.out,if_pos h0])
  subst h0
  obtain ⟨_,k1,k2⟩:=HBX.out _ _ HST.out
  go_enter Tryz.func59,Tryz.ntmps59
  go_wp2_with fail
  rw [←HV.out]
  refine HM.out.mono ?_
  rintro e w1 ⟨rfl,rfl⟩
  have hc:=World.cell?_setCell_same' V ⟨w.heap.size+1,0,none⟩ (.int .i64 5) (by rw [k1];rfl)
  go_wp2_with fail
  rw [HRE.out]
  exact bodyPost_ret (v:=.int .i64 5) (by simp [results,Tryz.results59,go_sem,hc]) rfl ⟨rfl,HFIN.out _ _ _ HST.out⟩
 have d0:((m:Int) == 0)=false:=by rw [beq_eq_false_iff_ne];omega
 have HR1:Hid (r=s.putf (formW s.now.length)):=Lib.hid (by rw [HRR.out,if_neg h0])
 clear HRR
 refine (callsIn_wide (n:=3)).1 ?_
 refine callsIn_of_wp_marks Tryz.func59 rfl trivial ?_ rfl
 simp only [Tryz.ntmps59,List.size_toArray,List.length_cons,List.length_nil,Nat.reduceAdd,Nat.reduceSub,Array.replicate_succ,Array.replicate_zero,List.push_toArray,List.append_toArray,List.nil_append,List.cons_append]
 refine wpIn_wide.2 ?_
 go_wp2_with fail
 rw [←HV.out]
 refine HM.out.mono ?_
 rintro e w1 ⟨rfl,rfl⟩
 clear z0 HV
 go_wp2_with fail
 have HDs:=Lib.hid (HST.out.below (Below.refl _ _).drew)
 refine wp_region_noPanic ?_
 refine wp_region_held_drew (S:=(fun W=>W.cell? ⟨w.heap.size,0,none⟩=some (.pointer (some ⟨gd,0,none⟩)))) (by kernel_rfl) (HBX.out _ _ HDs.out |>.1) (fun hHeld=>?_)
 refine wpAnyH_take (i:=0) (oi:={ dst:=some 12,op:=Op.load 23 (Operand.tmp 1),type:=23,pos:=_,after:=_,guard:=none }) (v:=?_) rfl (by kernel_rfl) (by kernel_rfl) (by kernel_rfl) (fun _ _ _ h=>h) (Or.inl ⟨by rfl,?_⟩) hHeld ?_
 rotate_left 1
 ·(intro W hW;have k0:=hW;(try dsimp only at hW);go_simp;try with_reducible rfl)
 try simp only [Act.put,List.setIfInBounds_toArray,List.set_cons_zero,List.set_cons_succ]
 refine wpAnyH_ready (rs:=[1]) (by kernel_rfl) (by simp) ?_
 refine AllReadyH.cons (o:={ dst:=some 13,op:=Op.call { callee:=Callee.value (Operand.func 64),args:=#[Operand.const (Value.string { data:=#[97,112,115,116] })],argTypes:=#[9] },type:=44,pos:=_,after:=_,guard:=none }) rfl (fun K hK=>?_) AllReadyH.nil
 go_simp
 refine (headed_apst _).mono ?_
 rintro e wa ⟨rfl,hra,hba⟩
 have HDa:=Lib.hid (HDs.out.below hba)
 have HRa:=Lib.hid (Row.rd64 hra apst_len)
 have SB:Hid ((fun W=>W.cell? ⟨w.heap.size,0,none⟩=some (.pointer (some ⟨gd,0,none⟩))) wa):=Lib.hid (HBX.out _ _ HDa.out).1
 clear hra hba
 go_simp
 refine hK.out _ _ (SB.out) (fun _=>?_)
 clear hK K hHeld
 try simp only [Act.put,List.setIfInBounds_toArray,List.set_cons_zero,List.set_cons_succ]
 have hHeld:((fun W=>W.cell? ⟨w.heap.size,0,none⟩=some (.pointer (some ⟨gd,0,none⟩)))) wa:=SB.out
 refine wpAnyH_ready (rs:=[2]) (by kernel_rfl) (by simp) ?_
 refine AllReadyH.cons (o:={ dst:=some 14,op:=Op.call { callee:=Callee.value (Operand.func 103),args:=#[Operand.tmp 12,Operand.const (Value.int IntKind.i64 0),Operand.tmp 13],argTypes:=#[23,3,44] },type:=28,pos:=_,after:=_,guard:=none }) rfl (fun K hK=>?_) AllReadyH.nil
 go_simp
 have HWb:=Lib.hid (HDa.out.write 0 (some ⟨V.drew.heap.size,0,none⟩) 64 64 apstB apst_len HRa.out (by have:=HWL.out;omega) (by have:=HWL.out;omega))
 refine HWb.out.mono ?_
 rintro e wb ⟨rfl,hdb⟩
 have HDb:=Lib.hid hdb
 have SC:Hid ((fun W=>W.cell? ⟨w.heap.size,0,none⟩=some (.pointer (some ⟨gd,0,none⟩))) wb):=Lib.hid (HBX.out _ _ HDb.out).1
 clear hdb HDa HRa HWb
 go_simp
 refine hK.out _ _ (SC.out) (fun _=>?_)
 clear hK K hHeld
 try simp only [Act.put,List.setIfInBounds_toArray,List.set_cons_zero,List.set_cons_succ]
 have hHeld:((fun W=>W.cell? ⟨w.heap.size,0,none⟩=some (.pointer (some ⟨gd,0,none⟩)))) wb:=SC.out
 refine wpAnyH_take (i:=3) (oi:={ dst:=some 3,op:=Op.assign (Operand.tmp 14),type:=28,pos:=_,after:=_,guard:=none }) (v:=?_) rfl (by kernel_rfl) (by kernel_rfl) (by kernel_rfl) (fun _ _ _ h=>h) (Or.inl ⟨by rfl,?_⟩) hHeld ?_
 rotate_left 1
 ·(intro W hW;(try dsimp only at hW);go_simp;try with_reducible rfl)
 try simp only [Act.put,List.setIfInBounds_toArray,List.set_cons_zero,List.set_cons_succ]
 refine wpAnyH_done (by kernel_rfl) ?_ _
 refine NoPanic.normal ?_
 clear HDs
 have HR2:Hid ((s.write 0 apstB).2≠0→r=s.write 0 apstB):=Lib.hid fun hn=>by
  have h1:=puts_one s (0,apstB)
  have hp:[(0,apstB)] <+: formW s.now.length:=⟨_,rfl⟩
  rw [HR1.out,putf_pre hp (by rw [h1];exact hn),h1]
 have HP1:Hid ((s.write 0 apstB).2=0→s.puts (plL [])=(s.write 0 apstB).1.write 1 zsec):=Lib.hid fun hn=>by
  have h1:=puts_one s (0,apstB)
  have h2:(s.puts [(0,apstB)]).2=0:=by rw [h1];exact hn
  have h3:=puts_snoc (p:=(1,zsec)) h2
  rw [h1] at h3
  exact h3
 have HW1:Hid ((s.write 0 apstB).1.waits.length≤70001∧(s.write 0 apstB).1.ops≤700000001):=Lib.hid (by have:=jwrite_le s 0 apstB;have:=HWL.out;omega)
 generalize s.write 0 apstB=q at *
 obtain ⟨s1,e1⟩:=q
 dsimp only at *
 clear SB SC hHeld
 by_cases h1:e1=0
 case neg =>
  have x0:((e1:Int) == 0)=false:=by rw [beq_eq_false_iff_ne];omega
  have x1:((e1:Int) != 0)=true:=by rw [bne,x0];rfl
  obtain ⟨_,k1,k2⟩:=HBX.out _ _ HDb.out
  have hc:=World.cell?_setCell_same' wb ⟨w.heap.size+1,0,none⟩ (.int .i64 (e1:Int)) (by rw [k1];rfl)
  have HRE:=Lib.hid (HR2.out h1)
  clear HR1 HR2 HP1
  go_wp2_with fail
  rw [HRE.out]
  exact ⟨.int .i64 (e1:Int),by simp [results,Tryz.results59,go_sem,hc],rfl,HFIN.out _ _ _ HDb.out⟩
 subst h1
 have HP2:=Lib.hid (HP1.out rfl)
 clear HP1 HR2
 go_wp2_with fail
 have HDs:=Lib.hid (HDb.out.below (Below.refl _ _).drew)
 refine wp_region_noPanic ?_
 refine wp_region_held_drew (S:=(fun W=>W.cell? ⟨w.heap.size,0,none⟩=some (.pointer (some ⟨gd,0,none⟩)))) (by kernel_rfl) (HBX.out _ _ HDs.out |>.1) (fun hHeld=>?_)
 refine wpAnyH_take (i:=0) (oi:={ dst:=some 18,op:=Op.load 23 (Operand.tmp 1),type:=23,pos:=_,after:=_,guard:=none }) (v:=?_) rfl (by kernel_rfl) (by kernel_rfl) (by kernel_rfl) (fun _ _ _ h=>h) (Or.inl ⟨by rfl,?_⟩) hHeld ?_
 rotate_left 1
 ·(intro W hW;have k0:=hW;(try dsimp only at hW);go_simp;try with_reducible rfl)
 try simp only [Act.put,List.setIfInBounds_toArray,List.set_cons_zero,List.set_cons_succ]
 refine wpAnyH_ready (rs:=[1]) (by kernel_rfl) (by simp) ?_
 refine AllReadyH.cons (o:={ dst:=some 19,op:=Op.call { callee:=Callee.value (Operand.func 64),args:=#[Operand.const (Value.string { data:=#[] })],argTypes:=#[9] },type:=44,pos:=_,after:=_,guard:=none }) rfl (fun K hK=>?_) AllReadyH.nil
 go_simp
 refine (headed_nil _).mono ?_
 rintro e wa ⟨rfl,hra,hba⟩
 have HDa:=Lib.hid (HDs.out.below hba)
 have HRa:=Lib.hid (Row.rd64 hra zsec_len)
 have SB:Hid ((fun W=>W.cell? ⟨w.heap.size,0,none⟩=some (.pointer (some ⟨gd,0,none⟩))) wa):=Lib.hid (HBX.out _ _ HDa.out).1
 clear hra hba
 go_simp
 refine hK.out _ _ (SB.out) (fun _=>?_)
 clear hK K hHeld
 try simp only [Act.put,List.setIfInBounds_toArray,List.set_cons_zero,List.set_cons_succ]
 have hHeld:((fun W=>W.cell? ⟨w.heap.size,0,none⟩=some (.pointer (some ⟨gd,0,none⟩)))) wa:=SB.out
 refine wpAnyH_ready (rs:=[2]) (by kernel_rfl) (by simp) ?_
 refine AllReadyH.cons (o:={ dst:=some 20,op:=Op.call { callee:=Callee.value (Operand.func 103),args:=#[Operand.tmp 18,Operand.const (Value.int IntKind.i64 1),Operand.tmp 19],argTypes:=#[23,3,44] },type:=28,pos:=_,after:=_,guard:=none }) rfl (fun K hK=>?_) AllReadyH.nil
 go_simp
 have HWb:=Lib.hid (HDa.out.write 1 (some ⟨wb.drew.heap.size,0,none⟩) 64 64 zsec zsec_len HRa.out (by have:=HW1.out;omega) (by have:=HW1.out;omega))
 refine HWb.out.mono ?_
 rintro e wb2 ⟨rfl,hdb⟩
 have HDb2:=Lib.hid hdb
 have SC:Hid ((fun W=>W.cell? ⟨w.heap.size,0,none⟩=some (.pointer (some ⟨gd,0,none⟩))) wb2):=Lib.hid (HBX.out _ _ HDb2.out).1
 clear hdb HDa HRa HWb
 go_simp
 refine hK.out _ _ (SC.out) (fun _=>?_)
 clear hK K hHeld
 try simp only [Act.put,List.setIfInBounds_toArray,List.set_cons_zero,List.set_cons_succ]
 have hHeld:((fun W=>W.cell? ⟨w.heap.size,0,none⟩=some (.pointer (some ⟨gd,0,none⟩)))) wb2:=SC.out
 refine wpAnyH_take (i:=3) (oi:={ dst:=some 4,op:=Op.assign (Operand.tmp 20),type:=28,pos:=_,after:=_,guard:=none }) (v:=?_) rfl (by kernel_rfl) (by kernel_rfl) (by kernel_rfl) (fun _ _ _ h=>h) (Or.inl ⟨by rfl,?_⟩) hHeld ?_
 rotate_left 1
 ·(intro W hW;(try dsimp only at hW);go_simp;try with_reducible rfl)
 try simp only [Act.put,List.setIfInBounds_toArray,List.set_cons_zero,List.set_cons_succ]
 refine wpAnyH_done (by kernel_rfl) ?_ _
 refine NoPanic.normal ?_
 clear HDs
 have HW2:Hid ((s1.write 1 zsec).1.waits.length≤70002∧(s1.write 1 zsec).1.ops≤700000002):=Lib.hid (by have:=jwrite_le s1 1 zsec;have:=HW1.out;omega)
 have HR2:Hid ((s1.write 1 zsec).2≠0→r=s1.write 1 zsec):=Lib.hid fun hn=>by
  have hp:plL [] <+: formW s.now.length:=⟨_,rfl⟩
  rw [HR1.out,putf_pre hp (by rw [HP2.out];exact hn),HP2.out]
 generalize s1.write 1 zsec=q at *
 obtain ⟨s2,e2⟩:=q
 dsimp only at *
 clear SC hHeld HDb
 by_cases h1:e2=0
 case neg =>
  have x0:((e2:Int) == 0)=false:=by rw [beq_eq_false_iff_ne];omega
  have x1:((e2:Int) != 0)=true:=by rw [bne,x0];rfl
  obtain ⟨_,k1,k2⟩:=HBX.out _ _ HDb2.out
  have hc:=World.cell?_setCell_same' wb2 ⟨w.heap.size+1,0,none⟩ (.int .i64 (e2:Int)) (by rw [k1];rfl)
  have HRE:=Lib.hid (HR2.out h1)
  clear HR1 HR2 HP2
  go_wp2_with fail
  rw [HRE.out]
  exact ⟨.int .i64 (e2:Int),by simp [results,Tryz.results59,go_sem,hc],rfl,HFIN.out _ _ _ HDb2.out⟩
 subst h1
 clear HR2
 obtain ⟨k0,_,_⟩:=HBX.out _ _ HDb2.out
 have HPL:=Lib.hid (places_any wb2 gd)
 go_wp2_with fail
 refine HPL.out.mono ?_
 rintro e w3 ⟨rfl,hw3⟩
 have hb3:Below wb2.heap.size wb2 w3:=by rw [hw3];exact (Below.refl _ _).alloc (Nat.le_refl _) _
 have HD3:=Lib.hid (HDb2.out.below hb3)
 have hh3:Holds w3 wb2.heap.size 23 #[.pointer (some ⟨gd,0,none⟩)]:=by rw [hw3];exact Holds.fresh _ _ _
 have hmn:s2.now.length=s.now.length:=by
  have h:=puts_now s (plL [])
  rw [HP2.out] at h
  exact h
 have HST:=Lib.hid (places_stops HD3.out.1 wb2.heap.size hh3)
 have HM2:Hid (s2.many=m):=Lib.hid (by rw [HMN.out.2,←hmn];rfl)
 rw [HM2.out] at HST
 clear hw3 hb3 hh3 HPL k0 HDb2
 go_wp2_with fail
 have hVB:V.heap.size≤w3.heap.size:=HD3.out.2.size
 refine (wpIn_wide (n:=3)).1 ?_
 refine wpIn_rangeFunc_ownF rfl (by omega) (gf:=123) (lb:=#[.pointer (some ⟨wb2.heap.size,0,none⟩)]) rfl trivial (enters_of Tryz.func123 (by kernel_rfl) rfl) HST.out (fun _ _=>trivial) (fun _ _ _ _ _ _ _ _=>trivial) (Below.refl _ _) (fun _=>rfl)
  (FoI V F' gd s) (FoX V F' (w.heap.size+1) gd s) (foI_own hVB) (foX_own hVB) ⟨by rw [HP2.out],by rw [HP2.out];exact HD3.out⟩
  (fun x=>{ tmps:=#[.pointer (some ⟨gd,0,none⟩),.pointer (some ⟨w.heap.size,0,none⟩),.pointer (some ⟨w.heap.size+1,0,none⟩),.int .i64 0,.int .i64 0,.int .i64 ((x.val:Nat):Int),undef,.pointer (some ⟨gd,0,none⟩),.bool false,.pointer (some ⟨gd,0,none⟩),.int .i64 (m:Int),.bool false,.pointer (some ⟨gd,0,none⟩),.slice (some ⟨V.heap.size,0,none⟩) 64 64,.int .i64 0,.int .i64 0,.bool false,undef,.pointer (some ⟨gd,0,none⟩),.slice (some ⟨wb.heap.size,0,none⟩) 64 64,.int .i64 0,.int .i64 0,.bool false,undef,.pointer (some ⟨gd,0,none⟩),.func (.func 123) #[] #[.pointer (some ⟨wb2.heap.size,0,none⟩)],.int .i64 ((x.val:Nat):Int),undef,undef,undef,undef,undef,undef,undef,undef,undef,undef],defers:=[] }) ?assign ?body ?done ?stop
 case assign =>
  intro l x W K hK
  simp [plv]
  gi_wp2
  exact hK
 case body =>
  rintro l pre ⟨xv,hxv⟩ W ⟨hp,hd⟩ hlt
  dsimp only
  have hxw:IntKind.i64.wrap (157+(xv:Int))=157+(xv:Int):=IntWalk.i64_in _ (by omega)
  obtain ⟨k0,k1,k2⟩:=HBX.out _ _ hd
  gi_wp2
  have HDs:=Lib.hid (hd.below (Below.refl _ W).drew)
  have HI:=Lib.hid hp
  have HPB:Hid ((s.puts (plL pre)).1.waits.length≤73000∧(s.puts (plL pre)).1.ops≤700003000):=Lib.hid (by have h:=puts_le s (plL pre);rw [plL_length] at h;have:=HWL.out;have:=HMN.out.1;omega)
  clear hd hp
  refine wpIn_region_any (by kernel_rfl) (anyIn_round (by kernel_rfl) _ _ _ _ ?_)
  refine wpAnyIn_take (i:=1) (oi:={ dst:=some 28,op:=Op.move (Operand.tmp 5),type:=3,pos:=_,after:=_,guard:=none }) (v:=?_) rfl rfl (by kernel_rfl) (by kernel_rfl) (by kernel_rfl) (fun _ _ _ h=>h) ⟨Or.inl ⟨by rfl,?_⟩,fun _=>rfl⟩ ?_
  rotate_left 1
  ·(intro W;go_simp;try with_reducible rfl)
  try simp only [Act.put,List.setIfInBounds_toArray,List.set_cons_zero,List.set_cons_succ]
  refine wpAnyIn_take (i:=2) (oi:={ dst:=some 29,op:=Op.binOp BinOp.add 3 (Operand.const (Value.int IntKind.i64 157)) (Operand.tmp 28) 3,type:=3,pos:=_,after:=_,guard:=none }) (v:=?_) rfl rfl (by kernel_rfl) (by kernel_rfl) (by kernel_rfl) (fun _ _ _ h=>h) ⟨Or.inl ⟨by rfl,?_⟩,fun _=>rfl⟩ ?_
  rotate_left 1
  ·(intro W;go_simp;try with_reducible rfl)
  try simp only [Act.put,List.setIfInBounds_toArray,List.set_cons_zero,List.set_cons_succ]
  refine wpAnyIn_ready (rs:=[0,3]) (by kernel_rfl) (by simp) ?_
  refine AllReadyIn.cons (o:={ dst:=some 27,op:=Op.load 23 (Operand.tmp 1),type:=23,pos:=_,after:=_,guard:=none }) rfl (fun K hK=>?_) ?_
  ·go_simp
   refine hK _ _ ?_
   clear hK K
   try simp only [Act.put,List.setIfInBounds_toArray,List.set_cons_zero,List.set_cons_succ]
   refine wpAnyIn_ready (rs:=[3]) (by kernel_rfl) (by simp) ?_
   refine AllReadyIn.cons (o:={ dst:=some 30,op:=Op.call { callee:=Callee.value (Operand.func 64),args:=#[Operand.const (Value.string { data:=#[] })],argTypes:=#[9] },type:=44,pos:=_,after:=_,guard:=none }) rfl (fun K hK=>?_) AllReadyIn.nil
   go_simp
   refine ⟨trivial,(callsIn_wide.2 (headed_nil _)).mono ?_⟩
   rintro e wa ⟨rfl,hra,hba⟩
   have HDa:=Lib.hid (HDs.out.below hba)
   have HRa:=Lib.hid (Row.rd64 hra zsec_len)
   have HKa:=Lib.hid (below_others hba)
   clear hra hba
   go_simp
   refine hK _ _ ?_
   clear hK K
   try simp only [Act.put,List.setIfInBounds_toArray,List.set_cons_zero,List.set_cons_succ]
   refine wpAnyIn_ready (rs:=[4]) (by kernel_rfl) (by simp) ?_
   refine AllReadyIn.cons (o:={ dst:=some 31,op:=Op.call { callee:=Callee.value (Operand.func 103),args:=#[Operand.tmp 27,Operand.tmp 29,Operand.tmp 30],argTypes:=#[23,3,44] },type:=28,pos:=_,after:=_,guard:=none }) rfl (fun K hK=>?_) AllReadyIn.nil
   go_simp
   have HWb:=Lib.hid (callsIn_wide (n:=0).2 (HDa.out.writeO (157+(xv:Int)) (some ⟨W.drew.heap.size,0,none⟩) 64 64 zsec zsec_len HRa.out (by have:=HPB.out;omega) (by have:=HPB.out;omega)))
   refine ⟨trivial,HWb.out.mono ?_⟩
   rintro e wc ⟨rfl,hdc,hkc⟩
   have HDc:=Lib.hid hdc
   have HKc:Hid (KeepsOthers W wc):=Lib.hid ((KeepsOthers.mk (Nat.le_refl _) (fun _ _ h _=>h):KeepsOthers W W.drew).trans (HKa.out.trans hkc))
   clear hdc hkc HWb HDa HRa HKa
   go_simp
   refine hK _ _ ?_
   clear hK K
   try simp only [Act.put,List.setIfInBounds_toArray,List.set_cons_zero,List.set_cons_succ]
   refine wpAnyIn_take (i:=5) (oi:={ dst:=some 6,op:=Op.assign (Operand.tmp 31),type:=28,pos:=_,after:=_,guard:=none }) (v:=?_) rfl rfl (by kernel_rfl) (by kernel_rfl) (by kernel_rfl) (fun _ _ _ h=>h) ⟨Or.inl ⟨by rfl,?_⟩,fun _=>rfl⟩ ?_
   rotate_left 1
   ·(intro W;go_simp;try with_reducible rfl)
   try simp only [Act.put,List.setIfInBounds_toArray,List.set_cons_zero,List.set_cons_succ]
   refine wpAnyIn_done (by kernel_rfl) ?_ _
   have HSN:Hid (s.puts (plL (pre ++ [⟨xv,hxv⟩]))=(s.puts (plL pre)).1.write (157+(xv:Int)) zsec):=Lib.hid (by
    rw [plL_snoc,puts_snoc HI.out]
    show _=_
    rw [show (((157+xv:Nat)):Int)=157+(xv:Int) by omega])
   generalize (s.puts (plL pre)).1.write (157+(xv:Int)) zsec=q at *
   obtain ⟨s4,e4⟩:=q
   dsimp only at *
   clear k0 k1 k2
   by_cases h4:e4=0
   ·subst h4
    gi_wp2
    exact ⟨HKc.out,trivial,by rw [HSN.out],by rw [HSN.out];exact HDc.out⟩
   ·have x0:((e4:Int) == 0)=false:=by rw [beq_eq_false_iff_ne];omega
    have x1:((e4:Int) != 0)=true:=by rw [bne,x0];rfl
    obtain ⟨_,k1,k2⟩:=HBX.out _ _ HDc.out
    have hc:=World.cell?_setCell_same' wc ⟨w.heap.size+1,0,none⟩ (.int .i64 (e4:Int)) (by rw [k1];rfl)
    gi_wp2
    exact ⟨HKc.out.trans (KeepsOthers.setCell _ _ _),rfl,by rw [HSN.out];exact h4,by rw [HSN.out];exact HSET.out _ _ _ HDc.out,by rw [HSN.out];exact hc⟩
  refine AllReadyIn.cons (o:={ dst:=some 30,op:=Op.call { callee:=Callee.value (Operand.func 64),args:=#[Operand.const (Value.string { data:=#[] })],argTypes:=#[9] },type:=44,pos:=_,after:=_,guard:=none }) rfl (fun K hK=>?_) AllReadyIn.nil
  go_simp
  refine ⟨trivial,(callsIn_wide.2 (headed_nil _)).mono ?_⟩
  rintro e wa ⟨rfl,hra,hba⟩
  have HDa:=Lib.hid (HDs.out.below hba)
  have HRa:=Lib.hid (Row.rd64 hra zsec_len)
  have HKa:=Lib.hid (below_others hba)
  clear hra hba
  go_simp
  refine hK _ _ ?_
  clear hK K
  try simp only [Act.put,List.setIfInBounds_toArray,List.set_cons_zero,List.set_cons_succ]
  refine wpAnyIn_ready (rs:=[0]) (by kernel_rfl) (by simp) ?_
  refine AllReadyIn.cons (o:={ dst:=some 27,op:=Op.load 23 (Operand.tmp 1),type:=23,pos:=_,after:=_,guard:=none }) rfl (fun K hK=>?_) AllReadyIn.nil
  have kk:=(HBX.out _ _ HDa.out).1
  go_simp
  refine hK _ _ ?_
  clear hK K
  try simp only [Act.put,List.setIfInBounds_toArray,List.set_cons_zero,List.set_cons_succ]
  refine wpAnyIn_ready (rs:=[4]) (by kernel_rfl) (by simp) ?_
  refine AllReadyIn.cons (o:={ dst:=some 31,op:=Op.call { callee:=Callee.value (Operand.func 103),args:=#[Operand.tmp 27,Operand.tmp 29,Operand.tmp 30],argTypes:=#[23,3,44] },type:=28,pos:=_,after:=_,guard:=none }) rfl (fun K hK=>?_) AllReadyIn.nil
  go_simp
  have HWb:=Lib.hid (callsIn_wide (n:=0).2 (HDa.out.writeO (157+(xv:Int)) (some ⟨W.drew.heap.size,0,none⟩) 64 64 zsec zsec_len HRa.out (by have:=HPB.out;omega) (by have:=HPB.out;omega)))
  refine ⟨trivial,HWb.out.mono ?_⟩
  rintro e wc ⟨rfl,hdc,hkc⟩
  have HDc:=Lib.hid hdc
  have HKc:Hid (KeepsOthers W wc):=Lib.hid ((KeepsOthers.mk (Nat.le_refl _) (fun _ _ h _=>h):KeepsOthers W W.drew).trans (HKa.out.trans hkc))
  clear hdc hkc HWb HDa HRa HKa
  go_simp
  refine hK _ _ ?_
  clear hK K
  try simp only [Act.put,List.setIfInBounds_toArray,List.set_cons_zero,List.set_cons_succ]
  refine wpAnyIn_take (i:=5) (oi:={ dst:=some 6,op:=Op.assign (Operand.tmp 31),type:=28,pos:=_,after:=_,guard:=none }) (v:=?_) rfl rfl (by kernel_rfl) (by kernel_rfl) (by kernel_rfl) (fun _ _ _ h=>h) ⟨Or.inl ⟨by rfl,?_⟩,fun _=>rfl⟩ ?_
  rotate_left 1
  ·(intro W;go_simp;try with_reducible rfl)
  try simp only [Act.put,List.setIfInBounds_toArray,List.set_cons_zero,List.set_cons_succ]
  refine wpAnyIn_done (by kernel_rfl) ?_ _
  have HSN:Hid (s.puts (plL (pre ++ [⟨xv,hxv⟩]))=(s.puts (plL pre)).1.write (157+(xv:Int)) zsec):=Lib.hid (by
   rw [plL_snoc,puts_snoc HI.out]
   show _=_
   rw [show (((157+xv:Nat)):Int)=157+(xv:Int) by omega])
  generalize (s.puts (plL pre)).1.write (157+(xv:Int)) zsec=q at *
  obtain ⟨s4,e4⟩:=q
  dsimp only at *
  clear k0 k1 k2
  by_cases h4:e4=0
  ·subst h4
   gi_wp2
   exact ⟨HKc.out,trivial,by rw [HSN.out],by rw [HSN.out];exact HDc.out⟩
  ·have x0:((e4:Int) == 0)=false:=by rw [beq_eq_false_iff_ne];omega
   have x1:((e4:Int) != 0)=true:=by rw [bne,x0];rfl
   obtain ⟨_,k1,k2⟩:=HBX.out _ _ HDc.out
   have hc:=World.cell?_setCell_same' wc ⟨w.heap.size+1,0,none⟩ (.int .i64 (e4:Int)) (by rw [k1];rfl)
   gi_wp2
   exact ⟨HKc.out.trans (KeepsOthers.setCell _ _ _),rfl,by rw [HSN.out];exact h4,by rw [HSN.out];exact HSET.out _ _ _ HDc.out,by rw [HSN.out];exact hc⟩
 case done =>
  rintro D ys W hD hS ⟨hp,hd⟩ hK
  have hform:formW s.now.length=plL ys:=by
   unfold formW plL
   rw [hS,HMN.out.2]
  have HRE:Hid (r=(s.puts (plL ys)).1.flush):=Lib.hid (by rw [HR1.out,hform,putf_go hp])
  have hyl:ys.length=m:=by have:=congrArg List.length hS;simpa using this
  have hpb:=puts_le s (plL ys)
  rw [plL_length,hyl] at hpb
  have HFL:=Lib.hid (hd.flushO (by have:=HWL.out;have:=HMN.out.1;omega) (by have:=HWL.out;have:=HMN.out.1;omega))
  obtain ⟨k0,k1,k2⟩:=HBX.out _ _ hd
  have HK:=Lib.hid hK
  clear hp hpb hK hform hS hyl hd
  generalize (s.puts (plL ys)).1.flush=q at *
  obtain ⟨s5,e5⟩:=q
  dsimp only at *
  go_wp2_with fail
  refine HFL.out.mono ?_
  rintro e w5 ⟨rfl,hd5,hk5⟩
  obtain ⟨_,k1,k2⟩:=HBX.out _ _ hd5
  have hc:=World.cell?_setCell_same' w5 ⟨w.heap.size+1,0,none⟩ (.int .i64 (e5:Int)) (by rw [k1];rfl)
  have HDf:=Lib.hid (HSET.out _ _ (.int .i64 (e5:Int)) hd5)
  have HKf:=Lib.hid (((hk5.trans (KeepsOthers.setCell w5 ⟨w.heap.size+1,0,none⟩ (.int .i64 (e5:Int)))).same D _ HK.out rfl))
  clear hd5 hk5 HFL k0
  go_wp2_with fail
  have hc2:=cell_kept hc (grownBy_putObj' _ D (.deferred none)) (fun r e=>by cases e;exact ⟨_,HKf.out,rfl⟩)
  refine ⟨by simp,.inl ⟨_,_,rfl,run_takeDeferred HKf.out,?_⟩⟩
  rw [HRE.out]
  exact ⟨.int .i64 (e5:Int),by simp [results,Tryz.results59,go_sem,hc2],rfl,HOUT.out _ _ (HDf.out.turns (grownBy_putObj' _ D (.deferred none)) fun q e=>by cases e;exact ⟨by omega,_,HKf.out,rfl⟩)⟩
 case stop =>
  rintro D c pre W hD hS ⟨rfl,hn,hd,hc⟩ hK
  have HRE:Hid (r=s.puts (plL pre)):=Lib.hid (by
   have hp:plL pre <+: formW s.now.length:=by
    unfold formW plL
    rw [←HMN.out.2]
    exact List.cons_prefix_cons.2 ⟨rfl,List.cons_prefix_cons.2 ⟨rfl,hS.map _⟩⟩
   rw [HR1.out,putf_pre hp hn])
  generalize s.puts (plL pre)=q at *
  obtain ⟨s5,e5⟩:=q
  dsimp only at *
  gi_wp2
  have hc2:=cell_kept hc (grownBy_putObj' _ D (.deferred none)) (fun r e=>by cases e;exact ⟨_,hK,rfl⟩)
  refine ⟨by simp,.inl ⟨_,_,rfl,run_takeDeferred hK,?_⟩⟩
  rw [HRE.out]
  exact ⟨.int .i64 (e5:Int),by simp [results,Tryz.results59,go_sem,hc2],rfl,HOUT.out _ _ (hd.turns (grownBy_putObj' _ D (.deferred none)) fun q e=>by cases e;exact ⟨by omega,_,hK,rfl⟩)⟩
end
end Go.Proofs.YtnedpkhehiijhaaGreat
namespace Go.Proofs.YtnedpkhehiijhaaGreat
open Go.RowKit
set_option linter.unusedVariables false

/-- The two bytes from i on. -/
def two (l:List Nat) (i:Nat):Nat:=l.getD i 0*256+l.getD (i+1) 0
/-- Two bytes written from i on. -/
def put2 (l:List Nat) (i v:Nat):List Nat:=(l.set i (v / 256)).set (i+1) (v % 256)

set_option maxRecDepth 100000 in
theorem get_any (w:World) (B:Nat) (A:Option Addr) (c n:Nat) (l:List Nat) (hn:l.length=n) (hr:Rd .u8 w B A c l) (ho:Oct l) (i:Nat) (hi:i+1<n) (v:Nat) (hv:two l i=v) :
  Calls Tryz.prog 69 #[.slice A n c,.int .i64 i] w fun e w'=>e = .returned (.int .i64 v)∧∃ q,w'=w.drewN q:=by
 have hc63:=hr.2.1
 have hlc:n≤c:=by have:=hr.1;omega
 obtain ⟨b,off,x,rfl,hb,hx,Hx⟩:=hr.at_ (i:=i) (by omega)
 obtain ⟨_,_,y,e0,_,hy,Hy⟩:=hr.at_ (i:=i+1) (by omega)
 obtain ⟨rfl,rfl⟩:b=_∧off=_:=by injection e0 with e0;injection e0 with e1 e2;exact ⟨e1,e2⟩
 have hx8:x<256:=by rw [Hx.out];exact ho i
 have hy8:y<256:=by rw [Hy.out];exact ho (i+1)
 have HV:Hid ((x:Int)*256+(y:Int)=(v:Int)):=Lib.hid (by rw [←hv];unfold two;rw [←Hx.out,←Hy.out];push_cast;rfl)
 have hor:∀ z:Int,z=(x:Int)*256→True:=fun _ _=>trivial
 clear e0 hr hn ho hv hor
 have h0:(0:Int)≤(i:Int):=by omega
 have h1:(i:Int)<(n:Int):=by omega
 have h2:(i:Int)+1<(n:Int):=by omega
 go_enter Tryz.func69,Tryz.ntmps69
 go_wp2_with fail
 go_quiet (fail)
 go_wp2_with fail
 go_ret
 exact ⟨ret_int ((or_i64 x y hx8 hy8).trans (by rw [←HV.out];push_cast;rfl)),_,rfl⟩

set_option maxRecDepth 100000 in
theorem put_any (w:World) (g c n:Nat) (L:List Nat) (hn:L.length=n) (hR:Row .u8 5 w g L) (hnc:n≤c) (hc:c≤9223372036854775807) (i:Nat) (hi:i+1<n) (v:Nat) (hv:v≤65535) :
  Calls Tryz.prog 109 #[.slice (some ⟨g,0,none⟩) n c,.int .i64 i,.int .i64 v] w fun e w'=>e = .returned (.tuple #[])∧Row .u8 5 w' g (put2 L i v)∧w.grownBy w' (some g):=by
 have hcell:=hR.cell (i:=i) (by omega)
 have hcell2:=hR.cell (i:=i+1) (by omega)
 have hfr:=hR.open_
 have hm1:((v / 256:Nat):Int) % 256=((v / 256:Nat):Int):=by omega
 have h0:(0:Int)≤(i:Int):=by omega
 have h1:(i:Int)<(n:Int):=by omega
 have h2:(i:Int)+1<(n:Int):=by omega
 go_enter Tryz.func109,Tryz.ntmps109
 go_wp2_with fail
 have hst:=hR.set i (v / 256)
 have hst2:=hst.set (i+1) (v % 256)
 have hgr:=one_setCell (one_setCell (World.grownBy.refl w (some g)) i (.int .u8 ((v / 256:Nat):Int))) (i+1) (.int .u8 ((v % 256:Nat):Int))
 push_cast at hst2 hgr
 go_end0
 exact ⟨rfl,hst2,hgr⟩
end Go.Proofs.YtnedpkhehiijhaaGreat
namespace Go.Proofs.YtnedpkhehiijhaaGreat
open Go.RowKit
set_option linter.unusedVariables false
set_option linter.unusedSimpArgs false

/-- The byte at place i of a node's block. -/
def encAt (s:ByteArray) (z:Nat) (p:List Nat) (i:Nat):Nat :=
 if i=0 then s.size else if i≤40 then (s.data.toList.map UInt8.toNat).getD (i - 1) 0 else if i=41 then z / 256 else if i=42 then z % 256
 else if (i - 43) / 2<p.length then (if (i - 43) % 2=0 then p.getD ((i - 43) / 2) 0 / 256 else p.getD ((i - 43) / 2) 0 % 256) else 0
/-- A node's block. -/
def enc (s:ByteArray) (z:Nat) (p:List Nat):List Nat:=(List.range 64).map (encAt s z p)
theorem enc_length (s:ByteArray) (z:Nat) (p:List Nat):(enc s z p).length=64:=by simp [enc]
theorem enc_at (s:ByteArray) (z:Nat) (p:List Nat) {i:Nat} (h:i<64):(enc s z p).getD i 0=encAt s z p i:=by simp [enc,List.getD,h]
theorem enc_is {s:ByteArray} {z:Nat} {p L:List Nat} (hL:L.length=64) (h:∀ i,i<64→L.getD i 0=encAt s z p i):L=enc s z p:=by
 apply List.ext_getElem (by rw [hL,enc_length])
 intro i h1 h2
 have a:=h i (by omega)
 rw [←enc_at s z p (by omega)] at a
 simpa [List.getD,h1,h2] using a

theorem getD_put2 (L:List Nat) (i v j:Nat) (hi:i+1<L.length):(put2 L i v).getD j 0=if j=i then v / 256 else if j=i+1 then v % 256 else L.getD j 0:=by
 unfold put2
 by_cases h1:j=i
 ·subst h1
  rw [if_pos rfl]
  simp [List.getD,List.getElem?_set,show ¬ (j+1=j) by omega,show j<L.length by omega]
 ·rw [if_neg h1]
  by_cases h2:j=i+1
  ·subst h2
   rw [if_pos rfl]
   simp [List.getD,List.getElem?_set,hi]
  ·rw [if_neg h2]
   simp [List.getD,List.getElem?_set,show ¬ (i+1=j) by omega,show ¬ (i=j) by omega]
theorem put2_length (L:List Nat) (i v:Nat):(put2 L i v).length=L.length:=by simp [put2]

/-- Bytes laid over a row from place o on. -/
def over (L:List Nat) (o:Nat):List UInt8→List Nat
 | []=>L
 | x :: r=>over (L.set o x.toNat) (o+1) r
theorem over_length:∀ (r:List UInt8) (L:List Nat) (o:Nat),(over L o r).length=L.length
 | [],_,_=>rfl
 | x :: r,L,o=>by rw [over,over_length r];simp
theorem getD_over:∀ (r:List UInt8) (L:List Nat) (o j:Nat),o+r.length≤L.length→(over L o r).getD j 0=if o≤j∧j<o+r.length then (r.map UInt8.toNat).getD (j - o) 0 else L.getD j 0
 | [],L,o,j,h=>by rw [over,if_neg (by simp)]
 | x :: r,L,o,j,h=>by
  simp only [List.length_cons] at h
  rw [over,getD_over r _ (o+1) j (by simp;omega)]
  by_cases h1:j=o
  ·subst h1
   rw [if_neg (by omega),if_pos (by simp)]
   simp [List.getD,List.getElem?_set,show j<L.length by omega]
  ·by_cases h2:o+1≤j∧j<o+1+r.length
   ·rw [if_pos h2,if_pos (by simp;omega)]
    obtain ⟨m,rfl⟩:∃ m,j=o+1+m:=⟨j - (o+1),by omega⟩
    rw [show o+1+m - (o+1)=m by omega,show o+1+m - o=m+1 by omega]
    simp [List.getD]
   ·rw [if_neg h2,if_neg (by simp;omega)]
    simp [List.getD,List.getElem?_set,show ¬ (o=j) by omega]
theorem Row.cells {T:TypeId} {g:Nat}:∀ (r:List UInt8) {w a:World} {L:List Nat} (o:Nat),Row .u8 T w g L→a.grownBy w (some g) →
  Row .u8 T (w.setCells g o (r.map fun x=>Value.int .u8 (x.toNat:Int))) g (over L o r)∧a.grownBy (w.setCells g o (r.map fun x=>Value.int .u8 (x.toNat:Int))) (some g)
 | [],w,a,L,o,h,hg=>⟨h,hg⟩
 | x :: r,w,a,L,o,h,hg=>Row.cells r (o+1) (h.set o x.toNat) (one_setCell hg o _)

theorem enc_step {s:ByteArray} {z k:Nat} {p L:List Nat} (hL:L.length=64) (hk:k<p.length) (hp:p.length≤10) (h:∀ i,i<64→L.getD i 0=encAt s z (p.take k) i) :
  ∀ i,i<64→(put2 L (43+2*k) (p.getD k 0)).getD i 0=encAt s z (p.take (k+1)) i:=by
 intro i hi
 rw [getD_put2 _ _ _ _ (by omega)]
 have e1:(p.take k).length=k:=by simp;omega
 have e2:(p.take (k+1)).length=k+1:=by simp;omega
 have e3:∀ j n,j<n→(p.take n).getD j 0=p.getD j 0:=fun j n hj=>by simp [List.getD,List.getElem?_take,hj]
 by_cases h1:i=43+2*k
 ·subst h1
  rw [if_pos rfl]
  unfold encAt
  rw [if_neg (by omega),if_neg (by omega),if_neg (by omega),if_neg (by omega),e2,if_pos (by omega),if_pos (by omega),show (43+2*k - 43) / 2=k by omega,e3 _ _ (by omega)]
 ·rw [if_neg h1]
  by_cases h2:i=43+2*k+1
  ·subst h2
   rw [if_pos rfl]
   unfold encAt
   rw [if_neg (by omega),if_neg (by omega),if_neg (by omega),if_neg (by omega),e2,if_pos (by omega),if_neg (by omega),show (43+2*k+1 - 43) / 2=k by omega,e3 _ _ (by omega)]
  ·rw [if_neg h2,h i hi]
   unfold encAt
   rw [e1,e2]
   by_cases a1:i=0
   ·rw [if_pos a1,if_pos a1]
   rw [if_neg a1,if_neg a1]
   by_cases a2:i≤40
   ·rw [if_pos a2,if_pos a2]
   rw [if_neg a2,if_neg a2]
   by_cases a3:i=41
   ·rw [if_pos a3,if_pos a3]
   rw [if_neg a3,if_neg a3]
   by_cases a4:i=42
   ·rw [if_pos a4,if_pos a4]
   rw [if_neg a4,if_neg a4]
   by_cases a5:(i - 43) / 2<k
   ·rw [if_pos a5,e3 _ _ a5,e3 _ _ (Nat.lt_succ_of_lt a5),if_pos (Nat.lt_succ_of_lt a5)]
   ·rw [if_neg a5,if_neg (by omega)]
theorem noughts_at (n j:Nat):(List.replicate n 0).getD j 0=0:=by
 rw [List.getD,List.getElem?_replicate]
 split <;> rfl
theorem enc_head {s:ByteArray} {z:Nat} (hs:s.size≤40) {L:List Nat} (h:L=put2 (over ((List.replicate 64 0).set 0 s.size) 1 s.data.toList) 41 z):L.length=64∧∀ (p:List Nat) i,i<64→L.getD i 0=encAt s z (p.take 0) i:=by
 have e0:s.data.toList.length=s.size:=by simp
 have e1:L.length=64:=by rw [h,put2_length,over_length];simp
 refine ⟨e1,fun p i hi=>?_⟩
 rw [h,getD_put2 _ _ _ _ (by rw [over_length];simp),getD_over _ _ _ _ (by rw [e0];simp;omega),e0]
 unfold encAt
 have e2:∀ j,((List.replicate 64 0).set 0 s.size).getD j 0=if j=0 then s.size else 0:=fun j=>by
  have hn:=noughts_at 64 j
  have hl:0<(List.replicate 64 0).length:=by rw [List.length_replicate];omega
  generalize List.replicate 64 0=R at hn hl
  by_cases hj:j=0
  ·subst hj
   rw [if_pos rfl]
   simp [List.getD,hl]
  ·rw [if_neg hj]
   refine Eq.trans ?_ hn
   simp [List.getD,List.getElem?_set,show ¬ (0=j) by omega]
 rw [e2]
 by_cases a1:i=0
 ·rw [if_pos a1,if_neg (by omega),if_neg (by omega),if_neg (by omega),if_pos a1]
 rw [if_neg a1,if_neg a1]
 by_cases a2:i≤40
 ·rw [if_pos a2,if_neg (by omega),if_neg (by omega)]
  by_cases a3:i<1+s.size
  ·rw [if_pos (by omega)]
  ·rw [if_neg (by omega)]
   have:(s.data.toList.map UInt8.toNat)[i - 1]?=none:=by rw [List.getElem?_eq_none_iff];simp;omega
   simp only [List.getD,this];rfl
 rw [if_neg a2]
 by_cases a3:i=41
 ·rw [if_pos a3,if_pos a3]
 rw [if_neg a3,if_neg a3]
 by_cases a4:i=42
 ·rw [if_pos (by omega),if_pos a4]
 rw [if_neg (by omega),if_neg a4,if_neg (by omega)]
 simp
end Go.Proofs.YtnedpkhehiijhaaGreat
namespace Go.Proofs.YtnedpkhehiijhaaGreat
open Go.RowKit Go.Shelf
set_option linter.unusedVariables false
set_option linter.unusedSimpArgs false

theorem Disk.sect_read {w:World} {F:Nat→Prop} {gd:Nat} {s:Dk} (h:Disk w F gd s) {i:Nat} (hi:i<s.now.length):(s.read (i:Int)).length=64:=by
 unfold Dk.read
 rw [if_pos (by omega),Int.toNat_natCast]
 have:s.now[i]?=some (s.now.getD i []):=by simp [List.getD,hi]
 exact h.sect this
theorem apst_oct:Oct1 apstB:=secOf_oct fun x hx=>by simp at hx;rcases hx with rfl | rfl | rfl | rfl <;> omega
section
variable {w:World} {F:Nat→Prop} {gd:Nat} {s:Dk}
set_option maxRecDepth 100000 in
set_option maxHeartbeats 4000000 in
theorem open_none (h:Disk w F gd s) (hdn:s.down=false) (hm:0<s.many) (h0:s.read 0=apstB) (h1:s.read 1=zsec) :
  Calls Tryz.prog 33 #[.pointer (some ⟨gd,0,none⟩)] w fun e w'=>e = .returned (.int .i64 0)∧DJ w F gd s w':=by
 obtain ⟨F',hF'⟩:∃ F',F'=fun k=>F k∧k<w.heap.size:=⟨_,rfl⟩
 have hl:=h.low
 rw [←hF'] at hl
 have hFF:∀ k,F' k→F k∧k<w.heap.size:=fun k hk=>by rw [hF'] at hk;exact hk
 have hb1:Below w.heap.size w ((w.alloc (.cells #[.pointer (some ⟨gd,0,none⟩)] 23)).alloc (.cells #[.int .i64 0] 28)):=((Below.refl _ _).alloc (Nat.le_refl _) _).alloc (by simp) _
 have hbx:=(Holds.fresh w 23 #[.pointer (some ⟨gd,0,none⟩)]).alloc (.cells #[.int .i64 0] 28)
 have hrs:=Holds.fresh (w.alloc (.cells #[.pointer (some ⟨gd,0,none⟩)] 23)) 28 #[.int .i64 0]
 rw [show (w.alloc (.cells #[.pointer (some ⟨gd,0,none⟩)] 23)).heap.size=w.heap.size+1 by simp] at hrs
 have hsz:((w.alloc (.cells #[.pointer (some ⟨gd,0,none⟩)] 23)).alloc (.cells #[.int .i64 0] 28)).heap.size=w.heap.size+2:=by simp
 have hd1:Disk ((w.alloc (.cells #[.pointer (some ⟨gd,0,none⟩)] 23)).alloc (.cells #[.int .i64 0] 28)) F' gd s:=(hl.keep (Only.of_below (F:=fun _=>False) hb1) (fun _ _ e=>e))
 have z0:=hbx.cell 0
 obtain ⟨V,hV⟩:∃ V,V=((w.alloc (.cells #[.pointer (some ⟨gd,0,none⟩)] 23)).alloc (.cells #[.int .i64 0] 28)):=⟨_,rfl⟩
 rw [←hV] at hb1 hbx hrs hsz hd1
 have HV:=Lib.hid hV
 have HST:=Lib.hid (DJ.start hd1)
 have HBX:Hid (∀ (s':Dk) (W:World),DJ V F' gd s' W→W.cell? ⟨w.heap.size,0,none⟩=some (.pointer (some ⟨gd,0,none⟩))∧W.cell? ⟨w.heap.size+1,0,none⟩=some (.int .i64 0)∧W.frozen? ⟨w.heap.size+1,0,none⟩=false):=Lib.hid fun s' W hW=>by
  have k:∀ g,g=w.heap.size∨g=w.heap.size+1→W.heap[g]?=V.heap[g]?:=fun g hg=>hW.2.block g (by omega) fun hF=>by have:=(hFF g hF).2;omega
  have b1:Holds W w.heap.size 23 #[.pointer (some ⟨gd,0,none⟩)]:=(k _ (.inl rfl)).trans hbx
  have b2:Holds W (w.heap.size+1) 28 #[.int .i64 0]:=(k _ (.inr rfl)).trans hrs
  exact ⟨b1.cell 0,b2.cell 0,b2.open_ 0⟩
 have HSET:Hid (∀ (s':Dk) (W:World) (v:Value),DJ V F' gd s' W→DJr V F' (w.heap.size+1) gd s' (W.setCell ⟨w.heap.size+1,0,none⟩ v)):=Lib.hid fun s' W v hW=>by
  have hn:∀ k,grow F' V W k→k≠w.heap.size+1:=fun k hk e=>by
   subst e
   rcases hk with hk | hk
   ·have:=(hFF _ hk).2;omega
   ·omega
  have ho:Only (fun k=>k=w.heap.size+1) W (W.setCell ⟨w.heap.size+1,0,none⟩ v):=(Only.refl (fun k=>k=w.heap.size+1) W).setCell (p:=⟨w.heap.size+1,0,none⟩) (.inl rfl) v
  refine ⟨(hW.1.keep ho fun k a b=>hn k a b).more fun k hk=>?_,(hW.2.more fun k _ hk=>.inl hk).setCell (.inl (.inr rfl)) v⟩
  have h2:=ho.size
  rcases hk with hk | hk
  ·exact .inl hk
  ·exact .inr ⟨hk.1,by omega⟩
 have HOUT:Hid (∀ (s':Dk) (W:World),DJr V F' (w.heap.size+1) gd s' W→DJ w F gd s' W):=Lib.hid fun s' W hW=>by
  refine ⟨hW.1.more fun k hk=>?_,(Only.of_below (F:=F) hb1).trans hW.2 fun k hk hF=>by rcases hF with hF | hF;exact (hFF k hF).1;omega⟩
  rcases hk with hk | hk
  ·exact .inl (hFF k hk).1
  ·exact .inr ⟨by omega,hk.2⟩
 have HFIN:Hid (∀ (s':Dk) (W:World) (v:Value),DJ V F' gd s' W→DJ w F gd s' (W.setCell ⟨w.heap.size+1,0,none⟩ v)):=Lib.hid fun s' W v hW=>HOUT.out _ _ (HSET.out s' W v hW)
 have HDN:=Lib.hid (disk_down hd1)
 rw [hdn] at HDN
 have HM:=Lib.hid (jmany hd1)
 have hmm:s.many≤2000:=by have:=h.len.2.2;unfold Dk.many;omega
 have HRD:=Lib.hid fun (W:World) (hW:DJ V F' gd s W) (i:Int)=>disk_read hW.1 i
 have HR0:=Lib.hid h0
 have HR1:=Lib.hid h1
 clear h hl hF' hb1 hbx hrs hd1 hV hFF hsz hdn h0 h1
 have d0:((s.many:Int) == 0)=false:=by rw [beq_eq_false_iff_ne];omega
 generalize s.many=m at *
 obtain ⟨_,k1,k2⟩:=HBX.out _ _ HST.out
 go_enter Tryz.func33,Tryz.ntmps33
 go_wp2_with fail
 rw [←HV.out]
 refine HDN.out.mono ?_
 rintro e w1 ⟨rfl,rfl⟩
 obtain ⟨k0,_,_⟩:=HBX.out _ _ HST.out
 go_wp2_with (first | (refine HM.out.mono ?_;rintro e w1 ⟨rfl,rfl⟩) | fail)
 refine (HRD.out V HST.out 0).mono ?_
 rintro e w3 ⟨A3,n3,c3,rfl,hn3,hr3,hx3,hb3⟩
 clear hx3
 have HD3:=Lib.hid (HST.out.below hb3)
 rw [HR0.out] at hn3 hr3
 obtain rfl:64=n3:=by rw [←hn3];exact (apst_len).symm
 have HR3:=Lib.hid hr3
 clear hn3 hr3 hb3 HV z0 k0
 go_wp2_with fail
 refine (headed_apst _).mono ?_
 rintro e w4 ⟨rfl,hr4,hb4⟩
 have HD4:=Lib.hid (HD3.out.below hb4)
 have HEQ:=Lib.hid (equalB w4 A3 (some ⟨w3.heap.size,0,none⟩) c3 64 64 64 apstB apstB apst_len apst_len ((HR3.out.under hb4).more hb4.size) (Row.rd64 hr4 apst_len) apst_oct apst_oct)
 rw [decide_eq_true rfl] at HEQ
 clear hr4 hb4 HR3
 go_wp2_with fail
 refine HEQ.out.mono ?_
 rintro e w5 ⟨rfl,rfl⟩
 obtain ⟨k0,_,_⟩:=HBX.out _ _ HD4.out
 go_wp2_with fail
 refine (HRD.out w4 HD4.out 1).mono ?_
 rintro e w6 ⟨A6,n6,c6,rfl,hn6,hr6,hx6,hb6⟩
 clear hx6
 have HD6:=Lib.hid (HD4.out.below hb6)
 rw [HR1.out] at hn6 hr6
 obtain rfl:64=n6:=by rw [←hn6];exact zsec_len.symm
 have HBG:=Lib.hid (begun_any w6 A6 c6 zsec zsec_len hr6 zsec_oct)
 have hbz:begunN zsec=some 0:=by unfold begunN;rw [if_pos rfl]
 rw [hbz] at HBG
 clear hn6 hr6 hb6 hbz k0
 go_wp2_with fail
 refine HBG.out.mono ?_
 rintro e w7 ⟨rfl,hb7⟩
 have HD7:=Lib.hid (HD6.out.below hb7)
 obtain ⟨k0,k1,k2⟩:=HBX.out _ _ HD7.out
 have hc:=World.cell?_setCell_same' w7 ⟨w.heap.size+1,0,none⟩ (.int .i64 0) (by rw [k1];rfl)
 clear hb7 HBG
 go_wp2_with fail
 exact bodyPost_ret (v:=.int .i64 0) (by simp [results,Tryz.results33,go_sem,hc]) rfl ⟨rfl,HFIN.out _ _ _ HD7.out⟩
end
end Go.Proofs.YtnedpkhehiijhaaGreat
namespace Go.Proofs.YtnedpkhehiijhaaGreat
open Go.RowKit
set_option linter.unusedVariables false
set_option linter.unusedSimpArgs false

/-- It is up, and does not crash. -/
structure Well (s:Dk):Prop where
 dn:s.down=false
 ar:s.armed=false
def setAll (a:List (List Nat)) (l:List (Int×List Nat)):List (List Nat):=l.foldl (fun a p=>a.set p.1.toNat p.2) a
theorem setAll_append (a:List (List Nat)) (l m:List (Int×List Nat)):setAll a (l ++ m)=setAll (setAll a l) m:=List.foldl_append
theorem setAll_length (a:List (List Nat)) (l:List (Int×List Nat)):(setAll a l).length=a.length:=by
 induction l generalizing a with
 | nil=>rfl
 | cons p l ih=>rw [setAll,List.foldl_cons];exact (ih _).trans (List.length_set)
theorem setAll_off {a:List (List Nat)} {l:List (Int×List Nat)} {i:Nat} (h:∀ p∈l,p.1.toNat≠i):(setAll a l).getD i []=a.getD i []:=by
 induction l generalizing a with
 | nil=>rfl
 | cons p l ih =>
  rw [setAll,List.foldl_cons]
  refine (ih (a:=a.set p.1.toNat p.2) fun q hq=>h q (List.mem_cons_of_mem _ hq)).trans ?_
  simp only [List.getD]
  rw [List.getElem?_set_ne (h p (List.mem_cons_self ..))]
theorem setAll_on {a:List (List Nat)} {l r:List (Int×List Nat)} {p:Int×List Nat} (hp:p.1.toNat<a.length) (hr:∀ q∈r,q.1.toNat≠p.1.toNat):(setAll a (l ++ p :: r)).getD p.1.toNat []=p.2:=by
 rw [setAll_append]
 show (setAll ((setAll a l).set p.1.toNat p.2) r).getD _ _=_
 rw [setAll_off hr]
 simp [List.getD,setAll_length,hp]
theorem Dk.read_now (s:Dk) (i:Nat):s.read (i:Int)=s.now.getD i []:=by unfold Dk.read;rw [if_pos (by omega),Int.toNat_natCast]
def FitW (n:Nat) (l:List (Int×List Nat)):Prop:=∀ p∈l,0≤p.1∧p.1<(n:Int)∧p.2.length=64
theorem Well.write {s:Dk} (h:Well s) {i:Int} {x:List Nat} (hf:0≤i∧i<(s.now.length:Int)∧x.length=64):s.write i x=(s.wrote i.toNat x,0):=by
 unfold Dk.write
 rw [if_neg (by rw [h.dn];simp),if_pos (show s.fits i x from hf),if_neg (by unfold Dk.due;rw [h.ar];simp)]
theorem Well.puts {s:Dk} (h:Well s) {l:List (Int×List Nat)} (hf:FitW s.now.length l):(s.puts l).2=0∧Well (s.puts l).1∧(s.puts l).1.now=setAll s.now l∧(s.puts l).1.ops=s.ops+l.length:=by
 induction l generalizing s with
 | nil=>exact ⟨rfl,h,rfl,rfl⟩
 | cons p l ih =>
  have hw:=h.write (hf p (List.mem_cons_self ..))
  rw [Dk.puts,hw,if_pos rfl]
  have h2:Well (s.wrote p.1.toNat p.2):=⟨h.dn,h.ar⟩
  have hn:(s.wrote p.1.toNat p.2).now=s.now.set p.1.toNat p.2:=rfl
  have ho:(s.wrote p.1.toNat p.2).ops=s.ops+1:=rfl
  obtain ⟨a1,a2,a3,a4⟩:=ih h2 (fun q hq=>by rw [hn,List.length_set];exact hf q (List.mem_cons_of_mem _ hq))
  exact ⟨a1,a2,by rw [a3,hn];rfl,by rw [a4,ho,List.length_cons];omega⟩
theorem Well.putf {s:Dk} (h:Well s) {l:List (Int×List Nat)} (hf:FitW s.now.length l):(s.putf l).2=0∧Well (s.putf l).1∧(s.putf l).1.now=setAll s.now l∧(s.putf l).1.ops=s.ops+l.length+1:=by
 obtain ⟨a1,a2,a3,a4⟩:=h.puts hf
 rw [putf_go a1]
 have e:(s.puts l).1.flush=((s.puts l).1.flushed,0):=by
  unfold Dk.flush
  rw [if_neg (by rw [a2.dn];simp),if_neg (by unfold Dk.due;rw [a2.ar];simp)]
 rw [e]
 exact ⟨rfl,⟨a2.dn,a2.ar⟩,a3,by show (s.puts l).1.ops+1=_;rw [a4]⟩
theorem logs_fit {s:Dk} {l:List (Int×List Nat)} (hm:0<s.many) (hg:∀ p∈l,GoodJ s.many p) (hn:l.length≤150):FitW s.now.length (logD l ++ logS l):=fun p hp=>by
 have h158:158≤s.now.length:=by unfold Dk.many at hm;omega
 have hs:sheetsN l.length≤5:=by unfold sheetsN;omega
 rcases List.mem_append.1 hp with hp | hp
 ·obtain ⟨i,hi,rfl⟩:=List.mem_mapIdx.1 hp
  refine ⟨by dsimp only;omega,by dsimp only;omega,(hg _ (List.getElem_mem hi)).2.2⟩
 ·obtain ⟨t,ht,rfl⟩:=List.mem_map.1 hp
  have:=List.mem_range.1 ht
  exact ⟨by dsimp only;omega,by dsimp only;omega,secOf_length _⟩
/-- All that a commit writes. -/
def commitW (l:List (Int×List Nat)):List (Int×List Nat):=(logD l ++ logS l) ++ ([(1,markB l.length)] ++ ((l.map fun p=>(157+p.1,p.2)) ++ [(1,zsec)]))
theorem Well.commit {s:Dk} (h:Well s) {l:List (Int×List Nat)} (hm:0<s.many) (hmay:mayJ s.many l=true) (h0:l≠[]) (hn:l.length≤150) :
  (s.commit l).2=0∧Well (s.commit l).1∧(s.commit l).1.now=setAll s.now (commitW l):=by
 have hg:=mayJ_good hmay
 have hml:s.now.length=s.many+157:=by unfold Dk.many at hm ⊢;omega
 obtain ⟨a1,a2,a3,_⟩:=h.putf (logs_fit hm hg hn)
 have e:s.commit l=((s.putf (logD l ++ logS l)).1.putf [(1,markB l.length)]).1.fin l∧((s.putf (logD l ++ logS l)).1.putf [(1,markB l.length)]).2=0:=by
  have hb:=a2.putf (l:=[(1,markB l.length)]) (fun p hp=>by
   rw [List.mem_singleton.1 hp,a3,setAll_length]
   exact ⟨by omega,by dsimp only;omega,secOf_length _⟩)
  refine ⟨?_,hb.1⟩
  unfold Dk.commit
  rw [if_pos hmay,if_neg (by omega),if_neg h0,if_pos a1,if_pos hb.1]
 obtain ⟨b1,b2,b3,_⟩:=a2.putf (l:=[(1,markB l.length)]) (fun p hp=>by
  rw [List.mem_singleton.1 hp,a3,setAll_length]
  exact ⟨by omega,by dsimp only;omega,secOf_length _⟩)
 rw [e.1]
 generalize (s.putf (logD l ++ logS l)).1.putf [(1,markB l.length)]=q at *
 obtain ⟨s2,e2⟩:=q
 dsimp only at *
 have hl2:s2.now.length=s.now.length:=by rw [b3,setAll_length,a3,setAll_length]
 obtain ⟨c1,c2,c3,_⟩:=b2.putf (l:=l.map fun p=>(157+p.1,p.2)) (fun p hp=>by
  obtain ⟨q,hq,rfl⟩:=List.mem_map.1 hp
  have:=hg q hq
  have g1:=this.1
  have g2:=this.2.1
  rw [hl2]
  exact ⟨by dsimp only;omega,by dsimp only;omega,this.2.2⟩)
 obtain ⟨d1,d2,d3,_⟩:=c2.putf (l:=[(1,zsec)]) (fun p hp=>by
  rw [List.mem_singleton.1 hp,c3,setAll_length,hl2]
  exact ⟨by omega,by dsimp only;omega,zsec_len⟩)
 unfold Dk.fin
 rw [if_pos c1]
 refine ⟨d1,d2,?_⟩
 simp only [d3,c3,b3,a3,commitW,setAll_append]
/-- Places behind a commit; the first sector; the mark. -/
theorem commitW_place {a:List (List Nat)} {l:List (Int×List Nat)} {k:Nat} {p:Int×List Nat} (hk:l[k]?=some p) (hp:0≤p.1∧157+p.1<(a.length:Int)) (hpos:∀ q∈l,0≤q.1) (hnd:(l.map (·.1)).Nodup):(setAll a (commitW l)).getD (157+p.1).toNat []=p.2:=by
 have e:commitW l=((logD l ++ logS l) ++ ([(1,markB l.length)] ++ (l.take k).map fun p=>(157+p.1,p.2))) ++ (157+p.1,p.2) :: (((l.drop (k+1)).map fun p=>(157+p.1,p.2)) ++ [(1,zsec)]):=by
  unfold commitW
  conv=>lhs;rw [show (l.map fun p:Int×List Nat=>(157+p.1,p.2))=((l.take k ++ p :: l.drop (k+1)).map fun p:Int×List Nat=>(157+p.1,p.2)) by rw [←split_at hk]]
  simp [List.map_append]
 rw [e]
 refine setAll_on (p:=(157+p.1,p.2)) (by dsimp only;omega) fun q hq=>?_
 rcases List.mem_append.1 hq with hq | hq
 ·obtain ⟨q',hq',rfl⟩:=List.mem_map.1 hq
  have h1:=hpos q' (List.mem_of_mem_drop hq')
  have hne:q'.1≠p.1:=fun h=>by
   rw [split_at hk,List.map_append,List.map_cons,List.nodup_append,List.nodup_cons] at hnd
   exact hnd.2.1.1 (h ▸ List.mem_map_of_mem hq')
  dsimp only
  omega
 ·rw [List.mem_singleton.1 hq]
  dsimp only
  omega
theorem commitW_zero {a:List (List Nat)} {l:List (Int×List Nat)} (hpos:∀ q∈l,0≤q.1):(setAll a (commitW l)).getD 0 []=a.getD 0 []:=setAll_off fun p hp=>by
 unfold commitW at hp
 rcases List.mem_append.1 hp with hp | hp
 ·rcases List.mem_append.1 hp with hp | hp
  ·obtain ⟨i,hi,rfl⟩:=List.mem_mapIdx.1 hp
   dsimp only;omega
  ·obtain ⟨t,ht,rfl⟩:=List.mem_map.1 hp
   dsimp only;omega
 ·rcases List.mem_append.1 hp with hp | hp
  ·rw [List.mem_singleton.1 hp];simp
  ·rcases List.mem_append.1 hp with hp | hp
   ·obtain ⟨q,hq,rfl⟩:=List.mem_map.1 hp
    have:=hpos q hq
    dsimp only;omega
   ·rw [List.mem_singleton.1 hp];simp
theorem commitW_mark {a:List (List Nat)} {l:List (Int×List Nat)} (ha:1<a.length):(setAll a (commitW l)).getD 1 []=zsec:=by
 unfold commitW
 rw [←List.append_assoc,←List.append_assoc]
 exact setAll_on (p:=(1,zsec)) (r:=[]) ha (fun q hq=>by cases hq)
/-! A new disk, made one of ours. -/
theorem format_fit {n:Nat} (hn:158≤n):FitW n (formW n):=fun p hp=>by
 unfold formW at hp
 rcases List.mem_cons.1 hp with rfl | hp
 ·exact ⟨by omega,by dsimp only;omega,apst_len⟩
 rcases List.mem_cons.1 hp with rfl | hp
 ·exact ⟨by omega,by dsimp only;omega,zsec_len⟩
 obtain ⟨i,hi,rfl⟩:=List.mem_map.1 hp
 have:=List.mem_range.1 hi
 exact ⟨by dsimp only;omega,by dsimp only;omega,zsec_len⟩
theorem Well.format {s:Dk} (h:Well s) (hn:158≤s.now.length):s.format.2=0∧Well s.format.1∧s.format.1.now=setAll s.now (formW s.now.length):=by
 unfold Dk.format
 rw [if_neg (by unfold Dk.many;omega)]
 obtain ⟨a1,a2,a3,_⟩:=h.putf (format_fit hn)
 exact ⟨a1,a2,a3⟩
theorem well_fresh (n:Nat):Well (fresh n):=⟨rfl,rfl⟩
theorem formW_zero {a:List (List Nat)} {n:Nat} (ha:0<a.length):(setAll a (formW n)).getD 0 []=apstB:=by
 unfold formW
 exact setAll_on (l:=[]) (p:=(0,apstB)) ha fun q hq=>by
  rcases List.mem_cons.1 hq with rfl | hq
  ·decide
  ·obtain ⟨i,_,rfl⟩:=List.mem_map.1 hq
   dsimp only;omega
theorem formW_mark {a:List (List Nat)} {n:Nat} (ha:1<a.length):(setAll a (formW n)).getD 1 []=zsec:=by
 unfold formW
 exact setAll_on (l:=[(0,apstB)]) (p:=(1,zsec)) ha fun q hq=>by
  obtain ⟨i,_,rfl⟩:=List.mem_map.1 hq
  dsimp only;omega
theorem formW_place {a:List (List Nat)} {n i:Nat} (ha:a.length=n) (hi:157+i<n):(setAll a (formW n)).getD (157+i) []=zsec:=by
 have e:formW n=((0,apstB) :: (1,zsec) :: (List.range i).map fun i:Nat=>(((157+i:Nat):Int),zsec)) ++ (((157+i:Nat):Int),zsec) :: ((List.range (n - 157 - i - 1)).map fun j:Nat=>(((157+(i+1+j):Nat):Int),zsec)):=by
  unfold formW
  rw [show n - 157=i+(1+(n - 157 - i - 1)) by omega,List.range_add,List.map_append,List.range_add,List.map_append]
  simp [List.map_map,Function.comp_def]
  intro j hj
  omega
 rw [e]
 have h:=setAll_on (a:=a) (l:=(0,apstB) :: (1,zsec) :: (List.range i).map fun i:Nat=>(((157+i:Nat):Int),zsec)) (p:=(((157+i:Nat):Int),zsec)) (r:=(List.range (n - 157 - i - 1)).map fun j:Nat=>(((157+(i+1+j):Nat):Int),zsec)) (by dsimp only;omega) (fun q hq=>by
  obtain ⟨j,_,rfl⟩:=List.mem_map.1 hq
  dsimp only;omega)
 dsimp only at h
 rw [Int.toNat_natCast] at h
 exact h
end Go.Proofs.YtnedpkhehiijhaaGreat
namespace Go.Proofs.YtnedpkhehiijhaaGreat
open Go.RowKit Go.Shelf
set_option linter.unusedVariables false
set_option linter.unusedSimpArgs false

/-- A row of writes with all blocks from B on. -/
structure RdWrG (B:Nat) (A:Option Addr) (c:Nat) (l:List Wr) (w:World):Prop where
 rd:RdWr A c l w
 row:0<l.length→∀ b o,A=some ⟨b,o,none⟩→B≤b
 dat:∀ j,j<l.length→0<(l.getD j default).d.length→∀ b o,(l.getD j default).da=some ⟨b,o,none⟩→B≤b
theorem cell_same {w w':World} {b:Nat} (h:w'.heap[b]?=w.heap[b]?) (o:Nat):w'.cell? ⟨b,o,none⟩=w.cell? ⟨b,o,none⟩:=by simp only [World.cell?];rw [h]
theorem RdWrG.off {B:Nat} {A:Option Addr} {c:Nat} {l:List Wr} {w:World} {F:Nat→Prop} (h:RdWrG B A c l w) (hF:∀ k,F k→k<B):OffF F (RdWr A c l) w:=fun w' hs hk=>by
 have hb:∀ g,B≤g→g<w.heap.size→w'.heap[g]?=w.heap[g]?:=fun g h1 h2=>hk g (fun h3=>by have:=hF g h3;omega) h2
 refine ⟨h.rd.1,h.rd.2.1,fun j hj=>?_,fun hn=>?_⟩
 ·have hr:=h.rd.2.2.1 j hj
  refine ⟨hr.1,hr.2.1,fun hn=>?_⟩
  obtain ⟨b,off,e,hlt,hc⟩:=hr.2.2 hn
  exact ⟨b,off,e,by omega,fun i hi=>(cell_same (hb b (h.dat j hj hn b off e) hlt) _).trans (hc i hi)⟩
 ·obtain ⟨b,off,e,hlt,hc⟩:=h.rd.2.2.2 hn
  have hbb:=hb b (h.row hn b off e) hlt
  exact ⟨b,off,e,by omega,fun j hj=>⟨(cell_same hbb _).trans (hc j hj).1,(cell_same hbb _).trans (hc j hj).2⟩⟩
def wrCells (x:Wr):List Value:=[.int .i64 x.at_,.slice x.da x.d.length x.dc]
theorem RdWrG.made {V:World} {B:Nat} (hB:B≤V.heap.size) (l:List Wr) (hl:∀ x∈l,Rd .u8 V V.heap.size x.da x.dc x.d∧∀ b o,x.da=some ⟨b,o,none⟩→B≤b) (hn:l.length≤1000) (cs:Array Value) (hcs:cs=(l.flatMap wrCells).toArray) (T:TypeId) (fr:Nat×Nat) :
  RdWrG B (some ⟨V.heap.size,0,none⟩) l.length l (V.alloc (.cells cs T fr)):=by
 have hm:∀ j,j<l.length→l.getD j default∈l:=fun j hj=>by
  rw [show l.getD j default=l[j] by simp [List.getD,hj]]
  exact List.getElem_mem hj
 refine ⟨⟨Nat.le_refl _,by omega,fun j hj=>((hl _ (hm j hj)).1.alloc (Nat.le_refl _) _).more (by simp),fun hn=>⟨V.heap.size,0,rfl,by simp,fun j hj=>?_⟩⟩,fun _ b o e=>by cases e;exact hB,fun j hj _ b o e=>(hl _ (hm j hj)).2 b o e⟩
 have hx:l[j]?=some (l.getD j default):=by simp [List.getD,hj]
 have hc:∀ i,(V.alloc (.cells cs T fr)).cell? ⟨V.heap.size,i,none⟩=(l.flatMap wrCells)[i]?:=fun i=>by
  rw [cell_of_row _ _ _ _ T fr (heap_alloc_new V _),hcs,List.getElem?_toArray]
 have hf:=fun i (hi:i<2)=>flat_at (f:=wrCells) (m:=2) (L:=l) (fun _ _=>rfl) (i:=j) (j:=i) hx hi
 refine ⟨?_,?_⟩
 ·rw [hc,show 0+j*2=2*j+0 by omega,hf 0 (by omega)];rfl
 ·rw [hc,show 0+j*2+1=2*j+1 by omega,hf 1 (by omega)];rfl
def secX:List Nat:=secOf [120]
def kS1:Dk:=(fresh 165).format.1
def kS2:Dk:=(kS1.commit [(3,secX)]).1
end Go.Proofs.YtnedpkhehiijhaaGreat
namespace Go.Proofs.YtnedpkhehiijhaaGreat
open Go.RowKit Go.Shelf
set_option linter.unusedVariables false
set_option linter.unusedSimpArgs false
attribute [local go_sem ↓] Go.wp_at_zero Go.wp_at_succ

theorem DJ.low {w:World} {F:Nat→Prop} {gd:Nat} {s:Dk} (h:Disk w F gd s):DJ w (fun k=>F k∧k<w.heap.size) gd s w:=DJ.start h.low
end Go.Proofs.YtnedpkhehiijhaaGreat
namespace Go.Proofs.YtnedpkhehiijhaaGreat
open Go.RowKit Go.Shelf
set_option linter.unusedVariables false
set_option linter.unusedSimpArgs false

/-- A row of writes that grows, behind V; what it tells lies from B on. -/
structure Wrs (V W:World) (B:Nat) (A:Option Addr) (c:Nat) (l:List Wr):Prop where
 own:OwnV 132 2 W A c l.length (l.flatMap wrCells)
 dat:∀ x∈l,Rd .u8 W W.heap.size x.da x.dc x.d∧∀ b o,x.da=some ⟨b,o,none⟩→B≤b∧b<W.heap.size∧blockOf A≠some b
 blk:∀ g,blockOf A=some g→V.heap.size≤g
 bel:Below V.heap.size V W
section
variable {V W W':World} {B:Nat} {A:Option Addr} {c:Nat} {l:List Wr}
theorem Wrs.nil (V:World) (B:Nat):Wrs V V B none 0 []:=⟨OwnV.nil _ _ _,(fun x hx=>by cases hx),(fun g hg=>by simp [blockOf] at hg),Below.refl _ _⟩
theorem Wrs.under (h:Wrs V W B A c l) (hb:Below W.heap.size W W'):Wrs V W' B A c l :=
 ⟨h.own.keep fun g _ hg=>hb.block g hg,fun x hx=>⟨((h.dat x hx).1.under hb).more hb.size,fun b o e=>by
  have:=(h.dat x hx).2 b o e
  exact ⟨this.1,Nat.lt_of_lt_of_le this.2.1 hb.size,this.2.2⟩⟩,h.blk,h.bel.trans (hb.mono h.bel.size)⟩
theorem Wrs.push {W3 W9:World} {x:Wr} {g9 c9:Nat} (h:Wrs V W3 B A c l) (hx:Rd .u8 W3 W3.heap.size x.da x.dc x.d∧∀ b o,x.da=some ⟨b,o,none⟩→B≤b∧b<W3.heap.size∧blockOf A≠some b)
  (ho:OwnV 132 2 W9 (some ⟨g9,0,none⟩) c9 (l.length+1) (l.flatMap wrCells ++ wrCells x)) (hgr:W3.grownBy W9 (blockOf A)) (hat:blockOf A=some g9∨g9=W3.heap.size) :
  Wrs V W9 B (some ⟨g9,0,none⟩) c9 (l ++ [x]):=by
 have hk:∀ b,b<W3.heap.size→blockOf A≠some b→W9.heap[b]?=W3.heap[b]?:=fun b hb hne=>hgr.block b hb fun e=>hne e.symm
 have hd:∀ y:Wr,(Rd .u8 W3 W3.heap.size y.da y.dc y.d∧∀ b o,y.da=some ⟨b,o,none⟩→B≤b∧b<W3.heap.size∧blockOf A≠some b)→Rd .u8 W9 W9.heap.size y.da y.dc y.d∧∀ b o,y.da=some ⟨b,o,none⟩→B≤b∧b<W9.heap.size∧blockOf (some (⟨g9,0,none⟩:Addr))≠some b:=fun y hy=>by
  refine ⟨⟨hy.1.1,hy.1.2.1,fun hn=>?_⟩,fun b o e=>?_⟩
  ·obtain ⟨b,off,e,hlt,hc⟩:=hy.1.2.2 hn
   exact ⟨b,off,e,Nat.lt_of_lt_of_le hlt hgr.size,fun j hj=>(cell_same (hk b hlt ((hy.2 b off e).2.2)) _).trans (hc j hj)⟩
  ·have:=hy.2 b o e
   refine ⟨this.1,Nat.lt_of_lt_of_le this.2.1 hgr.size,fun e2=>?_⟩
   have e3:g9=b:=by simpa [blockOf] using e2
   subst e3
   rcases hat with h1 | h1
   ·exact this.2.2 h1
   ·omega
 refine ⟨by rw [List.length_append,List.flatMap_append];simpa using ho,fun y hy=>?_,fun g hg=>?_,h.bel.trans ⟨hgr.os,hgr.tape,hgr.output,hgr.size,fun b hb=>hk b (Nat.lt_of_lt_of_le hb h.bel.size) fun e=>by have:=h.blk b e;omega⟩⟩
 ·rcases List.mem_append.1 hy with hy | hy
  ·exact hd y (h.dat y hy)
  ·rw [List.mem_singleton.1 hy]
   exact hd x hx
 ·have e:g9=g:=by simpa [blockOf] using hg
  subst e
  rcases hat with h1 | h1
  ·exact h.blk _ h1
  ·have:=h.bel.size
   omega
theorem Wrs.rd (h:Wrs V W B A c l) (hB:B≤V.heap.size):RdWrG B A c l W:=by
 have hm:∀ j,j<l.length→l.getD j default∈l:=fun j hj=>by
  rw [show l.getD j default=l[j] by simp [List.getD,hj]]
  exact List.getElem_mem hj
 have hx:∀ j,j<l.length→l[j]?=some (l.getD j default):=fun j hj=>by simp [List.getD,hj]
 have hf:=fun j (hj:j<l.length) i (hi:i<2)=>flat_at (f:=wrCells) (m:=2) (L:=l) (fun _ _=>rfl) (i:=j) (j:=i) (hx j hj) hi
 refine ⟨⟨h.own.le.1,h.own.le.2,fun j hj=>(h.dat _ (hm j hj)).1,fun hn=>?_⟩,fun hn b o e=>Nat.le_trans hB (h.blk b (by rw [e];rfl)),fun j hj _ b o e=>((h.dat _ (hm j hj)).2 b o e).1⟩
 have h0:=hf 0 hn 0 (by omega)
 obtain ⟨g,hA,hlt,_,_⟩:=h.own.at_ (j:=0) (v:=.int .i64 (l.getD 0 default).at_) (by rw [show (0:Nat)=2*0+0 from rfl,h0];rfl)
 subst hA
 refine ⟨g,0,rfl,hlt,fun j hj=>⟨?_,?_⟩⟩
 ·obtain ⟨g',e,_,hc,_⟩:=h.own.at_ (j:=2*j+0) (v:=.int .i64 (l.getD j default).at_) (by rw [hf j hj 0 (by omega)];rfl)
  injection e with e
  injection e with e
  subst e
  rw [show 0+j*2=2*j+0 by omega]
  exact hc
 ·obtain ⟨g',e,_,hc,_⟩:=h.own.at_ (j:=2*j+1) (v:=.slice (l.getD j default).da (l.getD j default).d.length (l.getD j default).dc) (by rw [hf j hj 1 (by omega)];rfl)
  injection e with e
  injection e with e
  subst e
  rw [show 0+j*2+1=2*j+1 by omega]
  exact hc
end
end Go.Proofs.YtnedpkhehiijhaaGreat
namespace Go.Proofs.YtnedpkhehiijhaaGreat
open Go.RowKit Go.Shelf
set_option linter.unusedVariables false
set_option linter.unusedSimpArgs false
attribute [local go_sem ↓] Go.wp_at_zero Go.wp_at_succ

theorem fresh_len (n:Nat):(fresh n).now.length=n:=by simp [fresh]
def kM:Dk:=(fresh 400).format.1
def manyW (n:Nat):List (Int×List Nat):=(List.range n).map fun i:Nat=>((i:Int),secX)
end Go.Proofs.YtnedpkhehiijhaaGreat
namespace Go.Proofs.YtnedpkhehiijhaaGreat
open Go.RowKit Go.Shelf
set_option linter.unusedVariables false
set_option linter.unusedSimpArgs false
attribute [local go_sem ↓] Go.wp_at_zero Go.wp_at_succ

def secI (i:Nat):List Nat:=secOf [i,0,1]
def mostW (f n:Nat):List (Int×List Nat):=(List.range n).map fun i:Nat=>(((f+n - 1 - i:Nat):Int),secI i)
theorem RdWr.at2 {W:World} {b off c:Nat} {l:List Wr} (h:RdWr (some ⟨b,off,none⟩) c l W) {j:Nat} (hj:j<l.length) :
  W.cell? ⟨b,off+j*2,none⟩=some (.int .i64 (l.getD j default).at_)∧W.cell? ⟨b,off+j*2+1,none⟩=some (.slice (l.getD j default).da (l.getD j default).d.length (l.getD j default).dc)∧Rd .u8 W W.heap.size (l.getD j default).da (l.getD j default).dc (l.getD j default).d:=by
 obtain ⟨b',off',e,_,hc⟩:=h.2.2.2 (by omega)
 injection e with e
 injection e with e1 e2
 subst e1 e2
 exact ⟨(hc j hj).1,(hc j hj).2,h.2.2.1 j hj⟩

/-- The first j of the writes, their data at blocks o. -/
def mostR (f n:Nat) (o:Nat→Nat) (j:Nat):List Wr:=(List.range j).map fun i:Nat=>⟨((f+n - 1 - i:Nat):Int),some ⟨o i,0,none⟩,64,secI i⟩
end Go.Proofs.YtnedpkhehiijhaaGreat
namespace Go.Proofs.YtnedpkhehiijhaaGreat
open Go.RowKit Go.Shelf
set_option linter.unusedVariables false
set_option linter.unusedSimpArgs false

/-- An iterator whose element x is handed at a world where M x holds. -/
def StopsM {α:Type} (F:Fence) (n:Nat) (P:Program) (gf:Nat) (lb:Array Value) (encs:α→Array Value) (M:α→World→Prop) (Kp:World→World→Prop) (S Sp:List α→Prop) (N:Nat) (w:World):Prop :=
 ∀ (l:Nat) (J Jx:List α→World→Prop) (W:World),Below w.heap.size w W→AbidesFrom W.heap.size J→AbidesFrom W.heap.size Jx →
  (∀ pre x V,J pre V→M x V→pre.length<N→YieldAt F (n - 1) P l (encs x) V fun e V' =>
   (e = .returned (.bool true)∧J (pre ++ [x]) V'∧Kp V V')∨(e = .returned (.bool false)∧Jx (pre ++ [x]) V')) →
  J [] W →
  CallsIn F n P gf (#[.func (.yield l) #[] #[]] ++ lb) W fun e V'=>(∃ v,e = .returned v)∧((∃ xs,S xs∧J xs V')∨(∃ pre,Sp pre∧Jx pre V'))

section
variable {α:Type} {F:Fence} {n:Nat} {P:Program} {g:Operand} {ps:Array Tmp} {assign body:Code} {Q:Exit→Act→World→Prop} {a:Act} {w:World}
/-- The law's two blocks: the loop's record and the row of deferred calls. -/
structure Lp (w:World) (r:Loop) (W:World):Prop where
 lo:W.heap[w.heap.size+1]?=some (.loop r)
 de:W.heap[w.heap.size]?=some (.deferred (some []))
theorem Lp.turn {r:Loop} {W:World} (h:Lp w r W) (r':Loop):Lp w r' (W.putObj (w.heap.size+1) (.loop r')) :=
 ⟨World.putObj_heap_same (Array.getElem?_eq_some_iff.1 h.lo).1,(World.putObj_heap_other (by omega)).trans h.de⟩
theorem Lp.others {r:Loop} {W W':World} (h:Lp w r W) (hk:KeepsOthers W W'):Lp w r W':=⟨hk.same _ _ h.lo rfl,hk.same _ _ h.de rfl⟩
theorem Lp.walks {r:Loop} {W W':World} {row:Option Nat} (h:Lp w r W) (hg:W.grownBy W' row) (hr:∀ q,row=some q→∃ o:Obj,W.heap[q]?=some o∧o.isWalk=true):Lp w r W' :=
 ⟨(grownBy_keeps hg hr h.lo rfl).trans h.lo,(grownBy_keeps hg hr h.de rfl).trans h.de⟩

theorem rangeFuncM (hro:F.round=none) (h1:1≤n) {gf:Nat} {lb:Array Value} (hg:a.eval g = .func (.func gf) #[] lb) (hFg:F.fn gf) (eg:∀ args w,(callFunc gf args).run P w = .ok (.enter gf args) w)
  {encs:α→Array Value} {M:α→World→Prop} {Kp:World→World→Prop} {S Sp:List α→Prop} {N:Nat} (hseq:StopsM F (n - 1) P gf lb encs M Kp S Sp N w)
  (hKt:∀ {A B C:World},Kp A B→Kp B C→Kp A C) (hKb:∀ (W:World) (l:Nat) (o o':Obj),w.heap.size≤l→W.heap[l]?=some o→o.isCells=false→Kp W (W.putObj l o'))
  (hM:∀ (x:α) (W:World) (l:Nat) (o o':Obj),M x W→w.heap.size≤l→W.heap[l]?=some o→o.isCells=false→M x (W.putObj l o'))
  (hps:∀ x,(encs x).size=ps.size)
  (I:List α→World→Prop) (Ix:Code→List α→World→Prop) (hI:OwnFrom w.heap.size I) (hIx:∀ c,OwnFrom w.heap.size (Ix c)) (h0:I [] w) (a₁:α→Act)
  (hassign:∀ (l:Nat) (x:α) (W:World) (K:Act→World→Prop),K (a₁ x) W →
   assign.wpIn (F.inRound l) (n - 1 - 1) P (Exit.then K (fun _ _ _=>False)) { tmps:=(ps.zip (encs x)).foldl (fun t (p,v)=>t.setIfInBounds p v) a.tmps,defers:=[] } W)
  (hbody:∀ (l:Nat) (pre:List α) (x:α) (W:World),I pre W→M x W→pre.length<N→body.wpIn (F.inRound l) (n - 1 - 1) P (ownPostK Kp I Ix (pre ++ [x]) W) (a₁ x) W)
  (hdone:∀ (D:Nat) (xs:List α) (W:World),w.heap.size≤D→S xs→I xs W→W.heap[D]?=some (.deferred (some []))→Q .normal { a with defers:={ target:=.collected D,args:=#[] } :: a.defers } W)
  (hstop:∀ (D:Nat) (c:Code) (pre:List α) (W:World),w.heap.size≤D→Sp pre→Ix c pre W→W.heap[D]?=some (.deferred (some []))→c.wpIn F n P Q { a with defers:={ target:=.collected D,args:=#[] } :: a.defers } W) :
  (Code.rangeFunc g ps assign body).wpIn F n P Q a w:=by
 refine wpIn_rangeFunc fun fn hfn=>?_
 rw [hro]
 obtain ⟨r,hr⟩:∃ r:LoopState→Option Code→Loop,r=fun st pe=>⟨st,pe,fn,a.tmps,ps,assign,body,w.heap.size⟩:=⟨_,rfl⟩
 obtain ⟨U,hU⟩:∃ U,U=(w.alloc (.deferred (some []))).alloc (.loop (r .ready none)):=⟨_,rfl⟩
 have hsz:(w.alloc (.deferred (some []))).heap.size=w.heap.size+1:=by simp
 have hlp:Lp w (r .ready none) U:=⟨by
  have:=World.alloc_heap_new (w.alloc (.deferred (some []))) (.loop (r .ready none))
  rw [hsz,←hU] at this
  exact this,by
  rw [hU]
  exact (Below.heap_alloc _ _ _ (by omega)).trans (World.alloc_heap_new w _)⟩
 have hus:w.heap.size+2≤U.heap.size:=by rw [hU];simp
 have hbu:Below w.heap.size w U:=by rw [hU];exact ((Below.refl _ w).alloc (Nat.le_refl _) _).alloc (by simp) _
 have hiu:I [] U:=by rw [hU];exact hI.alloc _ (hI.alloc _ h0)
 have hown:∀ {A:World} {row:Option Nat},(∀ q,row=some q→U.heap.size≤q∧∃ o:Obj,A.heap[q]?=some o∧o.isWalk=true)→∀ q,row=some q→w.heap.size≤q∧∃ o:Obj,A.heap[q]?=some o∧o.isCells=false:=fun h q e=>by
  obtain ⟨h1,o,h2,h3⟩:=h q e
  exact ⟨by omega,o,h2,Obj.not_cells_of_walk h3⟩
 have hcall:=hseq (w.heap.size+1) (fun pre W=>I pre W∧Lp w (r .ready none) W) (fun pre W=>∃ c,Ix c pre W∧Lp w (r .done (some c)) W) U hbu
  (fun s A B row hs hgr hrow=>⟨hI s A B row hs.1 hgr (hown (A:=A) hrow),hs.2.walks hgr fun q e=>(hrow q e).2⟩)
  (fun s A B row ⟨c,hc,hl⟩ hgr hrow=>⟨c,hIx c s A B row hc hgr (hown (A:=A) hrow),hl.walks hgr fun q e=>(hrow q e).2⟩)
  (fun pre x V hj hm hlen=>by
   obtain ⟨hi,hl⟩:=hj
   have hy:=run_yield (P:=P) (args:=encs x) hl.lo (by rw [hr];exact hps x)
   rw [hr] at hy
   refine ⟨fn,_,assign,body,hy,roundIn_of_wpIn hfn (hassign _ x V _ ⟨_,run_beginRound hl.lo (by rw [hr]),?_⟩)⟩
   have hbusy:{ r .ready none with state:=.busy }=r .busy none:=by rw [hr]
   rw [hbusy]
   have hl2:=hl.turn (r .busy none)
   refine wpIn_mono (hbody _ pre x _ (hI.putObj _ hi (by omega) hl.lo rfl) (hM x V _ _ _ hm (by omega) hl.lo rfl) hlen) fun e a3 W3 hp=>?_
   have hend:∀ (j:Option Code),KeepsOthers (V.putObj (w.heap.size+1) (.loop (r .busy none))) W3→Lp w (r .busy none) W3∧(Instr.endRound (w.heap.size+1) j).run P W3 = .ok (.bool j.isNone) (W3.putObj (w.heap.size+1) (.loop (r (if j.isNone then .ready else .done) j))):=fun j hk=>by
    have h3:=hl2.others hk
    have:=run_endRound (P:=P) j h3.lo
    rw [hr] at this ⊢
    exact ⟨by rw [hr] at h3;exact h3,this⟩
   have hout:∀ c:Code,KeepsOthers (V.putObj (w.heap.size+1) (.loop (r .busy none))) W3→Ix c (pre ++ [x]) W3→∃ v W4,(Instr.endRound (w.heap.size+1) (some c)).run P W3 = .ok v W4∧v = .bool false∧∃ c,Ix c (pre ++ [x]) W4∧Lp w (r .done (some c)) W4:=fun c hk hx=>by
    obtain ⟨h3,h4⟩:=hend (some c) hk
    exact ⟨_,_,h4,rfl,c,(hIx c).putObj _ hx (by omega) h3.lo rfl,h3.turn _⟩
   cases e with
   | normal =>
    obtain ⟨hk,hkp,hi3⟩:=hp
    obtain ⟨h3,h4⟩:=hend none hk
    exact ⟨_,_,h4,.inl ⟨rfl,⟨hI.putObj _ hi3 (by omega) h3.lo rfl,h3.turn _⟩,hKt (hKt (hKb _ _ _ _ (by omega) hl.lo rfl) hkp) (hKb _ _ _ _ (by omega) h3.lo rfl)⟩⟩
   | ret=>obtain ⟨v,W4,h4,rfl,h5⟩:=hout _ hp.1 hp.2;exact ⟨_,_,h4,.inr ⟨rfl,h5⟩⟩
   | exit id=>obtain ⟨v,W4,h4,rfl,h5⟩:=hout _ hp.1 hp.2;exact ⟨_,_,h4,.inr ⟨rfl,h5⟩⟩
   | goto t=>obtain ⟨v,W4,h4,rfl,h5⟩:=hout _ hp.1 hp.2;exact ⟨_,_,h4,.inr ⟨rfl,h5⟩⟩
   | panic ch=>exact hp.elim
   | outgrown=>exact hp.elim)
  ⟨hiu,hlp⟩
 refine ⟨w.heap.size+1,[{ target:=.collected w.heap.size,args:=#[] }],U,{ target:=.fn (.func gf) lb,args:=#[.func (.yield (w.heap.size+1)) #[] #[]] },U,gf,#[.func (.yield (w.heap.size+1)) #[] #[]] ++ lb,U,
  ?_,?_,?_,?_,fun _=>h1,?_⟩
 ·rw [hU,hr]
  exact run_enterLoop_outer _ _ _ _ _
 ·simp only [resolve,hg]
  simp [go_sem]
 ·intro f' hf'
  simp [Target.leads] at hf'
  rw [←hf']
  exact hFg
 ·simp [invoke,go_sem,eg]
 ·refine hcall.mono ?_
  rintro e W2 ⟨⟨v,rfl⟩,h⟩
  rcases h with ⟨xs,hS,hi,hl⟩ | ⟨pre,hSp,c,hi,hl⟩
  ·have h5:=run_endLoop (P:=P) hl.lo (by rw [hr];simp)
   rw [hr] at h5
   exact ⟨none,_,h5,hdone _ xs _ (Nat.le_refl _) hS (hI.putObj _ hi (by omega) hl.lo rfl) ((World.putObj_heap_other (by omega)).trans hl.de)⟩
  ·have h5:=run_endLoop (P:=P) hl.lo (by rw [hr];simp)
   rw [hr] at h5
   exact ⟨some c,_,h5,hstop _ c pre _ (Nat.le_refl _) hSp ((hIx c).putObj _ hi (by omega) hl.lo rfl) ((World.putObj_heap_other (by omega)).trans hl.de)⟩
end
end Go.Proofs.YtnedpkhehiijhaaGreat
