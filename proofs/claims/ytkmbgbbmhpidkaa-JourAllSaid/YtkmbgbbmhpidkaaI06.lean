/- Words and laws for the statement, part 6. -/
import Derived.Test.YtkmbgbbmhpidkaaI03
import Derived.Test.YtkmbgbbmhpidkaaI05
namespace Go.Proofs.Ytkmbgbbmhpidkaa
open Go.RowKit Go.Shelf
set_option linter.unusedVariables false
set_option linter.unusedSimpArgs false
attribute [local go_sem ↓] Go.wp_at_zero Go.wp_at_succ

theorem DJ.low {w:World} {F:Nat→Prop} {gd:Nat} {s:Dk} (h:Disk w F gd s):DJ w (fun k=>F k∧k<w.heap.size) gd s w:=DJ.start h.low
theorem secX_len:secX.length=64:=secOf_length _
theorem secX_oct:∀ x∈secX,x<256:=secOf_oct fun x hx=>by simp at hx;omega
/-- A place of a disk that is there. -/
theorem dj_read {w W:World} {F:Nat→Prop} {gd:Nat} {s:Dk} (h:DJ w F gd s W) (i:Int) {m:Nat} (hm:s.many=m) {x:List Nat} (hi:(if 0≤i∧i<(m:Int) then s.read (157+i) else [])=x) :
  Calls Try.prog 29 #[.pointer (some ⟨gd,0,none⟩),.int .i64 i] W fun e w'=>∃ A c,e = .returned (.slice A x.length c)∧Rd .u8 w' w'.heap.size A c x∧Below W.heap.size W w':=by
 subst hm
 rw [←hi]
 exact (jread h.1 i).mono fun e w' ⟨A,n,c,he,hn,hr,hb⟩=>⟨A,c,by rw [hn];exact he,hr,hb⟩

set_option maxRecDepth 100000 in
set_option maxHeartbeats 4000000 in
theorem known2_any (w:World):Calls Try.prog 26 #[] w fun e w'=>e = .returned (.bool true)∧Below w.heap.size w w':=by
 obtain ⟨f1,f2,f3,f4,f5,f6,f7,f8,f9⟩:=kS_facts
 have HF1:=Lib.hid f1
 have HF2:=Lib.hid f2
 have HXL:=Lib.hid secX_len
 have HXO:=Lib.hid secX_oct
 obtain ⟨z1,hz1⟩:∃ z,z=str secX:=⟨_,rfl⟩
 have HZ1:=Lib.hid hz1
 have hnew:=new_yes w 165 (by omega) (by omega)
 rw [show ((165:Nat):Int)=165 from rfl] at hnew
 have HNEW:=Lib.hid hnew
 have HKO:=Lib.hid (And.intro f3 (And.intro f4 (And.intro f5 (And.intro f6 (And.intro f7 (And.intro f8 f9))))))
 clear hnew f1 f2 f3 f4 f5 f6 f7 f8 f9 hz1
 go_enter Try.func26,Try.ntmps26
 go_wp2_with fail
 refine HNEW.out.mono ?_
 rintro e w1 ⟨gd,rfl,hd1,hb1⟩
 have HB1:=Lib.hid hb1
 have HD1:=Lib.hid hd1
 clear hd1 hb1 HNEW
 go_wp2_with fail
 refine (format_any HD1.out (by simp [fresh]) (by simp [fresh])).mono ?_
 rintro e w2 ⟨rfl,hd2⟩
 rw [HF1.out]
 have HB2:=Lib.hid (HB1.out.trans ((hd2.2.below (B:=w.heap.size) (fun k hk=>hk.1) HB1.out.size)))
 obtain ⟨F2,hL2,hF2⟩:∃ F2:Nat→Prop,Disk w2 F2 gd kS1∧∀ k,F2 k→w.heap.size≤k∧k<w2.heap.size:=⟨_,hd2.1.low,fun k hk=>⟨by have:=HB1.out.size;rcases hk.1 with h | h;exact h.1;omega,hk.2⟩⟩
 have HL2:=Lib.hid hL2
 have HF:=Lib.hid hF2
 clear hL2 hF2
 clear hd2 HD1 HB1
 obtain ⟨wm,hcv,hm,hc,hsm⟩:=run_mark (w2.alloc (.cells #[Value.int .u8 120] 5)) w2.heap.size #[Value.int .u8 120] 1 1 (Holds.fresh _ _ _)
 have HRM:Hid (Rd .u8 wm wm.heap.size (some ⟨w2.heap.size,0,none⟩) 1 [120]):=Lib.hid (rd_marked (Holds.fresh _ _ _) hc hsm)
 have HBM2:Hid (Below w2.heap.size w2 wm):=Lib.hid (((Below.refl _ w2).alloc (Nat.le_refl _) _).trans hm)
 have HBM:=Lib.hid (HB2.out.trans (HBM2.out.mono HB2.out.size))
 go_wp2_with fail
 refine (sectorR wm _ 1 1 [120] rfl HRM.out).mono ?_
 rintro e w3 ⟨rfl,_,hr3,hb3⟩
 have HB3:=Lib.hid (HBM.out.trans (hb3.mono HBM.out.size))
 have HB32:=Lib.hid (HBM2.out.trans (hb3.mono HBM2.out.size))
 have HR3:=Lib.hid hr3
 have HSM:=Lib.hid hsm
 clear hb3 hr3 hcv hm hc hsm
 have HG:=Lib.hid (RdWrG.made (V:=w3) (B:=w2.heap.size) HB32.out.size [⟨3,some ⟨wm.heap.size,0,none⟩,64,secX⟩] (fun x hx=>by
  obtain rfl:=List.mem_singleton.1 hx
  exact ⟨HR3.out,fun b o e=>by cases e;exact HBM2.out.size⟩) (by simp) #[.int .i64 3,.slice (some ⟨wm.heap.size,0,none⟩) 64 64] rfl 42 (0,0))
 have HD3:Hid (Disk (w3.alloc (.cells #[.int .i64 3,.slice (some ⟨wm.heap.size,0,none⟩) 64 64] 42 (0,0))) F2 gd kS1):=Lib.hid (HL2.out.keep (Only.of_below (F:=fun _=>False) (HB32.out.alloc HB32.out.size _)) (fun _ _ e=>e))
 have HB4:=Lib.hid (HB3.out.alloc HB3.out.size (.cells #[.int .i64 3,.slice (some ⟨wm.heap.size,0,none⟩) 64 64] 42 (0,0)))
 clear HL2 HRM HBM HBM2
 have HCM:=Lib.hid (commit_any HD3.out (some ⟨w3.heap.size,0,none⟩) 1 1 [⟨3,some ⟨wm.heap.size,0,none⟩,64,secX⟩] rfl (HG.out.off fun k hk=>(HF.out k hk).2) (by omega) HKO.out.2.2.2.2.2.1 HKO.out.2.2.2.2.2.2)
 have hwv:wv [⟨3,some ⟨wm.heap.size,0,none⟩,64,secX⟩]=[(3,secX)]:=rfl
 rw [hwv,HF2.out] at HCM
 clear hwv HG
 go_wp2_with fail
 refine HCM.out.mono ?_
 rintro e w4 ⟨rfl,hd4⟩
 have HB5:=Lib.hid (HB4.out.trans (hd4.2.below (B:=w.heap.size) (fun k hk=>(HF.out k hk).1) HB4.out.size))
 have HD4:Hid (Disk w4 _ gd kS2):=Lib.hid hd4.1
 have HBX:Hid (w.heap.size≤w3.heap.size+1):=Lib.hid (by have:=HB3.out.size;omega)
 clear hd4 HCM HD3 HB4 HB3 HB32
 go_wp2_with fail
 refine (open_none HD4.out HKO.out.1 (by rw [HKO.out.2.1];omega) HKO.out.2.2.1 HKO.out.2.2.2.1).mono ?_
 rintro e w5 ⟨rfl,hd5⟩
 have hb5:=hd5.2
 have HB6:=Lib.hid (HB5.out.trans (hd5.2.below (B:=w.heap.size) (fun k hk=>by rcases hk with h | h;exact (HF.out k h).1;exact Nat.le_trans (by simpa using HBX.out) h.1) HB5.out.size))
 have HRD:Hid (∀ W,Below w5.heap.size w5 W→Calls Try.prog 29 #[.pointer (some ⟨gd,0,none⟩),.int .i64 3] W fun e w'=>∃ A c,e = .returned (.slice A 64 c)∧Rd .u8 w' w'.heap.size A c secX∧Below W.heap.size W w'):=Lib.hid fun W hW=>by
  have:=dj_read (hd5.below hW) 3 HKO.out.2.1 (x:=secX) (by rw [if_pos (by omega)];exact HKO.out.2.2.2.2.1)
  rw [secX_len] at this
  exact this
 have HMN:Hid (∀ W,Below w5.heap.size w5 W→Calls Try.prog 28 #[.pointer (some ⟨gd,0,none⟩)] W fun e w'=>e = .returned (.int .i64 8)∧W=w'):=Lib.hid fun W hW=>by
  have:=jmany (hd5.below hW).1
  rw [HKO.out.2.1] at this
  exact this
 have HRN:Hid (∀ W,Below w5.heap.size w5 W→Calls Try.prog 29 #[.pointer (some ⟨gd,0,none⟩),.int .i64 8] W fun e w'=>∃ A c,e = .returned (.slice A 0 c)∧Below W.heap.size W w'):=Lib.hid fun W hW=>by
  have:=dj_read (hd5.below hW) 8 HKO.out.2.1 (x:=[]) (by rw [if_neg (by omega)])
  exact this.mono fun e w' ⟨A,c,he,_,hb⟩=>⟨A,c,he,hb⟩
 clear hd5 hb5 HB5 HD4 HF HF1 HF2 HB2 HR3 HSM HBX
 have HB5:=HB6
 clear HB6
 go_wp2_with fail
 refine wp_region_noPanic ?_
 refine wp_region_held_drew (S:=fun _=>True) (by kernel_rfl) trivial (fun hHeld=>?_)
 obtain ⟨wa,hwa⟩:∃ W,W=w5.drew:=⟨_,rfl⟩
 rw [←hwa]
 have HQa:Hid (Below w5.heap.size w5 wa):=Lib.hid (by rw [hwa];exact (Below.refl _ _).drew)
 clear hwa
 replace hHeld:True:=trivial
 refine wpAnyH_take (i:=0) (oi:={ dst:=some 17,op:=Op.move (Operand.tmp 2),type:=33,pos:=_,after:=_,guard:=none }) (v:=?_) rfl (by kernel_rfl) (by kernel_rfl) (by kernel_rfl) (fun _ _ _ h=>h) (Or.inl ⟨by rfl,?_⟩) hHeld ?_
 rotate_left 1
 ·(intro W hW;(try dsimp only at hW);go_simp;try with_reducible rfl)
 try simp only [Act.put,List.setIfInBounds_toArray,List.set_cons_zero,List.set_cons_succ]
 refine wpAnyH_take (i:=1) (oi:={ dst:=some 18,op:=Op.binOp BinOp.eql 33 (Operand.tmp 17) (Operand.const (Value.int IntKind.i64 0)) 33,type:=4,pos:=_,after:=_,guard:=none }) (v:=?_) rfl (by kernel_rfl) (by kernel_rfl) (by kernel_rfl) (fun _ _ _ h=>h) (Or.inl ⟨by rfl,?_⟩) hHeld ?_
 rotate_left 1
 ·(intro W hW;(try dsimp only at hW);go_simp;try with_reducible rfl)
 try simp only [Act.put,List.setIfInBounds_toArray,List.set_cons_zero,List.set_cons_succ]
 refine wpAnyH_take (i:=2) (oi:={ dst:=some 19,op:=Op.move (Operand.tmp 18),type:=4,pos:=_,after:=_,guard:=none }) (v:=?_) rfl (by kernel_rfl) (by kernel_rfl) (by kernel_rfl) (fun _ _ _ h=>h) (Or.inl ⟨by rfl,?_⟩) hHeld ?_
 rotate_left 1
 ·(intro W hW;(try dsimp only at hW);go_simp;try with_reducible rfl)
 try simp only [Act.put,List.setIfInBounds_toArray,List.set_cons_zero,List.set_cons_succ]
 refine wpAnyH_take (i:=3) (oi:={ dst:=some 20,op:=Op.move (Operand.tmp 3),type:=33,pos:=_,after:=_,guard:=some (2,true) }) (v:=?_) rfl (by kernel_rfl) (by kernel_rfl) (by kernel_rfl) (fun _ _ _ h=>h) (Or.inl ⟨by rfl,?_⟩) hHeld ?_
 rotate_left 1
 ·(intro W hW;(try dsimp only at hW);go_simp;try with_reducible rfl)
 try simp only [Act.put,List.setIfInBounds_toArray,List.set_cons_zero,List.set_cons_succ]
 refine wpAnyH_take (i:=4) (oi:={ dst:=some 21,op:=Op.binOp BinOp.eql 33 (Operand.tmp 20) (Operand.const (Value.int IntKind.i64 0)) 33,type:=4,pos:=_,after:=_,guard:=some (2,true) }) (v:=?_) rfl (by kernel_rfl) (by kernel_rfl) (by kernel_rfl) (fun _ _ _ h=>h) (Or.inl ⟨by rfl,?_⟩) hHeld ?_
 rotate_left 1
 ·(intro W hW;(try dsimp only at hW);go_simp;try with_reducible rfl)
 try simp only [Act.put,List.setIfInBounds_toArray,List.set_cons_zero,List.set_cons_succ]
 refine wpAnyH_take (i:=5) (oi:={ dst:=some 22,op:=Op.pick (Operand.tmp 19) (Operand.tmp 21) (Operand.const (Value.bool false)),type:=4,pos:=_,after:=_,guard:=none }) (v:=?_) rfl (by kernel_rfl) (by kernel_rfl) (by kernel_rfl) (fun _ _ _ h=>h) (Or.inl ⟨by rfl,?_⟩) hHeld ?_
 rotate_left 1
 ·(intro W hW;(try dsimp only at hW);go_simp;try with_reducible rfl)
 try simp only [Act.put,List.setIfInBounds_toArray,List.set_cons_zero,List.set_cons_succ]
 refine wpAnyH_take (i:=6) (oi:={ dst:=some 23,op:=Op.move (Operand.tmp 22),type:=4,pos:=_,after:=_,guard:=none }) (v:=?_) rfl (by kernel_rfl) (by kernel_rfl) (by kernel_rfl) (fun _ _ _ h=>h) (Or.inl ⟨by rfl,?_⟩) hHeld ?_
 rotate_left 1
 ·(intro W hW;(try dsimp only at hW);go_simp;try with_reducible rfl)
 try simp only [Act.put,List.setIfInBounds_toArray,List.set_cons_zero,List.set_cons_succ]
 refine wpAnyH_take (i:=7) (oi:={ dst:=some 24,op:=Op.move (Operand.tmp 4),type:=33,pos:=_,after:=_,guard:=some (6,true) }) (v:=?_) rfl (by kernel_rfl) (by kernel_rfl) (by kernel_rfl) (fun _ _ _ h=>h) (Or.inl ⟨by rfl,?_⟩) hHeld ?_
 rotate_left 1
 ·(intro W hW;(try dsimp only at hW);go_simp;try with_reducible rfl)
 try simp only [Act.put,List.setIfInBounds_toArray,List.set_cons_zero,List.set_cons_succ]
 refine wpAnyH_take (i:=8) (oi:={ dst:=some 25,op:=Op.binOp BinOp.eql 33 (Operand.tmp 24) (Operand.const (Value.int IntKind.i64 0)) 33,type:=4,pos:=_,after:=_,guard:=some (6,true) }) (v:=?_) rfl (by kernel_rfl) (by kernel_rfl) (by kernel_rfl) (fun _ _ _ h=>h) (Or.inl ⟨by rfl,?_⟩) hHeld ?_
 rotate_left 1
 ·(intro W hW;(try dsimp only at hW);go_simp;try with_reducible rfl)
 try simp only [Act.put,List.setIfInBounds_toArray,List.set_cons_zero,List.set_cons_succ]
 refine wpAnyH_take (i:=9) (oi:={ dst:=some 26,op:=Op.pick (Operand.tmp 23) (Operand.tmp 25) (Operand.const (Value.bool false)),type:=4,pos:=_,after:=_,guard:=none }) (v:=?_) rfl (by kernel_rfl) (by kernel_rfl) (by kernel_rfl) (fun _ _ _ h=>h) (Or.inl ⟨by rfl,?_⟩) hHeld ?_
 rotate_left 1
 ·(intro W hW;(try dsimp only at hW);go_simp;try with_reducible rfl)
 try simp only [Act.put,List.setIfInBounds_toArray,List.set_cons_zero,List.set_cons_succ]
 refine wpAnyH_take (i:=10) (oi:={ dst:=some 27,op:=Op.move (Operand.tmp 26),type:=4,pos:=_,after:=_,guard:=none }) (v:=?_) rfl (by kernel_rfl) (by kernel_rfl) (by kernel_rfl) (fun _ _ _ h=>h) (Or.inl ⟨by rfl,?_⟩) hHeld ?_
 rotate_left 1
 ·(intro W hW;(try dsimp only at hW);go_simp;try with_reducible rfl)
 try simp only [Act.put,List.setIfInBounds_toArray,List.set_cons_zero,List.set_cons_succ]
 refine wpAnyH_take (i:=11) (oi:={ dst:=some 28,op:=Op.move (Operand.tmp 1),type:=23,pos:=_,after:=_,guard:=some (10,true) }) (v:=?_) rfl (by kernel_rfl) (by kernel_rfl) (by kernel_rfl) (fun _ _ _ h=>h) (Or.inl ⟨by rfl,?_⟩) hHeld ?_
 rotate_left 1
 ·(intro W hW;(try dsimp only at hW);go_simp;try with_reducible rfl)
 try simp only [Act.put,List.setIfInBounds_toArray,List.set_cons_zero,List.set_cons_succ]
 refine wpAnyH_ready (rs:=[12,14]) (by kernel_rfl) (by simp) ?_
 refine AllReadyH.cons (o:={ dst:=some 29,op:=Op.call { callee:=Callee.value (Operand.func 29),args:=#[Operand.tmp 28,Operand.const (Value.int IntKind.i64 3)],argTypes:=#[23,3] },type:=40,pos:=_,after:=_,guard:=some (10,true) }) rfl (fun K hK=>?_) ?_
 ·go_simp
  refine (HRD.out _ HQa.out).mono ?_
  rintro e wc ⟨Awc,cwc,rfl,hrwc,hbwc⟩
  have HQwc:=Lib.hid (HQa.out.trans (hbwc.mono HQa.out.size))
  have HRwc:=Lib.hid hrwc
  have HBwc:=Lib.hid hbwc
  clear hrwc hbwc
  go_simp
  refine hK.out _ _ (trivial) (fun _=>?_)
  clear hK K hHeld
  try simp only [Act.put,List.setIfInBounds_toArray,List.set_cons_zero,List.set_cons_succ]
  refine wpAnyH_strong (S':=fun W=>Below wc.heap.size wc W) (fun W hW=>trivial) _ _ _ _ ?_
  have hHeld:(fun W=>Below wc.heap.size wc W) _:=Below.refl _ _
  refine wpAnyH_take (i:=13) (oi:={ dst:=some 30,op:=Op.convert 40 9 (Operand.tmp 29),type:=9,pos:=_,after:=_,guard:=some (10,true) }) (v:=?_) rfl (by kernel_rfl) (by kernel_rfl) (by kernel_rfl) (fun _ _ _ h=>h) (Or.inl ⟨by rfl,?_⟩) hHeld ?_
  rotate_left 1
  ·(intro W hW;have hcv:=conv_str (Rd.under HRwc.out hW) HXL.out HXO.out;rw [←HZ1.out] at hcv;(try dsimp only at hW);go_simp;try with_reducible rfl)
  try simp only [Act.put,List.setIfInBounds_toArray,List.set_cons_zero,List.set_cons_succ]
  refine wpAnyH_ready (rs:=[14]) (by kernel_rfl) (by simp) ?_
  refine AllReadyH.cons (o:={ dst:=some 31,op:=Op.buildSlice 40 1 #[(0,Operand.const (Value.int IntKind.u8 120))],type:=40,pos:=_,after:=_,guard:=some (10,true) }) rfl (fun K hK=>?_) AllReadyH.nil
  go_simp
  have hbd:Below wc.heap.size wc (wc.alloc (.cells #[Value.int .u8 120] 5)):=(Below.refl _ _).alloc (Nat.le_refl _) _
  have hfd:Holds (wc.alloc (.cells #[Value.int .u8 120] 5)) wc.heap.size 5 #[Value.int .u8 120]:=Holds.fresh _ _ _
  generalize wc.alloc (.cells #[Value.int .u8 120] 5)=wd at *
  have HBd:=Lib.hid hbd
  have HFd:=Lib.hid hfd
  clear hbd hfd
  refine hK.out _ _ (HBd.out) (fun _=>?_)
  clear hK K hHeld
  try simp only [Act.put,List.setIfInBounds_toArray,List.set_cons_zero,List.set_cons_succ]
  have hHeld:Below wc.heap.size wc wd:=HBd.out
  refine wpAnyH_ready (rs:=[15]) (by kernel_rfl) (by simp) ?_
  refine AllReadyH.cons (o:={ dst:=some 32,op:=Op.convert 40 40 (Operand.tmp 31),type:=40,pos:=_,after:=_,guard:=some (10,true) }) rfl (fun K hK=>?_) AllReadyH.nil
  have HQbm:=Lib.hid (HQwc.out.size)
  have HQd:=Lib.hid (HQwc.out.trans (HBd.out.mono HQwc.out.size))
  obtain ⟨wm,hcvwm,hmwm,hcwm,hswm⟩:=run_mark wd wc.heap.size #[Value.int .u8 120] 1 1 HFd.out
  go_simp
  have HBwm:=Lib.hid (show Below wc.heap.size wd wm from hmwm)
  have HCwm:=Lib.hid hcwm
  have HSwm:=Lib.hid hswm
  have HQwm:=Lib.hid (HQd.out.trans ((HBwm.out).mono (HQbm.out)))
  clear hcvwm hmwm hcwm hswm
  have HBm2:=Lib.hid (HBd.out.trans HBwm.out)
  refine hK.out _ _ (HBm2.out) (fun _=>?_)
  clear hK K hHeld
  try simp only [Act.put,List.setIfInBounds_toArray,List.set_cons_zero,List.set_cons_succ]
  have hHeld:Below wc.heap.size wc wm:=HBm2.out
  have HRb:Hid (Rd .u8 wm wm.heap.size (some ⟨wc.heap.size,0,none⟩) 1 [120]):=Lib.hid (rd_marked HFd.out HCwm.out HSwm.out)
  refine wpAnyH_ready (rs:=[16]) (by kernel_rfl) (by simp) ?_
  refine AllReadyH.cons (o:={ dst:=some 33,op:=Op.call { callee:=Callee.value (Operand.func 21),args:=#[Operand.tmp 32],argTypes:=#[40] },type:=40,pos:=_,after:=_,guard:=some (10,true) }) rfl (fun K hK=>?_) AllReadyH.nil
  go_simp
  refine (sectorR _ _ 1 1 [120] rfl HRb.out).mono ?_
  rintro e we ⟨rfl,_,hre,hbe⟩
  have HQe:=Lib.hid (HQwm.out.trans (hbe.mono HQwm.out.size))
  have HRe:=Lib.hid (show Rd .u8 we we.heap.size (some ⟨wm.heap.size,0,none⟩) 64 secX from hre)
  have HBe:=Lib.hid hbe
  clear hre hbe
  go_simp
  refine hK.out _ _ (HBm2.out.trans (HBe.out.mono HBm2.out.size)) (fun _=>?_)
  clear hK K hHeld
  try simp only [Act.put,List.setIfInBounds_toArray,List.set_cons_zero,List.set_cons_succ]
  refine wpAnyH_strong (S':=fun W=>Below we.heap.size we W) (fun W hW=>HBm2.out.trans ((HBe.out.trans (hW.mono HBe.out.size)).mono HBm2.out.size)) _ _ _ _ ?_
  have hHeld:(fun W=>Below we.heap.size we W) _:=Below.refl _ _
  refine wpAnyH_take (i:=17) (oi:={ dst:=some 34,op:=Op.convert 40 9 (Operand.tmp 33),type:=9,pos:=_,after:=_,guard:=some (10,true) }) (v:=?_) rfl (by kernel_rfl) (by kernel_rfl) (by kernel_rfl) (fun _ _ _ h=>h) (Or.inl ⟨by rfl,?_⟩) hHeld ?_
  rotate_left 1
  ·(intro W hW;have hcv:=conv_str (Rd.under HRe.out hW) HXL.out HXO.out;rw [←HZ1.out] at hcv;(try dsimp only at hW);go_simp;try with_reducible rfl)
  try simp only [Act.put,List.setIfInBounds_toArray,List.set_cons_zero,List.set_cons_succ]
  refine wpAnyH_take (i:=18) (oi:={ dst:=some 35,op:=Op.binOp BinOp.eql 9 (Operand.tmp 30) (Operand.tmp 34) 9,type:=4,pos:=_,after:=_,guard:=some (10,true) }) (v:=?_) rfl (by kernel_rfl) (by kernel_rfl) (by kernel_rfl) (fun _ _ _ h=>h) (Or.inl ⟨by rfl,?_⟩) hHeld ?_
  rotate_left 1
  ·(intro W hW;(try dsimp only at hW);go_simp;try with_reducible rfl)
  try simp only [Act.put,List.setIfInBounds_toArray,List.set_cons_zero,List.set_cons_succ]
  refine wpAnyH_take (i:=19) (oi:={ dst:=some 36,op:=Op.pick (Operand.tmp 27) (Operand.tmp 35) (Operand.const (Value.bool false)),type:=4,pos:=_,after:=_,guard:=none }) (v:=?_) rfl (by kernel_rfl) (by kernel_rfl) (by kernel_rfl) (fun _ _ _ h=>h) (Or.inl ⟨by rfl,?_⟩) hHeld ?_
  rotate_left 1
  ·(intro W hW;(try dsimp only at hW);go_simp;try with_reducible rfl)
  try simp only [Act.put,List.setIfInBounds_toArray,List.set_cons_zero,List.set_cons_succ]
  refine wpAnyH_take (i:=20) (oi:={ dst:=some 37,op:=Op.move (Operand.tmp 36),type:=4,pos:=_,after:=_,guard:=none }) (v:=?_) rfl (by kernel_rfl) (by kernel_rfl) (by kernel_rfl) (fun _ _ _ h=>h) (Or.inl ⟨by rfl,?_⟩) hHeld ?_
  rotate_left 1
  ·(intro W hW;(try dsimp only at hW);go_simp;try with_reducible rfl)
  try simp only [Act.put,List.setIfInBounds_toArray,List.set_cons_zero,List.set_cons_succ]
  refine wpAnyH_take (i:=21) (oi:={ dst:=some 38,op:=Op.move (Operand.tmp 1),type:=23,pos:=_,after:=_,guard:=some (20,true) }) (v:=?_) rfl (by kernel_rfl) (by kernel_rfl) (by kernel_rfl) (fun _ _ _ h=>h) (Or.inl ⟨by rfl,?_⟩) hHeld ?_
  rotate_left 1
  ·(intro W hW;(try dsimp only at hW);go_simp;try with_reducible rfl)
  try simp only [Act.put,List.setIfInBounds_toArray,List.set_cons_zero,List.set_cons_succ]
  refine wpAnyH_ready (rs:=[22]) (by kernel_rfl) (by simp) ?_
  refine AllReadyH.cons (o:={ dst:=some 39,op:=Op.call { callee:=Callee.value (Operand.func 28),args:=#[Operand.tmp 38],argTypes:=#[23] },type:=3,pos:=_,after:=_,guard:=some (20,true) }) rfl (fun K hK=>?_) AllReadyH.nil
  go_simp
  refine (HMN.out _ HQe.out).mono ?_
  rintro e wg ⟨rfl,rfl⟩
  go_simp
  refine hK.out _ _ hHeld (fun _=>?_)
  clear hK K
  try simp only [Act.put,List.setIfInBounds_toArray,List.set_cons_zero,List.set_cons_succ]
  refine wpAnyH_take (i:=23) (oi:={ dst:=some 40,op:=Op.binOp BinOp.eql 3 (Operand.tmp 39) (Operand.const (Value.int IntKind.i64 8)) 3,type:=4,pos:=_,after:=_,guard:=some (20,true) }) (v:=?_) rfl (by kernel_rfl) (by kernel_rfl) (by kernel_rfl) (fun _ _ _ h=>h) (Or.inl ⟨by rfl,?_⟩) hHeld ?_
  rotate_left 1
  ·(intro W hW;(try dsimp only at hW);go_simp;try with_reducible rfl)
  try simp only [Act.put,List.setIfInBounds_toArray,List.set_cons_zero,List.set_cons_succ]
  refine wpAnyH_take (i:=24) (oi:={ dst:=some 41,op:=Op.pick (Operand.tmp 37) (Operand.tmp 40) (Operand.const (Value.bool false)),type:=4,pos:=_,after:=_,guard:=none }) (v:=?_) rfl (by kernel_rfl) (by kernel_rfl) (by kernel_rfl) (fun _ _ _ h=>h) (Or.inl ⟨by rfl,?_⟩) hHeld ?_
  rotate_left 1
  ·(intro W hW;(try dsimp only at hW);go_simp;try with_reducible rfl)
  try simp only [Act.put,List.setIfInBounds_toArray,List.set_cons_zero,List.set_cons_succ]
  refine wpAnyH_take (i:=25) (oi:={ dst:=some 42,op:=Op.move (Operand.tmp 41),type:=4,pos:=_,after:=_,guard:=none }) (v:=?_) rfl (by kernel_rfl) (by kernel_rfl) (by kernel_rfl) (fun _ _ _ h=>h) (Or.inl ⟨by rfl,?_⟩) hHeld ?_
  rotate_left 1
  ·(intro W hW;(try dsimp only at hW);go_simp;try with_reducible rfl)
  try simp only [Act.put,List.setIfInBounds_toArray,List.set_cons_zero,List.set_cons_succ]
  refine wpAnyH_take (i:=26) (oi:={ dst:=some 43,op:=Op.move (Operand.tmp 1),type:=23,pos:=_,after:=_,guard:=some (25,true) }) (v:=?_) rfl (by kernel_rfl) (by kernel_rfl) (by kernel_rfl) (fun _ _ _ h=>h) (Or.inl ⟨by rfl,?_⟩) hHeld ?_
  rotate_left 1
  ·(intro W hW;(try dsimp only at hW);go_simp;try with_reducible rfl)
  try simp only [Act.put,List.setIfInBounds_toArray,List.set_cons_zero,List.set_cons_succ]
  refine wpAnyH_ready (rs:=[27]) (by kernel_rfl) (by simp) ?_
  refine AllReadyH.cons (o:={ dst:=some 44,op:=Op.call { callee:=Callee.value (Operand.func 29),args:=#[Operand.tmp 43,Operand.const (Value.int IntKind.i64 8)],argTypes:=#[23,3] },type:=40,pos:=_,after:=_,guard:=some (25,true) }) rfl (fun K hK=>?_) AllReadyH.nil
  go_simp
  refine (HRN.out _ HQe.out).mono ?_
  rintro e wh ⟨Ah,ch,rfl,hbh⟩
  have HQh:=Lib.hid (HQe.out.trans (hbh.mono HQe.out.size))
  have HBh:=Lib.hid hbh
  clear hbh
  go_simp
  refine hK.out _ _ (HBh.out) (fun _=>?_)
  clear hK K hHeld
  try simp only [Act.put,List.setIfInBounds_toArray,List.set_cons_zero,List.set_cons_succ]
  refine wpAnyH_strong (S':=fun W=>Below wh.heap.size wh W) (fun W hW=>HBh.out.trans (hW.mono HBh.out.size)) _ _ _ _ ?_
  have hHeld:(fun W=>Below wh.heap.size wh W) _:=Below.refl _ _
  refine wpAnyH_take (i:=28) (oi:={ dst:=some 45,op:=Op.call { callee:=Callee.builtin Builtin.len,args:=#[Operand.tmp 44],argTypes:=#[40] },type:=3,pos:=_,after:=_,guard:=some (25,true) }) (v:=?_) rfl (by kernel_rfl) (by kernel_rfl) (by kernel_rfl) (fun _ _ _ h=>h) (Or.inl ⟨by rfl,?_⟩) hHeld ?_
  rotate_left 1
  ·(intro W hW;(try dsimp only at hW);go_simp;try with_reducible rfl)
  try simp only [Act.put,List.setIfInBounds_toArray,List.set_cons_zero,List.set_cons_succ]
  refine wpAnyH_take (i:=29) (oi:={ dst:=some 46,op:=Op.binOp BinOp.eql 3 (Operand.tmp 45) (Operand.const (Value.int IntKind.i64 0)) 3,type:=4,pos:=_,after:=_,guard:=some (25,true) }) (v:=?_) rfl (by kernel_rfl) (by kernel_rfl) (by kernel_rfl) (fun _ _ _ h=>h) (Or.inl ⟨by rfl,?_⟩) hHeld ?_
  rotate_left 1
  ·(intro W hW;(try dsimp only at hW);go_simp;try with_reducible rfl)
  try simp only [Act.put,List.setIfInBounds_toArray,List.set_cons_zero,List.set_cons_succ]
  refine wpAnyH_take (i:=30) (oi:={ dst:=some 47,op:=Op.pick (Operand.tmp 42) (Operand.tmp 46) (Operand.const (Value.bool false)),type:=4,pos:=_,after:=_,guard:=none }) (v:=?_) rfl (by kernel_rfl) (by kernel_rfl) (by kernel_rfl) (fun _ _ _ h=>h) (Or.inl ⟨by rfl,?_⟩) hHeld ?_
  rotate_left 1
  ·(intro W hW;(try dsimp only at hW);go_simp;try with_reducible rfl)
  try simp only [Act.put,List.setIfInBounds_toArray,List.set_cons_zero,List.set_cons_succ]
  refine wpAnyH_take (i:=31) (oi:={ dst:=some 0,op:=Op.assign (Operand.tmp 47),type:=4,pos:=_,after:=_,guard:=none }) (v:=?_) rfl (by kernel_rfl) (by kernel_rfl) (by kernel_rfl) (fun _ _ _ h=>h) (Or.inl ⟨by rfl,?_⟩) hHeld ?_
  rotate_left 1
  ·(intro W hW;(try dsimp only at hW);go_simp;try with_reducible rfl)
  try simp only [Act.put,List.setIfInBounds_toArray,List.set_cons_zero,List.set_cons_succ]
  refine wpAnyH_done (by kernel_rfl) ?_ _
  refine NoPanic.normal ?_
  go_wp2_with fail
  go_ret
  exact ⟨rfl,HB5.out.trans (HQh.out.mono HB5.out.size)⟩
 refine AllReadyH.cons (o:={ dst:=some 31,op:=Op.buildSlice 40 1 #[(0,Operand.const (Value.int IntKind.u8 120))],type:=40,pos:=_,after:=_,guard:=some (10,true) }) rfl (fun K hK=>?_) AllReadyH.nil
 go_simp
 have hbd:Below wa.heap.size wa (wa.alloc (.cells #[Value.int .u8 120] 5)):=(Below.refl _ _).alloc (Nat.le_refl _) _
 have hfd:Holds (wa.alloc (.cells #[Value.int .u8 120] 5)) wa.heap.size 5 #[Value.int .u8 120]:=Holds.fresh _ _ _
 generalize wa.alloc (.cells #[Value.int .u8 120] 5)=wd at *
 have HBd:=Lib.hid hbd
 have HFd:=Lib.hid hfd
 clear hbd hfd
 have HQd:=Lib.hid (HQa.out.trans (HBd.out.mono HQa.out.size))
 refine hK.out _ _ (trivial) (fun _=>?_)
 clear hK K hHeld
 try simp only [Act.put,List.setIfInBounds_toArray,List.set_cons_zero,List.set_cons_succ]
 refine wpAnyH_strong (S':=fun W=>Below wa.heap.size wa W) (fun W hW=>trivial) _ _ _ _ ?_
 have hHeld:(fun W=>Below wa.heap.size wa W) _:=HBd.out
 refine wpAnyH_ready (rs:=[12,15]) (by kernel_rfl) (by simp) ?_
 refine AllReadyH.cons (o:={ dst:=some 29,op:=Op.call { callee:=Callee.value (Operand.func 29),args:=#[Operand.tmp 28,Operand.const (Value.int IntKind.i64 3)],argTypes:=#[23,3] },type:=40,pos:=_,after:=_,guard:=some (10,true) }) rfl (fun K hK=>?_) ?_
 ·go_simp
  refine (HRD.out _ HQd.out).mono ?_
  rintro e wc ⟨Awc,cwc,rfl,hrwc,hbwc⟩
  have HQwc:=Lib.hid (HQd.out.trans (hbwc.mono HQd.out.size))
  have HRwc:=Lib.hid hrwc
  have HBwc:=Lib.hid hbwc
  clear hrwc hbwc
  go_simp
  have HBc2:=Lib.hid (HBd.out.trans (HBwc.out.mono HBd.out.size))
  have HFc:=Lib.hid (Holds.under HFd.out HBwc.out (Holds.lt HFd.out))
  refine hK.out _ _ (HBc2.out) (fun _=>?_)
  clear hK K hHeld
  try simp only [Act.put,List.setIfInBounds_toArray,List.set_cons_zero,List.set_cons_succ]
  refine wpAnyH_strong (S':=fun W=>Below wa.heap.size wa W∧Rd .u8 W wc.heap.size Awc cwc secX) (fun W hW=>hW.1) _ _ _ _ ?_
  have hHeld:(fun W=>Below wa.heap.size wa W∧Rd .u8 W wc.heap.size Awc cwc secX) _:=⟨HBc2.out,HRwc.out⟩
  refine wpAnyH_take (i:=13) (oi:={ dst:=some 30,op:=Op.convert 40 9 (Operand.tmp 29),type:=9,pos:=_,after:=_,guard:=some (10,true) }) (v:=?_) rfl (by kernel_rfl) (by kernel_rfl) (by kernel_rfl) (fun _ _ _ h=>h) (Or.inl ⟨by rfl,?_⟩) hHeld ?_
  rotate_left 1
  ·(intro W hW;have hcv:=conv_str hW.2 HXL.out HXO.out;rw [←HZ1.out] at hcv;(try dsimp only at hW);go_simp;try with_reducible rfl)
  try simp only [Act.put,List.setIfInBounds_toArray,List.set_cons_zero,List.set_cons_succ]
  refine wpAnyH_ready (rs:=[15]) (by kernel_rfl) (by simp) ?_
  refine AllReadyH.cons (o:={ dst:=some 32,op:=Op.convert 40 40 (Operand.tmp 31),type:=40,pos:=_,after:=_,guard:=some (10,true) }) rfl (fun K hK=>?_) AllReadyH.nil
  have HQbm:=Lib.hid HQa.out.size
  obtain ⟨wm,hcvwm,hmwm,hcwm,hswm⟩:=run_mark wc wa.heap.size #[Value.int .u8 120] 1 1 HFc.out
  go_simp
  have HBwm:=Lib.hid (show Below wa.heap.size wc wm from hmwm)
  have HCwm:=Lib.hid hcwm
  have HSwm:=Lib.hid hswm
  have HQwm:=Lib.hid (HQwc.out.trans ((HBwm.out).mono (HQbm.out)))
  clear hcvwm hmwm hcwm hswm
  have HBm2:=Lib.hid (HBc2.out.trans HBwm.out)
  refine hK.out _ _ (⟨HBm2.out,HRwc.out.keep fun b o _=>HCwm.out _⟩) (fun _=>?_)
  clear hK K hHeld
  try simp only [Act.put,List.setIfInBounds_toArray,List.set_cons_zero,List.set_cons_succ]
  have hHeld:(fun W=>Below wa.heap.size wa W∧Rd .u8 W wc.heap.size Awc cwc secX) wm:=⟨HBm2.out,HRwc.out.keep fun b o _=>HCwm.out _⟩
  have HRb:Hid (Rd .u8 wm wm.heap.size (some ⟨wa.heap.size,0,none⟩) 1 [120]):=Lib.hid (rd_marked HFc.out HCwm.out HSwm.out)
  have HRm:=Lib.hid hHeld.2
  refine wpAnyH_ready (rs:=[16]) (by kernel_rfl) (by simp) ?_
  refine AllReadyH.cons (o:={ dst:=some 33,op:=Op.call { callee:=Callee.value (Operand.func 21),args:=#[Operand.tmp 32],argTypes:=#[40] },type:=40,pos:=_,after:=_,guard:=some (10,true) }) rfl (fun K hK=>?_) AllReadyH.nil
  go_simp
  refine (sectorR _ _ 1 1 [120] rfl HRb.out).mono ?_
  rintro e we ⟨rfl,_,hre,hbe⟩
  have HQe:=Lib.hid (HQwm.out.trans (hbe.mono HQwm.out.size))
  have HRe:=Lib.hid (show Rd .u8 we we.heap.size (some ⟨wm.heap.size,0,none⟩) 64 secX from hre)
  have HBe:=Lib.hid hbe
  clear hre hbe
  go_simp
  refine hK.out _ _ (⟨HBm2.out.trans (HBe.out.mono HBm2.out.size),(HRm.out).keep fun b o hb=>HBe.out.cell (p:=⟨b,o,none⟩) (show b<wm.heap.size from by have:=HSwm.out;omega)⟩) (fun _=>?_)
  clear hK K hHeld
  try simp only [Act.put,List.setIfInBounds_toArray,List.set_cons_zero,List.set_cons_succ]
  refine wpAnyH_strong (S':=fun W=>Below we.heap.size we W) (fun W hW=>⟨HBm2.out.trans ((HBe.out.trans (hW.mono HBe.out.size)).mono HBm2.out.size),(HRm.out).keep fun b o hb=>(HBe.out.trans (hW.mono HBe.out.size)).cell (p:=⟨b,o,none⟩) (show b<wm.heap.size from by have:=HSwm.out;omega)⟩) _ _ _ _ ?_
  have hHeld:(fun W=>Below we.heap.size we W) _:=Below.refl _ _
  refine wpAnyH_take (i:=17) (oi:={ dst:=some 34,op:=Op.convert 40 9 (Operand.tmp 33),type:=9,pos:=_,after:=_,guard:=some (10,true) }) (v:=?_) rfl (by kernel_rfl) (by kernel_rfl) (by kernel_rfl) (fun _ _ _ h=>h) (Or.inl ⟨by rfl,?_⟩) hHeld ?_
  rotate_left 1
  ·(intro W hW;have hcv:=conv_str (Rd.under HRe.out hW) HXL.out HXO.out;rw [←HZ1.out] at hcv;(try dsimp only at hW);go_simp;try with_reducible rfl)
  try simp only [Act.put,List.setIfInBounds_toArray,List.set_cons_zero,List.set_cons_succ]
  refine wpAnyH_take (i:=18) (oi:={ dst:=some 35,op:=Op.binOp BinOp.eql 9 (Operand.tmp 30) (Operand.tmp 34) 9,type:=4,pos:=_,after:=_,guard:=some (10,true) }) (v:=?_) rfl (by kernel_rfl) (by kernel_rfl) (by kernel_rfl) (fun _ _ _ h=>h) (Or.inl ⟨by rfl,?_⟩) hHeld ?_
  rotate_left 1
  ·(intro W hW;(try dsimp only at hW);go_simp;try with_reducible rfl)
  try simp only [Act.put,List.setIfInBounds_toArray,List.set_cons_zero,List.set_cons_succ]
  refine wpAnyH_take (i:=19) (oi:={ dst:=some 36,op:=Op.pick (Operand.tmp 27) (Operand.tmp 35) (Operand.const (Value.bool false)),type:=4,pos:=_,after:=_,guard:=none }) (v:=?_) rfl (by kernel_rfl) (by kernel_rfl) (by kernel_rfl) (fun _ _ _ h=>h) (Or.inl ⟨by rfl,?_⟩) hHeld ?_
  rotate_left 1
  ·(intro W hW;(try dsimp only at hW);go_simp;try with_reducible rfl)
  try simp only [Act.put,List.setIfInBounds_toArray,List.set_cons_zero,List.set_cons_succ]
  refine wpAnyH_take (i:=20) (oi:={ dst:=some 37,op:=Op.move (Operand.tmp 36),type:=4,pos:=_,after:=_,guard:=none }) (v:=?_) rfl (by kernel_rfl) (by kernel_rfl) (by kernel_rfl) (fun _ _ _ h=>h) (Or.inl ⟨by rfl,?_⟩) hHeld ?_
  rotate_left 1
  ·(intro W hW;(try dsimp only at hW);go_simp;try with_reducible rfl)
  try simp only [Act.put,List.setIfInBounds_toArray,List.set_cons_zero,List.set_cons_succ]
  refine wpAnyH_take (i:=21) (oi:={ dst:=some 38,op:=Op.move (Operand.tmp 1),type:=23,pos:=_,after:=_,guard:=some (20,true) }) (v:=?_) rfl (by kernel_rfl) (by kernel_rfl) (by kernel_rfl) (fun _ _ _ h=>h) (Or.inl ⟨by rfl,?_⟩) hHeld ?_
  rotate_left 1
  ·(intro W hW;(try dsimp only at hW);go_simp;try with_reducible rfl)
  try simp only [Act.put,List.setIfInBounds_toArray,List.set_cons_zero,List.set_cons_succ]
  refine wpAnyH_ready (rs:=[22]) (by kernel_rfl) (by simp) ?_
  refine AllReadyH.cons (o:={ dst:=some 39,op:=Op.call { callee:=Callee.value (Operand.func 28),args:=#[Operand.tmp 38],argTypes:=#[23] },type:=3,pos:=_,after:=_,guard:=some (20,true) }) rfl (fun K hK=>?_) AllReadyH.nil
  go_simp
  refine (HMN.out _ HQe.out).mono ?_
  rintro e wg ⟨rfl,rfl⟩
  go_simp
  refine hK.out _ _ hHeld (fun _=>?_)
  clear hK K
  try simp only [Act.put,List.setIfInBounds_toArray,List.set_cons_zero,List.set_cons_succ]
  refine wpAnyH_take (i:=23) (oi:={ dst:=some 40,op:=Op.binOp BinOp.eql 3 (Operand.tmp 39) (Operand.const (Value.int IntKind.i64 8)) 3,type:=4,pos:=_,after:=_,guard:=some (20,true) }) (v:=?_) rfl (by kernel_rfl) (by kernel_rfl) (by kernel_rfl) (fun _ _ _ h=>h) (Or.inl ⟨by rfl,?_⟩) hHeld ?_
  rotate_left 1
  ·(intro W hW;(try dsimp only at hW);go_simp;try with_reducible rfl)
  try simp only [Act.put,List.setIfInBounds_toArray,List.set_cons_zero,List.set_cons_succ]
  refine wpAnyH_take (i:=24) (oi:={ dst:=some 41,op:=Op.pick (Operand.tmp 37) (Operand.tmp 40) (Operand.const (Value.bool false)),type:=4,pos:=_,after:=_,guard:=none }) (v:=?_) rfl (by kernel_rfl) (by kernel_rfl) (by kernel_rfl) (fun _ _ _ h=>h) (Or.inl ⟨by rfl,?_⟩) hHeld ?_
  rotate_left 1
  ·(intro W hW;(try dsimp only at hW);go_simp;try with_reducible rfl)
  try simp only [Act.put,List.setIfInBounds_toArray,List.set_cons_zero,List.set_cons_succ]
  refine wpAnyH_take (i:=25) (oi:={ dst:=some 42,op:=Op.move (Operand.tmp 41),type:=4,pos:=_,after:=_,guard:=none }) (v:=?_) rfl (by kernel_rfl) (by kernel_rfl) (by kernel_rfl) (fun _ _ _ h=>h) (Or.inl ⟨by rfl,?_⟩) hHeld ?_
  rotate_left 1
  ·(intro W hW;(try dsimp only at hW);go_simp;try with_reducible rfl)
  try simp only [Act.put,List.setIfInBounds_toArray,List.set_cons_zero,List.set_cons_succ]
  refine wpAnyH_take (i:=26) (oi:={ dst:=some 43,op:=Op.move (Operand.tmp 1),type:=23,pos:=_,after:=_,guard:=some (25,true) }) (v:=?_) rfl (by kernel_rfl) (by kernel_rfl) (by kernel_rfl) (fun _ _ _ h=>h) (Or.inl ⟨by rfl,?_⟩) hHeld ?_
  rotate_left 1
  ·(intro W hW;(try dsimp only at hW);go_simp;try with_reducible rfl)
  try simp only [Act.put,List.setIfInBounds_toArray,List.set_cons_zero,List.set_cons_succ]
  refine wpAnyH_ready (rs:=[27]) (by kernel_rfl) (by simp) ?_
  refine AllReadyH.cons (o:={ dst:=some 44,op:=Op.call { callee:=Callee.value (Operand.func 29),args:=#[Operand.tmp 43,Operand.const (Value.int IntKind.i64 8)],argTypes:=#[23,3] },type:=40,pos:=_,after:=_,guard:=some (25,true) }) rfl (fun K hK=>?_) AllReadyH.nil
  go_simp
  refine (HRN.out _ HQe.out).mono ?_
  rintro e wh ⟨Ah,ch,rfl,hbh⟩
  have HQh:=Lib.hid (HQe.out.trans (hbh.mono HQe.out.size))
  have HBh:=Lib.hid hbh
  clear hbh
  go_simp
  refine hK.out _ _ (HBh.out) (fun _=>?_)
  clear hK K hHeld
  try simp only [Act.put,List.setIfInBounds_toArray,List.set_cons_zero,List.set_cons_succ]
  refine wpAnyH_strong (S':=fun W=>Below wh.heap.size wh W) (fun W hW=>HBh.out.trans (hW.mono HBh.out.size)) _ _ _ _ ?_
  have hHeld:(fun W=>Below wh.heap.size wh W) _:=Below.refl _ _
  refine wpAnyH_take (i:=28) (oi:={ dst:=some 45,op:=Op.call { callee:=Callee.builtin Builtin.len,args:=#[Operand.tmp 44],argTypes:=#[40] },type:=3,pos:=_,after:=_,guard:=some (25,true) }) (v:=?_) rfl (by kernel_rfl) (by kernel_rfl) (by kernel_rfl) (fun _ _ _ h=>h) (Or.inl ⟨by rfl,?_⟩) hHeld ?_
  rotate_left 1
  ·(intro W hW;(try dsimp only at hW);go_simp;try with_reducible rfl)
  try simp only [Act.put,List.setIfInBounds_toArray,List.set_cons_zero,List.set_cons_succ]
  refine wpAnyH_take (i:=29) (oi:={ dst:=some 46,op:=Op.binOp BinOp.eql 3 (Operand.tmp 45) (Operand.const (Value.int IntKind.i64 0)) 3,type:=4,pos:=_,after:=_,guard:=some (25,true) }) (v:=?_) rfl (by kernel_rfl) (by kernel_rfl) (by kernel_rfl) (fun _ _ _ h=>h) (Or.inl ⟨by rfl,?_⟩) hHeld ?_
  rotate_left 1
  ·(intro W hW;(try dsimp only at hW);go_simp;try with_reducible rfl)
  try simp only [Act.put,List.setIfInBounds_toArray,List.set_cons_zero,List.set_cons_succ]
  refine wpAnyH_take (i:=30) (oi:={ dst:=some 47,op:=Op.pick (Operand.tmp 42) (Operand.tmp 46) (Operand.const (Value.bool false)),type:=4,pos:=_,after:=_,guard:=none }) (v:=?_) rfl (by kernel_rfl) (by kernel_rfl) (by kernel_rfl) (fun _ _ _ h=>h) (Or.inl ⟨by rfl,?_⟩) hHeld ?_
  rotate_left 1
  ·(intro W hW;(try dsimp only at hW);go_simp;try with_reducible rfl)
  try simp only [Act.put,List.setIfInBounds_toArray,List.set_cons_zero,List.set_cons_succ]
  refine wpAnyH_take (i:=31) (oi:={ dst:=some 0,op:=Op.assign (Operand.tmp 47),type:=4,pos:=_,after:=_,guard:=none }) (v:=?_) rfl (by kernel_rfl) (by kernel_rfl) (by kernel_rfl) (fun _ _ _ h=>h) (Or.inl ⟨by rfl,?_⟩) hHeld ?_
  rotate_left 1
  ·(intro W hW;(try dsimp only at hW);go_simp;try with_reducible rfl)
  try simp only [Act.put,List.setIfInBounds_toArray,List.set_cons_zero,List.set_cons_succ]
  refine wpAnyH_done (by kernel_rfl) ?_ _
  refine NoPanic.normal ?_
  go_wp2_with fail
  go_ret
  exact ⟨rfl,HB5.out.trans (HQh.out.mono HB5.out.size)⟩
 refine AllReadyH.cons (o:={ dst:=some 32,op:=Op.convert 40 40 (Operand.tmp 31),type:=40,pos:=_,after:=_,guard:=some (10,true) }) rfl (fun K hK=>?_) AllReadyH.nil
 have HQbm:=Lib.hid HQa.out.size
 obtain ⟨wm,hcvwm,hmwm,hcwm,hswm⟩:=run_mark wd wa.heap.size #[Value.int .u8 120] 1 1 HFd.out
 go_simp
 have HBwm:=Lib.hid (show Below wa.heap.size wd wm from hmwm)
 have HCwm:=Lib.hid hcwm
 have HSwm:=Lib.hid hswm
 have HQwm:=Lib.hid (HQd.out.trans ((HBwm.out).mono (HQbm.out)))
 clear hcvwm hmwm hcwm hswm
 have HBm2:=Lib.hid (HBd.out.trans HBwm.out)
 refine hK.out _ _ (HBm2.out) (fun _=>?_)
 clear hK K hHeld
 try simp only [Act.put,List.setIfInBounds_toArray,List.set_cons_zero,List.set_cons_succ]
 have hHeld:Below wa.heap.size wa wm:=HBm2.out
 have HRb0:Hid (Rd .u8 wm wm.heap.size (some ⟨wa.heap.size,0,none⟩) 1 [120]):=Lib.hid (rd_marked HFd.out HCwm.out HSwm.out)
 refine wpAnyH_ready (rs:=[12]) (by kernel_rfl) (by simp) ?_
 refine AllReadyH.cons (o:={ dst:=some 29,op:=Op.call { callee:=Callee.value (Operand.func 29),args:=#[Operand.tmp 28,Operand.const (Value.int IntKind.i64 3)],argTypes:=#[23,3] },type:=40,pos:=_,after:=_,guard:=some (10,true) }) rfl (fun K hK=>?_) AllReadyH.nil
 go_simp
 refine (HRD.out _ HQwm.out).mono ?_
 rintro e wc ⟨Awc,cwc,rfl,hrwc,hbwc⟩
 have HQwc:=Lib.hid (HQwm.out.trans (hbwc.mono HQwm.out.size))
 have HRwc:=Lib.hid hrwc
 have HBwc:=Lib.hid hbwc
 clear hrwc hbwc
 go_simp
 have HBc2:=Lib.hid (HBm2.out.trans (HBwc.out.mono HBm2.out.size))
 have HRb:=Lib.hid ((HRb0.out.under HBwc.out).more HBwc.out.size)
 refine hK.out _ _ (HBc2.out) (fun _=>?_)
 clear hK K hHeld
 try simp only [Act.put,List.setIfInBounds_toArray,List.set_cons_zero,List.set_cons_succ]
 refine wpAnyH_strong (S':=fun W=>Below wc.heap.size wc W) (fun W hW=>HBc2.out.trans (hW.mono HBc2.out.size)) _ _ _ _ ?_
 have hHeld:(fun W=>Below wc.heap.size wc W) _:=Below.refl _ _
 refine wpAnyH_take (i:=13) (oi:={ dst:=some 30,op:=Op.convert 40 9 (Operand.tmp 29),type:=9,pos:=_,after:=_,guard:=some (10,true) }) (v:=?_) rfl (by kernel_rfl) (by kernel_rfl) (by kernel_rfl) (fun _ _ _ h=>h) (Or.inl ⟨by rfl,?_⟩) hHeld ?_
 rotate_left 1
 ·(intro W hW;have hcv:=conv_str (Rd.under HRwc.out hW) HXL.out HXO.out;rw [←HZ1.out] at hcv;(try dsimp only at hW);go_simp;try with_reducible rfl)
 try simp only [Act.put,List.setIfInBounds_toArray,List.set_cons_zero,List.set_cons_succ]
 refine wpAnyH_ready (rs:=[16]) (by kernel_rfl) (by simp) ?_
 refine AllReadyH.cons (o:={ dst:=some 33,op:=Op.call { callee:=Callee.value (Operand.func 21),args:=#[Operand.tmp 32],argTypes:=#[40] },type:=40,pos:=_,after:=_,guard:=some (10,true) }) rfl (fun K hK=>?_) AllReadyH.nil
 go_simp
 refine (sectorR _ _ 1 1 [120] rfl HRb.out).mono ?_
 rintro e we ⟨rfl,_,hre,hbe⟩
 have HQe:=Lib.hid (HQwc.out.trans (hbe.mono HQwc.out.size))
 have HRe:=Lib.hid (show Rd .u8 we we.heap.size (some ⟨wc.heap.size,0,none⟩) 64 secX from hre)
 have HBe:=Lib.hid hbe
 clear hre hbe
 go_simp
 refine hK.out _ _ (HBe.out) (fun _=>?_)
 clear hK K hHeld
 try simp only [Act.put,List.setIfInBounds_toArray,List.set_cons_zero,List.set_cons_succ]
 refine wpAnyH_strong (S':=fun W=>Below we.heap.size we W) (fun W hW=>(HBe.out.trans (hW.mono HBe.out.size))) _ _ _ _ ?_
 have hHeld:(fun W=>Below we.heap.size we W) _:=Below.refl _ _
 refine wpAnyH_take (i:=17) (oi:={ dst:=some 34,op:=Op.convert 40 9 (Operand.tmp 33),type:=9,pos:=_,after:=_,guard:=some (10,true) }) (v:=?_) rfl (by kernel_rfl) (by kernel_rfl) (by kernel_rfl) (fun _ _ _ h=>h) (Or.inl ⟨by rfl,?_⟩) hHeld ?_
 rotate_left 1
 ·(intro W hW;have hcv:=conv_str (Rd.under HRe.out hW) HXL.out HXO.out;rw [←HZ1.out] at hcv;(try dsimp only at hW);go_simp;try with_reducible rfl)
 try simp only [Act.put,List.setIfInBounds_toArray,List.set_cons_zero,List.set_cons_succ]
 refine wpAnyH_take (i:=18) (oi:={ dst:=some 35,op:=Op.binOp BinOp.eql 9 (Operand.tmp 30) (Operand.tmp 34) 9,type:=4,pos:=_,after:=_,guard:=some (10,true) }) (v:=?_) rfl (by kernel_rfl) (by kernel_rfl) (by kernel_rfl) (fun _ _ _ h=>h) (Or.inl ⟨by rfl,?_⟩) hHeld ?_
 rotate_left 1
 ·(intro W hW;(try dsimp only at hW);go_simp;try with_reducible rfl)
 try simp only [Act.put,List.setIfInBounds_toArray,List.set_cons_zero,List.set_cons_succ]
 refine wpAnyH_take (i:=19) (oi:={ dst:=some 36,op:=Op.pick (Operand.tmp 27) (Operand.tmp 35) (Operand.const (Value.bool false)),type:=4,pos:=_,after:=_,guard:=none }) (v:=?_) rfl (by kernel_rfl) (by kernel_rfl) (by kernel_rfl) (fun _ _ _ h=>h) (Or.inl ⟨by rfl,?_⟩) hHeld ?_
 rotate_left 1
 ·(intro W hW;(try dsimp only at hW);go_simp;try with_reducible rfl)
 try simp only [Act.put,List.setIfInBounds_toArray,List.set_cons_zero,List.set_cons_succ]
 refine wpAnyH_take (i:=20) (oi:={ dst:=some 37,op:=Op.move (Operand.tmp 36),type:=4,pos:=_,after:=_,guard:=none }) (v:=?_) rfl (by kernel_rfl) (by kernel_rfl) (by kernel_rfl) (fun _ _ _ h=>h) (Or.inl ⟨by rfl,?_⟩) hHeld ?_
 rotate_left 1
 ·(intro W hW;(try dsimp only at hW);go_simp;try with_reducible rfl)
 try simp only [Act.put,List.setIfInBounds_toArray,List.set_cons_zero,List.set_cons_succ]
 refine wpAnyH_take (i:=21) (oi:={ dst:=some 38,op:=Op.move (Operand.tmp 1),type:=23,pos:=_,after:=_,guard:=some (20,true) }) (v:=?_) rfl (by kernel_rfl) (by kernel_rfl) (by kernel_rfl) (fun _ _ _ h=>h) (Or.inl ⟨by rfl,?_⟩) hHeld ?_
 rotate_left 1
 ·(intro W hW;(try dsimp only at hW);go_simp;try with_reducible rfl)
 try simp only [Act.put,List.setIfInBounds_toArray,List.set_cons_zero,List.set_cons_succ]
 refine wpAnyH_ready (rs:=[22]) (by kernel_rfl) (by simp) ?_
 refine AllReadyH.cons (o:={ dst:=some 39,op:=Op.call { callee:=Callee.value (Operand.func 28),args:=#[Operand.tmp 38],argTypes:=#[23] },type:=3,pos:=_,after:=_,guard:=some (20,true) }) rfl (fun K hK=>?_) AllReadyH.nil
 go_simp
 refine (HMN.out _ HQe.out).mono ?_
 rintro e wg ⟨rfl,rfl⟩
 go_simp
 refine hK.out _ _ hHeld (fun _=>?_)
 clear hK K
 try simp only [Act.put,List.setIfInBounds_toArray,List.set_cons_zero,List.set_cons_succ]
 refine wpAnyH_take (i:=23) (oi:={ dst:=some 40,op:=Op.binOp BinOp.eql 3 (Operand.tmp 39) (Operand.const (Value.int IntKind.i64 8)) 3,type:=4,pos:=_,after:=_,guard:=some (20,true) }) (v:=?_) rfl (by kernel_rfl) (by kernel_rfl) (by kernel_rfl) (fun _ _ _ h=>h) (Or.inl ⟨by rfl,?_⟩) hHeld ?_
 rotate_left 1
 ·(intro W hW;(try dsimp only at hW);go_simp;try with_reducible rfl)
 try simp only [Act.put,List.setIfInBounds_toArray,List.set_cons_zero,List.set_cons_succ]
 refine wpAnyH_take (i:=24) (oi:={ dst:=some 41,op:=Op.pick (Operand.tmp 37) (Operand.tmp 40) (Operand.const (Value.bool false)),type:=4,pos:=_,after:=_,guard:=none }) (v:=?_) rfl (by kernel_rfl) (by kernel_rfl) (by kernel_rfl) (fun _ _ _ h=>h) (Or.inl ⟨by rfl,?_⟩) hHeld ?_
 rotate_left 1
 ·(intro W hW;(try dsimp only at hW);go_simp;try with_reducible rfl)
 try simp only [Act.put,List.setIfInBounds_toArray,List.set_cons_zero,List.set_cons_succ]
 refine wpAnyH_take (i:=25) (oi:={ dst:=some 42,op:=Op.move (Operand.tmp 41),type:=4,pos:=_,after:=_,guard:=none }) (v:=?_) rfl (by kernel_rfl) (by kernel_rfl) (by kernel_rfl) (fun _ _ _ h=>h) (Or.inl ⟨by rfl,?_⟩) hHeld ?_
 rotate_left 1
 ·(intro W hW;(try dsimp only at hW);go_simp;try with_reducible rfl)
 try simp only [Act.put,List.setIfInBounds_toArray,List.set_cons_zero,List.set_cons_succ]
 refine wpAnyH_take (i:=26) (oi:={ dst:=some 43,op:=Op.move (Operand.tmp 1),type:=23,pos:=_,after:=_,guard:=some (25,true) }) (v:=?_) rfl (by kernel_rfl) (by kernel_rfl) (by kernel_rfl) (fun _ _ _ h=>h) (Or.inl ⟨by rfl,?_⟩) hHeld ?_
 rotate_left 1
 ·(intro W hW;(try dsimp only at hW);go_simp;try with_reducible rfl)
 try simp only [Act.put,List.setIfInBounds_toArray,List.set_cons_zero,List.set_cons_succ]
 refine wpAnyH_ready (rs:=[27]) (by kernel_rfl) (by simp) ?_
 refine AllReadyH.cons (o:={ dst:=some 44,op:=Op.call { callee:=Callee.value (Operand.func 29),args:=#[Operand.tmp 43,Operand.const (Value.int IntKind.i64 8)],argTypes:=#[23,3] },type:=40,pos:=_,after:=_,guard:=some (25,true) }) rfl (fun K hK=>?_) AllReadyH.nil
 go_simp
 refine (HRN.out _ HQe.out).mono ?_
 rintro e wh ⟨Ah,ch,rfl,hbh⟩
 have HQh:=Lib.hid (HQe.out.trans (hbh.mono HQe.out.size))
 have HBh:=Lib.hid hbh
 clear hbh
 go_simp
 refine hK.out _ _ (HBh.out) (fun _=>?_)
 clear hK K hHeld
 try simp only [Act.put,List.setIfInBounds_toArray,List.set_cons_zero,List.set_cons_succ]
 refine wpAnyH_strong (S':=fun W=>Below wh.heap.size wh W) (fun W hW=>HBh.out.trans (hW.mono HBh.out.size)) _ _ _ _ ?_
 have hHeld:(fun W=>Below wh.heap.size wh W) _:=Below.refl _ _
 refine wpAnyH_take (i:=28) (oi:={ dst:=some 45,op:=Op.call { callee:=Callee.builtin Builtin.len,args:=#[Operand.tmp 44],argTypes:=#[40] },type:=3,pos:=_,after:=_,guard:=some (25,true) }) (v:=?_) rfl (by kernel_rfl) (by kernel_rfl) (by kernel_rfl) (fun _ _ _ h=>h) (Or.inl ⟨by rfl,?_⟩) hHeld ?_
 rotate_left 1
 ·(intro W hW;(try dsimp only at hW);go_simp;try with_reducible rfl)
 try simp only [Act.put,List.setIfInBounds_toArray,List.set_cons_zero,List.set_cons_succ]
 refine wpAnyH_take (i:=29) (oi:={ dst:=some 46,op:=Op.binOp BinOp.eql 3 (Operand.tmp 45) (Operand.const (Value.int IntKind.i64 0)) 3,type:=4,pos:=_,after:=_,guard:=some (25,true) }) (v:=?_) rfl (by kernel_rfl) (by kernel_rfl) (by kernel_rfl) (fun _ _ _ h=>h) (Or.inl ⟨by rfl,?_⟩) hHeld ?_
 rotate_left 1
 ·(intro W hW;(try dsimp only at hW);go_simp;try with_reducible rfl)
 try simp only [Act.put,List.setIfInBounds_toArray,List.set_cons_zero,List.set_cons_succ]
 refine wpAnyH_take (i:=30) (oi:={ dst:=some 47,op:=Op.pick (Operand.tmp 42) (Operand.tmp 46) (Operand.const (Value.bool false)),type:=4,pos:=_,after:=_,guard:=none }) (v:=?_) rfl (by kernel_rfl) (by kernel_rfl) (by kernel_rfl) (fun _ _ _ h=>h) (Or.inl ⟨by rfl,?_⟩) hHeld ?_
 rotate_left 1
 ·(intro W hW;(try dsimp only at hW);go_simp;try with_reducible rfl)
 try simp only [Act.put,List.setIfInBounds_toArray,List.set_cons_zero,List.set_cons_succ]
 refine wpAnyH_take (i:=31) (oi:={ dst:=some 0,op:=Op.assign (Operand.tmp 47),type:=4,pos:=_,after:=_,guard:=none }) (v:=?_) rfl (by kernel_rfl) (by kernel_rfl) (by kernel_rfl) (fun _ _ _ h=>h) (Or.inl ⟨by rfl,?_⟩) hHeld ?_
 rotate_left 1
 ·(intro W hW;(try dsimp only at hW);go_simp;try with_reducible rfl)
 try simp only [Act.put,List.setIfInBounds_toArray,List.set_cons_zero,List.set_cons_succ]
 refine wpAnyH_done (by kernel_rfl) ?_ _
 refine NoPanic.normal ?_
 go_wp2_with fail
 go_ret
 exact ⟨rfl,HB5.out.trans (HQh.out.mono HB5.out.size)⟩
end Go.Proofs.Ytkmbgbbmhpidkaa
namespace Go.Proofs.Ytkmbgbbmhpidkaa
open Go.RowKit Go.Shelf
set_option linter.unusedVariables false
set_option linter.unusedSimpArgs false

/-- A row of writes that grows, behind V; what it tells lies from B on. -/
structure Wrs (V W:World) (B:Nat) (A:Option Addr) (c:Nat) (l:List Wr):Prop where
 own:OwnV 42 2 W A c l.length (l.flatMap wrCells)
 dat:∀ x∈l,Rd .u8 W W.heap.size x.da x.dc x.d∧∀ b o,x.da=some ⟨b,o,none⟩→B≤b∧b<W.heap.size∧blockOf A≠some b
 blk:∀ g,blockOf A=some g→V.heap.size≤g
 bel:Below V.heap.size V W
section
variable {V W W':World} {B:Nat} {A:Option Addr} {c:Nat} {l:List Wr}
theorem Wrs.nil (V:World) (B:Nat):Wrs V V B none 0 []:=⟨OwnV.nil _ _ _,(fun x hx=>by cases hx),(fun g hg=>by simp [blockOf] at hg),Below.refl _ _⟩
theorem Wrs.under (h:Wrs V W B A c l) (hb:Below W.heap.size W W'):Wrs V W' B A c l :=
 ⟨h.own.keep fun g _ hg=>hb.block g hg,fun x hx=>⟨((h.dat x hx).1.under hb).more hb.size,fun b o e=>by
  have:=(h.dat x hx).2 b o e
  exact ⟨this.1,Nat.lt_of_lt_of_le this.2.1 hb.size,this.2.2⟩⟩,h.blk,h.bel.trans (hb.mono h.bel.size)⟩
theorem Wrs.push {W3 W9:World} {x:Wr} {g9 c9:Nat} (h:Wrs V W3 B A c l) (hx:Rd .u8 W3 W3.heap.size x.da x.dc x.d∧∀ b o,x.da=some ⟨b,o,none⟩→B≤b∧b<W3.heap.size∧blockOf A≠some b)
  (ho:OwnV 42 2 W9 (some ⟨g9,0,none⟩) c9 (l.length+1) (l.flatMap wrCells ++ wrCells x)) (hgr:W3.grownBy W9 (blockOf A)) (hat:blockOf A=some g9∨g9=W3.heap.size) :
  Wrs V W9 B (some ⟨g9,0,none⟩) c9 (l ++ [x]):=by
 have hk:∀ b,b<W3.heap.size→blockOf A≠some b→W9.heap[b]?=W3.heap[b]?:=fun b hb hne=>hgr.block b hb fun e=>hne e.symm
 have hd:∀ y:Wr,(Rd .u8 W3 W3.heap.size y.da y.dc y.d∧∀ b o,y.da=some ⟨b,o,none⟩→B≤b∧b<W3.heap.size∧blockOf A≠some b)→Rd .u8 W9 W9.heap.size y.da y.dc y.d∧∀ b o,y.da=some ⟨b,o,none⟩→B≤b∧b<W9.heap.size∧blockOf (some (⟨g9,0,none⟩:Addr))≠some b:=fun y hy=>by
  refine ⟨⟨hy.1.1,hy.1.2.1,fun hn=>?_⟩,fun b o e=>?_⟩
  ·obtain ⟨b,off,e,hlt,hc⟩:=hy.1.2.2 hn
   exact ⟨b,off,e,Nat.lt_of_lt_of_le hlt hgr.size,fun j hj=>(cell_same (hk b hlt ((hy.2 b off e).2.2)) _).trans (hc j hj)⟩
  ·have:=hy.2 b o e
   refine ⟨this.1,Nat.lt_of_lt_of_le this.2.1 hgr.size,fun e2=>?_⟩
   have e3:g9=b:=by simpa [blockOf] using e2
   subst e3
   rcases hat with h1 | h1
   ·exact this.2.2 h1
   ·omega
 refine ⟨by rw [List.length_append,List.flatMap_append];simpa using ho,fun y hy=>?_,fun g hg=>?_,h.bel.trans ⟨hgr.os,hgr.tape,hgr.output,hgr.size,fun b hb=>hk b (Nat.lt_of_lt_of_le hb h.bel.size) fun e=>by have:=h.blk b e;omega⟩⟩
 ·rcases List.mem_append.1 hy with hy | hy
  ·exact hd y (h.dat y hy)
  ·rw [List.mem_singleton.1 hy]
   exact hd x hx
 ·have e:g9=g:=by simpa [blockOf] using hg
  subst e
  rcases hat with h1 | h1
  ·exact h.blk _ h1
  ·have:=h.bel.size
   omega
theorem Wrs.rd (h:Wrs V W B A c l) (hB:B≤V.heap.size):RdWrG B A c l W:=by
 have hm:∀ j,j<l.length→l.getD j default∈l:=fun j hj=>by
  rw [show l.getD j default=l[j] by simp [List.getD,hj]]
  exact List.getElem_mem hj
 have hx:∀ j,j<l.length→l[j]?=some (l.getD j default):=fun j hj=>by simp [List.getD,hj]
 have hf:=fun j (hj:j<l.length) i (hi:i<2)=>flat_at (f:=wrCells) (m:=2) (L:=l) (fun _ _=>rfl) (i:=j) (j:=i) (hx j hj) hi
 refine ⟨⟨h.own.le.1,h.own.le.2,fun j hj=>(h.dat _ (hm j hj)).1,fun hn=>?_⟩,fun hn b o e=>Nat.le_trans hB (h.blk b (by rw [e];rfl)),fun j hj _ b o e=>((h.dat _ (hm j hj)).2 b o e).1⟩
 have h0:=hf 0 hn 0 (by omega)
 obtain ⟨g,hA,hlt,_,_⟩:=h.own.at_ (j:=0) (v:=.int .i64 (l.getD 0 default).at_) (by rw [show (0:Nat)=2*0+0 from rfl,h0];rfl)
 subst hA
 refine ⟨g,0,rfl,hlt,fun j hj=>⟨?_,?_⟩⟩
 ·obtain ⟨g',e,_,hc,_⟩:=h.own.at_ (j:=2*j+0) (v:=.int .i64 (l.getD j default).at_) (by rw [hf j hj 0 (by omega)];rfl)
  injection e with e
  injection e with e
  subst e
  rw [show 0+j*2=2*j+0 by omega]
  exact hc
 ·obtain ⟨g',e,_,hc,_⟩:=h.own.at_ (j:=2*j+1) (v:=.slice (l.getD j default).da (l.getD j default).d.length (l.getD j default).dc) (by rw [hf j hj 1 (by omega)];rfl)
  injection e with e
  injection e with e
  subst e
  rw [show 0+j*2+1=2*j+1 by omega]
  exact hc
end
end Go.Proofs.Ytkmbgbbmhpidkaa
namespace Go.Proofs.Ytkmbgbbmhpidkaa
open Go.RowKit Go.Shelf
set_option linter.unusedVariables false
set_option linter.unusedSimpArgs false
attribute [local go_sem ↓] Go.wp_at_zero Go.wp_at_succ

def kM:Dk:=(fresh 400).format.1
def manyW (n:Nat):List (Int×List Nat):=(List.range n).map fun i:Nat=>((i:Int),secX)
end Go.Proofs.Ytkmbgbbmhpidkaa
namespace Go.Proofs.Ytkmbgbbmhpidkaa
open Go.RowKit Go.Shelf
set_option linter.unusedVariables false
set_option linter.unusedSimpArgs false
attribute [local go_sem ↓] Go.wp_at_zero Go.wp_at_succ

def secI (i:Nat):List Nat:=secOf [i,0,1]
def mostW (f n:Nat):List (Int×List Nat):=(List.range n).map fun i:Nat=>(((f+n - 1 - i:Nat):Int),secI i)
/-- The first j of the writes, their data at blocks o. -/
def mostR (f n:Nat) (o:Nat→Nat) (j:Nat):List Wr:=(List.range j).map fun i:Nat=>⟨((f+n - 1 - i:Nat):Int),some ⟨o i,0,none⟩,64,secI i⟩
end Go.Proofs.Ytkmbgbbmhpidkaa
namespace Go.Proofs.Ytkmbgbbmhpidkaa
open Go.RowKit Go.Shelf
set_option linter.unusedVariables false
set_option linter.unusedSimpArgs false

/-- An iterator whose element x is handed at a world where M x holds. -/
def StopsM {α:Type} (F:Fence) (n:Nat) (P:Program) (gf:Nat) (lb:Array Value) (encs:α→Array Value) (M:α→World→Prop) (Kp:World→World→Prop) (S Sp:List α→Prop) (N:Nat) (w:World):Prop :=
 ∀ (l:Nat) (J Jx:List α→World→Prop) (W:World),Below w.heap.size w W→AbidesFrom W.heap.size J→AbidesFrom W.heap.size Jx →
  (∀ pre x V,J pre V→M x V→pre.length<N→YieldAt F (n - 1) P l (encs x) V fun e V' =>
   (e = .returned (.bool true)∧J (pre ++ [x]) V'∧Kp V V')∨(e = .returned (.bool false)∧Jx (pre ++ [x]) V')) →
  J [] W →
  CallsIn F n P gf (#[.func (.yield l) #[] #[]] ++ lb) W fun e V'=>(∃ v,e = .returned v)∧((∃ xs,S xs∧J xs V')∨(∃ pre,Sp pre∧Jx pre V'))

section
variable {α:Type} {F:Fence} {n:Nat} {P:Program} {g:Operand} {ps:Array Tmp} {assign body:Code} {Q:Exit→Act→World→Prop} {a:Act} {w:World}
/-- The law's two blocks: the loop's record and the row of deferred calls. -/
structure Lp (w:World) (r:Loop) (W:World):Prop where
 lo:W.heap[w.heap.size+1]?=some (.loop r)
 de:W.heap[w.heap.size]?=some (.deferred (some []))
theorem Lp.turn {r:Loop} {W:World} (h:Lp w r W) (r':Loop):Lp w r' (W.putObj (w.heap.size+1) (.loop r')) :=
 ⟨World.putObj_heap_same (Array.getElem?_eq_some_iff.1 h.lo).1,(World.putObj_heap_other (by omega)).trans h.de⟩
theorem Lp.others {r:Loop} {W W':World} (h:Lp w r W) (hk:KeepsOthers W W'):Lp w r W':=⟨hk.same _ _ h.lo rfl,hk.same _ _ h.de rfl⟩
theorem Lp.walks {r:Loop} {W W':World} {row:Option Nat} (h:Lp w r W) (hg:W.grownBy W' row) (hr:∀ q,row=some q→∃ o:Obj,W.heap[q]?=some o∧o.isWalk=true):Lp w r W' :=
 ⟨(grownBy_keeps hg hr h.lo rfl).trans h.lo,(grownBy_keeps hg hr h.de rfl).trans h.de⟩

theorem rangeFuncM (hro:F.round=none) (h1:1≤n) {gf:Nat} {lb:Array Value} (hg:a.eval g = .func (.func gf) #[] lb) (hFg:F.fn gf) (eg:∀ args w,(callFunc gf args).run P w = .ok (.enter gf args) w)
  {encs:α→Array Value} {M:α→World→Prop} {Kp:World→World→Prop} {S Sp:List α→Prop} {N:Nat} (hseq:StopsM F (n - 1) P gf lb encs M Kp S Sp N w)
  (hKt:∀ {A B C:World},Kp A B→Kp B C→Kp A C) (hKb:∀ (W:World) (l:Nat) (o o':Obj),w.heap.size≤l→W.heap[l]?=some o→o.isCells=false→Kp W (W.putObj l o'))
  (hM:∀ (x:α) (W:World) (l:Nat) (o o':Obj),M x W→w.heap.size≤l→W.heap[l]?=some o→o.isCells=false→M x (W.putObj l o'))
  (hps:∀ x,(encs x).size=ps.size)
  (I:List α→World→Prop) (Ix:Code→List α→World→Prop) (hI:OwnFrom w.heap.size I) (hIx:∀ c,OwnFrom w.heap.size (Ix c)) (h0:I [] w) (a₁:α→Act)
  (hassign:∀ (l:Nat) (x:α) (W:World) (K:Act→World→Prop),K (a₁ x) W →
   assign.wpIn (F.inRound l) (n - 1 - 1) P (Exit.then K (fun _ _ _=>False)) { tmps:=(ps.zip (encs x)).foldl (fun t (p,v)=>t.setIfInBounds p v) a.tmps,defers:=[] } W)
  (hbody:∀ (l:Nat) (pre:List α) (x:α) (W:World),I pre W→M x W→pre.length<N→body.wpIn (F.inRound l) (n - 1 - 1) P (ownPostK Kp I Ix (pre ++ [x]) W) (a₁ x) W)
  (hdone:∀ (D:Nat) (xs:List α) (W:World),w.heap.size≤D→S xs→I xs W→W.heap[D]?=some (.deferred (some []))→Q .normal { a with defers:={ target:=.collected D,args:=#[] } :: a.defers } W)
  (hstop:∀ (D:Nat) (c:Code) (pre:List α) (W:World),w.heap.size≤D→Sp pre→Ix c pre W→W.heap[D]?=some (.deferred (some []))→c.wpIn F n P Q { a with defers:={ target:=.collected D,args:=#[] } :: a.defers } W) :
  (Code.rangeFunc g ps assign body).wpIn F n P Q a w:=by
 refine wpIn_rangeFunc fun fn hfn=>?_
 rw [hro]
 obtain ⟨r,hr⟩:∃ r:LoopState→Option Code→Loop,r=fun st pe=>⟨st,pe,fn,a.tmps,ps,assign,body,w.heap.size⟩:=⟨_,rfl⟩
 obtain ⟨U,hU⟩:∃ U,U=(w.alloc (.deferred (some []))).alloc (.loop (r .ready none)):=⟨_,rfl⟩
 have hsz:(w.alloc (.deferred (some []))).heap.size=w.heap.size+1:=by simp
 have hlp:Lp w (r .ready none) U:=⟨by
  have:=World.alloc_heap_new (w.alloc (.deferred (some []))) (.loop (r .ready none))
  rw [hsz,←hU] at this
  exact this,by
  rw [hU]
  exact (Below.heap_alloc _ _ _ (by omega)).trans (World.alloc_heap_new w _)⟩
 have hus:w.heap.size+2≤U.heap.size:=by rw [hU];simp
 have hbu:Below w.heap.size w U:=by rw [hU];exact ((Below.refl _ w).alloc (Nat.le_refl _) _).alloc (by simp) _
 have hiu:I [] U:=by rw [hU];exact hI.alloc _ (hI.alloc _ h0)
 have hown:∀ {A:World} {row:Option Nat},(∀ q,row=some q→U.heap.size≤q∧∃ o:Obj,A.heap[q]?=some o∧o.isWalk=true)→∀ q,row=some q→w.heap.size≤q∧∃ o:Obj,A.heap[q]?=some o∧o.isCells=false:=fun h q e=>by
  obtain ⟨h1,o,h2,h3⟩:=h q e
  exact ⟨by omega,o,h2,Obj.not_cells_of_walk h3⟩
 have hcall:=hseq (w.heap.size+1) (fun pre W=>I pre W∧Lp w (r .ready none) W) (fun pre W=>∃ c,Ix c pre W∧Lp w (r .done (some c)) W) U hbu
  (fun s A B row hs hgr hrow=>⟨hI s A B row hs.1 hgr (hown (A:=A) hrow),hs.2.walks hgr fun q e=>(hrow q e).2⟩)
  (fun s A B row ⟨c,hc,hl⟩ hgr hrow=>⟨c,hIx c s A B row hc hgr (hown (A:=A) hrow),hl.walks hgr fun q e=>(hrow q e).2⟩)
  (fun pre x V hj hm hlen=>by
   obtain ⟨hi,hl⟩:=hj
   have hy:=run_yield (P:=P) (args:=encs x) hl.lo (by rw [hr];exact hps x)
   rw [hr] at hy
   refine ⟨fn,_,assign,body,hy,roundIn_of_wpIn hfn (hassign _ x V _ ⟨_,run_beginRound hl.lo (by rw [hr]),?_⟩)⟩
   have hbusy:{ r .ready none with state:=.busy }=r .busy none:=by rw [hr]
   rw [hbusy]
   have hl2:=hl.turn (r .busy none)
   refine wpIn_mono (hbody _ pre x _ (hI.putObj _ hi (by omega) hl.lo rfl) (hM x V _ _ _ hm (by omega) hl.lo rfl) hlen) fun e a3 W3 hp=>?_
   have hend:∀ (j:Option Code),KeepsOthers (V.putObj (w.heap.size+1) (.loop (r .busy none))) W3→Lp w (r .busy none) W3∧(Instr.endRound (w.heap.size+1) j).run P W3 = .ok (.bool j.isNone) (W3.putObj (w.heap.size+1) (.loop (r (if j.isNone then .ready else .done) j))):=fun j hk=>by
    have h3:=hl2.others hk
    have:=run_endRound (P:=P) j h3.lo
    rw [hr] at this ⊢
    exact ⟨by rw [hr] at h3;exact h3,this⟩
   have hout:∀ c:Code,KeepsOthers (V.putObj (w.heap.size+1) (.loop (r .busy none))) W3→Ix c (pre ++ [x]) W3→∃ v W4,(Instr.endRound (w.heap.size+1) (some c)).run P W3 = .ok v W4∧v = .bool false∧∃ c,Ix c (pre ++ [x]) W4∧Lp w (r .done (some c)) W4:=fun c hk hx=>by
    obtain ⟨h3,h4⟩:=hend (some c) hk
    exact ⟨_,_,h4,rfl,c,(hIx c).putObj _ hx (by omega) h3.lo rfl,h3.turn _⟩
   cases e with
   | normal =>
    obtain ⟨hk,hkp,hi3⟩:=hp
    obtain ⟨h3,h4⟩:=hend none hk
    exact ⟨_,_,h4,.inl ⟨rfl,⟨hI.putObj _ hi3 (by omega) h3.lo rfl,h3.turn _⟩,hKt (hKt (hKb _ _ _ _ (by omega) hl.lo rfl) hkp) (hKb _ _ _ _ (by omega) h3.lo rfl)⟩⟩
   | ret=>obtain ⟨v,W4,h4,rfl,h5⟩:=hout _ hp.1 hp.2;exact ⟨_,_,h4,.inr ⟨rfl,h5⟩⟩
   | exit id=>obtain ⟨v,W4,h4,rfl,h5⟩:=hout _ hp.1 hp.2;exact ⟨_,_,h4,.inr ⟨rfl,h5⟩⟩
   | goto t=>obtain ⟨v,W4,h4,rfl,h5⟩:=hout _ hp.1 hp.2;exact ⟨_,_,h4,.inr ⟨rfl,h5⟩⟩
   | panic ch=>exact hp.elim
   | outgrown=>exact hp.elim)
  ⟨hiu,hlp⟩
 refine ⟨w.heap.size+1,[{ target:=.collected w.heap.size,args:=#[] }],U,{ target:=.fn (.func gf) lb,args:=#[.func (.yield (w.heap.size+1)) #[] #[]] },U,gf,#[.func (.yield (w.heap.size+1)) #[] #[]] ++ lb,U,
  ?_,?_,?_,?_,fun _=>h1,?_⟩
 ·rw [hU,hr]
  exact run_enterLoop_outer _ _ _ _ _
 ·simp only [resolve,hg]
  simp [go_sem]
 ·intro f' hf'
  simp [Target.leads] at hf'
  rw [←hf']
  exact hFg
 ·simp [invoke,go_sem,eg]
 ·refine hcall.mono ?_
  rintro e W2 ⟨⟨v,rfl⟩,h⟩
  rcases h with ⟨xs,hS,hi,hl⟩ | ⟨pre,hSp,c,hi,hl⟩
  ·have h5:=run_endLoop (P:=P) hl.lo (by rw [hr];simp)
   rw [hr] at h5
   exact ⟨none,_,h5,hdone _ xs _ (Nat.le_refl _) hS (hI.putObj _ hi (by omega) hl.lo rfl) ((World.putObj_heap_other (by omega)).trans hl.de)⟩
  ·have h5:=run_endLoop (P:=P) hl.lo (by rw [hr];simp)
   rw [hr] at h5
   exact ⟨some c,_,h5,hstop _ c pre _ (Nat.le_refl _) hSp ((hIx c).putObj _ hi (by omega) hl.lo rfl) ((World.putObj_heap_other (by omega)).trans hl.de)⟩
end
end Go.Proofs.Ytkmbgbbmhpidkaa
