/- Words and laws for the statement, part 11. -/
import Derived.Test.YtkmbgbbmhpidkaaH08
import Derived.Test.YtkmbgbbmhpidkaaH09
namespace Go.Proofs.Ytkmbgbbmhpidkaa
open Go.RowKit Go.Shelf
set_option linter.unusedVariables false
set_option linter.unusedSimpArgs false
attribute [local go_sem ↓] Go.wp_at_zero Go.wp_at_succ

section
variable {w:World} {F:Nat→Prop} {gx:Nat} {s:Dk}
set_option maxRecDepth 100000 in
set_option maxHeartbeats 16000000 in
theorem open'_any (h:Ref w F gx s) (h64:∀ i:Nat,i<s.now.length→(s.read (i:Int)).length=64) (hoc:∀ i:Nat,Oct1 (s.read (i:Int))) (hwl:s.waits.length≤60000) (hops:s.ops≤600000000) :
  Calls Try.prog 17 #[.pointer (some ⟨gx,0,none⟩)] w fun e w'=>e = .returned (.int .i64 ((s.open_).2:Nat))∧RJ w F gx (s.open_).1 w':=by
 have HH:=Lib.hid h
 obtain ⟨gS,cS,_,_,k6⟩:=h.cells
 have HWL:=Lib.hid (And.intro hwl hops)
 clear hwl hops
 by_cases hdn:s.down=true
 ·rw [show s.open_=(s,6) by unfold Dk.open_;rw [if_pos hdn]]
  rw [hdn] at k6
  clear h64 hoc h
  go_enter Try.func17,Try.ntmps17
  go_wp2_with fail
  go_ret
  exact ⟨rfl,RJ.start HH.out⟩
 have hdn':s.down=false:=by simpa using hdn
 rw [hdn'] at k6
 have HMN:Hid (∀ W,Below w.heap.size w W→Calls Try.prog 50 #[.pointer (some ⟨gx,0,none⟩)] W fun e w'=>e = .returned (.int .i64 (s.many:Int))∧W=w'):=Lib.hid fun W hW=>rmany (h.under hW)
 by_cases hm:s.many=0
 ·rw [show s.open_=(s,13) by unfold Dk.open_;rw [if_neg hdn,if_pos (.inl hm)]]
  rw [hm] at HMN
  clear h64 hoc h hm hdn hdn'
  go_enter Try.func17,Try.ntmps17
  go_wp2_with fail
  refine wp_region_noPanic ?_
  refine wp_region_held_drew (S:=fun _=>True) (by kernel_rfl) trivial (fun hHeld=>?_)
  refine wpAnyH_take (i:=0) (oi:={ dst:=some 10,op:=Op.move (Operand.tmp 0),type:=25,pos:=_,after:=_,guard:=none }) (v:=?_) rfl (by kernel_rfl) (by kernel_rfl) (by kernel_rfl) (fun _ _ _ h=>h) (Or.inl ⟨by rfl,?_⟩) hHeld ?_
  rotate_left 1
  ·(intro W hW;(try dsimp only at hW);go_simp;try with_reducible rfl)
  try simp only [Act.put,List.setIfInBounds_toArray,List.set_cons_zero,List.set_cons_succ]
  refine wpAnyH_ready (rs:=[1]) (by kernel_rfl) (by simp) ?_
  refine AllReadyH.cons (o:={ dst:=some 11,op:=Op.call { callee:=Callee.value (Operand.func 50),args:=#[Operand.tmp 10],argTypes:=#[25] },type:=3,pos:=_,after:=_,guard:=none }) rfl (fun K hK=>?_) AllReadyH.nil
  go_simp
  refine (HMN.out _ (Below.refl _ w).drew).mono ?_
  rintro e wq ⟨rfl,rfl⟩
  go_simp
  refine hK.out _ _ hHeld (fun _=>?_)
  clear hK K
  try simp only [Act.put,List.setIfInBounds_toArray,List.set_cons_zero,List.set_cons_succ]
  refine wpAnyH_take (i:=2) (oi:={ dst:=some 12,op:=Op.binOp BinOp.eql 3 (Operand.tmp 11) (Operand.const (Value.int IntKind.i64 0)) 3,type:=4,pos:=_,after:=_,guard:=none }) (v:=?_) rfl (by kernel_rfl) (by kernel_rfl) (by kernel_rfl) (fun _ _ _ h=>h) (Or.inl ⟨by rfl,?_⟩) hHeld ?_
  rotate_left 1
  ·(intro W hW;(try dsimp only at hW);go_simp;try with_reducible rfl)
  try simp only [Act.put,List.setIfInBounds_toArray,List.set_cons_zero,List.set_cons_succ]
  refine wpAnyH_take (i:=3) (oi:={ dst:=some 13,op:=Op.move (Operand.tmp 12),type:=4,pos:=_,after:=_,guard:=none }) (v:=?_) rfl (by kernel_rfl) (by kernel_rfl) (by kernel_rfl) (fun _ _ _ h=>h) (Or.inl ⟨by rfl,?_⟩) hHeld ?_
  rotate_left 1
  ·(intro W hW;(try dsimp only at hW);go_simp;try with_reducible rfl)
  try simp only [Act.put,List.setIfInBounds_toArray,List.set_cons_zero,List.set_cons_succ]
  refine wpAnyH_take (i:=4) (oi:={ dst:=some 14,op:=Op.move (Operand.tmp 0),type:=25,pos:=_,after:=_,guard:=some (3,false) }) (v:=undef) rfl (by kernel_rfl) (by kernel_rfl) (by kernel_rfl) (fun _ _ _ h=>h) (Or.inr ⟨by rfl,rfl⟩) hHeld ?_
  try simp only [Act.put,List.setIfInBounds_toArray,List.set_cons_zero,List.set_cons_succ]
  refine wpAnyH_take (i:=5) (oi:={ dst:=some 15,op:=Op.call { callee:=Callee.value (Operand.func 51),args:=#[Operand.tmp 14,Operand.const (Value.int IntKind.i64 0)],argTypes:=#[25,3] },type:=40,pos:=_,after:=_,guard:=some (3,false) }) (v:=undef) rfl (by kernel_rfl) (by kernel_rfl) (by kernel_rfl) (fun _ _ _ h=>h) (Or.inr ⟨by rfl,rfl⟩) hHeld ?_
  try simp only [Act.put,List.setIfInBounds_toArray,List.set_cons_zero,List.set_cons_succ]
  refine wpAnyH_take (i:=6) (oi:={ dst:=some 16,op:=Op.convert 40 9 (Operand.tmp 15),type:=9,pos:=_,after:=_,guard:=some (3,false) }) (v:=undef) rfl (by kernel_rfl) (by kernel_rfl) (by kernel_rfl) (fun _ _ _ h=>h) (Or.inr ⟨by rfl,rfl⟩) hHeld ?_
  try simp only [Act.put,List.setIfInBounds_toArray,List.set_cons_zero,List.set_cons_succ]
  refine wpAnyH_take (i:=7) (oi:={ dst:=some 17,op:=Op.buildSlice 40 4 #[(0,Operand.const (Value.int IntKind.u8 97)),(1,Operand.const (Value.int IntKind.u8 112)),(2,Operand.const (Value.int IntKind.u8 115)),(3,Operand.const (Value.int IntKind.u8 116))],type:=40,pos:=_,after:=_,guard:=some (3,false) }) (v:=undef) rfl (by kernel_rfl) (by kernel_rfl) (by kernel_rfl) (fun _ _ _ h=>h) (Or.inr ⟨by rfl,rfl⟩) hHeld ?_
  try simp only [Act.put,List.setIfInBounds_toArray,List.set_cons_zero,List.set_cons_succ]
  refine wpAnyH_take (i:=8) (oi:={ dst:=some 18,op:=Op.convert 40 40 (Operand.tmp 17),type:=40,pos:=_,after:=_,guard:=some (3,false) }) (v:=undef) rfl (by kernel_rfl) (by kernel_rfl) (by kernel_rfl) (fun _ _ _ h=>h) (Or.inr ⟨by rfl,rfl⟩) hHeld ?_
  try simp only [Act.put,List.setIfInBounds_toArray,List.set_cons_zero,List.set_cons_succ]
  refine wpAnyH_take (i:=9) (oi:={ dst:=some 19,op:=Op.call { callee:=Callee.value (Operand.func 39),args:=#[Operand.tmp 18],argTypes:=#[40] },type:=40,pos:=_,after:=_,guard:=some (3,false) }) (v:=undef) rfl (by kernel_rfl) (by kernel_rfl) (by kernel_rfl) (fun _ _ _ h=>h) (Or.inr ⟨by rfl,rfl⟩) hHeld ?_
  try simp only [Act.put,List.setIfInBounds_toArray,List.set_cons_zero,List.set_cons_succ]
  refine wpAnyH_take (i:=10) (oi:={ dst:=some 20,op:=Op.convert 40 9 (Operand.tmp 19),type:=9,pos:=_,after:=_,guard:=some (3,false) }) (v:=undef) rfl (by kernel_rfl) (by kernel_rfl) (by kernel_rfl) (fun _ _ _ h=>h) (Or.inr ⟨by rfl,rfl⟩) hHeld ?_
  try simp only [Act.put,List.setIfInBounds_toArray,List.set_cons_zero,List.set_cons_succ]
  refine wpAnyH_take (i:=11) (oi:={ dst:=some 21,op:=Op.binOp BinOp.neq 9 (Operand.tmp 16) (Operand.tmp 20) 9,type:=4,pos:=_,after:=_,guard:=some (3,false) }) (v:=undef) rfl (by kernel_rfl) (by kernel_rfl) (by kernel_rfl) (fun _ _ _ h=>h) (Or.inr ⟨by rfl,rfl⟩) hHeld ?_
  try simp only [Act.put,List.setIfInBounds_toArray,List.set_cons_zero,List.set_cons_succ]
  refine wpAnyH_take (i:=12) (oi:={ dst:=some 22,op:=Op.pick (Operand.tmp 13) (Operand.const (Value.bool true)) (Operand.tmp 21),type:=4,pos:=_,after:=_,guard:=none }) (v:=?_) rfl (by kernel_rfl) (by kernel_rfl) (by kernel_rfl) (fun _ _ _ h=>h) (Or.inl ⟨by rfl,?_⟩) hHeld ?_
  rotate_left 1
  ·(intro W hW;(try dsimp only at hW);go_simp;try with_reducible rfl)
  try simp only [Act.put,List.setIfInBounds_toArray,List.set_cons_zero,List.set_cons_succ]
  refine wpAnyH_done (by kernel_rfl) ?_ _
  refine NoPanic.normal ?_
  go_wp2_with fail
  go_ret
  exact ⟨rfl,(RJ.start HH.out).below (Below.refl _ w).drew⟩
 have hlen:157<s.now.length:=by unfold Dk.many at hm;omega
 have HRD:Hid (∀ W,Below w.heap.size w W→∀ j:Nat,j<s.now.length→Calls Try.prog 51 #[.pointer (some ⟨gx,0,none⟩),.int .i64 (j:Int)] W fun e w'=>∃ A' c',e = .returned (.slice A' 64 c')∧Rd .u8 w' w'.heap.size A' c' (s.read (j:Int))∧Below W.heap.size W w'∧∀ g,blockOf A'=some g→W.heap.size≤g):=Lib.hid fun W hW j hj=>by
  have:=ref_readN (h.under hW) (by have:=HWL.out.1;omega) (j:Int) _ rfl
  rw [h64 j hj] at this
  exact this
 obtain ⟨m,hm2⟩:∃ m,m=s.many:=⟨_,rfl⟩
 rw [←hm2] at HMN
 have hm0:((m:Int) == 0)=false:=by rw [beq_eq_false_iff_ne];omega
 have H64:=Lib.hid h64
 have HOC:=Lib.hid hoc
 have HLEN:=Lib.hid hlen
 have HL0:Hid (0<s.now.length):=Lib.hid (by omega)
 have HL64:Hid ((s.read ((0:Nat):Int)).length=64):=Lib.hid (h64 0 (by omega))
 have HO0:Hid (Oct1 (s.read ((0:Nat):Int))):=Lib.hid (hoc 0)
 have HLa:Hid (apstB.length=64):=Lib.hid (secOf_length _)
 have HOa:=Lib.hid apst_oct
 obtain ⟨z1,hz1⟩:∃ z,z=str (s.read ((0:Nat):Int)):=⟨_,rfl⟩
 obtain ⟨zA,hzA⟩:∃ z,z=str apstB:=⟨_,rfl⟩
 have HZ1:=Lib.hid hz1
 have HZA:=Lib.hid hzA
 obtain ⟨bl,hbl⟩:∃ b,b=(z1.toList == zA.toList):=⟨_,rfl⟩
 have HBL:=Lib.hid hbl
 have hq1:=hbl.symm
 have HDN:=Lib.hid hdn
 have HM0:=Lib.hid (And.intro hm hm2)
 clear h64 hoc h hm hdn hdn' hz1 hzA hbl hlen hm2
 go_enter Try.func17,Try.ntmps17
 go_wp2_with fail
 refine Code.wp_mono (Q:=fun e a W=>e = .normal∧a.tmps=#[.pointer (some ⟨gx,0,none⟩),a.tmps.getD 1 undef,.int .i64 0,a.tmps.getD 3 undef,a.tmps.getD 4 undef,a.tmps.getD 5 undef,a.tmps.getD 6 undef,a.tmps.getD 7 undef,a.tmps.getD 8 undef,a.tmps.getD 9 undef,a.tmps.getD 10 undef,a.tmps.getD 11 undef,a.tmps.getD 12 undef,a.tmps.getD 13 undef,a.tmps.getD 14 undef,a.tmps.getD 15 undef,a.tmps.getD 16 undef,a.tmps.getD 17 undef,a.tmps.getD 18 undef,a.tmps.getD 19 undef,a.tmps.getD 20 undef,a.tmps.getD 21 undef,.bool (!bl),a.tmps.getD 23 undef,a.tmps.getD 24 undef,a.tmps.getD 25 undef,a.tmps.getD 26 undef,a.tmps.getD 27 undef,a.tmps.getD 28 undef,a.tmps.getD 29 undef,a.tmps.getD 30 undef,a.tmps.getD 31 undef,a.tmps.getD 32 undef,a.tmps.getD 33 undef,a.tmps.getD 34 undef,a.tmps.getD 35 undef,a.tmps.getD 36 undef,a.tmps.getD 37 undef,a.tmps.getD 38 undef,a.tmps.getD 39 undef,a.tmps.getD 40 undef]∧a.defers=[]∧Below w.heap.size w W) ?_ ?_
 rotate_left 1
 ·clear k6 H64 HOC HDN HM0 HLEN HBL
  refine wp_region_noPanic ?_
  refine wp_region_held_drew (S:=fun W=>Below w.heap.size w W) (by kernel_rfl) ((Below.refl _ w).drew) (fun hHeld=>?_)
  refine wpAnyH_take (i:=0) (oi:={ dst:=some 10,op:=Op.move (Operand.tmp 0),type:=25,pos:=_,after:=_,guard:=none }) (v:=?_) rfl (by kernel_rfl) (by kernel_rfl) (by kernel_rfl) (fun _ _ _ h=>h) (Or.inl ⟨by rfl,?_⟩) hHeld ?_
  rotate_left 1
  ·(intro W hW;(try dsimp only at hW);go_simp;try with_reducible rfl)
  try simp only [Act.put,List.setIfInBounds_toArray,List.set_cons_zero,List.set_cons_succ]
  refine wpAnyH_ready (rs:=[1]) (by kernel_rfl) (by simp) ?_
  refine AllReadyH.cons (o:={ dst:=some 11,op:=Op.call { callee:=Callee.value (Operand.func 50),args:=#[Operand.tmp 10],argTypes:=#[25] },type:=3,pos:=_,after:=_,guard:=none }) rfl (fun K hK=>?_) AllReadyH.nil
  obtain ⟨y,hy⟩:∃ y,y=w.drew:=⟨_,rfl⟩
  rw [←hy]
  have HQ:Hid (Below w.heap.size w y):=Lib.hid (by rw [hy];exact (Below.refl _ w).drew)
  clear hy
  go_simp
  refine (HMN.out y HQ.out).mono ?_
  rintro e wq ⟨rfl,rfl⟩
  go_simp
  refine hK.out _ _ (HQ.out) (fun hHeld=>?_)
  clear hK K
  try simp only [Act.put,List.setIfInBounds_toArray,List.set_cons_zero,List.set_cons_succ]
  refine wpAnyH_take (i:=2) (oi:={ dst:=some 12,op:=Op.binOp BinOp.eql 3 (Operand.tmp 11) (Operand.const (Value.int IntKind.i64 0)) 3,type:=4,pos:=_,after:=_,guard:=none }) (v:=?_) rfl (by kernel_rfl) (by kernel_rfl) (by kernel_rfl) (fun _ _ _ h=>h) (Or.inl ⟨by rfl,?_⟩) hHeld ?_
  rotate_left 1
  ·(intro W hW;(try dsimp only at hW);go_simp;try with_reducible rfl)
  try simp only [Act.put,List.setIfInBounds_toArray,List.set_cons_zero,List.set_cons_succ]
  refine wpAnyH_take (i:=3) (oi:={ dst:=some 13,op:=Op.move (Operand.tmp 12),type:=4,pos:=_,after:=_,guard:=none }) (v:=?_) rfl (by kernel_rfl) (by kernel_rfl) (by kernel_rfl) (fun _ _ _ h=>h) (Or.inl ⟨by rfl,?_⟩) hHeld ?_
  rotate_left 1
  ·(intro W hW;(try dsimp only at hW);go_simp;try with_reducible rfl)
  try simp only [Act.put,List.setIfInBounds_toArray,List.set_cons_zero,List.set_cons_succ]
  refine wpAnyH_take (i:=4) (oi:={ dst:=some 14,op:=Op.move (Operand.tmp 0),type:=25,pos:=_,after:=_,guard:=some (3,false) }) (v:=?_) rfl (by kernel_rfl) (by kernel_rfl) (by kernel_rfl) (fun _ _ _ h=>h) (Or.inl ⟨by rfl,?_⟩) hHeld ?_
  rotate_left 1
  ·(intro W hW;(try dsimp only at hW);go_simp;try with_reducible rfl)
  try simp only [Act.put,List.setIfInBounds_toArray,List.set_cons_zero,List.set_cons_succ]
  refine wpAnyH_ready (rs:=[5,7]) (by kernel_rfl) (by simp) ?_
  refine AllReadyH.cons (o:={ dst:=some 15,op:=Op.call { callee:=Callee.value (Operand.func 51),args:=#[Operand.tmp 14,Operand.const (Value.int IntKind.i64 0)],argTypes:=#[25,3] },type:=40,pos:=_,after:=_,guard:=some (3,false) }) rfl (fun K hK=>?_) ?_
  go_simp
  refine (HRD.out y HQ.out 0 HL0.out).mono ?_
  rintro e wr ⟨Ar,cr,rfl,hrr,hbr,_⟩
  have HRr:=Lib.hid hrr
  have HBn:=Lib.hid hbr
  clear hrr hbr
  have HQ:=Lib.hid (HQ.out.trans (HBn.out.mono HQ.out.size))
  clear HBn
  go_simp
  refine hK.out _ _ (HQ.out) (fun hHeld=>?_)
  clear hK K
  try simp only [Act.put,List.setIfInBounds_toArray,List.set_cons_zero,List.set_cons_succ]
  refine wpAnyH_ready (rs:=[6,7]) (by kernel_rfl) (by simp) ?_
  refine AllReadyH.cons (o:={ dst:=some 16,op:=Op.convert 40 9 (Operand.tmp 15),type:=9,pos:=_,after:=_,guard:=some (3,false) }) rfl (fun K hK=>?_) ?_
  have hcv:=conv_str HRr.out HL64.out HO0.out
  rw [←HZ1.out] at hcv
  go_simp
  clear hcv
  refine hK.out _ _ (HQ.out) (fun hHeld=>?_)
  clear hK K
  try simp only [Act.put,List.setIfInBounds_toArray,List.set_cons_zero,List.set_cons_succ]
  refine wpAnyH_ready (rs:=[7]) (by kernel_rfl) (by simp) ?_
  refine AllReadyH.cons (o:={ dst:=some 17,op:=Op.buildSlice 40 4 #[(0,Operand.const (Value.int IntKind.u8 97)),(1,Operand.const (Value.int IntKind.u8 112)),(2,Operand.const (Value.int IntKind.u8 115)),(3,Operand.const (Value.int IntKind.u8 116))],type:=40,pos:=_,after:=_,guard:=some (3,false) }) rfl (fun K hK=>?_) AllReadyH.nil
  go_simp
  have hbd:Below wr.heap.size wr (wr.alloc (.cells #[.int .u8 97,.int .u8 112,.int .u8 115,.int .u8 116] 5)):=(Below.refl _ _).alloc (Nat.le_refl _) _
  have hfd:Holds (wr.alloc (.cells #[.int .u8 97,.int .u8 112,.int .u8 115,.int .u8 116] 5)) wr.heap.size 5 #[.int .u8 97,.int .u8 112,.int .u8 115,.int .u8 116]:=Holds.fresh _ _ _
  generalize wr.alloc (.cells #[.int .u8 97,.int .u8 112,.int .u8 115,.int .u8 116] 5)=wd at *
  obtain ⟨gd,hgd⟩:∃ g,g=wr.heap.size:=⟨_,rfl⟩
  rw [←hgd] at hfd ⊢
  have HGd:Hid (w.heap.size≤gd):=Lib.hid (by rw [hgd];exact HQ.out.size)
  clear hgd
  have HFd:=Lib.hid hfd
  have HBn:=Lib.hid hbd
  clear hbd hfd
  have HQ:=Lib.hid (HQ.out.trans (HBn.out.mono HQ.out.size))
  clear HBn
  refine hK.out _ _ (HQ.out) (fun hHeld=>?_)
  clear hK K
  try simp only [Act.put,List.setIfInBounds_toArray,List.set_cons_zero,List.set_cons_succ]
  refine wpAnyH_ready (rs:=[8]) (by kernel_rfl) (by simp) ?_
  refine AllReadyH.cons (o:={ dst:=some 18,op:=Op.convert 40 40 (Operand.tmp 17),type:=40,pos:=_,after:=_,guard:=some (3,false) }) rfl (fun K hK=>?_) AllReadyH.nil
  obtain ⟨wm,hcv,hm,hc,hs⟩:=run_mark wd gd #[.int .u8 97,.int .u8 112,.int .u8 115,.int .u8 116] 4 4 HFd.out
  have hbm:Below w.heap.size w wm:=⟨hm.os.trans HQ.out.os,hm.tape.trans HQ.out.tape,hm.output.trans HQ.out.output,Nat.le_trans HQ.out.size hm.size,fun b hb=>(hm.block b (Nat.lt_of_lt_of_le hb HGd.out)).trans (HQ.out.block b hb)⟩
  go_simp
  clear hcv
  have HQ:=Lib.hid hbm
  have HRm:Hid (Rd .u8 wm wm.heap.size (some ⟨gd,0,none⟩) 4 [97,112,115,116]):=Lib.hid (rd_marked4 HFd.out hc hs)
  clear hbm hm hc hs HFd
  refine hK.out _ _ (HQ.out) (fun hHeld=>?_)
  clear hK K
  try simp only [Act.put,List.setIfInBounds_toArray,List.set_cons_zero,List.set_cons_succ]
  refine wpAnyH_ready (rs:=[9]) (by kernel_rfl) (by simp) ?_
  refine AllReadyH.cons (o:={ dst:=some 19,op:=Op.call { callee:=Callee.value (Operand.func 39),args:=#[Operand.tmp 18],argTypes:=#[40] },type:=40,pos:=_,after:=_,guard:=some (3,false) }) rfl (fun K hK=>?_) AllReadyH.nil
  go_simp
  refine (rsectorR wm _ 4 4 _ rfl HRm.out).mono ?_
  rintro e ws ⟨rfl,hrs,_,hbs⟩
  obtain ⟨gs,hgs⟩:∃ g,g=wm.heap.size:=⟨_,rfl⟩
  rw [←hgs] at hrs ⊢
  clear hgs
  have HRs:Hid (Rd .u8 ws ws.heap.size (some ⟨gs,0,none⟩) 64 apstB):=Lib.hid hrs
  have HBn:=Lib.hid hbs
  clear hrs hbs
  have HQ:=Lib.hid (HQ.out.trans (HBn.out.mono HQ.out.size))
  clear HBn
  go_simp
  refine hK.out _ _ (HQ.out) (fun hHeld=>?_)
  clear hK K
  try simp only [Act.put,List.setIfInBounds_toArray,List.set_cons_zero,List.set_cons_succ]
  refine wpAnyH_ready (rs:=[10]) (by kernel_rfl) (by simp) ?_
  refine AllReadyH.cons (o:={ dst:=some 20,op:=Op.convert 40 9 (Operand.tmp 19),type:=9,pos:=_,after:=_,guard:=some (3,false) }) rfl (fun K hK=>?_) AllReadyH.nil
  have hcv:=conv_str HRs.out HLa.out HOa.out
  rw [←HZA.out] at hcv
  go_simp
  clear hcv
  refine hK.out _ _ (HQ.out) (fun hHeld=>?_)
  clear hK K
  try simp only [Act.put,List.setIfInBounds_toArray,List.set_cons_zero,List.set_cons_succ]
  refine wpAnyH_take (i:=11) (oi:={ dst:=some 21,op:=Op.binOp BinOp.neq 9 (Operand.tmp 16) (Operand.tmp 20) 9,type:=4,pos:=_,after:=_,guard:=some (3,false) }) (v:=?_) rfl (by kernel_rfl) (by kernel_rfl) (by kernel_rfl) (fun _ _ _ h=>h) (Or.inl ⟨by rfl,?_⟩) hHeld ?_
  rotate_left 1
  ·(intro W hW;(try dsimp only at hW);go_simp;try with_reducible rfl)
  try simp only [Act.put,List.setIfInBounds_toArray,List.set_cons_zero,List.set_cons_succ]
  refine wpAnyH_take (i:=12) (oi:={ dst:=some 22,op:=Op.pick (Operand.tmp 13) (Operand.const (Value.bool true)) (Operand.tmp 21),type:=4,pos:=_,after:=_,guard:=none }) (v:=?_) rfl (by kernel_rfl) (by kernel_rfl) (by kernel_rfl) (fun _ _ _ h=>h) (Or.inl ⟨by rfl,?_⟩) hHeld ?_
  rotate_left 1
  ·(intro W hW;(try dsimp only at hW);go_simp;try with_reducible rfl)
  try simp only [Act.put,List.setIfInBounds_toArray,List.set_cons_zero,List.set_cons_succ]
  refine wpAnyH_done (by kernel_rfl) ?_ _
  refine NoPanic.normal ?_
  exact ⟨rfl,rfl,rfl,HQ.out⟩
  refine AllReadyH.cons (o:={ dst:=some 17,op:=Op.buildSlice 40 4 #[(0,Operand.const (Value.int IntKind.u8 97)),(1,Operand.const (Value.int IntKind.u8 112)),(2,Operand.const (Value.int IntKind.u8 115)),(3,Operand.const (Value.int IntKind.u8 116))],type:=40,pos:=_,after:=_,guard:=some (3,false) }) rfl (fun K hK=>?_) AllReadyH.nil
  go_simp
  have hbd:Below wr.heap.size wr (wr.alloc (.cells #[.int .u8 97,.int .u8 112,.int .u8 115,.int .u8 116] 5)):=(Below.refl _ _).alloc (Nat.le_refl _) _
  have hfd:Holds (wr.alloc (.cells #[.int .u8 97,.int .u8 112,.int .u8 115,.int .u8 116] 5)) wr.heap.size 5 #[.int .u8 97,.int .u8 112,.int .u8 115,.int .u8 116]:=Holds.fresh _ _ _
  generalize wr.alloc (.cells #[.int .u8 97,.int .u8 112,.int .u8 115,.int .u8 116] 5)=wd at *
  obtain ⟨gd,hgd⟩:∃ g,g=wr.heap.size:=⟨_,rfl⟩
  rw [←hgd] at hfd ⊢
  have HGd:Hid (w.heap.size≤gd):=Lib.hid (by rw [hgd];exact HQ.out.size)
  clear hgd
  have HFd:=Lib.hid hfd
  have HBn:=Lib.hid hbd
  clear hbd hfd
  have HQ:=Lib.hid (HQ.out.trans (HBn.out.mono HQ.out.size))
  have HRr:=Lib.hid ((HRr.out.under HBn.out).more HBn.out.size)
  clear HBn
  refine hK.out _ _ (HQ.out) (fun hHeld=>?_)
  clear hK K
  try simp only [Act.put,List.setIfInBounds_toArray,List.set_cons_zero,List.set_cons_succ]
  refine wpAnyH_ready (rs:=[6,8]) (by kernel_rfl) (by simp) ?_
  refine AllReadyH.cons (o:={ dst:=some 16,op:=Op.convert 40 9 (Operand.tmp 15),type:=9,pos:=_,after:=_,guard:=some (3,false) }) rfl (fun K hK=>?_) ?_
  have hcv:=conv_str HRr.out HL64.out HO0.out
  rw [←HZ1.out] at hcv
  go_simp
  clear hcv
  refine hK.out _ _ (HQ.out) (fun hHeld=>?_)
  clear hK K
  try simp only [Act.put,List.setIfInBounds_toArray,List.set_cons_zero,List.set_cons_succ]
  refine wpAnyH_ready (rs:=[8]) (by kernel_rfl) (by simp) ?_
  refine AllReadyH.cons (o:={ dst:=some 18,op:=Op.convert 40 40 (Operand.tmp 17),type:=40,pos:=_,after:=_,guard:=some (3,false) }) rfl (fun K hK=>?_) AllReadyH.nil
  obtain ⟨wm,hcv,hm,hc,hs⟩:=run_mark wd gd #[.int .u8 97,.int .u8 112,.int .u8 115,.int .u8 116] 4 4 HFd.out
  have hbm:Below w.heap.size w wm:=⟨hm.os.trans HQ.out.os,hm.tape.trans HQ.out.tape,hm.output.trans HQ.out.output,Nat.le_trans HQ.out.size hm.size,fun b hb=>(hm.block b (Nat.lt_of_lt_of_le hb HGd.out)).trans (HQ.out.block b hb)⟩
  go_simp
  clear hcv
  have HQ:=Lib.hid hbm
  have HRm:Hid (Rd .u8 wm wm.heap.size (some ⟨gd,0,none⟩) 4 [97,112,115,116]):=Lib.hid (rd_marked4 HFd.out hc hs)
  clear hbm hm hc hs HFd
  refine hK.out _ _ (HQ.out) (fun hHeld=>?_)
  clear hK K
  try simp only [Act.put,List.setIfInBounds_toArray,List.set_cons_zero,List.set_cons_succ]
  refine wpAnyH_ready (rs:=[9]) (by kernel_rfl) (by simp) ?_
  refine AllReadyH.cons (o:={ dst:=some 19,op:=Op.call { callee:=Callee.value (Operand.func 39),args:=#[Operand.tmp 18],argTypes:=#[40] },type:=40,pos:=_,after:=_,guard:=some (3,false) }) rfl (fun K hK=>?_) AllReadyH.nil
  go_simp
  refine (rsectorR wm _ 4 4 _ rfl HRm.out).mono ?_
  rintro e ws ⟨rfl,hrs,_,hbs⟩
  obtain ⟨gs,hgs⟩:∃ g,g=wm.heap.size:=⟨_,rfl⟩
  rw [←hgs] at hrs ⊢
  clear hgs
  have HRs:Hid (Rd .u8 ws ws.heap.size (some ⟨gs,0,none⟩) 64 apstB):=Lib.hid hrs
  have HBn:=Lib.hid hbs
  clear hrs hbs
  have HQ:=Lib.hid (HQ.out.trans (HBn.out.mono HQ.out.size))
  clear HBn
  go_simp
  refine hK.out _ _ (HQ.out) (fun hHeld=>?_)
  clear hK K
  try simp only [Act.put,List.setIfInBounds_toArray,List.set_cons_zero,List.set_cons_succ]
  refine wpAnyH_ready (rs:=[10]) (by kernel_rfl) (by simp) ?_
  refine AllReadyH.cons (o:={ dst:=some 20,op:=Op.convert 40 9 (Operand.tmp 19),type:=9,pos:=_,after:=_,guard:=some (3,false) }) rfl (fun K hK=>?_) AllReadyH.nil
  have hcv:=conv_str HRs.out HLa.out HOa.out
  rw [←HZA.out] at hcv
  go_simp
  clear hcv
  refine hK.out _ _ (HQ.out) (fun hHeld=>?_)
  clear hK K
  try simp only [Act.put,List.setIfInBounds_toArray,List.set_cons_zero,List.set_cons_succ]
  refine wpAnyH_take (i:=11) (oi:={ dst:=some 21,op:=Op.binOp BinOp.neq 9 (Operand.tmp 16) (Operand.tmp 20) 9,type:=4,pos:=_,after:=_,guard:=some (3,false) }) (v:=?_) rfl (by kernel_rfl) (by kernel_rfl) (by kernel_rfl) (fun _ _ _ h=>h) (Or.inl ⟨by rfl,?_⟩) hHeld ?_
  rotate_left 1
  ·(intro W hW;(try dsimp only at hW);go_simp;try with_reducible rfl)
  try simp only [Act.put,List.setIfInBounds_toArray,List.set_cons_zero,List.set_cons_succ]
  refine wpAnyH_take (i:=12) (oi:={ dst:=some 22,op:=Op.pick (Operand.tmp 13) (Operand.const (Value.bool true)) (Operand.tmp 21),type:=4,pos:=_,after:=_,guard:=none }) (v:=?_) rfl (by kernel_rfl) (by kernel_rfl) (by kernel_rfl) (fun _ _ _ h=>h) (Or.inl ⟨by rfl,?_⟩) hHeld ?_
  rotate_left 1
  ·(intro W hW;(try dsimp only at hW);go_simp;try with_reducible rfl)
  try simp only [Act.put,List.setIfInBounds_toArray,List.set_cons_zero,List.set_cons_succ]
  refine wpAnyH_done (by kernel_rfl) ?_ _
  refine NoPanic.normal ?_
  exact ⟨rfl,rfl,rfl,HQ.out⟩
  refine AllReadyH.cons (o:={ dst:=some 18,op:=Op.convert 40 40 (Operand.tmp 17),type:=40,pos:=_,after:=_,guard:=some (3,false) }) rfl (fun K hK=>?_) AllReadyH.nil
  obtain ⟨wm,hcv,hm,hc,hs⟩:=run_mark wd gd #[.int .u8 97,.int .u8 112,.int .u8 115,.int .u8 116] 4 4 HFd.out
  have hbm:Below w.heap.size w wm:=⟨hm.os.trans HQ.out.os,hm.tape.trans HQ.out.tape,hm.output.trans HQ.out.output,Nat.le_trans HQ.out.size hm.size,fun b hb=>(hm.block b (Nat.lt_of_lt_of_le hb HGd.out)).trans (HQ.out.block b hb)⟩
  go_simp
  clear hcv
  have HQ:=Lib.hid hbm
  have HRm:Hid (Rd .u8 wm wm.heap.size (some ⟨gd,0,none⟩) 4 [97,112,115,116]):=Lib.hid (rd_marked4 HFd.out hc hs)
  have HRr:=Lib.hid (Rd.more (HRr.out.keep fun b o _=>hc _) (Nat.le_of_eq hs.symm))
  clear hbm hm hc hs HFd
  refine hK.out _ _ (HQ.out) (fun hHeld=>?_)
  clear hK K
  try simp only [Act.put,List.setIfInBounds_toArray,List.set_cons_zero,List.set_cons_succ]
  refine wpAnyH_ready (rs:=[6,9]) (by kernel_rfl) (by simp) ?_
  refine AllReadyH.cons (o:={ dst:=some 16,op:=Op.convert 40 9 (Operand.tmp 15),type:=9,pos:=_,after:=_,guard:=some (3,false) }) rfl (fun K hK=>?_) ?_
  have hcv:=conv_str HRr.out HL64.out HO0.out
  rw [←HZ1.out] at hcv
  go_simp
  clear hcv
  refine hK.out _ _ (HQ.out) (fun hHeld=>?_)
  clear hK K
  try simp only [Act.put,List.setIfInBounds_toArray,List.set_cons_zero,List.set_cons_succ]
  refine wpAnyH_ready (rs:=[9]) (by kernel_rfl) (by simp) ?_
  refine AllReadyH.cons (o:={ dst:=some 19,op:=Op.call { callee:=Callee.value (Operand.func 39),args:=#[Operand.tmp 18],argTypes:=#[40] },type:=40,pos:=_,after:=_,guard:=some (3,false) }) rfl (fun K hK=>?_) AllReadyH.nil
  go_simp
  refine (rsectorR wm _ 4 4 _ rfl HRm.out).mono ?_
  rintro e ws ⟨rfl,hrs,_,hbs⟩
  obtain ⟨gs,hgs⟩:∃ g,g=wm.heap.size:=⟨_,rfl⟩
  rw [←hgs] at hrs ⊢
  clear hgs
  have HRs:Hid (Rd .u8 ws ws.heap.size (some ⟨gs,0,none⟩) 64 apstB):=Lib.hid hrs
  have HBn:=Lib.hid hbs
  clear hrs hbs
  have HQ:=Lib.hid (HQ.out.trans (HBn.out.mono HQ.out.size))
  clear HBn
  go_simp
  refine hK.out _ _ (HQ.out) (fun hHeld=>?_)
  clear hK K
  try simp only [Act.put,List.setIfInBounds_toArray,List.set_cons_zero,List.set_cons_succ]
  refine wpAnyH_ready (rs:=[10]) (by kernel_rfl) (by simp) ?_
  refine AllReadyH.cons (o:={ dst:=some 20,op:=Op.convert 40 9 (Operand.tmp 19),type:=9,pos:=_,after:=_,guard:=some (3,false) }) rfl (fun K hK=>?_) AllReadyH.nil
  have hcv:=conv_str HRs.out HLa.out HOa.out
  rw [←HZA.out] at hcv
  go_simp
  clear hcv
  refine hK.out _ _ (HQ.out) (fun hHeld=>?_)
  clear hK K
  try simp only [Act.put,List.setIfInBounds_toArray,List.set_cons_zero,List.set_cons_succ]
  refine wpAnyH_take (i:=11) (oi:={ dst:=some 21,op:=Op.binOp BinOp.neq 9 (Operand.tmp 16) (Operand.tmp 20) 9,type:=4,pos:=_,after:=_,guard:=some (3,false) }) (v:=?_) rfl (by kernel_rfl) (by kernel_rfl) (by kernel_rfl) (fun _ _ _ h=>h) (Or.inl ⟨by rfl,?_⟩) hHeld ?_
  rotate_left 1
  ·(intro W hW;(try dsimp only at hW);go_simp;try with_reducible rfl)
  try simp only [Act.put,List.setIfInBounds_toArray,List.set_cons_zero,List.set_cons_succ]
  refine wpAnyH_take (i:=12) (oi:={ dst:=some 22,op:=Op.pick (Operand.tmp 13) (Operand.const (Value.bool true)) (Operand.tmp 21),type:=4,pos:=_,after:=_,guard:=none }) (v:=?_) rfl (by kernel_rfl) (by kernel_rfl) (by kernel_rfl) (fun _ _ _ h=>h) (Or.inl ⟨by rfl,?_⟩) hHeld ?_
  rotate_left 1
  ·(intro W hW;(try dsimp only at hW);go_simp;try with_reducible rfl)
  try simp only [Act.put,List.setIfInBounds_toArray,List.set_cons_zero,List.set_cons_succ]
  refine wpAnyH_done (by kernel_rfl) ?_ _
  refine NoPanic.normal ?_
  exact ⟨rfl,rfl,rfl,HQ.out⟩
  refine AllReadyH.cons (o:={ dst:=some 19,op:=Op.call { callee:=Callee.value (Operand.func 39),args:=#[Operand.tmp 18],argTypes:=#[40] },type:=40,pos:=_,after:=_,guard:=some (3,false) }) rfl (fun K hK=>?_) AllReadyH.nil
  go_simp
  refine (rsectorR wm _ 4 4 _ rfl HRm.out).mono ?_
  rintro e ws ⟨rfl,hrs,_,hbs⟩
  obtain ⟨gs,hgs⟩:∃ g,g=wm.heap.size:=⟨_,rfl⟩
  rw [←hgs] at hrs ⊢
  clear hgs
  have HRs:Hid (Rd .u8 ws ws.heap.size (some ⟨gs,0,none⟩) 64 apstB):=Lib.hid hrs
  have HBn:=Lib.hid hbs
  clear hrs hbs
  have HQ:=Lib.hid (HQ.out.trans (HBn.out.mono HQ.out.size))
  have HRr:=Lib.hid ((HRr.out.under HBn.out).more HBn.out.size)
  clear HBn
  go_simp
  refine hK.out _ _ (HQ.out) (fun hHeld=>?_)
  clear hK K
  try simp only [Act.put,List.setIfInBounds_toArray,List.set_cons_zero,List.set_cons_succ]
  refine wpAnyH_ready (rs:=[6,10]) (by kernel_rfl) (by simp) ?_
  refine AllReadyH.cons (o:={ dst:=some 16,op:=Op.convert 40 9 (Operand.tmp 15),type:=9,pos:=_,after:=_,guard:=some (3,false) }) rfl (fun K hK=>?_) ?_
  have hcv:=conv_str HRr.out HL64.out HO0.out
  rw [←HZ1.out] at hcv
  go_simp
  clear hcv
  refine hK.out _ _ (HQ.out) (fun hHeld=>?_)
  clear hK K
  try simp only [Act.put,List.setIfInBounds_toArray,List.set_cons_zero,List.set_cons_succ]
  refine wpAnyH_ready (rs:=[10]) (by kernel_rfl) (by simp) ?_
  refine AllReadyH.cons (o:={ dst:=some 20,op:=Op.convert 40 9 (Operand.tmp 19),type:=9,pos:=_,after:=_,guard:=some (3,false) }) rfl (fun K hK=>?_) AllReadyH.nil
  have hcv:=conv_str HRs.out HLa.out HOa.out
  rw [←HZA.out] at hcv
  go_simp
  clear hcv
  refine hK.out _ _ (HQ.out) (fun hHeld=>?_)
  clear hK K
  try simp only [Act.put,List.setIfInBounds_toArray,List.set_cons_zero,List.set_cons_succ]
  refine wpAnyH_take (i:=11) (oi:={ dst:=some 21,op:=Op.binOp BinOp.neq 9 (Operand.tmp 16) (Operand.tmp 20) 9,type:=4,pos:=_,after:=_,guard:=some (3,false) }) (v:=?_) rfl (by kernel_rfl) (by kernel_rfl) (by kernel_rfl) (fun _ _ _ h=>h) (Or.inl ⟨by rfl,?_⟩) hHeld ?_
  rotate_left 1
  ·(intro W hW;(try dsimp only at hW);go_simp;try with_reducible rfl)
  try simp only [Act.put,List.setIfInBounds_toArray,List.set_cons_zero,List.set_cons_succ]
  refine wpAnyH_take (i:=12) (oi:={ dst:=some 22,op:=Op.pick (Operand.tmp 13) (Operand.const (Value.bool true)) (Operand.tmp 21),type:=4,pos:=_,after:=_,guard:=none }) (v:=?_) rfl (by kernel_rfl) (by kernel_rfl) (by kernel_rfl) (fun _ _ _ h=>h) (Or.inl ⟨by rfl,?_⟩) hHeld ?_
  rotate_left 1
  ·(intro W hW;(try dsimp only at hW);go_simp;try with_reducible rfl)
  try simp only [Act.put,List.setIfInBounds_toArray,List.set_cons_zero,List.set_cons_succ]
  refine wpAnyH_done (by kernel_rfl) ?_ _
  refine NoPanic.normal ?_
  exact ⟨rfl,rfl,rfl,HQ.out⟩
  refine AllReadyH.cons (o:={ dst:=some 20,op:=Op.convert 40 9 (Operand.tmp 19),type:=9,pos:=_,after:=_,guard:=some (3,false) }) rfl (fun K hK=>?_) AllReadyH.nil
  have hcv:=conv_str HRs.out HLa.out HOa.out
  rw [←HZA.out] at hcv
  go_simp
  clear hcv
  refine hK.out _ _ (HQ.out) (fun hHeld=>?_)
  clear hK K
  try simp only [Act.put,List.setIfInBounds_toArray,List.set_cons_zero,List.set_cons_succ]
  refine wpAnyH_ready (rs:=[6]) (by kernel_rfl) (by simp) ?_
  refine AllReadyH.cons (o:={ dst:=some 16,op:=Op.convert 40 9 (Operand.tmp 15),type:=9,pos:=_,after:=_,guard:=some (3,false) }) rfl (fun K hK=>?_) AllReadyH.nil
  have hcv:=conv_str HRr.out HL64.out HO0.out
  rw [←HZ1.out] at hcv
  go_simp
  clear hcv
  refine hK.out _ _ (HQ.out) (fun hHeld=>?_)
  clear hK K
  try simp only [Act.put,List.setIfInBounds_toArray,List.set_cons_zero,List.set_cons_succ]
  refine wpAnyH_take (i:=11) (oi:={ dst:=some 21,op:=Op.binOp BinOp.neq 9 (Operand.tmp 16) (Operand.tmp 20) 9,type:=4,pos:=_,after:=_,guard:=some (3,false) }) (v:=?_) rfl (by kernel_rfl) (by kernel_rfl) (by kernel_rfl) (fun _ _ _ h=>h) (Or.inl ⟨by rfl,?_⟩) hHeld ?_
  rotate_left 1
  ·(intro W hW;(try dsimp only at hW);go_simp;try with_reducible rfl)
  try simp only [Act.put,List.setIfInBounds_toArray,List.set_cons_zero,List.set_cons_succ]
  refine wpAnyH_take (i:=12) (oi:={ dst:=some 22,op:=Op.pick (Operand.tmp 13) (Operand.const (Value.bool true)) (Operand.tmp 21),type:=4,pos:=_,after:=_,guard:=none }) (v:=?_) rfl (by kernel_rfl) (by kernel_rfl) (by kernel_rfl) (fun _ _ _ h=>h) (Or.inl ⟨by rfl,?_⟩) hHeld ?_
  rotate_left 1
  ·(intro W hW;(try dsimp only at hW);go_simp;try with_reducible rfl)
  try simp only [Act.put,List.setIfInBounds_toArray,List.set_cons_zero,List.set_cons_succ]
  refine wpAnyH_done (by kernel_rfl) ?_ _
  refine NoPanic.normal ?_
  exact ⟨rfl,rfl,rfl,HQ.out⟩
  refine AllReadyH.cons (o:={ dst:=some 17,op:=Op.buildSlice 40 4 #[(0,Operand.const (Value.int IntKind.u8 97)),(1,Operand.const (Value.int IntKind.u8 112)),(2,Operand.const (Value.int IntKind.u8 115)),(3,Operand.const (Value.int IntKind.u8 116))],type:=40,pos:=_,after:=_,guard:=some (3,false) }) rfl (fun K hK=>?_) AllReadyH.nil
  go_simp
  have hbd:Below y.heap.size y (y.alloc (.cells #[.int .u8 97,.int .u8 112,.int .u8 115,.int .u8 116] 5)):=(Below.refl _ _).alloc (Nat.le_refl _) _
  have hfd:Holds (y.alloc (.cells #[.int .u8 97,.int .u8 112,.int .u8 115,.int .u8 116] 5)) y.heap.size 5 #[.int .u8 97,.int .u8 112,.int .u8 115,.int .u8 116]:=Holds.fresh _ _ _
  generalize y.alloc (.cells #[.int .u8 97,.int .u8 112,.int .u8 115,.int .u8 116] 5)=wd at *
  obtain ⟨gd,hgd⟩:∃ g,g=y.heap.size:=⟨_,rfl⟩
  rw [←hgd] at hfd ⊢
  have HGd:Hid (w.heap.size≤gd):=Lib.hid (by rw [hgd];exact HQ.out.size)
  clear hgd
  have HFd:=Lib.hid hfd
  have HBn:=Lib.hid hbd
  clear hbd hfd
  have HQ:=Lib.hid (HQ.out.trans (HBn.out.mono HQ.out.size))
  clear HBn
  refine hK.out _ _ (HQ.out) (fun hHeld=>?_)
  clear hK K
  try simp only [Act.put,List.setIfInBounds_toArray,List.set_cons_zero,List.set_cons_succ]
  refine wpAnyH_ready (rs:=[5,8]) (by kernel_rfl) (by simp) ?_
  refine AllReadyH.cons (o:={ dst:=some 15,op:=Op.call { callee:=Callee.value (Operand.func 51),args:=#[Operand.tmp 14,Operand.const (Value.int IntKind.i64 0)],argTypes:=#[25,3] },type:=40,pos:=_,after:=_,guard:=some (3,false) }) rfl (fun K hK=>?_) ?_
  go_simp
  refine (HRD.out wd HQ.out 0 HL0.out).mono ?_
  rintro e wr ⟨Ar,cr,rfl,hrr,hbr,_⟩
  have HRr:=Lib.hid hrr
  have HBn:=Lib.hid hbr
  clear hrr hbr
  have HQ:=Lib.hid (HQ.out.trans (HBn.out.mono HQ.out.size))
  have HFd:=Lib.hid (Holds.under HFd.out HBn.out (Holds.lt HFd.out))
  clear HBn
  go_simp
  refine hK.out _ _ (HQ.out) (fun hHeld=>?_)
  clear hK K
  try simp only [Act.put,List.setIfInBounds_toArray,List.set_cons_zero,List.set_cons_succ]
  refine wpAnyH_ready (rs:=[6,8]) (by kernel_rfl) (by simp) ?_
  refine AllReadyH.cons (o:={ dst:=some 16,op:=Op.convert 40 9 (Operand.tmp 15),type:=9,pos:=_,after:=_,guard:=some (3,false) }) rfl (fun K hK=>?_) ?_
  have hcv:=conv_str HRr.out HL64.out HO0.out
  rw [←HZ1.out] at hcv
  go_simp
  clear hcv
  refine hK.out _ _ (HQ.out) (fun hHeld=>?_)
  clear hK K
  try simp only [Act.put,List.setIfInBounds_toArray,List.set_cons_zero,List.set_cons_succ]
  refine wpAnyH_ready (rs:=[8]) (by kernel_rfl) (by simp) ?_
  refine AllReadyH.cons (o:={ dst:=some 18,op:=Op.convert 40 40 (Operand.tmp 17),type:=40,pos:=_,after:=_,guard:=some (3,false) }) rfl (fun K hK=>?_) AllReadyH.nil
  obtain ⟨wm,hcv,hm,hc,hs⟩:=run_mark wr gd #[.int .u8 97,.int .u8 112,.int .u8 115,.int .u8 116] 4 4 HFd.out
  have hbm:Below w.heap.size w wm:=⟨hm.os.trans HQ.out.os,hm.tape.trans HQ.out.tape,hm.output.trans HQ.out.output,Nat.le_trans HQ.out.size hm.size,fun b hb=>(hm.block b (Nat.lt_of_lt_of_le hb HGd.out)).trans (HQ.out.block b hb)⟩
  go_simp
  clear hcv
  have HQ:=Lib.hid hbm
  have HRm:Hid (Rd .u8 wm wm.heap.size (some ⟨gd,0,none⟩) 4 [97,112,115,116]):=Lib.hid (rd_marked4 HFd.out hc hs)
  clear hbm hm hc hs HFd
  refine hK.out _ _ (HQ.out) (fun hHeld=>?_)
  clear hK K
  try simp only [Act.put,List.setIfInBounds_toArray,List.set_cons_zero,List.set_cons_succ]
  refine wpAnyH_ready (rs:=[9]) (by kernel_rfl) (by simp) ?_
  refine AllReadyH.cons (o:={ dst:=some 19,op:=Op.call { callee:=Callee.value (Operand.func 39),args:=#[Operand.tmp 18],argTypes:=#[40] },type:=40,pos:=_,after:=_,guard:=some (3,false) }) rfl (fun K hK=>?_) AllReadyH.nil
  go_simp
  refine (rsectorR wm _ 4 4 _ rfl HRm.out).mono ?_
  rintro e ws ⟨rfl,hrs,_,hbs⟩
  obtain ⟨gs,hgs⟩:∃ g,g=wm.heap.size:=⟨_,rfl⟩
  rw [←hgs] at hrs ⊢
  clear hgs
  have HRs:Hid (Rd .u8 ws ws.heap.size (some ⟨gs,0,none⟩) 64 apstB):=Lib.hid hrs
  have HBn:=Lib.hid hbs
  clear hrs hbs
  have HQ:=Lib.hid (HQ.out.trans (HBn.out.mono HQ.out.size))
  clear HBn
  go_simp
  refine hK.out _ _ (HQ.out) (fun hHeld=>?_)
  clear hK K
  try simp only [Act.put,List.setIfInBounds_toArray,List.set_cons_zero,List.set_cons_succ]
  refine wpAnyH_ready (rs:=[10]) (by kernel_rfl) (by simp) ?_
  refine AllReadyH.cons (o:={ dst:=some 20,op:=Op.convert 40 9 (Operand.tmp 19),type:=9,pos:=_,after:=_,guard:=some (3,false) }) rfl (fun K hK=>?_) AllReadyH.nil
  have hcv:=conv_str HRs.out HLa.out HOa.out
  rw [←HZA.out] at hcv
  go_simp
  clear hcv
  refine hK.out _ _ (HQ.out) (fun hHeld=>?_)
  clear hK K
  try simp only [Act.put,List.setIfInBounds_toArray,List.set_cons_zero,List.set_cons_succ]
  refine wpAnyH_take (i:=11) (oi:={ dst:=some 21,op:=Op.binOp BinOp.neq 9 (Operand.tmp 16) (Operand.tmp 20) 9,type:=4,pos:=_,after:=_,guard:=some (3,false) }) (v:=?_) rfl (by kernel_rfl) (by kernel_rfl) (by kernel_rfl) (fun _ _ _ h=>h) (Or.inl ⟨by rfl,?_⟩) hHeld ?_
  rotate_left 1
  ·(intro W hW;(try dsimp only at hW);go_simp;try with_reducible rfl)
  try simp only [Act.put,List.setIfInBounds_toArray,List.set_cons_zero,List.set_cons_succ]
  refine wpAnyH_take (i:=12) (oi:={ dst:=some 22,op:=Op.pick (Operand.tmp 13) (Operand.const (Value.bool true)) (Operand.tmp 21),type:=4,pos:=_,after:=_,guard:=none }) (v:=?_) rfl (by kernel_rfl) (by kernel_rfl) (by kernel_rfl) (fun _ _ _ h=>h) (Or.inl ⟨by rfl,?_⟩) hHeld ?_
  rotate_left 1
  ·(intro W hW;(try dsimp only at hW);go_simp;try with_reducible rfl)
  try simp only [Act.put,List.setIfInBounds_toArray,List.set_cons_zero,List.set_cons_succ]
  refine wpAnyH_done (by kernel_rfl) ?_ _
  refine NoPanic.normal ?_
  exact ⟨rfl,rfl,rfl,HQ.out⟩
  refine AllReadyH.cons (o:={ dst:=some 18,op:=Op.convert 40 40 (Operand.tmp 17),type:=40,pos:=_,after:=_,guard:=some (3,false) }) rfl (fun K hK=>?_) AllReadyH.nil
  obtain ⟨wm,hcv,hm,hc,hs⟩:=run_mark wr gd #[.int .u8 97,.int .u8 112,.int .u8 115,.int .u8 116] 4 4 HFd.out
  have hbm:Below w.heap.size w wm:=⟨hm.os.trans HQ.out.os,hm.tape.trans HQ.out.tape,hm.output.trans HQ.out.output,Nat.le_trans HQ.out.size hm.size,fun b hb=>(hm.block b (Nat.lt_of_lt_of_le hb HGd.out)).trans (HQ.out.block b hb)⟩
  go_simp
  clear hcv
  have HQ:=Lib.hid hbm
  have HRm:Hid (Rd .u8 wm wm.heap.size (some ⟨gd,0,none⟩) 4 [97,112,115,116]):=Lib.hid (rd_marked4 HFd.out hc hs)
  have HRr:=Lib.hid (Rd.more (HRr.out.keep fun b o _=>hc _) (Nat.le_of_eq hs.symm))
  clear hbm hm hc hs HFd
  refine hK.out _ _ (HQ.out) (fun hHeld=>?_)
  clear hK K
  try simp only [Act.put,List.setIfInBounds_toArray,List.set_cons_zero,List.set_cons_succ]
  refine wpAnyH_ready (rs:=[6,9]) (by kernel_rfl) (by simp) ?_
  refine AllReadyH.cons (o:={ dst:=some 16,op:=Op.convert 40 9 (Operand.tmp 15),type:=9,pos:=_,after:=_,guard:=some (3,false) }) rfl (fun K hK=>?_) ?_
  have hcv:=conv_str HRr.out HL64.out HO0.out
  rw [←HZ1.out] at hcv
  go_simp
  clear hcv
  refine hK.out _ _ (HQ.out) (fun hHeld=>?_)
  clear hK K
  try simp only [Act.put,List.setIfInBounds_toArray,List.set_cons_zero,List.set_cons_succ]
  refine wpAnyH_ready (rs:=[9]) (by kernel_rfl) (by simp) ?_
  refine AllReadyH.cons (o:={ dst:=some 19,op:=Op.call { callee:=Callee.value (Operand.func 39),args:=#[Operand.tmp 18],argTypes:=#[40] },type:=40,pos:=_,after:=_,guard:=some (3,false) }) rfl (fun K hK=>?_) AllReadyH.nil
  go_simp
  refine (rsectorR wm _ 4 4 _ rfl HRm.out).mono ?_
  rintro e ws ⟨rfl,hrs,_,hbs⟩
  obtain ⟨gs,hgs⟩:∃ g,g=wm.heap.size:=⟨_,rfl⟩
  rw [←hgs] at hrs ⊢
  clear hgs
  have HRs:Hid (Rd .u8 ws ws.heap.size (some ⟨gs,0,none⟩) 64 apstB):=Lib.hid hrs
  have HBn:=Lib.hid hbs
  clear hrs hbs
  have HQ:=Lib.hid (HQ.out.trans (HBn.out.mono HQ.out.size))
  clear HBn
  go_simp
  refine hK.out _ _ (HQ.out) (fun hHeld=>?_)
  clear hK K
  try simp only [Act.put,List.setIfInBounds_toArray,List.set_cons_zero,List.set_cons_succ]
  refine wpAnyH_ready (rs:=[10]) (by kernel_rfl) (by simp) ?_
  refine AllReadyH.cons (o:={ dst:=some 20,op:=Op.convert 40 9 (Operand.tmp 19),type:=9,pos:=_,after:=_,guard:=some (3,false) }) rfl (fun K hK=>?_) AllReadyH.nil
  have hcv:=conv_str HRs.out HLa.out HOa.out
  rw [←HZA.out] at hcv
  go_simp
  clear hcv
  refine hK.out _ _ (HQ.out) (fun hHeld=>?_)
  clear hK K
  try simp only [Act.put,List.setIfInBounds_toArray,List.set_cons_zero,List.set_cons_succ]
  refine wpAnyH_take (i:=11) (oi:={ dst:=some 21,op:=Op.binOp BinOp.neq 9 (Operand.tmp 16) (Operand.tmp 20) 9,type:=4,pos:=_,after:=_,guard:=some (3,false) }) (v:=?_) rfl (by kernel_rfl) (by kernel_rfl) (by kernel_rfl) (fun _ _ _ h=>h) (Or.inl ⟨by rfl,?_⟩) hHeld ?_
  rotate_left 1
  ·(intro W hW;(try dsimp only at hW);go_simp;try with_reducible rfl)
  try simp only [Act.put,List.setIfInBounds_toArray,List.set_cons_zero,List.set_cons_succ]
  refine wpAnyH_take (i:=12) (oi:={ dst:=some 22,op:=Op.pick (Operand.tmp 13) (Operand.const (Value.bool true)) (Operand.tmp 21),type:=4,pos:=_,after:=_,guard:=none }) (v:=?_) rfl (by kernel_rfl) (by kernel_rfl) (by kernel_rfl) (fun _ _ _ h=>h) (Or.inl ⟨by rfl,?_⟩) hHeld ?_
  rotate_left 1
  ·(intro W hW;(try dsimp only at hW);go_simp;try with_reducible rfl)
  try simp only [Act.put,List.setIfInBounds_toArray,List.set_cons_zero,List.set_cons_succ]
  refine wpAnyH_done (by kernel_rfl) ?_ _
  refine NoPanic.normal ?_
  exact ⟨rfl,rfl,rfl,HQ.out⟩
  refine AllReadyH.cons (o:={ dst:=some 19,op:=Op.call { callee:=Callee.value (Operand.func 39),args:=#[Operand.tmp 18],argTypes:=#[40] },type:=40,pos:=_,after:=_,guard:=some (3,false) }) rfl (fun K hK=>?_) AllReadyH.nil
  go_simp
  refine (rsectorR wm _ 4 4 _ rfl HRm.out).mono ?_
  rintro e ws ⟨rfl,hrs,_,hbs⟩
  obtain ⟨gs,hgs⟩:∃ g,g=wm.heap.size:=⟨_,rfl⟩
  rw [←hgs] at hrs ⊢
  clear hgs
  have HRs:Hid (Rd .u8 ws ws.heap.size (some ⟨gs,0,none⟩) 64 apstB):=Lib.hid hrs
  have HBn:=Lib.hid hbs
  clear hrs hbs
  have HQ:=Lib.hid (HQ.out.trans (HBn.out.mono HQ.out.size))
  have HRr:=Lib.hid ((HRr.out.under HBn.out).more HBn.out.size)
  clear HBn
  go_simp
  refine hK.out _ _ (HQ.out) (fun hHeld=>?_)
  clear hK K
  try simp only [Act.put,List.setIfInBounds_toArray,List.set_cons_zero,List.set_cons_succ]
  refine wpAnyH_ready (rs:=[6,10]) (by kernel_rfl) (by simp) ?_
  refine AllReadyH.cons (o:={ dst:=some 16,op:=Op.convert 40 9 (Operand.tmp 15),type:=9,pos:=_,after:=_,guard:=some (3,false) }) rfl (fun K hK=>?_) ?_
  have hcv:=conv_str HRr.out HL64.out HO0.out
  rw [←HZ1.out] at hcv
  go_simp
  clear hcv
  refine hK.out _ _ (HQ.out) (fun hHeld=>?_)
  clear hK K
  try simp only [Act.put,List.setIfInBounds_toArray,List.set_cons_zero,List.set_cons_succ]
  refine wpAnyH_ready (rs:=[10]) (by kernel_rfl) (by simp) ?_
  refine AllReadyH.cons (o:={ dst:=some 20,op:=Op.convert 40 9 (Operand.tmp 19),type:=9,pos:=_,after:=_,guard:=some (3,false) }) rfl (fun K hK=>?_) AllReadyH.nil
  have hcv:=conv_str HRs.out HLa.out HOa.out
  rw [←HZA.out] at hcv
  go_simp
  clear hcv
  refine hK.out _ _ (HQ.out) (fun hHeld=>?_)
  clear hK K
  try simp only [Act.put,List.setIfInBounds_toArray,List.set_cons_zero,List.set_cons_succ]
  refine wpAnyH_take (i:=11) (oi:={ dst:=some 21,op:=Op.binOp BinOp.neq 9 (Operand.tmp 16) (Operand.tmp 20) 9,type:=4,pos:=_,after:=_,guard:=some (3,false) }) (v:=?_) rfl (by kernel_rfl) (by kernel_rfl) (by kernel_rfl) (fun _ _ _ h=>h) (Or.inl ⟨by rfl,?_⟩) hHeld ?_
  rotate_left 1
  ·(intro W hW;(try dsimp only at hW);go_simp;try with_reducible rfl)
  try simp only [Act.put,List.setIfInBounds_toArray,List.set_cons_zero,List.set_cons_succ]
  refine wpAnyH_take (i:=12) (oi:={ dst:=some 22,op:=Op.pick (Operand.tmp 13) (Operand.const (Value.bool true)) (Operand.tmp 21),type:=4,pos:=_,after:=_,guard:=none }) (v:=?_) rfl (by kernel_rfl) (by kernel_rfl) (by kernel_rfl) (fun _ _ _ h=>h) (Or.inl ⟨by rfl,?_⟩) hHeld ?_
  rotate_left 1
  ·(intro W hW;(try dsimp only at hW);go_simp;try with_reducible rfl)
  try simp only [Act.put,List.setIfInBounds_toArray,List.set_cons_zero,List.set_cons_succ]
  refine wpAnyH_done (by kernel_rfl) ?_ _
  refine NoPanic.normal ?_
  exact ⟨rfl,rfl,rfl,HQ.out⟩
  refine AllReadyH.cons (o:={ dst:=some 20,op:=Op.convert 40 9 (Operand.tmp 19),type:=9,pos:=_,after:=_,guard:=some (3,false) }) rfl (fun K hK=>?_) AllReadyH.nil
  have hcv:=conv_str HRs.out HLa.out HOa.out
  rw [←HZA.out] at hcv
  go_simp
  clear hcv
  refine hK.out _ _ (HQ.out) (fun hHeld=>?_)
  clear hK K
  try simp only [Act.put,List.setIfInBounds_toArray,List.set_cons_zero,List.set_cons_succ]
  refine wpAnyH_ready (rs:=[6]) (by kernel_rfl) (by simp) ?_
  refine AllReadyH.cons (o:={ dst:=some 16,op:=Op.convert 40 9 (Operand.tmp 15),type:=9,pos:=_,after:=_,guard:=some (3,false) }) rfl (fun K hK=>?_) AllReadyH.nil
  have hcv:=conv_str HRr.out HL64.out HO0.out
  rw [←HZ1.out] at hcv
  go_simp
  clear hcv
  refine hK.out _ _ (HQ.out) (fun hHeld=>?_)
  clear hK K
  try simp only [Act.put,List.setIfInBounds_toArray,List.set_cons_zero,List.set_cons_succ]
  refine wpAnyH_take (i:=11) (oi:={ dst:=some 21,op:=Op.binOp BinOp.neq 9 (Operand.tmp 16) (Operand.tmp 20) 9,type:=4,pos:=_,after:=_,guard:=some (3,false) }) (v:=?_) rfl (by kernel_rfl) (by kernel_rfl) (by kernel_rfl) (fun _ _ _ h=>h) (Or.inl ⟨by rfl,?_⟩) hHeld ?_
  rotate_left 1
  ·(intro W hW;(try dsimp only at hW);go_simp;try with_reducible rfl)
  try simp only [Act.put,List.setIfInBounds_toArray,List.set_cons_zero,List.set_cons_succ]
  refine wpAnyH_take (i:=12) (oi:={ dst:=some 22,op:=Op.pick (Operand.tmp 13) (Operand.const (Value.bool true)) (Operand.tmp 21),type:=4,pos:=_,after:=_,guard:=none }) (v:=?_) rfl (by kernel_rfl) (by kernel_rfl) (by kernel_rfl) (fun _ _ _ h=>h) (Or.inl ⟨by rfl,?_⟩) hHeld ?_
  rotate_left 1
  ·(intro W hW;(try dsimp only at hW);go_simp;try with_reducible rfl)
  try simp only [Act.put,List.setIfInBounds_toArray,List.set_cons_zero,List.set_cons_succ]
  refine wpAnyH_done (by kernel_rfl) ?_ _
  refine NoPanic.normal ?_
  exact ⟨rfl,rfl,rfl,HQ.out⟩
  refine AllReadyH.cons (o:={ dst:=some 18,op:=Op.convert 40 40 (Operand.tmp 17),type:=40,pos:=_,after:=_,guard:=some (3,false) }) rfl (fun K hK=>?_) AllReadyH.nil
  obtain ⟨wm,hcv,hm,hc,hs⟩:=run_mark wd gd #[.int .u8 97,.int .u8 112,.int .u8 115,.int .u8 116] 4 4 HFd.out
  have hbm:Below w.heap.size w wm:=⟨hm.os.trans HQ.out.os,hm.tape.trans HQ.out.tape,hm.output.trans HQ.out.output,Nat.le_trans HQ.out.size hm.size,fun b hb=>(hm.block b (Nat.lt_of_lt_of_le hb HGd.out)).trans (HQ.out.block b hb)⟩
  go_simp
  clear hcv
  have HQ:=Lib.hid hbm
  have HRm:Hid (Rd .u8 wm wm.heap.size (some ⟨gd,0,none⟩) 4 [97,112,115,116]):=Lib.hid (rd_marked4 HFd.out hc hs)
  clear hbm hm hc hs HFd
  refine hK.out _ _ (HQ.out) (fun hHeld=>?_)
  clear hK K
  try simp only [Act.put,List.setIfInBounds_toArray,List.set_cons_zero,List.set_cons_succ]
  refine wpAnyH_ready (rs:=[5]) (by kernel_rfl) (by simp) ?_
  refine AllReadyH.cons (o:={ dst:=some 15,op:=Op.call { callee:=Callee.value (Operand.func 51),args:=#[Operand.tmp 14,Operand.const (Value.int IntKind.i64 0)],argTypes:=#[25,3] },type:=40,pos:=_,after:=_,guard:=some (3,false) }) rfl (fun K hK=>?_) AllReadyH.nil
  go_simp
  refine (HRD.out wm HQ.out 0 HL0.out).mono ?_
  rintro e wr ⟨Ar,cr,rfl,hrr,hbr,_⟩
  have HRr:=Lib.hid hrr
  have HBn:=Lib.hid hbr
  clear hrr hbr
  have HQ:=Lib.hid (HQ.out.trans (HBn.out.mono HQ.out.size))
  have HRm:=Lib.hid ((HRm.out.under HBn.out).more HBn.out.size)
  clear HBn
  go_simp
  refine hK.out _ _ (HQ.out) (fun hHeld=>?_)
  clear hK K
  try simp only [Act.put,List.setIfInBounds_toArray,List.set_cons_zero,List.set_cons_succ]
  refine wpAnyH_ready (rs:=[6,9]) (by kernel_rfl) (by simp) ?_
  refine AllReadyH.cons (o:={ dst:=some 16,op:=Op.convert 40 9 (Operand.tmp 15),type:=9,pos:=_,after:=_,guard:=some (3,false) }) rfl (fun K hK=>?_) ?_
  have hcv:=conv_str HRr.out HL64.out HO0.out
  rw [←HZ1.out] at hcv
  go_simp
  clear hcv
  refine hK.out _ _ (HQ.out) (fun hHeld=>?_)
  clear hK K
  try simp only [Act.put,List.setIfInBounds_toArray,List.set_cons_zero,List.set_cons_succ]
  refine wpAnyH_ready (rs:=[9]) (by kernel_rfl) (by simp) ?_
  refine AllReadyH.cons (o:={ dst:=some 19,op:=Op.call { callee:=Callee.value (Operand.func 39),args:=#[Operand.tmp 18],argTypes:=#[40] },type:=40,pos:=_,after:=_,guard:=some (3,false) }) rfl (fun K hK=>?_) AllReadyH.nil
  go_simp
  refine (rsectorR wr _ 4 4 _ rfl HRm.out).mono ?_
  rintro e ws ⟨rfl,hrs,_,hbs⟩
  obtain ⟨gs,hgs⟩:∃ g,g=wr.heap.size:=⟨_,rfl⟩
  rw [←hgs] at hrs ⊢
  clear hgs
  have HRs:Hid (Rd .u8 ws ws.heap.size (some ⟨gs,0,none⟩) 64 apstB):=Lib.hid hrs
  have HBn:=Lib.hid hbs
  clear hrs hbs
  have HQ:=Lib.hid (HQ.out.trans (HBn.out.mono HQ.out.size))
  clear HBn
  go_simp
  refine hK.out _ _ (HQ.out) (fun hHeld=>?_)
  clear hK K
  try simp only [Act.put,List.setIfInBounds_toArray,List.set_cons_zero,List.set_cons_succ]
  refine wpAnyH_ready (rs:=[10]) (by kernel_rfl) (by simp) ?_
  refine AllReadyH.cons (o:={ dst:=some 20,op:=Op.convert 40 9 (Operand.tmp 19),type:=9,pos:=_,after:=_,guard:=some (3,false) }) rfl (fun K hK=>?_) AllReadyH.nil
  have hcv:=conv_str HRs.out HLa.out HOa.out
  rw [←HZA.out] at hcv
  go_simp
  clear hcv
  refine hK.out _ _ (HQ.out) (fun hHeld=>?_)
  clear hK K
  try simp only [Act.put,List.setIfInBounds_toArray,List.set_cons_zero,List.set_cons_succ]
  refine wpAnyH_take (i:=11) (oi:={ dst:=some 21,op:=Op.binOp BinOp.neq 9 (Operand.tmp 16) (Operand.tmp 20) 9,type:=4,pos:=_,after:=_,guard:=some (3,false) }) (v:=?_) rfl (by kernel_rfl) (by kernel_rfl) (by kernel_rfl) (fun _ _ _ h=>h) (Or.inl ⟨by rfl,?_⟩) hHeld ?_
  rotate_left 1
  ·(intro W hW;(try dsimp only at hW);go_simp;try with_reducible rfl)
  try simp only [Act.put,List.setIfInBounds_toArray,List.set_cons_zero,List.set_cons_succ]
  refine wpAnyH_take (i:=12) (oi:={ dst:=some 22,op:=Op.pick (Operand.tmp 13) (Operand.const (Value.bool true)) (Operand.tmp 21),type:=4,pos:=_,after:=_,guard:=none }) (v:=?_) rfl (by kernel_rfl) (by kernel_rfl) (by kernel_rfl) (fun _ _ _ h=>h) (Or.inl ⟨by rfl,?_⟩) hHeld ?_
  rotate_left 1
  ·(intro W hW;(try dsimp only at hW);go_simp;try with_reducible rfl)
  try simp only [Act.put,List.setIfInBounds_toArray,List.set_cons_zero,List.set_cons_succ]
  refine wpAnyH_done (by kernel_rfl) ?_ _
  refine NoPanic.normal ?_
  exact ⟨rfl,rfl,rfl,HQ.out⟩
  refine AllReadyH.cons (o:={ dst:=some 19,op:=Op.call { callee:=Callee.value (Operand.func 39),args:=#[Operand.tmp 18],argTypes:=#[40] },type:=40,pos:=_,after:=_,guard:=some (3,false) }) rfl (fun K hK=>?_) AllReadyH.nil
  go_simp
  refine (rsectorR wr _ 4 4 _ rfl HRm.out).mono ?_
  rintro e ws ⟨rfl,hrs,_,hbs⟩
  obtain ⟨gs,hgs⟩:∃ g,g=wr.heap.size:=⟨_,rfl⟩
  rw [←hgs] at hrs ⊢
  clear hgs
  have HRs:Hid (Rd .u8 ws ws.heap.size (some ⟨gs,0,none⟩) 64 apstB):=Lib.hid hrs
  have HBn:=Lib.hid hbs
  clear hrs hbs
  have HQ:=Lib.hid (HQ.out.trans (HBn.out.mono HQ.out.size))
  have HRr:=Lib.hid ((HRr.out.under HBn.out).more HBn.out.size)
  clear HBn
  go_simp
  refine hK.out _ _ (HQ.out) (fun hHeld=>?_)
  clear hK K
  try simp only [Act.put,List.setIfInBounds_toArray,List.set_cons_zero,List.set_cons_succ]
  refine wpAnyH_ready (rs:=[6,10]) (by kernel_rfl) (by simp) ?_
  refine AllReadyH.cons (o:={ dst:=some 16,op:=Op.convert 40 9 (Operand.tmp 15),type:=9,pos:=_,after:=_,guard:=some (3,false) }) rfl (fun K hK=>?_) ?_
  have hcv:=conv_str HRr.out HL64.out HO0.out
  rw [←HZ1.out] at hcv
  go_simp
  clear hcv
  refine hK.out _ _ (HQ.out) (fun hHeld=>?_)
  clear hK K
  try simp only [Act.put,List.setIfInBounds_toArray,List.set_cons_zero,List.set_cons_succ]
  refine wpAnyH_ready (rs:=[10]) (by kernel_rfl) (by simp) ?_
  refine AllReadyH.cons (o:={ dst:=some 20,op:=Op.convert 40 9 (Operand.tmp 19),type:=9,pos:=_,after:=_,guard:=some (3,false) }) rfl (fun K hK=>?_) AllReadyH.nil
  have hcv:=conv_str HRs.out HLa.out HOa.out
  rw [←HZA.out] at hcv
  go_simp
  clear hcv
  refine hK.out _ _ (HQ.out) (fun hHeld=>?_)
  clear hK K
  try simp only [Act.put,List.setIfInBounds_toArray,List.set_cons_zero,List.set_cons_succ]
  refine wpAnyH_take (i:=11) (oi:={ dst:=some 21,op:=Op.binOp BinOp.neq 9 (Operand.tmp 16) (Operand.tmp 20) 9,type:=4,pos:=_,after:=_,guard:=some (3,false) }) (v:=?_) rfl (by kernel_rfl) (by kernel_rfl) (by kernel_rfl) (fun _ _ _ h=>h) (Or.inl ⟨by rfl,?_⟩) hHeld ?_
  rotate_left 1
  ·(intro W hW;(try dsimp only at hW);go_simp;try with_reducible rfl)
  try simp only [Act.put,List.setIfInBounds_toArray,List.set_cons_zero,List.set_cons_succ]
  refine wpAnyH_take (i:=12) (oi:={ dst:=some 22,op:=Op.pick (Operand.tmp 13) (Operand.const (Value.bool true)) (Operand.tmp 21),type:=4,pos:=_,after:=_,guard:=none }) (v:=?_) rfl (by kernel_rfl) (by kernel_rfl) (by kernel_rfl) (fun _ _ _ h=>h) (Or.inl ⟨by rfl,?_⟩) hHeld ?_
  rotate_left 1
  ·(intro W hW;(try dsimp only at hW);go_simp;try with_reducible rfl)
  try simp only [Act.put,List.setIfInBounds_toArray,List.set_cons_zero,List.set_cons_succ]
  refine wpAnyH_done (by kernel_rfl) ?_ _
  refine NoPanic.normal ?_
  exact ⟨rfl,rfl,rfl,HQ.out⟩
  refine AllReadyH.cons (o:={ dst:=some 20,op:=Op.convert 40 9 (Operand.tmp 19),type:=9,pos:=_,after:=_,guard:=some (3,false) }) rfl (fun K hK=>?_) AllReadyH.nil
  have hcv:=conv_str HRs.out HLa.out HOa.out
  rw [←HZA.out] at hcv
  go_simp
  clear hcv
  refine hK.out _ _ (HQ.out) (fun hHeld=>?_)
  clear hK K
  try simp only [Act.put,List.setIfInBounds_toArray,List.set_cons_zero,List.set_cons_succ]
  refine wpAnyH_ready (rs:=[6]) (by kernel_rfl) (by simp) ?_
  refine AllReadyH.cons (o:={ dst:=some 16,op:=Op.convert 40 9 (Operand.tmp 15),type:=9,pos:=_,after:=_,guard:=some (3,false) }) rfl (fun K hK=>?_) AllReadyH.nil
  have hcv:=conv_str HRr.out HL64.out HO0.out
  rw [←HZ1.out] at hcv
  go_simp
  clear hcv
  refine hK.out _ _ (HQ.out) (fun hHeld=>?_)
  clear hK K
  try simp only [Act.put,List.setIfInBounds_toArray,List.set_cons_zero,List.set_cons_succ]
  refine wpAnyH_take (i:=11) (oi:={ dst:=some 21,op:=Op.binOp BinOp.neq 9 (Operand.tmp 16) (Operand.tmp 20) 9,type:=4,pos:=_,after:=_,guard:=some (3,false) }) (v:=?_) rfl (by kernel_rfl) (by kernel_rfl) (by kernel_rfl) (fun _ _ _ h=>h) (Or.inl ⟨by rfl,?_⟩) hHeld ?_
  rotate_left 1
  ·(intro W hW;(try dsimp only at hW);go_simp;try with_reducible rfl)
  try simp only [Act.put,List.setIfInBounds_toArray,List.set_cons_zero,List.set_cons_succ]
  refine wpAnyH_take (i:=12) (oi:={ dst:=some 22,op:=Op.pick (Operand.tmp 13) (Operand.const (Value.bool true)) (Operand.tmp 21),type:=4,pos:=_,after:=_,guard:=none }) (v:=?_) rfl (by kernel_rfl) (by kernel_rfl) (by kernel_rfl) (fun _ _ _ h=>h) (Or.inl ⟨by rfl,?_⟩) hHeld ?_
  rotate_left 1
  ·(intro W hW;(try dsimp only at hW);go_simp;try with_reducible rfl)
  try simp only [Act.put,List.setIfInBounds_toArray,List.set_cons_zero,List.set_cons_succ]
  refine wpAnyH_done (by kernel_rfl) ?_ _
  refine NoPanic.normal ?_
  exact ⟨rfl,rfl,rfl,HQ.out⟩
 rintro e a Y ⟨rfl,htm,hdf,hbY⟩
 obtain ⟨tm,df⟩:=a
 dsimp only at htm hdf
 subst hdf
 obtain ⟨U,hU⟩:∃ U:Nat→Value,∀ i,tm.getD i undef=U i:=⟨_,fun _=>rfl⟩
 simp only [hU] at htm
 clear hU
 subst htm
 have HBY:=Lib.hid hbY
 clear hbY hq1 k6
 by_cases h0:s.read 0=apstB
 case neg =>
  obtain rfl:bl=false:=by rw [HBL.out,HZ1.out,HZA.out];exact str_ne (HOC.out 0) apst_oct h0
  have HE:Hid (s.open_=(s,13)):=Lib.hid (by unfold Dk.open_;rw [if_neg HDN.out,if_pos (.inr h0)])
  clear h0
  go_wp2_with fail
  go_ret
  rw [HE.out]
  exact ⟨rfl,(RJ.start HH.out).below HBY.out⟩
 obtain rfl:bl=true:=by
  rw [HBL.out,HZ1.out,HZA.out,show s.read ((0:Nat):Int)=apstB from h0]
  exact beq_self_eq_true _
 have HN:Hid (¬ (s.many=0∨s.read 0≠apstB)):=Lib.hid fun e=>e.elim HM0.out.1 fun e=>e h0
 have HR1:=Lib.hid (HRD.out Y HBY.out 1 (by have:=HLEN.out;omega))
 have hr:s.open_=s.open_:=rfl
 conv at hr=>rhs;unfold Dk.open_
 rw [if_neg HDN.out,if_neg HN.out] at hr
 have HRE:=Lib.hid hr
 obtain ⟨mi,hmi⟩:∃ mi,mi=markI (s.read ((1:Nat):Int)):=⟨_,rfl⟩
 have HMI:=Lib.hid hmi
 clear h0 hr hmi
 go_wp2_with fail
 refine HR1.out.mono ?_
 rintro e w1 ⟨A1,c1,rfl,hr1,hb1,_⟩
 have HMK:=Lib.hid (marked'_any w1 A1 c1 _ (H64.out 1 (by have:=HLEN.out;omega)) hr1 (HOC.out 1))
 rw [←HMI.out] at HMK
 have HB1:=Lib.hid (HBY.out.trans (hb1.mono HBY.out.size))
 clear hr1 hb1 HR1
 go_wp2_with fail
 refine HMK.out.mono ?_
 rintro e w2 ⟨rfl,hb2⟩
 have HB2:=Lib.hid (HB1.out.trans (hb2.mono HB1.out.size))
 clear hb2 HMK
 rcases hbg:begunN (s.read ((1:Nat):Int)) with _ | n
 ·obtain rfl:mi = -1:=by rw [HMI.out,markI,hbg]
  have HE:Hid (s.open_=(s,13)):=Lib.hid (by
   have:=HRE.out
   rw [show begunN (s.read 1)=none from hbg] at this
   exact this)
  clear hbg
  go_wp2_with fail
  go_ret
  rw [HE.out]
  exact ⟨rfl,(RJ.start HH.out).below HB2.out⟩
 ·have hb2:=begunN_some hbg
  obtain rfl:mi=(n:Int):=by rw [HMI.out,markI,hbg]
  rcases Nat.eq_zero_or_pos n with rfl | hn0
  ·have HE:Hid (s.open_=(s,0)):=Lib.hid (by
    have:=HRE.out
    rw [show begunN (s.read 1)=some 0 from hbg] at this
    exact this)
   clear hbg hb2
   go_wp2_with fail
   go_ret
   rw [HE.out]
   exact ⟨rfl,(RJ.start HH.out).below HB2.out⟩
  ·obtain ⟨k,rfl⟩:∃ k,n=k+1:=⟨n - 1,by omega⟩
   have HE:Hid (s.open_=if ∀ p∈s.told (k+1),p.1<(s.many:Int) then s.fin (s.told (k+1)) else (s,13)):=Lib.hid (by
    have:=HRE.out
    rw [show begunN (s.read 1)=some (k+1) from hbg] at this
    exact this)
   obtain ⟨n,hn⟩:∃ n,n=k+1:=⟨_,rfl⟩
   rw [←hn] at HE HMI hb2 hn0 ⊢
   have hn5:n≤150:=hb2.1
   have dn:decide ((n:Int)≤0)=false:=decide_eq_false (by omega)
   have HLG:=Lib.hid (logged'_any (HH.out.under HB2.out) n hn5 HLEN.out H64.out HOC.out (by have:=HWL.out.1;omega))
   clear hbg hb2 hn
   go_wp2_with fail
   refine HLG.out.mono ?_
   rintro e w3 ⟨hb3,hlg⟩
   have HB3:=Lib.hid (HB2.out.trans (hb3.mono HB2.out.size))
   clear HLG
   rcases hlg with ⟨hall,A,c,l,rfl,hll,hwv,hbl,hg⟩ | ⟨hno,rfl⟩
   ·have HF:Hid (s.open_=s.aft (wv l)):=Lib.hid (by rw [HE.out,if_pos hall,fin_aft,hwv])
    have HAP:=Lib.hid (RJ.thenC (s':=(s.aft (wv l)).1) (v:=.int .i64 ((s.aft (wv l)).2:Nat)) (RJ.start HH.out) HB3.out fun F2 hF hlt hgx=>(applied'_any hF A c n l hll (hg.off fun k hk=>Nat.lt_of_lt_of_le (hlt k hk) HB2.out.size) (fun x hx g hgg=>by
     have:=hbl x hx g hgg
     have:=HB2.out.size
     omega) (by omega) (by have:=HWL.out;omega) (by have:=HWL.out;omega)))
    clear hall hll hwv hbl hg hb3
    go_wp2_with fail
    refine HAP.out.mono ?_
    rintro e w4 ⟨rfl,hd4⟩
    have HD4:=Lib.hid hd4
    clear hd4 HAP
    go_wp2_with fail
    go_ret
    rw [HF.out]
    exact ⟨rfl,HD4.out⟩
   ·have HF:Hid (s.open_=(s,13)):=Lib.hid (by rw [HE.out,if_neg hno])
    clear hno hb3
    go_wp2_with fail
    go_ret
    rw [HF.out]
    exact ⟨rfl,(RJ.start HH.out).below HB3.out⟩
end
end Go.Proofs.Ytkmbgbbmhpidkaa
