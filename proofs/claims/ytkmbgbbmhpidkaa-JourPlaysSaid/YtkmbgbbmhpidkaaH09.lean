/- Words and laws for the statement, part 9. -/
import Derived.Test.YtkmbgbbmhpidkaaH07
import Derived.Test.YtkmbgbbmhpidkaaH08
namespace Go.Proofs.Ytkmbgbbmhpidkaa
open Go.RowKit Go.Shelf
set_option linter.unusedVariables false
set_option linter.unusedSimpArgs false
attribute [local go_sem ↓] Go.wp_at_zero Go.wp_at_succ

def markI (b:List Nat):Int:=match begunN b with | none=>-1 | some n=>(n:Int)
set_option maxRecDepth 100000 in
set_option maxHeartbeats 4000000 in
theorem marked'_any (w:World) (A:Option Addr) (c:Nat) (b:List Nat) (hl:b.length=64) (hr:Rd .u8 w w.heap.size A c b) (ho:Oct1 b) :
  Calls Try.prog 52 #[.slice A 64 c] w fun e w'=>e = .returned (.int .i64 (markI b))∧Below w.heap.size w w':=by
 have HR:=Lib.hid hr
 have HL:=Lib.hid hl
 have HO:=Lib.hid ho
 have HL0:Hid (zsec.length=64):=Lib.hid List.length_replicate
 have HO0:=Lib.hid zsec_oct
 obtain ⟨z1,hz1⟩:∃ z,z=str b:=⟨_,rfl⟩
 obtain ⟨z0,hz0⟩:∃ z,z=str zsec:=⟨_,rfl⟩
 have HZ1:=Lib.hid hz1
 have HZ0:=Lib.hid hz0
 obtain ⟨g,off,rfl,hlt,hcell⟩:=hr.2.2 (by omega)
 have h4:=hcell 4 (by omega)
 have h5:=hcell 5 (by omega)
 have o4:b.getD 4 0<256:=ho _ (by rw [show b.getD 4 0=b[4]'(by omega) by simp [List.getD,hl]];exact List.getElem_mem _)
 have o5:b.getD 5 0<256:=ho _ (by rw [show b.getD 5 0=b[5]'(by omega) by simp [List.getD,hl]];exact List.getElem_mem _)
 have hcc:64≤c:=by have:=hr.1;omega
 have hc63:=hr.2.1
 obtain ⟨r,hrr⟩:∃ r,r=markI b:=⟨_,rfl⟩
 rw [←hrr]
 unfold markI begunN at hrr
 by_cases hz:b=zsec
 ·rw [if_pos hz] at hrr
  obtain rfl:z1=z0:=by rw [hz1,hz0,hz]
  clear hz1 hz0
  have HRR:=Lib.hid hrr
  clear hz hr ho hl hcell h4 h5 o4 o5 hrr
  go_enter Try.func52,Try.ntmps52
  go_wp2_with fail
  refine wp_region_noPanic ?_
  refine wp_region_held_drew (S:=fun W=>Below w.heap.size w W) (by kernel_rfl) (Below.refl _ w).drew (fun hHeld=>?_)
  refine wpAnyH_take (i:=0) (oi:={ dst:=some 4,op:=Op.move (Operand.tmp 0),type:=40,pos:=_,after:=_,guard:=none }) (v:=?_) rfl (by kernel_rfl) (by kernel_rfl) (by kernel_rfl) (fun _ _ _ h=>h) (Or.inl ⟨by rfl,?_⟩) hHeld ?_
  rotate_left 1
  ·(intro W hW;(try dsimp only at hW);go_simp;try with_reducible rfl)
  try simp only [Act.put,List.setIfInBounds_toArray,List.set_cons_zero,List.set_cons_succ]
  refine wpAnyH_take (i:=1) (oi:={ dst:=some 5,op:=Op.convert 40 9 (Operand.tmp 4),type:=9,pos:=_,after:=_,guard:=none }) (v:=?_) rfl (by kernel_rfl) (by kernel_rfl) (by kernel_rfl) (fun _ _ _ h=>h) (Or.inl ⟨by rfl,?_⟩) hHeld ?_
  rotate_left 1
  ·(intro W hW;have hcv:=conv_str (HR.out.under hW) HL.out HO.out;rw [←HZ1.out] at hcv;(try dsimp only at hW);go_simp;try with_reducible rfl)
  try simp only [Act.put,List.setIfInBounds_toArray,List.set_cons_zero,List.set_cons_succ]
  refine wpAnyH_ready (rs:=[2]) (by kernel_rfl) (by simp) ?_
  refine AllReadyH.cons (o:={ dst:=some 6,op:=Op.call { callee:=Callee.value (Operand.func 39),args:=#[Operand.const (Value.slice none 0 0)],argTypes:=#[40] },type:=40,pos:=_,after:=_,guard:=none }) rfl (fun K hK=>?_) AllReadyH.nil
  go_simp
  refine (rsectorZ _).mono ?_
  rintro e wa ⟨rfl,hra,_,hba⟩
  have HBa:=Lib.hid (show Below w.heap.size w wa from ⟨hba.os,hba.tape,hba.output,hba.size,hba.block⟩)
  have HRa:Hid (Rd .u8 wa wa.heap.size (some ⟨w.heap.size,0,none⟩) 64 zsec):=Lib.hid hra
  clear hra hba
  go_simp
  refine hK.out _ _ (HBa.out) (fun _=>?_)
  clear hK K hHeld
  try simp only [Act.put,List.setIfInBounds_toArray,List.set_cons_zero,List.set_cons_succ]
  refine wpAnyH_strong (S':=fun W=>Below wa.heap.size wa W) (fun W hW=>HBa.out.trans (hW.mono HBa.out.size)) _ _ _ _ ?_
  have hHeld:(fun W=>Below wa.heap.size wa W) wa:=Below.refl _ _
  refine wpAnyH_take (i:=3) (oi:={ dst:=some 7,op:=Op.convert 40 9 (Operand.tmp 6),type:=9,pos:=_,after:=_,guard:=none }) (v:=?_) rfl (by kernel_rfl) (by kernel_rfl) (by kernel_rfl) (fun _ _ _ h=>h) (Or.inl ⟨by rfl,?_⟩) hHeld ?_
  rotate_left 1
  ·(intro W hW;have hcv:=conv_str (HRa.out.under hW) HL0.out HO0.out;rw [←HZ0.out] at hcv;(try dsimp only at hW);go_simp;try with_reducible rfl)
  try simp only [Act.put,List.setIfInBounds_toArray,List.set_cons_zero,List.set_cons_succ]
  refine wpAnyH_take (i:=4) (oi:={ dst:=some 8,op:=Op.binOp BinOp.eql 9 (Operand.tmp 5) (Operand.tmp 7) 9,type:=4,pos:=_,after:=_,guard:=none }) (v:=?_) rfl (by kernel_rfl) (by kernel_rfl) (by kernel_rfl) (fun _ _ _ h=>h) (Or.inl ⟨by rfl,?_⟩) hHeld ?_
  rotate_left 1
  ·(intro W hW;(try dsimp only at hW);go_simp;try with_reducible rfl)
  try simp only [Act.put,List.setIfInBounds_toArray,List.set_cons_zero,List.set_cons_succ]
  refine wpAnyH_done (by kernel_rfl) ?_ _
  refine NoPanic.normal ?_
  go_wp2_with fail
  go_ret
  rw [HRR.out]
  exact ⟨rfl,HBa.out⟩
 have hne:(z1.toList == z0.toList)=false:=by rw [hz1,hz0];exact str_ne ho zsec_oct hz
 rw [if_neg hz] at hrr
 obtain ⟨x4,hx4⟩:∃ x,x=b.getD 4 0:=⟨_,rfl⟩
 obtain ⟨x5,hx5⟩:∃ x,x=b.getD 5 0:=⟨_,rfl⟩
 rw [←hx4] at h4 o4 hrr
 rw [←hx5] at h5 o5 hrr
 have HRR:=Lib.hid hrr
 clear hz1 hz0 hr hcell hx4 hx5 hrr ho hl hz
 go_enter Try.func52,Try.ntmps52
 go_wp2_with fail
 refine wp_region_noPanic ?_
 refine wp_region_held_drew (S:=fun W=>Below w.heap.size w W) (by kernel_rfl) (Below.refl _ w).drew (fun hHeld=>?_)
 refine wpAnyH_take (i:=0) (oi:={ dst:=some 4,op:=Op.move (Operand.tmp 0),type:=40,pos:=_,after:=_,guard:=none }) (v:=?_) rfl (by kernel_rfl) (by kernel_rfl) (by kernel_rfl) (fun _ _ _ h=>h) (Or.inl ⟨by rfl,?_⟩) hHeld ?_
 rotate_left 1
 ·(intro W hW;(try dsimp only at hW);go_simp;try with_reducible rfl)
 try simp only [Act.put,List.setIfInBounds_toArray,List.set_cons_zero,List.set_cons_succ]
 refine wpAnyH_take (i:=1) (oi:={ dst:=some 5,op:=Op.convert 40 9 (Operand.tmp 4),type:=9,pos:=_,after:=_,guard:=none }) (v:=?_) rfl (by kernel_rfl) (by kernel_rfl) (by kernel_rfl) (fun _ _ _ h=>h) (Or.inl ⟨by rfl,?_⟩) hHeld ?_
 rotate_left 1
 ·(intro W hW;have hcv:=conv_str (HR.out.under hW) HL.out HO.out;rw [←HZ1.out] at hcv;(try dsimp only at hW);go_simp;try with_reducible rfl)
 try simp only [Act.put,List.setIfInBounds_toArray,List.set_cons_zero,List.set_cons_succ]
 refine wpAnyH_ready (rs:=[2]) (by kernel_rfl) (by simp) ?_
 refine AllReadyH.cons (o:={ dst:=some 6,op:=Op.call { callee:=Callee.value (Operand.func 39),args:=#[Operand.const (Value.slice none 0 0)],argTypes:=#[40] },type:=40,pos:=_,after:=_,guard:=none }) rfl (fun K hK=>?_) AllReadyH.nil
 go_simp
 refine (rsectorZ _).mono ?_
 rintro e wa ⟨rfl,hra,_,hba⟩
 have HBa:=Lib.hid (show Below w.heap.size w wa from ⟨hba.os,hba.tape,hba.output,hba.size,hba.block⟩)
 have HRa:Hid (Rd .u8 wa wa.heap.size (some ⟨w.heap.size,0,none⟩) 64 zsec):=Lib.hid hra
 clear hra hba
 go_simp
 refine hK.out _ _ (HBa.out) (fun _=>?_)
 clear hK K hHeld
 try simp only [Act.put,List.setIfInBounds_toArray,List.set_cons_zero,List.set_cons_succ]
 refine wpAnyH_strong (S':=fun W=>Below wa.heap.size wa W) (fun W hW=>HBa.out.trans (hW.mono HBa.out.size)) _ _ _ _ ?_
 have hHeld:(fun W=>Below wa.heap.size wa W) wa:=Below.refl _ _
 refine wpAnyH_take (i:=3) (oi:={ dst:=some 7,op:=Op.convert 40 9 (Operand.tmp 6),type:=9,pos:=_,after:=_,guard:=none }) (v:=?_) rfl (by kernel_rfl) (by kernel_rfl) (by kernel_rfl) (fun _ _ _ h=>h) (Or.inl ⟨by rfl,?_⟩) hHeld ?_
 rotate_left 1
 ·(intro W hW;have hcv:=conv_str (HRa.out.under hW) HL0.out HO0.out;rw [←HZ0.out] at hcv;(try dsimp only at hW);go_simp;try with_reducible rfl)
 try simp only [Act.put,List.setIfInBounds_toArray,List.set_cons_zero,List.set_cons_succ]
 refine wpAnyH_take (i:=4) (oi:={ dst:=some 8,op:=Op.binOp BinOp.eql 9 (Operand.tmp 5) (Operand.tmp 7) 9,type:=4,pos:=_,after:=_,guard:=none }) (v:=?_) rfl (by kernel_rfl) (by kernel_rfl) (by kernel_rfl) (fun _ _ _ h=>h) (Or.inl ⟨by rfl,?_⟩) hHeld ?_
 rotate_left 1
 ·(intro W hW;(try dsimp only at hW);go_simp;try with_reducible rfl)
 try simp only [Act.put,List.setIfInBounds_toArray,List.set_cons_zero,List.set_cons_succ]
 refine wpAnyH_done (by kernel_rfl) ?_ _
 refine NoPanic.normal ?_
 go_wp2_with fail
 have k4:=(HBa.out.cell (p:=⟨g,off+4,none⟩) hlt).trans h4
 have k5:=(HBa.out.cell (p:=⟨g,off+5,none⟩) hlt).trans h5
 have hor:(x4:Int)*256+(x5:Int)=((x4*256+x5:Nat):Int):=by push_cast;rfl
 obtain ⟨v,hv⟩:∃ v,v=x4*256+x5:=⟨_,rfl⟩
 rw [←hv] at hor HRR
 have hv6:v<65536:=by omega
 have kX:IntKind.i64.wrap (x4:Int)=(x4:Int):=IntWalk.i64_in _ (by omega)
 have kX2:IntKind.i64.wrap ((x4:Int)*256)=(x4:Int)*256:=IntWalk.i64_in _ (by omega)
 have kX5:IntKind.i64.wrap (x5:Int)=(x5:Int):=IntWalk.i64_in _ (by omega)
 have kV:IntKind.i64.wrap (v:Int)=(v:Int):=IntWalk.i64_in _ (by omega)
 clear hv h4 h5
 go_wp2_with fail
 go_quiet (fail)
 go_wp2_with fail
 obtain ⟨Y,hY⟩:∃ Y,Y=wa.drewN nq:=⟨_,rfl⟩
 have HBW:Hid (Below w.heap.size w Y):=Lib.hid (by rw [hY];exact belowN HBa.out _)
 rw [←hY]
 clear hY k4 k5
 have HRW:Hid (Rd .u8 Y Y.heap.size (some ⟨g,off,none⟩) c b):=Lib.hid ((HR.out.under HBW.out).more HBW.out.size)
 by_cases h1:v<1
 ·have d1:decide ((v:Int)<1)=true:=decide_eq_true (by omega)
  have HR0:Hid (r = -1):=Lib.hid (by rw [HRR.out,if_pos (.inl h1)])
  clear HRR
  refine wp_region_noPanic ?_
  refine wp_region_held_drew (S:=fun W=>Below Y.heap.size Y W) (by kernel_rfl) (Below.refl _ Y).drew (fun hHeld=>?_)
  refine wpAnyH_take (i:=0) (oi:={ dst:=some 19,op:=Op.move (Operand.tmp 3),type:=3,pos:=_,after:=_,guard:=none }) (v:=?_) rfl (by kernel_rfl) (by kernel_rfl) (by kernel_rfl) (fun _ _ _ h=>h) (Or.inl ⟨by rfl,?_⟩) hHeld ?_
  rotate_left 1
  ·(intro W hW;(try dsimp only at hW);go_simp;try with_reducible rfl)
  try simp only [Act.put,List.setIfInBounds_toArray,List.set_cons_zero,List.set_cons_succ]
  refine wpAnyH_take (i:=1) (oi:={ dst:=some 20,op:=Op.binOp BinOp.lss 3 (Operand.tmp 19) (Operand.const (Value.int IntKind.i64 1)) 3,type:=4,pos:=_,after:=_,guard:=none }) (v:=?_) rfl (by kernel_rfl) (by kernel_rfl) (by kernel_rfl) (fun _ _ _ h=>h) (Or.inl ⟨by rfl,?_⟩) hHeld ?_
  rotate_left 1
  ·(intro W hW;(try dsimp only at hW);go_simp;try with_reducible rfl)
  try simp only [Act.put,List.setIfInBounds_toArray,List.set_cons_zero,List.set_cons_succ]
  refine wpAnyH_take (i:=2) (oi:={ dst:=some 21,op:=Op.move (Operand.tmp 20),type:=4,pos:=_,after:=_,guard:=none }) (v:=?_) rfl (by kernel_rfl) (by kernel_rfl) (by kernel_rfl) (fun _ _ _ h=>h) (Or.inl ⟨by rfl,?_⟩) hHeld ?_
  rotate_left 1
  ·(intro W hW;(try dsimp only at hW);go_simp;try with_reducible rfl)
  try simp only [Act.put,List.setIfInBounds_toArray,List.set_cons_zero,List.set_cons_succ]
  refine wpAnyH_take (i:=3) (oi:={ dst:=some 22,op:=Op.move (Operand.tmp 3),type:=3,pos:=_,after:=_,guard:=some (2,false) }) (v:=undef) rfl (by kernel_rfl) (by kernel_rfl) (by kernel_rfl) (fun _ _ _ h=>h) (Or.inr ⟨by rfl,rfl⟩) hHeld ?_
  try simp only [Act.put,List.setIfInBounds_toArray,List.set_cons_zero,List.set_cons_succ]
  refine wpAnyH_take (i:=4) (oi:={ dst:=some 23,op:=Op.binOp BinOp.gtr 3 (Operand.tmp 22) (Operand.const (Value.int IntKind.i64 150)) 3,type:=4,pos:=_,after:=_,guard:=some (2,false) }) (v:=undef) rfl (by kernel_rfl) (by kernel_rfl) (by kernel_rfl) (fun _ _ _ h=>h) (Or.inr ⟨by rfl,rfl⟩) hHeld ?_
  try simp only [Act.put,List.setIfInBounds_toArray,List.set_cons_zero,List.set_cons_succ]
  refine wpAnyH_take (i:=5) (oi:={ dst:=some 24,op:=Op.pick (Operand.tmp 21) (Operand.const (Value.bool true)) (Operand.tmp 23),type:=4,pos:=_,after:=_,guard:=none }) (v:=?_) rfl (by kernel_rfl) (by kernel_rfl) (by kernel_rfl) (fun _ _ _ h=>h) (Or.inl ⟨by rfl,?_⟩) hHeld ?_
  rotate_left 1
  ·(intro W hW;(try dsimp only at hW);go_simp;try with_reducible rfl)
  try simp only [Act.put,List.setIfInBounds_toArray,List.set_cons_zero,List.set_cons_succ]
  refine wpAnyH_take (i:=6) (oi:={ dst:=some 25,op:=Op.move (Operand.tmp 24),type:=4,pos:=_,after:=_,guard:=none }) (v:=?_) rfl (by kernel_rfl) (by kernel_rfl) (by kernel_rfl) (fun _ _ _ h=>h) (Or.inl ⟨by rfl,?_⟩) hHeld ?_
  rotate_left 1
  ·(intro W hW;(try dsimp only at hW);go_simp;try with_reducible rfl)
  try simp only [Act.put,List.setIfInBounds_toArray,List.set_cons_zero,List.set_cons_succ]
  refine wpAnyH_take (i:=7) (oi:={ dst:=some 26,op:=Op.move (Operand.tmp 0),type:=40,pos:=_,after:=_,guard:=some (6,false) }) (v:=undef) rfl (by kernel_rfl) (by kernel_rfl) (by kernel_rfl) (fun _ _ _ h=>h) (Or.inr ⟨by rfl,rfl⟩) hHeld ?_
  try simp only [Act.put,List.setIfInBounds_toArray,List.set_cons_zero,List.set_cons_succ]
  refine wpAnyH_take (i:=8) (oi:={ dst:=some 27,op:=Op.convert 40 9 (Operand.tmp 26),type:=9,pos:=_,after:=_,guard:=some (6,false) }) (v:=undef) rfl (by kernel_rfl) (by kernel_rfl) (by kernel_rfl) (fun _ _ _ h=>h) (Or.inr ⟨by rfl,rfl⟩) hHeld ?_
  try simp only [Act.put,List.setIfInBounds_toArray,List.set_cons_zero,List.set_cons_succ]
  refine wpAnyH_take (i:=9) (oi:={ dst:=some 28,op:=Op.move (Operand.tmp 3),type:=3,pos:=_,after:=_,guard:=some (6,false) }) (v:=undef) rfl (by kernel_rfl) (by kernel_rfl) (by kernel_rfl) (fun _ _ _ h=>h) (Or.inr ⟨by rfl,rfl⟩) hHeld ?_
  try simp only [Act.put,List.setIfInBounds_toArray,List.set_cons_zero,List.set_cons_succ]
  refine wpAnyH_take (i:=10) (oi:={ dst:=some 29,op:=Op.call { callee:=Callee.value (Operand.func 41),args:=#[Operand.tmp 28],argTypes:=#[3] },type:=40,pos:=_,after:=_,guard:=some (6,false) }) (v:=undef) rfl (by kernel_rfl) (by kernel_rfl) (by kernel_rfl) (fun _ _ _ h=>h) (Or.inr ⟨by rfl,rfl⟩) hHeld ?_
  try simp only [Act.put,List.setIfInBounds_toArray,List.set_cons_zero,List.set_cons_succ]
  refine wpAnyH_take (i:=11) (oi:={ dst:=some 30,op:=Op.convert 40 9 (Operand.tmp 29),type:=9,pos:=_,after:=_,guard:=some (6,false) }) (v:=undef) rfl (by kernel_rfl) (by kernel_rfl) (by kernel_rfl) (fun _ _ _ h=>h) (Or.inr ⟨by rfl,rfl⟩) hHeld ?_
  try simp only [Act.put,List.setIfInBounds_toArray,List.set_cons_zero,List.set_cons_succ]
  refine wpAnyH_take (i:=12) (oi:={ dst:=some 31,op:=Op.binOp BinOp.neq 9 (Operand.tmp 27) (Operand.tmp 30) 9,type:=4,pos:=_,after:=_,guard:=some (6,false) }) (v:=undef) rfl (by kernel_rfl) (by kernel_rfl) (by kernel_rfl) (fun _ _ _ h=>h) (Or.inr ⟨by rfl,rfl⟩) hHeld ?_
  try simp only [Act.put,List.setIfInBounds_toArray,List.set_cons_zero,List.set_cons_succ]
  refine wpAnyH_take (i:=13) (oi:={ dst:=some 32,op:=Op.pick (Operand.tmp 25) (Operand.const (Value.bool true)) (Operand.tmp 31),type:=4,pos:=_,after:=_,guard:=none }) (v:=?_) rfl (by kernel_rfl) (by kernel_rfl) (by kernel_rfl) (fun _ _ _ h=>h) (Or.inl ⟨by rfl,?_⟩) hHeld ?_
  rotate_left 1
  ·(intro W hW;(try dsimp only at hW);go_simp;try with_reducible rfl)
  try simp only [Act.put,List.setIfInBounds_toArray,List.set_cons_zero,List.set_cons_succ]
  refine wpAnyH_done (by kernel_rfl) ?_ _
  refine NoPanic.normal ?_
  go_wp2_with fail
  go_ret
  rw [HR0.out]
  exact ⟨rfl,⟨HBW.out.os,HBW.out.tape,HBW.out.output,HBW.out.size,HBW.out.block⟩⟩
 have d1:decide ((v:Int)<1)=false:=decide_eq_false (by omega)
 by_cases h2:150<v
 ·have d2:decide ((150:Int)<(v:Int))=true:=decide_eq_true (by omega)
  have HR0:Hid (r = -1):=Lib.hid (by rw [HRR.out,if_pos (.inr (.inl h2))])
  clear HRR
  refine wp_region_noPanic ?_
  refine wp_region_held_drew (S:=fun W=>Below Y.heap.size Y W) (by kernel_rfl) (Below.refl _ Y).drew (fun hHeld=>?_)
  refine wpAnyH_take (i:=0) (oi:={ dst:=some 19,op:=Op.move (Operand.tmp 3),type:=3,pos:=_,after:=_,guard:=none }) (v:=?_) rfl (by kernel_rfl) (by kernel_rfl) (by kernel_rfl) (fun _ _ _ h=>h) (Or.inl ⟨by rfl,?_⟩) hHeld ?_
  rotate_left 1
  ·(intro W hW;(try dsimp only at hW);go_simp;try with_reducible rfl)
  try simp only [Act.put,List.setIfInBounds_toArray,List.set_cons_zero,List.set_cons_succ]
  refine wpAnyH_take (i:=1) (oi:={ dst:=some 20,op:=Op.binOp BinOp.lss 3 (Operand.tmp 19) (Operand.const (Value.int IntKind.i64 1)) 3,type:=4,pos:=_,after:=_,guard:=none }) (v:=?_) rfl (by kernel_rfl) (by kernel_rfl) (by kernel_rfl) (fun _ _ _ h=>h) (Or.inl ⟨by rfl,?_⟩) hHeld ?_
  rotate_left 1
  ·(intro W hW;(try dsimp only at hW);go_simp;try with_reducible rfl)
  try simp only [Act.put,List.setIfInBounds_toArray,List.set_cons_zero,List.set_cons_succ]
  refine wpAnyH_take (i:=2) (oi:={ dst:=some 21,op:=Op.move (Operand.tmp 20),type:=4,pos:=_,after:=_,guard:=none }) (v:=?_) rfl (by kernel_rfl) (by kernel_rfl) (by kernel_rfl) (fun _ _ _ h=>h) (Or.inl ⟨by rfl,?_⟩) hHeld ?_
  rotate_left 1
  ·(intro W hW;(try dsimp only at hW);go_simp;try with_reducible rfl)
  try simp only [Act.put,List.setIfInBounds_toArray,List.set_cons_zero,List.set_cons_succ]
  refine wpAnyH_take (i:=3) (oi:={ dst:=some 22,op:=Op.move (Operand.tmp 3),type:=3,pos:=_,after:=_,guard:=some (2,false) }) (v:=?_) rfl (by kernel_rfl) (by kernel_rfl) (by kernel_rfl) (fun _ _ _ h=>h) (Or.inl ⟨by rfl,?_⟩) hHeld ?_
  rotate_left 1
  ·(intro W hW;(try dsimp only at hW);go_simp;try with_reducible rfl)
  try simp only [Act.put,List.setIfInBounds_toArray,List.set_cons_zero,List.set_cons_succ]
  refine wpAnyH_take (i:=4) (oi:={ dst:=some 23,op:=Op.binOp BinOp.gtr 3 (Operand.tmp 22) (Operand.const (Value.int IntKind.i64 150)) 3,type:=4,pos:=_,after:=_,guard:=some (2,false) }) (v:=?_) rfl (by kernel_rfl) (by kernel_rfl) (by kernel_rfl) (fun _ _ _ h=>h) (Or.inl ⟨by rfl,?_⟩) hHeld ?_
  rotate_left 1
  ·(intro W hW;(try dsimp only at hW);go_simp;try with_reducible rfl)
  try simp only [Act.put,List.setIfInBounds_toArray,List.set_cons_zero,List.set_cons_succ]
  refine wpAnyH_take (i:=5) (oi:={ dst:=some 24,op:=Op.pick (Operand.tmp 21) (Operand.const (Value.bool true)) (Operand.tmp 23),type:=4,pos:=_,after:=_,guard:=none }) (v:=?_) rfl (by kernel_rfl) (by kernel_rfl) (by kernel_rfl) (fun _ _ _ h=>h) (Or.inl ⟨by rfl,?_⟩) hHeld ?_
  rotate_left 1
  ·(intro W hW;(try dsimp only at hW);go_simp;try with_reducible rfl)
  try simp only [Act.put,List.setIfInBounds_toArray,List.set_cons_zero,List.set_cons_succ]
  refine wpAnyH_take (i:=6) (oi:={ dst:=some 25,op:=Op.move (Operand.tmp 24),type:=4,pos:=_,after:=_,guard:=none }) (v:=?_) rfl (by kernel_rfl) (by kernel_rfl) (by kernel_rfl) (fun _ _ _ h=>h) (Or.inl ⟨by rfl,?_⟩) hHeld ?_
  rotate_left 1
  ·(intro W hW;(try dsimp only at hW);go_simp;try with_reducible rfl)
  try simp only [Act.put,List.setIfInBounds_toArray,List.set_cons_zero,List.set_cons_succ]
  refine wpAnyH_take (i:=7) (oi:={ dst:=some 26,op:=Op.move (Operand.tmp 0),type:=40,pos:=_,after:=_,guard:=some (6,false) }) (v:=undef) rfl (by kernel_rfl) (by kernel_rfl) (by kernel_rfl) (fun _ _ _ h=>h) (Or.inr ⟨by rfl,rfl⟩) hHeld ?_
  try simp only [Act.put,List.setIfInBounds_toArray,List.set_cons_zero,List.set_cons_succ]
  refine wpAnyH_take (i:=8) (oi:={ dst:=some 27,op:=Op.convert 40 9 (Operand.tmp 26),type:=9,pos:=_,after:=_,guard:=some (6,false) }) (v:=undef) rfl (by kernel_rfl) (by kernel_rfl) (by kernel_rfl) (fun _ _ _ h=>h) (Or.inr ⟨by rfl,rfl⟩) hHeld ?_
  try simp only [Act.put,List.setIfInBounds_toArray,List.set_cons_zero,List.set_cons_succ]
  refine wpAnyH_take (i:=9) (oi:={ dst:=some 28,op:=Op.move (Operand.tmp 3),type:=3,pos:=_,after:=_,guard:=some (6,false) }) (v:=undef) rfl (by kernel_rfl) (by kernel_rfl) (by kernel_rfl) (fun _ _ _ h=>h) (Or.inr ⟨by rfl,rfl⟩) hHeld ?_
  try simp only [Act.put,List.setIfInBounds_toArray,List.set_cons_zero,List.set_cons_succ]
  refine wpAnyH_take (i:=10) (oi:={ dst:=some 29,op:=Op.call { callee:=Callee.value (Operand.func 41),args:=#[Operand.tmp 28],argTypes:=#[3] },type:=40,pos:=_,after:=_,guard:=some (6,false) }) (v:=undef) rfl (by kernel_rfl) (by kernel_rfl) (by kernel_rfl) (fun _ _ _ h=>h) (Or.inr ⟨by rfl,rfl⟩) hHeld ?_
  try simp only [Act.put,List.setIfInBounds_toArray,List.set_cons_zero,List.set_cons_succ]
  refine wpAnyH_take (i:=11) (oi:={ dst:=some 30,op:=Op.convert 40 9 (Operand.tmp 29),type:=9,pos:=_,after:=_,guard:=some (6,false) }) (v:=undef) rfl (by kernel_rfl) (by kernel_rfl) (by kernel_rfl) (fun _ _ _ h=>h) (Or.inr ⟨by rfl,rfl⟩) hHeld ?_
  try simp only [Act.put,List.setIfInBounds_toArray,List.set_cons_zero,List.set_cons_succ]
  refine wpAnyH_take (i:=12) (oi:={ dst:=some 31,op:=Op.binOp BinOp.neq 9 (Operand.tmp 27) (Operand.tmp 30) 9,type:=4,pos:=_,after:=_,guard:=some (6,false) }) (v:=undef) rfl (by kernel_rfl) (by kernel_rfl) (by kernel_rfl) (fun _ _ _ h=>h) (Or.inr ⟨by rfl,rfl⟩) hHeld ?_
  try simp only [Act.put,List.setIfInBounds_toArray,List.set_cons_zero,List.set_cons_succ]
  refine wpAnyH_take (i:=13) (oi:={ dst:=some 32,op:=Op.pick (Operand.tmp 25) (Operand.const (Value.bool true)) (Operand.tmp 31),type:=4,pos:=_,after:=_,guard:=none }) (v:=?_) rfl (by kernel_rfl) (by kernel_rfl) (by kernel_rfl) (fun _ _ _ h=>h) (Or.inl ⟨by rfl,?_⟩) hHeld ?_
  rotate_left 1
  ·(intro W hW;(try dsimp only at hW);go_simp;try with_reducible rfl)
  try simp only [Act.put,List.setIfInBounds_toArray,List.set_cons_zero,List.set_cons_succ]
  refine wpAnyH_done (by kernel_rfl) ?_ _
  refine NoPanic.normal ?_
  go_wp2_with fail
  go_ret
  rw [HR0.out]
  exact ⟨rfl,⟨HBW.out.os,HBW.out.tape,HBW.out.output,HBW.out.size,HBW.out.block⟩⟩
 have d2:decide ((150:Int)<(v:Int))=false:=decide_eq_false (by omega)
 have HLm:Hid ((markB v).length=64):=Lib.hid (secOf_length _)
 have HOm:=Lib.hid (markB_oct v)
 obtain ⟨zm,hzm⟩:∃ z,z=str (markB v):=⟨_,rfl⟩
 have HZm:=Lib.hid hzm
 by_cases h3:b=markB v
 ·have HR0:Hid (r=(v:Int)):=Lib.hid (by rw [HRR.out,if_neg (by rintro (h | h | h);exact h1 h;exact h2 h;exact h h3)])
  obtain rfl:z1=zm:=by rw [HZ1.out,hzm,h3]
  clear HRR hzm h3
  refine wp_region_noPanic ?_
  refine wp_region_held_drew (S:=fun W=>Below Y.heap.size Y W) (by kernel_rfl) (Below.refl _ Y).drew (fun hHeld=>?_)
  refine wpAnyH_take (i:=0) (oi:={ dst:=some 19,op:=Op.move (Operand.tmp 3),type:=3,pos:=_,after:=_,guard:=none }) (v:=?_) rfl (by kernel_rfl) (by kernel_rfl) (by kernel_rfl) (fun _ _ _ h=>h) (Or.inl ⟨by rfl,?_⟩) hHeld ?_
  rotate_left 1
  ·(intro W hW;(try dsimp only at hW);go_simp;try with_reducible rfl)
  try simp only [Act.put,List.setIfInBounds_toArray,List.set_cons_zero,List.set_cons_succ]
  refine wpAnyH_take (i:=1) (oi:={ dst:=some 20,op:=Op.binOp BinOp.lss 3 (Operand.tmp 19) (Operand.const (Value.int IntKind.i64 1)) 3,type:=4,pos:=_,after:=_,guard:=none }) (v:=?_) rfl (by kernel_rfl) (by kernel_rfl) (by kernel_rfl) (fun _ _ _ h=>h) (Or.inl ⟨by rfl,?_⟩) hHeld ?_
  rotate_left 1
  ·(intro W hW;(try dsimp only at hW);go_simp;try with_reducible rfl)
  try simp only [Act.put,List.setIfInBounds_toArray,List.set_cons_zero,List.set_cons_succ]
  refine wpAnyH_take (i:=2) (oi:={ dst:=some 21,op:=Op.move (Operand.tmp 20),type:=4,pos:=_,after:=_,guard:=none }) (v:=?_) rfl (by kernel_rfl) (by kernel_rfl) (by kernel_rfl) (fun _ _ _ h=>h) (Or.inl ⟨by rfl,?_⟩) hHeld ?_
  rotate_left 1
  ·(intro W hW;(try dsimp only at hW);go_simp;try with_reducible rfl)
  try simp only [Act.put,List.setIfInBounds_toArray,List.set_cons_zero,List.set_cons_succ]
  refine wpAnyH_take (i:=3) (oi:={ dst:=some 22,op:=Op.move (Operand.tmp 3),type:=3,pos:=_,after:=_,guard:=some (2,false) }) (v:=?_) rfl (by kernel_rfl) (by kernel_rfl) (by kernel_rfl) (fun _ _ _ h=>h) (Or.inl ⟨by rfl,?_⟩) hHeld ?_
  rotate_left 1
  ·(intro W hW;(try dsimp only at hW);go_simp;try with_reducible rfl)
  try simp only [Act.put,List.setIfInBounds_toArray,List.set_cons_zero,List.set_cons_succ]
  refine wpAnyH_take (i:=4) (oi:={ dst:=some 23,op:=Op.binOp BinOp.gtr 3 (Operand.tmp 22) (Operand.const (Value.int IntKind.i64 150)) 3,type:=4,pos:=_,after:=_,guard:=some (2,false) }) (v:=?_) rfl (by kernel_rfl) (by kernel_rfl) (by kernel_rfl) (fun _ _ _ h=>h) (Or.inl ⟨by rfl,?_⟩) hHeld ?_
  rotate_left 1
  ·(intro W hW;(try dsimp only at hW);go_simp;try with_reducible rfl)
  try simp only [Act.put,List.setIfInBounds_toArray,List.set_cons_zero,List.set_cons_succ]
  refine wpAnyH_take (i:=5) (oi:={ dst:=some 24,op:=Op.pick (Operand.tmp 21) (Operand.const (Value.bool true)) (Operand.tmp 23),type:=4,pos:=_,after:=_,guard:=none }) (v:=?_) rfl (by kernel_rfl) (by kernel_rfl) (by kernel_rfl) (fun _ _ _ h=>h) (Or.inl ⟨by rfl,?_⟩) hHeld ?_
  rotate_left 1
  ·(intro W hW;(try dsimp only at hW);go_simp;try with_reducible rfl)
  try simp only [Act.put,List.setIfInBounds_toArray,List.set_cons_zero,List.set_cons_succ]
  refine wpAnyH_take (i:=6) (oi:={ dst:=some 25,op:=Op.move (Operand.tmp 24),type:=4,pos:=_,after:=_,guard:=none }) (v:=?_) rfl (by kernel_rfl) (by kernel_rfl) (by kernel_rfl) (fun _ _ _ h=>h) (Or.inl ⟨by rfl,?_⟩) hHeld ?_
  rotate_left 1
  ·(intro W hW;(try dsimp only at hW);go_simp;try with_reducible rfl)
  try simp only [Act.put,List.setIfInBounds_toArray,List.set_cons_zero,List.set_cons_succ]
  refine wpAnyH_take (i:=7) (oi:={ dst:=some 26,op:=Op.move (Operand.tmp 0),type:=40,pos:=_,after:=_,guard:=some (6,false) }) (v:=?_) rfl (by kernel_rfl) (by kernel_rfl) (by kernel_rfl) (fun _ _ _ h=>h) (Or.inl ⟨by rfl,?_⟩) hHeld ?_
  rotate_left 1
  ·(intro W hW;(try dsimp only at hW);go_simp;try with_reducible rfl)
  try simp only [Act.put,List.setIfInBounds_toArray,List.set_cons_zero,List.set_cons_succ]
  refine wpAnyH_take (i:=8) (oi:={ dst:=some 27,op:=Op.convert 40 9 (Operand.tmp 26),type:=9,pos:=_,after:=_,guard:=some (6,false) }) (v:=?_) rfl (by kernel_rfl) (by kernel_rfl) (by kernel_rfl) (fun _ _ _ h=>h) (Or.inl ⟨by rfl,?_⟩) hHeld ?_
  rotate_left 1
  ·(intro W hW;have hcv:=conv_str (HRW.out.under hW) HL.out HO.out;rw [←HZ1.out] at hcv;(try dsimp only at hW);go_simp;try with_reducible rfl)
  try simp only [Act.put,List.setIfInBounds_toArray,List.set_cons_zero,List.set_cons_succ]
  refine wpAnyH_take (i:=9) (oi:={ dst:=some 28,op:=Op.move (Operand.tmp 3),type:=3,pos:=_,after:=_,guard:=some (6,false) }) (v:=?_) rfl (by kernel_rfl) (by kernel_rfl) (by kernel_rfl) (fun _ _ _ h=>h) (Or.inl ⟨by rfl,?_⟩) hHeld ?_
  rotate_left 1
  ·(intro W hW;(try dsimp only at hW);go_simp;try with_reducible rfl)
  try simp only [Act.put,List.setIfInBounds_toArray,List.set_cons_zero,List.set_cons_succ]
  refine wpAnyH_ready (rs:=[10]) (by kernel_rfl) (by simp) ?_
  refine AllReadyH.cons (o:={ dst:=some 29,op:=Op.call { callee:=Callee.value (Operand.func 41),args:=#[Operand.tmp 28],argTypes:=#[3] },type:=40,pos:=_,after:=_,guard:=some (6,false) }) rfl (fun K hK=>?_) AllReadyH.nil
  go_simp
  refine (mark'_any _ v (by omega)).mono ?_
  rintro e wm ⟨rfl,hrm,_,hbm⟩
  have HBm:=Lib.hid (show Below Y.heap.size Y wm from ⟨hbm.os,hbm.tape,hbm.output,hbm.size,hbm.block⟩)
  have HRm:Hid (Rd .u8 wm wm.heap.size (some ⟨Y.heap.size+1,0,none⟩) 64 (markB v)):=Lib.hid hrm
  clear hrm hbm
  go_simp
  refine hK.out _ _ (HBm.out) (fun _=>?_)
  clear hK K hHeld
  try simp only [Act.put,List.setIfInBounds_toArray,List.set_cons_zero,List.set_cons_succ]
  refine wpAnyH_strong (S':=fun W=>Below wm.heap.size wm W) (fun W hW=>HBm.out.trans (hW.mono HBm.out.size)) _ _ _ _ ?_
  have hHeld:(fun W=>Below wm.heap.size wm W) wm:=Below.refl _ _
  refine wpAnyH_take (i:=11) (oi:={ dst:=some 30,op:=Op.convert 40 9 (Operand.tmp 29),type:=9,pos:=_,after:=_,guard:=some (6,false) }) (v:=?_) rfl (by kernel_rfl) (by kernel_rfl) (by kernel_rfl) (fun _ _ _ h=>h) (Or.inl ⟨by rfl,?_⟩) hHeld ?_
  rotate_left 1
  ·(intro W hW;have hcv:=conv_str (HRm.out.under hW) HLm.out HOm.out;rw [←HZm.out] at hcv;(try dsimp only at hW);go_simp;try with_reducible rfl)
  try simp only [Act.put,List.setIfInBounds_toArray,List.set_cons_zero,List.set_cons_succ]
  refine wpAnyH_take (i:=12) (oi:={ dst:=some 31,op:=Op.binOp BinOp.neq 9 (Operand.tmp 27) (Operand.tmp 30) 9,type:=4,pos:=_,after:=_,guard:=some (6,false) }) (v:=?_) rfl (by kernel_rfl) (by kernel_rfl) (by kernel_rfl) (fun _ _ _ h=>h) (Or.inl ⟨by rfl,?_⟩) hHeld ?_
  rotate_left 1
  ·(intro W hW;(try dsimp only at hW);go_simp;try with_reducible rfl)
  try simp only [Act.put,List.setIfInBounds_toArray,List.set_cons_zero,List.set_cons_succ]
  refine wpAnyH_take (i:=13) (oi:={ dst:=some 32,op:=Op.pick (Operand.tmp 25) (Operand.const (Value.bool true)) (Operand.tmp 31),type:=4,pos:=_,after:=_,guard:=none }) (v:=?_) rfl (by kernel_rfl) (by kernel_rfl) (by kernel_rfl) (fun _ _ _ h=>h) (Or.inl ⟨by rfl,?_⟩) hHeld ?_
  rotate_left 1
  ·(intro W hW;(try dsimp only at hW);go_simp;try with_reducible rfl)
  try simp only [Act.put,List.setIfInBounds_toArray,List.set_cons_zero,List.set_cons_succ]
  refine wpAnyH_done (by kernel_rfl) ?_ _
  refine NoPanic.normal ?_
  go_wp2_with fail
  go_ret
  rw [HR0.out]
  exact ⟨rfl,HBW.out.trans (HBm.out.mono HBW.out.size)⟩
 ·have HR0:Hid (r = -1):=Lib.hid (by rw [HRR.out,if_pos (.inr (.inr h3))])
  have hz3:(z1.toList == zm.toList)=false:=by rw [HZ1.out,hzm];exact str_ne HO.out (markB_oct _) h3
  clear HRR hzm h3
  refine wp_region_noPanic ?_
  refine wp_region_held_drew (S:=fun W=>Below Y.heap.size Y W) (by kernel_rfl) (Below.refl _ Y).drew (fun hHeld=>?_)
  refine wpAnyH_take (i:=0) (oi:={ dst:=some 19,op:=Op.move (Operand.tmp 3),type:=3,pos:=_,after:=_,guard:=none }) (v:=?_) rfl (by kernel_rfl) (by kernel_rfl) (by kernel_rfl) (fun _ _ _ h=>h) (Or.inl ⟨by rfl,?_⟩) hHeld ?_
  rotate_left 1
  ·(intro W hW;(try dsimp only at hW);go_simp;try with_reducible rfl)
  try simp only [Act.put,List.setIfInBounds_toArray,List.set_cons_zero,List.set_cons_succ]
  refine wpAnyH_take (i:=1) (oi:={ dst:=some 20,op:=Op.binOp BinOp.lss 3 (Operand.tmp 19) (Operand.const (Value.int IntKind.i64 1)) 3,type:=4,pos:=_,after:=_,guard:=none }) (v:=?_) rfl (by kernel_rfl) (by kernel_rfl) (by kernel_rfl) (fun _ _ _ h=>h) (Or.inl ⟨by rfl,?_⟩) hHeld ?_
  rotate_left 1
  ·(intro W hW;(try dsimp only at hW);go_simp;try with_reducible rfl)
  try simp only [Act.put,List.setIfInBounds_toArray,List.set_cons_zero,List.set_cons_succ]
  refine wpAnyH_take (i:=2) (oi:={ dst:=some 21,op:=Op.move (Operand.tmp 20),type:=4,pos:=_,after:=_,guard:=none }) (v:=?_) rfl (by kernel_rfl) (by kernel_rfl) (by kernel_rfl) (fun _ _ _ h=>h) (Or.inl ⟨by rfl,?_⟩) hHeld ?_
  rotate_left 1
  ·(intro W hW;(try dsimp only at hW);go_simp;try with_reducible rfl)
  try simp only [Act.put,List.setIfInBounds_toArray,List.set_cons_zero,List.set_cons_succ]
  refine wpAnyH_take (i:=3) (oi:={ dst:=some 22,op:=Op.move (Operand.tmp 3),type:=3,pos:=_,after:=_,guard:=some (2,false) }) (v:=?_) rfl (by kernel_rfl) (by kernel_rfl) (by kernel_rfl) (fun _ _ _ h=>h) (Or.inl ⟨by rfl,?_⟩) hHeld ?_
  rotate_left 1
  ·(intro W hW;(try dsimp only at hW);go_simp;try with_reducible rfl)
  try simp only [Act.put,List.setIfInBounds_toArray,List.set_cons_zero,List.set_cons_succ]
  refine wpAnyH_take (i:=4) (oi:={ dst:=some 23,op:=Op.binOp BinOp.gtr 3 (Operand.tmp 22) (Operand.const (Value.int IntKind.i64 150)) 3,type:=4,pos:=_,after:=_,guard:=some (2,false) }) (v:=?_) rfl (by kernel_rfl) (by kernel_rfl) (by kernel_rfl) (fun _ _ _ h=>h) (Or.inl ⟨by rfl,?_⟩) hHeld ?_
  rotate_left 1
  ·(intro W hW;(try dsimp only at hW);go_simp;try with_reducible rfl)
  try simp only [Act.put,List.setIfInBounds_toArray,List.set_cons_zero,List.set_cons_succ]
  refine wpAnyH_take (i:=5) (oi:={ dst:=some 24,op:=Op.pick (Operand.tmp 21) (Operand.const (Value.bool true)) (Operand.tmp 23),type:=4,pos:=_,after:=_,guard:=none }) (v:=?_) rfl (by kernel_rfl) (by kernel_rfl) (by kernel_rfl) (fun _ _ _ h=>h) (Or.inl ⟨by rfl,?_⟩) hHeld ?_
  rotate_left 1
  ·(intro W hW;(try dsimp only at hW);go_simp;try with_reducible rfl)
  try simp only [Act.put,List.setIfInBounds_toArray,List.set_cons_zero,List.set_cons_succ]
  refine wpAnyH_take (i:=6) (oi:={ dst:=some 25,op:=Op.move (Operand.tmp 24),type:=4,pos:=_,after:=_,guard:=none }) (v:=?_) rfl (by kernel_rfl) (by kernel_rfl) (by kernel_rfl) (fun _ _ _ h=>h) (Or.inl ⟨by rfl,?_⟩) hHeld ?_
  rotate_left 1
  ·(intro W hW;(try dsimp only at hW);go_simp;try with_reducible rfl)
  try simp only [Act.put,List.setIfInBounds_toArray,List.set_cons_zero,List.set_cons_succ]
  refine wpAnyH_take (i:=7) (oi:={ dst:=some 26,op:=Op.move (Operand.tmp 0),type:=40,pos:=_,after:=_,guard:=some (6,false) }) (v:=?_) rfl (by kernel_rfl) (by kernel_rfl) (by kernel_rfl) (fun _ _ _ h=>h) (Or.inl ⟨by rfl,?_⟩) hHeld ?_
  rotate_left 1
  ·(intro W hW;(try dsimp only at hW);go_simp;try with_reducible rfl)
  try simp only [Act.put,List.setIfInBounds_toArray,List.set_cons_zero,List.set_cons_succ]
  refine wpAnyH_take (i:=8) (oi:={ dst:=some 27,op:=Op.convert 40 9 (Operand.tmp 26),type:=9,pos:=_,after:=_,guard:=some (6,false) }) (v:=?_) rfl (by kernel_rfl) (by kernel_rfl) (by kernel_rfl) (fun _ _ _ h=>h) (Or.inl ⟨by rfl,?_⟩) hHeld ?_
  rotate_left 1
  ·(intro W hW;have hcv:=conv_str (HRW.out.under hW) HL.out HO.out;rw [←HZ1.out] at hcv;(try dsimp only at hW);go_simp;try with_reducible rfl)
  try simp only [Act.put,List.setIfInBounds_toArray,List.set_cons_zero,List.set_cons_succ]
  refine wpAnyH_take (i:=9) (oi:={ dst:=some 28,op:=Op.move (Operand.tmp 3),type:=3,pos:=_,after:=_,guard:=some (6,false) }) (v:=?_) rfl (by kernel_rfl) (by kernel_rfl) (by kernel_rfl) (fun _ _ _ h=>h) (Or.inl ⟨by rfl,?_⟩) hHeld ?_
  rotate_left 1
  ·(intro W hW;(try dsimp only at hW);go_simp;try with_reducible rfl)
  try simp only [Act.put,List.setIfInBounds_toArray,List.set_cons_zero,List.set_cons_succ]
  refine wpAnyH_ready (rs:=[10]) (by kernel_rfl) (by simp) ?_
  refine AllReadyH.cons (o:={ dst:=some 29,op:=Op.call { callee:=Callee.value (Operand.func 41),args:=#[Operand.tmp 28],argTypes:=#[3] },type:=40,pos:=_,after:=_,guard:=some (6,false) }) rfl (fun K hK=>?_) AllReadyH.nil
  go_simp
  refine (mark'_any _ v (by omega)).mono ?_
  rintro e wm ⟨rfl,hrm,_,hbm⟩
  have HBm:=Lib.hid (show Below Y.heap.size Y wm from ⟨hbm.os,hbm.tape,hbm.output,hbm.size,hbm.block⟩)
  have HRm:Hid (Rd .u8 wm wm.heap.size (some ⟨Y.heap.size+1,0,none⟩) 64 (markB v)):=Lib.hid hrm
  clear hrm hbm
  go_simp
  refine hK.out _ _ (HBm.out) (fun _=>?_)
  clear hK K hHeld
  try simp only [Act.put,List.setIfInBounds_toArray,List.set_cons_zero,List.set_cons_succ]
  refine wpAnyH_strong (S':=fun W=>Below wm.heap.size wm W) (fun W hW=>HBm.out.trans (hW.mono HBm.out.size)) _ _ _ _ ?_
  have hHeld:(fun W=>Below wm.heap.size wm W) wm:=Below.refl _ _
  refine wpAnyH_take (i:=11) (oi:={ dst:=some 30,op:=Op.convert 40 9 (Operand.tmp 29),type:=9,pos:=_,after:=_,guard:=some (6,false) }) (v:=?_) rfl (by kernel_rfl) (by kernel_rfl) (by kernel_rfl) (fun _ _ _ h=>h) (Or.inl ⟨by rfl,?_⟩) hHeld ?_
  rotate_left 1
  ·(intro W hW;have hcv:=conv_str (HRm.out.under hW) HLm.out HOm.out;rw [←HZm.out] at hcv;(try dsimp only at hW);go_simp;try with_reducible rfl)
  try simp only [Act.put,List.setIfInBounds_toArray,List.set_cons_zero,List.set_cons_succ]
  refine wpAnyH_take (i:=12) (oi:={ dst:=some 31,op:=Op.binOp BinOp.neq 9 (Operand.tmp 27) (Operand.tmp 30) 9,type:=4,pos:=_,after:=_,guard:=some (6,false) }) (v:=?_) rfl (by kernel_rfl) (by kernel_rfl) (by kernel_rfl) (fun _ _ _ h=>h) (Or.inl ⟨by rfl,?_⟩) hHeld ?_
  rotate_left 1
  ·(intro W hW;(try dsimp only at hW);go_simp;try with_reducible rfl)
  try simp only [Act.put,List.setIfInBounds_toArray,List.set_cons_zero,List.set_cons_succ]
  refine wpAnyH_take (i:=13) (oi:={ dst:=some 32,op:=Op.pick (Operand.tmp 25) (Operand.const (Value.bool true)) (Operand.tmp 31),type:=4,pos:=_,after:=_,guard:=none }) (v:=?_) rfl (by kernel_rfl) (by kernel_rfl) (by kernel_rfl) (fun _ _ _ h=>h) (Or.inl ⟨by rfl,?_⟩) hHeld ?_
  rotate_left 1
  ·(intro W hW;(try dsimp only at hW);go_simp;try with_reducible rfl)
  try simp only [Act.put,List.setIfInBounds_toArray,List.set_cons_zero,List.set_cons_succ]
  refine wpAnyH_done (by kernel_rfl) ?_ _
  refine NoPanic.normal ?_
  go_wp2_with fail
  go_ret
  rw [HR0.out]
  exact ⟨rfl,HBW.out.trans (HBm.out.mono HBW.out.size)⟩
theorem wv_snoc (l:List Wr) (x:Wr):wv (l ++ [x])=wv l ++ [x.v]:=by simp [wv]
def LoggedP (w:World) (s:Dk) (n:Nat) (e:Ending) (w':World):Prop :=
 Below w.heap.size w w'∧(((∀ p∈s.told n,p.1<(s.many:Int))∧∃ A c l,e = .returned (.tuple #[.slice A n c,.bool true])∧l.length=n∧wv l=(s.told n).map (fun p=>(157+p.1,p.2))∧(∀ x∈l,∀ g,blockOf x.da=some g→w.heap.size≤g)∧RdWrG w.heap.size A c l w')∨(¬ (∀ p∈s.told n,p.1<(s.many:Int))∧e = .returned (.tuple #[.slice none 0 0,.bool false])))
def RelLg (w:World) (s:Dk) (n:Nat) (sl si:Value) (wr:World):Prop :=
 ∃ (k:Nat) (l:List Wr) (A:Option Addr) (c:Nat),k≤n∧si = .int .i64 k∧sl = .slice A k c∧l.length=k∧(∀ i,i<k→(s.toldAt n i).1<(s.many:Int))∧wv l=(List.range k).map (fun i=>(157+(s.toldAt n i).1,(s.toldAt n i).2))∧(∀ x∈l,∀ g,blockOf x.da=some g→w.heap.size≤g)∧Wrs w wr w.heap.size A c l
theorem told_lt {s:Dk} {n:Nat}:(∀ p∈s.told n,p.1<(s.many:Int))↔∀ i,i<n→(s.toldAt n i).1<(s.many:Int):=by
 unfold Dk.told
 simp
section
variable {w:World} {F:Nat→Prop} {gx:Nat} {s:Dk}
set_option maxRecDepth 100000 in
set_option maxHeartbeats 8000000 in
theorem logged'_any (h:Ref w F gx s) (n:Nat) (hn:n≤150) (hlen:157<s.now.length) (h64:∀ i:Nat,i<s.now.length→(s.read (i:Int)).length=64) (hoc:∀ i:Nat,Oct1 (s.read (i:Int))) (hwl:s.waits.length≤100000) :
  Calls Try.prog 53 #[.pointer (some ⟨gx,0,none⟩),.int .i64 (n:Int)] w (LoggedP w s n):=by
 have hML:s.many≤2000:=by have:=h.le;unfold Dk.many;omega
 have HRD:Hid (∀ W,Below w.heap.size w W→∀ j:Nat,j<s.now.length→Calls Try.prog 51 #[.pointer (some ⟨gx,0,none⟩),.int .i64 (j:Int)] W fun e w'=>∃ A' c',e = .returned (.slice A' 64 c')∧Rd .u8 w' w'.heap.size A' c' (s.read (j:Int))∧Below W.heap.size W w'∧∀ g,blockOf A'=some g→W.heap.size≤g):=Lib.hid fun W hW j hj=>by
  have:=ref_readN (h.under hW) hwl (j:Int) _ rfl
  rw [h64 j hj] at this
  exact this
 have HMN:Hid (∀ W,Below w.heap.size w W→Calls Try.prog 50 #[.pointer (some ⟨gx,0,none⟩)] W fun e w'=>e = .returned (.int .i64 (s.many:Int))∧W=w'):=Lib.hid fun W hW=>rmany (h.under hW)
 have H64:=Lib.hid h64
 have HOC:=Lib.hid hoc
 have HLEN:=Lib.hid hlen
 obtain ⟨m,hm⟩:∃ m,m=s.many:=⟨_,rfl⟩
 rw [←hm] at hML HMN
 have HM:=Lib.hid hm
 obtain ⟨u,hu⟩:∃ u,u=sheetsN n:=⟨_,rfl⟩
 have hu5:u≤5:=by unfold sheetsN at hu;omega
 have HIX:Hid (∀ W,Calls Try.prog 38 #[.int .i64 (n:Int)] W fun e w'=>e = .returned (.int .i64 (u:Int))∧W=w'):=Lib.hid fun W=>by
  rw [hu]
  exact index_any W n (by omega)
 have HU:=Lib.hid hu
 clear h h64 hoc hwl hlen hm hu
 go_enter Try.func53,Try.ntmps53
 go_wp2_with fail
 go_loopw [6,7] (fun sl si wr=>RelLg w s n sl si wr) (fun _ si _=>n - (intOf si).toNat)
 case atStart=>exact ⟨0,[],none,0,Nat.zero_le _,rfl,rfl,rfl,(fun i hi=>absurd hi (Nat.not_lt_zero _)),rfl,(fun x hx=>by cases hx),Wrs.nil _ _⟩
 case round =>
  obtain ⟨k,l,A,c,hk,rfl,rfl,hll,hal,hwv,hbl,hrs⟩:=hrel
  obtain ⟨V,hV⟩:∃ V,V=wr:=⟨_,rfl⟩
  subst hV
  have HLL:=Lib.hid hll
  have HAL:=Lib.hid hal
  have HWV:=Lib.hid hwv
  have HBL:=Lib.hid hbl
  have HRS:=Lib.hid hrs
  clear hll hal hwv hbl hrs
  by_cases hlt:k<n
  case pos =>
   have hkI:(k:Int)<(n:Int):=by omega
   have hk0:(0:Int)≤(k:Int):=by omega
   obtain ⟨q,hq⟩:∃ q,q=k / 32:=⟨_,rfl⟩
   obtain ⟨t,ht⟩:∃ t,t=k % 32:=⟨_,rfl⟩
   have kq:(k:Int) / 32=(q:Int):=by omega
   have kt:(k:Int) % 32=(t:Int):=by omega
   have hq4:q≤4:=by omega
   have ht4:t≤31:=by omega
   have kw:IntKind.i64.wrap (2+(q:Int))=((2+q:Nat):Int):=by rw [IntWalk.i64_in _ (by omega)];omega
   have HR1:=Lib.hid (HRD.out V HRS.out.bel (2+q) (by have:=HLEN.out;omega))
   have HQ:=Lib.hid hq
   have HT:=Lib.hid ht
   clear hq ht
   go_wp2_with fail
   refine HR1.out.mono ?_
   rintro e w1 ⟨A1,c1,rfl,hr1,hb1,_⟩
   have HL64:Hid ((s.read ((2+q:Nat):Int)).length=64):=Lib.hid (H64.out (2+q) (by have:=HLEN.out;omega))
   obtain ⟨b1,o1,rfl,hlt1,hcell⟩:=hr1.2.2 (by rw [HL64.out];omega)
   obtain ⟨p,hp⟩:∃ p,p=2*t:=⟨_,rfl⟩
   obtain ⟨p1,hp1⟩:∃ p1,p1=p+1:=⟨_,rfl⟩
   have k4:=hcell p (by rw [HL64.out];omega)
   have k5:=hcell p1 (by rw [HL64.out];omega)
   obtain ⟨x4,hx4⟩:∃ x,x=(s.read ((2+q:Nat):Int)).getD p 0:=⟨_,rfl⟩
   obtain ⟨x5,hx5⟩:∃ x,x=(s.read ((2+q:Nat):Int)).getD p1 0:=⟨_,rfl⟩
   have o4:x4<256:=by rw [hx4];exact (HOC.out _) _ (getD_mem (by rw [HL64.out];omega))
   have o5:x5<256:=by rw [hx5];exact (HOC.out _) _ (getD_mem (by rw [HL64.out];omega))
   rw [←hx4] at k4
   rw [←hx5] at k5
   have hc1:64≤c1:=by have:=hr1.1;rw [HL64.out] at this;exact this
   have hc2:=hr1.2.1
   obtain ⟨iv,hiv⟩:∃ v,v=x4*256+x5:=⟨_,rfl⟩
   have hor:(x4:Int)*256+(x5:Int)=(iv:Int):=by rw [hiv];push_cast;rfl
   have hiv6:iv<65536:=by omega
   have kV:IntKind.i64.wrap (iv:Int)=(iv:Int):=IntWalk.i64_in _ (by omega)
   have kX:IntKind.i64.wrap (x4:Int)=(x4:Int):=IntWalk.i64_in _ (by omega)
   have kX2:IntKind.i64.wrap ((x4:Int)*256)=(x4:Int)*256:=IntWalk.i64_in _ (by omega)
   have kX5:IntKind.i64.wrap (x5:Int)=(x5:Int):=IntWalk.i64_in _ (by omega)
   have HV2:Hid ((s.toldAt n k).1=(iv:Int)∧(s.toldAt n k).2=s.read ((2+u+k:Nat):Int)):=Lib.hid (by
    unfold Dk.toldAt
    rw [←HQ.out,←HT.out,←HU.out,←hp,←hp1,←hx4,←hx5,←hiv]
    exact ⟨rfl,rfl⟩)
   have kA:2*(t:Int)=(p:Int):=by omega
   have kA0:(0:Int)≤(p:Int):=by omega
   have kA1:(p:Int)<64:=by omega
   have kAw:IntKind.i64.wrap (p:Int)=(p:Int):=IntWalk.i64_in _ (by omega)
   have kA2:IntKind.i64.wrap ((p:Int)+1)=(p1:Int):=by rw [IntWalk.i64_in _ (by omega)];omega
   have kA3:(0:Int)≤(p1:Int):=by omega
   have kA4:(p1:Int)<64:=by omega
   have HB1:=Lib.hid (HRS.out.bel.trans (hb1.mono HRS.out.bel.size))
   have HB1V:=Lib.hid hb1
   have HR1X:=Lib.hid hr1
   clear hp hp1 hx4 hx5 hiv hr1 hb1 hcell HR1
   go_wp2_with fail
   go_quiet (fail)
   obtain ⟨Y,hY⟩:∃ Y,Y=w1.drewN nq:=⟨_,rfl⟩
   have HBY:Hid (Below w.heap.size w Y):=Lib.hid (by rw [hY];exact belowN HB1.out _)
   have HBVY:Hid (Below V.heap.size V Y):=Lib.hid (by rw [hY];exact belowN HB1V.out _)
   rw [←hY]
   clear hY k4 k5 HB1 HB1V HR1X hlt1 hc1 hc2 kA kA0 kA1 kA2 kA3 kA4 kAw kX kX2 kX5 kV hor o4 o5
   have HMY:=Lib.hid (HMN.out Y HBY.out)
   by_cases him:m≤iv
   ·have d1:decide ((m:Int)≤(iv:Int))=true:=decide_eq_true (by omega)
    have HNO:Hid (¬ (∀ p∈s.told n,p.1<(s.many:Int))):=Lib.hid (fun hh=>by
     have h1:=told_lt.1 hh k hlt
     rw [HV2.out.1,←HM.out] at h1
     omega)
    go_wp2_with (first | (refine HMY.out.mono ?_;rintro e wq ⟨rfl,rfl⟩) | fail)
    go_ret2
    exact ⟨HBY.out,.inr ⟨HNO.out,rfl⟩⟩
   ·have d1:decide ((m:Int)≤(iv:Int))=false:=decide_eq_false (by omega)
    obtain ⟨v,hv⟩:∃ v,v=157+iv:=⟨_,rfl⟩
    obtain ⟨u2,hu2⟩:∃ u2,u2=2+u:=⟨_,rfl⟩
    obtain ⟨j,hj⟩:∃ j,j=u2+k:=⟨_,rfl⟩
    have kv:IntKind.i64.wrap (157+(iv:Int))=(v:Int):=by rw [IntWalk.i64_in _ (by omega)];omega
    have ku:IntKind.i64.wrap (2+(u:Int))=(u2:Int):=by rw [IntWalk.i64_in _ (by omega)];omega
    have kj:IntKind.i64.wrap ((u2:Int)+(k:Int))=(j:Int):=by rw [IntWalk.i64_in _ (by omega)];omega
    have HV3:Hid ((v:Int)=157+(s.toldAt n k).1∧s.read (j:Int)=(s.toldAt n k).2∧(s.toldAt n k).1<(s.many:Int)):=Lib.hid (by
     rw [HV2.out.1,HV2.out.2,←HM.out,hj,hu2]
     exact ⟨by omega,rfl,by omega⟩)
    have HR2:=Lib.hid (HRD.out Y HBY.out j (by have:=HLEN.out;omega))
    have HL2:Hid ((s.read (j:Int)).length=64):=Lib.hid (H64.out j (by have:=HLEN.out;omega))
    clear hv hu2 hj HV2
    go_wp2_with (first | (refine HMY.out.mono ?_;rintro e wq ⟨rfl,rfl⟩) | (refine (HIX.out _).mono ?_;rintro e wq ⟨rfl,rfl⟩) | fail)
    refine HR2.out.mono ?_
    rintro e w3 ⟨A3,c3,rfl,hr3,hb3,hn3⟩
    obtain ⟨x,hx⟩:∃ x:Wr,x=⟨(v:Int),A3,c3,s.read (j:Int)⟩:=⟨_,rfl⟩
    have HX:=Lib.hid hx
    obtain ⟨W3,hW3⟩:∃ W,W=w3.alloc (.cells #[.int .i64 (v:Int),.slice A3 64 c3] 42):=⟨_,rfl⟩
    have HW3:=Lib.hid hW3
    have hb4:Below Y.heap.size Y W3:=by rw [hW3];exact hb3.alloc hb3.size _
    have hb4V:Below V.heap.size V W3:=HBVY.out.trans (hb4.mono HBVY.out.size)
    have hst:=HRS.out.under hb4V
    have HST:=Lib.hid hst
    have hb34:Below w3.heap.size w3 W3:=by rw [hW3];exact (Below.refl _ _).alloc (Nat.le_refl _) _
    have HFX:Hid (Holds W3 w3.heap.size 42 (wrCells x).toArray):=Lib.hid (by rw [hW3,hx];unfold wrCells;dsimp only;rw [HL2.out];exact Holds.fresh _ _ _)
    have HOW:Hid (OwnV 42 2 W3 A c k (l.flatMap wrCells)):=Lib.hid (by have:=hst.own;rwa [HLL.out] at this)
    have HWC:Hid (∀ u∈wrCells x,u.oneCell'=true):=Lib.hid (by intro u hu;simp [wrCells] at hu;rcases hu with rfl | rfl <;> rfl)
    have HRX:Hid (Rd .u8 W3 W3.heap.size x.da x.dc x.d∧∀ b o,x.da=some ⟨b,o,none⟩→w.heap.size≤b∧b<W3.heap.size∧blockOf A≠some b):=Lib.hid ⟨by rw [hx];exact (hr3.under hb34).more hb34.size,fun b o e=>by
     rw [hx] at e
     dsimp only at e
     have h1:=hn3 b (by rw [e];rfl)
     have h2:=HBY.out.size
     have h3:b<w3.heap.size:=hr3.lt (by rw [HL2.out];omega) (by rw [e];rfl)
     refine ⟨by omega,Nat.lt_of_lt_of_le h3 hb34.size,fun e2=>?_⟩
     have h4:=HRS.out.own.lt e2
     have h5:=HBVY.out.size
     omega⟩
    have HBX:Hid (∀ g,blockOf x.da=some g→w.heap.size≤g):=Lib.hid fun g hg=>by
     rw [hx] at hg
     have:=hn3 g hg
     have:=HBY.out.size
     omega
    have HXV:Hid (x.v=(157+(s.toldAt n k).1,(s.toldAt n k).2)):=Lib.hid (by rw [hx,Wr.v,HV3.out.1,HV3.out.2.1])
    clear hst hb4 hb4V hb34 hr3 hb3 hn3 hW3 hx HR2 kv ku kj
    go_wp2_with (first | (at_builtin;rw [←HW3.out];refine wpList_pushV _ rfl (.tmp 41) (.tmp 52) 27 rfl 42 (.agg #[.int .i64 0,.slice none 0 0]) 2 32 Try.underlying27 info_write rfl (by omega) (by omega) rfl HOW.out (cs:=wrCells x) rfl rfl HWC.out HFX.out (by omega) ?_;intro g9 c9 W9 ho9 hg9 hat9 hlt9) | fail)
    have HS9:=Lib.hid (HST.out.push (x:=x) HRX.out (by rw [HLL.out];exact ho9) hg9 hat9)
    clear ho9 hg9 hat9 hlt9 HOW HFX HST HWC HRX HW3
    go_wp2_with fail
    go_roundw
    case rel =>
     refine ⟨k+1,l ++ [x],_,_,by omega,by go_num,rfl,by rw [List.length_append,HLL.out];rfl,fun i hi=>?_,?_,fun y hy g hg=>?_,HS9.out⟩
     ·by_cases hik:i=k
      ·rw [hik];exact HV3.out.2.2
      ·exact HAL.out i (by omega)
     ·rw [wv_snoc,List.range_succ,List.map_append,HWV.out,HXV.out]
      rfl
     ·rcases List.mem_append.1 hy with hy | hy
      ·exact HBL.out y hy g hg
      ·rw [List.mem_singleton.1 hy] at hg
       exact HBX.out g hg
    case measure=>simp [intOf];omega
  case neg =>
   obtain rfl:k=n:=by omega
   have hkI:¬ ((k:Int)<(k:Int)):=by omega
   have HYES:Hid ((∀ p∈s.told k,p.1<(s.many:Int))∧wv l=(s.told k).map (fun p=>(157+p.1,p.2))):=Lib.hid ⟨told_lt.2 HAL.out,by rw [HWV.out];unfold Dk.told;rw [List.map_map];rfl⟩
   have HG:=Lib.hid (HRS.out.rd (Nat.le_refl _))
   go_wp2_with fail
   go_ret2
   exact ⟨HRS.out.bel,.inl ⟨HYES.out.1,A,c,l,rfl,HLL.out,HYES.out.2,HBL.out,HG.out⟩⟩
end
end Go.Proofs.Ytkmbgbbmhpidkaa
namespace Go.Proofs.Ytkmbgbbmhpidkaa
open Go.RowKit Go.Shelf
set_option linter.unusedVariables false
set_option linter.unusedSimpArgs false
attribute [local go_sem ↓] Go.wp_at_zero Go.wp_at_succ

theorem flat_wr (l:List Wr):(l.flatMap wrCells).length=l.length*2:=by
 induction l with
 | nil=>rfl
 | cons x l ih=>rw [List.flatMap_cons,List.length_append,ih];simp [wrCells];omega
theorem rd_marked4 {w w':World} {b x1 x2 x3 x4:Nat} (h:Holds w b 5 #[Value.int .u8 (x1:Int),.int .u8 (x2:Int),.int .u8 (x3:Int),.int .u8 (x4:Int)]) (hc:∀ a,w'.cell? a=w.cell? a) (hs:w'.heap.size=w.heap.size):Rd .u8 w' w'.heap.size (some ⟨b,0,none⟩) 4 [x1,x2,x3,x4] :=
 ⟨Nat.le_refl _,by decide,fun _=>⟨b,0,rfl,by rw [hs];exact Holds.lt h,fun j hj=>by
  have:j<4:=hj
  rw [hc,Nat.zero_add,h.cell]
  rcases j with _ | _ | _ | _ | j
  ·rfl
  ·rfl
  ·rfl
  ·rfl
  ·omega⟩⟩
/-- A row of writes that was typed. -/
theorem Wrs.of {V V0:World} {B:Nat} (l:List Wr) (hl:∀ x∈l,Rd .u8 V0 V0.heap.size x.da x.dc x.d∧∀ b o,x.da=some ⟨b,o,none⟩→B≤b∧b<V0.heap.size) (hb:Below V.heap.size V V0) (cs:Array Value) (hcs:cs.toList=l.flatMap wrCells) (hn:l.length≤1000) :
  Wrs V (V0.alloc (.cells cs 42)) B (some ⟨V0.heap.size,0,none⟩) l.length l:=by
 have hA:Below V0.heap.size V0 (V0.alloc (.cells cs 42)):=(Below.refl _ _).alloc (Nat.le_refl _) _
 have hz:cs.size=l.length*2:=by rw [←flat_wr,←hcs];simp
 refine ⟨⟨flat_wr l,.inr ⟨V0.heap.size,l.length,cs,rfl,Nat.zero_le _,heap_alloc_new V0 _,Nat.le_refl _,by unfold maxLen;omega,hz,?_⟩⟩,fun x hx=>⟨((hl x hx).1.under hA).more hA.size,fun b o e=>?_⟩,fun g hg=>?_,hb.trans (hA.mono hb.size)⟩
 ·rw [hcs,List.take_of_length_le (by rw [flat_wr];exact Nat.le_refl _)]
 ·have:=(hl x hx).2 b o e
  refine ⟨this.1,Nat.lt_of_lt_of_le this.2 hA.size,fun e2=>?_⟩
  have e3:V0.heap.size=b:=by simpa [blockOf] using e2
  omega
 ·have e3:V0.heap.size=g:=by simpa [blockOf] using hg
  have:=hb.size
  omega
theorem run_typed4 (w:World):∃ w',(convert 40 40 (.slice (some ⟨w.heap.size,0,none⟩) 4 4)).run Try.prog (w.alloc (.cells #[.int .u8 97,.int .u8 112,.int .u8 115,.int .u8 116] 5)) = .ok (.slice (some ⟨w.heap.size,0,none⟩) 4 4) w'∧Below w.heap.size w w'∧Rd .u8 w' w'.heap.size (some ⟨w.heap.size,0,none⟩) 4 [97,112,115,116]:=by
 obtain ⟨w',hr,hb,hc,hs⟩:=run_mark (w.alloc (.cells #[.int .u8 97,.int .u8 112,.int .u8 115,.int .u8 116] 5)) w.heap.size #[.int .u8 97,.int .u8 112,.int .u8 115,.int .u8 116] 4 4 (Holds.fresh _ _ _)
 exact ⟨w',hr,((Below.refl _ w).alloc (Nat.le_refl _) _).trans hb,rd_marked4 (Holds.fresh w 5 #[.int .u8 97,.int .u8 112,.int .u8 115,.int .u8 116]) hc hs⟩
def RelFm (w:World) (m:Nat) (sl si:Value) (wr:World):Prop :=
 ∃ (k:Nat) (l:List Wr) (A:Option Addr) (c:Nat),k≤m∧si = .int .i64 ((157+k:Nat):Int)∧sl = .slice A (k+2) c∧l.length=k+2∧wv l=(0,apstB) :: (1,zsec) :: (List.range k).map (fun i=>(((157+i:Nat):Int),zsec))∧(∀ x∈l,∀ g,blockOf x.da=some g→w.heap.size≤g)∧Wrs w wr w.heap.size A c l
section
variable {w:World} {F:Nat→Prop} {gx:Nat} {s:Dk}
set_option maxRecDepth 100000 in
set_option maxHeartbeats 8000000 in
theorem format'_any (h:Ref w F gx s) (hn:s.now.length≤900) (hwl:s.waits.length≤60000) (hops:s.ops≤600000000) :
  Calls Try.prog 19 #[.pointer (some ⟨gx,0,none⟩)] w fun e w'=>e = .returned (.int .i64 ((s.format).2:Nat))∧RJ w F gx (s.format).1 w':=by
 have HH:=Lib.hid h
 have HMN:Hid (∀ W,Below w.heap.size w W→Calls Try.prog 50 #[.pointer (some ⟨gx,0,none⟩)] W fun e w'=>e = .returned (.int .i64 (s.many:Int))∧W=w'):=Lib.hid fun W hW=>rmany (h.under hW)
 have HWL:=Lib.hid (And.intro hwl hops)
 clear hwl hops
 by_cases hm:s.many=0
 ·have HE:Hid (s.format=(s,5)):=Lib.hid (by unfold Dk.format;rw [if_pos hm])
  rw [hm] at HMN
  clear h hm
  go_enter Try.func19,Try.ntmps19
  go_wp2_with fail
  refine (HMN.out w (Below.refl _ _)).mono ?_
  rintro e w1 ⟨rfl,rfl⟩
  go_wp2_with fail
  go_ret
  rw [HE.out]
  exact ⟨rfl,RJ.start HH.out⟩
 have HE:Hid (s.format=s.putf (formW s.now.length)):=Lib.hid (by unfold Dk.format;rw [if_neg hm])
 obtain ⟨n,hnn⟩:∃ n,n=s.now.length:=⟨_,rfl⟩
 obtain ⟨m,hmm⟩:∃ m,m=s.many:=⟨_,rfl⟩
 have hnm:n=157+m:=by unfold Dk.many at hmm hm;omega
 have hm0:((m:Int) == 0)=false:=by rw [beq_eq_false_iff_ne];omega
 rw [←hmm] at HMN
 rw [←hnn] at HE hn
 have HNM:=Lib.hid hnm
 have HCL:Hid (∀ W,Below w.heap.size w W→∃ gS cS,W.cell? ⟨gx,0,none⟩=some (.slice (some ⟨gS,0,none⟩) n cS)):=Lib.hid fun W hW=>by
  obtain ⟨gS,cS,k0,_⟩:=(h.under hW).cells
  exact ⟨gS,cS,by rw [hnn];exact k0⟩
 clear h hm hmm hnn hnm
 obtain ⟨wm,hcv,hbm,hrm⟩:=run_typed4 w
 have HBM:=Lib.hid hbm
 have HRM:=Lib.hid hrm
 clear hbm hrm
 go_enter Try.func19,Try.ntmps19
 go_wp2_with fail
 refine (HMN.out w (Below.refl _ _)).mono ?_
 rintro e w1 ⟨rfl,rfl⟩
 go_wp2_with fail
 refine (rsectorR wm _ 4 4 _ rfl HRM.out).mono ?_
 rintro e w2 ⟨rfl,hr2,hl2,hb2⟩
 have HR2:Hid (Rd .u8 w2 w2.heap.size (some ⟨wm.heap.size,0,none⟩) 64 apstB):=Lib.hid hr2
 have HL2:=Lib.hid hl2
 have HB2:=Lib.hid (HBM.out.trans (hb2.mono HBM.out.size))
 clear hr2 hl2 hb2 hcv HRM
 go_wp2_with fail
 refine (rsectorZ w2).mono ?_
 rintro e w3 ⟨rfl,hr3,hl3,hb3⟩
 have HS:=Lib.hid (Wrs.of (V:=w) (V0:=w3) (B:=w.heap.size) [⟨0,some ⟨wm.heap.size,0,none⟩,64,apstB⟩,⟨1,some ⟨w2.heap.size,0,none⟩,64,zsec⟩] (fun x hx=>by
  have h1:=HBM.out.size
  have h2:=HL2.out
  rcases List.mem_cons.1 hx with rfl | hx
  ·exact ⟨(HR2.out.under hb3).more hb3.size,fun b o e=>by cases e;exact ⟨h1,by omega⟩⟩
  ·rw [List.mem_singleton.1 hx]
   exact ⟨hr3,fun b o e=>by cases e;exact ⟨by omega,hl3⟩⟩) (HB2.out.trans (hb3.mono HB2.out.size)) #[.int .i64 0,.slice (some ⟨wm.heap.size,0,none⟩) 64 64,.int .i64 1,.slice (some ⟨w2.heap.size,0,none⟩) 64 64] rfl (by simp))
 have HG2:Hid (w.heap.size≤wm.heap.size∧w.heap.size≤w2.heap.size):=Lib.hid ⟨HBM.out.size,HB2.out.size⟩
 clear hr3 hl3 hb3 HR2 HB2
 go_wp2_with fail
 go_loopw [3,4] (fun sl si wr=>RelFm w m sl si wr) (fun _ si _=>n - (intOf si).toNat)
 case atStart =>
  refine ⟨0,_,_,_,Nat.zero_le _,rfl,rfl,rfl,rfl,fun x hx g hg=>?_,HS.out⟩
  rcases List.mem_cons.1 hx with rfl | hx
  ·obtain rfl:wm.heap.size=g:=by simpa [blockOf] using hg
   exact HG2.out.1
  ·rw [List.mem_singleton.1 hx] at hg
   obtain rfl:w2.heap.size=g:=by simpa [blockOf] using hg
   exact HG2.out.2
 case round =>
  clear HS HG2
  obtain ⟨k,l,A,c,hk,rfl,rfl,hll,hwv,hbl,hrs⟩:=hrel
  obtain ⟨V,hV⟩:∃ V,V=wr:=⟨_,rfl⟩
  subst hV
  have HLL:=Lib.hid hll
  have HWV:=Lib.hid hwv
  have HBL:=Lib.hid hbl
  have HRS:=Lib.hid hrs
  clear hll hwv hbl hrs
  obtain ⟨gS,cS,k0⟩:=HCL.out V HRS.out.bel
  obtain ⟨i,hi⟩:∃ i,i=157+k:=⟨_,rfl⟩
  rw [←hi]
  have HI:=Lib.hid hi
  clear hi
  obtain ⟨i1,hi1⟩:∃ i1,i1=157+(k+1):=⟨_,rfl⟩
  have HI1:=Lib.hid hi1
  clear hi1
  by_cases hlt:k<m
  case pos =>
   have hkI:(i:Int)<(n:Int):=by have:=HNM.out;have:=HI.out;omega
   have hiw:IntKind.i64.wrap ((i:Int)+1)=(i1:Int):=by have:=HI.out;have:=HI1.out;rw [IntWalk.i64_in _ (by omega)];omega
   go_wp2_with fail
   refine (rsectorZ V).mono ?_
   rintro e w3 ⟨rfl,hr3,hl3,hb3⟩
   obtain ⟨x,hx⟩:∃ x:Wr,x=⟨(i:Int),some ⟨V.heap.size,0,none⟩,64,zsec⟩:=⟨_,rfl⟩
   obtain ⟨W3,hW3⟩:∃ W,W=w3.alloc (.cells #[.int .i64 (i:Int),.slice (some ⟨V.heap.size,0,none⟩) 64 64] 42):=⟨_,rfl⟩
   have HW3:=Lib.hid hW3
   have hb34:Below w3.heap.size w3 W3:=by rw [hW3];exact (Below.refl _ _).alloc (Nat.le_refl _) _
   have hst:=HRS.out.under (hb3.trans (hb34.mono hb3.size))
   have HST:=Lib.hid hst
   have HFX:Hid (Holds W3 w3.heap.size 42 (wrCells x).toArray):=Lib.hid (by rw [hW3,hx];exact Holds.fresh _ _ _)
   have HOW:Hid (OwnV 42 2 W3 A c (k+2) (l.flatMap wrCells)):=Lib.hid (by have:=hst.own;rwa [HLL.out] at this)
   have HWC:Hid (∀ u∈wrCells x,u.oneCell'=true):=Lib.hid (by intro u hu;simp [wrCells] at hu;rcases hu with rfl | rfl <;> rfl)
   have HRX:Hid (Rd .u8 W3 W3.heap.size x.da x.dc x.d∧∀ b o,x.da=some ⟨b,o,none⟩→w.heap.size≤b∧b<W3.heap.size∧blockOf A≠some b):=Lib.hid ⟨by rw [hx];exact (hr3.under hb34).more hb34.size,fun b o e=>by
    rw [hx] at e
    cases e
    refine ⟨HRS.out.bel.size,Nat.lt_of_lt_of_le hl3 hb34.size,fun e2=>?_⟩
    have h4:=HRS.out.own.lt e2
    omega⟩
   have HBX:Hid (∀ g,blockOf x.da=some g→w.heap.size≤g):=Lib.hid fun g hg=>by
    rw [hx] at hg
    obtain rfl:V.heap.size=g:=by simpa [blockOf] using hg
    exact HRS.out.bel.size
   have HXV:Hid (x.v=(((157+k:Nat):Int),zsec)):=Lib.hid (by rw [hx,Wr.v,HI.out])
   clear hst hb34 hr3 hb3 hl3 hW3 hx
   have hkn:k≤900:=by have:=HNM.out;omega
   go_wp2_with (first | (at_builtin;rw [←HW3.out];refine wpList_pushV _ rfl (.tmp 24) (.tmp 28) 27 rfl 42 (.agg #[.int .i64 0,.slice none 0 0]) 2 32 Try.underlying27 info_write rfl (by omega) (by omega) rfl HOW.out (cs:=wrCells x) rfl rfl HWC.out HFX.out (by have:=HNM.out;omega) ?_;intro g9 c9 W9 ho9 hg9 hat9 hlt9) | fail)
   have HS9:=Lib.hid (HST.out.push (x:=x) HRX.out (by rw [HLL.out];exact ho9) hg9 hat9)
   clear ho9 hg9 hat9 hlt9 HOW HFX HST HWC HRX HW3
   go_wp2_with fail
   go_roundw
   case rel =>
    refine ⟨k+1,l ++ [x],_,_,by omega,by rw [HI1.out],rfl,by rw [List.length_append,HLL.out];rfl,?_,fun y hy g hg=>?_,HS9.out⟩
    ·rw [wv_snoc,List.range_succ,List.map_append,HWV.out,HXV.out]
     rfl
    ·rcases List.mem_append.1 hy with hy | hy
     ·exact HBL.out y hy g hg
     ·rw [List.mem_singleton.1 hy] at hg
      exact HBX.out g hg
   case measure=>have:=HI.out;have:=HI1.out;have:=HNM.out;simp [intOf];omega
  case neg =>
   obtain rfl:k=m:=by omega
   have hkI:¬ ((i:Int)<(n:Int)):=by have:=HNM.out;have:=HI.out;omega
   have HG:=Lib.hid (HRS.out.rd (Nat.le_refl _))
   have HFW:Hid (wv l=formW n):=Lib.hid (by rw [HWV.out,formW,show n - 157=k by have:=HNM.out;omega])
   have HAP:=Lib.hid (RJ.thenC (s':=(s.putf (wv l)).1) (v:=.int .i64 ((s.putf (wv l)).2:Nat)) (RJ.start HH.out) HRS.out.bel fun F2 hF hlt hgx=>(write'_any hF A c (k+2) l HLL.out (HG.out.off fun k hk=>hlt k hk) (fun x hx g hgg=>by
    have:=HBL.out x hx g hgg
    omega) (by have:=HNM.out;omega) (by have:=HWL.out;omega) (by have:=HWL.out;omega)))
   rw [HFW.out] at HAP
   clear HG
   go_wp2_with fail
   refine HAP.out.mono ?_
   rintro e w4 ⟨rfl,hd4⟩
   have HD4:=Lib.hid hd4
   clear hd4 HAP
   go_wp2_with fail
   go_ret
   rw [HE.out]
   exact ⟨rfl,HD4.out⟩
end
end Go.Proofs.Ytkmbgbbmhpidkaa
