/-
  The document: a point of the curve is one.
-/
import Derived.Test.YtflfdglpljodbaaDoorCvF
import Derived.Deep.RegionLaw
import Derived.Deep.RegionHeld3
import Derived.Deep.DrawnRows
namespace Go.Proofs.YtflfdglpljodbaaDoor
open Go.RowKit
set_option linter.unusedVariables false
set_option linter.unusedSimpArgs false

theorem cmp_below {l:List Nat} {f:Luc.F} (h:NumIs l f.val):cmpL l lP = -1:=by
 rw [cmpL_val h.1 lP_ok.1 h.2.1 lP_ok.2.1,h.2.2,lP_ok.2.2.1,if_pos (show f.val<cP from f.isLt)]
theorem cmp_same {l m:List Nat} {f g:Luc.F} (h:NumIs l f.val) (h':NumIs m g.val) (e:f=g):cmpL l m=0:=by
 subst e
 rw [num_one h h']
 exact cmp_self h'
set_option maxRecDepth 100000 in
set_option maxHeartbeats 8000000 in
theorem refIs_some (w:World) {u v:Luc.F} {A1 A2:Option Addr} {c1 c2:Nat} {l1 l2:List Nat} (hx:NR w A1 c1 l1 u) (hy:NR w A2 c2 l2 v) (ho:Luc.On u v) :
  Calls Tryd.prog 15 #[.agg #[.slice A1 l1.length c1,.slice A2 l2.length c2,.bool false]] w fun e w'=>e = .returned (.bool true)∧Below w.heap.size w w':=by
 obtain ⟨W0,hw1⟩:∃ W,W=w.alloc (.cells #[.slice A1 l1.length c1,.slice A2 l2.length c2,.bool false] 26):=⟨_,rfl⟩
 have hb1:Below w.heap.size w W0:=by rw [hw1];exact (Below.refl _ _).alloc (Nat.le_refl _) _
 have PB0:Hid (Holds W0 w.heap.size 26 #[.slice A1 l1.length c1,.slice A2 l2.length c2,.bool false]):=Lib.hid (by rw [hw1];exact Holds.fresh w _ _)
 have HB0:=Lib.hid hb1
 have HW:=Lib.hid hw1
 have Nx0:=Lib.hid (hx.under hb1)
 have Ny0:=Lib.hid (hy.under hb1)
 have OKx:Hid (okN l1=true):=Lib.hid (okN_yes hx.le hx.nrm)
 have OKy:Hid (okN l2=true):=Lib.hid (okN_yes hy.le hy.nrm)
 have ZX:=Lib.hid (cmp_below hx.num)
 have ZY:=Lib.hid (cmp_below hy.num)
 have HE:Hid (v*v=u*(u*u) - (u+(u+u))+Luc.cBf):=Lib.hid (by unfold Luc.On at ho;grind)
 clear hx hy ho hw1 hb1
 go_enter Tryd.func15,Tryd.ntmps15
 go_wp2_with fail
 rw [←HW.out]
 clear HW
 have p2:=PB0.out.cell 2
 go_wp2_with fail
 clear p2
 go_wp2_with fail
 refine wp_region_noPanic ?_
 refine wp_region_held_drew (S:=fun W=>Holds W w.heap.size 26 #[.slice A1 l1.length c1,.slice A2 l2.length c2,.bool false]∧True) (by kernel_rfl) (⟨PB0.out,trivial⟩) (fun hHeld=>?_)
 obtain ⟨W1,hV⟩:∃ W,W=W0.drew:=⟨_,rfl⟩
 rw [←hV]
 have hb:Below W0.heap.size W0 W1:=by rw [hV];exact (Below.refl _ W0).drew
 have HB1:=Lib.hid (HB0.out.trans (hb.mono HB0.out.size))
 have PB1:=Lib.hid (PB0.out.under hb (Holds.lt PB0.out))
 have Nx1:=Lib.hid (Nx0.out.under hb)
 have Ny1:=Lib.hid (Ny0.out.under hb)
 clear hb HB0 PB0 Nx0 Ny0
 have HS1:Hid ((fun W=>Holds W w.heap.size 26 #[.slice A1 l1.length c1,.slice A2 l2.length c2,.bool false]∧True) W1):=Lib.hid ⟨PB1.out,trivial⟩
 replace hHeld:(fun W=>Holds W w.heap.size 26 #[.slice A1 l1.length c1,.slice A2 l2.length c2,.bool false]∧True) W1:=HS1.out
 clear hV
 refine wpAnyH_take (i:=0) (oi:={ dst:=some 13,op:=Op.fieldAddr 26 (Operand.tmp 1) 0,type:=0,pos:=_,after:=_,guard:=none }) (v:=?_) rfl (by kernel_rfl) (by kernel_rfl) (by kernel_rfl) (fun _ _ _ h=>h) (Or.inl ⟨by rfl,?_⟩) hHeld ?_
 rotate_left 1
 ·(intro W hW;(try dsimp only at hW);go_simp;try with_reducible rfl)
 try simp only [Act.put,List.setIfInBounds_toArray,List.set_cons_zero,List.set_cons_succ]
 refine wpAnyH_take (i:=1) (oi:={ dst:=some 14,op:=Op.load 24 (Operand.tmp 13),type:=24,pos:=_,after:=_,guard:=none }) (v:=?_) rfl (by kernel_rfl) (by kernel_rfl) (by kernel_rfl) (fun _ _ _ h=>h) (Or.inl ⟨by rfl,?_⟩) hHeld ?_
 rotate_left 1
 ·(intro W hW;have hcc:=hW.1.cell 0;(try dsimp only at hW);go_simp;try with_reducible rfl)
 try simp only [Act.put,List.setIfInBounds_toArray,List.set_cons_zero,List.set_cons_succ]
 refine wpAnyH_ready (rs:=[2]) (by kernel_rfl) (by simp) ?_
 refine AllReadyH.cons (o:={ dst:=some 15,op:=Op.call { callee:=Callee.value (Operand.func 44),args:=#[Operand.tmp 14],argTypes:=#[24] },type:=4,pos:=_,after:=_,guard:=none }) rfl (fun K hK=>?_) AllReadyH.nil
 go_simp
 refine (is'_any W1 _ A1 c1 l1 Nx1.out.rd true OKx.out).mono ?_
 rintro e W2 ⟨rfl,hqq⟩
 have hb:Below W1.heap.size W1 W2:=by rw [←hqq];exact Below.refl _ _
 clear hqq
 have HB2:=Lib.hid (HB1.out.trans (hb.mono HB1.out.size))
 have PB2:=Lib.hid (PB1.out.under hb (Holds.lt PB1.out))
 have Nx2:=Lib.hid (Nx1.out.under hb)
 have Ny2:=Lib.hid (Ny1.out.under hb)
 clear hb HB1 PB1 Nx1 Ny1
 have HS2:Hid ((fun W=>Holds W w.heap.size 26 #[.slice A1 l1.length c1,.slice A2 l2.length c2,.bool false]∧True) W2):=Lib.hid ⟨PB2.out,trivial⟩
 go_simp
 refine hK.out _ _ (HS2.out) (fun _=>?_)
 clear hK K hHeld
 try simp only [Act.put,List.setIfInBounds_toArray,List.set_cons_zero,List.set_cons_succ]
 have hHeld:(fun W=>Holds W w.heap.size 26 #[.slice A1 l1.length c1,.slice A2 l2.length c2,.bool false]∧True) W2:=HS2.out
 refine wpAnyH_take (i:=3) (oi:={ dst:=some 16,op:=Op.unOp UnOp.not 4 (Operand.tmp 15),type:=4,pos:=_,after:=_,guard:=none }) (v:=?_) rfl (by kernel_rfl) (by kernel_rfl) (by kernel_rfl) (fun _ _ _ h=>h) (Or.inl ⟨by rfl,?_⟩) hHeld ?_
 rotate_left 1
 ·(intro W hW;(try dsimp only at hW);go_simp;try with_reducible rfl)
 try simp only [Act.put,List.setIfInBounds_toArray,List.set_cons_zero,List.set_cons_succ]
 refine wpAnyH_take (i:=4) (oi:={ dst:=some 17,op:=Op.move (Operand.tmp 16),type:=4,pos:=_,after:=_,guard:=none }) (v:=?_) rfl (by kernel_rfl) (by kernel_rfl) (by kernel_rfl) (fun _ _ _ h=>h) (Or.inl ⟨by rfl,?_⟩) hHeld ?_
 rotate_left 1
 ·(intro W hW;(try dsimp only at hW);go_simp;try with_reducible rfl)
 try simp only [Act.put,List.setIfInBounds_toArray,List.set_cons_zero,List.set_cons_succ]
 refine wpAnyH_take (i:=5) (oi:={ dst:=some 18,op:=Op.fieldAddr 26 (Operand.tmp 1) 1,type:=0,pos:=_,after:=_,guard:=some (4,false) }) (v:=?_) rfl (by kernel_rfl) (by kernel_rfl) (by kernel_rfl) (fun _ _ _ h=>h) (Or.inl ⟨by rfl,?_⟩) hHeld ?_
 rotate_left 1
 ·(intro W hW;(try dsimp only at hW);go_simp;try with_reducible rfl)
 try simp only [Act.put,List.setIfInBounds_toArray,List.set_cons_zero,List.set_cons_succ]
 refine wpAnyH_take (i:=6) (oi:={ dst:=some 19,op:=Op.load 24 (Operand.tmp 18),type:=24,pos:=_,after:=_,guard:=some (4,false) }) (v:=?_) rfl (by kernel_rfl) (by kernel_rfl) (by kernel_rfl) (fun _ _ _ h=>h) (Or.inl ⟨by rfl,?_⟩) hHeld ?_
 rotate_left 1
 ·(intro W hW;have hcc:=hW.1.cell 1;(try dsimp only at hW);go_simp;try with_reducible rfl)
 try simp only [Act.put,List.setIfInBounds_toArray,List.set_cons_zero,List.set_cons_succ]
 refine wpAnyH_ready (rs:=[7]) (by kernel_rfl) (by simp) ?_
 refine AllReadyH.cons (o:={ dst:=some 20,op:=Op.call { callee:=Callee.value (Operand.func 44),args:=#[Operand.tmp 19],argTypes:=#[24] },type:=4,pos:=_,after:=_,guard:=some (4,false) }) rfl (fun K hK=>?_) AllReadyH.nil
 go_simp
 refine (is'_any W2 _ A2 c2 l2 Ny2.out.rd true OKy.out).mono ?_
 rintro e W3 ⟨rfl,hqq⟩
 have hb:Below W2.heap.size W2 W3:=by rw [←hqq];exact Below.refl _ _
 clear hqq
 have HB3:=Lib.hid (HB2.out.trans (hb.mono HB2.out.size))
 have PB3:=Lib.hid (PB2.out.under hb (Holds.lt PB2.out))
 have Nx3:=Lib.hid (Nx2.out.under hb)
 have Ny3:=Lib.hid (Ny2.out.under hb)
 clear hb HB2 PB2 Nx2 Ny2
 have HS3:Hid ((fun W=>Holds W w.heap.size 26 #[.slice A1 l1.length c1,.slice A2 l2.length c2,.bool false]∧True) W3):=Lib.hid ⟨PB3.out,trivial⟩
 go_simp
 refine hK.out _ _ (HS3.out) (fun _=>?_)
 clear hK K hHeld
 try simp only [Act.put,List.setIfInBounds_toArray,List.set_cons_zero,List.set_cons_succ]
 have hHeld:(fun W=>Holds W w.heap.size 26 #[.slice A1 l1.length c1,.slice A2 l2.length c2,.bool false]∧True) W3:=HS3.out
 refine wpAnyH_take (i:=8) (oi:={ dst:=some 21,op:=Op.unOp UnOp.not 4 (Operand.tmp 20),type:=4,pos:=_,after:=_,guard:=some (4,false) }) (v:=?_) rfl (by kernel_rfl) (by kernel_rfl) (by kernel_rfl) (fun _ _ _ h=>h) (Or.inl ⟨by rfl,?_⟩) hHeld ?_
 rotate_left 1
 ·(intro W hW;(try dsimp only at hW);go_simp;try with_reducible rfl)
 try simp only [Act.put,List.setIfInBounds_toArray,List.set_cons_zero,List.set_cons_succ]
 refine wpAnyH_take (i:=9) (oi:={ dst:=some 22,op:=Op.pick (Operand.tmp 17) (Operand.const (Value.bool true)) (Operand.tmp 21),type:=4,pos:=_,after:=_,guard:=none }) (v:=?_) rfl (by kernel_rfl) (by kernel_rfl) (by kernel_rfl) (fun _ _ _ h=>h) (Or.inl ⟨by rfl,?_⟩) hHeld ?_
 rotate_left 1
 ·(intro W hW;(try dsimp only at hW);go_simp;try with_reducible rfl)
 try simp only [Act.put,List.setIfInBounds_toArray,List.set_cons_zero,List.set_cons_succ]
 refine wpAnyH_take (i:=10) (oi:={ dst:=some 23,op:=Op.move (Operand.tmp 22),type:=4,pos:=_,after:=_,guard:=none }) (v:=?_) rfl (by kernel_rfl) (by kernel_rfl) (by kernel_rfl) (fun _ _ _ h=>h) (Or.inl ⟨by rfl,?_⟩) hHeld ?_
 rotate_left 1
 ·(intro W hW;(try dsimp only at hW);go_simp;try with_reducible rfl)
 try simp only [Act.put,List.setIfInBounds_toArray,List.set_cons_zero,List.set_cons_succ]
 refine wpAnyH_take (i:=11) (oi:={ dst:=some 24,op:=Op.fieldAddr 26 (Operand.tmp 1) 0,type:=0,pos:=_,after:=_,guard:=some (10,false) }) (v:=?_) rfl (by kernel_rfl) (by kernel_rfl) (by kernel_rfl) (fun _ _ _ h=>h) (Or.inl ⟨by rfl,?_⟩) hHeld ?_
 rotate_left 1
 ·(intro W hW;(try dsimp only at hW);go_simp;try with_reducible rfl)
 try simp only [Act.put,List.setIfInBounds_toArray,List.set_cons_zero,List.set_cons_succ]
 refine wpAnyH_take (i:=12) (oi:={ dst:=some 25,op:=Op.load 24 (Operand.tmp 24),type:=24,pos:=_,after:=_,guard:=some (10,false) }) (v:=?_) rfl (by kernel_rfl) (by kernel_rfl) (by kernel_rfl) (fun _ _ _ h=>h) (Or.inl ⟨by rfl,?_⟩) hHeld ?_
 rotate_left 1
 ·(intro W hW;have hcc:=hW.1.cell 0;(try dsimp only at hW);go_simp;try with_reducible rfl)
 try simp only [Act.put,List.setIfInBounds_toArray,List.set_cons_zero,List.set_cons_succ]
 refine wpAnyH_ready (rs:=[13]) (by kernel_rfl) (by simp) ?_
 refine AllReadyH.cons (o:={ dst:=some 26,op:=Op.call { callee:=Callee.value (Operand.func 26),args:=#[],argTypes:=#[] },type:=24,pos:=_,after:=_,guard:=some (10,false) }) rfl (fun K hK=>?_) AllReadyH.nil
 go_simp
 refine (refP_any W3).mono ?_
 rintro e W4 ⟨gn,hgn,rfl,hN,hb⟩
 have HB4:=Lib.hid (HB3.out.trans (hb.mono HB3.out.size))
 have PB4:=Lib.hid (PB3.out.under hb (Holds.lt PB3.out))
 have Nx4:=Lib.hid (Nx3.out.under hb)
 have Ny4:=Lib.hid (Ny3.out.under hb)
 clear hb HB3 PB3 Nx3 Ny3
 have HN4:=Lib.hid (Eight.rd hN rfl)
 clear hN hgn
 have HS4:Hid ((fun W=>Holds W w.heap.size 26 #[.slice A1 l1.length c1,.slice A2 l2.length c2,.bool false]∧True) W4):=Lib.hid ⟨PB4.out,trivial⟩
 go_simp
 refine hK.out _ _ (HS4.out) (fun _=>?_)
 clear hK K hHeld
 try simp only [Act.put,List.setIfInBounds_toArray,List.set_cons_zero,List.set_cons_succ]
 have hHeld:(fun W=>Holds W w.heap.size 26 #[.slice A1 l1.length c1,.slice A2 l2.length c2,.bool false]∧True) W4:=HS4.out
 refine wpAnyH_ready (rs:=[14]) (by kernel_rfl) (by simp) ?_
 refine AllReadyH.cons (o:={ dst:=some 27,op:=Op.call { callee:=Callee.value (Operand.func 45),args:=#[Operand.tmp 25,Operand.tmp 26],argTypes:=#[24,24] },type:=3,pos:=_,after:=_,guard:=some (10,false) }) rfl (fun K hK=>?_) AllReadyH.nil
 go_simp
 refine (cmp'_any W4 _ _ A1 _ c1 8 l1 lP Nx4.out.rd HN4.out (-1) ZX.out).mono ?_
 rintro e W5 ⟨rfl,q,hq⟩
 have hb:Below W4.heap.size W4 W5:=by rw [hq];exact bdN (Below.refl _ _) q
 clear hq
 have HB5:=Lib.hid (HB4.out.trans (hb.mono HB4.out.size))
 have PB5:=Lib.hid (PB4.out.under hb (Holds.lt PB4.out))
 have Nx5:=Lib.hid (Nx4.out.under hb)
 have Ny5:=Lib.hid (Ny4.out.under hb)
 have HN5:=Lib.hid ((HN4.out.under hb).more hb.size)
 clear hb HB4 PB4 Nx4 Ny4 HN4
 have HS5:Hid ((fun W=>Holds W w.heap.size 26 #[.slice A1 l1.length c1,.slice A2 l2.length c2,.bool false]∧True) W5):=Lib.hid ⟨PB5.out,trivial⟩
 clear HN5
 go_simp
 refine hK.out _ _ (HS5.out) (fun _=>?_)
 clear hK K hHeld
 try simp only [Act.put,List.setIfInBounds_toArray,List.set_cons_zero,List.set_cons_succ]
 have hHeld:(fun W=>Holds W w.heap.size 26 #[.slice A1 l1.length c1,.slice A2 l2.length c2,.bool false]∧True) W5:=HS5.out
 refine wpAnyH_take (i:=15) (oi:={ dst:=some 28,op:=Op.binOp BinOp.geq 3 (Operand.tmp 27) (Operand.const (Value.int IntKind.i64 0)) 3,type:=4,pos:=_,after:=_,guard:=some (10,false) }) (v:=?_) rfl (by kernel_rfl) (by kernel_rfl) (by kernel_rfl) (fun _ _ _ h=>h) (Or.inl ⟨by rfl,?_⟩) hHeld ?_
 rotate_left 1
 ·(intro W hW;(try dsimp only at hW);go_simp;try with_reducible rfl)
 try simp only [Act.put,List.setIfInBounds_toArray,List.set_cons_zero,List.set_cons_succ]
 refine wpAnyH_take (i:=16) (oi:={ dst:=some 29,op:=Op.pick (Operand.tmp 23) (Operand.const (Value.bool true)) (Operand.tmp 28),type:=4,pos:=_,after:=_,guard:=none }) (v:=?_) rfl (by kernel_rfl) (by kernel_rfl) (by kernel_rfl) (fun _ _ _ h=>h) (Or.inl ⟨by rfl,?_⟩) hHeld ?_
 rotate_left 1
 ·(intro W hW;(try dsimp only at hW);go_simp;try with_reducible rfl)
 try simp only [Act.put,List.setIfInBounds_toArray,List.set_cons_zero,List.set_cons_succ]
 refine wpAnyH_take (i:=17) (oi:={ dst:=some 30,op:=Op.move (Operand.tmp 29),type:=4,pos:=_,after:=_,guard:=none }) (v:=?_) rfl (by kernel_rfl) (by kernel_rfl) (by kernel_rfl) (fun _ _ _ h=>h) (Or.inl ⟨by rfl,?_⟩) hHeld ?_
 rotate_left 1
 ·(intro W hW;(try dsimp only at hW);go_simp;try with_reducible rfl)
 try simp only [Act.put,List.setIfInBounds_toArray,List.set_cons_zero,List.set_cons_succ]
 refine wpAnyH_take (i:=18) (oi:={ dst:=some 31,op:=Op.fieldAddr 26 (Operand.tmp 1) 1,type:=0,pos:=_,after:=_,guard:=some (17,false) }) (v:=?_) rfl (by kernel_rfl) (by kernel_rfl) (by kernel_rfl) (fun _ _ _ h=>h) (Or.inl ⟨by rfl,?_⟩) hHeld ?_
 rotate_left 1
 ·(intro W hW;(try dsimp only at hW);go_simp;try with_reducible rfl)
 try simp only [Act.put,List.setIfInBounds_toArray,List.set_cons_zero,List.set_cons_succ]
 refine wpAnyH_take (i:=19) (oi:={ dst:=some 32,op:=Op.load 24 (Operand.tmp 31),type:=24,pos:=_,after:=_,guard:=some (17,false) }) (v:=?_) rfl (by kernel_rfl) (by kernel_rfl) (by kernel_rfl) (fun _ _ _ h=>h) (Or.inl ⟨by rfl,?_⟩) hHeld ?_
 rotate_left 1
 ·(intro W hW;have hcc:=hW.1.cell 1;(try dsimp only at hW);go_simp;try with_reducible rfl)
 try simp only [Act.put,List.setIfInBounds_toArray,List.set_cons_zero,List.set_cons_succ]
 refine wpAnyH_ready (rs:=[20]) (by kernel_rfl) (by simp) ?_
 refine AllReadyH.cons (o:={ dst:=some 33,op:=Op.call { callee:=Callee.value (Operand.func 26),args:=#[],argTypes:=#[] },type:=24,pos:=_,after:=_,guard:=some (17,false) }) rfl (fun K hK=>?_) AllReadyH.nil
 go_simp
 refine (refP_any W5).mono ?_
 rintro e W6 ⟨gn,hgn,rfl,hN,hb⟩
 have HB6:=Lib.hid (HB5.out.trans (hb.mono HB5.out.size))
 have PB6:=Lib.hid (PB5.out.under hb (Holds.lt PB5.out))
 have Nx6:=Lib.hid (Nx5.out.under hb)
 have Ny6:=Lib.hid (Ny5.out.under hb)
 clear hb HB5 PB5 Nx5 Ny5
 have HN6:=Lib.hid (Eight.rd hN rfl)
 clear hN hgn
 have HS6:Hid ((fun W=>Holds W w.heap.size 26 #[.slice A1 l1.length c1,.slice A2 l2.length c2,.bool false]∧True) W6):=Lib.hid ⟨PB6.out,trivial⟩
 go_simp
 refine hK.out _ _ (HS6.out) (fun _=>?_)
 clear hK K hHeld
 try simp only [Act.put,List.setIfInBounds_toArray,List.set_cons_zero,List.set_cons_succ]
 have hHeld:(fun W=>Holds W w.heap.size 26 #[.slice A1 l1.length c1,.slice A2 l2.length c2,.bool false]∧True) W6:=HS6.out
 refine wpAnyH_ready (rs:=[21]) (by kernel_rfl) (by simp) ?_
 refine AllReadyH.cons (o:={ dst:=some 34,op:=Op.call { callee:=Callee.value (Operand.func 45),args:=#[Operand.tmp 32,Operand.tmp 33],argTypes:=#[24,24] },type:=3,pos:=_,after:=_,guard:=some (17,false) }) rfl (fun K hK=>?_) AllReadyH.nil
 go_simp
 refine (cmp'_any W6 _ _ A2 _ c2 8 l2 lP Ny6.out.rd HN6.out (-1) ZY.out).mono ?_
 rintro e W7 ⟨rfl,q,hq⟩
 have hb:Below W6.heap.size W6 W7:=by rw [hq];exact bdN (Below.refl _ _) q
 clear hq
 have HB7:=Lib.hid (HB6.out.trans (hb.mono HB6.out.size))
 have PB7:=Lib.hid (PB6.out.under hb (Holds.lt PB6.out))
 have Nx7:=Lib.hid (Nx6.out.under hb)
 have Ny7:=Lib.hid (Ny6.out.under hb)
 have HN7:=Lib.hid ((HN6.out.under hb).more hb.size)
 clear hb HB6 PB6 Nx6 Ny6 HN6
 have HS7:Hid ((fun W=>Holds W w.heap.size 26 #[.slice A1 l1.length c1,.slice A2 l2.length c2,.bool false]∧True) W7):=Lib.hid ⟨PB7.out,trivial⟩
 clear HN7
 go_simp
 refine hK.out _ _ (HS7.out) (fun _=>?_)
 clear hK K hHeld
 try simp only [Act.put,List.setIfInBounds_toArray,List.set_cons_zero,List.set_cons_succ]
 have hHeld:(fun W=>Holds W w.heap.size 26 #[.slice A1 l1.length c1,.slice A2 l2.length c2,.bool false]∧True) W7:=HS7.out
 refine wpAnyH_take (i:=22) (oi:={ dst:=some 35,op:=Op.binOp BinOp.geq 3 (Operand.tmp 34) (Operand.const (Value.int IntKind.i64 0)) 3,type:=4,pos:=_,after:=_,guard:=some (17,false) }) (v:=?_) rfl (by kernel_rfl) (by kernel_rfl) (by kernel_rfl) (fun _ _ _ h=>h) (Or.inl ⟨by rfl,?_⟩) hHeld ?_
 rotate_left 1
 ·(intro W hW;(try dsimp only at hW);go_simp;try with_reducible rfl)
 try simp only [Act.put,List.setIfInBounds_toArray,List.set_cons_zero,List.set_cons_succ]
 refine wpAnyH_take (i:=23) (oi:={ dst:=some 36,op:=Op.pick (Operand.tmp 30) (Operand.const (Value.bool true)) (Operand.tmp 35),type:=4,pos:=_,after:=_,guard:=none }) (v:=?_) rfl (by kernel_rfl) (by kernel_rfl) (by kernel_rfl) (fun _ _ _ h=>h) (Or.inl ⟨by rfl,?_⟩) hHeld ?_
 rotate_left 1
 ·(intro W hW;(try dsimp only at hW);go_simp;try with_reducible rfl)
 try simp only [Act.put,List.setIfInBounds_toArray,List.set_cons_zero,List.set_cons_succ]
 refine wpAnyH_done (by kernel_rfl) ?_ _
 refine NoPanic.normal ?_
 go_wp2_with fail
 refine wp_region_noPanic ?_
 refine wp_region_held_drew (S:=fun W=>Holds W w.heap.size 26 #[.slice A1 l1.length c1,.slice A2 l2.length c2,.bool false]∧True) (by kernel_rfl) (⟨PB7.out,trivial⟩) (fun hHeld=>?_)
 obtain ⟨W8,hV⟩:∃ W,W=W7.drew:=⟨_,rfl⟩
 rw [←hV]
 have hb:Below W7.heap.size W7 W8:=by rw [hV];exact (Below.refl _ W7).drew
 have HB8:=Lib.hid (HB7.out.trans (hb.mono HB7.out.size))
 have PB8:=Lib.hid (PB7.out.under hb (Holds.lt PB7.out))
 have Nx8:=Lib.hid (Nx7.out.under hb)
 have Ny8:=Lib.hid (Ny7.out.under hb)
 clear hb HB7 PB7 Nx7 Ny7
 have HS8:Hid ((fun W=>Holds W w.heap.size 26 #[.slice A1 l1.length c1,.slice A2 l2.length c2,.bool false]∧True) W8):=Lib.hid ⟨PB8.out,trivial⟩
 replace hHeld:(fun W=>Holds W w.heap.size 26 #[.slice A1 l1.length c1,.slice A2 l2.length c2,.bool false]∧True) W8:=HS8.out
 clear hV
 refine wpAnyH_take (i:=0) (oi:={ dst:=some 37,op:=Op.fieldAddr 26 (Operand.tmp 1) 1,type:=0,pos:=_,after:=_,guard:=none }) (v:=?_) rfl (by kernel_rfl) (by kernel_rfl) (by kernel_rfl) (fun _ _ _ h=>h) (Or.inl ⟨by rfl,?_⟩) hHeld ?_
 rotate_left 1
 ·(intro W hW;(try dsimp only at hW);go_simp;try with_reducible rfl)
 try simp only [Act.put,List.setIfInBounds_toArray,List.set_cons_zero,List.set_cons_succ]
 refine wpAnyH_take (i:=1) (oi:={ dst:=some 38,op:=Op.load 24 (Operand.tmp 37),type:=24,pos:=_,after:=_,guard:=none }) (v:=?_) rfl (by kernel_rfl) (by kernel_rfl) (by kernel_rfl) (fun _ _ _ h=>h) (Or.inl ⟨by rfl,?_⟩) hHeld ?_
 rotate_left 1
 ·(intro W hW;have hcc:=hW.1.cell 1;(try dsimp only at hW);go_simp;try with_reducible rfl)
 try simp only [Act.put,List.setIfInBounds_toArray,List.set_cons_zero,List.set_cons_succ]
 refine wpAnyH_take (i:=2) (oi:={ dst:=some 39,op:=Op.fieldAddr 26 (Operand.tmp 1) 1,type:=0,pos:=_,after:=_,guard:=none }) (v:=?_) rfl (by kernel_rfl) (by kernel_rfl) (by kernel_rfl) (fun _ _ _ h=>h) (Or.inl ⟨by rfl,?_⟩) hHeld ?_
 rotate_left 1
 ·(intro W hW;(try dsimp only at hW);go_simp;try with_reducible rfl)
 try simp only [Act.put,List.setIfInBounds_toArray,List.set_cons_zero,List.set_cons_succ]
 refine wpAnyH_take (i:=3) (oi:={ dst:=some 40,op:=Op.load 24 (Operand.tmp 39),type:=24,pos:=_,after:=_,guard:=none }) (v:=?_) rfl (by kernel_rfl) (by kernel_rfl) (by kernel_rfl) (fun _ _ _ h=>h) (Or.inl ⟨by rfl,?_⟩) hHeld ?_
 rotate_left 1
 ·(intro W hW;have hcc:=hW.1.cell 1;(try dsimp only at hW);go_simp;try with_reducible rfl)
 try simp only [Act.put,List.setIfInBounds_toArray,List.set_cons_zero,List.set_cons_succ]
 refine wpAnyH_take (i:=5) (oi:={ dst:=some 42,op:=Op.fieldAddr 26 (Operand.tmp 1) 0,type:=0,pos:=_,after:=_,guard:=none }) (v:=?_) rfl (by kernel_rfl) (by kernel_rfl) (by kernel_rfl) (fun _ _ _ h=>h) (Or.inl ⟨by rfl,?_⟩) hHeld ?_
 rotate_left 1
 ·(intro W hW;(try dsimp only at hW);go_simp;try with_reducible rfl)
 try simp only [Act.put,List.setIfInBounds_toArray,List.set_cons_zero,List.set_cons_succ]
 refine wpAnyH_take (i:=6) (oi:={ dst:=some 43,op:=Op.load 24 (Operand.tmp 42),type:=24,pos:=_,after:=_,guard:=none }) (v:=?_) rfl (by kernel_rfl) (by kernel_rfl) (by kernel_rfl) (fun _ _ _ h=>h) (Or.inl ⟨by rfl,?_⟩) hHeld ?_
 rotate_left 1
 ·(intro W hW;have hcc:=hW.1.cell 0;(try dsimp only at hW);go_simp;try with_reducible rfl)
 try simp only [Act.put,List.setIfInBounds_toArray,List.set_cons_zero,List.set_cons_succ]
 refine wpAnyH_take (i:=7) (oi:={ dst:=some 44,op:=Op.fieldAddr 26 (Operand.tmp 1) 0,type:=0,pos:=_,after:=_,guard:=none }) (v:=?_) rfl (by kernel_rfl) (by kernel_rfl) (by kernel_rfl) (fun _ _ _ h=>h) (Or.inl ⟨by rfl,?_⟩) hHeld ?_
 rotate_left 1
 ·(intro W hW;(try dsimp only at hW);go_simp;try with_reducible rfl)
 try simp only [Act.put,List.setIfInBounds_toArray,List.set_cons_zero,List.set_cons_succ]
 refine wpAnyH_take (i:=8) (oi:={ dst:=some 45,op:=Op.load 24 (Operand.tmp 44),type:=24,pos:=_,after:=_,guard:=none }) (v:=?_) rfl (by kernel_rfl) (by kernel_rfl) (by kernel_rfl) (fun _ _ _ h=>h) (Or.inl ⟨by rfl,?_⟩) hHeld ?_
 rotate_left 1
 ·(intro W hW;have hcc:=hW.1.cell 0;(try dsimp only at hW);go_simp;try with_reducible rfl)
 try simp only [Act.put,List.setIfInBounds_toArray,List.set_cons_zero,List.set_cons_succ]
 refine wpAnyH_take (i:=9) (oi:={ dst:=some 46,op:=Op.fieldAddr 26 (Operand.tmp 1) 0,type:=0,pos:=_,after:=_,guard:=none }) (v:=?_) rfl (by kernel_rfl) (by kernel_rfl) (by kernel_rfl) (fun _ _ _ h=>h) (Or.inl ⟨by rfl,?_⟩) hHeld ?_
 rotate_left 1
 ·(intro W hW;(try dsimp only at hW);go_simp;try with_reducible rfl)
 try simp only [Act.put,List.setIfInBounds_toArray,List.set_cons_zero,List.set_cons_succ]
 refine wpAnyH_take (i:=10) (oi:={ dst:=some 47,op:=Op.load 24 (Operand.tmp 46),type:=24,pos:=_,after:=_,guard:=none }) (v:=?_) rfl (by kernel_rfl) (by kernel_rfl) (by kernel_rfl) (fun _ _ _ h=>h) (Or.inl ⟨by rfl,?_⟩) hHeld ?_
 rotate_left 1
 ·(intro W hW;have hcc:=hW.1.cell 0;(try dsimp only at hW);go_simp;try with_reducible rfl)
 try simp only [Act.put,List.setIfInBounds_toArray,List.set_cons_zero,List.set_cons_succ]
 refine wpAnyH_take (i:=13) (oi:={ dst:=some 50,op:=Op.fieldAddr 26 (Operand.tmp 1) 0,type:=0,pos:=_,after:=_,guard:=none }) (v:=?_) rfl (by kernel_rfl) (by kernel_rfl) (by kernel_rfl) (fun _ _ _ h=>h) (Or.inl ⟨by rfl,?_⟩) hHeld ?_
 rotate_left 1
 ·(intro W hW;(try dsimp only at hW);go_simp;try with_reducible rfl)
 try simp only [Act.put,List.setIfInBounds_toArray,List.set_cons_zero,List.set_cons_succ]
 refine wpAnyH_take (i:=14) (oi:={ dst:=some 51,op:=Op.load 24 (Operand.tmp 50),type:=24,pos:=_,after:=_,guard:=none }) (v:=?_) rfl (by kernel_rfl) (by kernel_rfl) (by kernel_rfl) (fun _ _ _ h=>h) (Or.inl ⟨by rfl,?_⟩) hHeld ?_
 rotate_left 1
 ·(intro W hW;have hcc:=hW.1.cell 0;(try dsimp only at hW);go_simp;try with_reducible rfl)
 try simp only [Act.put,List.setIfInBounds_toArray,List.set_cons_zero,List.set_cons_succ]
 refine wpAnyH_ready (rs:=[4]) (by kernel_rfl) (by simp) ?_
 refine AllReadyH.cons (o:={ dst:=some 41,op:=Op.call { callee:=Callee.value (Operand.func 46),args:=#[Operand.tmp 38,Operand.tmp 40],argTypes:=#[24,24] },type:=24,pos:=_,after:=_,guard:=none }) rfl (fun K hK=>?_) AllReadyH.nil
 go_simp
 refine (mulRF W8 Ny8.out Ny8.out).mono ?_
 rintro e W9 ⟨Ayy_,cyy_,lyy_,rfl,hn,hb⟩
 have HB9:=Lib.hid (HB8.out.trans (hb.mono HB8.out.size))
 have PB9:=Lib.hid (PB8.out.under hb (Holds.lt PB8.out))
 have Nx9:=Lib.hid (Nx8.out.under hb)
 have Ny9:=Lib.hid (Ny8.out.under hb)
 clear hb HB8 PB8 Nx8 Ny8
 have Nyy9:=Lib.hid hn
 clear hn
 have HS9:Hid ((fun W=>Holds W w.heap.size 26 #[.slice A1 l1.length c1,.slice A2 l2.length c2,.bool false]∧True) W9):=Lib.hid ⟨PB9.out,trivial⟩
 go_simp
 refine hK.out _ _ (HS9.out) (fun _=>?_)
 clear hK K hHeld
 try simp only [Act.put,List.setIfInBounds_toArray,List.set_cons_zero,List.set_cons_succ]
 have hHeld:(fun W=>Holds W w.heap.size 26 #[.slice A1 l1.length c1,.slice A2 l2.length c2,.bool false]∧True) W9:=HS9.out
 refine wpAnyH_ready (rs:=[11]) (by kernel_rfl) (by simp) ?_
 refine AllReadyH.cons (o:={ dst:=some 48,op:=Op.call { callee:=Callee.value (Operand.func 46),args:=#[Operand.tmp 45,Operand.tmp 47],argTypes:=#[24,24] },type:=24,pos:=_,after:=_,guard:=none }) rfl (fun K hK=>?_) AllReadyH.nil
 go_simp
 refine (mulRF W9 Nx9.out Nx9.out).mono ?_
 rintro e W10 ⟨Axx_,cxx_,lxx_,rfl,hn,hb⟩
 have HB10:=Lib.hid (HB9.out.trans (hb.mono HB9.out.size))
 have PB10:=Lib.hid (PB9.out.under hb (Holds.lt PB9.out))
 have Nx10:=Lib.hid (Nx9.out.under hb)
 have Ny10:=Lib.hid (Ny9.out.under hb)
 have Nyy10:=Lib.hid (Nyy9.out.under hb)
 clear hb HB9 PB9 Nx9 Ny9 Nyy9
 have Nxx10:=Lib.hid hn
 clear hn
 have HS10:Hid ((fun W=>Holds W w.heap.size 26 #[.slice A1 l1.length c1,.slice A2 l2.length c2,.bool false]∧True) W10):=Lib.hid ⟨PB10.out,trivial⟩
 go_simp
 refine hK.out _ _ (HS10.out) (fun _=>?_)
 clear hK K hHeld
 try simp only [Act.put,List.setIfInBounds_toArray,List.set_cons_zero,List.set_cons_succ]
 have hHeld:(fun W=>Holds W w.heap.size 26 #[.slice A1 l1.length c1,.slice A2 l2.length c2,.bool false]∧True) W10:=HS10.out
 refine wpAnyH_ready (rs:=[12]) (by kernel_rfl) (by simp) ?_
 refine AllReadyH.cons (o:={ dst:=some 49,op:=Op.call { callee:=Callee.value (Operand.func 46),args:=#[Operand.tmp 43,Operand.tmp 48],argTypes:=#[24,24] },type:=24,pos:=_,after:=_,guard:=none }) rfl (fun K hK=>?_) AllReadyH.nil
 go_simp
 refine (mulRF W10 Nx10.out Nxx10.out).mono ?_
 rintro e W11 ⟨Axxx_,cxxx_,lxxx_,rfl,hn,hb⟩
 have HB11:=Lib.hid (HB10.out.trans (hb.mono HB10.out.size))
 have PB11:=Lib.hid (PB10.out.under hb (Holds.lt PB10.out))
 have Nx11:=Lib.hid (Nx10.out.under hb)
 have Ny11:=Lib.hid (Ny10.out.under hb)
 have Nyy11:=Lib.hid (Nyy10.out.under hb)
 have Nxx11:=Lib.hid (Nxx10.out.under hb)
 clear hb HB10 PB10 Nx10 Ny10 Nyy10 Nxx10
 have Nxxx11:=Lib.hid hn
 clear hn
 have HS11:Hid ((fun W=>Holds W w.heap.size 26 #[.slice A1 l1.length c1,.slice A2 l2.length c2,.bool false]∧True) W11):=Lib.hid ⟨PB11.out,trivial⟩
 go_simp
 refine hK.out _ _ (HS11.out) (fun _=>?_)
 clear hK K hHeld
 try simp only [Act.put,List.setIfInBounds_toArray,List.set_cons_zero,List.set_cons_succ]
 have hHeld:(fun W=>Holds W w.heap.size 26 #[.slice A1 l1.length c1,.slice A2 l2.length c2,.bool false]∧True) W11:=HS11.out
 refine wpAnyH_ready (rs:=[15]) (by kernel_rfl) (by simp) ?_
 refine AllReadyH.cons (o:={ dst:=some 52,op:=Op.call { callee:=Callee.value (Operand.func 49),args:=#[Operand.tmp 51],argTypes:=#[24] },type:=24,pos:=_,after:=_,guard:=none }) rfl (fun K hK=>?_) AllReadyH.nil
 go_simp
 refine (threeRF W11 Nx11.out).mono ?_
 rintro e W12 ⟨Ax3_,cx3_,lx3_,rfl,hn,hb⟩
 have HB12:=Lib.hid (HB11.out.trans (hb.mono HB11.out.size))
 have PB12:=Lib.hid (PB11.out.under hb (Holds.lt PB11.out))
 have Nx12:=Lib.hid (Nx11.out.under hb)
 have Ny12:=Lib.hid (Ny11.out.under hb)
 have Nyy12:=Lib.hid (Nyy11.out.under hb)
 have Nxx12:=Lib.hid (Nxx11.out.under hb)
 have Nxxx12:=Lib.hid (Nxxx11.out.under hb)
 clear hb HB11 PB11 Nx11 Ny11 Nyy11 Nxx11 Nxxx11
 have Nx312:=Lib.hid hn
 clear hn
 have HS12:Hid ((fun W=>Holds W w.heap.size 26 #[.slice A1 l1.length c1,.slice A2 l2.length c2,.bool false]∧True) W12):=Lib.hid ⟨PB12.out,trivial⟩
 go_simp
 refine hK.out _ _ (HS12.out) (fun _=>?_)
 clear hK K hHeld
 try simp only [Act.put,List.setIfInBounds_toArray,List.set_cons_zero,List.set_cons_succ]
 have hHeld:(fun W=>Holds W w.heap.size 26 #[.slice A1 l1.length c1,.slice A2 l2.length c2,.bool false]∧True) W12:=HS12.out
 refine wpAnyH_ready (rs:=[16]) (by kernel_rfl) (by simp) ?_
 refine AllReadyH.cons (o:={ dst:=some 53,op:=Op.call { callee:=Callee.value (Operand.func 48),args:=#[Operand.tmp 49,Operand.tmp 52],argTypes:=#[24,24] },type:=24,pos:=_,after:=_,guard:=none }) rfl (fun K hK=>?_) AllReadyH.nil
 go_simp
 refine (subRF W12 Nxxx12.out Nx312.out).mono ?_
 rintro e W13 ⟨Ad_,cd_,ld_,rfl,hn,hb⟩
 have HB13:=Lib.hid (HB12.out.trans (hb.mono HB12.out.size))
 have PB13:=Lib.hid (PB12.out.under hb (Holds.lt PB12.out))
 have Nx13:=Lib.hid (Nx12.out.under hb)
 have Ny13:=Lib.hid (Ny12.out.under hb)
 have Nyy13:=Lib.hid (Nyy12.out.under hb)
 have Nxx13:=Lib.hid (Nxx12.out.under hb)
 have Nxxx13:=Lib.hid (Nxxx12.out.under hb)
 have Nx313:=Lib.hid (Nx312.out.under hb)
 clear hb HB12 PB12 Nx12 Ny12 Nyy12 Nxx12 Nxxx12 Nx312
 have Nd13:=Lib.hid hn
 clear hn
 have HS13:Hid ((fun W=>Holds W w.heap.size 26 #[.slice A1 l1.length c1,.slice A2 l2.length c2,.bool false]∧True) W13):=Lib.hid ⟨PB13.out,trivial⟩
 go_simp
 refine hK.out _ _ (HS13.out) (fun _=>?_)
 clear hK K hHeld
 try simp only [Act.put,List.setIfInBounds_toArray,List.set_cons_zero,List.set_cons_succ]
 have hHeld:(fun W=>Holds W w.heap.size 26 #[.slice A1 l1.length c1,.slice A2 l2.length c2,.bool false]∧True) W13:=HS13.out
 refine wpAnyH_ready (rs:=[17]) (by kernel_rfl) (by simp) ?_
 refine AllReadyH.cons (o:={ dst:=some 54,op:=Op.call { callee:=Callee.value (Operand.func 50),args:=#[],argTypes:=#[] },type:=24,pos:=_,after:=_,guard:=none }) rfl (fun K hK=>?_) AllReadyH.nil
 go_simp
 refine (refB_any W13).mono ?_
 rintro e W14 ⟨gb,hgb,rfl,hN,hb⟩
 have HB14:=Lib.hid (HB13.out.trans (hb.mono HB13.out.size))
 have PB14:=Lib.hid (PB13.out.under hb (Holds.lt PB13.out))
 have Nx14:=Lib.hid (Nx13.out.under hb)
 have Ny14:=Lib.hid (Ny13.out.under hb)
 have Nyy14:=Lib.hid (Nyy13.out.under hb)
 have Nxx14:=Lib.hid (Nxx13.out.under hb)
 have Nxxx14:=Lib.hid (Nxxx13.out.under hb)
 have Nx314:=Lib.hid (Nx313.out.under hb)
 have Nd14:=Lib.hid (Nd13.out.under hb)
 clear hb HB13 PB13 Nx13 Ny13 Nyy13 Nxx13 Nxxx13 Nx313 Nd13
 have NB14:Hid (NR W14 (some ⟨gb,0,none⟩) 8 lB Luc.cBf):=Lib.hid ⟨Eight.rd hN rfl,lB_ok.1,lB_ok.2.1,lB_val⟩
 clear hN hgb
 have HS14:Hid ((fun W=>Holds W w.heap.size 26 #[.slice A1 l1.length c1,.slice A2 l2.length c2,.bool false]∧True) W14):=Lib.hid ⟨PB14.out,trivial⟩
 go_simp
 refine hK.out _ _ (HS14.out) (fun _=>?_)
 clear hK K hHeld
 try simp only [Act.put,List.setIfInBounds_toArray,List.set_cons_zero,List.set_cons_succ]
 have hHeld:(fun W=>Holds W w.heap.size 26 #[.slice A1 l1.length c1,.slice A2 l2.length c2,.bool false]∧True) W14:=HS14.out
 refine wpAnyH_ready (rs:=[18]) (by kernel_rfl) (by simp) ?_
 refine AllReadyH.cons (o:={ dst:=some 55,op:=Op.call { callee:=Callee.value (Operand.func 47),args:=#[Operand.tmp 53,Operand.tmp 54],argTypes:=#[24,24] },type:=24,pos:=_,after:=_,guard:=none }) rfl (fun K hK=>?_) AllReadyH.nil
 go_simp
 refine (addRF W14 Nd14.out NB14.out).mono ?_
 rintro e W15 ⟨Ar_,cr_,lr_,rfl,hn,hb⟩
 have HB15:=Lib.hid (HB14.out.trans (hb.mono HB14.out.size))
 have PB15:=Lib.hid (PB14.out.under hb (Holds.lt PB14.out))
 have Nx15:=Lib.hid (Nx14.out.under hb)
 have Ny15:=Lib.hid (Ny14.out.under hb)
 have Nyy15:=Lib.hid (Nyy14.out.under hb)
 have Nxx15:=Lib.hid (Nxx14.out.under hb)
 have Nxxx15:=Lib.hid (Nxxx14.out.under hb)
 have Nx315:=Lib.hid (Nx314.out.under hb)
 have Nd15:=Lib.hid (Nd14.out.under hb)
 have NB15:=Lib.hid (NB14.out.under hb)
 clear hb HB14 PB14 Nx14 Ny14 Nyy14 Nxx14 Nxxx14 Nx314 Nd14 NB14
 have Nr15:=Lib.hid hn
 clear hn
 have HS15:Hid ((fun W=>Holds W w.heap.size 26 #[.slice A1 l1.length c1,.slice A2 l2.length c2,.bool false]∧True) W15):=Lib.hid ⟨PB15.out,trivial⟩
 go_simp
 refine hK.out _ _ (HS15.out) (fun _=>?_)
 clear hK K hHeld
 try simp only [Act.put,List.setIfInBounds_toArray,List.set_cons_zero,List.set_cons_succ]
 have hHeld:(fun W=>Holds W w.heap.size 26 #[.slice A1 l1.length c1,.slice A2 l2.length c2,.bool false]∧True) W15:=HS15.out
 refine wpAnyH_ready (rs:=[19]) (by kernel_rfl) (by simp) ?_
 refine AllReadyH.cons (o:={ dst:=some 56,op:=Op.call { callee:=Callee.value (Operand.func 45),args:=#[Operand.tmp 41,Operand.tmp 55],argTypes:=#[24,24] },type:=3,pos:=_,after:=_,guard:=none }) rfl (fun K hK=>?_) AllReadyH.nil
 go_simp
 refine (cmp'_any W15 _ _ Ayy_ Ar_ cyy_ cr_ lyy_ lr_ Nyy15.out.rd Nr15.out.rd 0 (cmp_same Nyy15.out.num Nr15.out.num HE.out)).mono ?_
 rintro e W16 ⟨rfl,q,hq⟩
 have hb:Below W15.heap.size W15 W16:=by rw [hq];exact bdN (Below.refl _ _) q
 clear hq
 have HB16:=Lib.hid (HB15.out.trans (hb.mono HB15.out.size))
 have PB16:=Lib.hid (PB15.out.under hb (Holds.lt PB15.out))
 have Nx16:=Lib.hid (Nx15.out.under hb)
 have Ny16:=Lib.hid (Ny15.out.under hb)
 have Nyy16:=Lib.hid (Nyy15.out.under hb)
 have Nxx16:=Lib.hid (Nxx15.out.under hb)
 have Nxxx16:=Lib.hid (Nxxx15.out.under hb)
 have Nx316:=Lib.hid (Nx315.out.under hb)
 have Nd16:=Lib.hid (Nd15.out.under hb)
 have NB16:=Lib.hid (NB15.out.under hb)
 have Nr16:=Lib.hid (Nr15.out.under hb)
 clear hb HB15 PB15 Nx15 Ny15 Nyy15 Nxx15 Nxxx15 Nx315 Nd15 NB15 Nr15
 have HS16:Hid ((fun W=>Holds W w.heap.size 26 #[.slice A1 l1.length c1,.slice A2 l2.length c2,.bool false]∧True) W16):=Lib.hid ⟨PB16.out,trivial⟩
 go_simp
 refine hK.out _ _ (HS16.out) (fun _=>?_)
 clear hK K hHeld
 try simp only [Act.put,List.setIfInBounds_toArray,List.set_cons_zero,List.set_cons_succ]
 have hHeld:(fun W=>Holds W w.heap.size 26 #[.slice A1 l1.length c1,.slice A2 l2.length c2,.bool false]∧True) W16:=HS16.out
 refine wpAnyH_take (i:=20) (oi:={ dst:=some 57,op:=Op.binOp BinOp.eql 3 (Operand.tmp 56) (Operand.const (Value.int IntKind.i64 0)) 3,type:=4,pos:=_,after:=_,guard:=none }) (v:=?_) rfl (by kernel_rfl) (by kernel_rfl) (by kernel_rfl) (fun _ _ _ h=>h) (Or.inl ⟨by rfl,?_⟩) hHeld ?_
 rotate_left 1
 ·(intro W hW;(try dsimp only at hW);go_simp;try with_reducible rfl)
 try simp only [Act.put,List.setIfInBounds_toArray,List.set_cons_zero,List.set_cons_succ]
 refine wpAnyH_take (i:=21) (oi:={ dst:=some 2,op:=Op.assign (Operand.tmp 57),type:=4,pos:=_,after:=_,guard:=none }) (v:=?_) rfl (by kernel_rfl) (by kernel_rfl) (by kernel_rfl) (fun _ _ _ h=>h) (Or.inl ⟨by rfl,?_⟩) hHeld ?_
 rotate_left 1
 ·(intro W hW;(try dsimp only at hW);go_simp;try with_reducible rfl)
 try simp only [Act.put,List.setIfInBounds_toArray,List.set_cons_zero,List.set_cons_succ]
 refine wpAnyH_done (by kernel_rfl) ?_ _
 refine NoPanic.normal ?_
 go_wp2_with fail
 go_ret
 exact ⟨rfl,HB16.out⟩
theorem refIsP (w:World) {Q:Luc.Pt} {A1 A2:Option Addr} {c1 c2:Nat} {l1 l2:List Nat} {inf:Bool} (h:PtV Q w A1 c1 l1 A2 c2 l2 inf) (ho:Luc.OnC Q) :
  Calls Tryd.prog 15 #[.agg #[.slice A1 l1.length c1,.slice A2 l2.length c2,.bool inf]] w fun e w'=>e = .returned (.bool true)∧Below w.heap.size w w':=by
 rcases Q with _ | ⟨u,v⟩
 ·obtain rfl:inf=true:=h.inf
  have e1:l1.length=0:=h.x.zero_iff.2 rfl
  have e2:l2.length=0:=h.y.zero_iff.2 rfl
  obtain rfl:l1=[]:=List.length_eq_zero_iff.1 e1
  obtain rfl:l2=[]:=List.length_eq_zero_iff.1 e2
  clear h ho e1 e2
  go_enter Tryd.func15,Tryd.ntmps15
  go_wp2_with fail
  go_ret
  exact ⟨rfl,(Below.refl _ _).alloc (Nat.le_refl _) _⟩
 ·obtain rfl:inf=false:=h.inf
  exact refIs_some w h.x h.y ho
end Go.Proofs.YtflfdglpljodbaaDoor

