/- Words and laws for the statement, part 10. -/
import Derived.Test.YtkmbgbbmhpidkaaH08
namespace Go.Proofs.Ytkmbgbbmhpidkaa
open Go.RowKit
set_option linter.unusedVariables false
set_option linter.unusedSimpArgs false
attribute [local go_sem ↓] Go.wp_at_zero Go.wp_at_succ

section
variable {w w':World} {B gd gx:Nat} {s s1 s2:Dk}
theorem two_read1 (h:Two w B gd s1 gx s2) (i:Int) (x:List Nat) (hx:s1.read i=x) :
  Calls Try.prog 46 #[.pointer (some ⟨gd,0,none⟩),.int .i64 i] w fun e w'=>∃ A' c',e = .returned (.slice A' x.length c')∧Rd .u8 w' w'.heap.size A' c' x∧Below w.heap.size w w':=by
 obtain ⟨hB,F1,F2,d,r,l1,l2,hd⟩:=h
 exact diskB_read (B:=B) ⟨hB,d.more fun k hk=>(l1 k hk).1⟩ i x hx
theorem two_read2 (h:Two w B gd s1 gx s2) (hwl:s2.waits.length≤100000) (i:Int) (x:List Nat) (hx:s2.read i=x) :
  Calls Try.prog 51 #[.pointer (some ⟨gx,0,none⟩),.int .i64 i] w fun e w'=>∃ A' c',e = .returned (.slice A' x.length c')∧Rd .u8 w' w'.heap.size A' c' x∧Below w.heap.size w w':=by
 obtain ⟨hB,F1,F2,d,r,l1,l2,hd⟩:=h
 exact ref_read r hwl i x hx
theorem Two.cells (h:Two w B gd s1 gx s2):∃ gS cS,w.cell? ⟨gx,0,none⟩=some (.slice (some ⟨gS,0,none⟩) s2.now.length cS)∧w.cell? ⟨gx,2,none⟩=some (.int .i64 (s2.ops:Int))∧w.cell? ⟨gx,6,none⟩=some (.bool s2.down):=by
 obtain ⟨hB,F1,F2,d,r,l1,l2,hd⟩:=h
 exact r.cells
theorem Two.down (h:Two w B gd s1 gx s2):Calls Try.prog 44 #[.pointer (some ⟨gd,0,none⟩)] w fun e w'=>e = .returned (.bool s1.down)∧w=w':=by
 obtain ⟨hB,F1,F2,d,r,l1,l2,hd⟩:=h
 exact disk_down d
theorem Two.size (h:Two w B gd s1 gx s2):Calls Try.prog 60 #[.pointer (some ⟨gd,0,none⟩)] w fun e w'=>e = .returned (.int .i64 (s1.now.length:Int))∧w=w':=by
 obtain ⟨hB,F1,F2,d,r,l1,l2,hd⟩:=h
 exact disk_size d
theorem Two.ops (h:Two w B gd s1 gx s2):Calls Try.prog 31 #[.pointer (some ⟨gd,0,none⟩)] w fun e w'=>e = .returned (.int .i64 (s1.ops:Int))∧w=w':=by
 obtain ⟨hB,F1,F2,d,r,l1,l2,hd⟩:=h
 exact disk_ops d
theorem Two.many (h:Two w B gd s1 gx s2):s1.now.length≤2000:=by
 obtain ⟨hB,F1,F2,d,r,l1,l2,hd⟩:=h
 exact d.len.2.2
theorem Two.jmany (h:Two w B gd s1 gx s2):Calls Try.prog 28 #[.pointer (some ⟨gd,0,none⟩)] w fun e w'=>e = .returned (.int .i64 (s1.many:Int))∧w=w':=by
 obtain ⟨hB,F1,F2,d,r,l1,l2,hd⟩:=h
 exact Go.Proofs.Ytkmbgbbmhpidkaa.jmany d
theorem Two.rmany (h:Two w B gd s1 gx s2):Calls Try.prog 50 #[.pointer (some ⟨gx,0,none⟩)] w fun e w'=>e = .returned (.int .i64 (s2.many:Int))∧w=w':=by
 obtain ⟨hB,F1,F2,d,r,l1,l2,hd⟩:=h
 exact Go.Proofs.Ytkmbgbbmhpidkaa.rmany r
end

def RelSm (w:World) (B gd gx:Nat) (s:Dk) (n:Nat) (i:Value) (wr:World):Prop :=
 ∃ j:Nat,j≤n∧i = .int .i64 (j:Int)∧Two wr B gd s gx s∧Below w.heap.size w wr
set_option maxRecDepth 100000 in
set_option maxHeartbeats 8000000 in
theorem same2_any (w:World) (B gd gx:Nat) (s:Dk) (h:Two w B gd s gx s) (ho:s.Oct) (hwl:s.waits.length≤100000) :
  Calls Try.prog 25 #[.pointer (some ⟨gd,0,none⟩),.pointer (some ⟨gx,0,none⟩)] w fun e w'=>e = .returned (.bool true)∧Two w' B gd s gx s∧Below w.heap.size w w':=by
 have hn2:=h.many
 have HRO:Hid (∀ i,Oct1 (s.read i)):=Lib.hid (ho.read h.sound)
 obtain ⟨n,hn⟩:∃ n,n=s.now.length:=⟨_,rfl⟩
 rw [←hn] at hn2
 have HN:=Lib.hid hn
 have HH:=Lib.hid h
 have HWL:=Lib.hid hwl
 clear h ho hwl hn
 go_enter Try.func25,Try.ntmps25
 go_wp2_with fail
 go_loopw [5] (fun i wr=>RelSm w B gd gx s n i wr) (fun i _=>n - (intOf i).toNat)
 case atStart=>exact ⟨0,by omega,rfl,HH.out,Below.refl _ _⟩
 case round =>
  obtain ⟨j,hj1,rfl,ht,hq⟩:=hrel
  obtain ⟨V,hV⟩:∃ V,V=wr:=⟨_,rfl⟩
  subst hV
  have HT:=Lib.hid ht
  have HQ:=Lib.hid hq
  obtain ⟨gS,cS,c0,c2,c6⟩:=ht.cells
  rw [←HN.out] at c0
  clear ht hq HH
  by_cases hjn:j<n
  case pos =>
   have hjI:(j:Int)<(n:Int):=by omega
   have hj0:(0:Int)≤(j:Int):=by omega
   have hwj:IntKind.i64.wrap ((j:Int)+1)=(j:Int)+1:=IntWalk.i64_in _ (by omega)
   obtain ⟨x,hx⟩:∃ x,s.read j=x:=⟨_,rfl⟩
   have HX:=Lib.hid hx
   have HXO:Hid (∀ y∈x,y<256):=Lib.hid (by rw [←hx];exact HRO.out j)
   obtain ⟨z,hz⟩:∃ z,z=str x:=⟨_,rfl⟩
   have HZ:=Lib.hid hz
   clear hx hz
   by_cases h12:j<12
   ·have d1:decide ((j:Int)<12)=true:=decide_eq_true (by omega)
    go_wp2_with fail
    refine wp_region_noPanic ?_
    refine wp_region_held_drew (S:=fun W=>Below V.heap.size V W) (by kernel_rfl) (Below.refl _ V).drew (fun hHeld=>?_)
    refine wpAnyH_take (i:=0) (oi:={ dst:=some 15,op:=Op.move (Operand.tmp 5),type:=3,pos:=_,after:=_,guard:=none }) (v:=?_) rfl (by kernel_rfl) (by kernel_rfl) (by kernel_rfl) (fun _ _ _ h=>h) (Or.inl ⟨by rfl,?_⟩) hHeld ?_
    rotate_left 1
    ·(intro W hW;(try dsimp only at hW);go_simp;try with_reducible rfl)
    try simp only [Act.put,List.setIfInBounds_toArray,List.set_cons_zero,List.set_cons_succ]
    refine wpAnyH_take (i:=1) (oi:={ dst:=some 16,op:=Op.binOp BinOp.lss 3 (Operand.tmp 15) (Operand.const (Value.int IntKind.i64 12)) 3,type:=4,pos:=_,after:=_,guard:=none }) (v:=?_) rfl (by kernel_rfl) (by kernel_rfl) (by kernel_rfl) (fun _ _ _ h=>h) (Or.inl ⟨by rfl,?_⟩) hHeld ?_
    rotate_left 1
    ·(intro W hW;(try dsimp only at hW);go_simp;try with_reducible rfl)
    try simp only [Act.put,List.setIfInBounds_toArray,List.set_cons_zero,List.set_cons_succ]
    refine wpAnyH_take (i:=2) (oi:={ dst:=some 17,op:=Op.move (Operand.tmp 16),type:=4,pos:=_,after:=_,guard:=none }) (v:=?_) rfl (by kernel_rfl) (by kernel_rfl) (by kernel_rfl) (fun _ _ _ h=>h) (Or.inl ⟨by rfl,?_⟩) hHeld ?_
    rotate_left 1
    ·(intro W hW;(try dsimp only at hW);go_simp;try with_reducible rfl)
    try simp only [Act.put,List.setIfInBounds_toArray,List.set_cons_zero,List.set_cons_succ]
    refine wpAnyH_take (i:=3) (oi:={ dst:=some 18,op:=Op.move (Operand.tmp 5),type:=3,pos:=_,after:=_,guard:=some (2,false) }) (v:=undef) rfl (by kernel_rfl) (by kernel_rfl) (by kernel_rfl) (fun _ _ _ h=>h) (Or.inr ⟨by rfl,rfl⟩) hHeld ?_
    try simp only [Act.put,List.setIfInBounds_toArray,List.set_cons_zero,List.set_cons_succ]
    refine wpAnyH_take (i:=4) (oi:={ dst:=some 19,op:=Op.binOp BinOp.geq 3 (Operand.tmp 18) (Operand.const (Value.int IntKind.i64 157)) 3,type:=4,pos:=_,after:=_,guard:=some (2,false) }) (v:=undef) rfl (by kernel_rfl) (by kernel_rfl) (by kernel_rfl) (fun _ _ _ h=>h) (Or.inr ⟨by rfl,rfl⟩) hHeld ?_
    try simp only [Act.put,List.setIfInBounds_toArray,List.set_cons_zero,List.set_cons_succ]
    refine wpAnyH_take (i:=5) (oi:={ dst:=some 20,op:=Op.pick (Operand.tmp 17) (Operand.const (Value.bool true)) (Operand.tmp 19),type:=4,pos:=_,after:=_,guard:=none }) (v:=?_) rfl (by kernel_rfl) (by kernel_rfl) (by kernel_rfl) (fun _ _ _ h=>h) (Or.inl ⟨by rfl,?_⟩) hHeld ?_
    rotate_left 1
    ·(intro W hW;(try dsimp only at hW);go_simp;try with_reducible rfl)
    try simp only [Act.put,List.setIfInBounds_toArray,List.set_cons_zero,List.set_cons_succ]
    refine wpAnyH_take (i:=6) (oi:={ dst:=some 21,op:=Op.move (Operand.tmp 20),type:=4,pos:=_,after:=_,guard:=none }) (v:=?_) rfl (by kernel_rfl) (by kernel_rfl) (by kernel_rfl) (fun _ _ _ h=>h) (Or.inl ⟨by rfl,?_⟩) hHeld ?_
    rotate_left 1
    ·(intro W hW;(try dsimp only at hW);go_simp;try with_reducible rfl)
    try simp only [Act.put,List.setIfInBounds_toArray,List.set_cons_zero,List.set_cons_succ]
    refine wpAnyH_take (i:=7) (oi:={ dst:=some 22,op:=Op.move (Operand.tmp 0),type:=23,pos:=_,after:=_,guard:=some (6,true) }) (v:=?_) rfl (by kernel_rfl) (by kernel_rfl) (by kernel_rfl) (fun _ _ _ h=>h) (Or.inl ⟨by rfl,?_⟩) hHeld ?_
    rotate_left 1
    ·(intro W hW;(try dsimp only at hW);go_simp;try with_reducible rfl)
    try simp only [Act.put,List.setIfInBounds_toArray,List.set_cons_zero,List.set_cons_succ]
    refine wpAnyH_take (i:=8) (oi:={ dst:=some 23,op:=Op.move (Operand.tmp 5),type:=3,pos:=_,after:=_,guard:=some (6,true) }) (v:=?_) rfl (by kernel_rfl) (by kernel_rfl) (by kernel_rfl) (fun _ _ _ h=>h) (Or.inl ⟨by rfl,?_⟩) hHeld ?_
    rotate_left 1
    ·(intro W hW;(try dsimp only at hW);go_simp;try with_reducible rfl)
    try simp only [Act.put,List.setIfInBounds_toArray,List.set_cons_zero,List.set_cons_succ]
    refine wpAnyH_take (i:=11) (oi:={ dst:=some 26,op:=Op.move (Operand.tmp 1),type:=25,pos:=_,after:=_,guard:=some (6,true) }) (v:=?_) rfl (by kernel_rfl) (by kernel_rfl) (by kernel_rfl) (fun _ _ _ h=>h) (Or.inl ⟨by rfl,?_⟩) hHeld ?_
    rotate_left 1
    ·(intro W hW;(try dsimp only at hW);go_simp;try with_reducible rfl)
    try simp only [Act.put,List.setIfInBounds_toArray,List.set_cons_zero,List.set_cons_succ]
    refine wpAnyH_take (i:=12) (oi:={ dst:=some 27,op:=Op.move (Operand.tmp 5),type:=3,pos:=_,after:=_,guard:=some (6,true) }) (v:=?_) rfl (by kernel_rfl) (by kernel_rfl) (by kernel_rfl) (fun _ _ _ h=>h) (Or.inl ⟨by rfl,?_⟩) hHeld ?_
    rotate_left 1
    ·(intro W hW;(try dsimp only at hW);go_simp;try with_reducible rfl)
    try simp only [Act.put,List.setIfInBounds_toArray,List.set_cons_zero,List.set_cons_succ]
    refine wpAnyH_ready (rs:=[9]) (by kernel_rfl) (by simp) ?_
    refine AllReadyH.cons (o:={ dst:=some 24,op:=Op.call { callee:=Callee.value (Operand.func 46),args:=#[Operand.tmp 22,Operand.tmp 23],argTypes:=#[23,3] },type:=40,pos:=_,after:=_,guard:=some (6,true) }) rfl (fun K hK=>?_) AllReadyH.nil
    go_simp
    refine (two_read1 (HT.out.under (Below.refl _ V).drew) j x HX.out).mono ?_
    rintro e w5 ⟨A5,c5,rfl,hr5,hb5⟩
    have HB5:Hid (Below V.heap.size V w5):=Lib.hid ⟨hb5.os,hb5.tape,hb5.output,hb5.size,hb5.block⟩
    have HT5:=Lib.hid (HT.out.under HB5.out)
    have HR5:=Lib.hid hr5
    clear hr5 hb5
    go_simp
    refine hK.out _ _ (HB5.out) (fun _=>?_)
    clear hK K hHeld
    try simp only [Act.put,List.setIfInBounds_toArray,List.set_cons_zero,List.set_cons_succ]
    refine wpAnyH_strong (S':=fun W=>Below w5.heap.size w5 W) (fun W hW=>HB5.out.trans (hW.mono HB5.out.size)) _ _ _ _ ?_
    have hHeld:(fun W=>Below w5.heap.size w5 W) w5:=Below.refl _ _
    refine wpAnyH_take (i:=10) (oi:={ dst:=some 25,op:=Op.convert 40 9 (Operand.tmp 24),type:=9,pos:=_,after:=_,guard:=some (6,true) }) (v:=?_) rfl (by kernel_rfl) (by kernel_rfl) (by kernel_rfl) (fun _ _ _ h=>h) (Or.inl ⟨by rfl,?_⟩) hHeld ?_
    rotate_left 1
    ·(intro W hW;have hcv:=conv_str (Rd.under HR5.out hW) rfl HXO.out;rw [←HZ.out] at hcv;(try dsimp only at hW);go_simp;try with_reducible rfl)
    try simp only [Act.put,List.setIfInBounds_toArray,List.set_cons_zero,List.set_cons_succ]
    refine wpAnyH_ready (rs:=[13]) (by kernel_rfl) (by simp) ?_
    refine AllReadyH.cons (o:={ dst:=some 28,op:=Op.call { callee:=Callee.value (Operand.func 51),args:=#[Operand.tmp 26,Operand.tmp 27],argTypes:=#[25,3] },type:=40,pos:=_,after:=_,guard:=some (6,true) }) rfl (fun K hK=>?_) AllReadyH.nil
    go_simp
    refine (two_read2 HT5.out HWL.out j x HX.out).mono ?_
    rintro e w6 ⟨A6,c6,rfl,hr6,hb6⟩
    have HB6:=Lib.hid hb6
    have HT6:=Lib.hid (HT5.out.under hb6)
    have HQ6:=Lib.hid ((HQ.out.trans (HB5.out.mono HQ.out.size)).trans (hb6.mono (Nat.le_trans HQ.out.size HB5.out.size)))
    have HR6:=Lib.hid hr6
    clear hr6 hb6
    go_simp
    refine hK.out _ _ (HB6.out) (fun _=>?_)
    clear hK K hHeld
    try simp only [Act.put,List.setIfInBounds_toArray,List.set_cons_zero,List.set_cons_succ]
    refine wpAnyH_strong (S':=fun W=>Below w6.heap.size w6 W) (fun W hW=>HB6.out.trans (hW.mono HB6.out.size)) _ _ _ _ ?_
    have hHeld:(fun W=>Below w6.heap.size w6 W) w6:=Below.refl _ _
    refine wpAnyH_take (i:=14) (oi:={ dst:=some 29,op:=Op.convert 40 9 (Operand.tmp 28),type:=9,pos:=_,after:=_,guard:=some (6,true) }) (v:=?_) rfl (by kernel_rfl) (by kernel_rfl) (by kernel_rfl) (fun _ _ _ h=>h) (Or.inl ⟨by rfl,?_⟩) hHeld ?_
    rotate_left 1
    ·(intro W hW;have hcv:=conv_str (Rd.under HR6.out hW) rfl HXO.out;rw [←HZ.out] at hcv;(try dsimp only at hW);go_simp;try with_reducible rfl)
    try simp only [Act.put,List.setIfInBounds_toArray,List.set_cons_zero,List.set_cons_succ]
    refine wpAnyH_take (i:=15) (oi:={ dst:=some 30,op:=Op.binOp BinOp.neq 9 (Operand.tmp 25) (Operand.tmp 29) 9,type:=4,pos:=_,after:=_,guard:=some (6,true) }) (v:=?_) rfl (by kernel_rfl) (by kernel_rfl) (by kernel_rfl) (fun _ _ _ h=>h) (Or.inl ⟨by rfl,?_⟩) hHeld ?_
    rotate_left 1
    ·(intro W hW;(try dsimp only at hW);go_simp;try with_reducible rfl)
    try simp only [Act.put,List.setIfInBounds_toArray,List.set_cons_zero,List.set_cons_succ]
    refine wpAnyH_take (i:=16) (oi:={ dst:=some 31,op:=Op.pick (Operand.tmp 21) (Operand.tmp 30) (Operand.const (Value.bool false)),type:=4,pos:=_,after:=_,guard:=none }) (v:=?_) rfl (by kernel_rfl) (by kernel_rfl) (by kernel_rfl) (fun _ _ _ h=>h) (Or.inl ⟨by rfl,?_⟩) hHeld ?_
    rotate_left 1
    ·(intro W hW;(try dsimp only at hW);go_simp;try with_reducible rfl)
    try simp only [Act.put,List.setIfInBounds_toArray,List.set_cons_zero,List.set_cons_succ]
    refine wpAnyH_done (by kernel_rfl) ?_ _
    refine NoPanic.normal ?_
    clear HT HT5 HB5 HB6 HR5 HR6 HQ
    go_wp2_with fail
    go_roundw
    case rel=>exact ⟨j+1,by omega,by go_num,HT6.out,HQ6.out⟩
    case measure=>simp [intOf];omega
   have d1:decide ((j:Int)<12)=false:=decide_eq_false (by omega)
   by_cases h157:157≤j
   ·have d2:decide ((157:Int)≤(j:Int))=true:=decide_eq_true (by omega)
    go_wp2_with fail
    refine wp_region_noPanic ?_
    refine wp_region_held_drew (S:=fun W=>Below V.heap.size V W) (by kernel_rfl) (Below.refl _ V).drew (fun hHeld=>?_)
    refine wpAnyH_take (i:=0) (oi:={ dst:=some 15,op:=Op.move (Operand.tmp 5),type:=3,pos:=_,after:=_,guard:=none }) (v:=?_) rfl (by kernel_rfl) (by kernel_rfl) (by kernel_rfl) (fun _ _ _ h=>h) (Or.inl ⟨by rfl,?_⟩) hHeld ?_
    rotate_left 1
    ·(intro W hW;(try dsimp only at hW);go_simp;try with_reducible rfl)
    try simp only [Act.put,List.setIfInBounds_toArray,List.set_cons_zero,List.set_cons_succ]
    refine wpAnyH_take (i:=1) (oi:={ dst:=some 16,op:=Op.binOp BinOp.lss 3 (Operand.tmp 15) (Operand.const (Value.int IntKind.i64 12)) 3,type:=4,pos:=_,after:=_,guard:=none }) (v:=?_) rfl (by kernel_rfl) (by kernel_rfl) (by kernel_rfl) (fun _ _ _ h=>h) (Or.inl ⟨by rfl,?_⟩) hHeld ?_
    rotate_left 1
    ·(intro W hW;(try dsimp only at hW);go_simp;try with_reducible rfl)
    try simp only [Act.put,List.setIfInBounds_toArray,List.set_cons_zero,List.set_cons_succ]
    refine wpAnyH_take (i:=2) (oi:={ dst:=some 17,op:=Op.move (Operand.tmp 16),type:=4,pos:=_,after:=_,guard:=none }) (v:=?_) rfl (by kernel_rfl) (by kernel_rfl) (by kernel_rfl) (fun _ _ _ h=>h) (Or.inl ⟨by rfl,?_⟩) hHeld ?_
    rotate_left 1
    ·(intro W hW;(try dsimp only at hW);go_simp;try with_reducible rfl)
    try simp only [Act.put,List.setIfInBounds_toArray,List.set_cons_zero,List.set_cons_succ]
    refine wpAnyH_take (i:=3) (oi:={ dst:=some 18,op:=Op.move (Operand.tmp 5),type:=3,pos:=_,after:=_,guard:=some (2,false) }) (v:=?_) rfl (by kernel_rfl) (by kernel_rfl) (by kernel_rfl) (fun _ _ _ h=>h) (Or.inl ⟨by rfl,?_⟩) hHeld ?_
    rotate_left 1
    ·(intro W hW;(try dsimp only at hW);go_simp;try with_reducible rfl)
    try simp only [Act.put,List.setIfInBounds_toArray,List.set_cons_zero,List.set_cons_succ]
    refine wpAnyH_take (i:=4) (oi:={ dst:=some 19,op:=Op.binOp BinOp.geq 3 (Operand.tmp 18) (Operand.const (Value.int IntKind.i64 157)) 3,type:=4,pos:=_,after:=_,guard:=some (2,false) }) (v:=?_) rfl (by kernel_rfl) (by kernel_rfl) (by kernel_rfl) (fun _ _ _ h=>h) (Or.inl ⟨by rfl,?_⟩) hHeld ?_
    rotate_left 1
    ·(intro W hW;(try dsimp only at hW);go_simp;try with_reducible rfl)
    try simp only [Act.put,List.setIfInBounds_toArray,List.set_cons_zero,List.set_cons_succ]
    refine wpAnyH_take (i:=5) (oi:={ dst:=some 20,op:=Op.pick (Operand.tmp 17) (Operand.const (Value.bool true)) (Operand.tmp 19),type:=4,pos:=_,after:=_,guard:=none }) (v:=?_) rfl (by kernel_rfl) (by kernel_rfl) (by kernel_rfl) (fun _ _ _ h=>h) (Or.inl ⟨by rfl,?_⟩) hHeld ?_
    rotate_left 1
    ·(intro W hW;(try dsimp only at hW);go_simp;try with_reducible rfl)
    try simp only [Act.put,List.setIfInBounds_toArray,List.set_cons_zero,List.set_cons_succ]
    refine wpAnyH_take (i:=6) (oi:={ dst:=some 21,op:=Op.move (Operand.tmp 20),type:=4,pos:=_,after:=_,guard:=none }) (v:=?_) rfl (by kernel_rfl) (by kernel_rfl) (by kernel_rfl) (fun _ _ _ h=>h) (Or.inl ⟨by rfl,?_⟩) hHeld ?_
    rotate_left 1
    ·(intro W hW;(try dsimp only at hW);go_simp;try with_reducible rfl)
    try simp only [Act.put,List.setIfInBounds_toArray,List.set_cons_zero,List.set_cons_succ]
    refine wpAnyH_take (i:=7) (oi:={ dst:=some 22,op:=Op.move (Operand.tmp 0),type:=23,pos:=_,after:=_,guard:=some (6,true) }) (v:=?_) rfl (by kernel_rfl) (by kernel_rfl) (by kernel_rfl) (fun _ _ _ h=>h) (Or.inl ⟨by rfl,?_⟩) hHeld ?_
    rotate_left 1
    ·(intro W hW;(try dsimp only at hW);go_simp;try with_reducible rfl)
    try simp only [Act.put,List.setIfInBounds_toArray,List.set_cons_zero,List.set_cons_succ]
    refine wpAnyH_take (i:=8) (oi:={ dst:=some 23,op:=Op.move (Operand.tmp 5),type:=3,pos:=_,after:=_,guard:=some (6,true) }) (v:=?_) rfl (by kernel_rfl) (by kernel_rfl) (by kernel_rfl) (fun _ _ _ h=>h) (Or.inl ⟨by rfl,?_⟩) hHeld ?_
    rotate_left 1
    ·(intro W hW;(try dsimp only at hW);go_simp;try with_reducible rfl)
    try simp only [Act.put,List.setIfInBounds_toArray,List.set_cons_zero,List.set_cons_succ]
    refine wpAnyH_take (i:=11) (oi:={ dst:=some 26,op:=Op.move (Operand.tmp 1),type:=25,pos:=_,after:=_,guard:=some (6,true) }) (v:=?_) rfl (by kernel_rfl) (by kernel_rfl) (by kernel_rfl) (fun _ _ _ h=>h) (Or.inl ⟨by rfl,?_⟩) hHeld ?_
    rotate_left 1
    ·(intro W hW;(try dsimp only at hW);go_simp;try with_reducible rfl)
    try simp only [Act.put,List.setIfInBounds_toArray,List.set_cons_zero,List.set_cons_succ]
    refine wpAnyH_take (i:=12) (oi:={ dst:=some 27,op:=Op.move (Operand.tmp 5),type:=3,pos:=_,after:=_,guard:=some (6,true) }) (v:=?_) rfl (by kernel_rfl) (by kernel_rfl) (by kernel_rfl) (fun _ _ _ h=>h) (Or.inl ⟨by rfl,?_⟩) hHeld ?_
    rotate_left 1
    ·(intro W hW;(try dsimp only at hW);go_simp;try with_reducible rfl)
    try simp only [Act.put,List.setIfInBounds_toArray,List.set_cons_zero,List.set_cons_succ]
    refine wpAnyH_ready (rs:=[9]) (by kernel_rfl) (by simp) ?_
    refine AllReadyH.cons (o:={ dst:=some 24,op:=Op.call { callee:=Callee.value (Operand.func 46),args:=#[Operand.tmp 22,Operand.tmp 23],argTypes:=#[23,3] },type:=40,pos:=_,after:=_,guard:=some (6,true) }) rfl (fun K hK=>?_) AllReadyH.nil
    go_simp
    refine (two_read1 (HT.out.under (Below.refl _ V).drew) j x HX.out).mono ?_
    rintro e w5 ⟨A5,c5,rfl,hr5,hb5⟩
    have HB5:Hid (Below V.heap.size V w5):=Lib.hid ⟨hb5.os,hb5.tape,hb5.output,hb5.size,hb5.block⟩
    have HT5:=Lib.hid (HT.out.under HB5.out)
    have HR5:=Lib.hid hr5
    clear hr5 hb5
    go_simp
    refine hK.out _ _ (HB5.out) (fun _=>?_)
    clear hK K hHeld
    try simp only [Act.put,List.setIfInBounds_toArray,List.set_cons_zero,List.set_cons_succ]
    refine wpAnyH_strong (S':=fun W=>Below w5.heap.size w5 W) (fun W hW=>HB5.out.trans (hW.mono HB5.out.size)) _ _ _ _ ?_
    have hHeld:(fun W=>Below w5.heap.size w5 W) w5:=Below.refl _ _
    refine wpAnyH_take (i:=10) (oi:={ dst:=some 25,op:=Op.convert 40 9 (Operand.tmp 24),type:=9,pos:=_,after:=_,guard:=some (6,true) }) (v:=?_) rfl (by kernel_rfl) (by kernel_rfl) (by kernel_rfl) (fun _ _ _ h=>h) (Or.inl ⟨by rfl,?_⟩) hHeld ?_
    rotate_left 1
    ·(intro W hW;have hcv:=conv_str (Rd.under HR5.out hW) rfl HXO.out;rw [←HZ.out] at hcv;(try dsimp only at hW);go_simp;try with_reducible rfl)
    try simp only [Act.put,List.setIfInBounds_toArray,List.set_cons_zero,List.set_cons_succ]
    refine wpAnyH_ready (rs:=[13]) (by kernel_rfl) (by simp) ?_
    refine AllReadyH.cons (o:={ dst:=some 28,op:=Op.call { callee:=Callee.value (Operand.func 51),args:=#[Operand.tmp 26,Operand.tmp 27],argTypes:=#[25,3] },type:=40,pos:=_,after:=_,guard:=some (6,true) }) rfl (fun K hK=>?_) AllReadyH.nil
    go_simp
    refine (two_read2 HT5.out HWL.out j x HX.out).mono ?_
    rintro e w6 ⟨A6,c6,rfl,hr6,hb6⟩
    have HB6:=Lib.hid hb6
    have HT6:=Lib.hid (HT5.out.under hb6)
    have HQ6:=Lib.hid ((HQ.out.trans (HB5.out.mono HQ.out.size)).trans (hb6.mono (Nat.le_trans HQ.out.size HB5.out.size)))
    have HR6:=Lib.hid hr6
    clear hr6 hb6
    go_simp
    refine hK.out _ _ (HB6.out) (fun _=>?_)
    clear hK K hHeld
    try simp only [Act.put,List.setIfInBounds_toArray,List.set_cons_zero,List.set_cons_succ]
    refine wpAnyH_strong (S':=fun W=>Below w6.heap.size w6 W) (fun W hW=>HB6.out.trans (hW.mono HB6.out.size)) _ _ _ _ ?_
    have hHeld:(fun W=>Below w6.heap.size w6 W) w6:=Below.refl _ _
    refine wpAnyH_take (i:=14) (oi:={ dst:=some 29,op:=Op.convert 40 9 (Operand.tmp 28),type:=9,pos:=_,after:=_,guard:=some (6,true) }) (v:=?_) rfl (by kernel_rfl) (by kernel_rfl) (by kernel_rfl) (fun _ _ _ h=>h) (Or.inl ⟨by rfl,?_⟩) hHeld ?_
    rotate_left 1
    ·(intro W hW;have hcv:=conv_str (Rd.under HR6.out hW) rfl HXO.out;rw [←HZ.out] at hcv;(try dsimp only at hW);go_simp;try with_reducible rfl)
    try simp only [Act.put,List.setIfInBounds_toArray,List.set_cons_zero,List.set_cons_succ]
    refine wpAnyH_take (i:=15) (oi:={ dst:=some 30,op:=Op.binOp BinOp.neq 9 (Operand.tmp 25) (Operand.tmp 29) 9,type:=4,pos:=_,after:=_,guard:=some (6,true) }) (v:=?_) rfl (by kernel_rfl) (by kernel_rfl) (by kernel_rfl) (fun _ _ _ h=>h) (Or.inl ⟨by rfl,?_⟩) hHeld ?_
    rotate_left 1
    ·(intro W hW;(try dsimp only at hW);go_simp;try with_reducible rfl)
    try simp only [Act.put,List.setIfInBounds_toArray,List.set_cons_zero,List.set_cons_succ]
    refine wpAnyH_take (i:=16) (oi:={ dst:=some 31,op:=Op.pick (Operand.tmp 21) (Operand.tmp 30) (Operand.const (Value.bool false)),type:=4,pos:=_,after:=_,guard:=none }) (v:=?_) rfl (by kernel_rfl) (by kernel_rfl) (by kernel_rfl) (fun _ _ _ h=>h) (Or.inl ⟨by rfl,?_⟩) hHeld ?_
    rotate_left 1
    ·(intro W hW;(try dsimp only at hW);go_simp;try with_reducible rfl)
    try simp only [Act.put,List.setIfInBounds_toArray,List.set_cons_zero,List.set_cons_succ]
    refine wpAnyH_done (by kernel_rfl) ?_ _
    refine NoPanic.normal ?_
    clear HT HT5 HB5 HB6 HR5 HR6 HQ
    go_wp2_with fail
    go_roundw
    case rel=>exact ⟨j+1,by omega,by go_num,HT6.out,HQ6.out⟩
    case measure=>simp [intOf];omega
   ·have d2:decide ((157:Int)≤(j:Int))=false:=decide_eq_false (by omega)
    go_wp2_with fail
    refine wp_region_noPanic ?_
    refine wp_region_held_drew (S:=fun W=>Below V.heap.size V W) (by kernel_rfl) (Below.refl _ V).drew (fun hHeld=>?_)
    refine wpAnyH_take (i:=0) (oi:={ dst:=some 15,op:=Op.move (Operand.tmp 5),type:=3,pos:=_,after:=_,guard:=none }) (v:=?_) rfl (by kernel_rfl) (by kernel_rfl) (by kernel_rfl) (fun _ _ _ h=>h) (Or.inl ⟨by rfl,?_⟩) hHeld ?_
    rotate_left 1
    ·(intro W hW;(try dsimp only at hW);go_simp;try with_reducible rfl)
    try simp only [Act.put,List.setIfInBounds_toArray,List.set_cons_zero,List.set_cons_succ]
    refine wpAnyH_take (i:=1) (oi:={ dst:=some 16,op:=Op.binOp BinOp.lss 3 (Operand.tmp 15) (Operand.const (Value.int IntKind.i64 12)) 3,type:=4,pos:=_,after:=_,guard:=none }) (v:=?_) rfl (by kernel_rfl) (by kernel_rfl) (by kernel_rfl) (fun _ _ _ h=>h) (Or.inl ⟨by rfl,?_⟩) hHeld ?_
    rotate_left 1
    ·(intro W hW;(try dsimp only at hW);go_simp;try with_reducible rfl)
    try simp only [Act.put,List.setIfInBounds_toArray,List.set_cons_zero,List.set_cons_succ]
    refine wpAnyH_take (i:=2) (oi:={ dst:=some 17,op:=Op.move (Operand.tmp 16),type:=4,pos:=_,after:=_,guard:=none }) (v:=?_) rfl (by kernel_rfl) (by kernel_rfl) (by kernel_rfl) (fun _ _ _ h=>h) (Or.inl ⟨by rfl,?_⟩) hHeld ?_
    rotate_left 1
    ·(intro W hW;(try dsimp only at hW);go_simp;try with_reducible rfl)
    try simp only [Act.put,List.setIfInBounds_toArray,List.set_cons_zero,List.set_cons_succ]
    refine wpAnyH_take (i:=3) (oi:={ dst:=some 18,op:=Op.move (Operand.tmp 5),type:=3,pos:=_,after:=_,guard:=some (2,false) }) (v:=?_) rfl (by kernel_rfl) (by kernel_rfl) (by kernel_rfl) (fun _ _ _ h=>h) (Or.inl ⟨by rfl,?_⟩) hHeld ?_
    rotate_left 1
    ·(intro W hW;(try dsimp only at hW);go_simp;try with_reducible rfl)
    try simp only [Act.put,List.setIfInBounds_toArray,List.set_cons_zero,List.set_cons_succ]
    refine wpAnyH_take (i:=4) (oi:={ dst:=some 19,op:=Op.binOp BinOp.geq 3 (Operand.tmp 18) (Operand.const (Value.int IntKind.i64 157)) 3,type:=4,pos:=_,after:=_,guard:=some (2,false) }) (v:=?_) rfl (by kernel_rfl) (by kernel_rfl) (by kernel_rfl) (fun _ _ _ h=>h) (Or.inl ⟨by rfl,?_⟩) hHeld ?_
    rotate_left 1
    ·(intro W hW;(try dsimp only at hW);go_simp;try with_reducible rfl)
    try simp only [Act.put,List.setIfInBounds_toArray,List.set_cons_zero,List.set_cons_succ]
    refine wpAnyH_take (i:=5) (oi:={ dst:=some 20,op:=Op.pick (Operand.tmp 17) (Operand.const (Value.bool true)) (Operand.tmp 19),type:=4,pos:=_,after:=_,guard:=none }) (v:=?_) rfl (by kernel_rfl) (by kernel_rfl) (by kernel_rfl) (fun _ _ _ h=>h) (Or.inl ⟨by rfl,?_⟩) hHeld ?_
    rotate_left 1
    ·(intro W hW;(try dsimp only at hW);go_simp;try with_reducible rfl)
    try simp only [Act.put,List.setIfInBounds_toArray,List.set_cons_zero,List.set_cons_succ]
    refine wpAnyH_take (i:=6) (oi:={ dst:=some 21,op:=Op.move (Operand.tmp 20),type:=4,pos:=_,after:=_,guard:=none }) (v:=?_) rfl (by kernel_rfl) (by kernel_rfl) (by kernel_rfl) (fun _ _ _ h=>h) (Or.inl ⟨by rfl,?_⟩) hHeld ?_
    rotate_left 1
    ·(intro W hW;(try dsimp only at hW);go_simp;try with_reducible rfl)
    try simp only [Act.put,List.setIfInBounds_toArray,List.set_cons_zero,List.set_cons_succ]
    refine wpAnyH_take (i:=7) (oi:={ dst:=some 22,op:=Op.move (Operand.tmp 0),type:=23,pos:=_,after:=_,guard:=some (6,true) }) (v:=undef) rfl (by kernel_rfl) (by kernel_rfl) (by kernel_rfl) (fun _ _ _ h=>h) (Or.inr ⟨by rfl,rfl⟩) hHeld ?_
    try simp only [Act.put,List.setIfInBounds_toArray,List.set_cons_zero,List.set_cons_succ]
    refine wpAnyH_take (i:=8) (oi:={ dst:=some 23,op:=Op.move (Operand.tmp 5),type:=3,pos:=_,after:=_,guard:=some (6,true) }) (v:=undef) rfl (by kernel_rfl) (by kernel_rfl) (by kernel_rfl) (fun _ _ _ h=>h) (Or.inr ⟨by rfl,rfl⟩) hHeld ?_
    try simp only [Act.put,List.setIfInBounds_toArray,List.set_cons_zero,List.set_cons_succ]
    refine wpAnyH_take (i:=9) (oi:={ dst:=some 24,op:=Op.call { callee:=Callee.value (Operand.func 46),args:=#[Operand.tmp 22,Operand.tmp 23],argTypes:=#[23,3] },type:=40,pos:=_,after:=_,guard:=some (6,true) }) (v:=undef) rfl (by kernel_rfl) (by kernel_rfl) (by kernel_rfl) (fun _ _ _ h=>h) (Or.inr ⟨by rfl,rfl⟩) hHeld ?_
    try simp only [Act.put,List.setIfInBounds_toArray,List.set_cons_zero,List.set_cons_succ]
    refine wpAnyH_take (i:=10) (oi:={ dst:=some 25,op:=Op.convert 40 9 (Operand.tmp 24),type:=9,pos:=_,after:=_,guard:=some (6,true) }) (v:=undef) rfl (by kernel_rfl) (by kernel_rfl) (by kernel_rfl) (fun _ _ _ h=>h) (Or.inr ⟨by rfl,rfl⟩) hHeld ?_
    try simp only [Act.put,List.setIfInBounds_toArray,List.set_cons_zero,List.set_cons_succ]
    refine wpAnyH_take (i:=11) (oi:={ dst:=some 26,op:=Op.move (Operand.tmp 1),type:=25,pos:=_,after:=_,guard:=some (6,true) }) (v:=undef) rfl (by kernel_rfl) (by kernel_rfl) (by kernel_rfl) (fun _ _ _ h=>h) (Or.inr ⟨by rfl,rfl⟩) hHeld ?_
    try simp only [Act.put,List.setIfInBounds_toArray,List.set_cons_zero,List.set_cons_succ]
    refine wpAnyH_take (i:=12) (oi:={ dst:=some 27,op:=Op.move (Operand.tmp 5),type:=3,pos:=_,after:=_,guard:=some (6,true) }) (v:=undef) rfl (by kernel_rfl) (by kernel_rfl) (by kernel_rfl) (fun _ _ _ h=>h) (Or.inr ⟨by rfl,rfl⟩) hHeld ?_
    try simp only [Act.put,List.setIfInBounds_toArray,List.set_cons_zero,List.set_cons_succ]
    refine wpAnyH_take (i:=13) (oi:={ dst:=some 28,op:=Op.call { callee:=Callee.value (Operand.func 51),args:=#[Operand.tmp 26,Operand.tmp 27],argTypes:=#[25,3] },type:=40,pos:=_,after:=_,guard:=some (6,true) }) (v:=undef) rfl (by kernel_rfl) (by kernel_rfl) (by kernel_rfl) (fun _ _ _ h=>h) (Or.inr ⟨by rfl,rfl⟩) hHeld ?_
    try simp only [Act.put,List.setIfInBounds_toArray,List.set_cons_zero,List.set_cons_succ]
    refine wpAnyH_take (i:=14) (oi:={ dst:=some 29,op:=Op.convert 40 9 (Operand.tmp 28),type:=9,pos:=_,after:=_,guard:=some (6,true) }) (v:=undef) rfl (by kernel_rfl) (by kernel_rfl) (by kernel_rfl) (fun _ _ _ h=>h) (Or.inr ⟨by rfl,rfl⟩) hHeld ?_
    try simp only [Act.put,List.setIfInBounds_toArray,List.set_cons_zero,List.set_cons_succ]
    refine wpAnyH_take (i:=15) (oi:={ dst:=some 30,op:=Op.binOp BinOp.neq 9 (Operand.tmp 25) (Operand.tmp 29) 9,type:=4,pos:=_,after:=_,guard:=some (6,true) }) (v:=undef) rfl (by kernel_rfl) (by kernel_rfl) (by kernel_rfl) (fun _ _ _ h=>h) (Or.inr ⟨by rfl,rfl⟩) hHeld ?_
    try simp only [Act.put,List.setIfInBounds_toArray,List.set_cons_zero,List.set_cons_succ]
    refine wpAnyH_take (i:=16) (oi:={ dst:=some 31,op:=Op.pick (Operand.tmp 21) (Operand.tmp 30) (Operand.const (Value.bool false)),type:=4,pos:=_,after:=_,guard:=none }) (v:=?_) rfl (by kernel_rfl) (by kernel_rfl) (by kernel_rfl) (fun _ _ _ h=>h) (Or.inl ⟨by rfl,?_⟩) hHeld ?_
    rotate_left 1
    ·(intro W hW;(try dsimp only at hW);go_simp;try with_reducible rfl)
    try simp only [Act.put,List.setIfInBounds_toArray,List.set_cons_zero,List.set_cons_succ]
    refine wpAnyH_done (by kernel_rfl) ?_ _
    refine NoPanic.normal ?_
    go_wp2_with fail
    go_roundw
    case rel=>exact ⟨j+1,by omega,by go_num,HT.out.under (Below.refl _ V).drew,HQ.out.trans ((Below.refl _ V).drew.mono HQ.out.size)⟩
    case measure=>simp [intOf];omega
  case neg =>
   obtain rfl:j=n:=by omega
   have hjI:¬ ((j:Int)<(j:Int)):=by omega
   have HGX:=Lib.hid HT.out.pos.2.2
   go_wp2_with fail
   refine wp_region_noPanic ?_
   refine wp_region_held_drew (S:=fun W=>Below V.heap.size V W) (by kernel_rfl) (Below.refl _ V).drew (fun hHeld=>?_)
   refine wpAnyH_take (i:=0) (oi:={ dst:=some 32,op:=Op.move (Operand.tmp 0),type:=23,pos:=_,after:=_,guard:=none }) (v:=?_) rfl (by kernel_rfl) (by kernel_rfl) (by kernel_rfl) (fun _ _ _ h=>h) (Or.inl ⟨by rfl,?_⟩) hHeld ?_
   rotate_left 1
   ·(intro W hW;(try dsimp only at hW);go_simp;try with_reducible rfl)
   try simp only [Act.put,List.setIfInBounds_toArray,List.set_cons_zero,List.set_cons_succ]
   refine wpAnyH_take (i:=2) (oi:={ dst:=some 34,op:=Op.move (Operand.tmp 1),type:=25,pos:=_,after:=_,guard:=none }) (v:=?_) rfl (by kernel_rfl) (by kernel_rfl) (by kernel_rfl) (fun _ _ _ h=>h) (Or.inl ⟨by rfl,?_⟩) hHeld ?_
   rotate_left 1
   ·(intro W hW;(try dsimp only at hW);go_simp;try with_reducible rfl)
   try simp only [Act.put,List.setIfInBounds_toArray,List.set_cons_zero,List.set_cons_succ]
   refine wpAnyH_take (i:=3) (oi:={ dst:=some 35,op:=Op.nilCheck (Operand.tmp 34),type:=0,pos:=_,after:=_,guard:=none }) (v:=?_) rfl (by kernel_rfl) (by kernel_rfl) (by kernel_rfl) (fun _ _ _ h=>h) (Or.inl ⟨by rfl,?_⟩) hHeld ?_
   rotate_left 1
   ·(intro W hW;(try dsimp only at hW);go_simp;try with_reducible rfl)
   try simp only [Act.put,List.setIfInBounds_toArray,List.set_cons_zero,List.set_cons_succ]
   refine wpAnyH_take (i:=4) (oi:={ dst:=some 36,op:=Op.fieldAddr 64 (Operand.tmp 35) 5,type:=0,pos:=_,after:=_,guard:=none }) (v:=?_) rfl (by kernel_rfl) (by kernel_rfl) (by kernel_rfl) (fun _ _ _ h=>h) (Or.inl ⟨by rfl,?_⟩) hHeld ?_
   rotate_left 1
   ·(intro W hW;(try dsimp only at hW);go_simp;try with_reducible rfl)
   try simp only [Act.put,List.setIfInBounds_toArray,List.set_cons_zero,List.set_cons_succ]
   refine wpAnyH_take (i:=5) (oi:={ dst:=some 37,op:=Op.load 4 (Operand.tmp 36),type:=4,pos:=_,after:=_,guard:=none }) (v:=?_) rfl (by kernel_rfl) (by kernel_rfl) (by kernel_rfl) (fun _ _ _ h=>h) (Or.inl ⟨by rfl,?_⟩) hHeld ?_
   rotate_left 1
   ·(intro W hW;have hk:=(Below.cell (p:=⟨gx,6,none⟩) hW HGX.out).trans c6;(try dsimp only at hW);go_simp;try with_reducible rfl)
   try simp only [Act.put,List.setIfInBounds_toArray,List.set_cons_zero,List.set_cons_succ]
   refine wpAnyH_ready (rs:=[1]) (by kernel_rfl) (by simp) ?_
   refine AllReadyH.cons (o:={ dst:=some 33,op:=Op.call { callee:=Callee.value (Operand.func 44),args:=#[Operand.tmp 32],argTypes:=#[23] },type:=4,pos:=_,after:=_,guard:=none }) rfl (fun K hK=>?_) AllReadyH.nil
   go_simp
   refine (HT.out.under (Below.refl _ V).drew).down.mono ?_
   rintro e w6 ⟨rfl,rfl⟩
   go_simp
   refine hK.out _ _ hHeld (fun _=>?_)
   clear hK K
   try simp only [Act.put,List.setIfInBounds_toArray,List.set_cons_zero,List.set_cons_succ]
   refine wpAnyH_take (i:=6) (oi:={ dst:=some 38,op:=Op.binOp BinOp.eql 4 (Operand.tmp 33) (Operand.tmp 37) 4,type:=4,pos:=_,after:=_,guard:=none }) (v:=?_) rfl (by kernel_rfl) (by kernel_rfl) (by kernel_rfl) (fun _ _ _ h=>h) (Or.inl ⟨by rfl,?_⟩) hHeld ?_
   rotate_left 1
   ·(intro W hW;(try dsimp only at hW);go_simp;try with_reducible rfl)
   try simp only [Act.put,List.setIfInBounds_toArray,List.set_cons_zero,List.set_cons_succ]
   refine wpAnyH_take (i:=7) (oi:={ dst:=some 39,op:=Op.move (Operand.tmp 38),type:=4,pos:=_,after:=_,guard:=none }) (v:=?_) rfl (by kernel_rfl) (by kernel_rfl) (by kernel_rfl) (fun _ _ _ h=>h) (Or.inl ⟨by rfl,?_⟩) hHeld ?_
   rotate_left 1
   ·(intro W hW;(try dsimp only at hW);go_simp;try with_reducible rfl)
   try simp only [Act.put,List.setIfInBounds_toArray,List.set_cons_zero,List.set_cons_succ]
   refine wpAnyH_take (i:=8) (oi:={ dst:=some 40,op:=Op.move (Operand.tmp 0),type:=23,pos:=_,after:=_,guard:=some (7,true) }) (v:=?_) rfl (by kernel_rfl) (by kernel_rfl) (by kernel_rfl) (fun _ _ _ h=>h) (Or.inl ⟨by rfl,?_⟩) hHeld ?_
   rotate_left 1
   ·(intro W hW;(try dsimp only at hW);go_simp;try with_reducible rfl)
   try simp only [Act.put,List.setIfInBounds_toArray,List.set_cons_zero,List.set_cons_succ]
   refine wpAnyH_take (i:=10) (oi:={ dst:=some 42,op:=Op.move (Operand.tmp 1),type:=25,pos:=_,after:=_,guard:=some (7,true) }) (v:=?_) rfl (by kernel_rfl) (by kernel_rfl) (by kernel_rfl) (fun _ _ _ h=>h) (Or.inl ⟨by rfl,?_⟩) hHeld ?_
   rotate_left 1
   ·(intro W hW;(try dsimp only at hW);go_simp;try with_reducible rfl)
   try simp only [Act.put,List.setIfInBounds_toArray,List.set_cons_zero,List.set_cons_succ]
   refine wpAnyH_take (i:=11) (oi:={ dst:=some 43,op:=Op.nilCheck (Operand.tmp 42),type:=0,pos:=_,after:=_,guard:=some (7,true) }) (v:=?_) rfl (by kernel_rfl) (by kernel_rfl) (by kernel_rfl) (fun _ _ _ h=>h) (Or.inl ⟨by rfl,?_⟩) hHeld ?_
   rotate_left 1
   ·(intro W hW;(try dsimp only at hW);go_simp;try with_reducible rfl)
   try simp only [Act.put,List.setIfInBounds_toArray,List.set_cons_zero,List.set_cons_succ]
   refine wpAnyH_take (i:=12) (oi:={ dst:=some 44,op:=Op.fieldAddr 64 (Operand.tmp 43) 2,type:=0,pos:=_,after:=_,guard:=some (7,true) }) (v:=?_) rfl (by kernel_rfl) (by kernel_rfl) (by kernel_rfl) (fun _ _ _ h=>h) (Or.inl ⟨by rfl,?_⟩) hHeld ?_
   rotate_left 1
   ·(intro W hW;(try dsimp only at hW);go_simp;try with_reducible rfl)
   try simp only [Act.put,List.setIfInBounds_toArray,List.set_cons_zero,List.set_cons_succ]
   refine wpAnyH_take (i:=13) (oi:={ dst:=some 45,op:=Op.load 3 (Operand.tmp 44),type:=3,pos:=_,after:=_,guard:=some (7,true) }) (v:=?_) rfl (by kernel_rfl) (by kernel_rfl) (by kernel_rfl) (fun _ _ _ h=>h) (Or.inl ⟨by rfl,?_⟩) hHeld ?_
   rotate_left 1
   ·(intro W hW;have hk:=(Below.cell (p:=⟨gx,2,none⟩) hW HGX.out).trans c2;(try dsimp only at hW);go_simp;try with_reducible rfl)
   try simp only [Act.put,List.setIfInBounds_toArray,List.set_cons_zero,List.set_cons_succ]
   refine wpAnyH_ready (rs:=[9]) (by kernel_rfl) (by simp) ?_
   refine AllReadyH.cons (o:={ dst:=some 41,op:=Op.call { callee:=Callee.value (Operand.func 31),args:=#[Operand.tmp 40],argTypes:=#[23] },type:=3,pos:=_,after:=_,guard:=some (7,true) }) rfl (fun K hK=>?_) AllReadyH.nil
   go_simp
   refine (HT.out.under (Below.refl _ V).drew).ops.mono ?_
   rintro e w6 ⟨rfl,rfl⟩
   go_simp
   refine hK.out _ _ hHeld (fun _=>?_)
   clear hK K
   try simp only [Act.put,List.setIfInBounds_toArray,List.set_cons_zero,List.set_cons_succ]
   refine wpAnyH_take (i:=14) (oi:={ dst:=some 46,op:=Op.binOp BinOp.eql 3 (Operand.tmp 41) (Operand.tmp 45) 3,type:=4,pos:=_,after:=_,guard:=some (7,true) }) (v:=?_) rfl (by kernel_rfl) (by kernel_rfl) (by kernel_rfl) (fun _ _ _ h=>h) (Or.inl ⟨by rfl,?_⟩) hHeld ?_
   rotate_left 1
   ·(intro W hW;(try dsimp only at hW);go_simp;try with_reducible rfl)
   try simp only [Act.put,List.setIfInBounds_toArray,List.set_cons_zero,List.set_cons_succ]
   refine wpAnyH_take (i:=15) (oi:={ dst:=some 47,op:=Op.pick (Operand.tmp 39) (Operand.tmp 46) (Operand.const (Value.bool false)),type:=4,pos:=_,after:=_,guard:=none }) (v:=?_) rfl (by kernel_rfl) (by kernel_rfl) (by kernel_rfl) (fun _ _ _ h=>h) (Or.inl ⟨by rfl,?_⟩) hHeld ?_
   rotate_left 1
   ·(intro W hW;(try dsimp only at hW);go_simp;try with_reducible rfl)
   try simp only [Act.put,List.setIfInBounds_toArray,List.set_cons_zero,List.set_cons_succ]
   refine wpAnyH_take (i:=16) (oi:={ dst:=some 48,op:=Op.move (Operand.tmp 47),type:=4,pos:=_,after:=_,guard:=none }) (v:=?_) rfl (by kernel_rfl) (by kernel_rfl) (by kernel_rfl) (fun _ _ _ h=>h) (Or.inl ⟨by rfl,?_⟩) hHeld ?_
   rotate_left 1
   ·(intro W hW;(try dsimp only at hW);go_simp;try with_reducible rfl)
   try simp only [Act.put,List.setIfInBounds_toArray,List.set_cons_zero,List.set_cons_succ]
   refine wpAnyH_take (i:=17) (oi:={ dst:=some 49,op:=Op.move (Operand.tmp 0),type:=23,pos:=_,after:=_,guard:=some (16,true) }) (v:=?_) rfl (by kernel_rfl) (by kernel_rfl) (by kernel_rfl) (fun _ _ _ h=>h) (Or.inl ⟨by rfl,?_⟩) hHeld ?_
   rotate_left 1
   ·(intro W hW;(try dsimp only at hW);go_simp;try with_reducible rfl)
   try simp only [Act.put,List.setIfInBounds_toArray,List.set_cons_zero,List.set_cons_succ]
   refine wpAnyH_take (i:=19) (oi:={ dst:=some 51,op:=Op.move (Operand.tmp 1),type:=25,pos:=_,after:=_,guard:=some (16,true) }) (v:=?_) rfl (by kernel_rfl) (by kernel_rfl) (by kernel_rfl) (fun _ _ _ h=>h) (Or.inl ⟨by rfl,?_⟩) hHeld ?_
   rotate_left 1
   ·(intro W hW;(try dsimp only at hW);go_simp;try with_reducible rfl)
   try simp only [Act.put,List.setIfInBounds_toArray,List.set_cons_zero,List.set_cons_succ]
   refine wpAnyH_ready (rs:=[18]) (by kernel_rfl) (by simp) ?_
   refine AllReadyH.cons (o:={ dst:=some 50,op:=Op.call { callee:=Callee.value (Operand.func 28),args:=#[Operand.tmp 49],argTypes:=#[23] },type:=3,pos:=_,after:=_,guard:=some (16,true) }) rfl (fun K hK=>?_) AllReadyH.nil
   go_simp
   refine (HT.out.under (Below.refl _ V).drew).jmany.mono ?_
   rintro e w6 ⟨rfl,rfl⟩
   go_simp
   refine hK.out _ _ hHeld (fun _=>?_)
   clear hK K
   try simp only [Act.put,List.setIfInBounds_toArray,List.set_cons_zero,List.set_cons_succ]
   refine wpAnyH_ready (rs:=[20]) (by kernel_rfl) (by simp) ?_
   refine AllReadyH.cons (o:={ dst:=some 52,op:=Op.call { callee:=Callee.value (Operand.func 50),args:=#[Operand.tmp 51],argTypes:=#[25] },type:=3,pos:=_,after:=_,guard:=some (16,true) }) rfl (fun K hK=>?_) AllReadyH.nil
   go_simp
   refine (HT.out.under (Below.refl _ V).drew).rmany.mono ?_
   rintro e w6 ⟨rfl,rfl⟩
   go_simp
   refine hK.out _ _ hHeld (fun _=>?_)
   clear hK K
   try simp only [Act.put,List.setIfInBounds_toArray,List.set_cons_zero,List.set_cons_succ]
   refine wpAnyH_take (i:=21) (oi:={ dst:=some 53,op:=Op.binOp BinOp.eql 3 (Operand.tmp 50) (Operand.tmp 52) 3,type:=4,pos:=_,after:=_,guard:=some (16,true) }) (v:=?_) rfl (by kernel_rfl) (by kernel_rfl) (by kernel_rfl) (fun _ _ _ h=>h) (Or.inl ⟨by rfl,?_⟩) hHeld ?_
   rotate_left 1
   ·(intro W hW;(try dsimp only at hW);go_simp;try with_reducible rfl)
   try simp only [Act.put,List.setIfInBounds_toArray,List.set_cons_zero,List.set_cons_succ]
   refine wpAnyH_take (i:=22) (oi:={ dst:=some 54,op:=Op.pick (Operand.tmp 48) (Operand.tmp 53) (Operand.const (Value.bool false)),type:=4,pos:=_,after:=_,guard:=none }) (v:=?_) rfl (by kernel_rfl) (by kernel_rfl) (by kernel_rfl) (fun _ _ _ h=>h) (Or.inl ⟨by rfl,?_⟩) hHeld ?_
   rotate_left 1
   ·(intro W hW;(try dsimp only at hW);go_simp;try with_reducible rfl)
   try simp only [Act.put,List.setIfInBounds_toArray,List.set_cons_zero,List.set_cons_succ]
   refine wpAnyH_take (i:=23) (oi:={ dst:=some 4,op:=Op.assign (Operand.tmp 54),type:=4,pos:=_,after:=_,guard:=none }) (v:=?_) rfl (by kernel_rfl) (by kernel_rfl) (by kernel_rfl) (fun _ _ _ h=>h) (Or.inl ⟨by rfl,?_⟩) hHeld ?_
   rotate_left 1
   ·(intro W hW;(try dsimp only at hW);go_simp;try with_reducible rfl)
   try simp only [Act.put,List.setIfInBounds_toArray,List.set_cons_zero,List.set_cons_succ]
   refine wpAnyH_done (by kernel_rfl) ?_ _
   refine NoPanic.normal ?_
   go_wp2_with fail
   go_ret
   exact ⟨rfl,HT.out.under (Below.refl _ V).drew,HQ.out.drew⟩
end Go.Proofs.Ytkmbgbbmhpidkaa
