/- Words and laws for the statement, part 10. -/
import Derived.Shelf.SlSortCmp.Whole1
import Derived.RangeFuncNested
import Derived.Test.YtnedpkhehiijhaaGreatQ05
import Derived.Test.YtnedpkhehiijhaaGreatQ06
import Derived.Test.YtnedpkhehiijhaaGreatQ09
namespace Go.Proofs.YtnedpkhehiijhaaGreat
open Go.RowKit
set_option linter.unusedVariables false
set_option linter.unusedSimpArgs false
attribute [local go_sem ↓] Go.wp_at_zero Go.wp_at_succ

theorem bl_irrefl:∀ a:List UInt8,Op.bytesLess a a=false
 | []=>rfl
 | x :: a=>by simp [Op.bytesLess,bl_irrefl a]
theorem bl_trans:∀ a b c:List UInt8,Op.bytesLess a b=true→Op.bytesLess b c=true→Op.bytesLess a c=true
 | _,[],_,h,_=>by simp [Op.bytesLess] at h
 | _,_ :: _,[],_,h=>by simp [Op.bytesLess] at h
 | [],_ :: _,_ :: _,_,_=>rfl
 | x :: a,y :: b,z :: c,h1,h2=>by
  simp only [Op.bytesLess,Bool.or_eq_true,Bool.and_eq_true,decide_eq_true_eq,beq_iff_eq] at h1 h2 ⊢
  rcases h1 with h1 | ⟨rfl,h1⟩
  ·rcases h2 with h2 | ⟨rfl,h2⟩
   ·exact .inl (UInt8.lt_trans h1 h2)
   ·exact .inl h1
  ·rcases h2 with h2 | ⟨rfl,h2⟩
   ·exact .inl h2
   ·exact .inr ⟨rfl,bl_trans a b c h1 h2⟩
theorem bl_tri:∀ a b:List UInt8,Op.bytesLess a b=false→Op.bytesLess b a=false→a=b
 | [],[],_,_=>rfl
 | [],_ :: _,h,_=>by simp [Op.bytesLess] at h
 | _ :: _,[],_,h=>by simp [Op.bytesLess] at h
 | x :: a,y :: b,h1,h2=>by
  simp only [Op.bytesLess,Bool.or_eq_false_iff,decide_eq_false_iff_not] at h1 h2
  have e:x=y:=by
   rcases Nat.lt_trichotomy x.toNat y.toNat with h | h | h
   ·exact absurd (UInt8.lt_iff_toNat_lt.2 h) h1.1
   ·exact UInt8.toNat_inj.1 h
   ·exact absurd (UInt8.lt_iff_toNat_lt.2 h) h2.1
  subst e
  rw [bl_tri a b (by simpa using h1.2) (by simpa using h2.2)]
def ltS (a b:ByteArray):Bool:=Op.bytesLess a.toList b.toList
def cmpS (a b:ByteArray):Int:=if Op.bytesLess a.toList b.toList=true then -1 else if (!(a.toList == b.toList))=true then 1 else 0
theorem cmpS_neg (a b:ByteArray):decide (cmpS a b<0)=ltS a b:=by
 unfold cmpS ltS
 cases Op.bytesLess a.toList b.toList with
 | true=>rfl
 | false =>
  rw [if_neg (by simp)]
  split <;> rfl
theorem ltS_irrefl (a:ByteArray):ltS a a=false:=bl_irrefl _
theorem ltS_trans (a b c:ByteArray) (h:ltS a b=true) (h':ltS b c=true):ltS a c=true:=bl_trans _ _ _ h h'
theorem ltS_ntrans (a b c:ByteArray) (h:ltS a b=false) (h':ltS b c=false):ltS a c=false:=by
 cases hac:ltS a c with
 | false=>rfl
 | true =>
  cases hba:ltS b a with
  | true=>rw [ltS_trans b a c hba hac] at h';cases h'
  | false =>
   have e:a.toList=b.toList:=bl_tri _ _ h hba
   unfold ltS at h' hac
   rw [e] at hac
   rw [hac] at h'
   cases h'
set_option maxRecDepth 100000 in
theorem nan_any (w:World) (a:ByteArray):Calls Tryz.prog 120 #[.string a] w fun e w'=>e = .returned (.bool false)∧w'=w:=by
 go_enter Tryz.func120,Tryz.ntmps120
 go_wp2_with fail
 all_goals (go_ret;exact ⟨rfl,rfl⟩)
set_option maxRecDepth 100000 in
theorem cmpS_any (w:World) (a b:ByteArray):Calls Tryz.prog 102 #[.string a,.string b] w fun e w'=>e = .returned (.int .i64 (cmpS a b))∧w'=w:=by
 unfold cmpS
 cases h1:Op.bytesLess a.toList b.toList with
 | true =>
  go_enter Tryz.func102,Tryz.ntmps102
  go_wp2_with (first | (refine (nan_any _ _).mono ?_;rintro e w1 ⟨rfl,rfl⟩) | fail)
  all_goals (go_ret;exact ⟨rfl,rfl⟩)
 | false =>
  cases h2:(!(a.toList == b.toList)) with
  | true =>
   go_enter Tryz.func102,Tryz.ntmps102
   go_wp2_with (first | (refine (nan_any _ _).mono ?_;rintro e w1 ⟨rfl,rfl⟩) | fail)
   all_goals (go_ret;exact ⟨rfl,rfl⟩)
  | false =>
   go_enter Tryz.func102,Tryz.ntmps102
   go_wp2_with (first | (refine (nan_any _ _).mono ?_;rintro e w1 ⟨rfl,rfl⟩) | fail)
   all_goals (go_ret;exact ⟨rfl,rfl⟩)
/-- What orders two slots. -/
def nmS (ns:List Nd) (i:Nat):ByteArray:=(ns.getD i default).name
set_option maxRecDepth 100000 in
set_option maxHeartbeats 4000000 in
theorem order_any (W:World) (bx gf:Nat) (x y:Nat) (nx ny:ByteArray) (hx:x<40) (hy:y<40) (hb:W.cell? ⟨bx,0,none⟩=some (.pointer (some ⟨gf,0,none⟩))) (h1:W.cell? ⟨gf,1+x*3,none⟩=some (.string nx)) (h2:W.cell? ⟨gf,1+y*3,none⟩=some (.string ny)) :
  Calls Tryz.prog 101 #[.int .i64 (x:Int),.int .i64 (y:Int),.pointer (some ⟨bx,0,none⟩)] W fun e w'=>e = .returned (.int .i64 (cmpS nx ny))∧∃ q,w'=W.drewN q:=by
 have HB0:Hid (∀ q,(W.drewN q).cell? ⟨bx,0,none⟩=some (.pointer (some ⟨gf,0,none⟩))):=Lib.hid fun q=>hb
 have HX:Hid (∀ q,(W.drewN q).cell? ⟨gf,1+x*3,none⟩=some (.string nx)):=Lib.hid fun q=>h1
 have HY:Hid (∀ q,(W.drewN q).cell? ⟨gf,1+y*3,none⟩=some (.string ny)):=Lib.hid fun q=>h2
 have hxI:(x:Int)<40:=by omega
 have hyI:(y:Int)<40:=by omega
 have hx0:(0:Int)≤(x:Int):=by omega
 have hy0:(0:Int)≤(y:Int):=by omega
 clear hb h1 h2
 go_enter Tryz.func101,Tryz.ntmps101
 go_wp2_with fail
 refine wp_region_noPanic ?_
 refine wp_region_held_drew (S:=fun Y=>∃ q,Y=W.drewN q) (by kernel_rfl) (⟨1,rfl⟩) (fun hHeld=>?_)
 refine wpAnyH_take (i:=0) (oi:={ dst:=some 6,op:=Op.load 27 (Operand.tmp 2),type:=27,pos:=_,after:=_,guard:=none }) (v:=?_) rfl (by kernel_rfl) (by kernel_rfl) (by kernel_rfl) (fun _ _ _ h=>h) (Or.inl ⟨by rfl,?_⟩) hHeld ?_
 rotate_left 1
 ·(intro W hW;obtain ⟨q,rfl⟩:=hW;have k0:=HB0.out q;have k1:=HX.out q;have k2:=HY.out q;(try dsimp only at hW);go_simp;try with_reducible rfl)
 try simp only [Act.put,List.setIfInBounds_toArray,List.set_cons_zero,List.set_cons_succ]
 refine wpAnyH_take (i:=1) (oi:={ dst:=some 7,op:=Op.move (Operand.tmp 0),type:=3,pos:=_,after:=_,guard:=none }) (v:=?_) rfl (by kernel_rfl) (by kernel_rfl) (by kernel_rfl) (fun _ _ _ h=>h) (Or.inl ⟨by rfl,?_⟩) hHeld ?_
 rotate_left 1
 ·(intro W hW;(try dsimp only at hW);go_simp;try with_reducible rfl)
 try simp only [Act.put,List.setIfInBounds_toArray,List.set_cons_zero,List.set_cons_succ]
 refine wpAnyH_take (i:=2) (oi:={ dst:=some 8,op:=Op.nilCheck (Operand.tmp 6),type:=0,pos:=_,after:=_,guard:=none }) (v:=?_) rfl (by kernel_rfl) (by kernel_rfl) (by kernel_rfl) (fun _ _ _ h=>h) (Or.inl ⟨by rfl,?_⟩) hHeld ?_
 rotate_left 1
 ·(intro W hW;(try dsimp only at hW);go_simp;try with_reducible rfl)
 try simp only [Act.put,List.setIfInBounds_toArray,List.set_cons_zero,List.set_cons_succ]
 refine wpAnyH_take (i:=3) (oi:={ dst:=some 9,op:=Op.fieldAddr 73 (Operand.tmp 8) 1,type:=0,pos:=_,after:=_,guard:=none }) (v:=?_) rfl (by kernel_rfl) (by kernel_rfl) (by kernel_rfl) (fun _ _ _ h=>h) (Or.inl ⟨by rfl,?_⟩) hHeld ?_
 rotate_left 1
 ·(intro W hW;(try dsimp only at hW);go_simp;try with_reducible rfl)
 try simp only [Act.put,List.setIfInBounds_toArray,List.set_cons_zero,List.set_cons_succ]
 refine wpAnyH_take (i:=4) (oi:={ dst:=some 10,op:=Op.indexAddr 71 (Operand.tmp 9) (Operand.tmp 7),type:=0,pos:=_,after:=_,guard:=none }) (v:=?_) rfl (by kernel_rfl) (by kernel_rfl) (by kernel_rfl) (fun _ _ _ h=>h) (Or.inl ⟨by rfl,?_⟩) hHeld ?_
 rotate_left 1
 ·(intro W hW;(try dsimp only at hW);go_simp;try with_reducible rfl)
 try simp only [Act.put,List.setIfInBounds_toArray,List.set_cons_zero,List.set_cons_succ]
 refine wpAnyH_take (i:=5) (oi:={ dst:=some 11,op:=Op.fieldAddr 70 (Operand.tmp 10) 0,type:=0,pos:=_,after:=_,guard:=none }) (v:=?_) rfl (by kernel_rfl) (by kernel_rfl) (by kernel_rfl) (fun _ _ _ h=>h) (Or.inl ⟨by rfl,?_⟩) hHeld ?_
 rotate_left 1
 ·(intro W hW;(try dsimp only at hW);go_simp;try with_reducible rfl)
 try simp only [Act.put,List.setIfInBounds_toArray,List.set_cons_zero,List.set_cons_succ]
 refine wpAnyH_take (i:=6) (oi:={ dst:=some 12,op:=Op.load 9 (Operand.tmp 11),type:=9,pos:=_,after:=_,guard:=none }) (v:=?_) rfl (by kernel_rfl) (by kernel_rfl) (by kernel_rfl) (fun _ _ _ h=>h) (Or.inl ⟨by rfl,?_⟩) hHeld ?_
 rotate_left 1
 ·(intro W hW;obtain ⟨q,rfl⟩:=hW;have k0:=HB0.out q;have k1:=HX.out q;have k2:=HY.out q;(try dsimp only at hW);go_simp;try with_reducible rfl)
 try simp only [Act.put,List.setIfInBounds_toArray,List.set_cons_zero,List.set_cons_succ]
 refine wpAnyH_take (i:=7) (oi:={ dst:=some 13,op:=Op.load 27 (Operand.tmp 2),type:=27,pos:=_,after:=_,guard:=none }) (v:=?_) rfl (by kernel_rfl) (by kernel_rfl) (by kernel_rfl) (fun _ _ _ h=>h) (Or.inl ⟨by rfl,?_⟩) hHeld ?_
 rotate_left 1
 ·(intro W hW;obtain ⟨q,rfl⟩:=hW;have k0:=HB0.out q;have k1:=HX.out q;have k2:=HY.out q;(try dsimp only at hW);go_simp;try with_reducible rfl)
 try simp only [Act.put,List.setIfInBounds_toArray,List.set_cons_zero,List.set_cons_succ]
 refine wpAnyH_take (i:=8) (oi:={ dst:=some 14,op:=Op.move (Operand.tmp 1),type:=3,pos:=_,after:=_,guard:=none }) (v:=?_) rfl (by kernel_rfl) (by kernel_rfl) (by kernel_rfl) (fun _ _ _ h=>h) (Or.inl ⟨by rfl,?_⟩) hHeld ?_
 rotate_left 1
 ·(intro W hW;(try dsimp only at hW);go_simp;try with_reducible rfl)
 try simp only [Act.put,List.setIfInBounds_toArray,List.set_cons_zero,List.set_cons_succ]
 refine wpAnyH_take (i:=9) (oi:={ dst:=some 15,op:=Op.nilCheck (Operand.tmp 13),type:=0,pos:=_,after:=_,guard:=none }) (v:=?_) rfl (by kernel_rfl) (by kernel_rfl) (by kernel_rfl) (fun _ _ _ h=>h) (Or.inl ⟨by rfl,?_⟩) hHeld ?_
 rotate_left 1
 ·(intro W hW;(try dsimp only at hW);go_simp;try with_reducible rfl)
 try simp only [Act.put,List.setIfInBounds_toArray,List.set_cons_zero,List.set_cons_succ]
 refine wpAnyH_take (i:=10) (oi:={ dst:=some 16,op:=Op.fieldAddr 73 (Operand.tmp 15) 1,type:=0,pos:=_,after:=_,guard:=none }) (v:=?_) rfl (by kernel_rfl) (by kernel_rfl) (by kernel_rfl) (fun _ _ _ h=>h) (Or.inl ⟨by rfl,?_⟩) hHeld ?_
 rotate_left 1
 ·(intro W hW;(try dsimp only at hW);go_simp;try with_reducible rfl)
 try simp only [Act.put,List.setIfInBounds_toArray,List.set_cons_zero,List.set_cons_succ]
 refine wpAnyH_take (i:=11) (oi:={ dst:=some 17,op:=Op.indexAddr 71 (Operand.tmp 16) (Operand.tmp 14),type:=0,pos:=_,after:=_,guard:=none }) (v:=?_) rfl (by kernel_rfl) (by kernel_rfl) (by kernel_rfl) (fun _ _ _ h=>h) (Or.inl ⟨by rfl,?_⟩) hHeld ?_
 rotate_left 1
 ·(intro W hW;(try dsimp only at hW);go_simp;try with_reducible rfl)
 try simp only [Act.put,List.setIfInBounds_toArray,List.set_cons_zero,List.set_cons_succ]
 refine wpAnyH_take (i:=12) (oi:={ dst:=some 18,op:=Op.fieldAddr 70 (Operand.tmp 17) 0,type:=0,pos:=_,after:=_,guard:=none }) (v:=?_) rfl (by kernel_rfl) (by kernel_rfl) (by kernel_rfl) (fun _ _ _ h=>h) (Or.inl ⟨by rfl,?_⟩) hHeld ?_
 rotate_left 1
 ·(intro W hW;(try dsimp only at hW);go_simp;try with_reducible rfl)
 try simp only [Act.put,List.setIfInBounds_toArray,List.set_cons_zero,List.set_cons_succ]
 refine wpAnyH_take (i:=13) (oi:={ dst:=some 19,op:=Op.load 9 (Operand.tmp 18),type:=9,pos:=_,after:=_,guard:=none }) (v:=?_) rfl (by kernel_rfl) (by kernel_rfl) (by kernel_rfl) (fun _ _ _ h=>h) (Or.inl ⟨by rfl,?_⟩) hHeld ?_
 rotate_left 1
 ·(intro W hW;obtain ⟨q,rfl⟩:=hW;have k0:=HB0.out q;have k1:=HX.out q;have k2:=HY.out q;(try dsimp only at hW);go_simp;try with_reducible rfl)
 try simp only [Act.put,List.setIfInBounds_toArray,List.set_cons_zero,List.set_cons_succ]
 refine wpAnyH_ready (rs:=[14]) (by kernel_rfl) (by simp) ?_
 refine AllReadyH.cons (o:={ dst:=some 20,op:=Op.call { callee:=Callee.value (Operand.func 102),args:=#[Operand.tmp 12,Operand.tmp 19],argTypes:=#[9,9] },type:=3,pos:=_,after:=_,guard:=none }) rfl (fun K hK=>?_) AllReadyH.nil
 go_simp
 refine (cmpS_any _ _ _).mono ?_
 rintro e wq ⟨rfl,rfl⟩
 go_simp
 refine hK.out _ _ hHeld (fun _=>?_)
 clear hK K
 try simp only [Act.put,List.setIfInBounds_toArray,List.set_cons_zero,List.set_cons_succ]
 refine wpAnyH_take (i:=15) (oi:={ dst:=some 5,op:=Op.assign (Operand.tmp 20),type:=3,pos:=_,after:=_,guard:=none }) (v:=?_) rfl (by kernel_rfl) (by kernel_rfl) (by kernel_rfl) (fun _ _ _ h=>h) (Or.inl ⟨by rfl,?_⟩) hHeld ?_
 rotate_left 1
 ·(intro W hW;(try dsimp only at hW);go_simp;try with_reducible rfl)
 try simp only [Act.put,List.setIfInBounds_toArray,List.set_cons_zero,List.set_cons_succ]
 refine wpAnyH_done (by kernel_rfl) ?_ _
 refine NoPanic.normal ?_
 go_simp
 go_wp2_with fail
 go_ret
 exact ⟨rfl,1,rfl⟩
end Go.Proofs.YtnedpkhehiijhaaGreat
namespace Go.Proofs.YtnedpkhehiijhaaGreat
open Go.Shelf
def laysSort_ren:Go.Shelf.Ren:=⟨fun | 6=>100 | 15=>119 | 14=>118 | 28=>136 | 29=>137 | 20=>128 | 21=>129 | 22=>130 | 23=>131 | 24=>132 | 25=>133 | 26=>134 | 27=>135 | 46=>147 | 47=>148 | 48=>149 | 49=>150 | 50=>151 | 57=>155 | n=>n,fun | 22=>59 | 24=>3 | 25=>169 | 3=>3 | 39=>176 | 0=>0 | 53=>196 | 55=>198 | 4=>4 | 46=>190 | 45=>189 | 50=>126 | 5=>5 | 9=>9 | 66=>205 | 70=>209 | 76=>213 | 77=>214 | n=>n,fun | n=>n⟩
theorem laysSort:Go.Proofs.SlLaysF.n6 Tryz.prog laysSort_ren:={
 mixed:=by kernel_rfl
 f6 := ⟨"slices.SortFunc[[]int,int]", by decide, Tryz.func100.trans (congrArg some (by kernel_rfl))⟩
 f14 := ⟨"slices.pdqsortCmpFunc[int]", by decide, Tryz.func118.trans (congrArg some (by kernel_rfl))⟩
 f15:=Tryz.func119.trans (congrArg some (by kernel_rfl))
 f20 := ⟨"slices.insertionSortCmpFunc[int]", by decide, Tryz.func128.trans (congrArg some (by kernel_rfl))⟩
 f21 := ⟨"slices.heapSortCmpFunc[int]", by decide, Tryz.func129.trans (congrArg some (by kernel_rfl))⟩
 f22 := ⟨"slices.breakPatternsCmpFunc[int]", by decide, Tryz.func130.trans (congrArg some (by kernel_rfl))⟩
 f23 := ⟨"slices.choosePivotCmpFunc[int]", by decide, Tryz.func131.trans (congrArg some (by kernel_rfl))⟩
 f24 := ⟨"slices.reverseRangeCmpFunc[int]", by decide, Tryz.func132.trans (congrArg some (by kernel_rfl))⟩
 f25 := ⟨"slices.partialInsertionSortCmpFunc[int]", by decide, Tryz.func133.trans (congrArg some (by kernel_rfl))⟩
 f26 := ⟨"slices.partitionEqualCmpFunc[int]", by decide, Tryz.func134.trans (congrArg some (by kernel_rfl))⟩
 f27 := ⟨"slices.partitionCmpFunc[int]", by decide, Tryz.func135.trans (congrArg some (by kernel_rfl))⟩
 f28:=Tryz.func136.trans (congrArg some (by kernel_rfl))
 f29:=Tryz.func137.trans (congrArg some (by kernel_rfl))
 f46 := ⟨"slices.siftDownCmpFunc[int]", by decide, Tryz.func147.trans (congrArg some (by kernel_rfl))⟩
 f47:=Tryz.func148.trans (congrArg some (by kernel_rfl))
 f48:=Tryz.func149.trans (congrArg some (by kernel_rfl))
 f49 := ⟨"slices.medianAdjacentCmpFunc[int]", by decide, Tryz.func150.trans (congrArg some (by kernel_rfl))⟩
 f50 := ⟨"slices.medianCmpFunc[int]", by decide, Tryz.func151.trans (congrArg some (by kernel_rfl))⟩
 f57 := ⟨"slices.order2CmpFunc[int]", by decide, Tryz.func155.trans (congrArg some (by kernel_rfl))⟩
 t0:=Tryz.underlying0
 a0:=Tryz.isAgg0
 z0:=Tryz.sizeOf0
 v0:=Tryz.zeroValue0
 t3:=Tryz.underlying3
 a3:=Tryz.isAgg3
 z3:=Tryz.sizeOf3
 v3:=Tryz.zeroValue3
 t4:=Tryz.underlying4
 a4:=Tryz.isAgg4
 z4:=Tryz.sizeOf4
 v4:=Tryz.zeroValue4
 t5:=Tryz.underlying5
 a5:=Tryz.isAgg5
 z5:=Tryz.sizeOf5
 v5:=Tryz.zeroValue5
 t9:=Tryz.underlying9
 a9:=Tryz.isAgg9
 z9:=Tryz.sizeOf9
 v9:=Tryz.zeroValue9
 t22:=Tryz.underlying59
 a22:=Tryz.isAgg59
 z22:=Tryz.sizeOf59
 v22:=Tryz.zeroValue59
 a24:=Tryz.isAgg3
 z24:=Tryz.sizeOf3
 t25:=Tryz.underlying169
 a25:=Tryz.isAgg169
 z25:=Tryz.sizeOf169
 v25:=Tryz.zeroValue169
 t39:=Tryz.underlying176
 a39:=Tryz.isAgg176
 z39:=Tryz.sizeOf176
 v39:=Tryz.zeroValue176
 t45:=Tryz.underlying189
 a45:=Tryz.isAgg189
 z45:=Tryz.sizeOf189
 v45:=Tryz.zeroValue189
 t46:=Tryz.underlying190
 a46:=Tryz.isAgg190
 z46:=Tryz.sizeOf190
 v46:=Tryz.zeroValue190
 t50:=Tryz.underlying126
 a50:=Tryz.isAgg126
 z50:=Tryz.sizeOf126
 v50:=Tryz.zeroValue126
 t53:=Tryz.underlying196
 a53:=Tryz.isAgg196
 z53:=Tryz.sizeOf196
 v53:=Tryz.zeroValue196
 t55:=Tryz.underlying198
 a55:=Tryz.isAgg198
 z55:=Tryz.sizeOf198
 v55:=Tryz.zeroValue198
 t66:=Tryz.underlying205
 a66:=Tryz.isAgg205
 z66:=Tryz.sizeOf205
 v66:=Tryz.zeroValue205
 t70:=Tryz.underlying209
 a70:=Tryz.isAgg209
 z70:=Tryz.sizeOf209
 v70:=Tryz.zeroValue209
 t76:=Tryz.underlying213
 a76:=Tryz.isAgg213
 z76:=Tryz.sizeOf213
 v76:=Tryz.zeroValue213
 t77:=Tryz.underlying214
 a77:=Tryz.isAgg214
 z77:=Tryz.sizeOf214
 v77:=Tryz.zeroValue214 }
end Go.Proofs.YtnedpkhehiijhaaGreat
namespace Go.Proofs.YtnedpkhehiijhaaGreat
open Go.RowKit
set_option linter.unusedVariables false
set_option linter.unusedSimpArgs false

def encS (i:Fin 40):Value:=.int .i64 ((i.val:Nat):Int)
def cfS (ns:List Nd) (i j:Fin 40):Int:=cmpS (nmS ns i.val) (nmS ns j.val)
theorem swoS (ns:List Nd):Go.Sort.SWO (ltOf (cfS ns)) where
 irrefl x:=by unfold ltOf cfS;rw [cmpS_neg];exact ltS_irrefl _
 trans x y z h1 h2:=by unfold ltOf cfS at *;rw [cmpS_neg] at *;exact ltS_trans _ _ _ h1 h2
 ntrans x y z h1 h2:=by unfold ltOf cfS at *;rw [cmpS_neg] at *;exact ltS_ntrans _ _ _ h1 h2
theorem sortW_same {α:Type} [Inhabited α] {enc:α→Value} {w:World} {blk off m:Nat} {dk:Array α} {os:Array Obj} {k:Nat} (h:k≠blk) (hk:k<w.heap.size):(Go.Proofs.sortWorld enc w blk off m dk os).heap[k]?=w.heap[k]?:=by
 unfold Go.Proofs.sortWorld
 rw [Go.Sort.heap_grow_old _ _ (by simp [Go.Sort.putRow,Go.Sort.mapBlock,Go.Sort.ahead,hk])]
 simp [Go.Sort.putRow,Go.Sort.mapBlock,Go.Sort.ahead,Array.getElem?_modify,Ne.symm h]
theorem fs_name {w:World} {gf gd:Nat} {ns:List Nd} (h:FsAt w gf gd ns) {i:Nat} (hi:i<40):w.cell? ⟨gf,1+i*3,none⟩=some (.string (nmS ns i)):=by
 have:=h.range (3*i+0) (.string (nmS ns i)) (by rw [ncs_at (by rw [h.n40];exact hi) (by omega)];rfl)
 rw [show 1+i*3=1+(3*i+0) by omega]
 exact this
/-- The slots sorted: the row holds them in the order of their names. -/
theorem sort_any (w:World) (bx gf gd:Nat) (ns:List Nd) (hb:Holds w bx 27 #[.pointer (some ⟨gf,0,none⟩)]) (hf:FsAt w gf gd ns) (blk c n:Nat) (xs:List (Fin 40)) (hn:xs.length=n) (hlt:blk<w.heap.size)
  (hrow:∀ j (h:j<xs.length),w.cell? ⟨blk,j,none⟩=some (encS xs[j])∧w.frozen? ⟨blk,j,none⟩=false) (h1:blk≠bx) (h2:blk≠gf) (hn40:n≤40) :
  Calls Tryz.prog 100 #[.slice (some ⟨blk,0,none⟩) n c,.func (.func 101) #[] #[.pointer (some ⟨bx,0,none⟩)]] w fun e w'=>e = .returned (.tuple #[]) ∧
   ∃ ys:List (Fin 40),ys.Perm xs∧ys.Pairwise (fun i j=>ltS (nmS ns j.val) (nmS ns i.val)=false)∧(∀ j (h:j<ys.length),w'.cell? ⟨blk,j,none⟩=some (encS ys[j]))∧Only (fun k=>k=blk) w w'∧∀ cur T,w.heap[blk]?=some (.cells cur T (0,0))→∃ cur',w'.heap[blk]?=some (.cells cur' T (0,0)):=by
 subst hn
 have eg:∀ args w,(callFunc 101 args).run Tryz.prog w = .ok (.enter 101 args) w:=enters_of Tryz.func101 (by kernel_rfl) rfl
 have hH:Go.Sort.Holds encS w blk 0 xs.toArray:=fun j hj=>by
  have hj':j<xs.length:=by simpa using hj
  have:=hrow j hj'
  rw [Nat.zero_add,getElem!_pos _ j (by simpa using hj')]
  simpa using this
 have hcmp:Go.Proofs.CmpReads Tryz.prog 101 #[.pointer (some ⟨bx,0,none⟩)] encS (cfS ns) blk 0 xs.toArray.size w:=fun m os dk hs x y=>by
  have hcell:∀ g o,g≠blk→g<w.heap.size→(Go.Proofs.sortWorld encS w blk 0 m dk os).cell? ⟨g,o,none⟩=w.cell? ⟨g,o,none⟩:=fun g o hg hl=>cell_same (sortW_same hg hl) o
  have hfl:=hf.hd.lt
  have hbl:=hb.lt
  refine order_any _ bx gf x.val y.val (nmS ns x.val) (nmS ns y.val) x.isLt y.isLt ?_ ?_ ?_
  ·rw [hcell _ _ (Ne.symm h1) hbl];exact hb.cell 0
  ·rw [hcell _ _ (Ne.symm h2) hfl];exact fs_name hf x.isLt
  ·rw [hcell _ _ (Ne.symm h2) hfl];exact fs_name hf y.isLt
 have hcon:=Go.Proofs.Any.slices_SortFunc laysSort encS (fun _=>rfl) (cfS ns) (swoS ns) 101 #[.pointer (some ⟨bx,0,none⟩)] blk 0 c xs.toArray w eg hcmp.lays hH hlt (by simp;omega)
 rw [List.size_toArray] at hcon
 refine hcon.mono ?_
 rintro e w' ⟨rfl,d',q,os,hp,hs,rfl⟩
 have hsz:d'.size=xs.length:=by simpa using hp.1
 refine ⟨rfl,d'.toList,?_,?_,fun j hj=>?_,?_,fun cur T hc=>?_⟩
 ·have:=hp.2.2
  rw [Array.extract_eq_self_of_le (by omega),Array.extract_eq_self_of_le (by simp)] at this
  simpa using this
 ·rw [List.pairwise_iff_getElem]
  intro i j hi hj hij
  have hi':i<d'.size:=by simpa using hi
  have hj':j<d'.size:=by simpa using hj
  have:=hs i j (Nat.zero_le _) hij (by omega)
  unfold ltOf cfS at this
  rw [cmpS_neg,getElem!_pos _ i hi',getElem!_pos _ j hj'] at this
  simpa using this
 ·have hj':j<d'.size:=by simpa using hj
  unfold Go.Proofs.sortWorld
  rw [Go.Sort.cell?_grow _ _ _ (by simp [Go.Sort.putRow,Go.Sort.mapBlock,Go.Sort.ahead,hlt])]
  have:=Go.Sort.cell?_putRow encS (Go.Sort.ahead w q) blk 0 xs.toArray d' hH (by simpa using hsz) j hj'
  rw [Nat.zero_add,getElem!_pos _ j hj'] at this
  simpa using this
 ·exact ⟨rfl,rfl,rfl,by simp [Go.Proofs.sortWorld,Go.Sort.putRow,Go.Sort.mapBlock,Go.Sort.ahead],fun k hk hF=>sortW_same hF hk⟩
 ·unfold Go.Proofs.sortWorld
  rw [Go.Sort.heap_grow_old _ _ (by simp [Go.Sort.putRow,Go.Sort.mapBlock,Go.Sort.ahead,hlt])]
  refine ⟨Go.Sort.putCells encS 0 d' cur,?_⟩
  have hc':(Go.Sort.ahead w q).heap[blk]?=some (.cells cur T (0,0)):=hc
  unfold Go.Sort.putRow Go.Sort.mapBlock
  simp only [Array.getElem?_modify,if_true,hc',Option.map_some,Go.Sort.onCells]
end Go.Proofs.YtnedpkhehiijhaaGreat
namespace Go.Proofs.YtnedpkhehiijhaaGreat
open Go.RowKit
set_option linter.unusedVariables false
set_option linter.unusedSimpArgs false
attribute [local go_sem ↓] Go.wp_at_zero Go.wp_at_succ

set_option maxRecDepth 100000 in
set_option maxHeartbeats 4000000 in
theorem insert_nil (w:World) (fv:Value):Calls Tryz.prog 128 #[.slice none 0 0,.int .i64 0,.int .i64 0,fv] w fun e w'=>e = .returned (.tuple #[])∧w'=w:=by
 go_enter Tryz.func128,Tryz.ntmps128
 go_wp2_with fail
 refine wp_loop_rounds 1 ?_
 repeat any_goals (rw [rounds_succ];go_wp2)
 go_end0
 exact ⟨rfl,rfl⟩
set_option maxRecDepth 100000 in
set_option maxHeartbeats 4000000 in
theorem len64_nil (w:World):Calls Tryz.prog 137 #[.int .u64 0] w fun e w'=>e = .returned (.int .i64 0)∧w'=w:=by
 go_enter Tryz.func137,Tryz.ntmps137
 go_wp2_with fail
 go_ret
 have h8:Go.Lib.len8 0=0:=by first | rfl | kernel_rfl | simp [Go.Lib.len8]
 exact ⟨by simp [h8,wrap64],rfl⟩
set_option maxRecDepth 100000 in
set_option maxHeartbeats 4000000 in
theorem len_nil (w:World):Calls Tryz.prog 119 #[.int .u64 0] w fun e w'=>e = .returned (.int .i64 0)∧w'=w:=by
 go_enter Tryz.func119,Tryz.ntmps119
 go_wp2_with (refine (len64_nil _).mono ?_;rintro e w1 ⟨rfl,rfl⟩)
 go_ret
 exact ⟨rfl,rfl⟩
set_option maxRecDepth 100000 in
set_option maxHeartbeats 4000000 in
theorem pdq_nil (w:World) (fv:Value):Calls Tryz.prog 118 #[.slice none 0 0,.int .i64 0,.int .i64 0,.int .i64 0,fv] w fun e w'=>e = .returned (.tuple #[])∧w'=w:=by
 have HI:=Lib.hid (insert_nil w fv)
 go_enter Tryz.func118,Tryz.ntmps118
 go_wp2_with fail
 refine wp_loop_rounds 1 ?_
 repeat any_goals (rw [rounds_succ];go_wp2_with (refine HI.out.mono ?_;rintro e w1 ⟨rfl,rfl⟩))
 exact bodyPost_ret (v:=.tuple #[]) (by simp [results,Tryz.results118,go_sem]) rfl ⟨rfl,rfl⟩
set_option maxRecDepth 100000 in
set_option maxHeartbeats 4000000 in
theorem sort_nil (w:World) (fv:Value):Calls Tryz.prog 100 #[.slice none 0 0,fv] w fun e w'=>e = .returned (.tuple #[])∧w'=w:=by
 have HL:=Lib.hid (len_nil w)
 have HP:=Lib.hid (pdq_nil w fv)
 go_enter Tryz.func100,Tryz.ntmps100
 go_wp2_with (first | (refine HL.out.mono ?_;rintro e w1 ⟨rfl,rfl⟩) | (refine HP.out.mono ?_;rintro e w1 ⟨rfl,rfl⟩) | fail)
 go_end0
 exact ⟨rfl,rfl⟩
end Go.Proofs.YtnedpkhehiijhaaGreat
namespace Go.Proofs.YtnedpkhehiijhaaGreat
open Go.RowKit
set_option linter.unusedVariables false
set_option linter.unusedSimpArgs false
attribute [local go_sem ↓] Go.wp_at_zero Go.wp_at_succ

def usedK (ns:List Nd) (k:Nat):List (Fin 40):=((List.finRange 40).take k).filter fun i=>usedB (ns.getD i.val default)
/-- The slots that are had, by name. -/
structure Slots (ns:List Nd) (ys:List (Fin 40)):Prop where
 perm:ys.Perm (usedK ns 40)
 up:ys.Pairwise fun i j=>ltS (nmS ns j.val) (nmS ns i.val)=false
theorem usedK_succ (ns:List Nd) {k:Nat} (hk:k<40):usedK ns (k+1)=usedK ns k ++ if usedB (ns.getD k default)=true then [⟨k,hk⟩] else []:=by
 have e:(List.finRange 40)[k]?=some ⟨k,hk⟩:=by simp [hk]
 unfold usedK
 rw [take_snocJ e,List.filter_append]
 congr 1
 simp [List.filter_cons]
theorem usedK_len (ns:List Nd) (k:Nat):(usedK ns k).length≤40:=Nat.le_trans (List.length_filter_le _ _) (by rw [List.length_take];simp;omega)
def fsv (ns:List Nd) (i:Fin 40):Array Value:=#[.int .i64 ((i.val:Nat):Int),.agg (ncell (ns.getD i.val default)).toArray]
/-- What the rounds keep: rows of numbers that are newer than w; the files; where they are named. -/
structure KpF (w:World) (gf bx:Nat) (V V':World):Prop where
 size:V.heap.size≤V'.heap.size
 ints:∀ g,w.heap.size≤g→(∃ cs,Holds V g 3 cs)→V'.heap[g]?=V.heap[g]?
 fs:V'.heap[gf]?=V.heap[gf]?
 box:V'.heap[bx]?=V.heap[bx]?
def RelU (ns:List Nd) (W1:World) (sl si:Value) (wr:World):Prop :=
 ∃ (k m:Nat) (A:Option Addr) (c:Nat),k≤40∧si = .int .i64 (k:Int)∧sl = .slice A m c∧(usedK ns k).length=m∧Own .i64 3 wr W1.heap.size A c ((usedK ns k).map Fin.val)∧Below W1.heap.size W1 wr
/-- A row of numbers that is newer than W holds the slots. -/
def SoP (W:World) (A:Option Addr) (ys:List (Fin 40)) (w':World):Prop:=∀ j (h:j<ys.length),∃ g,A=some ⟨g,0,none⟩∧W.heap.size≤g∧(∃ cs,Holds w' g 3 cs)∧w'.cell? ⟨g,j,none⟩=some (encS ys[j])
set_option maxRecDepth 100000 in
theorem sort_own {W V:World} {bx gf gd:Nat} {ns:List Nd} {A:Option Addr} {c m:Nat} (hq:Below W.heap.size W V) (hbW:Holds W bx 27 #[.pointer (some ⟨gf,0,none⟩)]) (hfW:FsAt W gf gd ns) (hm:(usedK ns 40).length=m) (ho:Own .i64 3 V W.heap.size A c ((usedK ns 40).map Fin.val)) :
  Calls Tryz.prog 100 #[.slice A m c,.func (.func 101) #[] #[.pointer (some ⟨bx,0,none⟩)]] V fun e w'=>e = .returned (.tuple #[])∧∃ ys:List (Fin 40),Slots ns ys∧ys.length=m∧SoP W A ys w'∧Below W.heap.size W w':=by
 have hml:((usedK ns 40).map Fin.val).length=m:=by rw [List.length_map];exact hm
 rcases ho.2 with ⟨hv,hn⟩ | ⟨g,cap,cur,hv,hBg,hgg,hle,hmx,hs,ht⟩
 ·injection hv with hA hl hc
  subst hA;subst hc
  obtain rfl:m=0:=by omega
  refine (sort_nil V _).mono ?_
  rintro e w' ⟨rfl,rfl⟩
  have he:usedK ns 40=[]:=List.eq_nil_of_length_eq_zero hm
  exact ⟨rfl,[],⟨by rw [he],List.Pairwise.nil⟩,rfl,fun j hj=>by simp at hj,hq⟩
 ·injection hv with hA hl hc
  subst hA;subst hc
  have hG:Holds V g 3 cur:=hgg
  have hbl:=hbW.lt
  have hfl:=hfW.hd.lt
  have hrow:∀ j (h:j<(usedK ns 40).length),V.cell? ⟨g,j,none⟩=some (encS (usedK ns 40)[j])∧V.frozen? ⟨g,j,none⟩=false:=fun j hj=>by
   refine ⟨?_,hG.open_ _⟩
   obtain ⟨b,off,e,_,hcell⟩:=ho.rd.2.2 (by rw [List.length_map];omega)
   injection e with e
   injection e with e1 e2
   subst e1;subst e2
   have:=hcell j (by rw [List.length_map];exact hj)
   rw [Nat.zero_add] at this
   rw [this]
   simp [encS,List.getD,hj]
  refine (sort_any V bx gf gd ns (hbW.under hq hbl) (hfW.under hq) g c m (usedK ns 40) hm hG.lt hrow (by omega) (by omega) (by rw [←hm];exact usedK_len _ _)).mono ?_
  rintro e w' ⟨rfl,ys,hp,hu,hcell,honly,hT⟩
  obtain ⟨cur',hT'⟩:=hT cur _ hgg
  have hyl:ys.length=m:=by rw [hp.length_eq];exact hm
  refine ⟨rfl,ys,⟨hp,hu⟩,hyl,fun j hj=>⟨g,rfl,hBg,⟨cur',hT'⟩,hcell j hj⟩,?_⟩
  exact hq.trans ⟨honly.os,honly.tape,honly.output,honly.size,fun k hk=>honly.block k (Nat.lt_of_lt_of_le hk hq.size) (by omega)⟩
def RelY (W:World) (gf gd bx:Nat) (ns:List Nd) (A:Option Addr) (ys:List (Fin 40)) (J:List (Fin 40)→World→Prop) (si:Value) (wr:World):Prop :=
 ∃ k:Nat,k≤ys.length∧si = .int .i64 (k:Int)∧J (ys.take k) wr∧SoP W A ys wr∧Holds wr bx 27 #[.pointer (some ⟨gf,0,none⟩)]∧Holds wr gf 73 (.pointer (some ⟨gd,0,none⟩) :: ncs ns).toArray
set_option maxRecDepth 100000 in
set_option maxHeartbeats 8000000 in
theorem files_stops {w:World} {gf gd:Nat} {ns:List Nd} (h:FsAt w gf gd ns) (bx:Nat) (hb:Holds w bx 27 #[.pointer (some ⟨gf,0,none⟩)]) :
  SeqStopsK Fence.wide 2 Tryz.prog 99 #[.pointer (some ⟨bx,0,none⟩)] (fsv ns) (KpF w gf bx) (Slots ns) (fun pre=>∃ ys,Slots ns ys∧pre <+: ys) 40 w:=fun l J Jx W hW hJ hJx hY h0=>by
 have HFW:Hid (FsAt W gf gd ns):=Lib.hid (h.under hW)
 have HBW:Hid (Holds W bx 27 #[.pointer (some ⟨gf,0,none⟩)]):=Lib.hid (hb.under hW hb.lt)
 have HRG:Hid (W.rangeAt gf 1 (ncs ns)):=Lib.hid HFW.out.range
 have HSZ:Hid ((Tryz.prog.info? 71).map (·.size)=some (ncs ns).length):=Lib.hid (by rw [size_nodes,ncs_len,h.n40])
 have z0:W.cell? ⟨bx,0,none⟩=some (.pointer (some ⟨gf,0,none⟩)):=HBW.out.cell 0
 refine callsIn_of_wp Tryz.func99 rfl trivial ?_ rfl
 simp only [Tryz.ntmps99,List.size_toArray,List.length_cons,List.length_nil,Nat.reduceAdd,Nat.reduceSub,Array.replicate_succ,Array.replicate_zero,List.push_toArray,List.append_toArray,List.nil_append,List.cons_append]
 refine wpIn_wide.2 ?_
 go_wp2_with (first | (refine wpList_load_mid rfl 71 (.tmp 12) rfl gf 1 rfl (ncs ns) _ HRG.out Tryz.underlying71 rfl HSZ.out ?_) | fail)
 have HIX:Hid (∀ W k,k<40→∀ s z pa pn pc,ncell (ns.getD k default)=[.string s,.int .i64 z,.slice pa pn pc]→(Instr.index 71 (.agg (ncs ns).toArray) (.int .i64 ((k:Nat):Int))).run Tryz.prog W = .ok (.agg #[.string s,.int .i64 z,.slice pa pn pc]) W):=Lib.hid fun W k hk s z pa pn pc hd=>index_node HFW.out.n40 hk s z pa pn pc hd
 obtain ⟨AG,hAG⟩:∃ AG,AG=(ncs ns).toArray:=⟨_,rfl⟩
 rw [←hAG] at HIX ⊢
 clear hAG HRG HSZ
 have HJ:=Lib.hid hJ
 have HJX:=Lib.hid hJx
 have HY:=Lib.hid hY
 have H0:=Lib.hid h0
 have HW:=Lib.hid hW
 clear hJ hJx hY h0 hW h hb z0
 go_loopw [3,14] (fun sl si wr=>RelU ns W sl si wr) (fun _ si _=>40 - (intOf si).toNat)
 case atStart=>exact ⟨0,0,none,0,by omega,rfl,rfl,rfl,Own.nil _ _ _ _,Below.refl _ _⟩
 case round =>
  obtain ⟨k,m,A,c,hk,rfl,rfl,hm,ho,hq⟩:=hrel
  obtain ⟨V,hV⟩:∃ V,V=wr:=⟨_,rfl⟩
  subst hV
  have HM:=Lib.hid hm
  have HOW:=Lib.hid ho
  have HQ:=Lib.hid hq
  have hm40:m≤40:=by rw [←hm];exact usedK_len _ _
  clear hm ho hq
  by_cases hlt:k<40
  case pos =>
   have hkI:(k:Int)<40:=by omega
   have hk0:(0:Int)≤(k:Int):=by omega
   have hkw:IntKind.i64.wrap ((k:Int)+1)=(k:Int)+1:=IntWalk.i64_in _ (by omega)
   have HUS:=Lib.hid (usedK_succ ns hlt)
   obtain ⟨d,hd⟩:∃ d,d=ns.getD k default:=⟨_,rfl⟩
   rw [←hd] at HUS
   obtain ⟨s,z,pa,pc,pl⟩:=d
   obtain ⟨pn,hpn⟩:∃ n,pl.length=n:=⟨_,rfl⟩
   have hix:=HIX.out V k hlt s z pa pn pc (by rw [←hd];unfold ncell;rw [←hpn])
   clear hd hpn
   have hb1:Below V.heap.size V (V.alloc (.cells #[.string s,.int .i64 z,.slice pa pn pc] 70)):=(Below.refl _ _).alloc (Nat.le_refl _) _
   obtain ⟨V1,hV1⟩:∃ V1,V1=V.alloc (.cells #[.string s,.int .i64 z,.slice pa pn pc] 70):=⟨_,rfl⟩
   rw [←hV1] at hb1
   have HV1:=Lib.hid hV1
   have HB1:=Lib.hid hb1
   have hh1:Holds V1 V.heap.size 70 #[.string s,.int .i64 z,.slice pa pn pc]:=by rw [hV1];exact Holds.fresh _ _ _
   have c0:V1.cell? ⟨V.heap.size,0,none⟩=some (.string s):=hh1.cell 0
   have hz1:V1.heap.size=V.heap.size+1:=by rw [hV1];simp
   rcases hu:usedB ⟨s,z,pa,pc,pl⟩ with _ | _
   ·have hs:s.toList.isEmpty=true:=by
     unfold usedB at hu
     simpa using hu
    have HT2:Hid (usedK ns (k+1)=usedK ns k):=Lib.hid (by rw [HUS.out,hu];simp)
    clear hu hb1 hh1 hV1
    go_wp2_with fail
    go_roundw
    case rel=>exact ⟨k+1,m,A,c,by omega,by go_num,rfl,by rw [HT2.out];exact HM.out,by rw [HT2.out,←HV1.out];exact HOW.out.under_all HB1.out,by rw [←HV1.out];exact HQ.out.trans (HB1.out.mono HQ.out.size)⟩
    case measure=>simp [intOf];omega
   ·have hs:s.toList.isEmpty=false:=by
     unfold usedB at hu
     simpa using hu
    have HT2:Hid (usedK ns (k+1)=usedK ns k ++ [⟨k,hlt⟩]):=Lib.hid (by rw [HUS.out,hu,if_pos rfl])
    obtain ⟨V2,hV2⟩:∃ V2,V2=V1.alloc (.cells (nums .i64 [k]) 3):=⟨_,rfl⟩
    have HV2:=Lib.hid hV2
    have hb2:Below V1.heap.size V1 V2:=by rw [hV2];exact (Below.refl _ _).alloc (Nat.le_refl _) _
    have HB2:Hid (Below V.heap.size V V2):=Lib.hid (hb1.trans (hb2.mono hb1.size))
    have HG:Hid (Holds V2 (V.heap.size+1) 3 (nums .i64 [k])):=Lib.hid (by rw [←hz1,hV2];exact Holds.fresh _ _ _)
    have HO2:Hid (Own .i64 3 V2 W.heap.size A c ((usedK ns k).map Fin.val)):=Lib.hid (HOW.out.under_all HB2.out)
    have HML:Hid (((usedK ns k).map Fin.val).length=m):=Lib.hid (by rw [List.length_map];exact HM.out)
    have HQ2:Hid (Below W.heap.size W V2):=Lib.hid (HQ.out.trans (HB2.out.mono HQ.out.size))
    clear hu hb1 hb2 hh1 hV1 hV2
    go_wp2_with (first | (at_builtin;rw [←HV1.out,show (#[Value.int .i64 (k:Int)]:Array Value)=nums .i64 [k] from rfl,←HV2.out];refine wpList_push _ rfl (.tmp 21) (.tmp 23) 59 rfl .i64 W.heap.size 3 8 Tryz.underlying59 info_i64 A m c ((usedK ns k).map Fin.val) rfl HML.out HO2.out (V.heap.size+1) 1 1 [k] rfl rfl HG.out (by omega) (by omega) (by omega) HQ2.out.size ?_;intro g9 c9 W9 ho9 hg9 hat9) | fail)
    exact ⟨⟨k+1,m+1,_,c9,by omega,by go_num,rfl,by rw [HT2.out,List.length_append,HM.out];rfl,by rw [HT2.out,List.map_append];exact ho9,HQ2.out.trans (grown_belowF hg9 (fun g hg=>(HOW.out.block hg).1) HQ2.out.size)⟩,by simp [intOf];omega⟩
  case neg =>
   obtain rfl:k=40:=by omega
   have hkI:¬ (((40:Nat):Int)<40):=by omega
   have HSO:=Lib.hid (sort_own HQ.out HBW.out HFW.out HM.out HOW.out)
   go_wp2_with (first | (refine HSO.out.mono ?_;rintro e V5 ⟨rfl,ys,hsl,rfl,hso,hb5⟩) | fail)
   have HSL:=Lib.hid hsl
   have HSP:=Lib.hid hso
   have HB5:=Lib.hid hb5
   clear hsl hso hb5 HSO HOW HM HQ
   refine (wpIn_wide (n:=2)).1 ?_
   gi_loopw [31] (fun si wr=>RelY W gf gd bx ns A ys J si wr) (fun si _=>ys.length - (intOf si).toNat)
   case atStart=>exact ⟨0,by omega,rfl,HJ.out [] W V5 none H0.out ⟨HB5.out.os,HB5.out.tape,HB5.out.output,HB5.out.size,fun g hg _=>HB5.out.block g hg⟩ (fun r e=>by cases e),HSP.out,HBW.out.under HB5.out HBW.out.lt,HFW.out.hd.under HB5.out HFW.out.hd.lt⟩
   case round =>
    obtain ⟨k,hk,rfl,hj,hsp,hbx,hgf⟩:=hrel
    obtain ⟨V,hV⟩:∃ V,V=wr:=⟨_,rfl⟩
    subst hV
    by_cases hlt:k<ys.length
    case pos =>
     obtain ⟨g,rfl,hg0,hgi,hgc⟩:=hsp k hlt
     have HGI:=Lib.hid hgi
     have HSP2:=Lib.hid hsp
     have HBX:=Lib.hid hbx
     have HGF:=Lib.hid hgf
     have HG0:=Lib.hid hg0
     obtain ⟨i,hi⟩:∃ i,i=ys[k]:=⟨_,rfl⟩
     rw [←hi] at hgc
     have HPR:Hid (ys.take (k+1)=ys.take k ++ [i]):=Lib.hid (by rw [hi];exact take_snocJ (List.getElem?_eq_getElem hlt))
     have HKL:Hid ((ys.take k).length=k):=Lib.hid (by rw [List.length_take];omega)
     obtain ⟨iv,hiv⟩:=i
     obtain ⟨d,hd⟩:∃ d,d=ns.getD iv default:=⟨_,rfl⟩
     have HFV:Hid (V.rangeAt gf 1 (ncs ns)):=Lib.hid fun j v hv=>by
      rw [hgf.cell,List.getElem?_toArray,show 1+j=j+1 by omega,List.getElem?_cons_succ]
      exact hv
     have d0:V.cell? ⟨gf,1+iv*3,none⟩=some (.string d.name):=by
      have:=HFV.out (3*iv+0) _ (ncs_at (by rw [HFW.out.n40];exact hiv) (by omega))
      rw [show 1+(3*iv+0)=1+iv*3 by omega,←hd] at this
      exact this
     have d1:V.cell? ⟨gf,1+iv*3+1,none⟩=some (.int .i64 d.size):=by
      have:=HFV.out (3*iv+1) _ (ncs_at (by rw [HFW.out.n40];exact hiv) (by omega))
      rw [show 1+(3*iv+1)=1+iv*3+1 by omega,←hd] at this
      exact this
     have d2:V.cell? ⟨gf,1+iv*3+2,none⟩=some (.slice d.pa d.pl.length d.pc):=by
      have:=HFV.out (3*iv+2) _ (ncs_at (by rw [HFW.out.n40];exact hiv) (by omega))
      rw [show 1+(3*iv+2)=1+iv*3+2 by omega,←hd] at this
      exact this
     have hyy:=HY.out (ys.take k) ⟨iv,hiv⟩ V hj (by rw [HKL.out];have:=usedK_len ns 40;have:=HSL.out.perm.length_eq;omega)
     rw [show fsv ns ⟨iv,hiv⟩=#[.int .i64 (iv:Int),.agg #[.string d.name,.int .i64 d.size,.slice d.pa d.pl.length d.pc]] by unfold fsv ncell;rw [hd],←HPR.out] at hyy
     obtain ⟨s,z,pa,pc,pl⟩:=d
     dsimp only at d0 d1 d2 hyy
     obtain ⟨pn,hpn⟩:∃ n,pl.length=n:=⟨_,rfl⟩
     rw [hpn] at d2 hyy
     obtain ⟨fn,tmps,assign,bdy,hyr,hR⟩:=hyy
     have hiI:(iv:Int)<40:=by omega
     have hi0:(0:Int)≤(iv:Int):=by omega
     have hkI:(k:Int)<(ys.length:Int):=by omega
     have hk0:(0:Int)≤(k:Int):=by omega
     have hkw:IntKind.i64.wrap ((k:Int)+1)=(k:Int)+1:=IntWalk.i64_in _ (by have:=usedK_len ns 40;have:=HSL.out.perm.length_eq;omega)
     have z0:V.cell? ⟨bx,0,none⟩=some (.pointer (some ⟨gf,0,none⟩)):=hbx.cell 0
     have hgc2:V.cell? ⟨g,k,none⟩=some (.int .i64 (iv:Int)):=hgc
     clear hd hpn hj hsp hgc hbx hgf hgi
     clear hi
     have HR:=Lib.hid hR
     clear hR
     gi_wp2_with fail
     refine HR.out.mono ?_
     rintro e W2 (⟨rfl,hJ2,hkp⟩ | ⟨rfl,hx2⟩)
     ·have HJ2:=Lib.hid hJ2
      have HKP:=Lib.hid hkp
      clear hJ2 hkp HR
      gi_wp2
      go_roundw
      case rel=>exact ⟨k+1,by omega,by go_num,HJ2.out,fun j hjl=>by
        obtain ⟨g',e',h1,⟨cs,h2⟩,h3⟩:=HSP2.out j hjl
        have hh:=HKP.out.ints g' (Nat.le_trans HW.out.size h1) ⟨cs,h2⟩
        exact ⟨g',e',h1,⟨cs,hh.trans h2⟩,(cell_same hh _).trans h3⟩,HKP.out.box.trans HBX.out,HKP.out.fs.trans HGF.out⟩
      case measure=>simp [intOf];omega
     ·have HX2:=Lib.hid hx2
      clear hx2 HR
      gi_wp2
      exact bodyPost_ret (v:=.tuple #[]) (by simp [results,Tryz.results99,go_sem]) rfl ⟨⟨_,rfl⟩,.inr ⟨_,⟨ys,HSL.out,List.take_prefix _ _⟩,HX2.out⟩⟩
    case neg =>
     obtain rfl:k=ys.length:=by omega
     have hkI:¬ ((ys.length:Int)<(ys.length:Int)):=by omega
     have HJE:Hid (J ys V):=Lib.hid (by rw [List.take_length] at hj;exact hj)
     clear hj hsp hbx hgf
     gi_wp2
     go_end0
     exact ⟨⟨_,rfl⟩,.inl ⟨ys,HSL.out,HJE.out⟩⟩
end Go.Proofs.YtnedpkhehiijhaaGreat
namespace Go.Proofs.YtnedpkhehiijhaaGreat
open Go.RowKit
set_option linter.unusedVariables false

theorem ltS_tri {a b:ByteArray} (h:ltS a b=false) (h':ltS b a=false):a.toList=b.toList:=bl_tri _ _ h h'
theorem sorted_one {ns:List Nd} (hd:∀ i j:Fin 40,i∈usedK ns 40→j∈usedK ns 40→(nmS ns i.val).toList=(nmS ns j.val).toList→i=j) :
  ∀ {ys zs:List (Fin 40)},(∀ i∈ys,i∈usedK ns 40)→ys.Perm zs→ys.Pairwise (fun i j=>ltS (nmS ns j.val) (nmS ns i.val)=false)→zs.Pairwise (fun i j=>ltS (nmS ns j.val) (nmS ns i.val)=false)→ys=zs
 | [],zs,_,hp,_,_=>by rw [List.nil_perm.1 hp]
 | y :: ys,[],_,hp,_,_=>by have:=hp.length_eq;simp at this
 | y :: ys,z :: zs,hm,hp,hy,hz=>by
  have hyz:y∈z :: zs:=hp.mem_iff.1 (List.mem_cons_self ..)
  have hzy:z∈y :: ys:=hp.mem_iff.2 (List.mem_cons_self ..)
  have h1:ltS (nmS ns y.val) (nmS ns z.val)=false:=by
   rcases List.mem_cons.1 hyz with rfl | h
   ·exact ltS_irrefl _
   ·exact List.rel_of_pairwise_cons hz h
  have h2:ltS (nmS ns z.val) (nmS ns y.val)=false:=by
   rcases List.mem_cons.1 hzy with rfl | h
   ·exact ltS_irrefl _
   ·exact List.rel_of_pairwise_cons hy h
  have e:y=z:=hd y z (hm y (List.mem_cons_self ..)) (hm z hzy) (ltS_tri h1 h2)
  subst e
  rw [sorted_one hd (fun i hi=>hm i (List.mem_cons_of_mem _ hi)) (List.perm_cons y |>.1 hp) (List.Pairwise.of_cons hy) (List.Pairwise.of_cons hz)]
theorem Slots.one {ns:List Nd} (hd:∀ i j:Fin 40,i∈usedK ns 40→j∈usedK ns 40→(nmS ns i.val).toList=(nmS ns j.val).toList→i=j) {ys zs:List (Fin 40)} (h:Slots ns ys) (h':Slots ns zs):ys=zs :=
 sorted_one hd (fun i hi=>h.perm.mem_iff.1 hi) (h.perm.trans h'.perm.symm) h.up h'.up
theorem usedK_mem {ns:List Nd} {i:Fin 40}:i∈usedK ns 40↔usedB (ns.getD i.val default)=true:=by
 unfold usedK
 rw [List.mem_filter]
 simp [List.take_of_length_le]
theorem bytes_inj {a b:ByteArray} (h:a.toList=b.toList):a=b:=by
 rw [ByteArray.toList_eq,ByteArray.toList_eq] at h
 obtain ⟨⟨x⟩⟩:=a
 obtain ⟨⟨y⟩⟩:=b
 dsimp only at h
 rw [h]
theorem Mounts.apart {s:Dk} {ns:List Nd} (h:Mounts s ns) (i j:Fin 40) (hi:i∈usedK ns 40) (hj:j∈usedK ns 40) (e:(nmS ns i.val).toList=(nmS ns j.val).toList):i=j:=by
 have hp:(heldN ns).Pairwise fun a b=>a.name≠b.name:=by
  rw [List.pairwise_iff_getElem]
  intro a b ha hb hab
  have:=h.room.all.names b a hab hb
  simpa [List.getD,ha,hb] using this
 unfold heldN at hp
 rw [List.pairwise_filter,List.pairwise_iff_getElem] at hp
 have hl:=h.n40
 have at_:∀ k:Fin 40,ns.getD k.val default=ns[k.val]'(by omega):=fun k=>by simp [List.getD,hl]
 have key:∀ a b:Fin 40,a∈usedK ns 40→b∈usedK ns 40→(nmS ns a.val).toList=(nmS ns b.val).toList→¬ a.val<b.val:=fun a b ha hb he hab=>by
  have ha':=usedK_mem.1 ha
  have hb':=usedK_mem.1 hb
  rw [at_] at ha' hb'
  refine hp a.val b.val (by omega) (by omega) hab ha' hb' ?_
  have:=bytes_inj he
  unfold nmS at this
  rw [at_,at_] at this
  exact this
 have h1:=key i j hi hj e
 have h2:=key j i hj hi e.symm
 exact Fin.ext (by omega)
theorem Mounts.slots {s:Dk} {ns:List Nd} (h:Mounts s ns) {ys zs:List (Fin 40)} (hy:Slots ns ys) (hz:Slots ns zs):ys=zs:=hy.one (fun i j hi hj e=>h.apart i j hi hj e) hz
end Go.Proofs.YtnedpkhehiijhaaGreat
namespace Go.Proofs.YtnedpkhehiijhaaGreat
open Go.RowKit
set_option linter.unusedVariables false
set_option linter.unusedSimpArgs false
attribute [local go_sem ↓] Go.wp_at_zero Go.wp_at_succ

section
variable {w:World} {gp:Nat} {ns:List Nd} {us:List Bool} {fA:Option Addr} {fn fc:Nat} {wA:Option Addr} {wn wc:Nat}
set_option maxRecDepth 100000 in
set_option maxHeartbeats 8000000 in
theorem planWrite_nil (h:PlanAt w gp ns us fA fn fc wA wn wc) (l:List Wr) (hl:l.length=wn) (ho:OwnV 132 2 w wA wc wn (l.flatMap wrCells)) (hne:blockOf wA≠some gp) (hwn:wn≤8000) (at_:Int) :
  Calls Tryz.prog 87 #[.pointer (some ⟨gp,0,none⟩),.int .i64 at_,.slice none 0 0] w (WrP w gp ns us fA fn fc wA wn l at_ []):=by
 obtain ⟨R,hR⟩:∃ R,R=List.replicate 64 0:=⟨_,rfl⟩
 have hmk:=make_bytes 64 64 rfl (by omega) w
 rw [←hR] at hmk
 obtain ⟨W1,hW1⟩:∃ W1,W1=w.alloc (.cells (nums .u8 R) 5):=⟨_,rfl⟩
 rw [←hW1] at hmk
 have hb1:Below w.heap.size w W1:=by rw [hW1];exact (Below.refl _ _).alloc (Nat.le_refl _) _
 have hz1:W1.heap.size=w.heap.size+1:=by rw [hW1];simp
 have hg1:W1.heap[w.heap.size]?=some (.cells (nums .u8 R) 5 (0,0)):=by rw [hW1];exact Holds.fresh w 5 (nums .u8 R)
 have hRl:R.length=64:=by rw [hR,List.length_replicate]
 obtain ⟨W2,hW2⟩:∃ W2,W2=W1:=⟨_,rfl⟩
 have HW2:=Lib.hid hW2
 have hb2:Below w.heap.size w W2:=by rw [hW2];exact hb1
 have hz2:W2.heap.size=w.heap.size+1:=by rw [hW2,hz1]
 have HROW:Hid (Row .u8 5 W2 w.heap.size (secOf [])):=Lib.hid (by
  rw [hW2,secOf_nil]
  unfold Row Holds
  rw [hg1,hR]
  rfl)
 have HP2:Hid (PlanAt W2 gp ns us fA fn fc wA wn wc):=Lib.hid (h.under hb2)
 have HO2:Hid (OwnV 132 2 W2 wA wc wn (l.flatMap wrCells)):=Lib.hid (ho.keep fun g _ hg=>hb2.block g hg)
 have hplt:=h.hd.lt
 obtain ⟨V,hV⟩:∃ V,V=W2.alloc (.cells #[.int .i64 at_,.slice (some ⟨w.heap.size,0,none⟩) 64 64] 132):=⟨_,rfl⟩
 have HV:=Lib.hid hV
 have hb3:Below W2.heap.size W2 V:=by rw [hV];exact (Below.refl _ _).alloc (Nat.le_refl _) _
 have HB3:Hid (Below W2.heap.size W2 V):=Lib.hid hb3
 have HPV:Hid (PlanAt V gp ns us fA fn fc wA wn wc):=Lib.hid (HP2.out.under hb3)
 have HOV:Hid (OwnV 132 2 V wA wc wn (l.flatMap wrCells)):=Lib.hid (HO2.out.keep fun g _ hg=>hb3.block g hg)
 have HFX:Hid (Holds V (w.heap.size+1) 132 (wrCells ⟨at_,some ⟨w.heap.size,0,none⟩,64,secOf []⟩).toArray):=Lib.hid (by
  rw [←hz2,hV]
  unfold wrCells
  dsimp only
  rw [secOf_length]
  exact Holds.fresh _ _ _)
 have HWC:Hid (∀ u∈wrCells ⟨at_,some ⟨w.heap.size,0,none⟩,64,secOf []⟩,u.oneCell'=true):=Lib.hid (by intro u hu;simp [wrCells] at hu;rcases hu with rfl | rfl <;> rfl)
 have HG1:=Lib.hid hg1
 have HRL:=Lib.hid hRl
 have HB2:=Lib.hid hb2
 have HW1:=Lib.hid hW1
 have HHO:=Lib.hid ho
 have HSZ8:Hid ((Tryz.prog.info? 5).map (·.size)=some 1):=Lib.hid (by kernel_rfl)
 have k1:=HP2.out.writes
 have hfz:=HP2.out.hd.open_
 have hcp:=run_copy_nil (P:=Tryz.prog) W1 44 44 3 5 ⟨w.heap.size,0,none⟩ 64 64 Tryz.underlying44 (by rw [HSZ8.out];rfl)
 rw [←hW2] at hcp hmk
 clear ho h hg1 hRl hb2 hW1 hV hb3 hR hz1 hb1
 clear hW2 HW1 HW2
 go_enter Tryz.func87,Tryz.ntmps87
 go_wp2_with (first | (at_builtin;rw [←HV.out];refine wpList_pushV _ rfl (.tmp 15) (.tmp 19) 97 rfl 132 (.agg #[.int .i64 0,.slice none 0 0]) 2 32 Tryz.underlying97 info_writeF rfl (by omega) (by omega) rfl HOV.out (cs:=wrCells ⟨at_,some ⟨w.heap.size,0,none⟩,64,secOf []⟩) rfl rfl HWC.out HFX.out (by omega) ?_;intro g9 c9 W9 ho9 hg9 hat9 hlt9;have hp9:PlanAt W9 gp ns us fA fn fc wA wn wc:=⟨HPV.out.n40,HPV.out.u40,HPV.out.hd.grown hg9 (Ne.symm hne)⟩;have k9:=hp9.writes;have f9:=hp9.hd.open_) | fail)
 go_end0
 have hsv:=HB3.out.size
 have hgw:∀ g,blockOf wA=some g→g<w.heap.size:=fun g hg=>(HHO.out.lt hg)
 have h9:blockOf wA=some g9∨w.heap.size+2≤g9:=by
  rcases hat9 with e | e
  ·exact .inl e
  ·rw [e,HV.out];right;simp;omega
 have hg9p:g9≠gp:=by
  rintro rfl
  rcases h9 with e | e
  ·exact hne e
  ·omega
 have hg9g:g9≠w.heap.size:=by
  rintro rfl
  rcases h9 with e | e
  ·have:=hgw _ e;omega
  ·omega
 refine ⟨rfl,g9,c9,w.heap.size,hp9.wrote _ _ _,Nat.le_refl _,?_,?_,h9.imp id (fun e=>by omega),hg9g,hg9p,?_⟩
 ·have h1:Row .u8 5 V w.heap.size (secOf []):=Holds.under HROW.out HB3.out (by rw [hz2];omega)
  have h2:Row .u8 5 W9 w.heap.size (secOf []):=Holds.grown h1 hg9 (fun e=>by have:=hgw _ e.symm;omega)
  exact Holds.aside h2 (by show w.heap.size≠gp;omega) _
 ·rw [List.flatMap_append]
  have:OwnV 132 2 W9 (some ⟨g9,0,none⟩) c9 (wn+1) (l.flatMap wrCells ++ [(⟨at_,some ⟨w.heap.size,0,none⟩,64,secOf []⟩:Wr)].flatMap wrCells):=by simpa using ho9
  exact this.keep fun g hgq hg=>by
   obtain rfl:g9=g:=by simpa [blockOf] using hgq
   exact Below.heap_setCell _ ⟨gp,161,none⟩ _ _ hg9p
 ·have hbV:Below w.heap.size w V:=HB2.out.trans (HB3.out.mono HB2.out.size)
  refine Only.setCell ⟨hg9.os.trans hbV.os,hg9.tape.trans hbV.tape,hg9.output.trans hbV.output,Nat.le_trans hbV.size hg9.size,fun k hk hF=>?_⟩ (.inl (.inl rfl)) _
  rw [hg9.block k (Nat.lt_of_lt_of_le hk hbV.size) (fun e=>hF (.inr e.symm)),hbV.block k hk]
end
end Go.Proofs.YtnedpkhehiijhaaGreat
namespace Go.Proofs.YtnedpkhehiijhaaGreat
open Go.RowKit
set_option linter.unusedVariables false
set_option linter.unusedSimpArgs false

section
variable {w:World} {gp:Nat} {ns:List Nd} {us:List Bool} {fA:Option Addr} {fn fc:Nat} {wA:Option Addr} {wn wc:Nat}
theorem PlanAt.freed (h:PlanAt w gp ns us fA fn fc wA wn wc) (A:Option Addr) (n c:Nat):PlanAt (w.setCell ⟨gp,160,none⟩ (.slice A n c)) gp ns us A n c wA wn wc:=by
 refine ⟨h.n40,h.u40,?_⟩
 have:=h.hd.stored 160 (.slice A n c)
 rw [show (pcs ns us fA fn fc wA wn wc).toArray.setIfInBounds 160 (.slice A n c)=(pcs ns us A n c wA wn wc).toArray by
  unfold pcs
  rw [List.setIfInBounds_toArray,List.set_append_right _ _ (by rw [h.ncsl];omega),h.ncsl,List.set_append_right _ _ (by rw [h.bcsl];omega),h.bcsl]
  rfl] at this
 exact this
theorem PlanAt.put (h:PlanAt w gp ns us fA fn fc wA wn wc) (i:Nat) (hi:i<40) (d:Nd):PlanAt (w.setCells gp (i*3) (ncell d)) gp (ns.set i d) us fA fn fc wA wn wc:=by
 refine ⟨by rw [List.length_set];exact h.n40,h.u40,?_⟩
 have hs:=((h.hd.stored (3*i) (.string d.name)).stored (3*i+1) (.int .i64 d.size)).stored (3*i+2) (.slice d.pa d.pl.length d.pc)
 have hl:=h.ncsl
 rw [show (((pcs ns us fA fn fc wA wn wc).toArray.setIfInBounds (3*i) (.string d.name)).setIfInBounds (3*i+1) (.int .i64 d.size)).setIfInBounds (3*i+2) (.slice d.pa d.pl.length d.pc)=(pcs (ns.set i d) us fA fn fc wA wn wc).toArray by
  unfold pcs
  rw [List.setIfInBounds_toArray,List.setIfInBounds_toArray,List.setIfInBounds_toArray,List.set_append_left _ _ (by omega),List.set_append_left _ _ (by rw [List.length_set];omega),List.set_append_left _ _ (by rw [List.length_set,List.length_set];omega),ncs_set _ _ _ (by rw [h.n40];exact hi)]] at hs
 rw [show i*3=3*i by omega]
 exact hs
end
end Go.Proofs.YtnedpkhehiijhaaGreat
namespace Go.Proofs.YtnedpkhehiijhaaGreat
open Go.RowKit
set_option linter.unusedVariables false

abbrev V3:=ByteArray×Int×List Int
def zV:V3:=(⟨#[]⟩,0,[])
def usedV (v:V3):Bool:=!(v.1.toList == (⟨#[]⟩:ByteArray).toList)
theorem usedV_iff {v:V3}:usedV v=true↔v.1≠⟨#[]⟩:=by
 unfold usedV
 rw [Bool.not_eq_true',beq_eq_false_iff_ne]
 constructor
 ·intro h e
  exact h (by rw [e])
 ·intro h e
  exact h (bytes_inj e)
def updV (f:Nat→V3) (i:Nat) (v:V3):Nat→V3:=fun k=>if k=i then v else f k
theorem updV_same (f:Nat→V3) (i:Nat) (v:V3):updV f i v i=v:=by simp [updV]
theorem updV_ne (f:Nat→V3) {i k:Nat} (v:V3) (h:k≠i):updV f i v k=f k:=by simp [updV,h]
/-- What is asked of a file. -/
structure OpV where
 drop:Bool
 name:ByteArray
 data:List Nat
abbrev FateF:=ByteArray→Option (Option (List Nat))
def setF (fs:FateF) (s:ByteArray) (x:Option (List Nat)):FateF:=fun t=>if t=s then some x else fs t
open Classical in
/-- What becomes of each file; or an error. -/
noncomputable def fateS (has:ByteArray→Bool):List OpV→FateF→Nat ⊕ FateF
 | [],fs=>.inr fs
 | o :: l,fs =>
  if o.drop=true then (if (match fs o.name with | some none=>True | some (some _)=>False | none=>has o.name=false) then .inl 7 else fateS has l (setF fs o.name none))
  else if NameOk o.name∧o.data.length≤600 then fateS has l (setF fs o.name (some o.data)) else .inl 1
def slotO (nv:Nat→V3) (s:ByteArray):Option Nat:=(List.range 40).find? fun i=>usedV (nv i) && decide ((nv i).1=s)
theorem slotO_some {nv:Nat→V3} {s:ByteArray} {i:Nat} (h:slotO nv s=some i):i<40∧usedV (nv i)=true∧(nv i).1=s:=by
 unfold slotO at h
 have h1:=List.mem_of_find?_eq_some h
 have h2:=List.find?_some h
 rw [Bool.and_eq_true,decide_eq_true_eq] at h2
 exact ⟨List.mem_range.1 h1,h2⟩
theorem slotO_none {nv:Nat→V3} {s:ByteArray} (h:slotO nv s=none) {i:Nat} (hi:i<40) (hu:usedV (nv i)=true):(nv i).1≠s:=by
 unfold slotO at h
 rw [List.find?_eq_none] at h
 have:=h i (List.mem_range.2 hi)
 intro e
 apply this
 rw [Bool.and_eq_true,decide_eq_true_eq]
 exact ⟨hu,e⟩
structure Pln where
 nv:Nat→V3
 us:List Bool
 fr:List Nat
 ws:List (Int×List Nat)
def needN (d:List Nat):Nat:=(d.length+63) / 64
def partK (d:List Nat) (k:Nat):List Nat:=secOf ((d.drop (64*k)).take 64)
def putWs (fr:List Nat) (d:List Nat) (n:Nat):List (Int×List Nat):=(List.range n).map fun k=>((fr.getD k 0:Int),partK d k)
def placesI (fr:List Nat) (n:Nat):List Int:=(fr.take n).map fun x:Nat=>(x:Int)
def Pln.into (p:Pln) (i:Nat) (us:List Bool) (s:ByteArray) (d:List Nat):Pln :=
 {nv:=updV p.nv i (s,(d.length:Int),placesI p.fr (needN d)),us:=us,fr:=p.fr.drop (needN d),ws:=p.ws ++ putWs p.fr d (needN d) ++ [((i:Int),enc s d.length (p.fr.take (needN d)))] }
def Pln.put (p:Pln) (slot:Option Nat) (s:ByteArray) (d:List Nat):Option Pln :=
 match slot with
 | some i=>some (p.into i p.us s d)
 | none=>match firstU p.us 0 with
  | none=>none
  | some i=>some (p.into i (p.us.set i true) s d)
def Pln.free (p:Pln) (i:Nat):Pln:={ p with nv:=updV p.nv i zV,ws:=p.ws ++ [((i:Int),zsec)] }
def putAll (ov:Nat→V3) (fs:FateF):List ByteArray→Pln→Option Pln
 | [],p=>some p
 | s :: l,p=>match fs s with
  | some (some d)=>(match p.put (slotO ov s) s d with | none=>none | some q=>putAll ov fs l q)
  | _=>putAll ov fs l p
def dropAll (ov:Nat→V3) (fs:FateF):List ByteArray→Pln→Pln
 | [],p=>p
 | s :: l,p=>match fs s,slotO ov s with
  | some none,some i=>dropAll ov fs l (p.free i)
  | _,_=>dropAll ov fs l p
def wantF (fs:FateF) (s:ByteArray):Nat:=match fs s with | some (some d)=>needN d | _=>0
def wantL (fs:FateF) (l:List ByteArray):Nat:=(l.map (wantF fs)).sum
/-- The slots, apart from each other. -/
structure NvOk (nv:Nat→V3) (m:Nat):Prop where
 node:∀ i,i<40→usedV (nv i)=true→NodeOk (nv i).1 (nv i).2.1 (nv i).2.2
 rng:∀ i,i<40→usedV (nv i)=true→∀ x∈(nv i).2.2,40≤x∧x<(m:Int)
 name:∀ i j,i<40→j<40→i≠j→usedV (nv i)=true→usedV (nv j)=true→(nv i).1≠(nv j).1
 plc:∀ i j,i<40→j<40→i≠j→usedV (nv i)=true→usedV (nv j)=true→∀ x∈(nv i).2.2,x ∉ (nv j).2.2
 none:∀ i,i<40→usedV (nv i)=false→nv i=zV
theorem slotO_is {nv:Nat→V3} {m:Nat} (h:NvOk nv m) {i:Nat} (hi:i<40) (hu:usedV (nv i)=true):slotO nv (nv i).1=some i:=by
 cases hs:slotO nv (nv i).1 with
 | none=>exact absurd rfl (slotO_none hs hi hu)
 | some j =>
  obtain ⟨a,b,c⟩:=slotO_some hs
  by_cases e:j=i
  ·rw [e]
  ·exact absurd c (h.name j i a hi e b hu)
def nvOf (ns:List Nd):Nat→V3:=fun i=>(ns.getD i default).v
theorem used_nv (ns:List Nd) (i:Nat):usedV (nvOf ns i)=usedB (ns.getD i default):=rfl
theorem zV_not:usedV zV=false:=by decide +kernel
/-! The slots, and the nodes that are held. -/
theorem held_pair {ns:List Nd} (R:Nd→Nd→Prop):(heldN ns).Pairwise R↔∀ i j (hi:i<ns.length) (hj:j<ns.length),i<j→usedB ns[i]=true→usedB ns[j]=true→R ns[i] ns[j]:=by
 unfold heldN
 rw [List.pairwise_filter,List.pairwise_iff_getElem]
theorem hasL_of {l:List Nd} {x:Int} {k:Nat} (h:hasL l x k):∃ j,∃ hj:j<l.length,j<k∧x∈l[j].pl:=by
 obtain ⟨j,i,h1,h2,h3,h4⟩:=h
 refine ⟨j,h2,h1,?_⟩
 have e:l.getD j default=l[j]:=by simp [List.getD,h2]
 rw [e] at h3 h4
 rw [←h4]
 simp only [List.getD,List.getElem?_eq_getElem h3,Option.getD_some]
 exact List.getElem_mem h3
theorem hasL_to {l:List Nd} {x:Int} {j k:Nat} (hj:j<l.length) (hk:j<k) (h:x∈l[j].pl):hasL l x k:=by
 obtain ⟨i,hi,e⟩:=List.getElem_of_mem h
 have e2:l.getD j default=l[j]:=by simp [List.getD,hj]
 exact ⟨j,i,hk,hj,by rw [e2];exact hi,by rw [e2];simp [List.getD,hi,e]⟩
theorem NvOk.roomOk {ns:List Nd} {m:Nat} (h:NvOk (nvOf ns) m) (hn:ns.length=40) (hm:m≤2000):RoomOk (heldN ns) (m:Int):=by
 have at_:∀ i (hi:i<ns.length),nvOf ns i=ns[i].v:=fun i hi=>by unfold nvOf;simp [List.getD,hi]
 have us_:∀ i (hi:i<ns.length),usedV (nvOf ns i)=usedB ns[i]:=fun i hi=>by rw [at_ i hi];rfl
 have hp:(heldN ns).Pairwise fun a b=>a.name≠b.name∧∀ x∈a.pl,x ∉ b.pl:=by
  rw [held_pair]
  intro i j hi hj hij ui uj
  have a:=h.name i j (by omega) (by omega) (by omega) (by rw [us_ i hi];exact ui) (by rw [us_ j hj];exact uj)
  have b:=h.plc i j (by omega) (by omega) (by omega) (by rw [us_ i hi];exact ui) (by rw [us_ j hj];exact uj)
  rw [at_ i hi,at_ j hj] at a b
  exact ⟨a,b⟩
 have hone:∀ d∈heldN ns,NodeOk d.name d.size d.pl∧∀ x∈d.pl,40≤x∧x<(m:Int):=fun d hd=>by
  unfold heldN at hd
  obtain ⟨h1,h2⟩:=List.mem_filter.1 hd
  obtain ⟨i,hi,rfl⟩:=List.getElem_of_mem h1
  have a:=h.node i (by omega) (by rw [us_ i hi];exact h2)
  have b:=h.rng i (by omega) (by rw [us_ i hi];exact h2)
  rw [at_ i hi] at a b
  exact ⟨a,b⟩
 have gd:∀ j (hj:j<(heldN ns).length),(heldN ns).getD j default=(heldN ns)[j]:=fun j hj=>by simp [List.getD,hj]
 refine ⟨?_,by omega,by omega,⟨fun j hj=>?_,fun j i hj hi=>?_,fun j i hij hj=>?_⟩⟩
 ·unfold heldN;exact Nat.le_trans (List.length_filter_le _ _) (by omega)
 ·rw [gd j hj];exact (hone _ (List.getElem_mem hj)).1
 ·rw [gd j hj] at hi ⊢
  have e:(heldN ns)[j].pl.getD i 0=(heldN ns)[j].pl[i]:=by simp [List.getD,hi]
  rw [e]
  have hm:=List.getElem_mem hi
  obtain ⟨a,b⟩:=(hone _ (List.getElem_mem hj)).2 _ hm
  refine ⟨a,b,fun hh=>?_⟩
  obtain ⟨k,hk,hkj,hx⟩:=hasL_of hh
  exact (List.pairwise_iff_getElem.1 hp k j hk hj hkj).2 _ hx hm
 ·rw [gd j hj,gd i (by omega)]
  exact (List.pairwise_iff_getElem.1 hp i j (by omega) hj hij).1
theorem Mounts.nvOk {s:Dk} {ns:List Nd} (h:Mounts s ns):NvOk (nvOf ns) s.many:=by
 have hl:=h.n40
 have at_:∀ i (hi:i<ns.length),nvOf ns i=ns[i].v:=fun i hi=>by unfold nvOf;simp [List.getD,hi]
 have us_:∀ i (hi:i<ns.length),usedV (nvOf ns i)=usedB ns[i]:=fun i hi=>by rw [at_ i hi];rfl
 have gd:∀ j (hj:j<(heldN ns).length),(heldN ns).getD j default=(heldN ns)[j]:=fun j hj=>by simp [List.getD,hj]
 have hp:(heldN ns).Pairwise fun a b=>a.name≠b.name∧∀ x∈a.pl,x ∉ b.pl:=by
  rw [List.pairwise_iff_getElem]
  intro i j hi hj hij
  have a:=h.room.all.names j i hij hj
  rw [gd i hi,gd j hj] at a
  refine ⟨a,fun x hx hx2=>?_⟩
  obtain ⟨k,hk,e⟩:=List.getElem_of_mem hx2
  have b:=(h.room.all.rng j k hj (by rw [gd j hj];exact hk)).2.2
  have e2:((heldN ns).getD j default).pl.getD k 0=x:=by rw [gd j hj,←e];simp [List.getD,hk]
  rw [e2] at b
  exact b (hasL_to hi hij hx)
 rw [held_pair] at hp
 have hone:∀ d∈heldN ns,NodeOk d.name d.size d.pl∧∀ x∈d.pl,40≤x∧x<(s.many:Int):=fun d hd=>by
  obtain ⟨j,hj,rfl⟩:=List.getElem_of_mem hd
  have a:=h.room.all.node j hj
  rw [gd j hj] at a
  refine ⟨a,fun x hx=>?_⟩
  obtain ⟨k,hk,e⟩:=List.getElem_of_mem hx
  have b:=h.room.all.rng j k hj (by rw [gd j hj];exact hk)
  have e2:((heldN ns).getD j default).pl.getD k 0=x:=by rw [gd j hj,←e];simp [List.getD,hk]
  rw [e2] at b
  exact ⟨b.1,b.2.1⟩
 have mem:∀ i (hi:i<ns.length),usedB ns[i]=true→ns[i]∈heldN ns:=fun i hi hu=>by
  unfold heldN
  exact List.mem_filter.2 ⟨List.getElem_mem hi,hu⟩
 refine ⟨fun i hi hu=>?_,fun i hi hu=>?_,fun i j hi hj hij hu hv=>?_,fun i j hi hj hij hu hv=>?_,fun i hi hu=>?_⟩
 ·rw [us_ i (by omega)] at hu
  rw [at_ i (by omega)]
  exact (hone _ (mem i (by omega) hu)).1
 ·rw [us_ i (by omega)] at hu
  rw [at_ i (by omega)]
  exact (hone _ (mem i (by omega) hu)).2
 ·rw [us_ i (by omega)] at hu
  rw [us_ j (by omega)] at hv
  rw [at_ i (by omega),at_ j (by omega)]
  rcases Nat.lt_or_gt_of_ne hij with h1 | h1
  ·exact (hp i j (by omega) (by omega) h1 hu hv).1
  ·exact Ne.symm (hp j i (by omega) (by omega) h1 hv hu).1
 ·rw [us_ i (by omega)] at hu
  rw [us_ j (by omega)] at hv
  rw [at_ i (by omega),at_ j (by omega)]
  rcases Nat.lt_or_gt_of_ne hij with h1 | h1
  ·exact (hp i j (by omega) (by omega) h1 hu hv).2
  ·exact fun x hx hx2=>(hp j i (by omega) (by omega) h1 hv hu).2 x hx2 hx
 ·obtain ⟨z,p,f,hr,e1,e2⟩:=h.rd i hi
  have hn:(ns.getD i default).name=⟨#[]⟩:=Classical.byContradiction fun hn=>by
   have:=(usedV_iff (v:=nvOf ns i)).2 hn
   rw [hu] at this
   cases this
  cases hr with
  | free a1 a2 a3 a4 =>
   show ((ns.getD i default).name,(ns.getD i default).size,(ns.getD i default).pl)=zV
   rw [a1,e1,e2,a2,a3]
   rfl
  | node hi2 =>
   have:=hi2.ok.name.low
   rw [hn] at this
   exact absurd this (by decide)
end Go.Proofs.YtnedpkhehiijhaaGreat
namespace Go.Proofs.YtnedpkhehiijhaaGreat
open Go.RowKit
set_option linter.unusedVariables false

theorem name_used {s:ByteArray} {z:Int} {l:List Int} (h:NameOk s):usedV (s,z,l)=true:=usedV_iff.2 fun e=>by
 have h1:=h.low
 change s=_ at e
 rw [e] at h1
 exact absurd h1 (by decide)
theorem needN_I (d:List Nat):(needN d:Int)=needI (d.length:Int):=by
 unfold needN needI
 split <;> omega
theorem placesI_len {fr:List Nat} {n:Nat} (h:n≤fr.length):(placesI fr n).length=n:=by
 unfold placesI
 rw [List.length_map,List.length_take]
 omega
theorem placesI_mem {fr:List Nat} {n:Nat} {x:Int} (h:x∈placesI fr n):∃ y:Nat,y∈fr.take n∧x=(y:Int):=by
 unfold placesI at h
 obtain ⟨y,h1,h2⟩:=List.mem_map.1 h
 exact ⟨y,h1,h2.symm⟩
theorem take_drop_ne {fr:List Nat} (h:fr.Nodup) {n x y:Nat} (hx:x∈fr.take n) (hy:y∈fr.drop n):x≠y:=by
 rw [←List.take_append_drop n fr,List.nodup_append] at h
 exact h.2.2 x hx y hy
theorem putWs_mem {fr:List Nat} {d:List Nat} {n:Nat} (hn:n≤fr.length) {q:Int×List Nat} (h:q∈putWs fr d n):∃ y:Nat,y∈fr.take n∧q.1=(y:Int)∧q.2.length=64:=by
 unfold putWs at h
 obtain ⟨k,hk,rfl⟩:=List.mem_map.1 h
 have hk:=List.mem_range.1 hk
 refine ⟨fr.getD k 0,?_,rfl,secOf_length _⟩
 have e:fr.getD k 0=(fr.take n)[k]'(by rw [List.length_take];omega):=by simp [List.getD,show k<fr.length by omega]
 rw [e]
 exact List.getElem_mem _
theorem putWs_addr {fr:List Nat} {d:List Nat} {n:Nat} (hn:n≤fr.length):(putWs fr d n).map (·.1)=placesI fr n:=by
 apply List.ext_getElem
 ·rw [placesI_len hn];simp [putWs]
 ·intro k h1 h2
  have hk:k<n:=by simpa [putWs] using h1
  simp [putWs,placesI,List.getD,show k<fr.length by omega]
theorem placesI_nodup {fr:List Nat} (h:fr.Nodup) (n:Nat):(placesI fr n).Nodup:=by
 unfold placesI
 have h1:(fr.take n).Nodup:=List.Nodup.sublist (List.take_sublist n fr) h
 unfold List.Nodup at h1 ⊢
 rw [List.pairwise_map]
 exact h1.imp fun hne he=>hne (by omega)
/-- A file has been put: into slot i. -/
def PutAt (p:Pln) (i:Nat) (s:ByteArray) (d:List Nat):Prop :=
 ∃ pl:List Nat,p.nv i=(s,(d.length:Int),pl.map fun x:Nat=>(x:Int))∧pl.length=needN d∧(∀ x∈pl,x≤65535)∧((i:Int),enc s d.length pl)∈p.ws∧∀ k,k<needN d→((pl.getD k 0:Int),partK d k)∈p.ws
/-- How a plan stands when the names K have been put. -/
structure PInv (ov:Nat→V3) (m:Nat) (fs:FateF) (K:List ByteArray) (p:Pln):Prop where
 u40:p.us.length=40
 us:∀ i,i<40→p.us.getD i false=usedV (p.nv i)
 nok:NvOk p.nv m
 frr:∀ x∈p.fr,40≤x∧x<m
 frn:p.fr.Nodup
 fro:∀ x∈p.fr,∀ i,i<40→(x:Int) ∉ (ov i).2.2∧(x:Int) ∉ (p.nv i).2.2
 keep:∀ i,i<40→usedV (ov i)=true→(p.nv i).1=(ov i).1
 new:∀ i,i<40→usedV (ov i)=false→usedV (p.nv i)=true→(p.nv i).1∈K
 old:∀ i,i<40→(p.nv i).1 ∉ K→p.nv i=ov i
 put:∀ s∈K,NameOk s∧∃ d i,fs s=some (some d)∧i<40∧PutAt p i s d
 wr:∀ q∈p.ws,0≤q.1∧q.1<(m:Int)∧q.2.length=64
 wd:(p.ws.map (·.1)).Nodup
 whi:∀ q∈p.ws,40≤q.1→(∀ x∈p.fr,(x:Int)≠q.1)∧∀ i,i<40→q.1 ∉ (ov i).2.2
 wlo:∀ q∈p.ws,q.1<40→(p.nv q.1.toNat).1∈K∧usedV (p.nv q.1.toNat)=true
section
variable {ov:Nat→V3} {m:Nat} {fs:FateF} {K:List ByteArray} {p:Pln}
theorem PInv.into (h:PInv ov m fs K p) (hm:m≤2000) (hm2:40≤m) {i:Nat} (hi:i<40) {us:List Bool} {s:ByteArray} {d:List Nat} (hs:NameOk s) (hd:d.length≤600) (hK:s ∉ K) (hfr:needN d≤p.fr.length) (hf:fs s=some (some d))
  (hc:(usedV (ov i)=true∧(ov i).1=s∧us=p.us)∨(usedV (p.nv i)=false∧us=p.us.set i true∧∀ j,j<40→usedV (p.nv j)=true→(p.nv j).1≠s)):PInv ov m fs (s :: K) (p.into i us s d):=by
 have hne:∀ j,j<40→j≠i→usedV (p.nv j)=true→(p.nv j).1≠s:=fun j hj hji hu=>by
  rcases hc with ⟨h1,h2,_⟩ | ⟨h1,_,h3⟩
  ·have e:=h.keep i hi h1
   have ui:usedV (p.nv i)=true:=by rw [usedV_iff] at h1 ⊢;rw [e];exact h1
   rw [←h2,←e]
   exact h.nok.name j i hj hi hji hu ui
  ·exact h3 j hj hu
 have hoi:∀ q∈p.ws,q.1≠(i:Int):=fun q hq e=>by
  obtain ⟨a,b⟩:=h.wlo q hq (by omega)
  rw [e,Int.toNat_natCast] at a b
  rcases hc with ⟨h1,h2,_⟩ | ⟨h1,_,_⟩
  ·rw [h.keep i hi h1,h2] at a
   exact hK a
  ·rw [h1] at b
   cases b
 have hni:∀ s',s'∈K→(p.nv i).1≠s':=fun s' hs' e=>by
  rcases hc with ⟨h1,h2,_⟩ | ⟨h1,_,_⟩
  ·rw [h.keep i hi h1,h2] at e
   exact hK (e ▸ hs')
  ·have:=name_used (z:=(p.nv i).2.1) (l:=(p.nv i).2.2) (h.put s' hs').1
   rw [←e] at this
   rw [show ((p.nv i).1,(p.nv i).2.1,(p.nv i).2.2)=p.nv i from rfl,h1] at this
   cases this
 have uS:∀ z l,usedV (s,z,l)=true:=fun z l=>name_used hs
 have nvi:(p.into i us s d).nv i=(s,(d.length:Int),placesI p.fr (needN d)):=updV_same _ _ _
 have nvj:∀ j,j≠i→(p.into i us s d).nv j=p.nv j:=fun j hj=>updV_ne _ _ hj
 have tk:∀ x∈placesI p.fr (needN d),∃ y:Nat,y∈p.fr∧y∈p.fr.take (needN d)∧x=(y:Int):=fun x hx=>by
  obtain ⟨y,h1,h2⟩:=placesI_mem hx
  exact ⟨y,List.mem_of_mem_take h1,h1,h2⟩
 have wsm:∀ q,q∈(p.into i us s d).ws→q∈p.ws∨q∈putWs p.fr d (needN d)∨q=((i:Int),enc s d.length (p.fr.take (needN d))):=fun q hq=>by
  have:q∈p.ws ++ putWs p.fr d (needN d) ++ [((i:Int),enc s d.length (p.fr.take (needN d)))]:=hq
  simp only [List.mem_append,List.mem_singleton] at this
  rcases this with (h1 | h1) | h1
  ·exact .inl h1
  ·exact .inr (.inl h1)
  ·exact .inr (.inr h1)
 have wsl:∀ q,q∈p.ws→q∈(p.into i us s d).ws:=fun q hq=>by
  show q∈p.ws ++ putWs p.fr d (needN d) ++ [((i:Int),enc s d.length (p.fr.take (needN d)))]
  simp [hq]
 have nodeS:NodeOk s (d.length:Int) (placesI p.fr (needN d)):=by
  refine ⟨hs,by omega,by omega,by rw [placesI_len hfr];exact needN_I d,fun k hk=>?_,fun a b hab hb=>?_⟩
  ·have e:(placesI p.fr (needN d)).getD k 0=(placesI p.fr (needN d))[k]:=by simp [List.getD,hk]
   rw [e]
   obtain ⟨y,h1,_,h2⟩:=tk _ (List.getElem_mem hk)
   have:=h.frr y h1
   rw [h2]
   omega
  ·have hn:=placesI_nodup h.frn (needN d)
   unfold List.Nodup at hn
   rw [List.pairwise_iff_getElem] at hn
   have:=hn b a (by omega) hb hab
   simpa [List.getD,hb,show b<(placesI p.fr (needN d)).length by omega] using this
 refine ⟨?_,fun j hj=>?_,⟨fun j hj hu=>?_,fun j hj hu=>?_,fun j k hj hk hjk hu hv=>?_,fun j k hj hk hjk hu hv=>?_,fun j hj hu=>?_⟩,fun x hx=>?_,?_,fun x hx j hj=>?_,fun j hj hu=>?_,fun j hj hu hv=>?_,fun j hj hn=>?_,fun s' hs'=>?_,fun q hq=>?_,?_,fun q hq h40=>?_,fun q hq h40=>?_⟩
 ·rcases hc with ⟨_,_,e⟩ | ⟨_,e,_⟩
  ·show us.length=40;rw [e];exact h.u40
  ·show us.length=40;rw [e,List.length_set];exact h.u40
 ·show us.getD j false=_
  by_cases e:j=i
  ·subst e
   rw [nvi,uS]
   rcases hc with ⟨h1,h2,e⟩ | ⟨_,e,_⟩
   ·rw [e,h.us j hj]
    rw [usedV_iff] at h1 ⊢
    rw [h.keep j hj (usedV_iff.2 h1)]
    exact h1
   ·rw [e];simp [List.getD,h.u40,hj]
  ·rw [nvj j e,←h.us j hj]
   rcases hc with ⟨_,_,e2⟩ | ⟨_,e2,_⟩
   ·rw [e2]
   ·rw [e2];simp only [List.getD];rw [List.getElem?_set_ne (Ne.symm e)]
 ·by_cases e:j=i
  ·subst e;rw [nvi];exact nodeS
  ·rw [nvj j e] at hu ⊢;exact h.nok.node j hj hu
 ·by_cases e:j=i
  ·subst e
   rw [nvi]
   intro x hx
   obtain ⟨y,h1,_,rfl⟩:=tk x hx
   have:=h.frr y h1
   omega
  ·rw [nvj j e] at hu ⊢;exact h.nok.rng j hj hu
 ·by_cases e:j=i
  ·subst e
   rw [nvi]
   rw [nvj k (Ne.symm hjk)] at hv ⊢
   exact (hne k hk (Ne.symm hjk) hv).symm
  ·rw [nvj j e] at hu ⊢
   by_cases e2:k=i
   ·subst e2;rw [nvi];exact hne j hj e hu
   ·rw [nvj k e2] at hv ⊢;exact h.nok.name j k hj hk hjk hu hv
 ·by_cases e:j=i
  ·subst e
   rw [nvi,nvj k (Ne.symm hjk)]
   intro x hx
   obtain ⟨y,h1,_,rfl⟩:=tk x hx
   exact (h.fro y h1 k hk).2
  ·rw [nvj j e] at hu ⊢
   by_cases e2:k=i
   ·subst e2
    rw [nvi]
    intro x hx hx2
    obtain ⟨y,h1,_,rfl⟩:=tk x hx2
    exact (h.fro y h1 j hj).2 hx
   ·rw [nvj k e2] at hv ⊢;exact h.nok.plc j k hj hk hjk hu hv
 ·by_cases e:j=i
  ·subst e;rw [nvi,uS] at hu;cases hu
  ·rw [nvj j e] at hu ⊢;exact h.nok.none j hj hu
 ·exact h.frr x (List.mem_of_mem_drop hx)
 ·exact List.Nodup.sublist (List.drop_sublist _ _) h.frn
 ·have hx':=List.mem_of_mem_drop hx
  refine ⟨(h.fro x hx' j hj).1,?_⟩
  by_cases e:j=i
  ·subst e
   rw [nvi]
   intro hx2
   obtain ⟨y,h1,h2,h3⟩:=tk _ hx2
   exact take_drop_ne h.frn h2 hx (by omega)
  ·rw [nvj j e];exact (h.fro x hx' j hj).2
 ·by_cases e:j=i
  ·subst e
   rw [nvi]
   rcases hc with ⟨_,h2,_⟩ | ⟨h1,_,_⟩
   ·exact h2.symm
   ·have e:=h.keep j hj hu
    rw [usedV_iff,←e,←usedV_iff,h1] at hu
    cases hu
  ·rw [nvj j e];exact h.keep j hj hu
 ·by_cases e:j=i
  ·subst e;rw [nvi];exact List.mem_cons_self ..
  ·rw [nvj j e] at hv ⊢;exact List.mem_cons_of_mem _ (h.new j hj hu hv)
 ·by_cases e:j=i
  ·subst e;rw [nvi] at hn;exact absurd (List.mem_cons_self ..) hn
  ·rw [nvj j e] at hn ⊢;exact h.old j hj fun hk=>hn (List.mem_cons_of_mem _ hk)
 ·rcases List.mem_cons.1 hs' with rfl | hs'
  ·refine ⟨hs,d,i,hf,hi,p.fr.take (needN d),nvi,by rw [List.length_take];omega,fun x hx=>by have:=h.frr x (List.mem_of_mem_take hx);omega,?_,fun k hk=>?_⟩
   ·show _∈p.ws ++ putWs p.fr d (needN d) ++ [((i:Int),enc s' d.length (p.fr.take (needN d)))]
    simp
   ·show _∈p.ws ++ putWs p.fr d (needN d) ++ [((i:Int),enc s' d.length (p.fr.take (needN d)))]
    have e:(p.fr.take (needN d)).getD k 0=p.fr.getD k 0:=by simp [List.getD,hk]
    rw [e]
    have:((p.fr.getD k 0:Int),partK d k)∈putWs p.fr d (needN d):=List.mem_map.2 ⟨k,List.mem_range.2 hk,rfl⟩
    exact List.mem_append_left _ (List.mem_append_right _ this)
  ·obtain ⟨h0,d',i',h1,h2,pl,h3,h4,h5,h6,h7⟩:=h.put s' hs'
   have hii:i'≠i:=fun e=>hni s' hs' (by rw [←e,h3])
   exact ⟨h0,d',i',h1,h2,pl,by rw [nvj i' hii];exact h3,h4,h5,wsl _ h6,fun k hk=>wsl _ (h7 k hk)⟩
 ·rcases wsm q hq with hq | hq | rfl
  ·exact h.wr q hq
  ·obtain ⟨y,h1,h2,h3⟩:=putWs_mem hfr hq
   have:=h.frr y (List.mem_of_mem_take h1)
   exact ⟨by omega,by omega,h3⟩
  ·exact ⟨by dsimp only;omega,by dsimp only;omega,enc_length _ _ _⟩
 ·show ((p.ws ++ putWs p.fr d (needN d) ++ [((i:Int),enc s d.length (p.fr.take (needN d)))]).map (·.1)).Nodup
  rw [List.map_append,List.map_append,putWs_addr hfr,List.nodup_append,List.nodup_append]
  refine ⟨⟨h.wd,placesI_nodup h.frn _,fun a ha b hb=>?_⟩,by simp,fun a ha b hb=>?_⟩
  ·obtain ⟨q,hq,rfl⟩:=List.mem_map.1 ha
   obtain ⟨y,h1,h2⟩:=placesI_mem hb
   have hy:=List.mem_of_mem_take h1
   have:=h.frr y hy
   rw [h2]
   by_cases h40:40≤q.1
   ·exact Ne.symm ((h.whi q hq h40).1 y hy)
   ·omega
  ·have hb:b=(i:Int):=by simpa using hb
   rw [hb]
   rcases List.mem_append.1 ha with ha | ha
   ·obtain ⟨q,hq,rfl⟩:=List.mem_map.1 ha
    exact hoi q hq
   ·obtain ⟨y,h1,h2⟩:=placesI_mem ha
    have:=h.frr y (List.mem_of_mem_take h1)
    omega
 ·rcases wsm q hq with hq | hq | rfl
  ·obtain ⟨a,b⟩:=h.whi q hq h40
   exact ⟨fun x hx=>a x (List.mem_of_mem_drop hx),b⟩
  ·obtain ⟨y,h1,h2,h3⟩:=putWs_mem hfr hq
   rw [h2]
   exact ⟨fun x hx e=>take_drop_ne h.frn h1 hx (by omega),fun j hj=>(h.fro y (List.mem_of_mem_take h1) j hj).1⟩
  ·exact absurd h40 (by dsimp only;omega)
 ·rcases wsm q hq with hq | hq | rfl
  ·have e:q.1.toNat≠i:=fun e=>hoi q hq (by have:=(h.wr q hq).1;omega)
   rw [nvj _ e]
   obtain ⟨a,b⟩:=h.wlo q hq h40
   exact ⟨List.mem_cons_of_mem _ a,b⟩
  ·obtain ⟨y,h1,h2,h3⟩:=putWs_mem hfr hq
   have:=h.frr y (List.mem_of_mem_take h1)
   omega
  ·dsimp only
   rw [Int.toNat_natCast,nvi]
   exact ⟨List.mem_cons_self ..,uS _ _⟩
theorem firstU_some:∀ {us:List Bool} {k i:Nat},firstU us k=some i→k≤i∧i<k+us.length∧us.getD (i - k) false=false
 | [],_,_,h=>by cases h
 | u :: us,k,i,h=>by
  unfold firstU at h
  split at h
  ·obtain ⟨a,b,c⟩:=firstU_some h
   refine ⟨by omega,by rw [List.length_cons];omega,?_⟩
   rw [show i - k=(i - (k+1))+1 by omega]
   simpa [List.getD] using c
  ·rename_i hu
   injection h with h
   subst h
   refine ⟨Nat.le_refl _,by rw [List.length_cons];omega,?_⟩
   simpa [List.getD] using hu
theorem firstU_none:∀ {us:List Bool} {k:Nat},firstU us k=none→∀ u∈us,u=true
 | [],_,_=>by simp
 | u :: us,k,h=>by
  unfold firstU at h
  split at h
  ·rename_i hu
   intro x hx
   rcases List.mem_cons.1 hx with rfl | hx
   ·exact hu
   ·exact firstU_none h x hx
  ·cases h
theorem PInv.put1 (h:PInv ov m fs K p) (hm:m≤2000) (hm2:40≤m) {s:ByteArray} {d:List Nat} (hs:NameOk s) (hd:d.length≤600) (hK:s ∉ K) (hfr:needN d≤p.fr.length) (hf:fs s=some (some d)) {q:Pln} (hq:p.put (slotO ov s) s d=some q) :
  PInv ov m fs (s :: K) q∧q.fr=p.fr.drop (needN d):=by
 unfold Pln.put at hq
 cases hsl:slotO ov s with
 | some i =>
  rw [hsl] at hq
  injection hq with hq
  subst hq
  obtain ⟨a,b,c⟩:=slotO_some hsl
  exact ⟨h.into hm hm2 a hs hd hK hfr hf (.inl ⟨b,c,rfl⟩),rfl⟩
 | none =>
  rw [hsl] at hq
  dsimp only at hq
  cases hfi:firstU p.us 0 with
  | none=>rw [hfi] at hq;cases hq
  | some i =>
   rw [hfi] at hq
   injection hq with hq
   subst hq
   obtain ⟨_,a,b⟩:=firstU_some hfi
   rw [h.u40] at a
   rw [Nat.sub_zero] at b
   have hi:i<40:=by omega
   refine ⟨h.into hm hm2 hi hs hd hK hfr hf (.inr ⟨by rw [←h.us i hi];exact b,rfl,fun j hj hu e=>?_⟩),rfl⟩
   cases ho:usedV (ov j) with
   | true=>exact slotO_none hsl hj ho (by rw [←h.keep j hj ho];exact e)
   | false=>exact hK (e ▸ h.new j hj ho hu)
theorem PInv.all (hm:m≤2000) (hm2:40≤m):∀ {l K:List ByteArray} {p q:Pln},PInv ov m fs K p→(∀ s∈l,∀ d,fs s=some (some d)→NameOk s∧d.length≤600)→l.Nodup→(∀ s∈l,s ∉ K)→wantL fs l≤p.fr.length→putAll ov fs l p=some q →
  ∃ K',PInv ov m fs K' q∧(∀ s∈K',s∈K∨s∈l)∧(∀ s∈K,s∈K')∧∀ s∈l,∀ d,fs s=some (some d)→s∈K'
 | [],K,p,q,h,_,_,_,_,hq=>by
  injection hq with hq
  subst hq
  exact ⟨K,h,fun s hs=>.inl hs,fun s hs=>hs,fun s hs=>by cases hs⟩
 | s :: l,K,p,q,h,hok,hnd,hK,hw,hq=>by
  rw [List.nodup_cons] at hnd
  have hw':wantF fs s+wantL fs l≤p.fr.length:=hw
  unfold putAll at hq
  split at hq
  ·rename_i d hf
   have hwf:wantF fs s=needN d:=by unfold wantF;rw [hf]
   rw [hwf] at hw'
   split at hq
   ·cases hq
   ·rename_i p1 hp1
    obtain ⟨h1,h2⟩:=hok s (List.mem_cons_self ..) d hf
    obtain ⟨hi,hfr⟩:=h.put1 hm hm2 h1 h2 (hK s (List.mem_cons_self ..)) (by omega) hf hp1
    obtain ⟨K',a,b,c,e⟩:=PInv.all hm hm2 hi (fun t ht=>hok t (List.mem_cons_of_mem _ ht)) hnd.2 (fun t ht hk=>by
     rcases List.mem_cons.1 hk with rfl | hk
     ·exact hnd.1 ht
     ·exact hK t (List.mem_cons_of_mem _ ht) hk) (by rw [hfr,List.length_drop];omega) hq
    refine ⟨K',a,fun t ht=>?_,fun t ht=>c t (List.mem_cons_of_mem _ ht),fun t ht d' hd'=>?_⟩
    ·rcases b t ht with hb | hb
     ·rcases List.mem_cons.1 hb with rfl | hb
      ·exact .inr (List.mem_cons_self ..)
      ·exact .inl hb
     ·exact .inr (List.mem_cons_of_mem _ hb)
    ·rcases List.mem_cons.1 ht with rfl | ht
     ·exact c t (List.mem_cons_self ..)
     ·exact e t ht d' hd'
  ·rename_i hf
   obtain ⟨K',a,b,c,e⟩:=PInv.all hm hm2 h (fun t ht=>hok t (List.mem_cons_of_mem _ ht)) hnd.2 (fun t ht=>hK t (List.mem_cons_of_mem _ ht)) (by omega) hq
   refine ⟨K',a,fun t ht=>(b t ht).imp id (List.mem_cons_of_mem _),c,fun t ht d' hd'=>?_⟩
   rcases List.mem_cons.1 ht with rfl | ht
   ·exact absurd hd' (hf d')
   ·exact e t ht d' hd'
end
end Go.Proofs.YtnedpkhehiijhaaGreat
namespace Go.Proofs.YtnedpkhehiijhaaGreat
open Go.RowKit Go.Shelf
set_option linter.unusedVariables false
set_option linter.unusedSimpArgs false
attribute [local go_sem] Oper.semAt_some

theorem KpF.refl (w:World) (gf bx:Nat) (A:World):KpF w gf bx A A:=⟨Nat.le_refl _,fun _ _ _=>rfl,rfl,rfl⟩
theorem KpF.trans {w:World} {gf bx:Nat} {A B C:World} (h:KpF w gf bx A B) (k:KpF w gf bx B C):KpF w gf bx A C :=
 ⟨Nat.le_trans h.size k.size,fun g hg ⟨cs,hc⟩=>(k.ints g hg ⟨cs,(h.ints g hg ⟨cs,hc⟩).trans hc⟩).trans (h.ints g hg ⟨cs,hc⟩),k.fs.trans h.fs,k.box.trans h.box⟩
theorem KpF.putObj {w W:World} {gf bx n l:Nat} {o:Obj} (o':Obj) (hf:gf<n) (hx:bx<n) (hl:n≤l) (ho:W.heap[l]?=some o) (hc:o.isCells=false):KpF w gf bx W (W.putObj l o'):=by
 have k:∀ g,g≠l→(W.putObj l o').heap[g]?=W.heap[g]?:=fun g hg=>World.putObj_heap_other hg
 refine ⟨Nat.le_of_eq World.putObj_size.symm,fun g _ ⟨cs,hcs⟩=>k g fun e=>?_,k gf (by omega),k bx (by omega)⟩
 subst e
 rw [show W.heap[g]?=_ from hcs] at ho
 injection ho with ho
 rw [←ho] at hc
 cases hc
theorem KpF.below {w W W':World} {gf bx:Nat} (hf:gf<W.heap.size) (hx:bx<W.heap.size) (hb:Below W.heap.size W W'):KpF w gf bx W W' :=
 ⟨hb.size,fun g _ ⟨cs,hcs⟩=>hb.block g (Holds.lt hcs),hb.block gf hf,hb.block bx hx⟩
theorem below_keepsFrom {B:Nat} {W W':World} (hb:Below W.heap.size W W'):KeepsFrom B W W':=⟨hb.size,fun k o _ hk _=>(hb.block k (Array.getElem?_eq_some_iff.1 hk).1).trans hk⟩
def slotI:Option Nat→Int
 | none=>-1
 | some i=>(i:Int)
/-- A block of cells stays while blocks of other make turn. -/
theorem cells_stay {W W':World} {row:Option Nat} (hg:W.grownBy W' row) (hr:∀ q,row=some q→∃ o:Obj,W.heap[q]?=some o∧o.isCells=false) {g:Nat} {o:Obj} (ho:W.heap[g]?=some o) (hc:o.isCells=true):W'.heap[g]?=W.heap[g]? :=
 hg.block g (Array.getElem?_eq_some_iff.1 ho).1 fun e=>by
  obtain ⟨o',ho',hc'⟩:=hr g e.symm
  rw [ho] at ho'
  injection ho' with ho'
  rw [←ho',hc] at hc'
  cases hc'
theorem Holds.stay {W W':World} {row:Option Nat} {g:Nat} {t:TypeId} {cs:Array Value} (h:Holds W g t cs) (hg:W.grownBy W' row) (hr:∀ q,row=some q→∃ o:Obj,W.heap[q]?=some o∧o.isCells=false):Holds W' g t cs:=(cells_stay hg hr (show W.heap[g]?=_ from h) rfl).trans h
/-- A round has begun: slot x, its node in a block of its own. -/
def AxS (tp:Fin 40→Nat→Array Value) (ns:List Nd) (x:Fin 40) (a:Act) (W:World):Prop:=∃ g,a={ tmps:=tp x g,defers:=[] }∧Holds W g 70 (ncell (ns.getD x.val default)).toArray
theorem axS_own {tp:Fin 40→Nat→Array Value} {ns:List Nd} {B:Nat} (x:Fin 40) (a:Act):OwnFrom B (fun (_:Unit) W=>AxS tp ns x a W):=fun _ W W' row h hg hr=>by
 obtain ⟨g,e,hc⟩:=h
 exact ⟨g,e,hc.stay hg fun q hq=>(hr q hq).2⟩
def InvS (V:World) (ns:List Nd) (s:ByteArray) (pre:List (Fin 40)) (W:World):Prop:=(∀ x∈pre,nmS ns x.val≠s)∧Below V.heap.size V W
theorem invS_own {V:World} {ns:List Nd} {s:ByteArray} {B:Nat} (hB:V.heap.size≤B):OwnFrom B (InvS V ns s):=fun _ W W' row h hg hr=>⟨h.1,h.2.grown hg h.2.size fun k e=>Nat.le_trans hB (hr k e).1⟩
def OutS (w:World) (ns:List Nd) (s:ByteArray) (g1:Nat) (c:Code) (pre:List (Fin 40)) (W:World):Prop :=
 c = .ret∧Below w.heap.size w W∧∃ pre' x,pre=pre' ++ [x]∧nmS ns x.val=s∧W.cell? ⟨g1,0,none⟩=some (.int .i64 ((x.val:Nat):Int))
theorem outS_own {w:World} {ns:List Nd} {s:ByteArray} {g1 B:Nat} (hB:w.heap.size≤B) (c:Code):OwnFrom B (OutS w ns s g1 c):=fun _ W W' row h hg hr=>by
 obtain ⟨h1,h2,pre',x,h3,h4,h5⟩:=h
 exact ⟨h1,h2.grown hg h2.size fun k e=>Nat.le_trans hB (hr k e).1,pre',x,h3,h4,cell_kept h5 hg fun q hq=>(hr q hq).2⟩
theorem slotO_none_of {ns:List Nd} {ys:List (Fin 40)} (h:Slots ns ys) {s:ByteArray} (hx:∀ x∈ys,nmS ns x.val≠s):slotO (nvOf ns) s=none:=by
 cases hs:slotO (nvOf ns) s with
 | none=>rfl
 | some i =>
  obtain ⟨a,b,c⟩:=slotO_some hs
  have hm:(⟨i,a⟩:Fin 40)∈ys:=h.perm.mem_iff.2 (usedK_mem.2 b)
  exact absurd c (hx _ hm)
theorem slotO_some_of {ns:List Nd} {m:Nat} (hn:NvOk (nvOf ns) m) {ys:List (Fin 40)} (h:Slots ns ys) {x:Fin 40} (hx:x∈ys):slotO (nvOf ns) (nmS ns x.val)=some x.val :=
 slotO_is (nv:=nvOf ns) hn x.isLt (usedK_mem.1 (h.perm.mem_iff.1 hx))
section
variable {w:World} {gf gd:Nat} {ns:List Nd}
set_option maxRecDepth 100000 in
set_option maxHeartbeats 8000000 in
theorem slot_any (h:FsAt w gf gd ns) {m:Nat} (hn:NvOk (nvOf ns) m) (s:ByteArray) :
  Calls Tryz.prog 82 #[.pointer (some ⟨gf,0,none⟩),.string s] w fun e w'=>e = .returned (.int .i64 (slotI (slotO (nvOf ns) s)))∧Below w.heap.size w w':=by
 obtain ⟨V,hV⟩:∃ V,V=(w.alloc (.cells #[.string s] 9)).alloc (.cells #[.int .i64 0] 3):=⟨_,rfl⟩
 have hbV:Below w.heap.size w V:=by rw [hV];exact ((Below.refl _ _).alloc (Nat.le_refl _) _).alloc (by simp) _
 have hzV:V.heap.size=w.heap.size+2:=by rw [hV];simp
 have hh0:Holds V w.heap.size 9 #[.string s]:=by rw [hV];exact (Holds.fresh w _ _).alloc _
 have hh1:Holds V (w.heap.size+1) 3 #[.int .i64 0]:=by
  have:=Holds.fresh (w.alloc (.cells #[.string s] 9)) 3 #[.int .i64 0]
  rw [show (w.alloc (.cells #[.string s] 9)).heap.size=w.heap.size+1 by simp] at this
  rw [hV];exact this
 obtain ⟨V2,hV2⟩:∃ V2,V2=V.alloc (.cells #[.pointer (some ⟨gf,0,none⟩)] 27):=⟨_,rfl⟩
 have hb2:Below V.heap.size V V2:=by rw [hV2];exact (Below.refl _ _).alloc (Nat.le_refl _) _
 have hz2:V2.heap.size=w.heap.size+3:=by rw [hV2];simp;omega
 have hbx:Holds V2 V.heap.size 27 #[.pointer (some ⟨gf,0,none⟩)]:=by rw [hV2];exact Holds.fresh _ _ _
 have hbw2:Below w.heap.size w V2:=hbV.trans (hb2.mono hbV.size)
 have hfs2:FsAt V2 gf gd ns:=h.under hbw2
 have hgf:gf<w.heap.size:=h.hd.lt
 rw [hzV] at hbx
 have HST:=Lib.hid (files_stops hfs2 (w.heap.size+2) hbx)
 have HFI:=Lib.hid (fsfiles_any V gf)
 have HV:=Lib.hid hV
 have HV2:=Lib.hid hV2
 have HB2:=Lib.hid hbw2
 have HC:Hid (∀ W,Below V2.heap.size V2 W→W.cell? ⟨w.heap.size,0,none⟩=some (.string s)∧W.cell? ⟨w.heap.size+1,0,none⟩=some (.int .i64 0)∧W.frozen? ⟨w.heap.size+1,0,none⟩=false):=Lib.hid fun W hW=>by
  have a:=(hh0.under hb2 hh0.lt).under hW (hh0.under hb2 hh0.lt).lt
  have b:=(hh1.under hb2 hh1.lt).under hW (hh1.under hb2 hh1.lt).lt
  exact ⟨a.cell 0,b.cell 0,b.open_ _⟩
 have HN:=Lib.hid hn
 clear h hn hV hV2 hh0 hh1 hb2 hbx hfs2 hbV
 refine (callsIn_wide (n:=3)).1 ?_
 refine callsIn_of_wp_marks Tryz.func82 rfl trivial ?_ rfl
 simp only [Tryz.ntmps82,List.size_toArray,List.length_cons,List.length_nil,Nat.reduceAdd,Nat.reduceSub,Array.replicate_succ,Array.replicate_zero,List.push_toArray,List.append_toArray,List.nil_append,List.cons_append]
 refine wpIn_wide.2 ?_
 go_wp2_with (first | (rw [←HV.out];refine HFI.out.mono ?_;rintro e w3 ⟨rfl,rfl⟩;rw [←HV2.out]) | fail)
 refine (wpIn_wide (n:=3)).1 ?_
 refine wpIn_rangeFunc_ownH rfl (by omega) (gf:=99) (lb:=#[.pointer (some ⟨w.heap.size+2,0,none⟩)]) rfl trivial (enters_of Tryz.func99 (by kernel_rfl) rfl) HST.out
  (fun h k=>KpF.trans h k) (fun W l o o' hl ho hc _=>KpF.putObj (n:=V2.heap.size) o' (by omega) (by omega) hl ho hc) (Below.refl _ _) (fun _=>rfl)
  (InvS V2 ns s) (OutS w ns s (w.heap.size+1)) (invS_own (Nat.le_refl _)) (outS_own (by omega)) ⟨by simp,Below.refl _ _⟩
  (AxS (fun x g=>#[.pointer (some ⟨gf,0,none⟩),.string s,undef,.pointer (some ⟨w.heap.size,0,none⟩),.pointer (some ⟨w.heap.size+1,0,none⟩),.int .i64 ((x.val:Nat):Int),.pointer (some ⟨g,0,none⟩),.pointer (some ⟨gf,0,none⟩),.func (.func 99) #[] #[.pointer (some ⟨w.heap.size+2,0,none⟩)],.int .i64 ((x.val:Nat):Int),.agg (ncell (ns.getD x.val default)).toArray,undef,undef,undef,undef,undef]) ns) (fun x a'=>axS_own x a') ?assign ?body ?done ?stop
 case assign =>
  rintro l pre ⟨xv,hxv⟩ W K ⟨hI1,hI2⟩ hK
  have HK:=Lib.hid hK
  have HQ:=Lib.hid hI2
  have HI:=Lib.hid hI1
  clear hK hI1 hI2
  unfold AxS at HK
  simp only [fsv,ncell] at HK ⊢
  generalize ns.getD xv default=d at *
  obtain ⟨nm,z,pa,pc,pl⟩:=d
  obtain ⟨pn,hpn⟩:∃ n,pl.length=n:=⟨_,rfl⟩
  dsimp only at HK ⊢
  rw [hpn] at HK ⊢
  simp
  gi_wp2
  have hlt:=HQ.out.size
  have hba:Below W.heap.size W (W.alloc (.cells #[.string nm,.int .i64 z,.slice pa pn pc] 70)):=(Below.refl _ _).alloc (Nat.le_refl _) _
  refine HK.out _ _ (below_keepsFrom hba) (KpF.below (by omega) (by omega) hba) ⟨HI.out,HQ.out.trans (hba.mono hlt)⟩ ⟨_,rfl,Holds.fresh W 70 #[.string nm,.int .i64 z,.slice pa pn pc]⟩
 case body =>
  rintro l pre ⟨xv,hxv⟩ a' W hl hr ⟨hI1,hI2⟩ ⟨g,rfl,hc⟩ hlt
  have HQ:=Lib.hid hI2
  have HI:=Lib.hid hI1
  have HNM:Hid (nmS ns xv=(ns.getD xv default).name):=Lib.hid rfl
  have k0:W.cell? ⟨g,0,none⟩=some (.string (ns.getD xv default).name):=hc.cell 0
  obtain ⟨k1,k2,k3⟩:=HC.out W HQ.out
  clear hI1 hI2 hc
  dsimp only
  generalize ncell (ns.getD xv default)=cl at *
  generalize ns.getD xv default=d at *
  obtain ⟨nm,z,pa,pc,pl⟩:=d
  dsimp only at k0 HNM ⊢
  by_cases e:nm=s
  ·subst e
   gi_wp2
   have hxx:((⟨xv,hxv⟩:Fin 40)).val=xv:=rfl
   have hbq:Below w.heap.size w W:=HB2.out.trans (HQ.out.mono HB2.out.size)
   exact ⟨(KeepsOthers.setCell _ _ _).from _,rfl,hbq.setCell (p:=⟨w.heap.size+1,0,none⟩) (by show w.heap.size≤w.heap.size+1;omega) _,pre,⟨xv,hxv⟩,rfl,HNM.out,World.cell?_setCell_same' W ⟨w.heap.size+1,0,none⟩ (.int .i64 ((xv:Nat):Int)) (by rw [k2];rfl)⟩
  ·have b0:(nm.toList == s.toList)=false:=by rw [beq_eq_false_iff_ne];exact fun h=>e (bytes_inj h)
   gi_wp2
   refine ⟨KeepsFrom.refl _ _,KpF.refl _ _ _ _,fun x hx=>?_,HQ.out⟩
   rcases List.mem_append.1 hx with hx | hx
   ·exact HI.out x hx
   ·rw [List.mem_singleton.1 hx]
    show nmS ns xv≠s
    rw [HNM.out]
    exact e
 case done =>
  rintro D xs W hD hS ⟨hI1,hI2⟩ hK
  obtain ⟨k1,k2,k3⟩:=HC.out W hI2
  have HK:=Lib.hid hK
  have HSL:=Lib.hid (slotO_none_of hS hI1)
  have hbq:Hid (Below w.heap.size w W):=Lib.hid (HB2.out.trans (hI2.mono HB2.out.size))
  clear hI1 hI2
  go_wp2_with fail
  have hc:=World.cell?_setCell_same' W ⟨w.heap.size+1,0,none⟩ (.int .i64 (-1)) (by rw [k2];rfl)
  have hk5:(W.setCell ⟨w.heap.size+1,0,none⟩ (.int .i64 (-1))).heap[D]?=some (.deferred (some [])):=(Below.heap_setCell _ ⟨w.heap.size+1,0,none⟩ _ _ (by show D≠w.heap.size+1;omega)).trans HK.out
  have hc2:=cell_kept hc (grownBy_putObj' _ D (.deferred none)) (fun r e=>by cases e;exact ⟨_,hk5,rfl⟩)
  refine ⟨by simp,.inl ⟨_,_,rfl,run_takeDeferred hk5,?_⟩⟩
  refine ⟨.int .i64 (-1),by simp [results,Tryz.results82,go_sem,hc2],by rw [HSL.out];rfl,?_⟩
  exact (hbq.out.setCell (p:=⟨w.heap.size+1,0,none⟩) (by show w.heap.size≤w.heap.size+1;omega) _).trans (belowK_b (w:=V2) (by omega) _ D _ _ hD hk5 rfl rfl)
 case stop =>
  rintro D c pre W hD ⟨ys,hys,hpre⟩ ⟨rfl,hb,pre',x,rfl,hx,hc⟩ hK
  have hxy:x∈ys:=hpre.subset (by simp)
  have HSL:=Lib.hid (slotO_some_of HN.out hys hxy)
  rw [hx] at HSL
  obtain ⟨xv,hxv⟩:=x
  dsimp only at HSL hc
  have HB:=Lib.hid hb
  clear hx hys hpre hb hxy
  gi_wp2
  have hc2:=cell_kept hc (grownBy_putObj' _ D (.deferred none)) (fun r e=>by cases e;exact ⟨_,hK,rfl⟩)
  refine ⟨by simp,.inl ⟨_,_,rfl,run_takeDeferred hK,?_⟩⟩
  refine ⟨.int .i64 ((xv:Nat):Int),by simp [results,Tryz.results82,go_sem,hc2],by rw [HSL.out];rfl,?_⟩
  exact HB.out.trans (belowK_b (w:=V2) (by omega) _ D _ _ hD hK rfl rfl)
end
end Go.Proofs.YtnedpkhehiijhaaGreat
