/- Words and laws for the statement, part 3. -/
import Derived.Deep.WholeRow
import Derived.Test.YtcibjcgipfpniaaGreatDoorN02
namespace Go.Proofs.YtcibjcgipfpniaaGreatDoor
open Go.RowKit
set_option linter.unusedVariables false
attribute [local go_sem ↓] Go.wp_at_zero Go.wp_at_succ

def triI (x:Nat) (n m l:Int):Nat:=tri x n.toNat m.toNat l.toNat
theorem turn_int (w:World) (x:Nat) (n m l:Int) (hx:x<4294967296) (h:(0≤n∧Turns n.toNat)∧(0≤m∧Turns m.toNat)∧0≤l∧Turns l.toNat):Calls Tryz.prog 131 #[.int .u32 (x:Int),.int .i64 n,.int .i64 m,.int .i64 l] w fun e w'=>e = .returned (.int .u32 ((triI x n m l:Nat):Int))∧w=w':=by
 obtain ⟨⟨a0,a1⟩,⟨b0,b1⟩,c0,c1⟩:=h
 obtain ⟨n,rfl⟩:∃ k:Nat,n=(k:Int):=⟨n.toNat,by omega⟩
 obtain ⟨m,rfl⟩:∃ k:Nat,m=(k:Int):=⟨m.toNat,by omega⟩
 obtain ⟨l,rfl⟩:∃ k:Nat,l=(k:Int):=⟨l.toNat,by omega⟩
 exact turn_any w x n m l hx a1 b1 c1
/-- The words K are there. -/
def KMet (w:World):Prop:=2 < w.heap.size∧∀ t,t<64→w.cell? ⟨2,t,none⟩=some (.int .u32 ((KL.getD t 0:Nat):Int))
theorem KMet.under {w w':World} (h:KMet w) (hb:Below w.heap.size w w'):KMet w':=⟨Nat.lt_of_lt_of_le h.1 hb.size,fun t ht=>(hb.cell (p:=⟨2,t,none⟩) h.1).trans (h.2 t ht)⟩
theorem sched_lt {B:List Nat} (h:Oct6 B):∀ n,M32 (sched B n)
 | 0=>fun i=>by simp [sched]
 | n+1=>fun i=>by
  rw [sched]
  rcases Nat.lt_or_ge i (sched B n).length with h1 | h1
  ·rw [List.getD,List.getElem?_append_left h1]
   exact sched_lt h n i
  ·rw [List.getD,List.getElem?_append_right h1]
   rcases Nat.eq_zero_or_pos (i - (sched B n).length) with h2 | h2
   ·rw [h2];exact nextW_lt h _ _
   ·rw [List.getElem?_eq_none (by simp;omega)];exact (by decide:(0:Nat)<4294967296)
theorem t1_lt (s:StS) (k w:Nat):t1 s k w<4294967296:=Nat.mod_lt _ (by omega)
theorem t2_lt (s:StS):t2 s<4294967296:=Nat.mod_lt _ (by omega)
theorem ch_eq {e f g:Nat} (he:e<4294967296) (hf:f<4294967296) (hg:g<4294967296) :
  bits BinOp.xor IntKind.u32 (bits BinOp.and IntKind.u32 (e:Int) (f:Int)) (bits BinOp.and IntKind.u32 (bits BinOp.xor IntKind.u32 4294967295 (e:Int)) (g:Int))=(((e &&& f) ^^^ ((4294967295 ^^^ e) &&& g):Nat):Int):=by
 have h1:=u32_and_nat e f he hf
 have h2:=u32_xor_nat 4294967295 e (by omega) he
 have h3:=u32_and_nat (4294967295 ^^^ e) g (lt32_xor (by omega) he) hg
 have h4:=u32_xor_nat (e &&& f) ((4294967295 ^^^ e) &&& g) (lt32_and he) (lt32_and (lt32_xor (by omega) he))
 rw [←h4,←h3,←h2,←h1]
 rfl
theorem maj_eq {a b c:Nat} (ha:a<4294967296) (hb:b<4294967296) (hc:c<4294967296) :
  bits BinOp.xor IntKind.u32 (bits BinOp.xor IntKind.u32 (bits BinOp.and IntKind.u32 (a:Int) (b:Int)) (bits BinOp.and IntKind.u32 (a:Int) (c:Int))) (bits BinOp.and IntKind.u32 (b:Int) (c:Int))=(((a &&& b) ^^^ (a &&& c) ^^^ (b &&& c):Nat):Int):=by
 have h1:=u32_and_nat a b ha hb
 have h2:=u32_and_nat a c ha hc
 have h3:=u32_and_nat b c hb hc
 have h4:=u32_xor_nat (a &&& b) (a &&& c) (lt32_and ha) (lt32_and ha)
 have h5:=u32_xor_nat ((a &&& b) ^^^ (a &&& c)) (b &&& c) (lt32_xor (lt32_and ha) (lt32_and ha)) (lt32_and hb)
 rw [←h5,←h4,←h3,←h2,←h1]
theorem t1_eq (a b c d:Nat) {e f g h k w:Nat} (he:e<4294967296) (hf:f<4294967296) (hg:g<4294967296) (hh:h<4294967296) (hk:k<4294967296) (hw:w<4294967296) :
  ((((h:Int)+((triI e 6 11 25:Nat):Int)+bits BinOp.xor IntKind.u32 (bits BinOp.and IntKind.u32 (e:Int) (f:Int)) (bits BinOp.and IntKind.u32 (bits BinOp.xor IntKind.u32 4294967295 (e:Int)) (g:Int))+(k:Int)) % 4294967296+(w:Int)) % 4294967296)=((t1 ⟨a,b,c,d,e,f,g,h⟩ k w:Nat):Int):=by
 rw [ch_eq he hf hg]
 unfold t1
 show _=((((((h+tri e 6 11 25) % 4294967296+((e &&& f) ^^^ ((4294967295 ^^^ e) &&& g))) % 4294967296+k) % 4294967296+w) % 4294967296:Nat):Int)
 have e1:triI e 6 11 25=tri e 6 11 25:=rfl
 rw [e1]
 generalize tri e 6 11 25=p
 generalize ((e &&& f) ^^^ ((4294967295 ^^^ e) &&& g))=q
 omega
theorem kl_lt:∀ t,t<64→KL.getD t 0<4294967296:=by decide
theorem st_info (s:StS):(Tryz.prog.info? 95).map (·.size)=some (nums .u32 s.list).size:=by rw [nums_size];kernel_rfl
theorem ws_info {L:List Nat} (h:L.length=64):(Tryz.prog.info? 124).map (·.size)=some (nums .u32 L).size:=by rw [nums_size,h];kernel_rfl

/-- The world in which a block is begun: the words handed in, a place for the answer. -/
theorem begun (w:World) (s:StS):∃ W,W=(w.alloc (.cells (nums .u32 s.list) 95)).alloc (.cells #[Value.int IntKind.u32 0,Value.int IntKind.u32 0,Value.int IntKind.u32 0,Value.int IntKind.u32 0,Value.int IntKind.u32 0,Value.int IntKind.u32 0,Value.int IntKind.u32 0,Value.int IntKind.u32 0] 95)∧Row .u32 95 W w.heap.size s.list∧Holds W (w.heap.size+1) 95 #[Value.int IntKind.u32 0,Value.int IntKind.u32 0,Value.int IntKind.u32 0,Value.int IntKind.u32 0,Value.int IntKind.u32 0,Value.int IntKind.u32 0,Value.int IntKind.u32 0,Value.int IntKind.u32 0]∧Below w.heap.size w W∧W.heap.size=w.heap.size+2:=by
 refine ⟨_,rfl,(Holds.fresh w 95 (nums .u32 s.list)).alloc _,?_,((Below.refl _ _).alloc (Nat.le_refl _) _).alloc (by simp) _,by simp⟩
 have h:=Holds.fresh (w.alloc (.cells (nums .u32 s.list) 95)) 95 #[Value.int IntKind.u32 0,Value.int IntKind.u32 0,Value.int IntKind.u32 0,Value.int IntKind.u32 0,Value.int IntKind.u32 0,Value.int IntKind.u32 0,Value.int IntKind.u32 0,Value.int IntKind.u32 0]
 rwa [show (w.alloc (.cells (nums .u32 s.list) 95)).heap.size=w.heap.size+1 by simp] at h

set_option maxRecDepth 100000 in
set_option maxHeartbeats 2000000 in
theorem block_short (w:World) (s:StS) (A:Option Addr) (c n:Nat) (hn:n≠64) :
  Calls Tryz.prog 106 #[.agg (nums .u32 s.list),.slice A n c] w fun e w'=>e = .returned (.agg (nums .u32 s.list))∧Below w.heap.size w w':=by
 have hne:((n:Int) != 64)=true:=by rw [bne_iff_ne];omega
 obtain ⟨W,hW,hrow,hres,hbel,_⟩:=begun w s
 have hi:=st_info s
 have hone:=nums_one .u32 s.list
 have HR:=Lib.hid (setRow_heap W (w.heap.size+1) _ (nums .u32 s.list) 95 (0,0) hres)
 have HB:=Lib.hid (below_setRow hbel (Nat.le_succ _) (nums .u32 s.list))
 go_enter Tryz.func106,Tryz.ntmps106
 go_wp2_with (first
  | (rw [←hW];refine wpList_load_row rfl 95 (.tmp 2) rfl (w.heap.size) rfl 95 (nums .u32 s.list) (0,0) _ hrow Tryz.underlying95 rfl hi ?_)
  | (refine wpList_store_row rfl 95 (.tmp 4) (.tmp 14) rfl (w.heap.size+1) (nums .u32 s.list) rfl rfl 95 (#[Value.int IntKind.u32 0,Value.int IntKind.u32 0,Value.int IntKind.u32 0,Value.int IntKind.u32 0,Value.int IntKind.u32 0,Value.int IntKind.u32 0,Value.int IntKind.u32 0,Value.int IntKind.u32 0]) hres hi rfl hone ?_))
 exact bodyPost_ret (v:=.agg (nums .u32 s.list)) (results_cell_row rfl _ _ (w.heap.size+1) 95 (nums .u32 s.list) (0,0) _ rfl HR.out Tryz.underlying95 rfl hi) rfl ⟨rfl,HB.out⟩

theorem one8 (x1 x2 x3 x4 x5 x6 x7 x8:Int):(#[.int .u32 x1,.int .u32 x2,.int .u32 x3,.int .u32 x4,.int .u32 x5,.int .u32 x6,.int .u32 x7,.int .u32 x8]:Array Value).all (·.oneCell')=true:=by simp [Value.oneCell']
theorem size8 (S:StS):(nums .u32 S.list).size=8:=by rw [nums_size];rfl
theorem holds_setRow {w:World} {k g:Nat} {T:TypeId} {cs:Array Value} (h:Holds w k T cs) (hne:k≠g) (x:Array Value):Holds (w.setRow g x) k T cs:=by
 have h':w.heap[k]?=some (.cells cs T (0,0)):=h
 show (w.heap.modify g _)[k]?=_
 rw [Array.getElem?_modify,if_neg (fun e=>hne e.symm)]
 exact h'
theorem plus_at (s t:StS):∀ k,k<8→(s.plus t).list.getD k 0=(s.list.getD k 0+t.list.getD k 0) % 4294967296:=by
 intro k hk
 rcases (by omega:k=0∨k=1∨k=2∨k=3∨k=4∨k=5∨k=6∨k=7) with rfl | rfl | rfl | rfl | rfl | rfl | rfl | rfl <;> rfl
theorem t2_eq {a b c:Nat} (d e f g h:Nat) (ha:a<4294967296) (hb:b<4294967296) (hc:c<4294967296) :
  (((triI a 2 13 22:Nat):Int)+bits BinOp.xor IntKind.u32 (bits BinOp.xor IntKind.u32 (bits BinOp.and IntKind.u32 (a:Int) (b:Int)) (bits BinOp.and IntKind.u32 (a:Int) (c:Int))) (bits BinOp.and IntKind.u32 (b:Int) (c:Int))) % 4294967296=((t2 ⟨a,b,c,d,e,f,g,h⟩:Nat):Int):=by
 rw [maj_eq ha hb hc]
 unfold t2
 show _=(((tri a 2 13 22+((a &&& b) ^^^ (a &&& c) ^^^ (b &&& c))) % 4294967296:Nat):Int)
 have e1:triI a 2 13 22=tri a 2 13 22:=rfl
 rw [e1]
 generalize tri a 2 13 22=p
 generalize ((a &&& b) ^^^ (a &&& c) ^^^ (b &&& c))=q
 omega
/-- The first k sums are written. -/
def RelP (s S:StS) (w:World) (g6:Nat) (i:Value) (wr:World):Prop :=
 ∃ (k:Nat) (L:List Nat),k≤8∧i = .int .i64 k∧Row .u32 95 wr w.heap.size L∧L.length=8∧Hid (∀ j,j<8→L.getD j 0=if j<k then (s.plus S).list.getD j 0 else s.list.getD j 0)∧Row .u32 95 wr g6 S.list∧Holds wr (w.heap.size+1) 95 #[Value.int IntKind.u32 0,Value.int IntKind.u32 0,Value.int IntKind.u32 0,Value.int IntKind.u32 0,Value.int IntKind.u32 0,Value.int IntKind.u32 0,Value.int IntKind.u32 0,Value.int IntKind.u32 0]∧Below w.heap.size w wr
theorem plus_store {s S:StS} {w wr:World} {g6 k:Nat} {L:List Nat} {x:Nat} (hrow:Row .u32 95 wr w.heap.size L) (hL:L.length=8) (HL:∀ j,j<8→L.getD j 0=if j<k then (s.plus S).list.getD j 0 else s.list.getD j 0) (hS:Row .u32 95 wr g6 S.list) (hres:Holds wr (w.heap.size+1) 95 #[Value.int IntKind.u32 0,Value.int IntKind.u32 0,Value.int IntKind.u32 0,Value.int IntKind.u32 0,Value.int IntKind.u32 0,Value.int IntKind.u32 0,Value.int IntKind.u32 0,Value.int IntKind.u32 0]) (hb:Below w.heap.size w wr) (hk:k<8) (hg:w.heap.size+1<g6)
  (hx:x=(s.plus S).list.getD k 0):RelP s S w g6 (.int .i64 ((k:Int)+1)) ((wr.setCell ⟨w.heap.size,k,none⟩ (.int .u32 (x:Int))).drewN 1):=by
 have hgr:wr.grownBy ((wr.setCell ⟨w.heap.size,k,none⟩ (.int .u32 (x:Int))).drewN 1) (some w.heap.size):=one_drewN (one_setCell (World.grownBy.refl wr (some w.heap.size)) k _) 1
 have hlow:=one_below hgr (Nat.le_refl _) hb.size
 refine ⟨k+1,L.set k x,by omega,by go_num,(hrow.set k x).drewN 1,by rw [List.length_set];exact hL,Lib.hid (fun j hj=>?_),Holds.grown hS hgr (by intro e;injection e;omega),Holds.grown hres hgr (by intro e;injection e;omega),hb.trans hlow⟩
 by_cases e:j=k
 ·subst e
  rw [if_pos (by omega),←hx]
  simp [List.getD,hL,hj]
 ·have e2:(L.set k x).getD j 0=L.getD j 0:=by rw [List.getD,List.getElem?_set_ne (by omega),←List.getD]
  rw [e2,HL j hj]
  by_cases c:j<k
  ·rw [if_pos c,if_pos (by omega)]
  ·rw [if_neg c,if_neg (by omega)]
/-- A round is begun. -/
def RelR (s:StS) (l:List Nat) (w:World) (g5 g6:Nat) (i:Value) (wr:World):Prop :=
 ∃ k:Nat,k≤64∧i = .int .i64 k∧Row .u32 95 wr g6 (rounds6 s (sched l 64) k).list∧Row .u32 124 wr g5 (sched l 64)∧Row .u32 95 wr w.heap.size s.list∧Holds wr (w.heap.size+1) 95 #[Value.int IntKind.u32 0,Value.int IntKind.u32 0,Value.int IntKind.u32 0,Value.int IntKind.u32 0,Value.int IntKind.u32 0,Value.int IntKind.u32 0,Value.int IntKind.u32 0,Value.int IntKind.u32 0]∧KMet wr∧Below w.heap.size w wr

set_option maxRecDepth 100000 in
set_option maxHeartbeats 1200000 in
theorem block_full (w:World) (s:StS) (hs:s.Ok) (B:Nat) (A:Option Addr) (c:Nat) (l:List Nat) (hl:l.length=64) (hr:Rd .u8 w B A c l) (hB:B≤w.heap.size) (ho:Oct6 l) (hk:KMet w) :
  Calls Tryz.prog 106 #[.agg (nums .u32 s.list),.slice A 64 c] w fun e w'=>e = .returned (.agg (nums .u32 (blk s l).list))∧Below w.heap.size w w':=by
 obtain ⟨W,hW,hrow,hres,hbel,hWs⟩:=begun w s
 have hi:=st_info s
 have hone:=nums_one .u32 s.list
 have hrd:=hr.under (hbel.mono hB)
 have hk1:=hk.under hbel
 have HK:=Lib.hid hk
 have hi8:(Tryz.prog.info? 95).map (·.size)=some 8:=by kernel_rfl
 have hsl:(sched l 64).length=64:=sched_length l 64
 have HSL:=Lib.hid hsl
 have hi64:=ws_info hsl
 have hone64:=nums_one .u32 (sched l 64)
 clear hr hk hsl
 go_enter Tryz.func106,Tryz.ntmps106
 go_wp2_with fail
 rw [←hW]
 clear hW
 refine (words_any W B A c l hl hrd (by have:=hbel.size;omega) ho).mono ?_
 rintro e w1 ⟨rfl,hb1⟩
 have hrow1:=Holds.under hrow hb1 (by omega)
 have hres1:=Holds.under hres hb1 (by omega)
 have hbel1:=hbel.trans (hb1.mono hbel.size)
 have hk2:=hk1.under hb1
 have hs1:=hb1.size
 clear hrow hres hbel hb1 hk1 hrd
 obtain ⟨W2,hW2⟩:∃ W2,W2=w1.alloc (.cells #[Value.int IntKind.u32 0,Value.int IntKind.u32 0,Value.int IntKind.u32 0,Value.int IntKind.u32 0,Value.int IntKind.u32 0,Value.int IntKind.u32 0,Value.int IntKind.u32 0,Value.int IntKind.u32 0,Value.int IntKind.u32 0,Value.int IntKind.u32 0,Value.int IntKind.u32 0,Value.int IntKind.u32 0,Value.int IntKind.u32 0,Value.int IntKind.u32 0,Value.int IntKind.u32 0,Value.int IntKind.u32 0,Value.int IntKind.u32 0,Value.int IntKind.u32 0,Value.int IntKind.u32 0,Value.int IntKind.u32 0,Value.int IntKind.u32 0,Value.int IntKind.u32 0,Value.int IntKind.u32 0,Value.int IntKind.u32 0,Value.int IntKind.u32 0,Value.int IntKind.u32 0,Value.int IntKind.u32 0,Value.int IntKind.u32 0,Value.int IntKind.u32 0,Value.int IntKind.u32 0,Value.int IntKind.u32 0,Value.int IntKind.u32 0,Value.int IntKind.u32 0,Value.int IntKind.u32 0,Value.int IntKind.u32 0,Value.int IntKind.u32 0,Value.int IntKind.u32 0,Value.int IntKind.u32 0,Value.int IntKind.u32 0,Value.int IntKind.u32 0,Value.int IntKind.u32 0,Value.int IntKind.u32 0,Value.int IntKind.u32 0,Value.int IntKind.u32 0,Value.int IntKind.u32 0,Value.int IntKind.u32 0,Value.int IntKind.u32 0,Value.int IntKind.u32 0,Value.int IntKind.u32 0,Value.int IntKind.u32 0,Value.int IntKind.u32 0,Value.int IntKind.u32 0,Value.int IntKind.u32 0,Value.int IntKind.u32 0,Value.int IntKind.u32 0,Value.int IntKind.u32 0,Value.int IntKind.u32 0,Value.int IntKind.u32 0,Value.int IntKind.u32 0,Value.int IntKind.u32 0,Value.int IntKind.u32 0,Value.int IntKind.u32 0,Value.int IntKind.u32 0,Value.int IntKind.u32 0] 124):=⟨_,rfl⟩
 have h5:Holds W2 w1.heap.size 124 #[Value.int IntKind.u32 0,Value.int IntKind.u32 0,Value.int IntKind.u32 0,Value.int IntKind.u32 0,Value.int IntKind.u32 0,Value.int IntKind.u32 0,Value.int IntKind.u32 0,Value.int IntKind.u32 0,Value.int IntKind.u32 0,Value.int IntKind.u32 0,Value.int IntKind.u32 0,Value.int IntKind.u32 0,Value.int IntKind.u32 0,Value.int IntKind.u32 0,Value.int IntKind.u32 0,Value.int IntKind.u32 0,Value.int IntKind.u32 0,Value.int IntKind.u32 0,Value.int IntKind.u32 0,Value.int IntKind.u32 0,Value.int IntKind.u32 0,Value.int IntKind.u32 0,Value.int IntKind.u32 0,Value.int IntKind.u32 0,Value.int IntKind.u32 0,Value.int IntKind.u32 0,Value.int IntKind.u32 0,Value.int IntKind.u32 0,Value.int IntKind.u32 0,Value.int IntKind.u32 0,Value.int IntKind.u32 0,Value.int IntKind.u32 0,Value.int IntKind.u32 0,Value.int IntKind.u32 0,Value.int IntKind.u32 0,Value.int IntKind.u32 0,Value.int IntKind.u32 0,Value.int IntKind.u32 0,Value.int IntKind.u32 0,Value.int IntKind.u32 0,Value.int IntKind.u32 0,Value.int IntKind.u32 0,Value.int IntKind.u32 0,Value.int IntKind.u32 0,Value.int IntKind.u32 0,Value.int IntKind.u32 0,Value.int IntKind.u32 0,Value.int IntKind.u32 0,Value.int IntKind.u32 0,Value.int IntKind.u32 0,Value.int IntKind.u32 0,Value.int IntKind.u32 0,Value.int IntKind.u32 0,Value.int IntKind.u32 0,Value.int IntKind.u32 0,Value.int IntKind.u32 0,Value.int IntKind.u32 0,Value.int IntKind.u32 0,Value.int IntKind.u32 0,Value.int IntKind.u32 0,Value.int IntKind.u32 0,Value.int IntKind.u32 0,Value.int IntKind.u32 0,Value.int IntKind.u32 0]:=by rw [hW2];exact Holds.fresh _ _ _
 have hset5:W2.setRow w1.heap.size (nums .u32 (sched l 64))=w1.alloc (.cells (nums .u32 (sched l 64)) 124):=by rw [hW2];exact World.setRow_alloc_new _ _ _ _
 have hz64:(#[Value.int IntKind.u32 0,Value.int IntKind.u32 0,Value.int IntKind.u32 0,Value.int IntKind.u32 0,Value.int IntKind.u32 0,Value.int IntKind.u32 0,Value.int IntKind.u32 0,Value.int IntKind.u32 0,Value.int IntKind.u32 0,Value.int IntKind.u32 0,Value.int IntKind.u32 0,Value.int IntKind.u32 0,Value.int IntKind.u32 0,Value.int IntKind.u32 0,Value.int IntKind.u32 0,Value.int IntKind.u32 0,Value.int IntKind.u32 0,Value.int IntKind.u32 0,Value.int IntKind.u32 0,Value.int IntKind.u32 0,Value.int IntKind.u32 0,Value.int IntKind.u32 0,Value.int IntKind.u32 0,Value.int IntKind.u32 0,Value.int IntKind.u32 0,Value.int IntKind.u32 0,Value.int IntKind.u32 0,Value.int IntKind.u32 0,Value.int IntKind.u32 0,Value.int IntKind.u32 0,Value.int IntKind.u32 0,Value.int IntKind.u32 0,Value.int IntKind.u32 0,Value.int IntKind.u32 0,Value.int IntKind.u32 0,Value.int IntKind.u32 0,Value.int IntKind.u32 0,Value.int IntKind.u32 0,Value.int IntKind.u32 0,Value.int IntKind.u32 0,Value.int IntKind.u32 0,Value.int IntKind.u32 0,Value.int IntKind.u32 0,Value.int IntKind.u32 0,Value.int IntKind.u32 0,Value.int IntKind.u32 0,Value.int IntKind.u32 0,Value.int IntKind.u32 0,Value.int IntKind.u32 0,Value.int IntKind.u32 0,Value.int IntKind.u32 0,Value.int IntKind.u32 0,Value.int IntKind.u32 0,Value.int IntKind.u32 0,Value.int IntKind.u32 0,Value.int IntKind.u32 0,Value.int IntKind.u32 0,Value.int IntKind.u32 0,Value.int IntKind.u32 0,Value.int IntKind.u32 0,Value.int IntKind.u32 0,Value.int IntKind.u32 0,Value.int IntKind.u32 0,Value.int IntKind.u32 0]:Array Value).size=(nums .u32 (sched l 64)).size:=by rw [nums_size,HSL.out];rfl
 obtain ⟨W3,hW3⟩:∃ W3,W3=w1.alloc (.cells (nums .u32 (sched l 64)) 124):=⟨_,rfl⟩
 have hrow3:Row .u32 95 W3 w.heap.size s.list:=by rw [hW3];exact Holds.alloc hrow1 _
 have hres3:Holds W3 (w.heap.size+1) 95 #[Value.int IntKind.u32 0,Value.int IntKind.u32 0,Value.int IntKind.u32 0,Value.int IntKind.u32 0,Value.int IntKind.u32 0,Value.int IntKind.u32 0,Value.int IntKind.u32 0,Value.int IntKind.u32 0]:=by rw [hW3];exact Holds.alloc hres1 _
 have hws3:Row .u32 124 W3 w1.heap.size (sched l 64):=by rw [hW3];exact Holds.fresh _ _ _
 have hbel3:Below w.heap.size w W3:=by rw [hW3];exact hbel1.alloc hbel1.size _
 have hs3:W3.heap.size=w1.heap.size+1:=by rw [hW3];simp
 have hk3:KMet W3:=by rw [hW3];exact hk2.under ((Below.refl _ _).alloc (Nat.le_refl _) _)
 obtain ⟨W4,hW4⟩:∃ W4,W4=W3.alloc (.cells #[Value.int IntKind.u32 0,Value.int IntKind.u32 0,Value.int IntKind.u32 0,Value.int IntKind.u32 0,Value.int IntKind.u32 0,Value.int IntKind.u32 0,Value.int IntKind.u32 0,Value.int IntKind.u32 0] 95):=⟨_,rfl⟩
 have h6:Holds W4 (w1.heap.size+1) 95 #[Value.int IntKind.u32 0,Value.int IntKind.u32 0,Value.int IntKind.u32 0,Value.int IntKind.u32 0,Value.int IntKind.u32 0,Value.int IntKind.u32 0,Value.int IntKind.u32 0,Value.int IntKind.u32 0]:=by rw [hW4,←hs3];exact Holds.fresh _ _ _
 have hset6:W4.setRow (w1.heap.size+1) (nums .u32 s.list)=W3.alloc (.cells (nums .u32 s.list) 95):=by rw [hW4,←hs3];exact World.setRow_alloc_new _ _ _ _
 have HW2:=Lib.hid hW2
 have HW3:=Lib.hid hW3
 have HW4:=Lib.hid hW4
 have HS5:=Lib.hid hset5
 have HS6:=Lib.hid hset6
 have HS3:=Lib.hid hs3
 clear hrow1 hres1 hbel1 hk2 hW2 hW3 hW4 hset5 hset6 hs3
 go_wp2_with (first
  | (rw [←HW2.out];refine wpList_store_row rfl 124 (.tmp 5) (.tmp 16) rfl (w1.heap.size) (nums .u32 (sched l 64)) rfl rfl 124 (#[Value.int IntKind.u32 0,Value.int IntKind.u32 0,Value.int IntKind.u32 0,Value.int IntKind.u32 0,Value.int IntKind.u32 0,Value.int IntKind.u32 0,Value.int IntKind.u32 0,Value.int IntKind.u32 0,Value.int IntKind.u32 0,Value.int IntKind.u32 0,Value.int IntKind.u32 0,Value.int IntKind.u32 0,Value.int IntKind.u32 0,Value.int IntKind.u32 0,Value.int IntKind.u32 0,Value.int IntKind.u32 0,Value.int IntKind.u32 0,Value.int IntKind.u32 0,Value.int IntKind.u32 0,Value.int IntKind.u32 0,Value.int IntKind.u32 0,Value.int IntKind.u32 0,Value.int IntKind.u32 0,Value.int IntKind.u32 0,Value.int IntKind.u32 0,Value.int IntKind.u32 0,Value.int IntKind.u32 0,Value.int IntKind.u32 0,Value.int IntKind.u32 0,Value.int IntKind.u32 0,Value.int IntKind.u32 0,Value.int IntKind.u32 0,Value.int IntKind.u32 0,Value.int IntKind.u32 0,Value.int IntKind.u32 0,Value.int IntKind.u32 0,Value.int IntKind.u32 0,Value.int IntKind.u32 0,Value.int IntKind.u32 0,Value.int IntKind.u32 0,Value.int IntKind.u32 0,Value.int IntKind.u32 0,Value.int IntKind.u32 0,Value.int IntKind.u32 0,Value.int IntKind.u32 0,Value.int IntKind.u32 0,Value.int IntKind.u32 0,Value.int IntKind.u32 0,Value.int IntKind.u32 0,Value.int IntKind.u32 0,Value.int IntKind.u32 0,Value.int IntKind.u32 0,Value.int IntKind.u32 0,Value.int IntKind.u32 0,Value.int IntKind.u32 0,Value.int IntKind.u32 0,Value.int IntKind.u32 0,Value.int IntKind.u32 0,Value.int IntKind.u32 0,Value.int IntKind.u32 0,Value.int IntKind.u32 0,Value.int IntKind.u32 0,Value.int IntKind.u32 0,Value.int IntKind.u32 0]) h5 hi64 hz64 hone64 ?_;rw [HS5.out,←HW3.out])
  | (refine wpList_load_row rfl 95 (.tmp 2) rfl (w.heap.size) rfl 95 (nums .u32 s.list) (0,0) _ hrow3 Tryz.underlying95 rfl hi ?_)
  | (rw [←HW4.out,HS3.out];refine wpList_store_row rfl 95 (.tmp 6) (.tmp 17) rfl (w1.heap.size+1) (nums .u32 s.list) rfl rfl 95 (#[Value.int IntKind.u32 0,Value.int IntKind.u32 0,Value.int IntKind.u32 0,Value.int IntKind.u32 0,Value.int IntKind.u32 0,Value.int IntKind.u32 0,Value.int IntKind.u32 0,Value.int IntKind.u32 0]) h6 hi rfl hone ?_;rw [HS6.out]))
 have hrow6:Row .u32 95 (W3.alloc (.cells (nums .u32 s.list) 95)) (w1.heap.size+1) s.list:=by rw [←HS3.out];exact Holds.fresh _ _ _
 have hrow7:=Holds.alloc hrow3 (.cells (nums .u32 s.list) 95)
 have hres7:=Holds.alloc hres3 (.cells (nums .u32 s.list) 95)
 have hws7:=Holds.alloc hws3 (.cells (nums .u32 s.list) 95)
 have hbel7:=hbel3.alloc hbel3.size (.cells (nums .u32 s.list) 95)
 have hk7:=hk3.under ((Below.refl W3.heap.size W3).alloc (Nat.le_refl _) (.cells (nums .u32 s.list) 95))
 have hlo:w.heap.size+1<w1.heap.size:=by omega
 generalize W3.alloc (.cells (nums .u32 s.list) 95)=V at *
 clear hrow3 hres3 hws3 hbel3 hk3 HW2 HW3 HW4 HS5 HS6 HS3 h5 h6 hz64 hi64 hone64
 generalize hg5:w1.heap.size=g5 at *
 clear hg5
 go_loopw [18] (fun i wr=>RelR s l w g5 (g5+1) i wr) (fun i _=>64 - (intOf i).toNat)
 case atStart=>exact ⟨0,Nat.zero_le _,rfl,hrow6,hws7,hrow7,hres7,hk7,hbel7⟩
 case round =>
  clear hrow6 hws7 hrow7 hres7 hk7 hbel7
  obtain ⟨k,hk,rfl,hrow6,hws7,hrow7,hres7,hk7,hbel7⟩:=hrel
  obtain ⟨V,hV⟩:∃ V,V=wr:=⟨_,rfl⟩
  subst hV
  by_cases hkn:k<64
  case pos =>
   have hok:=rounds_ok hs (sched l 64) k
   have HN:Hid (rounds6 s (sched l 64) (k+1)=(rounds6 s (sched l 64) k).next (KL.getD k 0) ((sched l 64).getD k 0)):=Lib.hid rfl
   generalize rounds6 s (sched l 64) k=S at *
   have c0:V.cell? ⟨g5+1,0,none⟩=some (.int .u32 (S.a:Int)):=hrow6.cell (i:=0) (by show 0<8;omega)
   have c1:V.cell? ⟨g5+1,1,none⟩=some (.int .u32 (S.b:Int)):=hrow6.cell (i:=1) (by show 1<8;omega)
   have c2:V.cell? ⟨g5+1,2,none⟩=some (.int .u32 (S.c:Int)):=hrow6.cell (i:=2) (by show 2<8;omega)
   have c3:V.cell? ⟨g5+1,3,none⟩=some (.int .u32 (S.d:Int)):=hrow6.cell (i:=3) (by show 3<8;omega)
   have c4:V.cell? ⟨g5+1,4,none⟩=some (.int .u32 (S.e:Int)):=hrow6.cell (i:=4) (by show 4<8;omega)
   have c5:V.cell? ⟨g5+1,5,none⟩=some (.int .u32 (S.f:Int)):=hrow6.cell (i:=5) (by show 5<8;omega)
   have c6:V.cell? ⟨g5+1,6,none⟩=some (.int .u32 (S.g:Int)):=hrow6.cell (i:=6) (by show 6<8;omega)
   have c7:V.cell? ⟨g5+1,7,none⟩=some (.int .u32 (S.h:Int)):=hrow6.cell (i:=7) (by show 7<8;omega)
   have cw:=hws7.cell (i:=k) (by rw [sched_length];exact hkn)
   have ck:=hk7.2 k hkn
   have zk:=kl_lt k hkn
   have zw:=sched_lt ho 64 k
   generalize (sched l 64).getD k 0=x at *
   generalize KL.getD k 0=y at *
   obtain ⟨za,zb,zc,zd,ze,zf,zg,zh⟩:=hok
   obtain ⟨a,b,c',d,e,f,g,h⟩:=S
   dsimp only at c0 c1 c2 c3 c4 c5 c6 c7 za zb zc zd ze zf zg zh
   have k0:(0:Int)≤(k:Int):=by omega
   have k64:(k:Int)<64:=by omega
   have hif:(if IntKind.u32.signed=true then (-1:Int) else IntKind.u32.max)=4294967295:=rfl
   have HH1:=Lib.hid (fun W=>turn_int W e 6 11 25 ze (by decide))
   have HH2:=Lib.hid (fun W=>turn_int W a 2 13 22 za (by decide))
   go_wp2_with fail
   go_quiet ((go_at_call 131;exact quiet_one (fun W=>HH1.out W)))
   replace HN:Hid (rounds6 s (sched l 64) (k+1)=⟨(t1 ⟨a,b,c',d,e,f,g,h⟩ y x+t2 ⟨a,b,c',d,e,f,g,h⟩) % 4294967296,a,b,c',(d+t1 ⟨a,b,c',d,e,f,g,h⟩ y x) % 4294967296,e,f,g⟩):=Lib.hid HN.out
   rw [t1_eq a b c' d ze zf zg zh zk zw]
   have zt1:=t1_lt ⟨a,b,c',d,e,f,g,h⟩ y x
   generalize t1 ⟨a,b,c',d,e,f,g,h⟩ y x=r1 at *
   change (V.drewN nq).cell? _=_ at c0 c1 c2 c3 c4 c5 c6 c7
   replace hrow6:=hrow6.drewN nq
   replace hws7:=hws7.drewN nq
   replace hrow7:=hrow7.drewN nq
   replace hres7:=hres7.drewN nq
   replace hk7:KMet (V.drewN nq):=hk7
   replace hbel7:Below w.heap.size w (V.drewN nq):=⟨hbel7.os,hbel7.tape,hbel7.output,hbel7.size,hbel7.block⟩
   clear cw ck HH1
   generalize V.drewN nq=V1 at *
   go_wp2_with fail
   go_quiet ((go_at_call 131;exact quiet_one (fun W=>HH2.out W)))
   rw [t2_eq d e f g h za zb zc]
   have zt2:=t2_lt ⟨a,b,c',d,e,f,g,h⟩
   generalize t2 ⟨a,b,c',d,e,f,g,h⟩=r2 at *
   have HN2:=HN
   change (V1.drewN nq).cell? _=_ at c0 c1 c2 c3 c4 c5 c6 c7
   replace hrow6:=hrow6.drewN nq
   replace hws7:=hws7.drewN nq
   replace hrow7:=hrow7.drewN nq
   replace hres7:=hres7.drewN nq
   replace hbel7:Below w.heap.size w (V1.drewN nq):=⟨hbel7.os,hbel7.tape,hbel7.output,hbel7.size,hbel7.block⟩
   clear hk7 HH2 HN hif zk zw
   generalize V1.drewN nq=V2 at *
   have HE:Hid ((#[.int .u32 (((r1:Int)+(r2:Int)) % 4294967296),.int .u32 (a:Int),.int .u32 (b:Int),.int .u32 (c':Int),.int .u32 (((d:Int)+(r1:Int)) % 4294967296),.int .u32 (e:Int),.int .u32 (f:Int),.int .u32 (g:Int)]:Array Value)=nums .u32 (rounds6 s (sched l 64) (k+1)).list):=Lib.hid (by
    rw [HN2.out]
    have e1:((r1:Int)+(r2:Int)) % 4294967296=(((r1+r2) % 4294967296:Nat):Int):=by omega
    have e2:((d:Int)+(r1:Int)) % 4294967296=(((d+r1) % 4294967296:Nat):Int):=by omega
    rw [e1,e2]
    rfl)
   have ho8:=one8 (((r1:Int)+(r2:Int)) % 4294967296) a b c' (((d:Int)+(r1:Int)) % 4294967296) e f g
   have hs8:=size8 ⟨a,b,c',d,e,f,g,h⟩
   go_wp2_with (refine wpList_store_row rfl 95 (.tmp 6) (.tmp 88) rfl (g5+1) #[.int .u32 (((r1:Int)+(r2:Int)) % 4294967296),.int .u32 (a:Int),.int .u32 (b:Int),.int .u32 (c':Int),.int .u32 (((d:Int)+(r1:Int)) % 4294967296),.int .u32 (e:Int),.int .u32 (f:Int),.int .u32 (g:Int)] rfl rfl 95 _ hrow6 hi8 hs8 ho8 ?_)
   rw [HE.out]
   have hrow8:Row .u32 95 (V2.setRow (g5+1) (nums .u32 (rounds6 s (sched l 64) (k+1)).list)) (g5+1) (rounds6 s (sched l 64) (k+1)).list:=setRow_heap _ _ _ _ _ _ hrow6
   have hws8:=holds_setRow hws7 (show g5≠g5+1 by omega) (nums .u32 (rounds6 s (sched l 64) (k+1)).list)
   have hrow9:=holds_setRow hrow7 (show w.heap.size≠g5+1 by omega) (nums .u32 (rounds6 s (sched l 64) (k+1)).list)
   have hres8:=holds_setRow hres7 (show w.heap.size+1≠g5+1 by omega) (nums .u32 (rounds6 s (sched l 64) (k+1)).list)
   have hbel8:=below_setRow hbel7 (show w.heap.size≤g5+1 by omega) (nums .u32 (rounds6 s (sched l 64) (k+1)).list)
   have hk8:=HK.out.under hbel8
   generalize V2.setRow (g5+1) (nums .u32 (rounds6 s (sched l 64) (k+1)).list)=V3 at *
   clear hrow6 hws7 hrow7 hres7 hbel7 HE HN2 c0 c1 c2 c3 c4 c5 c6 c7
   go_wp2_with fail
   go_roundw
   case rel=>exact ⟨k+1,by omega,by go_num,hrow8,hws8,hrow9,hres8,hk8,hbel8⟩
   case measure=>simp [intOf];omega
  case neg =>
   obtain rfl:k=64:=by omega
   have HB:Hid ((blk s l)=s.plus (rounds6 s (sched l 64) 64)):=Lib.hid (by rw [blk,if_pos hl])
   have hf:decide (((64:Nat):Int)<64)=false:=by decide
   generalize rounds6 s (sched l 64) 64=S at *
   go_wp2_with fail
   clear hf hws7 hk7
   go_loopw [90] (fun i wr=>RelP s S w (g5+1) i wr) (fun i _=>8 - (intOf i).toNat)
   case atStart=>exact ⟨0,s.list,Nat.zero_le _,rfl,hrow7,rfl,Lib.hid (fun j hj=>by rw [if_neg (by omega)]),hrow6,hres7,hbel7⟩
   case round =>
    clear hrow7 hrow6 hres7 hbel7
    obtain ⟨k,L,hk,rfl,hrow,hL,HL,hrow6,hres,hbk⟩:=hrel
    obtain ⟨V,hV⟩:∃ V,V=wr:=⟨_,rfl⟩
    subst hV
    by_cases hkn:k<8
    case pos =>
     have c1:=hrow.cell (i:=k) (by omega)
     have c2:=hrow6.cell (i:=k) (by show k<8;omega)
     have hfr:=hrow.open_ k
     have k0:(0:Int)≤(k:Int):=by omega
     have k8:(k:Int)<8:=by omega
     have HX:Hid ((L.getD k 0+S.list.getD k 0) % 4294967296=(s.plus S).list.getD k 0):=Lib.hid (by rw [HL.out k hkn,if_neg (by omega)];exact (plus_at s S k hkn).symm)
     have HS:=Lib.hid (fun x=>plus_store (x:=x) hrow hL HL.out hrow6 hres hbk hkn (by omega:w.heap.size+1<g5+1))
     generalize L.getD k 0=x at *
     generalize S.list.getD k 0=y at *
     clear hrow hrow6 hres hbk
     go_wp2_with fail
     go_region
     have E:((x:Int)+(y:Int)) % 4294967296=(((x+y) % 4294967296:Nat):Int):=by omega
     have hst:RelP s S w (g5+1) (.int .i64 ((k:Int)+1)) (V.setCell ⟨w.heap.size,k,none⟩ (.int .u32 (((x:Int)+(y:Int)) % 4294967296))).drew:=by
      rw [E]
      exact HS.out _ HX.out
     generalize World.drew _=V2 at hst ⊢
     clear E HS HX c1 c2 hfr HL hL
     go_wp2_with fail
     go_roundw
     case rel=>exact hst
     case measure=>simp [intOf];omega
    case neg =>
     obtain rfl:k=8:=by omega
     have HE:Hid (L=(s.plus S).list):=Lib.hid (by
      apply List.ext_getElem (by rw [hL];rfl)
      intro j h1 h2
      have:=HL.out j (by omega)
      rw [if_pos (by omega)] at this
      simpa [List.getD,h1,h2] using this)
     have hf:decide (((8:Nat):Int)<8)=false:=by decide
     have hi2:(Tryz.prog.info? 95).map (·.size)=some (nums .u32 L).size:=by rw [nums_size,hL];kernel_rfl
     have hone2:=nums_one .u32 L
     have hsz2:(#[Value.int IntKind.u32 0,Value.int IntKind.u32 0,Value.int IntKind.u32 0,Value.int IntKind.u32 0,Value.int IntKind.u32 0,Value.int IntKind.u32 0,Value.int IntKind.u32 0,Value.int IntKind.u32 0]:Array Value).size=(nums .u32 L).size:=by rw [nums_size,hL];rfl
     have HR2:=Lib.hid (setRow_heap V (w.heap.size+1) _ (nums .u32 L) 95 (0,0) hres)
     have HB2:=Lib.hid (below_setRow hbk (Nat.le_succ _) (nums .u32 L))
     go_wp2_with (first
      | (refine wpList_load_row rfl 95 (.tmp 2) rfl (w.heap.size) rfl 95 (nums .u32 L) (0,0) _ hrow Tryz.underlying95 rfl hi2 ?_)
      | (refine wpList_store_row rfl 95 (.tmp 4) (.tmp 102) rfl (w.heap.size+1) (nums .u32 L) rfl rfl 95 (#[Value.int IntKind.u32 0,Value.int IntKind.u32 0,Value.int IntKind.u32 0,Value.int IntKind.u32 0,Value.int IntKind.u32 0,Value.int IntKind.u32 0,Value.int IntKind.u32 0,Value.int IntKind.u32 0]) hres hi2 hsz2 hone2 ?_))
     rw [HB.out,←HE.out]
     exact bodyPost_ret (v:=.agg (nums .u32 L)) (results_cell_row rfl _ _ (w.heap.size+1) 95 (nums .u32 L) (0,0) _ rfl HR2.out Tryz.underlying95 rfl hi2) rfl ⟨rfl,HB2.out⟩
end Go.Proofs.YtcibjcgipfpniaaGreatDoor
