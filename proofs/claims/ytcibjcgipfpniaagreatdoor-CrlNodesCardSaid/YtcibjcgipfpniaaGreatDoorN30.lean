/- Words and laws for the statement, part 30. -/
import Derived.StillTailTactics
import Derived.Test.YtcibjcgipfpniaaGreatDoorN03
namespace Go.Proofs.YtcibjcgipfpniaaGreatDoor
open Go.RowKit
set_option linter.unusedVariables false
attribute [local go_sem ↓] Go.wp_at_zero Go.wp_at_succ

set_option maxRecDepth 100000 in
theorem k64:(#[Value.int IntKind.u32 1116352408,Value.int IntKind.u32 1899447441,Value.int IntKind.u32 3049323471,Value.int IntKind.u32 3921009573,Value.int IntKind.u32 961987163,Value.int IntKind.u32 1508970993,Value.int IntKind.u32 2453635748,Value.int IntKind.u32 2870763221,Value.int IntKind.u32 3624381080,Value.int IntKind.u32 310598401,Value.int IntKind.u32 607225278,Value.int IntKind.u32 1426881987,Value.int IntKind.u32 1925078388,Value.int IntKind.u32 2162078206,Value.int IntKind.u32 2614888103,Value.int IntKind.u32 3248222580,Value.int IntKind.u32 3835390401,Value.int IntKind.u32 4022224774,Value.int IntKind.u32 264347078,Value.int IntKind.u32 604807628,Value.int IntKind.u32 770255983,Value.int IntKind.u32 1249150122,Value.int IntKind.u32 1555081692,Value.int IntKind.u32 1996064986,Value.int IntKind.u32 2554220882,Value.int IntKind.u32 2821834349,Value.int IntKind.u32 2952996808,Value.int IntKind.u32 3210313671,Value.int IntKind.u32 3336571891,Value.int IntKind.u32 3584528711,Value.int IntKind.u32 113926993,Value.int IntKind.u32 338241895,Value.int IntKind.u32 666307205,Value.int IntKind.u32 773529912,Value.int IntKind.u32 1294757372,Value.int IntKind.u32 1396182291,Value.int IntKind.u32 1695183700,Value.int IntKind.u32 1986661051,Value.int IntKind.u32 2177026350,Value.int IntKind.u32 2456956037,Value.int IntKind.u32 2730485921,Value.int IntKind.u32 2820302411,Value.int IntKind.u32 3259730800,Value.int IntKind.u32 3345764771,Value.int IntKind.u32 3516065817,Value.int IntKind.u32 3600352804,Value.int IntKind.u32 4094571909,Value.int IntKind.u32 275423344,Value.int IntKind.u32 430227734,Value.int IntKind.u32 506948616,Value.int IntKind.u32 659060556,Value.int IntKind.u32 883997877,Value.int IntKind.u32 958139571,Value.int IntKind.u32 1322822218,Value.int IntKind.u32 1537002063,Value.int IntKind.u32 1747873779,Value.int IntKind.u32 1955562222,Value.int IntKind.u32 2024104815,Value.int IntKind.u32 2227730452,Value.int IntKind.u32 2361852424,Value.int IntKind.u32 2428436474,Value.int IntKind.u32 2756734187,Value.int IntKind.u32 3204031479,Value.int IntKind.u32 3329325298]:Array Value)=nums .u32 KL:=rfl
theorem turned_int (w:World) (x:Nat) (z:Int) (hx:x<4294967296) (hz:0≤z∧Turns z.toNat):Calls Tryz.prog 113 #[.int .u32 (x:Int),.int .u64 z] w fun e w'=>e = .returned (.int .u32 ((rotI x z:Nat):Int))∧w=w':=by
 obtain ⟨n,rfl⟩:∃ n:Nat,z=(n:Int):=⟨z.toNat,by omega⟩
 exact turned_any w x n hx hz.2
theorem triI_eq {x:Nat} (h:x<4294967296) (n m l:Int):bits .xor .u32 (bits .xor .u32 ((rotI x n:Nat):Int) ((rotI x m:Nat):Int)) ((rotI x l:Nat):Int)=((triI x n m l:Nat):Int):=tri_eq h _ _ _

set_option maxRecDepth 100000 in
set_option maxHeartbeats 1000000 in
theorem words'_any (w:World):Calls Tryz.prog 114 #[] w fun e w'=>e = .returned (.agg (nums .u32 KL))∧Below w.heap.size w w':=by
 obtain ⟨W,hW⟩:∃ W,W=w.alloc (.cells #[Value.int IntKind.u32 0,Value.int IntKind.u32 0,Value.int IntKind.u32 0,Value.int IntKind.u32 0,Value.int IntKind.u32 0,Value.int IntKind.u32 0,Value.int IntKind.u32 0,Value.int IntKind.u32 0,Value.int IntKind.u32 0,Value.int IntKind.u32 0,Value.int IntKind.u32 0,Value.int IntKind.u32 0,Value.int IntKind.u32 0,Value.int IntKind.u32 0,Value.int IntKind.u32 0,Value.int IntKind.u32 0,Value.int IntKind.u32 0,Value.int IntKind.u32 0,Value.int IntKind.u32 0,Value.int IntKind.u32 0,Value.int IntKind.u32 0,Value.int IntKind.u32 0,Value.int IntKind.u32 0,Value.int IntKind.u32 0,Value.int IntKind.u32 0,Value.int IntKind.u32 0,Value.int IntKind.u32 0,Value.int IntKind.u32 0,Value.int IntKind.u32 0,Value.int IntKind.u32 0,Value.int IntKind.u32 0,Value.int IntKind.u32 0,Value.int IntKind.u32 0,Value.int IntKind.u32 0,Value.int IntKind.u32 0,Value.int IntKind.u32 0,Value.int IntKind.u32 0,Value.int IntKind.u32 0,Value.int IntKind.u32 0,Value.int IntKind.u32 0,Value.int IntKind.u32 0,Value.int IntKind.u32 0,Value.int IntKind.u32 0,Value.int IntKind.u32 0,Value.int IntKind.u32 0,Value.int IntKind.u32 0,Value.int IntKind.u32 0,Value.int IntKind.u32 0,Value.int IntKind.u32 0,Value.int IntKind.u32 0,Value.int IntKind.u32 0,Value.int IntKind.u32 0,Value.int IntKind.u32 0,Value.int IntKind.u32 0,Value.int IntKind.u32 0,Value.int IntKind.u32 0,Value.int IntKind.u32 0,Value.int IntKind.u32 0,Value.int IntKind.u32 0,Value.int IntKind.u32 0,Value.int IntKind.u32 0,Value.int IntKind.u32 0,Value.int IntKind.u32 0,Value.int IntKind.u32 0] 124):=⟨_,rfl⟩
 have h5:Holds W w.heap.size 124 #[Value.int IntKind.u32 0,Value.int IntKind.u32 0,Value.int IntKind.u32 0,Value.int IntKind.u32 0,Value.int IntKind.u32 0,Value.int IntKind.u32 0,Value.int IntKind.u32 0,Value.int IntKind.u32 0,Value.int IntKind.u32 0,Value.int IntKind.u32 0,Value.int IntKind.u32 0,Value.int IntKind.u32 0,Value.int IntKind.u32 0,Value.int IntKind.u32 0,Value.int IntKind.u32 0,Value.int IntKind.u32 0,Value.int IntKind.u32 0,Value.int IntKind.u32 0,Value.int IntKind.u32 0,Value.int IntKind.u32 0,Value.int IntKind.u32 0,Value.int IntKind.u32 0,Value.int IntKind.u32 0,Value.int IntKind.u32 0,Value.int IntKind.u32 0,Value.int IntKind.u32 0,Value.int IntKind.u32 0,Value.int IntKind.u32 0,Value.int IntKind.u32 0,Value.int IntKind.u32 0,Value.int IntKind.u32 0,Value.int IntKind.u32 0,Value.int IntKind.u32 0,Value.int IntKind.u32 0,Value.int IntKind.u32 0,Value.int IntKind.u32 0,Value.int IntKind.u32 0,Value.int IntKind.u32 0,Value.int IntKind.u32 0,Value.int IntKind.u32 0,Value.int IntKind.u32 0,Value.int IntKind.u32 0,Value.int IntKind.u32 0,Value.int IntKind.u32 0,Value.int IntKind.u32 0,Value.int IntKind.u32 0,Value.int IntKind.u32 0,Value.int IntKind.u32 0,Value.int IntKind.u32 0,Value.int IntKind.u32 0,Value.int IntKind.u32 0,Value.int IntKind.u32 0,Value.int IntKind.u32 0,Value.int IntKind.u32 0,Value.int IntKind.u32 0,Value.int IntKind.u32 0,Value.int IntKind.u32 0,Value.int IntKind.u32 0,Value.int IntKind.u32 0,Value.int IntKind.u32 0,Value.int IntKind.u32 0,Value.int IntKind.u32 0,Value.int IntKind.u32 0,Value.int IntKind.u32 0]:=by rw [hW];exact Holds.fresh _ _ _
 have hb:Below w.heap.size w W:=by rw [hW];exact (Below.refl _ _).alloc (Nat.le_refl _) _
 have hi:(Tryz.prog.info? 124).map (·.size)=some (nums .u32 KL).size:=by rw [nums_size];kernel_rfl
 have hone:=nums_one .u32 KL
 have hz:(#[Value.int IntKind.u32 0,Value.int IntKind.u32 0,Value.int IntKind.u32 0,Value.int IntKind.u32 0,Value.int IntKind.u32 0,Value.int IntKind.u32 0,Value.int IntKind.u32 0,Value.int IntKind.u32 0,Value.int IntKind.u32 0,Value.int IntKind.u32 0,Value.int IntKind.u32 0,Value.int IntKind.u32 0,Value.int IntKind.u32 0,Value.int IntKind.u32 0,Value.int IntKind.u32 0,Value.int IntKind.u32 0,Value.int IntKind.u32 0,Value.int IntKind.u32 0,Value.int IntKind.u32 0,Value.int IntKind.u32 0,Value.int IntKind.u32 0,Value.int IntKind.u32 0,Value.int IntKind.u32 0,Value.int IntKind.u32 0,Value.int IntKind.u32 0,Value.int IntKind.u32 0,Value.int IntKind.u32 0,Value.int IntKind.u32 0,Value.int IntKind.u32 0,Value.int IntKind.u32 0,Value.int IntKind.u32 0,Value.int IntKind.u32 0,Value.int IntKind.u32 0,Value.int IntKind.u32 0,Value.int IntKind.u32 0,Value.int IntKind.u32 0,Value.int IntKind.u32 0,Value.int IntKind.u32 0,Value.int IntKind.u32 0,Value.int IntKind.u32 0,Value.int IntKind.u32 0,Value.int IntKind.u32 0,Value.int IntKind.u32 0,Value.int IntKind.u32 0,Value.int IntKind.u32 0,Value.int IntKind.u32 0,Value.int IntKind.u32 0,Value.int IntKind.u32 0,Value.int IntKind.u32 0,Value.int IntKind.u32 0,Value.int IntKind.u32 0,Value.int IntKind.u32 0,Value.int IntKind.u32 0,Value.int IntKind.u32 0,Value.int IntKind.u32 0,Value.int IntKind.u32 0,Value.int IntKind.u32 0,Value.int IntKind.u32 0,Value.int IntKind.u32 0,Value.int IntKind.u32 0,Value.int IntKind.u32 0,Value.int IntKind.u32 0,Value.int IntKind.u32 0,Value.int IntKind.u32 0]:Array Value).size=(nums .u32 KL).size:=by rw [nums_size];rfl
 have HW:=Lib.hid hW
 have HR2:=Lib.hid (setRow_heap W w.heap.size _ (nums .u32 KL) 124 (0,0) h5)
 have HB2:=Lib.hid (below_setRow hb (Nat.le_refl _) (nums .u32 KL))
 clear hW
 go_enter Tryz.func114,Tryz.ntmps114
 go_wp2_with (rw [←HW.out,k64];refine wpList_store_row rfl 124 (.tmp 0) (.tmp 1) rfl (w.heap.size) (nums .u32 KL) rfl rfl 124 (#[Value.int IntKind.u32 0,Value.int IntKind.u32 0,Value.int IntKind.u32 0,Value.int IntKind.u32 0,Value.int IntKind.u32 0,Value.int IntKind.u32 0,Value.int IntKind.u32 0,Value.int IntKind.u32 0,Value.int IntKind.u32 0,Value.int IntKind.u32 0,Value.int IntKind.u32 0,Value.int IntKind.u32 0,Value.int IntKind.u32 0,Value.int IntKind.u32 0,Value.int IntKind.u32 0,Value.int IntKind.u32 0,Value.int IntKind.u32 0,Value.int IntKind.u32 0,Value.int IntKind.u32 0,Value.int IntKind.u32 0,Value.int IntKind.u32 0,Value.int IntKind.u32 0,Value.int IntKind.u32 0,Value.int IntKind.u32 0,Value.int IntKind.u32 0,Value.int IntKind.u32 0,Value.int IntKind.u32 0,Value.int IntKind.u32 0,Value.int IntKind.u32 0,Value.int IntKind.u32 0,Value.int IntKind.u32 0,Value.int IntKind.u32 0,Value.int IntKind.u32 0,Value.int IntKind.u32 0,Value.int IntKind.u32 0,Value.int IntKind.u32 0,Value.int IntKind.u32 0,Value.int IntKind.u32 0,Value.int IntKind.u32 0,Value.int IntKind.u32 0,Value.int IntKind.u32 0,Value.int IntKind.u32 0,Value.int IntKind.u32 0,Value.int IntKind.u32 0,Value.int IntKind.u32 0,Value.int IntKind.u32 0,Value.int IntKind.u32 0,Value.int IntKind.u32 0,Value.int IntKind.u32 0,Value.int IntKind.u32 0,Value.int IntKind.u32 0,Value.int IntKind.u32 0,Value.int IntKind.u32 0,Value.int IntKind.u32 0,Value.int IntKind.u32 0,Value.int IntKind.u32 0,Value.int IntKind.u32 0,Value.int IntKind.u32 0,Value.int IntKind.u32 0,Value.int IntKind.u32 0,Value.int IntKind.u32 0,Value.int IntKind.u32 0,Value.int IntKind.u32 0,Value.int IntKind.u32 0]) h5 hi hz hone ?_)
 exact bodyPost_ret (v:=.agg (nums .u32 KL)) (results_cell_row rfl _ _ w.heap.size 124 (nums .u32 KL) (0,0) _ rfl HR2.out Tryz.underlying124 rfl hi) rfl ⟨rfl,HB2.out⟩

set_option maxRecDepth 100000 in
set_option maxHeartbeats 2000000 in
theorem block'_short (w:World) (s:StS) (A:Option Addr) (c n:Nat) (hn:n≠64) :
  Calls Tryz.prog 77 #[.agg (nums .u32 s.list),.slice A n c] w fun e w'=>e = .returned (.agg (nums .u32 s.list))∧Below w.heap.size w w':=by
 have hne:((n:Int) != 64)=true:=by rw [bne_iff_ne];omega
 obtain ⟨W,hW,hrow,hres,hbel,_⟩:=begun w s
 have hi:=st_info s
 have hone:=nums_one .u32 s.list
 have HR:=Lib.hid (setRow_heap W (w.heap.size+1) _ (nums .u32 s.list) 95 (0,0) hres)
 have HB:=Lib.hid (below_setRow hbel (Nat.le_succ _) (nums .u32 s.list))
 have HW:=Lib.hid hW
 clear hW
 go_enter Tryz.func77,Tryz.ntmps77
 go_wp2_with (first
  | (rw [←HW.out];refine wpList_load_row rfl 95 (.tmp 2) rfl (w.heap.size) rfl 95 (nums .u32 s.list) (0,0) _ hrow Tryz.underlying95 rfl hi ?_)
  | (refine wpList_store_row rfl 95 (.tmp 4) (.tmp 21) rfl (w.heap.size+1) (nums .u32 s.list) rfl rfl 95 (#[Value.int IntKind.u32 0,Value.int IntKind.u32 0,Value.int IntKind.u32 0,Value.int IntKind.u32 0,Value.int IntKind.u32 0,Value.int IntKind.u32 0,Value.int IntKind.u32 0,Value.int IntKind.u32 0]) hres hi rfl hone ?_))
 exact bodyPost_ret (v:=.agg (nums .u32 s.list)) (results_cell_row rfl _ _ (w.heap.size+1) 95 (nums .u32 s.list) (0,0) _ rfl HR.out Tryz.underlying95 rfl hi) rfl ⟨rfl,HB.out⟩

/-- Block g is words of which the first k are the block's. -/
def WT (s:StS) (l:List Nat) (w:World) (B:Nat) (A:Option Addr) (c k:Nat) (wr:World):Prop :=
 ∃ L:List Nat,Row .u32 124 wr (w.heap.size+2) L∧L.length=64∧Hid (L.take k=sched l k)∧M32 L∧Row .u32 95 wr w.heap.size s.list∧Holds wr (w.heap.size+1) 95 #[Value.int IntKind.u32 0,Value.int IntKind.u32 0,Value.int IntKind.u32 0,Value.int IntKind.u32 0,Value.int IntKind.u32 0,Value.int IntKind.u32 0,Value.int IntKind.u32 0,Value.int IntKind.u32 0]∧Rd .u8 wr B A c l∧Below w.heap.size w wr
def RelWS' (s:StS) (l:List Nat) (w:World) (B:Nat) (A:Option Addr) (c n:Nat) (i:Value) (wr:World):Prop :=
 ∃ k:Nat,k≤n∧i = .int .i64 k∧WT s l w B A c k wr
def RelX' (s:StS) (l:List Nat) (w:World) (B:Nat) (A:Option Addr) (c:Nat) (i:Value) (wr:World):Prop :=
 ∃ k:Nat,16≤k∧k≤64∧i = .int .i64 k∧WT s l w B A c k wr
theorem wt_store {s:StS} {l L:List Nat} {w wr W2:World} {B:Nat} {A:Option Addr} {c k:Nat} {x:Nat} (hrow:Row .u32 124 wr (w.heap.size+2) L) (hL:L.length=64) (HL:L.take k=sched l k) (hm:M32 L) (hR:Row .u32 95 wr w.heap.size s.list) (hres:Holds wr (w.heap.size+1) 95 #[Value.int IntKind.u32 0,Value.int IntKind.u32 0,Value.int IntKind.u32 0,Value.int IntKind.u32 0,Value.int IntKind.u32 0,Value.int IntKind.u32 0,Value.int IntKind.u32 0,Value.int IntKind.u32 0]) (hrd:Rd .u8 wr B A c l) (hb:Below w.heap.size w wr) (hB:B≤w.heap.size) (hk:k<64)
  (V2:World) (hV2:∃ n,V2=wr.drewN n) (hx:x=nextW l L k) (hx32:x<4294967296) (hW2:∃ n,W2=(V2.setCell ⟨w.heap.size+2,k,none⟩ (.int .u32 (x:Int))).drewN n):WT s l w B A c (k+1) W2:=by
 obtain ⟨n,rfl⟩:=hV2
 obtain ⟨m,rfl⟩:=hW2
 have hg:wr.grownBy ((((wr.drewN n).setCell ⟨w.heap.size+2,k,none⟩ (.int .u32 (x:Int)))).drewN m) (some (w.heap.size+2)):=one_drewN (one_setCell (one_drewN (World.grownBy.refl wr (some (w.heap.size+2))) n) k _) m
 have hlow:=one_below hg (by omega:w.heap.size≤w.heap.size+2) hb.size
 exact ⟨L.set k x,Row.set (w:=wr.drewN n) hrow k x,by rw [List.length_set];exact hL,Lib.hid (sched_put HL (by omega) x hx),m32_set hm k hx32,Holds.grown hR hg (by intro e;injection e;omega),Holds.grown hres hg (by intro e;injection e;omega),hrd.under (hlow.mono hB),hb.trans hlow⟩
theorem w0_eq {x0 x1 x2 x3:Nat} (z0:x0<256) (z1:x1<256) (z2:x2<256) (z3:x3<256):bits BinOp.or IntKind.u32 (bits BinOp.or IntKind.u32 (bits BinOp.or IntKind.u32 ((x0:Int)*16777216) ((x1:Int)*65536)) ((x2:Int)*256)) (x3:Int)=((((x0*16777216 ||| x1*65536) ||| x2*256) ||| x3:Nat):Int)∧(((x0*16777216 ||| x1*65536) ||| x2*256) ||| x3)<4294967296:=by
 have e1:=u32_or_nat (x0*16777216) (x1*65536) (by omega) (by omega)
 have e2:=u32_or_nat (x0*16777216 ||| x1*65536) (x2*256) (lt32_or (by omega) (by omega)) (by omega)
 have e3:=u32_or_nat ((x0*16777216 ||| x1*65536) ||| x2*256) x3 (lt32_or (lt32_or (by omega) (by omega)) (by omega)) (by omega)
 refine ⟨?_,lt32_or (lt32_or (lt32_or (by omega) (by omega)) (by omega)) (by omega)⟩
 rw [←e3,←e2,←e1,Int.natCast_mul,Int.natCast_mul,Int.natCast_mul]
 rfl

/-- A round is begun. -/
def RelR' (s:StS) (l:List Nat) (w:World) (g5 g6:Nat) (i:Value) (wr:World):Prop :=
 ∃ k:Nat,k≤64∧i = .int .i64 k∧Row .u32 95 wr g6 (rounds6 s (sched l 64) k).list∧Row .u32 124 wr (w.heap.size+2) (sched l 64)∧Row .u32 124 wr g5 KL∧Row .u32 95 wr w.heap.size s.list∧Holds wr (w.heap.size+1) 95 #[Value.int IntKind.u32 0,Value.int IntKind.u32 0,Value.int IntKind.u32 0,Value.int IntKind.u32 0,Value.int IntKind.u32 0,Value.int IntKind.u32 0,Value.int IntKind.u32 0,Value.int IntKind.u32 0]∧Below w.heap.size w wr

set_option maxRecDepth 100000 in
set_option maxHeartbeats 4000000 in
theorem block'_full (w:World) (s:StS) (hs:s.Ok) (B:Nat) (A:Option Addr) (c:Nat) (l:List Nat) (hl:l.length=64) (hr:Rd .u8 w B A c l) (hB:B≤w.heap.size) (ho:Oct6 l) :
  Calls Tryz.prog 77 #[.agg (nums .u32 s.list),.slice A 64 c] w fun e w'=>e = .returned (.agg (nums .u32 (blk s l).list))∧Below w.heap.size w w':=by
 have hlc:=hr.1
 have hc63:=hr.2.1
 have HLL:=Lib.hid hl
 have HO:=Lib.hid ho
 rw [hl] at hlc
 obtain ⟨b,off,rfl,hb,hcb⟩:=hr.2.2 (by omega)
 clear hl hcb
 obtain ⟨W,hW,hrow,hres,hbel,hWs⟩:=begun w s
 have hrd:=hr.under (hbel.mono hB)
 have hm:=m32_noughts 64
 have HW:=Lib.hid hW
 have HWS:=Lib.hid hWs
 have hb2:Below W.heap.size W (W.alloc (.cells #[Value.int IntKind.u32 0,Value.int IntKind.u32 0,Value.int IntKind.u32 0,Value.int IntKind.u32 0,Value.int IntKind.u32 0,Value.int IntKind.u32 0,Value.int IntKind.u32 0,Value.int IntKind.u32 0,Value.int IntKind.u32 0,Value.int IntKind.u32 0,Value.int IntKind.u32 0,Value.int IntKind.u32 0,Value.int IntKind.u32 0,Value.int IntKind.u32 0,Value.int IntKind.u32 0,Value.int IntKind.u32 0,Value.int IntKind.u32 0,Value.int IntKind.u32 0,Value.int IntKind.u32 0,Value.int IntKind.u32 0,Value.int IntKind.u32 0,Value.int IntKind.u32 0,Value.int IntKind.u32 0,Value.int IntKind.u32 0,Value.int IntKind.u32 0,Value.int IntKind.u32 0,Value.int IntKind.u32 0,Value.int IntKind.u32 0,Value.int IntKind.u32 0,Value.int IntKind.u32 0,Value.int IntKind.u32 0,Value.int IntKind.u32 0,Value.int IntKind.u32 0,Value.int IntKind.u32 0,Value.int IntKind.u32 0,Value.int IntKind.u32 0,Value.int IntKind.u32 0,Value.int IntKind.u32 0,Value.int IntKind.u32 0,Value.int IntKind.u32 0,Value.int IntKind.u32 0,Value.int IntKind.u32 0,Value.int IntKind.u32 0,Value.int IntKind.u32 0,Value.int IntKind.u32 0,Value.int IntKind.u32 0,Value.int IntKind.u32 0,Value.int IntKind.u32 0,Value.int IntKind.u32 0,Value.int IntKind.u32 0,Value.int IntKind.u32 0,Value.int IntKind.u32 0,Value.int IntKind.u32 0,Value.int IntKind.u32 0,Value.int IntKind.u32 0,Value.int IntKind.u32 0,Value.int IntKind.u32 0,Value.int IntKind.u32 0,Value.int IntKind.u32 0,Value.int IntKind.u32 0,Value.int IntKind.u32 0,Value.int IntKind.u32 0,Value.int IntKind.u32 0,Value.int IntKind.u32 0] 124)):=(Below.refl _ _).alloc (Nat.le_refl _) _
 have hws:Row .u32 124 (W.alloc (.cells #[Value.int IntKind.u32 0,Value.int IntKind.u32 0,Value.int IntKind.u32 0,Value.int IntKind.u32 0,Value.int IntKind.u32 0,Value.int IntKind.u32 0,Value.int IntKind.u32 0,Value.int IntKind.u32 0,Value.int IntKind.u32 0,Value.int IntKind.u32 0,Value.int IntKind.u32 0,Value.int IntKind.u32 0,Value.int IntKind.u32 0,Value.int IntKind.u32 0,Value.int IntKind.u32 0,Value.int IntKind.u32 0,Value.int IntKind.u32 0,Value.int IntKind.u32 0,Value.int IntKind.u32 0,Value.int IntKind.u32 0,Value.int IntKind.u32 0,Value.int IntKind.u32 0,Value.int IntKind.u32 0,Value.int IntKind.u32 0,Value.int IntKind.u32 0,Value.int IntKind.u32 0,Value.int IntKind.u32 0,Value.int IntKind.u32 0,Value.int IntKind.u32 0,Value.int IntKind.u32 0,Value.int IntKind.u32 0,Value.int IntKind.u32 0,Value.int IntKind.u32 0,Value.int IntKind.u32 0,Value.int IntKind.u32 0,Value.int IntKind.u32 0,Value.int IntKind.u32 0,Value.int IntKind.u32 0,Value.int IntKind.u32 0,Value.int IntKind.u32 0,Value.int IntKind.u32 0,Value.int IntKind.u32 0,Value.int IntKind.u32 0,Value.int IntKind.u32 0,Value.int IntKind.u32 0,Value.int IntKind.u32 0,Value.int IntKind.u32 0,Value.int IntKind.u32 0,Value.int IntKind.u32 0,Value.int IntKind.u32 0,Value.int IntKind.u32 0,Value.int IntKind.u32 0,Value.int IntKind.u32 0,Value.int IntKind.u32 0,Value.int IntKind.u32 0,Value.int IntKind.u32 0,Value.int IntKind.u32 0,Value.int IntKind.u32 0,Value.int IntKind.u32 0,Value.int IntKind.u32 0,Value.int IntKind.u32 0,Value.int IntKind.u32 0,Value.int IntKind.u32 0,Value.int IntKind.u32 0] 124)) (w.heap.size+2) (List.replicate 64 0):=by rw [←hWs];exact Holds.fresh _ _ _
 have hst:WT s l w B (some ⟨b,off,none⟩) c 0 (W.alloc (.cells #[Value.int IntKind.u32 0,Value.int IntKind.u32 0,Value.int IntKind.u32 0,Value.int IntKind.u32 0,Value.int IntKind.u32 0,Value.int IntKind.u32 0,Value.int IntKind.u32 0,Value.int IntKind.u32 0,Value.int IntKind.u32 0,Value.int IntKind.u32 0,Value.int IntKind.u32 0,Value.int IntKind.u32 0,Value.int IntKind.u32 0,Value.int IntKind.u32 0,Value.int IntKind.u32 0,Value.int IntKind.u32 0,Value.int IntKind.u32 0,Value.int IntKind.u32 0,Value.int IntKind.u32 0,Value.int IntKind.u32 0,Value.int IntKind.u32 0,Value.int IntKind.u32 0,Value.int IntKind.u32 0,Value.int IntKind.u32 0,Value.int IntKind.u32 0,Value.int IntKind.u32 0,Value.int IntKind.u32 0,Value.int IntKind.u32 0,Value.int IntKind.u32 0,Value.int IntKind.u32 0,Value.int IntKind.u32 0,Value.int IntKind.u32 0,Value.int IntKind.u32 0,Value.int IntKind.u32 0,Value.int IntKind.u32 0,Value.int IntKind.u32 0,Value.int IntKind.u32 0,Value.int IntKind.u32 0,Value.int IntKind.u32 0,Value.int IntKind.u32 0,Value.int IntKind.u32 0,Value.int IntKind.u32 0,Value.int IntKind.u32 0,Value.int IntKind.u32 0,Value.int IntKind.u32 0,Value.int IntKind.u32 0,Value.int IntKind.u32 0,Value.int IntKind.u32 0,Value.int IntKind.u32 0,Value.int IntKind.u32 0,Value.int IntKind.u32 0,Value.int IntKind.u32 0,Value.int IntKind.u32 0,Value.int IntKind.u32 0,Value.int IntKind.u32 0,Value.int IntKind.u32 0,Value.int IntKind.u32 0,Value.int IntKind.u32 0,Value.int IntKind.u32 0,Value.int IntKind.u32 0,Value.int IntKind.u32 0,Value.int IntKind.u32 0,Value.int IntKind.u32 0,Value.int IntKind.u32 0] 124)):=⟨_,hws,List.length_replicate,Lib.hid rfl,hm,Holds.alloc hrow _,Holds.alloc hres _,hrd.under (hb2.mono (by omega)),hbel.trans (hb2.mono hbel.size)⟩
 clear hW hWs hr hrow hres hrd hbel hm hb2 hws
 go_enter Tryz.func77,Tryz.ntmps77
 go_wp2_with fail
 rw [←HW.out]
 clear HW HWS
 generalize W.alloc _=W2 at *
 go_loopw [6] (fun i wr=>RelWS' s l w B (some ⟨b,off,none⟩) c 16 i wr) (fun i _=>16 - (intOf i).toNat)
 case atStart=>exact ⟨0,Nat.zero_le _,rfl,hst⟩
 case round =>
  clear hst
  obtain ⟨k,hk,rfl,hst⟩:=hrel
  obtain ⟨V,hV⟩:∃ V,V=wr:=⟨_,rfl⟩
  subst hV
  by_cases hkn:k<16
  case pos =>
   obtain ⟨L,hrow,hL,HL,hm,hR,hres,hrd,hbk⟩:=hst
   obtain ⟨b2,off2,e2,hb2,hc⟩:=hrd.2.2 (by have:=HLL.out;omega)
   injection e2 with e2
   injection e2 with e3 e4
   subst e3 e4
   have c0:=hc (4*k) (by have:=HLL.out;omega)
   have c1:=hc (4*k+1) (by have:=HLL.out;omega)
   have c2:=hc (4*k+2) (by have:=HLL.out;omega)
   have c3:=hc (4*k+3) (by have:=HLL.out;omega)
   have HX:Hid (((l.getD (4*k) 0*16777216 ||| l.getD (4*k+1) 0*65536) ||| l.getD (4*k+2) 0*256) ||| l.getD (4*k+3) 0=nextW l L k):=Lib.hid (by rw [nextW,if_pos hkn,w0])
   have z0:=HO.out (4*k)
   have z1:=HO.out (4*k+1)
   have z2:=HO.out (4*k+2)
   have z3:=HO.out (4*k+3)
   have HS:=Lib.hid (fun x W2=>wt_store (x:=x) (W2:=W2) hrow hL HL.out hm hR hres hrd hbk hB (by omega:k<64) V ⟨0,rfl⟩)
   have hw:=hrow.cell (i:=k) (by omega)
   have hfr:=hrow.open_ k
   generalize l.getD (4*k) 0=x0 at *
   generalize l.getD (4*k+1) 0=x1 at *
   generalize l.getD (4*k+2) 0=x2 at *
   generalize l.getD (4*k+3) 0=x3 at *
   have k0:(0:Int)≤(k:Int):=by omega
   have k64:(k:Int)<64:=by omega
   have g0:(0:Int)≤4*(k:Int):=by omega
   have g0':4*(k:Int)<64:=by omega
   have g1:(0:Int)≤4*(k:Int)+1:=by omega
   have g1':4*(k:Int)+1<64:=by omega
   have g2:(0:Int)≤4*(k:Int)+2:=by omega
   have g2':4*(k:Int)+2<64:=by omega
   have g3:(0:Int)≤4*(k:Int)+3:=by omega
   have g3':4*(k:Int)+3<64:=by omega
   clear hc hrow hR hres hrd hbk hm
   go_wp2_with fail
   go_region
   obtain ⟨E,E32⟩:=w0_eq z0 z1 z2 z3
   have hst2:WT s l w B (some ⟨b,off,none⟩) c (k+1) (V.setCell ⟨w.heap.size+2,k,none⟩ (.int .u32 (bits BinOp.or IntKind.u32 (bits BinOp.or IntKind.u32 (bits BinOp.or IntKind.u32 ((x0:Int)*16777216) ((x1:Int)*65536)) ((x2:Int)*256)) (x3:Int)))).drew :=
    HS.out _ _ HX.out E32 ⟨1,by rw [E];rfl⟩
   generalize World.drew _=V2 at hst2 ⊢
   clear E E32 HS HX c0 c1 c2 c3 hw hfr g0 g0' g1 g1' g2 g2' g3 g3' k64 hL HL
   go_wp2_with fail
   go_roundw
   case rel=>exact ⟨k+1,by omega,by go_num,hst2⟩
   case measure=>simp [intOf];omega
  case neg =>
   have hk16:k=16:=by omega
   have hst16:WT s l w B (some ⟨b,off,none⟩) c 16 V:=hk16 ▸ hst
   have hki:((k:Nat):Int)=16:=by omega
   clear hst hk16
   rw [hki]
   clear hki
   go_wp2_with fail
   go_loopw [7] (fun i wr=>RelX' s l w B (some ⟨b,off,none⟩) c i wr) (fun i _=>64 - (intOf i).toNat)
   case atStart=>exact ⟨16,by omega,by omega,rfl,hst16⟩
   case round =>
    clear hst16
    obtain ⟨k,hk16,hk,rfl,hst⟩:=hrel
    obtain ⟨V,hV⟩:∃ V,V=wr:=⟨_,rfl⟩
    subst hV
    by_cases hkn:k<64
    case pos =>
     obtain ⟨L,hrow,hL,HL,hm,hR,hres,hrd,hbk⟩:=hst
     have c16:=hrow.cell (i:=k - 16) (by omega)
     have c15:=hrow.cell (i:=k - 15) (by omega)
     have c7:=hrow.cell (i:=k - 7) (by omega)
     have c2:=hrow.cell (i:=k - 2) (by omega)
     have z16:=hm (k - 16)
     have z15:=hm (k - 15)
     have z7:=hm (k - 7)
     have z2:=hm (k - 2)
     have ck:=hrow.cell (i:=k) (by omega)
     have cf:=hrow.open_ k
     have HX:Hid ((((L.getD (k - 16) 0+sg0 (L.getD (k - 15) 0)) % 4294967296+L.getD (k - 7) 0) % 4294967296+sg1 (L.getD (k - 2) 0)) % 4294967296=nextW l L k):=Lib.hid (by rw [nextW,if_neg (by omega)])
     have HS:=Lib.hid (fun x V2 hV2 W2=>wt_store (x:=x) (W2:=W2) hrow hL HL.out hm hR hres hrd hbk hB hkn V2 hV2)
     generalize L.getD (k - 16) 0=x16 at *
     generalize L.getD (k - 15) 0=x15 at *
     generalize L.getD (k - 7) 0=x7 at *
     generalize L.getD (k - 2) 0=x2 at *
     have k0:(0:Int)≤(k:Int):=by omega
     have g16:(16:Int)≤(k:Int):=by omega
     have g15:(15:Int)≤(k:Int):=by omega
     have g7:(7:Int)≤(k:Int):=by omega
     have g2:(2:Int)≤(k:Int):=by omega
     have k64:(k:Int)<64:=by omega
     have f16:(k:Int) - 16<64:=by omega
     have f15:(k:Int) - 15<64:=by omega
     have f7:(k:Int) - 7<64:=by omega
     have f2:(k:Int) - 2<64:=by omega
     have e16:((k:Int) - 16).toNat=k - 16:=by omega
     have e15:((k:Int) - 15).toNat=k - 15:=by omega
     have e7:((k:Int) - 7).toNat=k - 7:=by omega
     have e2:((k:Int) - 2).toNat=k - 2:=by omega
     have q15:IntKind.i64.wrap ((k:Int) - 15)=(k:Int) - 15:=IntWalk.i64_in _ (by omega)
     have q2:IntKind.i64.wrap ((k:Int) - 2)=(k:Int) - 2:=IntWalk.i64_in _ (by omega)
     have q7:IntKind.i64.wrap ((k:Int) - 7)=(k:Int) - 7:=IntWalk.i64_in _ (by omega)
     have q16:IntKind.i64.wrap ((k:Int) - 16)=(k:Int) - 16:=IntWalk.i64_in _ (by omega)
     clear hrow hR hres hrd hbk hm
     go_wp2_with fail
     go_quiet (fail)
     change (V.drewN nq).cell? _=_ at c16 c7 ck
     change (V.drewN nq).frozen? _=_ at cf
     have HV2:Hid (∃ n,V.drewN nq=V.drewN n):=Lib.hid ⟨nq,rfl⟩
     generalize V.drewN nq=V2 at *
     have HC1:=turned_int V2.drew x15 7 z15 (by decide)
     have HC2:=turned_int V2.drew x15 18 z15 (by decide)
     have HC3:=turned_int V2.drew x2 17 z2 (by decide)
     have HC4:=turned_int V2.drew x2 19 z2 (by decide)
     have HC1:=HC1.mono fun e w' h=>(⟨h.1,h.2.symm⟩:e = .returned (.int .u32 ((rotI x15 7:Nat):Int))∧w'=V2.drew)
     have HC2:=HC2.mono fun e w' h=>(⟨h.1,h.2.symm⟩:e = .returned (.int .u32 ((rotI x15 18:Nat):Int))∧w'=V2.drew)
     have HC3:=HC3.mono fun e w' h=>(⟨h.1,h.2.symm⟩:e = .returned (.int .u32 ((rotI x2 17:Nat):Int))∧w'=V2.drew)
     have HC4:=HC4.mono fun e w' h=>(⟨h.1,h.2.symm⟩:e = .returned (.int .u32 ((rotI x2 19:Nat):Int))∧w'=V2.drew)
     have H1:=Lib.hid HC1
     have H2:=Lib.hid HC2
     have H3:=Lib.hid HC3
     have H4:=Lib.hid HC4
     clear HC1 HC2 HC3 HC4 c15 c2
     go_wp2_with fail
     go_still_tail 29,(by kernel_rfl)
     still_call H1.out
     repeat still_step
     still_call H2.out
     repeat still_step
     still_call H3.out
     repeat still_step
     still_call H4.out
     repeat still_step
     refine wpStill_nil ?_
     change wpList _ _ _ _ _ V2.drew
     have E0:bits BinOp.xor IntKind.u32 (bits BinOp.xor IntKind.u32 ((rotI x15 7:Nat):Int) ((rotI x15 18:Nat):Int)) ((x15:Int) / 8)=((sg0 x15:Nat):Int):=xor3 (rot_lt z15 7) (rot_lt z15 18) z15 8
     have E1:bits BinOp.xor IntKind.u32 (bits BinOp.xor IntKind.u32 ((rotI x2 17:Nat):Int) ((rotI x2 19:Nat):Int)) ((x2:Int) / 1024)=((sg1 x2:Nat):Int):=xor3 (rot_lt z2 17) (rot_lt z2 19) z2 1024
     rw [E0,E1]
     have y0:=sg0_lt z15
     have y1:=sg1_lt z2
     clear E0 E1 H1 H2 H3 H4
     generalize sg0 x15=s0 at *
     generalize sg1 x2=s1 at *
     change V2.drew.cell? _=_ at ck
     change V2.drew.frozen? _=_ at cf
     replace HV2:Hid (∃ n,V2.drew=V.drewN n):=Lib.hid (by obtain ⟨n,h⟩:=HV2.out;exact ⟨n+1,by rw [h];rfl⟩)
     generalize V2.drew=V3 at *
     have HE2:Hid (((x16:Int)+(s0:Int)+(x7:Int)+(s1:Int)) % 4294967296=(((((x16+s0) % 4294967296+x7) % 4294967296+s1) % 4294967296:Nat):Int)):=Lib.hid (by omega)
     clear g16 g15 g7 g2 f16 f15 f7 f2 e15 e2 q15 q2
     go_wp2_with fail
     go_roundw
     case rel =>
      refine ⟨k+1,by omega,by omega,by go_num,HS.out _ V3 HV2.out _ HX.out (Nat.mod_lt _ (by omega)) ⟨0,?_⟩⟩
      rw [HE2.out]
      rfl
     case measure=>simp [intOf];omega
    case neg =>
     have hk64:k=64:=by omega
     obtain ⟨L,hrowL,hL,HL,hm,hR,hres,hrd,hbk⟩:=hst
     have HLE:Hid (L=sched l 64):=Lib.hid (by rw [←hk64,←HL.out,List.take_of_length_le (by omega)])
     rw [HLE.out] at hrowL
     have hki:((k:Nat):Int)=64:=by omega
     clear HL hm hL HLE hk64 hrd hk16 hk hkn
     rw [hki]
     clear hki k
     have hi:=st_info s
     have hone:=nums_one .u32 s.list
     have hi64:(Tryz.prog.info? 124).map (·.size)=some (nums .u32 KL).size:=by rw [nums_size];kernel_rfl
     have hone64:=nums_one .u32 KL
     have hi8:(Tryz.prog.info? 95).map (·.size)=some 8:=by kernel_rfl
     go_wp2_with fail
     refine (words'_any V).mono ?_
     rintro e w1 ⟨rfl,hb1⟩
     have hlt:=Holds.lt hrowL
     have hrow1:=Holds.under hR hb1 (by omega)
     have hres1:=Holds.under hres hb1 (by omega)
     have hws1:=Holds.under hrowL hb1 hlt
     have hbel1:=hbk.trans (hb1.mono hbk.size)
     have hs1:=hb1.size
     clear hR hres hrowL hbk hb1
     obtain ⟨X2,hW2⟩:∃ X,X=w1.alloc (.cells #[Value.int IntKind.u32 0,Value.int IntKind.u32 0,Value.int IntKind.u32 0,Value.int IntKind.u32 0,Value.int IntKind.u32 0,Value.int IntKind.u32 0,Value.int IntKind.u32 0,Value.int IntKind.u32 0,Value.int IntKind.u32 0,Value.int IntKind.u32 0,Value.int IntKind.u32 0,Value.int IntKind.u32 0,Value.int IntKind.u32 0,Value.int IntKind.u32 0,Value.int IntKind.u32 0,Value.int IntKind.u32 0,Value.int IntKind.u32 0,Value.int IntKind.u32 0,Value.int IntKind.u32 0,Value.int IntKind.u32 0,Value.int IntKind.u32 0,Value.int IntKind.u32 0,Value.int IntKind.u32 0,Value.int IntKind.u32 0,Value.int IntKind.u32 0,Value.int IntKind.u32 0,Value.int IntKind.u32 0,Value.int IntKind.u32 0,Value.int IntKind.u32 0,Value.int IntKind.u32 0,Value.int IntKind.u32 0,Value.int IntKind.u32 0,Value.int IntKind.u32 0,Value.int IntKind.u32 0,Value.int IntKind.u32 0,Value.int IntKind.u32 0,Value.int IntKind.u32 0,Value.int IntKind.u32 0,Value.int IntKind.u32 0,Value.int IntKind.u32 0,Value.int IntKind.u32 0,Value.int IntKind.u32 0,Value.int IntKind.u32 0,Value.int IntKind.u32 0,Value.int IntKind.u32 0,Value.int IntKind.u32 0,Value.int IntKind.u32 0,Value.int IntKind.u32 0,Value.int IntKind.u32 0,Value.int IntKind.u32 0,Value.int IntKind.u32 0,Value.int IntKind.u32 0,Value.int IntKind.u32 0,Value.int IntKind.u32 0,Value.int IntKind.u32 0,Value.int IntKind.u32 0,Value.int IntKind.u32 0,Value.int IntKind.u32 0,Value.int IntKind.u32 0,Value.int IntKind.u32 0,Value.int IntKind.u32 0,Value.int IntKind.u32 0,Value.int IntKind.u32 0,Value.int IntKind.u32 0] 124):=⟨_,rfl⟩
     have h5:Holds X2 w1.heap.size 124 #[Value.int IntKind.u32 0,Value.int IntKind.u32 0,Value.int IntKind.u32 0,Value.int IntKind.u32 0,Value.int IntKind.u32 0,Value.int IntKind.u32 0,Value.int IntKind.u32 0,Value.int IntKind.u32 0,Value.int IntKind.u32 0,Value.int IntKind.u32 0,Value.int IntKind.u32 0,Value.int IntKind.u32 0,Value.int IntKind.u32 0,Value.int IntKind.u32 0,Value.int IntKind.u32 0,Value.int IntKind.u32 0,Value.int IntKind.u32 0,Value.int IntKind.u32 0,Value.int IntKind.u32 0,Value.int IntKind.u32 0,Value.int IntKind.u32 0,Value.int IntKind.u32 0,Value.int IntKind.u32 0,Value.int IntKind.u32 0,Value.int IntKind.u32 0,Value.int IntKind.u32 0,Value.int IntKind.u32 0,Value.int IntKind.u32 0,Value.int IntKind.u32 0,Value.int IntKind.u32 0,Value.int IntKind.u32 0,Value.int IntKind.u32 0,Value.int IntKind.u32 0,Value.int IntKind.u32 0,Value.int IntKind.u32 0,Value.int IntKind.u32 0,Value.int IntKind.u32 0,Value.int IntKind.u32 0,Value.int IntKind.u32 0,Value.int IntKind.u32 0,Value.int IntKind.u32 0,Value.int IntKind.u32 0,Value.int IntKind.u32 0,Value.int IntKind.u32 0,Value.int IntKind.u32 0,Value.int IntKind.u32 0,Value.int IntKind.u32 0,Value.int IntKind.u32 0,Value.int IntKind.u32 0,Value.int IntKind.u32 0,Value.int IntKind.u32 0,Value.int IntKind.u32 0,Value.int IntKind.u32 0,Value.int IntKind.u32 0,Value.int IntKind.u32 0,Value.int IntKind.u32 0,Value.int IntKind.u32 0,Value.int IntKind.u32 0,Value.int IntKind.u32 0,Value.int IntKind.u32 0,Value.int IntKind.u32 0,Value.int IntKind.u32 0,Value.int IntKind.u32 0,Value.int IntKind.u32 0]:=by rw [hW2];exact Holds.fresh _ _ _
     have hset5:X2.setRow w1.heap.size (nums .u32 KL)=w1.alloc (.cells (nums .u32 KL) 124):=by rw [hW2];exact World.setRow_alloc_new _ _ _ _
     have hz64:(#[Value.int IntKind.u32 0,Value.int IntKind.u32 0,Value.int IntKind.u32 0,Value.int IntKind.u32 0,Value.int IntKind.u32 0,Value.int IntKind.u32 0,Value.int IntKind.u32 0,Value.int IntKind.u32 0,Value.int IntKind.u32 0,Value.int IntKind.u32 0,Value.int IntKind.u32 0,Value.int IntKind.u32 0,Value.int IntKind.u32 0,Value.int IntKind.u32 0,Value.int IntKind.u32 0,Value.int IntKind.u32 0,Value.int IntKind.u32 0,Value.int IntKind.u32 0,Value.int IntKind.u32 0,Value.int IntKind.u32 0,Value.int IntKind.u32 0,Value.int IntKind.u32 0,Value.int IntKind.u32 0,Value.int IntKind.u32 0,Value.int IntKind.u32 0,Value.int IntKind.u32 0,Value.int IntKind.u32 0,Value.int IntKind.u32 0,Value.int IntKind.u32 0,Value.int IntKind.u32 0,Value.int IntKind.u32 0,Value.int IntKind.u32 0,Value.int IntKind.u32 0,Value.int IntKind.u32 0,Value.int IntKind.u32 0,Value.int IntKind.u32 0,Value.int IntKind.u32 0,Value.int IntKind.u32 0,Value.int IntKind.u32 0,Value.int IntKind.u32 0,Value.int IntKind.u32 0,Value.int IntKind.u32 0,Value.int IntKind.u32 0,Value.int IntKind.u32 0,Value.int IntKind.u32 0,Value.int IntKind.u32 0,Value.int IntKind.u32 0,Value.int IntKind.u32 0,Value.int IntKind.u32 0,Value.int IntKind.u32 0,Value.int IntKind.u32 0,Value.int IntKind.u32 0,Value.int IntKind.u32 0,Value.int IntKind.u32 0,Value.int IntKind.u32 0,Value.int IntKind.u32 0,Value.int IntKind.u32 0,Value.int IntKind.u32 0,Value.int IntKind.u32 0,Value.int IntKind.u32 0,Value.int IntKind.u32 0,Value.int IntKind.u32 0,Value.int IntKind.u32 0,Value.int IntKind.u32 0]:Array Value).size=(nums .u32 KL).size:=by rw [nums_size];rfl
     obtain ⟨X3,hW3⟩:∃ X,X=w1.alloc (.cells (nums .u32 KL) 124):=⟨_,rfl⟩
     have hrow3:Row .u32 95 X3 w.heap.size s.list:=by rw [hW3];exact Holds.alloc hrow1 _
     have hres3:Holds X3 (w.heap.size+1) 95 #[Value.int IntKind.u32 0,Value.int IntKind.u32 0,Value.int IntKind.u32 0,Value.int IntKind.u32 0,Value.int IntKind.u32 0,Value.int IntKind.u32 0,Value.int IntKind.u32 0,Value.int IntKind.u32 0]:=by rw [hW3];exact Holds.alloc hres1 _
     have hws3:Row .u32 124 X3 (w.heap.size+2) (sched l 64):=by rw [hW3];exact Holds.alloc hws1 _
     have hkw3:Row .u32 124 X3 w1.heap.size KL:=by rw [hW3];exact Holds.fresh _ _ _
     have hbel3:Below w.heap.size w X3:=by rw [hW3];exact hbel1.alloc hbel1.size _
     have hs3:X3.heap.size=w1.heap.size+1:=by rw [hW3];simp
     obtain ⟨X4,hW4⟩:∃ X,X=X3.alloc (.cells #[Value.int IntKind.u32 0,Value.int IntKind.u32 0,Value.int IntKind.u32 0,Value.int IntKind.u32 0,Value.int IntKind.u32 0,Value.int IntKind.u32 0,Value.int IntKind.u32 0,Value.int IntKind.u32 0] 95):=⟨_,rfl⟩
     have h6:Holds X4 (w1.heap.size+1) 95 #[Value.int IntKind.u32 0,Value.int IntKind.u32 0,Value.int IntKind.u32 0,Value.int IntKind.u32 0,Value.int IntKind.u32 0,Value.int IntKind.u32 0,Value.int IntKind.u32 0,Value.int IntKind.u32 0]:=by rw [hW4,←hs3];exact Holds.fresh _ _ _
     have hset6:X4.setRow (w1.heap.size+1) (nums .u32 s.list)=X3.alloc (.cells (nums .u32 s.list) 95):=by rw [hW4,←hs3];exact World.setRow_alloc_new _ _ _ _
     have HW2:=Lib.hid hW2
     have HW3:=Lib.hid hW3
     have HW4:=Lib.hid hW4
     have HS5:=Lib.hid hset5
     have HS6:=Lib.hid hset6
     have HS3:=Lib.hid hs3
     clear hrow1 hres1 hws1 hbel1 hW2 hW3 hW4 hset5 hset6 hs3
     go_wp2_with (first
      | (rw [←HW2.out];refine wpList_store_row rfl 124 (.tmp 10) (.tmp 102) rfl (w1.heap.size) (nums .u32 KL) rfl rfl 124 (#[Value.int IntKind.u32 0,Value.int IntKind.u32 0,Value.int IntKind.u32 0,Value.int IntKind.u32 0,Value.int IntKind.u32 0,Value.int IntKind.u32 0,Value.int IntKind.u32 0,Value.int IntKind.u32 0,Value.int IntKind.u32 0,Value.int IntKind.u32 0,Value.int IntKind.u32 0,Value.int IntKind.u32 0,Value.int IntKind.u32 0,Value.int IntKind.u32 0,Value.int IntKind.u32 0,Value.int IntKind.u32 0,Value.int IntKind.u32 0,Value.int IntKind.u32 0,Value.int IntKind.u32 0,Value.int IntKind.u32 0,Value.int IntKind.u32 0,Value.int IntKind.u32 0,Value.int IntKind.u32 0,Value.int IntKind.u32 0,Value.int IntKind.u32 0,Value.int IntKind.u32 0,Value.int IntKind.u32 0,Value.int IntKind.u32 0,Value.int IntKind.u32 0,Value.int IntKind.u32 0,Value.int IntKind.u32 0,Value.int IntKind.u32 0,Value.int IntKind.u32 0,Value.int IntKind.u32 0,Value.int IntKind.u32 0,Value.int IntKind.u32 0,Value.int IntKind.u32 0,Value.int IntKind.u32 0,Value.int IntKind.u32 0,Value.int IntKind.u32 0,Value.int IntKind.u32 0,Value.int IntKind.u32 0,Value.int IntKind.u32 0,Value.int IntKind.u32 0,Value.int IntKind.u32 0,Value.int IntKind.u32 0,Value.int IntKind.u32 0,Value.int IntKind.u32 0,Value.int IntKind.u32 0,Value.int IntKind.u32 0,Value.int IntKind.u32 0,Value.int IntKind.u32 0,Value.int IntKind.u32 0,Value.int IntKind.u32 0,Value.int IntKind.u32 0,Value.int IntKind.u32 0,Value.int IntKind.u32 0,Value.int IntKind.u32 0,Value.int IntKind.u32 0,Value.int IntKind.u32 0,Value.int IntKind.u32 0,Value.int IntKind.u32 0,Value.int IntKind.u32 0,Value.int IntKind.u32 0]) h5 hi64 hz64 hone64 ?_;rw [HS5.out,←HW3.out])
      | (refine wpList_load_row rfl 95 (.tmp 2) rfl (w.heap.size) rfl 95 (nums .u32 s.list) (0,0) _ hrow3 Tryz.underlying95 rfl hi ?_)
      | (rw [←HW4.out,HS3.out];refine wpList_store_row rfl 95 (.tmp 11) (.tmp 103) rfl (w1.heap.size+1) (nums .u32 s.list) rfl rfl 95 (#[Value.int IntKind.u32 0,Value.int IntKind.u32 0,Value.int IntKind.u32 0,Value.int IntKind.u32 0,Value.int IntKind.u32 0,Value.int IntKind.u32 0,Value.int IntKind.u32 0,Value.int IntKind.u32 0]) h6 hi rfl hone ?_;rw [HS6.out]))
     have hrow6:Row .u32 95 (X3.alloc (.cells (nums .u32 s.list) 95)) (w1.heap.size+1) s.list:=by rw [←HS3.out];exact Holds.fresh _ _ _
     have hrow7:=Holds.alloc hrow3 (.cells (nums .u32 s.list) 95)
     have hres7:=Holds.alloc hres3 (.cells (nums .u32 s.list) 95)
     have hws7:=Holds.alloc hws3 (.cells (nums .u32 s.list) 95)
     have hkw7:=Holds.alloc hkw3 (.cells (nums .u32 s.list) 95)
     have hbel7:=hbel3.alloc hbel3.size (.cells (nums .u32 s.list) 95)
     have hlo:w.heap.size+2<w1.heap.size:=by omega
     generalize X3.alloc (.cells (nums .u32 s.list) 95)=Y at *
     clear hrow3 hres3 hws3 hkw3 hbel3 HW2 HW3 HW4 HS5 HS6 HS3 h5 h6 hz64 hi64 hone64 hlt hs1
     generalize hg5:w1.heap.size=g5 at *
     clear hg5
     go_loopw [12] (fun i wr=>RelR' s l w g5 (g5+1) i wr) (fun i _=>64 - (intOf i).toNat)
     case atStart=>exact ⟨0,Nat.zero_le _,rfl,hrow6,hws7,hkw7,hrow7,hres7,hbel7⟩
     case round =>
      clear hrow6 hws7 hkw7 hrow7 hres7 hbel7
      obtain ⟨k,hk,rfl,hrow6,hws7,hkw7,hrow7,hres7,hbel7⟩:=hrel
      obtain ⟨V,hV⟩:∃ V,V=wr:=⟨_,rfl⟩
      subst hV
      by_cases hkn:k<64
      case pos =>
       have hok:=rounds_ok hs (sched l 64) k
       have HN:Hid (rounds6 s (sched l 64) (k+1)=(rounds6 s (sched l 64) k).next (KL.getD k 0) ((sched l 64).getD k 0)):=Lib.hid rfl
       have zw:=sched_lt HO.out 64 k
       have zk:=kl_lt k hkn
       have cw:=hws7.cell (i:=k) (by rw [sched_length];exact hkn)
       have ck:=hkw7.cell (i:=k) (by show k<64;exact hkn)
       generalize rounds6 s (sched l 64) k=S at *
       generalize (sched l 64).getD k 0=x at *
       generalize KL.getD k 0=y at *
       obtain ⟨za,zb,zc,zd,ze,zf,zg,zh⟩:=hok
       obtain ⟨a,b',c',d,e,f,g,h⟩:=S
       have c0:V.cell? ⟨g5+1,0,none⟩=some (.int .u32 (a:Int)):=hrow6.cell (i:=0) (by show 0<8;omega)
       have c1:V.cell? ⟨g5+1,1,none⟩=some (.int .u32 (b':Int)):=hrow6.cell (i:=1) (by show 1<8;omega)
       have c2:V.cell? ⟨g5+1,2,none⟩=some (.int .u32 (c':Int)):=hrow6.cell (i:=2) (by show 2<8;omega)
       have c3:V.cell? ⟨g5+1,3,none⟩=some (.int .u32 (d:Int)):=hrow6.cell (i:=3) (by show 3<8;omega)
       have c4:V.cell? ⟨g5+1,4,none⟩=some (.int .u32 (e:Int)):=hrow6.cell (i:=4) (by show 4<8;omega)
       have c5:V.cell? ⟨g5+1,5,none⟩=some (.int .u32 (f:Int)):=hrow6.cell (i:=5) (by show 5<8;omega)
       have c6:V.cell? ⟨g5+1,6,none⟩=some (.int .u32 (g:Int)):=hrow6.cell (i:=6) (by show 6<8;omega)
       have c7:V.cell? ⟨g5+1,7,none⟩=some (.int .u32 (h:Int)):=hrow6.cell (i:=7) (by show 7<8;omega)
       dsimp only at za zb zc zd ze zf zg zh
       have k0:(0:Int)≤(k:Int):=by omega
       have k64:(k:Int)<64:=by omega
       have hif:(if IntKind.u32.signed=true then (-1:Int) else IntKind.u32.max)=4294967295:=rfl
       have HTe:=Lib.hid (fun W z hz=>turned_int W e z ze hz)
       have HTa:=Lib.hid (fun W z hz=>turned_int W a z za hz)
       replace HN:Hid (rounds6 s (sched l 64) (k+1)=⟨(t1 ⟨a,b',c',d,e,f,g,h⟩ y x+t2 ⟨a,b',c',d,e,f,g,h⟩) % 4294967296,a,b',c',(d+t1 ⟨a,b',c',d,e,f,g,h⟩ y x) % 4294967296,e,f,g⟩):=Lib.hid HN.out
       go_wp2_with fail
       go_quiet (fail)
       change (V.drewN nq).cell? _=_ at c0 c1 c2 c3 c4 c5 c6 c7 cw ck
       replace hrow6:=hrow6.drewN nq
       replace hws7:=hws7.drewN nq
       replace hkw7:=hkw7.drewN nq
       replace hrow7:=hrow7.drewN nq
       replace hres7:=hres7.drewN nq
       replace hbel7:Below w.heap.size w (V.drewN nq):=⟨hbel7.os,hbel7.tape,hbel7.output,hbel7.size,hbel7.block⟩
       generalize V.drewN nq=V1 at *
       go_wp2_with fail
       go_quiet ((go_at_call 113;exact quiet_one (fun W=>HTe.out W _ (by decide))))
       rw [triI_eq ze 6 11 25,t1_eq a b' c' d ze zf zg zh zk zw]
       have zt1:=t1_lt ⟨a,b',c',d,e,f,g,h⟩ y x
       generalize t1 ⟨a,b',c',d,e,f,g,h⟩ y x=r1 at *
       change (V1.drewN nq).cell? _=_ at c0 c1 c2 c3 c4 c5 c6 c7
       replace hrow6:=hrow6.drewN nq
       replace hws7:=hws7.drewN nq
       replace hkw7:=hkw7.drewN nq
       replace hrow7:=hrow7.drewN nq
       replace hres7:=hres7.drewN nq
       replace hbel7:Below w.heap.size w (V1.drewN nq):=⟨hbel7.os,hbel7.tape,hbel7.output,hbel7.size,hbel7.block⟩
       clear cw ck HTe
       generalize V1.drewN nq=V2 at *
       go_wp2_with fail
       go_quiet ((go_at_call 113;exact quiet_one (fun W=>HTa.out W _ (by decide))))
       rw [triI_eq za 2 13 22,t2_eq d e f g h za zb zc]
       have zt2:=t2_lt ⟨a,b',c',d,e,f,g,h⟩
       generalize t2 ⟨a,b',c',d,e,f,g,h⟩=r2 at *
       change (V2.drewN nq).cell? _=_ at c0 c1 c2 c3 c4 c5 c6 c7
       replace hrow6:=hrow6.drewN nq
       replace hws7:=hws7.drewN nq
       replace hkw7:=hkw7.drewN nq
       replace hrow7:=hrow7.drewN nq
       replace hres7:=hres7.drewN nq
       replace hbel7:Below w.heap.size w (V2.drewN nq):=⟨hbel7.os,hbel7.tape,hbel7.output,hbel7.size,hbel7.block⟩
       clear HTa hif zk zw
       generalize V2.drewN nq=V3 at *
       have HE:Hid ((#[.int .u32 (((r1:Int)+(r2:Int)) % 4294967296),.int .u32 (a:Int),.int .u32 (b':Int),.int .u32 (c':Int),.int .u32 (((d:Int)+(r1:Int)) % 4294967296),.int .u32 (e:Int),.int .u32 (f:Int),.int .u32 (g:Int)]:Array Value)=nums .u32 (rounds6 s (sched l 64) (k+1)).list):=Lib.hid (by
        rw [HN.out]
        have e1:((r1:Int)+(r2:Int)) % 4294967296=(((r1+r2) % 4294967296:Nat):Int):=by omega
        have e2:((d:Int)+(r1:Int)) % 4294967296=(((d+r1) % 4294967296:Nat):Int):=by omega
        rw [e1,e2]
        rfl)
       have ho8:=one8 (((r1:Int)+(r2:Int)) % 4294967296) a b' c' (((d:Int)+(r1:Int)) % 4294967296) e f g
       have hs8:=size8 ⟨a,b',c',d,e,f,g,h⟩
       go_wp2_with (refine wpList_store_row rfl 95 (.tmp 11) (.tmp 183) rfl (g5+1) #[.int .u32 (((r1:Int)+(r2:Int)) % 4294967296),.int .u32 (a:Int),.int .u32 (b':Int),.int .u32 (c':Int),.int .u32 (((d:Int)+(r1:Int)) % 4294967296),.int .u32 (e:Int),.int .u32 (f:Int),.int .u32 (g:Int)] rfl rfl 95 _ hrow6 hi8 hs8 ho8 ?_)
       rw [HE.out]
       have hrow8:Row .u32 95 (V3.setRow (g5+1) (nums .u32 (rounds6 s (sched l 64) (k+1)).list)) (g5+1) (rounds6 s (sched l 64) (k+1)).list:=setRow_heap _ _ _ _ _ _ hrow6
       have hws8:=holds_setRow hws7 (show w.heap.size+2≠g5+1 by omega) (nums .u32 (rounds6 s (sched l 64) (k+1)).list)
       have hkw8:=holds_setRow hkw7 (show g5≠g5+1 by omega) (nums .u32 (rounds6 s (sched l 64) (k+1)).list)
       have hrow9:=holds_setRow hrow7 (show w.heap.size≠g5+1 by omega) (nums .u32 (rounds6 s (sched l 64) (k+1)).list)
       have hres8:=holds_setRow hres7 (show w.heap.size+1≠g5+1 by omega) (nums .u32 (rounds6 s (sched l 64) (k+1)).list)
       have hbel8:=below_setRow hbel7 (show w.heap.size≤g5+1 by omega) (nums .u32 (rounds6 s (sched l 64) (k+1)).list)
       generalize V3.setRow (g5+1) (nums .u32 (rounds6 s (sched l 64) (k+1)).list)=V4 at *
       clear hrow6 hws7 hkw7 hrow7 hres7 hbel7 HE HN c0 c1 c2 c3 c4 c5 c6 c7 ho8 hs8
       go_wp2_with fail
       go_roundw
       case rel=>exact ⟨k+1,by omega,by go_num,hrow8,hws8,hkw8,hrow9,hres8,hbel8⟩
       case measure=>simp [intOf];omega
      case neg =>
       have hk64:k=64:=by omega
       have HB:Hid ((blk s l)=s.plus (rounds6 s (sched l 64) k)):=Lib.hid (by rw [blk,if_pos HLL.out,hk64])
       have hki:((k:Nat):Int)=64:=by omega
       generalize rounds6 s (sched l 64) k=S at *
       clear hk64 hk hkn hws7 hkw7
       rw [hki]
       clear hki k
       go_wp2_with fail
       go_loopw [17] (fun i wr=>RelP s S w (g5+1) i wr) (fun i _=>8 - (intOf i).toNat)
       case atStart=>exact ⟨0,s.list,Nat.zero_le _,rfl,hrow7,rfl,Lib.hid (fun j hj=>by rw [if_neg (by omega)]),hrow6,hres7,hbel7⟩
       case round =>
        clear hrow7 hrow6 hres7 hbel7
        obtain ⟨k,L,hk,rfl,hrow,hL,HL,hrow6,hres,hbk⟩:=hrel
        obtain ⟨V,hV⟩:∃ V,V=wr:=⟨_,rfl⟩
        subst hV
        by_cases hkn:k<8
        case pos =>
         have c1:=hrow.cell (i:=k) (by omega)
         have c2:=hrow6.cell (i:=k) (by show k<8;omega)
         have hfr:=hrow.open_ k
         have k0:(0:Int)≤(k:Int):=by omega
         have k8:(k:Int)<8:=by omega
         have HX:Hid ((L.getD k 0+S.list.getD k 0) % 4294967296=(s.plus S).list.getD k 0):=Lib.hid (by rw [HL.out k hkn,if_neg (by omega)];exact (plus_at s S k hkn).symm)
         have HS:=Lib.hid (fun x=>plus_store (x:=x) hrow hL HL.out hrow6 hres hbk hkn (by omega:w.heap.size+1<g5+1))
         generalize L.getD k 0=x at *
         generalize S.list.getD k 0=y at *
         clear hrow hrow6 hres hbk
         go_wp2_with fail
         go_region
         have E:((x:Int)+(y:Int)) % 4294967296=(((x+y) % 4294967296:Nat):Int):=by omega
         have hst:RelP s S w (g5+1) (.int .i64 ((k:Int)+1)) (V.setCell ⟨w.heap.size,k,none⟩ (.int .u32 (((x:Int)+(y:Int)) % 4294967296))).drew:=by
          rw [E]
          exact HS.out _ HX.out
         generalize World.drew _=V2 at hst ⊢
         clear E HS HX c1 c2 hfr HL hL
         go_wp2_with fail
         go_roundw
         case rel=>exact hst
         case measure=>simp [intOf];omega
        case neg =>
         have hk8:k=8:=by omega
         have HE:Hid (L=(s.plus S).list):=Lib.hid (by
          apply List.ext_getElem (by rw [hL];rfl)
          intro j h1 h2
          have:=HL.out j (by omega)
          rw [if_pos (by omega)] at this
          simpa [List.getD,h1,h2] using this)
         have hki:((k:Nat):Int)=8:=by omega
         have hi2:(Tryz.prog.info? 95).map (·.size)=some (nums .u32 L).size:=by rw [nums_size,hL];kernel_rfl
         have hone2:=nums_one .u32 L
         have hsz2:(#[Value.int IntKind.u32 0,Value.int IntKind.u32 0,Value.int IntKind.u32 0,Value.int IntKind.u32 0,Value.int IntKind.u32 0,Value.int IntKind.u32 0,Value.int IntKind.u32 0,Value.int IntKind.u32 0]:Array Value).size=(nums .u32 L).size:=by rw [nums_size,hL];rfl
         have HR2:=Lib.hid (setRow_heap V (w.heap.size+1) _ (nums .u32 L) 95 (0,0) hres)
         have HB2:=Lib.hid (below_setRow hbk (Nat.le_succ _) (nums .u32 L))
         clear hk8 HL hk hkn
         rw [hki]
         clear hki k
         go_wp2_with (first
          | (refine wpList_load_row rfl 95 (.tmp 2) rfl (w.heap.size) rfl 95 (nums .u32 L) (0,0) _ hrow Tryz.underlying95 rfl hi2 ?_)
          | (refine wpList_store_row rfl 95 (.tmp 4) (.tmp 197) rfl (w.heap.size+1) (nums .u32 L) rfl rfl 95 (#[Value.int IntKind.u32 0,Value.int IntKind.u32 0,Value.int IntKind.u32 0,Value.int IntKind.u32 0,Value.int IntKind.u32 0,Value.int IntKind.u32 0,Value.int IntKind.u32 0,Value.int IntKind.u32 0]) hres hi2 hsz2 hone2 ?_))
         rw [HB.out,←HE.out]
         exact bodyPost_ret (v:=.agg (nums .u32 L)) (results_cell_row rfl _ _ (w.heap.size+1) 95 (nums .u32 L) (0,0) _ rfl HR2.out Tryz.underlying95 rfl hi2) rfl ⟨rfl,HB2.out⟩
end Go.Proofs.YtcibjcgipfpniaaGreatDoor
