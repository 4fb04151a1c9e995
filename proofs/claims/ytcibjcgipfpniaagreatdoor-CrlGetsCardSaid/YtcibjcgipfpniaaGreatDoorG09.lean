/- Words and laws for the statement, part 9. -/
import Derived.Laws.IdiomStrings
import Derived.Laws.BytesArg
import Derived.Lib.Strings
import Derived.BigQuiet
import Derived.Deep.QuietTactic
import Derived.Deep.RegionHeld3
import Derived.Deep.RegionLaw
import Derived.Deep.DrawnRows
import Derived.IntWalk
import Derived.Test.YtcibjcgipfpniaaGreatDoorChecked
import Derived.Shelf.Unicode.WordAny
import Derived.KernelRfl
import Derived.Lib.ValidAsc
import Derived.Lib.ValidLaws
import Derived.Lib.RuneCountTail
import Derived.Deep.LoopGhost
import Derived.Below
import Derived.Test.YtcibjcgipfpniaaGreatDoorG01
import Derived.Test.YtcibjcgipfpniaaGreatDoorG07
import Derived.Test.YtcibjcgipfpniaaGreatDoorG08
namespace Go.Proofs.YtcibjcgipfpniaaGreatDoor
open Go.RowKit

def dig2 (v:Nat):List Nat:=[48+v / 10 % 10,48+v % 10]

theorem cast2 (a b:Nat):(#[Value.int .u8 (a:Int),.int .u8 (b:Int)]:Array Value)=nums .u8 [a,b]:=rfl

set_option maxRecDepth 100000 in
theorem two_any (w:World) (B:Nat) (A:Option Addr) (c n:Nat) (l:List Nat) (hn:l.length=n) (hown:Own .u8 5 w B A c l) (hB:B≤w.heap.size) (hl:n≤1000) (v:Nat) (hv:v≤99) :
  Calls Tryz.prog 83 #[.slice A n c,.int .i64 v] w fun e w'=>∃ g' c',e = .returned (.slice (some ⟨g',0,none⟩) (n+2) c')∧Own .u8 5 w' B (some ⟨g',0,none⟩) c' (l ++ dig2 v)∧w.grownBy w' (blockOf A)∧(blockOf A=some g'∨w.heap.size≤g'):=by
 have HH:∀ w:World,Hid (Holds (w.alloc (.cells #[.int .u8 (48+(v:Int) / 10),.int .u8 (48+(v:Int) % 10)] 5)) w.heap.size 5 (nums .u8 (dig2 v))):=fun w=>Lib.hid (by
  have e:(#[.int .u8 (48+(v:Int) / 10),.int .u8 (48+(v:Int) % 10)]:Array Value)=nums .u8 (dig2 v):=by
   unfold dig2
   rw [←cast2]
   congr 2
   congr 1
   omega
  rw [e]
  exact Holds.fresh _ _ _)
 have HO:=Lib.hid hown
 have HN:=Lib.hid hn
 clear hown hn
 go_enter Tryz.func83,Tryz.ntmps83
 go_wp2_with (with_reducible refine wpList_push _ rfl (.tmp 5) (.tmp 14) 24 rfl .u8 B 5 1 Tryz.underlying24 info_u8 A n c l rfl HN.out (HO.out.alloc _) w.heap.size 2 2 (dig2 v) rfl rfl (HH w).out (by omega) (by omega) (by omega) (by simp;omega) ?hk)
 intro g' c' w1 hown1 hgr hat
 have HO1:=Lib.hid hown1
 have HG:=Lib.hid hgr
 have HA:=Lib.hid hat
 clear hown1 hgr hat
 go_wp2_with fail
 go_ret
 refine ⟨g',c',rfl,HO1.out,?_,?_⟩
 ·exact (World.grownBy_alloc w _ _).trans HG.out
 ·rcases HA.out with h | h
  ·exact .inl h
  ·exact .inr (by rw [h];simp)
end Go.Proofs.YtcibjcgipfpniaaGreatDoor
namespace Go.Proofs.YtcibjcgipfpniaaGreatDoor
open Go.RowKit
set_option linter.unusedVariables false

def tagOf (x:Parts6):Nat:=if 2050≤x.y then 24 else 23
def bodyOf (x:Parts6):List Nat:=(if 2050≤x.y then dig2 (x.y / 100) else []) ++ dig2 (x.y % 100) ++ dig2 x.m ++ dig2 x.d ++ dig2 x.h ++ dig2 x.i ++ dig2 x.s ++ [90]

/-- A thing is being built: the result's block, the thing's block, its body. -/
structure Mk (w0 W:World) (tag:Nat) (A:Option Addr) (n c:Nat) (L:List Nat):Prop where
 len:L.length=n
 r:Holds W w0.heap.size 32 #[.int .u8 0,.slice none 0 0,.slice none 0 0]
 n:Holds W (w0.heap.size+1) 32 #[.int .u8 (tag:Int),.slice A n c,.slice none 0 0]
 own:Own .u8 5 W (w0.heap.size+2) A c L
 bel:Below w0.heap.size w0 W
theorem Mk.step {w0 W W1:World} {tag:Nat} {A:Option Addr} {n c:Nat} {L:List Nat} (h:Mk w0 W tag A n c L) (hg:W.grownBy W1 (blockOf A)) {g c' m n':Nat} {M:List Nat} (hm:M.length=m) (hnm:n+m=n')
  (ho:Own .u8 5 W1 (w0.heap.size+2) (some ⟨g,0,none⟩) c' (L ++ M)) :
  Holds W1 (w0.heap.size+1) 32 #[.int .u8 (tag:Int),.slice A n c,.slice none 0 0]∧Mk w0 (W1.setCell ⟨w0.heap.size+1,1,none⟩ (.slice (some ⟨g,0,none⟩) n' c')) tag (some ⟨g,0,none⟩) n' c' (L ++ M):=by
 subst hnm
 have h1:=h.own.apart h.n (by decide)
 have h2:=h.own.apart h.r (by decide)
 have hn:=Holds.grown h.n hg (Ne.symm h1)
 have hr:=Holds.grown h.r hg (Ne.symm h2)
 refine ⟨hn,by rw [List.length_append,h.len,hm],hr.aside (by simp) _,hn.stored 1 _,ho.aside (by
  have:=(ho.block (g:=g) rfl).1
  intro e
  have e':g=w0.heap.size+1:=by simpa [blockOf] using e
  omega) _,?_⟩
 refine Below.setCell ?_ (by simp) _
 refine h.bel.trans ⟨hg.os,hg.tape,hg.output,hg.size,fun k hk=>hg.block k (Nat.lt_of_lt_of_le hk h.bel.size) (fun e=>?_)⟩
 have:=(h.own.block e.symm).1
 omega

theorem Mk.begin (w:World):Mk w ((w.alloc (.cells #[.int .u8 0,.slice none 0 0,.slice none 0 0] 32)).alloc (.cells #[.int .u8 23,.slice none 0 0,.slice none 0 0] 32)) 23 none 0 0 []:=by
 refine ⟨rfl,(Holds.fresh w _ _).alloc _,?_,Own.nil _ _ _ _,((Below.refl _ _).alloc (Nat.le_refl _) _).alloc (by simp) _⟩
 simpa using Holds.fresh (w.alloc (.cells #[.int .u8 0,.slice none 0 0,.slice none 0 0] 32)) 32 #[.int .u8 23,.slice none 0 0,.slice none 0 0]
theorem Mk.finish {w0 W:World} {tag:Nat} {A:Option Addr} {n c:Nat} {L:List Nat} (h:Mk w0 W tag A n c L) (x y z:Value) :
  Rd .u8 (((W.setCell ⟨w0.heap.size,0,none⟩ x).setCell ⟨w0.heap.size,1,none⟩ y).setCell ⟨w0.heap.size,2,none⟩ z) (((W.setCell ⟨w0.heap.size,0,none⟩ x).setCell ⟨w0.heap.size,1,none⟩ y).setCell ⟨w0.heap.size,2,none⟩ z).heap.size A c L ∧
  Below w0.heap.size w0 (((W.setCell ⟨w0.heap.size,0,none⟩ x).setCell ⟨w0.heap.size,1,none⟩ y).setCell ⟨w0.heap.size,2,none⟩ z)∧∀ g,blockOf A=some g→w0.heap.size≤g:=by
 have hne:∀ i:Nat,blockOf A≠some (⟨w0.heap.size,i,none⟩:Addr).block:=fun i e=>by
  have:=(h.own.block e).1
  simp at this
  omega
 exact ⟨(((h.own.aside (hne 0) _).aside (hne 1) _).aside (hne 2) _).rd,((h.bel.setCell (by simp) _).setCell (by simp) _).setCell (by simp) _,fun g hg=>by have:=(h.own.block hg).1;omega⟩
theorem Mk.start {w v:World} {g c Y:Nat} (hr:Holds v w.heap.size 32 #[.int .u8 0,.slice none 0 0,.slice none 0 0]) (hn:Holds v (w.heap.size+1) 32 #[.int .u8 23,.slice none 0 0,.slice none 0 0])
  (ho:Own .u8 5 v (w.heap.size+2) (some ⟨g,0,none⟩) c ([] ++ dig2 Y))
  (hg:((w.alloc (.cells #[.int .u8 0,.slice none 0 0,.slice none 0 0] 32)).alloc (.cells #[.int .u8 23,.slice none 0 0,.slice none 0 0] 32)).grownBy v (blockOf none)) :
  Mk w (((v.setCell ⟨w.heap.size+1,0,none⟩ (.int .u8 24)).setCell ⟨w.heap.size+1,1,none⟩ (.slice (some ⟨g,0,none⟩) 2 c)).setCell ⟨w.heap.size+1,2,none⟩ (.slice none 0 0)) 24 (some ⟨g,0,none⟩) 2 c (dig2 Y):=by
 have hb:=(ho.block (g:=g) rfl).1
 have hne:blockOf (some ⟨g,0,none⟩)≠some (w.heap.size+1):=by
  intro e
  have e':g=w.heap.size+1:=by simpa [blockOf] using e
  omega
 refine ⟨rfl,((hr.aside (by simp) _).aside (by simp) _).aside (by simp) _,((hn.stored 0 _).stored 1 _).stored 2 _,((ho.aside hne _).aside hne _).aside hne _,?_⟩
 refine ((Below.setCell (Below.setCell (Below.setCell ?_ (by simp) _) (by simp) _) (by simp) _))
 exact (((Below.refl _ _).alloc (Nat.le_refl _) _).alloc (by simp) _).trans ⟨hg.os,hg.tape,hg.output,hg.size,fun k hk=>hg.block k (by simp;omega) (by simp [blockOf])⟩
theorem Mk.alloc {w0 W:World} {tag:Nat} {A:Option Addr} {n c:Nat} {L:List Nat} (h:Mk w0 W tag A n c L) (o:Obj):Mk w0 (W.alloc o) tag A n c L :=
 ⟨h.len,h.r.alloc o,h.n.alloc o,h.own.alloc o,h.bel.alloc h.bel.size o⟩
theorem Mk.hle {w0 W:World} {tag:Nat} {A:Option Addr} {n c:Nat} {L:List Nat} (h:Mk w0 W tag A n c L):w0.heap.size+2≤W.heap.size:=by
 have:=Holds.lt h.n
 omega

theorem ix_any (a b c d e f:Value):(∀ w,(Instr.index 108 (.agg #[a,b,c,d,e,f]) (.int .i64 0)).run Tryz.prog w = .ok a w)∧(∀ w,(Instr.index 108 (.agg #[a,b,c,d,e,f]) (.int .i64 1)).run Tryz.prog w = .ok b w)∧(∀ w,(Instr.index 108 (.agg #[a,b,c,d,e,f]) (.int .i64 2)).run Tryz.prog w = .ok c w) ∧
  (∀ w,(Instr.index 108 (.agg #[a,b,c,d,e,f]) (.int .i64 3)).run Tryz.prog w = .ok d w)∧(∀ w,(Instr.index 108 (.agg #[a,b,c,d,e,f]) (.int .i64 4)).run Tryz.prog w = .ok e w)∧(∀ w,(Instr.index 108 (.agg #[a,b,c,d,e,f]) (.int .i64 5)).run Tryz.prog w = .ok f w) :=
 ⟨fun _=>by kernel_rfl,fun _=>by kernel_rfl,fun _=>by kernel_rfl,fun _=>by kernel_rfl,fun _=>by kernel_rfl,fun _=>by kernel_rfl⟩

set_option maxRecDepth 100000 in
set_option maxHeartbeats 4000000 in
theorem time_own (w:World) (t:Int) (h0:-631152000≤t) (h1:t≤253402300799) (x:Parts6) (hx:IsDate t x) (T:Nat) (N:Nat) (hT:tagOf x=T) (hN:(bodyOf x).length=N) :
  Calls Tryz.prog 39 #[.int .i64 t] w fun e w'=>∃ A c,e = .returned (.agg #[.int .u8 T,.slice A N c,.slice none 0 0])∧Rd .u8 w' w'.heap.size A c (bodyOf x)∧Below w.heap.size w w'∧∀ g,blockOf A=some g→w.heap.size≤g:=by
 have Hd:=fun W=>date_yes W t h0 h1 x hx
 have hvy:=hx.y9999
 have hvm:=hx.valid.m12
 have hvd:=hx.valid.d31
 have b1:=hx.h23
 have b2:=hx.i59
 have b3:=hx.s59
 clear hx
 obtain ⟨y,m,d,h,i,s⟩:=x
 unfold Parts6.vals at Hd
 unfold bodyOf at hN ⊢
 unfold tagOf at hT
 simp only at Hd hN hT hvy hvm hvd b1 b2 b3 ⊢
 have HD:=Lib.hid Hd
 clear Hd
 have hym:((y:Int) % 100)=((y % 100:Nat):Int):=by omega
 have HYM:=Lib.hid hym
 clear hym
 have IX:=fun a b c d e f=>(ix_any a b c d e f)
 have i0:=fun a b c d e f=>(ix_any a b c d e f).1
 have i1:=fun a b c d e f=>(ix_any a b c d e f).2.1
 have i2:=fun a b c d e f=>(ix_any a b c d e f).2.2.1
 have i3:=fun a b c d e f=>(ix_any a b c d e f).2.2.2.1
 have i4:=fun a b c d e f=>(ix_any a b c d e f).2.2.2.2.1
 have i5:=fun a b c d e f=>(ix_any a b c d e f).2.2.2.2.2
 clear IX
 by_cases hy:2050≤y
 ·rw [if_pos hy] at hT
  simp only [hy,if_true] at hN ⊢
  have HT:=Lib.hid hT
  have HN:=Lib.hid hN
  have hyd:((y:Int) / 100)=((y / 100:Nat):Int):=by omega
  have HYD:=Lib.hid hyd
  clear hT hN hyd
  go_enter Tryz.func39,Tryz.ntmps39
  go_wp2_with fail
  refine (is_yes _ t h0 h1).mono ?_
  rintro e w1 ⟨rfl,rfl⟩
  go_wp2_with fail
  refine (HD.out _).mono ?_
  rintro e w1 ⟨rfl,rfl⟩
  go_wp2_with fail
  rw [HYD.out]
  refine (two_any _ (w.heap.size+2) none 0 0 [] rfl (Own.nil _ _ _ _) (by simp) (by omega) (y / 100) (by omega)).mono ?_
  rintro e v ⟨g,c,rfl,ho,hg,_⟩
  have hr:Holds v w.heap.size 32 #[.int .u8 0,.slice none 0 0,.slice none 0 0]:=Holds.grown ((Holds.fresh w _ _).alloc _) hg (by simp [blockOf])
  have hn:Holds v (w.heap.size+1) 32 #[.int .u8 23,.slice none 0 0,.slice none 0 0]:=Holds.grown (by simpa using Holds.fresh (w.alloc (.cells #[.int .u8 0,.slice none 0 0,.slice none 0 0] 32)) 32 #[.int .u8 23,.slice none 0 0,.slice none 0 0]) hg (by simp [blockOf])
  have hc:=hn.cell
  have hf:=hn.open_
  have hm:=Mk.start hr hn ho hg
  clear hr ho hg hn
  go_wp2_with fail
  clear hc hf
  refine wp_loop_rounds 7 ?_
  rw [rounds_succ]
  have hc:=hm.n.cell
  have hf:=hm.n.open_
  go_wp2_with fail
  rw [HYM.out]
  clear hc hf
  refine (two_any _ (w.heap.size+2) (some ⟨g,0,none⟩) c 2 (dig2 (y / 100)) hm.len hm.own hm.hle (by omega) (y % 100) (by omega)).mono ?_
  rintro e v0 ⟨g0,c0,rfl,ho0,hg0,_⟩
  have hs0:=Mk.step hm hg0 (m:=2) (n':=4) rfl rfl ho0
  have hm0:=hs0.2
  have hc0:=hs0.1.cell
  have hf0:=hs0.1.open_
  clear ho0 hg0 hs0 hm
  go_wp2_with fail
  clear hc0 hf0
  rw [rounds_succ]
  have hc0:=hm0.n.cell
  have hf0:=hm0.n.open_
  go_wp2_with fail
  clear hc0 hf0
  refine (two_any _ (w.heap.size+2) (some ⟨g0,0,none⟩) c0 4 ((dig2 (y / 100)) ++ dig2 (y % 100)) hm0.len hm0.own hm0.hle (by omega) (m) (by omega)).mono ?_
  rintro e v1 ⟨g1,c1,rfl,ho1,hg1,_⟩
  have hs1:=Mk.step hm0 hg1 (m:=2) (n':=6) rfl rfl ho1
  have hm1:=hs1.2
  have hc1:=hs1.1.cell
  have hf1:=hs1.1.open_
  clear ho1 hg1 hs1 hm0
  go_wp2_with fail
  clear hc1 hf1
  rw [rounds_succ]
  have hc1:=hm1.n.cell
  have hf1:=hm1.n.open_
  go_wp2_with fail
  clear hc1 hf1
  refine (two_any _ (w.heap.size+2) (some ⟨g1,0,none⟩) c1 6 (((dig2 (y / 100)) ++ dig2 (y % 100)) ++ dig2 (m)) hm1.len hm1.own hm1.hle (by omega) (d) (by omega)).mono ?_
  rintro e v2 ⟨g2,c2,rfl,ho2,hg2,_⟩
  have hs2:=Mk.step hm1 hg2 (m:=2) (n':=8) rfl rfl ho2
  have hm2:=hs2.2
  have hc2:=hs2.1.cell
  have hf2:=hs2.1.open_
  clear ho2 hg2 hs2 hm1
  go_wp2_with fail
  clear hc2 hf2
  rw [rounds_succ]
  have hc2:=hm2.n.cell
  have hf2:=hm2.n.open_
  go_wp2_with fail
  clear hc2 hf2
  refine (two_any _ (w.heap.size+2) (some ⟨g2,0,none⟩) c2 8 ((((dig2 (y / 100)) ++ dig2 (y % 100)) ++ dig2 (m)) ++ dig2 (d)) hm2.len hm2.own hm2.hle (by omega) (h) (by omega)).mono ?_
  rintro e v3 ⟨g3,c3,rfl,ho3,hg3,_⟩
  have hs3:=Mk.step hm2 hg3 (m:=2) (n':=10) rfl rfl ho3
  have hm3:=hs3.2
  have hc3:=hs3.1.cell
  have hf3:=hs3.1.open_
  clear ho3 hg3 hs3 hm2
  go_wp2_with fail
  clear hc3 hf3
  rw [rounds_succ]
  have hc3:=hm3.n.cell
  have hf3:=hm3.n.open_
  go_wp2_with fail
  clear hc3 hf3
  refine (two_any _ (w.heap.size+2) (some ⟨g3,0,none⟩) c3 10 (((((dig2 (y / 100)) ++ dig2 (y % 100)) ++ dig2 (m)) ++ dig2 (d)) ++ dig2 (h)) hm3.len hm3.own hm3.hle (by omega) (i) (by omega)).mono ?_
  rintro e v4 ⟨g4,c4,rfl,ho4,hg4,_⟩
  have hs4:=Mk.step hm3 hg4 (m:=2) (n':=12) rfl rfl ho4
  have hm4:=hs4.2
  have hc4:=hs4.1.cell
  have hf4:=hs4.1.open_
  clear ho4 hg4 hs4 hm3
  go_wp2_with fail
  clear hc4 hf4
  rw [rounds_succ]
  have hc4:=hm4.n.cell
  have hf4:=hm4.n.open_
  go_wp2_with fail
  clear hc4 hf4
  refine (two_any _ (w.heap.size+2) (some ⟨g4,0,none⟩) c4 12 ((((((dig2 (y / 100)) ++ dig2 (y % 100)) ++ dig2 (m)) ++ dig2 (d)) ++ dig2 (h)) ++ dig2 (i)) hm4.len hm4.own hm4.hle (by omega) (s) (by omega)).mono ?_
  rintro e v5 ⟨g5,c5,rfl,ho5,hg5,_⟩
  have hs5:=Mk.step hm4 hg5 (m:=2) (n':=14) rfl rfl ho5
  have hm5:=hs5.2
  have hc5:=hs5.1.cell
  have hf5:=hs5.1.open_
  clear ho5 hg5 hs5 hm4
  go_wp2_with fail
  clear hc5 hf5
  rw [rounds_succ]
  have hc5:=hm5.n.cell
  have hf5:=hm5.n.open_
  generalize (v5.setCell ⟨w.heap.size+1,1,none⟩ (.slice (some ⟨g5,0,none⟩) 14 c5))=V at *
  have HH:Hid (Holds (V.alloc (.cells #[.int .u8 90] 5)) V.heap.size 5 (nums .u8 [90])):=Lib.hid (Holds.fresh V 5 (nums .u8 [90]))
  have HO:=Lib.hid hm5.own
  have HZ:=Lib.hid (show w.heap.size+2≤_ from hm5.hle)
  have HL:=Lib.hid hm5.len
  go_wp2_with (with_reducible refine wpList_push _ rfl (.tmp 50) (.tmp 51) 24 rfl .u8 (w.heap.size+2) 5 1 Tryz.underlying24 info_u8 (some ⟨g5,0,none⟩) 14 c5 (((((((dig2 (y / 100)) ++ dig2 (y % 100)) ++ dig2 (m)) ++ dig2 (d)) ++ dig2 (h)) ++ dig2 (i)) ++ dig2 (s)) rfl HL.out (HO.out.alloc _) V.heap.size 1 1 [90] rfl rfl HH.out (by omega) (by omega) (by omega) (Nat.le_trans HZ.out (by simp)) ?hk24)
  intro gz cz wz hoz hgz hatz
  have hz:=Mk.step (W:=_) (hm5.alloc _) hgz (m:=1) (n':=15) rfl rfl (g:=gz) (c':=cz) (M:=[90]) (by first | exact hoz | simpa only [List.append_assoc] using hoz)
  have hmz:=hz.2
  have hcz:=hz.1.cell
  have hfz:=hz.1.open_
  clear hoz hgz hatz hz hm5 HO HZ HL HH
  have hcr:=hmz.r.cell
  have hfr:=hmz.r.open_
  have hcn:=hmz.n.cell
  have hfn:=hmz.n.open_
  go_wp2_with fail
  refine bodyPost_ret (v:=.agg #[.int .u8 24,.slice (some ⟨gz,0,none⟩) 15 cz,.slice none 0 0]) (by simp [results,Tryz.results39,go_sem,hcr]) rfl ⟨some ⟨gz,0,none⟩,cz,?_,?_⟩
  ·rw [←HT.out,←HN.out];rfl
  ·have hfin:=hmz.finish (.int .u8 24) (.slice (some ⟨gz,0,none⟩) 15 cz) (.slice none 0 0)
   exact hfin
 ·rw [if_neg hy] at hT
  simp only [hy,if_false,List.nil_append] at hN ⊢
  have HT:=Lib.hid hT
  have HN:=Lib.hid hN
  clear hT hN
  go_enter Tryz.func39,Tryz.ntmps39
  go_wp2_with fail
  refine (is_yes _ t h0 h1).mono ?_
  rintro e w1 ⟨rfl,rfl⟩
  go_wp2_with fail
  refine (HD.out _).mono ?_
  rintro e w1 ⟨rfl,rfl⟩
  obtain ⟨L0,HL0⟩:∃ L0:List Nat,Hid (L0=[]):=⟨_,rfl⟩
  have hm:=Mk.begin w
  rw [←HL0.out] at hm
  go_wp2_with fail
  generalize ((w.alloc (.cells #[.int .u8 0,.slice none 0 0,.slice none 0 0] 32)).alloc (.cells #[.int .u8 23,.slice none 0 0,.slice none 0 0] 32))=v at *
  refine wp_loop_rounds 7 ?_
  rw [rounds_succ]
  have hc:=hm.n.cell
  have hf:=hm.n.open_
  go_wp2_with fail
  rw [HYM.out]
  clear hc hf
  refine (two_any _ (w.heap.size+2) none 0 0 L0 hm.len hm.own hm.hle (by omega) (y % 100) (by omega)).mono ?_
  rintro e v0 ⟨g0,c0,rfl,ho0,hg0,_⟩
  have hs0:=Mk.step hm hg0 (m:=2) (n':=2) rfl rfl ho0
  have hm0:=hs0.2
  have hc0:=hs0.1.cell
  have hf0:=hs0.1.open_
  clear ho0 hg0 hs0 hm
  go_wp2_with fail
  clear hc0 hf0
  rw [rounds_succ]
  have hc0:=hm0.n.cell
  have hf0:=hm0.n.open_
  go_wp2_with fail
  clear hc0 hf0
  refine (two_any _ (w.heap.size+2) (some ⟨g0,0,none⟩) c0 2 (L0 ++ dig2 (y % 100)) hm0.len hm0.own hm0.hle (by omega) (m) (by omega)).mono ?_
  rintro e v1 ⟨g1,c1,rfl,ho1,hg1,_⟩
  have hs1:=Mk.step hm0 hg1 (m:=2) (n':=4) rfl rfl ho1
  have hm1:=hs1.2
  have hc1:=hs1.1.cell
  have hf1:=hs1.1.open_
  clear ho1 hg1 hs1 hm0
  go_wp2_with fail
  clear hc1 hf1
  rw [rounds_succ]
  have hc1:=hm1.n.cell
  have hf1:=hm1.n.open_
  go_wp2_with fail
  clear hc1 hf1
  refine (two_any _ (w.heap.size+2) (some ⟨g1,0,none⟩) c1 4 ((L0 ++ dig2 (y % 100)) ++ dig2 (m)) hm1.len hm1.own hm1.hle (by omega) (d) (by omega)).mono ?_
  rintro e v2 ⟨g2,c2,rfl,ho2,hg2,_⟩
  have hs2:=Mk.step hm1 hg2 (m:=2) (n':=6) rfl rfl ho2
  have hm2:=hs2.2
  have hc2:=hs2.1.cell
  have hf2:=hs2.1.open_
  clear ho2 hg2 hs2 hm1
  go_wp2_with fail
  clear hc2 hf2
  rw [rounds_succ]
  have hc2:=hm2.n.cell
  have hf2:=hm2.n.open_
  go_wp2_with fail
  clear hc2 hf2
  refine (two_any _ (w.heap.size+2) (some ⟨g2,0,none⟩) c2 6 (((L0 ++ dig2 (y % 100)) ++ dig2 (m)) ++ dig2 (d)) hm2.len hm2.own hm2.hle (by omega) (h) (by omega)).mono ?_
  rintro e v3 ⟨g3,c3,rfl,ho3,hg3,_⟩
  have hs3:=Mk.step hm2 hg3 (m:=2) (n':=8) rfl rfl ho3
  have hm3:=hs3.2
  have hc3:=hs3.1.cell
  have hf3:=hs3.1.open_
  clear ho3 hg3 hs3 hm2
  go_wp2_with fail
  clear hc3 hf3
  rw [rounds_succ]
  have hc3:=hm3.n.cell
  have hf3:=hm3.n.open_
  go_wp2_with fail
  clear hc3 hf3
  refine (two_any _ (w.heap.size+2) (some ⟨g3,0,none⟩) c3 8 ((((L0 ++ dig2 (y % 100)) ++ dig2 (m)) ++ dig2 (d)) ++ dig2 (h)) hm3.len hm3.own hm3.hle (by omega) (i) (by omega)).mono ?_
  rintro e v4 ⟨g4,c4,rfl,ho4,hg4,_⟩
  have hs4:=Mk.step hm3 hg4 (m:=2) (n':=10) rfl rfl ho4
  have hm4:=hs4.2
  have hc4:=hs4.1.cell
  have hf4:=hs4.1.open_
  clear ho4 hg4 hs4 hm3
  go_wp2_with fail
  clear hc4 hf4
  rw [rounds_succ]
  have hc4:=hm4.n.cell
  have hf4:=hm4.n.open_
  go_wp2_with fail
  clear hc4 hf4
  refine (two_any _ (w.heap.size+2) (some ⟨g4,0,none⟩) c4 10 (((((L0 ++ dig2 (y % 100)) ++ dig2 (m)) ++ dig2 (d)) ++ dig2 (h)) ++ dig2 (i)) hm4.len hm4.own hm4.hle (by omega) (s) (by omega)).mono ?_
  rintro e v5 ⟨g5,c5,rfl,ho5,hg5,_⟩
  have hs5:=Mk.step hm4 hg5 (m:=2) (n':=12) rfl rfl ho5
  have hm5:=hs5.2
  have hc5:=hs5.1.cell
  have hf5:=hs5.1.open_
  clear ho5 hg5 hs5 hm4
  go_wp2_with fail
  clear hc5 hf5
  rw [rounds_succ]
  have hc5:=hm5.n.cell
  have hf5:=hm5.n.open_
  generalize (v5.setCell ⟨w.heap.size+1,1,none⟩ (.slice (some ⟨g5,0,none⟩) 12 c5))=V at *
  have HH:Hid (Holds (V.alloc (.cells #[.int .u8 90] 5)) V.heap.size 5 (nums .u8 [90])):=Lib.hid (Holds.fresh V 5 (nums .u8 [90]))
  have HO:=Lib.hid hm5.own
  have HZ:=Lib.hid (show w.heap.size+2≤_ from hm5.hle)
  have HL:=Lib.hid hm5.len
  go_wp2_with (with_reducible refine wpList_push _ rfl (.tmp 50) (.tmp 51) 24 rfl .u8 (w.heap.size+2) 5 1 Tryz.underlying24 info_u8 (some ⟨g5,0,none⟩) 12 c5 ((((((L0 ++ dig2 (y % 100)) ++ dig2 (m)) ++ dig2 (d)) ++ dig2 (h)) ++ dig2 (i)) ++ dig2 (s)) rfl HL.out (HO.out.alloc _) V.heap.size 1 1 [90] rfl rfl HH.out (by omega) (by omega) (by omega) (Nat.le_trans HZ.out (by simp)) ?hk23)
  intro gz cz wz hoz hgz hatz
  have hz:=Mk.step (W:=_) (hm5.alloc _) hgz (m:=1) (n':=13) rfl rfl (g:=gz) (c':=cz) (M:=[90]) (by first | exact hoz | simpa only [List.append_assoc] using hoz)
  have hmz:=hz.2
  have hcz:=hz.1.cell
  have hfz:=hz.1.open_
  clear hoz hgz hatz hz hm5 HO HZ HL HH
  have hcr:=hmz.r.cell
  have hfr:=hmz.r.open_
  have hcn:=hmz.n.cell
  have hfn:=hmz.n.open_
  go_wp2_with fail
  refine bodyPost_ret (v:=.agg #[.int .u8 23,.slice (some ⟨gz,0,none⟩) 13 cz,.slice none 0 0]) (by simp [results,Tryz.results39,go_sem,hcr]) rfl ⟨some ⟨gz,0,none⟩,cz,?_,?_⟩
  ·rw [←HT.out,←HN.out];rfl
  ·have hfin:=hmz.finish (.int .u8 23) (.slice (some ⟨gz,0,none⟩) 13 cz) (.slice none 0 0)
   rw [HL0.out] at hfin;exact hfin
theorem time_yes (w:World) (t:Int) (h0:-631152000≤t) (h1:t≤253402300799) (x:Parts6) (hx:IsDate t x) (T:Nat) (N:Nat) (hT:tagOf x=T) (hN:(bodyOf x).length=N) :
  Calls Tryz.prog 39 #[.int .i64 t] w fun e w'=>∃ A c,e = .returned (.agg #[.int .u8 T,.slice A N c,.slice none 0 0])∧Rd .u8 w' w'.heap.size A c (bodyOf x)∧Below w.heap.size w w':=(time_own w t h0 h1 x hx T N hT hN).mono fun e w' ⟨A,c,h,hr,hb,_⟩=>⟨A,c,h,hr,hb⟩
end Go.Proofs.YtcibjcgipfpniaaGreatDoor
namespace Go.Proofs.YtcibjcgipfpniaaGreatDoor
open Go.RowKit
set_option linter.unusedVariables false

set_option maxRecDepth 100000 in
theorem two'_any (w:World) (v:Nat) (hv:v≤100000) :
  Calls Tryz.prog 87 #[.int .i64 v] w fun e w'=>e = .returned (.slice (some ⟨w.heap.size,0,none⟩) 2 2)∧w'=w.alloc (.cells (nums .u8 (dig2 v)) 5):=by
 have h:∀ W:World,W.alloc (.cells #[.int .u8 (48+(v:Int) / 10 % 10),.int .u8 (48+(v:Int) % 10)] 5)=W.alloc (.cells (nums .u8 (dig2 v)) 5):=fun W=>by
  have e:(#[.int .u8 (48+(v:Int) / 10 % 10),.int .u8 (48+(v:Int) % 10)]:Array Value)=nums .u8 (dig2 v):=by
   unfold dig2
   rw [←cast2]
   congr 2
  rw [e]
 have H:=Lib.hid h
 clear h
 go_enter Tryz.func87,Tryz.ntmps87
 go_wp2_with fail
 go_ret
 exact ⟨rfl,H.out _⟩
end Go.Proofs.YtcibjcgipfpniaaGreatDoor
namespace Go.Proofs.YtcibjcgipfpniaaGreatDoor
open Go.RowKit
set_option linter.unusedVariables false

section
variable (w:World) (B B':Nat) (A A' K:Option Addr) (c c' n n' k kc ta tb:Nat) (l l':List Nat)
set_option maxRecDepth 100000 in
theorem same_tag (hne:ta≠tb) :
  Calls Tryz.prog 48 #[.agg #[.int .u8 ta,.slice A n c,.slice none 0 0],.agg #[.int .u8 tb,.slice A' n' c',.slice K k kc]] w fun e w'=>e = .returned (.bool false)∧Below w.heap.size w w':=by
 have h:((ta:Int) != (tb:Int))=true:=by rw [bne_iff_ne];omega
 clear hne
 go_enter Tryz.func48,Tryz.ntmps48
 go_wp2_with fail
 go_ret
 exact ⟨rfl,((Below.refl _ _).alloc (Nat.le_refl _) _).alloc (by simp) _⟩
set_option maxRecDepth 100000 in
theorem same_body (hn:l.length=n) (hn':l'.length=n') (hr:Rd .u8 w B A c l) (hr':Rd .u8 w B' A' c' l') (hB:B≤w.heap.size) (hB':B'≤w.heap.size) (ho:Oct8 l) (ho':Oct8 l') (hne:l≠l') :
  Calls Tryz.prog 48 #[.agg #[.int .u8 ta,.slice A n c,.slice none 0 0],.agg #[.int .u8 ta,.slice A' n' c',.slice K k kc]] w fun e w'=>e = .returned (.bool false)∧Below w.heap.size w w':=by
 have HN:=Lib.hid hn
 have HN':=Lib.hid hn'
 have HNE:=Lib.hid hne
 clear hn hn' hne
 go_enter Tryz.func48,Tryz.ntmps48
 go_wp2_with fail
 refine (equal_no _ B B' A A' c c' n n' l l' HN.out HN'.out ((hr.alloc hB _).alloc (Nat.le_trans hB (by simp)) _) ((hr'.alloc hB' _).alloc (Nat.le_trans hB' (by simp)) _) ho ho' HNE.out).mono ?_
 rintro e w1 ⟨rfl,rfl⟩
 go_wp2_with fail
 go_ret
 exact ⟨rfl,((Below.refl _ _).alloc (Nat.le_refl _) _).alloc (by simp) _⟩
set_option maxRecDepth 100000 in
theorem same_kids (hn:l.length=n) (hr:Rd .u8 w B A c l) (hr':Rd .u8 w B' A' c' l) (hB:B≤w.heap.size) (hB':B'≤w.heap.size) (ho:Oct8 l) (hk:0<k) (hkc:k≤1000000) :
  Calls Tryz.prog 48 #[.agg #[.int .u8 ta,.slice A n c,.slice none 0 0],.agg #[.int .u8 ta,.slice A' n c',.slice K k kc]] w fun e w'=>e = .returned (.bool false)∧Below w.heap.size w w':=by
 have HN:=Lib.hid hn
 have h:((0:Int) != (k:Int))=true:=by rw [bne_iff_ne];omega
 clear hn
 go_enter Tryz.func48,Tryz.ntmps48
 go_wp2_with fail
 refine (equal_yes _ B B' A A' c c' n l HN.out ((hr.alloc hB _).alloc (Nat.le_trans hB (by simp)) _) ((hr'.alloc hB' _).alloc (Nat.le_trans hB' (by simp)) _) ho).mono ?_
 rintro e w1 ⟨rfl,rfl⟩
 go_wp2_with fail
 go_ret
 exact ⟨rfl,((Below.refl _ _).alloc (Nat.le_refl _) _).alloc (by simp) _⟩
set_option maxRecDepth 100000 in
theorem same_all (hn:l.length=n) (hr:Rd .u8 w B A c l) (hr':Rd .u8 w B' A' c' l) (hB:B≤w.heap.size) (hB':B'≤w.heap.size) (ho:Oct8 l) :
  Calls Tryz.prog 48 #[.agg #[.int .u8 ta,.slice A n c,.slice none 0 0],.agg #[.int .u8 ta,.slice A' n c',.slice K 0 kc]] w fun e w'=>e = .returned (.bool true)∧Below w.heap.size w w':=by
 have HN:=Lib.hid hn
 clear hn
 go_enter Tryz.func48,Tryz.ntmps48
 go_wp2_with fail
 refine (equal_yes _ B B' A A' c c' n l HN.out ((hr.alloc hB _).alloc (Nat.le_trans hB (by simp)) _) ((hr'.alloc hB' _).alloc (Nat.le_trans hB' (by simp)) _) ho).mono ?_
 rintro e w1 ⟨rfl,rfl⟩
 go_wp2_with fail
 refine wp_loop_rounds 1 ?_
 rw [rounds_succ]
 go_wp2_with fail
 go_ret
 exact ⟨rfl,((Below.refl _ _).alloc (Nat.le_refl _) _).alloc (by simp) _⟩

end
end Go.Proofs.YtcibjcgipfpniaaGreatDoor
namespace Go.Proofs.YtcibjcgipfpniaaGreatDoor
open Go.RowKit
set_option linter.unusedVariables false
attribute [local go_sem ↓] Go.wp_at_zero Go.wp_at_succ

set_option maxRecDepth 100000 in
theorem time'_no (w:World) (t:Int) (h:t < -631152000∨253402300799<t) :
  Calls Tryz.prog 42 #[.int .i64 t] w fun e w'=>e = .returned (.agg #[.int .u8 0,.slice none 0 0,.slice none 0 0])∧Below w.heap.size w w':=by
 go_enter Tryz.func42,Tryz.ntmps42
 go_wp2_with fail
 refine (is'_no _ t h).mono ?_
 rintro e w1 ⟨rfl,rfl⟩
 go_wp2_with fail
 exact bodyPost_ret (v:=.agg #[.int .u8 0,.slice none 0 0,.slice none 0 0]) (by simp [results,Tryz.results42,go_sem]) rfl ⟨rfl,(Below.refl _ _).alloc (Nat.le_refl _) _⟩

/-- A thing is being built, beside a date: the result's block, the date's, the thing's, its body. -/
structure Md (w0 W:World) (G:Nat) (ds:Array Value) (tag:Nat) (A:Option Addr) (n c:Nat) (L:List Nat):Prop where
 hG:w0.heap.size<G
 len:L.length=n
 r:Holds W w0.heap.size 32 #[.int .u8 0,.slice none 0 0,.slice none 0 0]
 d:Holds W G 108 ds
 n:Holds W (G+1) 32 #[.int .u8 (tag:Int),.slice A n c,.slice none 0 0]
 own:Own .u8 5 W (G+2) A c L
 bel:Below w0.heap.size w0 W
theorem Md.step {w0 W W1:World} {G:Nat} {ds:Array Value} {tag:Nat} {A:Option Addr} {n c:Nat} {L:List Nat} (h:Md w0 W G ds tag A n c L) (hg:W.grownBy W1 (blockOf A)) {g c' m n':Nat} {M:List Nat} (hm:M.length=m) (hnm:n+m=n')
  (ho:Own .u8 5 W1 (G+2) (some ⟨g,0,none⟩) c' (L ++ M)) :
  Holds W1 (G+1) 32 #[.int .u8 (tag:Int),.slice A n c,.slice none 0 0]∧Holds W1 G 108 ds∧Md w0 (W1.setCell ⟨G+1,1,none⟩ (.slice (some ⟨g,0,none⟩) n' c')) G ds tag (some ⟨g,0,none⟩) n' c' (L ++ M):=by
 subst hnm
 have hG:=h.hG
 have h1:=h.own.apart h.n (by decide)
 have h2:=h.own.apart h.r (by decide)
 have h3:=h.own.apart h.d (by decide)
 have hn:=Holds.grown h.n hg (Ne.symm h1)
 have hr:=Holds.grown h.r hg (Ne.symm h2)
 have hd:=Holds.grown h.d hg (Ne.symm h3)
 refine ⟨hn,hd,hG,by rw [List.length_append,h.len,hm],hr.aside (by simp;omega) _,hd.aside (by simp) _,hn.stored 1 _,ho.aside (by
  have:=(ho.block (g:=g) rfl).1
  intro e
  have e':g=G+1:=by simpa [blockOf] using e
  omega) _,?_⟩
 refine Below.setCell ?_ (by simp;omega) _
 refine h.bel.trans ⟨hg.os,hg.tape,hg.output,hg.size,fun k hk=>hg.block k (Nat.lt_of_lt_of_le hk h.bel.size) (fun e=>?_)⟩
 have:=(h.own.block e.symm).1
 omega
theorem Md.drewN {w0 W:World} {G:Nat} {ds:Array Value} {tag:Nat} {A:Option Addr} {n c:Nat} {L:List Nat} (h:Md w0 W G ds tag A n c L) (k:Nat):Md w0 (W.drewN k) G ds tag A n c L :=
 ⟨h.hG,h.len,h.r,h.d,h.n,h.own,below_drewN h.bel k⟩
theorem Md.drew {w0 W:World} {G:Nat} {ds:Array Value} {tag:Nat} {A:Option Addr} {n c:Nat} {L:List Nat} (h:Md w0 W G ds tag A n c L):Md w0 W.drew G ds tag A n c L :=
 ⟨h.hG,h.len,h.r,h.d,h.n,h.own,h.bel.drew⟩
theorem Md.alloc {w0 W:World} {G:Nat} {ds:Array Value} {tag:Nat} {A:Option Addr} {n c:Nat} {L:List Nat} (h:Md w0 W G ds tag A n c L) (o:Obj):Md w0 (W.alloc o) G ds tag A n c L :=
 ⟨h.hG,h.len,h.r.alloc o,h.d.alloc o,h.n.alloc o,h.own.alloc o,h.bel.alloc h.bel.size o⟩
theorem Md.hle {w0 W:World} {G:Nat} {ds:Array Value} {tag:Nat} {A:Option Addr} {n c:Nat} {L:List Nat} (h:Md w0 W G ds tag A n c L):G+2≤W.heap.size:=by
 have:=Holds.lt h.n
 omega
theorem Md.begin {w W:World} (ds:Array Value) (hr:Holds W w.heap.size 32 #[.int .u8 0,.slice none 0 0,.slice none 0 0]) (hb:Below w.heap.size w W) :
  Md w ((W.alloc (.cells ds 108)).alloc (.cells #[.int .u8 23,.slice none 0 0,.slice none 0 0] 32)) W.heap.size ds 23 none 0 0 []:=by
 refine ⟨Holds.lt hr,rfl,(hr.alloc _).alloc _,(Holds.fresh W _ _).alloc _,?_,Own.nil _ _ _ _,(hb.alloc hb.size _).alloc (by have:=hb.size;simp;omega) _⟩
 simpa using Holds.fresh (W.alloc (.cells ds 108)) 32 #[.int .u8 23,.slice none 0 0,.slice none 0 0]
theorem Md.lead {w W:World} {G:Nat} {ds:Array Value} {Y:Nat} (h:Md w W G ds 23 none 0 0 []) :
  Md w ((((W.alloc (.cells (nums .u8 (dig2 Y)) 5)).setCell ⟨G+1,0,none⟩ (.int .u8 24)).setCell ⟨G+1,1,none⟩ (.slice (some ⟨W.heap.size,0,none⟩) 2 2)).setCell ⟨G+1,2,none⟩ (.slice none 0 0)) G ds 24 (some ⟨W.heap.size,0,none⟩) 2 2 (dig2 Y):=by
 have hG:=h.hG
 have hle:=h.hle
 have hne:blockOf (some ⟨W.heap.size,0,none⟩)≠some (G+1):=by
  intro e
  have e':W.heap.size=G+1:=by simpa [blockOf] using e
  omega
 have ho:Own .u8 5 (W.alloc (.cells (nums .u8 (dig2 Y)) 5)) (G+2) (some ⟨W.heap.size,0,none⟩) 2 (dig2 Y):=Own.of_row (l:=dig2 Y) hle (by show 2≤_;omega) (Holds.fresh W _ _)
 refine ⟨hG,rfl,(((h.r.alloc _).aside (by simp;omega) _).aside (by simp;omega) _).aside (by simp;omega) _,(((h.d.alloc _).aside (by simp) _).aside (by simp) _).aside (by simp) _,(((h.n.alloc _).stored 0 _).stored 1 _).stored 2 _,((ho.aside hne _).aside hne _).aside hne _,?_⟩
 exact Below.setCell (Below.setCell (Below.setCell (h.bel.alloc h.bel.size _) (by simp;omega) _) (by simp;omega) _) (by simp;omega) _
theorem Md.finish {w0 W:World} {G:Nat} {ds:Array Value} {tag:Nat} {A:Option Addr} {n c:Nat} {L:List Nat} (h:Md w0 W G ds tag A n c L) (x y z:Value) :
  Rd .u8 (((W.setCell ⟨w0.heap.size,0,none⟩ x).setCell ⟨w0.heap.size,1,none⟩ y).setCell ⟨w0.heap.size,2,none⟩ z) (((W.setCell ⟨w0.heap.size,0,none⟩ x).setCell ⟨w0.heap.size,1,none⟩ y).setCell ⟨w0.heap.size,2,none⟩ z).heap.size A c L ∧
  Below w0.heap.size w0 (((W.setCell ⟨w0.heap.size,0,none⟩ x).setCell ⟨w0.heap.size,1,none⟩ y).setCell ⟨w0.heap.size,2,none⟩ z)∧∀ g,blockOf A=some g→w0.heap.size≤g:=by
 have hG:=h.hG
 have hne:∀ i:Nat,blockOf A≠some (⟨w0.heap.size,i,none⟩:Addr).block:=fun i e=>by
  have:=(h.own.block e).1
  simp at this
  omega
 exact ⟨(((h.own.aside (hne 0) _).aside (hne 1) _).aside (hne 2) _).rd,((h.bel.setCell (by simp) _).setCell (by simp) _).setCell (by simp) _,fun g hg=>by have:=(h.own.block hg).1;omega⟩

def digs (l:List Nat):List Nat:=(l.map dig2).flatten
theorem digs_next (l:List Nat) {k:Nat} (hk:k<l.length):digs (l.take (k+1))=digs (l.take k) ++ dig2 (l.getD k 0):=by
 unfold digs
 rw [List.take_succ_eq_append_getElem hk]
 rw [List.map_append,List.flatten_append]
 simp [List.getD,hk]
def cells6 (l:List Nat):Array Value:=(l.map fun v:Nat=>Value.int .i64 (v:Int)).toArray
theorem cells6_at (l:List Nat) {k:Nat} (hk:k<l.length):(cells6 l)[k]?=some (.int .i64 ((l.getD k 0:Nat):Int)):=by
 simp [cells6,List.getD,hk]

/-- What holds at each round's head. -/
def AtRound (w:World) (G:Nat) (vs L0:List Nat) (tag:Nat) (v:Value) (W:World):Prop :=
 ∃ (k n c:Nat) (A:Option Addr),v = .int .i64 (k:Int)∧k≤6∧n=L0.length+2*k∧Md w W G (cells6 vs) tag A n c (L0 ++ digs (vs.take k))

set_option maxRecDepth 100000 in
set_option maxHeartbeats 4000000 in
theorem time'_own (w:World) (t:Int) (h0:-631152000≤t) (h1:t≤253402300799) (x:Parts6) (hx:IsDate t x) (T:Nat) (N:Nat) (hT:tagOf x=T) (hN:(bodyOf x).length=N) :
  Calls Tryz.prog 42 #[.int .i64 t] w fun e w'=>∃ A c,e = .returned (.agg #[.int .u8 T,.slice A N c,.slice none 0 0])∧Rd .u8 w' w'.heap.size A c (bodyOf x)∧Below w.heap.size w w'∧∀ g,blockOf A=some g→w.heap.size≤g:=by
 have Hd:=fun W=>date'_yes W t h0 h1 x hx
 have hvy:=hx.y9999
 have hvm:=hx.valid.m12
 have hvd:=hx.valid.d31
 have b1:=hx.h23
 have b2:=hx.i59
 have b3:=hx.s59
 clear hx
 obtain ⟨y,m,d,h,i,s⟩:=x
 unfold Parts6.vals at Hd
 unfold bodyOf at hN ⊢
 unfold tagOf at hT
 simp only at Hd hN hT hvy hvm hvd b1 b2 b3 ⊢
 have HD:=Lib.hid Hd
 clear Hd
 by_cases hy:2050≤y
 ·rw [if_pos hy] at hT
  simp only [hy,if_true] at hN ⊢
  have HT:=Lib.hid hT
  have HN:=Lib.hid hN
  have hyd:((y:Int) / 100)=((y / 100:Nat):Int):=by omega
  have HYD:=Lib.hid hyd
  clear hT hN hyd
  go_enter Tryz.func42,Tryz.ntmps42
  go_wp2_with fail
  refine (is'_yes _ t h0 h1).mono ?_
  rintro e w1 ⟨rfl,rfl⟩
  go_wp2_with fail
  refine (HD.out _).mono ?_
  rintro e w1 ⟨rfl,hb1⟩
  have hr:=(Holds.fresh w 32 #[.int .u8 0,.slice none 0 0,.slice none 0 0]).under hb1 (by simp)
  have hz:w.heap.size+1≤w1.heap.size:=by have:=hb1.size;simpa using this
  have hbw:Below w.heap.size w w1:=((Below.refl _ _).alloc (Nat.le_refl _) _).trans (hb1.mono (by simp))
  clear hb1
  go_wp2_with fail
  rw [HYD.out]
  have hm:=Md.begin #[.int .i64 y,.int .i64 m,.int .i64 d,.int .i64 h,.int .i64 i,.int .i64 s] hr hbw
  clear hr hbw hz
  generalize ((w1.alloc (.cells #[.int .i64 y,.int .i64 m,.int .i64 d,.int .i64 h,.int .i64 i,.int .i64 s] 108)).alloc (.cells #[.int .u8 23,.slice none 0 0,.slice none 0 0] 32))=W at *
  generalize w1.heap.size=G at *
  refine (two'_any W (y / 100) (by omega)).mono ?_
  rintro e W2 ⟨rfl,rfl⟩
  have hm2:=hm.lead (Y:=y / 100)
  have hcn:=(hm.n.alloc (.cells (nums .u8 (dig2 (y / 100))) 5)).cell
  have hfn:=(hm.n.alloc (.cells (nums .u8 (dig2 (y / 100))) 5)).open_
  clear hm
  generalize W.alloc (.cells (nums .u8 (dig2 (y / 100))) 5)=W3 at *
  go_wp2_with fail
  clear hcn hfn
  generalize (((W3.setCell ⟨G+1,0,none⟩ (.int .u8 24)).setCell ⟨G+1,1,none⟩ (.slice (some ⟨W.heap.size,0,none⟩) 2 2)).setCell ⟨G+1,2,none⟩ (.slice none 0 0))=V at *
  generalize W.heap.size=g0 at *
  have hm3:Md w V G (cells6 [y,m,d,h,i,s]) 24 (some ⟨g0,0,none⟩) 2 2 (dig2 (y / 100)):=hm2
  clear hm2
  go_loopw [5] (fun v wr=>AtRound w G [y,m,d,h,i,s] (dig2 (y / 100)) 24 v wr) (fun v _=>6 - (intOf v).toNat)
  case atStart=>exact ⟨0,2,2,_,rfl,by omega,rfl,by rw [List.take_zero];exact hm3⟩
  case round =>
   obtain ⟨k,n,c,A,rfl,hk,hn,hmr⟩:=hrel
   have hbd:∀ v∈[y,m,d,h,i,s],v≤10000:=by
    intro v hv
    simp at hv
    omega
   by_cases hk6:k<6
   ·obtain ⟨x,Hx⟩:∃ x,Hid (x=[y,m,d,h,i,s].getD k 0):=⟨_,rfl⟩
    have hx:x≤10000:=by
     rw [Hx.out]
     exact hbd _ (by rw [List.getD,List.getElem?_eq_getElem (by simpa using hk6)];exact List.getElem_mem _)
    have hL:=hmr.len
    have hc1:wr.cell? ⟨G,k,none⟩=some (.int .i64 (x:Int)):=by rw [Hx.out];exact (hmr.d.cell k).trans (cells6_at [y,m,d,h,i,s] (by simpa using hk6))
    have hc2:wr.cell? ⟨G+1,1,none⟩=some (.slice A n c):=hmr.n.cell 1
    have hf2:wr.frozen? ⟨G+1,1,none⟩=false:=hmr.n.open_ 1
    have hle:=hmr.hle
    have hc3:(wr.alloc (.cells (nums .u8 (dig2 x)) 5)).cell? ⟨G+1,1,none⟩=some (.slice A n c):=(hmr.alloc _).n.cell 1
    have hkI:(0:Int)≤(k:Int):=by omega
    have hkI6:(k:Int)<6:=by omega
    have Hhm:=Lib.hid hmr
    have Hdg:=Lib.hid (digs_next [y,m,d,h,i,s] (k:=k) (by simpa using hk6))
    have Hn:=Lib.hid hn
    have HL:=Lib.hid hL
    have hn20:n≤20:=by have:(dig2 (y / 100)).length=2:=rfl;omega
    clear hmr hn hL hbd
    obtain ⟨LL,HLL⟩:∃ LL,Hid (LL=dig2 (y / 100) ++ digs (List.take k [y,m,d,h,i,s])):=⟨_,Lib.hid (Eq.refl (dig2 (y / 100) ++ digs (List.take k [y,m,d,h,i,s])))⟩
    rw [←HLL.out] at Hhm HL
    go_wp2_with fail
    go_region_law (first
     | (go_simp;go_at_call 87;refine (two'_any _ x (by omega)).mono ?_;rintro e w' ⟨rfl,rfl⟩;go_simp)
     | (refine step_push _ ?_ (.tmp 26) (.tmp 30) 24 ?_ .u8 (G+2) 5 1 Tryz.underlying24 info_u8 A n c LL ?_ HL.out ?_ wr.heap.size 2 2 (dig2 x) ?_ rfl ?_ (by omega) (by omega) (by omega) ?_ ?_;(focus rfl);(focus rfl);(focus rfl);(focus exact Own.alloc Hhm.out.own _);(focus rfl);(focus exact Holds.fresh wr.drew _ _);(focus (simp;omega));intro g1 c1 w2 ho hg _;have hh:=Md.step (Hhm.out.alloc (.cells (nums .u8 (dig2 x)) 5)).drew hg rfl rfl ho;have hq1:=hh.1.cell 1;have hq2:=hh.1.open_ 1;have HH:=Lib.hid hh;clear hh))
    all_goals
     go_wp2_with fail
     go_roundw
     case rel =>
      refine ⟨k+1,n+2,c1,some ⟨g1,0,none⟩,by go_num,by omega,by have:=Hn.out;omega,?_⟩
      rw [Hdg.out,←List.append_assoc,←Hx.out,←HLL.out]
      exact HH.out.2.2
     case measure=>simp [intOf];omega
   ·obtain rfl:k=6:=by omega
    have hcc:[y,m,d,h,i,s].take 6=[y,m,d,h,i,s]:=rfl
    rw [hcc] at hmr
    obtain rfl:n=14:=hn
    have hL:=hmr.len
    generalize HLL:dig2 (y / 100) ++ digs [y,m,d,h,i,s]=LL at *
    have HO:=Lib.hid hmr.own
    have HZ:=Lib.hid hmr.hle
    have HL:=Lib.hid hL
    have HH:Hid (Holds (wr.alloc (.cells #[.int .u8 90] 5)) wr.heap.size 5 (nums .u8 [90])):=Lib.hid (Holds.fresh wr 5 (nums .u8 [90]))
    have hc2:wr.cell? ⟨G+1,1,none⟩=some (.slice A 14 c):=hmr.n.cell 1
    have hf2:wr.frozen? ⟨G+1,1,none⟩=false:=hmr.n.open_ 1
    have HM:=Lib.hid hmr
    have HE:=Lib.hid HLL
    clear hmr hcc hL hbd HLL
    go_wp2_with (with_reducible refine wpList_push _ rfl (.tmp 34) (.tmp 35) 24 rfl .u8 (G+2) 5 1 Tryz.underlying24 info_u8 A 14 c LL rfl HL.out (HO.out.alloc _) wr.heap.size 1 1 [90] rfl rfl HH.out (by omega) (by omega) (by omega) (Nat.le_trans HZ.out (by simp)) ?hk)
    intro gz cz wz hoz hgz hatz
    have hz:=Md.step (HM.out.alloc (.cells #[.int .u8 90] 5)) hgz (m:=1) (n':=15) rfl rfl hoz
    have hmz:=hz.2.2
    have hcz:=hz.1.cell
    have hfz:=hz.1.open_
    have hcr:=hmz.r.cell
    have hfr:=hmz.r.open_
    have hcn:=hmz.n.cell
    have hfn:=hmz.n.open_
    clear hoz hgz hatz hz HO HZ HL HH HM
    go_wp2_with fail
    refine bodyPost_ret (v:=.agg #[.int .u8 24,.slice (some ⟨gz,0,none⟩) 15 cz,.slice none 0 0]) (by simp [results,Tryz.results42,go_sem,hcr]) rfl ⟨some ⟨gz,0,none⟩,cz,?_,?_⟩
    ·rw [←HT.out,←HN.out];rfl
    ·have hfin:=hmz.finish (.int .u8 24) (.slice (some ⟨gz,0,none⟩) 15 cz) (.slice none 0 0)
     rw [←HE.out] at hfin
     have e:dig2 (y / 100) ++ digs [y,m,d,h,i,s] ++ [90]=dig2 (y / 100) ++ dig2 (y % 100) ++ dig2 m ++ dig2 d ++ dig2 h ++ dig2 i ++ dig2 s ++ [90]:=by
      have ey:dig2 (y % 100)=dig2 y:=by unfold dig2;congr 2 <;> omega
      rw [ey];simp [digs]
     rw [e] at hfin
     exact hfin
 ·rw [if_neg hy] at hT
  simp only [hy,if_false,List.nil_append] at hN ⊢
  have HT:=Lib.hid hT
  have HN:=Lib.hid hN
  clear hT hN
  go_enter Tryz.func42,Tryz.ntmps42
  go_wp2_with fail
  refine (is'_yes _ t h0 h1).mono ?_
  rintro e w1 ⟨rfl,rfl⟩
  go_wp2_with fail
  refine (HD.out _).mono ?_
  rintro e w1 ⟨rfl,hb1⟩
  have hr:=(Holds.fresh w 32 #[.int .u8 0,.slice none 0 0,.slice none 0 0]).under hb1 (by simp)
  have hz:w.heap.size+1≤w1.heap.size:=by have:=hb1.size;simpa using this
  have hbw:Below w.heap.size w w1:=((Below.refl _ _).alloc (Nat.le_refl _) _).trans (hb1.mono (by simp))
  clear hb1
  go_wp2_with fail
  have hm:=Md.begin #[.int .i64 y,.int .i64 m,.int .i64 d,.int .i64 h,.int .i64 i,.int .i64 s] hr hbw
  clear hr hbw hz
  generalize ((w1.alloc (.cells #[.int .i64 y,.int .i64 m,.int .i64 d,.int .i64 h,.int .i64 i,.int .i64 s] 108)).alloc (.cells #[.int .u8 23,.slice none 0 0,.slice none 0 0] 32))=V at *
  generalize w1.heap.size=G at *
  have hm3:Md w V G (cells6 [y,m,d,h,i,s]) 23 none 0 0 []:=hm
  clear hm
  go_loopw [5] (fun v wr=>AtRound w G [y,m,d,h,i,s] [] 23 v wr) (fun v _=>6 - (intOf v).toNat)
  case atStart=>exact ⟨0,0,0,_,rfl,by omega,rfl,by rw [List.take_zero];exact hm3⟩
  case round =>
   obtain ⟨k,n,c,A,rfl,hk,hn,hmr⟩:=hrel
   have hbd:∀ v∈[y,m,d,h,i,s],v≤10000:=by
    intro v hv
    simp at hv
    omega
   by_cases hk6:k<6
   ·obtain ⟨x,Hx⟩:∃ x,Hid (x=[y,m,d,h,i,s].getD k 0):=⟨_,rfl⟩
    have hx:x≤10000:=by
     rw [Hx.out]
     exact hbd _ (by rw [List.getD,List.getElem?_eq_getElem (by simpa using hk6)];exact List.getElem_mem _)
    have hL:=hmr.len
    have hc1:wr.cell? ⟨G,k,none⟩=some (.int .i64 (x:Int)):=by rw [Hx.out];exact (hmr.d.cell k).trans (cells6_at [y,m,d,h,i,s] (by simpa using hk6))
    have hc2:wr.cell? ⟨G+1,1,none⟩=some (.slice A n c):=hmr.n.cell 1
    have hf2:wr.frozen? ⟨G+1,1,none⟩=false:=hmr.n.open_ 1
    have hle:=hmr.hle
    have hc3:(wr.alloc (.cells (nums .u8 (dig2 x)) 5)).cell? ⟨G+1,1,none⟩=some (.slice A n c):=(hmr.alloc _).n.cell 1
    have hkI:(0:Int)≤(k:Int):=by omega
    have hkI6:(k:Int)<6:=by omega
    have Hhm:=Lib.hid hmr
    have Hdg:=Lib.hid (digs_next [y,m,d,h,i,s] (k:=k) (by simpa using hk6))
    have Hn:=Lib.hid hn
    have HL:=Lib.hid hL
    have hn20:n≤20:=by have:([]:List Nat).length=0:=rfl;omega
    clear hmr hn hL hbd
    obtain ⟨LL,HLL⟩:∃ LL,Hid (LL=[] ++ digs (List.take k [y,m,d,h,i,s])):=⟨_,Lib.hid (Eq.refl ([] ++ digs (List.take k [y,m,d,h,i,s])))⟩
    rw [←HLL.out] at Hhm HL
    go_wp2_with fail
    go_region_law (first
     | (go_simp;go_at_call 87;refine (two'_any _ x (by omega)).mono ?_;rintro e w' ⟨rfl,rfl⟩;go_simp)
     | (refine step_push _ ?_ (.tmp 26) (.tmp 30) 24 ?_ .u8 (G+2) 5 1 Tryz.underlying24 info_u8 A n c LL ?_ HL.out ?_ wr.heap.size 2 2 (dig2 x) ?_ rfl ?_ (by omega) (by omega) (by omega) ?_ ?_;(focus rfl);(focus rfl);(focus rfl);(focus exact Own.alloc Hhm.out.own _);(focus rfl);(focus exact Holds.fresh wr.drew _ _);(focus (simp;omega));intro g1 c1 w2 ho hg _;have hh:=Md.step (Hhm.out.alloc (.cells (nums .u8 (dig2 x)) 5)).drew hg rfl rfl ho;have hq1:=hh.1.cell 1;have hq2:=hh.1.open_ 1;have HH:=Lib.hid hh;clear hh))
    all_goals
     go_wp2_with fail
     go_roundw
     case rel =>
      refine ⟨k+1,n+2,c1,some ⟨g1,0,none⟩,by go_num,by omega,by have:=Hn.out;omega,?_⟩
      rw [Hdg.out,←List.append_assoc,←Hx.out,←HLL.out]
      exact HH.out.2.2
     case measure=>simp [intOf];omega
   ·obtain rfl:k=6:=by omega
    have hcc:[y,m,d,h,i,s].take 6=[y,m,d,h,i,s]:=rfl
    rw [hcc] at hmr
    obtain rfl:n=12:=hn
    have hL:=hmr.len
    generalize HLL:[] ++ digs [y,m,d,h,i,s]=LL at *
    have HO:=Lib.hid hmr.own
    have HZ:=Lib.hid hmr.hle
    have HL:=Lib.hid hL
    have HH:Hid (Holds (wr.alloc (.cells #[.int .u8 90] 5)) wr.heap.size 5 (nums .u8 [90])):=Lib.hid (Holds.fresh wr 5 (nums .u8 [90]))
    have hc2:wr.cell? ⟨G+1,1,none⟩=some (.slice A 12 c):=hmr.n.cell 1
    have hf2:wr.frozen? ⟨G+1,1,none⟩=false:=hmr.n.open_ 1
    have HM:=Lib.hid hmr
    have HE:=Lib.hid HLL
    clear hmr hcc hL hbd HLL
    go_wp2_with (with_reducible refine wpList_push _ rfl (.tmp 34) (.tmp 35) 24 rfl .u8 (G+2) 5 1 Tryz.underlying24 info_u8 A 12 c LL rfl HL.out (HO.out.alloc _) wr.heap.size 1 1 [90] rfl rfl HH.out (by omega) (by omega) (by omega) (Nat.le_trans HZ.out (by simp)) ?hk2)
    intro gz cz wz hoz hgz hatz
    have hz:=Md.step (HM.out.alloc (.cells #[.int .u8 90] 5)) hgz (m:=1) (n':=13) rfl rfl hoz
    have hmz:=hz.2.2
    have hcz:=hz.1.cell
    have hfz:=hz.1.open_
    have hcr:=hmz.r.cell
    have hfr:=hmz.r.open_
    have hcn:=hmz.n.cell
    have hfn:=hmz.n.open_
    clear hoz hgz hatz hz HO HZ HL HH HM
    go_wp2_with fail
    refine bodyPost_ret (v:=.agg #[.int .u8 23,.slice (some ⟨gz,0,none⟩) 13 cz,.slice none 0 0]) (by simp [results,Tryz.results42,go_sem,hcr]) rfl ⟨some ⟨gz,0,none⟩,cz,?_,?_⟩
    ·rw [←HT.out,←HN.out];rfl
    ·have hfin:=hmz.finish (.int .u8 23) (.slice (some ⟨gz,0,none⟩) 13 cz) (.slice none 0 0)
     rw [←HE.out] at hfin
     have e:[] ++ digs [y,m,d,h,i,s] ++ [90]=dig2 (y % 100) ++ dig2 m ++ dig2 d ++ dig2 h ++ dig2 i ++ dig2 s ++ [90]:=by
      have ey:dig2 (y % 100)=dig2 y:=by unfold dig2;congr 2 <;> omega
      rw [ey];simp [digs]
     rw [e] at hfin
     exact hfin
theorem time'_yes (w:World) (t:Int) (h0:-631152000≤t) (h1:t≤253402300799) (x:Parts6) (hx:IsDate t x) (T:Nat) (N:Nat) (hT:tagOf x=T) (hN:(bodyOf x).length=N) :
  Calls Tryz.prog 42 #[.int .i64 t] w fun e w'=>∃ A c,e = .returned (.agg #[.int .u8 T,.slice A N c,.slice none 0 0])∧Rd .u8 w' w'.heap.size A c (bodyOf x)∧Below w.heap.size w w':=(time'_own w t h0 h1 x hx T N hT hN).mono fun e w' ⟨A,c,h,hr,hb,_⟩=>⟨A,c,h,hr,hb⟩
end Go.Proofs.YtcibjcgipfpniaaGreatDoor
namespace Go.Proofs.YtcibjcgipfpniaaGreatDoor
open Go.RowKit
set_option linter.unusedVariables false
attribute [local go_sem ↓] Go.wp_at_zero Go.wp_at_succ

theorem info_i64:(Tryz.prog.info? 3).map (fun i=>(i.zero,i.size,i.bytes))=some (some (.int .i64 0),1,8):=by kernel_rfl

/-- A decimal digit. -/
def IsDig (x:Nat):Prop:=48≤x∧x≤57
/-- Pairs of digits and a Z. -/
structure Good (b:List Nat):Prop where
 odd:b.length % 2=1
 len:b.length≤15
 z:b.getD (b.length - 1) 0=90
 dig:∀ i,i+1<b.length→IsDig (b.getD i 0)
def pv (b:List Nat) (i:Nat):Nat:=(b.getD (2*i) 0 - 48)*10+(b.getD (2*i+1) 0 - 48)
def pvs (b:List Nat) (k:Nat):List Nat:=(List.range k).map (pv b)
theorem pvs_length (b:List Nat) (k:Nat):(pvs b k).length=k:=by simp [pvs]
theorem pvs_at (b:List Nat) {k j:Nat} (h:j<k):(pvs b k).getD j 0=pv b j:=by simp [pvs,List.getD,h]
theorem pvs_next (b:List Nat) (k:Nat):pvs b (k+1)=pvs b k ++ [pv b k]:=by simp [pvs,List.range_succ]

def PairsPost (w:World) (b:List Nat) (e:Ending) (w':World):Prop :=
 (Good b∧∃ A c,e = .returned (.tuple #[.slice A ((b.length - 1) / 2) c,.bool true])∧Rd .i64 w' w'.heap.size A c (pvs b ((b.length - 1) / 2))∧Below w.heap.size w w') ∨
 (¬ Good b∧e = .returned (.tuple #[.slice none 0 0,.bool false])∧Below w.heap.size w w')

/-- What holds at each round's head. -/
def AtPair (w:World) (b:List Nat) (v s:Value) (W:World):Prop :=
 ∃ (k c:Nat) (A:Option Addr),v = .int .i64 ((2*k:Nat):Int)∧s = .slice A k c∧2*k<b.length∧(∀ i,i<2*k→IsDig (b.getD i 0))∧Own .i64 3 W w.heap.size A c (pvs b k)∧Below w.heap.size w W

set_option maxRecDepth 100000 in
set_option maxHeartbeats 4000000 in
theorem pairs_any (w:World) (B:Nat) (A:Option Addr) (c n:Nat) (b:List Nat) (hn:b.length=n) (hr:Rd .u8 w B A c b) (hB:B≤w.heap.size) (ho:Oct8 b) :
  Calls Tryz.prog 122 #[.slice A n c] w (PairsPost w b):=by
 have hc1:=hr.1
 have hc2:=hr.2.1
 by_cases hodd:b.length % 2=1
 case neg =>
  have hq:((n:Int) % 2 == 0)=true:=by rw [beq_iff_eq];omega
  have HN:=Lib.hid (fun g:Good b=>hodd g.odd)
  clear hodd hn
  go_enter Tryz.func122,Tryz.ntmps122
  go_wp2_with fail
  go_ret2
  exact .inr ⟨HN.out,rfl,Below.refl _ _⟩
 case pos =>
 have hq:((n:Int) % 2 == 0)=false:=by rw [beq_eq_false_iff_ne];omega
 by_cases hlen:b.length≤15
 case neg =>
  have hq2:decide ((15:Int)<(n:Int))=true:=decide_eq_true (by omega)
  have hq2':decide (15<n)=true:=decide_eq_true (by omega)
  have hq2'':15<n:=by omega
  have HN:=Lib.hid (fun g:Good b=>hlen g.len)
  clear hodd hn hlen
  go_enter Tryz.func122,Tryz.ntmps122
  go_wp2_with fail
  go_ret2
  exact .inr ⟨HN.out,rfl,Below.refl _ _⟩
 case pos =>
 have hq2:decide ((15:Int)<(n:Int))=false:=decide_eq_false (by omega)
 obtain ⟨m,rfl⟩:∃ m,n=m+1:=⟨n - 1,by omega⟩
 obtain ⟨bl,off,z,rfl,hbl,hz,Hz⟩:=hr.at_ (i:=m) (by omega)
 have hq:(((m:Int)+1) % 2 == 0)=false:=by rw [beq_eq_false_iff_ne];omega
 have hq2:decide ((15:Int)<(m:Int)+1)=false:=decide_eq_false (by omega)
 have hm0:(0:Int)≤(m:Int):=by omega
 have hm14:m≤14:=by omega
 have hm1:(m:Int)<(m:Int)+1:=by omega
 have hms:((m:Int)+1) - 1=(m:Int):=by omega
 have hz256:z<256:=by rw [Hz.out];exact ho _ (by rw [List.getD,List.getElem?_eq_getElem (by omega)];exact List.getElem_mem _)
 by_cases hZ:z=90
 case neg =>
  have hq3:((z:Int) != 90)=true:=by rw [bne_iff_ne];omega
  have HN:=Lib.hid (fun g:Good b=>hZ (by have:=g.z;rw [hn] at this;rw [Hz.out];exact this))
  clear hodd hn hlen hZ
  go_enter Tryz.func122,Tryz.ntmps122
  go_wp2_with fail
  go_ret2
  exact .inr ⟨HN.out,rfl,Below.refl _ _⟩
 case pos =>
 subst hZ
 have hq3:((90:Int) != 90)=false:=rfl
 have HB:=Lib.hid hn
 have HZ:Hid (b.getD (b.length - 1) 0=90):=Lib.hid (by rw [hn];exact Hz.out.symm)
 have HO:=Lib.hid hodd
 have HL:=Lib.hid hlen
 clear hn hodd hlen Hz
 go_enter Tryz.func122,Tryz.ntmps122
 go_wp2_with fail
 clear hq hq2 hq3
 go_loopw [4,5] (fun s v wr=>AtPair w b v s wr) (fun _ v _=>(m+1 - intOf v).toNat)
 case atStart=>exact ⟨0,0,none,rfl,rfl,by have:=HB.out;omega,fun i hi=>by omega,Own.nil _ _ _ _,Below.refl _ _⟩
 case round =>
  obtain ⟨k,c',A',rfl,rfl,hk,hdig,hown,hbel⟩:=hrel
  have HD:=Lib.hid hdig
  have HW:=Lib.hid hown
  have hle:=hbel.size
  have hk2:(((2*k:Nat):Int))=2*(k:Int):=by omega
  rw [hk2]
  have hk0:(0:Int)≤2*(k:Int):=by omega
  have hkm:k≤7:=by have:=HB.out;omega
  by_cases hlt:2*k<m
  ·obtain ⟨_,_,x,e0,_,hx,Hx⟩:=(hr.keep fun b o hb=>hbel.cell (p:=⟨b,o,none⟩) (by show b<_;omega)).at_ (i:=2*k) (by have:=HB.out;omega)
   obtain ⟨rfl,rfl⟩:bl=_∧off=_:=by injection e0 with e0;injection e0 with e1 e2;exact ⟨e1,e2⟩
   clear e0
   obtain ⟨_,_,y,e0,_,hy,Hy⟩:=(hr.keep fun b o hb=>hbel.cell (p:=⟨b,o,none⟩) (by show b<_;omega)).at_ (i:=2*k+1) (by have:=HB.out;omega)
   obtain ⟨rfl,rfl⟩:bl=_∧off=_:=by injection e0 with e0;injection e0 with e1 e2;exact ⟨e1,e2⟩
   clear e0
   have hx256:x<256:=by rw [Hx.out];exact ho _ (by rw [List.getD,List.getElem?_eq_getElem (by have:=HB.out;omega)];exact List.getElem_mem _)
   have hy256:y<256:=by rw [Hy.out];exact ho _ (by rw [List.getD,List.getElem?_eq_getElem (by have:=HB.out;omega)];exact List.getElem_mem _)
   have hi1:2*(k:Int)<(m:Int)+1:=by omega
   have hi2:2*(k:Int)+1<(m:Int)+1:=by omega
   have hk1:(0:Int)≤2*(k:Int)+1:=by omega
   have ht1:(2*(k:Int)).toNat=2*k:=by omega
   have ht2:(2*(k:Int)+1).toNat=2*k+1:=by omega
   by_cases hdx:IsDig x
   case neg =>
    have HN:=Lib.hid (fun g:Good b=>hdx (by rw [Hx.out];exact g.dig _ (by have:=HB.out;omega)))
    have hdx':x<48∨57<x:=by unfold IsDig at hdx;omega
    clear hdx
    rcases hdx' with h | h
    ·have h1:decide ((x:Int)<48)=true:=decide_eq_true (by omega)
     go_wp2_with fail
     go_ret2
     exact .inr ⟨HN.out,rfl,hbel⟩
    ·have h1:decide ((x:Int)<48)=false:=decide_eq_false (by omega)
     have h2:decide (57<(x:Int))=true:=decide_eq_true (by omega)
     go_wp2_with fail
     go_ret2
     exact .inr ⟨HN.out,rfl,hbel⟩
   case pos =>
   have h1:decide ((x:Int)<48)=false:=decide_eq_false (by have:=hdx.1;omega)
   have h2:decide (57<(x:Int))=false:=decide_eq_false (by have:=hdx.2;omega)
   by_cases hdy:IsDig y
   case neg =>
    have HN:=Lib.hid (fun g:Good b=>hdy (by rw [Hy.out];exact g.dig _ (by have:=HB.out;have:=HO.out;omega)))
    have hdy':y<48∨57<y:=by unfold IsDig at hdy;omega
    clear hdy hdx
    rcases hdy' with h | h
    ·have h3:decide ((y:Int)<48)=true:=decide_eq_true (by omega)
     go_wp2_with fail
     go_ret2
     exact .inr ⟨HN.out,rfl,hbel⟩
    ·have h3:decide ((y:Int)<48)=false:=decide_eq_false (by omega)
     have h4:decide (57<(y:Int))=true:=decide_eq_true (by omega)
     go_wp2_with fail
     go_ret2
     exact .inr ⟨HN.out,rfl,hbel⟩
   case pos =>
   have h3:decide ((y:Int)<48)=false:=decide_eq_false (by have:=hdy.1;omega)
   have h4:decide (57<(y:Int))=false:=decide_eq_false (by have:=hdy.2;omega)
   have hx1:=hdx.1
   have hx2:=hdx.2
   have hy1:=hdy.1
   have hy2:=hdy.2
   have HDX:=Lib.hid hdx
   have HDY:=Lib.hid hdy
   clear hdx hdy
   obtain ⟨v,Hv⟩:∃ v,Hid (v=pv b k):=⟨_,rfl⟩
   have hv:((x:Int) - 48)*10+((y:Int) - 48)=(v:Int):=by
    have:=Hv.out;unfold pv at this;rw [←Hx.out,←Hy.out] at this
    omega
   have HH:Hid (Holds (wr.drew.alloc (.cells #[.int .i64 (((x:Int) - 48)*10+((y:Int) - 48))] 3)) wr.heap.size 3 (nums .i64 [v])):=Lib.hid (by rw [hv];exact Holds.fresh wr.drew _ _)
   have hlen:=pvs_length b k
   have HLN:=Lib.hid hlen
   clear hv hlen
   go_wp2_with fail
   have hw1:IntKind.i64.wrap (2*(k:Int)+1)=2*(k:Int)+1:=IntWalk.i64_in _ (by omega)
   have hw2:IntKind.u8.wrap ((x:Int) - 48)=(x:Int) - 48:=IntWalk.u8_in _ (by omega)
   have hw3:IntKind.u8.wrap ((y:Int) - 48)=(y:Int) - 48:=IntWalk.u8_in _ (by omega)
   have hw4:IntKind.i64.wrap (((x:Int) - 48)*10)=((x:Int) - 48)*10:=IntWalk.i64_in _ (by omega)
   have hw5:IntKind.i64.wrap (((x:Int) - 48)*10+((y:Int) - 48))=((x:Int) - 48)*10+((y:Int) - 48):=IntWalk.i64_in _ (by omega)
   have hw6:IntKind.i64.wrap ((x:Int) - 48)=(x:Int) - 48:=IntWalk.i64_in _ (by omega)
   have hw7:IntKind.i64.wrap ((y:Int) - 48)=(y:Int) - 48:=IntWalk.i64_in _ (by omega)
   go_region_law (refine step_push _ ?_ (.tmp 59) (.tmp 75) 131 ?_ .i64 w.heap.size 3 8 Tryz.underlying131 info_i64 A' k c' (pvs b k) ?_ HLN.out ?_ wr.heap.size 1 1 [v] ?_ rfl ?_ (by omega) (by omega) (by omega) ?_ ?_;(focus rfl);(focus rfl);(focus rfl);(focus exact Own.alloc HW.out _);(focus rfl);(focus exact HH.out);(focus (simp;omega));intro g1 c1 w2 ho hg _;have HO2:=Lib.hid ho;have HG2:=Lib.hid hg;clear ho hg)
   all_goals
    clear hw1 hw2 hw3 hw4 hw5 hw6 hw7
    go_wp2_with fail
    go_roundw
    case rel =>
     have hbl2:Below w.heap.size w w2:=hbel.trans ⟨HG2.out.os,HG2.out.tape,HG2.out.output,Nat.le_trans (by simp) HG2.out.size,fun q hq=>(HG2.out.block q (by simp;omega) (fun e=>by have:=(HW.out.block e.symm).1;omega)).trans (Below.heap_alloc wr.drew _ q (by show q<wr.heap.size;omega))⟩
     refine ⟨k+1,c1,some ⟨g1,0,none⟩,by go_num,rfl,by have:=HB.out;have:=HO.out;omega,fun i hi=>?_,?_,hbl2⟩
     ·rcases Nat.lt_or_ge i (2*k) with h | h
      ·exact HD.out i h
      ·have:i=2*k∨i=2*k+1:=by omega
       rcases this with rfl | rfl
       ·rw [←Hx.out];exact HDX.out
       ·rw [←Hy.out];exact HDY.out
     ·rw [pvs_next,←Hv.out];exact HO2.out
    case measure=>simp [intOf];omega
  ·have hf:decide (2*(k:Int)+1<(m:Int)+1)=false:=decide_eq_false (by omega)
   have hk3:m=2*k:=by have:=HB.out;omega
   go_wp2_with fail
   go_ret2
   refine .inl ⟨⟨HO.out,HL.out,HZ.out,fun i hi=>HD.out i (by have:=HB.out;omega)⟩,A',c',?_,?_,hbel⟩
   ·rw [show (b.length - 1) / 2=k by have:=HB.out;omega];rfl
   ·rw [show (b.length - 1) / 2=k by have:=HB.out;omega];exact HW.out.rd
end Go.Proofs.YtcibjcgipfpniaaGreatDoor
namespace Go.Proofs.YtcibjcgipfpniaaGreatDoor
open Go.RowKit
set_option linter.unusedVariables false

/-- A thing is a time's. -/
def IsTime (tag:Nat) (b:List Nat) (nk:Nat) (t:Int):Prop :=
 ∃ x,-631152000≤t∧t≤253402300799∧IsDate t x∧tag=tagOf x∧b=bodyOf x∧nk=0

theorem body_short {x:Parts6} (h:x.y<2050):bodyOf x=[48+x.y % 100 / 10 % 10,48+x.y % 100 % 10,48+x.m / 10 % 10,48+x.m % 10,48+x.d / 10 % 10,48+x.d % 10,48+x.h / 10 % 10,48+x.h % 10,48+x.i / 10 % 10,48+x.i % 10,48+x.s / 10 % 10,48+x.s % 10,90]:=by
 unfold bodyOf
 rw [if_neg (by omega)]
 rfl
theorem body_long {x:Parts6} (h:2050≤x.y):bodyOf x=[48+x.y / 100 / 10 % 10,48+x.y / 100 % 10,48+x.y % 100 / 10 % 10,48+x.y % 100 % 10,48+x.m / 10 % 10,48+x.m % 10,48+x.d / 10 % 10,48+x.d % 10,48+x.h / 10 % 10,48+x.h % 10,48+x.i / 10 % 10,48+x.i % 10,48+x.s / 10 % 10,48+x.s % 10,90]:=by
 unfold bodyOf
 rw [if_pos h]
 rfl
theorem body_good (x:Parts6):Good (bodyOf x):=by
 rcases Nat.lt_or_ge x.y 2050 with h | h
 ·rw [body_short h]
  refine ⟨by simp,by simp,rfl,fun i hi=>?_⟩
  have hi':i=0∨i=1∨i=2∨i=3∨i=4∨i=5∨i=6∨i=7∨i=8∨i=9∨i=10∨i=11:=by simp at hi;omega
  rcases hi' with rfl | rfl | rfl | rfl | rfl | rfl | rfl | rfl | rfl | rfl | rfl | rfl <;> (simp [IsDig,List.getD];omega)
 ·rw [body_long h]
  refine ⟨by simp,by simp,rfl,fun i hi=>?_⟩
  have hi':i=0∨i=1∨i=2∨i=3∨i=4∨i=5∨i=6∨i=7∨i=8∨i=9∨i=10∨i=11∨i=12∨i=13:=by simp at hi;omega
  rcases hi' with rfl | rfl | rfl | rfl | rfl | rfl | rfl | rfl | rfl | rfl | rfl | rfl | rfl | rfl <;> (simp [IsDig,List.getD];omega)
theorem body_oct (x:Parts6):Oct8 (bodyOf x):=by
 intro v hv
 have hg:=body_good x
 obtain ⟨i,hi,rfl⟩:=List.mem_iff_getElem.1 hv
 have e:(bodyOf x)[i]=(bodyOf x).getD i 0:=by simp [List.getD,hi]
 rw [e]
 by_cases h:i+1<(bodyOf x).length
 ·have:=hg.dig i h;unfold IsDig at this;omega
 ·have:i=(bodyOf x).length - 1:=by omega
  rw [this,hg.z];omega
theorem pvs_short {x:Parts6} (h:x.y<2050) (hm:x.m≤99) (hd:x.d≤99) (hh:x.h≤99) (hi:x.i≤99) (hs:x.s≤99):(bodyOf x).length=13∧pvs (bodyOf x) 6=[x.y % 100,x.m,x.d,x.h,x.i,x.s]:=by
 rw [body_short h]
 refine ⟨rfl,?_⟩
 simp [pvs,pv,List.range_succ,List.getD]
 omega
theorem pvs_long {x:Parts6} (h:2050≤x.y) (hy:x.y≤9999) (hm:x.m≤99) (hd:x.d≤99) (hh:x.h≤99) (hi:x.i≤99) (hs:x.s≤99):(bodyOf x).length=15∧pvs (bodyOf x) 7=[x.y / 100,x.y % 100,x.m,x.d,x.h,x.i,x.s]:=by
 rw [body_long h]
 refine ⟨rfl,?_⟩
 simp [pvs,pv,List.range_succ,List.getD]
 omega
theorem pv_le {b:List Nat} (hg:Good b) {i:Nat} (hi:2*i+2<b.length):pv b i≤99:=by
 have h1:=hg.dig (2*i) (by omega)
 have h2:=hg.dig (2*i+1) (by omega)
 unfold IsDig at h1 h2
 unfold pv
 omega

/-- The time that pairs of digits say. -/
def sayI (y m d h i s:Int):Int:=dayI y m d*86400+(h*3600+i*60+s)
theorem say_is {t:Int} {x:Parts6} (h:IsDate t x):sayI x.y x.m x.d x.h x.i x.s=t:=by
 unfold sayI
 rw [day_num h.valid]
 have:=h.tot
 omega
/-- The year that two digits say. -/
def year2 (a:Nat):Nat:=if a<50 then a+2000 else a+1900
theorem year2_is {y:Nat} (h1:1950≤y) (h2:y<2050):year2 (y % 100)=y:=by
 unfold year2
 split <;> omega
/-- The digits of a time's thing say that time. -/
theorem time_says {tag:Nat} {b:List Nat} {nk:Nat} {t:Int} (h:IsTime tag b nk t) :
  Good b∧nk=0∧((tag=23∧b.length=13∧sayI (year2 (pv b 0)) (pv b 1) (pv b 2) (pv b 3) (pv b 4) (pv b 5)=t)∨(tag=24∧b.length=15∧1950≤100*pv b 0+pv b 1∧sayI (100*pv b 0+pv b 1:Nat) (pv b 2) (pv b 3) (pv b 4) (pv b 5) (pv b 6)=t)):=by
 obtain ⟨x,h0,h1,hx,rfl,rfl,rfl⟩:=h
 have a1:=hx.valid.m12
 have a2:=hx.valid.d31
 have a3:=hx.h23
 have a4:=hx.i59
 have a5:=hx.s59
 refine ⟨body_good x,rfl,?_⟩
 rcases Nat.lt_or_ge x.y 2050 with h | h
 ·left
  obtain ⟨e1,e2⟩:=pvs_short h (by omega) (by omega) (by omega) (by omega) (by omega)
  simp [pvs,List.range_succ] at e2
  obtain ⟨p0,p1,p2,p3,p4,p5⟩:=e2
  refine ⟨by unfold tagOf;rw [if_neg (by omega)],e1,?_⟩
  rw [p0,p1,p2,p3,p4,p5,year2_is hx.y1950 h]
  exact say_is hx
 ·right
  obtain ⟨e1,e2⟩:=pvs_long h hx.y9999 (by omega) (by omega) (by omega) (by omega) (by omega)
  simp [pvs,List.range_succ] at e2
  obtain ⟨p0,p1,p2,p3,p4,p5,p6⟩:=e2
  refine ⟨by unfold tagOf;rw [if_pos h],e1,?_⟩
  rw [p0,p1,p2,p3,p4,p5,p6,show 100*(x.y / 100)+x.y % 100=x.y by omega]
  exact ⟨hx.y1950,say_is hx⟩
end Go.Proofs.YtcibjcgipfpniaaGreatDoor
namespace Go.Proofs.YtcibjcgipfpniaaGreatDoor
open Go.RowKit
set_option linter.unusedVariables false
set_option linter.unusedSimpArgs false

open Classical in
noncomputable def dateOf (t:Int):Parts6:=if h:∃ x,IsDate t x then Classical.choose h else ⟨0,0,0,0,0,0⟩
theorem dateOf_is {t:Int} (h0:-631152000≤t) (h1:t≤253402300799):IsDate t (dateOf t):=by
 unfold dateOf
 have h:=date_is t h0 h1
 rw [dif_pos h]
 exact Classical.choose_spec h
noncomputable def timeTr (t:Int):Tr:=.mk (tagOf (dateOf t)) (bodyOf (dateOf t)) []
theorem body_256 (x:Parts6):∀ y∈bodyOf x,y<256:=body_oct x
theorem tag_256 (x:Parts6):tagOf x<256:=by unfold tagOf;split <;> omega
theorem timeT_any (w:World) (xs:List Nat) (t:Int) (h0:-631152000≤t) (h1:t≤253402300799) (hxs:∀ x∈xs,x<w.heap.size) :
  Calls Tryz.prog 39 #[.int .i64 t] w (MadeT w xs (timeTr t)):=by
 refine (time_own w t h0 h1 (dateOf t) (dateOf_is h0 h1) _ _ rfl rfl).mono ?_
 rintro e w' ⟨A,c,rfl,hr,hb,hg⟩
 obtain ⟨lt,hv,ht,ho⟩:=off_prim (xs:=xs) (v:=.agg #[.int .u8 (tagOf (dateOf t)),.slice A (bodyOf (dateOf t)).length c,.slice none 0 0]) (B:=w.heap.size) ⟨A,c,rfl,hr,hg,body_256 _,tag_256 _⟩ hxs
 exact ⟨lt,by rw [hv],ht,ho,hb⟩
theorem timeT'_any (w:World) (xs:List Nat) (t:Int) (h0:-631152000≤t) (h1:t≤253402300799) (hxs:∀ x∈xs,x<w.heap.size) :
  Calls Tryz.prog 42 #[.int .i64 t] w (MadeT w xs (timeTr t)):=by
 refine (time'_own w t h0 h1 (dateOf t) (dateOf_is h0 h1) _ _ rfl rfl).mono ?_
 rintro e w' ⟨A,c,rfl,hr,hb,hg⟩
 obtain ⟨lt,hv,ht,ho⟩:=off_prim (xs:=xs) (v:=.agg #[.int .u8 (tagOf (dateOf t)),.slice A (bodyOf (dateOf t)).length c,.slice none 0 0]) (B:=w.heap.size) ⟨A,c,rfl,hr,hg,body_256 _,tag_256 _⟩ hxs
 exact ⟨lt,by rw [hv],ht,ho,hb⟩
end Go.Proofs.YtcibjcgipfpniaaGreatDoor
namespace Go.Proofs.YtcibjcgipfpniaaGreatDoor
open Go.RowKit
set_option linter.unusedVariables false
set_option linter.unusedSimpArgs false
attribute [local go_sem ↓] Go.wp_at_zero Go.wp_at_succ

/-- These bytes lie here. -/
def TxAt (w:World) (b off:Nat) (t:ByteArray):Prop:=∀ j,j<t.size→w.cell? ⟨b,off+j,none⟩=some (.int .u8 ((t.get! j).toNat:Int))
set_option maxHeartbeats 8000000 in
set_option maxRecDepth 100000 in
theorem u8word_any (w:World) (b off c:Nat) (s:ByteArray) (h:TxAt w b off s) (hs:8≤s.size) :
  Calls Tryz.prog 129 #[.slice (some ⟨b,off,none⟩) s.size c] w fun e w'=>e = .returned (.int .u64 (Lib.leNat [s.get! 0,s.get! 1,s.get! 2,s.get! 3,s.get! 4,s.get! 5,s.get! 6,s.get! 7]))∧∃ q,w'=w.drewN q:=by
 have c0:=h 0 (by omega)
 have c1:=h 1 (by omega)
 have c2:=h 2 (by omega)
 have c3:=h 3 (by omega)
 have c4:=h 4 (by omega)
 have c5:=h 5 (by omega)
 have c6:=h 6 (by omega)
 have c7:=h 7 (by omega)
 rw [Nat.add_zero] at c0
 obtain ⟨x0,hx0⟩:∃ x0,s.get! 0=x0:=⟨_,rfl⟩
 obtain ⟨x1,hx1⟩:∃ x1,s.get! 1=x1:=⟨_,rfl⟩
 obtain ⟨x2,hx2⟩:∃ x2,s.get! 2=x2:=⟨_,rfl⟩
 obtain ⟨x3,hx3⟩:∃ x3,s.get! 3=x3:=⟨_,rfl⟩
 obtain ⟨x4,hx4⟩:∃ x4,s.get! 4=x4:=⟨_,rfl⟩
 obtain ⟨x5,hx5⟩:∃ x5,s.get! 5=x5:=⟨_,rfl⟩
 obtain ⟨x6,hx6⟩:∃ x6,s.get! 6=x6:=⟨_,rfl⟩
 obtain ⟨x7,hx7⟩:∃ x7,s.get! 7=x7:=⟨_,rfl⟩
 rw [hx0] at c0;rw [hx1] at c1;rw [hx2] at c2;rw [hx3] at c3;rw [hx4] at c4;rw [hx5] at c5;rw [hx6] at c6;rw [hx7] at c7
 rw [hx0,hx1,hx2,hx3,hx4,hx5,hx6,hx7]
 have h0:x0.toNat<256:=x0.toNat_lt
 have h1:x1.toNat<256:=x1.toNat_lt
 have h2:x2.toNat<256:=x2.toNat_lt
 have h3:x3.toNat<256:=x3.toNat_lt
 have h4:x4.toNat<256:=x4.toNat_lt
 have h5:x5.toNat<256:=x5.toNat_lt
 have h6:x6.toNat<256:=x6.toNat_lt
 have h7:x7.toNat<256:=x7.toNat_lt
 have hv:((Lib.leNat [x0,x1,x2,x3,x4,x5,x6,x7]:Nat):Int)=(x0.toNat:Int)+(x1.toNat:Int)*256+(x2.toNat:Int)*65536+(x3.toNat:Int)*16777216+(x4.toNat:Int)*4294967296+(x5.toNat:Int)*1099511627776+(x6.toNat:Int)*281474976710656+(x7.toNat:Int)*72057594037927936:=by
  simp only [Lib.leNat]
  push_cast
  omega
 clear h hx0 hx1 hx2 hx3 hx4 hx5 hx6 hx7
 obtain ⟨n,hn⟩:∃ n,n=s.size:=⟨_,rfl⟩
 rw [←hn] at hs ⊢
 clear hn
 have p0:0<n:=by omega
 have q0:(0:Int)<(n:Int):=by omega
 have q1:(1:Int)<(n:Int):=by omega
 have q2:(2:Int)<(n:Int):=by omega
 have q3:(3:Int)<(n:Int):=by omega
 have q4:(4:Int)<(n:Int):=by omega
 have q5:(5:Int)<(n:Int):=by omega
 have q6:(6:Int)<(n:Int):=by omega
 have q7:(7:Int)<(n:Int):=by omega
 have mixed:Tryz.prog.follows Departure.mixedOrders=true:=by kernel_rfl
 go_enter Tryz.func129,Tryz.ntmps129
 go_wp2_with fail
 go_quiet_o (fail)
 go_wp2_with fail
 go_ret
 refine ⟨?_,_,rfl⟩
 simp (disch:=omega) only [u64_wrap_id,u64_or8,u64_or16,u64_or24,u64_or32,u64_or40,u64_or48,u64_or56]
 rw [hv]
 rfl
end Go.Proofs.YtcibjcgipfpniaaGreatDoor
namespace Go.Proofs.YtcibjcgipfpniaaGreatDoor
open Go.RowKit
set_option linter.unusedVariables false
set_option linter.unusedSimpArgs false

/-- Are these bytes text? -/
def vd (l:List Nat):Bool:=Lib.validD (l.map UInt8.ofNat)
theorem u8_nat {x:Nat} (h:x<256):(UInt8.ofNat x).toNat=x:=by simp [UInt8.toNat_ofNat,Nat.mod_eq_of_lt h]
theorem vd_nil:vd []=true:=Lib.validD_nil
theorem vd_skip (k:Nat) (l:List Nat) (ho:∀ x∈l,x<256) (h:∀ x∈l.take k,x<128):vd (l.drop k)=vd l:=by
 unfold vd
 rw [Lib.validD_ascii k (l.map UInt8.ofNat) (fun b hb=>by
  rw [←List.map_take] at hb
  obtain ⟨x,hx,rfl⟩:=List.mem_map.1 hb
  rw [u8_nat (ho x (List.mem_of_mem_take hx))]
  exact h x hx),List.map_drop]
theorem u8_at (l:List Nat) (ho:∀ x∈l,x<256) (j:Nat):((l.map UInt8.ofNat).getD j 0).toNat=l.getD j 0:=by
 by_cases hj:j<l.length
 ·simp only [List.getD,List.getElem?_map,List.getElem?_eq_getElem hj,Option.map_some,Option.getD_some]
  exact u8_nat (ho _ (List.getElem_mem hj))
 ·simp [List.getD,List.getElem?_eq_none (Nat.le_of_not_lt hj)]
theorem vd_lead (l:List Nat) (ho:∀ x∈l,x<256) (h0:128≤l.getD 0 0) :
  vd l=match Lib.checkN l.length (l.getD 1 0) (l.getD 2 0) (l.getD 3 0) (Lib.firstT (l.getD 0 0) % 8) (Lib.accLo (Lib.firstT (l.getD 0 0) / 16)) (Lib.accHi (Lib.firstT (l.getD 0 0) / 16)) with
   | none=>false
   | some k=>vd (l.drop k):=by
 have hne:l.map UInt8.ofNat≠[]:=fun h=>by
  have:l=[]:=by simpa using h
  subst this
  simp at h0
 have h:=Lib.validD_lead (l.map UInt8.ofNat) hne (by rw [u8_at l ho];exact h0)
 rw [u8_at l ho,u8_at l ho,u8_at l ho,u8_at l ho,List.length_map] at h
 unfold vd
 rw [h]
 rcases Lib.checkN l.length (l.getD 1 0) (l.getD 2 0) (l.getD 3 0) (Lib.firstT (l.getD 0 0) % 8) (Lib.accLo (Lib.firstT (l.getD 0 0) / 16)) (Lib.accHi (Lib.firstT (l.getD 0 0) / 16)) with _ | k
 ·rfl
 ·show Lib.validD _=Lib.validD _
  rw [List.map_drop]
/-- These bytes lie here. -/
def Lies (w:World) (b off:Nat) (l:List Nat):Prop:=∀ j,j<l.length→w.cell? ⟨b,off+j,none⟩=some (.int .u8 ((l.getD j 0:Nat):Int))
theorem Lies.drop {w:World} {b off:Nat} {l:List Nat} (h:Lies w b off l) (k:Nat):Lies w b (off+k) (l.drop k):=fun j hj=>by
 rw [List.length_drop] at hj
 rw [Nat.add_assoc,h (k+j) (by omega)]
 simp [List.getD,List.getElem?_drop]
theorem str_get (l:List Nat) (j:Nat):(str l).get! j=(l.map UInt8.ofNat).getD j 0:=by
 rw [←Lib.getD_get!']
 simp [str]
theorem str_len (l:List Nat):(str l).size=l.length:=by simp [str,ByteArray.size]
/-- Eight bytes as a number. -/
def w8 (l:List Nat):Nat:=Lib.leNat [(str l).get! 0,(str l).get! 1,(str l).get! 2,(str l).get! 3,(str l).get! 4,(str l).get! 5,(str l).get! 6,(str l).get! 7]
theorem w8_lt (l:List Nat):w8 l<18446744073709551616:=Lib.word_lt (str l)
theorem w8_asc {l:List Nat} (ho:∀ x∈l,x<256) (h8:8≤l.length) (h:w8 l &&& 9259542123273814144=0):∀ x∈l.take 8,x<128:=fun x hx=>by
 have:=(Lib.word_asc (str l) (by rw [str_len];exact h8)).1 h (UInt8.ofNat x) (by
  have:(str l).data.toList=l.map UInt8.ofNat:=by simp [str]
  rw [this,←List.map_take]
  exact List.mem_map_of_mem hx)
 rwa [u8_nat (ho x (List.mem_of_mem_take hx))] at this
theorem w8_any (w:World) (b off c n:Nat) (l:List Nat) (ho:∀ x∈l,x<256) (h:Lies w b off l) (hn:l.length=n) (h8:8≤n) :
  Calls Tryz.prog 129 #[.slice (some ⟨b,off,none⟩) n c] w fun e w'=>e = .returned (.int .u64 (w8 l))∧∃ q,w'=w.drewN q:=by
 subst hn
 have:=u8word_any w b off c (str l) (fun j hj=>by
  rw [str_len] at hj
  rw [h j hj,str_get,u8_at l ho]) (by rw [str_len];exact h8)
 rw [str_len] at this
 exact this
theorem asc_more {l:List Nat} {a b:Nat} (ha:∀ x∈l.take a,x<128) (hb:∀ x∈(l.drop a).take b,x<128):∀ x∈l.take (a+b),x<128:=fun x hx=>by
 rw [List.take_add] at hx
 rcases List.mem_append.1 hx with h | h
 ·exact ha x h
 ·exact hb x h
end Go.Proofs.YtcibjcgipfpniaaGreatDoor
namespace Go.Proofs.YtcibjcgipfpniaaGreatDoor
open Go.RowKit BigFrame
set_option linter.unusedVariables false
set_option linter.unusedSimpArgs false
attribute [local go_sem ↓] Go.wp_at_zero Go.wp_at_succ

def rnN (n c x1 x2 x3:Nat):Nat:=if c<128 then 1 else (Lib.checkN n x1 x2 x3 (Lib.firstT c % 8) (Lib.accLo (Lib.firstT c / 16)) (Lib.accHi (Lib.firstT c / 16))).getD 0
/-- How many bytes the first rune has; 0: it is none. -/
def rn (l:List Nat):Nat:=rnN l.length (l.getD 0 0) (l.getD 1 0) (l.getD 2 0) (l.getD 3 0)
theorem check_le {n b1 b2 b3 sz lo hi k:Nat} (h:Lib.checkN n b1 b2 b3 sz lo hi=some k):0<k∧k≤n:=by
 unfold Lib.checkN at h
 repeat' split at h
 all_goals first | (injection h with h;omega) | cases h
theorem rn_no {l:List Nat} (ho:∀ x∈l,x<256) (hl:0<l.length) (h:rn l=0):vd l=false:=by
 unfold rn rnN at h
 split at h
 ·omega
 ·rename_i h0
  rw [vd_lead l ho (by omega)]
  rcases hc:Lib.checkN l.length (l.getD 1 0) (l.getD 2 0) (l.getD 3 0) (Lib.firstT (l.getD 0 0) % 8) (Lib.accLo (Lib.firstT (l.getD 0 0) / 16)) (Lib.accHi (Lib.firstT (l.getD 0 0) / 16)) with _ | k
  ·rfl
  ·rw [hc] at h
   have:=check_le hc
   simp at h
   omega
theorem rn_yes {l:List Nat} (ho:∀ x∈l,x<256) (hl:0<l.length) (h:rn l≠0):rn l≤l.length∧vd (l.drop (rn l))=vd l:=by
 unfold rn rnN at h ⊢
 split at h
 ·rename_i h0
  rw [if_pos h0]
  refine ⟨hl,vd_skip 1 l ho fun x hx=>?_⟩
  rcases l with _ | ⟨y,t⟩
  ·simp at hl
  ·have:x=y:=by simpa using hx
   subst this
   exact h0
 ·rename_i h0
  rw [if_neg h0]
  rw [vd_lead l ho (by omega)]
  rcases hc:Lib.checkN l.length (l.getD 1 0) (l.getD 2 0) (l.getD 3 0) (Lib.firstT (l.getD 0 0) % 8) (Lib.accLo (Lib.firstT (l.getD 0 0) / 16)) (Lib.accHi (Lib.firstT (l.getD 0 0) / 16)) with _ | k
  ·rw [hc] at h
   simp at h
  ·exact ⟨(check_le hc).2,rfl⟩
/-- Is it a byte that goes on? -/
def cont (x:Nat):Prop:=128≤x∧x<192
/-- A rune's number, by its bytes. -/
def vv (v0 x1 x2 x3 k:Nat):Nat:=if k≤1 then v0 else if k=2 then v0*64+x1 % 64 else if k=3 then (v0*64+x1 % 64)*64+x2 % 64 else ((v0*64+x1 % 64)*64+x2 % 64)*64+x3 % 64
/-- .. that is no rune's. -/
def off_ (v least:Nat):Prop:=v<least∨1114111<v∨(55296≤v∧v≤57343)
theorem u8and63:∀ X:Fin 256,bits .and .u8 ((X.val:Nat):Int) 63=((X.val % 64:Nat):Int):=by decide +kernel
theorem u8and31:∀ X:Fin 256,bits .and .u8 ((X.val:Nat):Int) 31=((X.val % 32:Nat):Int):=by decide +kernel
theorem u8and15:∀ X:Fin 256,bits .and .u8 ((X.val:Nat):Int) 15=((X.val % 16:Nat):Int):=by decide +kernel
theorem u8and07:∀ X:Fin 256,bits .and .u8 ((X.val:Nat):Int) 7=((X.val % 8:Nat):Int):=by decide +kernel
theorem get_at (l:List Nat) (ho:∀ x∈l,x<256) (t:ByteArray) (ht:str l=t) (j:Nat) (hj:j<t.size):∃ x:UInt8,t[j]'hj=x∧x.toNat=l.getD j 0:=by
 refine ⟨_,rfl,?_⟩
 subst ht
 rw [str_len] at hj
 have:(str l)[j]=(l.map UInt8.ofNat)[j]'(by simpa using hj):=by
  show ((l.map UInt8.ofNat).toArray)[j]'(by simpa using hj)=_
  rw [List.getElem_toArray]
 rw [this,List.getElem_map,u8_nat (ho _ (List.getElem_mem hj))]
 simp [List.getD,hj]
theorem getD_oct {l:List Nat} (ho:∀ x∈l,x<256) (j:Nat):l.getD j 0<256:=by
 rw [List.getD_eq_getElem?_getD]
 rcases h:l[j]? with _ | y
 ·simp
 ·exact ho y (List.mem_of_getElem? h)
theorem rnN_128 {n c x1 x2 x3:Nat} (h1:128≤c) (h2:c<194):rnN n c x1 x2 x3=0:=by
 have e:Lib.firstT c=241:=by
  unfold Lib.firstT
  (repeat' split) <;> omega
 unfold rnN
 rw [if_neg (by omega),e]
 rfl
theorem rnN_194 {n c x1 x2 x3:Nat} (h1:194≤c) (h2:c<224):rnN n c x1 x2 x3=if n<2∨x1<128∨191<x1 then 0 else 2:=by
 have e:Lib.firstT c=2:=by
  unfold Lib.firstT
  (repeat' split) <;> omega
 unfold rnN
 rw [if_neg (by omega),e]
 simp only [Lib.checkN,Lib.accLo,Lib.accHi,Nat.reduceMod,Nat.reduceDiv,Nat.reduceEqDiff,if_false,if_true]
 split <;> rfl
theorem rnN_224 {n c x1 x2 x3:Nat} (h1:224≤c) (h2:c<225):rnN n c x1 x2 x3=if n<3∨x1<160∨191<x1∨x2<128∨191<x2 then 0 else 3:=by
 have e:Lib.firstT c=19:=by
  unfold Lib.firstT
  (repeat' split) <;> omega
 unfold rnN
 rw [if_neg (by omega),e]
 simp only [Lib.checkN,Lib.accLo,Lib.accHi,Nat.reduceMod,Nat.reduceDiv,Nat.reduceEqDiff,if_false,if_true]
 split <;> rfl
theorem rnN_225 {n c x1 x2 x3:Nat} (h1:225≤c) (h2:c<237):rnN n c x1 x2 x3=if n<3∨x1<128∨191<x1∨x2<128∨191<x2 then 0 else 3:=by
 have e:Lib.firstT c=3:=by
  unfold Lib.firstT
  (repeat' split) <;> omega
 unfold rnN
 rw [if_neg (by omega),e]
 simp only [Lib.checkN,Lib.accLo,Lib.accHi,Nat.reduceMod,Nat.reduceDiv,Nat.reduceEqDiff,if_false,if_true]
 split <;> rfl
theorem rnN_237 {n c x1 x2 x3:Nat} (h1:237≤c) (h2:c<238):rnN n c x1 x2 x3=if n<3∨x1<128∨159<x1∨x2<128∨191<x2 then 0 else 3:=by
 have e:Lib.firstT c=35:=by
  unfold Lib.firstT
  (repeat' split) <;> omega
 unfold rnN
 rw [if_neg (by omega),e]
 simp only [Lib.checkN,Lib.accLo,Lib.accHi,Nat.reduceMod,Nat.reduceDiv,Nat.reduceEqDiff,if_false,if_true]
 split <;> rfl
theorem rnN_238 {n c x1 x2 x3:Nat} (h1:238≤c) (h2:c<240):rnN n c x1 x2 x3=if n<3∨x1<128∨191<x1∨x2<128∨191<x2 then 0 else 3:=by
 have e:Lib.firstT c=3:=by
  unfold Lib.firstT
  (repeat' split) <;> omega
 unfold rnN
 rw [if_neg (by omega),e]
 simp only [Lib.checkN,Lib.accLo,Lib.accHi,Nat.reduceMod,Nat.reduceDiv,Nat.reduceEqDiff,if_false,if_true]
 split <;> rfl
theorem rnN_240 {n c x1 x2 x3:Nat} (h1:240≤c) (h2:c<241):rnN n c x1 x2 x3=if n<4∨x1<144∨191<x1∨x2<128∨191<x2∨x3<128∨191<x3 then 0 else 4:=by
 have e:Lib.firstT c=52:=by
  unfold Lib.firstT
  (repeat' split) <;> omega
 unfold rnN
 rw [if_neg (by omega),e]
 simp only [Lib.checkN,Lib.accLo,Lib.accHi,Nat.reduceMod,Nat.reduceDiv,Nat.reduceEqDiff,if_false,if_true]
 split <;> rfl
theorem rnN_241 {n c x1 x2 x3:Nat} (h1:241≤c) (h2:c<244):rnN n c x1 x2 x3=if n<4∨x1<128∨191<x1∨x2<128∨191<x2∨x3<128∨191<x3 then 0 else 4:=by
 have e:Lib.firstT c=4:=by
  unfold Lib.firstT
  (repeat' split) <;> omega
 unfold rnN
 rw [if_neg (by omega),e]
 simp only [Lib.checkN,Lib.accLo,Lib.accHi,Nat.reduceMod,Nat.reduceDiv,Nat.reduceEqDiff,if_false,if_true]
 split <;> rfl
theorem rnN_244 {n c x1 x2 x3:Nat} (h1:244≤c) (h2:c<245):rnN n c x1 x2 x3=if n<4∨x1<128∨143<x1∨x2<128∨191<x2∨x3<128∨191<x3 then 0 else 4:=by
 have e:Lib.firstT c=68:=by
  unfold Lib.firstT
  (repeat' split) <;> omega
 unfold rnN
 rw [if_neg (by omega),e]
 simp only [Lib.checkN,Lib.accLo,Lib.accHi,Nat.reduceMod,Nat.reduceDiv,Nat.reduceEqDiff,if_false,if_true]
 split <;> rfl
theorem rnN_245 {n c x1 x2 x3:Nat} (h1:245≤c) (h2:c<256):rnN n c x1 x2 x3=0:=by
 have e:Lib.firstT c=241:=by
  unfold Lib.firstT
  (repeat' split) <;> omega
 unfold rnN
 rw [if_neg (by omega),e]
 rfl
theorem rn_none {l:List Nat} (ho:∀ x∈l,x<256) (h1:128≤l.getD 0 0) (h2:l.getD 0 0<192∨248≤l.getD 0 0):rn l=0:=by
 have:=getD_oct ho 0
 unfold rn
 rcases h2 with h2 | h2
 ·exact rnN_128 h1 (by omega)
 ·exact rnN_245 (by omega) this
theorem rn_asc {l:List Nat} (h:l.getD 0 0<128):rn l=1:=by
 unfold rn rnN;rw [if_pos h]
theorem rnN2_short {n c x1 x2 x3:Nat} (h1:192≤c) (h2:c<224) (h:n<2):rnN n c x1 x2 x3=0:=by
 rcases (by omega:(192≤c∧c<194)∨(194≤c∧c<224)) with ⟨g1,g2⟩ | ⟨g1,g2⟩
 ·rw [rnN_128 (by omega) (by omega)]
 ·rw [rnN_194 g1 g2];rw [if_pos (by omega)]
theorem rnN2_cont1 {n c x1 x2 x3:Nat} (h1:192≤c) (h2:c<224) (h:¬ cont x1):rnN n c x1 x2 x3=0:=by
 unfold cont at h
 rcases (by omega:(192≤c∧c<194)∨(194≤c∧c<224)) with ⟨g1,g2⟩ | ⟨g1,g2⟩
 ·rw [rnN_128 (by omega) (by omega)]
 ·rw [rnN_194 g1 g2];rw [if_pos (by omega)]
theorem rnN2_off {n c x1 x2 x3:Nat} (h1:192≤c) (h2:c<224) (c1:cont x1) (h:off_ (vv (c % 32) x1 x2 x3 2) 128):rnN n c x1 x2 x3=0:=by
 unfold off_ vv at h
 unfold cont at c1
 simp only [Nat.reduceLeDiff,Nat.reduceEqDiff,if_false,if_true] at h
 rcases (by omega:(192≤c∧c<194)∨(194≤c∧c<224)) with ⟨g1,g2⟩ | ⟨g1,g2⟩
 ·rw [rnN_128 (by omega) (by omega)]
 ·rw [rnN_194 g1 g2];rw [if_pos (by omega)]
theorem rnN2_yes {n c x1 x2 x3:Nat} (h1:192≤c) (h2:c<224) (hn:2≤n) (c1:cont x1) (h:¬ off_ (vv (c % 32) x1 x2 x3 2) 128):rnN n c x1 x2 x3=2:=by
 unfold off_ vv at h
 unfold cont at c1
 simp only [Nat.reduceLeDiff,Nat.reduceEqDiff,if_false,if_true] at h
 rcases (by omega:(192≤c∧c<194)∨(194≤c∧c<224)) with ⟨g1,g2⟩ | ⟨g1,g2⟩
 ·rw [rnN_128 (by omega) (by omega)];omega
 ·rw [rnN_194 g1 g2];rw [if_neg (by omega)]
theorem rnN3_short {n c x1 x2 x3:Nat} (h1:224≤c) (h2:c<240) (h:n<3):rnN n c x1 x2 x3=0:=by
 rcases (by omega:(224≤c∧c<225)∨(225≤c∧c<237)∨(237≤c∧c<238)∨(238≤c∧c<240)) with ⟨g1,g2⟩ | ⟨g1,g2⟩ | ⟨g1,g2⟩ | ⟨g1,g2⟩
 ·rw [rnN_224 g1 g2];rw [if_pos (by omega)]
 ·rw [rnN_225 g1 g2];rw [if_pos (by omega)]
 ·rw [rnN_237 g1 g2];rw [if_pos (by omega)]
 ·rw [rnN_238 g1 g2];rw [if_pos (by omega)]
theorem rnN3_cont1 {n c x1 x2 x3:Nat} (h1:224≤c) (h2:c<240) (h:¬ cont x1):rnN n c x1 x2 x3=0:=by
 unfold cont at h
 rcases (by omega:(224≤c∧c<225)∨(225≤c∧c<237)∨(237≤c∧c<238)∨(238≤c∧c<240)) with ⟨g1,g2⟩ | ⟨g1,g2⟩ | ⟨g1,g2⟩ | ⟨g1,g2⟩
 ·rw [rnN_224 g1 g2];rw [if_pos (by omega)]
 ·rw [rnN_225 g1 g2];rw [if_pos (by omega)]
 ·rw [rnN_237 g1 g2];rw [if_pos (by omega)]
 ·rw [rnN_238 g1 g2];rw [if_pos (by omega)]
theorem rnN3_cont2 {n c x1 x2 x3:Nat} (h1:224≤c) (h2:c<240) (h:¬ cont x2):rnN n c x1 x2 x3=0:=by
 unfold cont at h
 rcases (by omega:(224≤c∧c<225)∨(225≤c∧c<237)∨(237≤c∧c<238)∨(238≤c∧c<240)) with ⟨g1,g2⟩ | ⟨g1,g2⟩ | ⟨g1,g2⟩ | ⟨g1,g2⟩
 ·rw [rnN_224 g1 g2];rw [if_pos (by omega)]
 ·rw [rnN_225 g1 g2];rw [if_pos (by omega)]
 ·rw [rnN_237 g1 g2];rw [if_pos (by omega)]
 ·rw [rnN_238 g1 g2];rw [if_pos (by omega)]
theorem rnN3_off {n c x1 x2 x3:Nat} (h1:224≤c) (h2:c<240) (c1:cont x1) (c2:cont x2) (h:off_ (vv (c % 16) x1 x2 x3 3) 2048):rnN n c x1 x2 x3=0:=by
 unfold off_ vv at h
 unfold cont at c1 c2
 simp only [Nat.reduceLeDiff,Nat.reduceEqDiff,if_false,if_true] at h
 rcases (by omega:(224≤c∧c<225)∨(225≤c∧c<237)∨(237≤c∧c<238)∨(238≤c∧c<240)) with ⟨g1,g2⟩ | ⟨g1,g2⟩ | ⟨g1,g2⟩ | ⟨g1,g2⟩
 ·rw [rnN_224 g1 g2];rw [if_pos (by omega)]
 ·rw [rnN_225 g1 g2];rw [if_pos (by omega)]
 ·rw [rnN_237 g1 g2];rw [if_pos (by omega)]
 ·rw [rnN_238 g1 g2];rw [if_pos (by omega)]
theorem rnN3_yes {n c x1 x2 x3:Nat} (h1:224≤c) (h2:c<240) (hn:3≤n) (c1:cont x1) (c2:cont x2) (h:¬ off_ (vv (c % 16) x1 x2 x3 3) 2048):rnN n c x1 x2 x3=3:=by
 unfold off_ vv at h
 unfold cont at c1 c2
 simp only [Nat.reduceLeDiff,Nat.reduceEqDiff,if_false,if_true] at h
 rcases (by omega:(224≤c∧c<225)∨(225≤c∧c<237)∨(237≤c∧c<238)∨(238≤c∧c<240)) with ⟨g1,g2⟩ | ⟨g1,g2⟩ | ⟨g1,g2⟩ | ⟨g1,g2⟩
 ·rw [rnN_224 g1 g2];rw [if_neg (by omega)]
 ·rw [rnN_225 g1 g2];rw [if_neg (by omega)]
 ·rw [rnN_237 g1 g2];rw [if_neg (by omega)]
 ·rw [rnN_238 g1 g2];rw [if_neg (by omega)]
theorem rnN4_short {n c x1 x2 x3:Nat} (h1:240≤c) (h2:c<248) (h:n<4):rnN n c x1 x2 x3=0:=by
 rcases (by omega:(240≤c∧c<241)∨(241≤c∧c<244)∨(244≤c∧c<245)∨(245≤c∧c<248)) with ⟨g1,g2⟩ | ⟨g1,g2⟩ | ⟨g1,g2⟩ | ⟨g1,g2⟩
 ·rw [rnN_240 g1 g2];rw [if_pos (by omega)]
 ·rw [rnN_241 g1 g2];rw [if_pos (by omega)]
 ·rw [rnN_244 g1 g2];rw [if_pos (by omega)]
 ·rw [rnN_245 (by omega) (by omega)]
theorem rnN4_cont1 {n c x1 x2 x3:Nat} (h1:240≤c) (h2:c<248) (h:¬ cont x1):rnN n c x1 x2 x3=0:=by
 unfold cont at h
 rcases (by omega:(240≤c∧c<241)∨(241≤c∧c<244)∨(244≤c∧c<245)∨(245≤c∧c<248)) with ⟨g1,g2⟩ | ⟨g1,g2⟩ | ⟨g1,g2⟩ | ⟨g1,g2⟩
 ·rw [rnN_240 g1 g2];rw [if_pos (by omega)]
 ·rw [rnN_241 g1 g2];rw [if_pos (by omega)]
 ·rw [rnN_244 g1 g2];rw [if_pos (by omega)]
 ·rw [rnN_245 (by omega) (by omega)]
theorem rnN4_cont2 {n c x1 x2 x3:Nat} (h1:240≤c) (h2:c<248) (h:¬ cont x2):rnN n c x1 x2 x3=0:=by
 unfold cont at h
 rcases (by omega:(240≤c∧c<241)∨(241≤c∧c<244)∨(244≤c∧c<245)∨(245≤c∧c<248)) with ⟨g1,g2⟩ | ⟨g1,g2⟩ | ⟨g1,g2⟩ | ⟨g1,g2⟩
 ·rw [rnN_240 g1 g2];rw [if_pos (by omega)]
 ·rw [rnN_241 g1 g2];rw [if_pos (by omega)]
 ·rw [rnN_244 g1 g2];rw [if_pos (by omega)]
 ·rw [rnN_245 (by omega) (by omega)]
theorem rnN4_cont3 {n c x1 x2 x3:Nat} (h1:240≤c) (h2:c<248) (h:¬ cont x3):rnN n c x1 x2 x3=0:=by
 unfold cont at h
 rcases (by omega:(240≤c∧c<241)∨(241≤c∧c<244)∨(244≤c∧c<245)∨(245≤c∧c<248)) with ⟨g1,g2⟩ | ⟨g1,g2⟩ | ⟨g1,g2⟩ | ⟨g1,g2⟩
 ·rw [rnN_240 g1 g2];rw [if_pos (by omega)]
 ·rw [rnN_241 g1 g2];rw [if_pos (by omega)]
 ·rw [rnN_244 g1 g2];rw [if_pos (by omega)]
 ·rw [rnN_245 (by omega) (by omega)]
theorem rnN4_off {n c x1 x2 x3:Nat} (h1:240≤c) (h2:c<248) (c1:cont x1) (c2:cont x2) (c3:cont x3) (h:off_ (vv (c % 8) x1 x2 x3 4) 65536):rnN n c x1 x2 x3=0:=by
 unfold off_ vv at h
 unfold cont at c1 c2 c3
 simp only [Nat.reduceLeDiff,Nat.reduceEqDiff,if_false,if_true] at h
 rcases (by omega:(240≤c∧c<241)∨(241≤c∧c<244)∨(244≤c∧c<245)∨(245≤c∧c<248)) with ⟨g1,g2⟩ | ⟨g1,g2⟩ | ⟨g1,g2⟩ | ⟨g1,g2⟩
 ·rw [rnN_240 g1 g2];rw [if_pos (by omega)]
 ·rw [rnN_241 g1 g2];rw [if_pos (by omega)]
 ·rw [rnN_244 g1 g2];rw [if_pos (by omega)]
 ·rw [rnN_245 (by omega) (by omega)]
theorem rnN4_yes {n c x1 x2 x3:Nat} (h1:240≤c) (h2:c<248) (hn:4≤n) (c1:cont x1) (c2:cont x2) (c3:cont x3) (h:¬ off_ (vv (c % 8) x1 x2 x3 4) 65536):rnN n c x1 x2 x3=4:=by
 unfold off_ vv at h
 unfold cont at c1 c2 c3
 simp only [Nat.reduceLeDiff,Nat.reduceEqDiff,if_false,if_true] at h
 rcases (by omega:(240≤c∧c<241)∨(241≤c∧c<244)∨(244≤c∧c<245)∨(245≤c∧c<248)) with ⟨g1,g2⟩ | ⟨g1,g2⟩ | ⟨g1,g2⟩ | ⟨g1,g2⟩
 ·rw [rnN_240 g1 g2];rw [if_neg (by omega)]
 ·rw [rnN_241 g1 g2];rw [if_neg (by omega)]
 ·rw [rnN_244 g1 g2];rw [if_neg (by omega)]
 ·rw [rnN_245 (by omega) (by omega)];omega
end Go.Proofs.YtcibjcgipfpniaaGreatDoor
