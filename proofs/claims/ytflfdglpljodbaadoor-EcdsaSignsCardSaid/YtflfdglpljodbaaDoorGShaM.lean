/-
  Words turned. A block, plain: its words, its rounds. A block's words: by the program. One block: by the program. One block: by the document. Bytes of the call's own, wherever in their block they begin; one append more. All whole blocks of a row: by the program. A digest, plain: what stands behind the bytes, the blocks one after another, the words as bytes. A digest: by the program. The known digest, by hand; bytes as a text. A digest: by the document's own text.
-/
import Derived.Test.YtflfdglpljodbaaDoorGNatA
import Derived.Test.YtflfdglpljodbaaDoorChecked
import Derived.WalkKit
import Derived.WalkSpells
import Derived.WalkLawsBesides
import Derived.Outline
import Derived.BigQuiet
import Derived.Deep.QuietTactic
import Derived.IntWalk
import Derived.Laws.BitsAllLaws
import Derived.Test.YtflfdglpljodbaaDoorGMem
import Derived.Test.YtflfdglpljodbaaDoorGRead
import Derived.BigRegion
import Derived.Laws.Tables
import Derived.Laws.CopyOwn
import Derived.Deep.RegionLaw
import Derived.Deep.DrawnRows
import Derived.Deep.WholeRow
import Derived.StillTailTactics
import Derived.Deep.AppendSrc
import Derived.Lib.LazyBuf
import Derived.Deep.Upon
import Derived.OwnWalk
import Derived.Test.YtflfdglpljodbaaDoorGStr
import Derived.Laws.IdiomStrings
import Derived.Laws.BytesArg
import Derived.Lib.Strings
import Derived.Lib.SlBytesConst
import Derived.Lib.SmallJoins
import Derived.Deep.RegionHeld3
set_option maxRecDepth 100000
set_option maxHeartbeats 6000000
set_option linter.unusedVariables false
set_option linter.unusedSimpArgs false
namespace Go.Proofs.YtflfdglpljodbaaDoor
open Go.RowKit
theorem ret_u32 {a b:Int} (h:a=b):Ending.returned (.int .u32 a) = .returned (.int .u32 b):=by rw [h]
def rot (x n:Nat):Nat:=x / 2 ^ n ||| x*2 ^ (32 - n) % 4294967296
theorem lt32_or {a b:Nat} (ha:a<4294967296) (hb:b<4294967296):a ||| b<4294967296:=Nat.or_lt_two_pow (n:=32) ha hb
theorem lt32_xor {a b:Nat} (ha:a<4294967296) (hb:b<4294967296):a ^^^ b<4294967296:=Nat.xor_lt_two_pow (n:=32) ha hb
theorem lt32_and {a b:Nat} (ha:a<4294967296):a &&& b<4294967296:=Nat.lt_of_le_of_lt Nat.and_le_left ha
theorem rot_lt {x:Nat} (h:x<4294967296) (n:Nat):rot x n<4294967296 :=
 lt32_or (Nat.lt_of_le_of_lt (Nat.div_le_self _ _) h) (Nat.mod_lt _ (by omega))
def Turns (n:Nat):Prop:=n=2∨n=6∨n=7∨n=11∨n=13∨n=17∨n=18∨n=19∨n=22∨n=25
theorem or_left (x p q:Nat) (hx:x<4294967296) (hp:0<p):bits .or .u32 (((x:Nat):Int) / (p:Nat)) (((x:Nat):Int)*(q:Nat) % 4294967296)=((x / p ||| x*q % 4294967296:Nat):Int):=by
 have h1:x / p<4294967296:=Nat.lt_of_le_of_lt (Nat.div_le_self _ _) hx
 have h2:x*q % 4294967296<4294967296:=Nat.mod_lt _ (by omega)
 have:=u32_or_nat (x / p) (x*q % 4294967296) h1 h2
 rw [←this,Int.natCast_ediv,Int.natCast_emod,Int.natCast_mul]
 rfl
theorem turned_any (w:World) (x n:Nat) (hx:x<4294967296) (hn:Turns n):Calls Tryd.prog 99 #[.int .u32 (x:Int),.int .u64 (n:Int)] w fun e w'=>e = .returned (.int .u32 ((rot x n:Nat):Int))∧w=w':=by
 have H2:=fun p q hp=>lH (or_left x p q hx hp)
 rcases hn with rfl | rfl | rfl | rfl | rfl | rfl | rfl | rfl | rfl | rfl
 all_goals
  go_enter Tryd.func99,Tryd.ntmps99
  go_wp2_with fail
  go_ret
  exact ⟨ret_u32 ((H2 _ _ (by decide)).out),rfl⟩
def tri (x n m l:Nat):Nat:=rot x n ^^^ rot x m ^^^ rot x l
theorem tri_eq {x:Nat} (h:x<4294967296) (n m l:Nat):bits .xor .u32 (bits .xor .u32 ((rot x n:Nat):Int) ((rot x m:Nat):Int)) ((rot x l:Nat):Int)=((tri x n m l:Nat):Int):=by
 rw [u32_xor_nat _ _ (rot_lt h n) (rot_lt h m),u32_xor_nat _ _ (lt32_xor (rot_lt h n) (rot_lt h m)) (rot_lt h l)]
 rfl
def w0 (B:List Nat) (t:Nat):Nat:=((B.getD (4*t) 0*16777216 ||| B.getD (4*t+1) 0*65536) ||| B.getD (4*t+2) 0*256) ||| B.getD (4*t+3) 0
def sg0 (x:Nat):Nat:=(rot x 7 ^^^ rot x 18) ^^^ x / 8
def sg1 (x:Nat):Nat:=(rot x 17 ^^^ rot x 19) ^^^ x / 1024
def nextW (B L:List Nat) (t:Nat):Nat :=
 if t<16 then w0 B t else (((L.getD (t - 16) 0+sg0 (L.getD (t - 15) 0)) % 4294967296+L.getD (t - 7) 0) % 4294967296+sg1 (L.getD (t - 2) 0)) % 4294967296
def sched (B:List Nat):Nat→List Nat
 | 0=>[]
 | t+1=>sched B t ++ [nextW B (sched B t) t]
theorem sched_length (B:List Nat):∀ t,(sched B t).length=t
 | 0=>rfl
 | t+1=>by rw [sched,List.length_append,sched_length B t];rfl
theorem getD_take (L:List Nat) {j t:Nat} (h:j<t):(L.take t).getD j 0=L.getD j 0:=by simp [List.getD,h]
theorem take_put (L:List Nat) {t:Nat} (x:Nat) (h:t<L.length):(L.set t x).take (t+1)=L.take t ++ [x]:=by
 rw [List.take_add_one,List.take_set_of_le (Nat.le_refl t)]
 simp [h]
theorem sched_put {B L:List Nat} {t:Nat} (h:L.take t=sched B t) (hl:t<L.length) (x:Nat) (hx:x=nextW B L t):(L.set t x).take (t+1)=sched B (t+1):=by
 rw [take_put L x hl,h,sched,hx]
 congr 2
 unfold nextW
 split
 ·rfl
 ·rw [←h]
  rename_i h16
  rw [getD_take L (by omega:t - 16<t),getD_take L (by omega:t - 15<t),getD_take L (by omega:t - 7<t),getD_take L (by omega:t - 2<t)]
structure StS where
 a:Nat
 b:Nat
 c:Nat
 d:Nat
 e:Nat
 f:Nat
 g:Nat
 h:Nat
def StS.Ok (s:StS):Prop:=s.a<4294967296∧s.b<4294967296∧s.c<4294967296∧s.d<4294967296∧s.e<4294967296∧s.f<4294967296∧s.g<4294967296∧s.h<4294967296
def t1 (s:StS) (k w:Nat):Nat:=((((s.h+tri s.e 6 11 25) % 4294967296+((s.e &&& s.f) ^^^ ((4294967295 ^^^ s.e) &&& s.g))) % 4294967296+k) % 4294967296+w) % 4294967296
def t2 (s:StS):Nat:=(tri s.a 2 13 22+((s.a &&& s.b) ^^^ (s.a &&& s.c) ^^^ (s.b &&& s.c))) % 4294967296
def StS.next (s:StS) (k w:Nat):StS:=⟨(t1 s k w+t2 s) % 4294967296,s.a,s.b,s.c,(s.d+t1 s k w) % 4294967296,s.e,s.f,s.g⟩
def StS.list (s:StS):List Nat:=[s.a,s.b,s.c,s.d,s.e,s.f,s.g,s.h]
def StS.plus (s t:StS):StS:=⟨(s.a+t.a) % 4294967296,(s.b+t.b) % 4294967296,(s.c+t.c) % 4294967296,(s.d+t.d) % 4294967296,(s.e+t.e) % 4294967296,(s.f+t.f) % 4294967296,(s.g+t.g) % 4294967296,(s.h+t.h) % 4294967296⟩
def KL:List Nat:=[0x428a2f98,0x71374491,0xb5c0fbcf,0xe9b5dba5,0x3956c25b,0x59f111f1,0x923f82a4,0xab1c5ed5,0xd807aa98,0x12835b01,0x243185be,0x550c7dc3,0x72be5d74,0x80deb1fe,0x9bdc06a7,0xc19bf174,0xe49b69c1,0xefbe4786,0x0fc19dc6,0x240ca1cc,0x2de92c6f,0x4a7484aa,0x5cb0a9dc,0x76f988da,0x983e5152,0xa831c66d,0xb00327c8,0xbf597fc7,0xc6e00bf3,0xd5a79147,0x06ca6351,0x14292967,0x27b70a85,0x2e1b2138,0x4d2c6dfc,0x53380d13,0x650a7354,0x766a0abb,0x81c2c92e,0x92722c85,0xa2bfe8a1,0xa81a664b,0xc24b8b70,0xc76c51a3,0xd192e819,0xd6990624,0xf40e3585,0x106aa070,0x19a4c116,0x1e376c08,0x2748774c,0x34b0bcb5,0x391c0cb3,0x4ed8aa4a,0x5b9cca4f,0x682e6ff3,0x748f82ee,0x78a5636f,0x84c87814,0x8cc70208,0x90befffa,0xa4506ceb,0xbef9a3f7,0xc67178f2]
def rounds6 (s:StS) (W:List Nat):Nat→StS
 | 0=>s
 | t+1=>(rounds6 s W t).next (KL.getD t 0) (W.getD t 0)
def blk (s:StS) (B:List Nat):StS:=if B.length=64 then s.plus (rounds6 s (sched B 64) 64) else s
theorem next_ok {s:StS} (h:s.Ok) (k w:Nat):(s.next k w).Ok:=by
 obtain ⟨h1,h2,h3,h4,h5,h6,h7,h8⟩:=h
 exact ⟨Nat.mod_lt _ (by omega),h1,h2,h3,Nat.mod_lt _ (by omega),h5,h6,h7⟩
theorem rounds_ok {s:StS} (h:s.Ok) (W:List Nat):∀ t,(rounds6 s W t).Ok
 | 0=>h
 | t+1=>next_ok (rounds_ok h W t) _ _
theorem plus_ok (s t:StS):(s.plus t).Ok:=⟨Nat.mod_lt _ (by omega),Nat.mod_lt _ (by omega),Nat.mod_lt _ (by omega),Nat.mod_lt _ (by omega),Nat.mod_lt _ (by omega),Nat.mod_lt _ (by omega),Nat.mod_lt _ (by omega),Nat.mod_lt _ (by omega)⟩
theorem blk_ok {s:StS} (h:s.Ok) (B:List Nat):(blk s B).Ok:=by
 unfold blk
 split
 ·exact plus_ok _ _
 ·exact h
def M32 (L:List Nat):Prop:=∀ i,L.getD i 0<4294967296
theorem sg0_lt {x:Nat} (h:x<4294967296):sg0 x<4294967296:=lt32_xor (lt32_xor (rot_lt h _) (rot_lt h _)) (Nat.lt_of_le_of_lt (Nat.div_le_self _ _) h)
theorem sg1_lt {x:Nat} (h:x<4294967296):sg1 x<4294967296:=lt32_xor (lt32_xor (rot_lt h _) (rot_lt h _)) (Nat.lt_of_le_of_lt (Nat.div_le_self _ _) h)
def Oct6 (B:List Nat):Prop:=∀ i,B.getD i 0<256
theorem w0_lt {B:List Nat} (h:Oct6 B) (t:Nat):w0 B t<4294967296:=by
 have h0:=h (4*t);have h1:=h (4*t+1);have h2:=h (4*t+2);have h3:=h (4*t+3)
 exact lt32_or (lt32_or (lt32_or (by omega) (by omega)) (by omega)) (by omega)
theorem nextW_lt {B:List Nat} (h:Oct6 B) (L:List Nat) (t:Nat):nextW B L t<4294967296:=by
 unfold nextW
 split
 ·exact w0_lt h t
 ·exact Nat.mod_lt _ (by omega)
theorem m32_set {L:List Nat} (h:M32 L) (t:Nat) {x:Nat} (hx:x<4294967296):M32 (L.set t x):=by
 intro i
 have:=h i
 rw [List.getD,List.getElem?_set]
 by_cases e:t=i
 ·subst e
  rw [if_pos rfl]
  split
  ·exact hx
  ·exact Nat.lt_of_le_of_lt (Nat.le_refl 0) (by omega)
 ·rw [if_neg e];exact this
theorem m32_noughts (n:Nat):M32 (List.replicate n 0):=by
 intro i
 rw [List.getD,List.getElem?_replicate]
 split
 ·exact (by omega:(0:Nat)<4294967296)
 ·exact (by omega:(0:Nat)<4294967296)
attribute [local go_sem ↓] Go.wp_at_zero Go.wp_at_succ
def WordsTo (l:List Nat) (w:World) (B:Nat) (A:Option Addr) (c k:Nat) (wr:World):Prop :=
 ∃ L R:List Nat,Row .u32 98 wr (w.heap.size+1) L∧L.length=64∧Hid (L.take k=sched l k)∧M32 L∧Row .u32 98 wr w.heap.size R∧R.length=64∧Rd .u8 wr B A c l∧Below w.heap.size w wr
def RelWS (l:List Nat) (w:World) (B:Nat) (A:Option Addr) (c n:Nat) (i:Value) (wr:World):Prop :=
 ∃ k:Nat,k≤n∧i = .int .i64 k∧WordsTo l w B A c k wr
def RelX (l:List Nat) (w:World) (B:Nat) (A:Option Addr) (c:Nat) (i:Value) (wr:World):Prop :=
 ∃ k:Nat,16≤k∧k≤64∧i = .int .i64 k∧WordsTo l w B A c k wr
theorem quiet_one {P:Program} {f:FuncId} {args:Array Value} {w:World} {n:Nat} {v:Value}
  (h:∀ W:World,Calls P f args W fun e w'=>e = .returned v∧W=w'):Calls P f args (w.drewN n) fun e w''=>e = .returned v∧∃ m,w''=w.drewN m :=
 (h _).mono fun _ _ hh=>⟨hh.1,n,hh.2.symm⟩
theorem nums_one (k:IntKind) (l:List Nat):(nums k l).all (·.oneCell')=true:=by
 rw [Array.all_eq_true_iff_forall_mem]
 intro v hv
 simp [nums] at hv
 obtain ⟨a,_,rfl⟩:=hv
 rfl
theorem xor3 {a b x:Nat} (ha:a<4294967296) (hb:b<4294967296) (hx:x<4294967296) (p:Nat):bits BinOp.xor IntKind.u32 (bits BinOp.xor IntKind.u32 (a:Int) (b:Int)) ((x:Int) / (p:Nat))=(((a ^^^ b) ^^^ x / p:Nat):Int):=by
 have e1:=u32_xor_nat a b ha hb
 have e2:=u32_xor_nat (a ^^^ b) (x / p) (lt32_xor ha hb) (Nat.lt_of_le_of_lt (Nat.div_le_self _ _) hx)
 rw [←e2,←e1,Int.natCast_ediv]
instance (n:Nat):Decidable (Turns n):=by unfold Turns;infer_instance
def rotI (x:Nat) (z:Int):Nat:=rot x z.toNat
end Go.Proofs.YtflfdglpljodbaaDoor
namespace Go.Proofs.YtflfdglpljodbaaDoor
open Go.RowKit
attribute [local go_sem ↓] Go.wp_at_zero Go.wp_at_succ
theorem z8:(#[Value.int IntKind.u32 0,Value.int IntKind.u32 0,Value.int IntKind.u32 0,Value.int IntKind.u32 0,Value.int IntKind.u32 0,Value.int IntKind.u32 0,Value.int IntKind.u32 0,Value.int IntKind.u32 0]:Array Value)=nums .u32 (List.replicate 8 0):=rfl
def triI (x:Nat) (n m l:Int):Nat:=tri x n.toNat m.toNat l.toNat
theorem sched_lt {B:List Nat} (h:Oct6 B):∀ n,M32 (sched B n)
 | 0=>fun i=>by simp [sched]
 | n+1=>fun i=>by
  rw [sched]
  rcases Nat.lt_or_ge i (sched B n).length with h1 | h1
  ·rw [List.getD,List.getElem?_append_left h1]
   exact sched_lt h n i
  ·rw [List.getD,List.getElem?_append_right h1]
   rcases Nat.eq_zero_or_pos (i - (sched B n).length) with h2 | h2
   ·rw [h2];exact nextW_lt h _ _
   ·rw [List.getElem?_eq_none (by simp;omega)];exact (by decide:(0:Nat)<4294967296)
theorem t1_lt (s:StS) (k w:Nat):t1 s k w<4294967296:=Nat.mod_lt _ (by omega)
theorem t2_lt (s:StS):t2 s<4294967296:=Nat.mod_lt _ (by omega)
theorem ch_eq {e f g:Nat} (he:e<4294967296) (hf:f<4294967296) (hg:g<4294967296) :
  bits BinOp.xor IntKind.u32 (bits BinOp.and IntKind.u32 (e:Int) (f:Int)) (bits BinOp.and IntKind.u32 (bits BinOp.xor IntKind.u32 4294967295 (e:Int)) (g:Int))=(((e &&& f) ^^^ ((4294967295 ^^^ e) &&& g):Nat):Int):=by
 have h1:=u32_and_nat e f he hf
 have h2:=u32_xor_nat 4294967295 e (by omega) he
 have h3:=u32_and_nat (4294967295 ^^^ e) g (lt32_xor (by omega) he) hg
 have h4:=u32_xor_nat (e &&& f) ((4294967295 ^^^ e) &&& g) (lt32_and he) (lt32_and (lt32_xor (by omega) he))
 rw [←h4,←h3,←h2,←h1]
 rfl
theorem maj_eq {a b c:Nat} (ha:a<4294967296) (hb:b<4294967296) (hc:c<4294967296) :
  bits BinOp.xor IntKind.u32 (bits BinOp.xor IntKind.u32 (bits BinOp.and IntKind.u32 (a:Int) (b:Int)) (bits BinOp.and IntKind.u32 (a:Int) (c:Int))) (bits BinOp.and IntKind.u32 (b:Int) (c:Int))=(((a &&& b) ^^^ (a &&& c) ^^^ (b &&& c):Nat):Int):=by
 have h1:=u32_and_nat a b ha hb
 have h2:=u32_and_nat a c ha hc
 have h3:=u32_and_nat b c hb hc
 have h4:=u32_xor_nat (a &&& b) (a &&& c) (lt32_and ha) (lt32_and ha)
 have h5:=u32_xor_nat ((a &&& b) ^^^ (a &&& c)) (b &&& c) (lt32_xor (lt32_and ha) (lt32_and ha)) (lt32_and hb)
 rw [←h5,←h4,←h3,←h2,←h1]
theorem t1_eq (a b c d:Nat) {e f g h k w:Nat} (he:e<4294967296) (hf:f<4294967296) (hg:g<4294967296) (hh:h<4294967296) (hk:k<4294967296) (hw:w<4294967296) :
  ((((h:Int)+((triI e 6 11 25:Nat):Int)+bits BinOp.xor IntKind.u32 (bits BinOp.and IntKind.u32 (e:Int) (f:Int)) (bits BinOp.and IntKind.u32 (bits BinOp.xor IntKind.u32 4294967295 (e:Int)) (g:Int))+(k:Int)) % 4294967296+(w:Int)) % 4294967296)=((t1 ⟨a,b,c,d,e,f,g,h⟩ k w:Nat):Int):=by
 rw [ch_eq he hf hg]
 unfold t1
 show _=((((((h+tri e 6 11 25) % 4294967296+((e &&& f) ^^^ ((4294967295 ^^^ e) &&& g))) % 4294967296+k) % 4294967296+w) % 4294967296:Nat):Int)
 have e1:triI e 6 11 25=tri e 6 11 25:=rfl
 rw [e1]
 generalize tri e 6 11 25=p
 generalize ((e &&& f) ^^^ ((4294967295 ^^^ e) &&& g))=q
 omega
theorem kl_lt:∀ t,t<64→KL.getD t 0<4294967296:=by decide
theorem st_info (s:StS):(Tryd.prog.info? 83).map (·.size)=some (nums .u32 s.list).size:=by rw [nums_size];kernel_rfl
theorem begun (w:World) (s:StS):∃ W,W=(w.alloc (.cells (nums .u32 s.list) 83)).alloc (.cells #[Value.int IntKind.u32 0,Value.int IntKind.u32 0,Value.int IntKind.u32 0,Value.int IntKind.u32 0,Value.int IntKind.u32 0,Value.int IntKind.u32 0,Value.int IntKind.u32 0,Value.int IntKind.u32 0] 83)∧Row .u32 83 W w.heap.size s.list∧Holds W (w.heap.size+1) 83 #[Value.int IntKind.u32 0,Value.int IntKind.u32 0,Value.int IntKind.u32 0,Value.int IntKind.u32 0,Value.int IntKind.u32 0,Value.int IntKind.u32 0,Value.int IntKind.u32 0,Value.int IntKind.u32 0]∧Below w.heap.size w W∧W.heap.size=w.heap.size+2:=by
 refine ⟨_,rfl,(Holds.fresh w 83 (nums .u32 s.list)).alloc _,?_,((Below.refl _ _).alloc (Nat.le_refl _) _).alloc (by simp) _,by simp⟩
 have h:=Holds.fresh (w.alloc (.cells (nums .u32 s.list) 83)) 83 #[Value.int IntKind.u32 0,Value.int IntKind.u32 0,Value.int IntKind.u32 0,Value.int IntKind.u32 0,Value.int IntKind.u32 0,Value.int IntKind.u32 0,Value.int IntKind.u32 0,Value.int IntKind.u32 0]
 rwa [show (w.alloc (.cells (nums .u32 s.list) 83)).heap.size=w.heap.size+1 by simp] at h
theorem one8 (x1 x2 x3 x4 x5 x6 x7 x8:Int):(#[.int .u32 x1,.int .u32 x2,.int .u32 x3,.int .u32 x4,.int .u32 x5,.int .u32 x6,.int .u32 x7,.int .u32 x8]:Array Value).all (·.oneCell')=true:=by simp [Value.oneCell']
theorem size8 (S:StS):(nums .u32 S.list).size=8:=by rw [nums_size];rfl
theorem holds_setRow {w:World} {k g:Nat} {T:TypeId} {cs:Array Value} (h:Holds w k T cs) (hne:k≠g) (x:Array Value):Holds (w.setRow g x) k T cs:=by
 have h':w.heap[k]?=some (.cells cs T (0,0)):=h
 show (w.heap.modify g _)[k]?=_
 rw [Array.getElem?_modify,if_neg (fun e=>hne e.symm)]
 exact h'
theorem plus_at (s t:StS):∀ k,k<8→(s.plus t).list.getD k 0=(s.list.getD k 0+t.list.getD k 0) % 4294967296:=by
 intro k hk
 rcases (by omega:k=0∨k=1∨k=2∨k=3∨k=4∨k=5∨k=6∨k=7) with rfl | rfl | rfl | rfl | rfl | rfl | rfl | rfl <;> rfl
theorem t2_eq {a b c:Nat} (d e f g h:Nat) (ha:a<4294967296) (hb:b<4294967296) (hc:c<4294967296) :
  (((triI a 2 13 22:Nat):Int)+bits BinOp.xor IntKind.u32 (bits BinOp.xor IntKind.u32 (bits BinOp.and IntKind.u32 (a:Int) (b:Int)) (bits BinOp.and IntKind.u32 (a:Int) (c:Int))) (bits BinOp.and IntKind.u32 (b:Int) (c:Int))) % 4294967296=((t2 ⟨a,b,c,d,e,f,g,h⟩:Nat):Int):=by
 rw [maj_eq ha hb hc]
 unfold t2
 show _=(((tri a 2 13 22+((a &&& b) ^^^ (a &&& c) ^^^ (b &&& c))) % 4294967296:Nat):Int)
 have e1:triI a 2 13 22=tri a 2 13 22:=rfl
 rw [e1]
 generalize tri a 2 13 22=p
 generalize ((a &&& b) ^^^ (a &&& c) ^^^ (b &&& c))=q
 omega
def RelP (s S:StS) (w:World) (g6:Nat) (i:Value) (wr:World):Prop :=
 ∃ (k:Nat) (L:List Nat),k≤8∧i = .int .i64 k∧Row .u32 83 wr w.heap.size L∧L.length=8∧Hid (∀ j,j<8→L.getD j 0=if j<k then (s.plus S).list.getD j 0 else s.list.getD j 0)∧Row .u32 83 wr g6 S.list∧Holds wr (w.heap.size+1) 83 #[Value.int IntKind.u32 0,Value.int IntKind.u32 0,Value.int IntKind.u32 0,Value.int IntKind.u32 0,Value.int IntKind.u32 0,Value.int IntKind.u32 0,Value.int IntKind.u32 0,Value.int IntKind.u32 0]∧Below w.heap.size w wr
theorem plus_store {s S:StS} {w wr:World} {g6 k:Nat} {L:List Nat} {x:Nat} (hrow:Row .u32 83 wr w.heap.size L) (hL:L.length=8) (HL:∀ j,j<8→L.getD j 0=if j<k then (s.plus S).list.getD j 0 else s.list.getD j 0) (hS:Row .u32 83 wr g6 S.list) (hres:Holds wr (w.heap.size+1) 83 #[Value.int IntKind.u32 0,Value.int IntKind.u32 0,Value.int IntKind.u32 0,Value.int IntKind.u32 0,Value.int IntKind.u32 0,Value.int IntKind.u32 0,Value.int IntKind.u32 0,Value.int IntKind.u32 0]) (hb:Below w.heap.size w wr) (hk:k<8) (hg:w.heap.size+1<g6)
  (hx:x=(s.plus S).list.getD k 0):RelP s S w g6 (.int .i64 ((k:Int)+1)) ((wr.setCell ⟨w.heap.size,k,none⟩ (.int .u32 (x:Int))).drewN 1):=by
 have hgr:wr.grownBy ((wr.setCell ⟨w.heap.size,k,none⟩ (.int .u32 (x:Int))).drewN 1) (some w.heap.size):=one_drewN (one_setCell (World.grownBy.refl wr (some w.heap.size)) k _) 1
 have hlow:=one_below hgr (Nat.le_refl _) hb.size
 refine ⟨k+1,L.set k x,by omega,by go_num,(hrow.set k x).drewN 1,by rw [List.length_set];exact hL,lH (fun j hj=>?_),Holds.grown hS hgr (by intro e;injection e;omega),Holds.grown hres hgr (by intro e;injection e;omega),hb.trans hlow⟩
 by_cases e:j=k
 ·subst e
  rw [if_pos (by omega),←hx]
  simp [List.getD,hL,hj]
 ·have e2:(L.set k x).getD j 0=L.getD j 0:=by rw [List.getD,List.getElem?_set_ne (by omega),←List.getD]
  rw [e2,HL j hj]
  by_cases c:j<k
  ·rw [if_pos c,if_pos (by omega)]
  ·rw [if_neg c,if_neg (by omega)]
end Go.Proofs.YtflfdglpljodbaaDoor
namespace Go.Proofs.YtflfdglpljodbaaDoor
open Go.RowKit
attribute [local go_sem ↓] Go.wp_at_zero Go.wp_at_succ
theorem k64:(#[Value.int IntKind.u32 1116352408,Value.int IntKind.u32 1899447441,Value.int IntKind.u32 3049323471,Value.int IntKind.u32 3921009573,Value.int IntKind.u32 961987163,Value.int IntKind.u32 1508970993,Value.int IntKind.u32 2453635748,Value.int IntKind.u32 2870763221,Value.int IntKind.u32 3624381080,Value.int IntKind.u32 310598401,Value.int IntKind.u32 607225278,Value.int IntKind.u32 1426881987,Value.int IntKind.u32 1925078388,Value.int IntKind.u32 2162078206,Value.int IntKind.u32 2614888103,Value.int IntKind.u32 3248222580,Value.int IntKind.u32 3835390401,Value.int IntKind.u32 4022224774,Value.int IntKind.u32 264347078,Value.int IntKind.u32 604807628,Value.int IntKind.u32 770255983,Value.int IntKind.u32 1249150122,Value.int IntKind.u32 1555081692,Value.int IntKind.u32 1996064986,Value.int IntKind.u32 2554220882,Value.int IntKind.u32 2821834349,Value.int IntKind.u32 2952996808,Value.int IntKind.u32 3210313671,Value.int IntKind.u32 3336571891,Value.int IntKind.u32 3584528711,Value.int IntKind.u32 113926993,Value.int IntKind.u32 338241895,Value.int IntKind.u32 666307205,Value.int IntKind.u32 773529912,Value.int IntKind.u32 1294757372,Value.int IntKind.u32 1396182291,Value.int IntKind.u32 1695183700,Value.int IntKind.u32 1986661051,Value.int IntKind.u32 2177026350,Value.int IntKind.u32 2456956037,Value.int IntKind.u32 2730485921,Value.int IntKind.u32 2820302411,Value.int IntKind.u32 3259730800,Value.int IntKind.u32 3345764771,Value.int IntKind.u32 3516065817,Value.int IntKind.u32 3600352804,Value.int IntKind.u32 4094571909,Value.int IntKind.u32 275423344,Value.int IntKind.u32 430227734,Value.int IntKind.u32 506948616,Value.int IntKind.u32 659060556,Value.int IntKind.u32 883997877,Value.int IntKind.u32 958139571,Value.int IntKind.u32 1322822218,Value.int IntKind.u32 1537002063,Value.int IntKind.u32 1747873779,Value.int IntKind.u32 1955562222,Value.int IntKind.u32 2024104815,Value.int IntKind.u32 2227730452,Value.int IntKind.u32 2361852424,Value.int IntKind.u32 2428436474,Value.int IntKind.u32 2756734187,Value.int IntKind.u32 3204031479,Value.int IntKind.u32 3329325298]:Array Value)=nums .u32 KL:=rfl
theorem turned_int (w:World) (x:Nat) (z:Int) (hx:x<4294967296) (hz:0≤z∧Turns z.toNat):Calls Tryd.prog 99 #[.int .u32 (x:Int),.int .u64 z] w fun e w'=>e = .returned (.int .u32 ((rotI x z:Nat):Int))∧w=w':=by
 obtain ⟨n,rfl⟩:∃ n:Nat,z=(n:Int):=⟨z.toNat,by omega⟩
 exact turned_any w x n hx hz.2
theorem triI_eq {x:Nat} (h:x<4294967296) (n m l:Int):bits .xor .u32 (bits .xor .u32 ((rotI x n:Nat):Int) ((rotI x m:Nat):Int)) ((rotI x l:Nat):Int)=((triI x n m l:Nat):Int):=tri_eq h _ _ _
theorem words'_any (w:World):Calls Tryd.prog 100 #[] w fun e w'=>e = .returned (.agg (nums .u32 KL))∧Below w.heap.size w w':=by
 obtain ⟨W,hW⟩:∃ W,W=w.alloc (.cells #[Value.int IntKind.u32 0,Value.int IntKind.u32 0,Value.int IntKind.u32 0,Value.int IntKind.u32 0,Value.int IntKind.u32 0,Value.int IntKind.u32 0,Value.int IntKind.u32 0,Value.int IntKind.u32 0,Value.int IntKind.u32 0,Value.int IntKind.u32 0,Value.int IntKind.u32 0,Value.int IntKind.u32 0,Value.int IntKind.u32 0,Value.int IntKind.u32 0,Value.int IntKind.u32 0,Value.int IntKind.u32 0,Value.int IntKind.u32 0,Value.int IntKind.u32 0,Value.int IntKind.u32 0,Value.int IntKind.u32 0,Value.int IntKind.u32 0,Value.int IntKind.u32 0,Value.int IntKind.u32 0,Value.int IntKind.u32 0,Value.int IntKind.u32 0,Value.int IntKind.u32 0,Value.int IntKind.u32 0,Value.int IntKind.u32 0,Value.int IntKind.u32 0,Value.int IntKind.u32 0,Value.int IntKind.u32 0,Value.int IntKind.u32 0,Value.int IntKind.u32 0,Value.int IntKind.u32 0,Value.int IntKind.u32 0,Value.int IntKind.u32 0,Value.int IntKind.u32 0,Value.int IntKind.u32 0,Value.int IntKind.u32 0,Value.int IntKind.u32 0,Value.int IntKind.u32 0,Value.int IntKind.u32 0,Value.int IntKind.u32 0,Value.int IntKind.u32 0,Value.int IntKind.u32 0,Value.int IntKind.u32 0,Value.int IntKind.u32 0,Value.int IntKind.u32 0,Value.int IntKind.u32 0,Value.int IntKind.u32 0,Value.int IntKind.u32 0,Value.int IntKind.u32 0,Value.int IntKind.u32 0,Value.int IntKind.u32 0,Value.int IntKind.u32 0,Value.int IntKind.u32 0,Value.int IntKind.u32 0,Value.int IntKind.u32 0,Value.int IntKind.u32 0,Value.int IntKind.u32 0,Value.int IntKind.u32 0,Value.int IntKind.u32 0,Value.int IntKind.u32 0,Value.int IntKind.u32 0] 98):=⟨_,rfl⟩
 have h5:Holds W w.heap.size 98 #[Value.int IntKind.u32 0,Value.int IntKind.u32 0,Value.int IntKind.u32 0,Value.int IntKind.u32 0,Value.int IntKind.u32 0,Value.int IntKind.u32 0,Value.int IntKind.u32 0,Value.int IntKind.u32 0,Value.int IntKind.u32 0,Value.int IntKind.u32 0,Value.int IntKind.u32 0,Value.int IntKind.u32 0,Value.int IntKind.u32 0,Value.int IntKind.u32 0,Value.int IntKind.u32 0,Value.int IntKind.u32 0,Value.int IntKind.u32 0,Value.int IntKind.u32 0,Value.int IntKind.u32 0,Value.int IntKind.u32 0,Value.int IntKind.u32 0,Value.int IntKind.u32 0,Value.int IntKind.u32 0,Value.int IntKind.u32 0,Value.int IntKind.u32 0,Value.int IntKind.u32 0,Value.int IntKind.u32 0,Value.int IntKind.u32 0,Value.int IntKind.u32 0,Value.int IntKind.u32 0,Value.int IntKind.u32 0,Value.int IntKind.u32 0,Value.int IntKind.u32 0,Value.int IntKind.u32 0,Value.int IntKind.u32 0,Value.int IntKind.u32 0,Value.int IntKind.u32 0,Value.int IntKind.u32 0,Value.int IntKind.u32 0,Value.int IntKind.u32 0,Value.int IntKind.u32 0,Value.int IntKind.u32 0,Value.int IntKind.u32 0,Value.int IntKind.u32 0,Value.int IntKind.u32 0,Value.int IntKind.u32 0,Value.int IntKind.u32 0,Value.int IntKind.u32 0,Value.int IntKind.u32 0,Value.int IntKind.u32 0,Value.int IntKind.u32 0,Value.int IntKind.u32 0,Value.int IntKind.u32 0,Value.int IntKind.u32 0,Value.int IntKind.u32 0,Value.int IntKind.u32 0,Value.int IntKind.u32 0,Value.int IntKind.u32 0,Value.int IntKind.u32 0,Value.int IntKind.u32 0,Value.int IntKind.u32 0,Value.int IntKind.u32 0,Value.int IntKind.u32 0,Value.int IntKind.u32 0]:=by rw [hW];exact Holds.fresh _ _ _
 have hb:Below w.heap.size w W:=by rw [hW];exact (Below.refl _ _).alloc (Nat.le_refl _) _
 have hi:(Tryd.prog.info? 98).map (·.size)=some (nums .u32 KL).size:=by rw [nums_size];kernel_rfl
 have ab:=nums_one .u32 KL
 have hz:(#[Value.int IntKind.u32 0,Value.int IntKind.u32 0,Value.int IntKind.u32 0,Value.int IntKind.u32 0,Value.int IntKind.u32 0,Value.int IntKind.u32 0,Value.int IntKind.u32 0,Value.int IntKind.u32 0,Value.int IntKind.u32 0,Value.int IntKind.u32 0,Value.int IntKind.u32 0,Value.int IntKind.u32 0,Value.int IntKind.u32 0,Value.int IntKind.u32 0,Value.int IntKind.u32 0,Value.int IntKind.u32 0,Value.int IntKind.u32 0,Value.int IntKind.u32 0,Value.int IntKind.u32 0,Value.int IntKind.u32 0,Value.int IntKind.u32 0,Value.int IntKind.u32 0,Value.int IntKind.u32 0,Value.int IntKind.u32 0,Value.int IntKind.u32 0,Value.int IntKind.u32 0,Value.int IntKind.u32 0,Value.int IntKind.u32 0,Value.int IntKind.u32 0,Value.int IntKind.u32 0,Value.int IntKind.u32 0,Value.int IntKind.u32 0,Value.int IntKind.u32 0,Value.int IntKind.u32 0,Value.int IntKind.u32 0,Value.int IntKind.u32 0,Value.int IntKind.u32 0,Value.int IntKind.u32 0,Value.int IntKind.u32 0,Value.int IntKind.u32 0,Value.int IntKind.u32 0,Value.int IntKind.u32 0,Value.int IntKind.u32 0,Value.int IntKind.u32 0,Value.int IntKind.u32 0,Value.int IntKind.u32 0,Value.int IntKind.u32 0,Value.int IntKind.u32 0,Value.int IntKind.u32 0,Value.int IntKind.u32 0,Value.int IntKind.u32 0,Value.int IntKind.u32 0,Value.int IntKind.u32 0,Value.int IntKind.u32 0,Value.int IntKind.u32 0,Value.int IntKind.u32 0,Value.int IntKind.u32 0,Value.int IntKind.u32 0,Value.int IntKind.u32 0,Value.int IntKind.u32 0,Value.int IntKind.u32 0,Value.int IntKind.u32 0,Value.int IntKind.u32 0,Value.int IntKind.u32 0]:Array Value).size=(nums .u32 KL).size:=by rw [nums_size];rfl
 have HW:=lH hW
 have ac:=lH (setRow_heap W w.heap.size _ (nums .u32 KL) 98 (0,0) h5)
 have ae:=lH (below_setRow hb (Nat.le_refl _) (nums .u32 KL))
 clear hW
 go_enter Tryd.func100,Tryd.ntmps100
 go_wp2_with (rw [←HW.out,k64];refine wpList_store_row rfl 98 (.tmp 0) (.tmp 1) rfl (w.heap.size) (nums .u32 KL) rfl rfl 98 (#[Value.int IntKind.u32 0,Value.int IntKind.u32 0,Value.int IntKind.u32 0,Value.int IntKind.u32 0,Value.int IntKind.u32 0,Value.int IntKind.u32 0,Value.int IntKind.u32 0,Value.int IntKind.u32 0,Value.int IntKind.u32 0,Value.int IntKind.u32 0,Value.int IntKind.u32 0,Value.int IntKind.u32 0,Value.int IntKind.u32 0,Value.int IntKind.u32 0,Value.int IntKind.u32 0,Value.int IntKind.u32 0,Value.int IntKind.u32 0,Value.int IntKind.u32 0,Value.int IntKind.u32 0,Value.int IntKind.u32 0,Value.int IntKind.u32 0,Value.int IntKind.u32 0,Value.int IntKind.u32 0,Value.int IntKind.u32 0,Value.int IntKind.u32 0,Value.int IntKind.u32 0,Value.int IntKind.u32 0,Value.int IntKind.u32 0,Value.int IntKind.u32 0,Value.int IntKind.u32 0,Value.int IntKind.u32 0,Value.int IntKind.u32 0,Value.int IntKind.u32 0,Value.int IntKind.u32 0,Value.int IntKind.u32 0,Value.int IntKind.u32 0,Value.int IntKind.u32 0,Value.int IntKind.u32 0,Value.int IntKind.u32 0,Value.int IntKind.u32 0,Value.int IntKind.u32 0,Value.int IntKind.u32 0,Value.int IntKind.u32 0,Value.int IntKind.u32 0,Value.int IntKind.u32 0,Value.int IntKind.u32 0,Value.int IntKind.u32 0,Value.int IntKind.u32 0,Value.int IntKind.u32 0,Value.int IntKind.u32 0,Value.int IntKind.u32 0,Value.int IntKind.u32 0,Value.int IntKind.u32 0,Value.int IntKind.u32 0,Value.int IntKind.u32 0,Value.int IntKind.u32 0,Value.int IntKind.u32 0,Value.int IntKind.u32 0,Value.int IntKind.u32 0,Value.int IntKind.u32 0,Value.int IntKind.u32 0,Value.int IntKind.u32 0,Value.int IntKind.u32 0,Value.int IntKind.u32 0]) h5 hi hz ab ?_)
 exact bodyPost_ret (v:=.agg (nums .u32 KL)) (results_cell_row rfl _ _ w.heap.size 98 (nums .u32 KL) (0,0) _ rfl ac Tryd.underlying98 rfl hi) rfl ⟨rfl,ae⟩
theorem block'_short (w:World) (s:StS) (A:Option Addr) (c n:Nat) (hn:n≠64) :
  Calls Tryd.prog 75 #[.agg (nums .u32 s.list),.slice A n c] w fun e w'=>e = .returned (.agg (nums .u32 s.list))∧Below w.heap.size w w':=by
 have hne:((n:Int) != 64)=true:=by rw [bne_iff_ne];omega
 obtain ⟨W,hW,hrow,hres,hbel,_⟩:=begun w s
 have hi:=st_info s
 have hone:=nums_one .u32 s.list
 have HR:=lH (setRow_heap W (w.heap.size+1) _ (nums .u32 s.list) 83 (0,0) hres)
 have HB:=lH (below_setRow hbel (Nat.le_succ _) (nums .u32 s.list))
 have HW:=lH hW
 clear hW
 go_enter Tryd.func75,Tryd.ntmps75
 go_wp2_with (first
  | (rw [←HW.out];refine wpList_load_row rfl 83 (.tmp 2) rfl (w.heap.size) rfl 83 (nums .u32 s.list) (0,0) _ hrow Tryd.underlying83 rfl hi ?_)
  | (refine wpList_store_row rfl 83 (.tmp 4) (.tmp 21) rfl (w.heap.size+1) (nums .u32 s.list) rfl rfl 83 (#[Value.int IntKind.u32 0,Value.int IntKind.u32 0,Value.int IntKind.u32 0,Value.int IntKind.u32 0,Value.int IntKind.u32 0,Value.int IntKind.u32 0,Value.int IntKind.u32 0,Value.int IntKind.u32 0]) hres hi rfl hone ?_))
 exact bodyPost_ret (v:=.agg (nums .u32 s.list)) (results_cell_row rfl _ _ (w.heap.size+1) 83 (nums .u32 s.list) (0,0) _ rfl HR Tryd.underlying83 rfl hi) rfl ⟨rfl,HB⟩
def WT (s:StS) (l:List Nat) (w:World) (B:Nat) (A:Option Addr) (c k:Nat) (wr:World):Prop :=
 ∃ L:List Nat,Row .u32 98 wr (w.heap.size+2) L∧L.length=64∧Hid (L.take k=sched l k)∧M32 L∧Row .u32 83 wr w.heap.size s.list∧Holds wr (w.heap.size+1) 83 #[Value.int IntKind.u32 0,Value.int IntKind.u32 0,Value.int IntKind.u32 0,Value.int IntKind.u32 0,Value.int IntKind.u32 0,Value.int IntKind.u32 0,Value.int IntKind.u32 0,Value.int IntKind.u32 0]∧Rd .u8 wr B A c l∧Below w.heap.size w wr
def RelWS' (s:StS) (l:List Nat) (w:World) (B:Nat) (A:Option Addr) (c n:Nat) (i:Value) (wr:World):Prop :=
 ∃ k:Nat,k≤n∧i = .int .i64 k∧WT s l w B A c k wr
def RelX' (s:StS) (l:List Nat) (w:World) (B:Nat) (A:Option Addr) (c:Nat) (i:Value) (wr:World):Prop :=
 ∃ k:Nat,16≤k∧k≤64∧i = .int .i64 k∧WT s l w B A c k wr
theorem wt_store {s:StS} {l L:List Nat} {w wr W2:World} {B:Nat} {A:Option Addr} {c k:Nat} {x:Nat} (hrow:Row .u32 98 wr (w.heap.size+2) L) (hL:L.length=64) (HL:L.take k=sched l k) (hm:M32 L) (hR:Row .u32 83 wr w.heap.size s.list) (hres:Holds wr (w.heap.size+1) 83 #[Value.int IntKind.u32 0,Value.int IntKind.u32 0,Value.int IntKind.u32 0,Value.int IntKind.u32 0,Value.int IntKind.u32 0,Value.int IntKind.u32 0,Value.int IntKind.u32 0,Value.int IntKind.u32 0]) (hrd:Rd .u8 wr B A c l) (hb:Below w.heap.size w wr) (hB:B≤w.heap.size) (hk:k<64)
  (V2:World) (hV2:∃ n,V2=wr.drewN n) (hx:x=nextW l L k) (hx32:x<4294967296) (hW2:∃ n,W2=(V2.setCell ⟨w.heap.size+2,k,none⟩ (.int .u32 (x:Int))).drewN n):WT s l w B A c (k+1) W2:=by
 obtain ⟨n,rfl⟩:=hV2
 obtain ⟨m,rfl⟩:=hW2
 have hg:wr.grownBy ((((wr.drewN n).setCell ⟨w.heap.size+2,k,none⟩ (.int .u32 (x:Int)))).drewN m) (some (w.heap.size+2)):=one_drewN (one_setCell (one_drewN (World.grownBy.refl wr (some (w.heap.size+2))) n) k _) m
 have hlow:=one_below hg (by omega:w.heap.size≤w.heap.size+2) hb.size
 exact ⟨L.set k x,Row.set (w:=wr.drewN n) hrow k x,by rw [List.length_set];exact hL,lH (sched_put HL (by omega) x hx),m32_set hm k hx32,Holds.grown hR hg (by intro e;injection e;omega),Holds.grown hres hg (by intro e;injection e;omega),hrd.under (hlow.mono hB),hb.trans hlow⟩
theorem w0_eq {x0 x1 x2 x3:Nat} (z0:x0<256) (z1:x1<256) (z2:x2<256) (z3:x3<256):bits BinOp.or IntKind.u32 (bits BinOp.or IntKind.u32 (bits BinOp.or IntKind.u32 ((x0:Int)*16777216) ((x1:Int)*65536)) ((x2:Int)*256)) (x3:Int)=((((x0*16777216 ||| x1*65536) ||| x2*256) ||| x3:Nat):Int)∧(((x0*16777216 ||| x1*65536) ||| x2*256) ||| x3)<4294967296:=by
 have e1:=u32_or_nat (x0*16777216) (x1*65536) (by omega) (by omega)
 have e2:=u32_or_nat (x0*16777216 ||| x1*65536) (x2*256) (lt32_or (by omega) (by omega)) (by omega)
 have e3:=u32_or_nat ((x0*16777216 ||| x1*65536) ||| x2*256) x3 (lt32_or (lt32_or (by omega) (by omega)) (by omega)) (by omega)
 refine ⟨?_,lt32_or (lt32_or (lt32_or (by omega) (by omega)) (by omega)) (by omega)⟩
 rw [←e3,←e2,←e1,Int.natCast_mul,Int.natCast_mul,Int.natCast_mul]
 rfl
def RelR' (s:StS) (l:List Nat) (w:World) (g5 g6:Nat) (i:Value) (wr:World):Prop :=
 ∃ k:Nat,k≤64∧i = .int .i64 k∧Row .u32 83 wr g6 (rounds6 s (sched l 64) k).list∧Row .u32 98 wr (w.heap.size+2) (sched l 64)∧Row .u32 98 wr g5 KL∧Row .u32 83 wr w.heap.size s.list∧Holds wr (w.heap.size+1) 83 #[Value.int IntKind.u32 0,Value.int IntKind.u32 0,Value.int IntKind.u32 0,Value.int IntKind.u32 0,Value.int IntKind.u32 0,Value.int IntKind.u32 0,Value.int IntKind.u32 0,Value.int IntKind.u32 0]∧Below w.heap.size w wr
theorem block'_full (w:World) (s:StS) (hs:s.Ok) (B:Nat) (A:Option Addr) (c:Nat) (l:List Nat) (hl:l.length=64) (hr:Rd .u8 w B A c l) (hB:B≤w.heap.size) (ho:Oct6 l) :
  Calls Tryd.prog 75 #[.agg (nums .u32 s.list),.slice A 64 c] w fun e w'=>e = .returned (.agg (nums .u32 (blk s l).list))∧Below w.heap.size w w':=by
 have bT:=hr.1
 have hc63:=hr.2.1
 have aT:=lH hl
 have HO:=lH ho
 rw [hl] at bT
 obtain ⟨b,aW,rfl,hb,cD⟩:=hr.2.2 (by omega)
 clear hl cD
 obtain ⟨W,hW,ae,am,aG,bB⟩:=begun w s
 have ay:=hr.under (aG.mono hB)
 have hm:=m32_noughts 64
 have HW:=lH hW
 have cE:=lH bB
 have bn:Below W.heap.size W (W.alloc (.cells #[Value.int IntKind.u32 0,Value.int IntKind.u32 0,Value.int IntKind.u32 0,Value.int IntKind.u32 0,Value.int IntKind.u32 0,Value.int IntKind.u32 0,Value.int IntKind.u32 0,Value.int IntKind.u32 0,Value.int IntKind.u32 0,Value.int IntKind.u32 0,Value.int IntKind.u32 0,Value.int IntKind.u32 0,Value.int IntKind.u32 0,Value.int IntKind.u32 0,Value.int IntKind.u32 0,Value.int IntKind.u32 0,Value.int IntKind.u32 0,Value.int IntKind.u32 0,Value.int IntKind.u32 0,Value.int IntKind.u32 0,Value.int IntKind.u32 0,Value.int IntKind.u32 0,Value.int IntKind.u32 0,Value.int IntKind.u32 0,Value.int IntKind.u32 0,Value.int IntKind.u32 0,Value.int IntKind.u32 0,Value.int IntKind.u32 0,Value.int IntKind.u32 0,Value.int IntKind.u32 0,Value.int IntKind.u32 0,Value.int IntKind.u32 0,Value.int IntKind.u32 0,Value.int IntKind.u32 0,Value.int IntKind.u32 0,Value.int IntKind.u32 0,Value.int IntKind.u32 0,Value.int IntKind.u32 0,Value.int IntKind.u32 0,Value.int IntKind.u32 0,Value.int IntKind.u32 0,Value.int IntKind.u32 0,Value.int IntKind.u32 0,Value.int IntKind.u32 0,Value.int IntKind.u32 0,Value.int IntKind.u32 0,Value.int IntKind.u32 0,Value.int IntKind.u32 0,Value.int IntKind.u32 0,Value.int IntKind.u32 0,Value.int IntKind.u32 0,Value.int IntKind.u32 0,Value.int IntKind.u32 0,Value.int IntKind.u32 0,Value.int IntKind.u32 0,Value.int IntKind.u32 0,Value.int IntKind.u32 0,Value.int IntKind.u32 0,Value.int IntKind.u32 0,Value.int IntKind.u32 0,Value.int IntKind.u32 0,Value.int IntKind.u32 0,Value.int IntKind.u32 0,Value.int IntKind.u32 0] 98)):=(Below.refl _ _).alloc (Nat.le_refl _) _
 have bH:Row .u32 98 (W.alloc (.cells #[Value.int IntKind.u32 0,Value.int IntKind.u32 0,Value.int IntKind.u32 0,Value.int IntKind.u32 0,Value.int IntKind.u32 0,Value.int IntKind.u32 0,Value.int IntKind.u32 0,Value.int IntKind.u32 0,Value.int IntKind.u32 0,Value.int IntKind.u32 0,Value.int IntKind.u32 0,Value.int IntKind.u32 0,Value.int IntKind.u32 0,Value.int IntKind.u32 0,Value.int IntKind.u32 0,Value.int IntKind.u32 0,Value.int IntKind.u32 0,Value.int IntKind.u32 0,Value.int IntKind.u32 0,Value.int IntKind.u32 0,Value.int IntKind.u32 0,Value.int IntKind.u32 0,Value.int IntKind.u32 0,Value.int IntKind.u32 0,Value.int IntKind.u32 0,Value.int IntKind.u32 0,Value.int IntKind.u32 0,Value.int IntKind.u32 0,Value.int IntKind.u32 0,Value.int IntKind.u32 0,Value.int IntKind.u32 0,Value.int IntKind.u32 0,Value.int IntKind.u32 0,Value.int IntKind.u32 0,Value.int IntKind.u32 0,Value.int IntKind.u32 0,Value.int IntKind.u32 0,Value.int IntKind.u32 0,Value.int IntKind.u32 0,Value.int IntKind.u32 0,Value.int IntKind.u32 0,Value.int IntKind.u32 0,Value.int IntKind.u32 0,Value.int IntKind.u32 0,Value.int IntKind.u32 0,Value.int IntKind.u32 0,Value.int IntKind.u32 0,Value.int IntKind.u32 0,Value.int IntKind.u32 0,Value.int IntKind.u32 0,Value.int IntKind.u32 0,Value.int IntKind.u32 0,Value.int IntKind.u32 0,Value.int IntKind.u32 0,Value.int IntKind.u32 0,Value.int IntKind.u32 0,Value.int IntKind.u32 0,Value.int IntKind.u32 0,Value.int IntKind.u32 0,Value.int IntKind.u32 0,Value.int IntKind.u32 0,Value.int IntKind.u32 0,Value.int IntKind.u32 0,Value.int IntKind.u32 0] 98)) (w.heap.size+2) (List.replicate 64 0):=by rw [←bB];exact Holds.fresh _ _ _
 have ax:WT s l w B (some ⟨b,aW,none⟩) c 0 (W.alloc (.cells #[Value.int IntKind.u32 0,Value.int IntKind.u32 0,Value.int IntKind.u32 0,Value.int IntKind.u32 0,Value.int IntKind.u32 0,Value.int IntKind.u32 0,Value.int IntKind.u32 0,Value.int IntKind.u32 0,Value.int IntKind.u32 0,Value.int IntKind.u32 0,Value.int IntKind.u32 0,Value.int IntKind.u32 0,Value.int IntKind.u32 0,Value.int IntKind.u32 0,Value.int IntKind.u32 0,Value.int IntKind.u32 0,Value.int IntKind.u32 0,Value.int IntKind.u32 0,Value.int IntKind.u32 0,Value.int IntKind.u32 0,Value.int IntKind.u32 0,Value.int IntKind.u32 0,Value.int IntKind.u32 0,Value.int IntKind.u32 0,Value.int IntKind.u32 0,Value.int IntKind.u32 0,Value.int IntKind.u32 0,Value.int IntKind.u32 0,Value.int IntKind.u32 0,Value.int IntKind.u32 0,Value.int IntKind.u32 0,Value.int IntKind.u32 0,Value.int IntKind.u32 0,Value.int IntKind.u32 0,Value.int IntKind.u32 0,Value.int IntKind.u32 0,Value.int IntKind.u32 0,Value.int IntKind.u32 0,Value.int IntKind.u32 0,Value.int IntKind.u32 0,Value.int IntKind.u32 0,Value.int IntKind.u32 0,Value.int IntKind.u32 0,Value.int IntKind.u32 0,Value.int IntKind.u32 0,Value.int IntKind.u32 0,Value.int IntKind.u32 0,Value.int IntKind.u32 0,Value.int IntKind.u32 0,Value.int IntKind.u32 0,Value.int IntKind.u32 0,Value.int IntKind.u32 0,Value.int IntKind.u32 0,Value.int IntKind.u32 0,Value.int IntKind.u32 0,Value.int IntKind.u32 0,Value.int IntKind.u32 0,Value.int IntKind.u32 0,Value.int IntKind.u32 0,Value.int IntKind.u32 0,Value.int IntKind.u32 0,Value.int IntKind.u32 0,Value.int IntKind.u32 0,Value.int IntKind.u32 0] 98)):=⟨_,bH,List.length_replicate,lH rfl,hm,Holds.alloc ae _,Holds.alloc am _,ay.under (bn.mono (by omega)),aG.trans (bn.mono aG.size)⟩
 clear hW bB hr ae am ay aG hm bn bH
 go_enter Tryd.func75,Tryd.ntmps75
 go_wp2_with fail
 rw [←HW.out]
 clear HW cE
 generalize W.alloc _=W2 at *
 go_loopw [6] (fun i wr=>RelWS' s l w B (some ⟨b,aW,none⟩) c 16 i wr) (fun i _=>16 - (intOf i).toNat)
 case atStart=>exact ⟨0,Nat.zero_le _,rfl,ax⟩
 case round =>
  clear ax
  obtain ⟨k,hk,rfl,ax⟩:=hrel
  obtain ⟨V,hV⟩:∃ V,V=wr:=⟨_,rfl⟩
  subst hV
  by_cases hkn:k<16
  case pos =>
   obtain ⟨L,ae,hL,HL,hm,hR,am,ay,aw⟩:=ax
   obtain ⟨b2,off2,e2,bn,hc⟩:=ay.2.2 (by have:=aT.out;omega)
   injection e2 with e2
   injection e2 with e3 e4
   subst e3 e4
   have c0:=hc (4*k) (by have:=aT.out;omega)
   have c1:=hc (4*k+1) (by have:=aT.out;omega)
   have c2:=hc (4*k+2) (by have:=aT.out;omega)
   have c3:=hc (4*k+3) (by have:=aT.out;omega)
   have HX:Hid (((l.getD (4*k) 0*16777216 ||| l.getD (4*k+1) 0*65536) ||| l.getD (4*k+2) 0*256) ||| l.getD (4*k+3) 0=nextW l L k):=lH (by rw [nextW,if_pos hkn,w0])
   have z0:=HO.out (4*k)
   have z1:=HO.out (4*k+1)
   have z2:=HO.out (4*k+2)
   have z3:=HO.out (4*k+3)
   have HS:=lH (fun x W2=>wt_store (x:=x) (W2:=W2) ae hL HL hm hR am ay aw hB (by omega:k<64) V ⟨0,rfl⟩)
   have hw:=ae.cell (i:=k) (by omega)
   have bD:=ae.open_ k
   generalize l.getD (4*k) 0=x0 at *
   generalize l.getD (4*k+1) 0=x1 at *
   generalize l.getD (4*k+2) 0=x2 at *
   generalize l.getD (4*k+3) 0=x3 at *
   have k0:(0:Int)≤(k:Int):=by omega
   have bz:(k:Int)<64:=by omega
   have g0:(0:Int)≤4*(k:Int):=by omega
   have g0':4*(k:Int)<64:=by omega
   have g1:(0:Int)≤4*(k:Int)+1:=by omega
   have g1':4*(k:Int)+1<64:=by omega
   have g2:(0:Int)≤4*(k:Int)+2:=by omega
   have g2':4*(k:Int)+2<64:=by omega
   have g3:(0:Int)≤4*(k:Int)+3:=by omega
   have g3':4*(k:Int)+3<64:=by omega
   clear hc ae hR am ay aw hm
   go_wp2_with fail
   go_region
   obtain ⟨E,bL⟩:=w0_eq z0 z1 z2 z3
   have bd:WT s l w B (some ⟨b,aW,none⟩) c (k+1) (V.setCell ⟨w.heap.size+2,k,none⟩ (.int .u32 (bits BinOp.or IntKind.u32 (bits BinOp.or IntKind.u32 (bits BinOp.or IntKind.u32 ((x0:Int)*16777216) ((x1:Int)*65536)) ((x2:Int)*256)) (x3:Int)))).drew :=
    HS _ _ HX bL ⟨1,by rw [E];rfl⟩
   generalize World.drew _=V2 at bd ⊢
   clear E bL HS HX c0 c1 c2 c3 hw bD g0 g0' g1 g1' g2 g2' g3 g3' bz hL HL
   go_wp2_with fail
   go_roundw
   case rel=>exact ⟨k+1,by omega,by go_num,bd⟩
   case measure=>simp [intOf];omega
  case neg =>
   have aF:k=16:=by omega
   have aO:WT s l w B (some ⟨b,aW,none⟩) c 16 V:=aF ▸ ax
   have aA:((k:Nat):Int)=16:=by omega
   clear ax aF
   rw [aA]
   clear aA
   go_wp2_with fail
   go_loopw [7] (fun i wr=>RelX' s l w B (some ⟨b,aW,none⟩) c i wr) (fun i _=>64 - (intOf i).toNat)
   case atStart=>exact ⟨16,by omega,by omega,rfl,aO⟩
   case round =>
    clear aO
    obtain ⟨k,aF,hk,rfl,ax⟩:=hrel
    obtain ⟨V,hV⟩:∃ V,V=wr:=⟨_,rfl⟩
    subst hV
    by_cases hkn:k<64
    case pos =>
     obtain ⟨L,ae,hL,HL,hm,hR,am,ay,aw⟩:=ax
     have cH:=ae.cell (i:=k - 16) (by omega)
     have cF:=ae.cell (i:=k - 15) (by omega)
     have c7:=ae.cell (i:=k - 7) (by omega)
     have c2:=ae.cell (i:=k - 2) (by omega)
     have z16:=hm (k - 16)
     have aR:=hm (k - 15)
     have z7:=hm (k - 7)
     have z2:=hm (k - 2)
     have ck:=ae.cell (i:=k) (by omega)
     have cf:=ae.open_ k
     have HX:Hid ((((L.getD (k - 16) 0+sg0 (L.getD (k - 15) 0)) % 4294967296+L.getD (k - 7) 0) % 4294967296+sg1 (L.getD (k - 2) 0)) % 4294967296=nextW l L k):=lH (by rw [nextW,if_neg (by omega)])
     have HS:=lH (fun x V2 hV2 W2=>wt_store (x:=x) (W2:=W2) ae hL HL hm hR am ay aw hB hkn V2 hV2)
     generalize L.getD (k - 16) 0=x16 at *
     generalize L.getD (k - 15) 0=x15 at *
     generalize L.getD (k - 7) 0=x7 at *
     generalize L.getD (k - 2) 0=x2 at *
     have k0:(0:Int)≤(k:Int):=by omega
     have bS:(16:Int)≤(k:Int):=by omega
     have cl:(15:Int)≤(k:Int):=by omega
     have g7:(7:Int)≤(k:Int):=by omega
     have g2:(2:Int)≤(k:Int):=by omega
     have bz:(k:Int)<64:=by omega
     have bY:(k:Int) - 16<64:=by omega
     have bU:(k:Int) - 15<64:=by omega
     have f7:(k:Int) - 7<64:=by omega
     have f2:(k:Int) - 2<64:=by omega
     have e16:((k:Int) - 16).toNat=k - 16:=by omega
     have cC:((k:Int) - 15).toNat=k - 15:=by omega
     have e7:((k:Int) - 7).toNat=k - 7:=by omega
     have e2:((k:Int) - 2).toNat=k - 2:=by omega
     have b_:IntKind.i64.wrap ((k:Int) - 15)=(k:Int) - 15:=IntWalk.i64_in _ (by omega)
     have q2:IntKind.i64.wrap ((k:Int) - 2)=(k:Int) - 2:=IntWalk.i64_in _ (by omega)
     have q7:IntKind.i64.wrap ((k:Int) - 7)=(k:Int) - 7:=IntWalk.i64_in _ (by omega)
     have q16:IntKind.i64.wrap ((k:Int) - 16)=(k:Int) - 16:=IntWalk.i64_in _ (by omega)
     clear ae hR am ay aw hm
     go_wp2_with fail
     go_quiet (fail)
     change (V.drewN nq).cell? _=_ at cH c7 ck
     change (V.drewN nq).frozen? _=_ at cf
     have bA:Hid (∃ n,V.drewN nq=V.drewN n):=lH ⟨nq,rfl⟩
     generalize V.drewN nq=V2 at *
     have br:=turned_int V2.drew x15 7 aR (by decide)
     have bm:=turned_int V2.drew x15 18 aR (by decide)
     have bt:=turned_int V2.drew x2 17 z2 (by decide)
     have bk:=turned_int V2.drew x2 19 z2 (by decide)
     have br:=br.mono fun e w' h=>(⟨h.1,h.2.symm⟩:e = .returned (.int .u32 ((rotI x15 7:Nat):Int))∧w'=V2.drew)
     have bm:=bm.mono fun e w' h=>(⟨h.1,h.2.symm⟩:e = .returned (.int .u32 ((rotI x15 18:Nat):Int))∧w'=V2.drew)
     have bt:=bt.mono fun e w' h=>(⟨h.1,h.2.symm⟩:e = .returned (.int .u32 ((rotI x2 17:Nat):Int))∧w'=V2.drew)
     have bk:=bk.mono fun e w' h=>(⟨h.1,h.2.symm⟩:e = .returned (.int .u32 ((rotI x2 19:Nat):Int))∧w'=V2.drew)
     have H1:=lH br
     have H2:=lH bm
     have H3:=lH bt
     have H4:=lH bk
     clear br bm bt bk cF c2
     go_wp2_with fail
     go_still_tail 29,(by kernel_rfl)
     still_call H1.out
     repeat still_step
     still_call H2.out
     repeat still_step
     still_call H3.out
     repeat still_step
     still_call H4.out
     repeat still_step
     refine wpStill_nil ?_
     change wpList _ _ _ _ _ V2.drew
     have E0:bits BinOp.xor IntKind.u32 (bits BinOp.xor IntKind.u32 ((rotI x15 7:Nat):Int) ((rotI x15 18:Nat):Int)) ((x15:Int) / 8)=((sg0 x15:Nat):Int):=xor3 (rot_lt aR 7) (rot_lt aR 18) aR 8
     have E1:bits BinOp.xor IntKind.u32 (bits BinOp.xor IntKind.u32 ((rotI x2 17:Nat):Int) ((rotI x2 19:Nat):Int)) ((x2:Int) / 1024)=((sg1 x2:Nat):Int):=xor3 (rot_lt z2 17) (rot_lt z2 19) z2 1024
     rw [E0,E1]
     have y0:=sg0_lt aR
     have y1:=sg1_lt z2
     clear E0 E1 H1 H2 H3 H4
     generalize sg0 x15=s0 at *
     generalize sg1 x2=s1 at *
     change V2.drew.cell? _=_ at ck
     change V2.drew.frozen? _=_ at cf
     replace bA:Hid (∃ n,V2.drew=V.drewN n):=lH (by obtain ⟨n,h⟩:=bA.out;exact ⟨n+1,by rw [h];rfl⟩)
     generalize V2.drew=V3 at *
     have cB:Hid (((x16:Int)+(s0:Int)+(x7:Int)+(s1:Int)) % 4294967296=(((((x16+s0) % 4294967296+x7) % 4294967296+s1) % 4294967296:Nat):Int)):=lH (by omega)
     clear bS cl g7 g2 bY bU f7 f2 cC e2 b_ q2
     go_wp2_with fail
     go_roundw
     case rel =>
      refine ⟨k+1,by omega,by omega,by go_num,HS _ V3 bA _ HX (Nat.mod_lt _ (by omega)) ⟨0,?_⟩⟩
      rw [cB.out]
      rfl
     case measure=>simp [intOf];omega
    case neg =>
     have aB:k=64:=by omega
     obtain ⟨L,av,hL,HL,hm,hR,am,ay,aw⟩:=ax
     have bI:Hid (L=sched l 64):=lH (by rw [←aB,←HL.out,List.take_of_length_le (by omega)])
     rw [bI.out] at av
     have aA:((k:Nat):Int)=64:=by omega
     clear HL hm hL bI aB ay aF hk hkn
     rw [aA]
     clear aA k
     have hi:=st_info s
     have bx:=nums_one .u32 s.list
     have aU:(Tryd.prog.info? 98).map (·.size)=some (nums .u32 KL).size:=by rw [nums_size];kernel_rfl
     have az:=nums_one .u32 KL
     have bV:(Tryd.prog.info? 83).map (·.size)=some 8:=by kernel_rfl
     go_wp2_with fail
     refine (words'_any V).mono ?_
     rintro e w1 ⟨rfl,aQ⟩
     have bR:=Holds.lt av
     have aM:=Holds.under hR aQ (by omega)
     have aL:=Holds.under am aQ (by omega)
     have ba:=Holds.under av aQ bR
     have aE:=aw.trans (aQ.mono aw.size)
     have bW:=aQ.size
     clear hR am av aw aQ
     obtain ⟨X2,bl⟩:∃ X,X=w1.alloc (.cells #[Value.int IntKind.u32 0,Value.int IntKind.u32 0,Value.int IntKind.u32 0,Value.int IntKind.u32 0,Value.int IntKind.u32 0,Value.int IntKind.u32 0,Value.int IntKind.u32 0,Value.int IntKind.u32 0,Value.int IntKind.u32 0,Value.int IntKind.u32 0,Value.int IntKind.u32 0,Value.int IntKind.u32 0,Value.int IntKind.u32 0,Value.int IntKind.u32 0,Value.int IntKind.u32 0,Value.int IntKind.u32 0,Value.int IntKind.u32 0,Value.int IntKind.u32 0,Value.int IntKind.u32 0,Value.int IntKind.u32 0,Value.int IntKind.u32 0,Value.int IntKind.u32 0,Value.int IntKind.u32 0,Value.int IntKind.u32 0,Value.int IntKind.u32 0,Value.int IntKind.u32 0,Value.int IntKind.u32 0,Value.int IntKind.u32 0,Value.int IntKind.u32 0,Value.int IntKind.u32 0,Value.int IntKind.u32 0,Value.int IntKind.u32 0,Value.int IntKind.u32 0,Value.int IntKind.u32 0,Value.int IntKind.u32 0,Value.int IntKind.u32 0,Value.int IntKind.u32 0,Value.int IntKind.u32 0,Value.int IntKind.u32 0,Value.int IntKind.u32 0,Value.int IntKind.u32 0,Value.int IntKind.u32 0,Value.int IntKind.u32 0,Value.int IntKind.u32 0,Value.int IntKind.u32 0,Value.int IntKind.u32 0,Value.int IntKind.u32 0,Value.int IntKind.u32 0,Value.int IntKind.u32 0,Value.int IntKind.u32 0,Value.int IntKind.u32 0,Value.int IntKind.u32 0,Value.int IntKind.u32 0,Value.int IntKind.u32 0,Value.int IntKind.u32 0,Value.int IntKind.u32 0,Value.int IntKind.u32 0,Value.int IntKind.u32 0,Value.int IntKind.u32 0,Value.int IntKind.u32 0,Value.int IntKind.u32 0,Value.int IntKind.u32 0,Value.int IntKind.u32 0,Value.int IntKind.u32 0] 98):=⟨_,rfl⟩
     have h5:Holds X2 w1.heap.size 98 #[Value.int IntKind.u32 0,Value.int IntKind.u32 0,Value.int IntKind.u32 0,Value.int IntKind.u32 0,Value.int IntKind.u32 0,Value.int IntKind.u32 0,Value.int IntKind.u32 0,Value.int IntKind.u32 0,Value.int IntKind.u32 0,Value.int IntKind.u32 0,Value.int IntKind.u32 0,Value.int IntKind.u32 0,Value.int IntKind.u32 0,Value.int IntKind.u32 0,Value.int IntKind.u32 0,Value.int IntKind.u32 0,Value.int IntKind.u32 0,Value.int IntKind.u32 0,Value.int IntKind.u32 0,Value.int IntKind.u32 0,Value.int IntKind.u32 0,Value.int IntKind.u32 0,Value.int IntKind.u32 0,Value.int IntKind.u32 0,Value.int IntKind.u32 0,Value.int IntKind.u32 0,Value.int IntKind.u32 0,Value.int IntKind.u32 0,Value.int IntKind.u32 0,Value.int IntKind.u32 0,Value.int IntKind.u32 0,Value.int IntKind.u32 0,Value.int IntKind.u32 0,Value.int IntKind.u32 0,Value.int IntKind.u32 0,Value.int IntKind.u32 0,Value.int IntKind.u32 0,Value.int IntKind.u32 0,Value.int IntKind.u32 0,Value.int IntKind.u32 0,Value.int IntKind.u32 0,Value.int IntKind.u32 0,Value.int IntKind.u32 0,Value.int IntKind.u32 0,Value.int IntKind.u32 0,Value.int IntKind.u32 0,Value.int IntKind.u32 0,Value.int IntKind.u32 0,Value.int IntKind.u32 0,Value.int IntKind.u32 0,Value.int IntKind.u32 0,Value.int IntKind.u32 0,Value.int IntKind.u32 0,Value.int IntKind.u32 0,Value.int IntKind.u32 0,Value.int IntKind.u32 0,Value.int IntKind.u32 0,Value.int IntKind.u32 0,Value.int IntKind.u32 0,Value.int IntKind.u32 0,Value.int IntKind.u32 0,Value.int IntKind.u32 0,Value.int IntKind.u32 0,Value.int IntKind.u32 0]:=by rw [bl];exact Holds.fresh _ _ _
     have aN:X2.setRow w1.heap.size (nums .u32 KL)=w1.alloc (.cells (nums .u32 KL) 98):=by rw [bl];exact World.setRow_alloc_new _ _ _ _
     have a_:(#[Value.int IntKind.u32 0,Value.int IntKind.u32 0,Value.int IntKind.u32 0,Value.int IntKind.u32 0,Value.int IntKind.u32 0,Value.int IntKind.u32 0,Value.int IntKind.u32 0,Value.int IntKind.u32 0,Value.int IntKind.u32 0,Value.int IntKind.u32 0,Value.int IntKind.u32 0,Value.int IntKind.u32 0,Value.int IntKind.u32 0,Value.int IntKind.u32 0,Value.int IntKind.u32 0,Value.int IntKind.u32 0,Value.int IntKind.u32 0,Value.int IntKind.u32 0,Value.int IntKind.u32 0,Value.int IntKind.u32 0,Value.int IntKind.u32 0,Value.int IntKind.u32 0,Value.int IntKind.u32 0,Value.int IntKind.u32 0,Value.int IntKind.u32 0,Value.int IntKind.u32 0,Value.int IntKind.u32 0,Value.int IntKind.u32 0,Value.int IntKind.u32 0,Value.int IntKind.u32 0,Value.int IntKind.u32 0,Value.int IntKind.u32 0,Value.int IntKind.u32 0,Value.int IntKind.u32 0,Value.int IntKind.u32 0,Value.int IntKind.u32 0,Value.int IntKind.u32 0,Value.int IntKind.u32 0,Value.int IntKind.u32 0,Value.int IntKind.u32 0,Value.int IntKind.u32 0,Value.int IntKind.u32 0,Value.int IntKind.u32 0,Value.int IntKind.u32 0,Value.int IntKind.u32 0,Value.int IntKind.u32 0,Value.int IntKind.u32 0,Value.int IntKind.u32 0,Value.int IntKind.u32 0,Value.int IntKind.u32 0,Value.int IntKind.u32 0,Value.int IntKind.u32 0,Value.int IntKind.u32 0,Value.int IntKind.u32 0,Value.int IntKind.u32 0,Value.int IntKind.u32 0,Value.int IntKind.u32 0,Value.int IntKind.u32 0,Value.int IntKind.u32 0,Value.int IntKind.u32 0,Value.int IntKind.u32 0,Value.int IntKind.u32 0,Value.int IntKind.u32 0,Value.int IntKind.u32 0]:Array Value).size=(nums .u32 KL).size:=by rw [nums_size];rfl
     obtain ⟨X3,aK⟩:∃ X,X=w1.alloc (.cells (nums .u32 KL) 98):=⟨_,rfl⟩
     have aC:Row .u32 83 X3 w.heap.size s.list:=by rw [aK];exact Holds.alloc aM _
     have aJ:Holds X3 (w.heap.size+1) 83 #[Value.int IntKind.u32 0,Value.int IntKind.u32 0,Value.int IntKind.u32 0,Value.int IntKind.u32 0,Value.int IntKind.u32 0,Value.int IntKind.u32 0,Value.int IntKind.u32 0,Value.int IntKind.u32 0]:=by rw [aK];exact Holds.alloc aL _
     have aV:Row .u32 98 X3 (w.heap.size+2) (sched l 64):=by rw [aK];exact Holds.alloc ba _
     have a8:Row .u32 98 X3 w1.heap.size KL:=by rw [aK];exact Holds.fresh _ _ _
     have aD:Below w.heap.size w X3:=by rw [aK];exact aE.alloc aE.size _
     have bs:X3.heap.size=w1.heap.size+1:=by rw [aK];simp
     obtain ⟨X4,bf⟩:∃ X,X=X3.alloc (.cells #[Value.int IntKind.u32 0,Value.int IntKind.u32 0,Value.int IntKind.u32 0,Value.int IntKind.u32 0,Value.int IntKind.u32 0,Value.int IntKind.u32 0,Value.int IntKind.u32 0,Value.int IntKind.u32 0] 83):=⟨_,rfl⟩
     have h6:Holds X4 (w1.heap.size+1) 83 #[Value.int IntKind.u32 0,Value.int IntKind.u32 0,Value.int IntKind.u32 0,Value.int IntKind.u32 0,Value.int IntKind.u32 0,Value.int IntKind.u32 0,Value.int IntKind.u32 0,Value.int IntKind.u32 0]:=by rw [bf,←bs];exact Holds.fresh _ _ _
     have aH:X4.setRow (w1.heap.size+1) (nums .u32 s.list)=X3.alloc (.cells (nums .u32 s.list) 83):=by rw [bf,←bs];exact World.setRow_alloc_new _ _ _ _
     have bJ:=lH bl
     have bQ:=lH aK
     have bN:=lH bf
     have bF:=lH aN
     have bM:=lH aH
     have bE:=lH bs
     clear aM aL ba aE bl aK bf aN aH bs
     go_wp2_with (first
      | (rw [←bJ.out];refine wpList_store_row rfl 98 (.tmp 10) (.tmp 102) rfl (w1.heap.size) (nums .u32 KL) rfl rfl 98 (#[Value.int IntKind.u32 0,Value.int IntKind.u32 0,Value.int IntKind.u32 0,Value.int IntKind.u32 0,Value.int IntKind.u32 0,Value.int IntKind.u32 0,Value.int IntKind.u32 0,Value.int IntKind.u32 0,Value.int IntKind.u32 0,Value.int IntKind.u32 0,Value.int IntKind.u32 0,Value.int IntKind.u32 0,Value.int IntKind.u32 0,Value.int IntKind.u32 0,Value.int IntKind.u32 0,Value.int IntKind.u32 0,Value.int IntKind.u32 0,Value.int IntKind.u32 0,Value.int IntKind.u32 0,Value.int IntKind.u32 0,Value.int IntKind.u32 0,Value.int IntKind.u32 0,Value.int IntKind.u32 0,Value.int IntKind.u32 0,Value.int IntKind.u32 0,Value.int IntKind.u32 0,Value.int IntKind.u32 0,Value.int IntKind.u32 0,Value.int IntKind.u32 0,Value.int IntKind.u32 0,Value.int IntKind.u32 0,Value.int IntKind.u32 0,Value.int IntKind.u32 0,Value.int IntKind.u32 0,Value.int IntKind.u32 0,Value.int IntKind.u32 0,Value.int IntKind.u32 0,Value.int IntKind.u32 0,Value.int IntKind.u32 0,Value.int IntKind.u32 0,Value.int IntKind.u32 0,Value.int IntKind.u32 0,Value.int IntKind.u32 0,Value.int IntKind.u32 0,Value.int IntKind.u32 0,Value.int IntKind.u32 0,Value.int IntKind.u32 0,Value.int IntKind.u32 0,Value.int IntKind.u32 0,Value.int IntKind.u32 0,Value.int IntKind.u32 0,Value.int IntKind.u32 0,Value.int IntKind.u32 0,Value.int IntKind.u32 0,Value.int IntKind.u32 0,Value.int IntKind.u32 0,Value.int IntKind.u32 0,Value.int IntKind.u32 0,Value.int IntKind.u32 0,Value.int IntKind.u32 0,Value.int IntKind.u32 0,Value.int IntKind.u32 0,Value.int IntKind.u32 0,Value.int IntKind.u32 0]) h5 aU a_ az ?_;rw [bF.out,←bQ.out])
      | (refine wpList_load_row rfl 83 (.tmp 2) rfl (w.heap.size) rfl 83 (nums .u32 s.list) (0,0) _ aC Tryd.underlying83 rfl hi ?_)
      | (rw [←bN.out,bE.out];refine wpList_store_row rfl 83 (.tmp 11) (.tmp 103) rfl (w1.heap.size+1) (nums .u32 s.list) rfl rfl 83 (#[Value.int IntKind.u32 0,Value.int IntKind.u32 0,Value.int IntKind.u32 0,Value.int IntKind.u32 0,Value.int IntKind.u32 0,Value.int IntKind.u32 0,Value.int IntKind.u32 0,Value.int IntKind.u32 0]) h6 hi rfl bx ?_;rw [bM.out]))
     have ab:Row .u32 83 (X3.alloc (.cells (nums .u32 s.list) 83)) (w1.heap.size+1) s.list:=by rw [←bE.out];exact Holds.fresh _ _ _
     have ai:=Holds.alloc aC (.cells (nums .u32 s.list) 83)
     have ak:=Holds.alloc aJ (.cells (nums .u32 s.list) 83)
     have ao:=Holds.alloc aV (.cells (nums .u32 s.list) 83)
     have au:=Holds.alloc a8 (.cells (nums .u32 s.list) 83)
     have ac:=aD.alloc aD.size (.cells (nums .u32 s.list) 83)
     have hlo:w.heap.size+2<w1.heap.size:=by omega
     generalize X3.alloc (.cells (nums .u32 s.list) 83)=Y at *
     clear aC aJ aV a8 aD bJ bQ bN bF bM bE h5 h6 a_ aU az bR bW
     generalize hg5:w1.heap.size=g5 at *
     clear hg5
     go_loopw [12] (fun i wr=>RelR' s l w g5 (g5+1) i wr) (fun i _=>64 - (intOf i).toNat)
     case atStart=>exact ⟨0,Nat.zero_le _,rfl,ab,ao,au,ai,ak,ac⟩
     case round =>
      clear ab ao au ai ak ac
      obtain ⟨k,hk,rfl,ab,ao,au,ai,ak,ac⟩:=hrel
      obtain ⟨V,hV⟩:∃ V,V=wr:=⟨_,rfl⟩
      subst hV
      by_cases hkn:k<64
      case pos =>
       have bX:=rounds_ok hs (sched l 64) k
       have HN:Hid (rounds6 s (sched l 64) (k+1)=(rounds6 s (sched l 64) k).next (KL.getD k 0) ((sched l 64).getD k 0)):=lH rfl
       have zw:=sched_lt HO 64 k
       have zk:=kl_lt k hkn
       have cw:=ao.cell (i:=k) (by rw [sched_length];exact hkn)
       have ck:=au.cell (i:=k) (by show k<64;exact hkn)
       generalize rounds6 s (sched l 64) k=S at *
       generalize (sched l 64).getD k 0=x at *
       generalize KL.getD k 0=y at *
       obtain ⟨za,zb,zc,zd,ze,zf,zg,zh⟩:=bX
       obtain ⟨a,b',c',d,e,f,g,h⟩:=S
       have c0:V.cell? ⟨g5+1,0,none⟩=some (.int .u32 (a:Int)):=ab.cell (i:=0) (by show 0<8;omega)
       have c1:V.cell? ⟨g5+1,1,none⟩=some (.int .u32 (b':Int)):=ab.cell (i:=1) (by show 1<8;omega)
       have c2:V.cell? ⟨g5+1,2,none⟩=some (.int .u32 (c':Int)):=ab.cell (i:=2) (by show 2<8;omega)
       have c3:V.cell? ⟨g5+1,3,none⟩=some (.int .u32 (d:Int)):=ab.cell (i:=3) (by show 3<8;omega)
       have c4:V.cell? ⟨g5+1,4,none⟩=some (.int .u32 (e:Int)):=ab.cell (i:=4) (by show 4<8;omega)
       have c5:V.cell? ⟨g5+1,5,none⟩=some (.int .u32 (f:Int)):=ab.cell (i:=5) (by show 5<8;omega)
       have c6:V.cell? ⟨g5+1,6,none⟩=some (.int .u32 (g:Int)):=ab.cell (i:=6) (by show 6<8;omega)
       have c7:V.cell? ⟨g5+1,7,none⟩=some (.int .u32 (h:Int)):=ab.cell (i:=7) (by show 7<8;omega)
       dsimp only at za zb zc zd ze zf zg zh
       have k0:(0:Int)≤(k:Int):=by omega
       have bz:(k:Int)<64:=by omega
       have cA:(if IntKind.u32.signed=true then (-1:Int) else IntKind.u32.max)=4294967295:=rfl
       have bG:=lH (fun W z hz=>turned_int W e z ze hz)
       have bO:=lH (fun W z hz=>turned_int W a z za hz)
       replace HN:Hid (rounds6 s (sched l 64) (k+1)=⟨(t1 ⟨a,b',c',d,e,f,g,h⟩ y x+t2 ⟨a,b',c',d,e,f,g,h⟩) % 4294967296,a,b',c',(d+t1 ⟨a,b',c',d,e,f,g,h⟩ y x) % 4294967296,e,f,g⟩):=lH HN.out
       go_wp2_with fail
       go_quiet (fail)
       change (V.drewN nq).cell? _=_ at c0 c1 c2 c3 c4 c5 c6 c7 cw ck
       replace ab:=ab.drewN nq
       replace ao:=ao.drewN nq
       replace au:=au.drewN nq
       replace ai:=ai.drewN nq
       replace ak:=ak.drewN nq
       replace ac:Below w.heap.size w (V.drewN nq):=⟨ac.os,ac.tape,ac.output,ac.size,ac.block⟩
       generalize V.drewN nq=V1 at *
       go_wp2_with fail
       go_quiet ((go_at_call 99;exact quiet_one (fun W=>bG.out W _ (by decide))))
       rw [triI_eq ze 6 11 25,t1_eq a b' c' d ze zf zg zh zk zw]
       have zt1:=t1_lt ⟨a,b',c',d,e,f,g,h⟩ y x
       generalize t1 ⟨a,b',c',d,e,f,g,h⟩ y x=r1 at *
       change (V1.drewN nq).cell? _=_ at c0 c1 c2 c3 c4 c5 c6 c7
       replace ab:=ab.drewN nq
       replace ao:=ao.drewN nq
       replace au:=au.drewN nq
       replace ai:=ai.drewN nq
       replace ak:=ak.drewN nq
       replace ac:Below w.heap.size w (V1.drewN nq):=⟨ac.os,ac.tape,ac.output,ac.size,ac.block⟩
       clear cw ck bG
       generalize V1.drewN nq=V2 at *
       go_wp2_with fail
       go_quiet ((go_at_call 99;exact quiet_one (fun W=>bO.out W _ (by decide))))
       rw [triI_eq za 2 13 22,t2_eq d e f g h za zb zc]
       have zt2:=t2_lt ⟨a,b',c',d,e,f,g,h⟩
       generalize t2 ⟨a,b',c',d,e,f,g,h⟩=r2 at *
       change (V2.drewN nq).cell? _=_ at c0 c1 c2 c3 c4 c5 c6 c7
       replace ab:=ab.drewN nq
       replace ao:=ao.drewN nq
       replace au:=au.drewN nq
       replace ai:=ai.drewN nq
       replace ak:=ak.drewN nq
       replace ac:Below w.heap.size w (V2.drewN nq):=⟨ac.os,ac.tape,ac.output,ac.size,ac.block⟩
       clear bO cA zk zw
       generalize V2.drewN nq=V3 at *
       have HE:Hid ((#[.int .u32 (((r1:Int)+(r2:Int)) % 4294967296),.int .u32 (a:Int),.int .u32 (b':Int),.int .u32 (c':Int),.int .u32 (((d:Int)+(r1:Int)) % 4294967296),.int .u32 (e:Int),.int .u32 (f:Int),.int .u32 (g:Int)]:Array Value)=nums .u32 (rounds6 s (sched l 64) (k+1)).list):=lH (by
        rw [HN.out]
        have e1:((r1:Int)+(r2:Int)) % 4294967296=(((r1+r2) % 4294967296:Nat):Int):=by omega
        have e2:((d:Int)+(r1:Int)) % 4294967296=(((d+r1) % 4294967296:Nat):Int):=by omega
        rw [e1,e2]
        rfl)
       have bP:=one8 (((r1:Int)+(r2:Int)) % 4294967296) a b' c' (((d:Int)+(r1:Int)) % 4294967296) e f g
       have bK:=size8 ⟨a,b',c',d,e,f,g,h⟩
       go_wp2_with (refine wpList_store_row rfl 83 (.tmp 11) (.tmp 183) rfl (g5+1) #[.int .u32 (((r1:Int)+(r2:Int)) % 4294967296),.int .u32 (a:Int),.int .u32 (b':Int),.int .u32 (c':Int),.int .u32 (((d:Int)+(r1:Int)) % 4294967296),.int .u32 (e:Int),.int .u32 (f:Int),.int .u32 (g:Int)] rfl rfl 83 _ ab bV bK bP ?_)
       rw [HE.out]
       have bc:Row .u32 83 (V3.setRow (g5+1) (nums .u32 (rounds6 s (sched l 64) (k+1)).list)) (g5+1) (rounds6 s (sched l 64) (k+1)).list:=setRow_heap _ _ _ _ _ _ ab
       have bv:=holds_setRow ao (show w.heap.size+2≠g5+1 by omega) (nums .u32 (rounds6 s (sched l 64) (k+1)).list)
       have bu:=holds_setRow au (show g5≠g5+1 by omega) (nums .u32 (rounds6 s (sched l 64) (k+1)).list)
       have a6:=holds_setRow ai (show w.heap.size≠g5+1 by omega) (nums .u32 (rounds6 s (sched l 64) (k+1)).list)
       have a9:=holds_setRow ak (show w.heap.size+1≠g5+1 by omega) (nums .u32 (rounds6 s (sched l 64) (k+1)).list)
       have aY:=below_setRow ac (show w.heap.size≤g5+1 by omega) (nums .u32 (rounds6 s (sched l 64) (k+1)).list)
       generalize V3.setRow (g5+1) (nums .u32 (rounds6 s (sched l 64) (k+1)).list)=V4 at *
       clear ab ao au ai ak ac HE HN c0 c1 c2 c3 c4 c5 c6 c7 bP bK
       go_wp2_with fail
       go_roundw
       case rel=>exact ⟨k+1,by omega,by go_num,bc,bv,bu,a6,a9,aY⟩
       case measure=>simp [intOf];omega
      case neg =>
       have aB:k=64:=by omega
       have HB:Hid ((blk s l)=s.plus (rounds6 s (sched l 64) k)):=lH (by rw [blk,if_pos aT.out,aB])
       have aA:((k:Nat):Int)=64:=by omega
       generalize rounds6 s (sched l 64) k=S at *
       clear aB hk hkn ao au
       rw [aA]
       clear aA k
       go_wp2_with fail
       go_loopw [17] (fun i wr=>RelP s S w (g5+1) i wr) (fun i _=>8 - (intOf i).toNat)
       case atStart=>exact ⟨0,s.list,Nat.zero_le _,rfl,ai,rfl,lH (fun j hj=>by rw [if_neg (by omega)]),ab,ak,ac⟩
       case round =>
        clear ai ab ak ac
        obtain ⟨k,L,hk,rfl,ae,hL,HL,ab,am,aw⟩:=hrel
        obtain ⟨V,hV⟩:∃ V,V=wr:=⟨_,rfl⟩
        subst hV
        by_cases hkn:k<8
        case pos =>
         have c1:=ae.cell (i:=k) (by omega)
         have c2:=ab.cell (i:=k) (by show k<8;omega)
         have bD:=ae.open_ k
         have k0:(0:Int)≤(k:Int):=by omega
         have k8:(k:Int)<8:=by omega
         have HX:Hid ((L.getD k 0+S.list.getD k 0) % 4294967296=(s.plus S).list.getD k 0):=lH (by rw [HL.out k hkn,if_neg (by omega)];exact (plus_at s S k hkn).symm)
         have HS:=lH (fun x=>plus_store (x:=x) ae hL HL ab am aw hkn (by omega:w.heap.size+1<g5+1))
         generalize L.getD k 0=x at *
         generalize S.list.getD k 0=y at *
         clear ae ab am aw
         go_wp2_with fail
         go_region
         have E:((x:Int)+(y:Int)) % 4294967296=(((x+y) % 4294967296:Nat):Int):=by omega
         have ax:RelP s S w (g5+1) (.int .i64 ((k:Int)+1)) (V.setCell ⟨w.heap.size,k,none⟩ (.int .u32 (((x:Int)+(y:Int)) % 4294967296))).drew:=by
          rw [E]
          exact HS.out _ HX.out
         generalize World.drew _=V2 at ax ⊢
         clear E HS HX c1 c2 bD HL hL
         go_wp2_with fail
         go_roundw
         case rel=>exact ax
         case measure=>simp [intOf];omega
        case neg =>
         have cG:k=8:=by omega
         have HE:Hid (L=(s.plus S).list):=lH (by
          apply List.ext_getElem (by rw [hL];rfl)
          intro j h1 h2
          have:=HL.out j (by omega)
          rw [if_pos (by omega)] at this
          simpa [List.getD,h1,h2] using this)
         have aA:((k:Nat):Int)=8:=by omega
         have bw:(Tryd.prog.info? 83).map (·.size)=some (nums .u32 L).size:=by rw [nums_size,hL];kernel_rfl
         have aX:=nums_one .u32 L
         have bC:(#[Value.int IntKind.u32 0,Value.int IntKind.u32 0,Value.int IntKind.u32 0,Value.int IntKind.u32 0,Value.int IntKind.u32 0,Value.int IntKind.u32 0,Value.int IntKind.u32 0,Value.int IntKind.u32 0]:Array Value).size=(nums .u32 L).size:=by rw [nums_size,hL];rfl
         have bZ:=lH (setRow_heap V (w.heap.size+1) _ (nums .u32 L) 83 (0,0) am)
         have cJ:=lH (below_setRow aw (Nat.le_succ _) (nums .u32 L))
         clear cG HL hk hkn
         rw [aA]
         clear aA k
         go_wp2_with (first
          | (refine wpList_load_row rfl 83 (.tmp 2) rfl (w.heap.size) rfl 83 (nums .u32 L) (0,0) _ ae Tryd.underlying83 rfl bw ?_)
          | (refine wpList_store_row rfl 83 (.tmp 4) (.tmp 197) rfl (w.heap.size+1) (nums .u32 L) rfl rfl 83 (#[Value.int IntKind.u32 0,Value.int IntKind.u32 0,Value.int IntKind.u32 0,Value.int IntKind.u32 0,Value.int IntKind.u32 0,Value.int IntKind.u32 0,Value.int IntKind.u32 0,Value.int IntKind.u32 0]) am bw bC aX ?_))
         rw [HB.out,←HE.out]
         exact bodyPost_ret (v:=.agg (nums .u32 L)) (results_cell_row rfl _ _ (w.heap.size+1) 83 (nums .u32 L) (0,0) _ rfl bZ Tryd.underlying83 rfl bw) rfl ⟨rfl,cJ⟩
end Go.Proofs.YtflfdglpljodbaaDoor
namespace Go.Proofs.YtflfdglpljodbaaDoor
open Go.RowKit
def Mine (e:TypeId) (w:World) (B:Nat) (A:Option Addr) (c:Nat) (l:List Nat):Prop :=
 (A=none∧c=0∧l=[])∨∃ g off cur,A=some ⟨g,off,none⟩∧B≤g∧w.heap[g]?=some (.cells cur e (0,0))∧l.length≤c∧c≤9223372036854775807∧off+c≤cur.size∧∀ j,j<l.length→cur[off+j]?=some (.int .u8 ((l.getD j 0:Nat):Int))
def blk_of (A:Option Addr):Option Nat:=A.map (·.block)
section
variable {e:TypeId} {w w':World} {B:Nat} {A:Option Addr} {c:Nat} {l:List Nat}
theorem Mine.nil (e:TypeId) (w:World) (B:Nat):Mine e w B none 0 []:=.inl ⟨rfl,rfl,rfl⟩
theorem Mine.rd (h:Mine e w B A c l):Rd .u8 w w.heap.size A c l:=by
 rcases h with ⟨rfl,rfl,rfl⟩ | ⟨g,off,cur,rfl,hB,hg,hl,hc,hs,hx⟩
 ·exact Rd.nil_ _ _ _
 ·exact ⟨hl,hc,fun _=>⟨g,off,rfl,(Array.getElem?_eq_some_iff.1 hg).1,fun j hj=>by rw [cell_of_row w g _ cur e (0,0) hg];exact hx j hj⟩⟩
theorem Mine.le (h:Mine e w B A c l):l.length≤c∧c≤9223372036854775807:=by
 rcases h with ⟨rfl,rfl,rfl⟩ | ⟨g,off,cur,rfl,hB,hg,hl,hc,hs,hx⟩
 ·exact ⟨Nat.le_refl _,by omega⟩
 ·exact ⟨hl,hc⟩
theorem Mine.block (h:Mine e w B A c l) {g:Nat} (hg:blk_of A=some g):B≤g∧g<w.heap.size:=by
 rcases h with ⟨rfl,rfl,rfl⟩ | ⟨g',off,cur,rfl,hB,hg',hl,hc,hs,hx⟩
 ·simp [blk_of] at hg
 ·obtain rfl:g'=g:=by simpa [blk_of] using hg
  exact ⟨hB,(Array.getElem?_eq_some_iff.1 hg').1⟩
theorem Mine.keep (h:Mine e w B A c l) (hk:∀ g,blk_of A=some g→w'.heap[g]?=w.heap[g]?):Mine e w' B A c l:=by
 rcases h with h | ⟨g,off,cur,rfl,hB,hg,rest⟩
 ·exact .inl h
 ·exact .inr ⟨g,off,cur,rfl,hB,(hk g rfl).trans hg,rest⟩
theorem Mine.under (h:Mine e w B A c l) (hb:Below w.heap.size w w'):Mine e w' B A c l:=h.keep fun g hg=>hb.block g (h.block hg).2
theorem Mine.alloc (h:Mine e w B A c l) (o:Obj):Mine e (w.alloc o) B A c l:=h.under ((Below.refl _ _).alloc (Nat.le_refl _) o)
theorem Mine.drewN (h:Mine e w B A c l) (n:Nat):Mine e (w.drewN n) B A c l:=h
theorem Mine.setRow (h:Mine e w B A c l) {g:Nat} (hne:blk_of A≠some g) (x:Array Value):Mine e (w.setRow g x) B A c l:=h.keep fun k hk=>by
 show (w.heap.modify g _)[k]?=_
 rw [Array.getElem?_modify,if_neg (fun e=>hne (by rw [hk,e]))]
theorem Mine.take (h:Mine e w B A c l) (n:Nat):Rd .u8 w w.heap.size A c (l.take n):=h.rd.cut n
theorem Mine.drop (h:Mine e w B A c l) {n:Nat} (hn:n≤l.length) (hn0:0<n):∃ g off,A=some ⟨g,off,none⟩∧Mine e w B (some ⟨g,if c=n then off else off+n,none⟩) (c - n) (l.drop n):=by
 rcases h with ⟨rfl,rfl,rfl⟩ | ⟨g,off,cur,rfl,hB,hg,hl,hc,hs,hx⟩
 ·simp at hn;omega
 ·refine ⟨g,off,rfl,.inr ⟨g,_,cur,rfl,hB,hg,by rw [List.length_drop];omega,by omega,?_,fun j hj=>?_⟩⟩
  ·split <;> omega
  ·rw [List.length_drop] at hj
   have:=hx (n+j) (by omega)
   rw [if_neg (by omega),Nat.add_assoc,this]
   simp [List.getD]
end
def bvals (l:List Nat):List Value:=l.map fun x:Nat=>Value.int .u8 (x:Int)
theorem bvals_length (l:List Nat):(bvals l).length=l.length:=by simp [bvals]
theorem bvals_at (l:List Nat) {i:Nat} (h:i<l.length):(bvals l)[i]?=some (.int .u8 ((l.getD i 0:Nat):Int)):=by simp [bvals,List.getD,h]
theorem bvals_one (l:List Nat):∀ u∈bvals l,u.oneCell'=true:=by
 intro u hu
 obtain ⟨x,_,rfl⟩:=List.mem_map.1 hu
 rfl
theorem src_of_rd {P:Program} {w:World} {B:Nat} {A:Option Addr} {c n:Nat} {l:List Nat} {tx e':TypeId} (hk:P.underlying tx=some (.slice e')) (h:Rd .u8 w B A c l) (hn:l.length=n):Src P 1 tx (.slice A n c) n (bvals l) w:=by
 subst hn
 rcases Nat.eq_zero_or_pos l.length with h0 | h0
 ·obtain rfl:=List.eq_nil_of_length_eq_zero h0
  rcases A with _ | a
  ·exact Src.ofNil w hk c
  ·exact Src.ofSlice w hk a 0 c [] rfl (fun j u hj=>by simp at hj) (fun u hu=>by cases hu)
 ·obtain ⟨b,off,rfl,hb,hc⟩:=h.2.2 h0
  refine Src.ofSlice w hk ⟨b,off,none⟩ l.length c (bvals l) (by rw [bvals_length,Nat.mul_one]) (fun j u hj=>?_) (bvals_one l)
  have hj':j<l.length:=by have:=(List.getElem?_eq_some_iff.1 hj).1;rwa [bvals_length] at this
  rw [Addr.add_lit,hc j hj',←bvals_at l hj',hj]
theorem setCells_heap {g:Nat} {e:TypeId}:∀ (vs:List Value) (o:Nat) (w:World) (cur:Array Value),w.heap[g]?=some (.cells cur e (0,0))→o+vs.length≤cur.size →
  ∃ cur',(w.setCells g o vs).heap[g]?=some (.cells cur' e (0,0))∧cur'.size=cur.size∧(∀ j,j<o→cur'[j]?=cur[j]?)∧∀ j,j<vs.length→cur'[o+j]?=vs[j]?
 | [],o,w,cur,h,_=>⟨cur,h,rfl,fun j _=>rfl,fun j hj=>by simp at hj⟩
 | v :: vs,o,w,cur,h,hs=>by
  simp only [List.length_cons] at hs
  have h1:(w.setCell ⟨g,o,none⟩ v).heap[g]?=some (.cells (cur.setIfInBounds o v) e (0,0)):=by
   simp [World.setCell,Array.getElem?_modify,h]
  obtain ⟨cur',a1,a2,a3,a4⟩:=setCells_heap vs (o+1) (w.setCell ⟨g,o,none⟩ v) (cur.setIfInBounds o v) h1 (by simp;omega)
  refine ⟨cur',a1,by rw [a2];simp,fun j hj=>?_,fun j hj=>?_⟩
  ·rw [a3 j (by omega),Array.getElem?_setIfInBounds,if_neg (by omega)]
  ·rcases j with _ | j
   ·rw [Nat.add_zero,a3 o (by omega),Array.getElem?_setIfInBounds,if_pos rfl,if_pos (by omega)]
    rfl
   ·have:=a4 j (by simp at hj;omega)
    rw [show o+(j+1)=o+1+j by omega,this]
    rfl
theorem setCells_grown (g:Nat):∀ (vs:List Value) (o:Nat) {a w:World},a.grownBy w (some g)→a.grownBy (w.setCells g o vs) (some g)
 | [],_,_,_,h=>h
 | v :: vs,o,a,w,h=>setCells_grown g vs (o+1) (one_setCell h o v)
theorem run_mine {P:Program} (w:World) (t tx ty e:TypeId) (ht:P.underlying t=some (.slice e)) (htx:P.underlying tx=some (.slice e)) (hi:(P.info? e).map (fun i=>(i.zero,i.size,i.bytes))=some (some (.int .u8 0),1,1))
  {B B2:Nat} {A A2:Option Addr} {c n c2 m:Nat} {l news:List Nat} (h:Mine e w B A c l) (hn:l.length=n) (hr:Rd .u8 w B2 A2 c2 news) (hm:news.length=m) (hB:B≤w.heap.size) (hsz:n+m≤1000000) :
  ∃ A' c' w',(Builtin.append_ #[t,tx] ty #[.slice A n c,.slice A2 m c2]).run P w = .ok (.slice A' (n+m) c') w'∧Mine e w' B A' c' (l ++ news)∧w.grownBy w' (blk_of A)∧(blk_of A'=blk_of A∨blk_of A'=some w.heap.size):=by
 obtain ⟨i,hi',hz,ab,ai⟩:=info_parts hi
 have ae:=src_of_rd (P:=P) htx hr hm
 rw [←ab] at ae
 by_cases hroom:n+m≤c
 ·rcases Nat.eq_zero_or_pos m with h0 | h0
  ·subst h0
   obtain rfl:=List.eq_nil_of_length_eq_zero hm
   have aw:Src P i.size tx (.slice A2 0 c2) 0 [] w:=ae
   have ac:=run_append_nothing (P:=P) w t tx ty e i ht hi' A n c (by omega) _ aw
   exact ⟨A,c,w,ac,by rw [List.append_nil];exact h,World.grownBy.refl w _,.inl rfl⟩
  ·rcases h with ⟨rfl,rfl,rfl⟩ | ⟨g,off,av,rfl,hBg,hg,hl,hc,hs,hx⟩
   ·omega
   ·have ak:∀ j,j<(bvals news).length→(w.cell? ⟨g,off+n*i.size+j,none⟩).isSome=true:=fun j hj=>by
     rw [bvals_length] at hj
     rw [ab,Nat.mul_one,cell_of_row w g _ av e (0,0) hg,Array.getElem?_eq_getElem (by omega)]
     rfl
    have ax:∀ j,j<(bvals news).length→w.frozen? ⟨g,off+n*i.size+j,none⟩=false:=fun j hj=>by
     simp [World.frozen?,hg]
    have ac:=run_append_room_src (P:=P) w t tx ty e i ht hi' g off n c _ m (bvals news) ae hroom ak ax
    obtain ⟨cur',a1,a2,a3,a4⟩:=setCells_heap (bvals news) (off+n*i.size) w av hg (by rw [bvals_length,ab];omega)
    rw [ab,Nat.mul_one] at ac a1 a3 a4
    refine ⟨_,c,_,ac,.inr ⟨g,off,cur',rfl,hBg,a1,by rw [List.length_append];omega,hc,by omega,fun j hj=>?_⟩,setCells_grown g _ _ (World.grownBy.refl w (some g)),.inl rfl⟩
    rw [List.length_append] at hj
    rcases Nat.lt_or_ge j n with hjn | hjn
    ·rw [a3 _ (by omega),hx j (by omega)]
     simp [List.getD,List.getElem?_append_left (show j<l.length by omega)]
    ·have:=a4 (j - n) (by rw [bvals_length];omega)
     rw [show off+n+(j - n)=off+j by omega,bvals_at news (by omega)] at this
     rw [this]
     simp [List.getD,List.getElem?_append_right (show l.length≤j by omega),hn]
 ·have ay:=h.rd
  have ao:(Builtin.firstCells i.size n (.slice A n c)).run P w.drew = .ok (bvals l).toArray w.drew:=by
   have:=(src_of_rd (P:=P) (tx:=t) ht (w:=w.drew) (B:=w.heap.size) (A:=A) (c:=c) (n:=n) (l:=l) ay hn).cells
   rw [ab];exact this
  have am:Builtin.nextslicecap (n+m) c*i.bytes≤281474976710656:=growslice_fits (by omega) (by rw [ai];omega)
  have ac:=run_append_grow_src (P:=P) w t tx ty e i (.int .u8 0) ht hi' hz A n c (bvals l) ao _ m (bvals news) ae (by omega) (by omega) am
  have hge:=grownCap_ge w (n+m) c e
  have au:grownCap w (n+m) c e≤maxLen:=grownCap_le_maxLen w (n+m) c e (by unfold maxLen;omega)
  refine ⟨_,_,_,ac,.inr ⟨w.heap.size,0,_,rfl,hB,heap_alloc_new w.drew _,by rw [List.length_append];omega,by unfold maxLen at au;exact au,?_,fun j hj=>?_⟩,⟨rfl,rfl,rfl,by simp,fun k hk _=>Go.heap_alloc_old w.drew _ hk⟩,.inr rfl⟩
  ·simp only [Array.size_append,List.size_toArray,size_zeroCells,List.length_append,bvals_length]
   rw [show (Value.int IntKind.u8 0).cells.size=1 from rfl,Nat.mul_one]
   omega
  ·rw [List.length_append] at hj
   have e1:bvals l ++ bvals news=bvals (l ++ news):=by simp [bvals]
   rw [Nat.zero_add,e1,Array.getElem?_append_left (by simp [bvals_length];omega),List.getElem?_toArray]
   exact bvals_at _ (by rw [List.length_append];exact hj)
theorem wpList_mine {P:Program} (w:World) {ops:Array Oper} {rest:List Oper} {o:Oper} {a:Act} {Q:Exit→Act→World→Prop} (hgd:o.guard=none) (s x:Operand) (t:TypeId)
  (ho:o.op = .call { callee:=.builtin .append,args:=#[s,x],argTypes:=#[t,t] }) (e:TypeId) (ht:P.underlying t=some (.slice e)) (hi:(P.info? e).map (fun i=>(i.zero,i.size,i.bytes))=some (some (.int .u8 0),1,1))
  {B B2:Nat} {A A2:Option Addr} {c n c2 m:Nat} {l news:List Nat} (hs:a.eval s = .slice A n c) (h:Mine e w B A c l) (hn:l.length=n) (hx:a.eval x = .slice A2 m c2) (hr:Rd .u8 w B2 A2 c2 news) (hm:news.length=m) (hB:B≤w.heap.size) (hsz:n+m≤1000000)
  (hK:∀ A' c' w',Mine e w' B A' c' (l ++ news)→w.grownBy w' (blk_of A)→(blk_of A'=blk_of A∨blk_of A'=some w.heap.size)→wpList P ops Q rest (a.put o.dst (.slice A' (n+m) c')) w') :
  wpList P ops Q (o :: rest) a w:=by
 refine wpList_plain hgd fun K hK'=>?_
 obtain ⟨A',c',w',hrun,r1,r2,r3⟩:=run_mine (P:=P) w t t o.type e ht ht hi h hn hr hm hB hsz
 unfold Oper.wp
 simp [execOp,ho,resolve,invoke,builtin,hs,hx,hrun,Result.andThen]
 exact hK' _ _ (hK A' c' w' r1 r2 r3)
end Go.Proofs.YtflfdglpljodbaaDoor
namespace Go.Proofs.YtflfdglpljodbaaDoor
open Go.RowKit
attribute [local go_sem ↓] Go.wp_at_zero Go.wp_at_succ
theorem slice_from (g off k c:Nat) (h1:64≤k) (h2:k≤c) (W:World):(Instr.slice 46 (.slice (some ⟨g,off,none⟩) k c) (some (.int .i64 64)) none none).run Tryd.prog W = .ok (.slice (some ⟨g,if c=64 then off else off+64,none⟩) (k - 64) (c - 64)) W:=by
 have hs:(sizeOf (Tryd.prog.elem 46)).run Tryd.prog W = .ok 1 W:=by kernel_rfl
 have ht:Tryd.prog.underlying 46 = some (.slice (Tryd.prog.elem 46)):=by kernel_rfl
 rw [run_slice_l (P:=Tryd.prog) (w:=W) (t:=46) (ht:=ht) (kl:=.i64) (l:=64) (h0:=by omega) (h1:=by omega),hs]
 have e1:(Int.toNat 64)=64:=rfl
 rw [e1]
 simp only [Result.andThen,sliced,Nat.mul_one,Option.map_some]
 by_cases h:c=64
 ·rw [if_pos h,if_pos h]
 ·rw [if_neg h,if_neg h,Addr.add_lit]
theorem results_row_tmp {P:Program} {fn:Func} {p u:Tmp} {ty:TypeId} (h:fn.results=#[.cell p ty,.tmp u]) (tmps:Array Value) (w:World) (g:Nat) (t:TypeId) (cs:Array Value) (fr:Nat×Nat) (d:TypeDesc)
  (hp:tmps.getD p undef = .pointer (some ⟨g,0,none⟩)) (hg:w.heap[g]?=some (.cells cs t fr))
  (hu:P.underlying ty=some d) (hd:(match d with | .struct _ | .array _ _=>true | _=>false)=true) (hi:(P.info? ty).map (·.size)=some cs.size) (v:Value) (hv:tmps.getD u undef=v) :
  (results fn tmps).run P w = .ok (.tuple #[.agg cs,v]) w:=by
 subst hv
 have hp':tmps[p]?.getD undef = .pointer (some ⟨g,0,none⟩):=by simpa using hp
 simp [results,h,hp',asAddr,run_loadVar_row w g t ty cs fr d hg hu hd hi]
theorem nums_list (s:StS):nums .u32 s.list=#[.int .u32 (s.a:Int),.int .u32 (s.b:Int),.int .u32 (s.c:Int),.int .u32 (s.d:Int),.int .u32 (s.e:Int),.int .u32 (s.f:Int),.int .u32 (s.g:Int),.int .u32 (s.h:Int)]:=rfl
theorem blk_short {s:StS} {l:List Nat} (h:l.length≠64):blk s l=s:=by rw [blk,if_neg h]
theorem block'_any (w:World) (s:StS) (hs:s.Ok) (B:Nat) (A:Option Addr) (c n:Nat) (l:List Nat) (hl:l.length=n) (hr:Rd .u8 w B A c l) (hB:B≤w.heap.size) (ho:Oct6 l) :
  Calls Tryd.prog 75 #[.agg (nums .u32 s.list),.slice A n c] w fun e w'=>e = .returned (.agg (nums .u32 (blk s l).list))∧Below w.heap.size w w':=by
 by_cases h:n=64
 ·subst h
  exact block'_full w s hs B A c l hl hr hB ho
 ·rw [blk_short (by omega)]
  exact block'_short w s A c n h
def chain (s:StS) (l:List Nat):Nat→StS
 | 0=>s
 | q+1=>blk (chain s l q) ((l.drop (64*q)).take 64)
theorem chain_ok {s:StS} (h:s.Ok) (l:List Nat):∀ q,(chain s l q).Ok
 | 0=>h
 | q+1=>blk_ok (chain_ok h l q) _
theorem oct_drop {l:List Nat} (h:Oct6 l) (n:Nat):Oct6 (l.drop n):=fun i=>by
 have:=h (n+i)
 simpa [List.getD] using this
theorem oct_take {l:List Nat} (h:Oct6 l) (n:Nat):Oct6 (l.take n):=fun i=>by
 by_cases hi:i<n
 ·rw [getD_take l hi];exact h i
 ·rw [List.getD,List.getElem?_eq_none (by simp;omega)];exact (by decide:(0:Nat)<256)
def RelH (s:StS) (l:List Nat) (n:Nat) (w:World) (B:Nat) (v:Value) (wr:World):Prop :=
 ∃ (q k:Nat) (A:Option Addr) (c:Nat),Hid (64*q+k=n)∧v = .slice A k c∧Mine 5 wr B A c (l.drop (64*q))∧(∀ g,blk_of A=some g→g<w.heap.size)∧Row .u32 83 wr w.heap.size (chain s l q).list∧Holds wr (w.heap.size+1) 83 #[Value.int IntKind.u32 0,Value.int IntKind.u32 0,Value.int IntKind.u32 0,Value.int IntKind.u32 0,Value.int IntKind.u32 0,Value.int IntKind.u32 0,Value.int IntKind.u32 0,Value.int IntKind.u32 0]∧Below w.heap.size w wr
def WholePost (s:StS) (l:List Nat) (n:Nat) (w:World) (B:Nat) (e:Ending) (w':World):Prop :=
 ∃ (A:Option Addr) (c:Nat),e = .returned (.tuple #[.agg (nums .u32 (chain s l (n / 64)).list),.slice A (n % 64) c])∧Mine 5 w' B A c (l.drop (64*(n / 64)))∧Below w.heap.size w w'
end Go.Proofs.YtflfdglpljodbaaDoor
namespace Go.Proofs.YtflfdglpljodbaaDoor
open Go.RowKit
def H0:StS:=⟨0x6a09e667,0xbb67ae85,0x3c6ef372,0xa54ff53a,0x510e527f,0x9b05688c,0x1f83d9ab,0x5be0cd19⟩
theorem h0_ok:H0.Ok:=by unfold StS.Ok;decide
def zeros (n:Nat):Nat:=(119 - n % 64) % 64
def cnt8 (n j:Nat):Nat:=8*n / 2 ^ (56 - 8*j) % 256
def cntL (n:Nat):Nat→List Nat
 | 0=>[]
 | j+1=>cntL n j ++ [cnt8 n j]
theorem cntL_length (n:Nat):∀ j,(cntL n j).length=j
 | 0=>rfl
 | j+1=>by rw [cntL,List.length_append,cntL_length n j];rfl
def padded (l:List Nat):List Nat:=(l ++ (128 :: List.replicate (zeros l.length) 0)) ++ cntL l.length 8
def word4 (x:Nat):List Nat:=[x / 16777216 % 256,x / 65536 % 256,x / 256 % 256,x % 256]
def outL (s:StS):Nat→List Nat
 | 0=>[]
 | k+1=>outL s k ++ word4 (s.list.getD k 0)
theorem outL_length (s:StS):∀ k,(outL s k).length=4*k
 | 0=>rfl
 | k+1=>by rw [outL,List.length_append,outL_length s k];simp [word4];omega
def digest (l:List Nat):List Nat:=outL (chain H0 (padded l) ((padded l).length / 64)) 8
theorem digest_length (l:List Nat):(digest l).length=32:=outL_length _ 8
theorem outL_oct (s:StS):∀ k,∀ x∈outL s k,x<256
 | 0,x,h=>by cases h
 | k+1,x,h=>by
  rw [outL] at h
  rcases List.mem_append.1 h with h | h
  ·exact outL_oct s k x h
  ·simp [word4] at h
   omega
theorem digest_oct (l:List Nat):∀ x∈digest l,x<256:=outL_oct _ 8
theorem oct_app {l r:List Nat} (h:Oct6 l) (h':Oct6 r):Oct6 (l ++ r):=fun i=>by
 rcases Nat.lt_or_ge i l.length with hi | hi
 ·have:=h i
  rwa [List.getD,List.getElem?_append_left hi,←List.getD]
 ·have:=h' (i - l.length)
  rwa [List.getD,List.getElem?_append_right hi,←List.getD]
theorem oct_zeros (n:Nat):Oct6 (128 :: List.replicate n 0):=fun i=>by
 rcases i with _ | i
 ·exact (by decide:128<256)
 ·rw [List.getD,List.getElem?_cons_succ,List.getElem?_replicate]
  split <;> exact (by decide:0<256)
theorem oct_cnt (n:Nat):∀ j,Oct6 (cntL n j)
 | 0=>fun i=>by simp [cntL]
 | j+1=>by
  rw [cntL]
  refine oct_app (oct_cnt n j) fun i=>?_
  rcases i with _ | i
  ·exact Nat.mod_lt _ (by omega)
  ·simp
attribute [local go_sem ↓] Go.wp_at_zero Go.wp_at_succ
theorem grown_below {a w:World} {r:Option Nat} {B:Nat} (h:a.grownBy w r) (hr:∀ g,r=some g→B≤g) (hs:B≤a.heap.size):Below B a w :=
 ⟨h.os,h.tape,h.output,h.size,fun b hb=>h.block b (by omega) (fun e=>by have:=hr b e.symm;omega)⟩
theorem Mine.grew {e:TypeId} {w w':World} {B:Nat} {A:Option Addr} {c:Nat} {l:List Nat} (h:Mine e w (B+1) A c l) (hg:w.grownBy w' (blk_of A)) (hs:B+1≤w.heap.size):Below (B+1) w w' :=
 grown_below hg (fun g e=>(h.block e).1) hs
theorem rd_one (V:World) (e:TypeId) (x:Nat):Rd .u8 (V.alloc (.cells #[.int .u8 (x:Int)] e)) (V.heap.size+1) (some ⟨V.heap.size,0,none⟩) 1 [x] :=
 ⟨Nat.le_refl _,by decide,fun _=>⟨V.heap.size,0,rfl,Nat.lt_succ_self _,fun j hj=>by
  obtain rfl:j=0:=by simpa using hj
  rw [cell_of_row _ _ _ _ e (0,0) (heap_alloc_new V _)]
  rfl⟩⟩
theorem st_lt {s:StS} (hs:s.Ok) (q:Nat):s.list.getD q 0<4294967296:=by
 obtain ⟨a,b,c,d,e,f,g,i⟩:=s
 obtain ⟨h0,h1,h2,h3,h4,h5,h6,h7⟩:=hs
 rcases Nat.lt_or_ge q 8 with h | h
 ·rcases (by omega:q=0∨q=1∨q=2∨q=3∨q=4∨q=5∨q=6∨q=7) with rfl | rfl | rfl | rfl | rfl | rfl | rfl | rfl <;> assumption
 ·rw [List.getD,List.getElem?_eq_none (by exact h)];exact (by decide:0<4294967296)
theorem rd_four (V:World) (e:TypeId) (x y z u:Nat):Rd .u8 (V.alloc (.cells #[.int .u8 (x:Int),.int .u8 (y:Int),.int .u8 (z:Int),.int .u8 (u:Int)] e)) (V.heap.size+1) (some ⟨V.heap.size,0,none⟩) 4 [x,y,z,u] :=
 ⟨Nat.le_refl _,by decide,fun _=>⟨V.heap.size,0,rfl,Nat.lt_succ_self _,fun j hj=>by
  rw [cell_of_row _ _ _ _ e (0,0) (heap_alloc_new V _)]
  have hj4:j<4:=hj
  rcases (by omega:j=0∨j=1∨j=2∨j=3) with rfl | rfl | rfl | rfl <;> rfl⟩⟩
theorem rd_word (V:World) (e:TypeId) (x:Nat) (hx:x<4294967296):Rd .u8 (V.alloc (.cells #[.int .u8 ((x:Int) / 16777216),.int .u8 ((x:Int) / 65536 % 256),.int .u8 ((x:Int) / 256 % 256),.int .u8 ((x:Int) % 256)] e)) (V.heap.size+1) (some ⟨V.heap.size,0,none⟩) 4 (word4 x):=by
 have h:=rd_four V e (x / 16777216 % 256) (x / 65536 % 256) (x / 256 % 256) (x % 256)
 have e1:((x / 16777216 % 256:Nat):Int)=(x:Int) / 16777216:=by omega
 have e2:((x / 65536 % 256:Nat):Int)=(x:Int) / 65536 % 256:=by omega
 have e3:((x / 256 % 256:Nat):Int)=(x:Int) / 256 % 256:=by omega
 have e4:((x % 256:Nat):Int)=(x:Int) % 256:=by omega
 rw [e1,e2,e3,e4] at h
 exact h
def RelZ (w:World) (s:StS) (D:List Nat) (d z0:Nat) (v:Value) (wr:World):Prop :=
 ∃ (z:Nat) (A:Option Addr) (c:Nat),z≤z0∧v = .slice A (d+z) c∧Mine 5 wr (w.heap.size+1) A c (D ++ List.replicate z 0)∧Row .u32 83 wr w.heap.size s.list∧Below w.heap.size w wr
def RelOSha9 (w:World) (s:StS) (i v:Value) (wr:World):Prop :=
 ∃ (k:Nat) (A:Option Addr) (c:Nat),k≤8∧i = .int .i64 k∧v = .slice A (4*k) c∧Mine 5 wr (w.heap.size+1) A c (outL s k)∧Below w.heap.size w wr∧w.heap.size<wr.heap.size
def RelCS (w:World) (s:StS) (D:List Nat) (d N:Nat) (i v:Value) (wr:World):Prop :=
 ∃ (j:Nat) (A:Option Addr) (c:Nat),j≤8∧i = .int .i64 (56 - 8*(j:Int))∧v = .slice A (d+j) c∧Mine 5 wr (w.heap.size+1) A c (D ++ cntL N j)∧Row .u32 83 wr w.heap.size s.list∧Below w.heap.size w wr
structure Rw where
 a:Option Addr
 c:Nat
 l:List Nat
instance:Inhabited Rw:=⟨⟨none,0,[]⟩⟩
def RdR (w:World) (B:Nat) (A:Option Addr) (c:Nat) (rs:List Rw):Prop :=
 rs.length≤c∧c≤9223372036854775807∧(∀ j,j<rs.length→Rd .u8 w B (rs.getD j default).a (rs.getD j default).c (rs.getD j default).l) ∧
  (0<rs.length→∃ b off,A=some ⟨b,off,none⟩∧b<B∧∀ j,j<rs.length→w.cell? ⟨b,off+j,none⟩=some (.slice (rs.getD j default).a (rs.getD j default).l.length (rs.getD j default).c))
theorem RdR.under {w w':World} {B:Nat} {A:Option Addr} {c:Nat} {rs:List Rw} (h:RdR w B A c rs) (hb:Below B w w'):RdR w' B A c rs :=
 ⟨h.1,h.2.1,fun j hj=>(h.2.2.1 j hj).under hb,fun hn=>by
  obtain ⟨b,off,e,hlt,hc⟩:=h.2.2.2 hn
  exact ⟨b,off,e,hlt,fun j hj=>(hb.cell (p:=⟨b,off+j,none⟩) hlt).trans (hc j hj)⟩⟩
def flat (rs:List Rw):Nat→List Nat
 | 0=>[]
 | k+1=>flat rs k ++ (rs.getD k default).l
def RelASha9 (rs:List Rw) (w:World) (B:Nat) (A:Option Addr) (c n:Nat) (cnt v i:Value) (wr:World):Prop :=
 ∃ (k:Nat) (A':Option Addr) (c':Nat),k≤n∧i = .int .i64 k∧cnt = .int .u64 ((8*(flat rs k).length:Nat):Int)∧v = .slice A' ((flat rs k).length % 64) c' ∧
  Mine 5 wr (w.heap.size+1) A' c' ((flat rs k).drop (64*((flat rs k).length / 64)))∧Row .u32 83 wr w.heap.size (chain H0 (flat rs k) ((flat rs k).length / 64)).list∧RdR wr B A c rs∧Below w.heap.size w wr
end Go.Proofs.YtflfdglpljodbaaDoor
namespace Go.Proofs.YtflfdglpljodbaaDoor
open Go.RowKit
attribute [local go_sem ↓] Go.wp_at_zero Go.wp_at_succ
theorem oct6_of {l:List Nat} (h:∀ x∈l,x<256):Oct6 l:=fun i=>by
 rcases Nat.lt_or_ge i l.length with hi | hi
 ·rw [List.getD,List.getElem?_eq_getElem hi];exact h _ (List.getElem_mem hi)
 ·rw [List.getD,List.getElem?_eq_none hi];exact (by decide:(0:Nat)<256)
end Go.Proofs.YtflfdglpljodbaaDoor
namespace Go.Proofs.YtflfdglpljodbaaDoor
open Go.RowKit
attribute [local go_sem ↓] Go.wp_at_zero Go.wp_at_succ
theorem wrap8 (y:Int):IntKind.u8.wrap y=y % 256:=by first | rfl | simp [IntKind.wrap] | (unfold IntKind.wrap;simp;done)
theorem rd_wrap (V:World) (e:TypeId) (x:Nat) (hx:x<4294967296):Rd .u8 (V.alloc (.cells #[.int .u8 (IntKind.u8.wrap ((x:Int) / 16777216)),.int .u8 (IntKind.u8.wrap ((x:Int) / 65536)),.int .u8 (IntKind.u8.wrap ((x:Int) / 256)),.int .u8 (IntKind.u8.wrap (x:Int))] e)) (V.heap.size+1) (some ⟨V.heap.size,0,none⟩) 4 (word4 x):=by
 rw [wrap8,wrap8,wrap8,wrap8,show (x:Int) / 16777216 % 256=(x:Int) / 16777216 by omega]
 exact rd_word V e x hx
theorem step_mine {P:Program} (w:World) {ops:Array Oper} {o:Oper} {a:Act} {Q:Exit→Act→World→Prop} {K:Act→World→Prop} {E:Prop} (hgd:o.guard=none) (s x:Operand) (t:TypeId)
  (ho:o.op = .call { callee:=.builtin .append,args:=#[s,x],argTypes:=#[t,t] }) (e:TypeId) (hoe:o.type=t) (ht:P.underlying t=some (.slice e)) (hi:(P.info? e).map (fun i=>(i.zero,i.size,i.bytes))=some (some (.int .u8 0),1,1))
  {B B2:Nat} {A A2:Option Addr} {c n c2 m:Nat} {l news:List Nat} (hs:a.eval s = .slice A n c) (h:Mine e w B A c l) (hn:l.length=n) (hx:a.eval x = .slice A2 m c2) (hr:Rd .u8 w B2 A2 c2 news) (hm:news.length=m) (hB:B≤w.heap.size) (hsz:n+m≤1000000)
  (hK:∀ A' c' w',Mine e w' B A' c' (l ++ news)→w.grownBy w' (blk_of A)→K (a.put o.dst (.slice A' (n+m) c')) w') :
  if Region.wanted o (yielded ops a.tmps)=true then Oper.wp P o a w K Q else E:=by
 have hw:Region.wanted o (yielded ops a.tmps)=true:=by simp [Region.wanted,hgd]
 rw [if_pos hw]
 obtain ⟨A',c',w',hrun,r1,r2,r3⟩:=run_mine (P:=P) w t t o.type e ht ht hi h hn hr hm hB hsz
 unfold Oper.wp
 simp [execOp,ho,resolve,invoke,builtin,hs,hx,hrun,Result.andThen]
 exact hK _ _ _ r1 r2
def RelY (w:World) (D:List Nat) (d z0:Nat) (v:Value) (wr:World):Prop :=
 ∃ (z:Nat) (A:Option Addr) (c:Nat),z≤z0∧v = .slice A (d+z) c∧Mine 5 wr w.heap.size A c (D ++ List.replicate z 0)∧Below w.heap.size w wr
def RelVSha14 (w:World) (D:List Nat) (d N:Nat) (i v:Value) (wr:World):Prop :=
 ∃ (j:Nat) (A:Option Addr) (c:Nat),j≤8∧i = .int .i64 (56 - 8*(j:Int))∧v = .slice A (d+j) c∧Mine 5 wr w.heap.size A c (D ++ cntL N j)∧Below w.heap.size w wr
def RelES (w:World) (g:Nat) (s:StS) (i v:Value) (wr:World):Prop :=
 ∃ (k:Nat) (A:Option Addr) (c:Nat),k≤8∧i = .int .i64 k∧v = .slice A (4*k) c∧Mine 5 wr (g+1) A c (outL s k)∧Row .u32 83 wr g s.list∧Below w.heap.size w wr
def RelQ6 (w:World) (g:Nat) (L:List Nat) (m:Nat) (v:Value) (wr:World):Prop :=
 ∃ (q k:Nat) (A:Option Addr) (c:Nat),Hid (64*q+k=m)∧v = .slice A k c∧Mine 5 wr w.heap.size A c (L.drop (64*q))∧(∀ g',blk_of A=some g'→g' < g)∧Row .u32 83 wr g (chain H0 L q).list∧Below w.heap.size w wr
theorem shaOf'_any (w:World) (B:Nat) (A:Option Addr) (c n:Nat) (l:List Nat) (hn:l.length=n) (hr:Rd .u8 w B A c l) (hB:B≤w.heap.size) (ho:Oct6 l) (hsz:n≤100000) :
  Calls Tryd.prog 34 #[.slice A n c] w fun e w'=>∃ A' c',e = .returned (.slice A' 32 c')∧Rd .u8 w' w'.heap.size A' c' (digest l)∧Below w.heap.size w w':=by
 have HN:=lH hn
 have HO:=lH ho
 have bu:=hr.2.1
 have aR:=hr.1
 have cF:n≤c:=by omega
 have aC:Below w.heap.size w (w.alloc (.cells #[] 5)):=(Below.refl _ _).alloc (Nat.le_refl _) _
 have bw:Mine 5 (w.alloc (.cells #[] 5)) w.heap.size (some ⟨w.heap.size,0,none⟩) 0 []:=.inr ⟨w.heap.size,0,#[],rfl,Nat.le_refl _,heap_alloc_new w _,Nat.le_refl _,by omega,Nat.le_refl _,fun j hj=>by simp at hj⟩
 have bN:=hr.under (aC.mono hB)
 have cG:([]:List Nat).length=0:=rfl
 have a8:w.heap.size≤(w.alloc (.cells #[] 5)).heap.size:=aC.size
 clear hn ho aR hr
 go_enter Tryd.func34,Tryd.ntmps34
 have ai:[128].length=1:=rfl
 go_wp2_with (first
  | (refine wpList_mine _ rfl (.tmp 9) (.tmp 10) 46 rfl 5 rfl rfl rfl bw cG rfl bN HN.out (by omega) (by omega) ?_;intro A1 c1 V1 hm1 hg1 hb1;have aN:=aC.trans (grown_below hg1 (fun g e=>(bw.block e).1) a8);clear hg1 hb1 bw bN aC a8;rw [List.nil_append] at hm1;have ao:Mine 5 (V1.alloc (.cells #[Value.int .u8 128] 5)) w.heap.size A1 c1 l:=hm1.alloc _;have aB:Rd .u8 (V1.alloc (.cells #[Value.int .u8 128] 5)) (V1.heap.size+1) (some ⟨V1.heap.size,0,none⟩) 1 [128]:=rd_one V1 _ 128;have ab:=aN.alloc aN.size (.cells #[Value.int .u8 128] 5);have ae:w.heap.size≤(V1.alloc (.cells #[Value.int .u8 128] 5)).heap.size:=ab.size;clear hm1 aN;rw [Nat.zero_add])
  | (refine wpList_mine _ rfl (.tmp 11) (.tmp 12) 46 rfl 5 rfl rfl rfl ao HN.out rfl aB ai (by omega) (by omega) ?_;intro A9 c9 V9 hm9 hg9 hb9;have av:=ab.trans (grown_below hg9 (fun g e=>(ao.block e).1) ae);clear hg9 hb9 ao ab aB ae))
 have bC:Hid ((l ++ [128]).length=n+1):=lH (by rw [List.length_append,HN.out];rfl)
 go_loopw [3] (fun v wr=>RelY w (l ++ [128]) (n+1) (zeros n) v wr) (fun v _=>match v with | .slice _ m _=>200000 - m | _=>0)
 case atStart=>exact ⟨0,A9,c9,Nat.zero_le _,rfl,by simpa using hm9,av⟩
 case round =>
  clear hm9 av
  obtain ⟨z,A3,c3,hz,rfl,aY,ax⟩:=hrel
  obtain ⟨V3,cD⟩:∃ V,V=wr:=⟨_,rfl⟩
  subst cD
  have ba:zeros n=(119 - n % 64) % 64:=rfl
  have bc:Hid ((l ++ [128] ++ List.replicate z 0).length=n+1+z):=lH (by rw [List.length_append,bC.out,List.length_replicate])
  generalize zeros n=z0 at *
  have hz63:z0≤63:=by omega
  by_cases hzn:z<z0
  case pos =>
   have bD:(((n:Int)+1+z) % 64 != 56)=true:=by simp;omega
   have bk:=lH ba
   clear ba
   have ao:Mine 5 (V3.alloc (.cells #[Value.int .u8 0] 5)) w.heap.size A3 c3 (l ++ [128] ++ List.replicate z 0):=aY.alloc _
   have aB:Rd .u8 (V3.alloc (.cells #[Value.int .u8 0] 5)) (V3.heap.size+1) (some ⟨V3.heap.size,0,none⟩) 1 [0]:=rd_one V3 _ 0
   have ab:=ax.alloc ax.size (.cells #[Value.int .u8 0] 5)
   have ae:w.heap.size≤(V3.alloc (.cells #[Value.int .u8 0] 5)).heap.size:=ab.size
   have ai:[0].length=1:=rfl
   clear aY ax
   go_wp2_with (refine wpList_mine _ rfl (.tmp 18) (.tmp 19) 46 rfl 5 rfl rfl rfl ao bc.out rfl aB ai (by omega) (by omega) ?_;intro A9 c9 V9 hm9 hg9 hb9;have av:=ab.trans (grown_below hg9 (fun g e=>(ao.block e).1) ae);clear hg9 hb9 ao ab aB ae)
   go_roundw
   case rel=>exact ⟨z+1,A9,c9,by omega,rfl,by rw [List.replicate_succ',←List.append_assoc];exact hm9,av⟩
   case measure=>simp;omega
  case neg =>
   obtain rfl:z=z0:=by omega
   have bD:(((n:Int)+1+z) % 64 != 56)=false:=by simp;omega
   have bk:=lH ba
   have aO:Hid ((n+1+z+8) % 64=0):=lH (by omega)
   clear ba
   go_wp2_with fail
   have HE:Hid (l ++ [128] ++ List.replicate z 0=l ++ (128 :: List.replicate z 0)):=lH (by simp)
   rw [HE.out] at aY bc
   have bG:=lH bc.out
   generalize hD4:l ++ (128 :: List.replicate z 0)=D4 at *
   have aU:=lH hD4
   clear hD4 bc HE bD hz hzn
   go_loopw [5,3] (fun i v wr=>RelVSha14 w D4 (n+1+z) n i v wr) (fun i _ _=>(intOf i+8).toNat)
   case atStart=>exact ⟨0,A3,c3,Nat.zero_le _,rfl,rfl,by simpa [cntL] using aY,ax⟩
   case round =>
    clear aY ax
    obtain ⟨j,A5,c5,hj,rfl,rfl,aM,au⟩:=hrel
    obtain ⟨V5,bW⟩:∃ V,V=wr:=⟨_,rfl⟩
    subst bW
    have aJ:Hid ((D4 ++ cntL n j).length=n+1+z+j):=lH (by rw [List.length_append,bG.out,cntL_length])
    by_cases hj8:j<8
    case pos =>
     obtain ⟨sh,bl⟩:∃ sh:Nat,sh=56 - 8*j:=⟨_,rfl⟩
     have bQ:(56:Int) - 8*(j:Int)=(sh:Int):=by omega
     have hs56:sh≤56:=by omega
     have hsI0:(0:Int)≤(sh:Int):=by omega
     have cC:Hid (cnt8 n j=8*n / 2 ^ sh % 256):=lH (by rw [bl];rfl)
     have bK:=lH bl
     rw [bQ]
     clear bl
     have br:Hid (((cnt8 n j:Nat):Int)=(n:Int)*8 / 2 ^ sh % 256):=lH (by rw [cC.out,Nat.mul_comm];push_cast;rfl)
     have ao:Mine 5 (V5.alloc (.cells #[Value.int .u8 ((n:Int)*8 / 2 ^ sh % 256)] 5)) w.heap.size A5 c5 (D4 ++ cntL n j):=aM.alloc _
     have aB:Rd .u8 (V5.alloc (.cells #[Value.int .u8 ((n:Int)*8 / 2 ^ sh % 256)] 5)) (V5.heap.size+1) (some ⟨V5.heap.size,0,none⟩) 1 [cnt8 n j]:=by rw [←br.out];exact rd_one V5 _ (cnt8 n j)
     have ab:=au.alloc au.size (.cells #[Value.int .u8 ((n:Int)*8 / 2 ^ sh % 256)] 5)
     have ae:w.heap.size≤(V5.alloc (.cells #[Value.int .u8 ((n:Int)*8 / 2 ^ sh % 256)] 5)).heap.size:=ab.size
     have ai:[cnt8 n j].length=1:=rfl
     clear aM au
     go_wp2_with (refine wpList_mine _ rfl (.tmp 29) (.tmp 35) 46 rfl 5 rfl rfl rfl ao aJ.out rfl aB ai (by omega) (by omega) ?_;intro A9 c9 V9 hm9 hg9 hb9;have av:=ab.trans (grown_below hg9 (fun g e=>(ao.block e).1) ae);clear hg9 hb9 ao ab aB ae)
     go_roundw
     case rel=>exact ⟨j+1,A9,c9,by omega,by have:=bK.out;congr 1;omega,rfl,by rw [cntL,←List.append_assoc];exact hm9,av⟩
     case measure=>have:=bK.out;simp [intOf];omega
    case neg =>
     have hj8':j=8:=by omega
     rw [show (56:Int) - 8*(j:Int) = -8 by omega]
     rw [hj8'] at aJ aM ⊢
     clear hj8' hj8 hj
     have bA:Hid (D4 ++ cntL n 8=padded l):=lH (by unfold padded;rw [←aU.out,HN.out,show zeros n=z from bk.out.symm])
     rw [bA.out] at aM aJ
     obtain ⟨m5,aX⟩:∃ m5,m5=n+1+z+8:=⟨_,rfl⟩
     have bm:m5≤100200:=by omega
     rw [←aX] at aJ aO ⊢
     clear aX
     go_wp2_with fail
     have a6:Mine 5 (V5.alloc (.cells #[.int .u32 1779033703,.int .u32 3144134277,.int .u32 1013904242,.int .u32 2773480762,.int .u32 1359893119,.int .u32 2600822924,.int .u32 528734635,.int .u32 1541459225] 83)) w.heap.size A5 c5 (padded l):=aM.alloc _
     have aQ:Row .u32 83 (V5.alloc (.cells #[.int .u32 1779033703,.int .u32 3144134277,.int .u32 1013904242,.int .u32 2773480762,.int .u32 1359893119,.int .u32 2600822924,.int .u32 528734635,.int .u32 1541459225] 83)) V5.heap.size H0.list:=Holds.fresh _ _ _
     have bF:=au.alloc au.size (.cells #[.int .u32 1779033703,.int .u32 3144134277,.int .u32 1013904242,.int .u32 2773480762,.int .u32 1359893119,.int .u32 2600822924,.int .u32 528734635,.int .u32 1541459225] 83)
     have aT:∀ g',blk_of A5=some g'→g' < V5.heap.size:=fun g' hg'=>(aM.block hg').2
     have HG:=lH au.size
     have bL:Hid (Oct6 (padded l)):=lH (by unfold padded;exact oct_app (oct_app HO (oct_zeros _)) (oct_cnt _ 8))
     clear aM au
     generalize V5.alloc (.cells #[.int .u32 1779033703,.int .u32 3144134277,.int .u32 1013904242,.int .u32 2773480762,.int .u32 1359893119,.int .u32 2600822924,.int .u32 528734635,.int .u32 1541459225] 83)=W5 at *
     generalize V5.heap.size=g0 at *
     go_loopw [3] (fun v wr=>RelQ6 w g0 (padded l) m5 v wr) (fun v _=>match v with | .slice _ m _=>m | _=>0)
     case atStart=>exact ⟨0,m5,A5,c5,lH (by omega),rfl,a6,aT,aQ,bF⟩
     case round =>
      clear a6 aT aQ bF
      obtain ⟨q,k,A6,c6,HQ,rfl,ak,bP,ac,aD⟩:=hrel
      obtain ⟨V6,cU⟩:∃ V,V=wr:=⟨_,rfl⟩
      subst cU
      have aR:=ak.le
      have a_:((padded l).drop (64*q)).length=k:=by rw [List.length_drop,aJ.out];have:=HQ.out;omega
      rw [a_] at aR
      have bY:=aR.1
      have hc63':=aR.2
      by_cases hqn:0<k
      case pos =>
       have bv:64≤k:=by have:=HQ.out;have:=aO.out;omega
       have hkI:(0:Int)<(k:Int):=by omega
       obtain ⟨g,aK,rfl,aF⟩:=ak.drop (n:=64) (by omega) (by omega)
       have cl:=chain_ok h0_ok (padded l) q
       have bI:Hid (chain H0 (padded l) (q+1)=blk (chain H0 (padded l) q) (((padded l).drop (64*q)).take 64)):=lH rfl
       have bZ:=lH (oct_take (oct_drop bL (64*q)) 64)
       have bS:Hid ((((padded l).drop (64*q)).take 64).length=64):=lH (by rw [List.length_take,a_];omega)
       have b_:Hid (((padded l).drop (64*q)).drop 64=(padded l).drop (64*(q+1))):=lH (by rw [List.drop_drop];congr 1)
       have aG:=ak.take 64
       have hsl:∀ W,(Instr.slice 46 (.slice (some ⟨g,aK,none⟩) k c6) (some (.int .i64 64)) none none).run Tryd.prog W = .ok (.slice (some ⟨g,if c6=64 then aK else aK+64,none⟩) (k - 64) (c6 - 64)) W:=slice_from g aK k c6 bv bY
       generalize chain H0 (padded l) q=S at *
       have c0:V6.cell? ⟨g0,0,none⟩=some (.int .u32 (S.a:Int)):=ac.cell (i:=0) (by show 0<8;omega)
       have c1:V6.cell? ⟨g0,1,none⟩=some (.int .u32 (S.b:Int)):=ac.cell (i:=1) (by show 1<8;omega)
       have c2:V6.cell? ⟨g0,2,none⟩=some (.int .u32 (S.c:Int)):=ac.cell (i:=2) (by show 2<8;omega)
       have c3:V6.cell? ⟨g0,3,none⟩=some (.int .u32 (S.d:Int)):=ac.cell (i:=3) (by show 3<8;omega)
       have c4:V6.cell? ⟨g0,4,none⟩=some (.int .u32 (S.e:Int)):=ac.cell (i:=4) (by show 4<8;omega)
       have cB:V6.cell? ⟨g0,5,none⟩=some (.int .u32 (S.f:Int)):=ac.cell (i:=5) (by show 5<8;omega)
       have cO:V6.cell? ⟨g0,6,none⟩=some (.int .u32 (S.g:Int)):=ac.cell (i:=6) (by show 6<8;omega)
       have c7:V6.cell? ⟨g0,7,none⟩=some (.int .u32 (S.h:Int)):=ac.cell (i:=7) (by show 7<8;omega)
       have hcI:(64:Int)≤(c6:Int):=by omega
       have hcN:64≤c6:=by omega
       clear a_
       go_wp2_with fail
       go_still_tail 3,(by kernel_rfl)
       change wpList _ _ _ _ _ V6.drew
       have az:Row .u32 83 V6.drew g0 S.list:=ac
       have ay:Mine 5 V6.drew w.heap.size (some ⟨g,if c6=64 then aK else aK+64,none⟩) (c6 - 64) (((padded l).drop (64*q)).drop 64):=aF
       have aW:Rd .u8 V6.drew V6.drew.heap.size (some ⟨g,aK,none⟩) c6 (((padded l).drop (64*q)).take 64):=aG
       have aA:Below w.heap.size w V6.drew:=aD.drew
       clear ac aF aG aD ak c0 c1 c2 c3 c4 cB cO c7
       generalize V6.drew=V7 at *
       have HC:=lH (block'_any V7 S cl _ _ c6 64 _ bS aW (Nat.le_refl _) bZ)
       rw [nums_list] at HC
       go_wp2_with fail
       refine HC.out.mono ?_
       rintro e V8 ⟨rfl,bf⟩
       have hg0:g<g0:=bP g rfl
       have aH:=Holds.under az bf (Holds.lt az)
       have aL:=ay.under bf
       have a9:=aA.trans (bf.mono aA.size)
       rw [←bI.out]
       clear HC az ay aW aA bf bI
       have hi:=st_info (chain H0 (padded l) (q+1))
       have bs:=nums_one .u32 (chain H0 (padded l) (q+1)).list
       have bx:(nums .u32 S.list).size=(nums .u32 (chain H0 (padded l) (q+1)).list).size:=by rw [size8,size8]
       have bV:=lH (setRow_heap V8 g0 _ (nums .u32 (chain H0 (padded l) (q+1)).list) 83 (0,0) aH)
       have cE:=lH (aL.setRow (g:=g0) (by intro e;injection e with e;change g=_ at e;omega) (nums .u32 (chain H0 (padded l) (q+1)).list))
       have bU:=lH (below_setRow a9 HG (nums .u32 (chain H0 (padded l) (q+1)).list))
       generalize hS2:chain H0 (padded l) (q+1)=S2 at *
       go_wp2_with (refine wpList_store_row rfl 83 (.tmp 6) (.tmp 44) rfl g0 (nums .u32 S2.list) rfl rfl 83 (nums .u32 S.list) aH hi bx bs ?_)
       generalize V8.setRow g0 (nums .u32 S2.list)=V9 at *
       go_roundw
       case rel=>exact ⟨q+1,k - 64,_,_,lH (by have:=HQ.out;omega),rfl,by rw [←b_.out];exact cE.out,fun g' hg'=>bP g' hg',by rw [hS2];exact bV.out,bU⟩
       case measure=>simp;omega
      case neg =>
       obtain rfl:k=0:=by omega
       have bM:Hid (digest l=outL (chain H0 (padded l) q) 8):=lH (by
        unfold digest
        rw [aJ.out,show m5 / 64=q by have:=HQ.out;omega])
       have bO:=lH (chain_ok h0_ok (padded l) q)
       clear ak a_
       generalize chain H0 (padded l) q=S7 at *
       go_wp2_with fail
       go_loopw [8,7] (fun i v wr=>RelES w g0 S7 i v wr) (fun i _ _=>8 - (intOf i).toNat)
       case atStart=>exact ⟨0,none,0,Nat.zero_le _,rfl,rfl,Mine.nil _ _ _,ac,aD⟩
       case round =>
        clear ac aD
        obtain ⟨r,A8,c8,aB,rfl,rfl,ao,am,ab⟩:=hrel
        obtain ⟨V9,cL⟩:∃ V,V=wr:=⟨_,rfl⟩
        subst cL
        by_cases hq8:r<8
        case pos =>
         have hqI:(r:Int)<8:=by omega
         have hq0:(0:Int)≤r:=by omega
         have bn:V9.cell? ⟨g0,r,none⟩=some (.int .u32 ((S7.list.getD r 0:Nat):Int)):=am.cell (i:=r) (by show r<8;exact hq8)
         have cM:Hid (outL S7 (r+1)=outL S7 r ++ word4 (S7.list.getD r 0)):=lH rfl
         have cH:=lH (outL_length S7 r)
         have bt:=st_lt bO r
         have aw:=Holds.lt am
         generalize S7.list.getD r 0=x at *
         have hxI:(x:Int)<4294967296:=by omega
         go_wp2_with fail
         have a6:Mine 5 (V9.drew.alloc (.cells #[Value.int .u8 (IntKind.u8.wrap ((x:Int) / 16777216)),Value.int .u8 (IntKind.u8.wrap ((x:Int) / 65536)),Value.int .u8 (IntKind.u8.wrap ((x:Int) / 256)),Value.int .u8 (IntKind.u8.wrap (x:Int))] 5)) (g0+1) A8 c8 (outL S7 r):=Mine.alloc (w:=V9.drew) ao _
         have aQ:Rd .u8 (V9.drew.alloc (.cells #[Value.int .u8 (IntKind.u8.wrap ((x:Int) / 16777216)),Value.int .u8 (IntKind.u8.wrap ((x:Int) / 65536)),Value.int .u8 (IntKind.u8.wrap ((x:Int) / 256)),Value.int .u8 (IntKind.u8.wrap (x:Int))] 5)) (V9.heap.size+1) (some ⟨V9.heap.size,0,none⟩) 4 (word4 x):=rd_wrap V9.drew _ x bt
         have bH:(word4 x).length=4:=rfl
         have aV:=ab.drew.alloc ab.size (.cells #[Value.int .u8 (IntKind.u8.wrap ((x:Int) / 16777216)),Value.int .u8 (IntKind.u8.wrap ((x:Int) / 65536)),Value.int .u8 (IntKind.u8.wrap ((x:Int) / 256)),Value.int .u8 (IntKind.u8.wrap (x:Int))] 5)
         have aE:Row .u32 83 (V9.drew.alloc (.cells #[Value.int .u8 (IntKind.u8.wrap ((x:Int) / 16777216)),Value.int .u8 (IntKind.u8.wrap ((x:Int) / 65536)),Value.int .u8 (IntKind.u8.wrap ((x:Int) / 256)),Value.int .u8 (IntKind.u8.wrap (x:Int))] 5)) g0 S7.list:=Holds.alloc (w:=V9.drew) am _
         have ae:g0+1≤(V9.drew.alloc (.cells #[Value.int .u8 (IntKind.u8.wrap ((x:Int) / 16777216)),Value.int .u8 (IntKind.u8.wrap ((x:Int) / 65536)),Value.int .u8 (IntKind.u8.wrap ((x:Int) / 256)),Value.int .u8 (IntKind.u8.wrap (x:Int))] 5)).heap.size:=Nat.le_trans aw (by simp)
         have bz:=lH a6
         have cJ:=lH aQ
         have bT:=lH aV
         have cA:=lH aE
         have bJ:=lH ae
         have cT:=lH bH
         have bE:=lH am
         clear ao ab am a6 aQ bH aV aE ae
         have HXX:=lH bt;have HBG:=lH aw
         clear bt aw bM bO bL bA aU bG aJ bk bC HN HO aO bm bu cF hsz
         have cN:Hid (∀ o,(V9.drew.alloc o).cell? ⟨g0,r,none⟩=some (.int .u32 (x:Int))):=lH fun o=>(World.cell?_alloc_past _ g0 r (Holds.lt bE)).trans bn
         have bB:Hid (∀ o,(V9.alloc o).drew.cell? ⟨g0,r,none⟩=some (.int .u32 (x:Int))):=lH fun o=>(World.cell?_alloc_past (w:=V9) _ g0 r (Holds.lt bE)).trans bn
         have br:=lH bn
         go_region_held3 (fun w'=>w'.cell? ⟨g0,r,none⟩=some (.int .u32 (x:Int))) (first | exact br.out | exact cN.out _ | exact bB.out _ | exact cK.out) ((refine step_mine (P:=Tryd.prog) ((V9.alloc (.cells #[Value.int .u8 (IntKind.u8.wrap ((x:Int) / 16777216)),Value.int .u8 (IntKind.u8.wrap ((x:Int) / 65536)),Value.int .u8 (IntKind.u8.wrap ((x:Int) / 256)),Value.int .u8 (IntKind.u8.wrap (x:Int))] 5)).drew) ?_ (.tmp 51) (.tmp 71) 46 ?_ 5 ?_ rfl rfl ?_ bz.out cH.out ?_ cJ.out cT.out bJ.out (by omega) ?_;(focus rfl);(focus rfl);(focus rfl);(focus rfl);(focus rfl);intro A9 c9 V10 hm9 hg9;have bd:=bz.out.grew hg9 bJ.out;have bX:=lH hm9;have cS:=lH (Holds.under cA.out bd (Nat.lt_succ_self _));have bR:=lH (bT.out.trans (bd.mono (Nat.le_succ_of_le HG.out)));have cK:=lH ((bd.cell (p:=⟨g0,r,none⟩) (Nat.lt_succ_self _)).trans (bB.out _));clear hg9 bd hm9))
         go_wp2_with fail
         go_roundw
         case rel=>exact ⟨r+1,A9,c9,by omega,by simp,by first | rfl | (congr 1;omega),by rw [cM.out];exact bX.out,cS.out,bR.out⟩
         case measure=>simp [intOf];omega
        case neg =>
         obtain rfl:r=8:=by omega
         go_wp2_with fail
         exact bodyPost_ret (v:=.slice A8 (4*8) c8) (by simp [results,Tryd.results34,go_sem]) rfl ⟨A8,c8,rfl,by rw [bM.out];exact ao.rd,ab⟩
end Go.Proofs.YtflfdglpljodbaaDoor
