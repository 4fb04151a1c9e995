/-
  Numbers of four digits of 2^64; products modulo P in Montgomery's way: plain. Numbers of the field as they lie; the curve's constants; sums with what goes over. Sums and differences of the field. A sum, a difference of the field. A product of the field. Numbers into the field and out of it. The curve's numbers; below P; the document's arithmetic modulo P. On the curve, in the field's numbers and in the document's.
-/
import Derived.Test.YtflfdglpljodbaaDoorGPure
import Derived.Test.YtflfdglpljodbaaDoorGNatA
import Derived.Test.YtflfdglpljodbaaDoorGMul64
import Derived.Laws.Externs
import Derived.Shelf.Spec.BitsCarry
import Derived.RegionTactic
import Derived.ChangeAlike
import Derived.StillTailTactics
import Derived.Test.YtflfdglpljodbaaDoorGRefB
set_option maxRecDepth 100000
set_option maxHeartbeats 8000000
set_option linter.unusedVariables false
set_option linter.unusedSimpArgs false
namespace Go.Proofs.YtflfdglpljodbaaDoor
def b64:Nat:=18446744073709551616
def cP:Nat:=115792089210356248762697446949407573530086143415290314195533631308867097853951
def cR:Nat:=115792089237316195423570985008687907853269984665640564039457584007913129639936
def cI:Nat:=115792089183396302114378112356516095823261736990586219612555396166510339686400
theorem cRI:cR*cI % cP=1:=by decide +kernel
theorem cP_pos:0<cP:=by decide +kernel
def v64:List Nat→Nat
 | []=>0
 | x :: l=>x+18446744073709551616*v64 l
def D64 (l:List Nat):Prop:=∀ x∈l,x<18446744073709551616
def q64 (k:Nat):Nat:=18446744073709551616 ^ k
theorem q64_succ (k:Nat):q64 (k+1)=18446744073709551616*q64 k:=by unfold q64;rw [Nat.pow_succ,Nat.mul_comm]
theorem v64_append:∀ a b:List Nat,v64 (a ++ b)=v64 a+q64 a.length*v64 b
 | [],b=>by simp [v64,q64]
 | x :: a,b=>by
  rw [List.cons_append,v64,v64,v64_append a b,List.length_cons,q64_succ,Nat.mul_add,Nat.mul_assoc,Nat.add_assoc]
theorem D64.at_ {l:List Nat} (h:D64 l) (i:Nat):l.getD i 0<18446744073709551616:=by
 rw [List.getD]
 cases hq:l[i]? with
 | none=>simp
 | some x=>simpa using h x (List.mem_of_getElem? hq)
theorem D64.take {l:List Nat} (h:D64 l) (n:Nat):D64 (l.take n):=fun x hx=>h x (List.mem_of_mem_take hx)
theorem D64.set {l:List Nat} (h:D64 l) (i x:Nat) (hx:x<18446744073709551616):D64 (l.set i x):=fun y hy=>by
 rcases List.mem_or_eq_of_mem_set hy with hm | rfl
 ·exact h y hm
 ·exact hx
theorem D64.noughts (n:Nat):D64 (List.replicate n 0):=fun x hx=>by rw [(List.mem_replicate.1 hx).2];omega
theorem v64_noughts (n:Nat):v64 (List.replicate n 0)=0:=by
 induction n with
 | zero=>rfl
 | succ n ih=>rw [List.replicate_succ,v64,ih]
theorem v64_take_succ (l:List Nat) (i:Nat):v64 (l.take (i+1))=v64 (l.take i)+q64 i*l.getD i 0:=by
 rw [List.take_add_one,v64_append]
 rcases Nat.lt_or_ge i l.length with h | h
 ·have e1:(l.take i).length=i:=by simp;omega
  rw [e1,List.getD,List.getElem?_eq_getElem h]
  simp [v64]
 ·rw [List.getD,List.getElem?_eq_none h]
  simp [v64]
theorem v64_take_set (l:List Nat) (i x:Nat) (h:i<l.length):v64 ((l.set i x).take (i+1))=v64 (l.take i)+q64 i*x:=by
 rw [v64_take_succ]
 congr 2
 ·rw [List.take_set_of_le (Nat.le_refl i)]
 ·simp [List.getD,h]
theorem v64_all (l:List Nat) (n:Nat) (h:l.length≤n):v64 (l.take n)=v64 l:=by rw [List.take_of_length_le h]
theorem v64_lt {l:List Nat} (h:D64 l):v64 l<q64 l.length:=by
 induction l with
 | nil=>simp [v64,q64]
 | cons x l ih =>
  have h1:=ih (fun y hy=>h y (List.mem_cons_of_mem _ hy))
  have h2:=h x List.mem_cons_self
  rw [v64,List.length_cons,q64_succ]
  omega
theorem q64_4:q64 4=cR:=by decide +kernel
theorem v64_inj:∀ {a b:List Nat},D64 a→D64 b→a.length=b.length→v64 a=v64 b→a=b
 | [],[],_,_,_,_=>rfl
 | x :: a,y :: b,ha,hb,hl,h=>by
  have h1:=ha x (by simp)
  have h2:=hb y (by simp)
  simp only [v64] at h
  have e:x=y:=by omega
  have e2:v64 a=v64 b:=by omega
  rw [e,v64_inj (fun z hz=>ha z (by simp [hz])) (fun z hz=>hb z (by simp [hz])) (by simpa using hl) e2]
theorem sum_step {L l l':List Nat} {i o x y:Nat} (hi:i<L.length) (h:v64 (L.take i)+q64 i*o=v64 (l.take i)+v64 (l'.take i)) (hx:x=l.getD i 0) (hy:y=l'.getD i 0) :
  v64 ((L.set i ((x+y+o) % 18446744073709551616)).take (i+1))+q64 (i+1)*((x+y+o) / 18446744073709551616)=v64 (l.take (i+1))+v64 (l'.take (i+1)):=by
 rw [v64_take_set L i _ hi,v64_take_succ l,v64_take_succ l',←hx,←hy,q64_succ]
 have e:q64 i*((x+y+o) % 18446744073709551616)+18446744073709551616*q64 i*((x+y+o) / 18446744073709551616)=q64 i*x+q64 i*y+q64 i*o:=by
  rw [Nat.mul_comm 18446744073709551616 (q64 i),Nat.mul_assoc,←Nat.mul_add,Nat.mod_add_div,Nat.mul_add,Nat.mul_add]
 omega
theorem diff_step {L l l':List Nat} {i o x y:Nat} (hi:i<L.length) (ho:o≤1) (h:v64 (L.take i)+v64 (l'.take i)=v64 (l.take i)+q64 i*o) (hx:x=l.getD i 0) (hy:y=l'.getD i 0) (hx64:x<18446744073709551616) (hy64:y<18446744073709551616) :
  v64 ((L.set i ((x+18446744073709551616 - y - o) % 18446744073709551616)).take (i+1))+v64 (l'.take (i+1))=v64 (l.take (i+1))+q64 (i+1)*(if x<y+o then 1 else 0):=by
 rw [v64_take_set L i _ hi,v64_take_succ l,v64_take_succ l',←hx,←hy,q64_succ]
 obtain ⟨d,hd⟩:∃ d,d=(x+18446744073709551616 - y - o) % 18446744073709551616:=⟨_,rfl⟩
 rw [←hd]
 have e:q64 i*d+q64 i*y+q64 i*o=q64 i*x+18446744073709551616*q64 i*(if x<y+o then 1 else 0):=by
  rw [Nat.mul_comm 18446744073709551616 (q64 i),Nat.mul_assoc,←Nat.mul_add,←Nat.mul_add,←Nat.mul_add]
  congr 1
  split <;> omega
 omega
theorem once_low {X D:Nat} {o f:Nat} (hX:X<cR) (hD:D<cR) (h:D+cP=X+cR*o) (ho:o≤1) (hlim:X+cR*f<2*cP) (hf:f<o):X<cP∧f=0:=by
 have h1:cP<cR:=by decide +kernel
 rcases Nat.lt_or_ge o 1 with h2 | h2
 ·omega
 ·obtain rfl:o=1:=by omega
  exact ⟨by omega,by omega⟩
theorem once_high {X D:Nat} {o f:Nat} (hX:X<cR) (hD:D<cR) (h:D+cP=X+cR*o) (ho:o≤1) (hlim:X+cR*f<2*cP) (hf:¬ f<o):D+cP=X+cR*f∧D<cP:=by
 have h1:cP<cR:=by decide +kernel
 have h2:2*cP<2*cR:=by omega
 rcases Nat.lt_or_ge o 1 with h3 | h3
 ·obtain rfl:o=0:=by omega
  rcases Nat.lt_or_ge f 1 with h4 | h4
  ·obtain rfl:f=0:=by omega
   exact ⟨h,by omega⟩
  ·have:cR*1≤cR*f:=Nat.mul_le_mul_left _ h4
   omega
 ·obtain rfl:o=1:=by omega
  have h5:1≤f:=by omega
  have h6:f=1:=by
   rcases Nat.lt_or_ge f 2 with h7 | h7
   ·omega
   ·have:cR*2≤cR*f:=Nat.mul_le_mul_left _ h7
    omega
  subst h6
  exact ⟨h,by omega⟩
def mm (a b:Nat):Nat:=a*b*cI % cP
theorem mm_lt (a b:Nat):mm a b<cP:=Nat.mod_lt _ cP_pos
theorem mod_mul_left {a b m n:Nat} (h:a % n=b % n):a*m % n=b*m % n:=by rw [Nat.mul_mod,h,←Nat.mul_mod]
theorem mm_of {T a b:Nat} (hT:T<cP) (h:T*cR % cP=a*b % cP):T=mm a b:=by
 unfold mm
 have h1:=mod_mul_left (m:=cI) h
 rw [Nat.mul_assoc,Nat.mul_mod,cRI,Nat.mul_one,Nat.mod_mod,Nat.mod_eq_of_lt hT] at h1
 exact h1
open Go.RowKit
def pL:List Nat:=[18446744073709551615,4294967295,0,18446744069414584321]
def sL:List Nat:=[3,18446744056529682431,18446744073709551614,21474836477]
def uL:List Nat:=[1,18446744069414584320,18446744073709551615,4294967294]
theorem pL_val:v64 pL=cP:=by decide +kernel
theorem sL_val:v64 sL=cR*cR % cP:=by decide +kernel
theorem uL_val:v64 uL=cR % cP:=by decide +kernel
def CMet (w:World):Prop :=
 (2 < w.heap.size∧∀ t,t<4→w.cell? ⟨2,t,none⟩=some (.int .u64 ((pL.getD t 0:Nat):Int))) ∧
 (1 < w.heap.size∧∀ t,t<4→w.cell? ⟨1,t,none⟩=some (.int .u64 ((sL.getD t 0:Nat):Int))) ∧
 (0 < w.heap.size∧∀ t,t<4→w.cell? ⟨0,t,none⟩=some (.int .u64 ((uL.getD t 0:Nat):Int)))
theorem CMet.under {w w':World} (h:CMet w) (hb:Below w.heap.size w w'):CMet w' :=
 ⟨⟨Nat.lt_of_lt_of_le h.1.1 hb.size,fun t ht=>(hb.cell (p:=⟨2,t,none⟩) h.1.1).trans (h.1.2 t ht)⟩,
  ⟨Nat.lt_of_lt_of_le h.2.1.1 hb.size,fun t ht=>(hb.cell (p:=⟨1,t,none⟩) h.2.1.1).trans (h.2.1.2 t ht)⟩,
  ⟨Nat.lt_of_lt_of_le h.2.2.1 hb.size,fun t ht=>(hb.cell (p:=⟨0,t,none⟩) h.2.2.1).trans (h.2.2.2 t ht)⟩⟩
def nm (X:Nat):List Nat:=[X % 18446744073709551616,X / 18446744073709551616 % 18446744073709551616,X / 18446744073709551616 / 18446744073709551616 % 18446744073709551616,X / 18446744073709551616 / 18446744073709551616 / 18446744073709551616 % 18446744073709551616]
theorem nm_len (X:Nat):(nm X).length=4:=rfl
theorem nm_d (X:Nat):D64 (nm X):=fun x hx=>by
 simp only [nm,List.mem_cons,List.not_mem_nil,or_false] at hx
 omega
theorem nm_val {X:Nat} (h:X<cR):v64 (nm X)=X:=by
 unfold cR at h
 simp only [nm,v64]
 omega
theorem nm_of {l:List Nat} {X:Nat} (hd:D64 l) (hl:l.length=4) (h:v64 l=X):l=nm X:=by
 refine v64_inj hd (nm_d X) (by rw [hl];rfl) ?_
 rw [nm_val,h]
 rw [←h,←q64_4,←hl]
 exact v64_lt hd
theorem four {l:List Nat} (h:l.length=4):∃ a b c d,l=[a,b,c,d]:=by
 rcases l with _ | ⟨a,_ | ⟨b,_ | ⟨c,_ | ⟨d,_ | ⟨e,r⟩⟩⟩⟩⟩ <;> first | (simp at h;done) | exact ⟨a,b,c,d,rfl⟩
theorem cP_cR:cP<cR:=by decide +kernel
def nv (l:List Nat):Value:=.agg (nums .u64 l)
theorem run_add (x y c:Nat) (hc:c≤1) (w:World) :
  (callFunc 82 #[.int .u64 x,.int .u64 y,.int .u64 c]).run Tryd.prog w =
   .ok (.value (.tuple #[.int .u64 (((x+y+c) % 18446744073709551616:Nat):Int),.int .u64 (((x+y+c) / 18446744073709551616:Nat):Int)])) w:=by
 rw [run_callFunc_extern Tryd.func82 (by kernel_rfl) (by kernel_rfl) (by kernel_rfl) (e:=add64Entry) (by kernel_rfl),run_add64 x y c (by omega) (by omega) (by omega) (by omega)]
 simp only [Result.andThen]
 congr 5 <;> omega
theorem run_add0 (x y:Nat) (w:World) :
  (callFunc 82 #[.int .u64 x,.int .u64 y,.int .u64 0]).run Tryd.prog w =
   .ok (.value (.tuple #[.int .u64 (((x+y) % 18446744073709551616:Nat):Int),.int .u64 (((x+y) / 18446744073709551616:Nat):Int)])) w:=run_add x y 0 (by omega) w
theorem run_sub (x y b:Nat) (hb:b≤1) (w:World) :
  (callFunc 81 #[.int .u64 x,.int .u64 y,.int .u64 b]).run Tryd.prog w =
   .ok (.value (.tuple #[.int .u64 (((x+18446744073709551616 - y - b) % 18446744073709551616:Nat):Int),.int .u64 ((if x<y+b then 1 else 0:Nat):Int)])) w:=by
 rw [run_callFunc_extern Tryd.func81 (by kernel_rfl) (by kernel_rfl) (by kernel_rfl) (e:=sub64Entry) (by kernel_rfl),run_sub64 x y b hb]
 rfl
theorem ret_num {R:Ending→World→Prop} {tmps:Array Value} {w:World} {g:Nat} {t:TypeId} {cs:Array Value} {fn:Func} {p:Tmp}
  (hr:fn.results=#[.cell p 67]) (hp:tmps.getD p undef = .pointer (some ⟨g,0,none⟩)) (hg:Holds w g t cs) (hcs:cs.size=4) (hR:R (.returned (.agg cs)) w) :
  bodyPost Tryd.prog fn R .ret { tmps:=tmps,defers:=[] } w:=by
 have hi:(Tryd.prog.info? 67).map (·.size)=some cs.size:=by rw [hcs];kernel_rfl
 refine bodyPost_ret (v:=.agg cs) ?_ rfl hR
 have hp':tmps[p]?.getD undef = .pointer (some ⟨g,0,none⟩):=by simpa using hp
 simp [results,hr,hp',asAddr,run_loadVar_row w g t _ cs (0,0) _ hg Tryd.underlying67 rfl hi,Result.andThen]
theorem product_any (w:World) (a b c d:Nat) (ha:a<18446744073709551616) (hb:b<18446744073709551616) (hc:c<18446744073709551616) (hd:d<18446744073709551616) :
  Calls Tryd.prog 83 #[.int .u64 a,.int .u64 b,.int .u64 c,.int .u64 d] w fun e w'=>e = .returned (.tuple #[.int .u64 (((a*b+c+d) / 18446744073709551616:Nat):Int),.int .u64 (((a*b+c+d) % 18446744073709551616:Nat):Int)])∧w=w':=by
 have hm:a*b≤18446744073709551615*18446744073709551615:=Nat.mul_le_mul (by omega) (by omega)
 obtain ⟨p,hp⟩:∃ p,p=a*b:=⟨_,rfl⟩
 have HM:=lH (mul64_any a b ha hb w)
 rw [←hp] at hm HM ⊢
 obtain ⟨hi,hhi⟩:∃ x,x=p / 18446744073709551616:=⟨_,rfl⟩
 obtain ⟨lo,hlo⟩:∃ x,x=p % 18446744073709551616:=⟨_,rfl⟩
 rw [←hhi,←hlo] at HM
 have r1:=run_add0 lo c w
 obtain ⟨s1,hs1⟩:∃ x,x=(lo+c) % 18446744073709551616:=⟨_,rfl⟩
 obtain ⟨o1,ho1⟩:∃ x,x=(lo+c) / 18446744073709551616:=⟨_,rfl⟩
 rw [←hs1,←ho1] at r1
 have r2:=run_add0 s1 d w
 obtain ⟨s2,hs2⟩:∃ x,x=(s1+d) % 18446744073709551616:=⟨_,rfl⟩
 obtain ⟨o2,ho2⟩:∃ x,x=(s1+d) / 18446744073709551616:=⟨_,rfl⟩
 rw [←hs2,←ho2] at r2
 have E1:Hid ((p+c+d) / 18446744073709551616=hi+o1+o2):=lH (by omega)
 have E2:Hid ((p+c+d) % 18446744073709551616=s2):=lH (by omega)
 have w1:IntKind.u64.wrap ((hi:Int)+(o1:Int))=(hi:Int)+(o1:Int):=by rw [IntKind.wrap_u64];omega
 have w2:IntKind.u64.wrap ((hi:Int)+(o1:Int)+(o2:Int))=(hi:Int)+(o1:Int)+(o2:Int):=by rw [IntKind.wrap_u64];omega
 clear hm hp hhi hlo hs1 ho1 hs2 ho2
 go_enter Tryd.func83,Tryd.ntmps83
 go_wp2_with fail
 refine HM.out.mono ?_
 rintro e w1 ⟨rfl,rfl⟩
 go_wp2_with fail
 go_ret2
 refine ⟨?_,rfl⟩
 rw [E1.out,E2.out]
 push_cast
 rfl
theorem bdN {B:Nat} {a w:World} (h:Below B a w) (n:Nat):Below B a (w.drewN n):=⟨h.os,h.tape,h.output,h.size,h.block⟩
theorem set4 {w:World} {g:Nat} {t:TypeId} {a b c d:Value} (h:Holds w g t #[a,b,c,d]) (p q r s:Value):Holds ((((w.setCell ⟨g,0,none⟩ p).setCell ⟨g,1,none⟩ q).setCell ⟨g,2,none⟩ r).setCell ⟨g,3,none⟩ s) g t #[p,q,r,s] :=
 (((h.stored 0 p).stored 1 q).stored 2 r).stored 3 s
theorem below4 {B:Nat} {a w:World} (h:Below B a w) {g:Nat} (hg:B≤g) (p q r s:Value):Below B a ((((w.setCell ⟨g,0,none⟩ p).setCell ⟨g,1,none⟩ q).setCell ⟨g,2,none⟩ r).setCell ⟨g,3,none⟩ s) :=
 (((h.setCell (p:=⟨g,0,none⟩) hg p).setCell (p:=⟨g,1,none⟩) hg q).setCell (p:=⟨g,2,none⟩) hg r).setCell (p:=⟨g,3,none⟩) hg s
theorem nv_of {l:List Nat} {a b c d:Nat} (h:l=[a,b,c,d]):nums .u64 l=#[.int .u64 (a:Int),.int .u64 (b:Int),.int .u64 (c:Int),.int .u64 (d:Int)]:=by rw [h];rfl
def RelO (w:World) (l M:List Nat) (o i:Value) (wr:World):Prop :=
 ∃ (k c:Nat) (L:List Nat),k≤4∧i = .int .i64 (k:Int)∧o = .int .u64 (c:Int)∧c≤1∧Hid (Row .u64 67 wr (w.heap.size+1+1) L∧L.length=4∧D64 L∧v64 (L.take k)+v64 (M.take k)=v64 (l.take k)+q64 k*c ∧
  Row .u64 67 wr w.heap.size l∧Holds wr (w.heap.size+1) 67 #[.int .u64 0,.int .u64 0,.int .u64 0,.int .u64 0]∧Below w.heap.size w wr)
theorem once_any (w:World) (hm:CMet w) (l:List Nat) (hl:l.length=4) (hd:D64 l) (f:Nat) (hf:f<18446744073709551616) (hlim:v64 l+cR*f<2*cP) :
  Calls Tryd.prog 84 #[nv l,.int .u64 (f:Int)] w fun e w'=>e = .returned (nv (nm ((v64 l+cR*f) % cP)))∧Below w.heap.size w w':=by
 obtain ⟨x0,x1,x2,x3,hx⟩:=four hl
 obtain ⟨w1,am⟩:∃ W,W=((w.alloc (.cells #[.int .u64 (x0:Int),.int .u64 (x1:Int),.int .u64 (x2:Int),.int .u64 (x3:Int)] 67)).alloc (.cells #[.int .u64 0,.int .u64 0,.int .u64 0,.int .u64 0] 67)).alloc (.cells #[.int .u64 0,.int .u64 0,.int .u64 0,.int .u64 0] 67):=⟨_,rfl⟩
 have hX:Row .u64 67 w1 w.heap.size l:=by
  rw [am]
  unfold Row
  rw [nv_of hx]
  exact ((Holds.fresh w _ _).alloc _).alloc _
 have hR:Holds w1 (w.heap.size+1) 67 #[.int .u64 0,.int .u64 0,.int .u64 0,.int .u64 0]:=by
  rw [am]
  have h:=Holds.fresh (w.alloc (.cells #[.int .u64 (x0:Int),.int .u64 (x1:Int),.int .u64 (x2:Int),.int .u64 (x3:Int)] 67)) 67 #[.int .u64 0,.int .u64 0,.int .u64 0,.int .u64 0]
  rw [show (w.alloc (.cells #[.int .u64 (x0:Int),.int .u64 (x1:Int),.int .u64 (x2:Int),.int .u64 (x3:Int)] 67)).heap.size=w.heap.size+1 by simp] at h
  exact h.alloc _
 have aF:Row .u64 67 w1 (w.heap.size+1+1) (List.replicate 4 0):=by
  rw [am]
  have h:=Holds.fresh ((w.alloc (.cells #[.int .u64 (x0:Int),.int .u64 (x1:Int),.int .u64 (x2:Int),.int .u64 (x3:Int)] 67)).alloc (.cells #[.int .u64 0,.int .u64 0,.int .u64 0,.int .u64 0] 67)) 67 #[.int .u64 0,.int .u64 0,.int .u64 0,.int .u64 0]
  rw [show ((w.alloc (.cells #[.int .u64 (x0:Int),.int .u64 (x1:Int),.int .u64 (x2:Int),.int .u64 (x3:Int)] 67)).alloc (.cells #[.int .u64 0,.int .u64 0,.int .u64 0,.int .u64 0] 67)).heap.size=w.heap.size+1+1 by simp] at h
  exact h
 have hb:Below w.heap.size w w1:=by rw [am];exact (((Below.refl _ _).alloc (Nat.le_refl _) _).alloc (by simp) _).alloc (by simp;omega) _
 have HS:RelO w l pL (.int .u64 0) (.int .i64 0) w1:=⟨0,0,_,by omega,rfl,rfl,by omega,lH ⟨aF,by simp,D64.noughts 4,by simp [v64],hX,hR,hb⟩⟩
 have aM:=lH hm
 have HX:=lH hx
 have HW:=lH am
 have HD:=lH hd
 have HL:=lH hl
 have ax:=lH hlim
 unfold nv
 rw [nv_of hx]
 clear hm hl hd hx hlim hX hR aF hb am
 go_enter Tryd.func84,Tryd.ntmps84
 go_wp2_with fail
 rw [←HW.out]
 clear HW
 go_loopw [6,8] (fun o i wr=>RelO w l pL o i wr) (fun _ i _=>4 - (intOf i).toNat)
 case atStart=>exact HS
 case round =>
  obtain ⟨k,c,L,hk,rfl,rfl,hc,H⟩:=hrel
  obtain ⟨hD,ae,ao,hv,hX,hR,hb⟩:=H.out
  have hm:=aM.out.under hb
  by_cases hlt:k<4
  ·have t1:decide ((k:Int)<4)=true:=decide_eq_true (by omega)
   obtain ⟨a,ha⟩:∃ a,a=l.getD k 0:=⟨_,rfl⟩
   obtain ⟨p,hp⟩:∃ p,p=pL.getD k 0:=⟨_,rfl⟩
   have ca:=hX.cell (i:=k) (by rw [HL.out];exact hlt)
   have cp:=hm.1.2 k hlt
   rw [←ha] at ca
   rw [←hp] at cp
   have fd:=hD.open_ k
   have cd:=hD.cell (i:=k) (by rw [ae];exact hlt)
   have aE:=run_sub a p c hc
   have aw:a<18446744073709551616:=by rw [ha];exact HD.out.at_ k
   have av:p<18446744073709551616:=by
    have:D64 pL:=by unfold D64 pL;decide
    rw [hp];exact this.at_ k
   have ab:=diff_step (L:=L) (l:=l) (l':=pL) (i:=k) (o:=c) (x:=a) (y:=p) (by rw [ae];exact hlt) hc hv ha hp aw av
   obtain ⟨d,hd⟩:∃ d,d=(a+18446744073709551616 - p - c) % 18446744073709551616:=⟨_,rfl⟩
   obtain ⟨c',hc'⟩:∃ x,x=(if a<p+c then 1 else 0:Nat):=⟨_,rfl⟩
   rw [←hd,←hc'] at aE ab
   have aK:c'≤1:=by rw [hc'];split <;> omega
   have aC:w.heap.size+1+1≠w.heap.size:=by omega
   have aB:w.heap.size+1+1≠w.heap.size+1:=by omega
   have aH:=hD.set k d
   have HN:Hid (∀ q,RelO w l pL (.int .u64 (c':Int)) (.int .i64 ((k:Int)+1)) ((wr.setCell ⟨w.heap.size+1+1,k,none⟩ (.int .u64 (d:Int))).drewN q)):=lH fun q =>
    ⟨k+1,c',L.set k d,by omega,by push_cast;rfl,rfl,aK,lH ⟨aH,by rw [List.length_set];exact ae,ao.set k d (by rw [hd];exact Nat.mod_lt _ (by omega)),ab,Holds.aside hX (p:=⟨w.heap.size+1+1,k,none⟩) (by show w.heap.size≠w.heap.size+1+1;omega) _,Holds.aside hR (p:=⟨w.heap.size+1+1,k,none⟩) (by show w.heap.size+1≠w.heap.size+1+1;omega) _,bdN (hb.setCell (p:=⟨w.heap.size+1+1,k,none⟩) (by show w.heap.size≤w.heap.size+1+1;omega) _) q⟩⟩
   clear hD ae ao hv hX hR hb hm ha hp aw av ab hd hc' aC aB aH H
   go_wp2_with fail
   go_region
   all_goals go_wp2_with fail
   all_goals exact ⟨HN 1,by simp [intOf];omega⟩
  ·obtain rfl:k=4:=by omega
   have t1:decide (((4:Nat):Int)<4)=false:=by decide
   obtain ⟨d0,d1,d2,d3,az⟩:=four ae
   rw [v64_all L 4 (by omega),v64_all pL 4 (by decide),v64_all l 4 (by rw [HL.out];omega),q64_4,pL_val] at hv
   have au:Holds wr w.heap.size 67 #[.int .u64 (x0:Int),.int .u64 (x1:Int),.int .u64 (x2:Int),.int .u64 (x3:Int)]:=by
    have h:=hX
    unfold Row at h
    rwa [nv_of HX.out] at h
   have ak:Holds wr (w.heap.size+1+1) 67 #[.int .u64 (d0:Int),.int .u64 (d1:Int),.int .u64 (d2:Int),.int .u64 (d3:Int)]:=by
    have h:=hD
    unfold Row at h
    rwa [nv_of az] at h
   have ay:v64 l<cR:=by
    have h:=v64_lt HD.out
    rwa [HL.out,q64_4] at h
   have aA:v64 L<cR:=by
    have h:=v64_lt ao
    rwa [ae,q64_4] at h
   have z0:=hR.cell 0
   have z1:=hR.cell 1
   have z2:=hR.cell 2
   have z3:=hR.cell 3
   have y0:=hR.open_ 0
   have y1:=hR.open_ 1
   have y2:=hR.open_ 2
   have y3:=hR.open_ 3
   have aG:=lH hR
   have HBB:=lH hb
   have aD:∀ p q r s,Below w.heap.size w ((((wr.setCell ⟨w.heap.size+1,0,none⟩ p).setCell ⟨w.heap.size+1,1,none⟩ q).setCell ⟨w.heap.size+1,2,none⟩ r).setCell ⟨w.heap.size+1,3,none⟩ s):=fun p q r s=>below4 hb (by omega) p q r s
   have aJ:=lH aD
   by_cases hfc:f<c
   ·have ai:=once_low ay aA hv hc ax hfc
    have t2:decide ((f:Int)<(c:Int))=true:=decide_eq_true (by omega)
    have t2':decide (f<c)=true:=decide_eq_true hfc
    have HE:Hid (nm ((v64 l+cR*f) % cP)=l):=lH (by rw [ai.2,Nat.mul_zero,Nat.add_zero,Nat.mod_eq_of_lt ai.1];exact (nm_of HD HL rfl).symm)
    have a0:=au.cell 0
    have a1:=au.cell 1
    have a2:=au.cell 2
    have a3:=au.cell 3
    clear hD ae ao hv hX hR hb au ak ay aA aD hfc ai H az
    go_wp2_with fail
    refine ret_num rfl rfl (set4 aG _ _ _ _) rfl ⟨?_,aJ _ _ _ _⟩
    rw [HE.out,nv_of HX.out]
   ·have ac:=once_high ay aA hv hc ax hfc
    have t2:decide ((f:Int)<(c:Int))=false:=decide_eq_false (by omega)
    have t2':decide (f<c)=false:=decide_eq_false hfc
    have HE:Hid (nm ((v64 l+cR*f) % cP)=L):=lH (by rw [←ac.1,Nat.add_mod_right,Nat.mod_eq_of_lt ac.2];exact (nm_of ao ae rfl).symm)
    have aL:=lH az
    have a0:=ak.cell 0
    have a1:=ak.cell 1
    have a2:=ak.cell 2
    have a3:=ak.cell 3
    clear hD ae ao hv hX hR hb au ak ay aA aD hfc ac H az
    go_wp2_with fail
    refine ret_num rfl rfl (set4 aG _ _ _ _) rfl ⟨?_,aJ _ _ _ _⟩
    rw [HE.out,nv_of aL.out]
def RelA (w:World) (l l':List Nat) (o i:Value) (wr:World):Prop :=
 ∃ (k c:Nat) (L:List Nat),k≤4∧i = .int .i64 (k:Int)∧o = .int .u64 (c:Int)∧c≤1∧Hid (Row .u64 67 wr (w.heap.size+1+1+1) L∧L.length=4∧D64 L∧v64 (L.take k)+q64 k*c=v64 (l.take k)+v64 (l'.take k) ∧
  Row .u64 67 wr (w.heap.size) l∧Row .u64 67 wr (w.heap.size+1) l'∧Holds wr (w.heap.size+1+1) 67 #[.int .u64 0,.int .u64 0,.int .u64 0,.int .u64 0]∧Below w.heap.size w wr)
def RelS (w:World) (l l':List Nat) (o i:Value) (wr:World):Prop :=
 ∃ (k c:Nat) (L:List Nat),k≤4∧i = .int .i64 (k:Int)∧o = .int .u64 (c:Int)∧c≤1∧Hid (Row .u64 67 wr (w.heap.size+1+1+1) L∧L.length=4∧D64 L∧v64 (L.take k)+v64 (l'.take k)=v64 (l.take k)+q64 k*c ∧
  Row .u64 67 wr (w.heap.size) l∧Row .u64 67 wr (w.heap.size+1) l'∧Holds wr (w.heap.size+1+1) 67 #[.int .u64 0,.int .u64 0,.int .u64 0,.int .u64 0]∧Below w.heap.size w wr)
theorem addF_any (w:World) (hm:CMet w) (l l':List Nat) (hl:l.length=4) (hl':l'.length=4) (hd:D64 l) (hd':D64 l') (hX0:v64 l<cP) (hY0:v64 l' < cP) :
  Calls Tryd.prog 57 #[nv l,nv l'] w fun e w'=>e = .returned (nv (nm ((v64 l+v64 l') % cP)))∧Below w.heap.size w w':=by
 obtain ⟨x0,x1,x2,x3,hx⟩:=four hl
 obtain ⟨y0,y1,y2,y3,hy⟩:=four hl'
 obtain ⟨w1,ai⟩:∃ W,W=((((w.alloc (.cells #[.int .u64 (x0:Int),.int .u64 (x1:Int),.int .u64 (x2:Int),.int .u64 (x3:Int)] 67)).alloc (.cells #[.int .u64 (y0:Int),.int .u64 (y1:Int),.int .u64 (y2:Int),.int .u64 (y3:Int)] 67)).alloc (.cells #[.int .u64 0,.int .u64 0,.int .u64 0,.int .u64 0] 67)).alloc (.cells #[.int .u64 0,.int .u64 0,.int .u64 0,.int .u64 0] 67)):=⟨_,rfl⟩
 have hX:Row .u64 67 w1 (w.heap.size) l:=by
  rw [ai]
  unfold Row
  rw [nv_of hx]
  exact (((Holds.fresh w _ _).alloc _).alloc _).alloc _
 have hY:Row .u64 67 w1 (w.heap.size+1) l':=by
  rw [ai]
  unfold Row
  rw [nv_of hy]
  have h:=Holds.fresh (w.alloc (.cells #[.int .u64 (x0:Int),.int .u64 (x1:Int),.int .u64 (x2:Int),.int .u64 (x3:Int)] 67)) 67 #[.int .u64 (y0:Int),.int .u64 (y1:Int),.int .u64 (y2:Int),.int .u64 (y3:Int)]
  rw [show (w.alloc (.cells #[.int .u64 (x0:Int),.int .u64 (x1:Int),.int .u64 (x2:Int),.int .u64 (x3:Int)] 67)).heap.size=w.heap.size+1 by simp] at h
  exact (h.alloc _).alloc _
 have hR:Holds w1 (w.heap.size+1+1) 67 #[.int .u64 0,.int .u64 0,.int .u64 0,.int .u64 0]:=by
  rw [ai]
  have h:=Holds.fresh ((w.alloc (.cells #[.int .u64 (x0:Int),.int .u64 (x1:Int),.int .u64 (x2:Int),.int .u64 (x3:Int)] 67)).alloc (.cells #[.int .u64 (y0:Int),.int .u64 (y1:Int),.int .u64 (y2:Int),.int .u64 (y3:Int)] 67)) 67 #[.int .u64 0,.int .u64 0,.int .u64 0,.int .u64 0]
  rw [show ((w.alloc (.cells #[.int .u64 (x0:Int),.int .u64 (x1:Int),.int .u64 (x2:Int),.int .u64 (x3:Int)] 67)).alloc (.cells #[.int .u64 (y0:Int),.int .u64 (y1:Int),.int .u64 (y2:Int),.int .u64 (y3:Int)] 67)).heap.size=w.heap.size+1+1 by simp] at h
  exact h.alloc _
 have aB:Row .u64 67 w1 (w.heap.size+1+1+1) (List.replicate 4 0):=by
  rw [ai]
  have h:=Holds.fresh (((w.alloc (.cells #[.int .u64 (x0:Int),.int .u64 (x1:Int),.int .u64 (x2:Int),.int .u64 (x3:Int)] 67)).alloc (.cells #[.int .u64 (y0:Int),.int .u64 (y1:Int),.int .u64 (y2:Int),.int .u64 (y3:Int)] 67)).alloc (.cells #[.int .u64 0,.int .u64 0,.int .u64 0,.int .u64 0] 67)) 67 #[.int .u64 0,.int .u64 0,.int .u64 0,.int .u64 0]
  rw [show (((w.alloc (.cells #[.int .u64 (x0:Int),.int .u64 (x1:Int),.int .u64 (x2:Int),.int .u64 (x3:Int)] 67)).alloc (.cells #[.int .u64 (y0:Int),.int .u64 (y1:Int),.int .u64 (y2:Int),.int .u64 (y3:Int)] 67)).alloc (.cells #[.int .u64 0,.int .u64 0,.int .u64 0,.int .u64 0] 67)).heap.size=w.heap.size+1+1+1 by simp] at h
  exact h
 have hb:Below w.heap.size w w1:=by rw [ai];exact ((((Below.refl _ _).alloc (Nat.le_refl _) _).alloc (by simp) _).alloc (by simp;omega) _).alloc (by simp;omega) _
 have HS:RelA w l l' (.int .u64 0) (.int .i64 0) w1:=⟨0,0,_,by omega,rfl,rfl,by omega,lH ⟨aB,by simp,D64.noughts 4,by simp [v64],hX,hY,hR,hb⟩⟩
 have aK:=lH hm
 have HXL:=lH hx
 have HYL:=lH hy
 have HW:=lH ai
 have HD:=lH hd
 have HD':=lH hd'
 have HL:=lH hl
 have HL':=lH hl'
 have aE:=lH hX0
 have aJ:=lH hY0
 unfold nv
 rw [nv_of hx,nv_of hy]
 clear hm hl hl' hd hd' hx hy hX hY hR aB hb ai hX0 hY0
 go_enter Tryd.func57,Tryd.ntmps57
 go_wp2_with fail
 rw [←HW.out]
 clear HW
 go_loopw [6,8] (fun o i wr=>RelA w l l' o i wr) (fun _ i _=>4 - (intOf i).toNat)
 case atStart=>exact HS
 case round =>
  obtain ⟨k,c,L,hk,rfl,rfl,hc,H⟩:=hrel
  obtain ⟨hD,ae,ao,hv,hX,hY,hR,hb⟩:=H.out
  by_cases hlt:k<4
  ·have t1:decide ((k:Int)<4)=true:=decide_eq_true (by omega)
   obtain ⟨a,ha⟩:∃ a,a=l.getD k 0:=⟨_,rfl⟩
   obtain ⟨p,hp⟩:∃ p,p=l'.getD k 0:=⟨_,rfl⟩
   have ca:=hX.cell (i:=k) (by rw [HL.out];exact hlt)
   have cp:=hY.cell (i:=k) (by rw [HL'.out];exact hlt)
   rw [←ha] at ca
   rw [←hp] at cp
   have fd:=hD.open_ k
   have cd:=hD.cell (i:=k) (by rw [ae];exact hlt)
   have ay:=run_add a p c hc
   have av:a<18446744073709551616:=by rw [ha];exact HD.out.at_ k
   have au:p<18446744073709551616:=by rw [hp];exact HD'.out.at_ k
   have ab:=sum_step (L:=L) (l:=l) (l':=l') (i:=k) (o:=c) (x:=a) (y:=p) (by rw [ae];exact hlt) hv ha hp
   obtain ⟨d,hd⟩:∃ d,d=(a+p+c) % 18446744073709551616:=⟨_,rfl⟩
   obtain ⟨c',hc'⟩:∃ x,x=(a+p+c) / 18446744073709551616:=⟨_,rfl⟩
   rw [←hd,←hc'] at ay ab
   have aH:c'≤1:=by rw [hc'];omega
   have aD:=hD.set k d
   have HN:Hid (∀ q,RelA w l l' (.int .u64 (c':Int)) (.int .i64 ((k:Int)+1)) ((wr.setCell ⟨w.heap.size+1+1+1,k,none⟩ (.int .u64 (d:Int))).drewN q)):=lH fun q =>
    ⟨k+1,c',L.set k d,by omega,by push_cast;rfl,rfl,aH,lH ⟨aD,by rw [List.length_set];exact ae,ao.set k d (by rw [hd];exact Nat.mod_lt _ (by omega)),ab,Holds.aside hX (p:=⟨w.heap.size+1+1+1,k,none⟩) (by show w.heap.size≠w.heap.size+1+1+1;omega) _,Holds.aside hY (p:=⟨w.heap.size+1+1+1,k,none⟩) (by show w.heap.size+1≠w.heap.size+1+1+1;omega) _,Holds.aside hR (p:=⟨w.heap.size+1+1+1,k,none⟩) (by show w.heap.size+1+1≠w.heap.size+1+1+1;omega) _,bdN (hb.setCell (p:=⟨w.heap.size+1+1+1,k,none⟩) (by show w.heap.size≤w.heap.size+1+1+1;omega) _) q⟩⟩
   clear hD ae ao hv hX hY hR hb ha hp av au ab hd hc' aD H
   go_wp2_with fail
   go_region
   all_goals go_wp2_with fail
   all_goals exact ⟨HN 1,by simp [intOf];omega⟩
  ·obtain rfl:k=4:=by omega
   have t1:decide (((4:Nat):Int)<4)=false:=by decide
   obtain ⟨d0,d1,d2,d3,aw⟩:=four ae
   rw [v64_all L 4 (by omega),v64_all l 4 (by rw [HL.out];omega),v64_all l' 4 (by rw [HL'.out];omega),q64_4] at hv
   have ak:Holds wr (w.heap.size+1+1+1) 67 #[.int .u64 (d0:Int),.int .u64 (d1:Int),.int .u64 (d2:Int),.int .u64 (d3:Int)]:=by
    have h:=hD
    unfold Row at h
    rwa [nv_of aw] at h
   have am:=once_any wr (aK.out.under hb) L ae ao c (by omega) (by rw [hv];have:=aE.out;have:=aJ.out;omega)
   rw [hv] at am
   obtain ⟨n0,n1,n2,n3,hn⟩:=four (nm_len ((v64 l+v64 l') % cP))
   unfold nv at am
   rw [nv_of aw,nv_of hn] at am
   have aG:=lH hn
   have az:=lH am
   have aA:=lH hR
   have aC:=lH hb
   have a0:=ak.cell 0
   have a1:=ak.cell 1
   have a2:=ak.cell 2
   have a3:=ak.cell 3
   clear hD ae ao hv hX hY hR hb ak am hn H aw
   go_wp2_with fail
   refine az.out.mono ?_
   rintro e w2 ⟨rfl,ax⟩
   have ac:=aA.out.under ax aA.out.lt
   have aF:=lH ac
   have aL:=lH (aC.out.trans (ax.mono aC.out.size))
   clear a0 a1 a2 a3 ax az
   have z0:=ac.cell 0
   have o0:=ac.open_ 0
   have z1:=ac.cell 1
   have o1:=ac.open_ 1
   have z2:=ac.cell 2
   have o2:=ac.open_ 2
   have z3:=ac.cell 3
   have o3:=ac.open_ 3
   clear ac
   go_wp2_with fail
   refine ret_num rfl rfl (set4 aF _ _ _ _) rfl ⟨?_,below4 aL (by omega) _ _ _ _⟩
   rw [nv_of aG.out]
def RelT (w:World) (M:List Nat) (o i:Value) (wr:World):Prop :=
 ∃ (k c:Nat) (L:List Nat),k≤4∧i = .int .i64 (k:Int)∧o = .int .u64 (c:Int)∧c≤1∧Hid (Row .u64 67 wr (w.heap.size+1+1+1) L∧L.length=4∧D64 L∧v64 (L.take k)+q64 k*c=v64 (M.take k)+v64 (pL.take k)∧(∀ j,k≤j→L.getD j 0=M.getD j 0) ∧
  Holds wr (w.heap.size+1+1) 67 #[.int .u64 0,.int .u64 0,.int .u64 0,.int .u64 0]∧Below w.heap.size w wr)
theorem subF_any (w:World) (hm:CMet w) (l l':List Nat) (hl:l.length=4) (hl':l'.length=4) (hd:D64 l) (hd':D64 l') (hX0:v64 l<cP) (hY0:v64 l' < cP) :
  Calls Tryd.prog 55 #[nv l,nv l'] w fun e w'=>e = .returned (nv (nm ((v64 l+(cP - v64 l')) % cP)))∧Below w.heap.size w w':=by
 obtain ⟨x0,x1,x2,x3,hx⟩:=four hl
 obtain ⟨y0,y1,y2,y3,hy⟩:=four hl'
 obtain ⟨w1,av⟩:∃ W,W=((((w.alloc (.cells #[.int .u64 (x0:Int),.int .u64 (x1:Int),.int .u64 (x2:Int),.int .u64 (x3:Int)] 67)).alloc (.cells #[.int .u64 (y0:Int),.int .u64 (y1:Int),.int .u64 (y2:Int),.int .u64 (y3:Int)] 67)).alloc (.cells #[.int .u64 0,.int .u64 0,.int .u64 0,.int .u64 0] 67)).alloc (.cells #[.int .u64 0,.int .u64 0,.int .u64 0,.int .u64 0] 67)):=⟨_,rfl⟩
 have hX:Row .u64 67 w1 (w.heap.size) l:=by
  rw [av]
  unfold Row
  rw [nv_of hx]
  exact (((Holds.fresh w _ _).alloc _).alloc _).alloc _
 have hY:Row .u64 67 w1 (w.heap.size+1) l':=by
  rw [av]
  unfold Row
  rw [nv_of hy]
  have h:=Holds.fresh (w.alloc (.cells #[.int .u64 (x0:Int),.int .u64 (x1:Int),.int .u64 (x2:Int),.int .u64 (x3:Int)] 67)) 67 #[.int .u64 (y0:Int),.int .u64 (y1:Int),.int .u64 (y2:Int),.int .u64 (y3:Int)]
  rw [show (w.alloc (.cells #[.int .u64 (x0:Int),.int .u64 (x1:Int),.int .u64 (x2:Int),.int .u64 (x3:Int)] 67)).heap.size=w.heap.size+1 by simp] at h
  exact (h.alloc _).alloc _
 have hR:Holds w1 (w.heap.size+1+1) 67 #[.int .u64 0,.int .u64 0,.int .u64 0,.int .u64 0]:=by
  rw [av]
  have h:=Holds.fresh ((w.alloc (.cells #[.int .u64 (x0:Int),.int .u64 (x1:Int),.int .u64 (x2:Int),.int .u64 (x3:Int)] 67)).alloc (.cells #[.int .u64 (y0:Int),.int .u64 (y1:Int),.int .u64 (y2:Int),.int .u64 (y3:Int)] 67)) 67 #[.int .u64 0,.int .u64 0,.int .u64 0,.int .u64 0]
  rw [show ((w.alloc (.cells #[.int .u64 (x0:Int),.int .u64 (x1:Int),.int .u64 (x2:Int),.int .u64 (x3:Int)] 67)).alloc (.cells #[.int .u64 (y0:Int),.int .u64 (y1:Int),.int .u64 (y2:Int),.int .u64 (y3:Int)] 67)).heap.size=w.heap.size+1+1 by simp] at h
  exact h.alloc _
 have aE:Row .u64 67 w1 (w.heap.size+1+1+1) (List.replicate 4 0):=by
  rw [av]
  have h:=Holds.fresh (((w.alloc (.cells #[.int .u64 (x0:Int),.int .u64 (x1:Int),.int .u64 (x2:Int),.int .u64 (x3:Int)] 67)).alloc (.cells #[.int .u64 (y0:Int),.int .u64 (y1:Int),.int .u64 (y2:Int),.int .u64 (y3:Int)] 67)).alloc (.cells #[.int .u64 0,.int .u64 0,.int .u64 0,.int .u64 0] 67)) 67 #[.int .u64 0,.int .u64 0,.int .u64 0,.int .u64 0]
  rw [show (((w.alloc (.cells #[.int .u64 (x0:Int),.int .u64 (x1:Int),.int .u64 (x2:Int),.int .u64 (x3:Int)] 67)).alloc (.cells #[.int .u64 (y0:Int),.int .u64 (y1:Int),.int .u64 (y2:Int),.int .u64 (y3:Int)] 67)).alloc (.cells #[.int .u64 0,.int .u64 0,.int .u64 0,.int .u64 0] 67)).heap.size=w.heap.size+1+1+1 by simp] at h
  exact h
 have hb:Below w.heap.size w w1:=by rw [av];exact ((((Below.refl _ _).alloc (Nat.le_refl _) _).alloc (by simp) _).alloc (by simp;omega) _).alloc (by simp;omega) _
 have HS:RelS w l l' (.int .u64 0) (.int .i64 0) w1:=⟨0,0,_,by omega,rfl,rfl,by omega,lH ⟨aE,by simp,D64.noughts 4,by simp [v64],hX,hY,hR,hb⟩⟩
 have aN:=lH hm
 have HXL:=lH hx
 have HYL:=lH hy
 have HW:=lH av
 have HD:=lH hd
 have HD':=lH hd'
 have HL:=lH hl
 have HL':=lH hl'
 have aD:=lH hX0
 have aF:=lH hY0
 unfold nv
 rw [nv_of hx,nv_of hy]
 clear hm hl hl' hd hd' hx hy hX hY hR aE hb av hX0 hY0
 go_enter Tryd.func55,Tryd.ntmps55
 go_wp2_with fail
 rw [←HW.out]
 clear HW
 go_loopw [6,10] (fun o i wr=>RelS w l l' o i wr) (fun _ i _=>4 - (intOf i).toNat)
 case atStart=>exact HS
 case round =>
  obtain ⟨k,c,L,hk,rfl,rfl,hc,H⟩:=hrel
  obtain ⟨hD,ac,ai,hv,hX,hY,hR,hb⟩:=H.out
  by_cases hlt:k<4
  ·have t1:decide ((k:Int)<4)=true:=decide_eq_true (by omega)
   obtain ⟨a,ha⟩:∃ a,a=l.getD k 0:=⟨_,rfl⟩
   obtain ⟨p,hp⟩:∃ p,p=l'.getD k 0:=⟨_,rfl⟩
   have ca:=hX.cell (i:=k) (by rw [HL.out];exact hlt)
   have cp:=hY.cell (i:=k) (by rw [HL'.out];exact hlt)
   rw [←ha] at ca
   rw [←hp] at cp
   have fd:=hD.open_ k
   have cd:=hD.cell (i:=k) (by rw [ac];exact hlt)
   have aw:=run_sub a p c hc
   have ao:a<18446744073709551616:=by rw [ha];exact HD.out.at_ k
   have am:p<18446744073709551616:=by rw [hp];exact HD'.out.at_ k
   have ab:=diff_step (L:=L) (l:=l) (l':=l') (i:=k) (o:=c) (x:=a) (y:=p) (by rw [ac];exact hlt) hc hv ha hp ao am
   obtain ⟨d,hd⟩:∃ d,d=(a+18446744073709551616 - p - c) % 18446744073709551616:=⟨_,rfl⟩
   obtain ⟨c',hc'⟩:∃ x,x=(if a<p+c then 1 else 0:Nat):=⟨_,rfl⟩
   rw [←hd,←hc'] at aw ab
   have ay:c'≤1:=by rw [hc'];split <;> omega
   have ax:=hD.set k d
   have HN:Hid (∀ q,RelS w l l' (.int .u64 (c':Int)) (.int .i64 ((k:Int)+1)) ((wr.setCell ⟨w.heap.size+1+1+1,k,none⟩ (.int .u64 (d:Int))).drewN q)):=lH fun q =>
    ⟨k+1,c',L.set k d,by omega,by push_cast;rfl,rfl,ay,lH ⟨ax,by rw [List.length_set];exact ac,ai.set k d (by rw [hd];exact Nat.mod_lt _ (by omega)),ab,Holds.aside hX (p:=⟨w.heap.size+1+1+1,k,none⟩) (by show w.heap.size≠w.heap.size+1+1+1;omega) _,Holds.aside hY (p:=⟨w.heap.size+1+1+1,k,none⟩) (by show w.heap.size+1≠w.heap.size+1+1+1;omega) _,Holds.aside hR (p:=⟨w.heap.size+1+1+1,k,none⟩) (by show w.heap.size+1+1≠w.heap.size+1+1+1;omega) _,bdN (hb.setCell (p:=⟨w.heap.size+1+1+1,k,none⟩) (by show w.heap.size≤w.heap.size+1+1+1;omega) _) q⟩⟩
   clear hD ac ai hv hX hY hR hb ha hp ao am ab hd hc' ax H
   go_wp2_with fail
   go_region
   all_goals go_wp2_with fail
   all_goals exact ⟨HN 1,by simp [intOf];omega⟩
  ·obtain rfl:k=4:=by omega
   have t1:decide (((4:Nat):Int)<4)=false:=by decide
   obtain ⟨d0,d1,d2,d3,au⟩:=four ac
   rw [v64_all L 4 (by omega),v64_all l 4 (by rw [HL.out];omega),v64_all l' 4 (by rw [HL'.out];omega),q64_4] at hv
   have ak:Holds wr (w.heap.size+1+1+1) 67 #[.int .u64 (d0:Int),.int .u64 (d1:Int),.int .u64 (d2:Int),.int .u64 (d3:Int)]:=by
    have h:=hD
    unfold Row at h
    rwa [nv_of au] at h
   have hlt':v64 L<cR:=by
    have h:=v64_lt ai
    rwa [ac,q64_4] at h
   rcases Nat.eq_zero_or_pos c with h0 | h0
   ·subst h0
    have HE:Hid (nm ((v64 l+(cP - v64 l')) % cP)=L):=lH (by
     have h1:=aD.out
     have h2:=aF.out
     rw [show v64 l+(cP - v64 l')=v64 L+cP by omega,Nat.add_mod_right,Nat.mod_eq_of_lt (by omega)]
     exact (nm_of ai ac rfl).symm)
    have aA:=lH au
    have aB:=lH hR
    have aG:=lH hb
    have t2:(((0:Nat):Int) == 0)=true:=rfl
    have a0:=ak.cell 0
    have a1:=ak.cell 1
    have a2:=ak.cell 2
    have a3:=ak.cell 3
    have z0:=hR.cell 0
    have o0:=hR.open_ 0
    have z1:=hR.cell 1
    have o1:=hR.open_ 1
    have z2:=hR.cell 2
    have o2:=hR.open_ 2
    have z3:=hR.cell 3
    have o3:=hR.open_ 3
    clear hD ac ai hv hX hY hR hb ak H au hlt'
    go_wp2_with fail
    refine ret_num rfl rfl (set4 aB _ _ _ _) rfl ⟨?_,below4 aG (by omega) _ _ _ _⟩
    rw [HE.out,nv_of aA.out]
   ·obtain rfl:c=1:=by omega
    have t2:(((1:Nat):Int) == 0)=false:=rfl
    have HDL:=lH hD
    have aH:=lH ai
    have aJ:=lH ac
    have aB:=lH hR
    have aG:=lH hb
    have aL:Hid (v64 L+v64 l'=v64 l+cR):=lH (by omega)
    have aM:=lH hlt'
    have aC:RelT w L (.int .u64 0) (.int .i64 0) wr:=⟨0,0,L,by omega,rfl,rfl,by omega,lH ⟨hD,ac,ai,by simp [v64],fun j _=>rfl,hR,hb⟩⟩
    obtain ⟨V,hV⟩:∃ V,V=wr:=⟨_,rfl⟩
    subst hV
    clear hD ac ai hv hX hY hR hb ak H au hlt'
    go_wp2_with fail
    go_loopw [8,30] (fun o i wr=>RelT w L o i wr) (fun _ i _=>4 - (intOf i).toNat)
    case atStart=>exact aC
    case round =>
     obtain ⟨k,c,L2,hk,rfl,rfl,hc,H⟩:=hrel
     obtain ⟨hD,ac,ai,hv,ae,hR,hb⟩:=H.out
     clear aC
     by_cases hlt:k<4
     ·have t1:decide ((k:Int)<4)=true:=decide_eq_true (by omega)
      obtain ⟨a,ha⟩:∃ a,a=L.getD k 0:=⟨_,rfl⟩
      obtain ⟨p,hp⟩:∃ p,p=pL.getD k 0:=⟨_,rfl⟩
      have cd:=hD.cell (i:=k) (by rw [ac];exact hlt)
      have cp:=(aN.out.under hb).1.2 k hlt
      rw [ae k (Nat.le_refl _),←ha] at cd
      rw [←hp] at cp
      have fd:=hD.open_ k
      have aw:=run_add a p c hc
      have ao:a<18446744073709551616:=by rw [ha];exact aH.out.at_ k
      have am:p<18446744073709551616:=by
       have:D64 pL:=by unfold D64 pL;decide
       rw [hp];exact this.at_ k
      have ab:=sum_step (L:=L2) (l:=L) (l':=pL) (i:=k) (o:=c) (x:=a) (y:=p) (by rw [ac];exact hlt) hv ha hp
      obtain ⟨d,hd⟩:∃ d,d=(a+p+c) % 18446744073709551616:=⟨_,rfl⟩
      obtain ⟨c',hc'⟩:∃ x,x=(a+p+c) / 18446744073709551616:=⟨_,rfl⟩
      rw [←hd,←hc'] at aw ab
      have ay:c'≤1:=by rw [hc'];omega
      have ax:=hD.set k d
      have HN:Hid (∀ q,RelT w L (.int .u64 (c':Int)) (.int .i64 ((k:Int)+1)) ((wr.setCell ⟨w.heap.size+1+1+1,k,none⟩ (.int .u64 (d:Int))).drewN q)):=lH fun q =>
       ⟨k+1,c',L2.set k d,by omega,by push_cast;rfl,rfl,ay,lH ⟨ax,by rw [List.length_set];exact ac,ai.set k d (by rw [hd];exact Nat.mod_lt _ (by omega)),ab,fun j hj=>by rw [getD_set,if_neg (by omega)];exact ae j (by omega),Holds.aside hR (p:=⟨w.heap.size+1+1+1,k,none⟩) (by show w.heap.size+1+1≠w.heap.size+1+1+1;omega) _,bdN (hb.setCell (p:=⟨w.heap.size+1+1+1,k,none⟩) (by show w.heap.size≤w.heap.size+1+1+1;omega) _) q⟩⟩
      clear hD ac ai hv ae hR hb ha hp ao am ab hd hc' ax H
      go_wp2_with fail
      go_region
      all_goals go_wp2_with fail
      all_goals exact ⟨HN 1,by simp [intOf];omega⟩
     ·obtain rfl:k=4:=by omega
      have t1:decide (((4:Nat):Int)<4)=false:=by decide
      obtain ⟨d0,d1,d2,d3,au⟩:=four ac
      rw [v64_all L2 4 (by omega),v64_all L 4 (by rw [aJ.out];omega),v64_all pL 4 (by decide),q64_4,pL_val] at hv
      have ak:Holds wr (w.heap.size+1+1+1) 67 #[.int .u64 (d0:Int),.int .u64 (d1:Int),.int .u64 (d2:Int),.int .u64 (d3:Int)]:=by
       have h:=hD
       unfold Row at h
       rwa [nv_of au] at h
      have az:v64 L2<cR:=by
       have h:=v64_lt ai
       rwa [ac,q64_4] at h
      have HE:Hid (nm ((v64 l+(cP - v64 l')) % cP)=L2):=lH (by
       have h1:=aD.out
       have h2:=aF.out
       have h3:=aL.out
       have h4:=aM.out
       have h5:=cP_cR
       have h6:v64 L2=v64 l+(cP - v64 l'):=by
        rcases Nat.eq_zero_or_pos c with h | h
        ·subst h;omega
        ·obtain rfl:c=1:=by omega
         omega
       rw [←h6,Nat.mod_eq_of_lt (by omega)]
       exact (nm_of ai ac rfl).symm)
      have aA:=lH au
      have aK:=lH hR
      have aO:=lH hb
      have a0:=ak.cell 0
      have a1:=ak.cell 1
      have a2:=ak.cell 2
      have a3:=ak.cell 3
      have z0:=hR.cell 0
      have o0:=hR.open_ 0
      have z1:=hR.cell 1
      have o1:=hR.open_ 1
      have z2:=hR.cell 2
      have o2:=hR.open_ 2
      have z3:=hR.cell 3
      have o3:=hR.open_ 3
      clear hD ac ai hv ae hR hb ak H au az
      go_wp2_with fail
      refine ret_num rfl rfl (set4 aK _ _ _ _) rfl ⟨?_,below4 aO (by omega) _ _ _ _⟩
      rw [HE.out,nv_of aA.out]
theorem row_step {T0 T b:List Nat} {j o x y z:Nat} (hj:j<T.length) (h:v64 (T.take j)+q64 j*o=v64 (T0.take j)+x*v64 (b.take j)) (hy:y=b.getD j 0) (hz:z=T0.getD j 0) :
  v64 ((T.set j ((x*y+z+o) % 18446744073709551616)).take (j+1))+q64 (j+1)*((x*y+z+o) / 18446744073709551616)=v64 (T0.take (j+1))+x*v64 (b.take (j+1)):=by
 rw [v64_take_set T j _ hj,v64_take_succ T0,v64_take_succ b,←hy,←hz,q64_succ,Nat.mul_add,Nat.mul_left_comm x (q64 j) y]
 have e:q64 j*((x*y+z+o) % 18446744073709551616)+18446744073709551616*q64 j*((x*y+z+o) / 18446744073709551616)=q64 j*(x*y)+q64 j*z+q64 j*o:=by
  rw [Nat.mul_comm 18446744073709551616 (q64 j),Nat.mul_assoc,←Nat.mul_add,Nat.mod_add_div,Nat.mul_add,Nat.mul_add]
 omega
theorem red_step {T0 T:List Nat} {k o m p z:Nat} (hk:k<T.length) (h:18446744073709551616*(v64 (T.take k)+q64 k*o)=v64 (T0.take (k+1))+m*v64 (pL.take (k+1))) (hp:p=pL.getD (k+1) 0) (hz:z=T0.getD (k+1) 0) :
  18446744073709551616*(v64 ((T.set k ((m*p+z+o) % 18446744073709551616)).take (k+1))+q64 (k+1)*((m*p+z+o) / 18446744073709551616))=v64 (T0.take (k+1+1))+m*v64 (pL.take (k+1+1)):=by
 rw [v64_take_set T k _ hk,v64_take_succ T0 (k+1),v64_take_succ pL (k+1),←hp,←hz,Nat.mul_add m,Nat.mul_left_comm m (q64 (k+1)) p]
 have e:q64 k*((m*p+z+o) % 18446744073709551616)+q64 (k+1)*((m*p+z+o) / 18446744073709551616)=q64 k*(m*p)+q64 k*z+q64 k*o:=by
  rw [q64_succ,Nat.mul_comm 18446744073709551616 (q64 k),Nat.mul_assoc,←Nat.mul_add,Nat.mod_add_div,Nat.mul_add,Nat.mul_add]
 have e2:q64 (k+1)*(m*p)=18446744073709551616*(q64 k*(m*p)):=by rw [q64_succ,Nat.mul_assoc]
 have e3:q64 (k+1)*z=18446744073709551616*(q64 k*z):=by rw [q64_succ,Nat.mul_assoc]
 rw [Nat.add_assoc,e,e2,e3]
 omega
theorem round_end {V W V' m x X b i:Nat} (hV:V<2*cP) (hx:x<18446744073709551616) (hm:m<18446744073709551616) (hb:b<cP) (hW:W=V+x*b) (hV':18446744073709551616*V'=W+m*cP) (hmod:V*q64 i % cP=X*b % cP) :
  V' < 2*cP∧V' * q64 (i+1) % cP=(X+q64 i*x)*b % cP:=by
 have h1:x*b≤18446744073709551615*cP:=Nat.mul_le_mul (by omega) (by omega)
 have h2:m*cP≤18446744073709551615*cP:=Nat.mul_le_mul_right _ (by omega)
 refine ⟨by omega,?_⟩
 have e:V' * q64 (i+1)=V*q64 i+q64 i*x*b+cP*(m*q64 i):=by
  have e0:V' * q64 (i+1)=(V+x*b+m*cP)*q64 i:=by rw [q64_succ,←hW,←hV',Nat.mul_comm 18446744073709551616 V',Nat.mul_assoc]
  rw [e0,Nat.add_mul,Nat.add_mul,Nat.mul_comm (q64 i) x,Nat.mul_right_comm x (q64 i) b,Nat.mul_comm m cP,Nat.mul_assoc cP m]
 rw [e,Nat.add_mul_mod_self_left,Nat.add_mod,hmod,←Nat.add_mod,←Nat.add_mul]
theorem sum_end {T0 T b:List Nat} {x c a4 s o:Nat} (hT:T.length=6) (hb:b.length=4) (h:v64 (T.take 4)+q64 4*c=v64 (T0.take 4)+x*v64 (b.take 4)) (ha:a4=T0.getD 4 0) (hs:s=(a4+c) % 18446744073709551616) (ho:o=(a4+c) / 18446744073709551616) :
  v64 (((T.set 4 s).set 5 o).take 6)=v64 (T0.take 5)+x*v64 b:=by
 rw [v64_take_set (T.set 4 s) 5 o (by rw [List.length_set,hT];omega),v64_take_set T 4 s (by rw [hT];omega),v64_take_succ T0 4,←ha,q64_succ 4]
 rw [v64_all b 4 (by omega)] at h
 have e:q64 4*s+18446744073709551616*q64 4*o=q64 4*a4+q64 4*c:=by
  rw [hs,ho,Nat.mul_comm 18446744073709551616 (q64 4),Nat.mul_assoc,←Nat.mul_add,Nat.mod_add_div,Nat.mul_add]
 omega
theorem red_end {S U:List Nat} {m c s e:Nat} (hU:U.length=6) (h:18446744073709551616*(v64 (U.take 3)+q64 3*c)=v64 (S.take 4)+m*v64 (pL.take 4)) (hs:s=(S.getD 4 0+c) % 18446744073709551616) (he:e=S.getD 5 0+(S.getD 4 0+c) / 18446744073709551616) :
  18446744073709551616*v64 (((U.set 3 s).set 4 e).take 5)=v64 (S.take 6)+m*cP:=by
 rw [v64_take_set (U.set 3 s) 4 e (by rw [List.length_set,hU];omega),v64_take_set U 3 s (by rw [hU];omega),v64_take_succ S 5,v64_take_succ S 4]
 rw [v64_all pL 4 (by decide),pL_val] at h
 have q:q64 4=18446744073709551616*q64 3∧q64 5=18446744073709551616*q64 4:=⟨q64_succ 3,q64_succ 4⟩
 have e1:q64 3*s+q64 4*e=q64 4*S.getD 5 0+(q64 3*S.getD 4 0+q64 3*c):=by
  have e0:q64 3*s+q64 4*((S.getD 4 0+c) / 18446744073709551616)=q64 3*S.getD 4 0+q64 3*c:=by
   rw [hs,q.1,Nat.mul_comm 18446744073709551616 (q64 3),Nat.mul_assoc,←Nat.mul_add,Nat.mod_add_div,Nat.mul_add]
  rw [he,Nat.mul_add]
  omega
 have e2:q64 4*S.getD 4 0=18446744073709551616*(q64 3*S.getD 4 0):=by rw [q.1,Nat.mul_assoc]
 have e3:q64 5*S.getD 5 0=18446744073709551616*(q64 4*S.getD 5 0):=by rw [q.2,Nat.mul_assoc]
 rw [e2,e3]
 omega
theorem six {l:List Nat} (h:l.length=6):∃ a b c d e f,l=[a,b,c,d,e,f]:=by
 rcases l with _ | ⟨a,_ | ⟨b,_ | ⟨c,_ | ⟨d,_ | ⟨e,_ | ⟨f,_ | ⟨g,r⟩⟩⟩⟩⟩⟩⟩ <;> first | (simp at h;done) | exact ⟨a,b,c,d,e,f,rfl⟩
def Mk (w:World) (l l':List Nat) (wr:World):Prop:=Row .u64 67 wr (w.heap.size) l∧Row .u64 67 wr (w.heap.size+1) l'∧Holds wr (w.heap.size+1+1) 67 #[.int .u64 0,.int .u64 0,.int .u64 0,.int .u64 0]∧Below w.heap.size w wr
def RelM (w:World) (l l':List Nat) (i:Value) (wr:World):Prop :=
 ∃ (k:Nat) (T:List Nat),k≤4∧i = .int .i64 (k:Int)∧Hid (Row .u64 89 wr (w.heap.size+1+1+1) T∧T.length=6∧D64 T∧v64 (T.take 5)<2*cP∧v64 (T.take 5)*q64 k % cP=v64 (l.take k)*v64 l' % cP∧Mk w l l' wr)
def RelICv5 (w:World) (l l' T0:List Nat) (x:Nat) (o j:Value) (wr:World):Prop :=
 ∃ (k c:Nat) (T:List Nat),k≤4∧j = .int .i64 (k:Int)∧o = .int .u64 (c:Int)∧c<18446744073709551616∧Hid (Row .u64 89 wr (w.heap.size+1+1+1) T∧T.length=6∧D64 T∧v64 (T.take k)+q64 k*c=v64 (T0.take k)+x*v64 (l'.take k)∧(∀ j,k≤j→T.getD j 0=T0.getD j 0)∧Mk w l l' wr)
def RelJ (w:World) (l l' T0:List Nat) (m:Nat) (o j:Value) (wr:World):Prop :=
 ∃ (k c:Nat) (T:List Nat),k≤3∧j = .int .i64 ((k:Int)+1)∧o = .int .u64 (c:Int)∧c<18446744073709551616∧Hid (Row .u64 89 wr (w.heap.size+1+1+1) T∧T.length=6∧D64 T∧18446744073709551616*(v64 (T.take k)+q64 k*c)=v64 (T0.take (k+1))+m*v64 (pL.take (k+1))∧(∀ j,k≤j→T.getD j 0=T0.getD j 0)∧Mk w l l' wr)
theorem Mk.store {w wr:World} {l l':List Nat} (h:Mk w l l' wr) (k:Nat) (v:Value) (q:Nat):Mk w l l' ((wr.setCell ⟨w.heap.size+1+1+1,k,none⟩ v).drewN q) :=
 ⟨Holds.aside h.1 (p:=⟨w.heap.size+1+1+1,k,none⟩) (by show w.heap.size≠w.heap.size+1+1+1;omega) _,Holds.aside h.2.1 (p:=⟨w.heap.size+1+1+1,k,none⟩) (by show w.heap.size+1≠w.heap.size+1+1+1;omega) _,Holds.aside h.2.2.1 (p:=⟨w.heap.size+1+1+1,k,none⟩) (by show w.heap.size+1+1≠w.heap.size+1+1+1;omega) _,bdN (h.2.2.2.setCell (p:=⟨w.heap.size+1+1+1,k,none⟩) (by show w.heap.size≤w.heap.size+1+1+1;omega) _) q⟩
theorem mulF_any (w:World) (hm:CMet w) (l l':List Nat) (hl:l.length=4) (hl':l'.length=4) (hd:D64 l) (hd':D64 l') (hY0:v64 l' < cP) :
  Calls Tryd.prog 56 #[nv l,nv l'] w fun e w'=>e = .returned (nv (nm (mm (v64 l) (v64 l'))))∧Below w.heap.size w w':=by
 obtain ⟨x0,x1,x2,x3,hx⟩:=four hl
 obtain ⟨y0,y1,y2,y3,hy⟩:=four hl'
 obtain ⟨w1,aB⟩:∃ W,W=((((w.alloc (.cells #[.int .u64 (x0:Int),.int .u64 (x1:Int),.int .u64 (x2:Int),.int .u64 (x3:Int)] 67)).alloc (.cells #[.int .u64 (y0:Int),.int .u64 (y1:Int),.int .u64 (y2:Int),.int .u64 (y3:Int)] 67)).alloc (.cells #[.int .u64 0,.int .u64 0,.int .u64 0,.int .u64 0] 67)).alloc (.cells #[.int .u64 0,.int .u64 0,.int .u64 0,.int .u64 0,.int .u64 0,.int .u64 0] 89)):=⟨_,rfl⟩
 have hX:Row .u64 67 w1 (w.heap.size) l:=by
  rw [aB]
  unfold Row
  rw [nv_of hx]
  exact (((Holds.fresh w _ _).alloc _).alloc _).alloc _
 have hY:Row .u64 67 w1 (w.heap.size+1) l':=by
  rw [aB]
  unfold Row
  rw [nv_of hy]
  have h:=Holds.fresh (w.alloc (.cells #[.int .u64 (x0:Int),.int .u64 (x1:Int),.int .u64 (x2:Int),.int .u64 (x3:Int)] 67)) 67 #[.int .u64 (y0:Int),.int .u64 (y1:Int),.int .u64 (y2:Int),.int .u64 (y3:Int)]
  rw [show (w.alloc (.cells #[.int .u64 (x0:Int),.int .u64 (x1:Int),.int .u64 (x2:Int),.int .u64 (x3:Int)] 67)).heap.size=w.heap.size+1 by simp] at h
  exact (h.alloc _).alloc _
 have hR:Holds w1 (w.heap.size+1+1) 67 #[.int .u64 0,.int .u64 0,.int .u64 0,.int .u64 0]:=by
  rw [aB]
  have h:=Holds.fresh ((w.alloc (.cells #[.int .u64 (x0:Int),.int .u64 (x1:Int),.int .u64 (x2:Int),.int .u64 (x3:Int)] 67)).alloc (.cells #[.int .u64 (y0:Int),.int .u64 (y1:Int),.int .u64 (y2:Int),.int .u64 (y3:Int)] 67)) 67 #[.int .u64 0,.int .u64 0,.int .u64 0,.int .u64 0]
  rw [show ((w.alloc (.cells #[.int .u64 (x0:Int),.int .u64 (x1:Int),.int .u64 (x2:Int),.int .u64 (x3:Int)] 67)).alloc (.cells #[.int .u64 (y0:Int),.int .u64 (y1:Int),.int .u64 (y2:Int),.int .u64 (y3:Int)] 67)).heap.size=w.heap.size+1+1 by simp] at h
  exact h.alloc _
 have bd:Row .u64 89 w1 (w.heap.size+1+1+1) (List.replicate 6 0):=by
  rw [aB]
  have h:=Holds.fresh (((w.alloc (.cells #[.int .u64 (x0:Int),.int .u64 (x1:Int),.int .u64 (x2:Int),.int .u64 (x3:Int)] 67)).alloc (.cells #[.int .u64 (y0:Int),.int .u64 (y1:Int),.int .u64 (y2:Int),.int .u64 (y3:Int)] 67)).alloc (.cells #[.int .u64 0,.int .u64 0,.int .u64 0,.int .u64 0] 67)) 89 #[.int .u64 0,.int .u64 0,.int .u64 0,.int .u64 0,.int .u64 0,.int .u64 0]
  rw [show (((w.alloc (.cells #[.int .u64 (x0:Int),.int .u64 (x1:Int),.int .u64 (x2:Int),.int .u64 (x3:Int)] 67)).alloc (.cells #[.int .u64 (y0:Int),.int .u64 (y1:Int),.int .u64 (y2:Int),.int .u64 (y3:Int)] 67)).alloc (.cells #[.int .u64 0,.int .u64 0,.int .u64 0,.int .u64 0] 67)).heap.size=w.heap.size+1+1+1 by simp] at h
  exact h
 have hb:Below w.heap.size w w1:=by rw [aB];exact ((((Below.refl _ _).alloc (Nat.le_refl _) _).alloc (by simp) _).alloc (by simp;omega) _).alloc (by simp;omega) _
 have HS:RelM w l l' (.int .i64 0) w1:=⟨0,_,by omega,rfl,lH ⟨bd,by simp,D64.noughts 6,by rw [show (List.replicate 6 0).take 5=List.replicate 5 0 from rfl,v64_noughts];decide +kernel,by rw [show (List.replicate 6 0).take 5=List.replicate 5 0 from rfl,v64_noughts];simp [v64],hX,hY,hR,hb⟩⟩
 have a8:=lH hm
 have HW:=lH aB
 have HD:=lH hd
 have HD':=lH hd'
 have HL:=lH hl
 have HL':=lH hl'
 have bB:=lH hY0
 unfold nv
 rw [nv_of hx,nv_of hy]
 clear hm hl hl' hd hd' hx hy hX hY hR bd hb aB hY0
 go_enter Tryd.func56,Tryd.ntmps56
 go_wp2_with fail
 rw [←HW.out]
 clear HW
 go_loopw [11] (fun i wr=>RelM w l l' i wr) (fun i _=>4 - (intOf i).toNat)
 case atStart=>exact HS
 case round =>
  obtain ⟨i,T0,hi,rfl,H⟩:=hrel
  clear HS
  obtain ⟨V,hV⟩:∃ V,V=wr:=⟨_,rfl⟩
  subst hV
  by_cases hlt:i<4
  case pos =>
   have t1:decide ((i:Int)<4)=true:=decide_eq_true (by omega)
   obtain ⟨x,hx⟩:∃ a,a=l.getD i 0:=⟨_,rfl⟩
   have aG:x<18446744073709551616:=by rw [hx];exact HD.out.at_ i
   have HX:=lH hx
   have bu:RelICv5 w l l' T0 x (.int .u64 0) (.int .i64 0) V:=⟨0,0,T0,by omega,rfl,rfl,by omega,lH ⟨H.out.1,H.out.2.1,H.out.2.2.1,by simp [v64],fun j _=>rfl,H.out.2.2.2.2.2⟩⟩
   clear hx
   go_wp2_with fail
   go_loopw [7,14] (fun o j wr=>RelICv5 w l l' T0 x o j wr) (fun _ j _=>4 - (intOf j).toNat)
   case atStart=>exact bu
   case round =>
    obtain ⟨k,c,T,hk,rfl,rfl,hc,HH⟩:=hrel
    clear bu
    obtain ⟨hT,ac,ak,hv,ab,hX,hY,hR,hb⟩:=HH.out
    by_cases hkl:k<4
    case pos =>
     have t2:decide ((k:Int)<4)=true:=decide_eq_true (by omega)
     obtain ⟨y,hy⟩:∃ a,a=l'.getD k 0:=⟨_,rfl⟩
     obtain ⟨z,hz⟩:∃ a,a=T0.getD k 0:=⟨_,rfl⟩
     have cx:=hX.cell (i:=i) (by rw [HL.out];exact hlt)
     have cy:=hY.cell (i:=k) (by rw [HL'.out];exact hkl)
     have cz:=hT.cell (i:=k) (by rw [ac];omega)
     rw [←HX.out] at cx
     rw [←hy] at cy
     rw [ab k (Nat.le_refl _),←hz] at cz
     have fz:=hT.open_ k
     have a9:y<18446744073709551616:=by rw [hy];exact HD'.out.at_ k
     have aC:z<18446744073709551616:=by rw [hz];exact H.out.2.2.1.at_ k
     have ai:=row_step (T:=T) (T0:=T0) (b:=l') (j:=k) (o:=c) (x:=x) (y:=y) (z:=z) (by rw [ac];omega) hv hy hz
     have au:=(product_any wr.drew x y z c aG a9 aC hc).mono fun e w' h=>(⟨h.1,h.2.symm⟩:_∧w'=wr.drew)
     obtain ⟨d,hd⟩:∃ d,d=(x*y+z+c) % 18446744073709551616:=⟨_,rfl⟩
     obtain ⟨c',hc'⟩:∃ d,d=(x*y+z+c) / 18446744073709551616:=⟨_,rfl⟩
     rw [←hd,←hc'] at ai au
     have aD:c' < 18446744073709551616:=by
      have:x*y≤18446744073709551615*18446744073709551615:=Nat.mul_le_mul (by omega) (by omega)
      rw [hc'];omega
     have aV:=hT.set k d
     have HN:Hid (RelICv5 w l l' T0 x (.int .u64 (c':Int)) (.int .i64 ((k:Int)+1)) (wr.drew.setCell ⟨w.heap.size+1+1+1,k,none⟩ (.int .u64 (d:Int)))):=lH
      ⟨k+1,c',T.set k d,by omega,by push_cast;rfl,rfl,aD,lH ⟨aV,by rw [List.length_set];exact ac,ak.set k d (by rw [hd];exact Nat.mod_lt _ (by omega)),ai,fun j hj=>by rw [getD_set,if_neg (by omega)];exact ab j (by omega),HH.out.2.2.2.2.2.store k _ 1⟩⟩
     have bC:k<6:=by omega
     have b1:(k:Int)<6:=by omega
     have b2:(k:Int)<4:=by omega
     have b3:(i:Int)<4:=by omega
     have b4:(0:Int)≤k:=by omega
     have b5:(0:Int)≤i:=by omega
     clear hT ac ak hv ab hX hY hR hb hy hz ai hd hc' aV HH
     go_wp2_with fail
     go_still_tail 17,(by kernel_rfl)
     still_call au
     repeat still_step
     refine wpStill_nil ?_
     change wpList _ _ _ _ _ wr.drew
     have bA:wr.drew.frozen? ⟨w.heap.size+1+1+1,k,none⟩=false:=fz
     have bw:wr.drew.cell? ⟨w.heap.size+1+1+1,k,none⟩=some (.int .u64 (z:Int)):=cz
     clear fz cz cx cy au
     generalize wr.drew=wd at *
     go_wp2_with fail
     go_roundw
     ·exact HN.out
     ·simp [intOf];omega
    case neg =>
     obtain rfl:k=4:=by omega
     have t2:decide (((4:Nat):Int)<4)=false:=by decide
     obtain ⟨a4,aX⟩:∃ a,a=T0.getD 4 0:=⟨_,rfl⟩
     have c4:=hT.cell (i:=4) (by rw [ac];omega)
     have c5:=hT.cell (i:=5) (by rw [ac];omega)
     rw [ab 4 (Nat.le_refl _),←aX] at c4
     have f4:=hT.open_ 4
     have f5:=hT.open_ 5
     have ha64:a4<18446744073709551616:=by rw [aX];exact H.out.2.2.1.at_ 4
     have aw:=run_add0 a4 c
     obtain ⟨s,hs⟩:∃ d,d=(a4+c) % 18446744073709551616:=⟨_,rfl⟩
     obtain ⟨o,ho⟩:∃ d,d=(a4+c) / 18446744073709551616:=⟨_,rfl⟩
     rw [←hs,←ho] at aw
     have hS:=(hT.set 4 s).set 5 o
     have aO:Hid (((T.set 4 s).set 5 o).length=6∧D64 ((T.set 4 s).set 5 o)):=lH ⟨by simp [ac],(ak.set 4 s (by rw [hs];exact Nat.mod_lt _ (by omega))).set 5 o (by rw [ho];omega)⟩
     have bl:Hid (Mk w l l' ((wr.setCell ⟨w.heap.size+1+1+1,4,none⟩ (.int .u64 (s:Int))).setCell ⟨w.heap.size+1+1+1,5,none⟩ (.int .u64 (o:Int)))):=lH ((HH.out.2.2.2.2.2.store 4 _ 0).store 5 _ 0)
     have bs:=lH hS
     have HT:=lH (⟨ac,hs,ho⟩:T.length=6∧_∧_)
     have HV:=lH (⟨hv,ab⟩:_∧_)
     have bn:=lH aX
     obtain ⟨m,hm⟩:∃ a,a=((T.set 4 s).set 5 o).getD 0 0:=⟨_,rfl⟩
     have am:m<18446744073709551616:=by rw [hm];exact aO.out.2.at_ 0
     have m0:=hS.cell (i:=0) (by rw [aO.out.1];omega)
     rw [←hm] at m0
     have bk:=(a8.out.under bl.out.2.2.2).1.2 0 (by omega)
     rw [show pL.getD 0 0=18446744073709551615 from by decide] at bk
     have au:Calls Tryd.prog 83 #[.int .u64 (m:Int),.int .u64 18446744073709551615,.int .u64 (m:Int),.int .u64 0] ((wr.setCell ⟨w.heap.size+1+1+1,4,none⟩ (.int .u64 (s:Int))).setCell ⟨w.heap.size+1+1+1,5,none⟩ (.int .u64 (o:Int))) fun e w'=>e = .returned (.tuple #[.int .u64 (m:Int),.int .u64 0])∧w'=((wr.setCell ⟨w.heap.size+1+1+1,4,none⟩ (.int .u64 (s:Int))).setCell ⟨w.heap.size+1+1+1,5,none⟩ (.int .u64 (o:Int))) :=
      (product_any _ m 18446744073709551615 m 0 am (by omega) am (by omega)).mono fun e w' h=>⟨by rw [h.1,show (m*18446744073709551615+m+0) / 18446744073709551616=m by omega,show (m*18446744073709551615+m+0) % 18446744073709551616=0 by omega];rfl,h.2.symm⟩
     have HM:=lH hm
     clear hT ac ak hv ab hX hY hR hb aX hs ho hS HH hm
     go_wp2_with fail
     refine au.mono ?_
     rintro e w2 ⟨rfl,rfl⟩
     clear au m0 bk c4 c5 f4 f5 aw
     obtain ⟨S,bc⟩:∃ S,S=(T.set 4 s).set 5 o:=⟨_,rfl⟩
     have aT:=lH (sum_end HT.out.1 HL' HV.out.1 bn HT.out.2.1 HT.out.2.2)
     have ax:=lH (⟨aO.out.1,aO.out.2,bs,HM⟩:_∧_∧_∧_)
     clear aO bs HM HV HT bn
     rw [←bc] at aT ax
     clear bc
     generalize ((wr.setCell ⟨w.heap.size+1+1+1,4,none⟩ (.int .u64 (s:Int))).setCell ⟨w.heap.size+1+1+1,5,none⟩ (.int .u64 (o:Int)))=V2 at *
     have br:RelJ w l l' S m (.int .u64 (m:Int)) (.int .i64 1) V2:=⟨0,m,S,by omega,rfl,rfl,am,lH ⟨ax.out.2.2.1,ax.out.1,ax.out.2.1,by
      rw [v64_take_succ S 0,v64_take_succ pL 0,←ax.out.2.2.2,show pL.getD 0 0=18446744073709551615 from by decide]
      simp only [List.take_zero,v64,q64,Nat.pow_zero]
      omega,fun _ _=>rfl,bl⟩⟩
     go_wp2_with fail
     go_loopw [7,10] (fun o j wr=>RelJ w l l' S m o j wr) (fun _ j _=>4 - (intOf j).toNat)
     case atStart=>exact br
     case round =>
      obtain ⟨k,c,U,hk,rfl,rfl,hc,HH⟩:=hrel
      clear br
      obtain ⟨hT,ac,ak,hv,ab,aR⟩:=HH.out
      by_cases hkl:k<3
      case pos =>
       have t3:decide ((k:Int)+1<4)=true:=decide_eq_true (by omega)
       obtain ⟨p,hp⟩:∃ a,a=pL.getD (k+1) 0:=⟨_,rfl⟩
       obtain ⟨z,hz⟩:∃ a,a=S.getD (k+1) 0:=⟨_,rfl⟩
       have cp:=(a8.out.under aR.2.2.2).1.2 (k+1) (by omega)
       have cz:=hT.cell (i:=k+1) (by rw [ac];omega)
       have ck:=hT.cell (i:=k) (by rw [ac];omega)
       rw [←hp] at cp
       rw [ab (k+1) (by omega),←hz] at cz
       have fz:=hT.open_ k
       have aY:p<18446744073709551616:=by
        have:D64 pL:=by unfold D64 pL;decide
        rw [hp];exact this.at_ _
       have aC:z<18446744073709551616:=by rw [hz];exact ax.out.2.1.at_ (k+1)
       have ai:=red_step (T:=U) (T0:=S) (k:=k) (o:=c) (m:=m) (p:=p) (z:=z) (by rw [ac];omega) hv hp hz
       have au:=(product_any wr.drew m p z c am aY aC hc).mono fun e w' h=>(⟨h.1,h.2.symm⟩:_∧w'=wr.drew)
       obtain ⟨d,hd⟩:∃ d,d=(m*p+z+c) % 18446744073709551616:=⟨_,rfl⟩
       obtain ⟨c',hc'⟩:∃ d,d=(m*p+z+c) / 18446744073709551616:=⟨_,rfl⟩
       rw [←hd,←hc'] at ai au
       have aD:c' < 18446744073709551616:=by
        have:m*p≤18446744073709551615*18446744073709551615:=Nat.mul_le_mul (by omega) (by omega)
        rw [hc'];omega
       have aV:=hT.set k d
       have HN:Hid (RelJ w l l' S m (.int .u64 (c':Int)) (.int .i64 ((k:Int)+1+1)) (wr.drew.setCell ⟨w.heap.size+1+1+1,k,none⟩ (.int .u64 (d:Int)))):=lH
        ⟨k+1,c',U.set k d,by omega,by push_cast;rfl,rfl,aD,lH ⟨aV,by rw [List.length_set];exact ac,ak.set k d (by rw [hd];exact Nat.mod_lt _ (by omega)),ai,fun j hj=>by rw [getD_set,if_neg (by omega)];exact ab j (by omega),aR.store k _ 1⟩⟩
       have bC:k<6:=by omega
       have b1:(k:Int)<6:=by omega
       have b2:(k:Int)+1<4:=by omega
       have b3:(k:Int)+1<6:=by omega
       have b4:(0:Int)≤k:=by omega
       have b5:(0:Int)≤(k:Int)+1:=by omega
       have hwk:IntKind.i64.wrap (k:Int)=(k:Int):=IntWalk.i64_in _ (by omega)
       have htn:((k:Int)+1).toNat=k+1:=by omega
       have bA:wr.drew.frozen? ⟨w.heap.size+1+1+1,k,none⟩=false:=fz
       have bw:wr.drew.cell? ⟨w.heap.size+1+1+1,k,none⟩=some (.int .u64 ((U.getD k 0:Nat):Int)):=ck
       clear hT ac ak hv ab aR hp hz ai hd hc' aV HH
       go_wp2_with fail
       go_still_tail 16,(by kernel_rfl)
       still_call au
       repeat still_step
       refine wpStill_nil ?_
       change wpList _ _ _ _ _ wr.drew
       clear fz cz cp ck au
       generalize wr.drew=wd at *
       go_wp2_with fail
       go_roundw
       ·exact HN.out
       ·simp [intOf];omega
      case neg =>
       obtain rfl:k=3:=by omega
       have t3:decide (((3:Nat):Int)+1<4)=false:=by decide
       obtain ⟨b4,aH⟩:∃ a,a=S.getD 4 0:=⟨_,rfl⟩
       obtain ⟨b5,aW⟩:∃ a,a=S.getD 5 0:=⟨_,rfl⟩
       have aK:b4<18446744073709551616:=by rw [aH];exact ax.out.2.1.at_ 4
       have aN:b5<18446744073709551616:=by rw [aW];exact ax.out.2.1.at_ 5
       have aw:=run_add0 b4 c
       obtain ⟨s',hs'⟩:∃ d,d=(b4+c) % 18446744073709551616:=⟨_,rfl⟩
       obtain ⟨o',ho'⟩:∃ d,d=(b4+c) / 18446744073709551616:=⟨_,rfl⟩
       obtain ⟨e,he⟩:∃ d,d=b5+o':=⟨_,rfl⟩
       have aM:=red_end (S:=S) (U:=U) (m:=m) (c:=c) (s:=s') (e:=e) ac hv (by rw [hs',aH]) (by rw [he,ho',aH,aW])
       have ae:=round_end (V:=v64 (T0.take 5)) (m:=m) (x:=x) (X:=v64 (l.take i)) (b:=v64 l') (i:=i) H.out.2.2.2.1 aG am bB aT aM H.out.2.2.2.2.1
       rw [show v64 (l.take i)+q64 i*x=v64 (l.take (i+1)) by rw [v64_take_succ,HX.out]] at ae
       have az:(((U.set 3 s').set 4 e)).length=6:=by simp [ac]
       have bD:e≤1:=by
        have h1:=ae.1
        rw [v64_take_set (U.set 3 s') 4 e (by rw [List.length_set,ac];omega),q64_4] at h1
        unfold cP cR at h1
        omega
       rw [←hs',←ho'] at aw
       have k4:=hT.cell (i:=4) (by rw [ac];omega)
       have k3:=hT.cell (i:=3) (by rw [ac];omega)
       rw [ab 4 (by omega),←aH] at k4
       have f3:=hT.open_ 3
       have aL:=hT.set 3 s'
       have bv:=aR.store 3 (.int .u64 (s':Int)) 0
       have k5:=aL.cell (i:=5) (by simp [ac])
       rw [getD_set,if_neg (by omega),ab 5 (by omega),←aW] at k5
       have k4':=aL.cell (i:=4) (by simp [ac])
       have f4':=aL.open_ 4
       have hwe:IntKind.u64.wrap ((b5:Int)+(o':Int))=(e:Int):=by rw [←Int.natCast_add,←he];exact IntWalk.u64_in _ (by omega)
       have aQ:s' < 18446744073709551616:=by rw [hs'];exact Nat.mod_lt _ (by omega)
       have HN:Hid (RelM w l l' (.int .i64 ((i:Int)+1)) ((wr.setCell ⟨w.heap.size+1+1+1,3,none⟩ (.int .u64 (s':Int))).setCell ⟨w.heap.size+1+1+1,4,none⟩ (.int .u64 (e:Int)))):=lH
        ⟨i+1,(U.set 3 s').set 4 e,by omega,by push_cast;rfl,lH ⟨aL.set 4 e,az,(ak.set 3 s' aQ).set 4 e (by omega),ae.1,ae.2,bv.store 4 _ 0⟩⟩
       clear hT ac ak hv ab aR HH aH aW aK aN hs' ho' he aM ae az bD aL bv aQ
       go_wp2_with fail
       exact ⟨HN,by simp [intOf];omega⟩
  case neg =>
   obtain rfl:i=4:=by omega
   have t1:decide (((4:Nat):Int)<4)=false:=by decide
   obtain ⟨hT,ac,ak,aA,av,hX,hY,hR,hb⟩:=H.out
   obtain ⟨d0,d1,d2,d3,d4,d5,aF⟩:=six ac
   have bm:D64 [d0,d1,d2,d3]:=by
    have h:=ak.take 4
    rwa [aF] at h
   have h5:v64 (T0.take 5)=v64 [d0,d1,d2,d3] + cR*d4:=by
    rw [aF,v64_take_succ,q64_4]
    rfl
   have ay:d4<18446744073709551616:=by
    have h:=ak.at_ 4
    rwa [aF] at h
   rw [h5] at aA av
   rw [v64_all l 4 (by rw [HL.out];omega),q64_4] at av
   have aU:=mm_of (a:=v64 l) (b:=v64 l') (Nat.mod_lt (v64 [d0,d1,d2,d3] + cR*d4) cP_pos) ((mod_mul_left (Nat.mod_mod _ _)).trans av)
   have aE:Holds V (w.heap.size+1+1+1) 89 #[.int .u64 (d0:Int),.int .u64 (d1:Int),.int .u64 (d2:Int),.int .u64 (d3:Int),.int .u64 (d4:Int),.int .u64 (d5:Int)]:=by
    have h:=hT
    unfold Row at h
    rw [aF] at h
    exact h
   have aJ:=once_any V (a8.out.under hb) [d0,d1,d2,d3] rfl bm d4 ay aA
   rw [aU] at aJ
   obtain ⟨n0,n1,n2,n3,hn⟩:=four (nm_len (mm (v64 l) (v64 l')))
   unfold nv at aJ
   rw [nv_of rfl,nv_of hn] at aJ
   have bz:=lH hn
   have a_:=lH aJ
   have ba:=lH hR
   have bt:=lH hb
   have a0:=aE.cell 0
   have a1:=aE.cell 1
   have a2:=aE.cell 2
   have a3:=aE.cell 3
   have a4:=aE.cell 4
   clear hT ac ak aA av hX hY hR hb aF bm h5 ay aU aE aJ hn H
   go_wp2_with fail
   trace_state
   refine a_.out.mono ?_
   rintro e w2 ⟨rfl,a6⟩
   have ao:=ba.out.under a6 ba.out.lt
   have bx:=lH ao
   have bF:=lH (bt.out.trans (a6.mono bt.out.size))
   clear a0 a1 a2 a3 a4 a6 a_
   have z0:=ao.cell 0
   have o0:=ao.open_ 0
   have z1:=ao.cell 1
   have o1:=ao.open_ 1
   have z2:=ao.cell 2
   have o2:=ao.open_ 2
   have z3:=ao.cell 3
   have o3:=ao.open_ 3
   have bf:∀ p q r s,Below w.heap.size w ((((w2.setCell ⟨w.heap.size+1+1,0,none⟩ p).setCell ⟨w.heap.size+1+1,1,none⟩ q).setCell ⟨w.heap.size+1+1,2,none⟩ r).setCell ⟨w.heap.size+1+1,3,none⟩ s):=fun p q r s=>below4 bF (by omega) p q r s
   have bE:=lH bf
   clear ao bf
   go_wp2_with fail
   refine ret_num rfl rfl (set4 bx _ _ _ _) rfl ⟨?_,bE _ _ _ _⟩
   rw [bz.out,nv_of rfl]
theorem pw_even (q:Nat):pw (2*q)=q64 q:=by
 induction q with
 | zero=>rfl
 | succ q ih=>rw [q64_succ,←ih,show 2*(q+1)=2*q+1+1 by omega,pw_succ,pw_succ];omega
theorem pw_odd (q:Nat):pw (2*q+1)=q64 q*4294967296:=by rw [←pw_even,pw_succ];omega
theorem v64_set (l:List Nat) (i x:Nat) (h:i<l.length):v64 (l.set i (l.getD i 0+x))=v64 l+q64 i*x:=by
 have e1:v64 (l.set i (l.getD i 0+x))=v64 ((l.set i (l.getD i 0+x)).take (i+1))+q64 (i+1)*v64 (l.drop (i+1)):=by
  have h1:=v64_append ((l.set i (l.getD i 0+x)).take (i+1)) ((l.set i (l.getD i 0+x)).drop (i+1))
  rw [List.take_append_drop,List.drop_set_of_lt (by omega),List.length_take,List.length_set,Nat.min_eq_left (by omega)] at h1
  exact h1
 have e2:v64 l=v64 (l.take (i+1))+q64 (i+1)*v64 (l.drop (i+1)):=by
  have h1:=v64_append (l.take (i+1)) (l.drop (i+1))
  rw [List.take_append_drop,List.length_take,Nat.min_eq_left (by omega)] at h1
  exact h1
 rw [v64_take_set l i _ h] at e1
 rw [v64_take_succ] at e2
 rw [e1,e2,Nat.mul_add]
 omega
theorem or_even (d:Nat) (hd:d<4294967296):bits .or .u64 0 (d:Int)=(d:Int):=by
 have h:=u64_or_nat 0 d (by omega) (by omega)
 rw [Nat.zero_or] at h
 exact h
theorem or_odd (y d:Nat) (hy:y<4294967296) (hd:d<4294967296):bits .or .u64 (y:Int) ((d:Int)*4294967296)=((y+d*4294967296:Nat):Int):=by
 have h:=u64_or_nat y (d*4294967296) (by omega) (by omega)
 rw [show (y ||| d*4294967296)=d*4294967296+y from or_shift d 32 y (by omega),Nat.add_comm] at h
 rw [show ((d:Int)*4294967296)=((d*4294967296:Nat):Int) by omega,h]
def RelE (w:World) (l:List Nat) (B c:Nat) (A:Option Addr) (i:Value) (wr:World):Prop :=
 ∃ (k:Nat) (L:List Nat),k≤l.length∧i = .int .i64 (k:Int)∧Hid (Row .u64 67 wr (w.heap.size+1) L∧L.length=4∧D64 L∧v64 L=val (l.take k)∧(∀ j,k≤2*j→L.getD j 0=0)∧(k % 2=1→L.getD (k / 2) 0<4294967296) ∧
  Rd .u32 wr B A c l∧Holds wr w.heap.size 67 #[.int .u64 0,.int .u64 0,.int .u64 0,.int .u64 0]∧Below w.heap.size w wr)
theorem enter_any (w:World) (hm:CMet w) (B c:Nat) (A:Option Addr) (l:List Nat) (hB:B≤w.heap.size) (hrd:Rd .u32 w B A c l) (hl:l.length≤8) (hd:Dg l) :
  Calls Tryd.prog 54 #[.slice A l.length c] w fun e w'=>e = .returned (nv (nm (mm (val l) (v64 sL))))∧Below w.heap.size w w':=by
 obtain ⟨w1,az⟩:∃ W,W=((w.alloc (.cells #[.int .u64 0,.int .u64 0,.int .u64 0,.int .u64 0] 67)).alloc (.cells #[.int .u64 0,.int .u64 0,.int .u64 0,.int .u64 0] 67)):=⟨_,rfl⟩
 have hR:Holds w1 w.heap.size 67 #[.int .u64 0,.int .u64 0,.int .u64 0,.int .u64 0]:=by
  rw [az]
  exact (Holds.fresh w _ _).alloc _
 have hT:Row .u64 67 w1 (w.heap.size+1) (List.replicate 4 0):=by
  rw [az]
  have h:=Holds.fresh (w.alloc (.cells #[.int .u64 0,.int .u64 0,.int .u64 0,.int .u64 0] 67)) 67 #[.int .u64 0,.int .u64 0,.int .u64 0,.int .u64 0]
  rw [show (w.alloc (.cells #[.int .u64 0,.int .u64 0,.int .u64 0,.int .u64 0] 67)).heap.size=w.heap.size+1 by simp] at h
  exact h
 have hb:Below w.heap.size w w1:=by rw [az];exact ((Below.refl _ _).alloc (Nat.le_refl _) _).alloc (by simp) _
 have HS:RelE w l B c A (.int .i64 0) w1:=⟨0,_,by omega,rfl,lH ⟨hT,by simp,D64.noughts 4,by rw [v64_noughts];simp [val],fun j _=>getD_noughts 4 j,fun h=>by omega,hrd.under (hb.mono hB),hR,hb⟩⟩
 have aR:=lH hm
 have HW:=lH az
 have HD:=lH hd
 have HL:=lH hl
 clear hm hd hR hT hb az hrd
 go_enter Tryd.func54,Tryd.ntmps54
 go_wp2_with fail
 rw [←HW.out]
 clear HW
 go_loopw [8] (fun i wr=>RelE w l B c A i wr) (fun i _=>l.length - (intOf i).toNat)
 case atStart=>exact HS
 case round =>
  obtain ⟨k,L,hk,rfl,H⟩:=hrel
  clear HS
  obtain ⟨hT,ae,aw,hv,hz,ho,hrd,hR,hb⟩:=H.out
  by_cases hlt:k<l.length
  case pos =>
   have t1:decide ((k:Int)<(l.length:Int))=true:=decide_eq_true (by omega)
   obtain ⟨b,aK,d,hA,hbB,cd,Hx⟩:=hrd.at_ hlt
   subst hA
   have hd:=Hx.out
   have av:d<4294967296:=by rw [hd];exact HD.out.at_ k
   have aM:=Hx
   clear hd Hx
   rcases Nat.mod_two_eq_zero_or_one k with hpar | hpar
   ·obtain ⟨q,aB⟩:∃ q,k=2*q:=⟨k / 2,by omega⟩
    have hq:q<4:=by omega
    have aG:=hz q (by omega)
    have hy:=hT.cell (i:=q) (by rw [ae];exact hq)
    rw [aG] at hy
    have q2:Int.tmod (k:Int) 2=0:=by rw [Int.tmod_eq_emod_of_nonneg (by omega)];omega
    have aC:=or_even d av
    have ab:=v64_set L q d (by rw [ae];exact hq)
    rw [aG,Nat.zero_add] at ab
    obtain ⟨t,ht⟩:∃ t,t=d:=⟨_,rfl⟩
    have am:t<18446744073709551616:=by omega
    replace aC:bits .or .u64 0 (d:Int)=(t:Int):=by rw [aC,ht]
    rw [←ht] at ab
    have ao:v64 L+q64 q*t=val (l.take (k+1)):=by rw [hv,val_take_succ,←aM.out,aB,pw_even,ht]
    have ak:(k+1) % 2=1→(L.set q t).getD ((k+1) / 2) 0<4294967296:=fun _=>by rw [show (k+1) / 2=q by omega,getD_set,if_pos ⟨rfl,by rw [ae];exact hq⟩,ht];exact av
    have fy:=hT.open_ q
    have q1:Int.tdiv (k:Int) 2=(q:Int):=by rw [Int.tdiv_eq_ediv_of_nonneg (by omega)];omega
    have q3:(q:Int)<4:=by omega
    have q4:(0:Int)≤q:=by omega
    have q5:IntKind.i64.wrap (q:Int)=(q:Int):=IntWalk.i64_in _ (by omega)
    have q6:IntKind.u64.wrap (d:Int)=(d:Int):=IntWalk.u64_in _ (by omega)
    have q0:IntKind.i64.wrap 0=0:=by decide
    have HN:Hid (RelE w l B c (some ⟨b,aK,none⟩) (.int .i64 ((k:Int)+1)) (wr.drew.setCell ⟨w.heap.size+1,q,none⟩ (.int .u64 (t:Int)))):=lH
     ⟨k+1,L.set q t,by omega,by push_cast;rfl,lH ⟨hT.set q t,by rw [List.length_set];exact ae,aw.set q t am,by rw [ab,ao],fun j hj=>by rw [getD_set,if_neg (by omega)];exact hz j (by omega),ak,
      hrd.under (bdN ((Below.refl B wr).setCell (p:=⟨w.heap.size+1,q,none⟩) (by show B≤w.heap.size+1;omega) _) 1),Holds.aside hR (p:=⟨w.heap.size+1,q,none⟩) (by show w.heap.size≠w.heap.size+1;omega) _,bdN (hb.setCell (p:=⟨w.heap.size+1,q,none⟩) (by show w.heap.size≤w.heap.size+1;omega) _) 1⟩⟩
    have aQ:wr.drew.frozen? ⟨w.heap.size+1,q,none⟩=false:=fy
    have aA:=hy
    replace aA:wr.drew.cell? ⟨w.heap.size+1,q,none⟩=_:=aA
    clear hz ho aw hv hpar aB H hT ae hR hb hrd ao ak ab ht am aG
    go_wp2_with fail
    go_still_tail 12,(by kernel_rfl)
    repeat still_step
    change wpList _ _ _ _ _ wr.drew
    clear cd hy fy
    generalize wr.drew=wd at *
    go_wp2_with fail
    go_roundw
    ·exact HN.out
    ·simp [intOf];omega
   ·obtain ⟨q,aB⟩:∃ q,k=2*q+1:=⟨k / 2,by omega⟩
    have hq:q<4:=by omega
    have ac:=ho hpar
    rw [show k / 2=q by omega] at ac
    obtain ⟨y,aD⟩:∃ y,y=L.getD q 0:=⟨_,rfl⟩
    have hy:=hT.cell (i:=q) (by rw [ae];exact hq)
    rw [←aD] at hy ac
    have q2:Int.tmod (k:Int) 2=1:=by rw [Int.tmod_eq_emod_of_nonneg (by omega)];omega
    have aC:=or_odd y d ac av
    have ab:=v64_set L q (d*4294967296) (by rw [ae];exact hq)
    rw [←aD] at ab
    obtain ⟨t,ht⟩:∃ t,t=y+d*4294967296:=⟨_,rfl⟩
    have am:t<18446744073709551616:=by omega
    rw [←ht] at aC ab
    have ao:v64 L+q64 q*(d*4294967296)=val (l.take (k+1)):=by rw [hv,val_take_succ,←aM.out,aB,pw_odd,Nat.mul_comm d,Nat.mul_assoc]
    have ak:(k+1) % 2=1→(L.set q t).getD ((k+1) / 2) 0<4294967296:=fun h=>by omega
    have q7:IntKind.u64.wrap ((d:Int)*4294967296)=(d:Int)*4294967296:=IntWalk.u64_in _ (by omega)
    have q8:IntKind.i64.wrap 32=32:=by decide
    have fy:=hT.open_ q
    have q1:Int.tdiv (k:Int) 2=(q:Int):=by rw [Int.tdiv_eq_ediv_of_nonneg (by omega)];omega
    have q3:(q:Int)<4:=by omega
    have q4:(0:Int)≤q:=by omega
    have q5:IntKind.i64.wrap (q:Int)=(q:Int):=IntWalk.i64_in _ (by omega)
    have q6:IntKind.u64.wrap (d:Int)=(d:Int):=IntWalk.u64_in _ (by omega)
    have q0:IntKind.i64.wrap 0=0:=by decide
    have HN:Hid (RelE w l B c (some ⟨b,aK,none⟩) (.int .i64 ((k:Int)+1)) (wr.drew.setCell ⟨w.heap.size+1,q,none⟩ (.int .u64 (t:Int)))):=lH
     ⟨k+1,L.set q t,by omega,by push_cast;rfl,lH ⟨hT.set q t,by rw [List.length_set];exact ae,aw.set q t am,by rw [ab,ao],fun j hj=>by rw [getD_set,if_neg (by omega)];exact hz j (by omega),ak,
      hrd.under (bdN ((Below.refl B wr).setCell (p:=⟨w.heap.size+1,q,none⟩) (by show B≤w.heap.size+1;omega) _) 1),Holds.aside hR (p:=⟨w.heap.size+1,q,none⟩) (by show w.heap.size≠w.heap.size+1;omega) _,bdN (hb.setCell (p:=⟨w.heap.size+1,q,none⟩) (by show w.heap.size≤w.heap.size+1;omega) _) 1⟩⟩
    have aQ:wr.drew.frozen? ⟨w.heap.size+1,q,none⟩=false:=fy
    have aA:=hy
    replace aA:wr.drew.cell? ⟨w.heap.size+1,q,none⟩=_:=aA
    clear hz ho aw hv hpar aB H hT ae hR hb hrd ao ak ab ht am aD ac
    go_wp2_with fail
    go_still_tail 12,(by kernel_rfl)
    repeat still_step
    change wpList _ _ _ _ _ wr.drew
    clear cd hy fy
    generalize wr.drew=wd at *
    go_wp2_with fail
    go_roundw
    ·exact HN.out
    ·simp [intOf];omega
  case neg =>
   obtain rfl:k=l.length:=by omega
   have t1:decide ((l.length:Int)<(l.length:Int))=false:=decide_eq_false (by omega)
   rw [List.take_length] at hv
   obtain ⟨d0,d1,d2,d3,aE⟩:=four ae
   obtain ⟨s0,s1,s2,s3,hs⟩:=four (rfl:sL.length=4)
   have hm:=aR.out.under hb
   have ai:=mulF_any wr hm L sL ae rfl aw (by unfold D64 sL;decide) (by decide +kernel)
   rw [hv] at ai
   obtain ⟨n0,n1,n2,n3,hn⟩:=four (nm_len (mm (val l) (v64 sL)))
   have ay:Holds wr (w.heap.size+1) 67 #[.int .u64 (d0:Int),.int .u64 (d1:Int),.int .u64 (d2:Int),.int .u64 (d3:Int)]:=by
    have h:=hT
    unfold Row at h
    rwa [nv_of aE] at h
   have ax:∀ t,t<4→wr.cell? ⟨1,t,none⟩=some (.int .u64 (([s0,s1,s2,s3].getD t 0:Nat):Int)):=by
    rw [←hs]
    exact hm.2.1.2
   have b0:wr.cell? ⟨1,0,none⟩=some (.int .u64 (s0:Int)):=ax 0 (by omega)
   have b1:wr.cell? ⟨1,1,none⟩=some (.int .u64 (s1:Int)):=ax 1 (by omega)
   have b2:wr.cell? ⟨1,2,none⟩=some (.int .u64 (s2:Int)):=ax 2 (by omega)
   have b3:wr.cell? ⟨1,3,none⟩=some (.int .u64 (s3:Int)):=ax 3 (by omega)
   unfold nv at ai
   rw [nv_of aE,nv_of hs,nv_of hn] at ai
   have aO:=lH hn
   have aH:=lH ai
   have aJ:=lH hR
   have aL:=lH hb
   have a0:=ay.cell 0
   have a1:=ay.cell 1
   have a2:=ay.cell 2
   have a3:=ay.cell 3
   clear hT ae aw hv hz ho hrd hR hb aE hs hm ai hn ay ax H
   go_wp2_with fail
   refine aH.out.mono ?_
   rintro e w2 ⟨rfl,aF⟩
   have au:=aJ.out.under aF aJ.out.lt
   have aN:=lH au
   have aT:=lH (aL.out.trans (aF.mono aL.out.size))
   clear a0 a1 a2 a3 b0 b1 b2 b3 aF aH
   have z0:=au.cell 0
   have o0:=au.open_ 0
   have z1:=au.cell 1
   have o1:=au.open_ 1
   have z2:=au.cell 2
   have o2:=au.open_ 2
   have z3:=au.cell 3
   have o3:=au.open_ 3
   clear au
   go_wp2_with fail
   refine ret_num rfl rfl (set4 aN _ _ _ _) rfl ⟨?_,below4 aT (by omega) _ _ _ _⟩
   unfold nv
   rw [nv_of aO.out]
def lP:List Nat:=[4294967295,4294967295,4294967295,0,0,0,1,4294967295]
def lN:List Nat:=[4234356049,4089039554,2803342980,3169254061,4294967295,4294967295,0,4294967295]
def lB:List Nat:=[668098635,1003371582,3428036854,1696401072,1989707452,3018571093,2855965671,1522939352]
def lX:List Nat:=[3633889942,4104206661,770388896,1996717441,1671708914,4173129445,3777774151,1796723186]
def lY:List Nat:=[935285237,3417718888,1798397646,734933847,2081398294,2397563722,4263149467,1340293858]
theorem lP_ok:Dg lP∧nrm lP∧val lP=cP∧lP.length=8:=⟨by unfold Dg lP;decide,.inr (by decide),by decide +kernel,rfl⟩
theorem lN_ok:Dg lN∧nrm lN∧lN.length=8:=⟨by unfold Dg lN;decide,.inr (by decide),rfl⟩
theorem lB_ok:Dg lB∧nrm lB∧val lB<cP∧lB.length=8:=⟨by unfold Dg lB;decide,.inr (by decide),by decide +kernel,rfl⟩
theorem lX_ok:Dg lX∧nrm lX∧val lX<cP∧lX.length=8:=⟨by unfold Dg lX;decide,.inr (by decide),by decide +kernel,rfl⟩
theorem lY_ok:Dg lY∧nrm lY∧val lY<cP∧lY.length=8:=⟨by unfold Dg lY;decide,.inr (by decide),by decide +kernel,rfl⟩
def Eight (L:List Nat) (w:World) (e:Ending) (w':World):Prop :=
 ∃ g,w.heap.size≤g∧e = .returned (.slice (some ⟨g,0,none⟩) 8 8)∧Row .u32 22 w' g L∧Below w.heap.size w w'
theorem Eight.rd {L:List Nat} {w:World} {g:Nat} (h:Row .u32 22 w g L) (hL:L.length=8):Rd .u32 w w.heap.size (some ⟨g,0,none⟩) 8 L :=
 (rd_whole h (by omega) (by omega)).more (Holds.lt h)
theorem curveP_any (w:World):Calls Tryd.prog 60 #[] w (Eight lP w):=by
 go_enter Tryd.func60,Tryd.ntmps60
 go_wp2_with fail
 go_ret
 exact ⟨w.heap.size,Nat.le_refl _,rfl,Holds.fresh _ _ _,(Below.refl _ _).alloc (Nat.le_refl _) _⟩
theorem curveN_any (w:World):Calls Tryd.prog 59 #[] w (Eight lN w):=by
 go_enter Tryd.func59,Tryd.ntmps59
 go_wp2_with fail
 go_ret
 exact ⟨w.heap.size,Nat.le_refl _,rfl,Holds.fresh _ _ _,(Below.refl _ _).alloc (Nat.le_refl _) _⟩
theorem curveB_any (w:World):Calls Tryd.prog 58 #[] w (Eight lB w):=by
 go_enter Tryd.func58,Tryd.ntmps58
 go_wp2_with fail
 go_ret
 exact ⟨w.heap.size,Nat.le_refl _,rfl,Holds.fresh _ _ _,(Below.refl _ _).alloc (Nat.le_refl _) _⟩
theorem refP_any (w:World):Calls Tryd.prog 26 #[] w (Eight lP w):=by
 go_enter Tryd.func26,Tryd.ntmps26
 go_wp2_with fail
 go_ret
 exact ⟨w.heap.size,Nat.le_refl _,rfl,Holds.fresh _ _ _,(Below.refl _ _).alloc (Nat.le_refl _) _⟩
theorem refN_any (w:World):Calls Tryd.prog 24 #[] w (Eight lN w):=by
 go_enter Tryd.func24,Tryd.ntmps24
 go_wp2_with fail
 go_ret
 exact ⟨w.heap.size,Nat.le_refl _,rfl,Holds.fresh _ _ _,(Below.refl _ _).alloc (Nat.le_refl _) _⟩
theorem refB_any (w:World):Calls Tryd.prog 50 #[] w (Eight lB w):=by
 go_enter Tryd.func50,Tryd.ntmps50
 go_wp2_with fail
 go_ret
 exact ⟨w.heap.size,Nat.le_refl _,rfl,Holds.fresh _ _ _,(Below.refl _ _).alloc (Nat.le_refl _) _⟩
def blw (l:List Nat):Bool:=okN l && decide (val l<cP)
theorem blw_nrm {l:List Nat} (hd:Dg l) (h:blw l=true):nrm l∧val l<cP∧l.length≤8:=by
 unfold blw at h
 rw [Bool.and_eq_true,decide_eq_true_eq] at h
 obtain ⟨h1,h2⟩:=h
 have hn:=(okN_nrm h1).2
 refine ⟨hn,h2,?_⟩
 rcases Nat.lt_or_ge 8 l.length with h8 | h8
 ·exfalso
  have h3:=nrm_low hn (by omega)
  have h4:pw 8≤pw (l.length - 1):=pw_mono (by omega)
  have h5:cP<pw 8:=by decide +kernel
  omega
 ·exact h8
theorem below_any (w:World) (A:Option Addr) (c:Nat) (l:List Nat) (hr:Rd .u32 w w.heap.size A c l) (hd:Dg l) :
  Calls Tryd.prog 53 #[.slice A l.length c] w fun e w'=>e = .returned (.bool (blw l))∧Below w.heap.size w w':=by
 have HR:=lH hr
 have HD:=lH hd
 cases hv:okN l
 case false =>
  have HB:Hid (blw l=false):=lH (by unfold blw;rw [hv];rfl)
  have HC:=lH (is_any w _ A c l hr false hv)
  clear hr hd hv
  go_enter Tryd.func53,Tryd.ntmps53
  go_wp2_with fail
  refine HC.out.mono ?_
  rintro e w1 ⟨rfl,rfl⟩
  go_wp2_with fail
  go_ret
  exact ⟨by rw [HB.out];rfl,Below.refl _ _⟩
 case true =>
  have HC:=lH (is_any w _ A c l hr true hv)
  have HV:=lH hv
  clear hr hd hv
  go_enter Tryd.func53,Tryd.ntmps53
  go_wp2_with fail
  refine HC.out.mono ?_
  rintro e w1 ⟨rfl,rfl⟩
  go_wp2_with fail
  refine (curveP_any w).mono ?_
  rintro e w2 ⟨g,hg,rfl,hP,hb⟩
  obtain ⟨x,hx⟩:∃ x,x=cmpL (trl l) (trl lP):=⟨_,rfl⟩
  have HX:=lH hx
  have HCC:=lH (cmp_any w2 _ _ A (some ⟨g,0,none⟩) c 8 l lP (HR.out.under hb) (Eight.rd hP rfl) x hx.symm)
  have HB:=lH hb
  clear hx hP hb HC hg
  go_wp2_with fail
  refine HCC.out.mono ?_
  rintro e w3 ⟨rfl,q,rfl⟩
  go_wp2_with fail
  go_ret
  refine ⟨?_,bdN HB q⟩
  rw [HX.out,cmp_vals HD.out lP_ok.1,lP_ok.2.2.1]
  unfold blw
  rw [HV.out]
  by_cases h:val l<cP
  ·rw [if_pos h];simp [h]
  ·rw [if_neg h]
   have:(if cP<val l then (1:Int) else 0)<0↔False:=by split <;> simp
   simp [h,this]
def Got (w:World) (v:Nat) (e:Ending) (w':World):Prop :=
 ∃ A c r,e = .returned (.slice A r.length c)∧NumIs r v∧Rd .u32 w' w'.heap.size A c r∧Below w.heap.size w w'
theorem mulR_any (w:World) (A A':Option Addr) (c c':Nat) (l l':List Nat) (hr:Rd .u32 w w.heap.size A c l) (hr':Rd .u32 w w.heap.size A' c' l') (hd:Dg l) (hd':Dg l') (hs:l.length≤1000) (hs':l'.length≤1000) (hn:nrm l) (hn':nrm l') :
  Calls Tryd.prog 46 #[.slice A l.length c,.slice A' l'.length c'] w (Got w (val l*val l' % cP)):=by
 go_enter Tryd.func46,Tryd.ntmps46
 go_wp2_with fail
 refine (refP_any w).mono ?_
 rintro e w1 ⟨g,hg,rfl,hP,hb⟩
 have HC:=lH (mul8_yes w1 A A' (some ⟨g,0,none⟩) c c' 8 l l' lP ((hr.under hb).more hb.size) ((hr'.under hb).more hb.size) (Eight.rd hP rfl) hd hd' lP_ok.1 hs hs' (by rw [lP_ok.2.2.2];omega) (by rw [lP_ok.2.2.1];exact Nat.ne_of_gt cP_pos)  lP_ok.2.1)
 rw [lP_ok.2.2.1] at HC
 have HB:=lH hb
 clear hP hb hg
 go_wp2_with fail
 refine HC.out.mono ?_
 rintro e w2 ⟨A2,c2,r,rfl,hn,hf,hb2⟩
 go_wp2_with fail
 go_ret
 exact ⟨A2,c2,r,rfl,hn,hf,HB.out.trans (hb2.mono HB.out.size)⟩
theorem addR_any (w:World) (A A':Option Addr) (c c':Nat) (l l':List Nat) (hr:Rd .u32 w w.heap.size A c l) (hr':Rd .u32 w w.heap.size A' c' l') (hd:Dg l) (hd':Dg l') (hs:l.length≤1000) (hs':l'.length≤1000) (hn:nrm l) (hn':nrm l') :
  Calls Tryd.prog 47 #[.slice A l.length c,.slice A' l'.length c'] w (Got w ((val l+val l') % cP)):=by
 go_enter Tryd.func47,Tryd.ntmps47
 go_wp2_with fail
 refine (refP_any w).mono ?_
 rintro e w1 ⟨g,hg,rfl,hP,hb⟩
 have HC:=lH (add8_yes w1 A A' (some ⟨g,0,none⟩) c c' 8 l l' lP ((hr.under hb).more hb.size) ((hr'.under hb).more hb.size) (Eight.rd hP rfl) hd hd' lP_ok.1 hs hs' (by rw [lP_ok.2.2.2];omega) (by rw [lP_ok.2.2.1];exact Nat.ne_of_gt cP_pos)  lP_ok.2.1)
 rw [lP_ok.2.2.1] at HC
 have HB:=lH hb
 clear hP hb hg
 go_wp2_with fail
 refine HC.out.mono ?_
 rintro e w2 ⟨A2,c2,r,rfl,hn,hf,hb2⟩
 go_wp2_with fail
 go_ret
 exact ⟨A2,c2,r,rfl,hn,hf,HB.out.trans (hb2.mono HB.out.size)⟩
theorem subR_any (w:World) (A A':Option Addr) (c c':Nat) (l l':List Nat) (hr:Rd .u32 w w.heap.size A c l) (hr':Rd .u32 w w.heap.size A' c' l') (hd:Dg l) (hd':Dg l') (hs:l.length≤1000) (hs':l'.length≤1000) (hn:nrm l) (hn':nrm l') :
  Calls Tryd.prog 48 #[.slice A l.length c,.slice A' l'.length c'] w (Got w ((val l % cP+(cP - val l' % cP)) % cP)):=by
 go_enter Tryd.func48,Tryd.ntmps48
 go_wp2_with fail
 refine (refP_any w).mono ?_
 rintro e w1 ⟨g,hg,rfl,hP,hb⟩
 have HC:=lH (sub8_yes w1 A A' (some ⟨g,0,none⟩) c c' 8 l l' lP ((hr.under hb).more hb.size) ((hr'.under hb).more hb.size) (Eight.rd hP rfl) hd hd' lP_ok.1 hs hs' (by rw [lP_ok.2.2.2];omega) (by rw [lP_ok.2.2.1];exact Nat.ne_of_gt cP_pos)  hn hn' lP_ok.2.1)
 rw [lP_ok.2.2.1] at HC
 have HB:=lH hb
 clear hP hb hg
 go_wp2_with fail
 refine HC.out.mono ?_
 rintro e w2 ⟨A2,c2,r,rfl,hn,hf,hb2⟩
 go_wp2_with fail
 go_ret
 exact ⟨A2,c2,r,rfl,hn,hf,HB.out.trans (hb2.mono HB.out.size)⟩
theorem num_len8 {r:List Nat} {v:Nat} (h:NumIs r v) (hv:v<cP):r.length≤8:=by
 rcases Nat.lt_or_ge 8 r.length with h8 | h8
 ·exfalso
  have h3:=nrm_low h.2.1 (by omega)
  have h4:pw 8≤pw (r.length - 1):=pw_mono (by omega)
  have h5:cP<pw 8:=by decide +kernel
  have h6:=h.2.2
  omega
 ·exact h8
theorem threeR_any (w:World) (A:Option Addr) (c:Nat) (l:List Nat) (hr:Rd .u32 w w.heap.size A c l) (hd:Dg l) (hs:l.length≤1000) (hn:nrm l) :
  Calls Tryd.prog 49 #[.slice A l.length c] w (Got w ((val l+(val l+val l) % cP) % cP)):=by
 go_enter Tryd.func49,Tryd.ntmps49
 go_wp2_with fail
 refine (addR_any w A A c c l l hr hr hd hd hs hs hn hn).mono ?_
 rintro e w1 ⟨A1,c1,r1,rfl,hn1,hr1,hb1⟩
 have hl1:=num_len8 hn1 (Nat.mod_lt _ cP_pos)
 have HC:=lH (addR_any w1 A A1 c c1 l r1 ((hr.under hb1).more hb1.size) hr1 hd hn1.1 hs (by omega) hn hn1.2.1)
 rw [hn1.2.2] at HC
 have HB:=lH hb1
 clear hr hd hn1 hr1 hb1
 go_wp2_with fail
 refine HC.out.mono ?_
 rintro e w2 ⟨A2,c2,r,rfl,hn,hf,hb2⟩
 go_wp2_with fail
 go_ret
 exact ⟨A2,c2,r,rfl,hn,hf,HB.out.trans (hb2.mono HB.out.size)⟩
def enc (a:Nat):Nat:=a*cR % cP
theorem enc_lt (a:Nat):enc a<cP:=Nat.mod_lt _ cP_pos
theorem mod_mul_right' {a b m n:Nat} (h:a % n=b % n):m*a % n=m*b % n:=by rw [Nat.mul_comm m a,Nat.mul_comm m b];exact mod_mul_left h
theorem mul_cong {a b c d n:Nat} (h:a % n=b % n) (h':c % n=d % n):a*c % n=b*d % n:=(mod_mul_left h).trans (mod_mul_right' h')
theorem enc_inj {a b:Nat} (h:a*cR % cP=b*cR % cP):a % cP=b % cP:=by
 have h1:=mod_mul_left (m:=cI) h
 rw [Nat.mul_assoc,Nat.mul_assoc] at h1
 have e:∀ x,x*(cR*cI) % cP=x % cP:=fun x=>by rw [Nat.mul_mod,cRI,Nat.mul_one,Nat.mod_mod]
 rwa [e,e] at h1
theorem enc_cong {a b:Nat} (h:a % cP=b % cP):enc a=enc b:=mod_mul_left h
theorem enc_iff {a b:Nat}:enc a=enc b↔a % cP=b % cP:=⟨enc_inj,enc_cong⟩
theorem enter_enc (a:Nat):mm a (v64 sL)=enc a:=by
 refine (mm_of (enc_lt a) ?_).symm
 unfold enc
 rw [sL_val]
 refine (mod_mul_left (Nat.mod_mod _ _)).trans ?_
 rw [Nat.mul_assoc]
 exact mod_mul_right' (Nat.mod_mod _ _).symm
theorem mm_enc (a b:Nat):mm (enc a) (enc b)=enc (a*b):=by
 refine (mm_of (enc_lt _) ?_).symm
 unfold enc
 refine (mod_mul_left (Nat.mod_mod _ _)).trans ?_
 refine Eq.trans ?_ (mul_cong (Nat.mod_mod _ _) (Nat.mod_mod _ _)).symm
 rw [show a*cR*(b*cR)=a*b*cR*cR by rw [Nat.mul_mul_mul_comm,Nat.mul_assoc (a*b)]]
theorem add_enc (a b:Nat):(enc a+enc b) % cP=enc (a+b):=by
 unfold enc
 rw [←Nat.add_mod,Nat.add_mul]
theorem add_cancel {a b c n:Nat} (h0:0<n) (h:(a+c) % n=(b+c) % n):a % n=b % n:=by
 have h1:(a+c+(n - c % n)) % n=(b+c+(n - c % n)) % n:=by rw [Nat.add_mod,h,←Nat.add_mod]
 have e:∀ x,(x+c+(n - c % n)) % n=x % n:=fun x=>by
  have h2:=Nat.mod_lt c h0
  have h3:=Nat.div_add_mod c n
  have:x+c+(n - c % n)=x+n*(c / n+1):=by rw [Nat.mul_add,Nat.mul_one];omega
  rw [this,Nat.add_mul_mod_self_left]
 rwa [e,e] at h1
theorem less_add {a b n:Nat} (h0:0<n):(a+(n - b % n)+b) % n=a % n:=by
 have h2:=Nat.mod_lt b h0
 have h3:=Nat.div_add_mod b n
 have:a+(n - b % n)+b=a+n*(b / n+1):=by rw [Nat.mul_add,Nat.mul_one];omega
 rw [this,Nat.add_mul_mod_self_left]
theorem sub_enc (a b:Nat):(enc a+(cP - enc b)) % cP=enc (a+(cP - b % cP)):=by
 refine Eq.trans ?_ (Nat.mod_mod _ _)
 refine add_cancel (c:=b*cR) cP_pos ?_
 have e1:(enc a+(cP - enc b)+b*cR) % cP=a*cR % cP:=by
  have h:=less_add (a:=enc a) (b:=b*cR) cP_pos
  rw [show enc a % cP=a*cR % cP from Nat.mod_mod _ _] at h
  exact h
 have e2:(enc (a+(cP - b % cP))+b*cR) % cP=a*cR % cP:=by
  have h:=less_add (a:=a) (b:=b) cP_pos
  have h2:=mod_mul_left (m:=cR) h
  rw [Nat.add_mul] at h2
  rw [←h2]
  unfold enc
  rw [Nat.add_mod,Nat.mod_mod,←Nat.add_mod]
 exact e1.trans e2.symm
def rhsR (x:Nat):Nat:=((x*(x*x % cP) % cP % cP+(cP - (x+(x+x) % cP) % cP % cP)) % cP+val lB) % cP
def rhsF (x:Nat):Nat:=(mm ((mm (enc x) (enc x)+(cP - (enc 1+(enc 1+enc 1) % cP) % cP)) % cP) (enc x)+enc (val lB)) % cP
theorem rhs_enc (x:Nat):rhsF x=enc (rhsR x):=by
 unfold rhsF
 rw [mm_enc,add_enc,add_enc,sub_enc,mm_enc,add_enc]
 refine enc_cong ?_
 unfold rhsR
 rw [Nat.mod_mod]
 have key:((x*x+(cP - (1+(1+1)) % cP))*x) % cP=(x*(x*x % cP) % cP % cP+(cP - (x+(x+x) % cP) % cP % cP)) % cP:=by
  refine add_cancel (c:=3*x) cP_pos ?_ |>.trans (Nat.mod_mod _ _)
  have e1:((x*x+(cP - (1+(1+1)) % cP))*x+3*x) % cP=x*(x*x) % cP:=by
   have h:=mod_mul_left (m:=x) (less_add (a:=x*x) (b:=1+(1+1)) cP_pos)
   rw [Nat.add_mul] at h
   rw [Nat.mul_comm x (x*x)]
   exact h
  have e2:((x*(x*x % cP) % cP % cP+(cP - (x+(x+x) % cP) % cP % cP)) % cP+3*x) % cP=x*(x*x) % cP:=by
   have e3:(x+(x+x) % cP) % cP=3*x % cP:=by
    rw [Nat.add_mod,Nat.mod_mod,←Nat.add_mod,show x+(x+x)=3*x by omega]
   rw [e3,Nat.mod_mod,Nat.mod_mod]
   rw [Nat.add_mod,Nat.mod_mod,←Nat.add_mod,less_add cP_pos,Nat.mod_mod]
   exact mod_mul_right' (Nat.mod_mod _ _)
  rw [e1,e2]
 rw [Nat.add_mod,key,←Nat.add_mod]
 exact (Nat.mod_add_mod _ _ _).symm
theorem on_iff (x y:Nat):mm (enc y) (enc y)=rhsF x↔y*y % cP=rhsR x:=by
 rw [mm_enc,rhs_enc,enc_iff]
 have:rhsR x % cP=rhsR x:=Nat.mod_eq_of_lt (Nat.mod_lt _ cP_pos)
 rw [this]
def ptOk (lx ly:List Nat) (inf:Bool):Bool :=
 if inf then decide (lx.length=0) && decide (ly.length=0) else blw lx && blw ly && decide (val ly*val ly % cP=rhsR (val lx))
end Go.Proofs.YtflfdglpljodbaaDoor
