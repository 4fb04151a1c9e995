/- Words and laws for the statement, part 27. -/
import Derived.Deep.QuietTactic
import Derived.BigQuiet
import Derived.StillTailTactics
import Derived.IntWalk
import Derived.Deep.RegionHeld3
import Derived.Test.YtcibjcgipfpniaaGreatDoorG04
import Derived.Test.YtcibjcgipfpniaaGreatDoorG05
import Derived.Test.YtcibjcgipfpniaaGreatDoorG06
import Derived.Test.YtcibjcgipfpniaaGreatDoorG07
import Derived.Test.YtcibjcgipfpniaaGreatDoorG12
import Derived.Test.YtcibjcgipfpniaaGreatDoorG13
import Derived.Test.YtcibjcgipfpniaaGreatDoorG15
import Derived.Test.YtcibjcgipfpniaaGreatDoorG19
namespace Go.Proofs.YtcibjcgipfpniaaGreatDoor
open Go.RowKit
set_option linter.unusedVariables false
set_option linter.unusedSimpArgs false

set_option maxRecDepth 100000 in
set_option maxHeartbeats 1000000 in
theorem underR_any (w:World) (B B':Nat) (A A':Option Addr) (c c' n n':Nat) (l l':List Att) (hn:l.length=n) (hn':l'.length=n') (hr:RdA w B A c l) (hr':RdA w B' A' c' l') (v:Bool) (hv:v=true↔n'≤n∧l.take n'=l') :
  Calls Tryz.prog 94 #[.slice A n c,.slice A' n' c'] w fun e w'=>e = .returned (.bool v)∧∃ q,w'=w.drewN q:=by
 have HV:=Lib.hid hv
 have HN:=Lib.hid hn
 have HN':=Lib.hid hn'
 have hlc:=hr.1
 have hc63:=hr.2.1
 have hlc':=hr'.1
 have hc63':=hr'.2.1
 clear hv
 by_cases hnn:n<n'
 case pos =>
  have q1:decide ((n:Int)<(n':Int))=true:=decide_eq_true (by omega)
  have q2:decide (n<n')=true:=decide_eq_true hnn
  have HF:Hid (v=false):=Lib.hid (by
   cases v
   ·rfl
   ·have:=(HV.out.1 rfl).1;omega)
  go_enter Tryz.func94,Tryz.ntmps94
  go_wp2_with fail
  go_ret
  exact ⟨by rw [HF.out];rfl,0,rfl⟩
 case neg =>
 have q1:decide ((n:Int)<(n':Int))=false:=decide_eq_false (by omega)
 have q2:decide (n<n')=false:=decide_eq_false hnn
 go_enter Tryz.func94,Tryz.ntmps94
 go_wp2_with fail
 go_loopw [5] (fun i wr=>RelEA n' l l' w i wr) (fun i _=>n' - (intOf i).toNat)
 case atStart=>exact ⟨0,0,Nat.zero_le _,rfl,Lib.hid (fun i h=>by omega),rfl⟩
 case round =>
  obtain ⟨k,q,hk,rfl,HD,rfl⟩:=hrel
  have hrb:=hr.drewN q
  have hrb':=hr'.drewN q
  have HDD:=Lib.hid (fun m=>World.drewN_drewN w q m)
  obtain ⟨V,HV2⟩:∃ V,Hid (V=w.drewN q):=⟨_,rfl⟩
  rw [←HV2.out] at hrb hrb' ⊢
  by_cases hkn:k<n'
  case neg =>
   obtain rfl:k=n':=by omega
   have hf:decide ((k:Int)<(k:Int))=false:=decide_eq_false (by omega)
   have hf2:decide (k<k)=false:=decide_eq_false (by omega)
   have hE:l.take k=l':=by
    apply List.ext_getElem (by rw [List.length_take,HN.out,HN'.out];omega)
    intro i h1 h2
    have h3:=HD.out i (by have:=HN'.out;omega)
    have h4:i<l.length:=by rw [List.length_take] at h1;omega
    simpa [List.getD,h4,h2] using h3
   have HT:=Lib.hid (HV.out.2 ⟨by omega,hE⟩)
   clear hE
   go_wp2_with fail
   go_ret
   exact ⟨by rw [HT.out];rfl,q,HV2.out⟩
  case pos =>
  obtain ⟨b,off,rfl,hb,hx⟩:=hrb.2.2 (by have:=HN.out;omega)
  obtain ⟨b',off',rfl,hb',hy⟩:=hrb'.2.2 (by have:=HN'.out;omega)
  obtain ⟨hx1,hx2⟩:=hx k (by have:=HN.out;omega)
  obtain ⟨hy1,hy2⟩:=hy k (by have:=HN'.out;omega)
  obtain ⟨a,Ha⟩:∃ a,Hid (l.getD k default=a):=⟨_,rfl⟩
  obtain ⟨a',Ha'⟩:∃ a,Hid (l'.getD k default=a):=⟨_,rfl⟩
  rw [Ha.out] at hx1 hx2
  rw [Ha'.out] at hy1 hy2
  obtain ⟨ka,sa⟩:=a
  obtain ⟨kb,sb⟩:=a'
  change V.cell? ⟨b,off+k*2,none⟩=some (.int .i64 ka) at hx1
  change V.cell? ⟨b,off+k*2+1,none⟩=some (.string sa) at hx2
  change V.cell? ⟨b',off' + k*2,none⟩=some (.int .i64 kb) at hy1
  change V.cell? ⟨b',off' + k*2+1,none⟩=some (.string sb) at hy2
  have hk0:(0:Int)≤(k:Int):=by omega
  have hkI:(k:Int)<(n':Int):=by omega
  have hkI2:(k:Int)<(n:Int):=by omega
  clear hx hy
  have hg:=guardA
  have heq:=eqA ka kb sa sb
  by_cases hab:(ka == kb && (sa.toList == sb.toList))=true
  case neg =>
   have habf:(ka == kb && (sa.toList == sb.toList))=false:=by simpa using hab
   have HF:Hid (v=false):=Lib.hid (by
    cases v
    ·rfl
    ·exfalso
     apply hab
     have e:=(HV.out.1 rfl).2
     have e2:(⟨ka,sa⟩:Att)=⟨kb,sb⟩:=by
      rw [←Ha.out,←Ha'.out,←e]
      simp [List.getD,show k<n' from hkn]
     injection e2 with e3 e4
     rw [e3,e4]
     simp)
   rw [habf] at heq
   clear hab habf
   go_wp2_with fail
   go_quiet (fail)
   go_wp2_with fail
   go_ret
   exact ⟨by rw [HF.out];rfl,q+nq,by rw [HV2.out,HDD.out]⟩
  case pos =>
   have HD2:Hid (∀ j,j<k+1→l.getD j default=l'.getD j default):=Lib.hid (fun j h=>by
    rcases Nat.lt_or_ge j k with h' | h'
    ·exact HD.out j h'
    ·obtain rfl:j=k:=by omega
     rw [Ha.out,Ha'.out]
     simp only [Bool.and_eq_true,beq_iff_eq] at hab
     refine Att.ext_ hab.1 ?_
     have h3:=hab.2
     rw [Lib.toList_data,Lib.toList_data] at h3
     exact ByteArray.ext (Array.ext' h3))
   rw [hab] at heq
   clear hab
   go_wp2_with fail
   go_quiet (fail)
   go_wp2_with fail
   go_roundw
   case rel=>exact ⟨k+1,q+nq,by omega,by go_num,HD2,by rw [HV2.out,HDD.out]⟩
   case measure=>simp [intOf];omega
set_option maxRecDepth 100000 in
theorem sameR_any (w:World) (B B':Nat) (A A':Option Addr) (c c' n n':Nat) (l l':List Att) (hn:l.length=n) (hn':l'.length=n') (hr:RdA w B A c l) (hr':RdA w B' A' c' l') (v:Bool) (hv:v=true↔l=l') :
  Calls Tryz.prog 49 #[.slice A n c,.slice A' n' c'] w fun e w'=>e = .returned (.bool v)∧∃ q,w'=w.drewN q:=by
 by_cases hnn:n=n'
 ·subst hnn
  have e0:((n:Int) == (n:Int))=true:=by simp
  have HC:=Lib.hid (underR_any w B B' A A' c c' n n l l' hn hn' hr hr' v (by rw [hv,List.take_of_length_le (by omega)];simp))
  clear hv hr hr'
  go_enter Tryz.func49,Tryz.ntmps49
  go_wp2_with fail
  refine HC.out.mono ?_
  rintro e w1 ⟨rfl,q,rfl⟩
  go_wp2_with fail
  go_ret
  exact ⟨rfl,q,rfl⟩
 ·have e0:((n:Int) == (n':Int))=false:=by simp;omega
  have e1:(n == n')=false:=by simp;omega
  have HF:Hid (v=false):=Lib.hid (by
   cases v
   ·rfl
   ·exact absurd (hv.1 rfl) (fun e=>hnn (by rw [←hn,←hn',e])))
  clear hv hr hr'
  go_enter Tryz.func49,Tryz.ntmps49
  go_wp2_with fail
  go_ret
  exact ⟨by rw [HF.out];rfl,0,rfl⟩
def knownL:List Att:=[⟨10,⟨#[111]⟩⟩,⟨3,⟨#[99]⟩⟩]
end Go.Proofs.YtcibjcgipfpniaaGreatDoor
namespace Go.Proofs.YtcibjcgipfpniaaGreatDoor
open Go.RowKit
set_option linter.unusedVariables false

end Go.Proofs.YtcibjcgipfpniaaGreatDoor
namespace Go.Proofs.YtcibjcgipfpniaaGreatDoor
open Go.RowKit
set_option linter.unusedVariables false

end Go.Proofs.YtcibjcgipfpniaaGreatDoor
namespace Go.Proofs.YtcibjcgipfpniaaGreatDoor
open Go.RowKit
set_option linter.unusedVariables false

end Go.Proofs.YtcibjcgipfpniaaGreatDoor
namespace Go.Proofs.YtcibjcgipfpniaaGreatDoor
open Go.RowKit
set_option linter.unusedVariables false

end Go.Proofs.YtcibjcgipfpniaaGreatDoor
namespace Go.Proofs.YtcibjcgipfpniaaGreatDoor
open Go.RowKit
set_option linter.unusedVariables false

def RelLRef5 (w:World) (g o k q:Nat) (L V:List Nat) (sb sc si:Value) (wr:World):Prop :=
 ∃ (i bo cr:Nat) (L2:List Nat),i≤k+3∧si = .int .i64 i∧sb = .int .u64 bo∧sc = .int .u64 cr∧bo≤1∧cr<4294967296∧Hid (i=k+3→cr=0)∧L2.length=L.length∧Dg L2∧Row .u32 59 wr g L2∧w.grownBy wr (some g) ∧
  Hid (val (seg L2 o i)+q*val (V.take i)=val (seg L o i)+pw i*(cr+bo))∧Hid (∀ j,j<o∨o+i≤j→L2.getD j 0=L.getD j 0)
def RelG (w:World) (g o k:Nat) (L1 V:List Nat) (ss si:Value) (wr:World):Prop :=
 ∃ (i v:Nat) (L2:List Nat),i≤k+3∧si = .int .i64 i∧ss = .int .u64 v∧v≤1∧L2.length=L1.length∧Dg L2∧Row .u32 59 wr g L2∧w.grownBy wr (some g) ∧
  Hid (val (seg L2 o i)+pw i*v=val (seg L1 o i)+val (V.take i))∧Hid (∀ j,j<o∨o+i≤j→L2.getD j 0=L1.getD j 0)

def LessPost (w:World) (g o k n q U:Nat) (L V:List Nat) (e:Ending) (w':World):Prop :=
 ∃ (L':List Nat) (r:Bool),e = .returned (.bool r)∧U / val V+(if r then 0 else 1)=q∧L'.length=n∧Dg L'∧Row .u32 59 w' g L'∧w.grownBy w' (some g) ∧
   val (seg L' o (k+3))=U % val V∧∀ j,j<o∨o+(k+3)≤j→L'.getD j 0=L.getD j 0

end Go.Proofs.YtcibjcgipfpniaaGreatDoor
namespace Go.Proofs.YtcibjcgipfpniaaGreatDoor
open Go.RowKit
set_option linter.unusedVariables false

/-- What a division yields, to be read. -/
def DivR (w:World) (a b:Nat) (e:Ending) (w':World):Prop :=
 ∃ A2 c2 q A3 c3 r,e = .returned (.tuple #[.slice A2 q.length c2,.slice A3 r.length c3,.bool true])∧NumIs q (a / b)∧NumIs r (a % b)∧Rd .u32 w' w'.heap.size A2 c2 q∧Rd .u32 w' w'.heap.size A3 c3 r∧Below w.heap.size w w'
theorem Divided.r {w w':World} {a b:Nat} {e:Ending} (h:Divided w a b e w'):DivR w a b e w':=by
 obtain ⟨A2,c2,q,A3,c3,r,h1,h2,h3,h4,h5,h6⟩:=h
 exact ⟨A2,c2,q,A3,c3,r,h1,h2,h3,h4.1,h5.1,h6⟩

theorem cmp'_at (w:World) (B B':Nat) (A A':Option Addr) (c c' n n':Nat) (l l':List Nat) (hn:l.length=n) (hn':l'.length=n') (hr:Rd .u32 w B A c l) (hr':Rd .u32 w B' A' c' l') (v:Int) (hv:cmpL l l'=v) :
  Calls Tryz.prog 23 #[.slice A n c,.slice A' n' c'] w fun e w'=>e = .returned (.int .i64 v)∧∃ q,w'=w.drewN q:=by
 subst hn hn'
 exact cmp'_any w B B' A A' c c' l l' hr hr' v hv
/-- What stands at the end of a division. -/
def DivEnd (w:World) (g h N m:Nat) (L Q:List Nat) (W:World):Prop :=
 Row .u32 59 W g L∧L.length=N∧Row .u32 59 W h Q∧Q.length=m∧w.heap.size≤g∧w.heap.size≤h∧Below w.heap.size w W
theorem DivEnd.next {w W W':World} {g h N m:Nat} {L Q:List Nat} (d:DivEnd w g h N m L Q W) (hb:Below W.heap.size W W'):DivEnd w g h N m L Q W' :=
 ⟨Holds.under d.1 hb (Holds.lt d.1),d.2.1,Holds.under d.2.2.1 hb (Holds.lt d.2.2.1),d.2.2.2.1,d.2.2.2.2.1,d.2.2.2.2.2.1,d.2.2.2.2.2.2.trans (hb.mono d.2.2.2.2.2.2.size)⟩
theorem DivEnd.row {w W:World} {g h N m:Nat} {L Q:List Nat} (d:DivEnd w g h N m L Q W):Row .u32 59 W g L:=d.1
theorem DivEnd.drew {w W:World} {g h N m:Nat} {L Q:List Nat} (d:DivEnd w g h N m L Q W):DivEnd w g h N m L Q W.drew:=d.next ⟨rfl,rfl,rfl,Nat.le_refl _,fun _ _=>rfl⟩

def RelD (w:World) (g1 h m N s:Nat) (V L2 t:List Nat) (si:Value) (wr:World):Prop :=
 ∃ (i:Nat) (L' Q:List Nat),i≤m∧si = .int .i64 ((i:Int) - 1)∧Q.length=m∧Dg Q∧L'.length=N∧Dg L'∧Row .u32 59 wr w.heap.size L'∧Row .u32 59 wr h Q∧Row .u32 59 wr g1 L2∧Below w.heap.size w wr ∧
   Hid (val L' + pw i*val (Q.drop i)*val V=val t*2 ^ s)∧Hid (0<m→val (L'.drop i)<val V)

end Go.Proofs.YtcibjcgipfpniaaGreatDoor
namespace Go.Proofs.YtcibjcgipfpniaaGreatDoor
open Go.RowKit
set_option linter.unusedVariables false

/-- A file's entry, as it is told. -/
structure EN where
 path:List Nat
 sz:Int
 dig:List Nat
deriving DecidableEq
structure En where
 path:List Nat
 sz:Int
 da:Option Addr
 dc:Nat
 dig:List Nat
instance:Inhabited EN:=⟨⟨[],0,[]⟩⟩
instance:Inhabited En:=⟨⟨[],0,none,0,[]⟩⟩
def En.v (e:En):EN:=⟨e.path,e.sz,e.dig⟩
def ncell (e:En):List Value:=[.string (str e.path),.int .i64 e.sz,.slice e.da e.dig.length e.dc]
def EnP (e:En) (w:World):Prop:=Rd .u8 w w.heap.size e.da e.dc e.dig∧(∀ x∈e.dig,x<256)∧Oct8 e.path
/-- The row's cells. -/
def RowN (w:World) (B:Nat) (A:Option Addr) (c:Nat) (l:List En):Prop :=
 l.length≤c∧c≤9223372036854775807∧(0<l.length→∃ b off,A=some ⟨b,off,none⟩∧b<B∧∀ j,j<l.length→w.cell? ⟨b,off+j*3,none⟩=some (.string (str (l.getD j default).path)) ∧
  w.cell? ⟨b,off+j*3+1,none⟩=some (.int .i64 (l.getD j default).sz)∧w.cell? ⟨b,off+j*3+2,none⟩=some (.slice (l.getD j default).da (l.getD j default).dig.length (l.getD j default).dc))
def NsP (A:Option Addr) (c:Nat) (l:List En) (w:World):Prop:=RowN w w.heap.size A c l∧∀ x∈l,EnP x w
theorem NsP.none (w:World):NsP none 0 [] w:=⟨⟨by simp,by omega,fun h=>by simp at h⟩,fun x hx=>by cases hx⟩
theorem RowN.congr {w w':World} {B:Nat} {A:Option Addr} {c:Nat} {l:List En} (h:RowN w B A c l) (hk:∀ g,g<B→w'.heap[g]?=w.heap[g]?):RowN w' B A c l :=
 ⟨h.1,h.2.1,fun hn=>by
  obtain ⟨b,off,e,hlt,hc⟩:=h.2.2 hn
  have hx:∀ o,w'.cell? ⟨b,o,Option.none⟩=w.cell? ⟨b,o,Option.none⟩:=fun o=>by simp only [World.cell?];rw [hk b hlt]
  exact ⟨b,off,e,hlt,fun j hj=>⟨(hx _).trans (hc j hj).1,(hx _).trans (hc j hj).2.1,(hx _).trans (hc j hj).2.2⟩⟩⟩
theorem RowN.more {w:World} {B B':Nat} {A:Option Addr} {c:Nat} {l:List En} (h:RowN w B A c l) (hB:B≤B'):RowN w B' A c l :=
 ⟨h.1,h.2.1,fun hn=>by
  obtain ⟨b,off,e,hlt,hc⟩:=h.2.2 hn
  exact ⟨b,off,e,by omega,hc⟩⟩
theorem NsP.at_ {A:Option Addr} {c j:Nat} {l:List En} {w:World} (h:NsP A c l w) (hj:j<l.length):EnP (l.getD j default) w:=h.2 _ (getD_mem hj)
/-- A manifest as it is told; in memory. -/
structure MV where
 name:List Nat
 ctr:Nat
 files:List EN
structure Mf where
 name:List Nat
 ctr:Nat
 fa:Option Addr
 fc:Nat
 files:List En
def Mf.v (m:Mf):MV:=⟨m.name,m.ctr,m.files.map En.v⟩
def mcell (m:Mf):List Value:=[.string (str m.name),.int .u64 (m.ctr:Int),.slice m.fa m.files.length m.fc]
def MfP (m:Mf) (w:World):Prop:=NsP m.fa m.fc m.files w∧Oct8 m.name∧m.ctr<18446744073709551616
/-- Is each part such? Is none too great? Do the paths rise? -/
def enOk (e:EN):Bool:=decide (0≤e.sz) && decide (e.dig.length=32) && textOk e.path
def formedOk (v:MV):Bool:=v.files.all enOk && (!decide (v.name=[]) && textOk v.name)
def greatOk (v:MV):Bool:=v.files.any (fun e=>decide (600<e.sz)) || decide (12<v.files.length)
def riseAt (l:List EN) (i:Nat):Bool:=Op.bytesLess (str (l.getD (i - 1) default).path).toList (str (l.getD i default).path).toList
def risingOk (l:List EN):Bool:=decide (∀ i,i<l.length→1≤i→riseAt l i=true)
def mfOk (v:MV):Bool:=formedOk v && !greatOk v && risingOk v.files
end Go.Proofs.YtcibjcgipfpniaaGreatDoor
namespace Go.Proofs.YtcibjcgipfpniaaGreatDoor
open Go.RowKit
set_option linter.unusedVariables false
set_option linter.unusedSimpArgs false
attribute [local go_sem ↓] Go.wp_at_zero Go.wp_at_succ

set_option maxRecDepth 100000 in
set_option maxHeartbeats 16000000 in
theorem clSame'_any (w:World) (cl cl2:Cl) (h:ClP cl w) (h2:ClP cl2 w) (r:Bool) (hr:r=true↔cl.v=cl2.v) :
  Calls Tryz.prog 17 #[.agg (ccell cl).toArray,.agg (ccell cl2).toArray] w fun x w'=>x = .returned (.bool r)∧Below w.heap.size w w':=by
 obtain ⟨d0,hd0⟩:=bool_of (cl.iss=cl2.iss)
 obtain ⟨d1,hd1⟩:∃ d,d=(cl.at_ == cl2.at_):=⟨_,rfl⟩
 obtain ⟨d2,hd2⟩:∃ d,d=(cl.next == cl2.next):=⟨_,rfl⟩
 obtain ⟨d3,hd3⟩:∃ d,d=decide (cl.gone.map Gn.v=cl2.gone.map Gn.v):=⟨_,rfl⟩
 obtain ⟨d4,hd4⟩:∃ d,d=decide (cl.sig=cl2.sig):=⟨_,rfl⟩
 have HR:Hid (r=(d0 && (d1 && (d2 && (d3 && d4))))):=Lib.hid (by
  refine bool_same hr ?_
  rw [cv_eq,Bool.and_eq_true,Bool.and_eq_true,Bool.and_eq_true,Bool.and_eq_true,hd0,hd1,hd2,hd3,hd4,beq_iff_eq,beq_iff_eq,decide_eq_true_iff,decide_eq_true_iff]
  exact Iff.rfl)
 have HC00:Hid (∀ W,Below w.heap.size w W→Calls Tryz.prog 49 #[.slice cl.ia cl.iss.length cl.ic,.slice cl2.ia cl2.iss.length cl2.ic] W fun e w'=>e = .returned (.bool d0)∧∃ q,w'=W.drewN q):=Lib.hid fun W hW =>
  sameR_any W _ _ _ _ _ _ _ _ cl.iss cl2.iss rfl rfl ((Off.of_c h).under hW).at_.1 ((Off.of_c h2).under hW).at_.1 d0 hd0
 have HK1:Hid (∀ W,Below w.heap.size w W→(convert 24 9 (.slice cl.sa cl.sig.length cl.sc)).run Tryz.prog W = .ok (.string (str cl.sig)) W):=Lib.hid fun W hW=>conv_str ((Off.of_c h).under hW).at_.2.2.1 rfl h.2.2.2
 have HK2:Hid (∀ W,Below w.heap.size w W→(convert 24 9 (.slice cl2.sa cl2.sig.length cl2.sc)).run Tryz.prog W = .ok (.string (str cl2.sig)) W):=Lib.hid fun W hW=>conv_str ((Off.of_c h2).under hW).at_.2.2.1 rfl h2.2.2.2
 have HDS:Hid (d4=((str cl.sig).toList == (str cl2.sig).toList)):=Lib.hid (by
  rw [hd4]
  by_cases he:cl.sig=cl2.sig
  ·rw [decide_eq_true he,he,str_same]
  ·rw [decide_eq_false he,str_ne h.2.2.2 h2.2.2.2 he])
 have hx0:=Off.of_g h.2.1
 have hx20:=Off.of_g h2.2.1
 have hsc:=h.2.2.1.1
 have hsc63:=h.2.2.1.2.1
 have hsd:=h2.2.2.1.1
 have hsd63:=h2.2.2.1.2.1
 clear h h2 hr hd0 hd4
 obtain ⟨ia,ic,iss,ta,tn,ga,gc,gone,sa,sc,sig⟩:=cl
 obtain ⟨ia2,ic2,iss2,ta2,tn2,ga2,gc2,gone2,sa2,sc2,sig2⟩:=cl2
 simp only [ccell] at *
 generalize iss.length=isn at *
 generalize iss2.length=isn2 at *
 generalize str sig=q1 at *
 generalize str sig2=q2 at *
 generalize sig.length=sn at *
 generalize sig2.length=sn2 at *
 obtain ⟨gn,hgn⟩:∃ k,gone.length=k:=⟨_,rfl⟩
 obtain ⟨gn2,hgn2⟩:∃ k,gone2.length=k:=⟨_,rfl⟩
 rw [hgn,hgn2]
 have hq:Below w.heap.size w ((w.alloc (.cells #[.slice ia isn ic,.int .i64 ta,.int .i64 tn,.slice ga gn gc,.slice sa sn sc] 26)).alloc (.cells #[.slice ia2 isn2 ic2,.int .i64 ta2,.int .i64 tn2,.slice ga2 gn2 gc2,.slice sa2 sn2 sc2] 26)):=((Below.refl _ _).alloc (Nat.le_refl _) _).alloc (by simp) _
 have hA:=(Holds.fresh w 26 #[.slice ia isn ic,.int .i64 ta,.int .i64 tn,.slice ga gn gc,.slice sa sn sc]).alloc (.cells #[.slice ia2 isn2 ic2,.int .i64 ta2,.int .i64 tn2,.slice ga2 gn2 gc2,.slice sa2 sn2 sc2] 26)
 have hB:=Holds.fresh (w.alloc (.cells #[.slice ia isn ic,.int .i64 ta,.int .i64 tn,.slice ga gn gc,.slice sa sn sc] 26)) 26 #[.slice ia2 isn2 ic2,.int .i64 ta2,.int .i64 tn2,.slice ga2 gn2 gc2,.slice sa2 sn2 sc2]
 rw [show (w.alloc (.cells #[.slice ia isn ic,.int .i64 ta,.int .i64 tn,.slice ga gn gc,.slice sa sn sc] 26)).heap.size=w.heap.size+1 by simp] at hB
 have a0:=hA.cell 0
 have a1:=hA.cell 1
 have a2:=hA.cell 2
 have a3:=hA.cell 3
 have a4:=hA.cell 4
 have b0:=hB.cell 0
 have b1:=hB.cell 1
 have b2:=hB.cell 2
 have b3:=hB.cell 3
 have b4:=hB.cell 4
 have HC0:=Lib.hid (HC00.out _ hq)
 obtain ⟨V,hV⟩:∃ V,V=((w.alloc (.cells #[.slice ia isn ic,.int .i64 ta,.int .i64 tn,.slice ga gn gc,.slice sa sn sc] 26)).alloc (.cells #[.slice ia2 isn2 ic2,.int .i64 ta2,.int .i64 tn2,.slice ga2 gn2 gc2,.slice sa2 sn2 sc2] 26)):=⟨_,rfl⟩
 have HV:=Lib.hid hV
 rw [←hV] at hq hA hB HC0
 have HQ:=Lib.hid hq
 have HA:=Lib.hid hA
 have HB:=Lib.hid hB
 have HX:=Lib.hid (hx0.under hq)
 have HX2:=Lib.hid (hx20.under hq)
 have HGN:=Lib.hid hgn
 have HGN2:=Lib.hid hgn2
 have hfc:=HX.out.at_.1.1
 have hfc63:=HX.out.at_.1.2.1
 have hfd:=HX2.out.at_.1.1
 have hfd63:=HX2.out.at_.1.2.1
 rw [hgn] at hfc
 rw [hgn2] at hfd
 have HLN:Hid (gn≠gn2→d3=false):=Lib.hid fun hne=>by
  rw [hd3]
  refine decide_eq_false fun he=>hne ?_
  have:=congrArg List.length he
  rw [List.length_map,List.length_map,hgn,hgn2] at this
  exact this
 have HD3:=Lib.hid hd3
 clear HC00 hq hA hB hV hx0 hx20 hgn hgn2 hd3
 cases d0 with
 | false =>
  have HE:Hid (r=false):=Lib.hid (by rw [HR.out];rfl)
  go_enter Tryz.func17,Tryz.ntmps17
  go_wp2_with fail
  rw [←HV.out]
  clear a0 a1 a2 a3 a4 b0 b1 b2 b3 b4
  refine HC0.out.mono ?_
  rintro x w2 ⟨rfl,q,rfl⟩
  go_wp2_with fail
  go_ret
  exact ⟨by rw [HE.out];rfl,below_drewN HQ.out q⟩
 | true =>
  cases d1 with
  | false =>
   have HE:Hid (r=false):=Lib.hid (by rw [HR.out];rfl)
   have e1:(ta == ta2)=false:=hd1.symm
   have e1':(ta != ta2)=true:=by rw [bne,e1];rfl
   clear hd1 hd2
   go_enter Tryz.func17,Tryz.ntmps17
   go_wp2_with fail
   rw [←HV.out]
   clear a0 a1 a2 a3 a4 b0 b1 b2 b3 b4
   refine HC0.out.mono ?_
   rintro x w2 ⟨rfl,q,rfl⟩
   have HQ1:=Lib.hid (below_drewN HQ.out q)
   have hA1:=HA.out.under (below_drewN (Below.refl _ V) q) HA.out.lt
   have hB1:=HB.out.under (below_drewN (Below.refl _ V) q) HB.out.lt
   have HX1:=Lib.hid (HX.out.under (below_drewN (Below.refl _ V) q))
   have HX21:=Lib.hid (HX2.out.under (below_drewN (Below.refl _ V) q))
   obtain ⟨V1,hV1⟩:∃ V1,V1=V.drewN q:=⟨_,rfl⟩
   rw [←hV1] at HQ1 hA1 hB1 HX1 HX21 ⊢
   have HA1:=Lib.hid hA1
   have HB1:=Lib.hid hB1
   have k1:=HK1.out V1 HQ1.out
   have k2:=HK2.out V1 HQ1.out
   have a0:=hA1.cell 0
   have a1:=hA1.cell 1
   have a2:=hA1.cell 2
   have a3:=hA1.cell 3
   have a4:=hA1.cell 4
   have b0:=hB1.cell 0
   have b1:=hB1.cell 1
   have b2:=hB1.cell 2
   have b3:=hB1.cell 3
   have b4:=hB1.cell 4
   clear hA1 hB1 hV1
   go_wp2_with fail
   go_ret
   exact ⟨by rw [HE.out];rfl,HQ1.out⟩
  | true =>
   have e1:(ta == ta2)=true:=hd1.symm
   have e1':(ta != ta2)=false:=by rw [bne,e1];rfl
   cases d2 with
   | false =>
    have HE:Hid (r=false):=Lib.hid (by rw [HR.out];rfl)
    have e2:(tn == tn2)=false:=hd2.symm
    have e2':(tn != tn2)=true:=by rw [bne,e2];rfl
    clear hd1 hd2
    go_enter Tryz.func17,Tryz.ntmps17
    go_wp2_with fail
    rw [←HV.out]
    clear a0 a1 a2 a3 a4 b0 b1 b2 b3 b4
    refine HC0.out.mono ?_
    rintro x w2 ⟨rfl,q,rfl⟩
    have HQ1:=Lib.hid (below_drewN HQ.out q)
    have hA1:=HA.out.under (below_drewN (Below.refl _ V) q) HA.out.lt
    have hB1:=HB.out.under (below_drewN (Below.refl _ V) q) HB.out.lt
    have HX1:=Lib.hid (HX.out.under (below_drewN (Below.refl _ V) q))
    have HX21:=Lib.hid (HX2.out.under (below_drewN (Below.refl _ V) q))
    obtain ⟨V1,hV1⟩:∃ V1,V1=V.drewN q:=⟨_,rfl⟩
    rw [←hV1] at HQ1 hA1 hB1 HX1 HX21 ⊢
    have HA1:=Lib.hid hA1
    have HB1:=Lib.hid hB1
    have k1:=HK1.out V1 HQ1.out
    have k2:=HK2.out V1 HQ1.out
    have a0:=hA1.cell 0
    have a1:=hA1.cell 1
    have a2:=hA1.cell 2
    have a3:=hA1.cell 3
    have a4:=hA1.cell 4
    have b0:=hB1.cell 0
    have b1:=hB1.cell 1
    have b2:=hB1.cell 2
    have b3:=hB1.cell 3
    have b4:=hB1.cell 4
    clear hA1 hB1 hV1
    go_wp2_with fail
    go_ret
    exact ⟨by rw [HE.out];rfl,HQ1.out⟩
   | true =>
    have e2:(tn == tn2)=true:=hd2.symm
    have e2':(tn != tn2)=false:=by rw [bne,e2];rfl
    clear hd1 hd2
    by_cases hl:gn=gn2
    case neg =>
     have e3:((gn:Int) != (gn2:Int))=true:=by rw [bne_iff_ne];omega
     have HE:Hid (r=false):=Lib.hid (by rw [HR.out,HLN.out hl];rfl)
     clear hl
     go_enter Tryz.func17,Tryz.ntmps17
     go_wp2_with fail
     rw [←HV.out]
     clear a0 a1 a2 a3 a4 b0 b1 b2 b3 b4
     refine HC0.out.mono ?_
     rintro x w2 ⟨rfl,q,rfl⟩
     have HQ1:=Lib.hid (below_drewN HQ.out q)
     have hA1:=HA.out.under (below_drewN (Below.refl _ V) q) HA.out.lt
     have hB1:=HB.out.under (below_drewN (Below.refl _ V) q) HB.out.lt
     have HX1:=Lib.hid (HX.out.under (below_drewN (Below.refl _ V) q))
     have HX21:=Lib.hid (HX2.out.under (below_drewN (Below.refl _ V) q))
     obtain ⟨V1,hV1⟩:∃ V1,V1=V.drewN q:=⟨_,rfl⟩
     rw [←hV1] at HQ1 hA1 hB1 HX1 HX21 ⊢
     have HA1:=Lib.hid hA1
     have HB1:=Lib.hid hB1
     have k1:=HK1.out V1 HQ1.out
     have k2:=HK2.out V1 HQ1.out
     have a0:=hA1.cell 0
     have a1:=hA1.cell 1
     have a2:=hA1.cell 2
     have a3:=hA1.cell 3
     have a4:=hA1.cell 4
     have b0:=hB1.cell 0
     have b1:=hB1.cell 1
     have b2:=hB1.cell 2
     have b3:=hB1.cell 3
     have b4:=hB1.cell 4
     clear hA1 hB1 hV1
     go_wp2_with fail
     go_ret
     exact ⟨by rw [HE.out];rfl,HQ1.out⟩
    subst hl
    have e3:((gn:Int) != (gn:Int))=false:=by rw [bne,beq_self_eq_true];rfl
    cases d4 with
    | false =>
     have HE:Hid (r=false):=Lib.hid (by rw [HR.out];simp)
     have e4:(q1.toList == q2.toList)=false:=HDS.out.symm
     have e4':(q1.toList != q2.toList)=true:=by rw [bne,e4];rfl
     go_enter Tryz.func17,Tryz.ntmps17
     go_wp2_with fail
     rw [←HV.out]
     clear a0 a1 a2 a3 a4 b0 b1 b2 b3 b4
     refine HC0.out.mono ?_
     rintro x w2 ⟨rfl,q,rfl⟩
     have HQ1:=Lib.hid (below_drewN HQ.out q)
     have hA1:=HA.out.under (below_drewN (Below.refl _ V) q) HA.out.lt
     have hB1:=HB.out.under (below_drewN (Below.refl _ V) q) HB.out.lt
     have HX1:=Lib.hid (HX.out.under (below_drewN (Below.refl _ V) q))
     have HX21:=Lib.hid (HX2.out.under (below_drewN (Below.refl _ V) q))
     obtain ⟨V1,hV1⟩:∃ V1,V1=V.drewN q:=⟨_,rfl⟩
     rw [←hV1] at HQ1 hA1 hB1 HX1 HX21 ⊢
     have HA1:=Lib.hid hA1
     have HB1:=Lib.hid hB1
     have k1:=HK1.out V1 HQ1.out
     have k2:=HK2.out V1 HQ1.out
     have a0:=hA1.cell 0
     have a1:=hA1.cell 1
     have a2:=hA1.cell 2
     have a3:=hA1.cell 3
     have a4:=hA1.cell 4
     have b0:=hB1.cell 0
     have b1:=hB1.cell 1
     have b2:=hB1.cell 2
     have b3:=hB1.cell 3
     have b4:=hB1.cell 4
     clear hA1 hB1 hV1
     go_wp2_with fail
     go_ret
     exact ⟨by rw [HE.out];rfl,HQ1.out⟩
    | true =>
     have HRF:Hid (r=d3):=Lib.hid (by rw [HR.out];simp)
     have e4:(q1.toList == q2.toList)=true:=HDS.out.symm
     have e4':(q1.toList != q2.toList)=false:=by rw [bne,e4];rfl
     go_enter Tryz.func17,Tryz.ntmps17
     go_wp2_with fail
     rw [←HV.out]
     clear a0 a1 a2 a3 a4 b0 b1 b2 b3 b4
     refine HC0.out.mono ?_
     rintro x w2 ⟨rfl,q,rfl⟩
     have HQ1:=Lib.hid (below_drewN HQ.out q)
     have hA1:=HA.out.under (below_drewN (Below.refl _ V) q) HA.out.lt
     have hB1:=HB.out.under (below_drewN (Below.refl _ V) q) HB.out.lt
     have HX1:=Lib.hid (HX.out.under (below_drewN (Below.refl _ V) q))
     have HX21:=Lib.hid (HX2.out.under (below_drewN (Below.refl _ V) q))
     obtain ⟨V1,hV1⟩:∃ V1,V1=V.drewN q:=⟨_,rfl⟩
     rw [←hV1] at HQ1 hA1 hB1 HX1 HX21 ⊢
     have HA1:=Lib.hid hA1
     have HB1:=Lib.hid hB1
     have k1:=HK1.out V1 HQ1.out
     have k2:=HK2.out V1 HQ1.out
     have a0:=hA1.cell 0
     have a1:=hA1.cell 1
     have a2:=hA1.cell 2
     have a3:=hA1.cell 3
     have a4:=hA1.cell 4
     have b0:=hB1.cell 0
     have b1:=hB1.cell 1
     have b2:=hB1.cell 2
     have b3:=hB1.cell 3
     have b4:=hB1.cell 4
     clear hA1 hB1 hV1
     go_wp2_with fail
     clear a0 a1 a2 a3 a4 b0 b1 b2 b3 b4 k1 k2 e4 e4' e1 e1' e2 e2' e3
     go_loopw [5] (fun iv wr=>∃ i:Nat,i≤gn∧iv = .int .i64 (i:Int)∧Hid (∀ j,j<i→(gone.getD j default).v=(gone2.getD j default).v)∧Below V1.heap.size V1 wr) (fun iv _=>gn - (intOf iv).toNat)
     case atStart=>exact ⟨0,by omega,rfl,fun j hj=>by omega,Below.refl _ _⟩
     case round =>
      obtain ⟨i,hi,rfl,HS,hBr⟩:=hrel
      have a3:=(HA1.out.under hBr HA1.out.lt).cell 3
      have b3:=(HB1.out.under hBr HB1.out.lt).cell 3
      have HBB:=Lib.hid (HQ1.out.trans (hBr.mono HQ1.out.size))
      have HB3:=Lib.hid hBr
      by_cases hlt:i<gn
      ·have hx:=(HX1.out.under hBr).at_
       have hx2:=(HX21.out.under hBr).at_
       obtain ⟨g,off,rfl,hg,hcs⟩:=hx.1.2.2 (by rw [HGN.out];omega)
       obtain ⟨g2,off2,rfl,hg2,hcs2⟩:=hx2.1.2.2 (by rw [HGN2.out];omega)
       obtain ⟨c0,c1⟩:=hcs i (by rw [HGN.out];exact hlt)
       obtain ⟨f0,f1⟩:=hcs2 i (by rw [HGN2.out];exact hlt)
       have hxe:=hx.at_ (by rw [HGN.out];exact hlt)
       have hxe2:=hx2.at_ (by rw [HGN2.out];exact hlt)
       have HST:Hid ((gone.getD i default).v=(gone2.getD i default).v→∀ j,j<i+1→(gone.getD j default).v=(gone2.getD j default).v):=Lib.hid fun he j hj=>by
        rcases Nat.lt_or_ge j i with h3 | h3
        ·exact HS.out j h3
        ·obtain rfl:j=i:=by omega
         exact he
       have HNE:Hid ((gone.getD i default).v≠(gone2.getD i default).v→r=false):=Lib.hid fun he=>by
        rw [HRF.out,HD3.out]
        exact decide_eq_false (gmap_ne (by rw [HGN.out];exact hlt) he (by rw [HGN.out,HGN2.out]))
       obtain ⟨e,he⟩:∃ e,e=gone.getD i default:=⟨_,rfl⟩
       obtain ⟨e2,he2⟩:∃ e,e=gone2.getD i default:=⟨_,rfl⟩
       rw [←he] at c0 c1 hxe HST HNE
       rw [←he2] at f0 f1 hxe2 HST HNE
       clear he he2 hcs hcs2 hx hx2 HS
       obtain ⟨da,dc,ser,tm⟩:=e
       obtain ⟨da2,dc2,ser2,tm2⟩:=e2
       obtain ⟨hr1,hd1⟩:=hxe
       obtain ⟨hr2,hd2⟩:=hxe2
       dsimp only at c0 c1 f0 f1 hr1 hr2
       obtain ⟨n1,hn1⟩:∃ k,ser.length=k:=⟨_,rfl⟩
       obtain ⟨n2,hn2⟩:∃ k,ser2.length=k:=⟨_,rfl⟩
       rw [hn1] at c0
       rw [hn2] at f0
       have HST:Hid (ser=ser2→tm=tm2→∀ j,j<i+1→(gone.getD j default).v=(gone2.getD j default).v):=Lib.hid fun h1 h2=>HST.out (gn_eq.2 ⟨h1,h2⟩)
       have HNE:Hid ((ser=ser2→tm=tm2→False)→r=false):=Lib.hid fun he=>HNE.out fun h=>he (gn_eq.1 h).1 (gn_eq.1 h).2
       obtain ⟨z,hz⟩:∃ z,z=cmpL ser ser2:=⟨_,rfl⟩
       have HCM:Hid (∀ k,Calls Tryz.prog 23 #[.slice da n1 dc,.slice da2 n2 dc2] (wr.drewN k) fun e w'=>e = .returned (.int .i64 z)∧∃ m,w'=(wr.drewN k).drewN m):=Lib.hid fun k=>by
        rw [hz]
        exact cmp'_at (wr.drewN k) _ _ da da2 dc dc2 n1 n2 ser ser2 hn1 hn2 (hr1.drewN k) (hr2.drewN k) _ rfl
       have HZ:Hid (z=0↔ser=ser2):=Lib.hid (by rw [hz];exact cmp_zero)
       clear hr1 hr2 hd1 hd2 hn1 hn2 hz hg hg2
       by_cases hz0:z=0
       case neg =>
        have d:(z == 0)=false:=by rw [beq_eq_false_iff_ne];exact hz0
        have d':(z != 0)=true:=by rw [bne,d];rfl
        have HE:Hid (r=false):=Lib.hid (HNE.out fun h1 _=>hz0 (HZ.out.2 h1))
        clear hBr hz0
        go_wp2_with fail
        go_quiet ((go_at_call 23;exact Calls.quiet_of (HCM.out _)))
        go_wp2_with fail
        go_ret
        exact ⟨by rw [HE.out];rfl,below_drewN HBB.out _⟩
       have d:(z == 0)=true:=by rw [beq_iff_eq];exact hz0
       have d':(z != 0)=false:=by rw [bne,d];rfl
       by_cases htt:tm=tm2
       case neg =>
        have d2:(tm == tm2)=false:=by rw [beq_eq_false_iff_ne];exact htt
        have d2':(tm != tm2)=true:=by rw [bne,d2];rfl
        have HE:Hid (r=false):=Lib.hid (HNE.out fun _ h2=>htt h2)
        clear hBr hz0 htt
        go_wp2_with fail
        go_quiet ((go_at_call 23;exact Calls.quiet_of (HCM.out _)))
        go_wp2_with fail
        go_ret
        exact ⟨by rw [HE.out];rfl,below_drewN HBB.out _⟩
       have d2:(tm == tm2)=true:=by rw [beq_iff_eq];exact htt
       have d2':(tm != tm2)=false:=by rw [bne,d2];rfl
       have HC:=Lib.hid (HST.out (HZ.out.1 hz0) htt)
       clear hBr hz0 htt
       go_wp2_with fail
       go_quiet ((go_at_call 23;exact Calls.quiet_of (HCM.out _)))
       go_wp2_with fail
       go_roundw
       case rel=>exact ⟨i+1,by omega,by go_num,HC,below_drewN HB3.out _⟩
       case measure=>simp [intOf];omega
      ·obtain rfl:i=gn:=by omega
       have HE:Hid (r=true):=Lib.hid (by
        rw [HRF.out,HD3.out]
        exact decide_eq_true (gmap_eq (by rw [HGN.out,HGN2.out]) fun j hj=>HS.out j (by rw [HGN.out] at hj;exact hj)))
       have hf:decide ((i:Int)<(i:Int))=false:=decide_eq_false (by omega)
       clear hBr
       go_wp2_with fail
       go_ret
       exact ⟨by rw [HE.out];rfl,HBB.out⟩
end Go.Proofs.YtcibjcgipfpniaaGreatDoor
namespace Go.Proofs.YtcibjcgipfpniaaGreatDoor
open Go.RowKit
set_option linter.unusedVariables false
set_option linter.unusedSimpArgs false

def readT (L:List Nat):Except Nat Tr:=if 12000<L.length then .error 4 else match rd L 1 0 with
 | .error e=>.error e
 | .ok (t,m,_)=>if m<L.length then .error 2 else .ok t
def ReadPost (w:World):Except Nat Tr→Ending→World→Prop
 | .error x,e,w'=>e = .returned (.tuple #[noNode,.int .i64 (x:Int)])∧Below w.heap.size w w'
 | .ok t,e,w'=>∃ lt,e = .returned (.tuple #[lt.val,.int .i64 0])∧lt.t=t∧TrAt w' w'.heap.size lt∧Below w.heap.size w w'
end Go.Proofs.YtcibjcgipfpniaaGreatDoor
namespace Go.Proofs.YtcibjcgipfpniaaGreatDoor
open Go.RowKit
set_option linter.unusedVariables false
set_option linter.unusedSimpArgs false

end Go.Proofs.YtcibjcgipfpniaaGreatDoor
