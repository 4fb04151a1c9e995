/- Words and laws for the statement, part 14. -/
import Derived.OpenShut
import Derived.ChangeSlices
import Derived.ChangeArms
import Derived.WideShapes
import Derived.Deep.Matrix
import Derived.Deep.Slices
import Derived.Lib.SmallJoins
import Derived.Test.YtkmbgbbmhpidkaaH01
import Derived.Test.YtkmbgbbmhpidkaaH12
import Derived.Test.YtkmbgbbmhpidkaaH13
namespace Go.Proofs.Ytkmbgbbmhpidkaa
open Go.RowKit Go.Shelf
set_option linter.unusedVariables false
set_option linter.unusedSimpArgs false

/-- An act of the argument. -/
structure Aj where
 kind:Int
 wa:Option Addr
 wc:Nat
 wl:List Wr
 ca:Int
 ka:Option Addr
 kc:Nat
 kl:List Bool
instance:Inhabited Aj:=⟨⟨0,none,0,[],0,none,0,[]⟩⟩
def AjAt (w:World) (g o:Nat) (a:Aj):Prop :=
 w.cell? ⟨g,o,none⟩=some (.int .i64 a.kind)∧w.cell? ⟨g,o+1,none⟩=some (.slice a.wa a.wl.length a.wc)∧w.cell? ⟨g,o+2,none⟩=some (.int .i64 a.ca)∧w.cell? ⟨g,o+3,none⟩=some (.slice a.ka a.kl.length a.kc)
def RdAj (w:World) (A:Option Addr) (c:Nat) (l:List Aj):Prop :=
 l.length≤c∧c≤9223372036854775807∧(∀ j,j<l.length→RdWr (l.getD j default).wa (l.getD j default).wc (l.getD j default).wl w∧(∀ x∈(l.getD j default).wl,Oct1 x.d)∧Truths w (l.getD j default).ka (l.getD j default).kc (l.getD j default).kl) ∧
  (0<l.length→∃ b off,A=some ⟨b,off,none⟩∧b<w.heap.size∧∀ j,j<l.length→AjAt w b (off+j*4) (l.getD j default))
theorem RdWr.keepLow {A:Option Addr} {c:Nat} {l:List Wr} {w w':World} (h:RdWr A c l w) (hs:w.heap.size≤w'.heap.size) (hk:∀ g,g<w.heap.size→w'.heap[g]?=w.heap[g]?):RdWr A c l w' :=
 ⟨h.1,h.2.1,fun j hj=>(h.2.2.1 j hj).keepB hs fun g _ hg=>hk g hg,fun hn=>by
  obtain ⟨b,off,e,hlt,hc⟩:=h.2.2.2 hn
  exact ⟨b,off,e,Nat.lt_of_lt_of_le hlt hs,fun j hj=>⟨(World.cell?_of_block (a:=⟨b,_,none⟩) (hk b hlt)).trans (hc j hj).1,(World.cell?_of_block (a:=⟨b,_,none⟩) (hk b hlt)).trans (hc j hj).2⟩⟩⟩
/-- What lies below w is off all that lies from it on. -/
theorem RdWr.offLow {A:Option Addr} {c:Nat} {l:List Wr} {w w1:World} (h:RdWr A c l w) (hb:Below w.heap.size w w1) (F:Nat→Prop) (hF:∀ k,F k→w.heap.size≤k):OffF F (RdWr A c l) w1:=fun w' hs hk =>
 h.keepLow (Nat.le_trans hb.size hs) fun g hg=>(hk g (fun e=>by have:=hF g e;omega) (Nat.lt_of_lt_of_le hg hb.size)).trans (hb.block g hg)
/-- Both disks, and block bx is none of theirs. -/
def TwoX (w:World) (B bx gd:Nat) (s1:Dk) (gx:Nat) (s2:Dk):Prop :=
 bx<w.heap.size∧B≤w.heap.size∧∃ F1 F2:Nat→Prop,Disk w F1 gd s1∧Ref w F2 gx s2∧(∀ k,F1 k→B≤k∧k<w.heap.size∧k≠bx)∧(∀ k,F2 k→B≤k∧k<w.heap.size∧k≠bx)∧∀ k,F1 k→¬ F2 k
section
variable {w w':World} {B bx gd gx:Nat} {s1 s2 s1' s2':Dk}
theorem TwoX.to (h:TwoX w B bx gd s1 gx s2):Two w B gd s1 gx s2:=by
 obtain ⟨hx,hB,F1,F2,d,r,l1,l2,hd⟩:=h
 exact ⟨hB,F1,F2,d,r,fun k hk=>⟨(l1 k hk).1,(l1 k hk).2.1⟩,fun k hk=>⟨(l2 k hk).1,(l2 k hk).2.1⟩,hd⟩
theorem TwoX.of (h:Two w B gd s1 gx s2) (hb:Below w.heap.size w w') (hw:w.heap.size≤bx) (hlt:bx<w'.heap.size):TwoX w' B bx gd s1 gx s2:=by
 obtain ⟨hB,F1,F2,d,r,l1,l2,hd⟩:=h
 exact ⟨hlt,Nat.le_trans hB hb.size,F1,F2,d.keep (Only.of_below (F:=fun _=>False) hb) (fun _ _ e=>e),r.under hb,fun k hk=>⟨(l1 k hk).1,Nat.lt_of_lt_of_le (l1 k hk).2 hb.size,by have:=(l1 k hk).2;omega⟩,fun k hk=>⟨(l2 k hk).1,Nat.lt_of_lt_of_le (l2 k hk).2 hb.size,by have:=(l2 k hk).2;omega⟩,hd⟩
theorem TwoX.under (h:TwoX w B bx gd s1 gx s2) (hb:Below w.heap.size w w'):TwoX w' B bx gd s1 gx s2:=by
 obtain ⟨hx,hB,F1,F2,d,r,l1,l2,hd⟩:=h
 exact ⟨Nat.lt_of_lt_of_le hx hb.size,Nat.le_trans hB hb.size,F1,F2,d.keep (Only.of_below (F:=fun _=>False) hb) (fun _ _ e=>e),r.under hb,fun k hk=>⟨(l1 k hk).1,Nat.lt_of_lt_of_le (l1 k hk).2.1 hb.size,(l1 k hk).2.2⟩,fun k hk=>⟨(l2 k hk).1,Nat.lt_of_lt_of_le (l2 k hk).2.1 hb.size,(l2 k hk).2.2⟩,hd⟩
theorem TwoX.left {P:Program} {f:FuncId} {args:Array Value} {v:Value} (h:TwoX w B bx gd s1 gx s2) (hc:∀ F1:Nat→Prop,Disk w F1 gd s1→(∀ k,F1 k→B≤k)→Calls P f args w fun e w'=>e = .returned v∧Disk w' (grow F1 w w') gd s1'∧Only F1 w w') :
  Calls P f args w fun e w'=>e = .returned v∧TwoX w' B bx gd s1' gx s2∧Below B w w'∧w'.heap[bx]?=w.heap[bx]?:=by
 obtain ⟨hx,hB,F1,F2,d,r,l1,l2,hd⟩:=h
 refine (hc F1 d fun k hk=>(l1 k hk).1).mono ?_
 rintro e w' ⟨rfl,d',ho⟩
 refine ⟨rfl,⟨Nat.lt_of_lt_of_le hx ho.size,Nat.le_trans hB ho.size,_,F2,d',r.keep ho fun k a b=>hd k b a,fun k hk=>?_,fun k hk=>⟨(l2 k hk).1,Nat.lt_of_lt_of_le (l2 k hk).2.1 ho.size,(l2 k hk).2.2⟩,fun k hk hk2=>?_⟩,ho.below (fun k hk=>(l1 k hk).1) hB,ho.block bx hx fun e=>(l1 bx e).2.2 rfl⟩
 ·rcases hk with hk | hk
  ·exact ⟨(l1 k hk).1,Nat.lt_of_lt_of_le (l1 k hk).2.1 ho.size,(l1 k hk).2.2⟩
  ·exact ⟨Nat.le_trans hB hk.1,hk.2,by omega⟩
 ·rcases hk with hk | hk
  ·exact hd k hk hk2
  ·have:=(l2 k hk2).2.1;omega
theorem TwoX.right {P:Program} {f:FuncId} {args:Array Value} {v:Value} (h:TwoX w B bx gd s1 gx s2) (hc:∀ F2:Nat→Prop,Ref w F2 gx s2→(∀ k,F2 k→B≤k)→Calls P f args w fun e w'=>e = .returned v∧Ref w' (grow F2 w w') gx s2'∧Only F2 w w') :
  Calls P f args w fun e w'=>e = .returned v∧TwoX w' B bx gd s1 gx s2'∧Below B w w'∧w'.heap[bx]?=w.heap[bx]?:=by
 obtain ⟨hx,hB,F1,F2,d,r,l1,l2,hd⟩:=h
 refine (hc F2 r fun k hk=>(l2 k hk).1).mono ?_
 rintro e w' ⟨rfl,r',ho⟩
 refine ⟨rfl,⟨Nat.lt_of_lt_of_le hx ho.size,Nat.le_trans hB ho.size,F1,_,d.keep ho fun k a b=>hd k a b,r',fun k hk=>⟨(l1 k hk).1,Nat.lt_of_lt_of_le (l1 k hk).2.1 ho.size,(l1 k hk).2.2⟩,fun k hk=>?_,fun k hk hk2=>?_⟩,ho.below (fun k hk=>(l2 k hk).1) hB,ho.block bx hx fun e=>(l2 bx e).2.2 rfl⟩
 ·rcases hk with hk | hk
  ·exact ⟨(l2 k hk).1,Nat.lt_of_lt_of_le (l2 k hk).2.1 ho.size,(l2 k hk).2.2⟩
  ·exact ⟨Nat.le_trans hB hk.1,hk.2,by omega⟩
 ·rcases hk2 with hk2 | hk2
  ·exact hd k hk hk2
  ·have:=(l1 k hk).2.1;omega
end
section
variable {w w':World} {B bx gd gx:Nat} {s s1 s2:Dk}
theorem twx_write1 (h:TwoX w B bx gd s1 gx s2) (i:Int) (A2:Option Addr) (n2 c2:Nat) (x:List Nat) (hn:x.length=n2) (hr:Rd .u8 w w.heap.size A2 c2 x) (hwl:s1.waits.length≤100000) (hops:s1.ops≤1000000000) :
  Calls Try.prog 20 #[.pointer (some ⟨gd,0,none⟩),.int .i64 i,.slice A2 n2 c2] w fun e w'=>e = .returned (.int .i64 ((s1.write i x).2:Nat))∧TwoX w' B bx gd (s1.write i x).1 gx s2∧Below B w w'∧w'.heap[bx]?=w.heap[bx]? :=
 h.left fun F1 d hF=>disk_write d i A2 n2 c2 x hn hr hwl hops
theorem twx_write2 (h:TwoX w B bx gd s1 gx s2) (i:Int) (A2:Option Addr) (n2 c2:Nat) (x:List Nat) (hn:x.length=n2) (hr:Rd .u8 w w.heap.size A2 c2 x) (hA2:∀ g,blockOf A2=some g→g≠gx) (hwl:s2.waits.length≤100000) (hops:s2.ops≤1000000000) :
  Calls Try.prog 22 #[.pointer (some ⟨gx,0,none⟩),.int .i64 i,.slice A2 n2 c2] w fun e w'=>e = .returned (.int .i64 ((s2.write i x).2:Nat))∧TwoX w' B bx gd s1 gx (s2.write i x).1∧Below B w w'∧w'.heap[bx]?=w.heap[bx]? :=
 h.right fun F2 r hF=>ref_write r i A2 n2 c2 x hn hr (fun _=>hA2) hwl hops
theorem twx_flush1 (h:TwoX w B bx gd s1 gx s2) (hwl:s1.waits.length≤100000) (hops:s1.ops≤1000000000) :
  Calls Try.prog 23 #[.pointer (some ⟨gd,0,none⟩)] w fun e w'=>e = .returned (.int .i64 (s1.flush.2:Nat))∧TwoX w' B bx gd s1.flush.1 gx s2∧Below B w w'∧w'.heap[bx]?=w.heap[bx]? :=
 h.left fun F1 d hF=>disk_flush d hwl hops
theorem twx_flush2 (h:TwoX w B bx gd s1 gx s2) (hwl:s2.waits.length≤100000) (hops:s2.ops≤1000000000) :
  Calls Try.prog 24 #[.pointer (some ⟨gx,0,none⟩)] w fun e w'=>e = .returned (.int .i64 (s2.flush.2:Nat))∧TwoX w' B bx gd s1 gx s2.flush.1∧Below B w w'∧w'.heap[bx]?=w.heap[bx]? :=
 h.right fun F2 r hF=>ref_flush r hwl hops
theorem twx_restart1 (h:TwoX w B bx gd s1 gx s2) (hwl:s1.waits.length≤100000) :
  Calls Try.prog 14 #[.pointer (some ⟨gd,0,none⟩)] w fun e w'=>e = .returned (.tuple #[])∧TwoX w' B bx gd s1.restart gx s2∧Below B w w'∧w'.heap[bx]?=w.heap[bx]? :=
 h.left fun F1 d hF=>disk_restart d hwl
theorem twx_restart2 (h:TwoX w B bx gd s1 gx s2)  :
  Calls Try.prog 15 #[.pointer (some ⟨gx,0,none⟩)] w fun e w'=>e = .returned (.tuple #[])∧TwoX w' B bx gd s1 gx s2.restart∧Below B w w'∧w'.heap[bx]?=w.heap[bx]? :=
 h.right fun F2 r hF=>ref_restart r
theorem twx_arm1 (h:TwoX w B bx gd s1 gx s2) (a:Int) (K2:Option Addr) (c2 n2:Nat) (l:List Bool) (hn:l.length=n2) (hr:Truths w K2 c2 l) (hsz:n2≤1000) (hne:l≠[]→∀ g,blockOf K2=some g→g≠gd) :
  Calls Try.prog 12 #[.pointer (some ⟨gd,0,none⟩),.agg #[.int .i64 a,.slice K2 n2 c2]] w fun e w'=>e = .returned (.tuple #[])∧TwoX w' B bx gd (s1.arm a l) gx s2∧Below B w w'∧w'.heap[bx]?=w.heap[bx]? :=
 h.left fun F1 d hF=>disk_arm d a K2 c2 n2 l hn hr (by omega) hne
theorem twx_arm2 (h:TwoX w B bx gd s1 gx s2) (a:Int) (K2:Option Addr) (c2 n2:Nat) (l:List Bool) (hn:l.length=n2) (hr:Truths w K2 c2 l) (hsz:n2≤1000) :
  Calls Try.prog 13 #[.pointer (some ⟨gx,0,none⟩),.agg #[.int .i64 a,.slice K2 n2 c2]] w fun e w'=>e = .returned (.tuple #[])∧TwoX w' B bx gd s1 gx (s2.arm a l)∧Below B w w'∧w'.heap[bx]?=w.heap[bx]? :=
 h.right fun F2 r hF=>ref_arm r a K2 c2 n2 l hn hr hsz
theorem twx_format1 (h:TwoX w B bx gd s1 gx s2) (hwl:s1.waits.length≤70000) (hops:s1.ops≤700000000) :
  Calls Try.prog 18 #[.pointer (some ⟨gd,0,none⟩)] w fun e w'=>e = .returned (.int .i64 (s1.format.2:Nat))∧TwoX w' B bx gd s1.format.1 gx s2∧Below B w w'∧w'.heap[bx]?=w.heap[bx]? :=
 h.left fun F1 d hF=>format_any d hwl hops
theorem twx_format2 (h:TwoX w B bx gd s1 gx s2) (hn:s2.now.length≤900) (hwl:s2.waits.length≤60000) (hops:s2.ops≤600000000) :
  Calls Try.prog 19 #[.pointer (some ⟨gx,0,none⟩)] w fun e w'=>e = .returned (.int .i64 (s2.format.2:Nat))∧TwoX w' B bx gd s1 gx s2.format.1∧Below B w w'∧w'.heap[bx]?=w.heap[bx]? :=
 h.right fun F2 r hF=>format'_any r hn hwl hops
theorem twx_open1 (h:TwoX w B bx gd s1 gx s2) (hoc:∀ i:Nat,Oct1 (s1.read (i:Int))) (hwl:s1.waits.length≤70000) (hops:s1.ops≤700000000) :
  Calls Try.prog 16 #[.pointer (some ⟨gd,0,none⟩)] w fun e w'=>e = .returned (.int .i64 (s1.open_.2:Nat))∧TwoX w' B bx gd s1.open_.1 gx s2∧Below B w w'∧w'.heap[bx]?=w.heap[bx]? :=
 h.left fun F1 d hF=>open_any d hoc hwl hops
theorem twx_open2 (h:TwoX w B bx gd s1 gx s2) (h64:∀ i:Nat,i<s2.now.length→(s2.read (i:Int)).length=64) (hoc:∀ i:Nat,Oct1 (s2.read (i:Int))) (hwl:s2.waits.length≤60000) (hops:s2.ops≤600000000) :
  Calls Try.prog 17 #[.pointer (some ⟨gx,0,none⟩)] w fun e w'=>e = .returned (.int .i64 (s2.open_.2:Nat))∧TwoX w' B bx gd s1 gx s2.open_.1∧Below B w w'∧w'.heap[bx]?=w.heap[bx]? :=
 h.right fun F2 r hF=>open'_any r h64 hoc hwl hops
theorem twx_commit1 (h:TwoX w B bx gd s1 gx s2) (A:Option Addr) (c n:Nat) (l:List Wr) (hl:l.length=n) (hr:∀ F:Nat→Prop,(∀ k,F k→B≤k)→OffF F (RdWr A c l) w) (hn:n≤1000) (hwl:s1.waits.length≤70000) (hops:s1.ops≤700000000) :
  Calls Try.prog 10 #[.pointer (some ⟨gd,0,none⟩),.slice A n c] w fun e w'=>e = .returned (.int .i64 ((s1.commit (wv l)).2:Nat))∧TwoX w' B bx gd (s1.commit (wv l)).1 gx s2∧Below B w w'∧w'.heap[bx]?=w.heap[bx]? :=
 h.left fun F1 d hF=>commit_any d A c n l hl (hr F1 hF) hn hwl hops
theorem twx_commit2 (h:TwoX w B bx gd s1 gx s2) (A:Option Addr) (c n:Nat) (l:List Wr) (hl:l.length=n) (hr:∀ F:Nat→Prop,(∀ k,F k→B≤k)→OffF F (RdWr A c l) w) (hne:∀ x∈l,0<x.d.length→∀ g,blockOf x.da=some g→g≠gx) (hn:n≤12) (hwl:s2.waits.length≤60000) (hops:s2.ops≤600000000) :
  Calls Try.prog 11 #[.pointer (some ⟨gx,0,none⟩),.slice A n c] w fun e w'=>e = .returned (.int .i64 ((s2.commit (wv l)).2:Nat))∧TwoX w' B bx gd s1 gx (s2.commit (wv l)).1∧Below B w w'∧w'.heap[bx]?=w.heap[bx]? :=
 h.right fun F2 r hF=>commit'_any r A c n l hl (hr F2 hF) hne hn hwl hops
theorem commit_le (s:Dk) (l:List (Int×List Nat)) (hn:l.length≤12):(s.commit l).1.waits.length≤s.waits.length+100∧(s.commit l).1.ops≤s.ops+100:=by
 have h1:=putf_le s (logD l ++ logS l)
 have h2:(logD l ++ logS l).length≤13:=by
  have:sheetsN l.length≤1:=by unfold sheetsN;omega
  simp [logD,logS]
  omega
 have h3:=putf_le (s.putf (logD l ++ logS l)).1 [(1,markB l.length)]
 have h4:=fin_le ((s.putf (logD l ++ logS l)).1.putf [(1,markB l.length)]).1 l
 simp only [List.length_cons,List.length_nil] at h3
 unfold Dk.commit
 split
 ·split
  ·exact ⟨Nat.le_add_right _ _,Nat.le_add_right _ _⟩
  ·split
   ·exact ⟨Nat.le_add_right _ _,Nat.le_add_right _ _⟩
   ·split
    ·split
     ·omega
     ·omega
    ·omega
 ·exact ⟨Nat.le_add_right _ _,Nat.le_add_right _ _⟩
theorem fin_now (s:Dk) (l:List (Int×List Nat)):(s.fin l).1.now.length=s.now.length:=by
 unfold Dk.fin
 split
 ·rw [putf_now,putf_now]
 ·rw [putf_now]
theorem open_now (s:Dk):s.open_.1.now.length=s.now.length:=by
 unfold Dk.open_
 split
 ·rfl
 ·split
  ·rfl
  ·split
   ·rfl
   ·rfl
   ·split
    ·exact fin_now s _
    ·rfl
theorem format_now (s:Dk):s.format.1.now.length=s.now.length:=by
 unfold Dk.format
 split
 ·rfl
 ·exact putf_now s _
theorem commit_now (s:Dk) (l:List (Int×List Nat)):(s.commit l).1.now.length=s.now.length:=by
 unfold Dk.commit
 split
 ·split
  ·rfl
  ·split
   ·rfl
   ·split
    ·split
     ·rw [fin_now,putf_now,putf_now]
     ·rw [putf_now,putf_now]
    ·rw [putf_now]
 ·rfl
theorem restart_now (s:Dk):s.restart.now.length=s.now.length:=by
 show (backN _ _ _ _).length=_
 rw [backN_length]
end
end Go.Proofs.Ytkmbgbbmhpidkaa
namespace Go.Proofs.Ytkmbgbbmhpidkaa
open Go.RowKit Go.ChangeShapes

theorem rd_of_row {k:IntKind} {m:Nat} (hk:∀ n:Int,(Lit.int k n).wf=true→0≤n∧n<(m:Int)) {w:World} {a:Option Addr} {len cap:Nat} {zs:List Int}
  (h:(a=none∧len=0∧cap=0∧zs=[]) ∨
   ∃ x,a=some x∧len≤cap∧cap≤maxLen∧zs.length=cap∧(∀ i,i<zs.length→w.cell? (x.add i)=some (.int k (zs.getD i 0)))∧∀ n∈zs,(Lit.int k n).wf=true) :
  ∃ l:List Nat,l.length=len∧Rd k w w.heap.size a cap l∧∀ x∈l,x<m:=by
 rcases h with ⟨rfl,rfl,rfl,rfl⟩ | ⟨x,rfl,hl,hm,hz,hc,hwf⟩
 ·exact ⟨[],rfl,Rd.nil_ k w _,fun x hx=>by cases hx⟩
 ·refine ⟨(zs.take len).map Int.toNat,by simp;omega,⟨by simp;omega,by unfold maxLen at hm;exact hm,fun hn=>?_⟩,fun y hy=>?_⟩
  ·have h0:0<zs.length:=by simp at hn;omega
   obtain ⟨b,off,sp⟩:=x
   have hc0:=hc 0 h0
   have hsp:sp=none:=by simpa [Addr.add] using World.cell?_spot hc0
   subst hsp
   have hadd:∀ j,(⟨b,off,none⟩:Addr).add j=⟨b,off+j,none⟩:=fun j=>by unfold Addr.add;split <;> simp_all
   refine ⟨b,off,rfl,?_,fun j hj=>?_⟩
   ·have:=World.block_lt_of_cell? w _ hc0
    rw [hadd] at this
    exact this
   ·have hj':j<len∧j<zs.length:=by simp at hj;omega
    rw [←hadd,hc j hj'.2]
    have hw:=(hk zs[j] (hwf _ (List.getElem_mem hj'.2))).1
    simp [List.getD,hj'.1,hj'.2,Int.toNat_of_nonneg hw]
  ·obtain ⟨z,hz',rfl⟩:=List.mem_map.1 hy
   have:=hk z (hwf z (List.mem_of_mem_take hz'))
   omega
theorem wf_u8 (n:Int) (h:(Lit.int .u8 n).wf=true):0≤n∧n<((256:Nat):Int):=by
 have:=bounds_u8 h
 omega
end Go.Proofs.Ytkmbgbbmhpidkaa
namespace Go.Proofs.Ytkmbgbbmhpidkaa
open Go.RowKit Go.ChangeShapes Go.WideShapes
set_option linter.unusedVariables false

theorem rd1_open {H:Type} {enc:TypeId×Value→H} {w:World} {base:Nat} {held:Bool} {fuel:Nat} {v:Value} {x:DataW H×List MemPlace} (h:DataW.trod enc Try.prog w base (fun _=>true) held fuel 40 v.cells.toList=some x) (hv:∃ a n c,v = .slice a n c) :
  ∃ (A:Option Addr) (n c:Nat) (l:List Nat),v = .slice A n c∧l.length=n∧Rd .u8 w w.heap.size A c l∧∀ x∈l,x<256:=by
 obtain ⟨a,n,c,rfl⟩:=hv
 rcases open_ints Try.underlying40 Try.underlying5 (by kernel_rfl) h with ⟨hcs,_⟩ | ⟨x,l,c',zs,hcs,_,hl,hm,hz,_,hcell,hwz⟩
 ·simp [Value.cells] at hcs
  obtain ⟨rfl,rfl,rfl⟩:=hcs
  exact ⟨none,0,0,[],rfl,rfl,Rd.nil_ _ _ _,fun x hx=>by cases hx⟩
 ·simp [Value.cells] at hcs
  obtain ⟨rfl,rfl,rfl⟩:=hcs
  obtain ⟨b,h1,h2,h3⟩:=rd_of_row wf_u8 (w:=w) (a:=some x) (len:=n) (cap:=c) (zs:=zs) (.inr ⟨x,rfl,hl,hm,by simpa using hz,hcell,hwz⟩)
  exact ⟨_,_,_,b,rfl,h1,h2,h3⟩
theorem list_of {α:Type} [Inhabited α] {P:Nat→α→Prop}:∀ n,(∀ i,i<n→∃ a,P i a)→∃ l:List α,l.length=n∧∀ i,i<n→P i (l.getD i default)
 | 0,_=>⟨[],rfl,fun i h=>absurd h (by omega)⟩
 | n+1,h=>by
  obtain ⟨l,hl,hp⟩:=list_of n (fun i hi=>h i (by omega))
  obtain ⟨a,ha⟩:=h n (by omega)
  refine ⟨l ++ [a],by simp [hl],fun i hi=>?_⟩
  by_cases e:i=n
  ·subst e
   have e2:(l ++ [a]).getD i default=a:=by simp [List.getD,←hl]
   rw [e2];exact ha
  ·have e2:(l ++ [a]).getD i default=l.getD i default:=by simp [List.getD,List.getElem?_append_left (show i<l.length by omega)]
   rw [e2];exact hp i (by omega)
theorem truths_open {H:Type} {enc:TypeId×Value→H} {w:World} {base:Nat} {sp:Nat→Bool} {held:Bool} {fuel:Nat} {v:Value} {x:DataW H×List MemPlace} (h:DataW.trod enc Try.prog w base sp held fuel 28 v.cells.toList=some x) (hv:∃ a n c,v = .slice a n c) :
  ∃ (A:Option Addr) (n c:Nat) (l:List Bool),v = .slice A n c∧l.length=n∧Truths w A c l:=by
 obtain ⟨a,n,c,rfl⟩:=hv
 rcases Deep.open_slice1 Try.underlying28 (by kernel_rfl) h with ⟨hcs,_⟩ | ⟨a',len,cap,m,n',V,D,Pl,hcs,_,hl,hm,hmm,_,hc⟩
 ·simp [Value.cells] at hcs
  obtain ⟨rfl,rfl,rfl⟩:=hcs
  exact ⟨none,0,0,[],rfl,rfl,Truths.nil _⟩
 ·simp [Value.cells] at hcs
  obtain ⟨rfl,rfl,rfl⟩:=hcs
  have hlm:n≤m:=by rw [hmm];split <;> omega
  obtain ⟨l,hln,hlp⟩:=list_of (P:=fun i (t:Bool)=>w.cell? (a'.add i)=some (.bool t)) n (fun i hi=>by
   obtain ⟨h0,h1⟩:=hc i (by omega)
   obtain ⟨b,e,_⟩:=DataW.trod_bool Try.underlying4 h1
   obtain e':V i = .bool b:=by simpa using e
   exact ⟨b,by rw [h0,e']⟩)
  refine ⟨some a',n,c,l,rfl,hln,by omega,by unfold maxLen at hm;exact hm,fun hn=>?_⟩
  obtain ⟨b,off,sp'⟩:=a'
  have hc0:=hlp 0 (by omega)
  have hsp:sp'=none:=by simpa [Addr.add] using World.cell?_spot hc0
  subst hsp
  have hadd:∀ j,(⟨b,off,none⟩:Addr).add j=⟨b,off+j,none⟩:=fun j=>by unfold Addr.add;split <;> simp_all
  refine ⟨b,off,rfl,?_,fun j hj=>?_⟩
  ·have:=World.block_lt_of_cell? w _ hc0
   rw [hadd] at this
   exact this
  ·have:=hlp j (by omega)
   rw [hadd] at this
   exact this
end Go.Proofs.Ytkmbgbbmhpidkaa
namespace Go.Proofs.Ytkmbgbbmhpidkaa
open Go.RowKit Go.ChangeShapes Go.WideShapes
set_option linter.unusedVariables false

theorem cells_actJ:Try.prog.cellsOf 32 = 4:=by kernel_rfl
theorem cells_crashJ:Try.prog.cellsOf 30 = 2:=by kernel_rfl
theorem cells_wrJ:Try.prog.cellsOf 42 = 2:=by kernel_rfl
theorem cells_intJ:Try.prog.cellsOf 3 = 1:=by kernel_rfl
theorem cells_bytesJ:Try.prog.cellsOf 40 = 1:=by kernel_rfl
theorem cells_boolsJ:Try.prog.cellsOf 28 = 1:=by kernel_rfl
theorem cells_wrsJ:Try.prog.cellsOf 27 = 1:=by kernel_rfl
theorem slice_formJ {H:Type} {enc:TypeId×Value→H} {P:Program} {w:World} {base:Nat} {sp:Nat→Bool} {held:Bool} {fuel:Nat} {t e:TypeId} {v:Value} {x:DataW H×List MemPlace} (ht:P.underlying t=some (.slice e)) (h:DataW.trod enc P w base sp held fuel t [v]=some x):∃ a n c,v = .slice a n c:=by
 rcases Deep.open_slice ht h with ⟨hcs,_⟩ | ⟨a,len,cap,m,n,D,Pl,hcs,_⟩
 ·exact ⟨none,0,0,by simpa using hcs⟩
 ·exact ⟨some a,len,cap,by simpa using hcs⟩
theorem write_open {H:Type} {enc:TypeId×Value→H} {w:World} {base:Nat} {held:Bool} {n:Nat} {v0 v1:Value} {x:DataW H×List MemPlace} (h:DataW.trod enc Try.prog w base (fun _=>true) held n 42 [v0,v1]=some x) :
  ∃ a:Wr,v0 = .int .i64 a.at_∧v1 = .slice a.da a.d.length a.dc∧Rd .u8 w w.heap.size a.da a.dc a.d∧Oct1 a.d:=by
 obtain ⟨z0,z1,k',_,_,g0,g1⟩:=trod_struct2 Try.underlying42 h
 simp [cells_intJ,cells_bytesJ] at g0 g1
 obtain ⟨i0,e0,_,_⟩:=DataW.trod_int Try.underlying3 g0
 obtain ⟨a2,n2,c2,rfl⟩:=slice_formJ Try.underlying40 g1
 obtain ⟨A2,n2',c2',l2,e2,hl2,hr2,ho2⟩:=rd1_open (v:=.slice a2 n2 c2) g1 ⟨_,_,_,rfl⟩
 injection e2 with e2a e2b e2c
 subst e2a e2b e2c
 exact ⟨⟨i0,a2,c2,l2⟩,by simpa using e0,by rw [←hl2],hr2,ho2⟩
theorem writes_open {H:Type} {enc:TypeId×Value→H} {w:World} {base:Nat} {held:Bool} {fuel:Nat} {v:Value} {x:DataW H×List MemPlace} (h:DataW.trod enc Try.prog w base (fun _=>true) held fuel 27 v.cells.toList=some x) (hv:∃ a n c,v = .slice a n c) :
  ∃ (A:Option Addr) (n c:Nat) (l:List Wr),v = .slice A n c∧l.length=n∧RdWr A c l w∧∀ x∈l,Oct1 x.d:=by
 obtain ⟨a,n,c,rfl⟩:=hv
 rcases Deep.open_slice Try.underlying27 h with ⟨hcs,_⟩ | ⟨a',len,cap,m,n',D,Pl,hcs,_,hl,hm,hmm,_,hc⟩
 ·simp [Value.cells] at hcs
  obtain ⟨rfl,rfl,rfl⟩:=hcs
  exact ⟨none,0,0,[],rfl,rfl,⟨by simp,by omega,fun j hj=>by simp at hj,fun hn=>by simp at hn⟩,fun x hx=>by cases hx⟩
 ·simp [Value.cells] at hcs
  obtain ⟨rfl,rfl,rfl⟩:=hcs
  have hlm:n≤m:=by rw [hmm];split <;> omega
  obtain ⟨l,hln,hlp⟩:=list_of (P:=fun i (t:Wr)=>(w.cell? (a'.add (i*2))=some (.int .i64 t.at_)∧w.cell? (a'.add (i*2+1))=some (.slice t.da t.d.length t.dc))∧Rd .u8 w w.heap.size t.da t.dc t.d∧Oct1 t.d) n (fun i hi=>by
   obtain ⟨cs',h1,h2⟩:=hc i (by omega)
   rw [cells_wrJ] at h1
   obtain ⟨_,hlen,hcell⟩:=World.cells?_some h1
   match cs',hlen with
   | [v0,v1],_ =>
    obtain ⟨t,e0,e1,r1,r2⟩:=write_open h2
    have k0:=hcell 0 (by omega)
    have k1:=hcell 1 (by omega)
    rw [Deep.add_add] at k0 k1
    exact ⟨t,⟨by rw [←e0];simpa using k0,by rw [←e1];simpa using k1⟩,r1,r2⟩)
  refine ⟨some a',n,c,l,rfl,hln,⟨by omega,by unfold maxLen at hm;exact hm,fun j hj=>(hlp j (by omega)).2.1,fun hn=>?_⟩,fun x hx=>?_⟩
  ·obtain ⟨b,off,sp'⟩:=a'
   have hc0:=(hlp 0 (by omega)).1.1
   have hsp:sp'=none:=by simpa [Addr.add] using World.cell?_spot hc0
   subst hsp
   have hadd:∀ j,(⟨b,off,none⟩:Addr).add j=⟨b,off+j,none⟩:=fun j=>by unfold Addr.add;split <;> simp_all
   refine ⟨b,off,rfl,?_,fun j hj=>?_⟩
   ·have:=World.block_lt_of_cell? w _ hc0
    rw [hadd] at this
    exact this
   ·obtain ⟨⟨k0,k1⟩,_⟩:=hlp j (by omega)
    rw [hadd] at k0 k1
    exact ⟨k0,by rw [show off+j*2+1=off+(j*2+1) by omega];exact k1⟩
  ·obtain ⟨i,hi,rfl⟩:=List.getElem_of_mem hx
   have:=(hlp i (by omega)).2.2
   rwa [show l.getD i default=l[i] by simp [List.getD,hi]] at this
theorem act_openJ {H:Type} {enc:TypeId×Value→H} {w:World} {base:Nat} {held:Bool} {n:Nat} {v0 v1 v2 v3:Value} {x:DataW H×List MemPlace} (h:DataW.trod enc Try.prog w base (fun _=>true) held n 32 [v0,v1,v2,v3]=some x) :
  ∃ a:Aj,v0 = .int .i64 a.kind∧v1 = .slice a.wa a.wl.length a.wc∧v2 = .int .i64 a.ca∧v3 = .slice a.ka a.kl.length a.kc∧RdWr a.wa a.wc a.wl w∧(∀ x∈a.wl,Oct1 x.d)∧Truths w a.ka a.kc a.kl:=by
 obtain ⟨xs,k,_,_,_,hlen,hf⟩:=DataW.trod_struct Try.underlying32 h
 obtain ⟨y0,y1,y2,rfl⟩:∃ y0 y1 y2,xs=[y0,y1,y2]:=by
  match xs,hlen with
  | [y0,y1,y2],_=>exact ⟨y0,y1,y2,rfl⟩
 have g0:=hf 0 _ rfl
 have g1:=hf 1 _ rfl
 have g2:=hf 2 _ rfl
 simp [cells_intJ,cells_wrsJ,cells_crashJ] at g0 g1 g2
 obtain ⟨z0,z1,k',_,_,g4,g5⟩:=trod_struct2 Try.underlying30 g2
 simp [cells_intJ,cells_boolsJ] at g4 g5
 obtain ⟨i0,e0,_,_⟩:=DataW.trod_int Try.underlying3 g0
 obtain ⟨i3,e3,_,_⟩:=DataW.trod_int Try.underlying3 g4
 obtain ⟨a2,n2,c2,rfl⟩:=slice_formJ Try.underlying27 g1
 obtain ⟨a4,n4,c4,rfl⟩:=slice_formJ Try.underlying28 g5
 obtain ⟨A2,n2',c2',l2,e2,hl2,hr2,ho2⟩:=writes_open (v:=.slice a2 n2 c2) g1 ⟨_,_,_,rfl⟩
 obtain ⟨A4,n4',c4',l4,e4,hl4,hr4⟩:=truths_open (v:=.slice a4 n4 c4) g5 ⟨_,_,_,rfl⟩
 injection e2 with e2a e2b e2c
 injection e4 with e4a e4b e4c
 subst e2a e2b e2c e4a e4b e4c
 exact ⟨⟨i0,a2,c2,l2,i3,a4,c4,l4⟩,by simpa using e0,by rw [←hl2],by simpa using e3,by rw [←hl4],hr2,ho2,hr4⟩
theorem ajs_open {H:Type} {enc:TypeId×Value→H} {w:World} {base:Nat} {held:Bool} {fuel:Nat} {v:Value} {x:DataW H×List MemPlace} (h:DataW.trod enc Try.prog w base (fun _=>true) held fuel 22 v.cells.toList=some x) (hv:∃ a n c,v = .slice a n c) :
  ∃ (A:Option Addr) (n c:Nat) (l:List Aj),v = .slice A n c∧l.length=n∧RdAj w A c l:=by
 obtain ⟨a,n,c,rfl⟩:=hv
 rcases Deep.open_slice Try.underlying22 h with ⟨hcs,_⟩ | ⟨a',len,cap,m,n',D,Pl,hcs,_,hl,hm,hmm,_,hc⟩
 ·simp [Value.cells] at hcs
  obtain ⟨rfl,rfl,rfl⟩:=hcs
  exact ⟨none,0,0,[],rfl,rfl,⟨by simp,by omega,fun j hj=>by simp at hj,fun hn=>by simp at hn⟩⟩
 ·simp [Value.cells] at hcs
  obtain ⟨rfl,rfl,rfl⟩:=hcs
  have hlm:n≤m:=by rw [hmm];split <;> omega
  obtain ⟨l,hln,hlp⟩:=list_of (P:=fun i (t:Aj)=>(w.cell? (a'.add (i*4))=some (.int .i64 t.kind)∧w.cell? (a'.add (i*4+1))=some (.slice t.wa t.wl.length t.wc)∧w.cell? (a'.add (i*4+2))=some (.int .i64 t.ca)∧w.cell? (a'.add (i*4+3))=some (.slice t.ka t.kl.length t.kc))∧RdWr t.wa t.wc t.wl w∧(∀ x∈t.wl,Oct1 x.d)∧Truths w t.ka t.kc t.kl) n (fun i hi=>by
   obtain ⟨cs',h1,h2⟩:=hc i (by omega)
   rw [cells_actJ] at h1
   obtain ⟨_,hlen,hcell⟩:=World.cells?_some h1
   match cs',hlen with
   | [v0,v1,v2,v3],_ =>
    obtain ⟨t,e0,e1,e2,e3,r1,r2,r3⟩:=act_openJ h2
    have k0:=hcell 0 (by omega)
    have k1:=hcell 1 (by omega)
    have k2:=hcell 2 (by omega)
    have k3:=hcell 3 (by omega)
    rw [Deep.add_add] at k0 k1 k2 k3
    exact ⟨t,⟨by rw [←e0];simpa using k0,by rw [←e1];simpa using k1,by rw [←e2];simpa using k2,by rw [←e3];simpa using k3⟩,r1,r2,r3⟩)
  refine ⟨some a',n,c,l,rfl,hln,by omega,by unfold maxLen at hm;exact hm,fun j hj=>(hlp j (by omega)).2,fun hn=>?_⟩
  obtain ⟨b,off,sp'⟩:=a'
  have hc0:=(hlp 0 (by omega)).1.1
  have hsp:sp'=none:=by simpa [Addr.add] using World.cell?_spot hc0
  subst hsp
  have hadd:∀ j,(⟨b,off,none⟩:Addr).add j=⟨b,off+j,none⟩:=fun j=>by unfold Addr.add;split <;> simp_all
  refine ⟨b,off,rfl,?_,fun j hj=>?_⟩
  ·have:=World.block_lt_of_cell? w _ hc0
   rw [hadd] at this
   exact this
  ·obtain ⟨⟨k0,k1,k2,k3⟩,_⟩:=hlp j (by omega)
   rw [hadd] at k0 k1 k2 k3
   exact ⟨k0,by rw [show off+j*4+1=off+(j*4+1) by omega];exact k1,by rw [show off+j*4+2=off+(j*4+2) by omega];exact k2,by rw [show off+j*4+3=off+(j*4+3) by omega];exact k3⟩
end Go.Proofs.Ytkmbgbbmhpidkaa
