/- Words and laws for the statement, part 1. -/
import Derived.Below
import Derived.Laws.OwnMore
import Derived.Deep.Draws
import Derived.Laws.Rows
import Derived.Lib.Hide
import Derived.WalkKit
import Derived.Maps.AppendAt
import Derived.Deep.AppendLies
import Derived.Test.YtnedpkhehiijhaaGreatChecked
import Derived.WalkSpells
import Derived.WalkLawsBesides
import Derived.Outline
import Derived.BigQuiet
import Derived.Deep.QuietTactic
import Derived.IntWalk
import Derived.Deep.MidRow
import Derived.Laws.MakeOwn
import Derived.Laws.IdiomCopy
import Derived.Deep.WholeRow
import Derived.Deep.RegionHeld3
import Derived.BigRegion
import Derived.Deep.RegionLaw
namespace Go.Proofs.YtnedpkhehiijhaaGreat
open Go.RowKit

/-- Block g is just these cells of element type t; none is frozen. -/
def Holds (w:World) (g:Nat) (t:TypeId) (cs:Array Value):Prop:=w.heap[g]?=some (.cells cs t (0,0))

section
variable {w w':World} {g:Nat} {t:TypeId} {cs:Array Value}
theorem Holds.lt (h:Holds w g t cs):g<w.heap.size:=(Array.getElem?_eq_some_iff.1 h).1
theorem Holds.cell (h:Holds w g t cs):∀ i,w.cell? ⟨g,i,none⟩=cs[i]?:=fun i=>cell_of_row w g i cs t (0,0) h
theorem Holds.open_ (h:Holds w g t cs):∀ i,w.frozen? ⟨g,i,none⟩=false:=fun i=>by
 have h':w.heap[g]?=some (.cells cs t (0,0)):=h
 simp [World.frozen?,h']
theorem Holds.fresh (w:World) (t:TypeId) (cs:Array Value):Holds (w.alloc (.cells cs t)) w.heap.size t cs:=heap_alloc_new w _
theorem Holds.drew (h:Holds w g t cs):Holds w.drew g t cs:=h
theorem Holds.drewN (h:Holds w g t cs) (n:Nat):Holds (w.drewN n) g t cs:=h
theorem Holds.alloc (h:Holds w g t cs) (o:Obj):Holds (w.alloc o) g t cs:=(Below.heap_alloc w o g h.lt).trans h
theorem Holds.stored (h:Holds w g t cs) (i:Nat) (u:Value):Holds (w.setCell ⟨g,i,none⟩ u) g t (cs.setIfInBounds i u):=by
 have h':w.heap[g]?=some (.cells cs t (0,0)):=h
 show (w.setCell ⟨g,i,none⟩ u).heap[g]?=_
 simp [World.setCell,Array.getElem?_modify,h']
theorem Holds.aside (h:Holds w g t cs) {p:Addr} (hp:g≠p.block) (u:Value):Holds (w.setCell p u) g t cs:=(Below.heap_setCell w p u g hp).trans h
theorem Holds.under {B:Nat} (h:Holds w g t cs) (hb:Below B w w') (hg:g<B):Holds w' g t cs:=(hb.block g hg).trans h
theorem Holds.grown {row:Option Nat} (h:Holds w g t cs) (hb:w.grownBy w' row) (hg:some g≠row):Holds w' g t cs:=(hb.block g h.lt hg).trans h
end

/-- What was there ahead of a call that only makes memory reads the same behind it. -/
theorem kept {W w1:World} (hb:Below W.heap.size W w1):(∀ b o,b<W.heap.size→w1.cell? ⟨b,o,none⟩=W.cell? ⟨b,o,none⟩)∧(∀ b o,b<W.heap.size→w1.frozen? ⟨b,o,none⟩=W.frozen? ⟨b,o,none⟩) :=
 ⟨fun b o h=>hb.cell (p:=⟨b,o,none⟩) h,fun b o h=>hb.frozen (p:=⟨b,o,none⟩) h⟩

/-- Only block g, and what is new, has turned. -/
theorem one_setCell {a w:World} {g:Nat} (h:a.grownBy w (some g)) (i:Nat) (u:Value):a.grownBy (w.setCell ⟨g,i,none⟩ u) (some g) :=
 ⟨h.os,h.tape,h.output,by simpa [World.setCell] using h.size,fun k hk hne=>(Below.heap_setCell w _ u k (fun e=>hne (by rw [e]))).trans (h.block k hk hne)⟩
theorem one_below {a w:World} {g B:Nat} (h:a.grownBy w (some g)) (hB:B≤g) (hs:B≤a.heap.size):Below B a w :=
 ⟨h.os,h.tape,h.output,h.size,fun k hk=>h.block k (by omega) (fun e=>by injection e;omega)⟩
end Go.Proofs.YtnedpkhehiijhaaGreat
namespace Go.Proofs.YtnedpkhehiijhaaGreat
set_option linter.unusedVariables false

/-- How many digits are left of the first n when the noughts at the end go. -/
def tlen (l:List Nat):Nat→Nat
 | 0=>0
 | n+1=>if l.getD n 0=0 then tlen l n else n+1

/-- The digits without the noughts at the end. -/
def trl (l:List Nat):List Nat:=l.take (tlen l l.length)
/-- Whether digits are a number: not too many, the last one not nought. -/
def okN (l:List Nat):Bool:=decide (l.length≤256) && (decide (l.length=0) || !(l.getD (l.length - 1) 0 == 0))

/-- The first n digits of two, compared from the highest one on. -/
def cmpTop (a b:List Nat):Nat→Int
 | 0=>0
 | n+1=>if a.getD n 0=b.getD n 0 then cmpTop a b n else if a.getD n 0<b.getD n 0 then -1 else 1
/-- Two lists of digits compared: by how many there are, then from the highest one on. -/
def cmpL (a b:List Nat):Int:=if a.length<b.length then -1 else if b.length<a.length then 1 else cmpTop a b a.length

/-- What k digits can hold. -/
def pw (k:Nat):Nat:=4294967296 ^ k
/-- The number that digits are, the lowest one first. -/
def val:List Nat→Nat
 | []=>0
 | x :: l=>x+4294967296*val l
/-- Each is a digit. -/
def Dg (l:List Nat):Prop:=∀ x∈l,x<4294967296
theorem Dg.at_ {l:List Nat} (h:Dg l) (i:Nat):l.getD i 0<4294967296:=by
 rw [List.getD]
 cases hq:l[i]? with
 | none=>simp
 | some x=>simpa using h x (List.mem_of_getElem? hq)
theorem Dg.take {l:List Nat} (h:Dg l) (n:Nat):Dg (l.take n):=fun x hx=>h x (List.mem_of_mem_take hx)
theorem Dg.set {l:List Nat} (h:Dg l) (i x:Nat) (hx:x<4294967296):Dg (l.set i x):=fun y hy=>by
 rcases List.mem_or_eq_of_mem_set hy with hm | rfl
 ·exact h y hm
 ·exact hx
theorem Dg.noughts (n:Nat):Dg (List.replicate n 0):=fun x hx=>by rw [(List.mem_replicate.1 hx).2];omega

/-- No nought leads. -/
def nrm (l:List Nat):Prop:=l.length=0∨l.getD (l.length - 1) 0≠0
/-- r are the digits of n, and no nought leads. -/
def NumIs (r:List Nat) (n:Nat):Prop:=Dg r∧nrm r∧val r=n
/-! Bytes as digits: r is the bytes, the lowest first. -/
/-- The part of digit j that the bytes from place k on give. -/
def part (r:List Nat) (k j:Nat):Nat :=
 (if k≤4*j then r.getD (4*j) 0 else 0)+256*(if k≤4*j+1 then r.getD (4*j+1) 0 else 0)+65536*(if k≤4*j+2 then r.getD (4*j+2) 0 else 0)+16777216*(if k≤4*j+3 then r.getD (4*j+3) 0 else 0)
/-- All bytes are bytes. -/
def Oct (r:List Nat):Prop:=∀ i,r.getD i 0<256
theorem oct_of {l:List Nat} (h:∀ x∈l,x<256):Oct l:=fun i=>by
 rw [List.getD]
 cases hq:l[i]? with
 | none=>simp
 | some x=>simpa using h x (List.mem_of_getElem? hq)
/-- The byte at place k, the lowest first, of digits. -/
def byteAt (l:List Nat) (k:Nat):Nat:=l.getD (k / 4) 0 / 2 ^ (8*(k % 4)) % 256
/-- Digits as n bytes, the highest first. -/
def bytesOf (l:List Nat) (n:Nat):List Nat:=(List.range n).map fun i=>byteAt l (n - 1 - i)
/-- The n digits from place o on. -/
def seg (l:List Nat) (o n:Nat):List Nat:=(l.drop o).take n
/-! Division. -/
end Go.Proofs.YtnedpkhehiijhaaGreat
namespace Go.Proofs.YtnedpkhehiijhaaGreat
open Go.RowKit

/-- The slice '.slice A l.length c' reads as the numbers l of kind k; its cells lie below block B. -/
def Rd (k:IntKind) (w:World) (B:Nat) (A:Option Addr) (c:Nat) (l:List Nat):Prop :=
 l.length≤c∧c≤9223372036854775807∧(0<l.length→∃ b off,A=some ⟨b,off,none⟩∧b<B∧∀ j,j<l.length→w.cell? ⟨b,off+j,none⟩=some (.int k ((l.getD j 0:Nat):Int)))

section
variable {k:IntKind} {w w':World} {B B':Nat} {A:Option Addr} {c:Nat} {l:List Nat}
theorem Rd.at_ (h:Rd k w B A c l) {i:Nat} (hi:i<l.length):∃ b off x,A=some ⟨b,off,none⟩∧b<B∧w.cell? ⟨b,off+i,none⟩=some (.int k ((x:Nat):Int))∧Hid (x=l.getD i 0):=by
 obtain ⟨b,off,e,hb,hc⟩:=h.2.2 (by omega)
 exact ⟨b,off,_,e,hb,hc i hi,rfl⟩
theorem Rd.nil_ (k:IntKind) (w:World) (B:Nat):Rd k w B none 0 []:=⟨by simp,by omega,fun h=>by simp at h⟩
theorem Rd.keep (h:Rd k w B A c l) (hk:∀ b o,b<B→w'.cell? ⟨b,o,none⟩=w.cell? ⟨b,o,none⟩):Rd k w' B A c l :=
 ⟨h.1,h.2.1,fun hn=>by
  obtain ⟨b,off,e,hb,hc⟩:=h.2.2 hn
  exact ⟨b,off,e,hb,fun j hj=>(hk _ _ hb).trans (hc j hj)⟩⟩
theorem Rd.more (h:Rd k w B A c l) (hB:B≤B'):Rd k w B' A c l :=
 ⟨h.1,h.2.1,fun hn=>by
  obtain ⟨b,off,e,hb,hc⟩:=h.2.2 hn
  exact ⟨b,off,e,by omega,hc⟩⟩
theorem Rd.under (h:Rd k w B A c l) (hb:Below B w w'):Rd k w' B A c l:=h.keep fun b o hlt=>hb.cell (p:=⟨b,o,none⟩) hlt
theorem Rd.alloc (h:Rd k w B A c l) (hB:B≤w.heap.size) (o:Obj):Rd k (w.alloc o) B A c l:=h.keep fun b o' hb=>World.cell?_alloc_past _ b o' (by omega)
theorem Rd.drewN (h:Rd k w B A c l) (n:Nat):Rd k (w.drewN n) B A c l:=h
theorem Rd.cut (h:Rd k w B A c l) (n:Nat):Rd k w B A c (l.take n):=by
 refine ⟨by have:=h.1;simp;omega,h.2.1,fun hn=>?_⟩
 have hl:0<l.length:=by simp at hn;omega
 obtain ⟨b,off,e,hb,hc⟩:=h.2.2 hl
 refine ⟨b,off,e,hb,fun j hj=>?_⟩
 have hj':j<n∧j<l.length:=by simp at hj;omega
 rw [hc j hj'.2]
 simp [List.getD,hj'.1]
end

/-- Numbers as cells. -/
def nums (k:IntKind) (l:List Nat):Array Value:=(l.map fun x:Nat=>Value.int k (x:Int)).toArray
theorem nums_size (k:IntKind) (l:List Nat):(nums k l).size=l.length:=by simp [nums]
theorem nums_at (k:IntKind) (l:List Nat) {i:Nat} (h:i<l.length):(nums k l)[i]?=some (.int k ((l.getD i 0:Nat):Int)):=by
 simp [nums,List.getD,h]
theorem nums_set (k:IntKind) (l:List Nat) (i x:Nat):(nums k l).setIfInBounds i (.int k (x:Int))=nums k (l.set i x):=by
 simp [nums,List.map_set]
theorem nums_noughts (k:IntKind) (n:Nat):nums k (List.replicate n 0)=madeCells #[.int k 0] n:=by
 apply Array.ext'
 simp only [nums,madeCells,List.map_replicate]
 apply List.ext_getElem <;> simp [Nat.mod_one]

/-- Block g is the numbers l. -/
def Row (k:IntKind) (T:TypeId) (w:World) (g:Nat) (l:List Nat):Prop:=Holds w g T (nums k l)
section
variable {k:IntKind} {T:TypeId} {w w':World} {g:Nat} {l:List Nat}
theorem Row.cell (h:Row k T w g l) {i:Nat} (hi:i<l.length):w.cell? ⟨g,i,none⟩=some (.int k ((l.getD i 0:Nat):Int)):=(Holds.cell h i).trans (nums_at k l hi)
theorem Row.open_ (h:Row k T w g l):∀ i,w.frozen? ⟨g,i,none⟩=false:=Holds.open_ h
theorem Row.set (h:Row k T w g l) (i x:Nat):Row k T (w.setCell ⟨g,i,none⟩ (.int k (x:Int))) g (l.set i x):=by
 have:=Holds.stored h i (.int k (x:Int))
 rw [nums_set] at this
 exact this
theorem Row.rd (h:Row k T w g l) {n c:Nat} (hn:n≤l.length) (hc:n≤c) (h63:c≤9223372036854775807):Rd k w (g+1) (some ⟨g,0,none⟩) c (l.take n):=by
 refine ⟨by simp;omega,h63,fun _=>⟨g,0,rfl,by omega,fun j hj=>?_⟩⟩
 have hj':j<n:=by simp at hj;omega
 rw [Nat.zero_add,h.cell (by omega)]
 simp [List.getD,hj']
end
end Go.Proofs.YtnedpkhehiijhaaGreat
namespace Go.Proofs.YtnedpkhehiijhaaGreat
open Go.RowKit

def vals (k:IntKind) (l:List Nat):List Value:=l.map fun x:Nat=>Value.int k (x:Int)
theorem vals_length (k:IntKind) (l:List Nat):(vals k l).length=l.length:=by simp [vals]
theorem vals_append (k:IntKind) (l m:List Nat):vals k l ++ vals k m=vals k (l ++ m):=by simp [vals]
theorem vals_one (k:IntKind) (l:List Nat):∀ u∈vals k l,u.oneCell'=true:=by
 intro u hu
 obtain ⟨x,_,rfl⟩:=List.mem_map.1 hu
 rfl
theorem vals_at (k:IntKind) (l:List Nat) {i:Nat} (h:i<l.length):(vals k l)[i]?=some (.int k ((l.getD i 0:Nat):Int)):=by
 simp [vals,List.getD,h]

/-- The slice '.slice A l.length c' is the call's own from block B on: it holds the numbers l. -/
def Own (k:IntKind) (e:TypeId) (w:World) (B:Nat) (A:Option Addr) (c:Nat) (l:List Nat):Prop :=
 w.ownsRow B e 1 (.slice A l.length c) l.length (vals k l)

/-- Its block. -/
def blockOf (A:Option Addr):Option Nat:=A.map (·.block)
theorem ownBlock_eq (A:Option Addr) (n c:Nat):Value.ownBlock (.slice A n c)=blockOf A:=by cases A <;> rfl

section
variable {k:IntKind} {e:TypeId} {w w':World} {B:Nat} {A:Option Addr} {c:Nat} {l:List Nat}
theorem Own.nil (k:IntKind) (e:TypeId) (w:World) (B:Nat):Own k e w B none 0 []:=World.ownsRow_nil w B e 1
theorem Own.kept {row:Option Nat} (h:Own k e w B A c l) (hg:w.grownBy w' row) (hne:blockOf A=none∨blockOf A≠row):Own k e w' B A c l :=
 World.ownsRow.kept h hg (by rwa [ownBlock_eq])
theorem Own.alloc (h:Own k e w B A c l) (o:Obj):Own k e (w.alloc o) B A c l:=World.ownsRow.alloc h o
theorem Own.drewN (h:Own k e w B A c l) (n:Nat):Own k e (w.drewN n) B A c l:=h
theorem Own.block (h:Own k e w B A c l) {g:Nat} (hg:blockOf A=some g):B≤g∧g<w.heap.size:=World.ownsRow.lt h g (by rwa [ownBlock_eq])
theorem Own.under {B':Nat} (h:Own k e w B A c l) (hb:Below B' w w') (hlt:∀ g,blockOf A=some g→g<B'):Own k e w' B A c l:=by
 refine ⟨h.1,?_⟩
 rcases h.2 with hn | ⟨g,cap,cur,hv,hBg,hgg,rest⟩
 ·exact .inl hn
 ·refine .inr ⟨g,cap,cur,hv,hBg,?_,rest⟩
  injection hv with hA _ _
  rw [hb.block g (hlt g (by rw [hA];rfl))]
  exact hgg
theorem Own.under_all (h:Own k e w B A c l) (hb:Below w.heap.size w w'):Own k e w' B A c l:=h.under hb fun _ hg=>(h.block hg).2
theorem Own.aside (h:Own k e w B A c l) {p:Addr} (hp:blockOf A≠some p.block) (u:Value):Own k e (w.setCell p u) B A c l:=by
 refine ⟨h.1,?_⟩
 rcases h.2 with hn | ⟨g,cap,cur,hv,hBg,hgg,rest⟩
 ·exact .inl hn
 ·refine .inr ⟨g,cap,cur,hv,hBg,?_,rest⟩
  injection hv with hA _ _
  exact (Below.heap_setCell w p u g (fun e=>hp (by rw [hA,←e];rfl))).trans hgg
theorem Own.rd (h:Own k e w B A c l):Rd k w w.heap.size A c l:=by
 rcases h.2 with ⟨hv,hn⟩ | ⟨g,cap,cur,hv,hBg,hgg,hle,hm,hs,ht⟩
 ·injection hv with hA _ hc
  subst hA;subst hc
  refine ⟨by omega,by omega,fun h0=>by omega⟩
 ·injection hv with hA _ hc
  subst hA;subst hc
  refine ⟨hle,hm,fun h0=>⟨g,0,rfl,(Array.getElem?_eq_some_iff.1 hgg).1,fun j hj=>?_⟩⟩
  rw [Nat.zero_add,cell_of_row w g j cur e (0,0) hgg]
  have h1:=vals_at k l hj
  rw [←ht,Nat.mul_one,List.getElem?_take_of_lt hj,Array.getElem?_toList] at h1
  exact h1
/-- It lies in no block that is known whole and of another element type. -/
theorem Own.apart (h:Own k e w B A c l) {g:Nat} {t:TypeId} {cs:Array Value} (hg:Holds w g t cs) (hne:e≠t):blockOf A≠some g:=by
 rcases h.2 with ⟨hv,_⟩ | ⟨g',cap,cur,hv,hBg,hgg,_⟩
 ·injection hv with hA _ _
  subst hA;simp [blockOf]
 ·injection hv with hA _ _
  subst hA
  intro he
  have:g'=g:=by simpa [blockOf] using he
  subst this
  have hg':w.heap[g']?=some (.cells cs t (0,0)):=hg
  rw [hgg] at hg'
  injection hg' with h1
  injection h1 with _ h2 _
  exact hne h2
end

section
variable {P:Program} (w:World) {ops:Array Oper} {rest:List Oper} {o:Oper} {a:Act} {Q:Exit→Act→World→Prop}
/-- append of a literal row's numbers. -/
theorem wpList_push (hgd:o.guard=none) (s x:Operand) (t:TypeId) (ho:o.op = .call { callee:=.builtin .append,args:=#[s,x],argTypes:=#[t,t] })
  (k:IntKind) (B:Nat) (e:TypeId) (bytes:Nat) (ht:P.underlying t=some (.slice e)) (hi:(P.info? e).map (fun i=>(i.zero,i.size,i.bytes))=some (some (.int k 0),1,bytes))
  (A:Option Addr) (n c:Nat) (l:List Nat) (hs:a.eval s = .slice A n c) (hn:l.length=n) (hown:Own k e w B A c l)
  (g m c2:Nat) (news:List Nat) (hx:a.eval x = .slice (some ⟨g,0,none⟩) m c2) (hm:news.length=m) (hg:Holds w g e (nums k news)) (hm0:0<m) (hsz:n+m≤100000000) (hby:bytes≤8) (hB:B≤w.heap.size)
  (hK:∀ g' c' w',Own k e w' B (some ⟨g',0,none⟩) c' (l ++ news)→w.grownBy w' (blockOf A)→(blockOf A=some g'∨g'=w.heap.size)→wpList P ops Q rest (a.put o.dst (.slice (some ⟨g',0,none⟩) (n+m) c')) w') :
  wpList P ops Q (o :: rest) a w:=by
 subst hn;subst hm
 obtain ⟨i,hi',hz,hsize,hbytes⟩:=info_parts hi
 refine wpList_append_lies w hgd s x t ho B e i (.int k 0) 1 bytes ht hi' hz hsize hbytes rfl (by omega) (.slice A l.length c) l.length (vals k l) hs hown ⟨g,0,none⟩ news.length c2 (vals k news) hx (by rw [vals_length];omega)
  (fun j u hu=>World.news_of_block (cs:=nums k news) hg j u (by simpa [nums,vals] using hu)) (vals_one k news) hm0 (by unfold maxLen;omega)
  (Nat.le_trans (Nat.mul_le_mul hsz hby) (by omega)) hB w.heap.size rfl ?_
 intro g' cap w' hown' hgr hat hlt
 rw [ownBlock_eq] at hgr hat
 refine hK g' cap w' ?_ hgr hat
 unfold Own
 rw [List.length_append,←vals_append]
 exact hown'
/-- The same at a step of a region that draws its order. -/
theorem step_push {K:Act→World→Prop} {E:Prop} (hgd:o.guard=none) (s x:Operand) (t:TypeId) (ho:o.op = .call { callee:=.builtin .append,args:=#[s,x],argTypes:=#[t,t] })
  (k:IntKind) (B:Nat) (e:TypeId) (bytes:Nat) (ht:P.underlying t=some (.slice e)) (hi:(P.info? e).map (fun i=>(i.zero,i.size,i.bytes))=some (some (.int k 0),1,bytes))
  (A:Option Addr) (n c:Nat) (l:List Nat) (hs:a.eval s = .slice A n c) (hn:l.length=n) (hown:Own k e w B A c l)
  (g m c2:Nat) (news:List Nat) (hx:a.eval x = .slice (some ⟨g,0,none⟩) m c2) (hm:news.length=m) (hg:Holds w g e (nums k news)) (hm0:0<m) (hsz:n+m≤100000000) (hby:bytes≤8) (hB:B≤w.heap.size)
  (hK:∀ g' c' w',Own k e w' B (some ⟨g',0,none⟩) c' (l ++ news)→w.grownBy w' (blockOf A)→(blockOf A=some g'∨g'=w.heap.size)→K (a.put o.dst (.slice (some ⟨g',0,none⟩) (n+m) c')) w') :
  if Region.wanted o (yielded ops a.tmps)=true then Oper.wp P o a w K Q else E:=by
 subst hn;subst hm
 obtain ⟨i,hi',hz,hsize,hbytes⟩:=info_parts hi
 refine step_append_lies w hgd s x t ho B e i (.int k 0) 1 bytes ht hi' hz hsize hbytes rfl (by omega) (.slice A l.length c) l.length (vals k l) hs hown ⟨g,0,none⟩ news.length c2 (vals k news) hx (by rw [vals_length];omega)
  (fun j u hu=>World.news_of_block (cs:=nums k news) hg j u (by simpa [nums,vals] using hu)) (vals_one k news) hm0 (by unfold maxLen;omega)
  (Nat.le_trans (Nat.mul_le_mul hsz hby) (by omega)) hB w.heap.size rfl ?_
 intro g' cap w' hown' hgr hat hlt
 rw [ownBlock_eq] at hgr hat
 refine hK g' cap w' ?_ hgr hat
 unfold Own
 rw [List.length_append,←vals_append]
 exact hown'
end
end Go.Proofs.YtnedpkhehiijhaaGreat
namespace Go.Proofs.YtnedpkhehiijhaaGreat
open Go.RowKit
set_option linter.unusedVariables false

/-! Rows of rows. -/
theorem flat_length {α β:Type} {f:α→List β} {m:Nat}:∀ {L:List α},(∀ x∈L,(f x).length=m)→(L.flatMap f).length=m*L.length
 | [],_=>rfl
 | x :: L,h=>by
  rw [List.flatMap_cons,List.length_append,h x (by simp),flat_length (L:=L) (fun y hy=>h y (by simp [hy])),List.length_cons,Nat.mul_add,Nat.mul_one,Nat.add_comm]
theorem flat_at {α β:Type} {f:α→List β} {m:Nat}:∀ {L:List α},(∀ x∈L,(f x).length=m)→∀ {i j:Nat} {x:α},L[i]?=some x→j<m→(L.flatMap f)[m*i+j]?=(f x)[j]?
 | [],_,i,j,x,hx,_=>by simp at hx
 | y :: L,h,0,j,x,hx,hj=>by
  obtain rfl:y=x:=by simpa using hx
  rw [List.flatMap_cons,Nat.mul_zero,Nat.zero_add,List.getElem?_append_left (by rw [h y (by simp)];exact hj)]
 | y :: L,h,i+1,j,x,hx,hj=>by
  have hx':L[i]?=some x:=by simpa using hx
  rw [List.flatMap_cons,List.getElem?_append_right (by rw [h y (by simp),Nat.mul_add];omega),h y (by simp),show m*(i+1)+j - m=m*i+j by rw [Nat.mul_add];omega]
  exact flat_at (fun z hz=>h z (by simp [hz])) hx' hj

/-- Cells laid over a block from place o on. -/
theorem setCells_whole {g:Nat} {e:TypeId}:∀ (vs:List Value) (o:Nat) (w:World) (cur:Array Value),w.heap[g]?=some (.cells cur e (0,0))→o+vs.length≤cur.size →
  ∃ cur',(w.setCells g o vs).heap[g]?=some (.cells cur' e (0,0))∧cur'.size=cur.size∧(∀ j,j<o∨o+vs.length≤j→cur'[j]?=cur[j]?)∧∀ j,j<vs.length→cur'[o+j]?=vs[j]?
 | [],o,w,cur,h,_=>⟨cur,h,rfl,fun j _=>rfl,fun j hj=>by simp at hj⟩
 | v :: vs,o,w,cur,h,hs=>by
  simp only [List.length_cons] at hs
  have h1:(w.setCell ⟨g,o,none⟩ v).heap[g]?=some (.cells (cur.setIfInBounds o v) e (0,0)):=by
   simp [World.setCell,Array.getElem?_modify,h]
  obtain ⟨cur',a1,a2,a3,a4⟩:=setCells_whole vs (o+1) (w.setCell ⟨g,o,none⟩ v) (cur.setIfInBounds o v) h1 (by simp;omega)
  refine ⟨cur',a1,by rw [a2];simp,fun j hj=>?_,fun j hj=>?_⟩
  ·simp only [List.length_cons] at hj
   rw [a3 j (by omega),Array.getElem?_setIfInBounds,if_neg (by omega)]
  ·rcases j with _ | j
   ·rw [Nat.add_zero,a3 o (by omega),Array.getElem?_setIfInBounds,if_pos rfl,if_pos (by omega)]
    rfl
   ·have:=a4 j (by simp at hj;omega)
    rw [show o+(j+1)=o+1+j by omega,this]
    rfl
theorem setCells_aside {g k:Nat} (hk:k≠g):∀ (vs:List Value) (o:Nat) (w:World),(w.setCells g o vs).heap[k]?=w.heap[k]?
 | [],_,_=>rfl
 | v :: vs,o,w=>(setCells_aside hk vs (o+1) _).trans (Below.heap_setCell w ⟨g,o,none⟩ v k hk)
theorem setCells_size (g:Nat):∀ (vs:List Value) (o:Nat) (w:World),(w.setCells g o vs).heap.size=w.heap.size
 | [],_,_=>rfl
 | v :: vs,o,w=>(setCells_size g vs (o+1) _).trans (by simp [World.setCell])

/-- Only blocks of F, and new ones, have turned. -/
structure Only (F:Nat→Prop) (w w':World):Prop where
 os:w'.os=w.os
 tape:w'.tape=w.tape
 output:w'.output=w.output
 size:w.heap.size≤w'.heap.size
 block:∀ k,k<w.heap.size→¬ F k→w'.heap[k]?=w.heap[k]?
section
variable {F G:Nat→Prop} {w w' w2:World} {B:Nat}
theorem Only.refl (F:Nat→Prop) (w:World):Only F w w:=⟨rfl,rfl,rfl,Nat.le_refl _,fun _ _ _=>rfl⟩
theorem Only.trans (h:Only F w w') (h2:Only G w' w2) (hg:∀ k,k<w.heap.size→G k→F k):Only F w w2 :=
 ⟨h2.os.trans h.os,h2.tape.trans h.tape,h2.output.trans h.output,Nat.le_trans h.size h2.size,fun k hk hF=>(h2.block k (Nat.lt_of_lt_of_le hk h.size) (fun e=>hF (hg k hk e))).trans (h.block k hk hF)⟩
theorem Only.more (h:Only G w w') (hg:∀ k,k<w.heap.size→G k→F k):Only F w w':=⟨h.os,h.tape,h.output,h.size,fun k hk hF=>h.block k hk fun e=>hF (hg k hk e)⟩
theorem Only.drewN (h:Only F w w') (n:Nat):Only F w (w'.drewN n):=⟨h.os,h.tape,h.output,h.size,h.block⟩
theorem Only.drew (h:Only F w w'):Only F w w'.drew:=⟨h.os,h.tape,h.output,h.size,h.block⟩
theorem Only.alloc (h:Only F w w') (o:Obj):Only F w (w'.alloc o):=⟨h.os,h.tape,h.output,Nat.le_trans h.size (by simp),fun k hk hF=>(Below.heap_alloc w' o k (Nat.lt_of_lt_of_le hk h.size)).trans (h.block k hk hF)⟩
theorem Only.setCell (h:Only F w w') {p:Addr} (hp:F p.block∨w.heap.size≤p.block) (v:Value):Only F w (w'.setCell p v) :=
 ⟨h.os,h.tape,h.output,by simpa [World.setCell] using h.size,fun k hk hF=>(Below.heap_setCell w' p v k (fun e=>by subst e;rcases hp with hp | hp;exact hF hp;omega)).trans (h.block k hk hF)⟩
theorem Only.setCells {F:Nat→Prop} {w:World} {g:Nat} (hp:F g∨w.heap.size≤g):∀ (vs:List Value) (o:Nat) {w':World},Only F w w'→Only F w (w'.setCells g o vs)
 | [],_,_,h=>h
 | v :: vs,o,_,h=>Only.setCells hp vs (o+1) (h.setCell (p:=⟨g,o,none⟩) hp v)
theorem Only.grown {r:Option Nat} (h:Only F w w') (hg:w'.grownBy w2 r) (hr:∀ g,r=some g→F g∨w.heap.size≤g):Only F w w2 :=
 ⟨hg.os.trans h.os,hg.tape.trans h.tape,hg.output.trans h.output,Nat.le_trans h.size hg.size,fun k hk hF=>(hg.block k (Nat.lt_of_lt_of_le hk h.size) (fun e=>by rcases hr k e.symm with h1 | h1;exact hF h1;omega)).trans (h.block k hk hF)⟩
theorem Only.below (h:Only F w w') (hF:∀ k,F k→B≤k) (hB:B≤w.heap.size):Below B w w':=⟨h.os,h.tape,h.output,h.size,fun k hk=>h.block k (by omega) (fun e=>by have:=hF k e;omega)⟩
theorem Only.of_below (h:Below w.heap.size w w'):Only F w w':=⟨h.os,h.tape,h.output,h.size,fun k hk _=>h.block k hk⟩
end
/-- F, and what is new. -/
def grow (F:Nat→Prop) (w w':World) (k:Nat):Prop:=F k∨(w.heap.size≤k∧k<w'.heap.size)

/-- Block g is these sectors. -/
def Sect (w:World) (g:Nat) (L:List (List Nat)):Prop :=
 ∃ cs e,w.heap[g]?=some (.cells cs e (0,0))∧cs.size=64*L.length∧∀ i x,L[i]?=some x→x.length=64∧∀ j,j<64→cs[64*i+j]?=(vals .u8 x)[j]?
section
variable {w w':World} {g:Nat} {L:List (List Nat)}
theorem Sect.keep (h:Sect w g L) (hk:w'.heap[g]?=w.heap[g]?):Sect w' g L:=by
 obtain ⟨cs,e,h1,h2⟩:=h
 exact ⟨cs,e,hk.trans h1,h2⟩
theorem Sect.lt (h:Sect w g L):g<w.heap.size:=by
 obtain ⟨cs,e,h1,h2⟩:=h
 exact (Array.getElem?_eq_some_iff.1 h1).1
theorem Sect.len (h:Sect w g L) {i:Nat} {x:List Nat} (hx:L[i]?=some x):x.length=64:=by
 obtain ⟨cs,e,h1,h2,h3⟩:=h
 exact (h3 i x hx).1
theorem Sect.range (h:Sect w g L) {i:Nat} {x:List Nat} (hx:L[i]?=some x):w.rangeAt g (i*64) (vals .u8 x):=by
 rw [Nat.mul_comm]
 obtain ⟨cs,e,h1,h2,h3⟩:=h
 intro j v hv
 obtain ⟨hl,hc⟩:=h3 i x hx
 have hj:j<64:=by have:=(List.getElem?_eq_some_iff.1 hv).1;rw [vals_length] at this;omega
 rw [cell_of_row w g _ cs e (0,0) h1,hc j hj,hv]
theorem Sect.there (h:Sect w g L) {i:Nat} (hi:i<L.length):w.there g (i*64) 64:=by
 rw [Nat.mul_comm]
 obtain ⟨cs,e,h1,h2,h3⟩:=h
 intro j hj
 refine ⟨?_,by simp [World.frozen?,h1]⟩
 rw [cell_of_row w g _ cs e (0,0) h1,Array.getElem?_eq_getElem (by omega)];rfl
theorem Sect.store (h:Sect w g L) {i:Nat} (hi:i<L.length) {x:List Nat} (hx:x.length=64):Sect (w.setCells g (i*64) (vals .u8 x)) g (L.set i x):=by
 rw [Nat.mul_comm]
 obtain ⟨cs,e,h1,h2,h3⟩:=h
 obtain ⟨cs',a1,a2,a3,a4⟩:=setCells_whole (vals .u8 x) (64*i) w cs h1 (by rw [vals_length,hx];omega)
 rw [vals_length,hx] at a3 a4
 refine ⟨cs',e,a1,by rw [a2,h2,List.length_set],fun k y hy=>?_⟩
 by_cases hk:i=k
 ·subst hk
  obtain rfl:x=y:=by simpa [hi] using hy
  exact ⟨hx,fun j hj=>a4 j hj⟩
 ·rw [List.getElem?_set_ne hk] at hy
  obtain ⟨b1,b2⟩:=h3 k y hy
  refine ⟨b1,fun j hj=>?_⟩
  rw [a3 _ (by omega)]
  exact b2 j hj
end

/-- Writes that wait, as cells. -/
def wcell (p:Nat×List Nat):List Value:=.int .i64 (p.1:Int) :: vals .u8 p.2
def wcells (W:List (Nat×List Nat)):List Value:=W.flatMap wcell
theorem wcells_snoc (W:List (Nat×List Nat)) (p:Nat×List Nat):wcells (W ++ [p])=wcells W ++ wcell p:=by simp [wcells]
/-- The slice '.slice A W.length c' holds the writes W. -/
structure Waits (w:World) (A:Option Addr) (c:Nat) (W:List (Nat×List Nat)):Prop where
 own:w.ownsRow 0 165 65 (.slice A W.length c) W.length (wcells W)
 len:∀ p∈W,p.2.length=64
section
variable {w w':World} {A:Option Addr} {c:Nat} {W:List (Nat×List Nat)}
theorem Waits.nil (w:World):Waits w none 0 []:=⟨World.ownsRow_nil w 0 _ 65,fun p hp=>by cases hp⟩
theorem Waits.lt (h:Waits w A c W) {g:Nat} (hg:blockOf A=some g):g<w.heap.size:=(World.ownsRow.lt h.own g (by rwa [ownBlock_eq])).2
theorem Waits.keep (h:Waits w A c W) (hk:∀ g,blockOf A=some g→w'.heap[g]?=w.heap[g]?):Waits w' A c W:=by
 refine ⟨⟨h.own.1,?_⟩,h.len⟩
 rcases h.own.2 with hn | ⟨g,cap,cur,hv,hB,hgg,rest⟩
 ·exact .inl hn
 ·refine .inr ⟨g,cap,cur,hv,hB,?_,rest⟩
  injection hv with hA _ _
  exact (hk g (by rw [hA];rfl)).trans hgg
theorem Waits.le (h:Waits w A c W):W.length≤c∧c≤9223372036854775807:=by
 rcases h.own.2 with ⟨hv,hn⟩ | ⟨g,cap,cur,hv,hB,hgg,h1,h2,rest⟩
 ·injection hv with _ _ hc
  omega
 ·injection hv with _ _ hc
  unfold maxLen at h2
  omega
theorem Waits.range (h:Waits w A c W) {i:Nat} {p:Nat×List Nat} (hp:W[i]?=some p):∃ g,A=some ⟨g,0,none⟩∧g<w.heap.size∧w.rangeAt g (i*65) (wcell p):=by
 rw [Nat.mul_comm]
 have hi:i<W.length:=(List.getElem?_eq_some_iff.1 hp).1
 rcases h.own.2 with ⟨hv,hn⟩ | ⟨g,cap,cur,hv,hB,hgg,h1,h2,h3,h4⟩
 ·omega
 ·injection hv with hA _ hc
  refine ⟨g,hA,(Array.getElem?_eq_some_iff.1 hgg).1,fun j v hv=>?_⟩
  have h65:∀ q∈W,(wcell q).length=65:=fun q hq=>by simp [wcell,vals_length,h.len q hq]
  have hj:j<65:=by have:=(List.getElem?_eq_some_iff.1 hv).1;rw [h65 p (List.mem_of_getElem? hp)] at this;exact this
  rw [cell_of_row w g _ cur _ (0,0) hgg,←hv,←flat_at h65 hp hj,←Array.getElem?_toList,←List.getElem?_take_of_lt (i:=65*i+j) (j:=W.length*65) (by omega),h4]
  rfl
end

/-- The slice '.slice K l.length c' reads as these truths. -/
def Truths (w:World) (K:Option Addr) (c:Nat) (l:List Bool):Prop :=
 l.length≤c∧c≤9223372036854775807∧(0<l.length→∃ b off,K=some ⟨b,off,none⟩∧b<w.heap.size∧∀ j,j<l.length→w.cell? ⟨b,off+j,none⟩=some (.bool (l.getD j false)))
theorem Truths.nil (w:World):Truths w none 0 []:=⟨Nat.le_refl _,by omega,fun h=>by simp at h⟩
theorem Truths.keep {w w':World} {K:Option Addr} {c:Nat} {l:List Bool} (h:Truths w K c l) (hs:w.heap.size≤w'.heap.size) (hk:∀ g,blockOf K=some g→g<w.heap.size→w'.heap[g]?=w.heap[g]?):Truths w' K c l :=
 ⟨h.1,h.2.1,fun hn=>by
  obtain ⟨b,off,e,hb,hc⟩:=h.2.2 hn
  exact ⟨b,off,e,by omega,fun j hj=>(World.cell?_of_block (a:=⟨b,off+j,none⟩) (hk b (by rw [e];rfl) hb)).trans (hc j hj)⟩⟩
theorem Truths.aside {w:World} {K:Option Addr} {c:Nat} {l:List Bool} (h:Truths w K c l) {gd i:Nat} (v:Value) (hne:l≠[]→∀ g,blockOf K=some g→g≠gd):Truths (w.setCell ⟨gd,i,none⟩ v) K c l :=
 ⟨h.1,h.2.1,fun hn=>by
  obtain ⟨b,off,e,hb,hc⟩:=h.2.2 hn
  have hbd:b≠gd:=hne (fun e=>by rw [e] at hn;simp at hn) b (by rw [e];rfl)
  exact ⟨b,off,e,by simpa [World.setCell] using hb,fun j hj=>(World.cell?_of_block (a:=⟨b,off+j,none⟩) (Below.heap_setCell w ⟨gd,i,none⟩ v b hbd)).trans (hc j hj)⟩⟩
theorem Truths.under {w w':World} {K:Option Addr} {c:Nat} {l:List Bool} (h:Truths w K c l) (hb:Below w.heap.size w w'):Truths w' K c l :=
 h.keep hb.size fun g _ hg=>hb.block g hg
theorem Truths.lt {w:World} {K:Option Addr} {c:Nat} {l:List Bool} (h:Truths w K c l) (hn:l≠[]):∀ g,blockOf K=some g→g<w.heap.size:=fun g hg=>by
 obtain ⟨b,off,e,hb,hc⟩:=h.2.2 (by cases l;exact absurd rfl hn;simp)
 rw [e] at hg
 obtain rfl:b=g:=by simpa [blockOf] using hg
 exact hb
end Go.Proofs.YtnedpkhehiijhaaGreat
namespace Go.Proofs.YtnedpkhehiijhaaGreat
open Go.RowKit
set_option linter.unusedVariables false

set_option maxRecDepth 100000 in
theorem size_any (w:World) (g:Nat) (G:Option Addr) (n c:Nat) (hc:w.cell? ⟨g,0,none⟩=some (.slice G n c)):Calls Tryz.prog 68 #[.pointer (some ⟨g,0,none⟩)] w fun e w'=>e = .returned (.int .i64 n)∧w=w':=by
 go_enter Tryz.func68,Tryz.ntmps68
 go_wp2_with fail
 go_ret
 exact ⟨rfl,rfl⟩
set_option maxRecDepth 100000 in
theorem down_any (w:World) (g:Nat) (b:Bool) (hc:w.cell? ⟨g,7,none⟩=some (.bool b)):Calls Tryz.prog 61 #[.pointer (some ⟨g,0,none⟩)] w fun e w'=>e = .returned (.bool b)∧w=w':=by
 go_enter Tryz.func61,Tryz.ntmps61
 go_wp2_with fail
 go_ret
 exact ⟨rfl,rfl⟩
set_option maxRecDepth 100000 in
theorem has_any (w:World) (g:Nat) (G:Option Addr) (n c:Nat) (i:Int) (hc:w.cell? ⟨g,0,none⟩=some (.slice G n c)) (v:Bool) (hv:v=decide (0≤i∧i<(n:Int))):Calls Tryz.prog 106 #[.pointer (some ⟨g,0,none⟩),.int .i64 i] w fun e w'=>e = .returned (.bool v)∧w=w':=by
 have HV:=Lib.hid hv
 clear hv
 by_cases h0:0≤i
 ·have HW:Hid (v=decide (i<(n:Int))):=Lib.hid (by rw [HV.out,Bool.eq_iff_iff];simp [h0])
  go_enter Tryz.func106,Tryz.ntmps106
  go_wp2_with (refine (size_any _ g G n c hc).mono ?_;rintro e w1 ⟨rfl,rfl⟩)
  go_ret
  exact ⟨by rw [HW.out];rfl,rfl⟩
 ·have h1:decide (0≤i)=false:=decide_eq_false (by omega)
  have HW:Hid (v=false):=Lib.hid (by rw [HV.out,Bool.eq_iff_iff];simp;omega)
  go_enter Tryz.func106,Tryz.ntmps106
  go_wp2_with fail
  go_ret
  exact ⟨by rw [HW.out];rfl,rfl⟩
set_option maxRecDepth 100000 in
theorem due_any (w:World) (g:Nat) (x y:Int) (b:Bool) (h3:w.cell? ⟨g,3,none⟩=some (.int .i64 x)) (h4:w.cell? ⟨g,4,none⟩=some (.bool b)) (h5:w.cell? ⟨g,5,none⟩=some (.int .i64 y)) (v:Bool) (hv:v=(b && decide (y≤x))) :
  Calls Tryz.prog 121 #[.pointer (some ⟨g,0,none⟩)] w fun e w'=>e = .returned (.bool v)∧∃ q,w'=w.drewN q:=by
 have HV:=Lib.hid hv
 clear hv
 cases b
 ·have HW:Hid (v=false):=Lib.hid HV.out
  go_enter Tryz.func121,Tryz.ntmps121
  go_wp2_with fail
  go_quiet (fail)
  go_wp2_with fail
  go_ret
  exact ⟨by rw [HW.out];rfl,_,rfl⟩
 ·have HW:Hid (v=decide (y≤x)):=Lib.hid (by rw [HV.out];simp)
  go_enter Tryz.func121,Tryz.ntmps121
  go_wp2_with fail
  go_quiet (fail)
  go_wp2_with fail
  go_ret
  exact ⟨by rw [HW.out];rfl,_,rfl⟩

end Go.Proofs.YtnedpkhehiijhaaGreat
namespace Go.Proofs.YtnedpkhehiijhaaGreat
open Go.RowKit
set_option linter.unusedVariables false

/-- What a disk is: what Read tells, what is there behind a crash, what waits, the operations, whether it is armed, where, what is kept, whether it is down. -/
structure Dk where
 now:List (List Nat)
 lasts:List (List Nat)
 waits:List (Nat×List Nat)
 ops:Nat
 armed:Bool
 at_:Int
 keep:List Bool
 down:Bool

def dcells (gn gl n:Nat) (A:Option Addr) (m cw:Nat) (ops:Nat) (armed:Bool) (at_:Int) (K:Option Addr) (k ck:Nat) (down:Bool):Array Value :=
 #[.slice (some ⟨gn,0,none⟩) n n,.slice (some ⟨gl,0,none⟩) n n,.slice A m cw,.int .i64 (ops:Int),.bool armed,.int .i64 at_,.slice K k ck,.bool down]

/-- It lies so in memory. -/
structure DiskAt (w:World) (gd gn gl:Nat) (A:Option Addr) (cw:Nat) (K:Option Addr) (ck:Nat) (s:Dk):Prop where
 hd:Holds w gd 111 (dcells gn gl s.now.length A s.waits.length cw s.ops s.armed s.at_ K s.keep.length ck s.down)
 hn:Sect w gn s.now
 hl:Sect w gl s.lasts
 len:s.lasts.length=s.now.length
 hw:Waits w A cw s.waits
 hk:Truths w K ck s.keep
 dn:gd≠gn
 dl:gd≠gl
 nl:gn≠gl
 ad:blockOf A≠some gd∧blockOf A≠some gn∧blockOf A≠some gl
 kd:blockOf K≠some gd∧blockOf K≠some gn∧blockOf K≠some gl∧∀ g,blockOf K=some g→blockOf A≠some g
 kw:∀ g,blockOf K=some g→g<w.heap.size
 n1:1≤s.now.length
 n2:s.now.length≤2000
 wat:∀ p∈s.waits,p.1<s.now.length
/-- All its blocks are F's. -/
def Disk (w:World) (F:Nat→Prop) (gd:Nat) (s:Dk):Prop :=
 ∃ gn gl A cw K ck,DiskAt w gd gn gl A cw K ck s∧F gd∧F gn∧F gl∧(∀ g,blockOf A=some g→F g)∧(∀ g,blockOf K=some g→F g)

theorem DiskAt.keepAll {w w':World} {gd gn gl:Nat} {A:Option Addr} {cw:Nat} {K:Option Addr} {ck:Nat} {s:Dk} (h:DiskAt w gd gn gl A cw K ck s) (hs:w.heap.size≤w'.heap.size)
  (hk:∀ g,(g=gd∨g=gn∨g=gl∨blockOf A=some g∨blockOf K=some g)→g<w.heap.size→w'.heap[g]?=w.heap[g]?):DiskAt w' gd gn gl A cw K ck s where
 hd:=(hk gd (.inl rfl) (Holds.lt h.hd)).trans h.hd
 hn:=h.hn.keep (hk gn (.inr (.inl rfl)) h.hn.lt)
 hl:=h.hl.keep (hk gl (.inr (.inr (.inl rfl))) h.hl.lt)
 len:=h.len
 hw:=h.hw.keep fun g hg=>hk g (.inr (.inr (.inr (.inl hg)))) (h.hw.lt hg)
 hk:=h.hk.keep hs fun g hg hlt=>hk g (.inr (.inr (.inr (.inr hg)))) hlt
 dn:=h.dn
 dl:=h.dl
 nl:=h.nl
 ad:=h.ad
 kd:=h.kd
 kw:=fun g hg=>Nat.lt_of_lt_of_le (h.kw g hg) hs
 n1:=h.n1
 n2:=h.n2
 wat:=h.wat
theorem Disk.keep {w w':World} {F G:Nat→Prop} {gd:Nat} {s:Dk} (h:Disk w F gd s) (ho:Only G w w') (hFG:∀ k,F k→¬ G k):Disk w' F gd s:=by
 obtain ⟨gn,gl,A,cw,K,ck,h,f1,f2,f3,f4,f5⟩:=h
 refine ⟨gn,gl,A,cw,K,ck,h.keepAll ho.size fun g hg hlt=>ho.block g hlt (hFG g ?_),f1,f2,f3,f4,f5⟩
 rcases hg with rfl | rfl | rfl | hg | hg
 ·exact f1
 ·exact f2
 ·exact f3
 ·exact f4 g hg
 ·exact f5 g hg
theorem Disk.more {w:World} {F G:Nat→Prop} {gd:Nat} {s:Dk} (h:Disk w F gd s) (hFG:∀ k,F k→G k):Disk w G gd s:=by
 obtain ⟨gn,gl,A,cw,K,ck,h,f1,f2,f3,f4,f5⟩:=h
 exact ⟨gn,gl,A,cw,K,ck,h,hFG _ f1,hFG _ f2,hFG _ f3,fun g hg=>hFG g (f4 g hg),fun g hg=>hFG g (f5 g hg)⟩

/-- A sector of noughts. -/
def zsec:List Nat:=List.replicate 64 0
/-- A new disk. -/
def fresh (n:Nat):Dk:=⟨List.replicate n zsec,List.replicate n zsec,[],0,false,0,[],false⟩

def zagg:Value:=.agg (madeCells #[.int .u8 0] 64)
theorem info_sector:(Tryz.prog.info? 163).map (fun i=>(i.zero,i.size,i.bytes))=some (some zagg,64,64):=by kernel_rfl
theorem made_at (z:Array Value) (n j:Nat) (h:j<n):(madeCells z n)[j]?=some (z[j % z.size]!):=by
 simp [madeCells,h]
theorem zcells_at {n j:Nat} (h:j<n*64):(madeCells zagg.cells (n*64))[j]?=some (.int .u8 0):=by
 have hz:zagg.cells=madeCells #[.int .u8 0] 64:=rfl
 have hs:(madeCells #[Value.int .u8 0] 64).size=64:=size_madeCells _ _
 rw [hz,made_at _ _ _ h,hs]
 have h64:=made_at #[Value.int .u8 0] 64 (j % 64) (by omega)
 have h1:(#[Value.int .u8 0])[j % 64 % (#[Value.int .u8 0]).size]! = Value.int .u8 0:=by simp [Nat.mod_one]
 rw [h1] at h64
 obtain ⟨hlt,he⟩:=Array.getElem?_eq_some_iff.1 h64
 rw [getElem!_pos (madeCells #[Value.int .u8 0] 64) (j % 64) hlt,he]
theorem zsec_at (j:Nat):zsec.getD j 0=0:=by
 unfold zsec
 rw [List.getD,List.getElem?_replicate]
 split <;> rfl
theorem sect_new (w:World) (e:TypeId) (n:Nat):Sect (w.alloc (.cells (madeCells zagg.cells (n*64)) e)) w.heap.size (List.replicate n zsec):=by
 refine ⟨_,e,heap_alloc_new w _,by rw [size_madeCells,List.length_replicate,Nat.mul_comm],fun i x hx=>?_⟩
 rw [List.getElem?_replicate] at hx
 split at hx
 ·rename_i hi
  obtain rfl:zsec=x:=by simpa using hx
  refine ⟨by simp [zsec],fun j hj=>?_⟩
  rw [zcells_at (by omega),vals_at .u8 zsec (by simp [zsec];exact hj),zsec_at]
  rfl
 ·cases hx
theorem make_sectors (n:Nat) (h2:n≤2000) (W:World):(Instr.makeSlice 108 (.int .i64 (n:Int)) (.int .i64 (n:Int))).run Tryz.prog W = .ok (.slice (some ⟨W.heap.size,0,none⟩) n n) (W.alloc (.cells (madeCells zagg.cells (n*64)) 163)):=by
 obtain ⟨i,hi,hz,hsize,hbytes⟩:=info_parts info_sector
 have h:=run_make (P:=Tryz.prog) W 108 163 i zagg Tryz.underlying108 hi hz .i64 .i64 n n (by omega) (Int.le_refl _) (by rw [hbytes];omega) (by omega)
 rw [Int.toNat_natCast,hsize] at h
 exact h

set_option maxRecDepth 100000 in
theorem new_yes (w:World) (n:Nat) (h1:1≤n) (h2:n≤2000):Calls Tryz.prog 29 #[.int .i64 n] w fun e w'=>∃ gd,e = .returned (.pointer (some ⟨gd,0,none⟩))∧Disk w' (fun k=>w.heap.size≤k∧k<w'.heap.size) gd (fresh n)∧Below w.heap.size w w':=by
 have h3:decide ((n:Int)<1)=false:=decide_eq_false (by omega)
 have h4:decide (2000<(n:Int))=false:=decide_eq_false (by omega)
 have h5:(0:Int)≤(n:Int):=by omega
 have hmk:=make_sectors n h2
 have HZ:∀ (w:World),Hid (Sect (w.alloc (.cells (madeCells zagg.cells (n*64)) 163)) w.heap.size (List.replicate n zsec)):=fun w=>Lib.hid (sect_new w _ n)
 generalize madeCells zagg.cells (n*64)=Z at *
 have HN:Hid ((List.replicate n zsec).length=n):=Lib.hid (by simp)
 have hfin:∀ gn gl,Hid ((gn=w.heap.size∧gl=w.heap.size+1)∨(gn=w.heap.size+1∧gl=w.heap.size))→∀ W:World,Hid (W=((w.drew.alloc (.cells Z 163)).alloc (.cells Z 163)).alloc (.cells #[.slice (some ⟨gn,0,none⟩) n n,.slice (some ⟨gl,0,none⟩) n n,.slice none 0 0,.int .i64 0,.bool false,.int .i64 0,.slice none 0 0,.bool false] 111)) →
   Disk W (fun k=>w.heap.size≤k∧k<W.heap.size) (w.heap.size+2) (fresh n)∧Below w.heap.size w W:=by
  intro gn gl hg W hW
  have hW:=hW.out
  subst hW
  have s1:=(HZ w.drew).out
  have s2:=(HZ (w.drew.alloc (.cells Z 163))).out
  have e0:w.drew.heap.size=w.heap.size:=rfl
  have e1:(w.drew.alloc (.cells Z 163)).heap.size=w.heap.size+1:=by simp
  have e2:((w.drew.alloc (.cells Z 163)).alloc (.cells Z 163)).heap.size=w.heap.size+2:=by simp
  rw [e0] at s1
  rw [e1] at s2
  generalize hC:#[Value.slice (some ⟨gn,0,none⟩) n n,.slice (some ⟨gl,0,none⟩) n n,.slice none 0 0,.int .i64 0,.bool false,.int .i64 0,.slice none 0 0,.bool false]=C
  have t1:Sect (((w.drew.alloc (.cells Z 163)).alloc (.cells Z 163)).alloc (.cells C 111)) w.heap.size (List.replicate n zsec) :=
   s1.keep ((heap_alloc_old _ _ (by rw [e2];omega)).trans (heap_alloc_old _ _ (by rw [e1];omega)))
  have t2:Sect (((w.drew.alloc (.cells Z 163)).alloc (.cells Z 163)).alloc (.cells C 111)) (w.heap.size+1) (List.replicate n zsec) :=
   s2.keep (heap_alloc_old _ _ (by rw [e2];omega))
  have t3:Holds (((w.drew.alloc (.cells Z 163)).alloc (.cells Z 163)).alloc (.cells C 111)) (w.heap.size+2) 111 C:=by
   have:=Holds.fresh ((w.drew.alloc (.cells Z 163)).alloc (.cells Z 163)) 111 C
   rwa [e2] at this
  have hsz:(((w.drew.alloc (.cells Z 163)).alloc (.cells Z 163)).alloc (.cells C 111)).heap.size=w.heap.size+3:=by simp
  have hb:Below w.heap.size w (((w.drew.alloc (.cells Z 163)).alloc (.cells Z 163)).alloc (.cells C 111)) :=
   ((((Below.refl _ _).drew).alloc (Nat.le_refl _) _).alloc (by rw [e1];omega) _).alloc (by rw [e2];omega) _
  subst hC
  refine ⟨⟨gn,gl,none,0,none,0,?_,?_⟩,hb⟩
  ·rcases hg.out with ⟨rfl,rfl⟩ | ⟨rfl,rfl⟩
   ·exact { hd:=by simpa [dcells,fresh] using t3,hn:=t1,hl:=t2,len:=rfl,hw:=Waits.nil _,hk:=Truths.nil _,dn:=by omega,dl:=by omega,nl:=by omega,ad:=by simp [blockOf],kd:=by simp [blockOf],kw:=by simp [blockOf],n1:=by simpa [fresh] using h1,n2:=by simpa [fresh] using h2,wat:=by simp [fresh] }
   ·exact { hd:=by simpa [dcells,fresh] using t3,hn:=t2,hl:=t1,len:=rfl,hw:=Waits.nil _,hk:=Truths.nil _,dn:=by omega,dl:=by omega,nl:=by omega,ad:=by simp [blockOf],kd:=by simp [blockOf],kw:=by simp [blockOf],n1:=by simpa [fresh] using h1,n2:=by simpa [fresh] using h2,wat:=by simp [fresh] }
  ·rw [hsz]
   refine ⟨by omega,?_,?_,by simp [blockOf],by simp [blockOf]⟩ <;> (rcases hg.out with ⟨rfl,rfl⟩ | ⟨rfl,rfl⟩ <;> omega)
 go_enter Tryz.func29,Tryz.ntmps29
 go_wp2_with fail
 go_region
 all_goals
  go_wp2_with fail
  go_ret
  first
   | exact ⟨w.heap.size+2,by simp,hfin w.heap.size (w.heap.size+1) (Lib.hid (.inl ⟨rfl,rfl⟩)) _ (Lib.hid (by first | rfl | simp))⟩
   | exact ⟨w.heap.size+2,by simp,hfin (w.heap.size+1) w.heap.size (Lib.hid (.inr ⟨rfl,rfl⟩)) _ (Lib.hid (by first | rfl | simp))⟩
end Go.Proofs.YtnedpkhehiijhaaGreat
namespace Go.Proofs.YtnedpkhehiijhaaGreat
open Go.RowKit
set_option linter.unusedVariables false

theorem info_u8:(Tryz.prog.info? 5).map (fun i=>(i.zero,i.size,i.bytes))=some (some (.int .u8 0),1,1):=by kernel_rfl
theorem size_u8:(Tryz.prog.info? 5).map (·.size)=some 1:=by kernel_rfl
def zrow:Array Value:=nums .u8 zsec
theorem make_row (W:World):(Instr.makeSlice 44 (.int .i64 64) (.int .i64 64)).run Tryz.prog W = .ok (.slice (some ⟨W.heap.size,0,none⟩) 64 64) (W.alloc (.cells zrow 5)):=by
 obtain ⟨i,hi,hz,hsize,hbytes⟩:=info_parts info_u8
 have h:=run_make (P:=Tryz.prog) W 44 5 i (.int .u8 0) Tryz.underlying44 hi hz .i64 .i64 64 64 (by omega) (Int.le_refl _) (by rw [hbytes];omega) (by omega)
 rw [hsize] at h
 have e:(madeCells (Value.int .u8 0).cells (Int.toNat 64*1))=zrow:=(nums_noughts .u8 64).symm
 rw [e] at h
 exact h
/-- A whole row laid over a row of as many. -/
theorem row_setCells {w:World} {g:Nat} {T:TypeId} {l x:List Nat} (h:Row .u8 T w g l) (hl:x.length=l.length):Row .u8 T (w.setCells g 0 (vals .u8 x)) g x:=by
 obtain ⟨cur',a1,a2,a3,a4⟩:=setCells_whole (vals .u8 x) 0 w (nums .u8 l) h (by rw [vals_length,nums_size];omega)
 have e:cur'=nums .u8 x:=by
  apply Array.ext_getElem?
  intro j
  rcases Nat.lt_or_ge j x.length with hj | hj
  ·have:=a4 j (by rw [vals_length];exact hj)
   rw [Nat.zero_add] at this
   rw [this,nums_at .u8 x hj,vals_at .u8 x hj]
  ·rw [Array.getElem?_eq_none (by rw [a2,nums_size];omega),Array.getElem?_eq_none (by rw [nums_size];omega)]
 show _=_
 rw [a1,e]
theorem row_there {w:World} {g:Nat} {T:TypeId} {l:List Nat} (h:Row .u8 T w g l) {n:Nat} (hn:n≤l.length):w.there g 0 n:=fun j hj =>
 ⟨by rw [Nat.zero_add,h.cell (by omega)];rfl,h.open_ _⟩

theorem copy_row (W:World) (b b2 o2:Nat) (x:List Nat) (hx:x.length=64) (hr:W.rangeAt b2 o2 (vals .u8 x)) (ht:W.there b 0 64) :
  (Builtin.copy_ #[44,44] 3 #[.slice (some ⟨b,0,none⟩) 64 64,.slice (some ⟨b2,o2,none⟩) 64 64]).run Tryz.prog W = .ok (.int .i64 64) (W.setCells b 0 (vals .u8 x)):=by
 have h:=run_copy_cells (P:=Tryz.prog) W 44 44 3 5 b 0 64 64 ⟨b2,o2,none⟩ 64 64 (vals .u8 x) Tryz.underlying44 size_u8 (by rw [vals_length,hx];rfl) (fun j v hv=>by rw [Addr.add_mid];exact hr j v hv)
  (fun j hj=>(ht j (by rw [vals_length] at hj;omega)).1) (fun j hj=>(ht j (by rw [vals_length] at hj;omega)).2) (vals_one _ _)
 rw [vals_length,hx] at h
 exact h

set_option maxRecDepth 100000 in
theorem read_no (w:World) (gd gn gl:Nat) (A:Option Addr) (cw:Nat) (K:Option Addr) (ck:Nat) (s:Dk) (h:DiskAt w gd gn gl A cw K ck s) (i:Int) (hi:¬ (0≤i∧i<(s.now.length:Int))) :
  Calls Tryz.prog 63 #[.pointer (some ⟨gd,0,none⟩),.int .i64 i] w fun e w'=>e = .returned (.slice none 0 0)∧w=w':=by
 have c0:w.cell? ⟨gd,0,none⟩=some (.slice (some ⟨gn,0,none⟩) s.now.length s.now.length):=h.hd.cell 0
 have HC:=Lib.hid (has_any w gd _ _ _ i c0 false (by rw [Bool.eq_iff_iff];simp;omega))
 clear h c0
 go_enter Tryz.func63,Tryz.ntmps63
 go_wp2_with (refine HC.out.mono ?_;rintro e w1 ⟨rfl,rfl⟩)
 go_ret
 exact ⟨rfl,rfl⟩
set_option maxRecDepth 100000 in
theorem read_yes (w:World) (gd gn gl:Nat) (A:Option Addr) (cw:Nat) (K:Option Addr) (ck:Nat) (s:Dk) (h:DiskAt w gd gn gl A cw K ck s) (i:Nat) (x:List Nat) (hx:s.now[i]?=some x) :
  Calls Tryz.prog 63 #[.pointer (some ⟨gd,0,none⟩),.int .i64 i] w fun e w'=>e = .returned (.slice (some ⟨w.heap.size,0,none⟩) 64 64)∧Row .u8 5 w' w.heap.size x∧Below w.heap.size w w':=by
 have hin:i<s.now.length:=(List.getElem?_eq_some_iff.1 hx).1
 have hlen:=h.hn.len hx
 have c0:w.cell? ⟨gd,0,none⟩=some (.slice (some ⟨gn,0,none⟩) s.now.length s.now.length):=h.hd.cell 0
 have HC:=Lib.hid (has_any w gd _ _ _ i c0 true (by rw [Bool.eq_iff_iff];simp;omega))
 have hlt:=Holds.lt h.hd
 have c1:(w.alloc (.cells zrow 5)).cell? ⟨gd,0,none⟩=some (.slice (some ⟨gn,0,none⟩) s.now.length s.now.length):=(h.hd.alloc _).cell 0
 have hrow:Row .u8 5 (w.alloc (.cells zrow 5)) w.heap.size zsec:=Holds.fresh _ _ _
 have hrange:=World.rangeAt_alloc (h.hn.range hx) (.cells zrow 5)
 have hb:Below w.heap.size w (w.alloc (.cells zrow 5)):=(Below.refl _ _).alloc (Nat.le_refl _) _
 have hmk:=make_row
 have hcp:=copy_row (w.alloc (.cells zrow 5)) w.heap.size gn (i*64) x hlen hrange (row_there hrow (Nat.le_refl _))
 have hi0:(0:Int)≤(i:Int):=by omega
 have hiI:(i:Int)<(s.now.length:Int):=by omega
 generalize s.now.length=n at *
 clear h c0 hx
 have HL:=Lib.hid hlen
 clear hlen
 go_enter Tryz.func63,Tryz.ntmps63
 go_wp2_with (refine HC.out.mono ?_;rintro e w1 ⟨rfl,rfl⟩)
 go_ret
 refine ⟨rfl,row_setCells hrow (by rw [HL.out];rfl),?_⟩
 exact (Only.setCells (F:=fun k=>w.heap.size≤k) (.inl (Nat.le_refl _)) _ 0 (Only.of_below hb)).below (fun k hk=>hk) (Nat.le_refl _)
end Go.Proofs.YtnedpkhehiijhaaGreat
namespace Go.Proofs.YtnedpkhehiijhaaGreat
open Go.RowKit
set_option linter.unusedVariables false
set_option linter.unusedSimpArgs false

def zwait:Array Value:=#[Value.int .i64 0] ++ zrow
theorem info_wait:(Tryz.prog.info? 165).map (fun i=>(i.zero,i.size,i.bytes))=some (some (.agg zwait),65,72):=by kernel_rfl
theorem zero_wait:(∀ W,(zeroValue 165).run Tryz.prog W = .ok (.agg zwait) W)∧(Tryz.prog.info? 165).map (·.size)=some 65 :=
 zero_of_info (by have h:=info_wait;cases hq:Tryz.prog.info? 165 with
  | none=>simp [hq] at h
  | some i=>simp [hq] at h;simp [h.1,h.2.1])
theorem size_sector:(Tryz.prog.info? 163).map (·.size)=some 64:=by kernel_rfl
theorem zwait_size:zwait.size=65:=by simp [zwait,zrow,nums_size,zsec]
theorem wcell_length {p:Nat×List Nat} (h:p.2.length=64):(wcell p).length=65:=by simp [wcell,vals_length,h]
theorem wcell_one (p:Nat×List Nat):∀ u∈wcell p,u.oneCell'=true:=by
 intro u hu
 rcases List.mem_cons.1 hu with rfl | hu
 ·rfl
 ·exact vals_one _ _ u hu
/-- A wait of its own: its place, then noughts; then its sector over them. -/
theorem wait_made {W:World} {g i:Nat} {x:List Nat} (hx:x.length=64) (h:Holds W g 165 (zwait.toList.set 0 (.int .i64 (i:Int))).toArray) :
  W.there g 1 64∧Holds (W.setCells g 1 (vals .u8 x)) g 165 (wcell (i,x)).toArray:=by
 have hz65:zwait.toList.length=65:=zwait_size
 have hs:(zwait.toList.set 0 (.int .i64 (i:Int))).toArray.size=65:=by rw [List.size_toArray,List.length_set,hz65]
 constructor
 ·intro j hj
  refine ⟨?_,h.open_ _⟩
  rw [h.cell,Array.getElem?_eq_getElem (by rw [hs];omega)];rfl
 ·obtain ⟨cur',a1,a2,a3,a4⟩:=setCells_whole (vals .u8 x) 1 W _ h (by rw [vals_length,hx,hs];omega)
  rw [vals_length,hx] at a3 a4
  have e:cur'=(wcell (i,x)).toArray:=by
   apply Array.ext_getElem?
   intro j
   rcases j with _ | j
   ·rw [a3 0 (by omega),List.getElem?_toArray,List.getElem?_set_self (by rw [hz65];omega)];simp [wcell]
   ·rcases Nat.lt_or_ge j 64 with hj | hj
    ·rw [Nat.add_comm j 1,a4 j hj];simp [wcell,Nat.add_comm]
    ·rw [Array.getElem?_eq_none (by rw [a2,hs];omega),Array.getElem?_eq_none (by simp [wcell,vals_length,hx];omega)]
  show _=_
  rw [a1,e]
theorem holds_over {W:World} {g:Nat} {T:TypeId} {cs:Array Value} (h:Holds W g T cs) (vs:List Value) (hl:vs.length=cs.size):Holds (W.setCells g 0 vs) g T vs.toArray:=by
 obtain ⟨cur',a1,a2,a3,a4⟩:=setCells_whole vs 0 W cs h (by omega)
 have e:cur'=vs.toArray:=by
  apply Array.ext_getElem?
  intro j
  rcases Nat.lt_or_ge j vs.length with hj | hj
  ·have:=a4 j hj
   rw [Nat.zero_add] at this
   rw [this,List.getElem?_toArray]
  ·rw [Array.getElem?_eq_none (by omega),Array.getElem?_eq_none (by simp;omega)]
 show _=_
 rw [a1,e]
theorem store_over {P:Program} (W:World) (g:Nat) (T:TypeId) (cs:Array Value) (h:Holds W g T cs) (vs:List Value) (hl:vs.length=cs.size) (h1:∀ u∈vs,u.oneCell'=true) :
  (storeCells ⟨g,0,none⟩ vs).run P W = .ok () (W.setCells g 0 vs):=by
 have:=run_storeCells_cells (P:=P) g 0 vs 0 W (fun j hj=>by rw [h.cell,Array.getElem?_eq_getElem (by omega)];rfl) (fun j hj=>h.open_ _) h1
 exact this
theorem zwait_one (i:Nat):∀ u∈zwait.toList.set 0 (.int .i64 (i:Int)),u.oneCell'=true:=by
 intro u hu
 rcases List.mem_or_eq_of_mem_set hu with h | rfl
 ·have h2:zwait.toList=Value.int .i64 0 :: vals .u8 zsec:=by simp [zwait,zrow,nums,vals]
  rw [h2] at h
  rcases List.mem_cons.1 h with rfl | h
  ·rfl
  ·exact vals_one _ _ u h
 ·rfl
theorem range_of_holds {W:World} {g:Nat} {t:TypeId} {cs:List Value} (h:Holds W g t cs.toArray):W.rangeAt g 0 cs:=fun j v hv=>by
 rw [Nat.zero_add,h.cell,List.getElem?_toArray];exact hv
theorem copy_from (W:World) (b o:Nat) (B:Nat) (A2:Option Addr) (c2:Nat) (x:List Nat) (hx:x.length=64) (hr:Rd .u8 W B A2 c2 x) (ht:W.there b o 64) :
  (Builtin.copy_ #[44,44] 3 #[.slice (some ⟨b,o,none⟩) 64 64,.slice A2 64 c2]).run Tryz.prog W = .ok (.int .i64 64) (W.setCells b o (vals .u8 x)):=by
 obtain ⟨b2,o2,rfl,_,hc⟩:=hr.2.2 (by omega)
 have h:=run_copy_cells (P:=Tryz.prog) W 44 44 3 5 b o 64 64 ⟨b2,o2,none⟩ 64 c2 (vals .u8 x) Tryz.underlying44 size_u8 (by rw [vals_length,hx];rfl) (fun j v hv=>by
   have hj:j<x.length:=by have:=(List.getElem?_eq_some_iff.1 hv).1;rwa [vals_length] at this
   rw [Addr.add_mid,hc j hj,←vals_at .u8 x hj,hv])
  (fun j hj=>(ht j (by rw [vals_length] at hj;omega)).1) (fun j hj=>(ht j (by rw [vals_length] at hj;omega)).2) (vals_one _ _)
 rw [vals_length,hx] at h
 exact h

theorem fold_fill {α:Type}:∀ (l:List α) (cs:List α) (k:Nat),k+l.length=cs.length→((l.zipIdx k).foldl (fun (c:Array α) x=>c.setIfInBounds x.2 x.1) cs.toArray)=(cs.take k ++ l).toArray
 | [],cs,k,h=>by simp at h ⊢;rw [List.take_of_length_le (by omega)]
 | x :: l,cs,k,h=>by
  simp only [List.length_cons] at h
  rw [List.zipIdx_cons,List.foldl_cons,List.setIfInBounds_toArray,fold_fill l (cs.set k x) (k+1) (by rw [List.length_set];omega)]
  congr 1
  have hk:(cs.take k).length=k:=by rw [List.length_take];omega
  have e:(cs.set k x).take (k+1)=cs.take k ++ [x]:=by
   rw [List.take_set,List.take_add_one,List.getElem?_eq_getElem (by omega),List.set_append_right _ _ (by omega),hk,Nat.sub_self]
   rfl
  rw [e,List.append_assoc]
  rfl
/-- A row of one element that is many cells. -/
theorem build_one {P:Program} (W:World) (t e:TypeId) (i:TypeInfo) (z:Array Value) (cs:List Value) (ht:P.underlying t=some (.slice e)) (hi:P.info? e=some i) (hz:i.zero=some (.agg z)) (hs:i.size=cs.length) (h0:cs.length≠0) (hb:cs.length≤1000) :
  (Instr.buildSlice t 1 #[(0,.agg cs.toArray)]).run P W = .ok (.slice (some ⟨W.heap.size,0,none⟩) 1 1) (W.alloc (.cells cs.toArray e)):=by
 have hfill:∀ Z:Array Value,Z.size=1*cs.length→Instr.fill (fun i=>some (i*cs.length,cs.length)) Z [(0,.agg cs.toArray)]=some cs.toArray:=by
  intro Z hZ
  have h2:=fold_fill cs Z.toList 0 (by simp [hZ])
  have e1:(cs.toArray.zipIdx.foldl (fun (c:Array Value) x=>c.setIfInBounds (0*cs.length+x.2) x.1) Z)=cs.toArray:=by
   rw [show (fun (c:Array Value) (x:Value×Nat)=>c.setIfInBounds (0*cs.length+x.2) x.1)=(fun c x=>c.setIfInBounds x.2 x.1) by funext c x;rw [Nat.zero_mul,Nat.zero_add]]
   simpa using h2
  unfold Instr.fill
  change (if (decide (cs.toArray.size≠cs.length) || decide (0*cs.length+cs.toArray.size > Z.size))=true then none else Instr.fill (fun i=>some (i*cs.length,cs.length)) (cs.toArray.zipIdx.foldl (fun (c:Array Value) x=>c.setIfInBounds (0*cs.length+x.2) x.1) Z) [])=some cs.toArray
  rw [if_neg (by simp [hZ]),e1]
  rfl
 have h1:(sizeOf e).run P W = .ok cs.length W:=by simp [sizeOf,typeInfo,hi,hs]
 have h2:(zeroValue e).run P W = .ok (.agg z) W:=by simp [zeroValue,typeInfo,hi,hz]
 have hn0:¬ (1*cs.length > 2 ^ 24):=by omega
 have hn1:¬ (1*cs.length=0):=by omega
 unfold Instr.buildSlice
 simp only [Sem.run_bind,run_underlying ht,Result.andThen_ok,h1,h2,if_neg hn0,if_neg hn1,Sem.run_pure]
 rw [hfill _ (by simp)]
 rfl
theorem wp_build_one {P:Program} {op:Oper} {a:Act} {W:World} {K:Act→World→Prop} {Q:Exit→Act→World→Prop} (t:TypeId) (x:Operand) (ho:op.op = .buildSlice t 1 #[(0,x)]) (cs:List Value) (hx:a.eval x = .agg cs.toArray)
  (e:TypeId) (hrun:(Instr.buildSlice t 1 #[(0,.agg cs.toArray)]).run P W = .ok (.slice (some ⟨W.heap.size,0,none⟩) 1 1) (W.alloc (.cells cs.toArray e)))
  (h:K (a.put op.dst (.slice (some ⟨W.heap.size,0,none⟩) 1 1)) (W.alloc (.cells cs.toArray e))):op.wp P a W K Q:=by
 have e1:((#[(0,x)]:Array (Nat×Operand)).map fun (i,x)=>(i,a.eval x))=#[(0,.agg cs.toArray)]:=by simp [hx]
 unfold Oper.wp execOp
 simp only [ho]
 rw [e1]
 simp only [Sem.run_bind,hrun,Result.andThen_ok,Sem.run_pure]
 exact h
/-- An append of one wait at a step of a region that draws its order. -/
theorem step_wait (w:World) {ops:Array Oper} {o:Oper} {a:Act} {K:Act→World→Prop} {Q:Exit→Act→World→Prop} {E:Prop} (hgd:o.guard=none) (s x:Operand)
  (ho:o.op = .call { callee:=.builtin .append,args:=#[s,x],argTypes:=#[109,109] })
  {A:Option Addr} {n c:Nat} {W:List (Nat×List Nat)} (hs:a.eval s = .slice A n c) (hn:W.length=n) (hw:Waits w A c W)
  {g c2:Nat} {p:Nat×List Nat} (hx:a.eval x = .slice (some ⟨g,0,none⟩) 1 c2) (hg:Holds w g 165 (wcell p).toArray) (hp:p.2.length=64) (hsz:n≤100000)
  (hK:∀ g' c' w',Waits w' (some ⟨g',0,none⟩) c' (W ++ [p])→w.grownBy w' (blockOf A)→(blockOf A=some g'∨g'=w.heap.size)→g' < w'.heap.size→K (a.put o.dst (.slice (some ⟨g',0,none⟩) (n+1) c')) w') :
  if Region.wanted o (yielded ops a.tmps)=true then Oper.wp Tryz.prog o a w K Q else E:=by
 subst hn
 obtain ⟨i,hi',hz,hsize,hbytes⟩:=info_parts info_wait
 refine step_append_lies w hgd s x 109 ho 0 165 i (.agg zwait) 65 72 Tryz.underlying109 hi' hz hsize hbytes zwait_size (by omega) (.slice A W.length c) W.length (wcells W) hs hw.own ⟨g,0,none⟩ 1 c2 (wcell p) hx (by rw [wcell_length hp])
  (fun j u hu=>World.news_of_block (cs:=(wcell p).toArray) hg j u (by simpa using hu)) (wcell_one p) (by omega) (by unfold maxLen;omega) (by omega) (Nat.zero_le _) w.heap.size rfl ?_
 intro g' cap w' hown' hgr hat hlt
 rw [ownBlock_eq] at hgr hat
 refine hK g' cap w' ⟨?_,fun q hq=>?_⟩ hgr hat hlt
 ·rw [List.length_append,wcells_snoc];exact hown'
 ·rcases List.mem_append.1 hq with h | h
  ·exact hw.len q h
  ·obtain rfl:=List.mem_singleton.1 h;exact hp

theorem DiskAt.head {w:World} {gd gn gl:Nat} {A:Option Addr} {cw:Nat} {K:Option Addr} {ck:Nat} {s:Dk} (h:DiskAt w gd gn gl A cw K ck s) (i:Nat) (v:Value) (s':Dk) (e1:s'.now=s.now) (e2:s'.lasts=s.lasts) (e3:s'.waits=s.waits) (e4:s'.keep=s.keep)
  (hc:(dcells gn gl s.now.length A s.waits.length cw s.ops s.armed s.at_ K s.keep.length ck s.down).setIfInBounds i v=dcells gn gl s.now.length A s.waits.length cw s'.ops s'.armed s'.at_ K s.keep.length ck s'.down) :
  DiskAt (w.setCell ⟨gd,i,none⟩ v) gd gn gl A cw K ck s':=by
 have k:∀ g,g≠gd→(w.setCell ⟨gd,i,none⟩ v).heap[g]?=w.heap[g]?:=fun g hne=>Below.heap_setCell w ⟨gd,i,none⟩ v g hne
 have hsz:(w.setCell ⟨gd,i,none⟩ v).heap.size=w.heap.size:=by simp [World.setCell]
 exact {
  hd:=by have:=Holds.stored h.hd i v;rw [hc] at this;rw [e1,e3,e4];exact this
  hn:=by rw [e1];exact h.hn.keep (k gn fun e=>h.dn e.symm)
  hl:=by rw [e2];exact h.hl.keep (k gl fun e=>h.dl e.symm)
  len:=by rw [e1,e2];exact h.len
  hw:=by rw [e3];exact h.hw.keep fun g hg=>k g fun e=>h.ad.1 (by rw [hg,e])
  hk:=by rw [e4];exact h.hk.keep (Nat.le_of_eq hsz.symm) fun g hg _=>k g fun e=>h.kd.1 (by rw [hg,e])
  dn:=h.dn
  dl:=h.dl
  nl:=h.nl
  ad:=h.ad
  kd:=h.kd
  kw:=fun g hg=>by rw [hsz];exact h.kw g hg
  n1:=by rw [e1];exact h.n1
  n2:=by rw [e1];exact h.n2
  wat:=by rw [e1,e3];exact h.wat }
theorem disk_pushed {W2 V W3:World} {gd gn gl:Nat} {A:Option Addr} {cw:Nat} {K:Option Addr} {ck:Nat} {s:Dk} (hd:DiskAt W2 gd gn gl A cw K ck s) (hV:∀ g,g<W2.heap.size→V.heap[g]?=W2.heap[g]?) (hVs:W2.heap.size≤V.heap.size)
  {g' c':Nat} {p:Nat×List Nat} (hp1:p.1<s.now.length) (hw3:Waits W3 (some ⟨g',0,none⟩) c' (s.waits ++ [p])) (hg3:V.grownBy W3 (blockOf A)) (hat:blockOf A=some g'∨g'=V.heap.size) :
  DiskAt (W3.setCell ⟨gd,2,none⟩ (.slice (some ⟨g',0,none⟩) (s.waits.length+1) c')) gd gn gl (some ⟨g',0,none⟩) c' K ck { s with waits:=s.waits ++ [p] } ∧
   Holds W3 gd 111 (dcells gn gl s.now.length A s.waits.length cw s.ops s.armed s.at_ K s.keep.length ck s.down):=by
 have keep:∀ g,g<W2.heap.size→blockOf A≠some g→W3.heap[g]?=W2.heap[g]?:=fun g hg hne=>(hg3.block g (by omega) (fun e=>hne e.symm)).trans (hV g hg)
 have hh3:Holds W3 gd 111 (dcells gn gl s.now.length A s.waits.length cw s.ops s.armed s.at_ K s.keep.length ck s.down):=(keep gd (Holds.lt hd.hd) hd.ad.1).trans hd.hd
 have k:∀ v g,g≠gd→(W3.setCell ⟨gd,2,none⟩ v).heap[g]?=W3.heap[g]?:=fun v g hne=>Below.heap_setCell W3 ⟨gd,2,none⟩ v g hne
 have hsz:∀ v,(W3.setCell ⟨gd,2,none⟩ v).heap.size=W3.heap.size:=fun v=>by simp [World.setCell]
 have h1:g'≠gd∧g'≠gn∧g'≠gl∧∀ g,blockOf K=some g→g'≠g:=by
  have l1:=Holds.lt hd.hd
  have l2:=hd.hn.lt
  have l3:=hd.hl.lt
  rcases hat with e | e
  ·exact ⟨fun x=>hd.ad.1 (by rw [e,x]),fun x=>hd.ad.2.1 (by rw [e,x]),fun x=>hd.ad.2.2 (by rw [e,x]),fun g hg x=>hd.kd.2.2.2 g hg (by rw [e,x])⟩
  ·exact ⟨by omega,by omega,by omega,fun g hg=>by have:=hd.kw g hg;omega⟩
 have hW3:W2.heap.size≤W3.heap.size:=Nat.le_trans hVs hg3.size
 refine ⟨?_,hh3⟩
 exact {
  hd:=by have:=Holds.stored hh3 2 (.slice (some ⟨g',0,none⟩) (s.waits.length+1) c');show Holds _ _ _ (dcells gn gl s.now.length (some ⟨g',0,none⟩) (s.waits ++ [p]).length c' s.ops s.armed s.at_ K s.keep.length ck s.down);rw [List.length_append];exact this
  hn:=hd.hn.keep ((k _ gn fun e=>hd.dn e.symm).trans (keep gn hd.hn.lt hd.ad.2.1))
  hl:=hd.hl.keep ((k _ gl fun e=>hd.dl e.symm).trans (keep gl hd.hl.lt hd.ad.2.2))
  len:=hd.len
  hw:=hw3.keep fun g hg=>k _ g (by obtain rfl:g'=g:=by simpa [blockOf] using hg
                                   exact h1.1)
  hk:=hd.hk.keep (by rw [hsz];exact hW3) fun g hg hlt=>(k _ g fun e=>hd.kd.1 (by rw [hg,e])).trans (keep g hlt (hd.kd.2.2.2 g hg))
  dn:=hd.dn
  dl:=hd.dl
  nl:=hd.nl
  ad:=by simp only [blockOf,Option.map_some,ne_eq,Option.some.injEq];exact ⟨h1.1,h1.2.1,h1.2.2.1⟩
  kd:=⟨hd.kd.1,hd.kd.2.1,hd.kd.2.2.1,fun g hg=>by simp only [blockOf,Option.map_some,ne_eq,Option.some.injEq];exact h1.2.2.2 g hg⟩
  kw:=fun g hg=>by rw [hsz];exact Nat.lt_of_lt_of_le (hd.kw g hg) hW3
  n1:=hd.n1
  n2:=hd.n2
  wat:=fun q hq=>by
   rcases List.mem_append.1 hq with h | h
   ·exact hd.wat q h
   ·obtain rfl:=List.mem_singleton.1 h;exact hp1 }
/-- Behind a Write that was well. -/
def WrotePost (w:World) (gd gn gl:Nat) (A K:Option Addr) (ck:Nat) (s:Dk) (i:Nat) (x:List Nat) (e:Ending) (w':World):Prop :=
 e = .returned (.int .i64 0)∧∃ g' c',DiskAt w' gd gn gl (some ⟨g',0,none⟩) c' K ck { s with now:=s.now.set i x,waits:=s.waits ++ [(i,x)],ops:=s.ops+1 }∧(blockOf A=some g'∨w.heap.size≤g')∧Only (fun k=>k=gd∨k=gn∨blockOf A=some k) w w'

set_option maxRecDepth 100000 in
set_option maxHeartbeats 4000000 in
theorem write_ok (w:World) (gd gn gl:Nat) (A:Option Addr) (cw:Nat) (K:Option Addr) (ck:Nat) (s:Dk) (h:DiskAt w gd gn gl A cw K ck s) (i:Nat) (hi:i<s.now.length) (x:List Nat) (hx:x.length=64) (hdn:s.down=false) (hdue:(s.armed && decide (s.at_≤(s.ops:Int)))=false)
  (A2:Option Addr) (c2:Nat) (hr:Rd .u8 w w.heap.size A2 c2 x) (hwl:s.waits.length≤100000) (hops:s.ops≤1000000000) :
  Calls Tryz.prog 103 #[.pointer (some ⟨gd,0,none⟩),.int .i64 i,.slice A2 64 c2] w fun e w'=>WrotePost w gd gn gl A K ck s i x e w':=by
 have c0:w.cell? ⟨gd,0,none⟩=some (.slice (some ⟨gn,0,none⟩) s.now.length s.now.length):=h.hd.cell 0
 have c3:w.cell? ⟨gd,3,none⟩=some (.int .i64 s.ops):=h.hd.cell 3
 have c4:w.cell? ⟨gd,4,none⟩=some (.bool s.armed):=h.hd.cell 4
 have c5:w.cell? ⟨gd,5,none⟩=some (.int .i64 s.at_):=h.hd.cell 5
 have c7:w.cell? ⟨gd,7,none⟩=some (.bool s.down):=h.hd.cell 7
 have HC1:=Lib.hid (down_any w gd _ c7)
 rw [hdn] at HC1
 have HC2:=Lib.hid (has_any w gd _ _ _ i c0 true (by rw [Bool.eq_iff_iff];simp;omega))
 have HC3:=Lib.hid (due_any w gd _ _ _ c3 c4 c5 false hdue.symm)
 have HH:=Lib.hid h
 have HX:=Lib.hid hx
 have HR:=Lib.hid hr
 have HWL:=Lib.hid hwl
 have HOPS:=Lib.hid hops
 have HGD0:=Lib.hid (Holds.lt h.hd)
 have HHL:Hid (∀ g,blockOf A=some g→g<w.heap.size):=Lib.hid fun g hg=>h.hw.lt hg
 clear h c0 c3 c4 c5 c7 hx hdn hdue hr hwl hops
 go_enter Tryz.func103,Tryz.ntmps103
 have hzv:=zero_wait.1
 have HZS:=Lib.hid zwait_size
 have hne:(zwait=#[])=False:=by rw [eq_iff_iff];simp;intro e;have:=zwait_size;rw [e] at this;simp at this
 have HZ1:Hid (∀ i:Nat,∀ u∈zwait.toList.set 0 (.int .i64 (i:Int)),u.oneCell'=true):=Lib.hid zwait_one
 have HWM:Hid (∀ (W:World) (g i:Nat) (x:List Nat),x.length=64→Holds W g 165 (zwait.toList.set 0 (.int .i64 (i:Int))).toArray→W.there g 1 64∧Holds (W.setCells g 1 (vals .u8 x)) g 165 (wcell (i,x)).toArray):=Lib.hid fun W g i x=>wait_made
 generalize zwait=zw at *
 go_wp2_with (first
  | (refine HC1.out.mono ?_;rintro e w1 ⟨rfl,rfl⟩)
  | (refine HC2.out.mono ?_;rintro e w1 ⟨rfl,rfl⟩)
  | fail)
 refine HC3.out.mono ?_
 rintro e w1 ⟨rfl,q,rfl⟩
 have hh1:Holds ((w.drewN q).alloc (.cells zw 165)) w.heap.size 165 zw:=Holds.fresh (w.drewN q) _ _
 have hlz:(zw.toList.set 0 (.int .i64 (i:Int))).length=zw.size:=by rw [List.length_set];rfl
 have hst:=store_over (P:=Tryz.prog) _ _ _ zw hh1 (zw.toList.set 0 (.int .i64 (i:Int))) hlz (HZ1.out i)
 have hh2:=holds_over hh1 (zw.toList.set 0 (.int .i64 (i:Int))) hlz
 obtain ⟨hth,hh3⟩:=HWM.out _ _ _ x HX.out hh2
 have ho:Only (fun _=>False) w ((w.drewN q).alloc (.cells zw 165)):=((Only.refl _ _).drewN q).alloc _
 have ho2:=Only.setCells (g:=w.heap.size) (.inr (Nat.le_refl _)) (zw.toList.set 0 (.int .i64 (i:Int))) 0 ho
 have ho3:=Only.setCells (g:=w.heap.size) (.inr (Nat.le_refl _)) (vals .u8 x) 1 ho2
 have hcp:=copy_from _ w.heap.size 1 _ A2 c2 x HX.out (HR.out.under (ho2.below (B:=w.heap.size) (fun k hk=>hk.elim) (Nat.le_refl _))) hth
 have HH3:=Lib.hid hh3
 have HO3:=Lib.hid ho3
 clear hh1 HC1 HC2 HC3 hh2 hth ho ho2 hh3 ho3 hlz
 go_wp2_with fail
 have hh3:=HH3.out
 have ho3:=HO3.out
 clear hst hcp HH3 HO3 HZ1 HWM hzv hne HZS HR
 generalize (((w.drewN q).alloc (.cells zw 165)).setCells w.heap.size 0 (zw.toList.set 0 (Value.int .i64 (i:Int)))).setCells w.heap.size 1 (vals .u8 x)=W1 at *
 have hh:=HH.out.keepAll ho3.size (fun g _ hg=>ho3.block g hg (fun e=>e))
 have c0:W1.cell? ⟨gd,0,none⟩=some (.slice (some ⟨gn,0,none⟩) s.now.length s.now.length):=hh.hd.cell 0
 have hrg:W1.rangeAt w.heap.size 1 (vals .u8 x):=fun j v hv=>by
  have:=range_of_holds hh3 (j+1) v (by simpa [wcell] using hv)
  rw [show 1+j=0+(j+1) by omega]
  exact this
 have hls:(vals .u8 x).length=64:=by rw [vals_length];exact HX.out
 have hth:W1.there gn (i*64) 64:=hh.hn.there hi
 have hsz:(Tryz.prog.info? 163).map (·.size)=some (vals .u8 x).length:=by rw [hls];exact size_sector
 have hund:=Tryz.underlying163
 have hone:=vals_one .u8 x
 have hi0:(0:Int)≤(i:Int):=by omega
 have hiI:(i:Int)<(s.now.length:Int):=by omega
 have hht:W1.there gn (i*64) (vals .u8 x).length:=by rw [hls];exact hth
 have hgn:gn<W1.heap.size:=hh.hn.lt
 have hgdlt:gd<W1.heap.size:=Holds.lt hh.hd
 have hwl:w.heap.size≤gn→False:=fun e=>by have:=HH.out.hn.lt;omega
 have hne1:w.heap.size≠gn:=fun e=>hwl (Nat.le_of_eq e)
 have k1:(W1.drew.setCells gn (i*64) (vals .u8 x)).rangeAt w.heap.size 1 (vals .u8 x):=World.rangeAt_setCells_apart (w:=W1.drew) hrg gn (i*64) _ (.inl hne1)
 have k2:(W1.drew.setCells gn (i*64) (vals .u8 x)).there gn (i*64) (vals .u8 x).length:=World.there_setCells (w:=W1.drew) hht gn (i*64) _
 have k3:(W1.drew.setCells gn (i*64) (vals .u8 x)).cell? ⟨gd,0,none⟩=some (.slice (some ⟨gn,0,none⟩) s.now.length s.now.length):=(World.cell?_of_block (a:=⟨gd,0,none⟩) (setCells_aside (fun e=>hh.dn e) _ _ _)).trans c0
 have hd2:DiskAt (W1.drew.setCells gn (i*64) (vals .u8 x)) gd gn gl A cw K ck { s with now:=s.now.set i x }:={
  hd:=by
   have e:=(setCells_aside (g:=gn) (k:=gd) hh.dn (vals .u8 x) (i*64) W1.drew).trans hh.hd
   show Holds _ gd _ (dcells gn gl (s.now.set i x).length A s.waits.length cw s.ops s.armed s.at_ K s.keep.length ck s.down)
   rw [List.length_set];exact e
  hn:=Sect.store (w:=W1.drew) hh.hn hi HX.out
  hl:=hh.hl.keep (setCells_aside (fun e=>hh.nl e.symm) _ _ _)
  len:=by show s.lasts.length=(s.now.set i x).length;rw [List.length_set];exact hh.len
  hw:=hh.hw.keep fun g hg=>setCells_aside (fun e=>hh.ad.2.1 (by rw [hg,e])) _ _ _
  hk:=hh.hk.keep (by rw [setCells_size];exact Nat.le_refl _) fun g hg _=>setCells_aside (fun e=>hh.kd.2.1 (by rw [hg,e])) _ _ _
  dn:=hh.dn
  dl:=hh.dl
  nl:=hh.nl
  ad:=hh.ad
  kd:=hh.kd
  kw:=fun g hg=>by rw [setCells_size];exact hh.kw g hg
  n1:=by show 1≤(s.now.set i x).length;rw [List.length_set];exact hh.n1
  n2:=by show (s.now.set i x).length≤2000;rw [List.length_set];exact hh.n2
  wat:=fun p hp=>by show p.1<(s.now.set i x).length;rw [List.length_set];exact hh.wat p hp }
 have hh4:Holds (W1.drew.setCells gn (i*64) (vals .u8 x)) w.heap.size 165 (wcell (i,x)).toArray:=(setCells_aside hne1 _ _ _).trans hh3
 have ho4:Only (fun k=>k=gn) w (W1.drew.setCells gn (i*64) (vals .u8 x)):=Only.setCells (F:=fun k=>k=gn) (g:=gn) (.inl rfl) _ _ (ho3.more (G:=fun _=>False) fun _ _ h=>h.elim).drew
 have HK:=Lib.hid k1
 have HK2:=Lib.hid k2
 have HK3:=Lib.hid k3
 have HD2:=Lib.hid hd2
 have HH4:=Lib.hid hh4
 have HO4:=Lib.hid ho4
 have HSN:=Lib.hid hi
 generalize hn:s.now.length=n at *
 have HN:=Lib.hid hn
 clear hh ho3 hh3 hn HH hth k1 k2 k3 hd2 hh4 ho4 hgn hgdlt hwl
 go_region_held3 (fun w'=>w'.rangeAt w.heap.size 1 (vals .u8 x)∧w'.there gn (i*64) (vals .u8 x).length∧w'.cell? ⟨gd,0,none⟩=some (.slice (some ⟨gn,0,none⟩) n n)) (first | exact ⟨hrg,hht,c0⟩ | exact ⟨HK.out,HK2.out,HK3.out⟩) (fail)
 clear hrg hht c0 hsz hund hone HK HK2 HK3
 generalize W1.drew.setCells gn (i*64) (vals .u8 x)=W2 at *
 go_wp2_with fail
 have hd2:=HD2.out
 have hh4:=HH4.out
 have c2':W2.cell? ⟨gd,2,none⟩=some (.slice A s.waits.length cw):=hd2.hd.cell 2
 have c2a:∀ o,(W2.alloc o).cell? ⟨gd,2,none⟩=some (.slice A s.waits.length cw):=fun o=>(hd2.hd.alloc o).cell 2
 have f2:=hd2.hd.open_ 2
 have hrg2:=range_of_holds hh4
 have HL65:=wcell_length (p:=(i,x)) HX.out
 have hbs:(Instr.buildSlice 109 1 #[(0,.agg (wcell (i,x)).toArray)]).run Tryz.prog W2.drew = .ok (.slice (some ⟨W2.heap.size,0,none⟩) 1 1) (W2.drew.alloc (.cells (wcell (i,x)).toArray 165)):=by
  obtain ⟨j,hi',hz,hsize,hbytes⟩:=info_parts info_wait
  exact build_one W2.drew 109 165 j zwait (wcell (i,x)) Tryz.underlying109 hi' hz (by rw [hsize,HL65]) (by rw [HL65];omega) (by rw [HL65];omega)
 have HBS:=Lib.hid hbs
 have hV:(W2.drew.alloc (.cells (wcell (i,x)).toArray 165)).heap.size=W2.heap.size+1:=by simp
 have q2:(W2.drew.alloc (.cells (wcell (i,x)).toArray 165)).rangeAt w.heap.size 0 (wcell (i,x)):=World.rangeAt_alloc (w:=W2.drew) hrg2 _
 have hwt:Waits (W2.drew.alloc (.cells (wcell (i,x)).toArray 165)) A cw s.waits:=hd2.hw.keep fun g hg=>Below.heap_alloc W2.drew _ g (hd2.hw.lt hg)
 have hfr:Holds (W2.drew.alloc (.cells (wcell (i,x)).toArray 165)) W2.heap.size 165 (wcell (i,x)).toArray:=Holds.fresh W2.drew _ _
 have hhV:Holds (W2.drew.alloc (.cells (wcell (i,x)).toArray 165)) gd 111 _:=Holds.alloc (w:=W2.drew) hd2.hd _
 have ho4V:Only (fun k=>k=gn) w (W2.drew.alloc (.cells (wcell (i,x)).toArray 165)):=HO4.out.drew.alloc _
 have keepA:∀ g,g<W2.heap.size→(W2.drew.alloc (.cells (wcell (i,x)).toArray 165)).heap[g]?=W2.heap[g]?:=fun g hg=>Below.heap_alloc W2.drew _ g hg
 have HLA:=Lib.hid (show ∀ g,blockOf A=some g→g<w.heap.size from HHL.out)
 have HQ2:=Lib.hid q2
 have HHV:=Lib.hid hhV
 have HV:=Lib.hid hV
 have HWT:=Lib.hid hwt
 have HFR:=Lib.hid hfr
 have HOV:=Lib.hid ho4V
 have HKA:=Lib.hid keepA
 have HRG:=Lib.hid hrg2
 have HSN4:Hid (i<(s.now.set i x).length):=Lib.hid (by rw [List.length_set,HN.out];exact HSN.out)
 have HGD:Hid (gd<w.heap.size):=HGD0
 clear hd2 hh4 hbs q2 hV hwt hfr hhV ho4V keepA
 refine wp_region_noPanic ?_
 refine wp_region_held_drew (S:=fun w'=>w'.rangeAt w.heap.size 0 (wcell (i,x))) (by kernel_rfl) hrg2 (fun hHeld=>?_)
 refine wpAnyH_take (i:=0) (oi:={ dst:=some 37,op:=Op.move (Operand.tmp 0),type:=23,pos:=_,after:=_,guard:=none }) (v:=?_) rfl (by kernel_rfl) (by kernel_rfl) (by kernel_rfl) (fun _ _ _ h=>h) (Or.inl ⟨by rfl,?_⟩) hHeld ?_
 rotate_left 1
 ·(intro w hSw;(try dsimp only at hSw);go_simp;try with_reducible rfl)
 try simp only [Act.put,List.setIfInBounds_toArray,List.set_cons_zero,List.set_cons_succ]
 refine wpAnyH_take (i:=1) (oi:={ dst:=some 38,op:=Op.move (Operand.tmp 0),type:=23,pos:=_,after:=_,guard:=none }) (v:=?_) rfl (by kernel_rfl) (by kernel_rfl) (by kernel_rfl) (fun _ _ _ h=>h) (Or.inl ⟨by rfl,?_⟩) hHeld ?_
 rotate_left 1
 ·(intro w hSw;(try dsimp only at hSw);go_simp;try with_reducible rfl)
 try simp only [Act.put,List.setIfInBounds_toArray,List.set_cons_zero,List.set_cons_succ]
 refine wpAnyH_take (i:=2) (oi:={ dst:=some 39,op:=Op.nilCheck (Operand.tmp 38),type:=0,pos:=_,after:=_,guard:=none }) (v:=?_) rfl (by kernel_rfl) (by kernel_rfl) (by kernel_rfl) (fun _ _ _ h=>h) (Or.inl ⟨by rfl,?_⟩) hHeld ?_
 rotate_left 1
 ·(intro w hSw;(try dsimp only at hSw);go_simp;try with_reducible rfl)
 try simp only [Act.put,List.setIfInBounds_toArray,List.set_cons_zero,List.set_cons_succ]
 refine wpAnyH_take (i:=3) (oi:={ dst:=some 40,op:=Op.fieldAddr 111 (Operand.tmp 39) 2,type:=0,pos:=_,after:=_,guard:=none }) (v:=?_) rfl (by kernel_rfl) (by kernel_rfl) (by kernel_rfl) (fun _ _ _ h=>h) (Or.inl ⟨by rfl,?_⟩) hHeld ?_
 rotate_left 1
 ·(intro w hSw;(try dsimp only at hSw);go_simp;try with_reducible rfl)
 try simp only [Act.put,List.setIfInBounds_toArray,List.set_cons_zero,List.set_cons_succ]
 refine wpAnyH_take (i:=5) (oi:={ dst:=some 42,op:=Op.load 165 (Operand.tmp 7),type:=165,pos:=_,after:=_,guard:=none }) (v:=_) rfl (by kernel_rfl) (by kernel_rfl) (by kernel_rfl) (fun _ _ _ h=>h)
  (yieldsIf_load_mid (by rfl) 165 (.tmp 7) rfl w.heap.size 0 rfl (wcell (i,x)) _ (fun w' h=>h) Tryz.underlying165 rfl (by rw [zero_wait.2,HL65])) hHeld ?_
 try simp only [Act.put,List.setIfInBounds_toArray,List.set_cons_zero,List.set_cons_succ]
 refine wpAnyH_ready (rs:=[4,6]) (by kernel_rfl) (by simp) ?_
 refine AllReadyH.cons (o:={ dst:=some 41,op:=Op.load 109 (Operand.tmp 40),type:=109,pos:=_,after:=_,guard:=none }) rfl (fun K hK=>?_) ?_
 ·go_simp
  refine hK.out _ _ hrg2 (fun hHeld=>?_)
  clear hK K
  try simp only [Act.put,List.setIfInBounds_toArray,List.set_cons_zero,List.set_cons_succ]
  refine wpAnyH_ready (rs:=[6]) (by kernel_rfl) (by simp) ?_
  refine AllReadyH.cons (o:={ dst:=some 43,op:=Op.buildSlice 109 1 #[(0,Operand.tmp 42)],type:=109,pos:=_,after:=_,guard:=none }) rfl (fun K hK=>?_) AllReadyH.nil
  rw [if_pos (by rfl)]
  refine wp_build_one 109 (.tmp 42) rfl (wcell (i,x)) rfl 165 HBS.out ?_
  refine hK.out _ _ HQ2.out (fun hHeld=>?_)
  clear hK K
  try simp only [Act.put,List.setIfInBounds_toArray,List.set_cons_zero,List.set_cons_succ]
  refine wpAnyH_ready (rs:=[7]) (by kernel_rfl) (by simp) ?_
  refine AllReadyH.cons (o:={ dst:=some 44,op:=Op.call { callee:=Callee.builtin Builtin.append,args:=#[Operand.tmp 41,Operand.tmp 43],argTypes:=#[109,109] },type:=109,pos:=_,after:=_,guard:=none }) rfl (fun K hK=>?_) AllReadyH.nil
  refine step_wait _ rfl (.tmp 41) (.tmp 43) rfl rfl rfl HWT.out rfl HFR.out HX.out HWL.out ?_
  intro g' c' W3 hw3 hg3 hat3 hlt3
  obtain ⟨hd4,hh3⟩:=disk_pushed HD2.out HKA.out (by rw [HV.out];omega) (p:=(i,x)) HSN4.out hw3 hg3 hat3
  have rg3:W3.rangeAt w.heap.size 0 (wcell (i,x)):=range_of_holds (Holds.grown (show Holds (W2.drew.alloc (.cells (wcell (i,x)).toArray 165)) w.heap.size 165 (wcell (i,x)).toArray from (HKA.out _ (Holds.lt HH4.out)).trans HH4.out) hg3 (fun e=>by have:=HLA.out _ e.symm;omega))
  have q3:W3.cell? ⟨gd,2,none⟩=some (.slice A s.waits.length cw):=hh3.cell 2
  have f3:W3.frozen? ⟨gd,2,none⟩=false:=hh3.open_ 2
  have hne:(⟨gd,2,none⟩:Addr).block≠w.heap.size:=fun e=>absurd (show gd=w.heap.size from e) (by have:=HGD.out;omega)
  have rg4:(W3.setCell ⟨gd,2,none⟩ (.slice (some ⟨g',0,none⟩) (s.waits.length+1) c')).rangeAt w.heap.size 0 (wcell (i,x)):=fun j v hv=>(World.cell?_of_block (a:=⟨w.heap.size,0+j,none⟩) (Below.heap_setCell W3 ⟨gd,2,none⟩ _ w.heap.size (fun e=>hne e.symm))).trans (rg3 j v hv)
  have hoo:Only (fun k=>k=gd∨k=gn∨blockOf A=some k) w (W3.setCell ⟨gd,2,none⟩ (.slice (some ⟨g',0,none⟩) (s.waits.length+1) c')) :=
   ((HOV.out.more (F:=fun k=>k=gd∨k=gn∨blockOf A=some k) (fun k _ e=>.inr (.inl e))).grown hg3 (fun g e=>.inl (.inr (.inr e)))).setCell (.inl (.inl rfl)) _
  have HAT:Hid (blockOf A=some g'∨w.heap.size≤g'):=Lib.hid (hat3.elim .inl fun e=>.inr (by have e':g'=W2.heap.size+1:=e.trans (show _=_ from HV.out);have:=Holds.lt HH4.out;omega))
  have HD4:=Lib.hid hd4
  have HOO:=Lib.hid hoo
  have RG3:=Lib.hid rg3
  have RG4:=Lib.hid rg4
  clear hw3 hg3 hat3 hlt3 hd4 hh3 hne rg3 rg4 hoo
  refine hK.out _ _ RG3.out (fun hHeld=>?_)
  clear hK K
  try simp only [Act.put,List.setIfInBounds_toArray,List.set_cons_zero,List.set_cons_succ]
  refine wpAnyH_take (i:=8) (oi:={ dst:=some 45,op:=Op.nilCheck (Operand.tmp 37),type:=0,pos:=_,after:=_,guard:=none }) (v:=?_) rfl (by kernel_rfl) (by kernel_rfl) (by kernel_rfl) (fun _ _ _ h=>h) (Or.inl ⟨by rfl,?_⟩) hHeld ?_
  rotate_left 1
  ·(intro w hSw;(try dsimp only at hSw);go_simp;try with_reducible rfl)
  try simp only [Act.put,List.setIfInBounds_toArray,List.set_cons_zero,List.set_cons_succ]
  refine wpAnyH_take (i:=9) (oi:={ dst:=some 46,op:=Op.fieldAddr 111 (Operand.tmp 45) 2,type:=0,pos:=_,after:=_,guard:=none }) (v:=?_) rfl (by kernel_rfl) (by kernel_rfl) (by kernel_rfl) (fun _ _ _ h=>h) (Or.inl ⟨by rfl,?_⟩) hHeld ?_
  rotate_left 1
  ·(intro w hSw;(try dsimp only at hSw);go_simp;try with_reducible rfl)
  try simp only [Act.put,List.setIfInBounds_toArray,List.set_cons_zero,List.set_cons_succ]
  refine wpAnyH_ready (rs:=[10]) (by kernel_rfl) (by simp) ?_
  refine AllReadyH.cons (o:={ dst:=none,op:=Op.store 109 (Operand.tmp 46) (Operand.tmp 44),type:=0,pos:=_,after:=_,guard:=none }) rfl (fun K hK=>?_) AllReadyH.nil
  go_simp
  refine hK.out _ _ RG4.out (fun hHeld=>?_)
  clear hK K
  try simp only [Act.put,List.setIfInBounds_toArray,List.set_cons_zero,List.set_cons_succ]
  refine wpAnyH_done (by kernel_rfl) ?_ _
  refine NoPanic.normal ?_
  have hd4:=HD4.out
  clear q3 f3 RG3 RG4 hHeld HWT HFR HOV HKA HQ2 HHV HV HBS HRG hrg2 c2a c2' f2 HH4 HO4
  generalize W3.setCell ⟨gd,2,none⟩ (.slice (some ⟨g',0,none⟩) (s.waits.length+1) c')=W4 at *
  have e3:W4.cell? ⟨gd,3,none⟩=some (.int .i64 s.ops):=hd4.hd.cell 3
  have f3:W4.frozen? ⟨gd,3,none⟩=false:=hd4.hd.open_ 3
  have ho0:(0:Int)≤(s.ops:Int):=by omega
  have ho1:(s.ops:Int)≤1000000000:=by have:=HOPS.out;omega
  have HF:Hid (DiskAt (W4.setCell ⟨gd,3,none⟩ (.int .i64 ((s.ops:Int)+1))) gd gn gl (some ⟨g',0,none⟩) c' K ck ({ s with now:=s.now.set i x,waits:=s.waits ++ [(i,x)],ops:=s.ops+1 })) :=
   Lib.hid (hd4.head 3 _ _ rfl rfl rfl rfl rfl)
  have HO5:=Lib.hid (HOO.out.setCell (p:=⟨gd,3,none⟩) (.inl (.inl rfl)) (.int .i64 ((s.ops:Int)+1)))
  clear hd4
  go_wp2_with fail
  go_ret
  exact ⟨rfl,_,_,HF.out,HAT.out,HO5.out⟩
 refine AllReadyH.cons (o:={ dst:=some 43,op:=Op.buildSlice 109 1 #[(0,Operand.tmp 42)],type:=109,pos:=_,after:=_,guard:=none }) rfl (fun K hK=>?_) AllReadyH.nil
 rw [if_pos (by rfl)]
 refine wp_build_one 109 (.tmp 42) rfl (wcell (i,x)) rfl 165 HBS.out ?_
 refine hK.out _ _ HQ2.out (fun hHeld=>?_)
 clear hK K
 try simp only [Act.put,List.setIfInBounds_toArray,List.set_cons_zero,List.set_cons_succ]
 refine wpAnyH_ready (rs:=[4]) (by kernel_rfl) (by simp) ?_
 refine AllReadyH.cons (o:={ dst:=some 41,op:=Op.load 109 (Operand.tmp 40),type:=109,pos:=_,after:=_,guard:=none }) rfl (fun K hK=>?_) AllReadyH.nil
 go_simp
 refine hK.out _ _ HQ2.out (fun hHeld=>?_)
 clear hK K
 try simp only [Act.put,List.setIfInBounds_toArray,List.set_cons_zero,List.set_cons_succ]
 refine wpAnyH_ready (rs:=[7]) (by kernel_rfl) (by simp) ?_
 refine AllReadyH.cons (o:={ dst:=some 44,op:=Op.call { callee:=Callee.builtin Builtin.append,args:=#[Operand.tmp 41,Operand.tmp 43],argTypes:=#[109,109] },type:=109,pos:=_,after:=_,guard:=none }) rfl (fun K hK=>?_) AllReadyH.nil
 refine step_wait _ rfl (.tmp 41) (.tmp 43) rfl rfl rfl HWT.out rfl HFR.out HX.out HWL.out ?_
 intro g' c' W3 hw3 hg3 hat3 hlt3
 obtain ⟨hd4,hh3⟩:=disk_pushed HD2.out HKA.out (by rw [HV.out];omega) (p:=(i,x)) HSN4.out hw3 hg3 hat3
 have rg3:W3.rangeAt w.heap.size 0 (wcell (i,x)):=range_of_holds (Holds.grown (show Holds (W2.drew.alloc (.cells (wcell (i,x)).toArray 165)) w.heap.size 165 (wcell (i,x)).toArray from (HKA.out _ (Holds.lt HH4.out)).trans HH4.out) hg3 (fun e=>by have:=HLA.out _ e.symm;omega))
 have q3:W3.cell? ⟨gd,2,none⟩=some (.slice A s.waits.length cw):=hh3.cell 2
 have f3:W3.frozen? ⟨gd,2,none⟩=false:=hh3.open_ 2
 have hne:(⟨gd,2,none⟩:Addr).block≠w.heap.size:=fun e=>absurd (show gd=w.heap.size from e) (by have:=HGD.out;omega)
 have rg4:(W3.setCell ⟨gd,2,none⟩ (.slice (some ⟨g',0,none⟩) (s.waits.length+1) c')).rangeAt w.heap.size 0 (wcell (i,x)):=fun j v hv=>(World.cell?_of_block (a:=⟨w.heap.size,0+j,none⟩) (Below.heap_setCell W3 ⟨gd,2,none⟩ _ w.heap.size (fun e=>hne e.symm))).trans (rg3 j v hv)
 have hoo:Only (fun k=>k=gd∨k=gn∨blockOf A=some k) w (W3.setCell ⟨gd,2,none⟩ (.slice (some ⟨g',0,none⟩) (s.waits.length+1) c')) :=
  ((HOV.out.more (F:=fun k=>k=gd∨k=gn∨blockOf A=some k) (fun k _ e=>.inr (.inl e))).grown hg3 (fun g e=>.inl (.inr (.inr e)))).setCell (.inl (.inl rfl)) _
 have HAT:Hid (blockOf A=some g'∨w.heap.size≤g'):=Lib.hid (hat3.elim .inl fun e=>.inr (by have e':g'=W2.heap.size+1:=e.trans (show _=_ from HV.out);have:=Holds.lt HH4.out;omega))
 have HD4:=Lib.hid hd4
 have HOO:=Lib.hid hoo
 have RG3:=Lib.hid rg3
 have RG4:=Lib.hid rg4
 clear hw3 hg3 hat3 hlt3 hd4 hh3 hne rg3 rg4 hoo
 refine hK.out _ _ RG3.out (fun hHeld=>?_)
 clear hK K
 try simp only [Act.put,List.setIfInBounds_toArray,List.set_cons_zero,List.set_cons_succ]
 refine wpAnyH_take (i:=8) (oi:={ dst:=some 45,op:=Op.nilCheck (Operand.tmp 37),type:=0,pos:=_,after:=_,guard:=none }) (v:=?_) rfl (by kernel_rfl) (by kernel_rfl) (by kernel_rfl) (fun _ _ _ h=>h) (Or.inl ⟨by rfl,?_⟩) hHeld ?_
 rotate_left 1
 ·(intro w hSw;(try dsimp only at hSw);go_simp;try with_reducible rfl)
 try simp only [Act.put,List.setIfInBounds_toArray,List.set_cons_zero,List.set_cons_succ]
 refine wpAnyH_take (i:=9) (oi:={ dst:=some 46,op:=Op.fieldAddr 111 (Operand.tmp 45) 2,type:=0,pos:=_,after:=_,guard:=none }) (v:=?_) rfl (by kernel_rfl) (by kernel_rfl) (by kernel_rfl) (fun _ _ _ h=>h) (Or.inl ⟨by rfl,?_⟩) hHeld ?_
 rotate_left 1
 ·(intro w hSw;(try dsimp only at hSw);go_simp;try with_reducible rfl)
 try simp only [Act.put,List.setIfInBounds_toArray,List.set_cons_zero,List.set_cons_succ]
 refine wpAnyH_ready (rs:=[10]) (by kernel_rfl) (by simp) ?_
 refine AllReadyH.cons (o:={ dst:=none,op:=Op.store 109 (Operand.tmp 46) (Operand.tmp 44),type:=0,pos:=_,after:=_,guard:=none }) rfl (fun K hK=>?_) AllReadyH.nil
 go_simp
 refine hK.out _ _ RG4.out (fun hHeld=>?_)
 clear hK K
 try simp only [Act.put,List.setIfInBounds_toArray,List.set_cons_zero,List.set_cons_succ]
 refine wpAnyH_done (by kernel_rfl) ?_ _
 refine NoPanic.normal ?_
 have hd4:=HD4.out
 clear q3 f3 RG3 RG4 hHeld HWT HFR HOV HKA HQ2 HHV HV HBS HRG hrg2 c2a c2' f2 HH4 HO4
 generalize W3.setCell ⟨gd,2,none⟩ (.slice (some ⟨g',0,none⟩) (s.waits.length+1) c')=W4 at *
 have e3:W4.cell? ⟨gd,3,none⟩=some (.int .i64 s.ops):=hd4.hd.cell 3
 have f3:W4.frozen? ⟨gd,3,none⟩=false:=hd4.hd.open_ 3
 have ho0:(0:Int)≤(s.ops:Int):=by omega
 have ho1:(s.ops:Int)≤1000000000:=by have:=HOPS.out;omega
 have HF:Hid (DiskAt (W4.setCell ⟨gd,3,none⟩ (.int .i64 ((s.ops:Int)+1))) gd gn gl (some ⟨g',0,none⟩) c' K ck ({ s with now:=s.now.set i x,waits:=s.waits ++ [(i,x)],ops:=s.ops+1 })) :=
  Lib.hid (hd4.head 3 _ _ rfl rfl rfl rfl rfl)
 have HO5:=Lib.hid (HOO.out.setCell (p:=⟨gd,3,none⟩) (.inl (.inl rfl)) (.int .i64 ((s.ops:Int)+1)))
 clear hd4
 go_wp2_with fail
 go_ret
 exact ⟨rfl,_,_,HF.out,HAT.out,HO5.out⟩
end Go.Proofs.YtnedpkhehiijhaaGreat
