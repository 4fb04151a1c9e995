/-
  From the row's own reading of an argument that is a slice of unsigned numbers to the word that the walks use. An argument that is bytes, opened. A point as an argument, opened. A key and a pair of numbers as arguments, opened.
-/
import Derived.Test.YtflfdglpljodbaaDoorTRead
import Derived.OpenShut
import Derived.Test.YtflfdglpljodbaaDoorChecked
import Derived.Test.YtflfdglpljodbaaDoorTMem
import Derived.ChangeSlices
import Derived.ChangeArms
import Derived.WideShapes
import Derived.Deep.Slices
import Derived.Test.YtflfdglpljodbaaDoorTNatA
import Derived.Lib.SmallJoins
set_option maxRecDepth 100000
namespace Go.Proofs.YtflfdglpljodbaaDoor
open Go.RowKit Go.ChangeShapes
theorem rd_of_row {k:IntKind} {m:Nat} (hk:∀ n:Int,(Lit.int k n).wf=true→0≤n∧n<(m:Int)) {w:World} {a:Option Addr} {len cap:Nat} {zs:List Int}
  (h:(a=none∧len=0∧cap=0∧zs=[]) ∨
   ∃ x,a=some x∧len≤cap∧cap≤maxLen∧zs.length=cap∧(∀ i,i<zs.length→w.cell? (x.add i)=some (.int k (zs.getD i 0)))∧∀ n∈zs,(Lit.int k n).wf=true) :
  ∃ l:List Nat,l.length=len∧Rd k w w.heap.size a cap l∧∀ x∈l,x<m:=by
 rcases h with ⟨rfl,rfl,rfl,rfl⟩ | ⟨x,rfl,hl,hm,hz,hc,hwf⟩
 ·exact ⟨[],rfl,Rd.nil_ k w _,fun x hx=>by cases hx⟩
 ·refine ⟨(zs.take len).map Int.toNat,by simp;omega,⟨by simp;omega,by unfold maxLen at hm;exact hm,fun hn=>?_⟩,fun y hy=>?_⟩
  ·have h0:0<zs.length:=by simp at hn;omega
   obtain ⟨b,off,sp⟩:=x
   have hc0:=hc 0 h0
   have hsp:sp=none:=by simpa [Addr.add] using World.cell?_spot hc0
   subst hsp
   have hadd:∀ j,(⟨b,off,none⟩:Addr).add j=⟨b,off+j,none⟩:=fun j=>by unfold Addr.add;split <;> simp_all
   refine ⟨b,off,rfl,?_,fun j hj=>?_⟩
   ·have:=World.block_lt_of_cell? w _ hc0
    rw [hadd] at this
    exact this
   ·have hj':j<len∧j<zs.length:=by simp at hj;omega
    rw [←hadd,hc j hj'.2]
    have hw:=(hk zs[j] (hwf _ (List.getElem_mem hj'.2))).1
    simp [List.getD,hj'.1,hj'.2,Int.toNat_of_nonneg hw]
  ·obtain ⟨z,hz',rfl⟩:=List.mem_map.1 hy
   have:=hk z (hwf z (List.mem_of_mem_take hz'))
   omega
theorem wf_u8 (n:Int) (h:(Lit.int .u8 n).wf=true):0≤n∧n<((256:Nat):Int):=by
 have:=bounds_u8 h
 omega
theorem wf_u32 (n:Int) (h:(Lit.int .u32 n).wf=true):0≤n∧n<((4294967296:Nat):Int):=by
 have:=bounds_u32 h
 omega
end Go.Proofs.YtflfdglpljodbaaDoor
namespace Go.Proofs.YtflfdglpljodbaaDoor
open Go.RowKit Go.ChangeShapes Go.WideShapes
set_option linter.unusedVariables false
theorem rd1_open {H:Type} {enc:TypeId×Value→H} {w:World} {base:Nat} {held:Bool} {fuel:Nat} {v:Value} {x:DataW H×List MemPlace} (h:DataW.trod enc Tryd.prog w base (fun _=>true) held fuel 46 v.cells.toList=some x) (hv:∃ a n c,v = .slice a n c) :
  ∃ (A:Option Addr) (n c:Nat) (l:List Nat),v = .slice A n c∧l.length=n∧Rd .u8 w w.heap.size A c l∧∀ x∈l,x<256:=by
 obtain ⟨a,n,c,rfl⟩:=hv
 rcases open_ints Tryd.underlying46 Tryd.underlying5 (by kernel_rfl) h with ⟨hcs,_⟩ | ⟨x,l,c',zs,hcs,_,hl,hm,hz,_,hcell,hwz⟩
 ·simp [Value.cells] at hcs
  obtain ⟨rfl,rfl,rfl⟩:=hcs
  exact ⟨none,0,0,[],rfl,rfl,Rd.nil_ _ _ _,fun x hx=>by cases hx⟩
 ·simp [Value.cells] at hcs
  obtain ⟨rfl,rfl,rfl⟩:=hcs
  obtain ⟨b,h1,h2,h3⟩:=rd_of_row wf_u8 (w:=w) (a:=some x) (len:=n) (cap:=c) (zs:=zs) (.inr ⟨x,rfl,hl,hm,by simpa using hz,hcell,hwz⟩)
  exact ⟨_,_,_,b,rfl,h1,h2,h3⟩
end Go.Proofs.YtflfdglpljodbaaDoor
namespace Go.Proofs.YtflfdglpljodbaaDoor
open Go.RowKit Go.ChangeShapes Go.WideShapes
set_option linter.unusedVariables false
theorem nat_open {H:Type} {enc:TypeId×Value→H} {w:World} {base:Nat} {held:Bool} {fuel:Nat} {v:Value} {x:DataW H×List MemPlace} (h:DataW.trod enc Tryd.prog w base (fun _=>true) held fuel 24 v.cells.toList=some x) (hv:∃ a n c,v = .slice a n c) :
  ∃ (A:Option Addr) (n c:Nat) (l:List Nat),v = .slice A n c∧l.length=n∧Rd .u32 w w.heap.size A c l∧Dg l:=by
 obtain ⟨a,n,c,rfl⟩:=hv
 rcases open_ints Tryd.underlying24 Tryd.underlying22 (by kernel_rfl) h with ⟨hcs,_⟩ | ⟨x,l,c',zs,hcs,_,hl,hm,hz,_,hcell,hwz⟩
 ·simp [Value.cells] at hcs
  obtain ⟨rfl,rfl,rfl⟩:=hcs
  exact ⟨none,0,0,[],rfl,rfl,Rd.nil_ _ _ _,fun x hx=>by cases hx⟩
 ·simp [Value.cells] at hcs
  obtain ⟨rfl,rfl,rfl⟩:=hcs
  obtain ⟨b,h1,h2,h3⟩:=rd_of_row wf_u32 (w:=w) (a:=some x) (len:=n) (cap:=c) (zs:=zs) (.inr ⟨x,rfl,hl,hm,by simpa using hz,hcell,hwz⟩)
  exact ⟨_,_,_,b,rfl,h1,h2,h3⟩
theorem slice_formC {H:Type} {enc:TypeId×Value→H} {P:Program} {w:World} {base:Nat} {sp:Nat→Bool} {held:Bool} {fuel:Nat} {t e:TypeId} {v:Value} {x:DataW H×List MemPlace} (ht:P.underlying t=some (.slice e)) (h:DataW.trod enc P w base sp held fuel t [v]=some x):∃ a n c,v = .slice a n c:=by
 rcases Deep.open_slice ht h with ⟨hcs,_⟩ | ⟨a,len,cap,m,n,D,Pl,hcs,_⟩
 ·exact ⟨none,0,0,by simpa using hcs⟩
 ·exact ⟨some a,len,cap,by simpa using hcs⟩
theorem cells_nat:Tryd.prog.cellsOf 24 = 1:=by kernel_rfl
theorem cells_bool:Tryd.prog.cellsOf 4 = 1:=by kernel_rfl
theorem cells_point:Tryd.prog.cellsOf 26 = 3:=by kernel_rfl
theorem pt_openT {H:Type} {enc:TypeId×Value→H} {w:World} {base:Nat} {held:Bool} {fuel:Nat} {v0 v1 v2:Value} {x:DataW H×List MemPlace} (h:DataW.trod enc Tryd.prog w base (fun _=>true) held fuel 26 [v0,v1,v2]=some x) :
  ∃ (xa:Option Addr) (xc:Nat) (xl:List Nat) (ya:Option Addr) (yc:Nat) (yl:List Nat) (inf:Bool),v0 = .slice xa xl.length xc∧v1 = .slice ya yl.length yc∧v2 = .bool inf∧Rd .u32 w w.heap.size xa xc xl∧Dg xl∧Rd .u32 w w.heap.size ya yc yl∧Dg yl:=by
 obtain ⟨xs,k,_,hx,_,hlen,hf⟩:=DataW.trod_struct Tryd.underlying26 h
 obtain ⟨y0,y1,y2,rfl⟩:∃ y0 y1 y2,xs=[y0,y1,y2]:=by
  match xs,hlen with
  | [y0,y1,y2],_=>exact ⟨y0,y1,y2,rfl⟩
 have g0:=hf 0 _ rfl
 have g1:=hf 1 _ rfl
 have g2:=hf 2 _ rfl
 simp [cells_nat,cells_bool] at g0 g1 g2
 obtain ⟨a0,n0,c0,rfl⟩:=slice_formC Tryd.underlying24 g0
 obtain ⟨a1,n1,c1,rfl⟩:=slice_formC Tryd.underlying24 g1
 obtain ⟨b,e2,_⟩:=DataW.trod_bool Tryd.underlying4 g2
 obtain ⟨A0,m0,d0,xl,f0,hl0,hr0,hd0⟩:=nat_open (v:=.slice a0 n0 c0) g0 ⟨_,_,_,rfl⟩
 obtain ⟨A1,m1,d1,yl,f1,hl1,hr1,hd1⟩:=nat_open (v:=.slice a1 n1 c1) g1 ⟨_,_,_,rfl⟩
 injection f0 with f0a f0b f0c
 injection f1 with f1a f1b f1c
 subst f0a f0b f0c f1a f1b f1c
 exact ⟨a0,c0,xl,a1,c1,yl,b,by rw [←hl0],by rw [←hl1],by simpa using e2,hr0,hd0,hr1,hd1⟩
structure Pt where
 (xa:Option Addr) (xc:Nat) (xl:List Nat) (ya:Option Addr) (yc:Nat) (yl:List Nat) (inf:Bool)
def ptcell (p:Pt):Array Value:=#[.slice p.xa p.xl.length p.xc,.slice p.ya p.yl.length p.yc,.bool p.inf]
structure PtP (p:Pt) (w:World):Prop where
 (hx:Rd .u32 w w.heap.size p.xa p.xc p.xl) (dx:Dg p.xl) (hy:Rd .u32 w w.heap.size p.ya p.yc p.yl) (dy:Dg p.yl)
end Go.Proofs.YtflfdglpljodbaaDoor
namespace Go.Proofs.YtflfdglpljodbaaDoor
open Go.RowKit Go.ChangeShapes Go.WideShapes
set_option linter.unusedVariables false
theorem cells_int:Tryd.prog.cellsOf 3 = 1:=by kernel_rfl
theorem cells_u32:Tryd.prog.cellsOf 22 = 1:=by kernel_rfl
theorem cells_key:Tryd.prog.cellsOf 45 = 6:=by kernel_rfl
theorem cells_pair:Tryd.prog.cellsOf 48 = 2:=by kernel_rfl
theorem array6 {α:Type} {cs:Array α} (h:cs.size=6):∃ c0 c1 c2 c3 c4 c5,cs=#[c0,c1,c2,c3,c4,c5]:=by
 obtain ⟨l⟩:=cs
 rcases l with _ | ⟨c0,_ | ⟨c1,_ | ⟨c2,_ | ⟨c3,_ | ⟨c4,_ | ⟨c5,_ | ⟨c6,r⟩⟩⟩⟩⟩⟩⟩ <;> first | (simp at h;done) | exact ⟨c0,c1,c2,c3,c4,c5,rfl⟩
theorem array2 {α:Type} {cs:Array α} (h:cs.size=2):∃ c0 c1,cs=#[c0,c1]:=by
 obtain ⟨l⟩:=cs
 rcases l with _ | ⟨c0,_ | ⟨c1,_ | ⟨c2,r⟩⟩⟩ <;> first | (simp at h;done) | exact ⟨c0,c1,rfl⟩
structure Ke where
 (al:Int) (na:Option Addr) (nc:Nat) (nl:List Nat) (en:Int) (xa:Option Addr) (xc:Nat) (xl:List Nat) (ya:Option Addr) (yc:Nat) (yl:List Nat) (inf:Bool)
def kecell (k:Ke):Array Value:=#[.int .i64 k.al,.slice k.na k.nl.length k.nc,.int .u32 k.en,.slice k.xa k.xl.length k.xc,.slice k.ya k.yl.length k.yc,.bool k.inf]
structure KeP (k:Ke) (w:World):Prop where
 (hn:Rd .u32 w w.heap.size k.na k.nc k.nl) (hx:Rd .u32 w w.heap.size k.xa k.xc k.xl) (dx:Dg k.xl) (hy:Rd .u32 w w.heap.size k.ya k.yc k.yl) (dy:Dg k.yl)
structure Pa where
 (ra:Option Addr) (rc:Nat) (rl:List Nat) (sa:Option Addr) (sc:Nat) (sl:List Nat)
def pacell (p:Pa):Array Value:=#[.slice p.ra p.rl.length p.rc,.slice p.sa p.sl.length p.sc]
structure PaP (p:Pa) (w:World):Prop where
 (hr:Rd .u32 w w.heap.size p.ra p.rc p.rl) (dr:Dg p.rl) (hs:Rd .u32 w w.heap.size p.sa p.sc p.sl) (ds:Dg p.sl)
theorem key_open {H:Type} {enc:TypeId×Value→H} {w:World} {base b0:Nat} {held:Bool} {r:Reach} {v:Value} {d:DataW H} {p:List MemPlace} (hv:Value.okWide Tryd.prog w r b0 45 v) (h:DataW.Trod enc Tryd.prog w base (fun _=>true) held 45 v d p) :
  ∃ k:Ke,v = .agg (kecell k)∧KeP k w:=by
 obtain ⟨cs,rfl,hsz⟩:=okWide_struct Tryd.underlying45 hv
 obtain ⟨v0,v1,v2,v3,v4,v5,rfl⟩:=array6 (hsz.trans cells_key)
 obtain ⟨fuel,hf⟩:=h
 obtain ⟨xs,k,_,hx,_,hlen,hfs⟩:=DataW.trod_struct Tryd.underlying45 hf
 obtain ⟨y0,y1,y2,y3,rfl⟩:∃ y0 y1 y2 y3,xs=[y0,y1,y2,y3]:=by
  match xs,hlen with
  | [y0,y1,y2,y3],_=>exact ⟨y0,y1,y2,y3,rfl⟩
 have g0:=hfs 0 _ rfl
 have g1:=hfs 1 _ rfl
 have g2:=hfs 2 _ rfl
 have g3:=hfs 3 _ rfl
 simp [Value.cells,cells_int,cells_nat,cells_u32,cells_point] at g0 g1 g2 g3
 obtain ⟨i0,e0,_,_⟩:=DataW.trod_int Tryd.underlying3 g0
 obtain ⟨a1,n1,c1,rfl⟩:=slice_formC Tryd.underlying24 g1
 obtain ⟨i2,e2,_,_⟩:=DataW.trod_int Tryd.underlying22 g2
 obtain ⟨A1,m1,d1,n,f1,hl1,hr1,hd1⟩:=nat_open (v:=.slice a1 n1 c1) g1 ⟨_,_,_,rfl⟩
 obtain ⟨xa,xc,xl,ya,yc,yl,inf,p0,p1,p2,hrx,hdx,hry,hdy⟩:=pt_openT g3
 injection f1 with f1a f1b f1c
 subst f1a f1b f1c
 have e0:v0 = .int .i64 i0:=by simpa using e0
 have e2:v2 = .int .u32 i2:=by simpa using e2
 subst e0 e2 p0 p1 p2
 refine ⟨⟨i0,a1,c1,n,i2,xa,xc,xl,ya,yc,yl,inf⟩,?_,hr1,hrx,hdx,hry,hdy⟩
 simp only [kecell]
 rw [hl1]
theorem pair_open {H:Type} {enc:TypeId×Value→H} {w:World} {base b0:Nat} {held:Bool} {r:Reach} {v:Value} {d:DataW H} {p:List MemPlace} (hv:Value.okWide Tryd.prog w r b0 48 v) (h:DataW.Trod enc Tryd.prog w base (fun _=>true) held 48 v d p) :
  ∃ k:Pa,v = .agg (pacell k)∧PaP k w:=by
 obtain ⟨cs,rfl,hsz⟩:=okWide_struct Tryd.underlying48 hv
 obtain ⟨v0,v1,rfl⟩:=array2 (hsz.trans cells_pair)
 obtain ⟨fuel,hf⟩:=h
 obtain ⟨xs,k,_,hx,_,hlen,hfs⟩:=DataW.trod_struct Tryd.underlying48 hf
 obtain ⟨y0,y1,rfl⟩:∃ y0 y1,xs=[y0,y1]:=by
  match xs,hlen with
  | [y0,y1],_=>exact ⟨y0,y1,rfl⟩
 have g0:=hfs 0 _ rfl
 have g1:=hfs 1 _ rfl
 simp [Value.cells,cells_nat] at g0 g1
 obtain ⟨a0,n0,c0,rfl⟩:=slice_formC Tryd.underlying24 g0
 obtain ⟨a1,n1,c1,rfl⟩:=slice_formC Tryd.underlying24 g1
 obtain ⟨A0,m0,d0,r0,f0,hl0,hr0,hd0⟩:=nat_open (v:=.slice a0 n0 c0) g0 ⟨_,_,_,rfl⟩
 obtain ⟨A1,m1,d1,s0,f1,hl1,hr1,hd1⟩:=nat_open (v:=.slice a1 n1 c1) g1 ⟨_,_,_,rfl⟩
 injection f0 with f0a f0b f0c
 injection f1 with f1a f1b f1c
 subst f0a f0b f0c f1a f1b f1c
 refine ⟨⟨a0,c0,r0,a1,c1,s0⟩,?_,hr0,hd0,hr1,hd1⟩
 simp only [pacell]
 rw [hl0,hl1]
end Go.Proofs.YtflfdglpljodbaaDoor
