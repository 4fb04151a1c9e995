/- Words and laws for the statement, part 31. -/
import Derived.BigRegion
import Derived.BigQuiet
import Derived.OpenShut
import Derived.Test.YtcibjcgipfpniaaGreatDoorChecked
import Derived.ChangeSlices
import Derived.ChangeArms
import Derived.WideShapes
import Derived.Deep.Slices
import Derived.Test.YtcibjcgipfpniaaGreatDoorRows
import Derived.Lib.LaidU8T
import Derived.Lay
import Derived.LaidMore
import Derived.LaidOnce
import Derived.MakeChecks
import Derived.Test.YtcibjcgipfpniaaGreatDoorG01
import Derived.Test.YtcibjcgipfpniaaGreatDoorG13
import Derived.Test.YtcibjcgipfpniaaGreatDoorG22
import Derived.Test.YtcibjcgipfpniaaGreatDoorG26
import Derived.Test.YtcibjcgipfpniaaGreatDoorG27
import Derived.Test.YtcibjcgipfpniaaGreatDoorG29
import Derived.Test.YtcibjcgipfpniaaGreatDoorG30
namespace Go.Proofs.YtcibjcgipfpniaaGreatDoor
open Go.RowKit
set_option linter.unusedVariables false
set_option linter.unusedSimpArgs false

theorem SizePost.any {w w':World} {o:Option (Nat×Nat)} {e:Ending} (h:SizePost w o e w'):∃ (k u:Int) (t:Bool),e = .returned (.tuple #[.int .i64 k,.int .i64 u,.bool t])∧Below w.heap.size w w':=by
 rcases o with _ | ⟨k,u⟩
 ·obtain ⟨k,u,h1,h2⟩:=h
  exact ⟨k,u,false,h1,h2⟩
 ·exact ⟨_,_,true,h.1,h.2⟩
/-- Where the document's reading stands. -/
def Sr (w V:World) (B Br x:Nat) (k y:Int) (bv kv:Value):Prop :=
 Holds V Br 72 #[.int .i64 k,.int .i64 y]∧Holds V w.heap.size 32 #[.int .u8 0,.slice none 0 0,.slice none 0 0]∧Holds V (w.heap.size+1) 32 #[.int .u8 (x:Int),bv,kv]∧w.grownBy V (some Br)∧w.heap.size+2≤V.heap.size∧B≤Br∧Br<w.heap.size
def OneTells (w w':World) (A:Option Addr) (n c:Nat) (t0:Int) (a1:Option Addr) (n1 c1:Nat) (a2:Option Addr) (n2 c2:Nat) (S:Option Addr) (s t:Nat) (k y:Int):Except Nat (Tr×Nat×Nat)→Prop
 | .error x=>y=(x:Int)∧s<n
 | .ok (t',m,cc)=>y=0∧k=(cc:Int)∧S=dropA A m c∧s=n - m∧t=c - m∧∃ lt:Lt,lcell lt=[.int .u8 t0,.slice a1 n1 c1,.slice a2 n2 c2]∧lt.t=t'∧TrIn w' w.heap.size w'.heap.size lt
def OnePost (w:World) (Br:Nat) (A:Option Addr) (n c:Nat) (r:Except Nat (Tr×Nat×Nat)) (e:Ending) (w':World):Prop :=
 ∃ (t0:Int) (a1:Option Addr) (n1 c1:Nat) (a2:Option Addr) (n2 c2:Nat) (S:Option Addr) (s t:Nat) (k y:Int),e = .returned (.tuple #[.agg #[.int .u8 t0,.slice a1 n1 c1,.slice a2 n2 c2],.slice S s t])∧w.grownBy w' (some Br)∧Holds w' Br 72 #[.int .i64 k,.int .i64 y]∧OneTells w w' A n c t0 a1 n1 c1 a2 n2 c2 S s t k y r
section
variable {w w0 V V':World} {B Br x:Nat} {k y:Int} {bv kv:Value}
theorem sr_start (hg:w.grownBy w0 (some Br)) (hs:w0.heap.size=w.heap.size) (h0:Holds w0 Br 72 #[.int .i64 k,.int .i64 y]) (hB:B≤Br) (hBs:Br<w.heap.size) :
  Sr w ((w0.alloc (.cells #[.int .u8 0,.slice none 0 0,.slice none 0 0] 32)).alloc (.cells #[.int .u8 (x:Int),.slice none 0 0,.slice none 0 0] 32)) B Br x k y (.slice none 0 0) (.slice none 0 0):=by
 have h1:Holds (w0.alloc (.cells #[.int .u8 0,.slice none 0 0,.slice none 0 0] 32)) w.heap.size 32 #[.int .u8 0,.slice none 0 0,.slice none 0 0]:=by
  have h:=Holds.fresh w0 32 #[.int .u8 0,.slice none 0 0,.slice none 0 0]
  rw [hs] at h
  exact h
 have hs1:(w0.alloc (.cells #[.int .u8 0,.slice none 0 0,.slice none 0 0] 32)).heap.size=w.heap.size+1:=by rw [←hs];simp
 have h2:Holds ((w0.alloc (.cells #[.int .u8 0,.slice none 0 0,.slice none 0 0] 32)).alloc (.cells #[.int .u8 (x:Int),.slice none 0 0,.slice none 0 0] 32)) (w.heap.size+1) 32 #[.int .u8 (x:Int),.slice none 0 0,.slice none 0 0]:=by
  have h:=Holds.fresh (w0.alloc (.cells #[.int .u8 0,.slice none 0 0,.slice none 0 0] 32)) 32 #[.int .u8 (x:Int),.slice none 0 0,.slice none 0 0]
  rw [hs1] at h
  exact h
 refine ⟨(h0.alloc _).alloc _,h1.alloc _,h2,(hg.trans (World.grownBy_alloc _ _ _)).trans (World.grownBy_alloc _ _ _),?_,hB,hBs⟩
 show _≤(World.heap _).size
 have:((w0.alloc (.cells #[.int .u8 0,.slice none 0 0,.slice none 0 0] 32)).alloc (.cells #[.int .u8 (x:Int),.slice none 0 0,.slice none 0 0] 32)).heap.size=w.heap.size+2:=by
  show (Array.push _ _).size=_
  rw [Array.size_push,hs1]
 omega
theorem Sr.err (h:Sr w V B Br x k y bv kv) (y':Int):Sr w (V.setCell ⟨Br,1,none⟩ (.int .i64 y')) B Br x k y' bv kv:=by
 obtain ⟨h1,h2,h3,h4,h7,h8,h9⟩:=h
 exact ⟨h1.stored 1 _,h2.aside (by show w.heap.size≠Br;omega) _,h3.aside (by show w.heap.size+1≠Br;omega) _,one_setCell h4 1 _,by show w.heap.size+2≤(V.heap.modify _ _).size;rw [Array.size_modify];exact h7,h8,h9⟩
theorem Sr.bodyv (h:Sr w V B Br x k y bv kv) (v:Value):Sr w (V.setCell ⟨w.heap.size+1,1,none⟩ v) B Br x k y v kv:=by
 obtain ⟨h1,h2,h3,h4,h7,h8,h9⟩:=h
 exact ⟨h1.aside (by show Br≠w.heap.size+1;omega) _,h2.aside (by show w.heap.size≠w.heap.size+1;omega) _,h3.stored 1 _,grown_new h4 (by show w.heap.size≤w.heap.size+1;omega) _,by show w.heap.size+2≤(V.heap.modify _ _).size;rw [Array.size_modify];exact h7,h8,h9⟩
theorem Sr.kidsv (h:Sr w V B Br x k y bv kv) (v:Value):Sr w (V.setCell ⟨w.heap.size+1,2,none⟩ v) B Br x k y bv v:=by
 obtain ⟨h1,h2,h3,h4,h7,h8,h9⟩:=h
 exact ⟨h1.aside (by show Br≠w.heap.size+1;omega) _,h2.aside (by show w.heap.size≠w.heap.size+1;omega) _,h3.stored 2 _,grown_new h4 (by show w.heap.size≤w.heap.size+1;omega) _,by show w.heap.size+2≤(V.heap.modify _ _).size;rw [Array.size_modify];exact h7,h8,h9⟩
theorem Sr.aside (h:Sr w V B Br x k y bv kv) {p:Addr} (hp:w.heap.size+2≤p.block) (v:Value):Sr w (V.setCell p v) B Br x k y bv kv:=by
 obtain ⟨h1,h2,h3,h4,h7,h8,h9⟩:=h
 exact ⟨h1.aside (by omega) _,h2.aside (by omega) _,h3.aside (by omega) _,grown_new h4 (by omega) _,by show w.heap.size+2≤(V.heap.modify _ _).size;rw [Array.size_modify];exact h7,h8,h9⟩
theorem Sr.grown {row:Option Nat} (h:Sr w V B Br x k y bv kv) (hb:V.grownBy V' row) (hr:∀ g,row=some g→w.heap.size+2≤g):Sr w V' B Br x k y bv kv:=by
 obtain ⟨h1,h2,h3,h4,h7,h8,h9⟩:=h
 have hne:∀ g,g<w.heap.size+2→some g≠row:=fun g hg e=>by have:=hr g e.symm;omega
 exact ⟨h1.grown hb (hne _ (by omega)),h2.grown hb (hne _ (by omega)),h3.grown hb (hne _ (by omega)),h4.andThen hb fun j hj=>.inl (by have:=hr j hj;omega),Nat.le_trans h7 hb.size,h8,h9⟩
/-- A call has turned the reader. -/
theorem Sr.turned {k2 y2:Int} (h:Sr w V B Br x k y bv kv) (hb:V.grownBy V' (some Br)) (h1':Holds V' Br 72 #[.int .i64 k2,.int .i64 y2]):Sr w V' B Br x k2 y2 bv kv:=by
 obtain ⟨h1,h2,h3,h4,h7,h8,h9⟩:=h
 exact ⟨h1',h2.grown hb (fun e=>by injection e with e;omega),h3.grown hb (fun e=>by injection e with e;omega),h4.trans hb,Nat.le_trans h7 hb.size,h8,h9⟩
theorem Sr.out (h:Sr w V B Br x k y bv kv) (v0 v1 v2:Value) :
  Holds (((V.setCell ⟨w.heap.size,0,none⟩ v0).setCell ⟨w.heap.size,1,none⟩ v1).setCell ⟨w.heap.size,2,none⟩ v2) w.heap.size 32 #[v0,v1,v2] ∧
  Holds (((V.setCell ⟨w.heap.size,0,none⟩ v0).setCell ⟨w.heap.size,1,none⟩ v1).setCell ⟨w.heap.size,2,none⟩ v2) Br 72 #[.int .i64 k,.int .i64 y] ∧
  w.grownBy (((V.setCell ⟨w.heap.size,0,none⟩ v0).setCell ⟨w.heap.size,1,none⟩ v1).setCell ⟨w.heap.size,2,none⟩ v2) (some Br) ∧
  (((V.setCell ⟨w.heap.size,0,none⟩ v0).setCell ⟨w.heap.size,1,none⟩ v1).setCell ⟨w.heap.size,2,none⟩ v2).heap.size=V.heap.size ∧
  ∀ g,g≠w.heap.size→(((V.setCell ⟨w.heap.size,0,none⟩ v0).setCell ⟨w.heap.size,1,none⟩ v1).setCell ⟨w.heap.size,2,none⟩ v2).heap[g]?=V.heap[g]?:=by
 obtain ⟨h1,h2,h3,h4,h7,h8,h9⟩:=h
 have ne:Br≠w.heap.size:=by omega
 refine ⟨((h2.stored 0 v0).stored 1 v1).stored 2 v2,((h1.aside (p:=⟨w.heap.size,0,none⟩) ne _).aside (p:=⟨w.heap.size,1,none⟩) ne _).aside (p:=⟨w.heap.size,2,none⟩) ne _,grown_new (grown_new (grown_new h4 (Nat.le_refl _) _) (Nat.le_refl _) _) (Nat.le_refl _) _,?_,fun g hg=>?_⟩
 ·simp [World.setCell]
 ·rw [Below.heap_setCell _ ⟨w.heap.size,2,none⟩ _ g hg,Below.heap_setCell _ ⟨w.heap.size,1,none⟩ _ g hg,Below.heap_setCell _ ⟨w.heap.size,0,none⟩ _ g hg]
theorem one_err {A:Option Addr} {n c:Nat} {r:Except Nat (Tr×Nat×Nat)} {x':Nat} (h:Sr w V B Br x k y bv kv) (a1:Option Addr) (n1 c1:Nat) (a2:Option Addr) (n2 c2:Nat) (S:Option Addr) (s t:Nat) (hr:r = .error x') (hy:y=(x':Int)) (hs:s<n) :
  OnePost w Br A n c r (.returned (.tuple #[.agg #[.int .u8 (x:Int),.slice a1 n1 c1,.slice a2 n2 c2],.slice S s t])) (((V.setCell ⟨w.heap.size,0,none⟩ (.int .u8 (x:Int))).setCell ⟨w.heap.size,1,none⟩ (.slice a1 n1 c1)).setCell ⟨w.heap.size,2,none⟩ (.slice a2 n2 c2)):=by
 obtain ⟨_,r2,r3,_,_⟩:=h.out (.int .u8 (x:Int)) (.slice a1 n1 c1) (.slice a2 n2 c2)
 subst hr
 exact ⟨_,_,_,_,_,_,_,_,_,_,_,_,rfl,r3,r2,hy,hs⟩
theorem OnePost.drew {A:Option Addr} {n c:Nat} {r:Except Nat (Tr×Nat×Nat)} {e:Ending} (h:OnePost w Br A n c r e V):OnePost w Br A n c r e V.drew:=by
 obtain ⟨t0,a1,n1,c1,a2,n2,c2,S,s,t,k,y,he,hg,hh,ht⟩:=h
 refine ⟨t0,a1,n1,c1,a2,n2,c2,S,s,t,k,y,he,one_drewN hg 1,hh,?_⟩
 rcases r with x | ⟨t',m,cc⟩
 ·exact ht
 ·obtain ⟨q1,q2,q3,q4,q5,lt,q6,q7,q8⟩:=ht
  exact ⟨q1,q2,q3,q4,q5,lt,q6,q7,fun w2 h2=>q8 w2 h2⟩
end
def sliceLen:Value→Nat
 | .slice _ n _=>n
 | _=>0
def ModeA (w V:World) (B d k0:Nat) (Lb:List Nat) (spec:Except Nat (List Tr×Nat)) (A':Option Addr) (n' c':Nat) (k y:Int) (K:Option Addr) (ln:Nat) (vs:List Value):Prop :=
 y=0∧∃ (cnt':Nat) (l:List Lt),k=(cnt':Int)∧vs=l.flatMap lcell∧l.length=ln∧Rd .u8 w B A' c' (Lb.drop (k0 - n'))∧cnt'≤600∧ln+n'≤k0∧Apart V (w.heap.size+2) K l∧spec=preT (l.map Lt.t) (rds (Lb.drop (k0 - n')) (d+1) cnt')
def RelO (w:World) (B Br x d k0:Nat) (Lb:List Nat) (spec:Except Nat (List Tr×Nat)) (v:Value) (V:World):Prop :=
 ∃ (A':Option Addr) (n' c':Nat) (k y:Int) (K:Option Addr) (kc ln:Nat) (vs:List Value),v = .slice A' n' c'∧Sr w V B Br x k y (.slice none 0 0) (.slice K ln kc)∧OwnV 32 3 V K kc ln vs∧(∀ g,blockOf K=some g→w.heap.size+2≤g)∧ln≤k0∧n'≤k0∧(ModeA w V B d k0 Lb spec A' n' c' k y K ln vs∨∃ y':Nat,y=(y':Int)∧y'≠0∧spec = .error y')
set_option maxRecDepth 100000 in
set_option maxHeartbeats 8000000 in
theorem one_N:∀ (N:Nat) (w:World) (B Br:Nat) (A:Option Addr) (c n d cnt:Nat) (L:List Nat),n<N→Rd .u8 w B A c L→L.length=n→0<n→n≤12000→(∀ x∈L,x<256)→B≤Br→Holds w Br 72 #[.int .i64 (cnt:Int),.int .i64 0]→d≤13→cnt≤600 →
  Calls Tryz.prog 55 #[.pointer (some ⟨Br,0,none⟩),.slice A n c,.int .i64 (d:Int)] w (OnePost w Br A n c (rd L d cnt)):=by
 intro N
 induction N with
 | zero=>intro w B Br A c n d cnt L h;omega
 | succ N ih =>
  intro w B Br A c n d cnt L hN hR hn hn0 h12 ho hB hH hd hc
  have hlc:n≤c:=by rw [←hn];exact hR.1
  have hc63:=hR.2.1
  obtain ⟨b,off,rfl,hb,hcs⟩:=hR.2.2 (by omega)
  rcases L with _ | ⟨x,L⟩
  ·rw [List.length_nil] at hn;omega
  have hx:x<256:=ho x (by simp)
  have e0:w.cell? ⟨b,off,none⟩=some (.int .u8 (x:Int)):=hcs 0 (by rw [List.length_cons];omega)
  have hBs:Br<w.heap.size:=hH.lt
  have HLL:Hid (L.length=n - 1):=Lib.hid (by rw [List.length_cons] at hn;omega)
  have HO:Hid (∀ y∈L,y<256):=Lib.hid fun y hy=>ho y (List.mem_cons_of_mem _ hy)
  obtain ⟨D,hD⟩:∃ D,D=dropA (some ⟨b,off,none⟩) 1 c:=⟨_,rfl⟩
  have HD:=Lib.hid hD
  have HDR:Hid (∀ V:World,(Instr.sliceAt 24 (.slice (some ⟨b,off,none⟩) n c) (some (.int .i64 1)) none none).run Tryz.prog V = .ok (.slice D (n - 1) (c - 1)) V):=Lib.hid fun V=>by rw [hD];exact run_drop _ _ n c 1 (by omega) hlc
  have HRW:Hid (Rd .u8 w B D (c - 1) L):=Lib.hid (by
   have:=hR.drop 1 (by simp)
   rw [←hD] at this
   exact this)
  have HSZ:Hid (∀ (V:World) (k y:Int),Sr w V B Br x k y (.slice none 0 0) (.slice none 0 0)→Calls Tryz.prog 97 #[.slice D (n - 1) (c - 1)] V (SizePost V (szOf L))):=Lib.hid fun V k y hs =>
   size'_any V B D (c - 1) (n - 1) L (HRW.out.under (below_br hs.2.2.2.1 hB (by omega))) HLL.out (by omega) HO.out (by have:=hs.2.2.2.2.1;omega)
  have f2:(w.alloc (.cells #[.int .u8 0,.slice none 0 0,.slice none 0 0] 32)).cell? ⟨b,off,none⟩=some (.int .u8 (x:Int)):=by rw [World.cell?_alloc_past _ b off (by omega)];exact e0
  have hh2:Holds ((w.alloc (.cells #[.int .u8 0,.slice none 0 0,.slice none 0 0] 32)).alloc (.cells #[.int .u8 (x:Int),.slice none 0 0,.slice none 0 0] 32)) Br 72 #[.int .i64 (cnt:Int),.int .i64 0]:=(hH.alloc _).alloc _
  have hs3:Sr w (((w.setCell ⟨Br,0,none⟩ (.int .i64 ((cnt:Int)+1))).alloc (.cells #[.int .u8 0,.slice none 0 0,.slice none 0 0] 32)).alloc (.cells #[.int .u8 (x:Int),.slice none 0 0,.slice none 0 0] 32)) B Br x ((cnt:Int)+1) 0 (.slice none 0 0) (.slice none 0 0):=sr_start (one_setCell (World.grownBy.refl w _) 0 _) (by simp [World.setCell]) (hH.stored 0 _) hB hBs
  have g0:(((w.alloc (.cells #[.int .u8 0,.slice none 0 0,.slice none 0 0] 32)).alloc (.cells #[.int .u8 (x:Int),.slice none 0 0,.slice none 0 0] 32))).cell? ⟨Br,0,none⟩=some (.int .i64 (cnt:Int)):=hh2.cell 0
  have g1:(((w.alloc (.cells #[.int .u8 0,.slice none 0 0,.slice none 0 0] 32)).alloc (.cells #[.int .u8 (x:Int),.slice none 0 0,.slice none 0 0] 32))).frozen? ⟨Br,0,none⟩=false:=hh2.open_ 0
  have g2:((((w.setCell ⟨Br,0,none⟩ (.int .i64 ((cnt:Int)+1))).alloc (.cells #[.int .u8 0,.slice none 0 0,.slice none 0 0] 32)).alloc (.cells #[.int .u8 (x:Int),.slice none 0 0,.slice none 0 0] 32))).cell? ⟨Br,0,none⟩=some (.int .i64 ((cnt:Int)+1)):=hs3.1.cell 0
  have g3:((((w.setCell ⟨Br,0,none⟩ (.int .i64 ((cnt:Int)+1))).alloc (.cells #[.int .u8 0,.slice none 0 0,.slice none 0 0] 32)).alloc (.cells #[.int .u8 (x:Int),.slice none 0 0,.slice none 0 0] 32))).cell? ⟨Br,1,none⟩=some (.int .i64 0):=hs3.1.cell 1
  have g4:((((w.setCell ⟨Br,0,none⟩ (.int .i64 ((cnt:Int)+1))).alloc (.cells #[.int .u8 0,.slice none 0 0,.slice none 0 0] 32)).alloc (.cells #[.int .u8 (x:Int),.slice none 0 0,.slice none 0 0] 32))).frozen? ⟨Br,1,none⟩=false:=hs3.1.open_ 1
  have g5:((((w.setCell ⟨Br,0,none⟩ (.int .i64 ((cnt:Int)+1))).alloc (.cells #[.int .u8 0,.slice none 0 0,.slice none 0 0] 32)).alloc (.cells #[.int .u8 (x:Int),.slice none 0 0,.slice none 0 0] 32))).cell? ⟨b,off,none⟩=some (.int .u8 (x:Int)):=by rw [(below_br hs3.2.2.2.1 hB (by omega)).cell (p:=⟨b,off,none⟩) hb];exact e0
  have g6:((((w.setCell ⟨Br,0,none⟩ (.int .i64 ((cnt:Int)+1))).alloc (.cells #[.int .u8 0,.slice none 0 0,.slice none 0 0] 32)).alloc (.cells #[.int .u8 (x:Int),.slice none 0 0,.slice none 0 0] 32))).frozen? ⟨Br,0,none⟩=false:=hs3.1.open_ 0
  have hcw:IntKind.i64.wrap ((cnt:Int)+1)=(cnt:Int)+1:=IntWalk.i64_in _ (by omega)
  have HT:=Lib.hid (fun W=>tag'_any W x hx)
  have HP:=Lib.hid (fun W=>parted'_any W x hx)
  have HH:=Lib.hid hH
  have HR:=Lib.hid hR
  have HIH:=Lib.hid ih
  have HNN:=Lib.hid hN
  have HS3:=Lib.hid hs3
  clear hR ho hn hH ih hcs hN hD hh2 hs3 e0
  rcases h1:tagOk x with _ | _
  case false =>
   have HE:Hid (rd (x :: L) d cnt = .error 2):=Lib.hid (by rw [rd,if_pos h1])
   have hsE:Sr w ((((w.setCell ⟨Br,0,none⟩ (.int .i64 ((cnt:Int)+1))).setCell ⟨Br,1,none⟩ (.int .i64 2)).alloc (.cells #[.int .u8 0,.slice none 0 0,.slice none 0 0] 32)).alloc (.cells #[.int .u8 (x:Int),.slice none 0 0,.slice none 0 0] 32)) B Br x ((cnt:Int)+1) 2 (.slice none 0 0) (.slice none 0 0):=sr_start (one_setCell (one_setCell (World.grownBy.refl w _) 0 _) 1 _) (by simp [World.setCell]) ((HH.out.stored 0 _).stored 1 _) hB hBs
   have HKE:=Lib.hid (HSZ.out _ _ _ hsE)
   have HSE:=Lib.hid hsE
   have hs:=HDR.out ((((w.setCell ⟨Br,0,none⟩ (.int .i64 ((cnt:Int)+1))).setCell ⟨Br,1,none⟩ (.int .i64 2)).alloc (.cells #[.int .u8 0,.slice none 0 0,.slice none 0 0] 32)).alloc (.cells #[.int .u8 (x:Int),.slice none 0 0,.slice none 0 0] 32))
   clear hsE
   go_enter Tryz.func55,Tryz.ntmps55
   go_wp2_with fail
   refine (HT.out _).mono ?_
   rintro e w2 ⟨rfl,rfl⟩
   rw [h1]
   go_wp2_with fail
   refine HKE.out.mono ?_
   intro e V5 hp
   obtain ⟨k5,u5,t5,rfl,hb5⟩:=hp.any
   have HS:=Lib.hid (HSE.out.grown (below_grown hb5 (Nat.le_refl _)) (fun g hg=>by cases hg))
   clear hp hb5 HSE HKE hs g0 g1 g2 g3 g4 g5 g6 f2 hcw
   have t1:=HS.out.1.cell 1
   have n0:=HS.out.2.2.1.cell 0
   have n1:=HS.out.2.2.1.cell 1
   have n2:=HS.out.2.2.1.cell 2
   have z0:=HS.out.2.1.cell 0
   have z1:=HS.out.2.1.cell 1
   have z2:=HS.out.2.1.cell 2
   have y0:=HS.out.2.1.open_ 0
   have y1:=HS.out.2.1.open_ 1
   have y2:=HS.out.2.1.open_ 2
   go_wp2_with fail
   rw [HE.out]
   exact ret_cell rfl rfl rfl (HS.out.out _ _ _).1 rfl (one_err HS.out _ _ _ _ _ _ _ _ _ rfl rfl (by omega))
  by_cases h2:12<d
  case pos =>
   have d2:decide ((12:Int)<(d:Int))=true:=decide_eq_true (by omega)
   have HE:Hid (rd (x :: L) d cnt = .error 3):=Lib.hid (by rw [rd,if_neg (by rw [h1];simp),if_pos h2])
   have hsE:Sr w ((((w.setCell ⟨Br,0,none⟩ (.int .i64 ((cnt:Int)+1))).setCell ⟨Br,1,none⟩ (.int .i64 3)).alloc (.cells #[.int .u8 0,.slice none 0 0,.slice none 0 0] 32)).alloc (.cells #[.int .u8 (x:Int),.slice none 0 0,.slice none 0 0] 32)) B Br x ((cnt:Int)+1) 3 (.slice none 0 0) (.slice none 0 0):=sr_start (one_setCell (one_setCell (World.grownBy.refl w _) 0 _) 1 _) (by simp [World.setCell]) ((HH.out.stored 0 _).stored 1 _) hB hBs
   have HKE:=Lib.hid (HSZ.out _ _ _ hsE)
   have HSE:=Lib.hid hsE
   have hs:=HDR.out ((((w.setCell ⟨Br,0,none⟩ (.int .i64 ((cnt:Int)+1))).setCell ⟨Br,1,none⟩ (.int .i64 3)).alloc (.cells #[.int .u8 0,.slice none 0 0,.slice none 0 0] 32)).alloc (.cells #[.int .u8 (x:Int),.slice none 0 0,.slice none 0 0] 32))
   clear hsE
   go_enter Tryz.func55,Tryz.ntmps55
   go_wp2_with fail
   refine (HT.out _).mono ?_
   rintro e w2 ⟨rfl,rfl⟩
   rw [h1]
   go_wp2_with fail
   refine HKE.out.mono ?_
   intro e V5 hp
   obtain ⟨k5,u5,t5,rfl,hb5⟩:=hp.any
   have HS:=Lib.hid (HSE.out.grown (below_grown hb5 (Nat.le_refl _)) (fun g hg=>by cases hg))
   clear hp hb5 HSE HKE hs g0 g1 g2 g3 g4 g5 g6 f2 hcw
   have t1:=HS.out.1.cell 1
   have n0:=HS.out.2.2.1.cell 0
   have n1:=HS.out.2.2.1.cell 1
   have n2:=HS.out.2.2.1.cell 2
   have z0:=HS.out.2.1.cell 0
   have z1:=HS.out.2.1.cell 1
   have z2:=HS.out.2.1.cell 2
   have y0:=HS.out.2.1.open_ 0
   have y1:=HS.out.2.1.open_ 1
   have y2:=HS.out.2.1.open_ 2
   go_wp2_with fail
   rw [HE.out]
   exact ret_cell rfl rfl rfl (HS.out.out _ _ _).1 rfl (one_err HS.out _ _ _ _ _ _ _ _ _ rfl rfl (by omega))
  have d2:decide ((12:Int)<(d:Int))=false:=decide_eq_false (by omega)
  by_cases h3:600≤cnt
  case pos =>
   have d4:decide ((600:Int)<(cnt:Int)+1)=true:=decide_eq_true (by omega)
   have HE:Hid (rd (x :: L) d cnt = .error 4):=Lib.hid (by rw [rd,if_neg (by rw [h1];simp),if_neg h2,if_pos h3])
   have hsE:Sr w ((((w.setCell ⟨Br,0,none⟩ (.int .i64 ((cnt:Int)+1))).setCell ⟨Br,1,none⟩ (.int .i64 4)).alloc (.cells #[.int .u8 0,.slice none 0 0,.slice none 0 0] 32)).alloc (.cells #[.int .u8 (x:Int),.slice none 0 0,.slice none 0 0] 32)) B Br x ((cnt:Int)+1) 4 (.slice none 0 0) (.slice none 0 0):=sr_start (one_setCell (one_setCell (World.grownBy.refl w _) 0 _) 1 _) (by simp [World.setCell]) ((HH.out.stored 0 _).stored 1 _) hB hBs
   have HKE:=Lib.hid (HSZ.out _ _ _ hsE)
   have HSE:=Lib.hid hsE
   have hs:=HDR.out ((((w.setCell ⟨Br,0,none⟩ (.int .i64 ((cnt:Int)+1))).setCell ⟨Br,1,none⟩ (.int .i64 4)).alloc (.cells #[.int .u8 0,.slice none 0 0,.slice none 0 0] 32)).alloc (.cells #[.int .u8 (x:Int),.slice none 0 0,.slice none 0 0] 32))
   clear hsE
   go_enter Tryz.func55,Tryz.ntmps55
   go_wp2_with fail
   refine (HT.out _).mono ?_
   rintro e w2 ⟨rfl,rfl⟩
   rw [h1]
   go_wp2_with fail
   refine HKE.out.mono ?_
   intro e V5 hp
   obtain ⟨k5,u5,t5,rfl,hb5⟩:=hp.any
   have HS:=Lib.hid (HSE.out.grown (below_grown hb5 (Nat.le_refl _)) (fun g hg=>by cases hg))
   clear hp hb5 HSE HKE hs g0 g1 g2 g3 g4 g5 g6 f2 hcw
   have t1:=HS.out.1.cell 1
   have n0:=HS.out.2.2.1.cell 0
   have n1:=HS.out.2.2.1.cell 1
   have n2:=HS.out.2.2.1.cell 2
   have z0:=HS.out.2.1.cell 0
   have z1:=HS.out.2.1.cell 1
   have z2:=HS.out.2.1.cell 2
   have y0:=HS.out.2.1.open_ 0
   have y1:=HS.out.2.1.open_ 1
   have y2:=HS.out.2.1.open_ 2
   go_wp2_with fail
   rw [HE.out]
   exact ret_cell rfl rfl rfl (HS.out.out _ _ _).1 rfl (one_err HS.out _ _ _ _ _ _ _ _ _ rfl rfl (by omega))
  have d4:decide ((600:Int)<(cnt:Int)+1)=false:=decide_eq_false (by omega)
  have hs:=HDR.out (((w.setCell ⟨Br,0,none⟩ (.int .i64 ((cnt:Int)+1))).alloc (.cells #[.int .u8 0,.slice none 0 0,.slice none 0 0] 32)).alloc (.cells #[.int .u8 (x:Int),.slice none 0 0,.slice none 0 0] 32))
  have HK3:=Lib.hid (HSZ.out _ _ _ HS3.out)
  go_enter Tryz.func55,Tryz.ntmps55
  go_wp2_with fail
  refine (HT.out _).mono ?_
  rintro e w2 ⟨rfl,rfl⟩
  rw [h1]
  go_wp2_with fail

  refine HK3.out.mono ?_
  clear HK3 HSZ hs f2 g0 g1 g2 g3 g4 g5 g6 hcw d2 d4
  generalize (((w.setCell ⟨Br,0,none⟩ (.int .i64 ((cnt:Int)+1))).alloc (.cells #[.int .u8 0,.slice none 0 0,.slice none 0 0] 32)).alloc (.cells #[.int .u8 (x:Int),.slice none 0 0,.slice none 0 0] 32))=V3 at *
  intro e V5 hp
  have hlo:=lenOf_sz HO.out (by have:=HLL.out;omega)
  rcases h4:szOf L with _ | ⟨k,u⟩
  ·rw [h4] at hp hlo
   obtain ⟨k5,u5,rfl,hb5⟩:=hp
   have HE:Hid (rd (x :: L) d cnt = .error 2):=Lib.hid (by rw [rd,if_neg (by rw [h1];simp),if_neg h2,if_neg h3,hlo])
   have HS5:=Lib.hid (HS3.out.grown (below_grown hb5 (Nat.le_refl _)) (fun g hg=>by cases hg))
   have t0:=HS5.out.1.cell 1
   have t2:=HS5.out.1.open_ 1
   have HS:=Lib.hid (HS5.out.err 2)
   clear hb5 HS3 hlo h1 h2 h3 h4
   have t1:=HS.out.1.cell 1
   have n0:=HS.out.2.2.1.cell 0
   have n1:=HS.out.2.2.1.cell 1
   have n2:=HS.out.2.2.1.cell 2
   have z0:=HS.out.2.1.cell 0
   have z1:=HS.out.2.1.cell 1
   have z2:=HS.out.2.1.cell 2
   have y0:=HS.out.2.1.open_ 0
   have y1:=HS.out.2.1.open_ 1
   have y2:=HS.out.2.1.open_ 2
   go_wp2_with fail
   rw [HE.out]
   exact ret_cell rfl rfl rfl (HS.out.out _ _ _).1 rfl (one_err HS.out _ _ _ _ _ _ _ _ _ rfl rfl (by omega))
  rw [h4] at hp hlo
  obtain ⟨rfl,hb5⟩:=hp
  have HS5:=Lib.hid (HS3.out.grown (below_grown hb5 (Nat.le_refl _)) (fun g hg=>by cases hg))
  have hu:u≤n - 1:=sz_fits h4 HLL.out
  have hk:k<4294967296:=sz_small HO.out h4
  have t0:=HS5.out.1.cell 1
  have t2:=HS5.out.1.open_ 1
  clear hb5 HS3 h4
  dsimp only at hlo
  by_cases hku:k≤L.length - u
  case neg =>
   rw [if_neg hku] at hlo
   have hku2:¬ k≤n - 1 - u:=by have:=HLL.out;omega
   have dk:decide ((n:Int) - 1 - (u:Int)<(k:Int))=true:=decide_eq_true (by omega)
   have HE:Hid (rd (x :: L) d cnt = .error 2):=Lib.hid (by rw [rd,if_neg (by rw [h1];simp),if_neg h2,if_neg h3,hlo])
   have HS:=Lib.hid (HS5.out.err 2)
   clear hlo h1 h2 h3 hku
   have t1:=HS.out.1.cell 1
   have n0:=HS.out.2.2.1.cell 0
   have n1:=HS.out.2.2.1.cell 1
   have n2:=HS.out.2.2.1.cell 2
   have z0:=HS.out.2.1.cell 0
   have z1:=HS.out.2.1.cell 1
   have z2:=HS.out.2.1.cell 2
   have y0:=HS.out.2.1.open_ 0
   have y1:=HS.out.2.1.open_ 1
   have y2:=HS.out.2.1.open_ 2
   go_wp2_with fail
   rw [HE.out]
   exact ret_cell rfl rfl rfl (HS.out.out _ _ _).1 rfl (one_err HS.out _ _ _ _ _ _ _ _ _ rfl rfl (by omega))
  rw [if_pos hku] at hlo
  have hku2:k+u≤n - 1:=by have:=HLL.out;omega
  have dk:decide ((n:Int) - 1 - (u:Int)<(k:Int))=false:=decide_eq_false (by omega)
  have hlL:=HLL.out
  obtain ⟨E,hE⟩:∃ E,E=dropA (some ⟨b,off,none⟩) (1+u) c:=⟨_,rfl⟩
  obtain ⟨F,hF⟩:∃ F,F=dropA (some ⟨b,off,none⟩) (1+u+k) c:=⟨_,rfl⟩
  have hsm:∀ V:World,(Instr.sliceAt 24 (.slice (some ⟨b,off,none⟩) n c) (some (.int .i64 (1+(u:Int)))) (some (.int .i64 (1+(u:Int)+(k:Int)))) none).run Tryz.prog V = .ok (.slice E k (c - (1+u))) V:=fun V=>by
   have h:=run_mid V (some ⟨b,off,none⟩) n c (1+u) (1+u+k) (by omega) (by omega) hlc
   rw [show 1+u+k - (1+u)=k by omega,←hE] at h
   push_cast at h
   exact h
  have hse:∀ V:World,(Instr.sliceAt 24 (.slice (some ⟨b,off,none⟩) n c) (some (.int .i64 (1+(u:Int)+(k:Int)))) none none).run Tryz.prog V = .ok (.slice F (n - (1+u+k)) (c - (1+u+k))) V:=fun V=>by
   have h:=run_drop V (some ⟨b,off,none⟩) n c (1+u+k) (by omega) hlc
   rw [←hF] at h
   push_cast at h
   exact h
  have hFe:(if c=1+u+k then some (⟨b,off,none⟩:Addr) else some ⟨b,off+(1+u+k),none⟩)=F:=by rw [hF];unfold dropA;split <;> simp [Addr.add]
  obtain ⟨Lb,hLb⟩:∃ Lb,Lb=(L.drop u).take k:=⟨_,rfl⟩
  have HRE:Hid (Rd .u8 w B E (c - (1+u)) Lb):=Lib.hid (by
   have h:=HR.out.mid (1+u) k (by rw [List.length_cons,hlL];omega)
   rw [←hE,Nat.add_comm 1 u,List.drop_succ_cons,←hLb] at h
   rw [Nat.add_comm 1 u]
   exact h)
  have hlb:Lb.length=k:=by rw [hLb,List.length_take,List.length_drop,hlL];omega
  have HLB:=Lib.hid hlb
  have HOB:Hid (∀ y∈Lb,y<256):=Lib.hid fun y hy=>HO.out y (by rw [hLb] at hy;exact List.mem_of_mem_drop (List.mem_of_mem_take hy))
  have HF:=Lib.hid hF
  have HSM:=Lib.hid hsm
  have HSE:=Lib.hid hse
  have hsm5:=hsm V5
  have n0:=HS5.out.2.2.1.cell 0
  have hk12:k≤12000:=by omega
  have hd12:d≤12:=by omega
  obtain ⟨cE,hcE⟩:∃ cE,cE=c - (1+u):=⟨_,rfl⟩
  obtain ⟨nF,hnF⟩:∃ nF,nF=n - (1+u+k):=⟨_,rfl⟩
  obtain ⟨cF,hcF⟩:∃ cF,cF=c - (1+u+k):=⟨_,rfl⟩
  rw [←hcE] at HRE HSM hsm5
  have HFE:=Lib.hid (And.intro hFe (And.intro hnF.symm hcF.symm))
  have HNF:=Lib.hid (And.intro hnF hcF)
  have hnFn:nF<n:=by omega
  have hkn:k<n:=by omega
  clear hsm hse hE hF hcE hnF hcF hlb hFe
  rcases h5:parted x with _ | _
  case false =>
   have HE:Hid (rd (x :: L) d cnt = .ok (.mk x Lb [],1+u+k,cnt+1)):=Lib.hid (by rw [rd,if_neg (by rw [h1];simp),if_neg h2,if_neg h3,hlo];dsimp only;rw [if_pos h5,hLb])
   have HM1:Hid (Mine 5 (V5.alloc (.cells #[] 5)) V5.heap.size (some ⟨V5.heap.size,0,none⟩) 0 []):=Lib.hid (Mine.fresh0 V5 _ (Nat.le_refl _))
   have hSA:Sr w (V5.alloc (.cells #[] 5)) B Br x ((cnt:Int)+1) 0 (.slice none 0 0) (.slice none 0 0):=HS5.out.grown (World.grownBy_alloc V5 (.cells #[] 5) none) (fun g hg=>by cases hg)
   have HSA:=Lib.hid hSA
   have HR1:Hid (Rd .u8 (V5.alloc (.cells #[] 5)) B E cE Lb):=Lib.hid (HRE.out.under (below_br hSA.2.2.2.1 hB (by omega)))
   have HV5:Hid (w.heap.size+2≤V5.heap.size):=Lib.hid HS5.out.2.2.2.2.1
   have HSZ1:Hid (V5.heap.size≤(V5.alloc (.cells #[] 5)).heap.size):=Lib.hid (by simp)
   have HF5:Hid (∀ W,(V5.alloc (.cells #[] 5)).grownBy W (blk_of (some ⟨V5.heap.size,0,none⟩))→W.frozen? ⟨w.heap.size+1,1,none⟩=false∧W.cell? ⟨w.heap.size+1,1,none⟩=some (.slice none 0 0)):=Lib.hid fun W hW=>by
    have h:=HSA.out.grown hW (fun g hg=>by have:=HV5.out;simp [blk_of] at hg;omega)
    exact ⟨h.2.2.1.open_ 1,h.2.2.1.cell 1⟩
   clear hSA hlo h1 h2 h3 hku hLb
   go_wp2_with fail
   refine (HP.out _).mono ?_
   rintro e w2 ⟨rfl,rfl⟩
   rw [h5]
   go_wp2_with (first | (refine wpList_mine (B2:=B) _ rfl (.tmp 95) (.tmp 96) 24 rfl 5 Tryz.underlying24 info_u8 rfl HM1.out rfl rfl HR1.out HLB.out HSZ1.out (by omega) ?_;intro A5 c5 W5 hm5 hg5 hat5;obtain ⟨f5,m5⟩:=HF5.out _ hg5) | fail)
   have HM5:=Lib.hid hm5
   have HG5:=Lib.hid hg5
   clear hm5 hg5 hat5 f5 m5 n0 t0 t2 hsm5 dk
   have hS6:=(HSA.out.grown HG5.out (fun g hg=>by have:=HV5.out;simp [blk_of] at hg;omega)).bodyv (.slice A5 k c5)
   have hM6:Mine 5 (W5.setCell ⟨w.heap.size+1,1,none⟩ (.slice A5 k c5)) V5.heap.size A5 c5 Lb:=HM5.out.keep fun g hg=>Below.heap_setCell W5 ⟨w.heap.size+1,1,none⟩ _ g (by show g≠w.heap.size+1;have:=(HM5.out.block hg).1;have:=HV5.out;omega)
   have HS6:=Lib.hid hS6
   have HM6:=Lib.hid hM6
   clear HM5 HG5 hS6 hM6 HM1 HSA HR1 HSZ1 HF5
   generalize (W5.setCell ⟨w.heap.size+1,1,none⟩ (.slice A5 k c5))=V6 at *
   go_loopw [12] (fun v V=>v = .slice E k cE∧V=V6) (fun v _=>0)
   case atStart=>exact ⟨rfl,rfl⟩
   case round =>
    obtain ⟨rfl,rfl⟩:=hrel
    have n0:=HS6.out.2.2.1.cell 0
    have n1:=HS6.out.2.2.1.cell 1
    have n2:=HS6.out.2.2.1.cell 2
    have z0:=HS6.out.2.1.cell 0
    have z1:=HS6.out.2.1.cell 1
    have z2:=HS6.out.2.1.cell 2
    have y0:=HS6.out.2.1.open_ 0
    have y1:=HS6.out.2.1.open_ 1
    have y2:=HS6.out.2.1.open_ 2
    have b1:=HS6.out.1.cell 1
    go_wp2_with fail
    refine (HP.out _).mono ?_
    rintro e w2 ⟨rfl,rfl⟩
    rw [h5]
    go_wp2_with fail
    go_region
    rw [HFE.out.1,HFE.out.2.1,HFE.out.2.2]
    go_wp2_with fail
    rw [HE.out]
    obtain ⟨r1,r2,r3,r4,r5⟩:=HS6.out.out (.int .u8 (x:Int)) (.slice A5 k c5) (.slice none 0 0)
    refine ret_cell rfl rfl rfl r1.drew rfl (OnePost.drew ⟨_,_,_,_,_,_,_,_,_,_,_,_,rfl,r3,r2,rfl,by push_cast;rfl,HF.out,HNF.out.1,HNF.out.2,.mk x A5 c5 Lb none 0 [],?_,?_,?_⟩)
    ·simp only [lcell,Lt.tag,Lt.ba,Lt.body,Lt.bc,Lt.ka,Lt.kids,Lt.kc,HLB.out]
     rfl
    ·rw [Lt.t_mk];rfl
    ·have hM:Mine 5 wr w.heap.size A5 c5 Lb:=HM6.out.less (by have:=HV5.out;omega)
     refine TrIn.of_body hx (by rw [r4];have:=HS6.out.2.2.2.2.1;omega) (hM.keep fun g hg=>r5 g (by have:=(HM6.out.block hg).1;have:=HV5.out;omega)) HOB.out
  have HE0:Hid (rd (x :: L) d cnt=thingOf x (1+u+k) (rds Lb (d+1) (cnt+1))):=Lib.hid (by
   rw [rd,if_neg (by rw [h1];simp),if_neg h2,if_neg h3,hlo]
   dsimp only
   rw [if_neg (by rw [h5];simp),hLb]
   rcases rds ((L.drop u).take k) (d+1) (cnt+1) with e | ⟨l,c'⟩ <;> rfl)
  obtain ⟨spec,hspec⟩:∃ spec,spec=rds Lb (d+1) (cnt+1):=⟨_,rfl⟩
  rw [←hspec] at HE0
  have hR0:RelO w B Br x d k Lb spec (.slice E k cE) V5:=⟨E,k,cE,(cnt:Int)+1,0,none,0,0,[],rfl,HS5.out,OwnV.nil _ _ _,fun g hg=>by simp [blockOf] at hg,Nat.zero_le _,Nat.le_refl _,.inl ⟨rfl,cnt+1,[],by push_cast;rfl,rfl,rfl,by rw [Nat.sub_self];exact HRE.out,by omega,by omega,Apart.nil _ _ _,by
   rw [hspec,List.map_nil,preT_nil,Nat.sub_self];rfl⟩⟩
  have HR0:=Lib.hid hR0
  clear hR0 hspec hlo h1 h2 h3 hku hLb HS5 HRE
  go_wp2_with fail
  refine (HP.out _).mono ?_
  rintro e w2 ⟨rfl,rfl⟩
  rw [h5]
  go_wp2_with fail
  clear n0 t0 t2 hsm5 dk
  go_loopw [12] (fun v V=>RelO w B Br x d k Lb spec v V) (fun v _=>sliceLen v)
  case atStart=>exact HR0.out
  case round =>
   obtain ⟨A',n',c',k1,y1,K,kc,ln,vs,rfl,hst,hown,hKlo,hlk,hnk,hmode⟩:=hrel
   have HST:=Lib.hid hst
   have n0:=hst.2.2.1.cell 0
   have b1:=hst.1.cell 1
   rcases hmode with ⟨hy0,cnt',l,hk1,hvs,hll,hRd,hc6,hlb,hap,hsp⟩ | ⟨y',hy1,hy0,hsp⟩
   case inl =>
    subst hy0 hk1 hvs
    by_cases hlt:0<n'
    case pos =>
     have dlt:decide ((0:Int)<(n':Int))=true:=decide_eq_true (by omega)
     have hs1:=hst.grown (World.grownBy_alloc wr (.cells #[.int .u8 0,.slice none 0 0,.slice none 0 0] 32) none) (fun g hg=>by cases hg)
     have hx1:Holds (wr.alloc (.cells #[.int .u8 0,.slice none 0 0,.slice none 0 0] 32)) wr.heap.size 32 #[.int .u8 0,.slice none 0 0,.slice none 0 0]:=Holds.fresh _ _ _
     have hLl:(Lb.drop (k - n')).length=n':=by rw [List.length_drop,HLB.out];omega
     have HK:Hid (Calls Tryz.prog 55 #[.pointer (some ⟨Br,0,none⟩),.slice A' n' c',.int .i64 ((d:Int)+1)] (wr.alloc (.cells #[.int .u8 0,.slice none 0 0,.slice none 0 0] 32)) (OnePost (wr.alloc (.cells #[.int .u8 0,.slice none 0 0,.slice none 0 0] 32)) Br A' n' c' (rd (Lb.drop (k - n')) (d+1) cnt'))):=Lib.hid (by
      have h:=HIH.out (wr.alloc (.cells #[.int .u8 0,.slice none 0 0,.slice none 0 0] 32)) B Br A' c' n' (d+1) cnt' (Lb.drop (k - n')) (by have:=HNN.out;omega) (hRd.under (below_br hs1.2.2.2.1 hB (by omega))) hLl hlt (by omega) (fun y hy=>HOB.out y (List.mem_of_mem_drop hy)) hB hs1.1 (by omega) hc6
      rw [Int.natCast_succ] at h
      exact h)
     have hwd:IntKind.i64.wrap ((d:Int)+1)=(d:Int)+1:=IntWalk.i64_in _ (by omega)
     have hszr:w.heap.size+2≤wr.heap.size:=hst.2.2.2.2.1
     have HS1:=Lib.hid hs1
     have HX1:=Lib.hid hx1
     have HALC:Hid (wr.grownBy (wr.alloc (.cells #[.int .u8 0,.slice none 0 0,.slice none 0 0] 32)) none):=Lib.hid (World.grownBy_alloc _ _ _)
     have HRES:=Lib.hid (And.intro hown (And.intro hKlo (And.intro hlk (And.intro hll (And.intro hRd (And.intro hlb (And.intro hap (And.intro hsp hLl))))))))
     have hlnk:ln+1≤k:=by omega
     clear hs1 hx1 hst hown hKlo hlk hRd hll hlb hap hsp hLl
     go_wp2_with fail
     refine (HP.out _).mono ?_
     rintro e2 w2 ⟨rfl,rfl⟩
     rw [h5]
     go_wp2_with fail
     refine HK.out.mono ?_
     intro e2 w2 hp
     obtain ⟨t0,a1,m1,c1,a2,m2,c2,S,s,t,k2,y2,rfl,hgr,hbr,htell⟩:=hp
     have hx2:=HX1.out.grown hgr (fun e=>by injection e with e;omega)
     have zx0:=hx2.cell 0
     have zx1:=hx2.cell 1
     have zx2:=hx2.cell 2
     have yx0:=hx2.open_ 0
     have yx1:=hx2.open_ 1
     have yx2:=hx2.open_ 2
     have hst2:=HS1.out.turned hgr hbr
     have hst3:=((hst2.aside (p:=⟨wr.heap.size,0,none⟩) hszr (.int .u8 t0)).aside (p:=⟨wr.heap.size,1,none⟩) hszr (.slice a1 m1 c1)).aside (p:=⟨wr.heap.size,2,none⟩) hszr (.slice a2 m2 c2)
     have hx3:=((hx2.stored 0 (.int .u8 t0)).stored 1 (.slice a1 m1 c1)).stored 2 (.slice a2 m2 c2)
     have HS3:=Lib.hid hst3
     have HX3:Hid (Holds (((w2.setCell ⟨wr.heap.size,0,none⟩ (.int .u8 t0)).setCell ⟨wr.heap.size,1,none⟩ (.slice a1 m1 c1)).setCell ⟨wr.heap.size,2,none⟩ (.slice a2 m2 c2)) wr.heap.size 32 #[.int .u8 t0,.slice a1 m1 c1,.slice a2 m2 c2]):=Lib.hid hx3
     have HTELL:=Lib.hid htell
     have HGR:=Lib.hid hgr
     have HSZ3:Hid (((((w2.setCell ⟨wr.heap.size,0,none⟩ (.int .u8 t0)).setCell ⟨wr.heap.size,1,none⟩ (.slice a1 m1 c1)).setCell ⟨wr.heap.size,2,none⟩ (.slice a2 m2 c2))).heap.size=w2.heap.size):=Lib.hid (by simp [World.setCell])
     have H3:Hid (∀ g,g≠wr.heap.size→((((w2.setCell ⟨wr.heap.size,0,none⟩ (.int .u8 t0)).setCell ⟨wr.heap.size,1,none⟩ (.slice a1 m1 c1)).setCell ⟨wr.heap.size,2,none⟩ (.slice a2 m2 c2))).heap[g]?=w2.heap[g]?):=Lib.hid fun g hg=>by
      rw [Below.heap_setCell _ ⟨wr.heap.size,2,none⟩ _ g hg,Below.heap_setCell _ ⟨wr.heap.size,1,none⟩ _ g hg,Below.heap_setCell _ ⟨wr.heap.size,0,none⟩ _ g hg]
     have H3w:Hid (∀ g,w.heap.size+2≤g→g<wr.heap.size→((((w2.setCell ⟨wr.heap.size,0,none⟩ (.int .u8 t0)).setCell ⟨wr.heap.size,1,none⟩ (.slice a1 m1 c1)).setCell ⟨wr.heap.size,2,none⟩ (.slice a2 m2 c2))).heap[g]?=wr.heap[g]?):=Lib.hid fun g h1 h2=>by
      rw [H3.out g (by omega),HGR.out.block g (Nat.lt_of_lt_of_le h2 HALC.out.size) (fun e=>by injection e with e;omega),HALC.out.block g h2 (by simp)]
     have HW2:Hid (wr.heap.size+1≤w2.heap.size):=Lib.hid (by have:=hgr.size;simpa using this)
     have HHB:Hid (Holds ((((w2.setCell ⟨wr.heap.size,0,none⟩ (.int .u8 t0)).setCell ⟨wr.heap.size,1,none⟩ (.slice a1 m1 c1)).setCell ⟨wr.heap.size,2,none⟩ (.slice a2 m2 c2)).alloc (.cells #[.int .u8 t0,.slice a1 m1 c1,.slice a2 m2 c2] 32)) w2.heap.size 32 [Value.int .u8 t0,.slice a1 m1 c1,.slice a2 m2 c2].toArray):=Lib.hid (by
      have h:=Holds.fresh (((w2.setCell ⟨wr.heap.size,0,none⟩ (.int .u8 t0)).setCell ⟨wr.heap.size,1,none⟩ (.slice a1 m1 c1)).setCell ⟨wr.heap.size,2,none⟩ (.slice a2 m2 c2)) 32 #[.int .u8 t0,.slice a1 m1 c1,.slice a2 m2 c2]
      rw [HSZ3.out] at h
      exact h)
     have HS4:Hid (Sr w ((((w2.setCell ⟨wr.heap.size,0,none⟩ (.int .u8 t0)).setCell ⟨wr.heap.size,1,none⟩ (.slice a1 m1 c1)).setCell ⟨wr.heap.size,2,none⟩ (.slice a2 m2 c2)).alloc (.cells #[.int .u8 t0,.slice a1 m1 c1,.slice a2 m2 c2] 32)) B Br x k2 y2 (.slice none 0 0) (.slice K ln kc)):=Lib.hid (hst3.grown (World.grownBy_alloc (((w2.setCell ⟨wr.heap.size,0,none⟩ (.int .u8 t0)).setCell ⟨wr.heap.size,1,none⟩ (.slice a1 m1 c1)).setCell ⟨wr.heap.size,2,none⟩ (.slice a2 m2 c2)) (.cells #[.int .u8 t0,.slice a1 m1 c1,.slice a2 m2 c2] 32) none) (fun g hg=>by cases hg))
     have H4:Hid (∀ g,g<w2.heap.size→(((((w2.setCell ⟨wr.heap.size,0,none⟩ (.int .u8 t0)).setCell ⟨wr.heap.size,1,none⟩ (.slice a1 m1 c1)).setCell ⟨wr.heap.size,2,none⟩ (.slice a2 m2 c2)).alloc (.cells #[.int .u8 t0,.slice a1 m1 c1,.slice a2 m2 c2] 32))).heap[g]?=((((w2.setCell ⟨wr.heap.size,0,none⟩ (.int .u8 t0)).setCell ⟨wr.heap.size,1,none⟩ (.slice a1 m1 c1)).setCell ⟨wr.heap.size,2,none⟩ (.slice a2 m2 c2))).heap[g]?):=Lib.hid fun g hg=>Below.heap_alloc _ _ g (by rw [HSZ3.out];exact hg)
     have HOW:Hid (OwnV 32 3 ((((w2.setCell ⟨wr.heap.size,0,none⟩ (.int .u8 t0)).setCell ⟨wr.heap.size,1,none⟩ (.slice a1 m1 c1)).setCell ⟨wr.heap.size,2,none⟩ (.slice a2 m2 c2)).alloc (.cells #[.int .u8 t0,.slice a1 m1 c1,.slice a2 m2 c2] 32)) K kc ln (l.flatMap lcell)):=Lib.hid (HRES.out.1.keep fun g hg hlt=>by
      have:=HW2.out
      rw [H4.out g (by omega),H3w.out g (HRES.out.2.1 g hg) hlt])
     have HF5:Hid (∀ W,(((((w2.setCell ⟨wr.heap.size,0,none⟩ (.int .u8 t0)).setCell ⟨wr.heap.size,1,none⟩ (.slice a1 m1 c1)).setCell ⟨wr.heap.size,2,none⟩ (.slice a2 m2 c2)).alloc (.cells #[.int .u8 t0,.slice a1 m1 c1,.slice a2 m2 c2] 32))).grownBy W (blockOf K)→W.frozen? ⟨w.heap.size+1,2,none⟩=false∧W.cell? ⟨w.heap.size+1,2,none⟩=some (.slice K ln kc)):=Lib.hid fun W hW=>by
      have h:=HS4.out.grown hW HRES.out.2.1
      exact ⟨h.2.2.1.open_ 2,h.2.2.1.cell 2⟩
     have HW1:Hid (∀ v∈[Value.int .u8 t0,.slice a1 m1 c1,.slice a2 m2 c2],v.oneCell'=true):=Lib.hid (by intro v hv;simp at hv;rcases hv with rfl | rfl | rfl <;> rfl)
     have HLN:Hid (ln≤9000000000000000000∧(ln+1)*56≤140737488355328):=Lib.hid (by omega)
     have HKLT:Hid (∀ g,blockOf K=some g→g<wr.heap.size):=Lib.hid fun g hg=>HRES.out.1.lt hg
     have k0:=hst3.2.2.1.cell 2
     have q0:=hx3.cell 0
     have q1:=hx3.cell 1
     have q2:=hx3.cell 2
     clear hx2 hst2 hst3 hx3 hgr hbr htell n0 b1 HK HS1 HX1
     go_wp2_with (first | (at_builtin;refine wpList_pushV _ rfl (.tmp 123) (.tmp 125) 30 rfl 32 _ 3 56 Tryz.underlying30 info_node rfl (by omega) (by omega) rfl HOW.out (cs:=[Value.int .u8 t0,.slice a1 m1 c1,.slice a2 m2 c2]) rfl rfl HW1.out HHB.out HLN.out ?_;intro g5 c5 W5 ho5 hg5 hat5 hlt5;obtain ⟨f5,m5⟩:=HF5.out _ hg5))
     have hS6:=(HS4.out.grown hg5 HRES.out.2.1).kidsv (.slice (some ⟨g5,0,none⟩) (ln+1) c5)
     have hsz4:(((((w2.setCell ⟨wr.heap.size,0,none⟩ (.int .u8 t0)).setCell ⟨wr.heap.size,1,none⟩ (.slice a1 m1 c1)).setCell ⟨wr.heap.size,2,none⟩ (.slice a2 m2 c2)).alloc (.cells #[.int .u8 t0,.slice a1 m1 c1,.slice a2 m2 c2] 32))).heap.size=w2.heap.size+1:=by
      show (Array.push _ _).size=_
      rw [Array.size_push,HSZ3.out]
     have hg5lo:w.heap.size+2≤g5:=by
      rcases hat5 with h | h
      ·exact HRES.out.2.1 g5 h
      ·have:=HW2.out
       omega
     have ho6:OwnV 32 3 (W5.setCell ⟨w.heap.size+1,2,none⟩ (.slice (some ⟨g5,0,none⟩) (ln+1) c5)) (some ⟨g5,0,none⟩) c5 (ln+1) (l.flatMap lcell ++ [Value.int .u8 t0,.slice a1 m1 c1,.slice a2 m2 c2]) :=
      ho5.keep fun g hg hlt=>Below.heap_setCell W5 ⟨w.heap.size+1,2,none⟩ _ g (by show g≠w.heap.size+1;change some g5=some g at hg;injection hg with hg;omega)
     have hmode:s<n'∧(ModeA w (W5.setCell ⟨w.heap.size+1,2,none⟩ (.slice (some ⟨g5,0,none⟩) (ln+1) c5)) B d k Lb spec S s t k2 y2 (some ⟨g5,0,none⟩) (ln+1) (l.flatMap lcell ++ [Value.int .u8 t0,.slice a1 m1 c1,.slice a2 m2 c2])∨∃ y':Nat,y2=(y':Int)∧y'≠0∧spec = .error y'):=by
      have htl:=HTELL.out
      obtain ⟨r1,r2,r3,r4,r5,r6,r7,r8,r9⟩:=HRES.out
      rcases h6:rd (Lb.drop (k - n')) (d+1) cnt' with y | ⟨t',m,cc⟩
      ·rw [h6] at htl
       refine ⟨htl.2,.inr ⟨y,htl.1,(rd_err (n' + 1)).1 _ _ _ _ (by rw [r9];omega) h6,?_⟩⟩
       rw [r8,rds_err (by rw [r9];exact hlt) h6]
       rfl
      ·rw [h6] at htl
       obtain ⟨u1,u2,u3,u4,u5,lt,u6,u7,u8⟩:=htl
       have hfit:=(rd_fits (n' + 1)).1 _ _ _ _ _ _ (by rw [r9];omega) h6
       rw [r9] at hfit
       subst u3 u4 u5
       refine ⟨by omega,.inl ⟨u1,cc,l ++ [lt],u2,by rw [List.flatMap_append,List.flatMap_cons,List.flatMap_nil,List.append_nil,u6],by rw [List.length_append,r4];rfl,?_,hfit.2.2,by omega,?_,?_⟩⟩
       ·have h:=r5.drop m (by rw [r9];omega)
        rw [List.drop_drop,show k - n' + m=k - (n' - m) by omega] at h
        exact h
       ·have h3:Apart (((w2.setCell ⟨wr.heap.size,0,none⟩ (.int .u8 t0)).setCell ⟨wr.heap.size,1,none⟩ (.slice a1 m1 c1)).setCell ⟨wr.heap.size,2,none⟩ (.slice a2 m2 c2)) (w.heap.size+2) K (l ++ [lt]):=by
         have h:=r7.keep (w':=(((w2.setCell ⟨wr.heap.size,0,none⟩ (.int .u8 t0)).setCell ⟨wr.heap.size,1,none⟩ (.slice a1 m1 c1)).setCell ⟨wr.heap.size,2,none⟩ (.slice a2 m2 c2))) (A':=K) (by rw [HSZ3.out];have:=HW2.out;omega) (fun g h1 h2 _=>H3w.out g h1 h2) (fun g hg=>.inl hg)
         have hV1s:(wr.alloc (.cells #[.int .u8 0,.slice none 0 0,.slice none 0 0] 32)).heap.size=wr.heap.size+1:=by simp
         exact h.more (a:=(wr.alloc (.cells #[.int .u8 0,.slice none 0 0,.slice none 0 0] 32)).heap.size) (b:=w2.heap.size) (by omega) (by rw [HSZ3.out];exact Nat.le_refl _) (u8.keep fun g h1 h2=>H3.out g (by omega)) (fun g hg=>.inl (Nat.lt_of_lt_of_le (HKLT.out g hg) HALC.out.size))
        refine h3.keep ?_ (fun g h1 h2 hne=>?_) (fun g hg=>?_)
        ·show _≤(W5.heap.modify _ _).size
         rw [Array.size_modify,HSZ3.out]
         have:=hg5.size
         omega
        ·rw [HSZ3.out] at h2
         rw [Below.heap_setCell W5 ⟨w.heap.size+1,2,none⟩ _ g (by show g≠w.heap.size+1;omega),hg5.block g (by omega) (fun e=>hne e.symm),H4.out g h2]
        ·change some g5=some g at hg
         injection hg with hg
         subst hg
         rcases hat5 with h | h
         ·exact .inl h
         ·exact .inr (by rw [HSZ3.out];omega)
       ·rw [r8,rds_ok (by rw [r9];exact hlt) h6,preT_preT,List.map_append,List.map_cons,List.map_nil,u7,List.drop_drop,show k - n' + m=k - (n' - m) by omega]
     have HS6:=Lib.hid hS6
     have HO6:=Lib.hid ho6
     have HG6:=Lib.hid hg5lo
     have HMO:=Lib.hid hmode
     clear hS6 ho5 hg5 hat5 hlt5 ho6 hg5lo hmode hsz4 HS3 HX3 H3 H3w HHB HS4 H4 HOW HF5
     go_roundw
     case rel=>exact ⟨S,s,t,k2,y2,some ⟨g5,0,none⟩,c5,ln+1,_,rfl,HS6.out,HO6.out,fun g hg=>by change some g5=some g at hg;injection hg with hg;subst hg;exact HG6.out,hlnk,by have:=HMO.out.1;omega,HMO.out.2⟩
     case measure =>
      have:=HMO.out.1
      simp [sliceLen]
      omega
    case neg =>
     obtain rfl:n'=0:=by omega
     rw [Nat.sub_zero,show Lb.drop k=[] by rw [List.drop_eq_nil_iff,HLB.out];exact Nat.le_refl _,rds] at hsp
     have HE:Hid (rd (x :: L) d cnt = .ok (.mk x [] (l.map Lt.t),1+u+k,cnt')):=Lib.hid (by rw [HE0.out,hsp];simp [preT,thingOf])
     have n1:=hst.2.2.1.cell 1
     have n2:=hst.2.2.1.cell 2
     have z0:=hst.2.1.cell 0
     have z1:=hst.2.1.cell 1
     have z2:=hst.2.1.cell 2
     have y0:=hst.2.1.open_ 0
     have y1:=hst.2.1.open_ 1
     have y2:=hst.2.1.open_ 2
     have HREST:=Lib.hid (And.intro hll (And.intro hown (And.intro hKlo hap)))
     clear hst hown hKlo hap hsp hRd hlb hll
     go_wp2_with fail
     refine (HP.out _).mono ?_
     rintro e w2 ⟨rfl,rfl⟩
     rw [h5]
     go_wp2_with fail
     go_region
     rw [HFE.out.1,HFE.out.2.1,HFE.out.2.2]
     go_wp2_with fail
     rw [HE.out]
     obtain ⟨r1,r2,r3,r4,r5⟩:=HST.out.out (.int .u8 (x:Int)) (.slice none 0 0) (.slice K ln kc)
     have hsz:=HST.out.2.2.2.2.1
     refine ret_cell rfl rfl rfl r1.drew rfl (OnePost.drew ⟨_,_,_,_,_,_,_,_,_,_,_,_,rfl,r3,r2,rfl,rfl,HF.out,HNF.out.1,HNF.out.2,.mk x none 0 [] K kc l,?_,?_,?_⟩)
     ·simp only [lcell,Lt.tag,Lt.ba,Lt.body,Lt.bc,Lt.ka,Lt.kids,Lt.kc,HREST.out.1]
      rfl
     ·rw [Lt.t_mk]
     ·refine TrIn.of_kids hx HREST.out.1 (by rw [r4];omega) (HREST.out.2.1.keep fun g hg _=>r5 g (by have:=HREST.out.2.2.1 g hg;omega)) (fun g hg=>by have:=HREST.out.2.2.1 g hg;omega) ?_
      exact (HREST.out.2.2.2.keep (by rw [r4];exact Nat.le_refl _) (fun g hg _ _=>r5 g (by omega)) (fun g hg=>.inl hg)).less (by omega)
   case inr =>
    subst hy1
    have hyI:decide ((y':Int)=0)=false:=decide_eq_false (by omega)
    have hyB:((y':Int) == 0)=false:=by simp;omega
    have HE:Hid (rd (x :: L) d cnt = .error y'):=Lib.hid (by rw [HE0.out,hsp];rfl)
    have n1:=hst.2.2.1.cell 1
    have n2:=hst.2.2.1.cell 2
    have z0:=hst.2.1.cell 0
    have z1:=hst.2.1.cell 1
    have z2:=hst.2.1.cell 2
    have y0:=hst.2.1.open_ 0
    have y1:=hst.2.1.open_ 1
    have y2:=hst.2.1.open_ 2
    clear hst hown hKlo hsp
    by_cases hlt:0<n'
    case pos =>
     have dlt:decide ((0:Int)<(n':Int))=true:=decide_eq_true (by omega)
     go_wp2_with fail
     refine (HP.out _).mono ?_
     rintro e w2 ⟨rfl,rfl⟩
     rw [h5]
     go_wp2_with fail
     go_region
     rw [HFE.out.1,HFE.out.2.1,HFE.out.2.2]
     go_wp2_with fail
     rw [HE.out]
     exact ret_cell rfl rfl rfl (HST.out.out _ _ _).1.drew rfl (OnePost.drew (one_err HST.out _ _ _ _ _ _ _ _ _ rfl rfl hnFn))
    case neg =>
     have dlt:decide ((0:Int)<(n':Int))=false:=decide_eq_false (by omega)
     go_wp2_with fail
     refine (HP.out _).mono ?_
     rintro e w2 ⟨rfl,rfl⟩
     rw [h5]
     go_wp2_with fail
     go_region
     rw [HFE.out.1,HFE.out.2.1,HFE.out.2.2]
     go_wp2_with fail
     rw [HE.out]
     exact ret_cell rfl rfl rfl (HST.out.out _ _ _).1.drew rfl (OnePost.drew (one_err HST.out _ _ _ _ _ _ _ _ _ rfl rfl hnFn))
end Go.Proofs.YtcibjcgipfpniaaGreatDoor
namespace Go.Proofs.YtcibjcgipfpniaaGreatDoor
open Go.RowKit
set_option linter.unusedVariables false
set_option linter.unusedSimpArgs false

theorem ReadPost.drew {w W:World} {r:Except Nat Tr} {e:Ending} (h:ReadPost w r e W):ReadPost w r e W.drew:=by
 rcases r with x | t
 ·exact ⟨h.1,h.2.drew⟩
 ·obtain ⟨lt,h1,h2,h3,h4⟩:=h
  exact ⟨lt,h1,h2,h3.under' (Below.refl _ W).drew,h4.drew⟩
set_option maxRecDepth 100000 in
set_option maxHeartbeats 8000000 in
theorem read'_any (w:World) (B:Nat) (A:Option Addr) (c n:Nat) (L:List Nat) (hR:Rd .u8 w B A c L) (hn:L.length=n) (ho:∀ x∈L,x<256) (hB:B≤w.heap.size) :
  Calls Tryz.prog 19 #[.slice A n c] w (ReadPost w (readT L)):=by
 have hlc:n≤c:=by rw [←hn];exact hR.1
 have hc63:=hR.2.1
 by_cases h12:12000<n
 case pos =>
  have HE:Hid (readT L = .error 4):=Lib.hid (by unfold readT;rw [if_pos (by omega)])
  have d1:decide ((12000:Int)<(n:Int))=true:=decide_eq_true (by omega)
  go_enter Tryz.func19,Tryz.ntmps19
  go_wp2_with fail
  rw [HE.out]
  exact ret_cell rfl rfl rfl (Holds.fresh _ _ _) rfl ⟨rfl,(Below.refl _ _).alloc (Nat.le_refl _) _⟩
 have d1:decide ((12000:Int)<(n:Int))=false:=decide_eq_false (by omega)
 by_cases hn0:n=0
 case pos =>
  subst hn0
  obtain rfl:=List.eq_nil_of_length_eq_zero hn
  have HE:Hid (readT [] = .error 2):=Lib.hid (by unfold readT;rw [if_neg (by simp),rd])
  clear hR hn ho
  go_enter Tryz.func19,Tryz.ntmps19
  go_wp2_with fail
  rw [HE.out]
  exact ret_cell rfl rfl rfl (Holds.fresh _ _ _) rfl ⟨rfl,(Below.refl _ _).alloc (Nat.le_refl _) _⟩
 have d0:decide ((n:Int)=0)=false:=decide_eq_false (by omega)
 have b0:((n:Int) == 0)=false:=by simp;omega
 have hs1:(w.alloc (.cells #[.int .u8 0,.slice none 0 0,.slice none 0 0] 32)).heap.size=w.heap.size+1:=by simp
 have hH:Holds ((w.alloc (.cells #[.int .u8 0,.slice none 0 0,.slice none 0 0] 32)).alloc (.cells #[.int .i64 0,.int .i64 0] 72)) (w.heap.size+1) 72 #[.int .i64 ((0:Nat):Int),.int .i64 0]:=by
  have h:=Holds.fresh (w.alloc (.cells #[.int .u8 0,.slice none 0 0,.slice none 0 0] 32)) 72 #[.int .i64 0,.int .i64 0]
  rw [hs1] at h
  exact h
 have hZ:Holds ((w.alloc (.cells #[.int .u8 0,.slice none 0 0,.slice none 0 0] 32)).alloc (.cells #[.int .i64 0,.int .i64 0] 72)) w.heap.size 32 #[.int .u8 0,.slice none 0 0,.slice none 0 0]:=(Holds.fresh _ _ _).alloc _
 have hQ:Below w.heap.size w ((w.alloc (.cells #[.int .u8 0,.slice none 0 0,.slice none 0 0] 32)).alloc (.cells #[.int .i64 0,.int .i64 0] 72)):=((Below.refl _ _).alloc (Nat.le_refl _) _).alloc (by rw [hs1];omega) _
 have hs2:((w.alloc (.cells #[.int .u8 0,.slice none 0 0,.slice none 0 0] 32)).alloc (.cells #[.int .i64 0,.int .i64 0] 72)).heap.size=w.heap.size+2:=by simp
 have HK:Hid (Calls Tryz.prog 55 #[.pointer (some ⟨w.heap.size+1,0,none⟩),.slice A n c,.int .i64 1] ((w.alloc (.cells #[.int .u8 0,.slice none 0 0,.slice none 0 0] 32)).alloc (.cells #[.int .i64 0,.int .i64 0] 72)) (OnePost ((w.alloc (.cells #[.int .u8 0,.slice none 0 0,.slice none 0 0] 32)).alloc (.cells #[.int .i64 0,.int .i64 0] 72)) (w.heap.size+1) A n c (rd L 1 0))):=Lib.hid
  (one_N (n+1) _ B (w.heap.size+1) A c n 1 0 L (Nat.lt_succ_self _) (hR.under (hQ.mono hB)) hn (by omega) (by omega) ho (by omega) hH (by omega) (by omega))
 have HZ:=Lib.hid hZ
 have HQ:=Lib.hid hQ
 have HS2:=Lib.hid hs2
 have HN:=Lib.hid hn
 clear hZ hQ hH hR ho hn hs1 hs2
 rcases h6:rd L 1 0 with yy | ⟨t,m,cc⟩
 case error =>
  rw [h6] at HK
  have hy0:=(rd_err (L.length+1)).1 _ _ _ _ (Nat.lt_succ_self _) h6
  have bne:((yy:Int) != 0)=true:=by simp;omega
  have beq:((yy:Int) == 0)=false:=by simp;omega
  have dne:decide ((yy:Int)=0)=false:=decide_eq_false (by omega)
  have HE:Hid (readT L = .error yy):=Lib.hid (by unfold readT;rw [if_neg (by have:=HN.out;omega),h6])
  clear h6
  go_enter Tryz.func19,Tryz.ntmps19
  go_wp2_with fail
  refine HK.out.mono ?_
  rintro e w2 ⟨t0,a1,m1,c1,a2,m2,c2,S,s,t,k,y,rfl,hgr,hbr,htell⟩
  have HTELL:=Lib.hid htell
  have hw2:w.heap.size+2≤w2.heap.size:=by have:=hgr.size;rw [HS2.out] at this;exact this
  have hz2:=(HZ.out.grown hgr (fun e=>by injection e with e;omega)).alloc (.cells #[.int .u8 t0,.slice a1 m1 c1,.slice a2 m2 c2] 32)
  have hq2:Below w.heap.size w (w2.alloc (.cells #[.int .u8 t0,.slice a1 m1 c1,.slice a2 m2 c2] 32)):=(HQ.out.trans (below_br hgr (by omega) (by rw [HS2.out];omega))).alloc (by omega) _
  have hb2:=hbr.alloc (.cells #[.int .u8 t0,.slice a1 m1 c1,.slice a2 m2 c2] 32)
  have hA:Holds (w2.alloc (.cells #[.int .u8 t0,.slice a1 m1 c1,.slice a2 m2 c2] 32)) w2.heap.size 32 #[.int .u8 t0,.slice a1 m1 c1,.slice a2 m2 c2]:=Holds.fresh _ _ _
  have b1:=hb2.cell 1
  have p0:=hA.cell 0
  have p1:=hA.cell 1
  have p2:=hA.cell 2
  have z0:=hz2.cell 0
  have z1:=hz2.cell 1
  have z2:=hz2.cell 2
  have y0:=hz2.open_ 0
  have y1:=hz2.open_ 1
  have y2:=hz2.open_ 2
  have HZ2:=Lib.hid hz2
  have HQ2:=Lib.hid hq2
  clear hz2 hq2 hgr HK hA hb2 hbr htell

  obtain ⟨rfl,hs⟩:=HTELL.out
  go_wp2_with fail
  go_region
  go_wp2_with fail
  rw [HE.out]
  exact ret_cell rfl rfl rfl (((HZ2.out.stored 0 _).stored 1 _).stored 2 _).drew rfl (ReadPost.drew ⟨rfl,((HQ2.out.setCell (p:=⟨w.heap.size,0,none⟩) (Nat.le_refl _) _).setCell (p:=⟨w.heap.size,1,none⟩) (Nat.le_refl _) _).setCell (p:=⟨w.heap.size,2,none⟩) (Nat.le_refl _) _⟩)
 case ok =>
  rw [h6] at HK
  have hfit:=(rd_fits (L.length+1)).1 _ _ _ _ _ _ (Nat.lt_succ_self _) h6
  have hmn:m≤n:=by have:=HN.out;omega
  have HRT:Hid (readT L=if m<n then .error 2 else .ok t):=Lib.hid (by unfold readT;rw [if_neg (by have:=HN.out;omega),h6,HN.out])
  clear h6 hfit
  go_enter Tryz.func19,Tryz.ntmps19
  go_wp2_with fail
  refine HK.out.mono ?_
  rintro e w2 ⟨t0,a1,m1,c1,a2,m2,c2,S,s,tt,k,y,rfl,hgr,hbr,htell⟩
  have HTELL:=Lib.hid htell
  have hw2:w.heap.size+2≤w2.heap.size:=by have:=hgr.size;rw [HS2.out] at this;exact this
  have hz2:=(HZ.out.grown hgr (fun e=>by injection e with e;omega)).alloc (.cells #[.int .u8 t0,.slice a1 m1 c1,.slice a2 m2 c2] 32)
  have hq2:Below w.heap.size w (w2.alloc (.cells #[.int .u8 t0,.slice a1 m1 c1,.slice a2 m2 c2] 32)):=(HQ.out.trans (below_br hgr (by omega) (by rw [HS2.out];omega))).alloc (by omega) _
  have hb2:=hbr.alloc (.cells #[.int .u8 t0,.slice a1 m1 c1,.slice a2 m2 c2] 32)
  have hA:Holds (w2.alloc (.cells #[.int .u8 t0,.slice a1 m1 c1,.slice a2 m2 c2] 32)) w2.heap.size 32 #[.int .u8 t0,.slice a1 m1 c1,.slice a2 m2 c2]:=Holds.fresh _ _ _
  have b1:=hb2.cell 1
  have p0:=hA.cell 0
  have p1:=hA.cell 1
  have p2:=hA.cell 2
  have z0:=hz2.cell 0
  have z1:=hz2.cell 1
  have z2:=hz2.cell 2
  have y0:=hz2.open_ 0
  have y1:=hz2.open_ 1
  have y2:=hz2.open_ 2
  have HZ2:=Lib.hid hz2
  have HQ2:=Lib.hid hq2
  clear hz2 hq2 hgr HK hA hb2 hbr htell

  obtain ⟨rfl,rfl,rfl,hs,ht,lt,hlc2,hlt2,hin⟩:=HTELL.out
  have HIN:=Lib.hid hin
  have HT:=Lib.hid hlt2
  have HVAL:Hid (lt.val = .agg #[.int .u8 t0,.slice a1 m1 c1,.slice a2 m2 c2]):=Lib.hid (by
   show Value.agg lt.cells=_
   rw [←lcell_cells,hlc2])
  clear hin hlt2 hlc2 HTELL
  by_cases hmn2:m<n
  case pos =>
   have dp:decide ((0:Int)<(s:Int))=true:=decide_eq_true (by omega)
   go_wp2_with fail
   rw [HRT.out,if_pos hmn2]
   exact ret_cell rfl rfl rfl (((HZ2.out.stored 0 _).stored 1 _).stored 2 _) rfl ⟨rfl,((HQ2.out.setCell (p:=⟨w.heap.size,0,none⟩) (Nat.le_refl _) _).setCell (p:=⟨w.heap.size,1,none⟩) (Nat.le_refl _) _).setCell (p:=⟨w.heap.size,2,none⟩) (Nat.le_refl _) _⟩
  case neg =>
   have dp:decide ((0:Int)<(s:Int))=false:=decide_eq_false (by omega)
   go_wp2_with fail
   rw [HRT.out,if_neg hmn2]
   refine ret_cell rfl rfl rfl (((HZ2.out.stored 0 _).stored 1 _).stored 2 _) rfl ⟨lt,by rw [HVAL.out];rfl,HT.out,?_,((HQ2.out.setCell (p:=⟨w.heap.size,0,none⟩) (Nat.le_refl _) _).setCell (p:=⟨w.heap.size,1,none⟩) (Nat.le_refl _) _).setCell (p:=⟨w.heap.size,2,none⟩) (Nat.le_refl _) _⟩
   have hi:=HIN.out
   rw [HS2.out] at hi
   refine (hi _ fun g hg hlt=>?_).more' ?_
   ·rw [Below.heap_setCell _ ⟨w.heap.size,2,none⟩ _ g (by show g≠w.heap.size;omega),Below.heap_setCell _ ⟨w.heap.size,1,none⟩ _ g (by show g≠w.heap.size;omega),Below.heap_setCell _ ⟨w.heap.size,0,none⟩ _ g (by show g≠w.heap.size;omega)]
    exact Below.heap_alloc w2 _ g hlt
   ·simp [World.setCell]
end Go.Proofs.YtcibjcgipfpniaaGreatDoor
namespace Go.Proofs.YtcibjcgipfpniaaGreatDoor
open Go.RowKit
set_option linter.unusedVariables false
set_option linter.unusedSimpArgs false
attribute [local go_sem ↓] Go.wp_at_zero Go.wp_at_succ

def nilT:Tr:=.mk 0 [] []
noncomputable def clNT (r:Bool) (v:CV):Tr:=if r=true then clTr v else nilT
noncomputable def clBT (r:Bool) (v:CV):Tr:=if r=true then clBody v else nilT
noncomputable def clDG (r:Bool) (v:CV):List Nat:=if r=true then clDig v else []
def SZ (cl:Cl):Prop:=∀ x∈cl.iss,(bts x.s).length≤9223372036854775807
def DigP (w:World) (l:List Nat) (e:Ending) (w':World):Prop:=∃ A n c,e = .returned (.slice A n c)∧(∀ W,Below w'.heap.size w' W→(convert 24 9 (.slice A n c)).run Tryz.prog W = .ok (.string (str l)) W)∧Below w.heap.size w w'
/-! What is small enough. -/
theorem enc_splitC (t:Tr):t.body.length+(Tr.encs t.kids).length<t.enc.length:=by
 obtain ⟨tag,body,kids⟩:=t
 rw [Tr.enc]
 simp [Tr.body,Tr.kids]
 omega
theorem encs_kidC:∀ {l:List Tr} {k:Tr},k∈l→k.enc.length≤(Tr.encs l).length
 | x :: r,k,h=>by
  rw [Tr.encs,List.length_append]
  rcases List.mem_cons.1 h with rfl | h
  ·omega
  ·have:=encs_kidC h
   omega
theorem encs_lenC:∀ l:List Tr,l.length≤(Tr.encs l).length
 | []=>by simp
 | x :: r=>by
  rw [Tr.encs,List.length_append,List.length_cons]
  have:=encs_lenC r
  have:=enc_splitC x
  omega
theorem sm_kids {t:Tr} {n:Nat} (h:t.enc.length≤n):t.kids.length≤n∧t.body.length≤n∧∀ k∈t.kids,k.enc.length≤n:=by
 have h1:=enc_splitC t
 have h2:=encs_lenC t.kids
 exact ⟨by omega,by omega,fun k hk=>by have:=encs_kidC hk;omega⟩
theorem sm_G {t:Tr} (h:t.enc.length≤12000):FitG t :=
 ⟨(sm_kids h).1,fun k hk=>⟨(sm_kids ((sm_kids h).2.2 k hk)).1,fun q hq=>⟨(sm_kids ((sm_kids ((sm_kids h).2.2 k hk)).2.2 q hq)).1,fun p hp=>(sm_kids ((sm_kids ((sm_kids ((sm_kids h).2.2 k hk)).2.2 q hq)).2.2 p hp)).2.1⟩⟩⟩
theorem sm_3 {t:Tr} (h:t.enc.length≤12000):Fit3 t:=by
 have a:=sm_kids h
 refine ⟨by omega,fun k hk=>?_⟩
 have b:=sm_kids (a.2.2 k hk)
 refine ⟨by omega,fun q hq=>?_⟩
 have c:=sm_kids (b.2.2 q hq)
 omega
theorem sm_S {t:Tr} (h:t.enc.length≤12000):FitS t:=by
 have a:=sm_kids h
 refine ⟨by omega,fun k hk=>?_⟩
 have b:=sm_kids (a.2.2 k hk)
 omega
theorem sm_B {t:Tr} (h:t.enc.length≤12000):FitB t:=fun k hk q hq=>by
 have a:=sm_kids ((sm_kids ((sm_kids h).2.2 k hk)).2.2 q hq)
 omega
theorem sm_C {t:Tr} (h:t.enc.length≤12000):FitC t:=by
 have a:=sm_kids h
 refine ⟨by omega,fun k hk=>⟨⟨?_,fun q hq=>?_⟩,?_⟩⟩
 ·have:=sm_kids (a.2.2 k hk);omega
 ·have b:=(sm_kids (a.2.2 k hk)).2.2 q hq
  exact ⟨sm_G b,sm_3 b⟩
 ·have:=sm_kids (a.2.2 k hk);omega
theorem sm_C2 {t:Tr} (h:t.enc.length≤12000):FitC2 t:=by
 have a:=sm_kids h
 refine ⟨by omega,fun k hk=>?_⟩
 have b:=sm_kids (a.2.2 k hk)
 refine ⟨by omega,by omega,fun q hq=>?_⟩
 have c:=b.2.2 q hq
 exact ⟨sm_G c,sm_S c,sm_3 c,sm_B c⟩
end Go.Proofs.YtcibjcgipfpniaaGreatDoor
namespace Go.Proofs.YtcibjcgipfpniaaGreatDoor
open Go.RowKit
set_option linter.unusedVariables false
set_option linter.unusedSimpArgs false
attribute [local go_sem ↓] Go.wp_at_zero Go.wp_at_succ

theorem GetCPost.one {w w':World} {T:Tr} {e:Ending} (h:GetCPost w [] T e w'):∃ (cl:Cl) (ok:Bool),e = .returned (.tuple #[.agg (ccell cl).toArray,.bool ok])∧Off [] (ClP cl) w'∧(ok=true→CvM cl.v∧clTr cl.v=T)∧(ok=false→GetCNo T∧cl=⟨none,0,[],0,0,none,0,[],none,0,[]⟩)∧Below w.heap.size w w':=by
 obtain ⟨cl,h1,h2,h3,h4,_,h6⟩ | ⟨h1,h2,h3⟩:=h
 ·exact ⟨cl,true,h1,h2,fun _=>⟨h3,h4⟩,fun h=>(by cases h),h6⟩
 ·exact ⟨⟨none,0,[],0,0,none,0,[],none,0,[]⟩,false,h1,fun w2 _ _=>⟨⟨Nat.le_refl _,by show 0≤_;omega,fun h=>by simp at h⟩,GsP.none _,Rd.nil_ _ _ _,by simp⟩,fun h=>(by cases h),fun _=>⟨h2,rfl⟩,h3⟩
/-- Both read alike. -/
theorem getC_same {T:Tr} {c c2:Cl} {ok ok2:Bool} (h1:ok=true→CvM c.v∧clTr c.v=T) (h2:ok=false→GetCNo T∧c=⟨none,0,[],0,0,none,0,[],none,0,[]⟩) (g1:ok2=true→CvM c2.v∧clTr c2.v=T) (g2:ok2=false→GetCNo T∧c2=⟨none,0,[],0,0,none,0,[],none,0,[]⟩):ok=ok2∧c.v=c2.v:=by
 cases ok <;> cases ok2
 ·exact ⟨rfl,by rw [(h2 rfl).2,(g2 rfl).2]⟩
 ·exact absurd (g1 rfl).2 ((h2 rfl).1 _ (g1 rfl).1)
 ·exact absurd (h1 rfl).2 ((g2 rfl).1 _ (h1 rfl).1)
 ·exact ⟨rfl,clTr_inj (h1 rfl).1 (g1 rfl).1 (by rw [(h1 rfl).2,(g1 rfl).2])⟩
set_option maxRecDepth 100000 in
set_option maxHeartbeats 4000000 in
theorem law_gets (w:World) (hT:Lib.Utf8Tabs 0 1 w) (A:Option Addr) (c n:Nat) (L:List Nat) (hR:Rd .u8 w w.heap.size A c L) (hn:L.length=n) (ho:∀ x∈L,x<256) :
  Calls Tryz.prog 4 #[.slice A n c] w fun e w'=>e = .returned (.bool true)∧Below w.heap.size w w':=by
 have HR:=Lib.hid (read'_any w _ A c n L hR hn ho (Nat.le_refl _))
 have HN:=Lib.hid hn
 have HO:=Lib.hid ho
 have HT:=Lib.hid hT
 clear hR hn ho hT
 rcases hrt:readT L with y | T
 ·rw [hrt] at HR
  have hy0:y≠0:=by
   have h:=hrt
   unfold readT at h
   split at h
   ·injection h with h;omega
   ·rcases h6:rd L 1 0 with y2 | ⟨t,m,c2⟩
    ·rw [h6] at h
     have:=(rd_err (L.length+1)).1 _ _ _ _ (Nat.lt_succ_self _) h6
     injection h with h;omega
    ·rw [h6] at h
     dsimp only at h
     split at h
     ·injection h with h;omega
     ·cases h
  have bne:((y:Int) != 0)=true:=by simp;omega
  have beq:((y:Int) == 0)=false:=by simp;omega
  clear hrt
  go_enter Tryz.func4,Tryz.ntmps4
  go_wp2_with fail
  refine HR.out.mono ?_
  rintro e w2 ⟨rfl,hb2⟩
  have HB2:=Lib.hid (hb2.alloc hb2.size (.cells #[.int .u8 0,.slice none 0 0,.slice none 0 0] 32))
  clear hb2
  simp only [noNode]
  by_cases h3:3000<n
  ·have d3:decide ((3000:Int)<(n:Int))=true:=decide_eq_true (by omega)
   go_wp2_with fail
   go_ret
   exact ⟨rfl,HB2.out⟩
  ·have d3:decide ((3000:Int)<(n:Int))=false:=decide_eq_false (by omega)
   go_wp2_with fail
   go_ret
   exact ⟨rfl,HB2.out⟩
 ·rw [hrt] at HR
  have hti:=readT_is HO.out hrt
  have HLE:Hid (T.enc.length=n):=Lib.hid (by rw [hti.1];exact HN.out)
  clear hrt hti
  go_enter Tryz.func4,Tryz.ntmps4
  go_wp2_with fail
  refine HR.out.mono ?_
  rintro e w2 ⟨lt,rfl,hlt,hat,hb2⟩
  have HVAL:Hid (lt.val = .agg #[.int .u8 (lt.tag:Int),.slice lt.ba lt.body.length lt.bc,.slice lt.ka lt.kids.length lt.kc]):=Lib.hid rfl
  have hoff:=Off.of_at hat (Nat.le_refl _)
  have HB2:=Lib.hid hb2
  rw [HVAL.out]
  have HLT:=Lib.hid hlt
  have HOF:=Lib.hid hoff
  clear hlt hat hoff hb2
  by_cases h3:3000<n
  ·have d3:decide ((3000:Int)<(n:Int))=true:=decide_eq_true (by omega)
   have HB3:=Lib.hid (HB2.out.alloc HB2.out.size (.cells #[.int .u8 (lt.tag:Int),.slice lt.ba lt.body.length lt.bc,.slice lt.ka lt.kids.length lt.kc] 32))
   go_wp2_with fail
   go_ret
   exact ⟨rfl,HB3.out⟩
  have d3:decide ((3000:Int)<(n:Int))=false:=decide_eq_false (by omega)
  have HG:Hid (∀ W,Below w2.heap.size w2 W→Calls Tryz.prog 16 #[lt.val] W (GetCPost W [] T)):=Lib.hid fun W hW=>by
   have h:=getC_any W [] (fun x hx=>by cases hx) lt (HOF.out.under hW) (by rw [HLT.out];exact sm_C (by rw [HLE.out];omega)) (Utf8Tabs_below HT.out (HB2.out.trans (hW.mono HB2.out.size)))
   rwa [HLT.out] at h
  have HG':Hid (∀ W,Below w2.heap.size w2 W→Calls Tryz.prog 20 #[lt.val] W (GetCPost W [] T)):=Lib.hid fun W hW=>by
   have h:=getC'_any W lt (HOF.out.under hW) (by rw [HLT.out];exact sm_C2 (by rw [HLE.out];omega))
   rwa [HLT.out] at h
  have HKN:Hid (∀ W,Below w2.heap.size w2 W→Calls Tryz.prog 15 #[] W fun e w'=>e = .returned (.bool true)∧Below W.heap.size W w'):=Lib.hid fun W hW=>known19_any W (Utf8Tabs_below HT.out (HB2.out.trans (hW.mono HB2.out.size)))
  rw [HVAL.out] at HG HG'
  clear HVAL HLT HOF
  generalize lt.tag=lg at *
  generalize lt.ba=lba at *
  generalize lt.bc=lbc at *
  generalize lt.body.length=lbl at *
  generalize lt.ka=lka at *
  generalize lt.kids.length=ln at *
  generalize lt.kc=lkc at *
  have hq3:Below w2.heap.size w2 (w2.alloc (.cells #[.int .u8 (lg:Int),.slice lba lbl lbc,.slice lka ln lkc] 32)):=(Below.refl _ _).alloc (Nat.le_refl _) _
  have hh3:=Holds.fresh w2 32 #[.int .u8 (lg:Int),.slice lba lbl lbc,.slice lka ln lkc]
  have HH3:=Lib.hid hh3
  have a0:=hh3.cell 0
  have a1:=hh3.cell 1
  have a2:=hh3.cell 2
  have HG3:=Lib.hid (HG.out _ hq3)
  have HQ3:=Lib.hid hq3
  clear hh3 hq3 HG
  go_wp2_with fail
  refine HG3.out.mono ?_
  intro e w4 hpo
  obtain ⟨c4,ok,rfl,ho4,hy4,hn4,hb4⟩:=hpo.one
  have H4:=Lib.hid hb4
  have HO4:=Lib.hid ho4
  have HY4:=Lib.hid hy4
  have HN4:=Lib.hid hn4
  have HC4:Hid ((ccell c4).toArray=#[.slice c4.ia c4.iss.length c4.ic,.int .i64 c4.at_,.int .i64 c4.next,.slice c4.ga c4.gone.length c4.gc,.slice c4.sa c4.sig.length c4.sc]):=Lib.hid rfl
  rw [HC4.out]
  clear hpo ho4 hy4 hn4 hb4 a0 a1 a2 HG3
  have h5:Below w4.heap.size w4 (w4.alloc (.cells #[.slice c4.ia c4.iss.length c4.ic,.int .i64 c4.at_,.int .i64 c4.next,.slice c4.ga c4.gone.length c4.gc,.slice c4.sa c4.sig.length c4.sc] 26)):=(Below.refl _ _).alloc (Nat.le_refl _) _
  have hh5:=Holds.fresh w4 26 #[.slice c4.ia c4.iss.length c4.ic,.int .i64 c4.at_,.int .i64 c4.next,.slice c4.ga c4.gone.length c4.gc,.slice c4.sa c4.sig.length c4.sc]
  obtain ⟨V5,hV5⟩:∃ V,V=w4.alloc (.cells #[.slice c4.ia c4.iss.length c4.ic,.int .i64 c4.at_,.int .i64 c4.next,.slice c4.ga c4.gone.length c4.gc,.slice c4.sa c4.sig.length c4.sc] 26):=⟨_,rfl⟩
  have h3c:=HH3.out.under (H4.out.trans (h5.mono H4.out.size)) HH3.out.lt
  have a0:=h3c.cell 0
  have a1:=h3c.cell 1
  have a2:=h3c.cell 2
  rw [←hV5] at h5 hh5
  have HV5:=Lib.hid hV5
  have H5:=Lib.hid (H4.out.trans (h5.mono H4.out.size))
  have HO5:=Lib.hid (HO4.out.under h5)
  have HH5:=Lib.hid hh5
  have H25:=Lib.hid (HQ3.out.trans (H5.out.mono HQ3.out.size))
  have HG5:=Lib.hid (HG'.out _ H25.out)
  clear h5 hh5 h3c hV5 HO4 H4 HG'
  go_wp2_with fail
  rw [←HV5.out]
  refine HG5.out.mono ?_
  intro e w6 hpo
  obtain ⟨c6,ok6,rfl,ho6,hy6,hn6,hb6⟩:=hpo.one
  obtain ⟨hok,hcv⟩:=getC_same HY4.out HN4.out hy6 hn6
  subst hok
  have HS0:Hid (∀ W,Below w6.heap.size w6 W→Calls Tryz.prog 17 #[.agg (ccell c4).toArray,.agg (ccell c6).toArray] W fun x w'=>x = .returned (.bool true)∧Below W.heap.size W w'):=Lib.hid fun W hW=>clSame'_any W c4 c6 (HO5.out.under (hb6.trans (hW.mono hb6.size))).at_ (ho6.under hW).at_ true (by simp [hcv])
  have HC6:Hid ((ccell c6).toArray=#[.slice c6.ia c6.iss.length c6.ic,.int .i64 c6.at_,.int .i64 c6.next,.slice c6.ga c6.gone.length c6.gc,.slice c6.sa c6.sig.length c6.sc]):=Lib.hid rfl
  rw [HC6.out] at HS0 ⊢
  rw [HC4.out] at HS0
  have H6:=Lib.hid hb6
  have HB6:=Lib.hid (HB2.out.trans ((H25.out.trans (hb6.mono H25.out.size)).mono HB2.out.size))
  have H26:=Lib.hid (H25.out.trans (hb6.mono H25.out.size))
  clear hpo ho6 hy6 hn6 hb6 a0 a1 a2 HG5 HC4 HC6 HY4 HN4 HO5 hcv
  generalize c4.ia=p0 at *
  generalize c4.iss.length=p1 at *
  generalize c4.ic=p2 at *
  generalize c4.at_=p3 at *
  generalize c4.next=p4 at *
  generalize c4.ga=p5 at *
  generalize c4.gone.length=p6 at *
  generalize c4.gc=p7 at *
  generalize c4.sa=p8 at *
  generalize c4.sig.length=p9 at *
  generalize c4.sc=p10 at *
  generalize c6.ia=q0 at *
  generalize c6.iss.length=q1 at *
  generalize c6.ic=q2 at *
  generalize c6.at_=q3 at *
  generalize c6.next=q4 at *
  generalize c6.ga=q5 at *
  generalize c6.gone.length=q6 at *
  generalize c6.gc=q7 at *
  generalize c6.sa=q8 at *
  generalize c6.sig.length=q9 at *
  generalize c6.sc=q10 at *
  have h7:Below w6.heap.size w6 (w6.alloc (.cells #[.slice q0 q1 q2,.int .i64 q3,.int .i64 q4,.slice q5 q6 q7,.slice q8 q9 q10] 26)):=(Below.refl _ _).alloc (Nat.le_refl _) _
  have hh7:=Holds.fresh w6 26 #[.slice q0 q1 q2,.int .i64 q3,.int .i64 q4,.slice q5 q6 q7,.slice q8 q9 q10]
  have hx7:=HH5.out.under (H6.out.trans (h7.mono H6.out.size)) HH5.out.lt
  have x0:=hx7.cell 0
  have x1:=hx7.cell 1
  have x2:=hx7.cell 2
  have x3:=hx7.cell 3
  have x4:=hx7.cell 4
  have y0:=hh7.cell 0
  have y1:=hh7.cell 1
  have y2:=hh7.cell 2
  have y3:=hh7.cell 3
  have y4:=hh7.cell 4
  have HS7:=Lib.hid (HS0.out _ h7)
  have H27:=Lib.hid (H26.out.trans (h7.mono H26.out.size))
  have hoo:(ok == ok)=true:=by simp
  clear h7 hh7 hx7 HS0
  go_wp2_with fail
  refine HS7.out.mono ?_
  rintro e w8 ⟨rfl,hb8⟩
  have H28:=Lib.hid (H27.out.trans (hb8.mono H27.out.size))
  clear hb8 x0 x1 x2 x3 x4 y0 y1 y2 y3 y4 HS7
  go_wp2_with fail
  refine (HKN.out _ H28.out).mono ?_
  rintro e w9 ⟨rfl,hb9⟩
  have H29:=Lib.hid (HB2.out.trans ((H28.out.trans (hb9.mono H28.out.size)).mono HB2.out.size))
  clear hb9
  go_wp2_with fail
  go_ret
  exact ⟨rfl,H29.out⟩
end Go.Proofs.YtcibjcgipfpniaaGreatDoor
namespace Go.Proofs.YtcibjcgipfpniaaGreatDoor
open Go.RowKit Go.ChangeShapes

theorem rd_of_row {k:IntKind} {m:Nat} (hk:∀ n:Int,(Lit.int k n).wf=true→0≤n∧n<(m:Int)) {w:World} {a:Option Addr} {len cap:Nat} {zs:List Int}
  (h:(a=none∧len=0∧cap=0∧zs=[]) ∨
   ∃ x,a=some x∧len≤cap∧cap≤maxLen∧zs.length=cap∧(∀ i,i<zs.length→w.cell? (x.add i)=some (.int k (zs.getD i 0)))∧∀ n∈zs,(Lit.int k n).wf=true) :
  ∃ l:List Nat,l.length=len∧Rd k w w.heap.size a cap l∧∀ x∈l,x<m:=by
 rcases h with ⟨rfl,rfl,rfl,rfl⟩ | ⟨x,rfl,hl,hm,hz,hc,hwf⟩
 ·exact ⟨[],rfl,Rd.nil_ k w _,fun x hx=>by cases hx⟩
 ·refine ⟨(zs.take len).map Int.toNat,by simp;omega,⟨by simp;omega,by unfold maxLen at hm;exact hm,fun hn=>?_⟩,fun y hy=>?_⟩
  ·have h0:0<zs.length:=by simp at hn;omega
   obtain ⟨b,off,sp⟩:=x
   have hc0:=hc 0 h0
   have hsp:sp=none:=by simpa [Addr.add] using World.cell?_spot hc0
   subst hsp
   have hadd:∀ j,(⟨b,off,none⟩:Addr).add j=⟨b,off+j,none⟩:=fun j=>by unfold Addr.add;split <;> simp_all
   refine ⟨b,off,rfl,?_,fun j hj=>?_⟩
   ·have:=World.block_lt_of_cell? w _ hc0
    rw [hadd] at this
    exact this
   ·have hj':j<len∧j<zs.length:=by simp at hj;omega
    rw [←hadd,hc j hj'.2]
    have hw:=(hk zs[j] (hwf _ (List.getElem_mem hj'.2))).1
    simp [List.getD,hj'.1,hj'.2,Int.toNat_of_nonneg hw]
  ·obtain ⟨z,hz',rfl⟩:=List.mem_map.1 hy
   have:=hk z (hwf z (List.mem_of_mem_take hz'))
   omega
theorem wf_u8 (n:Int) (h:(Lit.int .u8 n).wf=true):0≤n∧n<((256:Nat):Int):=by
 have:=bounds_u8 h
 omega
end Go.Proofs.YtcibjcgipfpniaaGreatDoor
namespace Go.Proofs.YtcibjcgipfpniaaGreatDoor
open Go.RowKit Go.ChangeShapes Go.WideShapes
set_option linter.unusedVariables false

theorem rd1_open {H:Type} {enc:TypeId×Value→H} {w:World} {base:Nat} {held:Bool} {fuel:Nat} {v:Value} {x:DataW H×List MemPlace} (h:DataW.trod enc Tryz.prog w base (fun _=>true) held fuel 24 v.cells.toList=some x) (hv:∃ a n c,v = .slice a n c) :
  ∃ (A:Option Addr) (n c:Nat) (l:List Nat),v = .slice A n c∧l.length=n∧Rd .u8 w w.heap.size A c l∧∀ x∈l,x<256:=by
 obtain ⟨a,n,c,rfl⟩:=hv
 rcases open_ints Tryz.underlying24 Tryz.underlying5 (by kernel_rfl) h with ⟨hcs,_⟩ | ⟨x,l,c',zs,hcs,_,hl,hm,hz,_,hcell,hwz⟩
 ·simp [Value.cells] at hcs
  obtain ⟨rfl,rfl,rfl⟩:=hcs
  exact ⟨none,0,0,[],rfl,rfl,Rd.nil_ _ _ _,fun x hx=>by cases hx⟩
 ·simp [Value.cells] at hcs
  obtain ⟨rfl,rfl,rfl⟩:=hcs
  obtain ⟨b,h1,h2,h3⟩:=rd_of_row wf_u8 (w:=w) (a:=some x) (len:=n) (cap:=c) (zs:=zs) (.inr ⟨x,rfl,hl,hm,by simpa using hz,hcell,hwz⟩)
  exact ⟨_,_,_,b,rfl,h1,h2,h3⟩
end Go.Proofs.YtcibjcgipfpniaaGreatDoor
namespace Go.Proofs.YtcibjcgipfpniaaGreatDoor
open Go.RowKit
set_option linter.unusedVariables false

def ren8:Go.Shelf.Ren:=⟨fun x=>x,fun x=>if x=5 then 5 else if x=119 then 138 else if x=138 then 140 else 141,fun g=>if g=3 then 0 else 1⟩
theorem first_data:(Rows.laid_unicode_utf8_first:DataW Unit)=Lib.firstData:=by kernel_rfl
theorem accept_data:(Rows.laid_unicode_utf8_acceptRanges:DataW Unit)=Lib.acceptData:=by kernel_rfl
theorem tabs_of {W : World} (h : laidMetH Tryz.prog [("apostille/sha.k", Rows.laid_apostille_sha_k), ("unicode/utf8.acceptRanges", Rows.laid_unicode_utf8_acceptRanges), ("unicode/utf8.first", Rows.laid_unicode_utf8_first)] W) : Lib.Utf8Tabs 0 1 W := by
 rw [MakeChecks.laidMetH_plain _ _ _ (by kernel_rfl),first_data,accept_data] at h
 exact utf8Tabs_of_readsT (ρ:=ren8) (P:=Tryz.prog) ⟨by kernel_rfl,by kernel_rfl,by kernel_rfl,by kernel_rfl⟩ ⟨by kernel_rfl,by kernel_rfl,by kernel_rfl,by kernel_rfl,by kernel_rfl,by kernel_rfl,by kernel_rfl⟩ (Lib.laidMet.reads h (.tail _ (.tail _ (.head _)))) (Lib.laidMet.reads h (.tail _ (.head _)))
end Go.Proofs.YtcibjcgipfpniaaGreatDoor
