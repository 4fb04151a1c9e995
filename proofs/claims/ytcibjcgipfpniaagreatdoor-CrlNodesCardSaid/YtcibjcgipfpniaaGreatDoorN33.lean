/- Words and laws for the statement, part 33. -/
import Derived.BigRegion
import Derived.BigQuiet
import Derived.OpenShut
import Derived.Deep.SlicePairs
import Derived.ChangeArms
import Derived.SizedLaws
import Derived.Test.YtcibjcgipfpniaaGreatDoorChecked
import Derived.ChangeSlices
import Derived.WideShapes
import Derived.Deep.Slices
import Derived.Lib.SmallJoins
import Derived.Test.YtcibjcgipfpniaaGreatDoorRows
import Derived.Lib.LaidTab
import Derived.Lay
import Derived.LaidMore
import Derived.LaidOnce
import Derived.MakeChecks
import Derived.Lib.LaidU8T
import Derived.Test.YtcibjcgipfpniaaGreatDoorN01
import Derived.Test.YtcibjcgipfpniaaGreatDoorN03
import Derived.Test.YtcibjcgipfpniaaGreatDoorN14
import Derived.Test.YtcibjcgipfpniaaGreatDoorN16
import Derived.Test.YtcibjcgipfpniaaGreatDoorN24
import Derived.Test.YtcibjcgipfpniaaGreatDoorN28
import Derived.Test.YtcibjcgipfpniaaGreatDoorN29
import Derived.Test.YtcibjcgipfpniaaGreatDoorN31
import Derived.Test.YtcibjcgipfpniaaGreatDoorN32
namespace Go.Proofs.YtcibjcgipfpniaaGreatDoor
open Go.RowKit
set_option linter.unusedVariables false
set_option linter.unusedSimpArgs false

theorem SizePost.any {w w':World} {o:Option (Nat×Nat)} {e:Ending} (h:SizePost w o e w'):∃ (k u:Int) (t:Bool),e = .returned (.tuple #[.int .i64 k,.int .i64 u,.bool t])∧Below w.heap.size w w':=by
 rcases o with _ | ⟨k,u⟩
 ·obtain ⟨k,u,h1,h2⟩:=h
  exact ⟨k,u,false,h1,h2⟩
 ·exact ⟨_,_,true,h.1,h.2⟩
/-- Where the document's reading stands. -/
def Sr (w V:World) (B Br x:Nat) (k y:Int) (bv kv:Value):Prop :=
 Holds V Br 72 #[.int .i64 k,.int .i64 y]∧Holds V w.heap.size 32 #[.int .u8 0,.slice none 0 0,.slice none 0 0]∧Holds V (w.heap.size+1) 32 #[.int .u8 (x:Int),bv,kv]∧w.grownBy V (some Br)∧w.heap.size+2≤V.heap.size∧B≤Br∧Br<w.heap.size
def OneTells (w w':World) (A:Option Addr) (n c:Nat) (t0:Int) (a1:Option Addr) (n1 c1:Nat) (a2:Option Addr) (n2 c2:Nat) (S:Option Addr) (s t:Nat) (k y:Int):Except Nat (Tr×Nat×Nat)→Prop
 | .error x=>y=(x:Int)∧s<n
 | .ok (t',m,cc)=>y=0∧k=(cc:Int)∧S=dropA A m c∧s=n - m∧t=c - m∧∃ lt:Lt,lcell lt=[.int .u8 t0,.slice a1 n1 c1,.slice a2 n2 c2]∧lt.t=t'∧TrIn w' w.heap.size w'.heap.size lt
def OnePost (w:World) (Br:Nat) (A:Option Addr) (n c:Nat) (r:Except Nat (Tr×Nat×Nat)) (e:Ending) (w':World):Prop :=
 ∃ (t0:Int) (a1:Option Addr) (n1 c1:Nat) (a2:Option Addr) (n2 c2:Nat) (S:Option Addr) (s t:Nat) (k y:Int),e = .returned (.tuple #[.agg #[.int .u8 t0,.slice a1 n1 c1,.slice a2 n2 c2],.slice S s t])∧w.grownBy w' (some Br)∧Holds w' Br 72 #[.int .i64 k,.int .i64 y]∧OneTells w w' A n c t0 a1 n1 c1 a2 n2 c2 S s t k y r
section
variable {w w0 V V':World} {B Br x:Nat} {k y:Int} {bv kv:Value}
theorem Sr.aside (h:Sr w V B Br x k y bv kv) {p:Addr} (hp:w.heap.size+2≤p.block) (v:Value):Sr w (V.setCell p v) B Br x k y bv kv:=by
 obtain ⟨h1,h2,h3,h4,h7,h8,h9⟩:=h
 exact ⟨h1.aside (by omega) _,h2.aside (by omega) _,h3.aside (by omega) _,grown_new h4 (by omega) _,by show w.heap.size+2≤(V.heap.modify _ _).size;rw [Array.size_modify];exact h7,h8,h9⟩
theorem Sr.grown {row:Option Nat} (h:Sr w V B Br x k y bv kv) (hb:V.grownBy V' row) (hr:∀ g,row=some g→w.heap.size+2≤g):Sr w V' B Br x k y bv kv:=by
 obtain ⟨h1,h2,h3,h4,h7,h8,h9⟩:=h
 have hne:∀ g,g<w.heap.size+2→some g≠row:=fun g hg e=>by have:=hr g e.symm;omega
 exact ⟨h1.grown hb (hne _ (by omega)),h2.grown hb (hne _ (by omega)),h3.grown hb (hne _ (by omega)),h4.andThen hb fun j hj=>.inl (by have:=hr j hj;omega),Nat.le_trans h7 hb.size,h8,h9⟩
/-- A call has turned the reader. -/
theorem Sr.turned {k2 y2:Int} (h:Sr w V B Br x k y bv kv) (hb:V.grownBy V' (some Br)) (h1':Holds V' Br 72 #[.int .i64 k2,.int .i64 y2]):Sr w V' B Br x k2 y2 bv kv:=by
 obtain ⟨h1,h2,h3,h4,h7,h8,h9⟩:=h
 exact ⟨h1',h2.grown hb (fun e=>by injection e with e;omega),h3.grown hb (fun e=>by injection e with e;omega),h4.trans hb,Nat.le_trans h7 hb.size,h8,h9⟩
theorem Sr.out (h:Sr w V B Br x k y bv kv) (v0 v1 v2:Value) :
  Holds (((V.setCell ⟨w.heap.size,0,none⟩ v0).setCell ⟨w.heap.size,1,none⟩ v1).setCell ⟨w.heap.size,2,none⟩ v2) w.heap.size 32 #[v0,v1,v2] ∧
  Holds (((V.setCell ⟨w.heap.size,0,none⟩ v0).setCell ⟨w.heap.size,1,none⟩ v1).setCell ⟨w.heap.size,2,none⟩ v2) Br 72 #[.int .i64 k,.int .i64 y] ∧
  w.grownBy (((V.setCell ⟨w.heap.size,0,none⟩ v0).setCell ⟨w.heap.size,1,none⟩ v1).setCell ⟨w.heap.size,2,none⟩ v2) (some Br) ∧
  (((V.setCell ⟨w.heap.size,0,none⟩ v0).setCell ⟨w.heap.size,1,none⟩ v1).setCell ⟨w.heap.size,2,none⟩ v2).heap.size=V.heap.size ∧
  ∀ g,g≠w.heap.size→(((V.setCell ⟨w.heap.size,0,none⟩ v0).setCell ⟨w.heap.size,1,none⟩ v1).setCell ⟨w.heap.size,2,none⟩ v2).heap[g]?=V.heap[g]?:=by
 obtain ⟨h1,h2,h3,h4,h7,h8,h9⟩:=h
 have ne:Br≠w.heap.size:=by omega
 refine ⟨((h2.stored 0 v0).stored 1 v1).stored 2 v2,((h1.aside (p:=⟨w.heap.size,0,none⟩) ne _).aside (p:=⟨w.heap.size,1,none⟩) ne _).aside (p:=⟨w.heap.size,2,none⟩) ne _,grown_new (grown_new (grown_new h4 (Nat.le_refl _) _) (Nat.le_refl _) _) (Nat.le_refl _) _,?_,fun g hg=>?_⟩
 ·simp [World.setCell]
 ·rw [Below.heap_setCell _ ⟨w.heap.size,2,none⟩ _ g hg,Below.heap_setCell _ ⟨w.heap.size,1,none⟩ _ g hg,Below.heap_setCell _ ⟨w.heap.size,0,none⟩ _ g hg]
theorem OnePost.drew {A:Option Addr} {n c:Nat} {r:Except Nat (Tr×Nat×Nat)} {e:Ending} (h:OnePost w Br A n c r e V):OnePost w Br A n c r e V.drew:=by
 obtain ⟨t0,a1,n1,c1,a2,n2,c2,S,s,t,k,y,he,hg,hh,ht⟩:=h
 refine ⟨t0,a1,n1,c1,a2,n2,c2,S,s,t,k,y,he,one_drewN hg 1,hh,?_⟩
 rcases r with x | ⟨t',m,cc⟩
 ·exact ht
 ·obtain ⟨q1,q2,q3,q4,q5,lt,q6,q7,q8⟩:=ht
  exact ⟨q1,q2,q3,q4,q5,lt,q6,q7,fun w2 h2=>q8 w2 h2⟩
end
def sliceLen:Value→Nat
 | .slice _ n _=>n
 | _=>0
def ModeA (w V:World) (B d k0:Nat) (Lb:List Nat) (spec:Except Nat (List Tr×Nat)) (A':Option Addr) (n' c':Nat) (k y:Int) (K:Option Addr) (ln:Nat) (vs:List Value):Prop :=
 y=0∧∃ (cnt':Nat) (l:List Lt),k=(cnt':Int)∧vs=l.flatMap lcell∧l.length=ln∧Rd .u8 w B A' c' (Lb.drop (k0 - n'))∧cnt'≤600∧ln+n'≤k0∧Apart V (w.heap.size+2) K l∧spec=preT (l.map Lt.t) (rds (Lb.drop (k0 - n')) (d+1) cnt')
def RelO (w:World) (B Br x d k0:Nat) (Lb:List Nat) (spec:Except Nat (List Tr×Nat)) (v:Value) (V:World):Prop :=
 ∃ (A':Option Addr) (n' c':Nat) (k y:Int) (K:Option Addr) (kc ln:Nat) (vs:List Value),v = .slice A' n' c'∧Sr w V B Br x k y (.slice none 0 0) (.slice K ln kc)∧OwnV 32 3 V K kc ln vs∧(∀ g,blockOf K=some g→w.heap.size+2≤g)∧ln≤k0∧n'≤k0∧(ModeA w V B d k0 Lb spec A' n' c' k y K ln vs∨∃ y':Nat,y=(y':Int)∧y'≠0∧spec = .error y')
end Go.Proofs.YtcibjcgipfpniaaGreatDoor
namespace Go.Proofs.YtcibjcgipfpniaaGreatDoor
open Go.RowKit
set_option linter.unusedVariables false
set_option linter.unusedSimpArgs false

theorem ReadPost.drew {w W:World} {r:Except Nat Tr} {e:Ending} (h:ReadPost w r e W):ReadPost w r e W.drew:=by
 rcases r with x | t
 ·exact ⟨h.1,h.2.drew⟩
 ·obtain ⟨lt,h1,h2,h3,h4⟩:=h
  exact ⟨lt,h1,h2,h3.under' (Below.refl _ W).drew,h4.drew⟩
end Go.Proofs.YtcibjcgipfpniaaGreatDoor
namespace Go.Proofs.YtcibjcgipfpniaaGreatDoor
open Go.RowKit
set_option linter.unusedVariables false
set_option linter.unusedSimpArgs false
attribute [local go_sem ↓] Go.wp_at_zero Go.wp_at_succ

def nilT:Tr:=.mk 0 [] []
theorem made_nil {w w':World} {xs:List Nat} {e:Ending} (h:e = .returned (.agg #[.int .u8 0,.slice none 0 0,.slice none 0 0])∧Below w.heap.size w w'):MadeT w xs nilT e w' :=
 ⟨.mk 0 none 0 [] none 0 [],h.1,by simp [Lt.t,Lt.ts,nilT],fun w2 _ _=>ThP.iff.2 ⟨by omega,Rd.nil_ _ _ _,by simp,⟨by simp,by omega,fun hn=>by simp at hn⟩,fun j hj=>by simp at hj⟩,h.2⟩
noncomputable def clNT (r:Bool) (v:CV):Tr:=if r=true then clTr v else nilT
noncomputable def clBT (r:Bool) (v:CV):Tr:=if r=true then clBody v else nilT
noncomputable def clDG (r:Bool) (v:CV):List Nat:=if r=true then clDig v else []
def SZ (cl:Cl):Prop:=∀ x∈cl.iss,(bts x.s).length≤9223372036854775807
theorem clNodeA_any (w:World) (cl:Cl) (h:ClP cl w) (hT:Lib.Utf8Tabs 0 1 w) (hsz:SZ cl):Calls Tryz.prog 11 #[.agg (ccell cl).toArray] w (MadeT w [] (clNT (crlOk cl.v) cl.v)):=by
 rcases hr:crlOk cl.v with _ | _
 ·exact (node_no w cl h hT hsz hr).mono fun e w' h=>made_nil h
 ·exact clNode_any w [] cl h hr hT hsz (by simp)
theorem clNodeR_any (w:World) (cl:Cl) (h:ClP cl w):Calls Tryz.prog 12 #[.agg (ccell cl).toArray] w (MadeT w [] (clNT (crlOk cl.v) cl.v)):=by
 rcases hr:crlOk cl.v with _ | _
 ·exact (node'_no w cl h hr).mono fun e w' h=>made_nil h
 ·exact clNode'_any w [] cl h hr (by simp)
theorem clBodyA_any (w:World) (cl:Cl) (h:ClP cl w) (hT:Lib.Utf8Tabs 0 1 w) (hsz:SZ cl):Calls Tryz.prog 13 #[.agg (ccell cl).toArray] w (MadeT w [] (clBT (crlOk cl.v) cl.v)):=by
 rcases hr:crlOk cl.v with _ | _
 ·exact (body_no w cl h hT hsz hr).mono fun e w' h=>made_nil h
 ·exact clBody_any w [] cl h hr hT hsz (by simp)
theorem clBodyR_any (w:World) (cl:Cl) (h:ClP cl w):Calls Tryz.prog 14 #[.agg (ccell cl).toArray] w (MadeT w [] (clBT (crlOk cl.v) cl.v)):=by
 rcases hr:crlOk cl.v with _ | _
 ·exact (body'_no w cl h hr).mono fun e w' h=>made_nil h
 ·exact clBody'_any w [] cl h hr (by simp)
def DigP (w:World) (l:List Nat) (e:Ending) (w':World):Prop:=∃ A n c,e = .returned (.slice A n c)∧(∀ W,Below w'.heap.size w' W→(convert 24 9 (.slice A n c)).run Tryz.prog W = .ok (.string (str l)) W)∧Below w.heap.size w w'
theorem dig_yes {w w':World} {v:CV} {e:Ending} (h:∃ A c,e = .returned (.slice A 32 c)∧Rd .u8 w' w'.heap.size A c (clDig v)∧Below w.heap.size w w'):DigP w (clDig v) e w':=by
 obtain ⟨A,c,h1,h2,h3⟩:=h
 exact ⟨A,32,c,h1,fun W hW=>conv_str (h2.under hW) (digest_length _) (digest_oct _),h3⟩
theorem dig_no {w w':World} {e:Ending} (h:e = .returned (.slice none 0 0)∧Below w.heap.size w w'):DigP w [] e w' :=
 ⟨none,0,0,h.1,fun W hW=>conv_str (Rd.nil_ .u8 W 0) rfl (by simp),h.2⟩
theorem clDigA_any (w:World) (cl:Cl) (h:ClP cl w) (hT:Lib.Utf8Tabs 0 1 w) (hk:KMet w) (hsz:SZ cl):Calls Tryz.prog 8 #[.agg (ccell cl).toArray] w (DigP w (clDG (crlOk cl.v) cl.v)):=by
 rcases hr:crlOk cl.v with _ | _
 ·exact (digest_no w cl h hT hsz hr).mono fun e w' h=>dig_no h
 ·exact (clDig_any w cl h hr hT hk hsz).mono fun e w' h=>dig_yes h
theorem clDigR_any (w:World) (cl:Cl) (h:ClP cl w):Calls Tryz.prog 9 #[.agg (ccell cl).toArray] w (DigP w (clDG (crlOk cl.v) cl.v)):=by
 rcases hr:crlOk cl.v with _ | _
 ·exact (digest'_no w cl h hr).mono fun e w' h=>dig_no h
 ·exact (clDig'_any w cl h hr).mono fun e w' h=>dig_yes h
/-! What is small enough. -/
theorem enc_splitC (t:Tr):t.body.length+(Tr.encs t.kids).length<t.enc.length:=by
 obtain ⟨tag,body,kids⟩:=t
 rw [Tr.enc]
 simp [Tr.body,Tr.kids]
 omega
theorem encs_kidC:∀ {l:List Tr} {k:Tr},k∈l→k.enc.length≤(Tr.encs l).length
 | x :: r,k,h=>by
  rw [Tr.encs,List.length_append]
  rcases List.mem_cons.1 h with rfl | h
  ·omega
  ·have:=encs_kidC h
   omega
theorem encs_lenC:∀ l:List Tr,l.length≤(Tr.encs l).length
 | []=>by simp
 | x :: r=>by
  rw [Tr.encs,List.length_append,List.length_cons]
  have:=encs_lenC r
  have:=enc_splitC x
  omega
theorem sm_kids {t:Tr} {n:Nat} (h:t.enc.length≤n):t.kids.length≤n∧t.body.length≤n∧∀ k∈t.kids,k.enc.length≤n:=by
 have h1:=enc_splitC t
 have h2:=encs_lenC t.kids
 exact ⟨by omega,by omega,fun k hk=>by have:=encs_kidC hk;omega⟩
theorem sm_G {t:Tr} (h:t.enc.length≤12000):FitG t :=
 ⟨(sm_kids h).1,fun k hk=>⟨(sm_kids ((sm_kids h).2.2 k hk)).1,fun q hq=>⟨(sm_kids ((sm_kids ((sm_kids h).2.2 k hk)).2.2 q hq)).1,fun p hp=>(sm_kids ((sm_kids ((sm_kids ((sm_kids h).2.2 k hk)).2.2 q hq)).2.2 p hp)).2.1⟩⟩⟩
theorem sm_3 {t:Tr} (h:t.enc.length≤12000):Fit3 t:=by
 have a:=sm_kids h
 refine ⟨by omega,fun k hk=>?_⟩
 have b:=sm_kids (a.2.2 k hk)
 refine ⟨by omega,fun q hq=>?_⟩
 have c:=sm_kids (b.2.2 q hq)
 omega
theorem sm_C {t:Tr} (h:t.enc.length≤12000):FitC t:=by
 have a:=sm_kids h
 refine ⟨by omega,fun k hk=>⟨⟨?_,fun q hq=>?_⟩,?_⟩⟩
 ·have:=sm_kids (a.2.2 k hk);omega
 ·have b:=(sm_kids (a.2.2 k hk)).2.2 q hq
  exact ⟨sm_G b,sm_3 b⟩
 ·have:=sm_kids (a.2.2 k hk);omega
theorem clTr_small {v:CV} (h:crlOk v=true):(clTr v).enc.length≤12000:=by
 have h1:=(cl_small h).1
 have h6:=(crlOk_parts h).2.2.2.2.2.1
 unfold clTr
 have e1:=enc_mk 48 [] [clBody v,.mk 3 (0 :: v.sig) []]
 have e2:=enc_mk 3 (0 :: v.sig) []
 simp only [Tr.encs,List.length_append,List.length_nil,List.length_cons] at e1 e2
 omega
end Go.Proofs.YtcibjcgipfpniaaGreatDoor
namespace Go.Proofs.YtcibjcgipfpniaaGreatDoor
open Go.RowKit Go.ChangeShapes

theorem rd_of_row {k:IntKind} {m:Nat} (hk:∀ n:Int,(Lit.int k n).wf=true→0≤n∧n<(m:Int)) {w:World} {a:Option Addr} {len cap:Nat} {zs:List Int}
  (h:(a=none∧len=0∧cap=0∧zs=[]) ∨
   ∃ x,a=some x∧len≤cap∧cap≤maxLen∧zs.length=cap∧(∀ i,i<zs.length→w.cell? (x.add i)=some (.int k (zs.getD i 0)))∧∀ n∈zs,(Lit.int k n).wf=true) :
  ∃ l:List Nat,l.length=len∧Rd k w w.heap.size a cap l∧∀ x∈l,x<m:=by
 rcases h with ⟨rfl,rfl,rfl,rfl⟩ | ⟨x,rfl,hl,hm,hz,hc,hwf⟩
 ·exact ⟨[],rfl,Rd.nil_ k w _,fun x hx=>by cases hx⟩
 ·refine ⟨(zs.take len).map Int.toNat,by simp;omega,⟨by simp;omega,by unfold maxLen at hm;exact hm,fun hn=>?_⟩,fun y hy=>?_⟩
  ·have h0:0<zs.length:=by simp at hn;omega
   obtain ⟨b,off,sp⟩:=x
   have hc0:=hc 0 h0
   have hsp:sp=none:=by simpa [Addr.add] using World.cell?_spot hc0
   subst hsp
   have hadd:∀ j,(⟨b,off,none⟩:Addr).add j=⟨b,off+j,none⟩:=fun j=>by unfold Addr.add;split <;> simp_all
   refine ⟨b,off,rfl,?_,fun j hj=>?_⟩
   ·have:=World.block_lt_of_cell? w _ hc0
    rw [hadd] at this
    exact this
   ·have hj':j<len∧j<zs.length:=by simp at hj;omega
    rw [←hadd,hc j hj'.2]
    have hw:=(hk zs[j] (hwf _ (List.getElem_mem hj'.2))).1
    simp [List.getD,hj'.1,hj'.2,Int.toNat_of_nonneg hw]
  ·obtain ⟨z,hz',rfl⟩:=List.mem_map.1 hy
   have:=hk z (hwf z (List.mem_of_mem_take hz'))
   omega
theorem wf_u8 (n:Int) (h:(Lit.int .u8 n).wf=true):0≤n∧n<((256:Nat):Int):=by
 have:=bounds_u8 h
 omega
theorem wf_u32 (n:Int) (h:(Lit.int .u32 n).wf=true):0≤n∧n<((4294967296:Nat):Int):=by
 have:=bounds_u32 h
 omega
end Go.Proofs.YtcibjcgipfpniaaGreatDoor
namespace Go.Proofs.YtcibjcgipfpniaaGreatDoor
open Go.RowKit
set_option linter.unusedVariables false

theorem list_of {α:Type} [Inhabited α] {P:Nat→α→Prop}:∀ n,(∀ i,i<n→∃ a,P i a)→∃ l:List α,l.length=n∧∀ i,i<n→P i (l.getD i default)
 | 0,_=>⟨[],rfl,fun i h=>absurd h (by omega)⟩
 | n+1,h=>by
  obtain ⟨l,hl,hp⟩:=list_of n (fun i hi=>h i (by omega))
  obtain ⟨a,ha⟩:=h n (by omega)
  refine ⟨l ++ [a],by simp [hl],fun i hi=>?_⟩
  by_cases e:i=n
  ·subst e
   have e2:(l ++ [a]).getD i default=a:=by simp [List.getD,←hl]
   rw [e2];exact ha
  ·have e2:(l ++ [a]).getD i default=l.getD i default:=by simp [List.getD,List.getElem?_append_left (show i<l.length by omega)]
   rw [e2];exact hp i (by omega)

theorem cellsA:Tryz.prog.cellsOf 83 = 2:=by kernel_rfl

end Go.Proofs.YtcibjcgipfpniaaGreatDoor
namespace Go.Proofs.YtcibjcgipfpniaaGreatDoor
open Go.RowKit Go.ChangeShapes Go.WideShapes
set_option linter.unusedVariables false

theorem weightsAll_mem {H:Type} {P:Program} {e:TypeId}:∀ {ds:List (DataW H)} {d:DataW H},d∈ds→∀ k∈d.weights P e,k∈DataW.weightsAll P e ds
 | x :: r,d,hd,k,hk=>by
  simp only [DataW.weightsAll,List.mem_append]
  rcases List.mem_cons.1 hd with rfl | hd
  ·exact .inl hk
  ·exact .inr (weightsAll_mem hd k hk)
theorem cells_intA:Tryz.prog.cellsOf 3 = 1:=by kernel_rfl
theorem cells_strA:Tryz.prog.cellsOf 9 = 1:=by kernel_rfl
theorem att_openW {H:Type} {enc:TypeId×Value→H} {w:World} {base:Nat} {held:Bool} {n:Nat} {v0 v1:Value} {x:DataW H×List MemPlace} (h:DataW.trod enc Tryz.prog w base (fun _=>true) held n 83 [v0,v1]=some x) :
  ∃ d:Att,v0 = .int .i64 d.k∧v1 = .string d.s∧∃ k∈x.1.weights Tryz.prog 83,(bts d.s).length≤k:=by
 obtain ⟨xs,k,_,hx,_,hlen,hf⟩:=DataW.trod_struct Tryz.underlying83 h
 obtain ⟨y0,y1,rfl⟩:∃ y0 y1,xs=[y0,y1]:=by
  match xs,hlen with
  | [y0,y1],_=>exact ⟨y0,y1,rfl⟩
 have g0:=hf 0 _ rfl
 have g1:=hf 1 _ rfl
 simp [cells_intA,cells_strA] at g0 g1
 obtain ⟨i0,e0,_,_⟩:=DataW.trod_int Tryz.underlying3 g0
 obtain ⟨s,e1,e2,_⟩:=DataW.trod_string Tryz.underlying9 g1
 refine ⟨⟨i0,s⟩,by simpa using e0,by simpa using e1,s.data.toList.length,?_,by simp [bts]⟩
 rw [hx]
 simp only [DataW.weights,Tryz.underlying83,List.map_cons,List.map_nil]
 refine DataW.weights_mem_each (j:=1) rfl rfl _ ?_
 rw [e2]
 simp [DataW.weights]
theorem rdA_openW {H:Type} {enc:TypeId×Value→H} {w:World} {base:Nat} {held:Bool} {fuel:Nat} {v:Value} {x:DataW H×List MemPlace} (h:DataW.trod enc Tryz.prog w base (fun _=>true) held fuel 22 v.cells.toList=some x) (hv:∃ a n c,v = .slice a n c) :
  ∃ (A:Option Addr) (n c:Nat) (l:List Att),v = .slice A n c∧l.length=n∧RdA w w.heap.size A c l∧∀ y∈l,∃ k∈x.1.weights Tryz.prog 22,(bts y.s).length≤k:=by
 obtain ⟨a,n,c,rfl⟩:=hv
 rcases Deep.open_slice Tryz.underlying22 h with ⟨hcs,_⟩ | ⟨a',len,cap,m,n',D,Pl,hcs,_,hl,hm,hmm,hx,hc⟩
 ·simp [Value.cells] at hcs
  obtain ⟨rfl,rfl,rfl⟩:=hcs
  exact ⟨none,0,0,[],rfl,rfl,RdA.nil_ _ _ _ _ (by omega),fun y hy=>by cases hy⟩
 ·simp [Value.cells] at hcs
  obtain ⟨rfl,rfl,rfl⟩:=hcs
  have hlm:n≤m:=by rw [hmm];split <;> omega
  obtain ⟨l,hln,hlp⟩:=list_of (P:=fun i (t:Att)=>(w.cell? (a'.add (i*2))=some (.int .i64 t.k)∧w.cell? (a'.add (i*2+1))=some (.string t.s))∧∃ k∈(D i).weights Tryz.prog 83,(bts t.s).length≤k) n (fun i hi=>by
   obtain ⟨cs',h1,h2⟩:=hc i (by omega)
   rw [cellsA] at h1
   obtain ⟨_,hlen,hcell⟩:=World.cells?_some h1
   match cs',hlen with
   | [v0,v1],_ =>
    obtain ⟨t,e0,e1,r1⟩:=att_openW h2
    have k0:=hcell 0 (by omega)
    have k1:=hcell 1 (by omega)
    rw [Deep.add_add] at k0 k1
    exact ⟨t,⟨by rw [←e0];simpa using k0,by rw [←e1];simpa using k1⟩,r1⟩)
  have hwt:∀ i,i<n→∀ k∈(D i).weights Tryz.prog 83,k∈x.1.weights Tryz.prog 22:=fun i hi k hk=>by
   rw [hx]
   simp only [DataW.weights,Tryz.underlying22,List.mem_cons,List.mem_append]
   exact .inr (.inl (weightsAll_mem (d:=D i) (List.mem_map.2 ⟨i,by simpa using hi,rfl⟩) k hk))
  refine ⟨some a',n,c,l,rfl,hln,⟨by omega,by unfold maxLen at hm;exact hm,fun hn=>?_⟩,fun y hy=>?_⟩
  ·obtain ⟨b,off,sp'⟩:=a'
   have hc0:=(hlp 0 (by omega)).1.1
   have hsp:sp'=none:=by simpa [Addr.add] using World.cell?_spot hc0
   subst hsp
   have hadd:∀ j,(⟨b,off,none⟩:Addr).add j=⟨b,off+j,none⟩:=fun j=>by unfold Addr.add;split <;> simp_all
   refine ⟨b,off,rfl,?_,fun j hj=>?_⟩
   ·have:=World.block_lt_of_cell? w _ hc0
    rw [hadd] at this
    exact this
   ·obtain ⟨⟨k0,k1⟩,_⟩:=hlp j (by omega)
    rw [hadd] at k0 k1
    exact ⟨k0,by rw [show off+j*2+1=off+(j*2+1) by omega];exact k1⟩
  ·obtain ⟨j,hj,rfl⟩:=List.getElem_of_mem hy
   obtain ⟨_,k,hk,hle⟩:=hlp j (by omega)
   have e:l.getD j default=l[j]:=by simp [List.getD,hj]
   rw [e] at hle
   exact ⟨k,hwt j (by omega) k hk,hle⟩
end Go.Proofs.YtcibjcgipfpniaaGreatDoor
namespace Go.Proofs.YtcibjcgipfpniaaGreatDoor
open Go.RowKit Go.ChangeShapes Go.WideShapes
set_option linter.unusedVariables false

theorem rd1_open {H:Type} {enc:TypeId×Value→H} {w:World} {base:Nat} {held:Bool} {fuel:Nat} {v:Value} {x:DataW H×List MemPlace} (h:DataW.trod enc Tryz.prog w base (fun _=>true) held fuel 24 v.cells.toList=some x) (hv:∃ a n c,v = .slice a n c) :
  ∃ (A:Option Addr) (n c:Nat) (l:List Nat),v = .slice A n c∧l.length=n∧Rd .u8 w w.heap.size A c l∧∀ x∈l,x<256:=by
 obtain ⟨a,n,c,rfl⟩:=hv
 rcases open_ints Tryz.underlying24 Tryz.underlying5 (by kernel_rfl) h with ⟨hcs,_⟩ | ⟨x,l,c',zs,hcs,_,hl,hm,hz,_,hcell,hwz⟩
 ·simp [Value.cells] at hcs
  obtain ⟨rfl,rfl,rfl⟩:=hcs
  exact ⟨none,0,0,[],rfl,rfl,Rd.nil_ _ _ _,fun x hx=>by cases hx⟩
 ·simp [Value.cells] at hcs
  obtain ⟨rfl,rfl,rfl⟩:=hcs
  obtain ⟨b,h1,h2,h3⟩:=rd_of_row wf_u8 (w:=w) (a:=some x) (len:=n) (cap:=c) (zs:=zs) (.inr ⟨x,rfl,hl,hm,by simpa using hz,hcell,hwz⟩)
  exact ⟨_,_,_,b,rfl,h1,h2,h3⟩
end Go.Proofs.YtcibjcgipfpniaaGreatDoor
namespace Go.Proofs.YtcibjcgipfpniaaGreatDoor
open Go.RowKit Go.ChangeShapes Go.WideShapes
set_option linter.unusedVariables false

theorem nat_open {H:Type} {enc:TypeId×Value→H} {w:World} {base:Nat} {held:Bool} {fuel:Nat} {v:Value} {x:DataW H×List MemPlace} (h:DataW.trod enc Tryz.prog w base (fun _=>true) held fuel 42 v.cells.toList=some x) (hv:∃ a n c,v = .slice a n c) :
  ∃ (A:Option Addr) (n c:Nat) (l:List Nat),v = .slice A n c∧l.length=n∧Rd .u32 w w.heap.size A c l∧Dg l:=by
 obtain ⟨a,n,c,rfl⟩:=hv
 rcases open_ints Tryz.underlying42 Tryz.underlying59 (by kernel_rfl) h with ⟨hcs,_⟩ | ⟨x,l,c',zs,hcs,_,hl,hm,hz,_,hcell,hwz⟩
 ·simp [Value.cells] at hcs
  obtain ⟨rfl,rfl,rfl⟩:=hcs
  exact ⟨none,0,0,[],rfl,rfl,Rd.nil_ _ _ _,fun x hx=>by cases hx⟩
 ·simp [Value.cells] at hcs
  obtain ⟨rfl,rfl,rfl⟩:=hcs
  obtain ⟨b,h1,h2,h3⟩:=rd_of_row wf_u32 (w:=w) (a:=some x) (len:=n) (cap:=c) (zs:=zs) (.inr ⟨x,rfl,hl,hm,by simpa using hz,hcell,hwz⟩)
  exact ⟨_,_,_,b,rfl,h1,h2,h3⟩
theorem slice_formC {H:Type} {enc:TypeId×Value→H} {P:Program} {w:World} {base:Nat} {sp:Nat→Bool} {held:Bool} {fuel:Nat} {t e:TypeId} {v:Value} {x:DataW H×List MemPlace} (ht:P.underlying t=some (.slice e)) (h:DataW.trod enc P w base sp held fuel t [v]=some x):∃ a n c,v = .slice a n c:=by
 rcases Deep.open_slice ht h with ⟨hcs,_⟩ | ⟨a,len,cap,m,n,D,Pl,hcs,_⟩
 ·exact ⟨none,0,0,by simpa using hcs⟩
 ·exact ⟨some a,len,cap,by simpa using hcs⟩
theorem cells_nat:Tryz.prog.cellsOf 42 = 1:=by kernel_rfl
theorem cells_i64:Tryz.prog.cellsOf 2 = 1:=by kernel_rfl
theorem cells_gone:Tryz.prog.cellsOf 44 = 2:=by kernel_rfl
theorem cells_gones:Tryz.prog.cellsOf 23 = 1:=by kernel_rfl
theorem cells_attrs:Tryz.prog.cellsOf 22 = 1:=by kernel_rfl
theorem cells_u8s:Tryz.prog.cellsOf 24 = 1:=by kernel_rfl
theorem cells_crl:Tryz.prog.cellsOf 26 = 5:=by kernel_rfl
theorem gn_open {H:Type} {enc:TypeId×Value→H} {w:World} {base:Nat} {held:Bool} {n:Nat} {v0 v1:Value} {x:DataW H×List MemPlace} (h:DataW.trod enc Tryz.prog w base (fun _=>true) held n 44 [v0,v1]=some x) :
  ∃ d:Gn,v0 = .slice d.sa d.ser.length d.sc∧v1 = .int .i64 d.tm∧GnP d w:=by
 obtain ⟨xs,k,_,hx,_,hlen,hf⟩:=DataW.trod_struct Tryz.underlying44 h
 obtain ⟨y0,y1,rfl⟩:∃ y0 y1,xs=[y0,y1]:=by
  match xs,hlen with
  | [y0,y1],_=>exact ⟨y0,y1,rfl⟩
 have g0:=hf 0 _ rfl
 have g1:=hf 1 _ rfl
 simp [cells_nat,cells_i64] at g0 g1
 obtain ⟨a0,n0,c0,rfl⟩:=slice_formC Tryz.underlying42 g0
 obtain ⟨i1,e1,_,_⟩:=DataW.trod_int Tryz.underlying2 g1
 obtain ⟨A,n2,c2,l,e2,hl,hr,hd⟩:=nat_open (v:=.slice a0 n0 c0) g0 ⟨_,_,_,rfl⟩
 injection e2 with e2a e2b e2c
 subst e2a e2b e2c
 exact ⟨⟨a0,c0,l,i1⟩,by rw [←hl],by simpa using e1,hr,hd⟩
theorem gs_open {H:Type} {enc:TypeId×Value→H} {w:World} {base:Nat} {held:Bool} {fuel:Nat} {v:Value} {x:DataW H×List MemPlace} (h:DataW.trod enc Tryz.prog w base (fun _=>true) held fuel 23 v.cells.toList=some x) (hv:∃ a n c,v = .slice a n c) :
  ∃ (A:Option Addr) (n c:Nat) (l:List Gn),v = .slice A n c∧l.length=n∧GsP A c l w:=by
 obtain ⟨a,n,c,rfl⟩:=hv
 rcases Deep.open_slice Tryz.underlying23 h with ⟨hcs,_⟩ | ⟨a',len,cap,m,n',D,Pl,hcs,_,hl,hm,hmm,hx,hc⟩
 ·simp [Value.cells] at hcs
  obtain ⟨rfl,rfl,rfl⟩:=hcs
  exact ⟨none,0,0,[],rfl,rfl,GsP.none _⟩
 ·simp [Value.cells] at hcs
  obtain ⟨rfl,rfl,rfl⟩:=hcs
  have hlm:n≤m:=by rw [hmm];split <;> omega
  obtain ⟨l,hln,hlp⟩:=list_of (P:=fun i (t:Gn)=>(w.cell? (a'.add (i*2))=some (.slice t.sa t.ser.length t.sc)∧w.cell? (a'.add (i*2+1))=some (.int .i64 t.tm))∧GnP t w) n (fun i hi=>by
   obtain ⟨cs',h1,h2⟩:=hc i (by omega)
   rw [cells_gone] at h1
   obtain ⟨_,hlen,hcell⟩:=World.cells?_some h1
   match cs',hlen with
   | [v0,v1],_ =>
    obtain ⟨t,e0,e1,r1⟩:=gn_open h2
    have k0:=hcell 0 (by omega)
    have k1:=hcell 1 (by omega)
    rw [Deep.add_add] at k0 k1
    exact ⟨t,⟨by rw [←e0];simpa using k0,by rw [←e1];simpa using k1⟩,r1⟩)
  refine ⟨some a',n,c,l,rfl,hln,⟨by omega,by unfold maxLen at hm;exact hm,fun hn=>?_⟩,fun y hy=>?_⟩
  ·obtain ⟨b,off,sp'⟩:=a'
   have hc0:=(hlp 0 (by omega)).1.1
   have hsp:sp'=none:=by simpa [Addr.add] using World.cell?_spot hc0
   subst hsp
   have hadd:∀ j,(⟨b,off,none⟩:Addr).add j=⟨b,off+j,none⟩:=fun j=>by unfold Addr.add;split <;> simp_all
   refine ⟨b,off,rfl,?_,fun j hj=>?_⟩
   ·have:=World.block_lt_of_cell? w _ hc0
    rw [hadd] at this
    exact this
   ·obtain ⟨⟨k0,k1⟩,_⟩:=hlp j (by omega)
    rw [hadd] at k0 k1
    exact ⟨k0,by simpa [Nat.add_assoc] using k1⟩
  ·obtain ⟨j,hj,rfl⟩:=List.getElem_of_mem hy
   have h2:=(hlp j (by omega)).2
   rwa [show l.getD j default=l[j] by simp [List.getD,hj]] at h2
theorem list5 {α:Type} {l:List α} (h:l.length=5):∃ c0 c1 c2 c3 c4,l=[c0,c1,c2,c3,c4]:=by
 rcases l with _ | ⟨c0,_ | ⟨c1,_ | ⟨c2,_ | ⟨c3,_ | ⟨c4,_ | ⟨c5,r⟩⟩⟩⟩⟩⟩
 ·simp at h
 ·simp at h
 ·simp at h
 ·simp at h
 ·simp at h
 ·exact ⟨c0,c1,c2,c3,c4,rfl⟩
 ·simp at h
theorem array5 {α:Type} {cs:Array α} (h:cs.size=5):∃ c0 c1 c2 c3 c4,cs=#[c0,c1,c2,c3,c4]:=by
 obtain ⟨l⟩:=cs
 obtain ⟨c0,c1,c2,c3,c4,rfl⟩:=list5 (l:=l) h
 exact ⟨c0,c1,c2,c3,c4,rfl⟩
set_option maxRecDepth 100000 in
theorem crl_open {H:Type} {enc:TypeId×Value→H} {w:World} {base b0:Nat} {held:Bool} {r:Reach} {v:Value} {d:DataW H} {p:List MemPlace} (hv:Value.okWide Tryz.prog w r b0 26 v) (h:DataW.Trod enc Tryz.prog w base (fun _=>true) held 26 v d p) :
  ∃ cl:Cl,v = .agg (ccell cl).toArray∧ClP cl w∧∀ y∈cl.iss,∃ k∈d.weights Tryz.prog 26,(bts y.s).length≤k:=by
 obtain ⟨cs,rfl,hsz⟩:=okWide_struct Tryz.underlying26 hv
 obtain ⟨v0,v1,v2,v3,v4,rfl⟩:=array5 (hsz.trans cells_crl)
 obtain ⟨fuel,hf⟩:=h
 obtain ⟨xs,k,_,hx,_,hlen,hfs⟩:=DataW.trod_struct Tryz.underlying26 hf
 obtain ⟨y0,y1,y2,y3,y4,rfl⟩:=list5 hlen
 have g0:=hfs 0 _ rfl
 have g1:=hfs 1 _ rfl
 have g2:=hfs 2 _ rfl
 have g3:=hfs 3 _ rfl
 have g4:=hfs 4 _ rfl
 simp [Value.cells,cells_attrs,cells_i64,cells_gones,cells_u8s] at g0 g1 g2 g3 g4
 obtain ⟨a0,n0,c0,rfl⟩:=slice_formC Tryz.underlying22 g0
 obtain ⟨i1,e1,_,_⟩:=DataW.trod_int Tryz.underlying2 g1
 obtain ⟨i2,e2,_,_⟩:=DataW.trod_int Tryz.underlying2 g2
 obtain ⟨a3,n3,c3,rfl⟩:=slice_formC Tryz.underlying23 g3
 obtain ⟨a4,n4,c4,rfl⟩:=slice_formC Tryz.underlying24 g4
 obtain ⟨A0,m0,d0,iss,f0,hl0,hr0,hw0⟩:=rdA_openW (v:=.slice a0 n0 c0) g0 ⟨_,_,_,rfl⟩
 obtain ⟨A3,m3,d3,gone,f3,hl3,hr3⟩:=gs_open (v:=.slice a3 n3 c3) g3 ⟨_,_,_,rfl⟩
 obtain ⟨A4,m4,d4,sig,f4,hl4,hr4,ho4⟩:=rd1_open (v:=.slice a4 n4 c4) g4 ⟨_,_,_,rfl⟩
 injection f0 with f0a f0b f0c
 injection f3 with f3a f3b f3c
 injection f4 with f4a f4b f4c
 subst f0a f0b f0c f3a f3b f3c f4a f4b f4c
 have e1:v1 = .int .i64 i1:=by simpa using e1
 have e2:v2 = .int .i64 i2:=by simpa using e2
 subst e1 e2
 refine ⟨⟨a0,c0,iss,i1,i2,a3,c3,gone,a4,c4,sig⟩,by simp only [ccell];rw [hl0,hl3,hl4],⟨hr0,hr3,hr4,ho4⟩,fun y hy=>?_⟩
 obtain ⟨kk,hk,hle⟩:=hw0 y hy
 refine ⟨kk,?_,hle⟩
 simp only [Prod.mk.injEq] at hx
 rw [hx.1]
 simp only [DataW.weights,Tryz.underlying26,List.map_cons,List.map_nil]
 exact DataW.weights_mem_each (j:=0) rfl rfl _ hk
end Go.Proofs.YtcibjcgipfpniaaGreatDoor
namespace Go.Proofs.YtcibjcgipfpniaaGreatDoor
open Go.RowKit
set_option linter.unusedVariables false

theorem k_data:(Rows.laid_apostille_sha_k:DataW Unit)=Lib.tabData .u32 (KL.map fun x:Nat=>(x:Int)):=rfl
theorem kmet_of {W : World} (h : laidMetH Tryz.prog [("apostille/sha.k", Rows.laid_apostille_sha_k), ("unicode/utf8.acceptRanges", Rows.laid_unicode_utf8_acceptRanges), ("unicode/utf8.first", Rows.laid_unicode_utf8_first)] W) : KMet W := by
 rw [MakeChecks.laidMetH_plain _ _ _ (by kernel_rfl),k_data] at h
 have hT:=Lib.tabIs_of_head (P:=Tryz.prog) (g:=2) (t:=124) (e:=59) (n:=64) (by kernel_rfl) (by kernel_rfl) Tryz.underlying124 Tryz.underlying59 (by kernel_rfl) (by kernel_rfl) h
 have hc:∀ t,t<64→W.cell? ⟨2,t,none⟩=some (.int .u32 ((KL.getD t 0:Nat):Int)):=fun t ht=>by
  have hg0 : Tryz.prog.globalNamed "apostille/sha.k" = some 2 := by kernel_rfl
  have:=hT.cell hg0 t (by exact ht)
  rw [this]
  congr 2
  simp [List.getD,show t<KL.length from ht]
 exact ⟨World.block_lt_of_cell? W _ (hc 0 (by omega)),hc⟩
end Go.Proofs.YtcibjcgipfpniaaGreatDoor
namespace Go.Proofs.YtcibjcgipfpniaaGreatDoor
open Go.RowKit
set_option linter.unusedVariables false

def ren8:Go.Shelf.Ren:=⟨fun x=>x,fun x=>if x=5 then 5 else if x=119 then 138 else if x=138 then 140 else 141,fun g=>if g=3 then 0 else 1⟩
theorem first_data:(Rows.laid_unicode_utf8_first:DataW Unit)=Lib.firstData:=by kernel_rfl
theorem accept_data:(Rows.laid_unicode_utf8_acceptRanges:DataW Unit)=Lib.acceptData:=by kernel_rfl
theorem tabs_of {W : World} (h : laidMetH Tryz.prog [("apostille/sha.k", Rows.laid_apostille_sha_k), ("unicode/utf8.acceptRanges", Rows.laid_unicode_utf8_acceptRanges), ("unicode/utf8.first", Rows.laid_unicode_utf8_first)] W) : Lib.Utf8Tabs 0 1 W := by
 rw [MakeChecks.laidMetH_plain _ _ _ (by kernel_rfl),first_data,accept_data] at h
 exact utf8Tabs_of_readsT (ρ:=ren8) (P:=Tryz.prog) ⟨by kernel_rfl,by kernel_rfl,by kernel_rfl,by kernel_rfl⟩ ⟨by kernel_rfl,by kernel_rfl,by kernel_rfl,by kernel_rfl,by kernel_rfl,by kernel_rfl,by kernel_rfl⟩ (Lib.laidMet.reads h (.tail _ (.tail _ (.head _)))) (Lib.laidMet.reads h (.tail _ (.head _)))
end Go.Proofs.YtcibjcgipfpniaaGreatDoor
