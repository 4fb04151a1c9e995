/- Words and laws for the statement, part 7. -/
import Derived.Deep.AppendSrc
import Derived.Deep.Upon
import Derived.Test.YtcibjcgipfpniaaGreatDoorChecked
import Derived.WalkKit
import Derived.WalkSpells
import Derived.WalkLawsBesides
import Derived.Outline
import Derived.Test.YtcibjcgipfpniaaGreatDoorG01
import Derived.Test.YtcibjcgipfpniaaGreatDoorG04
import Derived.Test.YtcibjcgipfpniaaGreatDoorG05
import Derived.Test.YtcibjcgipfpniaaGreatDoorG06
namespace Go.Proofs.YtcibjcgipfpniaaGreatDoor
open Go.RowKit
set_option linter.unusedVariables false
set_option linter.unusedSimpArgs false

/-- P holds of the world, and of each that agrees with it but for the blocks xs and what is new. -/
def Off (xs:List Nat) (P:World→Prop) (w:World):Prop:=∀ w':World,w.heap.size≤w'.heap.size→(∀ g,g ∉ xs→g<w.heap.size→w'.heap[g]?=w.heap[g]?)→P w'
section
variable {xs ys:List Nat} {P Q:World→Prop} {w w':World}
theorem Off.at_ (h:Off xs P w):P w:=h w (Nat.le_refl _) fun _ _ _=>rfl
theorem Off.keep (h:Off xs P w) (hs:w.heap.size≤w'.heap.size) (hk:∀ g,g ∉ xs→g<w.heap.size→w'.heap[g]?=w.heap[g]?) (hx:∀ g,g∈ys→g∈xs∨w.heap.size≤g):Off ys P w':=fun w2 h2 h3 =>
 h w2 (Nat.le_trans hs h2) fun g h4 h5=>(h3 g (fun h6=>by rcases hx g h6 with h7 | h7;exact h4 h7;omega) (by omega)).trans (hk g h4 h5)
theorem Off.under (h:Off xs P w) (hb:Below w.heap.size w w'):Off xs P w':=h.keep hb.size (fun g _ hg=>hb.block g hg) (fun g hg=>.inl hg)
theorem Off.alloc (h:Off xs P w) (o:Obj):Off xs P (w.alloc o):=h.under ((Below.refl _ _).alloc (Nat.le_refl _) o)
theorem Off.drewN (h:Off xs P w) (n:Nat):Off xs P (w.drewN n):=h
theorem Off.drew (h:Off xs P w):Off xs P w.drew:=h
theorem Off.store (h:Off xs P w) {p:Addr} (hp:p.block∈xs) (u:Value):Off xs P (w.setCell p u):=h.keep (by simp [World.setCell]) (fun g hg _=>Below.heap_setCell w p u g (fun e=>hg (by rw [e];exact hp))) (fun g hg=>.inl hg)
theorem Off.grown (h:Off xs P w) {g:Nat} (hb:w.grownBy w' (some g)) (hg:g∈xs):Off xs P w':=h.keep hb.size (fun k h1 h2=>hb.block k h2 (fun e=>h1 (by injection e with e;rw [e];exact hg))) (fun g hg=>.inl hg)
theorem Off.new (h:Off xs P w) {g:Nat} (hg:w.heap.size≤g):Off (g :: xs) P w:=h.keep (Nat.le_refl _) (fun _ _ _=>rfl) (fun k hk=>by rcases List.mem_cons.1 hk with rfl | hk;exact .inr hg;exact .inl hk)
theorem Off.less (h:Off xs P w) (hx:∀ g,g∈ys→g∈xs):Off ys P w:=h.keep (Nat.le_refl _) (fun _ _ _=>rfl) (fun k hk=>.inl (hx k hk))
theorem Off.imp (h:Off xs P w) (hi:∀ w,P w→Q w):Off xs Q w:=fun w2 h2 h3=>hi w2 (h w2 h2 h3)
theorem Off.and (h:Off xs P w) (h':Off xs Q w):Off xs (fun w=>P w∧Q w) w:=fun w2 h2 h3=>⟨h w2 h2 h3,h' w2 h2 h3⟩
theorem Off.all {α:Type} {l:List α} {R:α→World→Prop} (h:∀ x∈l,Off xs (R x) w):Off xs (fun w=>∀ x∈l,R x w) w:=fun w2 h2 h3 x hx=>h x hx w2 h2 h3
end

/-! A thing. -/
def ThP (t:Lt) (w:World):Prop:=TrAt w w.heap.size t
theorem Rd.congr {k:IntKind} {w w':World} {B:Nat} {A:Option Addr} {c:Nat} {l:List Nat} (h:Rd k w B A c l) (hk:∀ g,g<B→w'.heap[g]?=w.heap[g]?):Rd k w' B A c l :=
 h.keep fun b o hb=>by simp only [World.cell?];rw [hk b hb]
theorem RowT.congr {w w':World} {B:Nat} {A:Option Addr} {c:Nat} {l:List Lt} (h:RowT w B A c l) (hk:∀ g,g<B→w'.heap[g]?=w.heap[g]?):RowT w' B A c l :=
 ⟨h.1,h.2.1,fun hn=>by
  obtain ⟨b,off,e,hlt,hc⟩:=h.2.2 hn
  have k:∀ o,w'.cell? ⟨b,o,none⟩=w.cell? ⟨b,o,none⟩:=fun o=>by simp only [World.cell?];rw [hk b hlt]
  exact ⟨b,off,e,hlt,fun j hj=>⟨(k _).trans (hc j hj).1,(k _).trans (hc j hj).2.1,(k _).trans (hc j hj).2.2⟩⟩⟩
theorem TrAt.congr {w w':World} {B:Nat} (hk:∀ g,g<B→w'.heap[g]?=w.heap[g]?):∀ (N:Nat) {t:Lt},t.sz<N→TrAt w B t→TrAt w' B t
 | 0,_,h,_=>by omega
 | N+1,.mk tag ba bc body ka kc kids,h,hr=>by
  rw [trAt_mk] at hr ⊢
  obtain ⟨h1,h2,h3,h4,h5⟩:=hr
  exact ⟨h1,h2.congr hk,h3,h4.congr hk,fun j hj=>TrAt.congr hk N (by have:=lt_kid (tag:=tag) (ba:=ba) (bc:=bc) (body:=body) (ka:=ka) (kc:=kc) hj;omega) (h5 j hj)⟩
/-- What came in keeps off what is new. -/
theorem Off.of_at {w:World} {t:Lt} {B:Nat} (h:TrAt w B t) (hB:B≤w.heap.size):Off [] (ThP t) w:=fun w' h2 h3 =>
 ((TrAt.congr (fun g hg=>h3 g (by simp) (by omega)) (t.sz+1) (Nat.lt_succ_self _) h)).more' (by omega)
theorem Off.of_rd {k:IntKind} {w:World} {B:Nat} {A:Option Addr} {c:Nat} {l:List Nat} (h:Rd k w B A c l) (hB:B≤w.heap.size):Off [] (fun w=>Rd k w w.heap.size A c l) w:=fun w' h2 h3 =>
 (h.congr (fun g hg=>h3 g (by simp) (by omega))).more (by omega)
theorem ThP.iff {w:World} {tag:Nat} {ba:Option Addr} {bc:Nat} {body:List Nat} {ka:Option Addr} {kc:Nat} {kids:List Lt} :
  ThP (.mk tag ba bc body ka kc kids) w↔tag<256∧Rd .u8 w w.heap.size ba bc body∧(∀ x∈body,x<256)∧RowT w w.heap.size ka kc kids∧∀ j,j<kids.length→ThP (kids.getD j default) w:=trAt_mk
/-- Bytes of one's own. -/
theorem Off.of_mine {xs:List Nat} {w:World} {B:Nat} {A:Option Addr} {c:Nat} {l:List Nat} (h:Mine 5 w B A c l) (hx:∀ g,blk_of A=some g→g ∉ xs):Off xs (fun w=>Rd .u8 w w.heap.size A c l) w:=fun w' h2 h3 =>
 (h.keep fun g hg=>h3 g (hx g hg) (h.block hg).2).rd
theorem off_body {xs:List Nat} {w:World} {tag c:Nat} {A:Option Addr} {l:List Nat} (h:Off xs (fun w=>Rd .u8 w w.heap.size A c l) w) (ht:tag<256) (ho:∀ x∈l,x<256):Off xs (ThP (.mk tag A c l none 0 [])) w :=
 h.imp fun w hr=>ThP.iff.2 ⟨ht,hr,ho,⟨by simp,by omega,fun hn=>by simp at hn⟩,fun j hj=>by simp at hj⟩
/-- Things in a row. -/
def KiP (A:Option Addr) (c:Nat) (ks:List Lt) (w:World):Prop:=RowT w w.heap.size A c ks∧∀ x∈ks,ThP x w
theorem getD_mem {α:Type} [Inhabited α] {l:List α} {j:Nat} (h:j<l.length):l.getD j default∈l:=by simp [List.getD,h]
theorem off_kids {xs:List Nat} {w:World} {tag c:Nat} {A:Option Addr} {ks:List Lt} (h:Off xs (KiP A c ks) w) (ht:tag<256):Off xs (ThP (.mk tag none 0 [] A c ks)) w :=
 h.imp fun w hr=>ThP.iff.2 ⟨ht,Rd.nil_ _ _ _,by simp,hr.1,fun j hj=>hr.2 _ (getD_mem hj)⟩
theorem kids_off {xs:List Nat} {w:World} {tag bc c:Nat} {ba A:Option Addr} {body:List Nat} {ks:List Lt} (h:Off xs (ThP (.mk tag ba bc body A c ks)) w):Off xs (KiP A c ks) w :=
 h.imp fun w hr=>by
  obtain ⟨_,_,_,h4,h5⟩:=ThP.iff.1 hr
  exact ⟨h4,fun x hx=>by
   obtain ⟨j,hj,rfl⟩:=List.getElem_of_mem hx
   have:=h5 j hj
   simpa [List.getD,hj] using this⟩
theorem KiP.kid {xs:List Nat} {w:World} {c j:Nat} {A:Option Addr} {ks:List Lt} (h:Off xs (KiP A c ks) w) (hj:j<ks.length):Off xs (ThP (ks.getD j default)) w:=h.imp fun w hr=>hr.2 _ (getD_mem hj)
theorem off_own {xs:List Nat} {w:World} {c n:Nat} {A:Option Addr} {l:List Lt} (hl:l.length=n) (h:OwnV 32 3 w A c n (l.flatMap lcell)) (hx:∀ g,blockOf A=some g→g ∉ xs) (hk:∀ x∈l,Off xs (ThP x) w):Off xs (KiP A c l) w:=fun w' h2 h3 =>
 ⟨by
  have h':OwnV 32 3 w' A c n (l.flatMap lcell):=h.keep fun g hg hlt=>h3 g (hx g hg) hlt
  have h4:=RowT.of_own hl h'
  exact h4,fun x hx2=>hk x hx2 w' h2 h3⟩
/-- A row of things laid at once. -/
theorem off_row {xs:List Nat} {w:World} {l:List Lt} (hk:∀ x∈l,Off xs (ThP x) w) (hx:w.heap.size ∉ xs) (hl:l.length≤9223372036854775807):Off xs (KiP (some ⟨w.heap.size,0,none⟩) l.length l) (w.alloc (.cells (l.flatMap lcell).toArray 32)):=by
 have hH:=Holds.fresh w 32 (l.flatMap lcell).toArray
 intro w' h2 h3
 have hs:(w.alloc (.cells (l.flatMap lcell).toArray 32)).heap.size=w.heap.size+1:=by simp
 have hH':Holds w' w.heap.size 32 (l.flatMap lcell).toArray:=(h3 _ hx (by omega)).trans hH
 refine ⟨⟨Nat.le_refl _,hl,fun hn=>⟨w.heap.size,0,rfl,by omega,fun j hj=>?_⟩⟩,fun x hx2=>(hk x hx2).alloc _ w' h2 h3⟩
 have e:l[j]?=some (l.getD j default):=by simp [List.getD,hj]
 have f:∀ t,t<3→(l.flatMap lcell)[3*j+t]?=(lcell (l.getD j default))[t]?:=fun t ht=>flat_at (f:=lcell) (m:=3) (L:=l) (fun _ _=>rfl) e (j:=t) ht
 have k:∀ t,t<3→∀ v,(lcell (l.getD j default))[t]?=some v→w'.cell? ⟨w.heap.size,3*j+t,none⟩=some v:=fun t ht v hv=>by
  rw [hH'.cell,List.getElem?_toArray,f t ht,hv]
 exact ⟨by rw [show 0+j*3=3*j+0 by omega];exact k 0 (by omega) _ rfl,by rw [show 0+j*3+1=3*j+1 by omega];exact k 1 (by omega) _ rfl,by rw [show 0+j*3+2=3*j+2 by omega];exact k 2 (by omega) _ rfl⟩
/-- What a function that makes a thing answers. -/
def MadeT (w:World) (xs:List Nat) (T:Tr) (e:Ending) (w':World):Prop:=∃ lt:Lt,e = .returned lt.val∧lt.t=T∧Off xs (ThP lt) w'∧Below w.heap.size w w'
end Go.Proofs.YtcibjcgipfpniaaGreatDoor
namespace Go.Proofs.YtcibjcgipfpniaaGreatDoor
open Go.RowKit
set_option linter.unusedVariables false
set_option linter.unusedSimpArgs false

theorem under_nodes:Tryz.prog.underlying 30 = some (.slice 32):=by kernel_rfl
theorem off_block {xs:List Nat} {w:World} {g c:Nat} {cs:Array Value} {l:List Lt} (hH:Holds w g 32 cs) (hc:∀ (j:Nat) (u:Value),(l.flatMap lcell)[j]?=some u→cs[j]?=some u) (hx:g ∉ xs) (hl:l.length≤c) (h63:c≤9223372036854775807)
  (hk:∀ x∈l,Off xs (ThP x) w):Off xs (KiP (some ⟨g,0,none⟩) c l) w:=by
 intro w' h2 h3
 have hH':Holds w' g 32 cs:=(h3 _ hx hH.lt).trans hH
 refine ⟨⟨hl,h63,fun hn=>⟨g,0,rfl,by have:=hH.lt;omega,fun j hj=>?_⟩⟩,fun x hx2=>hk x hx2 w' h2 h3⟩
 have e:l[j]?=some (l.getD j default):=by simp [List.getD,hj]
 have f:∀ t,t<3→(l.flatMap lcell)[3*j+t]?=(lcell (l.getD j default))[t]?:=fun t ht=>flat_at (f:=lcell) (m:=3) (L:=l) (fun _ _=>rfl) e (j:=t) ht
 have k:∀ t,t<3→∀ v,(lcell (l.getD j default))[t]?=some v→w'.cell? ⟨g,3*j+t,none⟩=some v:=fun t ht v hv=>by
  rw [hH'.cell]
  exact hc _ _ (by rw [f t ht,hv])
 exact ⟨by rw [show 0+j*3=3*j+0 by omega];exact k 0 (by omega) _ rfl,by rw [show 0+j*3+1=3*j+1 by omega];exact k 1 (by omega) _ rfl,by rw [show 0+j*3+2=3*j+2 by omega];exact k 2 (by omega) _ rfl⟩
theorem off_none (xs:List Nat) (w:World):Off xs (KiP none 0 []) w:=fun _ _ _=>⟨⟨by simp,by omega,fun h=>by simp at h⟩,fun x hx=>by cases hx⟩
theorem rowT_cells {w:World} {B c:Nat} {a:Addr} {l:List Lt} (h:RowT w B (some a) c l):∀ (j:Nat) (u:Value),(l.flatMap lcell)[j]?=some u→w.cell? (a.add j)=some u:=by
 intro j u hu
 have hj:j<(l.flatMap lcell).length:=(List.getElem?_eq_some_iff.1 hu).1
 rw [flat_length (f:=lcell) (m:=3) (fun _ _=>rfl)] at hj
 obtain ⟨b,off,e,hlt,hc⟩:=h.2.2 (by omega)
 injection e with e
 subst e
 have hq:j / 3<l.length:=by omega
 obtain ⟨c0,c1,c2⟩:=hc (j / 3) hq
 have e2:l[j / 3]?=some (l.getD (j / 3) default):=by simp [List.getD,hq]
 have f:=flat_at (f:=lcell) (m:=3) (L:=l) (fun _ _=>rfl) e2 (j:=j % 3) (by omega)
 rw [show 3*(j / 3)+j % 3=j by omega,hu] at f
 have ha:(⟨b,off,none⟩:Addr).add j=⟨b,off+j,none⟩:=by unfold Addr.add;split <;> simp_all
 rw [ha,f]
 rcases (by omega:j % 3=0∨j % 3=1∨j % 3=2) with h3 | h3 | h3
 ·rw [show off+j=off+j / 3*3 by omega,c0,h3];rfl
 ·rw [show off+j=off+j / 3*3+1 by omega,c1,h3];rfl
 ·rw [show off+j=off+j / 3*3+2 by omega,c2,h3];rfl
theorem lcell_one (l:List Lt):∀ u∈l.flatMap lcell,u.oneCell'=true:=by
 intro u hu
 obtain ⟨t,_,h⟩:=List.mem_flatMap.1 hu
 simp only [lcell,List.mem_cons,List.not_mem_nil,or_false] at h
 rcases h with rfl | rfl | rfl <;> rfl
set_option maxRecDepth 100000 in
set_option maxHeartbeats 2000000 in
theorem cloneT_any (w:World) (xs:List Nat) (A:Option Addr) (c n:Nat) (ks:List Lt) (h:Off xs (KiP A c ks) w) (hn:ks.length=n) (hsz:n≤100000) (hxs:∀ x∈xs,x<w.heap.size) :
  Calls Tryz.prog 80 #[.slice A n c] w fun e w'=>∃ A' c',e = .returned (.slice A' n c')∧Off xs (KiP A' c' ks) w'∧Below w.heap.size w w':=by
 rcases A with _ | a
 ·have hn0:n=0:=by
   rcases Nat.eq_zero_or_pos n with h0 | h0
   ·exact h0
   ·obtain ⟨_,_,e,_⟩:=h.at_.1.2.2 (by omega)
    cases e
  subst hn0
  obtain rfl:=List.eq_nil_of_length_eq_zero hn
  clear h hn hxs
  have hnl:(binOp .eql 30 (.slice none 0 c) (.slice none 0 0)).run Tryz.prog w = .ok (.bool true) w:=run_eql_slice_nil w _ _ none 0 c under_nodes
  go_enter Tryz.func80,Tryz.ntmps80
  go_wp2_with fail
  go_ret
  exact ⟨_,_,rfl,off_none _ _,Below.refl _ _⟩
 ·obtain ⟨i,hi,hz,hsize,hbytes⟩:=info_parts info_node
  have hq:Below w.heap.size w (w.alloc (.cells #[] 32)):=(Below.refl _ _).alloc (Nat.le_refl _) _
  have hsrc:Src Tryz.prog i.size 30 (.slice (some a) n c) n (ks.flatMap lcell) (w.alloc (.cells #[] 32)):=by
   rw [hsize]
   exact Src.ofSlice _ under_nodes a n c _ (by rw [flat_length (f:=lcell) (m:=3) (fun _ _=>rfl),hn,Nat.mul_comm]) (rowT_cells (h.alloc (.cells #[] 32)).at_.1) (lcell_one ks)
  have hnl:(binOp .eql 30 (.slice (some a) n c) (.slice none 0 0)).run Tryz.prog w = .ok (.bool false) w:=run_eql_slice_nil w _ _ (some a) n c under_nodes
  have hrun:∃ A' c' W,(Builtin.append_ #[30,30] 30 #[.slice (some ⟨w.heap.size,0,none⟩) 0 0,.slice (some a) n c]).run Tryz.prog (w.alloc (.cells #[] 32)) = .ok (.slice A' n c') W∧Off xs (KiP A' c' ks) W∧Below w.heap.size w W:=by
   rcases Nat.eq_zero_or_pos n with h0 | h0
   ·subst h0
    obtain rfl:=List.eq_nil_of_length_eq_zero hn
    refine ⟨_,_,_,run_append_nothing _ _ _ _ 32 i under_nodes hi _ 0 0 (Nat.le_refl _) _ hsrc,fun _ _ _=>⟨⟨by simp,by omega,fun h=>by simp at h⟩,fun x hx=>by cases hx⟩,hq⟩
   ·have hold:(Builtin.firstCells i.size 0 (.slice (some ⟨w.heap.size,0,none⟩) 0 0)).run Tryz.prog (w.alloc (.cells #[] 32)).drew = .ok ([]:List Value).toArray (w.alloc (.cells #[] 32)).drew :=
     run_firstCells_some _ i.size 0 ⟨w.heap.size,0,none⟩ 0 0 [] (by simp) (fun j u hu=>by simp at hu)
    have hfit:Builtin.nextslicecap (0+n) 0*i.bytes≤281474976710656:=growslice_fits (by omega) (by rw [hbytes];omega)
    have hrun:=run_append_grow_src (P:=Tryz.prog) (w.alloc (.cells #[] 32)) 30 30 30 32 i _ under_nodes hi hz _ 0 0 [] hold _ n _ hsrc (by omega) (by omega) hfit
    rw [Nat.zero_add] at hrun
    have hge:=grownCap_ge (w.alloc (.cells #[] 32)) n 0 32
    have hcm:grownCap (w.alloc (.cells #[] 32)) n 0 32≤maxLen:=grownCap_le_maxLen _ n 0 _ (by unfold maxLen;omega)
    unfold maxLen at hcm
    have hs1:(w.alloc (.cells #[] 32)).heap.size=w.heap.size+1:=by simp
    refine ⟨_,_,_,hrun,?_,hq.drew.alloc (by show w.heap.size≤(w.alloc (.cells #[] 32)).heap.size;rw [hs1];omega) _⟩
    refine off_block (cs:=_) (Holds.fresh (w.alloc (.cells #[] 32)).drew 32 _) (fun j u hu=>?_) (fun hx=>?_) (by omega) hcm (fun x hx=>?_)
    ·rw [Array.getElem?_append_left (by have:=(List.getElem?_eq_some_iff.1 hu).1;simpa using this)]
     simpa using hu
    ·have:=hxs _ hx
     have e:(w.alloc (.cells #[] 32)).drew.heap.size=w.heap.size+1:=hs1
     omega
    ·exact ((h.alloc (.cells #[] 32)).drew.imp fun _ hh=>hh.2 x hx).alloc _
  obtain ⟨A',c',W,hrun,ho,hbw⟩:=hrun
  have HO:=Lib.hid ho
  have HB:=Lib.hid hbw
  clear h hn hxs ho hbw hsrc hq hi hz hsize hbytes
  go_enter Tryz.func80,Tryz.ntmps80
  go_wp2_with (first | (refine wpList_append_run _ rfl (.tmp 5) (.tmp 6) 30 rfl rfl _ _ rfl rfl _ _ hrun ?_) | fail)
  go_ret
  exact ⟨_,_,rfl,HO.out,HB.out⟩
end Go.Proofs.YtcibjcgipfpniaaGreatDoor
namespace Go.Proofs.YtcibjcgipfpniaaGreatDoor
open Go.RowKit
set_option linter.unusedVariables false
set_option linter.unusedSimpArgs false

/-- What is made in a call whose answer lies in a cell of its own. -/
theorem made_out {xs:List Nat} {w w':World} {lt:Lt} (h:Off (w.heap.size :: xs) (ThP lt) w') (a b c:Value) :
  Off xs (ThP lt) (((w'.setCell ⟨w.heap.size,0,none⟩ a).setCell ⟨w.heap.size,1,none⟩ b).setCell ⟨w.heap.size,2,none⟩ c) :=
 (((h.store (p:=⟨w.heap.size,0,none⟩) (by simp) a).store (p:=⟨w.heap.size,1,none⟩) (by simp) b).store (p:=⟨w.heap.size,2,none⟩) (by simp) c).less (fun g hg=>by simp [hg])
theorem below_out {w w':World} (h:Below w.heap.size w w') (a b c:Value):Below w.heap.size w (((w'.setCell ⟨w.heap.size,0,none⟩ a).setCell ⟨w.heap.size,1,none⟩ b).setCell ⟨w.heap.size,2,none⟩ c) :=
 ((h.setCell (p:=⟨w.heap.size,0,none⟩) (Nat.le_refl _) _).setCell (p:=⟨w.heap.size,1,none⟩) (Nat.le_refl _) _).setCell (p:=⟨w.heap.size,2,none⟩) (Nat.le_refl _) _
theorem off_prim {xs:List Nat} {v:Value} {w:World} {B tag:Nat} {b:List Nat} (h:PrimAt v w B tag b) (hx:∀ x∈xs,x<B):∃ lt:Lt,v=lt.val∧lt.t = .mk tag b []∧Off xs (ThP lt) w:=by
 obtain ⟨A,c,rfl,hr,hg,ho,ht⟩:=h
 refine ⟨.mk tag A c b none 0 [],rfl,rfl,off_body (fun w' h2 h3=>?_) ht ho⟩
 refine ⟨hr.1,hr.2.1,fun hn=>?_⟩
 obtain ⟨g,off,rfl,hlt,hc⟩:=hr.2.2 hn
 refine ⟨g,off,rfl,by omega,fun j hj=>?_⟩
 have hgx:g ∉ xs:=fun hgx=>by have:=hx g hgx;have:=hg g rfl;omega
 simp only [World.cell?]
 rw [h3 g hgx hlt]
 exact hc j hj
set_option maxRecDepth 100000 in
set_option maxHeartbeats 2000000 in
theorem id_any (w:World) (xs:List Nat) (A:Option Addr) (c n B:Nat) (l:List Nat) (hr:Rd .u8 w B A c l) (hn:l.length=n) (hB:B≤w.heap.size) (h12:n≤12000) (ho:∀ x∈l,x<256) (hxs:∀ x∈xs,x<w.heap.size) :
  Calls Tryz.prog 84 #[.slice A n c] w (MadeT w xs (.mk 6 l [])):=by
 obtain ⟨V,hV⟩:∃ V,V=w.alloc (.cells #[.int .u8 0,.slice none 0 0,.slice none 0 0] 32):=⟨_,rfl⟩
 have hz:Holds V w.heap.size 32 #[.int .u8 0,.slice none 0 0,.slice none 0 0]:=by rw [hV];exact Holds.fresh _ _ _
 have HB0:Hid (Below w.heap.size w V):=Lib.hid (by rw [hV];exact (Below.refl _ _).alloc (Nat.le_refl _) _)
 have hVs:w.heap.size<V.heap.size:=hz.lt
 have HC:=Lib.hid (clone_any V B A c n l (hr.under (HB0.out.mono hB)) hn (by omega) h12)
 have HZ:=Lib.hid hz
 have HV:=Lib.hid hV
 have HN:=Lib.hid hn
 have HO:=Lib.hid ho
 clear hr hn ho hz hV
 go_enter Tryz.func84,Tryz.ntmps84
 go_wp2_with fail
 rw [←HV.out]
 refine HC.out.mono ?_
 rintro e w2 ⟨A2,c2,rfl,hm2,hb2⟩
 have HQ2:Hid (Below w.heap.size w w2):=Lib.hid (HB0.out.trans (hb2.mono HB0.out.size))
 have hz2:=HZ.out.under hb2 hVs
 have HM2:=Lib.hid hm2
 have z0:=hz2.cell 0
 have z1:=hz2.cell 1
 have z2:=hz2.cell 2
 have y0:=hz2.open_ 0
 have y1:=hz2.open_ 1
 have y2:=hz2.open_ 2
 clear hb2 hm2 HC HV
 go_wp2_with fail
 refine ret_one rfl rfl (((hz2.stored 0 _).stored 1 _).stored 2 _) rfl ?_
 refine ⟨.mk 6 A2 c2 l none 0 [],by rw [←HN.out];rfl,rfl,made_out (off_body (Off.of_mine HM2.out fun g hg hx=>?_) (by omega) HO.out) _ _ _,below_out HQ2.out _ _ _⟩
 have h1:=(HM2.out.block hg).1
 rcases List.mem_cons.1 hx with h2 | h2
 ·omega
 ·have:=hxs g h2;omega
set_option maxRecDepth 100000 in
set_option maxHeartbeats 2000000 in
theorem seq_any (w:World) (xs:List Nat) (x c n:Nat) (A:Option Addr) (ks:List Lt) (h:Off xs (KiP A c ks) w) (hn:ks.length=n) (hx:x<256) (hsz:n≤100000) (hxs:∀ x∈xs,x<w.heap.size) :
  Calls Tryz.prog 35 #[.int .u8 (x:Int),.slice A n c] w (MadeT w xs (.mk x [] (ks.map Lt.t))):=by
 obtain ⟨V,hV⟩:∃ V,V=w.alloc (.cells #[.int .u8 0,.slice none 0 0,.slice none 0 0] 32):=⟨_,rfl⟩
 have hz:Holds V w.heap.size 32 #[.int .u8 0,.slice none 0 0,.slice none 0 0]:=by rw [hV];exact Holds.fresh _ _ _
 have HB0:Hid (Below w.heap.size w V):=Lib.hid (by rw [hV];exact (Below.refl _ _).alloc (Nat.le_refl _) _)
 have hVs:w.heap.size<V.heap.size:=hz.lt
 have hkV:Off (w.heap.size :: xs) (KiP A c ks) V:=by rw [hV];exact (h.new (Nat.le_refl _)).alloc _
 have HC:=Lib.hid (cloneT_any V (w.heap.size :: xs) A c n ks hkV hn hsz (fun y hy=>by rcases List.mem_cons.1 hy with rfl | hy;exact hVs;have:=hxs y hy;omega))
 have HK:=Lib.hid hkV
 have HZ:=Lib.hid hz
 have HV:=Lib.hid hV
 have HN:=Lib.hid hn
 clear h hn hz hV hkV
 go_enter Tryz.func35,Tryz.ntmps35
 go_wp2_with fail
 rw [←HV.out]
 refine HC.out.mono ?_
 rintro e w2 ⟨A2,c2,rfl,hk2,hb2⟩
 have HQ2:Hid (Below w.heap.size w w2):=Lib.hid (HB0.out.trans (hb2.mono HB0.out.size))
 have hz2:=HZ.out.under hb2 hVs
 have HK2:=Lib.hid hk2
 have z0:=hz2.cell 0
 have z1:=hz2.cell 1
 have z2:=hz2.cell 2
 have y0:=hz2.open_ 0
 have y1:=hz2.open_ 1
 have y2:=hz2.open_ 2
 clear hb2 hk2 HC HV
 go_wp2_with fail
 refine ret_one rfl rfl (((hz2.stored 0 _).stored 1 _).stored 2 _) rfl ?_
 refine ⟨.mk x none 0 [] A2 c2 ks,by rw [←HN.out];rfl,Lt.t_mk,made_out (off_kids HK2.out hx) _ _ _,below_out HQ2.out _ _ _⟩
set_option maxRecDepth 100000 in
set_option maxHeartbeats 2000000 in
theorem id'_any (w:World) (xs:List Nat) (A:Option Addr) (c n B:Nat) (l:List Nat) (hr:Rd .u8 w B A c l) (hn:l.length=n) (hB:B≤w.heap.size) (hmx:n≤900000) (ho:∀ x∈l,x<256) (hxs:∀ x∈xs,x<w.heap.size) :
  Calls Tryz.prog 88 #[.slice A n c] w (MadeT w xs (.mk 6 l [])):=by
 obtain ⟨V,hV⟩:∃ V,V=w.alloc (.cells #[.int .u8 0,.slice none 0 0,.slice none 0 0] 32):=⟨_,rfl⟩
 have hz:Holds V w.heap.size 32 #[.int .u8 0,.slice none 0 0,.slice none 0 0]:=by rw [hV];exact Holds.fresh _ _ _
 have HB0:Hid (Below w.heap.size w V):=Lib.hid (by rw [hV];exact (Below.refl _ _).alloc (Nat.le_refl _) _)
 have hVs:w.heap.size<V.heap.size:=hz.lt
 have HC:=Lib.hid (prim'_own V n c 6 B A l (hr.under (HB0.out.mono hB)) hn (by omega) hmx (by omega) ho)
 have HZ:=Lib.hid hz
 have HV:=Lib.hid hV
 have HN:=Lib.hid hn
 clear hr hn ho hz hV
 go_enter Tryz.func88,Tryz.ntmps88
 go_wp2_with fail
 rw [←HV.out]
 refine HC.out.mono ?_
 rintro e w2 ⟨v2,rfl,hp2,hb2⟩
 have HQ2:Hid (Below w.heap.size w w2):=Lib.hid (HB0.out.trans (hb2.mono HB0.out.size))
 have hz2:=HZ.out.under hb2 hVs
 obtain ⟨lt,hlt,hltt,hof⟩:=off_prim (xs:=w.heap.size :: xs) hp2 (fun y hy=>by rcases List.mem_cons.1 hy with rfl | hy;exact hVs;have:=hxs y hy;omega)
 have HLT:=Lib.hid hlt
 have HLTT:=Lib.hid hltt
 have HOF:=Lib.hid hof
 obtain ⟨A2,c2,rfl,_⟩:=hp2
 have z0:=hz2.cell 0
 have z1:=hz2.cell 1
 have z2:=hz2.cell 2
 have y0:=hz2.open_ 0
 have y1:=hz2.open_ 1
 have y2:=hz2.open_ 2
 clear hb2 HC HV hlt hltt hof
 go_wp2_with fail
 refine ret_one rfl rfl (((hz2.stored 0 _).stored 1 _).stored 2 _) rfl ?_
 exact ⟨lt,congrArg Ending.returned HLT.out,HLTT.out,made_out HOF.out _ _ _,below_out HQ2.out _ _ _⟩
set_option maxRecDepth 100000 in
set_option maxHeartbeats 2000000 in
theorem seq'_any (w:World) (xs:List Nat) (x c n:Nat) (A:Option Addr) (ks:List Lt) (h:Off xs (KiP A c ks) w) (hn:ks.length=n) (hx:x<256) :
  Calls Tryz.prog 37 #[.int .u8 (x:Int),.slice A n c] w (MadeT w xs (.mk x [] (ks.map Lt.t))):=by
 have HK:=Lib.hid (h.alloc (.cells #[.int .u8 (x:Int),.slice none 0 0,.slice A n c] 32))
 have HN:=Lib.hid hn
 clear h hn
 go_enter Tryz.func37,Tryz.ntmps37
 go_wp2_with fail
 refine ret_one rfl rfl (Holds.fresh _ _ _) rfl ?_
 exact ⟨.mk x none 0 [] A c ks,by rw [←HN.out];rfl,Lt.t_mk,off_kids HK.out hx,(Below.refl _ _).alloc (Nat.le_refl _) _⟩
end Go.Proofs.YtcibjcgipfpniaaGreatDoor
namespace Go.Proofs.YtcibjcgipfpniaaGreatDoor
open Go.RowKit
set_option linter.unusedVariables false
set_option linter.unusedSimpArgs false

/-- Is it things in one, of a tag? -/
def seqOk (x:Nat) (n:Nat) (tag:Nat):Bool:=decide (x=tag) && parted tag && decide (n=0)
def SeqPost (w:World) (xs:List Nat) (ks:List Lt):Bool→Ending→World→Prop
 | true,e,w'=>∃ A c,e = .returned (.tuple #[.slice A ks.length c,.bool true])∧Off xs (KiP A c ks) w'∧Below w.heap.size w w'
 | false,e,w'=>e = .returned (.tuple #[.slice none 0 0,.bool false])∧Below w.heap.size w w'
/-- Bytes of one's own, or none. -/
def GetB (w:World):Option (List Nat)→Ending→World→Prop
 | none,e,w'=>e = .returned (.tuple #[.slice none 0 0,.bool false])∧Below w.heap.size w w'
 | some b,e,w'=>∃ A c,e = .returned (.tuple #[.slice A b.length c,.bool true])∧Mine 5 w' w.heap.size A c b∧Below w.heap.size w w'
theorem GetB.one {w:World} {o:Option (List Nat)} {e:Ending} {w':World} (h:GetB w o e w'):∃ A c,e = .returned (.tuple #[.slice A (o.getD []).length c,.bool o.isSome])∧Mine 5 w' w.heap.size A c (o.getD [])∧Below w.heap.size w w':=by
 rcases o with _ | b
 ·exact ⟨none,0,h.1,Mine.nil _ _ _,h.2⟩
 ·exact h
/-- May it be an ID? -/
def idOk (b:List Nat):Bool:=decide (1≤b.length∧b.length≤20∧b.getD (b.length - 1) 0<128∧∀ i,i<b.length→¬ (b.getD i 0=128∧(i=0∨b.getD (i - 1) 0<128)))
theorem idOk_iff {b:List Nat}:idOk b=true↔1≤b.length∧b.length≤20∧b.getD (b.length - 1) 0<128∧∀ i,i<b.length→¬ (b.getD i 0=128∧(i=0∨b.getD (i - 1) 0<128)):=by
 unfold idOk;rw [decide_eq_true_iff]
theorem idOk_no {b:List Nat} (h:¬ (1≤b.length∧b.length≤20∧b.getD (b.length - 1) 0<128∧∀ i,i<b.length→¬ (b.getD i 0=128∧(i=0∨b.getD (i - 1) 0<128)))):idOk b=false:=by
 rw [Bool.eq_false_iff];exact fun hh=>h (idOk_iff.1 hh)
theorem rd_oct {b:List Nat} (ho:∀ x∈b,x<256) (j:Nat):b.getD j 0<256:=by
 rw [List.getD_eq_getElem?_getD]
 rcases h:b[j]? with _ | y
 ·simp
 ·exact ho y (List.mem_of_getElem? h)
theorem and32_is (x:Nat) (hx:x<256):(Go.bits BinOp.and IntKind.u8 ((x:Nat):Int) 32 == 0) = !parted x:=by
 have h:=parted_is x hx
 rw [←h]
 unfold bne
 rw [Bool.not_not]
set_option maxRecDepth 100000 in
set_option maxHeartbeats 2000000 in
theorem getSeq_any (w:World) (xs:List Nat) (x n c kn kc tag:Nat) (A K:Option Addr) (ks:List Lt) (hk:Off xs (KiP K kc ks) w) (hn:ks.length=kn) (ht:tag<256) (hsz:kn≤100000) (hxs:∀ x∈xs,x<w.heap.size) :
  Calls Tryz.prog 45 #[.agg #[.int .u8 (x:Int),.slice A n c,.slice K kn kc],.int .u8 (tag:Int)] w (SeqPost w xs ks (seqOk x n tag)):=by
 have hH:=Holds.fresh w 32 #[.int .u8 (x:Int),.slice A n c,.slice K kn kc]
 have HB0:Hid (Below w.heap.size w (w.alloc (.cells #[.int .u8 (x:Int),.slice A n c,.slice K kn kc] 32))):=Lib.hid ((Below.refl _ _).alloc (Nat.le_refl _) _)
 have c0:=hH.cell 0
 have c1:=hH.cell 1
 have c2:=hH.cell 2
 have hkV:=hk.alloc (.cells #[.int .u8 (x:Int),.slice A n c,.slice K kn kc] 32)
 have HC:=Lib.hid (cloneT_any (w.alloc (.cells #[.int .u8 (x:Int),.slice A n c,.slice K kn kc] 32)) xs K kc kn ks hkV hn hsz (fun y hy=>by have:=hxs y hy;have:=hH.lt;omega))
 have HK:=Lib.hid hkV
 have HN:=Lib.hid hn
 have hand:=and32_is tag ht
 clear hk hn hkV
 by_cases h1:x=tag
 case neg =>
  have HE:Hid (seqOk x n tag=false):=Lib.hid (by simp [seqOk,h1])
  have b1:((x:Int) != (tag:Int))=true:=by simp;omega
  have d1:decide ((x:Int)=(tag:Int))=false:=decide_eq_false (by omega)
  clear hand
  go_enter Tryz.func45,Tryz.ntmps45
  go_wp2_with fail
  go_ret2
  rw [HE.out]
  exact ⟨rfl,HB0.out⟩
 subst h1
 rcases hp:parted x with _ | _
 case false =>
  have HE:Hid (seqOk x n x=false):=Lib.hid (by simp [seqOk,hp])
  rw [hp] at hand
  have hand2:(Go.bits BinOp.and IntKind.u8 ((x:Nat):Int) 32 == 0)=true:=hand
  clear hand
  go_enter Tryz.func45,Tryz.ntmps45
  go_wp2_with fail
  go_ret2
  rw [HE.out]
  exact ⟨rfl,HB0.out⟩
 rw [hp] at hand
 have hand2:(Go.bits BinOp.and IntKind.u8 ((x:Nat):Int) 32 == 0)=false:=hand
 clear hand
 by_cases h2:n=0
 case neg =>
  have HE:Hid (seqOk x n x=false):=Lib.hid (by simp [seqOk,h2])
  have d2:decide ((0:Int)<(n:Int))=true:=decide_eq_true (by omega)
  go_enter Tryz.func45,Tryz.ntmps45
  go_wp2_with fail
  go_ret2
  rw [HE.out]
  exact ⟨rfl,HB0.out⟩
 subst h2
 have HE:Hid (seqOk x 0 x=true):=Lib.hid (by simp [seqOk,hp])
 go_enter Tryz.func45,Tryz.ntmps45
 go_wp2_with fail
 refine HC.out.mono ?_
 rintro e w2 ⟨A2,c2,rfl,hk2,hb2⟩
 have HQ2:=Lib.hid (HB0.out.trans (hb2.mono HB0.out.size))
 have HK2:=Lib.hid hk2
 clear hb2 hk2 HC
 go_wp2_with fail
 go_ret2
 rw [HE.out]
 exact ⟨A2,c2,by rw [HN.out];rfl,HK2.out,HQ2.out⟩
set_option maxRecDepth 100000 in
set_option maxHeartbeats 2000000 in
theorem getSeq'_any (w:World) (xs:List Nat) (x n c kn kc tag:Nat) (A K:Option Addr) (ks:List Lt) (hk:Off xs (KiP K kc ks) w) (hn:ks.length=kn) (ht:tag<256) :
  Calls Tryz.prog 56 #[.agg #[.int .u8 (x:Int),.slice A n c,.slice K kn kc],.int .u8 (tag:Int)] w (SeqPost w xs ks (seqOk x n tag)):=by
 have hH:=Holds.fresh w 32 #[.int .u8 (x:Int),.slice A n c,.slice K kn kc]
 have HB0:Hid (Below w.heap.size w (w.alloc (.cells #[.int .u8 (x:Int),.slice A n c,.slice K kn kc] 32))):=Lib.hid ((Below.refl _ _).alloc (Nat.le_refl _) _)
 have c0:=hH.cell 0
 have c1:=hH.cell 1
 have c2:=hH.cell 2
 have hkV:=hk.alloc (.cells #[.int .u8 (x:Int),.slice A n c,.slice K kn kc] 32)
 have HK:=Lib.hid hkV
 have HN:=Lib.hid hn
 have hand:=and32_is tag ht
 clear hk hn hkV
 by_cases h1:x=tag
 case neg =>
  have HE:Hid (seqOk x n tag=false):=Lib.hid (by simp [seqOk,h1])
  have b1:((x:Int) != (tag:Int))=true:=by simp;omega
  have d1:decide ((x:Int)=(tag:Int))=false:=decide_eq_false (by omega)
  clear hand
  go_enter Tryz.func56,Tryz.ntmps56
  go_wp2_with fail
  go_ret2
  rw [HE.out]
  exact ⟨rfl,HB0.out⟩
 subst h1
 rcases hp:parted x with _ | _
 case false =>
  have HE:Hid (seqOk x n x=false):=Lib.hid (by simp [seqOk,hp])
  rw [hp] at hand
  have hand2:(Go.bits BinOp.and IntKind.u8 ((x:Nat):Int) 32 == 0)=true:=hand
  clear hand
  go_enter Tryz.func56,Tryz.ntmps56
  go_wp2_with fail
  go_ret2
  rw [HE.out]
  exact ⟨rfl,HB0.out⟩
 rw [hp] at hand
 have hand2:(Go.bits BinOp.and IntKind.u8 ((x:Nat):Int) 32 == 0)=false:=hand
 clear hand
 by_cases h2:n=0
 case neg =>
  have HE:Hid (seqOk x n x=false):=Lib.hid (by simp [seqOk,h2])
  have d2:decide ((0:Int)<(n:Int))=true:=decide_eq_true (by omega)
  go_enter Tryz.func56,Tryz.ntmps56
  go_wp2_with fail
  go_ret2
  rw [HE.out]
  exact ⟨rfl,HB0.out⟩
 subst h2
 have HE:Hid (seqOk x 0 x=true):=Lib.hid (by simp [seqOk,hp])
 go_enter Tryz.func56,Tryz.ntmps56
 go_wp2_with fail
 go_ret2
 rw [HE.out]
 exact ⟨K,kc,by rw [HN.out];rfl,HK.out,HB0.out⟩
set_option maxRecDepth 100000 in
set_option maxHeartbeats 4000000 in
theorem getID_any (w:World) (x n c kn kc B:Nat) (A K:Option Addr) (b:List Nat) (hr:Rd .u8 w B A c b) (hn:b.length=n) (hB:B≤w.heap.size) (ho:∀ y∈b,y<256) :
  Calls Tryz.prog 134 #[.agg #[.int .u8 (x:Int),.slice A n c,.slice K kn kc]] w (GetB w (if (heldOk x kn 6 && idOk b)=true then some b else none)):=by
 obtain ⟨o,HOO⟩:∃ o,Hid (o=if (heldOk x kn 6 && idOk b)=true then some b else none):=⟨_,rfl⟩
 rw [←HOO.out]
 have hH:=Holds.fresh w 32 #[.int .u8 (x:Int),.slice A n c,.slice K kn kc]
 have HB0:Hid (Below w.heap.size w (w.alloc (.cells #[.int .u8 (x:Int),.slice A n c,.slice K kn kc] 32))):=Lib.hid ((Below.refl _ _).alloc (Nat.le_refl _) _)
 have c0:=hH.cell 0
 have c1:=hH.cell 1
 have c2:=hH.cell 2
 have hlc:n≤c:=by rw [←hn];exact hr.1
 have hc63:=hr.2.1
 have HK:=Lib.hid (held_any (w.alloc (.cells #[.int .u8 (x:Int),.slice A n c,.slice K kn kc] 32)) x n c kn kc 6 A K)
 have HR:=Lib.hid hr
 have HN:=Lib.hid hn
 have HO:=Lib.hid ho
 clear hr hn ho
 rcases hok:heldOk x kn 6 with _ | _
 case false =>
  have HE:Hid (o=none):=Lib.hid (by rw [HOO.out,hok];rfl)
  rw [hok] at HK
  go_enter Tryz.func134,Tryz.ntmps134
  go_wp2_with fail
  refine HK.out.mono ?_
  rintro e w2 ⟨rfl,hb2⟩
  have HQ:=Lib.hid (HB0.out.trans (hb2.mono HB0.out.size))
  clear hb2 HK
  go_wp2_with fail
  go_ret2
  rw [HE.out]
  exact ⟨rfl,HQ.out⟩
 rw [hok] at HK
 by_cases h0:n=0
 case pos =>
  have HE:Hid (o=none):=Lib.hid (by rw [HOO.out,show idOk b=false from idOk_no fun h=>by have:=HN.out;omega];simp)
  subst h0
  go_enter Tryz.func134,Tryz.ntmps134
  go_wp2_with fail
  refine HK.out.mono ?_
  rintro e w2 ⟨rfl,hb2⟩
  have hq:=HB0.out.trans (hb2.mono HB0.out.size)
  have HQ:=Lib.hid hq
  clear hb2 HK hq
  go_wp2_with fail
  go_ret2
  rw [HE.out]
  exact ⟨rfl,HQ.out⟩
 have d0:decide ((n:Int)=0)=false:=decide_eq_false (by omega)
 have q0:((n:Int) == 0)=false:=by rw [beq_eq_false_iff_ne];omega
 by_cases h20:20<n
 case pos =>
  have HE:Hid (o=none):=Lib.hid (by rw [HOO.out,show idOk b=false from idOk_no fun h=>by have:=HN.out;omega];simp)
  have d1:decide ((20:Int)<(n:Int))=true:=decide_eq_true (by omega)
  go_enter Tryz.func134,Tryz.ntmps134
  go_wp2_with fail
  refine HK.out.mono ?_
  rintro e w2 ⟨rfl,hb2⟩
  have hq:=HB0.out.trans (hb2.mono HB0.out.size)
  have HQ:=Lib.hid hq
  clear hb2 HK hq
  go_wp2_with fail
  go_ret2
  rw [HE.out]
  exact ⟨rfl,HQ.out⟩
 have d1:decide ((20:Int)<(n:Int))=false:=decide_eq_false (by omega)
 obtain ⟨k,off,rfl,hk,hcs⟩:=HR.out.2.2 (by rw [HN.out];omega)
 have HC:Hid (∀ W,Below w.heap.size w W→∀ j,j<n→W.cell? ⟨k,off+j,none⟩=some (.int .u8 ((b.getD j 0:Nat):Int))):=Lib.hid fun W hW j hj=>by
  rw [hW.cell (p:=⟨k,off+j,none⟩) (by show k<_;omega)]
  exact hcs j (by rw [HN.out];exact hj)
 clear hcs
 have hy6:b.getD (n - 1) 0<256:=rd_oct HO.out _
 by_cases hl:128≤b.getD (n - 1) 0
 case pos =>
  have HE:Hid (o=none):=Lib.hid (by rw [HOO.out,show idOk b=false from idOk_no fun h=>by have h3:=h.2.2.1;rw [HN.out] at h3;omega];simp)
  have d2:decide ((128:Int)≤((b.getD (n - 1) 0:Nat):Int))=true:=decide_eq_true (by omega)
  go_enter Tryz.func134,Tryz.ntmps134
  go_wp2_with fail
  refine HK.out.mono ?_
  rintro e w2 ⟨rfl,hb2⟩
  have hq:=HB0.out.trans (hb2.mono HB0.out.size)
  have HQ:=Lib.hid hq
  have el:w2.cell? ⟨k,off+(n - 1),none⟩=some (.int .u8 ((b.getD (n - 1) 0:Nat):Int)):=HC.out _ hq (n - 1) (by omega)
  generalize b.getD (n - 1) 0=y0 at *
  clear hb2 HK hq
  go_wp2_with fail
  go_ret2
  rw [HE.out]
  exact ⟨rfl,HQ.out⟩
 have HLS:Hid (b.getD (n - 1) 0<128):=Lib.hid (by omega)
 have d2:decide ((128:Int)≤((b.getD (n - 1) 0:Nat):Int))=false:=decide_eq_false (by omega)
 go_enter Tryz.func134,Tryz.ntmps134
 go_wp2_with fail
 refine HK.out.mono ?_
 rintro e w2 ⟨rfl,hb2⟩
 have hq:=HB0.out.trans (hb2.mono HB0.out.size)
 have HQ:=Lib.hid hq
 have el:w2.cell? ⟨k,off+(n - 1),none⟩=some (.int .u8 ((b.getD (n - 1) 0:Nat):Int)):=HC.out _ hq (n - 1) (by omega)
 have HCL:=Lib.hid (clone_any w2 B (some ⟨k,off,none⟩) c n b (HR.out.under (hq.mono hB)) HN.out (Nat.le_trans hB hq.size) (by omega))
 have HC2:=Lib.hid (HC.out w2 hq)
 clear hb2 HK hq HC
 generalize hy0:b.getD (n - 1) 0=y0 at *
 have HY0:=Lib.hid hy0
 clear hy0
 go_wp2_with fail
 clear el d0 q0 d1 d2
 go_loop [6,37] (fun fv iv=>∃ (i:Nat) (f:Bool),i≤n∧iv = .int .i64 (i:Int)∧fv = .bool f∧Hid (f=true↔i=0∨b.getD (i - 1) 0<128)∧Hid (∀ j,j<i→¬ (b.getD j 0=128∧(j=0∨b.getD (j - 1) 0<128)))) (fun _ iv=>n - (intOf iv).toNat)
 case atStart=>exact ⟨0,true,by omega,rfl,rfl,by show _↔_;simp,fun j hj=>by omega⟩
 case round =>
  obtain ⟨i,f,hi,rfl,rfl,HF,HA⟩:=hrel
  by_cases hlt:i<n
  ·have ec:=HC2.out i hlt
   have hy:b.getD i 0<256:=rd_oct HO.out _
   obtain ⟨y,hyd⟩:∃ y,y=b.getD i 0:=⟨_,rfl⟩
   have HY:=Lib.hid hyd
   rw [←hyd] at ec hy
   clear hyd
   by_cases h128:y=128
   ·rcases f with _ | _
    ·have HF2:Hid (¬ (i=0∨b.getD (i - 1) 0<128)):=Lib.hid fun h=>by have:=HF.out.2 h;cases this
     have q1:((y:Int) == 128)=true:=by rw [beq_iff_eq];omega
     have d3:decide ((y:Int)<128)=false:=decide_eq_false (by omega)
     have HY8:=Lib.hid h128
     clear h128
     go_wp2_with fail
     go_round
     case rel=>exact ⟨i+1,false,by omega,by go_num,rfl,⟨fun h=>by (cases h),fun h=>by rw [Nat.add_sub_cancel,←HY.out,HY8.out] at h;omega⟩,fun j hj=>by
      rcases Nat.lt_or_ge j i with h3 | h3
      ·exact HA.out j h3
      ·obtain rfl:j=i:=by omega
       exact fun h=>HF2.out h.2⟩
     case measure=>simp [intOf];omega
    ·have HF2:Hid (i=0∨b.getD (i - 1) 0<128):=Lib.hid (HF.out.1 rfl)
     have HE:Hid (o=none):=Lib.hid (by
      rw [HOO.out,show idOk b=false from idOk_no fun h=>h.2.2.2 i (by rw [HN.out];exact hlt) ⟨by rw [←HY.out,h128],HF2.out⟩];simp)
     have q1:((y:Int) == 128)=true:=by rw [beq_iff_eq];omega
     clear h128
     go_wp2_with fail
     go_ret2
     rw [HE.out]
     exact ⟨rfl,HQ.out⟩
   ·have q1:((y:Int) == 128)=false:=by rw [beq_eq_false_iff_ne];omega
    have d3:decide ((y:Int)=128)=false:=decide_eq_false (by omega)
    have HY8:=Lib.hid h128
    by_cases hy8:y<128
    ·have d4:decide ((y:Int)<128)=true:=decide_eq_true (by omega)
     have HYL:=Lib.hid hy8
     clear h128 hy8
     rcases f with _ | _
     all_goals
      go_wp2_with fail
      go_round
      case rel=>exact ⟨i+1,true,by omega,by go_num,rfl,⟨fun h=>.inr (by rw [Nat.add_sub_cancel,←HY.out];exact HYL.out),fun h=>rfl⟩,fun j hj=>by
       rcases Nat.lt_or_ge j i with h3 | h3
       ·exact HA.out j h3
       ·obtain rfl:j=i:=by omega
        exact fun h=>HY8.out (by rw [HY.out];exact h.1)⟩
      case measure=>simp [intOf];omega
    ·have d4:decide ((y:Int)<128)=false:=decide_eq_false (by omega)
     have HYL:=Lib.hid hy8
     clear h128 hy8
     rcases f with _ | _
     all_goals
      go_wp2_with fail
      go_round
      case rel=>exact ⟨i+1,false,by omega,by go_num,rfl,⟨fun h=>by (cases h),fun h=>by rw [Nat.add_sub_cancel,←HY.out] at h;have:=HYL.out;omega⟩,fun j hj=>by
       rcases Nat.lt_or_ge j i with h3 | h3
       ·exact HA.out j h3
       ·obtain rfl:j=i:=by omega
        exact fun h=>HY8.out (by rw [HY.out];exact h.1)⟩
      case measure=>simp [intOf];omega
  ·have HE:Hid (o=some b):=Lib.hid (by
    rw [HOO.out,if_pos]
    rw [hok,Bool.true_and]
    exact idOk_iff.2 ⟨by rw [HN.out];omega,by rw [HN.out];omega,by rw [HN.out,HY0.out];exact HLS.out,fun j hj=>HA.out j (by rw [HN.out] at hj;omega)⟩)
   go_wp2_with fail
   refine HCL.out.mono ?_
   rintro e w3 ⟨A3,c3,rfl,hm3,hb3⟩
   have HQ3:=Lib.hid (HQ.out.trans (hb3.mono HQ.out.size))
   have HM3:=Lib.hid (hm3.less HQ.out.size)
   clear hb3 hm3
   go_wp2_with fail
   go_ret2
   rw [HE.out]
   exact ⟨A3,c3,by rw [HN.out];rfl,HM3.out,HQ3.out⟩
end Go.Proofs.YtcibjcgipfpniaaGreatDoor
namespace Go.Proofs.YtcibjcgipfpniaaGreatDoor
open Go.RowKit
set_option linter.unusedVariables false
set_option linter.unusedSimpArgs false

set_option maxRecDepth 100000 in
set_option maxHeartbeats 4000000 in
theorem isID'_any (w:World) (n c B:Nat) (A:Option Addr) (b:List Nat) (hr:Rd .u8 w B A c b) (hn:b.length=n) (ho:∀ y∈b,y<256) :
  Calls Tryz.prog 135 #[.slice A n c] w fun e w'=>e = .returned (.bool (idOk b))∧w=w':=by
 have hlc:n≤c:=by rw [←hn];exact hr.1
 have hc63:=hr.2.1
 have HR:=Lib.hid hr
 have HN:=Lib.hid hn
 have HO:=Lib.hid ho
 clear hr hn ho
 by_cases h0:n=0
 case pos =>
  have HE:Hid (idOk b=false):=Lib.hid (idOk_no fun h=>by have:=HN.out;omega)
  subst h0
  go_enter Tryz.func135,Tryz.ntmps135
  go_wp2_with fail
  go_ret
  exact ⟨by rw [HE.out];rfl,rfl⟩
 have d0:decide ((n:Int)<1)=false:=decide_eq_false (by omega)
 by_cases h20:20<n
 case pos =>
  have HE:Hid (idOk b=false):=Lib.hid (idOk_no fun h=>by have:=HN.out;omega)
  have d1:decide ((20:Int)<(n:Int))=true:=decide_eq_true (by omega)
  go_enter Tryz.func135,Tryz.ntmps135
  go_wp2_with fail
  go_ret
  exact ⟨by rw [HE.out];rfl,rfl⟩
 have d1:decide ((20:Int)<(n:Int))=false:=decide_eq_false (by omega)
 obtain ⟨k,off,rfl,hk,hcs⟩:=HR.out.2.2 (by rw [HN.out];omega)
 have HC:Hid (∀ j,j<n→w.cell? ⟨k,off+j,none⟩=some (.int .u8 ((b.getD j 0:Nat):Int))):=Lib.hid fun j hj=>hcs j (by rw [HN.out];exact hj)
 clear hcs
 have hy6:b.getD (n - 1) 0<256:=rd_oct HO.out _
 have el:=HC.out (n - 1) (by omega)
 generalize hy0:b.getD (n - 1) 0=y0 at *
 have HY0:=Lib.hid hy0
 clear hy0
 by_cases hl:128≤y0
 case pos =>
  have HE:Hid (idOk b=false):=Lib.hid (idOk_no fun h=>by have h3:=h.2.2.1;rw [HN.out,HY0.out] at h3;omega)
  have d2:decide ((128:Int)≤(y0:Int))=true:=decide_eq_true (by omega)
  go_enter Tryz.func135,Tryz.ntmps135
  go_wp2_with fail
  go_ret
  exact ⟨by rw [HE.out];rfl,rfl⟩
 have HLS:Hid (y0<128):=Lib.hid (by omega)
 have d2:decide ((128:Int)≤(y0:Int))=false:=decide_eq_false (by omega)
 go_enter Tryz.func135,Tryz.ntmps135
 go_wp2_with fail
 clear el d0 d1 d2
 go_loopw [3] (fun iv wr=>∃ (i:Nat),i≤n∧iv = .int .i64 (i:Int)∧Hid (∀ j,j<i→¬ (b.getD j 0=128∧(j=0∨b.getD (j - 1) 0<128)))∧wr=w) (fun iv _=>n - (intOf iv).toNat)
 case atStart=>exact ⟨0,by omega,rfl,fun j hj=>by omega,rfl⟩
 case round =>
  obtain ⟨i,hi,rfl,HA,rfl⟩:=hrel
  by_cases hlt:i<n
  ·have ec:=HC.out i hlt
   have hy:b.getD i 0<256:=rd_oct HO.out _
   obtain ⟨y,hyd⟩:∃ y,y=b.getD i 0:=⟨_,rfl⟩
   have HY:=Lib.hid hyd
   rw [←hyd] at ec hy
   clear hyd
   by_cases h128:y=128
   ·have HY8:=Lib.hid h128
    have q1:((y:Int) == 128)=true:=by rw [beq_iff_eq];omega
    clear h128
    by_cases hi0:i=0
    ·have HE:Hid (idOk b=false):=Lib.hid (idOk_no fun h=>h.2.2.2 i (by rw [HN.out];exact hlt) ⟨by rw [←HY.out,HY8.out],.inl hi0⟩)
     have e3:((i:Int) == 0)=true:=by rw [beq_iff_eq];omega
     clear hi0
     go_wp2_with fail
     go_ret
     exact ⟨by rw [HE.out];rfl,rfl⟩
    ·have e3:((i:Int) == 0)=false:=by rw [beq_eq_false_iff_ne];omega
     have ep:=HC.out (i - 1) (by omega)
     have hp6:b.getD (i - 1) 0<256:=rd_oct HO.out _
     obtain ⟨p,hpd⟩:∃ p,p=b.getD (i - 1) 0:=⟨_,rfl⟩
     have HP:=Lib.hid hpd
     rw [←hpd] at ep hp6
     clear hpd
     by_cases hp8:p<128
     ·have HE:Hid (idOk b=false):=Lib.hid (idOk_no fun h=>h.2.2.2 i (by rw [HN.out];exact hlt) ⟨by rw [←HY.out,HY8.out],.inr (by rw [←HP.out];exact hp8)⟩)
      have d3:decide ((p:Int)<128)=true:=decide_eq_true (by omega)
      go_wp2_with fail
      go_ret
      exact ⟨by rw [HE.out];rfl,rfl⟩
     ·have d3:decide ((p:Int)<128)=false:=decide_eq_false (by omega)
      have HP8:=Lib.hid hp8
      have HI0:=Lib.hid hi0
      have hi1:1≤i:=by omega
      clear hp8 hi0
      go_wp2_with fail
      go_roundw
      case rel=>exact ⟨i+1,by omega,by go_num,fun j hj=>by
       rcases Nat.lt_or_ge j i with h3 | h3
       ·exact HA.out j h3
       ·obtain rfl:j=i:=by omega
        exact fun h=>by rcases h.2 with h4 | h4;exact HI0.out h4;exact HP8.out (by rw [HP.out];exact h4),trivial⟩
      case measure=>simp [intOf];omega
   ·have q1:((y:Int) == 128)=false:=by rw [beq_eq_false_iff_ne];omega
    have HY8:=Lib.hid h128
    clear h128
    go_wp2_with fail
    go_roundw
    case rel=>exact ⟨i+1,by omega,by go_num,fun j hj=>by
     rcases Nat.lt_or_ge j i with h3 | h3
     ·exact HA.out j h3
     ·obtain rfl:j=i:=by omega
      exact fun h=>HY8.out (by rw [HY.out];exact h.1),trivial⟩
    case measure=>simp [intOf];omega
  ·have HE:Hid (idOk b=true):=Lib.hid (idOk_iff.2 ⟨by rw [HN.out];omega,by rw [HN.out];omega,by rw [HN.out,HY0.out];exact HLS.out,fun j hj=>HA.out j (by rw [HN.out] at hj;omega)⟩)
   go_wp2_with fail
   go_ret
   exact ⟨by rw [HE.out];rfl,rfl⟩
set_option maxRecDepth 100000 in
set_option maxHeartbeats 2000000 in
theorem getID'_any (w:World) (x n c kn kc B:Nat) (A K:Option Addr) (b:List Nat) (hr:Rd .u8 w B A c b) (hn:b.length=n) (hB:B≤w.heap.size) (ho:∀ y∈b,y<256) (hmx:n≤900000) :
  Calls Tryz.prog 124 #[.agg #[.int .u8 (x:Int),.slice A n c,.slice K kn kc]] w (GetB w (if (heldOk x kn 6 && idOk b)=true then some b else none)):=by
 obtain ⟨o,HOO⟩:∃ o,Hid (o=if (heldOk x kn 6 && idOk b)=true then some b else none):=⟨_,rfl⟩
 rw [←HOO.out]
 have hH:=Holds.fresh w 32 #[.int .u8 (x:Int),.slice A n c,.slice K kn kc]
 have HB0:Hid (Below w.heap.size w (w.alloc (.cells #[.int .u8 (x:Int),.slice A n c,.slice K kn kc] 32))):=Lib.hid ((Below.refl _ _).alloc (Nat.le_refl _) _)
 have c0:=hH.cell 0
 have c1:=hH.cell 1
 have c2:=hH.cell 2
 have HK:=Lib.hid (held'_any (w.alloc (.cells #[.int .u8 (x:Int),.slice A n c,.slice K kn kc] 32)) x n c kn kc 6 B A K b (hr.under (HB0.out.mono hB)) hn (Nat.le_trans hB HB0.out.size) hmx)
 have HN:=Lib.hid hn
 have HO:=Lib.hid ho
 clear hr hn ho
 rcases hok:heldOk x kn 6 with _ | _
 case false =>
  have HE:Hid (o=none):=Lib.hid (by rw [HOO.out,hok];rfl)
  rw [hok] at HK
  go_enter Tryz.func124,Tryz.ntmps124
  go_wp2_with fail
  refine HK.out.mono ?_
  rintro e w2 ⟨rfl,hb2⟩
  have HQ:=Lib.hid (HB0.out.trans (hb2.mono HB0.out.size))
  clear hb2 HK
  go_wp2_with fail
  go_ret2
  rw [HE.out]
  exact ⟨rfl,HQ.out⟩
 rw [hok] at HK
 rw [hok,Bool.true_and] at HOO
 go_enter Tryz.func124,Tryz.ntmps124
 go_wp2_with fail
 refine HK.out.mono ?_
 rintro e w2 ⟨A2,c2,rfl,hm2,hb2⟩
 have HQ:=Lib.hid (HB0.out.trans (hb2.mono HB0.out.size))
 have HM:=Lib.hid (hm2.less HB0.out.size)
 have HI:=Lib.hid (isID'_any w2 n c2 _ A2 b hm2.rd HN.out HO.out)
 clear hb2 hm2 HK
 rcases hid:idOk b with _ | _
 ·rw [hid] at HI HOO
  have HE:Hid (o=none):=Lib.hid (by rw [HOO.out];rfl)
  go_wp2_with fail
  refine HI.out.mono ?_
  rintro e w3 ⟨rfl,rfl⟩
  go_wp2_with fail
  go_ret2
  rw [HE.out]
  exact ⟨rfl,HQ.out⟩
 ·rw [hid] at HI HOO
  have HE:Hid (o=some b):=Lib.hid (by rw [HOO.out];rfl)
  go_wp2_with fail
  refine HI.out.mono ?_
  rintro e w3 ⟨rfl,rfl⟩
  go_wp2_with fail
  go_ret2
  rw [HE.out]
  exact ⟨A2,c2,by rw [HN.out];rfl,HM.out,HQ.out⟩
end Go.Proofs.YtcibjcgipfpniaaGreatDoor
namespace Go.Proofs.YtcibjcgipfpniaaGreatDoor
open Go.RowKit
set_option linter.unusedVariables false
set_option linter.unusedSimpArgs false

def bl (A:Option Addr):List Nat:=(blockOf A).toList
theorem mem_bl {A:Option Addr} {g:Nat}:g∈bl A↔blockOf A=some g:=by
 unfold bl;cases blockOf A <;> simp [eq_comm]
theorem Off.push {xs ys:List Nat} {P:World→Prop} {w w':World} {A:Option Addr} (h:Off xs P w) (hg:w.grownBy w' (blockOf A)) (hA:∀ g,blockOf A=some g→g∈xs) (hx:∀ g,g∈ys→g∈xs∨w.heap.size≤g):Off ys P w' :=
 h.keep hg.size (fun g h1 h2=>hg.block g h2 (fun e=>h1 (hA g e.symm))) hx
/-- A row of one's own of things; none of it lies in the blocks xs. -/
structure Kids (xs:List Nat) (A:Option Addr) (c n:Nat) (ks:List Lt) (w:World):Prop where
 len:ks.length=n
 own:OwnV 32 3 w A c n (ks.flatMap lcell)
 off:∀ g,blockOf A=some g→g ∉ xs
 each:∀ x∈ks,Off (bl A ++ xs) (ThP x) w
section
variable {xs:List Nat} {A:Option Addr} {c n:Nat} {ks:List Lt} {w w':World}
theorem Kids.nil (xs:List Nat) (w:World):Kids xs none 0 0 [] w:=⟨rfl,OwnV.nil _ _ _,fun g h=>by simp [blockOf] at h,fun x hx=>by cases hx⟩
theorem Kids.under (h:Kids xs A c n ks w) (hb:Below w.heap.size w w'):Kids xs A c n ks w' :=
 ⟨h.len,h.own.keep fun g _ hg=>hb.block g hg,h.off,fun x hx=>(h.each x hx).under hb⟩
theorem Kids.lt (h:Kids xs A c n ks w) {g:Nat} (hg:blockOf A=some g):g<w.heap.size:=h.own.lt hg
theorem Kids.le (h:Kids xs A c n ks w):n≤c∧c≤9223372036854775807:=h.own.le
theorem Kids.one {t:Lt} (h:Off xs (ThP t) w) (hx:∀ x∈xs,x<w.heap.size):Kids xs (some ⟨w.heap.size,0,none⟩) 1 1 [t] (w.alloc (.cells (lcell t).toArray 32)):=by
 have hH:=Holds.fresh w 32 (lcell t).toArray
 refine ⟨rfl,⟨by simp [lcell],.inr ⟨w.heap.size,1,(lcell t).toArray,rfl,Nat.zero_le _,hH,Nat.le_refl _,by unfold maxLen;omega,by simp [lcell],by simp [lcell]⟩⟩,fun g hg hgx=>?_,fun x hx2=>?_⟩
 ·have:w.heap.size=g:=by simpa [blockOf] using hg
  have:=hx g hgx
  omega
 ·rw [List.mem_singleton.1 hx2]
  exact ((h.new (Nat.le_refl _)).alloc _)
theorem Kids.push {t:Lt} {g' c':Nat} (h:Kids xs A c n ks w) (ht:Off (bl A ++ xs) (ThP t) w) (ho:OwnV 32 3 w' (some ⟨g',0,none⟩) c' (n+1) (ks.flatMap lcell ++ lcell t)) (hg:w.grownBy w' (blockOf A))
  (ha:blockOf A=some g'∨g'=w.heap.size) (hx:∀ x∈xs,x<w.heap.size):Kids xs (some ⟨g',0,none⟩) c' (n+1) (ks ++ [t]) w':=by
 have hy:∀ g,g∈bl (some ⟨g',0,none⟩) ++ xs→g∈bl A ++ xs∨w.heap.size≤g:=fun g hg=>by
  rcases List.mem_append.1 hg with h1 | h1
  ·have e:=mem_bl.1 h1
   have e:g'=g:=by simpa [blockOf] using e
   subst e
   rcases ha with h2 | h2
   ·exact .inl (List.mem_append.2 (.inl (mem_bl.2 h2)))
   ·exact .inr (by omega)
  ·exact .inl (List.mem_append.2 (.inr h1))
 have hA:∀ g,blockOf A=some g→g∈bl A ++ xs:=fun g e=>List.mem_append.2 (.inl (mem_bl.2 e))
 refine ⟨by simp [h.len],by rw [List.flatMap_append];simpa using ho,fun g e hgx=>?_,fun x hx2=>?_⟩
 ·have e:g'=g:=by simpa [blockOf] using e
  subst e
  rcases ha with h2 | h2
  ·exact h.off _ h2 hgx
  ·have:=hx _ hgx;omega
 ·rcases List.mem_append.1 hx2 with h1 | h1
  ·exact (h.each x h1).push hg hA hy
  ·rw [List.mem_singleton.1 h1];exact ht.push hg hA hy
theorem Kids.ki (h:Kids xs A c n ks w):Off xs (KiP A c ks) w:=off_own h.len h.own h.off fun x hx=>(h.each x hx).less fun g hg=>List.mem_append.2 (.inr hg)
theorem Kids.bound (h:Kids xs A c n ks w) (hx:∀ x∈xs,x<w.heap.size):∀ x∈bl A ++ xs,x<w.heap.size:=fun x hx2=>by
 rcases List.mem_append.1 hx2 with h1 | h1
 ·exact h.lt (mem_bl.1 h1)
 ·exact hx x h1
end
/-- What a maker answers, with its cells written out. -/
theorem MadeT.open_ {w w':World} {xs:List Nat} {T:Tr} {e:Ending} (h:MadeT w xs T e w'):∃ lt:Lt,e = .returned (.agg #[.int .u8 (lt.tag:Int),.slice lt.ba lt.body.length lt.bc,.slice lt.ka lt.kids.length lt.kc])∧lt.t=T∧Off xs (ThP lt) w'∧Below w.heap.size w w':=h
/-- Only a row of one's own has grown. -/
theorem below_own {B:Nat} {a w w':World} {A:Option Addr} (h:Below B a w) (hg:w.grownBy w' (blockOf A)) (hA:∀ g,blockOf A=some g→B≤g) (hBa:B≤a.heap.size):Below B a w' :=
 h.trans ⟨hg.os,hg.tape,hg.output,hg.size,fun k hk=>hg.block k (by have:=h.size;omega) (fun e=>by have:=hA k e.symm;omega)⟩
end Go.Proofs.YtcibjcgipfpniaaGreatDoor
namespace Go.Proofs.YtcibjcgipfpniaaGreatDoor
open Go.RowKit
set_option linter.unusedVariables false
set_option linter.unusedSimpArgs false

theorem MadeT.prim {w w':World} {xs:List Nat} {tag:Nat} {b:List Nat} {e:Ending} (h:MadeT w xs (.mk tag b []) e w'):∃ A c K kc,e = .returned (.agg #[.int .u8 (tag:Int),.slice A b.length c,.slice K 0 kc])∧Rd .u8 w' w'.heap.size A c b∧Below w.heap.size w w':=by
 obtain ⟨lt,rfl,hlt,hoff,hb⟩:=h
 obtain ⟨h1,h2,h3⟩:=lt_parts hlt
 rcases lt with ⟨t,ba,bc,body,ka,kc,kids⟩
 simp only [Lt.tag,Lt.body,Lt.kids] at h1 h2 h3
 subst h1 h2
 refine ⟨ba,bc,ka,kc,?_,(ThP.iff.1 hoff.at_).2.1,hb⟩
 rw [List.length_nil] at h3
 show Ending.returned (.agg #[.int .u8 (t:Int),.slice ba body.length bc,.slice ka kids.length kc])=_
 rw [h3]

/-- A thing and the cells that a call answers. -/
def Of6 (lt:Lt) (t:Nat) (a:Option Addr) (n c:Nat) (k:Option Addr) (m d:Nat):Prop:=lcell lt=[.int .u8 (t:Int),.slice a n c,.slice k m d]
theorem MadeT.six {w w':World} {xs:List Nat} {T:Tr} {e:Ending} (h:MadeT w xs T e w'):∃ (lt:Lt) (t:Nat) (a:Option Addr) (n c:Nat) (k:Option Addr) (m d:Nat),e = .returned (.agg #[.int .u8 (t:Int),.slice a n c,.slice k m d])∧Of6 lt t a n c k m d∧lt.t=T∧Off xs (ThP lt) w'∧Below w.heap.size w w':=by
 obtain ⟨lt,rfl,h1,h2,h3⟩:=h
 exact ⟨lt,_,_,_,_,_,_,_,rfl,rfl,h1,h2,h3⟩
theorem Of6.val {lt:Lt} {t n c m d:Nat} {a k:Option Addr} (h:Of6 lt t a n c k m d):lt.val = .agg #[.int .u8 (t:Int),.slice a n c,.slice k m d]:=by
 unfold Lt.val
 rw [←lcell_cells,show lcell lt=_ from h]
theorem Kids.push6 {xs:List Nat} {A:Option Addr} {c n:Nat} {ks:List Lt} {w w':World} {lt:Lt} {t n2 c2 m d:Nat} {a k:Option Addr} {g' c':Nat} (h:Kids xs A c n ks w) (ht:Off (bl A ++ xs) (ThP lt) w) (h6:Of6 lt t a n2 c2 k m d)
  (ho:OwnV 32 3 w' (some ⟨g',0,none⟩) c' (n+1) (ks.flatMap lcell ++ [.int .u8 (t:Int),.slice a n2 c2,.slice k m d])) (hg:w.grownBy w' (blockOf A))
  (ha:blockOf A=some g'∨g'=w.heap.size) (hx:∀ x∈xs,x<w.heap.size):Kids xs (some ⟨g',0,none⟩) c' (n+1) (ks ++ [lt]) w':=h.push ht (by rw [show lcell lt=_ from h6];exact ho) hg ha hx
theorem one6 {t n c m d:Nat} {a k:Option Addr}:∀ u∈[Value.int .u8 (t:Int),.slice a n c,.slice k m d],u.oneCell'=true:=by
 intro u hu
 simp only [List.mem_cons,List.not_mem_nil,or_false] at hu
 rcases hu with rfl | rfl | rfl <;> rfl
/-- Things laid at once, one or two. -/
theorem row6 {xs:List Nat} {w:World} {lt:Lt} {t n c m d:Nat} {a k:Option Addr} (h:Off xs (ThP lt) w) (h6:Of6 lt t a n c k m d) (hx:w.heap.size ∉ xs):Off xs (KiP (some ⟨w.heap.size,0,none⟩) 1 [lt]) (w.alloc (.cells #[.int .u8 (t:Int),.slice a n c,.slice k m d] 32)):=by
 have:=off_row (l:=[lt]) (fun x hx2=>by rw [List.mem_singleton.1 hx2];exact h) hx (by simp)
 rwa [show ([lt].flatMap lcell).toArray=#[.int .u8 (t:Int),.slice a n c,.slice k m d] by rw [List.flatMap_cons,List.flatMap_nil,List.append_nil,show lcell lt=_ from h6]] at this
theorem row66 {xs:List Nat} {w:World} {lt lt':Lt} {t n c m d t' n' c' m' d':Nat} {a k a' k':Option Addr} (h:Off xs (ThP lt) w) (h6:Of6 lt t a n c k m d) (h':Off xs (ThP lt') w) (h6':Of6 lt' t' a' n' c' k' m' d') (hx:w.heap.size ∉ xs) :
  Off xs (KiP (some ⟨w.heap.size,0,none⟩) 2 [lt,lt']) (w.alloc (.cells #[.int .u8 (t:Int),.slice a n c,.slice k m d,.int .u8 (t':Int),.slice a' n' c',.slice k' m' d'] 32)):=by
 have:=off_row (l:=[lt,lt']) (fun x hx2=>by
  rcases List.mem_cons.1 hx2 with rfl | hx2
  ·exact h
  ·rw [List.mem_singleton.1 hx2];exact h') hx (by simp)
 rwa [show ([lt,lt'].flatMap lcell).toArray=#[.int .u8 (t:Int),.slice a n c,.slice k m d,.int .u8 (t':Int),.slice a' n' c',.slice k' m' d'] by rw [List.flatMap_cons,List.flatMap_cons,List.flatMap_nil,List.append_nil,show lcell lt=_ from h6,show lcell lt'=_ from h6'];rfl] at this
theorem row666 {xs:List Nat} {w:World} {l1 l2 l3:Lt} {t n c m d t' n' c' m' d' t2 n2 c2 m2 d2:Nat} {a k a' k' a2 k2:Option Addr} (h:Off xs (ThP l1) w) (h6:Of6 l1 t a n c k m d) (h':Off xs (ThP l2) w) (h6':Of6 l2 t' a' n' c' k' m' d') (h2:Off xs (ThP l3) w) (h62:Of6 l3 t2 a2 n2 c2 k2 m2 d2) (hx:w.heap.size ∉ xs) :
  Off xs (KiP (some ⟨w.heap.size,0,none⟩) 3 [l1,l2,l3]) (w.alloc (.cells #[.int .u8 (t:Int),.slice a n c,.slice k m d,.int .u8 (t':Int),.slice a' n' c',.slice k' m' d',.int .u8 (t2:Int),.slice a2 n2 c2,.slice k2 m2 d2] 32)):=by
 have:=off_row (l:=[l1,l2,l3]) (fun x hx2=>by
  rcases List.mem_cons.1 hx2 with rfl | hx2
  ·exact h
  rcases List.mem_cons.1 hx2 with rfl | hx2
  ·exact h'
  ·rw [List.mem_singleton.1 hx2];exact h2) hx (by simp)
 rwa [show ([l1,l2,l3].flatMap lcell).toArray=#[.int .u8 (t:Int),.slice a n c,.slice k m d,.int .u8 (t':Int),.slice a' n' c',.slice k' m' d',.int .u8 (t2:Int),.slice a2 n2 c2,.slice k2 m2 d2] by rw [List.flatMap_cons,List.flatMap_cons,List.flatMap_cons,List.flatMap_nil,List.append_nil,show lcell l1=_ from h6,show lcell l2=_ from h6',show lcell l3=_ from h62];rfl] at this
theorem PrimAt.six {v:Value} {w:World} {xs:List Nat} {B tag:Nat} {b:List Nat} (h:PrimAt v w B tag b) (hx:∀ x∈xs,x<B):∃ (lt:Lt) (t:Nat) (a:Option Addr) (n c:Nat) (k:Option Addr) (m d:Nat),v = .agg #[.int .u8 (t:Int),.slice a n c,.slice k m d]∧Of6 lt t a n c k m d∧lt.t = .mk tag b []∧Off xs (ThP lt) w:=by
 obtain ⟨lt,rfl,h1,h2⟩:=off_prim h hx
 exact ⟨lt,_,_,_,_,_,_,_,rfl,rfl,h1,h2⟩
end Go.Proofs.YtcibjcgipfpniaaGreatDoor
namespace Go.Proofs.YtcibjcgipfpniaaGreatDoor
open Go.RowKit

theorem ret3 {k:IntKind} {a b c a' b' c':Int} (h:a=a') (h':b=b') (h'':c=c'):Ending.returned (.tuple #[.int k a,.int k b,.int k c]) = .returned (.tuple #[.int k a',.int k b',.int k c']):=by rw [h,h',h'']

def cY (o:Int):Int:=(o - o/1460+o/36524 - o/146096)/365
def cQ (o:Int):Int:=o - (365*cY o+cY o/4 - cY o/100)
def cM (o:Int):Int:=(5*cQ o+2)/153

theorem civ_split (o:Nat) (h:o<146097):∃ q a b c,a≤3∧b≤24∧c≤3∧q≤365∧(q=365→c=3∧(b=24→a=3))∧o=36524*a+1461*b+365*c+q:=by
 obtain ⟨a,r,ha,hr,ho⟩:∃ a r,a≤3∧(r≤36523∨r=36524∧a=3)∧o=36524*a+r:=by
  by_cases h3:o<146096
  ·exact ⟨o/36524,o%36524,by omega,by omega,by omega⟩
  ·exact ⟨3,36524,by omega,by omega,by omega⟩
 obtain ⟨b,s,hb,hs,hrb⟩:∃ b s,b≤24∧s≤1460∧r=1461*b+s:=⟨r/1461,r%1461,by omega,by omega,by omega⟩
 obtain ⟨c,q,hc,hq,hsc⟩:∃ c q,c≤3∧(q≤364∨q=365∧c=3)∧s=365*c+q:=by
  by_cases h3:s<1460
  ·exact ⟨s/365,s%365,by omega,by omega,by omega⟩
  ·exact ⟨3,365,by omega,by omega,by omega⟩
 exact ⟨q,a,b,c,ha,hb,hc,by omega,fun e=>⟨by omega,fun e'=>by omega⟩,by omega⟩
theorem civ_cast (n:Nat):∃ y q m:Nat,(y:Int)=cY ((n:Int) % 146097)∧(q:Int)=cQ ((n:Int) % 146097)∧(m:Int)=cM ((n:Int) % 146097)∧(153*m+2)/5≤q∧y≤399∧q≤365∧m≤11 ∧
  civ n=if m<10 then (400*(n/146097)+y,m+3,q - (153*m+2)/5+1) else (400*(n/146097)+y+1,m-9,q - (153*m+2)/5+1):=by
 obtain ⟨o,ho⟩:∃ o,o=n % 146097:=⟨_,rfl⟩
 have hol:o<146097:=by omega
 have hoi:(n:Int) % 146097=(o:Int):=by omega
 rw [hoi]
 have hy:(((o - o/1460+o/36524 - o/146096)/365:Nat):Int)=cY o:=by unfold cY;omega
 obtain ⟨q0,a,b,c,ha,hb,hc,hq0,hl,hoo⟩:=civ_split o hol
 have hcy:=civ_y q0 a b c ha hb hc hq0 hl o hoo
 have hyo:365*((o - o/1460+o/36524 - o/146096)/365)+(o - o/1460+o/36524 - o/146096)/365/4 - (o - o/1460+o/36524 - o/146096)/365/100=o - q0:=by
  rw [hcy]
  have h1:(100*a+4*b+c) / 4=25*a+b:=by omega
  have h2:(100*a+4*b+c) / 100=a:=by omega
  rw [h1,h2];omega
 unfold civ
 simp only [←ho]
 generalize (o - o/1460+o/36524 - o/146096)/365=y at *
 have hq:((o - (365*y+y/4 - y/100):Nat):Int)=cQ o:=by unfold cQ;rw [←hy];omega
 have hqq:o - (365*y+y/4 - y/100)=q0:=by omega
 rw [hqq] at hq ⊢
 have hm:(((5*q0+2)/153:Nat):Int)=cM o:=by unfold cM;rw [←hq];omega
 exact ⟨y,q0,(5*q0+2)/153,hy,hq,hm,by omega,by omega,hq0,by omega,rfl⟩

set_option maxRecDepth 100000 in
theorem civil_any (w:World) (n:Nat) (h1:n≤4000000) (y m d:Nat) (hc:civ n=(y,m,d)) :
  Calls Tryz.prog 118 #[.int .i64 n] w fun e w'=>e = .returned (.tuple #[.int .i64 y,.int .i64 m,.int .i64 d])∧w=w':=by
 obtain ⟨y',q',m',hy,hq,hm,hmq,hy399,hq365,hm11,hciv⟩:=civ_cast n
 rw [hc] at hciv
 have hQ0:0≤cQ ((n:Int) % 146097):=by omega
 have hQ1:cQ ((n:Int) % 146097)≤365:=by omega
 unfold cQ cY at hQ0 hQ1
 have HY:=Lib.hid hy
 have HQ:=Lib.hid hq
 have HM:=Lib.hid hm
 have HC:=Lib.hid hciv
 clear hy hq hm hciv hc
 go_enter Tryz.func118,Tryz.ntmps118
 go_wp2_with fail
 ·have hlt:cM ((n:Int) % 146097)<10:=by unfold cM cQ cY;omega
  have h2:=HC.out
  rw [←HM.out] at hlt
  rw [if_pos (by omega)] at h2
  simp only [Prod.mk.injEq] at h2
  obtain ⟨rfl,rfl,rfl⟩:=h2
  go_ret3
  refine ⟨ret3 ?_ ?_ ?_,rfl⟩
  ·show 400*((n:Int) / 146097)+cY _=_
   rw [←HY.out];omega
  ·show cM _+3=_
   rw [←HM.out];omega
  ·show cQ _ - (153*cM _+2)/5+1=_
   rw [←HQ.out,←HM.out];omega
 ·have hlt:10≤cM ((n:Int) % 146097):=by unfold cM cQ cY;omega
  have h2:=HC.out
  rw [←HM.out] at hlt
  rw [if_neg (by omega)] at h2
  simp only [Prod.mk.injEq] at h2
  obtain ⟨rfl,rfl,rfl⟩:=h2
  go_ret3
  refine ⟨ret3 ?_ ?_ ?_,rfl⟩
  ·show 400*((n:Int) / 146097)+cY _+1=_
   rw [←HY.out];omega
  ·show cM _ - 9=_
   rw [←HM.out];omega
  ·show cQ _ - (153*cM _+2)/5+1=_
   rw [←HQ.out,←HM.out];omega

/-- A date's day, from the beginning of 1970, as the program reckons it of any numbers. -/
def dayI (y m d:Int):Int :=
 let Y:=if m<3 then y - 1 else y
 let M:=if m<3 then m+9 else m - 3
 365*Y+Y/4 - Y/100+Y/400+(153*M+2)/5+d - 1 - 719468
theorem day_num {y m d:Nat} (h:Valid y m d):dayI y m d=(num y m d:Int) - 719468:=by
 have:=h.y1
 have:=h.m1
 have:=h.d1
 have hY:∀ Y:Nat,Y/100≤365*Y:=fun Y=>by omega
 unfold dayI num
 by_cases hm:m<3
 ·have h3:(m:Int)<3:=by omega
  simp only [hm,h3,if_true]
  obtain ⟨Y,rfl⟩:∃ Y,y=Y+1:=⟨y - 1,by omega⟩
  have:=hY Y
  rw [Nat.add_sub_cancel,show ((Y+1:Nat):Int) - 1=(Y:Int) by omega]
  omega
 ·have h3:¬ (m:Int)<3:=by omega
  simp only [hm,h3,if_false]
  have:=hY y
  omega

set_option maxRecDepth 100000 in
theorem days_any (w:World) (y m d:Int) (hy0:1≤y) (hy:y≤100000) (hm0:0≤m) (hm:m≤1000) (hd0:0≤d) (hd:d≤1000) (v:Int) (hv:dayI y m d=v) :
  Calls Tryz.prog 123 #[.int .i64 y,.int .i64 m,.int .i64 d] w fun e w'=>e = .returned (.int .i64 v)∧w=w':=by
 have HV:=Lib.hid hv
 clear hv
 by_cases hm3:m<3
 ·go_enter Tryz.func123,Tryz.ntmps123
  go_wp2_with fail
  go_ret
  refine ⟨ret_int ?_,rfl⟩
  rw [←HV.out];unfold dayI
  simp only [hm3,if_true]
 ·go_enter Tryz.func123,Tryz.ntmps123
  go_wp2_with fail
  go_ret
  refine ⟨ret_int ?_,rfl⟩
  rw [←HV.out];unfold dayI
  have hm4:¬ m<3:=by omega
  simp only [hm4,if_false]

set_option maxRecDepth 100000 in
theorem is_yes (w:World) (t:Int) (h0:-631152000≤t) (h1:t≤253402300799) :
  Calls Tryz.prog 27 #[.int .i64 t] w fun e w'=>e = .returned (.bool true)∧w=w':=by
 go_enter Tryz.func27,Tryz.ntmps27
 go_wp2_with fail
 go_ret
 exact ⟨rfl,rfl⟩
set_option maxRecDepth 100000 in
theorem is_no (w:World) (t:Int) (h:t < -631152000∨253402300799<t) :
  Calls Tryz.prog 27 #[.int .i64 t] w fun e w'=>e = .returned (.bool false)∧w=w':=by
 rcases h with h | h
 ·go_enter Tryz.func27,Tryz.ntmps27
  go_wp2_with fail
  go_ret
  exact ⟨rfl,rfl⟩
 ·have hd:decide (t≤253402300799)=false:=decide_eq_false (by omega)
  go_enter Tryz.func27,Tryz.ntmps27
  go_wp2_with fail
  go_ret
  exact ⟨rfl,rfl⟩
set_option maxRecDepth 100000 in
theorem is'_yes (w:World) (t:Int) (h0:-631152000≤t) (h1:t≤253402300799) :
  Calls Tryz.prog 22 #[.int .i64 t] w fun e w'=>e = .returned (.bool true)∧w=w':=by
 go_enter Tryz.func22,Tryz.ntmps22
 go_wp2_with fail
 go_ret
 exact ⟨rfl,rfl⟩
set_option maxRecDepth 100000 in
theorem is'_no (w:World) (t:Int) (h:t < -631152000∨253402300799<t) :
  Calls Tryz.prog 22 #[.int .i64 t] w fun e w'=>e = .returned (.bool false)∧w=w':=by
 rcases h with h | h
 ·go_enter Tryz.func22,Tryz.ntmps22
  go_wp2_with fail
  go_ret
  exact ⟨rfl,rfl⟩
 ·have hd:decide (t≤253402300799)=false:=decide_eq_false (by omega)
  go_enter Tryz.func22,Tryz.ntmps22
  go_wp2_with fail
  go_ret
  exact ⟨rfl,rfl⟩

set_option maxRecDepth 100000 in
theorem long_any (w:World) (y:Nat) (hy:y≤100000) (v:Bool) (hv:leap y=v) :
  Calls Tryz.prog 119 #[.int .i64 y] w fun e w'=>e = .returned (.bool v)∧w=w':=by
 have HV:=Lib.hid hv
 clear hv
 by_cases h4:y % 4=0
 ·have b4:((y:Int) % 4 == 0)=true:=by rw [beq_iff_eq];omega
  by_cases h1:y % 100=0
  ·have b1:((y:Int) % 100 != 0)=false:=by rw [bne_eq_false_iff_eq];omega
   by_cases h5:y % 400=0
   ·have b5:((y:Int) % 400 == 0)=true:=by rw [beq_iff_eq];omega
    have H:=Lib.hid (show leap y=true by simp [leap,h4,h1,h5])
    clear h4 h1 h5
    go_enter Tryz.func119,Tryz.ntmps119
    go_wp2_with fail
    go_ret
    exact ⟨by rw [←HV.out,H.out];rfl,rfl⟩
   ·have b5:((y:Int) % 400 == 0)=false:=by rw [beq_eq_false_iff_ne];omega
    have H:=Lib.hid (show leap y=false by simp [leap,h4,h1,h5])
    clear h4 h1 h5
    go_enter Tryz.func119,Tryz.ntmps119
    go_wp2_with fail
    go_ret
    exact ⟨by rw [←HV.out,H.out];rfl,rfl⟩
  ·have b1:((y:Int) % 100 != 0)=true:=by rw [bne_iff_ne];omega
   have H:=Lib.hid (show leap y=true by simp [leap,h4,h1])
   clear h4 h1
   go_enter Tryz.func119,Tryz.ntmps119
   go_wp2_with fail
   go_ret
   exact ⟨by rw [←HV.out,H.out];rfl,rfl⟩
 ·have b4:((y:Int) % 4 == 0)=false:=by rw [beq_eq_false_iff_ne];omega
  have b5:((y:Int) % 400 == 0)=false:=by rw [beq_eq_false_iff_ne];omega
  have H:=Lib.hid (show leap y=false by have:y % 400≠0:=by omega
                                        simp [leap,h4,this])
  clear h4
  go_enter Tryz.func119,Tryz.ntmps119
  go_wp2_with fail
  go_ret
  exact ⟨by rw [←HV.out,H.out];rfl,rfl⟩
end Go.Proofs.YtcibjcgipfpniaaGreatDoor
namespace Go.Proofs.YtcibjcgipfpniaaGreatDoor
open Go.RowKit

theorem dim_two {y:Nat} (h:leap y=true):dim y 2=29:=by simp [dim,h]
theorem dim_two' {y:Nat} (h:leap y=false):dim y 2=28:=by simp [dim,h]
theorem dim_le (y m:Nat):28≤dim y m∧dim y m≤31:=by unfold dim;split <;> (try split) <;> omega

set_option maxRecDepth 100000 in
set_option maxHeartbeats 4000000 in
theorem days'_any (w:World) (y m:Nat) (hy:y≤100000) (hm:1≤m) (h12:m≤12) (v:Nat) (hv:dim y m=v) :
  Calls Tryz.prog 120 #[.int .i64 y,.int .i64 m] w fun e w'=>e = .returned (.int .i64 v)∧Below w.heap.size w w':=by
 have HV:=Lib.hid hv
 clear hv
 have h:m=2∨m=1∨m=3∨m=4∨m=5∨m=6∨m=7∨m=8∨m=9∨m=10∨m=11∨m=12:=by omega
 rcases h with rfl | h
 ·cases hl:leap y
  ·have H:=Lib.hid (dim_two' hl)
   have HL:=Lib.hid hl
   clear hl
   go_enter Tryz.func120,Tryz.ntmps120
   go_wp2_with fail
   refine (long_any _ y hy false HL.out).mono ?_
   rintro e w1 ⟨rfl,rfl⟩
   go_wp2_with fail
   go_ret
   exact ⟨by rw [←HV.out,H.out];rfl,(Below.refl _ _).alloc (Nat.le_refl _) _⟩
  ·have H:=Lib.hid (dim_two hl)
   have HL:=Lib.hid hl
   clear hl
   go_enter Tryz.func120,Tryz.ntmps120
   go_wp2_with fail
   refine (long_any _ y hy true HL.out).mono ?_
   rintro e w1 ⟨rfl,rfl⟩
   go_wp2_with fail
   go_ret
   exact ⟨by rw [←HV.out,H.out];rfl,(Below.refl _ _).alloc (Nat.le_refl _) _⟩
 ·clear hm h12
  rcases h with rfl | rfl | rfl | rfl | rfl | rfl | rfl | rfl | rfl | rfl | rfl
  all_goals
   have H:=HV.out
   simp [dim] at H
   have HV:=Lib.hid H
   clear H
   go_enter Tryz.func120,Tryz.ntmps120
   go_wp2_with fail
   go_ret
   exact ⟨by rw [←HV.out];rfl,(Below.refl _ _).alloc (Nat.le_refl _) _⟩

/-- A time's parts. -/
structure Parts6 where
 y:Nat
 m:Nat
 d:Nat
 h:Nat
 i:Nat
 s:Nat
/-- It is the date of a time. -/
structure IsDate (t:Int) (x:Parts6):Prop where
 valid:Valid x.y x.m x.d
 h23:x.h≤23
 i59:x.i≤59
 s59:x.s≤59
 y9999:x.y≤9999
 y1950:1950≤x.y
 tot:t+62162035200=(num x.y x.m x.d:Int)*86400+(x.h*3600+x.i*60+x.s:Nat)
end Go.Proofs.YtcibjcgipfpniaaGreatDoor
namespace Go.Proofs.YtcibjcgipfpniaaGreatDoor
open Go.RowKit

theorem day_is (N:Nat) (h:num 1950 1 1≤N):∃ y m d,Valid y m d∧num y m d=N∧1950≤y:=by
 induction N with
 | zero =>
  have:num 1950 1 1=712163:=by decide +kernel
  omega
 | succ N ih =>
  by_cases h0:num 1950 1 1≤N
  ·obtain ⟨y,m,d,hv,hn,hy⟩:=ih h0
   have h1:=num_day y m d hv.d1
   have h2:=hv.dd
   have h3:=hv.m12
   have h4:=hv.m1
   have h5:=hv.d1
   by_cases hd:d<dim y m
   ·refine ⟨y,m,d+1,⟨hv.y1,hv.m1,hv.m12,by omega,by omega⟩,?_,hy⟩
    have:=num_day y m (d+1) (by omega)
    omega
   ·by_cases hm:m<12
    ·refine ⟨y,m+1,1,⟨hv.y1,by omega,by omega,by omega,by have:=dim_le y (m+1);omega⟩,?_,hy⟩
     have:=num_next y m hv.y1 hv.m1 (by omega)
     omega
    ·obtain rfl:m=12:=by omega
     refine ⟨y+1,1,1,⟨by omega,by omega,by omega,by omega,by have:=dim_le (y+1) 1;omega⟩,?_,by omega⟩
     have:=num_dec y hv.y1
     have:dim y 12=31:=rfl
     omega
  ·have:num 1950 1 1=N+1:=by omega
   exact ⟨1950,1,1,⟨by omega,by omega,by omega,by omega,by decide⟩,this,by omega⟩

theorem date_is (t:Int) (h0:-631152000≤t) (h1:t≤253402300799):∃ x,IsDate t x:=by
 have e1:num 1950 1 1=712163:=by decide +kernel
 have e2:num 10000 1 1=3652365:=by decide +kernel
 obtain ⟨T,hT⟩:∃ T:Nat,t+62162035200=(T:Int):=⟨(t+62162035200).toNat,by omega⟩
 obtain ⟨y,m,d,hv,hn,hy⟩:=day_is (T / 86400) (by omega)
 have hin:=num_in hv
 refine ⟨⟨y,m,d,T % 86400 / 3600,T % 86400 / 60 % 60,T % 86400 % 60⟩,hv,by simp;omega,by simp;omega,by simp;omega,?_,hy,?_⟩
 ·show y≤9999
  rcases Nat.lt_or_ge 9999 y with h | h
  ·have:=num_mono_year (y:=10000) (y':=y) (by omega) (by omega)
   omega
  ·exact h
 ·show _=(num y m d:Int)*86400+((T % 86400 / 3600*3600+T % 86400 / 60 % 60*60+T % 86400 % 60:Nat):Int)
  rw [hT,hn]
  omega

/-- It is the only one. -/
theorem IsDate.same {t:Int} {x z:Parts6} (h:IsDate t x) (h':IsDate t z):x=z:=by
 obtain ⟨y,m,d,hh,i,s⟩:=x
 obtain ⟨y',m',d',hh',i',s'⟩:=z
 have a:=h.tot
 have b:=h'.tot
 have c1:=h.h23
 have c2:=h.i59
 have c3:=h.s59
 have c4:=h'.h23
 have c5:=h'.i59
 have c6:=h'.s59
 simp only at a b c1 c2 c3 c4 c5 c6
 have hn:num y m d=num y' m' d':=by omega
 have:=civ_num h.valid
 have h2:=civ_num h'.valid
 simp only at this h2
 rw [hn,h2] at this
 simp only [Prod.mk.injEq] at this
 obtain ⟨rfl,rfl,rfl⟩:=this
 have e1:hh=hh':=by omega
 have e2:i=i':=by omega
 have e3:s=s':=by omega
 rw [e1,e2,e3]

theorem results_tmp6 {fn:Func} {t u v x y z:Tmp} (h:fn.results=#[.tmp t,.tmp u,.tmp v,.tmp x,.tmp y,.tmp z]) (tmps:Array Value) (P:Program) (w:World) :
  (results fn tmps).run P w = .ok (.tuple #[tmps.getD t undef,tmps.getD u undef,tmps.getD v undef,tmps.getD x undef,tmps.getD y undef,tmps.getD z undef]) w:=by simp [results,h]

def Parts6.vals (x:Parts6):Array Value:=#[.int .i64 x.y,.int .i64 x.m,.int .i64 x.d,.int .i64 x.h,.int .i64 x.i,.int .i64 x.s]

theorem six_ret {a b c d e f:Int} {x:Parts6} (h1:a=x.y) (h2:b=x.m) (h3:c=x.d) (h4:d=x.h) (h5:e=x.i) (h6:f=x.s) :
  Ending.returned (.tuple #[.int .i64 a,.int .i64 b,.int .i64 c,.int .i64 d,.int .i64 e,.int .i64 f]) = .returned (.tuple x.vals):=by
 subst h1;subst h2;subst h3;subst h4;subst h5;subst h6;rfl
theorem six_agg {a b c d e f:Int} {x:Parts6} (h1:a=x.y) (h2:b=x.m) (h3:c=x.d) (h4:d=x.h) (h5:e=x.i) (h6:f=x.s) :
  (Value.agg #[.int .i64 a,.int .i64 b,.int .i64 c,.int .i64 d,.int .i64 e,.int .i64 f]) = .agg x.vals:=by
 subst h1;subst h2;subst h3;subst h4;subst h5;subst h6;rfl

set_option maxRecDepth 100000 in
set_option maxHeartbeats 1000000 in
theorem date_yes (w:World) (t:Int) (h0:-631152000≤t) (h1:t≤253402300799) (x:Parts6) (hx:IsDate t x) :
  Calls Tryz.prog 82 #[.int .i64 t] w fun e w'=>e = .returned (.tuple x.vals)∧w=w':=by
 have hc:=civ_num hx.valid
 have htot:=hx.tot
 have b1:=hx.h23
 have b2:=hx.i59
 have b3:=hx.s59
 obtain ⟨T,hT⟩:∃ T:Nat,t+62162035200=(T:Int):=⟨(t+62162035200).toNat,by omega⟩
 have hTl:T≤315564336000:=by omega
 have hn:T / 86400=num x.y x.m x.d:=by omega
 have hS:T % 86400=x.h*3600+x.i*60+x.s:=by omega
 have hnl:T / 86400≤4000000:=by omega
 rw [←hn] at hc
 have HT:=Lib.hid hT
 have HC:=Lib.hid hc
 have HS:=Lib.hid hS
 clear hc hT hn hS htot hx
 have hdiv:((T:Int) / 86400)=((T / 86400:Nat):Int):=by omega
 have HD:=Lib.hid hdiv
 clear hdiv
 go_enter Tryz.func82,Tryz.ntmps82
 go_wp2_with fail
 refine (is_yes _ t h0 h1).mono ?_
 rintro e w1 ⟨rfl,rfl⟩
 go_wp2_with fail
 rw [HT.out,HD.out]
 refine (civil_any _ (T / 86400) hnl _ _ _ HC.out).mono ?_
 rintro e w1 ⟨rfl,rfl⟩
 go_wp2_with fail
 refine bodyPost_ret (results_tmp6 (t:=2) (u:=3) (v:=4) (x:=5) (y:=6) (z:=7) rfl _ _ _) rfl ⟨six_ret rfl rfl rfl ?_ ?_ ?_,rfl⟩
 all_goals
  have:=HS.out
  have:=HT.out
  omega

end Go.Proofs.YtcibjcgipfpniaaGreatDoor
