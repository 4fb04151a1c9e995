/- Words and laws for the statement, part 4. -/
import Derived.Lib.LazyBuf
import Derived.Test.YtnedpkhehiijhaaGreatChecked
import Derived.WalkKit
import Derived.WalkSpells
import Derived.WalkLawsBesides
import Derived.Outline
import Derived.BigQuiet
import Derived.Deep.QuietTactic
import Derived.IntWalk
import Derived.Test.YtnedpkhehiijhaaGreatQ01
import Derived.Test.YtnedpkhehiijhaaGreatQ02
import Derived.Test.YtnedpkhehiijhaaGreatQ03
namespace Go.Proofs.YtnedpkhehiijhaaGreat
open Go.RowKit
set_option linter.unusedVariables false
set_option linter.unusedSimpArgs false
attribute [local go_sem ↓] Go.wp_at_zero Go.wp_at_succ

structure ArmS (bx:Nat) (a:Int) (K2:Option Addr) (n2 c3:Nat) (W:World):Prop where
 q0:W.cell? ⟨bx,0,none⟩=some (.int .i64 a)
 q1:W.cell? ⟨bx,1,none⟩=some (.slice K2 n2 c3)
theorem ArmS.under {bx:Nat} {a:Int} {K2:Option Addr} {n2 c3:Nat} {W W':World} (h:ArmS bx a K2 n2 c3 W) (hb:Below W.heap.size W W'):ArmS bx a K2 n2 c3 W':=by
 have k:∀ (g i:Nat) (v:Value),W.cell? ⟨g,i,none⟩=some v→W'.cell? ⟨g,i,none⟩=some v:=fun g i v hv=>(hb.cell (p:=⟨g,i,none⟩) (World.block_lt_of_cell? W _ hv)).trans hv
 exact ⟨k _ _ _ h.q0,k _ _ _ h.q1⟩
theorem ArmS.aside {bx:Nat} {a:Int} {K2:Option Addr} {n2 c3:Nat} {W:World} (h:ArmS bx a K2 n2 c3 W) {gx:Nat} (hne:bx≠gx) (i:Nat) (v:Value):ArmS bx a K2 n2 c3 (W.setCell ⟨gx,i,none⟩ v) :=
 ⟨(World.cell?_of_block (a:=⟨bx,0,none⟩) (Below.heap_setCell W ⟨gx,i,none⟩ v bx hne)).trans h.q0,(World.cell?_of_block (a:=⟨bx,1,none⟩) (Below.heap_setCell W ⟨gx,i,none⟩ v bx hne)).trans h.q1⟩
section
variable {w:World} {gx gS cS:Nat} {A:Option Addr} {cw:Nat} {K:Option Addr} {ck:Nat} {at_:Int} {kl:List Bool} {rs:List Rw} {ws:List (Nat×Rw)} {s:Dk}
end
def ArmPostR (w:World) (gx gS cS:Nat) (A:Option Addr) (cw:Nat) (a:Int) (l:List Bool) (rs:List Rw) (ws:List (Nat×Rw)) (s:Dk) (w':World):Prop :=
 ∃ K' ck',RfAt w' gx gS cS A cw K' ck' a l rs ws s∧∀ g,blockOf K'=some g→w.heap.size≤g
theorem Row.rd64 {w:World} {g:Nat} {l:List Nat} (h:Row .u8 5 w g l) (hl:l.length=64):Rd .u8 w w.heap.size (some ⟨g,0,none⟩) 64 l:=by
 have:=h.rd (n:=64) (c:=64) (by omega) (Nat.le_refl _) (by omega)
 rw [List.take_of_length_le (by omega)] at this
 exact this.more (Holds.lt h)
theorem info_bytes:(Tryz.prog.info? 44).map (fun i=>(i.zero,i.size,i.bytes))=some (some (.slice none 0 0),1,24):=by kernel_rfl
/-- So many sectors are there. -/
structure RnSt (w:World) (B:Nat) (A:Option Addr) (cS k:Nat) (rs:List Rw) (W:World):Prop where
 hd:Holds W B 114 #[.slice A k cS,.slice none 0 0,.int .i64 0,.int .i64 0,.slice none 0 0,.bool false,.bool false]
 own:OwnV 44 1 W A cS k (rs.map rslot)
 len:rs.length=k
 rd:∀ r∈rs,Rd .u8 W W.heap.size r.a r.c r.l∧r.l=zsec∧∀ g,blockOf r.a=some g→B<g∧blockOf A≠some g
 ab:∀ g,blockOf A=some g→B<g
 bel:Below B w W
theorem RnSt.push {w V W3:World} {B:Nat} {A:Option Addr} {cS k:Nat} {rs:List Rw} {r:Rw} (h:RnSt w B A cS k rs V) {V3:World} (hk:Below V.heap.size V V3) (hr:Rd .u8 V3 V3.heap.size r.a r.c r.l∧r.l=zsec∧∀ g,blockOf r.a=some g→V.heap.size≤g)
  {g' c':Nat} (hw:OwnV 44 1 W3 (some ⟨g',0,none⟩) c' (k+1) (rs.map rslot ++ [rslot r])) (hgr:V3.grownBy W3 (blockOf A)) (hat:blockOf A=some g'∨g'=V3.heap.size) :
  Holds W3 B 114 #[.slice A k cS,.slice none 0 0,.int .i64 0,.int .i64 0,.slice none 0 0,.bool false,.bool false] ∧
  RnSt w B (some ⟨g',0,none⟩) c' (k+1) (rs ++ [r]) (W3.setCell ⟨B,0,none⟩ (.slice (some ⟨g',0,none⟩) (k+1) c')):=by
 have hlt:B<V.heap.size:=Holds.lt h.hd
 have hd3:Holds W3 B 114 #[.slice A k cS,.slice none 0 0,.int .i64 0,.int .i64 0,.slice none 0 0,.bool false,.bool false] :=
  (hgr.block B (Nat.lt_of_lt_of_le hlt hk.size) (fun e=>by have:=h.ab B e.symm;omega)).trans ((hk.block B hlt).trans h.hd)
 refine ⟨hd3,?_⟩
 have hg':B<g':=by
  rcases hat with e | e
  ·exact h.ab g' e
  ·have:=hk.size;omega
 have hs:V3.heap.size≤(W3.setCell ⟨B,0,none⟩ (.slice (some ⟨g',0,none⟩) (k+1) c')).heap.size:=by rw [setCell_size];exact hgr.size
 have kk:∀ g,g≠B→blockOf A≠some g→g<V3.heap.size→(W3.setCell ⟨B,0,none⟩ (.slice (some ⟨g',0,none⟩) (k+1) c')).heap[g]?=V3.heap[g]?:=fun g h1 h2 h3 =>
  (Below.heap_setCell W3 ⟨B,0,none⟩ _ g h1).trans (hgr.block g h3 (fun e=>h2 e.symm))
 exact {
  hd:=Holds.stored hd3 0 _
  own:=by
   rw [List.map_append]
   exact OwnV.keep (w:=W3) hw fun g hg _=>Below.heap_setCell W3 ⟨B,0,none⟩ _ g (by
    obtain rfl:g'=g:=by simpa [blockOf] using hg
    show g'≠B
    omega)
  len:=by simp [h.len]
  rd:=fun q hq=>by
   rcases List.mem_append.1 hq with h1 | h1
   ·obtain ⟨a1,a2,a3⟩:=h.rd q h1
    have a1':=a1.keepB hk.size fun g _ hg=>hk.block g hg
    refine ⟨a1'.keepB hs fun g hg hlt'=>kk g (by have:=(a3 g hg).1;omega) (a3 g hg).2 hlt',a2,fun g hg=>⟨(a3 g hg).1,fun e=>?_⟩⟩
    obtain rfl:g'=g:=by simpa [blockOf] using e
    rcases hat with e | e
    ·exact (a3 g' hg).2 e
    ·have:=a1.lt (by rw [a2];decide) hg
     have:=hk.size
     omega
   ·obtain rfl:=List.mem_singleton.1 h1
    obtain ⟨a1,a2,a3⟩:=hr
    have hA:∀ g,blockOf q.a=some g→blockOf A≠some g:=fun g hg e=>by
     have:=h.own.lt e
     have:=a3 g hg
     omega
    refine ⟨a1.keepB hs fun g hg hlt'=>kk g (by have:=a3 g hg;omega) (hA g hg) hlt',a2,fun g hg=>⟨by have:=a3 g hg;omega,fun e=>?_⟩⟩
    obtain rfl:g'=g:=by simpa [blockOf] using e
    rcases hat with e | e
    ·exact hA g' hg e
    ·have:=a1.lt (by rw [a2];decide) hg
     omega
  ab:=fun g hg=>by
   obtain rfl:g'=g:=by simpa [blockOf] using hg
   exact hg'
  bel:=by
   have b1:Below B w V3:=h.bel.trans (hk.mono (Nat.le_of_lt hlt))
   have b2:Below B V3 W3:=⟨hgr.os,hgr.tape,hgr.output,hgr.size,fun g hg=>hgr.block g (by have:=hk.size;omega) (fun e=>by have:=h.ab g e.symm;omega)⟩
   exact (b1.trans b2).setCell (by exact Nat.le_refl _) _ }
def RelN (w:World) (n:Nat) (i:Value) (wr:World):Prop :=
 ∃ (k:Nat) (A:Option Addr) (cS:Nat) (rs:List Rw),k≤n∧i = .int .i64 k∧RnSt w w.heap.size A cS k rs wr
def NewPostR (w:World) (n:Nat) (w':World):Prop :=
 (∃ gS cS rs,RfAt w' w.heap.size gS cS none 0 none 0 0 [] rs [] (fresh n)∧∀ g,RfBlk w.heap.size gS none none rs [] g→w.heap.size≤g)∧Below w.heap.size w w'
theorem RnSt.done {w W:World} {A:Option Addr} {cS n:Nat} {rs:List Rw} (h:RnSt w w.heap.size A cS n rs W) (h1:1≤n) (h2:n≤2000):NewPostR w n W:=by
 have hl:=h.len
 obtain ⟨r0,hr0⟩:∃ r,rs[0]?=some r:=⟨_,List.getElem?_eq_getElem (by omega)⟩
 obtain ⟨gS,rfl,_,_,_⟩:=h.own.at_ (j:=0) (v:=rslot r0) (by rw [List.getElem?_map,hr0];rfl)
 have hn:∀ g,blockOf (none:Option Addr)≠some g:=fun g e=>by simp [blockOf] at e
 refine ⟨⟨gS,cS,rs,?_,fun g hg=>?_⟩,h.bel⟩
 ·subst hl
  exact {
   hd:=h.hd
   hS:=h.own
   hW:=OwnV.nil _ _ _
   rd:=fun r hr=>⟨(h.rd r hr).1,by rw [(h.rd r hr).2.1];rfl,fun g hg=>⟨by have:=((h.rd r hr).2.2 g hg).1;omega,fun e=>((h.rd r hr).2.2 g hg).2 (by rw [e];rfl),hn g⟩⟩
   wd:=fun p hp=>by cases hp
   hk:=Truths.nil _
   eS:=by
    show _=List.replicate rs.length zsec
    rw [List.eq_replicate_iff]
    refine ⟨by simp,fun x hx=>?_⟩
    obtain ⟨r,hr,rfl⟩:=List.mem_map.1 hx
    exact (h.rd r hr).2.1
   eW:=rfl
   ea:=fun e=>by cases e
   xs:=by have:=h.ab gS rfl;omega
   ax:=⟨hn _,hn _⟩
   kx:=fun g hg=>absurd hg (hn g)
   n1:=h1
   n2:=h2
   wat:=fun p hp=>by cases hp }
 ·rcases hg with rfl | rfl | hg | hg | ⟨r,hr,hg⟩ | ⟨p,hp,hg⟩
  ·exact Nat.le_refl _
  ·exact Nat.le_of_lt (h.ab _ rfl)
  ·exact absurd hg (hn g)
  ·exact absurd hg (hn g)
  ·exact Nat.le_of_lt ((h.rd r hr).2.2 g hg).1
  ·cases hp
set_option maxRecDepth 100000 in
set_option maxHeartbeats 4000000 in
theorem rnew_yes (w:World) (n:Nat) (h1:1≤n) (h2:n≤2000):Calls Tryz.prog 30 #[.int .i64 n] w fun e w'=>e = .returned (.pointer (some ⟨w.heap.size,0,none⟩))∧NewPostR w n w':=by
 have d1:decide ((n:Int)<1)=false:=decide_eq_false (by omega)
 have d2:decide (2000<(n:Int))=false:=decide_eq_false (by omega)
 have hst:RnSt w w.heap.size none 0 0 [] (w.alloc (.cells #[.slice none 0 0,.slice none 0 0,.int .i64 0,.int .i64 0,.slice none 0 0,.bool false,.bool false] 114)) :=
  ⟨Holds.fresh _ _ _,OwnV.nil _ _ _,rfl,(fun r hr=>by cases hr),(fun g hg=>by simp [blockOf] at hg),(Below.refl _ w).alloc (Nat.le_refl _) _⟩
 have HS0:=Lib.hid hst
 clear hst
 go_enter Tryz.func30,Tryz.ntmps30
 go_wp2_with fail
 go_loopw [4] (fun i wr=>RelN w n i wr) (fun i _=>n - (intOf i).toNat)
 case atStart=>exact ⟨0,none,0,[],Nat.zero_le _,rfl,HS0.out⟩
 case round =>
  obtain ⟨k,A,cS,rs,hk,rfl,hst⟩:=hrel
  obtain ⟨V,hV⟩:∃ V,V=wr:=⟨_,rfl⟩
  subst hV
  have HST:=Lib.hid hst
  by_cases hkn:k<n
  case pos =>
   have hkI:(k:Int)<(n:Int):=by omega
   have hk0:(0:Int)≤(k:Int):=by omega
   have hmk:=make_row
   obtain ⟨V1,hV1⟩:∃ V1,(V.alloc (.cells zrow 5)).drew=V1:=⟨_,rfl⟩
   have hb1:Below V.heap.size V V1:=by rw [←hV1];exact ((Below.refl _ V).alloc (Nat.le_refl _) _).drew
   have hs1:V1.heap.size=V.heap.size+1:=by rw [←hV1];simp
   have hz1:Row .u8 5 V1 V.heap.size zsec:=by rw [←hV1];exact heap_alloc_new V _
   obtain ⟨V3,hV3⟩:∃ V3,V1.alloc (.cells #[.slice (some ⟨V.heap.size,0,none⟩) 64 64] 44)=V3:=⟨_,rfl⟩
   have hb3:Below V1.heap.size V1 V3:=by rw [←hV3];exact (Below.refl _ V1).alloc (Nat.le_refl _) _
   have hke:Below V.heap.size V V3:=hb1.trans (hb3.mono hb1.size)
   have hz3:Rd .u8 V3 V3.heap.size (some ⟨V.heap.size,0,none⟩) 64 zsec:=Row.rd64 (Holds.under hz1 hb3 (by omega)) rfl
   have hrs:rslot ⟨some ⟨V.heap.size,0,none⟩,64,zsec⟩ = .slice (some ⟨V.heap.size,0,none⟩) 64 64:=rfl
   have HKE:=Lib.hid hke
   have HZ3:=Lib.hid hz3
   have HOW:Hid (OwnV 44 1 V3 A cS k (rs.map rslot)):=Lib.hid (hst.own.keep fun g _ hlt=>hke.block g hlt)
   have HH3:Hid (Holds V3 (V.heap.size+1) 44 [rslot ⟨some ⟨V.heap.size,0,none⟩,64,zsec⟩].toArray):=Lib.hid (by rw [hrs,←hV3,←hs1];exact Holds.fresh _ _ _)
   have HWL:Hid ([rslot ⟨some ⟨V.heap.size,0,none⟩,64,zsec⟩].length=1):=Lib.hid rfl
   have HW1:Hid (∀ u∈[rslot ⟨some ⟨V.heap.size,0,none⟩,64,zsec⟩],u.oneCell'=true):=Lib.hid (by intro u hu;simp at hu;subst hu;rfl)
   have HWN:Hid (k≤100000):=Lib.hid (by omega)
   have HV1:=Lib.hid hV1
   have HV3:=Lib.hid hV3
   have e0:V.cell? ⟨w.heap.size,0,none⟩=some (.slice A k cS):=hst.hd.cell 0
   have e1:V1.cell? ⟨w.heap.size,0,none⟩=some (.slice A k cS):=(hst.hd.under hb1 hst.hd.lt).cell 0
   have e3:V3.cell? ⟨w.heap.size,0,none⟩=some (.slice A k cS):=(hst.hd.under hke hst.hd.lt).cell 0
   clear hst hb1 hb3 hke hz3 hrs hz1 hV1 hV3 HS0
   go_wp2_with fail
   refine wp_region_noPanic ?_
   refine wp_region_held_drew (S:=fun _=>True) (by kernel_rfl) trivial (fun hHeld=>?_)
   refine wpAnyH_take (i:=0) (oi:={ dst:=some 18,op:=Op.move (Operand.tmp 3),type:=24,pos:=_,after:=_,guard:=none }) (v:=?_) rfl (by kernel_rfl) (by kernel_rfl) (by kernel_rfl) (fun _ _ _ h=>h) (Or.inl ⟨by rfl,?_⟩) hHeld ?_
   rotate_left 1
   ·(intro W hW;(try dsimp only at hW);go_simp;try with_reducible rfl)
   try simp only [Act.put,List.setIfInBounds_toArray,List.set_cons_zero,List.set_cons_succ]
   refine wpAnyH_take (i:=1) (oi:={ dst:=some 19,op:=Op.move (Operand.tmp 3),type:=24,pos:=_,after:=_,guard:=none }) (v:=?_) rfl (by kernel_rfl) (by kernel_rfl) (by kernel_rfl) (fun _ _ _ h=>h) (Or.inl ⟨by rfl,?_⟩) hHeld ?_
   rotate_left 1
   ·(intro W hW;(try dsimp only at hW);go_simp;try with_reducible rfl)
   try simp only [Act.put,List.setIfInBounds_toArray,List.set_cons_zero,List.set_cons_succ]
   refine wpAnyH_take (i:=2) (oi:={ dst:=some 20,op:=Op.nilCheck (Operand.tmp 19),type:=0,pos:=_,after:=_,guard:=none }) (v:=?_) rfl (by kernel_rfl) (by kernel_rfl) (by kernel_rfl) (fun _ _ _ h=>h) (Or.inl ⟨by rfl,?_⟩) hHeld ?_
   rotate_left 1
   ·(intro W hW;(try dsimp only at hW);go_simp;try with_reducible rfl)
   try simp only [Act.put,List.setIfInBounds_toArray,List.set_cons_zero,List.set_cons_succ]
   refine wpAnyH_take (i:=3) (oi:={ dst:=some 21,op:=Op.fieldAddr 114 (Operand.tmp 20) 0,type:=0,pos:=_,after:=_,guard:=none }) (v:=?_) rfl (by kernel_rfl) (by kernel_rfl) (by kernel_rfl) (fun _ _ _ h=>h) (Or.inl ⟨by rfl,?_⟩) hHeld ?_
   rotate_left 1
   ·(intro W hW;(try dsimp only at hW);go_simp;try with_reducible rfl)
   try simp only [Act.put,List.setIfInBounds_toArray,List.set_cons_zero,List.set_cons_succ]
   refine wpAnyH_ready (rs:=[4,5]) (by kernel_rfl) (by simp) ?_
   refine AllReadyH.cons (o:={ dst:=some 22,op:=Op.load 112 (Operand.tmp 21),type:=112,pos:=_,after:=_,guard:=none }) rfl (fun K hK=>?_) ?_
   ·go_simp
    refine hK.out _ _ trivial (fun hHeld=>?_)
    clear hK K
    try simp only [Act.put,List.setIfInBounds_toArray,List.set_cons_zero,List.set_cons_succ]
    refine wpAnyH_ready (rs:=[5]) (by kernel_rfl) (by simp) ?_
    refine AllReadyH.cons (o:={ dst:=some 23,op:=Op.makeSlice 44 (Operand.const (Value.int IntKind.i64 64)) (Operand.const (Value.int IntKind.i64 64)),type:=44,pos:=_,after:=_,guard:=none }) rfl (fun K hK=>?_) AllReadyH.nil
    go_simp
    rw [HV1.out]
    refine hK.out _ _ trivial (fun hHeld=>?_)
    clear hK K
    try simp only [Act.put,List.setIfInBounds_toArray,List.set_cons_zero,List.set_cons_succ]
    refine wpAnyH_ready (rs:=[6]) (by kernel_rfl) (by simp) ?_
    refine AllReadyH.cons (o:={ dst:=some 24,op:=Op.buildSlice 112 1 #[(0,Operand.tmp 23)],type:=112,pos:=_,after:=_,guard:=none }) rfl (fun K hK=>?_) AllReadyH.nil
    go_simp
    rw [HV3.out]
    refine hK.out _ _ trivial (fun hHeld=>?_)
    clear hK K
    try simp only [Act.put,List.setIfInBounds_toArray,List.set_cons_zero,List.set_cons_succ]
    refine wpAnyH_ready (rs:=[7]) (by kernel_rfl) (by simp) ?_
    refine AllReadyH.cons (o:={ dst:=some 25,op:=Op.call { callee:=Callee.builtin Builtin.append,args:=#[Operand.tmp 22,Operand.tmp 24],argTypes:=#[112,112] },type:=112,pos:=_,after:=_,guard:=none }) rfl (fun K hK=>?_) AllReadyH.nil
    refine step_pushV _ rfl (.tmp 22) (.tmp 24) 112 rfl 44 (.slice none 0 0) 1 24 Tryz.underlying112 info_bytes rfl (by omega) (by omega) rfl HOW.out rfl HWL.out HW1.out HH3.out HWN.out ?_
    intro g5 c5 W3 hw3 hgr3 hat3 hlt3
    have hst:=RnSt.push (r:=⟨some ⟨V.heap.size,0,none⟩,64,zsec⟩) HST.out HKE.out ⟨HZ3.out,rfl,fun g hg=>by
     obtain rfl:V.heap.size=g:=by simpa [blockOf] using hg
     exact Nat.le_refl _⟩ hw3 hgr3 hat3
    have q4:W3.cell? ⟨w.heap.size,0,none⟩=some (.slice A k cS):=hst.1.cell 0
    have f4:W3.frozen? ⟨w.heap.size,0,none⟩=false:=hst.1.open_ 0
    have HST2:=Lib.hid hst.2
    clear hw3 hgr3 hat3 hlt3 hst
    refine hK.out _ _ trivial (fun hHeld=>?_)
    clear hK K
    try simp only [Act.put,List.setIfInBounds_toArray,List.set_cons_zero,List.set_cons_succ]
    refine wpAnyH_take (i:=8) (oi:={ dst:=some 26,op:=Op.nilCheck (Operand.tmp 18),type:=0,pos:=_,after:=_,guard:=none }) (v:=?_) rfl (by kernel_rfl) (by kernel_rfl) (by kernel_rfl) (fun _ _ _ h=>h) (Or.inl ⟨by rfl,?_⟩) hHeld ?_
    rotate_left 1
    ·(intro W hW;(try dsimp only at hW);go_simp;try with_reducible rfl)
    try simp only [Act.put,List.setIfInBounds_toArray,List.set_cons_zero,List.set_cons_succ]
    refine wpAnyH_take (i:=9) (oi:={ dst:=some 27,op:=Op.fieldAddr 114 (Operand.tmp 26) 0,type:=0,pos:=_,after:=_,guard:=none }) (v:=?_) rfl (by kernel_rfl) (by kernel_rfl) (by kernel_rfl) (fun _ _ _ h=>h) (Or.inl ⟨by rfl,?_⟩) hHeld ?_
    rotate_left 1
    ·(intro W hW;(try dsimp only at hW);go_simp;try with_reducible rfl)
    try simp only [Act.put,List.setIfInBounds_toArray,List.set_cons_zero,List.set_cons_succ]
    refine wpAnyH_ready (rs:=[10]) (by kernel_rfl) (by simp) ?_
    refine AllReadyH.cons (o:={ dst:=none,op:=Op.store 112 (Operand.tmp 27) (Operand.tmp 25),type:=0,pos:=_,after:=_,guard:=none }) rfl (fun K hK=>?_) AllReadyH.nil
    go_simp
    refine hK.out _ _ trivial (fun hHeld=>?_)
    clear hK K
    try simp only [Act.put,List.setIfInBounds_toArray,List.set_cons_zero,List.set_cons_succ]
    refine wpAnyH_done (by kernel_rfl) ?_ _
    refine NoPanic.normal ?_
    clear HST HKE HZ3 HOW HH3 HV1 HV3
    go_wp2_with fail
    go_roundw
    case rel=>exact ⟨k+1,_,_,_,by omega,by go_num,HST2.out⟩
    case measure=>simp [intOf];omega
   refine AllReadyH.cons (o:={ dst:=some 23,op:=Op.makeSlice 44 (Operand.const (Value.int IntKind.i64 64)) (Operand.const (Value.int IntKind.i64 64)),type:=44,pos:=_,after:=_,guard:=none }) rfl (fun K hK=>?_) AllReadyH.nil
   go_simp
   rw [HV1.out]
   refine hK.out _ _ trivial (fun hHeld=>?_)
   clear hK K
   try simp only [Act.put,List.setIfInBounds_toArray,List.set_cons_zero,List.set_cons_succ]
   refine wpAnyH_ready (rs:=[4,6]) (by kernel_rfl) (by simp) ?_
   refine AllReadyH.cons (o:={ dst:=some 22,op:=Op.load 112 (Operand.tmp 21),type:=112,pos:=_,after:=_,guard:=none }) rfl (fun K hK=>?_) ?_
   ·go_simp
    refine hK.out _ _ trivial (fun hHeld=>?_)
    clear hK K
    try simp only [Act.put,List.setIfInBounds_toArray,List.set_cons_zero,List.set_cons_succ]
    refine wpAnyH_ready (rs:=[6]) (by kernel_rfl) (by simp) ?_
    refine AllReadyH.cons (o:={ dst:=some 24,op:=Op.buildSlice 112 1 #[(0,Operand.tmp 23)],type:=112,pos:=_,after:=_,guard:=none }) rfl (fun K hK=>?_) AllReadyH.nil
    go_simp
    rw [HV3.out]
    refine hK.out _ _ trivial (fun hHeld=>?_)
    clear hK K
    try simp only [Act.put,List.setIfInBounds_toArray,List.set_cons_zero,List.set_cons_succ]
    refine wpAnyH_ready (rs:=[7]) (by kernel_rfl) (by simp) ?_
    refine AllReadyH.cons (o:={ dst:=some 25,op:=Op.call { callee:=Callee.builtin Builtin.append,args:=#[Operand.tmp 22,Operand.tmp 24],argTypes:=#[112,112] },type:=112,pos:=_,after:=_,guard:=none }) rfl (fun K hK=>?_) AllReadyH.nil
    refine step_pushV _ rfl (.tmp 22) (.tmp 24) 112 rfl 44 (.slice none 0 0) 1 24 Tryz.underlying112 info_bytes rfl (by omega) (by omega) rfl HOW.out rfl HWL.out HW1.out HH3.out HWN.out ?_
    intro g5 c5 W3 hw3 hgr3 hat3 hlt3
    have hst:=RnSt.push (r:=⟨some ⟨V.heap.size,0,none⟩,64,zsec⟩) HST.out HKE.out ⟨HZ3.out,rfl,fun g hg=>by
     obtain rfl:V.heap.size=g:=by simpa [blockOf] using hg
     exact Nat.le_refl _⟩ hw3 hgr3 hat3
    have q4:W3.cell? ⟨w.heap.size,0,none⟩=some (.slice A k cS):=hst.1.cell 0
    have f4:W3.frozen? ⟨w.heap.size,0,none⟩=false:=hst.1.open_ 0
    have HST2:=Lib.hid hst.2
    clear hw3 hgr3 hat3 hlt3 hst
    refine hK.out _ _ trivial (fun hHeld=>?_)
    clear hK K
    try simp only [Act.put,List.setIfInBounds_toArray,List.set_cons_zero,List.set_cons_succ]
    refine wpAnyH_take (i:=8) (oi:={ dst:=some 26,op:=Op.nilCheck (Operand.tmp 18),type:=0,pos:=_,after:=_,guard:=none }) (v:=?_) rfl (by kernel_rfl) (by kernel_rfl) (by kernel_rfl) (fun _ _ _ h=>h) (Or.inl ⟨by rfl,?_⟩) hHeld ?_
    rotate_left 1
    ·(intro W hW;(try dsimp only at hW);go_simp;try with_reducible rfl)
    try simp only [Act.put,List.setIfInBounds_toArray,List.set_cons_zero,List.set_cons_succ]
    refine wpAnyH_take (i:=9) (oi:={ dst:=some 27,op:=Op.fieldAddr 114 (Operand.tmp 26) 0,type:=0,pos:=_,after:=_,guard:=none }) (v:=?_) rfl (by kernel_rfl) (by kernel_rfl) (by kernel_rfl) (fun _ _ _ h=>h) (Or.inl ⟨by rfl,?_⟩) hHeld ?_
    rotate_left 1
    ·(intro W hW;(try dsimp only at hW);go_simp;try with_reducible rfl)
    try simp only [Act.put,List.setIfInBounds_toArray,List.set_cons_zero,List.set_cons_succ]
    refine wpAnyH_ready (rs:=[10]) (by kernel_rfl) (by simp) ?_
    refine AllReadyH.cons (o:={ dst:=none,op:=Op.store 112 (Operand.tmp 27) (Operand.tmp 25),type:=0,pos:=_,after:=_,guard:=none }) rfl (fun K hK=>?_) AllReadyH.nil
    go_simp
    refine hK.out _ _ trivial (fun hHeld=>?_)
    clear hK K
    try simp only [Act.put,List.setIfInBounds_toArray,List.set_cons_zero,List.set_cons_succ]
    refine wpAnyH_done (by kernel_rfl) ?_ _
    refine NoPanic.normal ?_
    clear HST HKE HZ3 HOW HH3 HV1 HV3
    go_wp2_with fail
    go_roundw
    case rel=>exact ⟨k+1,_,_,_,by omega,by go_num,HST2.out⟩
    case measure=>simp [intOf];omega
   refine AllReadyH.cons (o:={ dst:=some 24,op:=Op.buildSlice 112 1 #[(0,Operand.tmp 23)],type:=112,pos:=_,after:=_,guard:=none }) rfl (fun K hK=>?_) AllReadyH.nil
   go_simp
   rw [HV3.out]
   refine hK.out _ _ trivial (fun hHeld=>?_)
   clear hK K
   try simp only [Act.put,List.setIfInBounds_toArray,List.set_cons_zero,List.set_cons_succ]
   refine wpAnyH_ready (rs:=[4]) (by kernel_rfl) (by simp) ?_
   refine AllReadyH.cons (o:={ dst:=some 22,op:=Op.load 112 (Operand.tmp 21),type:=112,pos:=_,after:=_,guard:=none }) rfl (fun K hK=>?_) AllReadyH.nil
   go_simp
   refine hK.out _ _ trivial (fun hHeld=>?_)
   clear hK K
   try simp only [Act.put,List.setIfInBounds_toArray,List.set_cons_zero,List.set_cons_succ]
   refine wpAnyH_ready (rs:=[7]) (by kernel_rfl) (by simp) ?_
   refine AllReadyH.cons (o:={ dst:=some 25,op:=Op.call { callee:=Callee.builtin Builtin.append,args:=#[Operand.tmp 22,Operand.tmp 24],argTypes:=#[112,112] },type:=112,pos:=_,after:=_,guard:=none }) rfl (fun K hK=>?_) AllReadyH.nil
   refine step_pushV _ rfl (.tmp 22) (.tmp 24) 112 rfl 44 (.slice none 0 0) 1 24 Tryz.underlying112 info_bytes rfl (by omega) (by omega) rfl HOW.out rfl HWL.out HW1.out HH3.out HWN.out ?_
   intro g5 c5 W3 hw3 hgr3 hat3 hlt3
   have hst:=RnSt.push (r:=⟨some ⟨V.heap.size,0,none⟩,64,zsec⟩) HST.out HKE.out ⟨HZ3.out,rfl,fun g hg=>by
    obtain rfl:V.heap.size=g:=by simpa [blockOf] using hg
    exact Nat.le_refl _⟩ hw3 hgr3 hat3
   have q4:W3.cell? ⟨w.heap.size,0,none⟩=some (.slice A k cS):=hst.1.cell 0
   have f4:W3.frozen? ⟨w.heap.size,0,none⟩=false:=hst.1.open_ 0
   have HST2:=Lib.hid hst.2
   clear hw3 hgr3 hat3 hlt3 hst
   refine hK.out _ _ trivial (fun hHeld=>?_)
   clear hK K
   try simp only [Act.put,List.setIfInBounds_toArray,List.set_cons_zero,List.set_cons_succ]
   refine wpAnyH_take (i:=8) (oi:={ dst:=some 26,op:=Op.nilCheck (Operand.tmp 18),type:=0,pos:=_,after:=_,guard:=none }) (v:=?_) rfl (by kernel_rfl) (by kernel_rfl) (by kernel_rfl) (fun _ _ _ h=>h) (Or.inl ⟨by rfl,?_⟩) hHeld ?_
   rotate_left 1
   ·(intro W hW;(try dsimp only at hW);go_simp;try with_reducible rfl)
   try simp only [Act.put,List.setIfInBounds_toArray,List.set_cons_zero,List.set_cons_succ]
   refine wpAnyH_take (i:=9) (oi:={ dst:=some 27,op:=Op.fieldAddr 114 (Operand.tmp 26) 0,type:=0,pos:=_,after:=_,guard:=none }) (v:=?_) rfl (by kernel_rfl) (by kernel_rfl) (by kernel_rfl) (fun _ _ _ h=>h) (Or.inl ⟨by rfl,?_⟩) hHeld ?_
   rotate_left 1
   ·(intro W hW;(try dsimp only at hW);go_simp;try with_reducible rfl)
   try simp only [Act.put,List.setIfInBounds_toArray,List.set_cons_zero,List.set_cons_succ]
   refine wpAnyH_ready (rs:=[10]) (by kernel_rfl) (by simp) ?_
   refine AllReadyH.cons (o:={ dst:=none,op:=Op.store 112 (Operand.tmp 27) (Operand.tmp 25),type:=0,pos:=_,after:=_,guard:=none }) rfl (fun K hK=>?_) AllReadyH.nil
   go_simp
   refine hK.out _ _ trivial (fun hHeld=>?_)
   clear hK K
   try simp only [Act.put,List.setIfInBounds_toArray,List.set_cons_zero,List.set_cons_succ]
   refine wpAnyH_done (by kernel_rfl) ?_ _
   refine NoPanic.normal ?_
   clear HST HKE HZ3 HOW HH3 HV1 HV3
   go_wp2_with fail
   go_roundw
   case rel=>exact ⟨k+1,_,_,_,by omega,by go_num,HST2.out⟩
   case measure=>simp [intOf];omega
  case neg =>
   obtain rfl:k=n:=by omega
   have hkI:¬ ((k:Int)<(k:Int)):=by omega
   have HD:=Lib.hid (hst.done h1 h2)
   clear hst HS0
   go_wp2_with fail
   go_ret
   exact ⟨rfl,HD.out⟩
end Go.Proofs.YtnedpkhehiijhaaGreat
namespace Go.Proofs.YtnedpkhehiijhaaGreat
open Go.RowKit
set_option linter.unusedVariables false
set_option linter.unusedSimpArgs false
attribute [local go_sem ↓] Go.wp_at_zero Go.wp_at_succ

/-- The document's disk is at gx, its blocks are F's. -/
def Ref (w:World) (F:Nat→Prop) (gx:Nat) (s:Dk):Prop :=
 s.Sound∧∃ gS cS A cw K ck at_ kl rs ws,RfAt w gx gS cS A cw K ck at_ kl rs ws s∧∀ g,RfBlk gx gS A K rs ws g→F g
section
variable {w w':World} {F G:Nat→Prop} {gx:Nat} {s s':Dk}
theorem Ref.keep (h:Ref w F gx s) (ho:Only G w w') (hFG:∀ k,F k→¬ G k):Ref w' F gx s:=by
 obtain ⟨hs,gS,cS,A,cw,K,ck,at_,kl,rs,ws,h,hF⟩:=h
 exact ⟨hs,gS,cS,A,cw,K,ck,at_,kl,rs,ws,h.keepAll ho.size fun g hg hlt=>ho.block g hlt (hFG g (hF g hg)),hF⟩
theorem Ref.under (h:Ref w F gx s) (hb:Below w.heap.size w w'):Ref w' F gx s:=by
 obtain ⟨hs,gS,cS,A,cw,K,ck,at_,kl,rs,ws,h,hF⟩:=h
 exact ⟨hs,gS,cS,A,cw,K,ck,at_,kl,rs,ws,h.under hb,hF⟩
theorem Ref.more (h:Ref w F gx s) (hFG:∀ k,F k→G k):Ref w G gx s:=by
 obtain ⟨hs,gS,cS,A,cw,K,ck,at_,kl,rs,ws,h,hF⟩:=h
 exact ⟨hs,gS,cS,A,cw,K,ck,at_,kl,rs,ws,h,fun g hg=>hFG g (hF g hg)⟩
theorem Ref.low (h:Ref w F gx s):Ref w (fun k=>F k∧k<w.heap.size) gx s:=by
 obtain ⟨hs,gS,cS,A,cw,K,ck,at_,kl,rs,ws,h,hF⟩:=h
 exact ⟨hs,gS,cS,A,cw,K,ck,at_,kl,rs,ws,h,fun g hg=>⟨hF g hg,h.lt hg⟩⟩
theorem Ref.at_ (h:Ref w F gx s):F gx∧gx<w.heap.size:=by
 obtain ⟨hs,gS,cS,A,cw,K,ck,at_,kl,rs,ws,h,hF⟩:=h
 exact ⟨hF gx (.inl rfl),h.lt (.inl rfl)⟩
theorem Dk.Sound.len (h:s.Sound):s.now.length=s.lasts.length:=by rw [h,fallN_length]
theorem Ref.cells (h:Ref w F gx s):∃ gS cS,w.cell? ⟨gx,0,none⟩=some (.slice (some ⟨gS,0,none⟩) s.now.length cS)∧w.cell? ⟨gx,2,none⟩=some (.int .i64 (s.ops:Int))∧w.cell? ⟨gx,6,none⟩=some (.bool s.down):=by
 obtain ⟨hs,gS,cS,A,cw,K,ck,at_,kl,rs,ws,h,hF⟩:=h
 have e:s.now.length=rs.length:=by rw [hs.len,←h.eS,List.length_map]
 exact ⟨gS,cS,by rw [e];exact h.cell 0,h.cell 2,h.cell 6⟩
theorem Ref.of {gS cS:Nat} {A:Option Addr} {cw:Nat} {K:Option Addr} {ck:Nat} {at_:Int} {kl:List Bool} {rs:List Rw} {ws:List (Nat×Rw)} (hs:s.Sound) (h:RfAt w' gx gS cS A cw K ck at_ kl rs ws s) (hF:∀ g,RfBlk gx gS A K rs ws g→F g∨w.heap.size≤g):Ref w' (grow F w w') gx s :=
 ⟨hs,gS,cS,A,cw,K,ck,at_,kl,rs,ws,h,fun g hg=>(hF g hg).elim .inl fun e=>.inr ⟨e,h.lt hg⟩⟩
theorem ref_write (h:Ref w F gx s) (i:Int) (A2:Option Addr) (n2 c2:Nat) (x:List Nat) (hn:x.length=n2) (hr:Rd .u8 w w.heap.size A2 c2 x) (hA2:0<n2→∀ g,blockOf A2=some g→g≠gx) (hwl:s.waits.length≤100000) (hops:s.ops≤1000000000) :
  Calls Tryz.prog 116 #[.pointer (some ⟨gx,0,none⟩),.int .i64 i,.slice A2 n2 c2] w fun e w'=>e = .returned (.int .i64 ((s.write i x).2:Nat))∧Ref w' (grow F w w') gx (s.write i x).1∧Only F w w':=by
 have hsn:=h.1.write i x
 have hself:Ref w (grow F w w) gx s:=h.more fun k hk=>.inl hk
 obtain ⟨hs,gS,cS,A,cw,K,ck,at_,kl,rs,ws,h,hF⟩:=h
 have hlen:s.now.length=rs.length:=by rw [hs.len,←h.eS,List.length_map]
 have hlw:s.waits.length=ws.length:=by rw [←h.eW,List.length_map]
 unfold Dk.write at hsn ⊢
 by_cases hdn:s.down=true
 ·rw [if_pos hdn]
  refine (rwrite_down w gx gS cS A cw K ck at_ kl rs ws s h hdn _ _).mono ?_
  rintro e w' ⟨rfl,rfl⟩
  exact ⟨rfl,hself,Only.refl _ _⟩
 ·rw [if_neg hdn] at hsn ⊢
  have hdn':s.down=false:=by simpa using hdn
  by_cases hf:s.fits i x
  ·rw [if_pos hf] at hsn ⊢
   obtain ⟨h0,h1,h2⟩:=hf
   obtain ⟨i,rfl⟩:∃ k:Nat,i=(k:Int):=⟨i.toNat,by omega⟩
   obtain rfl:n2=64:=by omega
   by_cases hd:s.due=true
   ·rw [if_pos hd] at hsn ⊢
    refine (rwrite_due w gx gS cS A cw K ck at_ kl rs ws s F h hF hdn' hd hops hwl i (by omega) A2 c2).mono ?_
    rintro e w' ⟨rfl,⟨rs',h',hF'⟩,ho⟩
    exact ⟨rfl,Ref.of hsn h' hF',ho⟩
   ·rw [if_neg hd] at hsn ⊢
    refine (rwrite_ok w gx gS cS A cw K ck at_ kl rs ws s h hdn' (by simpa using hd) i (by omega) A2 c2 x h2 hr (by omega) hops (hA2 (by omega))).mono ?_
    rintro e w' ⟨rfl,⟨A',cw',ws',h',hF'⟩,ho⟩
    refine ⟨rfl,Ref.of hsn (h'.to (s':=s.wrote i x) rfl rfl rfl rfl rfl rfl rfl) (fun g hg=>(hF' g hg).elim (fun e=>.inl (hF g e)) .inr),ho.more fun k _ e=>?_⟩
    rcases e with rfl | e
    ·exact hF _ (.inl rfl)
    ·exact hF k (.inr (.inr (.inl e)))
  ·rw [if_neg hf]
   refine (rwrite_arg w gx gS cS A cw K ck at_ kl rs ws s h hdn' i A2 n2 c2 (fun e=>hf ⟨e.1,by omega,by omega⟩)).mono ?_
   rintro e w' ⟨rfl,rfl⟩
   exact ⟨rfl,hself,Only.refl _ _⟩
theorem ref_flush (h:Ref w F gx s) (hwl:s.waits.length≤100000) (hops:s.ops≤1000000000) :
  Calls Tryz.prog 117 #[.pointer (some ⟨gx,0,none⟩)] w fun e w'=>e = .returned (.int .i64 (s.flush.2:Nat))∧Ref w' (grow F w w') gx s.flush.1∧Only F w w':=by
 have hsn:=h.1.flush
 have hself:Ref w (grow F w w) gx s:=h.more fun k hk=>.inl hk
 obtain ⟨hs,gS,cS,A,cw,K,ck,at_,kl,rs,ws,h,hF⟩:=h
 unfold Dk.flush at hsn ⊢
 by_cases hdn:s.down=true
 ·rw [if_pos hdn]
  refine (rflush_down w gx gS cS A cw K ck at_ kl rs ws s h hdn).mono ?_
  rintro e w' ⟨rfl,rfl⟩
  exact ⟨rfl,hself,Only.refl _ _⟩
 ·rw [if_neg hdn] at hsn ⊢
  have hdn':s.down=false:=by simpa using hdn
  by_cases hd:s.due=true
  ·rw [if_pos hd] at hsn ⊢
   refine (rflush_due w gx gS cS A cw K ck at_ kl rs ws s F h hF hdn' hd hops hwl).mono ?_
   rintro e w' ⟨rfl,⟨rs',h',hF'⟩,ho⟩
   exact ⟨rfl,Ref.of hsn h' hF',ho⟩
  ·rw [if_neg hd] at hsn ⊢
   refine (rflush_ok w gx gS cS A cw K ck at_ kl rs ws s F h hF hdn' (by simpa using hd) hops hwl).mono ?_
   rintro e w' ⟨rfl,⟨rs',h',hF'⟩,ho⟩
   exact ⟨rfl,Ref.of hsn h' hF',ho⟩
end

/-- Both disks, each in blocks of its own from B on. -/
def Two (w:World) (B gd:Nat) (s1:Dk) (gx:Nat) (s2:Dk):Prop :=
 B≤w.heap.size∧∃ F1 F2:Nat→Prop,Disk w F1 gd s1∧Ref w F2 gx s2∧(∀ k,F1 k→B≤k∧k<w.heap.size)∧(∀ k,F2 k→B≤k∧k<w.heap.size)∧∀ k,F1 k→¬ F2 k
section
variable {w w':World} {B gd gx:Nat} {s1 s2 s1' s2':Dk}
theorem Two.under (h:Two w B gd s1 gx s2) (hb:Below w.heap.size w w'):Two w' B gd s1 gx s2:=by
 obtain ⟨hB,F1,F2,d,r,l1,l2,hd⟩:=h
 exact ⟨Nat.le_trans hB hb.size,F1,F2,d.keep (Only.of_below (F:=fun _=>False) hb) (fun _ _ e=>e),r.under hb,fun k hk=>⟨(l1 k hk).1,Nat.lt_of_lt_of_le (l1 k hk).2 hb.size⟩,fun k hk=>⟨(l2 k hk).1,Nat.lt_of_lt_of_le (l2 k hk).2 hb.size⟩,hd⟩
theorem Two.pos (h:Two w B gd s1 gx s2):B≤gd∧B≤gx∧gx<w.heap.size:=by
 obtain ⟨hB,F1,F2,d,r,l1,l2,hd⟩:=h
 exact ⟨(l1 _ d.pos.1).1,(l2 _ r.at_.1).1,r.at_.2⟩
/-- The program's disk turns. -/
theorem Two.left {P:Program} {f:FuncId} {args:Array Value} {v:Value} (h:Two w B gd s1 gx s2) (hc:∀ F1:Nat→Prop,Disk w F1 gd s1→Calls P f args w fun e w'=>e = .returned v∧Disk w' (grow F1 w w') gd s1'∧Only F1 w w') :
  Calls P f args w fun e w'=>e = .returned v∧Two w' B gd s1' gx s2∧Below B w w':=by
 obtain ⟨hB,F1,F2,d,r,l1,l2,hd⟩:=h
 refine (hc F1 d).mono ?_
 rintro e w' ⟨rfl,d',ho⟩
 refine ⟨rfl,⟨Nat.le_trans hB ho.size,_,F2,d',r.keep ho fun k a b=>hd k b a,fun k hk=>?_,fun k hk=>⟨(l2 k hk).1,Nat.lt_of_lt_of_le (l2 k hk).2 ho.size⟩,fun k hk hk2=>?_⟩,ho.below (fun k hk=>(l1 k hk).1) hB⟩
 ·rcases hk with hk | hk
  ·exact ⟨(l1 k hk).1,Nat.lt_of_lt_of_le (l1 k hk).2 ho.size⟩
  ·exact ⟨Nat.le_trans hB hk.1,hk.2⟩
 ·rcases hk with hk | hk
  ·exact hd k hk hk2
  ·have:=(l2 k hk2).2;omega
/-- The document's disk turns. -/
theorem Two.right {P:Program} {f:FuncId} {args:Array Value} {v:Value} (h:Two w B gd s1 gx s2) (hc:∀ F2:Nat→Prop,Ref w F2 gx s2→Calls P f args w fun e w'=>e = .returned v∧Ref w' (grow F2 w w') gx s2'∧Only F2 w w') :
  Calls P f args w fun e w'=>e = .returned v∧Two w' B gd s1 gx s2'∧Below B w w':=by
 obtain ⟨hB,F1,F2,d,r,l1,l2,hd⟩:=h
 refine (hc F2 r).mono ?_
 rintro e w' ⟨rfl,r',ho⟩
 refine ⟨rfl,⟨Nat.le_trans hB ho.size,F1,_,d.keep ho fun k a b=>hd k a b,r',fun k hk=>⟨(l1 k hk).1,Nat.lt_of_lt_of_le (l1 k hk).2 ho.size⟩,fun k hk=>?_,fun k hk hk2=>?_⟩,ho.below (fun k hk=>(l2 k hk).1) hB⟩
 ·rcases hk with hk | hk
  ·exact ⟨(l2 k hk).1,Nat.lt_of_lt_of_le (l2 k hk).2 ho.size⟩
  ·exact ⟨Nat.le_trans hB hk.1,hk.2⟩
 ·rcases hk2 with hk2 | hk2
  ·exact hd k hk hk2
  ·have:=(l1 k hk).2;omega
end
end Go.Proofs.YtnedpkhehiijhaaGreat
namespace Go.Proofs.YtnedpkhehiijhaaGreat
open Go.RowKit
set_option linter.unusedVariables false
set_option linter.unusedSimpArgs false

def Dk.many (s:Dk):Nat:=s.now.length - 157
def Dk.puts (s:Dk):List (Int×List Nat)→Dk×Nat
 | []=>(s,0)
 | p :: l=>if (s.write p.1 p.2).2=0 then (s.write p.1 p.2).1.puts l else s.write p.1 p.2
def Dk.putf (s:Dk) (l:List (Int×List Nat)):Dk×Nat:=if (s.puts l).2=0 then (s.puts l).1.flush else s.puts l
theorem puts_append (s:Dk) (l l2:List (Int×List Nat)):s.puts (l ++ l2)=if (s.puts l).2=0 then (s.puts l).1.puts l2 else s.puts l:=by
 induction l generalizing s with
 | nil=>rfl
 | cons p l ih =>
  rw [List.cons_append,Dk.puts,Dk.puts]
  by_cases h:(s.write p.1 p.2).2=0
  ·rw [if_pos h,if_pos h,ih]
  ·rw [if_neg h,if_neg h,if_neg h]
theorem puts_one (s:Dk) (p:Int×List Nat):s.puts [p]=s.write p.1 p.2:=by
 rw [Dk.puts]
 by_cases h:(s.write p.1 p.2).2=0
 ·rw [if_pos h,Dk.puts]
  exact Prod.ext rfl h.symm
 ·rw [if_neg h]
theorem puts_snoc {s:Dk} {l:List (Int×List Nat)} {p:Int×List Nat} (h:(s.puts l).2=0):s.puts (l ++ [p])=(s.puts l).1.write p.1 p.2:=by
 rw [puts_append,if_pos h,puts_one]
theorem puts_stop {s:Dk} {l:List (Int×List Nat)} {p:Int×List Nat} {r:List (Int×List Nat)} (h:(s.puts l).2=0) (hw:((s.puts l).1.write p.1 p.2).2≠0):s.puts (l ++ p :: r)=(s.puts l).1.write p.1 p.2:=by
 rw [puts_append,if_pos h,Dk.puts,if_neg hw]
theorem putf_stop {s:Dk} {l:List (Int×List Nat)} (h:(s.puts l).2≠0):s.putf l=s.puts l:=by rw [Dk.putf,if_neg h]
theorem putf_go {s:Dk} {l:List (Int×List Nat)} (h:(s.puts l).2=0):s.putf l=(s.puts l).1.flush:=by rw [Dk.putf,if_pos h]
theorem jwrite_le (s:Dk) (i:Int) (x:List Nat):(s.write i x).1.waits.length≤s.waits.length+1∧(s.write i x).1.ops≤s.ops+1:=by
 unfold Dk.write
 split
 ·exact ⟨Nat.le_succ _,Nat.le_succ _⟩
 ·split
  ·split
   ·exact ⟨Nat.zero_le _,Nat.le_succ _⟩
   ·refine ⟨?_,Nat.le_refl _⟩
    show (s.waits ++ _).length≤_
    simp
  ·exact ⟨Nat.le_succ _,Nat.le_succ _⟩
theorem jflush_le (s:Dk):s.flush.1.waits.length≤s.waits.length+1∧s.flush.1.ops≤s.ops+1:=by
 unfold Dk.flush
 split
 ·exact ⟨Nat.le_succ _,Nat.le_succ _⟩
 ·split
  ·exact ⟨Nat.zero_le _,Nat.le_succ _⟩
  ·exact ⟨Nat.zero_le _,Nat.le_refl _⟩
theorem puts_le (s:Dk) (l:List (Int×List Nat)):(s.puts l).1.waits.length≤s.waits.length+l.length∧(s.puts l).1.ops≤s.ops+l.length:=by
 induction l generalizing s with
 | nil=>exact ⟨Nat.le_refl _,Nat.le_refl _⟩
 | cons p l ih =>
  rw [Dk.puts]
  have h1:=jwrite_le s p.1 p.2
  split
  ·have h2:=ih (s.write p.1 p.2).1
   simp only [List.length_cons]
   omega
  ·simp only [List.length_cons]
   omega
theorem putf_le (s:Dk) (l:List (Int×List Nat)):(s.putf l).1.waits.length≤s.waits.length+l.length+1∧(s.putf l).1.ops≤s.ops+l.length+1:=by
 have h1:=puts_le s l
 have h2:=jflush_le (s.puts l).1
 unfold Dk.putf
 split <;> omega
theorem write_now (s:Dk) (i:Int) (x:List Nat):(s.write i x).1.now.length=s.now.length:=by
 unfold Dk.write
 split
 ·rfl
 ·split
  ·split
   ·show (backN _ _ _ _).length=_
    rw [backN_length]
   ·show (s.now.set _ _).length=_
    simp
  ·rfl
theorem puts_now (s:Dk) (l:List (Int×List Nat)):(s.puts l).1.now.length=s.now.length:=by
 induction l generalizing s with
 | nil=>rfl
 | cons p l ih =>
  rw [Dk.puts]
  split
  ·rw [ih,write_now]
  ·rw [write_now]
def two8 (n:Nat):List Nat:=[n / 256 % 256,n % 256]
def apstB:List Nat:=secOf [97,112,115,116]
def markB (n:Nat):List Nat:=secOf ([109,97,114,107] ++ two8 n)
def begunN (b:List Nat):Option Nat :=
 if b=zsec then some 0 else if b.getD 4 0*256+b.getD 5 0<1∨150<b.getD 4 0*256+b.getD 5 0∨b≠markB (b.getD 4 0*256+b.getD 5 0) then none else some (b.getD 4 0*256+b.getD 5 0)
def sheetsN (n:Nat):Nat:=(n+31) / 32
def placesB (l:List (Int×List Nat)):List Nat:=l.flatMap fun p=>two8 p.1.toNat
def shB (l:List (Int×List Nat)) (t:Nat):List Nat:=secOf ((placesB l).drop (64*t))
def logD (l:List (Int×List Nat)):List (Int×List Nat):=l.mapIdx fun k p=>(((2+sheetsN l.length+k:Nat):Int),p.2)
def logS (l:List (Int×List Nat)):List (Int×List Nat):=(List.range (sheetsN l.length)).map fun t=>(((2+t:Nat):Int),shB l t)
def Dk.fin (s:Dk) (l:List (Int×List Nat)):Dk×Nat :=
 if (s.putf (l.map fun p=>(157+p.1,p.2))).2=0 then (s.putf (l.map fun p=>(157+p.1,p.2))).1.putf [(1,zsec)] else s.putf (l.map fun p=>(157+p.1,p.2))
def mayJ (n:Nat) (l:List (Int×List Nat)):Bool:=decide ((∀ p∈l,0≤p.1∧p.1<(n:Int)∧p.2.length=64)∧(l.map (·.1)).Nodup)
def Dk.commit (s:Dk) (l:List (Int×List Nat)):Dk×Nat :=
 if mayJ s.many l=true then
  if 150<l.length then (s,5) else if l=[] then (s,0) else
  if (s.putf (logD l ++ logS l)).2=0 then
   if ((s.putf (logD l ++ logS l)).1.putf [(1,markB l.length)]).2=0 then ((s.putf (logD l ++ logS l)).1.putf [(1,markB l.length)]).1.fin l
   else (s.putf (logD l ++ logS l)).1.putf [(1,markB l.length)]
  else s.putf (logD l ++ logS l)
 else (s,1)
def formW (n:Nat):List (Int×List Nat):=(0,apstB) :: (1,zsec) :: (List.range (n - 157)).map fun i=>(((157+i:Nat):Int),zsec)
def Dk.format (s:Dk):Dk×Nat:=if s.many=0 then (s,5) else s.putf (formW s.now.length)
/-- What a log of n writes tells. -/
def Dk.toldAt (s:Dk) (n k:Nat):Int×List Nat :=
 ((((s.read ((2+k / 32:Nat):Int)).getD (2*(k % 32)) 0*256+(s.read ((2+k / 32:Nat):Int)).getD (2*(k % 32)+1) 0:Nat):Int),s.read ((2+sheetsN n+k:Nat):Int))
def Dk.told (s:Dk) (n:Nat):List (Int×List Nat):=(List.range n).map (s.toldAt n)
def Dk.open_ (s:Dk):Dk×Nat :=
 if s.down=true then (s,6) else if s.many=0∨s.read 0≠apstB then (s,13) else
 match begunN (s.read 1) with
 | none=>(s,13)
 | some 0=>(s,0)
 | some n=>if ∀ p∈s.told n,p.1<(s.many:Int) then s.fin (s.told n) else (s,13)

/-! Words on memory. -/
/-- P holds whatever becomes of the blocks F. -/
def OffF (F:Nat→Prop) (P:World→Prop) (w:World):Prop:=∀ w':World,w.heap.size≤w'.heap.size→(∀ g,¬ F g→g<w.heap.size→w'.heap[g]?=w.heap[g]?)→P w'
section
variable {F G:Nat→Prop} {P Q:World→Prop} {w w':World}
theorem OffF.at_ (h:OffF F P w):P w:=h w (Nat.le_refl _) fun _ _ _=>rfl
theorem OffF.keep (h:OffF F P w) (hs:w.heap.size≤w'.heap.size) (hk:∀ g,¬ F g→g<w.heap.size→w'.heap[g]?=w.heap[g]?) (hx:∀ g,G g→F g∨w.heap.size≤g):OffF G P w':=fun w2 h2 h3 =>
 h w2 (Nat.le_trans hs h2) fun g h4 h5=>(h3 g (fun h6=>by rcases hx g h6 with h7 | h7;exact h4 h7;omega) (by omega)).trans (hk g h4 h5)
theorem OffF.under (h:OffF F P w) (hb:Below w.heap.size w w'):OffF F P w':=h.keep hb.size (fun g _ hg=>hb.block g hg) fun g hg=>.inl hg
theorem OffF.only (h:OffF F P w) (ho:Only F w w'):OffF (grow F w w') P w':=h.keep ho.size (fun g a b=>ho.block g b a) fun g hg=>by rcases hg with hg | hg;exact .inl hg;exact .inr hg.1
theorem OffF.less (h:OffF F P w) (hx:∀ g,G g→F g∨w.heap.size≤g):OffF G P w:=h.keep (Nat.le_refl _) (fun _ _ _=>rfl) hx
theorem OffF.imp (h:OffF F P w) (hi:∀ w,P w→Q w):OffF F Q w:=fun w2 h2 h3=>hi w2 (h w2 h2 h3)
theorem OffF.and (h:OffF F P w) (h':OffF F Q w):OffF F (fun w=>P w∧Q w) w:=fun w2 h2 h3=>⟨h w2 h2 h3,h' w2 h2 h3⟩
end
/-- The disk, since w. -/
def DJ (w:World) (F:Nat→Prop) (gd:Nat) (s:Dk) (wr:World):Prop:=Disk wr (grow F w wr) gd s∧Only F w wr
section
variable {w wr w':World} {F:Nat→Prop} {gd:Nat} {s s':Dk}
theorem DJ.start (h:Disk w F gd s):DJ w F gd s w:=⟨h.more fun k hk=>.inl hk,Only.refl _ _⟩
theorem DJ.below (h:DJ w F gd s wr) (hb:Below wr.heap.size wr w'):DJ w F gd s w' :=
 ⟨(h.1.keep (Only.of_below (F:=fun _=>False) hb) (fun _ _ e=>e)).more fun k hk=>by
   rcases hk with hk | hk
   ·exact .inl hk
   ·exact .inr ⟨hk.1,Nat.lt_of_lt_of_le hk.2 hb.size⟩,h.2.trans (Only.of_below (F:=fun _=>False) hb) fun _ _ e=>e.elim⟩
theorem DJ.step (h:DJ w F gd s wr) (hd:Disk w' (grow (grow F w wr) wr w') gd s') (ho:Only (grow F w wr) wr w'):DJ w F gd s' w' :=
 ⟨hd.more fun k hk=>by
  have h1:=h.2.size
  have h2:=ho.size
  rcases hk with (hk | hk) | hk
  ·exact .inl hk
  ·exact .inr ⟨hk.1,by omega⟩
  ·exact .inr ⟨by omega,hk.2⟩,h.2.trans ho fun k hk hg=>by rcases hg with hg | hg;exact hg;omega⟩
theorem DJ.then {P:World→Prop} (h:DJ w F gd s wr) (hp:OffF F P w):OffF (grow F w wr) P wr:=hp.only h.2
theorem DJ.rd {P:World→Prop} (h:DJ w F gd s wr) (hp:OffF F P w):P wr:=(h.then hp).at_
theorem DJ.write (h:DJ w F gd s wr) (i:Int) (A2:Option Addr) (n2 c2:Nat) (x:List Nat) (hn:x.length=n2) (hr:Rd .u8 wr wr.heap.size A2 c2 x) (hwl:s.waits.length≤100000) (hops:s.ops≤1000000000) :
  Calls Tryz.prog 103 #[.pointer (some ⟨gd,0,none⟩),.int .i64 i,.slice A2 n2 c2] wr fun e w'=>e = .returned (.int .i64 ((s.write i x).2:Nat))∧DJ w F gd (s.write i x).1 w' :=
 (disk_write h.1 i A2 n2 c2 x hn hr hwl hops).mono fun e w' q=>⟨q.1,h.step q.2.1 q.2.2⟩
theorem DJ.flush (h:DJ w F gd s wr) (hwl:s.waits.length≤100000) (hops:s.ops≤1000000000) :
  Calls Tryz.prog 105 #[.pointer (some ⟨gd,0,none⟩)] wr fun e w'=>e = .returned (.int .i64 (s.flush.2:Nat))∧DJ w F gd s.flush.1 w' :=
 (disk_flush h.1 hwl hops).mono fun e w' q=>⟨q.1,h.step q.2.1 q.2.2⟩
end
/-- A row of writes. -/
structure Wr where
 at_:Int
 da:Option Addr
 dc:Nat
 d:List Nat
instance:Inhabited Wr:=⟨⟨0,none,0,[]⟩⟩
def WrAt (w:World) (g o:Nat) (x:Wr):Prop:=w.cell? ⟨g,o,none⟩=some (.int .i64 x.at_)∧w.cell? ⟨g,o+1,none⟩=some (.slice x.da x.d.length x.dc)
def RdWr (A:Option Addr) (c:Nat) (l:List Wr) (w:World):Prop :=
 l.length≤c∧c≤9223372036854775807∧(∀ j,j<l.length→Rd .u8 w w.heap.size (l.getD j default).da (l.getD j default).dc (l.getD j default).d) ∧
  (0<l.length→∃ b off,A=some ⟨b,off,none⟩∧b<w.heap.size∧∀ j,j<l.length→WrAt w b (off+j*2) (l.getD j default))
def Wr.v (x:Wr):Int×List Nat:=(x.at_,x.d)
def wv (l:List Wr):List (Int×List Nat):=l.map Wr.v
theorem wv_length (l:List Wr):(wv l).length=l.length:=List.length_map _
theorem wv_at {l:List Wr} {j:Nat} (h:j<l.length):(wv l)[j]?=some (l.getD j default).v:=by simp [wv,List.getD,h]
end Go.Proofs.YtnedpkhehiijhaaGreat
namespace Go.Proofs.YtnedpkhehiijhaaGreat
open Go.RowKit
set_option linter.unusedVariables false
set_option linter.unusedSimpArgs false
attribute [local go_sem ↓] Go.wp_at_zero Go.wp_at_succ

theorem row_cells {g:Nat}:∀ (l:List Nat) (o:Nat) (w:World) (L:List Nat),Row .u8 5 w g L→o+l.length≤L.length→Row .u8 5 (w.setCells g o (vals .u8 l)) g (L.take o ++ l ++ L.drop (o+l.length))
 | [],o,w,L,h,_=>by simpa [World.setCells,vals] using h
 | x :: l,o,w,L,h,hs=>by
  simp only [List.length_cons] at hs
  have h1:=row_cells l (o+1) _ _ (h.set o x) (by rw [List.length_set];omega)
  have e:(L.set o x).take (o+1) ++ l ++ (L.set o x).drop (o+1+l.length)=L.take o ++ (x :: l) ++ L.drop (o+(x :: l).length):=by
   rw [List.drop_set_of_lt (by omega),List.take_set,List.length_cons,show o+1+l.length=o+(l.length+1) by omega]
   rw [List.take_add_one,List.getElem?_eq_getElem (by omega),List.set_append_right _ _ (by rw [List.length_take];exact Nat.min_le_left _ _)]
   simp
   rw [show o - min o L.length=0 by omega]
   simp
  rw [e] at h1
  exact h1
theorem fillS_is {l:List Nat}:∀ k,k≤l.length→k≤64→fillS l k=l.take k ++ zsec.drop k
 | 0,_,_=>by simp [fillS]
 | k+1,h,h2=>by
  have hz:zsec.drop k=0 :: zsec.drop (k+1):=by
   rw [List.drop_eq_getElem_cons (by rw [zsec,List.length_replicate];omega)]
   congr 1
   exact List.getElem_replicate _
  have hk:(l.take k).length=k:=by rw [List.length_take];omega
  rw [fillS,fillS_is k (by omega) (by omega),hz,List.set_append_right _ _ (by omega),hk,Nat.sub_self,List.set_cons_zero,List.take_add_one,List.getElem?_eq_getElem (by omega),List.append_assoc]
  simp only [Option.toList_some,List.singleton_append]
  rw [show l.getD k 0=l[k] by simp [List.getD,show k<l.length by omega]]
theorem secOf_short {l:List Nat} (h:l.length≤64):secOf l=l ++ zsec.drop l.length:=by
 unfold secOf
 rw [Nat.min_eq_left h,fillS_is _ (Nat.le_refl _) h,List.take_of_length_le (Nat.le_refl _)]
section
variable {w:World} {F:Nat→Prop} {gd:Nat} {s:Dk}
set_option maxRecDepth 100000 in
theorem jmany (h:Disk w F gd s):Calls Tryz.prog 34 #[.pointer (some ⟨gd,0,none⟩)] w fun e w'=>e = .returned (.int .i64 (s.many:Int))∧w=w':=by
 have HS:=Lib.hid (disk_size h)
 have h1:=h.len.2.2
 obtain ⟨m,hm⟩:∃ m,m=s.many:=⟨_,rfl⟩
 rw [←hm]
 unfold Dk.many at hm
 generalize s.now.length=n at *
 clear h
 have hmax:max ((n:Int) - 157) 0=(m:Int):=by omega
 go_enter Tryz.func34,Tryz.ntmps34
 go_wp2_with (refine HS.out.mono ?_;rintro e w1 ⟨rfl,rfl⟩)
 all_goals (go_ret;refine ⟨congrArg (fun z=>Ending.returned (.int .i64 z)) ?_,rfl⟩;omega)
set_option maxRecDepth 100000 in
theorem jread (h:Disk w F gd s) (i:Int):Calls Tryz.prog 36 #[.pointer (some ⟨gd,0,none⟩),.int .i64 i] w fun e w' =>
  ∃ A n c,e = .returned (.slice A n c)∧(if 0≤i∧i<(s.many:Int) then s.read (157+i) else []).length=n∧Rd .u8 w' w'.heap.size A c (if 0≤i∧i<(s.many:Int) then s.read (157+i) else [])∧Below w.heap.size w w':=by
 have HM:=Lib.hid (jmany h)
 have HR:=Lib.hid (fun i=>disk_read h i)
 have hl:=h.len.2.2
 have hmn:s.many≤2000:=by unfold Dk.many;omega
 clear h hl
 obtain ⟨x,hx⟩:∃ x,x=(if 0≤i∧i<(s.many:Int) then s.read (157+i) else []):=⟨_,rfl⟩
 rw [←hx]
 by_cases h0:0≤i
 case neg =>
  rw [if_neg (fun h=>h0 h.1)] at hx
  have d0:decide (i<0)=true:=decide_eq_true (by omega)
  go_enter Tryz.func36,Tryz.ntmps36
  go_wp2_with fail
  go_ret
  subst hx
  exact ⟨none,0,0,rfl,rfl,Rd.nil_ _ _ _,Below.refl _ _⟩
 have d0:decide (i<0)=false:=decide_eq_false (by omega)
 by_cases h1:i<(s.many:Int)
 case neg =>
  rw [if_neg (fun h=>h1 h.2)] at hx
  have d1:decide ((s.many:Int)≤i)=true:=decide_eq_true (by omega)
  generalize s.many=m at *
  go_enter Tryz.func36,Tryz.ntmps36
  go_wp2_with (refine HM.out.mono ?_;rintro e w1 ⟨rfl,rfl⟩)
  go_ret
  subst hx
  exact ⟨none,0,0,rfl,rfl,Rd.nil_ _ _ _,Below.refl _ _⟩
 rw [if_pos ⟨h0,h1⟩] at hx
 have d1:decide ((s.many:Int)≤i)=false:=decide_eq_false (by omega)
 generalize s.many=m at *
 have hw:IntKind.i64.wrap (157+i)=157+i:=IntWalk.i64_in _ (by omega)
 go_enter Tryz.func36,Tryz.ntmps36
 go_wp2_with (first | (refine HM.out.mono ?_;rintro e w1 ⟨rfl,rfl⟩) | fail)
 refine (HR.out (157+i)).mono ?_
 rintro e w2 ⟨A,n,c,rfl,hn,hr,_,hb⟩
 rw [←hx] at hn hr
 have HR2:=Lib.hid hr
 have HB2:=Lib.hid hb
 have HN2:=Lib.hid hn
 clear hn hr hb hx
 go_wp2_with fail
 go_ret
 exact ⟨A,n,c,rfl,HN2.out,HR2.out,HB2.out⟩
end
theorem size_u8J (w:World):(Go.sizeOf 5).run Tryz.prog w = .ok 1 w:=by
 have info_u8:(Tryz.prog.info? 5).map (fun i=>(i.zero,i.size,i.bytes))=some (some (.int .u8 0),1,1):=by kernel_rfl
 obtain ⟨i0,hi,hz0,hz1,hz2⟩:=info_parts info_u8
 exact (run_sizeOf w hi).trans (by kernel_rfl)
set_option maxRecDepth 100000 in
theorem headed_any (w:World) (s:ByteArray) (l:List Nat) (hs:s.data.toList.map (fun x=>x.toNat)=l) (hl:l.length≤64) :
  Calls Tryz.prog 64 #[.string s] w fun e w'=>e = .returned (.slice (some ⟨w.heap.size,0,none⟩) 64 64)∧Row .u8 5 w' w.heap.size (secOf l)∧Below w.heap.size w w':=by
 have hmk:=make_row
 have hrow:Row .u8 5 (w.alloc (.cells zrow 5)) w.heap.size zsec:=Holds.fresh _ _ _
 have hb:Below w.heap.size w (w.alloc (.cells zrow 5)):=(Below.refl _ _).alloc (Nat.le_refl _) _
 have hsz:s.size=l.length:=by rw [←hs,Lib.size_eq,List.length_map]
 have hv:(s.data.toList.map fun x=>Value.int .u8 (x.toNat:Int))=vals .u8 l:=by rw [←hs,vals,List.map_map];rfl
 have hcp:∀ ty,(Builtin.copy_ #[44,9] ty #[.slice (some ⟨w.heap.size,0,none⟩) 64 64,.string s]).run Tryz.prog (w.alloc (.cells zrow 5)) = .ok (goInt s.size) ((w.alloc (.cells zrow 5)).setCells w.heap.size 0 (vals .u8 l)):=fun ty=>by
  rw [←hv]
  exact run_copy_string _ _ _ ty 5 w.heap.size 0 64 64 s Tryz.underlying44 size_u8J (by omega) (fun j hj=>by rw [Nat.zero_add,hrow.cell (by rw [zsec,List.length_replicate];omega)];rfl) (fun j hj=>hrow.open_ _)
 have HR:=Lib.hid (row_cells l 0 _ _ hrow (by rw [zsec,List.length_replicate];omega))
 have HB:Hid (Below w.heap.size w ((w.alloc (.cells zrow 5)).setCells w.heap.size 0 (vals .u8 l))):=Lib.hid ((Only.setCells (F:=fun _=>False) (.inr (Nat.le_refl _)) (vals .u8 l) 0 (Only.of_below hb)).below (fun k e=>e.elim) (Nat.le_refl _))
 have HS:Hid (secOf l=zsec.take 0 ++ l ++ zsec.drop (0+l.length)):=Lib.hid (by rw [secOf_short hl];simp)
 clear hrow hb hv hs hl
 go_enter Tryz.func64,Tryz.ntmps64
 go_wp2_with fail
 go_ret
 exact ⟨rfl,by rw [HS.out];exact HR.out,HB.out⟩
theorem headed_nil (w:World):Calls Tryz.prog 64 #[.string { data:=#[] }] w fun e w'=>e = .returned (.slice (some ⟨w.heap.size,0,none⟩) 64 64)∧Row .u8 5 w' w.heap.size zsec∧Below w.heap.size w w':=headed_any w _ [] rfl (by simp)
theorem headed_apst (w:World):Calls Tryz.prog 64 #[.string { data:=#[97,112,115,116] }] w fun e w'=>e = .returned (.slice (some ⟨w.heap.size,0,none⟩) 64 64)∧Row .u8 5 w' w.heap.size apstB∧Below w.heap.size w w':=headed_any w _ [97,112,115,116] rfl (by simp)
theorem headed_mark (w:World):Calls Tryz.prog 64 #[.string { data:=#[109,97,114,107] }] w fun e w'=>e = .returned (.slice (some ⟨w.heap.size,0,none⟩) 64 64)∧Row .u8 5 w' w.heap.size (secOf [109,97,114,107])∧Below w.heap.size w w':=headed_any w _ [109,97,114,107] rfl (by simp)
set_option maxRecDepth 100000 in
theorem sheets_any (w:World) (n:Nat) (hn:n≤1000000):Calls Tryz.prog 108 #[.int .i64 (n:Int)] w fun e w'=>e = .returned (.int .i64 (sheetsN n:Int))∧w=w':=by
 obtain ⟨m,hm⟩:∃ m,m=sheetsN n:=⟨_,rfl⟩
 rw [←hm]
 unfold sheetsN at hm
 go_enter Tryz.func108,Tryz.ntmps108
 go_wp2_with fail
 go_ret
 refine ⟨?_,rfl⟩
 congr 2
 go_num
end Go.Proofs.YtnedpkhehiijhaaGreat
namespace Go.Proofs.YtnedpkhehiijhaaGreat
open Go.RowKit
set_option linter.unusedVariables false

set_option maxRecDepth 100000 in
theorem equal_yes (w:World) (B B':Nat) (A A':Option Addr) (c c' n:Nat) (l:List Nat) (hn:l.length=n) (hr:Rd .u8 w B A c l) (hr':Rd .u8 w B' A' c' l) (ho:Oct1 l) :
  Calls Tryz.prog 62 #[.slice A n c,.slice A' n c'] w fun e w'=>e = .returned (.bool true)∧w=w':=by
 have h1:=conv_str hr hn ho
 have h2:=conv_str hr' hn ho
 clear hn
 generalize str l=s at *
 go_enter Tryz.func62,Tryz.ntmps62
 go_wp2_with fail
 go_ret
 exact ⟨by simp,rfl⟩
set_option maxRecDepth 100000 in
theorem equal_no (w:World) (B B':Nat) (A A':Option Addr) (c c' n n':Nat) (l l':List Nat) (hn:l.length=n) (hn':l'.length=n') (hr:Rd .u8 w B A c l) (hr':Rd .u8 w B' A' c' l') (ho:Oct1 l) (ho':Oct1 l') (hne:l≠l') :
  Calls Tryz.prog 62 #[.slice A n c,.slice A' n' c'] w fun e w'=>e = .returned (.bool false)∧w=w':=by
 have h1:=conv_str hr hn ho
 have h2:=conv_str hr' hn' ho'
 have h4:=str_ne ho ho' hne
 clear hn hn' hne
 generalize str l=s at *
 generalize str l'=s' at *
 go_enter Tryz.func62,Tryz.ntmps62
 go_wp2_with fail
 go_ret
 exact ⟨rfl,rfl⟩

theorem equalB (w:World) (A A':Option Addr) (c c' n n':Nat) (l l':List Nat) (hn:l.length=n) (hn':l'.length=n') (hr:Rd .u8 w w.heap.size A c l) (hr':Rd .u8 w w.heap.size A' c' l') (ho:∀ x∈l,x<256) (ho':∀ x∈l',x<256) :
  Calls Tryz.prog 62 #[.slice A n c,.slice A' n' c'] w fun e w'=>e = .returned (.bool (decide (l=l')))∧w=w':=by
 by_cases h:l=l'
 ·subst h
  obtain rfl:n=n':=by rw [←hn,←hn']
  rw [decide_eq_true rfl]
  exact equal_yes w _ _ A A' c c' n l hn hr hr' ho
 ·rw [decide_eq_false h]
  exact equal_no w _ _ A A' c c' n n' l l' hn hn' hr hr' ho ho' h
end Go.Proofs.YtnedpkhehiijhaaGreat
namespace Go.Proofs.YtnedpkhehiijhaaGreat
open Go.RowKit
set_option linter.unusedVariables false
set_option linter.unusedSimpArgs false
attribute [local go_sem ↓] Go.wp_at_zero Go.wp_at_succ

theorem belowN {B:Nat} {w w':World} (h:Below B w w') (n:Nat):Below B w (w'.drewN n):=⟨h.os,h.tape,h.output,h.size,h.block⟩
theorem secM_len:(secOf [109,97,114,107]).length=64:=secOf_length _
theorem markB_is (n:Nat):markB n=((secOf [109,97,114,107]).set 4 (n / 256 % 256)).set 5 (n % 256):=by
 unfold markB
 rw [secOf_short (by simp [two8]),secOf_short (by simp)]
 simp [two8,zsec]
set_option maxRecDepth 100000 in
set_option maxHeartbeats 1000000 in
theorem markOf_any (w:World) (n:Nat) (hn:n<65536) :
  Calls Tryz.prog 91 #[.int .i64 (n:Int)] w fun e w'=>e = .returned (.slice (some ⟨w.heap.size,0,none⟩) 64 64)∧Row .u8 5 w' w.heap.size (markB n)∧Below w.heap.size w w':=by
 have HH:=Lib.hid (headed_mark w)
 go_enter Tryz.func91,Tryz.ntmps91
 go_wp2_with fail
 refine HH.out.mono ?_
 rintro e w1 ⟨rfl,hr,hb⟩
 have k4:=hr.cell (i:=4) (by rw [secM_len];omega)
 have k5:=hr.cell (i:=5) (by rw [secM_len];omega)
 have f4:=hr.open_ 4
 have f5:=hr.open_ 5
 have HS:Hid (Row .u8 5 ((w1.setCell ⟨w.heap.size,4,none⟩ (.int .u8 ((n:Int) / 256))).setCell ⟨w.heap.size,5,none⟩ (.int .u8 ((n:Int) % 256))) w.heap.size (markB n)):=Lib.hid (by
  have h:=(hr.set 4 (n / 256)).set 5 (n % 256)
  rw [markB_is,Nat.mod_eq_of_lt (show n / 256<256 by omega)]
  exact h)
 have HB:=Lib.hid ((hb.setCell (p:=⟨w.heap.size,4,none⟩) (Nat.le_refl _) (.int .u8 ((n:Int) / 256))).setCell (p:=⟨w.heap.size,5,none⟩) (Nat.le_refl _) (.int .u8 ((n:Int) % 256)))
 clear hr hb HH
 go_wp2_with fail
 go_ret
 exact ⟨rfl,HS.out,HB.out⟩
theorem or_i64 (v x:Nat) (hv:v<256) (hx:x<256):bits .or .i64 ((v:Int)*256) (x:Int)=((v*256+x:Nat):Int):=by
 have h:=bits_join .i64 63 (by decide) (fun n h0 h1=>by rw [IntKind.wrap_i64];omega) 8 ((v:Int)*256) (x:Int) (by omega) (by omega) (by omega) (by omega) (by omega) (by omega)
 rw [h]
 omega

/-- What a mark tells. -/
def BegunP (w:World):Option Nat→Ending→World→Prop
 | none,e,w'=>e = .returned (.tuple #[.int .i64 0,.bool false])∧Below w.heap.size w w'
 | some n,e,w'=>e = .returned (.tuple #[.int .i64 (n:Int),.bool true])∧Below w.heap.size w w'
theorem markB_oct (n:Nat):Oct1 (markB n):=secOf_oct (fun x hx=>by simp [two8] at hx;rcases hx with rfl | rfl | rfl | rfl | rfl | rfl <;> omega)
set_option maxRecDepth 100000 in
set_option maxHeartbeats 2000000 in
theorem begun_any (w:World) (A:Option Addr) (c:Nat) (b:List Nat) (hl:b.length=64) (hr:Rd .u8 w w.heap.size A c b) (ho:Oct1 b) :
  Calls Tryz.prog 65 #[.slice A 64 c] w (BegunP w (begunN b)):=by
 have HH:=Lib.hid (headed_nil w)
 have HE:=Lib.hid fun (w1:World) (hb:Below w.heap.size w w1) (hz:Row .u8 5 w1 w.heap.size zsec)=>equalB w1 A (some ⟨w.heap.size,0,none⟩) c 64 64 64 b zsec hl (by simp [zsec]) ((hr.under hb).more hb.size) (by
  have h:=hz.rd (n:=64) (c:=64) (by simp [zsec]) (Nat.le_refl _) (by omega)
  rw [List.take_of_length_le (by simp [zsec])] at h
  exact h.more (Holds.lt hz)) ho zsec_oct
 obtain ⟨g,off,rfl,hlt,hcell⟩:=hr.2.2 (by omega)
 have h4:=hcell 4 (by omega)
 have h5:=hcell 5 (by omega)
 have o4:b.getD 4 0<256:=ho _ (by rw [show b.getD 4 0=b[4]'(by omega) by simp [List.getD,hl]];exact List.getElem_mem _)
 have o5:b.getD 5 0<256:=ho _ (by rw [show b.getD 5 0=b[5]'(by omega) by simp [List.getD,hl]];exact List.getElem_mem _)
 have hcc:64≤c:=by have:=hr.1;omega
 have hc63:=hr.2.1
 obtain ⟨r,hrr⟩:∃ r,r=begunN b:=⟨_,rfl⟩
 rw [←hrr]
 unfold begunN at hrr
 have HRb:=Lib.hid hr
 have HOb:=Lib.hid ho
 by_cases hz:b=zsec
 ·rw [if_pos hz] at hrr
  rw [decide_eq_true hz] at HE
  clear hz hr ho hl hcell h4 h5 o4 o5
  go_enter Tryz.func65,Tryz.ntmps65
  go_wp2_with fail
  refine HH.out.mono ?_
  rintro e w1 ⟨rfl,hr1,hb1⟩
  have HB1:=Lib.hid hb1
  have HE1:=Lib.hid (HE.out w1 hb1 hr1)
  clear hr1 hb1 HH HE
  go_wp2_with fail
  refine HE1.out.mono ?_
  rintro e w2 ⟨rfl,rfl⟩
  go_wp2_with fail
  go_ret2
  rw [hrr]
  exact ⟨rfl,HB1.out⟩
 rw [if_neg hz] at hrr
 rw [decide_eq_false hz] at HE
 obtain ⟨x4,hx4⟩:∃ x,x=b.getD 4 0:=⟨_,rfl⟩
 obtain ⟨x5,hx5⟩:∃ x,x=b.getD 5 0:=⟨_,rfl⟩
 rw [←hx4] at h4 o4 hrr
 rw [←hx5] at h5 o5 hrr
 have HM:=Lib.hid (fun w1:World=>markOf_any w1 (x4*256+x5) (by omega))
 have HE2:=Lib.hid fun (w1:World) (g2:Nat) (hb:Below w.heap.size w w1) (hz:Row .u8 5 w1 g2 (markB (x4*256+x5)))=>equalB w1 (some ⟨g,off,none⟩) (some ⟨g2,0,none⟩) c 64 64 64 b (markB (x4*256+x5)) hl (secOf_length _) ((hr.under hb).more hb.size) (by
  have h:=hz.rd (n:=64) (c:=64) (by rw [markB,secOf_length];omega) (Nat.le_refl _) (by omega)
  rw [List.take_of_length_le (by rw [markB,secOf_length];omega)] at h
  exact h.more (Holds.lt hz)) ho (markB_oct _)
 have HRR:=Lib.hid hrr
 clear hz hr hl hcell hx4 hx5 ho hrr
 go_enter Tryz.func65,Tryz.ntmps65
 go_wp2_with fail
 refine HH.out.mono ?_
 rintro e w1 ⟨rfl,hr1,hb1⟩
 have HB1:=Lib.hid hb1
 have HE1:=Lib.hid (HE.out w1 hb1 hr1)
 have k4:=(hb1.cell (p:=⟨g,off+4,none⟩) hlt).trans h4
 have k5:=(hb1.cell (p:=⟨g,off+5,none⟩) hlt).trans h5
 clear hr1 hb1 HH HE h4 h5
 go_wp2_with fail
 refine HE1.out.mono ?_
 rintro e w2 ⟨rfl,rfl⟩
 have hor:bits .or .i64 ((x4:Int)*256) (x5:Int)=((x4*256+x5:Nat):Int):=(or_i64 x4 x5 o4 o5).trans (by push_cast;rfl)
 obtain ⟨v,hv⟩:∃ v,v=x4*256+x5:=⟨_,rfl⟩
 rw [←hv] at hor HRR HM HE2
 have hv6:v<65536:=by omega
 clear hv
 go_wp2_with fail
 go_quiet (fail)
 by_cases h1:v<1
 ·have d1:decide ((v:Int)<1)=true:=decide_eq_true (by omega)
  have HR0:Hid (r=none):=Lib.hid (by rw [HRR.out,if_pos (.inl h1)])
  clear HRR HM HE2
  go_wp2_with fail
  go_ret2
  rw [HR0.out]
  exact ⟨rfl,belowN HB1.out _⟩
 have d1:decide ((v:Int)<1)=false:=decide_eq_false (by omega)
 by_cases h2:150<v
 ·have d2:decide ((150:Int)<(v:Int))=true:=decide_eq_true (by omega)
  have HR0:Hid (r=none):=Lib.hid (by rw [HRR.out,if_pos (.inr (.inl h2))])
  clear HRR HM HE2
  go_wp2_with fail
  go_ret2
  rw [HR0.out]
  exact ⟨rfl,belowN HB1.out _⟩
 have d2:decide ((150:Int)<(v:Int))=false:=decide_eq_false (by omega)
 have HB1q:=Lib.hid (belowN HB1.out nq)
 obtain ⟨W,hW⟩:∃ W,W=w1.drewN nq:=⟨_,rfl⟩
 rw [←hW] at HB1q ⊢
 clear hW
 go_wp2_with fail
 refine (HM.out _).mono ?_
 rintro e w3 ⟨rfl,hr3,hb3⟩
 have HB3:=Lib.hid (HB1q.out.trans (hb3.mono HB1q.out.size))
 have HE3:=Lib.hid (HE2.out w3 _ HB3.out hr3)
 clear hr3 hb3 HM HE2
 go_wp2_with fail
 refine HE3.out.mono ?_
 rintro e w4 ⟨rfl,rfl⟩
 rcases hd:decide (b=markB v) with _ | _
 ·have HR0:Hid (r=none):=Lib.hid (by rw [HRR.out,if_pos (.inr (.inr (of_decide_eq_false hd)))])
  clear HRR hd
  go_wp2_with fail
  go_ret2
  rw [HR0.out]
  exact ⟨rfl,HB3.out⟩
 ·have HR0:Hid (r=some v):=Lib.hid (by rw [HRR.out,if_neg (by rintro (h | h | h);exact h1 h;exact h2 h;exact h (of_decide_eq_true hd))])
  clear HRR hd
  go_wp2_with fail
  go_ret2
  rw [HR0.out]
  exact ⟨rfl,HB3.out⟩
end Go.Proofs.YtnedpkhehiijhaaGreat
namespace Go.Proofs.YtnedpkhehiijhaaGreat
open Go.RowKit
set_option linter.unusedVariables false
set_option linter.unusedSimpArgs false
attribute [local go_sem ↓] Go.wp_at_zero Go.wp_at_succ

theorem RdWr.under {A:Option Addr} {c:Nat} {l:List Wr} {w w':World} (h:RdWr A c l w) (hb:Below w.heap.size w w'):RdWr A c l w' :=
 ⟨h.1,h.2.1,fun j hj=>((h.2.2.1 j hj).under hb).more hb.size,fun hn=>by
  obtain ⟨b,off,e,hlt,hc⟩:=h.2.2.2 hn
  exact ⟨b,off,e,Nat.lt_of_lt_of_le hlt hb.size,fun j hj=>⟨(hb.cell (p:=⟨b,_,none⟩) hlt).trans (hc j hj).1,(hb.cell (p:=⟨b,_,none⟩) hlt).trans (hc j hj).2⟩⟩⟩
/-- A write of the row. -/
theorem RdWr.at_ {A:Option Addr} {c:Nat} {l:List Wr} {w:World} (h:RdWr A c l w) {j:Nat} (hj:j<l.length) :
  ∃ b off,A=some ⟨b,off,none⟩∧b<w.heap.size∧w.cell? ⟨b,off+j*2,none⟩=some (.int .i64 (l.getD j default).at_)∧w.cell? ⟨b,off+j*2+1,none⟩=some (.slice (l.getD j default).da (l.getD j default).d.length (l.getD j default).dc)∧Rd .u8 w w.heap.size (l.getD j default).da (l.getD j default).dc (l.getD j default).d:=by
 obtain ⟨b,off,e,hlt,hc⟩:=h.2.2.2 (by omega)
 exact ⟨b,off,e,hlt,(hc j hj).1,(hc j hj).2,h.2.2.1 j hj⟩
theorem getD_memJ {α:Type} [Inhabited α] {l:List α} {j:Nat} (h:j<l.length):l.getD j default∈l:=by simp [List.getD,h]
section
variable {w:World} {F:Nat→Prop} {gd:Nat} {s:Dk}
set_option maxRecDepth 100000 in
set_option maxHeartbeats 1000000 in
theorem flushed_any (h:Disk w F gd s) (i:Int) (A:Option Addr) (n c:Nat) (x:List Nat) (hn:x.length=n) (hr:Rd .u8 w w.heap.size A c x) (hwl:s.waits.length≤90000) (hops:s.ops≤900000000) :
  Calls Tryz.prog 90 #[.pointer (some ⟨gd,0,none⟩),.int .i64 i,.slice A n c] w fun e w'=>e = .returned (.int .i64 ((s.putf [(i,x)]).2:Nat))∧DJ w F gd (s.putf [(i,x)]).1 w':=by
 have HW:=Lib.hid ((DJ.start h).write i A n c x hn hr (by omega) (by omega))
 have h1:=jwrite_le s i x
 have HF:=Lib.hid fun (w1:World) (hd:DJ w F gd (s.write i x).1 w1)=>hd.flush (by omega) (by omega)
 have HP:Hid (s.putf [(i,x)]=if (s.write i x).2=0 then (s.write i x).1.flush else s.write i x):=Lib.hid (by
  unfold Dk.putf
  rw [puts_one])
 obtain ⟨r,hr0⟩:∃ r,r=s.putf [(i,x)]:=⟨_,rfl⟩
 rw [←hr0] at HP ⊢
 clear h hr hn hwl hops h1 hr0
 generalize s.write i x=q at *
 obtain ⟨s1,e1⟩:=q
 dsimp only at *
 go_enter Tryz.func90,Tryz.ntmps90
 go_wp2_with fail
 refine HW.out.mono ?_
 rintro e w1 ⟨rfl,hd1⟩
 have HD1:=Lib.hid hd1
 have HF1:=Lib.hid (HF.out w1 hd1)
 clear hd1 HW HF
 by_cases h0:e1=0
 ·subst h0
  have HP':Hid (r=s1.flush):=Lib.hid (by rw [HP.out,if_pos rfl])
  clear HP
  go_wp2_with fail
  refine HF1.out.mono ?_
  rintro e w2 ⟨rfl,hd2⟩
  have HD2:=Lib.hid hd2
  clear hd2 HF1
  go_wp2_with fail
  go_ret
  rw [HP'.out]
  exact ⟨rfl,HD2.out⟩
 ·have HP':Hid (r=(s1,e1)):=Lib.hid (by rw [HP.out,if_neg h0])
  have d0:((e1:Int) == 0)=false:=by rw [beq_eq_false_iff_ne];omega
  have d1:((e1:Int) != 0)=true:=by rw [bne,d0];rfl
  clear HP HF1
  go_wp2_with fail
  go_ret
  rw [HP'.out]
  exact ⟨rfl,HD1.out⟩
def RelSe (w:World) (F:Nat→Prop) (gd:Nat) (s:Dk) (L:List (Int×List Nat)) (n:Nat) (i:Value) (wr:World):Prop :=
 ∃ k:Nat,k≤n∧i = .int .i64 k∧(s.puts (L.take k)).2=0∧DJ w F gd (s.puts (L.take k)).1 wr
theorem take_snocJ {α:Type} {l:List α} {k:Nat} {x:α} (h:l[k]?=some x):l.take (k+1)=l.take k ++ [x]:=by
 rw [List.take_add_one,h];rfl
theorem split_at {α:Type} {l:List α} {k:Nat} {x:α} (h:l[k]?=some x):l=l.take k ++ x :: l.drop (k+1):=by
 have hk:k<l.length:=(List.getElem?_eq_some_iff.1 h).1
 have hx:l[k]=x:=(List.getElem?_eq_some_iff.1 h).2
 conv=>lhs;rw [←List.take_append_drop k l]
 rw [List.drop_eq_getElem_cons hk,hx]
theorem finL_at {l:List Wr} {j:Nat} (h:j<l.length):((wv l).map fun p=>(157+p.1,p.2))[j]?=some (157+(l.getD j default).at_,(l.getD j default).d):=by
 rw [List.getElem?_map,wv_at h];rfl
set_option maxRecDepth 100000 in
set_option maxHeartbeats 4000000 in
theorem settle_any (h:Disk w F gd s) (A:Option Addr) (c n:Nat) (l:List Wr) (hl:l.length=n) (hr:OffF F (RdWr A c l) w) (hn:n≤1000) (hat:∀ x∈l,0≤x.at_∧x.at_≤100000) (hwl:s.waits.length≤80000) (hops:s.ops≤800000000) :
  Calls Tryz.prog 67 #[.pointer (some ⟨gd,0,none⟩),.slice A n c] w fun e w'=>e = .returned (.int .i64 ((s.fin (wv l)).2:Nat))∧DJ w F gd (s.fin (wv l)).1 w':=by
 obtain ⟨L,hL⟩:∃ L,L=(wv l).map fun p=>(157+p.1,p.2):=⟨_,rfl⟩
 obtain ⟨r,hr0⟩:∃ r,r=s.fin (wv l):=⟨_,rfl⟩
 rw [←hr0]
 unfold Dk.fin at hr0
 rw [←hL] at hr0
 have HRR:=Lib.hid hr0
 have HST:=Lib.hid (DJ.start h)
 have HLn:Hid (L.length=n):=Lib.hid (by rw [hL,List.length_map,wv_length,hl])
 have HLE:Hid (∀ k,(s.puts (L.take k)).1.waits.length≤81000∧(s.puts (L.take k)).1.ops≤800001000):=Lib.hid fun k=>by
  have h1:=puts_le s (L.take k)
  have h2:(L.take k).length≤n:=by rw [List.length_take,HLn.out];omega
  omega
 have HAT:Hid (∀ k,k<n→L[k]?=some (157+(l.getD k default).at_,(l.getD k default).d)∧0≤(l.getD k default).at_∧(l.getD k default).at_≤100000):=Lib.hid fun k hk=>⟨by rw [hL];exact finL_at (by omega),hat _ (getD_memJ (by omega))⟩
 have HR:=Lib.hid hr
 have HL:=Lib.hid hl
 have hnc:n≤c:=by have:=hr.at_.1;omega
 have hc63:=hr.at_.2.1
 clear h hr hwl hops hat hr0 hl hL
 go_enter Tryz.func67,Tryz.ntmps67
 go_wp2_with fail
 go_loopw [11] (fun i wr=>RelSe w F gd s L n i wr) (fun i _=>n - (intOf i).toNat)
 case atStart=>exact ⟨0,Nat.zero_le _,rfl,rfl,HST.out⟩
 case round =>
  obtain ⟨k,hk,rfl,hp,hd⟩:=hrel
  obtain ⟨V,hV⟩:∃ V,V=wr:=⟨_,rfl⟩
  subst hV
  have HP:=Lib.hid hp
  have HD:=Lib.hid hd
  clear hp hd
  by_cases hlt:k<n
  case pos =>
   have hkI:(k:Int)<(n:Int):=by omega
   have hk0:(0:Int)≤(k:Int):=by omega
   obtain ⟨b,off,rfl,hb,hc0,hc1,hrd⟩:=(HD.out.rd HR.out).at_ (j:=k) (by rw [HL.out];exact hlt)
   obtain ⟨hLk,ha0,ha1⟩:=HAT.out k hlt
   have HSN:Hid (L.take (k+1)=L.take k ++ [(157+(l.getD k default).at_,(l.getD k default).d)]):=Lib.hid (take_snocJ hLk)
   have HSP:Hid (L=L.take k ++ (157+(l.getD k default).at_,(l.getD k default).d) :: L.drop (k+1)):=Lib.hid (split_at hLk)
   obtain ⟨x,hx⟩:∃ x,x=l.getD k default:=⟨_,rfl⟩
   rw [←hx] at hc0 hc1 hrd ha0 ha1 HSN HSP
   obtain ⟨xa,da,dc,xd⟩:=x
   dsimp only at *
   obtain ⟨dn,hdn⟩:∃ d,xd.length=d:=⟨_,rfl⟩
   rw [hdn] at hc1
   have hbv:Below V.heap.size V (V.alloc (.cells #[.int .i64 xa,.slice da dn dc] 132)):=(Below.refl _ _).alloc (Nat.le_refl _) _
   have hh:=Holds.fresh V 132 #[.int .i64 xa,.slice da dn dc]
   have z0:=hh.cell 0
   have z1:=hh.cell 1
   have hw:IntKind.i64.wrap (157+xa)=157+xa:=IntWalk.i64_in _ (by omega)
   have HW:=Lib.hid ((HD.out.below hbv).write (157+xa) da dn dc xd hdn ((hrd.under hbv).more hbv.size) (by have:=HLE.out k;omega) (by have:=HLE.out k;omega))
   have hkw:IntKind.i64.wrap ((k:Int)+1)=(k:Int)+1:=IntWalk.i64_in _ (by omega)
   clear hLk hrd hbv hh hx
   go_wp2_with fail
   refine HW.out.mono ?_
   rintro e w2 ⟨rfl,hd2⟩
   have HD2:=Lib.hid hd2
   have HG:Hid (((s.puts (L.take k)).1.write (157+xa) xd).2=0→(s.puts (L.take (k+1)))=(s.puts (L.take k)).1.write (157+xa) xd):=Lib.hid fun _=>by rw [HSN.out,puts_snoc HP.out]
   have HS2:Hid (((s.puts (L.take k)).1.write (157+xa) xd).2≠0→s.putf L=(s.puts (L.take k)).1.write (157+xa) xd):=Lib.hid fun h=>by
    have h1:s.puts L=(s.puts (L.take k)).1.write (157+xa) xd:=(congrArg s.puts HSP.out).trans (puts_stop (p:=(157+xa,xd)) HP.out h)
    rw [putf_stop (by rw [h1];exact h),h1]
   generalize (s.puts (L.take k)).1.write (157+xa) xd=q at *
   obtain ⟨s1,e1⟩:=q
   dsimp only at *
   clear hd2 HW HD HP HSN HSP z0 z1 hc0 hc1
   by_cases h0:e1=0
   ·subst h0
    have HG':=Lib.hid (HG.out rfl)
    clear HG HS2
    go_wp2_with fail
    go_roundw
    case rel=>exact ⟨k+1,by omega,by go_num,by rw [HG'.out],by rw [HG'.out];exact HD2.out⟩
    case measure=>simp [intOf];omega
   ·have HS':=Lib.hid (HS2.out h0)
    have d0:((e1:Int) == 0)=false:=by rw [beq_eq_false_iff_ne];omega
    have d1:((e1:Int) != 0)=true:=by rw [bne,d0];rfl
    have HRE:Hid (r=(s1,e1)):=Lib.hid (by rw [HRR.out,HS'.out,if_neg h0])
    clear HG HS2
    go_wp2_with fail
    go_ret
    rw [HRE.out]
    exact ⟨rfl,HD2.out⟩
  case neg =>
   obtain rfl:k=n:=by omega
   have hkI:¬ ((k:Int)<(k:Int)):=by omega
   have hTK:L.take k=L:=List.take_of_length_le (by rw [HLn.out];exact Nat.le_refl _)
   have h1:=HLE.out k
   rw [hTK] at HP HD h1
   have HF:=Lib.hid (HD.out.flush (by omega) (by omega))
   have HPF:Hid (s.putf L=(s.puts L).1.flush):=Lib.hid (putf_go HP.out)
   have HB:=Lib.hid (putf_le s L)
   rw [←HPF.out] at HF
   have hb2:=HB.out
   rw [HLn.out] at hb2
   have h3:=jflush_le (s.puts L).1
   rw [←HPF.out] at h3
   have HBD:Hid ((s.putf L).1.waits.length≤90000∧(s.putf L).1.ops≤900000000):=Lib.hid (by omega)
   clear HP HD hTK h1 HPF HB hb2 h3 HLE HAT HR
   generalize s.putf L=q at *
   obtain ⟨s1,e1⟩:=q
   dsimp only at *
   go_wp2_with fail
   refine HF.out.mono ?_
   rintro e w2 ⟨rfl,hd2⟩
   have HD2:=Lib.hid hd2
   clear hd2 HF
   by_cases h0:e1=0
   ·subst h0
    have HRE:Hid (r=s1.putf [(1,zsec)]):=Lib.hid (by rw [HRR.out,if_pos rfl])
    clear HRR
    have HH:=Lib.hid (headed_nil w2)
    go_wp2_with fail
    refine HH.out.mono ?_
    rintro e w3 ⟨rfl,hr3,hb3⟩
    have HD3:=Lib.hid (HD2.out.below hb3)
    have HRz:Hid (Rd .u8 w3 w3.heap.size (some ⟨w2.heap.size,0,none⟩) 64 zsec):=Lib.hid (Row.rd64 hr3 rfl)
    clear hr3 hb3 HH HD2
    have HFL:=Lib.hid (flushed_any HD3.out.1 1 _ 64 64 zsec rfl HRz.out HBD.out.1 HBD.out.2)
    go_wp2_with fail
    refine HFL.out.mono ?_
    rintro e w4 ⟨rfl,hd4⟩
    have HD4:=Lib.hid (HD3.out.step hd4.1 hd4.2)
    clear hd4 HFL
    go_wp2_with fail
    go_ret
    rw [HRE.out]
    exact ⟨rfl,HD4.out⟩
   ·have HRE:Hid (r=(s1,e1)):=Lib.hid (by rw [HRR.out,if_neg h0])
    have d0:((e1:Int) == 0)=false:=by rw [beq_eq_false_iff_ne];omega
    have d1:((e1:Int) != 0)=true:=by rw [bne,d0];rfl
    clear HRR
    go_wp2_with fail
    go_ret
    rw [HRE.out]
    exact ⟨rfl,HD2.out⟩
end
end Go.Proofs.YtnedpkhehiijhaaGreat
namespace Go.Proofs.YtnedpkhehiijhaaGreat
open Go.RowKit
set_option linter.unusedVariables false
set_option linter.unusedSimpArgs false
attribute [local go_sem ↓] Go.wp_at_zero Go.wp_at_succ

/-- Truths of the first m numbers. -/
def bits (m:Nat) (f:Nat→Bool):Array Value:=((List.range m).map fun x=>Value.bool (f x)).toArray
theorem bits_at {m:Nat} (f:Nat→Bool) {i:Nat} (h:i<m):(bits m f)[i]?=some (.bool (f i)):=by simp [bits,h]
theorem bits_set {m:Nat} (f:Nat→Bool) {i:Nat} (h:i<m):(bits m f).setIfInBounds i (.bool true)=bits m (fun x=>x == i || f x):=by
 apply Array.ext'
 simp only [bits,Array.toList_setIfInBounds]
 apply List.ext_getElem
 ·simp
 ·intro j h1 h2
  by_cases e:j=i
  ·subst e;simp
  ·rw [List.getElem_set_ne (by omega)]
   simp [e]
theorem bits_made (m:Nat):madeCells #[.bool false] m=bits m (fun _=>false):=by
 apply Array.ext'
 simp only [bits,madeCells]
 apply List.ext_getElem <;> simp [Nat.mod_one]
theorem make_bits (n:Nat) (h2:n≤2000) (W:World):(Instr.makeSlice 35 (.int .i64 (n:Int)) (.int .i64 (n:Int))).run Tryz.prog W = .ok (.slice (some ⟨W.heap.size,0,none⟩) n n) (W.alloc (.cells (bits n fun _=>false) 4)):=by
 obtain ⟨i,hi,hz,hsize,hbytes⟩:=info_parts info_bool
 have h:=run_make (P:=Tryz.prog) W 35 4 i (.bool false) Tryz.underlying35 hi hz .i64 .i64 n n (by omega) (Int.le_refl _) (by rw [hbytes];omega) (by omega)
 rw [h,hsize,Nat.mul_one,Int.toNat_natCast]
 rw [show (Value.bool false).cells=#[.bool false] from rfl,bits_made]

def GoodJ (m:Nat) (p:Int×List Nat):Prop:=0≤p.1∧p.1<(m:Int)∧p.2.length=64
structure FiSt (w:World) (m:Nat) (L:List (Int×List Nat)) (k:Nat) (f:Nat→Bool) (wr:World):Prop where
 had:∀ j,j<m→(f j=true↔(j:Int)∈(L.take k).map (·.1))
 good:∀ p∈L.take k,GoodJ m p
 nodup:((L.take k).map (·.1)).Nodup
 row:Holds wr w.heap.size 4 (bits m f)
 bel:Below w.heap.size w wr
def RelFi (w:World) (m:Nat) (L:List (Int×List Nat)) (n:Nat) (i:Value) (wr:World):Prop :=
 ∃ (k:Nat) (f:Nat→Bool),k≤n∧i = .int .i64 k∧FiSt w m L k f wr
theorem mayJ_no {m k:Nat} {L:List (Int×List Nat)} {p:Int×List Nat} (h:L[k]?=some p) (hb:¬ GoodJ m p):mayJ m L=false:=by
 unfold mayJ
 exact decide_eq_false fun hh=>hb (hh.1 p (List.mem_of_getElem? h))
theorem mayJ_two {m k:Nat} {L:List (Int×List Nat)} {p:Int×List Nat} (h:L[k]?=some p) (hb:p.1∈(L.take k).map (·.1)):mayJ m L=false:=by
 unfold mayJ
 refine decide_eq_false fun hh=>?_
 have h1:=hh.2
 rw [split_at h,List.map_append,List.nodup_append] at h1
 exact h1.2.2 p.1 hb p.1 (by simp) rfl
section
variable {w:World} {F:Nat→Prop} {gd:Nat} {s:Dk}
set_option maxRecDepth 100000 in
set_option maxHeartbeats 4000000 in
theorem fit_any (h:Disk w F gd s) (A:Option Addr) (c n:Nat) (l:List Wr) (hl:l.length=n) (hr:RdWr A c l w) (hn:n≤100000) :
  Calls Tryz.prog 88 #[.pointer (some ⟨gd,0,none⟩),.slice A n c] w fun e w'=>e = .returned (.bool (mayJ s.many (wv l)))∧Below w.heap.size w w':=by
 obtain ⟨L,hL⟩:∃ L,L=wv l:=⟨_,rfl⟩
 rw [←hL]
 have HM:=Lib.hid (jmany h)
 have hm2:s.many≤2000:=by have:=h.len.2.2;unfold Dk.many;omega
 generalize s.many=m at *
 obtain ⟨r,hr0⟩:∃ r,r=mayJ m L:=⟨_,rfl⟩
 rw [←hr0]
 have HRR:=Lib.hid hr0
 have HLn:Hid (L.length=n):=Lib.hid (by rw [hL,wv_length,hl])
 have HAT:Hid (∀ k,k<n→L[k]?=some ((l.getD k default).at_,(l.getD k default).d)):=Lib.hid fun k hk=>by rw [hL];exact wv_at (by omega)
 have HR:=Lib.hid hr
 have HL:=Lib.hid hl
 have hnc:n≤c:=by have:=hr.1;omega
 have hc63:=hr.2.1
 have hmb:=make_bits m hm2
 have HST:Hid (FiSt w m L 0 (fun _=>false) (w.alloc (.cells (bits m fun _=>false) 4))):=Lib.hid ⟨fun j _=>by simp,fun p hp=>by simp at hp,by simp,Holds.fresh _ _ _,(Below.refl _ _).alloc (Nat.le_refl _) _⟩
 clear h hr hr0 hl hL
 go_enter Tryz.func88,Tryz.ntmps88
 go_wp2_with (first | (refine HM.out.mono ?_;rintro e w1 ⟨rfl,rfl⟩) | fail)
 clear hmb HM
 generalize w.alloc (.cells (bits m fun _=>false) 4)=W0 at *
 go_loopw [13] (fun i wr=>RelFi w m L n i wr) (fun i _=>n - (intOf i).toNat)
 case atStart=>exact ⟨0,_,Nat.zero_le _,rfl,HST.out⟩
 case round =>
  obtain ⟨k,f,hk,rfl,hst⟩:=hrel
  obtain ⟨V,hV⟩:∃ V,V=wr:=⟨_,rfl⟩
  subst hV
  have HS:=Lib.hid hst
  clear hst HST
  by_cases hlt:k<n
  case pos =>
   have hkI:(k:Int)<(n:Int):=by omega
   have hk0:(0:Int)≤(k:Int):=by omega
   obtain ⟨b,off,rfl,hb,hc0,hc1,hrd⟩:=(HR.out.under HS.out.bel).at_ (j:=k) (by rw [HL.out];exact hlt)
   have HLk:=Lib.hid (HAT.out k hlt)
   obtain ⟨x,hx⟩:∃ x,x=l.getD k default:=⟨_,rfl⟩
   rw [←hx] at hc0 hc1 HLk
   clear hrd hx
   obtain ⟨xa,da,dc,xd⟩:=x
   dsimp only at *
   obtain ⟨dn,hdn⟩:∃ d,xd.length=d:=⟨_,rfl⟩
   rw [hdn] at hc1
   have HDN:=Lib.hid hdn
   have hbv:Below V.heap.size V (V.alloc (.cells #[.int .i64 xa,.slice da dn dc] 132)):=(Below.refl _ _).alloc (Nat.le_refl _) _
   have hh:=Holds.fresh V 132 #[.int .i64 xa,.slice da dn dc]
   have z0:=hh.cell 0
   have z1:=hh.cell 1
   have hkw:IntKind.i64.wrap ((k:Int)+1)=(k:Int)+1:=IntWalk.i64_in _ (by omega)
   have HBV:=Lib.hid (HS.out.bel.trans (hbv.mono HS.out.bel.size))
   have hrow:=HS.out.row.under hbv HS.out.row.lt
   clear hh hbv hdn
   by_cases h0:xa<0
   ·have d0:decide (xa<0)=true:=decide_eq_true h0
    have HE:Hid (r=false):=Lib.hid (by rw [HRR.out];exact mayJ_no HLk.out (fun h=>by have:=h.1;dsimp only at this;omega))
    go_wp2_with fail
    go_ret
    rw [HE.out]
    exact ⟨rfl,HBV.out⟩
   have d0:decide (xa<0)=false:=decide_eq_false h0
   obtain ⟨x,rfl⟩:∃ x:Nat,xa=(x:Int):=⟨xa.toNat,by omega⟩
   by_cases h1:m≤x
   ·have d1:decide ((m:Int)≤(x:Int))=true:=decide_eq_true (by omega)
    have HE:Hid (r=false):=Lib.hid (by rw [HRR.out];exact mayJ_no HLk.out (fun h=>by have:=h.2.1;dsimp only at this;omega))
    go_wp2_with fail
    go_ret
    rw [HE.out]
    exact ⟨rfl,HBV.out⟩
   have d1:decide ((m:Int)≤(x:Int))=false:=decide_eq_false (by omega)
   have hxm:x<m:=by omega
   by_cases h2:dn=64
   case neg =>
    have d2:((dn:Int) == 64)=false:=by rw [beq_eq_false_iff_ne];omega
    have d2':((dn:Int) != 64)=true:=by rw [bne,d2];rfl
    have HE:Hid (r=false):=Lib.hid (by rw [HRR.out];exact mayJ_no HLk.out (fun h=>h2 (by rw [←HDN.out];exact h.2.2)))
    go_wp2_with fail
    go_ret
    rw [HE.out]
    exact ⟨rfl,HBV.out⟩
   subst h2
   have hbc:=(hrow.cell x).trans (bits_at f hxm)
   have hbf:=hrow.open_ x
   have hxI:(x:Int)<(m:Int):=by omega
   have hx0:(0:Int)≤(x:Int):=by omega
   rcases hfx:f x with _ | _
   case true =>
    rw [hfx] at hbc
    have HE:Hid (r=false):=Lib.hid (by rw [HRR.out];exact mayJ_two HLk.out ((HS.out.had x hxm).1 hfx))
    go_wp2_with fail
    go_ret
    rw [HE.out]
    exact ⟨rfl,HBV.out⟩
   rw [hfx] at hbc
   have HN:Hid (FiSt w m L (k+1) (fun y=>y == x || f y) ((V.alloc (.cells #[.int .i64 (x:Int),.slice da 64 dc] 132)).setCell ⟨w.heap.size,x,none⟩ (.bool true))):=Lib.hid (by
    have e:=take_snocJ HLk.out
    refine ⟨fun j hj=>?_,fun p hp=>?_,?_,?_,HBV.out.setCell (p:=⟨w.heap.size,x,none⟩) (Nat.le_refl _) _⟩
    ·rw [e,List.map_append]
     simp only [Bool.or_eq_true,beq_iff_eq,List.map_cons,List.map_nil,List.mem_append,List.mem_singleton,HS.out.had j hj]
     constructor
     ·rintro (rfl | h)
      ·exact .inr rfl
      ·exact .inl h
     ·rintro (h | h)
      ·exact .inr h
      ·exact .inl (by omega)
    ·rw [e] at hp
     rcases List.mem_append.1 hp with hp | hp
     ·exact HS.out.good p hp
     ·rw [List.mem_singleton.1 hp]
      exact ⟨hx0,hxI,HDN.out⟩
    ·rw [e,List.map_append,List.nodup_append]
     refine ⟨HS.out.nodup,by simp,fun a ha b hb=>?_⟩
     simp only [List.map_cons,List.map_nil,List.mem_singleton] at hb
     subst hb
     rintro rfl
     have:=(HS.out.had x hxm).2 ha
     rw [hfx] at this
     cases this
    ·rw [←bits_set f hxm]
     exact hrow.stored x _)
   clear hrow HBV
   go_wp2_with fail
   go_roundw
   case rel=>exact ⟨k+1,_,by omega,by go_num,HN.out⟩
   case measure=>simp [intOf];omega
  case neg =>
   obtain rfl:k=n:=by omega
   have hkI:¬ ((k:Int)<(k:Int)):=by omega
   have HE:Hid (r=true):=Lib.hid (by
    have h1:=HS.out.good
    have h2:=HS.out.nodup
    rw [List.take_of_length_le (by rw [HLn.out];exact Nat.le_refl _)] at h1 h2
    rw [HRR.out]
    exact decide_eq_true ⟨h1,h2⟩)
   go_wp2_with fail
   go_ret
   rw [HE.out]
   exact ⟨rfl,HS.out.bel⟩
end
end Go.Proofs.YtnedpkhehiijhaaGreat
namespace Go.Proofs.YtnedpkhehiijhaaGreat
open Go.RowKit
set_option linter.unusedVariables false

theorem ret_int {k:IntKind} {a b:Int} (h:a=b):Ending.returned (.int k a) = .returned (.int k b):=by rw [h]
/-- A file's name. -/
structure NameOk (s:ByteArray):Prop where
 low:1≤s.size
 high:s.size≤40
 all:∀ i (h:i<s.size),33≤s[i].toNat∧s[i].toNat≤126

set_option maxRecDepth 100000 in
theorem named_any (w:World) (s:ByteArray) (hs:s.size≤9223372036854775807) (v:Bool) (hv:v=true↔NameOk s) :
  Calls Tryz.prog 110 #[.string s] w fun e w'=>e = .returned (.bool v)∧w=w':=by
 have HV:=Lib.hid hv
 clear hv
 go_enter Tryz.func110,Tryz.ntmps110
 go_wp2_with fail
 go_loop [3,6] (fun u i=>∃ k:Nat,k≤s.size∧i = .int .i64 k∧Hid (∀ j (h:j<s.size),j<k→33≤s[j].toNat∧s[j].toNat≤126)) (fun _ i=>s.size - (intOf i).toNat)
 case atStart=>exact ⟨0,Nat.zero_le _,rfl,Lib.hid (fun j h hj=>by omega)⟩
 case round =>
  obtain ⟨k,hk,rfl,HD⟩:=hrel
  by_cases hlt:k<s.size
  ·by_cases h1:33≤s[k].toNat
   ·by_cases h2:s[k].toNat≤126
    ·have HX:Hid (∀ j (h:j<s.size),j<k+1→33≤s[j].toNat∧s[j].toNat≤126):=Lib.hid (fun j h hj=>by
      rcases Nat.lt_or_ge j k with h' | h'
      ·exact HD.out j h h'
      ·obtain rfl:j=k:=by omega
       exact ⟨h1,h2⟩)
     have b1:decide (((s[k].toNat:Nat):Int)<33)=false:=decide_eq_false (by omega)
     have b2:decide (126<((s[k].toNat:Nat):Int))=false:=decide_eq_false (by omega)
     go_wp2_with fail
     go_round
     case rel=>exact ⟨k+1,by omega,by go_num,HX⟩
     case measure=>simp [intOf];omega
    ·have HF:Hid (v=false):=Lib.hid (by
      cases v
      ·rfl
      ·exact absurd ((HV.out.1 rfl).all k hlt).2 h2)
     have b1:decide (((s[k].toNat:Nat):Int)<33)=false:=decide_eq_false (by omega)
     have b2:decide (126<((s[k].toNat:Nat):Int))=true:=decide_eq_true (by omega)
     go_wp2_with fail
     go_ret
     exact ⟨by rw [HF.out];rfl,rfl⟩
   ·have HF:Hid (v=false):=Lib.hid (by
     cases v
     ·rfl
     ·exact absurd ((HV.out.1 rfl).all k hlt).1 h1)
    have b1:decide (((s[k].toNat:Nat):Int)<33)=true:=decide_eq_true (by omega)
    go_wp2_with fail
    go_ret
    exact ⟨by rw [HF.out];rfl,rfl⟩
  ·obtain rfl:k=s.size:=by omega
   have hf:decide (s.size<s.size)=false:=decide_eq_false (by omega)
   by_cases h1:1≤s.size
   ·by_cases h2:s.size≤40
    ·have HT:Hid (v=true):=Lib.hid (HV.out.2 ⟨h1,h2,fun i h=>HD.out i h h⟩)
     have b1:decide ((1:Int)≤(s.size:Int))=true:=decide_eq_true (by omega)
     have b2:decide ((s.size:Int)≤40)=true:=decide_eq_true (by omega)
     go_wp2_with fail
     go_ret
     exact ⟨by rw [HT.out];simp,rfl⟩
    ·have HF:Hid (v=false):=Lib.hid (by
      cases v
      ·rfl
      ·exact absurd (HV.out.1 rfl).high h2)
     go_wp2_with fail
     go_ret
     exact ⟨by rw [HF.out];first | (simp;done) | (simp;omega),rfl⟩
   ·have HF:Hid (v=false):=Lib.hid (by
     cases v
     ·rfl
     ·exact absurd (HV.out.1 rfl).low h1)
    go_wp2_with fail
    go_ret
    exact ⟨by rw [HF.out];first | (simp;done) | (simp;omega),rfl⟩

/-- How many sectors so many bytes need. -/
def needI (z:Int):Int:=if z<1 then 0 else (z - 1) / 64+1
set_option maxRecDepth 100000 in
theorem need_any (w:World) (z:Int) (h1:z≤9223372036854775807) (v:Int) (hv:needI z=v) :
  Calls Tryz.prog 70 #[.int .i64 z] w fun e w'=>e = .returned (.int .i64 v)∧w=w':=by
 have HV:=Lib.hid hv
 clear hv
 by_cases h1:z<1
 ·go_enter Tryz.func70,Tryz.ntmps70
  go_wp2_with fail
  go_ret
  exact ⟨by rw [←HV.out];unfold needI;rw [if_pos h1];rfl,rfl⟩
 ·go_enter Tryz.func70,Tryz.ntmps70
  go_wp2_with fail
  go_ret
  exact ⟨by rw [←HV.out];unfold needI;rw [if_neg (by omega)];rfl,rfl⟩
/-- The slice '.slice A l.length c' reads as the integers l. -/
def RdI (k:IntKind) (w:World) (B:Nat) (A:Option Addr) (c:Nat) (l:List Int):Prop :=
 l.length≤c∧c≤9223372036854775807∧(0<l.length→∃ b off,A=some ⟨b,off,none⟩∧b<B∧∀ j,j<l.length→w.cell? ⟨b,off+j,none⟩=some (.int k (l.getD j 0)))
section
variable {k:IntKind} {w w':World} {B B':Nat} {A:Option Addr} {c:Nat} {l:List Int}
theorem RdI.at_ (h:RdI k w B A c l) {i:Nat} (hi:i<l.length):∃ b off x,A=some ⟨b,off,none⟩∧b<B∧w.cell? ⟨b,off+i,none⟩=some (.int k x)∧Hid (x=l.getD i 0):=by
 obtain ⟨b,off,e,hb,hc⟩:=h.2.2 (by omega)
 exact ⟨b,off,_,e,hb,hc i hi,rfl⟩
theorem RdI.nil_ (k:IntKind) (w:World) (B:Nat):RdI k w B none 0 []:=⟨by simp,by omega,fun h=>by simp at h⟩
theorem RdI.keep (h:RdI k w B A c l) (hk:∀ b o,b<B→w'.cell? ⟨b,o,none⟩=w.cell? ⟨b,o,none⟩):RdI k w' B A c l :=
 ⟨h.1,h.2.1,fun hn=>by
  obtain ⟨b,off,e,hb,hc⟩:=h.2.2 hn
  exact ⟨b,off,e,hb,fun j hj=>(hk _ _ hb).trans (hc j hj)⟩⟩
theorem RdI.more (h:RdI k w B A c l) (hB:B≤B'):RdI k w B' A c l :=
 ⟨h.1,h.2.1,fun hn=>by
  obtain ⟨b,off,e,hb,hc⟩:=h.2.2 hn
  exact ⟨b,off,e,by omega,hc⟩⟩
theorem RdI.under (h:RdI k w B A c l) (hb:Below B w w'):RdI k w' B A c l:=h.keep fun b o hlt=>hb.cell (p:=⟨b,o,none⟩) hlt
theorem RdI.alloc (h:RdI k w B A c l) (hB:B≤w.heap.size) (o:Obj):RdI k (w.alloc o) B A c l:=h.keep fun b o' hb=>World.cell?_alloc_past _ b o' (by omega)
theorem RdI.drewN (h:RdI k w B A c l) (n:Nat):RdI k (w.drewN n) B A c l:=h
theorem RdI.of_rd {m:List Nat} (h:Rd k w B A c m):RdI k w B A c (m.map (fun x:Nat=>(x:Int))):=by
 refine ⟨by simpa using h.1,h.2.1,fun hn=>?_⟩
 obtain ⟨b,off,e,hb,hc⟩:=h.2.2 (by simpa using hn)
 refine ⟨b,off,e,hb,fun j hj=>?_⟩
 have hj':j<m.length:=by simpa using hj
 rw [hc j hj']
 simp [List.getD,hj']
end
end Go.Proofs.YtnedpkhehiijhaaGreat
