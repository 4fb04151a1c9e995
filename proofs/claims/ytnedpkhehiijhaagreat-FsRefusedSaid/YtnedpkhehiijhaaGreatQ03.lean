/- Words and laws for the statement, part 3. -/
import Derived.Deep.RegionHeld3
import Derived.Test.YtnedpkhehiijhaaGreatQ02
namespace Go.Proofs.YtnedpkhehiijhaaGreat
open Go.RowKit
set_option linter.unusedVariables false
set_option linter.unusedSimpArgs false

attribute [local go_sem ↓] Go.wp_at_zero Go.wp_at_succ

section
variable {w w':World} {gx gS cS:Nat} {A:Option Addr} {cw:Nat} {K:Option Addr} {ck:Nat} {at_:Int} {kl:List Bool} {rs:List Rw} {ws:List (Nat×Rw)} {s s':Dk}
theorem setCell_size (w:World) (p:Addr) (v:Value):(w.setCell p v).heap.size=w.heap.size:=by simp [World.setCell]
/-- Another row in a place. -/
theorem RfAt.setRow (h:RfAt w gx gS cS A cw K ck at_ kl rs ws s) {p:Nat} (hp:p<rs.length) (r:Rw) (hg:Good w gx gS A r) :
  RfAt (w.setCell ⟨gS,p,none⟩ (rslot r)) gx gS cS A cw K ck at_ kl (rs.set p r) ws { s with lasts:=s.lasts.set p r.l }:=by
 have hs:w.heap.size≤(w.setCell ⟨gS,p,none⟩ (rslot r)).heap.size:=Nat.le_of_eq (setCell_size _ _ _).symm
 have k:∀ g,g≠gS→(w.setCell ⟨gS,p,none⟩ (rslot r)).heap[g]?=w.heap[g]?:=fun g hne=>Below.heap_setCell w ⟨gS,p,none⟩ _ g hne
 have hl:(rs.set p r).length=rs.length:=List.length_set
 exact {
  hd:=by rw [hl];exact (k gx h.xs).trans h.hd
  hS:=by rw [hl,List.map_set];exact h.hS.store hp _
  hW:=h.hW.keep fun g hg' _=>k g fun e=>h.ax.2 (by rw [hg',e])
  rd:=fun r' hr'=>by
   rcases List.mem_or_eq_of_mem_set hr' with h1 | h1
   ·exact (h.rd r' h1).keep hs fun g hg' _=>k g ((h.rd r' h1).2.2 g hg').2.1
   ·subst h1
    exact hg.keep hs fun g hg' _=>k g (hg.2.2 g hg').2.1
  wd:=fun q hq=>(h.wd q hq).keep hs fun g hg' _=>k g ((h.wd q hq).2.2 g hg').2.1
  hk:=h.hk.keep hs fun g hg' _=>k g (h.kx g hg').2.2.1
  eS:=by rw [List.map_set,h.eS]
  eW:=h.eW
  ea:=h.ea
  xs:=h.xs
  ax:=h.ax
  kx:=fun g hg'=>⟨Nat.lt_of_lt_of_le (h.kx g hg').1 hs,(h.kx g hg').2⟩
  n1:=by rw [hl];exact h.n1
  n2:=by rw [hl];exact h.n2
  wat:=fun q hq=>by rw [hl];exact h.wat q hq }
/-- One more write waits. -/
theorem RfAt.pushed (h:RfAt w gx gS cS A cw K ck at_ kl rs ws s) {p:Nat×Rw} (hp:p.1<rs.length) (hg:Good w gx gS A p.2) {g' c':Nat} {W3:World}
  (hw:OwnV 132 2 W3 (some ⟨g',0,none⟩) c' (ws.length+1) (ws.flatMap wslot ++ wslot p)) (hgr:w.grownBy W3 (blockOf A)) (hat:blockOf A=some g'∨g'=w.heap.size) :
  Holds W3 gx 114 (rcells gS rs.length cS A ws.length cw s.ops at_ K kl.length ck s.armed s.down) ∧
  RfAt (W3.setCell ⟨gx,1,none⟩ (.slice (some ⟨g',0,none⟩) (ws.length+1) c')) gx gS cS (some ⟨g',0,none⟩) c' K ck at_ kl rs (ws ++ [p]) { s with waits:=s.waits ++ [(p.1,p.2.l)] }:=by
 have hgx:W3.heap[gx]?=w.heap[gx]?:=hgr.block gx (Holds.lt h.hd) (fun e=>h.ax.1 e.symm)
 have hd3:Holds W3 gx 114 (rcells gS rs.length cS A ws.length cw s.ops at_ K kl.length ck s.armed s.down):=hgx.trans h.hd
 refine ⟨hd3,?_⟩
 have hs:w.heap.size≤(W3.setCell ⟨gx,1,none⟩ (.slice (some ⟨g',0,none⟩) (ws.length+1) c')).heap.size:=by rw [setCell_size];exact hgr.size
 have k:∀ g,g≠gx→blockOf A≠some g→g<w.heap.size→(W3.setCell ⟨gx,1,none⟩ (.slice (some ⟨g',0,none⟩) (ws.length+1) c')).heap[g]?=w.heap[g]?:=fun g h1 h2 hlt =>
  (Below.heap_setCell W3 ⟨gx,1,none⟩ _ g h1).trans (hgr.block g hlt (fun e=>h2 e.symm))
 have gne:∀ g,blockOf A≠some g→g<w.heap.size→blockOf (some (⟨g',0,none⟩:Addr))≠some g:=fun g h1 hlt e=>by
  obtain rfl:g'=g:=by simpa [blockOf] using e
  rcases hat with h2 | h2
  ·exact h1 h2
  ·omega
 have good:∀ r,Good w gx gS A r→Good (W3.setCell ⟨gx,1,none⟩ (.slice (some ⟨g',0,none⟩) (ws.length+1) c')) gx gS (some ⟨g',0,none⟩) r:=fun r hr =>
  ⟨hr.1.keepB hs fun g hg' hlt=>k g (hr.2.2 g hg').1 (hr.2.2 g hg').2.2 hlt,hr.2.1,fun g hg'=>⟨(hr.2.2 g hg').1,(hr.2.2 g hg').2.1,gne g (hr.2.2 g hg').2.2 (hr.1.lt (by rw [hr.2.1];omega) hg')⟩⟩
 exact {
  hd:=by rw [List.length_append];exact Holds.stored hd3 1 _
  hS:=h.hS.keep fun g hg' hlt=>by
   obtain rfl:gS=g:=by simpa [blockOf] using hg'
   exact k gS h.xs.symm h.ax.2 hlt
  hW:=by
   rw [List.flatMap_append,List.length_append]
   refine OwnV.keep (w:=W3) (by simpa using hw) fun g hg' _=>Below.heap_setCell W3 ⟨gx,1,none⟩ _ g ?_
   intro e
   exact gne gx h.ax.1 (Holds.lt h.hd) (by rw [hg'];exact congrArg some e)
  rd:=fun r hr=>good r (h.rd r hr)
  wd:=fun q hq=>by
   rcases List.mem_append.1 hq with h1 | h1
   ·exact good q.2 (h.wd q h1)
   ·obtain rfl:=List.mem_singleton.1 h1
    exact good _ hg
  hk:=h.hk.keep hs fun g hg' hlt=>k g (h.kx g hg').2.1 (h.kx g hg').2.2.2 hlt
  eS:=h.eS
  eW:=by rw [List.map_append,h.eW];rfl
  ea:=h.ea
  xs:=h.xs
  ax:=⟨gne gx h.ax.1 (Holds.lt h.hd),gne gS h.ax.2 (h.hS.lt rfl)⟩
  kx:=fun g hg'=>⟨Nat.lt_of_lt_of_le (h.kx g hg').1 hs,(h.kx g hg').2.1,(h.kx g hg').2.2.1,gne g (h.kx g hg').2.2.2 (h.kx g hg').1⟩
  n1:=h.n1
  n2:=h.n2
  wat:=fun q hq=>by
   rcases List.mem_append.1 hq with h1 | h1
   ·exact h.wat q h1
   ·obtain rfl:=List.mem_singleton.1 h1
    exact hp }
/-- Nothing waits any more. -/
theorem RfAt.cleared (h:RfAt w gx gS cS A cw K ck at_ kl rs ws s) :
  RfAt (w.setCell ⟨gx,1,none⟩ (.slice none 0 0)) gx gS cS none 0 K ck at_ kl rs [] { s with waits:=[] }:=by
 have hs:w.heap.size≤(w.setCell ⟨gx,1,none⟩ (.slice none 0 0)).heap.size:=Nat.le_of_eq (setCell_size _ _ _).symm
 have k:∀ g,g≠gx→(w.setCell ⟨gx,1,none⟩ (.slice none 0 0)).heap[g]?=w.heap[g]?:=fun g hne=>Below.heap_setCell w ⟨gx,1,none⟩ _ g hne
 have hn:∀ g,blockOf (none:Option Addr)≠some g:=fun g e=>by simp [blockOf] at e
 exact {
  hd:=Holds.stored h.hd 1 _
  hS:=h.hS.keep fun g hg' _=>by
   obtain rfl:gS=g:=by simpa [blockOf] using hg'
   exact k gS h.xs.symm
  hW:=OwnV.nil _ _ _
  rd:=fun r hr=>⟨(h.rd r hr).1.keepB hs fun g hg' _=>k g ((h.rd r hr).2.2 g hg').1,(h.rd r hr).2.1,fun g hg'=>⟨((h.rd r hr).2.2 g hg').1,((h.rd r hr).2.2 g hg').2.1,hn g⟩⟩
  wd:=fun p hp=>by cases hp
  hk:=h.hk.keep hs fun g hg' _=>k g (h.kx g hg').2.1
  eS:=h.eS
  eW:=rfl
  ea:=h.ea
  xs:=h.xs
  ax:=⟨hn _,hn _⟩
  kx:=fun g hg'=>⟨Nat.lt_of_lt_of_le (h.kx g hg').1 hs,(h.kx g hg').2.1,(h.kx g hg').2.2.1,hn g⟩
  n1:=h.n1
  n2:=h.n2
  wat:=fun p hp=>by cases hp }
end

structure LasS (gx gS n cS bx p:Nat) (a:Option Addr) (c:Nat) (W:World):Prop where
 c0:W.cell? ⟨gx,0,none⟩=some (.slice (some ⟨gS,0,none⟩) n cS)
 q0:W.cell? ⟨bx,0,none⟩=some (.int .i64 (p:Int))
 q1:W.cell? ⟨bx,1,none⟩=some (.slice a 64 c)
theorem LasS.under {gx gS n cS bx p:Nat} {a:Option Addr} {c:Nat} {W W':World} (h:LasS gx gS n cS bx p a c W) (hb:Below W.heap.size W W'):LasS gx gS n cS bx p a c W':=by
 have k:∀ (g i:Nat) (v:Value),W.cell? ⟨g,i,none⟩=some v→W'.cell? ⟨g,i,none⟩=some v:=fun g i v hv=>(hb.cell (p:=⟨g,i,none⟩) (World.block_lt_of_cell? W _ hv)).trans hv
 exact ⟨k _ _ _ h.c0,k _ _ _ h.q0,k _ _ _ h.q1⟩
section
variable (w:World) (gx gS cS:Nat) (A:Option Addr) (cw:Nat) (K:Option Addr) (ck:Nat) (at_:Int) (kl:List Bool) (rs:List Rw) (ws:List (Nat×Rw)) (s:Dk) (F:Nat→Prop)
set_option maxRecDepth 100000 in
set_option maxHeartbeats 2000000 in
theorem lasts_any (h:RfAt w gx gS cS A cw K ck at_ kl rs ws s) (p:Nat) (hp:p<rs.length) (a:Option Addr) (c:Nat) (l:List Nat) (hr:Rd .u8 w w.heap.size a c l) (hl:l.length=64) :
  Calls Tryz.prog 127 #[.pointer (some ⟨gx,0,none⟩),.agg #[.int .i64 p,.slice a 64 c]] w fun e w'=>e = .returned (.tuple #[])∧(∃ r,RfAt w' gx gS cS A cw K ck at_ kl (rs.set p r) ws { s with lasts:=s.lasts.set p l }∧∀ g,blockOf r.a=some g→w.heap.size≤g)∧Only (fun g=>g=gS) w w':=by
 have hA0:Below w.heap.size w (w.alloc (.cells #[.int .i64 (p:Int),.slice a 64 c] 132)):=(Below.refl _ w).alloc (Nat.le_refl _) _
 obtain ⟨V,hV⟩:∃ V,w.alloc (.cells #[.int .i64 (p:Int),.slice a 64 c] 132)=V:=⟨_,rfl⟩
 have hVs:V.heap.size=w.heap.size+1:=by rw [←hV];simp
 have hA1:Below w.heap.size w V:=by rw [←hV];exact hA0
 have hA2:Below w.heap.size w ((V.alloc (.cells #[] 5)).drew):=(hA1.alloc (by omega) _).drew
 have hrV:=(hr.under hA2).more hA2.size
 obtain ⟨V1,hV1⟩:∃ V1,(V.alloc (.cells #[] 5)).drew=V1:=⟨_,rfl⟩
 have hV1s:V1.heap.size=V.heap.size+1:=by rw [←hV1];simp
 obtain ⟨g',c2,w2,hrun,hgr,hrd,hat,hlt⟩:=run_sector ((V.alloc (.cells #[] 5)).drew) 64 hrV hl (by omega) (by omega) V.heap.size (heap_alloc_new V _) 44
 rw [hV1] at hA2 hrun hgr hat
 have hb2:Below w.heap.size w w2:=hA2.trans (one_below hgr (by omega) hA2.size)
 have hbV1:Below V.heap.size V V1:=by rw [←hV1];exact ((Below.refl _ V).alloc (Nat.le_refl _) _).drew
 have hbV2:Below V.heap.size V w2:=hbV1.trans (one_below hgr (by omega) hbV1.size)
 have hg':w.heap.size≤g':=by omega
 have h2:=h.under hb2
 have hgood:Good w2 gx gS A ⟨some ⟨g',0,none⟩,c2,l⟩:=⟨hrd,hl,fun g hg=>by
  obtain rfl:g'=g:=by simpa [blockOf] using hg
  refine ⟨fun e=>?_,fun e=>?_,fun e=>?_⟩
  ·have:=h.lt (g:=g') (.inl e);omega
  ·have:=h.lt (g:=g') (.inr (.inl e));omega
  ·have:=h.lt (g:=g') (.inr (.inr (.inl e)));omega⟩
 have hset:=h2.setRow hp ⟨some ⟨g',0,none⟩,c2,l⟩ hgood
 have hsl:rslot ⟨some ⟨g',0,none⟩,c2,l⟩ = .slice (some ⟨g',0,none⟩) 64 c2:=by rw [rslot,hl]
 rw [hsl] at hset
 have HSET:=Lib.hid hset
 have HG':=Lib.hid hg'
 have HRUN:=Lib.hid hrun
 have HL0:Hid (LasS gx gS rs.length cS w.heap.size p a c V.drew):=Lib.hid ⟨(h.under hA1).cell 0,by rw [←hV];exact cell_of_row _ _ _ _ _ _ (heap_alloc_new w _),by rw [←hV];exact cell_of_row _ _ _ _ _ _ (heap_alloc_new w _)⟩
 have HL0':LasS gx gS rs.length cS w.heap.size p a c V:=⟨HL0.out.c0,HL0.out.q0,HL0.out.q1⟩
 have HL1:=Lib.hid (HL0'.under hbV1)
 have HL2:=Lib.hid (HL0'.under hbV2)
 have hxS:gx≠gS:=h.xs
 have hbS:w.heap.size≠gS:=by have:=h.lt (g:=gS) (.inr (.inl rfl));omega
 have ks:∀ (g i:Nat),g≠gS→(w2.setCell ⟨gS,p,none⟩ (.slice (some ⟨g',0,none⟩) 64 c2)).cell? ⟨g,i,none⟩=w2.cell? ⟨g,i,none⟩:=fun g i hne=>World.cell?_of_block (a:=⟨g,i,none⟩) (Below.heap_setCell w2 ⟨gS,p,none⟩ _ g hne)
 have HL3:Hid (LasS gx gS rs.length cS w.heap.size p a c (w2.setCell ⟨gS,p,none⟩ (.slice (some ⟨g',0,none⟩) 64 c2))):=Lib.hid ⟨(ks _ _ hxS).trans HL2.out.c0,(ks _ _ hbS).trans HL2.out.q0,(ks _ _ hbS).trans HL2.out.q1⟩
 have hle:=h.hS.le
 obtain ⟨r0,fz,_⟩:=h2.row hp
 have p0:(0:Int)≤(p:Int):=by omega
 have p1:(p:Int)<(rs.length:Int):=by omega
 have HOW:Hid (Only (fun g=>g=gS) w (w2.setCell ⟨gS,p,none⟩ (.slice (some ⟨g',0,none⟩) 64 c2))):=Lib.hid ((Only.of_below (F:=fun g=>g=gS) hb2).setCell (p:=⟨gS,p,none⟩) (.inl rfl) _)
 have HV1:=Lib.hid hV1
 have HV:=Lib.hid hV
 have HVS:=Lib.hid hVs
 clear h hr hA0 hA1 hA2 hrV hgr hrd hat hlt hb2 h2 hgood hset hsl hg' hVs hV1s hbV1 hbV2 HL0' hxS hbS ks hrun hV1 hV
 go_enter Tryz.func127,Tryz.ntmps127
 go_wp2_with fail
 rw [HV.out]
 refine wp_region_noPanic ?_
 refine wp_region_held_drew (S:=fun W=>LasS gx gS rs.length cS w.heap.size p a c W) (by kernel_rfl) (HL0.out) (fun hHeld=>?_)
 refine wpAnyH_take (i:=0) (oi:={ dst:=some 4,op:=Op.move (Operand.tmp 0),type:=24,pos:=_,after:=_,guard:=none }) (v:=?_) rfl (by kernel_rfl) (by kernel_rfl) (by kernel_rfl) (fun _ _ _ h=>h) (Or.inl ⟨by rfl,?_⟩) hHeld ?_
 rotate_left 1
 ·(intro W hW;(try dsimp only at hW);go_simp;try with_reducible rfl)
 try simp only [Act.put,List.setIfInBounds_toArray,List.set_cons_zero,List.set_cons_succ]
 refine wpAnyH_take (i:=1) (oi:={ dst:=some 5,op:=Op.nilCheck (Operand.tmp 4),type:=0,pos:=_,after:=_,guard:=none }) (v:=?_) rfl (by kernel_rfl) (by kernel_rfl) (by kernel_rfl) (fun _ _ _ h=>h) (Or.inl ⟨by rfl,?_⟩) hHeld ?_
 rotate_left 1
 ·(intro W hW;(try dsimp only at hW);go_simp;try with_reducible rfl)
 try simp only [Act.put,List.setIfInBounds_toArray,List.set_cons_zero,List.set_cons_succ]
 refine wpAnyH_take (i:=2) (oi:={ dst:=some 6,op:=Op.fieldAddr 114 (Operand.tmp 5) 0,type:=0,pos:=_,after:=_,guard:=none }) (v:=?_) rfl (by kernel_rfl) (by kernel_rfl) (by kernel_rfl) (fun _ _ _ h=>h) (Or.inl ⟨by rfl,?_⟩) hHeld ?_
 rotate_left 1
 ·(intro W hW;(try dsimp only at hW);go_simp;try with_reducible rfl)
 try simp only [Act.put,List.setIfInBounds_toArray,List.set_cons_zero,List.set_cons_succ]
 refine wpAnyH_take (i:=3) (oi:={ dst:=some 7,op:=Op.load 112 (Operand.tmp 6),type:=112,pos:=_,after:=_,guard:=none }) (v:=?_) rfl (by kernel_rfl) (by kernel_rfl) (by kernel_rfl) (fun _ _ _ h=>h) (Or.inl ⟨by rfl,?_⟩) hHeld ?_
 rotate_left 1
 ·(intro W hW;have hk:=LasS.c0 hW;(try dsimp only at hW);go_simp;try with_reducible rfl)
 try simp only [Act.put,List.setIfInBounds_toArray,List.set_cons_zero,List.set_cons_succ]
 refine wpAnyH_take (i:=4) (oi:={ dst:=some 8,op:=Op.fieldAddr 132 (Operand.tmp 3) 0,type:=0,pos:=_,after:=_,guard:=none }) (v:=?_) rfl (by kernel_rfl) (by kernel_rfl) (by kernel_rfl) (fun _ _ _ h=>h) (Or.inl ⟨by rfl,?_⟩) hHeld ?_
 rotate_left 1
 ·(intro W hW;(try dsimp only at hW);go_simp;try with_reducible rfl)
 try simp only [Act.put,List.setIfInBounds_toArray,List.set_cons_zero,List.set_cons_succ]
 refine wpAnyH_take (i:=5) (oi:={ dst:=some 9,op:=Op.load 3 (Operand.tmp 8),type:=3,pos:=_,after:=_,guard:=none }) (v:=?_) rfl (by kernel_rfl) (by kernel_rfl) (by kernel_rfl) (fun _ _ _ h=>h) (Or.inl ⟨by rfl,?_⟩) hHeld ?_
 rotate_left 1
 ·(intro W hW;have hk:=LasS.q0 hW;(try dsimp only at hW);go_simp;try with_reducible rfl)
 try simp only [Act.put,List.setIfInBounds_toArray,List.set_cons_zero,List.set_cons_succ]
 refine wpAnyH_take (i:=7) (oi:={ dst:=some 11,op:=Op.fieldAddr 132 (Operand.tmp 3) 1,type:=0,pos:=_,after:=_,guard:=none }) (v:=?_) rfl (by kernel_rfl) (by kernel_rfl) (by kernel_rfl) (fun _ _ _ h=>h) (Or.inl ⟨by rfl,?_⟩) hHeld ?_
 rotate_left 1
 ·(intro W hW;(try dsimp only at hW);go_simp;try with_reducible rfl)
 try simp only [Act.put,List.setIfInBounds_toArray,List.set_cons_zero,List.set_cons_succ]
 refine wpAnyH_take (i:=8) (oi:={ dst:=some 12,op:=Op.load 44 (Operand.tmp 11),type:=44,pos:=_,after:=_,guard:=none }) (v:=?_) rfl (by kernel_rfl) (by kernel_rfl) (by kernel_rfl) (fun _ _ _ h=>h) (Or.inl ⟨by rfl,?_⟩) hHeld ?_
 rotate_left 1
 ·(intro W hW;have hk:=LasS.q1 hW;(try dsimp only at hW);go_simp;try with_reducible rfl)
 try simp only [Act.put,List.setIfInBounds_toArray,List.set_cons_zero,List.set_cons_succ]
 refine wpAnyH_ready (rs:=[6]) (by kernel_rfl) (by simp) ?_
 refine AllReadyH.cons (o:={ dst:=some 10,op:=Op.buildSlice 44 0 #[],type:=44,pos:=_,after:=_,guard:=none }) rfl (fun K hK=>?_) AllReadyH.nil
 go_simp
 rw [HV1.out]
 refine hK.out _ _ (HL1.out) (fun _=>?_)
 clear hK K hHeld
 try simp only [Act.put,List.setIfInBounds_toArray,List.set_cons_zero,List.set_cons_succ]
 have hHeld:(fun W=>LasS gx gS rs.length cS w.heap.size p a c W) V1:=HL1.out
 refine wpAnyH_ready (rs:=[9]) (by kernel_rfl) (by simp) ?_
 refine AllReadyH.cons (o:={ dst:=some 13,op:=Op.call { callee:=Callee.builtin Builtin.append,args:=#[Operand.tmp 10,Operand.tmp 12],argTypes:=#[44,44] },type:=44,pos:=_,after:=_,guard:=none }) rfl (fun K hK=>?_) AllReadyH.nil
 refine step_append_run rfl (.tmp 10) (.tmp 12) 44 rfl rfl _ _ rfl rfl _ _ HRUN.out ?_
 refine hK.out _ _ (HL2.out) (fun _=>?_)
 clear hK K hHeld
 try simp only [Act.put,List.setIfInBounds_toArray,List.set_cons_zero,List.set_cons_succ]
 have hHeld:(fun W=>LasS gx gS rs.length cS w.heap.size p a c W) w2:=HL2.out
 refine wpAnyH_take (i:=10) (oi:={ dst:=some 14,op:=Op.indexAddr 112 (Operand.tmp 7) (Operand.tmp 9),type:=0,pos:=_,after:=_,guard:=none }) (v:=?_) rfl (by kernel_rfl) (by kernel_rfl) (by kernel_rfl) (fun _ _ _ h=>h) (Or.inl ⟨by rfl,?_⟩) hHeld ?_
 rotate_left 1
 ·(intro W hW;(try dsimp only at hW);go_simp;try with_reducible rfl)
 try simp only [Act.put,List.setIfInBounds_toArray,List.set_cons_zero,List.set_cons_succ]
 refine wpAnyH_ready (rs:=[11]) (by kernel_rfl) (by simp) ?_
 refine AllReadyH.cons (o:={ dst:=none,op:=Op.store 44 (Operand.tmp 14) (Operand.tmp 13),type:=0,pos:=_,after:=_,guard:=none }) rfl (fun K hK=>?_) AllReadyH.nil
 go_simp
 refine hK.out _ _ (HL3.out) (fun _=>?_)
 clear hK K hHeld
 try simp only [Act.put,List.setIfInBounds_toArray,List.set_cons_zero,List.set_cons_succ]
 have hHeld:(fun W=>LasS gx gS rs.length cS w.heap.size p a c W) (w2.setCell ⟨gS,p,none⟩ (.slice (some ⟨g',0,none⟩) 64 c2)):=HL3.out
 refine wpAnyH_done (by kernel_rfl) ?_ _
 refine NoPanic.normal ?_
 go_wp2_with fail
 go_end0
 exact ⟨rfl,⟨_,HSET.out,fun g hg=>by
  obtain rfl:g'=g:=by simpa [blockOf] using hg
  exact HG'.out⟩,HOW.out⟩
end
end Go.Proofs.YtnedpkhehiijhaaGreat
namespace Go.Proofs.YtnedpkhehiijhaaGreat
open Go.RowKit
set_option linter.unusedVariables false
set_option linter.unusedSimpArgs false

section
variable {w w':World} {gx gS cS:Nat} {A:Option Addr} {cw:Nat} {K:Option Addr} {ck:Nat} {at_:Int} {kl:List Bool} {rs:List Rw} {ws:List (Nat×Rw)} {s s':Dk}
theorem RfAt.to (h:RfAt w gx gS cS A cw K ck at_ kl rs ws s) (e1:s'.lasts=s.lasts) (e2:s'.waits=s.waits) (e3:s'.ops=s.ops) (e4:s'.armed=s.armed) (e5:s'.at_=s.at_) (e6:s'.keep=s.keep) (e7:s'.down=s.down):RfAt w gx gS cS A cw K ck at_ kl rs ws s':=by
 obtain ⟨n,l,wt,o,a,t,k,d⟩:=s
 obtain ⟨n',l',wt',o',a',t',k',d'⟩:=s'
 simp only at e1 e2 e3 e4 e5 e6 e7
 subst e1 e2 e3 e4 e5 e6 e7
 exact ⟨h.hd,h.hS,h.hW,h.rd,h.wd,h.hk,h.eS,h.eW,h.ea,h.xs,h.ax,h.kx,h.n1,h.n2,h.wat⟩
theorem RfAt.one (h:RfAt w gx gS cS A cw K ck at_ kl rs ws s) (i:Nat) (v:Value)
  (hc:(rcells gS rs.length cS A ws.length cw s.ops at_ K kl.length ck s.armed s.down).setIfInBounds i v=rcells gS rs.length cS A ws.length cw s'.ops at_ K kl.length ck s'.armed s'.down)
  (e1:s'.lasts=s.lasts) (e2:s'.waits=s.waits) (ea:s'.armed=true→at_=s'.at_∧kl=s'.keep):RfAt (w.setCell ⟨gx,i,none⟩ v) gx gS cS A cw K ck at_ kl rs ws s' :=
 h.re (Nat.le_of_eq (setCell_size _ _ _).symm) (fun g hne _=>Below.heap_setCell w ⟨gx,i,none⟩ v g hne) (by have:=Holds.stored h.hd i v;rw [hc] at this;exact this) e1 e2 ea
theorem RfAt.blk (h:RfAt w gx gS cS A cw K ck at_ kl rs ws s) {F:Nat→Prop} (hF:∀ g,RfBlk gx gS A K rs ws g→F g):F gx∧F gS:=⟨hF _ (.inl rfl),hF _ (.inr (.inl rfl))⟩
end

theorem below_drewN (w:World) (n:Nat):Below w.heap.size w (w.drewN n):=⟨rfl,rfl,rfl,Nat.le_refl _,fun _ _=>rfl⟩
def RelCr (kp:Nat→Bool) (w:World) (gx gS cS:Nat) (A:Option Addr) (cw:Nat) (K:Option Addr) (ck:Nat) (at_:Int) (kl:List Bool) (ws:List (Nat×Rw)) (s:Dk) (F:Nat→Prop) (n m:Nat) (i:Value) (wr:World):Prop :=
 ∃ (k:Nat) (rs':List Rw),k≤m∧i = .int .i64 k∧rs'.length=n∧RfAt wr gx gS cS A cw K ck at_ kl rs' ws { s with lasts:=fallN kp s.waits s.lasts k }∧(∀ r∈rs',∀ g,blockOf r.a=some g→F g∨w.heap.size≤g)∧Only (fun g=>g=gx∨g=gS) w wr
/-- One more has lasted. -/
theorem RelCr.next {kp:Nat→Bool} {w V w':World} {gx gS cS:Nat} {A:Option Addr} {cw:Nat} {K:Option Addr} {ck:Nat} {at_:Int} {kl:List Bool} {ws:List (Nat×Rw)} {s:Dk} {F:Nat→Prop} {n k pa:Nat} {l:List Nat} {rs':List Rw} {r:Rw}
  (hlen:rs'.length=n) (hB:∀ r∈rs',∀ g,blockOf r.a=some g→F g∨w.heap.size≤g) (hO:Only (fun g=>g=gx∨g=gS) w V) (hqe:(pa,l)=s.waits.getD k default) (hkp:kp k=true)
  (hr:RfAt w' gx gS cS A cw K ck at_ kl (rs'.set pa r) ws { ({ s with lasts:=fallN kp s.waits s.lasts k }:Dk) with lasts:=(fallN kp s.waits s.lasts k).set pa l }) (hrb:∀ g,blockOf r.a=some g→V.heap.size≤g) (hO2:Only (fun g=>g=gS) V w') :
  (rs'.set pa r).length=n∧RfAt w' gx gS cS A cw K ck at_ kl (rs'.set pa r) ws { s with lasts:=fallN kp s.waits s.lasts (k+1) }∧(∀ r'∈rs'.set pa r,∀ g,blockOf r'.a=some g→F g∨w.heap.size≤g)∧Only (fun g=>g=gx∨g=gS) w w':=by
 refine ⟨by rw [List.length_set,hlen],?_,fun r' hr' g hg=>?_,hO.trans hO2 fun g _ e=>.inr e⟩
 ·rw [fallN,if_pos hkp,←hqe]
  exact hr
 ·rcases List.mem_or_eq_of_mem_set hr' with h1 | h1
  ·exact hB r' h1 g hg
  ·subst h1
   exact .inr (Nat.le_trans hO.size (hrb g hg))

section
variable (w:World) (gx gS cS:Nat) (A:Option Addr) (cw:Nat) (K:Option Addr) (ck:Nat) (at_:Int) (kl:List Bool) (rs:List Rw) (ws:List (Nat×Rw)) (s:Dk) (F:Nat→Prop)
set_option maxRecDepth 100000 in
set_option maxHeartbeats 1000000 in
theorem rcrash_no (h:RfAt w gx gS cS A cw K ck at_ kl rs ws s) (hdue:s.due=false) (hops:s.ops≤1000000000) :
  Calls Tryz.prog 126 #[.pointer (some ⟨gx,0,none⟩)] w fun e w'=>e = .returned (.bool false)∧RfAt w' gx gS cS A cw K ck at_ kl rs ws { s with ops:=s.ops+1 }∧Only (fun g=>g=gx) w w':=by
 have c2:w.cell? ⟨gx,2,none⟩=some (.int .i64 (s.ops:Int)):=h.cell 2
 have c3:w.cell? ⟨gx,3,none⟩=some (.int .i64 at_):=h.cell 3
 have c5:w.cell? ⟨gx,5,none⟩=some (.bool s.armed):=h.cell 5
 have f2:w.frozen? ⟨gx,2,none⟩=false:=h.hd.open_ 2
 have o1:(s.ops:Int)≤1000000000:=by omega
 have o0:(0:Int)≤(s.ops:Int):=by omega
 have HF:Hid (∀ q,RfAt ((w.drewN q).setCell ⟨gx,2,none⟩ (.int .i64 ((s.ops:Int)+1))) gx gS cS A cw K ck at_ kl rs ws { s with ops:=s.ops+1 }):=Lib.hid fun q=>(h.under (below_drewN w q)).one 2 _ rfl rfl rfl h.ea
 have HO:Hid (∀ q,Only (fun g=>g=gx) w ((w.drewN q).setCell ⟨gx,2,none⟩ (.int .i64 ((s.ops:Int)+1)))):=Lib.hid fun q=>((Only.refl (fun g=>g=gx) w).drewN q).setCell (F:=fun g=>g=gx) (p:=⟨gx,2,none⟩) (.inl rfl) _
 have hea:=h.ea
 obtain ⟨b,hb⟩:∃ b,b=s.armed:=⟨_,rfl⟩
 rw [←hb] at c5
 have ha:=hb.symm
 clear hb
 cases b
 case false =>
  clear h hea hdue ha
  go_enter Tryz.func126,Tryz.ntmps126
  go_wp2_with fail
  go_quiet (fail)
  go_wp2_with fail
  go_ret
  exact ⟨rfl,HF.out _,HO.out _⟩
 case true =>
  have hlt:decide ((s.ops:Int)<at_)=true:=by
   have h1:=(hea ha).1
   unfold Dk.due at hdue
   rw [ha] at hdue
   have h2:¬ s.at_≤(s.ops:Int):=by simpa using hdue
   exact decide_eq_true (by omega)
  clear h hea hdue ha
  go_enter Tryz.func126,Tryz.ntmps126
  go_wp2_with fail
  go_big_quiet (fail)
  go_wp2_with fail
  go_ret
  exact ⟨rfl,HF.out _,HO.out _⟩
set_option maxRecDepth 100000 in
set_option maxHeartbeats 4000000 in
theorem rcrash_yes (h:RfAt w gx gS cS A cw K ck at_ kl rs ws s) (hF:∀ g,RfBlk gx gS A K rs ws g→F g) (hdue:s.due=true) (hops:s.ops≤1000000000) (hwl:s.waits.length≤100000) :
  Calls Tryz.prog 126 #[.pointer (some ⟨gx,0,none⟩)] w fun e w'=>e = .returned (.bool true)∧(∃ rs',RfAt w' gx gS cS none 0 K ck at_ kl rs' [] s.fall∧∀ g,RfBlk gx gS none K rs' [] g→F g∨w.heap.size≤g)∧Only F w w':=by
 have c2:w.cell? ⟨gx,2,none⟩=some (.int .i64 (s.ops:Int)):=h.cell 2
 have c3:w.cell? ⟨gx,3,none⟩=some (.int .i64 at_):=h.cell 3
 have c5:w.cell? ⟨gx,5,none⟩=some (.bool s.armed):=h.cell 5
 have ha:s.armed=true:=by unfold Dk.due at hdue;revert hdue;cases s.armed <;> simp
 obtain ⟨ea1,ea2⟩:=h.ea ha
 have hlt:decide ((s.ops:Int)<at_)=false:=by
  unfold Dk.due at hdue
  rw [ha] at hdue
  have h2:s.at_≤(s.ops:Int):=by simpa using hdue
  exact decide_eq_false (by omega)
 have hlw:s.waits.length=ws.length:=by rw [←h.eW,List.length_map]
 have HLW:=Lib.hid hlw
 have HEA:=Lib.hid ea2
 have HFB:=Lib.hid hF
 have HH:=Lib.hid h
 rw [ha] at c5
 have hm1:ws.length≤100000:=by omega
 clear h ha ea1 ea2 hdue hwl hops hlw hF
 go_enter Tryz.func126,Tryz.ntmps126
 go_wp2_with fail
 go_big_quiet (fail)
 go_wp2_with fail
 go_loopw [3] (fun i wr=>RelCr (fun j=>kl.getD j false) w gx gS cS A cw K ck at_ kl ws s F rs.length ws.length i wr) (fun i _=>ws.length - (intOf i).toNat)
 case atStart=>exact ⟨0,rs,Nat.zero_le _,rfl,rfl,HH.out.under (below_drewN w _),fun r hr g hg=>.inl (HFB.out g (.inr (.inr (.inr (.inr (.inl ⟨r,hr,hg⟩)))))),(Only.refl _ w).drewN _⟩
 case round =>
  obtain ⟨k,rs',hk,rfl,hlen,hrf,hB,hO⟩:=hrel
  obtain ⟨V,hV⟩:∃ V,V=wr:=⟨_,rfl⟩
  subst hV
  clear c2 c3 c5
  have c1:V.cell? ⟨gx,1,none⟩=some (.slice A ws.length cw):=hrf.cell 1
  have c4:V.cell? ⟨gx,4,none⟩=some (.slice K kl.length ck):=hrf.cell 4
  have HR:=Lib.hid hrf
  have HLN:=Lib.hid hlen
  have HB:=Lib.hid hB
  have HO:=Lib.hid hO
  have hle:=hrf.hW.le
  have hke:kl.length≤ck:=hrf.hk.1
  have hke2:ck≤9223372036854775807:=hrf.hk.2.1
  clear hrf hlen hB hO
  by_cases hkn:k<ws.length
  case pos =>
   have hkI:(k:Int)<(ws.length:Int):=by omega
   have hk0:(0:Int)≤(k:Int):=by omega
   obtain ⟨gA,rfl,q0,q1,qr,qe,ql,qlt⟩:=HR.out.wait hkn
   have HQR:=Lib.hid qr
   have HQL:=Lib.hid ql
   have HQE:=Lib.hid qe
   have HQT:=Lib.hid qlt
   clear qr ql qe qlt
   generalize ws.getD k default=p at *
   obtain ⟨pa,pr⟩:=p
   by_cases hkk:k<kl.length
   case pos =>
    obtain ⟨b,off,rfl,hb,hbc⟩:=HR.out.hk.2.2 (by omega)
    have hcell:=hbc k hkk
    have hkkI:(k:Int)<(kl.length:Int):=by omega
    have HKV:Hid (∀ b:Bool,kl.getD k false=b→(fun j=>kl.getD j false) k=b):=Lib.hid fun b e=>e
    have hkv:=HKV.out _ rfl
    have hfn:fallN (fun j=>kl.getD j false) s.waits s.lasts (k+1)=if kl.getD k false=true then (fallN (fun j=>kl.getD j false) s.waits s.lasts k).set (s.waits.getD k default).1 (s.waits.getD k default).2 else fallN (fun j=>kl.getD j false) s.waits s.lasts k:=rfl
    clear hbc HKV hb
    obtain ⟨bk,hbk⟩:∃ bk,bk=kl.getD k false:=⟨_,rfl⟩
    rw [←hbk] at hcell hkv hfn
    have HBK:=Lib.hid hkv
    have HFN:=Lib.hid hfn
    clear hbk hkv hfn
    cases bk
    case true =>
     go_wp2_with fail
     refine (lasts_any V gx gS cS _ cw _ ck at_ kl rs' ws _ HR.out pa (by have:=HQT.out;omega) pr.a pr.c pr.l HQR.out HQL.out).mono ?_
     rintro e w2 ⟨rfl,⟨r,hr2,hrb⟩,hO2⟩
     have HN:=Lib.hid (RelCr.next HLN.out HB.out HO.out HQE.out HBK.out hr2 hrb hO2)
     clear hr2 hrb hO2
     go_wp2_with fail
     go_roundw
     case rel=>exact ⟨k+1,_,by omega,by go_num,HN.out.1,HN.out.2.1,HN.out.2.2.1,HN.out.2.2.2⟩
     case measure=>simp [intOf];omega
    case false =>
     go_wp2_with fail
     go_roundw
     case rel=>exact ⟨k+1,rs',by omega,by go_num,HLN.out,by rw [HFN.out,if_neg (by decide)];exact HR.out,HB.out,HO.out⟩
     case measure=>simp [intOf];omega
   case neg =>
    have hkkB:decide ((k:Int)<(kl.length:Int))=false:=decide_eq_false (by omega)
    have hfn:fallN (fun j=>kl.getD j false) s.waits s.lasts (k+1)=fallN (fun j=>kl.getD j false) s.waits s.lasts k:=by
     rw [fallN,if_neg]
     rw [show kl.getD k false=false by rw [List.getD,List.getElem?_eq_none (by omega)];rfl]
     decide
    have HFN:=Lib.hid hfn
    clear hfn
    go_wp2_with fail
    go_roundw
    case rel=>exact ⟨k+1,rs',by omega,by go_num,HLN.out,by rw [HFN.out];exact HR.out,HB.out,HO.out⟩
    case measure=>simp [intOf];omega
  case neg =>
   obtain rfl:k=ws.length:=by omega
   have hkI:¬ ((ws.length:Int)<(ws.length:Int)):=by omega
   have hcl:=HR.out.cleared
   have f1:V.frozen? ⟨gx,1,none⟩=false:=HR.out.hd.open_ 1
   have f6:(V.setCell ⟨gx,1,none⟩ (.slice none 0 0)).frozen? ⟨gx,6,none⟩=false:=hcl.hd.open_ 6
   have c6:V.cell? ⟨gx,6,none⟩=some (.bool s.down):=HR.out.cell 6
   have c6':(V.setCell ⟨gx,1,none⟩ (.slice none 0 0)).cell? ⟨gx,6,none⟩=some (.bool s.down):=hcl.cell 6
   have hfi:=RfAt.one (s':=s.fall) hcl 6 (.bool true) rfl (by show s.kept=fallN _ _ _ _;unfold Dk.kept;rw [HLW.out,HEA.out]) rfl (fun ea=>HR.out.ea ea)
   have HFI:=Lib.hid hfi
   have HO6:Hid (Only F w ((V.setCell ⟨gx,1,none⟩ (.slice none 0 0)).setCell ⟨gx,6,none⟩ (.bool true))):=Lib.hid (((HO.out.more (F:=F) fun g _ e=>by
    rcases e with rfl | rfl
    ·exact HFB.out _ (.inl rfl)
    ·exact HFB.out _ (.inr (.inl rfl))).setCell (p:=⟨gx,1,none⟩) (.inl (HFB.out _ (.inl rfl))) _).setCell (p:=⟨gx,6,none⟩) (.inl (HFB.out _ (.inl rfl))) _)
   clear hcl hfi
   go_wp2_with fail
   trace_state
   go_ret
   refine ⟨rfl,⟨rs',HFI.out,fun g hg=>?_⟩,HO6.out⟩
   rcases hg with rfl | rfl | hg | hg | ⟨r,hr,hg⟩ | ⟨p,hp,hg⟩
   ·exact .inl (HFB.out _ (.inl rfl))
   ·exact .inl (HFB.out _ (.inr (.inl rfl)))
   ·simp [blockOf] at hg
   ·exact .inl (HFB.out _ (.inr (.inr (.inr (.inl hg)))))
   ·exact HB.out r hr g hg
   ·cases hp
end
end Go.Proofs.YtnedpkhehiijhaaGreat
namespace Go.Proofs.YtnedpkhehiijhaaGreat
open Go.RowKit
set_option linter.unusedVariables false
set_option linter.unusedSimpArgs false
attribute [local go_sem ↓] Go.wp_at_zero Go.wp_at_succ

theorem info_write:(Tryz.prog.info? 132).map (fun i=>(i.zero,i.size,i.bytes))=some (some (.agg #[.int .i64 0,.slice none 0 0]),2,32):=by kernel_rfl
/-- An append of one element at a step of a region that draws its order. -/
theorem step_pushV {P:Program} (w:World) {ops:Array Oper} {o:Oper} {a:Act} {K:Act→World→Prop} {Q:Exit→Act→World→Prop} {E:Prop} (hgd:o.guard=none) (s x:Operand) (t:TypeId)
  (ho:o.op = .call { callee:=.builtin .append,args:=#[s,x],argTypes:=#[t,t] }) (e:TypeId) (z:Value) (sz by_:Nat) (ht:P.underlying t=some (.slice e)) (hi:(P.info? e).map (fun i=>(i.zero,i.size,i.bytes))=some (some z,sz,by_)) (hz:z.cells.size=sz) (hsz0:0<sz) (hby:by_≤100)
  {A:Option Addr} {n c:Nat} {vs:List Value} (hs:a.eval s = .slice A n c) (hw:OwnV e sz w A c n vs)
  {g c2:Nat} {cs:List Value} (hx:a.eval x = .slice (some ⟨g,0,none⟩) 1 c2) (hl:cs.length=sz) (h1:∀ u∈cs,u.oneCell'=true) (hg:Holds w g e cs.toArray) (hn:n≤100000)
  (hK:∀ g' c' w',OwnV e sz w' (some ⟨g',0,none⟩) c' (n+1) (vs ++ cs)→w.grownBy w' (blockOf A)→(blockOf A=some g'∨g'=w.heap.size)→g' < w'.heap.size→K (a.put o.dst (.slice (some ⟨g',0,none⟩) (n+1) c')) w') :
  if Region.wanted o (yielded ops a.tmps)=true then Oper.wp P o a w K Q else E:=by
 obtain ⟨i,hi',hz',hsize,hbytes⟩:=info_parts hi
 refine step_append_lies w hgd s x t ho 0 e i z sz by_ ht hi' hz' hsize hbytes hz hsz0 (.slice A n c) n vs hs hw ⟨g,0,none⟩ 1 c2 cs hx (by omega)
  (fun j u hu=>World.news_of_block (cs:=cs.toArray) hg j u (by simpa using hu)) h1 (by omega) (by unfold maxLen;omega) (Nat.le_trans (Nat.mul_le_mul (show n+1≤100001 by omega) hby) (by omega)) (Nat.zero_le _) w.heap.size rfl ?_
 intro g' cap w' hown' hgr hat hlt
 rw [ownBlock_eq] at hgr hat
 exact hK g' cap w' hown' hgr hat hlt

set_option maxRecDepth 100000 in
set_option maxHeartbeats 2000000 in
/-- The write itself. -/
theorem rwrite_ok (w0:World) (gx gS cS:Nat) (A:Option Addr) (cw:Nat) (K:Option Addr) (ck:Nat) (at_:Int) (kl:List Bool) (rs:List Rw) (ws:List (Nat×Rw)) (s:Dk) (h0:RfAt w0 gx gS cS A cw K ck at_ kl rs ws s) (hdn:s.down=false) (hdue:s.due=false) (i:Nat) (hi:i<rs.length) (A2:Option Addr) (c2':Nat) (x:List Nat) (hx:x.length=64) (hr:Rd .u8 w0 w0.heap.size A2 c2' x)
  (hwl:ws.length≤100000) (hops:s.ops≤1000000000) (hA2:∀ g,blockOf A2=some g→g≠gx) :
  Calls Tryz.prog 116 #[.pointer (some ⟨gx,0,none⟩),.int .i64 i,.slice A2 64 c2'] w0 fun e w'=>e = .returned (.int .i64 0) ∧
   (∃ A' cw' ws',RfAt w' gx gS cS A' cw' K ck at_ kl rs ws' { s with waits:=s.waits ++ [(i,x)],ops:=s.ops+1 }∧∀ g,RfBlk gx gS A' K rs ws' g→RfBlk gx gS A K rs ws g∨w0.heap.size≤g)∧Only (fun g=>g=gx∨blockOf A=some g) w0 w':=by
 have c0:w0.cell? ⟨gx,0,none⟩=some (.slice (some ⟨gS,0,none⟩) rs.length cS):=h0.cell 0
 have c6:w0.cell? ⟨gx,6,none⟩=some (.bool s.down):=h0.cell 6
 rw [hdn] at c6
 have d0:decide ((i:Int)<0)=false:=decide_eq_false (by omega)
 have d1:decide ((rs.length:Int)≤(i:Int))=false:=decide_eq_false (by omega)
 have d1n:decide (rs.length≤i)=false:=decide_eq_false (by omega)
 have HC:=Lib.hid (rcrash_no w0 gx gS cS A cw K ck at_ kl rs ws s h0 hdue hops)
 have HRD:=Lib.hid hr
 have HX:=Lib.hid hx
 have HI:=Lib.hid hi
 have HA2:=Lib.hid hA2
 clear h0 hr hdn hdue hx hops hi hA2
 go_enter Tryz.func116,Tryz.ntmps116
 go_wp2_with fail
 refine HC.out.mono ?_
 rintro e w ⟨rfl,h1,ho1⟩
 have hrw:=HRD.out.keepB ho1.size fun g hg hlt=>ho1.block g hlt (HA2.out g hg)
 have hV1b:Below w.heap.size w (w.alloc (.cells #[] 5)).drew:=((Below.refl _ w).alloc (Nat.le_refl _) _).drew
 have hrV:=(hrw.under hV1b).more hV1b.size
 obtain ⟨V1,hV1⟩:∃ V1,(w.alloc (.cells #[] 5)).drew=V1:=⟨_,rfl⟩
 have hV1s:V1.heap.size=w.heap.size+1:=by rw [←hV1];simp
 obtain ⟨g',c2,w2,hrun,hgr,hrd,hat,hlt⟩:=run_sector (w.alloc (.cells #[] 5)).drew 64 hrV HX.out (by omega) (by omega) w.heap.size (heap_alloc_new w _) 44
 rw [hV1] at hV1b hrun hgr hat
 have hb2:Below w.heap.size w w2:=hV1b.trans (one_below hgr (Nat.le_refl _) hV1b.size)
 have hg':w.heap.size≤g':=by omega
 have hws:wslot (i,⟨some ⟨g',0,none⟩,c2,x⟩)=[.int .i64 (i:Int),.slice (some ⟨g',0,none⟩) 64 c2]:=by simp [wslot,rslot,HX.out]
 obtain ⟨V3,hV3⟩:∃ V3,w2.alloc (.cells #[.int .i64 (i:Int),.slice (some ⟨g',0,none⟩) 64 c2] 132)=V3:=⟨_,rfl⟩
 have hb23:Below w2.heap.size w2 V3:=by rw [←hV3];exact (Below.refl _ w2).alloc (Nat.le_refl _) _
 have hb3:Below w.heap.size w V3:=hb2.trans (hb23.mono hb2.size)
 have hR3:=h1.under hb3
 have hgood:Good V3 gx gS A ⟨some ⟨g',0,none⟩,c2,x⟩:=⟨(hrd.under hb23).more hb23.size,HX.out,fun g hg=>by
  obtain rfl:g'=g:=by simpa [blockOf] using hg
  refine ⟨fun e=>?_,fun e=>?_,fun e=>?_⟩
  ·have:=h1.lt (g:=g') (.inl e);omega
  ·have:=h1.lt (g:=g') (.inr (.inl e));omega
  ·have:=h1.lt (g:=g') (.inr (.inr (.inl e)));omega⟩
 have hh3:Holds V3 w2.heap.size 132 (wslot (i,⟨some ⟨g',0,none⟩,c2,x⟩)).toArray:=by rw [hws,←hV3];exact Holds.fresh _ _ _
 have c1:w.cell? ⟨gx,1,none⟩=some (.slice A ws.length cw):=h1.cell 1
 have c1a:V1.cell? ⟨gx,1,none⟩=some (.slice A ws.length cw):=(h1.under hV1b).cell 1
 have c1b:w2.cell? ⟨gx,1,none⟩=some (.slice A ws.length cw):=(h1.under hb2).cell 1
 have c1c:V3.cell? ⟨gx,1,none⟩=some (.slice A ws.length cw):=hR3.cell 1
 have HOV3:Hid (Only (fun g=>g=gx∨blockOf A=some g) w0 V3):=Lib.hid ((ho1.more (F:=fun g=>g=gx∨blockOf A=some g) fun g _ e=>.inl e).trans (Only.of_below (F:=fun _=>False) hb3) fun k _ e=>e.elim)
 have HS3:Hid (w0.heap.size≤V3.heap.size):=Lib.hid (Nat.le_trans ho1.size hb3.size)
 have HG':Hid (w0.heap.size≤g'):=Lib.hid (Nat.le_trans ho1.size hg')
 have HR3:=Lib.hid hR3
 have HGD:=Lib.hid hgood
 have HH3:=Lib.hid hh3
 have HV1:=Lib.hid hV1
 have HV3:=Lib.hid hV3
 have HRUN:=Lib.hid hrun
 have HWL:Hid ((wslot (i,⟨some ⟨g',0,none⟩,c2,x⟩)).length=2):=Lib.hid rfl
 have HW1:Hid (∀ u∈wslot (i,⟨some ⟨g',0,none⟩,c2,x⟩),u.oneCell'=true):=Lib.hid (by rw [hws];intro u hu;simp at hu;rcases hu with rfl | rfl <;> rfl)
 have HP:Hid (i<rs.length):=HI
 have HWN:=Lib.hid hwl
 clear h1 ho1 hrw hV1b hrV hV1s hgr hrd hat hlt hb2 hg' hws hb23 hb3 hR3 hgood hh3 hV1 hV3 hrun HC HRD c0 c6
 go_wp2_with fail
 refine wp_region_noPanic ?_
 refine wp_region_held_drew (S:=fun _=>True) (by kernel_rfl) trivial (fun hHeld=>?_)
 refine wpAnyH_take (i:=0) (oi:={ dst:=some 32,op:=Op.move (Operand.tmp 0),type:=24,pos:=_,after:=_,guard:=none }) (v:=?_) rfl (by kernel_rfl) (by kernel_rfl) (by kernel_rfl) (fun _ _ _ h=>h) (Or.inl ⟨by rfl,?_⟩) hHeld ?_
 rotate_left 1
 ·(intro W hW;(try dsimp only at hW);go_simp;try with_reducible rfl)
 try simp only [Act.put,List.setIfInBounds_toArray,List.set_cons_zero,List.set_cons_succ]
 refine wpAnyH_take (i:=1) (oi:={ dst:=some 33,op:=Op.move (Operand.tmp 0),type:=24,pos:=_,after:=_,guard:=none }) (v:=?_) rfl (by kernel_rfl) (by kernel_rfl) (by kernel_rfl) (fun _ _ _ h=>h) (Or.inl ⟨by rfl,?_⟩) hHeld ?_
 rotate_left 1
 ·(intro W hW;(try dsimp only at hW);go_simp;try with_reducible rfl)
 try simp only [Act.put,List.setIfInBounds_toArray,List.set_cons_zero,List.set_cons_succ]
 refine wpAnyH_take (i:=2) (oi:={ dst:=some 34,op:=Op.nilCheck (Operand.tmp 33),type:=0,pos:=_,after:=_,guard:=none }) (v:=?_) rfl (by kernel_rfl) (by kernel_rfl) (by kernel_rfl) (fun _ _ _ h=>h) (Or.inl ⟨by rfl,?_⟩) hHeld ?_
 rotate_left 1
 ·(intro W hW;(try dsimp only at hW);go_simp;try with_reducible rfl)
 try simp only [Act.put,List.setIfInBounds_toArray,List.set_cons_zero,List.set_cons_succ]
 refine wpAnyH_take (i:=3) (oi:={ dst:=some 35,op:=Op.fieldAddr 114 (Operand.tmp 34) 1,type:=0,pos:=_,after:=_,guard:=none }) (v:=?_) rfl (by kernel_rfl) (by kernel_rfl) (by kernel_rfl) (fun _ _ _ h=>h) (Or.inl ⟨by rfl,?_⟩) hHeld ?_
 rotate_left 1
 ·(intro W hW;(try dsimp only at hW);go_simp;try with_reducible rfl)
 try simp only [Act.put,List.setIfInBounds_toArray,List.set_cons_zero,List.set_cons_succ]
 refine wpAnyH_take (i:=5) (oi:={ dst:=some 37,op:=Op.move (Operand.tmp 1),type:=3,pos:=_,after:=_,guard:=none }) (v:=?_) rfl (by kernel_rfl) (by kernel_rfl) (by kernel_rfl) (fun _ _ _ h=>h) (Or.inl ⟨by rfl,?_⟩) hHeld ?_
 rotate_left 1
 ·(intro W hW;(try dsimp only at hW);go_simp;try with_reducible rfl)
 try simp only [Act.put,List.setIfInBounds_toArray,List.set_cons_zero,List.set_cons_succ]
 refine wpAnyH_take (i:=7) (oi:={ dst:=some 39,op:=Op.move (Operand.tmp 2),type:=44,pos:=_,after:=_,guard:=none }) (v:=?_) rfl (by kernel_rfl) (by kernel_rfl) (by kernel_rfl) (fun _ _ _ h=>h) (Or.inl ⟨by rfl,?_⟩) hHeld ?_
 rotate_left 1
 ·(intro W hW;(try dsimp only at hW);go_simp;try with_reducible rfl)
 try simp only [Act.put,List.setIfInBounds_toArray,List.set_cons_zero,List.set_cons_succ]
 refine wpAnyH_ready (rs:=[4,6]) (by kernel_rfl) (by simp) ?_
 refine AllReadyH.cons (o:={ dst:=some 36,op:=Op.load 97 (Operand.tmp 35),type:=97,pos:=_,after:=_,guard:=none }) rfl (fun K hK=>?_) ?_
 ·go_simp
  refine hK.out _ _ trivial (fun hHeld=>?_)
  clear hK K
  try simp only [Act.put,List.setIfInBounds_toArray,List.set_cons_zero,List.set_cons_succ]
  refine wpAnyH_ready (rs:=[6]) (by kernel_rfl) (by simp) ?_
  refine AllReadyH.cons (o:={ dst:=some 38,op:=Op.buildSlice 44 0 #[],type:=44,pos:=_,after:=_,guard:=none }) rfl (fun K hK=>?_) AllReadyH.nil
  go_simp
  rw [HV1.out]
  refine hK.out _ _ trivial (fun hHeld=>?_)
  clear hK K
  try simp only [Act.put,List.setIfInBounds_toArray,List.set_cons_zero,List.set_cons_succ]
  refine wpAnyH_ready (rs:=[8]) (by kernel_rfl) (by simp) ?_
  refine AllReadyH.cons (o:={ dst:=some 40,op:=Op.call { callee:=Callee.builtin Builtin.append,args:=#[Operand.tmp 38,Operand.tmp 39],argTypes:=#[44,44] },type:=44,pos:=_,after:=_,guard:=none }) rfl (fun K hK=>?_) AllReadyH.nil
  refine step_append_run rfl (.tmp 38) (.tmp 39) 44 rfl rfl _ _ rfl rfl _ _ HRUN.out ?_
  refine hK.out _ _ trivial (fun hHeld=>?_)
  clear hK K
  try simp only [Act.put,List.setIfInBounds_toArray,List.set_cons_zero,List.set_cons_succ]
  refine wpAnyH_take (i:=9) (oi:={ dst:=some 41,op:=Op.build 132 #[(0,Operand.tmp 37),(1,Operand.tmp 40)],type:=132,pos:=_,after:=_,guard:=none }) (v:=?_) rfl (by kernel_rfl) (by kernel_rfl) (by kernel_rfl) (fun _ _ _ h=>h) (Or.inl ⟨by rfl,?_⟩) hHeld ?_
  rotate_left 1
  ·(intro W hW;(try dsimp only at hW);go_simp;try with_reducible rfl)
  try simp only [Act.put,List.setIfInBounds_toArray,List.set_cons_zero,List.set_cons_succ]
  refine wpAnyH_ready (rs:=[10]) (by kernel_rfl) (by simp) ?_
  refine AllReadyH.cons (o:={ dst:=some 42,op:=Op.buildSlice 97 1 #[(0,Operand.tmp 41)],type:=97,pos:=_,after:=_,guard:=none }) rfl (fun K hK=>?_) AllReadyH.nil
  go_simp
  rw [HV3.out]
  refine hK.out _ _ trivial (fun hHeld=>?_)
  clear hK K
  try simp only [Act.put,List.setIfInBounds_toArray,List.set_cons_zero,List.set_cons_succ]
  refine wpAnyH_ready (rs:=[11]) (by kernel_rfl) (by simp) ?_
  refine AllReadyH.cons (o:={ dst:=some 43,op:=Op.call { callee:=Callee.builtin Builtin.append,args:=#[Operand.tmp 36,Operand.tmp 42],argTypes:=#[97,97] },type:=97,pos:=_,after:=_,guard:=none }) rfl (fun K hK=>?_) AllReadyH.nil
  refine step_pushV _ rfl (.tmp 36) (.tmp 42) 97 rfl 132 (.agg #[.int .i64 0,.slice none 0 0]) 2 32 Tryz.underlying97 info_write rfl (by omega) (by omega) rfl HR3.out.hW rfl HWL.out HW1.out HH3.out HWN.out ?_
  intro g5 c5 W3 hw3 hgr3 hat3 hlt3
  obtain ⟨hh4,hr4⟩:=HR3.out.pushed (p:=(i,⟨some ⟨g',0,none⟩,c2,x⟩)) HP.out HGD.out hw3 hgr3 hat3
  have q4:W3.cell? ⟨gx,1,none⟩=some (.slice A ws.length cw):=hh4.cell 1
  have f4:W3.frozen? ⟨gx,1,none⟩=false:=hh4.open_ 1
  have HFI:=Lib.hid hr4
  have HHA:Hid (blockOf A=some g5∨w0.heap.size≤g5):=Lib.hid (hat3.elim .inl fun e=>.inr (by have:=HS3.out;omega))
  have HO5:Hid (Only (fun g=>g=gx∨blockOf A=some g) w0 (W3.setCell ⟨gx,1,none⟩ (.slice (some ⟨g5,0,none⟩) (ws.length+1) c5))):=Lib.hid ((HOV3.out.grown hgr3 (fun g e=>.inl (.inr e))).setCell (p:=⟨gx,1,none⟩) (.inl (.inl rfl)) _)
  clear hw3 hgr3 hat3 hlt3 hh4 hr4
  refine hK.out _ _ trivial (fun hHeld=>?_)
  clear hK K
  try simp only [Act.put,List.setIfInBounds_toArray,List.set_cons_zero,List.set_cons_succ]
  refine wpAnyH_take (i:=12) (oi:={ dst:=some 44,op:=Op.nilCheck (Operand.tmp 32),type:=0,pos:=_,after:=_,guard:=none }) (v:=?_) rfl (by kernel_rfl) (by kernel_rfl) (by kernel_rfl) (fun _ _ _ h=>h) (Or.inl ⟨by rfl,?_⟩) hHeld ?_
  rotate_left 1
  ·(intro W hW;(try dsimp only at hW);go_simp;try with_reducible rfl)
  try simp only [Act.put,List.setIfInBounds_toArray,List.set_cons_zero,List.set_cons_succ]
  refine wpAnyH_take (i:=13) (oi:={ dst:=some 45,op:=Op.fieldAddr 114 (Operand.tmp 44) 1,type:=0,pos:=_,after:=_,guard:=none }) (v:=?_) rfl (by kernel_rfl) (by kernel_rfl) (by kernel_rfl) (fun _ _ _ h=>h) (Or.inl ⟨by rfl,?_⟩) hHeld ?_
  rotate_left 1
  ·(intro W hW;(try dsimp only at hW);go_simp;try with_reducible rfl)
  try simp only [Act.put,List.setIfInBounds_toArray,List.set_cons_zero,List.set_cons_succ]
  refine wpAnyH_ready (rs:=[14]) (by kernel_rfl) (by simp) ?_
  refine AllReadyH.cons (o:={ dst:=none,op:=Op.store 97 (Operand.tmp 45) (Operand.tmp 43),type:=0,pos:=_,after:=_,guard:=none }) rfl (fun K hK=>?_) AllReadyH.nil
  go_simp
  refine hK.out _ _ trivial (fun hHeld=>?_)
  clear hK K
  try simp only [Act.put,List.setIfInBounds_toArray,List.set_cons_zero,List.set_cons_succ]
  refine wpAnyH_done (by kernel_rfl) ?_ _
  refine NoPanic.normal ?_
  clear HR3 HH3 HV1 HV3 HRUN
  go_wp2_with fail
  go_ret
  exact ⟨rfl,⟨_,_,_,HFI.out,fun g hg=>by
   rcases hg with rfl | rfl | hg | hg | ⟨r,hr,hg⟩ | ⟨p,hp,hg⟩
   ·exact .inl (.inl rfl)
   ·exact .inl (.inr (.inl rfl))
   ·obtain rfl:g5=g:=by simpa [blockOf] using hg
    exact HHA.out.elim (fun e=>.inl (.inr (.inr (.inl e)))) .inr
   ·exact .inl (.inr (.inr (.inr (.inl hg))))
   ·exact .inl (.inr (.inr (.inr (.inr (.inl ⟨r,hr,hg⟩)))))
   ·rcases List.mem_append.1 hp with h1 | h1
    ·exact .inl (.inr (.inr (.inr (.inr (.inr ⟨p,h1,hg⟩)))))
    ·obtain rfl:=List.mem_singleton.1 h1
     obtain rfl:g'=g:=by simpa [blockOf] using hg
     exact .inr HG'.out⟩,HO5.out⟩
 refine AllReadyH.cons (o:={ dst:=some 38,op:=Op.buildSlice 44 0 #[],type:=44,pos:=_,after:=_,guard:=none }) rfl (fun K hK=>?_) AllReadyH.nil
 go_simp
 rw [HV1.out]
 refine hK.out _ _ trivial (fun hHeld=>?_)
 clear hK K
 try simp only [Act.put,List.setIfInBounds_toArray,List.set_cons_zero,List.set_cons_succ]
 refine wpAnyH_ready (rs:=[4,8]) (by kernel_rfl) (by simp) ?_
 refine AllReadyH.cons (o:={ dst:=some 36,op:=Op.load 97 (Operand.tmp 35),type:=97,pos:=_,after:=_,guard:=none }) rfl (fun K hK=>?_) ?_
 ·go_simp
  refine hK.out _ _ trivial (fun hHeld=>?_)
  clear hK K
  try simp only [Act.put,List.setIfInBounds_toArray,List.set_cons_zero,List.set_cons_succ]
  refine wpAnyH_ready (rs:=[8]) (by kernel_rfl) (by simp) ?_
  refine AllReadyH.cons (o:={ dst:=some 40,op:=Op.call { callee:=Callee.builtin Builtin.append,args:=#[Operand.tmp 38,Operand.tmp 39],argTypes:=#[44,44] },type:=44,pos:=_,after:=_,guard:=none }) rfl (fun K hK=>?_) AllReadyH.nil
  refine step_append_run rfl (.tmp 38) (.tmp 39) 44 rfl rfl _ _ rfl rfl _ _ HRUN.out ?_
  refine hK.out _ _ trivial (fun hHeld=>?_)
  clear hK K
  try simp only [Act.put,List.setIfInBounds_toArray,List.set_cons_zero,List.set_cons_succ]
  refine wpAnyH_take (i:=9) (oi:={ dst:=some 41,op:=Op.build 132 #[(0,Operand.tmp 37),(1,Operand.tmp 40)],type:=132,pos:=_,after:=_,guard:=none }) (v:=?_) rfl (by kernel_rfl) (by kernel_rfl) (by kernel_rfl) (fun _ _ _ h=>h) (Or.inl ⟨by rfl,?_⟩) hHeld ?_
  rotate_left 1
  ·(intro W hW;(try dsimp only at hW);go_simp;try with_reducible rfl)
  try simp only [Act.put,List.setIfInBounds_toArray,List.set_cons_zero,List.set_cons_succ]
  refine wpAnyH_ready (rs:=[10]) (by kernel_rfl) (by simp) ?_
  refine AllReadyH.cons (o:={ dst:=some 42,op:=Op.buildSlice 97 1 #[(0,Operand.tmp 41)],type:=97,pos:=_,after:=_,guard:=none }) rfl (fun K hK=>?_) AllReadyH.nil
  go_simp
  rw [HV3.out]
  refine hK.out _ _ trivial (fun hHeld=>?_)
  clear hK K
  try simp only [Act.put,List.setIfInBounds_toArray,List.set_cons_zero,List.set_cons_succ]
  refine wpAnyH_ready (rs:=[11]) (by kernel_rfl) (by simp) ?_
  refine AllReadyH.cons (o:={ dst:=some 43,op:=Op.call { callee:=Callee.builtin Builtin.append,args:=#[Operand.tmp 36,Operand.tmp 42],argTypes:=#[97,97] },type:=97,pos:=_,after:=_,guard:=none }) rfl (fun K hK=>?_) AllReadyH.nil
  refine step_pushV _ rfl (.tmp 36) (.tmp 42) 97 rfl 132 (.agg #[.int .i64 0,.slice none 0 0]) 2 32 Tryz.underlying97 info_write rfl (by omega) (by omega) rfl HR3.out.hW rfl HWL.out HW1.out HH3.out HWN.out ?_
  intro g5 c5 W3 hw3 hgr3 hat3 hlt3
  obtain ⟨hh4,hr4⟩:=HR3.out.pushed (p:=(i,⟨some ⟨g',0,none⟩,c2,x⟩)) HP.out HGD.out hw3 hgr3 hat3
  have q4:W3.cell? ⟨gx,1,none⟩=some (.slice A ws.length cw):=hh4.cell 1
  have f4:W3.frozen? ⟨gx,1,none⟩=false:=hh4.open_ 1
  have HFI:=Lib.hid hr4
  have HHA:Hid (blockOf A=some g5∨w0.heap.size≤g5):=Lib.hid (hat3.elim .inl fun e=>.inr (by have:=HS3.out;omega))
  have HO5:Hid (Only (fun g=>g=gx∨blockOf A=some g) w0 (W3.setCell ⟨gx,1,none⟩ (.slice (some ⟨g5,0,none⟩) (ws.length+1) c5))):=Lib.hid ((HOV3.out.grown hgr3 (fun g e=>.inl (.inr e))).setCell (p:=⟨gx,1,none⟩) (.inl (.inl rfl)) _)
  clear hw3 hgr3 hat3 hlt3 hh4 hr4
  refine hK.out _ _ trivial (fun hHeld=>?_)
  clear hK K
  try simp only [Act.put,List.setIfInBounds_toArray,List.set_cons_zero,List.set_cons_succ]
  refine wpAnyH_take (i:=12) (oi:={ dst:=some 44,op:=Op.nilCheck (Operand.tmp 32),type:=0,pos:=_,after:=_,guard:=none }) (v:=?_) rfl (by kernel_rfl) (by kernel_rfl) (by kernel_rfl) (fun _ _ _ h=>h) (Or.inl ⟨by rfl,?_⟩) hHeld ?_
  rotate_left 1
  ·(intro W hW;(try dsimp only at hW);go_simp;try with_reducible rfl)
  try simp only [Act.put,List.setIfInBounds_toArray,List.set_cons_zero,List.set_cons_succ]
  refine wpAnyH_take (i:=13) (oi:={ dst:=some 45,op:=Op.fieldAddr 114 (Operand.tmp 44) 1,type:=0,pos:=_,after:=_,guard:=none }) (v:=?_) rfl (by kernel_rfl) (by kernel_rfl) (by kernel_rfl) (fun _ _ _ h=>h) (Or.inl ⟨by rfl,?_⟩) hHeld ?_
  rotate_left 1
  ·(intro W hW;(try dsimp only at hW);go_simp;try with_reducible rfl)
  try simp only [Act.put,List.setIfInBounds_toArray,List.set_cons_zero,List.set_cons_succ]
  refine wpAnyH_ready (rs:=[14]) (by kernel_rfl) (by simp) ?_
  refine AllReadyH.cons (o:={ dst:=none,op:=Op.store 97 (Operand.tmp 45) (Operand.tmp 43),type:=0,pos:=_,after:=_,guard:=none }) rfl (fun K hK=>?_) AllReadyH.nil
  go_simp
  refine hK.out _ _ trivial (fun hHeld=>?_)
  clear hK K
  try simp only [Act.put,List.setIfInBounds_toArray,List.set_cons_zero,List.set_cons_succ]
  refine wpAnyH_done (by kernel_rfl) ?_ _
  refine NoPanic.normal ?_
  clear HR3 HH3 HV1 HV3 HRUN
  go_wp2_with fail
  go_ret
  exact ⟨rfl,⟨_,_,_,HFI.out,fun g hg=>by
   rcases hg with rfl | rfl | hg | hg | ⟨r,hr,hg⟩ | ⟨p,hp,hg⟩
   ·exact .inl (.inl rfl)
   ·exact .inl (.inr (.inl rfl))
   ·obtain rfl:g5=g:=by simpa [blockOf] using hg
    exact HHA.out.elim (fun e=>.inl (.inr (.inr (.inl e)))) .inr
   ·exact .inl (.inr (.inr (.inr (.inl hg))))
   ·exact .inl (.inr (.inr (.inr (.inr (.inl ⟨r,hr,hg⟩)))))
   ·rcases List.mem_append.1 hp with h1 | h1
    ·exact .inl (.inr (.inr (.inr (.inr (.inr ⟨p,h1,hg⟩)))))
    ·obtain rfl:=List.mem_singleton.1 h1
     obtain rfl:g'=g:=by simpa [blockOf] using hg
     exact .inr HG'.out⟩,HO5.out⟩
 refine AllReadyH.cons (o:={ dst:=some 40,op:=Op.call { callee:=Callee.builtin Builtin.append,args:=#[Operand.tmp 38,Operand.tmp 39],argTypes:=#[44,44] },type:=44,pos:=_,after:=_,guard:=none }) rfl (fun K hK=>?_) AllReadyH.nil
 refine step_append_run rfl (.tmp 38) (.tmp 39) 44 rfl rfl _ _ rfl rfl _ _ HRUN.out ?_
 refine hK.out _ _ trivial (fun hHeld=>?_)
 clear hK K
 try simp only [Act.put,List.setIfInBounds_toArray,List.set_cons_zero,List.set_cons_succ]
 refine wpAnyH_take (i:=9) (oi:={ dst:=some 41,op:=Op.build 132 #[(0,Operand.tmp 37),(1,Operand.tmp 40)],type:=132,pos:=_,after:=_,guard:=none }) (v:=?_) rfl (by kernel_rfl) (by kernel_rfl) (by kernel_rfl) (fun _ _ _ h=>h) (Or.inl ⟨by rfl,?_⟩) hHeld ?_
 rotate_left 1
 ·(intro W hW;(try dsimp only at hW);go_simp;try with_reducible rfl)
 try simp only [Act.put,List.setIfInBounds_toArray,List.set_cons_zero,List.set_cons_succ]
 refine wpAnyH_ready (rs:=[4,10]) (by kernel_rfl) (by simp) ?_
 refine AllReadyH.cons (o:={ dst:=some 36,op:=Op.load 97 (Operand.tmp 35),type:=97,pos:=_,after:=_,guard:=none }) rfl (fun K hK=>?_) ?_
 ·go_simp
  refine hK.out _ _ trivial (fun hHeld=>?_)
  clear hK K
  try simp only [Act.put,List.setIfInBounds_toArray,List.set_cons_zero,List.set_cons_succ]
  refine wpAnyH_ready (rs:=[10]) (by kernel_rfl) (by simp) ?_
  refine AllReadyH.cons (o:={ dst:=some 42,op:=Op.buildSlice 97 1 #[(0,Operand.tmp 41)],type:=97,pos:=_,after:=_,guard:=none }) rfl (fun K hK=>?_) AllReadyH.nil
  go_simp
  rw [HV3.out]
  refine hK.out _ _ trivial (fun hHeld=>?_)
  clear hK K
  try simp only [Act.put,List.setIfInBounds_toArray,List.set_cons_zero,List.set_cons_succ]
  refine wpAnyH_ready (rs:=[11]) (by kernel_rfl) (by simp) ?_
  refine AllReadyH.cons (o:={ dst:=some 43,op:=Op.call { callee:=Callee.builtin Builtin.append,args:=#[Operand.tmp 36,Operand.tmp 42],argTypes:=#[97,97] },type:=97,pos:=_,after:=_,guard:=none }) rfl (fun K hK=>?_) AllReadyH.nil
  refine step_pushV _ rfl (.tmp 36) (.tmp 42) 97 rfl 132 (.agg #[.int .i64 0,.slice none 0 0]) 2 32 Tryz.underlying97 info_write rfl (by omega) (by omega) rfl HR3.out.hW rfl HWL.out HW1.out HH3.out HWN.out ?_
  intro g5 c5 W3 hw3 hgr3 hat3 hlt3
  obtain ⟨hh4,hr4⟩:=HR3.out.pushed (p:=(i,⟨some ⟨g',0,none⟩,c2,x⟩)) HP.out HGD.out hw3 hgr3 hat3
  have q4:W3.cell? ⟨gx,1,none⟩=some (.slice A ws.length cw):=hh4.cell 1
  have f4:W3.frozen? ⟨gx,1,none⟩=false:=hh4.open_ 1
  have HFI:=Lib.hid hr4
  have HHA:Hid (blockOf A=some g5∨w0.heap.size≤g5):=Lib.hid (hat3.elim .inl fun e=>.inr (by have:=HS3.out;omega))
  have HO5:Hid (Only (fun g=>g=gx∨blockOf A=some g) w0 (W3.setCell ⟨gx,1,none⟩ (.slice (some ⟨g5,0,none⟩) (ws.length+1) c5))):=Lib.hid ((HOV3.out.grown hgr3 (fun g e=>.inl (.inr e))).setCell (p:=⟨gx,1,none⟩) (.inl (.inl rfl)) _)
  clear hw3 hgr3 hat3 hlt3 hh4 hr4
  refine hK.out _ _ trivial (fun hHeld=>?_)
  clear hK K
  try simp only [Act.put,List.setIfInBounds_toArray,List.set_cons_zero,List.set_cons_succ]
  refine wpAnyH_take (i:=12) (oi:={ dst:=some 44,op:=Op.nilCheck (Operand.tmp 32),type:=0,pos:=_,after:=_,guard:=none }) (v:=?_) rfl (by kernel_rfl) (by kernel_rfl) (by kernel_rfl) (fun _ _ _ h=>h) (Or.inl ⟨by rfl,?_⟩) hHeld ?_
  rotate_left 1
  ·(intro W hW;(try dsimp only at hW);go_simp;try with_reducible rfl)
  try simp only [Act.put,List.setIfInBounds_toArray,List.set_cons_zero,List.set_cons_succ]
  refine wpAnyH_take (i:=13) (oi:={ dst:=some 45,op:=Op.fieldAddr 114 (Operand.tmp 44) 1,type:=0,pos:=_,after:=_,guard:=none }) (v:=?_) rfl (by kernel_rfl) (by kernel_rfl) (by kernel_rfl) (fun _ _ _ h=>h) (Or.inl ⟨by rfl,?_⟩) hHeld ?_
  rotate_left 1
  ·(intro W hW;(try dsimp only at hW);go_simp;try with_reducible rfl)
  try simp only [Act.put,List.setIfInBounds_toArray,List.set_cons_zero,List.set_cons_succ]
  refine wpAnyH_ready (rs:=[14]) (by kernel_rfl) (by simp) ?_
  refine AllReadyH.cons (o:={ dst:=none,op:=Op.store 97 (Operand.tmp 45) (Operand.tmp 43),type:=0,pos:=_,after:=_,guard:=none }) rfl (fun K hK=>?_) AllReadyH.nil
  go_simp
  refine hK.out _ _ trivial (fun hHeld=>?_)
  clear hK K
  try simp only [Act.put,List.setIfInBounds_toArray,List.set_cons_zero,List.set_cons_succ]
  refine wpAnyH_done (by kernel_rfl) ?_ _
  refine NoPanic.normal ?_
  clear HR3 HH3 HV1 HV3 HRUN
  go_wp2_with fail
  go_ret
  exact ⟨rfl,⟨_,_,_,HFI.out,fun g hg=>by
   rcases hg with rfl | rfl | hg | hg | ⟨r,hr,hg⟩ | ⟨p,hp,hg⟩
   ·exact .inl (.inl rfl)
   ·exact .inl (.inr (.inl rfl))
   ·obtain rfl:g5=g:=by simpa [blockOf] using hg
    exact HHA.out.elim (fun e=>.inl (.inr (.inr (.inl e)))) .inr
   ·exact .inl (.inr (.inr (.inr (.inl hg))))
   ·exact .inl (.inr (.inr (.inr (.inr (.inl ⟨r,hr,hg⟩)))))
   ·rcases List.mem_append.1 hp with h1 | h1
    ·exact .inl (.inr (.inr (.inr (.inr (.inr ⟨p,h1,hg⟩)))))
    ·obtain rfl:=List.mem_singleton.1 h1
     obtain rfl:g'=g:=by simpa [blockOf] using hg
     exact .inr HG'.out⟩,HO5.out⟩
 refine AllReadyH.cons (o:={ dst:=some 42,op:=Op.buildSlice 97 1 #[(0,Operand.tmp 41)],type:=97,pos:=_,after:=_,guard:=none }) rfl (fun K hK=>?_) AllReadyH.nil
 go_simp
 rw [HV3.out]
 refine hK.out _ _ trivial (fun hHeld=>?_)
 clear hK K
 try simp only [Act.put,List.setIfInBounds_toArray,List.set_cons_zero,List.set_cons_succ]
 refine wpAnyH_ready (rs:=[4]) (by kernel_rfl) (by simp) ?_
 refine AllReadyH.cons (o:={ dst:=some 36,op:=Op.load 97 (Operand.tmp 35),type:=97,pos:=_,after:=_,guard:=none }) rfl (fun K hK=>?_) AllReadyH.nil
 go_simp
 refine hK.out _ _ trivial (fun hHeld=>?_)
 clear hK K
 try simp only [Act.put,List.setIfInBounds_toArray,List.set_cons_zero,List.set_cons_succ]
 refine wpAnyH_ready (rs:=[11]) (by kernel_rfl) (by simp) ?_
 refine AllReadyH.cons (o:={ dst:=some 43,op:=Op.call { callee:=Callee.builtin Builtin.append,args:=#[Operand.tmp 36,Operand.tmp 42],argTypes:=#[97,97] },type:=97,pos:=_,after:=_,guard:=none }) rfl (fun K hK=>?_) AllReadyH.nil
 refine step_pushV _ rfl (.tmp 36) (.tmp 42) 97 rfl 132 (.agg #[.int .i64 0,.slice none 0 0]) 2 32 Tryz.underlying97 info_write rfl (by omega) (by omega) rfl HR3.out.hW rfl HWL.out HW1.out HH3.out HWN.out ?_
 intro g5 c5 W3 hw3 hgr3 hat3 hlt3
 obtain ⟨hh4,hr4⟩:=HR3.out.pushed (p:=(i,⟨some ⟨g',0,none⟩,c2,x⟩)) HP.out HGD.out hw3 hgr3 hat3
 have q4:W3.cell? ⟨gx,1,none⟩=some (.slice A ws.length cw):=hh4.cell 1
 have f4:W3.frozen? ⟨gx,1,none⟩=false:=hh4.open_ 1
 have HFI:=Lib.hid hr4
 have HHA:Hid (blockOf A=some g5∨w0.heap.size≤g5):=Lib.hid (hat3.elim .inl fun e=>.inr (by have:=HS3.out;omega))
 have HO5:Hid (Only (fun g=>g=gx∨blockOf A=some g) w0 (W3.setCell ⟨gx,1,none⟩ (.slice (some ⟨g5,0,none⟩) (ws.length+1) c5))):=Lib.hid ((HOV3.out.grown hgr3 (fun g e=>.inl (.inr e))).setCell (p:=⟨gx,1,none⟩) (.inl (.inl rfl)) _)
 clear hw3 hgr3 hat3 hlt3 hh4 hr4
 refine hK.out _ _ trivial (fun hHeld=>?_)
 clear hK K
 try simp only [Act.put,List.setIfInBounds_toArray,List.set_cons_zero,List.set_cons_succ]
 refine wpAnyH_take (i:=12) (oi:={ dst:=some 44,op:=Op.nilCheck (Operand.tmp 32),type:=0,pos:=_,after:=_,guard:=none }) (v:=?_) rfl (by kernel_rfl) (by kernel_rfl) (by kernel_rfl) (fun _ _ _ h=>h) (Or.inl ⟨by rfl,?_⟩) hHeld ?_
 rotate_left 1
 ·(intro W hW;(try dsimp only at hW);go_simp;try with_reducible rfl)
 try simp only [Act.put,List.setIfInBounds_toArray,List.set_cons_zero,List.set_cons_succ]
 refine wpAnyH_take (i:=13) (oi:={ dst:=some 45,op:=Op.fieldAddr 114 (Operand.tmp 44) 1,type:=0,pos:=_,after:=_,guard:=none }) (v:=?_) rfl (by kernel_rfl) (by kernel_rfl) (by kernel_rfl) (fun _ _ _ h=>h) (Or.inl ⟨by rfl,?_⟩) hHeld ?_
 rotate_left 1
 ·(intro W hW;(try dsimp only at hW);go_simp;try with_reducible rfl)
 try simp only [Act.put,List.setIfInBounds_toArray,List.set_cons_zero,List.set_cons_succ]
 refine wpAnyH_ready (rs:=[14]) (by kernel_rfl) (by simp) ?_
 refine AllReadyH.cons (o:={ dst:=none,op:=Op.store 97 (Operand.tmp 45) (Operand.tmp 43),type:=0,pos:=_,after:=_,guard:=none }) rfl (fun K hK=>?_) AllReadyH.nil
 go_simp
 refine hK.out _ _ trivial (fun hHeld=>?_)
 clear hK K
 try simp only [Act.put,List.setIfInBounds_toArray,List.set_cons_zero,List.set_cons_succ]
 refine wpAnyH_done (by kernel_rfl) ?_ _
 refine NoPanic.normal ?_
 clear HR3 HH3 HV1 HV3 HRUN
 go_wp2_with fail
 go_ret
 exact ⟨rfl,⟨_,_,_,HFI.out,fun g hg=>by
  rcases hg with rfl | rfl | hg | hg | ⟨r,hr,hg⟩ | ⟨p,hp,hg⟩
  ·exact .inl (.inl rfl)
  ·exact .inl (.inr (.inl rfl))
  ·obtain rfl:g5=g:=by simpa [blockOf] using hg
   exact HHA.out.elim (fun e=>.inl (.inr (.inr (.inl e)))) .inr
  ·exact .inl (.inr (.inr (.inr (.inl hg))))
  ·exact .inl (.inr (.inr (.inr (.inr (.inl ⟨r,hr,hg⟩)))))
  ·rcases List.mem_append.1 hp with h1 | h1
   ·exact .inl (.inr (.inr (.inr (.inr (.inr ⟨p,h1,hg⟩)))))
   ·obtain rfl:=List.mem_singleton.1 h1
    obtain rfl:g'=g:=by simpa [blockOf] using hg
    exact .inr HG'.out⟩,HO5.out⟩

end Go.Proofs.YtnedpkhehiijhaaGreat
namespace Go.Proofs.YtnedpkhehiijhaaGreat
open Go.RowKit
set_option linter.unusedVariables false
set_option linter.unusedSimpArgs false
attribute [local go_sem ↓] Go.wp_at_zero Go.wp_at_succ

section
variable (w:World) (gx gS cS:Nat) (A:Option Addr) (cw:Nat) (K:Option Addr) (ck:Nat) (at_:Int) (kl:List Bool) (rs:List Rw) (ws:List (Nat×Rw)) (s:Dk) (F:Nat→Prop)
set_option maxRecDepth 100000 in
theorem rwrite_down (h:RfAt w gx gS cS A cw K ck at_ kl rs ws s) (hdn:s.down=true) (i:Value) (v:Value) :
  Calls Tryz.prog 116 #[.pointer (some ⟨gx,0,none⟩),i,v] w fun e w'=>e = .returned (.int .i64 6)∧w=w':=by
 have c6:w.cell? ⟨gx,6,none⟩=some (.bool s.down):=h.cell 6
 rw [hdn] at c6
 clear h hdn
 go_enter Tryz.func116,Tryz.ntmps116
 go_wp2_with fail
 go_ret
 exact ⟨rfl,rfl⟩
set_option maxRecDepth 100000 in
set_option maxHeartbeats 1000000 in
theorem rwrite_arg (h:RfAt w gx gS cS A cw K ck at_ kl rs ws s) (hdn:s.down=false) (i:Int) (A2:Option Addr) (n2 c2:Nat) (hb:¬ (0≤i∧i<(rs.length:Int)∧n2=64)) :
  Calls Tryz.prog 116 #[.pointer (some ⟨gx,0,none⟩),.int .i64 i,.slice A2 n2 c2] w fun e w'=>e = .returned (.int .i64 1)∧w=w':=by
 have c0:w.cell? ⟨gx,0,none⟩=some (.slice (some ⟨gS,0,none⟩) rs.length cS):=h.cell 0
 have c6:w.cell? ⟨gx,6,none⟩=some (.bool s.down):=h.cell 6
 rw [hdn] at c6
 clear h hdn
 by_cases h0:i<0
 ·have d0:decide (i<0)=true:=decide_eq_true h0
  go_enter Tryz.func116,Tryz.ntmps116
  go_wp2_with fail
  go_ret
  exact ⟨rfl,rfl⟩
 have d0:decide (i<0)=false:=decide_eq_false h0
 by_cases h1:(rs.length:Int)≤i
 ·have d1:decide ((rs.length:Int)≤i)=true:=decide_eq_true h1
  go_enter Tryz.func116,Tryz.ntmps116
  go_wp2_with fail
  go_ret
  exact ⟨rfl,rfl⟩
 have d1:decide ((rs.length:Int)≤i)=false:=decide_eq_false h1
 have d2:((n2:Int) != 64)=true:=by rw [bne_iff_ne];omega
 go_enter Tryz.func116,Tryz.ntmps116
 go_wp2_with fail
 go_ret
 exact ⟨rfl,rfl⟩
set_option maxRecDepth 100000 in
set_option maxHeartbeats 1000000 in
theorem rwrite_due (h:RfAt w gx gS cS A cw K ck at_ kl rs ws s) (hF:∀ g,RfBlk gx gS A K rs ws g→F g) (hdn:s.down=false) (hdue:s.due=true) (hops:s.ops≤1000000000) (hwl:s.waits.length≤100000) (i:Nat) (hi:i<rs.length) (A2:Option Addr) (c2:Nat) :
  Calls Tryz.prog 116 #[.pointer (some ⟨gx,0,none⟩),.int .i64 i,.slice A2 64 c2] w fun e w'=>e = .returned (.int .i64 6)∧(∃ rs',RfAt w' gx gS cS none 0 K ck at_ kl rs' [] s.fall∧∀ g,RfBlk gx gS none K rs' [] g→F g∨w.heap.size≤g)∧Only F w w':=by
 have c0:w.cell? ⟨gx,0,none⟩=some (.slice (some ⟨gS,0,none⟩) rs.length cS):=h.cell 0
 have c6:w.cell? ⟨gx,6,none⟩=some (.bool s.down):=h.cell 6
 rw [hdn] at c6
 have d0:decide ((i:Int)<0)=false:=decide_eq_false (by omega)
 have d1:decide ((rs.length:Int)≤(i:Int))=false:=decide_eq_false (by omega)
 have d1n:decide (rs.length≤i)=false:=decide_eq_false (by omega)
 have HC:=Lib.hid (rcrash_yes w gx gS cS A cw K ck at_ kl rs ws s F h hF hdue hops hwl)
 clear h hdn hdue hops hwl hi hF
 go_enter Tryz.func116,Tryz.ntmps116
 go_wp2_with fail
 refine HC.out.mono ?_
 rintro e w2 ⟨rfl,h2,ho2⟩
 have H2:=Lib.hid h2
 have HO2:=Lib.hid ho2
 clear h2 ho2 HC
 go_wp2_with fail
 go_ret
 exact ⟨rfl,H2.out,HO2.out⟩
set_option maxRecDepth 100000 in
theorem rflush_down (h:RfAt w gx gS cS A cw K ck at_ kl rs ws s) (hdn:s.down=true) :
  Calls Tryz.prog 117 #[.pointer (some ⟨gx,0,none⟩)] w fun e w'=>e = .returned (.int .i64 6)∧w=w':=by
 have c6:w.cell? ⟨gx,6,none⟩=some (.bool s.down):=h.cell 6
 rw [hdn] at c6
 clear h hdn
 go_enter Tryz.func117,Tryz.ntmps117
 go_wp2_with fail
 go_ret
 exact ⟨rfl,rfl⟩
set_option maxRecDepth 100000 in
set_option maxHeartbeats 1000000 in
theorem rflush_due (h:RfAt w gx gS cS A cw K ck at_ kl rs ws s) (hF:∀ g,RfBlk gx gS A K rs ws g→F g) (hdn:s.down=false) (hdue:s.due=true) (hops:s.ops≤1000000000) (hwl:s.waits.length≤100000) :
  Calls Tryz.prog 117 #[.pointer (some ⟨gx,0,none⟩)] w fun e w'=>e = .returned (.int .i64 6)∧(∃ rs',RfAt w' gx gS cS none 0 K ck at_ kl rs' [] s.fall∧∀ g,RfBlk gx gS none K rs' [] g→F g∨w.heap.size≤g)∧Only F w w':=by
 have c6:w.cell? ⟨gx,6,none⟩=some (.bool s.down):=h.cell 6
 rw [hdn] at c6
 have HC:=Lib.hid (rcrash_yes w gx gS cS A cw K ck at_ kl rs ws s F h hF hdue hops hwl)
 clear h hdn hdue hops hwl hF
 go_enter Tryz.func117,Tryz.ntmps117
 go_wp2_with fail
 refine HC.out.mono ?_
 rintro e w2 ⟨rfl,h2,ho2⟩
 have H2:=Lib.hid h2
 have HO2:=Lib.hid ho2
 clear h2 ho2 HC
 go_wp2_with fail
 go_ret
 exact ⟨rfl,H2.out,HO2.out⟩
set_option maxRecDepth 100000 in
set_option maxHeartbeats 4000000 in
theorem rflush_ok (h:RfAt w gx gS cS A cw K ck at_ kl rs ws s) (hF:∀ g,RfBlk gx gS A K rs ws g→F g) (hdn:s.down=false) (hdue:s.due=false) (hops:s.ops≤1000000000) (hwl:s.waits.length≤100000) :
  Calls Tryz.prog 117 #[.pointer (some ⟨gx,0,none⟩)] w fun e w'=>e = .returned (.int .i64 0)∧(∃ rs',RfAt w' gx gS cS none 0 K ck at_ kl rs' [] s.flushed∧∀ g,RfBlk gx gS none K rs' [] g→F g∨w.heap.size≤g)∧Only F w w':=by
 have c6:w.cell? ⟨gx,6,none⟩=some (.bool s.down):=h.cell 6
 rw [hdn] at c6
 have HC:=Lib.hid (rcrash_no w gx gS cS A cw K ck at_ kl rs ws s h hdue hops)
 have hlw:s.waits.length=ws.length:=by rw [←h.eW,List.length_map]
 have hm1:ws.length≤100000:=by omega
 have HLW:=Lib.hid hlw
 have HFB:=Lib.hid hF
 have HEA:=Lib.hid h.ea
 clear h hdn hdue hops hwl hF hlw
 go_enter Tryz.func117,Tryz.ntmps117
 go_wp2_with fail
 refine HC.out.mono ?_
 rintro e w2 ⟨rfl,h2,ho2⟩
 have H2:=Lib.hid h2
 have HO2:=Lib.hid (ho2.more (F:=fun g=>g=gx∨g=gS) fun g _ e=>.inl e)
 clear h2 ho2 HC c6
 go_wp2_with fail
 go_loopw [3] (fun i wr=>RelCr (fun _=>true) w gx gS cS A cw K ck at_ kl ws { s with ops:=s.ops+1 } F rs.length ws.length i wr) (fun i _=>ws.length - (intOf i).toNat)
 case atStart=>exact ⟨0,rs,Nat.zero_le _,rfl,rfl,H2.out,fun r hr g hg=>.inl (HFB.out g (.inr (.inr (.inr (.inr (.inl ⟨r,hr,hg⟩)))))),HO2.out⟩
 case round =>
  obtain ⟨k,rs',hk,rfl,hlen,hrf,hB,hO⟩:=hrel
  obtain ⟨V,hV⟩:∃ V,V=wr:=⟨_,rfl⟩
  subst hV
  have c1:V.cell? ⟨gx,1,none⟩=some (.slice A ws.length cw):=hrf.cell 1
  have HR:=Lib.hid hrf
  have HLN:=Lib.hid hlen
  have HB:=Lib.hid hB
  have HO:=Lib.hid hO
  have hle:=hrf.hW.le
  clear hrf hlen hB hO H2 HO2
  by_cases hkn:k<ws.length
  case pos =>
   have hkI:(k:Int)<(ws.length:Int):=by omega
   have hk0:(0:Int)≤(k:Int):=by omega
   obtain ⟨gA,rfl,q0,q1,qr,qe,ql,qlt⟩:=HR.out.wait hkn
   have HQR:=Lib.hid qr
   have HQL:=Lib.hid ql
   have HQE:=Lib.hid qe
   have HQT:=Lib.hid qlt
   clear qr ql qe qlt
   generalize ws.getD k default=p at *
   obtain ⟨pa,pr⟩:=p
   go_wp2_with fail
   refine (lasts_any V gx gS cS _ cw _ ck at_ kl rs' ws _ HR.out pa (by have:=HQT.out;omega) pr.a pr.c pr.l HQR.out HQL.out).mono ?_
   rintro e w2 ⟨rfl,⟨r,hr2,hrb⟩,hO2⟩
   have HN:=Lib.hid (RelCr.next (kp:=fun _=>true) (s:={ s with ops:=s.ops+1 }) HLN.out HB.out HO.out HQE.out rfl hr2 hrb hO2)
   clear hr2 hrb hO2
   go_wp2_with fail
   go_roundw
   case rel=>exact ⟨k+1,_,by omega,by go_num,HN.out.1,HN.out.2.1,HN.out.2.2.1,HN.out.2.2.2⟩
   case measure=>simp [intOf];omega
  case neg =>
   obtain rfl:k=ws.length:=by omega
   have hkI:¬ ((ws.length:Int)<(ws.length:Int)):=by omega
   have f1:V.frozen? ⟨gx,1,none⟩=false:=HR.out.hd.open_ 1
   have hfi:=RfAt.to (s':=s.flushed) HR.out.cleared (by show fallN _ _ _ _=fallN _ _ _ _;rw [HLW.out]) rfl rfl rfl rfl rfl rfl
   have HFI:=Lib.hid hfi
   have HO6:Hid (Only F w (V.setCell ⟨gx,1,none⟩ (.slice none 0 0))):=Lib.hid ((HO.out.more (F:=F) fun g _ e=>by
    rcases e with rfl | rfl
    ·exact HFB.out _ (.inl rfl)
    ·exact HFB.out _ (.inr (.inl rfl))).setCell (p:=⟨gx,1,none⟩) (.inl (HFB.out _ (.inl rfl))) _)
   clear hfi
   go_wp2_with fail
   go_ret
   refine ⟨rfl,⟨rs',HFI.out,fun g hg=>?_⟩,HO6.out⟩
   rcases hg with rfl | rfl | hg | hg | ⟨r,hr,hg⟩ | ⟨p,hp,hg⟩
   ·exact .inl (HFB.out _ (.inl rfl))
   ·exact .inl (HFB.out _ (.inr (.inl rfl)))
   ·simp [blockOf] at hg
   ·exact .inl (HFB.out _ (.inr (.inr (.inr (.inl hg)))))
   ·exact HB.out r hr g hg
   ·cases hp
end
end Go.Proofs.YtnedpkhehiijhaaGreat
