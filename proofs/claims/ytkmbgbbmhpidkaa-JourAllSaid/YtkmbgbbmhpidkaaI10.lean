/- Words and laws for the statement, part 10. -/
import Derived.Test.YtkmbgbbmhpidkaaI06
import Derived.Test.YtkmbgbbmhpidkaaI08
import Derived.Test.YtkmbgbbmhpidkaaI09
namespace Go.Proofs.Ytkmbgbbmhpidkaa
open Go.RowKit Go.Shelf
set_option linter.unusedVariables false
set_option linter.unusedSimpArgs false
attribute [local go_sem ↓] Go.wp_at_zero Go.wp_at_succ

theorem two_new {w w1 w2:World} {gd n:Nat} (hd:Disk w1 (fun k=>w.heap.size≤k∧k<w1.heap.size) gd (fresh n)) (hb:Below w.heap.size w w1) (hp:NewPostR w1 n w2):Two w2 w.heap.size gd (fresh n) w1.heap.size (fresh n)∧Below w.heap.size w w2:=by
 obtain ⟨⟨gS,cS,rs,hr,hF⟩,hb2⟩:=hp
 refine ⟨⟨Nat.le_trans hb.size hb2.size,fun k=>w.heap.size≤k∧k<w1.heap.size,fun k=>w1.heap.size≤k∧k<w2.heap.size,hd.keep (Only.of_below (F:=fun _=>False) hb2) (fun _ _ e=>e),?_,fun k hk=>⟨hk.1,Nat.lt_of_lt_of_le hk.2 hb2.size⟩,fun k hk=>⟨Nat.le_trans hb.size hk.1,hk.2⟩,fun k h1 h2=>by omega⟩,hb.trans (hb2.mono hb.size)⟩
 exact ⟨sound_fresh n,gS,cS,none,0,none,0,0,[],rs,[],hr,fun g hg=>⟨hF g hg,hr.lt hg⟩⟩
section
variable {w w':World} {B gd gx:Nat} {s s1 s2:Dk}
theorem Two.sect (h:Two w B gd s1 gx s2):∀ i:Nat,i<s1.now.length→(s1.read (i:Int)).length=64:=by
 obtain ⟨hB,F1,F2,d,r,l1,l2,hd⟩:=h
 exact fun i hi=>d.sect_read hi
theorem fin_le (s:Dk) (l:List (Int×List Nat)):(s.fin l).1.waits.length≤s.waits.length+l.length+3∧(s.fin l).1.ops≤s.ops+l.length+3:=by
 have h1:=putf_le s (l.map fun p=>(157+p.1,p.2))
 have h2:=putf_le (s.putf (l.map fun p=>(157+p.1,p.2))).1 [(1,zsec)]
 rw [List.length_map] at h1
 simp only [List.length_cons,List.length_nil] at h2
 unfold Dk.fin
 split <;> omega
theorem open_le (s:Dk):s.open_.1.waits.length≤s.waits.length+153∧s.open_.1.ops≤s.ops+153:=by
 unfold Dk.open_
 split
 ·exact ⟨Nat.le_add_right _ _,Nat.le_add_right _ _⟩
 ·split
  ·exact ⟨Nat.le_add_right _ _,Nat.le_add_right _ _⟩
  ·split
   ·exact ⟨Nat.le_add_right _ _,Nat.le_add_right _ _⟩
   ·exact ⟨Nat.le_add_right _ _,Nat.le_add_right _ _⟩
   ·rename_i n _ hb
    have hn:=(begunN_some hb).1
    have h1:=fin_le s (s.told n)
    have h2:(s.told n).length=n:=by simp [Dk.told]
    split
    ·omega
    ·exact ⟨Nat.le_add_right _ _,Nat.le_add_right _ _⟩
theorem format_le (s:Dk):s.format.1.waits.length≤s.waits.length+s.now.length+3∧s.format.1.ops≤s.ops+s.now.length+3:=by
 unfold Dk.format
 split
 ·dsimp only;omega
 ·have h1:=putf_le s (formW s.now.length)
  have h2:(formW s.now.length).length≤s.now.length+2:=by simp [formW]
  omega
theorem Well.write' (h:Well s) (i:Int) (x:List Nat):Well (s.write i x).1:=by
 unfold Dk.write
 rw [if_neg (by rw [h.dn];simp)]
 split
 ·rw [if_neg (by unfold Dk.due;rw [h.ar];simp)]
  exact ⟨h.dn,h.ar⟩
 ·exact h
end
structure MkSt (w:World) (gd gx n k:Nat) (s:Dk) (wr:World):Prop where
 two:Two wr w.heap.size gd s gx s
 oct:s.Oct
 well:Well s
 len:s.now.length=n
 wl:s.waits.length≤k
 ol:s.ops≤k
 bel:Below w.heap.size w wr
theorem MkSt.wrote {w:World} {gd gx n k:Nat} {s:Dk} {wr w':World} (h:MkSt w gd gx n k s wr) {i:Int} {x:List Nat} (hx:Oct1 x) (ht:Two w' w.heap.size gd (s.write i x).1 gx (s.write i x).1) (hb:Below w.heap.size w w'):MkSt w gd gx n (k+1) (s.write i x).1 w':=by
 have h1:=jwrite_le s i x
 have h2:=h.wl
 have h3:=h.ol
 exact ⟨ht,h.oct.write i hx,h.well.write' i x,(write_now s i x).trans h.len,by omega,by omega,hb⟩
def RelMk (w:World) (gd gx n m:Nat) (i:Value) (wr:World):Prop :=
 ∃ (k:Nat) (s:Dk),k≤m∧i = .int .i64 k∧MkSt w gd gx n (1000+k) s wr
end Go.Proofs.Ytkmbgbbmhpidkaa
namespace Go.Proofs.Ytkmbgbbmhpidkaa
open Go.RowKit Go.Shelf
set_option linter.unusedVariables false
set_option linter.unusedSimpArgs false
attribute [local go_sem ↓] Go.wp_at_zero Go.wp_at_succ

def OkW (m:Nat) (x:Wr):Prop:=0≤x.at_∧x.at_<(m:Int)∧x.d.length=64
theorem may_iff (m:Nat) (l:List Wr):mayJ m (wv l)=true↔(∀ i,i<l.length→OkW m (l.getD i default))∧∀ i,i<l.length→∀ j,j<i→(l.getD j default).at_≠(l.getD i default).at_:=by
 have hg:∀ i (h:i<l.length),l.getD i default=l[i]:=fun i h=>by simp [List.getD,h]
 unfold mayJ
 rw [decide_eq_true_iff]
 refine and_congr ⟨fun h i hi=>?_,fun h p hp=>?_⟩ ?_
 ·rw [hg i hi]
  exact h (l[i].v) (List.mem_map.2 ⟨l[i],List.getElem_mem hi,rfl⟩)
 ·obtain ⟨x,hx,rfl⟩:=List.mem_map.1 hp
  obtain ⟨i,hi,rfl⟩:=List.getElem_of_mem hx
  have:=h i hi
  rw [hg i hi] at this
  exact this
 ·rw [List.nodup_iff_pairwise_ne,List.pairwise_iff_getElem]
  constructor
  ·intro h i hi j hj e
   refine h j i (by simp [wv];omega) (by simp [wv];omega) hj ?_
   rw [hg i hi,hg j (by omega)] at e
   simpa [wv,Wr.v] using e
  ·intro h j i hj hi hji e
   have hi':i<l.length:=by simpa [wv] using hi
   refine h i hi' j hji ?_
   rw [hg i hi',hg j (by omega)]
   simpa [wv,Wr.v] using e
section
variable {w:World} {F:Nat→Prop} {gx:Nat} {s:Dk}
set_option maxRecDepth 100000 in
set_option maxHeartbeats 8000000 in
theorem may'_any (h:Ref w F gx s) (A:Option Addr) (c n:Nat) (l:List Wr) (hl:l.length=n) (hr:RdWr A c l w) :
  Calls Try.prog 37 #[.pointer (some ⟨gx,0,none⟩),.slice A n c] w fun e w'=>e = .returned (.bool (mayJ s.many (wv l)))∧Below w.heap.size w w':=by
 have HMN:Hid (∀ W,Below w.heap.size w W→Calls Try.prog 50 #[.pointer (some ⟨gx,0,none⟩)] W fun e w'=>e = .returned (.int .i64 (s.many:Int))∧W=w'):=Lib.hid fun W hW=>rmany (h.under hW)
 obtain ⟨m,hm⟩:∃ m,m=s.many:=⟨_,rfl⟩
 rw [←hm] at HMN ⊢
 obtain ⟨r,hr0⟩:∃ r,r=mayJ m (wv l):=⟨_,rfl⟩
 rw [←hr0]
 have HI:=Lib.hid (may_iff m l)
 rw [←hr0,hl] at HI
 have HR:=Lib.hid hr
 have HL:=Lib.hid hl
 have hnc:n≤c:=by have:=hr.1;omega
 have hc63:=hr.2.1
 clear h hr hl hm hr0
 go_enter Try.func37,Try.ntmps37
 go_wp2_with fail
 go_loopw [5] (fun i wr=>∃ k:Nat,k≤n∧i = .int .i64 (k:Int)∧(∀ i,i<k→OkW m (l.getD i default))∧(∀ i,i<k→∀ j,j<i→(l.getD j default).at_≠(l.getD i default).at_)∧Below w.heap.size w wr) (fun i _=>n - (intOf i).toNat)
 case atStart=>exact ⟨0,Nat.zero_le _,rfl,(fun i hi=>absurd hi (Nat.not_lt_zero _)),(fun i hi=>absurd hi (Nat.not_lt_zero _)),Below.refl _ _⟩
 case round =>
  obtain ⟨k,hk,rfl,ho,hne,hq⟩:=hrel
  obtain ⟨V,hV⟩:∃ V,V=wr:=⟨_,rfl⟩
  subst hV
  have HO:=Lib.hid ho
  have HNE:=Lib.hid hne
  have HQ:=Lib.hid hq
  clear ho hne hq
  by_cases hlt:k<n
  case pos =>
   have hkI:(k:Int)<(n:Int):=by omega
   have hk0:(0:Int)≤(k:Int):=by omega
   have hkw:IntKind.i64.wrap ((k:Int)+1)=(k:Int)+1:=IntWalk.i64_in _ (by omega)
   obtain ⟨b,off,rfl,hb,hc0,hc1,_⟩:=(HR.out.under HQ.out).at_ (j:=k) (by rw [HL.out];exact hlt)
   obtain ⟨x,hx⟩:∃ x,x=l.getD k default:=⟨_,rfl⟩
   rw [←hx] at hc0 hc1
   have HX:=Lib.hid hx
   obtain ⟨xa,da,dc,xd⟩:=x
   dsimp only at *
   obtain ⟨dn,hdn⟩:∃ d,xd.length=d:=⟨_,rfl⟩
   rw [hdn] at hc1
   have HNO:Hid (¬ OkW m ⟨xa,da,dc,xd⟩→r=false):=Lib.hid fun hno=>by
    cases r
    ·rfl
    ·exact absurd (by rw [HX.out];exact (HI.out.1 rfl).1 k hlt) hno
   have HDN:=Lib.hid hdn
   clear hx hdn
   by_cases h0:xa<0
   ·have d0:decide (xa<0)=true:=decide_eq_true h0
    have HF:Hid (r=false):=Lib.hid (HNO.out fun h=>by have:=h.1;dsimp only at this;omega)
    go_wp2_with fail
    refine wp_region_noPanic ?_
    refine wp_region_held_drew (S:=fun W=>Below V.heap.size V W) (by kernel_rfl) ((Below.refl _ V).drew) (fun hHeld=>?_)
    refine wpAnyH_take (i:=0) (oi:={ dst:=some 13,op:=Op.move (Operand.tmp 1),type:=27,pos:=_,after:=_,guard:=none }) (v:=?_) rfl (by kernel_rfl) (by kernel_rfl) (by kernel_rfl) (fun _ _ _ h=>h) (Or.inl ⟨by rfl,?_⟩) hHeld ?_
    rotate_left 1
    ·(intro W hW;(try dsimp only at hW);go_simp;try with_reducible rfl)
    try simp only [Act.put,List.setIfInBounds_toArray,List.set_cons_zero,List.set_cons_succ]
    refine wpAnyH_take (i:=1) (oi:={ dst:=some 14,op:=Op.move (Operand.tmp 5),type:=3,pos:=_,after:=_,guard:=none }) (v:=?_) rfl (by kernel_rfl) (by kernel_rfl) (by kernel_rfl) (fun _ _ _ h=>h) (Or.inl ⟨by rfl,?_⟩) hHeld ?_
    rotate_left 1
    ·(intro W hW;(try dsimp only at hW);go_simp;try with_reducible rfl)
    try simp only [Act.put,List.setIfInBounds_toArray,List.set_cons_zero,List.set_cons_succ]
    refine wpAnyH_take (i:=2) (oi:={ dst:=some 15,op:=Op.indexAddr 27 (Operand.tmp 13) (Operand.tmp 14),type:=0,pos:=_,after:=_,guard:=none }) (v:=?_) rfl (by kernel_rfl) (by kernel_rfl) (by kernel_rfl) (fun _ _ _ h=>h) (Or.inl ⟨by rfl,?_⟩) hHeld ?_
    rotate_left 1
    ·(intro W hW;(try dsimp only at hW);go_simp;try with_reducible rfl)
    try simp only [Act.put,List.setIfInBounds_toArray,List.set_cons_zero,List.set_cons_succ]
    refine wpAnyH_take (i:=3) (oi:={ dst:=some 16,op:=Op.fieldAddr 42 (Operand.tmp 15) 0,type:=0,pos:=_,after:=_,guard:=none }) (v:=?_) rfl (by kernel_rfl) (by kernel_rfl) (by kernel_rfl) (fun _ _ _ h=>h) (Or.inl ⟨by rfl,?_⟩) hHeld ?_
    rotate_left 1
    ·(intro W hW;(try dsimp only at hW);go_simp;try with_reducible rfl)
    try simp only [Act.put,List.setIfInBounds_toArray,List.set_cons_zero,List.set_cons_succ]
    refine wpAnyH_take (i:=4) (oi:={ dst:=some 17,op:=Op.load 3 (Operand.tmp 16),type:=3,pos:=_,after:=_,guard:=none }) (v:=?_) rfl (by kernel_rfl) (by kernel_rfl) (by kernel_rfl) (fun _ _ _ h=>h) (Or.inl ⟨by rfl,?_⟩) hHeld ?_
    rotate_left 1
    ·(intro W hW;have hk:=(Below.cell (p:=⟨b,off+k*2,none⟩) hW hb).trans hc0;(try dsimp only at hW);go_simp;try with_reducible rfl)
    try simp only [Act.put,List.setIfInBounds_toArray,List.set_cons_zero,List.set_cons_succ]
    refine wpAnyH_take (i:=5) (oi:={ dst:=some 18,op:=Op.binOp BinOp.lss 3 (Operand.tmp 17) (Operand.const (Value.int IntKind.i64 0)) 3,type:=4,pos:=_,after:=_,guard:=none }) (v:=?_) rfl (by kernel_rfl) (by kernel_rfl) (by kernel_rfl) (fun _ _ _ h=>h) (Or.inl ⟨by rfl,?_⟩) hHeld ?_
    rotate_left 1
    ·(intro W hW;(try dsimp only at hW);go_simp;try with_reducible rfl)
    try simp only [Act.put,List.setIfInBounds_toArray,List.set_cons_zero,List.set_cons_succ]
    refine wpAnyH_take (i:=6) (oi:={ dst:=some 19,op:=Op.move (Operand.tmp 18),type:=4,pos:=_,after:=_,guard:=none }) (v:=?_) rfl (by kernel_rfl) (by kernel_rfl) (by kernel_rfl) (fun _ _ _ h=>h) (Or.inl ⟨by rfl,?_⟩) hHeld ?_
    rotate_left 1
    ·(intro W hW;(try dsimp only at hW);go_simp;try with_reducible rfl)
    try simp only [Act.put,List.setIfInBounds_toArray,List.set_cons_zero,List.set_cons_succ]
    refine wpAnyH_take (i:=7) (oi:={ dst:=some 20,op:=Op.move (Operand.tmp 1),type:=27,pos:=_,after:=_,guard:=some (6,false) }) (v:=undef) rfl (by kernel_rfl) (by kernel_rfl) (by kernel_rfl) (fun _ _ _ h=>h) (Or.inr ⟨by rfl,rfl⟩) hHeld ?_
    try simp only [Act.put,List.setIfInBounds_toArray,List.set_cons_zero,List.set_cons_succ]
    refine wpAnyH_take (i:=8) (oi:={ dst:=some 21,op:=Op.move (Operand.tmp 5),type:=3,pos:=_,after:=_,guard:=some (6,false) }) (v:=undef) rfl (by kernel_rfl) (by kernel_rfl) (by kernel_rfl) (fun _ _ _ h=>h) (Or.inr ⟨by rfl,rfl⟩) hHeld ?_
    try simp only [Act.put,List.setIfInBounds_toArray,List.set_cons_zero,List.set_cons_succ]
    refine wpAnyH_take (i:=9) (oi:={ dst:=some 22,op:=Op.indexAddr 27 (Operand.tmp 20) (Operand.tmp 21),type:=0,pos:=_,after:=_,guard:=some (6,false) }) (v:=undef) rfl (by kernel_rfl) (by kernel_rfl) (by kernel_rfl) (fun _ _ _ h=>h) (Or.inr ⟨by rfl,rfl⟩) hHeld ?_
    try simp only [Act.put,List.setIfInBounds_toArray,List.set_cons_zero,List.set_cons_succ]
    refine wpAnyH_take (i:=10) (oi:={ dst:=some 23,op:=Op.fieldAddr 42 (Operand.tmp 22) 0,type:=0,pos:=_,after:=_,guard:=some (6,false) }) (v:=undef) rfl (by kernel_rfl) (by kernel_rfl) (by kernel_rfl) (fun _ _ _ h=>h) (Or.inr ⟨by rfl,rfl⟩) hHeld ?_
    try simp only [Act.put,List.setIfInBounds_toArray,List.set_cons_zero,List.set_cons_succ]
    refine wpAnyH_take (i:=11) (oi:={ dst:=some 24,op:=Op.load 3 (Operand.tmp 23),type:=3,pos:=_,after:=_,guard:=some (6,false) }) (v:=undef) rfl (by kernel_rfl) (by kernel_rfl) (by kernel_rfl) (fun _ _ _ h=>h) (Or.inr ⟨by rfl,rfl⟩) hHeld ?_
    try simp only [Act.put,List.setIfInBounds_toArray,List.set_cons_zero,List.set_cons_succ]
    refine wpAnyH_take (i:=12) (oi:={ dst:=some 25,op:=Op.move (Operand.tmp 0),type:=25,pos:=_,after:=_,guard:=some (6,false) }) (v:=undef) rfl (by kernel_rfl) (by kernel_rfl) (by kernel_rfl) (fun _ _ _ h=>h) (Or.inr ⟨by rfl,rfl⟩) hHeld ?_
    try simp only [Act.put,List.setIfInBounds_toArray,List.set_cons_zero,List.set_cons_succ]
    refine wpAnyH_take (i:=13) (oi:={ dst:=some 26,op:=Op.call { callee:=Callee.value (Operand.func 50),args:=#[Operand.tmp 25],argTypes:=#[25] },type:=3,pos:=_,after:=_,guard:=some (6,false) }) (v:=undef) rfl (by kernel_rfl) (by kernel_rfl) (by kernel_rfl) (fun _ _ _ h=>h) (Or.inr ⟨by rfl,rfl⟩) hHeld ?_
    try simp only [Act.put,List.setIfInBounds_toArray,List.set_cons_zero,List.set_cons_succ]
    refine wpAnyH_take (i:=14) (oi:={ dst:=some 27,op:=Op.binOp BinOp.geq 3 (Operand.tmp 24) (Operand.tmp 26) 3,type:=4,pos:=_,after:=_,guard:=some (6,false) }) (v:=undef) rfl (by kernel_rfl) (by kernel_rfl) (by kernel_rfl) (fun _ _ _ h=>h) (Or.inr ⟨by rfl,rfl⟩) hHeld ?_
    try simp only [Act.put,List.setIfInBounds_toArray,List.set_cons_zero,List.set_cons_succ]
    refine wpAnyH_take (i:=15) (oi:={ dst:=some 28,op:=Op.pick (Operand.tmp 19) (Operand.const (Value.bool true)) (Operand.tmp 27),type:=4,pos:=_,after:=_,guard:=none }) (v:=?_) rfl (by kernel_rfl) (by kernel_rfl) (by kernel_rfl) (fun _ _ _ h=>h) (Or.inl ⟨by rfl,?_⟩) hHeld ?_
    rotate_left 1
    ·(intro W hW;(try dsimp only at hW);go_simp;try with_reducible rfl)
    try simp only [Act.put,List.setIfInBounds_toArray,List.set_cons_zero,List.set_cons_succ]
    refine wpAnyH_take (i:=16) (oi:={ dst:=some 29,op:=Op.move (Operand.tmp 28),type:=4,pos:=_,after:=_,guard:=none }) (v:=?_) rfl (by kernel_rfl) (by kernel_rfl) (by kernel_rfl) (fun _ _ _ h=>h) (Or.inl ⟨by rfl,?_⟩) hHeld ?_
    rotate_left 1
    ·(intro W hW;(try dsimp only at hW);go_simp;try with_reducible rfl)
    try simp only [Act.put,List.setIfInBounds_toArray,List.set_cons_zero,List.set_cons_succ]
    refine wpAnyH_take (i:=17) (oi:={ dst:=some 30,op:=Op.move (Operand.tmp 1),type:=27,pos:=_,after:=_,guard:=some (16,false) }) (v:=undef) rfl (by kernel_rfl) (by kernel_rfl) (by kernel_rfl) (fun _ _ _ h=>h) (Or.inr ⟨by rfl,rfl⟩) hHeld ?_
    try simp only [Act.put,List.setIfInBounds_toArray,List.set_cons_zero,List.set_cons_succ]
    refine wpAnyH_take (i:=18) (oi:={ dst:=some 31,op:=Op.move (Operand.tmp 5),type:=3,pos:=_,after:=_,guard:=some (16,false) }) (v:=undef) rfl (by kernel_rfl) (by kernel_rfl) (by kernel_rfl) (fun _ _ _ h=>h) (Or.inr ⟨by rfl,rfl⟩) hHeld ?_
    try simp only [Act.put,List.setIfInBounds_toArray,List.set_cons_zero,List.set_cons_succ]
    refine wpAnyH_take (i:=19) (oi:={ dst:=some 32,op:=Op.indexAddr 27 (Operand.tmp 30) (Operand.tmp 31),type:=0,pos:=_,after:=_,guard:=some (16,false) }) (v:=undef) rfl (by kernel_rfl) (by kernel_rfl) (by kernel_rfl) (fun _ _ _ h=>h) (Or.inr ⟨by rfl,rfl⟩) hHeld ?_
    try simp only [Act.put,List.setIfInBounds_toArray,List.set_cons_zero,List.set_cons_succ]
    refine wpAnyH_take (i:=20) (oi:={ dst:=some 33,op:=Op.fieldAddr 42 (Operand.tmp 32) 1,type:=0,pos:=_,after:=_,guard:=some (16,false) }) (v:=undef) rfl (by kernel_rfl) (by kernel_rfl) (by kernel_rfl) (fun _ _ _ h=>h) (Or.inr ⟨by rfl,rfl⟩) hHeld ?_
    try simp only [Act.put,List.setIfInBounds_toArray,List.set_cons_zero,List.set_cons_succ]
    refine wpAnyH_take (i:=21) (oi:={ dst:=some 34,op:=Op.load 40 (Operand.tmp 33),type:=40,pos:=_,after:=_,guard:=some (16,false) }) (v:=undef) rfl (by kernel_rfl) (by kernel_rfl) (by kernel_rfl) (fun _ _ _ h=>h) (Or.inr ⟨by rfl,rfl⟩) hHeld ?_
    try simp only [Act.put,List.setIfInBounds_toArray,List.set_cons_zero,List.set_cons_succ]
    refine wpAnyH_take (i:=22) (oi:={ dst:=some 35,op:=Op.call { callee:=Callee.builtin Builtin.len,args:=#[Operand.tmp 34],argTypes:=#[40] },type:=3,pos:=_,after:=_,guard:=some (16,false) }) (v:=undef) rfl (by kernel_rfl) (by kernel_rfl) (by kernel_rfl) (fun _ _ _ h=>h) (Or.inr ⟨by rfl,rfl⟩) hHeld ?_
    try simp only [Act.put,List.setIfInBounds_toArray,List.set_cons_zero,List.set_cons_succ]
    refine wpAnyH_take (i:=23) (oi:={ dst:=some 36,op:=Op.binOp BinOp.neq 3 (Operand.tmp 35) (Operand.const (Value.int IntKind.i64 64)) 3,type:=4,pos:=_,after:=_,guard:=some (16,false) }) (v:=undef) rfl (by kernel_rfl) (by kernel_rfl) (by kernel_rfl) (fun _ _ _ h=>h) (Or.inr ⟨by rfl,rfl⟩) hHeld ?_
    try simp only [Act.put,List.setIfInBounds_toArray,List.set_cons_zero,List.set_cons_succ]
    refine wpAnyH_take (i:=24) (oi:={ dst:=some 37,op:=Op.pick (Operand.tmp 29) (Operand.const (Value.bool true)) (Operand.tmp 36),type:=4,pos:=_,after:=_,guard:=none }) (v:=?_) rfl (by kernel_rfl) (by kernel_rfl) (by kernel_rfl) (fun _ _ _ h=>h) (Or.inl ⟨by rfl,?_⟩) hHeld ?_
    rotate_left 1
    ·(intro W hW;(try dsimp only at hW);go_simp;try with_reducible rfl)
    try simp only [Act.put,List.setIfInBounds_toArray,List.set_cons_zero,List.set_cons_succ]
    refine wpAnyH_done (by kernel_rfl) ?_ _
    refine NoPanic.normal ?_
    go_wp2_with fail
    go_ret
    rw [HF.out]
    exact ⟨rfl,HQ.out.trans ((Below.refl _ V).drew.mono HQ.out.size)⟩
   have d0:decide (xa<0)=false:=decide_eq_false h0
   by_cases h1:(m:Int)≤xa
   ·have d1:decide ((m:Int)≤xa)=true:=decide_eq_true h1
    have HF:Hid (r=false):=Lib.hid (HNO.out fun h=>by have:=h.2.1;dsimp only at this;omega)
    go_wp2_with fail
    refine wp_region_noPanic ?_
    refine wp_region_held_drew (S:=fun W=>Below V.heap.size V W) (by kernel_rfl) ((Below.refl _ V).drew) (fun hHeld=>?_)
    refine wpAnyH_take (i:=0) (oi:={ dst:=some 13,op:=Op.move (Operand.tmp 1),type:=27,pos:=_,after:=_,guard:=none }) (v:=?_) rfl (by kernel_rfl) (by kernel_rfl) (by kernel_rfl) (fun _ _ _ h=>h) (Or.inl ⟨by rfl,?_⟩) hHeld ?_
    rotate_left 1
    ·(intro W hW;(try dsimp only at hW);go_simp;try with_reducible rfl)
    try simp only [Act.put,List.setIfInBounds_toArray,List.set_cons_zero,List.set_cons_succ]
    refine wpAnyH_take (i:=1) (oi:={ dst:=some 14,op:=Op.move (Operand.tmp 5),type:=3,pos:=_,after:=_,guard:=none }) (v:=?_) rfl (by kernel_rfl) (by kernel_rfl) (by kernel_rfl) (fun _ _ _ h=>h) (Or.inl ⟨by rfl,?_⟩) hHeld ?_
    rotate_left 1
    ·(intro W hW;(try dsimp only at hW);go_simp;try with_reducible rfl)
    try simp only [Act.put,List.setIfInBounds_toArray,List.set_cons_zero,List.set_cons_succ]
    refine wpAnyH_take (i:=2) (oi:={ dst:=some 15,op:=Op.indexAddr 27 (Operand.tmp 13) (Operand.tmp 14),type:=0,pos:=_,after:=_,guard:=none }) (v:=?_) rfl (by kernel_rfl) (by kernel_rfl) (by kernel_rfl) (fun _ _ _ h=>h) (Or.inl ⟨by rfl,?_⟩) hHeld ?_
    rotate_left 1
    ·(intro W hW;(try dsimp only at hW);go_simp;try with_reducible rfl)
    try simp only [Act.put,List.setIfInBounds_toArray,List.set_cons_zero,List.set_cons_succ]
    refine wpAnyH_take (i:=3) (oi:={ dst:=some 16,op:=Op.fieldAddr 42 (Operand.tmp 15) 0,type:=0,pos:=_,after:=_,guard:=none }) (v:=?_) rfl (by kernel_rfl) (by kernel_rfl) (by kernel_rfl) (fun _ _ _ h=>h) (Or.inl ⟨by rfl,?_⟩) hHeld ?_
    rotate_left 1
    ·(intro W hW;(try dsimp only at hW);go_simp;try with_reducible rfl)
    try simp only [Act.put,List.setIfInBounds_toArray,List.set_cons_zero,List.set_cons_succ]
    refine wpAnyH_take (i:=4) (oi:={ dst:=some 17,op:=Op.load 3 (Operand.tmp 16),type:=3,pos:=_,after:=_,guard:=none }) (v:=?_) rfl (by kernel_rfl) (by kernel_rfl) (by kernel_rfl) (fun _ _ _ h=>h) (Or.inl ⟨by rfl,?_⟩) hHeld ?_
    rotate_left 1
    ·(intro W hW;have hk:=(Below.cell (p:=⟨b,off+k*2,none⟩) hW hb).trans hc0;(try dsimp only at hW);go_simp;try with_reducible rfl)
    try simp only [Act.put,List.setIfInBounds_toArray,List.set_cons_zero,List.set_cons_succ]
    refine wpAnyH_take (i:=5) (oi:={ dst:=some 18,op:=Op.binOp BinOp.lss 3 (Operand.tmp 17) (Operand.const (Value.int IntKind.i64 0)) 3,type:=4,pos:=_,after:=_,guard:=none }) (v:=?_) rfl (by kernel_rfl) (by kernel_rfl) (by kernel_rfl) (fun _ _ _ h=>h) (Or.inl ⟨by rfl,?_⟩) hHeld ?_
    rotate_left 1
    ·(intro W hW;(try dsimp only at hW);go_simp;try with_reducible rfl)
    try simp only [Act.put,List.setIfInBounds_toArray,List.set_cons_zero,List.set_cons_succ]
    refine wpAnyH_take (i:=6) (oi:={ dst:=some 19,op:=Op.move (Operand.tmp 18),type:=4,pos:=_,after:=_,guard:=none }) (v:=?_) rfl (by kernel_rfl) (by kernel_rfl) (by kernel_rfl) (fun _ _ _ h=>h) (Or.inl ⟨by rfl,?_⟩) hHeld ?_
    rotate_left 1
    ·(intro W hW;(try dsimp only at hW);go_simp;try with_reducible rfl)
    try simp only [Act.put,List.setIfInBounds_toArray,List.set_cons_zero,List.set_cons_succ]
    refine wpAnyH_take (i:=7) (oi:={ dst:=some 20,op:=Op.move (Operand.tmp 1),type:=27,pos:=_,after:=_,guard:=some (6,false) }) (v:=?_) rfl (by kernel_rfl) (by kernel_rfl) (by kernel_rfl) (fun _ _ _ h=>h) (Or.inl ⟨by rfl,?_⟩) hHeld ?_
    rotate_left 1
    ·(intro W hW;(try dsimp only at hW);go_simp;try with_reducible rfl)
    try simp only [Act.put,List.setIfInBounds_toArray,List.set_cons_zero,List.set_cons_succ]
    refine wpAnyH_take (i:=8) (oi:={ dst:=some 21,op:=Op.move (Operand.tmp 5),type:=3,pos:=_,after:=_,guard:=some (6,false) }) (v:=?_) rfl (by kernel_rfl) (by kernel_rfl) (by kernel_rfl) (fun _ _ _ h=>h) (Or.inl ⟨by rfl,?_⟩) hHeld ?_
    rotate_left 1
    ·(intro W hW;(try dsimp only at hW);go_simp;try with_reducible rfl)
    try simp only [Act.put,List.setIfInBounds_toArray,List.set_cons_zero,List.set_cons_succ]
    refine wpAnyH_take (i:=9) (oi:={ dst:=some 22,op:=Op.indexAddr 27 (Operand.tmp 20) (Operand.tmp 21),type:=0,pos:=_,after:=_,guard:=some (6,false) }) (v:=?_) rfl (by kernel_rfl) (by kernel_rfl) (by kernel_rfl) (fun _ _ _ h=>h) (Or.inl ⟨by rfl,?_⟩) hHeld ?_
    rotate_left 1
    ·(intro W hW;(try dsimp only at hW);go_simp;try with_reducible rfl)
    try simp only [Act.put,List.setIfInBounds_toArray,List.set_cons_zero,List.set_cons_succ]
    refine wpAnyH_take (i:=10) (oi:={ dst:=some 23,op:=Op.fieldAddr 42 (Operand.tmp 22) 0,type:=0,pos:=_,after:=_,guard:=some (6,false) }) (v:=?_) rfl (by kernel_rfl) (by kernel_rfl) (by kernel_rfl) (fun _ _ _ h=>h) (Or.inl ⟨by rfl,?_⟩) hHeld ?_
    rotate_left 1
    ·(intro W hW;(try dsimp only at hW);go_simp;try with_reducible rfl)
    try simp only [Act.put,List.setIfInBounds_toArray,List.set_cons_zero,List.set_cons_succ]
    refine wpAnyH_take (i:=11) (oi:={ dst:=some 24,op:=Op.load 3 (Operand.tmp 23),type:=3,pos:=_,after:=_,guard:=some (6,false) }) (v:=?_) rfl (by kernel_rfl) (by kernel_rfl) (by kernel_rfl) (fun _ _ _ h=>h) (Or.inl ⟨by rfl,?_⟩) hHeld ?_
    rotate_left 1
    ·(intro W hW;have hk:=(Below.cell (p:=⟨b,off+k*2,none⟩) hW hb).trans hc0;(try dsimp only at hW);go_simp;try with_reducible rfl)
    try simp only [Act.put,List.setIfInBounds_toArray,List.set_cons_zero,List.set_cons_succ]
    refine wpAnyH_take (i:=12) (oi:={ dst:=some 25,op:=Op.move (Operand.tmp 0),type:=25,pos:=_,after:=_,guard:=some (6,false) }) (v:=?_) rfl (by kernel_rfl) (by kernel_rfl) (by kernel_rfl) (fun _ _ _ h=>h) (Or.inl ⟨by rfl,?_⟩) hHeld ?_
    rotate_left 1
    ·(intro W hW;(try dsimp only at hW);go_simp;try with_reducible rfl)
    try simp only [Act.put,List.setIfInBounds_toArray,List.set_cons_zero,List.set_cons_succ]
    refine wpAnyH_ready (rs:=[13]) (by kernel_rfl) (by simp) ?_
    refine AllReadyH.cons (o:={ dst:=some 26,op:=Op.call { callee:=Callee.value (Operand.func 50),args:=#[Operand.tmp 25],argTypes:=#[25] },type:=3,pos:=_,after:=_,guard:=some (6,false) }) rfl (fun K hK=>?_) AllReadyH.nil
    go_simp
    refine (HMN.out _ (HQ.out.trans ((Below.refl _ V).drew.mono HQ.out.size))).mono ?_
    rintro e wq ⟨rfl,rfl⟩
    go_simp
    refine hK.out _ _ hHeld (fun _=>?_)
    clear hK K
    try simp only [Act.put,List.setIfInBounds_toArray,List.set_cons_zero,List.set_cons_succ]
    refine wpAnyH_take (i:=14) (oi:={ dst:=some 27,op:=Op.binOp BinOp.geq 3 (Operand.tmp 24) (Operand.tmp 26) 3,type:=4,pos:=_,after:=_,guard:=some (6,false) }) (v:=?_) rfl (by kernel_rfl) (by kernel_rfl) (by kernel_rfl) (fun _ _ _ h=>h) (Or.inl ⟨by rfl,?_⟩) hHeld ?_
    rotate_left 1
    ·(intro W hW;(try dsimp only at hW);go_simp;try with_reducible rfl)
    try simp only [Act.put,List.setIfInBounds_toArray,List.set_cons_zero,List.set_cons_succ]
    refine wpAnyH_take (i:=15) (oi:={ dst:=some 28,op:=Op.pick (Operand.tmp 19) (Operand.const (Value.bool true)) (Operand.tmp 27),type:=4,pos:=_,after:=_,guard:=none }) (v:=?_) rfl (by kernel_rfl) (by kernel_rfl) (by kernel_rfl) (fun _ _ _ h=>h) (Or.inl ⟨by rfl,?_⟩) hHeld ?_
    rotate_left 1
    ·(intro W hW;(try dsimp only at hW);go_simp;try with_reducible rfl)
    try simp only [Act.put,List.setIfInBounds_toArray,List.set_cons_zero,List.set_cons_succ]
    refine wpAnyH_take (i:=16) (oi:={ dst:=some 29,op:=Op.move (Operand.tmp 28),type:=4,pos:=_,after:=_,guard:=none }) (v:=?_) rfl (by kernel_rfl) (by kernel_rfl) (by kernel_rfl) (fun _ _ _ h=>h) (Or.inl ⟨by rfl,?_⟩) hHeld ?_
    rotate_left 1
    ·(intro W hW;(try dsimp only at hW);go_simp;try with_reducible rfl)
    try simp only [Act.put,List.setIfInBounds_toArray,List.set_cons_zero,List.set_cons_succ]
    refine wpAnyH_take (i:=17) (oi:={ dst:=some 30,op:=Op.move (Operand.tmp 1),type:=27,pos:=_,after:=_,guard:=some (16,false) }) (v:=undef) rfl (by kernel_rfl) (by kernel_rfl) (by kernel_rfl) (fun _ _ _ h=>h) (Or.inr ⟨by rfl,rfl⟩) hHeld ?_
    try simp only [Act.put,List.setIfInBounds_toArray,List.set_cons_zero,List.set_cons_succ]
    refine wpAnyH_take (i:=18) (oi:={ dst:=some 31,op:=Op.move (Operand.tmp 5),type:=3,pos:=_,after:=_,guard:=some (16,false) }) (v:=undef) rfl (by kernel_rfl) (by kernel_rfl) (by kernel_rfl) (fun _ _ _ h=>h) (Or.inr ⟨by rfl,rfl⟩) hHeld ?_
    try simp only [Act.put,List.setIfInBounds_toArray,List.set_cons_zero,List.set_cons_succ]
    refine wpAnyH_take (i:=19) (oi:={ dst:=some 32,op:=Op.indexAddr 27 (Operand.tmp 30) (Operand.tmp 31),type:=0,pos:=_,after:=_,guard:=some (16,false) }) (v:=undef) rfl (by kernel_rfl) (by kernel_rfl) (by kernel_rfl) (fun _ _ _ h=>h) (Or.inr ⟨by rfl,rfl⟩) hHeld ?_
    try simp only [Act.put,List.setIfInBounds_toArray,List.set_cons_zero,List.set_cons_succ]
    refine wpAnyH_take (i:=20) (oi:={ dst:=some 33,op:=Op.fieldAddr 42 (Operand.tmp 32) 1,type:=0,pos:=_,after:=_,guard:=some (16,false) }) (v:=undef) rfl (by kernel_rfl) (by kernel_rfl) (by kernel_rfl) (fun _ _ _ h=>h) (Or.inr ⟨by rfl,rfl⟩) hHeld ?_
    try simp only [Act.put,List.setIfInBounds_toArray,List.set_cons_zero,List.set_cons_succ]
    refine wpAnyH_take (i:=21) (oi:={ dst:=some 34,op:=Op.load 40 (Operand.tmp 33),type:=40,pos:=_,after:=_,guard:=some (16,false) }) (v:=undef) rfl (by kernel_rfl) (by kernel_rfl) (by kernel_rfl) (fun _ _ _ h=>h) (Or.inr ⟨by rfl,rfl⟩) hHeld ?_
    try simp only [Act.put,List.setIfInBounds_toArray,List.set_cons_zero,List.set_cons_succ]
    refine wpAnyH_take (i:=22) (oi:={ dst:=some 35,op:=Op.call { callee:=Callee.builtin Builtin.len,args:=#[Operand.tmp 34],argTypes:=#[40] },type:=3,pos:=_,after:=_,guard:=some (16,false) }) (v:=undef) rfl (by kernel_rfl) (by kernel_rfl) (by kernel_rfl) (fun _ _ _ h=>h) (Or.inr ⟨by rfl,rfl⟩) hHeld ?_
    try simp only [Act.put,List.setIfInBounds_toArray,List.set_cons_zero,List.set_cons_succ]
    refine wpAnyH_take (i:=23) (oi:={ dst:=some 36,op:=Op.binOp BinOp.neq 3 (Operand.tmp 35) (Operand.const (Value.int IntKind.i64 64)) 3,type:=4,pos:=_,after:=_,guard:=some (16,false) }) (v:=undef) rfl (by kernel_rfl) (by kernel_rfl) (by kernel_rfl) (fun _ _ _ h=>h) (Or.inr ⟨by rfl,rfl⟩) hHeld ?_
    try simp only [Act.put,List.setIfInBounds_toArray,List.set_cons_zero,List.set_cons_succ]
    refine wpAnyH_take (i:=24) (oi:={ dst:=some 37,op:=Op.pick (Operand.tmp 29) (Operand.const (Value.bool true)) (Operand.tmp 36),type:=4,pos:=_,after:=_,guard:=none }) (v:=?_) rfl (by kernel_rfl) (by kernel_rfl) (by kernel_rfl) (fun _ _ _ h=>h) (Or.inl ⟨by rfl,?_⟩) hHeld ?_
    rotate_left 1
    ·(intro W hW;(try dsimp only at hW);go_simp;try with_reducible rfl)
    try simp only [Act.put,List.setIfInBounds_toArray,List.set_cons_zero,List.set_cons_succ]
    refine wpAnyH_done (by kernel_rfl) ?_ _
    refine NoPanic.normal ?_
    go_wp2_with fail
    go_ret
    rw [HF.out]
    exact ⟨rfl,HQ.out.trans ((Below.refl _ V).drew.mono HQ.out.size)⟩
   have d1:decide ((m:Int)≤xa)=false:=decide_eq_false h1
   by_cases h2:dn=64
   case neg =>
    have d2:((dn:Int) != 64)=true:=by rw [bne_iff_ne];omega
    have d3:((dn:Int) == 64)=false:=by rw [beq_eq_false_iff_ne];omega
    have HF:Hid (r=false):=Lib.hid (HNO.out fun h=>h2 (by rw [←HDN.out];exact h.2.2))
    go_wp2_with fail
    refine wp_region_noPanic ?_
    refine wp_region_held_drew (S:=fun W=>Below V.heap.size V W) (by kernel_rfl) ((Below.refl _ V).drew) (fun hHeld=>?_)
    refine wpAnyH_take (i:=0) (oi:={ dst:=some 13,op:=Op.move (Operand.tmp 1),type:=27,pos:=_,after:=_,guard:=none }) (v:=?_) rfl (by kernel_rfl) (by kernel_rfl) (by kernel_rfl) (fun _ _ _ h=>h) (Or.inl ⟨by rfl,?_⟩) hHeld ?_
    rotate_left 1
    ·(intro W hW;(try dsimp only at hW);go_simp;try with_reducible rfl)
    try simp only [Act.put,List.setIfInBounds_toArray,List.set_cons_zero,List.set_cons_succ]
    refine wpAnyH_take (i:=1) (oi:={ dst:=some 14,op:=Op.move (Operand.tmp 5),type:=3,pos:=_,after:=_,guard:=none }) (v:=?_) rfl (by kernel_rfl) (by kernel_rfl) (by kernel_rfl) (fun _ _ _ h=>h) (Or.inl ⟨by rfl,?_⟩) hHeld ?_
    rotate_left 1
    ·(intro W hW;(try dsimp only at hW);go_simp;try with_reducible rfl)
    try simp only [Act.put,List.setIfInBounds_toArray,List.set_cons_zero,List.set_cons_succ]
    refine wpAnyH_take (i:=2) (oi:={ dst:=some 15,op:=Op.indexAddr 27 (Operand.tmp 13) (Operand.tmp 14),type:=0,pos:=_,after:=_,guard:=none }) (v:=?_) rfl (by kernel_rfl) (by kernel_rfl) (by kernel_rfl) (fun _ _ _ h=>h) (Or.inl ⟨by rfl,?_⟩) hHeld ?_
    rotate_left 1
    ·(intro W hW;(try dsimp only at hW);go_simp;try with_reducible rfl)
    try simp only [Act.put,List.setIfInBounds_toArray,List.set_cons_zero,List.set_cons_succ]
    refine wpAnyH_take (i:=3) (oi:={ dst:=some 16,op:=Op.fieldAddr 42 (Operand.tmp 15) 0,type:=0,pos:=_,after:=_,guard:=none }) (v:=?_) rfl (by kernel_rfl) (by kernel_rfl) (by kernel_rfl) (fun _ _ _ h=>h) (Or.inl ⟨by rfl,?_⟩) hHeld ?_
    rotate_left 1
    ·(intro W hW;(try dsimp only at hW);go_simp;try with_reducible rfl)
    try simp only [Act.put,List.setIfInBounds_toArray,List.set_cons_zero,List.set_cons_succ]
    refine wpAnyH_take (i:=4) (oi:={ dst:=some 17,op:=Op.load 3 (Operand.tmp 16),type:=3,pos:=_,after:=_,guard:=none }) (v:=?_) rfl (by kernel_rfl) (by kernel_rfl) (by kernel_rfl) (fun _ _ _ h=>h) (Or.inl ⟨by rfl,?_⟩) hHeld ?_
    rotate_left 1
    ·(intro W hW;have hk:=(Below.cell (p:=⟨b,off+k*2,none⟩) hW hb).trans hc0;(try dsimp only at hW);go_simp;try with_reducible rfl)
    try simp only [Act.put,List.setIfInBounds_toArray,List.set_cons_zero,List.set_cons_succ]
    refine wpAnyH_take (i:=5) (oi:={ dst:=some 18,op:=Op.binOp BinOp.lss 3 (Operand.tmp 17) (Operand.const (Value.int IntKind.i64 0)) 3,type:=4,pos:=_,after:=_,guard:=none }) (v:=?_) rfl (by kernel_rfl) (by kernel_rfl) (by kernel_rfl) (fun _ _ _ h=>h) (Or.inl ⟨by rfl,?_⟩) hHeld ?_
    rotate_left 1
    ·(intro W hW;(try dsimp only at hW);go_simp;try with_reducible rfl)
    try simp only [Act.put,List.setIfInBounds_toArray,List.set_cons_zero,List.set_cons_succ]
    refine wpAnyH_take (i:=6) (oi:={ dst:=some 19,op:=Op.move (Operand.tmp 18),type:=4,pos:=_,after:=_,guard:=none }) (v:=?_) rfl (by kernel_rfl) (by kernel_rfl) (by kernel_rfl) (fun _ _ _ h=>h) (Or.inl ⟨by rfl,?_⟩) hHeld ?_
    rotate_left 1
    ·(intro W hW;(try dsimp only at hW);go_simp;try with_reducible rfl)
    try simp only [Act.put,List.setIfInBounds_toArray,List.set_cons_zero,List.set_cons_succ]
    refine wpAnyH_take (i:=7) (oi:={ dst:=some 20,op:=Op.move (Operand.tmp 1),type:=27,pos:=_,after:=_,guard:=some (6,false) }) (v:=?_) rfl (by kernel_rfl) (by kernel_rfl) (by kernel_rfl) (fun _ _ _ h=>h) (Or.inl ⟨by rfl,?_⟩) hHeld ?_
    rotate_left 1
    ·(intro W hW;(try dsimp only at hW);go_simp;try with_reducible rfl)
    try simp only [Act.put,List.setIfInBounds_toArray,List.set_cons_zero,List.set_cons_succ]
    refine wpAnyH_take (i:=8) (oi:={ dst:=some 21,op:=Op.move (Operand.tmp 5),type:=3,pos:=_,after:=_,guard:=some (6,false) }) (v:=?_) rfl (by kernel_rfl) (by kernel_rfl) (by kernel_rfl) (fun _ _ _ h=>h) (Or.inl ⟨by rfl,?_⟩) hHeld ?_
    rotate_left 1
    ·(intro W hW;(try dsimp only at hW);go_simp;try with_reducible rfl)
    try simp only [Act.put,List.setIfInBounds_toArray,List.set_cons_zero,List.set_cons_succ]
    refine wpAnyH_take (i:=9) (oi:={ dst:=some 22,op:=Op.indexAddr 27 (Operand.tmp 20) (Operand.tmp 21),type:=0,pos:=_,after:=_,guard:=some (6,false) }) (v:=?_) rfl (by kernel_rfl) (by kernel_rfl) (by kernel_rfl) (fun _ _ _ h=>h) (Or.inl ⟨by rfl,?_⟩) hHeld ?_
    rotate_left 1
    ·(intro W hW;(try dsimp only at hW);go_simp;try with_reducible rfl)
    try simp only [Act.put,List.setIfInBounds_toArray,List.set_cons_zero,List.set_cons_succ]
    refine wpAnyH_take (i:=10) (oi:={ dst:=some 23,op:=Op.fieldAddr 42 (Operand.tmp 22) 0,type:=0,pos:=_,after:=_,guard:=some (6,false) }) (v:=?_) rfl (by kernel_rfl) (by kernel_rfl) (by kernel_rfl) (fun _ _ _ h=>h) (Or.inl ⟨by rfl,?_⟩) hHeld ?_
    rotate_left 1
    ·(intro W hW;(try dsimp only at hW);go_simp;try with_reducible rfl)
    try simp only [Act.put,List.setIfInBounds_toArray,List.set_cons_zero,List.set_cons_succ]
    refine wpAnyH_take (i:=11) (oi:={ dst:=some 24,op:=Op.load 3 (Operand.tmp 23),type:=3,pos:=_,after:=_,guard:=some (6,false) }) (v:=?_) rfl (by kernel_rfl) (by kernel_rfl) (by kernel_rfl) (fun _ _ _ h=>h) (Or.inl ⟨by rfl,?_⟩) hHeld ?_
    rotate_left 1
    ·(intro W hW;have hk:=(Below.cell (p:=⟨b,off+k*2,none⟩) hW hb).trans hc0;(try dsimp only at hW);go_simp;try with_reducible rfl)
    try simp only [Act.put,List.setIfInBounds_toArray,List.set_cons_zero,List.set_cons_succ]
    refine wpAnyH_take (i:=12) (oi:={ dst:=some 25,op:=Op.move (Operand.tmp 0),type:=25,pos:=_,after:=_,guard:=some (6,false) }) (v:=?_) rfl (by kernel_rfl) (by kernel_rfl) (by kernel_rfl) (fun _ _ _ h=>h) (Or.inl ⟨by rfl,?_⟩) hHeld ?_
    rotate_left 1
    ·(intro W hW;(try dsimp only at hW);go_simp;try with_reducible rfl)
    try simp only [Act.put,List.setIfInBounds_toArray,List.set_cons_zero,List.set_cons_succ]
    refine wpAnyH_ready (rs:=[13]) (by kernel_rfl) (by simp) ?_
    refine AllReadyH.cons (o:={ dst:=some 26,op:=Op.call { callee:=Callee.value (Operand.func 50),args:=#[Operand.tmp 25],argTypes:=#[25] },type:=3,pos:=_,after:=_,guard:=some (6,false) }) rfl (fun K hK=>?_) AllReadyH.nil
    go_simp
    refine (HMN.out _ (HQ.out.trans ((Below.refl _ V).drew.mono HQ.out.size))).mono ?_
    rintro e wq ⟨rfl,rfl⟩
    go_simp
    refine hK.out _ _ hHeld (fun _=>?_)
    clear hK K
    try simp only [Act.put,List.setIfInBounds_toArray,List.set_cons_zero,List.set_cons_succ]
    refine wpAnyH_take (i:=14) (oi:={ dst:=some 27,op:=Op.binOp BinOp.geq 3 (Operand.tmp 24) (Operand.tmp 26) 3,type:=4,pos:=_,after:=_,guard:=some (6,false) }) (v:=?_) rfl (by kernel_rfl) (by kernel_rfl) (by kernel_rfl) (fun _ _ _ h=>h) (Or.inl ⟨by rfl,?_⟩) hHeld ?_
    rotate_left 1
    ·(intro W hW;(try dsimp only at hW);go_simp;try with_reducible rfl)
    try simp only [Act.put,List.setIfInBounds_toArray,List.set_cons_zero,List.set_cons_succ]
    refine wpAnyH_take (i:=15) (oi:={ dst:=some 28,op:=Op.pick (Operand.tmp 19) (Operand.const (Value.bool true)) (Operand.tmp 27),type:=4,pos:=_,after:=_,guard:=none }) (v:=?_) rfl (by kernel_rfl) (by kernel_rfl) (by kernel_rfl) (fun _ _ _ h=>h) (Or.inl ⟨by rfl,?_⟩) hHeld ?_
    rotate_left 1
    ·(intro W hW;(try dsimp only at hW);go_simp;try with_reducible rfl)
    try simp only [Act.put,List.setIfInBounds_toArray,List.set_cons_zero,List.set_cons_succ]
    refine wpAnyH_take (i:=16) (oi:={ dst:=some 29,op:=Op.move (Operand.tmp 28),type:=4,pos:=_,after:=_,guard:=none }) (v:=?_) rfl (by kernel_rfl) (by kernel_rfl) (by kernel_rfl) (fun _ _ _ h=>h) (Or.inl ⟨by rfl,?_⟩) hHeld ?_
    rotate_left 1
    ·(intro W hW;(try dsimp only at hW);go_simp;try with_reducible rfl)
    try simp only [Act.put,List.setIfInBounds_toArray,List.set_cons_zero,List.set_cons_succ]
    refine wpAnyH_take (i:=17) (oi:={ dst:=some 30,op:=Op.move (Operand.tmp 1),type:=27,pos:=_,after:=_,guard:=some (16,false) }) (v:=?_) rfl (by kernel_rfl) (by kernel_rfl) (by kernel_rfl) (fun _ _ _ h=>h) (Or.inl ⟨by rfl,?_⟩) hHeld ?_
    rotate_left 1
    ·(intro W hW;(try dsimp only at hW);go_simp;try with_reducible rfl)
    try simp only [Act.put,List.setIfInBounds_toArray,List.set_cons_zero,List.set_cons_succ]
    refine wpAnyH_take (i:=18) (oi:={ dst:=some 31,op:=Op.move (Operand.tmp 5),type:=3,pos:=_,after:=_,guard:=some (16,false) }) (v:=?_) rfl (by kernel_rfl) (by kernel_rfl) (by kernel_rfl) (fun _ _ _ h=>h) (Or.inl ⟨by rfl,?_⟩) hHeld ?_
    rotate_left 1
    ·(intro W hW;(try dsimp only at hW);go_simp;try with_reducible rfl)
    try simp only [Act.put,List.setIfInBounds_toArray,List.set_cons_zero,List.set_cons_succ]
    refine wpAnyH_take (i:=19) (oi:={ dst:=some 32,op:=Op.indexAddr 27 (Operand.tmp 30) (Operand.tmp 31),type:=0,pos:=_,after:=_,guard:=some (16,false) }) (v:=?_) rfl (by kernel_rfl) (by kernel_rfl) (by kernel_rfl) (fun _ _ _ h=>h) (Or.inl ⟨by rfl,?_⟩) hHeld ?_
    rotate_left 1
    ·(intro W hW;(try dsimp only at hW);go_simp;try with_reducible rfl)
    try simp only [Act.put,List.setIfInBounds_toArray,List.set_cons_zero,List.set_cons_succ]
    refine wpAnyH_take (i:=20) (oi:={ dst:=some 33,op:=Op.fieldAddr 42 (Operand.tmp 32) 1,type:=0,pos:=_,after:=_,guard:=some (16,false) }) (v:=?_) rfl (by kernel_rfl) (by kernel_rfl) (by kernel_rfl) (fun _ _ _ h=>h) (Or.inl ⟨by rfl,?_⟩) hHeld ?_
    rotate_left 1
    ·(intro W hW;(try dsimp only at hW);go_simp;try with_reducible rfl)
    try simp only [Act.put,List.setIfInBounds_toArray,List.set_cons_zero,List.set_cons_succ]
    refine wpAnyH_take (i:=21) (oi:={ dst:=some 34,op:=Op.load 40 (Operand.tmp 33),type:=40,pos:=_,after:=_,guard:=some (16,false) }) (v:=?_) rfl (by kernel_rfl) (by kernel_rfl) (by kernel_rfl) (fun _ _ _ h=>h) (Or.inl ⟨by rfl,?_⟩) hHeld ?_
    rotate_left 1
    ·(intro W hW;have hk:=(Below.cell (p:=⟨b,off+k*2+1,none⟩) hW hb).trans hc1;(try dsimp only at hW);go_simp;try with_reducible rfl)
    try simp only [Act.put,List.setIfInBounds_toArray,List.set_cons_zero,List.set_cons_succ]
    refine wpAnyH_take (i:=22) (oi:={ dst:=some 35,op:=Op.call { callee:=Callee.builtin Builtin.len,args:=#[Operand.tmp 34],argTypes:=#[40] },type:=3,pos:=_,after:=_,guard:=some (16,false) }) (v:=?_) rfl (by kernel_rfl) (by kernel_rfl) (by kernel_rfl) (fun _ _ _ h=>h) (Or.inl ⟨by rfl,?_⟩) hHeld ?_
    rotate_left 1
    ·(intro W hW;(try dsimp only at hW);go_simp;try with_reducible rfl)
    try simp only [Act.put,List.setIfInBounds_toArray,List.set_cons_zero,List.set_cons_succ]
    refine wpAnyH_take (i:=23) (oi:={ dst:=some 36,op:=Op.binOp BinOp.neq 3 (Operand.tmp 35) (Operand.const (Value.int IntKind.i64 64)) 3,type:=4,pos:=_,after:=_,guard:=some (16,false) }) (v:=?_) rfl (by kernel_rfl) (by kernel_rfl) (by kernel_rfl) (fun _ _ _ h=>h) (Or.inl ⟨by rfl,?_⟩) hHeld ?_
    rotate_left 1
    ·(intro W hW;(try dsimp only at hW);go_simp;try with_reducible rfl)
    try simp only [Act.put,List.setIfInBounds_toArray,List.set_cons_zero,List.set_cons_succ]
    refine wpAnyH_take (i:=24) (oi:={ dst:=some 37,op:=Op.pick (Operand.tmp 29) (Operand.const (Value.bool true)) (Operand.tmp 36),type:=4,pos:=_,after:=_,guard:=none }) (v:=?_) rfl (by kernel_rfl) (by kernel_rfl) (by kernel_rfl) (fun _ _ _ h=>h) (Or.inl ⟨by rfl,?_⟩) hHeld ?_
    rotate_left 1
    ·(intro W hW;(try dsimp only at hW);go_simp;try with_reducible rfl)
    try simp only [Act.put,List.setIfInBounds_toArray,List.set_cons_zero,List.set_cons_succ]
    refine wpAnyH_done (by kernel_rfl) ?_ _
    refine NoPanic.normal ?_
    go_wp2_with fail
    go_ret
    rw [HF.out]
    exact ⟨rfl,HQ.out.trans ((Below.refl _ V).drew.mono HQ.out.size)⟩
   subst h2
   have HOK:Hid (OkW m (l.getD k default)):=Lib.hid (by rw [←HX.out];exact ⟨by dsimp only;omega,by dsimp only;omega,HDN.out⟩)
   go_wp2_with fail
   refine wp_region_noPanic ?_
   refine wp_region_held_drew (S:=fun W=>Below V.heap.size V W) (by kernel_rfl) ((Below.refl _ V).drew) (fun hHeld=>?_)
   refine wpAnyH_take (i:=0) (oi:={ dst:=some 13,op:=Op.move (Operand.tmp 1),type:=27,pos:=_,after:=_,guard:=none }) (v:=?_) rfl (by kernel_rfl) (by kernel_rfl) (by kernel_rfl) (fun _ _ _ h=>h) (Or.inl ⟨by rfl,?_⟩) hHeld ?_
   rotate_left 1
   ·(intro W hW;(try dsimp only at hW);go_simp;try with_reducible rfl)
   try simp only [Act.put,List.setIfInBounds_toArray,List.set_cons_zero,List.set_cons_succ]
   refine wpAnyH_take (i:=1) (oi:={ dst:=some 14,op:=Op.move (Operand.tmp 5),type:=3,pos:=_,after:=_,guard:=none }) (v:=?_) rfl (by kernel_rfl) (by kernel_rfl) (by kernel_rfl) (fun _ _ _ h=>h) (Or.inl ⟨by rfl,?_⟩) hHeld ?_
   rotate_left 1
   ·(intro W hW;(try dsimp only at hW);go_simp;try with_reducible rfl)
   try simp only [Act.put,List.setIfInBounds_toArray,List.set_cons_zero,List.set_cons_succ]
   refine wpAnyH_take (i:=2) (oi:={ dst:=some 15,op:=Op.indexAddr 27 (Operand.tmp 13) (Operand.tmp 14),type:=0,pos:=_,after:=_,guard:=none }) (v:=?_) rfl (by kernel_rfl) (by kernel_rfl) (by kernel_rfl) (fun _ _ _ h=>h) (Or.inl ⟨by rfl,?_⟩) hHeld ?_
   rotate_left 1
   ·(intro W hW;(try dsimp only at hW);go_simp;try with_reducible rfl)
   try simp only [Act.put,List.setIfInBounds_toArray,List.set_cons_zero,List.set_cons_succ]
   refine wpAnyH_take (i:=3) (oi:={ dst:=some 16,op:=Op.fieldAddr 42 (Operand.tmp 15) 0,type:=0,pos:=_,after:=_,guard:=none }) (v:=?_) rfl (by kernel_rfl) (by kernel_rfl) (by kernel_rfl) (fun _ _ _ h=>h) (Or.inl ⟨by rfl,?_⟩) hHeld ?_
   rotate_left 1
   ·(intro W hW;(try dsimp only at hW);go_simp;try with_reducible rfl)
   try simp only [Act.put,List.setIfInBounds_toArray,List.set_cons_zero,List.set_cons_succ]
   refine wpAnyH_take (i:=4) (oi:={ dst:=some 17,op:=Op.load 3 (Operand.tmp 16),type:=3,pos:=_,after:=_,guard:=none }) (v:=?_) rfl (by kernel_rfl) (by kernel_rfl) (by kernel_rfl) (fun _ _ _ h=>h) (Or.inl ⟨by rfl,?_⟩) hHeld ?_
   rotate_left 1
   ·(intro W hW;have hk:=(Below.cell (p:=⟨b,off+k*2,none⟩) hW hb).trans hc0;(try dsimp only at hW);go_simp;try with_reducible rfl)
   try simp only [Act.put,List.setIfInBounds_toArray,List.set_cons_zero,List.set_cons_succ]
   refine wpAnyH_take (i:=5) (oi:={ dst:=some 18,op:=Op.binOp BinOp.lss 3 (Operand.tmp 17) (Operand.const (Value.int IntKind.i64 0)) 3,type:=4,pos:=_,after:=_,guard:=none }) (v:=?_) rfl (by kernel_rfl) (by kernel_rfl) (by kernel_rfl) (fun _ _ _ h=>h) (Or.inl ⟨by rfl,?_⟩) hHeld ?_
   rotate_left 1
   ·(intro W hW;(try dsimp only at hW);go_simp;try with_reducible rfl)
   try simp only [Act.put,List.setIfInBounds_toArray,List.set_cons_zero,List.set_cons_succ]
   refine wpAnyH_take (i:=6) (oi:={ dst:=some 19,op:=Op.move (Operand.tmp 18),type:=4,pos:=_,after:=_,guard:=none }) (v:=?_) rfl (by kernel_rfl) (by kernel_rfl) (by kernel_rfl) (fun _ _ _ h=>h) (Or.inl ⟨by rfl,?_⟩) hHeld ?_
   rotate_left 1
   ·(intro W hW;(try dsimp only at hW);go_simp;try with_reducible rfl)
   try simp only [Act.put,List.setIfInBounds_toArray,List.set_cons_zero,List.set_cons_succ]
   refine wpAnyH_take (i:=7) (oi:={ dst:=some 20,op:=Op.move (Operand.tmp 1),type:=27,pos:=_,after:=_,guard:=some (6,false) }) (v:=?_) rfl (by kernel_rfl) (by kernel_rfl) (by kernel_rfl) (fun _ _ _ h=>h) (Or.inl ⟨by rfl,?_⟩) hHeld ?_
   rotate_left 1
   ·(intro W hW;(try dsimp only at hW);go_simp;try with_reducible rfl)
   try simp only [Act.put,List.setIfInBounds_toArray,List.set_cons_zero,List.set_cons_succ]
   refine wpAnyH_take (i:=8) (oi:={ dst:=some 21,op:=Op.move (Operand.tmp 5),type:=3,pos:=_,after:=_,guard:=some (6,false) }) (v:=?_) rfl (by kernel_rfl) (by kernel_rfl) (by kernel_rfl) (fun _ _ _ h=>h) (Or.inl ⟨by rfl,?_⟩) hHeld ?_
   rotate_left 1
   ·(intro W hW;(try dsimp only at hW);go_simp;try with_reducible rfl)
   try simp only [Act.put,List.setIfInBounds_toArray,List.set_cons_zero,List.set_cons_succ]
   refine wpAnyH_take (i:=9) (oi:={ dst:=some 22,op:=Op.indexAddr 27 (Operand.tmp 20) (Operand.tmp 21),type:=0,pos:=_,after:=_,guard:=some (6,false) }) (v:=?_) rfl (by kernel_rfl) (by kernel_rfl) (by kernel_rfl) (fun _ _ _ h=>h) (Or.inl ⟨by rfl,?_⟩) hHeld ?_
   rotate_left 1
   ·(intro W hW;(try dsimp only at hW);go_simp;try with_reducible rfl)
   try simp only [Act.put,List.setIfInBounds_toArray,List.set_cons_zero,List.set_cons_succ]
   refine wpAnyH_take (i:=10) (oi:={ dst:=some 23,op:=Op.fieldAddr 42 (Operand.tmp 22) 0,type:=0,pos:=_,after:=_,guard:=some (6,false) }) (v:=?_) rfl (by kernel_rfl) (by kernel_rfl) (by kernel_rfl) (fun _ _ _ h=>h) (Or.inl ⟨by rfl,?_⟩) hHeld ?_
   rotate_left 1
   ·(intro W hW;(try dsimp only at hW);go_simp;try with_reducible rfl)
   try simp only [Act.put,List.setIfInBounds_toArray,List.set_cons_zero,List.set_cons_succ]
   refine wpAnyH_take (i:=11) (oi:={ dst:=some 24,op:=Op.load 3 (Operand.tmp 23),type:=3,pos:=_,after:=_,guard:=some (6,false) }) (v:=?_) rfl (by kernel_rfl) (by kernel_rfl) (by kernel_rfl) (fun _ _ _ h=>h) (Or.inl ⟨by rfl,?_⟩) hHeld ?_
   rotate_left 1
   ·(intro W hW;have hk:=(Below.cell (p:=⟨b,off+k*2,none⟩) hW hb).trans hc0;(try dsimp only at hW);go_simp;try with_reducible rfl)
   try simp only [Act.put,List.setIfInBounds_toArray,List.set_cons_zero,List.set_cons_succ]
   refine wpAnyH_take (i:=12) (oi:={ dst:=some 25,op:=Op.move (Operand.tmp 0),type:=25,pos:=_,after:=_,guard:=some (6,false) }) (v:=?_) rfl (by kernel_rfl) (by kernel_rfl) (by kernel_rfl) (fun _ _ _ h=>h) (Or.inl ⟨by rfl,?_⟩) hHeld ?_
   rotate_left 1
   ·(intro W hW;(try dsimp only at hW);go_simp;try with_reducible rfl)
   try simp only [Act.put,List.setIfInBounds_toArray,List.set_cons_zero,List.set_cons_succ]
   refine wpAnyH_ready (rs:=[13]) (by kernel_rfl) (by simp) ?_
   refine AllReadyH.cons (o:={ dst:=some 26,op:=Op.call { callee:=Callee.value (Operand.func 50),args:=#[Operand.tmp 25],argTypes:=#[25] },type:=3,pos:=_,after:=_,guard:=some (6,false) }) rfl (fun K hK=>?_) AllReadyH.nil
   go_simp
   refine (HMN.out _ (HQ.out.trans ((Below.refl _ V).drew.mono HQ.out.size))).mono ?_
   rintro e wq ⟨rfl,rfl⟩
   go_simp
   refine hK.out _ _ hHeld (fun _=>?_)
   clear hK K
   try simp only [Act.put,List.setIfInBounds_toArray,List.set_cons_zero,List.set_cons_succ]
   refine wpAnyH_take (i:=14) (oi:={ dst:=some 27,op:=Op.binOp BinOp.geq 3 (Operand.tmp 24) (Operand.tmp 26) 3,type:=4,pos:=_,after:=_,guard:=some (6,false) }) (v:=?_) rfl (by kernel_rfl) (by kernel_rfl) (by kernel_rfl) (fun _ _ _ h=>h) (Or.inl ⟨by rfl,?_⟩) hHeld ?_
   rotate_left 1
   ·(intro W hW;(try dsimp only at hW);go_simp;try with_reducible rfl)
   try simp only [Act.put,List.setIfInBounds_toArray,List.set_cons_zero,List.set_cons_succ]
   refine wpAnyH_take (i:=15) (oi:={ dst:=some 28,op:=Op.pick (Operand.tmp 19) (Operand.const (Value.bool true)) (Operand.tmp 27),type:=4,pos:=_,after:=_,guard:=none }) (v:=?_) rfl (by kernel_rfl) (by kernel_rfl) (by kernel_rfl) (fun _ _ _ h=>h) (Or.inl ⟨by rfl,?_⟩) hHeld ?_
   rotate_left 1
   ·(intro W hW;(try dsimp only at hW);go_simp;try with_reducible rfl)
   try simp only [Act.put,List.setIfInBounds_toArray,List.set_cons_zero,List.set_cons_succ]
   refine wpAnyH_take (i:=16) (oi:={ dst:=some 29,op:=Op.move (Operand.tmp 28),type:=4,pos:=_,after:=_,guard:=none }) (v:=?_) rfl (by kernel_rfl) (by kernel_rfl) (by kernel_rfl) (fun _ _ _ h=>h) (Or.inl ⟨by rfl,?_⟩) hHeld ?_
   rotate_left 1
   ·(intro W hW;(try dsimp only at hW);go_simp;try with_reducible rfl)
   try simp only [Act.put,List.setIfInBounds_toArray,List.set_cons_zero,List.set_cons_succ]
   refine wpAnyH_take (i:=17) (oi:={ dst:=some 30,op:=Op.move (Operand.tmp 1),type:=27,pos:=_,after:=_,guard:=some (16,false) }) (v:=?_) rfl (by kernel_rfl) (by kernel_rfl) (by kernel_rfl) (fun _ _ _ h=>h) (Or.inl ⟨by rfl,?_⟩) hHeld ?_
   rotate_left 1
   ·(intro W hW;(try dsimp only at hW);go_simp;try with_reducible rfl)
   try simp only [Act.put,List.setIfInBounds_toArray,List.set_cons_zero,List.set_cons_succ]
   refine wpAnyH_take (i:=18) (oi:={ dst:=some 31,op:=Op.move (Operand.tmp 5),type:=3,pos:=_,after:=_,guard:=some (16,false) }) (v:=?_) rfl (by kernel_rfl) (by kernel_rfl) (by kernel_rfl) (fun _ _ _ h=>h) (Or.inl ⟨by rfl,?_⟩) hHeld ?_
   rotate_left 1
   ·(intro W hW;(try dsimp only at hW);go_simp;try with_reducible rfl)
   try simp only [Act.put,List.setIfInBounds_toArray,List.set_cons_zero,List.set_cons_succ]
   refine wpAnyH_take (i:=19) (oi:={ dst:=some 32,op:=Op.indexAddr 27 (Operand.tmp 30) (Operand.tmp 31),type:=0,pos:=_,after:=_,guard:=some (16,false) }) (v:=?_) rfl (by kernel_rfl) (by kernel_rfl) (by kernel_rfl) (fun _ _ _ h=>h) (Or.inl ⟨by rfl,?_⟩) hHeld ?_
   rotate_left 1
   ·(intro W hW;(try dsimp only at hW);go_simp;try with_reducible rfl)
   try simp only [Act.put,List.setIfInBounds_toArray,List.set_cons_zero,List.set_cons_succ]
   refine wpAnyH_take (i:=20) (oi:={ dst:=some 33,op:=Op.fieldAddr 42 (Operand.tmp 32) 1,type:=0,pos:=_,after:=_,guard:=some (16,false) }) (v:=?_) rfl (by kernel_rfl) (by kernel_rfl) (by kernel_rfl) (fun _ _ _ h=>h) (Or.inl ⟨by rfl,?_⟩) hHeld ?_
   rotate_left 1
   ·(intro W hW;(try dsimp only at hW);go_simp;try with_reducible rfl)
   try simp only [Act.put,List.setIfInBounds_toArray,List.set_cons_zero,List.set_cons_succ]
   refine wpAnyH_take (i:=21) (oi:={ dst:=some 34,op:=Op.load 40 (Operand.tmp 33),type:=40,pos:=_,after:=_,guard:=some (16,false) }) (v:=?_) rfl (by kernel_rfl) (by kernel_rfl) (by kernel_rfl) (fun _ _ _ h=>h) (Or.inl ⟨by rfl,?_⟩) hHeld ?_
   rotate_left 1
   ·(intro W hW;have hk:=(Below.cell (p:=⟨b,off+k*2+1,none⟩) hW hb).trans hc1;(try dsimp only at hW);go_simp;try with_reducible rfl)
   try simp only [Act.put,List.setIfInBounds_toArray,List.set_cons_zero,List.set_cons_succ]
   refine wpAnyH_take (i:=22) (oi:={ dst:=some 35,op:=Op.call { callee:=Callee.builtin Builtin.len,args:=#[Operand.tmp 34],argTypes:=#[40] },type:=3,pos:=_,after:=_,guard:=some (16,false) }) (v:=?_) rfl (by kernel_rfl) (by kernel_rfl) (by kernel_rfl) (fun _ _ _ h=>h) (Or.inl ⟨by rfl,?_⟩) hHeld ?_
   rotate_left 1
   ·(intro W hW;(try dsimp only at hW);go_simp;try with_reducible rfl)
   try simp only [Act.put,List.setIfInBounds_toArray,List.set_cons_zero,List.set_cons_succ]
   refine wpAnyH_take (i:=23) (oi:={ dst:=some 36,op:=Op.binOp BinOp.neq 3 (Operand.tmp 35) (Operand.const (Value.int IntKind.i64 64)) 3,type:=4,pos:=_,after:=_,guard:=some (16,false) }) (v:=?_) rfl (by kernel_rfl) (by kernel_rfl) (by kernel_rfl) (fun _ _ _ h=>h) (Or.inl ⟨by rfl,?_⟩) hHeld ?_
   rotate_left 1
   ·(intro W hW;(try dsimp only at hW);go_simp;try with_reducible rfl)
   try simp only [Act.put,List.setIfInBounds_toArray,List.set_cons_zero,List.set_cons_succ]
   refine wpAnyH_take (i:=24) (oi:={ dst:=some 37,op:=Op.pick (Operand.tmp 29) (Operand.const (Value.bool true)) (Operand.tmp 36),type:=4,pos:=_,after:=_,guard:=none }) (v:=?_) rfl (by kernel_rfl) (by kernel_rfl) (by kernel_rfl) (fun _ _ _ h=>h) (Or.inl ⟨by rfl,?_⟩) hHeld ?_
   rotate_left 1
   ·(intro W hW;(try dsimp only at hW);go_simp;try with_reducible rfl)
   try simp only [Act.put,List.setIfInBounds_toArray,List.set_cons_zero,List.set_cons_succ]
   refine wpAnyH_done (by kernel_rfl) ?_ _
   refine NoPanic.normal ?_
   obtain ⟨Y,hY⟩:∃ Y,Y=V.drew:=⟨_,rfl⟩
   have HQY:Hid (Below w.heap.size w Y):=Lib.hid (by rw [hY];exact HQ.out.trans ((Below.refl _ V).drew.mono HQ.out.size))
   rw [←hY]
   clear hY hHeld hc0 hc1 hb
   go_wp2_with fail
   go_loopw [6] (fun i wr=>∃ j:Nat,j≤k∧i = .int .i64 (j:Int)∧(∀ i,i<j→(l.getD i default).at_≠xa)∧Below w.heap.size w wr) (fun i _=>k - (intOf i).toNat)
   case atStart=>exact ⟨0,Nat.zero_le _,rfl,(fun i hi=>absurd hi (Nat.not_lt_zero _)),HQY.out⟩
   case round =>
    obtain ⟨j,hj,rfl,hnj,hqj⟩:=hrel
    obtain ⟨Z,hZ⟩:∃ Z,Z=wr:=⟨_,rfl⟩
    subst hZ
    have HNJ:=Lib.hid hnj
    have HQJ:=Lib.hid hqj
    clear hnj hqj
    by_cases hjk:j<k
    case pos =>
     have hjI:(j:Int)<(k:Int):=by omega
     have hj0:(0:Int)≤(j:Int):=by omega
     have hjn:(j:Int)<(n:Int):=by omega
     have hjw:IntKind.i64.wrap ((j:Int)+1)=(j:Int)+1:=IntWalk.i64_in _ (by omega)
     have hrz:=HR.out.under HQJ.out
     obtain ⟨b1,o1,e1,hb1,hj0c,_,_⟩:=hrz.at_ (j:=j) (by rw [HL.out];omega)
     obtain ⟨b2,o2,e2,hb2,hk0c,_,_⟩:=hrz.at_ (j:=k) (by rw [HL.out];omega)
     injection e1 with e1
     injection e1 with e1a e1b
     subst e1a e1b
     injection e2 with e2
     injection e2 with e2a e2b
     subst e2a e2b
     rw [←HX.out] at hk0c
     dsimp only at hk0c
     obtain ⟨ya,hya⟩:∃ y,y=(l.getD j default).at_:=⟨_,rfl⟩
     rw [←hya] at hj0c
     have HYA:=Lib.hid hya
     clear hrz hya
     by_cases he:ya=xa
     ·have de:(ya == xa)=true:=by rw [beq_iff_eq];exact he
      have HF:Hid (r=false):=Lib.hid (by
       cases r
       ·rfl
       ·exact absurd (by rw [←HYA.out,←HX.out];exact he) ((HI.out.1 rfl).2 k hlt j hjk))
      clear he
      go_wp2_with fail
      go_quiet (fail)
      go_wp2_with fail
      go_ret
      rw [HF.out]
      exact ⟨rfl,belowN HQJ.out _⟩
     ·have de:(ya == xa)=false:=by rw [beq_eq_false_iff_ne];exact he
      have HNJ2:Hid (∀ i,i<j+1→(l.getD i default).at_≠xa):=Lib.hid fun i hi=>by
       rcases Nat.lt_or_ge i j with h | h
       ·exact HNJ.out i h
       ·obtain rfl:i=j:=by omega
        rw [←HYA.out]
        exact he
      clear he
      go_wp2_with fail
      go_quiet (fail)
      go_wp2_with fail
      go_roundw
      case rel=>exact ⟨j+1,by omega,by go_num,HNJ2.out,belowN HQJ.out _⟩
      case measure=>simp [intOf];omega
    case neg =>
     obtain rfl:j=k:=by omega
     have hjI:¬ ((j:Int)<(j:Int)):=by omega
     go_wp2_with fail
     go_roundw
     case rel =>
      refine ⟨j+1,by omega,by go_num,fun i hi=>?_,fun i hi q hq=>?_,HQJ.out⟩
      ·rcases Nat.lt_or_ge i j with h | h
       ·exact HO.out i h
       ·obtain rfl:i=j:=by omega
        exact HOK.out
      ·rcases Nat.lt_or_ge i j with h | h
       ·exact HNE.out i h q hq
       ·obtain rfl:i=j:=by omega
        rw [←HX.out]
        exact HNJ.out q hq
     case measure=>simp [intOf];omega
  case neg =>
   obtain rfl:k=n:=by omega
   have hkI:¬ ((k:Int)<(k:Int)):=by omega
   have HT:Hid (r=true):=Lib.hid (HI.out.2 ⟨HO.out,HNE.out⟩)
   go_wp2_with fail
   go_ret
   rw [HT.out]
   exact ⟨rfl,HQ.out⟩
end
end Go.Proofs.Ytkmbgbbmhpidkaa
namespace Go.Proofs.Ytkmbgbbmhpidkaa
open Go.RowKit Go.Shelf
set_option linter.unusedVariables false
set_option linter.unusedSimpArgs false

structure Cm (w W:World) (Af:Option Addr) (cf nf:Nat) (vf:List Value) (Al:Option Addr) (cl nl:Nat) (vl:List Value) (Ap:Option Addr) (cp np:Nat) (vp:List Value):Prop where
 f:OwnV 42 2 W Af cf nf vf
 l:OwnV 42 2 W Al cl nl vl
 p:OwnV 5 1 W Ap cp np vp
 bf:∀ g,blockOf Af=some g→w.heap.size≤g∧blockOf Al≠some g∧blockOf Ap≠some g
 bl:∀ g,blockOf Al=some g→w.heap.size≤g∧blockOf Ap≠some g
 bp:∀ g,blockOf Ap=some g→w.heap.size≤g
 bel:Below w.heap.size w W
section
variable {w W W':World} {Af:Option Addr} {cf nf:Nat} {vf:List Value} {Al:Option Addr} {cl nl:Nat} {vl:List Value} {Ap:Option Addr} {cp np:Nat} {vp:List Value}
theorem Cm.start (w:World):Cm w w none 0 0 [] none 0 0 [] none 0 0 [] :=
 ⟨OwnV.nil _ _ _,OwnV.nil _ _ _,OwnV.nil _ _ _,(fun g hg=>by simp [blockOf] at hg),(fun g hg=>by simp [blockOf] at hg),(fun g hg=>by simp [blockOf] at hg),Below.refl _ _⟩
theorem Cm.under (h:Cm w W Af cf nf vf Al cl nl vl Ap cp np vp) (hb:Below W.heap.size W W'):Cm w W' Af cf nf vf Al cl nl vl Ap cp np vp :=
 ⟨h.f.keep fun g _ hg=>hb.block g hg,h.l.keep fun g _ hg=>hb.block g hg,h.p.keep fun g _ hg=>hb.block g hg,h.bf,h.bl,h.bp,h.bel.trans (hb.mono h.bel.size)⟩
theorem grown_bel {row:Option Nat} (hb:Below w.heap.size w W) (hg:W.grownBy W' row) (hr:∀ g,row=some g→w.heap.size≤g):Below w.heap.size w W' :=
 hb.trans ⟨hg.os,hg.tape,hg.output,hg.size,fun b hlt=>hg.block b (Nat.lt_of_lt_of_le hlt hb.size) fun e=>by have:=hr b e.symm;omega⟩
theorem Cm.growF (h:Cm w W Af cf nf vf Al cl nl vl Ap cp np vp) {g9 c9 n9:Nat} {v9:List Value} (ho:OwnV 42 2 W' (some ⟨g9,0,none⟩) c9 n9 v9) (hg:W.grownBy W' (blockOf Af)) (hat:blockOf Af=some g9∨g9=W.heap.size):Cm w W' (some ⟨g9,0,none⟩) c9 n9 v9 Al cl nl vl Ap cp np vp:=by
 refine ⟨ho,h.l.keep fun g e hlt=>hg.block g hlt fun e2=>(h.bf g e2.symm).2.1 e,h.p.keep fun g e hlt=>hg.block g hlt fun e2=>(h.bf g e2.symm).2.2 e,fun g e=>?_,h.bl,h.bp,grown_bel h.bel hg fun g e=>(h.bf g e).1⟩
 obtain rfl:g9=g:=by simpa [blockOf] using e
 rcases hat with e2 | e2
 ·exact h.bf g9 e2
 ·refine ⟨by rw [e2];exact h.bel.size,fun e3=>?_,fun e3=>?_⟩
  ·have:=h.l.lt e3;omega
  ·have:=h.p.lt e3;omega
theorem Cm.growL (h:Cm w W Af cf nf vf Al cl nl vl Ap cp np vp) {g9 c9 n9:Nat} {v9:List Value} (ho:OwnV 42 2 W' (some ⟨g9,0,none⟩) c9 n9 v9) (hg:W.grownBy W' (blockOf Al)) (hat:blockOf Al=some g9∨g9=W.heap.size):Cm w W' Af cf nf vf (some ⟨g9,0,none⟩) c9 n9 v9 Ap cp np vp:=by
 refine ⟨h.f.keep fun g e hlt=>hg.block g hlt fun e2=>(h.bf g e).2.1 e2.symm,ho,h.p.keep fun g e hlt=>hg.block g hlt fun e2=>(h.bl g e2.symm).2 e,fun g e=>⟨(h.bf g e).1,fun e3=>?_,(h.bf g e).2.2⟩,fun g e=>?_,h.bp,grown_bel h.bel hg fun g e=>(h.bl g e).1⟩
 ·obtain rfl:g9=g:=by simpa [blockOf] using e3
  rcases hat with e2 | e2
  ·exact (h.bf g9 e).2.1 e2
  ·have:=h.f.lt e;omega
 ·obtain rfl:g9=g:=by simpa [blockOf] using e
  rcases hat with e2 | e2
  ·exact h.bl g9 e2
  ·exact ⟨by rw [e2];exact h.bel.size,fun e3=>by have:=h.p.lt e3;omega⟩
theorem Cm.growP (h:Cm w W Af cf nf vf Al cl nl vl Ap cp np vp) {g9 c9 n9:Nat} {v9:List Value} (ho:OwnV 5 1 W' (some ⟨g9,0,none⟩) c9 n9 v9) (hg:W.grownBy W' (blockOf Ap)) (hat:blockOf Ap=some g9∨g9=W.heap.size):Cm w W' Af cf nf vf Al cl nl vl (some ⟨g9,0,none⟩) c9 n9 v9:=by
 refine ⟨h.f.keep fun g e hlt=>hg.block g hlt fun e2=>(h.bf g e).2.2 e2.symm,h.l.keep fun g e hlt=>hg.block g hlt fun e2=>(h.bl g e).2 e2.symm,ho,fun g e=>⟨(h.bf g e).1,(h.bf g e).2.1,fun e3=>?_⟩,fun g e=>⟨(h.bl g e).1,fun e3=>?_⟩,fun g e=>?_,grown_bel h.bel hg fun g e=>h.bp g e⟩
 ·obtain rfl:g9=g:=by simpa [blockOf] using e3
  rcases hat with e2 | e2
  ·exact (h.bf g9 e).2.2 e2
  ·have:=h.f.lt e;omega
 ·obtain rfl:g9=g:=by simpa [blockOf] using e3
  rcases hat with e2 | e2
  ·exact (h.bl g9 e).2 e2
  ·have:=h.l.lt e;omega
 ·obtain rfl:g9=g:=by simpa [blockOf] using e
  rcases hat with e2 | e2
  ·exact h.bp g9 e2
  ·rw [e2];exact h.bel.size
end
theorem run_two (w:World) {A:Option Addr} {c n:Nat} {pl:List Nat} (ho:OwnV 5 1 w A c n (vals .u8 pl)) (g:Nat) {x y:Nat} (hg:Holds w g 5 #[.int .u8 (x:Int),.int .u8 (y:Int)]) (hn:n≤100000) (c2:Nat) (ty:TypeId) :
  ∃ g' c' w',(Builtin.append_ #[40,40] ty #[.slice A n c,.slice (some ⟨g,0,none⟩) 2 c2]).run Try.prog w = .ok (.slice (some ⟨g',0,none⟩) (n+2) c') w'∧OwnV 5 1 w' (some ⟨g',0,none⟩) c' (n+2) (vals .u8 (pl ++ [x,y]))∧w.grownBy w' (blockOf A)∧(blockOf A=some g'∨g'=w.heap.size)∧g' < w'.heap.size:=by
 obtain ⟨i,hi,hz,hsize,hby⟩:=info_parts info_byte
 obtain ⟨g',cap,w',hrun,hown,hgr,hat,hlt⟩:=run_append_lies (P:=Try.prog) w 40 ty 0 5 i (.int .u8 0) 1 1 Try.underlying40 hi hz hsize hby rfl (by omega)
  (.slice A n c) n (vals .u8 pl) ho ⟨g,0,none⟩ 2 c2 (vals .u8 [x,y]) rfl (fun j v hv=>by
   rw [show (⟨g,0,none⟩:Addr).add j=⟨g,j,none⟩ by unfold Addr.add;split <;> simp_all]
   rcases j with _ | _ | j
   ·rw [hg.cell 0,←hv];rfl
   ·rw [hg.cell 1,←hv];rfl
   ·simp [vals] at hv) (vals_one .u8 _) (by omega) (by simp [maxLen];omega) (by omega) (Nat.zero_le _) w.heap.size rfl
 rw [vals_append] at hown
 refine ⟨g',cap,w',hrun,hown,by rwa [ownBlock_eq] at hgr,?_,hlt⟩
 rcases hat with h | h
 ·exact .inl (by rwa [ownBlock_eq] at h)
 ·exact .inr h
/-! What the rows hold. -/
def fW (u:Nat) (l:List Wr) (k:Nat):List Wr:=(List.range k).map fun i=>⟨((2+u+i:Nat):Int),(l.getD i default).da,(l.getD i default).dc,(l.getD i default).d⟩
def lW (l:List Wr) (k:Nat):List Wr:=(List.range k).map fun i=>⟨157+(l.getD i default).at_,(l.getD i default).da,(l.getD i default).dc,(l.getD i default).d⟩
def pW (l:List Wr) (k:Nat):List Nat:=(List.range k).flatMap fun i=>two8 (l.getD i default).at_.toNat
theorem fW_length (u:Nat) (l:List Wr) (k:Nat):(fW u l k).length=k:=by simp [fW]
theorem lW_length (l:List Wr) (k:Nat):(lW l k).length=k:=by simp [lW]
theorem fW_succ (u:Nat) (l:List Wr) (k:Nat):fW u l (k+1)=fW u l k ++ [⟨((2+u+k:Nat):Int),(l.getD k default).da,(l.getD k default).dc,(l.getD k default).d⟩]:=by
 unfold fW;rw [List.range_succ,List.map_append];rfl
theorem lW_succ (l:List Wr) (k:Nat):lW l (k+1)=lW l k ++ [⟨157+(l.getD k default).at_,(l.getD k default).da,(l.getD k default).dc,(l.getD k default).d⟩]:=by
 unfold lW;rw [List.range_succ,List.map_append];rfl
theorem pW_succ (l:List Wr) (k:Nat):pW l (k+1)=pW l k ++ two8 (l.getD k default).at_.toNat:=by
 unfold pW;rw [List.range_succ,List.flatMap_append];simp
theorem pW_length (l:List Wr) (k:Nat):(pW l k).length=2*k:=by
 induction k with
 | zero=>rfl
 | succ k ih=>rw [pW_succ,List.length_append,ih];simp [two8];omega
theorem fW_at (u:Nat) (l:List Wr) {k i:Nat} (h:i<k):(fW u l k).getD i default=⟨((2+u+i:Nat):Int),(l.getD i default).da,(l.getD i default).dc,(l.getD i default).d⟩:=by simp [fW,List.getD,h]
theorem lW_at (l:List Wr) {k i:Nat} (h:i<k):(lW l k).getD i default=⟨157+(l.getD i default).at_,(l.getD i default).da,(l.getD i default).dc,(l.getD i default).d⟩:=by simp [lW,List.getD,h]
theorem range_getD {α:Type} [Inhabited α] (l:List α):(List.range l.length).map (fun i=>l.getD i default)=l:=by
 apply List.ext_getElem (by simp)
 intro i h1 h2
 simp [List.getD,h2]
theorem fW_v (l:List Wr):wv (fW (sheetsN l.length) l l.length)=logD (wv l):=by
 unfold logD
 apply List.ext_getElem (by simp [wv,fW])
 intro i h1 h2
 have hi:i<l.length:=by simpa [wv,fW] using h1
 simp [wv,fW,Wr.v,List.getD,hi]
theorem lW_v (l:List Wr):wv (lW l l.length)=(wv l).map fun p=>(157+p.1,p.2):=by
 apply List.ext_getElem (by simp [wv,lW])
 intro i h1 h2
 have hi:i<l.length:=by simpa [wv,lW] using h1
 simp [wv,lW,Wr.v,List.getD,hi]
theorem pW_v (l:List Wr):pW l l.length=placesB (wv l):=by
 unfold pW placesB wv
 rw [List.flatMap_map]
 conv=>rhs;rw [←range_getD l]
 rw [List.flatMap_map]
 rfl
theorem own_rdwr {W:World} {A:Option Addr} {c n:Nat} {l:List Wr} (hn:l.length=n) (ho:OwnV 42 2 W A c n (l.flatMap wrCells)) (hd:∀ j,j<l.length→Rd .u8 W W.heap.size (l.getD j default).da (l.getD j default).dc (l.getD j default).d):RdWr A c l W:=by
 subst hn
 have hx:∀ j,j<l.length→l[j]?=some (l.getD j default):=fun j hj=>by simp [List.getD,hj]
 have hf:=fun j (hj:j<l.length) i (hi:i<2)=>flat_at (f:=wrCells) (m:=2) (L:=l) (fun _ _=>rfl) (i:=j) (j:=i) (hx j hj) hi
 refine ⟨ho.le.1,ho.le.2,hd,fun hn=>?_⟩
 have h0:=hf 0 hn 0 (by omega)
 obtain ⟨g,hA,hlt,_,_⟩:=ho.at_ (j:=0) (v:=.int .i64 (l.getD 0 default).at_) (by rw [show (0:Nat)=2*0+0 from rfl,h0];rfl)
 subst hA
 refine ⟨g,0,rfl,hlt,fun j hj=>⟨?_,?_⟩⟩
 ·obtain ⟨g',e,_,hc,_⟩:=ho.at_ (j:=2*j+0) (v:=.int .i64 (l.getD j default).at_) (by rw [hf j hj 0 (by omega)];rfl)
  injection e with e
  injection e with e
  subst e
  rw [show 0+j*2=2*j+0 by omega]
  exact hc
 ·obtain ⟨g',e,_,hc,_⟩:=ho.at_ (j:=2*j+1) (v:=.slice (l.getD j default).da (l.getD j default).d.length (l.getD j default).dc) (by rw [hf j hj 1 (by omega)];rfl)
  injection e with e
  injection e with e
  subst e
  rw [show 0+j*2+1=2*j+1 by omega]
  exact hc
section
variable {w wr w' W:World} {F:Nat→Prop} {gx:Nat} {s s':Dk}
/-- What lies aside of the disk's first blocks still reads so. -/
theorem own_off {A A0:Option Addr} {c c0 n:Nat} {l l0:List Wr} (hb:Below w.heap.size w W) (hn:l.length=n) (ho:OwnV 42 2 W A c n (l.flatMap wrCells)) (hbl:∀ g,blockOf A=some g→w.heap.size≤g) (hr:OffF F (RdWr A0 c0 l0) w)
  (hd:∀ W',W.heap.size≤W'.heap.size→(∀ g,w.heap.size≤g→g<W.heap.size→W'.heap[g]?=W.heap[g]?)→RdWr A0 c0 l0 W'→∀ j,j<l.length→Rd .u8 W' W'.heap.size (l.getD j default).da (l.getD j default).dc (l.getD j default).d) :
  OffF (fun k=>F k∧k<w.heap.size) (RdWr A c l) W:=fun W' hs hk=>by
 have hk2:∀ g,w.heap.size≤g→g<W.heap.size→W'.heap[g]?=W.heap[g]?:=fun g h1 h2=>hk g (fun e=>by omega) h2
 refine own_rdwr hn (ho.keep fun g e hlt=>hk2 g (hbl g e) hlt) (hd W' hs hk2 (hr W' (Nat.le_trans hb.size hs) fun g hF hlt=>?_))
 exact (hk g (fun e=>hF e.1) (Nat.lt_of_lt_of_le hlt hb.size)).trans (hb.block g hlt)
theorem RJ.ofLow (hb:Below w.heap.size w W) (h:RJ W (fun k=>F k∧k<w.heap.size) gx s w'):RJ w F gx s w':=by
 have h1:=hb.size
 refine ⟨h.1.more fun k hk=>?_,(Only.of_below (F:=F) hb).trans h.2 fun k hk e=>e.1⟩
 rcases hk with hk | hk
 ·exact .inl hk.1
 ·exact .inr ⟨by omega,hk.2⟩
theorem RJ.thenD {P:Program} {f:FuncId} {args:Array Value} {v:Value} {w4:World} (h:RJ w F gx s wr) (hb:Below wr.heap.size wr w4) (hc:∀ F2:Nat→Prop,Ref w4 F2 gx s→(∀ k,F2 k→grow F w wr k∧k<wr.heap.size)→gx<wr.heap.size→Calls P f args w4 fun e w'=>e = .returned v∧RJ w4 F2 gx s' w') :
  Calls P f args w4 fun e w'=>e = .returned v∧RJ w F gx s' w':=by
 refine (hc _ (h.1.low.under hb) (fun k hk=>hk) h.1.at_.2).mono ?_
 rintro e w' ⟨rfl,hr⟩
 have h4:=h.below hb
 refine ⟨rfl,h4.step (hr.1.more fun k hk=>?_) (hr.2.more fun k _ hk=>?_)⟩
 ·rcases hk with hk | hk
  ·rcases hk.1 with h1 | h1
   ·exact .inl (.inl h1)
   ·exact .inl (.inr ⟨h1.1,Nat.lt_of_lt_of_le h1.2 hb.size⟩)
  ·exact .inr hk
 ·rcases hk.1 with h1 | h1
  ·exact .inl h1
  ·exact .inr ⟨h1.1,Nat.lt_of_lt_of_le h1.2 hb.size⟩
end
end Go.Proofs.Ytkmbgbbmhpidkaa
