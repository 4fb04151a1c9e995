/- Words and laws for the statement, part 11. -/
import Derived.Test.YtkmbgbbmhpidkaaI10
namespace Go.Proofs.Ytkmbgbbmhpidkaa
open Go.RowKit Go.Shelf
set_option linter.unusedVariables false
set_option linter.unusedSimpArgs false
attribute [local go_sem ↓] Go.wp_at_zero Go.wp_at_succ

theorem one_wr (x:Wr):∀ u∈wrCells x,u.oneCell'=true:=by
 intro u hu
 simp [wrCells] at hu
 rcases hu with rfl | rfl <;> rfl
theorem hold_wr {W:World} {g dc:Nat} {xa:Int} {da:Option Addr} {xd:List Nat} (hd:xd.length=64) (h:Holds W g 42 #[.int .i64 xa,.slice da 64 dc]):Holds W g 42 (wrCells (Wr.mk xa da dc xd)).toArray:=by
 unfold wrCells
 dsimp only
 rw [hd]
 exact h
theorem RJ.ofBelow {w w1 w':World} {F:Nat→Prop} {gx:Nat} {s:Dk} (hb:Below w.heap.size w w1) (h:RJ w1 F gx s w'):RJ w F gx s w':=by
 have h1:=hb.size
 refine ⟨h.1.more fun k hk=>?_,(Only.of_below (F:=F) hb).trans h.2 fun k hk e=>e⟩
 rcases hk with hk | hk
 ·exact .inl hk
 ·exact .inr ⟨by omega,hk.2⟩
def RelC1 (w1:World) (n:Nat) (l:List Wr) (sf sl sp si:Value) (wr:World):Prop :=
 ∃ (k:Nat) (Af:Option Addr) (cf:Nat) (Al:Option Addr) (cl:Nat) (Ap:Option Addr) (cp:Nat),k≤n∧sf = .slice Af k cf∧sl = .slice Al k cl∧sp = .slice Ap (2*k) cp∧si = .int .i64 k ∧
  Cm w1 wr Af cf k ((fW 1 l k).flatMap wrCells) Al cl k ((lW l k).flatMap wrCells) Ap cp (2*k) (vals .u8 (pW l k))
def RelC2 (w1:World) (n:Nat) (l:List Wr) (Af:Option Addr) (cf:Nat) (Al:Option Addr) (cl:Nat) (Ap:Option Addr) (cp:Nat) (sf si:Value) (wr:World):Prop :=
 (si = .int .i64 0∧sf = .slice Af n cf∧Cm w1 wr Af cf n ((fW 1 l n).flatMap wrCells) Al cl n ((lW l n).flatMap wrCells) Ap cp (2*n) (vals .u8 (pW l n))) ∨
 (si = .int .i64 1∧∃ A9 c9 gs,sf = .slice A9 (n+1) c9∧Cm w1 wr A9 c9 (n+1) ((fW 1 l n ++ [Wr.mk 2 (some ⟨gs,0,none⟩) 64 (shB (wv l) 0)]).flatMap wrCells) Al cl n ((lW l n).flatMap wrCells) Ap cp (2*n) (vals .u8 (pW l n))∧Rd .u8 wr wr.heap.size (some ⟨gs,0,none⟩) 64 (shB (wv l) 0)∧w1.heap.size≤gs)
section
variable {w:World} {F:Nat→Prop} {gx:Nat} {s:Dk}
set_option maxRecDepth 100000 in
set_option maxHeartbeats 16000000 in
theorem commit'_any (h:Ref w F gx s) (A:Option Addr) (c n:Nat) (l:List Wr) (hl:l.length=n) (hr:OffF F (RdWr A c l) w) (hne:∀ x∈l,0<x.d.length→∀ g,blockOf x.da=some g→g≠gx) (hn:n≤12) (hwl:s.waits.length≤60000) (hops:s.ops≤600000000) :
  Calls Try.prog 11 #[.pointer (some ⟨gx,0,none⟩),.slice A n c] w fun e w'=>e = .returned (.int .i64 ((s.commit (wv l)).2:Nat))∧RJ w F gx (s.commit (wv l)).1 w':=by
 have HMY:=Lib.hid (may'_any h A c n l hl hr.at_)
 have HH:=Lib.hid h
 have HR:=Lib.hid hr
 have HL:=Lib.hid hl
 have HNE0:=Lib.hid hne
 have HWL:=Lib.hid (And.intro hwl hops)
 have hm2:s.many≤2000:=by have:=h.le;unfold Dk.many;omega
 have HCD:Hid (s.commit (wv l)=s.commit (wv l)):=Lib.hid rfl
 have hcd:=HCD.out
 conv at hcd=>rhs;unfold Dk.commit
 rw [wv_length,hl] at hcd
 have hnc:n≤c:=by have:=hr.at_.1;omega
 have hc63:=hr.at_.2.1
 have d150:decide ((150:Int)<(n:Int))=false:=decide_eq_false (by omega)
 clear h hr hl hne hwl hops HCD
 rcases hb:mayJ s.many (wv l) with _ | _
 ·rw [hb] at hcd HMY
  have HE:Hid (s.commit (wv l)=(s,1)):=Lib.hid (by rw [hcd];rfl)
  clear hcd hb
  go_enter Try.func11,Try.ntmps11
  go_wp2_with fail
  refine HMY.out.mono ?_
  rintro e w1 ⟨rfl,hb1⟩
  have HB1:=Lib.hid hb1
  clear hb1
  go_wp2_with fail
  go_ret
  rw [HE.out]
  exact ⟨rfl,(RJ.start HH.out).below HB1.out⟩
 have HOK:=Lib.hid ((may_iff s.many l).1 hb).1
 have HNE:Hid (∀ x∈l,∀ g,blockOf x.da=some g→g≠gx):=Lib.hid fun x hx=>by
  refine HNE0.out x hx ?_
  obtain ⟨i,hi,rfl⟩:=List.getElem_of_mem hx
  have h1:=(HOK.out i hi).2.2
  rw [show l.getD i default=l[i] by simp [List.getD,hi]] at h1
  omega
 rw [hb,if_pos rfl,if_neg (show ¬ 150<n by omega)] at hcd
 rw [hb] at HMY
 clear hb
 rcases Nat.eq_zero_or_pos n with rfl | hn0
 ·have HE:Hid (s.commit (wv l)=(s,0)):=Lib.hid (by rw [hcd,if_pos];rw [List.eq_nil_of_length_eq_zero HL.out];rfl)
  clear hcd
  go_enter Try.func11,Try.ntmps11
  go_wp2_with fail
  refine HMY.out.mono ?_
  rintro e w1 ⟨rfl,hb1⟩
  have HB1:=Lib.hid hb1
  clear hb1
  go_wp2_with fail
  go_ret
  rw [HE.out]
  exact ⟨rfl,(RJ.start HH.out).below HB1.out⟩
 have hsh:sheetsN n=1:=by unfold sheetsN;omega
 rw [if_neg (show ¬ wv l=[] from fun e=>by have:=congrArg List.length e;rw [wv_length,HL.out] at this;simp at this;omega)] at hcd
 have HCD:=Lib.hid hcd
 have HSH:=Lib.hid hsh
 have hnz:((n:Int) == 0)=false:=by rw [beq_eq_false_iff_ne];omega
 obtain ⟨u,hu⟩:∃ u,u=sheetsN n:=⟨_,rfl⟩
 have HIX:Hid (∀ W,Calls Try.prog 38 #[.int .i64 (n:Int)] W fun e w'=>e = .returned (.int .i64 (u:Int))∧W=w'):=Lib.hid fun W=>by
  rw [hu]
  exact index_any W n (by omega)
 have HU:Hid (u=1):=Lib.hid (hu.trans hsh)
 clear hcd hsh hu
 go_enter Try.func11,Try.ntmps11
 go_wp2_with fail
 refine HMY.out.mono ?_
 rintro e w1 ⟨rfl,hb1⟩
 have HB1:=Lib.hid hb1
 have HR1:=Lib.hid (HR.out.under hb1)
 have HH1:=Lib.hid (HH.out.under hb1)
 clear hb1 HMY HR
 go_wp2_with fail
 go_loopw [5,6,7,8] (fun sf sl sp si wr=>RelC1 w1 n l sf sl sp si wr) (fun _ _ _ si _=>n - (intOf si).toNat)
 case atStart=>exact ⟨0,none,0,none,0,none,0,Nat.zero_le _,rfl,rfl,rfl,rfl,Cm.start w1⟩
 case round =>
  obtain ⟨k,Af,cf,Al,cl,Ap,cp,hk,rfl,rfl,rfl,rfl,hc⟩:=hrel
  obtain ⟨V,hV⟩:∃ V,V=wr:=⟨_,rfl⟩
  subst hV
  have HC:=Lib.hid hc
  clear hc
  by_cases hlt:k<n
  case pos =>
   have hkI:(k:Int)<(n:Int):=by omega
   have hk0:(0:Int)≤(k:Int):=by omega
   have hkw:IntKind.i64.wrap ((k:Int)+1)=(k:Int)+1:=IntWalk.i64_in _ (by omega)
   obtain ⟨b,off,rfl,hb,hc0,hc1,_⟩:=HR1.out.at_.at_ (j:=k) (by rw [HL.out];exact hlt)
   have hok:=HOK.out k (by rw [HL.out];exact hlt)
   have HFS:=Lib.hid (fW_succ 1 l k)
   have HLS:=Lib.hid (lW_succ l k)
   have HPS:=Lib.hid (pW_succ l k)
   generalize l.getD k default=x at *
   obtain ⟨xa,da,dc,xd⟩:=x
   obtain ⟨ha0,ham,hd64⟩:=hok
   dsimp only at *
   rw [hd64] at hc1
   have HDN:=Lib.hid hd64
   obtain ⟨a,rfl⟩:∃ a:Nat,xa=(a:Int):=⟨xa.toNat,by omega⟩
   obtain ⟨q,hq⟩:∃ q,q=a / 256:=⟨_,rfl⟩
   obtain ⟨t,ht⟩:∃ t,t=a % 256:=⟨_,rfl⟩
   have hu1:=HU.out
   obtain ⟨u2,hu2⟩:∃ u2,u2=2+u:=⟨_,rfl⟩
   obtain ⟨v,hv⟩:∃ v,v=u2+k:=⟨_,rfl⟩
   have kq:(a:Int) / 256=(q:Int):=by omega
   have kt:(a:Int).tmod 256=(t:Int):=by rw [Int.tmod_eq_emod_of_nonneg (by omega)];omega
   have kqi:IntKind.i64.wrap (q:Int)=(q:Int):=IntWalk.i64_in _ (by omega)
   have kqw:IntKind.u8.wrap (q:Int)=(q:Int):=by rw [IntKind.wrap_u8];omega
   have ktw:IntKind.u8.wrap (t:Int)=(t:Int):=by rw [IntKind.wrap_u8];omega
   have ku:IntKind.i64.wrap (2+(u:Int))=(u2:Int):=by rw [IntWalk.i64_in _ (by omega)];omega
   have kv:IntKind.i64.wrap ((u2:Int)+(k:Int))=(v:Int):=by rw [IntWalk.i64_in _ (by omega)];omega
   have k157:IntKind.i64.wrap (157+(a:Int))=157+(a:Int):=IntWalk.i64_in _ (by omega)
   have hk12:2*k≤24:=by omega
   have HPV:Hid (pW l k ++ [q,t]=pW l (k+1)):=Lib.hid (by rw [HPS.out,two8,Int.toNat_natCast,hq,ht,Nat.mod_eq_of_lt (show a / 256<256 by omega)])
   have HVV:Hid ((v:Int)=((2+1+k:Nat):Int)):=Lib.hid (by omega)
   clear hd64 hq ht hv HPS hu1 hu2
   go_wp2_with fail
   refine wp_region_noPanic ?_
   refine wp_region_held_drew (S:=fun W=>Below w1.heap.size w1 W) (by kernel_rfl) (HC.out.bel.drew) (fun hHeld=>?_)
   refine wpAnyH_take (i:=0) (oi:={ dst:=some 30,op:=Op.move (Operand.tmp 7),type:=40,pos:=_,after:=_,guard:=none }) (v:=?_) rfl (by kernel_rfl) (by kernel_rfl) (by kernel_rfl) (fun _ _ _ h=>h) (Or.inl ⟨by rfl,?_⟩) hHeld ?_
   rotate_left 1
   ·(intro W hW;(try dsimp only at hW);go_simp;try with_reducible rfl)
   try simp only [Act.put,List.setIfInBounds_toArray,List.set_cons_zero,List.set_cons_succ]
   refine wpAnyH_take (i:=1) (oi:={ dst:=some 31,op:=Op.move (Operand.tmp 1),type:=27,pos:=_,after:=_,guard:=none }) (v:=?_) rfl (by kernel_rfl) (by kernel_rfl) (by kernel_rfl) (fun _ _ _ h=>h) (Or.inl ⟨by rfl,?_⟩) hHeld ?_
   rotate_left 1
   ·(intro W hW;(try dsimp only at hW);go_simp;try with_reducible rfl)
   try simp only [Act.put,List.setIfInBounds_toArray,List.set_cons_zero,List.set_cons_succ]
   refine wpAnyH_take (i:=2) (oi:={ dst:=some 32,op:=Op.move (Operand.tmp 8),type:=3,pos:=_,after:=_,guard:=none }) (v:=?_) rfl (by kernel_rfl) (by kernel_rfl) (by kernel_rfl) (fun _ _ _ h=>h) (Or.inl ⟨by rfl,?_⟩) hHeld ?_
   rotate_left 1
   ·(intro W hW;(try dsimp only at hW);go_simp;try with_reducible rfl)
   try simp only [Act.put,List.setIfInBounds_toArray,List.set_cons_zero,List.set_cons_succ]
   refine wpAnyH_take (i:=3) (oi:={ dst:=some 33,op:=Op.indexAddr 27 (Operand.tmp 31) (Operand.tmp 32),type:=0,pos:=_,after:=_,guard:=none }) (v:=?_) rfl (by kernel_rfl) (by kernel_rfl) (by kernel_rfl) (fun _ _ _ h=>h) (Or.inl ⟨by rfl,?_⟩) hHeld ?_
   rotate_left 1
   ·(intro W hW;(try dsimp only at hW);go_simp;try with_reducible rfl)
   try simp only [Act.put,List.setIfInBounds_toArray,List.set_cons_zero,List.set_cons_succ]
   refine wpAnyH_take (i:=4) (oi:={ dst:=some 34,op:=Op.fieldAddr 42 (Operand.tmp 33) 0,type:=0,pos:=_,after:=_,guard:=none }) (v:=?_) rfl (by kernel_rfl) (by kernel_rfl) (by kernel_rfl) (fun _ _ _ h=>h) (Or.inl ⟨by rfl,?_⟩) hHeld ?_
   rotate_left 1
   ·(intro W hW;(try dsimp only at hW);go_simp;try with_reducible rfl)
   try simp only [Act.put,List.setIfInBounds_toArray,List.set_cons_zero,List.set_cons_succ]
   refine wpAnyH_take (i:=5) (oi:={ dst:=some 35,op:=Op.load 3 (Operand.tmp 34),type:=3,pos:=_,after:=_,guard:=none }) (v:=?_) rfl (by kernel_rfl) (by kernel_rfl) (by kernel_rfl) (fun _ _ _ h=>h) (Or.inl ⟨by rfl,?_⟩) hHeld ?_
   rotate_left 1
   ·(intro W hW;have hk:=(Below.cell (p:=⟨b,off+k*2,none⟩) hW hb).trans hc0;(try dsimp only at hW);go_simp;try with_reducible rfl)
   try simp only [Act.put,List.setIfInBounds_toArray,List.set_cons_zero,List.set_cons_succ]
   refine wpAnyH_take (i:=6) (oi:={ dst:=some 36,op:=Op.binOp BinOp.quo 3 (Operand.tmp 35) (Operand.const (Value.int IntKind.i64 256)) 3,type:=3,pos:=_,after:=_,guard:=none }) (v:=?_) rfl (by kernel_rfl) (by kernel_rfl) (by kernel_rfl) (fun _ _ _ h=>h) (Or.inl ⟨by rfl,?_⟩) hHeld ?_
   rotate_left 1
   ·(intro W hW;(try dsimp only at hW);go_simp;try with_reducible rfl)
   try simp only [Act.put,List.setIfInBounds_toArray,List.set_cons_zero,List.set_cons_succ]
   refine wpAnyH_take (i:=7) (oi:={ dst:=some 37,op:=Op.convert 3 5 (Operand.tmp 36),type:=5,pos:=_,after:=_,guard:=none }) (v:=?_) rfl (by kernel_rfl) (by kernel_rfl) (by kernel_rfl) (fun _ _ _ h=>h) (Or.inl ⟨by rfl,?_⟩) hHeld ?_
   rotate_left 1
   ·(intro W hW;(try dsimp only at hW);go_simp;try with_reducible rfl)
   try simp only [Act.put,List.setIfInBounds_toArray,List.set_cons_zero,List.set_cons_succ]
   refine wpAnyH_take (i:=8) (oi:={ dst:=some 38,op:=Op.move (Operand.tmp 1),type:=27,pos:=_,after:=_,guard:=none }) (v:=?_) rfl (by kernel_rfl) (by kernel_rfl) (by kernel_rfl) (fun _ _ _ h=>h) (Or.inl ⟨by rfl,?_⟩) hHeld ?_
   rotate_left 1
   ·(intro W hW;(try dsimp only at hW);go_simp;try with_reducible rfl)
   try simp only [Act.put,List.setIfInBounds_toArray,List.set_cons_zero,List.set_cons_succ]
   refine wpAnyH_take (i:=9) (oi:={ dst:=some 39,op:=Op.move (Operand.tmp 8),type:=3,pos:=_,after:=_,guard:=none }) (v:=?_) rfl (by kernel_rfl) (by kernel_rfl) (by kernel_rfl) (fun _ _ _ h=>h) (Or.inl ⟨by rfl,?_⟩) hHeld ?_
   rotate_left 1
   ·(intro W hW;(try dsimp only at hW);go_simp;try with_reducible rfl)
   try simp only [Act.put,List.setIfInBounds_toArray,List.set_cons_zero,List.set_cons_succ]
   refine wpAnyH_take (i:=10) (oi:={ dst:=some 40,op:=Op.indexAddr 27 (Operand.tmp 38) (Operand.tmp 39),type:=0,pos:=_,after:=_,guard:=none }) (v:=?_) rfl (by kernel_rfl) (by kernel_rfl) (by kernel_rfl) (fun _ _ _ h=>h) (Or.inl ⟨by rfl,?_⟩) hHeld ?_
   rotate_left 1
   ·(intro W hW;(try dsimp only at hW);go_simp;try with_reducible rfl)
   try simp only [Act.put,List.setIfInBounds_toArray,List.set_cons_zero,List.set_cons_succ]
   refine wpAnyH_take (i:=11) (oi:={ dst:=some 41,op:=Op.fieldAddr 42 (Operand.tmp 40) 0,type:=0,pos:=_,after:=_,guard:=none }) (v:=?_) rfl (by kernel_rfl) (by kernel_rfl) (by kernel_rfl) (fun _ _ _ h=>h) (Or.inl ⟨by rfl,?_⟩) hHeld ?_
   rotate_left 1
   ·(intro W hW;(try dsimp only at hW);go_simp;try with_reducible rfl)
   try simp only [Act.put,List.setIfInBounds_toArray,List.set_cons_zero,List.set_cons_succ]
   refine wpAnyH_take (i:=12) (oi:={ dst:=some 42,op:=Op.load 3 (Operand.tmp 41),type:=3,pos:=_,after:=_,guard:=none }) (v:=?_) rfl (by kernel_rfl) (by kernel_rfl) (by kernel_rfl) (fun _ _ _ h=>h) (Or.inl ⟨by rfl,?_⟩) hHeld ?_
   rotate_left 1
   ·(intro W hW;have hk:=(Below.cell (p:=⟨b,off+k*2,none⟩) hW hb).trans hc0;(try dsimp only at hW);go_simp;try with_reducible rfl)
   try simp only [Act.put,List.setIfInBounds_toArray,List.set_cons_zero,List.set_cons_succ]
   refine wpAnyH_take (i:=13) (oi:={ dst:=some 43,op:=Op.binOp BinOp.rem 3 (Operand.tmp 42) (Operand.const (Value.int IntKind.i64 256)) 3,type:=3,pos:=_,after:=_,guard:=none }) (v:=?_) rfl (by kernel_rfl) (by kernel_rfl) (by kernel_rfl) (fun _ _ _ h=>h) (Or.inl ⟨by rfl,?_⟩) hHeld ?_
   rotate_left 1
   ·(intro W hW;(try dsimp only at hW);go_simp;try with_reducible rfl)
   try simp only [Act.put,List.setIfInBounds_toArray,List.set_cons_zero,List.set_cons_succ]
   refine wpAnyH_take (i:=14) (oi:={ dst:=some 44,op:=Op.convert 3 5 (Operand.tmp 43),type:=5,pos:=_,after:=_,guard:=none }) (v:=?_) rfl (by kernel_rfl) (by kernel_rfl) (by kernel_rfl) (fun _ _ _ h=>h) (Or.inl ⟨by rfl,?_⟩) hHeld ?_
   rotate_left 1
   ·(intro W hW;(try dsimp only at hW);go_simp;try with_reducible rfl)
   try simp only [Act.put,List.setIfInBounds_toArray,List.set_cons_zero,List.set_cons_succ]
   refine wpAnyH_ready (rs:=[15]) (by kernel_rfl) (by simp) ?_
   refine AllReadyH.cons (o:={ dst:=some 45,op:=Op.buildSlice 40 2 #[(0,Operand.tmp 37),(1,Operand.tmp 44)],type:=40,pos:=_,after:=_,guard:=none }) rfl (fun K hK=>?_) AllReadyH.nil
   obtain ⟨y,hy⟩:∃ y,y=V.drew:=⟨_,rfl⟩
   rw [←hy]
   have HC:=Lib.hid (HC.out.under (show Below V.heap.size V y by rw [hy];exact (Below.refl _ V).drew))
   clear hy
   go_simp
   have hbd:Below y.heap.size y (y.alloc (.cells #[.int .u8 (q:Int),.int .u8 (t:Int)] 5)):=(Below.refl _ _).alloc (Nat.le_refl _) _
   have hfd:Holds (y.alloc (.cells #[.int .u8 (q:Int),.int .u8 (t:Int)] 5)) y.heap.size 5 #[.int .u8 (q:Int),.int .u8 (t:Int)]:=Holds.fresh _ _ _
   generalize y.alloc (.cells #[.int .u8 (q:Int),.int .u8 (t:Int)] 5)=wd at *
   obtain ⟨gd,hgd⟩:∃ g,g=y.heap.size:=⟨_,rfl⟩
   rw [←hgd] at hfd ⊢
   clear hgd
   have HC:=Lib.hid (HC.out.under hbd)
   have HFd:=Lib.hid hfd
   clear hbd hfd
   refine hK.out _ _ (HC.out.bel) (fun hHeld=>?_)
   clear hK K
   try simp only [Act.put,List.setIfInBounds_toArray,List.set_cons_zero,List.set_cons_succ]
   refine wpAnyH_ready (rs:=[16]) (by kernel_rfl) (by simp) ?_
   refine AllReadyH.cons (o:={ dst:=some 46,op:=Op.call { callee:=Callee.builtin Builtin.append,args:=#[Operand.tmp 30,Operand.tmp 45],argTypes:=#[40,40] },type:=40,pos:=_,after:=_,guard:=none }) rfl (fun K hK=>?_) AllReadyH.nil
   obtain ⟨g9,c9,W9,hrun,ho9,hg9,hat9,_⟩:=run_two wd HC.out.p gd HFd.out (by omega) 2 40
   refine step_append_run rfl (.tmp 30) (.tmp 45) 40 rfl rfl _ _ rfl rfl _ W9 hrun ?_
   have HC:=Lib.hid (HC.out.growP ho9 hg9 hat9)
   clear hrun ho9 hg9 hat9 HFd
   refine hK.out _ _ (HC.out.bel) (fun hHeld=>?_)
   clear hK K
   try simp only [Act.put,List.setIfInBounds_toArray,List.set_cons_zero,List.set_cons_succ]
   refine wpAnyH_take (i:=17) (oi:={ dst:=some 7,op:=Op.assign (Operand.tmp 46),type:=40,pos:=_,after:=_,guard:=none }) (v:=?_) rfl (by kernel_rfl) (by kernel_rfl) (by kernel_rfl) (fun _ _ _ h=>h) (Or.inl ⟨by rfl,?_⟩) hHeld ?_
   rotate_left 1
   ·(intro W hW;(try dsimp only at hW);go_simp;try with_reducible rfl)
   try simp only [Act.put,List.setIfInBounds_toArray,List.set_cons_zero,List.set_cons_succ]
   refine wpAnyH_done (by kernel_rfl) ?_ _
   refine NoPanic.normal ?_
   clear kq kt kqw ktw kqi
   go_wp2_with fail
   refine wp_region_noPanic ?_
   refine wp_region_held_drew (S:=fun W=>Below w1.heap.size w1 W) (by kernel_rfl) (HC.out.bel.drew) (fun hHeld=>?_)
   refine wpAnyH_take (i:=0) (oi:={ dst:=some 47,op:=Op.move (Operand.tmp 5),type:=27,pos:=_,after:=_,guard:=none }) (v:=?_) rfl (by kernel_rfl) (by kernel_rfl) (by kernel_rfl) (fun _ _ _ h=>h) (Or.inl ⟨by rfl,?_⟩) hHeld ?_
   rotate_left 1
   ·(intro W hW;(try dsimp only at hW);go_simp;try with_reducible rfl)
   try simp only [Act.put,List.setIfInBounds_toArray,List.set_cons_zero,List.set_cons_succ]
   refine wpAnyH_take (i:=1) (oi:={ dst:=some 48,op:=Op.move (Operand.tmp 1),type:=27,pos:=_,after:=_,guard:=none }) (v:=?_) rfl (by kernel_rfl) (by kernel_rfl) (by kernel_rfl) (fun _ _ _ h=>h) (Or.inl ⟨by rfl,?_⟩) hHeld ?_
   rotate_left 1
   ·(intro W hW;(try dsimp only at hW);go_simp;try with_reducible rfl)
   try simp only [Act.put,List.setIfInBounds_toArray,List.set_cons_zero,List.set_cons_succ]
   refine wpAnyH_take (i:=2) (oi:={ dst:=some 49,op:=Op.call { callee:=Callee.builtin Builtin.len,args:=#[Operand.tmp 48],argTypes:=#[27] },type:=3,pos:=_,after:=_,guard:=none }) (v:=?_) rfl (by kernel_rfl) (by kernel_rfl) (by kernel_rfl) (fun _ _ _ h=>h) (Or.inl ⟨by rfl,?_⟩) hHeld ?_
   rotate_left 1
   ·(intro W hW;(try dsimp only at hW);go_simp;try with_reducible rfl)
   try simp only [Act.put,List.setIfInBounds_toArray,List.set_cons_zero,List.set_cons_succ]
   refine wpAnyH_take (i:=5) (oi:={ dst:=some 52,op:=Op.move (Operand.tmp 8),type:=3,pos:=_,after:=_,guard:=none }) (v:=?_) rfl (by kernel_rfl) (by kernel_rfl) (by kernel_rfl) (fun _ _ _ h=>h) (Or.inl ⟨by rfl,?_⟩) hHeld ?_
   rotate_left 1
   ·(intro W hW;(try dsimp only at hW);go_simp;try with_reducible rfl)
   try simp only [Act.put,List.setIfInBounds_toArray,List.set_cons_zero,List.set_cons_succ]
   refine wpAnyH_take (i:=7) (oi:={ dst:=some 54,op:=Op.move (Operand.tmp 1),type:=27,pos:=_,after:=_,guard:=none }) (v:=?_) rfl (by kernel_rfl) (by kernel_rfl) (by kernel_rfl) (fun _ _ _ h=>h) (Or.inl ⟨by rfl,?_⟩) hHeld ?_
   rotate_left 1
   ·(intro W hW;(try dsimp only at hW);go_simp;try with_reducible rfl)
   try simp only [Act.put,List.setIfInBounds_toArray,List.set_cons_zero,List.set_cons_succ]
   refine wpAnyH_take (i:=8) (oi:={ dst:=some 55,op:=Op.move (Operand.tmp 8),type:=3,pos:=_,after:=_,guard:=none }) (v:=?_) rfl (by kernel_rfl) (by kernel_rfl) (by kernel_rfl) (fun _ _ _ h=>h) (Or.inl ⟨by rfl,?_⟩) hHeld ?_
   rotate_left 1
   ·(intro W hW;(try dsimp only at hW);go_simp;try with_reducible rfl)
   try simp only [Act.put,List.setIfInBounds_toArray,List.set_cons_zero,List.set_cons_succ]
   refine wpAnyH_take (i:=9) (oi:={ dst:=some 56,op:=Op.indexAddr 27 (Operand.tmp 54) (Operand.tmp 55),type:=0,pos:=_,after:=_,guard:=none }) (v:=?_) rfl (by kernel_rfl) (by kernel_rfl) (by kernel_rfl) (fun _ _ _ h=>h) (Or.inl ⟨by rfl,?_⟩) hHeld ?_
   rotate_left 1
   ·(intro W hW;(try dsimp only at hW);go_simp;try with_reducible rfl)
   try simp only [Act.put,List.setIfInBounds_toArray,List.set_cons_zero,List.set_cons_succ]
   refine wpAnyH_take (i:=10) (oi:={ dst:=some 57,op:=Op.fieldAddr 42 (Operand.tmp 56) 1,type:=0,pos:=_,after:=_,guard:=none }) (v:=?_) rfl (by kernel_rfl) (by kernel_rfl) (by kernel_rfl) (fun _ _ _ h=>h) (Or.inl ⟨by rfl,?_⟩) hHeld ?_
   rotate_left 1
   ·(intro W hW;(try dsimp only at hW);go_simp;try with_reducible rfl)
   try simp only [Act.put,List.setIfInBounds_toArray,List.set_cons_zero,List.set_cons_succ]
   refine wpAnyH_take (i:=11) (oi:={ dst:=some 58,op:=Op.load 40 (Operand.tmp 57),type:=40,pos:=_,after:=_,guard:=none }) (v:=?_) rfl (by kernel_rfl) (by kernel_rfl) (by kernel_rfl) (fun _ _ _ h=>h) (Or.inl ⟨by rfl,?_⟩) hHeld ?_
   rotate_left 1
   ·(intro W hW;have hk:=(Below.cell (p:=⟨b,off+k*2+1,none⟩) hW hb).trans hc1;(try dsimp only at hW);go_simp;try with_reducible rfl)
   try simp only [Act.put,List.setIfInBounds_toArray,List.set_cons_zero,List.set_cons_succ]
   refine wpAnyH_ready (rs:=[3]) (by kernel_rfl) (by simp) ?_
   refine AllReadyH.cons (o:={ dst:=some 50,op:=Op.call { callee:=Callee.value (Operand.func 38),args:=#[Operand.tmp 49],argTypes:=#[3] },type:=3,pos:=_,after:=_,guard:=none }) rfl (fun K hK=>?_) AllReadyH.nil
   obtain ⟨y,hy⟩:∃ y,y=W9.drew:=⟨_,rfl⟩
   rw [←hy]
   have HC:=Lib.hid (HC.out.under (show Below W9.heap.size W9 y by rw [hy];exact (Below.refl _ W9).drew))
   clear hy
   go_simp
   refine (HIX.out y).mono ?_
   rintro e wq ⟨rfl,rfl⟩
   go_simp
   refine hK.out _ _ (HC.out.bel) (fun hHeld=>?_)
   clear hK K
   try simp only [Act.put,List.setIfInBounds_toArray,List.set_cons_zero,List.set_cons_succ]
   refine wpAnyH_take (i:=4) (oi:={ dst:=some 51,op:=Op.binOp BinOp.add 3 (Operand.const (Value.int IntKind.i64 2)) (Operand.tmp 50) 3,type:=3,pos:=_,after:=_,guard:=none }) (v:=?_) rfl (by kernel_rfl) (by kernel_rfl) (by kernel_rfl) (fun _ _ _ h=>h) (Or.inl ⟨by rfl,?_⟩) hHeld ?_
   rotate_left 1
   ·(intro W hW;(try dsimp only at hW);go_simp;try with_reducible rfl)
   try simp only [Act.put,List.setIfInBounds_toArray,List.set_cons_zero,List.set_cons_succ]
   refine wpAnyH_take (i:=6) (oi:={ dst:=some 53,op:=Op.binOp BinOp.add 3 (Operand.tmp 51) (Operand.tmp 52) 3,type:=3,pos:=_,after:=_,guard:=none }) (v:=?_) rfl (by kernel_rfl) (by kernel_rfl) (by kernel_rfl) (fun _ _ _ h=>h) (Or.inl ⟨by rfl,?_⟩) hHeld ?_
   rotate_left 1
   ·(intro W hW;(try dsimp only at hW);go_simp;try with_reducible rfl)
   try simp only [Act.put,List.setIfInBounds_toArray,List.set_cons_zero,List.set_cons_succ]
   refine wpAnyH_take (i:=12) (oi:={ dst:=some 59,op:=Op.build 42 #[(0,Operand.tmp 53),(1,Operand.tmp 58)],type:=42,pos:=_,after:=_,guard:=none }) (v:=?_) rfl (by kernel_rfl) (by kernel_rfl) (by kernel_rfl) (fun _ _ _ h=>h) (Or.inl ⟨by rfl,?_⟩) hHeld ?_
   rotate_left 1
   ·(intro W hW;(try dsimp only at hW);go_simp;try with_reducible rfl)
   try simp only [Act.put,List.setIfInBounds_toArray,List.set_cons_zero,List.set_cons_succ]
   refine wpAnyH_ready (rs:=[13]) (by kernel_rfl) (by simp) ?_
   refine AllReadyH.cons (o:={ dst:=some 60,op:=Op.buildSlice 27 1 #[(0,Operand.tmp 59)],type:=27,pos:=_,after:=_,guard:=none }) rfl (fun K hK=>?_) AllReadyH.nil
   go_simp
   have hbd:Below y.heap.size y (y.alloc (.cells #[.int .i64 (v:Int),.slice da 64 dc] 42)):=(Below.refl _ _).alloc (Nat.le_refl _) _
   have hfd:Holds (y.alloc (.cells #[.int .i64 (v:Int),.slice da 64 dc] 42)) y.heap.size 42 #[.int .i64 (v:Int),.slice da 64 dc]:=Holds.fresh _ _ _
   generalize y.alloc (.cells #[.int .i64 (v:Int),.slice da 64 dc] 42)=wd at *
   obtain ⟨gd,hgd⟩:∃ g,g=y.heap.size:=⟨_,rfl⟩
   rw [←hgd] at hfd ⊢
   clear hgd
   have HC:=Lib.hid (HC.out.under hbd)
   have HFd:=Lib.hid hfd
   clear hbd hfd
   refine hK.out _ _ (HC.out.bel) (fun hHeld=>?_)
   clear hK K
   try simp only [Act.put,List.setIfInBounds_toArray,List.set_cons_zero,List.set_cons_succ]
   refine wpAnyH_ready (rs:=[14]) (by kernel_rfl) (by simp) ?_
   refine AllReadyH.cons (o:={ dst:=some 61,op:=Op.call { callee:=Callee.builtin Builtin.append,args:=#[Operand.tmp 47,Operand.tmp 60],argTypes:=#[27,27] },type:=27,pos:=_,after:=_,guard:=none }) rfl (fun K hK=>?_) AllReadyH.nil
   refine step_pushV _ rfl (.tmp 47) (.tmp 60) 27 rfl 42 (.agg #[.int .i64 0,.slice none 0 0]) 2 32 Try.underlying27 info_write rfl (by omega) (by omega) rfl HC.out.f (cs:=wrCells ⟨(v:Int),da,dc,xd⟩) rfl rfl (one_wr _) (hold_wr HDN.out HFd.out) (by omega) ?_
   intro g9 c9 W10 ho9 hg9 hat9 _
   have HC:=Lib.hid (HC.out.growF ho9 hg9 hat9)
   clear ho9 hg9 hat9 HFd
   refine hK.out _ _ (HC.out.bel) (fun hHeld=>?_)
   clear hK K
   try simp only [Act.put,List.setIfInBounds_toArray,List.set_cons_zero,List.set_cons_succ]
   refine wpAnyH_take (i:=15) (oi:={ dst:=some 5,op:=Op.assign (Operand.tmp 61),type:=27,pos:=_,after:=_,guard:=none }) (v:=?_) rfl (by kernel_rfl) (by kernel_rfl) (by kernel_rfl) (fun _ _ _ h=>h) (Or.inl ⟨by rfl,?_⟩) hHeld ?_
   rotate_left 1
   ·(intro W hW;(try dsimp only at hW);go_simp;try with_reducible rfl)
   try simp only [Act.put,List.setIfInBounds_toArray,List.set_cons_zero,List.set_cons_succ]
   refine wpAnyH_done (by kernel_rfl) ?_ _
   refine NoPanic.normal ?_
   clear kv ku
   go_wp2_with fail
   refine wp_region_noPanic ?_
   refine wp_region_held_drew (S:=fun W=>Below w1.heap.size w1 W) (by kernel_rfl) (HC.out.bel.drew) (fun hHeld=>?_)
   refine wpAnyH_take (i:=0) (oi:={ dst:=some 62,op:=Op.move (Operand.tmp 6),type:=27,pos:=_,after:=_,guard:=none }) (v:=?_) rfl (by kernel_rfl) (by kernel_rfl) (by kernel_rfl) (fun _ _ _ h=>h) (Or.inl ⟨by rfl,?_⟩) hHeld ?_
   rotate_left 1
   ·(intro W hW;(try dsimp only at hW);go_simp;try with_reducible rfl)
   try simp only [Act.put,List.setIfInBounds_toArray,List.set_cons_zero,List.set_cons_succ]
   refine wpAnyH_take (i:=1) (oi:={ dst:=some 63,op:=Op.move (Operand.tmp 1),type:=27,pos:=_,after:=_,guard:=none }) (v:=?_) rfl (by kernel_rfl) (by kernel_rfl) (by kernel_rfl) (fun _ _ _ h=>h) (Or.inl ⟨by rfl,?_⟩) hHeld ?_
   rotate_left 1
   ·(intro W hW;(try dsimp only at hW);go_simp;try with_reducible rfl)
   try simp only [Act.put,List.setIfInBounds_toArray,List.set_cons_zero,List.set_cons_succ]
   refine wpAnyH_take (i:=2) (oi:={ dst:=some 64,op:=Op.move (Operand.tmp 8),type:=3,pos:=_,after:=_,guard:=none }) (v:=?_) rfl (by kernel_rfl) (by kernel_rfl) (by kernel_rfl) (fun _ _ _ h=>h) (Or.inl ⟨by rfl,?_⟩) hHeld ?_
   rotate_left 1
   ·(intro W hW;(try dsimp only at hW);go_simp;try with_reducible rfl)
   try simp only [Act.put,List.setIfInBounds_toArray,List.set_cons_zero,List.set_cons_succ]
   refine wpAnyH_take (i:=3) (oi:={ dst:=some 65,op:=Op.indexAddr 27 (Operand.tmp 63) (Operand.tmp 64),type:=0,pos:=_,after:=_,guard:=none }) (v:=?_) rfl (by kernel_rfl) (by kernel_rfl) (by kernel_rfl) (fun _ _ _ h=>h) (Or.inl ⟨by rfl,?_⟩) hHeld ?_
   rotate_left 1
   ·(intro W hW;(try dsimp only at hW);go_simp;try with_reducible rfl)
   try simp only [Act.put,List.setIfInBounds_toArray,List.set_cons_zero,List.set_cons_succ]
   refine wpAnyH_take (i:=4) (oi:={ dst:=some 66,op:=Op.fieldAddr 42 (Operand.tmp 65) 0,type:=0,pos:=_,after:=_,guard:=none }) (v:=?_) rfl (by kernel_rfl) (by kernel_rfl) (by kernel_rfl) (fun _ _ _ h=>h) (Or.inl ⟨by rfl,?_⟩) hHeld ?_
   rotate_left 1
   ·(intro W hW;(try dsimp only at hW);go_simp;try with_reducible rfl)
   try simp only [Act.put,List.setIfInBounds_toArray,List.set_cons_zero,List.set_cons_succ]
   refine wpAnyH_take (i:=5) (oi:={ dst:=some 67,op:=Op.load 3 (Operand.tmp 66),type:=3,pos:=_,after:=_,guard:=none }) (v:=?_) rfl (by kernel_rfl) (by kernel_rfl) (by kernel_rfl) (fun _ _ _ h=>h) (Or.inl ⟨by rfl,?_⟩) hHeld ?_
   rotate_left 1
   ·(intro W hW;have hk:=(Below.cell (p:=⟨b,off+k*2,none⟩) hW hb).trans hc0;(try dsimp only at hW);go_simp;try with_reducible rfl)
   try simp only [Act.put,List.setIfInBounds_toArray,List.set_cons_zero,List.set_cons_succ]
   refine wpAnyH_take (i:=6) (oi:={ dst:=some 68,op:=Op.binOp BinOp.add 3 (Operand.const (Value.int IntKind.i64 157)) (Operand.tmp 67) 3,type:=3,pos:=_,after:=_,guard:=none }) (v:=?_) rfl (by kernel_rfl) (by kernel_rfl) (by kernel_rfl) (fun _ _ _ h=>h) (Or.inl ⟨by rfl,?_⟩) hHeld ?_
   rotate_left 1
   ·(intro W hW;(try dsimp only at hW);go_simp;try with_reducible rfl)
   try simp only [Act.put,List.setIfInBounds_toArray,List.set_cons_zero,List.set_cons_succ]
   refine wpAnyH_take (i:=7) (oi:={ dst:=some 69,op:=Op.move (Operand.tmp 1),type:=27,pos:=_,after:=_,guard:=none }) (v:=?_) rfl (by kernel_rfl) (by kernel_rfl) (by kernel_rfl) (fun _ _ _ h=>h) (Or.inl ⟨by rfl,?_⟩) hHeld ?_
   rotate_left 1
   ·(intro W hW;(try dsimp only at hW);go_simp;try with_reducible rfl)
   try simp only [Act.put,List.setIfInBounds_toArray,List.set_cons_zero,List.set_cons_succ]
   refine wpAnyH_take (i:=8) (oi:={ dst:=some 70,op:=Op.move (Operand.tmp 8),type:=3,pos:=_,after:=_,guard:=none }) (v:=?_) rfl (by kernel_rfl) (by kernel_rfl) (by kernel_rfl) (fun _ _ _ h=>h) (Or.inl ⟨by rfl,?_⟩) hHeld ?_
   rotate_left 1
   ·(intro W hW;(try dsimp only at hW);go_simp;try with_reducible rfl)
   try simp only [Act.put,List.setIfInBounds_toArray,List.set_cons_zero,List.set_cons_succ]
   refine wpAnyH_take (i:=9) (oi:={ dst:=some 71,op:=Op.indexAddr 27 (Operand.tmp 69) (Operand.tmp 70),type:=0,pos:=_,after:=_,guard:=none }) (v:=?_) rfl (by kernel_rfl) (by kernel_rfl) (by kernel_rfl) (fun _ _ _ h=>h) (Or.inl ⟨by rfl,?_⟩) hHeld ?_
   rotate_left 1
   ·(intro W hW;(try dsimp only at hW);go_simp;try with_reducible rfl)
   try simp only [Act.put,List.setIfInBounds_toArray,List.set_cons_zero,List.set_cons_succ]
   refine wpAnyH_take (i:=10) (oi:={ dst:=some 72,op:=Op.fieldAddr 42 (Operand.tmp 71) 1,type:=0,pos:=_,after:=_,guard:=none }) (v:=?_) rfl (by kernel_rfl) (by kernel_rfl) (by kernel_rfl) (fun _ _ _ h=>h) (Or.inl ⟨by rfl,?_⟩) hHeld ?_
   rotate_left 1
   ·(intro W hW;(try dsimp only at hW);go_simp;try with_reducible rfl)
   try simp only [Act.put,List.setIfInBounds_toArray,List.set_cons_zero,List.set_cons_succ]
   refine wpAnyH_take (i:=11) (oi:={ dst:=some 73,op:=Op.load 40 (Operand.tmp 72),type:=40,pos:=_,after:=_,guard:=none }) (v:=?_) rfl (by kernel_rfl) (by kernel_rfl) (by kernel_rfl) (fun _ _ _ h=>h) (Or.inl ⟨by rfl,?_⟩) hHeld ?_
   rotate_left 1
   ·(intro W hW;have hk:=(Below.cell (p:=⟨b,off+k*2+1,none⟩) hW hb).trans hc1;(try dsimp only at hW);go_simp;try with_reducible rfl)
   try simp only [Act.put,List.setIfInBounds_toArray,List.set_cons_zero,List.set_cons_succ]
   refine wpAnyH_take (i:=12) (oi:={ dst:=some 74,op:=Op.build 42 #[(0,Operand.tmp 68),(1,Operand.tmp 73)],type:=42,pos:=_,after:=_,guard:=none }) (v:=?_) rfl (by kernel_rfl) (by kernel_rfl) (by kernel_rfl) (fun _ _ _ h=>h) (Or.inl ⟨by rfl,?_⟩) hHeld ?_
   rotate_left 1
   ·(intro W hW;(try dsimp only at hW);go_simp;try with_reducible rfl)
   try simp only [Act.put,List.setIfInBounds_toArray,List.set_cons_zero,List.set_cons_succ]
   refine wpAnyH_ready (rs:=[13]) (by kernel_rfl) (by simp) ?_
   refine AllReadyH.cons (o:={ dst:=some 75,op:=Op.buildSlice 27 1 #[(0,Operand.tmp 74)],type:=27,pos:=_,after:=_,guard:=none }) rfl (fun K hK=>?_) AllReadyH.nil
   obtain ⟨y,hy⟩:∃ y,y=W10.drew:=⟨_,rfl⟩
   rw [←hy]
   have HC:=Lib.hid (HC.out.under (show Below W10.heap.size W10 y by rw [hy];exact (Below.refl _ W10).drew))
   clear hy
   go_simp
   have hbd:Below y.heap.size y (y.alloc (.cells #[.int .i64 (157+(a:Int)),.slice da 64 dc] 42)):=(Below.refl _ _).alloc (Nat.le_refl _) _
   have hfd:Holds (y.alloc (.cells #[.int .i64 (157+(a:Int)),.slice da 64 dc] 42)) y.heap.size 42 #[.int .i64 (157+(a:Int)),.slice da 64 dc]:=Holds.fresh _ _ _
   generalize y.alloc (.cells #[.int .i64 (157+(a:Int)),.slice da 64 dc] 42)=wd at *
   obtain ⟨gd,hgd⟩:∃ g,g=y.heap.size:=⟨_,rfl⟩
   rw [←hgd] at hfd ⊢
   clear hgd
   have HC:=Lib.hid (HC.out.under hbd)
   have HFd:=Lib.hid hfd
   clear hbd hfd
   refine hK.out _ _ (HC.out.bel) (fun hHeld=>?_)
   clear hK K
   try simp only [Act.put,List.setIfInBounds_toArray,List.set_cons_zero,List.set_cons_succ]
   refine wpAnyH_ready (rs:=[14]) (by kernel_rfl) (by simp) ?_
   refine AllReadyH.cons (o:={ dst:=some 76,op:=Op.call { callee:=Callee.builtin Builtin.append,args:=#[Operand.tmp 62,Operand.tmp 75],argTypes:=#[27,27] },type:=27,pos:=_,after:=_,guard:=none }) rfl (fun K hK=>?_) AllReadyH.nil
   refine step_pushV _ rfl (.tmp 62) (.tmp 75) 27 rfl 42 (.agg #[.int .i64 0,.slice none 0 0]) 2 32 Try.underlying27 info_write rfl (by omega) (by omega) rfl HC.out.l (cs:=wrCells ⟨157+(a:Int),da,dc,xd⟩) rfl rfl (one_wr _) (hold_wr HDN.out HFd.out) (by omega) ?_
   intro g9 c9 W11 ho9 hg9 hat9 _
   have HC:=Lib.hid (HC.out.growL ho9 hg9 hat9)
   clear ho9 hg9 hat9 HFd
   refine hK.out _ _ (HC.out.bel) (fun hHeld=>?_)
   clear hK K
   try simp only [Act.put,List.setIfInBounds_toArray,List.set_cons_zero,List.set_cons_succ]
   refine wpAnyH_take (i:=15) (oi:={ dst:=some 6,op:=Op.assign (Operand.tmp 76),type:=27,pos:=_,after:=_,guard:=none }) (v:=?_) rfl (by kernel_rfl) (by kernel_rfl) (by kernel_rfl) (fun _ _ _ h=>h) (Or.inl ⟨by rfl,?_⟩) hHeld ?_
   rotate_left 1
   ·(intro W hW;(try dsimp only at hW);go_simp;try with_reducible rfl)
   try simp only [Act.put,List.setIfInBounds_toArray,List.set_cons_zero,List.set_cons_succ]
   refine wpAnyH_done (by kernel_rfl) ?_ _
   refine NoPanic.normal ?_
   clear k157 hc0 hc1 hb
   have HCN:Hid (Cm w1 W11 _ _ (k+1) ((fW 1 l (k+1)).flatMap wrCells) _ _ (k+1) ((lW l (k+1)).flatMap wrCells) _ _ (2*(k+1)) (vals .u8 (pW l (k+1)))):=Lib.hid (by
    have hh:=HC.out
    rw [HPV.out] at hh
    rw [HFS.out,HLS.out,List.flatMap_append,List.flatMap_append,←HVV.out,show 2*(k+1)=2*k+2 from rfl]
    simpa using hh)
   clear HC hHeld
   go_wp2_with fail
   go_roundw
   case rel=>exact ⟨k+1,_,_,_,_,_,_,by omega,rfl,rfl,rfl,by go_num,HCN.out⟩
   case measure=>simp [intOf];omega
  case neg =>
   obtain rfl:k=n:=by omega
   have hkI:¬ ((k:Int)<(k:Int)):=by omega
   go_wp2_with fail
   go_loopw [5,9] (fun sf si wr=>RelC2 w1 k l Af cf Al cl Ap cp sf si wr) (fun _ si _=>1 - (intOf si).toNat)
   case atStart=>exact .inl ⟨rfl,rfl,HC.out⟩
   case round =>
    clear HC
    obtain ⟨Y,hY⟩:∃ Y,Y=wr:=⟨_,rfl⟩
    subst hY
    rcases hrel with ⟨rfl,rfl,hc⟩ | ⟨rfl,A9,c9,gs,rfl,hc,hrs,hgs⟩
    ·have HC:=Lib.hid hc
     clear hc
     have hu0:(0:Int)<(u:Int):=by have:=HU.out;omega
     go_wp2_with (first | (refine (HIX.out _).mono ?_;rintro e wq ⟨rfl,rfl⟩) | fail)
     have hrp:Rd .u8 Y Y.heap.size Ap cp (pW l k):=by
      have h1:=HC.out.p
      rw [←pW_length l k] at h1
      exact Own.rd (B:=0) (e:=5) h1
     refine (rsectorR Y Ap cp (2*k) (pW l k) (pW_length l k) hrp).mono ?_
     rintro e w3 ⟨rfl,hr3,hl3,hb3⟩
     have hsb:secOf (pW l k)=shB (wv l) 0:=by unfold shB;rw [←HL.out,pW_v];rfl
     rw [hsb] at hr3
     obtain ⟨W3,hW3⟩:∃ W,W=w3.alloc (.cells #[.int .i64 2,.slice (some ⟨Y.heap.size,0,none⟩) 64 64] 42):=⟨_,rfl⟩
     have HW3:=Lib.hid hW3
     have hb34:Below w3.heap.size w3 W3:=by rw [hW3];exact (Below.refl _ _).alloc (Nat.le_refl _) _
     have HR3:Hid (Rd .u8 W3 W3.heap.size (some ⟨Y.heap.size,0,none⟩) 64 (shB (wv l) 0)∧w1.heap.size≤Y.heap.size∧Y.heap.size<W3.heap.size∧blockOf Af≠some Y.heap.size):=Lib.hid ⟨(hr3.under hb34).more hb34.size,HC.out.bel.size,Nat.lt_of_lt_of_le hl3 hb34.size,fun e=>by have:=HC.out.f.lt e;omega⟩
     have HC:=Lib.hid (HC.out.under (hb3.trans (hb34.mono hb3.size)))
     obtain ⟨gs,hgs⟩:∃ g,g=Y.heap.size:=⟨_,rfl⟩
     rw [←hgs] at HR3
     have HFX:Hid (Holds W3 w3.heap.size 42 (wrCells (Wr.mk 2 (some ⟨gs,0,none⟩) 64 (shB (wv l) 0))).toArray):=Lib.hid (hold_wr (secOf_length _) (by rw [hW3,hgs];exact Holds.fresh _ _ _))
     rw [←hgs] at HW3
     clear hrp hr3 hl3 hb3 hsb hb34 hW3
     rw [←hgs]
     clear hgs
     go_wp2_with (first | (at_builtin;rw [←HW3.out];refine wpList_pushV _ rfl (.tmp 84) (.tmp 93) 27 rfl 42 (.agg #[.int .i64 0,.slice none 0 0]) 2 32 Try.underlying27 info_write rfl (by omega) (by omega) rfl HC.out.f (cs:=wrCells (Wr.mk 2 (some ⟨gs,0,none⟩) 64 (shB (wv l) 0))) rfl rfl (one_wr _) HFX.out (by omega) ?_;intro g9 c9 W9 ho9 hg9 hat9 hlt9) | fail)
     have HR9:Hid (Rd .u8 W9 W9.heap.size (some ⟨gs,0,none⟩) 64 (shB (wv l) 0)):=Lib.hid (HR3.out.1.keepB hg9.size fun g hg _=>hg9.block g (by
      obtain rfl:gs=g:=by simpa [blockOf] using hg
      exact HR3.out.2.2.1) fun e=>by
      obtain rfl:gs=g:=by simpa [blockOf] using hg
      exact HR3.out.2.2.2 e.symm)
     have HC:=Lib.hid (HC.out.growF ho9 hg9 hat9)
     clear ho9 hg9 hat9 hlt9 HFX HW3
     go_wp2_with fail
     go_roundw
     case rel=>exact .inr ⟨by go_num,_,c9,gs,rfl,by rw [List.flatMap_append];simpa using HC.out,HR9.out,HR3.out.2.1⟩
     case measure=>simp [intOf]
    ·have HC:=Lib.hid hc
     have HRS:=Lib.hid hrs
     have HGS:=Lib.hid hgs
     clear hc hrs hgs
     have hu1:¬ (1:Int)<(u:Int):=by have:=HU.out;omega
     obtain ⟨lf,hlf⟩:∃ lf,lf=fW 1 l k ++ [Wr.mk 2 (some ⟨gs,0,none⟩) 64 (shB (wv l) 0)]:=⟨_,rfl⟩
     rw [←hlf] at HC
     have hll:lf.length=k+1:=by rw [hlf,List.length_append,fW_length];rfl
     have hat:∀ j,j<k→lf.getD j default=⟨((2+1+j:Nat):Int),(l.getD j default).da,(l.getD j default).dc,(l.getD j default).d⟩:=fun j hj=>by
      rw [←fW_at 1 l hj,hlf]
      simp [List.getD,fW_length,hj,List.getElem?_append]
     have hak:lf.getD k default=Wr.mk 2 (some ⟨gs,0,none⟩) 64 (shB (wv l) 0):=by
      rw [hlf]
      simp [List.getD,fW_length,List.getElem?_append]
     have HOF:=Lib.hid (own_off (F:=F) HC.out.bel hll HC.out.f (fun g e=>(HC.out.bf g e).1) HR1.out fun W' hs hk2 hr' j hj=>by
      rw [hll] at hj
      rcases Nat.lt_or_ge j k with h | h
      ·rw [hat j h]
       exact hr'.2.2.1 j (by rw [HL.out];exact h)
      ·obtain rfl:j=k:=by omega
       rw [hak]
       exact HRS.out.keepB hs fun g hg hlt=>hk2 g (by
        obtain rfl:gs=g:=by simpa [blockOf] using hg
        exact HGS.out) hlt)
     have HOL:=Lib.hid (own_off (F:=F) (l:=lW l k) HC.out.bel (lW_length l k) HC.out.l (fun g e=>(HC.out.bl g e).1) HR1.out fun W' hs hk2 hr' j hj=>by
      rw [lW_length] at hj
      rw [lW_at l hj]
      exact hr'.2.2.1 j (by rw [HL.out];exact hj))
     have hgd:∀ j,j<k→l.getD j default∈l:=fun j hj=>getD_memJ (by rw [HL.out];exact hj)
     have HNF:Hid (∀ x∈lf,∀ g,blockOf x.da=some g→g≠gx):=Lib.hid fun x hx g hg=>by
      rw [hlf] at hx
      rcases List.mem_append.1 hx with hx | hx
      ·obtain ⟨i,hi,rfl⟩:=List.mem_map.1 hx
       exact HNE.out _ (hgd i (List.mem_range.1 hi)) g hg
      ·rw [List.mem_singleton.1 hx] at hg
       obtain rfl:gs=g:=by simpa [blockOf] using hg
       have:=HGS.out
       have:=HH1.out.at_.2
       omega
     have HNL:Hid (∀ x∈lW l k,∀ g,blockOf x.da=some g→g≠gx):=Lib.hid fun x hx g hg=>by
      obtain ⟨i,hi,rfl⟩:=List.mem_map.1 hx
      exact HNE.out _ (hgd i (List.mem_range.1 hi)) g hg
     have hv:wv lf=logD (wv l) ++ logS (wv l):=by
      have h1:sheetsN l.length=1:=by rw [HL.out];exact HSH.out
      rw [hlf,wv_snoc]
      have h2:=fW_v l
      rw [h1,HL.out] at h2
      rw [h2]
      unfold logS
      rw [wv_length,h1]
      rfl
     have HVL:Hid (s.fin (wv l)=s.aft (wv (lW l k))∧∀ s':Dk,s'.fin (wv l)=s'.aft (wv (lW l k))):=Lib.hid (by
      have h2:=lW_v l
      rw [HL.out] at h2
      rw [h2]
      exact ⟨rfl,fun _=>rfl⟩)
     have HRY:Hid (Ref Y (fun k=>F k∧k<w1.heap.size) gx s):=Lib.hid (HH1.out.low.under HC.out.bel)
     have HBY:=Lib.hid HC.out.bel
     have HWR:=Lib.hid (write'_any HRY.out A9 c9 (k+1) lf hll HOF.out HNF.out (by omega) (by have:=HWL.out.1;omega) (by have:=HWL.out.2;omega))
     rw [hv] at HWR
     have hle:=putf_le s (logD (wv l) ++ logS (wv l))
     rw [←hv,wv_length,hll] at hle
     have HLE:Hid ((s.putf (logD (wv l) ++ logS (wv l))).1.waits.length≤60100∧(s.putf (logD (wv l) ++ logS (wv l))).1.ops≤600000100):=Lib.hid (by rw [←hv];have:=HWL.out;omega)
     clear hlf hll hat hak hv hle hgd HC HOF HNF HRS
     generalize s.putf (logD (wv l) ++ logS (wv l))=q1 at *
     obtain ⟨s1,e1⟩:=q1
     dsimp only at *
     go_wp2_with (first | (refine (HIX.out _).mono ?_;rintro e wq ⟨rfl,rfl⟩) | fail)
     refine HWR.out.mono ?_
     rintro e w2 ⟨rfl,hd2⟩
     have HD2:=Lib.hid hd2
     clear hd2 HWR
     by_cases h0:e1=0
     case neg =>
      have HE:Hid (s.commit (wv l)=(s1,e1)):=Lib.hid (by rw [HCD.out,if_neg h0])
      have d0:((e1:Int) == 0)=false:=by rw [beq_eq_false_iff_ne];omega
      clear HCD
      go_wp2_with fail
      go_ret
      rw [HE.out]
      exact ⟨rfl,RJ.ofBelow HB1.out (RJ.ofLow HBY.out HD2.out)⟩
     subst h0
     have HCD2:=Lib.hid (HCD.out.trans (if_pos rfl))
     clear HCD
     have HMK:=Lib.hid (mark'_any w2 k (by omega))
     go_wp2_with fail
     refine HMK.out.mono ?_
     rintro e w3 ⟨rfl,hr3,hl3,hb3⟩
     obtain ⟨w4,hw4⟩:∃ w4,w4=w3.alloc (.cells #[.int .i64 1,.slice (some ⟨w2.heap.size+1,0,none⟩) 64 64] 42):=⟨_,rfl⟩
     have hb4:Below w2.heap.size w2 w4:=by rw [hw4];exact hb3.alloc hb3.size _
     have HWZ:=Lib.hid (RJ.thenD (s':=(s1.putf [(1,markB k)]).1) (v:=.int .i64 ((s1.putf [(1,markB k)]).2:Nat)) HD2.out hb4 fun F2 hF hlt hgx=>(write'_any hF (some ⟨w3.heap.size,0,none⟩) 1 1 [⟨1,some ⟨w2.heap.size+1,0,none⟩,64,markB k⟩] rfl (by
      have h1:=one_made (B0:=w2.heap.size) (F:=F2) (V:=w3) (fun k hk=>Nat.lt_of_lt_of_le (hlt k hk).2 hb3.size) (Wr.mk 1 (some ⟨w2.heap.size+1,0,none⟩) 64 (markB k)) hr3 (fun b o e=>by cases e;omega) hb3.size (fun k hk=>(hlt k hk).2) (0,0)
      dsimp only at h1
      rw [show (markB k).length=64 from secOf_length _] at h1
      rw [hw4]
      exact h1) (fun x hx g hg=>by
      rw [List.mem_singleton.1 hx] at hg
      obtain rfl:w2.heap.size+1=g:=by simpa [blockOf] using hg
      omega) (by omega) (by have:=HLE.out;omega) (by have:=HLE.out;omega)))
     have hle2:=putf_le s1 [(1,markB k)]
     have HLE2:Hid ((s1.putf [(1,markB k)]).1.waits.length≤60200∧(s1.putf [(1,markB k)]).1.ops≤600000200):=Lib.hid (by have:=HLE.out;simp only [List.length_cons,List.length_nil] at hle2;omega)
     have HW4:=Lib.hid hw4
     clear hr3 hl3 hb3 hb4 hle2 HMK hw4
     generalize s1.putf [(1,markB k)]=q2 at *
     obtain ⟨s2,e2⟩:=q2
     dsimp only at *
     go_wp2_with fail
     rw [←HW4.out]
     refine HWZ.out.mono ?_
     rintro e w5 ⟨rfl,hd5⟩
     have HD5:=Lib.hid hd5
     clear hd5 HWZ HW4 HD2
     by_cases h0:e2=0
     case neg =>
      have HE:Hid (s.commit (wv l)=(s2,e2)):=Lib.hid (by rw [HCD2.out,if_neg h0])
      have d0:((e2:Int) == 0)=false:=by rw [beq_eq_false_iff_ne];omega
      clear HCD2
      go_wp2_with fail
      go_ret
      rw [HE.out]
      exact ⟨rfl,RJ.ofBelow HB1.out (RJ.ofLow HBY.out HD5.out)⟩
     subst h0
     have HCD3:Hid (s.commit (wv l)=s2.aft (wv (lW l k))):=Lib.hid ((HCD2.out.trans (if_pos rfl)).trans (HVL.out.2 s2))
     have HAP:=Lib.hid (RJ.thenD (s':=(s2.aft (wv (lW l k))).1) (v:=.int .i64 ((s2.aft (wv (lW l k))).2:Nat)) HD5.out (Below.refl _ w5) fun F2 hF hlt hgx=>(applied'_any hF Al cl k (lW l k) (lW_length l k) ((HD5.out.then HOL.out).less fun g hg=>.inl (hlt g hg).1) HNL.out (by omega) (by have:=HLE2.out;omega) (by have:=HLE2.out;omega)))
     clear HCD2
     go_wp2_with fail
     refine HAP.out.mono ?_
     rintro e w6 ⟨rfl,hd6⟩
     have HD6:=Lib.hid hd6
     clear hd6 HAP
     go_wp2_with fail
     go_ret
     rw [HCD3.out]
     exact ⟨rfl,RJ.ofBelow HB1.out (RJ.ofLow HBY.out HD6.out)⟩
end
end Go.Proofs.Ytkmbgbbmhpidkaa
