/- Words and laws for the statement, part 13. -/
import Derived.Test.YtnedpkhehiijhaaGreatQ12
namespace Go.Proofs.YtnedpkhehiijhaaGreat
open Go.RowKit
set_option linter.unusedVariables false
set_option linter.unusedSimpArgs false
attribute [local go_sem ↓] Go.wp_at_zero Go.wp_at_succ

theorem node_ok {s:ByteArray} {d:List Nat} {fr:List Nat} (hs:NameOk s) (hd:d.length≤600) (hfr:needN d≤fr.length) (hm:∀ x∈fr,x≤65535) (hn:fr.Nodup):NodeOk s (d.length:Int) (placesI fr (needN d)):=by
 refine ⟨hs,by omega,by omega,by rw [placesI_len hfr];exact needN_I d,fun k hk=>?_,fun a b hab hb=>?_⟩
 ·have e:(placesI fr (needN d)).getD k 0=(placesI fr (needN d))[k]:=by simp [List.getD,hk]
  rw [e]
  obtain ⟨y,h1,h2⟩:=placesI_mem (List.getElem_mem hk)
  have:=hm y (List.mem_of_mem_take h1)
  rw [h2]
  omega
 ·have hn:=placesI_nodup hn (needN d)
  unfold List.Nodup at hn
  rw [List.pairwise_iff_getElem] at hn
  have:=hn b a (by omega) hb hab
  simpa [List.getD,hb,show b<(placesI fr (needN d)).length by omega] using this
/-- The plan stands somehow. -/
def PlAny (O:Nat→Prop) (w0:World) (gp:Nat) (p:Pln) (W:World):Prop:=∃ ns fA fc wA wc l,PlSt O w0 gp (fun _=>False) p ns fA fc wA wc l W
/-- What put answers. -/
def PutP (O:Nat→Prop) (w0 w:World) (gp:Nat) (r:Option Pln) (e:Ending) (w':World):Prop :=
 match r with
 | none=>e = .returned (.bool false)∧Only (fun k=>k=gp) w0 w'
 | some q=>e = .returned (.bool true)∧PlAny O w0 gp q w'
structure PtSt (O:Nat→Prop) (w0:World) (gp gb:Nat) (p:Pln) (us:List Bool) (s:ByteArray) (d:List Nat) (k:Nat) (ns:List Nd) (nA:Option Addr) (nc:Nat) (fA:Option Addr) (fc:Nat) (wA:Option Addr) (wc:Nat) (l:List Wr) (W:World):Prop where
 st:PlSt O w0 gp (fun g=>g=gb∨blockOf nA=some g) (p.mid us d k) ns fA fc wA wc l W
 box:Holds W gb 70 #[.string s,.int .i64 (d.length:Int),.slice nA k nc]
 own:Own .i64 3 W (gb+1) nA nc (p.fr.take k)
def RelPt (O:Nat→Prop) (w0:World) (gp gb:Nat) (p:Pln) (us:List Bool) (s:ByteArray) (d:List Nat) (ns:List Nd) (si:Value) (wr:World):Prop :=
 ∃ k nA nc fA fc wA wc l,k≤needN d∧si = .int .i64 (64*(k:Int))∧PtSt O w0 gp gb p us s d k ns nA nc fA fc wA wc l wr
theorem Own.keepB {k:IntKind} {e:TypeId} {w w':World} {B:Nat} {A:Option Addr} {c:Nat} {l:List Nat} (h:Own k e w B A c l) (hk:∀ g,blockOf A=some g→g<w.heap.size→w'.heap[g]?=w.heap[g]?):Own k e w' B A c l:=by
 refine ⟨h.1,?_⟩
 rcases h.2 with hn | ⟨g,cap,cur,hv,hB,hgg,rest⟩
 ·exact .inl hn
 ·refine .inr ⟨g,cap,cur,hv,hB,?_,rest⟩
  injection hv with hA
  rw [hA] at hk
  exact (hk g rfl (Array.getElem?_eq_some_iff.1 hgg).1).trans hgg
section
variable {O:Nat→Prop} {w0 w:World} {gp:Nat} {p:Pln}
set_option maxRecDepth 100000 in
set_option maxHeartbeats 8000000 in
theorem planPut_any (h:PlAny O w0 gp p w) (slot:Option Nat) (hsl:∀ i,slot=some i→i<40) (s:ByteArray) (hs:NameOk s) (d:List Nat) (hd:d.length≤600) (hfr:needN d≤p.fr.length) (hfm:∀ x∈p.fr,x≤65535) (hfn:p.fr.Nodup) (hws:p.ws.length≤7000)
  (dA:Option Addr) (dc B:Nat) (hB:B≤gp) (hdr:Rd .u8 w0 B dA dc d) :
  Calls Tryz.prog 86 #[.pointer (some ⟨gp,0,none⟩),.int .i64 (slotI slot),.string s,.slice dA d.length dc] w (PutP O w0 w gp (p.put slot s d)):=by
 obtain ⟨ns,fA,fc,wA,wc,l,hst⟩:=h
 have hg0:=hst.g0
 have HDR:Hid (∀ W,Only (fun k=>k=gp) w0 W→Rd .u8 W B dA dc d):=Lib.hid fun W hW=>hdr.onB fun hn g hg hlt=>hW.block g (by omega) (by omega)
 obtain ⟨dn,hdn⟩:∃ dn,dn=d.length:=⟨_,rfl⟩
 rw [←hdn]
 have HDN:=Lib.hid hdn
 have HS:=Lib.hid hs
 have HFM:=Lib.hid hfm
 have HFN:=Lib.hid hfn
 have HWS:=Lib.hid hws
 have hd6:dn≤600:=by omega
 obtain ⟨nd,hnd⟩:∃ nd,nd=needN d:=⟨_,rfl⟩
 have hndA:dn≤64*nd∧64*nd<dn+64:=by
  have:nd=(dn+63) / 64:=by rw [hnd,hdn];rfl
  omega
 have HND:=Lib.hid hnd
 have hfl:nd≤p.fr.length:=by omega
 clear hdr hs hd hfr hfm hfn hws hnd hdn
 cases slot with
 | some i =>
  have hi:i<40:=hsl i rfl
  have hi0:¬ ((i:Int)<0):=by omega
  obtain ⟨us,hus⟩:∃ us,us=p.us:=⟨_,rfl⟩
  have HUS:Hid (p.put (some i) s d=some (p.into i us s d)):=Lib.hid (by rw [hus];rfl)
  have HST:Hid (PlSt O w0 gp (fun _=>False) { p with us:=us } ns fA fc wA wc l w):=Lib.hid (by rw [hus];exact hst)
  clear hst hsl hus
  obtain ⟨W1,hW1⟩:∃ W1,W1=w:=⟨_,rfl⟩
  subst hW1
  show Calls _ _ #[_,.int .i64 (i:Int),_,_] _ _
  go_enter Tryz.func86,Tryz.ntmps86
  obtain ⟨V1,hV1⟩:∃ V1,V1=W1.alloc (.cells #[.string s,.int .i64 (dn:Int),.slice none 0 0] 70):=⟨_,rfl⟩
  obtain ⟨gb,hgb⟩:∃ gb,gb=W1.heap.size:=⟨_,rfl⟩
  have HGB:=Lib.hid hgb
  have hw1:=HST.out.only.size
  have HP1:Hid (PtSt O w0 gp gb p us s d 0 ns none 0 fA fc wA wc l V1):=Lib.hid (by
   have hh:Holds V1 gb 70 #[.string s,.int .i64 (dn:Int),.slice none 0 0]:=by rw [hV1,hgb];exact Holds.fresh _ _ _
   refine ⟨?_,by rw [←HDN.out];exact hh,by rw [List.take_zero];exact Own.nil _ _ _ _⟩
   rw [Pln.mid_zero]
   refine HST.out.other (by rw [hV1];exact Only.of_below ((Below.refl _ _).alloc (Nat.le_refl _) _)) fun k hk=>?_
   rcases hk with rfl | hk
   ·exact ⟨.inr (by omega),hh.lt⟩
   ·cases hk)
  have HV1:=Lib.hid hV1
  clear hV1 HST hgb
  go_wp2_with (first | (rw [←HV1.out,←HGB.out]) | fail)
  go_loopw [10] (fun si wr=>RelPt O w0 gp gb p us s d ns si wr) (fun si _=>1000 - (intOf si).toNat)
  case atStart=>exact ⟨0,none,0,fA,fc,wA,wc,l,Nat.zero_le _,rfl,HP1.out⟩
  case round =>
   clear HP1
   obtain ⟨k,nA,nc,fA,fc,wA,wc,l,hk,rfl,hpt⟩:=hrel
   obtain ⟨V,hV⟩:∃ V,V=wr:=⟨_,rfl⟩
   subst hV
   rw [←HND.out] at hk
   have HPT:=Lib.hid hpt
   have hgp9:=hpt.st.g0
   have hvz:=hpt.st.only.size
   clear hpt
   by_cases hlt:k<nd
   case pos =>
    have hkI:64*(k:Int)<(dn:Int):=by omega
    have hk0:(0:Int)≤64*(k:Int):=by omega
    have hkw:IntKind.i64.wrap (64*(k:Int)+64)=64*(k:Int)+64:=IntWalk.i64_in _ (by omega)
    have hfl2:(p.fr.drop k).length=p.fr.length - k:=List.length_drop
    obtain ⟨fb,fo,x,rfl,hfb,hfx,HX⟩:=HPT.out.st.fr.1.at_ (i:=0) (by show 0<(p.fr.drop k).length;omega)
    have HXX:Hid (x=p.fr.getD k 0):=Lib.hid (by rw [HX.out];show (p.fr.drop k).getD 0 0=_;simp [List.getD])
    clear HX
    rw [Nat.add_zero] at hfx
    obtain ⟨fn,hfn⟩:∃ fn,fn=(p.mid us d k).fr.length:=⟨_,rfl⟩
    have HFN2:Hid (fn=p.fr.length - k):=Lib.hid (by rw [hfn];exact hfl2)
    have hfn0:0<fn:=by have:=HFN2.out;omega
    have HFA:Hid (V.cell? ⟨gp,160,none⟩=some (.slice (some ⟨fb,fo,none⟩) fn fc)):=Lib.hid (by rw [hfn];exact HPT.out.st.at_.free)
    have HFX:=Lib.hid hfx
    have HBX:Hid (Holds V gb 70 #[.string s,.int .i64 (dn:Int),.slice nA k nc]):=Lib.hid (by rw [HDN.out];exact HPT.out.box)
    have HGP:Hid (¬ (gp=gb∨blockOf nA=some gp)):=Lib.hid fun e=>by have:=(HPT.out.st.gg gp e).1;omega
    have HFB:Hid (fb≠gp∧¬ (fb=gb∨blockOf nA=some fb)):=Lib.hid ⟨(HPT.out.st.fr.2 (by rw [←hfn];omega) fb rfl).1,(HPT.out.st.fr.2 (by rw [←hfn];omega) fb rfl).2.2⟩
    have HNB:Hid (blockOf nA≠some gb):=Lib.hid fun e=>by have:=(HPT.out.own.block e).1;omega
    have HVZ:Hid (gp<V.heap.size):=Lib.hid (by omega)
    have HS9:Hid (∀ W',Only (fun g=>g=gb∨blockOf nA=some g) V W'→W'.cell? ⟨gp,160,none⟩=some (.slice (some ⟨fb,fo,none⟩) fn fc)∧W'.cell? ⟨fb,fo,none⟩=some (.int .i64 (x:Int))):=Lib.hid fun W' hW=>⟨(cell_same (hW.block gp HVZ.out HGP.out) _).trans HFA.out,(cell_same (hW.block fb hfb HFB.out.2) _).trans HFX.out⟩
    have HTK:Hid (p.fr.take (k+1)=p.fr.take k ++ [x]):=Lib.hid (by
     have:p.fr[k]?=some x:=by rw [HXX.out];simp [List.getD,show k<p.fr.length by omega]
     exact take_snocJ this)
    have HTL:Hid ((p.fr.take k).length=k):=Lib.hid (by rw [List.length_take];omega)
    clear hfx hfn hfl2
    go_wp2_with fail
    refine wp_region_noPanic ?_
    refine wp_region_held_drew (S:=fun W'=>Only (fun g=>g=gb∨blockOf nA=some g) V W') (by kernel_rfl) ((Only.refl _ V).drew) (fun hHeld=>?_)
    refine wpAnyH_take (i:=0) (oi:={ dst:=some 27,op:=Op.fieldAddr 70 (Operand.tmp 9) 2,type:=0,pos:=_,after:=_,guard:=none }) (v:=?_) rfl (by kernel_rfl) (by kernel_rfl) (by kernel_rfl) (fun _ _ _ h=>h) (Or.inl ⟨by rfl,?_⟩) hHeld ?_
    rotate_left 1
    ·(intro W hW;(try dsimp only at hW);go_simp;try with_reducible rfl)
    try simp only [Act.put,List.setIfInBounds_toArray,List.set_cons_zero,List.set_cons_succ]
    refine wpAnyH_take (i:=2) (oi:={ dst:=some 29,op:=Op.move (Operand.tmp 0),type:=180,pos:=_,after:=_,guard:=none }) (v:=?_) rfl (by kernel_rfl) (by kernel_rfl) (by kernel_rfl) (fun _ _ _ h=>h) (Or.inl ⟨by rfl,?_⟩) hHeld ?_
    rotate_left 1
    ·(intro W hW;(try dsimp only at hW);go_simp;try with_reducible rfl)
    try simp only [Act.put,List.setIfInBounds_toArray,List.set_cons_zero,List.set_cons_succ]
    refine wpAnyH_take (i:=3) (oi:={ dst:=some 30,op:=Op.nilCheck (Operand.tmp 29),type:=0,pos:=_,after:=_,guard:=none }) (v:=?_) rfl (by kernel_rfl) (by kernel_rfl) (by kernel_rfl) (fun _ _ _ h=>h) (Or.inl ⟨by rfl,?_⟩) hHeld ?_
    rotate_left 1
    ·(intro W hW;(try dsimp only at hW);go_simp;try with_reducible rfl)
    try simp only [Act.put,List.setIfInBounds_toArray,List.set_cons_zero,List.set_cons_succ]
    refine wpAnyH_take (i:=4) (oi:={ dst:=some 31,op:=Op.fieldAddr 99 (Operand.tmp 30) 2,type:=0,pos:=_,after:=_,guard:=none }) (v:=?_) rfl (by kernel_rfl) (by kernel_rfl) (by kernel_rfl) (fun _ _ _ h=>h) (Or.inl ⟨by rfl,?_⟩) hHeld ?_
    rotate_left 1
    ·(intro W hW;(try dsimp only at hW);go_simp;try with_reducible rfl)
    try simp only [Act.put,List.setIfInBounds_toArray,List.set_cons_zero,List.set_cons_succ]
    refine wpAnyH_take (i:=5) (oi:={ dst:=some 32,op:=Op.load 59 (Operand.tmp 31),type:=59,pos:=_,after:=_,guard:=none }) (v:=?_) rfl (by kernel_rfl) (by kernel_rfl) (by kernel_rfl) (fun _ _ _ h=>h) (Or.inl ⟨by rfl,?_⟩) hHeld ?_
    rotate_left 1
    ·(intro W hW;have q0:=(HS9.out _ hW).1;(try dsimp only at hW);go_simp;try with_reducible rfl)
    try simp only [Act.put,List.setIfInBounds_toArray,List.set_cons_zero,List.set_cons_succ]
    refine wpAnyH_take (i:=6) (oi:={ dst:=some 33,op:=Op.indexAddr 59 (Operand.tmp 32) (Operand.const (Value.int IntKind.i64 0)),type:=0,pos:=_,after:=_,guard:=none }) (v:=?_) rfl (by kernel_rfl) (by kernel_rfl) (by kernel_rfl) (fun _ _ _ h=>h) (Or.inl ⟨by rfl,?_⟩) hHeld ?_
    rotate_left 1
    ·(intro W hW;(try dsimp only at hW);go_simp;try with_reducible rfl)
    try simp only [Act.put,List.setIfInBounds_toArray,List.set_cons_zero,List.set_cons_succ]
    refine wpAnyH_take (i:=7) (oi:={ dst:=some 34,op:=Op.load 3 (Operand.tmp 33),type:=3,pos:=_,after:=_,guard:=none }) (v:=?_) rfl (by kernel_rfl) (by kernel_rfl) (by kernel_rfl) (fun _ _ _ h=>h) (Or.inl ⟨by rfl,?_⟩) hHeld ?_
    rotate_left 1
    ·(intro W hW;have q1:=(HS9.out _ hW).2;(try dsimp only at hW);go_simp;try with_reducible rfl)
    try simp only [Act.put,List.setIfInBounds_toArray,List.set_cons_zero,List.set_cons_succ]
    refine wpAnyH_ready (rs:=[1,8]) (by kernel_rfl) (by simp) ?_
    refine AllReadyH.cons (o:={ dst:=some 28,op:=Op.load 59 (Operand.tmp 27),type:=59,pos:=_,after:=_,guard:=none }) rfl (fun K hK=>?_) ?_
    have kl:V.drew.cell? ⟨gb,2,none⟩=some (.slice nA k nc):=(HBX.out:Holds V.drew _ _ _).cell 2
    go_simp
    clear kl
    refine hK.out _ _ (hHeld) (fun hHeld=>?_)
    clear hK K
    try simp only [Act.put,List.setIfInBounds_toArray,List.set_cons_zero,List.set_cons_succ]
    refine wpAnyH_ready (rs:=[8]) (by kernel_rfl) (by simp) ?_
    refine AllReadyH.cons (o:={ dst:=some 35,op:=Op.buildSlice 59 1 #[(0,Operand.tmp 34)],type:=59,pos:=_,after:=_,guard:=none }) rfl (fun K hK=>?_) AllReadyH.nil
    go_simp
    obtain ⟨V8,hV8⟩:∃ V8,V8=(V.alloc (.cells #[.int .i64 (x:Int)] 3)).drew:=⟨_,rfl⟩
    rw [←hV8]
    have HB8:Hid (Below V.heap.size V V8):=Lib.hid (by rw [hV8];exact ((Below.refl _ _).alloc (Nat.le_refl _) _).drew)
    have HH8:Hid (Holds V8 V.heap.size 3 (nums .i64 [x])):=Lib.hid (by rw [hV8];exact (Holds.fresh V 3 (nums .i64 [x]):Holds (V.alloc _) _ _ _))
    have HBX8:Hid (Holds V8 gb 70 #[.string s,.int .i64 (dn:Int),.slice nA k nc]):=Lib.hid (HBX.out.under HB8.out HBX.out.lt)
    have HO8:Hid (Own .i64 3 V8 (gb+1) nA nc (p.fr.take k)):=Lib.hid (HPT.out.own.under_all HB8.out)
    have HZ8:Hid (V8.heap.size=V.heap.size+1):=Lib.hid (by rw [hV8];simp)
    clear hV8
    refine hK.out _ _ ((Only.of_below HB8.out)) (fun hHeld=>?_)
    clear hK K
    try simp only [Act.put,List.setIfInBounds_toArray,List.set_cons_zero,List.set_cons_succ]
    refine wpAnyH_ready (rs:=[9]) (by kernel_rfl) (by simp) ?_
    refine AllReadyH.cons (o:={ dst:=some 36,op:=Op.call { callee:=Callee.builtin Builtin.append,args:=#[Operand.tmp 28,Operand.tmp 35],argTypes:=#[59,59] },type:=59,pos:=_,after:=_,guard:=none }) rfl (fun K hK=>?_) AllReadyH.nil
    refine step_push _ rfl (.tmp 28) (.tmp 35) 59 rfl .i64 (gb+1) 3 8 Tryz.underlying59 info_i64 nA k nc (p.fr.take k) rfl HTL.out HO8.out V.heap.size 1 1 [x] rfl rfl HH8.out (by omega) (by omega) (by omega) (by have:=HBX8.out.lt;omega) ?_
    intro g9 c9 V9 ho9 hg9 hat9
    have HO9:Hid (Own .i64 3 V9 (gb+1) (some ⟨g9,0,none⟩) c9 (p.fr.take (k+1))):=Lib.hid (by rw [HTK.out];exact ho9)
    have HAT:Hid (blockOf nA=some g9∨V.heap.size≤g9):=Lib.hid (hat9.imp id fun e=>by have:=HZ8.out;omega)
    have HBX9:Hid (Holds V9 gb 70 #[.string s,.int .i64 (dn:Int),.slice nA k nc]):=Lib.hid (HBX8.out.grown hg9 (Ne.symm HNB.out))
    have kl:V9.cell? ⟨gb,2,none⟩=some (.slice nA k nc):=HBX9.out.cell 2
    have kf:V9.frozen? ⟨gb,2,none⟩=false:=HBX9.out.open_ _
    have HZ9:Hid (V.heap.size≤V9.heap.size):=Lib.hid (Nat.le_trans HB8.out.size hg9.size)
    have HSS9:Hid (Only (fun g=>g=gb∨blockOf nA=some g) V V9):=Lib.hid ⟨hg9.os.trans HB8.out.os,hg9.tape.trans HB8.out.tape,hg9.output.trans HB8.out.output,Nat.le_trans HB8.out.size hg9.size,fun k hk hF=>(hg9.block k (Nat.lt_of_lt_of_le hk HB8.out.size) (fun e=>hF (.inr e.symm))).trans (HB8.out.block k hk)⟩
    clear ho9 hg9 hat9
    refine hK.out _ _ (HSS9.out) (fun hHeld=>?_)
    clear hK K
    try simp only [Act.put,List.setIfInBounds_toArray,List.set_cons_zero,List.set_cons_succ]
    refine wpAnyH_take (i:=10) (oi:={ dst:=some 37,op:=Op.fieldAddr 70 (Operand.tmp 9) 2,type:=0,pos:=_,after:=_,guard:=none }) (v:=?_) rfl (by kernel_rfl) (by kernel_rfl) (by kernel_rfl) (fun _ _ _ h=>h) (Or.inl ⟨by rfl,?_⟩) hHeld ?_
    rotate_left 1
    ·(intro W hW;(try dsimp only at hW);go_simp;try with_reducible rfl)
    try simp only [Act.put,List.setIfInBounds_toArray,List.set_cons_zero,List.set_cons_succ]
    refine wpAnyH_ready (rs:=[11]) (by kernel_rfl) (by simp) ?_
    refine AllReadyH.cons (o:={ dst:=none,op:=Op.store 59 (Operand.tmp 37) (Operand.tmp 36),type:=0,pos:=_,after:=_,guard:=none }) rfl (fun K hK=>?_) AllReadyH.nil
    go_simp
    refine hK.out _ _ ((HSS9.out.setCell (.inl (.inl rfl)) _)) (fun hHeld=>?_)
    clear hK K
    try simp only [Act.put,List.setIfInBounds_toArray,List.set_cons_zero,List.set_cons_succ]
    refine wpAnyH_done (by kernel_rfl) ?_ _
    refine NoPanic.normal ?_
    obtain ⟨Va,hVa⟩:∃ Va,Va=V9.setCell ⟨gb,2,none⟩ (.slice (some ⟨g9,0,none⟩) (k+1) c9):=⟨_,rfl⟩
    rw [←hVa]
    have hoa:Only (fun g=>g=gb∨blockOf nA=some g) V Va:=by rw [hVa];exact HSS9.out.setCell (.inl (.inl rfl)) _
    have HBXa:Hid (Holds Va gb 70 #[.string s,.int .i64 (dn:Int),.slice (some ⟨g9,0,none⟩) (k+1) c9]):=Lib.hid (by
     have:=HBX9.out.stored 2 (.slice (some ⟨g9,0,none⟩) (k+1) c9)
     rw [←hVa] at this
     exact this)
    have HOa:Hid (Own .i64 3 Va (gb+1) (some ⟨g9,0,none⟩) c9 (p.fr.take (k+1))):=Lib.hid (by rw [hVa];exact HO9.out.aside (p:=⟨gb,2,none⟩) (fun e=>by have:=(HO9.out.block e).1;dsimp only at this;omega) _)
    have HPa:Hid (PlSt O w0 gp (fun g=>g=gb∨blockOf (some ⟨g9,0,none⟩:Option Addr)=some g) (p.mid us d k) ns (some ⟨fb,fo,none⟩) fc wA wc l Va):=Lib.hid (HPT.out.st.other hoa fun g hg=>by
     rcases hg with rfl | hg
     ·exact ⟨.inl (.inl rfl),HBXa.out.lt⟩
     ·have e:g9=g:=by simpa [blockOf] using hg
      subst e
      exact ⟨HAT.out.imp (fun e=>.inr e) id,(HOa.out.block rfl).2⟩)
    have HVaz:=Lib.hid hoa.size
    have HSa:Hid (Va.cell? ⟨gp,160,none⟩=some (.slice (some ⟨fb,fo,none⟩) fn fc)∧Va.cell? ⟨fb,fo,none⟩=some (.int .i64 (x:Int))):=Lib.hid (HS9.out Va hoa)
    clear hVa hoa hHeld HBX9 HO9 HSS9 HBX8 HO8 HH8 HB8 HZ8 HBX HPT HS9 HFA HFX HAT HTL HTK HFB
    obtain ⟨db,do_,rfl,hdb,_⟩:=(HDR.out w0 (Only.refl _ _)).2.2 (by have:=HDN.out;omega)
    have hdl:=(HDR.out w0 (Only.refl _ _)).1
    have hdc:=(HDR.out w0 (Only.refl _ _)).2.1
    obtain ⟨m,hm⟩:∃ m,m=min (dn - 64*k) 64:=⟨_,rfl⟩
    have hmm:min (64*(k:Int)+64) (dn:Int)=64*(k:Int)+(m:Int):=by omega
    have hm64:m≤64:=by omega
    have hm0:0<m:=by omega
    have hdcl:dn≤dc:=by have:=HDN.out;omega
    have hlo:(64*(k:Int))≤64*(k:Int)+(m:Int):=by omega
    have hhi:64*(k:Int)+(m:Int)≤(dc:Int):=by omega
    obtain ⟨q0,q1⟩:=HSa.out
    have ht1:(64*(k:Int)).toNat=64*k:=by omega
    have ht2:(64*(k:Int)+(m:Int)).toNat=64*k+m:=by omega
    have hne2:¬ (dc=64*k):=by omega
    have HM:Hid (((d.drop (64*k)).take 64).length=m):=Lib.hid (by rw [List.length_take,List.length_drop,←HDN.out,hm];omega)
    clear hm
    have HPd:=Lib.hid HPa.out.drew
    have HRK:Hid (Rd .u8 Va.drew Va.drew.heap.size (some ⟨db,do_+64*k,none⟩) (dc - 64*k) ((d.drop (64*k)).take 64)):=Lib.hid (((HDR.out _ HPd.out.only).part (64*k) 64 (by have:=HDN.out;omega)).more (by show B≤Va.heap.size;have:=HVaz.out;have:=HVZ.out;omega))
    have HWNE:Hid (blockOf wA≠some gp):=Lib.hid fun e=>(HPd.out.wnew gp e).2.1 rfl
    have HLW:Hid (l.length≤8000):=Lib.hid (by
     have h1:=congrArg List.length HPd.out.ws
     rw [wv_length] at h1
     rw [h1]
     show (p.ws ++ putWs p.fr d k).length≤8000
     rw [List.length_append]
     have:=HWS.out
     simp [putWs]
     omega)
    have HGBA:Hid (gb<Va.heap.size∧gb≠gp∧blockOf wA≠some gb):=Lib.hid ⟨HBXa.out.lt,fun e=>HGP.out (.inl e.symm),fun e=>(HPa.out.wnew gb e).2.2 (.inl rfl)⟩
    have HG9A:Hid (g9<Va.heap.size∧g9≠gp∧blockOf wA≠some g9):=Lib.hid ⟨(HOa.out.block rfl).2,fun e=>by have:=(HPa.out.gg g9 (.inr rfl)).1;omega,fun e=>(HPa.out.wnew g9 e).2.2 (.inr rfl)⟩
    have q0:Va.drew.cell? ⟨gp,160,none⟩=some (.slice (some ⟨fb,fo,none⟩) fn fc):=q0
    have q1:Va.drew.cell? ⟨fb,fo,none⟩=some (.int .i64 (x:Int)):=q1
    go_wp2_with fail
    refine wp_region_noPanic ?_
    refine wp_region_held_drew (S:=fun _=>True) (by kernel_rfl) trivial (fun hHeld=>?_)
    refine wpAnyH_take (i:=0) (oi:={ dst:=some 38,op:=Op.move (Operand.tmp 0),type:=180,pos:=_,after:=_,guard:=none }) (v:=?_) rfl (by kernel_rfl) (by kernel_rfl) (by kernel_rfl) (fun _ _ _ h=>h) (Or.inl ⟨by rfl,?_⟩) hHeld ?_
    rotate_left 1
    ·(intro W hW;(try dsimp only at hW);go_simp;try with_reducible rfl)
    try simp only [Act.put,List.setIfInBounds_toArray,List.set_cons_zero,List.set_cons_succ]
    refine wpAnyH_take (i:=1) (oi:={ dst:=some 39,op:=Op.move (Operand.tmp 0),type:=180,pos:=_,after:=_,guard:=none }) (v:=?_) rfl (by kernel_rfl) (by kernel_rfl) (by kernel_rfl) (fun _ _ _ h=>h) (Or.inl ⟨by rfl,?_⟩) hHeld ?_
    rotate_left 1
    ·(intro W hW;(try dsimp only at hW);go_simp;try with_reducible rfl)
    try simp only [Act.put,List.setIfInBounds_toArray,List.set_cons_zero,List.set_cons_succ]
    refine wpAnyH_take (i:=2) (oi:={ dst:=some 40,op:=Op.nilCheck (Operand.tmp 39),type:=0,pos:=_,after:=_,guard:=none }) (v:=?_) rfl (by kernel_rfl) (by kernel_rfl) (by kernel_rfl) (fun _ _ _ h=>h) (Or.inl ⟨by rfl,?_⟩) hHeld ?_
    rotate_left 1
    ·(intro W hW;(try dsimp only at hW);go_simp;try with_reducible rfl)
    try simp only [Act.put,List.setIfInBounds_toArray,List.set_cons_zero,List.set_cons_succ]
    refine wpAnyH_take (i:=3) (oi:={ dst:=some 41,op:=Op.fieldAddr 99 (Operand.tmp 40) 2,type:=0,pos:=_,after:=_,guard:=none }) (v:=?_) rfl (by kernel_rfl) (by kernel_rfl) (by kernel_rfl) (fun _ _ _ h=>h) (Or.inl ⟨by rfl,?_⟩) hHeld ?_
    rotate_left 1
    ·(intro W hW;(try dsimp only at hW);go_simp;try with_reducible rfl)
    try simp only [Act.put,List.setIfInBounds_toArray,List.set_cons_zero,List.set_cons_succ]
    refine wpAnyH_take (i:=7) (oi:={ dst:=some 45,op:=Op.move (Operand.tmp 3),type:=44,pos:=_,after:=_,guard:=none }) (v:=?_) rfl (by kernel_rfl) (by kernel_rfl) (by kernel_rfl) (fun _ _ _ h=>h) (Or.inl ⟨by rfl,?_⟩) hHeld ?_
    rotate_left 1
    ·(intro W hW;(try dsimp only at hW);go_simp;try with_reducible rfl)
    try simp only [Act.put,List.setIfInBounds_toArray,List.set_cons_zero,List.set_cons_succ]
    refine wpAnyH_take (i:=8) (oi:={ dst:=some 46,op:=Op.move (Operand.tmp 10),type:=3,pos:=_,after:=_,guard:=none }) (v:=?_) rfl (by kernel_rfl) (by kernel_rfl) (by kernel_rfl) (fun _ _ _ h=>h) (Or.inl ⟨by rfl,?_⟩) hHeld ?_
    rotate_left 1
    ·(intro W hW;(try dsimp only at hW);go_simp;try with_reducible rfl)
    try simp only [Act.put,List.setIfInBounds_toArray,List.set_cons_zero,List.set_cons_succ]
    refine wpAnyH_take (i:=9) (oi:={ dst:=some 47,op:=Op.move (Operand.tmp 10),type:=3,pos:=_,after:=_,guard:=none }) (v:=?_) rfl (by kernel_rfl) (by kernel_rfl) (by kernel_rfl) (fun _ _ _ h=>h) (Or.inl ⟨by rfl,?_⟩) hHeld ?_
    rotate_left 1
    ·(intro W hW;(try dsimp only at hW);go_simp;try with_reducible rfl)
    try simp only [Act.put,List.setIfInBounds_toArray,List.set_cons_zero,List.set_cons_succ]
    refine wpAnyH_take (i:=10) (oi:={ dst:=some 48,op:=Op.binOp BinOp.add 3 (Operand.tmp 47) (Operand.const (Value.int IntKind.i64 64)) 3,type:=3,pos:=_,after:=_,guard:=none }) (v:=?_) rfl (by kernel_rfl) (by kernel_rfl) (by kernel_rfl) (fun _ _ _ h=>h) (Or.inl ⟨by rfl,?_⟩) hHeld ?_
    rotate_left 1
    ·(intro W hW;(try dsimp only at hW);go_simp;try with_reducible rfl)
    try simp only [Act.put,List.setIfInBounds_toArray,List.set_cons_zero,List.set_cons_succ]
    refine wpAnyH_take (i:=11) (oi:={ dst:=some 49,op:=Op.move (Operand.tmp 3),type:=44,pos:=_,after:=_,guard:=none }) (v:=?_) rfl (by kernel_rfl) (by kernel_rfl) (by kernel_rfl) (fun _ _ _ h=>h) (Or.inl ⟨by rfl,?_⟩) hHeld ?_
    rotate_left 1
    ·(intro W hW;(try dsimp only at hW);go_simp;try with_reducible rfl)
    try simp only [Act.put,List.setIfInBounds_toArray,List.set_cons_zero,List.set_cons_succ]
    refine wpAnyH_take (i:=12) (oi:={ dst:=some 50,op:=Op.call { callee:=Callee.builtin Builtin.len,args:=#[Operand.tmp 49],argTypes:=#[44] },type:=3,pos:=_,after:=_,guard:=none }) (v:=?_) rfl (by kernel_rfl) (by kernel_rfl) (by kernel_rfl) (fun _ _ _ h=>h) (Or.inl ⟨by rfl,?_⟩) hHeld ?_
    rotate_left 1
    ·(intro W hW;(try dsimp only at hW);go_simp;try with_reducible rfl)
    try simp only [Act.put,List.setIfInBounds_toArray,List.set_cons_zero,List.set_cons_succ]
    refine wpAnyH_take (i:=13) (oi:={ dst:=some 51,op:=Op.call { callee:=Callee.builtin Builtin.min,args:=#[Operand.tmp 48,Operand.tmp 50],argTypes:=#[3,3] },type:=3,pos:=_,after:=_,guard:=none }) (v:=?_) rfl (by kernel_rfl) (by kernel_rfl) (by kernel_rfl) (fun _ _ _ h=>h) (Or.inl ⟨by rfl,?_⟩) hHeld ?_
    rotate_left 1
    ·(intro W hW;(try dsimp only at hW);go_simp;try with_reducible rfl)
    try simp only [Act.put,List.setIfInBounds_toArray,List.set_cons_zero,List.set_cons_succ]
    refine wpAnyH_take (i:=14) (oi:={ dst:=some 52,op:=Op.slice 44 (Operand.tmp 45) (some (Operand.tmp 46)) (some (Operand.tmp 51)) none,type:=44,pos:=_,after:=_,guard:=none }) (v:=?_) rfl (by kernel_rfl) (by kernel_rfl) (by kernel_rfl) (fun _ _ _ h=>h) (Or.inl ⟨by rfl,?_⟩) hHeld ?_
    rotate_left 1
    ·(intro W hW;(try dsimp only at hW);go_simp;try with_reducible rfl)
    try simp only [Act.put,List.setIfInBounds_toArray,List.set_cons_zero,List.set_cons_succ]
    refine wpAnyH_ready (rs:=[4]) (by kernel_rfl) (by simp) ?_
    refine AllReadyH.cons (o:={ dst:=some 42,op:=Op.load 59 (Operand.tmp 41),type:=59,pos:=_,after:=_,guard:=none }) rfl (fun K hK=>?_) AllReadyH.nil
    go_simp
    refine hK.out _ _ trivial (fun hHeld=>?_)
    clear hK K
    try simp only [Act.put,List.setIfInBounds_toArray,List.set_cons_zero,List.set_cons_succ]
    refine wpAnyH_take (i:=5) (oi:={ dst:=some 43,op:=Op.indexAddr 59 (Operand.tmp 42) (Operand.const (Value.int IntKind.i64 0)),type:=0,pos:=_,after:=_,guard:=none }) (v:=?_) rfl (by kernel_rfl) (by kernel_rfl) (by kernel_rfl) (fun _ _ _ h=>h) (Or.inl ⟨by rfl,?_⟩) hHeld ?_
    rotate_left 1
    ·(intro W hW;(try dsimp only at hW);go_simp;try with_reducible rfl)
    try simp only [Act.put,List.setIfInBounds_toArray,List.set_cons_zero,List.set_cons_succ]
    refine wpAnyH_ready (rs:=[6]) (by kernel_rfl) (by simp) ?_
    refine AllReadyH.cons (o:={ dst:=some 44,op:=Op.load 3 (Operand.tmp 43),type:=3,pos:=_,after:=_,guard:=none }) rfl (fun K hK=>?_) AllReadyH.nil
    go_simp
    refine hK.out _ _ trivial (fun hHeld=>?_)
    clear hK K
    try simp only [Act.put,List.setIfInBounds_toArray,List.set_cons_zero,List.set_cons_succ]
    refine wpAnyH_ready (rs:=[15]) (by kernel_rfl) (by simp) ?_
    refine AllReadyH.cons (o:={ dst:=some 53,op:=Op.call { callee:=Callee.value (Operand.func 87),args:=#[Operand.tmp 38,Operand.tmp 44,Operand.tmp 52],argTypes:=#[180,3,44] },type:=0,pos:=_,after:=_,guard:=none }) rfl (fun K hK=>?_) AllReadyH.nil
    go_simp
    refine (write_any HPd.out.at_ l rfl HPd.out.own HWNE.out HLW.out (x:Int) (some ⟨db,do_+64*k,none⟩) (dc - 64*k) m _ HM.out hm64 hm0 HRK.out).mono ?_
    rintro e V5 hw5
    obtain ⟨rfl,g5,c5,x5,hst5,hkp5⟩:=HPd.out.wrote hw5
    have HST5:=Lib.hid hst5
    have HKP5:=Lib.hid hkp5
    clear hw5 hst5 hkp5
    go_simp
    refine hK.out _ _ trivial (fun hHeld=>?_)
    clear hK K
    try simp only [Act.put,List.setIfInBounds_toArray,List.set_cons_zero,List.set_cons_succ]
    refine wpAnyH_done (by kernel_rfl) ?_ _
    refine NoPanic.normal ?_
    obtain ⟨A',hA'⟩:∃ A',A'=(if fc=1 then (some ⟨fb,fo,none⟩:Option Addr) else some ⟨fb,fo+1,none⟩):=⟨_,rfl⟩
    have q5:V5.cell? ⟨gp,160,none⟩=some (.slice (some ⟨fb,fo,none⟩) fn fc):=by
     rw [HFN2.out,←(List.length_drop:(p.fr.drop k).length=p.fr.length - k)]
     exact HST5.out.at_.free
    have f5:V5.frozen? ⟨gp,160,none⟩=false:=HST5.out.at_.hd.open_ _
    have HFC:Hid (p.fr.length - k≤fc):=Lib.hid (by rw [←(List.length_drop:(p.fr.drop k).length=p.fr.length - k)];exact HST5.out.fr.1.1)
    have hfc1:1≤fc:=by have:=HFN2.out;have:=HFC.out;omega
    have hfcI:(1:Int)≤(fc:Int):=by omega
    have hfnI:(1:Int)≤(fn:Int):=by omega
    have hfn1:1≤fn:=by omega
    have hfnc:fn≤fc:=by have:=HFN2.out;have:=HFC.out;omega
    have hfncI:(fn:Int)≤(fc:Int):=by omega
    go_wp2_with (first | (rw [←hA']) | fail)
    have hk5b:=HKP5.out gb HGBA.out.1 HGBA.out.2.1 HGBA.out.2.2
    have hk59:=HKP5.out g9 HG9A.out.1 HG9A.out.2.1 HG9A.out.2.2
    refine ⟨⟨k+1,some ⟨g9,0,none⟩,c9,A',fc - 1,some ⟨g5,0,none⟩,c5,l ++ [x5],by rw [←HND.out];omega,by rw [show (64*(k:Int)+64)=64*((k+1:Nat):Int) by omega],?_,?_,?_⟩,by simp [intOf];omega⟩
    ·rw [Pln.mid_succ,←HXX.out]
     refine HST5.out.freed (by show fn - 1=(p.fr.drop k).length - 1;rw [List.length_drop,HFN2.out]) ?_ (by rw [hA'];split <;> rfl)
     rw [hA']
     split
     ·rename_i h1
      have hl1:((p.fr.drop k).drop 1).length=0:=by rw [List.length_drop,List.length_drop];have:=HFC.out;omega
      exact ⟨by show ((p.fr.drop k).drop 1).length≤_;omega,by omega,fun hn=>by have hn:0<((p.fr.drop k).drop 1).length:=hn;omega⟩
     ·exact HST5.out.fr.1.tailP (by show 0<(p.fr.drop k).length;rw [List.length_drop];have:=HFN2.out;omega)
    ·rw [←HDN.out]
     exact ((show Holds V5 gb _ _ from hk5b.1.trans HBXa.out)).aside (p:=⟨gp,160,none⟩) HGBA.out.2.1 _
    ·exact ((HOa.out.keepB fun g hg _=>by
      have e:g9=g:=by simpa [blockOf] using hg
      rw [←e]
      exact hk59.1)).aside (p:=⟨gp,160,none⟩) (fun e=>HG9A.out.2.1 (by simpa [blockOf] using e)) _
    refine AllReadyH.cons (o:={ dst:=some 35,op:=Op.buildSlice 59 1 #[(0,Operand.tmp 34)],type:=59,pos:=_,after:=_,guard:=none }) rfl (fun K hK=>?_) AllReadyH.nil
    go_simp
    obtain ⟨V8,hV8⟩:∃ V8,V8=(V.alloc (.cells #[.int .i64 (x:Int)] 3)).drew:=⟨_,rfl⟩
    rw [←hV8]
    have HB8:Hid (Below V.heap.size V V8):=Lib.hid (by rw [hV8];exact ((Below.refl _ _).alloc (Nat.le_refl _) _).drew)
    have HH8:Hid (Holds V8 V.heap.size 3 (nums .i64 [x])):=Lib.hid (by rw [hV8];exact (Holds.fresh V 3 (nums .i64 [x]):Holds (V.alloc _) _ _ _))
    have HBX8:Hid (Holds V8 gb 70 #[.string s,.int .i64 (dn:Int),.slice nA k nc]):=Lib.hid (HBX.out.under HB8.out HBX.out.lt)
    have HO8:Hid (Own .i64 3 V8 (gb+1) nA nc (p.fr.take k)):=Lib.hid (HPT.out.own.under_all HB8.out)
    have HZ8:Hid (V8.heap.size=V.heap.size+1):=Lib.hid (by rw [hV8];simp)
    clear hV8
    refine hK.out _ _ ((Only.of_below HB8.out)) (fun hHeld=>?_)
    clear hK K
    try simp only [Act.put,List.setIfInBounds_toArray,List.set_cons_zero,List.set_cons_succ]
    refine wpAnyH_ready (rs:=[1]) (by kernel_rfl) (by simp) ?_
    refine AllReadyH.cons (o:={ dst:=some 28,op:=Op.load 59 (Operand.tmp 27),type:=59,pos:=_,after:=_,guard:=none }) rfl (fun K hK=>?_) AllReadyH.nil
    have kl:V8.cell? ⟨gb,2,none⟩=some (.slice nA k nc):=(HBX8.out:Holds V8 _ _ _).cell 2
    go_simp
    clear kl
    refine hK.out _ _ (hHeld) (fun hHeld=>?_)
    clear hK K
    try simp only [Act.put,List.setIfInBounds_toArray,List.set_cons_zero,List.set_cons_succ]
    refine wpAnyH_ready (rs:=[9]) (by kernel_rfl) (by simp) ?_
    refine AllReadyH.cons (o:={ dst:=some 36,op:=Op.call { callee:=Callee.builtin Builtin.append,args:=#[Operand.tmp 28,Operand.tmp 35],argTypes:=#[59,59] },type:=59,pos:=_,after:=_,guard:=none }) rfl (fun K hK=>?_) AllReadyH.nil
    refine step_push _ rfl (.tmp 28) (.tmp 35) 59 rfl .i64 (gb+1) 3 8 Tryz.underlying59 info_i64 nA k nc (p.fr.take k) rfl HTL.out HO8.out V.heap.size 1 1 [x] rfl rfl HH8.out (by omega) (by omega) (by omega) (by have:=HBX8.out.lt;omega) ?_
    intro g9 c9 V9 ho9 hg9 hat9
    have HO9:Hid (Own .i64 3 V9 (gb+1) (some ⟨g9,0,none⟩) c9 (p.fr.take (k+1))):=Lib.hid (by rw [HTK.out];exact ho9)
    have HAT:Hid (blockOf nA=some g9∨V.heap.size≤g9):=Lib.hid (hat9.imp id fun e=>by have:=HZ8.out;omega)
    have HBX9:Hid (Holds V9 gb 70 #[.string s,.int .i64 (dn:Int),.slice nA k nc]):=Lib.hid (HBX8.out.grown hg9 (Ne.symm HNB.out))
    have kl:V9.cell? ⟨gb,2,none⟩=some (.slice nA k nc):=HBX9.out.cell 2
    have kf:V9.frozen? ⟨gb,2,none⟩=false:=HBX9.out.open_ _
    have HZ9:Hid (V.heap.size≤V9.heap.size):=Lib.hid (Nat.le_trans HB8.out.size hg9.size)
    have HSS9:Hid (Only (fun g=>g=gb∨blockOf nA=some g) V V9):=Lib.hid ⟨hg9.os.trans HB8.out.os,hg9.tape.trans HB8.out.tape,hg9.output.trans HB8.out.output,Nat.le_trans HB8.out.size hg9.size,fun k hk hF=>(hg9.block k (Nat.lt_of_lt_of_le hk HB8.out.size) (fun e=>hF (.inr e.symm))).trans (HB8.out.block k hk)⟩
    clear ho9 hg9 hat9
    refine hK.out _ _ (HSS9.out) (fun hHeld=>?_)
    clear hK K
    try simp only [Act.put,List.setIfInBounds_toArray,List.set_cons_zero,List.set_cons_succ]
    refine wpAnyH_take (i:=10) (oi:={ dst:=some 37,op:=Op.fieldAddr 70 (Operand.tmp 9) 2,type:=0,pos:=_,after:=_,guard:=none }) (v:=?_) rfl (by kernel_rfl) (by kernel_rfl) (by kernel_rfl) (fun _ _ _ h=>h) (Or.inl ⟨by rfl,?_⟩) hHeld ?_
    rotate_left 1
    ·(intro W hW;(try dsimp only at hW);go_simp;try with_reducible rfl)
    try simp only [Act.put,List.setIfInBounds_toArray,List.set_cons_zero,List.set_cons_succ]
    refine wpAnyH_ready (rs:=[11]) (by kernel_rfl) (by simp) ?_
    refine AllReadyH.cons (o:={ dst:=none,op:=Op.store 59 (Operand.tmp 37) (Operand.tmp 36),type:=0,pos:=_,after:=_,guard:=none }) rfl (fun K hK=>?_) AllReadyH.nil
    go_simp
    refine hK.out _ _ ((HSS9.out.setCell (.inl (.inl rfl)) _)) (fun hHeld=>?_)
    clear hK K
    try simp only [Act.put,List.setIfInBounds_toArray,List.set_cons_zero,List.set_cons_succ]
    refine wpAnyH_done (by kernel_rfl) ?_ _
    refine NoPanic.normal ?_
    obtain ⟨Va,hVa⟩:∃ Va,Va=V9.setCell ⟨gb,2,none⟩ (.slice (some ⟨g9,0,none⟩) (k+1) c9):=⟨_,rfl⟩
    rw [←hVa]
    have hoa:Only (fun g=>g=gb∨blockOf nA=some g) V Va:=by rw [hVa];exact HSS9.out.setCell (.inl (.inl rfl)) _
    have HBXa:Hid (Holds Va gb 70 #[.string s,.int .i64 (dn:Int),.slice (some ⟨g9,0,none⟩) (k+1) c9]):=Lib.hid (by
     have:=HBX9.out.stored 2 (.slice (some ⟨g9,0,none⟩) (k+1) c9)
     rw [←hVa] at this
     exact this)
    have HOa:Hid (Own .i64 3 Va (gb+1) (some ⟨g9,0,none⟩) c9 (p.fr.take (k+1))):=Lib.hid (by rw [hVa];exact HO9.out.aside (p:=⟨gb,2,none⟩) (fun e=>by have:=(HO9.out.block e).1;dsimp only at this;omega) _)
    have HPa:Hid (PlSt O w0 gp (fun g=>g=gb∨blockOf (some ⟨g9,0,none⟩:Option Addr)=some g) (p.mid us d k) ns (some ⟨fb,fo,none⟩) fc wA wc l Va):=Lib.hid (HPT.out.st.other hoa fun g hg=>by
     rcases hg with rfl | hg
     ·exact ⟨.inl (.inl rfl),HBXa.out.lt⟩
     ·have e:g9=g:=by simpa [blockOf] using hg
      subst e
      exact ⟨HAT.out.imp (fun e=>.inr e) id,(HOa.out.block rfl).2⟩)
    have HVaz:=Lib.hid hoa.size
    have HSa:Hid (Va.cell? ⟨gp,160,none⟩=some (.slice (some ⟨fb,fo,none⟩) fn fc)∧Va.cell? ⟨fb,fo,none⟩=some (.int .i64 (x:Int))):=Lib.hid (HS9.out Va hoa)
    clear hVa hoa hHeld HBX9 HO9 HSS9 HBX8 HO8 HH8 HB8 HZ8 HBX HPT HS9 HFA HFX HAT HTL HTK HFB
    obtain ⟨db,do_,rfl,hdb,_⟩:=(HDR.out w0 (Only.refl _ _)).2.2 (by have:=HDN.out;omega)
    have hdl:=(HDR.out w0 (Only.refl _ _)).1
    have hdc:=(HDR.out w0 (Only.refl _ _)).2.1
    obtain ⟨m,hm⟩:∃ m,m=min (dn - 64*k) 64:=⟨_,rfl⟩
    have hmm:min (64*(k:Int)+64) (dn:Int)=64*(k:Int)+(m:Int):=by omega
    have hm64:m≤64:=by omega
    have hm0:0<m:=by omega
    have hdcl:dn≤dc:=by have:=HDN.out;omega
    have hlo:(64*(k:Int))≤64*(k:Int)+(m:Int):=by omega
    have hhi:64*(k:Int)+(m:Int)≤(dc:Int):=by omega
    obtain ⟨q0,q1⟩:=HSa.out
    have ht1:(64*(k:Int)).toNat=64*k:=by omega
    have ht2:(64*(k:Int)+(m:Int)).toNat=64*k+m:=by omega
    have hne2:¬ (dc=64*k):=by omega
    have HM:Hid (((d.drop (64*k)).take 64).length=m):=Lib.hid (by rw [List.length_take,List.length_drop,←HDN.out,hm];omega)
    clear hm
    have HPd:=Lib.hid HPa.out.drew
    have HRK:Hid (Rd .u8 Va.drew Va.drew.heap.size (some ⟨db,do_+64*k,none⟩) (dc - 64*k) ((d.drop (64*k)).take 64)):=Lib.hid (((HDR.out _ HPd.out.only).part (64*k) 64 (by have:=HDN.out;omega)).more (by show B≤Va.heap.size;have:=HVaz.out;have:=HVZ.out;omega))
    have HWNE:Hid (blockOf wA≠some gp):=Lib.hid fun e=>(HPd.out.wnew gp e).2.1 rfl
    have HLW:Hid (l.length≤8000):=Lib.hid (by
     have h1:=congrArg List.length HPd.out.ws
     rw [wv_length] at h1
     rw [h1]
     show (p.ws ++ putWs p.fr d k).length≤8000
     rw [List.length_append]
     have:=HWS.out
     simp [putWs]
     omega)
    have HGBA:Hid (gb<Va.heap.size∧gb≠gp∧blockOf wA≠some gb):=Lib.hid ⟨HBXa.out.lt,fun e=>HGP.out (.inl e.symm),fun e=>(HPa.out.wnew gb e).2.2 (.inl rfl)⟩
    have HG9A:Hid (g9<Va.heap.size∧g9≠gp∧blockOf wA≠some g9):=Lib.hid ⟨(HOa.out.block rfl).2,fun e=>by have:=(HPa.out.gg g9 (.inr rfl)).1;omega,fun e=>(HPa.out.wnew g9 e).2.2 (.inr rfl)⟩
    have q0:Va.drew.cell? ⟨gp,160,none⟩=some (.slice (some ⟨fb,fo,none⟩) fn fc):=q0
    have q1:Va.drew.cell? ⟨fb,fo,none⟩=some (.int .i64 (x:Int)):=q1
    go_wp2_with fail
    refine wp_region_noPanic ?_
    refine wp_region_held_drew (S:=fun _=>True) (by kernel_rfl) trivial (fun hHeld=>?_)
    refine wpAnyH_take (i:=0) (oi:={ dst:=some 38,op:=Op.move (Operand.tmp 0),type:=180,pos:=_,after:=_,guard:=none }) (v:=?_) rfl (by kernel_rfl) (by kernel_rfl) (by kernel_rfl) (fun _ _ _ h=>h) (Or.inl ⟨by rfl,?_⟩) hHeld ?_
    rotate_left 1
    ·(intro W hW;(try dsimp only at hW);go_simp;try with_reducible rfl)
    try simp only [Act.put,List.setIfInBounds_toArray,List.set_cons_zero,List.set_cons_succ]
    refine wpAnyH_take (i:=1) (oi:={ dst:=some 39,op:=Op.move (Operand.tmp 0),type:=180,pos:=_,after:=_,guard:=none }) (v:=?_) rfl (by kernel_rfl) (by kernel_rfl) (by kernel_rfl) (fun _ _ _ h=>h) (Or.inl ⟨by rfl,?_⟩) hHeld ?_
    rotate_left 1
    ·(intro W hW;(try dsimp only at hW);go_simp;try with_reducible rfl)
    try simp only [Act.put,List.setIfInBounds_toArray,List.set_cons_zero,List.set_cons_succ]
    refine wpAnyH_take (i:=2) (oi:={ dst:=some 40,op:=Op.nilCheck (Operand.tmp 39),type:=0,pos:=_,after:=_,guard:=none }) (v:=?_) rfl (by kernel_rfl) (by kernel_rfl) (by kernel_rfl) (fun _ _ _ h=>h) (Or.inl ⟨by rfl,?_⟩) hHeld ?_
    rotate_left 1
    ·(intro W hW;(try dsimp only at hW);go_simp;try with_reducible rfl)
    try simp only [Act.put,List.setIfInBounds_toArray,List.set_cons_zero,List.set_cons_succ]
    refine wpAnyH_take (i:=3) (oi:={ dst:=some 41,op:=Op.fieldAddr 99 (Operand.tmp 40) 2,type:=0,pos:=_,after:=_,guard:=none }) (v:=?_) rfl (by kernel_rfl) (by kernel_rfl) (by kernel_rfl) (fun _ _ _ h=>h) (Or.inl ⟨by rfl,?_⟩) hHeld ?_
    rotate_left 1
    ·(intro W hW;(try dsimp only at hW);go_simp;try with_reducible rfl)
    try simp only [Act.put,List.setIfInBounds_toArray,List.set_cons_zero,List.set_cons_succ]
    refine wpAnyH_take (i:=7) (oi:={ dst:=some 45,op:=Op.move (Operand.tmp 3),type:=44,pos:=_,after:=_,guard:=none }) (v:=?_) rfl (by kernel_rfl) (by kernel_rfl) (by kernel_rfl) (fun _ _ _ h=>h) (Or.inl ⟨by rfl,?_⟩) hHeld ?_
    rotate_left 1
    ·(intro W hW;(try dsimp only at hW);go_simp;try with_reducible rfl)
    try simp only [Act.put,List.setIfInBounds_toArray,List.set_cons_zero,List.set_cons_succ]
    refine wpAnyH_take (i:=8) (oi:={ dst:=some 46,op:=Op.move (Operand.tmp 10),type:=3,pos:=_,after:=_,guard:=none }) (v:=?_) rfl (by kernel_rfl) (by kernel_rfl) (by kernel_rfl) (fun _ _ _ h=>h) (Or.inl ⟨by rfl,?_⟩) hHeld ?_
    rotate_left 1
    ·(intro W hW;(try dsimp only at hW);go_simp;try with_reducible rfl)
    try simp only [Act.put,List.setIfInBounds_toArray,List.set_cons_zero,List.set_cons_succ]
    refine wpAnyH_take (i:=9) (oi:={ dst:=some 47,op:=Op.move (Operand.tmp 10),type:=3,pos:=_,after:=_,guard:=none }) (v:=?_) rfl (by kernel_rfl) (by kernel_rfl) (by kernel_rfl) (fun _ _ _ h=>h) (Or.inl ⟨by rfl,?_⟩) hHeld ?_
    rotate_left 1
    ·(intro W hW;(try dsimp only at hW);go_simp;try with_reducible rfl)
    try simp only [Act.put,List.setIfInBounds_toArray,List.set_cons_zero,List.set_cons_succ]
    refine wpAnyH_take (i:=10) (oi:={ dst:=some 48,op:=Op.binOp BinOp.add 3 (Operand.tmp 47) (Operand.const (Value.int IntKind.i64 64)) 3,type:=3,pos:=_,after:=_,guard:=none }) (v:=?_) rfl (by kernel_rfl) (by kernel_rfl) (by kernel_rfl) (fun _ _ _ h=>h) (Or.inl ⟨by rfl,?_⟩) hHeld ?_
    rotate_left 1
    ·(intro W hW;(try dsimp only at hW);go_simp;try with_reducible rfl)
    try simp only [Act.put,List.setIfInBounds_toArray,List.set_cons_zero,List.set_cons_succ]
    refine wpAnyH_take (i:=11) (oi:={ dst:=some 49,op:=Op.move (Operand.tmp 3),type:=44,pos:=_,after:=_,guard:=none }) (v:=?_) rfl (by kernel_rfl) (by kernel_rfl) (by kernel_rfl) (fun _ _ _ h=>h) (Or.inl ⟨by rfl,?_⟩) hHeld ?_
    rotate_left 1
    ·(intro W hW;(try dsimp only at hW);go_simp;try with_reducible rfl)
    try simp only [Act.put,List.setIfInBounds_toArray,List.set_cons_zero,List.set_cons_succ]
    refine wpAnyH_take (i:=12) (oi:={ dst:=some 50,op:=Op.call { callee:=Callee.builtin Builtin.len,args:=#[Operand.tmp 49],argTypes:=#[44] },type:=3,pos:=_,after:=_,guard:=none }) (v:=?_) rfl (by kernel_rfl) (by kernel_rfl) (by kernel_rfl) (fun _ _ _ h=>h) (Or.inl ⟨by rfl,?_⟩) hHeld ?_
    rotate_left 1
    ·(intro W hW;(try dsimp only at hW);go_simp;try with_reducible rfl)
    try simp only [Act.put,List.setIfInBounds_toArray,List.set_cons_zero,List.set_cons_succ]
    refine wpAnyH_take (i:=13) (oi:={ dst:=some 51,op:=Op.call { callee:=Callee.builtin Builtin.min,args:=#[Operand.tmp 48,Operand.tmp 50],argTypes:=#[3,3] },type:=3,pos:=_,after:=_,guard:=none }) (v:=?_) rfl (by kernel_rfl) (by kernel_rfl) (by kernel_rfl) (fun _ _ _ h=>h) (Or.inl ⟨by rfl,?_⟩) hHeld ?_
    rotate_left 1
    ·(intro W hW;(try dsimp only at hW);go_simp;try with_reducible rfl)
    try simp only [Act.put,List.setIfInBounds_toArray,List.set_cons_zero,List.set_cons_succ]
    refine wpAnyH_take (i:=14) (oi:={ dst:=some 52,op:=Op.slice 44 (Operand.tmp 45) (some (Operand.tmp 46)) (some (Operand.tmp 51)) none,type:=44,pos:=_,after:=_,guard:=none }) (v:=?_) rfl (by kernel_rfl) (by kernel_rfl) (by kernel_rfl) (fun _ _ _ h=>h) (Or.inl ⟨by rfl,?_⟩) hHeld ?_
    rotate_left 1
    ·(intro W hW;(try dsimp only at hW);go_simp;try with_reducible rfl)
    try simp only [Act.put,List.setIfInBounds_toArray,List.set_cons_zero,List.set_cons_succ]
    refine wpAnyH_ready (rs:=[4]) (by kernel_rfl) (by simp) ?_
    refine AllReadyH.cons (o:={ dst:=some 42,op:=Op.load 59 (Operand.tmp 41),type:=59,pos:=_,after:=_,guard:=none }) rfl (fun K hK=>?_) AllReadyH.nil
    go_simp
    refine hK.out _ _ trivial (fun hHeld=>?_)
    clear hK K
    try simp only [Act.put,List.setIfInBounds_toArray,List.set_cons_zero,List.set_cons_succ]
    refine wpAnyH_take (i:=5) (oi:={ dst:=some 43,op:=Op.indexAddr 59 (Operand.tmp 42) (Operand.const (Value.int IntKind.i64 0)),type:=0,pos:=_,after:=_,guard:=none }) (v:=?_) rfl (by kernel_rfl) (by kernel_rfl) (by kernel_rfl) (fun _ _ _ h=>h) (Or.inl ⟨by rfl,?_⟩) hHeld ?_
    rotate_left 1
    ·(intro W hW;(try dsimp only at hW);go_simp;try with_reducible rfl)
    try simp only [Act.put,List.setIfInBounds_toArray,List.set_cons_zero,List.set_cons_succ]
    refine wpAnyH_ready (rs:=[6]) (by kernel_rfl) (by simp) ?_
    refine AllReadyH.cons (o:={ dst:=some 44,op:=Op.load 3 (Operand.tmp 43),type:=3,pos:=_,after:=_,guard:=none }) rfl (fun K hK=>?_) AllReadyH.nil
    go_simp
    refine hK.out _ _ trivial (fun hHeld=>?_)
    clear hK K
    try simp only [Act.put,List.setIfInBounds_toArray,List.set_cons_zero,List.set_cons_succ]
    refine wpAnyH_ready (rs:=[15]) (by kernel_rfl) (by simp) ?_
    refine AllReadyH.cons (o:={ dst:=some 53,op:=Op.call { callee:=Callee.value (Operand.func 87),args:=#[Operand.tmp 38,Operand.tmp 44,Operand.tmp 52],argTypes:=#[180,3,44] },type:=0,pos:=_,after:=_,guard:=none }) rfl (fun K hK=>?_) AllReadyH.nil
    go_simp
    refine (write_any HPd.out.at_ l rfl HPd.out.own HWNE.out HLW.out (x:Int) (some ⟨db,do_+64*k,none⟩) (dc - 64*k) m _ HM.out hm64 hm0 HRK.out).mono ?_
    rintro e V5 hw5
    obtain ⟨rfl,g5,c5,x5,hst5,hkp5⟩:=HPd.out.wrote hw5
    have HST5:=Lib.hid hst5
    have HKP5:=Lib.hid hkp5
    clear hw5 hst5 hkp5
    go_simp
    refine hK.out _ _ trivial (fun hHeld=>?_)
    clear hK K
    try simp only [Act.put,List.setIfInBounds_toArray,List.set_cons_zero,List.set_cons_succ]
    refine wpAnyH_done (by kernel_rfl) ?_ _
    refine NoPanic.normal ?_
    obtain ⟨A',hA'⟩:∃ A',A'=(if fc=1 then (some ⟨fb,fo,none⟩:Option Addr) else some ⟨fb,fo+1,none⟩):=⟨_,rfl⟩
    have q5:V5.cell? ⟨gp,160,none⟩=some (.slice (some ⟨fb,fo,none⟩) fn fc):=by
     rw [HFN2.out,←(List.length_drop:(p.fr.drop k).length=p.fr.length - k)]
     exact HST5.out.at_.free
    have f5:V5.frozen? ⟨gp,160,none⟩=false:=HST5.out.at_.hd.open_ _
    have HFC:Hid (p.fr.length - k≤fc):=Lib.hid (by rw [←(List.length_drop:(p.fr.drop k).length=p.fr.length - k)];exact HST5.out.fr.1.1)
    have hfc1:1≤fc:=by have:=HFN2.out;have:=HFC.out;omega
    have hfcI:(1:Int)≤(fc:Int):=by omega
    have hfnI:(1:Int)≤(fn:Int):=by omega
    have hfn1:1≤fn:=by omega
    have hfnc:fn≤fc:=by have:=HFN2.out;have:=HFC.out;omega
    have hfncI:(fn:Int)≤(fc:Int):=by omega
    go_wp2_with (first | (rw [←hA']) | fail)
    have hk5b:=HKP5.out gb HGBA.out.1 HGBA.out.2.1 HGBA.out.2.2
    have hk59:=HKP5.out g9 HG9A.out.1 HG9A.out.2.1 HG9A.out.2.2
    refine ⟨⟨k+1,some ⟨g9,0,none⟩,c9,A',fc - 1,some ⟨g5,0,none⟩,c5,l ++ [x5],by rw [←HND.out];omega,by rw [show (64*(k:Int)+64)=64*((k+1:Nat):Int) by omega],?_,?_,?_⟩,by simp [intOf];omega⟩
    ·rw [Pln.mid_succ,←HXX.out]
     refine HST5.out.freed (by show fn - 1=(p.fr.drop k).length - 1;rw [List.length_drop,HFN2.out]) ?_ (by rw [hA'];split <;> rfl)
     rw [hA']
     split
     ·rename_i h1
      have hl1:((p.fr.drop k).drop 1).length=0:=by rw [List.length_drop,List.length_drop];have:=HFC.out;omega
      exact ⟨by show ((p.fr.drop k).drop 1).length≤_;omega,by omega,fun hn=>by have hn:0<((p.fr.drop k).drop 1).length:=hn;omega⟩
     ·exact HST5.out.fr.1.tailP (by show 0<(p.fr.drop k).length;rw [List.length_drop];have:=HFN2.out;omega)
    ·rw [←HDN.out]
     exact ((show Holds V5 gb _ _ from hk5b.1.trans HBXa.out)).aside (p:=⟨gp,160,none⟩) HGBA.out.2.1 _
    ·exact ((HOa.out.keepB fun g hg _=>by
      have e:g9=g:=by simpa [blockOf] using hg
      rw [←e]
      exact hk59.1)).aside (p:=⟨gp,160,none⟩) (fun e=>HG9A.out.2.1 (by simpa [blockOf] using e)) _
   case neg =>
    obtain rfl:k=nd:=by omega
    have hkI:¬ (64*(k:Int)<(dn:Int)):=by omega
    have HBX:Hid (Holds V gb 70 #[.string s,.int .i64 (dn:Int),.slice nA k nc]):=Lib.hid (by rw [HDN.out];exact HPT.out.box)
    have HGP:Hid (gp≠gb):=Lib.hid fun e=>by have:=(HPT.out.st.gg gp (.inl e)).1;omega
    have HVZ:Hid (gp<V.heap.size):=Lib.hid (by omega)
    have hi3:(0:Int)≤(i:Int)∧(i:Int)<40:=by omega
    have hiI:(i:Int)<40:=by omega
    have hi00:(0:Int)≤(i:Int):=by omega
    go_wp2_with fail
    have HTHR:Hid (V.drew.there gp (i*3) 3):=Lib.hid fun j hj=>by
     have hh:Holds V.drew gp 99 _:=HPT.out.st.at_.hd
     refine ⟨?_,hh.open_ _⟩
     rw [hh.cell]
     have hl:=HPT.out.st.at_.ncsl
     unfold pcs
     simp
     omega
    refine wp_region_noPanic ?_
    refine wp_region_held_drew (S:=fun W=>Holds W gb 70 #[.string s,.int .i64 (dn:Int),.slice nA k nc]) (by kernel_rfl) ((show Holds V.drew _ _ _ from HBX.out)) (fun hHeld=>?_)
    refine wpAnyH_take (i:=0) (oi:={ dst:=some 62,op:=Op.move (Operand.tmp 0),type:=180,pos:=_,after:=_,guard:=none }) (v:=?_) rfl (by kernel_rfl) (by kernel_rfl) (by kernel_rfl) (fun _ _ _ h=>h) (Or.inl ⟨by rfl,?_⟩) hHeld ?_
    rotate_left 1
    ·(intro W hW;(try dsimp only at hW);go_simp;try with_reducible rfl)
    try simp only [Act.put,List.setIfInBounds_toArray,List.set_cons_zero,List.set_cons_succ]
    refine wpAnyH_take (i:=1) (oi:={ dst:=some 63,op:=Op.move (Operand.tmp 1),type:=3,pos:=_,after:=_,guard:=none }) (v:=?_) rfl (by kernel_rfl) (by kernel_rfl) (by kernel_rfl) (fun _ _ _ h=>h) (Or.inl ⟨by rfl,?_⟩) hHeld ?_
    rotate_left 1
    ·(intro W hW;(try dsimp only at hW);go_simp;try with_reducible rfl)
    try simp only [Act.put,List.setIfInBounds_toArray,List.set_cons_zero,List.set_cons_succ]
    refine wpAnyH_take (i:=2) (oi:={ dst:=some 64,op:=Op.load 70 (Operand.tmp 9),type:=70,pos:=_,after:=_,guard:=none }) (v:=?_) rfl (by kernel_rfl) (by kernel_rfl) (by kernel_rfl) (fun _ _ _ h=>h) (Or.inl ⟨by rfl,?_⟩) hHeld ?_
    rotate_left 1
    ·(intro W hW;have k0:=hW.cell 0;have k1:=hW.cell 1;have k2:=hW.cell 2;(try dsimp only at hW);go_simp;try with_reducible rfl)
    try simp only [Act.put,List.setIfInBounds_toArray,List.set_cons_zero,List.set_cons_succ]
    refine wpAnyH_take (i:=3) (oi:={ dst:=some 65,op:=Op.nilCheck (Operand.tmp 62),type:=0,pos:=_,after:=_,guard:=none }) (v:=?_) rfl (by kernel_rfl) (by kernel_rfl) (by kernel_rfl) (fun _ _ _ h=>h) (Or.inl ⟨by rfl,?_⟩) hHeld ?_
    rotate_left 1
    ·(intro W hW;(try dsimp only at hW);go_simp;try with_reducible rfl)
    try simp only [Act.put,List.setIfInBounds_toArray,List.set_cons_zero,List.set_cons_succ]
    refine wpAnyH_take (i:=4) (oi:={ dst:=some 66,op:=Op.fieldAddr 99 (Operand.tmp 65) 0,type:=0,pos:=_,after:=_,guard:=none }) (v:=?_) rfl (by kernel_rfl) (by kernel_rfl) (by kernel_rfl) (fun _ _ _ h=>h) (Or.inl ⟨by rfl,?_⟩) hHeld ?_
    rotate_left 1
    ·(intro W hW;(try dsimp only at hW);go_simp;try with_reducible rfl)
    try simp only [Act.put,List.setIfInBounds_toArray,List.set_cons_zero,List.set_cons_succ]
    refine wpAnyH_take (i:=5) (oi:={ dst:=some 67,op:=Op.indexAddr 71 (Operand.tmp 66) (Operand.tmp 63),type:=0,pos:=_,after:=_,guard:=none }) (v:=?_) rfl (by kernel_rfl) (by kernel_rfl) (by kernel_rfl) (fun _ _ _ h=>h) (Or.inl ⟨by rfl,?_⟩) hHeld ?_
    rotate_left 1
    ·(intro W hW;(try dsimp only at hW);go_simp;try with_reducible rfl)
    try simp only [Act.put,List.setIfInBounds_toArray,List.set_cons_zero,List.set_cons_succ]
    refine wpAnyH_ready (rs:=[6]) (by kernel_rfl) (by simp) ?_
    refine AllReadyH.cons (o:={ dst:=none,op:=Op.store 70 (Operand.tmp 67) (Operand.tmp 64),type:=0,pos:=_,after:=_,guard:=none }) rfl (fun K hK=>?_) AllReadyH.nil
    rw [if_pos (by rfl)]
    refine wp_store_mid (P:=Tryz.prog) _ _ _ rfl gp (i*3) #[.string s,.int .i64 (dn:Int),.slice nA k nc] rfl rfl HTHR.out size_node (all_oneCell_toArray (by intro u hu;simp at hu;rcases hu with rfl | rfl | rfl <;> rfl)) ?_
    generalize hV5:World.setCells _ _ _ _=V5
    have HV5:Hid (V5=V.drew.setCells gp (i*3) [.string s,.int .i64 (dn:Int),.slice nA k nc]):=Lib.hid hV5.symm
    clear hV5
    have HS5:Hid (Holds V5 gb 70 #[.string s,.int .i64 (dn:Int),.slice nA k nc]):=Lib.hid (by rw [HV5.out];exact (setCells_aside (Ne.symm HGP.out) _ _ _).trans HBX.out)
    refine hK.out _ _ (HS5.out) (fun _=>?_)
    clear hK K hHeld
    try simp only [Act.put,List.setIfInBounds_toArray,List.set_cons_zero,List.set_cons_succ]
    have hHeld:(fun W=>Holds W gb 70 #[.string s,.int .i64 (dn:Int),.slice nA k nc]) V5:=HS5.out
    refine wpAnyH_done (by kernel_rfl) ?_ _
    refine NoPanic.normal ?_
    clear hHeld
    have HOW:Hid (Rd .i64 V.drew V.drew.heap.size nA nc (p.fr.take k)):=Lib.hid HPT.out.own.rd
    have HPK:Hid (placesI p.fr k=(p.fr.take k).map fun x:Nat=>(x:Int)):=Lib.hid rfl
    have HPL:Hid ((placesI p.fr k).length=k):=Lib.hid (placesI_len hfl)
    have HNG:Hid (∀ g,blockOf nA=some g→g≠gp∧blockOf wA≠some g):=Lib.hid fun g hg=>⟨fun e=>by have:=(HPT.out.st.gg g (.inr hg)).1;omega,fun e=>(HPT.out.st.wnew g e).2.2 (.inr hg)⟩
    have HOK:Hid (NodeOk s (d.length:Int) (placesI p.fr k)):=Lib.hid (by rw [HND.out];exact node_ok HS.out (by rw [←HDN.out];exact hd6) (by rw [←HND.out];exact hfl) HFM.out HFN.out)
    have HST5:Hid (PlSt O w0 gp (fun _=>False) { p.mid us d k with nv:=updV p.nv i (s,(d.length:Int),placesI p.fr k) } (ns.set i ⟨s,(dn:Int),nA,nc,placesI p.fr k⟩) fA fc wA wc l V5):=Lib.hid (by
     have h5:=HPT.out.st.drew.node (G':=fun _=>False) hi (d:=⟨s,(dn:Int),nA,nc,placesI p.fr k⟩) (RdI.of_rd HOW.out) (fun _ g hg=>HNG.out g hg) (fun _ h=>h.elim) (fun _ _ _ h=>h) (fun _ g hg=>(HPT.out.st.gg g (.inr hg)).1)
     have e1:ncell ⟨s,(dn:Int),nA,nc,placesI p.fr k⟩=[.string s,.int .i64 (dn:Int),.slice nA k nc]:=by unfold ncell;dsimp only;rw [HPL.out]
     rw [e1,←HV5.out] at h5
     rw [←HDN.out]
     exact h5)
    have HR5:Hid (Rd .i64 V5 V5.heap.size nA nc (p.fr.take k)):=Lib.hid (by
     have hz:V5.heap.size=V.drew.heap.size:=by rw [HV5.out];exact setCells_size _ _ _ _
     rw [hz]
     exact HOW.out.onB fun hn g hg hlt=>by rw [HV5.out];exact setCells_aside (HNG.out g hg).1 _ _ _)
    have HTL:Hid ((p.fr.take k).length=k):=Lib.hid (by rw [List.length_take];omega)
    have HBY:=Lib.hid (bytes_some V5 s dn V5.heap.size nA nc k (p.fr.take k) HTL.out HR5.out (Nat.le_refl _) (by rw [←HPK.out,HDN.out];exact HOK.out) (fun x hx=>HFM.out x (List.mem_of_mem_take hx)))
    have HLW:Hid (l.length≤8000):=Lib.hid (by
     have h1:=congrArg List.length HPT.out.st.ws
     rw [wv_length] at h1
     rw [h1]
     show (p.ws ++ putWs p.fr d k).length≤8000
     rw [List.length_append]
     have:=HWS.out
     simp [putWs]
     omega)
    have b0:=HS5.out.cell 0
    have b1:=HS5.out.cell 1
    have b2:=HS5.out.cell 2
    clear HPT HTHR HOW HBX
    go_wp2_with fail
    refine HBY.out.mono ?_
    rintro e V6 ⟨g6,rfl,hg6,hrow6,hb6⟩
    have HST6:=Lib.hid (HST5.out.other (G':=fun _=>False) (Only.of_below hb6) (fun _ h=>h.elim))
    have HW6:=Lib.hid (write_any HST6.out.at_ l rfl HST6.out.own (fun e=>(HST6.out.wnew gp e).2.1 rfl) HLW.out (i:Int) (some ⟨g6,0,none⟩) 64 64 (enc s dn (p.fr.take k)) (enc_length _ _ _) (by omega) (by omega) (Row.rd64 hrow6 (enc_length _ _ _)))
    clear hrow6 hb6 hg6
    go_wp2_with fail
    refine HW6.out.mono ?_
    rintro e V7 hw7
    obtain ⟨rfl,g7,c7,x7,hst7,_⟩:=HST6.out.wrote hw7
    have HST7:=Lib.hid hst7
    clear hw7 hst7
    go_wp2_with fail
    go_ret
    have hst8:=HST7.out
    rw [secOf_64 (enc_length _ _ _)] at hst8
    have hq:p.put (some i) s d=some (p.into i us s d):=HUS.out
    rw [hq]
    refine ⟨rfl,ns.set i ⟨s,(dn:Int),nA,nc,placesI p.fr k⟩,fA,fc,some ⟨g7,0,none⟩,c7,l ++ [x7],?_⟩
    rw [←Pln.mid_into,←HND.out,←HDN.out]
    rw [←HDN.out] at hst8
    exact hst8
 | none =>
  have HGV:=Lib.hid (give_any hst.at_)
  have HSO:=Lib.hid hst
  show Calls _ _ #[_,.int .i64 (-1),_,_] _ _
  clear hst hsl
  go_enter Tryz.func86,Tryz.ntmps86
  go_wp2_with fail
  refine HGV.out.mono ?_
  rintro e w1 (⟨hf,rfl,rfl⟩ | ⟨i,hf,hi,_,rfl,rfl⟩)
  ·have hq:p.put none s d=none:=by unfold Pln.put;dsimp only;rw [hf]
   have HQ:=Lib.hid hq
   have HON:=Lib.hid HSO.out.only
   clear hf hq HSO HGV
   go_wp2_with fail
   go_ret
   rw [HQ.out]
   exact ⟨rfl,HON.out⟩
  have hi0:¬ ((i:Int)<0):=by omega
  have hq:p.put none s d=some (p.into i (p.us.set i true) s d):=by unfold Pln.put;dsimp only;rw [hf]
  obtain ⟨us,hus⟩:∃ us,us=p.us.set i true:=⟨_,rfl⟩
  have HUS:Hid (p.put none s d=some (p.into i us s d)):=Lib.hid (by rw [hus];exact hq)
  obtain ⟨W1,hW1⟩:∃ W1,W1=w.setCell ⟨gp,120+i,none⟩ (.bool true):=⟨_,rfl⟩
  have HST:Hid (PlSt O w0 gp (fun _=>False) { p with us:=us } ns fA fc wA wc l W1):=Lib.hid (by rw [hus,hW1];exact HSO.out.gave i hi)
  rw [←hW1]
  clear hf hq hus hW1 HSO HGV
  obtain ⟨V1,hV1⟩:∃ V1,V1=W1.alloc (.cells #[.string s,.int .i64 (dn:Int),.slice none 0 0] 70):=⟨_,rfl⟩
  obtain ⟨gb,hgb⟩:∃ gb,gb=W1.heap.size:=⟨_,rfl⟩
  have HGB:=Lib.hid hgb
  have hw1:=HST.out.only.size
  have HP1:Hid (PtSt O w0 gp gb p us s d 0 ns none 0 fA fc wA wc l V1):=Lib.hid (by
   have hh:Holds V1 gb 70 #[.string s,.int .i64 (dn:Int),.slice none 0 0]:=by rw [hV1,hgb];exact Holds.fresh _ _ _
   refine ⟨?_,by rw [←HDN.out];exact hh,by rw [List.take_zero];exact Own.nil _ _ _ _⟩
   rw [Pln.mid_zero]
   refine HST.out.other (by rw [hV1];exact Only.of_below ((Below.refl _ _).alloc (Nat.le_refl _) _)) fun k hk=>?_
   rcases hk with rfl | hk
   ·exact ⟨.inr (by omega),hh.lt⟩
   ·cases hk)
  have HV1:=Lib.hid hV1
  clear hV1 HST hgb
  go_wp2_with (first | (rw [←HV1.out,←HGB.out]) | fail)
  go_loopw [10] (fun si wr=>RelPt O w0 gp gb p us s d ns si wr) (fun si _=>1000 - (intOf si).toNat)
  case atStart=>exact ⟨0,none,0,fA,fc,wA,wc,l,Nat.zero_le _,rfl,HP1.out⟩
  case round =>
   clear HP1
   obtain ⟨k,nA,nc,fA,fc,wA,wc,l,hk,rfl,hpt⟩:=hrel
   obtain ⟨V,hV⟩:∃ V,V=wr:=⟨_,rfl⟩
   subst hV
   rw [←HND.out] at hk
   have HPT:=Lib.hid hpt
   have hgp9:=hpt.st.g0
   have hvz:=hpt.st.only.size
   clear hpt
   by_cases hlt:k<nd
   case pos =>
    have hkI:64*(k:Int)<(dn:Int):=by omega
    have hk0:(0:Int)≤64*(k:Int):=by omega
    have hkw:IntKind.i64.wrap (64*(k:Int)+64)=64*(k:Int)+64:=IntWalk.i64_in _ (by omega)
    have hfl2:(p.fr.drop k).length=p.fr.length - k:=List.length_drop
    obtain ⟨fb,fo,x,rfl,hfb,hfx,HX⟩:=HPT.out.st.fr.1.at_ (i:=0) (by show 0<(p.fr.drop k).length;omega)
    have HXX:Hid (x=p.fr.getD k 0):=Lib.hid (by rw [HX.out];show (p.fr.drop k).getD 0 0=_;simp [List.getD])
    clear HX
    rw [Nat.add_zero] at hfx
    obtain ⟨fn,hfn⟩:∃ fn,fn=(p.mid us d k).fr.length:=⟨_,rfl⟩
    have HFN2:Hid (fn=p.fr.length - k):=Lib.hid (by rw [hfn];exact hfl2)
    have hfn0:0<fn:=by have:=HFN2.out;omega
    have HFA:Hid (V.cell? ⟨gp,160,none⟩=some (.slice (some ⟨fb,fo,none⟩) fn fc)):=Lib.hid (by rw [hfn];exact HPT.out.st.at_.free)
    have HFX:=Lib.hid hfx
    have HBX:Hid (Holds V gb 70 #[.string s,.int .i64 (dn:Int),.slice nA k nc]):=Lib.hid (by rw [HDN.out];exact HPT.out.box)
    have HGP:Hid (¬ (gp=gb∨blockOf nA=some gp)):=Lib.hid fun e=>by have:=(HPT.out.st.gg gp e).1;omega
    have HFB:Hid (fb≠gp∧¬ (fb=gb∨blockOf nA=some fb)):=Lib.hid ⟨(HPT.out.st.fr.2 (by rw [←hfn];omega) fb rfl).1,(HPT.out.st.fr.2 (by rw [←hfn];omega) fb rfl).2.2⟩
    have HNB:Hid (blockOf nA≠some gb):=Lib.hid fun e=>by have:=(HPT.out.own.block e).1;omega
    have HVZ:Hid (gp<V.heap.size):=Lib.hid (by omega)
    have HS9:Hid (∀ W',Only (fun g=>g=gb∨blockOf nA=some g) V W'→W'.cell? ⟨gp,160,none⟩=some (.slice (some ⟨fb,fo,none⟩) fn fc)∧W'.cell? ⟨fb,fo,none⟩=some (.int .i64 (x:Int))):=Lib.hid fun W' hW=>⟨(cell_same (hW.block gp HVZ.out HGP.out) _).trans HFA.out,(cell_same (hW.block fb hfb HFB.out.2) _).trans HFX.out⟩
    have HTK:Hid (p.fr.take (k+1)=p.fr.take k ++ [x]):=Lib.hid (by
     have:p.fr[k]?=some x:=by rw [HXX.out];simp [List.getD,show k<p.fr.length by omega]
     exact take_snocJ this)
    have HTL:Hid ((p.fr.take k).length=k):=Lib.hid (by rw [List.length_take];omega)
    clear hfx hfn hfl2
    go_wp2_with fail
    refine wp_region_noPanic ?_
    refine wp_region_held_drew (S:=fun W'=>Only (fun g=>g=gb∨blockOf nA=some g) V W') (by kernel_rfl) ((Only.refl _ V).drew) (fun hHeld=>?_)
    refine wpAnyH_take (i:=0) (oi:={ dst:=some 27,op:=Op.fieldAddr 70 (Operand.tmp 9) 2,type:=0,pos:=_,after:=_,guard:=none }) (v:=?_) rfl (by kernel_rfl) (by kernel_rfl) (by kernel_rfl) (fun _ _ _ h=>h) (Or.inl ⟨by rfl,?_⟩) hHeld ?_
    rotate_left 1
    ·(intro W hW;(try dsimp only at hW);go_simp;try with_reducible rfl)
    try simp only [Act.put,List.setIfInBounds_toArray,List.set_cons_zero,List.set_cons_succ]
    refine wpAnyH_take (i:=2) (oi:={ dst:=some 29,op:=Op.move (Operand.tmp 0),type:=180,pos:=_,after:=_,guard:=none }) (v:=?_) rfl (by kernel_rfl) (by kernel_rfl) (by kernel_rfl) (fun _ _ _ h=>h) (Or.inl ⟨by rfl,?_⟩) hHeld ?_
    rotate_left 1
    ·(intro W hW;(try dsimp only at hW);go_simp;try with_reducible rfl)
    try simp only [Act.put,List.setIfInBounds_toArray,List.set_cons_zero,List.set_cons_succ]
    refine wpAnyH_take (i:=3) (oi:={ dst:=some 30,op:=Op.nilCheck (Operand.tmp 29),type:=0,pos:=_,after:=_,guard:=none }) (v:=?_) rfl (by kernel_rfl) (by kernel_rfl) (by kernel_rfl) (fun _ _ _ h=>h) (Or.inl ⟨by rfl,?_⟩) hHeld ?_
    rotate_left 1
    ·(intro W hW;(try dsimp only at hW);go_simp;try with_reducible rfl)
    try simp only [Act.put,List.setIfInBounds_toArray,List.set_cons_zero,List.set_cons_succ]
    refine wpAnyH_take (i:=4) (oi:={ dst:=some 31,op:=Op.fieldAddr 99 (Operand.tmp 30) 2,type:=0,pos:=_,after:=_,guard:=none }) (v:=?_) rfl (by kernel_rfl) (by kernel_rfl) (by kernel_rfl) (fun _ _ _ h=>h) (Or.inl ⟨by rfl,?_⟩) hHeld ?_
    rotate_left 1
    ·(intro W hW;(try dsimp only at hW);go_simp;try with_reducible rfl)
    try simp only [Act.put,List.setIfInBounds_toArray,List.set_cons_zero,List.set_cons_succ]
    refine wpAnyH_take (i:=5) (oi:={ dst:=some 32,op:=Op.load 59 (Operand.tmp 31),type:=59,pos:=_,after:=_,guard:=none }) (v:=?_) rfl (by kernel_rfl) (by kernel_rfl) (by kernel_rfl) (fun _ _ _ h=>h) (Or.inl ⟨by rfl,?_⟩) hHeld ?_
    rotate_left 1
    ·(intro W hW;have q0:=(HS9.out _ hW).1;(try dsimp only at hW);go_simp;try with_reducible rfl)
    try simp only [Act.put,List.setIfInBounds_toArray,List.set_cons_zero,List.set_cons_succ]
    refine wpAnyH_take (i:=6) (oi:={ dst:=some 33,op:=Op.indexAddr 59 (Operand.tmp 32) (Operand.const (Value.int IntKind.i64 0)),type:=0,pos:=_,after:=_,guard:=none }) (v:=?_) rfl (by kernel_rfl) (by kernel_rfl) (by kernel_rfl) (fun _ _ _ h=>h) (Or.inl ⟨by rfl,?_⟩) hHeld ?_
    rotate_left 1
    ·(intro W hW;(try dsimp only at hW);go_simp;try with_reducible rfl)
    try simp only [Act.put,List.setIfInBounds_toArray,List.set_cons_zero,List.set_cons_succ]
    refine wpAnyH_take (i:=7) (oi:={ dst:=some 34,op:=Op.load 3 (Operand.tmp 33),type:=3,pos:=_,after:=_,guard:=none }) (v:=?_) rfl (by kernel_rfl) (by kernel_rfl) (by kernel_rfl) (fun _ _ _ h=>h) (Or.inl ⟨by rfl,?_⟩) hHeld ?_
    rotate_left 1
    ·(intro W hW;have q1:=(HS9.out _ hW).2;(try dsimp only at hW);go_simp;try with_reducible rfl)
    try simp only [Act.put,List.setIfInBounds_toArray,List.set_cons_zero,List.set_cons_succ]
    refine wpAnyH_ready (rs:=[1,8]) (by kernel_rfl) (by simp) ?_
    refine AllReadyH.cons (o:={ dst:=some 28,op:=Op.load 59 (Operand.tmp 27),type:=59,pos:=_,after:=_,guard:=none }) rfl (fun K hK=>?_) ?_
    have kl:V.drew.cell? ⟨gb,2,none⟩=some (.slice nA k nc):=(HBX.out:Holds V.drew _ _ _).cell 2
    go_simp
    clear kl
    refine hK.out _ _ (hHeld) (fun hHeld=>?_)
    clear hK K
    try simp only [Act.put,List.setIfInBounds_toArray,List.set_cons_zero,List.set_cons_succ]
    refine wpAnyH_ready (rs:=[8]) (by kernel_rfl) (by simp) ?_
    refine AllReadyH.cons (o:={ dst:=some 35,op:=Op.buildSlice 59 1 #[(0,Operand.tmp 34)],type:=59,pos:=_,after:=_,guard:=none }) rfl (fun K hK=>?_) AllReadyH.nil
    go_simp
    obtain ⟨V8,hV8⟩:∃ V8,V8=(V.alloc (.cells #[.int .i64 (x:Int)] 3)).drew:=⟨_,rfl⟩
    rw [←hV8]
    have HB8:Hid (Below V.heap.size V V8):=Lib.hid (by rw [hV8];exact ((Below.refl _ _).alloc (Nat.le_refl _) _).drew)
    have HH8:Hid (Holds V8 V.heap.size 3 (nums .i64 [x])):=Lib.hid (by rw [hV8];exact (Holds.fresh V 3 (nums .i64 [x]):Holds (V.alloc _) _ _ _))
    have HBX8:Hid (Holds V8 gb 70 #[.string s,.int .i64 (dn:Int),.slice nA k nc]):=Lib.hid (HBX.out.under HB8.out HBX.out.lt)
    have HO8:Hid (Own .i64 3 V8 (gb+1) nA nc (p.fr.take k)):=Lib.hid (HPT.out.own.under_all HB8.out)
    have HZ8:Hid (V8.heap.size=V.heap.size+1):=Lib.hid (by rw [hV8];simp)
    clear hV8
    refine hK.out _ _ ((Only.of_below HB8.out)) (fun hHeld=>?_)
    clear hK K
    try simp only [Act.put,List.setIfInBounds_toArray,List.set_cons_zero,List.set_cons_succ]
    refine wpAnyH_ready (rs:=[9]) (by kernel_rfl) (by simp) ?_
    refine AllReadyH.cons (o:={ dst:=some 36,op:=Op.call { callee:=Callee.builtin Builtin.append,args:=#[Operand.tmp 28,Operand.tmp 35],argTypes:=#[59,59] },type:=59,pos:=_,after:=_,guard:=none }) rfl (fun K hK=>?_) AllReadyH.nil
    refine step_push _ rfl (.tmp 28) (.tmp 35) 59 rfl .i64 (gb+1) 3 8 Tryz.underlying59 info_i64 nA k nc (p.fr.take k) rfl HTL.out HO8.out V.heap.size 1 1 [x] rfl rfl HH8.out (by omega) (by omega) (by omega) (by have:=HBX8.out.lt;omega) ?_
    intro g9 c9 V9 ho9 hg9 hat9
    have HO9:Hid (Own .i64 3 V9 (gb+1) (some ⟨g9,0,none⟩) c9 (p.fr.take (k+1))):=Lib.hid (by rw [HTK.out];exact ho9)
    have HAT:Hid (blockOf nA=some g9∨V.heap.size≤g9):=Lib.hid (hat9.imp id fun e=>by have:=HZ8.out;omega)
    have HBX9:Hid (Holds V9 gb 70 #[.string s,.int .i64 (dn:Int),.slice nA k nc]):=Lib.hid (HBX8.out.grown hg9 (Ne.symm HNB.out))
    have kl:V9.cell? ⟨gb,2,none⟩=some (.slice nA k nc):=HBX9.out.cell 2
    have kf:V9.frozen? ⟨gb,2,none⟩=false:=HBX9.out.open_ _
    have HZ9:Hid (V.heap.size≤V9.heap.size):=Lib.hid (Nat.le_trans HB8.out.size hg9.size)
    have HSS9:Hid (Only (fun g=>g=gb∨blockOf nA=some g) V V9):=Lib.hid ⟨hg9.os.trans HB8.out.os,hg9.tape.trans HB8.out.tape,hg9.output.trans HB8.out.output,Nat.le_trans HB8.out.size hg9.size,fun k hk hF=>(hg9.block k (Nat.lt_of_lt_of_le hk HB8.out.size) (fun e=>hF (.inr e.symm))).trans (HB8.out.block k hk)⟩
    clear ho9 hg9 hat9
    refine hK.out _ _ (HSS9.out) (fun hHeld=>?_)
    clear hK K
    try simp only [Act.put,List.setIfInBounds_toArray,List.set_cons_zero,List.set_cons_succ]
    refine wpAnyH_take (i:=10) (oi:={ dst:=some 37,op:=Op.fieldAddr 70 (Operand.tmp 9) 2,type:=0,pos:=_,after:=_,guard:=none }) (v:=?_) rfl (by kernel_rfl) (by kernel_rfl) (by kernel_rfl) (fun _ _ _ h=>h) (Or.inl ⟨by rfl,?_⟩) hHeld ?_
    rotate_left 1
    ·(intro W hW;(try dsimp only at hW);go_simp;try with_reducible rfl)
    try simp only [Act.put,List.setIfInBounds_toArray,List.set_cons_zero,List.set_cons_succ]
    refine wpAnyH_ready (rs:=[11]) (by kernel_rfl) (by simp) ?_
    refine AllReadyH.cons (o:={ dst:=none,op:=Op.store 59 (Operand.tmp 37) (Operand.tmp 36),type:=0,pos:=_,after:=_,guard:=none }) rfl (fun K hK=>?_) AllReadyH.nil
    go_simp
    refine hK.out _ _ ((HSS9.out.setCell (.inl (.inl rfl)) _)) (fun hHeld=>?_)
    clear hK K
    try simp only [Act.put,List.setIfInBounds_toArray,List.set_cons_zero,List.set_cons_succ]
    refine wpAnyH_done (by kernel_rfl) ?_ _
    refine NoPanic.normal ?_
    obtain ⟨Va,hVa⟩:∃ Va,Va=V9.setCell ⟨gb,2,none⟩ (.slice (some ⟨g9,0,none⟩) (k+1) c9):=⟨_,rfl⟩
    rw [←hVa]
    have hoa:Only (fun g=>g=gb∨blockOf nA=some g) V Va:=by rw [hVa];exact HSS9.out.setCell (.inl (.inl rfl)) _
    have HBXa:Hid (Holds Va gb 70 #[.string s,.int .i64 (dn:Int),.slice (some ⟨g9,0,none⟩) (k+1) c9]):=Lib.hid (by
     have:=HBX9.out.stored 2 (.slice (some ⟨g9,0,none⟩) (k+1) c9)
     rw [←hVa] at this
     exact this)
    have HOa:Hid (Own .i64 3 Va (gb+1) (some ⟨g9,0,none⟩) c9 (p.fr.take (k+1))):=Lib.hid (by rw [hVa];exact HO9.out.aside (p:=⟨gb,2,none⟩) (fun e=>by have:=(HO9.out.block e).1;dsimp only at this;omega) _)
    have HPa:Hid (PlSt O w0 gp (fun g=>g=gb∨blockOf (some ⟨g9,0,none⟩:Option Addr)=some g) (p.mid us d k) ns (some ⟨fb,fo,none⟩) fc wA wc l Va):=Lib.hid (HPT.out.st.other hoa fun g hg=>by
     rcases hg with rfl | hg
     ·exact ⟨.inl (.inl rfl),HBXa.out.lt⟩
     ·have e:g9=g:=by simpa [blockOf] using hg
      subst e
      exact ⟨HAT.out.imp (fun e=>.inr e) id,(HOa.out.block rfl).2⟩)
    have HVaz:=Lib.hid hoa.size
    have HSa:Hid (Va.cell? ⟨gp,160,none⟩=some (.slice (some ⟨fb,fo,none⟩) fn fc)∧Va.cell? ⟨fb,fo,none⟩=some (.int .i64 (x:Int))):=Lib.hid (HS9.out Va hoa)
    clear hVa hoa hHeld HBX9 HO9 HSS9 HBX8 HO8 HH8 HB8 HZ8 HBX HPT HS9 HFA HFX HAT HTL HTK HFB
    obtain ⟨db,do_,rfl,hdb,_⟩:=(HDR.out w0 (Only.refl _ _)).2.2 (by have:=HDN.out;omega)
    have hdl:=(HDR.out w0 (Only.refl _ _)).1
    have hdc:=(HDR.out w0 (Only.refl _ _)).2.1
    obtain ⟨m,hm⟩:∃ m,m=min (dn - 64*k) 64:=⟨_,rfl⟩
    have hmm:min (64*(k:Int)+64) (dn:Int)=64*(k:Int)+(m:Int):=by omega
    have hm64:m≤64:=by omega
    have hm0:0<m:=by omega
    have hdcl:dn≤dc:=by have:=HDN.out;omega
    have hlo:(64*(k:Int))≤64*(k:Int)+(m:Int):=by omega
    have hhi:64*(k:Int)+(m:Int)≤(dc:Int):=by omega
    obtain ⟨q0,q1⟩:=HSa.out
    have ht1:(64*(k:Int)).toNat=64*k:=by omega
    have ht2:(64*(k:Int)+(m:Int)).toNat=64*k+m:=by omega
    have hne2:¬ (dc=64*k):=by omega
    have HM:Hid (((d.drop (64*k)).take 64).length=m):=Lib.hid (by rw [List.length_take,List.length_drop,←HDN.out,hm];omega)
    clear hm
    have HPd:=Lib.hid HPa.out.drew
    have HRK:Hid (Rd .u8 Va.drew Va.drew.heap.size (some ⟨db,do_+64*k,none⟩) (dc - 64*k) ((d.drop (64*k)).take 64)):=Lib.hid (((HDR.out _ HPd.out.only).part (64*k) 64 (by have:=HDN.out;omega)).more (by show B≤Va.heap.size;have:=HVaz.out;have:=HVZ.out;omega))
    have HWNE:Hid (blockOf wA≠some gp):=Lib.hid fun e=>(HPd.out.wnew gp e).2.1 rfl
    have HLW:Hid (l.length≤8000):=Lib.hid (by
     have h1:=congrArg List.length HPd.out.ws
     rw [wv_length] at h1
     rw [h1]
     show (p.ws ++ putWs p.fr d k).length≤8000
     rw [List.length_append]
     have:=HWS.out
     simp [putWs]
     omega)
    have HGBA:Hid (gb<Va.heap.size∧gb≠gp∧blockOf wA≠some gb):=Lib.hid ⟨HBXa.out.lt,fun e=>HGP.out (.inl e.symm),fun e=>(HPa.out.wnew gb e).2.2 (.inl rfl)⟩
    have HG9A:Hid (g9<Va.heap.size∧g9≠gp∧blockOf wA≠some g9):=Lib.hid ⟨(HOa.out.block rfl).2,fun e=>by have:=(HPa.out.gg g9 (.inr rfl)).1;omega,fun e=>(HPa.out.wnew g9 e).2.2 (.inr rfl)⟩
    have q0:Va.drew.cell? ⟨gp,160,none⟩=some (.slice (some ⟨fb,fo,none⟩) fn fc):=q0
    have q1:Va.drew.cell? ⟨fb,fo,none⟩=some (.int .i64 (x:Int)):=q1
    go_wp2_with fail
    refine wp_region_noPanic ?_
    refine wp_region_held_drew (S:=fun _=>True) (by kernel_rfl) trivial (fun hHeld=>?_)
    refine wpAnyH_take (i:=0) (oi:={ dst:=some 38,op:=Op.move (Operand.tmp 0),type:=180,pos:=_,after:=_,guard:=none }) (v:=?_) rfl (by kernel_rfl) (by kernel_rfl) (by kernel_rfl) (fun _ _ _ h=>h) (Or.inl ⟨by rfl,?_⟩) hHeld ?_
    rotate_left 1
    ·(intro W hW;(try dsimp only at hW);go_simp;try with_reducible rfl)
    try simp only [Act.put,List.setIfInBounds_toArray,List.set_cons_zero,List.set_cons_succ]
    refine wpAnyH_take (i:=1) (oi:={ dst:=some 39,op:=Op.move (Operand.tmp 0),type:=180,pos:=_,after:=_,guard:=none }) (v:=?_) rfl (by kernel_rfl) (by kernel_rfl) (by kernel_rfl) (fun _ _ _ h=>h) (Or.inl ⟨by rfl,?_⟩) hHeld ?_
    rotate_left 1
    ·(intro W hW;(try dsimp only at hW);go_simp;try with_reducible rfl)
    try simp only [Act.put,List.setIfInBounds_toArray,List.set_cons_zero,List.set_cons_succ]
    refine wpAnyH_take (i:=2) (oi:={ dst:=some 40,op:=Op.nilCheck (Operand.tmp 39),type:=0,pos:=_,after:=_,guard:=none }) (v:=?_) rfl (by kernel_rfl) (by kernel_rfl) (by kernel_rfl) (fun _ _ _ h=>h) (Or.inl ⟨by rfl,?_⟩) hHeld ?_
    rotate_left 1
    ·(intro W hW;(try dsimp only at hW);go_simp;try with_reducible rfl)
    try simp only [Act.put,List.setIfInBounds_toArray,List.set_cons_zero,List.set_cons_succ]
    refine wpAnyH_take (i:=3) (oi:={ dst:=some 41,op:=Op.fieldAddr 99 (Operand.tmp 40) 2,type:=0,pos:=_,after:=_,guard:=none }) (v:=?_) rfl (by kernel_rfl) (by kernel_rfl) (by kernel_rfl) (fun _ _ _ h=>h) (Or.inl ⟨by rfl,?_⟩) hHeld ?_
    rotate_left 1
    ·(intro W hW;(try dsimp only at hW);go_simp;try with_reducible rfl)
    try simp only [Act.put,List.setIfInBounds_toArray,List.set_cons_zero,List.set_cons_succ]
    refine wpAnyH_take (i:=7) (oi:={ dst:=some 45,op:=Op.move (Operand.tmp 3),type:=44,pos:=_,after:=_,guard:=none }) (v:=?_) rfl (by kernel_rfl) (by kernel_rfl) (by kernel_rfl) (fun _ _ _ h=>h) (Or.inl ⟨by rfl,?_⟩) hHeld ?_
    rotate_left 1
    ·(intro W hW;(try dsimp only at hW);go_simp;try with_reducible rfl)
    try simp only [Act.put,List.setIfInBounds_toArray,List.set_cons_zero,List.set_cons_succ]
    refine wpAnyH_take (i:=8) (oi:={ dst:=some 46,op:=Op.move (Operand.tmp 10),type:=3,pos:=_,after:=_,guard:=none }) (v:=?_) rfl (by kernel_rfl) (by kernel_rfl) (by kernel_rfl) (fun _ _ _ h=>h) (Or.inl ⟨by rfl,?_⟩) hHeld ?_
    rotate_left 1
    ·(intro W hW;(try dsimp only at hW);go_simp;try with_reducible rfl)
    try simp only [Act.put,List.setIfInBounds_toArray,List.set_cons_zero,List.set_cons_succ]
    refine wpAnyH_take (i:=9) (oi:={ dst:=some 47,op:=Op.move (Operand.tmp 10),type:=3,pos:=_,after:=_,guard:=none }) (v:=?_) rfl (by kernel_rfl) (by kernel_rfl) (by kernel_rfl) (fun _ _ _ h=>h) (Or.inl ⟨by rfl,?_⟩) hHeld ?_
    rotate_left 1
    ·(intro W hW;(try dsimp only at hW);go_simp;try with_reducible rfl)
    try simp only [Act.put,List.setIfInBounds_toArray,List.set_cons_zero,List.set_cons_succ]
    refine wpAnyH_take (i:=10) (oi:={ dst:=some 48,op:=Op.binOp BinOp.add 3 (Operand.tmp 47) (Operand.const (Value.int IntKind.i64 64)) 3,type:=3,pos:=_,after:=_,guard:=none }) (v:=?_) rfl (by kernel_rfl) (by kernel_rfl) (by kernel_rfl) (fun _ _ _ h=>h) (Or.inl ⟨by rfl,?_⟩) hHeld ?_
    rotate_left 1
    ·(intro W hW;(try dsimp only at hW);go_simp;try with_reducible rfl)
    try simp only [Act.put,List.setIfInBounds_toArray,List.set_cons_zero,List.set_cons_succ]
    refine wpAnyH_take (i:=11) (oi:={ dst:=some 49,op:=Op.move (Operand.tmp 3),type:=44,pos:=_,after:=_,guard:=none }) (v:=?_) rfl (by kernel_rfl) (by kernel_rfl) (by kernel_rfl) (fun _ _ _ h=>h) (Or.inl ⟨by rfl,?_⟩) hHeld ?_
    rotate_left 1
    ·(intro W hW;(try dsimp only at hW);go_simp;try with_reducible rfl)
    try simp only [Act.put,List.setIfInBounds_toArray,List.set_cons_zero,List.set_cons_succ]
    refine wpAnyH_take (i:=12) (oi:={ dst:=some 50,op:=Op.call { callee:=Callee.builtin Builtin.len,args:=#[Operand.tmp 49],argTypes:=#[44] },type:=3,pos:=_,after:=_,guard:=none }) (v:=?_) rfl (by kernel_rfl) (by kernel_rfl) (by kernel_rfl) (fun _ _ _ h=>h) (Or.inl ⟨by rfl,?_⟩) hHeld ?_
    rotate_left 1
    ·(intro W hW;(try dsimp only at hW);go_simp;try with_reducible rfl)
    try simp only [Act.put,List.setIfInBounds_toArray,List.set_cons_zero,List.set_cons_succ]
    refine wpAnyH_take (i:=13) (oi:={ dst:=some 51,op:=Op.call { callee:=Callee.builtin Builtin.min,args:=#[Operand.tmp 48,Operand.tmp 50],argTypes:=#[3,3] },type:=3,pos:=_,after:=_,guard:=none }) (v:=?_) rfl (by kernel_rfl) (by kernel_rfl) (by kernel_rfl) (fun _ _ _ h=>h) (Or.inl ⟨by rfl,?_⟩) hHeld ?_
    rotate_left 1
    ·(intro W hW;(try dsimp only at hW);go_simp;try with_reducible rfl)
    try simp only [Act.put,List.setIfInBounds_toArray,List.set_cons_zero,List.set_cons_succ]
    refine wpAnyH_take (i:=14) (oi:={ dst:=some 52,op:=Op.slice 44 (Operand.tmp 45) (some (Operand.tmp 46)) (some (Operand.tmp 51)) none,type:=44,pos:=_,after:=_,guard:=none }) (v:=?_) rfl (by kernel_rfl) (by kernel_rfl) (by kernel_rfl) (fun _ _ _ h=>h) (Or.inl ⟨by rfl,?_⟩) hHeld ?_
    rotate_left 1
    ·(intro W hW;(try dsimp only at hW);go_simp;try with_reducible rfl)
    try simp only [Act.put,List.setIfInBounds_toArray,List.set_cons_zero,List.set_cons_succ]
    refine wpAnyH_ready (rs:=[4]) (by kernel_rfl) (by simp) ?_
    refine AllReadyH.cons (o:={ dst:=some 42,op:=Op.load 59 (Operand.tmp 41),type:=59,pos:=_,after:=_,guard:=none }) rfl (fun K hK=>?_) AllReadyH.nil
    go_simp
    refine hK.out _ _ trivial (fun hHeld=>?_)
    clear hK K
    try simp only [Act.put,List.setIfInBounds_toArray,List.set_cons_zero,List.set_cons_succ]
    refine wpAnyH_take (i:=5) (oi:={ dst:=some 43,op:=Op.indexAddr 59 (Operand.tmp 42) (Operand.const (Value.int IntKind.i64 0)),type:=0,pos:=_,after:=_,guard:=none }) (v:=?_) rfl (by kernel_rfl) (by kernel_rfl) (by kernel_rfl) (fun _ _ _ h=>h) (Or.inl ⟨by rfl,?_⟩) hHeld ?_
    rotate_left 1
    ·(intro W hW;(try dsimp only at hW);go_simp;try with_reducible rfl)
    try simp only [Act.put,List.setIfInBounds_toArray,List.set_cons_zero,List.set_cons_succ]
    refine wpAnyH_ready (rs:=[6]) (by kernel_rfl) (by simp) ?_
    refine AllReadyH.cons (o:={ dst:=some 44,op:=Op.load 3 (Operand.tmp 43),type:=3,pos:=_,after:=_,guard:=none }) rfl (fun K hK=>?_) AllReadyH.nil
    go_simp
    refine hK.out _ _ trivial (fun hHeld=>?_)
    clear hK K
    try simp only [Act.put,List.setIfInBounds_toArray,List.set_cons_zero,List.set_cons_succ]
    refine wpAnyH_ready (rs:=[15]) (by kernel_rfl) (by simp) ?_
    refine AllReadyH.cons (o:={ dst:=some 53,op:=Op.call { callee:=Callee.value (Operand.func 87),args:=#[Operand.tmp 38,Operand.tmp 44,Operand.tmp 52],argTypes:=#[180,3,44] },type:=0,pos:=_,after:=_,guard:=none }) rfl (fun K hK=>?_) AllReadyH.nil
    go_simp
    refine (write_any HPd.out.at_ l rfl HPd.out.own HWNE.out HLW.out (x:Int) (some ⟨db,do_+64*k,none⟩) (dc - 64*k) m _ HM.out hm64 hm0 HRK.out).mono ?_
    rintro e V5 hw5
    obtain ⟨rfl,g5,c5,x5,hst5,hkp5⟩:=HPd.out.wrote hw5
    have HST5:=Lib.hid hst5
    have HKP5:=Lib.hid hkp5
    clear hw5 hst5 hkp5
    go_simp
    refine hK.out _ _ trivial (fun hHeld=>?_)
    clear hK K
    try simp only [Act.put,List.setIfInBounds_toArray,List.set_cons_zero,List.set_cons_succ]
    refine wpAnyH_done (by kernel_rfl) ?_ _
    refine NoPanic.normal ?_
    obtain ⟨A',hA'⟩:∃ A',A'=(if fc=1 then (some ⟨fb,fo,none⟩:Option Addr) else some ⟨fb,fo+1,none⟩):=⟨_,rfl⟩
    have q5:V5.cell? ⟨gp,160,none⟩=some (.slice (some ⟨fb,fo,none⟩) fn fc):=by
     rw [HFN2.out,←(List.length_drop:(p.fr.drop k).length=p.fr.length - k)]
     exact HST5.out.at_.free
    have f5:V5.frozen? ⟨gp,160,none⟩=false:=HST5.out.at_.hd.open_ _
    have HFC:Hid (p.fr.length - k≤fc):=Lib.hid (by rw [←(List.length_drop:(p.fr.drop k).length=p.fr.length - k)];exact HST5.out.fr.1.1)
    have hfc1:1≤fc:=by have:=HFN2.out;have:=HFC.out;omega
    have hfcI:(1:Int)≤(fc:Int):=by omega
    have hfnI:(1:Int)≤(fn:Int):=by omega
    have hfn1:1≤fn:=by omega
    have hfnc:fn≤fc:=by have:=HFN2.out;have:=HFC.out;omega
    have hfncI:(fn:Int)≤(fc:Int):=by omega
    go_wp2_with (first | (rw [←hA']) | fail)
    have hk5b:=HKP5.out gb HGBA.out.1 HGBA.out.2.1 HGBA.out.2.2
    have hk59:=HKP5.out g9 HG9A.out.1 HG9A.out.2.1 HG9A.out.2.2
    refine ⟨⟨k+1,some ⟨g9,0,none⟩,c9,A',fc - 1,some ⟨g5,0,none⟩,c5,l ++ [x5],by rw [←HND.out];omega,by rw [show (64*(k:Int)+64)=64*((k+1:Nat):Int) by omega],?_,?_,?_⟩,by simp [intOf];omega⟩
    ·rw [Pln.mid_succ,←HXX.out]
     refine HST5.out.freed (by show fn - 1=(p.fr.drop k).length - 1;rw [List.length_drop,HFN2.out]) ?_ (by rw [hA'];split <;> rfl)
     rw [hA']
     split
     ·rename_i h1
      have hl1:((p.fr.drop k).drop 1).length=0:=by rw [List.length_drop,List.length_drop];have:=HFC.out;omega
      exact ⟨by show ((p.fr.drop k).drop 1).length≤_;omega,by omega,fun hn=>by have hn:0<((p.fr.drop k).drop 1).length:=hn;omega⟩
     ·exact HST5.out.fr.1.tailP (by show 0<(p.fr.drop k).length;rw [List.length_drop];have:=HFN2.out;omega)
    ·rw [←HDN.out]
     exact ((show Holds V5 gb _ _ from hk5b.1.trans HBXa.out)).aside (p:=⟨gp,160,none⟩) HGBA.out.2.1 _
    ·exact ((HOa.out.keepB fun g hg _=>by
      have e:g9=g:=by simpa [blockOf] using hg
      rw [←e]
      exact hk59.1)).aside (p:=⟨gp,160,none⟩) (fun e=>HG9A.out.2.1 (by simpa [blockOf] using e)) _
    refine AllReadyH.cons (o:={ dst:=some 35,op:=Op.buildSlice 59 1 #[(0,Operand.tmp 34)],type:=59,pos:=_,after:=_,guard:=none }) rfl (fun K hK=>?_) AllReadyH.nil
    go_simp
    obtain ⟨V8,hV8⟩:∃ V8,V8=(V.alloc (.cells #[.int .i64 (x:Int)] 3)).drew:=⟨_,rfl⟩
    rw [←hV8]
    have HB8:Hid (Below V.heap.size V V8):=Lib.hid (by rw [hV8];exact ((Below.refl _ _).alloc (Nat.le_refl _) _).drew)
    have HH8:Hid (Holds V8 V.heap.size 3 (nums .i64 [x])):=Lib.hid (by rw [hV8];exact (Holds.fresh V 3 (nums .i64 [x]):Holds (V.alloc _) _ _ _))
    have HBX8:Hid (Holds V8 gb 70 #[.string s,.int .i64 (dn:Int),.slice nA k nc]):=Lib.hid (HBX.out.under HB8.out HBX.out.lt)
    have HO8:Hid (Own .i64 3 V8 (gb+1) nA nc (p.fr.take k)):=Lib.hid (HPT.out.own.under_all HB8.out)
    have HZ8:Hid (V8.heap.size=V.heap.size+1):=Lib.hid (by rw [hV8];simp)
    clear hV8
    refine hK.out _ _ ((Only.of_below HB8.out)) (fun hHeld=>?_)
    clear hK K
    try simp only [Act.put,List.setIfInBounds_toArray,List.set_cons_zero,List.set_cons_succ]
    refine wpAnyH_ready (rs:=[1]) (by kernel_rfl) (by simp) ?_
    refine AllReadyH.cons (o:={ dst:=some 28,op:=Op.load 59 (Operand.tmp 27),type:=59,pos:=_,after:=_,guard:=none }) rfl (fun K hK=>?_) AllReadyH.nil
    have kl:V8.cell? ⟨gb,2,none⟩=some (.slice nA k nc):=(HBX8.out:Holds V8 _ _ _).cell 2
    go_simp
    clear kl
    refine hK.out _ _ (hHeld) (fun hHeld=>?_)
    clear hK K
    try simp only [Act.put,List.setIfInBounds_toArray,List.set_cons_zero,List.set_cons_succ]
    refine wpAnyH_ready (rs:=[9]) (by kernel_rfl) (by simp) ?_
    refine AllReadyH.cons (o:={ dst:=some 36,op:=Op.call { callee:=Callee.builtin Builtin.append,args:=#[Operand.tmp 28,Operand.tmp 35],argTypes:=#[59,59] },type:=59,pos:=_,after:=_,guard:=none }) rfl (fun K hK=>?_) AllReadyH.nil
    refine step_push _ rfl (.tmp 28) (.tmp 35) 59 rfl .i64 (gb+1) 3 8 Tryz.underlying59 info_i64 nA k nc (p.fr.take k) rfl HTL.out HO8.out V.heap.size 1 1 [x] rfl rfl HH8.out (by omega) (by omega) (by omega) (by have:=HBX8.out.lt;omega) ?_
    intro g9 c9 V9 ho9 hg9 hat9
    have HO9:Hid (Own .i64 3 V9 (gb+1) (some ⟨g9,0,none⟩) c9 (p.fr.take (k+1))):=Lib.hid (by rw [HTK.out];exact ho9)
    have HAT:Hid (blockOf nA=some g9∨V.heap.size≤g9):=Lib.hid (hat9.imp id fun e=>by have:=HZ8.out;omega)
    have HBX9:Hid (Holds V9 gb 70 #[.string s,.int .i64 (dn:Int),.slice nA k nc]):=Lib.hid (HBX8.out.grown hg9 (Ne.symm HNB.out))
    have kl:V9.cell? ⟨gb,2,none⟩=some (.slice nA k nc):=HBX9.out.cell 2
    have kf:V9.frozen? ⟨gb,2,none⟩=false:=HBX9.out.open_ _
    have HZ9:Hid (V.heap.size≤V9.heap.size):=Lib.hid (Nat.le_trans HB8.out.size hg9.size)
    have HSS9:Hid (Only (fun g=>g=gb∨blockOf nA=some g) V V9):=Lib.hid ⟨hg9.os.trans HB8.out.os,hg9.tape.trans HB8.out.tape,hg9.output.trans HB8.out.output,Nat.le_trans HB8.out.size hg9.size,fun k hk hF=>(hg9.block k (Nat.lt_of_lt_of_le hk HB8.out.size) (fun e=>hF (.inr e.symm))).trans (HB8.out.block k hk)⟩
    clear ho9 hg9 hat9
    refine hK.out _ _ (HSS9.out) (fun hHeld=>?_)
    clear hK K
    try simp only [Act.put,List.setIfInBounds_toArray,List.set_cons_zero,List.set_cons_succ]
    refine wpAnyH_take (i:=10) (oi:={ dst:=some 37,op:=Op.fieldAddr 70 (Operand.tmp 9) 2,type:=0,pos:=_,after:=_,guard:=none }) (v:=?_) rfl (by kernel_rfl) (by kernel_rfl) (by kernel_rfl) (fun _ _ _ h=>h) (Or.inl ⟨by rfl,?_⟩) hHeld ?_
    rotate_left 1
    ·(intro W hW;(try dsimp only at hW);go_simp;try with_reducible rfl)
    try simp only [Act.put,List.setIfInBounds_toArray,List.set_cons_zero,List.set_cons_succ]
    refine wpAnyH_ready (rs:=[11]) (by kernel_rfl) (by simp) ?_
    refine AllReadyH.cons (o:={ dst:=none,op:=Op.store 59 (Operand.tmp 37) (Operand.tmp 36),type:=0,pos:=_,after:=_,guard:=none }) rfl (fun K hK=>?_) AllReadyH.nil
    go_simp
    refine hK.out _ _ ((HSS9.out.setCell (.inl (.inl rfl)) _)) (fun hHeld=>?_)
    clear hK K
    try simp only [Act.put,List.setIfInBounds_toArray,List.set_cons_zero,List.set_cons_succ]
    refine wpAnyH_done (by kernel_rfl) ?_ _
    refine NoPanic.normal ?_
    obtain ⟨Va,hVa⟩:∃ Va,Va=V9.setCell ⟨gb,2,none⟩ (.slice (some ⟨g9,0,none⟩) (k+1) c9):=⟨_,rfl⟩
    rw [←hVa]
    have hoa:Only (fun g=>g=gb∨blockOf nA=some g) V Va:=by rw [hVa];exact HSS9.out.setCell (.inl (.inl rfl)) _
    have HBXa:Hid (Holds Va gb 70 #[.string s,.int .i64 (dn:Int),.slice (some ⟨g9,0,none⟩) (k+1) c9]):=Lib.hid (by
     have:=HBX9.out.stored 2 (.slice (some ⟨g9,0,none⟩) (k+1) c9)
     rw [←hVa] at this
     exact this)
    have HOa:Hid (Own .i64 3 Va (gb+1) (some ⟨g9,0,none⟩) c9 (p.fr.take (k+1))):=Lib.hid (by rw [hVa];exact HO9.out.aside (p:=⟨gb,2,none⟩) (fun e=>by have:=(HO9.out.block e).1;dsimp only at this;omega) _)
    have HPa:Hid (PlSt O w0 gp (fun g=>g=gb∨blockOf (some ⟨g9,0,none⟩:Option Addr)=some g) (p.mid us d k) ns (some ⟨fb,fo,none⟩) fc wA wc l Va):=Lib.hid (HPT.out.st.other hoa fun g hg=>by
     rcases hg with rfl | hg
     ·exact ⟨.inl (.inl rfl),HBXa.out.lt⟩
     ·have e:g9=g:=by simpa [blockOf] using hg
      subst e
      exact ⟨HAT.out.imp (fun e=>.inr e) id,(HOa.out.block rfl).2⟩)
    have HVaz:=Lib.hid hoa.size
    have HSa:Hid (Va.cell? ⟨gp,160,none⟩=some (.slice (some ⟨fb,fo,none⟩) fn fc)∧Va.cell? ⟨fb,fo,none⟩=some (.int .i64 (x:Int))):=Lib.hid (HS9.out Va hoa)
    clear hVa hoa hHeld HBX9 HO9 HSS9 HBX8 HO8 HH8 HB8 HZ8 HBX HPT HS9 HFA HFX HAT HTL HTK HFB
    obtain ⟨db,do_,rfl,hdb,_⟩:=(HDR.out w0 (Only.refl _ _)).2.2 (by have:=HDN.out;omega)
    have hdl:=(HDR.out w0 (Only.refl _ _)).1
    have hdc:=(HDR.out w0 (Only.refl _ _)).2.1
    obtain ⟨m,hm⟩:∃ m,m=min (dn - 64*k) 64:=⟨_,rfl⟩
    have hmm:min (64*(k:Int)+64) (dn:Int)=64*(k:Int)+(m:Int):=by omega
    have hm64:m≤64:=by omega
    have hm0:0<m:=by omega
    have hdcl:dn≤dc:=by have:=HDN.out;omega
    have hlo:(64*(k:Int))≤64*(k:Int)+(m:Int):=by omega
    have hhi:64*(k:Int)+(m:Int)≤(dc:Int):=by omega
    obtain ⟨q0,q1⟩:=HSa.out
    have ht1:(64*(k:Int)).toNat=64*k:=by omega
    have ht2:(64*(k:Int)+(m:Int)).toNat=64*k+m:=by omega
    have hne2:¬ (dc=64*k):=by omega
    have HM:Hid (((d.drop (64*k)).take 64).length=m):=Lib.hid (by rw [List.length_take,List.length_drop,←HDN.out,hm];omega)
    clear hm
    have HPd:=Lib.hid HPa.out.drew
    have HRK:Hid (Rd .u8 Va.drew Va.drew.heap.size (some ⟨db,do_+64*k,none⟩) (dc - 64*k) ((d.drop (64*k)).take 64)):=Lib.hid (((HDR.out _ HPd.out.only).part (64*k) 64 (by have:=HDN.out;omega)).more (by show B≤Va.heap.size;have:=HVaz.out;have:=HVZ.out;omega))
    have HWNE:Hid (blockOf wA≠some gp):=Lib.hid fun e=>(HPd.out.wnew gp e).2.1 rfl
    have HLW:Hid (l.length≤8000):=Lib.hid (by
     have h1:=congrArg List.length HPd.out.ws
     rw [wv_length] at h1
     rw [h1]
     show (p.ws ++ putWs p.fr d k).length≤8000
     rw [List.length_append]
     have:=HWS.out
     simp [putWs]
     omega)
    have HGBA:Hid (gb<Va.heap.size∧gb≠gp∧blockOf wA≠some gb):=Lib.hid ⟨HBXa.out.lt,fun e=>HGP.out (.inl e.symm),fun e=>(HPa.out.wnew gb e).2.2 (.inl rfl)⟩
    have HG9A:Hid (g9<Va.heap.size∧g9≠gp∧blockOf wA≠some g9):=Lib.hid ⟨(HOa.out.block rfl).2,fun e=>by have:=(HPa.out.gg g9 (.inr rfl)).1;omega,fun e=>(HPa.out.wnew g9 e).2.2 (.inr rfl)⟩
    have q0:Va.drew.cell? ⟨gp,160,none⟩=some (.slice (some ⟨fb,fo,none⟩) fn fc):=q0
    have q1:Va.drew.cell? ⟨fb,fo,none⟩=some (.int .i64 (x:Int)):=q1
    go_wp2_with fail
    refine wp_region_noPanic ?_
    refine wp_region_held_drew (S:=fun _=>True) (by kernel_rfl) trivial (fun hHeld=>?_)
    refine wpAnyH_take (i:=0) (oi:={ dst:=some 38,op:=Op.move (Operand.tmp 0),type:=180,pos:=_,after:=_,guard:=none }) (v:=?_) rfl (by kernel_rfl) (by kernel_rfl) (by kernel_rfl) (fun _ _ _ h=>h) (Or.inl ⟨by rfl,?_⟩) hHeld ?_
    rotate_left 1
    ·(intro W hW;(try dsimp only at hW);go_simp;try with_reducible rfl)
    try simp only [Act.put,List.setIfInBounds_toArray,List.set_cons_zero,List.set_cons_succ]
    refine wpAnyH_take (i:=1) (oi:={ dst:=some 39,op:=Op.move (Operand.tmp 0),type:=180,pos:=_,after:=_,guard:=none }) (v:=?_) rfl (by kernel_rfl) (by kernel_rfl) (by kernel_rfl) (fun _ _ _ h=>h) (Or.inl ⟨by rfl,?_⟩) hHeld ?_
    rotate_left 1
    ·(intro W hW;(try dsimp only at hW);go_simp;try with_reducible rfl)
    try simp only [Act.put,List.setIfInBounds_toArray,List.set_cons_zero,List.set_cons_succ]
    refine wpAnyH_take (i:=2) (oi:={ dst:=some 40,op:=Op.nilCheck (Operand.tmp 39),type:=0,pos:=_,after:=_,guard:=none }) (v:=?_) rfl (by kernel_rfl) (by kernel_rfl) (by kernel_rfl) (fun _ _ _ h=>h) (Or.inl ⟨by rfl,?_⟩) hHeld ?_
    rotate_left 1
    ·(intro W hW;(try dsimp only at hW);go_simp;try with_reducible rfl)
    try simp only [Act.put,List.setIfInBounds_toArray,List.set_cons_zero,List.set_cons_succ]
    refine wpAnyH_take (i:=3) (oi:={ dst:=some 41,op:=Op.fieldAddr 99 (Operand.tmp 40) 2,type:=0,pos:=_,after:=_,guard:=none }) (v:=?_) rfl (by kernel_rfl) (by kernel_rfl) (by kernel_rfl) (fun _ _ _ h=>h) (Or.inl ⟨by rfl,?_⟩) hHeld ?_
    rotate_left 1
    ·(intro W hW;(try dsimp only at hW);go_simp;try with_reducible rfl)
    try simp only [Act.put,List.setIfInBounds_toArray,List.set_cons_zero,List.set_cons_succ]
    refine wpAnyH_take (i:=7) (oi:={ dst:=some 45,op:=Op.move (Operand.tmp 3),type:=44,pos:=_,after:=_,guard:=none }) (v:=?_) rfl (by kernel_rfl) (by kernel_rfl) (by kernel_rfl) (fun _ _ _ h=>h) (Or.inl ⟨by rfl,?_⟩) hHeld ?_
    rotate_left 1
    ·(intro W hW;(try dsimp only at hW);go_simp;try with_reducible rfl)
    try simp only [Act.put,List.setIfInBounds_toArray,List.set_cons_zero,List.set_cons_succ]
    refine wpAnyH_take (i:=8) (oi:={ dst:=some 46,op:=Op.move (Operand.tmp 10),type:=3,pos:=_,after:=_,guard:=none }) (v:=?_) rfl (by kernel_rfl) (by kernel_rfl) (by kernel_rfl) (fun _ _ _ h=>h) (Or.inl ⟨by rfl,?_⟩) hHeld ?_
    rotate_left 1
    ·(intro W hW;(try dsimp only at hW);go_simp;try with_reducible rfl)
    try simp only [Act.put,List.setIfInBounds_toArray,List.set_cons_zero,List.set_cons_succ]
    refine wpAnyH_take (i:=9) (oi:={ dst:=some 47,op:=Op.move (Operand.tmp 10),type:=3,pos:=_,after:=_,guard:=none }) (v:=?_) rfl (by kernel_rfl) (by kernel_rfl) (by kernel_rfl) (fun _ _ _ h=>h) (Or.inl ⟨by rfl,?_⟩) hHeld ?_
    rotate_left 1
    ·(intro W hW;(try dsimp only at hW);go_simp;try with_reducible rfl)
    try simp only [Act.put,List.setIfInBounds_toArray,List.set_cons_zero,List.set_cons_succ]
    refine wpAnyH_take (i:=10) (oi:={ dst:=some 48,op:=Op.binOp BinOp.add 3 (Operand.tmp 47) (Operand.const (Value.int IntKind.i64 64)) 3,type:=3,pos:=_,after:=_,guard:=none }) (v:=?_) rfl (by kernel_rfl) (by kernel_rfl) (by kernel_rfl) (fun _ _ _ h=>h) (Or.inl ⟨by rfl,?_⟩) hHeld ?_
    rotate_left 1
    ·(intro W hW;(try dsimp only at hW);go_simp;try with_reducible rfl)
    try simp only [Act.put,List.setIfInBounds_toArray,List.set_cons_zero,List.set_cons_succ]
    refine wpAnyH_take (i:=11) (oi:={ dst:=some 49,op:=Op.move (Operand.tmp 3),type:=44,pos:=_,after:=_,guard:=none }) (v:=?_) rfl (by kernel_rfl) (by kernel_rfl) (by kernel_rfl) (fun _ _ _ h=>h) (Or.inl ⟨by rfl,?_⟩) hHeld ?_
    rotate_left 1
    ·(intro W hW;(try dsimp only at hW);go_simp;try with_reducible rfl)
    try simp only [Act.put,List.setIfInBounds_toArray,List.set_cons_zero,List.set_cons_succ]
    refine wpAnyH_take (i:=12) (oi:={ dst:=some 50,op:=Op.call { callee:=Callee.builtin Builtin.len,args:=#[Operand.tmp 49],argTypes:=#[44] },type:=3,pos:=_,after:=_,guard:=none }) (v:=?_) rfl (by kernel_rfl) (by kernel_rfl) (by kernel_rfl) (fun _ _ _ h=>h) (Or.inl ⟨by rfl,?_⟩) hHeld ?_
    rotate_left 1
    ·(intro W hW;(try dsimp only at hW);go_simp;try with_reducible rfl)
    try simp only [Act.put,List.setIfInBounds_toArray,List.set_cons_zero,List.set_cons_succ]
    refine wpAnyH_take (i:=13) (oi:={ dst:=some 51,op:=Op.call { callee:=Callee.builtin Builtin.min,args:=#[Operand.tmp 48,Operand.tmp 50],argTypes:=#[3,3] },type:=3,pos:=_,after:=_,guard:=none }) (v:=?_) rfl (by kernel_rfl) (by kernel_rfl) (by kernel_rfl) (fun _ _ _ h=>h) (Or.inl ⟨by rfl,?_⟩) hHeld ?_
    rotate_left 1
    ·(intro W hW;(try dsimp only at hW);go_simp;try with_reducible rfl)
    try simp only [Act.put,List.setIfInBounds_toArray,List.set_cons_zero,List.set_cons_succ]
    refine wpAnyH_take (i:=14) (oi:={ dst:=some 52,op:=Op.slice 44 (Operand.tmp 45) (some (Operand.tmp 46)) (some (Operand.tmp 51)) none,type:=44,pos:=_,after:=_,guard:=none }) (v:=?_) rfl (by kernel_rfl) (by kernel_rfl) (by kernel_rfl) (fun _ _ _ h=>h) (Or.inl ⟨by rfl,?_⟩) hHeld ?_
    rotate_left 1
    ·(intro W hW;(try dsimp only at hW);go_simp;try with_reducible rfl)
    try simp only [Act.put,List.setIfInBounds_toArray,List.set_cons_zero,List.set_cons_succ]
    refine wpAnyH_ready (rs:=[4]) (by kernel_rfl) (by simp) ?_
    refine AllReadyH.cons (o:={ dst:=some 42,op:=Op.load 59 (Operand.tmp 41),type:=59,pos:=_,after:=_,guard:=none }) rfl (fun K hK=>?_) AllReadyH.nil
    go_simp
    refine hK.out _ _ trivial (fun hHeld=>?_)
    clear hK K
    try simp only [Act.put,List.setIfInBounds_toArray,List.set_cons_zero,List.set_cons_succ]
    refine wpAnyH_take (i:=5) (oi:={ dst:=some 43,op:=Op.indexAddr 59 (Operand.tmp 42) (Operand.const (Value.int IntKind.i64 0)),type:=0,pos:=_,after:=_,guard:=none }) (v:=?_) rfl (by kernel_rfl) (by kernel_rfl) (by kernel_rfl) (fun _ _ _ h=>h) (Or.inl ⟨by rfl,?_⟩) hHeld ?_
    rotate_left 1
    ·(intro W hW;(try dsimp only at hW);go_simp;try with_reducible rfl)
    try simp only [Act.put,List.setIfInBounds_toArray,List.set_cons_zero,List.set_cons_succ]
    refine wpAnyH_ready (rs:=[6]) (by kernel_rfl) (by simp) ?_
    refine AllReadyH.cons (o:={ dst:=some 44,op:=Op.load 3 (Operand.tmp 43),type:=3,pos:=_,after:=_,guard:=none }) rfl (fun K hK=>?_) AllReadyH.nil
    go_simp
    refine hK.out _ _ trivial (fun hHeld=>?_)
    clear hK K
    try simp only [Act.put,List.setIfInBounds_toArray,List.set_cons_zero,List.set_cons_succ]
    refine wpAnyH_ready (rs:=[15]) (by kernel_rfl) (by simp) ?_
    refine AllReadyH.cons (o:={ dst:=some 53,op:=Op.call { callee:=Callee.value (Operand.func 87),args:=#[Operand.tmp 38,Operand.tmp 44,Operand.tmp 52],argTypes:=#[180,3,44] },type:=0,pos:=_,after:=_,guard:=none }) rfl (fun K hK=>?_) AllReadyH.nil
    go_simp
    refine (write_any HPd.out.at_ l rfl HPd.out.own HWNE.out HLW.out (x:Int) (some ⟨db,do_+64*k,none⟩) (dc - 64*k) m _ HM.out hm64 hm0 HRK.out).mono ?_
    rintro e V5 hw5
    obtain ⟨rfl,g5,c5,x5,hst5,hkp5⟩:=HPd.out.wrote hw5
    have HST5:=Lib.hid hst5
    have HKP5:=Lib.hid hkp5
    clear hw5 hst5 hkp5
    go_simp
    refine hK.out _ _ trivial (fun hHeld=>?_)
    clear hK K
    try simp only [Act.put,List.setIfInBounds_toArray,List.set_cons_zero,List.set_cons_succ]
    refine wpAnyH_done (by kernel_rfl) ?_ _
    refine NoPanic.normal ?_
    obtain ⟨A',hA'⟩:∃ A',A'=(if fc=1 then (some ⟨fb,fo,none⟩:Option Addr) else some ⟨fb,fo+1,none⟩):=⟨_,rfl⟩
    have q5:V5.cell? ⟨gp,160,none⟩=some (.slice (some ⟨fb,fo,none⟩) fn fc):=by
     rw [HFN2.out,←(List.length_drop:(p.fr.drop k).length=p.fr.length - k)]
     exact HST5.out.at_.free
    have f5:V5.frozen? ⟨gp,160,none⟩=false:=HST5.out.at_.hd.open_ _
    have HFC:Hid (p.fr.length - k≤fc):=Lib.hid (by rw [←(List.length_drop:(p.fr.drop k).length=p.fr.length - k)];exact HST5.out.fr.1.1)
    have hfc1:1≤fc:=by have:=HFN2.out;have:=HFC.out;omega
    have hfcI:(1:Int)≤(fc:Int):=by omega
    have hfnI:(1:Int)≤(fn:Int):=by omega
    have hfn1:1≤fn:=by omega
    have hfnc:fn≤fc:=by have:=HFN2.out;have:=HFC.out;omega
    have hfncI:(fn:Int)≤(fc:Int):=by omega
    go_wp2_with (first | (rw [←hA']) | fail)
    have hk5b:=HKP5.out gb HGBA.out.1 HGBA.out.2.1 HGBA.out.2.2
    have hk59:=HKP5.out g9 HG9A.out.1 HG9A.out.2.1 HG9A.out.2.2
    refine ⟨⟨k+1,some ⟨g9,0,none⟩,c9,A',fc - 1,some ⟨g5,0,none⟩,c5,l ++ [x5],by rw [←HND.out];omega,by rw [show (64*(k:Int)+64)=64*((k+1:Nat):Int) by omega],?_,?_,?_⟩,by simp [intOf];omega⟩
    ·rw [Pln.mid_succ,←HXX.out]
     refine HST5.out.freed (by show fn - 1=(p.fr.drop k).length - 1;rw [List.length_drop,HFN2.out]) ?_ (by rw [hA'];split <;> rfl)
     rw [hA']
     split
     ·rename_i h1
      have hl1:((p.fr.drop k).drop 1).length=0:=by rw [List.length_drop,List.length_drop];have:=HFC.out;omega
      exact ⟨by show ((p.fr.drop k).drop 1).length≤_;omega,by omega,fun hn=>by have hn:0<((p.fr.drop k).drop 1).length:=hn;omega⟩
     ·exact HST5.out.fr.1.tailP (by show 0<(p.fr.drop k).length;rw [List.length_drop];have:=HFN2.out;omega)
    ·rw [←HDN.out]
     exact ((show Holds V5 gb _ _ from hk5b.1.trans HBXa.out)).aside (p:=⟨gp,160,none⟩) HGBA.out.2.1 _
    ·exact ((HOa.out.keepB fun g hg _=>by
      have e:g9=g:=by simpa [blockOf] using hg
      rw [←e]
      exact hk59.1)).aside (p:=⟨gp,160,none⟩) (fun e=>HG9A.out.2.1 (by simpa [blockOf] using e)) _
   case neg =>
    obtain rfl:k=nd:=by omega
    have hkI:¬ (64*(k:Int)<(dn:Int)):=by omega
    have HBX:Hid (Holds V gb 70 #[.string s,.int .i64 (dn:Int),.slice nA k nc]):=Lib.hid (by rw [HDN.out];exact HPT.out.box)
    have HGP:Hid (gp≠gb):=Lib.hid fun e=>by have:=(HPT.out.st.gg gp (.inl e)).1;omega
    have HVZ:Hid (gp<V.heap.size):=Lib.hid (by omega)
    have hi3:(0:Int)≤(i:Int)∧(i:Int)<40:=by omega
    have hiI:(i:Int)<40:=by omega
    have hi00:(0:Int)≤(i:Int):=by omega
    go_wp2_with fail
    have HTHR:Hid (V.drew.there gp (i*3) 3):=Lib.hid fun j hj=>by
     have hh:Holds V.drew gp 99 _:=HPT.out.st.at_.hd
     refine ⟨?_,hh.open_ _⟩
     rw [hh.cell]
     have hl:=HPT.out.st.at_.ncsl
     unfold pcs
     simp
     omega
    refine wp_region_noPanic ?_
    refine wp_region_held_drew (S:=fun W=>Holds W gb 70 #[.string s,.int .i64 (dn:Int),.slice nA k nc]) (by kernel_rfl) ((show Holds V.drew _ _ _ from HBX.out)) (fun hHeld=>?_)
    refine wpAnyH_take (i:=0) (oi:={ dst:=some 62,op:=Op.move (Operand.tmp 0),type:=180,pos:=_,after:=_,guard:=none }) (v:=?_) rfl (by kernel_rfl) (by kernel_rfl) (by kernel_rfl) (fun _ _ _ h=>h) (Or.inl ⟨by rfl,?_⟩) hHeld ?_
    rotate_left 1
    ·(intro W hW;(try dsimp only at hW);go_simp;try with_reducible rfl)
    try simp only [Act.put,List.setIfInBounds_toArray,List.set_cons_zero,List.set_cons_succ]
    refine wpAnyH_take (i:=1) (oi:={ dst:=some 63,op:=Op.move (Operand.tmp 1),type:=3,pos:=_,after:=_,guard:=none }) (v:=?_) rfl (by kernel_rfl) (by kernel_rfl) (by kernel_rfl) (fun _ _ _ h=>h) (Or.inl ⟨by rfl,?_⟩) hHeld ?_
    rotate_left 1
    ·(intro W hW;(try dsimp only at hW);go_simp;try with_reducible rfl)
    try simp only [Act.put,List.setIfInBounds_toArray,List.set_cons_zero,List.set_cons_succ]
    refine wpAnyH_take (i:=2) (oi:={ dst:=some 64,op:=Op.load 70 (Operand.tmp 9),type:=70,pos:=_,after:=_,guard:=none }) (v:=?_) rfl (by kernel_rfl) (by kernel_rfl) (by kernel_rfl) (fun _ _ _ h=>h) (Or.inl ⟨by rfl,?_⟩) hHeld ?_
    rotate_left 1
    ·(intro W hW;have k0:=hW.cell 0;have k1:=hW.cell 1;have k2:=hW.cell 2;(try dsimp only at hW);go_simp;try with_reducible rfl)
    try simp only [Act.put,List.setIfInBounds_toArray,List.set_cons_zero,List.set_cons_succ]
    refine wpAnyH_take (i:=3) (oi:={ dst:=some 65,op:=Op.nilCheck (Operand.tmp 62),type:=0,pos:=_,after:=_,guard:=none }) (v:=?_) rfl (by kernel_rfl) (by kernel_rfl) (by kernel_rfl) (fun _ _ _ h=>h) (Or.inl ⟨by rfl,?_⟩) hHeld ?_
    rotate_left 1
    ·(intro W hW;(try dsimp only at hW);go_simp;try with_reducible rfl)
    try simp only [Act.put,List.setIfInBounds_toArray,List.set_cons_zero,List.set_cons_succ]
    refine wpAnyH_take (i:=4) (oi:={ dst:=some 66,op:=Op.fieldAddr 99 (Operand.tmp 65) 0,type:=0,pos:=_,after:=_,guard:=none }) (v:=?_) rfl (by kernel_rfl) (by kernel_rfl) (by kernel_rfl) (fun _ _ _ h=>h) (Or.inl ⟨by rfl,?_⟩) hHeld ?_
    rotate_left 1
    ·(intro W hW;(try dsimp only at hW);go_simp;try with_reducible rfl)
    try simp only [Act.put,List.setIfInBounds_toArray,List.set_cons_zero,List.set_cons_succ]
    refine wpAnyH_take (i:=5) (oi:={ dst:=some 67,op:=Op.indexAddr 71 (Operand.tmp 66) (Operand.tmp 63),type:=0,pos:=_,after:=_,guard:=none }) (v:=?_) rfl (by kernel_rfl) (by kernel_rfl) (by kernel_rfl) (fun _ _ _ h=>h) (Or.inl ⟨by rfl,?_⟩) hHeld ?_
    rotate_left 1
    ·(intro W hW;(try dsimp only at hW);go_simp;try with_reducible rfl)
    try simp only [Act.put,List.setIfInBounds_toArray,List.set_cons_zero,List.set_cons_succ]
    refine wpAnyH_ready (rs:=[6]) (by kernel_rfl) (by simp) ?_
    refine AllReadyH.cons (o:={ dst:=none,op:=Op.store 70 (Operand.tmp 67) (Operand.tmp 64),type:=0,pos:=_,after:=_,guard:=none }) rfl (fun K hK=>?_) AllReadyH.nil
    rw [if_pos (by rfl)]
    refine wp_store_mid (P:=Tryz.prog) _ _ _ rfl gp (i*3) #[.string s,.int .i64 (dn:Int),.slice nA k nc] rfl rfl HTHR.out size_node (all_oneCell_toArray (by intro u hu;simp at hu;rcases hu with rfl | rfl | rfl <;> rfl)) ?_
    generalize hV5:World.setCells _ _ _ _=V5
    have HV5:Hid (V5=V.drew.setCells gp (i*3) [.string s,.int .i64 (dn:Int),.slice nA k nc]):=Lib.hid hV5.symm
    clear hV5
    have HS5:Hid (Holds V5 gb 70 #[.string s,.int .i64 (dn:Int),.slice nA k nc]):=Lib.hid (by rw [HV5.out];exact (setCells_aside (Ne.symm HGP.out) _ _ _).trans HBX.out)
    refine hK.out _ _ (HS5.out) (fun _=>?_)
    clear hK K hHeld
    try simp only [Act.put,List.setIfInBounds_toArray,List.set_cons_zero,List.set_cons_succ]
    have hHeld:(fun W=>Holds W gb 70 #[.string s,.int .i64 (dn:Int),.slice nA k nc]) V5:=HS5.out
    refine wpAnyH_done (by kernel_rfl) ?_ _
    refine NoPanic.normal ?_
    clear hHeld
    have HOW:Hid (Rd .i64 V.drew V.drew.heap.size nA nc (p.fr.take k)):=Lib.hid HPT.out.own.rd
    have HPK:Hid (placesI p.fr k=(p.fr.take k).map fun x:Nat=>(x:Int)):=Lib.hid rfl
    have HPL:Hid ((placesI p.fr k).length=k):=Lib.hid (placesI_len hfl)
    have HNG:Hid (∀ g,blockOf nA=some g→g≠gp∧blockOf wA≠some g):=Lib.hid fun g hg=>⟨fun e=>by have:=(HPT.out.st.gg g (.inr hg)).1;omega,fun e=>(HPT.out.st.wnew g e).2.2 (.inr hg)⟩
    have HOK:Hid (NodeOk s (d.length:Int) (placesI p.fr k)):=Lib.hid (by rw [HND.out];exact node_ok HS.out (by rw [←HDN.out];exact hd6) (by rw [←HND.out];exact hfl) HFM.out HFN.out)
    have HST5:Hid (PlSt O w0 gp (fun _=>False) { p.mid us d k with nv:=updV p.nv i (s,(d.length:Int),placesI p.fr k) } (ns.set i ⟨s,(dn:Int),nA,nc,placesI p.fr k⟩) fA fc wA wc l V5):=Lib.hid (by
     have h5:=HPT.out.st.drew.node (G':=fun _=>False) hi (d:=⟨s,(dn:Int),nA,nc,placesI p.fr k⟩) (RdI.of_rd HOW.out) (fun _ g hg=>HNG.out g hg) (fun _ h=>h.elim) (fun _ _ _ h=>h) (fun _ g hg=>(HPT.out.st.gg g (.inr hg)).1)
     have e1:ncell ⟨s,(dn:Int),nA,nc,placesI p.fr k⟩=[.string s,.int .i64 (dn:Int),.slice nA k nc]:=by unfold ncell;dsimp only;rw [HPL.out]
     rw [e1,←HV5.out] at h5
     rw [←HDN.out]
     exact h5)
    have HR5:Hid (Rd .i64 V5 V5.heap.size nA nc (p.fr.take k)):=Lib.hid (by
     have hz:V5.heap.size=V.drew.heap.size:=by rw [HV5.out];exact setCells_size _ _ _ _
     rw [hz]
     exact HOW.out.onB fun hn g hg hlt=>by rw [HV5.out];exact setCells_aside (HNG.out g hg).1 _ _ _)
    have HTL:Hid ((p.fr.take k).length=k):=Lib.hid (by rw [List.length_take];omega)
    have HBY:=Lib.hid (bytes_some V5 s dn V5.heap.size nA nc k (p.fr.take k) HTL.out HR5.out (Nat.le_refl _) (by rw [←HPK.out,HDN.out];exact HOK.out) (fun x hx=>HFM.out x (List.mem_of_mem_take hx)))
    have HLW:Hid (l.length≤8000):=Lib.hid (by
     have h1:=congrArg List.length HPT.out.st.ws
     rw [wv_length] at h1
     rw [h1]
     show (p.ws ++ putWs p.fr d k).length≤8000
     rw [List.length_append]
     have:=HWS.out
     simp [putWs]
     omega)
    have b0:=HS5.out.cell 0
    have b1:=HS5.out.cell 1
    have b2:=HS5.out.cell 2
    clear HPT HTHR HOW HBX
    go_wp2_with fail
    refine HBY.out.mono ?_
    rintro e V6 ⟨g6,rfl,hg6,hrow6,hb6⟩
    have HST6:=Lib.hid (HST5.out.other (G':=fun _=>False) (Only.of_below hb6) (fun _ h=>h.elim))
    have HW6:=Lib.hid (write_any HST6.out.at_ l rfl HST6.out.own (fun e=>(HST6.out.wnew gp e).2.1 rfl) HLW.out (i:Int) (some ⟨g6,0,none⟩) 64 64 (enc s dn (p.fr.take k)) (enc_length _ _ _) (by omega) (by omega) (Row.rd64 hrow6 (enc_length _ _ _)))
    clear hrow6 hb6 hg6
    go_wp2_with fail
    refine HW6.out.mono ?_
    rintro e V7 hw7
    obtain ⟨rfl,g7,c7,x7,hst7,_⟩:=HST6.out.wrote hw7
    have HST7:=Lib.hid hst7
    clear hw7 hst7
    go_wp2_with fail
    go_ret
    have hst8:=HST7.out
    rw [secOf_64 (enc_length _ _ _)] at hst8
    have hq:p.put none s d=some (p.into i us s d):=HUS.out
    rw [hq]
    refine ⟨rfl,ns.set i ⟨s,(dn:Int),nA,nc,placesI p.fr k⟩,fA,fc,some ⟨g7,0,none⟩,c7,l ++ [x7],?_⟩
    rw [←Pln.mid_into,←HND.out,←HDN.out]
    rw [←HDN.out] at hst8
    exact hst8
end
end Go.Proofs.YtnedpkhehiijhaaGreat
