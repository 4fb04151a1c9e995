/- Words and laws for the statement, part 4. -/
import Derived.Deep.RegionHeld3
import Derived.Test.YtcibjcgipfpniaaGreatDoorN02
namespace Go.Proofs.YtcibjcgipfpniaaGreatDoor
open Go.RowKit
set_option linter.unusedVariables false
set_option linter.unusedSimpArgs false

mutual
/-- A thing's bytes. -/
def Tr.enc:Tr→List Nat
 | .mk tag body kids=>tag :: (lenB (body.length+(Tr.encs kids).length) ++ (body ++ Tr.encs kids))
def Tr.encs:List Tr→List Nat
 | []=>[]
 | x :: r=>x.enc ++ Tr.encs r
end
theorem Tr.encs_append:∀ (a b:List Tr),Tr.encs (a ++ b)=Tr.encs a ++ Tr.encs b
 | [],b=>by simp [Tr.encs]
 | x :: r,b=>by rw [List.cons_append,Tr.encs,Tr.encs,Tr.encs_append r b,List.append_assoc]
theorem Tr.encs_more {l:List Tr} {k:Nat} (h:k<l.length):Tr.encs (l.take (k+1))=Tr.encs (l.take k) ++ (l.getD k default).enc:=by
 rw [take_more l h,Tr.encs_append]
 simp [Tr.encs]
theorem Tr.encs_le (l:List Tr) (k:Nat):(Tr.encs (l.take k)).length≤(Tr.encs l).length:=by
 have:=congrArg List.length (Tr.encs_append (l.take k) (l.drop k))
 rw [List.take_append_drop,List.length_append] at this
 omega
theorem Tr.enc_kid {l:List Tr} {k:Nat} (h:k<l.length):(l.getD k default).enc.length≤(Tr.encs l).length:=by
 have h1:=congrArg List.length (Tr.encs_more h)
 have h2:=Tr.encs_le l (k+1)
 rw [List.length_append] at h1
 omega
theorem enc_oct:∀ (N:Nat) (t:Lt) (w:World) (B:Nat),t.sz<N→TrAt w B t→∀ x∈t.t.enc,x<256:=by
 intro N
 induction N with
 | zero=>intro t w B h;omega
 | succ N ih =>
  intro t w B hN hr x hx
  obtain ⟨tag,ba,bc,body,ka,kc,kids⟩:=t
  rw [trAt_mk] at hr
  obtain ⟨ht,_,hb,_,hk⟩:=hr
  rw [Lt.t_mk,Tr.enc] at hx
  rcases List.mem_cons.1 hx with rfl | hx
  ·exact ht
  ·rcases List.mem_append.1 hx with hx | hx
   ·exact lenB_oct _ x hx
   ·rcases List.mem_append.1 hx with hx | hx
    ·exact hb x hx
    ·have key:∀ k,k≤kids.length→∀ y∈Tr.encs ((kids.map Lt.t).take k),y<256:=by
      intro k
      induction k with
      | zero=>intro _ y hy;simp [Tr.encs] at hy
      | succ k ihk =>
       intro hk2 y hy
       rw [Tr.encs_more (by rw [List.length_map];omega)] at hy
       rcases List.mem_append.1 hy with hy | hy
       ·exact ihk (by omega) y hy
       ·rw [Lt.ts_at (by omega)] at hy
        have:=lt_kid (tag:=tag) (ba:=ba) (bc:=bc) (body:=body) (ka:=ka) (kc:=kc) (kids:=kids) (j:=k) (by omega)
        exact ih _ w B (by omega) (hk k (by omega)) y hy
     have:=key kids.length (Nat.le_refl _)
     rw [List.take_of_length_le (by rw [List.length_map];exact Nat.le_refl _)] at this
     exact this x hx

theorem Mine.less {e:TypeId} {w:World} {B B':Nat} {A:Option Addr} {c:Nat} {l:List Nat} (h:Mine e w B A c l) (hB:B'≤B):Mine e w B' A c l:=by
 rcases h with h | ⟨g,off,cur,e1,hBg,rest⟩
 ·exact .inl h
 ·exact .inr ⟨g,off,cur,e1,by omega,rest⟩
theorem Mine.fresh0 (w:World) (B:Nat) (hB:B≤w.heap.size):Mine 5 (w.alloc (.cells #[] 5)) B (some ⟨w.heap.size,0,none⟩) 0 [] :=
 .inr ⟨w.heap.size,0,#[],rfl,hB,Holds.fresh w _ _,Nat.le_refl _,by omega,by simp,fun j hj=>by simp at hj⟩

def RelE (w:World) (cs:Array Value) (body:List Nat) (l:List Tr) (n:Nat) (v i:Value) (wr:World):Prop :=
 ∃ (k:Nat) (A':Option Addr) (c' m:Nat),k≤n∧i = .int .i64 k∧v = .slice A' m c'∧Hid ((body ++ Tr.encs (l.take k)).length=m)∧Hid (Mine 5 wr (w.heap.size+1) A' c' (body ++ Tr.encs (l.take k)))∧Hid (Below w.heap.size w wr)∧Hid (Holds wr w.heap.size 32 cs)
theorem below_mine {V W:World} {A:Option Addr} {c:Nat} {l:List Nat} {e:TypeId} {B:Nat} (hM:Mine e V (B+1) A c l) (hg:V.grownBy W (blk_of A)) (hB:B≤V.heap.size):Below B V W:=below_blk hg hB (fun g hg=>by have:=(hM.block hg).1;omega)
theorem holds_mine {V W:World} {A:Option Addr} {c:Nat} {l:List Nat} {e t:TypeId} {B:Nat} {cs:Array Value} (h:Holds V B t cs) (hM:Mine e V (B+1) A c l) (hg:V.grownBy W (blk_of A)):Holds W B t cs :=
 h.grown hg (fun e=>by have:=(hM.block e.symm).1;omega)
set_option maxRecDepth 100000 in
set_option maxHeartbeats 4000000 in
theorem laid_N:∀ (N:Nat) (t:Lt) (w:World) (B:Nat),t.sz<N→TrAt w B t→B≤w.heap.size→t.t.enc.length≤400000 →
  Calls Tryz.prog 79 #[t.val] w fun e w'=>∃ A c,e = .returned (.slice A t.t.enc.length c)∧Mine 5 w' w.heap.size A c t.t.enc∧Below w.heap.size w w':=by
 intro N
 induction N with
 | zero=>intro t w B h;omega
 | succ N ih =>
  intro t w B hN hr hB hmx
  obtain ⟨tag,ba,bc,body,ka,kc,kids⟩:=t
  rw [trAt_mk] at hr
  obtain ⟨_,hbody,_,hrow,hkids⟩:=hr
  rw [Lt.t_mk] at hmx ⊢
  obtain ⟨n,hn⟩:∃ n,kids.length=n:=⟨_,rfl⟩
  obtain ⟨bl,hbl⟩:∃ n,body.length=n:=⟨_,rfl⟩
  obtain ⟨L,hL⟩:∃ L,kids.map Lt.t=L:=⟨_,rfl⟩
  have hLn:L.length=n:=by rw [←hL,List.length_map,hn]
  rw [hL] at hmx ⊢
  have hmx2:bl+(Tr.encs L).length≤400000:=by
   rw [Tr.enc] at hmx
   simp only [List.length_cons,List.length_append] at hmx
   omega
  have HENC:Hid ((Tr.mk tag body L).enc=[tag] ++ lenB (bl+(Tr.encs L).length) ++ (body ++ Tr.encs L)):=Lib.hid (by rw [Tr.enc,hbl];simp)
  have HMX:=Lib.hid hmx2
  have HLN:=Lib.hid hLn
  have hlc:n≤kc:=by have:=hrow.1;omega
  have hc63:=hrow.2.1
  have hblc:bl≤bc:=by have:=hbody.1;omega
  have hbc63:=hbody.2.1
  have HROW:Hid (∀ W,Below w.heap.size w W→RowT W B ka kc kids):=Lib.hid fun W hW=>hrow.under (hW.mono hB)
  have HIH:Hid (∀ k,k<n→∀ W,Below w.heap.size w W→Calls Tryz.prog 79 #[(kids.getD k default).val] W fun e w'=>∃ A c,e = .returned (.slice A (L.getD k default).enc.length c)∧Rd .u8 w' w'.heap.size A c (L.getD k default).enc∧Below W.heap.size W w'):=Lib.hid fun k hk W hW=>by
   have e:(L.getD k default)=(kids.getD k default).t:=by rw [←hL,Lt.ts_at (by omega)]
   rw [e]
   refine (ih _ W B ?_ ((hkids k (by omega)).under' (hW.mono hB)) (by have:=hW.size;omega) ?_).mono fun _ _ ⟨A,c,h1,h2,h3⟩=>⟨A,c,h1,h2.rd,h3⟩
   ·have:=lt_kid (tag:=tag) (ba:=ba) (bc:=bc) (body:=body) (ka:=ka) (kc:=kc) (kids:=kids) (j:=k) (by omega)
    omega
   ·have h1:=Tr.enc_kid (l:=L) (k:=k) (by omega)
    rw [e] at h1
    omega
  have HN2:=Lib.hid hn
  have HBL:=Lib.hid hbl
  have hval:(Lt.mk tag ba bc body ka kc kids).val = .agg #[.int .u8 (tag:Int),.slice ba bl bc,.slice ka n kc]:=by rw [←hn,←hbl];rfl
  rw [hval]
  obtain ⟨W1,hW1⟩:∃ W1,(w.alloc (.cells #[.int .u8 (tag:Int),.slice ba bl bc,.slice ka n kc] 32))=W1:=⟨_,rfl⟩
  have hs1:W1.heap.size=w.heap.size+1:=by rw [←hW1];exact World.size_alloc _ _
  have hq1:Below w.heap.size w W1:=by rw [←hW1];exact (Below.refl _ _).alloc (Nat.le_refl _) _
  have hb1:Holds W1 w.heap.size 32 #[.int .u8 (tag:Int),.slice ba bl bc,.slice ka n kc]:=by rw [←hW1];exact Holds.fresh _ _ _
  have hM0:Hid (Mine 5 (W1.alloc (.cells #[] 5)) (w.heap.size+1) (some ⟨w.heap.size+1,0,none⟩) 0 []):=Lib.hid (by rw [←hs1];exact Mine.fresh0 W1 _ (Nat.le_refl _))
  have hQ0:Hid (Below w.heap.size w (W1.alloc (.cells #[] 5))):=Lib.hid (hq1.alloc hq1.size _)
  have hB0:Hid (Holds (W1.alloc (.cells #[] 5)) w.heap.size 32 #[.int .u8 (tag:Int),.slice ba bl bc,.slice ka n kc]):=Lib.hid (hb1.alloc _)
  have hR0:Hid (Rd .u8 (W1.alloc (.cells #[] 5)) B ba bc body):=Lib.hid (hbody.under (hQ0.out.mono hB))
  rw [←hW1] at hM0 hQ0 hB0 hR0
  have z1:((w.alloc (.cells #[.int .u8 (tag:Int),.slice ba bl bc,.slice ka n kc] 32)).alloc (.cells #[] 5)).cell? ⟨w.heap.size,1,none⟩=some (.slice ba bl bc):=hB0.out.cell 1
  have e1:(w.alloc (.cells #[.int .u8 (tag:Int),.slice ba bl bc,.slice ka n kc] 32)).heap.size=w.heap.size+1:=World.size_alloc _ _
  have hblm:bl≤400000:=by omega
  clear hN ih hrow hkids hmx hmx2 hLn hL hval hn hbl hbody hq1 hb1 hs1 hW1
  go_enter Tryz.func79,Tryz.ntmps79
  go_wp2_with (first | (at_builtin;refine wpList_mine (B:=w.heap.size+1) (l:=[]) _ rfl (.tmp 5) (.tmp 7) 24 rfl 5 Tryz.underlying24 info_u8 rfl hM0.out rfl rfl hR0.out HBL.out (by simp) (by omega) ?_;intro A5 c5 W5 hm5 hg5 hat5))
  rw [List.nil_append] at hm5
  have hQ5:Hid (Below w.heap.size w W5):=Lib.hid (hQ0.out.trans (below_mine hM0.out hg5 hQ0.out.size))
  have hB5:Hid (Holds W5 w.heap.size 32 #[.int .u8 (tag:Int),.slice ba bl bc,.slice ka n kc]):=Lib.hid (holds_mine hB0.out hM0.out hg5)
  have hM5:=Lib.hid hm5
  clear hm5 hg5 hat5 hM0 hQ0 hB0 hR0 z1 e1
  try rw [Nat.zero_add]
  go_loopw [3,4] (fun v i wr=>RelE w #[.int .u8 (tag:Int),.slice ba bl bc,.slice ka n kc] body L n v i wr) (fun v i _=>n - (intOf i).toNat)
  case atStart=>exact ⟨0,_,_,bl,Nat.zero_le _,rfl,rfl,Lib.hid (by simp [Tr.encs,HBL.out]),by simpa [Tr.encs] using hM5,hQ5,hB5⟩
  case round =>
   clear hM5 hQ5 hB5
   obtain ⟨k,A',c',m,hk,rfl,rfl,HL,HM,HQ,HB⟩:=hrel
   obtain ⟨V,hV⟩:∃ V,V=wr:=⟨_,rfl⟩
   subst hV
   have z2:V.cell? ⟨w.heap.size,2,none⟩=some (.slice ka n kc):=HB.out.cell 2
   have hmle:m≤400000:=by
    have h1:=HL.out
    have h2:=Tr.encs_le L k
    have:=HMX.out
    rw [List.length_append,HBL.out] at h1
    omega
   by_cases hkn:k<n
   case pos =>
    have hkI:(k:Int)<(n:Int):=by omega
    have hk0:(0:Int)≤(k:Int):=by omega
    obtain ⟨b,off,rfl,hb,hcs⟩:=(HROW.out V HQ.out).2.2 (by have:=HN2.out;omega)
    obtain ⟨q0,q1,q2⟩:=hcs k (by have:=HN2.out;omega)
    have HC:=Lib.hid (HIH.out k hkn V HQ.out)
    have HEM:Hid (body ++ Tr.encs (L.take (k+1))=body ++ Tr.encs (L.take k) ++ (L.getD k default).enc∧(L.getD k default).enc.length≤400000):=Lib.hid (by
     rw [Tr.encs_more (by have:=HLN.out;omega),List.append_assoc]
     have:=Tr.enc_kid (l:=L) (k:=k) (by have:=HLN.out;omega)
     have:=HMX.out
     exact ⟨rfl,by omega⟩)
    rw [show (kids.getD k default).val = .agg #[.int .u8 ((kids.getD k default).tag:Int),.slice (kids.getD k default).ba (kids.getD k default).body.length (kids.getD k default).bc,.slice (kids.getD k default).ka (kids.getD k default).kids.length (kids.getD k default).kc] from rfl] at HC
    clear hcs
    generalize (kids.getD k default).tag=dt at *
    generalize (kids.getD k default).ba=dba at *
    generalize (kids.getD k default).bc=dbc at *
    generalize (kids.getD k default).body.length=dbl at *
    generalize (kids.getD k default).ka=dka at *
    generalize (kids.getD k default).kids.length=dkl at *
    generalize (kids.getD k default).kc=dkc at *
    generalize (L.getD k default).enc=y at *
    go_wp2_with fail
    refine HC.out.mono ?_
    rintro e w2 ⟨A2,c2,rfl,hr2,hb2⟩
    have HQ2:Hid (Below w.heap.size w w2):=Lib.hid (HQ.out.trans (hb2.mono HQ.out.size))
    have HB2:=Lib.hid (HB.out.under hb2 HB.out.lt)
    have HM2:=Lib.hid (HM.out.under hb2)
    have HR2:=Lib.hid hr2
    have hyl:y.length≤400000:=HEM.out.2
    have hs2:w.heap.size+1≤w2.heap.size:=HB2.out.lt
    obtain ⟨yl,hyl0⟩:∃ n,y.length=n:=⟨_,rfl⟩
    have HYL:=Lib.hid hyl0
    rw [hyl0] at hyl ⊢
    clear hb2 HC q0 q1 q2 z2 hr2 hyl0
    go_wp2_with (first | (at_builtin;refine wpList_mine (B:=w.heap.size+1) _ rfl (.tmp 16) (.tmp 22) 24 rfl 5 Tryz.underlying24 info_u8 rfl HM2.out HL.out rfl HR2.out HYL.out hs2 (by omega) ?_;intro A5 c5 W5 hm5 hg5 hat5))
    have HQ5:Hid (Below w.heap.size w W5):=Lib.hid (HQ2.out.trans (below_mine HM2.out hg5 HQ2.out.size))
    have HB5:Hid (Holds W5 w.heap.size 32 _):=Lib.hid (holds_mine HB2.out HM2.out hg5)
    have HM5:Hid (Mine 5 W5 (w.heap.size+1) A5 c5 (body ++ Tr.encs (L.take (k+1)))):=Lib.hid (by rw [HEM.out.1];exact hm5)
    clear hm5 hg5 hat5
    go_wp2_with fail
    go_roundw
    case rel=>exact ⟨k+1,_,_,m+yl,by omega,by go_num,rfl,Lib.hid (by rw [HEM.out.1,List.length_append,HL.out,HYL.out]),HM5,HQ5,HB5⟩
    case measure=>simp [intOf];omega
   case neg =>
    obtain rfl:k=n:=by omega
    have hkI:¬ ((k:Int)<(k:Int)):=by omega
    have z0:V.cell? ⟨w.heap.size,0,none⟩=some (.int .u8 (tag:Int)):=HB.out.cell 0
    have HE:Hid (Tr.encs (L.take k)=Tr.encs L):=Lib.hid (by rw [List.take_of_length_le (by have:=HLN.out;omega)])
    have HL2:Hid ((body ++ Tr.encs L).length=m):=Lib.hid (by have:=HL.out;rw [HE.out] at this;exact this)
    have HM2:Hid (Mine 5 V (w.heap.size+1) A' c' (body ++ Tr.encs L)):=Lib.hid (by have:=HM.out;rw [HE.out] at this;exact this)
    have HENC2:Hid ((Tr.mk tag body L).enc=[tag] ++ lenB m ++ (body ++ Tr.encs L)):=Lib.hid (by
     have h:=HL2.out
     rw [List.length_append,HBL.out] at h
     rw [HENC.out,h])
    clear HL HM HENC HE
    have HBV:Hid (w.heap.size+1≤V.heap.size):=Lib.hid HB.out.lt
    have HVA:Hid (V.heap.size≤(V.drew.alloc (.cells #[.int .u8 (tag:Int)] 5)).heap.size):=Lib.hid (by simp)
    have HZV:Hid (V.cell? ⟨w.heap.size,0,none⟩=some (.int .u8 (tag:Int))):=Lib.hid z0
    have HSA:Hid ((V.drew.alloc (.cells #[.int .u8 (tag:Int)] 5)).cell? ⟨w.heap.size,0,none⟩=some (.int .u8 (tag:Int))):=Lib.hid ((World.cell?_alloc_past _ _ _ HBV.out).trans z0)
    have HMA:Hid (Mine 5 (V.drew.alloc (.cells #[.int .u8 (tag:Int)] 5)) (w.heap.size+1) (some ⟨V.heap.size,0,none⟩) 1 [tag]):=Lib.hid (Mine.fresh1 V.drew _ tag HBV.out)
    have HMB:Hid (Mine 5 (V.drew.alloc (.cells #[.int .u8 (tag:Int)] 5)) (w.heap.size+1) A' c' (body ++ Tr.encs L)):=Lib.hid ((HM2.out.drewN 1).alloc _)
    have HQA:Hid (Below w.heap.size w (V.drew.alloc (.cells #[.int .u8 (tag:Int)] 5))):=Lib.hid (HQ.out.drew.alloc HQ.out.size _)
    have HLBA:=Lib.hid (length'_any (V.drew.alloc (.cells #[.int .u8 (tag:Int)] 5)) m (by omega))
    have HLBB:=Lib.hid (length'_any V.drew m (by omega))
    have HLL:Hid ((lenB m).length≤7):=Lib.hid (lenB_len m)
    go_wp2_with fail
    refine wp_region_noPanic ?_
    refine wp_region_held_drew (S:=fun W=>W.cell? ⟨w.heap.size,0,none⟩=some (.int .u8 (tag:Int))) (by kernel_rfl) (HZV.out) (fun hHeld=>?_)
    refine wpAnyH_take (i:=0) (oi:={ dst:=some 24,op:=Op.fieldAddr 32 (Operand.tmp 1) 0,type:=0,pos:=_,after:=_,guard:=none }) (v:=?_) rfl (by kernel_rfl) (by kernel_rfl) (by kernel_rfl) (fun _ _ _ h=>h) (Or.inl ⟨by rfl,?_⟩) hHeld ?_
    rotate_left 1
    ·(intro W hW;(try dsimp only at hW);go_simp;try with_reducible rfl)
    try simp only [Act.put,List.setIfInBounds_toArray,List.set_cons_zero,List.set_cons_succ]
    refine wpAnyH_take (i:=1) (oi:={ dst:=some 25,op:=Op.load 5 (Operand.tmp 24),type:=5,pos:=_,after:=_,guard:=none }) (v:=?_) rfl (by kernel_rfl) (by kernel_rfl) (by kernel_rfl) (fun _ _ _ h=>h) (Or.inl ⟨by rfl,?_⟩) hHeld ?_
    rotate_left 1
    ·(intro W hW;(try dsimp only at hW);go_simp;try with_reducible rfl)
    try simp only [Act.put,List.setIfInBounds_toArray,List.set_cons_zero,List.set_cons_succ]
    refine wpAnyH_take (i:=3) (oi:={ dst:=some 27,op:=Op.move (Operand.tmp 3),type:=24,pos:=_,after:=_,guard:=none }) (v:=?_) rfl (by kernel_rfl) (by kernel_rfl) (by kernel_rfl) (fun _ _ _ h=>h) (Or.inl ⟨by rfl,?_⟩) hHeld ?_
    rotate_left 1
    ·(intro W hW;(try dsimp only at hW);go_simp;try with_reducible rfl)
    try simp only [Act.put,List.setIfInBounds_toArray,List.set_cons_zero,List.set_cons_succ]
    refine wpAnyH_take (i:=4) (oi:={ dst:=some 28,op:=Op.call { callee:=Callee.builtin Builtin.len,args:=#[Operand.tmp 27],argTypes:=#[24] },type:=3,pos:=_,after:=_,guard:=none }) (v:=?_) rfl (by kernel_rfl) (by kernel_rfl) (by kernel_rfl) (fun _ _ _ h=>h) (Or.inl ⟨by rfl,?_⟩) hHeld ?_
    rotate_left 1
    ·(intro W hW;(try dsimp only at hW);go_simp;try with_reducible rfl)
    try simp only [Act.put,List.setIfInBounds_toArray,List.set_cons_zero,List.set_cons_succ]
    refine wpAnyH_take (i:=7) (oi:={ dst:=some 31,op:=Op.move (Operand.tmp 3),type:=24,pos:=_,after:=_,guard:=none }) (v:=?_) rfl (by kernel_rfl) (by kernel_rfl) (by kernel_rfl) (fun _ _ _ h=>h) (Or.inl ⟨by rfl,?_⟩) hHeld ?_
    rotate_left 1
    ·(intro W hW;(try dsimp only at hW);go_simp;try with_reducible rfl)
    try simp only [Act.put,List.setIfInBounds_toArray,List.set_cons_zero,List.set_cons_succ]
    refine wpAnyH_ready (rs:=[2,5]) (by kernel_rfl) (by simp) ?_
    refine AllReadyH.cons (o:={ dst:=some 26,op:=Op.buildSlice 24 1 #[(0,Operand.tmp 25)],type:=24,pos:=_,after:=_,guard:=none }) rfl (fun K hK=>?_) ?_
    ·go_simp
     refine hK.out _ _ (HSA.out) (fun hHeld=>?_)
     clear hK K
     try simp only [Act.put,List.setIfInBounds_toArray,List.set_cons_zero,List.set_cons_succ]
     refine wpAnyH_ready (rs:=[5]) (by kernel_rfl) (by simp) ?_
     refine AllReadyH.cons (o:={ dst:=some 29,op:=Op.call { callee:=Callee.value (Operand.func 117),args:=#[Operand.tmp 28],argTypes:=#[3] },type:=24,pos:=_,after:=_,guard:=none }) rfl (fun K hK=>?_) AllReadyH.nil
     go_simp
     refine HLBA.out.mono ?_
     rintro e w7 ⟨A7,c7,rfl,hm7,hb7⟩
     have HM7:Hid (Mine 5 w7 (w.heap.size+1) (some ⟨V.heap.size,0,none⟩) 1 [tag]):=Lib.hid (HMA.out.under hb7)
     have HR7:Hid (Rd .u8 w7 w7.heap.size A7 c7 (lenB m)):=Lib.hid hm7.rd
     have HM8:Hid (Mine 5 w7 (w.heap.size+1) A' c' (body ++ Tr.encs L)):=Lib.hid (HMB.out.under hb7)
     have HQ7:Hid (Below w.heap.size w w7):=Lib.hid (HQA.out.trans (hb7.mono HQA.out.size))
     have HS7:Hid (w.heap.size+1≤w7.heap.size):=Lib.hid (Nat.le_trans (Nat.le_trans HBV.out HVA.out) hb7.size)
     have HAN7:Hid (∀ g,blk_of A'=some g→g≠V.heap.size):=Lib.hid fun g hg=>by have:=(HM2.out.block hg).2;omega
     have HZ7:Hid (w7.cell? ⟨w.heap.size,0,none⟩=some (.int .u8 (tag:Int))):=Lib.hid ((hb7.cell (p:=⟨w.heap.size,0,none⟩) (Nat.lt_of_lt_of_le HBV.out HVA.out)).trans HSA.out)
     clear hb7 hm7
     go_simp
     refine hK.out _ _ (HZ7.out) (fun hHeld=>?_)
     clear hK K
     try simp only [Act.put,List.setIfInBounds_toArray,List.set_cons_zero,List.set_cons_succ]
     refine wpAnyH_ready (rs:=[6]) (by kernel_rfl) (by simp) ?_
     refine AllReadyH.cons (o:={ dst:=some 30,op:=Op.call { callee:=Callee.builtin Builtin.append,args:=#[Operand.tmp 26,Operand.tmp 29],argTypes:=#[24,24] },type:=24,pos:=_,after:=_,guard:=none }) rfl (fun K hK=>?_) AllReadyH.nil
     refine step_mine (B:=w.heap.size+1) _ rfl (.tmp 26) (.tmp 29) 24 rfl 5 rfl Tryz.underlying24 info_u8 rfl HM7.out rfl rfl HR7.out rfl HS7.out (by have:=HLL.out;omega) ?_
     intro A8 c8 w8 hm8 hg8
     have HM9:Hid (Mine 5 w8 (w.heap.size+1) A8 c8 ([tag] ++ lenB m)):=Lib.hid hm8
     have HR9:Hid (Rd .u8 w8 w8.heap.size A' c' (body ++ Tr.encs L)):=Lib.hid (HM8.out.keep fun g hg=>hg8.block g (HM8.out.block hg).2 (fun e=>by simp [blk_of] at e;exact HAN7.out g hg e)).rd
     have HQ9:Hid (Below w.heap.size w w8):=Lib.hid (HQ7.out.trans (below_mine HM7.out hg8 HQ7.out.size))
     have HS9:Hid (w.heap.size+1≤w8.heap.size):=Lib.hid (Nat.le_trans HS7.out hg8.size)
     have HZ9:Hid (w8.cell? ⟨w.heap.size,0,none⟩=some (.int .u8 (tag:Int))):=Lib.hid ((below_blk (B:=w.heap.size+1) hg8 HS7.out (fun g hg=>(HM7.out.block hg).1) |>.cell (p:=⟨w.heap.size,0,none⟩) (Nat.lt_succ_self _)).trans HZ7.out)
     have HL9:Hid (([tag] ++ lenB m).length=1+(lenB m).length):=Lib.hid (by rw [List.length_append];rfl)
     clear hm8 hg8
     refine hK.out _ _ (HZ9.out) (fun hHeld=>?_)
     clear hK K
     try simp only [Act.put,List.setIfInBounds_toArray,List.set_cons_zero,List.set_cons_succ]
     refine wpAnyH_ready (rs:=[8]) (by kernel_rfl) (by simp) ?_
     refine AllReadyH.cons (o:={ dst:=some 32,op:=Op.call { callee:=Callee.builtin Builtin.append,args:=#[Operand.tmp 30,Operand.tmp 31],argTypes:=#[24,24] },type:=24,pos:=_,after:=_,guard:=none }) rfl (fun K hK=>?_) AllReadyH.nil
     refine step_mine (B:=w.heap.size+1) _ rfl (.tmp 30) (.tmp 31) 24 rfl 5 rfl Tryz.underlying24 info_u8 rfl HM9.out HL9.out rfl HR9.out HL2.out HS9.out (by have:=HLL.out;omega) ?_
     intro A10 c10 w10 hm10 hg10
     have HM11:Hid (Mine 5 w10 (w.heap.size+1) A10 c10 ([tag] ++ lenB m ++ (body ++ Tr.encs L))):=Lib.hid hm10
     have HQ11:Hid (Below w.heap.size w w10):=Lib.hid (HQ9.out.trans (below_mine HM9.out hg10 HQ9.out.size))
     have HZ11:Hid (w10.cell? ⟨w.heap.size,0,none⟩=some (.int .u8 (tag:Int))):=Lib.hid ((below_blk (B:=w.heap.size+1) hg10 HS9.out (fun g hg=>(HM9.out.block hg).1) |>.cell (p:=⟨w.heap.size,0,none⟩) (Nat.lt_succ_self _)).trans HZ9.out)
     clear hm10 hg10
     refine hK.out _ _ (HZ11.out) (fun hHeld=>?_)
     clear hK K
     try simp only [Act.put,List.setIfInBounds_toArray,List.set_cons_zero,List.set_cons_succ]
     refine wpAnyH_take (i:=9) (oi:={ dst:=some 2,op:=Op.assign (Operand.tmp 32),type:=24,pos:=_,after:=_,guard:=none }) (v:=?_) rfl (by kernel_rfl) (by kernel_rfl) (by kernel_rfl) (fun _ _ _ h=>h) (Or.inl ⟨by rfl,?_⟩) hHeld ?_
     rotate_left 1
     ·(intro W hW;(try dsimp only at hW);go_simp;try with_reducible rfl)
     try simp only [Act.put,List.setIfInBounds_toArray,List.set_cons_zero,List.set_cons_succ]
     refine wpAnyH_done (by kernel_rfl) ?_ _
     refine NoPanic.normal ?_
     go_wp2_with fail
     go_ret
     exact ⟨_,_,by rw [HENC2.out,List.length_append,List.length_append,HL2.out];rfl,by rw [HENC2.out];exact HM11.out.less (Nat.le_succ _),HQ11.out⟩
    refine AllReadyH.cons (o:={ dst:=some 29,op:=Op.call { callee:=Callee.value (Operand.func 117),args:=#[Operand.tmp 28],argTypes:=#[3] },type:=24,pos:=_,after:=_,guard:=none }) rfl (fun K hK=>?_) AllReadyH.nil
    go_simp
    refine HLBB.out.mono ?_
    rintro e w7 ⟨A7,c7,rfl,hm7,hb7⟩
    have HM6:Hid (Mine 5 w7 (w.heap.size+1) A' c' (body ++ Tr.encs L)):=Lib.hid (Mine.under (w:=V.drew) (HM2.out.drewN 1) hb7)
    have HR6:Hid (Mine 5 w7 V.heap.size A7 c7 (lenB m)):=Lib.hid hm7
    have HQ6:Hid (Below w.heap.size w w7):=Lib.hid (HQ.out.drew.trans (hb7.mono HQ.out.size))
    have HS6:Hid (w.heap.size+1≤w7.heap.size):=Lib.hid (Nat.le_trans HBV.out hb7.size)
    have HZ6:Hid (w7.cell? ⟨w.heap.size,0,none⟩=some (.int .u8 (tag:Int))):=Lib.hid ((hb7.cell (p:=⟨w.heap.size,0,none⟩) HBV.out).trans HZV.out)
    clear hb7 hm7
    go_simp
    refine hK.out _ _ (HZ6.out) (fun hHeld=>?_)
    clear hK K
    try simp only [Act.put,List.setIfInBounds_toArray,List.set_cons_zero,List.set_cons_succ]
    refine wpAnyH_ready (rs:=[2]) (by kernel_rfl) (by simp) ?_
    refine AllReadyH.cons (o:={ dst:=some 26,op:=Op.buildSlice 24 1 #[(0,Operand.tmp 25)],type:=24,pos:=_,after:=_,guard:=none }) rfl (fun K hK=>?_) AllReadyH.nil
    have HM7:Hid (Mine 5 (w7.alloc (.cells #[.int .u8 (tag:Int)] 5)) (w.heap.size+1) (some ⟨w7.heap.size,0,none⟩) 1 [tag]):=Lib.hid (Mine.fresh1 w7 _ tag HS6.out)
    have HR7:Hid (Rd .u8 (w7.alloc (.cells #[.int .u8 (tag:Int)] 5)) (w7.alloc (.cells #[.int .u8 (tag:Int)] 5)).heap.size A7 c7 (lenB m)):=Lib.hid (HR6.out.alloc _).rd
    have HM8:Hid (Mine 5 (w7.alloc (.cells #[.int .u8 (tag:Int)] 5)) (w.heap.size+1) A' c' (body ++ Tr.encs L)):=Lib.hid (HM6.out.alloc _)
    have HQ7:Hid (Below w.heap.size w (w7.alloc (.cells #[.int .u8 (tag:Int)] 5))):=Lib.hid (HQ6.out.alloc HQ6.out.size _)
    have HS7:Hid (w.heap.size+1≤(w7.alloc (.cells #[.int .u8 (tag:Int)] 5)).heap.size):=Lib.hid (by have:=HS6.out;simp;omega)
    have HAN7:Hid (∀ g,blk_of A'=some g→g≠w7.heap.size):=Lib.hid fun g hg=>by have:=(HM6.out.block hg).2;omega
    have HZ7:Hid ((w7.alloc (.cells #[.int .u8 (tag:Int)] 5)).cell? ⟨w.heap.size,0,none⟩=some (.int .u8 (tag:Int))):=Lib.hid ((World.cell?_alloc_past _ _ _ HS6.out).trans HZ6.out)
    go_simp
    refine hK.out _ _ (HZ7.out) (fun hHeld=>?_)
    clear hK K
    try simp only [Act.put,List.setIfInBounds_toArray,List.set_cons_zero,List.set_cons_succ]
    refine wpAnyH_ready (rs:=[6]) (by kernel_rfl) (by simp) ?_
    refine AllReadyH.cons (o:={ dst:=some 30,op:=Op.call { callee:=Callee.builtin Builtin.append,args:=#[Operand.tmp 26,Operand.tmp 29],argTypes:=#[24,24] },type:=24,pos:=_,after:=_,guard:=none }) rfl (fun K hK=>?_) AllReadyH.nil
    refine step_mine (B:=w.heap.size+1) _ rfl (.tmp 26) (.tmp 29) 24 rfl 5 rfl Tryz.underlying24 info_u8 rfl HM7.out rfl rfl HR7.out rfl HS7.out (by have:=HLL.out;omega) ?_
    intro A8 c8 w8 hm8 hg8
    have HM9:Hid (Mine 5 w8 (w.heap.size+1) A8 c8 ([tag] ++ lenB m)):=Lib.hid hm8
    have HR9:Hid (Rd .u8 w8 w8.heap.size A' c' (body ++ Tr.encs L)):=Lib.hid (HM8.out.keep fun g hg=>hg8.block g (HM8.out.block hg).2 (fun e=>by simp [blk_of] at e;exact HAN7.out g hg e)).rd
    have HQ9:Hid (Below w.heap.size w w8):=Lib.hid (HQ7.out.trans (below_mine HM7.out hg8 HQ7.out.size))
    have HS9:Hid (w.heap.size+1≤w8.heap.size):=Lib.hid (Nat.le_trans HS7.out hg8.size)
    have HZ9:Hid (w8.cell? ⟨w.heap.size,0,none⟩=some (.int .u8 (tag:Int))):=Lib.hid ((below_blk (B:=w.heap.size+1) hg8 HS7.out (fun g hg=>(HM7.out.block hg).1) |>.cell (p:=⟨w.heap.size,0,none⟩) (Nat.lt_succ_self _)).trans HZ7.out)
    have HL9:Hid (([tag] ++ lenB m).length=1+(lenB m).length):=Lib.hid (by rw [List.length_append];rfl)
    clear hm8 hg8
    refine hK.out _ _ (HZ9.out) (fun hHeld=>?_)
    clear hK K
    try simp only [Act.put,List.setIfInBounds_toArray,List.set_cons_zero,List.set_cons_succ]
    refine wpAnyH_ready (rs:=[8]) (by kernel_rfl) (by simp) ?_
    refine AllReadyH.cons (o:={ dst:=some 32,op:=Op.call { callee:=Callee.builtin Builtin.append,args:=#[Operand.tmp 30,Operand.tmp 31],argTypes:=#[24,24] },type:=24,pos:=_,after:=_,guard:=none }) rfl (fun K hK=>?_) AllReadyH.nil
    refine step_mine (B:=w.heap.size+1) _ rfl (.tmp 30) (.tmp 31) 24 rfl 5 rfl Tryz.underlying24 info_u8 rfl HM9.out HL9.out rfl HR9.out HL2.out HS9.out (by have:=HLL.out;omega) ?_
    intro A10 c10 w10 hm10 hg10
    have HM11:Hid (Mine 5 w10 (w.heap.size+1) A10 c10 ([tag] ++ lenB m ++ (body ++ Tr.encs L))):=Lib.hid hm10
    have HQ11:Hid (Below w.heap.size w w10):=Lib.hid (HQ9.out.trans (below_mine HM9.out hg10 HQ9.out.size))
    have HZ11:Hid (w10.cell? ⟨w.heap.size,0,none⟩=some (.int .u8 (tag:Int))):=Lib.hid ((below_blk (B:=w.heap.size+1) hg10 HS9.out (fun g hg=>(HM9.out.block hg).1) |>.cell (p:=⟨w.heap.size,0,none⟩) (Nat.lt_succ_self _)).trans HZ9.out)
    clear hm10 hg10
    refine hK.out _ _ (HZ11.out) (fun hHeld=>?_)
    clear hK K
    try simp only [Act.put,List.setIfInBounds_toArray,List.set_cons_zero,List.set_cons_succ]
    refine wpAnyH_take (i:=9) (oi:={ dst:=some 2,op:=Op.assign (Operand.tmp 32),type:=24,pos:=_,after:=_,guard:=none }) (v:=?_) rfl (by kernel_rfl) (by kernel_rfl) (by kernel_rfl) (fun _ _ _ h=>h) (Or.inl ⟨by rfl,?_⟩) hHeld ?_
    rotate_left 1
    ·(intro W hW;(try dsimp only at hW);go_simp;try with_reducible rfl)
    try simp only [Act.put,List.setIfInBounds_toArray,List.set_cons_zero,List.set_cons_succ]
    refine wpAnyH_done (by kernel_rfl) ?_ _
    refine NoPanic.normal ?_
    go_wp2_with fail
    go_ret
    exact ⟨_,_,by rw [HENC2.out,List.length_append,List.length_append,HL2.out];rfl,by rw [HENC2.out];exact HM11.out.less (Nat.le_succ _),HQ11.out⟩
theorem laid_any (t:Lt) (w:World) (B:Nat) (hr:TrAt w B t) (hB:B≤w.heap.size) (hmx:t.t.enc.length≤400000) :
  Calls Tryz.prog 79 #[t.val] w fun e w'=>∃ A c,e = .returned (.slice A t.t.enc.length c)∧Mine 5 w' w.heap.size A c t.t.enc∧Below w.heap.size w w':=laid_N (t.sz+1) t w B (Nat.lt_succ_self _) hr hB hmx
end Go.Proofs.YtcibjcgipfpniaaGreatDoor
